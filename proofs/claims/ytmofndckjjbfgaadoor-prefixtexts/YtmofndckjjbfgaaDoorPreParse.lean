/- prefix.Address, prefix.Parse. -/
import Derived.Test.YtmofndckjjbfgaaDoorPreNum
import Derived.Test.YtmofndckjjbfgaaDoorPreText
namespace Go.Proofs.YtmofndckjjbfgaaDoor
open Go.RowKit Go.Sort Go.Lib
set_option linter.unusedVariables false
set_option maxRecDepth 100000

/-- What Address answers. -/
def adrV : Option Nat → Value
  | some v => .tuple #[.int .u32 (v : Int), .int .i64 0]
  | none => .tuple #[.int .u32 0, .int .i64 13]
def rdA (l : List UInt8) : Option Nat := rdN 255 4 l 0
def rdB (l : List UInt8) : Option Nat := rdN 32 1 l 0

theorem numbers_yes (l : List UInt8) (count top v : Nat) (w : World) (hl : l.length ≤ 2147483647) (hc1 : 1 ≤ count) (hc4 : count ≤ 4) (htop : top ≤ 255) (h : rdN top count l 0 = some v) :
    Calls Tryd.prog 44 #[.string ⟨l.toArray⟩, .int .i64 (count : Int), .int .u32 (top : Int)] w fun e w' => e = .returned (.tuple #[.int .u32 (v : Int), .bool true]) ∧ Gr w w' := by
  have := numbers_any l count top w hl hc1 hc4 htop
  rw [h] at this; exact this
theorem numbers_no (l : List UInt8) (count top : Nat) (w : World) (hl : l.length ≤ 2147483647) (hc1 : 1 ≤ count) (hc4 : count ≤ 4) (htop : top ≤ 255) (h : rdN top count l 0 = none) :
    Calls Tryd.prog 44 #[.string ⟨l.toArray⟩, .int .i64 (count : Int), .int .u32 (top : Int)] w fun e w' => e = .returned (.tuple #[.int .u32 0, .bool false]) ∧ Gr w w' := by
  have := numbers_any l count top w hl hc1 hc4 htop
  rw [h] at this; exact this

set_option maxHeartbeats 400000 in
theorem address_any (l : List UInt8) (w : World) (hl : l.length ≤ 2147483647) :
    Calls Tryd.prog 30 #[.string ⟨l.toArray⟩] w fun e w' => e = .returned (adrV (rdA l)) ∧ Gr w w' := by
  have HL : Hid _ := hl
  clear hl
  cases h : rdA l with
  | none =>
    have HH : Hid _ := h
    clear h
    go_enter Tryd.func30, Tryd.ntmps30
    go_wp2_with (go_at_call 44; refine Calls.mono (numbers_no l 4 255 _ HL.out (by omega) (by omega) (by omega) HH.out) ?_; rintro e w' ⟨rfl, hg⟩)
    go_ret2
    exact ⟨rfl, hg⟩
  | some v =>
    have HH : Hid _ := h
    clear h
    go_enter Tryd.func30, Tryd.ntmps30
    go_wp2_with (go_at_call 44; refine Calls.mono (numbers_yes l 4 255 v _ HL.out (by omega) (by omega) (by omega) HH.out) ?_; rintro e w' ⟨rfl, hg⟩)
    go_ret2
    exact ⟨rfl, hg⟩
theorem address_yes (l : List UInt8) (v : Nat) (w : World) (hl : l.length ≤ 2147483647) (h : rdA l = some v) :
    Calls Tryd.prog 30 #[.string ⟨l.toArray⟩] w fun e w' => e = .returned (.tuple #[.int .u32 (v : Int), .int .i64 0]) ∧ Gr w w' := by
  have := address_any l w hl
  rw [h] at this; exact this
theorem address_no (l : List UInt8) (w : World) (hl : l.length ≤ 2147483647) (h : rdA l = none) :
    Calls Tryd.prog 30 #[.string ⟨l.toArray⟩] w fun e w' => e = .returned (.tuple #[.int .u32 0, .int .i64 13]) ∧ Gr w w' := by
  have := address_any l w hl
  rw [h] at this; exact this

/-- What a prefix's text says: an error's number, or an address and bits. -/
inductive PTx where
  | bad
  | notp
  | ok (a n : Nat)
def rdP (l : List UInt8) : PTx :=
  match rdA (cutL 47 l).1, rdB (cutL 47 l).2.1 with
  | some a, some n => if pis a n = true then .ok a n else .notp
  | _, _ => .bad
def parV : PTx → Value
  | .ok a n => .tuple #[.agg #[.int .u32 (a : Int), .int .u8 (n : Int)], .int .i64 0]
  | .notp => .tuple #[.agg #[.int .u32 0, .int .u8 0], .int .i64 12]
  | .bad => .tuple #[.agg #[.int .u32 0, .int .u8 0], .int .i64 13]

theorem rdN_le {top : Nat} (ht : top ≤ 255) : ∀ {k : Nat} {l : List UInt8} {acc v : Nat}, rdN top k l acc = some v → v < (acc + 1) * 256 ^ k
  | 0, l, acc, v, h => by cases h
  | k + 1, l, acc, v, h => by
    rw [rdN_succ] at h
    split at h
    · cases h
    · split at h
      · rename_i hn
        have hd : dval (cutL 46 l).1 ≤ 255 := by
          simp only [isNum, decide_eq_true_eq] at hn; omega
        split at h
        · rename_i hk; subst hk
          cases h
          rw [Nat.pow_one]; omega
        · have := rdN_le ht h
          rw [Nat.pow_succ, Nat.mul_comm (256 ^ k), ← Nat.mul_assoc]
          have h2 : (acc * 256 + dval (cutL 46 l).1 + 1) * 256 ^ k ≤ (acc + 1) * 256 * 256 ^ k := Nat.mul_le_mul_right _ (by omega)
          omega
      · cases h
theorem rdA_lt {l : List UInt8} {v : Nat} (h : rdA l = some v) : v < 4294967296 := by
  have := rdN_le (by omega) h
  omega
theorem rdB_le {l : List UInt8} {v : Nat} (h : rdB l = some v) : v ≤ 32 := by
  unfold rdB at h
  rw [rdN_succ] at h
  split at h
  · cases h
  · split at h
    · rename_i hn
      simp only [isNum, decide_eq_true_eq] at hn
      simp at h; omega
    · cases h

set_option maxHeartbeats 400000 in
theorem parse_any (l : List UInt8) (w : World) (hl : l.length ≤ 2147483647) :
    Calls Tryd.prog 32 #[.string ⟨l.toArray⟩] w fun e w' => e = .returned (parV (rdP l)) ∧ Gr w w' := by
  obtain ⟨hl1, hl2⟩ := cutL_len 47 l
  have hcut := stringsCut_any l 47
  have HC : Hid (∀ w, Calls Tryd.prog 47 #[.string ⟨l.toArray⟩, .string ⟨#[47]⟩] w fun e w' => e = .returned (.tuple #[.string ⟨(cutL 47 l).1.toArray⟩, .string ⟨(cutL 47 l).2.1.toArray⟩, .bool (cutL 47 l).2.2]) ∧ Gr w w') := fun w => hcut w (by omega)
  have HL1 : Hid ((cutL 47 l).1.length ≤ 2147483647) := by show _ ≤ _; omega
  have HL2 : Hid ((cutL 47 l).2.1.length ≤ 2147483647) := by show _ ≤ _; omega
  have hP : rdP l = match rdA (cutL 47 l).1, rdB (cutL 47 l).2.1 with
    | some a, some n => if pis a n = true then .ok a n else .notp
    | _, _ => .bad := rfl
  clear hl hl1 hl2 hcut
  generalize (cutL 47 l).1 = d1 at *
  generalize (cutL 47 l).2.1 = d2 at *
  generalize (cutL 47 l).2.2 = d3 at *
  rw [hP]
  clear hP
  have hn0 : (0 : Int) ≤ 0 := by omega
  cases h1 : rdA d1 with
  | none =>
    have H1 : Hid _ := h1
    clear h1
    cases h2 : rdB d2 with
    | none =>
      have H2 : Hid _ := h2
      clear h2
      go_enter Tryd.func32, Tryd.ntmps32
      go_wp2_with fail
      refine Calls.mono (HC.out _) ?_
      rintro e w1 ⟨rfl, hg1⟩
      go_wp2_with fail
      refine Calls.mono (address_no d1 _ HL1.out H1.out) ?_
      rintro e w2 ⟨rfl, hg2⟩
      go_wp2_with fail
      refine Calls.mono (numbers_no d2 1 32 _ HL2.out (by omega) (by omega) (by omega) H2.out) ?_
      rintro e w3 ⟨rfl, hg3⟩
      have hG := hg1.trans (hg2.trans hg3)
      obtain ⟨⟨k0, k1⟩, k2, k3⟩ := hG.pxf (PxF.new w 0 0 24)
      have HG : Hid (Gr w w3) := (Gr.one _ _).trans hG
      clear hg1 hg2 hg3 hG
      go_wp2_with fail
      refine bodyPost_ret (v := .tuple #[.agg #[.int .u32 0, .int .u8 0], .int .i64 13]) (by simp [results, Tryd.results32, go_sem, *]) rfl ⟨rfl, ((HG.out.setCell (Nat.le_refl _) _).setCell (Nat.le_refl _) _)⟩
    | some n =>
      have H2 : Hid _ := h2
      clear h2
      go_enter Tryd.func32, Tryd.ntmps32
      go_wp2_with fail
      refine Calls.mono (HC.out _) ?_
      rintro e w1 ⟨rfl, hg1⟩
      go_wp2_with fail
      refine Calls.mono (address_no d1 _ HL1.out H1.out) ?_
      rintro e w2 ⟨rfl, hg2⟩
      go_wp2_with fail
      refine Calls.mono (numbers_yes d2 1 32 n _ HL2.out (by omega) (by omega) (by omega) H2.out) ?_
      rintro e w3 ⟨rfl, hg3⟩
      have hG := hg1.trans (hg2.trans hg3)
      obtain ⟨⟨k0, k1⟩, k2, k3⟩ := hG.pxf (PxF.new w 0 0 24)
      have HG : Hid (Gr w w3) := (Gr.one _ _).trans hG
      clear hg1 hg2 hg3 hG
      go_wp2_with fail
      refine bodyPost_ret (v := .tuple #[.agg #[.int .u32 0, .int .u8 0], .int .i64 13]) (by simp [results, Tryd.results32, go_sem, *]) rfl ⟨rfl, ((HG.out.setCell (Nat.le_refl _) _).setCell (Nat.le_refl _) _)⟩
  | some a =>
    have H1 : Hid _ := h1
    have ha : a < 4294967296 := rdA_lt h1
    have HA : Hid _ := ha
    clear h1 ha
    cases h2 : rdB d2 with
    | none =>
      have H2 : Hid _ := h2
      clear h2
      go_enter Tryd.func32, Tryd.ntmps32
      go_wp2_with fail
      refine Calls.mono (HC.out _) ?_
      rintro e w1 ⟨rfl, hg1⟩
      go_wp2_with fail
      refine Calls.mono (address_yes d1 a _ HL1.out H1.out) ?_
      rintro e w2 ⟨rfl, hg2⟩
      go_wp2_with fail
      refine Calls.mono (numbers_no d2 1 32 _ HL2.out (by omega) (by omega) (by omega) H2.out) ?_
      rintro e w3 ⟨rfl, hg3⟩
      have hG := hg1.trans (hg2.trans hg3)
      obtain ⟨⟨k0, k1⟩, k2, k3⟩ := hG.pxf (PxF.new w 0 0 24)
      have HG : Hid (Gr w w3) := (Gr.one _ _).trans hG
      clear hg1 hg2 hg3 hG
      go_wp2_with fail
      refine bodyPost_ret (v := .tuple #[.agg #[.int .u32 0, .int .u8 0], .int .i64 13]) (by simp [results, Tryd.results32, go_sem, *]) rfl ⟨rfl, ((HG.out.setCell (Nat.le_refl _) _).setCell (Nat.le_refl _) _)⟩
    | some n =>
      have H2 : Hid _ := h2
      have hn : n ≤ 32 := rdB_le h2
      have hnI : (n : Int) ≤ 32 := by omega
      clear h2
      by_cases hp : pis a n = true
      · simp only [hp, if_true]
        have HP : Hid _ := hp
        clear hp
        go_enter Tryd.func32, Tryd.ntmps32
        go_wp2_with fail
        refine Calls.mono (HC.out _) ?_
        rintro e w1 ⟨rfl, hg1⟩
        go_wp2_with fail
        refine Calls.mono (address_yes d1 a _ HL1.out H1.out) ?_
        rintro e w2 ⟨rfl, hg2⟩
        go_wp2_with fail
        refine Calls.mono (numbers_yes d2 1 32 n _ HL2.out (by omega) (by omega) (by omega) H2.out) ?_
        rintro e w3 ⟨rfl, hg3⟩
        have hG := hg1.trans (hg2.trans hg3)
        have hF3 := hG.pxf (PxF.new w 0 0 24)
        obtain ⟨⟨k0, k1⟩, k2, k3⟩ := hF3
        have hz3 : w.heap.size < w3.heap.size := by have := hG.size; simp at this; omega
        have HG : Hid (Gr w w3) := (Gr.one _ _).trans hG
        clear hg1 hg2 hg3 hG
        go_wp2_with fail
        refine Calls.mono (check_yes a n _ (by omega) (by omega) (by have := HA.out; omega) HP.out) ?_
        rintro e w4 ⟨rfl, hg4⟩
        obtain ⟨⟨j0, j1⟩, j2, j3⟩ := hg4.pxf ((Gr.one w3 _).pxf ⟨⟨k0, k1⟩, k2, k3⟩)
        obtain ⟨i0, i1⟩ := hg4.px (Px.new w3 a n 24)
        have HG4 : Hid (Gr w w4) := (HG.out.alloc _).trans hg4
        clear hg4 k0 k1 k2 k3
        go_wp2_with fail
        refine bodyPost_ret (v := .tuple #[.agg #[.int .u32 (a : Int), .int .u8 (n : Int)], .int .i64 0]) (by simp [results, Tryd.results32, go_sem, *]) rfl ⟨rfl, ((HG4.out.setCell (Nat.le_refl _) _).setCell (Nat.le_refl _) _)⟩
      · have hp' : pis a n = false := by simpa using hp
        simp only [hp']
        have HP : Hid _ := hp'
        clear hp hp'
        go_enter Tryd.func32, Tryd.ntmps32
        go_wp2_with fail
        refine Calls.mono (HC.out _) ?_
        rintro e w1 ⟨rfl, hg1⟩
        go_wp2_with fail
        refine Calls.mono (address_yes d1 a _ HL1.out H1.out) ?_
        rintro e w2 ⟨rfl, hg2⟩
        go_wp2_with fail
        refine Calls.mono (numbers_yes d2 1 32 n _ HL2.out (by omega) (by omega) (by omega) H2.out) ?_
        rintro e w3 ⟨rfl, hg3⟩
        have hG := hg1.trans (hg2.trans hg3)
        have hF3 := hG.pxf (PxF.new w 0 0 24)
        obtain ⟨⟨k0, k1⟩, k2, k3⟩ := hF3
        have hz3 : w.heap.size < w3.heap.size := by have := hG.size; simp at this; omega
        have HG : Hid (Gr w w3) := (Gr.one _ _).trans hG
        clear hg1 hg2 hg3 hG
        go_wp2_with fail
        refine Calls.mono (check_no a n _ (by omega) (by omega) (by have := HA.out; omega) HP.out) ?_
        rintro e w4 ⟨rfl, hg4⟩
        obtain ⟨⟨j0, j1⟩, j2, j3⟩ := hg4.pxf ((Gr.one w3 _).pxf ⟨⟨k0, k1⟩, k2, k3⟩)
        obtain ⟨i0, i1⟩ := hg4.px (Px.new w3 a n 24)
        have HG4 : Hid (Gr w w4) := (HG.out.alloc _).trans hg4
        clear hg4 k0 k1 k2 k3
        go_wp2_with fail
        refine bodyPost_ret (v := .tuple #[.agg #[.int .u32 0, .int .u8 0], .int .i64 12]) (by simp [results, Tryd.results32, go_sem, *]) rfl ⟨rfl, ((HG4.out.setCell (Nat.le_refl _) _).setCell (Nat.le_refl _) _)⟩
end Go.Proofs.YtmofndckjjbfgaaDoor
