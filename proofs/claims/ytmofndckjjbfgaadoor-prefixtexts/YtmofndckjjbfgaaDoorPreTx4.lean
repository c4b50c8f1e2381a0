/- The document's Parse. -/
import Derived.Test.YtmofndckjjbfgaaDoorPreTx3
import Derived.Test.YtmofndckjjbfgaaDoorPreRef2
import Derived.Test.YtmofndckjjbfgaaDoorPreAft
namespace Go.Proofs.YtmofndckjjbfgaaDoor
open Go.RowKit
set_option linter.unusedVariables false
set_option maxRecDepth 100000

theorem raddress_yes (l : List UInt8) (v : Nat) (w : World) (hl : l.length ≤ 2147483647) (h : rdA l = some v) :
    Calls Tryd.prog 31 #[.string ⟨l.toArray⟩] w fun e w' => e = .returned (.tuple #[.int .u32 (v : Int), .int .i64 0]) ∧ Gr w w' := by
  have := raddress_any l w hl
  rw [h] at this; exact this
theorem raddress_no (l : List UInt8) (w : World) (hl : l.length ≤ 2147483647) (h : rdA l = none) :
    Calls Tryd.prog 31 #[.string ⟨l.toArray⟩] w fun e w' => e = .returned (.tuple #[.int .u32 0, .int .i64 13]) ∧ Gr w w' := by
  have := raddress_any l w hl
  rw [h] at this; exact this
theorem rnum_yes (l : List UInt8) (n : Nat) (w : World) (hl : l.length ≤ 2147483647) (h : isNum l 32 = true) (hn : dval l = n) :
    Calls Tryd.prog 46 #[.string ⟨l.toArray⟩, .int .i64 32] w fun e w' => e = .returned (.tuple #[.int .i64 (n : Int), .bool true]) ∧ w = w' := by
  refine Calls.mono (number_any l 32 w (by omega) hl) ?_
  rintro e w' ⟨⟨v, rfl, hv⟩, rfl⟩
  rw [hv h, h, hn]; exact ⟨rfl, rfl⟩
theorem rnum_no (l : List UInt8) (w : World) (hl : l.length ≤ 2147483647) (h : isNum l 32 = false) :
    Calls Tryd.prog 46 #[.string ⟨l.toArray⟩, .int .i64 32] w fun e w' => (∃ v : Int, e = .returned (.tuple #[.int .i64 v, .bool false])) ∧ w = w' := by
  refine Calls.mono (number_any l 32 w (by omega) hl) ?_
  rintro e w' ⟨⟨v, rfl, hv⟩, rfl⟩
  rw [h]; exact ⟨⟨v, rfl⟩, rfl⟩

set_option maxHeartbeats 1000000 in
theorem rparse_any (l : List UInt8) (w : World) (hl : l.length ≤ 2147483647) :
    Calls Tryd.prog 33 #[.string ⟨l.toArray⟩] w fun e w' => e = .returned (parV (rdP l)) ∧ Gr w w' := by
  have HL : Hid _ := hl
  have hpl : ∀ p, p ∈ pieces 47 l → p.length ≤ 2147483647 := fun p hp => by have := pieces_len hp; omega
  have hps : 0 < (pieces 47 l).length := List.length_pos_iff.2 (pieces_ne 47 l)
  have hn0 : (0 : Int) ≤ 0 := by omega
  clear hl
  rcases rdP_pieces l with ⟨d1, d2, hP, hR⟩ | ⟨h2, hR⟩
  · have q0 : Hid _ := hpl d1 (by rw [hP]; simp)
    have q1 : Hid _ := hpl d2 (by rw [hP]; simp)
    have HPP : Hid _ := hP
    clear hpl hps hP
    cases h1 : rdA d1 with
    | none =>
      cases h2 : isNum d2 32 with
      | false =>
        have HR : rdP l = .bad := by rw [hR]; simp [h1, h2]
        rw [HR]
        have H1 : Hid _ := h1
        have H2 : Hid _ := h2

        clear hR HR h1 h2 
        go_enter Tryd.func33, Tryd.ntmps33
        go_wp2_with fail
        refine Calls.mono (split_any l 47 _ HL.out) ?_
        rintro e w1 ⟨⟨v, rfl, hown⟩, hg1⟩
        rw [HPP.out] at hown
        obtain ⟨g, cap, rfl, hcell⟩ := split_form hown rfl (by simp)
        have c0 := hcell 0 d1 rfl
        have c1 := hcell 1 d2 rfl
        have HC1 : Hid _ := c1
        have HG1 : Hid (Gr (w.alloc (.cells #[.int .u32 0, .int .u8 0] 24)) w1) := hg1
        simp only [List.length_cons, List.length_nil]
        clear hown hcell hg1 c1
        go_wp2_with fail
        refine Calls.mono (raddress_no d1 _ q0.out H1.out) ?_
        rintro e w2 ⟨rfl, hg2⟩
        have c2 := (hg2.cells.1 g 1 (aft_lt HC1.out)).trans HC1.out
        have hG := HG1.out.trans hg2
        obtain ⟨⟨k0, k1⟩, k2, k3⟩ := hG.pxf (PxF.new w 0 0 24)
        have hz3 : w.heap.size < w2.heap.size := by have := hG.size; simp at this; omega
        have HG : Hid (Gr w w2) := (Gr.one _ _).trans hG
        clear hg2 hG HG1 HC1 c0
        go_wp2_with fail
        refine Calls.mono (rnum_no d2 _ q1.out H2.out) ?_
        rintro e w' ⟨⟨v, rfl⟩, rfl⟩
        go_wp2_with fail
        refine bodyPost_ret (v := .tuple #[.agg #[.int .u32 0, .int .u8 0], .int .i64 13]) (by simp [results, Tryd.results33, go_sem, *]) rfl ⟨rfl, ((HG.out.setCell (Nat.le_refl _) _).setCell (Nat.le_refl _) _)⟩
      | true =>
        have HR : rdP l = .bad := by rw [hR]; simp [h1, h2]
        rw [HR]
        have H1 : Hid _ := h1
        have H2 : Hid _ := h2

        clear hR HR h1 h2 
        go_enter Tryd.func33, Tryd.ntmps33
        go_wp2_with fail
        refine Calls.mono (split_any l 47 _ HL.out) ?_
        rintro e w1 ⟨⟨v, rfl, hown⟩, hg1⟩
        rw [HPP.out] at hown
        obtain ⟨g, cap, rfl, hcell⟩ := split_form hown rfl (by simp)
        have c0 := hcell 0 d1 rfl
        have c1 := hcell 1 d2 rfl
        have HC1 : Hid _ := c1
        have HG1 : Hid (Gr (w.alloc (.cells #[.int .u32 0, .int .u8 0] 24)) w1) := hg1
        simp only [List.length_cons, List.length_nil]
        clear hown hcell hg1 c1
        go_wp2_with fail
        refine Calls.mono (raddress_no d1 _ q0.out H1.out) ?_
        rintro e w2 ⟨rfl, hg2⟩
        have c2 := (hg2.cells.1 g 1 (aft_lt HC1.out)).trans HC1.out
        have hG := HG1.out.trans hg2
        obtain ⟨⟨k0, k1⟩, k2, k3⟩ := hG.pxf (PxF.new w 0 0 24)
        have hz3 : w.heap.size < w2.heap.size := by have := hG.size; simp at this; omega
        have HG : Hid (Gr w w2) := (Gr.one _ _).trans hG
        clear hg2 hG HG1 HC1 c0
        go_wp2_with fail
        refine Calls.mono (rnum_yes d2 _ _ q1.out H2.out rfl) ?_
        rintro e w' ⟨rfl, rfl⟩
        go_wp2_with fail
        refine bodyPost_ret (v := .tuple #[.agg #[.int .u32 0, .int .u8 0], .int .i64 13]) (by simp [results, Tryd.results33, go_sem, *]) rfl ⟨rfl, ((HG.out.setCell (Nat.le_refl _) _).setCell (Nat.le_refl _) _)⟩
    | some a =>
      have HA : Hid _ := rdA_lt h1
      cases h2 : isNum d2 32 with
      | false =>
        have HR : rdP l = .bad := by rw [hR]; simp [h1, h2]
        rw [HR]
        have H1 : Hid _ := h1
        have H2 : Hid _ := h2

        clear hR HR h1 h2 
        go_enter Tryd.func33, Tryd.ntmps33
        go_wp2_with fail
        refine Calls.mono (split_any l 47 _ HL.out) ?_
        rintro e w1 ⟨⟨v, rfl, hown⟩, hg1⟩
        rw [HPP.out] at hown
        obtain ⟨g, cap, rfl, hcell⟩ := split_form hown rfl (by simp)
        have c0 := hcell 0 d1 rfl
        have c1 := hcell 1 d2 rfl
        have HC1 : Hid _ := c1
        have HG1 : Hid (Gr (w.alloc (.cells #[.int .u32 0, .int .u8 0] 24)) w1) := hg1
        simp only [List.length_cons, List.length_nil]
        clear hown hcell hg1 c1
        go_wp2_with fail
        refine Calls.mono (raddress_yes d1 a _ q0.out H1.out) ?_
        rintro e w2 ⟨rfl, hg2⟩
        have c2 := (hg2.cells.1 g 1 (aft_lt HC1.out)).trans HC1.out
        have hG := HG1.out.trans hg2
        obtain ⟨⟨k0, k1⟩, k2, k3⟩ := hG.pxf (PxF.new w 0 0 24)
        have hz3 : w.heap.size < w2.heap.size := by have := hG.size; simp at this; omega
        have HG : Hid (Gr w w2) := (Gr.one _ _).trans hG
        clear hg2 hG HG1 HC1 c0
        go_wp2_with fail
        refine Calls.mono (rnum_no d2 _ q1.out H2.out) ?_
        rintro e w' ⟨⟨v, rfl⟩, rfl⟩
        go_wp2_with fail
        refine bodyPost_ret (v := .tuple #[.agg #[.int .u32 0, .int .u8 0], .int .i64 13]) (by simp [results, Tryd.results33, go_sem, *]) rfl ⟨rfl, ((HG.out.setCell (Nat.le_refl _) _).setCell (Nat.le_refl _) _)⟩
      | true =>
        have hn : dval d2 ≤ 32 := num_le h2
        generalize hv : dval d2 = n at hn hR
        have HV : Hid _ := hv
        have hnI : (n : Int) ≤ 32 := by omega
        clear hv
        cases hp : pis a n with
        | true =>
          have HR : rdP l = .ok a n := by rw [hR]; simp [h1, h2, hp]
          rw [HR]
          have H1 : Hid _ := h1
          have H2 : Hid _ := h2
          have HP : Hid _ := hp
          clear hR HR h1 h2 hp
          go_enter Tryd.func33, Tryd.ntmps33
          go_wp2_with fail
          refine Calls.mono (split_any l 47 _ HL.out) ?_
          rintro e w1 ⟨⟨v, rfl, hown⟩, hg1⟩
          rw [HPP.out] at hown
          obtain ⟨g, cap, rfl, hcell⟩ := split_form hown rfl (by simp)
          have c0 := hcell 0 d1 rfl
          have c1 := hcell 1 d2 rfl
          have HC1 : Hid _ := c1
          have HG1 : Hid (Gr (w.alloc (.cells #[.int .u32 0, .int .u8 0] 24)) w1) := hg1
          simp only [List.length_cons, List.length_nil]
          clear hown hcell hg1 c1
          go_wp2_with fail
          refine Calls.mono (raddress_yes d1 a _ q0.out H1.out) ?_
          rintro e w2 ⟨rfl, hg2⟩
          have c2 := (hg2.cells.1 g 1 (aft_lt HC1.out)).trans HC1.out
          have hG := HG1.out.trans hg2
          obtain ⟨⟨k0, k1⟩, k2, k3⟩ := hG.pxf (PxF.new w 0 0 24)
          have hz3 : w.heap.size < w2.heap.size := by have := hG.size; simp at this; omega
          have HG : Hid (Gr w w2) := (Gr.one _ _).trans hG
          clear hg2 hG HG1 HC1 c0
          go_wp2_with fail
          refine Calls.mono (rnum_yes d2 n _ q1.out H2.out HV.out) ?_
          rintro e w' ⟨rfl, rfl⟩
          go_wp2_with fail
          refine Calls.mono (is_at true a n _ (by omega) (by omega) (by have := HA.out; omega) HP.out) ?_
          rintro e w4 ⟨rfl, hg4⟩
          obtain ⟨⟨j0, j1⟩, j2, j3⟩ := hg4.pxf ((Gr.one w2 _).pxf ⟨⟨k0, k1⟩, k2, k3⟩)
          obtain ⟨i0, i1⟩ := hg4.px (Px.new w2 a n 24)
          have HG4 : Hid (Gr w w4) := (HG.out.alloc _).trans hg4
          clear hg4 k0 k1 k2 k3 c2
          go_wp2_with fail
          refine bodyPost_ret (v := .tuple #[.agg #[.int .u32 (a : Int), .int .u8 (n : Int)], .int .i64 0]) (by simp [results, Tryd.results33, go_sem, *]) rfl ⟨rfl, ((HG4.out.setCell (Nat.le_refl _) _).setCell (Nat.le_refl _) _)⟩
        | false =>
          have HR : rdP l = .notp := by rw [hR]; simp [h1, h2, hp]
          rw [HR]
          have H1 : Hid _ := h1
          have H2 : Hid _ := h2
          have HP : Hid _ := hp
          clear hR HR h1 h2 hp
          go_enter Tryd.func33, Tryd.ntmps33
          go_wp2_with fail
          refine Calls.mono (split_any l 47 _ HL.out) ?_
          rintro e w1 ⟨⟨v, rfl, hown⟩, hg1⟩
          rw [HPP.out] at hown
          obtain ⟨g, cap, rfl, hcell⟩ := split_form hown rfl (by simp)
          have c0 := hcell 0 d1 rfl
          have c1 := hcell 1 d2 rfl
          have HC1 : Hid _ := c1
          have HG1 : Hid (Gr (w.alloc (.cells #[.int .u32 0, .int .u8 0] 24)) w1) := hg1
          simp only [List.length_cons, List.length_nil]
          clear hown hcell hg1 c1
          go_wp2_with fail
          refine Calls.mono (raddress_yes d1 a _ q0.out H1.out) ?_
          rintro e w2 ⟨rfl, hg2⟩
          have c2 := (hg2.cells.1 g 1 (aft_lt HC1.out)).trans HC1.out
          have hG := HG1.out.trans hg2
          obtain ⟨⟨k0, k1⟩, k2, k3⟩ := hG.pxf (PxF.new w 0 0 24)
          have hz3 : w.heap.size < w2.heap.size := by have := hG.size; simp at this; omega
          have HG : Hid (Gr w w2) := (Gr.one _ _).trans hG
          clear hg2 hG HG1 HC1 c0
          go_wp2_with fail
          refine Calls.mono (rnum_yes d2 n _ q1.out H2.out HV.out) ?_
          rintro e w' ⟨rfl, rfl⟩
          go_wp2_with fail
          refine Calls.mono (is_at false a n _ (by omega) (by omega) (by have := HA.out; omega) HP.out) ?_
          rintro e w4 ⟨rfl, hg4⟩
          obtain ⟨⟨j0, j1⟩, j2, j3⟩ := hg4.pxf ((Gr.one w2 _).pxf ⟨⟨k0, k1⟩, k2, k3⟩)
          obtain ⟨i0, i1⟩ := hg4.px (Px.new w2 a n 24)
          have HG4 : Hid (Gr w w4) := (HG.out.alloc _).trans hg4
          clear hg4 k0 k1 k2 k3 c2
          go_wp2_with fail
          refine bodyPost_ret (v := .tuple #[.agg #[.int .u32 0, .int .u8 0], .int .i64 12]) (by simp [results, Tryd.results33, go_sem, *]) rfl ⟨rfl, ((HG4.out.setCell (Nat.le_refl _) _).setCell (Nat.le_refl _) _)⟩
  · rw [hR]
    have h4' : (((pieces 47 l).length : Int) == 2) = false := by simp; omega
    have h4'' : (((pieces 47 l).length : Int) != 2) = true := by simp; omega
    have HPS : Hid _ := hps
    clear hpl hps hR
    go_enter Tryd.func33, Tryd.ntmps33
    go_wp2_with fail
    refine Calls.mono (split_any l 47 _ HL.out) ?_
    rintro e w1 ⟨⟨v, rfl, hown⟩, hg1⟩
    obtain ⟨g, cap, rfl, hcell⟩ := split_form hown rfl HPS.out
    obtain ⟨⟨k0, k1⟩, k2, k3⟩ := hg1.pxf (PxF.new w 0 0 24)
    have HG : Hid (Gr w w1) := (Gr.one _ _).trans hg1
    clear hown hcell hg1
    go_wp2_with fail
    refine bodyPost_ret (v := .tuple #[.agg #[.int .u32 0, .int .u8 0], .int .i64 13]) (by simp [results, Tryd.results33, go_sem, *]) rfl ⟨rfl, ((HG.out.setCell (Nat.le_refl _) _).setCell (Nat.le_refl _) _)⟩
end Go.Proofs.YtmofndckjjbfgaaDoor
