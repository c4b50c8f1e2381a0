/- Contracts of package prefix: masks, making, having, covering. -/
import Derived.Test.YtmofndckjjbfgaaDoorRows
import Derived.Test.YtmofndckjjbfgaaDoorPreMath
import Derived.WalkKit
import Derived.Below
import Derived.Deep.QuietTactic
import Derived.BigQuiet
import Derived.Handy
import Derived.WalkSpells
namespace Go.Proofs.YtmofndckjjbfgaaDoor
open Go.RowKit
set_option linter.unusedVariables false
set_option maxRecDepth 100000

/-- Nothing that was there has turned. -/
def Gr (w w' : World) : Prop := Below w.heap.size w w'
theorem Gr.refl (w : World) : Gr w w := Below.refl _ _
theorem Gr.trans {a b c : World} (h : Gr a b) (k : Gr b c) : Gr a c := Below.trans h (Below.mono k (Below.size h))
theorem Gr.alloc {a w : World} (h : Gr a w) (o : Obj) : Gr a (w.alloc o) := Below.alloc h (Below.size h) o
theorem Gr.drew {a w : World} (h : Gr a w) : Gr a w.drew := Below.drew h
theorem Gr.drewN {a w : World} (h : Gr a w) (n : Nat) : Gr a (w.drewN n) := ⟨h.os, h.tape, h.output, h.size, h.block⟩
theorem Gr.setCell {a w : World} (h : Gr a w) {p : Addr} (hp : a.heap.size ≤ p.block) (u : Value) : Gr a (w.setCell p u) := Below.setCell h hp u
theorem Gr.size {a b : World} (h : Gr a b) : a.heap.size ≤ b.heap.size := Below.size h
theorem Gr.cells {W w1 : World} (h : Gr W w1) : (∀ b o, b < W.heap.size → w1.cell? ⟨b, o, none⟩ = W.cell? ⟨b, o, none⟩) ∧ (∀ b o, b < W.heap.size → w1.frozen? ⟨b, o, none⟩ = W.frozen? ⟨b, o, none⟩) :=
  ⟨fun b o hb => Below.cell (p := ⟨b, o, none⟩) h hb, fun b o hb => Below.frozen (p := ⟨b, o, none⟩) h hb⟩
theorem Gr.one (w : World) (o : Obj) : Gr w (w.alloc o) := (Gr.refl w).alloc o

/-- A prefix lies in block b. -/
def Px (w : World) (b : Nat) (a n : Int) : Prop := w.cell? ⟨b, 0, none⟩ = some (.int .u32 a) ∧ w.cell? ⟨b, 1, none⟩ = some (.int .u8 n)
theorem Px.lt {w : World} {b : Nat} {a n : Int} (h : Px w b a n) : b < w.heap.size := by
  rcases Nat.lt_or_ge b w.heap.size with h' | h'
  · exact h'
  · have := h.1
    simp [World.cell?, Array.getElem?_eq_none h'] at this
theorem Gr.px {w w' : World} (hg : Gr w w') {b : Nat} {a n : Int} (h : Px w b a n) : Px w' b a n :=
  ⟨(hg.cells.1 b 0 h.lt).trans h.1, (hg.cells.1 b 1 h.lt).trans h.2⟩
theorem Px.new (w : World) (a n : Int) (t : TypeId) : Px (w.alloc (.cells #[.int .u32 a, .int .u8 n] t)) w.heap.size a n := ⟨by simp [go_sem], by simp [go_sem]⟩

/-- .. and may be written. -/
def PxF (w : World) (b : Nat) (a n : Int) : Prop := Px w b a n ∧ w.frozen? ⟨b, 0, none⟩ = false ∧ w.frozen? ⟨b, 1, none⟩ = false
theorem Gr.pxf {w w' : World} (hg : Gr w w') {b : Nat} {a n : Int} (h : PxF w b a n) : PxF w' b a n :=
  ⟨hg.px h.1, (hg.cells.2 b 0 h.1.lt).trans h.2.1, (hg.cells.2 b 1 h.1.lt).trans h.2.2⟩
theorem PxF.new (w : World) (a n : Int) (t : TypeId) : PxF (w.alloc (.cells #[.int .u32 a, .int .u8 n] t)) w.heap.size a n := ⟨Px.new w a n t, by simp [go_sem], by simp [go_sem]⟩

theorem ret_int {k : IntKind} {a b : Int} (h : a = b) : Ending.returned (.int k a) = .returned (.int k b) := by rw [h]

theorem mask_eq {n : Int} (h0 : 0 ≤ n) (h1 : n ≤ 32) : 4294967295 * 2 ^ (32 - n).toNat % 4294967296 = pmask n := by
  rw [pmask_le h1]
  show 4294967295 * psz n % 4294967296 = _
  have := psz_pos n; have := psz_le h0
  omega

set_option maxHeartbeats 400000 in
theorem mask_any (n : Int) (w : World) (h0 : 0 ≤ n) :
    Calls Tryd.prog 11 #[.int .u8 n] w fun e w' => e = .returned (.int .u32 (pmask n)) ∧ w = w' := by
  by_cases h1 : n ≤ 32
  · have hm := mask_eq h0 h1
    have H : Hid (4294967295 * 2 ^ (32 - n).toNat % 4294967296 = pmask n) := hm
    clear hm
    go_enter Tryd.func11, Tryd.ntmps11
    go_wp2
    go_ret
    exact ⟨ret_int H.out, rfl⟩
  · have h2 : 32 < n := by omega
    have H : Hid (pmask n = 0) := pmask_gt h2
    clear h1
    go_enter Tryd.func11, Tryd.ntmps11
    go_wp2
    go_ret
    exact ⟨ret_int H.out.symm, rfl⟩

/-- What Make answers. -/
def mkV (a n : Int) : Value := if n ≤ 32 then .tuple #[.agg #[.int .u32 (pcut a n), .int .u8 n], .int .i64 0] else .tuple #[.agg #[.int .u32 0, .int .u8 0], .int .i64 12]
theorem mkV_le {a n : Int} (h : n ≤ 32) : mkV a n = .tuple #[.agg #[.int .u32 (pcut a n), .int .u8 n], .int .i64 0] := if_pos h
theorem mkV_gt {a n : Int} (h : 32 < n) : mkV a n = .tuple #[.agg #[.int .u32 0, .int .u8 0], .int .i64 12] := if_neg (by omega)

set_option maxHeartbeats 400000 in
theorem make_le (a n : Int) (w : World) (h0 : 0 ≤ n) (h1 : n ≤ 32) (ha0 : 0 ≤ a) (ha1 : a < 4294967296) :
    Calls Tryd.prog 9 #[.int .u32 a, .int .u8 n] w fun e w' => e = .returned (.tuple #[.agg #[.int .u32 (pcut a n), .int .u8 n], .int .i64 0]) ∧ Gr w w' := by
  have H : Hid (bits .and .u32 a (pmask n) = pcut a n) := and_mask ha0 ha1 h0 h1
  go_enter Tryd.func9, Tryd.ntmps9
  go_wp2_with (go_at_call 11; refine (mask_any _ _ h0).mono ?_; rintro e w' ⟨rfl, rfl⟩)
  refine bodyPost_ret (v := .tuple #[.agg #[.int .u32 (bits .and .u32 a (pmask n)), .int .u8 n], .int .i64 0]) (by simp [results, Tryd.results9, go_sem]) rfl ⟨by rw [H.out], ?_⟩
  exact Gr.one _ _

set_option maxHeartbeats 400000 in
theorem make_gt (a n : Int) (w : World) (h1 : 32 < n) :
    Calls Tryd.prog 9 #[.int .u32 a, .int .u8 n] w fun e w' => e = .returned (.tuple #[.agg #[.int .u32 0, .int .u8 0], .int .i64 12]) ∧ Gr w w' := by
  go_enter Tryd.func9, Tryd.ntmps9
  go_wp2
  refine bodyPost_ret (v := .tuple #[.agg #[.int .u32 0, .int .u8 0], .int .i64 12]) (by simp [results, Tryd.results9, go_sem]) rfl ⟨rfl, ?_⟩
  exact Gr.one _ _

theorem ret_bool {a b : Bool} (h : a = b) : Ending.returned (.bool a) = .returned (.bool b) := by rw [h]
theorem phas_true {a n x : Int} (h : n ≤ 32) (e : pcut x n = a) : phas a n x = true := phas_iff.2 ⟨h, e⟩
theorem phas_false {a n x : Int} (e : ¬ pcut x n = a) : phas a n x = false := by simp [phas, e]
theorem phas_gt {a n x : Int} (h : 32 < n) : phas a n x = false := by simp [phas]; omega

set_option maxHeartbeats 400000 in
theorem has_any (a n x : Int) (w : World) (h0 : 0 ≤ n) (hx0 : 0 ≤ x) (hx1 : x < 4294967296) :
    Calls Tryd.prog 15 #[.agg #[.int .u32 a, .int .u8 n], .int .u32 x] w fun e w' => e = .returned (.bool (phas a n x)) ∧ Gr w w' := by
  by_cases h1 : n ≤ 32
  · go_enter Tryd.func15, Tryd.ntmps15
    go_wp2_with (go_at_call 9; refine (make_le _ _ _ h0 h1 hx0 hx1).mono ?_; rintro e w' ⟨rfl, hg⟩; obtain ⟨hc, hf⟩ := hg.cells; have hz : w.heap.size < w'.heap.size := by have := hg.size; simp at this; omega)
    · have h : pcut x n = a := by assumption
      go_ret
      exact ⟨ret_bool (phas_true h1 h).symm, ((Gr.one _ _).trans hg).alloc _⟩
    · have h : ¬ pcut x n = a := by assumption
      go_ret
      exact ⟨ret_bool (phas_false h).symm, ((Gr.one _ _).trans hg).alloc _⟩
  · have h2 : 32 < n := by omega
    clear h1
    go_enter Tryd.func15, Tryd.ntmps15
    go_wp2_with (go_at_call 9; refine (make_gt _ _ _ h2).mono ?_; rintro e w' ⟨rfl, hg⟩)
    go_ret
    exact ⟨ret_bool (phas_gt h2).symm, ((Gr.one _ _).trans hg).alloc _⟩

theorem has_yes (a n x : Int) (w : World) (h0 : 0 ≤ n) (hx0 : 0 ≤ x) (hx1 : x < 4294967296) (h : phas a n x = true) :
    Calls Tryd.prog 15 #[.agg #[.int .u32 a, .int .u8 n], .int .u32 x] w fun e w' => e = .returned (.bool true) ∧ Gr w w' := by
  rw [← h]; exact has_any a n x w h0 hx0 hx1
theorem has_no (a n x : Int) (w : World) (h0 : 0 ≤ n) (hx0 : 0 ≤ x) (hx1 : x < 4294967296) (h : phas a n x = false) :
    Calls Tryd.prog 15 #[.agg #[.int .u32 a, .int .u8 n], .int .u32 x] w fun e w' => e = .returned (.bool false) ∧ Gr w w' := by
  rw [← h]; exact has_any a n x w h0 hx0 hx1

set_option maxHeartbeats 400000 in
theorem check_yes (a n : Int) (w : World) (h0 : 0 ≤ n) (hx0 : 0 ≤ a) (hx1 : a < 4294967296) (h : pis a n = true) :
    Calls Tryd.prog 13 #[.agg #[.int .u32 a, .int .u8 n]] w fun e w' => e = .returned (.int .i64 0) ∧ Gr w w' := by
  have h' : phas a n a = true := by rw [phas_self]; exact h
  go_enter Tryd.func13, Tryd.ntmps13
  go_wp2_with (go_at_call 15; refine (has_yes _ _ _ _ h0 hx0 hx1 h').mono ?_; rintro e w' ⟨rfl, hg⟩)
  go_ret
  exact ⟨rfl, (Gr.one _ _).trans hg⟩
set_option maxHeartbeats 400000 in
theorem check_no (a n : Int) (w : World) (h0 : 0 ≤ n) (hx0 : 0 ≤ a) (hx1 : a < 4294967296) (h : pis a n = false) :
    Calls Tryd.prog 13 #[.agg #[.int .u32 a, .int .u8 n]] w fun e w' => e = .returned (.int .i64 12) ∧ Gr w w' := by
  have h' : phas a n a = false := by rw [phas_self]; exact h
  go_enter Tryd.func13, Tryd.ntmps13
  go_wp2_with (go_at_call 15; refine (has_no _ _ _ _ h0 hx0 hx1 h').mono ?_; rintro e w' ⟨rfl, hg⟩)
  go_ret
  exact ⟨rfl, (Gr.one _ _).trans hg⟩

theorem pcov_no1 {a n b m : Int} (h : pis b m = false) : pcov a n b m = false := by simp [pcov, h]
theorem pcov_no2 {a n b m : Int} (h : m < n) : pcov a n b m = false := by simp [pcov]; omega
theorem pcov_yes {a n b m : Int} (h : pis b m = true) (h2 : n ≤ m) : pcov a n b m = phas a n b := by rw [Bool.eq_iff_iff, pcov_iff]; simp [h, h2]

set_option maxHeartbeats 400000 in
theorem covers_any (a n b m : Int) (w : World) (h0 : 0 ≤ n) (hm0 : 0 ≤ m) (hb0 : 0 ≤ b) (hb1 : b < 4294967296) :
    Calls Tryd.prog 17 #[.agg #[.int .u32 a, .int .u8 n], .agg #[.int .u32 b, .int .u8 m]] w fun e w' => e = .returned (.bool (pcov a n b m)) ∧ Gr w w' := by
  have g2 : ∀ o1 o2 w', Gr ((w.alloc o1).alloc o2) w' → Gr w w' := fun o1 o2 w' h => (((Gr.refl w).alloc o1).alloc o2).trans h
  by_cases hb : pis b m = true
  · by_cases hnm : n ≤ m
    · go_enter Tryd.func17, Tryd.ntmps17
      go_wp2_with (first
        | (go_at_call 13; refine (check_yes _ _ _ hm0 hb0 hb1 hb).mono ?_; rintro e w1 ⟨rfl, hg⟩; obtain ⟨hc, hf⟩ := hg.cells)
        | (go_at_call 15; refine (has_any _ _ _ _ h0 hb0 hb1).mono ?_; rintro e w2 ⟨rfl, hg2⟩))
      go_ret
      exact ⟨ret_bool (pcov_yes hb hnm).symm, (g2 _ _ _ hg).trans hg2⟩
    · have hnm' : m < n := by omega
      clear hnm
      go_enter Tryd.func17, Tryd.ntmps17
      go_wp2_with (go_at_call 13; refine (check_yes _ _ _ hm0 hb0 hb1 hb).mono ?_; rintro e w1 ⟨rfl, hg⟩; obtain ⟨hc, hf⟩ := hg.cells)
      go_ret
      exact ⟨ret_bool (pcov_no2 hnm').symm, g2 _ _ _ hg⟩
  · have hb' : pis b m = false := by simpa using hb
    clear hb
    go_enter Tryd.func17, Tryd.ntmps17
    go_wp2_with (go_at_call 13; refine (check_no _ _ _ hm0 hb0 hb1 hb').mono ?_; rintro e w1 ⟨rfl, hg⟩; obtain ⟨hc, hf⟩ := hg.cells)
    go_ret
    exact ⟨ret_bool (pcov_no1 hb').symm, g2 _ _ _ hg⟩
theorem covers_at (c : Bool) (a n b m : Int) (w : World) (h0 : 0 ≤ n) (hm0 : 0 ≤ m) (hb0 : 0 ≤ b) (hb1 : b < 4294967296) (h : pcov a n b m = c) :
    Calls Tryd.prog 17 #[.agg #[.int .u32 a, .int .u8 n], .agg #[.int .u32 b, .int .u8 m]] w fun e w' => e = .returned (.bool c) ∧ Gr w w' := by
  rw [← h]; exact covers_any a n b m w h0 hm0 hb0 hb1

theorem pover_yes {a n b m : Int} (h : pcov a n b m = true) : pover a n b m = true := pover_iff.2 (.inl h)
theorem pover_no {a n b m : Int} (h : pcov a n b m = false) : pover a n b m = pcov b m a n := by rw [Bool.eq_iff_iff, pover_iff]; simp [h]

set_option maxHeartbeats 400000 in
theorem overlap_any (a n b m : Int) (w : World) (h0 : 0 ≤ n) (hm0 : 0 ≤ m) (ha0 : 0 ≤ a) (ha1 : a < 4294967296) (hb0 : 0 ≤ b) (hb1 : b < 4294967296) :
    Calls Tryd.prog 19 #[.agg #[.int .u32 a, .int .u8 n], .agg #[.int .u32 b, .int .u8 m]] w fun e w' => e = .returned (.bool (pover a n b m)) ∧ Gr w w' := by
  have g2 : ∀ o1 o2 w', Gr ((w.alloc o1).alloc o2) w' → Gr w w' := fun o1 o2 w' h => (((Gr.refl w).alloc o1).alloc o2).trans h
  by_cases hb : pcov a n b m = true
  · go_enter Tryd.func19, Tryd.ntmps19
    go_wp2_with fail
    refine (covers_at true _ _ _ _ _ h0 hm0 hb0 hb1 hb).mono ?_
    rintro e w1 ⟨rfl, hg⟩
    obtain ⟨hc, hf⟩ := hg.cells
    go_wp2_with fail
    go_ret
    exact ⟨ret_bool (pover_yes hb).symm, g2 _ _ _ hg⟩
  · have hb' : pcov a n b m = false := by simpa using hb
    clear hb
    go_enter Tryd.func19, Tryd.ntmps19
    go_wp2_with fail
    refine (covers_at false _ _ _ _ _ h0 hm0 hb0 hb1 hb').mono ?_
    rintro e w1 ⟨rfl, hg⟩
    obtain ⟨hc, hf⟩ := hg.cells
    go_wp2_with fail
    refine (covers_any _ _ _ _ _ hm0 h0 ha0 ha1).mono ?_
    rintro e w2 ⟨rfl, hg2⟩
    go_wp2_with fail
    go_ret
    exact ⟨ret_bool (pover_no hb').symm, (g2 _ _ _ hg).trans hg2⟩
end Go.Proofs.YtmofndckjjbfgaaDoor
