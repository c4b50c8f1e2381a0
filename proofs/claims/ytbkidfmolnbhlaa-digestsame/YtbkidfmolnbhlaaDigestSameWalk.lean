/- The walk of DigestSame. -/
import Derived.Test.YtbkidfmolnbhlaaDigLives
namespace Go.Proofs.Ytbkidfmolnbhlaa
open Go.RowKit
set_option linter.unusedVariables false
set_option maxRecDepth 100000

/-- A row that lies at the beginning of a block. -/
theorem heap_arg {w : World} {g : Nat} {rs m : List Int} (h : w.heap[g]? = some (.cells (bytesOf (rs ++ m)).toArray 5 (0, 0))) (c : Nat) (hc : rs.length ≤ c) (hm : c ≤ maxLen) : RowAt w (.slice (some ⟨g, 0, none⟩) rs.length c) rs := by
  refine Or.inr ⟨g, 0, c, rfl, hc, hm, fun j u hj => ?_⟩
  have hl : j < rs.length := by
    have := (List.getElem?_eq_some_iff.mp hj).1
    simpa [bytesOf] using this
  simp only [World.cell?, h, Nat.zero_add]
  simp only [List.getElem?_toArray, bytesOf_append]
  rw [List.getElem?_append_left (by simpa [length_bytesOf] using hl)]
  exact hj

set_option maxHeartbeats 2000000 in
theorem same_long (va vb : Value) (xs ys : List Int) (w : World) (ha : ArgAt w va xs) (hb : ArgAt w vb ys) (h : 1048576 < xs.length ∨ 1048576 < ys.length) :
    Calls Try.prog 4 #[va, vb] w fun e w' => e = .returned (.bool true) ∧ Touch (fun _ => False) w w' := by
  obtain ⟨aa, ac, rfl, -⟩ := ha.form
  obtain ⟨ba, bc, rfl, -⟩ := hb.form
  by_cases h1 : 1048576 < xs.length
  · have h' : (1048576 : Int) < (xs.length : Int) := by omega
    clear ha hb h h1
    go_enter Try.func4, Try.ntmps4
    go_wp2_with fail
    refine (lives_any _).mono ?_
    rintro e w1 ⟨rfl, t1⟩
    go_wp2
    go_ret
    exact ⟨rfl, t1⟩
  · have h' : ¬ (1048576 : Int) < (xs.length : Int) := by omega
    have h2 : (1048576 : Int) < (ys.length : Int) := by omega
    clear ha hb h h1
    go_enter Try.func4, Try.ntmps4
    go_wp2_with fail
    refine (lives_any _).mono ?_
    rintro e w1 ⟨rfl, t1⟩
    go_wp2
    go_ret
    exact ⟨rfl, t1⟩

set_option maxHeartbeats 4000000 in
theorem same_short (va vb : Value) (xs ys : List Int) (w : World) (ha : ArgAt w va xs) (hb : ArgAt w vb ys) (hx : ∀ x ∈ xs, 0 ≤ x ∧ x < 256) (hy : ∀ x ∈ ys, 0 ≤ x ∧ x < 256) (hl1 : xs.length ≤ 1048576) (hl2 : ys.length ≤ 1048576) :
    Calls Try.prog 4 #[va, vb] w fun e w' => e = .returned (.bool true) ∧ Touch (fun _ => False) w w' := by
  have HW1 := wide_any va xs w ha hx (by omega)
  have HW2 := fun w' h => wide_any vb ys w' h hy (by omega)
  have HS1 := fun v1 v2 w' h1 h2 => same_any v1 v2 xs ys w' h1 h2 hx hy
  have HS2 := fun v1 v2 w' h1 h2 => same_any v1 v2 xs xs w' h1 h2 hx hx
  have HS3 := fun v1 v2 w' h1 h2 => rsame_any v1 v2 xs ys w' h1 h2
  have hd : decide (xs = xs) = true := by simp
  rw [hd] at HS2
  generalize decide (xs = ys) = D at HS1 HS3
  obtain ⟨aa, ac, rfl, -⟩ := ha.form
  obtain ⟨ba, bc, rfl, -⟩ := hb.form
  have h' : ¬ (1048576 : Int) < (xs.length : Int) := by omega
  have h2 : ¬ (1048576 : Int) < (ys.length : Int) := by omega
  have HA : Hid (ArgAt w (.slice aa xs.length ac) xs) := ha
  have HB : Hid (ArgAt w (.slice ba ys.length bc) ys) := hb
  clear ha hb hx hy hd
  go_enter Try.func4, Try.ntmps4
  go_wp2_with fail
  refine HW1.mono ?_
  rintro e w1 ⟨rfl, hh1, t1⟩
  have HH1 : Hid (w1.heap[w.heap.size]? = some (.cells (bytesOf (xs ++ spareMarks xs.length)).toArray 5 (0, 0))) := hh1
  have HT1 : Hid (Touch (fun _ => False) w w1) := t1
  clear HW1 hh1 t1
  go_wp2_with fail
  refine (HW2 w1 (HB.out.keep HT1.out (fun _ _ h => h))).mono ?_
  rintro e w2 ⟨rfl, hh2, t2⟩
  have HX : Hid (∀ w', Touch (fun _ => False) w2 w' → w'.heap[w.heap.size]? = some (.cells (bytesOf (xs ++ spareMarks xs.length)).toArray 5 (0, 0))) := fun w' t => (t2.trans t).heapN HH1.out
  have HX2 : Hid (∀ w', Touch (fun _ => False) w2 w' → RowAt w' (.slice (some ⟨w.heap.size, 0, none⟩) xs.length (xs.length + 64)) xs) := fun w' t => heap_arg ((t2.trans t).heapN HH1.out) _ (by omega) (by unfold maxLen; omega)
  have HY2 : Hid (∀ w', Touch (fun _ => False) w2 w' → RowAt w' (.slice (some ⟨w1.heap.size, 0, none⟩) ys.length (ys.length + 64)) ys) := fun w' t => heap_arg (t.heapN hh2) _ (by omega) (by unfold maxLen; omega)
  have HA2 : Hid (∀ w', Touch (fun _ => False) w2 w' → ArgAt w' (.slice aa xs.length ac) xs) := fun w' t => HA.out.keep (HT1.out.trans (t2.trans t)) (fun _ _ h => h)
  have HB2 : Hid (∀ w', Touch (fun _ => False) w2 w' → ArgAt w' (.slice ba ys.length bc) ys) := fun w' t => HB.out.keep (HT1.out.trans (t2.trans t)) (fun _ _ h => h)
  have HT2 : Hid (Touch (fun _ => False) w w2) := HT1.out.trans t2
  have r2 := Touch.refl (fun _ => False) w2
  clear HW2 hh2 t2 HH1 HT1 HA HB
  go_wp2_with fail
  refine (HS1 _ _ w2 (HX2.out _ r2).arg (HY2.out _ r2).arg).mono ?_
  rintro e w2' ⟨rfl, rfl⟩
  go_wp2_with fail
  refine (HS3 _ _ w2 (HA2.out _ r2) (HB2.out _ r2)).mono ?_
  rintro e w3 ⟨rfl, t3⟩
  have HT3 : Hid (Touch (fun _ => False) w2 w3) := t3
  clear t3 r2 HS1 HS3
  go_wp2_with fail
  refine (HS2 _ _ w3 (HX2.out _ HT3.out).arg (HX2.out _ HT3.out).arg).mono ?_
  rintro e w3' ⟨rfl, rfl⟩
  clear HS2
  go_wp2_with fail
  refine (eq_true _ _ xs _ (HX2.out _ HT3.out) (HA2.out _ HT3.out)).mono ?_
  rintro e w6 ⟨rfl, n6, rfl⟩
  have HT6 : Hid (Touch (fun _ => False) w2 (w3.drewN n6)) := HT3.out.drewN n6
  generalize w3.drewN n6 = w6 at HT6 ⊢
  go_wp2_with fail
  refine (eq_true _ _ ys _ (HY2.out _ HT6.out) (HB2.out _ HT6.out)).mono ?_
  rintro e w7 ⟨rfl, n7, rfl⟩
  have HT7 : Hid (Touch (fun _ => False) w2 (w6.drewN n7)) := HT6.out.drewN n7
  generalize w6.drewN n7 = w7 at HT7 ⊢
  go_wp2_with fail
  refine (spare_any _ xs _ (HX.out _ HT7.out) (by omega)).mono ?_
  rintro e w8 ⟨rfl, rfl⟩
  go_wp2_with fail
  refine (lives_any _).mono ?_
  rintro e w9 ⟨rfl, t9⟩
  go_wp2
  go_ret
  exact ⟨rfl, HT2.out.trans (HT7.out.trans t9)⟩

theorem dsame_any (va : Value) (xs : List Int) (vb : Value) (ys : List Int) (w : World) (ha : ArgAt w va xs) (hx : ∀ x ∈ xs, 0 ≤ x ∧ x < 256) (hb : ArgAt w vb ys) (hy : ∀ x ∈ ys, 0 ≤ x ∧ x < 256) :
    Calls Try.prog 4 #[va, vb] w fun e w' => e = .returned (.bool true) ∧ Touch (fun _ => False) w w' := by
  by_cases h : 1048576 < xs.length ∨ 1048576 < ys.length
  · exact same_long va vb xs ys w ha hb h
  · exact same_short va vb xs ys w ha hb hx hy (by omega) (by omega)
end Go.Proofs.Ytbkidfmolnbhlaa
