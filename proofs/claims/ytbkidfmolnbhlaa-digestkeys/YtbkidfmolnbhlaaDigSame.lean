/- Contracts: Same, the program's and the document's. -/
import Derived.Test.YtbkidfmolnbhlaaWideB
import Derived.Laws.BytesArg
import Derived.Lib.Bytes
namespace Go.Proofs.Ytbkidfmolnbhlaa
open Go.RowKit
set_option linter.unusedVariables false
set_option maxRecDepth 100000

theorem conv_any {w : World} {v : Value} {rs : List Int} (h : ArgAt w v rs) : (convert 22 9 v).run Try.prog w = .ok (.string (strOfNums rs)) w := by
  have hd : Try.prog.underlying 9 = some .string := Try.underlying9
  by_cases hp : 0 < rs.length
  · have hr := h.row hp
    obtain ⟨va, vc, rfl, _⟩ := h.form
    obtain ⟨ga, oa, rfl⟩ := rowAt_some hr hp
    exact run_convert_bytes_arg (P := Try.prog) w 22 5 Try.underlying22 Try.underlying5 ga oa rs.length vc rs rfl (fun i hi => rowAt_cell hr i hi) _ hd
  · obtain rfl : rs = [] := List.eq_nil_of_length_eq_zero (by omega)
    obtain ⟨va, vc, rfl, _⟩ := h.form
    rw [run_convert_bytes_string w 22 9 5 _ _ vc Try.underlying22 Try.underlying5 hd]
    cases va <;> simp [Conv.bytesToString, loadCells]
    all_goals rfl
theorem nums_inj {xs ys : List Int} (hx : ∀ x ∈ xs, 0 ≤ x ∧ x < 256) (hy : ∀ x ∈ ys, 0 ≤ x ∧ x < 256) (e : Lib.bytesOf xs = Lib.bytesOf ys) : xs = ys := by
  unfold Lib.bytesOf at e
  induction xs generalizing ys with
  | nil => cases ys with
    | nil => rfl
    | cons y ys => simp at e
  | cons x xs ih => cases ys with
    | nil => simp at e
    | cons y ys =>
      simp only [List.map_cons, List.cons.injEq] at e
      have h1 := hx x (by simp)
      have h2 := hy y (by simp)
      have h3 := congrArg UInt8.toNat e.1
      simp only [UInt8.toNat_ofNat'] at h3
      have h4 : x = y := by omega
      rw [h4, ih (fun z hz => hx z (List.mem_cons_of_mem _ hz)) (fun z hz => hy z (List.mem_cons_of_mem _ hz)) e.2]
theorem nums_eq {xs ys : List Int} (hx : ∀ x ∈ xs, 0 ≤ x ∧ x < 256) (hy : ∀ x ∈ ys, 0 ≤ x ∧ x < 256) : ((strOfNums xs).toList == (strOfNums ys).toList) = decide (xs = ys) := by
  rw [Lib.strOfNums_toList, Lib.strOfNums_toList]
  by_cases h : xs = ys
  · subst h; simp
  · have : ¬ Lib.bytesOf xs = Lib.bytesOf ys := fun e => h (nums_inj hx hy e)
    simp [h, this]
theorem equal_any (va vb : Value) (xs ys : List Int) (w : World) (ha : ArgAt w va xs) (hb : ArgAt w vb ys) (hx : ∀ x ∈ xs, 0 ≤ x ∧ x < 256) (hy : ∀ x ∈ ys, 0 ≤ x ∧ x < 256) :
    Calls Try.prog 20 #[va, vb] w fun e w' => e = .returned (.bool (decide (xs = ys))) ∧ w = w' := by
  have h1 := conv_any ha
  have h2 := conv_any hb
  have h3 := nums_eq hx hy
  generalize decide (xs = ys) = D at h3 ⊢
  clear hx hy ha hb
  go_enter Try.func20, Try.ntmps20
  go_wp2
  go_ret
  exact ⟨rfl, rfl⟩
theorem same_any (va vb : Value) (xs ys : List Int) (w : World) (ha : ArgAt w va xs) (hb : ArgAt w vb ys) (hx : ∀ x ∈ xs, 0 ≤ x ∧ x < 256) (hy : ∀ x ∈ ys, 0 ≤ x ∧ x < 256) :
    Calls Try.prog 14 #[va, vb] w fun e w' => e = .returned (.bool (decide (xs = ys))) ∧ w = w' := by
  have HC := equal_any va vb xs ys w ha hb hx hy
  generalize decide (xs = ys) = D at HC ⊢
  clear hx hy ha hb
  go_enter Try.func14, Try.ntmps14
  go_wp2_with fail
  refine HC.mono ?_
  rintro e w1 ⟨rfl, rfl⟩
  go_wp2
  go_ret
  exact ⟨rfl, rfl⟩

def SaR (xs ys : List Int) (w : World) (i : Value) (wr : World) : Prop := ∃ k nd : Nat, k ≤ xs.length ∧ i = .int .i64 k ∧ wr = w.drewN nd ∧ Hid (xs.take k = ys.take k)
theorem rsame_any (va vb : Value) (xs ys : List Int) (w : World) (ha : ArgAt w va xs) (hb : ArgAt w vb ys) :
    Calls Try.prog 15 #[va, vb] w fun e w' => e = .returned (.bool (decide (xs = ys))) ∧ Touch (fun _ => False) w w' := by
  obtain ⟨aa, ca, rfl, hm⟩ := ha.form
  obtain ⟨ab, cb, rfl, _⟩ := hb.form
  unfold maxLen at hm
  by_cases hl : xs.length = ys.length
  · have HA : Hid (ArgAt w (.slice aa xs.length ca) xs) := ha
    have HB : Hid (ArgAt w (.slice ab ys.length cb) ys) := hb
    have HL : Hid (xs.length = ys.length) := hl
    obtain ⟨D, hD⟩ : ∃ D, D = decide (xs = ys) := ⟨_, rfl⟩
    have HD : Hid (D = decide (xs = ys)) := hD
    rw [← hD]
    rw [← hl]
    clear hD ha hb hl
    go_enter Try.func15, Try.ntmps15
    go_wp2
    go_loopw [5] (fun i wr => SaR xs ys w i wr) (fun i _ => xs.length - (intOf i).toNat)
    case atStart => exact ⟨0, 0, Nat.zero_le _, rfl, rfl, by simp [Hid]⟩
    case round =>
      obtain ⟨k, nd, hk, rfl, rfl, HE⟩ := hrel
      by_cases hlt : k < xs.length
      · have hlt2 : k < ys.length := by have := HL.out; omega
        have ha := HA.out.row (by omega)
        have hb := HB.out.row (by omega)
        rw [← HL.out] at hb
        obtain ⟨ga, oa, rfl⟩ := rowAt_some ha (by omega)
        obtain ⟨gb, ob, rfl⟩ := rowAt_some hb (by omega)
        have hca := rowAt_cell ha k hlt
        have hcb := rowAt_cell hb k hlt2
        have HX : Hid (xs.take (k + 1) = xs.take k ++ [xs.getD k 0]) := by
          show _ = _
          rw [List.take_add_one, List.getElem?_eq_getElem hlt]
          simp [List.getD, hlt]
        have HY : Hid (ys.take (k + 1) = ys.take k ++ [ys.getD k 0]) := by
          show _ = _
          rw [List.take_add_one, List.getElem?_eq_getElem hlt2]
          simp [List.getD, hlt2]
        have HN : Hid (xs.getD k 0 ≠ ys.getD k 0 → D = false) := by
          intro h
          rw [HD.out]
          simp
          rintro rfl
          exact h rfl
        generalize xs.getD k 0 = x at hca HX HN
        generalize ys.getD k 0 = y at hcb HY HN
        clear ha hb hlt2
        by_cases hxy : x = y
        · subst hxy
          have HR : Hid (xs.take (k + 1) = ys.take (k + 1)) := by show _ = _; rw [HX.out, HY.out, HE.out]
          go_wp2
          go_quiet (fail)
          go_wp2
          go_roundw
          case rel => exact ⟨k + 1, _, by omega, by go_num, rfl, HR⟩
          case measure => simp [intOf]; omega
        · have HF : Hid (D = false) := HN.out hxy
          have hxy' : (x == y) = false := by simp [hxy]
          clear HN
          go_wp2
          go_quiet (fail)
          go_wp2
          go_ret
          rw [HF.out]
          exact ⟨rfl, ((Touch.refl _ w).drewN nd).drewN _⟩
      · obtain rfl : k = xs.length := by omega
        have HF : Hid (D = true) := by
          show D = true
          rw [HD.out]
          have h1 := HE.out
          rw [List.take_length, HL.out, List.take_length] at h1
          simp [h1]
        go_wp2
        go_ret
        rw [HF.out]
        exact ⟨rfl, (Touch.refl _ w).drewN nd⟩
  · have hne : ((xs.length : Int) == (ys.length : Int)) = false := by simp; omega
    have hd : decide (xs = ys) = false := by
      simp
      rintro rfl
      exact hl rfl
    rw [hd]
    clear ha hb hl hd
    go_enter Try.func15, Try.ntmps15
    go_wp2
    go_ret
    exact ⟨rfl, Touch.refl _ w⟩
end Go.Proofs.Ytbkidfmolnbhlaa
