/- Ahead of through: padded bytes go by blocks; a row cut in two. -/
import Derived.Test.YthilfealloakdabDigTake
import Derived.Test.YthilfealloakdabDigPad
namespace Go.Proofs.Ythilfealloakdab
open Go.RowKit
set_option linter.unusedVariables false
set_option maxRecDepth 100000

theorem stepN_take (p : List Nat) {i : Nat} (q : Q4) (h : i < 64) : dstepN (p.take 64) i q = dstepN p i q := by
  unfold dstepN
  rw [wordN_take p (whichN_lt h)]
theorem stepsN_take (p : List Nat) (q : Q4) : ∀ n, n ≤ 64 → stepsN (p.take 64) q n = stepsN p q n
  | 0, _ => rfl
  | n + 1, h => by
    show dstepN _ n _ = dstepN _ n _
    rw [stepsN_take p q n (by omega), stepN_take p _ (by omega)]
theorem blockN_take (s : Q4) (p : List Nat) : blockN s (p.take 64) = blockN s p := by
  unfold blockN
  rw [stepsN_take p s 64 (Nat.le_refl _)]
theorem blocksN_append (B : Nat) (s : Q4) (P R : List Nat) (h : P.length = 64 * B) : blocksN B s (P ++ R) = blocksN B s P := by
  induction B generalizing s P with
  | zero => rfl
  | succ B ih =>
    simp only [blocksN]
    have e1 : blockN s (P ++ R) = blockN s P := by
      rw [← blockN_take s (P ++ R), ← blockN_take s P, List.take_append_of_le_length (by omega)]
    have e2 : (P ++ R).drop 64 = P.drop 64 ++ R := List.drop_append_of_le_length (by omega)
    rw [e1, e2]
    exact ih _ _ (by simp; omega)
theorem gapN_add (n B : Nat) : gapN (n + 64 * B) = gapN n := by unfold gapN; omega
theorem length_padX (l : List Nat) (n : Nat) : (padX l n).length = l.length + 9 + gapN l.length := by simp [padX, length_lowN]; omega
theorem length_padX_mod (l : List Nat) (n : Nat) : (padX l n).length % 64 = 0 := by rw [length_padX]; unfold gapN; omega
/-- The digest, its whole blocks read where they stand. -/
theorem ofN_parts (ns ks : List Nat) (W : Nat) (hW : W = 64 * (ns.length / 64)) :
    ofN (ns ++ ks) = outN (blocksN ((padX (ns.drop W ++ ks) (ns.length + ks.length)).length / 64) (blocksN ((ns.take W).length / 64) startN (ns.take W)) (padX (ns.drop W ++ ks) (ns.length + ks.length))) := by
  have hWl : W ≤ ns.length := by omega
  have htl : (ns.take W).length = 64 * (ns.length / 64) := by simp; omega
  have hp : padN (ns ++ ks) = ns.take W ++ padX (ns.drop W ++ ks) (ns.length + ks.length) := by
    unfold padN padX
    have hg : gapN (ns ++ ks).length = gapN (ns.drop W ++ ks).length := by
      have : (ns ++ ks).length = (ns.drop W ++ ks).length + 64 * (ns.length / 64) := by simp; omega
      rw [this, gapN_add]
    rw [hg, show (ns ++ ks).length = ns.length + ks.length from List.length_append]
    rw [← List.append_assoc, ← List.append_assoc, List.take_append_drop]
  have hd : (padX (ns.drop W ++ ks) (ns.length + ks.length)).length % 64 = 0 := length_padX_mod _ _
  unfold ofN
  rw [hp, List.length_append, htl, show (64 * (ns.length / 64) + (padX (ns.drop W ++ ks) (ns.length + ks.length)).length) / 64 = ns.length / 64 + (padX (ns.drop W ++ ks) (ns.length + ks.length)).length / 64 by omega]
  rw [blocksN_add, blocksN_append _ _ _ _ htl, show 64 * (ns.length / 64) / 64 = ns.length / 64 by omega]
  rw [show 64 * (ns.length / 64) = (ns.take W).length from htl.symm, List.drop_left]
theorem padX_byte {l : List Nat} (h : ∀ x ∈ l, x < 256) (n : Nat) : ∀ x ∈ padX l n, x < 256 := by
  intro x hx
  simp only [padX, List.mem_append, List.mem_cons] at hx
  rcases hx with hx | rfl | hx | hx
  · exact h x hx
  · decide
  · have := (List.mem_replicate.mp hx).2
    omega
  · exact lowN_byte _ _ x hx

/-- A row cut in two, as the code cuts it. -/
theorem cut_two {w : World} {va : Option Addr} {vc : Nat} {ns : List Nat} (h : ArgAt w (.slice va ns.length vc) (natB ns)) (W : Nat) (hW : W ≤ ns.length) :
    ∃ v1 v2, (∀ w, Sem.run Try.prog (Instr.slice 35 (.slice va ns.length vc) none (some (.int .i64 (W : Int))) none) w = .ok v1 w) ∧
      (∀ w, Sem.run Try.prog (Instr.slice 35 (.slice va ns.length vc) (some (.int .i64 (W : Int))) none none) w = .ok v2 w) ∧
      ArgAt w v1 (natB (ns.take W)) ∧ ArgAt w v2 (natB (ns.drop W)) ∧ (0 < ns.length → ∀ k, v1.ownBlock = some k → k < w.heap.size) := by
  by_cases hp : 0 < ns.length
  · have hr := h.row (by rw [length_natB]; exact hp)
    obtain ⟨ga, oa, rfl⟩ := rowAt_some hr hp
    obtain ⟨-, hc1, hc2⟩ := cap_of hr
    have hc2' : (vc : Int) ≤ 9223372036854775807 := by unfold maxLen at hc2; omega
    have hlt : ga < w.heap.size := lt_of_cell (rowAt_cell hr 0 (by rw [length_natB]; exact hp))
    have h0 : (0 : Int) ≤ (W : Int) := by omega
    have h1 : (W : Int) ≤ (vc : Int) := by omega
    have h2 : (W : Int) ≤ (ns.length : Int) := by omega
    have h3 : (ns.length : Int) ≤ (vc : Int) := by omega
    have hne : ¬ vc = 0 := by omega
    by_cases hz : vc = W
    · refine ⟨.slice (some ⟨ga, oa, none⟩) W vc, .slice (some ⟨ga, oa, none⟩) (ns.length - W) (vc - W), fun w => ?_, fun w => ?_, ?_, ?_, fun _ k hk => by cases hk; exact hlt⟩
      · simp [Instr.slice, Instr.sliceBounds, Instr.sliceBound, go_sem, h0]
        intro hh; omega
      · simp [Instr.slice, Instr.sliceBounds, Instr.sliceBound, go_sem, h0, hz]
        intro hh; omega
      · rw [natB_take]; exact (take_row hr W hW).arg
      · have : ns.length - W = 0 := by omega
        rw [this, List.drop_eq_nil_of_le (by omega)]
        exact empty_arg w _ _ (by unfold maxLen; omega)
    · refine ⟨.slice (some ⟨ga, oa, none⟩) W vc, .slice (some ⟨ga, oa + W, none⟩) (ns.length - W) (vc - W), fun w => ?_, fun w => ?_, ?_, ?_, fun _ k hk => by cases hk; exact hlt⟩
      · simp [Instr.slice, Instr.sliceBounds, Instr.sliceBound, go_sem, h0]
        intro hh; omega
      · simp [Instr.slice, Instr.sliceBounds, Instr.sliceBound, go_sem, h0, hz]
        intro hh; omega
      · rw [natB_take]; exact (take_row hr W hW).arg
      · rw [natB_drop]; exact (drop_row hr W hW).arg
  · obtain rfl : ns = [] := List.eq_nil_of_length_eq_zero (by omega)
    obtain rfl : W = 0 := by simpa using hW
    rcases h with ⟨hv, _⟩ | ⟨ad, c, hv, h1, h2, _⟩
    · cases hv
      refine ⟨.slice none 0 0, .slice none 0 0, fun w => ?_, fun w => ?_, Or.inl ⟨rfl, rfl⟩, Or.inl ⟨rfl, rfl⟩, fun h => absurd h (by simp)⟩
      · simp [Instr.slice, Instr.sliceBounds, Instr.sliceBound, go_sem]
      · simp [Instr.slice, Instr.sliceBounds, Instr.sliceBound, go_sem]
    · cases hv
      have hc2' : (vc : Int) ≤ 9223372036854775807 := by unfold maxLen at h2; omega
      by_cases hz : vc = 0
      · subst hz
        refine ⟨.slice (some ad) 0 0, .slice (some ad) 0 0, fun w => ?_, fun w => ?_, empty_arg _ _ _ h2, empty_arg _ _ _ h2, fun h => absurd h (by simp)⟩
        · simp [Instr.slice, Instr.sliceBounds, Instr.sliceBound, go_sem]
        · simp [Instr.slice, Instr.sliceBounds, Instr.sliceBound, go_sem]
      · refine ⟨.slice (some (ad.add 0)) 0 vc, .slice (some (ad.add 0)) 0 vc, fun w => ?_, fun w => ?_, empty_arg _ _ _ h2, empty_arg _ _ _ h2, fun h => absurd h (by simp)⟩
        · simp [Instr.slice, Instr.sliceBounds, Instr.sliceBound, go_sem]
        · simp [Instr.slice, Instr.sliceBounds, Instr.sliceBound, go_sem]
end Go.Proofs.Ythilfealloakdab
