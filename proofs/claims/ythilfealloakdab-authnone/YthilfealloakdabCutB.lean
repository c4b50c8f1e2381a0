/- A row of bytes cut: what the code's slice expressions give, in every world. -/
import Derived.Test.YthilfealloakdabWideB
namespace Go.Proofs.Ythilfealloakdab
open Go.RowKit
set_option linter.unusedVariables false
set_option maxRecDepth 100000

theorem cap_of {w : World} {g off c n : Nat} {rs : List Int} (h : RowAt w (.slice (some ⟨g, off, none⟩) n c) rs) : n = rs.length ∧ n ≤ c ∧ c ≤ maxLen := by
  rcases h with ⟨h, _⟩ | ⟨g', off', c', h, h1, h2, _⟩
  · cases h
  · cases h; exact ⟨rfl, h1, h2⟩
theorem drop_row {w : World} {g off c n : Nat} {rs : List Int} (h : RowAt w (.slice (some ⟨g, off, none⟩) n c) rs) (m : Nat) (hm : m ≤ n) : RowAt w (.slice (some ⟨g, off + m, none⟩) (n - m) (c - m)) (rs.drop m) := by
  rcases h with ⟨h, _⟩ | ⟨g', off', c', h, h1, h2, h3⟩
  · cases h
  · cases h
    refine Or.inr ⟨g, off + m, c - m, by simp, by simp; omega, by omega, fun j u hj => ?_⟩
    rw [Nat.add_assoc]
    refine h3 (m + j) u ?_
    simpa [bytesOf, List.getElem?_drop] using hj
theorem take_row {w : World} {g off c n : Nat} {rs : List Int} (h : RowAt w (.slice (some ⟨g, off, none⟩) n c) rs) (m : Nat) (hm : m ≤ n) : RowAt w (.slice (some ⟨g, off, none⟩) m c) (rs.take m) := by
  rcases h with ⟨h, _⟩ | ⟨g', off', c', h, h1, h2, h3⟩
  · cases h
  · cases h
    refine Or.inr ⟨g, off, c, by simp; omega, by simp; omega, by omega, fun j u hj => ?_⟩
    refine h3 j u ?_
    simp only [bytesOf, List.getElem?_map, List.getElem?_take] at hj ⊢
    split at hj
    · exact hj
    · simp at hj
theorem empty_arg (w : World) (ad : Addr) (c : Nat) (hc : c ≤ maxLen) : ArgAt w (.slice (some ad) 0 c) [] := Or.inr ⟨ad, c, rfl, Nat.zero_le _, hc, fun j u hj => by simp [bytesOf] at hj⟩

/-- b[i:j], of a row that is not empty. -/
theorem cut_mid {w : World} {va : Option Addr} {vc n : Nat} {rs : List Int} (h : ArgAt w (.slice va n vc) rs) (hn : n = rs.length) (hp : 0 < n) (i j : Nat) (hij : i ≤ j) (hj : j ≤ n) :
    ∃ v, (∀ w, Sem.run Try.prog (Instr.slice 35 (.slice va n vc) (some (.int .i64 (i : Int))) (some (.int .i64 (j : Int))) none) w = .ok v w) ∧ ArgAt w v ((rs.drop i).take (j - i)) := by
  subst hn
  have hr := h.row hp
  obtain ⟨ga, oa, rfl⟩ := rowAt_some hr hp
  obtain ⟨-, hc1, hc2⟩ := cap_of hr
  have hc2' : (vc : Int) ≤ 9223372036854775807 := by unfold maxLen at hc2; omega
  have h0 : (0 : Int) ≤ (i : Int) := by omega
  have h0' : (0 : Int) ≤ (j : Int) := by omega
  have h1 : (j : Int) ≤ (vc : Int) := by omega
  have h2 : (i : Int) ≤ (j : Int) := by omega
  by_cases hz : vc = i
  · refine ⟨.slice (some ⟨ga, oa, none⟩) (j - i) (vc - i), fun w => ?_, ?_⟩
    · simp [Instr.slice, Instr.sliceBounds, Instr.sliceBound, go_sem, h0, h0', hz]
      rw [if_pos (by omega), if_pos (by omega)]
    · have : j - i = 0 := by omega
      rw [this, List.take_zero]
      exact empty_arg w _ _ (by unfold maxLen; omega)
  · refine ⟨.slice (some ⟨ga, oa + i, none⟩) (j - i) (vc - i), fun w => ?_, (take_row (drop_row hr i (by omega)) (j - i) (by omega)).arg⟩
    simp [Instr.slice, Instr.sliceBounds, Instr.sliceBound, go_sem, h0, h0', hz]
    rw [if_pos (by omega), if_pos hij]
/-- b[i:]. -/
theorem cut_from {w : World} {va : Option Addr} {vc n : Nat} {rs : List Int} (h : ArgAt w (.slice va n vc) rs) (hn : n = rs.length) (hp : 0 < n) (i : Nat) (hi : i ≤ n) :
    ∃ v, (∀ w, Sem.run Try.prog (Instr.slice 35 (.slice va n vc) (some (.int .i64 (i : Int))) none none) w = .ok v w) ∧ ArgAt w v (rs.drop i) := by
  subst hn
  have hr := h.row hp
  obtain ⟨ga, oa, rfl⟩ := rowAt_some hr hp
  obtain ⟨-, hc1, hc2⟩ := cap_of hr
  have hc2' : (vc : Int) ≤ 9223372036854775807 := by unfold maxLen at hc2; omega
  have h0 : (0 : Int) ≤ (i : Int) := by omega
  have h2 : (i : Int) ≤ (rs.length : Int) := by omega
  have h3 : (rs.length : Int) ≤ (vc : Int) := by omega
  by_cases hz : vc = i
  · refine ⟨.slice (some ⟨ga, oa, none⟩) (rs.length - i) (vc - i), fun w => ?_, ?_⟩
    · simp [Instr.slice, Instr.sliceBounds, Instr.sliceBound, go_sem, h0, hz]
      omega
    · have : rs.length - i = 0 := by omega
      rw [this, List.drop_eq_nil_of_le (by omega)]
      exact empty_arg w _ _ (by unfold maxLen; omega)
  · refine ⟨.slice (some ⟨ga, oa + i, none⟩) (rs.length - i) (vc - i), fun w => ?_, (drop_row hr i hi).arg⟩
    simp [Instr.slice, Instr.sliceBounds, Instr.sliceBound, go_sem, h0, hz]
    omega
/-- b[:j]. -/
theorem cut_to {w : World} {va : Option Addr} {vc n : Nat} {rs : List Int} (h : ArgAt w (.slice va n vc) rs) (hn : n = rs.length) (hp : 0 < n) (j : Nat) (hj : j ≤ n) :
    ∃ v, (∀ w, Sem.run Try.prog (Instr.slice 35 (.slice va n vc) none (some (.int .i64 (j : Int))) none) w = .ok v w) ∧ ArgAt w v (rs.take j) := by
  subst hn
  have hr := h.row hp
  obtain ⟨ga, oa, rfl⟩ := rowAt_some hr hp
  obtain ⟨-, hc1, hc2⟩ := cap_of hr
  have hc2' : (vc : Int) ≤ 9223372036854775807 := by unfold maxLen at hc2; omega
  have h0 : (0 : Int) ≤ (j : Int) := by omega
  have h1 : (j : Int) ≤ (vc : Int) := by omega
  have hne : ¬ vc = 0 := by omega
  refine ⟨.slice (some ⟨ga, oa, none⟩) j vc, fun w => ?_, (take_row hr j hj).arg⟩
  simp [Instr.slice, Instr.sliceBounds, Instr.sliceBound, go_sem, h0]
  intro hh; omega
end Go.Proofs.Ythilfealloakdab
