
/- What is put and dropped: pure. -/
import Derived.Test.YtmdnlfbploaafaaQuTwo
namespace Go.Proofs.Ytmdnlfbploaafaa
open Go.RowKit
set_option linter.unusedVariables false
set_option maxRecDepth 100000

/-- An even key, and the odd one beside it. -/
def evK (k : Int) : Int := 2 * (k / 2)
def odK (k : Int) : Int := 2 * (k / 2) + 1
def evE (e : En) : En := ⟨e.a, e.r, evK e.k⟩
def odE (e : En) : En := ⟨e.a, e.r, odK e.k⟩
theorem evE_ok {e : En} (h : e.Ok) : (evE e).Ok := ⟨h.a0, h.a1, h.r0, h.r1, by have := h.k0; show 0 ≤ evK e.k; unfold evK; omega, by have := h.k1; show evK e.k < _; unfold evK; omega⟩
theorem odE_ok {e : En} (h : e.Ok) : (odE e).Ok := ⟨h.a0, h.a1, h.r0, h.r1, by have := h.k0; show 0 ≤ odK e.k; unfold odK; omega, by have := h.k1; show odK e.k < _; unfold odK; omega⟩
def evens (l : List En) : List En := l.filter (fun y => decide (y.k % 2 = 0))
theorem mem_evens {l : List En} {y : En} : y ∈ evens l ↔ y ∈ l ∧ y.k % 2 = 0 := by simp [evens]
theorem evens_perm {l l' : List En} (p : l.Perm l') : (evens l).Perm (evens l') := p.filter _
theorem evens_noK (l : List En) (k : Int) : evens (noK l k) = noK (evens l) k := by
  simp only [evens, noK, List.filter_filter]
  congr 1
  funext y
  rw [Bool.and_comm]
theorem evens_odd {l : List En} {k : Int} (h : k % 2 = 1) : evens (noK l k) = evens l := by
  rw [evens_noK]
  exact noK_self (fun y hy e => by have := (mem_evens.1 hy).2; rw [e] at this; omega)
theorem evens_self {l : List En} (h : ∀ y ∈ l, y.k % 2 = 0) : evens l = l := List.filter_eq_self.2 (fun y hy => by simpa using h y hy)

/-- What the odd keys of q are: those of the others from a to b. -/
structure GI (l1 l2 : List En) (gs : List OpE) (a b : Nat) : Prop where
  ev : (evens l1).Perm l2
  od : ∀ y ∈ l1, y.k % 2 = 1 → ∃ j, a ≤ j ∧ j < b ∧ y.k = odK (opAt gs j).e.k
  n1 : l1.length ≤ 400
  n2 : l2.length ≤ 400
theorem put_small {l : List En} {x : En} (h : l.length ≤ 400) : putL l 1048576 x = x :: noK l x.k := by
  have e1 : putB l 1048576 x = true := by simp [putB]; right; omega
  simp [putL, e1]
theorem GI.perm {l1 l2 l1' l2' : List En} {gs : List OpE} {a b : Nat} (h : GI l1 l2 gs a b) (p1 : l1'.Perm l1) (p2 : l2'.Perm l2) : GI l1' l2' gs a b :=
  ⟨((evens_perm p1).trans h.ev).trans p2.symm, fun y hy => h.od y (p1.mem_iff.1 hy), by rw [p1.length_eq]; exact h.n1, by rw [p2.length_eq]; exact h.n2⟩
/-- Even ones into both. -/
theorem GI.both {l1 l2 : List En} {gs : List OpE} {a b : Nat} (h : GI l1 l2 gs a b) (x : En) (h1 : l1.length < 400) (h2 : l2.length < 400) : GI (putL l1 1048576 (evE x)) (putL l2 1048576 (evE x)) gs a b := by
  rw [put_small (by omega), put_small (by omega)]
  have hk : (evE x).k % 2 = 0 := by show evK x.k % 2 = 0; unfold evK; omega
  refine ⟨?_, fun y hy ho => ?_, ?_, ?_⟩
  · have e1 : evens (evE x :: noK l1 (evE x).k) = evE x :: noK (evens l1) (evE x).k := by
      rw [← evens_noK]
      simp [evens, hk]
    rw [e1]
    exact (noK_perm h.ev _).cons _
  · rcases List.mem_cons.1 hy with rfl | hy
    · omega
    · exact h.od y (mem_noK.1 hy).1 ho
  · have := noK_len l1 (evE x).k; simp; omega
  · have := noK_len l2 (evE x).k; simp; omega
/-- An odd one into q. -/
theorem GI.one {l1 l2 : List En} {gs : List OpE} {b : Nat} (h : GI l1 l2 gs 0 b) (h1 : l1.length < 400) : GI (putL l1 1048576 (odE (opAt gs b).e)) l2 gs 0 (b + 1) := by
  rw [put_small (by omega)]
  have hk : (odE (opAt gs b).e).k % 2 = 1 := by show odK (opAt gs b).e.k % 2 = 1; unfold odK; omega
  refine ⟨?_, fun y hy ho => ?_, ?_, h.n2⟩
  · have e1 : evens (odE (opAt gs b).e :: noK l1 (odE (opAt gs b).e).k) = evens l1 := by
      rw [← evens_odd (l := l1) hk]
      simp [evens, hk]
    rw [e1]
    exact h.ev
  · rcases List.mem_cons.1 hy with rfl | hy
    · exact ⟨b, Nat.zero_le _, by omega, rfl⟩
    · obtain ⟨j, a0, a1, a2⟩ := h.od y (mem_noK.1 hy).1 ho
      exact ⟨j, a0, by omega, a2⟩
  · have := noK_len l1 (odE (opAt gs b).e).k; simp; omega
theorem GI.wide {l1 l2 : List En} {gs : List OpE} {a b b' : Nat} (h : GI l1 l2 gs a b) (hb : b ≤ b') : GI l1 l2 gs a b' := ⟨h.ev, fun y hy ho => by obtain ⟨j, a0, a1, a2⟩ := h.od y hy ho; exact ⟨j, a0, by omega, a2⟩, h.n1, h.n2⟩
/-- One of the others dropped. -/
theorem GI.drop {l1 l2 : List En} {gs : List OpE} {a b : Nat} (h : GI l1 l2 gs a b) : GI (noK l1 (odK (opAt gs a).e.k)) l2 gs (a + 1) b := by
  have hk : odK (opAt gs a).e.k % 2 = 1 := by unfold odK; omega
  refine ⟨by rw [evens_odd hk]; exact h.ev, fun y hy ho => ?_, ?_, h.n2⟩
  · obtain ⟨hy1, hy2⟩ := mem_noK.1 hy
    obtain ⟨j, a0, a1, a2⟩ := h.od y hy1 ho
    refine ⟨j, ?_, a1, a2⟩
    by_cases e : j = a
    · subst e; exact absurd a2 hy2
    · omega
  · have := noK_len l1 (odK (opAt gs a).e.k); have := h.n1; omega
theorem GI.end {l1 l2 : List En} {gs : List OpE} {a : Nat} (h : GI l1 l2 gs a a) : l1.Perm l2 := by
  have : evens l1 = l1 := evens_self (fun y hy => by
    rcases (by omega : y.k % 2 = 0 ∨ y.k % 2 = 1) with e | e
    · exact e
    · obtain ⟨j, a0, a1, _⟩ := h.od y hy e; omega)
  rw [← this]
  exact h.ev
theorem hasK_noK (l : List En) (k : Int) : hasK (noK l k) k = false := hasK_false.2 (fun y hy => (mem_noK.1 hy).2)
end Go.Proofs.Ytmdnlfbploaafaa
