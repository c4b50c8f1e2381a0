
/- A row of entries copied. -/
import Derived.Test.YtmdnlfbploaafaaQuCalls2
namespace Go.Proofs.Ytmdnlfbploaafaa
open Go.RowKit
set_option linter.unusedVariables false
set_option maxRecDepth 100000

/-- A copy of a row. -/
structure CloneP (w : World) (l : List En) (e : Ending) (w' : World) : Prop where
  out : ∃ vc, e = .returned vc ∧ RE w' vc l ∧ ∀ k, vc.ownBlock = some k → w.heap.size ≤ k
  t : Touch (fun _ => False) w w'
set_option maxHeartbeats 1000000 in
theorem clone_any (w : World) (v : Value) (l : List En) (h : RE w v l) (hl : l.length ≤ 2000000) : Calls Try.prog 29 #[v] w (CloneP w l) := by
  have h' := h
  obtain ⟨h1, ⟨rfl, h3⟩ | ⟨g, cap, cur, rfl, _, hh, hc, hm, hs, hx⟩⟩ := h
  · have e1 : l = [] := List.length_eq_zero_iff.1 h3
    subst e1
    have heq : ∀ w', Sem.run Try.prog (binOp .eql 36 (.slice none 0 0) (.slice none 0 0)) w' = .ok (.bool true) w' := fun _ => rfl
    go_enter Try.func29, Try.ntmps29
    go_wp2
    go_ret
    exact ⟨⟨_, rfl, World.ownsRow_nil _ _ _ _, fun k hk => by cases hk⟩, Touch.refl _ _⟩
  · obtain ⟨i0, hi0, hz0, hz1, hz2⟩ := infoParts infoEn
    have T1 : Touch (fun _ => False) w (w.alloc (.cells #[] 41)) := (Touch.refl _ _).alloc _
    have ow : (w.alloc (.cells #[] 41)).ownsRow w.heap.size 41 3 (.slice (some ⟨w.heap.size, 0, none⟩) 0 0) 0 [] := ⟨by simp, Or.inr ⟨w.heap.size, 0, #[], rfl, Nat.le_refl _, (by show (w.heap.push _)[w.heap.size]? = _; simp), Nat.le_refl _, by simp, by simp, by simp⟩⟩
    have hcell : ∀ j u, (cellsOf l)[j]? = some u → (w.alloc (.cells #[] 41)).cell? ((⟨g, 0, none⟩ : Addr).add j) = some u := fun j u hj => T1.cellN (World.ownsRow.cells h' (g := g) rfl j u hj)
    have h1c : ∀ u ∈ cellsOf l, u.oneCell' = true := by
      intro u hu
      obtain ⟨x, _, hx⟩ := List.mem_flatMap.1 hu
      simp [En.cs] at hx
      rcases hx with rfl | rfl | rfl <;> rfl
    have heq : ∀ w', Sem.run Try.prog (binOp .eql 36 (.slice (some ⟨g, 0, none⟩) l.length cap) (.slice none 0 0)) w' = .ok (.bool false) w' := fun _ => rfl
    go_enter Try.func29, Try.ntmps29
    go_wp2_with (at_builtin; refine wpList_append_own_at _ rfl (.tmp 5) (.tmp 6) 36 rfl w.heap.size 41 i0 _ 3 24 Try.underlying36 hi0 hz0 hz1 hz2 rfl (by omega) (.slice (some ⟨w.heap.size, 0, none⟩) 0 0) 0 [] rfl ow ⟨g, 0, none⟩ l.length cap (cellsOf l) rfl (length_cellsOf l) hcell h1c (by unfold maxLen; omega) (by omega) (by simp) ?_; intro v' w' own' gr' _ _)
    go_wp2_with fail
    go_ret
    refine ⟨⟨v', rfl, ?_, fun k hk => (World.ownsRow.lt own' k hk).1⟩, ?_⟩
    · have e1 : (0 + l.length) = l.length := by omega
      rw [e1, List.nil_append] at own'
      refine ⟨own'.1, ?_⟩
      rcases own'.2 with h2 | ⟨g2, cap2, cur2, a1, _, a3⟩
      · exact Or.inl h2
      · exact Or.inr ⟨g2, cap2, cur2, a1, Nat.zero_le _, a3⟩
    · exact T1.trans' (Touch.grown (F := fun k => k = w.heap.size) (Touch.refl _ _) gr' (fun k hk => by cases hk; exact Or.inl rfl)) (fun i hi e => by omega)
end Go.Proofs.Ytmdnlfbploaafaa
