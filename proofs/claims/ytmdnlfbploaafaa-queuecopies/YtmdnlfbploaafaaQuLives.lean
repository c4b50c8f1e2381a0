
/- A small known run of a queue. -/
import Derived.Test.YtmdnlfbploaafaaQuCalls2
namespace Go.Proofs.Ytmdnlfbploaafaa
open Go.RowKit
set_option linter.unusedVariables false
set_option maxRecDepth 100000

/-- A queue of the call's own, made since W. -/
structure QO (W w : World) (b : Nat) (v : Value) (m : Nat) (most : Int) (l : List En) : Prop where
  q : QS w b v m most l
  own : ∀ k, qB b v m k → W.heap.size ≤ k
  t : Touch (fun _ => False) W w
theorem QO.step {W w w' : World} {b : Nat} {v : Value} {m : Nat} {most : Int} {l L : List En} (h : QO W w b v m most l) (n : QN w b v m most L w') : ∃ v' l', QO W w' b v' m most l' ∧ l'.Perm L := by
  obtain ⟨⟨v', l', Q, p, hv⟩, t⟩ := n
  refine ⟨v', l', ⟨Q, fun k hk => ?_, h.t.trans' t (fun i hi e => by have := h.own i e; omega)⟩, p⟩
  rcases hk with e | e | e
  · exact h.own k (Or.inl e)
  · rcases hv with e2 | ⟨g, e2, hg⟩
    · rw [e2] at e
      exact h.own k (Or.inr (Or.inl e))
    · rw [e2] at e
      injection e with e
      have := h.t.size
      omega
  · exact h.own k (Or.inr (Or.inr e))
theorem QO.keep {W w w' : World} {b : Nat} {v : Value} {m : Nat} {most : Int} {l : List En} (h : QO W w b v m most l) (t : Touch (fun _ => False) w w') : QO W w' b v m most l := ⟨h.q.keep t (fun _ _ h => h), h.own, h.t.trans t⟩
theorem NewP.qo {w : World} {most : Int} {e : Ending} {w' : World} (h : NewP w most e w') : ∃ b m, e = .returned (.pointer (some ⟨b, 0, none⟩)) ∧ QO w w' b (.slice none 0 0) m most [] := by
  obtain ⟨⟨b, m, he, Q, hb, hm⟩, t⟩ := h
  exact ⟨b, m, he, Q, fun k hk => by rcases hk with e | e | e; omega; cases e; omega, t⟩

def En.mk3 (a r k : Int) : En := ⟨a, r, k⟩

set_option maxHeartbeats 2000000 in
theorem lives_any (w : World) : Calls Try.prog 8 #[] w fun e w' => e = .returned (.bool true) ∧ Touch (fun _ => False) w w' := by
  go_enter Try.func8, Try.ntmps8
  go_wp2_with fail
  refine Calls.mono (new_yes w 2 (by omega) (by omega)) ?_
  rintro e w1 n1
  obtain ⟨b, m, rfl, q1⟩ := n1.qo
  have Q1 : Hid _ := q1
  clear n1 q1
  go_wp2_with fail
  refine Calls.mono (put_any w1 b _ m 2 [] ⟨5, 0, 7⟩ ⟨by decide, by decide, by decide, by decide, by decide, by decide⟩ Q1.out.q) ?_
  rintro e w2 ⟨rfl, q2⟩
  obtain ⟨v2, l2, o2, p2⟩ := Q1.out.step q2
  have Q2 : Hid _ := o2
  have P2 : Hid (l2.Perm [⟨5, 0, 7⟩]) := p2
  have e2 : putB [] 2 ⟨5, 0, 7⟩ = true := by decide
  rw [e2]
  clear q2 o2 p2 e2
  go_wp2_with fail
  refine Calls.mono (put_any w2 b v2 m 2 l2 ⟨5, 0, 6⟩ ⟨by decide, by decide, by decide, by decide, by decide, by decide⟩ Q2.out.q) ?_
  rintro e w3 ⟨rfl, q3⟩
  obtain ⟨v3, l3, o3, p3⟩ := Q2.out.step q3
  have Q3 : Hid _ := o3
  have P3 : Hid (l3.Perm [⟨5, 0, 6⟩, ⟨5, 0, 7⟩]) := p3.trans (putL_perm P2.out 2 ⟨5, 0, 6⟩).2
  have e3 : putB l2 2 ⟨5, 0, 6⟩ = true := (putL_perm P2.out 2 ⟨5, 0, 6⟩).1.trans (by decide)
  rw [e3]
  clear q3 o3 p3 e3
  go_wp2_with fail
  refine Calls.mono (put_any w3 b v3 m 2 l3 ⟨4, 0, 9⟩ ⟨by decide, by decide, by decide, by decide, by decide, by decide⟩ Q3.out.q) ?_
  rintro e w4 ⟨rfl, q4⟩
  obtain ⟨v4, l4, o4, p4⟩ := Q3.out.step q4
  have Q4 : Hid _ := o4
  have P4 : Hid (l4.Perm [⟨5, 0, 6⟩, ⟨5, 0, 7⟩]) := p4.trans (putL_perm P3.out 2 ⟨4, 0, 9⟩).2
  have e4 : putB l3 2 ⟨4, 0, 9⟩ = false := (putL_perm P3.out 2 ⟨4, 0, 9⟩).1.trans (by decide)
  rw [e4]
  clear q4 o4 p4 e4
  have hmin : IsMin ⟨5, 0, 6⟩ l4 := ⟨P4.out.mem_iff.2 (by simp), fun y hy => by
    have := P4.out.mem_iff.1 hy
    simp at this
    rcases this with rfl | rfl <;> (unfold En.le En.lt; simp)⟩
  have hne : l4 ≠ [] := by rintro rfl; exact absurd hmin.mem (by simp)
  have hlen : l4.length = 2 := P4.out.length_eq
  have HMIN : Hid _ := hmin
  have HNE : Hid _ := hne
  have HLEN : Hid _ := hlen
  clear hmin hne hlen
  go_wp2_with fail
  obtain ⟨x, z, hx, hn⟩ := next_any w4 b v4 m 2 l4 Q4.out.q
  obtain ⟨hx1, rfl⟩ := hx.yes HNE.out
  have ex : x = ⟨5, 0, 6⟩ := hx1.one HMIN.out (List.Perm.refl _)
  subst ex
  refine Calls.mono hn ?_
  rintro e w5 ⟨rfl, t5⟩
  have Q5 : Hid _ := Q4.out.keep t5
  clear t5 hn hx hx1
  go_wp2_with fail
  have Q6 : Hid _ := Q5.out.keep ((Touch.refl _ w5).alloc (.cells #[.int .i64 5, .int .i64 0, .int .u64 6] 41))
  have y0 : (w5.alloc (.cells #[.int .i64 5, .int .i64 0, .int .u64 6] 41)).cell? ⟨w5.heap.size, 0, none⟩ = some (.int .i64 5) := by simp [go_sem]
  have y1 : (w5.alloc (.cells #[.int .i64 5, .int .i64 0, .int .u64 6] 41)).cell? ⟨w5.heap.size, 1, none⟩ = some (.int .i64 0) := by simp [go_sem]
  have y2 : (w5.alloc (.cells #[.int .i64 5, .int .i64 0, .int .u64 6] 41)).cell? ⟨w5.heap.size, 2, none⟩ = some (.int .u64 6) := by simp [go_sem]
  generalize w5.alloc (.cells #[.int .i64 5, .int .i64 0, .int .u64 6] 41) = w6 at Q6 y0 y1 y2 ⊢
  refine Calls.mono (take_any w6 b v4 m 2 l4 4 Q6.out.q) ?_
  rintro e w7 ⟨x, z, rfl, hx⟩
  rcases hx with ⟨rfl, rfl, -, q7⟩ | ⟨-, hm, ha, -⟩
  rotate_left
  · have := hm.one HMIN.out (List.Perm.refl _)
    subst this
    simp at ha
  obtain ⟨v7, l7, o7, p7⟩ := Q6.out.step q7
  have hlt := lt_of_cell y0
  have hqn : ¬ qB b v4 m w5.heap.size := fun e => by
    have := Q5.out.q.lt _ e
    omega
  have z0 := (q7.t.cell (p := ⟨w5.heap.size, 0, none⟩) hlt hqn).trans y0
  have z1 := (q7.t.cell (p := ⟨w5.heap.size, 1, none⟩) hlt hqn).trans y1
  have z2 := (q7.t.cell (p := ⟨w5.heap.size, 2, none⟩) hlt hqn).trans y2
  have hlt7 := lt_of_cell z0
  have Q7 : Hid _ := o7
  have HL7 : Hid (l7.length = 2) := p7.length_eq.trans HLEN.out
  clear q7 o7 p7 y0 y1 y2 hqn hlt
  have hli : ((l7.length : Nat) : Int) = 2 := by have := HL7.out; omega
  have HLEN7 : Hid (∀ wx, Touch (fun _ => False) w7 wx → Calls Try.prog 12 #[.pointer (some ⟨b, 0, none⟩)] wx fun e w' => e = .returned (.int .i64 2) ∧ wx = w') := fun wx t => by
    have := len_any wx b v7 m 2 l7 ((Q7.out.keep t).q)
    rw [hli] at this
    exact this
  clear hli
  go_wp2_with (first
    | (go_at_call 12; refine Calls.mono (HLEN7.out _ ((Touch.refl _ _).alloc _)) ?_; rintro e wx ⟨rfl, rfl⟩)
    | (go_at_call 9; refine Calls.mono (new_no _ 0 (Or.inl (by omega))) ?_; rintro e wy ⟨rfl, rfl⟩))
  go_ret
  exact ⟨rfl, Q7.out.t.alloc _⟩
end Go.Proofs.Ytmdnlfbploaafaa
