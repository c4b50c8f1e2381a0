
/- Two queues of the call's own, side by side; rows of calls as sets. -/
import Derived.Test.YtmdnlfbploaafaaQuLives
import Derived.Test.YtmdnlfbploaafaaQuArgs
namespace Go.Proofs.Ytmdnlfbploaafaa
open Go.RowKit
set_option linter.unusedVariables false
set_option maxRecDepth 100000

/-- Two queues made since W, and other blocks G that are neither's. -/
structure Two (G : Nat → Prop) (W w : World) (b1 : Nat) (v1 : Value) (m1 : Nat) (l1 : List En) (b2 : Nat) (v2 : Value) (m2 : Nat) (l2 : List En) : Prop where
  q1 : QO W w b1 v1 m1 1048576 l1
  q2 : QO W w b2 v2 m2 1048576 l2
  dj : ∀ k, qB b1 v1 m1 k → ¬ qB b2 v2 m2 k
  g1 : ∀ k, G k → ¬ qB b1 v1 m1 k
  g2 : ∀ k, G k → ¬ qB b2 v2 m2 k
  gl : ∀ k, G k → k < w.heap.size
theorem Two.keep {G : Nat → Prop} {W w w' : World} {b1 : Nat} {v1 : Value} {m1 : Nat} {l1 : List En} {b2 : Nat} {v2 : Value} {m2 : Nat} {l2 : List En} (h : Two G W w b1 v1 m1 l1 b2 v2 m2 l2) (t : Touch (fun _ => False) w w') : Two G W w' b1 v1 m1 l1 b2 v2 m2 l2 :=
  ⟨h.q1.keep t, h.q2.keep t, h.dj, h.g1, h.g2, fun k hk => Nat.lt_of_lt_of_le (h.gl k hk) t.size⟩
theorem qB_new {b : Nat} {v v' : Value} {m : Nat} {N k : Nat} (hv : v'.ownBlock = v.ownBlock ∨ ∃ g, v'.ownBlock = some g ∧ N ≤ g) (hk : qB b v' m k) : qB b v m k ∨ N ≤ k := by
  rcases hk with e | e | e
  · exact Or.inl (Or.inl e)
  · rcases hv with e2 | ⟨g, e2, hg⟩
    · rw [e2] at e; exact Or.inl (Or.inr (Or.inl e))
    · rw [e2] at e; injection e with e; exact Or.inr (by omega)
  · exact Or.inl (Or.inr (Or.inr e))
theorem QO.step' {W w w' : World} {b : Nat} {v : Value} {m : Nat} {most : Int} {l L : List En} (h : QO W w b v m most l) (n : QN w b v m most L w') : ∃ v' l', QO W w' b v' m most l' ∧ l'.Perm L ∧ (v'.ownBlock = v.ownBlock ∨ ∃ g, v'.ownBlock = some g ∧ w.heap.size ≤ g) := by
  have n' := n
  obtain ⟨⟨v', l', Q, p, hv⟩, t⟩ := n
  refine ⟨v', l', ⟨Q, fun k hk => ?_, h.t.trans' t (fun i hi e => by have := h.own i e; omega)⟩, p, hv⟩
  rcases qB_new hv hk with e | e
  · exact h.own k e
  · exact Nat.le_trans h.t.size e
theorem Two.step1 {G : Nat → Prop} {W w w' : World} {b1 : Nat} {v1 : Value} {m1 : Nat} {l1 : List En} {b2 : Nat} {v2 : Value} {m2 : Nat} {l2 L : List En} (h : Two G W w b1 v1 m1 l1 b2 v2 m2 l2) (n : QN w b1 v1 m1 1048576 L w') : ∃ v1' l1', Two G W w' b1 v1' m1 l1' b2 v2 m2 l2 ∧ l1'.Perm L := by
  obtain ⟨v', l', Q, p, hv⟩ := h.q1.step' n
  refine ⟨v', l', ⟨Q, ⟨h.q2.q.keep n.t (fun k hk e => h.dj k e hk), h.q2.own, Q.t⟩, fun k hk hk2 => ?_, fun k hg hk => ?_, h.g2, fun k hg => Nat.lt_of_lt_of_le (h.gl k hg) n.t.size⟩, p⟩
  · rcases qB_new hv hk with e | e
    · exact h.dj k e hk2
    · have := h.q2.q.lt k hk2; omega
  · rcases qB_new hv hk with e | e
    · exact h.g1 k hg e
    · have := h.gl k hg; omega
theorem Two.turn {G : Nat → Prop} {W w : World} {b1 : Nat} {v1 : Value} {m1 : Nat} {l1 : List En} {b2 : Nat} {v2 : Value} {m2 : Nat} {l2 : List En} (h : Two G W w b1 v1 m1 l1 b2 v2 m2 l2) : Two G W w b2 v2 m2 l2 b1 v1 m1 l1 :=
  ⟨h.q2, h.q1, fun k hk e => h.dj k e hk, h.g2, h.g1, h.gl⟩
theorem Two.step2 {G : Nat → Prop} {W w w' : World} {b1 : Nat} {v1 : Value} {m1 : Nat} {l1 : List En} {b2 : Nat} {v2 : Value} {m2 : Nat} {l2 L : List En} (h : Two G W w b1 v1 m1 l1 b2 v2 m2 l2) (n : QN w b2 v2 m2 1048576 L w') : ∃ v2' l2', Two G W w' b1 v1 m1 l1 b2 v2' m2 l2' ∧ l2'.Perm L := by
  obtain ⟨v', l', t, p⟩ := h.turn.step1 n
  exact ⟨v', l', t.turn, p⟩
/-- A new block is neither queue's. -/
theorem Two.add {G : Nat → Prop} {W w w' : World} {b1 : Nat} {v1 : Value} {m1 : Nat} {l1 : List En} {b2 : Nat} {v2 : Value} {m2 : Nat} {l2 : List En} (h : Two G W w b1 v1 m1 l1 b2 v2 m2 l2) (t : Touch (fun _ => False) w w') (hs : w.heap.size < w'.heap.size) : Two (fun k => k = w.heap.size ∨ G k) W w' b1 v1 m1 l1 b2 v2 m2 l2 := by
  have k := h.keep t
  refine ⟨k.q1, k.q2, k.dj, fun k hk e => ?_, fun k hk e => ?_, fun k hk => ?_⟩
  · rcases hk with rfl | hk
    · have := h.q1.q.lt _ e; omega
    · exact h.g1 k hk e
  · rcases hk with rfl | hk
    · have := h.q2.q.lt _ e; omega
    · exact h.g2 k hk e
  · rcases hk with rfl | hk
    · exact hs
    · have := h.gl k hk; omega
theorem Two.less {G G' : Nat → Prop} {W w : World} {b1 : Nat} {v1 : Value} {m1 : Nat} {l1 : List En} {b2 : Nat} {v2 : Value} {m2 : Nat} {l2 : List En} (h : Two G W w b1 v1 m1 l1 b2 v2 m2 l2) (hG : ∀ k, G' k → G k) : Two G' W w b1 v1 m1 l1 b2 v2 m2 l2 :=
  ⟨h.q1, h.q2, h.dj, fun k hk => h.g1 k (hG k hk), fun k hk => h.g2 k (hG k hk), fun k hk => h.gl k (hG k hk)⟩
/-- A store into one of the other blocks that the call itself made. -/
theorem Two.other {G F : Nat → Prop} {W w w' : World} {b1 : Nat} {v1 : Value} {m1 : Nat} {l1 : List En} {b2 : Nat} {v2 : Value} {m2 : Nat} {l2 : List En} (h : Two G W w b1 v1 m1 l1 b2 v2 m2 l2) (t : Touch F w w') (hF : ∀ k, F k → G k ∧ W.heap.size ≤ k) : Two G W w' b1 v1 m1 l1 b2 v2 m2 l2 :=
  ⟨⟨h.q1.q.keep t (fun k hk f => h.g1 k (hF k f).1 hk), h.q1.own, h.q1.t.trans' t (fun i hi f => by have := (hF i f).2; omega)⟩, ⟨h.q2.q.keep t (fun k hk f => h.g2 k (hF k f).1 hk), h.q2.own, h.q1.t.trans' t (fun i hi f => by have := (hF i f).2; omega)⟩, h.dj, h.g1, h.g2, fun k hk => Nat.lt_of_lt_of_le (h.gl k hk) t.size⟩
theorem two_new {w w1 w2 : World} {b1 m1 b2 m2 : Nat} (h1 : QO w w1 b1 (.slice none 0 0) m1 1048576 []) (h2 : QO w1 w2 b2 (.slice none 0 0) m2 1048576 []) : Two (fun _ => False) w w2 b1 (.slice none 0 0) m1 [] b2 (.slice none 0 0) m2 [] :=
  ⟨h1.keep h2.t, ⟨h2.q, fun k hk => Nat.le_trans h1.t.size (h2.own k hk), h1.t.trans h2.t⟩, fun k hk hk2 => by have := h1.q.lt k hk; have := h2.own k hk2; omega, fun _ h => h.elim, fun _ h => h.elim, fun _ h => h.elim⟩

/-- The call at a place. -/
def opAt (os : List OpE) (i : Nat) : OpE := os.getD i OpE.zero
def ents (os : List OpE) : List En := os.map OpE.e
def halfE (e : En) : En := ⟨e.a.tdiv 2, e.r, e.k⟩
def halves (os : List OpE) : List En := os.map (fun o => halfE o.e)
theorem opAt_mem {os : List OpE} {i : Nat} (h : i < os.length) : opAt os i ∈ os := by
  have : os[i]? = some (opAt os i) := by simp [opAt, List.getElem?_eq_getElem h]
  exact List.mem_of_getElem? this
theorem take_next {os : List OpE} {k : Nat} (h : k < os.length) : os.take (k + 1) = os.take k ++ [opAt os k] := by
  rw [List.take_succ_eq_append_getElem h]
  simp [opAt, List.getElem?_eq_getElem h]
theorem drop_next {os : List OpE} {k : Nat} (h : k < os.length) : os.drop k = opAt os k :: os.drop (k + 1) := by
  have : opAt os k = os[k]'h := by simp [opAt, List.getElem?_eq_getElem h]
  rw [this, List.getElem_cons_drop]
theorem halfE_ok {e : En} (h : e.Ok) : (halfE e).Ok := by
  obtain ⟨a0, a1, r0, r1, k0, k1⟩ := h
  have h1 : -9223372036854775808 ≤ e.a.tdiv 2 ∧ e.a.tdiv 2 ≤ 9223372036854775807 := by
    rcases Int.lt_or_le e.a 0 with h | h
    · have : e.a.tdiv 2 = - ((-e.a) / 2) := by rw [← Int.neg_neg e.a, Int.neg_tdiv, Int.tdiv_eq_ediv_of_nonneg (by omega), Int.neg_neg]
      omega
    · rw [Int.tdiv_eq_ediv_of_nonneg h]; omega
  exact ⟨h1.1, h1.2, r0, r1, k0, k1⟩
/-- No key is among the calls twice. -/
def OK2 (os : List OpE) : Prop := ((ents os).map En.k).Nodup
theorem put_fresh {l : List En} {os : List OpE} {k : Nat} (hk : k < os.length) (p : l.Perm (ents (os.take k))) (hn : ∀ j, j < k → (opAt os j).e.k ≠ (opAt os k).e.k) (hl : os.length ≤ 200) :
    putB l 1048576 (opAt os k).e = true ∧ (putL l 1048576 (opAt os k).e).Perm (ents (os.take (k + 1))) := by
  have hlen : l.length = k := by rw [p.length_eq]; simp [ents]; omega
  have e1 : putB l 1048576 (opAt os k).e = true := by simp [putB, hlen]; right; omega
  refine ⟨e1, ?_⟩
  have h2 : ∀ y ∈ ents (os.take k), y.k ≠ (opAt os k).e.k := by
    intro y hy
    obtain ⟨o, ho, rfl⟩ := List.mem_map.1 hy
    obtain ⟨j, hj, e⟩ := List.mem_iff_getElem.1 ho
    simp at hj
    have : o = opAt os j := by rw [← e]; simp [opAt, List.getElem?_eq_getElem (show j < os.length by omega)]
    rw [this]
    exact hn j (by omega)
  simp only [putL, e1, if_true]
  have h3 := noK_perm p (opAt os k).e.k
  rw [noK_self h2] at h3
  rw [take_next hk]
  refine (h3.cons _).trans ?_
  simp only [ents, List.map_append, List.map_cons, List.map_nil]
  exact (List.perm_append_singleton _ _).symm
theorem keys_halves (os : List OpE) : (halves os).map En.k = (ents os).map En.k := by simp [halves, ents, halfE]
theorem OK2.ne {os : List OpE} (h : OK2 os) {k : Nat} (hk : k < os.length) : (∀ o ∈ os.drop (k + 1), o.e.k ≠ (opAt os k).e.k) ∧ (∀ o ∈ os.take k, o.e.k ≠ (opAt os k).e.k) := by
  unfold OK2 at h
  have e : os = os.take k ++ opAt os k :: os.drop (k + 1) := by rw [← drop_next hk, List.take_append_drop]
  rw [e] at h
  simp only [ents, List.map_append, List.map_cons, List.nodup_append, List.nodup_cons, List.mem_map, List.mem_cons] at h
  obtain ⟨-, ⟨h2, -⟩, h3⟩ := h
  constructor
  · intro o ho e1
    exact h2 ⟨o.e, ⟨o, ho, rfl⟩, e1⟩
  · intro o ho e1
    exact h3 o.e.k ⟨o.e, ⟨o, ho, rfl⟩, rfl⟩ _ (Or.inl rfl) e1
theorem put_half {l : List En} {os : List OpE} {k : Nat} (hk : k < os.length) (h : OK2 os) (p : l.Perm (halves (os.drop (k + 1)))) (hl : os.length ≤ 200) : (putL l 1048576 (halfE (opAt os k).e)).Perm (halves (os.drop k)) := by
  have hlen : l.length ≤ 200 := by rw [p.length_eq]; simp [halves]; omega
  have e1 : putB l 1048576 (halfE (opAt os k).e) = true := by simp [putB]; right; omega
  have h2 : ∀ y ∈ halves (os.drop (k + 1)), y.k ≠ (halfE (opAt os k).e).k := by
    intro y hy
    obtain ⟨o, ho, rfl⟩ := List.mem_map.1 hy
    exact (h.ne hk).1 o ho
  simp only [putL, e1, if_true]
  have h3 := noK_perm p (halfE (opAt os k).e).k
  rw [noK_self h2] at h3
  rw [drop_next hk]
  exact h3.cons _
theorem put_whole {l : List En} {os : List OpE} {k : Nat} (hk : k < os.length) (h : OK2 os) (p : l.Perm (ents (os.drop (k + 1)) ++ halves (os.take (k + 1)))) (hl : os.length ≤ 200) :
    putB l 1048576 (opAt os k).e = true ∧ (putL l 1048576 (opAt os k).e).Perm (ents (os.drop k) ++ halves (os.take k)) := by
  have hlen : l.length ≤ 400 := by rw [p.length_eq]; simp [halves, ents]; omega
  have e1 : putB l 1048576 (opAt os k).e = true := by simp [putB]; right; omega
  refine ⟨e1, ?_⟩
  have h2 : ∀ y ∈ ents (os.drop (k + 1)), y.k ≠ (opAt os k).e.k := by
    intro y hy
    obtain ⟨o, ho, rfl⟩ := List.mem_map.1 hy
    exact (h.ne hk).1 o ho
  have h4 : ∀ y ∈ halves (os.take k), y.k ≠ (opAt os k).e.k := by
    intro y hy
    obtain ⟨o, ho, rfl⟩ := List.mem_map.1 hy
    exact (h.ne hk).2 o ho
  simp only [putL, e1, if_true]
  have h3 := noK_perm p (opAt os k).e.k
  rw [noK_append, noK_self h2, take_next hk] at h3
  have e5 : halves (os.take k ++ [opAt os k]) = halves (os.take k) ++ [halfE (opAt os k).e] := by simp [halves]
  have e6 : noK [halfE (opAt os k).e] (opAt os k).e.k = [] := by simp [noK, halfE]
  rw [e5, noK_append, noK_self h4, e6, List.append_nil] at h3
  rw [drop_next hk]
  exact h3.cons _
end Go.Proofs.Ytmdnlfbploaafaa
