
/- What a queue holds, whatever way it lies: pure. And a queue in memory. -/
import Derived.Test.YtmdnlfbploaafaaQuPile
namespace Go.Proofs.Ytmdnlfbploaafaa
open Go.RowKit
set_option linter.unusedVariables false
set_option maxRecDepth 100000

/-- All but those of that key. -/
def noK (l : List En) (k : Int) : List En := l.filter (fun y => decide (y.k ≠ k))
theorem mem_noK {l : List En} {k : Int} {y : En} : y ∈ noK l k ↔ y ∈ l ∧ y.k ≠ k := by simp [noK]
theorem noK_perm {l l' : List En} (h : l.Perm l') (k : Int) : (noK l k).Perm (noK l' k) := h.filter _
theorem noK_self {l : List En} {k : Int} (h : ∀ y ∈ l, y.k ≠ k) : noK l k = l := List.filter_eq_self.2 (fun y hy => by simpa using h y hy)
theorem noK_cons {l : List En} {x : En} : noK (x :: l) x.k = noK l x.k := by simp [noK]
theorem noK_append (l l' : List En) (k : Int) : noK (l ++ l') k = noK l k ++ noK l' k := List.filter_append ..
theorem noK_len (l : List En) (k : Int) : (noK l k).length ≤ l.length := List.length_filter_le ..
/-- No key is there twice. -/
def NK (l : List En) : Prop := ∀ i j, i < l.length → j < l.length → (gt l i).k = (gt l j).k → i = j
theorem PS.nk {w : World} {b : Nat} {v : Value} {m n : Nat} {l : List En} {f : Int → Option Int} (h : PS w b v m n l f) : NK l := fun i j hi hj e => h.inj hi hj e
theorem gt_get {l : List En} {i : Nat} (h : i < l.length) : gt l i = l[i]'h := by simp [gt, List.getElem?_eq_getElem h]
theorem NK.iff {l : List En} : NK l ↔ (l.map En.k).Nodup := by
  unfold List.Nodup
  rw [List.pairwise_iff_getElem]
  constructor
  · intro h i j hi hj hij e
    simp at hi hj
    simp only [List.getElem_map] at e
    have := h i j hi hj (by rw [gt_get hi, gt_get hj]; exact e)
    omega
  · intro h i j hi hj e
    rw [gt_get hi, gt_get hj] at e
    rcases Nat.lt_trichotomy i j with h1 | h1 | h1
    · exact (h i j (by simpa using hi) (by simpa using hj) h1 (by rw [List.getElem_map, List.getElem_map]; exact e)).elim
    · exact h1
    · exact (h j i (by simpa using hj) (by simpa using hi) h1 (by rw [List.getElem_map, List.getElem_map]; exact e.symm)).elim
theorem NK.perm {l l' : List En} (h : NK l) (p : l'.Perm l) : NK l' := NK.iff.2 ((p.map En.k).nodup_iff.2 (NK.iff.1 h))
theorem NK.eq {l : List En} (h : NK l) {x y : En} (hx : x ∈ l) (hy : y ∈ l) (e : x.k = y.k) : x = y := by
  obtain ⟨i, hi, rfl⟩ := mem_gt hx
  obtain ⟨j, hj, rfl⟩ := mem_gt hy
  rw [h i j hi hj e]
theorem NK.noK {l : List En} (h : NK l) (k : Int) : NK (noK l k) := by
  rw [NK.iff] at *
  exact h.sublist (List.Sublist.map _ List.filter_sublist)
theorem NK.cons {l : List En} (h : NK l) (x : En) : NK (x :: Ytmdnlfbploaafaa.noK l x.k) := by
  have h2 := h.noK x.k
  rw [NK.iff] at *
  rw [List.map_cons, List.nodup_cons]
  refine ⟨fun hm => ?_, h2⟩
  obtain ⟨y, hy, e⟩ := List.mem_map.1 hm
  exact (mem_noK.1 hy).2 e

theorem cut_perm {l l' : List En} {x : En} (p : (x :: l').Perm l) (h : NK l) : l'.Perm (noK l x.k) := by
  have h1 := noK_perm p x.k
  rw [noK_cons] at h1
  have h2 : ∀ y ∈ l', y.k ≠ x.k := by
    have hn := NK.iff.1 (h.perm p)
    rw [List.map_cons, List.nodup_cons] at hn
    exact fun y hy e => hn.1 (by rw [← e]; exact List.mem_map_of_mem hy)
  rw [noK_self h2] at h1
  exact h1
theorem add_perm {l : List En} {x : En} (h : ∀ y ∈ l, y.k ≠ x.k) : (l ++ [x]).Perm (x :: noK l x.k) := by
  rw [noK_self h]
  exact List.perm_append_singleton _ _
theorem set_perm {l : List En} (h : NK l) {i : Nat} (hi : i < l.length) {x : En} (hx : x.k = (gt l i).k) : (l.set i x).Perm (x :: noK l x.k) := by
  have e1 : l.set i x = l.take i ++ x :: l.drop (i + 1) := List.set_eq_take_append_cons_drop.trans (if_pos hi)
  have e0 : l = l.take i ++ gt l i :: l.drop (i + 1) := by
    have h1 : gt l i = l[i]'hi := by simp [gt, List.getElem?_eq_getElem hi]
    rw [h1, List.getElem_cons_drop, List.take_append_drop]
  have h1 : ∀ y ∈ l.take i, y.k ≠ x.k := by
    intro y hy e
    obtain ⟨j, hj, rfl⟩ := mem_gt hy
    simp at hj
    rw [gt_take (by omega), hx] at e
    have := h j i (by omega) hi e
    omega
  have h2 : ∀ y ∈ l.drop (i + 1), y.k ≠ x.k := by
    intro y hy e
    obtain ⟨j, hj, rfl⟩ := mem_gt hy
    simp at hj
    have e2 : gt (l.drop (i + 1)) j = gt l (i + 1 + j) := by simp [gt, List.getElem?_drop]
    rw [e2, hx] at e
    have := h (i + 1 + j) i (by omega) hi e
    omega
  have e3 : noK l x.k = l.take i ++ l.drop (i + 1) := by
    conv => lhs; rw [e0]
    rw [noK_append, noK_self h1]
    congr 1
    rw [hx, noK_cons, ← hx, noK_self h2]
  rw [e1, e3]
  exact List.perm_middle

/-- The first of all. -/
structure IsMin (x : En) (l : List En) : Prop where
  mem : x ∈ l
  le : ∀ y ∈ l, x.le y
theorem IsMin.one {x y : En} {l l' : List En} (h : IsMin x l) (h' : IsMin y l') (p : l.Perm l') : x = y :=
  le_antisymm' (h.le y (p.mem_iff.2 h'.mem)) (h'.le x (p.mem_iff.1 h.mem))
theorem HP.min {l : List En} (h : HP l.length (gt l)) (hl : 0 < l.length) : IsMin (gt l 0) l :=
  ⟨gt_mem hl, fun y hy => by obtain ⟨j, hj, rfl⟩ := mem_gt hy; exact h.first j hj⟩

/-- The blocks of a queue. -/
def qB (b : Nat) (v : Value) (m : Nat) : Nat → Prop := fun k => k = b ∨ v.ownBlock = some k ∨ k = m
/-- A queue in memory. -/
structure QS (w : World) (b : Nat) (v : Value) (m : Nat) (most : Int) (l : List En) : Prop where
  out : ∃ f, PS w b v m l.length l f ∧ (∀ k, 0 ≤ k → k < 18446744073709551616 → f k ≠ none → ∃ y ∈ l, y.k = k)
  hp : HP l.length (gt l)
  c2 : w.cell? ⟨b, 2, none⟩ = some (.int .i64 most)
  m1 : 1 ≤ most
  m2 : most ≤ 1048576
  ml : (l.length : Int) ≤ most
theorem QS.nk {w : World} {b : Nat} {v : Value} {m : Nat} {most : Int} {l : List En} (h : QS w b v m most l) : NK l := by obtain ⟨f, P, _⟩ := h.out; exact P.nk
theorem QS.lt {w : World} {b : Nat} {v : Value} {m : Nat} {most : Int} {l : List En} (h : QS w b v m most l) : ∀ k, qB b v m k → k < w.heap.size := by
  obtain ⟨f, P, _⟩ := h.out
  intro k hk
  rcases hk with rfl | hk | rfl
  · exact P.lt
  · exact (World.ownsRow.lt P.re k hk).2
  · exact P.mp.lt
theorem QS.keep {F : Nat → Prop} {w w' : World} {b : Nat} {v : Value} {m : Nat} {most : Int} {l : List En} (h : QS w b v m most l) (t : Touch F w w') (hF : ∀ k, qB b v m k → ¬ F k) : QS w' b v m most l := by
  obtain ⟨⟨f, P, cv⟩, hp, c2, m1, m2, ml⟩ := h
  have hb := hF b (Or.inl rfl)
  exact ⟨⟨f, ⟨(t.cell (p := ⟨b, 0, none⟩) P.lt hb).trans P.c0, (t.cell (p := ⟨b, 1, none⟩) P.lt hb).trans P.c1, (t.frozen (p := ⟨b, 0, none⟩) P.lt hb).trans P.f0, P.re.keep t (fun k hk => hF k (Or.inr (Or.inl hk))), P.mp.keep t (hF m (Or.inr (Or.inr rfl))), P.d1, P.ok, P.bv, P.hn, P.hl⟩, cv⟩, hp, (t.cell (p := ⟨b, 2, none⟩) P.lt hb).trans c2, m1, m2, ml⟩
/-- A queue that holds L now. -/
structure QN (w : World) (b : Nat) (v : Value) (m : Nat) (most : Int) (L : List En) (w' : World) : Prop where
  out : ∃ v' l', QS w' b v' m most l' ∧ l'.Perm L ∧ (v'.ownBlock = v.ownBlock ∨ ∃ g, v'.ownBlock = some g ∧ w.heap.size ≤ g)
  t : Touch (qB b v m) w w'
theorem QN.same {w w' : World} {b : Nat} {v : Value} {m : Nat} {most : Int} {l : List En} (h : QS w b v m most l) (t : Touch (fun _ => False) w w') : QN w b v m most l w' :=
  ⟨⟨v, l, h.keep t (fun _ _ h => h), List.Perm.refl _, Or.inl rfl⟩, t.mono (fun _ _ h => h.elim)⟩
theorem heaped_qn {w wa wb : World} {b : Nat} {v : Value} {m n : Nat} {most : Int} {L L0 : List En} {f : Int → Option Int} (T : Touch (fun _ => False) w wa) (hb : b < w.heap.size) (H : Heaped wa b v m n L f wb) (hn : n = L.length) (c2 : w.cell? ⟨b, 2, none⟩ = some (.int .i64 most))
    (cv : ∀ k, 0 ≤ k → k < 18446744073709551616 → f k ≠ none → ∃ y ∈ L, y.k = k) (m1 : 1 ≤ most) (m2 : most ≤ 1048576) (ml : (L.length : Int) ≤ most) (p : L.Perm L0) : QN w b v m most L0 wb := by
  obtain ⟨⟨v', l', f', P, pe, hp, hk, hv⟩, t⟩ := H
  have hlen := pe.length_eq
  refine ⟨⟨v', l', ⟨⟨f', ?_, fun k k0 k1 hf => ?_⟩, hp, ?_, m1, m2, by omega⟩, pe.trans p, ?_⟩, ?_⟩
  · rw [hlen, ← hn]; exact P
  · by_cases h : ∀ y ∈ L, y.k ≠ k
    · rw [hk k h] at hf
      obtain ⟨y, hy, e⟩ := cv k k0 k1 hf
      exact absurd e (h y hy)
    · obtain ⟨y, h⟩ := Classical.not_forall.1 h
      obtain ⟨hy, h⟩ := Classical.not_imp.1 h
      exact ⟨y, pe.mem_iff.2 hy, Classical.not_not.1 h⟩
  · rw [t.rest 2 (by omega)]
    exact T.cellN c2
  · rcases hv with e | ⟨g, e, hg⟩
    · exact Or.inl e
    · exact Or.inr ⟨g, e, Nat.le_trans T.size hg⟩
  · exact (T.mono (fun _ _ h => h.elim)).trans (t.t.mono (fun _ _ h => h))
theorem cut_qn {w wa wb : World} {b : Nat} {v : Value} {m n : Nat} {most : Int} {l : List En} {x : En} {f : Int → Option Int} {e : Ending} (T : Touch (fun _ => False) w wa) (H : CutP wa b v m n l f x e wb) (hn : l.length = n + 1) (nk : NK l) (c2 : w.cell? ⟨b, 2, none⟩ = some (.int .i64 most))
    (cv : ∀ k, 0 ≤ k → k < 18446744073709551616 → f k ≠ none → ∃ y ∈ l, y.k = k) (m1 : 1 ≤ most) (m2 : most ≤ 1048576) (ml : (l.length : Int) ≤ most) : QN w b v m most (noK l x.k) wb := by
  obtain ⟨-, ⟨v', l', f', P, pe, hp, hk, hx, hv⟩, t⟩ := H
  have hlen := pe.length_eq
  simp at hlen
  have hl2 : l'.length = n := by omega
  refine ⟨⟨v', l', ⟨⟨f', ?_, fun k k0 k1 hf => ?_⟩, hp, ?_, m1, m2, by omega⟩, cut_perm pe nk, Or.inl hv⟩, ?_⟩
  · rw [hl2]; exact P
  · by_cases h : ∀ y ∈ l, y.k ≠ k
    · rw [hk k h] at hf
      obtain ⟨y, hy, e⟩ := cv k k0 k1 hf
      exact absurd e (h y hy)
    · obtain ⟨y, h⟩ := Classical.not_forall.1 h
      obtain ⟨hy, h⟩ := Classical.not_imp.1 h
      have e1 := Classical.not_not.1 h
      rcases List.mem_cons.1 (pe.mem_iff.2 hy) with rfl | h3
      · rw [e1] at hx; exact absurd hx hf
      · exact ⟨y, h3, e1⟩
  · rw [t.rest 2 (by omega)]
    exact T.cellN c2
  · exact (T.mono (fun _ _ h => h.elim)).trans (t.t.mono (fun _ _ h => h))
end Go.Proofs.Ytmdnlfbploaafaa
