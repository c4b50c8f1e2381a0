
/- The ring of places: who stands behind whom. -/
import Derived.Test.YtedolfggbgmklaaSpMap
namespace Go.Proofs.Ytedolfggbgmklaa
open Go.RowKit
set_option linter.unusedVariables false
set_option maxRecDepth 100000

def ptr (b : Nat) : Value := .pointer (some ⟨b, 0, none⟩)
/-- The cells of a place: its head, its body, who stands before it, who behind. -/
def HV.pl (x : HV) (v : Value) (p n : Nat) : List Value := [.int .u16 x.age, .int .u8 x.opts, .int .u8 x.typ, .int .u32 x.id, .int .u32 x.adv, .int .i32 x.seq, .int .u16 x.sum, .int .u16 x.len, v, ptr p, ptr n]
/-- No head. -/
def H0 : HV := ⟨0, 0, 0, 0, 0, 0, 0, 0⟩
def nxt : List It → Nat → Nat
  | [], n => n
  | i :: _, _ => i.b
def lst : Nat → List It → Nat
  | p, [] => p
  | _, i :: l => lst i.b l
/-- The places of l, standing behind p and ahead of n. -/
def Seg (w : World) : Nat → List It → Nat → Prop
  | _, [], _ => True
  | p, i :: l, n => Row w i.b 72 (i.h.pl i.v p (nxt l n)) ∧ Seg w i.b l n
structure Ring (w : World) (e : Nat) (l : List It) : Prop where
  ends : Row w e 72 (H0.pl (.slice none 0 0) (lst e l) (nxt l e))
  seg : Seg w e l e
theorem nxt_app (l1 l2 : List It) (n : Nat) : nxt (l1 ++ l2) n = nxt l1 (nxt l2 n) := by cases l1 <;> rfl
theorem lst_app : ∀ (l1 l2 : List It) (p : Nat), lst p (l1 ++ l2) = lst (lst p l1) l2
  | [], _, _ => rfl
  | i :: l1, l2, p => by simp only [List.cons_append, lst]; exact lst_app l1 l2 i.b
theorem seg_app (w : World) : ∀ (l1 l2 : List It) (p n : Nat), Seg w p (l1 ++ l2) n ↔ Seg w p l1 (nxt l2 n) ∧ Seg w (lst p l1) l2 n
  | [], l2, p, n => by simp [Seg, lst]
  | i :: l1, l2, p, n => by simp only [List.cons_append, Seg, lst, nxt_app, seg_app w l1 l2 i.b n, and_assoc]
/-- What changes no place leaves the places. -/
theorem Seg.same {w w' : World} : ∀ {l : List It} {p n : Nat}, Seg w p l n → (∀ i ∈ l, w'.heap[i.b]? = w.heap[i.b]?) → Seg w' p l n
  | [], _, _, _, _ => trivial
  | i :: l, p, n, h, hs => ⟨(hs i (by simp)).trans h.1, Seg.same h.2 (fun j hj => hs j (by simp [hj]))⟩
theorem set_heap (w : World) (g o : Nat) (u : Value) (k : Nat) (h : k ≠ g) : (w.setCell ⟨g, o, none⟩ u).heap[k]? = w.heap[k]? := heap_setCell_other w ⟨g, o, none⟩ k u h
theorem pl_set9 (x : HV) (v : Value) (p n q : Nat) : (x.pl v p n).set 9 (ptr q) = x.pl v q n := rfl
theorem pl_set10 (x : HV) (v : Value) (p n q : Nat) : (x.pl v p n).set 10 (ptr q) = x.pl v p q := rfl
/-- Another stands behind the last. -/
theorem Seg.behind {w : World} {l : List It} {i : It} {p n : Nat} (h : Seg w p (l ++ [i]) n) (nd : ∀ j ∈ l, j.b ≠ i.b) (n' : Nat) : Seg (w.setCell ⟨i.b, 10, none⟩ (ptr n')) p (l ++ [i]) n' := by
  rw [seg_app] at h ⊢
  refine ⟨Seg.same h.1 (fun j hj => set_heap _ _ _ _ _ (nd j hj)), ?_, trivial⟩
  have := (h.2.1).set 10 (ptr n')
  rwa [pl_set10] at this
/-- Another stands before the first. -/
theorem Seg.before {w : World} {l : List It} {i : It} {p n : Nat} (h : Seg w p (i :: l) n) (nd : ∀ j ∈ l, j.b ≠ i.b) (p' : Nat) : Seg (w.setCell ⟨i.b, 9, none⟩ (ptr p')) p' (i :: l) n := by
  refine ⟨?_, Seg.same h.2 (fun j hj => set_heap _ _ _ _ _ (nd j hj))⟩
  have := (h.1).set 9 (ptr p')
  rwa [pl_set9] at this
theorem Seg.other {w : World} {l : List It} {p n g o : Nat} {u : Value} (h : Seg w p l n) (nd : ∀ j ∈ l, j.b ≠ g) : Seg (w.setCell ⟨g, o, none⟩ u) p l n := h.same (fun j hj => set_heap _ _ _ _ _ (nd j hj))
theorem last_cases (l : List It) : l = [] ∨ ∃ l' i, l = l' ++ [i] := by
  rcases List.eq_nil_or_concat l with h | ⟨l', i, h⟩
  · exact Or.inl h
  · exact Or.inr ⟨l', i, by simpa using h⟩
theorem Seg.row {w : World} {l1 l2 : List It} {i : It} {p n : Nat} (h : Seg w p (l1 ++ i :: l2) n) : Row w i.b 72 (i.h.pl i.v (lst p l1) (nxt l2 n)) := ((seg_app w l1 (i :: l2) p n).1 h).2.1
/-- A place more, the last. -/
theorem Ring.add {w : World} {e : Nat} {l : List It} (h : Ring w e l) {i : It} (hi : Row w i.b 72 (i.h.pl i.v (lst e l) e)) (nd : (e :: (l ++ [i]).map (·.b)).Nodup) :
    Ring ((w.setCell ⟨lst e l, 10, none⟩ (ptr i.b)).setCell ⟨e, 9, none⟩ (ptr i.b)) e (l ++ [i]) := by
  have n1 : ∀ j ∈ l ++ [i], j.b ≠ e := fun j hj he => (List.nodup_cons.1 nd).1 (List.mem_map.2 ⟨j, hj, he⟩)
  have n2 := (List.nodup_cons.1 nd).2
  have hie : i.b ≠ e := n1 i (by simp)
  rcases last_cases l with rfl | ⟨l', k, rfl⟩
  · refine ⟨?_, ?_⟩
    · have := (h.ends.set 10 (ptr i.b)).set 9 (ptr i.b)
      rw [pl_set10, pl_set9] at this
      exact this
    · exact ⟨(hi.other (p := ⟨e, 10, none⟩) hie _).other (p := ⟨e, 9, none⟩) hie _, trivial⟩
  · have hl : lst e (l' ++ [k]) = k.b := by rw [lst_app]; rfl
    rw [hl] at hi ⊢
    have hke : k.b ≠ e := n1 k (by simp)
    have hki : i.b ≠ k.b := by
      rw [List.map_append, List.map_append] at n2
      have := (List.nodup_append.1 n2).2.2
      exact fun he => this k.b (by simp) i.b (by simp) he.symm
    have hnk : ∀ j ∈ l', j.b ≠ k.b := by
      rw [List.map_append] at n2
      have := (List.nodup_append.1 n2).1
      rw [List.map_append] at this
      have := (List.nodup_append.1 this).2.2
      exact fun j hj he => this j.b (List.mem_map.2 ⟨j, hj, rfl⟩) k.b (by simp) he
    refine ⟨?_, ?_⟩
    · have := (h.ends.other (p := ⟨k.b, 10, none⟩) (fun q => hke q.symm) (ptr i.b)).set 9 (ptr i.b)
      rw [pl_set9] at this
      have e1 : lst e ((l' ++ [k]) ++ [i]) = i.b := by rw [lst_app]; rfl
      have e2 : nxt ((l' ++ [k]) ++ [i]) e = nxt (l' ++ [k]) e := by cases l' <;> rfl
      rw [e1, e2]
      exact this
    · rw [seg_app]
      refine ⟨(h.seg.behind hnk i.b).other (fun j hj => n1 j (by simp at hj ⊢; rcases hj with hj | hj; exact Or.inl hj; exact Or.inr (Or.inl hj))), ?_, trivial⟩
      rw [hl]
      exact (hi.other (p := ⟨k.b, 10, none⟩) hki _).other (p := ⟨e, 9, none⟩) hie _
/-- A place less. -/
theorem Ring.del {w : World} {e : Nat} {l1 l2 : List It} {i : It} (h : Ring w e (l1 ++ i :: l2)) (nd : (e :: (l1 ++ i :: l2).map (·.b)).Nodup) :
    Ring ((w.setCell ⟨lst e l1, 10, none⟩ (ptr (nxt l2 e))).setCell ⟨nxt l2 e, 9, none⟩ (ptr (lst e l1))) e (l1 ++ l2) := by
  have n1 : ∀ j ∈ l1 ++ i :: l2, j.b ≠ e := fun j hj he => (List.nodup_cons.1 nd).1 (List.mem_map.2 ⟨j, hj, he⟩)
  have n2 := (List.nodup_cons.1 nd).2
  rw [List.map_append, List.map_cons] at n2
  obtain ⟨na, nb, nc⟩ := List.nodup_append.1 n2
  have nb2 := (List.nodup_cons.1 nb).2
  have S := (seg_app w l1 (i :: l2) e e).1 h.seg
  have S1 : Seg w e l1 i.b := S.1
  have S2 : Seg w i.b l2 e := S.2.2
  have x1 : ∀ j ∈ l1, ∀ k ∈ l2, j.b ≠ k.b := fun j hj k hk => nc j.b (List.mem_map.2 ⟨j, hj, rfl⟩) k.b (List.mem_cons_of_mem _ (List.mem_map.2 ⟨k, hk, rfl⟩))
  have E := h.ends
  have e1 : lst e (l1 ++ i :: l2) = lst i.b l2 := by rw [lst_app]; rfl
  have e2 : nxt (l1 ++ i :: l2) e = nxt l1 i.b := by rw [nxt_app]; rfl
  rw [e1, e2] at E
  rcases last_cases l1 with rfl | ⟨l1', u, rfl⟩
  · cases l2 with
    | nil =>
      refine ⟨?_, trivial⟩
      have := (E.set 10 (ptr e)).set 9 (ptr e)
      rw [pl_set10, pl_set9] at this
      exact this
    | cons v l2' =>
      have hve : v.b ≠ e := n1 v (by simp)
      have hv : ∀ j ∈ l2', j.b ≠ v.b := fun j hj he => (List.nodup_cons.1 nb2).1 (List.mem_map.2 ⟨j, hj, he⟩)
      refine ⟨?_, ?_⟩
      · have := (E.set 10 (ptr v.b)).other (p := ⟨v.b, 9, none⟩) (fun q => hve q.symm) (ptr e)
        rw [pl_set10] at this
        exact this
      · exact (S2.other (fun j hj => n1 j (by simp at hj ⊢; rcases hj with hj | hj; exact Or.inr (Or.inl hj); exact Or.inr (Or.inr hj)))).before hv e
  · have hu : lst e (l1' ++ [u]) = u.b := by rw [lst_app]; rfl
    have hue : u.b ≠ e := n1 u (by simp)
    have hun : ∀ j ∈ l1', j.b ≠ u.b := by
      rw [List.map_append] at na
      have := (List.nodup_append.1 na).2.2
      exact fun j hj he => this j.b (List.mem_map.2 ⟨j, hj, rfl⟩) u.b (by simp) he
    rw [hu]
    have e3 : nxt (l1' ++ [u]) i.b = nxt (l1' ++ [u]) e := by cases l1' <;> rfl
    cases l2 with
    | nil =>
      refine ⟨?_, ?_⟩
      · have := (E.other (p := ⟨u.b, 10, none⟩) (fun q => hue q.symm) (ptr e)).set 9 (ptr u.b)
        rw [pl_set9, e3] at this
        rw [List.append_nil, hu]
        exact this
      · rw [List.append_nil]
        exact (S1.behind hun e).other (fun j hj => n1 j (by simp at hj ⊢; rcases hj with hj | hj; exact Or.inl hj; exact Or.inr (Or.inl hj)))
    | cons v l2' =>
      have hve : v.b ≠ e := n1 v (by simp)
      have hv : ∀ j ∈ l2', j.b ≠ v.b := fun j hj he => (List.nodup_cons.1 nb2).1 (List.mem_map.2 ⟨j, hj, he⟩)
      refine ⟨?_, ?_⟩
      · have := (E.other (p := ⟨u.b, 10, none⟩) (fun q => hue q.symm) (ptr v.b)).other (p := ⟨v.b, 9, none⟩) (fun q => hve q.symm) (ptr u.b)
        rw [e3] at this
        rw [lst_app, nxt_app]
        have e4 : nxt (l1' ++ [u]) (nxt (v :: l2') e) = nxt (l1' ++ [u]) e := by cases l1' <;> rfl
        rw [e4, hu]
        exact this
      · rw [seg_app, hu]
        exact ⟨(S1.behind hun v.b).other (fun j hj => x1 j hj v (by simp)), (S2.other (fun j hj => (fun q => x1 u (by simp) j hj q.symm))).before hv u.b⟩
end Go.Proofs.Ytedolfggbgmklaa
