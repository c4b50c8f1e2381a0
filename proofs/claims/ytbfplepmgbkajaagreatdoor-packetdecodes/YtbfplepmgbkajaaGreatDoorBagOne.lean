/- The lists of bytes that a Bag holds, in memory: the first loop of apartBytes (marks are written into each). -/
import Derived.Test.YtbfplepmgbkajaaGreatDoorKeep
namespace Go.Proofs.YtbfplepmgbkajaaGreatDoor
open Go.RowKit
set_option linter.unusedVariables false
set_option maxRecDepth 100000

/-- The mark at place i of list n. -/
def mark (n i : Nat) : Int := (31 * (n : Int) + 7 * (i : Int) + 3) % 256
def marks (n len : Nat) : List Int := (List.range len).map (mark n)
theorem length_marks (n len : Nat) : (marks n len).length = len := by simp [marks]
theorem marks_at (n len i : Nat) (h : i < len) : (marks n len)[i]? = some (mark n i) := by simp [marks, h]
theorem marks_succ (n i : Nat) : marks n (i + 1) = marks n i ++ [mark n i] := by simp [marks, List.range_succ]

def lenOf : Value → Nat
 | .slice _ n _ => n
 | _ => 0

/-- A Bag lies in block b; its lists of bytes are vs. -/
structure BagB (w : World) (b : Nat) (gv : Value) (vs : List Value) : Prop where
 cell : w.cell? ⟨b, 0, none⟩ = some gv
 own : w.ownsRow 0 40 1 gv vs.length vs
 rows : ∀ (m : Nat) (v : Value), vs[m]? = some v → ∃ xs : List Int, xs.length = lenOf v ∧ w.ownsRow 0 5 1 v (lenOf v) (bytesOf xs)
 apart : ∀ (m m' : Nat) (v v' : Value) (k : Nat), vs[m]? = some v → vs[m']? = some v' → v.ownBlock = some k → v'.ownBlock = some k → m = m'
 nb : ∀ (m : Nat) (v : Value), vs[m]? = some v → v.ownBlock ≠ some b
 ng : ∀ (m : Nat) (v : Value) (k : Nat), vs[m]? = some v → v.ownBlock = some k → gv.ownBlock ≠ some k
 nbg : gv.ownBlock ≠ some b
 few : vs.length ≤ 300
 small : ∀ (m : Nat) (v : Value), vs[m]? = some v → lenOf v ≤ 1048576

/-- The blocks of the lists. -/
def bagF (vs : List Value) : Nat → Prop := fun k => ∃ (m : Nat) (v : Value), vs[m]? = some v ∧ v.ownBlock = some k

/-- The first loop, at list n, place i. -/
structure In1 (w wr : World) (vs : List Value) (n i : Nat) : Prop where
 touch : Touch (bagF vs) w wr
 rows : ∀ (m : Nat) (v : Value), vs[m]? = some v → ∃ xs : List Int, xs.length = lenOf v ∧ wr.ownsRow 0 5 1 v (lenOf v) (bytesOf xs) ∧ (m < n → xs = marks m (lenOf v)) ∧ (m = n → xs.take i = marks n i)

theorem In1.start {w : World} {b : Nat} {gv : Value} {vs : List Value} (h : BagB w b gv vs) : In1 w w vs 0 0 :=
 ⟨Touch.refl _ _, fun m v hv => by obtain ⟨xs, h1, h2⟩ := h.rows m v hv; exact ⟨xs, h1, h2, by omega, fun _ => by simp [marks]⟩⟩

theorem BagB.bagCell {w wr : World} {b : Nat} {gv : Value} {vs : List Value} (h : BagB w b gv vs) (t : Touch (bagF vs) w wr) : wr.cell? ⟨b, 0, none⟩ = some gv :=
 (t.cell (p := ⟨b, 0, none⟩) (lt_of_cell h.cell) (by rintro ⟨m, v, hv, hk⟩; exact h.nb m v hv hk)).trans h.cell

theorem BagB.ownG {w wr : World} {b : Nat} {gv : Value} {vs : List Value} (h : BagB w b gv vs) (t : Touch (bagF vs) w wr) : wr.ownsRow 0 40 1 gv vs.length vs :=
 own_touch h.own t (by rintro k hk ⟨m, v, hv, hk'⟩; exact h.ng m v k hv hk' hk)

/-- An element of an owned row of values. -/
theorem own_elem {w : World} {base : Nat} {e : TypeId} {gv : Value} {vs : List Value} (h : w.ownsRow base e 1 gv vs.length vs) (n : Nat) (hn : n < vs.length) :
  ∃ gb gc v, gv = .slice (some ⟨gb, 0, none⟩) vs.length gc ∧ vs[n]? = some v ∧ w.cell? ⟨gb, n, none⟩ = some v := by
 rcases h.2 with ⟨_, h0⟩ | ⟨g, cap, cur, rfl, hb, hg, hnc, hcm, hcs, htake⟩
 ·omega
 ·refine ⟨g, cap, vs[n], rfl, List.getElem?_eq_getElem hn, ?_⟩
  have := h.cells (g := g) rfl n vs[n] (List.getElem?_eq_getElem hn)
  rw [add_plain] at this
  simpa using this

theorem own_lt {w : World} {base : Nat} {e : TypeId} {size : Nat} {v : Value} {n : Nat} {xs : List Value} (h : w.ownsRow base e size v n xs) {k : Nat} (hk : v.ownBlock = some k) : k < w.heap.size := (h.lt k hk).2

/-- What a round of the first inner loop reads. -/
theorem In1.at {w wr : World} {b : Nat} {gv : Value} {vs : List Value} {n i : Nat} (h : BagB w b gv vs) (hi : In1 w wr vs n i) (v : Value) (hv : vs[n]? = some v) (hlt : i < lenOf v) :
  ∃ g c x, v = .slice (some ⟨g, 0, none⟩) (lenOf v) c ∧ wr.cell? ⟨g, i, none⟩ = some (.int .u8 x) ∧ wr.frozen? ⟨g, i, none⟩ = false ∧ In1 w (wr.setCell ⟨g, i, none⟩ (.int .u8 (mark n i))) vs n (i + 1) := by
 obtain ⟨xs, h1, h2, h3, h4⟩ := hi.rows n v hv
 rcases h2.2 with ⟨_, h0⟩ | ⟨g, cap, cur, hve, hb, hg, hnc, hcm, hcs, htake⟩
 ·omega
 ·have h2' : wr.ownsRow 0 5 1 (.slice (some ⟨g, 0, none⟩) (lenOf v) cap) (lenOf v) (bytesOf xs) := by rw [← hve]; exact h2
  refine ⟨g, cap, xs.getD i 0, hve, ?_, h2'.frozenAt i, ?_⟩
  ·rw [h2'.cellAt i (by omega)]
   simp only [bytesOf, List.getElem?_map]
   rw [List.getElem?_eq_getElem (by omega)]
   simp [List.getD, h1, hlt]
  ·have tg : Touch (fun k => k = g) wr (wr.setCell ⟨g, i, none⟩ (.int .u8 (mark n i))) := Touch.setCell (F := fun k => k = g) (p := ⟨g, i, none⟩) (Touch.refl _ wr) (Or.inl rfl) _
   have hvb : v.ownBlock = some g := by rw [hve]; rfl
   refine ⟨hi.touch.trans' tg (fun k _ hk => ⟨n, v, hv, by rw [hk]; exact hvb⟩), fun m u hu => ?_⟩
   by_cases hm : m = n
   ·subst hm
    obtain rfl : v = u := by rw [hv] at hu; exact Option.some.inj hu
    refine ⟨xs.set i (mark m i), by simp [h1], ?_, by omega, fun _ => ?_⟩
    ·rw [show bytesOf (xs.set i (mark m i)) = (bytesOf xs).set i (.int .u8 (mark m i)) from by simp [bytesOf, List.map_set]]
     have := (h2'.stored i (.int .u8 (mark m i))).1
     rwa [← hve] at this
    ·have h4' := h4 rfl
     rw [marks_succ, ← h4']
     apply List.ext_getElem?
     intro j
     rw [List.getElem?_take]
     rcases Nat.lt_trichotomy j i with hj | hj | hj
     ·rw [if_pos (by omega), List.getElem?_set, if_neg (by omega), List.getElem?_append_left (by simp; omega), List.getElem?_take, if_pos hj]
     ·subst hj
      rw [if_pos (by omega), List.getElem?_set, if_pos rfl, if_pos (by omega), List.getElem?_append_right (by simp; omega)]
      simp [h1, Nat.min_eq_left (Nat.le_of_lt hlt)]
     ·rw [if_neg (by omega), List.getElem?_eq_none (by simp; omega)]
   ·obtain ⟨ys, k1, k2, k3, k4⟩ := hi.rows m u hu
    exact ⟨ys, k1, own_touch k2 tg (fun k hk e => hm (h.apart m n u v k hu hv hk (by rw [e]; exact hvb))), k3, fun e => absurd e hm⟩

theorem In1.next {w wr : World} {vs : List Value} {n : Nat} (v : Value) (hv : vs[n]? = some v) (hi : In1 w wr vs n (lenOf v)) : In1 w wr vs (n + 1) 0 := by
 refine ⟨hi.touch, fun m u hu => ?_⟩
 obtain ⟨xs, h1, h2, h3, h4⟩ := hi.rows m u hu
 refine ⟨xs, h1, h2, fun hm => ?_, fun _ => by simp [marks]⟩
 by_cases e : m = n
 ·subst e
  obtain rfl : v = u := by rw [hv] at hu; exact Option.some.inj hu
  rw [← h4 rfl, List.take_of_length_le (by omega)]
 ·exact h3 (by omega)

theorem In1.form {w wr : World} {vs : List Value} {n i m : Nat} (hi : In1 w wr vs n i) {v : Value} (hv : vs[m]? = some v) : ∃ a c, v = .slice a (lenOf v) c := by
 obtain ⟨xs, _, h2, _⟩ := hi.rows m v hv
 exact own_form h2

/-- A slice that begins at its row's head reads as rs. -/
def Row0 (w : World) (v : Value) (rs : List Int) : Prop :=
 (v = .slice none 0 0 ∧ rs = []) ∨ ∃ g c, v = .slice (some ⟨g, 0, none⟩) rs.length c ∧ rs.length ≤ c ∧ c ≤ maxLen ∧ ∀ j u, (bytesOf rs)[j]? = some u → w.cell? ⟨g, j, none⟩ = some u

theorem Row0.touch {F : Nat → Prop} {w w' : World} {v : Value} {rs : List Int} (h : Row0 w v rs) (t : Touch F w w') (hn : ∀ k, v.ownBlock = some k → ¬ F k) : Row0 w' v rs := by
 rcases h with h | ⟨g, c, rfl, h1, h2, h3⟩
 ·exact Or.inl h
 ·refine Or.inr ⟨g, c, rfl, h1, h2, fun j u hj => ?_⟩
  have hc := h3 j u hj
  exact (t.cell (p := ⟨g, j, none⟩) (lt_of_cell hc) (hn g rfl)).trans hc

theorem own_row0 {w : World} {base : Nat} {v : Value} {n : Nat} {bs : List Int} (h : w.ownsRow base 5 1 v n (bytesOf bs)) (hn : bs.length = n) : Row0 w v bs := by
 subst hn
 rcases h.2 with ⟨rfl, e⟩ | ⟨g, cap, cur, rfl, hg, hh, hnc, hcm, hcs, htake⟩
 ·exact Or.inl ⟨rfl, List.eq_nil_of_length_eq_zero e⟩
 ·refine Or.inr ⟨g, cap, rfl, hnc, hcm, fun j u hj => ?_⟩
  have := h.cells (g := g) rfl j u hj
  rw [add_plain] at this
  simpa using this

/-- What a shorter slice of the same row reads, out of what a longer one owns. -/
theorem row0_within {w w' : World} {base : Nat} {l o : Value} {n i L : Nat} (ho : Row0 w o (marks n L)) (hl : w'.ownsRow base 5 1 l i (bytesOf (marks n i))) (hL : L ≤ i) (hb : o.ownBlock = l.ownBlock) : Row0 w' o (marks n L) := by
 rcases ho with h | ⟨g, c, rfl, h1, h2, h3⟩
 ·exact Or.inl h
 ·refine Or.inr ⟨g, c, rfl, h1, h2, fun j u hj => ?_⟩
  have hlg : l.ownBlock = some g := by rw [← hb]; rfl
  have := hl.cells (g := g) hlg j u (by
   have hjl : j < L := by
    have := (List.getElem?_eq_some_iff.mp hj).1
    simpa [length_bytesOf, length_marks] using this
   simp only [bytesOf, List.getElem?_map] at hj ⊢
   rw [marks_at _ _ _ hjl] at hj
   rw [marks_at _ _ _ (by omega)]
   exact hj)
  rw [add_plain] at this
  simpa using this

/-- The second loop's state: the rows 'one' and 'more' are new and lie apart; G says to which list a block belongs. -/
structure St (w wr : World) (vs : List Value) (G : Nat → Nat → Prop) (one : Value) (ones : List Value) (more : Value) (mores : List Value) (q : Nat) : Prop where
 touch : Touch (bagF vs) w wr
 fn : ∀ k m m', G k m → G k m' → m = m'
 lt : ∀ k m, G k m → k < wr.heap.size
 gF : ∀ k m, G k m → bagF vs k ∨ w.heap.size ≤ k
 rowsR : ∀ (m : Nat) (v : Value), vs[m]? = some v → Row0 wr v (marks m (lenOf v)) ∧ ∀ k, v.ownBlock = some k → G k m
 rowsO : ∀ (m : Nat) (v : Value), vs[m]? = some v → q ≤ m → wr.ownsRow 0 5 1 v (lenOf v) (bytesOf (marks m (lenOf v)))
 own1 : wr.ownsRow w.heap.size 40 1 one ones.length ones
 own2 : wr.ownsRow w.heap.size 40 1 more mores.length mores
 els1 : ∀ (m : Nat) (o v : Value), ones[m]? = some o → vs[m]? = some v → Row0 wr o (marks m (lenOf v + 1)) ∧ ∀ k, o.ownBlock = some k → G k m
 els2 : ∀ (m : Nat) (o v : Value), mores[m]? = some o → vs[m]? = some v → Row0 wr o (marks m (lenOf v + 70)) ∧ ∀ k, o.ownBlock = some k → G k m
 g1 : ∀ k, one.ownBlock = some k → ∀ m, ¬ G k m
 g2 : ∀ k, more.ownBlock = some k → ∀ m, ¬ G k m
 g12 : ∀ k, one.ownBlock = some k → more.ownBlock ≠ some k

theorem St.start {w wr : World} {b : Nat} {gv : Value} {vs : List Value} (h : BagB w b gv vs) (hi : In1 w wr vs vs.length 0) :
  St w wr vs (fun k m => ∃ v, vs[m]? = some v ∧ v.ownBlock = some k) (.slice none 0 0) [] (.slice none 0 0) [] 0 := by
 have hrow : ∀ (m : Nat) (v : Value), vs[m]? = some v → wr.ownsRow 0 5 1 v (lenOf v) (bytesOf (marks m (lenOf v))) := by
  intro m v hv
  obtain ⟨xs, h1, h2, h3, h4⟩ := hi.rows m v hv
  rw [← h3 (List.getElem?_eq_some_iff.mp hv).1]
  exact h2
 refine ⟨hi.touch, ?_, ?_, ?_, ?_, fun m v hv _ => hrow m v hv, World.ownsRow_nil _ _ _ _, World.ownsRow_nil _ _ _ _, by simp, by simp, by simp [Value.ownBlock], by simp [Value.ownBlock], by simp [Value.ownBlock]⟩
 ·rintro k m m' ⟨v, hv, hk⟩ ⟨v', hv', hk'⟩
  exact h.apart m m' v v' k hv hv' hk hk'
 ·rintro k m ⟨v, hv, hk⟩
  exact own_lt (hrow m v hv) hk
 ·rintro k m ⟨v, hv, hk⟩
  exact Or.inl ⟨m, v, hv, hk⟩
 ·intro m v hv
  exact ⟨own_row0 (hrow m v hv) (length_marks _ _), fun k hk => ⟨v, hv, hk⟩⟩

/-- An append of a mark to list n's own slice l. -/
theorem St.grow {w wr w1 : World} {vs : List Value} {G : Nat → Nat → Prop} {one more : Value} {ones mores : List Value} {n i : Nat} {l l' v : Value} (o : Obj) (h : St w wr vs G one ones more mores (n + 1)) (hv : vs[n]? = some v)
  (hl : wr.ownsRow 0 5 1 l i (bytesOf (marks n i))) (hlG : ∀ k, l.ownBlock = some k → G k n) (hi : lenOf v ≤ i)
  (hones : ones.length = n ∨ (ones.length = n + 1 ∧ lenOf v + 1 ≤ i)) (hmores : mores.length = n)
  (hown : w1.ownsRow 0 5 1 l' (i + 1) (bytesOf (marks n i) ++ [.int .u8 (mark n i)])) (hkeep : w1.ownsRow 0 5 1 l i (bytesOf (marks n i)))
  (hgrow : (wr.alloc o).grownBy w1 l.ownBlock) (hat : l'.ownBlock = l.ownBlock ∨ l'.ownBlock = some (wr.heap.size + 1)) :
  ∃ G', St w w1 vs G' one ones more mores (n + 1) ∧ w1.ownsRow 0 5 1 l' (i + 1) (bytesOf (marks n (i + 1))) ∧ (∀ k, l'.ownBlock = some k → G' k n) := by
 have t : Touch (fun k => l.ownBlock = some k) wr w1 := ((Touch.refl _ wr).alloc o).grown hgrow (fun k hk => Or.inl hk)
 have hne : ∀ k m, G k m → m ≠ n → ¬ l.ownBlock = some k := fun k m hg hm e => hm (h.fn k m n hg (hlG k e))
 have hnone : ∀ k, (∀ m, ¬ G k m) → ¬ l.ownBlock = some k := fun k hg e => hg n (hlG k e)
 have keep : ∀ (u : Value) (L : Nat), Row0 wr u (marks n L) → L ≤ i → Row0 w1 u (marks n L) := by
  intro u L hu hL
  by_cases e : u.ownBlock = l.ownBlock
  ·exact row0_within hu hkeep hL e
  ·exact hu.touch t (fun k hk e' => e (by rw [hk, e']))
 have hs1 : wr.heap.size + 1 ≤ w1.heap.size := by have := hgrow.size; simpa using this
 have hsz := h.touch.size
 refine ⟨fun k m => G k m ∨ (k = wr.heap.size + 1 ∧ m = n ∧ l'.ownBlock = some k), ⟨?_, ?_, ?_, ?_, ?_, ?_, ?_, ?_, ?_, ?_, ?_, ?_, h.g12⟩, ?_, ?_⟩
 ·exact h.touch.trans' t (fun k hk e => by rcases h.gF k n (hlG k e) with g | g; exact g; omega)
 ·rintro k m m' (g | ⟨e, rfl, _⟩) (g' | ⟨e', rfl, _⟩)
  ·exact h.fn k m m' g g'
  ·have := h.lt k m g; omega
  ·have := h.lt k m' g'; omega
  ·rfl
 ·rintro k m (g | ⟨rfl, _, hk⟩)
  ·have := h.lt k m g; omega
  ·exact own_lt hown hk
 ·rintro k m (g | ⟨e, _, _⟩)
  ·exact h.gF k m g
  ·right; omega
 ·intro m u hu
  obtain ⟨r, g⟩ := h.rowsR m u hu
  refine ⟨?_, fun k hk => Or.inl (g k hk)⟩
  by_cases e : m = n
  ·subst e
   obtain rfl : v = u := by rw [hv] at hu; exact Option.some.inj hu
   exact keep _ _ r hi
  ·exact r.touch t (fun k hk => hne k m (g k hk) e)
 ·intro m u hu hq
  exact own_touch (h.rowsO m u hu hq) t (fun k hk => hne k m ((h.rowsR m u hu).2 k hk) (by omega))
 ·exact own_touch h.own1 t (fun k hk => hnone k (h.g1 k hk))
 ·exact own_touch h.own2 t (fun k hk => hnone k (h.g2 k hk))
 ·intro m u x hu hx
  obtain ⟨r, g⟩ := h.els1 m u x hu hx
  refine ⟨?_, fun k hk => Or.inl (g k hk)⟩
  by_cases e : m = n
  ·subst e
   obtain rfl : v = x := by rw [hv] at hx; exact Option.some.inj hx
   have := (List.getElem?_eq_some_iff.mp hu).1
   exact keep _ _ r (by omega)
  ·exact r.touch t (fun k hk => hne k m (g k hk) e)
 ·intro m u x hu hx
  obtain ⟨r, g⟩ := h.els2 m u x hu hx
  have := (List.getElem?_eq_some_iff.mp hu).1
  exact ⟨r.touch t (fun k hk => hne k m (g k hk) (by omega)), fun k hk => Or.inl (g k hk)⟩
 ·rintro k hk m (g | ⟨e, _, _⟩)
  ·exact h.g1 k hk m g
  ·have := own_lt h.own1 hk; omega
 ·rintro k hk m (g | ⟨e, _, _⟩)
  ·exact h.g2 k hk m g
  ·have := own_lt h.own2 hk; omega
 ·rw [marks_succ, bytesOf_append]
  exact hown
 ·intro k hk
  rcases hat with e | e
  ·exact Or.inl (hlG k (by rw [← e]; exact hk))
  ·right
   rw [e] at hk
   simp at hk
   exact ⟨hk.symm, rfl, by rw [e, hk]⟩

/-- An append of a slice to 'one'. -/
theorem St.add1 {w w1 w2 : World} {vs : List Value} {G : Nat → Nat → Prop} {one one' more : Value} {ones mores : List Value} {n q : Nat} {l v : Value} (o : Obj) (h : St w w1 vs G one ones more mores q) (hv : vs[n]? = some v)
  (hl : w1.ownsRow 0 5 1 l (lenOf v + 1) (bytesOf (marks n (lenOf v + 1)))) (hlG : ∀ k, l.ownBlock = some k → G k n) (hones : ones.length = n)
  (hown : w2.ownsRow w.heap.size 40 1 one' (ones.length + 1) (ones ++ [l])) (hgrow : (w1.alloc o).grownBy w2 one.ownBlock) (hat : one'.ownBlock = one.ownBlock ∨ one'.ownBlock = some (w1.heap.size + 1)) :
  St w w2 vs G one' (ones ++ [l]) more mores q ∧ w2.ownsRow 0 5 1 l (lenOf v + 1) (bytesOf (marks n (lenOf v + 1))) := by
 have t : Touch (fun k => one.ownBlock = some k) w1 w2 := ((Touch.refl _ w1).alloc o).grown hgrow (fun k hk => Or.inl hk)
 have hne : ∀ k m, G k m → ¬ one.ownBlock = some k := fun k m hg e => h.g1 k e m hg
 have hs1 : w1.heap.size + 1 ≤ w2.heap.size := by have := hgrow.size; simpa using this
 have hl' := own_touch hl t (fun k hk => hne k n (hlG k hk))
 refine ⟨⟨?_, h.fn, fun k m g => by have := h.lt k m g; omega, h.gF, ?_, ?_, by simpa using hown, ?_, ?_, ?_, ?_, h.g2, ?_⟩, hl'⟩
 ·exact h.touch.trans' t (fun k hk e => by have := (h.own1.lt k e).1; omega)
 ·intro m u hu
  obtain ⟨r, g⟩ := h.rowsR m u hu
  exact ⟨r.touch t (fun k hk => hne k m (g k hk)), g⟩
 ·intro m u hu hq
  exact own_touch (h.rowsO m u hu hq) t (fun k hk => hne k m ((h.rowsR m u hu).2 k hk))
 ·exact own_touch h.own2 t (fun k hk e => h.g12 k e hk)
 ·intro m u x hu hx
  rcases Nat.lt_or_ge m ones.length with hm | hm
  ·rw [List.getElem?_append_left hm] at hu
   obtain ⟨r, g⟩ := h.els1 m u x hu hx
   exact ⟨r.touch t (fun k hk => hne k m (g k hk)), g⟩
  ·rw [List.getElem?_append_right hm] at hu
   have e : m = n := by
    have := (List.getElem?_eq_some_iff.mp hu).1
    simp at this
    omega
   subst e
   obtain rfl : v = x := by rw [hv] at hx; exact Option.some.inj hx
   simp [hones] at hu
   subst hu
   exact ⟨own_row0 hl' (length_marks _ _), hlG⟩
 ·intro m u x hu hx
  obtain ⟨r, g⟩ := h.els2 m u x hu hx
  exact ⟨r.touch t (fun k hk => hne k m (g k hk)), g⟩
 ·intro k hk m g
  rcases hat with e | e
  ·exact h.g1 k (by rw [← e]; exact hk) m g
  ·rw [e] at hk; simp at hk; have := h.lt k m g; omega
 ·intro k hk
  rcases hat with e | e
  ·exact h.g12 k (by rw [← e]; exact hk)
  ·intro e2
   rw [e] at hk; simp at hk; have := own_lt h.own2 e2; omega

/-- An append of a slice to 'more'. -/
theorem St.add2 {w w1 w2 : World} {vs : List Value} {G : Nat → Nat → Prop} {one more more' : Value} {ones mores : List Value} {n q : Nat} {l v : Value} (o : Obj) (h : St w w1 vs G one ones more mores q) (hv : vs[n]? = some v)
  (hl : w1.ownsRow 0 5 1 l (lenOf v + 70) (bytesOf (marks n (lenOf v + 70)))) (hlG : ∀ k, l.ownBlock = some k → G k n) (hmores : mores.length = n)
  (hown : w2.ownsRow w.heap.size 40 1 more' (mores.length + 1) (mores ++ [l])) (hgrow : (w1.alloc o).grownBy w2 more.ownBlock) (hat : more'.ownBlock = more.ownBlock ∨ more'.ownBlock = some (w1.heap.size + 1)) :
  St w w2 vs G one ones more' (mores ++ [l]) q := by
 have t : Touch (fun k => more.ownBlock = some k) w1 w2 := ((Touch.refl _ w1).alloc o).grown hgrow (fun k hk => Or.inl hk)
 have hne : ∀ k m, G k m → ¬ more.ownBlock = some k := fun k m hg e => h.g2 k e m hg
 have hs1 : w1.heap.size + 1 ≤ w2.heap.size := by have := hgrow.size; simpa using this
 have hl' := own_touch hl t (fun k hk => hne k n (hlG k hk))
 refine ⟨?_, h.fn, fun k m g => by have := h.lt k m g; omega, h.gF, ?_, ?_, ?_, by simpa using hown, ?_, ?_, h.g1, ?_, ?_⟩
 ·exact h.touch.trans' t (fun k hk e => by have := (h.own2.lt k e).1; omega)
 ·intro m u hu
  obtain ⟨r, g⟩ := h.rowsR m u hu
  exact ⟨r.touch t (fun k hk => hne k m (g k hk)), g⟩
 ·intro m u hu hq
  exact own_touch (h.rowsO m u hu hq) t (fun k hk => hne k m ((h.rowsR m u hu).2 k hk))
 ·exact own_touch h.own1 t (fun k hk e => h.g12 k hk e)
 ·intro m u x hu hx
  obtain ⟨r, g⟩ := h.els1 m u x hu hx
  exact ⟨r.touch t (fun k hk => hne k m (g k hk)), g⟩
 ·intro m u x hu hx
  rcases Nat.lt_or_ge m mores.length with hm | hm
  ·rw [List.getElem?_append_left hm] at hu
   obtain ⟨r, g⟩ := h.els2 m u x hu hx
   exact ⟨r.touch t (fun k hk => hne k m (g k hk)), g⟩
  ·rw [List.getElem?_append_right hm] at hu
   have e : m = n := by
    have := (List.getElem?_eq_some_iff.mp hu).1
    simp at this
    omega
   subst e
   obtain rfl : v = x := by rw [hv] at hx; exact Option.some.inj hx
   simp [hmores] at hu
   subst hu
   exact ⟨own_row0 hl' (length_marks _ _), hlG⟩
 ·intro k hk m g
  rcases hat with e | e
  ·exact h.g2 k (by rw [← e]; exact hk) m g
  ·rw [e] at hk; simp at hk; have := h.lt k m g; omega
 ·intro k hk e2
  rcases hat with e | e
  ·exact h.g12 k hk (by rw [← e]; exact e2)
  ·rw [e] at e2; simp at e2; have := own_lt h.own1 hk; omega

theorem St.weaken {w wr : World} {vs : List Value} {G : Nat → Nat → Prop} {one more : Value} {ones mores : List Value} {q q' : Nat} (h : St w wr vs G one ones more mores q) (hq : q ≤ q') : St w wr vs G one ones more mores q' :=
 ⟨h.touch, h.fn, h.lt, h.gF, h.rowsR, fun m v hv hm => h.rowsO m v hv (by omega), h.own1, h.own2, h.els1, h.els2, h.g1, h.g2, h.g12⟩
end Go.Proofs.YtbfplepmgbkajaaGreatDoor
