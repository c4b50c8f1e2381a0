/- The lists that a Bag holds, of any kind of element: marks are written into each, each is grown, and looked at. -/
import Derived.Test.YtbfplepmgbkajaaGreatDoorBagOne
import Derived.Test.YtbfplepmgbkajaaGreatDoorWideV
namespace Go.Proofs.YtbfplepmgbkajaaGreatDoor
open Go.RowKit
set_option linter.unusedVariables false
set_option maxRecDepth 100000

/-- A kind of element: its type, its slice's type, how many cells it has, its mark at place i of list n. -/
structure Kd where
 e : Nat
 st : Nat
 k : Nat
 mark : Nat → Nat → List Value
structure Kd.Ok (K : Kd) : Prop where
 hk : 0 < K.k
 hm : ∀ n i, (K.mark n i).length = K.k
def mrow (K : Kd) (n L : Nat) : List Value := elems (K.mark n) L
theorem mrow_succ (K : Kd) (n L : Nat) : mrow K n (L + 1) = mrow K n L ++ K.mark n L := elems_succ _ _
theorem mrow_at {K : Kd} (ok : K.Ok) {n L i c : Nat} (hi : i < L) (hc : c < K.k) : (mrow K n L)[i * K.k + c]? = (K.mark n i)[c]? := elems_at (ok.hm n) hi hc
theorem mrow_pre {K : Kd} (ok : K.Ok) {n L L' j : Nat} (h : L ≤ L') {u : Value} (hj : (mrow K n L)[j]? = some u) : (mrow K n L')[j]? = some u := by
 obtain ⟨h1, h2⟩ := elems_one ok.hk (ok.hm n) hj
 have e := mrow_at ok (n := n) (L := L') (i := j / K.k) (c := j % K.k) (by omega) (Nat.mod_lt j ok.hk)
 rw [show j / K.k * K.k + j % K.k = j by rw [Nat.mul_comm]; exact Nat.div_add_mod j K.k] at e
 rw [e]
 exact h2
/-- A Bag lies in block b; its lists of kind K, in column c, are vs. -/
structure BagG (K : Kd) (c : Nat) (w : World) (b : Nat) (gv : Value) (vs : List Value) : Prop where
 cell : w.cell? ⟨b, c, none⟩ = some gv
 own : w.ownsRow 0 K.st 1 gv vs.length vs
 rows : ∀ (m : Nat) (v : Value), vs[m]? = some v → ∃ xs : List Value, w.ownsRow 0 K.e K.k v (lenOf v) xs
 apart : ∀ (m m' : Nat) (v v' : Value) (k : Nat), vs[m]? = some v → vs[m']? = some v' → v.ownBlock = some k → v'.ownBlock = some k → m = m'
 nb : ∀ (m : Nat) (v : Value), vs[m]? = some v → v.ownBlock ≠ some b
 ng : ∀ (m : Nat) (v : Value) (k : Nat), vs[m]? = some v → v.ownBlock = some k → gv.ownBlock ≠ some k
 nbg : gv.ownBlock ≠ some b
 few : vs.length ≤ 300
 small : ∀ (m : Nat) (v : Value), vs[m]? = some v → lenOf v ≤ 1048576
theorem BagG.nil {K : Kd} {c : Nat} {w : World} {b : Nat} (h : w.cell? ⟨b, c, none⟩ = some (.slice none 0 0)) : BagG K c w b (.slice none 0 0) [] :=
 ⟨h, World.ownsRow_nil _ _ _ _, by simp, by simp, by simp, by simp, by simp [Value.ownBlock], by simp, by simp⟩
/-- Blocks that are not its own may be touched; its cell of the Bag must be the same. -/
theorem BagG.touch {K : Kd} {c : Nat} {F : Nat → Prop} {w w' : World} {b : Nat} {gv : Value} {vs : List Value} (h : BagG K c w b gv vs) (t : Touch F w w') (hc : w'.cell? ⟨b, c, none⟩ = some gv) (hg : ∀ k, gv.ownBlock = some k → ¬ F k) (hr : ∀ (m : Nat) (v : Value) (k : Nat), vs[m]? = some v → v.ownBlock = some k → ¬ F k) : BagG K c w' b gv vs where
 cell := hc
 own := own_touch h.own t hg
 rows := fun m v hm => by
  obtain ⟨xs, h2⟩ := h.rows m v hm
  exact ⟨xs, own_touch h2 t (fun k hk => hr m v k hm hk)⟩
 apart := h.apart
 nb := h.nb
 ng := h.ng
 nbg := h.nbg
 few := h.few
 small := h.small
theorem BagG.keep {K : Kd} {c : Nat} {w w' : World} {b : Nat} {gv : Value} {vs : List Value} (h : BagG K c w b gv vs) (t : Touch (fun _ => False) w w') : BagG K c w' b gv vs :=
 h.touch t (t.cellN h.cell) (fun _ _ h => h) (fun _ _ _ _ _ h => h)
/-- The first loop, at list n, place i. -/
structure GIn1 (K : Kd) (w wr : World) (vs : List Value) (n i : Nat) : Prop where
 touch : Touch (bagF vs) w wr
 rows : ∀ (m : Nat) (v : Value), vs[m]? = some v → ∃ xs : List Value, wr.ownsRow 0 K.e K.k v (lenOf v) xs ∧ (m < n → xs = mrow K m (lenOf v)) ∧ (m = n → xs.take (i * K.k) = mrow K n i)
theorem GIn1.start {K : Kd} {c : Nat} {w : World} {b : Nat} {gv : Value} {vs : List Value} (h : BagG K c w b gv vs) : GIn1 K w w vs 0 0 :=
 ⟨Touch.refl _ _, fun m v hv => by obtain ⟨xs, h2⟩ := h.rows m v hv; exact ⟨xs, h2, by omega, fun _ => by simp [mrow, elems]⟩⟩
theorem BagG.bagCell {K : Kd} {c : Nat} {w wr : World} {b : Nat} {gv : Value} {vs : List Value} (h : BagG K c w b gv vs) (t : Touch (bagF vs) w wr) : wr.cell? ⟨b, c, none⟩ = some gv :=
 (t.cell (p := ⟨b, c, none⟩) (lt_of_cell h.cell) (by rintro ⟨m, v, hv, hk⟩; exact h.nb m v hv hk)).trans h.cell
theorem BagG.ownG {K : Kd} {c : Nat} {w wr : World} {b : Nat} {gv : Value} {vs : List Value} (h : BagG K c w b gv vs) (t : Touch (bagF vs) w wr) : wr.ownsRow 0 K.st 1 gv vs.length vs :=
 own_touch h.own t (by rintro k hk ⟨m, v, hv, hk'⟩; exact h.ng m v k hv hk' hk)
/-- What a round of the first inner loop reads and leaves. -/
theorem GIn1.at {K : Kd} (ok : K.Ok) {c : Nat} {w wr : World} {b : Nat} {gv : Value} {vs : List Value} {n i : Nat} (h : BagG K c w b gv vs) (hi : GIn1 K w wr vs n i) (v : Value) (hv : vs[n]? = some v) (hlt : i < lenOf v) :
  ∃ g cp, v = .slice (some ⟨g, 0, none⟩) (lenOf v) cp ∧ (∀ q, q < K.k → ∃ x, wr.cell? ⟨g, i * K.k + q, none⟩ = some x ∧ wr.frozen? ⟨g, i * K.k + q, none⟩ = false) ∧ GIn1 K w (putAll wr g (i * K.k) (K.mark n i) 0) vs n (i + 1) := by
 obtain ⟨xs, h2, h3, h4⟩ := hi.rows n v hv
 have hkk := ok.hk
 have hle : i * K.k + K.k ≤ lenOf v * K.k := by have := Nat.mul_le_mul_right K.k (show i + 1 ≤ lenOf v by omega); rw [Nat.succ_mul] at this; exact this
 have hxl := h2.1
 rcases h2.2 with ⟨_, h0⟩ | ⟨g, cap, cur, hve, hb, hg, hnc, hcm, hcs, htake⟩
 ·omega
 ·have h2' : wr.ownsRow 0 K.e K.k (.slice (some ⟨g, 0, none⟩) (lenOf v) cap) (lenOf v) xs := by rw [← hve]; exact h2
  refine ⟨g, cap, hve, fun q hq => ⟨xs[i * K.k + q]'(by omega), ?_, h2'.frozenAt _⟩, ?_⟩
  ·rw [h2'.cellAt _ (by omega), List.getElem?_eq_getElem (by omega)]
  ·have tg : Touch (fun k => k = g) wr (putAll wr g (i * K.k) (K.mark n i) 0) := touch_putAll (F := fun k => k = g) (Or.inl rfl) _ _ _ _ (Touch.refl _ wr)
   have hvb : v.ownBlock = some g := by rw [hve]; rfl
   refine ⟨hi.touch.trans' tg (fun k _ hk => ⟨n, v, hv, by rw [hk]; exact hvb⟩), fun m u hu => ?_⟩
   by_cases hm : m = n
   ·subst hm
    obtain rfl : v = u := by rw [hv] at hu; exact Option.some.inj hu
    refine ⟨setAll xs (i * K.k) (K.mark m i) 0, ?_, by omega, fun _ => ?_⟩
    ·have := own_putAll (K.mark m i) wr xs (i * K.k) 0 h2'
     rwa [← hve] at this
    ·have h4' := h4 rfl
     have hml := ok.hm m i
     rw [mrow_succ, ← h4', Nat.succ_mul]
     apply List.ext_getElem?
     intro j
     rw [List.getElem?_take]
     by_cases hj : j < i * K.k + K.k
     ·rw [if_pos hj, setAll_get _ _ _ _ _ (by rw [hxl, hml]; omega)]
      by_cases hj2 : j < i * K.k
      ·rw [if_neg (by omega), List.getElem?_append_left (by rw [List.length_take]; omega), List.getElem?_take, if_pos hj2]
      ·rw [if_pos (by omega), List.getElem?_append_right (by rw [List.length_take]; omega)]
       congr 1
       rw [List.length_take]
       omega
     ·rw [if_neg hj, List.getElem?_eq_none (by rw [List.length_append, List.length_take, hml]; omega)]
   ·obtain ⟨ys, k2, k3, k4⟩ := hi.rows m u hu
    exact ⟨ys, own_touch k2 tg (fun k hk e => hm (h.apart m n u v k hu hv hk (by rw [e]; exact hvb))), k3, fun e => absurd e hm⟩
theorem GIn1.next {K : Kd} {w wr : World} {vs : List Value} {n : Nat} (v : Value) (hv : vs[n]? = some v) (hi : GIn1 K w wr vs n (lenOf v)) : GIn1 K w wr vs (n + 1) 0 := by
 refine ⟨hi.touch, fun m u hu => ?_⟩
 obtain ⟨xs, h2, h3, h4⟩ := hi.rows m u hu
 refine ⟨xs, h2, fun hm => ?_, fun _ => by simp [mrow, elems]⟩
 by_cases e : m = n
 ·subst e
  obtain rfl : v = u := by rw [hv] at hu; exact Option.some.inj hu
  rw [← h4 rfl, List.take_of_length_le (by rw [h2.1]; omega)]
 ·exact h3 (by omega)
theorem GIn1.form {K : Kd} {w wr : World} {vs : List Value} {n i m : Nat} (hi : GIn1 K w wr vs n i) {v : Value} (hv : vs[m]? = some v) : ∃ a c, v = .slice a (lenOf v) c := by
 obtain ⟨xs, h2, _⟩ := hi.rows m v hv
 exact own_form h2
/-- A slice that begins at its row's head reads as list n's marks, L of them. -/
def GRow (K : Kd) (w : World) (v : Value) (n L : Nat) : Prop :=
 (v = .slice none 0 0 ∧ L = 0) ∨ ∃ g c, v = .slice (some ⟨g, 0, none⟩) L c ∧ L ≤ c ∧ c ≤ maxLen ∧ ∀ j u, (mrow K n L)[j]? = some u → w.cell? ⟨g, j, none⟩ = some u
theorem GRow.touch {K : Kd} {F : Nat → Prop} {w w' : World} {v : Value} {n L : Nat} (h : GRow K w v n L) (t : Touch F w w') (hn : ∀ k, v.ownBlock = some k → ¬ F k) : GRow K w' v n L := by
 rcases h with h | ⟨g, c, rfl, h1, h2, h3⟩
 ·exact Or.inl h
 ·refine Or.inr ⟨g, c, rfl, h1, h2, fun j u hj => ?_⟩
  have hc := h3 j u hj
  exact (t.cell (p := ⟨g, j, none⟩) (lt_of_cell hc) (hn g rfl)).trans hc
theorem own_grow {K : Kd} {w : World} {base : Nat} {v : Value} {n L : Nat} (h : w.ownsRow base K.e K.k v L (mrow K n L)) : GRow K w v n L := by
 rcases h.2 with ⟨rfl, e⟩ | ⟨g, cap, cur, rfl, hg, hh, hnc, hcm, hcs, htake⟩
 ·exact Or.inl ⟨rfl, e⟩
 ·refine Or.inr ⟨g, cap, rfl, hnc, hcm, fun j u hj => ?_⟩
  have := h.cells (g := g) rfl j u hj
  rw [add_plain] at this
  simpa using this
/-- What a shorter slice of the same row reads, out of what a longer one owns. -/
theorem grow_within {K : Kd} (ok : K.Ok) {w w' : World} {base : Nat} {l o : Value} {n i L : Nat} (ho : GRow K w o n L) (hl : w'.ownsRow base K.e K.k l i (mrow K n i)) (hL : L ≤ i) (hb : o.ownBlock = l.ownBlock) : GRow K w' o n L := by
 rcases ho with h | ⟨g, c, rfl, h1, h2, h3⟩
 ·exact Or.inl h
 ·refine Or.inr ⟨g, c, rfl, h1, h2, fun j u hj => ?_⟩
  have hlg : l.ownBlock = some g := by rw [← hb]; rfl
  have := hl.cells (g := g) hlg j u (mrow_pre ok hL hj)
  rw [add_plain] at this
  simpa using this
/-- The second loop's state: the rows 'one' and 'more' are new and lie apart; G says to which list a block belongs. -/
structure GSt (K : Kd) (w wr : World) (vs : List Value) (G : Nat → Nat → Prop) (one : Value) (ones : List Value) (more : Value) (mores : List Value) (q : Nat) : Prop where
 touch : Touch (bagF vs) w wr
 fn : ∀ k m m', G k m → G k m' → m = m'
 lt : ∀ k m, G k m → k < wr.heap.size
 gF : ∀ k m, G k m → bagF vs k ∨ w.heap.size ≤ k
 rowsR : ∀ (m : Nat) (v : Value), vs[m]? = some v → GRow K wr v m (lenOf v) ∧ ∀ k, v.ownBlock = some k → G k m
 rowsO : ∀ (m : Nat) (v : Value), vs[m]? = some v → q ≤ m → wr.ownsRow 0 K.e K.k v (lenOf v) (mrow K m (lenOf v))
 own1 : wr.ownsRow w.heap.size K.st 1 one ones.length ones
 own2 : wr.ownsRow w.heap.size K.st 1 more mores.length mores
 els1 : ∀ (m : Nat) (o v : Value), ones[m]? = some o → vs[m]? = some v → GRow K wr o m (lenOf v + 1) ∧ ∀ k, o.ownBlock = some k → G k m
 els2 : ∀ (m : Nat) (o v : Value), mores[m]? = some o → vs[m]? = some v → GRow K wr o m (lenOf v + 70) ∧ ∀ k, o.ownBlock = some k → G k m
 g1 : ∀ k, one.ownBlock = some k → ∀ m, ¬ G k m
 g2 : ∀ k, more.ownBlock = some k → ∀ m, ¬ G k m
 g12 : ∀ k, one.ownBlock = some k → more.ownBlock ≠ some k

theorem GSt.start {K : Kd} {c : Nat} {w wr : World} {b : Nat} {gv : Value} {vs : List Value} (h : BagG K c w b gv vs) (hi : GIn1 K w wr vs vs.length 0) :
  GSt K w wr vs (fun k m => ∃ v, vs[m]? = some v ∧ v.ownBlock = some k) (.slice none 0 0) [] (.slice none 0 0) [] 0 := by
 have hrow : ∀ (m : Nat) (v : Value), vs[m]? = some v → wr.ownsRow 0 K.e K.k v (lenOf v) (mrow K m (lenOf v)) := by
  intro m v hv
  obtain ⟨xs, h2, h3, h4⟩ := hi.rows m v hv
  rw [← h3 (List.getElem?_eq_some_iff.mp hv).1]
  exact h2
 refine ⟨hi.touch, ?_, ?_, ?_, ?_, fun m v hv _ => hrow m v hv, World.ownsRow_nil _ _ _ _, World.ownsRow_nil _ _ _ _, by simp, by simp, by simp [Value.ownBlock], by simp [Value.ownBlock], by simp [Value.ownBlock]⟩
 ·rintro k m m' ⟨v, hv, hk⟩ ⟨v', hv', hk'⟩
  exact h.apart m m' v v' k hv hv' hk hk'
 ·rintro k m ⟨v, hv, hk⟩
  exact own_lt (hrow m v hv) hk
 ·rintro k m ⟨v, hv, hk⟩
  exact Or.inl ⟨m, v, hv, hk⟩
 ·intro m v hv
  exact ⟨own_grow (hrow m v hv), fun k hk => ⟨v, hv, hk⟩⟩

/-- An append of a mark to list n's own slice l. -/
theorem GSt.grow {K : Kd} (ok : K.Ok) {w wr w1 : World} {vs : List Value} {G : Nat → Nat → Prop} {one more : Value} {ones mores : List Value} {n i : Nat} {l l' v : Value} (o : Obj) (h : GSt K w wr vs G one ones more mores (n + 1)) (hv : vs[n]? = some v)
  (hl : wr.ownsRow 0 K.e K.k l i (mrow K n i)) (hlG : ∀ k, l.ownBlock = some k → G k n) (hi : lenOf v ≤ i)
  (hones : ones.length = n ∨ (ones.length = n + 1 ∧ lenOf v + 1 ≤ i)) (hmores : mores.length = n)
  (hown : w1.ownsRow 0 K.e K.k l' (i + 1) (mrow K n i ++ K.mark n i)) (hkeep : w1.ownsRow 0 K.e K.k l i (mrow K n i))
  (hgrow : (wr.alloc o).grownBy w1 l.ownBlock) (hat : l'.ownBlock = l.ownBlock ∨ l'.ownBlock = some (wr.heap.size + 1)) :
  ∃ G', GSt K w w1 vs G' one ones more mores (n + 1) ∧ w1.ownsRow 0 K.e K.k l' (i + 1) (mrow K n (i + 1)) ∧ (∀ k, l'.ownBlock = some k → G' k n) := by
 have t : Touch (fun k => l.ownBlock = some k) wr w1 := ((Touch.refl _ wr).alloc o).grown hgrow (fun k hk => Or.inl hk)
 have hne : ∀ k m, G k m → m ≠ n → ¬ l.ownBlock = some k := fun k m hg hm e => hm (h.fn k m n hg (hlG k e))
 have hnone : ∀ k, (∀ m, ¬ G k m) → ¬ l.ownBlock = some k := fun k hg e => hg n (hlG k e)
 have keep : ∀ (u : Value) (L : Nat), GRow K wr u n L → L ≤ i → GRow K w1 u n L := by
  intro u L hu hL
  by_cases e : u.ownBlock = l.ownBlock
  ·exact grow_within ok hu hkeep hL e
  ·exact hu.touch t (fun k hk e' => e (by rw [hk, e']))
 have hs1 : wr.heap.size + 1 ≤ w1.heap.size := by have := hgrow.size; simpa using this
 have hsz := h.touch.size
 refine ⟨fun k m => G k m ∨ (k = wr.heap.size + 1 ∧ m = n ∧ l'.ownBlock = some k), ⟨?_, ?_, ?_, ?_, ?_, ?_, ?_, ?_, ?_, ?_, ?_, ?_, h.g12⟩, ?_, ?_⟩
 ·exact h.touch.trans' t (fun k hk e => by rcases h.gF k n (hlG k e) with g | g; exact g; omega)
 ·rintro k m m' (g | ⟨e, rfl, _⟩) (g' | ⟨e', rfl, _⟩)
  ·exact h.fn k m m' g g'
  ·have := h.lt k m g; omega
  ·have := h.lt k m' g'; omega
  ·rfl
 ·rintro k m (g | ⟨rfl, _, hk⟩)
  ·have := h.lt k m g; omega
  ·exact own_lt hown hk
 ·rintro k m (g | ⟨e, _, _⟩)
  ·exact h.gF k m g
  ·right; omega
 ·intro m u hu
  obtain ⟨r, g⟩ := h.rowsR m u hu
  refine ⟨?_, fun k hk => Or.inl (g k hk)⟩
  by_cases e : m = n
  ·subst e
   obtain rfl : v = u := by rw [hv] at hu; exact Option.some.inj hu
   exact keep _ _ r hi
  ·exact r.touch t (fun k hk => hne k m (g k hk) e)
 ·intro m u hu hq
  exact own_touch (h.rowsO m u hu hq) t (fun k hk => hne k m ((h.rowsR m u hu).2 k hk) (by omega))
 ·exact own_touch h.own1 t (fun k hk => hnone k (h.g1 k hk))
 ·exact own_touch h.own2 t (fun k hk => hnone k (h.g2 k hk))
 ·intro m u x hu hx
  obtain ⟨r, g⟩ := h.els1 m u x hu hx
  refine ⟨?_, fun k hk => Or.inl (g k hk)⟩
  by_cases e : m = n
  ·subst e
   obtain rfl : v = x := by rw [hv] at hx; exact Option.some.inj hx
   have := (List.getElem?_eq_some_iff.mp hu).1
   exact keep _ _ r (by omega)
  ·exact r.touch t (fun k hk => hne k m (g k hk) e)
 ·intro m u x hu hx
  obtain ⟨r, g⟩ := h.els2 m u x hu hx
  have := (List.getElem?_eq_some_iff.mp hu).1
  exact ⟨r.touch t (fun k hk => hne k m (g k hk) (by omega)), fun k hk => Or.inl (g k hk)⟩
 ·rintro k hk m (g | ⟨e, _, _⟩)
  ·exact h.g1 k hk m g
  ·have := own_lt h.own1 hk; omega
 ·rintro k hk m (g | ⟨e, _, _⟩)
  ·exact h.g2 k hk m g
  ·have := own_lt h.own2 hk; omega
 ·rw [mrow_succ]
  exact hown
 ·intro k hk
  rcases hat with e | e
  ·exact Or.inl (hlG k (by rw [← e]; exact hk))
  ·right
   rw [e] at hk
   simp at hk
   exact ⟨hk.symm, rfl, by rw [e, hk]⟩

/-- An append of a slice to 'one'. -/
theorem GSt.add1 {K : Kd} {w w1 w2 : World} {vs : List Value} {G : Nat → Nat → Prop} {one one' more : Value} {ones mores : List Value} {n q : Nat} {l v : Value} (o : Obj) (h : GSt K w w1 vs G one ones more mores q) (hv : vs[n]? = some v)
  (hl : w1.ownsRow 0 K.e K.k l (lenOf v + 1) (mrow K n (lenOf v + 1))) (hlG : ∀ k, l.ownBlock = some k → G k n) (hones : ones.length = n)
  (hown : w2.ownsRow w.heap.size K.st 1 one' (ones.length + 1) (ones ++ [l])) (hgrow : (w1.alloc o).grownBy w2 one.ownBlock) (hat : one'.ownBlock = one.ownBlock ∨ one'.ownBlock = some (w1.heap.size + 1)) :
  GSt K w w2 vs G one' (ones ++ [l]) more mores q ∧ w2.ownsRow 0 K.e K.k l (lenOf v + 1) (mrow K n (lenOf v + 1)) := by
 have t : Touch (fun k => one.ownBlock = some k) w1 w2 := ((Touch.refl _ w1).alloc o).grown hgrow (fun k hk => Or.inl hk)
 have hne : ∀ k m, G k m → ¬ one.ownBlock = some k := fun k m hg e => h.g1 k e m hg
 have hs1 : w1.heap.size + 1 ≤ w2.heap.size := by have := hgrow.size; simpa using this
 have hl' := own_touch hl t (fun k hk => hne k n (hlG k hk))
 refine ⟨⟨?_, h.fn, fun k m g => by have := h.lt k m g; omega, h.gF, ?_, ?_, by simpa using hown, ?_, ?_, ?_, ?_, h.g2, ?_⟩, hl'⟩
 ·exact h.touch.trans' t (fun k hk e => by have := (h.own1.lt k e).1; omega)
 ·intro m u hu
  obtain ⟨r, g⟩ := h.rowsR m u hu
  exact ⟨r.touch t (fun k hk => hne k m (g k hk)), g⟩
 ·intro m u hu hq
  exact own_touch (h.rowsO m u hu hq) t (fun k hk => hne k m ((h.rowsR m u hu).2 k hk))
 ·exact own_touch h.own2 t (fun k hk e => h.g12 k e hk)
 ·intro m u x hu hx
  rcases Nat.lt_or_ge m ones.length with hm | hm
  ·rw [List.getElem?_append_left hm] at hu
   obtain ⟨r, g⟩ := h.els1 m u x hu hx
   exact ⟨r.touch t (fun k hk => hne k m (g k hk)), g⟩
  ·rw [List.getElem?_append_right hm] at hu
   have e : m = n := by
    have := (List.getElem?_eq_some_iff.mp hu).1
    simp at this
    omega
   subst e
   obtain rfl : v = x := by rw [hv] at hx; exact Option.some.inj hx
   simp [hones] at hu
   subst hu
   exact ⟨own_grow hl', hlG⟩
 ·intro m u x hu hx
  obtain ⟨r, g⟩ := h.els2 m u x hu hx
  exact ⟨r.touch t (fun k hk => hne k m (g k hk)), g⟩
 ·intro k hk m g
  rcases hat with e | e
  ·exact h.g1 k (by rw [← e]; exact hk) m g
  ·rw [e] at hk; simp at hk; have := h.lt k m g; omega
 ·intro k hk
  rcases hat with e | e
  ·exact h.g12 k (by rw [← e]; exact hk)
  ·intro e2
   rw [e] at hk; simp at hk; have := own_lt h.own2 e2; omega

/-- An append of a slice to 'more'. -/
theorem GSt.add2 {K : Kd} {w w1 w2 : World} {vs : List Value} {G : Nat → Nat → Prop} {one more more' : Value} {ones mores : List Value} {n q : Nat} {l v : Value} (o : Obj) (h : GSt K w w1 vs G one ones more mores q) (hv : vs[n]? = some v)
  (hl : w1.ownsRow 0 K.e K.k l (lenOf v + 70) (mrow K n (lenOf v + 70))) (hlG : ∀ k, l.ownBlock = some k → G k n) (hmores : mores.length = n)
  (hown : w2.ownsRow w.heap.size K.st 1 more' (mores.length + 1) (mores ++ [l])) (hgrow : (w1.alloc o).grownBy w2 more.ownBlock) (hat : more'.ownBlock = more.ownBlock ∨ more'.ownBlock = some (w1.heap.size + 1)) :
  GSt K w w2 vs G one ones more' (mores ++ [l]) q := by
 have t : Touch (fun k => more.ownBlock = some k) w1 w2 := ((Touch.refl _ w1).alloc o).grown hgrow (fun k hk => Or.inl hk)
 have hne : ∀ k m, G k m → ¬ more.ownBlock = some k := fun k m hg e => h.g2 k e m hg
 have hs1 : w1.heap.size + 1 ≤ w2.heap.size := by have := hgrow.size; simpa using this
 have hl' := own_touch hl t (fun k hk => hne k n (hlG k hk))
 refine ⟨?_, h.fn, fun k m g => by have := h.lt k m g; omega, h.gF, ?_, ?_, ?_, by simpa using hown, ?_, ?_, h.g1, ?_, ?_⟩
 ·exact h.touch.trans' t (fun k hk e => by have := (h.own2.lt k e).1; omega)
 ·intro m u hu
  obtain ⟨r, g⟩ := h.rowsR m u hu
  exact ⟨r.touch t (fun k hk => hne k m (g k hk)), g⟩
 ·intro m u hu hq
  exact own_touch (h.rowsO m u hu hq) t (fun k hk => hne k m ((h.rowsR m u hu).2 k hk))
 ·exact own_touch h.own1 t (fun k hk e => h.g12 k hk e)
 ·intro m u x hu hx
  obtain ⟨r, g⟩ := h.els1 m u x hu hx
  exact ⟨r.touch t (fun k hk => hne k m (g k hk)), g⟩
 ·intro m u x hu hx
  rcases Nat.lt_or_ge m mores.length with hm | hm
  ·rw [List.getElem?_append_left hm] at hu
   obtain ⟨r, g⟩ := h.els2 m u x hu hx
   exact ⟨r.touch t (fun k hk => hne k m (g k hk)), g⟩
  ·rw [List.getElem?_append_right hm] at hu
   have e : m = n := by
    have := (List.getElem?_eq_some_iff.mp hu).1
    simp at this
    omega
   subst e
   obtain rfl : v = x := by rw [hv] at hx; exact Option.some.inj hx
   simp [hmores] at hu
   subst hu
   exact ⟨own_grow hl', hlG⟩
 ·intro k hk m g
  rcases hat with e | e
  ·exact h.g2 k (by rw [← e]; exact hk) m g
  ·rw [e] at hk; simp at hk; have := h.lt k m g; omega
 ·intro k hk e2
  rcases hat with e | e
  ·exact h.g12 k hk (by rw [← e]; exact e2)
  ·rw [e] at e2; simp at e2; have := own_lt h.own1 hk; omega

theorem GSt.weaken {K : Kd} {w wr : World} {vs : List Value} {G : Nat → Nat → Prop} {one more : Value} {ones mores : List Value} {q q' : Nat} (h : GSt K w wr vs G one ones more mores q) (hq : q ≤ q') : GSt K w wr vs G one ones more mores q' :=
 ⟨h.touch, h.fn, h.lt, h.gF, h.rowsR, fun m v hv hm => h.rowsO m v hv (by omega), h.own1, h.own2, h.els1, h.els2, h.g1, h.g2, h.g12⟩
theorem grow_at {K : Kd} (ok : K.Ok) {w : World} {v : Value} {n L i : Nat} (h : GRow K w v n L) (hi : i < L) : ∃ g c, v = .slice (some ⟨g, 0, none⟩) L c ∧ ∀ q x, (K.mark n i)[q]? = some x → w.cell? ⟨g, i * K.k + q, none⟩ = some x := by
 rcases h with ⟨_, e⟩ | ⟨g, c, rfl, h1, h2, h3⟩
 ·omega
 ·refine ⟨g, c, rfl, fun q x hq => h3 _ _ ?_⟩
  have hql := (List.getElem?_eq_some_iff.mp hq).1
  rw [ok.hm] at hql
  rw [mrow_at ok hi hql]
  exact hq
theorem grow_form {K : Kd} {w : World} {v : Value} {n L : Nat} (h : GRow K w v n L) : ∃ a c, v = .slice a L c := by
 rcases h with ⟨rfl, rfl⟩ | ⟨g, c, rfl, h1, h2, h3⟩
 ·exact ⟨_, _, rfl⟩
 ·exact ⟨_, _, rfl⟩

/-- The second loop, between two lists. -/
structure GIn2 (K : Kd) (w wr : World) (vs : List Value) (one more : Value) (n : Nat) : Prop where
 ex : ∃ (G : Nat → Nat → Prop) (ones mores : List Value), ones.length = n ∧ mores.length = n ∧ GSt K w wr vs G one ones more mores n

/-- The second loop, within list n. -/
structure GIn3 (K : Kd) (w wr : World) (vs : List Value) (one more : Value) (n L k : Nat) (l : Value) : Prop where
 ex : ∃ (G : Nat → Nat → Prop) (ones mores : List Value), mores.length = n ∧ (ones.length = n ∧ k = L ∨ ones.length = n + 1 ∧ L + 1 ≤ k) ∧ GSt K w wr vs G one ones more mores (n + 1) ∧
  wr.ownsRow 0 K.e K.k l k (mrow K n k) ∧ ∀ kb, l.ownBlock = some kb → G kb n

/-- The third loop: what it reads. -/
structure GIn4 (K : Kd) (c : Nat) (wr : World) (b : Nat) (gv : Value) (vs : List Value) (one more : Value) : Prop where
 cell : wr.cell? ⟨b, c, none⟩ = some gv
 len : ∃ ma mc, more = .slice ma vs.length mc
 at3 : ∀ (n : Nat), n < vs.length → ∃ (v o1 o2 : Value), vs[n]? = some v ∧ (∃ gb gc, gv = .slice (some ⟨gb, 0, none⟩) vs.length gc ∧ wr.cell? ⟨gb, n, none⟩ = some v) ∧
  (∃ g1 c1, one = .slice (some ⟨g1, 0, none⟩) vs.length c1 ∧ wr.cell? ⟨g1, n, none⟩ = some o1) ∧ (∃ g2 c2, more = .slice (some ⟨g2, 0, none⟩) vs.length c2 ∧ wr.cell? ⟨g2, n, none⟩ = some o2) ∧
  GRow K wr v n (lenOf v) ∧ GRow K wr o1 n (lenOf v + 1) ∧ GRow K wr o2 n (lenOf v + 70)

theorem GIn4.of {K : Kd} {c : Nat} {w wr : World} {b : Nat} {gv : Value} {vs : List Value} {one more : Value} (h : BagG K c w b gv vs) (h2 : GIn2 K w wr vs one more vs.length) : GIn4 K c wr b gv vs one more ∧ Touch (bagF vs) w wr := by
 obtain ⟨G, ones, mores, hl1, hl2, st⟩ := h2.ex
 refine ⟨⟨h.bagCell st.touch, ?_, fun n hn => ?_⟩, st.touch⟩
 ·obtain ⟨a, c, e⟩ := own_form st.own2
  exact ⟨a, c, by rw [e, hl2]⟩
 ·obtain ⟨gb, gc, v, hge, hv, hcv⟩ := own_elem (h.ownG st.touch) n hn
  obtain ⟨g1, c1, o1, he1, ho1, hc1⟩ := own_elem st.own1 n (by omega)
  obtain ⟨g2, c2, o2, he2, ho2, hc2⟩ := own_elem st.own2 n (by omega)
  exact ⟨v, o1, o2, hv, ⟨gb, gc, hge, hcv⟩, ⟨g1, c1, by rw [he1, hl1], hc1⟩, ⟨g2, c2, by rw [he2, hl2], hc2⟩, (st.rowsR n v hv).1, (st.els1 n o1 v ho1 hv).1, (st.els2 n o2 v ho2 hv).1⟩
end Go.Proofs.YtbfplepmgbkajaaGreatDoor
