/- A Bag with lists of bytes, words, heads, keys and states. -/
import Derived.Test.YtbfplepmgbkajaaGreatDoorKeep
import Derived.Test.YtbfplepmgbkajaaGreatDoorBagKWords
import Derived.Test.YtbfplepmgbkajaaGreatDoorBagKHeads
import Derived.Test.YtbfplepmgbkajaaGreatDoorBagKKeys
import Derived.Test.YtbfplepmgbkajaaGreatDoorBagKStates
import Derived.Test.YtbfplepmgbkajaaGreatDoorBagS
namespace Go.Proofs.YtbfplepmgbkajaaGreatDoor
open Go.RowKit
set_option linter.unusedVariables false
set_option maxRecDepth 100000

theorem cellC_other (w : World) (b j c : Nat) (v : Value) (h : j ≠ c) : (w.setCell ⟨b, c, none⟩ v).cell? ⟨b, j, none⟩ = w.cell? ⟨b, j, none⟩ :=
 World.cell?_setCell_other w ⟨b, c, none⟩ ⟨b, j, none⟩ v (by intro e; injection e with _ e2; exact h e2.symm)
theorem frozenC_other (w : World) (b j c : Nat) (v : Value) (h : w.frozen? ⟨b, j, none⟩ = false) : (w.setCell ⟨b, c, none⟩ v).frozen? ⟨b, j, none⟩ = false := by simp [h, go_sem]
theorem BagB.touch {F : Nat → Prop} {w w' : World} {b : Nat} {gv : Value} {vs : List Value} (h : BagB w b gv vs) (t : Touch F w w') (hc : w'.cell? ⟨b, 0, none⟩ = some gv) (hg : ∀ k, gv.ownBlock = some k → ¬ F k) (hr : ∀ (m : Nat) (v : Value) (k : Nat), vs[m]? = some v → v.ownBlock = some k → ¬ F k) : BagB w' b gv vs where
 cell := hc
 own := own_touch h.own t hg
 rows := fun m v hm => by
  obtain ⟨xs, h1, h2⟩ := h.rows m v hm
  exact ⟨xs, h1, own_touch h2 t (fun k hk => hr m v k hm hk)⟩
 apart := h.apart
 nb := h.nb
 ng := h.ng
 nbg := h.nbg
 few := h.few
 small := h.small
theorem bagG_added {K : Kd} {c : Nat} {w w1 : World} {b : Nat} {gv gv' v : Value} {vs : List Value} {xs : List Value} (h : BagG K c w b gv vs) (hv : w.ownsRow 0 K.e K.k v (lenOf v) xs) (hlen : lenOf v ≤ 1048576)
  (hnew : ∀ k, v.ownBlock = some k → k ≠ b ∧ gv.ownBlock ≠ some k ∧ ∀ (m : Nat) (u : Value), vs[m]? = some u → u.ownBlock ≠ some k) (hroom : vs.length < 300) (hbase : ∀ k, gv.ownBlock = some k → b < k)
  (hf : w.frozen? ⟨b, c, none⟩ = false) (t : Touch (fun k => gv.ownBlock = some k) w w1) (hown : w1.ownsRow 0 K.st 1 gv' (vs.length + 1) (vs ++ [v])) (hat : gv'.ownBlock = gv.ownBlock ∨ gv'.ownBlock = some (w.heap.size + 1)) :
  BagG K c (w1.setCell ⟨b, c, none⟩ gv') b gv' (vs ++ [v]) ∧ (w1.setCell ⟨b, c, none⟩ gv').frozen? ⟨b, c, none⟩ = false ∧ (∀ k, gv'.ownBlock = some k → b < k) ∧ (gv'.ownBlock = gv.ownBlock ∨ ∃ k, gv'.ownBlock = some k ∧ w.heap.size ≤ k) ∧ Touch (fun k => k = b ∨ gv.ownBlock = some k) w (w1.setCell ⟨b, c, none⟩ gv') ∧ (∀ j v, j ≠ c → w.cell? ⟨b, j, none⟩ = some v → (w1.setCell ⟨b, c, none⟩ gv').cell? ⟨b, j, none⟩ = some v) ∧ ∀ j, w.frozen? ⟨b, j, none⟩ = false → (w1.setCell ⟨b, c, none⟩ gv').frozen? ⟨b, j, none⟩ = false := by
 have hbl := lt_of_cell h.cell
 have hgb : ∀ k, gv'.ownBlock = some k → b < k := by
  intro k hk
  rcases hat with e | e
  ·exact hbase k (by rw [← e]; exact hk)
  ·rw [e] at hk; simp at hk; omega
 have hc1 : w1.cell? ⟨b, c, none⟩ = some gv := (t.cell (p := ⟨b, c, none⟩) hbl h.nbg).trans h.cell
 have hf1 : w1.frozen? ⟨b, c, none⟩ = false := (t.frozen (p := ⟨b, c, none⟩) hbl h.nbg).trans hf
 have tc : Touch (fun k => k = b) w1 (w1.setCell ⟨b, c, none⟩ gv') := Touch.setCell (F := fun k => k = b) (p := ⟨b, c, none⟩) (Touch.refl _ w1) (Or.inl rfl) _
 have tt : Touch (fun k => k = b ∨ gv.ownBlock = some k) w (w1.setCell ⟨b, c, none⟩ gv') := (t.mono (fun i _ e => Or.inr e)).trans' tc (fun i _ e => Or.inl e)
 have hat' : ∀ k, gv'.ownBlock = some k → k < w.heap.size → gv.ownBlock = some k := by
  intro k hk hl
  rcases hat with e | e
  ·rw [← e]; exact hk
  ·rw [e] at hk; simp at hk; omega
 have ap : ∀ (m : Nat) (u : Value), (vs ++ [v])[m]? = some u → (m < vs.length ∧ vs[m]? = some u) ∨ (m = vs.length ∧ u = v) := by
  intro m u hu
  rcases Nat.lt_or_ge m vs.length with hm | hm
  ·left; rw [List.getElem?_append_left hm] at hu; exact ⟨hm, hu⟩
  ·right
   rw [List.getElem?_append_right hm] at hu
   have : m - vs.length < [v].length := (List.getElem?_eq_some_iff.mp hu).1
   simp at this
   have e : m - vs.length = 0 := by omega
   rw [e] at hu
   simp at hu
   exact ⟨by omega, hu.symm⟩
 refine ⟨⟨by simp [hc1, go_sem], ?_, ?_, ?_, ?_, ?_, ?_, by simp; omega, ?_⟩, by simp [hf1, go_sem], hgb, ?_, tt, fun j v hj hc => (cellC_other w1 b j c gv' hj).trans ((t.cell (p := ⟨b, j, none⟩) hbl h.nbg).trans hc), fun j hj => frozenC_other w1 b j c gv' ((t.frozen (p := ⟨b, j, none⟩) hbl h.nbg).trans hj)⟩
 ·have := own_touch hown tc (fun k hk e => by have := hgb k hk; omega)
  simpa using this
 ·intro m u hu
  rcases ap m u hu with ⟨hm, hu'⟩ | ⟨rfl, rfl⟩
  ·obtain ⟨ys, k2⟩ := h.rows m u hu'
   exact ⟨ys, own_touch k2 tt (fun k hk e => by rcases e with e | e; exact h.nb m u hu' (by rw [hk, e]); exact h.ng m u k hu' hk e)⟩
  ·exact ⟨xs, own_touch hv tt (fun k hk e => by have := hnew k hk; rcases e with e | e; exact this.1 e; exact this.2.1 e)⟩
 ·intro m m' u u' k hu hu' hk hk'
  rcases ap m u hu with ⟨hm, h1⟩ | ⟨rfl, rfl⟩ <;> rcases ap m' u' hu' with ⟨hm', h2⟩ | ⟨rfl, rfl⟩
  ·exact h.apart m m' u u' k h1 h2 hk hk'
  ·exact absurd hk ((hnew k hk').2.2 m u h1)
  ·exact absurd hk' ((hnew k hk).2.2 m' u' h2)
  ·rfl
 ·intro m u hu
  rcases ap m u hu with ⟨hm, hu'⟩ | ⟨rfl, rfl⟩
  ·exact h.nb m u hu'
  ·intro e; exact (hnew b e).1 rfl
 ·intro m u k hu hk e
  rcases ap m u hu with ⟨hm, hu'⟩ | ⟨rfl, rfl⟩
  ·obtain ⟨ys, k2⟩ := h.rows m u hu'
   exact h.ng m u k hu' hk (hat' k e (own_lt k2 hk))
  ·exact (hnew k hk).2.1 (hat' k e (own_lt hv hk))
 ·intro e; have := hgb b e; omega
 ·intro m u hu
  rcases ap m u hu with ⟨hm, hu'⟩ | ⟨rfl, rfl⟩
  ·exact h.small m u hu'
  ·exact hlen
 ·rcases hat with e | e
  ·exact Or.inl e
  ·exact Or.inr ⟨_, e, by omega⟩


theorem bag_addedF {w w1 : World} {b : Nat} {gv gv' v : Value} {vs : List Value} {xs : List Int} (h : BagB w b gv vs) (hv : w.ownsRow 0 5 1 v xs.length (bytesOf xs)) (hvl : lenOf v = xs.length) (hlen : xs.length ≤ 1048576)
  (hnew : ∀ k, v.ownBlock = some k → k ≠ b ∧ gv.ownBlock ≠ some k ∧ ∀ (m : Nat) (u : Value), vs[m]? = some u → u.ownBlock ≠ some k) (hroom : vs.length < 300) (hbase : ∀ k, gv.ownBlock = some k → b < k)
  (hf : w.frozen? ⟨b, 0, none⟩ = false) (t : Touch (fun k => gv.ownBlock = some k) w w1) (hown : w1.ownsRow 0 40 1 gv' (vs.length + 1) (vs ++ [v])) (hat : gv'.ownBlock = gv.ownBlock ∨ gv'.ownBlock = some (w.heap.size + 1)) :
  BagB (w1.setCell ⟨b, 0, none⟩ gv') b gv' (vs ++ [v]) ∧ (w1.setCell ⟨b, 0, none⟩ gv').frozen? ⟨b, 0, none⟩ = false ∧ (∀ k, gv'.ownBlock = some k → b < k) ∧ (gv'.ownBlock = gv.ownBlock ∨ ∃ k, gv'.ownBlock = some k ∧ w.heap.size ≤ k) ∧ Touch (fun k => k = b ∨ gv.ownBlock = some k) w (w1.setCell ⟨b, 0, none⟩ gv') ∧ (∀ j v, 1 ≤ j → w.cell? ⟨b, j, none⟩ = some v → (w1.setCell ⟨b, 0, none⟩ gv').cell? ⟨b, j, none⟩ = some v) ∧ ∀ j, w.frozen? ⟨b, j, none⟩ = false → (w1.setCell ⟨b, 0, none⟩ gv').frozen? ⟨b, j, none⟩ = false := by
 have hbl := lt_of_cell h.cell
 have hgb : ∀ k, gv'.ownBlock = some k → b < k := by
  intro k hk
  rcases hat with e | e
  ·exact hbase k (by rw [← e]; exact hk)
  ·rw [e] at hk; simp at hk; omega
 have hc1 : w1.cell? ⟨b, 0, none⟩ = some gv := (t.cell (p := ⟨b, 0, none⟩) hbl h.nbg).trans h.cell
 have hf1 : w1.frozen? ⟨b, 0, none⟩ = false := (t.frozen (p := ⟨b, 0, none⟩) hbl h.nbg).trans hf
 have tc : Touch (fun k => k = b) w1 (w1.setCell ⟨b, 0, none⟩ gv') := Touch.setCell (F := fun k => k = b) (p := ⟨b, 0, none⟩) (Touch.refl _ w1) (Or.inl rfl) _
 have tt : Touch (fun k => k = b ∨ gv.ownBlock = some k) w (w1.setCell ⟨b, 0, none⟩ gv') := (t.mono (fun i _ e => Or.inr e)).trans' tc (fun i _ e => Or.inl e)
 have hat' : ∀ k, gv'.ownBlock = some k → k < w.heap.size → gv.ownBlock = some k := by
  intro k hk hl
  rcases hat with e | e
  ·rw [← e]; exact hk
  ·rw [e] at hk; simp at hk; omega
 have ap : ∀ (m : Nat) (u : Value), (vs ++ [v])[m]? = some u → (m < vs.length ∧ vs[m]? = some u) ∨ (m = vs.length ∧ u = v) := by
  intro m u hu
  rcases Nat.lt_or_ge m vs.length with hm | hm
  ·left; rw [List.getElem?_append_left hm] at hu; exact ⟨hm, hu⟩
  ·right
   rw [List.getElem?_append_right hm] at hu
   have : m - vs.length < [v].length := (List.getElem?_eq_some_iff.mp hu).1
   simp at this
   have e : m - vs.length = 0 := by omega
   rw [e] at hu
   simp at hu
   exact ⟨by omega, hu.symm⟩
 refine ⟨⟨by simp [hc1, go_sem], ?_, ?_, ?_, ?_, ?_, ?_, by simp; omega, ?_⟩, by simp [hf1, go_sem], hgb, ?_, tt, fun j v hj hc => (cell_other w1 b j gv' (by omega)).trans ((t.cell (p := ⟨b, j, none⟩) hbl h.nbg).trans hc), fun j hj => frozenC_other w1 b j 0 gv' ((t.frozen (p := ⟨b, j, none⟩) hbl h.nbg).trans hj)⟩
 ·have := own_touch hown tc (fun k hk e => by have := hgb k hk; omega)
  simpa using this
 ·intro m u hu
  rcases ap m u hu with ⟨hm, hu'⟩ | ⟨rfl, rfl⟩
  ·obtain ⟨ys, k1, k2⟩ := h.rows m u hu'
   exact ⟨ys, k1, own_touch k2 tt (fun k hk e => by rcases e with e | e; exact h.nb m u hu' (by rw [hk, e]); exact h.ng m u k hu' hk e)⟩
  ·exact ⟨xs, hvl.symm, by rw [hvl]; exact own_touch hv tt (fun k hk e => by have := hnew k hk; rcases e with e | e; exact this.1 e; exact this.2.1 e)⟩
 ·intro m m' u u' k hu hu' hk hk'
  rcases ap m u hu with ⟨hm, h1⟩ | ⟨rfl, rfl⟩ <;> rcases ap m' u' hu' with ⟨hm', h2⟩ | ⟨rfl, rfl⟩
  ·exact h.apart m m' u u' k h1 h2 hk hk'
  ·exact absurd hk ((hnew k hk').2.2 m u h1)
  ·exact absurd hk' ((hnew k hk).2.2 m' u' h2)
  ·rfl
 ·intro m u hu
  rcases ap m u hu with ⟨hm, hu'⟩ | ⟨rfl, rfl⟩
  ·exact h.nb m u hu'
  ·intro e; exact (hnew b e).1 rfl
 ·intro m u k hu hk e
  rcases ap m u hu with ⟨hm, hu'⟩ | ⟨rfl, rfl⟩
  ·obtain ⟨ys, k1, k2⟩ := h.rows m u hu'
   exact h.ng m u k hu' hk (hat' k e (own_lt k2 hk))
  ·exact (hnew k hk).2.1 (hat' k e (own_lt hv hk))
 ·intro e; have := hgb b e; omega
 ·intro m u hu
  rcases ap m u hu with ⟨hm, hu'⟩ | ⟨rfl, rfl⟩
  ·exact h.small m u hu'
  ·rw [hvl]; exact hlen
 ·rcases hat with e | e
  ·exact Or.inl e
  ·exact Or.inr ⟨_, e, by omega⟩

/-- AddBytes: one list more, that lies apart from the others. -/
theorem add_anyF (b : Nat) (gv : Value) (vs : List Value) (v : Value) (xs : List Int) (w : World) (h : BagB w b gv vs) (hf : w.frozen? ⟨b, 0, none⟩ = false) (hv : w.ownsRow 0 5 1 v xs.length (bytesOf xs)) (hlen : xs.length ≤ 1048576)
  (hnew : ∀ k, v.ownBlock = some k → k ≠ b ∧ gv.ownBlock ≠ some k ∧ ∀ (m : Nat) (u : Value), vs[m]? = some u → u.ownBlock ≠ some k) (hroom : vs.length < 300) (hbase : ∀ k, gv.ownBlock = some k → b < k) :
  Calls Tryz.prog 14 #[.pointer (some ⟨b, 0, none⟩), v] w fun e w' => e = .returned (.tuple #[]) ∧ ∃ gv', BagB w' b gv' (vs ++ [v]) ∧ w'.frozen? ⟨b, 0, none⟩ = false ∧
   (∀ k, gv'.ownBlock = some k → b < k) ∧ (gv'.ownBlock = gv.ownBlock ∨ ∃ k, gv'.ownBlock = some k ∧ w.heap.size ≤ k) ∧ Touch (fun k => k = b ∨ gv.ownBlock = some k) w w' ∧ (∀ j v, 1 ≤ j → w.cell? ⟨b, j, none⟩ = some v → w'.cell? ⟨b, j, none⟩ = some v) ∧ ∀ j, w.frozen? ⟨b, j, none⟩ = false → w'.frozen? ⟨b, j, none⟩ = false := by
 obtain ⟨i1, hj, hy0, hy1, hy2⟩ := info_parts Tryz.infoA
 obtain ⟨va, vc, rfl⟩ := own_form hv
 obtain ⟨ga, gc, rfl⟩ := own_form h.own
 have hc := h.cell
 have hbl := lt_of_cell hc
 have HB : Hid (BagB w b (.slice ga vs.length gc) vs) := h
 have HV : Hid (w.ownsRow 0 5 1 (.slice va xs.length vc) xs.length (bytesOf xs)) := hv
 have HW : Hid (∀ k, (Value.slice va xs.length vc).ownBlock = some k → k ≠ b ∧ (Value.slice ga vs.length gc).ownBlock ≠ some k ∧ ∀ (m : Nat) (u : Value), vs[m]? = some u → u.ownBlock ≠ some k) := hnew
 have HBB : Hid (∀ k, (Value.slice ga vs.length gc).ownBlock = some k → b < k) := hbase
 clear h hv hnew hbase
 go_enter Tryz.func14, Tryz.ntmps14
 go_wp2_with (at_builtin; refine wpList_append_own_at _ rfl (.tmp 14) (.tmp 16) 50 rfl 0 40 i1 (.slice none 0 0) 1 24 Tryz.underlying50 hj hy0 hy1 hy2 rfl (by decide) (.slice ga vs.length gc) vs.length vs rfl (HB.out.own.alloc _) ⟨w.heap.size, 0, none⟩ 1 1 [.slice va xs.length vc] rfl rfl ?c1 ?c2 ?c3 ?c4 ?c5 ?_)
 case c1 => exact cell_one_new _ _ _
 case c2 => intro u hu; obtain rfl := List.mem_singleton.mp hu; rfl
 case c3 => unfold maxLen; omega
 case c4 => omega
 case c5 => exact Nat.zero_le _
 intro gv' w1 hown hgrow _ hat
 obtain ⟨ga', gc', rfl⟩ := own_form hown
 have t1 : Touch (fun k => (Value.slice ga vs.length gc).ownBlock = some k) w w1 := ((Touch.refl _ w).alloc _).grown hgrow (fun k hk => Or.inl hk)
 have hnb := HB.out.nbg
 have hc1 : w1.cell? ⟨b, 0, none⟩ = some (.slice ga vs.length gc) := (t1.cell (p := ⟨b, 0, none⟩) hbl hnb).trans hc
 have hf1 : w1.frozen? ⟨b, 0, none⟩ = false := (t1.frozen (p := ⟨b, 0, none⟩) hbl hnb).trans hf
 have HR : Hid _ := bag_addedF HB.out HV.out rfl hlen HW.out hroom HBB.out hf t1 hown hat
 clear t1 hown hgrow hat hc hf hnb
 go_wp2
 go_end0
 exact ⟨rfl, .slice ga' (vs.length + 1) gc', HR.out⟩



theorem bagWords_one (b : Nat) (gv : Value) (vs : List Value) (v : Value) (xs : List Value) (w : World) (h : BagG KWords 5 w b gv vs) (hf : w.frozen? ⟨b, 5, none⟩ = false) (hv : w.ownsRow 0 22 1 v (lenOf v) xs) (hlen : lenOf v ≤ 1048576)
  (hnew : ∀ k, v.ownBlock = some k → k ≠ b ∧ gv.ownBlock ≠ some k ∧ ∀ (m : Nat) (u : Value), vs[m]? = some u → u.ownBlock ≠ some k) (hroom : vs.length < 300) (hbase : ∀ k, gv.ownBlock = some k → b < k) :
  Calls Tryz.prog 120 #[.pointer (some ⟨b, 0, none⟩), v] w fun e w' => e = .returned (.tuple #[]) ∧ ∃ gv', BagG KWords 5 w' b gv' (vs ++ [v]) ∧ w'.frozen? ⟨b, 5, none⟩ = false ∧
   (∀ k, gv'.ownBlock = some k → b < k) ∧ (gv'.ownBlock = gv.ownBlock ∨ ∃ k, gv'.ownBlock = some k ∧ w.heap.size ≤ k) ∧ Touch (fun k => k = b ∨ gv.ownBlock = some k) w w' ∧ (∀ j v, j ≠ 5 → w.cell? ⟨b, j, none⟩ = some v → w'.cell? ⟨b, j, none⟩ = some v) ∧ ∀ j, w.frozen? ⟨b, j, none⟩ = false → w'.frozen? ⟨b, j, none⟩ = false := by
 obtain ⟨i1, hj, hy0, hy1, hy2⟩ := info_parts Tryz.infoWordsL
 obtain ⟨va, vc, hva⟩ := own_form hv
 obtain ⟨ga, gc, rfl⟩ := own_form h.own
 generalize hLv : lenOf v = L at *
 subst hva
 have hc := h.cell
 have hbl := lt_of_cell hc
 have HB : Hid (BagG KWords 5 w b (.slice ga vs.length gc) vs) := h
 have HV : Hid (w.ownsRow 0 KWords.e KWords.k (.slice va L vc) (lenOf (.slice va L vc)) xs) := hv
 have HLE : Hid (lenOf (.slice va L vc) ≤ 1048576) := hlen
 have HW : Hid (∀ k, (Value.slice va L vc).ownBlock = some k → k ≠ b ∧ (Value.slice ga vs.length gc).ownBlock ≠ some k ∧ ∀ (m : Nat) (u : Value), vs[m]? = some u → u.ownBlock ≠ some k) := hnew
 have HBB : Hid (∀ k, (Value.slice ga vs.length gc).ownBlock = some k → b < k) := hbase
 clear h hv hnew hbase hLv hlen
 go_enter Tryz.func120, Tryz.ntmps120
 go_wp2_with (at_builtin; refine wpList_append_own_at _ rfl (.tmp 14) (.tmp 16) 55 rfl 0 24 i1 (.slice none 0 0) 1 24 Tryz.underlying55 hj hy0 hy1 hy2 rfl (by decide) (.slice ga vs.length gc) vs.length vs rfl (HB.out.own.alloc _) ⟨w.heap.size, 0, none⟩ 1 1 [.slice va L vc] rfl rfl ?c1 ?c2 ?c3 ?c4 ?c5 ?_)
 case c1 => exact cell_one_new _ _ _
 case c2 => intro u hu; obtain rfl := List.mem_singleton.mp hu; rfl
 case c3 => unfold maxLen; omega
 case c4 => omega
 case c5 => exact Nat.zero_le _
 intro gv' w1 hown hgrow _ hat
 obtain ⟨ga', gc', rfl⟩ := own_form hown
 have t1 : Touch (fun k => (Value.slice ga vs.length gc).ownBlock = some k) w w1 := ((Touch.refl _ w).alloc _).grown hgrow (fun k hk => Or.inl hk)
 have hnb := HB.out.nbg
 have hc1 : w1.cell? ⟨b, 5, none⟩ = some (.slice ga vs.length gc) := (t1.cell (p := ⟨b, 5, none⟩) hbl hnb).trans hc
 have hf1 : w1.frozen? ⟨b, 5, none⟩ = false := (t1.frozen (p := ⟨b, 5, none⟩) hbl hnb).trans hf
 have HR : Hid _ := bagG_added HB.out HV.out HLE.out HW.out hroom HBB.out hf t1 hown hat
 clear t1 hown hgrow hat hc hf hnb
 go_wp2
 go_end0
 exact ⟨rfl, .slice ga' (vs.length + 1) gc', HR.out⟩

theorem bagHeads_one (b : Nat) (gv : Value) (vs : List Value) (v : Value) (xs : List Value) (w : World) (h : BagG KHeads 7 w b gv vs) (hf : w.frozen? ⟨b, 7, none⟩ = false) (hv : w.ownsRow 0 93 8 v (lenOf v) xs) (hlen : lenOf v ≤ 1048576)
  (hnew : ∀ k, v.ownBlock = some k → k ≠ b ∧ gv.ownBlock ≠ some k ∧ ∀ (m : Nat) (u : Value), vs[m]? = some u → u.ownBlock ≠ some k) (hroom : vs.length < 300) (hbase : ∀ k, gv.ownBlock = some k → b < k) :
  Calls Tryz.prog 84 #[.pointer (some ⟨b, 0, none⟩), v] w fun e w' => e = .returned (.tuple #[]) ∧ ∃ gv', BagG KHeads 7 w' b gv' (vs ++ [v]) ∧ w'.frozen? ⟨b, 7, none⟩ = false ∧
   (∀ k, gv'.ownBlock = some k → b < k) ∧ (gv'.ownBlock = gv.ownBlock ∨ ∃ k, gv'.ownBlock = some k ∧ w.heap.size ≤ k) ∧ Touch (fun k => k = b ∨ gv.ownBlock = some k) w w' ∧ (∀ j v, j ≠ 7 → w.cell? ⟨b, j, none⟩ = some v → w'.cell? ⟨b, j, none⟩ = some v) ∧ ∀ j, w.frozen? ⟨b, j, none⟩ = false → w'.frozen? ⟨b, j, none⟩ = false := by
 obtain ⟨i1, hj, hy0, hy1, hy2⟩ := info_parts Tryz.infoHeadsL
 obtain ⟨va, vc, hva⟩ := own_form hv
 obtain ⟨ga, gc, rfl⟩ := own_form h.own
 generalize hLv : lenOf v = L at *
 subst hva
 have hc := h.cell
 have hbl := lt_of_cell hc
 have HB : Hid (BagG KHeads 7 w b (.slice ga vs.length gc) vs) := h
 have HV : Hid (w.ownsRow 0 KHeads.e KHeads.k (.slice va L vc) (lenOf (.slice va L vc)) xs) := hv
 have HLE : Hid (lenOf (.slice va L vc) ≤ 1048576) := hlen
 have HW : Hid (∀ k, (Value.slice va L vc).ownBlock = some k → k ≠ b ∧ (Value.slice ga vs.length gc).ownBlock ≠ some k ∧ ∀ (m : Nat) (u : Value), vs[m]? = some u → u.ownBlock ≠ some k) := hnew
 have HBB : Hid (∀ k, (Value.slice ga vs.length gc).ownBlock = some k → b < k) := hbase
 clear h hv hnew hbase hLv hlen
 go_enter Tryz.func84, Tryz.ntmps84
 go_wp2_with (at_builtin; refine wpList_append_own_at _ rfl (.tmp 14) (.tmp 16) 57 rfl 0 27 i1 (.slice none 0 0) 1 24 Tryz.underlying57 hj hy0 hy1 hy2 rfl (by decide) (.slice ga vs.length gc) vs.length vs rfl (HB.out.own.alloc _) ⟨w.heap.size, 0, none⟩ 1 1 [.slice va L vc] rfl rfl ?c1 ?c2 ?c3 ?c4 ?c5 ?_)
 case c1 => exact cell_one_new _ _ _
 case c2 => intro u hu; obtain rfl := List.mem_singleton.mp hu; rfl
 case c3 => unfold maxLen; omega
 case c4 => omega
 case c5 => exact Nat.zero_le _
 intro gv' w1 hown hgrow _ hat
 obtain ⟨ga', gc', rfl⟩ := own_form hown
 have t1 : Touch (fun k => (Value.slice ga vs.length gc).ownBlock = some k) w w1 := ((Touch.refl _ w).alloc _).grown hgrow (fun k hk => Or.inl hk)
 have hnb := HB.out.nbg
 have hc1 : w1.cell? ⟨b, 7, none⟩ = some (.slice ga vs.length gc) := (t1.cell (p := ⟨b, 7, none⟩) hbl hnb).trans hc
 have hf1 : w1.frozen? ⟨b, 7, none⟩ = false := (t1.frozen (p := ⟨b, 7, none⟩) hbl hnb).trans hf
 have HR : Hid _ := bagG_added HB.out HV.out HLE.out HW.out hroom HBB.out hf t1 hown hat
 clear t1 hown hgrow hat hc hf hnb
 go_wp2
 go_end0
 exact ⟨rfl, .slice ga' (vs.length + 1) gc', HR.out⟩

theorem bagKeys_one (b : Nat) (gv : Value) (vs : List Value) (v : Value) (xs : List Value) (w : World) (h : BagG KKeys 8 w b gv vs) (hf : w.frozen? ⟨b, 8, none⟩ = false) (hv : w.ownsRow 0 125 3 v (lenOf v) xs) (hlen : lenOf v ≤ 1048576)
  (hnew : ∀ k, v.ownBlock = some k → k ≠ b ∧ gv.ownBlock ≠ some k ∧ ∀ (m : Nat) (u : Value), vs[m]? = some u → u.ownBlock ≠ some k) (hroom : vs.length < 300) (hbase : ∀ k, gv.ownBlock = some k → b < k) :
  Calls Tryz.prog 82 #[.pointer (some ⟨b, 0, none⟩), v] w fun e w' => e = .returned (.tuple #[]) ∧ ∃ gv', BagG KKeys 8 w' b gv' (vs ++ [v]) ∧ w'.frozen? ⟨b, 8, none⟩ = false ∧
   (∀ k, gv'.ownBlock = some k → b < k) ∧ (gv'.ownBlock = gv.ownBlock ∨ ∃ k, gv'.ownBlock = some k ∧ w.heap.size ≤ k) ∧ Touch (fun k => k = b ∨ gv.ownBlock = some k) w w' ∧ (∀ j v, j ≠ 8 → w.cell? ⟨b, j, none⟩ = some v → w'.cell? ⟨b, j, none⟩ = some v) ∧ ∀ j, w.frozen? ⟨b, j, none⟩ = false → w'.frozen? ⟨b, j, none⟩ = false := by
 obtain ⟨i1, hj, hy0, hy1, hy2⟩ := info_parts Tryz.infoKeysL
 obtain ⟨va, vc, hva⟩ := own_form hv
 obtain ⟨ga, gc, rfl⟩ := own_form h.own
 generalize hLv : lenOf v = L at *
 subst hva
 have hc := h.cell
 have hbl := lt_of_cell hc
 have HB : Hid (BagG KKeys 8 w b (.slice ga vs.length gc) vs) := h
 have HV : Hid (w.ownsRow 0 KKeys.e KKeys.k (.slice va L vc) (lenOf (.slice va L vc)) xs) := hv
 have HLE : Hid (lenOf (.slice va L vc) ≤ 1048576) := hlen
 have HW : Hid (∀ k, (Value.slice va L vc).ownBlock = some k → k ≠ b ∧ (Value.slice ga vs.length gc).ownBlock ≠ some k ∧ ∀ (m : Nat) (u : Value), vs[m]? = some u → u.ownBlock ≠ some k) := hnew
 have HBB : Hid (∀ k, (Value.slice ga vs.length gc).ownBlock = some k → b < k) := hbase
 clear h hv hnew hbase hLv hlen
 go_enter Tryz.func82, Tryz.ntmps82
 go_wp2_with (at_builtin; refine wpList_append_own_at _ rfl (.tmp 14) (.tmp 16) 58 rfl 0 30 i1 (.slice none 0 0) 1 24 Tryz.underlying58 hj hy0 hy1 hy2 rfl (by decide) (.slice ga vs.length gc) vs.length vs rfl (HB.out.own.alloc _) ⟨w.heap.size, 0, none⟩ 1 1 [.slice va L vc] rfl rfl ?c1 ?c2 ?c3 ?c4 ?c5 ?_)
 case c1 => exact cell_one_new _ _ _
 case c2 => intro u hu; obtain rfl := List.mem_singleton.mp hu; rfl
 case c3 => unfold maxLen; omega
 case c4 => omega
 case c5 => exact Nat.zero_le _
 intro gv' w1 hown hgrow _ hat
 obtain ⟨ga', gc', rfl⟩ := own_form hown
 have t1 : Touch (fun k => (Value.slice ga vs.length gc).ownBlock = some k) w w1 := ((Touch.refl _ w).alloc _).grown hgrow (fun k hk => Or.inl hk)
 have hnb := HB.out.nbg
 have hc1 : w1.cell? ⟨b, 8, none⟩ = some (.slice ga vs.length gc) := (t1.cell (p := ⟨b, 8, none⟩) hbl hnb).trans hc
 have hf1 : w1.frozen? ⟨b, 8, none⟩ = false := (t1.frozen (p := ⟨b, 8, none⟩) hbl hnb).trans hf
 have HR : Hid _ := bagG_added HB.out HV.out HLE.out HW.out hroom HBB.out hf t1 hown hat
 clear t1 hown hgrow hat hc hf hnb
 go_wp2
 go_end0
 exact ⟨rfl, .slice ga' (vs.length + 1) gc', HR.out⟩

/-- The kinds besides bytes, by their columns. -/
def kd5 (c : Nat) : Option Kd := if c = 5 then some KWords else if c = 7 then some KHeads else if c = 8 then some KKeys else if c = 14 then some KStates else none
theorem kd5_cases {c : Nat} {K : Kd} (h : kd5 c = some K) : (c = 5 ∧ K = KWords) ∨ (c = 7 ∧ K = KHeads) ∨ (c = 8 ∧ K = KKeys) ∨ (c = 14 ∧ K = KStates) := by
 unfold kd5 at h
 split at h
 ·exact Or.inl ⟨by assumption, (Option.some.inj h).symm⟩
 split at h
 ·exact Or.inr (Or.inl ⟨by assumption, (Option.some.inj h).symm⟩)
 split at h
 ·exact Or.inr (Or.inr (Or.inl ⟨by assumption, (Option.some.inj h).symm⟩))
 split at h
 ·exact Or.inr (Or.inr (Or.inr ⟨by assumption, (Option.some.inj h).symm⟩))
 ·cases h
theorem kd5_ne {c c' : Nat} {K K' : Kd} (h : kd5 c = some K) (h' : kd5 c' = some K') (hne : c ≠ c') : K.e ≠ K'.e ∧ K.st ≠ K'.st := by
 rcases kd5_cases h with ⟨rfl, rfl⟩ | ⟨rfl, rfl⟩ | ⟨rfl, rfl⟩ | ⟨rfl, rfl⟩ <;> rcases kd5_cases h' with ⟨rfl, rfl⟩ | ⟨rfl, rfl⟩ | ⟨rfl, rfl⟩ | ⟨rfl, rfl⟩ <;> first | exact absurd rfl hne | exact ⟨by decide, by decide⟩
theorem kd5_se {c c' : Nat} {K K' : Kd} (h : kd5 c = some K) (h' : kd5 c' = some K') : K.st ≠ K'.e := by
 rcases kd5_cases h with ⟨rfl, rfl⟩ | ⟨rfl, rfl⟩ | ⟨rfl, rfl⟩ | ⟨rfl, rfl⟩ <;> rcases kd5_cases h' with ⟨rfl, rfl⟩ | ⟨rfl, rfl⟩ | ⟨rfl, rfl⟩ | ⟨rfl, rfl⟩ <;> decide
theorem kd5_by {c : Nat} {K : Kd} (h : kd5 c = some K) : K.e ≠ 5 ∧ K.st ≠ 5 ∧ K.e ≠ 40 ∧ K.st ≠ 40 ∧ 1 ≤ c ∧ c ≤ 18 := by
 rcases kd5_cases h with ⟨rfl, rfl⟩ | ⟨rfl, rfl⟩ | ⟨rfl, rfl⟩ | ⟨rfl, rfl⟩ <;> decide
/-- A Bag with lists of bytes, words, heads, keys and states, and no others. -/
structure BagP (w : World) (b : Nat) (gb : Value) (vb : List Value) (G : Nat → Value) (V : Nat → List Value) : Prop where
 B : BagB w b gb vb
 K : ∀ c K, kd5 c = some K → BagG K c w b (G c) (V c)
 N : ∀ j, 1 ≤ j → j ≤ 18 → kd5 j = none → w.cell? ⟨b, j, none⟩ = some (.slice none 0 0)
 f : ∀ j, w.frozen? ⟨b, j, none⟩ = false
 hb : ∀ k, gb.ownBlock = some k → b < k
 hk : ∀ c K, kd5 c = some K → ∀ k, (G c).ownBlock = some k → b < k
def upd {α : Type} (f : Nat → α) (c : Nat) (x : α) : Nat → α := fun j => if j = c then x else f j
theorem upd_at {α : Type} (f : Nat → α) (c : Nat) (x : α) : upd f c x c = x := by simp [upd]
theorem upd_off {α : Type} (f : Nat → α) {c j : Nat} (x : α) (h : j ≠ c) : upd f c x j = f j := by simp [upd, h]
/-- The blocks of its columns. -/
def ownS (gb : Value) (G : Nat → Value) (k : Nat) : Prop := gb.ownBlock = some k ∨ ∃ c K, kd5 c = some K ∧ (G c).ownBlock = some k
/-- What adding to it may touch. -/
structure BagStep (w : World) (b : Nat) (gb : Value) (G : Nat → Value) (w' : World) (gb' : Value) (G' : Nat → Value) : Prop where
 touch : Touch (fun k => k = b ∨ ownS gb G k ∨ w.heap.size ≤ k) w w'
 own : ∀ k, ownS gb' G' k → ownS gb G k ∨ w.heap.size ≤ k
theorem BagStep.refl (w : World) (b : Nat) (gb : Value) (G : Nat → Value) : BagStep w b gb G w gb G := ⟨Touch.refl _ w, fun _ h => Or.inl h⟩
theorem BagStep.trans {w w1 w2 : World} {b : Nat} {g0 g1 g2 : Value} {G0 G1 G2 : Nat → Value} (h : BagStep w b g0 G0 w1 g1 G1) (h' : BagStep w1 b g1 G1 w2 g2 G2) : BagStep w b g0 G0 w2 g2 G2 := by
 have hs := h.touch.size
 refine ⟨h.touch.trans (h'.touch.mono (fun i _ e => ?_)), fun k hk => ?_⟩
 ·rcases e with e | e | e
  ·exact Or.inl e
  ·exact Or.inr (h.own i e)
  ·exact Or.inr (Or.inr (by omega))
 ·rcases h'.own k hk with e | e
  ·exact h.own k e
  ·exact Or.inr (by omega)
theorem BagP.new (w : World) (T : TypeId) : BagP (w.alloc (.cells #[.slice none 0 0, .slice none 0 0, .slice none 0 0, .slice none 0 0, .slice none 0 0, .slice none 0 0, .slice none 0 0, .slice none 0 0, .slice none 0 0, .slice none 0 0, .slice none 0 0, .slice none 0 0, .slice none 0 0, .slice none 0 0, .slice none 0 0, .slice none 0 0, .slice none 0 0, .slice none 0 0, .slice none 0 0] T)) w.heap.size (.slice none 0 0) [] (fun _ => .slice none 0 0) (fun _ => []) := by
 have hb := bag_new (w := w) (T := T) #[.slice none 0 0, .slice none 0 0, .slice none 0 0, .slice none 0 0, .slice none 0 0, .slice none 0 0, .slice none 0 0, .slice none 0 0, .slice none 0 0, .slice none 0 0, .slice none 0 0, .slice none 0 0, .slice none 0 0, .slice none 0 0, .slice none 0 0, .slice none 0 0, .slice none 0 0, .slice none 0 0, .slice none 0 0] rfl
 exact ⟨hb.1, fun c K hc => BagG.nil (hb.2.2 c (kd5_by hc).2.2.2.2.1 (kd5_by hc).2.2.2.2.2), fun j h1 h2 _ => hb.2.2 j h1 h2, fun j => by simp, by simp [Value.ownBlock], by simp [Value.ownBlock]⟩
theorem BagP.keep {w w' : World} {b : Nat} {gb : Value} {vb : List Value} {G : Nat → Value} {V : Nat → List Value} (h : BagP w b gb vb G V) (t : Touch (fun _ => False) w w') : BagP w' b gb vb G V :=
 have hbl := lt_of_cell h.B.cell
 ⟨h.B.keep t, fun c K hc => (h.K c K hc).keep t, fun j h1 h2 h3 => t.cellN (h.N j h1 h2 h3), fun j => (t.frozen (p := ⟨b, j, none⟩) hbl (fun h => h)).trans (h.f j), h.hb, h.hk⟩
/-- One column of it is new. -/
theorem BagP.putK {w w' : World} {b : Nat} {gb : Value} {vb : List Value} {G : Nat → Value} {V : Nat → List Value} (h : BagP w b gb vb G V) {c : Nat} {K : Kd} (hK : kd5 c = some K) {gv : Value} {vs : List Value} (n : BagG K c w' b gv vs) (hb : ∀ k, gv.ownBlock = some k → b < k)
  (hr : gv.ownBlock = (G c).ownBlock ∨ ∃ k, gv.ownBlock = some k ∧ w.heap.size ≤ k) (t : Touch (fun k => k = b ∨ (G c).ownBlock = some k) w w') (hc : ∀ j v, j ≠ c → w.cell? ⟨b, j, none⟩ = some v → w'.cell? ⟨b, j, none⟩ = some v) (hf : ∀ j, w.frozen? ⟨b, j, none⟩ = false → w'.frozen? ⟨b, j, none⟩ = false) :
  BagP w' b gb vb (upd G c gv) (upd V c vs) ∧ BagStep w b gb G w' gb (upd G c gv) := by
 have h0 := h.K c K hK
 have hy := kd5_by hK
 refine ⟨⟨?_, ?_, ?_, fun j => hf j (h.f j), h.hb, ?_⟩, ?_, ?_⟩
 ·refine h.B.touch t (hc 0 _ (by omega) h.B.cell) (fun k hk e => ?_) (fun m v k hv hk e => ?_)
  ·rcases e with e | e
   ·exact h.B.nbg (by rw [hk, e])
   ·exact own_unlike h.B.own h0.own (fun e => hy.2.2.2.1 e.symm) hk e
  ·rcases e with e | e
   ·exact h.B.nb m v hv (by rw [hk, e])
   ·obtain ⟨ys, -, hy'⟩ := h.B.rows m v hv
    exact own_unlike hy' h0.own (fun e => hy.2.1 e.symm) hk e
 ·intro j J hJ
  by_cases hj : j = c
  ·subst hj
   rw [upd_at, upd_at]
   rw [hK] at hJ
   obtain rfl := Option.some.inj hJ
   exact n
  ·rw [upd_off _ _ hj, upd_off _ _ hj]
   have hJ0 := h.K j J hJ
   refine hJ0.touch t (hc j _ hj hJ0.cell) (fun k hk e => ?_) (fun m v k hv hk e => ?_)
   ·rcases e with e | e
    ·exact hJ0.nbg (by rw [hk, e])
    ·exact own_unlike hJ0.own h0.own (kd5_ne hJ hK hj).2 hk e
   ·rcases e with e | e
    ·exact hJ0.nb m v hv (by rw [hk, e])
    ·obtain ⟨ys, hy'⟩ := hJ0.rows m v hv
     exact own_unlike hy' h0.own (fun e => kd5_se hK hJ e.symm) hk e
 ·exact fun j h1 h2 h3 => hc j _ (fun e => by rw [e, hK] at h3; cases h3) (h.N j h1 h2 h3)
 ·intro j J hJ k hk
  by_cases hj : j = c
  ·subst hj
   rw [upd_at] at hk
   exact hb k hk
  ·rw [upd_off _ _ hj] at hk
   exact h.hk j J hJ k hk
 ·exact t.mono (fun i _ e => by rcases e with e | e; exact Or.inl e; exact Or.inr (Or.inl (Or.inr ⟨c, K, hK, e⟩)))
 ·rintro k (hk | ⟨j, J, hJ, hk⟩)
  ·exact Or.inl (Or.inl hk)
  ·by_cases hj : j = c
   ·subst hj
    rw [upd_at] at hk
    rcases hr with e | ⟨k', e, hk'⟩
    ·exact Or.inl (Or.inr ⟨j, K, hK, by rw [← e]; exact hk⟩)
    ·rw [e] at hk
     exact Or.inr (by rw [← Option.some.inj hk]; exact hk')
   ·rw [upd_off _ _ hj] at hk
    exact Or.inl (Or.inr ⟨j, J, hJ, hk⟩)
/-- Its column of bytes is new. -/
theorem BagP.putB {w w' : World} {b : Nat} {gb : Value} {vb : List Value} {G : Nat → Value} {V : Nat → List Value} (h : BagP w b gb vb G V) {gv : Value} {vs : List Value} (n : BagB w' b gv vs) (hb : ∀ k, gv.ownBlock = some k → b < k)
  (hr : gv.ownBlock = gb.ownBlock ∨ ∃ k, gv.ownBlock = some k ∧ w.heap.size ≤ k) (t : Touch (fun k => k = b ∨ gb.ownBlock = some k) w w') (hc : ∀ j v, 1 ≤ j → w.cell? ⟨b, j, none⟩ = some v → w'.cell? ⟨b, j, none⟩ = some v) (hf : ∀ j, w.frozen? ⟨b, j, none⟩ = false → w'.frozen? ⟨b, j, none⟩ = false) :
  BagP w' b gv vs G V ∧ BagStep w b gb G w' gv G := by
 refine ⟨⟨n, ?_, fun j h1 h2 h3 => hc j _ h1 (h.N j h1 h2 h3), fun j => hf j (h.f j), hb, h.hk⟩, ?_, ?_⟩
 ·intro j J hJ
  have hJ0 := h.K j J hJ
  have hy := kd5_by hJ
  refine hJ0.touch t (hc j _ hy.2.2.2.2.1 hJ0.cell) (fun k hk e => ?_) (fun m v k hv hk e => ?_)
  ·rcases e with e | e
   ·exact hJ0.nbg (by rw [hk, e])
   ·exact own_unlike hJ0.own h.B.own hy.2.2.2.1 hk e
  ·rcases e with e | e
   ·exact hJ0.nb m v hv (by rw [hk, e])
   ·obtain ⟨ys, hy'⟩ := hJ0.rows m v hv
    exact own_unlike hy' h.B.own hy.2.2.1 hk e
 ·exact t.mono (fun i _ e => by rcases e with e | e; exact Or.inl e; exact Or.inr (Or.inl (Or.inl e)))
 ·rintro k (hk | hk)
  ·rcases hr with e | ⟨k', e, hk'⟩
   ·exact Or.inl (Or.inl (by rw [← e]; exact hk))
   ·rw [e] at hk
    exact Or.inr (by rw [← Option.some.inj hk]; exact hk')
  ·exact Or.inl (Or.inr hk)
/-- What an Add answers: the Bag is as it was but for lists that S allows. -/
structure AddP (b : Nat) (gb : Value) (vb : List Value) (G : Nat → Value) (V : Nat → List Value) (w : World) (S : Nat → Value → Prop) (e : Ending) (w' : World) : Prop where
 ret : e = .returned (.tuple #[])
 out : ∃ gb' vb' G' V', BagP w' b gb' vb' G' V' ∧ BagStep w b gb G w' gb' G' ∧ (∀ u ∈ vb', u ∈ vb ∨ S 0 u) ∧ ∀ j u, 1 ≤ j → u ∈ V' j → u ∈ V j ∨ S j u
theorem AddP.same {b : Nat} {gb : Value} {vb : List Value} {G : Nat → Value} {V : Nat → List Value} {w : World} (S : Nat → Value → Prop) (h : BagP w b gb vb G V) : AddP b gb vb G V w S (.returned (.tuple #[])) w :=
 ⟨rfl, gb, vb, G, V, h, BagStep.refl _ _ _ _, fun _ hu => Or.inl hu, fun _ _ _ hu => Or.inl hu⟩

theorem bagWords_full (b : Nat) (gv : Value) (vs : List Value) (v : Value) (w : World) (h : BagG KWords 5 w b gv vs) (hfull : ¬ vs.length < 300) :
  Calls Tryz.prog 120 #[.pointer (some ⟨b, 0, none⟩), v] w fun e w' => e = .returned (.tuple #[]) ∧ w' = w := by
 obtain ⟨ga, gc, rfl⟩ := own_form h.own
 have hc := h.cell
 have hf := h.few
 clear h
 go_enter Tryz.func120, Tryz.ntmps120
 go_wp2
 go_end0
 first | exact ⟨rfl, rfl⟩ | rfl | trivial
theorem bagAddWords_any (b : Nat) (gb : Value) (vb : List Value) (G : Nat → Value) (V : Nat → List Value) (v : Value) (xs : List Value) (w : World) (h : BagP w b gb vb G V) (hv : w.ownsRow 0 22 1 v (lenOf v) xs) (hlen : lenOf v ≤ 1048576)
  (hnew : ∀ k, v.ownBlock = some k → k < b ∧ ∀ u ∈ V 5, u.ownBlock ≠ some k) :
  Calls Tryz.prog 120 #[.pointer (some ⟨b, 0, none⟩), v] w (AddP b gb vb G V w (fun j u => j = 5 ∧ u = v)) := by
 have hK : kd5 5 = some KWords := rfl
 have hg := h.K _ _ hK
 by_cases hroom : (V 5).length < 300
 ·refine Calls.mono (bagWords_one b (G 5) (V 5) v xs w hg (h.f _) hv hlen (fun k hk => ⟨fun e => by have := (hnew k hk).1; omega, fun e => by have := h.hk _ _ hK k e; have := (hnew k hk).1; omega, fun m u hu => (hnew k hk).2 u (List.mem_of_getElem? hu)⟩) hroom (h.hk _ _ hK)) ?_
  rintro e w' ⟨he, gv', n, -, hb', hr, t, hc, hf⟩
  obtain ⟨p1, p2⟩ := h.putK hK n hb' hr t hc hf
  refine ⟨he, gb, vb, _, _, p1, p2, fun _ hu => Or.inl hu, fun j u _ hu => ?_⟩
  by_cases hj : j = 5
  ·subst hj
   rw [upd_at] at hu
   rcases List.mem_append.mp hu with hu | hu
   ·exact Or.inl hu
   ·exact Or.inr ⟨rfl, List.mem_singleton.mp hu⟩
  ·rw [upd_off _ _ hj] at hu
   exact Or.inl hu
 ·refine Calls.mono (bagWords_full b _ _ v w hg hroom) ?_
  rintro e w' ⟨he, hw⟩
  rw [he, hw]
  exact AddP.same _ h

theorem bagHeads_full (b : Nat) (gv : Value) (vs : List Value) (v : Value) (w : World) (h : BagG KHeads 7 w b gv vs) (hfull : ¬ vs.length < 300) :
  Calls Tryz.prog 84 #[.pointer (some ⟨b, 0, none⟩), v] w fun e w' => e = .returned (.tuple #[]) ∧ w' = w := by
 obtain ⟨ga, gc, rfl⟩ := own_form h.own
 have hc := h.cell
 have hf := h.few
 clear h
 go_enter Tryz.func84, Tryz.ntmps84
 go_wp2
 go_end0
 first | exact ⟨rfl, rfl⟩ | rfl | trivial
theorem bagAddHeads_any (b : Nat) (gb : Value) (vb : List Value) (G : Nat → Value) (V : Nat → List Value) (v : Value) (xs : List Value) (w : World) (h : BagP w b gb vb G V) (hv : w.ownsRow 0 93 8 v (lenOf v) xs) (hlen : lenOf v ≤ 1048576)
  (hnew : ∀ k, v.ownBlock = some k → k < b ∧ ∀ u ∈ V 7, u.ownBlock ≠ some k) :
  Calls Tryz.prog 84 #[.pointer (some ⟨b, 0, none⟩), v] w (AddP b gb vb G V w (fun j u => j = 7 ∧ u = v)) := by
 have hK : kd5 7 = some KHeads := rfl
 have hg := h.K _ _ hK
 by_cases hroom : (V 7).length < 300
 ·refine Calls.mono (bagHeads_one b (G 7) (V 7) v xs w hg (h.f _) hv hlen (fun k hk => ⟨fun e => by have := (hnew k hk).1; omega, fun e => by have := h.hk _ _ hK k e; have := (hnew k hk).1; omega, fun m u hu => (hnew k hk).2 u (List.mem_of_getElem? hu)⟩) hroom (h.hk _ _ hK)) ?_
  rintro e w' ⟨he, gv', n, -, hb', hr, t, hc, hf⟩
  obtain ⟨p1, p2⟩ := h.putK hK n hb' hr t hc hf
  refine ⟨he, gb, vb, _, _, p1, p2, fun _ hu => Or.inl hu, fun j u _ hu => ?_⟩
  by_cases hj : j = 7
  ·subst hj
   rw [upd_at] at hu
   rcases List.mem_append.mp hu with hu | hu
   ·exact Or.inl hu
   ·exact Or.inr ⟨rfl, List.mem_singleton.mp hu⟩
  ·rw [upd_off _ _ hj] at hu
   exact Or.inl hu
 ·refine Calls.mono (bagHeads_full b _ _ v w hg hroom) ?_
  rintro e w' ⟨he, hw⟩
  rw [he, hw]
  exact AddP.same _ h

theorem bagKeys_full (b : Nat) (gv : Value) (vs : List Value) (v : Value) (w : World) (h : BagG KKeys 8 w b gv vs) (hfull : ¬ vs.length < 300) :
  Calls Tryz.prog 82 #[.pointer (some ⟨b, 0, none⟩), v] w fun e w' => e = .returned (.tuple #[]) ∧ w' = w := by
 obtain ⟨ga, gc, rfl⟩ := own_form h.own
 have hc := h.cell
 have hf := h.few
 clear h
 go_enter Tryz.func82, Tryz.ntmps82
 go_wp2
 go_end0
 first | exact ⟨rfl, rfl⟩ | rfl | trivial
theorem bagAddKeys_any (b : Nat) (gb : Value) (vb : List Value) (G : Nat → Value) (V : Nat → List Value) (v : Value) (xs : List Value) (w : World) (h : BagP w b gb vb G V) (hv : w.ownsRow 0 125 3 v (lenOf v) xs) (hlen : lenOf v ≤ 1048576)
  (hnew : ∀ k, v.ownBlock = some k → k < b ∧ ∀ u ∈ V 8, u.ownBlock ≠ some k) :
  Calls Tryz.prog 82 #[.pointer (some ⟨b, 0, none⟩), v] w (AddP b gb vb G V w (fun j u => j = 8 ∧ u = v)) := by
 have hK : kd5 8 = some KKeys := rfl
 have hg := h.K _ _ hK
 by_cases hroom : (V 8).length < 300
 ·refine Calls.mono (bagKeys_one b (G 8) (V 8) v xs w hg (h.f _) hv hlen (fun k hk => ⟨fun e => by have := (hnew k hk).1; omega, fun e => by have := h.hk _ _ hK k e; have := (hnew k hk).1; omega, fun m u hu => (hnew k hk).2 u (List.mem_of_getElem? hu)⟩) hroom (h.hk _ _ hK)) ?_
  rintro e w' ⟨he, gv', n, -, hb', hr, t, hc, hf⟩
  obtain ⟨p1, p2⟩ := h.putK hK n hb' hr t hc hf
  refine ⟨he, gb, vb, _, _, p1, p2, fun _ hu => Or.inl hu, fun j u _ hu => ?_⟩
  by_cases hj : j = 8
  ·subst hj
   rw [upd_at] at hu
   rcases List.mem_append.mp hu with hu | hu
   ·exact Or.inl hu
   ·exact Or.inr ⟨rfl, List.mem_singleton.mp hu⟩
  ·rw [upd_off _ _ hj] at hu
   exact Or.inl hu
 ·refine Calls.mono (bagKeys_full b _ _ v w hg hroom) ?_
  rintro e w' ⟨he, hw⟩
  rw [he, hw]
  exact AddP.same _ h

theorem bagBytes_full (b : Nat) (gv : Value) (vs : List Value) (v : Value) (w : World) (h : BagB w b gv vs) (hfull : ¬ vs.length < 300) :
  Calls Tryz.prog 14 #[.pointer (some ⟨b, 0, none⟩), v] w fun e w' => e = .returned (.tuple #[]) ∧ w' = w := by
 obtain ⟨ga, gc, rfl⟩ := own_form h.own
 have hc := h.cell
 have hf := h.few
 clear h
 go_enter Tryz.func14, Tryz.ntmps14
 go_wp2
 go_end0
 first | exact ⟨rfl, rfl⟩ | rfl | trivial
theorem bagAddBytes_any (b : Nat) (gb : Value) (vb : List Value) (G : Nat → Value) (V : Nat → List Value) (v : Value) (xs : List Int) (w : World) (h : BagP w b gb vb G V) (hv : w.ownsRow 0 5 1 v xs.length (bytesOf xs)) (hlen : xs.length ≤ 1048576)
  (hnew : ∀ k, v.ownBlock = some k → k < b ∧ ∀ u ∈ vb, u.ownBlock ≠ some k) :
  Calls Tryz.prog 14 #[.pointer (some ⟨b, 0, none⟩), v] w (AddP b gb vb G V w (fun j u => j = 0 ∧ u = v)) := by
 by_cases hroom : vb.length < 300
 ·refine Calls.mono (add_anyF b gb vb v xs w h.B (h.f _) hv hlen (fun k hk => ⟨fun e => by have := (hnew k hk).1; omega, fun e => by have := h.hb k e; have := (hnew k hk).1; omega, fun m u hu => (hnew k hk).2 u (List.mem_of_getElem? hu)⟩) hroom h.hb) ?_
  rintro e w' ⟨he, gv', n, -, hb', hr, t, hc, hf⟩
  obtain ⟨p1, p2⟩ := h.putB n hb' hr t hc hf
  refine ⟨he, _, _, _, _, p1, p2, fun u hu => ?_, fun j u _ hu => Or.inl hu⟩
  rcases List.mem_append.mp hu with hu | hu
  ·exact Or.inl hu
  ·exact Or.inr ⟨rfl, List.mem_singleton.mp hu⟩
 ·refine Calls.mono (bagBytes_full b _ _ v w h.B hroom) ?_
  rintro e w' ⟨he, hw⟩
  rw [he, hw]
  exact AddP.same _ h
end Go.Proofs.YtbfplepmgbkajaaGreatDoor
