/- A Bag with lists of bytes, words and links. -/
import Derived.Test.YthdkihnmeoacaaaGreatDoorBagKWords
import Derived.Test.YthdkihnmeoacaaaGreatDoorBagKLinks
import Derived.Test.YthdkihnmeoacaaaGreatDoorBagS
import Derived.Test.YthdkihnmeoacaaaGreatDoorRefRead
namespace Go.Proofs.YthdkihnmeoacaaaGreatDoor
open Go.RowKit
set_option linter.unusedVariables false
set_option maxRecDepth 100000

theorem cellC_other (w : World) (b j c : Nat) (v : Value) (h : j ≠ c) : (w.setCell ⟨b, c, none⟩ v).cell? ⟨b, j, none⟩ = w.cell? ⟨b, j, none⟩ :=
  World.cell?_setCell_other w ⟨b, c, none⟩ ⟨b, j, none⟩ v (by intro e; injection e with _ e2; exact h e2.symm)
theorem frozenC_other (w : World) (b j c : Nat) (v : Value) (h : w.frozen? ⟨b, j, none⟩ = false) : (w.setCell ⟨b, c, none⟩ v).frozen? ⟨b, j, none⟩ = false := by simp [h, go_sem]
/-- Rows of unlike elements lie in unlike blocks. -/
theorem own_unlike {w : World} {base base' e e' k k' n n' g : Nat} {v v' : Value} {xs xs' : List Value} (h : w.ownsRow base e k v n xs) (h' : w.ownsRow base' e' k' v' n' xs') (hne : e ≠ e') (hg : v.ownBlock = some g) : v'.ownBlock ≠ some g := by
  intro hg'
  rcases h.2 with ⟨rfl, _⟩ | ⟨g1, c1, cur1, rfl, _, hh1, _⟩
  · simp [Value.ownBlock] at hg
  · rcases h'.2 with ⟨rfl, _⟩ | ⟨g2, c2, cur2, rfl, _, hh2, _⟩
    · simp [Value.ownBlock] at hg'
    · simp only [Value.ownBlock, Option.some.injEq] at hg hg'
      have e1 : g1 = g2 := by
        have a1 : some g1 = some g := by simpa [Value.ownBlock] using hg
        have a2 : some g2 = some g := by simpa [Value.ownBlock] using hg'
        rw [Option.some.inj a1, Option.some.inj a2]
      subst e1
      rw [hh1] at hh2
      simp only [Option.some.injEq, Obj.cells.injEq] at hh2
      exact hne hh2.2.1
theorem BagB.touch {F : Nat → Prop} {w w' : World} {b : Nat} {gv : Value} {vs : List Value} (h : BagB w b gv vs) (t : Touch F w w') (hc : w'.cell? ⟨b, 0, none⟩ = some gv) (hg : ∀ k, gv.ownBlock = some k → ¬ F k) (hr : ∀ (m : Nat) (v : Value) (k : Nat), vs[m]? = some v → v.ownBlock = some k → ¬ F k) : BagB w' b gv vs where
  cell := hc
  own := own_touch h.own t hg
  rows := fun m v hm => by
    obtain ⟨xs, h1, h2⟩ := h.rows m v hm
    exact ⟨xs, h1, own_touch h2 t (fun k hk => hr m v k hm hk)⟩
  apart := h.apart
  nb := h.nb
  ng := h.ng
  nbg := h.nbg
  few := h.few
  small := h.small
theorem bagG_added {K : Kd} {c : Nat} {w w1 : World} {b : Nat} {gv gv' v : Value} {vs : List Value} {xs : List Value} (h : BagG K c w b gv vs) (hv : w.ownsRow 0 K.e K.k v (lenOf v) xs) (hlen : lenOf v ≤ 1048576)
    (hnew : ∀ k, v.ownBlock = some k → k ≠ b ∧ gv.ownBlock ≠ some k ∧ ∀ (m : Nat) (u : Value), vs[m]? = some u → u.ownBlock ≠ some k) (hroom : vs.length < 300) (hbase : ∀ k, gv.ownBlock = some k → b < k)
    (hf : w.frozen? ⟨b, c, none⟩ = false) (t : Touch (fun k => gv.ownBlock = some k) w w1) (hown : w1.ownsRow 0 K.st 1 gv' (vs.length + 1) (vs ++ [v])) (hat : gv'.ownBlock = gv.ownBlock ∨ gv'.ownBlock = some (w.heap.size + 1)) :
    BagG K c (w1.setCell ⟨b, c, none⟩ gv') b gv' (vs ++ [v]) ∧ (w1.setCell ⟨b, c, none⟩ gv').frozen? ⟨b, c, none⟩ = false ∧ (∀ k, gv'.ownBlock = some k → b < k) ∧ (gv'.ownBlock = gv.ownBlock ∨ ∃ k, gv'.ownBlock = some k ∧ w.heap.size ≤ k) ∧ Touch (fun k => k = b ∨ gv.ownBlock = some k) w (w1.setCell ⟨b, c, none⟩ gv') ∧ (∀ j v, j ≠ c → w.cell? ⟨b, j, none⟩ = some v → (w1.setCell ⟨b, c, none⟩ gv').cell? ⟨b, j, none⟩ = some v) ∧ ∀ j, w.frozen? ⟨b, j, none⟩ = false → (w1.setCell ⟨b, c, none⟩ gv').frozen? ⟨b, j, none⟩ = false := by
  have hbl := lt_of_cell h.cell
  have hgb : ∀ k, gv'.ownBlock = some k → b < k := by
    intro k hk
    rcases hat with e | e
    · exact hbase k (by rw [← e]; exact hk)
    · rw [e] at hk; simp at hk; omega
  have hc1 : w1.cell? ⟨b, c, none⟩ = some gv := (t.cell (p := ⟨b, c, none⟩) hbl h.nbg).trans h.cell
  have hf1 : w1.frozen? ⟨b, c, none⟩ = false := (t.frozen (p := ⟨b, c, none⟩) hbl h.nbg).trans hf
  have tc : Touch (fun k => k = b) w1 (w1.setCell ⟨b, c, none⟩ gv') := Touch.setCell (F := fun k => k = b) (p := ⟨b, c, none⟩) (Touch.refl _ w1) (Or.inl rfl) _
  have tt : Touch (fun k => k = b ∨ gv.ownBlock = some k) w (w1.setCell ⟨b, c, none⟩ gv') := (t.mono (fun i _ e => Or.inr e)).trans' tc (fun i _ e => Or.inl e)
  have hat' : ∀ k, gv'.ownBlock = some k → k < w.heap.size → gv.ownBlock = some k := by
    intro k hk hl
    rcases hat with e | e
    · rw [← e]; exact hk
    · rw [e] at hk; simp at hk; omega
  have ap : ∀ (m : Nat) (u : Value), (vs ++ [v])[m]? = some u → (m < vs.length ∧ vs[m]? = some u) ∨ (m = vs.length ∧ u = v) := by
    intro m u hu
    rcases Nat.lt_or_ge m vs.length with hm | hm
    · left; rw [List.getElem?_append_left hm] at hu; exact ⟨hm, hu⟩
    · right
      rw [List.getElem?_append_right hm] at hu
      have : m - vs.length < [v].length := (List.getElem?_eq_some_iff.mp hu).1
      simp at this
      have e : m - vs.length = 0 := by omega
      rw [e] at hu
      simp at hu
      exact ⟨by omega, hu.symm⟩
  refine ⟨⟨by simp [hc1, go_sem], ?_, ?_, ?_, ?_, ?_, ?_, by simp; omega, ?_⟩, by simp [hf1, go_sem], hgb, ?_, tt, fun j v hj hc => (cellC_other w1 b j c gv' hj).trans ((t.cell (p := ⟨b, j, none⟩) hbl h.nbg).trans hc), fun j hj => frozenC_other w1 b j c gv' ((t.frozen (p := ⟨b, j, none⟩) hbl h.nbg).trans hj)⟩
  · have := own_touch hown tc (fun k hk e => by have := hgb k hk; omega)
    simpa using this
  · intro m u hu
    rcases ap m u hu with ⟨hm, hu'⟩ | ⟨rfl, rfl⟩
    · obtain ⟨ys, k2⟩ := h.rows m u hu'
      exact ⟨ys, own_touch k2 tt (fun k hk e => by rcases e with e | e; exact h.nb m u hu' (by rw [hk, e]); exact h.ng m u k hu' hk e)⟩
    · exact ⟨xs, own_touch hv tt (fun k hk e => by have := hnew k hk; rcases e with e | e; exact this.1 e; exact this.2.1 e)⟩
  · intro m m' u u' k hu hu' hk hk'
    rcases ap m u hu with ⟨hm, h1⟩ | ⟨rfl, rfl⟩ <;> rcases ap m' u' hu' with ⟨hm', h2⟩ | ⟨rfl, rfl⟩
    · exact h.apart m m' u u' k h1 h2 hk hk'
    · exact absurd hk ((hnew k hk').2.2 m u h1)
    · exact absurd hk' ((hnew k hk).2.2 m' u' h2)
    · rfl
  · intro m u hu
    rcases ap m u hu with ⟨hm, hu'⟩ | ⟨rfl, rfl⟩
    · exact h.nb m u hu'
    · intro e; exact (hnew b e).1 rfl
  · intro m u k hu hk e
    rcases ap m u hu with ⟨hm, hu'⟩ | ⟨rfl, rfl⟩
    · obtain ⟨ys, k2⟩ := h.rows m u hu'
      exact h.ng m u k hu' hk (hat' k e (own_lt k2 hk))
    · exact (hnew k hk).2.1 (hat' k e (own_lt hv hk))
  · intro e; have := hgb b e; omega
  · intro m u hu
    rcases ap m u hu with ⟨hm, hu'⟩ | ⟨rfl, rfl⟩
    · exact h.small m u hu'
    · exact hlen
  · rcases hat with e | e
    · exact Or.inl e
    · exact Or.inr ⟨_, e, by omega⟩


theorem bag_addedF {w w1 : World} {b : Nat} {gv gv' v : Value} {vs : List Value} {xs : List Int} (h : BagB w b gv vs) (hv : w.ownsRow 0 5 1 v xs.length (bytesOf xs)) (hvl : lenOf v = xs.length) (hlen : xs.length ≤ 1048576)
    (hnew : ∀ k, v.ownBlock = some k → k ≠ b ∧ gv.ownBlock ≠ some k ∧ ∀ (m : Nat) (u : Value), vs[m]? = some u → u.ownBlock ≠ some k) (hroom : vs.length < 300) (hbase : ∀ k, gv.ownBlock = some k → b < k)
    (hf : w.frozen? ⟨b, 0, none⟩ = false) (t : Touch (fun k => gv.ownBlock = some k) w w1) (hown : w1.ownsRow 0 28 1 gv' (vs.length + 1) (vs ++ [v])) (hat : gv'.ownBlock = gv.ownBlock ∨ gv'.ownBlock = some (w.heap.size + 1)) :
    BagB (w1.setCell ⟨b, 0, none⟩ gv') b gv' (vs ++ [v]) ∧ (w1.setCell ⟨b, 0, none⟩ gv').frozen? ⟨b, 0, none⟩ = false ∧ (∀ k, gv'.ownBlock = some k → b < k) ∧ (gv'.ownBlock = gv.ownBlock ∨ ∃ k, gv'.ownBlock = some k ∧ w.heap.size ≤ k) ∧ Touch (fun k => k = b ∨ gv.ownBlock = some k) w (w1.setCell ⟨b, 0, none⟩ gv') ∧ (∀ j v, 1 ≤ j → w.cell? ⟨b, j, none⟩ = some v → (w1.setCell ⟨b, 0, none⟩ gv').cell? ⟨b, j, none⟩ = some v) ∧ ∀ j, w.frozen? ⟨b, j, none⟩ = false → (w1.setCell ⟨b, 0, none⟩ gv').frozen? ⟨b, j, none⟩ = false := by
  have hbl := lt_of_cell h.cell
  have hgb : ∀ k, gv'.ownBlock = some k → b < k := by
    intro k hk
    rcases hat with e | e
    · exact hbase k (by rw [← e]; exact hk)
    · rw [e] at hk; simp at hk; omega
  have hc1 : w1.cell? ⟨b, 0, none⟩ = some gv := (t.cell (p := ⟨b, 0, none⟩) hbl h.nbg).trans h.cell
  have hf1 : w1.frozen? ⟨b, 0, none⟩ = false := (t.frozen (p := ⟨b, 0, none⟩) hbl h.nbg).trans hf
  have tc : Touch (fun k => k = b) w1 (w1.setCell ⟨b, 0, none⟩ gv') := Touch.setCell (F := fun k => k = b) (p := ⟨b, 0, none⟩) (Touch.refl _ w1) (Or.inl rfl) _
  have tt : Touch (fun k => k = b ∨ gv.ownBlock = some k) w (w1.setCell ⟨b, 0, none⟩ gv') := (t.mono (fun i _ e => Or.inr e)).trans' tc (fun i _ e => Or.inl e)
  have hat' : ∀ k, gv'.ownBlock = some k → k < w.heap.size → gv.ownBlock = some k := by
    intro k hk hl
    rcases hat with e | e
    · rw [← e]; exact hk
    · rw [e] at hk; simp at hk; omega
  have ap : ∀ (m : Nat) (u : Value), (vs ++ [v])[m]? = some u → (m < vs.length ∧ vs[m]? = some u) ∨ (m = vs.length ∧ u = v) := by
    intro m u hu
    rcases Nat.lt_or_ge m vs.length with hm | hm
    · left; rw [List.getElem?_append_left hm] at hu; exact ⟨hm, hu⟩
    · right
      rw [List.getElem?_append_right hm] at hu
      have : m - vs.length < [v].length := (List.getElem?_eq_some_iff.mp hu).1
      simp at this
      have e : m - vs.length = 0 := by omega
      rw [e] at hu
      simp at hu
      exact ⟨by omega, hu.symm⟩
  refine ⟨⟨by simp [hc1, go_sem], ?_, ?_, ?_, ?_, ?_, ?_, by simp; omega, ?_⟩, by simp [hf1, go_sem], hgb, ?_, tt, fun j v hj hc => (cell_other w1 b j gv' (by omega)).trans ((t.cell (p := ⟨b, j, none⟩) hbl h.nbg).trans hc), fun j hj => frozenC_other w1 b j 0 gv' ((t.frozen (p := ⟨b, j, none⟩) hbl h.nbg).trans hj)⟩
  · have := own_touch hown tc (fun k hk e => by have := hgb k hk; omega)
    simpa using this
  · intro m u hu
    rcases ap m u hu with ⟨hm, hu'⟩ | ⟨rfl, rfl⟩
    · obtain ⟨ys, k1, k2⟩ := h.rows m u hu'
      exact ⟨ys, k1, own_touch k2 tt (fun k hk e => by rcases e with e | e; exact h.nb m u hu' (by rw [hk, e]); exact h.ng m u k hu' hk e)⟩
    · exact ⟨xs, hvl.symm, by rw [hvl]; exact own_touch hv tt (fun k hk e => by have := hnew k hk; rcases e with e | e; exact this.1 e; exact this.2.1 e)⟩
  · intro m m' u u' k hu hu' hk hk'
    rcases ap m u hu with ⟨hm, h1⟩ | ⟨rfl, rfl⟩ <;> rcases ap m' u' hu' with ⟨hm', h2⟩ | ⟨rfl, rfl⟩
    · exact h.apart m m' u u' k h1 h2 hk hk'
    · exact absurd hk ((hnew k hk').2.2 m u h1)
    · exact absurd hk' ((hnew k hk).2.2 m' u' h2)
    · rfl
  · intro m u hu
    rcases ap m u hu with ⟨hm, hu'⟩ | ⟨rfl, rfl⟩
    · exact h.nb m u hu'
    · intro e; exact (hnew b e).1 rfl
  · intro m u k hu hk e
    rcases ap m u hu with ⟨hm, hu'⟩ | ⟨rfl, rfl⟩
    · obtain ⟨ys, k1, k2⟩ := h.rows m u hu'
      exact h.ng m u k hu' hk (hat' k e (own_lt k2 hk))
    · exact (hnew k hk).2.1 (hat' k e (own_lt hv hk))
  · intro e; have := hgb b e; omega
  · intro m u hu
    rcases ap m u hu with ⟨hm, hu'⟩ | ⟨rfl, rfl⟩
    · exact h.small m u hu'
    · rw [hvl]; exact hlen
  · rcases hat with e | e
    · exact Or.inl e
    · exact Or.inr ⟨_, e, by omega⟩

/-- AddBytes: one list more, that lies apart from the others. -/
theorem add_anyF (b : Nat) (gv : Value) (vs : List Value) (v : Value) (xs : List Int) (w : World) (h : BagB w b gv vs) (hf : w.frozen? ⟨b, 0, none⟩ = false) (hv : w.ownsRow 0 5 1 v xs.length (bytesOf xs)) (hlen : xs.length ≤ 1048576)
    (hnew : ∀ k, v.ownBlock = some k → k ≠ b ∧ gv.ownBlock ≠ some k ∧ ∀ (m : Nat) (u : Value), vs[m]? = some u → u.ownBlock ≠ some k) (hroom : vs.length < 300) (hbase : ∀ k, gv.ownBlock = some k → b < k) :
    Calls Tryz.prog 32 #[.pointer (some ⟨b, 0, none⟩), v] w fun e w' => e = .returned (.tuple #[]) ∧ ∃ gv', BagB w' b gv' (vs ++ [v]) ∧ w'.frozen? ⟨b, 0, none⟩ = false ∧
      (∀ k, gv'.ownBlock = some k → b < k) ∧ (gv'.ownBlock = gv.ownBlock ∨ ∃ k, gv'.ownBlock = some k ∧ w.heap.size ≤ k) ∧ Touch (fun k => k = b ∨ gv.ownBlock = some k) w w' ∧ (∀ j v, 1 ≤ j → w.cell? ⟨b, j, none⟩ = some v → w'.cell? ⟨b, j, none⟩ = some v) ∧ ∀ j, w.frozen? ⟨b, j, none⟩ = false → w'.frozen? ⟨b, j, none⟩ = false := by
  obtain ⟨i1, hj, hy0, hy1, hy2⟩ := info_parts Tryz.infoA
  obtain ⟨va, vc, rfl⟩ := own_form hv
  obtain ⟨ga, gc, rfl⟩ := own_form h.own
  have hc := h.cell
  have hbl := lt_of_cell hc
  have HB : Hid (BagB w b (.slice ga vs.length gc) vs) := h
  have HV : Hid (w.ownsRow 0 5 1 (.slice va xs.length vc) xs.length (bytesOf xs)) := hv
  have HW : Hid (∀ k, (Value.slice va xs.length vc).ownBlock = some k → k ≠ b ∧ (Value.slice ga vs.length gc).ownBlock ≠ some k ∧ ∀ (m : Nat) (u : Value), vs[m]? = some u → u.ownBlock ≠ some k) := hnew
  have HBB : Hid (∀ k, (Value.slice ga vs.length gc).ownBlock = some k → b < k) := hbase
  clear h hv hnew hbase
  go_enter Tryz.func32, Tryz.ntmps32
  go_wp2_with (at_builtin; refine wpList_append_own_at _ rfl (.tmp 14) (.tmp 16) 42 rfl 0 28 i1 (.slice none 0 0) 1 24 Tryz.underlying42 hj hy0 hy1 hy2 rfl (by decide) (.slice ga vs.length gc) vs.length vs rfl (HB.out.own.alloc _) ⟨w.heap.size, 0, none⟩ 1 1 [.slice va xs.length vc] rfl rfl ?c1 ?c2 ?c3 ?c4 ?c5 ?_)
  case c1 => exact cell_one_new _ _ _
  case c2 => intro u hu; obtain rfl := List.mem_singleton.mp hu; rfl
  case c3 => unfold maxLen; omega
  case c4 => omega
  case c5 => exact Nat.zero_le _
  intro gv' w1 hown hgrow _ hat
  obtain ⟨ga', gc', rfl⟩ := own_form hown
  have t1 : Touch (fun k => (Value.slice ga vs.length gc).ownBlock = some k) w w1 := ((Touch.refl _ w).alloc _).grown hgrow (fun k hk => Or.inl hk)
  have hnb := HB.out.nbg
  have hc1 : w1.cell? ⟨b, 0, none⟩ = some (.slice ga vs.length gc) := (t1.cell (p := ⟨b, 0, none⟩) hbl hnb).trans hc
  have hf1 : w1.frozen? ⟨b, 0, none⟩ = false := (t1.frozen (p := ⟨b, 0, none⟩) hbl hnb).trans hf
  have HR : Hid _ := bag_addedF HB.out HV.out rfl hlen HW.out hroom HBB.out hf t1 hown hat
  clear t1 hown hgrow hat hc hf hnb
  go_wp2
  go_end0
  exact ⟨rfl, .slice ga' (vs.length + 1) gc', HR.out⟩



theorem addWords_any (b : Nat) (gv : Value) (vs : List Value) (v : Value) (xs : List Value) (w : World) (h : BagG KWords 5 w b gv vs) (hf : w.frozen? ⟨b, 5, none⟩ = false) (hv : w.ownsRow 0 23 1 v (lenOf v) xs) (hlen : lenOf v ≤ 1048576)
    (hnew : ∀ k, v.ownBlock = some k → k ≠ b ∧ gv.ownBlock ≠ some k ∧ ∀ (m : Nat) (u : Value), vs[m]? = some u → u.ownBlock ≠ some k) (hroom : vs.length < 300) (hbase : ∀ k, gv.ownBlock = some k → b < k) :
    Calls Tryz.prog 76 #[.pointer (some ⟨b, 0, none⟩), v] w fun e w' => e = .returned (.tuple #[]) ∧ ∃ gv', BagG KWords 5 w' b gv' (vs ++ [v]) ∧ w'.frozen? ⟨b, 5, none⟩ = false ∧
      (∀ k, gv'.ownBlock = some k → b < k) ∧ (gv'.ownBlock = gv.ownBlock ∨ ∃ k, gv'.ownBlock = some k ∧ w.heap.size ≤ k) ∧ Touch (fun k => k = b ∨ gv.ownBlock = some k) w w' ∧ (∀ j v, j ≠ 5 → w.cell? ⟨b, j, none⟩ = some v → w'.cell? ⟨b, j, none⟩ = some v) ∧ ∀ j, w.frozen? ⟨b, j, none⟩ = false → w'.frozen? ⟨b, j, none⟩ = false := by
  obtain ⟨i1, hj, hy0, hy1, hy2⟩ := info_parts Tryz.infoWordsL
  obtain ⟨va, vc, hva⟩ := own_form hv
  obtain ⟨ga, gc, rfl⟩ := own_form h.own
  generalize hLv : lenOf v = L at *
  subst hva
  have hc := h.cell
  have hbl := lt_of_cell hc
  have HB : Hid (BagG KWords 5 w b (.slice ga vs.length gc) vs) := h
  have HV : Hid (w.ownsRow 0 KWords.e KWords.k (.slice va L vc) (lenOf (.slice va L vc)) xs) := hv
  have HLE : Hid (lenOf (.slice va L vc) ≤ 1048576) := hlen
  have HW : Hid (∀ k, (Value.slice va L vc).ownBlock = some k → k ≠ b ∧ (Value.slice ga vs.length gc).ownBlock ≠ some k ∧ ∀ (m : Nat) (u : Value), vs[m]? = some u → u.ownBlock ≠ some k) := hnew
  have HBB : Hid (∀ k, (Value.slice ga vs.length gc).ownBlock = some k → b < k) := hbase
  clear h hv hnew hbase hLv hlen
  go_enter Tryz.func76, Tryz.ntmps76
  go_wp2_with (at_builtin; refine wpList_append_own_at _ rfl (.tmp 14) (.tmp 16) 47 rfl 0 27 i1 (.slice none 0 0) 1 24 Tryz.underlying47 hj hy0 hy1 hy2 rfl (by decide) (.slice ga vs.length gc) vs.length vs rfl (HB.out.own.alloc _) ⟨w.heap.size, 0, none⟩ 1 1 [.slice va L vc] rfl rfl ?c1 ?c2 ?c3 ?c4 ?c5 ?_)
  case c1 => exact cell_one_new _ _ _
  case c2 => intro u hu; obtain rfl := List.mem_singleton.mp hu; rfl
  case c3 => unfold maxLen; omega
  case c4 => omega
  case c5 => exact Nat.zero_le _
  intro gv' w1 hown hgrow _ hat
  obtain ⟨ga', gc', rfl⟩ := own_form hown
  have t1 : Touch (fun k => (Value.slice ga vs.length gc).ownBlock = some k) w w1 := ((Touch.refl _ w).alloc _).grown hgrow (fun k hk => Or.inl hk)
  have hnb := HB.out.nbg
  have hc1 : w1.cell? ⟨b, 5, none⟩ = some (.slice ga vs.length gc) := (t1.cell (p := ⟨b, 5, none⟩) hbl hnb).trans hc
  have hf1 : w1.frozen? ⟨b, 5, none⟩ = false := (t1.frozen (p := ⟨b, 5, none⟩) hbl hnb).trans hf
  have HR : Hid _ := bagG_added HB.out HV.out HLE.out HW.out hroom HBB.out hf t1 hown hat
  clear t1 hown hgrow hat hc hf hnb
  go_wp2
  go_end0
  exact ⟨rfl, .slice ga' (vs.length + 1) gc', HR.out⟩

theorem addLinks_any (b : Nat) (gv : Value) (vs : List Value) (v : Value) (xs : List Value) (w : World) (h : BagG KLinks 9 w b gv vs) (hf : w.frozen? ⟨b, 9, none⟩ = false) (hv : w.ownsRow 0 120 4 v (lenOf v) xs) (hlen : lenOf v ≤ 1048576)
    (hnew : ∀ k, v.ownBlock = some k → k ≠ b ∧ gv.ownBlock ≠ some k ∧ ∀ (m : Nat) (u : Value), vs[m]? = some u → u.ownBlock ≠ some k) (hroom : vs.length < 300) (hbase : ∀ k, gv.ownBlock = some k → b < k) :
    Calls Tryz.prog 75 #[.pointer (some ⟨b, 0, none⟩), v] w fun e w' => e = .returned (.tuple #[]) ∧ ∃ gv', BagG KLinks 9 w' b gv' (vs ++ [v]) ∧ w'.frozen? ⟨b, 9, none⟩ = false ∧
      (∀ k, gv'.ownBlock = some k → b < k) ∧ (gv'.ownBlock = gv.ownBlock ∨ ∃ k, gv'.ownBlock = some k ∧ w.heap.size ≤ k) ∧ Touch (fun k => k = b ∨ gv.ownBlock = some k) w w' ∧ (∀ j v, j ≠ 9 → w.cell? ⟨b, j, none⟩ = some v → w'.cell? ⟨b, j, none⟩ = some v) ∧ ∀ j, w.frozen? ⟨b, j, none⟩ = false → w'.frozen? ⟨b, j, none⟩ = false := by
  obtain ⟨i1, hj, hy0, hy1, hy2⟩ := info_parts Tryz.infoLinksL
  obtain ⟨va, vc, hva⟩ := own_form hv
  obtain ⟨ga, gc, rfl⟩ := own_form h.own
  generalize hLv : lenOf v = L at *
  subst hva
  have hc := h.cell
  have hbl := lt_of_cell hc
  have HB : Hid (BagG KLinks 9 w b (.slice ga vs.length gc) vs) := h
  have HV : Hid (w.ownsRow 0 KLinks.e KLinks.k (.slice va L vc) (lenOf (.slice va L vc)) xs) := hv
  have HLE : Hid (lenOf (.slice va L vc) ≤ 1048576) := hlen
  have HW : Hid (∀ k, (Value.slice va L vc).ownBlock = some k → k ≠ b ∧ (Value.slice ga vs.length gc).ownBlock ≠ some k ∧ ∀ (m : Nat) (u : Value), vs[m]? = some u → u.ownBlock ≠ some k) := hnew
  have HBB : Hid (∀ k, (Value.slice ga vs.length gc).ownBlock = some k → b < k) := hbase
  clear h hv hnew hbase hLv hlen
  go_enter Tryz.func75, Tryz.ntmps75
  go_wp2_with (at_builtin; refine wpList_append_own_at _ rfl (.tmp 14) (.tmp 16) 51 rfl 0 26 i1 (.slice none 0 0) 1 24 Tryz.underlying51 hj hy0 hy1 hy2 rfl (by decide) (.slice ga vs.length gc) vs.length vs rfl (HB.out.own.alloc _) ⟨w.heap.size, 0, none⟩ 1 1 [.slice va L vc] rfl rfl ?c1 ?c2 ?c3 ?c4 ?c5 ?_)
  case c1 => exact cell_one_new _ _ _
  case c2 => intro u hu; obtain rfl := List.mem_singleton.mp hu; rfl
  case c3 => unfold maxLen; omega
  case c4 => omega
  case c5 => exact Nat.zero_le _
  intro gv' w1 hown hgrow _ hat
  obtain ⟨ga', gc', rfl⟩ := own_form hown
  have t1 : Touch (fun k => (Value.slice ga vs.length gc).ownBlock = some k) w w1 := ((Touch.refl _ w).alloc _).grown hgrow (fun k hk => Or.inl hk)
  have hnb := HB.out.nbg
  have hc1 : w1.cell? ⟨b, 9, none⟩ = some (.slice ga vs.length gc) := (t1.cell (p := ⟨b, 9, none⟩) hbl hnb).trans hc
  have hf1 : w1.frozen? ⟨b, 9, none⟩ = false := (t1.frozen (p := ⟨b, 9, none⟩) hbl hnb).trans hf
  have HR : Hid _ := bagG_added HB.out HV.out HLE.out HW.out hroom HBB.out hf t1 hown hat
  clear t1 hown hgrow hat hc hf hnb
  go_wp2
  go_end0
  exact ⟨rfl, .slice ga' (vs.length + 1) gc', HR.out⟩

/-- A Bag with lists of bytes, words and links, and no others. -/
structure Bag3 (w : World) (b : Nat) (gb gw gl : Value) (vb vw vl : List Value) : Prop where
  B : BagB w b gb vb
  W : BagG KWords 5 w b gw vw
  L : BagG KLinks 9 w b gl vl
  N : ∀ j, 1 ≤ j → j ≤ 18 → j ≠ 5 → j ≠ 9 → w.cell? ⟨b, j, none⟩ = some (.slice none 0 0)
  f0 : w.frozen? ⟨b, 0, none⟩ = false
  f5 : w.frozen? ⟨b, 5, none⟩ = false
  f9 : w.frozen? ⟨b, 9, none⟩ = false
  hb : ∀ k, gb.ownBlock = some k → b < k
  hw : ∀ k, gw.ownBlock = some k → b < k
  hl : ∀ k, gl.ownBlock = some k → b < k
theorem Bag3.new (w : World) (T : TypeId) : Bag3 (w.alloc (.cells #[.slice none 0 0, .slice none 0 0, .slice none 0 0, .slice none 0 0, .slice none 0 0, .slice none 0 0, .slice none 0 0, .slice none 0 0, .slice none 0 0, .slice none 0 0, .slice none 0 0, .slice none 0 0, .slice none 0 0, .slice none 0 0, .slice none 0 0, .slice none 0 0, .slice none 0 0, .slice none 0 0, .slice none 0 0] T)) w.heap.size (.slice none 0 0) (.slice none 0 0) (.slice none 0 0) [] [] [] := by
  have hb := bag_new (w := w) (T := T) #[.slice none 0 0, .slice none 0 0, .slice none 0 0, .slice none 0 0, .slice none 0 0, .slice none 0 0, .slice none 0 0, .slice none 0 0, .slice none 0 0, .slice none 0 0, .slice none 0 0, .slice none 0 0, .slice none 0 0, .slice none 0 0, .slice none 0 0, .slice none 0 0, .slice none 0 0, .slice none 0 0, .slice none 0 0] rfl
  exact ⟨hb.1, BagG.nil (hb.2.2 5 (by omega) (by omega)), BagG.nil (hb.2.2 9 (by omega) (by omega)), fun j h1 h2 _ _ => hb.2.2 j h1 h2, hb.2.1, by simp, by simp, by simp [Value.ownBlock], by simp [Value.ownBlock], by simp [Value.ownBlock]⟩
theorem Bag3.keep {w w' : World} {b : Nat} {gb gw gl : Value} {vb vw vl : List Value} (h : Bag3 w b gb gw gl vb vw vl) (t : Touch (fun _ => False) w w') : Bag3 w' b gb gw gl vb vw vl :=
  have hbl := lt_of_cell h.B.cell
  ⟨h.B.keep t, h.W.keep t, h.L.keep t, fun j h1 h2 h3 h4 => t.cellN (h.N j h1 h2 h3 h4), (t.frozen (p := ⟨b, 0, none⟩) hbl (fun h => h)).trans h.f0, (t.frozen (p := ⟨b, 5, none⟩) hbl (fun h => h)).trans h.f5, (t.frozen (p := ⟨b, 9, none⟩) hbl (fun h => h)).trans h.f9, h.hb, h.hw, h.hl⟩
/-- The blocks of its lists. -/
def bag3F (vb vw vl : List Value) : Nat → Prop := fun k => bagF vb k ∨ bagF vw k ∨ bagF vl k

set_option maxHeartbeats 2000000 in
theorem Apart3_any (b : Nat) (gb gw gl : Value) (vb vw vl : List Value) (w : World) (h : Bag3 w b gb gw gl vb vw vl) :
    Calls Tryz.prog 15 #[.pointer (some ⟨b, 0, none⟩)] w fun e w' => e = .returned (.bool true) ∧ Touch (bag3F vb vw vl) w w' := by
  have nB : ¬ bagF vb b := by rintro ⟨m, v, hv, hk⟩; exact h.B.nb m v hv hk
  have nW : ¬ bagF vw b := by rintro ⟨m, v, hv, hk⟩; exact h.W.nb m v hv hk
  have nL : ¬ bagF vl b := by rintro ⟨m, v, hv, hk⟩; exact h.L.nb m v hv hk
  have hbl := lt_of_cell h.B.cell
  have gwB : ∀ k, gw.ownBlock = some k → ¬ bagF vb k := fun k hk ⟨m, v, hv, hk'⟩ => by obtain ⟨xs, -, hx⟩ := h.B.rows m v hv; exact own_unlike h.W.own hx (by decide) hk hk'
  have glB : ∀ k, gl.ownBlock = some k → ¬ bagF vb k := fun k hk ⟨m, v, hv, hk'⟩ => by obtain ⟨xs, -, hx⟩ := h.B.rows m v hv; exact own_unlike h.L.own hx (by decide) hk hk'
  have rwB : ∀ (m : Nat) (v : Value) (k : Nat), vw[m]? = some v → v.ownBlock = some k → ¬ bagF vb k := fun m v k hv hk ⟨m', v', hv', hk'⟩ => by obtain ⟨ys, hy⟩ := h.W.rows m v hv; obtain ⟨xs, -, hx⟩ := h.B.rows m' v' hv'; exact own_unlike hy hx (by decide) hk hk'
  have rlB : ∀ (m : Nat) (v : Value) (k : Nat), vl[m]? = some v → v.ownBlock = some k → ¬ bagF vb k := fun m v k hv hk ⟨m', v', hv', hk'⟩ => by obtain ⟨ys, hy⟩ := h.L.rows m v hv; obtain ⟨xs, -, hx⟩ := h.B.rows m' v' hv'; exact own_unlike hy hx (by decide) hk hk'
  have glW : ∀ k, gl.ownBlock = some k → ¬ bagF vw k := fun k hk ⟨m, v, hv, hk'⟩ => by obtain ⟨xs, hx⟩ := h.W.rows m v hv; exact own_unlike h.L.own hx (by decide) hk hk'
  have rlW : ∀ (m : Nat) (v : Value) (k : Nat), vl[m]? = some v → v.ownBlock = some k → ¬ bagF vw k := fun m v k hv hk ⟨m', v', hv', hk'⟩ => by obtain ⟨ys, hy⟩ := h.L.rows m v hv; obtain ⟨xs, hx⟩ := h.W.rows m' v' hv'; exact own_unlike hy hx (by decide) hk hk'
  have HH : Hid (Bag3 w b gb gw gl vb vw vl) := h
  go_enter Tryz.func15, Tryz.ntmps15
  go_wp2_with fail
  refine (apart_any _ _ _ _ HH.out.B).mono ?_
  rintro e w1 ⟨rfl, t1⟩
  have W1 : Hid (BagG KWords 5 w1 b gw vw) := HH.out.W.touch t1 ((t1.cell (p := ⟨b, 5, none⟩) hbl nB).trans HH.out.W.cell) gwB rwB
  have L1 : Hid (BagG KLinks 9 w1 b gl vl) := HH.out.L.touch t1 ((t1.cell (p := ⟨b, 9, none⟩) hbl nB).trans HH.out.L.cell) glB rlB
  have N1 : Hid (∀ j, 1 ≤ j → j ≤ 18 → j ≠ 5 → j ≠ 9 → w1.cell? ⟨b, j, none⟩ = some (.slice none 0 0)) := fun j h1 h2 h3 h4 => (t1.cell (p := ⟨b, j, none⟩) hbl nB).trans (HH.out.N j h1 h2 h3 h4)
  have T1 : Hid (Touch (bag3F vb vw vl) w w1) := t1.mono (fun _ _ h => Or.inl h)
  clear t1 h
  go_wp2_with fail
  refine (apartInts_none _ _ (N1.out 1 (by omega) (by omega) (by omega) (by omega))).mono ?_
  rintro e w' ⟨rfl, rfl⟩
  go_wp2_with fail
  refine (apartBools_none _ _ (N1.out 2 (by omega) (by omega) (by omega) (by omega))).mono ?_
  rintro e w' ⟨rfl, rfl⟩
  go_wp2_with fail
  refine (apartTexts_none _ _ (N1.out 3 (by omega) (by omega) (by omega) (by omega))).mono ?_
  rintro e w' ⟨rfl, rfl⟩
  go_wp2_with fail
  refine (apartLongs_none _ _ (N1.out 4 (by omega) (by omega) (by omega) (by omega))).mono ?_
  rintro e w' ⟨rfl, rfl⟩
  go_wp2_with fail
  refine (apartWords_any _ _ _ _ W1.out).mono ?_
  rintro e w2 ⟨rfl, t2⟩
  have hb2 := lt_of_cell W1.out.cell
  have L2 : Hid (BagG KLinks 9 w2 b gl vl) := L1.out.touch t2 ((t2.cell (p := ⟨b, 9, none⟩) hb2 nW).trans L1.out.cell) glW rlW
  have N2 : Hid (∀ j, 1 ≤ j → j ≤ 18 → j ≠ 5 → j ≠ 9 → w2.cell? ⟨b, j, none⟩ = some (.slice none 0 0)) := fun j h1 h2 h3 h4 => (t2.cell (p := ⟨b, j, none⟩) hb2 nW).trans (N1.out j h1 h2 h3 h4)
  have T2 : Hid (Touch (bag3F vb vw vl) w w2) := T1.out.trans (t2.mono (fun _ _ h => Or.inr (Or.inl h)))
  clear t2 W1 L1 N1 T1 hb2
  go_wp2_with fail
  refine (apartPrefixes_none _ _ (N2.out 6 (by omega) (by omega) (by omega) (by omega))).mono ?_
  rintro e w' ⟨rfl, rfl⟩
  go_wp2_with fail
  refine (apartHeads_none _ _ (N2.out 7 (by omega) (by omega) (by omega) (by omega))).mono ?_
  rintro e w' ⟨rfl, rfl⟩
  go_wp2_with fail
  refine (apartKeys_none _ _ (N2.out 8 (by omega) (by omega) (by omega) (by omega))).mono ?_
  rintro e w' ⟨rfl, rfl⟩
  go_wp2_with fail
  refine (apartLinks_any _ _ _ _ L2.out).mono ?_
  rintro e w3 ⟨rfl, t3⟩
  have hb3 := lt_of_cell L2.out.cell
  have N3 : Hid (∀ j, 1 ≤ j → j ≤ 18 → j ≠ 5 → j ≠ 9 → w3.cell? ⟨b, j, none⟩ = some (.slice none 0 0)) := fun j h1 h2 h3 h4 => (t3.cell (p := ⟨b, j, none⟩) hb3 nL).trans (N2.out j h1 h2 h3 h4)
  have T3 : Hid (Touch (bag3F vb vw vl) w w3) := T2.out.trans (t3.mono (fun _ _ h => Or.inr (Or.inr h)))
  clear t3 L2 N2 T2 hb3
  go_wp2_with fail
  refine (apartAreas_none _ _ (N3.out 10 (by omega) (by omega) (by omega) (by omega))).mono ?_
  rintro e w' ⟨rfl, rfl⟩
  go_wp2_with fail
  refine (apartRanges_none _ _ (N3.out 11 (by omega) (by omega) (by omega) (by omega))).mono ?_
  rintro e w' ⟨rfl, rfl⟩
  go_wp2_with fail
  refine (apartPeers_none _ _ (N3.out 12 (by omega) (by omega) (by omega) (by omega))).mono ?_
  rintro e w' ⟨rfl, rfl⟩
  go_wp2_with fail
  refine (apartOuters_none _ _ (N3.out 13 (by omega) (by omega) (by omega) (by omega))).mono ?_
  rintro e w' ⟨rfl, rfl⟩
  go_wp2_with fail
  refine (apartStates_none _ _ (N3.out 14 (by omega) (by omega) (by omega) (by omega))).mono ?_
  rintro e w' ⟨rfl, rfl⟩
  go_wp2_with fail
  refine (apartAuthKeys_none _ _ (N3.out 15 (by omega) (by omega) (by omega) (by omega))).mono ?_
  rintro e w' ⟨rfl, rfl⟩
  go_wp2_with fail
  refine (apartIfaces_none _ _ (N3.out 16 (by omega) (by omega) (by omega) (by omega))).mono ?_
  rintro e w' ⟨rfl, rfl⟩
  go_wp2_with fail
  refine (apartVirtuals_none _ _ (N3.out 17 (by omega) (by omega) (by omega) (by omega))).mono ?_
  rintro e w' ⟨rfl, rfl⟩
  go_wp2_with fail
  refine (apartOpaques_none _ _ (N3.out 18 (by omega) (by omega) (by omega) (by omega))).mono ?_
  rintro e w' ⟨rfl, rfl⟩
  go_wp2
  go_ret
  exact ⟨rfl, T3.out⟩

set_option maxHeartbeats 2000000 in
theorem addB_any (b : Nat) (gb gw gl : Value) (vb vw vl : List Value) (B : BV) (a1 a3 a8 : Option Addr) (q1 q3 q8 : Nat) (w : World) (h : Bag3 w b gb gw gl vb vw vl) (hB : BOwn 0 w B (.slice a1 B.links.length q1) (.slice a3 B.routers.length q3) (.slice a8 B.data.length q8))
    (s1 : B.links.length ≤ 1048576) (s3 : B.routers.length ≤ 1048576) (s8 : B.data.length ≤ 1048576) (m1 : vl.length < 300) (m3 : vw.length < 300) (m8 : vb.length < 300)
    (n1 : ∀ k, (Value.slice a1 B.links.length q1).ownBlock = some k → k ≠ b ∧ ∀ (m : Nat) (u : Value), vl[m]? = some u → u.ownBlock ≠ some k) (n3 : ∀ k, (Value.slice a3 B.routers.length q3).ownBlock = some k → k ≠ b ∧ ∀ (m : Nat) (u : Value), vw[m]? = some u → u.ownBlock ≠ some k) (n8 : ∀ k, (Value.slice a8 B.data.length q8).ownBlock = some k → k ≠ b ∧ ∀ (m : Nat) (u : Value), vb[m]? = some u → u.ownBlock ≠ some k) :
    Calls Tryz.prog 20 #[.pointer (some ⟨b, 0, none⟩), .agg #[.int .u8 B.flags, .slice a1 B.links.length q1, .int .u32 B.mask, .slice a3 B.routers.length q3, .int .u32 B.metric, .bool B.type2, .int .u32 B.fwd, .int .u32 B.tag, .slice a8 B.data.length q8]] w fun e w' => e = .returned (.tuple #[]) ∧ ∃ gb' gw' gl', Bag3 w' b gb' gw' gl' (vb ++ [(.slice a8 B.data.length q8)]) (vw ++ [(.slice a3 B.routers.length q3)]) (vl ++ [(.slice a1 B.links.length q1)]) ∧ Touch (fun k => b ≤ k) w w' := by
  have T0 : Hid (Touch (fun _ => False) w (w.alloc (.cells #[.int .u8 B.flags, .slice a1 B.links.length q1, .int .u32 B.mask, .slice a3 B.routers.length q3, .int .u32 B.metric, .bool B.type2, .int .u32 B.fwd, .int .u32 B.tag, .slice a8 B.data.length q8] 30))) := (Touch.refl _ w).alloc _
  have D0 : Hid (Bd (w.alloc (.cells #[.int .u8 B.flags, .slice a1 B.links.length q1, .int .u32 B.mask, .slice a3 B.routers.length q3, .int .u32 B.metric, .bool B.type2, .int .u32 B.fwd, .int .u32 B.tag, .slice a8 B.data.length q8] 30)) w.heap.size B (.slice a1 B.links.length q1) (.slice a3 B.routers.length q3) (.slice a8 B.data.length q8)) := Bd.new w B _ _ _ _
  have H0 : Hid (Bag3 (w.alloc (.cells #[.int .u8 B.flags, .slice a1 B.links.length q1, .int .u32 B.mask, .slice a3 B.routers.length q3, .int .u32 B.metric, .bool B.type2, .int .u32 B.fwd, .int .u32 B.tag, .slice a8 B.data.length q8] 30)) b gb gw gl vb vw vl) := h.keep T0.out
  have O0 : Hid (BOwn 0 (w.alloc (.cells #[.int .u8 B.flags, .slice a1 B.links.length q1, .int .u32 B.mask, .slice a3 B.routers.length q3, .int .u32 B.metric, .bool B.type2, .int .u32 B.fwd, .int .u32 B.tag, .slice a8 B.data.length q8] 30)) B (.slice a1 B.links.length q1) (.slice a3 B.routers.length q3) (.slice a8 B.data.length q8)) := hB.keep T0.out
  have hbs : b < w.heap.size := lt_of_cell h.B.cell
  have kL : Hid (∀ k, gl.ownBlock = some k → k < w.heap.size) := fun k hk => own_lt h.L.own hk
  have kW : Hid (∀ k, gw.ownBlock = some k → k < w.heap.size) := fun k hk => own_lt h.W.own hk
  have kB : Hid (∀ k, gb.ownBlock = some k → k < w.heap.size) := fun k hk => own_lt h.B.own hk
  have N1 : Hid _ := n1
  have N3 : Hid _ := n3
  have N8 : Hid _ := n8
  clear h hB n1 n3 n8
  go_enter Tryz.func20, Tryz.ntmps20
  go_upto_region 1 with fail
  generalize w.alloc (.cells #[.int .u8 B.flags, .slice a1 B.links.length q1, .int .u32 B.mask, .slice a3 B.routers.length q3, .int .u32 B.metric, .bool B.type2, .int .u32 B.fwd, .int .u32 B.tag, .slice a8 B.data.length q8] 30) = w0 at *
  generalize hg : w.heap.size = g0 at *
  have HG : Hid (w.heap.size = g0) := hg
  clear hg
  have hgb : ¬ g0 = b := by omega
  have d1 := D0.out.c1
  have g0lt : g0 < w0.heap.size := lt_of_cell D0.out.c1
  go_wp2_with fail
  refine Calls.mono (addLinks_any b gl vl (.slice a1 B.links.length q1) _ w0 H0.out.L H0.out.f9 O0.out.l s1 (fun k hk => ⟨(N1.out k hk).1, fun e => own_unlike H0.out.L.own O0.out.l (by decide) e hk, (N1.out k hk).2⟩) m1 H0.out.hl) ?_
  rintro e w1 ⟨rfl, gl', hL, -, hl', hr, t1, hc, hfz⟩
  have T1 : Hid (Touch (fun k => k = b ∨ gl.ownBlock = some k) w0 w1) := t1
  have D1 : Hid (Bd w1 g0 B (.slice a1 B.links.length q1) (.slice a3 B.routers.length q3) (.slice a8 B.data.length q8)) := by
    have mv : ∀ i v, w0.cell? ⟨g0, i, none⟩ = some v → w1.cell? ⟨g0, i, none⟩ = some v := fun i v hc => (t1.cell (p := ⟨g0, i, none⟩) g0lt (fun e => by rcases e with e | e; exact hgb e; have := kL.out g0 e; omega)).trans hc
    obtain ⟨c0, c1, c2, c3, c4, c5, c6, c7, c8⟩ := D0.out
    exact ⟨mv _ _ c0, mv _ _ c1, mv _ _ c2, mv _ _ c3, mv _ _ c4, mv _ _ c5, mv _ _ c6, mv _ _ c7, mv _ _ c8⟩
  have L1 : Hid (BagG KLinks 9 w1 b gl' (vl ++ [(.slice a1 B.links.length q1)])) := hL
  have W1 : Hid (BagG KWords 5 w1 b gw vw) := H0.out.W.touch t1 (hc 5 _ (by decide) H0.out.W.cell) (fun k hk e => by rcases e with e | e; exact H0.out.W.nbg (by rw [hk, e]); exact own_unlike H0.out.W.own H0.out.L.own (by decide) hk e) (fun m v k hv hk e => by rcases e with e | e; exact H0.out.W.nb m v hv (by rw [hk, e]); obtain ⟨ys, hy⟩ := H0.out.W.rows m v hv; exact own_unlike hy H0.out.L.own (by decide) hk e)
  have B1 : Hid (BagB w1 b gb vb) := H0.out.B.touch t1 (hc 0 _ (by decide) H0.out.B.cell) (fun k hk e => by rcases e with e | e; exact H0.out.B.nbg (by rw [hk, e]); exact own_unlike H0.out.B.own H0.out.L.own (by decide) hk e) (fun m v k hv hk e => by rcases e with e | e; exact H0.out.B.nb m v hv (by rw [hk, e]); obtain ⟨ys, -, hy⟩ := H0.out.B.rows m v hv; exact own_unlike hy H0.out.L.own (by decide) hk e)
  have HL1 : Hid (∀ k, gl'.ownBlock = some k → b < k) := hl'
  have HC1 : Hid (∀ j v, j ≠ 9 → w0.cell? ⟨b, j, none⟩ = some v → w1.cell? ⟨b, j, none⟩ = some v) := hc
  have HF1 : Hid (∀ j, w0.frozen? ⟨b, j, none⟩ = false → w1.frozen? ⟨b, j, none⟩ = false) := hfz
  have R1 : Hid (w1.ownsRow 0 23 1 (.slice a3 B.routers.length q3) B.routers.length (wordsC B.routers)) := own_touch O0.out.r t1 (fun k hk e => by rcases e with e | e; exact (N3.out k hk).1 e; exact own_unlike O0.out.r H0.out.L.own (by decide) hk e)
  have E1 : Hid (w1.ownsRow 0 5 1 (.slice a8 B.data.length q8) B.data.length (bytesOf B.data)) := own_touch O0.out.d t1 (fun k hk e => by rcases e with e | e; exact (N8.out k hk).1 e; exact own_unlike O0.out.d H0.out.L.own (by decide) hk e)
  have Z1 : Hid (w0.heap.size ≤ w1.heap.size) := t1.size
  clear d1 t1 hL hl' hr hc hfz
  have d3 := D1.out.c3
  go_wp2_with fail
  refine Calls.mono (addWords_any b gw vw (.slice a3 B.routers.length q3) _ w1 W1.out (HF1.out 5 H0.out.f5) R1.out s3 (fun k hk => ⟨(N3.out k hk).1, fun e => own_unlike W1.out.own R1.out (by decide) e hk, (N3.out k hk).2⟩) m3 H0.out.hw) ?_
  rintro e w2 ⟨rfl, gw', hW, -, hw', hr, t2, hc, hfz⟩
  have T2 : Hid (Touch (fun k => k = b ∨ gw.ownBlock = some k) w1 w2) := t2
  have D2 : Hid (Bd w2 g0 B (.slice a1 B.links.length q1) (.slice a3 B.routers.length q3) (.slice a8 B.data.length q8)) := by
    have mv : ∀ i v, w1.cell? ⟨g0, i, none⟩ = some v → w2.cell? ⟨g0, i, none⟩ = some v := fun i v hc => (t2.cell (p := ⟨g0, i, none⟩) (lt_of_cell hc) (fun e => by rcases e with e | e; exact hgb e; have := kW.out g0 e; omega)).trans hc
    obtain ⟨c0, c1, c2, c3, c4, c5, c6, c7, c8⟩ := D1.out
    exact ⟨mv _ _ c0, mv _ _ c1, mv _ _ c2, mv _ _ c3, mv _ _ c4, mv _ _ c5, mv _ _ c6, mv _ _ c7, mv _ _ c8⟩
  have W2 : Hid (BagG KWords 5 w2 b gw' (vw ++ [(.slice a3 B.routers.length q3)])) := hW
  have L2 : Hid (BagG KLinks 9 w2 b gl' (vl ++ [(.slice a1 B.links.length q1)])) := L1.out.touch t2 (hc 9 _ (by decide) L1.out.cell) (fun k hk e => by rcases e with e | e; exact L1.out.nbg (by rw [hk, e]); exact own_unlike L1.out.own W1.out.own (by decide) hk e) (fun m v k hv hk e => by rcases e with e | e; exact L1.out.nb m v hv (by rw [hk, e]); obtain ⟨ys, hy⟩ := L1.out.rows m v hv; exact own_unlike hy W1.out.own (by decide) hk e)
  have B2 : Hid (BagB w2 b gb vb) := B1.out.touch t2 (hc 0 _ (by decide) B1.out.cell) (fun k hk e => by rcases e with e | e; exact B1.out.nbg (by rw [hk, e]); exact own_unlike B1.out.own W1.out.own (by decide) hk e) (fun m v k hv hk e => by rcases e with e | e; exact B1.out.nb m v hv (by rw [hk, e]); obtain ⟨ys, -, hy⟩ := B1.out.rows m v hv; exact own_unlike hy W1.out.own (by decide) hk e)
  have HW2 : Hid (∀ k, gw'.ownBlock = some k → b < k) := hw'
  have HC2 : Hid (∀ j v, j ≠ 5 → w1.cell? ⟨b, j, none⟩ = some v → w2.cell? ⟨b, j, none⟩ = some v) := hc
  have HF2 : Hid (∀ j, w1.frozen? ⟨b, j, none⟩ = false → w2.frozen? ⟨b, j, none⟩ = false) := hfz
  have E2 : Hid (w2.ownsRow 0 5 1 (.slice a8 B.data.length q8) B.data.length (bytesOf B.data)) := own_touch E1.out t2 (fun k hk e => by rcases e with e | e; exact (N8.out k hk).1 e; exact own_unlike E1.out W1.out.own (by decide) hk e)
  clear d3 t2 hW hw' hr hc hfz
  have d8 := D2.out.c8
  go_wp2_with fail
  refine Calls.mono (add_anyF b gb vb (.slice a8 B.data.length q8) B.data w2 B2.out (HF2.out 0 (HF1.out 0 H0.out.f0)) E2.out s8 (fun k hk => ⟨(N8.out k hk).1, fun e => own_unlike B2.out.own E2.out (by decide) e hk, (N8.out k hk).2⟩) m8 H0.out.hb) ?_
  rintro e w3 ⟨rfl, gb', hB, f0, hb', hr, t3, hc, hfz⟩
  have HR : Hid (∃ gb' gw' gl', Bag3 w3 b gb' gw' gl' (vb ++ [(.slice a8 B.data.length q8)]) (vw ++ [(.slice a3 B.routers.length q3)]) (vl ++ [(.slice a1 B.links.length q1)]) ∧ Touch (fun k => b ≤ k) w w3) := by
    refine ⟨gb', gw', gl', ⟨hB, ?_, ?_, ?_, f0, ?_, ?_, hb', HW2.out, HL1.out⟩, ?_⟩
    · exact W2.out.touch t3 (hc 5 _ (by decide) W2.out.cell) (fun k hk e => by rcases e with e | e; exact W2.out.nbg (by rw [hk, e]); exact own_unlike W2.out.own B2.out.own (by decide) hk e) (fun m v k hv hk e => by rcases e with e | e; exact W2.out.nb m v hv (by rw [hk, e]); obtain ⟨ys, hy⟩ := W2.out.rows m v hv; exact own_unlike hy B2.out.own (by decide) hk e)
    · exact L2.out.touch t3 (hc 9 _ (by decide) L2.out.cell) (fun k hk e => by rcases e with e | e; exact L2.out.nbg (by rw [hk, e]); exact own_unlike L2.out.own B2.out.own (by decide) hk e) (fun m v k hv hk e => by rcases e with e | e; exact L2.out.nb m v hv (by rw [hk, e]); obtain ⟨ys, hy⟩ := L2.out.rows m v hv; exact own_unlike hy B2.out.own (by decide) hk e)
    · exact fun j h1 h2 h3 h4 => hc j _ h1 (HC2.out j _ h3 (HC1.out j _ h4 (H0.out.N j h1 h2 h3 h4)))
    · exact hfz 5 (HF2.out 5 (HF1.out 5 H0.out.f5))
    · exact hfz 9 (HF2.out 9 (HF1.out 9 H0.out.f9))
    · refine ((Touch.mono T0.out (fun _ _ h => h.elim)).trans (Touch.mono T1.out (fun i _ e => ?_))).trans ((Touch.mono T2.out (fun i _ e => ?_)).trans (Touch.mono t3 (fun i _ e => ?_)))
      · rcases e with e | e
        · omega
        · have := H0.out.hl i e; omega
      · rcases e with e | e
        · omega
        · have := H0.out.hw i e; omega
      · rcases e with e | e
        · omega
        · have := H0.out.hb i e; omega
  clear d8 t3 hB f0 hb' hr hc hfz
  go_wp2_with fail
  go_end0
  exact ⟨rfl, HR.out⟩
end Go.Proofs.YthdkihnmeoacaaaGreatDoor
