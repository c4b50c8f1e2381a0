/- The contracts of the other looks of a Bag, where its lists of other kinds are empty, of Apart and of AddBytes. -/
import Derived.Test.YtjjgbcjgmjggnaaGreatDoorBagTwo
import Derived.Test.YtjjgbcjgmjggnaaGreatDoorWideB
namespace Go.Proofs.YtjjgbcjgmjggnaaGreatDoor
open Go.RowKit
set_option linter.unusedVariables false
set_option maxRecDepth 100000

theorem apartInts_none (b : Nat) (w : World) (h : w.cell? ⟨b, 1, none⟩ = some (.slice none 0 0)) :
    Calls Tryz.prog 33 #[.pointer (some ⟨b, 0, none⟩)] w fun e w' => e = .returned (.bool true) ∧ w = w' := by
  go_enter Tryz.func33, Tryz.ntmps33
  go_wp2
  go_rounds 1
  go_rounds 1
  go_rounds 1
  go_ret
  exact ⟨rfl, rfl⟩

theorem apartBools_none (b : Nat) (w : World) (h : w.cell? ⟨b, 2, none⟩ = some (.slice none 0 0)) :
    Calls Tryz.prog 34 #[.pointer (some ⟨b, 0, none⟩)] w fun e w' => e = .returned (.bool true) ∧ w = w' := by
  go_enter Tryz.func34, Tryz.ntmps34
  go_wp2
  go_rounds 1
  go_rounds 1
  go_rounds 1
  go_ret
  exact ⟨rfl, rfl⟩

theorem apartTexts_none (b : Nat) (w : World) (h : w.cell? ⟨b, 3, none⟩ = some (.slice none 0 0)) :
    Calls Tryz.prog 35 #[.pointer (some ⟨b, 0, none⟩)] w fun e w' => e = .returned (.bool true) ∧ w = w' := by
  go_enter Tryz.func35, Tryz.ntmps35
  go_wp2
  go_rounds 1
  go_rounds 1
  go_rounds 1
  go_ret
  exact ⟨rfl, rfl⟩

theorem apartLongs_none (b : Nat) (w : World) (h : w.cell? ⟨b, 4, none⟩ = some (.slice none 0 0)) :
    Calls Tryz.prog 36 #[.pointer (some ⟨b, 0, none⟩)] w fun e w' => e = .returned (.bool true) ∧ w = w' := by
  go_enter Tryz.func36, Tryz.ntmps36
  go_wp2
  go_rounds 1
  go_rounds 1
  go_rounds 1
  go_ret
  exact ⟨rfl, rfl⟩

theorem apartWords_none (b : Nat) (w : World) (h : w.cell? ⟨b, 5, none⟩ = some (.slice none 0 0)) :
    Calls Tryz.prog 37 #[.pointer (some ⟨b, 0, none⟩)] w fun e w' => e = .returned (.bool true) ∧ w = w' := by
  go_enter Tryz.func37, Tryz.ntmps37
  go_wp2
  go_rounds 1
  go_rounds 1
  go_rounds 1
  go_ret
  exact ⟨rfl, rfl⟩

theorem apartPrefixes_none (b : Nat) (w : World) (h : w.cell? ⟨b, 6, none⟩ = some (.slice none 0 0)) :
    Calls Tryz.prog 38 #[.pointer (some ⟨b, 0, none⟩)] w fun e w' => e = .returned (.bool true) ∧ w = w' := by
  go_enter Tryz.func38, Tryz.ntmps38
  go_wp2
  go_rounds 1
  go_rounds 1
  go_rounds 1
  go_ret
  exact ⟨rfl, rfl⟩

theorem apartHeads_none (b : Nat) (w : World) (h : w.cell? ⟨b, 7, none⟩ = some (.slice none 0 0)) :
    Calls Tryz.prog 39 #[.pointer (some ⟨b, 0, none⟩)] w fun e w' => e = .returned (.bool true) ∧ w = w' := by
  go_enter Tryz.func39, Tryz.ntmps39
  go_wp2
  go_rounds 1
  go_rounds 1
  go_rounds 1
  go_ret
  exact ⟨rfl, rfl⟩

theorem apartKeys_none (b : Nat) (w : World) (h : w.cell? ⟨b, 8, none⟩ = some (.slice none 0 0)) :
    Calls Tryz.prog 40 #[.pointer (some ⟨b, 0, none⟩)] w fun e w' => e = .returned (.bool true) ∧ w = w' := by
  go_enter Tryz.func40, Tryz.ntmps40
  go_wp2
  go_rounds 1
  go_rounds 1
  go_rounds 1
  go_ret
  exact ⟨rfl, rfl⟩

theorem apartLinks_none (b : Nat) (w : World) (h : w.cell? ⟨b, 9, none⟩ = some (.slice none 0 0)) :
    Calls Tryz.prog 41 #[.pointer (some ⟨b, 0, none⟩)] w fun e w' => e = .returned (.bool true) ∧ w = w' := by
  go_enter Tryz.func41, Tryz.ntmps41
  go_wp2
  go_rounds 1
  go_rounds 1
  go_rounds 1
  go_ret
  exact ⟨rfl, rfl⟩

theorem apartAreas_none (b : Nat) (w : World) (h : w.cell? ⟨b, 10, none⟩ = some (.slice none 0 0)) :
    Calls Tryz.prog 42 #[.pointer (some ⟨b, 0, none⟩)] w fun e w' => e = .returned (.bool true) ∧ w = w' := by
  go_enter Tryz.func42, Tryz.ntmps42
  go_wp2
  go_rounds 1
  go_rounds 1
  go_rounds 1
  go_ret
  exact ⟨rfl, rfl⟩

theorem apartRanges_none (b : Nat) (w : World) (h : w.cell? ⟨b, 11, none⟩ = some (.slice none 0 0)) :
    Calls Tryz.prog 43 #[.pointer (some ⟨b, 0, none⟩)] w fun e w' => e = .returned (.bool true) ∧ w = w' := by
  go_enter Tryz.func43, Tryz.ntmps43
  go_wp2
  go_rounds 1
  go_rounds 1
  go_rounds 1
  go_ret
  exact ⟨rfl, rfl⟩

theorem apartPeers_none (b : Nat) (w : World) (h : w.cell? ⟨b, 12, none⟩ = some (.slice none 0 0)) :
    Calls Tryz.prog 44 #[.pointer (some ⟨b, 0, none⟩)] w fun e w' => e = .returned (.bool true) ∧ w = w' := by
  go_enter Tryz.func44, Tryz.ntmps44
  go_wp2
  go_rounds 1
  go_rounds 1
  go_rounds 1
  go_ret
  exact ⟨rfl, rfl⟩

theorem apartOuters_none (b : Nat) (w : World) (h : w.cell? ⟨b, 13, none⟩ = some (.slice none 0 0)) :
    Calls Tryz.prog 45 #[.pointer (some ⟨b, 0, none⟩)] w fun e w' => e = .returned (.bool true) ∧ w = w' := by
  go_enter Tryz.func45, Tryz.ntmps45
  go_wp2
  go_rounds 1
  go_rounds 1
  go_rounds 1
  go_ret
  exact ⟨rfl, rfl⟩

theorem apartStates_none (b : Nat) (w : World) (h : w.cell? ⟨b, 14, none⟩ = some (.slice none 0 0)) :
    Calls Tryz.prog 46 #[.pointer (some ⟨b, 0, none⟩)] w fun e w' => e = .returned (.bool true) ∧ w = w' := by
  go_enter Tryz.func46, Tryz.ntmps46
  go_wp2
  go_rounds 1
  go_rounds 1
  go_rounds 1
  go_ret
  exact ⟨rfl, rfl⟩

theorem apartAuthKeys_none (b : Nat) (w : World) (h : w.cell? ⟨b, 15, none⟩ = some (.slice none 0 0)) :
    Calls Tryz.prog 47 #[.pointer (some ⟨b, 0, none⟩)] w fun e w' => e = .returned (.bool true) ∧ w = w' := by
  go_enter Tryz.func47, Tryz.ntmps47
  go_wp2
  go_rounds 1
  go_rounds 1
  go_rounds 1
  go_ret
  exact ⟨rfl, rfl⟩

theorem apartIfaces_none (b : Nat) (w : World) (h : w.cell? ⟨b, 16, none⟩ = some (.slice none 0 0)) :
    Calls Tryz.prog 48 #[.pointer (some ⟨b, 0, none⟩)] w fun e w' => e = .returned (.bool true) ∧ w = w' := by
  go_enter Tryz.func48, Tryz.ntmps48
  go_wp2
  go_rounds 1
  go_rounds 1
  go_rounds 1
  go_ret
  exact ⟨rfl, rfl⟩

theorem apartVirtuals_none (b : Nat) (w : World) (h : w.cell? ⟨b, 17, none⟩ = some (.slice none 0 0)) :
    Calls Tryz.prog 49 #[.pointer (some ⟨b, 0, none⟩)] w fun e w' => e = .returned (.bool true) ∧ w = w' := by
  go_enter Tryz.func49, Tryz.ntmps49
  go_wp2
  go_rounds 1
  go_rounds 1
  go_rounds 1
  go_ret
  exact ⟨rfl, rfl⟩

theorem apartOpaques_none (b : Nat) (w : World) (h : w.cell? ⟨b, 18, none⟩ = some (.slice none 0 0)) :
    Calls Tryz.prog 50 #[.pointer (some ⟨b, 0, none⟩)] w fun e w' => e = .returned (.bool true) ∧ w = w' := by
  go_enter Tryz.func50, Tryz.ntmps50
  go_wp2
  go_rounds 1
  go_rounds 1
  go_rounds 1
  go_ret
  exact ⟨rfl, rfl⟩

/-- The other lists of a Bag are empty. -/
def BagN (w : World) (b : Nat) : Prop := ∀ j, 1 ≤ j → j ≤ 18 → w.cell? ⟨b, j, none⟩ = some (.slice none 0 0)
theorem BagN.touch {F : Nat → Prop} {w w' : World} {b : Nat} (h : BagN w b) (t : Touch F w w') (hb : ¬ F b) : BagN w' b :=
  fun j h1 h2 => (t.cell (p := ⟨b, j, none⟩) (lt_of_cell (h j h1 h2)) hb).trans (h j h1 h2)

theorem Apart_any (b : Nat) (gv : Value) (vs : List Value) (w : World) (h : BagB w b gv vs) (hn : BagN w b) :
    Calls Tryz.prog 14 #[.pointer (some ⟨b, 0, none⟩)] w fun e w' => e = .returned (.bool true) ∧ Touch (bagF vs) w w' := by
  go_enter Tryz.func14, Tryz.ntmps14
  go_wp2_with fail
  refine (apart_any _ _ _ _ h).mono ?_
  rintro e w1 ⟨rfl, t⟩
  have hn1 := hn.touch t (by rintro ⟨m, v, hv, hk⟩; exact h.nb m v hv hk)
  go_wp2_with fail
  refine (apartInts_none _ _ (hn1 1 (by omega) (by omega))).mono ?_
  rintro e w' ⟨rfl, rfl⟩
  go_wp2_with fail
  refine (apartBools_none _ _ (hn1 2 (by omega) (by omega))).mono ?_
  rintro e w' ⟨rfl, rfl⟩
  go_wp2_with fail
  refine (apartTexts_none _ _ (hn1 3 (by omega) (by omega))).mono ?_
  rintro e w' ⟨rfl, rfl⟩
  go_wp2_with fail
  refine (apartLongs_none _ _ (hn1 4 (by omega) (by omega))).mono ?_
  rintro e w' ⟨rfl, rfl⟩
  go_wp2_with fail
  refine (apartWords_none _ _ (hn1 5 (by omega) (by omega))).mono ?_
  rintro e w' ⟨rfl, rfl⟩
  go_wp2_with fail
  refine (apartPrefixes_none _ _ (hn1 6 (by omega) (by omega))).mono ?_
  rintro e w' ⟨rfl, rfl⟩
  go_wp2_with fail
  refine (apartHeads_none _ _ (hn1 7 (by omega) (by omega))).mono ?_
  rintro e w' ⟨rfl, rfl⟩
  go_wp2_with fail
  refine (apartKeys_none _ _ (hn1 8 (by omega) (by omega))).mono ?_
  rintro e w' ⟨rfl, rfl⟩
  go_wp2_with fail
  refine (apartLinks_none _ _ (hn1 9 (by omega) (by omega))).mono ?_
  rintro e w' ⟨rfl, rfl⟩
  go_wp2_with fail
  refine (apartAreas_none _ _ (hn1 10 (by omega) (by omega))).mono ?_
  rintro e w' ⟨rfl, rfl⟩
  go_wp2_with fail
  refine (apartRanges_none _ _ (hn1 11 (by omega) (by omega))).mono ?_
  rintro e w' ⟨rfl, rfl⟩
  go_wp2_with fail
  refine (apartPeers_none _ _ (hn1 12 (by omega) (by omega))).mono ?_
  rintro e w' ⟨rfl, rfl⟩
  go_wp2_with fail
  refine (apartOuters_none _ _ (hn1 13 (by omega) (by omega))).mono ?_
  rintro e w' ⟨rfl, rfl⟩
  go_wp2_with fail
  refine (apartStates_none _ _ (hn1 14 (by omega) (by omega))).mono ?_
  rintro e w' ⟨rfl, rfl⟩
  go_wp2_with fail
  refine (apartAuthKeys_none _ _ (hn1 15 (by omega) (by omega))).mono ?_
  rintro e w' ⟨rfl, rfl⟩
  go_wp2_with fail
  refine (apartIfaces_none _ _ (hn1 16 (by omega) (by omega))).mono ?_
  rintro e w' ⟨rfl, rfl⟩
  go_wp2_with fail
  refine (apartVirtuals_none _ _ (hn1 17 (by omega) (by omega))).mono ?_
  rintro e w' ⟨rfl, rfl⟩
  go_wp2_with fail
  refine (apartOpaques_none _ _ (hn1 18 (by omega) (by omega))).mono ?_
  rintro e w' ⟨rfl, rfl⟩
  go_wp2
  go_ret
  exact ⟨rfl, t⟩
end Go.Proofs.YtjjgbcjgmjggnaaGreatDoor

namespace Go.Proofs.YtjjgbcjgmjggnaaGreatDoor
open Go.RowKit
set_option linter.unusedVariables false
set_option maxRecDepth 100000

theorem Tryz.infoA : (Tryz.prog.info? 22).map (fun i => (i.zero, i.size, i.bytes)) = some (some (.slice none 0 0), 1, 24) := by kernel_rfl

theorem cell_other (w : World) (b j : Nat) (v : Value) (h : 0 < j) : (w.setCell ⟨b, 0, none⟩ v).cell? ⟨b, j, none⟩ = w.cell? ⟨b, j, none⟩ :=
  World.cell?_setCell_other w ⟨b, 0, none⟩ ⟨b, j, none⟩ v (by intro e; injection e with _ e2; omega)

theorem bag_added {w w1 : World} {b : Nat} {gv gv' v : Value} {vs : List Value} {xs : List Int} (h : BagB w b gv vs) (hv : w.ownsRow 0 5 1 v xs.length (bytesOf xs)) (hvl : lenOf v = xs.length) (hlen : xs.length ≤ 1048576)
    (hnew : ∀ k, v.ownBlock = some k → k ≠ b ∧ gv.ownBlock ≠ some k ∧ ∀ (m : Nat) (u : Value), vs[m]? = some u → u.ownBlock ≠ some k) (hroom : vs.length < 300) (hbase : ∀ k, gv.ownBlock = some k → b < k)
    (hf : w.frozen? ⟨b, 0, none⟩ = false) (t : Touch (fun k => gv.ownBlock = some k) w w1) (hown : w1.ownsRow 0 22 1 gv' (vs.length + 1) (vs ++ [v])) (hat : gv'.ownBlock = gv.ownBlock ∨ gv'.ownBlock = some (w.heap.size + 1)) :
    BagB (w1.setCell ⟨b, 0, none⟩ gv') b gv' (vs ++ [v]) ∧ (w1.setCell ⟨b, 0, none⟩ gv').frozen? ⟨b, 0, none⟩ = false ∧ (∀ k, gv'.ownBlock = some k → b < k) ∧ (gv'.ownBlock = gv.ownBlock ∨ ∃ k, gv'.ownBlock = some k ∧ w.heap.size ≤ k) ∧ Touch (fun k => k = b ∨ gv.ownBlock = some k) w (w1.setCell ⟨b, 0, none⟩ gv') ∧ ∀ j v, 1 ≤ j → w.cell? ⟨b, j, none⟩ = some v → (w1.setCell ⟨b, 0, none⟩ gv').cell? ⟨b, j, none⟩ = some v := by
  have hbl := lt_of_cell h.cell
  have hgb : ∀ k, gv'.ownBlock = some k → b < k := by
    intro k hk
    rcases hat with e | e
    · exact hbase k (by rw [← e]; exact hk)
    · rw [e] at hk; simp at hk; omega
  have hc1 : w1.cell? ⟨b, 0, none⟩ = some gv := (t.cell (p := ⟨b, 0, none⟩) hbl h.nbg).trans h.cell
  have hf1 : w1.frozen? ⟨b, 0, none⟩ = false := (t.frozen (p := ⟨b, 0, none⟩) hbl h.nbg).trans hf
  have tc : Touch (fun k => k = b) w1 (w1.setCell ⟨b, 0, none⟩ gv') := Touch.setCell (F := fun k => k = b) (p := ⟨b, 0, none⟩) (Touch.refl _ w1) (Or.inl rfl) _
  have tt : Touch (fun k => k = b ∨ gv.ownBlock = some k) w (w1.setCell ⟨b, 0, none⟩ gv') := (t.mono (fun i _ e => Or.inr e)).trans' tc (fun i _ e => Or.inl e)
  have hat' : ∀ k, gv'.ownBlock = some k → k < w.heap.size → gv.ownBlock = some k := by
    intro k hk hl
    rcases hat with e | e
    · rw [← e]; exact hk
    · rw [e] at hk; simp at hk; omega
  have ap : ∀ (m : Nat) (u : Value), (vs ++ [v])[m]? = some u → (m < vs.length ∧ vs[m]? = some u) ∨ (m = vs.length ∧ u = v) := by
    intro m u hu
    rcases Nat.lt_or_ge m vs.length with hm | hm
    · left; rw [List.getElem?_append_left hm] at hu; exact ⟨hm, hu⟩
    · right
      rw [List.getElem?_append_right hm] at hu
      have : m - vs.length < [v].length := (List.getElem?_eq_some_iff.mp hu).1
      simp at this
      have e : m - vs.length = 0 := by omega
      rw [e] at hu
      simp at hu
      exact ⟨by omega, hu.symm⟩
  refine ⟨⟨by simp [hc1, go_sem], ?_, ?_, ?_, ?_, ?_, ?_, by simp; omega, ?_⟩, by simp [hf1, go_sem], hgb, ?_, tt, fun j v hj hc => (cell_other w1 b j gv' (by omega)).trans ((t.cell (p := ⟨b, j, none⟩) hbl h.nbg).trans hc)⟩
  · have := own_touch hown tc (fun k hk e => by have := hgb k hk; omega)
    simpa using this
  · intro m u hu
    rcases ap m u hu with ⟨hm, hu'⟩ | ⟨rfl, rfl⟩
    · obtain ⟨ys, k1, k2⟩ := h.rows m u hu'
      exact ⟨ys, k1, own_touch k2 tt (fun k hk e => by rcases e with e | e; exact h.nb m u hu' (by rw [hk, e]); exact h.ng m u k hu' hk e)⟩
    · exact ⟨xs, hvl.symm, by rw [hvl]; exact own_touch hv tt (fun k hk e => by have := hnew k hk; rcases e with e | e; exact this.1 e; exact this.2.1 e)⟩
  · intro m m' u u' k hu hu' hk hk'
    rcases ap m u hu with ⟨hm, h1⟩ | ⟨rfl, rfl⟩ <;> rcases ap m' u' hu' with ⟨hm', h2⟩ | ⟨rfl, rfl⟩
    · exact h.apart m m' u u' k h1 h2 hk hk'
    · exact absurd hk ((hnew k hk').2.2 m u h1)
    · exact absurd hk' ((hnew k hk).2.2 m' u' h2)
    · rfl
  · intro m u hu
    rcases ap m u hu with ⟨hm, hu'⟩ | ⟨rfl, rfl⟩
    · exact h.nb m u hu'
    · intro e; exact (hnew b e).1 rfl
  · intro m u k hu hk e
    rcases ap m u hu with ⟨hm, hu'⟩ | ⟨rfl, rfl⟩
    · obtain ⟨ys, k1, k2⟩ := h.rows m u hu'
      exact h.ng m u k hu' hk (hat' k e (own_lt k2 hk))
    · exact (hnew k hk).2.1 (hat' k e (own_lt hv hk))
  · intro e; have := hgb b e; omega
  · intro m u hu
    rcases ap m u hu with ⟨hm, hu'⟩ | ⟨rfl, rfl⟩
    · exact h.small m u hu'
    · rw [hvl]; exact hlen
  · rcases hat with e | e
    · exact Or.inl e
    · exact Or.inr ⟨_, e, by omega⟩

/-- AddBytes: one list more, that lies apart from the others. -/
theorem add_any (b : Nat) (gv : Value) (vs : List Value) (v : Value) (xs : List Int) (w : World) (h : BagB w b gv vs) (hf : w.frozen? ⟨b, 0, none⟩ = false) (hv : w.ownsRow 0 5 1 v xs.length (bytesOf xs)) (hlen : xs.length ≤ 1048576)
    (hnew : ∀ k, v.ownBlock = some k → k ≠ b ∧ gv.ownBlock ≠ some k ∧ ∀ (m : Nat) (u : Value), vs[m]? = some u → u.ownBlock ≠ some k) (hroom : vs.length < 300) (hbase : ∀ k, gv.ownBlock = some k → b < k) :
    Calls Tryz.prog 13 #[.pointer (some ⟨b, 0, none⟩), v] w fun e w' => e = .returned (.tuple #[]) ∧ ∃ gv', BagB w' b gv' (vs ++ [v]) ∧ w'.frozen? ⟨b, 0, none⟩ = false ∧
      (∀ k, gv'.ownBlock = some k → b < k) ∧ (gv'.ownBlock = gv.ownBlock ∨ ∃ k, gv'.ownBlock = some k ∧ w.heap.size ≤ k) ∧ Touch (fun k => k = b ∨ gv.ownBlock = some k) w w' ∧ ∀ j v, 1 ≤ j → w.cell? ⟨b, j, none⟩ = some v → w'.cell? ⟨b, j, none⟩ = some v := by
  obtain ⟨i1, hj, hy0, hy1, hy2⟩ := info_parts Tryz.infoA
  obtain ⟨va, vc, rfl⟩ := own_form hv
  obtain ⟨ga, gc, rfl⟩ := own_form h.own
  have hc := h.cell
  have hbl := lt_of_cell hc
  have HB : Hid (BagB w b (.slice ga vs.length gc) vs) := h
  have HV : Hid (w.ownsRow 0 5 1 (.slice va xs.length vc) xs.length (bytesOf xs)) := hv
  have HW : Hid (∀ k, (Value.slice va xs.length vc).ownBlock = some k → k ≠ b ∧ (Value.slice ga vs.length gc).ownBlock ≠ some k ∧ ∀ (m : Nat) (u : Value), vs[m]? = some u → u.ownBlock ≠ some k) := hnew
  have HBB : Hid (∀ k, (Value.slice ga vs.length gc).ownBlock = some k → b < k) := hbase
  clear h hv hnew hbase
  go_enter Tryz.func13, Tryz.ntmps13
  go_wp2_with (at_builtin; refine wpList_append_own_at _ rfl (.tmp 14) (.tmp 16) 36 rfl 0 22 i1 (.slice none 0 0) 1 24 Tryz.underlying36 hj hy0 hy1 hy2 rfl (by decide) (.slice ga vs.length gc) vs.length vs rfl (HB.out.own.alloc _) ⟨w.heap.size, 0, none⟩ 1 1 [.slice va xs.length vc] rfl rfl ?c1 ?c2 ?c3 ?c4 ?c5 ?_)
  case c1 => exact cell_one_new _ _ _
  case c2 => intro u hu; obtain rfl := List.mem_singleton.mp hu; rfl
  case c3 => unfold maxLen; omega
  case c4 => omega
  case c5 => exact Nat.zero_le _
  intro gv' w1 hown hgrow _ hat
  obtain ⟨ga', gc', rfl⟩ := own_form hown
  have t1 : Touch (fun k => (Value.slice ga vs.length gc).ownBlock = some k) w w1 := ((Touch.refl _ w).alloc _).grown hgrow (fun k hk => Or.inl hk)
  have hnb := HB.out.nbg
  have hc1 : w1.cell? ⟨b, 0, none⟩ = some (.slice ga vs.length gc) := (t1.cell (p := ⟨b, 0, none⟩) hbl hnb).trans hc
  have hf1 : w1.frozen? ⟨b, 0, none⟩ = false := (t1.frozen (p := ⟨b, 0, none⟩) hbl hnb).trans hf
  have HR : Hid _ := bag_added HB.out HV.out rfl hlen HW.out hroom HBB.out hf t1 hown hat
  clear t1 hown hgrow hat hc hf hnb
  go_wp2
  go_end0
  exact ⟨rfl, .slice ga' (vs.length + 1) gc', HR.out⟩

theorem bag_new {w : World} {T : TypeId} (C : Array Value) (hC : C = #[.slice none 0 0, .slice none 0 0, .slice none 0 0, .slice none 0 0, .slice none 0 0, .slice none 0 0, .slice none 0 0, .slice none 0 0, .slice none 0 0, .slice none 0 0, .slice none 0 0, .slice none 0 0, .slice none 0 0, .slice none 0 0, .slice none 0 0, .slice none 0 0, .slice none 0 0, .slice none 0 0, .slice none 0 0]) :
    BagB (w.alloc (.cells C T)) w.heap.size (.slice none 0 0) [] ∧ (w.alloc (.cells C T)).frozen? ⟨w.heap.size, 0, none⟩ = false ∧ BagN (w.alloc (.cells C T)) w.heap.size := by
  subst hC
  refine ⟨⟨by simp, World.ownsRow_nil _ _ _ _, by simp, by simp, by simp, by simp, by simp [Value.ownBlock], by simp, by simp⟩, by simp, fun j h1 h2 => ?_⟩
  rcases (by omega : j = 1 ∨ j = 2 ∨ j = 3 ∨ j = 4 ∨ j = 5 ∨ j = 6 ∨ j = 7 ∨ j = 8 ∨ j = 9 ∨ j = 10 ∨ j = 11 ∨ j = 12 ∨ j = 13 ∨ j = 14 ∨ j = 15 ∨ j = 16 ∨ j = 17 ∨ j = 18) with rfl | rfl | rfl | rfl | rfl | rfl | rfl | rfl | rfl | rfl | rfl | rfl | rfl | rfl | rfl | rfl | rfl | rfl <;> simp

end Go.Proofs.YtjjgbcjgmjggnaaGreatDoor
