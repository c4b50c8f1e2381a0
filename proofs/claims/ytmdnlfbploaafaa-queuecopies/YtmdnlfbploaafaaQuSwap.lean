
/- Two entries of a heap change their places. -/
import Derived.Test.YtmdnlfbploaafaaQuFace
import Derived.Deep.DeepCutAuto
namespace Go.Proofs.Ytmdnlfbploaafaa
open Go.RowKit
set_option linter.unusedVariables false
set_option maxRecDepth 100000
attribute [local go_sem ↓] Go.wp_at_zero Go.wp_at_succ

/-- Nothing of x but block m has turned in w. -/
structure SnqF (x : World) (m : Nat) (w : World) : Prop where
  t : Touch (fun k => k = m) x w
theorem snqF_cell {x : World} {m b o : Nat} {v : Value} (hne : b ≠ m) (h : x.cell? ⟨b, o, none⟩ = some v) : ∀ w, SnqF x m w → w.cell? ⟨b, o, none⟩ = some v := fun w s => (s.t.cell (p := ⟨b, o, none⟩) (lt_of_cell h) hne).trans h
theorem SnqF.start (x : World) (m : Nat) : SnqF x m x.drew := ⟨(Touch.refl _ _).drew⟩
theorem SnqF.turn {x w w' : World} {m : Nat} (h : SnqF x m w) (t : w.mapTurned w' m) : SnqF x m w' := ⟨h.t.trans (touch_turned t)⟩

/-- What a change of places leaves. -/
structure SwP (w : World) (b : Nat) (v : Value) (m n : Nat) (l : List En) (f : Int → Option Int) (i j : Nat) (e : Ending) (w' : World) : Prop where
  e : e = .returned (.tuple #[])
  ps : ∃ f', PS w' b v m n (sw l i j) f' ∧ ∀ k, (∀ x ∈ l, x.k ≠ k) → f' k = f k
  t : Touch (fun k => v.ownBlock = some k ∨ k = m) w w'

theorem swap_math {l : List En} {f : Int → Option Int} {i j : Nat} (hi : i < l.length) (hj : j < l.length) (hne : i ≠ j) (d1 : ∀ i : Nat, i < l.length → f (gt l i).k = some (i : Int)) :
    (∀ t : Nat, t < (sw l i j).length → (upd (upd f (gt l j).k (some (i : Int))) (gt l i).k (some (j : Int))) (gt (sw l i j) t).k = some (t : Int)) ∧
    ∀ k, (∀ x ∈ l, x.k ≠ k) → (upd (upd f (gt l j).k (some (i : Int))) (gt l i).k (some (j : Int))) k = f k := by
  have inj : ∀ {a b : Nat}, a < l.length → b < l.length → (gt l a).k = (gt l b).k → a = b := by
    intro a b ha hb e
    have h1 := d1 a ha
    rw [e, d1 b hb] at h1
    injection h1 with h1
    omega
  constructor
  · intro t ht
    rw [sw_length] at ht
    rw [gt_sw hi hj]
    by_cases e1 : t = j
    · subst e1; rw [if_pos rfl, upd_same]
    · rw [if_neg e1]
      by_cases e2 : t = i
      · subst e2
        rw [if_pos rfl, upd_other _ _ (fun e => hne (inj hj hi e).symm), upd_same]
      · rw [if_neg e2, upd_other _ _ (fun e => e2 (inj ht hi e)), upd_other _ _ (fun e => e1 (inj ht hj e))]
        exact d1 t ht
  · intro k hk
    rw [upd_other _ _ (fun e => hk _ (gt_mem hi) e.symm), upd_other _ _ (fun e => hk _ (gt_mem hj) e.symm)]

/-- Behind the change of the rows. -/
structure Swp1 (wa wx : World) (g L cap : Nat) (l' : List En) : Prop where
  re : RE wx (.slice (some ⟨g, 0, none⟩) L cap) l'
  t : Touch (fun k => k = g) wa wx

set_option maxHeartbeats 4000000 in
theorem swap_any (w : World) (b : Nat) (v : Value) (m n : Nat) (l : List En) (f : Int → Option Int) (P : PS w b v m n l f) (i j : Nat) (hi : i < l.length) (hj : j < l.length) (hne : i ≠ j) :
    Calls Try.prog 87 #[.agg #[.pointer (some ⟨b, 0, none⟩)], .int .i64 i, .int .i64 j] w (SwP w b v m n l f i j) := by
  obtain ⟨hd, hk'⟩ := swap_math hi hj hne P.d1
  have HD : Hid _ := hd
  have HK : Hid _ := hk'
  clear hd hk'
  have hmb := P.mb
  have hmv := P.mv
  obtain ⟨c0, c1, f0, re, mp, d1, ok, bv, hn, hl⟩ := P
  obtain ⟨g, cap, rfl, hcap, hg⟩ := re.form (by omega)
  have hbg : b ≠ g := fun e => bv (by subst e; rfl)
  have hmg : m ≠ g := fun e => hmv (by subst e; rfl)
  obtain ⟨x0, x1, x2⟩ := re.cells hi
  obtain ⟨y0, y1, y2⟩ := re.cells hj
  have hf := re.fz
  have okx := ok _ (gt_mem hi)
  have oky := ok _ (gt_mem hj)
  have hxf := d1 i hi
  have hyf := d1 j hj
  have hkk : (gt l j).k ≠ (gt l i).k := by
    intro e
    rw [e, hxf] at hyf
    injection hyf with e2
    omega
  have hyf2 : Hid _ := hyf
  have hxf2 : Hid _ := hxf
  have HKK : Hid _ := hkk
  clear hxf hyf hkk
  have OKX : Hid _ := okx
  have OKY : Hid _ := oky
  clear okx oky
  have RE0 : Hid (RE w (.slice (some ⟨g, 0, none⟩) l.length cap) l) := re
  have MP0 : Hid (MP w m n f) := mp
  have OK0 : Hid _ := ok
  have D1 : Hid _ := d1
  clear re mp ok d1
  have HL : Hid (l.length ≤ 2000000) := hl
  have HN : Hid (n ≤ 2000000) := hn
  clear hl hn
  generalize hx : gt l i = x at *
  generalize hy : gt l j = y at *
  have HX : Hid _ := hx
  have HY : Hid _ := hy
  clear hx hy
  have hb := lt_of_cell c0
  have i0 : (0 : Int) ≤ (i : Int) := by omega
  have i1 : (i : Int) < (l.length : Int) := by omega
  have j0 : (0 : Int) ≤ (j : Int) := by omega
  have j1 : (j : Int) < (l.length : Int) := by omega
  generalize hL : l.length = L at *
  have HLn : Hid _ := hL
  clear hL
  go_enter Try.func87, Try.ntmps87
  go_wp2_with fail
  have T : Touch (fun _ => False) w (w.alloc (.cells #[.pointer (some ⟨b, 0, none⟩)] 85)) := (Touch.refl _ _).alloc _
  have pa : (w.alloc (.cells #[.pointer (some ⟨b, 0, none⟩)] 85)).cell? ⟨w.heap.size, 0, none⟩ = some (.pointer (some ⟨b, 0, none⟩)) := by simp [go_sem]
  generalize w.alloc (.cells #[.pointer (some ⟨b, 0, none⟩)] 85) = wa at T pa ⊢
  replace c0 := T.cellN c0
  replace c1 := T.cellN c1
  replace x0 := T.cellN x0
  replace x1 := T.cellN x1
  replace x2 := T.cellN x2
  replace y0 := T.cellN y0
  replace y1 := T.cellN y1
  replace y2 := T.cellN y2
  have F0 : ∀ k, wa.frozen? ⟨g, k, none⟩ = false := fun k => (T.frozen (p := ⟨g, k, none⟩) hg (fun h => h)).trans (hf k)
  clear hf
  have T0 : Hid _ := T
  clear T
  have U1 : Touch (fun k => k = g) wa (((wa.setCell ⟨g, i * 3, none⟩ (.int .i64 y.a)).setCell ⟨g, i * 3 + 1, none⟩ (.int .i64 y.r)).setCell ⟨g, i * 3 + 2, none⟩ (.int .u64 y.k)) := by
    refine Touch.setCell (F := fun k => k = g) (p := ⟨g, i * 3 + 2, none⟩) ?_ (Or.inl rfl) _
    refine Touch.setCell (F := fun k => k = g) (p := ⟨g, i * 3 + 1, none⟩) ?_ (Or.inl rfl) _
    refine Touch.setCell (F := fun k => k = g) (p := ⟨g, i * 3, none⟩) ?_ (Or.inl rfl) _
    exact Touch.refl _ _
  have U2 : Touch (fun k => k = g) wa ((((((wa.setCell ⟨g, i * 3, none⟩ (.int .i64 y.a)).setCell ⟨g, i * 3 + 1, none⟩ (.int .i64 y.r)).setCell ⟨g, i * 3 + 2, none⟩ (.int .u64 y.k)).setCell ⟨g, j * 3, none⟩ (.int .i64 x.a)).setCell ⟨g, j * 3 + 1, none⟩ (.int .i64 x.r)).setCell ⟨g, j * 3 + 2, none⟩ (.int .u64 x.k)) := by
    refine Touch.setCell (F := fun k => k = g) (p := ⟨g, j * 3 + 2, none⟩) ?_ (Or.inl rfl) _
    refine Touch.setCell (F := fun k => k = g) (p := ⟨g, j * 3 + 1, none⟩) ?_ (Or.inl rfl) _
    refine Touch.setCell (F := fun k => k = g) (p := ⟨g, j * 3, none⟩) ?_ (Or.inl rfl) _
    refine Touch.setCell (F := fun k => k = g) (p := ⟨g, i * 3 + 2, none⟩) ?_ (Or.inl rfl) _
    refine Touch.setCell (F := fun k => k = g) (p := ⟨g, i * 3 + 1, none⟩) ?_ (Or.inl rfl) _
    refine Touch.setCell (F := fun k => k = g) (p := ⟨g, i * 3, none⟩) ?_ (Or.inl rfl) _
    exact Touch.refl _ _
  have st : SnqF wa g wa.drew := ⟨(Touch.refl _ _).drew⟩
  have S1 : SnqF wa g (((wa.setCell ⟨g, i * 3, none⟩ (.int .i64 y.a)).setCell ⟨g, i * 3 + 1, none⟩ (.int .i64 y.r)).setCell ⟨g, i * 3 + 2, none⟩ (.int .u64 y.k)).drew := ⟨U1.drew⟩
  have S2 : SnqF wa g ((((((wa.setCell ⟨g, i * 3, none⟩ (.int .i64 y.a)).setCell ⟨g, i * 3 + 1, none⟩ (.int .i64 y.r)).setCell ⟨g, i * 3 + 2, none⟩ (.int .u64 y.k)).setCell ⟨g, j * 3, none⟩ (.int .i64 x.a)).setCell ⟨g, j * 3 + 1, none⟩ (.int .i64 x.r)).setCell ⟨g, j * 3 + 2, none⟩ (.int .u64 x.k)).drew := ⟨U2.drew⟩
  have T2 : Hid (Touch (fun k => k = g) wa ((((((wa.setCell ⟨g, i * 3, none⟩ (.int .i64 y.a)).setCell ⟨g, i * 3 + 1, none⟩ (.int .i64 y.r)).setCell ⟨g, i * 3 + 2, none⟩ (.int .u64 y.k)).setCell ⟨g, j * 3, none⟩ (.int .i64 x.a)).setCell ⟨g, j * 3 + 1, none⟩ (.int .i64 x.r)).setCell ⟨g, j * 3 + 2, none⟩ (.int .u64 x.k)).drew) := U2.drew
  have RE2 : Hid (RE ((((((wa.setCell ⟨g, i * 3, none⟩ (.int .i64 y.a)).setCell ⟨g, i * 3 + 1, none⟩ (.int .i64 y.r)).setCell ⟨g, i * 3 + 2, none⟩ (.int .u64 y.k)).setCell ⟨g, j * 3, none⟩ (.int .i64 x.a)).setCell ⟨g, j * 3 + 1, none⟩ (.int .i64 x.r)).setCell ⟨g, j * 3 + 2, none⟩ (.int .u64 x.k)).drew (.slice (some ⟨g, 0, none⟩) L cap) ((l.set i y).set j x)) := (RE.keep (((RE.keep RE0.out T0.out (fun _ _ h => h)).set (i := i) (by have := HLn.out; omega) y).set (i := j) (by rw [List.length_set]; have := HLn.out; omega) x) ((Touch.refl (fun _ => False) _).drew) (fun _ _ h => h))
  have hHg : w.heap.size ≠ g := by omega
  have pa' := snqF_cell hHg pa
  have c0' := snqF_cell hbg c0
  clear U1 U2
  go_cut [6] (fun s6 wx => ∃ u : Value, s6 = u ∧ Swp1 wa wx g L cap ((l.set i y).set j x))
  case first =>
    refine wp_region_held_drew (S := fun w' => SnqF wa g w') (by kernel_rfl) st (fun hHeld => ?_)
    refine wpAnyH_take (i := 0) (oi := ⟨some 6, _, _, _, _, _⟩) (v := .pointer (some ⟨w.heap.size, 0, none⟩)) rfl (by kernel_rfl) (by kernel_rfl) (by kernel_rfl) (fun _ _ _ h => h) (Or.inl ⟨by rfl, fun w hw => by go_simp⟩) (by assumption) ?_
    simp only [Act.put, List.setIfInBounds_toArray, List.set_cons_zero, List.set_cons_succ]
    refine wpAnyH_take (i := 1) (oi := ⟨some 7, _, _, _, _, _⟩) (v := .pointer (some ⟨b, 0, none⟩)) rfl (by kernel_rfl) (by kernel_rfl) (by kernel_rfl) (fun _ _ _ h => h) (Or.inl ⟨by rfl, fun w hw => by go_simp⟩) (by assumption) ?_
    simp only [Act.put, List.setIfInBounds_toArray, List.set_cons_zero, List.set_cons_succ]
    refine wpAnyH_take (i := 2) (oi := ⟨some 8, _, _, _, _, _⟩) (v := .pointer (some ⟨b, 0, none⟩)) rfl (by kernel_rfl) (by kernel_rfl) (by kernel_rfl) (fun _ _ _ h => h) (Or.inl ⟨by rfl, fun w hw => by go_simp⟩) (by assumption) ?_
    simp only [Act.put, List.setIfInBounds_toArray, List.set_cons_zero, List.set_cons_succ]
    refine wpAnyH_take (i := 3) (oi := ⟨some 9, _, _, _, _, _⟩) (v := .pointer (some ⟨b, 0, none⟩)) rfl (by kernel_rfl) (by kernel_rfl) (by kernel_rfl) (fun _ _ _ h => h) (Or.inl ⟨by rfl, fun w hw => by go_simp⟩) (by assumption) ?_
    simp only [Act.put, List.setIfInBounds_toArray, List.set_cons_zero, List.set_cons_succ]
    refine wpAnyH_take (i := 4) (oi := ⟨some 10, _, _, _, _, _⟩) (v := .slice (some ⟨g, 0, none⟩) L cap) rfl (by kernel_rfl) (by kernel_rfl) (by kernel_rfl) (fun _ _ _ h => h) (Or.inl ⟨by rfl, fun w hw => by go_simp⟩) (by assumption) ?_
    simp only [Act.put, List.setIfInBounds_toArray, List.set_cons_zero, List.set_cons_succ]
    refine wpAnyH_take (i := 5) (oi := ⟨some 11, _, _, _, _, _⟩) (v := .int .i64 i) rfl (by kernel_rfl) (by kernel_rfl) (by kernel_rfl) (fun _ _ _ h => h) (Or.inl ⟨by rfl, fun w hw => by go_simp⟩) (by assumption) ?_
    simp only [Act.put, List.setIfInBounds_toArray, List.set_cons_zero, List.set_cons_succ]
    refine wpAnyH_take (i := 6) (oi := ⟨some 12, _, _, _, _, _⟩) (v := .pointer (some ⟨w.heap.size, 0, none⟩)) rfl (by kernel_rfl) (by kernel_rfl) (by kernel_rfl) (fun _ _ _ h => h) (Or.inl ⟨by rfl, fun w hw => by go_simp⟩) (by assumption) ?_
    simp only [Act.put, List.setIfInBounds_toArray, List.set_cons_zero, List.set_cons_succ]
    refine wpAnyH_take (i := 7) (oi := ⟨some 13, _, _, _, _, _⟩) (v := .pointer (some ⟨b, 0, none⟩)) rfl (by kernel_rfl) (by kernel_rfl) (by kernel_rfl) (fun _ _ _ h => h) (Or.inl ⟨by rfl, fun w hw => by go_simp⟩) (by assumption) ?_
    simp only [Act.put, List.setIfInBounds_toArray, List.set_cons_zero, List.set_cons_succ]
    refine wpAnyH_take (i := 8) (oi := ⟨some 14, _, _, _, _, _⟩) (v := .pointer (some ⟨b, 0, none⟩)) rfl (by kernel_rfl) (by kernel_rfl) (by kernel_rfl) (fun _ _ _ h => h) (Or.inl ⟨by rfl, fun w hw => by go_simp⟩) (by assumption) ?_
    simp only [Act.put, List.setIfInBounds_toArray, List.set_cons_zero, List.set_cons_succ]
    refine wpAnyH_take (i := 9) (oi := ⟨some 15, _, _, _, _, _⟩) (v := .pointer (some ⟨b, 0, none⟩)) rfl (by kernel_rfl) (by kernel_rfl) (by kernel_rfl) (fun _ _ _ h => h) (Or.inl ⟨by rfl, fun w hw => by go_simp⟩) (by assumption) ?_
    simp only [Act.put, List.setIfInBounds_toArray, List.set_cons_zero, List.set_cons_succ]
    refine wpAnyH_take (i := 10) (oi := ⟨some 16, _, _, _, _, _⟩) (v := .slice (some ⟨g, 0, none⟩) L cap) rfl (by kernel_rfl) (by kernel_rfl) (by kernel_rfl) (fun _ _ _ h => h) (Or.inl ⟨by rfl, fun w hw => by go_simp⟩) (by assumption) ?_
    simp only [Act.put, List.setIfInBounds_toArray, List.set_cons_zero, List.set_cons_succ]
    refine wpAnyH_take (i := 11) (oi := ⟨some 17, _, _, _, _, _⟩) (v := .int .i64 j) rfl (by kernel_rfl) (by kernel_rfl) (by kernel_rfl) (fun _ _ _ h => h) (Or.inl ⟨by rfl, fun w hw => by go_simp⟩) (by assumption) ?_
    simp only [Act.put, List.setIfInBounds_toArray, List.set_cons_zero, List.set_cons_succ]
    refine wpAnyH_take (i := 12) (oi := ⟨some 18, _, _, _, _, _⟩) (v := .pointer (some ⟨w.heap.size, 0, none⟩)) rfl (by kernel_rfl) (by kernel_rfl) (by kernel_rfl) (fun _ _ _ h => h) (Or.inl ⟨by rfl, fun w hw => by go_simp⟩) (by assumption) ?_
    simp only [Act.put, List.setIfInBounds_toArray, List.set_cons_zero, List.set_cons_succ]
    refine wpAnyH_take (i := 13) (oi := ⟨some 19, _, _, _, _, _⟩) (v := .pointer (some ⟨b, 0, none⟩)) rfl (by kernel_rfl) (by kernel_rfl) (by kernel_rfl) (fun _ _ _ h => h) (Or.inl ⟨by rfl, fun w hw => by go_simp⟩) (by assumption) ?_
    simp only [Act.put, List.setIfInBounds_toArray, List.set_cons_zero, List.set_cons_succ]
    refine wpAnyH_take (i := 14) (oi := ⟨some 20, _, _, _, _, _⟩) (v := .pointer (some ⟨b, 0, none⟩)) rfl (by kernel_rfl) (by kernel_rfl) (by kernel_rfl) (fun _ _ _ h => h) (Or.inl ⟨by rfl, fun w hw => by go_simp⟩) (by assumption) ?_
    simp only [Act.put, List.setIfInBounds_toArray, List.set_cons_zero, List.set_cons_succ]
    refine wpAnyH_take (i := 15) (oi := ⟨some 21, _, _, _, _, _⟩) (v := .pointer (some ⟨b, 0, none⟩)) rfl (by kernel_rfl) (by kernel_rfl) (by kernel_rfl) (fun _ _ _ h => h) (Or.inl ⟨by rfl, fun w hw => by go_simp⟩) (by assumption) ?_
    simp only [Act.put, List.setIfInBounds_toArray, List.set_cons_zero, List.set_cons_succ]
    refine wpAnyH_take (i := 16) (oi := ⟨some 22, _, _, _, _, _⟩) (v := .slice (some ⟨g, 0, none⟩) L cap) rfl (by kernel_rfl) (by kernel_rfl) (by kernel_rfl) (fun _ _ _ h => h) (Or.inl ⟨by rfl, fun w hw => by go_simp⟩) (by assumption) ?_
    simp only [Act.put, List.setIfInBounds_toArray, List.set_cons_zero, List.set_cons_succ]
    refine wpAnyH_take (i := 17) (oi := ⟨some 23, _, _, _, _, _⟩) (v := .int .i64 j) rfl (by kernel_rfl) (by kernel_rfl) (by kernel_rfl) (fun _ _ _ h => h) (Or.inl ⟨by rfl, fun w hw => by go_simp⟩) (by assumption) ?_
    simp only [Act.put, List.setIfInBounds_toArray, List.set_cons_zero, List.set_cons_succ]
    refine wpAnyH_take (i := 18) (oi := ⟨some 24, _, _, _, _, _⟩) (v := .pointer (some ⟨g, j * 3, none⟩)) rfl (by kernel_rfl) (by kernel_rfl) (by kernel_rfl) (fun _ _ _ h => h) (Or.inl ⟨by rfl, fun w hw => by go_simp⟩) (by assumption) ?_
    simp only [Act.put, List.setIfInBounds_toArray, List.set_cons_zero, List.set_cons_succ]
    refine wpAnyH_take (i := 20) (oi := ⟨some 26, _, _, _, _, _⟩) (v := .pointer (some ⟨w.heap.size, 0, none⟩)) rfl (by kernel_rfl) (by kernel_rfl) (by kernel_rfl) (fun _ _ _ h => h) (Or.inl ⟨by rfl, fun w hw => by go_simp⟩) (by assumption) ?_
    simp only [Act.put, List.setIfInBounds_toArray, List.set_cons_zero, List.set_cons_succ]
    refine wpAnyH_take (i := 21) (oi := ⟨some 27, _, _, _, _, _⟩) (v := .pointer (some ⟨b, 0, none⟩)) rfl (by kernel_rfl) (by kernel_rfl) (by kernel_rfl) (fun _ _ _ h => h) (Or.inl ⟨by rfl, fun w hw => by go_simp⟩) (by assumption) ?_
    simp only [Act.put, List.setIfInBounds_toArray, List.set_cons_zero, List.set_cons_succ]
    refine wpAnyH_take (i := 22) (oi := ⟨some 28, _, _, _, _, _⟩) (v := .pointer (some ⟨b, 0, none⟩)) rfl (by kernel_rfl) (by kernel_rfl) (by kernel_rfl) (fun _ _ _ h => h) (Or.inl ⟨by rfl, fun w hw => by go_simp⟩) (by assumption) ?_
    simp only [Act.put, List.setIfInBounds_toArray, List.set_cons_zero, List.set_cons_succ]
    refine wpAnyH_take (i := 23) (oi := ⟨some 29, _, _, _, _, _⟩) (v := .pointer (some ⟨b, 0, none⟩)) rfl (by kernel_rfl) (by kernel_rfl) (by kernel_rfl) (fun _ _ _ h => h) (Or.inl ⟨by rfl, fun w hw => by go_simp⟩) (by assumption) ?_
    simp only [Act.put, List.setIfInBounds_toArray, List.set_cons_zero, List.set_cons_succ]
    refine wpAnyH_take (i := 24) (oi := ⟨some 30, _, _, _, _, _⟩) (v := .slice (some ⟨g, 0, none⟩) L cap) rfl (by kernel_rfl) (by kernel_rfl) (by kernel_rfl) (fun _ _ _ h => h) (Or.inl ⟨by rfl, fun w hw => by go_simp⟩) (by assumption) ?_
    simp only [Act.put, List.setIfInBounds_toArray, List.set_cons_zero, List.set_cons_succ]
    refine wpAnyH_take (i := 25) (oi := ⟨some 31, _, _, _, _, _⟩) (v := .int .i64 i) rfl (by kernel_rfl) (by kernel_rfl) (by kernel_rfl) (fun _ _ _ h => h) (Or.inl ⟨by rfl, fun w hw => by go_simp⟩) (by assumption) ?_
    simp only [Act.put, List.setIfInBounds_toArray, List.set_cons_zero, List.set_cons_succ]
    refine wpAnyH_take (i := 26) (oi := ⟨some 32, _, _, _, _, _⟩) (v := .pointer (some ⟨g, i * 3, none⟩)) rfl (by kernel_rfl) (by kernel_rfl) (by kernel_rfl) (fun _ _ _ h => h) (Or.inl ⟨by rfl, fun w hw => by go_simp⟩) (by assumption) ?_
    simp only [Act.put, List.setIfInBounds_toArray, List.set_cons_zero, List.set_cons_succ]
    refine wpAnyH_ready (rs := [19, 27]) (by kernel_rfl) (by simp) ?_
    refine AllReadyH.cons rfl (fun K hK => ?_) (AllReadyH.cons rfl (fun K hK => ?_) AllReadyH.nil)
    · go_simp
      refine hK.out _ _ (st) (fun hHeld => ?_)
      clear hK K
      refine wpAnyH_ready (rs := [27]) (by kernel_rfl) (by simp) ?_
      refine AllReadyH.cons rfl (fun K hK => ?_) AllReadyH.nil
      go_simp
      refine hK.out _ _ (st) (fun hHeld => ?_)
      clear hK K
      refine wpAnyH_take (i := 28) (oi := ⟨some 34, _, _, _, _, _⟩) (v := .pointer (some ⟨g, i * 3, none⟩)) rfl (by kernel_rfl) (by kernel_rfl) (by kernel_rfl) (fun _ _ _ h => h) (Or.inl ⟨by rfl, fun w hw => by go_simp⟩) (by assumption) ?_
      simp only [Act.put, List.setIfInBounds_toArray, List.set_cons_zero, List.set_cons_succ]
      refine wpAnyH_ready (rs := [29]) (by kernel_rfl) (by simp) ?_
      refine AllReadyH.cons rfl (fun K hK => ?_) AllReadyH.nil
      go_simp
      refine hK.out _ _ (S1) (fun hHeld => ?_)
      clear hK K
      refine wpAnyH_take (i := 30) (oi := ⟨some 35, _, _, _, _, _⟩) (v := .pointer (some ⟨g, j * 3, none⟩)) rfl (by kernel_rfl) (by kernel_rfl) (by kernel_rfl) (fun _ _ _ h => h) (Or.inl ⟨by rfl, fun w hw => by go_simp⟩) (by assumption) ?_
      simp only [Act.put, List.setIfInBounds_toArray, List.set_cons_zero, List.set_cons_succ]
      refine wpAnyH_ready (rs := [31]) (by kernel_rfl) (by simp) ?_
      refine AllReadyH.cons rfl (fun K hK => ?_) AllReadyH.nil
      go_simp
      refine hK.out _ _ (S2) (fun hHeld => ?_)
      clear hK K
      refine wpAnyH_done (by kernel_rfl) ?_ _
      go_wp2_with fail
      go_meet
      case rel => exact ⟨_, rfl, ⟨RE2.out, T2.out⟩⟩
    · go_simp
      refine hK.out _ _ (st) (fun hHeld => ?_)
      clear hK K
      refine wpAnyH_ready (rs := [19]) (by kernel_rfl) (by simp) ?_
      refine AllReadyH.cons rfl (fun K hK => ?_) AllReadyH.nil
      go_simp
      refine hK.out _ _ (st) (fun hHeld => ?_)
      clear hK K
      refine wpAnyH_take (i := 28) (oi := ⟨some 34, _, _, _, _, _⟩) (v := .pointer (some ⟨g, i * 3, none⟩)) rfl (by kernel_rfl) (by kernel_rfl) (by kernel_rfl) (fun _ _ _ h => h) (Or.inl ⟨by rfl, fun w hw => by go_simp⟩) (by assumption) ?_
      simp only [Act.put, List.setIfInBounds_toArray, List.set_cons_zero, List.set_cons_succ]
      refine wpAnyH_ready (rs := [29]) (by kernel_rfl) (by simp) ?_
      refine AllReadyH.cons rfl (fun K hK => ?_) AllReadyH.nil
      go_simp
      refine hK.out _ _ (S1) (fun hHeld => ?_)
      clear hK K
      refine wpAnyH_take (i := 30) (oi := ⟨some 35, _, _, _, _, _⟩) (v := .pointer (some ⟨g, j * 3, none⟩)) rfl (by kernel_rfl) (by kernel_rfl) (by kernel_rfl) (fun _ _ _ h => h) (Or.inl ⟨by rfl, fun w hw => by go_simp⟩) (by assumption) ?_
      simp only [Act.put, List.setIfInBounds_toArray, List.set_cons_zero, List.set_cons_succ]
      refine wpAnyH_ready (rs := [31]) (by kernel_rfl) (by simp) ?_
      refine AllReadyH.cons rfl (fun K hK => ?_) AllReadyH.nil
      go_simp
      refine hK.out _ _ (S2) (fun hHeld => ?_)
      clear hK K
      refine wpAnyH_done (by kernel_rfl) ?_ _
      go_wp2_with fail
      go_meet
      case rel => exact ⟨_, rfl, ⟨RE2.out, T2.out⟩⟩
  case rest =>
    obtain ⟨u, rfl, ⟨RB, TB⟩⟩ := hcut
    clear S1 S2 st pa' c0' RE2 T2 x0 x1 x2 y0 y1 y2 F0
    have pc := (TB.cell (p := ⟨w.heap.size, 0, none⟩) (lt_of_cell pa) hHg).trans pa
    have d0 := (TB.cell (p := ⟨b, 0, none⟩) (lt_of_cell c0) hbg).trans c0
    have d1 := (TB.cell (p := ⟨b, 1, none⟩) (lt_of_cell c1) hbg).trans c1
    have hLn := HLn.out
    have kx := (RB.cells (i := i) (by simp; omega)).2.2
    have ky := (RB.cells (i := j) (by simp; omega)).2.2
    have e1 : gt ((l.set i y).set j x) i = y := by rw [gt_set (by simp; omega), if_neg hne, gt_set (by omega), if_pos rfl]
    have e2 : gt ((l.set i y).set j x) j = x := by rw [gt_set (by simp; omega), if_pos rfl]
    rw [e1] at kx
    rw [e2] at ky
    have M0 : MP wc.drew m n f := (((MP0.out.keep T0.out (fun h => h)).keep TB hmg)).keep ((Touch.refl (fun _ => False) _).drew) (fun h => h)
    have kn := HN.out
    have hLj := HL.out
    obtain ⟨va, sa, E1, E2'⟩ := M0.entry OKY.out.k0 OKY.out.k1 hyf2.out (by omega)
    obtain ⟨w2, E2, M2, U2⟩ := E2' i (by omega) (by omega)
    clear E2'
    obtain ⟨vb, sb, E3, E4'⟩ := M2.entry (k := x.k) (v := i) OKX.out.k0 OKX.out.k1 (by rw [upd_other _ _ (Ne.symm HKK.out)]; exact hxf2.out) (by omega)
    obtain ⟨w3, E4, M3, U3⟩ := E4' j (by omega) (by omega)
    clear E4'
    have s0 : SnqF wc m wc.drew := SnqF.start wc m
    have s2 : SnqF wc m w2 := s0.turn U2
    have s3 : SnqF wc m w3 := s2.turn U3
    have hmH : w.heap.size ≠ m := by have := MP0.out.lt; omega
    have RC : Hid (RE wc (.slice (some ⟨g, 0, none⟩) L cap) ((l.set i y).set j x)) := RB
    have TC : Hid (Touch (fun k => k = g) wa wc) := TB
    have MC : Hid (MP w3 m n (upd (upd f y.k (some (i : Int))) x.k (some (j : Int)))) := M3
    clear RB TB M0 M2 M3 U2 U3 e1 e2 hLn kn hLj c0 c1 pa
    have D0 : Hid _ := d0
    have D2 : Hid _ := d1
    replace pc := snqF_cell hmH pc
    replace d0 := snqF_cell (Ne.symm hmb) d0
    replace d1 := snqF_cell (Ne.symm hmb) d1
    replace kx := snqF_cell (Ne.symm hmg) kx
    replace ky := snqF_cell (Ne.symm hmg) ky
    go_wp2_with fail
    go_region_held3 (fun w' => SnqF wc m w') (with_reducible assumption) (fail)
    refine bodyPost_end (results_none rfl _ _ _) rfl ?_
    have hw : b < wc.heap.size := lt_of_cell D0.out
    have eS : sw l i j = (l.set i y).set j x := by unfold sw; rw [HX.out, HY.out]
    have tt : Touch (fun k => Value.ownBlock (.slice (some ⟨g, 0, none⟩) L cap) = some k ∨ k = m) w w3 :=
      ((T0.out.mono (fun _ _ h => h.elim)).trans (TC.out.mono (fun k _ e => Or.inl (by rw [e]; rfl)))).trans (s3.t.mono (fun k _ e => Or.inr e))
    refine ⟨rfl, ⟨_, ⟨d0 _ s3, d1 _ s3, ?_, ?_, MC.out, HD.out, ?_, ?_, HN.out, ?_⟩, HK.out⟩, tt⟩
    · exact (s3.t.frozen (p := ⟨b, 0, none⟩) hw (Ne.symm hmb)).trans ((TC.out.frozen (p := ⟨b, 0, none⟩) (Nat.lt_of_lt_of_le hb T0.out.size) hbg).trans ((T0.out.frozen (p := ⟨b, 0, none⟩) hb (fun h => h)).trans f0))
    · rw [eS]
      exact RE.keep RC.out s3.t (fun k hk e => hmg (by rw [← e]; cases hk; rfl))
    · intro e he
      exact OK0.out e ((sw_perm (by have := HLn.out; omega) (by have := HLn.out; omega)).mem_iff.1 he)
    · exact bv
    · rw [sw_length]
      have := HLn.out
      have := HL.out
      omega
end Go.Proofs.Ytmdnlfbploaafaa
