
/- The document's queue: less, Put, Drop. -/
import Derived.Test.YtmdnlfbploaafaaQuDoc1
namespace Go.Proofs.Ytmdnlfbploaafaa
open Go.RowKit
set_option linter.unusedVariables false
set_option maxRecDepth 100000

set_option maxHeartbeats 400000 in
theorem dless_any (x y : En) (w : World) : Calls Try.prog 37 #[.agg #[.int .i64 x.a, .int .i64 x.r, .int .u64 x.k], .agg #[.int .i64 y.a, .int .i64 y.r, .int .u64 y.k]] w fun e w' => e = .returned (.bool (ltB x y)) ∧ Touch (fun _ => False) w w' := by
  by_cases h1 : x.a = y.a
  · by_cases h2 : x.r = y.r
    · have HE : Hid (ltB x y = decide (x.k < y.k)) := by
        unfold Hid
        rw [Bool.eq_iff_iff, decide_eq_true_iff]
        unfold ltB
        rw [decide_eq_true_iff, cE_neg]
        unfold En.lt
        omega
      generalize ltB x y = z at HE ⊢
      obtain ⟨x0, x1, x2⟩ := x
      obtain ⟨y0, y1, y2⟩ := y
      simp only at h1 h2
      subst h1
      subst h2
      go_enter Try.func37, Try.ntmps37
      go_wp2
      go_ret
      exact ⟨ret_boolq HE.out.symm, ((Touch.refl _ w).alloc _).alloc _⟩
    · have HE : Hid (ltB x y = decide (x.r < y.r)) := by
        unfold Hid
        rw [Bool.eq_iff_iff, decide_eq_true_iff]
        unfold ltB
        rw [decide_eq_true_iff, cE_neg]
        unfold En.lt
        omega
      generalize ltB x y = z at HE ⊢
      obtain ⟨x0, x1, x2⟩ := x
      obtain ⟨y0, y1, y2⟩ := y
      simp only at h1 h2
      subst h1
      go_enter Try.func37, Try.ntmps37
      go_wp2
      go_ret
      exact ⟨ret_boolq HE.out.symm, ((Touch.refl _ w).alloc _).alloc _⟩
  · have HE : Hid (ltB x y = decide (x.a < y.a)) := by
      unfold Hid
      rw [Bool.eq_iff_iff, decide_eq_true_iff]
      unfold ltB
      rw [decide_eq_true_iff, cE_neg]
      unfold En.lt
      omega
    generalize ltB x y = z at HE ⊢
    obtain ⟨x0, x1, x2⟩ := x
    obtain ⟨y0, y1, y2⟩ := y
    simp only at h1
    go_enter Try.func37, Try.ntmps37
    go_wp2
    go_ret
    exact ⟨ret_boolq HE.out.symm, ((Touch.refl _ w).alloc _).alloc _⟩

theorem infoDe : (Try.prog.info? 62).map (fun i => (i.zero, i.size, i.bytes)) = some (some (.agg #[.int .i64 0, .int .i64 0, .int .u64 0]), 3, 24) := by kernel_rfl
/-- A store of two numbers into the row; the key stays. -/
theorem RD.set2 {w : World} {g c : Nat} {l : List En} {n : Nat} (h : RD w (.slice (some ⟨g, 0, none⟩) n c) l) {i : Nat} (hi : i < l.length) (e : En) (hk : e.k = (gt l i).k) :
    RD ((w.setCell ⟨g, i * 3, none⟩ (.int .i64 e.a)).setCell ⟨g, i * 3 + 1, none⟩ (.int .i64 e.r)) (.slice (some ⟨g, 0, none⟩) n c) (l.set i e) := by
  obtain ⟨h1, ⟨h2, h3⟩ | ⟨g', cap, cur, hv, hg, hh, hn, hm, hs, hx⟩⟩ := h
  · cases h2
  · have R : Row w g' 62 cur.toList := by unfold Row; simpa using hh
    cases hv
    have R3 := (R.set (i * 3) (.int .i64 e.a)).set (i * 3 + 1) (.int .i64 e.r)
    refine ⟨by rw [length_cellsOf], Or.inr ⟨g, c, _, by simp, hg, R3, by simpa using hn, hm, by simpa using hs, ?_⟩⟩
    have e5 : (((cellsOf l).set (i * 3) (.int .i64 e.a)).set (i * 3 + 1) (.int .i64 e.r))[i * 3 + 2]? = some (.int .u64 e.k) := by
      rw [List.getElem?_set_ne (by omega), List.getElem?_set_ne (by omega), cellsOf_get _ _ _ (by omega), gt_some hi, hk]
      rfl
    rw [cellsOf_set l i e hi, WideElems.set_self _ _ _ e5, ← hx, List.length_set]
    simp only [List.take_set]

set_option maxHeartbeats 2000000 in
theorem dput_full (w : World) (b : Nat) (v : Value) (most : Int) (l : List En) (x : En) (hx : x.Ok) (h : DS w b v most l) (hk : hasK l x.k = false) (hf : ¬ (l.length : Int) < most) :
    Calls Try.prog 22 #[.pointer (some ⟨b, 0, none⟩), .int .i64 x.a, .int .i64 x.r, .int .u64 x.k] w fun e w' => e = .returned (.bool false) ∧ DN w b v most l w' := by
  have HF := dfind_any w b v most l x.k h
  have HD : Hid _ := h
  have c0 := h.c0
  have c1 := h.c1
  have f0 := h.f0
  have hb := lt_of_cell c0
  obtain ⟨a, c, rfl⟩ := h.rd.shape
  clear h
  go_enter Try.func22, Try.ntmps22
  go_wp2_with fail
  refine Calls.mono HF ?_
  rintro e w1 ⟨z, rfl, rfl, hz⟩
  clear HF
  rcases hz.out with ⟨rfl, hn⟩ | ⟨i, hi, rfl, hk2⟩
  rotate_left
  · exact absurd hk2 (hasK_false.1 hk _ (gt_mem hi))
  replace c0 := snq_cell c0
  replace c1 := snq_cell c1
  have st : Snq w w.drew := Snq.start w
  clear hz hn
  have hf' : most ≤ (l.length : Int) := by omega
  go_wp2_with fail
  go_region_held3 (fun w' => Snq w w') (with_reducible assumption) (fail)
  go_wp2_with fail
  go_ret
  exact ⟨rfl, DN.same HD.out ((Touch.refl _ _).drew)⟩

set_option maxHeartbeats 2000000 in
theorem dput_new (w : World) (b : Nat) (v : Value) (most : Int) (l : List En) (x : En) (hx : x.Ok) (h : DS w b v most l) (hk : hasK l x.k = false) (hf : (l.length : Int) < most) :
    Calls Try.prog 22 #[.pointer (some ⟨b, 0, none⟩), .int .i64 x.a, .int .i64 x.r, .int .u64 x.k] w fun e w' => e = .returned (.bool true) ∧ DN w b v most (l ++ [x]) w' := by
  have HF := dfind_any w b v most l x.k h
  have HD : Hid _ := h
  have c0 := h.c0
  have c1 := h.c1
  have f0 := h.f0
  have hb := lt_of_cell c0
  obtain ⟨a, c, rfl⟩ := h.rd.shape
  clear h
  go_enter Try.func22, Try.ntmps22
  go_wp2_with fail
  refine Calls.mono HF ?_
  rintro e w1 ⟨z, rfl, rfl, hz⟩
  clear HF
  rcases hz.out with ⟨rfl, hn⟩ | ⟨i, hi, rfl, hk2⟩
  rotate_left
  · exact absurd hk2 (hasK_false.1 hk _ (gt_mem hi))
  replace c0 := snq_cell c0
  replace c1 := snq_cell c1
  have st : Snq w w.drew := Snq.start w
  clear hz hn
  have hf' : ¬ most ≤ (l.length : Int) := by omega
  have HMM := HD.out.m2
  obtain ⟨i0, hi0, hz0, hz1, hz2⟩ := infoParts infoDe
  go_wp2_with fail
  go_region_held3 (fun w' => Snq w w') (with_reducible assumption) (fail)
  have HD1 : DS w.drew b (.slice a l.length c) most l := HD.out.keep ((Touch.refl (fun _ => False) _).drew) (fun _ _ h => h)
  clear st c0 c1 f0
  have HT0 : Hid (Touch (fun _ => False) w w.drew) := (Touch.refl _ _).drew
  generalize w.drew = wd at *
  have c0 := HD1.c0
  have T1 : Touch (fun _ => False) wd (wd.alloc (.cells #[.int .i64 x.a, .int .i64 x.r, .int .u64 x.k] 62)) := (Touch.refl _ _).alloc _
  have HD2 := HD1.keep T1 (fun _ _ h => h)
  have hcell : ∀ j u, x.cs[j]? = some u → (wd.alloc (.cells #[.int .i64 x.a, .int .i64 x.r, .int .u64 x.k] 62)).cell? ((⟨wd.heap.size, 0, none⟩ : Addr).add j) = some u := by
    intro j u hj
    rcases (by have := (List.getElem?_eq_some_iff.1 hj).1; simp [En.cs] at this; omega : j = 0 ∨ j = 1 ∨ j = 2) with rfl | rfl | rfl
    · simp [En.cs] at hj; subst hj; simp [Addr.add]
    · simp [En.cs] at hj; subst hj; simp [Addr.add]
    · simp [En.cs] at hj; subst hj; simp [Addr.add]
  have hsmall : l.length ≤ 1048576 := by omega
  go_wp2_with (at_builtin; refine wpList_append_own_at _ rfl (.tmp 45) (.tmp 50) 28 rfl 0 62 i0 _ 3 24 Try.underlying28 hi0 hz0 hz1 hz2 rfl (by omega) (.slice a l.length c) l.length (cellsOf l) rfl HD2.rd ⟨wd.heap.size, 0, none⟩ 1 1 x.cs rfl rfl hcell (fun u hu => by simp [En.cs] at hu; rcases hu with rfl | rfl | rfl <;> rfl) (by unfold maxLen; omega) (by omega) (Nat.zero_le _) ?_; intro v' w2 own' gr' _ hat; obtain ⟨ua, uc, rfl⟩ := own_shape own'; have t2 : Touch (fun k => Value.ownBlock (.slice a l.length c) = some k) (wd.alloc (.cells #[.int .i64 x.a, .int .i64 x.r, .int .u64 x.k] 62)) w2 := Touch.grown (Touch.refl _ _) gr' (fun k hk => Or.inl hk); have d0 := (t2.cell (p := ⟨b, 0, none⟩) (lt_of_cell HD2.c0) HD2.bv).trans HD2.c0; have d1 := (t2.cell (p := ⟨b, 1, none⟩) (lt_of_cell HD2.c0) HD2.bv).trans HD2.c1; have df := (t2.frozen (p := ⟨b, 0, none⟩) (lt_of_cell HD2.c0) HD2.bv).trans HD2.f0)
  go_ret
  have hlen1 : (l ++ [x]).length = l.length + 1 := by simp
  have hcel : cellsOf (l ++ [x]) = cellsOf l ++ x.cs := by rw [cellsOf_append]; rfl
  have hvb : Value.ownBlock (.slice ua (l.length + 1) uc) ≠ some b := by
    rcases hat with e | e
    · rw [e]; exact HD.out.bv
    · rw [e]; intro e'; injection e' with e'; have := lt_of_cell HD1.c0; have := T1.size; omega
  have ts : Touch (fun k => k = b) w2 (w2.setCell ⟨b, 0, none⟩ (.slice ua (l.length + 1) uc)) := Touch.setCell (F := fun k => k = b) (p := ⟨b, 0, none⟩) (Touch.refl _ _) (Or.inl rfl) _
  have TT : Touch (fun k => Value.ownBlock (.slice a l.length c) = some k) w w2 := ((HT0.out.trans T1).mono (fun _ _ h => h.elim)).trans' t2 (fun _ _ h => h)
  refine ⟨rfl, ⟨.slice ua (l.length + 1) uc, ⟨?_, ?_, ?_, ?_, hvb, ?_, ?_, HMM, by rw [hlen1]; omega⟩, ?_⟩, ?_⟩
  · simp [go_sem, d0]
  · simpa [go_sem] using d1
  · simpa [go_sem] using df
  · unfold RD
    rw [hlen1, hcel]
    exact own_touch own' ts (fun k hk e => hvb (by rw [hk, e]))
  · exact NK.perm (HD.out.nk.cons x) (add_perm (hasK_false.1 hk))
  · intro e he
    rcases List.mem_append.1 he with h | h
    · exact HD.out.ok e h
    · simp at h; subst h; exact hx
  · intro j hj
    rcases hat with e | e
    · rw [e] at hj; exact Or.inl hj
    · rw [e] at hj; injection hj with hj; subst hj; exact Or.inr (Nat.le_trans HT0.out.size T1.size)
  · exact (TT.mono (fun _ _ h => Or.inr h)).trans (ts.mono (fun _ _ e => Or.inl e))

set_option maxHeartbeats 2000000 in
theorem dput_there (w : World) (b : Nat) (v : Value) (most : Int) (l : List En) (x : En) (hx : x.Ok) (h : DS w b v most l) (hk : hasK l x.k = true) :
    Calls Try.prog 22 #[.pointer (some ⟨b, 0, none⟩), .int .i64 x.a, .int .i64 x.r, .int .u64 x.k] w fun e w' => e = .returned (.bool true) ∧ ∃ L, DN w b v most L w' ∧ L.Perm (x :: noK l x.k) := by
  have HF := dfind_any w b v most l x.k h
  have HD : Hid _ := h
  have c0 := h.c0
  have c1 := h.c1
  have f0 := h.f0
  have hb := lt_of_cell c0
  obtain ⟨a, c, rfl⟩ := h.rd.shape
  clear h
  go_enter Try.func22, Try.ntmps22
  go_wp2_with fail
  refine Calls.mono HF ?_
  rintro e w1 ⟨z, rfl, rfl, hz⟩
  clear HF
  rcases hz.out with ⟨rfl, hn⟩ | ⟨i, hi, rfl, hk2⟩
  · obtain ⟨y, hy, e⟩ := hasK_true.1 hk
    exact absurd e (hn y hy)
  obtain ⟨g, cap, e1, hcap, hg⟩ := HD.out.rd.form (by omega)
  injection e1 with e1 e2 e3
  subst e1
  subst e3
  have hbg : b ≠ g := fun e => HD.out.bv (by subst e; rfl)
  obtain ⟨x0, x1, x2⟩ := HD.out.rd.cells hi
  have ff := HD.out.rd.fz
  have i0 : (0 : Int) ≤ (i : Int) := by omega
  have i1 : (i : Int) < (l.length : Int) := by omega
  have HK : Hid _ := hk2
  clear hz hk2 e2 x2 hcap
  go_wp2_with fail
  go_ret
  have ts : Touch (fun k => k = g) w ((w.setCell ⟨g, i * 3, none⟩ (.int .i64 x.a)).setCell ⟨g, i * 3 + 1, none⟩ (.int .i64 x.r)) := by
    refine Touch.setCell (F := fun k => k = g) (p := ⟨g, i * 3 + 1, none⟩) ?_ (Or.inl rfl) _
    refine Touch.setCell (F := fun k => k = g) (p := ⟨g, i * 3, none⟩) ?_ (Or.inl rfl) _
    exact Touch.refl _ _
  have hp := set_perm HD.out.nk hi HK.out.symm
  refine ⟨rfl, l.set i x, ⟨⟨.slice (some ⟨g, 0, none⟩) l.length c, ⟨(ts.cell (p := ⟨b, 0, none⟩) hb hbg).trans HD.out.c0, (ts.cell (p := ⟨b, 1, none⟩) hb hbg).trans HD.out.c1, (ts.frozen (p := ⟨b, 0, none⟩) hb hbg).trans HD.out.f0, HD.out.rd.set2 hi x HK.out.symm, HD.out.bv, NK.perm (HD.out.nk.cons x) hp, ?_, HD.out.m2, by rw [List.length_set]; exact HD.out.ml⟩, fun _ hk => Or.inl hk⟩, ts.mono (fun k _ e => Or.inr (by rw [e]; rfl))⟩, hp⟩
  intro e he
  rcases List.mem_or_eq_of_mem_set he with h | h
  · exact HD.out.ok e h
  · rw [h]; exact hx

theorem dput_any (w : World) (b : Nat) (v : Value) (most : Int) (l : List En) (x : En) (hx : x.Ok) (h : DS w b v most l) :
    Calls Try.prog 22 #[.pointer (some ⟨b, 0, none⟩), .int .i64 x.a, .int .i64 x.r, .int .u64 x.k] w fun e w' => e = .returned (.bool (putB l most x)) ∧ ∃ L, DN w b v most L w' ∧ L.Perm (putL l most x) := by
  by_cases hk : hasK l x.k = true
  · have e1 : putB l most x = true := by simp [putB, hk]
    rw [e1, show putL l most x = x :: noK l x.k by simp [putL, e1]]
    exact dput_there w b v most l x hx h hk
  · replace hk := Bool.eq_false_iff.2 hk
    by_cases hf : (l.length : Int) < most
    · have e1 : putB l most x = true := by simp [putB, hf]
      rw [e1, show putL l most x = x :: noK l x.k by simp [putL, e1]]
      exact (dput_new w b v most l x hx h hk hf).mono fun e w' ⟨he, d⟩ => ⟨he, _, d, add_perm (hasK_false.1 hk)⟩
    · have e1 : putB l most x = false := by simp [putB, hf, hk]
      rw [e1, show putL l most x = l by simp [putL, e1]]
      exact (dput_full w b v most l x hx h hk hf).mono fun e w' ⟨he, d⟩ => ⟨he, _, d, List.Perm.refl _⟩
end Go.Proofs.Ytmdnlfbploaafaa
