
/- The document's queue: All. -/
import Derived.Test.YtmdnlfbploaafaaQuDoc4
import Derived.Test.YtmdnlfbploaafaaQuAll
namespace Go.Proofs.Ytmdnlfbploaafaa
open Go.RowKit
set_option linter.unusedVariables false
set_option maxRecDepth 100000

def lenOf : Value → Nat
  | .slice _ n _ => n
  | _ => 0
/-- On the way: what is left in x, what is laid in order. -/
structure DA (W w : World) (bx : Nat) (most : Int) (l : List En) (acc : Value) (A : List En) : Prop where
  own : w.ownsRow W.heap.size 62 3 acc A.length (cellsOf A)
  bW : W.heap.size ≤ bx
  t : Touch (fun _ => False) W w
  out : ∃ v L, DS w bx v most L ∧ (∀ k, v.ownBlock = some k → W.heap.size ≤ k) ∧ (∀ k, acc.ownBlock = some k → ¬ dB bx v k) ∧ (A ++ L).Perm l ∧ SortedE A ∧ ∀ a ∈ A, ∀ y ∈ L, a.le y
/-- A copy of the document's row: its append to nothing. -/
theorem dcopy_run (w : World) (v : Value) (l : List En) (h : RD w v l) (hl : l.length ≤ 1048576) : ∃ v' w', (Builtin.append_ #[28, 28] 28 #[.slice none 0 0, v]).run Try.prog w = .ok v' w' ∧ w'.ownsRow w.heap.size 62 3 v' l.length (cellsOf l) ∧ Touch (fun _ => False) w w' := by
  obtain ⟨i0, hi0, hz0, hz1, hz2⟩ := infoParts infoDe
  have h' := h
  obtain ⟨h1, ⟨rfl, h3⟩ | ⟨g, cap, cur, rfl, _, hh, hc, hm, hs, hx⟩⟩ := h
  · have e1 : l = [] := List.length_eq_zero_iff.1 h3
    subst e1
    refine ⟨.slice none 0 0, w, ?_, World.ownsRow_nil _ _ _ _, Touch.refl _ _⟩
    rfl
  · have h1c : ∀ u ∈ cellsOf l, u.oneCell' = true := by
      intro u hu
      obtain ⟨x, _, hx⟩ := List.mem_flatMap.1 hu
      simp [En.cs] at hx
      rcases hx with rfl | rfl | rfl <;> rfl
    obtain ⟨v', w', hr, own', gr', -, -⟩ := run_append_own_at (P := Try.prog) w w.heap.size 28 28 62 i0 _ 3 24 Try.underlying28 hi0 hz0 hz1 hz2 rfl (by omega) (.slice none 0 0) 0 [] (World.ownsRow_nil _ _ _ _) ⟨g, 0, none⟩ l.length cap (cellsOf l) (length_cellsOf l) (World.ownsRow.cells h' (g := g) rfl) h1c (by unfold maxLen; omega) (by omega) (Nat.le_refl _)
    refine ⟨v', w', hr, ?_, Touch.grown (Touch.refl _ _) gr' (fun k hk => by cases hk)⟩
    have e1 : 0 + l.length = l.length := by omega
    rw [e1, List.nil_append] at own'
    exact own'
theorem sorted_snoc {A L : List En} {y : En} (h : SortedE A) (h2 : ∀ a ∈ A, ∀ z ∈ L, a.le z) (hy : y ∈ L) : SortedE (A ++ [y]) := by
  unfold SortedE at *
  rw [List.pairwise_append]
  exact ⟨h, List.pairwise_singleton _ _, fun a ha b hb => by simp at hb; subst hb; exact h2 a ha b hy⟩
theorem da_perm {A L l : List En} {y : En} (p : (A ++ L).Perm l) (nk : NK L) (hy : y ∈ L) : ((A ++ [y]) ++ noK L y.k).Perm l := by
  refine List.Perm.trans ?_ p
  rw [List.append_assoc]
  refine List.Perm.append_left A ?_
  obtain ⟨s, t, rfl⟩ := List.append_of_mem hy
  have q := cut_perm (l' := s ++ t) List.perm_middle.symm nk
  exact ((q.symm).cons y).trans List.perm_middle.symm

/-- One round of All. -/
theorem da_next {w wr w1 w2 w3 : World} {most : Int} {l L A : List En} {y : En} {acc v vn : Value} {O : Obj}
    (own : wr.ownsRow w.heap.size 62 3 acc A.length (cellsOf A)) (T2 : Touch (fun _ => False) w w2) (DX : DS wr w.heap.size v most L)
    (vW : ∀ k, v.ownBlock = some k → w.heap.size ≤ k) (dj : ∀ k, acc.ownBlock = some k → ¬ dB w.heap.size v k) (pm : (A ++ L).Perm l) (so : SortedE A) (hle : ∀ a ∈ A, ∀ z ∈ L, a.le z)
    (hmin : IsMin y L) (hsz : wr.heap.size ≤ w1.heap.size) (q : DN (w1.alloc O) w.heap.size v most (noK L y.k) w2)
    (t3 : Touch (fun k => acc.ownBlock = some k) (w2.alloc O) w3) (own3 : w3.ownsRow w.heap.size 62 3 vn (A.length + 1) (cellsOf A ++ y.cs))
    (hat : vn.ownBlock = acc.ownBlock ∨ vn.ownBlock = some (w2.alloc O).heap.size) : DA w w3 w.heap.size most l vn (A ++ [y]) := by
  obtain ⟨⟨v2, D2, hv2⟩, tt⟩ := q
  have hs1 : (w1.alloc O).heap.size = w1.heap.size + 1 := by simp
  have hs2 : (w2.alloc O).heap.size = w2.heap.size + 1 := by simp
  have ha : ∀ k, acc.ownBlock = some k → w.heap.size ≤ k ∧ k < wr.heap.size := fun k hk => World.ownsRow.lt own k hk
  have dj2 : ∀ k, acc.ownBlock = some k → ¬ dB w.heap.size v2 k := by
    intro k hk e
    rcases e with e | e
    · exact dj k hk (Or.inl e)
    · rcases hv2 k e with e2 | e2
      · exact dj k hk (Or.inr e2)
      · have := (ha k hk).2; omega
  have ta : Touch (fun _ => False) w2 (w2.alloc O) := (Touch.refl _ _).alloc _
  refine ⟨?_, Nat.le_refl _, (T2.trans ta).trans' t3 (fun i hi e => by have := (ha i e).1; omega), v2, noK L y.k, (D2.keep ta (fun _ _ h => h)).keep t3 (fun k hk e => dj2 k e hk), ?_, ?_, da_perm pm DX.nk hmin.mem, sorted_snoc so hle hmin.mem, ?_⟩
  · have e1 : (A ++ [y]).length = A.length + 1 := by simp
    have e2 : cellsOf (A ++ [y]) = cellsOf A ++ y.cs := by rw [cellsOf_append]; rfl
    rw [e1, e2]
    exact own3
  · intro k hk
    rcases hv2 k hk with e | e
    · exact vW k e
    · have := lt_of_cell DX.c0; omega
  · intro k hk e
    rcases hat with h | h
    · exact dj2 k (h ▸ hk) e
    · rw [h] at hk; injection hk with hk
      have := D2.lt k e
      omega
  · intro a ha2 z hz
    have hz1 := (mem_noK.1 hz).1
    rcases List.mem_append.1 ha2 with h | h
    · exact hle a h z hz1
    · simp at h; subst h; exact hmin.le z hz1

set_option maxHeartbeats 2000000 in
theorem dall_any (w : World) (b : Nat) (v : Value) (most : Int) (l : List En) (h : DS w b v most l) :
    Calls Try.prog 15 #[.pointer (some ⟨b, 0, none⟩)] w fun e w' => ∃ va L, e = .returned va ∧ w'.ownsRow w.heap.size 62 3 va L.length (cellsOf L) ∧ L.Perm l ∧ SortedE L ∧ Touch (fun _ => False) w w' := by
  have c0 := h.c0
  have c1 := h.c1
  have hb := lt_of_cell c0
  have hsm : l.length ≤ 1048576 := by have := h.ml; have := h.m2; omega
  have HD : Hid _ := h
  have hbH : b ≠ w.heap.size := by omega
  clear h
  go_enter Try.func15, Try.ntmps15
  go_wp2_with fail
  have T : Touch (fun _ => False) w (w.alloc (.cells #[.slice none 0 0, .int .i64 most] 30)) := (Touch.refl _ _).alloc _
  have R0 : Row (w.alloc (.cells #[.slice none 0 0, .int .i64 most] 30)) w.heap.size 30 [.slice none 0 0, .int .i64 most] := row_new w _ _
  generalize w.alloc (.cells #[.slice none 0 0, .int .i64 most] 30) = wa at T R0 ⊢
  replace T : Touch (fun _ => False) w wa.drew := T.drew
  replace R0 : Row wa.drew w.heap.size 30 [.slice none 0 0, .int .i64 most] := R0
  have pd : wa.drew.cell? ⟨b, 0, none⟩ = some v := T.cellN c0
  obtain ⟨a, c, rfl⟩ := HD.out.rd.shape
  refine wp_region_held_drew (S := fun w' => w'.cell? ⟨b, 0, none⟩ = some (.slice a l.length c)) (by kernel_rfl) pd (fun hHeld => ?_)
  generalize wa.drew = wd at T R0 pd hHeld ⊢
  have x0 : wd.cell? ⟨w.heap.size, 0, none⟩ = some (.slice none 0 0) := R0.cell 0
  obtain ⟨v', w2, hrun, own2, t2⟩ := dcopy_run wd (.slice a l.length c) l (HD.out.rd.keep T (fun _ _ h => h)) hsm
  obtain ⟨ua, uc, hu⟩ := own_shape own2
  subst hu
  have p2 := t2.cellN pd
  have R2 := R0.keep t2
  have x2 : w2.cell? ⟨w.heap.size, 0, none⟩ = some (.slice none 0 0) := R2.cell 0
  have xf := R2.frozen
  have p3 : (w2.setCell ⟨w.heap.size, 0, none⟩ (.slice ua l.length uc)).cell? ⟨b, 0, none⟩ = some (.slice a l.length c) := by simpa [go_sem, hbH, Ne.symm hbH] using p2
  have hdW : w.heap.size < wd.heap.size := R0.lt
  have hvo : ∀ k, Value.ownBlock (.slice ua l.length uc) = some k → wd.heap.size ≤ k := fun k hk => (World.ownsRow.lt own2 k hk).1
  have ts : Touch (fun k => k = w.heap.size) w2 (w2.setCell ⟨w.heap.size, 0, none⟩ (.slice ua l.length uc)) := Touch.setCell (F := fun k => k = w.heap.size) (p := ⟨w.heap.size, 0, none⟩) (Touch.refl _ _) (Or.inl rfl) _
  have DA0 : Hid (DA w (w2.setCell ⟨w.heap.size, 0, none⟩ (.slice ua l.length uc)) w.heap.size most l (.slice none 0 0) []) := by
    have R3 := R2.set 0 (.slice ua l.length uc)
    refine ⟨World.ownsRow_nil _ _ _ _, Nat.le_refl _, (T.trans t2).trans' ts (fun i hi e => by omega), ⟨.slice ua l.length uc, l, ⟨R3.cell 0, R3.cell 1, R3.frozen 0, ?_, (fun e => (by have := hvo _ e; omega)), HD.out.nk, HD.out.ok, HD.out.m2, HD.out.ml⟩, (fun k hk => (by have := hvo k hk; omega)), (fun k hk => (by cases hk)), (by simp), List.Pairwise.nil, (by simp)⟩⟩
    unfold RD
    have o2 := own_touch own2 ts (fun j hj e => by have := hvo j hj; omega)
    refine ⟨o2.1, ?_⟩
    rcases o2.2 with h2 | ⟨g2, cap2, cur2, a1, _, a3⟩
    · exact Or.inl h2
    · exact Or.inr ⟨g2, cap2, cur2, a1, Nat.zero_le _, a3⟩
  clear ts hvo own2 R2 R0 T t2 c0 c1
  refine wpAnyH_take (i := 0) (oi := ⟨some 13, _, _, _, _, _⟩) (v := .pointer (some ⟨w.heap.size, 0, none⟩)) rfl (by kernel_rfl) (by kernel_rfl) (by kernel_rfl) (fun _ _ _ h => h) (Or.inl ⟨by rfl, fun w hw => by go_simp⟩) (by assumption) ?_
  simp only [Act.put, List.setIfInBounds_toArray, List.set_cons_zero, List.set_cons_succ]
  refine wpAnyH_take (i := 1) (oi := ⟨some 14, _, _, _, _, _⟩) (v := .pointer (some ⟨w.heap.size, 0, none⟩)) rfl (by kernel_rfl) (by kernel_rfl) (by kernel_rfl) (fun _ _ _ h => h) (Or.inl ⟨by rfl, fun w hw => by go_simp⟩) (by assumption) ?_
  simp only [Act.put, List.setIfInBounds_toArray, List.set_cons_zero, List.set_cons_succ]
  refine wpAnyH_take (i := 2) (oi := ⟨some 15, _, _, _, _, _⟩) (v := .pointer (some ⟨w.heap.size, 0, none⟩)) rfl (by kernel_rfl) (by kernel_rfl) (by kernel_rfl) (fun _ _ _ h => h) (Or.inl ⟨by rfl, fun w hw => by go_simp⟩) (by assumption) ?_
  simp only [Act.put, List.setIfInBounds_toArray, List.set_cons_zero, List.set_cons_succ]
  refine wpAnyH_take (i := 3) (oi := ⟨some 16, _, _, _, _, _⟩) (v := .pointer (some ⟨w.heap.size, 0, none⟩)) rfl (by kernel_rfl) (by kernel_rfl) (by kernel_rfl) (fun _ _ _ h => h) (Or.inl ⟨by rfl, fun w hw => by go_simp⟩) (by assumption) ?_
  simp only [Act.put, List.setIfInBounds_toArray, List.set_cons_zero, List.set_cons_succ]
  refine wpAnyH_take (i := 5) (oi := ⟨some 18, _, _, _, _, _⟩) (v := .pointer (some ⟨b, 0, none⟩)) rfl (by kernel_rfl) (by kernel_rfl) (by kernel_rfl) (fun _ _ _ h => h) (Or.inl ⟨by rfl, fun w hw => by go_simp⟩) (by assumption) ?_
  simp only [Act.put, List.setIfInBounds_toArray, List.set_cons_zero, List.set_cons_succ]
  refine wpAnyH_take (i := 6) (oi := ⟨some 19, _, _, _, _, _⟩) (v := .pointer (some ⟨b, 0, none⟩)) rfl (by kernel_rfl) (by kernel_rfl) (by kernel_rfl) (fun _ _ _ h => h) (Or.inl ⟨by rfl, fun w hw => by go_simp⟩) (by assumption) ?_
  simp only [Act.put, List.setIfInBounds_toArray, List.set_cons_zero, List.set_cons_succ]
  refine wpAnyH_take (i := 7) (oi := ⟨some 20, _, _, _, _, _⟩) (v := .pointer (some ⟨b, 0, none⟩)) rfl (by kernel_rfl) (by kernel_rfl) (by kernel_rfl) (fun _ _ _ h => h) (Or.inl ⟨by rfl, fun w hw => by go_simp⟩) (by assumption) ?_
  simp only [Act.put, List.setIfInBounds_toArray, List.set_cons_zero, List.set_cons_succ]
  refine wpAnyH_take (i := 8) (oi := ⟨some 21, _, _, _, _, _⟩) (v := .slice a l.length c) rfl (by kernel_rfl) (by kernel_rfl) (by kernel_rfl) (fun _ _ _ h => h) (Or.inl ⟨by rfl, fun w hw => by go_simp⟩) (by assumption) ?_
  simp only [Act.put, List.setIfInBounds_toArray, List.set_cons_zero, List.set_cons_succ]
  refine wpAnyH_ready (rs := [4]) (by kernel_rfl) (by simp) ?_
  refine AllReadyH.cons rfl (fun K hK => ?_) AllReadyH.nil
  go_simp
  refine hK.out _ _ (pd) (fun hHeld => ?_)
  clear hK K
  refine wpAnyH_ready (rs := [9]) (by kernel_rfl) (by simp) ?_
  refine AllReadyH.cons rfl (fun K hK => ?_) AllReadyH.nil
  refine step_run_append rfl (.tmp 17) (.tmp 21) 28 rfl _ _ _ _ (by rfl) (by rfl) hrun ?_
  simp only [Act.put, List.setIfInBounds_toArray]
  refine hK.out _ _ (p2) (fun hHeld => ?_)
  clear hK K
  refine wpAnyH_take (i := 10) (oi := ⟨some 23, _, _, _, _, _⟩) (v := .pointer (some ⟨w.heap.size, 0, none⟩)) rfl (by kernel_rfl) (by kernel_rfl) (by kernel_rfl) (fun _ _ _ h => h) (Or.inl ⟨by rfl, fun w hw => by go_simp⟩) (by assumption) ?_
  simp only [Act.put]
  refine wpAnyH_take (i := 11) (oi := ⟨some 24, _, _, _, _, _⟩) (v := .pointer (some ⟨w.heap.size, 0, none⟩)) rfl (by kernel_rfl) (by kernel_rfl) (by kernel_rfl) (fun _ _ _ h => h) (Or.inl ⟨by rfl, fun w hw => by go_simp⟩) (by assumption) ?_
  simp only [Act.put]
  refine wpAnyH_ready (rs := [12]) (by kernel_rfl) (by simp) ?_
  refine AllReadyH.cons rfl (fun K hK => ?_) AllReadyH.nil
  go_simp
  refine hK.out _ _ (p3) (fun hHeld => ?_)
  clear hK K
  refine wpAnyH_done (by kernel_rfl) ?_ _
  generalize w2.setCell ⟨w.heap.size, 0, none⟩ (.slice ua l.length uc) = w3 at *
  clear hrun p2 p3 x0 x2 xf pd
  obtain ⟨i0, hi0, hz0, hz1, hz2⟩ := infoParts infoDe
  go_wp2_with fail
  go_loopw [4] (fun s4 wx => ∃ A : List En, A.length ≤ l.length ∧ lenOf s4 = A.length ∧ DA w wx w.heap.size most l s4 A) (fun s4 _ => l.length - lenOf s4)
  case atStart => exact ⟨[], by simp, rfl, DA0.out⟩
  case round =>
    clear DA0
    obtain ⟨A, hA, hlen, D⟩ := hrel
    obtain ⟨aa, ac, hs4⟩ := own_shape D.own
    subst hs4
    have HDA : Hid _ := D
    obtain ⟨own, bW, tW, vx, L, DX, vW, dj, pm, so, hle⟩ := D
    obtain ⟨xa, xc, rfl⟩ := DX.rd.shape
    have c0 := DX.c0
    have hLl : L.length + A.length = l.length := by have := pm.length_eq; simp at this; omega
    clear hlen
    by_cases hL : 0 < L.length
    · have hL' : (0 : Int) < (L.length : Int) := by omega
      have HX : Hid _ := DX
      have HN : Hid _ := dnext_any wr w.heap.size (.slice xa L.length xc) most L DX
      have HO : Hid _ := own
      have HT : Hid _ := tW
      have HV : Hid _ := vW
      have HJ : Hid _ := dj
      have HP : Hid _ := pm
      have HS : Hid _ := so
      have HE : Hid _ := hle
      have hxl : Hid (∀ k, dB w.heap.size (.slice xa L.length xc) k → k < wr.heap.size) := DX.lt
      have HM : Hid (most ≤ 1048576 ∧ (L.length : Int) ≤ most) := ⟨DX.m2, DX.ml⟩
      clear DX own tW vW dj pm so hle HDA
      go_wp2_with fail
      refine Calls.mono HN.out ?_
      rintro e w1 ⟨y, z, hn, rfl, t1⟩
      obtain ⟨hmin, rfl⟩ := hn.yes (by intro e; subst e; simp at hL)
      have HMin : Hid _ := hmin
      have HT1 : Hid (Touch (fun _ => False) wr w1) := t1
      have hsz := t1.size
      clear hmin hn HN c0 t1
      go_wp2_with fail
      refine Calls.mono (ddrop_any _ w.heap.size (.slice xa L.length xc) most L y.k (HX.out.keep (HT1.out.alloc (.cells #[.int .i64 y.a, .int .i64 y.r, .int .u64 y.k] 62)) (fun _ _ h => h))) ?_
      rintro e w2 ⟨rfl, q2⟩
      have X2 : Row w2 w1.heap.size 62 [.int .i64 y.a, .int .i64 y.r, .int .u64 y.k] := (q2.t.block _ (by simp) (fun e => by have := hxl.out _ e; omega)).trans (row_new w1 _ _)
      have y0 : w2.cell? ⟨w1.heap.size, 0, none⟩ = some (.int .i64 y.a) := X2.cell 0
      have y1 : w2.cell? ⟨w1.heap.size, 1, none⟩ = some (.int .i64 y.r) := X2.cell 1
      have y2 : w2.cell? ⟨w1.heap.size, 2, none⟩ = some (.int .u64 y.k) := X2.cell 2
      have hXl := X2.lt
      have HT2 : Hid (Touch (fun _ => False) w w2) := (HT.out.trans (HT1.out.alloc _)).trans' q2.t (fun i hi e => by
        rcases e with e | e
        · omega
        · have := HV.out i e; omega)
      have HO2 : Hid ((w2.alloc (.cells #[.int .i64 y.a, .int .i64 y.r, .int .u64 y.k] 62)).ownsRow w.heap.size 62 3 (.slice aa A.length ac) A.length (cellsOf A)) :=
        own_touch (own_touch (own_touch HO.out (HT1.out.alloc _) (fun _ _ h => h)) q2.t (fun k hk => HJ.out k hk)) ((Touch.refl (fun _ => False) _).alloc _) (fun _ _ h => h)
      have HQ : Hid _ := q2
      clear q2 X2
      have hcell : ∀ j u, y.cs[j]? = some u → (w2.alloc (.cells #[.int .i64 y.a, .int .i64 y.r, .int .u64 y.k] 62)).cell? ((⟨w2.heap.size, 0, none⟩ : Addr).add j) = some u := by
        intro j u hj
        rcases (by have := (List.getElem?_eq_some_iff.1 hj).1; simp [En.cs] at this; omega : j = 0 ∨ j = 1 ∨ j = 2) with rfl | rfl | rfl
        · simp [En.cs] at hj; subst hj; simp [Addr.add]
        · simp [En.cs] at hj; subst hj; simp [Addr.add]
        · simp [En.cs] at hj; subst hj; simp [Addr.add]
      have hwle : w.heap.size ≤ (w2.alloc (.cells #[.int .i64 y.a, .int .i64 y.r, .int .u64 y.k] 62)).heap.size := by have := HT2.out.size; simp; omega
      have hAs : A.length ≤ 1048576 := by omega
      go_wp2_with (at_builtin; refine wpList_append_own_at _ rfl _ _ 28 rfl w.heap.size 62 i0 _ 3 24 Try.underlying28 hi0 hz0 hz1 hz2 rfl (by omega) (.slice aa A.length ac) A.length (cellsOf A) rfl HO2.out ⟨w2.heap.size, 0, none⟩ 1 1 y.cs rfl rfl hcell (fun u hu => by simp [En.cs] at hu; rcases hu with rfl | rfl | rfl <;> rfl) (by unfold maxLen; omega) (by omega) hwle ?_; intro v' w3' own' gr' _ hat; obtain ⟨ua', uc', rfl⟩ := own_shape own'; have t3 : Hid (Touch (fun k => Value.ownBlock (.slice aa A.length ac) = some k) (w2.alloc (.cells #[.int .i64 y.a, .int .i64 y.r, .int .u64 y.k] 62)) w3') := Touch.grown (Touch.refl _ _) gr' (fun k hk => Or.inl hk); have OWN : Hid _ := own'; have HAT : Hid _ := hat; clear own' hat gr' hcell hwle)
      have FIN : Hid (DA w w3' w.heap.size most l (.slice ua' (A.length + 1) uc') (A ++ [y])) := da_next HO.out HT2.out HX.out HV.out HJ.out HP.out HS.out HE.out HMin.out HT1.out.size HQ.out t3.out OWN.out HAT.out
      clear OWN HAT t3 HQ y0 y1 y2 hXl HO2 HT2 HT1
      go_roundw
      case rel => exact ⟨A ++ [y], by simp; omega, by simp [lenOf], FIN.out⟩
      case measure => simp [lenOf]; omega
    · have eL : L = [] := List.length_eq_zero_iff.1 (by omega)
      subst eL
      simp only [List.length_nil] at c0
      go_wp2_with fail
      go_ret
      refine ⟨_, A, rfl, own, by simpa using pm, so, tW⟩
end Go.Proofs.Ytmdnlfbploaafaa
