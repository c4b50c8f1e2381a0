
/- The walk of the statement: someone is designated just if someone may be. -/
import Derived.Test.YtcmkhhdjhemmbaaElLaw1
namespace Go.Proofs.Ytcmkhhdjhemmbaa
open Go.RowKit
set_option linter.unusedVariables false
set_option maxRecDepth 100000

/-- Of x nothing has turned. -/
structure SnT (x w : World) : Prop where
  t : Touch (fun _ => False) x w
theorem snT_cell {x : World} {a : Addr} {v : Value} (h : x.cell? a = some v) : ∀ w, SnT x w → w.cell? a = some v := fun w s => s.t.cellN h
theorem any_el (l : List VC) {k : Nat} {x : VC} (hx : l[k]? = some x) : (l.take (k + 1)).any VC.el = ((l.take k).any VC.el || x.el) := by
  have hl := (List.getElem?_eq_some_iff.mp hx).1
  have he := (List.getElem?_eq_some_iff.mp hx).2
  rw [List.take_succ_eq_append_getElem hl, he, List.any_append]
  simp
theorem some_pure {s : VC} {l : List VC} (h0 : s.ad ≠ 0) (hl : ∀ v ∈ l, v.ad ≠ 0) : ((s.el || l.any VC.el) = true → elD s l ≠ 0) ∧ ((s.el || l.any VC.el) = false → elD s l = 0 ∧ elB s l = 0) := by
  obtain ⟨h1, h2⟩ := el_some h0 hl
  refine ⟨fun h => h1.2 ?_, fun h => ⟨?_, h2 ?_⟩⟩
  · rw [Bool.or_eq_true, List.any_eq_true] at h
    exact h
  · rcases Classical.em (elD s l = 0) with e | e
    · exact e
    · exfalso
      have := h1.1 e
      rw [← List.any_eq_true (p := VC.el), ← Bool.or_eq_true, h] at this
      cases this
  · rw [Bool.or_eq_false_iff] at h
    refine ⟨h.1, fun v hv => ?_⟩
    have := List.any_eq_false.1 h.2 v hv
    simpa using this
structure SoR (w : World) (s : VC) (l : List VC) (gg : Nat) (s5 s6 : Value) (wr : World) : Prop where
  out : ∃ k : Nat, k ≤ l.length ∧ l.length - k ≤ gg ∧ s6 = .int .i64 k ∧ s5 = .bool (s.el || (l.take k).any VC.el) ∧ (∀ v ∈ l.take k, v.ad ≠ 0) ∧ wr = w.alloc (.cells #[.int .u32 s.r, .int .u32 s.ad, .int .u8 s.p, .int .u32 s.dr, .int .u32 s.bd] 33)
set_option maxHeartbeats 4000000 in
theorem esome_any (s : VC) (v : Value) (l : List VC) (w : World) (hs : s.Ok) (hv : VcsAt w v l) : CB 5 #[s.agg, v] true w := by
  unfold CB
  by_cases hn : l.length ≤ 300
  rotate_left
  · obtain ⟨va, vc, rfl, -⟩ := hv.form
    have hn' : (300 : Int) < (l.length : Int) := by omega
    clear hv hn
    go_enter Try.func5, Try.ntmps5
    go_wp2_with fail
    refine (works_any _).mono ?_
    rintro e wz ⟨rfl, tz⟩
    have T9 : Hid (Touch (fun _ => False) w wz) := ((Touch.refl _ w).alloc _).trans tz
    clear tz
    go_wp2_with fail
    go_ret
    exact ⟨rfl, T9.out⟩
  have hn' : ¬ (300 : Int) < (l.length : Int) := by omega
  by_cases h0 : s.ad = 0
  · obtain ⟨va, vc, rfl, -⟩ := hv.form
    obtain ⟨r, ad, p, dr, bd⟩ := s
    simp only at h0
    subst h0
    clear hv hn
    go_enter Try.func5, Try.ntmps5
    go_wp2_with fail
    refine (works_any _).mono ?_
    rintro e wz ⟨rfl, tz⟩
    have T9 : Hid (Touch (fun _ => False) w wz) := ((Touch.refl _ w).alloc _).trans tz
    clear tz
    go_wp2_with fail
    go_ret
    exact ⟨rfl, T9.out⟩
  have h0' : (s.ad == 0) = false := by simpa using h0
  have HCP := fun w' (t : Touch (fun _ => False) w w') => copied_any l v w' (hv.keep t) (by omega)
  have HL : Hid (∀ w' : World, VcsAt (w'.alloc (.cells #[.int .u32 s.r, .int .u32 s.ad, .int .u8 s.p, .int .u32 s.dr, .int .u32 s.bd] 33)) (.slice (some ⟨w'.heap.size, 0, none⟩) 1 1) [s]) := fun w' => VR.at (VR.lit 33 (Touch.refl _ w') [s] #[.int .u32 s.r, .int .u32 s.ad, .int .u8 s.p, .int .u32 s.dr, .int .u32 s.bd] (by simp [vcC, VC.cells]) (by simp)) (by simpa using hs)
  have HC1 := fun w' g (h : VcsAt w' (.slice (some ⟨g, 0, none⟩) 1 1) [s]) => copied_any [s] (.slice (some ⟨g, 0, none⟩) 1 1) w' h (by simp)
  have HEL := fun w' u (h : VcsAt w' u l) => elect_any s l u w' h hs (by omega)
  have HBX : Hid (∀ w', Touch (fun _ => False) (w.alloc (.cells #[.int .u32 s.r, .int .u32 s.ad, .int .u8 s.p, .int .u32 s.dr, .int .u32 s.bd] 33)) w' → VcD w' w.heap.size 0 s) := fun w' t => (dbox w s).keep t
  have HB0 : Hid (Touch (fun _ => False) w (w.alloc (.cells #[.int .u32 s.r, .int .u32 s.ad, .int .u8 s.p, .int .u32 s.dr, .int .u32 s.bd] 33))) := (Touch.refl _ w).alloc _
  have HOK : Hid (∀ x ∈ l, x.Ok) := hv.ok
  have HSK : Hid s.Ok := hs
  have HV : Hid (∀ w', Touch (fun _ => False) w w' → VcsAt w' v l) := fun w' t => hv.keep t
  obtain ⟨va, vc, rfl, -⟩ := hv.form
  have HP : Hid ((∀ v ∈ l, v.ad ≠ 0) → ((s.el || l.any VC.el) = true → elD s l ≠ 0) ∧ ((s.el || l.any VC.el) = false → elD s l = 0 ∧ elB s l = 0)) := fun h => some_pure h0 h
  generalize elD s l = D at *
  generalize elB s l = B at *
  have hn0 : (l.length : Int) ≤ 300 := by omega
  have HSE : Hid (decide (0 < s.p) = s.el) := (rfl : _ = _)
  clear hv hn hs
  go_enter Try.func5, Try.ntmps5
  go_wp2_with fail
  go_loopg [5, 6] l.length (fun gg s5 s6 wr => SoR w s l gg s5 s6 wr)
  case atStart => exact ⟨0, Nat.zero_le _, by omega, rfl, congrArg Value.bool (by rw [List.take_zero, List.any_nil, Bool.or_false]; exact HSE.out), by simp, rfl⟩
  case round =>
    obtain ⟨k, hk, hg, rfl, rfl, ha, rfl⟩ := hrel.out
    have HA : Hid _ := ha
    have TW : Hid (Touch (fun _ => False) (w.alloc (.cells #[.int .u32 s.r, .int .u32 s.ad, .int .u8 s.p, .int .u32 s.dr, .int .u32 s.bd] 33)) (w.alloc (.cells #[.int .u32 s.r, .int .u32 s.ad, .int .u8 s.p, .int .u32 s.dr, .int .u32 s.bd] 33))) := Touch.refl _ _
    clear hrel ha
    by_cases hlt : k < l.length
    · have hlt' : (k : Int) < (l.length : Int) := by omega
      have hk00 : (0 : Int) ≤ (k : Int) := by omega
      have hkw : wrap64 ((k : Int) + 1) = (k : Int) + 1 := by unfold wrap64; omega
      obtain ⟨x, hx⟩ : ∃ x, l[k]? = some x := ⟨l[k], by simp [hlt]⟩
      obtain ⟨gR, off, cR, eR, -, -, hcell⟩ := (HV.out _ HB0.out).at (by omega)
      cases eR
      obtain ⟨e0, e1, e2, e3, e4⟩ := hcell k x hx
      have HX : Hid (l[k]? = some x) := hx
      have HN : Hid ((l.take (k + 1)).any VC.el = ((l.take k).any VC.el || x.el)) := any_el l hx
      have HXE : Hid (decide (0 < x.p) = x.el) := (rfl : _ = _)
      clear hcell hx e0 e3 e4
      by_cases hx0 : x.ad = 0
      · obtain ⟨r, ad, p, dr, bd⟩ := x
        simp only at hx0 e1
        subst hx0
        clear e2
        go_wp2_with fail
        refine (works_any _).mono ?_
        rintro e wz ⟨rfl, tz⟩
        have T9 : Hid (Touch (fun _ => False) w wz) := HB0.out.trans tz
        clear tz
        go_wp2_with fail
        go_ret
        exact ⟨rfl, T9.out⟩
      · have hx0' : (x.ad == 0) = false := by simpa using hx0
        have HA2 : Hid (∀ v ∈ l.take (k + 1), v.ad ≠ 0) := fun v hv => by
          have e := (List.getElem?_eq_some_iff.mp HX.out).2
          rw [List.take_succ_eq_append_getElem hlt, e, List.mem_append, List.mem_singleton] at hv
          rcases hv with hv | rfl
          · exact HA.out v hv
          · exact hx0
        generalize hA : (s.el || (l.take k).any VC.el) = A
        have HAE : Hid ((s.el || (l.take k).any VC.el) = A) := hA
        clear hA
        cases A
        all_goals
          go_wp2_with fail
          go_roundg (l.length - (k + 1))
          case measure => omega
          case rel => exact ⟨k + 1, by omega, by omega, by go_num, congrArg Value.bool (by rw [HN.out, ← Bool.or_assoc, HAE.out]; first | rfl | (rw [Bool.false_or]; exact HXE.out)), HA2.out, rfl⟩
    · have hlt' : ¬ (k : Int) < (l.length : Int) := by omega
      obtain rfl : k = l.length := by omega
      rw [List.take_length] at HA
      rw [List.take_length]
      obtain ⟨hp1, hp2⟩ := HP.out HA.out
      generalize (s.el || l.any VC.el) = A at hp1 hp2 ⊢
      have HB1 : Hid (Touch (fun _ => False) w (w.alloc (.cells #[.int .u32 s.r, .int .u32 s.ad, .int .u8 s.p, .int .u32 s.dr, .int .u32 s.bd] 33))) := HB0.out
      cases A
      · obtain ⟨hd, hb⟩ := hp2 rfl
        subst hd hb
        clear hp1 hp2
        generalize w.alloc (.cells #[.int .u32 s.r, .int .u32 s.ad, .int .u8 s.p, .int .u32 s.dr, .int .u32 s.bd] 33) = W at *
        obtain ⟨a0, a1, a2, a3, a4⟩ := (HBX.out W TW.out).open0
        have c0 := snT_cell a0
        have c1 := snT_cell a1
        have c2 := snT_cell a2
        have c3 := snT_cell a3
        have c4 := snT_cell a4
        clear a0 a1 a2 a3 a4
        go_upto_region 10 with fail
        refine wp_region_held_drew (S := fun w' => SnT W w') (by kernel_rfl) ⟨(Touch.refl _ _).drew⟩ (fun hHeld => ?_)
        refine wpAnyH_take (i := 0) (oi := ⟨some 44, _, _, _, _, _⟩) (v := .agg #[.int .u32 s.r, .int .u32 s.ad, .int .u8 s.p, .int .u32 s.dr, .int .u32 s.bd]) rfl (by kernel_rfl) (by kernel_rfl) (by kernel_rfl) (fun _ _ _ h => h) (Or.inl ⟨by rfl, fun w hw => by go_simp⟩) (by assumption) ?_
        simp only [Act.put, List.setIfInBounds_toArray, List.set_cons_zero, List.set_cons_succ]
        refine wpAnyH_take (i := 5) (oi := ⟨some 49, _, _, _, _, _⟩) (v := .slice va l.length vc) rfl (by kernel_rfl) (by kernel_rfl) (by kernel_rfl) (fun _ _ _ h => h) (Or.inl ⟨by rfl, fun w hw => by go_simp⟩) (by assumption) ?_
        simp only [Act.put, List.setIfInBounds_toArray, List.set_cons_zero, List.set_cons_succ]
        refine wpAnyH_ready (rs := [1]) (by kernel_rfl) (by simp) ?_
        refine AllReadyH.cons (o := ⟨some 45, _, _, _, _, _⟩) rfl (fun K hK => ?_) AllReadyH.nil
        go_simp
        have hv1 : VcsAt (W.alloc (.cells #[.int .u32 s.r, .int .u32 s.ad, .int .u8 s.p, .int .u32 s.dr, .int .u32 s.bd] 33)).drew (.slice (some ⟨W.heap.size, 0, none⟩) 1 1) [s] := (HL.out W).keep ((Touch.refl _ _).drew)
        have hs1 : SnT W (W.alloc (.cells #[.int .u32 s.r, .int .u32 s.ad, .int .u8 s.p, .int .u32 s.dr, .int .u32 s.bd] 33)).drew := ⟨((Touch.refl _ _).alloc _).drew⟩
        refine hK.out _ _ hs1 (fun hHeld => ?_)
        clear hK K
        generalize (W.alloc (.cells #[.int .u32 s.r, .int .u32 s.ad, .int .u8 s.p, .int .u32 s.dr, .int .u32 s.bd] 33)).drew = wA at hv1 hs1 hHeld ⊢
        generalize W.heap.size = gA at hv1 ⊢
        refine wpAnyH_ready (rs := [2]) (by kernel_rfl) (by simp) ?_
        refine AllReadyH.cons (o := ⟨some 46, _, _, _, _, _⟩) rfl (fun K hK => ?_) AllReadyH.nil
        go_simp
        refine Calls.mono (HC1 _ _ hv1) ?_
        rintro e wB ⟨uB, rfl, vrB⟩
        obtain ⟨gB, cB, rfl, -, -⟩ := VR.slot vrB (by simp)
        have hsB : SnT W wB := ⟨hs1.t.trans vrB.t⟩
        have HVB : Hid (∀ w', Touch (fun _ => False) wB w' → VcsAt w' (.slice (some ⟨gB, 0, none⟩) [s].length cB) [s]) := fun w' t => VR.at (VBuf.keep vrB t) (by simpa using HSK.out)
        refine hK.out _ _ hsB (fun hHeld => ?_)
        clear hK K hv1 vrB
        refine wpAnyH_take (i := 3) (oi := ⟨some 47, _, _, _, _, _⟩) (v := .pointer (some ⟨gB, 0, none⟩)) rfl (by kernel_rfl) (by kernel_rfl) (by kernel_rfl) (fun _ _ _ h => h) (Or.inl ⟨by rfl, fun w hw => by go_simp <;> first | omega | (intro hh; omega)⟩) (by assumption) ?_
        simp only [Act.put, List.setIfInBounds_toArray, List.set_cons_zero, List.set_cons_succ]
        refine wpAnyH_ready (rs := [4, 6]) (by kernel_rfl) (by simp) ?_
        refine AllReadyH.cons (o := ⟨some 48, _, _, _, _, _⟩) rfl (fun K hK => ?_) (AllReadyH.cons (o := ⟨some 50, _, _, _, _, _⟩) rfl (fun K hK => ?_) AllReadyH.nil)
        · obtain ⟨b0, b1, b2, b3, b4⟩ := one_cells (HVB.out wB (Touch.refl _ _))
          go_simp
          refine hK.out _ _ hsB (fun hHeld => ?_)
          clear hK K b0 b1 b2 b3 b4
          refine wpAnyH_ready (rs := [6]) (by kernel_rfl) (by simp) ?_
          refine AllReadyH.cons (o := ⟨some 50, _, _, _, _, _⟩) rfl (fun K hK => ?_) AllReadyH.nil
          go_simp
          refine Calls.mono (HCP _ (HB0.out.trans (TW.out.trans hsB.t))) ?_
          rintro e wC ⟨uC, rfl, vrC⟩
          have hsC : SnT W wC := ⟨hsB.t.trans vrC.t⟩
          have hvC : VcsAt wC uC l := VR.at vrC HOK.out
          refine hK.out _ _ hsC (fun hHeld => ?_)
          clear hK K vrC
          refine wpAnyH_ready (rs := [7]) (by kernel_rfl) (by simp) ?_
          refine AllReadyH.cons (o := ⟨some 51, _, _, _, _, _⟩) rfl (fun K hK => ?_) AllReadyH.nil
          go_simp
          refine (HEL _ _ hvC).mono ?_
          rintro e wE ⟨rfl, tE⟩
          have T5 : Hid (Touch (fun _ => False) w wE) := (HB0.out.trans (TW.out.trans hsC.t)).trans tE
          refine hK.out _ _ ⟨hsC.t.trans tE⟩ (fun hHeld => ?_)
          have TEE : Hid (Touch (fun _ => False) wC wE) := tE
          clear hK K tE
          refine wpAnyH_take (i := 8) (oi := ⟨some 43, _, _, _, _, _⟩) (v := .tuple #[.int .u32 0, .int .u32 0]) rfl (by kernel_rfl) (by kernel_rfl) (by kernel_rfl) (fun _ _ _ h => h) (Or.inl ⟨by rfl, fun w hw => by go_simp⟩) (by assumption) ?_
          simp only [Act.put, List.setIfInBounds_toArray, List.set_cons_zero, List.set_cons_succ]
          refine wpAnyH_take (i := 9) (oi := ⟨some 52, _, _, _, _, _⟩) (v := .int .u32 0) rfl (by kernel_rfl) (by kernel_rfl) (by kernel_rfl) (fun _ _ _ h => h) (Or.inl ⟨by rfl, fun w hw => by go_simp⟩) (by assumption) ?_
          simp only [Act.put, List.setIfInBounds_toArray, List.set_cons_zero, List.set_cons_succ]
          refine wpAnyH_take (i := 10) (oi := ⟨some 53, _, _, _, _, _⟩) (v := .int .u32 0) rfl (by kernel_rfl) (by kernel_rfl) (by kernel_rfl) (fun _ _ _ h => h) (Or.inl ⟨by rfl, fun w hw => by go_simp⟩) (by assumption) ?_
          simp only [Act.put, List.setIfInBounds_toArray, List.set_cons_zero, List.set_cons_succ]
          refine wpAnyH_take (i := 11) (oi := ⟨some 7, _, _, _, _, _⟩) (v := .int .u32 0) rfl (by kernel_rfl) (by kernel_rfl) (by kernel_rfl) (fun _ _ _ h => h) (Or.inl ⟨by rfl, fun w hw => by go_simp⟩) (by assumption) ?_
          simp only [Act.put, List.setIfInBounds_toArray, List.set_cons_zero, List.set_cons_succ]
          refine wpAnyH_take (i := 12) (oi := ⟨some 8, _, _, _, _, _⟩) (v := .int .u32 0) rfl (by kernel_rfl) (by kernel_rfl) (by kernel_rfl) (fun _ _ _ h => h) (Or.inl ⟨by rfl, fun w hw => by go_simp⟩) (by assumption) ?_
          simp only [Act.put, List.setIfInBounds_toArray, List.set_cons_zero, List.set_cons_succ]
          refine wpAnyH_done (by kernel_rfl) ?_ _
          go_wp2_with fail
          refine (works_any _).mono ?_
          rintro e wz ⟨rfl, tz⟩
          have T9 : Hid (Touch (fun _ => False) w wz) := T5.out.trans tz
          clear tz
          go_wp2_with fail
          go_ret
          exact ⟨rfl, T9.out⟩
        · go_simp
          refine Calls.mono (HCP _ (HB0.out.trans (TW.out.trans hsB.t))) ?_
          rintro e wC ⟨uC, rfl, vrC⟩
          have hsC : SnT W wC := ⟨hsB.t.trans vrC.t⟩
          have hvC : VcsAt wC uC l := VR.at vrC HOK.out
          have tBC := vrC.t
          refine hK.out _ _ hsC (fun hHeld => ?_)
          clear hK K vrC
          obtain ⟨b0, b1, b2, b3, b4⟩ := one_cells (HVB.out wC tBC)
          clear tBC
          refine wpAnyH_ready (rs := [4]) (by kernel_rfl) (by simp) ?_
          refine AllReadyH.cons (o := ⟨some 48, _, _, _, _, _⟩) rfl (fun K hK => ?_) AllReadyH.nil
          go_simp
          refine hK.out _ _ hsC (fun hHeld => ?_)
          clear hK K b0 b1 b2 b3 b4
          refine wpAnyH_ready (rs := [7]) (by kernel_rfl) (by simp) ?_
          refine AllReadyH.cons (o := ⟨some 51, _, _, _, _, _⟩) rfl (fun K hK => ?_) AllReadyH.nil
          go_simp
          refine (HEL _ _ hvC).mono ?_
          rintro e wE ⟨rfl, tE⟩
          have T5 : Hid (Touch (fun _ => False) w wE) := (HB0.out.trans (TW.out.trans hsC.t)).trans tE
          refine hK.out _ _ ⟨hsC.t.trans tE⟩ (fun hHeld => ?_)
          have TEE : Hid (Touch (fun _ => False) wC wE) := tE
          clear hK K tE
          refine wpAnyH_take (i := 8) (oi := ⟨some 43, _, _, _, _, _⟩) (v := .tuple #[.int .u32 0, .int .u32 0]) rfl (by kernel_rfl) (by kernel_rfl) (by kernel_rfl) (fun _ _ _ h => h) (Or.inl ⟨by rfl, fun w hw => by go_simp⟩) (by assumption) ?_
          simp only [Act.put, List.setIfInBounds_toArray, List.set_cons_zero, List.set_cons_succ]
          refine wpAnyH_take (i := 9) (oi := ⟨some 52, _, _, _, _, _⟩) (v := .int .u32 0) rfl (by kernel_rfl) (by kernel_rfl) (by kernel_rfl) (fun _ _ _ h => h) (Or.inl ⟨by rfl, fun w hw => by go_simp⟩) (by assumption) ?_
          simp only [Act.put, List.setIfInBounds_toArray, List.set_cons_zero, List.set_cons_succ]
          refine wpAnyH_take (i := 10) (oi := ⟨some 53, _, _, _, _, _⟩) (v := .int .u32 0) rfl (by kernel_rfl) (by kernel_rfl) (by kernel_rfl) (fun _ _ _ h => h) (Or.inl ⟨by rfl, fun w hw => by go_simp⟩) (by assumption) ?_
          simp only [Act.put, List.setIfInBounds_toArray, List.set_cons_zero, List.set_cons_succ]
          refine wpAnyH_take (i := 11) (oi := ⟨some 7, _, _, _, _, _⟩) (v := .int .u32 0) rfl (by kernel_rfl) (by kernel_rfl) (by kernel_rfl) (fun _ _ _ h => h) (Or.inl ⟨by rfl, fun w hw => by go_simp⟩) (by assumption) ?_
          simp only [Act.put, List.setIfInBounds_toArray, List.set_cons_zero, List.set_cons_succ]
          refine wpAnyH_take (i := 12) (oi := ⟨some 8, _, _, _, _, _⟩) (v := .int .u32 0) rfl (by kernel_rfl) (by kernel_rfl) (by kernel_rfl) (fun _ _ _ h => h) (Or.inl ⟨by rfl, fun w hw => by go_simp⟩) (by assumption) ?_
          simp only [Act.put, List.setIfInBounds_toArray, List.set_cons_zero, List.set_cons_succ]
          refine wpAnyH_done (by kernel_rfl) ?_ _
          go_wp2_with fail
          refine (works_any _).mono ?_
          rintro e wz ⟨rfl, tz⟩
          have T9 : Hid (Touch (fun _ => False) w wz) := T5.out.trans tz
          clear tz
          go_wp2_with fail
          go_ret
          exact ⟨rfl, T9.out⟩
      · have hd := hp1 rfl
        have hd' : (D == 0) = false := by simpa using hd
        clear hp1 hp2
        generalize w.alloc (.cells #[.int .u32 s.r, .int .u32 s.ad, .int .u8 s.p, .int .u32 s.dr, .int .u32 s.bd] 33) = W at *
        obtain ⟨a0, a1, a2, a3, a4⟩ := (HBX.out W TW.out).open0
        have c0 := snT_cell a0
        have c1 := snT_cell a1
        have c2 := snT_cell a2
        have c3 := snT_cell a3
        have c4 := snT_cell a4
        clear a0 a1 a2 a3 a4
        go_upto_region 10 with fail
        refine wp_region_held_drew (S := fun w' => SnT W w') (by kernel_rfl) ⟨(Touch.refl _ _).drew⟩ (fun hHeld => ?_)
        refine wpAnyH_take (i := 0) (oi := ⟨some 44, _, _, _, _, _⟩) (v := .agg #[.int .u32 s.r, .int .u32 s.ad, .int .u8 s.p, .int .u32 s.dr, .int .u32 s.bd]) rfl (by kernel_rfl) (by kernel_rfl) (by kernel_rfl) (fun _ _ _ h => h) (Or.inl ⟨by rfl, fun w hw => by go_simp⟩) (by assumption) ?_
        simp only [Act.put, List.setIfInBounds_toArray, List.set_cons_zero, List.set_cons_succ]
        refine wpAnyH_take (i := 5) (oi := ⟨some 49, _, _, _, _, _⟩) (v := .slice va l.length vc) rfl (by kernel_rfl) (by kernel_rfl) (by kernel_rfl) (fun _ _ _ h => h) (Or.inl ⟨by rfl, fun w hw => by go_simp⟩) (by assumption) ?_
        simp only [Act.put, List.setIfInBounds_toArray, List.set_cons_zero, List.set_cons_succ]
        refine wpAnyH_ready (rs := [1]) (by kernel_rfl) (by simp) ?_
        refine AllReadyH.cons (o := ⟨some 45, _, _, _, _, _⟩) rfl (fun K hK => ?_) AllReadyH.nil
        go_simp
        have hv1 : VcsAt (W.alloc (.cells #[.int .u32 s.r, .int .u32 s.ad, .int .u8 s.p, .int .u32 s.dr, .int .u32 s.bd] 33)).drew (.slice (some ⟨W.heap.size, 0, none⟩) 1 1) [s] := (HL.out W).keep ((Touch.refl _ _).drew)
        have hs1 : SnT W (W.alloc (.cells #[.int .u32 s.r, .int .u32 s.ad, .int .u8 s.p, .int .u32 s.dr, .int .u32 s.bd] 33)).drew := ⟨((Touch.refl _ _).alloc _).drew⟩
        refine hK.out _ _ hs1 (fun hHeld => ?_)
        clear hK K
        generalize (W.alloc (.cells #[.int .u32 s.r, .int .u32 s.ad, .int .u8 s.p, .int .u32 s.dr, .int .u32 s.bd] 33)).drew = wA at hv1 hs1 hHeld ⊢
        generalize W.heap.size = gA at hv1 ⊢
        refine wpAnyH_ready (rs := [2]) (by kernel_rfl) (by simp) ?_
        refine AllReadyH.cons (o := ⟨some 46, _, _, _, _, _⟩) rfl (fun K hK => ?_) AllReadyH.nil
        go_simp
        refine Calls.mono (HC1 _ _ hv1) ?_
        rintro e wB ⟨uB, rfl, vrB⟩
        obtain ⟨gB, cB, rfl, -, -⟩ := VR.slot vrB (by simp)
        have hsB : SnT W wB := ⟨hs1.t.trans vrB.t⟩
        have HVB : Hid (∀ w', Touch (fun _ => False) wB w' → VcsAt w' (.slice (some ⟨gB, 0, none⟩) [s].length cB) [s]) := fun w' t => VR.at (VBuf.keep vrB t) (by simpa using HSK.out)
        refine hK.out _ _ hsB (fun hHeld => ?_)
        clear hK K hv1 vrB
        refine wpAnyH_take (i := 3) (oi := ⟨some 47, _, _, _, _, _⟩) (v := .pointer (some ⟨gB, 0, none⟩)) rfl (by kernel_rfl) (by kernel_rfl) (by kernel_rfl) (fun _ _ _ h => h) (Or.inl ⟨by rfl, fun w hw => by go_simp <;> first | omega | (intro hh; omega)⟩) (by assumption) ?_
        simp only [Act.put, List.setIfInBounds_toArray, List.set_cons_zero, List.set_cons_succ]
        refine wpAnyH_ready (rs := [4, 6]) (by kernel_rfl) (by simp) ?_
        refine AllReadyH.cons (o := ⟨some 48, _, _, _, _, _⟩) rfl (fun K hK => ?_) (AllReadyH.cons (o := ⟨some 50, _, _, _, _, _⟩) rfl (fun K hK => ?_) AllReadyH.nil)
        · obtain ⟨b0, b1, b2, b3, b4⟩ := one_cells (HVB.out wB (Touch.refl _ _))
          go_simp
          refine hK.out _ _ hsB (fun hHeld => ?_)
          clear hK K b0 b1 b2 b3 b4
          refine wpAnyH_ready (rs := [6]) (by kernel_rfl) (by simp) ?_
          refine AllReadyH.cons (o := ⟨some 50, _, _, _, _, _⟩) rfl (fun K hK => ?_) AllReadyH.nil
          go_simp
          refine Calls.mono (HCP _ (HB0.out.trans (TW.out.trans hsB.t))) ?_
          rintro e wC ⟨uC, rfl, vrC⟩
          have hsC : SnT W wC := ⟨hsB.t.trans vrC.t⟩
          have hvC : VcsAt wC uC l := VR.at vrC HOK.out
          refine hK.out _ _ hsC (fun hHeld => ?_)
          clear hK K vrC
          refine wpAnyH_ready (rs := [7]) (by kernel_rfl) (by simp) ?_
          refine AllReadyH.cons (o := ⟨some 51, _, _, _, _, _⟩) rfl (fun K hK => ?_) AllReadyH.nil
          go_simp
          refine (HEL _ _ hvC).mono ?_
          rintro e wE ⟨rfl, tE⟩
          have T5 : Hid (Touch (fun _ => False) w wE) := (HB0.out.trans (TW.out.trans hsC.t)).trans tE
          refine hK.out _ _ ⟨hsC.t.trans tE⟩ (fun hHeld => ?_)
          have TEE : Hid (Touch (fun _ => False) wC wE) := tE
          clear hK K tE
          refine wpAnyH_take (i := 8) (oi := ⟨some 43, _, _, _, _, _⟩) (v := .tuple #[.int .u32 D, .int .u32 B]) rfl (by kernel_rfl) (by kernel_rfl) (by kernel_rfl) (fun _ _ _ h => h) (Or.inl ⟨by rfl, fun w hw => by go_simp⟩) (by assumption) ?_
          simp only [Act.put, List.setIfInBounds_toArray, List.set_cons_zero, List.set_cons_succ]
          refine wpAnyH_take (i := 9) (oi := ⟨some 52, _, _, _, _, _⟩) (v := .int .u32 D) rfl (by kernel_rfl) (by kernel_rfl) (by kernel_rfl) (fun _ _ _ h => h) (Or.inl ⟨by rfl, fun w hw => by go_simp⟩) (by assumption) ?_
          simp only [Act.put, List.setIfInBounds_toArray, List.set_cons_zero, List.set_cons_succ]
          refine wpAnyH_take (i := 10) (oi := ⟨some 53, _, _, _, _, _⟩) (v := .int .u32 B) rfl (by kernel_rfl) (by kernel_rfl) (by kernel_rfl) (fun _ _ _ h => h) (Or.inl ⟨by rfl, fun w hw => by go_simp⟩) (by assumption) ?_
          simp only [Act.put, List.setIfInBounds_toArray, List.set_cons_zero, List.set_cons_succ]
          refine wpAnyH_take (i := 11) (oi := ⟨some 7, _, _, _, _, _⟩) (v := .int .u32 D) rfl (by kernel_rfl) (by kernel_rfl) (by kernel_rfl) (fun _ _ _ h => h) (Or.inl ⟨by rfl, fun w hw => by go_simp⟩) (by assumption) ?_
          simp only [Act.put, List.setIfInBounds_toArray, List.set_cons_zero, List.set_cons_succ]
          refine wpAnyH_take (i := 12) (oi := ⟨some 8, _, _, _, _, _⟩) (v := .int .u32 B) rfl (by kernel_rfl) (by kernel_rfl) (by kernel_rfl) (fun _ _ _ h => h) (Or.inl ⟨by rfl, fun w hw => by go_simp⟩) (by assumption) ?_
          simp only [Act.put, List.setIfInBounds_toArray, List.set_cons_zero, List.set_cons_succ]
          refine wpAnyH_done (by kernel_rfl) ?_ _
          go_wp2_with fail
          refine (works_any _).mono ?_
          rintro e wz ⟨rfl, tz⟩
          have T9 : Hid (Touch (fun _ => False) w wz) := T5.out.trans tz
          clear tz
          go_wp2_with fail
          go_ret
          exact ⟨ret_bool (bne_iff_ne.2 hd), T9.out⟩
        · go_simp
          refine Calls.mono (HCP _ (HB0.out.trans (TW.out.trans hsB.t))) ?_
          rintro e wC ⟨uC, rfl, vrC⟩
          have hsC : SnT W wC := ⟨hsB.t.trans vrC.t⟩
          have hvC : VcsAt wC uC l := VR.at vrC HOK.out
          have tBC := vrC.t
          refine hK.out _ _ hsC (fun hHeld => ?_)
          clear hK K vrC
          obtain ⟨b0, b1, b2, b3, b4⟩ := one_cells (HVB.out wC tBC)
          clear tBC
          refine wpAnyH_ready (rs := [4]) (by kernel_rfl) (by simp) ?_
          refine AllReadyH.cons (o := ⟨some 48, _, _, _, _, _⟩) rfl (fun K hK => ?_) AllReadyH.nil
          go_simp
          refine hK.out _ _ hsC (fun hHeld => ?_)
          clear hK K b0 b1 b2 b3 b4
          refine wpAnyH_ready (rs := [7]) (by kernel_rfl) (by simp) ?_
          refine AllReadyH.cons (o := ⟨some 51, _, _, _, _, _⟩) rfl (fun K hK => ?_) AllReadyH.nil
          go_simp
          refine (HEL _ _ hvC).mono ?_
          rintro e wE ⟨rfl, tE⟩
          have T5 : Hid (Touch (fun _ => False) w wE) := (HB0.out.trans (TW.out.trans hsC.t)).trans tE
          refine hK.out _ _ ⟨hsC.t.trans tE⟩ (fun hHeld => ?_)
          have TEE : Hid (Touch (fun _ => False) wC wE) := tE
          clear hK K tE
          refine wpAnyH_take (i := 8) (oi := ⟨some 43, _, _, _, _, _⟩) (v := .tuple #[.int .u32 D, .int .u32 B]) rfl (by kernel_rfl) (by kernel_rfl) (by kernel_rfl) (fun _ _ _ h => h) (Or.inl ⟨by rfl, fun w hw => by go_simp⟩) (by assumption) ?_
          simp only [Act.put, List.setIfInBounds_toArray, List.set_cons_zero, List.set_cons_succ]
          refine wpAnyH_take (i := 9) (oi := ⟨some 52, _, _, _, _, _⟩) (v := .int .u32 D) rfl (by kernel_rfl) (by kernel_rfl) (by kernel_rfl) (fun _ _ _ h => h) (Or.inl ⟨by rfl, fun w hw => by go_simp⟩) (by assumption) ?_
          simp only [Act.put, List.setIfInBounds_toArray, List.set_cons_zero, List.set_cons_succ]
          refine wpAnyH_take (i := 10) (oi := ⟨some 53, _, _, _, _, _⟩) (v := .int .u32 B) rfl (by kernel_rfl) (by kernel_rfl) (by kernel_rfl) (fun _ _ _ h => h) (Or.inl ⟨by rfl, fun w hw => by go_simp⟩) (by assumption) ?_
          simp only [Act.put, List.setIfInBounds_toArray, List.set_cons_zero, List.set_cons_succ]
          refine wpAnyH_take (i := 11) (oi := ⟨some 7, _, _, _, _, _⟩) (v := .int .u32 D) rfl (by kernel_rfl) (by kernel_rfl) (by kernel_rfl) (fun _ _ _ h => h) (Or.inl ⟨by rfl, fun w hw => by go_simp⟩) (by assumption) ?_
          simp only [Act.put, List.setIfInBounds_toArray, List.set_cons_zero, List.set_cons_succ]
          refine wpAnyH_take (i := 12) (oi := ⟨some 8, _, _, _, _, _⟩) (v := .int .u32 B) rfl (by kernel_rfl) (by kernel_rfl) (by kernel_rfl) (fun _ _ _ h => h) (Or.inl ⟨by rfl, fun w hw => by go_simp⟩) (by assumption) ?_
          simp only [Act.put, List.setIfInBounds_toArray, List.set_cons_zero, List.set_cons_succ]
          refine wpAnyH_done (by kernel_rfl) ?_ _
          go_wp2_with fail
          refine (works_any _).mono ?_
          rintro e wz ⟨rfl, tz⟩
          have T9 : Hid (Touch (fun _ => False) w wz) := T5.out.trans tz
          clear tz
          go_wp2_with fail
          go_ret
          exact ⟨ret_bool (bne_iff_ne.2 hd), T9.out⟩
end Go.Proofs.Ytcmkhhdjhemmbaa
