/- Package packet's reader: head. -/
import Derived.Test.YtbfplepmgbkajaaGreatDoorPkRows
import Derived.Test.YtbfplepmgbkajaaGreatDoorRowB
import Derived.Deep.RegionHeld3
import Derived.Deep.DeepCutAuto
namespace Go.Proofs.YtbfplepmgbkajaaGreatDoor
open Go.RowKit
set_option linter.unusedVariables false
set_option maxRecDepth 100000

theorem take8 (rs : List Int) (h : 24 ≤ rs.length) : (rs.drop 16).take 8 = [rs.getD 16 0, rs.getD 17 0, rs.getD 18 0, rs.getD 19 0, rs.getD 20 0, rs.getD 21 0, rs.getD 22 0, rs.getD 23 0] := by
 apply List.ext_getElem?
 intro i
 by_cases hi : i < 8
 ·rw [List.getElem?_take, if_pos hi, List.getElem?_drop, List.getElem?_eq_getElem (by omega)]
  obtain rfl | rfl | rfl | rfl | rfl | rfl | rfl | rfl : i = 0 ∨ i = 1 ∨ i = 2 ∨ i = 3 ∨ i = 4 ∨ i = 5 ∨ i = 6 ∨ i = 7 := by omega
  all_goals simp [List.getD]
  all_goals (rw [List.getElem?_eq_getElem (by omega)]; rfl)
 ·rw [List.getElem?_eq_none (by simp; omega), List.getElem?_eq_none (by simp; omega)]
attribute [local go_sem ↓] Go.wp_at_zero Go.wp_at_succ
set_option maxHeartbeats 4000000 in
theorem prhd (N b : Nat) (rs : List Int) (w : World) (h : Rdr N w b rs (some 0)) (hN : N ≤ w.heap.size) (h24 : 24 ≤ rs.length) (hc : rs.length ≤ 1000000) :
  Calls Tryz.prog 111 #[.agg #[.pointer (some ⟨b, 0, none⟩)]] w fun e w' => e = .returned (.tuple #[(pv0 rs).v (.slice none 0 0) (.slice none 0 0) (.slice none 0 0) (.slice none 0 0) (.slice none 0 0), (au0 rs).v]) ∧ Rdr N w' b rs (some 24) ∧ Touch (fun k => k = b) w w' := by
 have hb := h.lt
 have hb0 := h.low
 obtain ⟨w0, hw0⟩ : ∃ w0, w0 = ((w.alloc (.cells #[.pointer (some ⟨b, 0, none⟩)] 189)).alloc (.cells #[.int .u8 0, .int .u32 0, .int .u32 0, .int .u32 0, .int .u16 0, .int .u8 0, .int .u8 0, .int .u32 0, .int .u32 0, .int .u32 0, .slice none 0 0, .int .u16 0, .int .u8 0, .int .u8 0, .int .u32 0, .slice none 0 0, .slice none 0 0, .slice none 0 0, .slice none 0 0] 33)).alloc (.cells #[.int .u16 0, .int .u8 0, .int .u8 0, .int .u8 0, .int .u8 0, .int .u8 0, .int .u8 0, .int .u8 0, .int .u8 0] 44) := ⟨_, rfl⟩
 have ta : Touch (fun _ => False) w w0 := by rw [hw0]; exact (((Touch.refl _ w).alloc _).alloc _).alloc _
 have za : w0.heap.size = w.heap.size + 3 := by rw [hw0]; simp
 have c0 : w0.cell? ⟨w.heap.size, 0, none⟩ = some (.pointer (some ⟨b, 0, none⟩)) := by rw [hw0]; simp [go_sem]
 have A0 : Row w0 (w.heap.size + 1) 33 [.int .u8 0, .int .u32 0, .int .u32 0, .int .u32 0, .int .u16 0, .int .u8 0, .int .u8 0, .int .u32 0, .int .u32 0, .int .u32 0, .slice none 0 0, .int .u16 0, .int .u8 0, .int .u8 0, .int .u32 0, .slice none 0 0, .slice none 0 0, .slice none 0 0, .slice none 0 0] := by
  have := (row_new (w.alloc (.cells #[.pointer (some ⟨b, 0, none⟩)] 189)) 33 #[.int .u8 0, .int .u32 0, .int .u32 0, .int .u32 0, .int .u16 0, .int .u8 0, .int .u8 0, .int .u32 0, .int .u32 0, .int .u32 0, .slice none 0 0, .int .u16 0, .int .u8 0, .int .u8 0, .int .u32 0, .slice none 0 0, .slice none 0 0, .slice none 0 0, .slice none 0 0]).keep ((Touch.refl _ _).alloc (.cells #[.int .u16 0, .int .u8 0, .int .u8 0, .int .u8 0, .int .u8 0, .int .u8 0, .int .u8 0, .int .u8 0, .int .u8 0] 44))
  rw [← hw0] at this
  simpa using this
 have B0 : Row w0 (w.heap.size + 1 + 1) 44 [.int .u16 0, .int .u8 0, .int .u8 0, .int .u8 0, .int .u8 0, .int .u8 0, .int .u8 0, .int .u8 0, .int .u8 0] := by
  have := row_new ((w.alloc (.cells #[.pointer (some ⟨b, 0, none⟩)] 189)).alloc (.cells #[.int .u8 0, .int .u32 0, .int .u32 0, .int .u32 0, .int .u16 0, .int .u8 0, .int .u8 0, .int .u32 0, .int .u32 0, .int .u32 0, .slice none 0 0, .int .u16 0, .int .u8 0, .int .u8 0, .int .u32 0, .slice none 0 0, .slice none 0 0, .slice none 0 0, .slice none 0 0] 33)) 44 #[.int .u16 0, .int .u8 0, .int .u8 0, .int .u8 0, .int .u8 0, .int .u8 0, .int .u8 0, .int .u8 0, .int .u8 0]
  rw [← hw0] at this
  simpa using this
 have T0 : Hid (Touch (fun k => k = b) w w0) := ta.mono (fun _ _ f => f.elim)
 have r0 := h.keep ta
 have HBy : Hid (∀ z ∈ rs, 0 ≤ z ∧ z < 256) := h.byte
 have ng1 : ¬ w.heap.size = b := by omega
 have ng2 : ¬ w.heap.size + 1 = b := by omega
 have ng3 : ¬ w.heap.size + 1 + 1 = b := by omega
 have ng12 : ¬ w.heap.size = w.heap.size + 1 := by omega
 have ng13 : ¬ w.heap.size = w.heap.size + 1 + 1 := by omega
 have ng23 : ¬ w.heap.size + 1 = w.heap.size + 1 + 1 := by omega
 have ng32 : ¬ w.heap.size + 1 + 1 = w.heap.size + 1 := by omega
 have nr2 : ∀ k, k < N → ¬ k = w.heap.size + 1 := fun k hk e => by omega
 have nr3 : ∀ k, k < N → ¬ k = w.heap.size + 1 + 1 := fun k hk e => by omega
 clear ta za h hb hb0 hN
 go_enter Tryz.func111, Tryz.ntmps111
 go_upto_region 1 with fail
 rw [← hw0]
 clear hw0
 generalize hg3 : w.heap.size + 1 + 1 = g3 at *
 generalize hg2 : w.heap.size + 1 = g2 at *
 generalize hg1 : w.heap.size = g1 at *
 have HZ : Hid (w.heap.size = g1 ∧ g1 + 1 = g2 ∧ g2 + 1 = g3) := ⟨hg1, hg2, hg3⟩
 clear hg1 hg2 hg3
 go_wp2_with fail
 refine Calls.mono (prsmall N b _ rs _ r0) ?_
 intro e w1 h1
 rcases h1.out with ⟨rfl, l1, r1, t1⟩ | ⟨rfl, l1, t1⟩
 rotate_left
 ·exact absurd l1 (by omega)
 have c1 := (t1.cell (lt_of_cellA c0) ng1).trans c0
 have A1 := A0.touch t1 ng2
 have B1 := B0.touch t1 ng3
 have T1 : Hid (Touch (fun k => k = b) w w1) := T0.out.trans t1
 clear h1 l1 t1 c0 A0 B0 T0 r0
 go_wp2_with fail
 refine Calls.mono (prsmall N b _ rs _ r1) ?_
 intro e w2 h2
 rcases h2.out with ⟨rfl, l2, r2, t2⟩ | ⟨rfl, l2, t2⟩
 rotate_left
 ·exact absurd l2 (by omega)
 have c2 := (t2.cell (lt_of_cellA c1) ng1).trans c1
 have A2 := A1.touch t2 ng2
 have B2 := B1.touch t2 ng3
 have T2 : Hid (Touch (fun k => k = b) w w2) := T1.out.trans t2
 clear h2 l2 t2 c1 A1 B1 T1 r1
 have zc : w2.cell? ⟨g2, 0, none⟩ = some (.int .u8 0) := A2.cell 0
 have zf : w2.frozen? ⟨g2, 0, none⟩ = false := A2.frozen 0
 obtain ⟨w3, hw3⟩ : ∃ x, x = w2.setCell ⟨g2, 0, none⟩ (.int .u8 (nAt rs 1 1)) := ⟨_, rfl⟩
 have u3 : Touch (fun k => k = g2) w2 w3 := by rw [hw3]; exact Touch.setCell (F := fun k => k = g2) (p := ⟨g2, 0, none⟩) (Touch.refl _ _) (Or.inl rfl) _
 have A3 : Row w3 g2 33 [.int .u8 (nAt rs 1 1), .int .u32 0, .int .u32 0, .int .u32 0, .int .u16 0, .int .u8 0, .int .u8 0, .int .u32 0, .int .u32 0, .int .u32 0, .slice none 0 0, .int .u16 0, .int .u8 0, .int .u8 0, .int .u32 0, .slice none 0 0, .slice none 0 0, .slice none 0 0, .slice none 0 0] := by rw [hw3]; exact A2.set 0 _
 have B3 := B2.touch u3 ng32
 have c3 := (u3.cell (lt_of_cellA c2) ng12).trans c2
 have r3 := r2.touch u3 nr2
 have T3 : Hid (Touch (fun k => k = b) w w3) := T2.out.trans' u3 (fun i hi e => by have := HZ.out; omega)
 clear u3 c2 A2 B2 T2 r2
 go_upto_region 3 with fail
 rw [← hw3]
 clear hw3 zc zf
 go_wp2_with fail
 refine Calls.mono (prshort N b _ rs _ r3) ?_
 intro e w4 h4
 rcases h4.out with ⟨rfl, l4, r4, t4⟩ | ⟨rfl, l4, t4⟩
 rotate_left
 ·exact absurd l4 (by omega)
 have c4 := (t4.cell (lt_of_cellA c3) ng1).trans c3
 have A4 := A3.touch t4 ng2
 have B4 := B3.touch t4 ng3
 have T4 : Hid (Touch (fun k => k = b) w w4) := T3.out.trans t4
 clear h4 l4 t4 c3 A3 B3 T3 r3
 obtain ⟨Fb, hFb⟩ : ∃ Fb : Nat → Prop, Fb = fun k => k = b ∨ k = g2 := ⟨_, rfl⟩
 have fb : ∀ k, k = b → Fb k := by subst hFb; exact fun k hk => Or.inl hk
 have fg : Fb g2 := by subst hFb; exact Or.inr rfl
 have fn : ¬ Fb g1 := by subst hFb; exact fun e => by rcases e with e | e; exact ng1 e; exact ng12 e
 have q0 := onl_cell c4 fn
 have st : Onl Fb w4 w4.drew := ⟨(Touch.refl _ _).drew⟩
 have rd : Rdr N w4.drew b rs (some (0 + 1 + 1 + 2)) := r4.keep ((Touch.refl _ _).drew)
 have u0 : Onl (fun k => k = b) w4 w4.drew := ⟨(Touch.refl _ _).drew⟩
 clear hFb fn r4 c4
 go_upto_region 4 with fail
 go_region_held3 (fun w' => Onl Fb w4 w') (first | with_reducible assumption | with_reducible exact Onl.set v3 fg _ _ | with_reducible exact Onl.set (Onl.set v3 fg _ _) fg _ _) (first
  | (go_at_call 140; refine Calls.mono (prnum4 N b _ rs _ (by with_reducible assumption)) ?_; intro e wx hx; rcases hx.out with ⟨rfl, lx, rx, tx⟩ | ⟨rfl, lx, tx⟩; rotate_left; exact absurd lx (by omega); have v3 : Onl Fb w4 wx := Onl.step (by with_reducible assumption) tx fb; have ux : Onl (fun k => k = b) w4 wx := Onl.step (by with_reducible assumption) tx (fun _ h => h); have zc1 : wx.cell? ⟨g2, 1, none⟩ = some (.int .u32 0) := (A4.touch ux.t ng2).cell 1; have zf1 : wx.frozen? ⟨g2, 1, none⟩ = false := (A4.touch ux.t ng2).frozen 1; have zc2 : wx.cell? ⟨g2, 2, none⟩ = some (.int .u32 0) := (A4.touch ux.t ng2).cell 2; have zf2 : wx.frozen? ⟨g2, 2, none⟩ = false := (A4.touch ux.t ng2).frozen 2; clear hx))
 obtain ⟨w5, hw5⟩ : ∃ x, x = (wx.setCell ⟨g2, 1, none⟩ (.int .u32 (nAt rs 4 4))).setCell ⟨g2, 2, none⟩ (.int .u32 (nAt rs 8 4)) := ⟨_, rfl⟩
 have uu : Touch (fun k => k = g2) wx w5 := by rw [hw5]; exact Touch.setCell (F := fun k => k = g2) (p := ⟨g2, 2, none⟩) (Touch.setCell (F := fun k => k = g2) (p := ⟨g2, 1, none⟩) (Touch.refl _ _) (Or.inl rfl) _) (Or.inl rfl) _
 have A5 : Row w5 g2 33 [.int .u8 (nAt rs 1 1), .int .u32 (nAt rs 4 4), .int .u32 (nAt rs 8 4), .int .u32 0, .int .u16 0, .int .u8 0, .int .u8 0, .int .u32 0, .int .u32 0, .int .u32 0, .slice none 0 0, .int .u16 0, .int .u8 0, .int .u8 0, .int .u32 0, .slice none 0 0, .slice none 0 0, .slice none 0 0, .slice none 0 0] := by rw [hw5]; exact ((A4.touch ux.t ng2).set 1 _).set 2 _
 have B5 := (B4.touch ux.t ng3).touch uu ng32
 have c5 := (uu.cell (lt_of_cellA (q0 wx v3)) ng12).trans (q0 wx v3)
 have r5 : Rdr N w5 b rs (some 12) := rx.touch uu nr2
 have T5 : Hid (Touch (fun k => k = b) w w5) := (T4.out.trans ux.t).trans' uu (fun i hi e => by have := HZ.out; omega)
 rw [← hw5]
 clear hw5 uu A4 B4 T4 v3 ux q0 zc1 zf1 zc2 zf2 fb fg
 clear st rd u0
 go_upto_region 5 with fail
 go_wp2_with fail
 refine Calls.mono (prshort N b _ rs _ r5) ?_
 intro e w6 h6
 rcases h6.out with ⟨rfl, l6, r6, t6⟩ | ⟨rfl, l6, t6⟩
 rotate_left
 ·exact absurd l6 (by omega)
 have c6 := (t6.cell (lt_of_cellA c5) ng1).trans c5
 have A6 := A5.touch t6 ng2
 have B6 := B5.touch t6 ng3
 have T6 : Hid (Touch (fun k => k = b) w w6) := T5.out.trans t6
 clear h6 l6 t6 c5 A5 B5 T5 r5
 go_wp2_with fail
 refine Calls.mono (prshort N b _ rs _ r6) ?_
 intro e w7 h7
 rcases h7.out with ⟨rfl, l7, r7, t7⟩ | ⟨rfl, l7, t7⟩
 rotate_left
 ·exact absurd l7 (by omega)
 have c7 := (t7.cell (lt_of_cellA c6) ng1).trans c6
 have A7 := A6.touch t7 ng2
 have B7 := B6.touch t7 ng3
 have T7 : Hid (Touch (fun k => k = b) w w7) := T6.out.trans t7
 clear h7 l7 t7 c6 A6 B6 T6 r6
 have zc : w7.cell? ⟨g3, 0, none⟩ = some (.int .u16 0) := B7.cell 0
 have zf : w7.frozen? ⟨g3, 0, none⟩ = false := B7.frozen 0
 obtain ⟨w8, hw8⟩ : ∃ x, x = w7.setCell ⟨g3, 0, none⟩ (.int .u16 (nAt rs 14 2)) := ⟨_, rfl⟩
 have u8 : Touch (fun k => k = g3) w7 w8 := by rw [hw8]; exact Touch.setCell (F := fun k => k = g3) (p := ⟨g3, 0, none⟩) (Touch.refl _ _) (Or.inl rfl) _
 have B8 : Row w8 g3 44 [.int .u16 (nAt rs 14 2), .int .u8 0, .int .u8 0, .int .u8 0, .int .u8 0, .int .u8 0, .int .u8 0, .int .u8 0, .int .u8 0] := by rw [hw8]; exact B7.set 0 _
 have A8 := A7.touch u8 ng23
 have c8 := (u8.cell (lt_of_cellA c7) ng13).trans c7
 have r8 := r7.touch u8 nr3
 have T8 : Hid (Touch (fun k => k = b) w w8) := T7.out.trans' u8 (fun i hi e => by have := HZ.out; omega)
 clear u8 c7 A7 B7 T7 r7
 go_upto_region 7 with fail
 rw [← hw8]
 clear hw8 zc zf
 have HB8 : Hid ((rs.drop 16).take 8 = [rs.getD 16 0, rs.getD 17 0, rs.getD 18 0, rs.getD 19 0, rs.getD 20 0, rs.getD 21 0, rs.getD 22 0, rs.getD 23 0]) := take8 rs h24
 have r16 : Rdr N w8.drew b rs (some 16) := r8.keep ((Touch.refl _ _).drew)
 have B16 : Row w8.drew g3 44 [.int .u16 (nAt rs 14 2), .int .u8 0, .int .u8 0, .int .u8 0, .int .u8 0, .int .u8 0, .int .u8 0, .int .u8 0, .int .u8 0] := B8.keep ((Touch.refl _ _).drew)
 have A16 := A8.keep ((Touch.refl _ _).drew)
 refine wp_region_held_drew (S := fun w' => w'.cell? ⟨g1, 0, none⟩ = some (.pointer (some ⟨b, 0, none⟩))) (by kernel_rfl) c8 (fun hHeld => ?_)
 refine wpAnyH_take (i := 0) (oi := ⟨some 22, _, _, _, _, _⟩) (v := .pointer (some ⟨g3, 1, none⟩)) rfl (by kernel_rfl) (by kernel_rfl) (by kernel_rfl) (fun _ _ _ h => h) (Or.inl ⟨by rfl, fun w hw => by go_simp⟩) (by assumption) ?_
 simp only [Act.put, List.setIfInBounds_toArray, List.set_cons_zero, List.set_cons_succ]
 refine wpAnyH_take (i := 1) (oi := ⟨some 23, _, _, _, _, _⟩) (v := .slice (some ⟨g3, 1, none⟩) 8 8) rfl (by kernel_rfl) (by kernel_rfl) (by kernel_rfl) (fun _ _ _ h => h) (Or.inl ⟨by rfl, fun w hw => by go_simp⟩) (by assumption) ?_
 simp only [Act.put, List.setIfInBounds_toArray, List.set_cons_zero, List.set_cons_succ]
 refine wpAnyH_take (i := 2) (oi := ⟨some 24, _, _, _, _, _⟩) (v := .pointer (some ⟨g1, 0, none⟩)) rfl (by kernel_rfl) (by kernel_rfl) (by kernel_rfl) (fun _ _ _ h => h) (Or.inl ⟨by rfl, fun w hw => by go_simp⟩) (by assumption) ?_
 simp only [Act.put, List.setIfInBounds_toArray, List.set_cons_zero, List.set_cons_succ]
 refine wpAnyH_take (i := 3) (oi := ⟨some 25, _, _, _, _, _⟩) (v := .pointer (some ⟨b, 0, none⟩)) rfl (by kernel_rfl) (by kernel_rfl) (by kernel_rfl) (fun _ _ _ h => h) (Or.inl ⟨by rfl, fun w hw => by go_simp⟩) (by assumption) ?_
 simp only [Act.put, List.setIfInBounds_toArray, List.set_cons_zero, List.set_cons_succ]
 refine wpAnyH_ready (rs := [4]) (by kernel_rfl) (by simp) ?_
 refine AllReadyH.cons rfl (fun K hK => ?_) AllReadyH.nil
 go_simp
 refine Calls.mono (pbytes_n 8 N b 16 rs _ r16 (by omega) hc) ?_
 rintro e wy ⟨vy, rfl, oy, ry, ty⟩
 have cy := (ty.cell (lt_of_cellA hHeld) ng1).trans hHeld
 have By := B16.touch ty ng3
 have Ay := A16.touch ty ng2
 have ay := (own_rowAt oy).arg
 rw [HB8.out] at ay
 have Ty : Hid (Touch (fun k => k = b) w wy) := T8.out.trans ((Touch.refl _ _).drew.trans ty)
 have Ry : Hid (Rdr N wy b rs (some 24)) := ry
 clear oy ry
 rcases ay with ⟨_, h0⟩ | ⟨ad, cp, ev, -, -, hsrc⟩
 ·simp at h0
 subst ev
 have HSR : Hid (∀ j v, (bytesOf [rs.getD 16 0, rs.getD 17 0, rs.getD 18 0, rs.getD 19 0, rs.getD 20 0, rs.getD 21 0, rs.getD 22 0, rs.getD 23 0])[j]? = some v → wy.cell? (ad.add j) = some v) := hsrc
 clear hsrc
 refine hK.out _ _ cy (fun hHeld => ?_)
 clear hK K
 refine wpAnyH_ready (rs := [5]) (by kernel_rfl) (by simp) ?_
 refine AllReadyH.cons (o := ⟨some 27, _, _, _, _, _⟩) rfl (fun K hK => ?_) AllReadyH.nil
 refine step_copy_exact (by rfl) (.tmp 23) (.tmp 26) 40 40 (by rfl) 5 Tryz.underlying40 (by kernel_rfl) ad 8 8 8 cp g3 1 (by rfl) (by rfl) [.int .u16 (nAt rs 14 2), .int .u8 0, .int .u8 0, .int .u8 0, .int .u8 0, .int .u8 0, .int .u8 0, .int .u8 0, .int .u8 0] 44 By (bytesOf [rs.getD 16 0, rs.getD 17 0, rs.getD 18 0, rs.getD 19 0, rs.getD 20 0, rs.getD 21 0, rs.getD 22 0, rs.getD 23 0]) (by simp [bytesOf]) HSR.out (by simp [bytesOf]) (oneCell_bytesOf _) ?_
 simp only [Act.put, List.setIfInBounds_toArray, List.set_cons_zero, List.set_cons_succ]
 obtain ⟨w9, hw9⟩ : ∃ x, x = wy.setRow g3 (splice [.int .u16 (nAt rs 14 2), .int .u8 0, .int .u8 0, .int .u8 0, .int .u8 0, .int .u8 0, .int .u8 0, .int .u8 0, .int .u8 0] 1 (bytesOf [rs.getD 16 0, rs.getD 17 0, rs.getD 18 0, rs.getD 19 0, rs.getD 20 0, rs.getD 21 0, rs.getD 22 0, rs.getD 23 0])).toArray := ⟨_, rfl⟩
 have uu : Touch (fun k => k = g3) wy w9 := by rw [hw9]; exact Touch.setRow (F := fun k => k = g3) (Touch.refl _ _) (Or.inl rfl) _
 have B9 : Row w9 g3 44 [.int .u16 (nAt rs 14 2), .int .u8 (rs.getD 16 0), .int .u8 (rs.getD 17 0), .int .u8 (rs.getD 18 0), .int .u8 (rs.getD 19 0), .int .u8 (rs.getD 20 0), .int .u8 (rs.getD 21 0), .int .u8 (rs.getD 22 0), .int .u8 (rs.getD 23 0)] := by rw [hw9]; exact By.setRow _
 have A9 := Ay.touch uu ng23
 have c9 := (uu.cell (lt_of_cellA cy) ng13).trans cy
 have r9 : Hid (Rdr N w9 b rs (some 24)) := Ry.out.touch uu nr3
 have T9 : Hid (Touch (fun k => k = b) w w9) := Ty.out.trans' uu (fun i hi e => by have := HZ.out; omega)
 rw [← hw9]
 refine hK.out _ _ c9 (fun hHeld => ?_)
 clear hK K hw9
 refine wpAnyH_done (by kernel_rfl) ?_ _
 clear uu By Ay A16 B16 r16 Ty Ry ty cy A8 B8 c8 r8 T8 HSR
 go_upto_region 8 with fail
 have Ad_ : Row w9.drew g2 33 [.int .u8 (nAt rs 1 1), .int .u32 (nAt rs 4 4), .int .u32 (nAt rs 8 4), .int .u32 0, .int .u16 0, .int .u8 0, .int .u8 0, .int .u32 0, .int .u32 0, .int .u32 0, .slice none 0 0, .int .u16 0, .int .u8 0, .int .u8 0, .int .u32 0, .slice none 0 0, .slice none 0 0, .slice none 0 0, .slice none 0 0] := A9.keep ((Touch.refl _ _).drew)
 have Bd_ : Row w9.drew g3 44 [.int .u16 (nAt rs 14 2), .int .u8 (rs.getD 16 0), .int .u8 (rs.getD 17 0), .int .u8 (rs.getD 18 0), .int .u8 (rs.getD 19 0), .int .u8 (rs.getD 20 0), .int .u8 (rs.getD 21 0), .int .u8 (rs.getD 22 0), .int .u8 (rs.getD 23 0)] := B9.keep ((Touch.refl _ _).drew)
 refine wp_region_held_drew (S := fun w' => Row w' g2 33 [.int .u8 (nAt rs 1 1), .int .u32 (nAt rs 4 4), .int .u32 (nAt rs 8 4), .int .u32 0, .int .u16 0, .int .u8 0, .int .u8 0, .int .u32 0, .int .u32 0, .int .u32 0, .slice none 0 0, .int .u16 0, .int .u8 0, .int .u8 0, .int .u32 0, .slice none 0 0, .slice none 0 0, .slice none 0 0, .slice none 0 0] ∧ Row w' g3 44 [.int .u16 (nAt rs 14 2), .int .u8 (rs.getD 16 0), .int .u8 (rs.getD 17 0), .int .u8 (rs.getD 18 0), .int .u8 (rs.getD 19 0), .int .u8 (rs.getD 20 0), .int .u8 (rs.getD 21 0), .int .u8 (rs.getD 22 0), .int .u8 (rs.getD 23 0)]) (by kernel_rfl) ⟨Ad_, Bd_⟩ (fun hHeld => ?_)
 refine wpAnyH_take (i := 0) (oi := ⟨some 28, _, _, _, _, _⟩) (v := .agg #[.int .u8 (nAt rs 1 1), .int .u32 (nAt rs 4 4), .int .u32 (nAt rs 8 4), .int .u32 0, .int .u16 0, .int .u8 0, .int .u8 0, .int .u32 0, .int .u32 0, .int .u32 0, .slice none 0 0, .int .u16 0, .int .u8 0, .int .u8 0, .int .u32 0, .slice none 0 0, .slice none 0 0, .slice none 0 0, .slice none 0 0]) rfl (by kernel_rfl) (by kernel_rfl) (by kernel_rfl) (fun _ _ _ h => h) (yieldsIf_load_mid (by rfl) _ _ rfl _ _ rfl [.int .u8 (nAt rs 1 1), .int .u32 (nAt rs 4 4), .int .u32 (nAt rs 8 4), .int .u32 0, .int .u16 0, .int .u8 0, .int .u8 0, .int .u32 0, .int .u32 0, .int .u32 0, .slice none 0 0, .int .u16 0, .int .u8 0, .int .u8 0, .int .u32 0, .slice none 0 0, .slice none 0 0, .slice none 0 0, .slice none 0 0] _ (fun w h => h.1.range) Tryz.underlying33 rfl (by kernel_rfl)) (by assumption) ?_
 simp only [Act.put, List.setIfInBounds_toArray, List.set_cons_zero, List.set_cons_succ]
 refine wpAnyH_take (i := 1) (oi := ⟨some 29, _, _, _, _, _⟩) (v := .agg #[.int .u16 (nAt rs 14 2), .int .u8 (rs.getD 16 0), .int .u8 (rs.getD 17 0), .int .u8 (rs.getD 18 0), .int .u8 (rs.getD 19 0), .int .u8 (rs.getD 20 0), .int .u8 (rs.getD 21 0), .int .u8 (rs.getD 22 0), .int .u8 (rs.getD 23 0)]) rfl (by kernel_rfl) (by kernel_rfl) (by kernel_rfl) (fun _ _ _ h => h) (yieldsIf_load_mid (by rfl) _ _ rfl _ _ rfl [.int .u16 (nAt rs 14 2), .int .u8 (rs.getD 16 0), .int .u8 (rs.getD 17 0), .int .u8 (rs.getD 18 0), .int .u8 (rs.getD 19 0), .int .u8 (rs.getD 20 0), .int .u8 (rs.getD 21 0), .int .u8 (rs.getD 22 0), .int .u8 (rs.getD 23 0)] _ (fun w h => h.2.range) Tryz.underlying44 rfl (by kernel_rfl)) (by assumption) ?_
 simp only [Act.put, List.setIfInBounds_toArray, List.set_cons_zero, List.set_cons_succ]
 refine wpAnyH_ready (rs := [2]) (by kernel_rfl) (by simp) ?_
 refine AllReadyH.cons (o := ⟨none, _, _, _, _, _⟩) rfl (fun K hK => ?_) AllReadyH.nil
 refine step_row (by rfl) 33 (.tmp 2) (.tmp 28) (by rfl) g2 [.int .u8 (nAt rs 1 1), .int .u32 (nAt rs 4 4), .int .u32 (nAt rs 8 4), .int .u32 0, .int .u16 0, .int .u8 0, .int .u8 0, .int .u32 0, .int .u32 0, .int .u32 0, .slice none 0 0, .int .u16 0, .int .u8 0, .int .u8 0, .int .u32 0, .slice none 0 0, .slice none 0 0, .slice none 0 0, .slice none 0 0] (by rfl) (by rfl) 33 _ Ad_ (by kernel_rfl) rfl (by simp [Value.oneCell']) ?_
 rw [setRow_self _ _ _ _ _ Ad_]
 refine hK.out _ _ ⟨Ad_, Bd_⟩ (fun hHeld => ?_)
 clear hK K
 refine wpAnyH_ready (rs := [3]) (by kernel_rfl) (by simp) ?_
 refine AllReadyH.cons (o := ⟨none, _, _, _, _, _⟩) rfl (fun K hK => ?_) AllReadyH.nil
 refine step_row (by rfl) 44 (.tmp 3) (.tmp 29) (by rfl) g3 [.int .u16 (nAt rs 14 2), .int .u8 (rs.getD 16 0), .int .u8 (rs.getD 17 0), .int .u8 (rs.getD 18 0), .int .u8 (rs.getD 19 0), .int .u8 (rs.getD 20 0), .int .u8 (rs.getD 21 0), .int .u8 (rs.getD 22 0), .int .u8 (rs.getD 23 0)] (by rfl) (by rfl) 44 _ Bd_ (by kernel_rfl) rfl (by simp [Value.oneCell']) ?_
 rw [setRow_self _ _ _ _ _ Bd_]
 refine hK.out _ _ ⟨Ad_, Bd_⟩ (fun hHeld => ?_)
 clear hK K
 refine wpAnyH_done (by kernel_rfl) ?_ _
 go_wp2_with fail
 refine bodyPost_ret (v := .tuple #[.agg #[.int .u8 (nAt rs 1 1), .int .u32 (nAt rs 4 4), .int .u32 (nAt rs 8 4), .int .u32 0, .int .u16 0, .int .u8 0, .int .u8 0, .int .u32 0, .int .u32 0, .int .u32 0, .slice none 0 0, .int .u16 0, .int .u8 0, .int .u8 0, .int .u32 0, .slice none 0 0, .slice none 0 0, .slice none 0 0, .slice none 0 0], .agg #[.int .u16 (nAt rs 14 2), .int .u8 (rs.getD 16 0), .int .u8 (rs.getD 17 0), .int .u8 (rs.getD 18 0), .int .u8 (rs.getD 19 0), .int .u8 (rs.getD 20 0), .int .u8 (rs.getD 21 0), .int .u8 (rs.getD 22 0), .int .u8 (rs.getD 23 0)]]) ?hr rfl ?_
 case hr => exact results_two (p := 2) (q := 3) rfl _ _ g2 g3 33 44 [.int .u8 (nAt rs 1 1), .int .u32 (nAt rs 4 4), .int .u32 (nAt rs 8 4), .int .u32 0, .int .u16 0, .int .u8 0, .int .u8 0, .int .u32 0, .int .u32 0, .int .u32 0, .slice none 0 0, .int .u16 0, .int .u8 0, .int .u8 0, .int .u32 0, .slice none 0 0, .slice none 0 0, .slice none 0 0, .slice none 0 0] [.int .u16 (nAt rs 14 2), .int .u8 (rs.getD 16 0), .int .u8 (rs.getD 17 0), .int .u8 (rs.getD 18 0), .int .u8 (rs.getD 19 0), .int .u8 (rs.getD 20 0), .int .u8 (rs.getD 21 0), .int .u8 (rs.getD 22 0), .int .u8 (rs.getD 23 0)] _ _ (by first | rfl | simp [Array.getD, Array.setIfInBounds]) (by first | rfl | simp [Array.getD, Array.setIfInBounds]) Ad_ Bd_ Tryz.underlying33 rfl (by kernel_rfl) Tryz.underlying44 rfl (by kernel_rfl)
 refine ⟨?_, r9.out.keep ((Touch.refl _ _).drew), T9.out.drew⟩
 have e1 : nAt rs 1 1 = rs.getD 1 0 := nAt_one (by omega)
 rw [e1]
 rfl
end Go.Proofs.YtbfplepmgbkajaaGreatDoor
