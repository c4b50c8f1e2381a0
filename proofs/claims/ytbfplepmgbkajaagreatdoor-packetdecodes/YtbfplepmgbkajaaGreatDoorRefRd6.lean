/- The document's Read. -/
import Derived.Test.YtbfplepmgbkajaaGreatDoorRefPkD1
import Derived.Test.YtbfplepmgbkajaaGreatDoorPkPure
import Derived.Test.YtbfplepmgbkajaaGreatDoorStFace
import Derived.Test.YtbfplepmgbkajaaGreatDoorBagKm
namespace Go.Proofs.YtbfplepmgbkajaaGreatDoor
open Go.RowKit
set_option linter.unusedVariables false
set_option maxRecDepth 100000

theorem cut_mid_at {w : World} {va : Option Addr} {vc n : Nat} {rs : List Int} (h : ArgAt w (.slice va n vc) rs) (hn : n = rs.length) (hp : 0 < n) (i j : Nat) (hij : i ≤ j) (hj : j ≤ n) :
  ∃ g o c, (∀ w, Sem.run Tryz.prog (Instr.slice 40 (.slice va n vc) (some (.int .i64 (i : Int))) (some (.int .i64 (j : Int))) none) w = .ok (.slice (some ⟨g, o, none⟩) (j - i) c) w) ∧ ∀ k u, (bytesOf ((rs.drop i).take (j - i)))[k]? = some u → w.cell? (Addr.add ⟨g, o, none⟩ k) = some u := by
 subst hn
 have hr := h.row hp
 obtain ⟨ga, oa, rfl⟩ := rowAt_some hr hp
 obtain ⟨-, hc1, hc2⟩ := cap_of hr
 have hc2' : (vc : Int) ≤ 9223372036854775807 := by unfold maxLen at hc2; omega
 have h0 : (0 : Int) ≤ (i : Int) := by omega
 have h0' : (0 : Int) ≤ (j : Int) := by omega
 have h1 : (j : Int) ≤ (vc : Int) := by omega
 have h2 : (i : Int) ≤ (j : Int) := by omega
 by_cases hz : vc = i
 ·refine ⟨ga, oa, vc - i, fun w => ?_, ?_⟩
  ·simp [Instr.slice, Instr.sliceBounds, Instr.sliceBound, go_sem, h0, h0', hz]
   rw [if_pos (by omega), if_pos (by omega)]
  ·have : j - i = 0 := by omega
   rw [this, List.take_zero]
   intro k u hk
   simp [bytesOf] at hk
 ·refine ⟨ga, oa + i, vc - i, fun w => ?_, fun k u hk => ?_⟩
  ·simp [Instr.slice, Instr.sliceBounds, Instr.sliceBound, go_sem, h0, h0', hz]
   rw [if_pos (by omega), if_pos hij]
  ·rw [add_plain]
   have hk1 : k < ((rs.drop i).take (j - i)).length := by
    have := (List.getElem?_eq_some_iff.mp hk).1
    simpa [length_bytesOf] using this
   have := rowAt_cell (take_row (drop_row hr i (by omega)) (j - i) (by omega)) k hk1
   rw [this]
   simp only [bytesOf, List.getElem?_map, List.getD] at hk ⊢
   rw [List.getElem?_eq_getElem hk1] at hk ⊢
   simpa using hk

set_option maxHeartbeats 4000000 in
theorem dread_good (v : Value) (rs : List Int) (w : World) (hv : ArgAt w v rs) (hby : ∀ z ∈ rs, 0 ≤ z ∧ z < 256) (hl : 20 ≤ rs.length) (hl2 : rs.length ≤ 1000000) (H : HV) (hH : rdHead (rs.take 20) = H) (hlo : 20 ≤ H.len) (hhi : H.len ≤ (rs.length : Int)) :
  Calls Tryz.prog 148 #[v] w fun e w' => ∃ u, e = .returned (.tuple #[H.sv u, .int .i64 H.len, .int .i64 0]) ∧ Buf w w' u ((rs.drop 20).take (H.len.toNat - 20)) := by
 obtain ⟨va, vc, rfl, hm⟩ := hv.form
 have hln := rdHead_len (rs := rs.take 20) (fun z hz => hby z (List.mem_of_mem_take hz))
 rw [hH] at hln
 obtain ⟨hln0, hln1⟩ := hln
 have hw64 : IntKind.i64.wrap H.len = H.len := by simp [IntKind.wrap, IntKind.bits, IntKind.signed]; omega
 obtain ⟨gu, ou, cu, hu, hcu⟩ := cut_mid_at hv rfl (by omega) 20 H.len.toNat (by omega) (by omega)
 have hlx : ((rs.drop 20).take (H.len.toNat - 20)).length = H.len.toNat - 20 := by rw [List.length_take, List.length_drop]; omega
 have hms : H.len.toNat - 20 ≤ 1000000 := by omega
 rw [Int.toNat_of_nonneg hln0] at hu
 replace hu : ∀ w, Sem.run Tryz.prog (Instr.slice 40 (.slice va rs.length vc) (some (.int .i64 20)) (some (.int .i64 H.len)) none) w = .ok (.slice (some ⟨gu, ou, none⟩) (H.len.toNat - 20) cu) w := hu
 have HD := dhead_good (.slice va rs.length vc) rs (w.alloc (.cells #[.int .u16 0, .int .u8 0, .int .u8 0, .int .u32 0, .int .u32 0, .int .i32 0, .int .u16 0, .int .u16 0, .slice none 0 0] 95)) (hv.keepN ((Touch.refl _ w).alloc _)) hby hl H hH
 have HCU : Hid (∀ k u, (bytesOf ((rs.drop 20).take (H.len.toNat - 20)))[k]? = some u → w.cell? (Addr.add ⟨gu, ou, none⟩ k) = some u) := hcu
 have HLX : Hid (((rs.drop 20).take (H.len.toNat - 20)).length = H.len.toNat - 20) := hlx
 generalize hbd : (rs.drop 20).take (H.len.toNat - 20) = bd at *
 generalize hmm : H.len.toNat - 20 = m at *
 have HMS : Hid (m ≤ 1000000) := hms
 have hn1 : ¬ H.len < 20 := by omega
 have hn2 : ¬ (rs.length : Int) < H.len := by omega
 clear hcu hlx hby hv hl hl2 hH hlo hhi hbd hmm hms hln0 hln1
 go_enter Tryz.func148, Tryz.ntmps148
 go_wp2_with fail
 refine Calls.mono HD ?_
 rintro e w1 ⟨rfl, t1⟩
 have R1 : Room w1 w.heap.size 9 := (Room.new w #[.int .u16 0, .int .u8 0, .int .u8 0, .int .u32 0, .int .u32 0, .int .i32 0, .int .u16 0, .int .u16 0, .slice none 0 0] 95).keep t1
 have T1 : Hid (Touch (fun _ => False) w w1) := ((Touch.refl _ w).alloc _).trans t1
 have hsz : w.heap.size < w1.heap.size := by have := t1.size; simp at this; omega
 clear t1 HD
 go_upto_region 10 with fail
 have O2 : Hid (Out ((w1.alloc (.cells #[.int .u16 H.age, .int .u8 H.opts, .int .u8 H.typ, .int .u32 H.id, .int .u32 H.adv, .int .i32 H.seq, .int .u16 H.sum, .int .u16 H.len] 93)).alloc (.cells #[.int .u16 H.age, .int .u8 H.opts, .int .u8 H.typ, .int .u32 H.id, .int .u32 H.adv, .int .i32 H.seq, .int .u16 H.sum, .int .u16 H.len, .slice none 0 0] 95)) (w1.heap.size + 1) H (.slice none 0 0)) := by
  have := Out.new (w1.alloc (.cells #[.int .u16 H.age, .int .u8 H.opts, .int .u8 H.typ, .int .u32 H.id, .int .u32 H.adv, .int .i32 H.seq, .int .u16 H.sum, .int .u16 H.len] 93)) H (.slice none 0 0) 95
  show Out _ _ _ _
  simpa using this
 have T2 : Hid (Touch (fun _ => False) w ((w1.alloc (.cells #[.int .u16 H.age, .int .u8 H.opts, .int .u8 H.typ, .int .u32 H.id, .int .u32 H.adv, .int .i32 H.seq, .int .u16 H.sum, .int .u16 H.len] 93)).alloc (.cells #[.int .u16 H.age, .int .u8 H.opts, .int .u8 H.typ, .int .u32 H.id, .int .u32 H.adv, .int .i32 H.seq, .int .u16 H.sum, .int .u16 H.len, .slice none 0 0] 95))) := (T1.out.alloc _).alloc _
 have R2 : Hid (Room ((w1.alloc (.cells #[.int .u16 H.age, .int .u8 H.opts, .int .u8 H.typ, .int .u32 H.id, .int .u32 H.adv, .int .i32 H.seq, .int .u16 H.sum, .int .u16 H.len] 93)).alloc (.cells #[.int .u16 H.age, .int .u8 H.opts, .int .u8 H.typ, .int .u32 H.id, .int .u32 H.adv, .int .i32 H.seq, .int .u16 H.sum, .int .u16 H.len, .slice none 0 0] 95)) w.heap.size 9) := R1.keep (((Touch.refl _ _).alloc _).alloc _)
 have HS2 : Hid (w1.heap.size + 2 = ((w1.alloc (.cells #[.int .u16 H.age, .int .u8 H.opts, .int .u8 H.typ, .int .u32 H.id, .int .u32 H.adv, .int .i32 H.seq, .int .u16 H.sum, .int .u16 H.len] 93)).alloc (.cells #[.int .u16 H.age, .int .u8 H.opts, .int .u8 H.typ, .int .u32 H.id, .int .u32 H.adv, .int .i32 H.seq, .int .u16 H.sum, .int .u16 H.len, .slice none 0 0] 95)).heap.size) := by show _ = _; simp
 generalize (w1.alloc (.cells #[.int .u16 H.age, .int .u8 H.opts, .int .u8 H.typ, .int .u32 H.id, .int .u32 H.adv, .int .i32 H.seq, .int .u16 H.sum, .int .u16 H.len] 93)).alloc (.cells #[.int .u16 H.age, .int .u8 H.opts, .int .u8 H.typ, .int .u32 H.id, .int .u32 H.adv, .int .i32 H.seq, .int .u16 H.sum, .int .u16 H.len, .slice none 0 0] 95) = w2 at *
 generalize hgs : w1.heap.size + 1 = gs at *
 have HGS : Hid (w.heap.size < gs ∧ gs + 1 = w2.heap.size) := by have := HS2.out; show _ ∧ _; omega
 clear hgs HS2 hsz T1 R1
 have O2d : Hid (Out w2.drew gs H (.slice none 0 0)) := O2.out.keep ((Touch.refl _ _).drew)
 have d8 : w2.drew.cell? ⟨gs, 8, none⟩ = some (.slice none 0 0) := O2d.out.sd.c8
 have OWx : Hid (w2.drew.ownsRow w2.heap.size 5 1 (.slice none 0 0) 0 []) := World.ownsRow_nil _ _ _ _
 have CU2 : Hid (∀ k u, (bytesOf bd)[k]? = some u → w2.drew.cell? (Addr.add ⟨gu, ou, none⟩ k) = some u) := fun k u hk => by
  have h1 := HCU.out k u hk
  rw [add_plain] at h1 ⊢
  exact (T2.out.drew).cellN h1
 clear HCU
 refine wp_region_held_drew (S := fun _ => True) (by kernel_rfl) trivial (fun hHeld => ?_)
 refine wpAnyH_take (i := 0) (oi := ⟨some 31, _, _, _, _, _⟩) (v := .pointer (some ⟨gs, 8, none⟩)) rfl (by kernel_rfl) (by kernel_rfl) (by kernel_rfl) (fun _ _ _ h => h) (Or.inl ⟨by rfl, fun w hw => by go_simp⟩) (by assumption) ?_
 simp only [Act.put, List.setIfInBounds_toArray, List.set_cons_zero, List.set_cons_succ]
 refine wpAnyH_take (i := 2) (oi := ⟨some 33, _, _, _, _, _⟩) (v := .slice va rs.length vc) rfl (by kernel_rfl) (by kernel_rfl) (by kernel_rfl) (fun _ _ _ h => h) (Or.inl ⟨by rfl, fun w hw => by go_simp⟩) (by assumption) ?_
 simp only [Act.put, List.setIfInBounds_toArray, List.set_cons_zero, List.set_cons_succ]
 refine wpAnyH_take (i := 3) (oi := ⟨some 34, _, _, _, _, _⟩) (v := .int .i64 H.len) rfl (by kernel_rfl) (by kernel_rfl) (by kernel_rfl) (fun _ _ _ h => h) (Or.inl ⟨by rfl, fun w hw => by go_simp⟩) (by assumption) ?_
 simp only [Act.put, List.setIfInBounds_toArray, List.set_cons_zero, List.set_cons_succ]
 refine wpAnyH_take (i := 4) (oi := ⟨some 35, _, _, _, _, _⟩) (v := .slice (some ⟨gu, ou, none⟩) m cu) rfl (by kernel_rfl) (by kernel_rfl) (by kernel_rfl) (fun _ _ _ h => h) (Or.inl ⟨by rfl, fun w hw => by go_simp⟩) (by assumption) ?_
 simp only [Act.put, List.setIfInBounds_toArray, List.set_cons_zero, List.set_cons_succ]
 refine wpAnyH_ready (rs := [1]) (by kernel_rfl) (by simp) ?_
 refine AllReadyH.cons rfl (fun K hK => ?_) AllReadyH.nil
 go_simp
 refine hK.out _ _ (trivial) (fun hHeld => ?_)
 clear hK K
 refine wpAnyH_ready (rs := [5]) (by kernel_rfl) (by simp) ?_
 refine AllReadyH.cons rfl (fun K hK => ?_) AllReadyH.nil
 refine step_own (by rfl) (.tmp 32) (.tmp 35) 40 (by rfl) w2.heap.size 5 (.int .u8 0) 1 1 Tryz.underlying40 Tryz.info5w rfl (by decide) (by decide) (.slice none 0 0) 0 [] (by rfl) OWx.out ⟨gu, ou, none⟩ m cu (bytesOf bd) (by rfl) (by rw [length_bytesOf, HLX.out]; omega) CU2.out (oneCell_bytesOf bd) (by have := HMS.out; omega) (Nat.le_refl _) ?_
 intro v' wv ov tv
 obtain ⟨xa, xc, rfl⟩ := own_form ov
 have tv' : Touch (fun _ => False) w2.drew wv := Touch.mono tv (fun i _ e => by simp [Value.ownBlock] at e)
 have Ov : Hid (Out wv gs H (.slice none 0 0)) := O2d.out.keep tv'
 have d8v : wv.cell? ⟨gs, 8, none⟩ = some (.slice none 0 0) := Ov.out.sd.c8
 have f8v : wv.frozen? ⟨gs, 8, none⟩ = false := Ov.out.fz 8 (by omega)
 have Rv : Hid (Room wv w.heap.size 9) := (R2.out.keep ((Touch.refl _ _).drew)).keep tv'
 have Tv : Hid (Touch (fun _ => False) w wv) := (T2.out.drew).trans tv'
 have OWv : Hid (wv.ownsRow w2.heap.size 5 1 (.slice xa (0 + m) xc) (0 + m) ([] ++ bytesOf bd)) := ov
 clear tv tv' ov OWx CU2 O2 O2d R2 T2 d8
 refine hK.out _ _ (trivial) (fun hHeld => ?_)
 clear hK K
 refine wpAnyH_take (i := 6) (oi := ⟨some 37, _, _, _, _, _⟩) (v := .pointer (some ⟨gs, 8, none⟩)) rfl (by kernel_rfl) (by kernel_rfl) (by kernel_rfl) (fun _ _ _ h => h) (Or.inl ⟨by rfl, fun w hw => by go_simp⟩) (by assumption) ?_
 simp only [Act.put]
 refine wpAnyH_ready (rs := [7]) (by kernel_rfl) (by simp) ?_
 refine AllReadyH.cons rfl (fun K hK => ?_) AllReadyH.nil
 go_simp
 refine hK.out _ _ (trivial) (fun hHeld => ?_)
 clear hK K
 refine wpAnyH_done (by kernel_rfl) ?_ _
 clear d8v f8v
 have O9 : Out (wv.setCell ⟨gs, 8, none⟩ (.slice xa (0 + m) xc)) gs H (.slice xa (0 + m) xc) := Ov.out.set8 _
 have R9 : Room (wv.setCell ⟨gs, 8, none⟩ (.slice xa (0 + m) xc)) w.heap.size 9 := Rv.out.touch (Touch.setCell (F := fun k => k = gs) (p := ⟨gs, 8, none⟩) (Touch.refl _ _) (Or.inl rfl) _) (fun e => by have := HGS.out; omega)
 have T9 : Hid (Touch (fun _ => False) w (wv.setCell ⟨gs, 8, none⟩ (.slice xa (0 + m) xc))) := Tv.out.trans' (Touch.setCell (F := fun k => k = gs) (p := ⟨gs, 8, none⟩) (Touch.refl _ _) (Or.inl rfl) _) (fun i hi e => by have := HGS.out; omega)
 have OW9 : Hid ((wv.setCell ⟨gs, 8, none⟩ (.slice xa (0 + m) xc)).ownsRow w2.heap.size 5 1 (.slice xa (0 + m) xc) (0 + m) ([] ++ bytesOf bd)) := own_store OWv.out (by show gs < w2.heap.size; have := HGS.out; omega) _
 rw [List.nil_append, Nat.zero_add] at OW9
 simp only [Nat.zero_add] at *
 generalize wv.setCell ⟨gs, 8, none⟩ (.slice xa m xc) = w9 at *
 obtain ⟨⟨⟨e0, e1, e2, e3, e4, e5, e6, e7⟩, e8⟩, -⟩ := O9
 obtain ⟨zz0, zc0, zf0⟩ := R9 0 (by omega)
 obtain ⟨zz1, zc1, zf1⟩ := R9 1 (by omega)
 obtain ⟨zz2, zc2, zf2⟩ := R9 2 (by omega)
 obtain ⟨zz3, zc3, zf3⟩ := R9 3 (by omega)
 obtain ⟨zz4, zc4, zf4⟩ := R9 4 (by omega)
 obtain ⟨zz5, zc5, zf5⟩ := R9 5 (by omega)
 obtain ⟨zz6, zc6, zf6⟩ := R9 6 (by omega)
 obtain ⟨zz7, zc7, zf7⟩ := R9 7 (by omega)
 obtain ⟨zz8, zc8, zf8⟩ := R9 8 (by omega)
 obtain ⟨wz, hwz⟩ : ∃ wz, wz = (((((((((w9.setCell ⟨w.heap.size, 0, none⟩ (.int .u16 H.age)).setCell ⟨w.heap.size, 1, none⟩ (.int .u8 H.opts)).setCell ⟨w.heap.size, 2, none⟩ (.int .u8 H.typ)).setCell ⟨w.heap.size, 3, none⟩ (.int .u32 H.id)).setCell ⟨w.heap.size, 4, none⟩ (.int .u32 H.adv)).setCell ⟨w.heap.size, 5, none⟩ (.int .i32 H.seq)).setCell ⟨w.heap.size, 6, none⟩ (.int .u16 H.sum)).setCell ⟨w.heap.size, 7, none⟩ (.int .u16 H.len)).setCell ⟨w.heap.size, 8, none⟩ (.slice xa m xc)) := ⟨_, rfl⟩
 have zd0 : wz.cell? ⟨w.heap.size, 0, none⟩ = some (.int .u16 H.age) := by rw [hwz]; simp [zc0, go_sem]
 have zd1 : wz.cell? ⟨w.heap.size, 1, none⟩ = some (.int .u8 H.opts) := by rw [hwz]; simp [zc1, go_sem]
 have zd2 : wz.cell? ⟨w.heap.size, 2, none⟩ = some (.int .u8 H.typ) := by rw [hwz]; simp [zc2, go_sem]
 have zd3 : wz.cell? ⟨w.heap.size, 3, none⟩ = some (.int .u32 H.id) := by rw [hwz]; simp [zc3, go_sem]
 have zd4 : wz.cell? ⟨w.heap.size, 4, none⟩ = some (.int .u32 H.adv) := by rw [hwz]; simp [zc4, go_sem]
 have zd5 : wz.cell? ⟨w.heap.size, 5, none⟩ = some (.int .i32 H.seq) := by rw [hwz]; simp [zc5, go_sem]
 have zd6 : wz.cell? ⟨w.heap.size, 6, none⟩ = some (.int .u16 H.sum) := by rw [hwz]; simp [zc6, go_sem]
 have zd7 : wz.cell? ⟨w.heap.size, 7, none⟩ = some (.int .u16 H.len) := by rw [hwz]; simp [zc7, go_sem]
 have zd8 : wz.cell? ⟨w.heap.size, 8, none⟩ = some (.slice xa m xc) := by rw [hwz]; simp [zc8, go_sem]
 have HUz : Hid (Touch (fun k => k = w.heap.size) w9 wz) := by show Touch _ _ _; rw [hwz]; refine Touch.setCell (F := fun k => k = w.heap.size) (p := ⟨w.heap.size, 8, none⟩) ?_ (Or.inl rfl) _; refine Touch.setCell (F := fun k => k = w.heap.size) (p := ⟨w.heap.size, 7, none⟩) ?_ (Or.inl rfl) _; refine Touch.setCell (F := fun k => k = w.heap.size) (p := ⟨w.heap.size, 6, none⟩) ?_ (Or.inl rfl) _; refine Touch.setCell (F := fun k => k = w.heap.size) (p := ⟨w.heap.size, 5, none⟩) ?_ (Or.inl rfl) _; refine Touch.setCell (F := fun k => k = w.heap.size) (p := ⟨w.heap.size, 4, none⟩) ?_ (Or.inl rfl) _; refine Touch.setCell (F := fun k => k = w.heap.size) (p := ⟨w.heap.size, 3, none⟩) ?_ (Or.inl rfl) _; refine Touch.setCell (F := fun k => k = w.heap.size) (p := ⟨w.heap.size, 2, none⟩) ?_ (Or.inl rfl) _; refine Touch.setCell (F := fun k => k = w.heap.size) (p := ⟨w.heap.size, 1, none⟩) ?_ (Or.inl rfl) _; refine Touch.setCell (F := fun k => k = w.heap.size) (p := ⟨w.heap.size, 0, none⟩) ?_ (Or.inl rfl) _; exact Touch.refl _ _
 have HWz : Hid (wz = (((((((((w9.setCell ⟨w.heap.size, 0, none⟩ (.int .u16 H.age)).setCell ⟨w.heap.size, 1, none⟩ (.int .u8 H.opts)).setCell ⟨w.heap.size, 2, none⟩ (.int .u8 H.typ)).setCell ⟨w.heap.size, 3, none⟩ (.int .u32 H.id)).setCell ⟨w.heap.size, 4, none⟩ (.int .u32 H.adv)).setCell ⟨w.heap.size, 5, none⟩ (.int .i32 H.seq)).setCell ⟨w.heap.size, 6, none⟩ (.int .u16 H.sum)).setCell ⟨w.heap.size, 7, none⟩ (.int .u16 H.len)).setCell ⟨w.heap.size, 8, none⟩ (.slice xa m xc))) := hwz
 clear hwz
 go_wp2_with fail
 rw [← HWz.out]
 clear HWz zc0 zf0 zc1 zf1 zc2 zf2 zc3 zf3 zc4 zf4 zc5 zf5 zc6 zf6 zc7 zf7 zc8 zf8
 refine bodyPost_ret (v := .tuple #[.agg #[.int .u16 H.age, .int .u8 H.opts, .int .u8 H.typ, .int .u32 H.id, .int .u32 H.adv, .int .i32 H.seq, .int .u16 H.sum, .int .u16 H.len, .slice xa m xc], .int .i64 H.len, .int .i64 0]) (by simp [results, Tryz.results148, go_sem, zd0, zd1, zd2, zd3, zd4, zd5, zd6, zd7, zd8]) rfl ?_
 refine ⟨_, rfl, ?_, T9.out.trans' HUz.out (fun i hi e => by omega)⟩
 have := own_touch OW9.out HUz.out (fun k hk e => by have h1 := (OW9.out.lt k hk).1; have := HGS.out; omega)
 rw [HLX.out]
 exact own_lower this (by have := HGS.out; omega)

set_option maxHeartbeats 1000000 in
theorem dread_short (v : Value) (rs : List Int) (w : World) (hv : ArgAt w v rs) (hl : rs.length < 20) :
  Calls Tryz.prog 148 #[v] w fun e w' => e = .returned (.tuple #[.agg #[.int .u16 0, .int .u8 0, .int .u8 0, .int .u32 0, .int .u32 0, .int .i32 0, .int .u16 0, .int .u16 0, .slice none 0 0], .int .i64 0, .int .i64 10]) ∧ Touch (fun _ => False) w w' := by
 obtain ⟨va, vc, rfl, hm⟩ := hv.form
 have HD := dhead_short (.slice va rs.length vc) rs (w.alloc (.cells #[.int .u16 0, .int .u8 0, .int .u8 0, .int .u32 0, .int .u32 0, .int .i32 0, .int .u16 0, .int .u16 0, .slice none 0 0] 95)) (hv.keepN ((Touch.refl _ w).alloc _)) hl
 clear hv
 go_enter Tryz.func148, Tryz.ntmps148
 go_wp2_with fail
 refine Calls.mono HD ?_
 rintro e w1 ⟨rfl, t1⟩
 have R1 : Room w1 w.heap.size 9 := (Room.new w #[.int .u16 0, .int .u8 0, .int .u8 0, .int .u32 0, .int .u32 0, .int .i32 0, .int .u16 0, .int .u16 0, .slice none 0 0] 95).keep t1
 have T1 : Hid (Touch (fun _ => False) w w1) := ((Touch.refl _ w).alloc _).trans t1
 have hsz : w.heap.size < w1.heap.size := by have := t1.size; simp at this; omega
 clear t1 HD
 go_upto_region 3 with fail
 have R2 : Room (w1.alloc (.cells #[.int .u16 0, .int .u8 0, .int .u8 0, .int .u32 0, .int .u32 0, .int .i32 0, .int .u16 0, .int .u16 0] 93)) w.heap.size 9 := R1.keep ((Touch.refl _ _).alloc _)
 have T2 : Hid (Touch (fun _ => False) w (w1.alloc (.cells #[.int .u16 0, .int .u8 0, .int .u8 0, .int .u32 0, .int .u32 0, .int .i32 0, .int .u16 0, .int .u16 0] 93))) := T1.out.alloc _
 generalize w1.alloc (.cells #[.int .u16 0, .int .u8 0, .int .u8 0, .int .u32 0, .int .u32 0, .int .i32 0, .int .u16 0, .int .u16 0] 93) = w2 at *
 obtain ⟨zz0, zc0, zf0⟩ := R2 0 (by omega)
 obtain ⟨zz1, zc1, zf1⟩ := R2 1 (by omega)
 obtain ⟨zz2, zc2, zf2⟩ := R2 2 (by omega)
 obtain ⟨zz3, zc3, zf3⟩ := R2 3 (by omega)
 obtain ⟨zz4, zc4, zf4⟩ := R2 4 (by omega)
 obtain ⟨zz5, zc5, zf5⟩ := R2 5 (by omega)
 obtain ⟨zz6, zc6, zf6⟩ := R2 6 (by omega)
 obtain ⟨zz7, zc7, zf7⟩ := R2 7 (by omega)
 obtain ⟨zz8, zc8, zf8⟩ := R2 8 (by omega)
 obtain ⟨wz, hwz⟩ : ∃ wz, wz = (((((((((w2.setCell ⟨w.heap.size, 0, none⟩ (.int .u16 0)).setCell ⟨w.heap.size, 1, none⟩ (.int .u8 0)).setCell ⟨w.heap.size, 2, none⟩ (.int .u8 0)).setCell ⟨w.heap.size, 3, none⟩ (.int .u32 0)).setCell ⟨w.heap.size, 4, none⟩ (.int .u32 0)).setCell ⟨w.heap.size, 5, none⟩ (.int .i32 0)).setCell ⟨w.heap.size, 6, none⟩ (.int .u16 0)).setCell ⟨w.heap.size, 7, none⟩ (.int .u16 0)).setCell ⟨w.heap.size, 8, none⟩ (.slice none 0 0)) := ⟨_, rfl⟩
 have zd0 : wz.cell? ⟨w.heap.size, 0, none⟩ = some (.int .u16 0) := by rw [hwz]; simp [zc0, go_sem]
 have zd1 : wz.cell? ⟨w.heap.size, 1, none⟩ = some (.int .u8 0) := by rw [hwz]; simp [zc1, go_sem]
 have zd2 : wz.cell? ⟨w.heap.size, 2, none⟩ = some (.int .u8 0) := by rw [hwz]; simp [zc2, go_sem]
 have zd3 : wz.cell? ⟨w.heap.size, 3, none⟩ = some (.int .u32 0) := by rw [hwz]; simp [zc3, go_sem]
 have zd4 : wz.cell? ⟨w.heap.size, 4, none⟩ = some (.int .u32 0) := by rw [hwz]; simp [zc4, go_sem]
 have zd5 : wz.cell? ⟨w.heap.size, 5, none⟩ = some (.int .i32 0) := by rw [hwz]; simp [zc5, go_sem]
 have zd6 : wz.cell? ⟨w.heap.size, 6, none⟩ = some (.int .u16 0) := by rw [hwz]; simp [zc6, go_sem]
 have zd7 : wz.cell? ⟨w.heap.size, 7, none⟩ = some (.int .u16 0) := by rw [hwz]; simp [zc7, go_sem]
 have zd8 : wz.cell? ⟨w.heap.size, 8, none⟩ = some (.slice none 0 0) := by rw [hwz]; simp [zc8, go_sem]
 have HUz : Hid (Touch (fun k => k = w.heap.size) w2 wz) := by show Touch _ _ _; rw [hwz]; refine Touch.setCell (F := fun k => k = w.heap.size) (p := ⟨w.heap.size, 8, none⟩) ?_ (Or.inl rfl) _; refine Touch.setCell (F := fun k => k = w.heap.size) (p := ⟨w.heap.size, 7, none⟩) ?_ (Or.inl rfl) _; refine Touch.setCell (F := fun k => k = w.heap.size) (p := ⟨w.heap.size, 6, none⟩) ?_ (Or.inl rfl) _; refine Touch.setCell (F := fun k => k = w.heap.size) (p := ⟨w.heap.size, 5, none⟩) ?_ (Or.inl rfl) _; refine Touch.setCell (F := fun k => k = w.heap.size) (p := ⟨w.heap.size, 4, none⟩) ?_ (Or.inl rfl) _; refine Touch.setCell (F := fun k => k = w.heap.size) (p := ⟨w.heap.size, 3, none⟩) ?_ (Or.inl rfl) _; refine Touch.setCell (F := fun k => k = w.heap.size) (p := ⟨w.heap.size, 2, none⟩) ?_ (Or.inl rfl) _; refine Touch.setCell (F := fun k => k = w.heap.size) (p := ⟨w.heap.size, 1, none⟩) ?_ (Or.inl rfl) _; refine Touch.setCell (F := fun k => k = w.heap.size) (p := ⟨w.heap.size, 0, none⟩) ?_ (Or.inl rfl) _; exact Touch.refl _ _
 have HWz : Hid (wz = (((((((((w2.setCell ⟨w.heap.size, 0, none⟩ (.int .u16 0)).setCell ⟨w.heap.size, 1, none⟩ (.int .u8 0)).setCell ⟨w.heap.size, 2, none⟩ (.int .u8 0)).setCell ⟨w.heap.size, 3, none⟩ (.int .u32 0)).setCell ⟨w.heap.size, 4, none⟩ (.int .u32 0)).setCell ⟨w.heap.size, 5, none⟩ (.int .i32 0)).setCell ⟨w.heap.size, 6, none⟩ (.int .u16 0)).setCell ⟨w.heap.size, 7, none⟩ (.int .u16 0)).setCell ⟨w.heap.size, 8, none⟩ (.slice none 0 0))) := hwz
 clear hwz
 go_wp2_with fail
 rw [← HWz.out]
 clear HWz zc0 zf0 zc1 zf1 zc2 zf2 zc3 zf3 zc4 zf4 zc5 zf5 zc6 zf6 zc7 zf7 zc8 zf8
 refine bodyPost_ret (v := .tuple #[.agg #[.int .u16 0, .int .u8 0, .int .u8 0, .int .u32 0, .int .u32 0, .int .i32 0, .int .u16 0, .int .u16 0, .slice none 0 0], .int .i64 0, .int .i64 10]) (by simp [results, Tryz.results148, go_sem, zd0, zd1, zd2, zd3, zd4, zd5, zd6, zd7, zd8]) rfl ?_
 exact ⟨rfl, T2.out.trans' HUz.out (fun i hi e => by omega)⟩

set_option maxHeartbeats 1000000 in
theorem dread_low (v : Value) (rs : List Int) (w : World) (hv : ArgAt w v rs) (hby : ∀ z ∈ rs, 0 ≤ z ∧ z < 256) (hl : 20 ≤ rs.length) (H : HV) (hH : rdHead (rs.take 20) = H) (hlo : H.len < 20) :
  Calls Tryz.prog 148 #[v] w fun e w' => e = .returned (.tuple #[.agg #[.int .u16 0, .int .u8 0, .int .u8 0, .int .u32 0, .int .u32 0, .int .i32 0, .int .u16 0, .int .u16 0, .slice none 0 0], .int .i64 0, .int .i64 22]) ∧ Touch (fun _ => False) w w' := by
 obtain ⟨va, vc, rfl, hm⟩ := hv.form
 have hln := rdHead_len (rs := rs.take 20) (fun z hz => hby z (List.mem_of_mem_take hz))
 rw [hH] at hln
 obtain ⟨hln0, hln1⟩ := hln
 have hw64 : IntKind.i64.wrap H.len = H.len := by simp [IntKind.wrap, IntKind.bits, IntKind.signed]; omega
 have HD := dhead_good (.slice va rs.length vc) rs (w.alloc (.cells #[.int .u16 0, .int .u8 0, .int .u8 0, .int .u32 0, .int .u32 0, .int .i32 0, .int .u16 0, .int .u16 0, .slice none 0 0] 95)) (hv.keepN ((Touch.refl _ w).alloc _)) hby hl H hH
 clear hH hby hl hln0 hln1
 clear hv
 go_enter Tryz.func148, Tryz.ntmps148
 go_wp2_with fail
 refine Calls.mono HD ?_
 rintro e w1 ⟨rfl, t1⟩
 have R1 : Room w1 w.heap.size 9 := (Room.new w #[.int .u16 0, .int .u8 0, .int .u8 0, .int .u32 0, .int .u32 0, .int .i32 0, .int .u16 0, .int .u16 0, .slice none 0 0] 95).keep t1
 have T1 : Hid (Touch (fun _ => False) w w1) := ((Touch.refl _ w).alloc _).trans t1
 have hsz : w.heap.size < w1.heap.size := by have := t1.size; simp at this; omega
 clear t1 HD
 go_upto_region 6 with fail
 have R2 : Room (w1.alloc (.cells #[.int .u16 H.age, .int .u8 H.opts, .int .u8 H.typ, .int .u32 H.id, .int .u32 H.adv, .int .i32 H.seq, .int .u16 H.sum, .int .u16 H.len] 93)) w.heap.size 9 := R1.keep ((Touch.refl _ _).alloc _)
 have T2 : Hid (Touch (fun _ => False) w (w1.alloc (.cells #[.int .u16 H.age, .int .u8 H.opts, .int .u8 H.typ, .int .u32 H.id, .int .u32 H.adv, .int .i32 H.seq, .int .u16 H.sum, .int .u16 H.len] 93))) := T1.out.alloc _
 generalize w1.alloc (.cells #[.int .u16 H.age, .int .u8 H.opts, .int .u8 H.typ, .int .u32 H.id, .int .u32 H.adv, .int .i32 H.seq, .int .u16 H.sum, .int .u16 H.len] 93) = w2 at *
 obtain ⟨zz0, zc0, zf0⟩ := R2 0 (by omega)
 obtain ⟨zz1, zc1, zf1⟩ := R2 1 (by omega)
 obtain ⟨zz2, zc2, zf2⟩ := R2 2 (by omega)
 obtain ⟨zz3, zc3, zf3⟩ := R2 3 (by omega)
 obtain ⟨zz4, zc4, zf4⟩ := R2 4 (by omega)
 obtain ⟨zz5, zc5, zf5⟩ := R2 5 (by omega)
 obtain ⟨zz6, zc6, zf6⟩ := R2 6 (by omega)
 obtain ⟨zz7, zc7, zf7⟩ := R2 7 (by omega)
 obtain ⟨zz8, zc8, zf8⟩ := R2 8 (by omega)
 obtain ⟨wz, hwz⟩ : ∃ wz, wz = (((((((((w2.setCell ⟨w.heap.size, 0, none⟩ (.int .u16 0)).setCell ⟨w.heap.size, 1, none⟩ (.int .u8 0)).setCell ⟨w.heap.size, 2, none⟩ (.int .u8 0)).setCell ⟨w.heap.size, 3, none⟩ (.int .u32 0)).setCell ⟨w.heap.size, 4, none⟩ (.int .u32 0)).setCell ⟨w.heap.size, 5, none⟩ (.int .i32 0)).setCell ⟨w.heap.size, 6, none⟩ (.int .u16 0)).setCell ⟨w.heap.size, 7, none⟩ (.int .u16 0)).setCell ⟨w.heap.size, 8, none⟩ (.slice none 0 0)) := ⟨_, rfl⟩
 have zd0 : wz.cell? ⟨w.heap.size, 0, none⟩ = some (.int .u16 0) := by rw [hwz]; simp [zc0, go_sem]
 have zd1 : wz.cell? ⟨w.heap.size, 1, none⟩ = some (.int .u8 0) := by rw [hwz]; simp [zc1, go_sem]
 have zd2 : wz.cell? ⟨w.heap.size, 2, none⟩ = some (.int .u8 0) := by rw [hwz]; simp [zc2, go_sem]
 have zd3 : wz.cell? ⟨w.heap.size, 3, none⟩ = some (.int .u32 0) := by rw [hwz]; simp [zc3, go_sem]
 have zd4 : wz.cell? ⟨w.heap.size, 4, none⟩ = some (.int .u32 0) := by rw [hwz]; simp [zc4, go_sem]
 have zd5 : wz.cell? ⟨w.heap.size, 5, none⟩ = some (.int .i32 0) := by rw [hwz]; simp [zc5, go_sem]
 have zd6 : wz.cell? ⟨w.heap.size, 6, none⟩ = some (.int .u16 0) := by rw [hwz]; simp [zc6, go_sem]
 have zd7 : wz.cell? ⟨w.heap.size, 7, none⟩ = some (.int .u16 0) := by rw [hwz]; simp [zc7, go_sem]
 have zd8 : wz.cell? ⟨w.heap.size, 8, none⟩ = some (.slice none 0 0) := by rw [hwz]; simp [zc8, go_sem]
 have HUz : Hid (Touch (fun k => k = w.heap.size) w2 wz) := by show Touch _ _ _; rw [hwz]; refine Touch.setCell (F := fun k => k = w.heap.size) (p := ⟨w.heap.size, 8, none⟩) ?_ (Or.inl rfl) _; refine Touch.setCell (F := fun k => k = w.heap.size) (p := ⟨w.heap.size, 7, none⟩) ?_ (Or.inl rfl) _; refine Touch.setCell (F := fun k => k = w.heap.size) (p := ⟨w.heap.size, 6, none⟩) ?_ (Or.inl rfl) _; refine Touch.setCell (F := fun k => k = w.heap.size) (p := ⟨w.heap.size, 5, none⟩) ?_ (Or.inl rfl) _; refine Touch.setCell (F := fun k => k = w.heap.size) (p := ⟨w.heap.size, 4, none⟩) ?_ (Or.inl rfl) _; refine Touch.setCell (F := fun k => k = w.heap.size) (p := ⟨w.heap.size, 3, none⟩) ?_ (Or.inl rfl) _; refine Touch.setCell (F := fun k => k = w.heap.size) (p := ⟨w.heap.size, 2, none⟩) ?_ (Or.inl rfl) _; refine Touch.setCell (F := fun k => k = w.heap.size) (p := ⟨w.heap.size, 1, none⟩) ?_ (Or.inl rfl) _; refine Touch.setCell (F := fun k => k = w.heap.size) (p := ⟨w.heap.size, 0, none⟩) ?_ (Or.inl rfl) _; exact Touch.refl _ _
 have HWz : Hid (wz = (((((((((w2.setCell ⟨w.heap.size, 0, none⟩ (.int .u16 0)).setCell ⟨w.heap.size, 1, none⟩ (.int .u8 0)).setCell ⟨w.heap.size, 2, none⟩ (.int .u8 0)).setCell ⟨w.heap.size, 3, none⟩ (.int .u32 0)).setCell ⟨w.heap.size, 4, none⟩ (.int .u32 0)).setCell ⟨w.heap.size, 5, none⟩ (.int .i32 0)).setCell ⟨w.heap.size, 6, none⟩ (.int .u16 0)).setCell ⟨w.heap.size, 7, none⟩ (.int .u16 0)).setCell ⟨w.heap.size, 8, none⟩ (.slice none 0 0))) := hwz
 clear hwz
 go_wp2_with fail
 rw [← HWz.out]
 clear HWz zc0 zf0 zc1 zf1 zc2 zf2 zc3 zf3 zc4 zf4 zc5 zf5 zc6 zf6 zc7 zf7 zc8 zf8
 refine bodyPost_ret (v := .tuple #[.agg #[.int .u16 0, .int .u8 0, .int .u8 0, .int .u32 0, .int .u32 0, .int .i32 0, .int .u16 0, .int .u16 0, .slice none 0 0], .int .i64 0, .int .i64 22]) (by simp [results, Tryz.results148, go_sem, zd0, zd1, zd2, zd3, zd4, zd5, zd6, zd7, zd8]) rfl ?_
 exact ⟨rfl, T2.out.trans' HUz.out (fun i hi e => by omega)⟩

set_option maxHeartbeats 1000000 in
theorem dread_miss (v : Value) (rs : List Int) (w : World) (hv : ArgAt w v rs) (hby : ∀ z ∈ rs, 0 ≤ z ∧ z < 256) (hl : 20 ≤ rs.length) (H : HV) (hH : rdHead (rs.take 20) = H) (hlo : 20 ≤ H.len) (hhi : (rs.length : Int) < H.len) :
  Calls Tryz.prog 148 #[v] w fun e w' => e = .returned (.tuple #[.agg #[.int .u16 0, .int .u8 0, .int .u8 0, .int .u32 0, .int .u32 0, .int .i32 0, .int .u16 0, .int .u16 0, .slice none 0 0], .int .i64 0, .int .i64 10]) ∧ Touch (fun _ => False) w w' := by
 obtain ⟨va, vc, rfl, hm⟩ := hv.form
 have hln := rdHead_len (rs := rs.take 20) (fun z hz => hby z (List.mem_of_mem_take hz))
 rw [hH] at hln
 obtain ⟨hln0, hln1⟩ := hln
 have hw64 : IntKind.i64.wrap H.len = H.len := by simp [IntKind.wrap, IntKind.bits, IntKind.signed]; omega
 have HD := dhead_good (.slice va rs.length vc) rs (w.alloc (.cells #[.int .u16 0, .int .u8 0, .int .u8 0, .int .u32 0, .int .u32 0, .int .i32 0, .int .u16 0, .int .u16 0, .slice none 0 0] 95)) (hv.keepN ((Touch.refl _ w).alloc _)) hby hl H hH
 have hn1 : ¬ H.len < 20 := by omega
 clear hH hby hl hln0 hln1
 clear hv
 go_enter Tryz.func148, Tryz.ntmps148
 go_wp2_with fail
 refine Calls.mono HD ?_
 rintro e w1 ⟨rfl, t1⟩
 have R1 : Room w1 w.heap.size 9 := (Room.new w #[.int .u16 0, .int .u8 0, .int .u8 0, .int .u32 0, .int .u32 0, .int .i32 0, .int .u16 0, .int .u16 0, .slice none 0 0] 95).keep t1
 have T1 : Hid (Touch (fun _ => False) w w1) := ((Touch.refl _ w).alloc _).trans t1
 have hsz : w.heap.size < w1.heap.size := by have := t1.size; simp at this; omega
 clear t1 HD
 go_upto_region 8 with fail
 have R2 : Room (w1.alloc (.cells #[.int .u16 H.age, .int .u8 H.opts, .int .u8 H.typ, .int .u32 H.id, .int .u32 H.adv, .int .i32 H.seq, .int .u16 H.sum, .int .u16 H.len] 93)) w.heap.size 9 := R1.keep ((Touch.refl _ _).alloc _)
 have T2 : Hid (Touch (fun _ => False) w (w1.alloc (.cells #[.int .u16 H.age, .int .u8 H.opts, .int .u8 H.typ, .int .u32 H.id, .int .u32 H.adv, .int .i32 H.seq, .int .u16 H.sum, .int .u16 H.len] 93))) := T1.out.alloc _
 generalize w1.alloc (.cells #[.int .u16 H.age, .int .u8 H.opts, .int .u8 H.typ, .int .u32 H.id, .int .u32 H.adv, .int .i32 H.seq, .int .u16 H.sum, .int .u16 H.len] 93) = w2 at *
 obtain ⟨zz0, zc0, zf0⟩ := R2 0 (by omega)
 obtain ⟨zz1, zc1, zf1⟩ := R2 1 (by omega)
 obtain ⟨zz2, zc2, zf2⟩ := R2 2 (by omega)
 obtain ⟨zz3, zc3, zf3⟩ := R2 3 (by omega)
 obtain ⟨zz4, zc4, zf4⟩ := R2 4 (by omega)
 obtain ⟨zz5, zc5, zf5⟩ := R2 5 (by omega)
 obtain ⟨zz6, zc6, zf6⟩ := R2 6 (by omega)
 obtain ⟨zz7, zc7, zf7⟩ := R2 7 (by omega)
 obtain ⟨zz8, zc8, zf8⟩ := R2 8 (by omega)
 obtain ⟨wz, hwz⟩ : ∃ wz, wz = (((((((((w2.setCell ⟨w.heap.size, 0, none⟩ (.int .u16 0)).setCell ⟨w.heap.size, 1, none⟩ (.int .u8 0)).setCell ⟨w.heap.size, 2, none⟩ (.int .u8 0)).setCell ⟨w.heap.size, 3, none⟩ (.int .u32 0)).setCell ⟨w.heap.size, 4, none⟩ (.int .u32 0)).setCell ⟨w.heap.size, 5, none⟩ (.int .i32 0)).setCell ⟨w.heap.size, 6, none⟩ (.int .u16 0)).setCell ⟨w.heap.size, 7, none⟩ (.int .u16 0)).setCell ⟨w.heap.size, 8, none⟩ (.slice none 0 0)) := ⟨_, rfl⟩
 have zd0 : wz.cell? ⟨w.heap.size, 0, none⟩ = some (.int .u16 0) := by rw [hwz]; simp [zc0, go_sem]
 have zd1 : wz.cell? ⟨w.heap.size, 1, none⟩ = some (.int .u8 0) := by rw [hwz]; simp [zc1, go_sem]
 have zd2 : wz.cell? ⟨w.heap.size, 2, none⟩ = some (.int .u8 0) := by rw [hwz]; simp [zc2, go_sem]
 have zd3 : wz.cell? ⟨w.heap.size, 3, none⟩ = some (.int .u32 0) := by rw [hwz]; simp [zc3, go_sem]
 have zd4 : wz.cell? ⟨w.heap.size, 4, none⟩ = some (.int .u32 0) := by rw [hwz]; simp [zc4, go_sem]
 have zd5 : wz.cell? ⟨w.heap.size, 5, none⟩ = some (.int .i32 0) := by rw [hwz]; simp [zc5, go_sem]
 have zd6 : wz.cell? ⟨w.heap.size, 6, none⟩ = some (.int .u16 0) := by rw [hwz]; simp [zc6, go_sem]
 have zd7 : wz.cell? ⟨w.heap.size, 7, none⟩ = some (.int .u16 0) := by rw [hwz]; simp [zc7, go_sem]
 have zd8 : wz.cell? ⟨w.heap.size, 8, none⟩ = some (.slice none 0 0) := by rw [hwz]; simp [zc8, go_sem]
 have HUz : Hid (Touch (fun k => k = w.heap.size) w2 wz) := by show Touch _ _ _; rw [hwz]; refine Touch.setCell (F := fun k => k = w.heap.size) (p := ⟨w.heap.size, 8, none⟩) ?_ (Or.inl rfl) _; refine Touch.setCell (F := fun k => k = w.heap.size) (p := ⟨w.heap.size, 7, none⟩) ?_ (Or.inl rfl) _; refine Touch.setCell (F := fun k => k = w.heap.size) (p := ⟨w.heap.size, 6, none⟩) ?_ (Or.inl rfl) _; refine Touch.setCell (F := fun k => k = w.heap.size) (p := ⟨w.heap.size, 5, none⟩) ?_ (Or.inl rfl) _; refine Touch.setCell (F := fun k => k = w.heap.size) (p := ⟨w.heap.size, 4, none⟩) ?_ (Or.inl rfl) _; refine Touch.setCell (F := fun k => k = w.heap.size) (p := ⟨w.heap.size, 3, none⟩) ?_ (Or.inl rfl) _; refine Touch.setCell (F := fun k => k = w.heap.size) (p := ⟨w.heap.size, 2, none⟩) ?_ (Or.inl rfl) _; refine Touch.setCell (F := fun k => k = w.heap.size) (p := ⟨w.heap.size, 1, none⟩) ?_ (Or.inl rfl) _; refine Touch.setCell (F := fun k => k = w.heap.size) (p := ⟨w.heap.size, 0, none⟩) ?_ (Or.inl rfl) _; exact Touch.refl _ _
 have HWz : Hid (wz = (((((((((w2.setCell ⟨w.heap.size, 0, none⟩ (.int .u16 0)).setCell ⟨w.heap.size, 1, none⟩ (.int .u8 0)).setCell ⟨w.heap.size, 2, none⟩ (.int .u8 0)).setCell ⟨w.heap.size, 3, none⟩ (.int .u32 0)).setCell ⟨w.heap.size, 4, none⟩ (.int .u32 0)).setCell ⟨w.heap.size, 5, none⟩ (.int .i32 0)).setCell ⟨w.heap.size, 6, none⟩ (.int .u16 0)).setCell ⟨w.heap.size, 7, none⟩ (.int .u16 0)).setCell ⟨w.heap.size, 8, none⟩ (.slice none 0 0))) := hwz
 clear hwz
 go_wp2_with fail
 rw [← HWz.out]
 clear HWz zc0 zf0 zc1 zf1 zc2 zf2 zc3 zf3 zc4 zf4 zc5 zf5 zc6 zf6 zc7 zf7 zc8 zf8
 refine bodyPost_ret (v := .tuple #[.agg #[.int .u16 0, .int .u8 0, .int .u8 0, .int .u32 0, .int .u32 0, .int .i32 0, .int .u16 0, .int .u16 0, .slice none 0 0], .int .i64 0, .int .i64 10]) (by simp [results, Tryz.results148, go_sem, zd0, zd1, zd2, zd3, zd4, zd5, zd6, zd7, zd8]) rfl ?_
 exact ⟨rfl, T2.out.trans' HUz.out (fun i hi e => by omega)⟩

theorem dread_bad (v : Value) (rs : List Int) (w : World) (hv : ArgAt w v rs) (hby : ∀ z ∈ rs, 0 ≤ z ∧ z < 256) (he : readE rs ≠ 0) :
  Calls Tryz.prog 148 #[v] w fun e w' => e = .returned (.tuple #[.agg #[.int .u16 0, .int .u8 0, .int .u8 0, .int .u32 0, .int .u32 0, .int .i32 0, .int .u16 0, .int .u16 0, .slice none 0 0], .int .i64 0, .int .i64 (readE rs)]) ∧ Touch (fun _ => False) w w' := by
 by_cases h1 : rs.length < 20
 ·have e : readE rs = 10 := by simp [readE, h1]
  rw [e]
  exact dread_short v rs w hv h1
 ·by_cases h2 : (rdHead (rs.take 20)).len < 20
  ·have e : readE rs = 22 := by simp [readE, h1, h2]
   rw [e]
   exact dread_low v rs w hv hby (by omega) _ rfl h2
  ·by_cases h3 : (rs.length : Int) < (rdHead (rs.take 20)).len
   ·have e : readE rs = 10 := by simp [readE, h1, h2, h3]
    rw [e]
    exact dread_miss v rs w hv hby (by omega) _ rfl (by omega) h3
   ·simp [readE, h1, h2, h3] at he
end Go.Proofs.YtbfplepmgbkajaaGreatDoor
