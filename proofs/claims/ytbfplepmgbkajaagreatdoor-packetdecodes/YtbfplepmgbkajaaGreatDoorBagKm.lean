/- Contracts: Read's inner function. -/
import Derived.Test.YtbfplepmgbkajaaGreatDoorStHeadOf
import Derived.Test.YtbfplepmgbkajaaGreatDoorStRd3
import Derived.Deep.RegionHeld3
import Derived.Test.YtbfplepmgbkajaaGreatDoorStFace
import Derived.Deep.RegionLaw
import Derived.Deep.DrawnRows
import Derived.Test.YtbfplepmgbkajaaGreatDoorWideV
import Derived.Test.YtbfplepmgbkajaaGreatDoorNumber
import Derived.Deep.DeepCutAuto
import Derived.Test.YtbfplepmgbkajaaGreatDoorBagV
namespace Go.Proofs.YtbfplepmgbkajaaGreatDoor
open Go.RowKit
set_option linter.unusedVariables false
set_option maxRecDepth 100000

/-- b[i:j], j of sixteen bits. -/
theorem cut_mid_u {w : World} {va : Option Addr} {vc n : Nat} {rs : List Int} (h : ArgAt w (.slice va n vc) rs) (hn : n = rs.length) (hp : 0 < n) (i j : Nat) (hij : i ≤ j) (hj : j ≤ n) :
  ∃ v, (∀ w, Sem.run Tryz.prog (Instr.slice 40 (.slice va n vc) (some (.int .i64 (i : Int))) (some (.int .u16 (j : Int))) none) w = .ok v w) ∧ ArgAt w v ((rs.drop i).take (j - i)) := by
 subst hn
 have hr := h.row hp
 obtain ⟨ga, oa, rfl⟩ := rowAt_some hr hp
 obtain ⟨-, hc1, hc2⟩ := cap_of hr
 have hc2' : (vc : Int) ≤ 9223372036854775807 := by unfold maxLen at hc2; omega
 have h0 : (0 : Int) ≤ (i : Int) := by omega
 have h0' : (0 : Int) ≤ (j : Int) := by omega
 have h1 : (j : Int) ≤ (vc : Int) := by omega
 have h2 : (i : Int) ≤ (j : Int) := by omega
 by_cases hz : vc = i
 ·refine ⟨.slice (some ⟨ga, oa, none⟩) (j - i) (vc - i), fun w => ?_, ?_⟩
  ·simp [Instr.slice, Instr.sliceBounds, Instr.sliceBound, go_sem, h0, h0', hz]
   rw [if_pos (by omega), if_pos (by omega)]
  ·have : j - i = 0 := by omega
   rw [this, List.take_zero]
   exact empty_arg w _ _ (by unfold maxLen; omega)
 ·refine ⟨.slice (some ⟨ga, oa + i, none⟩) (j - i) (vc - i), fun w => ?_, (take_row (drop_row hr i (by omega)) (j - i) (by omega)).arg⟩
  simp [Instr.slice, Instr.sliceBounds, Instr.sliceBound, go_sem, h0, h0', hz]
  rw [if_pos (by omega), if_pos hij]
theorem rdHead_len {rs : List Int} (hb : ∀ x ∈ rs, 0 ≤ x ∧ x < 256) : 0 ≤ (rdHead rs).len ∧ (rdHead rs).len < 65536 := numAt_bound hb _ 2
theorem read1_short (gb : Nat) (v : Value) (rs : List Int) (w : World) (hc : w.cell? ⟨gb, 0, none⟩ = some v) (hv : ArgAt w v rs) (hby : ∀ z ∈ rs, 0 ≤ z ∧ z < 256) (hl : rs.length < 20) :
  Calls Tryz.prog 187 #[.pointer (some ⟨gb, 0, none⟩)] w fun e w' => e = .panicked (flawC 10) ∧ Touch (fun _ => False) w w' := by
 have HV' : Hid (ArgAt w v rs) := hv
 have HB : Hid (∀ z ∈ rs, 0 ≤ z ∧ z < 256) := hby
 obtain ⟨va, vc, rfl, hm⟩ := hv.form
 have hgl := lt_of_cell hc
 clear hv hby
 go_enter Tryz.func187, Tryz.ntmps187
 go_wp2_with fail
 refine Calls.mono (headOf_short _ rs _ (HV'.out.keepN ((Touch.refl _ _).alloc _)) HB.out hl (by omega)) ?_
 rintro e w1 ⟨rfl, t1⟩
 exact ⟨rfl, rfl, ((Touch.refl _ w).alloc _).trans t1⟩
theorem read1_low (gb : Nat) (v : Value) (rs : List Int) (w : World) (hc : w.cell? ⟨gb, 0, none⟩ = some v) (hv : ArgAt w v rs) (hby : ∀ z ∈ rs, 0 ≤ z ∧ z < 256) (hl : 20 ≤ rs.length) (hl2 : rs.length ≤ 1099511627776) (hlo : (rdHead (rs.take 20)).len < 20) :
  Calls Tryz.prog 187 #[.pointer (some ⟨gb, 0, none⟩)] w fun e w' => e = .panicked (flawC 22) ∧ Touch (fun _ => False) w w' := by
 have HV' : Hid (ArgAt w v rs) := hv
 have HB : Hid (∀ z ∈ rs, 0 ≤ z ∧ z < 256) := hby
 obtain ⟨va, vc, rfl, hm⟩ := hv.form
 have hgl := lt_of_cell hc
 have HH := fun w h => headOf_ok (.slice va rs.length vc) rs w h HB.out hl hl2
 generalize rdHead (rs.take 20) = H at *
 unfold HV.v at HH
 have hlo' : ¬ 20 ≤ H.len := by omega
 clear hv hby
 go_enter Tryz.func187, Tryz.ntmps187
 go_wp2_with fail
 refine Calls.mono (HH _ (HV'.out.keepN ((Touch.refl _ _).alloc _))) ?_
 rintro e w1 ⟨rfl, t1⟩
 have T1 : Hid (Touch (fun _ => False) w w1) := ((Touch.refl _ w).alloc _).trans t1
 clear t1 HH
 go_wp2_with fail
 refine Calls.mono (need_f _ 22 _ (by first | rfl | exact decide_eq_false (by omega))) ?_
 rintro e w2 ⟨rfl, rfl⟩
 exact ⟨rfl, rfl, T1.out.alloc _⟩
theorem read1_miss (gb : Nat) (v : Value) (rs : List Int) (w : World) (hc : w.cell? ⟨gb, 0, none⟩ = some v) (hv : ArgAt w v rs) (hby : ∀ z ∈ rs, 0 ≤ z ∧ z < 256) (hl : 20 ≤ rs.length) (hl2 : rs.length ≤ 1099511627776) (hlo : 20 ≤ (rdHead (rs.take 20)).len) (hhi : (rs.length : Int) < (rdHead (rs.take 20)).len) :
  Calls Tryz.prog 187 #[.pointer (some ⟨gb, 0, none⟩)] w fun e w' => e = .panicked (flawC 10) ∧ Touch (fun _ => False) w w' := by
 have HV' : Hid (ArgAt w v rs) := hv
 have HB : Hid (∀ z ∈ rs, 0 ≤ z ∧ z < 256) := hby
 have hln := rdHead_len (rs := rs.take 20) (fun z hz => hby z (List.mem_of_mem_take hz))
 obtain ⟨va, vc, rfl, hm⟩ := hv.form
 have hgl := lt_of_cell hc
 have HH := fun w h => headOf_ok (.slice va rs.length vc) rs w h HB.out hl hl2
 generalize rdHead (rs.take 20) = H at *
 unfold HV.v at HH
 obtain ⟨hln0, hln1⟩ := hln
 have hw64 : IntKind.i64.wrap H.len = H.len := by simp [IntKind.wrap, IntKind.bits, IntKind.signed]; omega
 have hhi' : ¬ H.len ≤ (rs.length : Int) := by omega
 clear hv hby
 go_enter Tryz.func187, Tryz.ntmps187
 go_wp2_with fail
 refine Calls.mono (HH _ (HV'.out.keepN ((Touch.refl _ _).alloc _))) ?_
 rintro e w1 ⟨rfl, t1⟩
 have T1 : Hid (Touch (fun _ => False) w w1) := ((Touch.refl _ w).alloc _).trans t1
 have hc1 : w1.cell? ⟨gb, 0, none⟩ = some (.slice va rs.length vc) := T1.out.cellN hc
 have hg1 : gb < w1.heap.size := lt_of_cell hc1
 have hn1 : ¬ gb = w1.heap.size := by omega
 have hn2 : ¬ w1.heap.size = gb := by omega
 clear t1 HH hc
 go_wp2_with fail
 refine Calls.mono (need_t _ 22 _ (by first | rfl | exact decide_eq_true hlo)) ?_
 rintro e w2 ⟨rfl, rfl⟩
 go_wp2_with fail
 refine Calls.mono (need_f _ 10 _ (by first | rfl | exact decide_eq_false (by omega))) ?_
 rintro e w2 ⟨rfl, rfl⟩
 exact ⟨rfl, rfl, T1.out.alloc _⟩
theorem cell_far {w : World} {g g' : Nat} (hne : g ≠ g') (i j : Nat) (u : Value) : (w.setCell ⟨g', j, none⟩ u).cell? ⟨g, i, none⟩ = w.cell? ⟨g, i, none⟩ :=
 World.cell?_of_block (w := w) (a := ⟨g, i, none⟩) (Below.heap_setCell _ _ _ _ (fun e => hne e))
theorem cell_far9 {w : World} {g g' : Nat} (hne : g ≠ g') (i : Nat) (u0 u1 u2 u3 u4 u5 u6 u7 u8 : Value) : ((((((((((w.setCell ⟨g', 0, none⟩ u0).setCell ⟨g', 1, none⟩ u1).setCell ⟨g', 2, none⟩ u2).setCell ⟨g', 3, none⟩ u3).setCell ⟨g', 4, none⟩ u4).setCell ⟨g', 5, none⟩ u5).setCell ⟨g', 6, none⟩ u6).setCell ⟨g', 7, none⟩ u7).setCell ⟨g', 8, none⟩ u8)).cell? ⟨g, i, none⟩ = w.cell? ⟨g, i, none⟩ := by
 rw [cell_far hne, cell_far hne, cell_far hne, cell_far hne, cell_far hne, cell_far hne, cell_far hne, cell_far hne, cell_far hne]
set_option maxHeartbeats 4000000 in
theorem read1_ok (gb : Nat) (v : Value) (rs : List Int) (w : World) (hc : w.cell? ⟨gb, 0, none⟩ = some v) (hv : ArgAt w v rs) (hby : ∀ z ∈ rs, 0 ≤ z ∧ z < 256) (hl : 20 ≤ rs.length) (hl2 : rs.length ≤ 1099511627776) (H : HV) (hH : rdHead (rs.take 20) = H) (hlo : 20 ≤ H.len) (hhi : H.len ≤ (rs.length : Int)) :
  Calls Tryz.prog 187 #[.pointer (some ⟨gb, 0, none⟩)] w fun e w' => ∃ u, e = .returned (H.sv u) ∧ Buf w w' u ((rs.drop 20).take (H.len.toNat - 20)) := by
 have HV' : Hid (ArgAt w v rs) := hv
 have HB : Hid (∀ z ∈ rs, 0 ≤ z ∧ z < 256) := hby
 have hln := rdHead_len (rs := rs.take 20) (fun z hz => hby z (List.mem_of_mem_take hz))
 obtain ⟨va, vc, rfl, hm⟩ := hv.form
 have hgl := lt_of_cell hc
 have HH := fun w h => headOf_ok (.slice va rs.length vc) rs w h HB.out hl hl2
 rw [hH] at HH hln
 clear hH
 unfold HV.v at HH
 obtain ⟨hln0, hln1⟩ := hln
 obtain ⟨u, hu, hua⟩ := cut_mid_u hv rfl (by omega) 20 H.len.toNat (by omega) (by omega)
 have hj : ((H.len.toNat : Nat) : Int) = H.len := by omega
 rw [hj] at hu
 replace hu : ∀ w, Sem.run Tryz.prog (Instr.slice 40 (.slice va rs.length vc) (some (.int .i64 20)) (some (.int .u16 H.len)) none) w = .ok u w := hu
 have HLL : Hid (((rs.drop 20).take (H.len.toNat - 20)).length ≤ 1099511627776) := by show _ ≤ _; simp; omega
 have HUA : Hid (ArgAt w u ((rs.drop 20).take (H.len.toNat - 20))) := hua
 generalize (rs.drop 20).take (H.len.toNat - 20) = bd at HLL HUA ⊢
 have hw64 : IntKind.i64.wrap H.len = H.len := by simp [IntKind.wrap, IntKind.bits, IntKind.signed]; omega
 clear hv hby hua hj
 go_enter Tryz.func187, Tryz.ntmps187
 go_wp2_with fail
 refine Calls.mono (HH _ (HV'.out.keepN ((Touch.refl _ _).alloc _))) ?_
 rintro e w1 ⟨rfl, t1⟩
 have T1 : Hid (Touch (fun _ => False) w w1) := ((Touch.refl _ w).alloc _).trans t1
 have R1 : Hid (Room w1 w.heap.size 9) := (Room.new w #[.int .u16 0, .int .u8 0, .int .u8 0, .int .u32 0, .int .u32 0, .int .i32 0, .int .u16 0, .int .u16 0, .slice none 0 0] 95).keep t1
 have hc1 : w1.cell? ⟨gb, 0, none⟩ = some (.slice va rs.length vc) := T1.out.cellN hc
 have hg1 : gb < w1.heap.size := lt_of_cell hc1
 have hgw : w.heap.size < w1.heap.size := by have := t1.size; simp at this; omega
 have hn1 : ¬ gb = w1.heap.size := by omega
 have hn2 : ¬ w1.heap.size = gb := by omega
 clear t1 HH hc
 go_wp2_with fail
 refine Calls.mono (need_t _ 22 _ (by first | rfl | exact decide_eq_true hlo)) ?_
 rintro e w2 ⟨rfl, rfl⟩
 go_wp2_with fail
 refine Calls.mono (need_t _ 10 _ (by first | rfl | exact decide_eq_true hhi)) ?_
 rintro e w2 ⟨rfl, rfl⟩
 go_upto_region 4 with fail
 have HD2 : Hid (Hd (w1.alloc (.cells #[.int .u16 H.age, .int .u8 H.opts, .int .u8 H.typ, .int .u32 H.id, .int .u32 H.adv, .int .i32 H.seq, .int .u16 H.sum, .int .u16 H.len] 93)) w1.heap.size H) := Hd.new w1 H _
 have hc2 : (w1.alloc (.cells #[.int .u16 H.age, .int .u8 H.opts, .int .u8 H.typ, .int .u32 H.id, .int .u32 H.adv, .int .i32 H.seq, .int .u16 H.sum, .int .u16 H.len] 93)).cell? ⟨gb, 0, none⟩ = some (.slice va rs.length vc) := ((Touch.refl _ _).alloc _).cellN hc1
 have R2 : Hid (Room (w1.alloc (.cells #[.int .u16 H.age, .int .u8 H.opts, .int .u8 H.typ, .int .u32 H.id, .int .u32 H.adv, .int .i32 H.seq, .int .u16 H.sum, .int .u16 H.len] 93)) w.heap.size 9) := R1.out.keep ((Touch.refl _ _).alloc _)
 have T2 : Hid (Touch (fun _ => False) w (w1.alloc (.cells #[.int .u16 H.age, .int .u8 H.opts, .int .u8 H.typ, .int .u32 H.id, .int .u32 H.adv, .int .i32 H.seq, .int .u16 H.sum, .int .u16 H.len] 93))) := T1.out.alloc _
 have hgw2 : w.heap.size < (w1.alloc (.cells #[.int .u16 H.age, .int .u8 H.opts, .int .u8 H.typ, .int .u32 H.id, .int .u32 H.adv, .int .i32 H.seq, .int .u16 H.sum, .int .u16 H.len] 93)).heap.size := by simp; omega
 generalize w1.alloc (.cells #[.int .u16 H.age, .int .u8 H.opts, .int .u8 H.typ, .int .u32 H.id, .int .u32 H.adv, .int .i32 H.seq, .int .u16 H.sum, .int .u16 H.len] 93) = w2 at *
 obtain ⟨e0, e1, e2, e3, e4, e5, e6, e7⟩ := HD2.out.keep ((Touch.refl (fun _ => False) w2).drew)
 have e8 : w2.drew.cell? ⟨gb, 0, none⟩ = some (.slice va rs.length vc) := hc2
 have hq1 : gb ≠ w.heap.size := by omega
 have hq2 : w1.heap.size ≠ w.heap.size := by omega
 clear hc1 hc2
 generalize hG : w.heap.size = gr at *
 have HG : Hid (w.heap.size = gr) := hG
 clear hG
 generalize w1.heap.size = gh at *
 clear hgw hn1 hn2
 go_region_held3 (fun w' => w'.cell? ⟨gh, 0, none⟩ = some (.int .u16 H.age) ∧ w'.cell? ⟨gh, 1, none⟩ = some (.int .u8 H.opts) ∧ w'.cell? ⟨gh, 2, none⟩ = some (.int .u8 H.typ) ∧ w'.cell? ⟨gh, 3, none⟩ = some (.int .u32 H.id) ∧ w'.cell? ⟨gh, 4, none⟩ = some (.int .u32 H.adv) ∧ w'.cell? ⟨gh, 5, none⟩ = some (.int .i32 H.seq) ∧ w'.cell? ⟨gh, 6, none⟩ = some (.int .u16 H.sum) ∧ w'.cell? ⟨gh, 7, none⟩ = some (.int .u16 H.len) ∧ w'.cell? ⟨gb, 0, none⟩ = some (.slice va rs.length vc)) (first | with_reducible exact ⟨e0, e1, e2, e3, e4, e5, e6, e7, e8⟩ | with_reducible exact ⟨y0, y1, y2, y3, y4, y5, y6, y7, y8⟩ | with_reducible exact ⟨(cell_far9 hq2 0 _ _ _ _ _ _ _ _ _).trans y0, (cell_far9 hq2 1 _ _ _ _ _ _ _ _ _).trans y1, (cell_far9 hq2 2 _ _ _ _ _ _ _ _ _).trans y2, (cell_far9 hq2 3 _ _ _ _ _ _ _ _ _).trans y3, (cell_far9 hq2 4 _ _ _ _ _ _ _ _ _).trans y4, (cell_far9 hq2 5 _ _ _ _ _ _ _ _ _).trans y5, (cell_far9 hq2 6 _ _ _ _ _ _ _ _ _).trans y6, (cell_far9 hq2 7 _ _ _ _ _ _ _ _ _).trans y7, (cell_far9 hq1 0 _ _ _ _ _ _ _ _ _).trans y8⟩) (first
  | (go_at_call 137; refine Calls.mono (clone_arg u bd _ (HUA.out.keepN (T2.out.drew)) HLL.out) ?_; rintro e w3 ⟨u3, rfl, b3⟩; obtain ⟨xa, xc, rfl⟩ := b3.form; obtain ⟨y0, y1, y2, y3, y4, y5, y6, y7⟩ := Hd.keep ⟨e0, e1, e2, e3, e4, e5, e6, e7⟩ b3.t; have y8 := b3.t.cellN e8; have B3 : Hid (Buf w w3 _ bd) := b3.back (T2.out.drew); have B3n : Hid (∀ k, (Value.slice xa bd.length xc).ownBlock = some k → k ≠ gr) := (fun k hk e => by have h1 := (b3.own.lt k hk).1; have h2 : w2.drew.heap.size = w2.heap.size := rfl; omega); have R3 := (R2.out.keep ((Touch.refl (fun _ => False) w2).drew)).keep b3.t; clear b3; obtain ⟨zz0, zc0, zf0⟩ := R3 0 (by omega); obtain ⟨zz1, zc1, zf1⟩ := R3 1 (by omega); obtain ⟨zz2, zc2, zf2⟩ := R3 2 (by omega); obtain ⟨zz3, zc3, zf3⟩ := R3 3 (by omega); obtain ⟨zz4, zc4, zf4⟩ := R3 4 (by omega); obtain ⟨zz5, zc5, zf5⟩ := R3 5 (by omega); obtain ⟨zz6, zc6, zf6⟩ := R3 6 (by omega); obtain ⟨zz7, zc7, zf7⟩ := R3 7 (by omega); obtain ⟨zz8, zc8, zf8⟩ := R3 8 (by omega); clear R3))
 clear e0 e1 e2 e3 e4 e5 e6 e7 e8 y0 y1 y2 y3 y4 y5 y6 y7 y8
 obtain ⟨wz, hwz⟩ : ∃ wz, wz = (((((((((w3.setCell ⟨gr, 0, none⟩ (.int .u16 H.age)).setCell ⟨gr, 1, none⟩ (.int .u8 H.opts)).setCell ⟨gr, 2, none⟩ (.int .u8 H.typ)).setCell ⟨gr, 3, none⟩ (.int .u32 H.id)).setCell ⟨gr, 4, none⟩ (.int .u32 H.adv)).setCell ⟨gr, 5, none⟩ (.int .i32 H.seq)).setCell ⟨gr, 6, none⟩ (.int .u16 H.sum)).setCell ⟨gr, 7, none⟩ (.int .u16 H.len)).setCell ⟨gr, 8, none⟩ (.slice xa bd.length xc)) := ⟨_, rfl⟩
 have zd0 : wz.cell? ⟨gr, 0, none⟩ = some (.int .u16 H.age) := by rw [hwz]; simp [zc0, go_sem]
 have zd1 : wz.cell? ⟨gr, 1, none⟩ = some (.int .u8 H.opts) := by rw [hwz]; simp [zc1, go_sem]
 have zd2 : wz.cell? ⟨gr, 2, none⟩ = some (.int .u8 H.typ) := by rw [hwz]; simp [zc2, go_sem]
 have zd3 : wz.cell? ⟨gr, 3, none⟩ = some (.int .u32 H.id) := by rw [hwz]; simp [zc3, go_sem]
 have zd4 : wz.cell? ⟨gr, 4, none⟩ = some (.int .u32 H.adv) := by rw [hwz]; simp [zc4, go_sem]
 have zd5 : wz.cell? ⟨gr, 5, none⟩ = some (.int .i32 H.seq) := by rw [hwz]; simp [zc5, go_sem]
 have zd6 : wz.cell? ⟨gr, 6, none⟩ = some (.int .u16 H.sum) := by rw [hwz]; simp [zc6, go_sem]
 have zd7 : wz.cell? ⟨gr, 7, none⟩ = some (.int .u16 H.len) := by rw [hwz]; simp [zc7, go_sem]
 have zd8 : wz.cell? ⟨gr, 8, none⟩ = some (.slice xa bd.length xc) := by rw [hwz]; simp [zc8, go_sem]
 have HUz : Hid (Touch (fun k => k = gr) w3 wz) := by show Touch _ _ _; rw [hwz]; refine Touch.setCell (F := fun k => k = gr) (p := ⟨gr, 8, none⟩) ?_ (Or.inl rfl) _; refine Touch.setCell (F := fun k => k = gr) (p := ⟨gr, 7, none⟩) ?_ (Or.inl rfl) _; refine Touch.setCell (F := fun k => k = gr) (p := ⟨gr, 6, none⟩) ?_ (Or.inl rfl) _; refine Touch.setCell (F := fun k => k = gr) (p := ⟨gr, 5, none⟩) ?_ (Or.inl rfl) _; refine Touch.setCell (F := fun k => k = gr) (p := ⟨gr, 4, none⟩) ?_ (Or.inl rfl) _; refine Touch.setCell (F := fun k => k = gr) (p := ⟨gr, 3, none⟩) ?_ (Or.inl rfl) _; refine Touch.setCell (F := fun k => k = gr) (p := ⟨gr, 2, none⟩) ?_ (Or.inl rfl) _; refine Touch.setCell (F := fun k => k = gr) (p := ⟨gr, 1, none⟩) ?_ (Or.inl rfl) _; refine Touch.setCell (F := fun k => k = gr) (p := ⟨gr, 0, none⟩) ?_ (Or.inl rfl) _; exact Touch.refl _ _
 rw [← hwz]
 clear hwz zc0 zf0 zc1 zf1 zc2 zf2 zc3 zf3 zc4 zf4 zc5 zf5 zc6 zf6 zc7 zf7 zc8 zf8
 go_wp2_with fail
 refine bodyPost_ret (v := .agg #[.int .u16 H.age, .int .u8 H.opts, .int .u8 H.typ, .int .u32 H.id, .int .u32 H.adv, .int .i32 H.seq, .int .u16 H.sum, .int .u16 H.len, .slice xa bd.length xc]) (by simp [results, Tryz.results187, go_sem, zd0, zd1, zd2, zd3, zd4, zd5, zd6, zd7, zd8]) rfl ?_
 exact ⟨_, rfl, ⟨own_touch B3.out.own HUz.out (fun k hk e => B3n.out k hk e), B3.out.t.trans' HUz.out (fun i hi e => by have := HG.out; omega)⟩⟩
end Go.Proofs.YtbfplepmgbkajaaGreatDoor

namespace Go.Proofs.YtbfplepmgbkajaaGreatDoor
open Go.RowKit
set_option linter.unusedVariables false
set_option maxRecDepth 100000

theorem Room.set {w : World} {g n : Nat} (h : Room w g n) (j : Nat) (u : Value) : Room (w.setCell ⟨g, j, none⟩ u) g n := fun i hi => by
 obtain ⟨v, hc, hf⟩ := h i hi
 by_cases e : i = j
 ·subst e; exact ⟨u, by simp [hc, go_sem], by simp [hf, go_sem]⟩
 ·exact ⟨v, by simp [hc, go_sem], by simp [hf, go_sem]⟩
set_option maxHeartbeats 1000000 in
theorem read_good (v : Value) (rs : List Int) (w : World) (hv : ArgAt w v rs) (hby : ∀ z ∈ rs, 0 ≤ z ∧ z < 256) (hl : 20 ≤ rs.length) (hl2 : rs.length ≤ 1099511627776) (H : HV) (hH : rdHead (rs.take 20) = H) (hlo : 20 ≤ H.len) (hhi : H.len ≤ (rs.length : Int)) :
  Calls Tryz.prog 176 #[v] w fun e w' => ∃ u, e = .returned (.tuple #[H.sv u, .int .i64 H.len, .int .i64 0]) ∧ Buf w w' u ((rs.drop 20).take (H.len.toNat - 20)) := by
 obtain ⟨va, vc, rfl, hm⟩ := hv.form
 have hmf : ∀ (fn : Fn) (first cap : Array Value) (w : World), (Instr.makeFunc fn first cap).run Tryz.prog w = .ok (.func fn first cap) w := fun _ _ _ _ => rfl
 have hln := rdHead_len (rs := rs.take 20) (fun z hz => hby z (List.mem_of_mem_take hz))
 rw [hH] at hln
 obtain ⟨hln0, hln1⟩ := hln
 have hw64 : IntKind.i64.wrap H.len = H.len := by simp [IntKind.wrap, IntKind.bits, IntKind.signed]; omega
 have HC := read1_ok w.heap.size (.slice va rs.length vc) rs ((((w.alloc (.cells #[.slice va rs.length vc] 40)).alloc (.cells #[.int .u16 0, .int .u8 0, .int .u8 0, .int .u32 0, .int .u32 0, .int .i32 0, .int .u16 0, .int .u16 0, .slice none 0 0] 95)).alloc (.cells #[.int .u16 0, .int .u8 0, .int .u8 0, .int .u32 0, .int .u32 0, .int .i32 0, .int .u16 0, .int .u16 0, .slice none 0 0] 95)).alloc (.cells #[.int .i64 0] 41)) (by simp [go_sem]) (hv.keepN (((((Touch.refl _ w).alloc _).alloc _).alloc _).alloc _)) hby hl hl2 H hH hlo hhi
 generalize (rs.drop 20).take (H.len.toNat - 20) = bd at HC ⊢
 clear hH hlo hhi hl hby hv
 have HF := faceS_ok 187 #[.pointer (some ⟨w.heap.size, 0, none⟩)] (fun _ => rfl) ((w.alloc (.cells #[.slice va rs.length vc] 40)).alloc (.cells #[.int .u16 0, .int .u8 0, .int .u8 0, .int .u32 0, .int .u32 0, .int .i32 0, .int .u16 0, .int .u16 0, .slice none 0 0] 95)) H.age H.opts H.typ H.id H.adv H.seq H.sum H.len (fun u w' => w'.ownsRow (w.heap.size + 4) 5 1 u bd.length (bytesOf bd)) (HC.mono (by
  rintro e w' ⟨u, rfl, b⟩
  obtain ⟨xa, xc, rfl⟩ := b.form
  exact ⟨xa, bd.length, xc, rfl, b.t, by have := b.own; simpa using this⟩)) (by
  intro a n c w1 w2 hk _ t
  simp only [World.size_alloc] at t
  exact own_touch hk t (fun k hkk e => by have := (hk.lt k hkk).1; omega))
 clear HC
 go_enter Tryz.func176, Tryz.ntmps176
 go_wp2_with fail
 refine Calls.mono HF ?_
 rintro e w1 ⟨a, n, c, rfl, t1, hk⟩
 have HKK : Hid (w1.ownsRow (w.heap.size + 4) 5 1 (.slice a n c) bd.length (bytesOf bd)) := hk
 clear HF hk hmf
 have R1 : Room w1 (w.heap.size + 1) 9 := by
  have := (Room.new (w.alloc (.cells #[.slice va rs.length vc] 40)) #[.int .u16 0, .int .u8 0, .int .u8 0, .int .u32 0, .int .u32 0, .int .i32 0, .int .u16 0, .int .u16 0, .slice none 0 0] 95).keep t1
  simpa using this
 obtain ⟨zz0, zc0, zf0⟩ := R1 0 (by omega)
 obtain ⟨zz1, zc1, zf1⟩ := R1 1 (by omega)
 obtain ⟨zz2, zc2, zf2⟩ := R1 2 (by omega)
 obtain ⟨zz3, zc3, zf3⟩ := R1 3 (by omega)
 obtain ⟨zz4, zc4, zf4⟩ := R1 4 (by omega)
 obtain ⟨zz5, zc5, zf5⟩ := R1 5 (by omega)
 obtain ⟨zz6, zc6, zf6⟩ := R1 6 (by omega)
 obtain ⟨zz7, zc7, zf7⟩ := R1 7 (by omega)
 obtain ⟨zz8, zc8, zf8⟩ := R1 8 (by omega)
 obtain ⟨w3, hw3⟩ : ∃ w3, w3 = (((((((((w1.setCell ⟨(w.heap.size + 1), 0, none⟩ (.int .u16 H.age)).setCell ⟨(w.heap.size + 1), 1, none⟩ (.int .u8 H.opts)).setCell ⟨(w.heap.size + 1), 2, none⟩ (.int .u8 H.typ)).setCell ⟨(w.heap.size + 1), 3, none⟩ (.int .u32 H.id)).setCell ⟨(w.heap.size + 1), 4, none⟩ (.int .u32 H.adv)).setCell ⟨(w.heap.size + 1), 5, none⟩ (.int .i32 H.seq)).setCell ⟨(w.heap.size + 1), 6, none⟩ (.int .u16 H.sum)).setCell ⟨(w.heap.size + 1), 7, none⟩ (.int .u16 H.len)).setCell ⟨(w.heap.size + 1), 8, none⟩ (.slice a n c)) := ⟨_, rfl⟩
 have xd0 : w3.cell? ⟨w.heap.size + 1, 0, none⟩ = some (.int .u16 H.age) := by rw [hw3]; simp [zc0, go_sem]
 have xd1 : w3.cell? ⟨w.heap.size + 1, 1, none⟩ = some (.int .u8 H.opts) := by rw [hw3]; simp [zc1, go_sem]
 have xd2 : w3.cell? ⟨w.heap.size + 1, 2, none⟩ = some (.int .u8 H.typ) := by rw [hw3]; simp [zc2, go_sem]
 have xd3 : w3.cell? ⟨w.heap.size + 1, 3, none⟩ = some (.int .u32 H.id) := by rw [hw3]; simp [zc3, go_sem]
 have xd4 : w3.cell? ⟨w.heap.size + 1, 4, none⟩ = some (.int .u32 H.adv) := by rw [hw3]; simp [zc4, go_sem]
 have xd5 : w3.cell? ⟨w.heap.size + 1, 5, none⟩ = some (.int .i32 H.seq) := by rw [hw3]; simp [zc5, go_sem]
 have xd6 : w3.cell? ⟨w.heap.size + 1, 6, none⟩ = some (.int .u16 H.sum) := by rw [hw3]; simp [zc6, go_sem]
 have xd7 : w3.cell? ⟨w.heap.size + 1, 7, none⟩ = some (.int .u16 H.len) := by rw [hw3]; simp [zc7, go_sem]
 have xd8 : w3.cell? ⟨w.heap.size + 1, 8, none⟩ = some (.slice a n c) := by rw [hw3]; simp [zc8, go_sem]
 have R3 : Hid (Room w3 (w.heap.size + 1) 9) := by show Room _ _ _; rw [hw3]; exact (((((((((R1.set 0 _).set 1 _).set 2 _).set 3 _).set 4 _).set 5 _).set 6 _).set 7 _).set 8 _)
 have U3 : Hid (Touch (fun k => k = w.heap.size + 1) w1 w3) := by show Touch _ _ _; rw [hw3]; refine Touch.setCell (F := fun k => k = w.heap.size + 1) (p := ⟨w.heap.size + 1, 8, none⟩) ?_ (Or.inl rfl) _; refine Touch.setCell (F := fun k => k = w.heap.size + 1) (p := ⟨w.heap.size + 1, 7, none⟩) ?_ (Or.inl rfl) _; refine Touch.setCell (F := fun k => k = w.heap.size + 1) (p := ⟨w.heap.size + 1, 6, none⟩) ?_ (Or.inl rfl) _; refine Touch.setCell (F := fun k => k = w.heap.size + 1) (p := ⟨w.heap.size + 1, 5, none⟩) ?_ (Or.inl rfl) _; refine Touch.setCell (F := fun k => k = w.heap.size + 1) (p := ⟨w.heap.size + 1, 4, none⟩) ?_ (Or.inl rfl) _; refine Touch.setCell (F := fun k => k = w.heap.size + 1) (p := ⟨w.heap.size + 1, 3, none⟩) ?_ (Or.inl rfl) _; refine Touch.setCell (F := fun k => k = w.heap.size + 1) (p := ⟨w.heap.size + 1, 2, none⟩) ?_ (Or.inl rfl) _; refine Touch.setCell (F := fun k => k = w.heap.size + 1) (p := ⟨w.heap.size + 1, 1, none⟩) ?_ (Or.inl rfl) _; refine Touch.setCell (F := fun k => k = w.heap.size + 1) (p := ⟨w.heap.size + 1, 0, none⟩) ?_ (Or.inl rfl) _; exact Touch.refl _ _
 have HT1 : Hid (Touch (fun _ => False) ((w.alloc (.cells #[.slice va rs.length vc] 40)).alloc (.cells #[.int .u16 0, .int .u8 0, .int .u8 0, .int .u32 0, .int .u32 0, .int .i32 0, .int .u16 0, .int .u16 0, .slice none 0 0] 95)) w1) := t1
 have HW3 : Hid (w3 = (((((((((w1.setCell ⟨(w.heap.size + 1), 0, none⟩ (.int .u16 H.age)).setCell ⟨(w.heap.size + 1), 1, none⟩ (.int .u8 H.opts)).setCell ⟨(w.heap.size + 1), 2, none⟩ (.int .u8 H.typ)).setCell ⟨(w.heap.size + 1), 3, none⟩ (.int .u32 H.id)).setCell ⟨(w.heap.size + 1), 4, none⟩ (.int .u32 H.adv)).setCell ⟨(w.heap.size + 1), 5, none⟩ (.int .i32 H.seq)).setCell ⟨(w.heap.size + 1), 6, none⟩ (.int .u16 H.sum)).setCell ⟨(w.heap.size + 1), 7, none⟩ (.int .u16 H.len)).setCell ⟨(w.heap.size + 1), 8, none⟩ (.slice a n c))) := hw3
 clear hw3 t1 R1
 go_upto_region 2 with fail
 rw [← HW3.out]
 clear HW3 zc0 zf0 zc1 zf1 zc2 zf2 zc3 zf3 zc4 zf4 zc5 zf5 zc6 zf6 zc7 zf7 zc8 zf8
 have HTA : Hid (Touch (fun _ => False) w ((w.alloc (.cells #[.slice va rs.length vc] 40)).alloc (.cells #[.int .u16 0, .int .u8 0, .int .u8 0, .int .u32 0, .int .u32 0, .int .i32 0, .int .u16 0, .int .u16 0, .slice none 0 0] 95))) := ((Touch.refl _ w).alloc _).alloc _
 generalize hg : w.heap.size + 1 = g at *
 have HG : Hid (w.heap.size + 1 = g) := hg
 clear hg
 obtain ⟨zz0, zc0, zf0⟩ := R3.out 0 (by omega)
 obtain ⟨zz1, zc1, zf1⟩ := R3.out 1 (by omega)
 obtain ⟨zz2, zc2, zf2⟩ := R3.out 2 (by omega)
 obtain ⟨zz3, zc3, zf3⟩ := R3.out 3 (by omega)
 obtain ⟨zz4, zc4, zf4⟩ := R3.out 4 (by omega)
 obtain ⟨zz5, zc5, zf5⟩ := R3.out 5 (by omega)
 obtain ⟨zz6, zc6, zf6⟩ := R3.out 6 (by omega)
 obtain ⟨zz7, zc7, zf7⟩ := R3.out 7 (by omega)
 obtain ⟨zz8, zc8, zf8⟩ := R3.out 8 (by omega)
 obtain ⟨wz, hwz⟩ : ∃ wz, wz = (((((((((w3.setCell ⟨g, 0, none⟩ (.int .u16 H.age)).setCell ⟨g, 1, none⟩ (.int .u8 H.opts)).setCell ⟨g, 2, none⟩ (.int .u8 H.typ)).setCell ⟨g, 3, none⟩ (.int .u32 H.id)).setCell ⟨g, 4, none⟩ (.int .u32 H.adv)).setCell ⟨g, 5, none⟩ (.int .i32 H.seq)).setCell ⟨g, 6, none⟩ (.int .u16 H.sum)).setCell ⟨g, 7, none⟩ (.int .u16 H.len)).setCell ⟨g, 8, none⟩ (.slice a n c)) := ⟨_, rfl⟩
 have zd0 : wz.cell? ⟨g, 0, none⟩ = some (.int .u16 H.age) := by rw [hwz]; simp [zc0, go_sem]
 have zd1 : wz.cell? ⟨g, 1, none⟩ = some (.int .u8 H.opts) := by rw [hwz]; simp [zc1, go_sem]
 have zd2 : wz.cell? ⟨g, 2, none⟩ = some (.int .u8 H.typ) := by rw [hwz]; simp [zc2, go_sem]
 have zd3 : wz.cell? ⟨g, 3, none⟩ = some (.int .u32 H.id) := by rw [hwz]; simp [zc3, go_sem]
 have zd4 : wz.cell? ⟨g, 4, none⟩ = some (.int .u32 H.adv) := by rw [hwz]; simp [zc4, go_sem]
 have zd5 : wz.cell? ⟨g, 5, none⟩ = some (.int .i32 H.seq) := by rw [hwz]; simp [zc5, go_sem]
 have zd6 : wz.cell? ⟨g, 6, none⟩ = some (.int .u16 H.sum) := by rw [hwz]; simp [zc6, go_sem]
 have zd7 : wz.cell? ⟨g, 7, none⟩ = some (.int .u16 H.len) := by rw [hwz]; simp [zc7, go_sem]
 have zd8 : wz.cell? ⟨g, 8, none⟩ = some (.slice a n c) := by rw [hwz]; simp [zc8, go_sem]
 have HUz : Hid (Touch (fun k => k = g) w3 wz) := by show Touch _ _ _; rw [hwz]; refine Touch.setCell (F := fun k => k = g) (p := ⟨g, 8, none⟩) ?_ (Or.inl rfl) _; refine Touch.setCell (F := fun k => k = g) (p := ⟨g, 7, none⟩) ?_ (Or.inl rfl) _; refine Touch.setCell (F := fun k => k = g) (p := ⟨g, 6, none⟩) ?_ (Or.inl rfl) _; refine Touch.setCell (F := fun k => k = g) (p := ⟨g, 5, none⟩) ?_ (Or.inl rfl) _; refine Touch.setCell (F := fun k => k = g) (p := ⟨g, 4, none⟩) ?_ (Or.inl rfl) _; refine Touch.setCell (F := fun k => k = g) (p := ⟨g, 3, none⟩) ?_ (Or.inl rfl) _; refine Touch.setCell (F := fun k => k = g) (p := ⟨g, 2, none⟩) ?_ (Or.inl rfl) _; refine Touch.setCell (F := fun k => k = g) (p := ⟨g, 1, none⟩) ?_ (Or.inl rfl) _; refine Touch.setCell (F := fun k => k = g) (p := ⟨g, 0, none⟩) ?_ (Or.inl rfl) _; exact Touch.refl _ _
 have HWz : Hid (wz = (((((((((w3.setCell ⟨g, 0, none⟩ (.int .u16 H.age)).setCell ⟨g, 1, none⟩ (.int .u8 H.opts)).setCell ⟨g, 2, none⟩ (.int .u8 H.typ)).setCell ⟨g, 3, none⟩ (.int .u32 H.id)).setCell ⟨g, 4, none⟩ (.int .u32 H.adv)).setCell ⟨g, 5, none⟩ (.int .i32 H.seq)).setCell ⟨g, 6, none⟩ (.int .u16 H.sum)).setCell ⟨g, 7, none⟩ (.int .u16 H.len)).setCell ⟨g, 8, none⟩ (.slice a n c))) := hwz
 clear hwz
 go_wp2_with fail
 rw [← HWz.out]
 clear HWz zc0 zf0 zc1 zf1 zc2 zf2 zc3 zf3 zc4 zf4 zc5 zf5 zc6 zf6 zc7 zf7 zc8 zf8
 refine bodyPost_ret (v := .tuple #[.agg #[.int .u16 H.age, .int .u8 H.opts, .int .u8 H.typ, .int .u32 H.id, .int .u32 H.adv, .int .i32 H.seq, .int .u16 H.sum, .int .u16 H.len, .slice a n c], .int .i64 H.len, .int .i64 0]) (by simp [results, Tryz.results176, go_sem, zd0, zd1, zd2, zd3, zd4, zd5, zd6, zd7, zd8]) rfl ?_
 refine ⟨_, rfl, ⟨?_, ?_⟩⟩
 ·exact own_lower (own_touch (own_touch HKK.out U3.out (fun k hk e => by have := (HKK.out.lt k hk).1; have := HG.out; omega)) HUz.out (fun k hk e => by have := (HKK.out.lt k hk).1; have := HG.out; omega)) (by omega)
 ·exact ((HTA.out.trans HT1.out).trans' U3.out (fun i hi e => by have := HG.out; omega)).trans' HUz.out (fun i hi e => by have := HG.out; omega)
end Go.Proofs.YtbfplepmgbkajaaGreatDoor

namespace Go.Proofs.YtbfplepmgbkajaaGreatDoor
open Go.RowKit
set_option linter.unusedVariables false
set_option maxRecDepth 100000

theorem own_vals {w : World} {base e k n : Nat} {v : Value} {xs : List Value} (h : w.ownsRow base e k v n xs) : ValsAt w k v n xs := by
 refine ⟨h.1, ?_⟩
 rcases h.2 with h2 | ⟨g, cap, cur, hv, hb, hh, h1, h2, h3, h4⟩
 ·exact Or.inl h2
 ·refine Or.inr ⟨_, cap, hv, h1, h2, fun j u hj => ?_⟩
  have hjl := (List.getElem?_eq_some_iff.mp hj).1
  have hl := h.1
  rw [add_plain, Nat.zero_add]
  rw [← h4, List.getElem?_take, if_pos (by omega)] at hj
  simp [World.cell?, hh]
  simpa using hj
end Go.Proofs.YtbfplepmgbkajaaGreatDoor

namespace Go.Proofs.YtbfplepmgbkajaaGreatDoor
open Go.RowKit
set_option linter.unusedVariables false
set_option maxRecDepth 100000

attribute [local go_sem ↓] Go.wp_at_zero Go.wp_at_succ
/-- An append to a row of one's own, as a step of a region that draws its order. -/
theorem step_own {P : Program} {w : World} {ops : Array Oper} {o : Oper} {a : Act} {K : Act → World → Prop} {Q : Exit → Act → World → Prop} {E : Prop} (hgd : o.guard = none) (s x : Operand) (t : TypeId)
  (ho : o.op = .call { callee := .builtin .append, args := #[s, x], argTypes := #[t, t] })
  (base : Nat) (e : TypeId) (z : Value) (size bytes : Nat) (ht : P.underlying t = some (.slice e)) (hi : (P.info? e).map (fun i => (i.zero, i.size, i.bytes)) = some (some z, size, bytes)) (hzs : z.cells.size = size) (hsz : 0 < size) (hb64 : bytes ≤ 64)
  (v : Value) (n : Nat) (xs : List Value) (hs : a.eval s = v) (hown : w.ownsRow base e size v n xs)
  (ad : Addr) (m c : Nat) (news : List Value) (hx : a.eval x = .slice (some ad) m c) (hl : news.length = m * size) (hnews : ∀ j u, news[j]? = some u → w.cell? (ad.add j) = some u) (h1 : ∀ u ∈ news, u.oneCell' = true)
  (hlen : n + m ≤ 1099511627776) (hbase : base ≤ w.heap.size)
  (h : ∀ v' w', w'.ownsRow base e size v' (n + m) (xs ++ news) → Touch (fun j => v.ownBlock = some j) w w' → K (a.put o.dst v') w') :
  if Region.wanted o (yielded ops a.tmps) = true then Oper.wp P o a w K Q else E := by
 obtain ⟨i, hi, hz, hsize, hby⟩ := info_parts hi
 have hw : Region.wanted o (yielded ops a.tmps) = true := by simp [Region.wanted, hgd]
 rw [if_pos hw]
 have hmul : (n + m) * bytes ≤ 1099511627776 * 64 := Nat.mul_le_mul hlen hb64
 obtain ⟨v', w', hr, h2, h3, h4, h5⟩ := run_append_own_at (P := P) w base t o.type e i z size bytes ht hi hz hsize hby hzs hsz v n xs hown ad m c news hl hnews h1 (by unfold maxLen; omega) (by omega) hbase
 unfold Oper.wp execOp
 simp only [ho, resolve, invoke, builtin, Sem.run_bind, Sem.run_pure, Result.andThen_ok, List.map_toArray, List.map_cons, List.map_nil, hs, hx, hr]
 exact h v' w' h2 ((Touch.refl _ _).grown h3 (fun k hk => Or.inl hk))
theorem Tryz.infoU : (Tryz.prog.info? 22).map (fun i => (i.zero, i.size, i.bytes)) = some (some (.int .u32 0), 1, 4) := by kernel_rfl
end Go.Proofs.YtbfplepmgbkajaaGreatDoor

namespace Go.Proofs.YtbfplepmgbkajaaGreatDoor
open Go.RowKit
set_option linter.unusedVariables false
set_option maxRecDepth 100000

/-- Room for a link. -/
structure RoomL (w : World) (g n : Nat) : Prop where
 out : Room w g n
theorem RoomL.touch {w w' : World} {g n b : Nat} (h : RoomL w g n) (t : Touch (fun k => k = b) w w') (hne : b ≠ g) : RoomL w' g n := ⟨h.out.touch t (fun e => hne e.symm)⟩
end Go.Proofs.YtbfplepmgbkajaaGreatDoor

namespace Go.Proofs.YtbfplepmgbkajaaGreatDoor
open Go.RowKit
set_option linter.unusedVariables false
set_option maxRecDepth 100000

attribute [local go_sem ↓] Go.wp_at_zero Go.wp_at_succ
end Go.Proofs.YtbfplepmgbkajaaGreatDoor

namespace Go.Proofs.YtbfplepmgbkajaaGreatDoor
open Go.RowKit
set_option linter.unusedVariables false
set_option maxRecDepth 100000

theorem num_any (n i : Int) (w : World) (h0 : 0 ≤ n) (h1 : n ≤ 300) (h2 : 0 ≤ i) (h3 : i ≤ 4000000) : Calls Tryz.prog 87 #[.int .i64 n, .int .i64 i] w fun e w' => e = .returned (.int .i64 (1048576 * n + i + 1)) ∧ w = w' := by
 go_enter Tryz.func87, Tryz.ntmps87
 go_wp2
 go_ret
 exact ⟨rfl, rfl⟩
end Go.Proofs.YtbfplepmgbkajaaGreatDoor

namespace Go.Proofs.YtbfplepmgbkajaaGreatDoor
open Go.RowKit
set_option linter.unusedVariables false
set_option maxRecDepth 100000

/-- Nothing of x but block g has turned in w. -/
structure SinceF (x : World) (g : Nat) (w : World) : Prop where
 t : Touch (fun k => k = g) x w
theorem SinceF.start (x : World) (g : Nat) : SinceF x g x.drew := ⟨(Touch.refl _ _).drew⟩
theorem sinceF_cell {x : World} {g b o : Nat} {v : Value} (hne : b ≠ g) (h : x.cell? ⟨b, o, none⟩ = some v) : ∀ w, SinceF x g w → w.cell? ⟨b, o, none⟩ = some v := fun w s => (s.t.cell (p := ⟨b, o, none⟩) (lt_of_cell h) hne).trans h
end Go.Proofs.YtbfplepmgbkajaaGreatDoor

namespace Go.Proofs.YtbfplepmgbkajaaGreatDoor
open Go.RowKit
set_option linter.unusedVariables false
set_option maxRecDepth 100000

/-- The mark at place i of list n. -/
def nmk (n i : Nat) : Int := 1048576 * (n : Int) + (i : Int) + 1
theorem nmk_any (n i : Nat) (w : World) (h1 : n ≤ 300) (h3 : i ≤ 2000000) : Calls Tryz.prog 87 #[.int .i64 (n : Int), .int .i64 (i : Int)] w fun e w' => e = .returned (.int .i64 (nmk n i)) ∧ w = w' :=
 num_any (n : Int) (i : Int) w (by omega) (by omega) (by omega) (by omega)
theorem nmk_u32 (n i : Nat) (h1 : n ≤ 300) (h3 : i ≤ 2000000) : IntKind.u32.wrap (nmk n i) = nmk n i := by unfold nmk; simp [IntKind.wrap, IntKind.bits, IntKind.signed]; omega
theorem GIn1.drew {K : Kd} {w wr : World} {vs : List Value} {n i : Nat} (h : GIn1 K w wr vs n i) : GIn1 K w wr.drew vs n i :=
 ⟨h.touch.drew, fun m v hv => by obtain ⟨xs, h2, h3, h4⟩ := h.rows m v hv; exact ⟨xs, own_touch h2 ((Touch.refl (fun _ => False) _).drew) (fun _ _ h => h), h3, h4⟩⟩
theorem SinceF.set1d (x : World) (g o : Nat) (u : Value) : SinceF x g (x.setCell ⟨g, o, none⟩ u).drew := ⟨(Touch.setCell (F := fun k => k = g) (p := ⟨g, o, none⟩) (Touch.refl _ x) (Or.inl rfl) _).drew⟩
end Go.Proofs.YtbfplepmgbkajaaGreatDoor
