/- Contracts: headOf. -/
import Derived.Test.YtbfplepmgbkajaaGreatDoorStRd3
import Derived.Deep.RegionHeld2
namespace Go.Proofs.YtbfplepmgbkajaaGreatDoor
open Go.RowKit
set_option linter.unusedVariables false
set_option maxRecDepth 100000

/-- A callee that gives up, in a region that draws its order: the other way is none. -/
theorem Calls.dead {P : Program} {f : FuncId} {args : Array Value} {w : World} {c : List PanicEntry} {R : World → Prop} (v : Value) (h : Calls P f args w fun e w' => e = .panicked c ∧ R w') :
  Calls P f args w fun e w' => (e = .panicked c ∧ R w') ∨ (Hid False ∧ e = .returned v ∧ w = w') := h.mono (fun _ _ h => Or.inl h)
theorem err_some (N b : Nat) (rs : List Int) (p : Nat) (w : World) (h : Rdr N w b rs (some p)) : Calls Tryz.prog 168 #[.pointer (some ⟨b, 0, none⟩)] w fun e w' => e = .returned (.int .i64 0) ∧ w = w' := err_r N b rs (some p) w h
theorem err_none (N b : Nat) (rs : List Int) (w : World) (h : Rdr N w b rs none) : Calls Tryz.prog 168 #[.pointer (some ⟨b, 0, none⟩)] w fun e w' => e = .returned (.int .i64 10) ∧ w = w' := err_r N b rs none w h
theorem cut_zero (va : Option Addr) (vc : Nat) (hc : vc ≤ maxLen) (w : World) : Sem.run Tryz.prog (Instr.slice 40 (.slice va 0 vc) none (some (.int .i64 0)) none) w = .ok (.slice va 0 vc) w := by
 unfold maxLen at hc
 have h1 : (0 : Int) ≤ (vc : Int) := by omega
 cases va with
 | none => simp [Instr.slice, Instr.sliceBounds, Instr.sliceBound, go_sem]
 | some a => simp [Instr.slice, Instr.sliceBounds, Instr.sliceBound, go_sem]
/-- b[:m], m the lesser of its length and twenty. -/
theorem cut_head {w : World} {va : Option Addr} {vc : Nat} {rs : List Int} (h : ArgAt w (.slice va rs.length vc) rs) (m : Nat) (hm : m ≤ rs.length) (hz : rs.length = 0 ∨ 0 < rs.length) :
  ∃ v, (∀ w, Sem.run Tryz.prog (Instr.slice 40 (.slice va rs.length vc) none (some (.int .i64 (m : Int))) none) w = .ok v w) ∧ ArgAt w v (rs.take m) := by
 by_cases h0 : 0 < rs.length
 ·exact cut_to h rfl h0 m hm
 ·have e : rs = [] := List.length_eq_zero_iff.1 (by omega)
  subst e
  obtain rfl : m = 0 := by simpa using hm
  have hc : vc ≤ maxLen := by
   rcases h with ⟨h, _⟩ | ⟨ad, c, h, _, h2, _⟩
   ·cases h; exact Nat.zero_le _
   ·cases h; exact h2
  exact ⟨.slice va 0 vc, fun w => cut_zero va vc hc w, h⟩

set_option maxHeartbeats 1000000 in
theorem headOf_more (v : Value) (rs : List Int) (w : World) (hv : ArgAt w v rs) (hby : ∀ z ∈ rs, 0 ≤ z ∧ z < 256) (hl : 20 < rs.length) (hl2 : rs.length ≤ 1099511627776) :
  Calls Tryz.prog 188 #[v] w fun e w' => e = .returned (rdHead (rs.take 20)).v ∧ Touch (fun _ => False) w w' := by
 obtain ⟨va, vc, rfl, hm⟩ := hv.form
 obtain ⟨u, hu, hua⟩ := cut_head hv 20 (by omega) (by omega)
 replace hu : ∀ w, Sem.run Tryz.prog (Instr.slice 40 (.slice va rs.length vc) none (some (.int .i64 20)) none) w = .ok u w := hu
 have hcond : (20 : Int) < (rs.length : Int) := by omega
 have HUA : Hid (ArgAt w u (rs.take 20)) := hua
 have HB : Hid (∀ z ∈ rs.take 20, 0 ≤ z ∧ z < 256) := fun z hz => hby z (List.mem_of_mem_take hz)
 have HLN : Hid ((rs.take 20).length ≤ 1099511627776) := by show _ ≤ _; rw [List.length_take]; omega
 have HEQ : Hid ((if 20 ≤ (rs.take 20).length then some 20 else none) = some 20) := by show _ = _; rw [if_pos (by rw [List.length_take]; omega)]
 obtain ⟨hh, HHE⟩ : ∃ hh, Hid (rdHead (rs.take 20) = hh) := ⟨_, rfl⟩
 rw [show rdHead (rs.take 20) = hh from HHE.out]
 clear hua hby hv hl
 go_enter Tryz.func188, Tryz.ntmps188
 go_wp2_with fail
 refine Calls.mono (read_r u _ _ (HUA.out.keepN ((Touch.refl _ _).alloc _)) HB.out HLN.out) ?_
 rintro e w1 ⟨b, rfl, hb, hr, t1⟩
 have T1 : Hid (Touch (fun _ => False) w w1) := ((Touch.refl _ _).alloc _).trans t1
 have R1 : Hid (Room w1 w.heap.size 8) := (Room.new w #[.int .u16 0, .int .u8 0, .int .u8 0, .int .u32 0, .int .u32 0, .int .i32 0, .int .u16 0, .int .u16 0] 93).keep t1
 have hg : w.heap.size < w1.heap.size := by have := t1.size; simp at this; omega
 have hbw : w.heap.size < b := by simp at hb; omega
 have hgb : ¬ w.heap.size = b := by omega
 have HR : Hid (Rdr w1.heap.size w1 b _ (some 0)) := hr
 have hbl : b < w1.heap.size := hr.low
 clear t1 hr hb hu
 go_wp2_with fail
 refine Calls.mono (rhead_any _ b _ _ (HR.out.keep ((Touch.refl _ _).alloc _)) (by simp)) ?_
 rw [HEQ.out, HHE.out]
 rintro e w2 ⟨rfl, hr2, t2⟩
 have hc2 : w2.cell? ⟨w1.heap.size, 0, none⟩ = some (.pointer (some ⟨b, 0, none⟩)) := (t2.cell (p := ⟨w1.heap.size, 0, none⟩) (by simp) (by show ¬ w1.heap.size = b; omega)).trans (by simp [go_sem])
 have R2 : Hid (Room w2 w.heap.size 8) := (R1.out.keep ((Touch.refl _ _).alloc _)).touch t2 hgb
 have T2 : Hid (Touch (fun _ => False) w w2) := (T1.out.trans ((Touch.refl _ _).alloc _)).trans' t2 (fun i hi e => by omega)
 have hgw : w.heap.size < w2.heap.size := by have := t2.size; simp at this; omega
 have hg1 : w1.heap.size < w2.heap.size := by have := t2.size; simp at this; omega
 have HR2 : Hid (∀ w3, Touch (fun _ => False) w2 w3 → Rdr w1.heap.size w3 b (rs.take 20) (some 20)) := fun w3 t => hr2.keep t
 have HC2 : Hid (w2.cell? ⟨w1.heap.size, 0, none⟩ = some (.pointer (some ⟨b, 0, none⟩))) := hc2
 unfold HV.v
 clear hr2 t2 HR T1 R1 HUA HB HLN HEQ
 go_upto_region 3 with fail
 have hc3 : (w2.alloc (.cells #[.int .u16 hh.age, .int .u8 hh.opts, .int .u8 hh.typ, .int .u32 hh.id, .int .u32 hh.adv, .int .i32 hh.seq, .int .u16 hh.sum, .int .u16 hh.len] 93)).drew.cell? ⟨w1.heap.size, 0, none⟩ = some (.pointer (some ⟨b, 0, none⟩)) := ((Touch.refl _ w2).alloc _).cellN HC2.out
 have HD3 : Hid (Hd (w2.alloc (.cells #[.int .u16 hh.age, .int .u8 hh.opts, .int .u8 hh.typ, .int .u32 hh.id, .int .u32 hh.adv, .int .i32 hh.seq, .int .u16 hh.sum, .int .u16 hh.len] 93)) w2.heap.size hh) := Hd.new w2 hh _
 have R3 : Hid (Room (w2.alloc (.cells #[.int .u16 hh.age, .int .u8 hh.opts, .int .u8 hh.typ, .int .u32 hh.id, .int .u32 hh.adv, .int .i32 hh.seq, .int .u16 hh.sum, .int .u16 hh.len] 93)).drew w.heap.size 8) := R2.out.keep (((Touch.refl _ w2).alloc _).drew)
 have T3 : Hid (Touch (fun _ => False) w (w2.alloc (.cells #[.int .u16 hh.age, .int .u8 hh.opts, .int .u8 hh.typ, .int .u32 hh.id, .int .u32 hh.adv, .int .i32 hh.seq, .int .u16 hh.sum, .int .u16 hh.len] 93)).drew) := T2.out.trans (((Touch.refl _ w2).alloc _).drew)
 have HR3 : Hid (Rdr w1.heap.size (w2.alloc (.cells #[.int .u16 hh.age, .int .u8 hh.opts, .int .u8 hh.typ, .int .u32 hh.id, .int .u32 hh.adv, .int .i32 hh.seq, .int .u16 hh.sum, .int .u16 hh.len] 93)).drew b (rs.take 20) (some 20)) := HR2.out _ (((Touch.refl _ w2).alloc _).drew)
 have hng : ¬ w2.heap.size = w.heap.size := by omega
 have hng' : ¬ w.heap.size = w2.heap.size := by omega
 clear hc2 HR2 HC2 R2 T2
 generalize w2.alloc (.cells #[.int .u16 hh.age, .int .u8 hh.opts, .int .u8 hh.typ, .int .u32 hh.id, .int .u32 hh.adv, .int .i32 hh.seq, .int .u16 hh.sum, .int .u16 hh.len] 93) = w3 at *
 go_region_held3 (fun w' => w'.cell? ⟨w1.heap.size, 0, none⟩ = some (.pointer (some ⟨b, 0, none⟩))) (go_keep) (first
  | (go_at_call 168; refine Calls.mono (err_some _ b _ 20 _ HR3.out) ?_; rintro e wx ⟨rfl, rfl⟩)
  | (go_at_call 189; refine Calls.mono (need_t _ _ _ rfl) ?_; rintro e wx ⟨rfl, rfl⟩))
 clear hc3
 obtain ⟨d0, d1, d2, d3, d4, d5, d6, d7⟩ := HD3.out
 have e0 : w3.drew.cell? ⟨w2.heap.size, 0, none⟩ = _ := d0
 have e1 : w3.drew.cell? ⟨w2.heap.size, 1, none⟩ = _ := d1
 have e2 : w3.drew.cell? ⟨w2.heap.size, 2, none⟩ = _ := d2
 have e3 : w3.drew.cell? ⟨w2.heap.size, 3, none⟩ = _ := d3
 have e4 : w3.drew.cell? ⟨w2.heap.size, 4, none⟩ = _ := d4
 have e5 : w3.drew.cell? ⟨w2.heap.size, 5, none⟩ = _ := d5
 have e6 : w3.drew.cell? ⟨w2.heap.size, 6, none⟩ = _ := d6
 have e7 : w3.drew.cell? ⟨w2.heap.size, 7, none⟩ = _ := d7
 clear d0 d1 d2 d3 d4 d5 d6 d7 HD3 HR3
 generalize w3.drew = w4 at *
 obtain ⟨zz0, zc0, zf0⟩ := R3.out 0 (by omega)
 obtain ⟨zz1, zc1, zf1⟩ := R3.out 1 (by omega)
 obtain ⟨zz2, zc2, zf2⟩ := R3.out 2 (by omega)
 obtain ⟨zz3, zc3, zf3⟩ := R3.out 3 (by omega)
 obtain ⟨zz4, zc4, zf4⟩ := R3.out 4 (by omega)
 obtain ⟨zz5, zc5, zf5⟩ := R3.out 5 (by omega)
 obtain ⟨zz6, zc6, zf6⟩ := R3.out 6 (by omega)
 obtain ⟨zz7, zc7, zf7⟩ := R3.out 7 (by omega)
 obtain ⟨wz, hwz⟩ : ∃ wz, wz = ((((((((w4.setCell ⟨w.heap.size, 0, none⟩ (.int .u16 hh.age)).setCell ⟨w.heap.size, 1, none⟩ (.int .u8 hh.opts)).setCell ⟨w.heap.size, 2, none⟩ (.int .u8 hh.typ)).setCell ⟨w.heap.size, 3, none⟩ (.int .u32 hh.id)).setCell ⟨w.heap.size, 4, none⟩ (.int .u32 hh.adv)).setCell ⟨w.heap.size, 5, none⟩ (.int .i32 hh.seq)).setCell ⟨w.heap.size, 6, none⟩ (.int .u16 hh.sum)).setCell ⟨w.heap.size, 7, none⟩ (.int .u16 hh.len)) := ⟨_, rfl⟩
 have zd0 : wz.cell? ⟨w.heap.size, 0, none⟩ = some (.int .u16 hh.age) := by rw [hwz]; simp [zc0, go_sem]
 have zd1 : wz.cell? ⟨w.heap.size, 1, none⟩ = some (.int .u8 hh.opts) := by rw [hwz]; simp [zc1, go_sem]
 have zd2 : wz.cell? ⟨w.heap.size, 2, none⟩ = some (.int .u8 hh.typ) := by rw [hwz]; simp [zc2, go_sem]
 have zd3 : wz.cell? ⟨w.heap.size, 3, none⟩ = some (.int .u32 hh.id) := by rw [hwz]; simp [zc3, go_sem]
 have zd4 : wz.cell? ⟨w.heap.size, 4, none⟩ = some (.int .u32 hh.adv) := by rw [hwz]; simp [zc4, go_sem]
 have zd5 : wz.cell? ⟨w.heap.size, 5, none⟩ = some (.int .i32 hh.seq) := by rw [hwz]; simp [zc5, go_sem]
 have zd6 : wz.cell? ⟨w.heap.size, 6, none⟩ = some (.int .u16 hh.sum) := by rw [hwz]; simp [zc6, go_sem]
 have zd7 : wz.cell? ⟨w.heap.size, 7, none⟩ = some (.int .u16 hh.len) := by rw [hwz]; simp [zc7, go_sem]
 have HUz : Hid (Touch (fun k => k = w.heap.size) w4 wz) := by show Touch _ _ _; rw [hwz]; refine Touch.setCell (F := fun k => k = w.heap.size) (p := ⟨w.heap.size, 7, none⟩) ?_ (Or.inl rfl) _; refine Touch.setCell (F := fun k => k = w.heap.size) (p := ⟨w.heap.size, 6, none⟩) ?_ (Or.inl rfl) _; refine Touch.setCell (F := fun k => k = w.heap.size) (p := ⟨w.heap.size, 5, none⟩) ?_ (Or.inl rfl) _; refine Touch.setCell (F := fun k => k = w.heap.size) (p := ⟨w.heap.size, 4, none⟩) ?_ (Or.inl rfl) _; refine Touch.setCell (F := fun k => k = w.heap.size) (p := ⟨w.heap.size, 3, none⟩) ?_ (Or.inl rfl) _; refine Touch.setCell (F := fun k => k = w.heap.size) (p := ⟨w.heap.size, 2, none⟩) ?_ (Or.inl rfl) _; refine Touch.setCell (F := fun k => k = w.heap.size) (p := ⟨w.heap.size, 1, none⟩) ?_ (Or.inl rfl) _; refine Touch.setCell (F := fun k => k = w.heap.size) (p := ⟨w.heap.size, 0, none⟩) ?_ (Or.inl rfl) _; exact Touch.refl _ _
 have HWz : Hid (wz = ((((((((w4.setCell ⟨w.heap.size, 0, none⟩ (.int .u16 hh.age)).setCell ⟨w.heap.size, 1, none⟩ (.int .u8 hh.opts)).setCell ⟨w.heap.size, 2, none⟩ (.int .u8 hh.typ)).setCell ⟨w.heap.size, 3, none⟩ (.int .u32 hh.id)).setCell ⟨w.heap.size, 4, none⟩ (.int .u32 hh.adv)).setCell ⟨w.heap.size, 5, none⟩ (.int .i32 hh.seq)).setCell ⟨w.heap.size, 6, none⟩ (.int .u16 hh.sum)).setCell ⟨w.heap.size, 7, none⟩ (.int .u16 hh.len))) := hwz
 clear hwz
 go_wp2_with fail
 rw [← HWz.out]
 clear HWz zc0 zf0 zc1 zf1 zc2 zf2 zc3 zf3 zc4 zf4 zc5 zf5 zc6 zf6 zc7 zf7
 refine bodyPost_ret (v := .agg #[.int .u16 hh.age, .int .u8 hh.opts, .int .u8 hh.typ, .int .u32 hh.id, .int .u32 hh.adv, .int .i32 hh.seq, .int .u16 hh.sum, .int .u16 hh.len]) (by simp [results, Tryz.results188, go_sem, zd0, zd1, zd2, zd3, zd4, zd5, zd6, zd7]) rfl ?_
 exact ⟨rfl, T3.out.trans' HUz.out (fun i hi e => by omega)⟩

set_option maxHeartbeats 1000000 in
theorem headOf_just (v : Value) (rs : List Int) (w : World) (hv : ArgAt w v rs) (hby : ∀ z ∈ rs, 0 ≤ z ∧ z < 256) (hl : rs.length = 20) (hl2 : rs.length ≤ 1099511627776) :
  Calls Tryz.prog 188 #[v] w fun e w' => e = .returned (rdHead (rs.take rs.length)).v ∧ Touch (fun _ => False) w w' := by
 obtain ⟨va, vc, rfl, hm⟩ := hv.form
 obtain ⟨u, hu, hua⟩ := cut_head hv rs.length (by omega) (by omega)
 replace hu : ∀ w, Sem.run Tryz.prog (Instr.slice 40 (.slice va rs.length vc) none (some (.int .i64 (rs.length : Int))) none) w = .ok u w := hu
 have hcond : ¬ (20 : Int) < (rs.length : Int) := by omega
 have HUA : Hid (ArgAt w u (rs.take rs.length)) := hua
 have HB : Hid (∀ z ∈ rs.take rs.length, 0 ≤ z ∧ z < 256) := fun z hz => hby z (List.mem_of_mem_take hz)
 have HLN : Hid ((rs.take rs.length).length ≤ 1099511627776) := by show _ ≤ _; rw [List.length_take]; omega
 have HEQ : Hid ((if 20 ≤ (rs.take rs.length).length then some 20 else none) = some 20) := by show _ = _; rw [if_pos (by rw [List.length_take]; omega)]
 obtain ⟨hh, HHE⟩ : ∃ hh, Hid (rdHead (rs.take rs.length) = hh) := ⟨_, rfl⟩
 rw [show rdHead (rs.take rs.length) = hh from HHE.out]
 clear hua hby hv hl
 go_enter Tryz.func188, Tryz.ntmps188
 go_wp2_with fail
 refine Calls.mono (read_r u _ _ (HUA.out.keepN ((Touch.refl _ _).alloc _)) HB.out HLN.out) ?_
 rintro e w1 ⟨b, rfl, hb, hr, t1⟩
 have T1 : Hid (Touch (fun _ => False) w w1) := ((Touch.refl _ _).alloc _).trans t1
 have R1 : Hid (Room w1 w.heap.size 8) := (Room.new w #[.int .u16 0, .int .u8 0, .int .u8 0, .int .u32 0, .int .u32 0, .int .i32 0, .int .u16 0, .int .u16 0] 93).keep t1
 have hg : w.heap.size < w1.heap.size := by have := t1.size; simp at this; omega
 have hbw : w.heap.size < b := by simp at hb; omega
 have hgb : ¬ w.heap.size = b := by omega
 have HR : Hid (Rdr w1.heap.size w1 b _ (some 0)) := hr
 have hbl : b < w1.heap.size := hr.low
 clear t1 hr hb hu
 go_wp2_with fail
 refine Calls.mono (rhead_any _ b _ _ (HR.out.keep ((Touch.refl _ _).alloc _)) (by simp)) ?_
 rw [HEQ.out, HHE.out]
 rintro e w2 ⟨rfl, hr2, t2⟩
 have hc2 : w2.cell? ⟨w1.heap.size, 0, none⟩ = some (.pointer (some ⟨b, 0, none⟩)) := (t2.cell (p := ⟨w1.heap.size, 0, none⟩) (by simp) (by show ¬ w1.heap.size = b; omega)).trans (by simp [go_sem])
 have R2 : Hid (Room w2 w.heap.size 8) := (R1.out.keep ((Touch.refl _ _).alloc _)).touch t2 hgb
 have T2 : Hid (Touch (fun _ => False) w w2) := (T1.out.trans ((Touch.refl _ _).alloc _)).trans' t2 (fun i hi e => by omega)
 have hgw : w.heap.size < w2.heap.size := by have := t2.size; simp at this; omega
 have hg1 : w1.heap.size < w2.heap.size := by have := t2.size; simp at this; omega
 have HR2 : Hid (∀ w3, Touch (fun _ => False) w2 w3 → Rdr w1.heap.size w3 b (rs.take rs.length) (some 20)) := fun w3 t => hr2.keep t
 have HC2 : Hid (w2.cell? ⟨w1.heap.size, 0, none⟩ = some (.pointer (some ⟨b, 0, none⟩))) := hc2
 unfold HV.v
 clear hr2 t2 HR T1 R1 HUA HB HLN HEQ
 go_upto_region 3 with fail
 have hc3 : (w2.alloc (.cells #[.int .u16 hh.age, .int .u8 hh.opts, .int .u8 hh.typ, .int .u32 hh.id, .int .u32 hh.adv, .int .i32 hh.seq, .int .u16 hh.sum, .int .u16 hh.len] 93)).drew.cell? ⟨w1.heap.size, 0, none⟩ = some (.pointer (some ⟨b, 0, none⟩)) := ((Touch.refl _ w2).alloc _).cellN HC2.out
 have HD3 : Hid (Hd (w2.alloc (.cells #[.int .u16 hh.age, .int .u8 hh.opts, .int .u8 hh.typ, .int .u32 hh.id, .int .u32 hh.adv, .int .i32 hh.seq, .int .u16 hh.sum, .int .u16 hh.len] 93)) w2.heap.size hh) := Hd.new w2 hh _
 have R3 : Hid (Room (w2.alloc (.cells #[.int .u16 hh.age, .int .u8 hh.opts, .int .u8 hh.typ, .int .u32 hh.id, .int .u32 hh.adv, .int .i32 hh.seq, .int .u16 hh.sum, .int .u16 hh.len] 93)).drew w.heap.size 8) := R2.out.keep (((Touch.refl _ w2).alloc _).drew)
 have T3 : Hid (Touch (fun _ => False) w (w2.alloc (.cells #[.int .u16 hh.age, .int .u8 hh.opts, .int .u8 hh.typ, .int .u32 hh.id, .int .u32 hh.adv, .int .i32 hh.seq, .int .u16 hh.sum, .int .u16 hh.len] 93)).drew) := T2.out.trans (((Touch.refl _ w2).alloc _).drew)
 have HR3 : Hid (Rdr w1.heap.size (w2.alloc (.cells #[.int .u16 hh.age, .int .u8 hh.opts, .int .u8 hh.typ, .int .u32 hh.id, .int .u32 hh.adv, .int .i32 hh.seq, .int .u16 hh.sum, .int .u16 hh.len] 93)).drew b (rs.take rs.length) (some 20)) := HR2.out _ (((Touch.refl _ w2).alloc _).drew)
 have hng : ¬ w2.heap.size = w.heap.size := by omega
 have hng' : ¬ w.heap.size = w2.heap.size := by omega
 clear hc2 HR2 HC2 R2 T2
 generalize w2.alloc (.cells #[.int .u16 hh.age, .int .u8 hh.opts, .int .u8 hh.typ, .int .u32 hh.id, .int .u32 hh.adv, .int .i32 hh.seq, .int .u16 hh.sum, .int .u16 hh.len] 93) = w3 at *
 go_region_held3 (fun w' => w'.cell? ⟨w1.heap.size, 0, none⟩ = some (.pointer (some ⟨b, 0, none⟩))) (go_keep) (first
  | (go_at_call 168; refine Calls.mono (err_some _ b _ 20 _ HR3.out) ?_; rintro e wx ⟨rfl, rfl⟩)
  | (go_at_call 189; refine Calls.mono (need_t _ _ _ rfl) ?_; rintro e wx ⟨rfl, rfl⟩))
 clear hc3
 obtain ⟨d0, d1, d2, d3, d4, d5, d6, d7⟩ := HD3.out
 have e0 : w3.drew.cell? ⟨w2.heap.size, 0, none⟩ = _ := d0
 have e1 : w3.drew.cell? ⟨w2.heap.size, 1, none⟩ = _ := d1
 have e2 : w3.drew.cell? ⟨w2.heap.size, 2, none⟩ = _ := d2
 have e3 : w3.drew.cell? ⟨w2.heap.size, 3, none⟩ = _ := d3
 have e4 : w3.drew.cell? ⟨w2.heap.size, 4, none⟩ = _ := d4
 have e5 : w3.drew.cell? ⟨w2.heap.size, 5, none⟩ = _ := d5
 have e6 : w3.drew.cell? ⟨w2.heap.size, 6, none⟩ = _ := d6
 have e7 : w3.drew.cell? ⟨w2.heap.size, 7, none⟩ = _ := d7
 clear d0 d1 d2 d3 d4 d5 d6 d7 HD3 HR3
 generalize w3.drew = w4 at *
 obtain ⟨zz0, zc0, zf0⟩ := R3.out 0 (by omega)
 obtain ⟨zz1, zc1, zf1⟩ := R3.out 1 (by omega)
 obtain ⟨zz2, zc2, zf2⟩ := R3.out 2 (by omega)
 obtain ⟨zz3, zc3, zf3⟩ := R3.out 3 (by omega)
 obtain ⟨zz4, zc4, zf4⟩ := R3.out 4 (by omega)
 obtain ⟨zz5, zc5, zf5⟩ := R3.out 5 (by omega)
 obtain ⟨zz6, zc6, zf6⟩ := R3.out 6 (by omega)
 obtain ⟨zz7, zc7, zf7⟩ := R3.out 7 (by omega)
 obtain ⟨wz, hwz⟩ : ∃ wz, wz = ((((((((w4.setCell ⟨w.heap.size, 0, none⟩ (.int .u16 hh.age)).setCell ⟨w.heap.size, 1, none⟩ (.int .u8 hh.opts)).setCell ⟨w.heap.size, 2, none⟩ (.int .u8 hh.typ)).setCell ⟨w.heap.size, 3, none⟩ (.int .u32 hh.id)).setCell ⟨w.heap.size, 4, none⟩ (.int .u32 hh.adv)).setCell ⟨w.heap.size, 5, none⟩ (.int .i32 hh.seq)).setCell ⟨w.heap.size, 6, none⟩ (.int .u16 hh.sum)).setCell ⟨w.heap.size, 7, none⟩ (.int .u16 hh.len)) := ⟨_, rfl⟩
 have zd0 : wz.cell? ⟨w.heap.size, 0, none⟩ = some (.int .u16 hh.age) := by rw [hwz]; simp [zc0, go_sem]
 have zd1 : wz.cell? ⟨w.heap.size, 1, none⟩ = some (.int .u8 hh.opts) := by rw [hwz]; simp [zc1, go_sem]
 have zd2 : wz.cell? ⟨w.heap.size, 2, none⟩ = some (.int .u8 hh.typ) := by rw [hwz]; simp [zc2, go_sem]
 have zd3 : wz.cell? ⟨w.heap.size, 3, none⟩ = some (.int .u32 hh.id) := by rw [hwz]; simp [zc3, go_sem]
 have zd4 : wz.cell? ⟨w.heap.size, 4, none⟩ = some (.int .u32 hh.adv) := by rw [hwz]; simp [zc4, go_sem]
 have zd5 : wz.cell? ⟨w.heap.size, 5, none⟩ = some (.int .i32 hh.seq) := by rw [hwz]; simp [zc5, go_sem]
 have zd6 : wz.cell? ⟨w.heap.size, 6, none⟩ = some (.int .u16 hh.sum) := by rw [hwz]; simp [zc6, go_sem]
 have zd7 : wz.cell? ⟨w.heap.size, 7, none⟩ = some (.int .u16 hh.len) := by rw [hwz]; simp [zc7, go_sem]
 have HUz : Hid (Touch (fun k => k = w.heap.size) w4 wz) := by show Touch _ _ _; rw [hwz]; refine Touch.setCell (F := fun k => k = w.heap.size) (p := ⟨w.heap.size, 7, none⟩) ?_ (Or.inl rfl) _; refine Touch.setCell (F := fun k => k = w.heap.size) (p := ⟨w.heap.size, 6, none⟩) ?_ (Or.inl rfl) _; refine Touch.setCell (F := fun k => k = w.heap.size) (p := ⟨w.heap.size, 5, none⟩) ?_ (Or.inl rfl) _; refine Touch.setCell (F := fun k => k = w.heap.size) (p := ⟨w.heap.size, 4, none⟩) ?_ (Or.inl rfl) _; refine Touch.setCell (F := fun k => k = w.heap.size) (p := ⟨w.heap.size, 3, none⟩) ?_ (Or.inl rfl) _; refine Touch.setCell (F := fun k => k = w.heap.size) (p := ⟨w.heap.size, 2, none⟩) ?_ (Or.inl rfl) _; refine Touch.setCell (F := fun k => k = w.heap.size) (p := ⟨w.heap.size, 1, none⟩) ?_ (Or.inl rfl) _; refine Touch.setCell (F := fun k => k = w.heap.size) (p := ⟨w.heap.size, 0, none⟩) ?_ (Or.inl rfl) _; exact Touch.refl _ _
 have HWz : Hid (wz = ((((((((w4.setCell ⟨w.heap.size, 0, none⟩ (.int .u16 hh.age)).setCell ⟨w.heap.size, 1, none⟩ (.int .u8 hh.opts)).setCell ⟨w.heap.size, 2, none⟩ (.int .u8 hh.typ)).setCell ⟨w.heap.size, 3, none⟩ (.int .u32 hh.id)).setCell ⟨w.heap.size, 4, none⟩ (.int .u32 hh.adv)).setCell ⟨w.heap.size, 5, none⟩ (.int .i32 hh.seq)).setCell ⟨w.heap.size, 6, none⟩ (.int .u16 hh.sum)).setCell ⟨w.heap.size, 7, none⟩ (.int .u16 hh.len))) := hwz
 clear hwz
 go_wp2_with fail
 rw [← HWz.out]
 clear HWz zc0 zf0 zc1 zf1 zc2 zf2 zc3 zf3 zc4 zf4 zc5 zf5 zc6 zf6 zc7 zf7
 refine bodyPost_ret (v := .agg #[.int .u16 hh.age, .int .u8 hh.opts, .int .u8 hh.typ, .int .u32 hh.id, .int .u32 hh.adv, .int .i32 hh.seq, .int .u16 hh.sum, .int .u16 hh.len]) (by simp [results, Tryz.results188, go_sem, zd0, zd1, zd2, zd3, zd4, zd5, zd6, zd7]) rfl ?_
 exact ⟨rfl, T3.out.trans' HUz.out (fun i hi e => by omega)⟩

set_option maxHeartbeats 1000000 in
theorem headOf_short (v : Value) (rs : List Int) (w : World) (hv : ArgAt w v rs) (hby : ∀ z ∈ rs, 0 ≤ z ∧ z < 256) (hl : rs.length < 20) (hl2 : rs.length ≤ 1099511627776) :
  Calls Tryz.prog 188 #[v] w fun e w' => e = .panicked (flawC 10) ∧ Touch (fun _ => False) w w' := by
 obtain ⟨va, vc, rfl, hm⟩ := hv.form
 obtain ⟨u, hu, hua⟩ := cut_head hv rs.length (by omega) (by omega)
 replace hu : ∀ w, Sem.run Tryz.prog (Instr.slice 40 (.slice va rs.length vc) none (some (.int .i64 (rs.length : Int))) none) w = .ok u w := hu
 have hcond : ¬ (20 : Int) < (rs.length : Int) := by omega
 have HUA : Hid (ArgAt w u (rs.take rs.length)) := hua
 have HB : Hid (∀ z ∈ rs.take rs.length, 0 ≤ z ∧ z < 256) := fun z hz => hby z (List.mem_of_mem_take hz)
 have HLN : Hid ((rs.take rs.length).length ≤ 1099511627776) := by show _ ≤ _; rw [List.length_take]; omega
 have HEQ : Hid ((if 20 ≤ (rs.take rs.length).length then some 20 else none) = none) := by show _ = _; rw [if_neg (by rw [List.length_take]; omega)]
 obtain ⟨hh, HHE⟩ : ∃ hh, Hid (rdHead (rs.take rs.length) = hh) := ⟨_, rfl⟩
 
 clear hua hby hv hl
 go_enter Tryz.func188, Tryz.ntmps188
 go_wp2_with fail
 refine Calls.mono (read_r u _ _ (HUA.out.keepN ((Touch.refl _ _).alloc _)) HB.out HLN.out) ?_
 rintro e w1 ⟨b, rfl, hb, hr, t1⟩
 have T1 : Hid (Touch (fun _ => False) w w1) := ((Touch.refl _ _).alloc _).trans t1
 have R1 : Hid (Room w1 w.heap.size 8) := (Room.new w #[.int .u16 0, .int .u8 0, .int .u8 0, .int .u32 0, .int .u32 0, .int .i32 0, .int .u16 0, .int .u16 0] 93).keep t1
 have hg : w.heap.size < w1.heap.size := by have := t1.size; simp at this; omega
 have hbw : w.heap.size < b := by simp at hb; omega
 have hgb : ¬ w.heap.size = b := by omega
 have HR : Hid (Rdr w1.heap.size w1 b _ (some 0)) := hr
 have hbl : b < w1.heap.size := hr.low
 clear t1 hr hb hu
 go_wp2_with fail
 refine Calls.mono (rhead_any _ b _ _ (HR.out.keep ((Touch.refl _ _).alloc _)) (by simp)) ?_
 rw [HEQ.out, HHE.out]
 rintro e w2 ⟨rfl, hr2, t2⟩
 have hc2 : w2.cell? ⟨w1.heap.size, 0, none⟩ = some (.pointer (some ⟨b, 0, none⟩)) := (t2.cell (p := ⟨w1.heap.size, 0, none⟩) (by simp) (by show ¬ w1.heap.size = b; omega)).trans (by simp [go_sem])
 have R2 : Hid (Room w2 w.heap.size 8) := (R1.out.keep ((Touch.refl _ _).alloc _)).touch t2 hgb
 have T2 : Hid (Touch (fun _ => False) w w2) := (T1.out.trans ((Touch.refl _ _).alloc _)).trans' t2 (fun i hi e => by omega)
 have hgw : w.heap.size < w2.heap.size := by have := t2.size; simp at this; omega
 have hg1 : w1.heap.size < w2.heap.size := by have := t2.size; simp at this; omega
 have HR2 : Hid (∀ w3, Touch (fun _ => False) w2 w3 → Rdr w1.heap.size w3 b (rs.take rs.length) none) := fun w3 t => hr2.keep t
 have HC2 : Hid (w2.cell? ⟨w1.heap.size, 0, none⟩ = some (.pointer (some ⟨b, 0, none⟩))) := hc2
 unfold HV.v
 clear hr2 t2 HR T1 R1 HUA HB HLN HEQ
 go_upto_region 3 with fail
 have hc3 : (w2.alloc (.cells #[.int .u16 hh.age, .int .u8 hh.opts, .int .u8 hh.typ, .int .u32 hh.id, .int .u32 hh.adv, .int .i32 hh.seq, .int .u16 hh.sum, .int .u16 hh.len] 93)).drew.cell? ⟨w1.heap.size, 0, none⟩ = some (.pointer (some ⟨b, 0, none⟩)) := ((Touch.refl _ w2).alloc _).cellN HC2.out
 have HD3 : Hid (Hd (w2.alloc (.cells #[.int .u16 hh.age, .int .u8 hh.opts, .int .u8 hh.typ, .int .u32 hh.id, .int .u32 hh.adv, .int .i32 hh.seq, .int .u16 hh.sum, .int .u16 hh.len] 93)) w2.heap.size hh) := Hd.new w2 hh _
 have R3 : Hid (Room (w2.alloc (.cells #[.int .u16 hh.age, .int .u8 hh.opts, .int .u8 hh.typ, .int .u32 hh.id, .int .u32 hh.adv, .int .i32 hh.seq, .int .u16 hh.sum, .int .u16 hh.len] 93)).drew w.heap.size 8) := R2.out.keep (((Touch.refl _ w2).alloc _).drew)
 have T3 : Hid (Touch (fun _ => False) w (w2.alloc (.cells #[.int .u16 hh.age, .int .u8 hh.opts, .int .u8 hh.typ, .int .u32 hh.id, .int .u32 hh.adv, .int .i32 hh.seq, .int .u16 hh.sum, .int .u16 hh.len] 93)).drew) := T2.out.trans (((Touch.refl _ w2).alloc _).drew)
 have HR3 : Hid (Rdr w1.heap.size (w2.alloc (.cells #[.int .u16 hh.age, .int .u8 hh.opts, .int .u8 hh.typ, .int .u32 hh.id, .int .u32 hh.adv, .int .i32 hh.seq, .int .u16 hh.sum, .int .u16 hh.len] 93)).drew b (rs.take rs.length) none) := HR2.out _ (((Touch.refl _ w2).alloc _).drew)
 have hng : ¬ w2.heap.size = w.heap.size := by omega
 have hng' : ¬ w.heap.size = w2.heap.size := by omega
 clear hc2 HR2 HC2 R2 T2
 generalize w2.alloc (.cells #[.int .u16 hh.age, .int .u8 hh.opts, .int .u8 hh.typ, .int .u32 hh.id, .int .u32 hh.adv, .int .i32 hh.seq, .int .u16 hh.sum, .int .u16 hh.len] 93) = w3 at *
 go_region_held2 (fun w' => w'.cell? ⟨w1.heap.size, 0, none⟩ = some (.pointer (some ⟨b, 0, none⟩))) (go_keep) (first
  | (go_at_call 168; refine Calls.mono (err_none _ b _ _ HR3.out) ?_; rintro e wx ⟨rfl, rfl⟩)
  | (go_at_call 189; refine Calls.mono (Calls.dead (.tuple #[]) (need_f _ _ _ rfl)) ?_; rintro e wx (⟨rfl, rfl⟩ | ⟨HF, rfl, rfl⟩); exact ⟨rfl, rfl, T3.out⟩))
 exact HF.out.elim

theorem headOf_ok (v : Value) (rs : List Int) (w : World) (hv : ArgAt w v rs) (hby : ∀ z ∈ rs, 0 ≤ z ∧ z < 256) (hl : 20 ≤ rs.length) (hl2 : rs.length ≤ 1099511627776) :
  Calls Tryz.prog 188 #[v] w fun e w' => e = .returned (rdHead (rs.take 20)).v ∧ Touch (fun _ => False) w w' := by
 rcases Nat.lt_or_ge 20 rs.length with h | h
 ·exact headOf_more v rs w hv hby h hl2
 ·have e : rs.length = 20 := by omega
  have := headOf_just v rs w hv hby e hl2
  rwa [e] at this
end Go.Proofs.YtbfplepmgbkajaaGreatDoor
