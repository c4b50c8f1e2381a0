/- Contracts: ReadHead. -/
import Derived.Test.YtjgeklipeeooaaaGreatDoorStRead2
import Derived.Test.YtjgeklipeeooaaaGreatDoorStFaceH
import Derived.Test.YtjgeklipeeooaaaGreatDoorKeep
import Derived.Test.YtjgeklipeeooaaaGreatDoorStRead3
import Derived.Deep.RegionHeld3
import Derived.Deep.DeepCutAuto
namespace Go.Proofs.YtjgeklipeeooaaaGreatDoor
open Go.RowKit
set_option linter.unusedVariables false
set_option maxRecDepth 100000

set_option maxHeartbeats 1000000 in
theorem readH1_ok (gb : Nat) (v : Value) (rs : List Int) (w : World) (hc : w.cell? ⟨gb, 0, none⟩ = some v) (hv : ArgAt w v rs) (hby : ∀ z ∈ rs, 0 ≤ z ∧ z < 256) (hl : 20 ≤ rs.length) (hl2 : rs.length ≤ 1099511627776) (H : HV) (hH : rdHead (rs.take 20) = H) :
    Calls Tryz.prog 195 #[.pointer (some ⟨gb, 0, none⟩)] w fun e w' => e = .returned (.agg #[.int .u16 H.age, .int .u8 H.opts, .int .u8 H.typ, .int .u32 H.id, .int .u32 H.adv, .int .i32 H.seq, .int .u16 H.sum, .int .u16 H.len]) ∧ Touch (fun _ => False) w w' := by
  have HV' : Hid (ArgAt w v rs) := hv
  have HB : Hid (∀ z ∈ rs, 0 ≤ z ∧ z < 256) := hby
  obtain ⟨va, vc, rfl, hm⟩ := hv.form
  have hgl := lt_of_cell hc
  have HH := fun w h => headOf_ok (.slice va rs.length vc) rs w h HB.out hl hl2
  rw [hH] at HH
  unfold HV.v at HH
  clear hv hby hH
  go_enter Tryz.func195, Tryz.ntmps195
  go_wp2_with fail
  refine Calls.mono (HH _ (HV'.out.keepN ((Touch.refl _ _).alloc _))) ?_
  rintro e w1 ⟨rfl, t1⟩
  have T1 : Hid (Touch (fun _ => False) w w1) := ((Touch.refl _ w).alloc _).trans t1
  have R1 : Room w1 w.heap.size 8 := (Room.new w #[.int .u16 0, .int .u8 0, .int .u8 0, .int .u32 0, .int .u32 0, .int .i32 0, .int .u16 0, .int .u16 0] 93).keep t1
  clear t1 HH
  obtain ⟨zz0, zc0, zf0⟩ := R1 0 (by omega)
  obtain ⟨zz1, zc1, zf1⟩ := R1 1 (by omega)
  obtain ⟨zz2, zc2, zf2⟩ := R1 2 (by omega)
  obtain ⟨zz3, zc3, zf3⟩ := R1 3 (by omega)
  obtain ⟨zz4, zc4, zf4⟩ := R1 4 (by omega)
  obtain ⟨zz5, zc5, zf5⟩ := R1 5 (by omega)
  obtain ⟨zz6, zc6, zf6⟩ := R1 6 (by omega)
  obtain ⟨zz7, zc7, zf7⟩ := R1 7 (by omega)
  obtain ⟨wz, hwz⟩ : ∃ wz, wz = ((((((((w1.setCell ⟨w.heap.size, 0, none⟩ (.int .u16 H.age)).setCell ⟨w.heap.size, 1, none⟩ (.int .u8 H.opts)).setCell ⟨w.heap.size, 2, none⟩ (.int .u8 H.typ)).setCell ⟨w.heap.size, 3, none⟩ (.int .u32 H.id)).setCell ⟨w.heap.size, 4, none⟩ (.int .u32 H.adv)).setCell ⟨w.heap.size, 5, none⟩ (.int .i32 H.seq)).setCell ⟨w.heap.size, 6, none⟩ (.int .u16 H.sum)).setCell ⟨w.heap.size, 7, none⟩ (.int .u16 H.len)) := ⟨_, rfl⟩
  have zd0 : wz.cell? ⟨w.heap.size, 0, none⟩ = some (.int .u16 H.age) := by rw [hwz]; simp [zc0, go_sem]
  have zd1 : wz.cell? ⟨w.heap.size, 1, none⟩ = some (.int .u8 H.opts) := by rw [hwz]; simp [zc1, go_sem]
  have zd2 : wz.cell? ⟨w.heap.size, 2, none⟩ = some (.int .u8 H.typ) := by rw [hwz]; simp [zc2, go_sem]
  have zd3 : wz.cell? ⟨w.heap.size, 3, none⟩ = some (.int .u32 H.id) := by rw [hwz]; simp [zc3, go_sem]
  have zd4 : wz.cell? ⟨w.heap.size, 4, none⟩ = some (.int .u32 H.adv) := by rw [hwz]; simp [zc4, go_sem]
  have zd5 : wz.cell? ⟨w.heap.size, 5, none⟩ = some (.int .i32 H.seq) := by rw [hwz]; simp [zc5, go_sem]
  have zd6 : wz.cell? ⟨w.heap.size, 6, none⟩ = some (.int .u16 H.sum) := by rw [hwz]; simp [zc6, go_sem]
  have zd7 : wz.cell? ⟨w.heap.size, 7, none⟩ = some (.int .u16 H.len) := by rw [hwz]; simp [zc7, go_sem]
  have HUz : Hid (Touch (fun k => k = w.heap.size) w1 wz) := by show Touch _ _ _; rw [hwz]; refine Touch.setCell (F := fun k => k = w.heap.size) (p := ⟨w.heap.size, 7, none⟩) ?_ (Or.inl rfl) _; refine Touch.setCell (F := fun k => k = w.heap.size) (p := ⟨w.heap.size, 6, none⟩) ?_ (Or.inl rfl) _; refine Touch.setCell (F := fun k => k = w.heap.size) (p := ⟨w.heap.size, 5, none⟩) ?_ (Or.inl rfl) _; refine Touch.setCell (F := fun k => k = w.heap.size) (p := ⟨w.heap.size, 4, none⟩) ?_ (Or.inl rfl) _; refine Touch.setCell (F := fun k => k = w.heap.size) (p := ⟨w.heap.size, 3, none⟩) ?_ (Or.inl rfl) _; refine Touch.setCell (F := fun k => k = w.heap.size) (p := ⟨w.heap.size, 2, none⟩) ?_ (Or.inl rfl) _; refine Touch.setCell (F := fun k => k = w.heap.size) (p := ⟨w.heap.size, 1, none⟩) ?_ (Or.inl rfl) _; refine Touch.setCell (F := fun k => k = w.heap.size) (p := ⟨w.heap.size, 0, none⟩) ?_ (Or.inl rfl) _; exact Touch.refl _ _
  have HWz : Hid (wz = ((((((((w1.setCell ⟨w.heap.size, 0, none⟩ (.int .u16 H.age)).setCell ⟨w.heap.size, 1, none⟩ (.int .u8 H.opts)).setCell ⟨w.heap.size, 2, none⟩ (.int .u8 H.typ)).setCell ⟨w.heap.size, 3, none⟩ (.int .u32 H.id)).setCell ⟨w.heap.size, 4, none⟩ (.int .u32 H.adv)).setCell ⟨w.heap.size, 5, none⟩ (.int .i32 H.seq)).setCell ⟨w.heap.size, 6, none⟩ (.int .u16 H.sum)).setCell ⟨w.heap.size, 7, none⟩ (.int .u16 H.len))) := hwz
  clear hwz
  go_wp2_with fail
  rw [← HWz.out]
  clear HWz zc0 zf0 zc1 zf1 zc2 zf2 zc3 zf3 zc4 zf4 zc5 zf5 zc6 zf6 zc7 zf7
  refine bodyPost_ret (v := .agg #[.int .u16 H.age, .int .u8 H.opts, .int .u8 H.typ, .int .u32 H.id, .int .u32 H.adv, .int .i32 H.seq, .int .u16 H.sum, .int .u16 H.len]) (by simp [results, Tryz.results195, go_sem, zd0, zd1, zd2, zd3, zd4, zd5, zd6, zd7]) rfl ?_
  exact ⟨rfl, T1.out.trans' HUz.out (fun i hi e => by omega)⟩
set_option maxHeartbeats 1000000 in
theorem readH_good (v : Value) (rs : List Int) (w : World) (hv : ArgAt w v rs) (hby : ∀ z ∈ rs, 0 ≤ z ∧ z < 256) (hl : 20 ≤ rs.length) (hl2 : rs.length ≤ 1099511627776) (H : HV) (hH : rdHead (rs.take 20) = H) :
    Calls Tryz.prog 185 #[v] w fun e w' => e = .returned (.tuple #[.agg #[.int .u16 H.age, .int .u8 H.opts, .int .u8 H.typ, .int .u32 H.id, .int .u32 H.adv, .int .i32 H.seq, .int .u16 H.sum, .int .u16 H.len], .int .i64 0]) ∧ Touch (fun _ => False) w w' := by
  obtain ⟨va, vc, rfl, hm⟩ := hv.form
  have hmf : ∀ (fn : Fn) (first cap : Array Value) (w : World), (Instr.makeFunc fn first cap).run Tryz.prog w = .ok (.func fn first cap) w := fun _ _ _ _ => rfl
  have HC := readH1_ok w.heap.size (.slice va rs.length vc) rs ((((w.alloc (.cells #[.slice va rs.length vc] 40)).alloc (.cells #[.int .u16 0, .int .u8 0, .int .u8 0, .int .u32 0, .int .u32 0, .int .i32 0, .int .u16 0, .int .u16 0] 93)).alloc (.cells #[.int .u16 0, .int .u8 0, .int .u8 0, .int .u32 0, .int .u32 0, .int .i32 0, .int .u16 0, .int .u16 0] 93)).alloc (.cells #[.int .i64 0] 41)) (by simp [go_sem]) (hv.keepN (((((Touch.refl _ w).alloc _).alloc _).alloc _).alloc _)) hby hl hl2 H hH
  clear hby hv
  have HF := faceH_ok 195 #[.pointer (some ⟨w.heap.size, 0, none⟩)] (fun _ => rfl) ((w.alloc (.cells #[.slice va rs.length vc] 40)).alloc (.cells #[.int .u16 0, .int .u8 0, .int .u8 0, .int .u32 0, .int .u32 0, .int .i32 0, .int .u16 0, .int .u16 0] 93)) H.age H.opts H.typ H.id H.adv H.seq H.sum H.len (fun _ => True) (HC.mono (fun e w' h => ⟨h.1, h.2, trivial⟩)) (fun _ _ _ _ _ => trivial)
  clear HC
  go_enter Tryz.func185, Tryz.ntmps185
  go_wp2_with fail
  refine Calls.mono HF ?_
  rintro e w1 ⟨rfl, t1, -⟩
  clear HF hmf
  have R1 : Room w1 (w.heap.size + 1) 8 := by
    have := (Room.new (w.alloc (.cells #[.slice va rs.length vc] 40)) #[.int .u16 0, .int .u8 0, .int .u8 0, .int .u32 0, .int .u32 0, .int .i32 0, .int .u16 0, .int .u16 0] 93).keep t1
    simpa using this
  have T1 : Hid (Touch (fun _ => False) w w1) := (((Touch.refl _ w).alloc _).alloc _).trans t1
  clear t1
  obtain ⟨zz0, zc0, zf0⟩ := R1 0 (by omega)
  obtain ⟨zz1, zc1, zf1⟩ := R1 1 (by omega)
  obtain ⟨zz2, zc2, zf2⟩ := R1 2 (by omega)
  obtain ⟨zz3, zc3, zf3⟩ := R1 3 (by omega)
  obtain ⟨zz4, zc4, zf4⟩ := R1 4 (by omega)
  obtain ⟨zz5, zc5, zf5⟩ := R1 5 (by omega)
  obtain ⟨zz6, zc6, zf6⟩ := R1 6 (by omega)
  obtain ⟨zz7, zc7, zf7⟩ := R1 7 (by omega)
  obtain ⟨wz, hwz⟩ : ∃ wz, wz = ((((((((w1.setCell ⟨(w.heap.size + 1), 0, none⟩ (.int .u16 H.age)).setCell ⟨(w.heap.size + 1), 1, none⟩ (.int .u8 H.opts)).setCell ⟨(w.heap.size + 1), 2, none⟩ (.int .u8 H.typ)).setCell ⟨(w.heap.size + 1), 3, none⟩ (.int .u32 H.id)).setCell ⟨(w.heap.size + 1), 4, none⟩ (.int .u32 H.adv)).setCell ⟨(w.heap.size + 1), 5, none⟩ (.int .i32 H.seq)).setCell ⟨(w.heap.size + 1), 6, none⟩ (.int .u16 H.sum)).setCell ⟨(w.heap.size + 1), 7, none⟩ (.int .u16 H.len)) := ⟨_, rfl⟩
  have zd0 : wz.cell? ⟨(w.heap.size + 1), 0, none⟩ = some (.int .u16 H.age) := by rw [hwz]; simp [zc0, go_sem]
  have zd1 : wz.cell? ⟨(w.heap.size + 1), 1, none⟩ = some (.int .u8 H.opts) := by rw [hwz]; simp [zc1, go_sem]
  have zd2 : wz.cell? ⟨(w.heap.size + 1), 2, none⟩ = some (.int .u8 H.typ) := by rw [hwz]; simp [zc2, go_sem]
  have zd3 : wz.cell? ⟨(w.heap.size + 1), 3, none⟩ = some (.int .u32 H.id) := by rw [hwz]; simp [zc3, go_sem]
  have zd4 : wz.cell? ⟨(w.heap.size + 1), 4, none⟩ = some (.int .u32 H.adv) := by rw [hwz]; simp [zc4, go_sem]
  have zd5 : wz.cell? ⟨(w.heap.size + 1), 5, none⟩ = some (.int .i32 H.seq) := by rw [hwz]; simp [zc5, go_sem]
  have zd6 : wz.cell? ⟨(w.heap.size + 1), 6, none⟩ = some (.int .u16 H.sum) := by rw [hwz]; simp [zc6, go_sem]
  have zd7 : wz.cell? ⟨(w.heap.size + 1), 7, none⟩ = some (.int .u16 H.len) := by rw [hwz]; simp [zc7, go_sem]
  have HUz : Hid (Touch (fun k => k = (w.heap.size + 1)) w1 wz) := by show Touch _ _ _; rw [hwz]; refine Touch.setCell (F := fun k => k = (w.heap.size + 1)) (p := ⟨(w.heap.size + 1), 7, none⟩) ?_ (Or.inl rfl) _; refine Touch.setCell (F := fun k => k = (w.heap.size + 1)) (p := ⟨(w.heap.size + 1), 6, none⟩) ?_ (Or.inl rfl) _; refine Touch.setCell (F := fun k => k = (w.heap.size + 1)) (p := ⟨(w.heap.size + 1), 5, none⟩) ?_ (Or.inl rfl) _; refine Touch.setCell (F := fun k => k = (w.heap.size + 1)) (p := ⟨(w.heap.size + 1), 4, none⟩) ?_ (Or.inl rfl) _; refine Touch.setCell (F := fun k => k = (w.heap.size + 1)) (p := ⟨(w.heap.size + 1), 3, none⟩) ?_ (Or.inl rfl) _; refine Touch.setCell (F := fun k => k = (w.heap.size + 1)) (p := ⟨(w.heap.size + 1), 2, none⟩) ?_ (Or.inl rfl) _; refine Touch.setCell (F := fun k => k = (w.heap.size + 1)) (p := ⟨(w.heap.size + 1), 1, none⟩) ?_ (Or.inl rfl) _; refine Touch.setCell (F := fun k => k = (w.heap.size + 1)) (p := ⟨(w.heap.size + 1), 0, none⟩) ?_ (Or.inl rfl) _; exact Touch.refl _ _
  have HWz : Hid (wz = ((((((((w1.setCell ⟨(w.heap.size + 1), 0, none⟩ (.int .u16 H.age)).setCell ⟨(w.heap.size + 1), 1, none⟩ (.int .u8 H.opts)).setCell ⟨(w.heap.size + 1), 2, none⟩ (.int .u8 H.typ)).setCell ⟨(w.heap.size + 1), 3, none⟩ (.int .u32 H.id)).setCell ⟨(w.heap.size + 1), 4, none⟩ (.int .u32 H.adv)).setCell ⟨(w.heap.size + 1), 5, none⟩ (.int .i32 H.seq)).setCell ⟨(w.heap.size + 1), 6, none⟩ (.int .u16 H.sum)).setCell ⟨(w.heap.size + 1), 7, none⟩ (.int .u16 H.len))) := hwz
  clear hwz
  go_wp2_with fail
  rw [← HWz.out]
  clear HWz zc0 zf0 zc1 zf1 zc2 zf2 zc3 zf3 zc4 zf4 zc5 zf5 zc6 zf6 zc7 zf7
  refine bodyPost_ret (v := .tuple #[.agg #[.int .u16 H.age, .int .u8 H.opts, .int .u8 H.typ, .int .u32 H.id, .int .u32 H.adv, .int .i32 H.seq, .int .u16 H.sum, .int .u16 H.len], .int .i64 0]) (by simp [results, Tryz.results185, go_sem, zd0, zd1, zd2, zd3, zd4, zd5, zd6, zd7]) rfl ?_
  exact ⟨rfl, T1.out.trans' HUz.out (fun i hi e => by omega)⟩

end Go.Proofs.YtjgeklipeeooaaaGreatDoor

namespace Go.Proofs.YtjgeklipeeooaaaGreatDoor
open Go.RowKit
set_option linter.unusedVariables false
set_option maxRecDepth 100000

set_option maxHeartbeats 2000000 in
theorem prhead (N b p : Nat) (rs : List Int) (w : World) (h : Rdr N w b rs (some p)) (hN : N ≤ w.heap.size) (hp : p + 20 ≤ rs.length) (hc : rs.length ≤ 1000000) (H : HV) (hH : rdHead ((rs.drop p).take 20) = H) :
    Calls Tryz.prog 172 #[.agg #[.pointer (some ⟨b, 0, none⟩)]] w fun e w' => e = .returned (.agg #[.int .u16 H.age, .int .u8 H.opts, .int .u8 H.typ, .int .u32 H.id, .int .u32 H.adv, .int .i32 H.seq, .int .u16 H.sum, .int .u16 H.len]) ∧ Rdr N w' b rs (some (p + 20)) ∧ Touch (fun k => k = b) w w' := by
  have hb := h.lt
  have hby : ∀ z ∈ (rs.drop p).take 20, 0 ≤ z ∧ z < 256 := fun z hz => h.byte z (List.mem_of_mem_drop (List.mem_of_mem_take hz))
  have hl : ((rs.drop p).take 20).length = 20 := by rw [List.length_take, List.length_drop]; omega
  have HB := pbytes_n 20 N b p rs _ (h.keep (((Touch.refl _ _).alloc (.cells #[.pointer (some ⟨b, 0, none⟩)] 189)).alloc (.cells #[.int .u16 0, .int .u8 0, .int .u8 0, .int .u32 0, .int .u32 0, .int .i32 0, .int .u16 0, .int .u16 0] 93))) hp hc
  have HR : Hid (∀ v w', ArgAt w' v ((rs.drop p).take 20) → Calls Tryz.prog 185 #[v] w' fun e w'' => e = .returned (.tuple #[.agg #[.int .u16 H.age, .int .u8 H.opts, .int .u8 H.typ, .int .u32 H.id, .int .u32 H.adv, .int .i32 H.seq, .int .u16 H.sum, .int .u16 H.len], .int .i64 0]) ∧ Touch (fun _ => False) w' w'') := fun v w' ha => readH_good v _ w' ha hby (by omega) (by omega) H (by rw [← hH, List.take_of_length_le (by omega)])
  have R0 := Room.new (w.alloc (.cells #[.pointer (some ⟨b, 0, none⟩)] 189)) #[.int .u16 0, .int .u8 0, .int .u8 0, .int .u32 0, .int .u32 0, .int .i32 0, .int .u16 0, .int .u16 0] 93
  have s0 : ((w.alloc (.cells #[.pointer (some ⟨b, 0, none⟩)] 189)).alloc (.cells #[.int .u16 0, .int .u8 0, .int .u8 0, .int .u32 0, .int .u32 0, .int .i32 0, .int .u16 0, .int .u16 0] 93)).heap.size = w.heap.size + 2 := by simp
  have RR : Hid (Room ((w.alloc (.cells #[.pointer (some ⟨b, 0, none⟩)] 189)).alloc (.cells #[.int .u16 0, .int .u8 0, .int .u8 0, .int .u32 0, .int .u32 0, .int .i32 0, .int .u16 0, .int .u16 0] 93)) (w.heap.size + 1) 8) := by show Room _ _ _; simpa using R0
  clear hby hl hH h hp R0
  go_enter Tryz.func172, Tryz.ntmps172
  go_wp2_with fail
  refine Calls.mono HB ?_
  rintro e w1 ⟨v1, rfl, o1, r1, t1⟩
  have A1 : ArgAt w1 v1 ((rs.drop p).take 20) := (own_rowAt o1).arg
  have R1 : Hid (Room w1 (w.heap.size + 1) 8) := RR.out.touch t1 (by show ¬ (_ = _); omega)
  have T1 : Hid (Touch (fun k => k = b) w w1) := (((Touch.refl _ w).alloc _).alloc _).trans t1
  have H1 : Hid (Rdr N w1 b rs (some (p + 20))) := r1
  have z1 : w.heap.size + 1 < w1.heap.size := by have := t1.size; omega
  clear HB t1 r1 o1 RR s0
  go_wp2_with fail
  refine Calls.mono (HR.out v1 w1 A1) ?_
  rintro e w2 ⟨rfl, t2⟩
  obtain ⟨w3, hw3⟩ : ∃ w3, w3 = w2.alloc (.cells #[.int .u16 H.age, .int .u8 H.opts, .int .u8 H.typ, .int .u32 H.id, .int .u32 H.adv, .int .i32 H.seq, .int .u16 H.sum, .int .u16 H.len] 93) := ⟨_, rfl⟩
  have t3 : Touch (fun _ => False) w1 w3 := by rw [hw3]; exact t2.alloc _
  have D3 : Hd w3 w2.heap.size H := by rw [hw3]; exact Hd.new w2 H _
  obtain ⟨x0, x1, x2, x3, x4, x5, x6, x7⟩ := D3
  have R3 : Room w3 (w.heap.size + 1) 8 := R1.out.keep t3
  have T3 : Hid (Touch (fun k => k = b) w w3) := T1.out.trans' t3 (fun _ _ f => f.elim)
  have H3 : Hid (Rdr N w3 b rs (some (p + 20))) := H1.out.keep t3
  have z3 : Hid (w.heap.size + 1 < w3.heap.size) := by have := t3.size; show _ < _; omega
  clear A1 R1 T1 H1 z1 t2 t3 HR
  go_upto_region 2 with fail
  rw [← hw3]
  clear hw3
  generalize w2.heap.size = g3 at *
  go_wp2_with fail
  refine Calls.mono (pneed_ok 22 _) ?_
  rintro e w4 ⟨rfl, rfl⟩
  obtain ⟨zz0, zc0, zf0⟩ := R3 0 (by omega)
  obtain ⟨zz1, zc1, zf1⟩ := R3 1 (by omega)
  obtain ⟨zz2, zc2, zf2⟩ := R3 2 (by omega)
  obtain ⟨zz3, zc3, zf3⟩ := R3 3 (by omega)
  obtain ⟨zz4, zc4, zf4⟩ := R3 4 (by omega)
  obtain ⟨zz5, zc5, zf5⟩ := R3 5 (by omega)
  obtain ⟨zz6, zc6, zf6⟩ := R3 6 (by omega)
  obtain ⟨zz7, zc7, zf7⟩ := R3 7 (by omega)
  obtain ⟨wz, hwz⟩ : ∃ wz, wz = ((((((((w3.setCell ⟨(w.heap.size + 1), 0, none⟩ (.int .u16 H.age)).setCell ⟨(w.heap.size + 1), 1, none⟩ (.int .u8 H.opts)).setCell ⟨(w.heap.size + 1), 2, none⟩ (.int .u8 H.typ)).setCell ⟨(w.heap.size + 1), 3, none⟩ (.int .u32 H.id)).setCell ⟨(w.heap.size + 1), 4, none⟩ (.int .u32 H.adv)).setCell ⟨(w.heap.size + 1), 5, none⟩ (.int .i32 H.seq)).setCell ⟨(w.heap.size + 1), 6, none⟩ (.int .u16 H.sum)).setCell ⟨(w.heap.size + 1), 7, none⟩ (.int .u16 H.len)) := ⟨_, rfl⟩
  have zd0 : wz.cell? ⟨(w.heap.size + 1), 0, none⟩ = some (.int .u16 H.age) := by rw [hwz]; simp [zc0, go_sem]
  have zd1 : wz.cell? ⟨(w.heap.size + 1), 1, none⟩ = some (.int .u8 H.opts) := by rw [hwz]; simp [zc1, go_sem]
  have zd2 : wz.cell? ⟨(w.heap.size + 1), 2, none⟩ = some (.int .u8 H.typ) := by rw [hwz]; simp [zc2, go_sem]
  have zd3 : wz.cell? ⟨(w.heap.size + 1), 3, none⟩ = some (.int .u32 H.id) := by rw [hwz]; simp [zc3, go_sem]
  have zd4 : wz.cell? ⟨(w.heap.size + 1), 4, none⟩ = some (.int .u32 H.adv) := by rw [hwz]; simp [zc4, go_sem]
  have zd5 : wz.cell? ⟨(w.heap.size + 1), 5, none⟩ = some (.int .i32 H.seq) := by rw [hwz]; simp [zc5, go_sem]
  have zd6 : wz.cell? ⟨(w.heap.size + 1), 6, none⟩ = some (.int .u16 H.sum) := by rw [hwz]; simp [zc6, go_sem]
  have zd7 : wz.cell? ⟨(w.heap.size + 1), 7, none⟩ = some (.int .u16 H.len) := by rw [hwz]; simp [zc7, go_sem]
  have HUz : Hid (Touch (fun k => k = (w.heap.size + 1)) w3 wz) := by show Touch _ _ _; rw [hwz]; refine Touch.setCell (F := fun k => k = (w.heap.size + 1)) (p := ⟨(w.heap.size + 1), 7, none⟩) ?_ (Or.inl rfl) _; refine Touch.setCell (F := fun k => k = (w.heap.size + 1)) (p := ⟨(w.heap.size + 1), 6, none⟩) ?_ (Or.inl rfl) _; refine Touch.setCell (F := fun k => k = (w.heap.size + 1)) (p := ⟨(w.heap.size + 1), 5, none⟩) ?_ (Or.inl rfl) _; refine Touch.setCell (F := fun k => k = (w.heap.size + 1)) (p := ⟨(w.heap.size + 1), 4, none⟩) ?_ (Or.inl rfl) _; refine Touch.setCell (F := fun k => k = (w.heap.size + 1)) (p := ⟨(w.heap.size + 1), 3, none⟩) ?_ (Or.inl rfl) _; refine Touch.setCell (F := fun k => k = (w.heap.size + 1)) (p := ⟨(w.heap.size + 1), 2, none⟩) ?_ (Or.inl rfl) _; refine Touch.setCell (F := fun k => k = (w.heap.size + 1)) (p := ⟨(w.heap.size + 1), 1, none⟩) ?_ (Or.inl rfl) _; refine Touch.setCell (F := fun k => k = (w.heap.size + 1)) (p := ⟨(w.heap.size + 1), 0, none⟩) ?_ (Or.inl rfl) _; exact Touch.refl _ _
  have HWz : Hid (wz = ((((((((w3.setCell ⟨(w.heap.size + 1), 0, none⟩ (.int .u16 H.age)).setCell ⟨(w.heap.size + 1), 1, none⟩ (.int .u8 H.opts)).setCell ⟨(w.heap.size + 1), 2, none⟩ (.int .u8 H.typ)).setCell ⟨(w.heap.size + 1), 3, none⟩ (.int .u32 H.id)).setCell ⟨(w.heap.size + 1), 4, none⟩ (.int .u32 H.adv)).setCell ⟨(w.heap.size + 1), 5, none⟩ (.int .i32 H.seq)).setCell ⟨(w.heap.size + 1), 6, none⟩ (.int .u16 H.sum)).setCell ⟨(w.heap.size + 1), 7, none⟩ (.int .u16 H.len))) := hwz
  clear hwz
  go_wp2_with fail
  rw [← HWz.out]
  clear HWz zc0 zf0 zc1 zf1 zc2 zf2 zc3 zf3 zc4 zf4 zc5 zf5 zc6 zf6 zc7 zf7
  refine bodyPost_ret (v := .agg #[.int .u16 H.age, .int .u8 H.opts, .int .u8 H.typ, .int .u32 H.id, .int .u32 H.adv, .int .i32 H.seq, .int .u16 H.sum, .int .u16 H.len]) (by simp [results, Tryz.results172, go_sem, zd0, zd1, zd2, zd3, zd4, zd5, zd6, zd7]) rfl ?_
  exact ⟨rfl, H3.out.touch HUz.out (fun k hk e => by omega), T3.out.trans' HUz.out (fun i hi e => by omega)⟩

/-- Either a key, or given up with 24. -/
structure KP (N : Nat) (w : World) (b : Nat) (rs : List Int) (p : Nat) (e : Ending) (w' : World) : Prop where
  out : (e = .returned (.agg #[.int .u8 (nAt rs p 4), .int .u32 (nAt rs (p + 4) 4), .int .u32 (nAt rs (p + 8) 4)]) ∧ nAt rs p 4 ≤ 255 ∧ Rdr N w' b rs (some (p + 12)) ∧ Touch (fun k => k = b) w w') ∨ (e = .panicked (pflawC 24) ∧ 255 < nAt rs p 4 ∧ Touch (fun k => k = b) w w')
set_option maxHeartbeats 2000000 in
theorem prkey (N b p : Nat) (rs : List Int) (w : World) (h : Rdr N w b rs (some p)) (hN : N ≤ w.heap.size) (hp : p + 12 ≤ rs.length) :
    Calls Tryz.prog 174 #[.agg #[.pointer (some ⟨b, 0, none⟩)]] w (KP N w b rs p) := by
  have hb := h.lt
  have hb0 := h.low
  have HB := prnum 4 (by omega) N b p rs _ (h.keep (((Touch.refl _ _).alloc (.cells #[.pointer (some ⟨b, 0, none⟩)] 189)).alloc (.cells #[.int .u8 0, .int .u32 0, .int .u32 0] 125)))
  have R0 := Room.new (w.alloc (.cells #[.pointer (some ⟨b, 0, none⟩)] 189)) #[.int .u8 0, .int .u32 0, .int .u32 0] 125
  have s0 : ((w.alloc (.cells #[.pointer (some ⟨b, 0, none⟩)] 189)).alloc (.cells #[.int .u8 0, .int .u32 0, .int .u32 0] 125)).heap.size = w.heap.size + 2 := by simp
  have RR : Hid (Room ((w.alloc (.cells #[.pointer (some ⟨b, 0, none⟩)] 189)).alloc (.cells #[.int .u8 0, .int .u32 0, .int .u32 0] 125)) (w.heap.size + 1) 3) := by show Room _ _ _; simpa using R0
  have cc : ((w.alloc (.cells #[.pointer (some ⟨b, 0, none⟩)] 189)).alloc (.cells #[.int .u8 0, .int .u32 0, .int .u32 0] 125)).cell? ⟨w.heap.size, 0, none⟩ = some (.pointer (some ⟨b, 0, none⟩)) := by simp [go_sem]
  have HBy := h.byte
  clear h R0
  go_enter Tryz.func174, Tryz.ntmps174
  go_wp2_with fail
  refine Calls.mono HB ?_
  intro e w1 h1
  rcases h1.out with ⟨rfl, l1, r1, t1⟩ | ⟨rfl, l1, t1⟩
  rotate_left
  · exact absurd l1 (by simp; omega)
  have hnb := nAt_bound HBy p 4 (by omega)
  have hnb2 := nAt_bound HBy (p + 4) 4 (by omega)
  have hnb3 := nAt_bound HBy (p + 8) 4 (by omega)
  have R1 : Hid (Room w1 (w.heap.size + 1) 3) := RR.out.touch t1 (by show ¬ (_ = _); omega)
  have T1 : Hid (Touch (fun k => k = b) w w1) := (((Touch.refl _ w).alloc _).alloc _).trans t1
  have r1' : Rdr N w1 b rs (some (p + 4)) := r1
  have z1 : w.heap.size + 1 < w1.heap.size := by have := t1.size; omega
  have c1 : w1.cell? ⟨w.heap.size, 0, none⟩ = some (.pointer (some ⟨b, 0, none⟩)) := (t1.cell (p := ⟨w.heap.size, 0, none⟩) (by show w.heap.size < _; rw [s0]; omega) (by show ¬ (w.heap.size = b); omega)).trans cc
  clear h1 l1 r1 t1 HB RR s0 cc HBy
  simp only [show (4 : Int).toNat = 4 from rfl]
  generalize hn0 : nAt rs p 4 = n0 at *
  generalize hn1 : nAt rs (p + 4) 4 = n1 at *
  generalize hn2 : nAt rs (p + 8) 4 = n2 at *
  have N0 : Hid (nAt rs p 4 = n0) := hn0
  have N1 : Hid (nAt rs (p + 4) 4 = n1) := hn1
  have N2 : Hid (nAt rs (p + 8) 4 = n2) := hn2
  clear hn0 hn1 hn2
  by_cases hk : n0 ≤ 255
  rotate_left
  · have hkd : decide (n0 ≤ 255) = false := decide_eq_false hk
    go_wp2_with fail
    refine Calls.mono (pneed_no 24 _) ?_
    rintro e w2 ⟨rfl, rfl⟩
    exact ⟨rfl, ⟨Or.inr ⟨rfl, by rw [N0.out]; omega, T1.out⟩⟩⟩
  have hkd : decide (n0 ≤ 255) = true := decide_eq_true hk
  have hw : IntKind.u8.wrap n0 = n0 := by simp [IntKind.wrap, IntKind.bits, IntKind.signed]; omega
  go_wp2_with fail
  refine Calls.mono (pneed_ok 24 _) ?_
  rintro e w2 ⟨rfl, rfl⟩
  obtain ⟨Fb, hFb⟩ : ∃ Fb : Nat → Prop, Fb = fun k => k = b ∨ k = w.heap.size + 1 := ⟨_, rfl⟩
  have fb : ∀ k, k = b → Fb k := by subst hFb; exact fun k hk => Or.inl hk
  have fg : Fb (w.heap.size + 1) := by subst hFb; exact Or.inr rfl
  have fn : ¬ Fb w.heap.size := by subst hFb; show ¬ (_ ∨ _); omega
  have q0 := onl_cell c1 fn
  have HK0 : Hid (n0 ≤ 255) := hk
  have FI : Hid (∀ k, k < w.heap.size → Fb k → k = b) := by subst hFb; exact fun k h1 h2 => by rcases h2 with h2 | h2; exact h2; omega
  have st : Onl Fb w1 w1.drew := ⟨(Touch.refl _ _).drew⟩
  have rd : Rdr N w1.drew b rs (some (p + 4)) := r1'.keep ((Touch.refl _ _).drew)
  have rm : RoomL w1.drew (w.heap.size + 1) 3 := ⟨R1.out.keep ((Touch.refl _ _).drew)⟩
  have HL : Hid (p + 12 ≤ rs.length) := hp
  have ne : b ≠ w.heap.size + 1 := by omega
  have HNN : Hid (N ≤ w.heap.size) := hN
  clear r1' c1 R1 hkd hk hp hFb fn hb hb0 hN
  go_upto_region 3 with fail
  generalize hg1 : w.heap.size + 1 = g2 at *
  generalize hg0 : w.heap.size = g1 at *
  have G1 : Hid (w.heap.size = g1) := hg0
  have G2 : Hid (g1 + 1 = g2) := hg1
  clear hg0 hg1
  go_region_held3 (fun w' => Onl Fb w1 w') (first | with_reducible assumption | with_reducible exact Onl.set (Onl.set (Onl.set s3 fg _ _) fg _ _) fg _ _) (first
    | (go_at_call 140; refine Calls.mono (prnum 4 (by omega) N b _ rs _ (by with_reducible assumption)) ?_; intro e w3 h3; rcases h3.out with ⟨rfl, l3, r3, t3⟩ | ⟨rfl, l3, t3⟩; rotate_left; exact absurd l3 (by have := HL.out; simp; omega); have s3 : Onl Fb w1 w3 := Onl.step (by with_reducible assumption) t3 fb; have m3 : RoomL w3 g2 3 := RoomL.touch (by with_reducible assumption) t3 ne; obtain ⟨zz0, zc0, zf0⟩ := m3.out 0 (by omega); obtain ⟨zz1, zc1, zf1⟩ := m3.out 1 (by omega); obtain ⟨zz2, zc2, zf2⟩ := m3.out 2 (by omega); simp only [show (4 : Int).toNat = 4 from rfl, Nat.add_assoc, Nat.reduceAdd, N1.out, N2.out])
    )
  obtain ⟨wz, hwz⟩ : ∃ wz, wz = (((w3.setCell ⟨g2, 0, none⟩ (.int .u8 n0)).setCell ⟨g2, 1, none⟩ (.int .u32 n1)).setCell ⟨g2, 2, none⟩ (.int .u32 n2)) := ⟨_, rfl⟩
  have zd0 : wz.cell? ⟨g2, 0, none⟩ = some (.int .u8 n0) := by rw [hwz]; simp [zc0, go_sem]
  have zd1 : wz.cell? ⟨g2, 1, none⟩ = some (.int .u32 n1) := by rw [hwz]; simp [zc1, go_sem]
  have zd2 : wz.cell? ⟨g2, 2, none⟩ = some (.int .u32 n2) := by rw [hwz]; simp [zc2, go_sem]
  have HUz : Hid (Touch (fun k => k = g2) w3 wz) := by show Touch _ _ _; rw [hwz]; refine Touch.setCell (F := fun k => k = g2) (p := ⟨g2, 2, none⟩) ?_ (Or.inl rfl) _; refine Touch.setCell (F := fun k => k = g2) (p := ⟨g2, 1, none⟩) ?_ (Or.inl rfl) _; refine Touch.setCell (F := fun k => k = g2) (p := ⟨g2, 0, none⟩) ?_ (Or.inl rfl) _; exact Touch.refl _ _
  rw [← hwz]
  clear hwz zc0 zf0 zc1 zf1 zc2 zf2
  go_wp2_with fail
  refine bodyPost_ret (v := .agg #[.int .u8 n0, .int .u32 n1, .int .u32 n2]) (by simp [results, Tryz.results174, go_sem, zd0, zd1, zd2]) rfl ?_
  refine ⟨Or.inl ⟨by rw [N0.out, N1.out, N2.out], by rw [N0.out]; exact HK0.out, ?_, ?_⟩⟩
  · have := r3.touch HUz.out (fun k hk e => by have := HNN.out; have := G1.out; have := G2.out; omega)
    simpa [Nat.add_assoc] using this
  · refine (T1.out.trans' s3.t ?_).trans' HUz.out ?_
    · intro i hi e
      exact FI.out i (by have := G1.out; omega) e
    · intro i hi e
      have := G1.out; have := G2.out; omega
end Go.Proofs.YtjgeklipeeooaaaGreatDoor
