/- Contracts: ReadHead. -/
import Derived.Test.YtfhkocpnealblaaGreatStRead1
import Derived.Test.YtfhkocpnealblaaGreatStFaceH
namespace Go.Proofs.YtfhkocpnealblaaGreat
open Go.RowKit
set_option linter.unusedVariables false
set_option maxRecDepth 100000

set_option maxHeartbeats 1000000 in
theorem readH1_ok (gb : Nat) (v : Value) (rs : List Int) (w : World) (hc : w.cell? ⟨gb, 0, none⟩ = some v) (hv : ArgAt w v rs) (hby : ∀ z ∈ rs, 0 ≤ z ∧ z < 256) (hl : 20 ≤ rs.length) (hl2 : rs.length ≤ 1099511627776) (H : HV) (hH : rdHead (rs.take 20) = H) :
    Calls Tryz.prog 121 #[.pointer (some ⟨gb, 0, none⟩)] w fun e w' => e = .returned (.agg #[.int .u16 H.age, .int .u8 H.opts, .int .u8 H.typ, .int .u32 H.id, .int .u32 H.adv, .int .i32 H.seq, .int .u16 H.sum, .int .u16 H.len]) ∧ Touch (fun _ => False) w w' := by
  have HV' : Hid (ArgAt w v rs) := hv
  have HB : Hid (∀ z ∈ rs, 0 ≤ z ∧ z < 256) := hby
  obtain ⟨va, vc, rfl, hm⟩ := hv.form
  have hgl := lt_of_cell hc
  have HH := fun w h => headOf_ok (.slice va rs.length vc) rs w h HB.out hl hl2
  rw [hH] at HH
  unfold HV.v at HH
  clear hv hby hH
  go_enter Tryz.func121, Tryz.ntmps121
  go_wp2_with fail
  refine Calls.mono (HH _ (HV'.out.keepN ((Touch.refl _ _).alloc _))) ?_
  rintro e w1 ⟨rfl, t1⟩
  have T1 : Hid (Touch (fun _ => False) w w1) := ((Touch.refl _ w).alloc _).trans t1
  have R1 : Room w1 w.heap.size 8 := (Room.new w #[.int .u16 0, .int .u8 0, .int .u8 0, .int .u32 0, .int .u32 0, .int .i32 0, .int .u16 0, .int .u16 0] 82).keep t1
  clear t1 HH
  obtain ⟨zz0, zc0, zf0⟩ := R1 0 (by omega)
  obtain ⟨zz1, zc1, zf1⟩ := R1 1 (by omega)
  obtain ⟨zz2, zc2, zf2⟩ := R1 2 (by omega)
  obtain ⟨zz3, zc3, zf3⟩ := R1 3 (by omega)
  obtain ⟨zz4, zc4, zf4⟩ := R1 4 (by omega)
  obtain ⟨zz5, zc5, zf5⟩ := R1 5 (by omega)
  obtain ⟨zz6, zc6, zf6⟩ := R1 6 (by omega)
  obtain ⟨zz7, zc7, zf7⟩ := R1 7 (by omega)
  obtain ⟨wz, hwz⟩ : ∃ wz, wz = ((((((((w1.setCell ⟨w.heap.size, 0, none⟩ (.int .u16 H.age)).setCell ⟨w.heap.size, 1, none⟩ (.int .u8 H.opts)).setCell ⟨w.heap.size, 2, none⟩ (.int .u8 H.typ)).setCell ⟨w.heap.size, 3, none⟩ (.int .u32 H.id)).setCell ⟨w.heap.size, 4, none⟩ (.int .u32 H.adv)).setCell ⟨w.heap.size, 5, none⟩ (.int .i32 H.seq)).setCell ⟨w.heap.size, 6, none⟩ (.int .u16 H.sum)).setCell ⟨w.heap.size, 7, none⟩ (.int .u16 H.len)) := ⟨_, rfl⟩
  have zd0 : wz.cell? ⟨w.heap.size, 0, none⟩ = some (.int .u16 H.age) := by rw [hwz]; simp [zc0, go_sem]
  have zd1 : wz.cell? ⟨w.heap.size, 1, none⟩ = some (.int .u8 H.opts) := by rw [hwz]; simp [zc1, go_sem]
  have zd2 : wz.cell? ⟨w.heap.size, 2, none⟩ = some (.int .u8 H.typ) := by rw [hwz]; simp [zc2, go_sem]
  have zd3 : wz.cell? ⟨w.heap.size, 3, none⟩ = some (.int .u32 H.id) := by rw [hwz]; simp [zc3, go_sem]
  have zd4 : wz.cell? ⟨w.heap.size, 4, none⟩ = some (.int .u32 H.adv) := by rw [hwz]; simp [zc4, go_sem]
  have zd5 : wz.cell? ⟨w.heap.size, 5, none⟩ = some (.int .i32 H.seq) := by rw [hwz]; simp [zc5, go_sem]
  have zd6 : wz.cell? ⟨w.heap.size, 6, none⟩ = some (.int .u16 H.sum) := by rw [hwz]; simp [zc6, go_sem]
  have zd7 : wz.cell? ⟨w.heap.size, 7, none⟩ = some (.int .u16 H.len) := by rw [hwz]; simp [zc7, go_sem]
  have HUz : Hid (Touch (fun k => k = w.heap.size) w1 wz) := by show Touch _ _ _; rw [hwz]; refine Touch.setCell (F := fun k => k = w.heap.size) (p := ⟨w.heap.size, 7, none⟩) ?_ (Or.inl rfl) _; refine Touch.setCell (F := fun k => k = w.heap.size) (p := ⟨w.heap.size, 6, none⟩) ?_ (Or.inl rfl) _; refine Touch.setCell (F := fun k => k = w.heap.size) (p := ⟨w.heap.size, 5, none⟩) ?_ (Or.inl rfl) _; refine Touch.setCell (F := fun k => k = w.heap.size) (p := ⟨w.heap.size, 4, none⟩) ?_ (Or.inl rfl) _; refine Touch.setCell (F := fun k => k = w.heap.size) (p := ⟨w.heap.size, 3, none⟩) ?_ (Or.inl rfl) _; refine Touch.setCell (F := fun k => k = w.heap.size) (p := ⟨w.heap.size, 2, none⟩) ?_ (Or.inl rfl) _; refine Touch.setCell (F := fun k => k = w.heap.size) (p := ⟨w.heap.size, 1, none⟩) ?_ (Or.inl rfl) _; refine Touch.setCell (F := fun k => k = w.heap.size) (p := ⟨w.heap.size, 0, none⟩) ?_ (Or.inl rfl) _; exact Touch.refl _ _
  have HWz : Hid (wz = ((((((((w1.setCell ⟨w.heap.size, 0, none⟩ (.int .u16 H.age)).setCell ⟨w.heap.size, 1, none⟩ (.int .u8 H.opts)).setCell ⟨w.heap.size, 2, none⟩ (.int .u8 H.typ)).setCell ⟨w.heap.size, 3, none⟩ (.int .u32 H.id)).setCell ⟨w.heap.size, 4, none⟩ (.int .u32 H.adv)).setCell ⟨w.heap.size, 5, none⟩ (.int .i32 H.seq)).setCell ⟨w.heap.size, 6, none⟩ (.int .u16 H.sum)).setCell ⟨w.heap.size, 7, none⟩ (.int .u16 H.len))) := hwz
  clear hwz
  go_wp2_with fail
  rw [← HWz.out]
  clear HWz zc0 zf0 zc1 zf1 zc2 zf2 zc3 zf3 zc4 zf4 zc5 zf5 zc6 zf6 zc7 zf7
  refine bodyPost_ret (v := .agg #[.int .u16 H.age, .int .u8 H.opts, .int .u8 H.typ, .int .u32 H.id, .int .u32 H.adv, .int .i32 H.seq, .int .u16 H.sum, .int .u16 H.len]) (by simp [results, Tryz.results121, go_sem, zd0, zd1, zd2, zd3, zd4, zd5, zd6, zd7]) rfl ?_
  exact ⟨rfl, T1.out.trans' HUz.out (fun i hi e => by omega)⟩
theorem readH1_short (gb : Nat) (v : Value) (rs : List Int) (w : World) (hc : w.cell? ⟨gb, 0, none⟩ = some v) (hv : ArgAt w v rs) (hby : ∀ z ∈ rs, 0 ≤ z ∧ z < 256) (hl : rs.length < 20) :
    Calls Tryz.prog 121 #[.pointer (some ⟨gb, 0, none⟩)] w fun e w' => e = .panicked (flawC 10) ∧ Touch (fun _ => False) w w' := by
  have HV' : Hid (ArgAt w v rs) := hv
  have HB : Hid (∀ z ∈ rs, 0 ≤ z ∧ z < 256) := hby
  obtain ⟨va, vc, rfl, hm⟩ := hv.form
  have hgl := lt_of_cell hc
  clear hv hby
  go_enter Tryz.func121, Tryz.ntmps121
  go_wp2_with fail
  refine Calls.mono (headOf_short _ rs _ (HV'.out.keepN ((Touch.refl _ _).alloc _)) HB.out hl (by omega)) ?_
  rintro e w1 ⟨rfl, t1⟩
  exact ⟨rfl, rfl, ((Touch.refl _ w).alloc _).trans t1⟩

set_option maxHeartbeats 1000000 in
theorem readH_good (v : Value) (rs : List Int) (w : World) (hv : ArgAt w v rs) (hby : ∀ z ∈ rs, 0 ≤ z ∧ z < 256) (hl : 20 ≤ rs.length) (hl2 : rs.length ≤ 1099511627776) (H : HV) (hH : rdHead (rs.take 20) = H) :
    Calls Tryz.prog 115 #[v] w fun e w' => e = .returned (.tuple #[.agg #[.int .u16 H.age, .int .u8 H.opts, .int .u8 H.typ, .int .u32 H.id, .int .u32 H.adv, .int .i32 H.seq, .int .u16 H.sum, .int .u16 H.len], .int .i64 0]) ∧ Touch (fun _ => False) w w' := by
  obtain ⟨va, vc, rfl, hm⟩ := hv.form
  have hmf : ∀ (fn : Fn) (first cap : Array Value) (w : World), (Instr.makeFunc fn first cap).run Tryz.prog w = .ok (.func fn first cap) w := fun _ _ _ _ => rfl
  have HC := readH1_ok w.heap.size (.slice va rs.length vc) rs ((((w.alloc (.cells #[.slice va rs.length vc] 39)).alloc (.cells #[.int .u16 0, .int .u8 0, .int .u8 0, .int .u32 0, .int .u32 0, .int .i32 0, .int .u16 0, .int .u16 0] 82)).alloc (.cells #[.int .u16 0, .int .u8 0, .int .u8 0, .int .u32 0, .int .u32 0, .int .i32 0, .int .u16 0, .int .u16 0] 82)).alloc (.cells #[.int .i64 0] 40)) (by simp [go_sem]) (hv.keepN (((((Touch.refl _ w).alloc _).alloc _).alloc _).alloc _)) hby hl hl2 H hH
  clear hby hv
  have HF := faceH_ok 121 #[.pointer (some ⟨w.heap.size, 0, none⟩)] (fun _ => rfl) ((w.alloc (.cells #[.slice va rs.length vc] 39)).alloc (.cells #[.int .u16 0, .int .u8 0, .int .u8 0, .int .u32 0, .int .u32 0, .int .i32 0, .int .u16 0, .int .u16 0] 82)) H.age H.opts H.typ H.id H.adv H.seq H.sum H.len (fun _ => True) (HC.mono (fun e w' h => ⟨h.1, h.2, trivial⟩)) (fun _ _ _ _ _ => trivial)
  clear HC
  go_enter Tryz.func115, Tryz.ntmps115
  go_wp2_with fail
  refine Calls.mono HF ?_
  rintro e w1 ⟨rfl, t1, -⟩
  clear HF hmf
  have R1 : Room w1 (w.heap.size + 1) 8 := by
    have := (Room.new (w.alloc (.cells #[.slice va rs.length vc] 39)) #[.int .u16 0, .int .u8 0, .int .u8 0, .int .u32 0, .int .u32 0, .int .i32 0, .int .u16 0, .int .u16 0] 82).keep t1
    simpa using this
  have T1 : Hid (Touch (fun _ => False) w w1) := (((Touch.refl _ w).alloc _).alloc _).trans t1
  clear t1
  obtain ⟨zz0, zc0, zf0⟩ := R1 0 (by omega)
  obtain ⟨zz1, zc1, zf1⟩ := R1 1 (by omega)
  obtain ⟨zz2, zc2, zf2⟩ := R1 2 (by omega)
  obtain ⟨zz3, zc3, zf3⟩ := R1 3 (by omega)
  obtain ⟨zz4, zc4, zf4⟩ := R1 4 (by omega)
  obtain ⟨zz5, zc5, zf5⟩ := R1 5 (by omega)
  obtain ⟨zz6, zc6, zf6⟩ := R1 6 (by omega)
  obtain ⟨zz7, zc7, zf7⟩ := R1 7 (by omega)
  obtain ⟨wz, hwz⟩ : ∃ wz, wz = ((((((((w1.setCell ⟨(w.heap.size + 1), 0, none⟩ (.int .u16 H.age)).setCell ⟨(w.heap.size + 1), 1, none⟩ (.int .u8 H.opts)).setCell ⟨(w.heap.size + 1), 2, none⟩ (.int .u8 H.typ)).setCell ⟨(w.heap.size + 1), 3, none⟩ (.int .u32 H.id)).setCell ⟨(w.heap.size + 1), 4, none⟩ (.int .u32 H.adv)).setCell ⟨(w.heap.size + 1), 5, none⟩ (.int .i32 H.seq)).setCell ⟨(w.heap.size + 1), 6, none⟩ (.int .u16 H.sum)).setCell ⟨(w.heap.size + 1), 7, none⟩ (.int .u16 H.len)) := ⟨_, rfl⟩
  have zd0 : wz.cell? ⟨(w.heap.size + 1), 0, none⟩ = some (.int .u16 H.age) := by rw [hwz]; simp [zc0, go_sem]
  have zd1 : wz.cell? ⟨(w.heap.size + 1), 1, none⟩ = some (.int .u8 H.opts) := by rw [hwz]; simp [zc1, go_sem]
  have zd2 : wz.cell? ⟨(w.heap.size + 1), 2, none⟩ = some (.int .u8 H.typ) := by rw [hwz]; simp [zc2, go_sem]
  have zd3 : wz.cell? ⟨(w.heap.size + 1), 3, none⟩ = some (.int .u32 H.id) := by rw [hwz]; simp [zc3, go_sem]
  have zd4 : wz.cell? ⟨(w.heap.size + 1), 4, none⟩ = some (.int .u32 H.adv) := by rw [hwz]; simp [zc4, go_sem]
  have zd5 : wz.cell? ⟨(w.heap.size + 1), 5, none⟩ = some (.int .i32 H.seq) := by rw [hwz]; simp [zc5, go_sem]
  have zd6 : wz.cell? ⟨(w.heap.size + 1), 6, none⟩ = some (.int .u16 H.sum) := by rw [hwz]; simp [zc6, go_sem]
  have zd7 : wz.cell? ⟨(w.heap.size + 1), 7, none⟩ = some (.int .u16 H.len) := by rw [hwz]; simp [zc7, go_sem]
  have HUz : Hid (Touch (fun k => k = (w.heap.size + 1)) w1 wz) := by show Touch _ _ _; rw [hwz]; refine Touch.setCell (F := fun k => k = (w.heap.size + 1)) (p := ⟨(w.heap.size + 1), 7, none⟩) ?_ (Or.inl rfl) _; refine Touch.setCell (F := fun k => k = (w.heap.size + 1)) (p := ⟨(w.heap.size + 1), 6, none⟩) ?_ (Or.inl rfl) _; refine Touch.setCell (F := fun k => k = (w.heap.size + 1)) (p := ⟨(w.heap.size + 1), 5, none⟩) ?_ (Or.inl rfl) _; refine Touch.setCell (F := fun k => k = (w.heap.size + 1)) (p := ⟨(w.heap.size + 1), 4, none⟩) ?_ (Or.inl rfl) _; refine Touch.setCell (F := fun k => k = (w.heap.size + 1)) (p := ⟨(w.heap.size + 1), 3, none⟩) ?_ (Or.inl rfl) _; refine Touch.setCell (F := fun k => k = (w.heap.size + 1)) (p := ⟨(w.heap.size + 1), 2, none⟩) ?_ (Or.inl rfl) _; refine Touch.setCell (F := fun k => k = (w.heap.size + 1)) (p := ⟨(w.heap.size + 1), 1, none⟩) ?_ (Or.inl rfl) _; refine Touch.setCell (F := fun k => k = (w.heap.size + 1)) (p := ⟨(w.heap.size + 1), 0, none⟩) ?_ (Or.inl rfl) _; exact Touch.refl _ _
  have HWz : Hid (wz = ((((((((w1.setCell ⟨(w.heap.size + 1), 0, none⟩ (.int .u16 H.age)).setCell ⟨(w.heap.size + 1), 1, none⟩ (.int .u8 H.opts)).setCell ⟨(w.heap.size + 1), 2, none⟩ (.int .u8 H.typ)).setCell ⟨(w.heap.size + 1), 3, none⟩ (.int .u32 H.id)).setCell ⟨(w.heap.size + 1), 4, none⟩ (.int .u32 H.adv)).setCell ⟨(w.heap.size + 1), 5, none⟩ (.int .i32 H.seq)).setCell ⟨(w.heap.size + 1), 6, none⟩ (.int .u16 H.sum)).setCell ⟨(w.heap.size + 1), 7, none⟩ (.int .u16 H.len))) := hwz
  clear hwz
  go_wp2_with fail
  rw [← HWz.out]
  clear HWz zc0 zf0 zc1 zf1 zc2 zf2 zc3 zf3 zc4 zf4 zc5 zf5 zc6 zf6 zc7 zf7
  refine bodyPost_ret (v := .tuple #[.agg #[.int .u16 H.age, .int .u8 H.opts, .int .u8 H.typ, .int .u32 H.id, .int .u32 H.adv, .int .i32 H.seq, .int .u16 H.sum, .int .u16 H.len], .int .i64 0]) (by simp [results, Tryz.results115, go_sem, zd0, zd1, zd2, zd3, zd4, zd5, zd6, zd7]) rfl ?_
  exact ⟨rfl, T1.out.trans' HUz.out (fun i hi e => by omega)⟩

set_option maxHeartbeats 1000000 in
theorem readH_bad (v : Value) (rs : List Int) (w : World) (hv : ArgAt w v rs) (hby : ∀ z ∈ rs, 0 ≤ z ∧ z < 256) (hl : rs.length < 20) :
    Calls Tryz.prog 115 #[v] w fun e w' => e = .returned (.tuple #[.agg #[.int .u16 0, .int .u8 0, .int .u8 0, .int .u32 0, .int .u32 0, .int .i32 0, .int .u16 0, .int .u16 0], .int .i64 10]) ∧ Touch (fun _ => False) w w' := by
  obtain ⟨va, vc, rfl, hm⟩ := hv.form
  have hmf : ∀ (fn : Fn) (first cap : Array Value) (w : World), (Instr.makeFunc fn first cap).run Tryz.prog w = .ok (.func fn first cap) w := fun _ _ _ _ => rfl
  have HC := readH1_short w.heap.size (.slice va rs.length vc) rs ((((w.alloc (.cells #[.slice va rs.length vc] 39)).alloc (.cells #[.int .u16 0, .int .u8 0, .int .u8 0, .int .u32 0, .int .u32 0, .int .i32 0, .int .u16 0, .int .u16 0] 82)).alloc (.cells #[.int .u16 0, .int .u8 0, .int .u8 0, .int .u32 0, .int .u32 0, .int .i32 0, .int .u16 0, .int .u16 0] 82)).alloc (.cells #[.int .i64 0] 40)) (by simp [go_sem]) (hv.keepN (((((Touch.refl _ w).alloc _).alloc _).alloc _).alloc _)) hby hl
  clear hby hv
  have HF := faceH_no 121 #[.pointer (some ⟨w.heap.size, 0, none⟩)] (fun _ => rfl) ((w.alloc (.cells #[.slice va rs.length vc] 39)).alloc (.cells #[.int .u16 0, .int .u8 0, .int .u8 0, .int .u32 0, .int .u32 0, .int .i32 0, .int .u16 0, .int .u16 0] 82)) 10 HC
  clear HC
  go_enter Tryz.func115, Tryz.ntmps115
  go_wp2_with fail
  refine Calls.mono HF ?_
  rintro e w1 ⟨rfl, t1⟩
  clear HF hmf
  have R1 : Room w1 (w.heap.size + 1) 8 := by
    have := (Room.new (w.alloc (.cells #[.slice va rs.length vc] 39)) #[.int .u16 0, .int .u8 0, .int .u8 0, .int .u32 0, .int .u32 0, .int .i32 0, .int .u16 0, .int .u16 0] 82).keep t1
    simpa using this
  have T1 : Hid (Touch (fun _ => False) w w1) := (((Touch.refl _ w).alloc _).alloc _).trans t1
  clear t1
  obtain ⟨zz0, zc0, zf0⟩ := R1 0 (by omega)
  obtain ⟨zz1, zc1, zf1⟩ := R1 1 (by omega)
  obtain ⟨zz2, zc2, zf2⟩ := R1 2 (by omega)
  obtain ⟨zz3, zc3, zf3⟩ := R1 3 (by omega)
  obtain ⟨zz4, zc4, zf4⟩ := R1 4 (by omega)
  obtain ⟨zz5, zc5, zf5⟩ := R1 5 (by omega)
  obtain ⟨zz6, zc6, zf6⟩ := R1 6 (by omega)
  obtain ⟨zz7, zc7, zf7⟩ := R1 7 (by omega)
  obtain ⟨wz, hwz⟩ : ∃ wz, wz = ((((((((w1.setCell ⟨(w.heap.size + 1), 0, none⟩ (.int .u16 0)).setCell ⟨(w.heap.size + 1), 1, none⟩ (.int .u8 0)).setCell ⟨(w.heap.size + 1), 2, none⟩ (.int .u8 0)).setCell ⟨(w.heap.size + 1), 3, none⟩ (.int .u32 0)).setCell ⟨(w.heap.size + 1), 4, none⟩ (.int .u32 0)).setCell ⟨(w.heap.size + 1), 5, none⟩ (.int .i32 0)).setCell ⟨(w.heap.size + 1), 6, none⟩ (.int .u16 0)).setCell ⟨(w.heap.size + 1), 7, none⟩ (.int .u16 0)) := ⟨_, rfl⟩
  have zd0 : wz.cell? ⟨(w.heap.size + 1), 0, none⟩ = some (.int .u16 0) := by rw [hwz]; simp [zc0, go_sem]
  have zd1 : wz.cell? ⟨(w.heap.size + 1), 1, none⟩ = some (.int .u8 0) := by rw [hwz]; simp [zc1, go_sem]
  have zd2 : wz.cell? ⟨(w.heap.size + 1), 2, none⟩ = some (.int .u8 0) := by rw [hwz]; simp [zc2, go_sem]
  have zd3 : wz.cell? ⟨(w.heap.size + 1), 3, none⟩ = some (.int .u32 0) := by rw [hwz]; simp [zc3, go_sem]
  have zd4 : wz.cell? ⟨(w.heap.size + 1), 4, none⟩ = some (.int .u32 0) := by rw [hwz]; simp [zc4, go_sem]
  have zd5 : wz.cell? ⟨(w.heap.size + 1), 5, none⟩ = some (.int .i32 0) := by rw [hwz]; simp [zc5, go_sem]
  have zd6 : wz.cell? ⟨(w.heap.size + 1), 6, none⟩ = some (.int .u16 0) := by rw [hwz]; simp [zc6, go_sem]
  have zd7 : wz.cell? ⟨(w.heap.size + 1), 7, none⟩ = some (.int .u16 0) := by rw [hwz]; simp [zc7, go_sem]
  have HUz : Hid (Touch (fun k => k = (w.heap.size + 1)) w1 wz) := by show Touch _ _ _; rw [hwz]; refine Touch.setCell (F := fun k => k = (w.heap.size + 1)) (p := ⟨(w.heap.size + 1), 7, none⟩) ?_ (Or.inl rfl) _; refine Touch.setCell (F := fun k => k = (w.heap.size + 1)) (p := ⟨(w.heap.size + 1), 6, none⟩) ?_ (Or.inl rfl) _; refine Touch.setCell (F := fun k => k = (w.heap.size + 1)) (p := ⟨(w.heap.size + 1), 5, none⟩) ?_ (Or.inl rfl) _; refine Touch.setCell (F := fun k => k = (w.heap.size + 1)) (p := ⟨(w.heap.size + 1), 4, none⟩) ?_ (Or.inl rfl) _; refine Touch.setCell (F := fun k => k = (w.heap.size + 1)) (p := ⟨(w.heap.size + 1), 3, none⟩) ?_ (Or.inl rfl) _; refine Touch.setCell (F := fun k => k = (w.heap.size + 1)) (p := ⟨(w.heap.size + 1), 2, none⟩) ?_ (Or.inl rfl) _; refine Touch.setCell (F := fun k => k = (w.heap.size + 1)) (p := ⟨(w.heap.size + 1), 1, none⟩) ?_ (Or.inl rfl) _; refine Touch.setCell (F := fun k => k = (w.heap.size + 1)) (p := ⟨(w.heap.size + 1), 0, none⟩) ?_ (Or.inl rfl) _; exact Touch.refl _ _
  have HWz : Hid (wz = ((((((((w1.setCell ⟨(w.heap.size + 1), 0, none⟩ (.int .u16 0)).setCell ⟨(w.heap.size + 1), 1, none⟩ (.int .u8 0)).setCell ⟨(w.heap.size + 1), 2, none⟩ (.int .u8 0)).setCell ⟨(w.heap.size + 1), 3, none⟩ (.int .u32 0)).setCell ⟨(w.heap.size + 1), 4, none⟩ (.int .u32 0)).setCell ⟨(w.heap.size + 1), 5, none⟩ (.int .i32 0)).setCell ⟨(w.heap.size + 1), 6, none⟩ (.int .u16 0)).setCell ⟨(w.heap.size + 1), 7, none⟩ (.int .u16 0))) := hwz
  clear hwz
  go_wp2_with fail
  rw [← HWz.out]
  clear HWz zc0 zf0 zc1 zf1 zc2 zf2 zc3 zf3 zc4 zf4 zc5 zf5 zc6 zf6 zc7 zf7
  refine bodyPost_ret (v := .tuple #[.agg #[.int .u16 0, .int .u8 0, .int .u8 0, .int .u32 0, .int .u32 0, .int .i32 0, .int .u16 0, .int .u16 0], .int .i64 10]) (by simp [results, Tryz.results115, go_sem, zd0, zd1, zd2, zd3, zd4, zd5, zd6, zd7]) rfl ?_
  exact ⟨rfl, T1.out.trans' HUz.out (fun i hi e => by omega)⟩
end Go.Proofs.YtfhkocpnealblaaGreat
