/- The face of heads. -/
import Derived.Test.YtbfplepmgbkajaaGreatDoorStFace
import Derived.Test.YtbfplepmgbkajaaGreatDoorBagKm
namespace Go.Proofs.YtbfplepmgbkajaaGreatDoor
open Go.RowKit
set_option linter.unusedVariables false
set_option maxRecDepth 100000

theorem catchH_idle (b : Nat) (w : World) :
  CallsD Tryz.prog 203 #[.pointer (some ⟨b, 0, none⟩)] .returning w fun r u' w' => r = .returned (.tuple #[]) ∧ u' = .returning ∧ w' = w := by
 refine callsD_of_wpS Tryz.func203 rfl fun c₀ cs hu => ?_
 apply wpS_seq
 apply wpS_region
 simp [wpOpsS, go_sem, recoverD, hu, ta_nil, Tryz.ntmps203, Exit.thenS]
 apply wpS_seq
 apply wpS_region
 simp [wpOpsS, go_sem, Exit.thenS]
 refine wpS_cond (t := false) (by simp [Act.eval, Array.replicate]) ?_
 simp only [Bool.false_eq_true, if_false]
 refine wpS_of_wp (wp_skip ?_)
 cases c₀
 simp_all [bodyPostS, results, Tryz.results203]
/-- The face where its function answers. -/
theorem faceH_ok (G : Nat) (cap : Array Value) (hG : ∀ w, (callFunc G cap).run Tryz.prog w = .ok (.enter G cap) w) (w : World) (x0 x1 x2 x3 x4 x5 x6 x7 : Int) (K : World → Prop)
  (h : Calls Tryz.prog G cap ((w.alloc (.cells #[.int .u16 0, .int .u8 0, .int .u8 0, .int .u32 0, .int .u32 0, .int .i32 0, .int .u16 0, .int .u16 0] 93)).alloc (.cells #[.int .i64 0] 41)) fun e w' => e = .returned (.agg #[.int .u16 x0, .int .u8 x1, .int .u8 x2, .int .u32 x3, .int .u32 x4, .int .i32 x5, .int .u16 x6, .int .u16 x7]) ∧ Touch (fun _ => False) ((w.alloc (.cells #[.int .u16 0, .int .u8 0, .int .u8 0, .int .u32 0, .int .u32 0, .int .i32 0, .int .u16 0, .int .u16 0] 93)).alloc (.cells #[.int .i64 0] 41)) w' ∧ K w')
  (hK : ∀  w1 w2, K w1 → Touch (fun _ => False) ((w.alloc (.cells #[.int .u16 0, .int .u8 0, .int .u8 0, .int .u32 0, .int .u32 0, .int .i32 0, .int .u16 0, .int .u16 0] 93)).alloc (.cells #[.int .i64 0] 41)) w1 → Touch (fun k => k = w.heap.size ∨ k = w.heap.size + 1) w1 w2 → K w2) :
  Calls Tryz.prog 194 #[.func (.func G) #[] cap] w fun e w' => e = .returned (.tuple #[.agg #[.int .u16 x0, .int .u8 x1, .int .u8 x2, .int .u32 x3, .int .u32 x4, .int .i32 x5, .int .u16 x6, .int .u16 x7], .int .i64 0]) ∧ Touch (fun _ => False) w w' ∧ K w' := by
 have hmf : ∀ (fn : Fn) (first cap : Array Value) (w : World), (Instr.makeFunc fn first cap).run Tryz.prog w = .ok (.func fn first cap) w := fun _ _ _ _ => rfl
 go_enter_defers Tryz.func194, Tryz.ntmps194
 go_wp2_with fail
 refine h.mono ?_
 rintro e w1 ⟨rfl, t1, k1⟩
 have t0 := (((Touch.refl (fun _ => False) w).alloc _).alloc _).trans t1
 have FZ : Hid (∀ i, i < 8 → w1.frozen? ⟨w.heap.size, i, none⟩ = false) := fun i hi => (t1.frozen (p := ⟨w.heap.size, i, none⟩) (by simp; omega) (fun h => h)).trans (by simp [go_sem])
 have fz1 : w1.frozen? ⟨w.heap.size + 1, 0, none⟩ = false := (t1.frozen (p := ⟨w.heap.size + 1, 0, none⟩) (by simp) (fun h => h)).trans (by simp [go_sem])
 have ce1 : w1.cell? ⟨w.heap.size + 1, 0, none⟩ = some (.int .i64 0) := t1.cellN (by simp [go_sem])
 have c0 : w1.cell? ⟨w.heap.size, 0, none⟩ = some (.int .u16 0) := t1.cellN (by simp [go_sem])
 have z0 := FZ.out 0 (by omega)
 have c1 : w1.cell? ⟨w.heap.size, 1, none⟩ = some (.int .u8 0) := t1.cellN (by simp [go_sem])
 have z1 := FZ.out 1 (by omega)
 have c2 : w1.cell? ⟨w.heap.size, 2, none⟩ = some (.int .u8 0) := t1.cellN (by simp [go_sem])
 have z2 := FZ.out 2 (by omega)
 have c3 : w1.cell? ⟨w.heap.size, 3, none⟩ = some (.int .u32 0) := t1.cellN (by simp [go_sem])
 have z3 := FZ.out 3 (by omega)
 have c4 : w1.cell? ⟨w.heap.size, 4, none⟩ = some (.int .u32 0) := t1.cellN (by simp [go_sem])
 have z4 := FZ.out 4 (by omega)
 have c5 : w1.cell? ⟨w.heap.size, 5, none⟩ = some (.int .i32 0) := t1.cellN (by simp [go_sem])
 have z5 := FZ.out 5 (by omega)
 have c6 : w1.cell? ⟨w.heap.size, 6, none⟩ = some (.int .u16 0) := t1.cellN (by simp [go_sem])
 have z6 := FZ.out 6 (by omega)
 have c7 : w1.cell? ⟨w.heap.size, 7, none⟩ = some (.int .u16 0) := t1.cellN (by simp [go_sem])
 have z7 := FZ.out 7 (by omega)
 clear FZ
 have HT : Hid (Touch (fun _ => False) w w1) := t0
 have HK : Hid (K w1) := k1
 have HT1 : Hid (Touch (fun _ => False) ((w.alloc (.cells #[.int .u16 0, .int .u8 0, .int .u8 0, .int .u32 0, .int .u32 0, .int .i32 0, .int .u16 0, .int .u16 0] 93)).alloc (.cells #[.int .i64 0] 41)) w1) := t1
 obtain ⟨w2, hw2⟩ : ∃ w2, w2 = ((((((((w1.setCell ⟨w.heap.size, 0, none⟩ (.int .u16 x0)).setCell ⟨w.heap.size, 1, none⟩ (.int .u8 x1)).setCell ⟨w.heap.size, 2, none⟩ (.int .u8 x2)).setCell ⟨w.heap.size, 3, none⟩ (.int .u32 x3)).setCell ⟨w.heap.size, 4, none⟩ (.int .u32 x4)).setCell ⟨w.heap.size, 5, none⟩ (.int .i32 x5)).setCell ⟨w.heap.size, 6, none⟩ (.int .u16 x6)).setCell ⟨w.heap.size, 7, none⟩ (.int .u16 x7)).setCell ⟨w.heap.size + 1, 0, none⟩ (.int .i64 0) := ⟨_, rfl⟩
 have d0 : w2.cell? ⟨w.heap.size, 0, none⟩ = some (.int .u16 x0) := by rw [hw2]; simp [c0, go_sem]
 have d1 : w2.cell? ⟨w.heap.size, 1, none⟩ = some (.int .u8 x1) := by rw [hw2]; simp [c1, go_sem]
 have d2 : w2.cell? ⟨w.heap.size, 2, none⟩ = some (.int .u8 x2) := by rw [hw2]; simp [c2, go_sem]
 have d3 : w2.cell? ⟨w.heap.size, 3, none⟩ = some (.int .u32 x3) := by rw [hw2]; simp [c3, go_sem]
 have d4 : w2.cell? ⟨w.heap.size, 4, none⟩ = some (.int .u32 x4) := by rw [hw2]; simp [c4, go_sem]
 have d5 : w2.cell? ⟨w.heap.size, 5, none⟩ = some (.int .i32 x5) := by rw [hw2]; simp [c5, go_sem]
 have d6 : w2.cell? ⟨w.heap.size, 6, none⟩ = some (.int .u16 x6) := by rw [hw2]; simp [c6, go_sem]
 have d7 : w2.cell? ⟨w.heap.size, 7, none⟩ = some (.int .u16 x7) := by rw [hw2]; simp [c7, go_sem]
 have de : w2.cell? ⟨w.heap.size + 1, 0, none⟩ = some (.int .i64 0) := by rw [hw2]; simp [ce1, go_sem]
 have HU : Hid (Touch (fun k => k = w.heap.size ∨ k = w.heap.size + 1) w1 w2) := by
  show Touch _ _ _
  rw [hw2]
  exact Touch.setCell (Touch.setCell (Touch.setCell (Touch.setCell (Touch.setCell (Touch.setCell (Touch.setCell (Touch.setCell (Touch.setCell (Touch.refl _ _) (Or.inl (Or.inl rfl)) _) (Or.inl (Or.inl rfl)) _) (Or.inl (Or.inl rfl)) _) (Or.inl (Or.inl rfl)) _) (Or.inl (Or.inl rfl)) _) (Or.inl (Or.inl rfl)) _) (Or.inl (Or.inl rfl)) _) (Or.inl (Or.inl rfl)) _) (Or.inl (Or.inr rfl)) _
 have HW : Hid (w2 = ((((((((w1.setCell ⟨w.heap.size, 0, none⟩ (.int .u16 x0)).setCell ⟨w.heap.size, 1, none⟩ (.int .u8 x1)).setCell ⟨w.heap.size, 2, none⟩ (.int .u8 x2)).setCell ⟨w.heap.size, 3, none⟩ (.int .u32 x3)).setCell ⟨w.heap.size, 4, none⟩ (.int .u32 x4)).setCell ⟨w.heap.size, 5, none⟩ (.int .i32 x5)).setCell ⟨w.heap.size, 6, none⟩ (.int .u16 x6)).setCell ⟨w.heap.size, 7, none⟩ (.int .u16 x7)).setCell ⟨w.heap.size + 1, 0, none⟩ (.int .i64 0)) := hw2
 clear t0 t1 k1 h hw2
 go_wp2_with fail
 rw [← HW.out]
 clear HW c0 z0 c1 z1 c2 z2 c3 z3 c4 z4 c5 z5 c6 z6 c7 z7 fz1 ce1
 refine leaves_cons (f := 203) (args := #[.pointer (some ⟨w.heap.size + 1, 0, none⟩)]) (by simp) (by simp [go_sem]) ?_
 refine (catchH_idle (w.heap.size + 1) _).mono ?_
 rintro e u' w'' ⟨rfl, rfl, rfl⟩
 refine ⟨.tuple #[.agg #[.int .u16 x0, .int .u8 x1, .int .u8 x2, .int .u32 x3, .int .u32 x4, .int .i32 x5, .int .u16 x6, .int .u16 x7], .int .i64 0], by simp [results, Tryz.results194, go_sem, d0, d1, d2, d3, d4, d5, d6, d7, de], rfl, ?_, hK _ _ HK.out HT1.out HU.out⟩
 exact HT.out.trans' HU.out (fun i hi hf => by omega)
end Go.Proofs.YtbfplepmgbkajaaGreatDoor

namespace Go.Proofs.YtbfplepmgbkajaaGreatDoor
open Go.RowKit
set_option linter.unusedVariables false
set_option maxRecDepth 100000

set_option maxHeartbeats 1000000 in
theorem readH1_ok (gb : Nat) (v : Value) (rs : List Int) (w : World) (hc : w.cell? ⟨gb, 0, none⟩ = some v) (hv : ArgAt w v rs) (hby : ∀ z ∈ rs, 0 ≤ z ∧ z < 256) (hl : 20 ≤ rs.length) (hl2 : rs.length ≤ 1099511627776) (H : HV) (hH : rdHead (rs.take 20) = H) :
  Calls Tryz.prog 195 #[.pointer (some ⟨gb, 0, none⟩)] w fun e w' => e = .returned (.agg #[.int .u16 H.age, .int .u8 H.opts, .int .u8 H.typ, .int .u32 H.id, .int .u32 H.adv, .int .i32 H.seq, .int .u16 H.sum, .int .u16 H.len]) ∧ Touch (fun _ => False) w w' := by
 have HV' : Hid (ArgAt w v rs) := hv
 have HB : Hid (∀ z ∈ rs, 0 ≤ z ∧ z < 256) := hby
 obtain ⟨va, vc, rfl, hm⟩ := hv.form
 have hgl := lt_of_cell hc
 have HH := fun w h => headOf_ok (.slice va rs.length vc) rs w h HB.out hl hl2
 rw [hH] at HH
 unfold HV.v at HH
 clear hv hby hH
 go_enter Tryz.func195, Tryz.ntmps195
 go_wp2_with fail
 refine Calls.mono (HH _ (HV'.out.keepN ((Touch.refl _ _).alloc _))) ?_
 rintro e w1 ⟨rfl, t1⟩
 have T1 : Hid (Touch (fun _ => False) w w1) := ((Touch.refl _ w).alloc _).trans t1
 have R1 : Room w1 w.heap.size 8 := (Room.new w #[.int .u16 0, .int .u8 0, .int .u8 0, .int .u32 0, .int .u32 0, .int .i32 0, .int .u16 0, .int .u16 0] 93).keep t1
 clear t1 HH
 obtain ⟨zz0, zc0, zf0⟩ := R1 0 (by omega)
 obtain ⟨zz1, zc1, zf1⟩ := R1 1 (by omega)
 obtain ⟨zz2, zc2, zf2⟩ := R1 2 (by omega)
 obtain ⟨zz3, zc3, zf3⟩ := R1 3 (by omega)
 obtain ⟨zz4, zc4, zf4⟩ := R1 4 (by omega)
 obtain ⟨zz5, zc5, zf5⟩ := R1 5 (by omega)
 obtain ⟨zz6, zc6, zf6⟩ := R1 6 (by omega)
 obtain ⟨zz7, zc7, zf7⟩ := R1 7 (by omega)
 obtain ⟨wz, hwz⟩ : ∃ wz, wz = ((((((((w1.setCell ⟨w.heap.size, 0, none⟩ (.int .u16 H.age)).setCell ⟨w.heap.size, 1, none⟩ (.int .u8 H.opts)).setCell ⟨w.heap.size, 2, none⟩ (.int .u8 H.typ)).setCell ⟨w.heap.size, 3, none⟩ (.int .u32 H.id)).setCell ⟨w.heap.size, 4, none⟩ (.int .u32 H.adv)).setCell ⟨w.heap.size, 5, none⟩ (.int .i32 H.seq)).setCell ⟨w.heap.size, 6, none⟩ (.int .u16 H.sum)).setCell ⟨w.heap.size, 7, none⟩ (.int .u16 H.len)) := ⟨_, rfl⟩
 have zd0 : wz.cell? ⟨w.heap.size, 0, none⟩ = some (.int .u16 H.age) := by rw [hwz]; simp [zc0, go_sem]
 have zd1 : wz.cell? ⟨w.heap.size, 1, none⟩ = some (.int .u8 H.opts) := by rw [hwz]; simp [zc1, go_sem]
 have zd2 : wz.cell? ⟨w.heap.size, 2, none⟩ = some (.int .u8 H.typ) := by rw [hwz]; simp [zc2, go_sem]
 have zd3 : wz.cell? ⟨w.heap.size, 3, none⟩ = some (.int .u32 H.id) := by rw [hwz]; simp [zc3, go_sem]
 have zd4 : wz.cell? ⟨w.heap.size, 4, none⟩ = some (.int .u32 H.adv) := by rw [hwz]; simp [zc4, go_sem]
 have zd5 : wz.cell? ⟨w.heap.size, 5, none⟩ = some (.int .i32 H.seq) := by rw [hwz]; simp [zc5, go_sem]
 have zd6 : wz.cell? ⟨w.heap.size, 6, none⟩ = some (.int .u16 H.sum) := by rw [hwz]; simp [zc6, go_sem]
 have zd7 : wz.cell? ⟨w.heap.size, 7, none⟩ = some (.int .u16 H.len) := by rw [hwz]; simp [zc7, go_sem]
 have HUz : Hid (Touch (fun k => k = w.heap.size) w1 wz) := by show Touch _ _ _; rw [hwz]; refine Touch.setCell (F := fun k => k = w.heap.size) (p := ⟨w.heap.size, 7, none⟩) ?_ (Or.inl rfl) _; refine Touch.setCell (F := fun k => k = w.heap.size) (p := ⟨w.heap.size, 6, none⟩) ?_ (Or.inl rfl) _; refine Touch.setCell (F := fun k => k = w.heap.size) (p := ⟨w.heap.size, 5, none⟩) ?_ (Or.inl rfl) _; refine Touch.setCell (F := fun k => k = w.heap.size) (p := ⟨w.heap.size, 4, none⟩) ?_ (Or.inl rfl) _; refine Touch.setCell (F := fun k => k = w.heap.size) (p := ⟨w.heap.size, 3, none⟩) ?_ (Or.inl rfl) _; refine Touch.setCell (F := fun k => k = w.heap.size) (p := ⟨w.heap.size, 2, none⟩) ?_ (Or.inl rfl) _; refine Touch.setCell (F := fun k => k = w.heap.size) (p := ⟨w.heap.size, 1, none⟩) ?_ (Or.inl rfl) _; refine Touch.setCell (F := fun k => k = w.heap.size) (p := ⟨w.heap.size, 0, none⟩) ?_ (Or.inl rfl) _; exact Touch.refl _ _
 have HWz : Hid (wz = ((((((((w1.setCell ⟨w.heap.size, 0, none⟩ (.int .u16 H.age)).setCell ⟨w.heap.size, 1, none⟩ (.int .u8 H.opts)).setCell ⟨w.heap.size, 2, none⟩ (.int .u8 H.typ)).setCell ⟨w.heap.size, 3, none⟩ (.int .u32 H.id)).setCell ⟨w.heap.size, 4, none⟩ (.int .u32 H.adv)).setCell ⟨w.heap.size, 5, none⟩ (.int .i32 H.seq)).setCell ⟨w.heap.size, 6, none⟩ (.int .u16 H.sum)).setCell ⟨w.heap.size, 7, none⟩ (.int .u16 H.len))) := hwz
 clear hwz
 go_wp2_with fail
 rw [← HWz.out]
 clear HWz zc0 zf0 zc1 zf1 zc2 zf2 zc3 zf3 zc4 zf4 zc5 zf5 zc6 zf6 zc7 zf7
 refine bodyPost_ret (v := .agg #[.int .u16 H.age, .int .u8 H.opts, .int .u8 H.typ, .int .u32 H.id, .int .u32 H.adv, .int .i32 H.seq, .int .u16 H.sum, .int .u16 H.len]) (by simp [results, Tryz.results195, go_sem, zd0, zd1, zd2, zd3, zd4, zd5, zd6, zd7]) rfl ?_
 exact ⟨rfl, T1.out.trans' HUz.out (fun i hi e => by omega)⟩
set_option maxHeartbeats 1000000 in
theorem readH_good (v : Value) (rs : List Int) (w : World) (hv : ArgAt w v rs) (hby : ∀ z ∈ rs, 0 ≤ z ∧ z < 256) (hl : 20 ≤ rs.length) (hl2 : rs.length ≤ 1099511627776) (H : HV) (hH : rdHead (rs.take 20) = H) :
  Calls Tryz.prog 185 #[v] w fun e w' => e = .returned (.tuple #[.agg #[.int .u16 H.age, .int .u8 H.opts, .int .u8 H.typ, .int .u32 H.id, .int .u32 H.adv, .int .i32 H.seq, .int .u16 H.sum, .int .u16 H.len], .int .i64 0]) ∧ Touch (fun _ => False) w w' := by
 obtain ⟨va, vc, rfl, hm⟩ := hv.form
 have hmf : ∀ (fn : Fn) (first cap : Array Value) (w : World), (Instr.makeFunc fn first cap).run Tryz.prog w = .ok (.func fn first cap) w := fun _ _ _ _ => rfl
 have HC := readH1_ok w.heap.size (.slice va rs.length vc) rs ((((w.alloc (.cells #[.slice va rs.length vc] 40)).alloc (.cells #[.int .u16 0, .int .u8 0, .int .u8 0, .int .u32 0, .int .u32 0, .int .i32 0, .int .u16 0, .int .u16 0] 93)).alloc (.cells #[.int .u16 0, .int .u8 0, .int .u8 0, .int .u32 0, .int .u32 0, .int .i32 0, .int .u16 0, .int .u16 0] 93)).alloc (.cells #[.int .i64 0] 41)) (by simp [go_sem]) (hv.keepN (((((Touch.refl _ w).alloc _).alloc _).alloc _).alloc _)) hby hl hl2 H hH
 clear hby hv
 have HF := faceH_ok 195 #[.pointer (some ⟨w.heap.size, 0, none⟩)] (fun _ => rfl) ((w.alloc (.cells #[.slice va rs.length vc] 40)).alloc (.cells #[.int .u16 0, .int .u8 0, .int .u8 0, .int .u32 0, .int .u32 0, .int .i32 0, .int .u16 0, .int .u16 0] 93)) H.age H.opts H.typ H.id H.adv H.seq H.sum H.len (fun _ => True) (HC.mono (fun e w' h => ⟨h.1, h.2, trivial⟩)) (fun _ _ _ _ _ => trivial)
 clear HC
 go_enter Tryz.func185, Tryz.ntmps185
 go_wp2_with fail
 refine Calls.mono HF ?_
 rintro e w1 ⟨rfl, t1, -⟩
 clear HF hmf
 have R1 : Room w1 (w.heap.size + 1) 8 := by
  have := (Room.new (w.alloc (.cells #[.slice va rs.length vc] 40)) #[.int .u16 0, .int .u8 0, .int .u8 0, .int .u32 0, .int .u32 0, .int .i32 0, .int .u16 0, .int .u16 0] 93).keep t1
  simpa using this
 have T1 : Hid (Touch (fun _ => False) w w1) := (((Touch.refl _ w).alloc _).alloc _).trans t1
 clear t1
 obtain ⟨zz0, zc0, zf0⟩ := R1 0 (by omega)
 obtain ⟨zz1, zc1, zf1⟩ := R1 1 (by omega)
 obtain ⟨zz2, zc2, zf2⟩ := R1 2 (by omega)
 obtain ⟨zz3, zc3, zf3⟩ := R1 3 (by omega)
 obtain ⟨zz4, zc4, zf4⟩ := R1 4 (by omega)
 obtain ⟨zz5, zc5, zf5⟩ := R1 5 (by omega)
 obtain ⟨zz6, zc6, zf6⟩ := R1 6 (by omega)
 obtain ⟨zz7, zc7, zf7⟩ := R1 7 (by omega)
 obtain ⟨wz, hwz⟩ : ∃ wz, wz = ((((((((w1.setCell ⟨(w.heap.size + 1), 0, none⟩ (.int .u16 H.age)).setCell ⟨(w.heap.size + 1), 1, none⟩ (.int .u8 H.opts)).setCell ⟨(w.heap.size + 1), 2, none⟩ (.int .u8 H.typ)).setCell ⟨(w.heap.size + 1), 3, none⟩ (.int .u32 H.id)).setCell ⟨(w.heap.size + 1), 4, none⟩ (.int .u32 H.adv)).setCell ⟨(w.heap.size + 1), 5, none⟩ (.int .i32 H.seq)).setCell ⟨(w.heap.size + 1), 6, none⟩ (.int .u16 H.sum)).setCell ⟨(w.heap.size + 1), 7, none⟩ (.int .u16 H.len)) := ⟨_, rfl⟩
 have zd0 : wz.cell? ⟨(w.heap.size + 1), 0, none⟩ = some (.int .u16 H.age) := by rw [hwz]; simp [zc0, go_sem]
 have zd1 : wz.cell? ⟨(w.heap.size + 1), 1, none⟩ = some (.int .u8 H.opts) := by rw [hwz]; simp [zc1, go_sem]
 have zd2 : wz.cell? ⟨(w.heap.size + 1), 2, none⟩ = some (.int .u8 H.typ) := by rw [hwz]; simp [zc2, go_sem]
 have zd3 : wz.cell? ⟨(w.heap.size + 1), 3, none⟩ = some (.int .u32 H.id) := by rw [hwz]; simp [zc3, go_sem]
 have zd4 : wz.cell? ⟨(w.heap.size + 1), 4, none⟩ = some (.int .u32 H.adv) := by rw [hwz]; simp [zc4, go_sem]
 have zd5 : wz.cell? ⟨(w.heap.size + 1), 5, none⟩ = some (.int .i32 H.seq) := by rw [hwz]; simp [zc5, go_sem]
 have zd6 : wz.cell? ⟨(w.heap.size + 1), 6, none⟩ = some (.int .u16 H.sum) := by rw [hwz]; simp [zc6, go_sem]
 have zd7 : wz.cell? ⟨(w.heap.size + 1), 7, none⟩ = some (.int .u16 H.len) := by rw [hwz]; simp [zc7, go_sem]
 have HUz : Hid (Touch (fun k => k = (w.heap.size + 1)) w1 wz) := by show Touch _ _ _; rw [hwz]; refine Touch.setCell (F := fun k => k = (w.heap.size + 1)) (p := ⟨(w.heap.size + 1), 7, none⟩) ?_ (Or.inl rfl) _; refine Touch.setCell (F := fun k => k = (w.heap.size + 1)) (p := ⟨(w.heap.size + 1), 6, none⟩) ?_ (Or.inl rfl) _; refine Touch.setCell (F := fun k => k = (w.heap.size + 1)) (p := ⟨(w.heap.size + 1), 5, none⟩) ?_ (Or.inl rfl) _; refine Touch.setCell (F := fun k => k = (w.heap.size + 1)) (p := ⟨(w.heap.size + 1), 4, none⟩) ?_ (Or.inl rfl) _; refine Touch.setCell (F := fun k => k = (w.heap.size + 1)) (p := ⟨(w.heap.size + 1), 3, none⟩) ?_ (Or.inl rfl) _; refine Touch.setCell (F := fun k => k = (w.heap.size + 1)) (p := ⟨(w.heap.size + 1), 2, none⟩) ?_ (Or.inl rfl) _; refine Touch.setCell (F := fun k => k = (w.heap.size + 1)) (p := ⟨(w.heap.size + 1), 1, none⟩) ?_ (Or.inl rfl) _; refine Touch.setCell (F := fun k => k = (w.heap.size + 1)) (p := ⟨(w.heap.size + 1), 0, none⟩) ?_ (Or.inl rfl) _; exact Touch.refl _ _
 have HWz : Hid (wz = ((((((((w1.setCell ⟨(w.heap.size + 1), 0, none⟩ (.int .u16 H.age)).setCell ⟨(w.heap.size + 1), 1, none⟩ (.int .u8 H.opts)).setCell ⟨(w.heap.size + 1), 2, none⟩ (.int .u8 H.typ)).setCell ⟨(w.heap.size + 1), 3, none⟩ (.int .u32 H.id)).setCell ⟨(w.heap.size + 1), 4, none⟩ (.int .u32 H.adv)).setCell ⟨(w.heap.size + 1), 5, none⟩ (.int .i32 H.seq)).setCell ⟨(w.heap.size + 1), 6, none⟩ (.int .u16 H.sum)).setCell ⟨(w.heap.size + 1), 7, none⟩ (.int .u16 H.len))) := hwz
 clear hwz
 go_wp2_with fail
 rw [← HWz.out]
 clear HWz zc0 zf0 zc1 zf1 zc2 zf2 zc3 zf3 zc4 zf4 zc5 zf5 zc6 zf6 zc7 zf7
 refine bodyPost_ret (v := .tuple #[.agg #[.int .u16 H.age, .int .u8 H.opts, .int .u8 H.typ, .int .u32 H.id, .int .u32 H.adv, .int .i32 H.seq, .int .u16 H.sum, .int .u16 H.len], .int .i64 0]) (by simp [results, Tryz.results185, go_sem, zd0, zd1, zd2, zd3, zd4, zd5, zd6, zd7]) rfl ?_
 exact ⟨rfl, T1.out.trans' HUz.out (fun i hi e => by omega)⟩

end Go.Proofs.YtbfplepmgbkajaaGreatDoor
