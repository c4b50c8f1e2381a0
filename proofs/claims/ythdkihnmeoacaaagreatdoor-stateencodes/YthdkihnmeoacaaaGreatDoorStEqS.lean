/- Contract: Seal where it answers. -/
import Derived.Test.YthdkihnmeoacaaaGreatDoorRefRdH
import Derived.Test.YthdkihnmeoacaaaGreatDoorRefRead
import Derived.Test.YthdkihnmeoacaaaGreatDoorRefSeal
import Derived.Test.YthdkihnmeoacaaaGreatDoorWideB
import Derived.Test.YthdkihnmeoacaaaGreatDoorStHead
namespace Go.Proofs.YthdkihnmeoacaaaGreatDoor
open Go.RowKit
set_option linter.unusedVariables false
set_option maxRecDepth 100000

set_option maxHeartbeats 1000000 in
theorem seal1_ok (g : Nat) (h : HV) (ok : h.All) (v : Value) (l : List Int) (w : World) (hS : Sd w g h v) (hv : ArgAt w v l) (hby : ∀ z ∈ l, 0 ≤ z ∧ z < 256) (hl : l.length ≤ 65515) :
    Calls Tryz.prog 79 #[.pointer (some ⟨g, 0, none⟩)] w fun e w' => ∃ u, e = .returned ((sealH h l).sv u) ∧ Buf w w' u l := by
  obtain ⟨a, c, rfl, hm⟩ := hv.form
  have HSl := fun w' (t : Touch (fun _ => False) w w') => sealed_ok h ok (.slice a l.length c) l w' (hv.keepN t) hby hl
  have hgl := lt_of_cell hS.hd.c0
  obtain ⟨⟨s0, s1, s2, s3, s4, s5, s6, s7⟩, s8⟩ := hS.keep ((Touch.refl (fun _ => False) w).alloc (.cells #[.int .u16 0, .int .u8 0, .int .u8 0, .int .u32 0, .int .u32 0, .int .i32 0, .int .u16 0, .int .u16 0, .slice none 0 0] 35))
  have HSh : Hid (∀ w', Touch (fun _ => False) w w' → _) := HSl
  have HS1 := HSl _ ((Touch.refl (fun _ => False) w).alloc (.cells #[.int .u16 0, .int .u8 0, .int .u8 0, .int .u32 0, .int .u32 0, .int .i32 0, .int .u16 0, .int .u16 0, .slice none 0 0] 35))
  unfold HV.sv at HS1
  clear hS hv hby HSl HSh
  go_enter Tryz.func79, Tryz.ntmps79
  go_wp2_with fail
  refine Calls.mono HS1 ?_
  rintro e w1 ⟨u1, rfl, b1⟩
  obtain ⟨xa, xc, rfl⟩ := b1.form
  have R1 : Hid (Room w1 w.heap.size 9) := (Room.new w #[.int .u16 0, .int .u8 0, .int .u8 0, .int .u32 0, .int .u32 0, .int .i32 0, .int .u16 0, .int .u16 0, .slice none 0 0] 35).keep b1.t
  have T1 : Hid (Touch (fun _ => False) w w1) := ((Touch.refl _ w).alloc _).trans b1.t
  have B1 : Hid (w1.ownsRow (w.heap.size + 1) 5 1 (.slice xa l.length xc) l.length (bytesOf l)) := by show World.ownsRow _ _ _ _ _ _ _; have := b1.own; simpa using this
  clear b1 HS1 s0 s1 s2 s3 s4 s5 s6 s7 s8
  unfold sealH
  generalize hg : w.heap.size = gr at *
  have HG : Hid (w.heap.size = gr) := hg
  clear hg hgl
  obtain ⟨zz0, zc0, zf0⟩ := R1.out 0 (by omega)
  obtain ⟨zz1, zc1, zf1⟩ := R1.out 1 (by omega)
  obtain ⟨zz2, zc2, zf2⟩ := R1.out 2 (by omega)
  obtain ⟨zz3, zc3, zf3⟩ := R1.out 3 (by omega)
  obtain ⟨zz4, zc4, zf4⟩ := R1.out 4 (by omega)
  obtain ⟨zz5, zc5, zf5⟩ := R1.out 5 (by omega)
  obtain ⟨zz6, zc6, zf6⟩ := R1.out 6 (by omega)
  obtain ⟨zz7, zc7, zf7⟩ := R1.out 7 (by omega)
  obtain ⟨zz8, zc8, zf8⟩ := R1.out 8 (by omega)
  obtain ⟨wz, hwz⟩ : ∃ wz, wz = (((((((((w1.setCell ⟨gr, 0, none⟩ (.int .u16 h.age)).setCell ⟨gr, 1, none⟩ (.int .u8 h.opts)).setCell ⟨gr, 2, none⟩ (.int .u8 h.typ)).setCell ⟨gr, 3, none⟩ (.int .u32 h.id)).setCell ⟨gr, 4, none⟩ (.int .u32 h.adv)).setCell ⟨gr, 5, none⟩ (.int .i32 h.seq)).setCell ⟨gr, 6, none⟩ (.int .u16 (sealS h l))).setCell ⟨gr, 7, none⟩ (.int .u16 (20 + (l.length : Int)))).setCell ⟨gr, 8, none⟩ (.slice xa l.length xc)) := ⟨_, rfl⟩
  have zd0 : wz.cell? ⟨gr, 0, none⟩ = some (.int .u16 h.age) := by rw [hwz]; simp [zc0, go_sem]
  have zd1 : wz.cell? ⟨gr, 1, none⟩ = some (.int .u8 h.opts) := by rw [hwz]; simp [zc1, go_sem]
  have zd2 : wz.cell? ⟨gr, 2, none⟩ = some (.int .u8 h.typ) := by rw [hwz]; simp [zc2, go_sem]
  have zd3 : wz.cell? ⟨gr, 3, none⟩ = some (.int .u32 h.id) := by rw [hwz]; simp [zc3, go_sem]
  have zd4 : wz.cell? ⟨gr, 4, none⟩ = some (.int .u32 h.adv) := by rw [hwz]; simp [zc4, go_sem]
  have zd5 : wz.cell? ⟨gr, 5, none⟩ = some (.int .i32 h.seq) := by rw [hwz]; simp [zc5, go_sem]
  have zd6 : wz.cell? ⟨gr, 6, none⟩ = some (.int .u16 (sealS h l)) := by rw [hwz]; simp [zc6, go_sem]
  have zd7 : wz.cell? ⟨gr, 7, none⟩ = some (.int .u16 (20 + (l.length : Int))) := by rw [hwz]; simp [zc7, go_sem]
  have zd8 : wz.cell? ⟨gr, 8, none⟩ = some (.slice xa l.length xc) := by rw [hwz]; simp [zc8, go_sem]
  have HUz : Hid (Touch (fun k => k = gr) w1 wz) := by show Touch _ _ _; rw [hwz]; refine Touch.setCell (F := fun k => k = gr) (p := ⟨gr, 8, none⟩) ?_ (Or.inl rfl) _; refine Touch.setCell (F := fun k => k = gr) (p := ⟨gr, 7, none⟩) ?_ (Or.inl rfl) _; refine Touch.setCell (F := fun k => k = gr) (p := ⟨gr, 6, none⟩) ?_ (Or.inl rfl) _; refine Touch.setCell (F := fun k => k = gr) (p := ⟨gr, 5, none⟩) ?_ (Or.inl rfl) _; refine Touch.setCell (F := fun k => k = gr) (p := ⟨gr, 4, none⟩) ?_ (Or.inl rfl) _; refine Touch.setCell (F := fun k => k = gr) (p := ⟨gr, 3, none⟩) ?_ (Or.inl rfl) _; refine Touch.setCell (F := fun k => k = gr) (p := ⟨gr, 2, none⟩) ?_ (Or.inl rfl) _; refine Touch.setCell (F := fun k => k = gr) (p := ⟨gr, 1, none⟩) ?_ (Or.inl rfl) _; refine Touch.setCell (F := fun k => k = gr) (p := ⟨gr, 0, none⟩) ?_ (Or.inl rfl) _; exact Touch.refl _ _
  have HWz : Hid (wz = (((((((((w1.setCell ⟨gr, 0, none⟩ (.int .u16 h.age)).setCell ⟨gr, 1, none⟩ (.int .u8 h.opts)).setCell ⟨gr, 2, none⟩ (.int .u8 h.typ)).setCell ⟨gr, 3, none⟩ (.int .u32 h.id)).setCell ⟨gr, 4, none⟩ (.int .u32 h.adv)).setCell ⟨gr, 5, none⟩ (.int .i32 h.seq)).setCell ⟨gr, 6, none⟩ (.int .u16 (sealS h l))).setCell ⟨gr, 7, none⟩ (.int .u16 (20 + (l.length : Int)))).setCell ⟨gr, 8, none⟩ (.slice xa l.length xc))) := hwz
  clear hwz
  go_wp2_with fail
  rw [← HWz.out]
  clear HWz zc0 zf0 zc1 zf1 zc2 zf2 zc3 zf3 zc4 zf4 zc5 zf5 zc6 zf6 zc7 zf7 zc8 zf8
  refine bodyPost_ret (v := .agg #[.int .u16 h.age, .int .u8 h.opts, .int .u8 h.typ, .int .u32 h.id, .int .u32 h.adv, .int .i32 h.seq, .int .u16 (sealS h l), .int .u16 (20 + (l.length : Int)), .slice xa l.length xc]) (by simp [results, Tryz.results79, go_sem, zd0, zd1, zd2, zd3, zd4, zd5, zd6, zd7, zd8]) rfl ?_
  exact ⟨_, rfl, ⟨own_lower (own_touch B1.out HUz.out (fun k hk e => by have := (B1.out.lt k hk).1; omega)) (by have := HG.out; omega), T1.out.trans' HUz.out (fun i hi e => by have := HG.out; omega)⟩⟩
set_option maxHeartbeats 1000000 in
theorem seal_good (h : HV) (ok : h.All) (v : Value) (l : List Int) (w : World) (hv : ArgAt w v l) (hby : ∀ z ∈ l, 0 ≤ z ∧ z < 256) (hl : l.length ≤ 65515) :
    Calls Tryz.prog 22 #[h.sv v] w fun e w' => ∃ u, e = .returned (.tuple #[(sealH h l).sv u, .int .i64 0]) ∧ Buf w w' u l := by
  obtain ⟨a, c, rfl, hm⟩ := hv.form
  have hmf : ∀ (fn : Fn) (first cap : Array Value) (w : World), (Instr.makeFunc fn first cap).run Tryz.prog w = .ok (.func fn first cap) w := fun _ _ _ _ => rfl
  have HC := seal1_ok w.heap.size h ok (.slice a l.length c) l ((((w.alloc (.cells #[.int .u16 h.age, .int .u8 h.opts, .int .u8 h.typ, .int .u32 h.id, .int .u32 h.adv, .int .i32 h.seq, .int .u16 h.sum, .int .u16 h.len, .slice a l.length c] 35)).alloc (.cells #[.int .u16 0, .int .u8 0, .int .u8 0, .int .u32 0, .int .u32 0, .int .i32 0, .int .u16 0, .int .u16 0, .slice none 0 0] 35)).alloc (.cells #[.int .u16 0, .int .u8 0, .int .u8 0, .int .u32 0, .int .u32 0, .int .i32 0, .int .u16 0, .int .u16 0, .slice none 0 0] 35)).alloc (.cells #[.int .i64 0] 36)) ((Sd.new w h (.slice a l.length c) 35).keep ((((Touch.refl _ _).alloc _).alloc _).alloc _)) (hv.keepN (((((Touch.refl _ w).alloc _).alloc _).alloc _).alloc _)) hby hl
  have HF := faceS_ok 79 #[.pointer (some ⟨w.heap.size, 0, none⟩)] (fun _ => rfl) ((w.alloc (.cells #[.int .u16 h.age, .int .u8 h.opts, .int .u8 h.typ, .int .u32 h.id, .int .u32 h.adv, .int .i32 h.seq, .int .u16 h.sum, .int .u16 h.len, .slice a l.length c] 35)).alloc (.cells #[.int .u16 0, .int .u8 0, .int .u8 0, .int .u32 0, .int .u32 0, .int .i32 0, .int .u16 0, .int .u16 0, .slice none 0 0] 35)) h.age h.opts h.typ h.id h.adv h.seq (sealS h l) (20 + (l.length : Int)) (fun u w' => w'.ownsRow (w.heap.size + 4) 5 1 u l.length (bytesOf l)) (HC.mono (by
    rintro e w' ⟨u, rfl, b⟩
    obtain ⟨xa, xc, rfl⟩ := b.form
    exact ⟨xa, l.length, xc, rfl, b.t, by have := b.own; simpa using this⟩)) (by
    intro a n c w1 w2 hk _ t
    simp only [World.size_alloc] at t
    exact own_touch hk t (fun k hkk e => by have := (hk.lt k hkk).1; omega))
  clear HC hv hby
  show Calls Tryz.prog 22 #[.agg #[.int .u16 h.age, .int .u8 h.opts, .int .u8 h.typ, .int .u32 h.id, .int .u32 h.adv, .int .i32 h.seq, .int .u16 h.sum, .int .u16 h.len, .slice a l.length c]] w _
  go_enter Tryz.func22, Tryz.ntmps22
  go_wp2_with fail
  refine Calls.mono HF ?_
  rintro e w1 ⟨a', n', c', rfl, t1, hk⟩
  have HKK : Hid (w1.ownsRow (w.heap.size + 4) 5 1 (.slice a' n' c') l.length (bytesOf l)) := hk
  have R1 : Hid (Room w1 (w.heap.size + 1) 9) := by
    have := (Room.new (w.alloc (.cells #[.int .u16 h.age, .int .u8 h.opts, .int .u8 h.typ, .int .u32 h.id, .int .u32 h.adv, .int .i32 h.seq, .int .u16 h.sum, .int .u16 h.len, .slice a l.length c] 35)) #[.int .u16 0, .int .u8 0, .int .u8 0, .int .u32 0, .int .u32 0, .int .i32 0, .int .u16 0, .int .u16 0, .slice none 0 0] 35).keep t1
    show Room _ _ _
    simpa using this
  have HT : Hid (Touch (fun _ => False) w w1) := (((Touch.refl _ w).alloc _).alloc _).trans t1
  clear HF t1 hmf hk
  generalize hg : w.heap.size + 1 = g at *
  have HG : Hid (w.heap.size + 1 = g) := hg
  clear hg
  obtain ⟨zz0, zc0, zf0⟩ := R1.out 0 (by omega)
  obtain ⟨zz1, zc1, zf1⟩ := R1.out 1 (by omega)
  obtain ⟨zz2, zc2, zf2⟩ := R1.out 2 (by omega)
  obtain ⟨zz3, zc3, zf3⟩ := R1.out 3 (by omega)
  obtain ⟨zz4, zc4, zf4⟩ := R1.out 4 (by omega)
  obtain ⟨zz5, zc5, zf5⟩ := R1.out 5 (by omega)
  obtain ⟨zz6, zc6, zf6⟩ := R1.out 6 (by omega)
  obtain ⟨zz7, zc7, zf7⟩ := R1.out 7 (by omega)
  obtain ⟨zz8, zc8, zf8⟩ := R1.out 8 (by omega)
  obtain ⟨wz, hwz⟩ : ∃ wz, wz = (((((((((w1.setCell ⟨g, 0, none⟩ (.int .u16 h.age)).setCell ⟨g, 1, none⟩ (.int .u8 h.opts)).setCell ⟨g, 2, none⟩ (.int .u8 h.typ)).setCell ⟨g, 3, none⟩ (.int .u32 h.id)).setCell ⟨g, 4, none⟩ (.int .u32 h.adv)).setCell ⟨g, 5, none⟩ (.int .i32 h.seq)).setCell ⟨g, 6, none⟩ (.int .u16 (sealS h l))).setCell ⟨g, 7, none⟩ (.int .u16 (20 + (l.length : Int)))).setCell ⟨g, 8, none⟩ (.slice a' n' c')) := ⟨_, rfl⟩
  have zd0 : wz.cell? ⟨g, 0, none⟩ = some (.int .u16 h.age) := by rw [hwz]; simp [zc0, go_sem]
  have zd1 : wz.cell? ⟨g, 1, none⟩ = some (.int .u8 h.opts) := by rw [hwz]; simp [zc1, go_sem]
  have zd2 : wz.cell? ⟨g, 2, none⟩ = some (.int .u8 h.typ) := by rw [hwz]; simp [zc2, go_sem]
  have zd3 : wz.cell? ⟨g, 3, none⟩ = some (.int .u32 h.id) := by rw [hwz]; simp [zc3, go_sem]
  have zd4 : wz.cell? ⟨g, 4, none⟩ = some (.int .u32 h.adv) := by rw [hwz]; simp [zc4, go_sem]
  have zd5 : wz.cell? ⟨g, 5, none⟩ = some (.int .i32 h.seq) := by rw [hwz]; simp [zc5, go_sem]
  have zd6 : wz.cell? ⟨g, 6, none⟩ = some (.int .u16 (sealS h l)) := by rw [hwz]; simp [zc6, go_sem]
  have zd7 : wz.cell? ⟨g, 7, none⟩ = some (.int .u16 (20 + (l.length : Int))) := by rw [hwz]; simp [zc7, go_sem]
  have zd8 : wz.cell? ⟨g, 8, none⟩ = some (.slice a' n' c') := by rw [hwz]; simp [zc8, go_sem]
  have HUz : Hid (Touch (fun k => k = g) w1 wz) := by show Touch _ _ _; rw [hwz]; refine Touch.setCell (F := fun k => k = g) (p := ⟨g, 8, none⟩) ?_ (Or.inl rfl) _; refine Touch.setCell (F := fun k => k = g) (p := ⟨g, 7, none⟩) ?_ (Or.inl rfl) _; refine Touch.setCell (F := fun k => k = g) (p := ⟨g, 6, none⟩) ?_ (Or.inl rfl) _; refine Touch.setCell (F := fun k => k = g) (p := ⟨g, 5, none⟩) ?_ (Or.inl rfl) _; refine Touch.setCell (F := fun k => k = g) (p := ⟨g, 4, none⟩) ?_ (Or.inl rfl) _; refine Touch.setCell (F := fun k => k = g) (p := ⟨g, 3, none⟩) ?_ (Or.inl rfl) _; refine Touch.setCell (F := fun k => k = g) (p := ⟨g, 2, none⟩) ?_ (Or.inl rfl) _; refine Touch.setCell (F := fun k => k = g) (p := ⟨g, 1, none⟩) ?_ (Or.inl rfl) _; refine Touch.setCell (F := fun k => k = g) (p := ⟨g, 0, none⟩) ?_ (Or.inl rfl) _; exact Touch.refl _ _
  have HWz : Hid (wz = (((((((((w1.setCell ⟨g, 0, none⟩ (.int .u16 h.age)).setCell ⟨g, 1, none⟩ (.int .u8 h.opts)).setCell ⟨g, 2, none⟩ (.int .u8 h.typ)).setCell ⟨g, 3, none⟩ (.int .u32 h.id)).setCell ⟨g, 4, none⟩ (.int .u32 h.adv)).setCell ⟨g, 5, none⟩ (.int .i32 h.seq)).setCell ⟨g, 6, none⟩ (.int .u16 (sealS h l))).setCell ⟨g, 7, none⟩ (.int .u16 (20 + (l.length : Int)))).setCell ⟨g, 8, none⟩ (.slice a' n' c'))) := hwz
  clear hwz
  go_wp2_with fail
  rw [← HWz.out]
  clear HWz zc0 zf0 zc1 zf1 zc2 zf2 zc3 zf3 zc4 zf4 zc5 zf5 zc6 zf6 zc7 zf7 zc8 zf8
  refine bodyPost_ret (v := .tuple #[.agg #[.int .u16 h.age, .int .u8 h.opts, .int .u8 h.typ, .int .u32 h.id, .int .u32 h.adv, .int .i32 h.seq, .int .u16 (sealS h l), .int .u16 (20 + (l.length : Int)), .slice a' n' c'], .int .i64 0]) (by simp [results, Tryz.results22, go_sem, zd0, zd1, zd2, zd3, zd4, zd5, zd6, zd7, zd8]) rfl ?_
  exact ⟨_, rfl, ⟨own_lower (own_touch HKK.out HUz.out (fun k hk e => by have := (HKK.out.lt k hk).1; have := HG.out; omega)) (by omega), HT.out.trans' HUz.out (fun i hi e => by have := HG.out; omega)⟩⟩
end Go.Proofs.YthdkihnmeoacaaaGreatDoor

namespace Go.Proofs.YthdkihnmeoacaaaGreatDoor
open Go.RowKit
set_option linter.unusedVariables false
set_option maxRecDepth 100000

theorem seal1_no (g : Nat) (h : HV) (v : Value) (l : List Int) (w : World) (hS : Sd w g h v) (hv : ArgAt w v l) (hl : 65515 < l.length) (hl2 : l.length ≤ 140737488355328) :
    Calls Tryz.prog 79 #[.pointer (some ⟨g, 0, none⟩)] w fun e w' => e = .panicked (flawC 11) ∧ Touch (fun _ => False) w w' := by
  obtain ⟨a, c, rfl, hm⟩ := hv.form
  have HSl := fun w' (t : Touch (fun _ => False) w w') => sealed_long h (.slice a l.length c) l w' (hv.keepN t) hl hl2
  have hgl := lt_of_cell hS.hd.c0
  obtain ⟨⟨s0, s1, s2, s3, s4, s5, s6, s7⟩, s8⟩ := hS.keep ((Touch.refl (fun _ => False) w).alloc (.cells #[.int .u16 0, .int .u8 0, .int .u8 0, .int .u32 0, .int .u32 0, .int .i32 0, .int .u16 0, .int .u16 0, .slice none 0 0] 35))
  have HS1 := HSl _ ((Touch.refl (fun _ => False) w).alloc (.cells #[.int .u16 0, .int .u8 0, .int .u8 0, .int .u32 0, .int .u32 0, .int .i32 0, .int .u16 0, .int .u16 0, .slice none 0 0] 35))
  unfold HV.sv at HS1
  clear hS hv HSl
  go_enter Tryz.func79, Tryz.ntmps79
  go_wp2_with fail
  refine Calls.mono HS1 ?_
  rintro e w1 ⟨rfl, t1⟩
  exact ⟨rfl, rfl, ((Touch.refl _ w).alloc _).trans t1⟩
set_option maxHeartbeats 1000000 in
theorem seal_bad (h : HV) (v : Value) (l : List Int) (w : World) (hv : ArgAt w v l) (hl : 65515 < l.length) (hl2 : l.length ≤ 140737488355328) :
    Calls Tryz.prog 22 #[h.sv v] w fun e w' => e = .returned (.tuple #[.agg #[.int .u16 0, .int .u8 0, .int .u8 0, .int .u32 0, .int .u32 0, .int .i32 0, .int .u16 0, .int .u16 0, .slice none 0 0], .int .i64 11]) ∧ Touch (fun _ => False) w w' := by
  obtain ⟨a, c, rfl, hm⟩ := hv.form
  have hmf : ∀ (fn : Fn) (first cap : Array Value) (w : World), (Instr.makeFunc fn first cap).run Tryz.prog w = .ok (.func fn first cap) w := fun _ _ _ _ => rfl
  have HF := faceS_no 79 #[.pointer (some ⟨w.heap.size, 0, none⟩)] (fun _ => rfl) ((w.alloc (.cells #[.int .u16 h.age, .int .u8 h.opts, .int .u8 h.typ, .int .u32 h.id, .int .u32 h.adv, .int .i32 h.seq, .int .u16 h.sum, .int .u16 h.len, .slice a l.length c] 35)).alloc (.cells #[.int .u16 0, .int .u8 0, .int .u8 0, .int .u32 0, .int .u32 0, .int .i32 0, .int .u16 0, .int .u16 0, .slice none 0 0] 35)) 11 (seal1_no w.heap.size h (.slice a l.length c) l _ ((Sd.new w h (.slice a l.length c) 35).keep ((((Touch.refl _ _).alloc _).alloc _).alloc _)) (hv.keepN (((((Touch.refl _ w).alloc _).alloc _).alloc _).alloc _)) hl hl2)
  clear hv
  show Calls Tryz.prog 22 #[.agg #[.int .u16 h.age, .int .u8 h.opts, .int .u8 h.typ, .int .u32 h.id, .int .u32 h.adv, .int .i32 h.seq, .int .u16 h.sum, .int .u16 h.len, .slice a l.length c]] w _
  go_enter Tryz.func22, Tryz.ntmps22
  go_wp2_with fail
  refine Calls.mono HF ?_
  rintro e w1 ⟨rfl, t1⟩
  have R1 : Hid (Room w1 (w.heap.size + 1) 9) := by
    have := (Room.new (w.alloc (.cells #[.int .u16 h.age, .int .u8 h.opts, .int .u8 h.typ, .int .u32 h.id, .int .u32 h.adv, .int .i32 h.seq, .int .u16 h.sum, .int .u16 h.len, .slice a l.length c] 35)) #[.int .u16 0, .int .u8 0, .int .u8 0, .int .u32 0, .int .u32 0, .int .i32 0, .int .u16 0, .int .u16 0, .slice none 0 0] 35).keep t1
    show Room _ _ _
    simpa using this
  have HT : Hid (Touch (fun _ => False) w w1) := (((Touch.refl _ w).alloc _).alloc _).trans t1
  clear HF t1 hmf
  generalize hg : w.heap.size + 1 = g at *
  have HG : Hid (w.heap.size + 1 = g) := hg
  clear hg
  obtain ⟨zz0, zc0, zf0⟩ := R1.out 0 (by omega)
  obtain ⟨zz1, zc1, zf1⟩ := R1.out 1 (by omega)
  obtain ⟨zz2, zc2, zf2⟩ := R1.out 2 (by omega)
  obtain ⟨zz3, zc3, zf3⟩ := R1.out 3 (by omega)
  obtain ⟨zz4, zc4, zf4⟩ := R1.out 4 (by omega)
  obtain ⟨zz5, zc5, zf5⟩ := R1.out 5 (by omega)
  obtain ⟨zz6, zc6, zf6⟩ := R1.out 6 (by omega)
  obtain ⟨zz7, zc7, zf7⟩ := R1.out 7 (by omega)
  obtain ⟨zz8, zc8, zf8⟩ := R1.out 8 (by omega)
  obtain ⟨wz, hwz⟩ : ∃ wz, wz = (((((((((w1.setCell ⟨g, 0, none⟩ (.int .u16 0)).setCell ⟨g, 1, none⟩ (.int .u8 0)).setCell ⟨g, 2, none⟩ (.int .u8 0)).setCell ⟨g, 3, none⟩ (.int .u32 0)).setCell ⟨g, 4, none⟩ (.int .u32 0)).setCell ⟨g, 5, none⟩ (.int .i32 0)).setCell ⟨g, 6, none⟩ (.int .u16 0)).setCell ⟨g, 7, none⟩ (.int .u16 0)).setCell ⟨g, 8, none⟩ (.slice none 0 0)) := ⟨_, rfl⟩
  have zd0 : wz.cell? ⟨g, 0, none⟩ = some (.int .u16 0) := by rw [hwz]; simp [zc0, go_sem]
  have zd1 : wz.cell? ⟨g, 1, none⟩ = some (.int .u8 0) := by rw [hwz]; simp [zc1, go_sem]
  have zd2 : wz.cell? ⟨g, 2, none⟩ = some (.int .u8 0) := by rw [hwz]; simp [zc2, go_sem]
  have zd3 : wz.cell? ⟨g, 3, none⟩ = some (.int .u32 0) := by rw [hwz]; simp [zc3, go_sem]
  have zd4 : wz.cell? ⟨g, 4, none⟩ = some (.int .u32 0) := by rw [hwz]; simp [zc4, go_sem]
  have zd5 : wz.cell? ⟨g, 5, none⟩ = some (.int .i32 0) := by rw [hwz]; simp [zc5, go_sem]
  have zd6 : wz.cell? ⟨g, 6, none⟩ = some (.int .u16 0) := by rw [hwz]; simp [zc6, go_sem]
  have zd7 : wz.cell? ⟨g, 7, none⟩ = some (.int .u16 0) := by rw [hwz]; simp [zc7, go_sem]
  have zd8 : wz.cell? ⟨g, 8, none⟩ = some (.slice none 0 0) := by rw [hwz]; simp [zc8, go_sem]
  have HUz : Hid (Touch (fun k => k = g) w1 wz) := by show Touch _ _ _; rw [hwz]; refine Touch.setCell (F := fun k => k = g) (p := ⟨g, 8, none⟩) ?_ (Or.inl rfl) _; refine Touch.setCell (F := fun k => k = g) (p := ⟨g, 7, none⟩) ?_ (Or.inl rfl) _; refine Touch.setCell (F := fun k => k = g) (p := ⟨g, 6, none⟩) ?_ (Or.inl rfl) _; refine Touch.setCell (F := fun k => k = g) (p := ⟨g, 5, none⟩) ?_ (Or.inl rfl) _; refine Touch.setCell (F := fun k => k = g) (p := ⟨g, 4, none⟩) ?_ (Or.inl rfl) _; refine Touch.setCell (F := fun k => k = g) (p := ⟨g, 3, none⟩) ?_ (Or.inl rfl) _; refine Touch.setCell (F := fun k => k = g) (p := ⟨g, 2, none⟩) ?_ (Or.inl rfl) _; refine Touch.setCell (F := fun k => k = g) (p := ⟨g, 1, none⟩) ?_ (Or.inl rfl) _; refine Touch.setCell (F := fun k => k = g) (p := ⟨g, 0, none⟩) ?_ (Or.inl rfl) _; exact Touch.refl _ _
  have HWz : Hid (wz = (((((((((w1.setCell ⟨g, 0, none⟩ (.int .u16 0)).setCell ⟨g, 1, none⟩ (.int .u8 0)).setCell ⟨g, 2, none⟩ (.int .u8 0)).setCell ⟨g, 3, none⟩ (.int .u32 0)).setCell ⟨g, 4, none⟩ (.int .u32 0)).setCell ⟨g, 5, none⟩ (.int .i32 0)).setCell ⟨g, 6, none⟩ (.int .u16 0)).setCell ⟨g, 7, none⟩ (.int .u16 0)).setCell ⟨g, 8, none⟩ (.slice none 0 0))) := hwz
  clear hwz
  go_wp2_with fail
  rw [← HWz.out]
  clear HWz zc0 zf0 zc1 zf1 zc2 zf2 zc3 zf3 zc4 zf4 zc5 zf5 zc6 zf6 zc7 zf7 zc8 zf8
  refine bodyPost_ret (v := .tuple #[.agg #[.int .u16 0, .int .u8 0, .int .u8 0, .int .u32 0, .int .u32 0, .int .i32 0, .int .u16 0, .int .u16 0, .slice none 0 0], .int .i64 11]) (by simp [results, Tryz.results22, go_sem, zd0, zd1, zd2, zd3, zd4, zd5, zd6, zd7, zd8]) rfl ?_
  exact ⟨rfl, HT.out.trans' HUz.out (fun i hi e => by have := HG.out; omega)⟩
/-- What Seal answers. -/
def slE (l : List Int) : Int := if 65515 < l.length then 11 else 0
def slH (h : HV) (l : List Int) : HV := if 65515 < l.length then HV.zero else sealH h l
def slL (l : List Int) : List Int := if 65515 < l.length then [] else l
theorem slL_length (l : List Int) : (slL l).length ≤ 65515 := by
  unfold slL
  split
  · simp
  · omega
theorem seal_all (h : HV) (ok : h.All) (v : Value) (l : List Int) (w : World) (hv : ArgAt w v l) (hby : ∀ z ∈ l, 0 ≤ z ∧ z < 256) (hl : l.length ≤ 131072) :
    Calls Tryz.prog 22 #[h.sv v] w fun e w' => ∃ u, e = .returned (.tuple #[(slH h l).sv u, .int .i64 (slE l)]) ∧ Buf w w' u (slL l) := by
  unfold slH slE slL
  by_cases h1 : 65515 < l.length
  · rw [if_pos h1, if_pos h1, if_pos h1]
    refine (seal_bad h v l w hv h1 (by omega)).mono ?_
    rintro e w' ⟨rfl, t⟩
    exact ⟨_, rfl, World.ownsRow_nil _ _ _ _, t⟩
  · rw [if_neg h1, if_neg h1, if_neg h1]
    exact seal_good h ok v l w hv hby (by omega)
theorem dseal_all (h : HV) (ok : h.All) (v : Value) (l : List Int) (w : World) (hv : ArgAt w v l) (hby : ∀ z ∈ l, 0 ≤ z ∧ z < 256) (hl : l.length ≤ 131072) :
    Calls Tryz.prog 23 #[h.sv v] w fun e w' => ∃ u, e = .returned (.tuple #[(slH h l).sv u, .int .i64 (slE l)]) ∧ Buf w w' u (slL l) := by
  unfold slH slE slL
  by_cases h1 : 65515 < l.length
  · rw [if_pos h1, if_pos h1, if_pos h1]
    refine (rseal_long h v l w hv h1 hl).mono ?_
    rintro e w' ⟨rfl, t⟩
    exact ⟨_, rfl, World.ownsRow_nil _ _ _ _, t⟩
  · rw [if_neg h1, if_neg h1, if_neg h1]
    exact rseal_ok h ok v l w hv hby (by omega)
end Go.Proofs.YthdkihnmeoacaaaGreatDoor

namespace Go.Proofs.YthdkihnmeoacaaaGreatDoor
open Go.RowKit
set_option linter.unusedVariables false
set_option maxRecDepth 100000

set_option maxHeartbeats 1000000 in
theorem wstate_any (h : HV) (v : Value) (rs : List Int) (w : World) (hv : ArgAt w v rs) (hby : ∀ x ∈ rs, 0 ≤ x ∧ x < 256) (hl : rs.length ≤ 1000000) : Calls Tryz.prog 16 #[h.sv v] w fun e w' => e = .returned (h.sv (.slice (some ⟨w.heap.size + 2, 0, none⟩) rs.length (rs.length + 64))) ∧ w'.heap[w.heap.size + 2]? = some (.cells (bytesOf (rs ++ spareMarks rs.length)).toArray 5 (0, 0)) ∧ Touch (fun _ => False) w w' := by
  obtain ⟨a, c, rfl, hm⟩ := hv.form
  have HC := fun w h => wide_any (.slice a rs.length c) rs w h hby (by omega)
  have HV' : Hid (ArgAt w (.slice a rs.length c) rs) := hv
  clear hv hby
  show Calls Tryz.prog 16 #[.agg #[.int .u16 h.age, .int .u8 h.opts, .int .u8 h.typ, .int .u32 h.id, .int .u32 h.adv, .int .i32 h.seq, .int .u16 h.sum, .int .u16 h.len, .slice a rs.length c]] w _
  go_enter Tryz.func16, Tryz.ntmps16
  go_wp2_with fail
  refine Calls.mono (HC _ (HV'.out.keepN (((Touch.refl _ _).alloc _).alloc _))) ?_
  rintro e w1 ⟨rfl, hb1, t1⟩
  have hsz : ((w.alloc (.cells #[.int .u16 h.age, .int .u8 h.opts, .int .u8 h.typ, .int .u32 h.id, .int .u32 h.adv, .int .i32 h.seq, .int .u16 h.sum, .int .u16 h.len, .slice a rs.length c] 35)).alloc (.cells #[.int .u16 0, .int .u8 0, .int .u8 0, .int .u32 0, .int .u32 0, .int .i32 0, .int .u16 0, .int .u16 0, .slice none 0 0] 35)).heap.size = w.heap.size + 2 := by simp
  rw [hsz] at hb1
  simp only [hsz]
  obtain ⟨gw, hgw⟩ : ∃ gw, gw = w.heap.size + 2 := ⟨_, rfl⟩
  rw [← hgw] at hb1 ⊢
  clear hsz
  have O1 : Out w1 w.heap.size h (.slice a rs.length c) := ((Out.new w h (.slice a rs.length c) 35).keep ((Touch.refl _ _).alloc _)).keep t1
  have O2 : Hid (Out (w1.setCell ⟨w.heap.size, 8, none⟩ (.slice (some ⟨gw, 0, none⟩) rs.length (rs.length + 64))) w.heap.size h (.slice (some ⟨gw, 0, none⟩) rs.length (rs.length + 64))) := O1.set8 _
  have R1 : Room w1 (w.heap.size + 1) 9 := by
    have := (Room.new (w.alloc (.cells #[.int .u16 h.age, .int .u8 h.opts, .int .u8 h.typ, .int .u32 h.id, .int .u32 h.adv, .int .i32 h.seq, .int .u16 h.sum, .int .u16 h.len, .slice a rs.length c] 35)) #[.int .u16 0, .int .u8 0, .int .u8 0, .int .u32 0, .int .u32 0, .int .i32 0, .int .u16 0, .int .u16 0, .slice none 0 0] 35).keep t1
    simpa using this
  have U2 : Touch (fun k => k = w.heap.size) w1 (w1.setCell ⟨w.heap.size, 8, none⟩ (.slice (some ⟨gw, 0, none⟩) rs.length (rs.length + 64))) := Touch.setCell (F := fun k => k = w.heap.size) (p := ⟨w.heap.size, 8, none⟩) (Touch.refl _ _) (Or.inl rfl) _
  have R2 : Hid (Room (w1.setCell ⟨w.heap.size, 8, none⟩ (.slice (some ⟨gw, 0, none⟩) rs.length (rs.length + 64))) (w.heap.size + 1) 9) := R1.touch U2 (by show ¬ w.heap.size + 1 = w.heap.size; omega)
  have B2 : Hid ((w1.setCell ⟨w.heap.size, 8, none⟩ (.slice (some ⟨gw, 0, none⟩) rs.length (rs.length + 64))).heap[gw]? = some (.cells (bytesOf (rs ++ spareMarks rs.length)).toArray 5 (0, 0))) := (U2.block gw (lt_of_heap hb1) (by show ¬ gw = w.heap.size; omega)).trans hb1
  have T2 : Hid (Touch (fun _ => False) w (w1.setCell ⟨w.heap.size, 8, none⟩ (.slice (some ⟨gw, 0, none⟩) rs.length (rs.length + 64)))) := ((((Touch.refl _ w).alloc _).alloc _).trans t1).setCell (Or.inr (Nat.le_refl _)) _
  obtain ⟨⟨⟨s0, s1, s2, s3, s4, s5, s6, s7⟩, s8⟩, f6, f7, f8⟩ := O1.fits
  have HGW : Hid (gw = w.heap.size + 2) := hgw
  clear hb1 t1 O1 R1 U2 HC hgw
  go_upto_region 2 with fail
  clear s0 s1 s2 s3 s4 s5 s6 s7 s8 f6 f7 f8
  have hne : ¬ w.heap.size = w.heap.size + 1 := by omega
  have hne' : ¬ w.heap.size + 1 = w.heap.size := by omega
  generalize w1.setCell ⟨w.heap.size, 8, none⟩ (.slice (some ⟨gw, 0, none⟩) rs.length (rs.length + 64)) = w2 at *
  obtain ⟨⟨⟨s0, s1, s2, s3, s4, s5, s6, s7⟩, s8⟩, -⟩ := O2.out.fits
  generalize hg : w.heap.size + 1 = g at *
  have HG : Hid (w.heap.size + 1 = g) := hg
  clear hg
  obtain ⟨zz0, zc0, zf0⟩ := R2.out 0 (by omega)
  obtain ⟨zz1, zc1, zf1⟩ := R2.out 1 (by omega)
  obtain ⟨zz2, zc2, zf2⟩ := R2.out 2 (by omega)
  obtain ⟨zz3, zc3, zf3⟩ := R2.out 3 (by omega)
  obtain ⟨zz4, zc4, zf4⟩ := R2.out 4 (by omega)
  obtain ⟨zz5, zc5, zf5⟩ := R2.out 5 (by omega)
  obtain ⟨zz6, zc6, zf6⟩ := R2.out 6 (by omega)
  obtain ⟨zz7, zc7, zf7⟩ := R2.out 7 (by omega)
  obtain ⟨zz8, zc8, zf8⟩ := R2.out 8 (by omega)
  obtain ⟨wz, hwz⟩ : ∃ wz, wz = (((((((((w2.setCell ⟨g, 0, none⟩ (.int .u16 h.age)).setCell ⟨g, 1, none⟩ (.int .u8 h.opts)).setCell ⟨g, 2, none⟩ (.int .u8 h.typ)).setCell ⟨g, 3, none⟩ (.int .u32 h.id)).setCell ⟨g, 4, none⟩ (.int .u32 h.adv)).setCell ⟨g, 5, none⟩ (.int .i32 h.seq)).setCell ⟨g, 6, none⟩ (.int .u16 h.sum)).setCell ⟨g, 7, none⟩ (.int .u16 h.len)).setCell ⟨g, 8, none⟩ (.slice (some ⟨gw, 0, none⟩) rs.length (rs.length + 64))) := ⟨_, rfl⟩
  have zd0 : wz.cell? ⟨g, 0, none⟩ = some (.int .u16 h.age) := by rw [hwz]; simp [zc0, go_sem]
  have zd1 : wz.cell? ⟨g, 1, none⟩ = some (.int .u8 h.opts) := by rw [hwz]; simp [zc1, go_sem]
  have zd2 : wz.cell? ⟨g, 2, none⟩ = some (.int .u8 h.typ) := by rw [hwz]; simp [zc2, go_sem]
  have zd3 : wz.cell? ⟨g, 3, none⟩ = some (.int .u32 h.id) := by rw [hwz]; simp [zc3, go_sem]
  have zd4 : wz.cell? ⟨g, 4, none⟩ = some (.int .u32 h.adv) := by rw [hwz]; simp [zc4, go_sem]
  have zd5 : wz.cell? ⟨g, 5, none⟩ = some (.int .i32 h.seq) := by rw [hwz]; simp [zc5, go_sem]
  have zd6 : wz.cell? ⟨g, 6, none⟩ = some (.int .u16 h.sum) := by rw [hwz]; simp [zc6, go_sem]
  have zd7 : wz.cell? ⟨g, 7, none⟩ = some (.int .u16 h.len) := by rw [hwz]; simp [zc7, go_sem]
  have zd8 : wz.cell? ⟨g, 8, none⟩ = some (.slice (some ⟨gw, 0, none⟩) rs.length (rs.length + 64)) := by rw [hwz]; simp [zc8, go_sem]
  have HUz : Hid (Touch (fun k => k = g) w2 wz) := by show Touch _ _ _; rw [hwz]; refine Touch.setCell (F := fun k => k = g) (p := ⟨g, 8, none⟩) ?_ (Or.inl rfl) _; refine Touch.setCell (F := fun k => k = g) (p := ⟨g, 7, none⟩) ?_ (Or.inl rfl) _; refine Touch.setCell (F := fun k => k = g) (p := ⟨g, 6, none⟩) ?_ (Or.inl rfl) _; refine Touch.setCell (F := fun k => k = g) (p := ⟨g, 5, none⟩) ?_ (Or.inl rfl) _; refine Touch.setCell (F := fun k => k = g) (p := ⟨g, 4, none⟩) ?_ (Or.inl rfl) _; refine Touch.setCell (F := fun k => k = g) (p := ⟨g, 3, none⟩) ?_ (Or.inl rfl) _; refine Touch.setCell (F := fun k => k = g) (p := ⟨g, 2, none⟩) ?_ (Or.inl rfl) _; refine Touch.setCell (F := fun k => k = g) (p := ⟨g, 1, none⟩) ?_ (Or.inl rfl) _; refine Touch.setCell (F := fun k => k = g) (p := ⟨g, 0, none⟩) ?_ (Or.inl rfl) _; exact Touch.refl _ _
  have HWz : Hid (wz = (((((((((w2.setCell ⟨g, 0, none⟩ (.int .u16 h.age)).setCell ⟨g, 1, none⟩ (.int .u8 h.opts)).setCell ⟨g, 2, none⟩ (.int .u8 h.typ)).setCell ⟨g, 3, none⟩ (.int .u32 h.id)).setCell ⟨g, 4, none⟩ (.int .u32 h.adv)).setCell ⟨g, 5, none⟩ (.int .i32 h.seq)).setCell ⟨g, 6, none⟩ (.int .u16 h.sum)).setCell ⟨g, 7, none⟩ (.int .u16 h.len)).setCell ⟨g, 8, none⟩ (.slice (some ⟨gw, 0, none⟩) rs.length (rs.length + 64)))) := hwz
  clear hwz
  go_wp2_with fail
  rw [← HWz.out]
  clear HWz zc0 zf0 zc1 zf1 zc2 zf2 zc3 zf3 zc4 zf4 zc5 zf5 zc6 zf6 zc7 zf7 zc8 zf8
  refine bodyPost_ret (v := .agg #[.int .u16 h.age, .int .u8 h.opts, .int .u8 h.typ, .int .u32 h.id, .int .u32 h.adv, .int .i32 h.seq, .int .u16 h.sum, .int .u16 h.len, .slice (some ⟨gw, 0, none⟩) rs.length (rs.length + 64)]) (by simp [results, Tryz.results16, go_sem, zd0, zd1, zd2, zd3, zd4, zd5, zd6, zd7, zd8]) rfl ?_
  have e := HGW.out
  rw [← e]
  exact ⟨rfl, (HUz.out.block gw (lt_of_heap B2.out) (by have := HG.out; show ¬ gw = g; omega)).trans B2.out, T2.out.trans' HUz.out (fun i hi e => by have := HG.out; omega)⟩

theorem sstate_any (h : HV) (g : Nat) (rs : List Int) (w : World) (hb : w.heap[g]? = some (.cells (bytesOf (rs ++ spareMarks rs.length)).toArray 5 (0, 0))) (hcap : rs.length ≤ 1000000) :
    Calls Tryz.prog 19 #[.agg #[.int .u16 h.age, .int .u8 h.opts, .int .u8 h.typ, .int .u32 h.id, .int .u32 h.adv, .int .i32 h.seq, .int .u16 h.sum, .int .u16 h.len, .slice (some ⟨g, 0, none⟩) rs.length (rs.length + 64)]] w fun e w' => e = .returned (.bool true) ∧ Touch (fun _ => False) w w' := by
  have HS := fun o => spare_any g rs (w.alloc o) (((Touch.refl (fun _ => False) w).alloc o).heapN hb) (by omega)
  clear hb
  go_enter Tryz.func19, Tryz.ntmps19
  go_wp2_with fail
  refine Calls.mono (HS _) ?_
  rintro e w1 ⟨rfl, rfl⟩
  go_wp2
  go_ret
  exact ⟨rfl, (Touch.refl _ w).alloc _⟩
end Go.Proofs.YthdkihnmeoacaaaGreatDoor

namespace Go.Proofs.YthdkihnmeoacaaaGreatDoor
open Go.RowKit
set_option linter.unusedVariables false
set_option maxRecDepth 100000

theorem skey_any (h : HV) (w : World) : Calls Tryz.prog 27 #[.agg #[.int .u16 h.age, .int .u8 h.opts, .int .u8 h.typ, .int .u32 h.id, .int .u32 h.adv, .int .i32 h.seq, .int .u16 h.sum, .int .u16 h.len]] w fun e w' => e = .returned (.agg #[.int .u8 h.typ, .int .u32 h.id, .int .u32 h.adv]) ∧ Touch (fun _ => False) w w' := by
  go_enter Tryz.func27, Tryz.ntmps27
  go_wp2_with fail
  refine bodyPost_ret (v := .agg #[.int .u8 h.typ, .int .u32 h.id, .int .u32 h.adv]) (by simp [results, Tryz.results27, go_sem]) rfl ?_
  exact ⟨rfl, (by repeat (first | exact Touch.refl _ _ | refine Touch.alloc ?_ _ | refine Touch.setCell ?_ (Or.inr (by simp)) _))⟩
theorem dkey_any (h : HV) (w : World) : Calls Tryz.prog 28 #[.agg #[.int .u16 h.age, .int .u8 h.opts, .int .u8 h.typ, .int .u32 h.id, .int .u32 h.adv, .int .i32 h.seq, .int .u16 h.sum, .int .u16 h.len]] w fun e w' => e = .returned (.agg #[.int .u8 h.typ, .int .u32 h.id, .int .u32 h.adv]) ∧ Touch (fun _ => False) w w' := by
  go_enter Tryz.func28, Tryz.ntmps28
  go_wp2_with fail
  refine bodyPost_ret (v := .agg #[.int .u8 h.typ, .int .u32 h.id, .int .u32 h.adv]) (by simp [results, Tryz.results28, go_sem]) rfl ?_
  exact ⟨rfl, (by repeat (first | exact Touch.refl _ _ | refine Touch.alloc ?_ _ | refine Touch.setCell ?_ (Or.inr (by simp)) _))⟩
theorem shead_any (h : HV) (ok : h.All) (w : World) : Calls Tryz.prog 24 #[.agg #[.int .u16 h.age, .int .u8 h.opts, .int .u8 h.typ, .int .u32 h.id, .int .u32 h.adv, .int .i32 h.seq, .int .u16 h.sum, .int .u16 h.len]] w fun e w' => ∃ u, e = .returned u ∧ Buf w w' u (headB h) := by
  have HB := fun o => bytes_any h ok (.slice none 0 0) [] (w.alloc o) (Or.inl ⟨rfl, rfl⟩) (by simp)
  unfold HV.sv at HB
  simp only [List.append_nil] at HB
  clear ok
  generalize headB h = l at HB ⊢
  go_enter Tryz.func24, Tryz.ntmps24
  go_wp2_with fail
  refine Calls.mono (HB _) ?_
  rintro e w1 ⟨u, rfl, b1⟩
  obtain ⟨xa, xc, rfl⟩ := b1.form
  have B1 : Hid (Buf w w1 (.slice xa l.length xc) l) := b1.back ((Touch.refl _ w).alloc _)
  clear b1 HB
  go_wp2
  go_ret
  exact ⟨.slice xa l.length xc, rfl, B1.out⟩
end Go.Proofs.YthdkihnmeoacaaaGreatDoor

namespace Go.Proofs.YthdkihnmeoacaaaGreatDoor
open Go.RowKit
set_option linter.unusedVariables false
set_option maxRecDepth 100000

/-- Two states that are the same. -/
theorem estate_true (h : HV) (va vb : Value) (rs : List Int) (w : World) (ha : RowAt w va rs) (hb : ArgAt w vb rs) : Calls Tryz.prog 11 #[h.sv va, h.sv vb] w fun e w' => e = .returned (.bool true) ∧ Touch (fun _ => False) w w' := by
  obtain ⟨aa, ca, rfl, _⟩ := rowAt_form ha
  obtain ⟨ab, cb, rfl, _⟩ := hb.form
  have HE := fun w ha hb => eq_true (.slice aa rs.length ca) (.slice ab rs.length cb) rs w ha hb
  have HA : Hid (RowAt w (.slice aa rs.length ca) rs) := ha
  have HB : Hid (ArgAt w (.slice ab rs.length cb) rs) := hb
  clear ha hb
  show Calls Tryz.prog 11 #[.agg #[.int .u16 h.age, .int .u8 h.opts, .int .u8 h.typ, .int .u32 h.id, .int .u32 h.adv, .int .i32 h.seq, .int .u16 h.sum, .int .u16 h.len, .slice aa rs.length ca], .agg #[.int .u16 h.age, .int .u8 h.opts, .int .u8 h.typ, .int .u32 h.id, .int .u32 h.adv, .int .i32 h.seq, .int .u16 h.sum, .int .u16 h.len, .slice ab rs.length cb]] w _
  go_enter Tryz.func11, Tryz.ntmps11
  go_wp2_with fail
  refine Calls.mono (HE _ (HA.out.touch (((Touch.refl (fun _ => False) w).alloc _).alloc _) (fun _ _ h => h)) (HB.out.keepN (((Touch.refl _ w).alloc _).alloc _))) ?_
  rintro e w1 ⟨rfl, nd, rfl⟩
  go_wp2
  go_ret
  exact ⟨rfl, (((Touch.refl _ w).alloc _).alloc _).drewN nd⟩
end Go.Proofs.YthdkihnmeoacaaaGreatDoor
