/- Contract: Encode. -/
import Derived.Test.YthdkihnmeoacaaaGreatDoorStEnc1
namespace Go.Proofs.YthdkihnmeoacaaaGreatDoor
open Go.RowKit
set_option linter.unusedVariables false
set_option maxRecDepth 100000

set_option maxHeartbeats 1000000 in
theorem encode_ok (h : HV) (ok : h.All) (B : BV) (a1 a3 a8 : Option Addr) (n1 q1 n3 q3 n8 q8 : Nat) (l : List Int) (w : World) (hby : ∀ z ∈ l, 0 ≤ z ∧ z < 256) (hl : l.length ≤ 65515)
    (HW : ∀ w', Touch (fun _ => False) w w' → Calls Tryz.prog 39 #[.int .u8 h.typ, .agg #[.int .u8 B.flags, .slice a1 n1 q1, .int .u32 B.mask, .slice a3 n3 q3, .int .u32 B.metric, .bool B.type2, .int .u32 B.fwd, .int .u32 B.tag, .slice a8 n8 q8]] w' fun e w'' => ∃ u, e = .returned u ∧ Buf w' w'' u l) :
    Calls Tryz.prog 9 #[h.v, .agg #[.int .u8 B.flags, .slice a1 n1 q1, .int .u32 B.mask, .slice a3 n3 q3, .int .u32 B.metric, .bool B.type2, .int .u32 B.fwd, .int .u32 B.tag, .slice a8 n8 q8]] w fun e w' => ∃ u, e = .returned (.tuple #[(sealH h l).sv u, .int .i64 0]) ∧ Buf w w' u l := by
  have hmf : ∀ (fn : Fn) (first cap : Array Value) (w : World), (Instr.makeFunc fn first cap).run Tryz.prog w = .ok (.func fn first cap) w := fun _ _ _ _ => rfl
  have TA : Touch (fun _ => False) w (((((w.alloc (.cells #[.int .u16 h.age, .int .u8 h.opts, .int .u8 h.typ, .int .u32 h.id, .int .u32 h.adv, .int .i32 h.seq, .int .u16 h.sum, .int .u16 h.len] 25)).alloc (.cells #[.int .u8 B.flags, .slice a1 n1 q1, .int .u32 B.mask, .slice a3 n3 q3, .int .u32 B.metric, .bool B.type2, .int .u32 B.fwd, .int .u32 B.tag, .slice a8 n8 q8] 30)).alloc (.cells #[.int .u16 0, .int .u8 0, .int .u8 0, .int .u32 0, .int .u32 0, .int .i32 0, .int .u16 0, .int .u16 0, .slice none 0 0] 35)).alloc (.cells #[.int .u16 0, .int .u8 0, .int .u8 0, .int .u32 0, .int .u32 0, .int .i32 0, .int .u16 0, .int .u16 0, .slice none 0 0] 35)).alloc (.cells #[.int .i64 0] 36)) := ((((((Touch.refl _ w).alloc _).alloc _).alloc _).alloc _).alloc _)
  have HH : Hd (((((w.alloc (.cells #[.int .u16 h.age, .int .u8 h.opts, .int .u8 h.typ, .int .u32 h.id, .int .u32 h.adv, .int .i32 h.seq, .int .u16 h.sum, .int .u16 h.len] 25)).alloc (.cells #[.int .u8 B.flags, .slice a1 n1 q1, .int .u32 B.mask, .slice a3 n3 q3, .int .u32 B.metric, .bool B.type2, .int .u32 B.fwd, .int .u32 B.tag, .slice a8 n8 q8] 30)).alloc (.cells #[.int .u16 0, .int .u8 0, .int .u8 0, .int .u32 0, .int .u32 0, .int .i32 0, .int .u16 0, .int .u16 0, .slice none 0 0] 35)).alloc (.cells #[.int .u16 0, .int .u8 0, .int .u8 0, .int .u32 0, .int .u32 0, .int .i32 0, .int .u16 0, .int .u16 0, .slice none 0 0] 35)).alloc (.cells #[.int .i64 0] 36)) w.heap.size h := (Hd.new w h 25).keep (((((Touch.refl _ _).alloc _).alloc _).alloc _).alloc _)
  have HBd : Bd (((((w.alloc (.cells #[.int .u16 h.age, .int .u8 h.opts, .int .u8 h.typ, .int .u32 h.id, .int .u32 h.adv, .int .i32 h.seq, .int .u16 h.sum, .int .u16 h.len] 25)).alloc (.cells #[.int .u8 B.flags, .slice a1 n1 q1, .int .u32 B.mask, .slice a3 n3 q3, .int .u32 B.metric, .bool B.type2, .int .u32 B.fwd, .int .u32 B.tag, .slice a8 n8 q8] 30)).alloc (.cells #[.int .u16 0, .int .u8 0, .int .u8 0, .int .u32 0, .int .u32 0, .int .i32 0, .int .u16 0, .int .u16 0, .slice none 0 0] 35)).alloc (.cells #[.int .u16 0, .int .u8 0, .int .u8 0, .int .u32 0, .int .u32 0, .int .i32 0, .int .u16 0, .int .u16 0, .slice none 0 0] 35)).alloc (.cells #[.int .i64 0] 36)) (w.heap.size + 1) B (.slice a1 n1 q1) (.slice a3 n3 q3) (.slice a8 n8 q8) := by
    have := (Bd.new (w.alloc (.cells #[.int .u16 h.age, .int .u8 h.opts, .int .u8 h.typ, .int .u32 h.id, .int .u32 h.adv, .int .i32 h.seq, .int .u16 h.sum, .int .u16 h.len] 25)) B (.slice a1 n1 q1) (.slice a3 n3 q3) (.slice a8 n8 q8) 30).keep (((((Touch.refl _ _).alloc (.cells #[.int .u16 0, .int .u8 0, .int .u8 0, .int .u32 0, .int .u32 0, .int .i32 0, .int .u16 0, .int .u16 0, .slice none 0 0] 35)).alloc (.cells #[.int .u16 0, .int .u8 0, .int .u8 0, .int .u32 0, .int .u32 0, .int .i32 0, .int .u16 0, .int .u16 0, .slice none 0 0] 35)).alloc (.cells #[.int .i64 0] 36)))
    simpa using this
  have HC := enc1_ok w.heap.size (w.heap.size + 1) h ok B a1 a3 a8 n1 q1 n3 q3 n8 q8 l (((((w.alloc (.cells #[.int .u16 h.age, .int .u8 h.opts, .int .u8 h.typ, .int .u32 h.id, .int .u32 h.adv, .int .i32 h.seq, .int .u16 h.sum, .int .u16 h.len] 25)).alloc (.cells #[.int .u8 B.flags, .slice a1 n1 q1, .int .u32 B.mask, .slice a3 n3 q3, .int .u32 B.metric, .bool B.type2, .int .u32 B.fwd, .int .u32 B.tag, .slice a8 n8 q8] 30)).alloc (.cells #[.int .u16 0, .int .u8 0, .int .u8 0, .int .u32 0, .int .u32 0, .int .i32 0, .int .u16 0, .int .u16 0, .slice none 0 0] 35)).alloc (.cells #[.int .u16 0, .int .u8 0, .int .u8 0, .int .u32 0, .int .u32 0, .int .i32 0, .int .u16 0, .int .u16 0, .slice none 0 0] 35)).alloc (.cells #[.int .i64 0] 36)) HH HBd hby hl (fun w' t => HW w' (TA.trans t))
  show Calls Tryz.prog 9 #[.agg #[.int .u16 h.age, .int .u8 h.opts, .int .u8 h.typ, .int .u32 h.id, .int .u32 h.adv, .int .i32 h.seq, .int .u16 h.sum, .int .u16 h.len], .agg #[.int .u8 B.flags, .slice a1 n1 q1, .int .u32 B.mask, .slice a3 n3 q3, .int .u32 B.metric, .bool B.type2, .int .u32 B.fwd, .int .u32 B.tag, .slice a8 n8 q8]] w _
  have HF := faceS_ok 37 #[.pointer (some ⟨w.heap.size, 0, none⟩), .pointer (some ⟨w.heap.size + 1, 0, none⟩)] (fun _ => rfl) (((w.alloc (.cells #[.int .u16 h.age, .int .u8 h.opts, .int .u8 h.typ, .int .u32 h.id, .int .u32 h.adv, .int .i32 h.seq, .int .u16 h.sum, .int .u16 h.len] 25)).alloc (.cells #[.int .u8 B.flags, .slice a1 n1 q1, .int .u32 B.mask, .slice a3 n3 q3, .int .u32 B.metric, .bool B.type2, .int .u32 B.fwd, .int .u32 B.tag, .slice a8 n8 q8] 30)).alloc (.cells #[.int .u16 0, .int .u8 0, .int .u8 0, .int .u32 0, .int .u32 0, .int .i32 0, .int .u16 0, .int .u16 0, .slice none 0 0] 35)) h.age h.opts h.typ h.id h.adv h.seq (sealS h l) (20 + (l.length : Int)) (fun u w' => w'.ownsRow (w.heap.size + 5) 5 1 u l.length (bytesOf l)) (HC.mono (by
    rintro e w' ⟨u, rfl, b⟩
    obtain ⟨xa, xc, rfl⟩ := b.form
    exact ⟨xa, l.length, xc, rfl, b.t, by have := b.own; simpa using this⟩)) (by
    intro a n c w1 w2 hk _ t
    simp only [World.size_alloc] at t
    exact own_touch hk t (fun k hkk e => by have := (hk.lt k hkk).1; omega))
  clear HC TA HH HBd HW
  go_enter Tryz.func9, Tryz.ntmps9
  go_wp2_with fail
  refine Calls.mono HF ?_
  rintro e w1 ⟨a, n, c, rfl, t1, hk⟩
  have HKK : Hid (w1.ownsRow (w.heap.size + 5) 5 1 (.slice a n c) l.length (bytesOf l)) := hk
  clear hk
  have R1 : Hid (Room w1 (w.heap.size + 1 + 1) 9) := by
    have := (Room.new ((w.alloc (.cells #[.int .u16 h.age, .int .u8 h.opts, .int .u8 h.typ, .int .u32 h.id, .int .u32 h.adv, .int .i32 h.seq, .int .u16 h.sum, .int .u16 h.len] 25)).alloc (.cells #[.int .u8 B.flags, .slice a1 n1 q1, .int .u32 B.mask, .slice a3 n3 q3, .int .u32 B.metric, .bool B.type2, .int .u32 B.fwd, .int .u32 B.tag, .slice a8 n8 q8] 30)) #[.int .u16 0, .int .u8 0, .int .u8 0, .int .u32 0, .int .u32 0, .int .i32 0, .int .u16 0, .int .u16 0, .slice none 0 0] 35).keep t1
    show Room _ _ _
    simpa using this
  have HT : Hid (Touch (fun _ => False) w w1) := ((((Touch.refl _ w).alloc _).alloc _).alloc _).trans t1
  clear HF t1 hmf
  generalize hg : w.heap.size + 1 + 1 = g at *
  have HG : Hid (w.heap.size + 1 + 1 = g) := hg
  clear hg
  obtain ⟨zz0, zc0, zf0⟩ := R1.out 0 (by omega)
  obtain ⟨zz1, zc1, zf1⟩ := R1.out 1 (by omega)
  obtain ⟨zz2, zc2, zf2⟩ := R1.out 2 (by omega)
  obtain ⟨zz3, zc3, zf3⟩ := R1.out 3 (by omega)
  obtain ⟨zz4, zc4, zf4⟩ := R1.out 4 (by omega)
  obtain ⟨zz5, zc5, zf5⟩ := R1.out 5 (by omega)
  obtain ⟨zz6, zc6, zf6⟩ := R1.out 6 (by omega)
  obtain ⟨zz7, zc7, zf7⟩ := R1.out 7 (by omega)
  obtain ⟨zz8, zc8, zf8⟩ := R1.out 8 (by omega)
  obtain ⟨wz, hwz⟩ : ∃ wz, wz = (((((((((w1.setCell ⟨g, 0, none⟩ (.int .u16 h.age)).setCell ⟨g, 1, none⟩ (.int .u8 h.opts)).setCell ⟨g, 2, none⟩ (.int .u8 h.typ)).setCell ⟨g, 3, none⟩ (.int .u32 h.id)).setCell ⟨g, 4, none⟩ (.int .u32 h.adv)).setCell ⟨g, 5, none⟩ (.int .i32 h.seq)).setCell ⟨g, 6, none⟩ (.int .u16 (sealS h l))).setCell ⟨g, 7, none⟩ (.int .u16 (20 + (l.length : Int)))).setCell ⟨g, 8, none⟩ (.slice a n c)) := ⟨_, rfl⟩
  have zd0 : wz.cell? ⟨g, 0, none⟩ = some (.int .u16 h.age) := by rw [hwz]; simp [zc0, go_sem]
  have zd1 : wz.cell? ⟨g, 1, none⟩ = some (.int .u8 h.opts) := by rw [hwz]; simp [zc1, go_sem]
  have zd2 : wz.cell? ⟨g, 2, none⟩ = some (.int .u8 h.typ) := by rw [hwz]; simp [zc2, go_sem]
  have zd3 : wz.cell? ⟨g, 3, none⟩ = some (.int .u32 h.id) := by rw [hwz]; simp [zc3, go_sem]
  have zd4 : wz.cell? ⟨g, 4, none⟩ = some (.int .u32 h.adv) := by rw [hwz]; simp [zc4, go_sem]
  have zd5 : wz.cell? ⟨g, 5, none⟩ = some (.int .i32 h.seq) := by rw [hwz]; simp [zc5, go_sem]
  have zd6 : wz.cell? ⟨g, 6, none⟩ = some (.int .u16 (sealS h l)) := by rw [hwz]; simp [zc6, go_sem]
  have zd7 : wz.cell? ⟨g, 7, none⟩ = some (.int .u16 (20 + (l.length : Int))) := by rw [hwz]; simp [zc7, go_sem]
  have zd8 : wz.cell? ⟨g, 8, none⟩ = some (.slice a n c) := by rw [hwz]; simp [zc8, go_sem]
  have HUz : Hid (Touch (fun k => k = g) w1 wz) := by show Touch _ _ _; rw [hwz]; refine Touch.setCell (F := fun k => k = g) (p := ⟨g, 8, none⟩) ?_ (Or.inl rfl) _; refine Touch.setCell (F := fun k => k = g) (p := ⟨g, 7, none⟩) ?_ (Or.inl rfl) _; refine Touch.setCell (F := fun k => k = g) (p := ⟨g, 6, none⟩) ?_ (Or.inl rfl) _; refine Touch.setCell (F := fun k => k = g) (p := ⟨g, 5, none⟩) ?_ (Or.inl rfl) _; refine Touch.setCell (F := fun k => k = g) (p := ⟨g, 4, none⟩) ?_ (Or.inl rfl) _; refine Touch.setCell (F := fun k => k = g) (p := ⟨g, 3, none⟩) ?_ (Or.inl rfl) _; refine Touch.setCell (F := fun k => k = g) (p := ⟨g, 2, none⟩) ?_ (Or.inl rfl) _; refine Touch.setCell (F := fun k => k = g) (p := ⟨g, 1, none⟩) ?_ (Or.inl rfl) _; refine Touch.setCell (F := fun k => k = g) (p := ⟨g, 0, none⟩) ?_ (Or.inl rfl) _; exact Touch.refl _ _
  have HWz : Hid (wz = (((((((((w1.setCell ⟨g, 0, none⟩ (.int .u16 h.age)).setCell ⟨g, 1, none⟩ (.int .u8 h.opts)).setCell ⟨g, 2, none⟩ (.int .u8 h.typ)).setCell ⟨g, 3, none⟩ (.int .u32 h.id)).setCell ⟨g, 4, none⟩ (.int .u32 h.adv)).setCell ⟨g, 5, none⟩ (.int .i32 h.seq)).setCell ⟨g, 6, none⟩ (.int .u16 (sealS h l))).setCell ⟨g, 7, none⟩ (.int .u16 (20 + (l.length : Int)))).setCell ⟨g, 8, none⟩ (.slice a n c))) := hwz
  clear hwz
  go_wp2_with fail
  rw [← HWz.out]
  clear HWz zc0 zf0 zc1 zf1 zc2 zf2 zc3 zf3 zc4 zf4 zc5 zf5 zc6 zf6 zc7 zf7 zc8 zf8
  refine bodyPost_ret (v := .tuple #[.agg #[.int .u16 h.age, .int .u8 h.opts, .int .u8 h.typ, .int .u32 h.id, .int .u32 h.adv, .int .i32 h.seq, .int .u16 (sealS h l), .int .u16 (20 + (l.length : Int)), .slice a n c], .int .i64 0]) (by simp [results, Tryz.results9, go_sem, zd0, zd1, zd2, zd3, zd4, zd5, zd6, zd7, zd8]) rfl ?_
  exact ⟨_, rfl, ⟨own_lower (own_touch HKK.out HUz.out (fun k hk e => by have := (HKK.out.lt k hk).1; have := HG.out; omega)) (by omega), HT.out.trans' HUz.out (fun i hi e => by have := HG.out; omega)⟩⟩
set_option maxHeartbeats 1000000 in
theorem encode_no (h : HV) (B : BV) (a1 a3 a8 : Option Addr) (n1 q1 n3 q3 n8 q8 : Nat) (err : Int) (w : World) 
    (HW : ∀ w', Touch (fun _ => False) w w' → Calls Tryz.prog 39 #[.int .u8 h.typ, .agg #[.int .u8 B.flags, .slice a1 n1 q1, .int .u32 B.mask, .slice a3 n3 q3, .int .u32 B.metric, .bool B.type2, .int .u32 B.fwd, .int .u32 B.tag, .slice a8 n8 q8]] w' fun e w'' => e = .panicked (flawC err) ∧ Touch (fun _ => False) w' w'') :
    Calls Tryz.prog 9 #[h.v, .agg #[.int .u8 B.flags, .slice a1 n1 q1, .int .u32 B.mask, .slice a3 n3 q3, .int .u32 B.metric, .bool B.type2, .int .u32 B.fwd, .int .u32 B.tag, .slice a8 n8 q8]] w fun e w' => e = .returned (.tuple #[.agg #[.int .u16 0, .int .u8 0, .int .u8 0, .int .u32 0, .int .u32 0, .int .i32 0, .int .u16 0, .int .u16 0, .slice none 0 0], .int .i64 err]) ∧ Touch (fun _ => False) w w' := by
  have hmf : ∀ (fn : Fn) (first cap : Array Value) (w : World), (Instr.makeFunc fn first cap).run Tryz.prog w = .ok (.func fn first cap) w := fun _ _ _ _ => rfl
  have TA : Touch (fun _ => False) w (((((w.alloc (.cells #[.int .u16 h.age, .int .u8 h.opts, .int .u8 h.typ, .int .u32 h.id, .int .u32 h.adv, .int .i32 h.seq, .int .u16 h.sum, .int .u16 h.len] 25)).alloc (.cells #[.int .u8 B.flags, .slice a1 n1 q1, .int .u32 B.mask, .slice a3 n3 q3, .int .u32 B.metric, .bool B.type2, .int .u32 B.fwd, .int .u32 B.tag, .slice a8 n8 q8] 30)).alloc (.cells #[.int .u16 0, .int .u8 0, .int .u8 0, .int .u32 0, .int .u32 0, .int .i32 0, .int .u16 0, .int .u16 0, .slice none 0 0] 35)).alloc (.cells #[.int .u16 0, .int .u8 0, .int .u8 0, .int .u32 0, .int .u32 0, .int .i32 0, .int .u16 0, .int .u16 0, .slice none 0 0] 35)).alloc (.cells #[.int .i64 0] 36)) := ((((((Touch.refl _ w).alloc _).alloc _).alloc _).alloc _).alloc _)
  have HH : Hd (((((w.alloc (.cells #[.int .u16 h.age, .int .u8 h.opts, .int .u8 h.typ, .int .u32 h.id, .int .u32 h.adv, .int .i32 h.seq, .int .u16 h.sum, .int .u16 h.len] 25)).alloc (.cells #[.int .u8 B.flags, .slice a1 n1 q1, .int .u32 B.mask, .slice a3 n3 q3, .int .u32 B.metric, .bool B.type2, .int .u32 B.fwd, .int .u32 B.tag, .slice a8 n8 q8] 30)).alloc (.cells #[.int .u16 0, .int .u8 0, .int .u8 0, .int .u32 0, .int .u32 0, .int .i32 0, .int .u16 0, .int .u16 0, .slice none 0 0] 35)).alloc (.cells #[.int .u16 0, .int .u8 0, .int .u8 0, .int .u32 0, .int .u32 0, .int .i32 0, .int .u16 0, .int .u16 0, .slice none 0 0] 35)).alloc (.cells #[.int .i64 0] 36)) w.heap.size h := (Hd.new w h 25).keep (((((Touch.refl _ _).alloc _).alloc _).alloc _).alloc _)
  have HBd : Bd (((((w.alloc (.cells #[.int .u16 h.age, .int .u8 h.opts, .int .u8 h.typ, .int .u32 h.id, .int .u32 h.adv, .int .i32 h.seq, .int .u16 h.sum, .int .u16 h.len] 25)).alloc (.cells #[.int .u8 B.flags, .slice a1 n1 q1, .int .u32 B.mask, .slice a3 n3 q3, .int .u32 B.metric, .bool B.type2, .int .u32 B.fwd, .int .u32 B.tag, .slice a8 n8 q8] 30)).alloc (.cells #[.int .u16 0, .int .u8 0, .int .u8 0, .int .u32 0, .int .u32 0, .int .i32 0, .int .u16 0, .int .u16 0, .slice none 0 0] 35)).alloc (.cells #[.int .u16 0, .int .u8 0, .int .u8 0, .int .u32 0, .int .u32 0, .int .i32 0, .int .u16 0, .int .u16 0, .slice none 0 0] 35)).alloc (.cells #[.int .i64 0] 36)) (w.heap.size + 1) B (.slice a1 n1 q1) (.slice a3 n3 q3) (.slice a8 n8 q8) := by
    have := (Bd.new (w.alloc (.cells #[.int .u16 h.age, .int .u8 h.opts, .int .u8 h.typ, .int .u32 h.id, .int .u32 h.adv, .int .i32 h.seq, .int .u16 h.sum, .int .u16 h.len] 25)) B (.slice a1 n1 q1) (.slice a3 n3 q3) (.slice a8 n8 q8) 30).keep (((((Touch.refl _ _).alloc (.cells #[.int .u16 0, .int .u8 0, .int .u8 0, .int .u32 0, .int .u32 0, .int .i32 0, .int .u16 0, .int .u16 0, .slice none 0 0] 35)).alloc (.cells #[.int .u16 0, .int .u8 0, .int .u8 0, .int .u32 0, .int .u32 0, .int .i32 0, .int .u16 0, .int .u16 0, .slice none 0 0] 35)).alloc (.cells #[.int .i64 0] 36)))
    simpa using this
  have HC := enc1_no w.heap.size (w.heap.size + 1) h B a1 a3 a8 n1 q1 n3 q3 n8 q8 err (((((w.alloc (.cells #[.int .u16 h.age, .int .u8 h.opts, .int .u8 h.typ, .int .u32 h.id, .int .u32 h.adv, .int .i32 h.seq, .int .u16 h.sum, .int .u16 h.len] 25)).alloc (.cells #[.int .u8 B.flags, .slice a1 n1 q1, .int .u32 B.mask, .slice a3 n3 q3, .int .u32 B.metric, .bool B.type2, .int .u32 B.fwd, .int .u32 B.tag, .slice a8 n8 q8] 30)).alloc (.cells #[.int .u16 0, .int .u8 0, .int .u8 0, .int .u32 0, .int .u32 0, .int .i32 0, .int .u16 0, .int .u16 0, .slice none 0 0] 35)).alloc (.cells #[.int .u16 0, .int .u8 0, .int .u8 0, .int .u32 0, .int .u32 0, .int .i32 0, .int .u16 0, .int .u16 0, .slice none 0 0] 35)).alloc (.cells #[.int .i64 0] 36)) HH HBd (fun w' t => HW w' (TA.trans t))
  show Calls Tryz.prog 9 #[.agg #[.int .u16 h.age, .int .u8 h.opts, .int .u8 h.typ, .int .u32 h.id, .int .u32 h.adv, .int .i32 h.seq, .int .u16 h.sum, .int .u16 h.len], .agg #[.int .u8 B.flags, .slice a1 n1 q1, .int .u32 B.mask, .slice a3 n3 q3, .int .u32 B.metric, .bool B.type2, .int .u32 B.fwd, .int .u32 B.tag, .slice a8 n8 q8]] w _
  have HF := faceS_no 37 #[.pointer (some ⟨w.heap.size, 0, none⟩), .pointer (some ⟨w.heap.size + 1, 0, none⟩)] (fun _ => rfl) (((w.alloc (.cells #[.int .u16 h.age, .int .u8 h.opts, .int .u8 h.typ, .int .u32 h.id, .int .u32 h.adv, .int .i32 h.seq, .int .u16 h.sum, .int .u16 h.len] 25)).alloc (.cells #[.int .u8 B.flags, .slice a1 n1 q1, .int .u32 B.mask, .slice a3 n3 q3, .int .u32 B.metric, .bool B.type2, .int .u32 B.fwd, .int .u32 B.tag, .slice a8 n8 q8] 30)).alloc (.cells #[.int .u16 0, .int .u8 0, .int .u8 0, .int .u32 0, .int .u32 0, .int .i32 0, .int .u16 0, .int .u16 0, .slice none 0 0] 35)) err HC
  clear HC TA HH HBd HW
  go_enter Tryz.func9, Tryz.ntmps9
  go_wp2_with fail
  refine Calls.mono HF ?_
  rintro e w1 ⟨rfl, t1⟩
  skip
  have R1 : Hid (Room w1 (w.heap.size + 1 + 1) 9) := by
    have := (Room.new ((w.alloc (.cells #[.int .u16 h.age, .int .u8 h.opts, .int .u8 h.typ, .int .u32 h.id, .int .u32 h.adv, .int .i32 h.seq, .int .u16 h.sum, .int .u16 h.len] 25)).alloc (.cells #[.int .u8 B.flags, .slice a1 n1 q1, .int .u32 B.mask, .slice a3 n3 q3, .int .u32 B.metric, .bool B.type2, .int .u32 B.fwd, .int .u32 B.tag, .slice a8 n8 q8] 30)) #[.int .u16 0, .int .u8 0, .int .u8 0, .int .u32 0, .int .u32 0, .int .i32 0, .int .u16 0, .int .u16 0, .slice none 0 0] 35).keep t1
    show Room _ _ _
    simpa using this
  have HT : Hid (Touch (fun _ => False) w w1) := ((((Touch.refl _ w).alloc _).alloc _).alloc _).trans t1
  clear HF t1 hmf
  generalize hg : w.heap.size + 1 + 1 = g at *
  have HG : Hid (w.heap.size + 1 + 1 = g) := hg
  clear hg
  obtain ⟨zz0, zc0, zf0⟩ := R1.out 0 (by omega)
  obtain ⟨zz1, zc1, zf1⟩ := R1.out 1 (by omega)
  obtain ⟨zz2, zc2, zf2⟩ := R1.out 2 (by omega)
  obtain ⟨zz3, zc3, zf3⟩ := R1.out 3 (by omega)
  obtain ⟨zz4, zc4, zf4⟩ := R1.out 4 (by omega)
  obtain ⟨zz5, zc5, zf5⟩ := R1.out 5 (by omega)
  obtain ⟨zz6, zc6, zf6⟩ := R1.out 6 (by omega)
  obtain ⟨zz7, zc7, zf7⟩ := R1.out 7 (by omega)
  obtain ⟨zz8, zc8, zf8⟩ := R1.out 8 (by omega)
  obtain ⟨wz, hwz⟩ : ∃ wz, wz = (((((((((w1.setCell ⟨g, 0, none⟩ (.int .u16 0)).setCell ⟨g, 1, none⟩ (.int .u8 0)).setCell ⟨g, 2, none⟩ (.int .u8 0)).setCell ⟨g, 3, none⟩ (.int .u32 0)).setCell ⟨g, 4, none⟩ (.int .u32 0)).setCell ⟨g, 5, none⟩ (.int .i32 0)).setCell ⟨g, 6, none⟩ (.int .u16 0)).setCell ⟨g, 7, none⟩ (.int .u16 0)).setCell ⟨g, 8, none⟩ (.slice none 0 0)) := ⟨_, rfl⟩
  have zd0 : wz.cell? ⟨g, 0, none⟩ = some (.int .u16 0) := by rw [hwz]; simp [zc0, go_sem]
  have zd1 : wz.cell? ⟨g, 1, none⟩ = some (.int .u8 0) := by rw [hwz]; simp [zc1, go_sem]
  have zd2 : wz.cell? ⟨g, 2, none⟩ = some (.int .u8 0) := by rw [hwz]; simp [zc2, go_sem]
  have zd3 : wz.cell? ⟨g, 3, none⟩ = some (.int .u32 0) := by rw [hwz]; simp [zc3, go_sem]
  have zd4 : wz.cell? ⟨g, 4, none⟩ = some (.int .u32 0) := by rw [hwz]; simp [zc4, go_sem]
  have zd5 : wz.cell? ⟨g, 5, none⟩ = some (.int .i32 0) := by rw [hwz]; simp [zc5, go_sem]
  have zd6 : wz.cell? ⟨g, 6, none⟩ = some (.int .u16 0) := by rw [hwz]; simp [zc6, go_sem]
  have zd7 : wz.cell? ⟨g, 7, none⟩ = some (.int .u16 0) := by rw [hwz]; simp [zc7, go_sem]
  have zd8 : wz.cell? ⟨g, 8, none⟩ = some (.slice none 0 0) := by rw [hwz]; simp [zc8, go_sem]
  have HUz : Hid (Touch (fun k => k = g) w1 wz) := by show Touch _ _ _; rw [hwz]; refine Touch.setCell (F := fun k => k = g) (p := ⟨g, 8, none⟩) ?_ (Or.inl rfl) _; refine Touch.setCell (F := fun k => k = g) (p := ⟨g, 7, none⟩) ?_ (Or.inl rfl) _; refine Touch.setCell (F := fun k => k = g) (p := ⟨g, 6, none⟩) ?_ (Or.inl rfl) _; refine Touch.setCell (F := fun k => k = g) (p := ⟨g, 5, none⟩) ?_ (Or.inl rfl) _; refine Touch.setCell (F := fun k => k = g) (p := ⟨g, 4, none⟩) ?_ (Or.inl rfl) _; refine Touch.setCell (F := fun k => k = g) (p := ⟨g, 3, none⟩) ?_ (Or.inl rfl) _; refine Touch.setCell (F := fun k => k = g) (p := ⟨g, 2, none⟩) ?_ (Or.inl rfl) _; refine Touch.setCell (F := fun k => k = g) (p := ⟨g, 1, none⟩) ?_ (Or.inl rfl) _; refine Touch.setCell (F := fun k => k = g) (p := ⟨g, 0, none⟩) ?_ (Or.inl rfl) _; exact Touch.refl _ _
  have HWz : Hid (wz = (((((((((w1.setCell ⟨g, 0, none⟩ (.int .u16 0)).setCell ⟨g, 1, none⟩ (.int .u8 0)).setCell ⟨g, 2, none⟩ (.int .u8 0)).setCell ⟨g, 3, none⟩ (.int .u32 0)).setCell ⟨g, 4, none⟩ (.int .u32 0)).setCell ⟨g, 5, none⟩ (.int .i32 0)).setCell ⟨g, 6, none⟩ (.int .u16 0)).setCell ⟨g, 7, none⟩ (.int .u16 0)).setCell ⟨g, 8, none⟩ (.slice none 0 0))) := hwz
  clear hwz
  go_wp2_with fail
  rw [← HWz.out]
  clear HWz zc0 zf0 zc1 zf1 zc2 zf2 zc3 zf3 zc4 zf4 zc5 zf5 zc6 zf6 zc7 zf7 zc8 zf8
  refine bodyPost_ret (v := .tuple #[.agg #[.int .u16 0, .int .u8 0, .int .u8 0, .int .u32 0, .int .u32 0, .int .i32 0, .int .u16 0, .int .u16 0, .slice none 0 0], .int .i64 err]) (by simp [results, Tryz.results9, go_sem, zd0, zd1, zd2, zd3, zd4, zd5, zd6, zd7, zd8]) rfl ?_
  exact ⟨rfl, HT.out.trans' HUz.out (fun i hi e => by have := HG.out; omega)⟩
end Go.Proofs.YthdkihnmeoacaaaGreatDoor
