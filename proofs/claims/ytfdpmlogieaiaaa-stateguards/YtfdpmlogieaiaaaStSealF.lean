/- Contract: Seal where it answers. -/
import Derived.Test.YtfdpmlogieaiaaaStSeal
import Derived.Test.YtfdpmlogieaiaaaStBody
namespace Go.Proofs.Ytfdpmlogieaiaaa
open Go.RowKit
set_option linter.unusedVariables false
set_option maxRecDepth 100000

set_option maxHeartbeats 1000000 in
theorem seal1_ok (g : Nat) (h : HV) (ok : h.All) (v : Value) (l : List Int) (w : World) (hS : Sd w g h v) (hv : ArgAt w v l) (hby : ∀ z ∈ l, 0 ≤ z ∧ z < 256) (hl : l.length ≤ 65515) :
    Calls Try.prog 33 #[.pointer (some ⟨g, 0, none⟩)] w fun e w' => ∃ u, e = .returned ((sealH h l).sv u) ∧ Buf w w' u l := by
  obtain ⟨a, c, rfl, hm⟩ := hv.form
  have HSl := fun w' (t : Touch (fun _ => False) w w') => sealed_ok h ok (.slice a l.length c) l w' (hv.keepN t) hby hl
  have hgl := lt_of_cell hS.hd.c0
  obtain ⟨⟨s0, s1, s2, s3, s4, s5, s6, s7⟩, s8⟩ := hS.keep ((Touch.refl (fun _ => False) w).alloc (.cells #[.int .u16 0, .int .u8 0, .int .u8 0, .int .u32 0, .int .u32 0, .int .i32 0, .int .u16 0, .int .u16 0, .slice none 0 0] 34))
  have HSh : Hid (∀ w', Touch (fun _ => False) w w' → _) := HSl
  have HS1 := HSl _ ((Touch.refl (fun _ => False) w).alloc (.cells #[.int .u16 0, .int .u8 0, .int .u8 0, .int .u32 0, .int .u32 0, .int .i32 0, .int .u16 0, .int .u16 0, .slice none 0 0] 34))
  unfold HV.sv at HS1
  clear hS hv hby HSl HSh
  go_enter Try.func33, Try.ntmps33
  go_wp2_with fail
  refine Calls.mono HS1 ?_
  rintro e w1 ⟨u1, rfl, b1⟩
  obtain ⟨xa, xc, rfl⟩ := b1.form
  have R1 : Hid (Room w1 w.heap.size 9) := (Room.new w #[.int .u16 0, .int .u8 0, .int .u8 0, .int .u32 0, .int .u32 0, .int .i32 0, .int .u16 0, .int .u16 0, .slice none 0 0] 34).keep b1.t
  have T1 : Hid (Touch (fun _ => False) w w1) := ((Touch.refl _ w).alloc _).trans b1.t
  have B1 : Hid (w1.ownsRow (w.heap.size + 1) 5 1 (.slice xa l.length xc) l.length (bytesOf l)) := by show World.ownsRow _ _ _ _ _ _ _; have := b1.own; simpa using this
  clear b1 HS1 s0 s1 s2 s3 s4 s5 s6 s7 s8
  unfold sealH
  generalize hg : w.heap.size = gr at *
  have HG : Hid (w.heap.size = gr) := hg
  clear hg hgl
  obtain ⟨zz0, zc0, zf0⟩ := R1.out 0 (by omega)
  obtain ⟨zz1, zc1, zf1⟩ := R1.out 1 (by omega)
  obtain ⟨zz2, zc2, zf2⟩ := R1.out 2 (by omega)
  obtain ⟨zz3, zc3, zf3⟩ := R1.out 3 (by omega)
  obtain ⟨zz4, zc4, zf4⟩ := R1.out 4 (by omega)
  obtain ⟨zz5, zc5, zf5⟩ := R1.out 5 (by omega)
  obtain ⟨zz6, zc6, zf6⟩ := R1.out 6 (by omega)
  obtain ⟨zz7, zc7, zf7⟩ := R1.out 7 (by omega)
  obtain ⟨zz8, zc8, zf8⟩ := R1.out 8 (by omega)
  obtain ⟨wz, hwz⟩ : ∃ wz, wz = (((((((((w1.setCell ⟨gr, 0, none⟩ (.int .u16 h.age)).setCell ⟨gr, 1, none⟩ (.int .u8 h.opts)).setCell ⟨gr, 2, none⟩ (.int .u8 h.typ)).setCell ⟨gr, 3, none⟩ (.int .u32 h.id)).setCell ⟨gr, 4, none⟩ (.int .u32 h.adv)).setCell ⟨gr, 5, none⟩ (.int .i32 h.seq)).setCell ⟨gr, 6, none⟩ (.int .u16 (sealS h l))).setCell ⟨gr, 7, none⟩ (.int .u16 (20 + (l.length : Int)))).setCell ⟨gr, 8, none⟩ (.slice xa l.length xc)) := ⟨_, rfl⟩
  have zd0 : wz.cell? ⟨gr, 0, none⟩ = some (.int .u16 h.age) := by rw [hwz]; simp [zc0, go_sem]
  have zd1 : wz.cell? ⟨gr, 1, none⟩ = some (.int .u8 h.opts) := by rw [hwz]; simp [zc1, go_sem]
  have zd2 : wz.cell? ⟨gr, 2, none⟩ = some (.int .u8 h.typ) := by rw [hwz]; simp [zc2, go_sem]
  have zd3 : wz.cell? ⟨gr, 3, none⟩ = some (.int .u32 h.id) := by rw [hwz]; simp [zc3, go_sem]
  have zd4 : wz.cell? ⟨gr, 4, none⟩ = some (.int .u32 h.adv) := by rw [hwz]; simp [zc4, go_sem]
  have zd5 : wz.cell? ⟨gr, 5, none⟩ = some (.int .i32 h.seq) := by rw [hwz]; simp [zc5, go_sem]
  have zd6 : wz.cell? ⟨gr, 6, none⟩ = some (.int .u16 (sealS h l)) := by rw [hwz]; simp [zc6, go_sem]
  have zd7 : wz.cell? ⟨gr, 7, none⟩ = some (.int .u16 (20 + (l.length : Int))) := by rw [hwz]; simp [zc7, go_sem]
  have zd8 : wz.cell? ⟨gr, 8, none⟩ = some (.slice xa l.length xc) := by rw [hwz]; simp [zc8, go_sem]
  have HUz : Hid (Touch (fun k => k = gr) w1 wz) := by show Touch _ _ _; rw [hwz]; refine Touch.setCell (F := fun k => k = gr) (p := ⟨gr, 8, none⟩) ?_ (Or.inl rfl) _; refine Touch.setCell (F := fun k => k = gr) (p := ⟨gr, 7, none⟩) ?_ (Or.inl rfl) _; refine Touch.setCell (F := fun k => k = gr) (p := ⟨gr, 6, none⟩) ?_ (Or.inl rfl) _; refine Touch.setCell (F := fun k => k = gr) (p := ⟨gr, 5, none⟩) ?_ (Or.inl rfl) _; refine Touch.setCell (F := fun k => k = gr) (p := ⟨gr, 4, none⟩) ?_ (Or.inl rfl) _; refine Touch.setCell (F := fun k => k = gr) (p := ⟨gr, 3, none⟩) ?_ (Or.inl rfl) _; refine Touch.setCell (F := fun k => k = gr) (p := ⟨gr, 2, none⟩) ?_ (Or.inl rfl) _; refine Touch.setCell (F := fun k => k = gr) (p := ⟨gr, 1, none⟩) ?_ (Or.inl rfl) _; refine Touch.setCell (F := fun k => k = gr) (p := ⟨gr, 0, none⟩) ?_ (Or.inl rfl) _; exact Touch.refl _ _
  have HWz : Hid (wz = (((((((((w1.setCell ⟨gr, 0, none⟩ (.int .u16 h.age)).setCell ⟨gr, 1, none⟩ (.int .u8 h.opts)).setCell ⟨gr, 2, none⟩ (.int .u8 h.typ)).setCell ⟨gr, 3, none⟩ (.int .u32 h.id)).setCell ⟨gr, 4, none⟩ (.int .u32 h.adv)).setCell ⟨gr, 5, none⟩ (.int .i32 h.seq)).setCell ⟨gr, 6, none⟩ (.int .u16 (sealS h l))).setCell ⟨gr, 7, none⟩ (.int .u16 (20 + (l.length : Int)))).setCell ⟨gr, 8, none⟩ (.slice xa l.length xc))) := hwz
  clear hwz
  go_wp2_with fail
  rw [← HWz.out]
  clear HWz zc0 zf0 zc1 zf1 zc2 zf2 zc3 zf3 zc4 zf4 zc5 zf5 zc6 zf6 zc7 zf7 zc8 zf8
  refine bodyPost_ret (v := .agg #[.int .u16 h.age, .int .u8 h.opts, .int .u8 h.typ, .int .u32 h.id, .int .u32 h.adv, .int .i32 h.seq, .int .u16 (sealS h l), .int .u16 (20 + (l.length : Int)), .slice xa l.length xc]) (by simp [results, Try.results33, go_sem, zd0, zd1, zd2, zd3, zd4, zd5, zd6, zd7, zd8]) rfl ?_
  exact ⟨_, rfl, ⟨own_lower (own_touch B1.out HUz.out (fun k hk e => by have := (B1.out.lt k hk).1; omega)) (by have := HG.out; omega), T1.out.trans' HUz.out (fun i hi e => by have := HG.out; omega)⟩⟩
set_option maxHeartbeats 1000000 in
theorem seal_good (h : HV) (ok : h.All) (v : Value) (l : List Int) (w : World) (hv : ArgAt w v l) (hby : ∀ z ∈ l, 0 ≤ z ∧ z < 256) (hl : l.length ≤ 65515) :
    Calls Try.prog 12 #[h.sv v] w fun e w' => ∃ u, e = .returned (.tuple #[(sealH h l).sv u, .int .i64 0]) ∧ Buf w w' u l := by
  obtain ⟨a, c, rfl, hm⟩ := hv.form
  have hmf : ∀ (fn : Fn) (first cap : Array Value) (w : World), (Instr.makeFunc fn first cap).run Try.prog w = .ok (.func fn first cap) w := fun _ _ _ _ => rfl
  have HC := seal1_ok w.heap.size h ok (.slice a l.length c) l ((((w.alloc (.cells #[.int .u16 h.age, .int .u8 h.opts, .int .u8 h.typ, .int .u32 h.id, .int .u32 h.adv, .int .i32 h.seq, .int .u16 h.sum, .int .u16 h.len, .slice a l.length c] 34)).alloc (.cells #[.int .u16 0, .int .u8 0, .int .u8 0, .int .u32 0, .int .u32 0, .int .i32 0, .int .u16 0, .int .u16 0, .slice none 0 0] 34)).alloc (.cells #[.int .u16 0, .int .u8 0, .int .u8 0, .int .u32 0, .int .u32 0, .int .i32 0, .int .u16 0, .int .u16 0, .slice none 0 0] 34)).alloc (.cells #[.int .i64 0] 35)) ((Sd.new w h (.slice a l.length c) 34).keep ((((Touch.refl _ _).alloc _).alloc _).alloc _)) (hv.keepN (((((Touch.refl _ w).alloc _).alloc _).alloc _).alloc _)) hby hl
  have HF := faceS_ok 33 #[.pointer (some ⟨w.heap.size, 0, none⟩)] (fun _ => rfl) ((w.alloc (.cells #[.int .u16 h.age, .int .u8 h.opts, .int .u8 h.typ, .int .u32 h.id, .int .u32 h.adv, .int .i32 h.seq, .int .u16 h.sum, .int .u16 h.len, .slice a l.length c] 34)).alloc (.cells #[.int .u16 0, .int .u8 0, .int .u8 0, .int .u32 0, .int .u32 0, .int .i32 0, .int .u16 0, .int .u16 0, .slice none 0 0] 34)) h.age h.opts h.typ h.id h.adv h.seq (sealS h l) (20 + (l.length : Int)) (fun u w' => w'.ownsRow (w.heap.size + 4) 5 1 u l.length (bytesOf l)) (HC.mono (by
    rintro e w' ⟨u, rfl, b⟩
    obtain ⟨xa, xc, rfl⟩ := b.form
    exact ⟨xa, l.length, xc, rfl, b.t, by have := b.own; simpa using this⟩)) (by
    intro a n c w1 w2 hk _ t
    simp only [World.size_alloc] at t
    exact own_touch hk t (fun k hkk e => by have := (hk.lt k hkk).1; omega))
  clear HC hv hby
  show Calls Try.prog 12 #[.agg #[.int .u16 h.age, .int .u8 h.opts, .int .u8 h.typ, .int .u32 h.id, .int .u32 h.adv, .int .i32 h.seq, .int .u16 h.sum, .int .u16 h.len, .slice a l.length c]] w _
  go_enter Try.func12, Try.ntmps12
  go_wp2_with fail
  refine Calls.mono HF ?_
  rintro e w1 ⟨a', n', c', rfl, t1, hk⟩
  have HKK : Hid (w1.ownsRow (w.heap.size + 4) 5 1 (.slice a' n' c') l.length (bytesOf l)) := hk
  have R1 : Hid (Room w1 (w.heap.size + 1) 9) := by
    have := (Room.new (w.alloc (.cells #[.int .u16 h.age, .int .u8 h.opts, .int .u8 h.typ, .int .u32 h.id, .int .u32 h.adv, .int .i32 h.seq, .int .u16 h.sum, .int .u16 h.len, .slice a l.length c] 34)) #[.int .u16 0, .int .u8 0, .int .u8 0, .int .u32 0, .int .u32 0, .int .i32 0, .int .u16 0, .int .u16 0, .slice none 0 0] 34).keep t1
    show Room _ _ _
    simpa using this
  have HT : Hid (Touch (fun _ => False) w w1) := (((Touch.refl _ w).alloc _).alloc _).trans t1
  clear HF t1 hmf hk
  generalize hg : w.heap.size + 1 = g at *
  have HG : Hid (w.heap.size + 1 = g) := hg
  clear hg
  obtain ⟨zz0, zc0, zf0⟩ := R1.out 0 (by omega)
  obtain ⟨zz1, zc1, zf1⟩ := R1.out 1 (by omega)
  obtain ⟨zz2, zc2, zf2⟩ := R1.out 2 (by omega)
  obtain ⟨zz3, zc3, zf3⟩ := R1.out 3 (by omega)
  obtain ⟨zz4, zc4, zf4⟩ := R1.out 4 (by omega)
  obtain ⟨zz5, zc5, zf5⟩ := R1.out 5 (by omega)
  obtain ⟨zz6, zc6, zf6⟩ := R1.out 6 (by omega)
  obtain ⟨zz7, zc7, zf7⟩ := R1.out 7 (by omega)
  obtain ⟨zz8, zc8, zf8⟩ := R1.out 8 (by omega)
  obtain ⟨wz, hwz⟩ : ∃ wz, wz = (((((((((w1.setCell ⟨g, 0, none⟩ (.int .u16 h.age)).setCell ⟨g, 1, none⟩ (.int .u8 h.opts)).setCell ⟨g, 2, none⟩ (.int .u8 h.typ)).setCell ⟨g, 3, none⟩ (.int .u32 h.id)).setCell ⟨g, 4, none⟩ (.int .u32 h.adv)).setCell ⟨g, 5, none⟩ (.int .i32 h.seq)).setCell ⟨g, 6, none⟩ (.int .u16 (sealS h l))).setCell ⟨g, 7, none⟩ (.int .u16 (20 + (l.length : Int)))).setCell ⟨g, 8, none⟩ (.slice a' n' c')) := ⟨_, rfl⟩
  have zd0 : wz.cell? ⟨g, 0, none⟩ = some (.int .u16 h.age) := by rw [hwz]; simp [zc0, go_sem]
  have zd1 : wz.cell? ⟨g, 1, none⟩ = some (.int .u8 h.opts) := by rw [hwz]; simp [zc1, go_sem]
  have zd2 : wz.cell? ⟨g, 2, none⟩ = some (.int .u8 h.typ) := by rw [hwz]; simp [zc2, go_sem]
  have zd3 : wz.cell? ⟨g, 3, none⟩ = some (.int .u32 h.id) := by rw [hwz]; simp [zc3, go_sem]
  have zd4 : wz.cell? ⟨g, 4, none⟩ = some (.int .u32 h.adv) := by rw [hwz]; simp [zc4, go_sem]
  have zd5 : wz.cell? ⟨g, 5, none⟩ = some (.int .i32 h.seq) := by rw [hwz]; simp [zc5, go_sem]
  have zd6 : wz.cell? ⟨g, 6, none⟩ = some (.int .u16 (sealS h l)) := by rw [hwz]; simp [zc6, go_sem]
  have zd7 : wz.cell? ⟨g, 7, none⟩ = some (.int .u16 (20 + (l.length : Int))) := by rw [hwz]; simp [zc7, go_sem]
  have zd8 : wz.cell? ⟨g, 8, none⟩ = some (.slice a' n' c') := by rw [hwz]; simp [zc8, go_sem]
  have HUz : Hid (Touch (fun k => k = g) w1 wz) := by show Touch _ _ _; rw [hwz]; refine Touch.setCell (F := fun k => k = g) (p := ⟨g, 8, none⟩) ?_ (Or.inl rfl) _; refine Touch.setCell (F := fun k => k = g) (p := ⟨g, 7, none⟩) ?_ (Or.inl rfl) _; refine Touch.setCell (F := fun k => k = g) (p := ⟨g, 6, none⟩) ?_ (Or.inl rfl) _; refine Touch.setCell (F := fun k => k = g) (p := ⟨g, 5, none⟩) ?_ (Or.inl rfl) _; refine Touch.setCell (F := fun k => k = g) (p := ⟨g, 4, none⟩) ?_ (Or.inl rfl) _; refine Touch.setCell (F := fun k => k = g) (p := ⟨g, 3, none⟩) ?_ (Or.inl rfl) _; refine Touch.setCell (F := fun k => k = g) (p := ⟨g, 2, none⟩) ?_ (Or.inl rfl) _; refine Touch.setCell (F := fun k => k = g) (p := ⟨g, 1, none⟩) ?_ (Or.inl rfl) _; refine Touch.setCell (F := fun k => k = g) (p := ⟨g, 0, none⟩) ?_ (Or.inl rfl) _; exact Touch.refl _ _
  have HWz : Hid (wz = (((((((((w1.setCell ⟨g, 0, none⟩ (.int .u16 h.age)).setCell ⟨g, 1, none⟩ (.int .u8 h.opts)).setCell ⟨g, 2, none⟩ (.int .u8 h.typ)).setCell ⟨g, 3, none⟩ (.int .u32 h.id)).setCell ⟨g, 4, none⟩ (.int .u32 h.adv)).setCell ⟨g, 5, none⟩ (.int .i32 h.seq)).setCell ⟨g, 6, none⟩ (.int .u16 (sealS h l))).setCell ⟨g, 7, none⟩ (.int .u16 (20 + (l.length : Int)))).setCell ⟨g, 8, none⟩ (.slice a' n' c'))) := hwz
  clear hwz
  go_wp2_with fail
  rw [← HWz.out]
  clear HWz zc0 zf0 zc1 zf1 zc2 zf2 zc3 zf3 zc4 zf4 zc5 zf5 zc6 zf6 zc7 zf7 zc8 zf8
  refine bodyPost_ret (v := .tuple #[.agg #[.int .u16 h.age, .int .u8 h.opts, .int .u8 h.typ, .int .u32 h.id, .int .u32 h.adv, .int .i32 h.seq, .int .u16 (sealS h l), .int .u16 (20 + (l.length : Int)), .slice a' n' c'], .int .i64 0]) (by simp [results, Try.results12, go_sem, zd0, zd1, zd2, zd3, zd4, zd5, zd6, zd7, zd8]) rfl ?_
  exact ⟨_, rfl, ⟨own_lower (own_touch HKK.out HUz.out (fun k hk e => by have := (HKK.out.lt k hk).1; have := HG.out; omega)) (by omega), HT.out.trans' HUz.out (fun i hi e => by have := HG.out; omega)⟩⟩
end Go.Proofs.Ytfdpmlogieaiaaa
