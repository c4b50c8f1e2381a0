/- Contract: Encode's inner function. -/
import Derived.Test.YtlomgnhbkmomdabStRead1
import Derived.Test.YtlomgnhbkmomdabStWrite
import Derived.Deep.RegionHeld2
namespace Go.Proofs.Ytlomgnhbkmomdab
open Go.RowKit
set_option linter.unusedVariables false
set_option maxRecDepth 100000

structure Never : Prop where
  out : False
theorem Calls.never {P : Program} {f : FuncId} {args : Array Value} {w : World} {c : List PanicEntry} {R : World → Prop} (v : Value) (h : Calls P f args w fun e w' => e = .panicked c ∧ R w') :
    Calls P f args w fun e w' => (e = .panicked c ∧ R w') ∨ (Never ∧ e = .returned v) := h.mono (fun _ _ h => Or.inl h)
theorem keep17 {w w' : World} (t : Touch (fun _ => False) w w') {p0 : Addr} {p1 : Addr} {p2 : Addr} {p3 : Addr} {p4 : Addr} {p5 : Addr} {p6 : Addr} {p7 : Addr} {p8 : Addr} {p9 : Addr} {p10 : Addr} {p11 : Addr} {p12 : Addr} {p13 : Addr} {p14 : Addr} {p15 : Addr} {p16 : Addr} {x0 : Value} {x1 : Value} {x2 : Value} {x3 : Value} {x4 : Value} {x5 : Value} {x6 : Value} {x7 : Value} {x8 : Value} {x9 : Value} {x10 : Value} {x11 : Value} {x12 : Value} {x13 : Value} {x14 : Value} {x15 : Value} {x16 : Value} (h : w.cell? p0 = some x0 ∧ w.cell? p1 = some x1 ∧ w.cell? p2 = some x2 ∧ w.cell? p3 = some x3 ∧ w.cell? p4 = some x4 ∧ w.cell? p5 = some x5 ∧ w.cell? p6 = some x6 ∧ w.cell? p7 = some x7 ∧ w.cell? p8 = some x8 ∧ w.cell? p9 = some x9 ∧ w.cell? p10 = some x10 ∧ w.cell? p11 = some x11 ∧ w.cell? p12 = some x12 ∧ w.cell? p13 = some x13 ∧ w.cell? p14 = some x14 ∧ w.cell? p15 = some x15 ∧ w.cell? p16 = some x16) : w'.cell? p0 = some x0 ∧ w'.cell? p1 = some x1 ∧ w'.cell? p2 = some x2 ∧ w'.cell? p3 = some x3 ∧ w'.cell? p4 = some x4 ∧ w'.cell? p5 = some x5 ∧ w'.cell? p6 = some x6 ∧ w'.cell? p7 = some x7 ∧ w'.cell? p8 = some x8 ∧ w'.cell? p9 = some x9 ∧ w'.cell? p10 = some x10 ∧ w'.cell? p11 = some x11 ∧ w'.cell? p12 = some x12 ∧ w'.cell? p13 = some x13 ∧ w'.cell? p14 = some x14 ∧ w'.cell? p15 = some x15 ∧ w'.cell? p16 = some x16 := by
  obtain ⟨c0, c1, c2, c3, c4, c5, c6, c7, c8, c9, c10, c11, c12, c13, c14, c15, c16⟩ := h
  exact ⟨t.cellN c0, t.cellN c1, t.cellN c2, t.cellN c3, t.cellN c4, t.cellN c5, t.cellN c6, t.cellN c7, t.cellN c8, t.cellN c9, t.cellN c10, t.cellN c11, t.cellN c12, t.cellN c13, t.cellN c14, t.cellN c15, t.cellN c16⟩
set_option maxHeartbeats 4000000 in
theorem enc1_ok (g1 g2 : Nat) (h : HV) (ok : h.All) (B : BV) (a1 a3 a8 : Option Addr) (n1 q1 n3 q3 n8 q8 : Nat) (l : List Int) (w : World) (hH : Hd w g1 h) (hB : Bd w g2 B (.slice a1 n1 q1) (.slice a3 n3 q3) (.slice a8 n8 q8))
    (hby : ∀ z ∈ l, 0 ≤ z ∧ z < 256) (hl : l.length ≤ 65515)
    (HW : ∀ w', Touch (fun _ => False) w w' → Calls Try.prog 26 #[.int .u8 h.typ, .agg #[.int .u8 B.flags, .slice a1 n1 q1, .int .u32 B.mask, .slice a3 n3 q3, .int .u32 B.metric, .bool B.type2, .int .u32 B.fwd, .int .u32 B.tag, .slice a8 n8 q8]] w' fun e w'' => ∃ u, e = .returned u ∧ Buf w' w'' u l) :
    Calls Try.prog 24 #[.pointer (some ⟨g1, 0, none⟩), .pointer (some ⟨g2, 0, none⟩)] w fun e w' => ∃ u, e = .returned ((sealH h l).sv u) ∧ Buf w w' u l := by
  have OK : Hid h.All := ok
  have HBy : Hid (∀ z ∈ l, 0 ≤ z ∧ z < 256) := hby
  have HWr : Hid (∀ w', Touch (fun _ => False) w w' → Calls Try.prog 26 #[.int .u8 h.typ, .agg #[.int .u8 B.flags, .slice a1 n1 q1, .int .u32 B.mask, .slice a3 n3 q3, .int .u32 B.metric, .bool B.type2, .int .u32 B.fwd, .int .u32 B.tag, .slice a8 n8 q8]] w' fun e w'' => ∃ u, e = .returned u ∧ Buf w' w'' u l) := HW
  have hg1 := lt_of_cell hH.c0
  have hg2 := lt_of_cell hB.c0
  clear ok hby HW
  go_enter Try.func24, Try.ntmps24
  go_upto_region 1 with fail
  have T1 : Hid (Touch (fun _ => False) w (w.alloc (.cells #[.int .u16 0, .int .u8 0, .int .u8 0, .int .u32 0, .int .u32 0, .int .i32 0, .int .u16 0, .int .u16 0, .slice none 0 0] 29)).drew) := ((Touch.refl _ w).alloc _).drew
  have R1 : Hid (Room (w.alloc (.cells #[.int .u16 0, .int .u8 0, .int .u8 0, .int .u32 0, .int .u32 0, .int .i32 0, .int .u16 0, .int .u16 0, .slice none 0 0] 29)).drew w.heap.size 9) := (Room.new w #[.int .u16 0, .int .u8 0, .int .u8 0, .int .u32 0, .int .u32 0, .int .i32 0, .int .u16 0, .int .u16 0, .slice none 0 0] 29).keep ((Touch.refl _ _).drew)
  obtain ⟨e0, e1, e2, e3, e4, e5, e6, e7⟩ := hH.keep T1.out
  obtain ⟨e8, e9, e10, e11, e12, e13, e14, e15, e16⟩ := hB.keep T1.out
  have hr1 : g1 ≠ w.heap.size := by omega
  have hr2 : g2 ≠ w.heap.size := by omega
  have HSZ : Hid (w.heap.size < (w.alloc (.cells #[.int .u16 0, .int .u8 0, .int .u8 0, .int .u32 0, .int .u32 0, .int .i32 0, .int .u16 0, .int .u16 0, .slice none 0 0] 29)).heap.size) := by show _ < _; simp
  clear hH hB
  generalize (w.alloc (.cells #[.int .u16 0, .int .u8 0, .int .u8 0, .int .u32 0, .int .u32 0, .int .i32 0, .int .u16 0, .int .u16 0, .slice none 0 0] 29)) = w1 at *
  generalize hG : w.heap.size = gr at *
  have HG : Hid (w.heap.size = gr) := hG
  clear hG hg1 hg2
  go_region_held2 (fun w' => w'.cell? ⟨g1, 0, none⟩ = some (.int .u16 h.age) ∧ w'.cell? ⟨g1, 1, none⟩ = some (.int .u8 h.opts) ∧ w'.cell? ⟨g1, 2, none⟩ = some (.int .u8 h.typ) ∧ w'.cell? ⟨g1, 3, none⟩ = some (.int .u32 h.id) ∧ w'.cell? ⟨g1, 4, none⟩ = some (.int .u32 h.adv) ∧ w'.cell? ⟨g1, 5, none⟩ = some (.int .i32 h.seq) ∧ w'.cell? ⟨g1, 6, none⟩ = some (.int .u16 h.sum) ∧ w'.cell? ⟨g1, 7, none⟩ = some (.int .u16 h.len) ∧ w'.cell? ⟨g2, 0, none⟩ = some (.int .u8 B.flags) ∧ w'.cell? ⟨g2, 1, none⟩ = some (.slice a1 n1 q1) ∧ w'.cell? ⟨g2, 2, none⟩ = some (.int .u32 B.mask) ∧ w'.cell? ⟨g2, 3, none⟩ = some (.slice a3 n3 q3) ∧ w'.cell? ⟨g2, 4, none⟩ = some (.int .u32 B.metric) ∧ w'.cell? ⟨g2, 5, none⟩ = some (.bool B.type2) ∧ w'.cell? ⟨g2, 6, none⟩ = some (.int .u32 B.fwd) ∧ w'.cell? ⟨g2, 7, none⟩ = some (.int .u32 B.tag) ∧ w'.cell? ⟨g2, 8, none⟩ = some (.slice a8 n8 q8)) (first | with_reducible exact ⟨e0, e1, e2, e3, e4, e5, e6, e7, e8, e9, e10, e11, e12, e13, e14, e15, e16⟩ | with_reducible exact ⟨u0, u1, u2, u3, u4, u5, u6, u7, u8, u9, u10, u11, u12, u13, u14, u15, u16⟩ | with_reducible exact ⟨v0, v1, v2, v3, v4, v5, v6, v7, v8, v9, v10, v11, v12, v13, v14, v15, v16⟩ | with_reducible exact ⟨(cell_far9 hr1 0 _ _ _ _ _ _ _ _ _).trans v0, (cell_far9 hr1 1 _ _ _ _ _ _ _ _ _).trans v1, (cell_far9 hr1 2 _ _ _ _ _ _ _ _ _).trans v2, (cell_far9 hr1 3 _ _ _ _ _ _ _ _ _).trans v3, (cell_far9 hr1 4 _ _ _ _ _ _ _ _ _).trans v4, (cell_far9 hr1 5 _ _ _ _ _ _ _ _ _).trans v5, (cell_far9 hr1 6 _ _ _ _ _ _ _ _ _).trans v6, (cell_far9 hr1 7 _ _ _ _ _ _ _ _ _).trans v7, (cell_far9 hr2 0 _ _ _ _ _ _ _ _ _).trans v8, (cell_far9 hr2 1 _ _ _ _ _ _ _ _ _).trans v9, (cell_far9 hr2 2 _ _ _ _ _ _ _ _ _).trans v10, (cell_far9 hr2 3 _ _ _ _ _ _ _ _ _).trans v11, (cell_far9 hr2 4 _ _ _ _ _ _ _ _ _).trans v12, (cell_far9 hr2 5 _ _ _ _ _ _ _ _ _).trans v13, (cell_far9 hr2 6 _ _ _ _ _ _ _ _ _).trans v14, (cell_far9 hr2 7 _ _ _ _ _ _ _ _ _).trans v15, (cell_far9 hr2 8 _ _ _ _ _ _ _ _ _).trans v16⟩) (first
    | (go_at_call 26; refine Calls.mono (HWr.out _ T1.out) ?_; rintro e w4 ⟨u4, rfl, b4⟩; obtain ⟨va4, vc4, rfl⟩ := b4.form; obtain ⟨u0, u1, u2, u3, u4, u5, u6, u7, u8, u9, u10, u11, u12, u13, u14, u15, u16⟩ := keep17 b4.t ⟨e0, e1, e2, e3, e4, e5, e6, e7, e8, e9, e10, e11, e12, e13, e14, e15, e16⟩; have B4 : Hid (Buf w1.drew w4 (.slice va4 l.length vc4) l) := b4; clear b4)
    | (go_at_call 25; refine Calls.mono (sealed_ok h OK.out _ l _ B4.out.arg HBy.out hl) ?_; rintro e w5 ⟨u5, rfl, b5⟩; obtain ⟨xa, xc, rfl⟩ := b5.form; obtain ⟨v0, v1, v2, v3, v4, v5, v6, v7, v8, v9, v10, v11, v12, v13, v14, v15, v16⟩ := keep17 b5.t ⟨u0, u1, u2, u3, u4, u5, u6, u7, u8, u9, u10, u11, u12, u13, u14, u15, u16⟩; have R5 := (R1.out.keep B4.out.t).keep b5.t; have B5 : Hid (Buf w1.drew w5 (.slice xa l.length xc) l) := b5.back B4.out.t; clear b5; obtain ⟨zz0, zc0, zf0⟩ := R5 0 (by omega); obtain ⟨zz1, zc1, zf1⟩ := R5 1 (by omega); obtain ⟨zz2, zc2, zf2⟩ := R5 2 (by omega); obtain ⟨zz3, zc3, zf3⟩ := R5 3 (by omega); obtain ⟨zz4, zc4, zf4⟩ := R5 4 (by omega); obtain ⟨zz5, zc5, zf5⟩ := R5 5 (by omega); obtain ⟨zz6, zc6, zf6⟩ := R5 6 (by omega); obtain ⟨zz7, zc7, zf7⟩ := R5 7 (by omega); obtain ⟨zz8, zc8, zf8⟩ := R5 8 (by omega); clear R5; unfold HV.sv sealH))
  clear e0 e1 e2 e3 e4 e5 e6 e7 e8 e9 e10 e11 e12 e13 e14 e15 e16 u0 u1 u2 u3 u4 u5 u6 u7 u8 u9 u10 u11 u12 u13 u14 u15 u16 v0 v1 v2 v3 v4 v5 v6 v7 v8 v9 v10 v11 v12 v13 v14 v15 v16
  obtain ⟨wz, hwz⟩ : ∃ wz, wz = (((((((((w5.setCell ⟨gr, 0, none⟩ (.int .u16 h.age)).setCell ⟨gr, 1, none⟩ (.int .u8 h.opts)).setCell ⟨gr, 2, none⟩ (.int .u8 h.typ)).setCell ⟨gr, 3, none⟩ (.int .u32 h.id)).setCell ⟨gr, 4, none⟩ (.int .u32 h.adv)).setCell ⟨gr, 5, none⟩ (.int .i32 h.seq)).setCell ⟨gr, 6, none⟩ (.int .u16 (sealS h l))).setCell ⟨gr, 7, none⟩ (.int .u16 (20 + (l.length : Int)))).setCell ⟨gr, 8, none⟩ (.slice xa l.length xc)) := ⟨_, rfl⟩
  have zd0 : wz.cell? ⟨gr, 0, none⟩ = some (.int .u16 h.age) := by rw [hwz]; simp [zc0, go_sem]
  have zd1 : wz.cell? ⟨gr, 1, none⟩ = some (.int .u8 h.opts) := by rw [hwz]; simp [zc1, go_sem]
  have zd2 : wz.cell? ⟨gr, 2, none⟩ = some (.int .u8 h.typ) := by rw [hwz]; simp [zc2, go_sem]
  have zd3 : wz.cell? ⟨gr, 3, none⟩ = some (.int .u32 h.id) := by rw [hwz]; simp [zc3, go_sem]
  have zd4 : wz.cell? ⟨gr, 4, none⟩ = some (.int .u32 h.adv) := by rw [hwz]; simp [zc4, go_sem]
  have zd5 : wz.cell? ⟨gr, 5, none⟩ = some (.int .i32 h.seq) := by rw [hwz]; simp [zc5, go_sem]
  have zd6 : wz.cell? ⟨gr, 6, none⟩ = some (.int .u16 (sealS h l)) := by rw [hwz]; simp [zc6, go_sem]
  have zd7 : wz.cell? ⟨gr, 7, none⟩ = some (.int .u16 (20 + (l.length : Int))) := by rw [hwz]; simp [zc7, go_sem]
  have zd8 : wz.cell? ⟨gr, 8, none⟩ = some (.slice xa l.length xc) := by rw [hwz]; simp [zc8, go_sem]
  have HUz : Hid (Touch (fun k => k = gr) w5 wz) := by show Touch _ _ _; rw [hwz]; refine Touch.setCell (F := fun k => k = gr) (p := ⟨gr, 8, none⟩) ?_ (Or.inl rfl) _; refine Touch.setCell (F := fun k => k = gr) (p := ⟨gr, 7, none⟩) ?_ (Or.inl rfl) _; refine Touch.setCell (F := fun k => k = gr) (p := ⟨gr, 6, none⟩) ?_ (Or.inl rfl) _; refine Touch.setCell (F := fun k => k = gr) (p := ⟨gr, 5, none⟩) ?_ (Or.inl rfl) _; refine Touch.setCell (F := fun k => k = gr) (p := ⟨gr, 4, none⟩) ?_ (Or.inl rfl) _; refine Touch.setCell (F := fun k => k = gr) (p := ⟨gr, 3, none⟩) ?_ (Or.inl rfl) _; refine Touch.setCell (F := fun k => k = gr) (p := ⟨gr, 2, none⟩) ?_ (Or.inl rfl) _; refine Touch.setCell (F := fun k => k = gr) (p := ⟨gr, 1, none⟩) ?_ (Or.inl rfl) _; refine Touch.setCell (F := fun k => k = gr) (p := ⟨gr, 0, none⟩) ?_ (Or.inl rfl) _; exact Touch.refl _ _
  rw [← hwz]
  clear hwz zc0 zf0 zc1 zf1 zc2 zf2 zc3 zf3 zc4 zf4 zc5 zf5 zc6 zf6 zc7 zf7 zc8 zf8
  go_wp2_with fail
  refine bodyPost_ret (v := .agg #[.int .u16 h.age, .int .u8 h.opts, .int .u8 h.typ, .int .u32 h.id, .int .u32 h.adv, .int .i32 h.seq, .int .u16 (sealS h l), .int .u16 (20 + (l.length : Int)), .slice xa l.length xc]) (by simp [results, Try.results24, go_sem, zd0, zd1, zd2, zd3, zd4, zd5, zd6, zd7, zd8]) rfl ?_
  refine ⟨_, rfl, ⟨own_lower (own_touch B5.out.own HUz.out (fun k hk e => by have h1 := (B5.out.own.lt k hk).1; have h2 : w1.drew.heap.size = w1.heap.size := rfl; have h3 := HSZ.out; omega)) (by have h2 : w1.drew.heap.size = w1.heap.size := rfl; have h3 := HSZ.out; have := HG.out; omega), (T1.out.trans B5.out.t).trans' HUz.out (fun i hi e => by have := HG.out; omega)⟩⟩

set_option maxHeartbeats 4000000 in
theorem enc1_no (g1 g2 : Nat) (h : HV) (B : BV) (a1 a3 a8 : Option Addr) (n1 q1 n3 q3 n8 q8 : Nat) (err : Int) (w : World) (hH : Hd w g1 h) (hB : Bd w g2 B (.slice a1 n1 q1) (.slice a3 n3 q3) (.slice a8 n8 q8))
    (HW : ∀ w', Touch (fun _ => False) w w' → Calls Try.prog 26 #[.int .u8 h.typ, .agg #[.int .u8 B.flags, .slice a1 n1 q1, .int .u32 B.mask, .slice a3 n3 q3, .int .u32 B.metric, .bool B.type2, .int .u32 B.fwd, .int .u32 B.tag, .slice a8 n8 q8]] w' fun e w'' => e = .panicked (flawC err) ∧ Touch (fun _ => False) w' w'') :
    Calls Try.prog 24 #[.pointer (some ⟨g1, 0, none⟩), .pointer (some ⟨g2, 0, none⟩)] w fun e w' => e = .panicked (flawC err) ∧ Touch (fun _ => False) w w' := by
  have HWr : Hid (∀ w', Touch (fun _ => False) w w' → Calls Try.prog 26 #[.int .u8 h.typ, .agg #[.int .u8 B.flags, .slice a1 n1 q1, .int .u32 B.mask, .slice a3 n3 q3, .int .u32 B.metric, .bool B.type2, .int .u32 B.fwd, .int .u32 B.tag, .slice a8 n8 q8]] w' fun e w'' => e = .panicked (flawC err) ∧ Touch (fun _ => False) w' w'') := HW
  have hg1 := lt_of_cell hH.c0
  have hg2 := lt_of_cell hB.c0
  clear HW
  go_enter Try.func24, Try.ntmps24
  go_upto_region 1 with fail
  have T1 : Hid (Touch (fun _ => False) w (w.alloc (.cells #[.int .u16 0, .int .u8 0, .int .u8 0, .int .u32 0, .int .u32 0, .int .i32 0, .int .u16 0, .int .u16 0, .slice none 0 0] 29)).drew) := ((Touch.refl _ w).alloc _).drew
  obtain ⟨e0, e1, e2, e3, e4, e5, e6, e7⟩ := hH.keep T1.out
  obtain ⟨e8, e9, e10, e11, e12, e13, e14, e15, e16⟩ := hB.keep T1.out
  have hr1 : g1 ≠ w.heap.size := by omega
  have hr2 : g2 ≠ w.heap.size := by omega
  clear hH hB hg1 hg2
  generalize (w.alloc (.cells #[.int .u16 0, .int .u8 0, .int .u8 0, .int .u32 0, .int .u32 0, .int .i32 0, .int .u16 0, .int .u16 0, .slice none 0 0] 29)) = w1 at *
  generalize hG : w.heap.size = gr at *
  clear hG
  go_region_held2 (fun w' => w'.cell? ⟨g1, 0, none⟩ = some (.int .u16 h.age) ∧ w'.cell? ⟨g1, 1, none⟩ = some (.int .u8 h.opts) ∧ w'.cell? ⟨g1, 2, none⟩ = some (.int .u8 h.typ) ∧ w'.cell? ⟨g1, 3, none⟩ = some (.int .u32 h.id) ∧ w'.cell? ⟨g1, 4, none⟩ = some (.int .u32 h.adv) ∧ w'.cell? ⟨g1, 5, none⟩ = some (.int .i32 h.seq) ∧ w'.cell? ⟨g1, 6, none⟩ = some (.int .u16 h.sum) ∧ w'.cell? ⟨g1, 7, none⟩ = some (.int .u16 h.len) ∧ w'.cell? ⟨g2, 0, none⟩ = some (.int .u8 B.flags) ∧ w'.cell? ⟨g2, 1, none⟩ = some (.slice a1 n1 q1) ∧ w'.cell? ⟨g2, 2, none⟩ = some (.int .u32 B.mask) ∧ w'.cell? ⟨g2, 3, none⟩ = some (.slice a3 n3 q3) ∧ w'.cell? ⟨g2, 4, none⟩ = some (.int .u32 B.metric) ∧ w'.cell? ⟨g2, 5, none⟩ = some (.bool B.type2) ∧ w'.cell? ⟨g2, 6, none⟩ = some (.int .u32 B.fwd) ∧ w'.cell? ⟨g2, 7, none⟩ = some (.int .u32 B.tag) ∧ w'.cell? ⟨g2, 8, none⟩ = some (.slice a8 n8 q8)) (first | with_reducible exact ⟨e0, e1, e2, e3, e4, e5, e6, e7, e8, e9, e10, e11, e12, e13, e14, e15, e16⟩ | with_reducible exact ⟨v0, v1, v2, v3, v4, v5, v6, v7, v8, v9, v10, v11, v12, v13, v14, v15, v16⟩ | with_reducible exact ⟨(cell_far9 hr1 0 _ _ _ _ _ _ _ _ _).trans v0, (cell_far9 hr1 1 _ _ _ _ _ _ _ _ _).trans v1, (cell_far9 hr1 2 _ _ _ _ _ _ _ _ _).trans v2, (cell_far9 hr1 3 _ _ _ _ _ _ _ _ _).trans v3, (cell_far9 hr1 4 _ _ _ _ _ _ _ _ _).trans v4, (cell_far9 hr1 5 _ _ _ _ _ _ _ _ _).trans v5, (cell_far9 hr1 6 _ _ _ _ _ _ _ _ _).trans v6, (cell_far9 hr1 7 _ _ _ _ _ _ _ _ _).trans v7, (cell_far9 hr2 0 _ _ _ _ _ _ _ _ _).trans v8, (cell_far9 hr2 1 _ _ _ _ _ _ _ _ _).trans v9, (cell_far9 hr2 2 _ _ _ _ _ _ _ _ _).trans v10, (cell_far9 hr2 3 _ _ _ _ _ _ _ _ _).trans v11, (cell_far9 hr2 4 _ _ _ _ _ _ _ _ _).trans v12, (cell_far9 hr2 5 _ _ _ _ _ _ _ _ _).trans v13, (cell_far9 hr2 6 _ _ _ _ _ _ _ _ _).trans v14, (cell_far9 hr2 7 _ _ _ _ _ _ _ _ _).trans v15, (cell_far9 hr2 8 _ _ _ _ _ _ _ _ _).trans v16⟩) (first
    | (go_at_call 26; refine Calls.mono (Calls.never (.slice none 0 0) (HWr.out _ T1.out)) ?_; rintro e w4 (⟨rfl, t4⟩ | ⟨HF, rfl⟩); exact ⟨rfl, rfl, T1.out.trans t4⟩; obtain ⟨v0, v1, v2, v3, v4, v5, v6, v7, v8, v9, v10, v11, v12, v13, v14, v15, v16⟩ : w4.cell? ⟨g1, 0, none⟩ = some (.int .u16 h.age) ∧ w4.cell? ⟨g1, 1, none⟩ = some (.int .u8 h.opts) ∧ w4.cell? ⟨g1, 2, none⟩ = some (.int .u8 h.typ) ∧ w4.cell? ⟨g1, 3, none⟩ = some (.int .u32 h.id) ∧ w4.cell? ⟨g1, 4, none⟩ = some (.int .u32 h.adv) ∧ w4.cell? ⟨g1, 5, none⟩ = some (.int .i32 h.seq) ∧ w4.cell? ⟨g1, 6, none⟩ = some (.int .u16 h.sum) ∧ w4.cell? ⟨g1, 7, none⟩ = some (.int .u16 h.len) ∧ w4.cell? ⟨g2, 0, none⟩ = some (.int .u8 B.flags) ∧ w4.cell? ⟨g2, 1, none⟩ = some (.slice a1 n1 q1) ∧ w4.cell? ⟨g2, 2, none⟩ = some (.int .u32 B.mask) ∧ w4.cell? ⟨g2, 3, none⟩ = some (.slice a3 n3 q3) ∧ w4.cell? ⟨g2, 4, none⟩ = some (.int .u32 B.metric) ∧ w4.cell? ⟨g2, 5, none⟩ = some (.bool B.type2) ∧ w4.cell? ⟨g2, 6, none⟩ = some (.int .u32 B.fwd) ∧ w4.cell? ⟨g2, 7, none⟩ = some (.int .u32 B.tag) ∧ w4.cell? ⟨g2, 8, none⟩ = some (.slice a8 n8 q8) := HF.out.elim; obtain ⟨zc0, zf0, zc1, zf1, zc2, zf2, zc3, zf3, zc4, zf4, zc5, zf5, zc6, zf6, zc7, zf7, zc8, zf8⟩ : w4.cell? ⟨gr, 0, none⟩ = some .nilFunc ∧ w4.frozen? ⟨gr, 0, none⟩ = false ∧ w4.cell? ⟨gr, 1, none⟩ = some .nilFunc ∧ w4.frozen? ⟨gr, 1, none⟩ = false ∧ w4.cell? ⟨gr, 2, none⟩ = some .nilFunc ∧ w4.frozen? ⟨gr, 2, none⟩ = false ∧ w4.cell? ⟨gr, 3, none⟩ = some .nilFunc ∧ w4.frozen? ⟨gr, 3, none⟩ = false ∧ w4.cell? ⟨gr, 4, none⟩ = some .nilFunc ∧ w4.frozen? ⟨gr, 4, none⟩ = false ∧ w4.cell? ⟨gr, 5, none⟩ = some .nilFunc ∧ w4.frozen? ⟨gr, 5, none⟩ = false ∧ w4.cell? ⟨gr, 6, none⟩ = some .nilFunc ∧ w4.frozen? ⟨gr, 6, none⟩ = false ∧ w4.cell? ⟨gr, 7, none⟩ = some .nilFunc ∧ w4.frozen? ⟨gr, 7, none⟩ = false ∧ w4.cell? ⟨gr, 8, none⟩ = some .nilFunc ∧ w4.frozen? ⟨gr, 8, none⟩ = false := HF.out.elim)
    | (go_at_call 25; refine Calls.mono (HF.out.elim : Calls Try.prog 25 #[_] w4 fun e w' => e = .returned (.agg #[.int .u16 0, .int .u8 0, .int .u8 0, .int .u32 0, .int .u32 0, .int .i32 0, .int .u16 0, .int .u16 0, .slice none 0 0]) ∧ w4 = w') ?_; rintro e w5 ⟨rfl, rfl⟩))
  exact HF.out.elim
end Go.Proofs.Ytlomgnhbkmomdab

namespace Go.Proofs.Ytlomgnhbkmomdab
open Go.RowKit
set_option linter.unusedVariables false
set_option maxRecDepth 100000

set_option maxHeartbeats 1000000 in
theorem encode_ok (h : HV) (ok : h.All) (B : BV) (a1 a3 a8 : Option Addr) (n1 q1 n3 q3 n8 q8 : Nat) (l : List Int) (w : World) (hby : ∀ z ∈ l, 0 ≤ z ∧ z < 256) (hl : l.length ≤ 65515)
    (HW : ∀ w', Touch (fun _ => False) w w' → Calls Try.prog 26 #[.int .u8 h.typ, .agg #[.int .u8 B.flags, .slice a1 n1 q1, .int .u32 B.mask, .slice a3 n3 q3, .int .u32 B.metric, .bool B.type2, .int .u32 B.fwd, .int .u32 B.tag, .slice a8 n8 q8]] w' fun e w'' => ∃ u, e = .returned u ∧ Buf w' w'' u l) :
    Calls Try.prog 10 #[h.v, .agg #[.int .u8 B.flags, .slice a1 n1 q1, .int .u32 B.mask, .slice a3 n3 q3, .int .u32 B.metric, .bool B.type2, .int .u32 B.fwd, .int .u32 B.tag, .slice a8 n8 q8]] w fun e w' => ∃ u, e = .returned (.tuple #[(sealH h l).sv u, .int .i64 0]) ∧ Buf w w' u l := by
  have hmf : ∀ (fn : Fn) (first cap : Array Value) (w : World), (Instr.makeFunc fn first cap).run Try.prog w = .ok (.func fn first cap) w := fun _ _ _ _ => rfl
  have TA : Touch (fun _ => False) w (((((w.alloc (.cells #[.int .u16 h.age, .int .u8 h.opts, .int .u8 h.typ, .int .u32 h.id, .int .u32 h.adv, .int .i32 h.seq, .int .u16 h.sum, .int .u16 h.len] 26)).alloc (.cells #[.int .u8 B.flags, .slice a1 n1 q1, .int .u32 B.mask, .slice a3 n3 q3, .int .u32 B.metric, .bool B.type2, .int .u32 B.fwd, .int .u32 B.tag, .slice a8 n8 q8] 44)).alloc (.cells #[.int .u16 0, .int .u8 0, .int .u8 0, .int .u32 0, .int .u32 0, .int .i32 0, .int .u16 0, .int .u16 0, .slice none 0 0] 29)).alloc (.cells #[.int .u16 0, .int .u8 0, .int .u8 0, .int .u32 0, .int .u32 0, .int .i32 0, .int .u16 0, .int .u16 0, .slice none 0 0] 29)).alloc (.cells #[.int .i64 0] 33)) := ((((((Touch.refl _ w).alloc _).alloc _).alloc _).alloc _).alloc _)
  have HH : Hd (((((w.alloc (.cells #[.int .u16 h.age, .int .u8 h.opts, .int .u8 h.typ, .int .u32 h.id, .int .u32 h.adv, .int .i32 h.seq, .int .u16 h.sum, .int .u16 h.len] 26)).alloc (.cells #[.int .u8 B.flags, .slice a1 n1 q1, .int .u32 B.mask, .slice a3 n3 q3, .int .u32 B.metric, .bool B.type2, .int .u32 B.fwd, .int .u32 B.tag, .slice a8 n8 q8] 44)).alloc (.cells #[.int .u16 0, .int .u8 0, .int .u8 0, .int .u32 0, .int .u32 0, .int .i32 0, .int .u16 0, .int .u16 0, .slice none 0 0] 29)).alloc (.cells #[.int .u16 0, .int .u8 0, .int .u8 0, .int .u32 0, .int .u32 0, .int .i32 0, .int .u16 0, .int .u16 0, .slice none 0 0] 29)).alloc (.cells #[.int .i64 0] 33)) w.heap.size h := (Hd.new w h 26).keep (((((Touch.refl _ _).alloc _).alloc _).alloc _).alloc _)
  have HBd : Bd (((((w.alloc (.cells #[.int .u16 h.age, .int .u8 h.opts, .int .u8 h.typ, .int .u32 h.id, .int .u32 h.adv, .int .i32 h.seq, .int .u16 h.sum, .int .u16 h.len] 26)).alloc (.cells #[.int .u8 B.flags, .slice a1 n1 q1, .int .u32 B.mask, .slice a3 n3 q3, .int .u32 B.metric, .bool B.type2, .int .u32 B.fwd, .int .u32 B.tag, .slice a8 n8 q8] 44)).alloc (.cells #[.int .u16 0, .int .u8 0, .int .u8 0, .int .u32 0, .int .u32 0, .int .i32 0, .int .u16 0, .int .u16 0, .slice none 0 0] 29)).alloc (.cells #[.int .u16 0, .int .u8 0, .int .u8 0, .int .u32 0, .int .u32 0, .int .i32 0, .int .u16 0, .int .u16 0, .slice none 0 0] 29)).alloc (.cells #[.int .i64 0] 33)) (w.heap.size + 1) B (.slice a1 n1 q1) (.slice a3 n3 q3) (.slice a8 n8 q8) := by
    have := (Bd.new (w.alloc (.cells #[.int .u16 h.age, .int .u8 h.opts, .int .u8 h.typ, .int .u32 h.id, .int .u32 h.adv, .int .i32 h.seq, .int .u16 h.sum, .int .u16 h.len] 26)) B (.slice a1 n1 q1) (.slice a3 n3 q3) (.slice a8 n8 q8) 44).keep (((((Touch.refl _ _).alloc (.cells #[.int .u16 0, .int .u8 0, .int .u8 0, .int .u32 0, .int .u32 0, .int .i32 0, .int .u16 0, .int .u16 0, .slice none 0 0] 29)).alloc (.cells #[.int .u16 0, .int .u8 0, .int .u8 0, .int .u32 0, .int .u32 0, .int .i32 0, .int .u16 0, .int .u16 0, .slice none 0 0] 29)).alloc (.cells #[.int .i64 0] 33)))
    simpa using this
  have HC := enc1_ok w.heap.size (w.heap.size + 1) h ok B a1 a3 a8 n1 q1 n3 q3 n8 q8 l (((((w.alloc (.cells #[.int .u16 h.age, .int .u8 h.opts, .int .u8 h.typ, .int .u32 h.id, .int .u32 h.adv, .int .i32 h.seq, .int .u16 h.sum, .int .u16 h.len] 26)).alloc (.cells #[.int .u8 B.flags, .slice a1 n1 q1, .int .u32 B.mask, .slice a3 n3 q3, .int .u32 B.metric, .bool B.type2, .int .u32 B.fwd, .int .u32 B.tag, .slice a8 n8 q8] 44)).alloc (.cells #[.int .u16 0, .int .u8 0, .int .u8 0, .int .u32 0, .int .u32 0, .int .i32 0, .int .u16 0, .int .u16 0, .slice none 0 0] 29)).alloc (.cells #[.int .u16 0, .int .u8 0, .int .u8 0, .int .u32 0, .int .u32 0, .int .i32 0, .int .u16 0, .int .u16 0, .slice none 0 0] 29)).alloc (.cells #[.int .i64 0] 33)) HH HBd hby hl (fun w' t => HW w' (TA.trans t))
  show Calls Try.prog 10 #[.agg #[.int .u16 h.age, .int .u8 h.opts, .int .u8 h.typ, .int .u32 h.id, .int .u32 h.adv, .int .i32 h.seq, .int .u16 h.sum, .int .u16 h.len], .agg #[.int .u8 B.flags, .slice a1 n1 q1, .int .u32 B.mask, .slice a3 n3 q3, .int .u32 B.metric, .bool B.type2, .int .u32 B.fwd, .int .u32 B.tag, .slice a8 n8 q8]] w _
  have HF := faceS_ok 24 #[.pointer (some ⟨w.heap.size, 0, none⟩), .pointer (some ⟨w.heap.size + 1, 0, none⟩)] (fun _ => rfl) (((w.alloc (.cells #[.int .u16 h.age, .int .u8 h.opts, .int .u8 h.typ, .int .u32 h.id, .int .u32 h.adv, .int .i32 h.seq, .int .u16 h.sum, .int .u16 h.len] 26)).alloc (.cells #[.int .u8 B.flags, .slice a1 n1 q1, .int .u32 B.mask, .slice a3 n3 q3, .int .u32 B.metric, .bool B.type2, .int .u32 B.fwd, .int .u32 B.tag, .slice a8 n8 q8] 44)).alloc (.cells #[.int .u16 0, .int .u8 0, .int .u8 0, .int .u32 0, .int .u32 0, .int .i32 0, .int .u16 0, .int .u16 0, .slice none 0 0] 29)) h.age h.opts h.typ h.id h.adv h.seq (sealS h l) (20 + (l.length : Int)) (fun u w' => w'.ownsRow (w.heap.size + 5) 5 1 u l.length (bytesOf l)) (HC.mono (by
    rintro e w' ⟨u, rfl, b⟩
    obtain ⟨xa, xc, rfl⟩ := b.form
    exact ⟨xa, l.length, xc, rfl, b.t, by have := b.own; simpa using this⟩)) (by
    intro a n c w1 w2 hk _ t
    simp only [World.size_alloc] at t
    exact own_touch hk t (fun k hkk e => by have := (hk.lt k hkk).1; omega))
  clear HC TA HH HBd HW
  go_enter Try.func10, Try.ntmps10
  go_wp2_with fail
  refine Calls.mono HF ?_
  rintro e w1 ⟨a, n, c, rfl, t1, hk⟩
  have HKK : Hid (w1.ownsRow (w.heap.size + 5) 5 1 (.slice a n c) l.length (bytesOf l)) := hk
  clear hk
  have R1 : Hid (Room w1 (w.heap.size + 1 + 1) 9) := by
    have := (Room.new ((w.alloc (.cells #[.int .u16 h.age, .int .u8 h.opts, .int .u8 h.typ, .int .u32 h.id, .int .u32 h.adv, .int .i32 h.seq, .int .u16 h.sum, .int .u16 h.len] 26)).alloc (.cells #[.int .u8 B.flags, .slice a1 n1 q1, .int .u32 B.mask, .slice a3 n3 q3, .int .u32 B.metric, .bool B.type2, .int .u32 B.fwd, .int .u32 B.tag, .slice a8 n8 q8] 44)) #[.int .u16 0, .int .u8 0, .int .u8 0, .int .u32 0, .int .u32 0, .int .i32 0, .int .u16 0, .int .u16 0, .slice none 0 0] 29).keep t1
    show Room _ _ _
    simpa using this
  have HT : Hid (Touch (fun _ => False) w w1) := ((((Touch.refl _ w).alloc _).alloc _).alloc _).trans t1
  clear HF t1 hmf
  generalize hg : w.heap.size + 1 + 1 = g at *
  have HG : Hid (w.heap.size + 1 + 1 = g) := hg
  clear hg
  obtain ⟨zz0, zc0, zf0⟩ := R1.out 0 (by omega)
  obtain ⟨zz1, zc1, zf1⟩ := R1.out 1 (by omega)
  obtain ⟨zz2, zc2, zf2⟩ := R1.out 2 (by omega)
  obtain ⟨zz3, zc3, zf3⟩ := R1.out 3 (by omega)
  obtain ⟨zz4, zc4, zf4⟩ := R1.out 4 (by omega)
  obtain ⟨zz5, zc5, zf5⟩ := R1.out 5 (by omega)
  obtain ⟨zz6, zc6, zf6⟩ := R1.out 6 (by omega)
  obtain ⟨zz7, zc7, zf7⟩ := R1.out 7 (by omega)
  obtain ⟨zz8, zc8, zf8⟩ := R1.out 8 (by omega)
  obtain ⟨wz, hwz⟩ : ∃ wz, wz = (((((((((w1.setCell ⟨g, 0, none⟩ (.int .u16 h.age)).setCell ⟨g, 1, none⟩ (.int .u8 h.opts)).setCell ⟨g, 2, none⟩ (.int .u8 h.typ)).setCell ⟨g, 3, none⟩ (.int .u32 h.id)).setCell ⟨g, 4, none⟩ (.int .u32 h.adv)).setCell ⟨g, 5, none⟩ (.int .i32 h.seq)).setCell ⟨g, 6, none⟩ (.int .u16 (sealS h l))).setCell ⟨g, 7, none⟩ (.int .u16 (20 + (l.length : Int)))).setCell ⟨g, 8, none⟩ (.slice a n c)) := ⟨_, rfl⟩
  have zd0 : wz.cell? ⟨g, 0, none⟩ = some (.int .u16 h.age) := by rw [hwz]; simp [zc0, go_sem]
  have zd1 : wz.cell? ⟨g, 1, none⟩ = some (.int .u8 h.opts) := by rw [hwz]; simp [zc1, go_sem]
  have zd2 : wz.cell? ⟨g, 2, none⟩ = some (.int .u8 h.typ) := by rw [hwz]; simp [zc2, go_sem]
  have zd3 : wz.cell? ⟨g, 3, none⟩ = some (.int .u32 h.id) := by rw [hwz]; simp [zc3, go_sem]
  have zd4 : wz.cell? ⟨g, 4, none⟩ = some (.int .u32 h.adv) := by rw [hwz]; simp [zc4, go_sem]
  have zd5 : wz.cell? ⟨g, 5, none⟩ = some (.int .i32 h.seq) := by rw [hwz]; simp [zc5, go_sem]
  have zd6 : wz.cell? ⟨g, 6, none⟩ = some (.int .u16 (sealS h l)) := by rw [hwz]; simp [zc6, go_sem]
  have zd7 : wz.cell? ⟨g, 7, none⟩ = some (.int .u16 (20 + (l.length : Int))) := by rw [hwz]; simp [zc7, go_sem]
  have zd8 : wz.cell? ⟨g, 8, none⟩ = some (.slice a n c) := by rw [hwz]; simp [zc8, go_sem]
  have HUz : Hid (Touch (fun k => k = g) w1 wz) := by show Touch _ _ _; rw [hwz]; refine Touch.setCell (F := fun k => k = g) (p := ⟨g, 8, none⟩) ?_ (Or.inl rfl) _; refine Touch.setCell (F := fun k => k = g) (p := ⟨g, 7, none⟩) ?_ (Or.inl rfl) _; refine Touch.setCell (F := fun k => k = g) (p := ⟨g, 6, none⟩) ?_ (Or.inl rfl) _; refine Touch.setCell (F := fun k => k = g) (p := ⟨g, 5, none⟩) ?_ (Or.inl rfl) _; refine Touch.setCell (F := fun k => k = g) (p := ⟨g, 4, none⟩) ?_ (Or.inl rfl) _; refine Touch.setCell (F := fun k => k = g) (p := ⟨g, 3, none⟩) ?_ (Or.inl rfl) _; refine Touch.setCell (F := fun k => k = g) (p := ⟨g, 2, none⟩) ?_ (Or.inl rfl) _; refine Touch.setCell (F := fun k => k = g) (p := ⟨g, 1, none⟩) ?_ (Or.inl rfl) _; refine Touch.setCell (F := fun k => k = g) (p := ⟨g, 0, none⟩) ?_ (Or.inl rfl) _; exact Touch.refl _ _
  have HWz : Hid (wz = (((((((((w1.setCell ⟨g, 0, none⟩ (.int .u16 h.age)).setCell ⟨g, 1, none⟩ (.int .u8 h.opts)).setCell ⟨g, 2, none⟩ (.int .u8 h.typ)).setCell ⟨g, 3, none⟩ (.int .u32 h.id)).setCell ⟨g, 4, none⟩ (.int .u32 h.adv)).setCell ⟨g, 5, none⟩ (.int .i32 h.seq)).setCell ⟨g, 6, none⟩ (.int .u16 (sealS h l))).setCell ⟨g, 7, none⟩ (.int .u16 (20 + (l.length : Int)))).setCell ⟨g, 8, none⟩ (.slice a n c))) := hwz
  clear hwz
  go_wp2_with fail
  rw [← HWz.out]
  clear HWz zc0 zf0 zc1 zf1 zc2 zf2 zc3 zf3 zc4 zf4 zc5 zf5 zc6 zf6 zc7 zf7 zc8 zf8
  refine bodyPost_ret (v := .tuple #[.agg #[.int .u16 h.age, .int .u8 h.opts, .int .u8 h.typ, .int .u32 h.id, .int .u32 h.adv, .int .i32 h.seq, .int .u16 (sealS h l), .int .u16 (20 + (l.length : Int)), .slice a n c], .int .i64 0]) (by simp [results, Try.results10, go_sem, zd0, zd1, zd2, zd3, zd4, zd5, zd6, zd7, zd8]) rfl ?_
  exact ⟨_, rfl, ⟨own_lower (own_touch HKK.out HUz.out (fun k hk e => by have := (HKK.out.lt k hk).1; have := HG.out; omega)) (by omega), HT.out.trans' HUz.out (fun i hi e => by have := HG.out; omega)⟩⟩
set_option maxHeartbeats 1000000 in
theorem encode_no (h : HV) (B : BV) (a1 a3 a8 : Option Addr) (n1 q1 n3 q3 n8 q8 : Nat) (err : Int) (w : World) 
    (HW : ∀ w', Touch (fun _ => False) w w' → Calls Try.prog 26 #[.int .u8 h.typ, .agg #[.int .u8 B.flags, .slice a1 n1 q1, .int .u32 B.mask, .slice a3 n3 q3, .int .u32 B.metric, .bool B.type2, .int .u32 B.fwd, .int .u32 B.tag, .slice a8 n8 q8]] w' fun e w'' => e = .panicked (flawC err) ∧ Touch (fun _ => False) w' w'') :
    Calls Try.prog 10 #[h.v, .agg #[.int .u8 B.flags, .slice a1 n1 q1, .int .u32 B.mask, .slice a3 n3 q3, .int .u32 B.metric, .bool B.type2, .int .u32 B.fwd, .int .u32 B.tag, .slice a8 n8 q8]] w fun e w' => e = .returned (.tuple #[.agg #[.int .u16 0, .int .u8 0, .int .u8 0, .int .u32 0, .int .u32 0, .int .i32 0, .int .u16 0, .int .u16 0, .slice none 0 0], .int .i64 err]) ∧ Touch (fun _ => False) w w' := by
  have hmf : ∀ (fn : Fn) (first cap : Array Value) (w : World), (Instr.makeFunc fn first cap).run Try.prog w = .ok (.func fn first cap) w := fun _ _ _ _ => rfl
  have TA : Touch (fun _ => False) w (((((w.alloc (.cells #[.int .u16 h.age, .int .u8 h.opts, .int .u8 h.typ, .int .u32 h.id, .int .u32 h.adv, .int .i32 h.seq, .int .u16 h.sum, .int .u16 h.len] 26)).alloc (.cells #[.int .u8 B.flags, .slice a1 n1 q1, .int .u32 B.mask, .slice a3 n3 q3, .int .u32 B.metric, .bool B.type2, .int .u32 B.fwd, .int .u32 B.tag, .slice a8 n8 q8] 44)).alloc (.cells #[.int .u16 0, .int .u8 0, .int .u8 0, .int .u32 0, .int .u32 0, .int .i32 0, .int .u16 0, .int .u16 0, .slice none 0 0] 29)).alloc (.cells #[.int .u16 0, .int .u8 0, .int .u8 0, .int .u32 0, .int .u32 0, .int .i32 0, .int .u16 0, .int .u16 0, .slice none 0 0] 29)).alloc (.cells #[.int .i64 0] 33)) := ((((((Touch.refl _ w).alloc _).alloc _).alloc _).alloc _).alloc _)
  have HH : Hd (((((w.alloc (.cells #[.int .u16 h.age, .int .u8 h.opts, .int .u8 h.typ, .int .u32 h.id, .int .u32 h.adv, .int .i32 h.seq, .int .u16 h.sum, .int .u16 h.len] 26)).alloc (.cells #[.int .u8 B.flags, .slice a1 n1 q1, .int .u32 B.mask, .slice a3 n3 q3, .int .u32 B.metric, .bool B.type2, .int .u32 B.fwd, .int .u32 B.tag, .slice a8 n8 q8] 44)).alloc (.cells #[.int .u16 0, .int .u8 0, .int .u8 0, .int .u32 0, .int .u32 0, .int .i32 0, .int .u16 0, .int .u16 0, .slice none 0 0] 29)).alloc (.cells #[.int .u16 0, .int .u8 0, .int .u8 0, .int .u32 0, .int .u32 0, .int .i32 0, .int .u16 0, .int .u16 0, .slice none 0 0] 29)).alloc (.cells #[.int .i64 0] 33)) w.heap.size h := (Hd.new w h 26).keep (((((Touch.refl _ _).alloc _).alloc _).alloc _).alloc _)
  have HBd : Bd (((((w.alloc (.cells #[.int .u16 h.age, .int .u8 h.opts, .int .u8 h.typ, .int .u32 h.id, .int .u32 h.adv, .int .i32 h.seq, .int .u16 h.sum, .int .u16 h.len] 26)).alloc (.cells #[.int .u8 B.flags, .slice a1 n1 q1, .int .u32 B.mask, .slice a3 n3 q3, .int .u32 B.metric, .bool B.type2, .int .u32 B.fwd, .int .u32 B.tag, .slice a8 n8 q8] 44)).alloc (.cells #[.int .u16 0, .int .u8 0, .int .u8 0, .int .u32 0, .int .u32 0, .int .i32 0, .int .u16 0, .int .u16 0, .slice none 0 0] 29)).alloc (.cells #[.int .u16 0, .int .u8 0, .int .u8 0, .int .u32 0, .int .u32 0, .int .i32 0, .int .u16 0, .int .u16 0, .slice none 0 0] 29)).alloc (.cells #[.int .i64 0] 33)) (w.heap.size + 1) B (.slice a1 n1 q1) (.slice a3 n3 q3) (.slice a8 n8 q8) := by
    have := (Bd.new (w.alloc (.cells #[.int .u16 h.age, .int .u8 h.opts, .int .u8 h.typ, .int .u32 h.id, .int .u32 h.adv, .int .i32 h.seq, .int .u16 h.sum, .int .u16 h.len] 26)) B (.slice a1 n1 q1) (.slice a3 n3 q3) (.slice a8 n8 q8) 44).keep (((((Touch.refl _ _).alloc (.cells #[.int .u16 0, .int .u8 0, .int .u8 0, .int .u32 0, .int .u32 0, .int .i32 0, .int .u16 0, .int .u16 0, .slice none 0 0] 29)).alloc (.cells #[.int .u16 0, .int .u8 0, .int .u8 0, .int .u32 0, .int .u32 0, .int .i32 0, .int .u16 0, .int .u16 0, .slice none 0 0] 29)).alloc (.cells #[.int .i64 0] 33)))
    simpa using this
  have HC := enc1_no w.heap.size (w.heap.size + 1) h B a1 a3 a8 n1 q1 n3 q3 n8 q8 err (((((w.alloc (.cells #[.int .u16 h.age, .int .u8 h.opts, .int .u8 h.typ, .int .u32 h.id, .int .u32 h.adv, .int .i32 h.seq, .int .u16 h.sum, .int .u16 h.len] 26)).alloc (.cells #[.int .u8 B.flags, .slice a1 n1 q1, .int .u32 B.mask, .slice a3 n3 q3, .int .u32 B.metric, .bool B.type2, .int .u32 B.fwd, .int .u32 B.tag, .slice a8 n8 q8] 44)).alloc (.cells #[.int .u16 0, .int .u8 0, .int .u8 0, .int .u32 0, .int .u32 0, .int .i32 0, .int .u16 0, .int .u16 0, .slice none 0 0] 29)).alloc (.cells #[.int .u16 0, .int .u8 0, .int .u8 0, .int .u32 0, .int .u32 0, .int .i32 0, .int .u16 0, .int .u16 0, .slice none 0 0] 29)).alloc (.cells #[.int .i64 0] 33)) HH HBd (fun w' t => HW w' (TA.trans t))
  show Calls Try.prog 10 #[.agg #[.int .u16 h.age, .int .u8 h.opts, .int .u8 h.typ, .int .u32 h.id, .int .u32 h.adv, .int .i32 h.seq, .int .u16 h.sum, .int .u16 h.len], .agg #[.int .u8 B.flags, .slice a1 n1 q1, .int .u32 B.mask, .slice a3 n3 q3, .int .u32 B.metric, .bool B.type2, .int .u32 B.fwd, .int .u32 B.tag, .slice a8 n8 q8]] w _
  have HF := faceS_no 24 #[.pointer (some ⟨w.heap.size, 0, none⟩), .pointer (some ⟨w.heap.size + 1, 0, none⟩)] (fun _ => rfl) (((w.alloc (.cells #[.int .u16 h.age, .int .u8 h.opts, .int .u8 h.typ, .int .u32 h.id, .int .u32 h.adv, .int .i32 h.seq, .int .u16 h.sum, .int .u16 h.len] 26)).alloc (.cells #[.int .u8 B.flags, .slice a1 n1 q1, .int .u32 B.mask, .slice a3 n3 q3, .int .u32 B.metric, .bool B.type2, .int .u32 B.fwd, .int .u32 B.tag, .slice a8 n8 q8] 44)).alloc (.cells #[.int .u16 0, .int .u8 0, .int .u8 0, .int .u32 0, .int .u32 0, .int .i32 0, .int .u16 0, .int .u16 0, .slice none 0 0] 29)) err HC
  clear HC TA HH HBd HW
  go_enter Try.func10, Try.ntmps10
  go_wp2_with fail
  refine Calls.mono HF ?_
  rintro e w1 ⟨rfl, t1⟩
  skip
  have R1 : Hid (Room w1 (w.heap.size + 1 + 1) 9) := by
    have := (Room.new ((w.alloc (.cells #[.int .u16 h.age, .int .u8 h.opts, .int .u8 h.typ, .int .u32 h.id, .int .u32 h.adv, .int .i32 h.seq, .int .u16 h.sum, .int .u16 h.len] 26)).alloc (.cells #[.int .u8 B.flags, .slice a1 n1 q1, .int .u32 B.mask, .slice a3 n3 q3, .int .u32 B.metric, .bool B.type2, .int .u32 B.fwd, .int .u32 B.tag, .slice a8 n8 q8] 44)) #[.int .u16 0, .int .u8 0, .int .u8 0, .int .u32 0, .int .u32 0, .int .i32 0, .int .u16 0, .int .u16 0, .slice none 0 0] 29).keep t1
    show Room _ _ _
    simpa using this
  have HT : Hid (Touch (fun _ => False) w w1) := ((((Touch.refl _ w).alloc _).alloc _).alloc _).trans t1
  clear HF t1 hmf
  generalize hg : w.heap.size + 1 + 1 = g at *
  have HG : Hid (w.heap.size + 1 + 1 = g) := hg
  clear hg
  obtain ⟨zz0, zc0, zf0⟩ := R1.out 0 (by omega)
  obtain ⟨zz1, zc1, zf1⟩ := R1.out 1 (by omega)
  obtain ⟨zz2, zc2, zf2⟩ := R1.out 2 (by omega)
  obtain ⟨zz3, zc3, zf3⟩ := R1.out 3 (by omega)
  obtain ⟨zz4, zc4, zf4⟩ := R1.out 4 (by omega)
  obtain ⟨zz5, zc5, zf5⟩ := R1.out 5 (by omega)
  obtain ⟨zz6, zc6, zf6⟩ := R1.out 6 (by omega)
  obtain ⟨zz7, zc7, zf7⟩ := R1.out 7 (by omega)
  obtain ⟨zz8, zc8, zf8⟩ := R1.out 8 (by omega)
  obtain ⟨wz, hwz⟩ : ∃ wz, wz = (((((((((w1.setCell ⟨g, 0, none⟩ (.int .u16 0)).setCell ⟨g, 1, none⟩ (.int .u8 0)).setCell ⟨g, 2, none⟩ (.int .u8 0)).setCell ⟨g, 3, none⟩ (.int .u32 0)).setCell ⟨g, 4, none⟩ (.int .u32 0)).setCell ⟨g, 5, none⟩ (.int .i32 0)).setCell ⟨g, 6, none⟩ (.int .u16 0)).setCell ⟨g, 7, none⟩ (.int .u16 0)).setCell ⟨g, 8, none⟩ (.slice none 0 0)) := ⟨_, rfl⟩
  have zd0 : wz.cell? ⟨g, 0, none⟩ = some (.int .u16 0) := by rw [hwz]; simp [zc0, go_sem]
  have zd1 : wz.cell? ⟨g, 1, none⟩ = some (.int .u8 0) := by rw [hwz]; simp [zc1, go_sem]
  have zd2 : wz.cell? ⟨g, 2, none⟩ = some (.int .u8 0) := by rw [hwz]; simp [zc2, go_sem]
  have zd3 : wz.cell? ⟨g, 3, none⟩ = some (.int .u32 0) := by rw [hwz]; simp [zc3, go_sem]
  have zd4 : wz.cell? ⟨g, 4, none⟩ = some (.int .u32 0) := by rw [hwz]; simp [zc4, go_sem]
  have zd5 : wz.cell? ⟨g, 5, none⟩ = some (.int .i32 0) := by rw [hwz]; simp [zc5, go_sem]
  have zd6 : wz.cell? ⟨g, 6, none⟩ = some (.int .u16 0) := by rw [hwz]; simp [zc6, go_sem]
  have zd7 : wz.cell? ⟨g, 7, none⟩ = some (.int .u16 0) := by rw [hwz]; simp [zc7, go_sem]
  have zd8 : wz.cell? ⟨g, 8, none⟩ = some (.slice none 0 0) := by rw [hwz]; simp [zc8, go_sem]
  have HUz : Hid (Touch (fun k => k = g) w1 wz) := by show Touch _ _ _; rw [hwz]; refine Touch.setCell (F := fun k => k = g) (p := ⟨g, 8, none⟩) ?_ (Or.inl rfl) _; refine Touch.setCell (F := fun k => k = g) (p := ⟨g, 7, none⟩) ?_ (Or.inl rfl) _; refine Touch.setCell (F := fun k => k = g) (p := ⟨g, 6, none⟩) ?_ (Or.inl rfl) _; refine Touch.setCell (F := fun k => k = g) (p := ⟨g, 5, none⟩) ?_ (Or.inl rfl) _; refine Touch.setCell (F := fun k => k = g) (p := ⟨g, 4, none⟩) ?_ (Or.inl rfl) _; refine Touch.setCell (F := fun k => k = g) (p := ⟨g, 3, none⟩) ?_ (Or.inl rfl) _; refine Touch.setCell (F := fun k => k = g) (p := ⟨g, 2, none⟩) ?_ (Or.inl rfl) _; refine Touch.setCell (F := fun k => k = g) (p := ⟨g, 1, none⟩) ?_ (Or.inl rfl) _; refine Touch.setCell (F := fun k => k = g) (p := ⟨g, 0, none⟩) ?_ (Or.inl rfl) _; exact Touch.refl _ _
  have HWz : Hid (wz = (((((((((w1.setCell ⟨g, 0, none⟩ (.int .u16 0)).setCell ⟨g, 1, none⟩ (.int .u8 0)).setCell ⟨g, 2, none⟩ (.int .u8 0)).setCell ⟨g, 3, none⟩ (.int .u32 0)).setCell ⟨g, 4, none⟩ (.int .u32 0)).setCell ⟨g, 5, none⟩ (.int .i32 0)).setCell ⟨g, 6, none⟩ (.int .u16 0)).setCell ⟨g, 7, none⟩ (.int .u16 0)).setCell ⟨g, 8, none⟩ (.slice none 0 0))) := hwz
  clear hwz
  go_wp2_with fail
  rw [← HWz.out]
  clear HWz zc0 zf0 zc1 zf1 zc2 zf2 zc3 zf3 zc4 zf4 zc5 zf5 zc6 zf6 zc7 zf7 zc8 zf8
  refine bodyPost_ret (v := .tuple #[.agg #[.int .u16 0, .int .u8 0, .int .u8 0, .int .u32 0, .int .u32 0, .int .i32 0, .int .u16 0, .int .u16 0, .slice none 0 0], .int .i64 err]) (by simp [results, Try.results10, go_sem, zd0, zd1, zd2, zd3, zd4, zd5, zd6, zd7, zd8]) rfl ?_
  exact ⟨rfl, HT.out.trans' HUz.out (fun i hi e => by have := HG.out; omega)⟩
end Go.Proofs.Ytlomgnhbkmomdab
