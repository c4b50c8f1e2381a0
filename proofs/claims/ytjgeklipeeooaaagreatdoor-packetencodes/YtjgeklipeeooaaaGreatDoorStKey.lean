/- Contracts: the head's bytes, a state's bytes. -/
import Derived.Test.YtjgeklipeeooaaaGreatDoorCutB
import Derived.Test.YtjgeklipeeooaaaGreatDoorStWr
import Derived.Test.YtjgeklipeeooaaaGreatDoorPkWr
import Derived.Test.YtjgeklipeeooaaaGreatDoorStaOut
import Derived.Deep.RegionHeld3
import Derived.Deep.DeepCutAuto
namespace Go.Proofs.YtjgeklipeeooaaaGreatDoor
open Go.RowKit
set_option linter.unusedVariables false
set_option maxRecDepth 100000

theorem wrap_u32 {x : Int} (h0 : 0 ≤ x) (h1 : x < 4294967296) : IntKind.u32.wrap x = x := by simp [IntKind.wrap, IntKind.bits, IntKind.signed]; omega
theorem wrap_u32s (x : Int) : IntKind.u32.wrap x = x % 4294967296 := by simp [IntKind.wrap, IntKind.bits, IntKind.signed]
/-- The first number that does not fit into n bytes. -/
def numTop (n : Int) : Int := if n = 1 then 256 else if n = 2 then 65536 else if n = 3 then 16777216 else 4294967296
theorem number_i (n : Int) (hn : n = 1 ∨ n = 2 ∨ n = 3 ∨ n = 4) (X : Nat → Prop) (b : Nat) (L : List Int) (most : Int) (x : Int) (w : World) (h : Wr X w b L most) (hm : most ≤ 1048576) (h0 : 0 ≤ x) (hx : x < numTop n) :
    Calls Tryz.prog 158 #[.pointer (some ⟨b, 0, none⟩), .int .u32 x, .int .i64 n] w fun e w' => e = .returned (.pointer (some ⟨b, 0, none⟩)) ∧ Wr X w' b (L ++ numBytes n.toNat x) most ∧ Kept X w w' := by
  rcases hn with rfl | rfl | rfl | rfl
  · exact number_w1 X b L most x w h hm ⟨h0, by simpa [numTop] using hx⟩
  · exact number_w2 X b L most x w h hm ⟨h0, by simpa [numTop] using hx⟩
  · exact number_w3 X b L most x w h hm ⟨h0, by simpa [numTop] using hx⟩
  · exact number_w4 X b L most x w h hm ⟨h0, by simpa [numTop] using hx⟩
set_option maxHeartbeats 4000000 in
theorem whead_any (X : Nat → Prop) (b : Nat) (L : List Int) (most : Int) (h : HV) (ok : h.All) (w : World) (hw : Wr X w b L most) (hm : most ≤ 1048576) :
    Calls Tryz.prog 183 #[.agg #[.pointer (some ⟨b, 0, none⟩)], h.v] w fun e w' => e = .returned (.tuple #[]) ∧ Wr X w' b (L ++ headB h) most ∧ Kept X w w' := by
  obtain ⟨⟨oa0, oa1⟩, ⟨oo0, oo1⟩, ⟨ot0, ot1⟩, ⟨oi0, oi1⟩, ⟨ov0, ov1⟩, ⟨os0, os1⟩, ⟨om0, om1⟩, ⟨ol0, ol1⟩⟩ := ok
  show Calls Tryz.prog 183 #[.agg #[.pointer (some ⟨b, 0, none⟩)], .agg #[.int .u16 h.age, .int .u8 h.opts, .int .u8 h.typ, .int .u32 h.id, .int .u32 h.adv, .int .i32 h.seq, .int .u16 h.sum, .int .u16 h.len]] w _
  go_enter Tryz.func183, Tryz.ntmps183
  have q0 := wrap_u32 oa0 (by omega)
  have q1 := wrap_u32 oo0 (by omega)
  have q2 := wrap_u32 ot0 (by omega)
  have q5 := wrap_u32s h.seq
  have q6 := wrap_u32 om0 (by omega)
  have q7 := wrap_u32 ol0 (by omega)
  go_upto_region 1 with fail
  obtain ⟨X1, hX1⟩ : ∃ X1 : Nat → Prop, X1 = fun k => X k ∨ k = w.heap.size ∨ k = w.heap.size + 1 := ⟨_, rfl⟩
  have hW : Wr X1 ((w.alloc (.cells #[.pointer (some ⟨b, 0, none⟩)] 250)).alloc (.cells #[.int .u16 h.age, .int .u8 h.opts, .int .u8 h.typ, .int .u32 h.id, .int .u32 h.adv, .int .i32 h.seq, .int .u16 h.sum, .int .u16 h.len] 93)) b L most := hw.more (((Touch.refl _ w).alloc _).alloc _) (fun k hk => by rw [hX1] at hk; rcases hk with hk | hk | hk; exact Or.inl hk; exact Or.inr ⟨by omega, by simp; omega⟩; exact Or.inr ⟨by omega, by simp; omega⟩)
  have c0 : ((w.alloc (.cells #[.pointer (some ⟨b, 0, none⟩)] 250)).alloc (.cells #[.int .u16 h.age, .int .u8 h.opts, .int .u8 h.typ, .int .u32 h.id, .int .u32 h.adv, .int .i32 h.seq, .int .u16 h.sum, .int .u16 h.len] 93)).cell? ⟨w.heap.size, 0, none⟩ = some (.pointer (some ⟨b, 0, none⟩)) := by simp [go_sem]
  have HH := Hd.new (w.alloc (.cells #[.pointer (some ⟨b, 0, none⟩)] 250)) h 93
  have T1 : Hid (Touch (fun _ => False) w ((w.alloc (.cells #[.pointer (some ⟨b, 0, none⟩)] 250)).alloc (.cells #[.int .u16 h.age, .int .u8 h.opts, .int .u8 h.typ, .int .u32 h.id, .int .u32 h.adv, .int .i32 h.seq, .int .u16 h.sum, .int .u16 h.len] 93))) := ((Touch.refl _ w).alloc _).alloc _
  have XM : Hid (X1 w.heap.size) := by show X1 _; rw [hX1]; exact Or.inr (Or.inl rfl)
  have XN : Hid (X1 (w.alloc (.cells #[.pointer (some ⟨b, 0, none⟩)] 250)).heap.size) := by show X1 _; rw [hX1]; exact Or.inr (Or.inr (by simp))
  have XX : Hid (∀ k, X k → X1 k) := by show ∀ k, _; rw [hX1]; exact fun k hk => Or.inl hk
  simp only [World.size_alloc] at XN HH ⊢
  generalize w.heap.size + 1 = g2 at *
  generalize (w.alloc (.cells #[.pointer (some ⟨b, 0, none⟩)] 250)).alloc (.cells #[.int .u16 h.age, .int .u8 h.opts, .int .u8 h.typ, .int .u32 h.id, .int .u32 h.adv, .int .i32 h.seq, .int .u16 h.sum, .int .u16 h.len] 93) = w1 at *
  obtain ⟨d0, d1, d2, d3, d4, d5, d6, d7⟩ := HH
  clear hX1 hw
  generalize w.heap.size = g1 at *
  have HD : Hid (∀ w', Kept X1 w1 w' → w'.cell? ⟨g1, 0, none⟩ = some (.pointer (some ⟨b, 0, none⟩)) ∧ Hd w' g2 h) := fun w' k => ⟨k.cell c0 XM.out, ⟨k.cell d0 XN.out, k.cell d1 XN.out, k.cell d2 XN.out, k.cell d3 XN.out, k.cell d4 XN.out, k.cell d5 XN.out, k.cell d6 XN.out, k.cell d7 XN.out⟩⟩
  have HK0 : Hid (Kept X1 w1 w1.drew) := Kept.of ((Touch.refl _ _).drew)
  have hWd : Wr X1 w1.drew b _ most := hW.keep ((Touch.refl _ _).drew)
  have e0 : w1.drew.cell? ⟨g1, 0, none⟩ = _ := c0
  have e1 : w1.drew.cell? ⟨g2, 0, none⟩ = _ := d0
  have e2 : w1.drew.cell? ⟨g2, 1, none⟩ = _ := d1
  have e3 : w1.drew.cell? ⟨g2, 2, none⟩ = _ := d2
  clear hW c0 d0 d1 d2 d3 d4 d5 d6 d7
  go_region_held3 (fun w' => w'.cell? ⟨g1, 0, none⟩ = some (.pointer (some ⟨b, 0, none⟩)) ∧ w'.cell? ⟨g2, 0, none⟩ = some (.int .u16 h.age) ∧ w'.cell? ⟨g2, 1, none⟩ = some (.int .u8 h.opts) ∧ w'.cell? ⟨g2, 2, none⟩ = some (.int .u8 h.typ)) (go_keep) (first
    | (go_at_call 158; refine Calls.mono (number_i _ (by omega) X1 b _ most _ _ (by assumption) hm (by omega) (by simp [numTop]; omega)) ?_; rintro e w2 ⟨rfl, hw2, hkx⟩; have y0 := hkx.cell (p := ⟨g1, 0, none⟩) (v := .pointer (some ⟨b, 0, none⟩)) (by assumption) XM.out; have y1 := hkx.cell (p := ⟨g2, 0, none⟩) (v := .int .u16 h.age) (by assumption) XN.out; have y2 := hkx.cell (p := ⟨g2, 1, none⟩) (v := .int .u8 h.opts) (by assumption) XN.out; have y3 := hkx.cell (p := ⟨g2, 2, none⟩) (v := .int .u8 h.typ) (by assumption) XN.out; have HK2 : Hid (Kept X1 w1 w2) := Kept.trans (Hid.out (by assumption)) hkx; clear hkx))
  obtain ⟨c0, ⟨d0, d1, d2, d3, d4, d5, d6, d7⟩⟩ := HD.out _ HK2.out
  have HK2d : Hid (Kept X1 w1 w2.drew) := HK2.out.trans (Kept.of ((Touch.refl _ _).drew))
  clear y0 y1 y2 y3 e0 e1 e2 e3 hWd
  have hWd : Wr X1 w2.drew b _ most := hw2.keep ((Touch.refl _ _).drew)
  have e0 : w2.drew.cell? ⟨g1, 0, none⟩ = _ := c0
  have e1 : w2.drew.cell? ⟨g2, 3, none⟩ = _ := d3
  have e2 : w2.drew.cell? ⟨g2, 4, none⟩ = _ := d4
  have e3 : w2.drew.cell? ⟨g2, 5, none⟩ = _ := d5
  clear c0 d0 d1 d2 d3 d4 d5 d6 d7
  go_upto_region 2 with fail
  go_region_held3 (fun w' => w'.cell? ⟨g1, 0, none⟩ = some (.pointer (some ⟨b, 0, none⟩)) ∧ w'.cell? ⟨g2, 3, none⟩ = some (.int .u32 h.id) ∧ w'.cell? ⟨g2, 4, none⟩ = some (.int .u32 h.adv) ∧ w'.cell? ⟨g2, 5, none⟩ = some (.int .i32 h.seq)) (go_keep) (first
    | (go_at_call 158; refine Calls.mono (number_i _ (by omega) X1 b _ most _ _ (by assumption) hm (by omega) (by simp [numTop]; omega)) ?_; rintro e w3 ⟨rfl, hw3, hkx⟩; have y0 := hkx.cell (p := ⟨g1, 0, none⟩) (v := .pointer (some ⟨b, 0, none⟩)) (by assumption) XM.out; have y1 := hkx.cell (p := ⟨g2, 3, none⟩) (v := .int .u32 h.id) (by assumption) XN.out; have y2 := hkx.cell (p := ⟨g2, 4, none⟩) (v := .int .u32 h.adv) (by assumption) XN.out; have y3 := hkx.cell (p := ⟨g2, 5, none⟩) (v := .int .i32 h.seq) (by assumption) XN.out; have HK3 : Hid (Kept X1 w1 w3) := Kept.trans (Hid.out (by assumption)) hkx; clear hkx))
  obtain ⟨c0, ⟨d0, d1, d2, d3, d4, d5, d6, d7⟩⟩ := HD.out _ HK3.out
  have HK3d : Hid (Kept X1 w1 w3.drew) := HK3.out.trans (Kept.of ((Touch.refl _ _).drew))
  clear y0 y1 y2 y3 e0 e1 e2 e3 hWd
  have hWd : Wr X1 w3.drew b _ most := hw3.keep ((Touch.refl _ _).drew)
  have e0 : w3.drew.cell? ⟨g1, 0, none⟩ = _ := c0
  have e1 : w3.drew.cell? ⟨g2, 6, none⟩ = _ := d6
  have e2 : w3.drew.cell? ⟨g2, 7, none⟩ = _ := d7
  clear c0 d0 d1 d2 d3 d4 d5 d6 d7
  go_upto_region 3 with fail
  go_region_held3 (fun w' => w'.cell? ⟨g1, 0, none⟩ = some (.pointer (some ⟨b, 0, none⟩)) ∧ w'.cell? ⟨g2, 6, none⟩ = some (.int .u16 h.sum) ∧ w'.cell? ⟨g2, 7, none⟩ = some (.int .u16 h.len)) (go_keep) (first
    | (go_at_call 158; refine Calls.mono (number_i _ (by omega) X1 b _ most _ _ (by assumption) hm (by omega) (by simp [numTop]; omega)) ?_; rintro e w4 ⟨rfl, hw4, hkx⟩; have y0 := hkx.cell (p := ⟨g1, 0, none⟩) (v := .pointer (some ⟨b, 0, none⟩)) (by assumption) XM.out; have y1 := hkx.cell (p := ⟨g2, 6, none⟩) (v := .int .u16 h.sum) (by assumption) XN.out; have y2 := hkx.cell (p := ⟨g2, 7, none⟩) (v := .int .u16 h.len) (by assumption) XN.out; have HK4 : Hid (Kept X1 w1 w4) := Kept.trans (Hid.out (by assumption)) hkx; clear hkx))
  clear y0 y1 y2 e0 e1 e2 hWd
  go_wp2
  go_end0
  refine ⟨rfl, ?_, ?_⟩
  · have := hw4.less XX.out
    simpa [headB, numBytes, List.append_assoc, Int.emod_eq_of_lt oo0 oo1, Int.emod_eq_of_lt ot0 ot1] using this
  · exact (Kept.of T1.out).trans (HK4.out.less (fun k _ hk => XX.out k hk))

theorem Hd.kept {X : Nat → Prop} {w w' : World} {g : Nat} {h : HV} (k : Hd w g h) (t : Kept X w w') (hx : X g) : Hd w' g h := ⟨t.cell k.c0 hx, t.cell k.c1 hx, t.cell k.c2 hx, t.cell k.c3 hx, t.cell k.c4 hx, t.cell k.c5 hx, t.cell k.c6 hx, t.cell k.c7 hx⟩
theorem Sd.kept {X : Nat → Prop} {w w' : World} {g : Nat} {h : HV} {v : Value} (k : Sd w g h v) (t : Kept X w w') (hx : X g) : Sd w' g h v := ⟨k.hd.kept t hx, t.cell k.c8 hx⟩
theorem Kept.sd {X : Nat → Prop} {w w' : World} {g : Nat} {h : HV} {v : Value} (t : Kept X w w') (k : Sd w g h v) (hx : X g) : Sd w' g h v := k.kept t hx
/-- Bytes: the head's, and the body. -/
theorem bytes_any (h : HV) (ok : h.All) (v : Value) (l : List Int) (w : World) (hv : ArgAt w v l) (hl : l.length ≤ 1000000) :
    Calls Tryz.prog 160 #[h.sv v] w fun e w' => ∃ u, e = .returned u ∧ Buf w w' u (headB h ++ l) := by
  obtain ⟨va, vc, rfl, hm⟩ := hv.form
  have OK : Hid h.All := ok
  have HV' : Hid (ArgAt w (.slice va l.length vc) l) := hv
  have HZ := fun w => size_any h va l.length vc w (by omega)
  show Calls Tryz.prog 160 #[.agg #[.int .u16 h.age, .int .u8 h.opts, .int .u8 h.typ, .int .u32 h.id, .int .u32 h.adv, .int .i32 h.seq, .int .u16 h.sum, .int .u16 h.len, .slice va l.length vc]] w _
  go_enter Tryz.func160, Tryz.ntmps160
  go_wp2_with fail
  refine Calls.mono (HZ _) ?_
  rintro e w1 ⟨rfl, t1⟩
  have S1 := (Sd.new w h (.slice va l.length vc) 95).keep t1
  have T1 := ((Touch.refl (fun _ => False) w).alloc _).trans t1
  clear t1 HZ
  go_wp2_with fail
  refine Calls.mono (write_w (20 + (l.length : Int)) w1 (by omega)) ?_
  rintro e w2 ⟨rfl, hw2, t2⟩
  have S2 := S1.keep t2
  have T2 := T1.trans t2
  have hg : w.heap.size < w1.heap.size := lt_of_cell S1.hd.c0
  have hb : w1.heap.size < w2.heap.size := hw2.lt
  have hgg : w.heap.size < w2.heap.size := by omega
  have hn1 : ¬ w.heap.size = w2.heap.size := by omega
  have hn2 : ¬ w2.heap.size = w.heap.size := by omega
  have HW2 : Hid (Wr (fun k => k < w1.heap.size) w2 w1.heap.size [] (20 + (l.length : Int))) := hw2
  have HS2 : Hid (Sd w2 w.heap.size h (.slice va l.length vc)) := S2
  have HT2 : Hid (Touch (fun _ => False) w w2) := T2
  obtain ⟨⟨s0, s1, s2, s3, s4, s5, s6, s7⟩, s8⟩ := S2
  clear S1 T1 t2 hw2 T2
  go_wp2_with fail
  have TT : ∀ (o : Obj), Touch (fun _ => False) w2 (w2.alloc o) := fun o => (Touch.refl _ w2).alloc o
  have TS : ∀ (o : Obj), w2.heap.size < (w2.alloc o).heap.size := fun o => by simp
  refine Calls.mono (whead_any (fun k => k < w1.heap.size ∨ k = w2.heap.size) w1.heap.size [] (20 + (l.length : Int)) h OK.out _ ?hw (by omega)) ?_
  case hw => exact HW2.out.more (TT _) (fun k hk => by rcases hk with hk | hk; exact Or.inl hk; exact Or.inr ⟨by omega, by rw [hk]; exact TS _⟩)
  rintro e w4 ⟨rfl, hw4, k4⟩
  have S4 := Kept.sd k4 (HS2.out.keep (TT _)) (Or.inl hg)
  have c4 := k4.cell (p := ⟨w2.heap.size, 0, none⟩) (v := .pointer (some ⟨w1.heap.size, 0, none⟩)) (by simp [go_sem]) (Or.inr rfl)
  have T4 : Touch (fun _ => False) w w4 := Kept.after k4 (HT2.out.trans (TT _)) (fun i hi => Or.inl (by omega))
  have HW4 : Hid (Wr (fun k => k < w1.heap.size ∨ k = w2.heap.size) w4 w1.heap.size ([] ++ headB h) (20 + (l.length : Int))) := hw4
  have HT4 : Hid (Touch (fun _ => False) w w4) := T4
  obtain ⟨-, s8'⟩ := S4
  clear k4 s0 s1 s2 s3 s4 s5 s6 s7 s8 TT TS hw4 T4
  go_wp2_with fail
  refine Calls.mono (put_arg (fun k => k < w1.heap.size ∨ k = w2.heap.size) w1.heap.size ([] ++ headB h) (20 + (l.length : Int)) _ l _ HW4.out (by omega) (HV'.out.keep HT4.out (fun _ _ h => h)) (by omega)) ?_
  rintro e w5 ⟨rfl, hw5, k5⟩
  have c5 := k5.cell c4 (Or.inr rfl)
  have T5 : Touch (fun _ => False) w w5 := Kept.after k5 HT4.out (fun i hi => Or.inl (by omega))
  have HW5 : Hid (Wr (fun k => k < w1.heap.size ∨ k = w2.heap.size) w5 w1.heap.size ([] ++ headB h ++ l) (20 + (l.length : Int))) := hw5
  have HT5 : Hid (Touch (fun _ => False) w w5) := T5
  clear k5 c4 s8' hw5 T5
  go_wp2_with fail
  refine Calls.mono (done_w _ w1.heap.size ([] ++ headB h ++ l) (20 + (l.length : Int)) _ HW5.out (by rw [List.nil_append, List.length_append, length_headB]; push_cast; omega) (by omega)) ?_
  rintro e w6 ⟨u, rfl, b6⟩
  obtain ⟨ua, uc, rfl⟩ := b6.form
  have B6 : Hid (Buf w5 w6 _ ([] ++ headB h ++ l)) := b6
  clear b6 c5
  go_wp2
  go_ret
  refine ⟨_, rfl, ?_⟩
  have := B6.out.back HT5.out
  simpa using this
end Go.Proofs.YtjgeklipeeooaaaGreatDoor

namespace Go.Proofs.YtjgeklipeeooaaaGreatDoor
open Go.RowKit
set_option linter.unusedVariables false
set_option maxRecDepth 100000

/-- Of x nothing in Y has turned. -/
structure Hold (Y : Nat → Prop) (x w : World) : Prop where
  k : Kept Y x w
theorem Hold.step {Y : Nat → Prop} {x w w' : World} (h : Hold Y x w) (t : Touch (fun _ => False) w w') : Hold Y x w' := ⟨h.k.trans (Kept.of t)⟩
theorem hold_cell {Y : Nat → Prop} {x : World} {p : Addr} {v : Value} (h : x.cell? p = some v) (hy : Y p.block) : ∀ w, Hold Y x w → w.cell? p = some v := fun w s => s.k.cell h hy
/-- A writer that holds L, of m bytes at most. -/
structure WL (Y : Nat → Prop) (x w : World) (b : Nat) (L : List Int) (m : Nat) : Prop where
  k : Hold Y x w
  wr : Wr Y w b L 65535
  le : L.length ≤ m
theorem WL.step {Y : Nat → Prop} {x w w' : World} {b : Nat} {L : List Int} {m : Nat} (h : WL Y x w b L m) (t : Touch (fun _ => False) w w') : WL Y x w' b L m := ⟨h.k.step t, h.wr.keep t, h.le⟩
theorem pnum_i (n : Int) (hn : n = 1 ∨ n = 2 ∨ n = 4) {Y : Nat → Prop} {x0 w : World} {b : Nat} {L : List Int} {m : Nat} (x : Int) (h : WL Y x0 w b L m) (h0 : 0 ≤ x) (hx : x < numTop n) (hm : m + n.toNat ≤ 65535) :
    Calls Tryz.prog 125 #[.agg #[.pointer (some ⟨b, 0, none⟩)], .int .u32 x, .int .i64 n] w fun e w' => e = .returned (.agg #[.pointer (some ⟨b, 0, none⟩)]) ∧ WL Y x0 w' b (L ++ numBytes n.toNat x) (m + n.toNat) := by
  have hL := h.le
  have key : ∀ k : Nat, (k = 1 ∨ k = 2 ∨ k = 4) → n = (k : Int) → x < 256 ^ k → Calls Tryz.prog 125 #[.agg #[.pointer (some ⟨b, 0, none⟩)], .int .u32 x, .int .i64 n] w fun e w' => e = .returned (.agg #[.pointer (some ⟨b, 0, none⟩)]) ∧ WL Y x0 w' b (L ++ numBytes n.toNat x) (m + n.toNat) := by
    intro k hk e hk2
    subst e
    rw [Int.toNat_natCast] at hm ⊢
    refine (pwnum_ok k (by omega) x Y b L w h.wr (by omega) ⟨h0, hk2⟩ (by omega)).mono ?_
    rintro e w' ⟨rfl, h', k'⟩
    exact ⟨rfl, ⟨h.k.k.trans k'⟩, h', by rw [List.length_append, length_numBytes (by omega)]; omega⟩
  rcases hn with rfl | rfl | rfl
  · exact key 1 (by omega) rfl (by simpa [numTop] using hx)
  · exact key 2 (by omega) rfl (by simpa [numTop] using hx)
  · exact key 4 (by omega) rfl (by simpa [numTop] using hx)
theorem pput_i {Y : Nat → Prop} {x0 w : World} {b : Nat} {L : List Int} {m : Nat} (s : Value) (ns : List Int) (h : WL Y x0 w b L m) (hs : ArgAt w s ns) (hm : m + ns.length ≤ 65535) :
    Calls Tryz.prog 124 #[.agg #[.pointer (some ⟨b, 0, none⟩)], s] w fun e w' => e = .returned (.agg #[.pointer (some ⟨b, 0, none⟩)]) ∧ WL Y x0 w' b (L ++ ns) (m + ns.length) := by
  have hL := h.le
  refine (pwput_ok s ns Y b L w h.wr (by omega) hs (by omega) (by omega)).mono ?_
  rintro e w' ⟨rfl, h', k'⟩
  exact ⟨rfl, ⟨h.k.k.trans k'⟩, h', by rw [List.length_append]; omega⟩
/-- The head, its length and its sum 0. -/
def pheadB (P : PV) (A : AuV) : List Int := [2, P.typ] ++ numBytes 2 0 ++ numBytes 4 P.router ++ numBytes 4 P.area ++ numBytes 2 0 ++ numBytes 2 A.kind ++ A.data

set_option maxHeartbeats 4000000 in
theorem pwhead_any (X : Nat → Prop) (b : Nat) (P : PV) (ok : P.Ok) (vn vd vk vs vh : Value) (A : AuV) (oa : A.Ok) (w : World) (hw : Wr X w b [] 65535) :
    Calls Tryz.prog 96 #[.agg #[.pointer (some ⟨b, 0, none⟩)], P.v vn vd vk vs vh, A.v] w fun e w' => e = .returned (.tuple #[]) ∧ Wr X w' b (pheadB P A) 65535 ∧ Kept X w w' := by
  obtain ⟨ot0, ot1⟩ := ok.typ
  obtain ⟨or0, or1⟩ := ok.router
  obtain ⟨oe0, oe1⟩ := ok.area
  obtain ⟨ok0, ok1⟩ := oa.kind
  clear ok oa
  have qk := wrap_u32 ok0 (by omega)
  obtain ⟨wa, hwa⟩ : ∃ wa, wa = ((w.alloc (.cells #[.pointer (some ⟨b, 0, none⟩)] 137)).alloc (.cells #[.int .u8 P.typ, .int .u32 P.router, .int .u32 P.area, .int .u32 P.mask, .int .u16 P.iv, .int .u8 P.opts, .int .u8 P.prio, .int .u32 P.dead, .int .u32 P.dr, .int .u32 P.bdr, vn, .int .u16 P.mtu, .int .u8 P.dopts, .int .u8 P.dflags, .int .u32 P.dseq, vd, vk, vs, vh] 33)).alloc (.cells #[.int .u16 A.kind, .int .u8 A.d0, .int .u8 A.d1, .int .u8 A.d2, .int .u8 A.d3, .int .u8 A.d4, .int .u8 A.d5, .int .u8 A.d6, .int .u8 A.d7] 44) := ⟨_, rfl⟩
  have ta : Touch (fun _ => False) w wa := by rw [hwa]; exact (((Touch.refl _ w).alloc _).alloc _).alloc _
  have za : wa.heap.size = w.heap.size + 3 := by rw [hwa]; simp
  have ca : wa.cell? ⟨w.heap.size, 0, none⟩ = some (.pointer (some ⟨b, 0, none⟩)) := by rw [hwa]; simp [go_sem]
  have pa : Pd wa (w.heap.size + 1) P vn vd vk vs vh := by
    have := (Pd.new (w.alloc (.cells #[.pointer (some ⟨b, 0, none⟩)] 137)) P vn vd vk vs vh 33).keep ((Touch.refl _ _).alloc (.cells #[.int .u16 A.kind, .int .u8 A.d0, .int .u8 A.d1, .int .u8 A.d2, .int .u8 A.d3, .int .u8 A.d4, .int .u8 A.d5, .int .u8 A.d6, .int .u8 A.d7] 44))
    rw [← hwa] at this
    simpa using this
  have aa : Ad wa (w.heap.size + 1 + 1) A := by
    have := Ad.new ((w.alloc (.cells #[.pointer (some ⟨b, 0, none⟩)] 137)).alloc (.cells #[.int .u8 P.typ, .int .u32 P.router, .int .u32 P.area, .int .u32 P.mask, .int .u16 P.iv, .int .u8 P.opts, .int .u8 P.prio, .int .u32 P.dead, .int .u32 P.dr, .int .u32 P.bdr, vn, .int .u16 P.mtu, .int .u8 P.dopts, .int .u8 P.dflags, .int .u32 P.dseq, vd, vk, vs, vh] 33)) A 44
    rw [← hwa] at this
    simpa using this
  obtain ⟨Y, hY⟩ : ∃ Y : Nat → Prop, Y = fun k => X k ∨ (w.heap.size ≤ k ∧ k < wa.heap.size) := ⟨_, rfl⟩
  have ya : ∀ k, w.heap.size ≤ k → k < w.heap.size + 3 → Y k := by subst hY; exact fun k h1 h2 => Or.inr (by omega)
  have WA : WL Y wa wa.drew b [] 0 := ⟨⟨Kept.of ((Touch.refl _ _).drew)⟩, by subst hY; exact (hw.more ta (fun k hk => hk)).keep ((Touch.refl _ _).drew), by simp⟩
  have YX : Hid (∀ k, X k → Y k) := by subst hY; exact fun k hk => Or.inl hk
  have TA : Hid (Touch (fun _ => False) w wa) := ta
  have c0 := hold_cell ca (ya _ (by dsimp only; omega) (by dsimp only; omega))
  have p0 := hold_cell pa.c0 (ya _ (by dsimp only; omega) (by dsimp only; omega))
  have p1 := hold_cell pa.c1 (ya _ (by dsimp only; omega) (by dsimp only; omega))
  have p2 := hold_cell pa.c2 (ya _ (by dsimp only; omega) (by dsimp only; omega))
  have a0 := hold_cell aa.c0 (ya _ (by dsimp only; omega) (by dsimp only; omega))
  have AA : Hid (∀ w', Hold Y wa w' → ArgAt w' (.slice (some ⟨w.heap.size + 1 + 1, 1, none⟩) 8 8) A.data) := fun w' s => (⟨hold_cell aa.c0 (ya _ (by dsimp only; omega) (by dsimp only; omega)) w' s, hold_cell aa.c1 (ya _ (by dsimp only; omega) (by dsimp only; omega)) w' s, hold_cell aa.c2 (ya _ (by dsimp only; omega) (by dsimp only; omega)) w' s, hold_cell aa.c3 (ya _ (by dsimp only; omega) (by dsimp only; omega)) w' s, hold_cell aa.c4 (ya _ (by dsimp only; omega) (by dsimp only; omega)) w' s, hold_cell aa.c5 (ya _ (by dsimp only; omega) (by dsimp only; omega)) w' s, hold_cell aa.c6 (ya _ (by dsimp only; omega) (by dsimp only; omega)) w' s, hold_cell aa.c7 (ya _ (by dsimp only; omega) (by dsimp only; omega)) w' s, hold_cell aa.c8 (ya _ (by dsimp only; omega) (by dsimp only; omega)) w' s⟩ : Ad w' (w.heap.size + 1 + 1) A).arg
  have st : Hold Y wa wa.drew := WA.k
  show Calls Tryz.prog 96 #[.agg #[.pointer (some ⟨b, 0, none⟩)], .agg #[.int .u8 P.typ, .int .u32 P.router, .int .u32 P.area, .int .u32 P.mask, .int .u16 P.iv, .int .u8 P.opts, .int .u8 P.prio, .int .u32 P.dead, .int .u32 P.dr, .int .u32 P.bdr, vn, .int .u16 P.mtu, .int .u8 P.dopts, .int .u8 P.dflags, .int .u32 P.dseq, vd, vk, vs, vh], .agg #[.int .u16 A.kind, .int .u8 A.d0, .int .u8 A.d1, .int .u8 A.d2, .int .u8 A.d3, .int .u8 A.d4, .int .u8 A.d5, .int .u8 A.d6, .int .u8 A.d7]] w _
  clear hw ta za ca pa aa hY ya
  go_enter Tryz.func96, Tryz.ntmps96
  go_upto_region 1 with fail
  rw [← hwa]
  clear hwa
  generalize w.heap.size + 1 + 1 = g3 at *
  generalize w.heap.size + 1 = g2 at *
  generalize w.heap.size = g1 at *
  go_region_held3 (fun w' => Hold Y wa w') (first | with_reducible assumption | exact Hold.step (by assumption) ((Touch.refl _ _).alloc _) | exact Hold.step (by assumption) ((Touch.refl _ _).drew)) (first
    | (go_at_call 124; refine Calls.mono (pput_i _ [2, P.typ] (WL.step WA ((Touch.refl _ _).alloc _)) (two_arg (by simp [go_sem]) (by simp [go_sem])) (by simp)) ?_; rintro e wx ⟨rfl, hx⟩; have sx := hx.k)
    | (go_at_call 125; refine Calls.mono (pnum_i _ (by omega) _ (by assumption) (by omega) (by simp [numTop] <;> omega) (by simp)) ?_; rintro e wx ⟨rfl, hx⟩; have sx := hx.k))
  have WB := hx.step ((Touch.refl _ _).drew)
  have st2 : Hold Y wa wx.drew := WB.k
  clear hx sx
  go_upto_region 2 with fail
  go_region_held3 (fun w' => Hold Y wa w') (first | with_reducible assumption | exact Hold.step (by assumption) ((Touch.refl _ _).drew)) (first
    | (go_at_call 124; refine Calls.mono (pput_i _ A.data (by assumption) (AA.out _ (by assumption)) (by simp [AuV.data])) ?_; rintro e wy ⟨rfl, hy⟩; have sy := hy.k)
    | (go_at_call 125; refine Calls.mono (pnum_i _ (by omega) _ (by assumption) (by omega) (by simp [numTop] <;> omega) (by simp)) ?_; rintro e wy ⟨rfl, hy⟩; have sy := hy.k))
  go_wp2
  go_end0
  refine ⟨rfl, ?_, ?_⟩
  · have := hy.wr.less YX.out
    simpa [pheadB, List.append_assoc] using this
  · exact (Kept.of TA.out).trans (hy.k.k.less (fun k _ hk => YX.out k hk))
end Go.Proofs.YtjgeklipeeooaaaGreatDoor

namespace Go.Proofs.YtjgeklipeeooaaaGreatDoor
open Go.RowKit
set_option linter.unusedVariables false
set_option maxRecDepth 100000

theorem shead_any (h : HV) (ok : h.All) (w : World) : Calls Tryz.prog 181 #[.agg #[.int .u16 h.age, .int .u8 h.opts, .int .u8 h.typ, .int .u32 h.id, .int .u32 h.adv, .int .i32 h.seq, .int .u16 h.sum, .int .u16 h.len]] w fun e w' => ∃ u, e = .returned u ∧ Buf w w' u (headB h) := by
  have HB := fun o => bytes_any h ok (.slice none 0 0) [] (w.alloc o) (Or.inl ⟨rfl, rfl⟩) (by simp)
  unfold HV.sv at HB
  simp only [List.append_nil] at HB
  clear ok
  generalize headB h = l at HB ⊢
  go_enter Tryz.func181, Tryz.ntmps181
  go_wp2_with fail
  refine Calls.mono (HB _) ?_
  rintro e w1 ⟨u, rfl, b1⟩
  obtain ⟨xa, xc, rfl⟩ := b1.form
  have B1 : Hid (Buf w w1 (.slice xa l.length xc) l) := b1.back ((Touch.refl _ w).alloc _)
  clear b1 HB
  go_wp2
  go_ret
  exact ⟨.slice xa l.length xc, rfl, B1.out⟩
end Go.Proofs.YtjgeklipeeooaaaGreatDoor
