/- The walk of StateEncodes: it returns true, and writes nothing that was there. -/
import Derived.Test.YthdkihnmeoacaaaGreatDoorRefEnc2
import Derived.Test.YthdkihnmeoacaaaGreatDoorStWideBd
import Derived.Test.YthdkihnmeoacaaaGreatDoorStEqS
import Derived.Test.YthdkihnmeoacaaaGreatDoorStaWr
import Derived.Test.YthdkihnmeoacaaaGreatDoorStLives2
import Derived.Deep.DeepCutAuto
namespace Go.Proofs.YthdkihnmeoacaaaGreatDoor
open Go.RowKit
set_option linter.unusedVariables false
set_option maxRecDepth 100000

set_option maxHeartbeats 4000000 in
theorem encodes_any (h : HV) (ok : h.All) (B : BV) (okb : B.Ok) (a1 a3 a8 : Option Addr) (q1 q3 q8 : Nat) (w : World) (hA : BArg w B (.slice a1 B.links.length q1) (.slice a3 B.routers.length q3) (.slice a8 B.data.length q8)) :
    Calls Tryz.prog 3 #[h.v, B.v (.slice a1 B.links.length q1) (.slice a3 B.routers.length q3) (.slice a8 B.data.length q8)] w fun e w' => e = .returned (.bool true) ∧ Below w.heap.size w w' := by
  show Calls Tryz.prog 3 #[.agg #[.int .u16 h.age, .int .u8 h.opts, .int .u8 h.typ, .int .u32 h.id, .int .u32 h.adv, .int .i32 h.seq, .int .u16 h.sum, .int .u16 h.len], .agg #[.int .u8 B.flags, .slice a1 B.links.length q1, .int .u32 B.mask, .slice a3 B.routers.length q3, .int .u32 B.metric, .bool B.type2, .int .u32 B.fwd, .int .u32 B.tag, .slice a8 B.data.length q8]] w _
  have Z1 : (w.alloc (.cells #[.int .u16 h.age, .int .u8 h.opts, .int .u8 h.typ, .int .u32 h.id, .int .u32 h.adv, .int .i32 h.seq, .int .u16 h.sum, .int .u16 h.len] 25)).heap.size = w.heap.size + 1 := by simp
  by_cases hbig : 8192 < B.links.length ∨ 32768 < B.routers.length ∨ 131072 < B.data.length
  · have HVY := fun w' => heavy_yes B a1 a3 a8 q1 q3 q8 w' hbig
    unfold BV.v at HVY
    clear hbig hA okb ok Z1
    go_enter Tryz.func3, Tryz.ntmps3
    go_wp2_with fail
    refine Calls.mono (HVY _) ?_
    rintro e w1 ⟨rfl, t1⟩
    have T1 : Hid (Touch (fun _ => False) w w1) := (((Touch.refl _ w).alloc _).alloc _).trans t1
    clear t1 HVY
    go_wp2_with fail
    refine (lives6 _).mono ?_
    rintro e w' ⟨rfl, tl⟩
    go_wp2
    go_ret
    exact ⟨rfl, (T1.out.trans tl).below (Nat.le_refl _) (fun _ _ h => h)⟩
  have lt : Light B := ⟨by omega, by omega, by omega⟩
  have HVN := fun w' => heavy_no B a1 a3 a8 q1 q3 q8 w' hbig
  have HA : Hid (BArg w B (.slice a1 B.links.length q1) (.slice a3 B.routers.length q3) (.slice a8 B.data.length q8)) := hA
  have LT : Hid (Light B) := lt
  have HW := fun w' (a : BArg w' B (.slice a1 B.links.length q1) (.slice a3 B.routers.length q3) (.slice a8 B.data.length q8)) => wbody_any B okb lt a1 a3 a8 q1 q3 q8 w' a
  have HE := fun vl vr vd w' (a : BArg w' B vl vr vd) => encode_all h ok B okb lt vl vr vd w' a
  have HD := fun w' (a : BArg w' B (.slice a1 B.links.length q1) (.slice a3 B.routers.length q3) (.slice a8 B.data.length q8)) => dencode_all h ok B okb lt (.slice a1 B.links.length q1) (.slice a3 B.routers.length q3) (.slice a8 B.data.length q8) w' a (by omega) (by omega) (by omega)
  have HES := fun va' vb' w' (a : RowAt w' va' (enL h B)) (b : ArgAt w' vb' (enL h B)) => estate_true (enH h B) va' vb' (enL h B) w' a b
  have HEB := fun b1 b3 b8 w' x y z => ebody_true B (some ⟨b1, 0, none⟩) (some ⟨b3, 0, none⟩) (some ⟨b8, 0, none⟩) a1 a3 a8 (B.links.length + 64) (B.routers.length + 64) (B.data.length + 64) q1 q3 q8 w' x y z
  have HSB := fun b1 b3 b8 w' x => sbody_any B lt b1 b3 b8 w' x
  have HLL : Hid ((enL h B).length ≤ 65515) := enL_length h B
  generalize encE h.typ B = ec at *
  generalize enH h B = H at *
  generalize enL h B = bd at *
  unfold HV.sv at HE HD HES
  unfold HV.v at HE HD
  unfold BV.v at HVN HW HE HD HEB HSB
  clear hA okb ok hbig lt
  go_enter Tryz.func3, Tryz.ntmps3
  go_upto_region 1 with fail
  have K0 : Hid (Hd ((w.alloc (.cells #[.int .u16 h.age, .int .u8 h.opts, .int .u8 h.typ, .int .u32 h.id, .int .u32 h.adv, .int .i32 h.seq, .int .u16 h.sum, .int .u16 h.len] 25)).alloc (.cells #[.int .u8 B.flags, .slice a1 B.links.length q1, .int .u32 B.mask, .slice a3 B.routers.length q3, .int .u32 B.metric, .bool B.type2, .int .u32 B.fwd, .int .u32 B.tag, .slice a8 B.data.length q8] 30)) w.heap.size h) := (Hd.new w h _).keep ((Touch.refl _ _).alloc _)
  have D0 : Hid (Bd ((w.alloc (.cells #[.int .u16 h.age, .int .u8 h.opts, .int .u8 h.typ, .int .u32 h.id, .int .u32 h.adv, .int .i32 h.seq, .int .u16 h.sum, .int .u16 h.len] 25)).alloc (.cells #[.int .u8 B.flags, .slice a1 B.links.length q1, .int .u32 B.mask, .slice a3 B.routers.length q3, .int .u32 B.metric, .bool B.type2, .int .u32 B.fwd, .int .u32 B.tag, .slice a8 B.data.length q8] 30)) (w.heap.size + 1) B (.slice a1 B.links.length q1) (.slice a3 B.routers.length q3) (.slice a8 B.data.length q8)) := Z1 ▸ Bd.new (w.alloc (.cells #[.int .u16 h.age, .int .u8 h.opts, .int .u8 h.typ, .int .u32 h.id, .int .u32 h.adv, .int .i32 h.seq, .int .u16 h.sum, .int .u16 h.len] 25)) B _ _ _ _
  have T0 : Hid (Touch (fun _ => False) w ((w.alloc (.cells #[.int .u16 h.age, .int .u8 h.opts, .int .u8 h.typ, .int .u32 h.id, .int .u32 h.adv, .int .i32 h.seq, .int .u16 h.sum, .int .u16 h.len] 25)).alloc (.cells #[.int .u8 B.flags, .slice a1 B.links.length q1, .int .u32 B.mask, .slice a3 B.routers.length q3, .int .u32 B.metric, .bool B.type2, .int .u32 B.fwd, .int .u32 B.tag, .slice a8 B.data.length q8] 30))) := ((Touch.refl _ w).alloc _).alloc _
  clear Z1
  generalize (w.alloc (.cells #[.int .u16 h.age, .int .u8 h.opts, .int .u8 h.typ, .int .u32 h.id, .int .u32 h.adv, .int .i32 h.seq, .int .u16 h.sum, .int .u16 h.len] 25)).alloc (.cells #[.int .u8 B.flags, .slice a1 B.links.length q1, .int .u32 B.mask, .slice a3 B.routers.length q3, .int .u32 B.metric, .bool B.type2, .int .u32 B.fwd, .int .u32 B.tag, .slice a8 B.data.length q8] 30) = x0 at *
  generalize hg1 : w.heap.size + 1 = g1 at *
  have HG1 : Hid (w.heap.size + 1 = g1) := hg1
  generalize hg0 : w.heap.size = g0 at *
  have HG0 : Hid (w.heap.size = g0) := hg0
  clear hg0 hg1
  obtain ⟨d0, d1, d2, d3, d4, d5, d6, d7, d8⟩ := D0.out
  go_wp2_with fail
  refine Calls.mono (HVN _) ?_
  rintro e w1 ⟨rfl, t1⟩
  have T1 : Hid (Touch (fun _ => False) x0 w1) := t1
  clear d0 d1 d2 d3 d4 d5 d6 d7 d8 t1 HVN
  obtain ⟨d0, d1, d2, d3, d4, d5, d6, d7, d8⟩ := D0.out.keep T1.out
  go_wp2_with fail
  refine Calls.mono (HW _ (HA.out.keep (T0.out.trans T1.out))) ?_
  rintro e w2 ⟨b1, b3, b8, rfl, wb, k1, k3, k8, t2⟩
  have T2 : Hid (Touch (fun _ => False) w1 (w2.alloc (.cells #[.int .u8 B.flags, .slice (some ⟨b1, 0, none⟩) B.links.length (B.links.length + 64), .int .u32 B.mask, .slice (some ⟨b3, 0, none⟩) B.routers.length (B.routers.length + 64), .int .u32 B.metric, .bool B.type2, .int .u32 B.fwd, .int .u32 B.tag, .slice (some ⟨b8, 0, none⟩) B.data.length (B.data.length + 64)] 30))) := t2.alloc _
  have WB2 : Hid (WBody (w2.alloc (.cells #[.int .u8 B.flags, .slice (some ⟨b1, 0, none⟩) B.links.length (B.links.length + 64), .int .u32 B.mask, .slice (some ⟨b3, 0, none⟩) B.routers.length (B.routers.length + 64), .int .u32 B.metric, .bool B.type2, .int .u32 B.fwd, .int .u32 B.tag, .slice (some ⟨b8, 0, none⟩) B.data.length (B.data.length + 64)] 30)) B b1 b3 b8) := wb.keep ((Touch.refl _ _).alloc _)
  have S5 : Hid (Bd (w2.alloc (.cells #[.int .u8 B.flags, .slice (some ⟨b1, 0, none⟩) B.links.length (B.links.length + 64), .int .u32 B.mask, .slice (some ⟨b3, 0, none⟩) B.routers.length (B.routers.length + 64), .int .u32 B.metric, .bool B.type2, .int .u32 B.fwd, .int .u32 B.tag, .slice (some ⟨b8, 0, none⟩) B.data.length (B.data.length + 64)] 30)) w2.heap.size B (.slice (some ⟨b1, 0, none⟩) B.links.length (B.links.length + 64)) (.slice (some ⟨b3, 0, none⟩) B.routers.length (B.routers.length + 64)) (.slice (some ⟨b8, 0, none⟩) B.data.length (B.data.length + 64))) := Bd.new w2 B _ _ _ _
  have Z2 : Hid (w1.heap.size ≤ w2.heap.size ∧ w2.heap.size < (w2.alloc (.cells #[.int .u8 B.flags, .slice (some ⟨b1, 0, none⟩) B.links.length (B.links.length + 64), .int .u32 B.mask, .slice (some ⟨b3, 0, none⟩) B.routers.length (B.routers.length + 64), .int .u32 B.metric, .bool B.type2, .int .u32 B.fwd, .int .u32 B.tag, .slice (some ⟨b8, 0, none⟩) B.data.length (B.data.length + 64)] 30)).heap.size ∧ b1 < w2.heap.size ∧ b3 < w2.heap.size ∧ b8 < w2.heap.size) := ⟨t2.size, by simp, lt_of_heap wb.l, lt_of_heap wb.r, lt_of_heap wb.d⟩
  clear d0 d1 d2 d3 d4 d5 d6 d7 d8 t2 wb k1 k3 k8 HW
  go_upto_region 4 with fail
  generalize w2.alloc (.cells #[.int .u8 B.flags, .slice (some ⟨b1, 0, none⟩) B.links.length (B.links.length + 64), .int .u32 B.mask, .slice (some ⟨b3, 0, none⟩) B.routers.length (B.routers.length + 64), .int .u32 B.metric, .bool B.type2, .int .u32 B.fwd, .int .u32 B.tag, .slice (some ⟨b8, 0, none⟩) B.data.length (B.data.length + 64)] 30) = x2 at *
  generalize w2.heap.size = g5 at *
  obtain ⟨c0, c1, c2, c3, c4, c5, c6, c7⟩ := K0.out.keep (T1.out.trans T2.out)
  obtain ⟨d0, d1, d2, d3, d4, d5, d6, d7, d8⟩ := S5.out
  go_wp2_with fail
  refine Calls.mono (HE _ _ _ _ ((WB2.out.arg LT.out))) ?_
  rintro e w3 ⟨us_, rfl, bs_⟩
  obtain ⟨as_, cs_, rfl⟩ := bs_.form
  have T3 : Hid (Touch (fun _ => False) x2 (w3.alloc (.cells #[.int .u16 H.age, .int .u8 H.opts, .int .u8 H.typ, .int .u32 H.id, .int .u32 H.adv, .int .i32 H.seq, .int .u16 H.sum, .int .u16 H.len, .slice as_ bd.length cs_] 35))) := bs_.t.alloc _
  have Ss_ : Hid (Sd (w3.alloc (.cells #[.int .u16 H.age, .int .u8 H.opts, .int .u8 H.typ, .int .u32 H.id, .int .u32 H.adv, .int .i32 H.seq, .int .u16 H.sum, .int .u16 H.len, .slice as_ bd.length cs_] 35)) w3.heap.size H (.slice as_ bd.length cs_)) := Sd.new w3 H _ _
  have Bs_ : Hid ((w3.alloc (.cells #[.int .u16 H.age, .int .u8 H.opts, .int .u8 H.typ, .int .u32 H.id, .int .u32 H.adv, .int .i32 H.seq, .int .u16 H.sum, .int .u16 H.len, .slice as_ bd.length cs_] 35)).ownsRow x2.heap.size 5 1 (.slice as_ bd.length cs_) bd.length (bytesOf bd)) := own_touch bs_.own ((Touch.refl (fun _ => False) _).alloc _) (fun _ _ h => h)
  have Z3 : Hid (x2.heap.size ≤ w3.heap.size ∧ w3.heap.size < (w3.alloc (.cells #[.int .u16 H.age, .int .u8 H.opts, .int .u8 H.typ, .int .u32 H.id, .int .u32 H.adv, .int .i32 H.seq, .int .u16 H.sum, .int .u16 H.len, .slice as_ bd.length cs_] 35)).heap.size ∧ ∀ k, (Value.slice as_ bd.length cs_).ownBlock = some k → x2.heap.size ≤ k ∧ k < w3.heap.size) := ⟨bs_.t.size, by simp, fun k hk => bs_.own.lt k hk⟩
  clear bs_ c0 c1 c2 c3 c4 c5 c6 c7 d0 d1 d2 d3 d4 d5 d6 d7 d8
  go_upto_region 5 with fail
  generalize w3.alloc (.cells #[.int .u16 H.age, .int .u8 H.opts, .int .u8 H.typ, .int .u32 H.id, .int .u32 H.adv, .int .i32 H.seq, .int .u16 H.sum, .int .u16 H.len, .slice as_ bd.length cs_] 35) = x3 at *
  generalize w3.heap.size = g6 at *
  obtain ⟨c0, c1, c2, c3, c4, c5, c6, c7⟩ := K0.out.keep ((T1.out.trans T2.out).trans T3.out)
  obtain ⟨d0, d1, d2, d3, d4, d5, d6, d7, d8⟩ := S5.out.keep T3.out
  go_wp2_with fail
  refine Calls.mono (HE _ _ _ _ ((WB2.out.arg LT.out).keep T3.out)) ?_
  rintro e w4 ⟨ut_, rfl, bt_⟩
  obtain ⟨at_, ct_, rfl⟩ := bt_.form
  have T4 : Hid (Touch (fun _ => False) x3 (w4.alloc (.cells #[.int .u16 H.age, .int .u8 H.opts, .int .u8 H.typ, .int .u32 H.id, .int .u32 H.adv, .int .i32 H.seq, .int .u16 H.sum, .int .u16 H.len, .slice at_ bd.length ct_] 35))) := bt_.t.alloc _
  have St_ : Hid (Sd (w4.alloc (.cells #[.int .u16 H.age, .int .u8 H.opts, .int .u8 H.typ, .int .u32 H.id, .int .u32 H.adv, .int .i32 H.seq, .int .u16 H.sum, .int .u16 H.len, .slice at_ bd.length ct_] 35)) w4.heap.size H (.slice at_ bd.length ct_)) := Sd.new w4 H _ _
  have Bt_ : Hid ((w4.alloc (.cells #[.int .u16 H.age, .int .u8 H.opts, .int .u8 H.typ, .int .u32 H.id, .int .u32 H.adv, .int .i32 H.seq, .int .u16 H.sum, .int .u16 H.len, .slice at_ bd.length ct_] 35)).ownsRow x3.heap.size 5 1 (.slice at_ bd.length ct_) bd.length (bytesOf bd)) := own_touch bt_.own ((Touch.refl (fun _ => False) _).alloc _) (fun _ _ h => h)
  have Z4 : Hid (x3.heap.size ≤ w4.heap.size ∧ w4.heap.size < (w4.alloc (.cells #[.int .u16 H.age, .int .u8 H.opts, .int .u8 H.typ, .int .u32 H.id, .int .u32 H.adv, .int .i32 H.seq, .int .u16 H.sum, .int .u16 H.len, .slice at_ bd.length ct_] 35)).heap.size ∧ ∀ k, (Value.slice at_ bd.length ct_).ownBlock = some k → x3.heap.size ≤ k ∧ k < w4.heap.size) := ⟨bt_.t.size, by simp, fun k hk => bt_.own.lt k hk⟩
  clear bt_ c0 c1 c2 c3 c4 c5 c6 c7 d0 d1 d2 d3 d4 d5 d6 d7 d8
  go_upto_region 6 with fail
  generalize w4.alloc (.cells #[.int .u16 H.age, .int .u8 H.opts, .int .u8 H.typ, .int .u32 H.id, .int .u32 H.adv, .int .i32 H.seq, .int .u16 H.sum, .int .u16 H.len, .slice at_ bd.length ct_] 35) = x4 at *
  generalize w4.heap.size = g8 at *
  obtain ⟨c0, c1, c2, c3, c4, c5, c6, c7⟩ := K0.out.keep (((T1.out.trans T2.out).trans T3.out).trans T4.out)
  obtain ⟨d0, d1, d2, d3, d4, d5, d6, d7, d8⟩ := D0.out.keep (((T1.out.trans T2.out).trans T3.out).trans T4.out)
  go_wp2_with fail
  refine Calls.mono (HD _ (HA.out.keep ((((T0.out.trans T1.out).trans T2.out).trans T3.out).trans T4.out))) ?_
  rintro e w5 ⟨ur_, rfl, br_⟩
  obtain ⟨ar_, cr_, rfl⟩ := br_.form
  have T5 : Hid (Touch (fun _ => False) x4 (w5.alloc (.cells #[.int .u16 H.age, .int .u8 H.opts, .int .u8 H.typ, .int .u32 H.id, .int .u32 H.adv, .int .i32 H.seq, .int .u16 H.sum, .int .u16 H.len, .slice ar_ bd.length cr_] 35))) := br_.t.alloc _
  have Sr_ : Hid (Sd (w5.alloc (.cells #[.int .u16 H.age, .int .u8 H.opts, .int .u8 H.typ, .int .u32 H.id, .int .u32 H.adv, .int .i32 H.seq, .int .u16 H.sum, .int .u16 H.len, .slice ar_ bd.length cr_] 35)) w5.heap.size H (.slice ar_ bd.length cr_)) := Sd.new w5 H _ _
  have Br_ : Hid ((w5.alloc (.cells #[.int .u16 H.age, .int .u8 H.opts, .int .u8 H.typ, .int .u32 H.id, .int .u32 H.adv, .int .i32 H.seq, .int .u16 H.sum, .int .u16 H.len, .slice ar_ bd.length cr_] 35)).ownsRow x4.heap.size 5 1 (.slice ar_ bd.length cr_) bd.length (bytesOf bd)) := own_touch br_.own ((Touch.refl (fun _ => False) _).alloc _) (fun _ _ h => h)
  have Z5 : Hid (x4.heap.size ≤ w5.heap.size ∧ w5.heap.size < (w5.alloc (.cells #[.int .u16 H.age, .int .u8 H.opts, .int .u8 H.typ, .int .u32 H.id, .int .u32 H.adv, .int .i32 H.seq, .int .u16 H.sum, .int .u16 H.len, .slice ar_ bd.length cr_] 35)).heap.size ∧ ∀ k, (Value.slice ar_ bd.length cr_).ownBlock = some k → x4.heap.size ≤ k ∧ k < w5.heap.size) := ⟨br_.t.size, by simp, fun k hk => br_.own.lt k hk⟩
  clear br_ c0 c1 c2 c3 c4 c5 c6 c7 d0 d1 d2 d3 d4 d5 d6 d7 d8
  go_upto_region 7 with fail
  generalize w5.alloc (.cells #[.int .u16 H.age, .int .u8 H.opts, .int .u8 H.typ, .int .u32 H.id, .int .u32 H.adv, .int .i32 H.seq, .int .u16 H.sum, .int .u16 H.len, .slice ar_ bd.length cr_] 35) = x5 at *
  generalize w5.heap.size = g10 at *
  have T05 : Hid (Touch (fun _ => False) x0 x5) := (((T1.out.trans T2.out).trans T3.out).trans T4.out).trans T5.out
  have T25 : Hid (Touch (fun _ => False) x2 x5) := (T3.out.trans T4.out).trans T5.out
  obtain ⟨⟨s0, s1, s2, s3, s4, s5, s6, s7⟩, s8⟩ := Ss_.out.keep (T4.out.trans T5.out)
  obtain ⟨⟨r0, r1, r2, r3, r4, r5, r6, r7⟩, r8⟩ := Sr_.out
  have RS : Hid (RowAt x5 (.slice as_ bd.length cs_) bd) := own_rowAt (own_touch Bs_.out (T4.out.trans T5.out) (fun _ _ h => h))
  have RT : Hid (RowAt x5 (.slice at_ bd.length ct_) bd) := own_rowAt (own_touch Bt_.out T5.out (fun _ _ h => h))
  have RR : Hid (RowAt x5 (.slice ar_ bd.length cr_) bd) := own_rowAt Br_.out
  clear HE HD
  go_wp2_with fail
  refine Calls.mono (HES _ _ _ RS.out RR.out.arg) ?_
  rintro e w6 ⟨rfl, t6⟩
  have T6 : Hid (Touch (fun _ => False) x5 w6) := t6
  clear s0 s1 s2 s3 s4 s5 s6 s7 s8 r0 r1 r2 r3 r4 r5 r6 r7 r8 t6
  obtain ⟨⟨s0, s1, s2, s3, s4, s5, s6, s7⟩, s8⟩ := St_.out.keep (T5.out.trans T6.out)
  obtain ⟨⟨r0, r1, r2, r3, r4, r5, r6, r7⟩, r8⟩ := Sr_.out.keep T6.out
  go_wp2_with fail
  refine Calls.mono (HES _ _ _ (RT.out.touch T6.out (fun _ _ h => h)) (RR.out.arg.keepN T6.out)) ?_
  rintro e w7 ⟨rfl, t7⟩
  have T7 : Hid (Touch (fun _ => False) x5 w7) := T6.out.trans t7
  clear s0 s1 s2 s3 s4 s5 s6 s7 s8 r0 r1 r2 r3 r4 r5 r6 r7 r8 t7 T6 RS RT RR HES
  obtain ⟨s0, s1, s2, s3, s4, s5, s6, s7, s8⟩ := S5.out.keep (T25.out.trans T7.out)
  obtain ⟨r0, r1, r2, r3, r4, r5, r6, r7, r8⟩ := D0.out.keep (T05.out.trans T7.out)
  go_wp2_with fail
  refine Calls.mono (HEB _ _ _ _ ((WB2.out.keep (T25.out.trans T7.out)).arg LT.out) ((WB2.out.keep (T25.out.trans T7.out)).row LT.out) (HA.out.keep ((T0.out.trans T05.out).trans T7.out))) ?_
  rintro e w8 ⟨rfl, t8⟩
  have T8 : Hid (Touch (fun _ => False) x5 w8) := T7.out.trans t8
  clear s0 s1 s2 s3 s4 s5 s6 s7 s8 r0 r1 r2 r3 r4 r5 r6 r7 r8 t8 T7 HEB
  obtain ⟨s0, s1, s2, s3, s4, s5, s6, s7, s8⟩ := S5.out.keep (T25.out.trans T8.out)
  go_wp2_with fail
  refine Calls.mono (HSB _ _ _ _ (WB2.out.keep (T25.out.trans T8.out))) ?_
  rintro e w9 ⟨rfl, t9⟩
  have T9 : Hid (Touch (fun _ => False) x5 w9) := T8.out.trans t9
  clear s0 s1 s2 s3 s4 s5 s6 s7 s8 t9 T8 HSB
  go_upto_region 10 with fail
  have hbag := bag_new (w := w9) (T := 62) #[.slice none 0 0, .slice none 0 0, .slice none 0 0, .slice none 0 0, .slice none 0 0, .slice none 0 0, .slice none 0 0, .slice none 0 0, .slice none 0 0, .slice none 0 0, .slice none 0 0, .slice none 0 0, .slice none 0 0, .slice none 0 0, .slice none 0 0, .slice none 0 0, .slice none 0 0, .slice none 0 0, .slice none 0 0] rfl
  have HB0 : Hid (BagB (w9.alloc (.cells #[.slice none 0 0, .slice none 0 0, .slice none 0 0, .slice none 0 0, .slice none 0 0, .slice none 0 0, .slice none 0 0, .slice none 0 0, .slice none 0 0, .slice none 0 0, .slice none 0 0, .slice none 0 0, .slice none 0 0, .slice none 0 0, .slice none 0 0, .slice none 0 0, .slice none 0 0, .slice none 0 0, .slice none 0 0] 62)) w9.heap.size (.slice none 0 0) [] ∧ (w9.alloc (.cells #[.slice none 0 0, .slice none 0 0, .slice none 0 0, .slice none 0 0, .slice none 0 0, .slice none 0 0, .slice none 0 0, .slice none 0 0, .slice none 0 0, .slice none 0 0, .slice none 0 0, .slice none 0 0, .slice none 0 0, .slice none 0 0, .slice none 0 0, .slice none 0 0, .slice none 0 0, .slice none 0 0, .slice none 0 0] 62)).frozen? ⟨w9.heap.size, 0, none⟩ = false ∧ BagN (w9.alloc (.cells #[.slice none 0 0, .slice none 0 0, .slice none 0 0, .slice none 0 0, .slice none 0 0, .slice none 0 0, .slice none 0 0, .slice none 0 0, .slice none 0 0, .slice none 0 0, .slice none 0 0, .slice none 0 0, .slice none 0 0, .slice none 0 0, .slice none 0 0, .slice none 0 0, .slice none 0 0, .slice none 0 0, .slice none 0 0] 62)) w9.heap.size) := hbag
  have T10 : Hid (Touch (fun _ => False) x5 (w9.alloc (.cells #[.slice none 0 0, .slice none 0 0, .slice none 0 0, .slice none 0 0, .slice none 0 0, .slice none 0 0, .slice none 0 0, .slice none 0 0, .slice none 0 0, .slice none 0 0, .slice none 0 0, .slice none 0 0, .slice none 0 0, .slice none 0 0, .slice none 0 0, .slice none 0 0, .slice none 0 0, .slice none 0 0, .slice none 0 0] 62))) := T9.out.alloc _
  have Z9 : Hid (x5.heap.size ≤ w9.heap.size) := T9.out.size
  clear hbag T9
  generalize w9.alloc (.cells #[.slice none 0 0, .slice none 0 0, .slice none 0 0, .slice none 0 0, .slice none 0 0, .slice none 0 0, .slice none 0 0, .slice none 0 0, .slice none 0 0, .slice none 0 0, .slice none 0 0, .slice none 0 0, .slice none 0 0, .slice none 0 0, .slice none 0 0, .slice none 0 0, .slice none 0 0, .slice none 0 0, .slice none 0 0] 62) = x9 at *
  generalize w9.heap.size = bb at *
  obtain ⟨⟨s0, s1, s2, s3, s4, s5, s6, s7⟩, s8⟩ := Ss_.out.keep ((T4.out.trans T5.out).trans T10.out)
  have OS : Hid (x9.ownsRow 0 5 1 (.slice as_ bd.length cs_) bd.length (bytesOf bd)) := own_lower (own_touch Bs_.out ((T4.out.trans T5.out).trans T10.out) (fun _ _ h => h)) (Nat.zero_le _)
  have OT : Hid (x9.ownsRow 0 5 1 (.slice at_ bd.length ct_) bd.length (bytesOf bd)) := own_lower (own_touch Bt_.out (T5.out.trans T10.out) (fun _ _ h => h)) (Nat.zero_le _)
  have T19 : Hid (Touch (fun _ => False) w x9) := (T0.out.trans T05.out).trans T10.out
  have ST9 : Hid (Sd x9 g8 H (.slice at_ bd.length ct_)) := St_.out.keep (T5.out.trans T10.out)
  have KS : Hid (∀ k, (Value.slice as_ bd.length cs_).ownBlock = some k → w.heap.size ≤ k ∧ k < g6) := fun k hk => by
    have h1 := Z3.out.2.2 k hk; have h2 := ((T0.out.trans T1.out).trans T2.out).size; omega
  have KT : Hid (∀ k, (Value.slice at_ bd.length ct_).ownBlock = some k → g6 < k ∧ k < g8) := fun k hk => by
    have h1 := Z4.out.2.2 k hk; have h2 := Z3.out; omega
  have KG6 : Hid (w.heap.size ≤ g6) := by have h3 := Z3.out; have h2 := ((T0.out.trans T1.out).trans T2.out).size; show _ ≤ _; omega
  have KG : Hid (g6 < g8 ∧ g8 < bb ∧ w.heap.size ≤ bb) := by
    have h1 := Z5.out; have h2 := Z4.out; have h3 := Z3.out; have h7 := Z9.out; have h8 := (T0.out.trans T05.out).size
    refine ⟨?_, ?_, ?_⟩ <;> omega
  clear Ss_ St_ Sr_ Bs_ Bt_ Br_ T1 T2 T3 T4 T5 T05 T25 T10 Z2 Z3 Z4 Z5 Z9 WB2 S5 D0 K0 T0 HA
  go_wp2_with fail
  refine Calls.mono (addS_any bb (.slice none 0 0) [] H (.slice as_ bd.length cs_) bd x9 HB0.out.1 HB0.out.2.1 OS.out (by have := HLL.out; omega) (fun k hk => ⟨by have := KS.out k hk; have := KG.out; omega, by simp [Value.ownBlock], by simp⟩) (by simp) (by simp [Value.ownBlock])) ?_
  rintro e y1 ⟨rfl, gv1, hb1, hf1, hq1, hr1, tb1, hc1⟩
  have HB1 : Hid (BagB y1 bb gv1 ([] ++ [.slice as_ bd.length cs_])) := hb1
  have HF1 : Hid (y1.frozen? ⟨bb, 0, none⟩ = false) := hf1
  have HQ1 : Hid (∀ k, gv1.ownBlock = some k → bb < k) := hq1
  have TB1 : Hid (Touch (fun k => k = bb) x9 y1) := Touch.mono tb1 (fun i _ e => by simpa [Value.ownBlock] using e)
  have HN1 : Hid (BagN y1 bb) := fun j h1 h2 => hc1 j _ h1 (HB0.out.2.2 j h1 h2)
  have OT1 : Hid (y1.ownsRow 0 5 1 (.slice at_ bd.length ct_) bd.length (bytesOf bd)) := own_touch OT.out TB1.out (fun k hk e => by have := KT.out k hk; have := KG.out; omega)
  clear hb1 hf1 hq1 hr1 tb1 hc1 s0 s1 s2 s3 s4 s5 s6 s7 s8 HB0 OT
  have tt : g8 < x9.heap.size := lt_of_cell ST9.out.c8
  have hgb : ¬ g8 = bb := by have := KG.out; omega
  have mv : ∀ i v, x9.cell? ⟨g8, i, none⟩ = some v → y1.cell? ⟨g8, i, none⟩ = some v := fun i v hc => (TB1.out.cell (p := ⟨g8, i, none⟩) tt hgb).trans hc
  have s0 := mv _ _ ST9.out.hd.c0
  have s1 := mv _ _ ST9.out.hd.c1
  have s2 := mv _ _ ST9.out.hd.c2
  have s3 := mv _ _ ST9.out.hd.c3
  have s4 := mv _ _ ST9.out.hd.c4
  have s5 := mv _ _ ST9.out.hd.c5
  have s6 := mv _ _ ST9.out.hd.c6
  have s7 := mv _ _ ST9.out.hd.c7
  have s8 := mv _ _ ST9.out.c8
  clear mv tt hgb ST9
  go_wp2_with fail
  refine Calls.mono (addS_any bb gv1 _ H (.slice at_ bd.length ct_) bd y1 HB1.out HF1.out OT1.out (by have := HLL.out; omega) (fun k hk => ⟨by have := KT.out k hk; have := KG.out; omega, fun e => by have h1 := HQ1.out k e; have h2 := KT.out k hk; have := KG.out; omega, fun m u hu e => by
    have h1 : u = .slice as_ bd.length cs_ := by
      cases m with
      | zero => simpa using hu.symm
      | succ m => simp at hu
    subst h1
    have h2 := KS.out k e; have h3 := KT.out k hk; omega⟩) (by simp) HQ1.out) ?_
  rintro e y2 ⟨rfl, gv2, hb2, hf2, hq2, hr2, tb2, hc2⟩
  have HB2 : Hid (BagB y2 bb gv2 ([] ++ [.slice as_ bd.length cs_] ++ [.slice at_ bd.length ct_])) := hb2
  have HN2 : Hid (BagN y2 bb) := fun j h1 h2 => hc2 j _ h1 (HN1.out j h1 h2)
  have TB2 : Hid (Touch (fun k => bb ≤ k) x9 y2) := (Touch.mono TB1.out (fun i _ e => by omega)).trans (Touch.mono tb2 (fun i _ e => by rcases e with e | e; omega; have := HQ1.out i e; omega))
  clear hb2 hf2 hq2 hr2 tb2 hc2 s0 s1 s2 s3 s4 s5 s6 s7 s8 HB1 HF1 HQ1 HN1 OT1 TB1
  go_wp2_with fail
  refine Calls.mono (Apart_any bb gv2 _ y2 HB2.out HN2.out) ?_
  rintro e y3 ⟨rfl, t3⟩
  have T3 : Hid (Touch (fun k => w.heap.size ≤ k) x9 y3) := (Touch.mono TB2.out (fun i _ e => by have := KG.out; omega)).trans (Touch.mono t3 (fun i _ f => by
    obtain ⟨m, v, hm, hv⟩ := f
    match m, hm with
    | 0, hm => (have : v = .slice as_ bd.length cs_ := by simpa using hm.symm); subst this; exact (KS.out _ hv).1
    | 1, hm => (have : v = .slice at_ bd.length ct_ := by simpa using hm.symm); subst this; have := KT.out _ hv; have := KG6.out; omega
    | m + 2, hm => simp at hm))
  clear t3 TB2 HB2 HN2
  go_wp2_with fail
  refine (lives6 _).mono ?_
  rintro e w' ⟨rfl, tl⟩
  go_wp2
  go_ret
  exact ⟨rfl, ((T19.out.trans' T3.out (fun i hi e => by omega)).trans tl).below (by have := HG0.out; omega) (fun _ _ h => h)⟩
end Go.Proofs.YthdkihnmeoacaaaGreatDoor
