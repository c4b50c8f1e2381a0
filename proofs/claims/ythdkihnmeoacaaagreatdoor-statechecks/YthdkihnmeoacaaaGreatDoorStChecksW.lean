/- The walk of StateChecks: it returns true, and writes nothing that was there. -/
import Derived.Test.YthdkihnmeoacaaaGreatDoorRefChk
import Derived.Test.YthdkihnmeoacaaaGreatDoorStEqS
import Derived.Test.YthdkihnmeoacaaaGreatDoorStaWr
import Derived.Test.YthdkihnmeoacaaaGreatDoorStLives2
import Derived.Deep.DeepCutAuto
import Derived.Deep.RegionHeld3
namespace Go.Proofs.YthdkihnmeoacaaaGreatDoor
open Go.RowKit
set_option linter.unusedVariables false
set_option maxRecDepth 100000

set_option maxHeartbeats 4000000 in
theorem checks_any (h : HV) (ok : h.All) (v : Value) (rs : List Int) (w : World) (h0 : ArgAt w v rs) (hby : ∀ z ∈ rs, 0 ≤ z ∧ z < 256) :
    Calls Tryz.prog 5 #[h.sv v] w fun e w' => e = .returned (.bool true) ∧ Below w.heap.size w w' := by
  obtain ⟨va, vc, rfl, hm⟩ := h0.form
  show Calls Tryz.prog 5 #[.agg #[.int .u16 h.age, .int .u8 h.opts, .int .u8 h.typ, .int .u32 h.id, .int .u32 h.adv, .int .i32 h.seq, .int .u16 h.sum, .int .u16 h.len, .slice va rs.length vc]] w _
  by_cases hbig : 131072 < rs.length
  · have hb' : (131072 : Int) < (rs.length : Int) := by omega
    clear h0 hby hbig
    go_enter Tryz.func5, Tryz.ntmps5
    go_wp2_with fail
    refine (lives6 _).mono ?_
    rintro e w' ⟨rfl, tl⟩
    go_wp2
    go_ret
    exact ⟨rfl, (((Touch.refl _ w).alloc _).trans tl).below (Nat.le_refl _) (fun _ _ h => h)⟩
  have hb' : ¬ (131072 : Int) < (rs.length : Int) := by omega
  have HL : Hid (rs.length ≤ 131072) := by show _ ≤ _; omega
  have H0 : Hid (ArgAt w (.slice va rs.length vc) rs) := h0
  have HY : Hid (∀ z ∈ rs, 0 ≤ z ∧ z < 256) := hby
  have HW := fun w' (a : ArgAt w' (.slice va rs.length vc) rs) => wstate_any h (.slice va rs.length vc) rs w' a HY.out (by have := HL.out; omega)
  have HC := fun v' w' (a : ArgAt w' v' rs) => check_any h ok v' rs w' a HY.out (by have := HL.out; omega)
  have HDC := fun w' (a : ArgAt w' (.slice va rs.length vc) rs) => dcheck_any h ok (.slice va rs.length vc) rs w' a HY.out HL.out
  have HS := fun v' w' (a : ArgAt w' v' rs) => seal_all h ok v' rs w' a HY.out HL.out
  have HDS := fun w' (a : ArgAt w' (.slice va rs.length vc) rs) => dseal_all h ok (.slice va rs.length vc) rs w' a HY.out HL.out
  have HH := fun w' => shead_any h ok w'
  have HDH := fun w' => dheadB_any h ok w'
  have HB := fun v' w' (a : ArgAt w' v' rs) => bytes_any h ok v' rs w' a (by have := HL.out; omega)
  have HDB := fun w' (a : ArgAt w' (.slice va rs.length vc) rs) => rbytes_any h ok (.slice va rs.length vc) rs w' a HL.out
  have HK := fun w' => skey_any h w'
  have HDK := fun w' => dkey_any h w'
  have HES := fun va' vb' w' (a : RowAt w' va' (slL rs)) (b : ArgAt w' vb' (slL rs)) => estate_true (slH h rs) va' vb' (slL rs) w' a b
  have HEI := fun va' vb' w' (a : RowAt w' va' rs) (b : ArgAt w' vb' rs) => estate_true h va' vb' rs w' a b
  have HSP := fun g w' hb => sstate_any h g rs w' hb (by have := HL.out; omega)
  have HLL : Hid ((slL rs).length ≤ 65515) := slL_length rs
  have HLH : Hid ((headB h).length = 20) := length_headB h
  have HLB : Hid ((headB h ++ rs).length ≤ 200000) := by have := HL.out; show _ ≤ _; rw [List.length_append, length_headB]; omega
  generalize chkE h rs = ec at *
  generalize slE rs = es at *
  generalize slH h rs = H at *
  generalize slL rs = bd at *
  generalize headB h ++ rs = bl at *
  generalize headB h = hl at *
  unfold HV.sv at HW HC HDC HS HDS HB HDB HES HEI
  unfold HV.v at HDH
  clear h0 hby hbig hm ok
  go_enter Tryz.func5, Tryz.ntmps5
  go_upto_region 1 with fail
  have K0 : Hid (Sd (w.alloc (.cells #[.int .u16 h.age, .int .u8 h.opts, .int .u8 h.typ, .int .u32 h.id, .int .u32 h.adv, .int .i32 h.seq, .int .u16 h.sum, .int .u16 h.len, .slice va rs.length vc] 35)) w.heap.size h (.slice va rs.length vc)) := Sd.new w h _ _
  have T0 : Hid (Touch (fun _ => False) w (w.alloc (.cells #[.int .u16 h.age, .int .u8 h.opts, .int .u8 h.typ, .int .u32 h.id, .int .u32 h.adv, .int .i32 h.seq, .int .u16 h.sum, .int .u16 h.len, .slice va rs.length vc] 35))) := (Touch.refl _ w).alloc _
  have Z0 : Hid (w.heap.size < (w.alloc (.cells #[.int .u16 h.age, .int .u8 h.opts, .int .u8 h.typ, .int .u32 h.id, .int .u32 h.adv, .int .i32 h.seq, .int .u16 h.sum, .int .u16 h.len, .slice va rs.length vc] 35)).heap.size) := by show _ < _; simp
  generalize w.alloc (.cells #[.int .u16 h.age, .int .u8 h.opts, .int .u8 h.typ, .int .u32 h.id, .int .u32 h.adv, .int .i32 h.seq, .int .u16 h.sum, .int .u16 h.len, .slice va rs.length vc] 35) = x0 at *
  generalize hg0 : w.heap.size = g0 at *
  have HG0 : Hid (w.heap.size = g0) := hg0
  clear hg0
  obtain ⟨⟨c0, c1, c2, c3, c4, c5, c6, c7⟩, c8⟩ := K0.out
  go_wp2_with fail
  refine Calls.mono (HW _ (H0.out.keepN T0.out)) ?_
  rintro e w1 ⟨rfl, hg1, t1⟩
  generalize hgi : x0.heap.size + 2 = gi at *
  have HGI : Hid (x0.heap.size + 2 = gi) := hgi
  have HGB : Hid (w1.heap[gi]? = some (.cells (bytesOf (rs ++ spareMarks rs.length)).toArray 5 (0, 0))) := hg1
  have HI : Hid (RowAt w1 (.slice (some ⟨gi, 0, none⟩) rs.length (rs.length + 64)) rs) := rowAt_block hg1 (by rw [length_spareMarks]) (by have := HL.out; unfold maxLen; omega)
  clear hgi hg1 HW
  have T1 : Hid (Touch (fun _ => False) x0 (w1.alloc (.cells #[.int .u16 h.age, .int .u8 h.opts, .int .u8 h.typ, .int .u32 h.id, .int .u32 h.adv, .int .i32 h.seq, .int .u16 h.sum, .int .u16 h.len, .slice (some ⟨gi, 0, none⟩) rs.length (rs.length + 64)] 35))) := t1.alloc _
  have S3 : Hid (Sd (w1.alloc (.cells #[.int .u16 h.age, .int .u8 h.opts, .int .u8 h.typ, .int .u32 h.id, .int .u32 h.adv, .int .i32 h.seq, .int .u16 h.sum, .int .u16 h.len, .slice (some ⟨gi, 0, none⟩) rs.length (rs.length + 64)] 35)) w1.heap.size h (.slice (some ⟨gi, 0, none⟩) rs.length (rs.length + 64))) := Sd.new w1 h _ _
  have HI1 : Hid (RowAt (w1.alloc (.cells #[.int .u16 h.age, .int .u8 h.opts, .int .u8 h.typ, .int .u32 h.id, .int .u32 h.adv, .int .i32 h.seq, .int .u16 h.sum, .int .u16 h.len, .slice (some ⟨gi, 0, none⟩) rs.length (rs.length + 64)] 35)) (.slice (some ⟨gi, 0, none⟩) rs.length (rs.length + 64)) rs) := HI.out.touch ((Touch.refl (fun _ => False) _).alloc _) (fun _ _ h => h)
  have HGB1 : Hid ((w1.alloc (.cells #[.int .u16 h.age, .int .u8 h.opts, .int .u8 h.typ, .int .u32 h.id, .int .u32 h.adv, .int .i32 h.seq, .int .u16 h.sum, .int .u16 h.len, .slice (some ⟨gi, 0, none⟩) rs.length (rs.length + 64)] 35)).heap[gi]? = some (.cells (bytesOf (rs ++ spareMarks rs.length)).toArray 5 (0, 0))) := ((Touch.refl (fun _ => False) _).alloc _).heapN HGB.out
  have ZI : Hid (gi < w1.heap.size) := lt_of_heap HGB.out
  have Z1 : Hid (x0.heap.size ≤ w1.heap.size ∧ w1.heap.size < (w1.alloc (.cells #[.int .u16 h.age, .int .u8 h.opts, .int .u8 h.typ, .int .u32 h.id, .int .u32 h.adv, .int .i32 h.seq, .int .u16 h.sum, .int .u16 h.len, .slice (some ⟨gi, 0, none⟩) rs.length (rs.length + 64)] 35)).heap.size) := ⟨t1.size, by simp⟩
  clear c0 c1 c2 c3 c4 c5 c6 c7 c8 t1 HI HGB
  go_upto_region 4 with fail
  generalize w1.alloc (.cells #[.int .u16 h.age, .int .u8 h.opts, .int .u8 h.typ, .int .u32 h.id, .int .u32 h.adv, .int .i32 h.seq, .int .u16 h.sum, .int .u16 h.len, .slice (some ⟨gi, 0, none⟩) rs.length (rs.length + 64)] 35) = x1 at *
  generalize w1.heap.size = g3 at *
  obtain ⟨⟨s0, s1, s2, s3, s4, s5, s6, s7⟩, s8⟩ := S3.out
  go_wp2_with fail
  refine Calls.mono (HC _ _ HI1.out.arg) ?_
  rintro e w2 ⟨rfl, t2⟩
  have T2 : Hid (Touch (fun _ => False) x1 w2) := t2
  clear s0 s1 s2 s3 s4 s5 s6 s7 s8 t2 HC
  obtain ⟨⟨s0, s1, s2, s3, s4, s5, s6, s7⟩, s8⟩ := S3.out.keep T2.out
  go_wp2_with fail
  refine Calls.mono (HS _ _ (HI1.out.arg.keepN T2.out)) ?_
  rintro e w3 ⟨ut, rfl, bt⟩
  obtain ⟨at_, ct, rfl⟩ := bt.form
  have T3 : Hid (Touch (fun _ => False) w2 (w3.alloc (.cells #[.int .u16 H.age, .int .u8 H.opts, .int .u8 H.typ, .int .u32 H.id, .int .u32 H.adv, .int .i32 H.seq, .int .u16 H.sum, .int .u16 H.len, .slice at_ bd.length ct] 35))) := bt.t.alloc _
  have S5 : Hid (Sd (w3.alloc (.cells #[.int .u16 H.age, .int .u8 H.opts, .int .u8 H.typ, .int .u32 H.id, .int .u32 H.adv, .int .i32 H.seq, .int .u16 H.sum, .int .u16 H.len, .slice at_ bd.length ct] 35)) w3.heap.size H (.slice at_ bd.length ct)) := Sd.new w3 H _ _
  have B5 : Hid ((w3.alloc (.cells #[.int .u16 H.age, .int .u8 H.opts, .int .u8 H.typ, .int .u32 H.id, .int .u32 H.adv, .int .i32 H.seq, .int .u16 H.sum, .int .u16 H.len, .slice at_ bd.length ct] 35)).ownsRow w2.heap.size 5 1 (.slice at_ bd.length ct) bd.length (bytesOf bd)) := own_touch bt.own ((Touch.refl (fun _ => False) _).alloc _) (fun _ _ h => h)
  have K5 : Hid (∀ k, (Value.slice at_ bd.length ct).ownBlock = some k → w2.heap.size ≤ k ∧ k < w3.heap.size) := fun k hk => bt.own.lt k hk
  have Z3 : Hid (w2.heap.size ≤ w3.heap.size ∧ w3.heap.size < (w3.alloc (.cells #[.int .u16 H.age, .int .u8 H.opts, .int .u8 H.typ, .int .u32 H.id, .int .u32 H.adv, .int .i32 H.seq, .int .u16 H.sum, .int .u16 H.len, .slice at_ bd.length ct] 35)).heap.size) := ⟨bt.t.size, by simp⟩
  clear s0 s1 s2 s3 s4 s5 s6 s7 s8 bt HS
  go_upto_region 6 with fail
  generalize w3.alloc (.cells #[.int .u16 H.age, .int .u8 H.opts, .int .u8 H.typ, .int .u32 H.id, .int .u32 H.adv, .int .i32 H.seq, .int .u16 H.sum, .int .u16 H.len, .slice at_ bd.length ct] 35) = x3 at *
  generalize w3.heap.size = g5 at *
  obtain ⟨⟨c0, c1, c2, c3, c4, c5, c6, c7⟩, c8⟩ := K0.out.keep ((T1.out.trans T2.out).trans T3.out)
  go_wp2_with fail
  refine Calls.mono (HDS _ (H0.out.keepN (((T0.out.trans T1.out).trans T2.out).trans T3.out))) ?_
  rintro e w4 ⟨uw, rfl, bw⟩
  obtain ⟨aw, cw, rfl⟩ := bw.form
  have T4 : Hid (Touch (fun _ => False) x3 (w4.alloc (.cells #[.int .u16 H.age, .int .u8 H.opts, .int .u8 H.typ, .int .u32 H.id, .int .u32 H.adv, .int .i32 H.seq, .int .u16 H.sum, .int .u16 H.len, .slice aw bd.length cw] 35))) := bw.t.alloc _
  have S7 : Hid (Sd (w4.alloc (.cells #[.int .u16 H.age, .int .u8 H.opts, .int .u8 H.typ, .int .u32 H.id, .int .u32 H.adv, .int .i32 H.seq, .int .u16 H.sum, .int .u16 H.len, .slice aw bd.length cw] 35)) w4.heap.size H (.slice aw bd.length cw)) := Sd.new w4 H _ _
  have B7 : Hid ((w4.alloc (.cells #[.int .u16 H.age, .int .u8 H.opts, .int .u8 H.typ, .int .u32 H.id, .int .u32 H.adv, .int .i32 H.seq, .int .u16 H.sum, .int .u16 H.len, .slice aw bd.length cw] 35)).ownsRow x3.heap.size 5 1 (.slice aw bd.length cw) bd.length (bytesOf bd)) := own_touch bw.own ((Touch.refl (fun _ => False) _).alloc _) (fun _ _ h => h)
  have Z4 : Hid (x3.heap.size ≤ w4.heap.size ∧ w4.heap.size < (w4.alloc (.cells #[.int .u16 H.age, .int .u8 H.opts, .int .u8 H.typ, .int .u32 H.id, .int .u32 H.adv, .int .i32 H.seq, .int .u16 H.sum, .int .u16 H.len, .slice aw bd.length cw] 35)).heap.size) := ⟨bw.t.size, by simp⟩
  clear c0 c1 c2 c3 c4 c5 c6 c7 c8 bw HDS
  go_upto_region 7 with fail
  generalize w4.alloc (.cells #[.int .u16 H.age, .int .u8 H.opts, .int .u8 H.typ, .int .u32 H.id, .int .u32 H.adv, .int .i32 H.seq, .int .u16 H.sum, .int .u16 H.len, .slice aw bd.length cw] 35) = x4 at *
  generalize w4.heap.size = g7 at *
  have T04 : Hid (Touch (fun _ => False) x0 x4) := ((T1.out.trans T2.out).trans T3.out).trans T4.out
  obtain ⟨⟨c0, c1, c2, c3, c4, c5, c6, c7⟩, c8⟩ := K0.out.keep T04.out
  go_wp2_with fail
  refine Calls.mono (HH _) ?_
  rintro e w5 ⟨uh, rfl, bh⟩
  obtain ⟨ah, ch, rfl⟩ := bh.form
  have T5 : Hid (Touch (fun _ => False) x4 w5) := bh.t
  have B9 : Hid (w5.ownsRow x4.heap.size 5 1 (.slice ah hl.length ch) hl.length (bytesOf hl)) := bh.own
  clear c0 c1 c2 c3 c4 c5 c6 c7 c8 bh HH
  obtain ⟨⟨s0, s1, s2, s3, s4, s5, s6, s7⟩, s8⟩ := S3.out.keep (((T2.out.trans T3.out).trans T4.out).trans T5.out)
  go_wp2_with fail
  refine Calls.mono (HB _ _ (HI1.out.arg.keepN (((T2.out.trans T3.out).trans T4.out).trans T5.out))) ?_
  rintro e w6 ⟨ub, rfl, bb⟩
  obtain ⟨ab, cb, rfl⟩ := bb.form
  have T6 : Hid (Touch (fun _ => False) w5 w6) := bb.t
  have B10 : Hid (w6.ownsRow w5.heap.size 5 1 (.slice ab bl.length cb) bl.length (bytesOf bl)) := bb.own
  clear s0 s1 s2 s3 s4 s5 s6 s7 s8 bb HB
  go_upto_region 9 with fail
  have T06 : Hid (Touch (fun _ => False) x0 w6) := (T04.out.trans T5.out).trans T6.out
  -- the region's facts
  have kk := K0.out.keep T06.out
  have k5 := S5.out.keep ((T4.out.trans T5.out).trans T6.out)
  have k7 := S7.out.keep (T5.out.trans T6.out)
  have c0 := since_cell kk.hd.c0
  have c1 := since_cell kk.hd.c1
  have c2 := since_cell kk.hd.c2
  have c3 := since_cell kk.hd.c3
  have c4 := since_cell kk.hd.c4
  have c5 := since_cell kk.hd.c5
  have c6 := since_cell kk.hd.c6
  have c7 := since_cell kk.hd.c7
  have c8 := since_cell kk.c8
  have d0 := since_cell k5.hd.c0
  have d1 := since_cell k5.hd.c1
  have d2 := since_cell k5.hd.c2
  have d3 := since_cell k5.hd.c3
  have d4 := since_cell k5.hd.c4
  have d5 := since_cell k5.hd.c5
  have d6 := since_cell k5.hd.c6
  have d7 := since_cell k5.hd.c7
  have d8 := since_cell k5.c8
  have e0 := since_cell k7.hd.c0
  have e1 := since_cell k7.hd.c1
  have e2 := since_cell k7.hd.c2
  have e3 := since_cell k7.hd.c3
  have e4 := since_cell k7.hd.c4
  have e5 := since_cell k7.hd.c5
  have e6 := since_cell k7.hd.c6
  have e7 := since_cell k7.hd.c7
  have e8 := since_cell k7.c8
  have AV : Hid (∀ w', Since w6 w' → ArgAt w' (.slice va rs.length vc) rs) := since_arg (H0.out.keepN (T0.out.trans T06.out))
  have R5 : Hid (∀ w', Since w6 w' → RowAt w' (.slice at_ bd.length ct) bd) := since_row (own_rowAt (own_touch B5.out ((T4.out.trans T5.out).trans T6.out) (fun _ _ h => h)))
  have R7 : Hid (∀ w', Since w6 w' → ArgAt w' (.slice aw bd.length cw) bd) := since_arg (own_rowAt (own_touch B7.out (T5.out.trans T6.out) (fun _ _ h => h))).arg
  have R9 : Hid (∀ w', Since w6 w' → RowAt w' (.slice ah hl.length ch) hl) := since_row (own_rowAt (own_touch B9.out T6.out (fun _ _ h => h)))
  have R10 : Hid (∀ w', Since w6 w' → RowAt w' (.slice ab bl.length cb) bl) := since_row (own_rowAt B10.out)
  have st : Since w6 w6.drew := Since.start w6
  have hEC : ((ec : Int) != ec) = false := by simp
  have hES : ((es : Int) != es) = false := by simp
  clear kk k5 k7
  go_region_held3 (fun w' => Since w6 w') (with_reducible assumption) (first
    | (go_at_call 26; refine Calls.mono (HDC _ (AV.out _ (by assumption))) ?_; rintro e wx ⟨rfl, tx⟩; have sx := Since.trans (by assumption) tx)
    | (go_at_call 11; refine Calls.mono (HES _ _ _ (R5.out _ (by assumption)) (R7.out _ (by assumption))) ?_; rintro e wx ⟨rfl, tx⟩; have sx := Since.trans (by assumption) tx)
    | (go_at_call 27; refine Calls.mono (HK _) ?_; rintro e wx ⟨rfl, tx⟩; have sx := Since.trans (by assumption) tx)
    | (go_at_call 28; refine Calls.mono (HDK _) ?_; rintro e wx ⟨rfl, tx⟩; have sx := Since.trans (by assumption) tx)
    | (go_at_call 30; refine Calls.mono (HDH _) ?_; rintro e wx ⟨u, rfl, bx⟩; have sx := Since.trans (by assumption) bx.t; have ex : EqP wx (.slice ah hl.length ch) u := ⟨hl, R9.out _ sx, bx.arg⟩)
    | (go_at_call 31; refine Calls.mono (HDB _ (AV.out _ (by assumption))) ?_; rintro e wx ⟨u, rfl, bx⟩; have sx := Since.trans (by assumption) bx.t; have ex : EqP wx (.slice ab bl.length cb) u := ⟨bl, R10.out _ sx, bx.arg⟩)
    | (go_at_call 29; refine Calls.mono (eqP (by assumption)) ?_; rintro e wx ⟨rfl, tx⟩; have sx := Since.trans (by assumption) tx))
  have T67 : Hid (Touch (fun _ => False) w6 wx) := sx.t
  clear c0 c1 c2 c3 c4 c5 c6 c7 c8 d0 d1 d2 d3 d4 d5 d6 d7 d8 e0 e1 e2 e3 e4 e5 e6 e7 e8 AV R5 R7 R9 R10 st hEC hES HDC HES HK HDK HDH HDB
  go_upto_region 12 with fail
  have hbag := bag_new (w := wx) (T := 62) #[.slice none 0 0, .slice none 0 0, .slice none 0 0, .slice none 0 0, .slice none 0 0, .slice none 0 0, .slice none 0 0, .slice none 0 0, .slice none 0 0, .slice none 0 0, .slice none 0 0, .slice none 0 0, .slice none 0 0, .slice none 0 0, .slice none 0 0, .slice none 0 0, .slice none 0 0, .slice none 0 0, .slice none 0 0] rfl
  have HB0 : Hid (BagB (wx.alloc (.cells #[.slice none 0 0, .slice none 0 0, .slice none 0 0, .slice none 0 0, .slice none 0 0, .slice none 0 0, .slice none 0 0, .slice none 0 0, .slice none 0 0, .slice none 0 0, .slice none 0 0, .slice none 0 0, .slice none 0 0, .slice none 0 0, .slice none 0 0, .slice none 0 0, .slice none 0 0, .slice none 0 0, .slice none 0 0] 62)) wx.heap.size (.slice none 0 0) [] ∧ (wx.alloc (.cells #[.slice none 0 0, .slice none 0 0, .slice none 0 0, .slice none 0 0, .slice none 0 0, .slice none 0 0, .slice none 0 0, .slice none 0 0, .slice none 0 0, .slice none 0 0, .slice none 0 0, .slice none 0 0, .slice none 0 0, .slice none 0 0, .slice none 0 0, .slice none 0 0, .slice none 0 0, .slice none 0 0, .slice none 0 0] 62)).frozen? ⟨wx.heap.size, 0, none⟩ = false ∧ BagN (wx.alloc (.cells #[.slice none 0 0, .slice none 0 0, .slice none 0 0, .slice none 0 0, .slice none 0 0, .slice none 0 0, .slice none 0 0, .slice none 0 0, .slice none 0 0, .slice none 0 0, .slice none 0 0, .slice none 0 0, .slice none 0 0, .slice none 0 0, .slice none 0 0, .slice none 0 0, .slice none 0 0, .slice none 0 0, .slice none 0 0] 62)) wx.heap.size) := hbag
  have T79 : Hid (Touch (fun _ => False) w6 (wx.alloc (.cells #[.slice none 0 0, .slice none 0 0, .slice none 0 0, .slice none 0 0, .slice none 0 0, .slice none 0 0, .slice none 0 0, .slice none 0 0, .slice none 0 0, .slice none 0 0, .slice none 0 0, .slice none 0 0, .slice none 0 0, .slice none 0 0, .slice none 0 0, .slice none 0 0, .slice none 0 0, .slice none 0 0, .slice none 0 0] 62))) := T67.out.alloc _
  have Z9 : Hid (w6.heap.size ≤ wx.heap.size) := T67.out.size
  clear hbag T67
  generalize wx.alloc (.cells #[.slice none 0 0, .slice none 0 0, .slice none 0 0, .slice none 0 0, .slice none 0 0, .slice none 0 0, .slice none 0 0, .slice none 0 0, .slice none 0 0, .slice none 0 0, .slice none 0 0, .slice none 0 0, .slice none 0 0, .slice none 0 0, .slice none 0 0, .slice none 0 0, .slice none 0 0, .slice none 0 0, .slice none 0 0] 62) = x9 at *
  generalize wx.heap.size = bb at *
  have T39 : Hid (Touch (fun _ => False) x3 x9) := ((T4.out.trans T5.out).trans T6.out).trans T79.out
  have OS : Hid (x9.ownsRow 0 5 1 (.slice at_ bd.length ct) bd.length (bytesOf bd)) := own_lower (own_touch B5.out T39.out (fun _ _ h => h)) (Nat.zero_le _)
  have OH : Hid (x9.ownsRow 0 5 1 (.slice ah hl.length ch) hl.length (bytesOf hl)) := own_lower (own_touch B9.out (T6.out.trans T79.out) (fun _ _ h => h)) (Nat.zero_le _)
  have OB : Hid (x9.ownsRow 0 5 1 (.slice ab bl.length cb) bl.length (bytesOf bl)) := own_lower (own_touch B10.out T79.out (fun _ _ h => h)) (Nat.zero_le _)
  have KS : Hid (∀ k, (Value.slice at_ bd.length ct).ownBlock = some k → w2.heap.size ≤ k ∧ k < x4.heap.size) := fun k hk => by have h1 := K5.out k hk; have h2 := Z3.out; have h3 := T4.out.size; omega
  have KH : Hid (∀ k, (Value.slice ah hl.length ch).ownBlock = some k → x4.heap.size ≤ k ∧ k < w5.heap.size) := fun k hk => B9.out.lt k hk
  have KB : Hid (∀ k, (Value.slice ab bl.length cb).ownBlock = some k → w5.heap.size ≤ k ∧ k < w6.heap.size) := fun k hk => B10.out.lt k hk
  have KG : Hid (g0 < x0.heap.size ∧ x0.heap.size ≤ w2.heap.size ∧ gi < g3 ∧ g3 < w2.heap.size ∧ w2.heap.size ≤ x4.heap.size ∧ x4.heap.size ≤ w5.heap.size ∧ w5.heap.size ≤ w6.heap.size ∧ w6.heap.size ≤ bb) := by
    have h0 := Z0.out; have h1 := Z1.out; have h2 := T2.out.size; have h3 := Z3.out; have h4 := T4.out.size; have h5 := T5.out.size; have h6 := T6.out.size; have h7 := Z9.out; have h8 := ZI.out; have h9 := T1.out.size
    refine ⟨h0, ?_, ?_, ?_, ?_, ?_, ?_, ?_⟩ <;> omega
  obtain ⟨⟨s0, s1, s2, s3, s4, s5, s6, s7⟩, s8⟩ := S5.out.keep T39.out
  have S39 : Hid (Sd x9 g3 h (.slice (some ⟨gi, 0, none⟩) rs.length (rs.length + 64))) := S3.out.keep ((T2.out.trans T3.out).trans T39.out)
  have S09 : Hid (Sd x9 g0 h (.slice va rs.length vc)) := K0.out.keep (T06.out.trans T79.out)
  have HI9 : Hid (RowAt x9 (.slice (some ⟨gi, 0, none⟩) rs.length (rs.length + 64)) rs) := HI1.out.touch ((T2.out.trans T3.out).trans T39.out) (fun _ _ h => h)
  have HG9 : Hid (x9.heap[gi]? = some (.cells (bytesOf (rs ++ spareMarks rs.length)).toArray 5 (0, 0))) := ((T2.out.trans T3.out).trans T39.out).heapN HGB1.out
  have T09 : Hid (Touch (fun _ => False) w x9) := (T0.out.trans T06.out).trans T79.out
  clear B5 B9 B10 K5 S3 S5 K0 HI1 HGB1 T1 T2 T3 T4 T5 T6 T39 T79 T06 T04 T0 Z0 Z1 Z3 Z4 Z9 ZI
  go_wp2_with fail
  refine Calls.mono (addS_any bb (.slice none 0 0) [] H (.slice at_ bd.length ct) bd x9 HB0.out.1 HB0.out.2.1 OS.out (by have := HLL.out; omega) (fun k hk => ⟨by have := KS.out k hk; have := KG.out; omega, by simp [Value.ownBlock], by simp⟩) (by simp) (by simp [Value.ownBlock])) ?_
  rintro e y1 ⟨rfl, gv1, hb1, hf1, hq1, hr1, tb1, hc1⟩
  have HB1 : Hid (BagB y1 bb gv1 ([] ++ [.slice at_ bd.length ct])) := hb1
  have HF1 : Hid (y1.frozen? ⟨bb, 0, none⟩ = false) := hf1
  have HQ1 : Hid (∀ k, gv1.ownBlock = some k → bb < k) := hq1
  have TB1 : Hid (Touch (fun k => bb ≤ k) x9 y1) := Touch.mono tb1 (fun i _ e => by rcases e with e | e; omega; simp [Value.ownBlock] at e)
  have HN1 : Hid (BagN y1 bb) := fun j h1 h2 => hc1 j _ h1 (HB0.out.2.2 j h1 h2)
  have OH1 : Hid (y1.ownsRow 0 5 1 (.slice ah hl.length ch) hl.length (bytesOf hl)) := own_touch OH.out TB1.out (fun k hk e => by have := KH.out k hk; have := KG.out; omega)
  have OB1 : Hid (y1.ownsRow 0 5 1 (.slice ab bl.length cb) bl.length (bytesOf bl)) := own_touch OB.out TB1.out (fun k hk e => by have := KB.out k hk; have := KG.out; omega)
  clear hb1 hf1 hq1 hr1 tb1 hc1 s0 s1 s2 s3 s4 s5 s6 s7 s8 HB0 OH OB
  go_wp2_with fail
  refine Calls.mono (add_any bb gv1 _ (.slice ah hl.length ch) hl y1 HB1.out HF1.out OH1.out (by have := HLH.out; omega) (fun k hk => ⟨by have := KH.out k hk; have := KG.out; omega, fun e => by have h1 := HQ1.out k e; have h2 := KH.out k hk; have := KG.out; omega, fun m u hu e => by
    have h1 : u = .slice at_ bd.length ct := by
      cases m with
      | zero => simpa using hu.symm
      | succ m => simp at hu
    subst h1
    have h2 := KS.out k e; have h3 := KH.out k hk; omega⟩) (by simp) HQ1.out) ?_
  rintro e y2 ⟨rfl, gv2, hb2, hf2, hq2, hr2, tb2, hc2⟩
  have HB2 : Hid (BagB y2 bb gv2 ([] ++ [.slice at_ bd.length ct] ++ [.slice ah hl.length ch])) := hb2
  have HF2 : Hid (y2.frozen? ⟨bb, 0, none⟩ = false) := hf2
  have HQ2 : Hid (∀ k, gv2.ownBlock = some k → bb < k) := hq2
  have HN2 : Hid (BagN y2 bb) := fun j h1 h2 => hc2 j _ h1 (HN1.out j h1 h2)
  have TB12 : Hid (Touch (fun k => bb ≤ k) y1 y2) := Touch.mono tb2 (fun i _ e => by rcases e with e | e; omega; have := HQ1.out i e; omega)
  have OB2 : Hid (y2.ownsRow 0 5 1 (.slice ab bl.length cb) bl.length (bytesOf bl)) := own_touch OB1.out TB12.out (fun k hk e => by have := KB.out k hk; have := KG.out; omega)
  have TB2 : Hid (Touch (fun k => bb ≤ k) x9 y2) := TB1.out.trans TB12.out
  clear hb2 hf2 hq2 hr2 tb2 hc2 HB1 HF1 HQ1 HN1 OH1 OB1 TB1 TB12
  go_wp2_with fail
  refine Calls.mono (add_any bb gv2 _ (.slice ab bl.length cb) bl y2 HB2.out HF2.out OB2.out (by have := HLB.out; omega) (fun k hk => ⟨by have := KB.out k hk; have := KG.out; omega, fun e => by have h1 := HQ2.out k e; have h2 := KB.out k hk; have := KG.out; omega, fun m u hu e => by
    match m, hu with
    | 0, hu => (have h1 : u = .slice at_ bd.length ct := by simpa using hu.symm); subst h1; have h2 := KS.out k e; have h3 := KB.out k hk; have := KG.out; omega
    | 1, hu => (have h1 : u = .slice ah hl.length ch := by simpa using hu.symm); subst h1; have h2 := KH.out k e; have h3 := KB.out k hk; omega
    | m + 2, hu => simp at hu⟩) (by simp) HQ2.out) ?_
  rintro e y3 ⟨rfl, gv3, hb3, hf3, hq3, hr3, tb3, hc3⟩
  have HB3 : Hid (BagB y3 bb gv3 ([] ++ [.slice at_ bd.length ct] ++ [.slice ah hl.length ch] ++ [.slice ab bl.length cb])) := hb3
  have HN3 : Hid (BagN y3 bb) := fun j h1 h2 => hc3 j _ h1 (HN2.out j h1 h2)
  have TB3 : Hid (Touch (fun k => w2.heap.size ≤ k) x9 y3) := (Touch.mono TB2.out (fun i _ e => by have := KG.out; omega)).trans (Touch.mono tb3 (fun i _ e => by have := KG.out; rcases e with e | e; omega; have := HQ2.out i e; omega))
  clear hb3 hf3 hq3 hr3 tb3 hc3 HB2 HF2 HQ2 HN2 OB2 TB2
  go_wp2_with fail
  refine Calls.mono (Apart_any bb gv3 _ y3 HB3.out HN3.out) ?_
  rintro e y4 ⟨rfl, t4⟩
  have TB4 : Hid (Touch (fun k => w2.heap.size ≤ k) x9 y4) := TB3.out.trans (Touch.mono t4 (fun i _ f => by
    obtain ⟨m, v, hm, hv⟩ := f
    match m, hm with
    | 0, hm => (have : v = .slice at_ bd.length ct := by simpa using hm.symm); subst this; exact (KS.out _ hv).1
    | 1, hm => (have : v = .slice ah hl.length ch := by simpa using hm.symm); subst this; have := KH.out _ hv; have := KG.out; omega
    | 2, hm => (have : v = .slice ab bl.length cb := by simpa using hm.symm); subst this; have := KB.out _ hv; have := KG.out; omega
    | m + 3, hm => simp at hm))
  clear t4 TB3 HB3 HN3
  have mv : ∀ (g i : Nat) (v : Value), g < w2.heap.size → x9.cell? ⟨g, i, none⟩ = some v → y4.cell? ⟨g, i, none⟩ = some v := fun g i v hg hc => (TB4.out.cell (p := ⟨g, i, none⟩) (lt_of_cell hc) (by show ¬ w2.heap.size ≤ g; omega)).trans hc
  have hg3 : g3 < w2.heap.size := by have := KG.out; omega
  have hg0 : g0 < w2.heap.size := by have := KG.out; omega
  have s0 := mv g3 _ _ hg3 S39.out.hd.c0
  have s1 := mv g3 _ _ hg3 S39.out.hd.c1
  have s2 := mv g3 _ _ hg3 S39.out.hd.c2
  have s3 := mv g3 _ _ hg3 S39.out.hd.c3
  have s4 := mv g3 _ _ hg3 S39.out.hd.c4
  have s5 := mv g3 _ _ hg3 S39.out.hd.c5
  have s6 := mv g3 _ _ hg3 S39.out.hd.c6
  have s7 := mv g3 _ _ hg3 S39.out.hd.c7
  have s8 := mv g3 _ _ hg3 S39.out.c8
  have c0 := mv g0 _ _ hg0 S09.out.hd.c0
  have c1 := mv g0 _ _ hg0 S09.out.hd.c1
  have c2 := mv g0 _ _ hg0 S09.out.hd.c2
  have c3 := mv g0 _ _ hg0 S09.out.hd.c3
  have c4 := mv g0 _ _ hg0 S09.out.hd.c4
  have c5 := mv g0 _ _ hg0 S09.out.hd.c5
  have c6 := mv g0 _ _ hg0 S09.out.hd.c6
  have c7 := mv g0 _ _ hg0 S09.out.hd.c7
  have c8 := mv g0 _ _ hg0 S09.out.c8
  have HI4 : Hid (RowAt y4 (.slice (some ⟨gi, 0, none⟩) rs.length (rs.length + 64)) rs) := HI9.out.touch TB4.out (fun k hk e => by have h1 : gi = k := (by simpa [Value.ownBlock] using hk); have := KG.out; omega)
  have HV4 : Hid (ArgAt y4 (.slice va rs.length vc) rs) := by
    have a9 := H0.out.keepN T09.out
    refine ArgAt.keep (H0.out.keepN (Touch.refl _ w)) (T09.out.trans' TB4.out (fun i hi e => by have := KG.out; have := HG0.out; omega)) (fun _ _ h => h)
  have HG4 : Hid (y4.heap[gi]? = some (.cells (bytesOf (rs ++ spareMarks rs.length)).toArray 5 (0, 0))) := (TB4.out.block gi (lt_of_heap HG9.out) (by have := KG.out; show ¬ w2.heap.size ≤ gi; omega)).trans HG9.out
  clear mv
  go_wp2_with fail
  refine Calls.mono (HEI _ _ _ HI4.out HV4.out) ?_
  rintro e y5 ⟨rfl, t5⟩
  have T5 : Hid (Touch (fun _ => False) y4 y5) := t5
  have mv : ∀ (i : Nat) (v : Value), y4.cell? ⟨g3, i, none⟩ = some v → y5.cell? ⟨g3, i, none⟩ = some v := fun i v hc => T5.out.cellN hc
  have u0 := mv _ _ s0
  have u1 := mv _ _ s1
  have u2 := mv _ _ s2
  have u3 := mv _ _ s3
  have u4 := mv _ _ s4
  have u5 := mv _ _ s5
  have u6 := mv _ _ s6
  have u7 := mv _ _ s7
  have u8 := mv _ _ s8
  clear s0 s1 s2 s3 s4 s5 s6 s7 s8 c0 c1 c2 c3 c4 c5 c6 c7 c8 t5 mv
  go_wp2_with fail
  refine Calls.mono (HSP gi _ (T5.out.heapN HG4.out)) ?_
  rintro e y6 ⟨rfl, t6⟩
  clear u0 u1 u2 u3 u4 u5 u6 u7 u8
  go_wp2_with fail
  refine (lives6 _).mono ?_
  rintro e w' ⟨rfl, tl⟩
  go_wp2
  go_ret
  exact ⟨rfl, (((((T09.out.trans' TB4.out (fun i hi e => by have := KG.out; have := HG0.out; omega)).trans T5.out).trans t6).trans tl)).below (by have := HG0.out; omega) (fun _ _ h => h)⟩
end Go.Proofs.YthdkihnmeoacaaaGreatDoor
