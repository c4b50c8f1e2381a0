/- The walk of StateReads: it returns true, and writes nothing that was there. -/
import Derived.Test.YtfdpmlogieaiaaaGreatDoorStaWr
import Derived.Test.YtfdpmlogieaiaaaGreatDoorStLives2
import Derived.Deep.DeepCutAuto
namespace Go.Proofs.YtfdpmlogieaiaaaGreatDoor
open Go.RowKit
set_option linter.unusedVariables false
set_option maxRecDepth 100000

set_option maxHeartbeats 4000000 in
theorem reads_any (v : Value) (rs : List Int) (w : World) (h0 : ArgAt w v rs) (hby : ∀ z ∈ rs, 0 ≤ z ∧ z < 256) :
    Calls Tryz.prog 6 #[v] w fun e w' => e = .returned (.bool true) ∧ Below w.heap.size w w' := by
  obtain ⟨va, vc, rfl, hm⟩ := h0.form
  by_cases hbig : 131072 < rs.length
  · have hb' : (131072 : Int) < (rs.length : Int) := by omega
    clear h0 hby hbig
    go_enter Tryz.func6, Tryz.ntmps6
    go_wp2_with fail
    refine (lives6 _).mono ?_
    rintro e w' ⟨rfl, tl⟩
    go_wp2
    go_ret
    exact ⟨rfl, tl.below (Nat.le_refl _) (fun _ _ h => h)⟩
  have hb' : ¬ (131072 : Int) < (rs.length : Int) := by omega
  have HL : Hid (rs.length ≤ 131072) := by show _ ≤ _; omega
  have H0 : Hid (ArgAt w (.slice va rs.length vc) rs) := h0
  have HY : Hid (∀ z ∈ rs, 0 ≤ z ∧ z < 256) := hby
  have HP1 := fun v w h => readH_all v rs w h HY.out (by have := HL.out; omega)
  have HD1 := fun v w h => dhead_all v rs w h HY.out
  have HP2 := fun v w h => read_all v rs w h HY.out (by have := HL.out; omega)
  have HD2 := fun v w h => dread_all v rs w h HY.out (by have := HL.out; omega)
  have HLL : Hid ((rdL rs).length ≤ 131072) := by have := rdL_length rs; have := HL.out; show _ ≤ _; omega
  generalize hdA rs = Hh at *
  generalize hdE rs = eh at *
  generalize rdA rs = H at *
  generalize rdL rs = bd at *
  generalize readE rs = er at *
  unfold HV.v at HP1 HD1
  unfold HV.sv at HP2 HD2
  clear h0 hby hbig hm
  go_enter Tryz.func6, Tryz.ntmps6
  go_wp2_with fail
  refine (wide_any _ rs w H0.out HY.out (by have := HL.out; omega)).mono ?_
  rintro e w1 ⟨rfl, hg1, t1⟩
  have HG : Hid (w1.heap[w.heap.size]? = some (.cells (bytesOf (rs ++ spareMarks rs.length)).toArray 5 (0, 0))) := hg1
  have HI : Hid (RowAt w1 (.slice (some ⟨w.heap.size, 0, none⟩) rs.length (rs.length + 64)) rs) := rowAt_block hg1 (by rw [length_spareMarks]) (by have := HL.out; unfold maxLen; omega)
  have T1 : Hid (Touch (fun _ => False) w w1) := t1
  have hz1 : Hid (w.heap.size < w1.heap.size) := lt_of_heap hg1
  clear hg1 t1
  generalize hgi : w.heap.size = gi at *
  have HGI : Hid (w.heap.size = gi) := hgi
  clear hgi
  go_wp2_with fail
  refine Calls.mono (HP1 _ _ HI.out.arg) ?_
  rintro e w2 ⟨rfl, t2⟩
  have T2 : Hid (Touch (fun _ => False) w1 (w2.alloc (.cells #[.int .u16 Hh.age, .int .u8 Hh.opts, .int .u8 Hh.typ, .int .u32 Hh.id, .int .u32 Hh.adv, .int .i32 Hh.seq, .int .u16 Hh.sum, .int .u16 Hh.len] 25))) := t2.alloc _
  have D1 : Hid (Hd (w2.alloc (.cells #[.int .u16 Hh.age, .int .u8 Hh.opts, .int .u8 Hh.typ, .int .u32 Hh.id, .int .u32 Hh.adv, .int .i32 Hh.seq, .int .u16 Hh.sum, .int .u16 Hh.len] 25)) w2.heap.size Hh) := Hd.new w2 Hh _
  have Z2 : Hid (w1.heap.size ≤ w2.heap.size ∧ w2.heap.size < (w2.alloc (.cells #[.int .u16 Hh.age, .int .u8 Hh.opts, .int .u8 Hh.typ, .int .u32 Hh.id, .int .u32 Hh.adv, .int .i32 Hh.seq, .int .u16 Hh.sum, .int .u16 Hh.len] 25)).heap.size) := ⟨t2.size, by simp⟩
  clear t2 HP1
  go_upto_region 5 with fail
  generalize w2.alloc (.cells #[.int .u16 Hh.age, .int .u8 Hh.opts, .int .u8 Hh.typ, .int .u32 Hh.id, .int .u32 Hh.adv, .int .i32 Hh.seq, .int .u16 Hh.sum, .int .u16 Hh.len] 25) = x2 at *
  generalize w2.heap.size = g4 at *
  go_wp2_with fail
  refine Calls.mono (HD1 _ _ (H0.out.keepN (T1.out.trans T2.out))) ?_
  rintro e w3 ⟨rfl, t3⟩
  have T3 : Hid (Touch (fun _ => False) x2 (w3.alloc (.cells #[.int .u16 Hh.age, .int .u8 Hh.opts, .int .u8 Hh.typ, .int .u32 Hh.id, .int .u32 Hh.adv, .int .i32 Hh.seq, .int .u16 Hh.sum, .int .u16 Hh.len] 25))) := t3.alloc _
  have D2 : Hid (Hd (w3.alloc (.cells #[.int .u16 Hh.age, .int .u8 Hh.opts, .int .u8 Hh.typ, .int .u32 Hh.id, .int .u32 Hh.adv, .int .i32 Hh.seq, .int .u16 Hh.sum, .int .u16 Hh.len] 25)) w3.heap.size Hh) := Hd.new w3 Hh _
  have Z3 : Hid (x2.heap.size ≤ w3.heap.size ∧ w3.heap.size < (w3.alloc (.cells #[.int .u16 Hh.age, .int .u8 Hh.opts, .int .u8 Hh.typ, .int .u32 Hh.id, .int .u32 Hh.adv, .int .i32 Hh.seq, .int .u16 Hh.sum, .int .u16 Hh.len] 25)).heap.size) := ⟨t3.size, by simp⟩
  clear t3 HD1
  go_upto_region 6 with fail
  generalize w3.alloc (.cells #[.int .u16 Hh.age, .int .u8 Hh.opts, .int .u8 Hh.typ, .int .u32 Hh.id, .int .u32 Hh.adv, .int .i32 Hh.seq, .int .u16 Hh.sum, .int .u16 Hh.len] 25) = x3 at *
  generalize w3.heap.size = g6 at *
  go_wp2_with fail
  refine Calls.mono (HP2 _ _ (HI.out.arg.keepN (T2.out.trans T3.out))) ?_
  rintro e w4 ⟨us, rfl, bs⟩
  obtain ⟨as_, cs, rfl⟩ := bs.form
  have T4 : Hid (Touch (fun _ => False) x3 (w4.alloc (.cells #[.int .u16 H.age, .int .u8 H.opts, .int .u8 H.typ, .int .u32 H.id, .int .u32 H.adv, .int .i32 H.seq, .int .u16 H.sum, .int .u16 H.len, .slice as_ bd.length cs] 35))) := bs.t.alloc _
  have Ss : Hid (Sd (w4.alloc (.cells #[.int .u16 H.age, .int .u8 H.opts, .int .u8 H.typ, .int .u32 H.id, .int .u32 H.adv, .int .i32 H.seq, .int .u16 H.sum, .int .u16 H.len, .slice as_ bd.length cs] 35)) w4.heap.size H (.slice as_ bd.length cs)) := Sd.new w4 H _ _
  have Bs : Hid ((w4.alloc (.cells #[.int .u16 H.age, .int .u8 H.opts, .int .u8 H.typ, .int .u32 H.id, .int .u32 H.adv, .int .i32 H.seq, .int .u16 H.sum, .int .u16 H.len, .slice as_ bd.length cs] 35)).ownsRow x3.heap.size 5 1 (.slice as_ bd.length cs) bd.length (bytesOf bd)) := own_touch bs.own ((Touch.refl (fun _ => False) _).alloc _) (fun _ _ h => h)
  have Z4 : Hid (x3.heap.size ≤ w4.heap.size ∧ w4.heap.size < (w4.alloc (.cells #[.int .u16 H.age, .int .u8 H.opts, .int .u8 H.typ, .int .u32 H.id, .int .u32 H.adv, .int .i32 H.seq, .int .u16 H.sum, .int .u16 H.len, .slice as_ bd.length cs] 35)).heap.size ∧ ∀ k, (Value.slice as_ bd.length cs).ownBlock = some k → x3.heap.size ≤ k ∧ k < w4.heap.size) := ⟨bs.t.size, by simp, fun k hk => bs.own.lt k hk⟩
  clear bs
  go_upto_region 7 with fail
  generalize w4.alloc (.cells #[.int .u16 H.age, .int .u8 H.opts, .int .u8 H.typ, .int .u32 H.id, .int .u32 H.adv, .int .i32 H.seq, .int .u16 H.sum, .int .u16 H.len, .slice as_ bd.length cs] 35) = x4 at *
  generalize w4.heap.size = gs at *
  go_wp2_with fail
  refine Calls.mono (HP2 _ _ (HI.out.arg.keepN ((T2.out.trans T3.out).trans T4.out))) ?_
  rintro e w5 ⟨ut, rfl, bt⟩
  obtain ⟨at_, ct, rfl⟩ := bt.form
  have T5 : Hid (Touch (fun _ => False) x4 (w5.alloc (.cells #[.int .u16 H.age, .int .u8 H.opts, .int .u8 H.typ, .int .u32 H.id, .int .u32 H.adv, .int .i32 H.seq, .int .u16 H.sum, .int .u16 H.len, .slice at_ bd.length ct] 35))) := bt.t.alloc _
  have St_ : Hid (Sd (w5.alloc (.cells #[.int .u16 H.age, .int .u8 H.opts, .int .u8 H.typ, .int .u32 H.id, .int .u32 H.adv, .int .i32 H.seq, .int .u16 H.sum, .int .u16 H.len, .slice at_ bd.length ct] 35)) w5.heap.size H (.slice at_ bd.length ct)) := Sd.new w5 H _ _
  have Bt : Hid ((w5.alloc (.cells #[.int .u16 H.age, .int .u8 H.opts, .int .u8 H.typ, .int .u32 H.id, .int .u32 H.adv, .int .i32 H.seq, .int .u16 H.sum, .int .u16 H.len, .slice at_ bd.length ct] 35)).ownsRow x4.heap.size 5 1 (.slice at_ bd.length ct) bd.length (bytesOf bd)) := own_touch bt.own ((Touch.refl (fun _ => False) _).alloc _) (fun _ _ h => h)
  have Z5 : Hid (x4.heap.size ≤ w5.heap.size ∧ w5.heap.size < (w5.alloc (.cells #[.int .u16 H.age, .int .u8 H.opts, .int .u8 H.typ, .int .u32 H.id, .int .u32 H.adv, .int .i32 H.seq, .int .u16 H.sum, .int .u16 H.len, .slice at_ bd.length ct] 35)).heap.size ∧ ∀ k, (Value.slice at_ bd.length ct).ownBlock = some k → x4.heap.size ≤ k ∧ k < w5.heap.size) := ⟨bt.t.size, by simp, fun k hk => bt.own.lt k hk⟩
  clear bt
  go_upto_region 8 with fail
  generalize w5.alloc (.cells #[.int .u16 H.age, .int .u8 H.opts, .int .u8 H.typ, .int .u32 H.id, .int .u32 H.adv, .int .i32 H.seq, .int .u16 H.sum, .int .u16 H.len, .slice at_ bd.length ct] 35) = x5 at *
  generalize w5.heap.size = gt at *
  go_wp2_with fail
  refine Calls.mono (HD2 _ _ (H0.out.keepN ((((T1.out.trans T2.out).trans T3.out).trans T4.out).trans T5.out))) ?_
  rintro e w6 ⟨ur, rfl, br⟩
  obtain ⟨ar, cr, rfl⟩ := br.form
  have T6 : Hid (Touch (fun _ => False) x5 (w6.alloc (.cells #[.int .u16 H.age, .int .u8 H.opts, .int .u8 H.typ, .int .u32 H.id, .int .u32 H.adv, .int .i32 H.seq, .int .u16 H.sum, .int .u16 H.len, .slice ar bd.length cr] 35))) := br.t.alloc _
  have Sr : Hid (Sd (w6.alloc (.cells #[.int .u16 H.age, .int .u8 H.opts, .int .u8 H.typ, .int .u32 H.id, .int .u32 H.adv, .int .i32 H.seq, .int .u16 H.sum, .int .u16 H.len, .slice ar bd.length cr] 35)) w6.heap.size H (.slice ar bd.length cr)) := Sd.new w6 H _ _
  have Br : Hid ((w6.alloc (.cells #[.int .u16 H.age, .int .u8 H.opts, .int .u8 H.typ, .int .u32 H.id, .int .u32 H.adv, .int .i32 H.seq, .int .u16 H.sum, .int .u16 H.len, .slice ar bd.length cr] 35)).ownsRow x5.heap.size 5 1 (.slice ar bd.length cr) bd.length (bytesOf bd)) := own_touch br.own ((Touch.refl (fun _ => False) _).alloc _) (fun _ _ h => h)
  have Z6 : Hid (x5.heap.size ≤ w6.heap.size ∧ w6.heap.size < (w6.alloc (.cells #[.int .u16 H.age, .int .u8 H.opts, .int .u8 H.typ, .int .u32 H.id, .int .u32 H.adv, .int .i32 H.seq, .int .u16 H.sum, .int .u16 H.len, .slice ar bd.length cr] 35)).heap.size ∧ ∀ k, (Value.slice ar bd.length cr).ownBlock = some k → x5.heap.size ≤ k ∧ k < w6.heap.size) := ⟨br.t.size, by simp, fun k hk => br.own.lt k hk⟩
  clear br
  go_upto_region 9 with fail
  generalize w6.alloc (.cells #[.int .u16 H.age, .int .u8 H.opts, .int .u8 H.typ, .int .u32 H.id, .int .u32 H.adv, .int .i32 H.seq, .int .u16 H.sum, .int .u16 H.len, .slice ar bd.length cr] 35) = x6 at *
  generalize w6.heap.size = gr at *
  obtain ⟨h0, h1, h2, h3, h4, h5, h6, h7⟩ := D1.out.keep (((T3.out.trans T4.out).trans T5.out).trans T6.out)
  obtain ⟨k0, k1, k2, k3, k4, k5, k6, k7⟩ := D2.out.keep ((T4.out.trans T5.out).trans T6.out)
  obtain ⟨⟨s0, s1, s2, s3, s4, s5, s6, s7⟩, s8⟩ := Ss.out.keep (T5.out.trans T6.out)
  obtain ⟨⟨r0, r1, r2, r3, r4, r5, r6, r7⟩, r8⟩ := Sr.out
  have BS6 := own_touch Bs.out (T5.out.trans T6.out) (fun _ _ h => h)
  have HES := fun w ha hb => estate_true H (.slice as_ bd.length cs) (.slice ar bd.length cr) bd w ha hb
  have HET := fun w ha hb => estate_true H (.slice at_ bd.length ct) (.slice ar bd.length cr) bd w ha hb
  unfold HV.sv at HES HET
  have RS : Hid (RowAt x6 (.slice as_ bd.length cs) bd) := own_rowAt BS6
  clear BS6 HP2 HD2
  go_wp2_with fail
  refine Calls.mono (HES _ RS.out (own_rowAt Br.out).arg) ?_
  rintro e w7 ⟨rfl, t7⟩
  have T7 : Hid (Touch (fun _ => False) x6 w7) := t7
  clear h0 h1 h2 h3 h4 h5 h6 h7 k0 k1 k2 k3 k4 k5 k6 k7 s0 s1 s2 s3 s4 s5 s6 s7 s8 r0 r1 r2 r3 r4 r5 r6 r7 r8 HES t7
  obtain ⟨⟨s0, s1, s2, s3, s4, s5, s6, s7⟩, s8⟩ := St_.out.keep (T6.out.trans T7.out)
  obtain ⟨⟨r0, r1, r2, r3, r4, r5, r6, r7⟩, r8⟩ := Sr.out.keep T7.out
  have BT7 := own_touch Bt.out (T6.out.trans T7.out) (fun _ _ h => h)
  have RT : Hid (RowAt w7 (.slice at_ bd.length ct) bd) := own_rowAt BT7
  have BR7 := own_touch Br.out T7.out (fun _ _ h => h)
  have RR : Hid (RowAt w7 (.slice ar bd.length cr) bd) := own_rowAt BR7
  clear BT7 BR7
  go_wp2_with fail
  refine Calls.mono (HET _ RT.out RR.out.arg) ?_
  rintro e w8 ⟨rfl, t8⟩
  have T8 : Hid (Touch (fun _ => False) w7 w8) := t8
  have T18 : Hid (Touch (fun _ => False) w1 w8) := (((((T2.out.trans T3.out).trans T4.out).trans T5.out).trans T6.out).trans T7.out).trans t8
  clear s0 s1 s2 s3 s4 s5 s6 s7 s8 r0 r1 r2 r3 r4 r5 r6 r7 r8 HET t8
  go_wp2_with fail
  refine (eq_true _ _ rs w8 (HI.out.touch T18.out (fun _ _ h => h)) (H0.out.keepN (T1.out.trans T18.out))).mono ?_
  rintro e w' ⟨rfl, n2, rfl⟩
  go_wp2_with fail
  refine (spare_any gi rs _ ((T18.out.drewN n2).heapN HG.out) (by have := HL.out; omega)).mono ?_
  rintro e w' ⟨rfl, rfl⟩
  have T89 : Hid (Touch (fun _ => False) x6 (w8.drewN n2)) := (T7.out.trans T8.out).drewN n2
  generalize w8.drewN n2 = w9 at *
  go_upto_region 12 with fail
  have hbag := bag_new (w := w9) (T := 62) #[.slice none 0 0, .slice none 0 0, .slice none 0 0, .slice none 0 0, .slice none 0 0, .slice none 0 0, .slice none 0 0, .slice none 0 0, .slice none 0 0, .slice none 0 0, .slice none 0 0, .slice none 0 0, .slice none 0 0, .slice none 0 0, .slice none 0 0, .slice none 0 0, .slice none 0 0, .slice none 0 0, .slice none 0 0] rfl
  have HB0 : Hid (BagB (w9.alloc (.cells #[.slice none 0 0, .slice none 0 0, .slice none 0 0, .slice none 0 0, .slice none 0 0, .slice none 0 0, .slice none 0 0, .slice none 0 0, .slice none 0 0, .slice none 0 0, .slice none 0 0, .slice none 0 0, .slice none 0 0, .slice none 0 0, .slice none 0 0, .slice none 0 0, .slice none 0 0, .slice none 0 0, .slice none 0 0] 62)) w9.heap.size (.slice none 0 0) [] ∧ (w9.alloc (.cells #[.slice none 0 0, .slice none 0 0, .slice none 0 0, .slice none 0 0, .slice none 0 0, .slice none 0 0, .slice none 0 0, .slice none 0 0, .slice none 0 0, .slice none 0 0, .slice none 0 0, .slice none 0 0, .slice none 0 0, .slice none 0 0, .slice none 0 0, .slice none 0 0, .slice none 0 0, .slice none 0 0, .slice none 0 0] 62)).frozen? ⟨w9.heap.size, 0, none⟩ = false ∧ BagN (w9.alloc (.cells #[.slice none 0 0, .slice none 0 0, .slice none 0 0, .slice none 0 0, .slice none 0 0, .slice none 0 0, .slice none 0 0, .slice none 0 0, .slice none 0 0, .slice none 0 0, .slice none 0 0, .slice none 0 0, .slice none 0 0, .slice none 0 0, .slice none 0 0, .slice none 0 0, .slice none 0 0, .slice none 0 0, .slice none 0 0] 62)) w9.heap.size) := hbag
  have T10 : Hid (Touch (fun _ => False) x6 (w9.alloc (.cells #[.slice none 0 0, .slice none 0 0, .slice none 0 0, .slice none 0 0, .slice none 0 0, .slice none 0 0, .slice none 0 0, .slice none 0 0, .slice none 0 0, .slice none 0 0, .slice none 0 0, .slice none 0 0, .slice none 0 0, .slice none 0 0, .slice none 0 0, .slice none 0 0, .slice none 0 0, .slice none 0 0, .slice none 0 0] 62))) := T89.out.alloc _
  have Z9 : Hid (x6.heap.size ≤ w9.heap.size ∧ w9.heap.size < (w9.alloc (.cells #[.slice none 0 0, .slice none 0 0, .slice none 0 0, .slice none 0 0, .slice none 0 0, .slice none 0 0, .slice none 0 0, .slice none 0 0, .slice none 0 0, .slice none 0 0, .slice none 0 0, .slice none 0 0, .slice none 0 0, .slice none 0 0, .slice none 0 0, .slice none 0 0, .slice none 0 0, .slice none 0 0, .slice none 0 0] 62)).heap.size) := ⟨T89.out.size, by simp⟩
  clear hbag
  generalize w9.alloc (.cells #[.slice none 0 0, .slice none 0 0, .slice none 0 0, .slice none 0 0, .slice none 0 0, .slice none 0 0, .slice none 0 0, .slice none 0 0, .slice none 0 0, .slice none 0 0, .slice none 0 0, .slice none 0 0, .slice none 0 0, .slice none 0 0, .slice none 0 0, .slice none 0 0, .slice none 0 0, .slice none 0 0, .slice none 0 0] 62) = x9 at *
  generalize w9.heap.size = bb at *
  obtain ⟨⟨s0, s1, s2, s3, s4, s5, s6, s7⟩, s8⟩ := Ss.out.keep ((T5.out.trans T6.out).trans T10.out)
  have OS : Hid (x9.ownsRow 0 5 1 (.slice as_ bd.length cs) bd.length (bytesOf bd)) := own_lower (own_touch Bs.out ((T5.out.trans T6.out).trans T10.out) (fun _ _ h => h)) (Nat.zero_le _)
  have OT : Hid (x9.ownsRow 0 5 1 (.slice at_ bd.length ct) bd.length (bytesOf bd)) := own_lower (own_touch Bt.out (T6.out.trans T10.out) (fun _ _ h => h)) (Nat.zero_le _)
  have T19 : Hid (Touch (fun _ => False) w x9) := (((((T1.out.trans T2.out).trans T3.out).trans T4.out).trans T5.out).trans T6.out).trans T10.out
  have ST9 : Hid (Sd x9 gt H (.slice at_ bd.length ct)) := St_.out.keep (T6.out.trans T10.out)
  -- where all lies
  have KS : Hid (∀ k, (Value.slice as_ bd.length cs).ownBlock = some k → gi < k ∧ k < gs) := fun k hk => by
    have h1 := Z4.out.2.2 k hk; have h2 := hz1.out; have h3 := Z2.out; have h4 := Z3.out; have h5 := T2.out.size; have h6 := T3.out.size; omega
  have KT : Hid (∀ k, (Value.slice at_ bd.length ct).ownBlock = some k → gs < k ∧ k < gt) := fun k hk => by
    have h1 := Z5.out.2.2 k hk; have h2 := Z4.out; omega
  have KG : Hid (gi < gs ∧ gs < gt ∧ gt < bb) := by
    have h1 := Z5.out; have h2 := Z4.out; have h3 := Z3.out; have h4 := Z2.out; have h5 := hz1.out; have h6 := Z6.out; have h7 := Z9.out; have h8 := T2.out.size; have h9 := T3.out.size
    show _ ∧ _; omega
  clear Ss St_ Sr Bs Bt Br RS RT RR D1 D2 T2 T3 T4 T5 T6 T7 T8 T18 T89 T10 Z2 Z3 Z4 Z5 Z6 hz1 HG HI H0 T1
  go_wp2_with fail
  refine Calls.mono (addS_any bb (.slice none 0 0) [] H (.slice as_ bd.length cs) bd x9 HB0.out.1 HB0.out.2.1 OS.out (by have := HLL.out; omega) (fun k hk => ⟨by have := KS.out k hk; have := KG.out; omega, by simp [Value.ownBlock], by simp⟩) (by simp) (by simp [Value.ownBlock])) ?_
  rintro e y1 ⟨rfl, gv1, hb1, hf1, hq1, hr1, tb1, hc1⟩
  have HB1 : Hid (BagB y1 bb gv1 ([] ++ [.slice as_ bd.length cs])) := hb1
  have HF1 : Hid (y1.frozen? ⟨bb, 0, none⟩ = false) := hf1
  have HQ1 : Hid (∀ k, gv1.ownBlock = some k → bb < k) := hq1
  have TB1 : Hid (Touch (fun k => k = bb) x9 y1) := Touch.mono tb1 (fun i _ e => by simpa [Value.ownBlock] using e)
  have HN1 : Hid (BagN y1 bb) := fun j h1 h2 => hc1 j _ h1 (HB0.out.2.2 j h1 h2)
  have OT1 : Hid (y1.ownsRow 0 5 1 (.slice at_ bd.length ct) bd.length (bytesOf bd)) := own_touch OT.out TB1.out (fun k hk e => by have := KT.out k hk; have := KG.out; omega)
  clear hb1 hf1 hq1 hr1 tb1 hc1 s0 s1 s2 s3 s4 s5 s6 s7 s8 HB0 OT
  have tt : gt < x9.heap.size := lt_of_cell ST9.out.c8
  have hgb : ¬ gt = bb := by have := KG.out; omega
  have mv : ∀ i v, x9.cell? ⟨gt, i, none⟩ = some v → y1.cell? ⟨gt, i, none⟩ = some v := fun i v hc => (TB1.out.cell (p := ⟨gt, i, none⟩) tt hgb).trans hc
  have s0 := mv _ _ ST9.out.hd.c0
  have s1 := mv _ _ ST9.out.hd.c1
  have s2 := mv _ _ ST9.out.hd.c2
  have s3 := mv _ _ ST9.out.hd.c3
  have s4 := mv _ _ ST9.out.hd.c4
  have s5 := mv _ _ ST9.out.hd.c5
  have s6 := mv _ _ ST9.out.hd.c6
  have s7 := mv _ _ ST9.out.hd.c7
  have s8 := mv _ _ ST9.out.c8
  clear mv tt hgb ST9
  go_wp2_with fail
  refine Calls.mono (addS_any bb gv1 _ H (.slice at_ bd.length ct) bd y1 HB1.out HF1.out OT1.out (by have := HLL.out; omega) (fun k hk => ⟨by have := KT.out k hk; have := KG.out; omega, fun e => by have h1 := HQ1.out k e; have h2 := KT.out k hk; have := KG.out; omega, fun m u hu e => by
    have h1 : u = .slice as_ bd.length cs := by
      cases m with
      | zero => simpa using hu.symm
      | succ m => simp at hu
    subst h1
    have h2 := KS.out k e; have h3 := KT.out k hk; omega⟩) (by simp) HQ1.out) ?_
  rintro e y2 ⟨rfl, gv2, hb2, hf2, hq2, hr2, tb2, hc2⟩
  have HB2 : Hid (BagB y2 bb gv2 ([] ++ [.slice as_ bd.length cs] ++ [.slice at_ bd.length ct])) := hb2
  have HN2 : Hid (BagN y2 bb) := fun j h1 h2 => hc2 j _ h1 (HN1.out j h1 h2)
  have TB2 : Hid (Touch (fun k => bb ≤ k) x9 y2) := (Touch.mono TB1.out (fun i _ e => by omega)).trans (Touch.mono tb2 (fun i _ e => by rcases e with e | e; omega; have := HQ1.out i e; omega))
  clear hb2 hf2 hq2 hr2 tb2 hc2 s0 s1 s2 s3 s4 s5 s6 s7 s8 HB1 HF1 HQ1 HN1 OT1 TB1
  go_wp2_with fail
  refine Calls.mono (Apart_any bb gv2 _ y2 HB2.out HN2.out) ?_
  rintro e y3 ⟨rfl, t3⟩
  have T3 : Hid (Touch (fun k => gi < k) x9 y3) := (Touch.mono TB2.out (fun i _ e => by have := KG.out; omega)).trans (Touch.mono t3 (fun i _ f => by
    obtain ⟨m, v, hm, hv⟩ := f
    match m, hm with
    | 0, hm => (have : v = .slice as_ bd.length cs := by simpa using hm.symm); subst this; exact (KS.out _ hv).1
    | 1, hm => (have : v = .slice at_ bd.length ct := by simpa using hm.symm); subst this; have := KT.out _ hv; have := KG.out; omega
    | m + 2, hm => simp at hm))
  clear t3 TB2 HB2 HN2
  go_wp2_with fail
  refine (lives6 _).mono ?_
  rintro e w' ⟨rfl, tl⟩
  go_wp2
  go_ret
  exact ⟨rfl, ((T19.out.trans' T3.out (fun i hi e => by have := HGI.out; omega)).trans tl).below (by have := HGI.out; omega) (fun _ _ h => h)⟩
end Go.Proofs.YtfdpmlogieaiaaaGreatDoor
