/- The small known run 'lives' answers true. -/
import Derived.Test.YthdkihnmeoacaaaGreatDoorStCopyB
import Derived.Test.YthdkihnmeoacaaaGreatDoorStWideS
import Derived.Test.YthdkihnmeoacaaaGreatDoorStaWr
import Derived.Test.YthdkihnmeoacaaaGreatDoorBagThree
import Derived.Deep.DeepCutAuto
namespace Go.Proofs.YthdkihnmeoacaaaGreatDoor
open Go.RowKit
set_option linter.unusedVariables false
set_option maxRecDepth 100000

def lvH : HV := ⟨0, 0, 3, 0, 0, 1, 0, 0⟩
def lvH6 : HV := ⟨0, 0, 6, 0, 0, 0, 0, 0⟩
def lvB : BV := ⟨0, [], 4294967040, [], 10, false, 0, 0, []⟩
def lvL : List Int := [255, 255, 255, 0, 0, 0, 0, 10]
theorem lvH_all : lvH.All := by constructor <;> decide
theorem lvH6_all : lvH6.All := by constructor <;> decide
theorem lvB_ok : lvB.Ok := by constructor <;> simp [lvB]
theorem lvZ_ok : BV.zero.Ok := by constructor <;> simp [BV.zero]
theorem lvB_light : Light lvB := ⟨by decide, by decide, by decide⟩
theorem lvZ_light : Light BV.zero := ⟨by decide, by decide, by decide⟩
theorem lv_mask : pbok 4294967040 = true := by decide +kernel
theorem lv_lay : layB lvH.typ lvB = lvL := by decide +kernel
theorem lv_byte : ∀ z ∈ lvL, 0 ≤ z ∧ z < 256 := by decide
theorem lv_encok : EncOk lvH.typ lvB := ⟨by decide, (mayB_iff _ _).2 ⟨by decide, by decide, by decide, by decide, by decide, by decide, lv_mask, by decide, by decide, by decide, by simp [lvB]⟩, by rw [lv_lay]; decide⟩
theorem nil_barg (w : World) (B : BV) (h1 : B.links = []) (h3 : B.routers = []) (h8 : B.data = []) : BArg w B (.slice none B.links.length 0) (.slice none B.routers.length 0) (.slice none B.data.length 0) := by
  rw [h1, h3, h8]
  refine ⟨?_, ?_, ?_⟩
  · rw [h1]; exact ⟨rfl, Or.inl ⟨rfl, rfl⟩⟩
  · rw [h3]; exact ⟨rfl, Or.inl ⟨rfl, rfl⟩⟩
  · rw [h8]; exact Or.inl ⟨rfl, rfl⟩
theorem lv_enc (w : World) : Calls Tryz.prog 9 #[.agg #[.int .u16 0, .int .u8 0, .int .u8 3, .int .u32 0, .int .u32 0, .int .i32 1, .int .u16 0, .int .u16 0], .agg #[.int .u8 0, .slice none 0 0, .int .u32 4294967040, .slice none 0 0, .int .u32 10, .bool false, .int .u32 0, .int .u32 0, .slice none 0 0]] w fun e w' => ∃ u, e = .returned (.tuple #[(sealH lvH lvL).sv u, .int .i64 0]) ∧ Buf w w' u lvL := by
  have := encode_good lvH lvH_all lvB lvB_ok lvB_light none none none 0 0 0 w (nil_barg w lvB rfl rfl rfl) lv_encok
  rw [lv_lay] at this
  exact this
theorem lv_enc6 (w : World) : Calls Tryz.prog 9 #[.agg #[.int .u16 0, .int .u8 0, .int .u8 6, .int .u32 0, .int .u32 0, .int .i32 0, .int .u16 0, .int .u16 0], .agg #[.int .u8 0, .slice none 0 0, .int .u32 0, .slice none 0 0, .int .u32 0, .bool false, .int .u32 0, .int .u32 0, .slice none 0 0]] w fun e w' => e = .returned (.tuple #[.agg #[.int .u16 0, .int .u8 0, .int .u8 0, .int .u32 0, .int .u32 0, .int .i32 0, .int .u16 0, .int .u16 0, .slice none 0 0], .int .i64 21]) ∧ Touch (fun _ => False) w w' :=
  encode_bad lvH6 lvH6_all BV.zero lvZ_ok lvZ_light none none none 0 0 0 w (nil_barg w BV.zero rfl rfl rfl) (by decide)
theorem lv_whole : whole ((headB (sealH lvH lvL) ++ lvL).drop 2) = true := by decide +kernel
theorem lv_sum0 : sealS lvH lvL ≠ 0 := by decide +kernel
theorem lv_sealAll : (sealH lvH lvL).All := by
  refine ⟨by decide, by decide, by decide, by decide, by decide, by decide, ?_, by decide⟩
  show 0 ≤ sealS lvH lvL ∧ sealS lvH lvL < 65536
  decide +kernel
theorem lv_decB : decB 3 lvL = some lvB := by
  rw [← lv_lay]
  exact decB_layB lvB_ok ((mayB_iff _ _).1 lv_encok.may)
theorem lv_chkE : chkE (sealH lvH lvL) lvL = 0 := by
  have h5 : decB (sealH lvH lvL).typ lvL = some lvB := lv_decB
  unfold chkE
  rw [if_neg (by decide), if_neg (by rintro (q | q); exact lv_sum0 q; rw [lv_whole] at q; cases q), if_neg (by decide), if_neg (by decide), if_neg (by rw [h5]; simp)]
theorem lv_dec (u : Value) (w : World) (hv : ArgAt w u lvL) : Calls Tryz.prog 17 #[(sealH lvH lvL).sv u] w fun e w' => ∃ (a1 : Option Addr) (q1 : Nat) (a3 : Option Addr) (q3 : Nat) (a8 : Option Addr) (q8 : Nat), e = .returned (.tuple #[.agg #[.int .u8 0, .slice a1 0 q1, .int .u32 4294967040, .slice a3 0 q3, .int .u32 10, .bool false, .int .u32 0, .int .u32 0, .slice a8 0 q8], .int .i64 0]) ∧ Touch (fun _ => False) w w' := by
  refine (decode_good (sealH lvH lvL) lv_sealAll u lvL w lvB hv lv_byte (by decide) (by decide) lv_decB).mono ?_
  rintro e w' ⟨vl, vr, vd, rfl, o, t⟩
  obtain ⟨a1, q1, a3, q3, a8, q8, rfl, rfl, rfl⟩ := o.form
  exact ⟨a1, q1, a3, q3, a8, q8, rfl, t⟩
theorem lv_chk (u : Value) (w : World) (hv : ArgAt w u lvL) : Calls Tryz.prog 21 #[(sealH lvH lvL).sv u] w fun e w' => e = .returned (.int .i64 0) ∧ Touch (fun _ => False) w w' := by
  have := check_any (sealH lvH lvL) lv_sealAll u lvL w hv lv_byte (by decide)
  rwa [lv_chkE] at this
set_option maxHeartbeats 1000000 in
theorem lives6 (w : World) : Calls Tryz.prog 7 #[] w fun e w' => e = .returned (.bool true) ∧ Touch (fun _ => False) w w' := by
  go_enter Tryz.func7, Tryz.ntmps7
  go_wp2_with fail
  refine Calls.mono (lv_enc _) ?_
  rintro e w1 ⟨u, rfl, b1⟩
  obtain ⟨ua, uc, rfl⟩ := b1.form
  have HD := fun w h => lv_dec (.slice ua lvL.length uc) w h
  have HCk := fun w h => lv_chk (.slice ua lvL.length uc) w h
  have B1 : Hid (Buf w w1 (.slice ua lvL.length uc) lvL) := b1
  have e8 : lvL.length = 8 := rfl
  clear b1
  unfold HV.sv sealH at HD HCk ⊢
  simp only [lvH] at HD HCk ⊢
  generalize sealS _ lvL = SS at HD HCk ⊢
  have e28 : (20 : Int) + (lvL.length : Int) = 28 := rfl
  simp only [e28] at HD HCk ⊢
  simp only [e8] at HD HCk ⊢
  replace B1 : Hid (Buf w w1 (.slice ua 8 uc) lvL) := B1
  clear e28 e8
  have S1 : Sd (w1.alloc (.cells #[.int .u16 0, .int .u8 0, .int .u8 3, .int .u32 0, .int .u32 0, .int .i32 1, .int .u16 SS, .int .u16 28, .slice ua 8 uc] 35)) w1.heap.size ⟨0, 0, 3, 0, 0, 1, SS, 28⟩ (.slice ua 8 uc) := Sd.new w1 ⟨0, 0, 3, 0, 0, 1, SS, 28⟩ (.slice ua 8 uc) 35
  go_wp2_with fail
  refine Calls.mono (HD _ (B1.out.arg.keepN ((Touch.refl _ _).alloc _))) ?_
  rintro e w2 ⟨a1, q1, a3, q3, a8, q8, rfl, t2⟩
  have HS2 : Hid (Sd w2 w1.heap.size ⟨0, 0, 3, 0, 0, 1, SS, 28⟩ (.slice ua 8 uc)) := S1.keep t2
  have T2 : Hid (Touch (fun _ => False) w1 w2) := ((Touch.refl _ w1).alloc _).trans t2
  have m2 : (w2.alloc (.cells #[.int .u8 0, .slice a1 0 q1, .int .u32 4294967040, .slice a3 0 q3, .int .u32 10, .bool false, .int .u32 0, .int .u32 0, .slice a8 0 q8] 30)).cell? ⟨w2.heap.size, 4, none⟩ = some (.int .u32 10) := by simp [go_sem]
  clear S1 t2 HD
  go_wp2_with fail
  refine Calls.mono (lv_enc6 _) ?_
  rintro e w3 ⟨rfl, t3⟩
  have c3 := t3.cellN m2
  have T3 : Hid (Touch (fun _ => False) w1 w3) := (T2.out.alloc _).trans t3
  have h3 : w2.heap.size < w3.heap.size := lt_of_cell c3
  obtain ⟨⟨s0, s1, s2, s3, s4, s5, s6, s7⟩, s8⟩ := (HS2.out.keep ((Touch.refl _ _).alloc _)).keep t3
  dsimp only at s0 s1 s2 s3 s4 s5 s6 s7
  have h31 : w1.heap.size < w3.heap.size := lt_of_cell s0
  clear m2 t3 HS2 T2
  have hx1 : ¬ w1.heap.size = w3.heap.size := by omega
  have hx2 : ¬ w2.heap.size = w3.heap.size := by omega
  go_wp2_with fail
  refine Calls.mono (HCk _ ((B1.out.arg.keepN T3.out).keepN ((Touch.refl _ _).alloc _))) ?_
  rintro e w4 ⟨rfl, t4⟩
  have T4 : Hid (Touch (fun _ => False) w w4) := (B1.out.t.trans (T3.out.alloc _)).trans t4
  clear t4 HCk s0 s1 s2 s3 s4 s5 s6 s7 s8 c3
  go_wp2
  go_ret
  exact ⟨rfl, T4.out⟩
end Go.Proofs.YthdkihnmeoacaaaGreatDoor

namespace Go.Proofs.YthdkihnmeoacaaaGreatDoor
open Go.RowKit
set_option linter.unusedVariables false
set_option maxRecDepth 100000

theorem decA_small (h : HV) (rs : List Int) : (decA h rs).links.length ≤ rs.length ∧ (decA h rs).routers.length ≤ rs.length ∧ (decA h rs).data.length ≤ rs.length := by
  by_cases he : decE h rs = 0
  · obtain ⟨h1, hk, B, hd, ha⟩ := decE_zero he
    obtain ⟨hr, -, -⟩ := decB_some hd
    have hs := rdB_small h.typ rs
    have e : rdB h.typ rs = B := by unfold rdB; rw [hr]; rfl
    rw [e] at hs
    rw [ha]
    omega
  · have ha : decA h rs = BV.zero := by unfold decA; rw [if_neg he]
    rw [ha]
    simp [BV.zero]
set_option maxHeartbeats 4000000 in
theorem decodes_any (h : HV) (ok : h.All) (v : Value) (rs : List Int) (w : World) (h0 : ArgAt w v rs) (hby : ∀ z ∈ rs, 0 ≤ z ∧ z < 256) :
    Calls Tryz.prog 4 #[h.sv v] w fun e w' => e = .returned (.bool true) ∧ Below w.heap.size w w' := by
  obtain ⟨va, vc, rfl, hm⟩ := h0.form
  show Calls Tryz.prog 4 #[.agg #[.int .u16 h.age, .int .u8 h.opts, .int .u8 h.typ, .int .u32 h.id, .int .u32 h.adv, .int .i32 h.seq, .int .u16 h.sum, .int .u16 h.len, .slice va rs.length vc]] w _
  by_cases hbig : 131072 < rs.length
  · have hb' : (131072 : Int) < (rs.length : Int) := by omega
    clear h0 hby hbig
    go_enter Tryz.func4, Tryz.ntmps4
    go_wp2_with fail
    refine (lives6 _).mono ?_
    rintro e w' ⟨rfl, tl⟩
    go_wp2
    go_ret
    exact ⟨rfl, (((Touch.refl _ w).alloc _).trans tl).below (Nat.le_refl _) (fun _ _ h => h)⟩
  have hb' : ¬ (131072 : Int) < (rs.length : Int) := by omega
  have HL : Hid (rs.length ≤ 131072) := by show _ ≤ _; omega
  have H0 : Hid (ArgAt w (.slice va rs.length vc) rs) := h0
  have HY : Hid (∀ z ∈ rs, 0 ≤ z ∧ z < 256) := hby
  have HW := fun w' (a : ArgAt w' (.slice va rs.length vc) rs) => wstate_any h (.slice va rs.length vc) rs w' a HY.out (by have := HL.out; omega)
  have HP := fun v' w' (a : ArgAt w' v' rs) => decode_all h ok v' rs w' a HY.out HL.out
  have HD := fun w' (a : ArgAt w' (.slice va rs.length vc) rs) => ddecode_any h ok (.slice va rs.length vc) rs w' a HY.out HL.out
  have HEI := fun va' vb' w' (a : RowAt w' va' rs) (b : ArgAt w' vb' rs) => estate_true h va' vb' rs w' a b
  have HSP := fun g w' hb => sstate_any h g rs w' hb (by have := HL.out; omega)
  have HSM : Hid ((decA h rs).links.length ≤ 131072 ∧ (decA h rs).routers.length ≤ 131072 ∧ (decA h rs).data.length ≤ 131072) := by have h1 := decA_small h rs; have h2 := HL.out; show _ ∧ _; omega
  generalize decE h rs = ed at *
  generalize decA h rs = B at *
  have HEB := fun a1 a3 a8 c1 c3 c8 q1 q3 q8 r1 r3 r8 w' x y z => ebody_true B a1 a3 a8 c1 c3 c8 q1 q3 q8 r1 r3 r8 w' x y z
  unfold HV.sv at HW HP HD HEI
  unfold BV.v at HP HD HEB
  clear h0 hby hbig hm ok
  go_enter Tryz.func4, Tryz.ntmps4
  go_upto_region 1 with fail
  have K0 : Hid (Sd (w.alloc (.cells #[.int .u16 h.age, .int .u8 h.opts, .int .u8 h.typ, .int .u32 h.id, .int .u32 h.adv, .int .i32 h.seq, .int .u16 h.sum, .int .u16 h.len, .slice va rs.length vc] 35)) w.heap.size h (.slice va rs.length vc)) := Sd.new w h _ _
  have T0 : Hid (Touch (fun _ => False) w (w.alloc (.cells #[.int .u16 h.age, .int .u8 h.opts, .int .u8 h.typ, .int .u32 h.id, .int .u32 h.adv, .int .i32 h.seq, .int .u16 h.sum, .int .u16 h.len, .slice va rs.length vc] 35))) := (Touch.refl _ w).alloc _
  have Z0 : Hid (w.heap.size < (w.alloc (.cells #[.int .u16 h.age, .int .u8 h.opts, .int .u8 h.typ, .int .u32 h.id, .int .u32 h.adv, .int .i32 h.seq, .int .u16 h.sum, .int .u16 h.len, .slice va rs.length vc] 35)).heap.size) := by show _ < _; simp
  generalize w.alloc (.cells #[.int .u16 h.age, .int .u8 h.opts, .int .u8 h.typ, .int .u32 h.id, .int .u32 h.adv, .int .i32 h.seq, .int .u16 h.sum, .int .u16 h.len, .slice va rs.length vc] 35) = x0 at *
  generalize hg0 : w.heap.size = g0 at *
  have HG0 : Hid (w.heap.size = g0) := hg0
  clear hg0
  obtain ⟨⟨c0, c1, c2, c3, c4, c5, c6, c7⟩, c8⟩ := K0.out
  go_wp2_with fail
  refine Calls.mono (HW _ (H0.out.keepN T0.out)) ?_
  rintro e w1 ⟨rfl, hg1, t1⟩
  generalize hgi : x0.heap.size + 2 = gi at *
  have HGB : Hid (w1.heap[gi]? = some (.cells (bytesOf (rs ++ spareMarks rs.length)).toArray 5 (0, 0))) := hg1
  have HI : Hid (RowAt w1 (.slice (some ⟨gi, 0, none⟩) rs.length (rs.length + 64)) rs) := rowAt_block hg1 (by rw [length_spareMarks]) (by have := HL.out; unfold maxLen; omega)
  clear hgi hg1 HW
  have T1 : Hid (Touch (fun _ => False) x0 (w1.alloc (.cells #[.int .u16 h.age, .int .u8 h.opts, .int .u8 h.typ, .int .u32 h.id, .int .u32 h.adv, .int .i32 h.seq, .int .u16 h.sum, .int .u16 h.len, .slice (some ⟨gi, 0, none⟩) rs.length (rs.length + 64)] 35))) := t1.alloc _
  have S3 : Hid (Sd (w1.alloc (.cells #[.int .u16 h.age, .int .u8 h.opts, .int .u8 h.typ, .int .u32 h.id, .int .u32 h.adv, .int .i32 h.seq, .int .u16 h.sum, .int .u16 h.len, .slice (some ⟨gi, 0, none⟩) rs.length (rs.length + 64)] 35)) w1.heap.size h (.slice (some ⟨gi, 0, none⟩) rs.length (rs.length + 64))) := Sd.new w1 h _ _
  have HI1 : Hid (RowAt (w1.alloc (.cells #[.int .u16 h.age, .int .u8 h.opts, .int .u8 h.typ, .int .u32 h.id, .int .u32 h.adv, .int .i32 h.seq, .int .u16 h.sum, .int .u16 h.len, .slice (some ⟨gi, 0, none⟩) rs.length (rs.length + 64)] 35)) (.slice (some ⟨gi, 0, none⟩) rs.length (rs.length + 64)) rs) := HI.out.touch ((Touch.refl (fun _ => False) _).alloc _) (fun _ _ h => h)
  have HGB1 : Hid ((w1.alloc (.cells #[.int .u16 h.age, .int .u8 h.opts, .int .u8 h.typ, .int .u32 h.id, .int .u32 h.adv, .int .i32 h.seq, .int .u16 h.sum, .int .u16 h.len, .slice (some ⟨gi, 0, none⟩) rs.length (rs.length + 64)] 35)).heap[gi]? = some (.cells (bytesOf (rs ++ spareMarks rs.length)).toArray 5 (0, 0))) := ((Touch.refl (fun _ => False) _).alloc _).heapN HGB.out
  clear c0 c1 c2 c3 c4 c5 c6 c7 c8 t1 HI HGB
  go_upto_region 4 with fail
  generalize w1.alloc (.cells #[.int .u16 h.age, .int .u8 h.opts, .int .u8 h.typ, .int .u32 h.id, .int .u32 h.adv, .int .i32 h.seq, .int .u16 h.sum, .int .u16 h.len, .slice (some ⟨gi, 0, none⟩) rs.length (rs.length + 64)] 35) = x1 at *
  generalize w1.heap.size = g3 at *
  obtain ⟨⟨s0, s1, s2, s3, s4, s5, s6, s7⟩, s8⟩ := S3.out
  go_wp2_with fail
  refine Calls.mono (HP _ _ (HI1.out.arg)) ?_
  rintro e w2 ⟨vl, vr, vd, rfl, bo, t2⟩
  obtain ⟨a1s, q1s, a3s, q3s, a8s, q8s, rfl, rfl, rfl⟩ := bo.form
  have T2 : Hid (Touch (fun _ => False) x1 (w2.alloc (.cells #[.int .u8 B.flags, .slice a1s B.links.length q1s, .int .u32 B.mask, .slice a3s B.routers.length q3s, .int .u32 B.metric, .bool B.type2, .int .u32 B.fwd, .int .u32 B.tag, .slice a8s B.data.length q8s] 30))) := t2.alloc _
  have Ds : Hid (Bd (w2.alloc (.cells #[.int .u8 B.flags, .slice a1s B.links.length q1s, .int .u32 B.mask, .slice a3s B.routers.length q3s, .int .u32 B.metric, .bool B.type2, .int .u32 B.fwd, .int .u32 B.tag, .slice a8s B.data.length q8s] 30)) w2.heap.size B (.slice a1s B.links.length q1s) (.slice a3s B.routers.length q3s) (.slice a8s B.data.length q8s)) := Bd.new w2 B _ _ _ _
  have Os : Hid (BOwn x1.heap.size (w2.alloc (.cells #[.int .u8 B.flags, .slice a1s B.links.length q1s, .int .u32 B.mask, .slice a3s B.routers.length q3s, .int .u32 B.metric, .bool B.type2, .int .u32 B.fwd, .int .u32 B.tag, .slice a8s B.data.length q8s] 30)) B (.slice a1s B.links.length q1s) (.slice a3s B.routers.length q3s) (.slice a8s B.data.length q8s)) := bo.keep ((Touch.refl _ _).alloc _)
  have Z2 : Hid (x1.heap.size ≤ w2.heap.size ∧ w2.heap.size < (w2.alloc (.cells #[.int .u8 B.flags, .slice a1s B.links.length q1s, .int .u32 B.mask, .slice a3s B.routers.length q3s, .int .u32 B.metric, .bool B.type2, .int .u32 B.fwd, .int .u32 B.tag, .slice a8s B.data.length q8s] 30)).heap.size ∧ (∀ k, (Value.slice a1s B.links.length q1s).ownBlock = some k → x1.heap.size ≤ k ∧ k < w2.heap.size) ∧ (∀ k, (Value.slice a3s B.routers.length q3s).ownBlock = some k → x1.heap.size ≤ k ∧ k < w2.heap.size) ∧ (∀ k, (Value.slice a8s B.data.length q8s).ownBlock = some k → x1.heap.size ≤ k ∧ k < w2.heap.size)) := ⟨t2.size, by simp, fun k hk => bo.l.lt k hk, fun k hk => bo.r.lt k hk, fun k hk => bo.d.lt k hk⟩
  clear s0 s1 s2 s3 s4 s5 s6 s7 s8 bo t2
  go_upto_region 5 with fail
  generalize (w2.alloc (.cells #[.int .u8 B.flags, .slice a1s B.links.length q1s, .int .u32 B.mask, .slice a3s B.routers.length q3s, .int .u32 B.metric, .bool B.type2, .int .u32 B.fwd, .int .u32 B.tag, .slice a8s B.data.length q8s] 30)) = x2 at *
  generalize w2.heap.size = g4 at *
  obtain ⟨⟨s0, s1, s2, s3, s4, s5, s6, s7⟩, s8⟩ := S3.out.keep T2.out
  go_wp2_with fail
  refine Calls.mono (HP _ _ (HI1.out.arg.keepN T2.out)) ?_
  rintro e w3 ⟨vl, vr, vd, rfl, bo, t3⟩
  obtain ⟨a1t, q1t, a3t, q3t, a8t, q8t, rfl, rfl, rfl⟩ := bo.form
  have T3 : Hid (Touch (fun _ => False) x2 (w3.alloc (.cells #[.int .u8 B.flags, .slice a1t B.links.length q1t, .int .u32 B.mask, .slice a3t B.routers.length q3t, .int .u32 B.metric, .bool B.type2, .int .u32 B.fwd, .int .u32 B.tag, .slice a8t B.data.length q8t] 30))) := t3.alloc _
  have Dt : Hid (Bd (w3.alloc (.cells #[.int .u8 B.flags, .slice a1t B.links.length q1t, .int .u32 B.mask, .slice a3t B.routers.length q3t, .int .u32 B.metric, .bool B.type2, .int .u32 B.fwd, .int .u32 B.tag, .slice a8t B.data.length q8t] 30)) w3.heap.size B (.slice a1t B.links.length q1t) (.slice a3t B.routers.length q3t) (.slice a8t B.data.length q8t)) := Bd.new w3 B _ _ _ _
  have Ot : Hid (BOwn x2.heap.size (w3.alloc (.cells #[.int .u8 B.flags, .slice a1t B.links.length q1t, .int .u32 B.mask, .slice a3t B.routers.length q3t, .int .u32 B.metric, .bool B.type2, .int .u32 B.fwd, .int .u32 B.tag, .slice a8t B.data.length q8t] 30)) B (.slice a1t B.links.length q1t) (.slice a3t B.routers.length q3t) (.slice a8t B.data.length q8t)) := bo.keep ((Touch.refl _ _).alloc _)
  have Z3 : Hid (x2.heap.size ≤ w3.heap.size ∧ w3.heap.size < (w3.alloc (.cells #[.int .u8 B.flags, .slice a1t B.links.length q1t, .int .u32 B.mask, .slice a3t B.routers.length q3t, .int .u32 B.metric, .bool B.type2, .int .u32 B.fwd, .int .u32 B.tag, .slice a8t B.data.length q8t] 30)).heap.size ∧ (∀ k, (Value.slice a1t B.links.length q1t).ownBlock = some k → x2.heap.size ≤ k ∧ k < w3.heap.size) ∧ (∀ k, (Value.slice a3t B.routers.length q3t).ownBlock = some k → x2.heap.size ≤ k ∧ k < w3.heap.size) ∧ (∀ k, (Value.slice a8t B.data.length q8t).ownBlock = some k → x2.heap.size ≤ k ∧ k < w3.heap.size)) := ⟨t3.size, by simp, fun k hk => bo.l.lt k hk, fun k hk => bo.r.lt k hk, fun k hk => bo.d.lt k hk⟩
  clear s0 s1 s2 s3 s4 s5 s6 s7 s8 bo t3
  go_upto_region 6 with fail
  generalize (w3.alloc (.cells #[.int .u8 B.flags, .slice a1t B.links.length q1t, .int .u32 B.mask, .slice a3t B.routers.length q3t, .int .u32 B.metric, .bool B.type2, .int .u32 B.fwd, .int .u32 B.tag, .slice a8t B.data.length q8t] 30)) = x3 at *
  generalize w3.heap.size = g6 at *
  obtain ⟨⟨s0, s1, s2, s3, s4, s5, s6, s7⟩, s8⟩ := K0.out.keep ((T1.out.trans T2.out).trans T3.out)
  go_wp2_with fail
  refine Calls.mono (HD _ (H0.out.keepN (((T0.out.trans T1.out).trans T2.out).trans T3.out))) ?_
  rintro e w4 ⟨vl, vr, vd, rfl, bo, t4⟩
  obtain ⟨a1r, q1r, a3r, q3r, a8r, q8r, rfl, rfl, rfl⟩ := bo.form
  have T4 : Hid (Touch (fun _ => False) x3 (w4.alloc (.cells #[.int .u8 B.flags, .slice a1r B.links.length q1r, .int .u32 B.mask, .slice a3r B.routers.length q3r, .int .u32 B.metric, .bool B.type2, .int .u32 B.fwd, .int .u32 B.tag, .slice a8r B.data.length q8r] 30))) := t4.alloc _
  have Dr : Hid (Bd (w4.alloc (.cells #[.int .u8 B.flags, .slice a1r B.links.length q1r, .int .u32 B.mask, .slice a3r B.routers.length q3r, .int .u32 B.metric, .bool B.type2, .int .u32 B.fwd, .int .u32 B.tag, .slice a8r B.data.length q8r] 30)) w4.heap.size B (.slice a1r B.links.length q1r) (.slice a3r B.routers.length q3r) (.slice a8r B.data.length q8r)) := Bd.new w4 B _ _ _ _
  have Or : Hid (BOwn x3.heap.size (w4.alloc (.cells #[.int .u8 B.flags, .slice a1r B.links.length q1r, .int .u32 B.mask, .slice a3r B.routers.length q3r, .int .u32 B.metric, .bool B.type2, .int .u32 B.fwd, .int .u32 B.tag, .slice a8r B.data.length q8r] 30)) B (.slice a1r B.links.length q1r) (.slice a3r B.routers.length q3r) (.slice a8r B.data.length q8r)) := bo.keep ((Touch.refl _ _).alloc _)
  have Z4 : Hid (x3.heap.size ≤ w4.heap.size ∧ w4.heap.size < (w4.alloc (.cells #[.int .u8 B.flags, .slice a1r B.links.length q1r, .int .u32 B.mask, .slice a3r B.routers.length q3r, .int .u32 B.metric, .bool B.type2, .int .u32 B.fwd, .int .u32 B.tag, .slice a8r B.data.length q8r] 30)).heap.size ∧ (∀ k, (Value.slice a1r B.links.length q1r).ownBlock = some k → x3.heap.size ≤ k ∧ k < w4.heap.size) ∧ (∀ k, (Value.slice a3r B.routers.length q3r).ownBlock = some k → x3.heap.size ≤ k ∧ k < w4.heap.size) ∧ (∀ k, (Value.slice a8r B.data.length q8r).ownBlock = some k → x3.heap.size ≤ k ∧ k < w4.heap.size)) := ⟨t4.size, by simp, fun k hk => bo.l.lt k hk, fun k hk => bo.r.lt k hk, fun k hk => bo.d.lt k hk⟩
  clear s0 s1 s2 s3 s4 s5 s6 s7 s8 bo t4
  go_upto_region 7 with fail
  generalize (w4.alloc (.cells #[.int .u8 B.flags, .slice a1r B.links.length q1r, .int .u32 B.mask, .slice a3r B.routers.length q3r, .int .u32 B.metric, .bool B.type2, .int .u32 B.fwd, .int .u32 B.tag, .slice a8r B.data.length q8r] 30)) = x4 at *
  generalize w4.heap.size = g8 at *
  have T14 : Hid (Touch (fun _ => False) x1 x4) := (T2.out.trans T3.out).trans T4.out
  have T04 : Hid (Touch (fun _ => False) x0 x4) := T1.out.trans T14.out
  obtain ⟨s0, s1, s2, s3, s4, s5, s6, s7, s8⟩ := Ds.out.keep (T3.out.trans T4.out)
  obtain ⟨r0, r1, r2, r3, r4, r5, r6, r7, r8⟩ := Dr.out
  have Os4 : Hid (BOwn x1.heap.size x4 B (.slice a1s B.links.length q1s) (.slice a3s B.routers.length q3s) (.slice a8s B.data.length q8s)) := Os.out.keep (T3.out.trans T4.out)
  have Ot4 : Hid (BOwn x2.heap.size x4 B (.slice a1t B.links.length q1t) (.slice a3t B.routers.length q3t) (.slice a8t B.data.length q8t)) := Ot.out.keep T4.out
  have hed : ((ed : Int) != ed) = false := by simp
  clear HP HD
  go_wp2_with fail
  refine Calls.mono (HEB _ _ _ _ _ _ _ _ _ _ _ _ _ Os4.out.arg (own_rowAt Os4.out.d) Or.out.arg) ?_
  rintro e w5 ⟨rfl, t5⟩
  have T5 : Hid (Touch (fun _ => False) x4 w5) := t5
  clear s0 s1 s2 s3 s4 s5 s6 s7 s8 r0 r1 r2 r3 r4 r5 r6 r7 r8 t5
  obtain ⟨s0, s1, s2, s3, s4, s5, s6, s7, s8⟩ := Dt.out.keep (T4.out.trans T5.out)
  obtain ⟨r0, r1, r2, r3, r4, r5, r6, r7, r8⟩ := Dr.out.keep T5.out
  go_wp2_with fail
  refine Calls.mono (HEB _ _ _ _ _ _ _ _ _ _ _ _ _ (Ot4.out.keep T5.out).arg (own_rowAt (Ot4.out.keep T5.out).d) (Or.out.keep T5.out).arg) ?_
  rintro e w6 ⟨rfl, t6⟩
  have T6 : Hid (Touch (fun _ => False) x4 w6) := T5.out.trans t6
  clear s0 s1 s2 s3 s4 s5 s6 s7 s8 r0 r1 r2 r3 r4 r5 r6 r7 r8 t6 T5 HEB
  obtain ⟨⟨s0, s1, s2, s3, s4, s5, s6, s7⟩, s8⟩ := S3.out.keep (T14.out.trans T6.out)
  obtain ⟨⟨r0, r1, r2, r3, r4, r5, r6, r7⟩, r8⟩ := K0.out.keep (T04.out.trans T6.out)
  go_wp2_with fail
  refine Calls.mono (HEI _ _ _ (HI1.out.touch (T14.out.trans T6.out) (fun _ _ h => h)) (H0.out.keepN ((T0.out.trans T04.out).trans T6.out))) ?_
  rintro e w7 ⟨rfl, t7⟩
  have T7 : Hid (Touch (fun _ => False) x4 w7) := T6.out.trans t7
  clear s0 s1 s2 s3 s4 s5 s6 s7 s8 r0 r1 r2 r3 r4 r5 r6 r7 r8 t7 T6 HEI
  obtain ⟨⟨s0, s1, s2, s3, s4, s5, s6, s7⟩, s8⟩ := S3.out.keep (T14.out.trans T7.out)
  go_wp2_with fail
  refine Calls.mono (HSP _ _ ((T14.out.trans T7.out).heapN HGB1.out)) ?_
  rintro e w8 ⟨rfl, t8⟩
  have T8 : Hid (Touch (fun _ => False) x4 w8) := T7.out.trans t8
  clear s0 s1 s2 s3 s4 s5 s6 s7 s8 t8 T7 HSP
  go_upto_region 10 with fail
  have HB0 : Hid (Bag3 (w8.alloc (.cells #[.slice none 0 0, .slice none 0 0, .slice none 0 0, .slice none 0 0, .slice none 0 0, .slice none 0 0, .slice none 0 0, .slice none 0 0, .slice none 0 0, .slice none 0 0, .slice none 0 0, .slice none 0 0, .slice none 0 0, .slice none 0 0, .slice none 0 0, .slice none 0 0, .slice none 0 0, .slice none 0 0, .slice none 0 0] 62)) w8.heap.size (.slice none 0 0) (.slice none 0 0) (.slice none 0 0) [] [] []) := Bag3.new w8 _
  have T9 : Hid (Touch (fun _ => False) x4 (w8.alloc (.cells #[.slice none 0 0, .slice none 0 0, .slice none 0 0, .slice none 0 0, .slice none 0 0, .slice none 0 0, .slice none 0 0, .slice none 0 0, .slice none 0 0, .slice none 0 0, .slice none 0 0, .slice none 0 0, .slice none 0 0, .slice none 0 0, .slice none 0 0, .slice none 0 0, .slice none 0 0, .slice none 0 0, .slice none 0 0] 62))) := T8.out.alloc _
  have Z9 : Hid (x4.heap.size ≤ w8.heap.size) := T8.out.size
  clear T8
  generalize w8.alloc (.cells #[.slice none 0 0, .slice none 0 0, .slice none 0 0, .slice none 0 0, .slice none 0 0, .slice none 0 0, .slice none 0 0, .slice none 0 0, .slice none 0 0, .slice none 0 0, .slice none 0 0, .slice none 0 0, .slice none 0 0, .slice none 0 0, .slice none 0 0, .slice none 0 0, .slice none 0 0, .slice none 0 0, .slice none 0 0] 62) = x9 at *
  generalize w8.heap.size = bb at *
  obtain ⟨s0, s1, s2, s3, s4, s5, s6, s7, s8⟩ := Ds.out.keep ((T3.out.trans T4.out).trans T9.out)
  have OS : Hid (BOwn 0 x9 B (.slice a1s B.links.length q1s) (.slice a3s B.routers.length q3s) (.slice a8s B.data.length q8s)) := (Os4.out.keep T9.out).lower (Nat.zero_le _)
  have OT : Hid (BOwn 0 x9 B (.slice a1t B.links.length q1t) (.slice a3t B.routers.length q3t) (.slice a8t B.data.length q8t)) := (Ot4.out.keep T9.out).lower (Nat.zero_le _)
  have DT9 : Hid (Bd x9 g6 B (.slice a1t B.links.length q1t) (.slice a3t B.routers.length q3t) (.slice a8t B.data.length q8t)) := Dt.out.keep (T4.out.trans T9.out)
  have T19 : Hid (Touch (fun _ => False) w x9) := (T0.out.trans T04.out).trans T9.out
  have KS1 : Hid (∀ k, (Value.slice a1s B.links.length q1s).ownBlock = some k → w.heap.size ≤ k ∧ k < g4) := fun k hk => by have h1 := Z2.out.2.2.1 k hk; have h2 := (T0.out.trans T1.out).size; omega
  have KS3 : Hid (∀ k, (Value.slice a3s B.routers.length q3s).ownBlock = some k → w.heap.size ≤ k ∧ k < g4) := fun k hk => by have h1 := Z2.out.2.2.2.1 k hk; have h2 := (T0.out.trans T1.out).size; omega
  have KS8 : Hid (∀ k, (Value.slice a8s B.data.length q8s).ownBlock = some k → w.heap.size ≤ k ∧ k < g4) := fun k hk => by have h1 := Z2.out.2.2.2.2 k hk; have h2 := (T0.out.trans T1.out).size; omega
  have KT1 : Hid (∀ k, (Value.slice a1t B.links.length q1t).ownBlock = some k → g4 < k ∧ k < g6) := fun k hk => by have h1 := Z3.out.2.2.1 k hk; have h2 := Z2.out; omega
  have KT3 : Hid (∀ k, (Value.slice a3t B.routers.length q3t).ownBlock = some k → g4 < k ∧ k < g6) := fun k hk => by have h1 := Z3.out.2.2.2.1 k hk; have h2 := Z2.out; omega
  have KT8 : Hid (∀ k, (Value.slice a8t B.data.length q8t).ownBlock = some k → g4 < k ∧ k < g6) := fun k hk => by have h1 := Z3.out.2.2.2.2 k hk; have h2 := Z2.out; omega
  have KG : Hid (w.heap.size ≤ g4 ∧ g4 < g6 ∧ g6 < bb) := by
    have h2 := Z2.out; have h3 := Z3.out; have h4 := Z4.out; have h5 := Z9.out; have h6 := (T0.out.trans T1.out).size
    refine ⟨?_, ?_, ?_⟩ <;> omega
  clear Ds Dt Dr Os Ot Or Os4 Ot4 T1 T2 T3 T4 T14 T04 T9 Z2 Z3 Z4 Z9 S3 K0 T0 HI1 HGB1 H0
  go_wp2_with fail
  refine Calls.mono (addB_any bb (.slice none 0 0) (.slice none 0 0) (.slice none 0 0) [] [] [] B a1s a3s a8s q1s q3s q8s x9 HB0.out OS.out (by have := HSM.out; omega) (by have := HSM.out; omega) (by have := HSM.out; omega) (by simp) (by simp) (by simp) (fun k hk => ⟨by have := KS1.out k hk; have := KG.out; omega, by simp⟩) (fun k hk => ⟨by have := KS3.out k hk; have := KG.out; omega, by simp⟩) (fun k hk => ⟨by have := KS8.out k hk; have := KG.out; omega, by simp⟩)) ?_
  rintro e y1 ⟨rfl, gb1, gw1, gl1, hb1, tb1⟩
  have HB1 : Hid (Bag3 y1 bb gb1 gw1 gl1 ([] ++ [.slice a8s B.data.length q8s]) ([] ++ [.slice a3s B.routers.length q3s]) ([] ++ [.slice a1s B.links.length q1s])) := hb1
  have TB1 : Hid (Touch (fun k => bb ≤ k) x9 y1) := tb1
  have OT1 : Hid (BOwn 0 y1 B (.slice a1t B.links.length q1t) (.slice a3t B.routers.length q3t) (.slice a8t B.data.length q8t)) := ⟨own_touch OT.out.l tb1 (fun k hk e => by have := KT1.out k hk; have := KG.out; omega), own_touch OT.out.r tb1 (fun k hk e => by have := KT3.out k hk; have := KG.out; omega), own_touch OT.out.d tb1 (fun k hk e => by have := KT8.out k hk; have := KG.out; omega)⟩
  have mv : ∀ i v, x9.cell? ⟨g6, i, none⟩ = some v → y1.cell? ⟨g6, i, none⟩ = some v := fun i v hc => (tb1.cell (p := ⟨g6, i, none⟩) (lt_of_cell hc) (by show ¬ bb ≤ g6; have := KG.out; omega)).trans hc
  clear s0 s1 s2 s3 s4 s5 s6 s7 s8 hb1 tb1 HB0 OS OT
  have s0 := mv _ _ DT9.out.c0
  have s1 := mv _ _ DT9.out.c1
  have s2 := mv _ _ DT9.out.c2
  have s3 := mv _ _ DT9.out.c3
  have s4 := mv _ _ DT9.out.c4
  have s5 := mv _ _ DT9.out.c5
  have s6 := mv _ _ DT9.out.c6
  have s7 := mv _ _ DT9.out.c7
  have s8 := mv _ _ DT9.out.c8
  clear mv DT9
  go_wp2_with fail
  refine Calls.mono (addB_any bb gb1 gw1 gl1 _ _ _ B a1t a3t a8t q1t q3t q8t y1 HB1.out OT1.out (by have := HSM.out; omega) (by have := HSM.out; omega) (by have := HSM.out; omega) (by simp) (by simp) (by simp)
    (fun k hk => ⟨by have := KT1.out k hk; have := KG.out; omega, fun m u hu e => by
      match m, hu with
      | 0, hu => (have h1 : u = .slice a1s B.links.length q1s := by simpa using hu.symm); subst h1; have h2 := KS1.out k e; have h3 := KT1.out k hk; omega
      | m + 1, hu => simp at hu⟩)
    (fun k hk => ⟨by have := KT3.out k hk; have := KG.out; omega, fun m u hu e => by
      match m, hu with
      | 0, hu => (have h1 : u = .slice a3s B.routers.length q3s := by simpa using hu.symm); subst h1; have h2 := KS3.out k e; have h3 := KT3.out k hk; omega
      | m + 1, hu => simp at hu⟩)
    (fun k hk => ⟨by have := KT8.out k hk; have := KG.out; omega, fun m u hu e => by
      match m, hu with
      | 0, hu => (have h1 : u = .slice a8s B.data.length q8s := by simpa using hu.symm); subst h1; have h2 := KS8.out k e; have h3 := KT8.out k hk; omega
      | m + 1, hu => simp at hu⟩)) ?_
  rintro e y2 ⟨rfl, gb2, gw2, gl2, hb2, tb2⟩
  have HB2 : Hid (Bag3 y2 bb gb2 gw2 gl2 ([] ++ [.slice a8s B.data.length q8s] ++ [.slice a8t B.data.length q8t]) ([] ++ [.slice a3s B.routers.length q3s] ++ [.slice a3t B.routers.length q3t]) ([] ++ [.slice a1s B.links.length q1s] ++ [.slice a1t B.links.length q1t])) := hb2
  have TB2 : Hid (Touch (fun k => bb ≤ k) x9 y2) := TB1.out.trans tb2
  clear s0 s1 s2 s3 s4 s5 s6 s7 s8 hb2 tb2 TB1 HB1 OT1
  go_wp2_with fail
  refine Calls.mono (Apart3_any bb gb2 gw2 gl2 _ _ _ y2 HB2.out) ?_
  rintro e y3 ⟨rfl, t3⟩
  have T3 : Hid (Touch (fun k => w.heap.size ≤ k) x9 y3) := (Touch.mono TB2.out (fun i _ e => by have := KG.out; omega)).trans (Touch.mono t3 (fun i _ f => by
    rcases f with ⟨m, v, hm, hv⟩ | ⟨m, v, hm, hv⟩ | ⟨m, v, hm, hv⟩
    · match m, hm with
      | 0, hm => (have : v = .slice a8s B.data.length q8s := by simpa using hm.symm); subst this; exact (KS8.out _ hv).1
      | 1, hm => (have : v = .slice a8t B.data.length q8t := by simpa using hm.symm); subst this; have := KT8.out _ hv; have := KG.out; omega
      | m + 2, hm => simp at hm
    · match m, hm with
      | 0, hm => (have : v = .slice a3s B.routers.length q3s := by simpa using hm.symm); subst this; exact (KS3.out _ hv).1
      | 1, hm => (have : v = .slice a3t B.routers.length q3t := by simpa using hm.symm); subst this; have := KT3.out _ hv; have := KG.out; omega
      | m + 2, hm => simp at hm
    · match m, hm with
      | 0, hm => (have : v = .slice a1s B.links.length q1s := by simpa using hm.symm); subst this; exact (KS1.out _ hv).1
      | 1, hm => (have : v = .slice a1t B.links.length q1t := by simpa using hm.symm); subst this; have := KT1.out _ hv; have := KG.out; omega
      | m + 2, hm => simp at hm))
  clear t3 TB2 HB2
  go_wp2_with fail
  refine (lives6 _).mono ?_
  rintro e w' ⟨rfl, tl⟩
  go_wp2
  go_ret
  exact ⟨rfl, ((T19.out.trans' T3.out (fun i hi e => by omega)).trans tl).below (by have := HG0.out; omega) (fun _ _ h => h)⟩
end Go.Proofs.YthdkihnmeoacaaaGreatDoor
