/- The marks behind a packet's rows: SparePacket. -/
import Derived.Test.YtjgeklipeeooaaaGreatDoorPkWide
import Derived.Test.YtjgeklipeeooaaaGreatDoorDigBuf
import Derived.Test.YtjgeklipeeooaaaGreatDoorStaOut
namespace Go.Proofs.YtjgeklipeeooaaaGreatDoor
open Go.RowKit
set_option linter.unusedVariables false
set_option maxRecDepth 100000

set_option maxHeartbeats 1000000 in
theorem shelloP (C : PkC) (yb : Nat) (w : World) (h : w.heap[yb]? = some (.cells (elems (elWords C.nb) (C.nb.length + 64)).toArray 22 (0, 0))) (hl : C.nb.length ≤ 1000000) :
    Calls Tryz.prog 47 #[.agg #[.int .u32 C.P.mask, .int .u16 C.P.iv, .int .u8 C.P.opts, .int .u8 C.P.prio, .int .u32 C.P.dead, .int .u32 C.P.dr, .int .u32 C.P.bdr, .slice (some ⟨yb, 0, none⟩) C.nb.length (C.nb.length + 64)]] w fun e w' => e = .returned (.bool true) ∧ Touch (fun _ => False) w w' := by
  have HS := fun o => spareWords_any yb C.nb (w.alloc o) (((Touch.refl (fun _ => False) w).alloc o).heapN h) hl
  have TA : Hid (Touch (fun _ => False) w (w.alloc (.cells #[.int .u32 C.P.mask, .int .u16 C.P.iv, .int .u8 C.P.opts, .int .u8 C.P.prio, .int .u32 C.P.dead, .int .u32 C.P.dr, .int .u32 C.P.bdr, .slice (some ⟨yb, 0, none⟩) C.nb.length (C.nb.length + 64)] 26))) := (Touch.refl _ w).alloc _
  clear h
  go_enter Tryz.func47, Tryz.ntmps47
  go_wp2_with fail
  refine Calls.mono (HS _) ?_
  rintro e w1 ⟨rfl, t1⟩
  have T1 : Hid (Touch (fun _ => False) w w1) := TA.out.trans t1
  clear t1 TA HS
  go_wp2
  go_ret
  exact ⟨rfl, T1.out⟩
set_option maxHeartbeats 1000000 in
theorem sddP (C : PkC) (yb : Nat) (w : World) (h : w.heap[yb]? = some (.cells (elems (elHeads C.dh) (C.dh.length + 64)).toArray 93 (0, 0))) (hl : C.dh.length ≤ 1000000) :
    Calls Tryz.prog 48 #[.agg #[.int .u16 C.P.mtu, .int .u8 C.P.dopts, .int .u8 C.P.dflags, .int .u32 C.P.dseq, .slice (some ⟨yb, 0, none⟩) C.dh.length (C.dh.length + 64)]] w fun e w' => e = .returned (.bool true) ∧ Touch (fun _ => False) w w' := by
  have HS := fun o => spareHeads_any yb C.dh (w.alloc o) (((Touch.refl (fun _ => False) w).alloc o).heapN h) hl
  have TA : Hid (Touch (fun _ => False) w (w.alloc (.cells #[.int .u16 C.P.mtu, .int .u8 C.P.dopts, .int .u8 C.P.dflags, .int .u32 C.P.dseq, .slice (some ⟨yb, 0, none⟩) C.dh.length (C.dh.length + 64)] 29))) := (Touch.refl _ w).alloc _
  clear h
  go_enter Tryz.func48, Tryz.ntmps48
  go_wp2_with fail
  refine Calls.mono (HS _) ?_
  rintro e w1 ⟨rfl, t1⟩
  have T1 : Hid (Touch (fun _ => False) w w1) := TA.out.trans t1
  clear t1 TA HS
  go_wp2
  go_ret
  exact ⟨rfl, T1.out⟩
set_option maxHeartbeats 4000000 in
theorem spacketW (C : PkC) (lt : C.Lt) (ln : C.Ln) (base nb db kb sb hb : Nat) (w : World) (h : WPk base w C nb db kb sb hb) :
    Calls Tryz.prog 13 #[C.P.v (.slice (some ⟨nb, 0, none⟩) C.nb.length (C.nb.length + 64)) (.slice (some ⟨db, 0, none⟩) C.dh.length (C.dh.length + 64)) (.slice (some ⟨kb, 0, none⟩) C.ks.length (C.ks.length + 64)) (.slice (some ⟨sb, 0, none⟩) C.ss.length (C.ss.length + 64)) (.slice (some ⟨hb, 0, none⟩) C.hs.length (C.hs.length + 64))] w fun e w' => e = .returned (.bool true) ∧ Touch (fun _ => False) w w' := by
  obtain ⟨l, hl, hsb, hss⟩ := h.s
  have hll : l.length = C.ss.length := by rw [← hl, List.length_map]
  obtain ⟨w0, hw0⟩ : ∃ w0, w0 = w.alloc (.cells #[.int .u8 C.P.typ, .int .u32 C.P.router, .int .u32 C.P.area, .int .u32 C.P.mask, .int .u16 C.P.iv, .int .u8 C.P.opts, .int .u8 C.P.prio, .int .u32 C.P.dead, .int .u32 C.P.dr, .int .u32 C.P.bdr, .slice (some ⟨nb, 0, none⟩) C.nb.length (C.nb.length + 64), .int .u16 C.P.mtu, .int .u8 C.P.dopts, .int .u8 C.P.dflags, .int .u32 C.P.dseq, .slice (some ⟨db, 0, none⟩) C.dh.length (C.dh.length + 64), .slice (some ⟨kb, 0, none⟩) C.ks.length (C.ks.length + 64), .slice (some ⟨sb, 0, none⟩) C.ss.length (C.ss.length + 64), .slice (some ⟨hb, 0, none⟩) C.hs.length (C.hs.length + 64)] 33) := ⟨_, rfl⟩
  have ta : Touch (fun _ => False) w w0 := by rw [hw0]; exact (Touch.refl _ w).alloc _
  have A0 : Row w0 w.heap.size 33 [.int .u8 C.P.typ, .int .u32 C.P.router, .int .u32 C.P.area, .int .u32 C.P.mask, .int .u16 C.P.iv, .int .u8 C.P.opts, .int .u8 C.P.prio, .int .u32 C.P.dead, .int .u32 C.P.dr, .int .u32 C.P.bdr, .slice (some ⟨nb, 0, none⟩) C.nb.length (C.nb.length + 64), .int .u16 C.P.mtu, .int .u8 C.P.dopts, .int .u8 C.P.dflags, .int .u32 C.P.dseq, .slice (some ⟨db, 0, none⟩) C.dh.length (C.dh.length + 64), .slice (some ⟨kb, 0, none⟩) C.ks.length (C.ks.length + 64), .slice (some ⟨sb, 0, none⟩) C.ss.length (C.ss.length + 64), .slice (some ⟨hb, 0, none⟩) C.hs.length (C.hs.length + 64)] := by rw [hw0]; exact row_new w 33 #[.int .u8 C.P.typ, .int .u32 C.P.router, .int .u32 C.P.area, .int .u32 C.P.mask, .int .u16 C.P.iv, .int .u8 C.P.opts, .int .u8 C.P.prio, .int .u32 C.P.dead, .int .u32 C.P.dr, .int .u32 C.P.bdr, .slice (some ⟨nb, 0, none⟩) C.nb.length (C.nb.length + 64), .int .u16 C.P.mtu, .int .u8 C.P.dopts, .int .u8 C.P.dflags, .int .u32 C.P.dseq, .slice (some ⟨db, 0, none⟩) C.dh.length (C.dh.length + 64), .slice (some ⟨kb, 0, none⟩) C.ks.length (C.ks.length + 64), .slice (some ⟨sb, 0, none⟩) C.ss.length (C.ss.length + 64), .slice (some ⟨hb, 0, none⟩) C.hs.length (C.hs.length + 64)]
  have AK : Hid (∀ w', Touch (fun _ => False) w0 w' → Row w' w.heap.size 33 [.int .u8 C.P.typ, .int .u32 C.P.router, .int .u32 C.P.area, .int .u32 C.P.mask, .int .u16 C.P.iv, .int .u8 C.P.opts, .int .u8 C.P.prio, .int .u32 C.P.dead, .int .u32 C.P.dr, .int .u32 C.P.bdr, .slice (some ⟨nb, 0, none⟩) C.nb.length (C.nb.length + 64), .int .u16 C.P.mtu, .int .u8 C.P.dopts, .int .u8 C.P.dflags, .int .u32 C.P.dseq, .slice (some ⟨db, 0, none⟩) C.dh.length (C.dh.length + 64), .slice (some ⟨kb, 0, none⟩) C.ks.length (C.ks.length + 64), .slice (some ⟨sb, 0, none⟩) C.ss.length (C.ss.length + 64), .slice (some ⟨hb, 0, none⟩) C.hs.length (C.hs.length + 64)]) := fun w' t => A0.keep t
  have T0 : Hid (Touch (fun _ => False) w0 w0) := Touch.refl _ _
  have TA : Hid (Touch (fun _ => False) w w0) := ta
  have HN : Hid (∀ w', Touch (fun _ => False) w0 w' → w'.heap[nb]? = some (.cells (elems (elWords C.nb) (C.nb.length + 64)).toArray 22 (0, 0))) := fun w' t => (ta.trans t).heapN h.n.2
  have HD : Hid (∀ w', Touch (fun _ => False) w0 w' → w'.heap[db]? = some (.cells (elems (elHeads C.dh) (C.dh.length + 64)).toArray 93 (0, 0))) := fun w' t => (ta.trans t).heapN h.d.2
  have HK : Hid (∀ w', Touch (fun _ => False) w0 w' → w'.heap[kb]? = some (.cells (elems (elKeys C.ks) (C.ks.length + 64)).toArray 125 (0, 0))) := fun w' t => (ta.trans t).heapN h.k.2
  have HH : Hid (∀ w', Touch (fun _ => False) w0 w' → w'.heap[hb]? = some (.cells (elems (elHeads C.hs) (C.hs.length + 64)).toArray 93 (0, 0))) := fun w' t => (ta.trans t).heapN h.h.2
  have HSS : Hid (∀ w', Touch (fun _ => False) w0 w' → Calls Tryz.prog 50 #[.slice (some ⟨sb, 0, none⟩) C.ss.length (C.ss.length + 64)] w' fun e w'' => e = .returned (.bool true) ∧ Touch (fun _ => False) w' w'') := fun w' t => by
    have := spareStates_any sb l w' ((ta.trans t).heapN hsb.2) (fun x hx => ((hss x hx).touch (ta.trans t) (fun _ _ f => f)).low (Nat.zero_le _)) (by have := lt.n; omega) (fun x hx => lt.b x.p (by rw [← hl]; exact List.mem_map_of_mem hx))
    rw [hll] at this
    exact this
  have HL : Hid (C.nb.length ≤ 1000000 ∧ C.dh.length ≤ 1000000 ∧ C.ks.length ≤ 1000000 ∧ C.hs.length ≤ 1000000) := ⟨ln.n, ln.d, ln.k, ln.h⟩
  clear ta h hsb hss hl hll lt ln A0
  show Calls Tryz.prog 13 #[.agg #[.int .u8 C.P.typ, .int .u32 C.P.router, .int .u32 C.P.area, .int .u32 C.P.mask, .int .u16 C.P.iv, .int .u8 C.P.opts, .int .u8 C.P.prio, .int .u32 C.P.dead, .int .u32 C.P.dr, .int .u32 C.P.bdr, .slice (some ⟨nb, 0, none⟩) C.nb.length (C.nb.length + 64), .int .u16 C.P.mtu, .int .u8 C.P.dopts, .int .u8 C.P.dflags, .int .u32 C.P.dseq, .slice (some ⟨db, 0, none⟩) C.dh.length (C.dh.length + 64), .slice (some ⟨kb, 0, none⟩) C.ks.length (C.ks.length + 64), .slice (some ⟨sb, 0, none⟩) C.ss.length (C.ss.length + 64), .slice (some ⟨hb, 0, none⟩) C.hs.length (C.hs.length + 64)]] w _
  go_enter Tryz.func13, Tryz.ntmps13
  go_upto_region 1 with fail
  rw [← hw0]
  clear hw0
  generalize w.heap.size = g1 at *
  have y3 : w0.cell? ⟨g1, 3, none⟩ = some (.int .u32 C.P.mask) := (AK.out _ T0.out).cell 3
  have y4 : w0.cell? ⟨g1, 4, none⟩ = some (.int .u16 C.P.iv) := (AK.out _ T0.out).cell 4
  have y5 : w0.cell? ⟨g1, 5, none⟩ = some (.int .u8 C.P.opts) := (AK.out _ T0.out).cell 5
  have y6 : w0.cell? ⟨g1, 6, none⟩ = some (.int .u8 C.P.prio) := (AK.out _ T0.out).cell 6
  have y7 : w0.cell? ⟨g1, 7, none⟩ = some (.int .u32 C.P.dead) := (AK.out _ T0.out).cell 7
  have y8 : w0.cell? ⟨g1, 8, none⟩ = some (.int .u32 C.P.dr) := (AK.out _ T0.out).cell 8
  have y9 : w0.cell? ⟨g1, 9, none⟩ = some (.int .u32 C.P.bdr) := (AK.out _ T0.out).cell 9
  have y10 : w0.cell? ⟨g1, 10, none⟩ = some (.slice (some ⟨nb, 0, none⟩) C.nb.length (C.nb.length + 64)) := (AK.out _ T0.out).cell 10
  go_wp2_with fail
  refine Calls.mono (shelloP C nb _ (HN.out _ T0.out) HL.out.1) ?_
  rintro e x1 ⟨rfl, t1⟩
  have T1 : Hid (Touch (fun _ => False) w0 x1) := T0.out.trans t1
  clear t1 y3 y4 y5 y6 y7 y8 y9 y10
  have y11 : x1.cell? ⟨g1, 11, none⟩ = some (.int .u16 C.P.mtu) := (AK.out _ T1.out).cell 11
  have y12 : x1.cell? ⟨g1, 12, none⟩ = some (.int .u8 C.P.dopts) := (AK.out _ T1.out).cell 12
  have y13 : x1.cell? ⟨g1, 13, none⟩ = some (.int .u8 C.P.dflags) := (AK.out _ T1.out).cell 13
  have y14 : x1.cell? ⟨g1, 14, none⟩ = some (.int .u32 C.P.dseq) := (AK.out _ T1.out).cell 14
  have y15 : x1.cell? ⟨g1, 15, none⟩ = some (.slice (some ⟨db, 0, none⟩) C.dh.length (C.dh.length + 64)) := (AK.out _ T1.out).cell 15
  go_wp2_with fail
  refine Calls.mono (sddP C db _ (HD.out _ T1.out) HL.out.2.1) ?_
  rintro e x2 ⟨rfl, t2⟩
  have T2 : Hid (Touch (fun _ => False) w0 x2) := T1.out.trans t2
  clear t2 y11 y12 y13 y14 y15
  have y16 : x2.cell? ⟨g1, 16, none⟩ = some (.slice (some ⟨kb, 0, none⟩) C.ks.length (C.ks.length + 64)) := (AK.out _ T2.out).cell 16
  go_wp2_with fail
  refine Calls.mono (spareKeys_any kb C.ks _ (HK.out _ T2.out) HL.out.2.2.1) ?_
  rintro e x3 ⟨rfl, t3⟩
  have T3 : Hid (Touch (fun _ => False) w0 x3) := T2.out.trans t3
  clear t3 y16
  have y17 : x3.cell? ⟨g1, 17, none⟩ = some (.slice (some ⟨sb, 0, none⟩) C.ss.length (C.ss.length + 64)) := (AK.out _ T3.out).cell 17
  go_wp2_with fail
  refine Calls.mono (HSS.out _ T3.out) ?_
  rintro e x4 ⟨rfl, t4⟩
  have T4 : Hid (Touch (fun _ => False) w0 x4) := T3.out.trans t4
  clear t4 y17
  have y18 : x4.cell? ⟨g1, 18, none⟩ = some (.slice (some ⟨hb, 0, none⟩) C.hs.length (C.hs.length + 64)) := (AK.out _ T4.out).cell 18
  go_wp2_with fail
  refine Calls.mono (spareHeads_any hb C.hs _ (HH.out _ T4.out) HL.out.2.2.2) ?_
  rintro e x5 ⟨rfl, t5⟩
  have T5 : Hid (Touch (fun _ => False) w0 x5) := T4.out.trans t5
  clear t5 y18
  go_wp2
  go_ret
  exact ⟨rfl, TA.out.trans T5.out⟩
end Go.Proofs.YtjgeklipeeooaaaGreatDoor

namespace Go.Proofs.YtjgeklipeeooaaaGreatDoor
open Go.RowKit
set_option linter.unusedVariables false
set_option maxRecDepth 100000

theorem four2_any (x : Int) (w : World) (hx0 : 0 ≤ x) (hx : x < 4294967296) :
    Calls Tryz.prog 103 #[.int .u32 x, .int .i64 2] w fun e w' => ∃ v, e = .returned v ∧ Buf w w' v (numBytes 2 x) := by
  go_enter Tryz.func103, Tryz.ntmps103
  go_wp2
  go_loopw [5, 6] (fun l i wr => ∃ k : Nat, k ≤ 2 ∧ i = .int .i64 (1 - k) ∧ Buf w wr l ((numBytes 2 x).take k)) (fun _ i _ => (intOf i + 1).toNat)
  case atStart => exact ⟨0, Nat.zero_le _, by simp, Buf.nil (Touch.refl _ _)⟩
  case round =>
    obtain ⟨k, hk, rfl, hf⟩ := hrel
    rcases (by omega : k = 0 ∨ k = 1 ∨ k = 2) with rfl | rfl | rfl
    · obtain ⟨la, lc, rfl⟩ := hf.form
      have HF : Hid (Buf w wr _ ((numBytes 2 x).take 0)) := hf
      clear hf
      go_wp2_with (at_builtin; refine app_one rfl (.tmp 13) (.tmp 19) rfl w _ _ rfl HF.out (x / 256 % 256) rfl (by simp [numBytes]) ?_)
      intro v' w1 hb
      have HN : Hid (Buf w w1 v' ((numBytes 2 x).take 1)) := by
        show Buf _ _ _ _
        have e : (numBytes 2 x).take 0 ++ [x / 256 % 256] = (numBytes 2 x).take 1 := by simp [numBytes]
        rw [← e]; exact hb
      clear hb HF
      go_wp2
      go_roundw
      case rel => exact ⟨1, by omega, by simp, HN.out⟩
      case measure => simp [intOf]
    · obtain ⟨la, lc, rfl⟩ := hf.form
      have HF : Hid (Buf w wr _ ((numBytes 2 x).take 1)) := hf
      clear hf
      go_wp2_with (at_builtin; refine app_one rfl (.tmp 13) (.tmp 19) rfl w _ _ rfl HF.out (x % 256) rfl (by simp [numBytes]) ?_)
      intro v' w1 hb
      have HN : Hid (Buf w w1 v' ((numBytes 2 x).take 2)) := by
        show Buf _ _ _ _
        have e : (numBytes 2 x).take 1 ++ [x % 256] = (numBytes 2 x).take 2 := by simp [numBytes]
        rw [← e]; exact hb
      clear hb HF
      go_wp2
      go_roundw
      case rel => exact ⟨2, by omega, by simp, HN.out⟩
      case measure => simp [intOf]
    · have HF : Hid (Buf w wr _ (numBytes 2 x)) := hf
      go_wp2
      go_ret
      exact ⟨_, rfl, HF.out⟩
theorem four4_any (x : Int) (w : World) (hx0 : 0 ≤ x) (hx : x < 4294967296) :
    Calls Tryz.prog 103 #[.int .u32 x, .int .i64 4] w fun e w' => ∃ v, e = .returned v ∧ Buf w w' v (numBytes 4 x) := by
  go_enter Tryz.func103, Tryz.ntmps103
  go_wp2
  go_loopw [5, 6] (fun l i wr => ∃ k : Nat, k ≤ 4 ∧ i = .int .i64 (3 - k) ∧ Buf w wr l ((numBytes 4 x).take k)) (fun _ i _ => (intOf i + 1).toNat)
  case atStart => exact ⟨0, Nat.zero_le _, by simp, Buf.nil (Touch.refl _ _)⟩
  case round =>
    obtain ⟨k, hk, rfl, hf⟩ := hrel
    rcases (by omega : k = 0 ∨ k = 1 ∨ k = 2 ∨ k = 3 ∨ k = 4) with rfl | rfl | rfl | rfl | rfl
    · obtain ⟨la, lc, rfl⟩ := hf.form
      have HF : Hid (Buf w wr _ ((numBytes 4 x).take 0)) := hf
      clear hf
      go_wp2_with (at_builtin; refine app_one rfl (.tmp 13) (.tmp 19) rfl w _ _ rfl HF.out (x / 16777216) rfl (by simp [numBytes]) ?_)
      intro v' w1 hb
      have HN : Hid (Buf w w1 v' ((numBytes 4 x).take 1)) := by
        show Buf _ _ _ _
        have e : (numBytes 4 x).take 0 ++ [x / 16777216] = (numBytes 4 x).take 1 := by simp [numBytes]; omega
        rw [← e]; exact hb
      clear hb HF
      go_wp2
      go_roundw
      case rel => exact ⟨1, by omega, by simp, HN.out⟩
      case measure => simp [intOf]
    · obtain ⟨la, lc, rfl⟩ := hf.form
      have HF : Hid (Buf w wr _ ((numBytes 4 x).take 1)) := hf
      clear hf
      go_wp2_with (at_builtin; refine app_one rfl (.tmp 13) (.tmp 19) rfl w _ _ rfl HF.out (x / 65536 % 256) rfl (by simp [numBytes]) ?_)
      intro v' w1 hb
      have HN : Hid (Buf w w1 v' ((numBytes 4 x).take 2)) := by
        show Buf _ _ _ _
        have e : (numBytes 4 x).take 1 ++ [x / 65536 % 256] = (numBytes 4 x).take 2 := by simp [numBytes]
        rw [← e]; exact hb
      clear hb HF
      go_wp2
      go_roundw
      case rel => exact ⟨2, by omega, by simp, HN.out⟩
      case measure => simp [intOf]
    · obtain ⟨la, lc, rfl⟩ := hf.form
      have HF : Hid (Buf w wr _ ((numBytes 4 x).take 2)) := hf
      clear hf
      go_wp2_with (at_builtin; refine app_one rfl (.tmp 13) (.tmp 19) rfl w _ _ rfl HF.out (x / 256 % 256) rfl (by simp [numBytes]) ?_)
      intro v' w1 hb
      have HN : Hid (Buf w w1 v' ((numBytes 4 x).take 3)) := by
        show Buf _ _ _ _
        have e : (numBytes 4 x).take 2 ++ [x / 256 % 256] = (numBytes 4 x).take 3 := by simp [numBytes]
        rw [← e]; exact hb
      clear hb HF
      go_wp2
      go_roundw
      case rel => exact ⟨3, by omega, by simp, HN.out⟩
      case measure => simp [intOf]
    · obtain ⟨la, lc, rfl⟩ := hf.form
      have HF : Hid (Buf w wr _ ((numBytes 4 x).take 3)) := hf
      clear hf
      go_wp2_with (at_builtin; refine app_one rfl (.tmp 13) (.tmp 19) rfl w _ _ rfl HF.out (x % 256) rfl (by simp [numBytes]) ?_)
      intro v' w1 hb
      have HN : Hid (Buf w w1 v' ((numBytes 4 x).take 4)) := by
        show Buf _ _ _ _
        have e : (numBytes 4 x).take 3 ++ [x % 256] = (numBytes 4 x).take 4 := by simp [numBytes]
        rw [← e]; exact hb
      clear hb HF
      go_wp2
      go_roundw
      case rel => exact ⟨4, by omega, by simp, HN.out⟩
      case measure => simp [intOf]
    · have HF : Hid (Buf w wr _ (numBytes 4 x)) := hf
      go_wp2
      go_ret
      exact ⟨_, rfl, HF.out⟩

theorem rtwo_any (x : Int) (w : World) (hx0 : 0 ≤ x) (hx : x < 65536) :
    Calls Tryz.prog 165 #[.int .u16 x] w fun e w' => ∃ v, e = .returned v ∧ Buf w w' v (numBytes 2 x) := by
  go_enter Tryz.func165, Tryz.ntmps165
  go_wp2_with fail
  refine (four2_any x _ hx0 (by omega)).mono ?_
  rintro e w1 ⟨v, rfl, hb⟩
  go_wp2
  go_ret
  exact ⟨v, rfl, hb⟩
theorem rfour_any (x : Int) (w : World) (hx0 : 0 ≤ x) (hx : x < 4294967296) :
    Calls Tryz.prog 166 #[.int .u32 x] w fun e w' => ∃ v, e = .returned v ∧ Buf w w' v (numBytes 4 x) := by
  go_enter Tryz.func166, Tryz.ntmps166
  go_wp2_with fail
  refine (four4_any x _ hx0 hx).mono ?_
  rintro e w1 ⟨v, rfl, hb⟩
  go_wp2
  go_ret
  exact ⟨v, rfl, hb⟩
end Go.Proofs.YtjgeklipeeooaaaGreatDoor
