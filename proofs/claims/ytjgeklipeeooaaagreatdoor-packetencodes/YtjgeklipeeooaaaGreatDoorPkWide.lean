/- Packets with marks behind their rows. -/
import Derived.Test.YtjgeklipeeooaaaGreatDoorWideK
import Derived.Test.YtjgeklipeeooaaaGreatDoorWideSt
namespace Go.Proofs.YtjgeklipeeooaaaGreatDoor
open Go.RowKit
set_option linter.unusedVariables false
set_option maxRecDepth 100000

set_option maxHeartbeats 1000000 in
theorem whelloP (C : PkC) (xa : Option Addr) (xc : Nat) (w : World) (hv : WordsAt w (.slice xa C.nb.length xc) C.nb) (hl : C.nb.length ≤ 1000000) :
    Calls Tryz.prog 28 #[.agg #[.int .u32 C.P.mask, .int .u16 C.P.iv, .int .u8 C.P.opts, .int .u8 C.P.prio, .int .u32 C.P.dead, .int .u32 C.P.dr, .int .u32 C.P.bdr, .slice xa C.nb.length xc]] w fun e w' => ∃ yb, e = .returned (.agg #[.int .u32 C.P.mask, .int .u16 C.P.iv, .int .u8 C.P.opts, .int .u8 C.P.prio, .int .u32 C.P.dead, .int .u32 C.P.dr, .int .u32 C.P.bdr, .slice (some ⟨yb, 0, none⟩) C.nb.length (C.nb.length + 64)]) ∧ WB1 w' w.heap.size yb 22 (elems (elWords C.nb) (C.nb.length + 64)) ∧ Touch (fun _ => False) w w' := by
  obtain ⟨w0, hw0⟩ : ∃ w0, w0 = (w.alloc (.cells #[.int .u32 C.P.mask, .int .u16 C.P.iv, .int .u8 C.P.opts, .int .u8 C.P.prio, .int .u32 C.P.dead, .int .u32 C.P.dr, .int .u32 C.P.bdr, .slice xa C.nb.length xc] 26)).alloc (.cells #[.int .u32 0, .int .u16 0, .int .u8 0, .int .u8 0, .int .u32 0, .int .u32 0, .int .u32 0, .slice none 0 0] 26) := ⟨_, rfl⟩
  have ta : Touch (fun _ => False) w w0 := by rw [hw0]; exact ((Touch.refl _ w).alloc _).alloc _
  have A0 : Row w0 w.heap.size 26 [.int .u32 C.P.mask, .int .u16 C.P.iv, .int .u8 C.P.opts, .int .u8 C.P.prio, .int .u32 C.P.dead, .int .u32 C.P.dr, .int .u32 C.P.bdr, .slice xa C.nb.length xc] := by rw [hw0]; exact (row_new w 26 #[.int .u32 C.P.mask, .int .u16 C.P.iv, .int .u8 C.P.opts, .int .u8 C.P.prio, .int .u32 C.P.dead, .int .u32 C.P.dr, .int .u32 C.P.bdr, .slice xa C.nb.length xc]).keep ((Touch.refl _ _).alloc _)
  have B0 : Row w0 (w.heap.size + 1) 26 [.int .u32 0, .int .u16 0, .int .u8 0, .int .u8 0, .int .u32 0, .int .u32 0, .int .u32 0, .slice none 0 0] := by
    have := row_new (w.alloc (.cells #[.int .u32 C.P.mask, .int .u16 C.P.iv, .int .u8 C.P.opts, .int .u8 C.P.prio, .int .u32 C.P.dead, .int .u32 C.P.dr, .int .u32 C.P.bdr, .slice xa C.nb.length xc] 26)) 26 #[.int .u32 0, .int .u16 0, .int .u8 0, .int .u8 0, .int .u32 0, .int .u32 0, .int .u32 0, .slice none 0 0]
    rw [← hw0] at this
    simpa using this
  have y0 : w0.cell? ⟨w.heap.size, 7, none⟩ = some (.slice xa C.nb.length xc) := A0.cell 7
  have HC := wideWords_any (.slice xa C.nb.length xc) C.nb w0 (ValsAt.keep hv ta) hl
  have z0 : w0.heap.size = w.heap.size + 2 := by rw [hw0]; simp
  have TA : Hid (Touch (fun _ => False) w w0) := ta
  clear hv ta
  go_enter Tryz.func28, Tryz.ntmps28
  go_upto_region 1 with fail
  rw [← hw0]
  clear hw0
  go_wp2_with fail
  refine Calls.mono HC ?_
  rintro e w1 ⟨rfl, h1, t1⟩
  generalize hyb : w0.heap.size = yb at h1 ⊢
  have zb : yb = w.heap.size + 2 := by omega
  have A1 := A0.keep t1
  have B1 := B0.keep t1
  have zc : w1.cell? ⟨w.heap.size, 7, none⟩ = some (.slice xa C.nb.length xc) := A1.cell 7
  have zf : w1.frozen? ⟨w.heap.size, 7, none⟩ = false := A1.frozen 7
  obtain ⟨w2, hw2⟩ : ∃ x, x = w1.setCell ⟨w.heap.size, 7, none⟩ (.slice (some ⟨yb, 0, none⟩) C.nb.length (C.nb.length + 64)) := ⟨_, rfl⟩
  have u2 : Touch (fun k => k = w.heap.size) w1 w2 := by rw [hw2]; exact Touch.setCell (F := fun k => k = w.heap.size) (p := ⟨w.heap.size, 7, none⟩) (Touch.refl _ _) (Or.inl rfl) _
  have A2 : Row w2 w.heap.size 26 [.int .u32 C.P.mask, .int .u16 C.P.iv, .int .u8 C.P.opts, .int .u8 C.P.prio, .int .u32 C.P.dead, .int .u32 C.P.dr, .int .u32 C.P.bdr, .slice (some ⟨yb, 0, none⟩) C.nb.length (C.nb.length + 64)] := by rw [hw2]; exact A1.set 7 _
  have B2 := B1.touch u2 (by show ¬ (_ = _); omega)
  have OW : Hid (WB1 w1 yb yb 22 (elems (elWords C.nb) (C.nb.length + 64))) := ⟨Nat.le_refl _, h1⟩
  have T2 : Hid (Touch (fun _ => False) w w2) := (TA.out.trans t1).trans' u2 (fun i hi e => by omega)
  have ZB : Hid (yb = w.heap.size + 2) := zb
  clear t1 h1 hyb A0 B0 A1 B1 y0 HC z0 zb
  go_upto_region 2 with fail
  rw [← hw2]
  clear hw2 zc zf
  have R2 := A2.range
  go_wp2_with (first | refine wpList_load_mid rfl 26 (.tmp 1) rfl w.heap.size 0 rfl [.int .u32 C.P.mask, .int .u16 C.P.iv, .int .u8 C.P.opts, .int .u8 C.P.prio, .int .u32 C.P.dead, .int .u32 C.P.dr, .int .u32 C.P.bdr, .slice (some ⟨yb, 0, none⟩) C.nb.length (C.nb.length + 64)] _ R2 Tryz.underlying26 rfl (by kernel_rfl) ?_ | refine wpList_store_row rfl 26 (.tmp 2) (.tmp 7) rfl (w.heap.size + 1) #[.int .u32 C.P.mask, .int .u16 C.P.iv, .int .u8 C.P.opts, .int .u8 C.P.prio, .int .u32 C.P.dead, .int .u32 C.P.dr, .int .u32 C.P.bdr, .slice (some ⟨yb, 0, none⟩) C.nb.length (C.nb.length + 64)] rfl rfl 26 _ B2 (by kernel_rfl) rfl (by simp [Value.oneCell']) ?_)
  have u3 : Touch (fun k => k = w.heap.size + 1) w2 (w2.setRow (w.heap.size + 1) #[.int .u32 C.P.mask, .int .u16 C.P.iv, .int .u8 C.P.opts, .int .u8 C.P.prio, .int .u32 C.P.dead, .int .u32 C.P.dr, .int .u32 C.P.bdr, .slice (some ⟨yb, 0, none⟩) C.nb.length (C.nb.length + 64)]) := Touch.setRow (F := fun k => k = w.heap.size + 1) (Touch.refl _ _) (Or.inl rfl) _
  refine bodyPost_ret (v := .agg #[.int .u32 C.P.mask, .int .u16 C.P.iv, .int .u8 C.P.opts, .int .u8 C.P.prio, .int .u32 C.P.dead, .int .u32 C.P.dr, .int .u32 C.P.bdr, .slice (some ⟨yb, 0, none⟩) C.nb.length (C.nb.length + 64)]) ?hr rfl ?_
  case hr => exact results_cell_row rfl _ _ (w.heap.size + 1) 26 #[.int .u32 C.P.mask, .int .u16 C.P.iv, .int .u8 C.P.opts, .int .u8 C.P.prio, .int .u32 C.P.dead, .int .u32 C.P.dr, .int .u32 C.P.bdr, .slice (some ⟨yb, 0, none⟩) C.nb.length (C.nb.length + 64)] (0, 0) _ (by rfl) (B2.setRow _) Tryz.underlying26 rfl (by kernel_rfl)
  have zb := ZB.out
  exact ⟨yb, rfl, ((OW.out.touch u2 (by show ¬ (_ = _); omega)).touch u3 (by show ¬ (_ = _); omega)).low (by omega), T2.out.trans' u3 (fun i hi e => by omega)⟩
set_option maxHeartbeats 1000000 in
theorem wddP (C : PkC) (xa : Option Addr) (xc : Nat) (w : World) (hv : HeadsAt w (.slice xa C.dh.length xc) C.dh) (hl : C.dh.length ≤ 1000000) :
    Calls Tryz.prog 29 #[.agg #[.int .u16 C.P.mtu, .int .u8 C.P.dopts, .int .u8 C.P.dflags, .int .u32 C.P.dseq, .slice xa C.dh.length xc]] w fun e w' => ∃ yb, e = .returned (.agg #[.int .u16 C.P.mtu, .int .u8 C.P.dopts, .int .u8 C.P.dflags, .int .u32 C.P.dseq, .slice (some ⟨yb, 0, none⟩) C.dh.length (C.dh.length + 64)]) ∧ WB1 w' w.heap.size yb 93 (elems (elHeads C.dh) (C.dh.length + 64)) ∧ Touch (fun _ => False) w w' := by
  obtain ⟨w0, hw0⟩ : ∃ w0, w0 = (w.alloc (.cells #[.int .u16 C.P.mtu, .int .u8 C.P.dopts, .int .u8 C.P.dflags, .int .u32 C.P.dseq, .slice xa C.dh.length xc] 29)).alloc (.cells #[.int .u16 0, .int .u8 0, .int .u8 0, .int .u32 0, .slice none 0 0] 29) := ⟨_, rfl⟩
  have ta : Touch (fun _ => False) w w0 := by rw [hw0]; exact ((Touch.refl _ w).alloc _).alloc _
  have A0 : Row w0 w.heap.size 29 [.int .u16 C.P.mtu, .int .u8 C.P.dopts, .int .u8 C.P.dflags, .int .u32 C.P.dseq, .slice xa C.dh.length xc] := by rw [hw0]; exact (row_new w 29 #[.int .u16 C.P.mtu, .int .u8 C.P.dopts, .int .u8 C.P.dflags, .int .u32 C.P.dseq, .slice xa C.dh.length xc]).keep ((Touch.refl _ _).alloc _)
  have B0 : Row w0 (w.heap.size + 1) 29 [.int .u16 0, .int .u8 0, .int .u8 0, .int .u32 0, .slice none 0 0] := by
    have := row_new (w.alloc (.cells #[.int .u16 C.P.mtu, .int .u8 C.P.dopts, .int .u8 C.P.dflags, .int .u32 C.P.dseq, .slice xa C.dh.length xc] 29)) 29 #[.int .u16 0, .int .u8 0, .int .u8 0, .int .u32 0, .slice none 0 0]
    rw [← hw0] at this
    simpa using this
  have y0 : w0.cell? ⟨w.heap.size, 4, none⟩ = some (.slice xa C.dh.length xc) := A0.cell 4
  have HC := wideHeads_any (.slice xa C.dh.length xc) C.dh w0 (ValsAt.keep hv ta) hl
  have z0 : w0.heap.size = w.heap.size + 2 := by rw [hw0]; simp
  have TA : Hid (Touch (fun _ => False) w w0) := ta
  clear hv ta
  go_enter Tryz.func29, Tryz.ntmps29
  go_upto_region 1 with fail
  rw [← hw0]
  clear hw0
  go_wp2_with fail
  refine Calls.mono HC ?_
  rintro e w1 ⟨rfl, h1, t1⟩
  generalize hyb : w0.heap.size = yb at h1 ⊢
  have zb : yb = w.heap.size + 2 := by omega
  have A1 := A0.keep t1
  have B1 := B0.keep t1
  have zc : w1.cell? ⟨w.heap.size, 4, none⟩ = some (.slice xa C.dh.length xc) := A1.cell 4
  have zf : w1.frozen? ⟨w.heap.size, 4, none⟩ = false := A1.frozen 4
  obtain ⟨w2, hw2⟩ : ∃ x, x = w1.setCell ⟨w.heap.size, 4, none⟩ (.slice (some ⟨yb, 0, none⟩) C.dh.length (C.dh.length + 64)) := ⟨_, rfl⟩
  have u2 : Touch (fun k => k = w.heap.size) w1 w2 := by rw [hw2]; exact Touch.setCell (F := fun k => k = w.heap.size) (p := ⟨w.heap.size, 4, none⟩) (Touch.refl _ _) (Or.inl rfl) _
  have A2 : Row w2 w.heap.size 29 [.int .u16 C.P.mtu, .int .u8 C.P.dopts, .int .u8 C.P.dflags, .int .u32 C.P.dseq, .slice (some ⟨yb, 0, none⟩) C.dh.length (C.dh.length + 64)] := by rw [hw2]; exact A1.set 4 _
  have B2 := B1.touch u2 (by show ¬ (_ = _); omega)
  have OW : Hid (WB1 w1 yb yb 93 (elems (elHeads C.dh) (C.dh.length + 64))) := ⟨Nat.le_refl _, h1⟩
  have T2 : Hid (Touch (fun _ => False) w w2) := (TA.out.trans t1).trans' u2 (fun i hi e => by omega)
  have ZB : Hid (yb = w.heap.size + 2) := zb
  clear t1 h1 hyb A0 B0 A1 B1 y0 HC z0 zb
  go_upto_region 2 with fail
  rw [← hw2]
  clear hw2 zc zf
  have R2 := A2.range
  go_wp2_with (first | refine wpList_load_mid rfl 29 (.tmp 1) rfl w.heap.size 0 rfl [.int .u16 C.P.mtu, .int .u8 C.P.dopts, .int .u8 C.P.dflags, .int .u32 C.P.dseq, .slice (some ⟨yb, 0, none⟩) C.dh.length (C.dh.length + 64)] _ R2 Tryz.underlying29 rfl (by kernel_rfl) ?_ | refine wpList_store_row rfl 29 (.tmp 2) (.tmp 7) rfl (w.heap.size + 1) #[.int .u16 C.P.mtu, .int .u8 C.P.dopts, .int .u8 C.P.dflags, .int .u32 C.P.dseq, .slice (some ⟨yb, 0, none⟩) C.dh.length (C.dh.length + 64)] rfl rfl 29 _ B2 (by kernel_rfl) rfl (by simp [Value.oneCell']) ?_)
  have u3 : Touch (fun k => k = w.heap.size + 1) w2 (w2.setRow (w.heap.size + 1) #[.int .u16 C.P.mtu, .int .u8 C.P.dopts, .int .u8 C.P.dflags, .int .u32 C.P.dseq, .slice (some ⟨yb, 0, none⟩) C.dh.length (C.dh.length + 64)]) := Touch.setRow (F := fun k => k = w.heap.size + 1) (Touch.refl _ _) (Or.inl rfl) _
  refine bodyPost_ret (v := .agg #[.int .u16 C.P.mtu, .int .u8 C.P.dopts, .int .u8 C.P.dflags, .int .u32 C.P.dseq, .slice (some ⟨yb, 0, none⟩) C.dh.length (C.dh.length + 64)]) ?hr rfl ?_
  case hr => exact results_cell_row rfl _ _ (w.heap.size + 1) 29 #[.int .u16 C.P.mtu, .int .u8 C.P.dopts, .int .u8 C.P.dflags, .int .u32 C.P.dseq, .slice (some ⟨yb, 0, none⟩) C.dh.length (C.dh.length + 64)] (0, 0) _ (by rfl) (B2.setRow _) Tryz.underlying29 rfl (by kernel_rfl)
  have zb := ZB.out
  exact ⟨yb, rfl, ((OW.out.touch u2 (by show ¬ (_ = _); omega)).touch u3 (by show ¬ (_ = _); omega)).low (by omega), T2.out.trans' u3 (fun i hi e => by omega)⟩
/-- A packet's rows lie in blocks of their own, with marks behind them. -/
structure WPk (base : Nat) (w : World) (C : PkC) (nb db kb sb hb : Nat) : Prop where
  n : WB1 w base nb 22 (elems (elWords C.nb) (C.nb.length + 64))
  d : WB1 w base db 93 (elems (elHeads C.dh) (C.dh.length + 64))
  k : WB1 w base kb 125 (elems (elKeys C.ks) (C.ks.length + 64))
  s : ∃ l : List SE, l.map SE.p = C.ss ∧ WB1 w base sb 95 (elems (elStates l) (l.length + 64)) ∧ ∀ x ∈ l, WSt w base x
  h : WB1 w base hb 93 (elems (elHeads C.hs) (C.hs.length + 64))
theorem WPk.keep {base : Nat} {w w' : World} {C : PkC} {nb db kb sb hb : Nat} (h : WPk base w C nb db kb sb hb) (t : Touch (fun _ => False) w w') : WPk base w' C nb db kb sb hb := by
  obtain ⟨l, h1, h2, h3⟩ := h.s
  exact ⟨h.n.touch t (fun f => f), h.d.touch t (fun f => f), h.k.touch t (fun f => f), ⟨l, h1, h2.touch t (fun f => f), fun x hx => (h3 x hx).touch t (fun _ _ f => f)⟩, h.h.touch t (fun f => f)⟩
theorem WPk.own {base : Nat} {w : World} {C : PkC} {nb db kb sb hb : Nat} (h : WPk base w C nb db kb sb hb) (lt : C.Lt) (ln : C.Ln) : POwn base w C (.slice (some ⟨nb, 0, none⟩) C.nb.length (C.nb.length + 64)) (.slice (some ⟨db, 0, none⟩) C.dh.length (C.dh.length + 64)) (.slice (some ⟨kb, 0, none⟩) C.ks.length (C.ks.length + 64)) (.slice (some ⟨sb, 0, none⟩) C.ss.length (C.ss.length + 64)) (.slice (some ⟨hb, 0, none⟩) C.hs.length (C.hs.length + 64)) := by
  obtain ⟨l, h1, h2, h3⟩ := h.s
  have hl : l.length = C.ss.length := by rw [← h1, List.length_map]
  have e1 := own_blk (by decide) fWords_len mkWords_len h.n.2 h.n.1 (by have := ln.n; unfold maxLen; omega)
  have e2 := own_blk (by decide) fHeads_len mkHeads_len h.d.2 h.d.1 (by have := ln.d; unfold maxLen; omega)
  have e3 := own_blk (by decide) fKeys_len mkKeys_len h.k.2 h.k.1 (by have := ln.k; unfold maxLen; omega)
  have e4 := own_blk (by decide) fStates_len mkStates_len h2.2 h2.1 (by have := lt.n; unfold maxLen; omega)
  have e5 := own_blk (by decide) fHeads_len mkHeads_len h.h.2 h.h.1 (by have := ln.h; unfold maxLen; omega)
  rw [fWords_all] at e1
  rw [fHeads_all] at e2 e5
  rw [fKeys_all] at e3
  rw [hl] at e4
  refine ⟨e1, e2, e3, ⟨l, h1, by rw [hl]; exact e4, fun x hx => ?_⟩, e5⟩
  obtain ⟨b, hb, h4⟩ := h3 x hx
  rw [hb]
  exact own_wide8 h4.2 h4.1 (by have := lt.b x.p (by rw [← h1]; exact List.mem_map_of_mem hx); exact this)
set_option maxHeartbeats 4000000 in
theorem wpacket (C : PkC) (lt : C.Lt) (ln : C.Ln) (vn vd vk vs vh : Value) (w : World) (hp : PkAt w C vn vd vk vs vh) :
    Calls Tryz.prog 7 #[C.P.v vn vd vk vs vh] w fun e w' => ∃ nb db kb sb hb, e = .returned (C.P.v (.slice (some ⟨nb, 0, none⟩) C.nb.length (C.nb.length + 64)) (.slice (some ⟨db, 0, none⟩) C.dh.length (C.dh.length + 64)) (.slice (some ⟨kb, 0, none⟩) C.ks.length (C.ks.length + 64)) (.slice (some ⟨sb, 0, none⟩) C.ss.length (C.ss.length + 64)) (.slice (some ⟨hb, 0, none⟩) C.hs.length (C.hs.length + 64))) ∧ WPk w.heap.size w' C nb db kb sb hb ∧ Touch (fun _ => False) w w' := by
  obtain ⟨na, nc, da, dc, ka, kc, sa, sc, ha, hc, rfl, rfl, rfl, rfl, rfl⟩ := hp.forms
  obtain ⟨w0, hw0⟩ : ∃ w0, w0 = (w.alloc (.cells #[.int .u8 C.P.typ, .int .u32 C.P.router, .int .u32 C.P.area, .int .u32 C.P.mask, .int .u16 C.P.iv, .int .u8 C.P.opts, .int .u8 C.P.prio, .int .u32 C.P.dead, .int .u32 C.P.dr, .int .u32 C.P.bdr, .slice na C.nb.length nc, .int .u16 C.P.mtu, .int .u8 C.P.dopts, .int .u8 C.P.dflags, .int .u32 C.P.dseq, .slice da C.dh.length dc, .slice ka C.ks.length kc, .slice sa C.ss.length sc, .slice ha C.hs.length hc] 33)).alloc (.cells #[.int .u8 0, .int .u32 0, .int .u32 0, .int .u32 0, .int .u16 0, .int .u8 0, .int .u8 0, .int .u32 0, .int .u32 0, .int .u32 0, .slice none 0 0, .int .u16 0, .int .u8 0, .int .u8 0, .int .u32 0, .slice none 0 0, .slice none 0 0, .slice none 0 0, .slice none 0 0] 33) := ⟨_, rfl⟩
  have ta : Touch (fun _ => False) w w0 := by rw [hw0]; exact ((Touch.refl _ w).alloc _).alloc _
  have A0 : Row w0 w.heap.size 33 [.int .u8 C.P.typ, .int .u32 C.P.router, .int .u32 C.P.area, .int .u32 C.P.mask, .int .u16 C.P.iv, .int .u8 C.P.opts, .int .u8 C.P.prio, .int .u32 C.P.dead, .int .u32 C.P.dr, .int .u32 C.P.bdr, .slice na C.nb.length nc, .int .u16 C.P.mtu, .int .u8 C.P.dopts, .int .u8 C.P.dflags, .int .u32 C.P.dseq, .slice da C.dh.length dc, .slice ka C.ks.length kc, .slice sa C.ss.length sc, .slice ha C.hs.length hc] := by rw [hw0]; exact (row_new w 33 #[.int .u8 C.P.typ, .int .u32 C.P.router, .int .u32 C.P.area, .int .u32 C.P.mask, .int .u16 C.P.iv, .int .u8 C.P.opts, .int .u8 C.P.prio, .int .u32 C.P.dead, .int .u32 C.P.dr, .int .u32 C.P.bdr, .slice na C.nb.length nc, .int .u16 C.P.mtu, .int .u8 C.P.dopts, .int .u8 C.P.dflags, .int .u32 C.P.dseq, .slice da C.dh.length dc, .slice ka C.ks.length kc, .slice sa C.ss.length sc, .slice ha C.hs.length hc]).keep ((Touch.refl _ _).alloc _)
  have B0 : Row w0 (w.heap.size + 1) 33 [.int .u8 0, .int .u32 0, .int .u32 0, .int .u32 0, .int .u16 0, .int .u8 0, .int .u8 0, .int .u32 0, .int .u32 0, .int .u32 0, .slice none 0 0, .int .u16 0, .int .u8 0, .int .u8 0, .int .u32 0, .slice none 0 0, .slice none 0 0, .slice none 0 0, .slice none 0 0] := by
    have := row_new (w.alloc (.cells #[.int .u8 C.P.typ, .int .u32 C.P.router, .int .u32 C.P.area, .int .u32 C.P.mask, .int .u16 C.P.iv, .int .u8 C.P.opts, .int .u8 C.P.prio, .int .u32 C.P.dead, .int .u32 C.P.dr, .int .u32 C.P.bdr, .slice na C.nb.length nc, .int .u16 C.P.mtu, .int .u8 C.P.dopts, .int .u8 C.P.dflags, .int .u32 C.P.dseq, .slice da C.dh.length dc, .slice ka C.ks.length kc, .slice sa C.ss.length sc, .slice ha C.hs.length hc] 33)) 33 #[.int .u8 0, .int .u32 0, .int .u32 0, .int .u32 0, .int .u16 0, .int .u8 0, .int .u8 0, .int .u32 0, .int .u32 0, .int .u32 0, .slice none 0 0, .int .u16 0, .int .u8 0, .int .u8 0, .int .u32 0, .slice none 0 0, .slice none 0 0, .slice none 0 0, .slice none 0 0]
    rw [← hw0] at this
    simpa using this
  have HS0 : Hid (w.heap.size + 2 ≤ w0.heap.size) := by show _ ≤ _; rw [hw0]; simp
  have T0 : Hid (Touch (fun _ => False) w w0) := ta
  have HP : Hid (PkAt w C (.slice na C.nb.length nc) (.slice da C.dh.length dc) (.slice ka C.ks.length kc) (.slice sa C.ss.length sc) (.slice ha C.hs.length hc)) := hp
  have LT : Hid C.Lt := lt
  have HL : Hid (C.nb.length ≤ 1000000 ∧ C.dh.length ≤ 1000000 ∧ C.ks.length ≤ 1000000 ∧ C.hs.length ≤ 1000000) := ⟨ln.n, ln.d, ln.k, ln.h⟩
  clear ta hp lt ln
  show Calls Tryz.prog 7 #[.agg #[.int .u8 C.P.typ, .int .u32 C.P.router, .int .u32 C.P.area, .int .u32 C.P.mask, .int .u16 C.P.iv, .int .u8 C.P.opts, .int .u8 C.P.prio, .int .u32 C.P.dead, .int .u32 C.P.dr, .int .u32 C.P.bdr, .slice na C.nb.length nc, .int .u16 C.P.mtu, .int .u8 C.P.dopts, .int .u8 C.P.dflags, .int .u32 C.P.dseq, .slice da C.dh.length dc, .slice ka C.ks.length kc, .slice sa C.ss.length sc, .slice ha C.hs.length hc]] w _
  go_enter Tryz.func7, Tryz.ntmps7
  go_upto_region 1 with fail
  rw [← hw0]
  clear hw0
  have ng21 : ¬ w.heap.size + 1 = w.heap.size := by omega
  generalize hg2 : w.heap.size + 1 = g2 at *
  generalize hg1 : w.heap.size = g1 at *
  have HZ : Hid (w.heap.size = g1 ∧ g1 + 1 = g2) := ⟨hg1, hg2⟩
  clear hg1 hg2
  have y3 : w0.cell? ⟨g1, 3, none⟩ = some (.int .u32 C.P.mask) := A0.cell 3
  have y4 : w0.cell? ⟨g1, 4, none⟩ = some (.int .u16 C.P.iv) := A0.cell 4
  have y5 : w0.cell? ⟨g1, 5, none⟩ = some (.int .u8 C.P.opts) := A0.cell 5
  have y6 : w0.cell? ⟨g1, 6, none⟩ = some (.int .u8 C.P.prio) := A0.cell 6
  have y7 : w0.cell? ⟨g1, 7, none⟩ = some (.int .u32 C.P.dead) := A0.cell 7
  have y8 : w0.cell? ⟨g1, 8, none⟩ = some (.int .u32 C.P.dr) := A0.cell 8
  have y9 : w0.cell? ⟨g1, 9, none⟩ = some (.int .u32 C.P.bdr) := A0.cell 9
  have y10 : w0.cell? ⟨g1, 10, none⟩ = some (.slice na C.nb.length nc) := A0.cell 10
  go_wp2_with fail
  refine Calls.mono (whelloP C na nc w0 (ValsAt.keep HP.out.n T0.out) HL.out.1) ?_
  rintro e wk ⟨nb, rfl, bk, tk⟩
  have A0x := A0.keep tk
  have B0x := B0.keep tk
  clear y3 y4 y5 y6 y7 y8 y9 y10
  have zc0 : wk.cell? ⟨g1, 3, none⟩ = some (.int .u32 C.P.mask) := A0x.cell 3
  have zf0 : wk.frozen? ⟨g1, 3, none⟩ = false := A0x.frozen 3
  have zc1 : wk.cell? ⟨g1, 4, none⟩ = some (.int .u16 C.P.iv) := A0x.cell 4
  have zf1 : wk.frozen? ⟨g1, 4, none⟩ = false := A0x.frozen 4
  have zc2 : wk.cell? ⟨g1, 5, none⟩ = some (.int .u8 C.P.opts) := A0x.cell 5
  have zf2 : wk.frozen? ⟨g1, 5, none⟩ = false := A0x.frozen 5
  have zc3 : wk.cell? ⟨g1, 6, none⟩ = some (.int .u8 C.P.prio) := A0x.cell 6
  have zf3 : wk.frozen? ⟨g1, 6, none⟩ = false := A0x.frozen 6
  have zc4 : wk.cell? ⟨g1, 7, none⟩ = some (.int .u32 C.P.dead) := A0x.cell 7
  have zf4 : wk.frozen? ⟨g1, 7, none⟩ = false := A0x.frozen 7
  have zc5 : wk.cell? ⟨g1, 8, none⟩ = some (.int .u32 C.P.dr) := A0x.cell 8
  have zf5 : wk.frozen? ⟨g1, 8, none⟩ = false := A0x.frozen 8
  have zc6 : wk.cell? ⟨g1, 9, none⟩ = some (.int .u32 C.P.bdr) := A0x.cell 9
  have zf6 : wk.frozen? ⟨g1, 9, none⟩ = false := A0x.frozen 9
  have zc7 : wk.cell? ⟨g1, 10, none⟩ = some (.slice na C.nb.length nc) := A0x.cell 10
  have zf7 : wk.frozen? ⟨g1, 10, none⟩ = false := A0x.frozen 10
  obtain ⟨w1, hw1⟩ : ∃ x, x = ((((((((wk.setCell ⟨g1, 3, none⟩ (.int .u32 C.P.mask)).setCell ⟨g1, 4, none⟩ (.int .u16 C.P.iv)).setCell ⟨g1, 5, none⟩ (.int .u8 C.P.opts)).setCell ⟨g1, 6, none⟩ (.int .u8 C.P.prio)).setCell ⟨g1, 7, none⟩ (.int .u32 C.P.dead)).setCell ⟨g1, 8, none⟩ (.int .u32 C.P.dr)).setCell ⟨g1, 9, none⟩ (.int .u32 C.P.bdr)).setCell ⟨g1, 10, none⟩ (.slice (some ⟨nb, 0, none⟩) C.nb.length (C.nb.length + 64))) := ⟨_, rfl⟩
  have uk : Touch (fun k => k = g1) wk w1 := by rw [hw1]; refine Touch.setCell (F := fun k => k = g1) (p := ⟨g1, 10, none⟩) ?_ (Or.inl rfl) _; refine Touch.setCell (F := fun k => k = g1) (p := ⟨g1, 9, none⟩) ?_ (Or.inl rfl) _; refine Touch.setCell (F := fun k => k = g1) (p := ⟨g1, 8, none⟩) ?_ (Or.inl rfl) _; refine Touch.setCell (F := fun k => k = g1) (p := ⟨g1, 7, none⟩) ?_ (Or.inl rfl) _; refine Touch.setCell (F := fun k => k = g1) (p := ⟨g1, 6, none⟩) ?_ (Or.inl rfl) _; refine Touch.setCell (F := fun k => k = g1) (p := ⟨g1, 5, none⟩) ?_ (Or.inl rfl) _; refine Touch.setCell (F := fun k => k = g1) (p := ⟨g1, 4, none⟩) ?_ (Or.inl rfl) _; refine Touch.setCell (F := fun k => k = g1) (p := ⟨g1, 3, none⟩) ?_ (Or.inl rfl) _; exact Touch.refl _ _
  have A1 : Row w1 g1 33 [.int .u8 C.P.typ, .int .u32 C.P.router, .int .u32 C.P.area, .int .u32 C.P.mask, .int .u16 C.P.iv, .int .u8 C.P.opts, .int .u8 C.P.prio, .int .u32 C.P.dead, .int .u32 C.P.dr, .int .u32 C.P.bdr, .slice (some ⟨nb, 0, none⟩) C.nb.length (C.nb.length + 64), .int .u16 C.P.mtu, .int .u8 C.P.dopts, .int .u8 C.P.dflags, .int .u32 C.P.dseq, .slice da C.dh.length dc, .slice ka C.ks.length kc, .slice sa C.ss.length sc, .slice ha C.hs.length hc] := by rw [hw1]; exact ((((((((A0x.set 3 _).set 4 _).set 5 _).set 6 _).set 7 _).set 8 _).set 9 _).set 10 _)
  have B1 := B0x.touch uk ng21
  have T1 : Hid (Touch (fun _ => False) w w1) := (T0.out.trans tk).trans' uk (fun i hi e => by have := HZ.out; omega)
  have On1 : Hid (WB1 w1 (g1 + 2) nb 22 (elems (elWords C.nb) (C.nb.length + 64))) := (bk.low (by have := HS0.out; omega)).touch uk (fun e => by have := bk.1; have := HS0.out; omega)
  have HS1 : Hid (g1 + 2 ≤ w1.heap.size) := by have h1 := tk.size; have h2 := uk.size; have h3 := HS0.out; show _ ≤ _; omega
  clear uk tk A0 B0 A0x B0x T0
  go_upto_region 2 with fail
  rw [← hw1]
  clear hw1 zc0 zf0 zc1 zf1 zc2 zf2 zc3 zf3 zc4 zf4 zc5 zf5 zc6 zf6 zc7 zf7
  have y11 : w1.cell? ⟨g1, 11, none⟩ = some (.int .u16 C.P.mtu) := A1.cell 11
  have y12 : w1.cell? ⟨g1, 12, none⟩ = some (.int .u8 C.P.dopts) := A1.cell 12
  have y13 : w1.cell? ⟨g1, 13, none⟩ = some (.int .u8 C.P.dflags) := A1.cell 13
  have y14 : w1.cell? ⟨g1, 14, none⟩ = some (.int .u32 C.P.dseq) := A1.cell 14
  have y15 : w1.cell? ⟨g1, 15, none⟩ = some (.slice da C.dh.length dc) := A1.cell 15
  go_wp2_with fail
  refine Calls.mono (wddP C da dc w1 (ValsAt.keep HP.out.d T1.out) HL.out.2.1) ?_
  rintro e wk ⟨db, rfl, bk, tk⟩
  have A1x := A1.keep tk
  have B1x := B1.keep tk
  clear y11 y12 y13 y14 y15
  have zc0 : wk.cell? ⟨g1, 11, none⟩ = some (.int .u16 C.P.mtu) := A1x.cell 11
  have zf0 : wk.frozen? ⟨g1, 11, none⟩ = false := A1x.frozen 11
  have zc1 : wk.cell? ⟨g1, 12, none⟩ = some (.int .u8 C.P.dopts) := A1x.cell 12
  have zf1 : wk.frozen? ⟨g1, 12, none⟩ = false := A1x.frozen 12
  have zc2 : wk.cell? ⟨g1, 13, none⟩ = some (.int .u8 C.P.dflags) := A1x.cell 13
  have zf2 : wk.frozen? ⟨g1, 13, none⟩ = false := A1x.frozen 13
  have zc3 : wk.cell? ⟨g1, 14, none⟩ = some (.int .u32 C.P.dseq) := A1x.cell 14
  have zf3 : wk.frozen? ⟨g1, 14, none⟩ = false := A1x.frozen 14
  have zc4 : wk.cell? ⟨g1, 15, none⟩ = some (.slice da C.dh.length dc) := A1x.cell 15
  have zf4 : wk.frozen? ⟨g1, 15, none⟩ = false := A1x.frozen 15
  obtain ⟨w2, hw2⟩ : ∃ x, x = (((((wk.setCell ⟨g1, 11, none⟩ (.int .u16 C.P.mtu)).setCell ⟨g1, 12, none⟩ (.int .u8 C.P.dopts)).setCell ⟨g1, 13, none⟩ (.int .u8 C.P.dflags)).setCell ⟨g1, 14, none⟩ (.int .u32 C.P.dseq)).setCell ⟨g1, 15, none⟩ (.slice (some ⟨db, 0, none⟩) C.dh.length (C.dh.length + 64))) := ⟨_, rfl⟩
  have uk : Touch (fun k => k = g1) wk w2 := by rw [hw2]; refine Touch.setCell (F := fun k => k = g1) (p := ⟨g1, 15, none⟩) ?_ (Or.inl rfl) _; refine Touch.setCell (F := fun k => k = g1) (p := ⟨g1, 14, none⟩) ?_ (Or.inl rfl) _; refine Touch.setCell (F := fun k => k = g1) (p := ⟨g1, 13, none⟩) ?_ (Or.inl rfl) _; refine Touch.setCell (F := fun k => k = g1) (p := ⟨g1, 12, none⟩) ?_ (Or.inl rfl) _; refine Touch.setCell (F := fun k => k = g1) (p := ⟨g1, 11, none⟩) ?_ (Or.inl rfl) _; exact Touch.refl _ _
  have A2 : Row w2 g1 33 [.int .u8 C.P.typ, .int .u32 C.P.router, .int .u32 C.P.area, .int .u32 C.P.mask, .int .u16 C.P.iv, .int .u8 C.P.opts, .int .u8 C.P.prio, .int .u32 C.P.dead, .int .u32 C.P.dr, .int .u32 C.P.bdr, .slice (some ⟨nb, 0, none⟩) C.nb.length (C.nb.length + 64), .int .u16 C.P.mtu, .int .u8 C.P.dopts, .int .u8 C.P.dflags, .int .u32 C.P.dseq, .slice (some ⟨db, 0, none⟩) C.dh.length (C.dh.length + 64), .slice ka C.ks.length kc, .slice sa C.ss.length sc, .slice ha C.hs.length hc] := by rw [hw2]; exact (((((A1x.set 11 _).set 12 _).set 13 _).set 14 _).set 15 _)
  have B2 := B1x.touch uk ng21
  have T2 : Hid (Touch (fun _ => False) w w2) := (T1.out.trans tk).trans' uk (fun i hi e => by have := HZ.out; omega)
  have On2 : Hid (WB1 w2 (g1 + 2) nb 22 (elems (elWords C.nb) (C.nb.length + 64))) := (On1.out.touch tk (fun f => f)).touch uk (fun e => by have := On1.out.1; omega)
  have Od2 : Hid (WB1 w2 (g1 + 2) db 93 (elems (elHeads C.dh) (C.dh.length + 64))) := (bk.low (by have := HS1.out; omega)).touch uk (fun e => by have := bk.1; have := HS1.out; omega)
  have HS2 : Hid (g1 + 2 ≤ w2.heap.size) := by have h1 := tk.size; have h2 := uk.size; have h3 := HS1.out; show _ ≤ _; omega
  clear uk tk A1 B1 A1x B1x T1
  go_upto_region 3 with fail
  rw [← hw2]
  clear hw2 zc0 zf0 zc1 zf1 zc2 zf2 zc3 zf3 zc4 zf4
  have y16 : w2.cell? ⟨g1, 16, none⟩ = some (.slice ka C.ks.length kc) := A2.cell 16
  go_wp2_with fail
  refine Calls.mono (wideKeys_any (.slice ka C.ks.length kc) C.ks w2 (ValsAt.keep HP.out.k T2.out) HL.out.2.2.1) ?_
  rintro e wk ⟨rfl, hk, tk⟩
  generalize hkb : w2.heap.size = kb at hk ⊢
  have bk : WB1 wk w2.heap.size kb 125 (elems (elKeys C.ks) (C.ks.length + 64)) := ⟨by omega, hk⟩
  clear hk hkb
  have A2x := A2.keep tk
  have B2x := B2.keep tk
  clear y16
  have zc0 : wk.cell? ⟨g1, 16, none⟩ = some (.slice ka C.ks.length kc) := A2x.cell 16
  have zf0 : wk.frozen? ⟨g1, 16, none⟩ = false := A2x.frozen 16
  obtain ⟨w3, hw3⟩ : ∃ x, x = (wk.setCell ⟨g1, 16, none⟩ (.slice (some ⟨kb, 0, none⟩) C.ks.length (C.ks.length + 64))) := ⟨_, rfl⟩
  have uk : Touch (fun k => k = g1) wk w3 := by rw [hw3]; refine Touch.setCell (F := fun k => k = g1) (p := ⟨g1, 16, none⟩) ?_ (Or.inl rfl) _; exact Touch.refl _ _
  have A3 : Row w3 g1 33 [.int .u8 C.P.typ, .int .u32 C.P.router, .int .u32 C.P.area, .int .u32 C.P.mask, .int .u16 C.P.iv, .int .u8 C.P.opts, .int .u8 C.P.prio, .int .u32 C.P.dead, .int .u32 C.P.dr, .int .u32 C.P.bdr, .slice (some ⟨nb, 0, none⟩) C.nb.length (C.nb.length + 64), .int .u16 C.P.mtu, .int .u8 C.P.dopts, .int .u8 C.P.dflags, .int .u32 C.P.dseq, .slice (some ⟨db, 0, none⟩) C.dh.length (C.dh.length + 64), .slice (some ⟨kb, 0, none⟩) C.ks.length (C.ks.length + 64), .slice sa C.ss.length sc, .slice ha C.hs.length hc] := by rw [hw3]; exact (A2x.set 16 _)
  have B3 := B2x.touch uk ng21
  have T3 : Hid (Touch (fun _ => False) w w3) := (T2.out.trans tk).trans' uk (fun i hi e => by have := HZ.out; omega)
  have On3 : Hid (WB1 w3 (g1 + 2) nb 22 (elems (elWords C.nb) (C.nb.length + 64))) := (On2.out.touch tk (fun f => f)).touch uk (fun e => by have := On2.out.1; omega)
  have Od3 : Hid (WB1 w3 (g1 + 2) db 93 (elems (elHeads C.dh) (C.dh.length + 64))) := (Od2.out.touch tk (fun f => f)).touch uk (fun e => by have := Od2.out.1; omega)
  have Ok3 : Hid (WB1 w3 (g1 + 2) kb 125 (elems (elKeys C.ks) (C.ks.length + 64))) := (bk.low (by have := HS2.out; omega)).touch uk (fun e => by have := bk.1; have := HS2.out; omega)
  have HS3 : Hid (g1 + 2 ≤ w3.heap.size) := by have h1 := tk.size; have h2 := uk.size; have h3 := HS2.out; show _ ≤ _; omega
  clear uk tk A2 B2 A2x B2x T2
  go_upto_region 4 with fail
  rw [← hw3]
  clear hw3 zc0 zf0
  have y17 : w3.cell? ⟨g1, 17, none⟩ = some (.slice sa C.ss.length sc) := A3.cell 17
  go_wp2_with fail
  obtain ⟨lS, hlS, hsS⟩ := HP.out.s
  have hlSn : lS.length = C.ss.length := by rw [← hlS, List.length_map]
  refine Calls.mono (wideStates_any (.slice sa C.ss.length sc) lS w3 (hsS.keep T3.out) (by have := LT.out.n; rw [← hlS, List.length_map] at this; exact this) (fun x hx => LT.out.b x.p (by rw [← hlS]; exact List.mem_map_of_mem hx))) ?_
  rintro e wk ⟨l, hl1, rfl, hl2, hl3, tk⟩
  rw [hlSn]
  generalize hkb : w3.heap.size = sb at hl2 hl3 ⊢
  have SS : Hid (∃ l : List SE, l.map SE.p = C.ss ∧ WB1 wk w3.heap.size sb 95 (elems (elStates l) (l.length + 64)) ∧ ∀ x ∈ l, WSt wk w3.heap.size x) := ⟨l, by rw [hl1, hlS], hl2.low (by omega), fun x hx => (hl3 x hx).low (by omega)⟩
  clear hl1 hl2 hl3 hsS hlS hlSn hkb
  have A3x := A3.keep tk
  have B3x := B3.keep tk
  clear y17
  have zc0 : wk.cell? ⟨g1, 17, none⟩ = some (.slice sa C.ss.length sc) := A3x.cell 17
  have zf0 : wk.frozen? ⟨g1, 17, none⟩ = false := A3x.frozen 17
  obtain ⟨w4, hw4⟩ : ∃ x, x = (wk.setCell ⟨g1, 17, none⟩ (.slice (some ⟨sb, 0, none⟩) C.ss.length (C.ss.length + 64))) := ⟨_, rfl⟩
  have uk : Touch (fun k => k = g1) wk w4 := by rw [hw4]; refine Touch.setCell (F := fun k => k = g1) (p := ⟨g1, 17, none⟩) ?_ (Or.inl rfl) _; exact Touch.refl _ _
  have A4 : Row w4 g1 33 [.int .u8 C.P.typ, .int .u32 C.P.router, .int .u32 C.P.area, .int .u32 C.P.mask, .int .u16 C.P.iv, .int .u8 C.P.opts, .int .u8 C.P.prio, .int .u32 C.P.dead, .int .u32 C.P.dr, .int .u32 C.P.bdr, .slice (some ⟨nb, 0, none⟩) C.nb.length (C.nb.length + 64), .int .u16 C.P.mtu, .int .u8 C.P.dopts, .int .u8 C.P.dflags, .int .u32 C.P.dseq, .slice (some ⟨db, 0, none⟩) C.dh.length (C.dh.length + 64), .slice (some ⟨kb, 0, none⟩) C.ks.length (C.ks.length + 64), .slice (some ⟨sb, 0, none⟩) C.ss.length (C.ss.length + 64), .slice ha C.hs.length hc] := by rw [hw4]; exact (A3x.set 17 _)
  have B4 := B3x.touch uk ng21
  have T4 : Hid (Touch (fun _ => False) w w4) := (T3.out.trans tk).trans' uk (fun i hi e => by have := HZ.out; omega)
  have On4 : Hid (WB1 w4 (g1 + 2) nb 22 (elems (elWords C.nb) (C.nb.length + 64))) := (On3.out.touch tk (fun f => f)).touch uk (fun e => by have := On3.out.1; omega)
  have Od4 : Hid (WB1 w4 (g1 + 2) db 93 (elems (elHeads C.dh) (C.dh.length + 64))) := (Od3.out.touch tk (fun f => f)).touch uk (fun e => by have := Od3.out.1; omega)
  have Ok4 : Hid (WB1 w4 (g1 + 2) kb 125 (elems (elKeys C.ks) (C.ks.length + 64))) := (Ok3.out.touch tk (fun f => f)).touch uk (fun e => by have := Ok3.out.1; omega)
  have Os4 : Hid (∃ l : List SE, l.map SE.p = C.ss ∧ WB1 w4 (g1 + 2) sb 95 (elems (elStates l) (l.length + 64)) ∧ ∀ x ∈ l, WSt w4 (g1 + 2) x) := by
    obtain ⟨l, h1, h2, h3⟩ := SS.out
    exact ⟨l, h1, (h2.low (by have := HS3.out; omega)).touch uk (fun e => by have := h2.1; have := HS3.out; omega), fun x hx => ((h3 x hx).low (by have := HS3.out; omega)).touch uk (fun k hk e => by omega)⟩
  have HS4 : Hid (g1 + 2 ≤ w4.heap.size) := by have h1 := tk.size; have h2 := uk.size; have h3 := HS3.out; show _ ≤ _; omega
  clear uk tk A3 B3 A3x B3x T3
  go_upto_region 5 with fail
  rw [← hw4]
  clear hw4 zc0 zf0
  have y18 : w4.cell? ⟨g1, 18, none⟩ = some (.slice ha C.hs.length hc) := A4.cell 18
  go_wp2_with fail
  refine Calls.mono (wideHeads_any (.slice ha C.hs.length hc) C.hs w4 (ValsAt.keep HP.out.h T4.out) HL.out.2.2.2) ?_
  rintro e wk ⟨rfl, hk, tk⟩
  generalize hkb : w4.heap.size = hb at hk ⊢
  have bk : WB1 wk w4.heap.size hb 93 (elems (elHeads C.hs) (C.hs.length + 64)) := ⟨by omega, hk⟩
  clear hk hkb
  have A4x := A4.keep tk
  have B4x := B4.keep tk
  clear y18
  have zc0 : wk.cell? ⟨g1, 18, none⟩ = some (.slice ha C.hs.length hc) := A4x.cell 18
  have zf0 : wk.frozen? ⟨g1, 18, none⟩ = false := A4x.frozen 18
  obtain ⟨w5, hw5⟩ : ∃ x, x = (wk.setCell ⟨g1, 18, none⟩ (.slice (some ⟨hb, 0, none⟩) C.hs.length (C.hs.length + 64))) := ⟨_, rfl⟩
  have uk : Touch (fun k => k = g1) wk w5 := by rw [hw5]; refine Touch.setCell (F := fun k => k = g1) (p := ⟨g1, 18, none⟩) ?_ (Or.inl rfl) _; exact Touch.refl _ _
  have A5 : Row w5 g1 33 [.int .u8 C.P.typ, .int .u32 C.P.router, .int .u32 C.P.area, .int .u32 C.P.mask, .int .u16 C.P.iv, .int .u8 C.P.opts, .int .u8 C.P.prio, .int .u32 C.P.dead, .int .u32 C.P.dr, .int .u32 C.P.bdr, .slice (some ⟨nb, 0, none⟩) C.nb.length (C.nb.length + 64), .int .u16 C.P.mtu, .int .u8 C.P.dopts, .int .u8 C.P.dflags, .int .u32 C.P.dseq, .slice (some ⟨db, 0, none⟩) C.dh.length (C.dh.length + 64), .slice (some ⟨kb, 0, none⟩) C.ks.length (C.ks.length + 64), .slice (some ⟨sb, 0, none⟩) C.ss.length (C.ss.length + 64), .slice (some ⟨hb, 0, none⟩) C.hs.length (C.hs.length + 64)] := by rw [hw5]; exact (A4x.set 18 _)
  have B5 := B4x.touch uk ng21
  have T5 : Hid (Touch (fun _ => False) w w5) := (T4.out.trans tk).trans' uk (fun i hi e => by have := HZ.out; omega)
  have On5 : Hid (WB1 w5 (g1 + 2) nb 22 (elems (elWords C.nb) (C.nb.length + 64))) := (On4.out.touch tk (fun f => f)).touch uk (fun e => by have := On4.out.1; omega)
  have Od5 : Hid (WB1 w5 (g1 + 2) db 93 (elems (elHeads C.dh) (C.dh.length + 64))) := (Od4.out.touch tk (fun f => f)).touch uk (fun e => by have := Od4.out.1; omega)
  have Ok5 : Hid (WB1 w5 (g1 + 2) kb 125 (elems (elKeys C.ks) (C.ks.length + 64))) := (Ok4.out.touch tk (fun f => f)).touch uk (fun e => by have := Ok4.out.1; omega)
  have Os5 : Hid (∃ l : List SE, l.map SE.p = C.ss ∧ WB1 w5 (g1 + 2) sb 95 (elems (elStates l) (l.length + 64)) ∧ ∀ x ∈ l, WSt w5 (g1 + 2) x) := by
    obtain ⟨l, h1, h2, h3⟩ := Os4.out
    exact ⟨l, h1, (h2.touch tk (fun f => f)).touch uk (fun e => by have := h2.1; omega), fun x hx => ((h3 x hx).touch tk (fun _ _ f => f)).touch uk (fun k hk e => by omega)⟩
  have Oh5 : Hid (WB1 w5 (g1 + 2) hb 93 (elems (elHeads C.hs) (C.hs.length + 64))) := (bk.low (by have := HS4.out; omega)).touch uk (fun e => by have := bk.1; have := HS4.out; omega)
  have HS5 : Hid (g1 + 2 ≤ w5.heap.size) := by have h1 := tk.size; have h2 := uk.size; have h3 := HS4.out; show _ ≤ _; omega
  clear uk tk A4 B4 A4x B4x T4
  go_upto_region 6 with fail
  rw [← hw5]
  clear hw5 zc0 zf0
  have R5 := A5.range
  go_wp2_with (first | refine wpList_load_mid rfl 33 (.tmp 1) rfl g1 0 rfl [.int .u8 C.P.typ, .int .u32 C.P.router, .int .u32 C.P.area, .int .u32 C.P.mask, .int .u16 C.P.iv, .int .u8 C.P.opts, .int .u8 C.P.prio, .int .u32 C.P.dead, .int .u32 C.P.dr, .int .u32 C.P.bdr, .slice (some ⟨nb, 0, none⟩) C.nb.length (C.nb.length + 64), .int .u16 C.P.mtu, .int .u8 C.P.dopts, .int .u8 C.P.dflags, .int .u32 C.P.dseq, .slice (some ⟨db, 0, none⟩) C.dh.length (C.dh.length + 64), .slice (some ⟨kb, 0, none⟩) C.ks.length (C.ks.length + 64), .slice (some ⟨sb, 0, none⟩) C.ss.length (C.ss.length + 64), .slice (some ⟨hb, 0, none⟩) C.hs.length (C.hs.length + 64)] _ R5 Tryz.underlying33 rfl (by kernel_rfl) ?_ | refine wpList_store_row rfl 33 (.tmp 2) (.tmp 23) rfl g2 #[.int .u8 C.P.typ, .int .u32 C.P.router, .int .u32 C.P.area, .int .u32 C.P.mask, .int .u16 C.P.iv, .int .u8 C.P.opts, .int .u8 C.P.prio, .int .u32 C.P.dead, .int .u32 C.P.dr, .int .u32 C.P.bdr, .slice (some ⟨nb, 0, none⟩) C.nb.length (C.nb.length + 64), .int .u16 C.P.mtu, .int .u8 C.P.dopts, .int .u8 C.P.dflags, .int .u32 C.P.dseq, .slice (some ⟨db, 0, none⟩) C.dh.length (C.dh.length + 64), .slice (some ⟨kb, 0, none⟩) C.ks.length (C.ks.length + 64), .slice (some ⟨sb, 0, none⟩) C.ss.length (C.ss.length + 64), .slice (some ⟨hb, 0, none⟩) C.hs.length (C.hs.length + 64)] rfl rfl 33 _ B5 (by kernel_rfl) rfl (by simp [Value.oneCell']) ?_)
  have u3 : Touch (fun k => k = g2) w5 (w5.setRow g2 #[.int .u8 C.P.typ, .int .u32 C.P.router, .int .u32 C.P.area, .int .u32 C.P.mask, .int .u16 C.P.iv, .int .u8 C.P.opts, .int .u8 C.P.prio, .int .u32 C.P.dead, .int .u32 C.P.dr, .int .u32 C.P.bdr, .slice (some ⟨nb, 0, none⟩) C.nb.length (C.nb.length + 64), .int .u16 C.P.mtu, .int .u8 C.P.dopts, .int .u8 C.P.dflags, .int .u32 C.P.dseq, .slice (some ⟨db, 0, none⟩) C.dh.length (C.dh.length + 64), .slice (some ⟨kb, 0, none⟩) C.ks.length (C.ks.length + 64), .slice (some ⟨sb, 0, none⟩) C.ss.length (C.ss.length + 64), .slice (some ⟨hb, 0, none⟩) C.hs.length (C.hs.length + 64)]) := Touch.setRow (F := fun k => k = g2) (Touch.refl _ _) (Or.inl rfl) _
  refine bodyPost_ret (v := .agg #[.int .u8 C.P.typ, .int .u32 C.P.router, .int .u32 C.P.area, .int .u32 C.P.mask, .int .u16 C.P.iv, .int .u8 C.P.opts, .int .u8 C.P.prio, .int .u32 C.P.dead, .int .u32 C.P.dr, .int .u32 C.P.bdr, .slice (some ⟨nb, 0, none⟩) C.nb.length (C.nb.length + 64), .int .u16 C.P.mtu, .int .u8 C.P.dopts, .int .u8 C.P.dflags, .int .u32 C.P.dseq, .slice (some ⟨db, 0, none⟩) C.dh.length (C.dh.length + 64), .slice (some ⟨kb, 0, none⟩) C.ks.length (C.ks.length + 64), .slice (some ⟨sb, 0, none⟩) C.ss.length (C.ss.length + 64), .slice (some ⟨hb, 0, none⟩) C.hs.length (C.hs.length + 64)]) ?hr rfl ?_
  case hr => exact results_cell_row rfl _ _ g2 33 #[.int .u8 C.P.typ, .int .u32 C.P.router, .int .u32 C.P.area, .int .u32 C.P.mask, .int .u16 C.P.iv, .int .u8 C.P.opts, .int .u8 C.P.prio, .int .u32 C.P.dead, .int .u32 C.P.dr, .int .u32 C.P.bdr, .slice (some ⟨nb, 0, none⟩) C.nb.length (C.nb.length + 64), .int .u16 C.P.mtu, .int .u8 C.P.dopts, .int .u8 C.P.dflags, .int .u32 C.P.dseq, .slice (some ⟨db, 0, none⟩) C.dh.length (C.dh.length + 64), .slice (some ⟨kb, 0, none⟩) C.ks.length (C.ks.length + 64), .slice (some ⟨sb, 0, none⟩) C.ss.length (C.ss.length + 64), .slice (some ⟨hb, 0, none⟩) C.hs.length (C.hs.length + 64)] (0, 0) _ (by rfl) (B5.setRow _) Tryz.underlying33 rfl (by kernel_rfl)
  have z1 := HZ.out
  have ow : ∀ {b T : Nat} {cs : List Value}, WB1 w5 (g1 + 2) b T cs → WB1 (w5.setRow g2 #[.int .u8 C.P.typ, .int .u32 C.P.router, .int .u32 C.P.area, .int .u32 C.P.mask, .int .u16 C.P.iv, .int .u8 C.P.opts, .int .u8 C.P.prio, .int .u32 C.P.dead, .int .u32 C.P.dr, .int .u32 C.P.bdr, .slice (some ⟨nb, 0, none⟩) C.nb.length (C.nb.length + 64), .int .u16 C.P.mtu, .int .u8 C.P.dopts, .int .u8 C.P.dflags, .int .u32 C.P.dseq, .slice (some ⟨db, 0, none⟩) C.dh.length (C.dh.length + 64), .slice (some ⟨kb, 0, none⟩) C.ks.length (C.ks.length + 64), .slice (some ⟨sb, 0, none⟩) C.ss.length (C.ss.length + 64), .slice (some ⟨hb, 0, none⟩) C.hs.length (C.hs.length + 64)]) w.heap.size b T cs := fun h => (h.touch u3 (fun e => by have := h.1; omega)).low (by omega)
  obtain ⟨l, h1, h2, h3⟩ := Os5.out
  exact ⟨_, _, _, _, _, rfl, ⟨ow On5.out, ow Od5.out, ow Ok5.out, ⟨l, h1, ow h2, fun x hx => ((h3 x hx).touch u3 (fun k hk e => by omega)).low (by omega)⟩, ow Oh5.out⟩, T5.out.trans' u3 (fun i hi e => by omega)⟩
end Go.Proofs.YtjgeklipeeooaaaGreatDoor
