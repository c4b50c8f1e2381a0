/- Packets copied. -/
import Derived.Test.YtjjgbcjgmjggnaaGreatPkRows
import Derived.Test.YtjjgbcjgmjggnaaGreatPkDec
namespace Go.Proofs.YtjjgbcjgmjggnaaGreat
open Go.RowKit
set_option linter.unusedVariables false
set_option maxRecDepth 100000

set_option maxHeartbeats 1000000 in
theorem chelloP (C : PkC) (xa : Option Addr) (xc : Nat) (w : World) (hv : WordsAt w (.slice xa C.nb.length xc) C.nb) (hl : C.nb.length ≤ 1000000) :
    Calls Tryz.prog 31 #[.agg #[.int .u32 C.P.mask, .int .u16 C.P.iv, .int .u8 C.P.opts, .int .u8 C.P.prio, .int .u32 C.P.dead, .int .u32 C.P.dr, .int .u32 C.P.bdr, .slice xa C.nb.length xc]] w fun e w' => ∃ ya yc, e = .returned (.agg #[.int .u32 C.P.mask, .int .u16 C.P.iv, .int .u8 C.P.opts, .int .u8 C.P.prio, .int .u32 C.P.dead, .int .u32 C.P.dr, .int .u32 C.P.bdr, .slice ya C.nb.length yc]) ∧ VBuf 22 1 w w' (.slice ya C.nb.length yc) C.nb.length (wordsC C.nb) := by
  obtain ⟨w0, hw0⟩ : ∃ w0, w0 = (w.alloc (.cells #[.int .u32 C.P.mask, .int .u16 C.P.iv, .int .u8 C.P.opts, .int .u8 C.P.prio, .int .u32 C.P.dead, .int .u32 C.P.dr, .int .u32 C.P.bdr, .slice xa C.nb.length xc] 26)).alloc (.cells #[.int .u32 0, .int .u16 0, .int .u8 0, .int .u8 0, .int .u32 0, .int .u32 0, .int .u32 0, .slice none 0 0] 26) := ⟨_, rfl⟩
  have ta : Touch (fun _ => False) w w0 := by rw [hw0]; exact ((Touch.refl _ w).alloc _).alloc _
  have A0 : Row w0 w.heap.size 26 [.int .u32 C.P.mask, .int .u16 C.P.iv, .int .u8 C.P.opts, .int .u8 C.P.prio, .int .u32 C.P.dead, .int .u32 C.P.dr, .int .u32 C.P.bdr, .slice xa C.nb.length xc] := by rw [hw0]; exact (row_new w 26 #[.int .u32 C.P.mask, .int .u16 C.P.iv, .int .u8 C.P.opts, .int .u8 C.P.prio, .int .u32 C.P.dead, .int .u32 C.P.dr, .int .u32 C.P.bdr, .slice xa C.nb.length xc]).keep ((Touch.refl _ _).alloc _)
  have B0 : Row w0 (w.heap.size + 1) 26 [.int .u32 0, .int .u16 0, .int .u8 0, .int .u8 0, .int .u32 0, .int .u32 0, .int .u32 0, .slice none 0 0] := by
    have := row_new (w.alloc (.cells #[.int .u32 C.P.mask, .int .u16 C.P.iv, .int .u8 C.P.opts, .int .u8 C.P.prio, .int .u32 C.P.dead, .int .u32 C.P.dr, .int .u32 C.P.bdr, .slice xa C.nb.length xc] 26)) 26 #[.int .u32 0, .int .u16 0, .int .u8 0, .int .u8 0, .int .u32 0, .int .u32 0, .int .u32 0, .slice none 0 0]
    rw [← hw0] at this
    simpa using this
  have y0 : w0.cell? ⟨w.heap.size, 7, none⟩ = some (.slice xa C.nb.length xc) := A0.cell 7
  have HC := cwordsP (.slice xa C.nb.length xc) C.nb w0 (ValsAt.keep hv ta) hl
  have z0 : w0.heap.size = w.heap.size + 2 := by rw [hw0]; simp
  have TA : Hid (Touch (fun _ => False) w w0) := ta
  clear hv ta
  go_enter Tryz.func31, Tryz.ntmps31
  go_upto_region 1 with fail
  rw [← hw0]
  clear hw0
  go_wp2_with fail
  refine Calls.mono HC ?_
  rintro e w1 ⟨u, rfl, b1⟩
  obtain ⟨ya, yc, rfl⟩ := b1.form
  have A1 := A0.keep b1.t
  have B1 := B0.keep b1.t
  have zc : w1.cell? ⟨w.heap.size, 7, none⟩ = some (.slice xa C.nb.length xc) := A1.cell 7
  have zf : w1.frozen? ⟨w.heap.size, 7, none⟩ = false := A1.frozen 7
  obtain ⟨w2, hw2⟩ : ∃ x, x = w1.setCell ⟨w.heap.size, 7, none⟩ (.slice ya C.nb.length yc) := ⟨_, rfl⟩
  have u2 : Touch (fun k => k = w.heap.size) w1 w2 := by rw [hw2]; exact Touch.setCell (F := fun k => k = w.heap.size) (p := ⟨w.heap.size, 7, none⟩) (Touch.refl _ _) (Or.inl rfl) _
  have A2 : Row w2 w.heap.size 26 [.int .u32 C.P.mask, .int .u16 C.P.iv, .int .u8 C.P.opts, .int .u8 C.P.prio, .int .u32 C.P.dead, .int .u32 C.P.dr, .int .u32 C.P.bdr, .slice ya C.nb.length yc] := by rw [hw2]; exact A1.set 7 _
  have B2 := B1.touch u2 (by show ¬ (_ = _); omega)
  have OW : Hid (w1.ownsRow w0.heap.size 22 1 (.slice ya C.nb.length yc) C.nb.length (wordsC C.nb)) := b1.own
  have T2 : Hid (Touch (fun _ => False) w w2) := (TA.out.trans b1.t).trans' u2 (fun i hi e => by omega)
  clear b1 A0 B0 A1 B1 y0 HC
  go_upto_region 2 with fail
  rw [← hw2]
  clear hw2 zc zf
  have R2 := A2.range
  go_wp2_with (first | refine wpList_load_mid rfl 26 (.tmp 1) rfl w.heap.size 0 rfl [.int .u32 C.P.mask, .int .u16 C.P.iv, .int .u8 C.P.opts, .int .u8 C.P.prio, .int .u32 C.P.dead, .int .u32 C.P.dr, .int .u32 C.P.bdr, .slice ya C.nb.length yc] _ R2 Tryz.underlying26 rfl (by kernel_rfl) ?_ | refine wpList_store_row rfl 26 (.tmp 2) (.tmp 7) rfl (w.heap.size + 1) #[.int .u32 C.P.mask, .int .u16 C.P.iv, .int .u8 C.P.opts, .int .u8 C.P.prio, .int .u32 C.P.dead, .int .u32 C.P.dr, .int .u32 C.P.bdr, .slice ya C.nb.length yc] rfl rfl 26 _ B2 (by kernel_rfl) rfl (by simp [Value.oneCell']) ?_)
  have u3 : Touch (fun k => k = w.heap.size + 1) w2 (w2.setRow (w.heap.size + 1) #[.int .u32 C.P.mask, .int .u16 C.P.iv, .int .u8 C.P.opts, .int .u8 C.P.prio, .int .u32 C.P.dead, .int .u32 C.P.dr, .int .u32 C.P.bdr, .slice ya C.nb.length yc]) := Touch.setRow (F := fun k => k = w.heap.size + 1) (Touch.refl _ _) (Or.inl rfl) _
  refine bodyPost_ret (v := .agg #[.int .u32 C.P.mask, .int .u16 C.P.iv, .int .u8 C.P.opts, .int .u8 C.P.prio, .int .u32 C.P.dead, .int .u32 C.P.dr, .int .u32 C.P.bdr, .slice ya C.nb.length yc]) ?hr rfl ?_
  case hr => exact results_cell_row rfl _ _ (w.heap.size + 1) 26 #[.int .u32 C.P.mask, .int .u16 C.P.iv, .int .u8 C.P.opts, .int .u8 C.P.prio, .int .u32 C.P.dead, .int .u32 C.P.dr, .int .u32 C.P.bdr, .slice ya C.nb.length yc] (0, 0) _ (by rfl) (B2.setRow _) Tryz.underlying26 rfl (by kernel_rfl)
  exact ⟨ya, yc, rfl, own_lower (own_touch (own_touch OW.out u2 (fun k hk e => by have := (OW.out.lt k hk).1; omega)) u3 (fun k hk e => by have := (OW.out.lt k hk).1; omega)) (by omega), T2.out.trans' u3 (fun i hi e => by omega)⟩
set_option maxHeartbeats 1000000 in
theorem cddP (C : PkC) (xa : Option Addr) (xc : Nat) (w : World) (hv : HeadsAt w (.slice xa C.dh.length xc) C.dh) (hl : C.dh.length ≤ 1000000) :
    Calls Tryz.prog 32 #[.agg #[.int .u16 C.P.mtu, .int .u8 C.P.dopts, .int .u8 C.P.dflags, .int .u32 C.P.dseq, .slice xa C.dh.length xc]] w fun e w' => ∃ ya yc, e = .returned (.agg #[.int .u16 C.P.mtu, .int .u8 C.P.dopts, .int .u8 C.P.dflags, .int .u32 C.P.dseq, .slice ya C.dh.length yc]) ∧ VBuf 93 8 w w' (.slice ya C.dh.length yc) C.dh.length (headsC C.dh) := by
  obtain ⟨w0, hw0⟩ : ∃ w0, w0 = (w.alloc (.cells #[.int .u16 C.P.mtu, .int .u8 C.P.dopts, .int .u8 C.P.dflags, .int .u32 C.P.dseq, .slice xa C.dh.length xc] 29)).alloc (.cells #[.int .u16 0, .int .u8 0, .int .u8 0, .int .u32 0, .slice none 0 0] 29) := ⟨_, rfl⟩
  have ta : Touch (fun _ => False) w w0 := by rw [hw0]; exact ((Touch.refl _ w).alloc _).alloc _
  have A0 : Row w0 w.heap.size 29 [.int .u16 C.P.mtu, .int .u8 C.P.dopts, .int .u8 C.P.dflags, .int .u32 C.P.dseq, .slice xa C.dh.length xc] := by rw [hw0]; exact (row_new w 29 #[.int .u16 C.P.mtu, .int .u8 C.P.dopts, .int .u8 C.P.dflags, .int .u32 C.P.dseq, .slice xa C.dh.length xc]).keep ((Touch.refl _ _).alloc _)
  have B0 : Row w0 (w.heap.size + 1) 29 [.int .u16 0, .int .u8 0, .int .u8 0, .int .u32 0, .slice none 0 0] := by
    have := row_new (w.alloc (.cells #[.int .u16 C.P.mtu, .int .u8 C.P.dopts, .int .u8 C.P.dflags, .int .u32 C.P.dseq, .slice xa C.dh.length xc] 29)) 29 #[.int .u16 0, .int .u8 0, .int .u8 0, .int .u32 0, .slice none 0 0]
    rw [← hw0] at this
    simpa using this
  have y0 : w0.cell? ⟨w.heap.size, 4, none⟩ = some (.slice xa C.dh.length xc) := A0.cell 4
  have HC := cheadsP (.slice xa C.dh.length xc) C.dh w0 (ValsAt.keep hv ta) hl
  have z0 : w0.heap.size = w.heap.size + 2 := by rw [hw0]; simp
  have TA : Hid (Touch (fun _ => False) w w0) := ta
  clear hv ta
  go_enter Tryz.func32, Tryz.ntmps32
  go_upto_region 1 with fail
  rw [← hw0]
  clear hw0
  go_wp2_with fail
  refine Calls.mono HC ?_
  rintro e w1 ⟨u, rfl, b1⟩
  obtain ⟨ya, yc, rfl⟩ := b1.form
  have A1 := A0.keep b1.t
  have B1 := B0.keep b1.t
  have zc : w1.cell? ⟨w.heap.size, 4, none⟩ = some (.slice xa C.dh.length xc) := A1.cell 4
  have zf : w1.frozen? ⟨w.heap.size, 4, none⟩ = false := A1.frozen 4
  obtain ⟨w2, hw2⟩ : ∃ x, x = w1.setCell ⟨w.heap.size, 4, none⟩ (.slice ya C.dh.length yc) := ⟨_, rfl⟩
  have u2 : Touch (fun k => k = w.heap.size) w1 w2 := by rw [hw2]; exact Touch.setCell (F := fun k => k = w.heap.size) (p := ⟨w.heap.size, 4, none⟩) (Touch.refl _ _) (Or.inl rfl) _
  have A2 : Row w2 w.heap.size 29 [.int .u16 C.P.mtu, .int .u8 C.P.dopts, .int .u8 C.P.dflags, .int .u32 C.P.dseq, .slice ya C.dh.length yc] := by rw [hw2]; exact A1.set 4 _
  have B2 := B1.touch u2 (by show ¬ (_ = _); omega)
  have OW : Hid (w1.ownsRow w0.heap.size 93 8 (.slice ya C.dh.length yc) C.dh.length (headsC C.dh)) := b1.own
  have T2 : Hid (Touch (fun _ => False) w w2) := (TA.out.trans b1.t).trans' u2 (fun i hi e => by omega)
  clear b1 A0 B0 A1 B1 y0 HC
  go_upto_region 2 with fail
  rw [← hw2]
  clear hw2 zc zf
  have R2 := A2.range
  go_wp2_with (first | refine wpList_load_mid rfl 29 (.tmp 1) rfl w.heap.size 0 rfl [.int .u16 C.P.mtu, .int .u8 C.P.dopts, .int .u8 C.P.dflags, .int .u32 C.P.dseq, .slice ya C.dh.length yc] _ R2 Tryz.underlying29 rfl (by kernel_rfl) ?_ | refine wpList_store_row rfl 29 (.tmp 2) (.tmp 7) rfl (w.heap.size + 1) #[.int .u16 C.P.mtu, .int .u8 C.P.dopts, .int .u8 C.P.dflags, .int .u32 C.P.dseq, .slice ya C.dh.length yc] rfl rfl 29 _ B2 (by kernel_rfl) rfl (by simp [Value.oneCell']) ?_)
  have u3 : Touch (fun k => k = w.heap.size + 1) w2 (w2.setRow (w.heap.size + 1) #[.int .u16 C.P.mtu, .int .u8 C.P.dopts, .int .u8 C.P.dflags, .int .u32 C.P.dseq, .slice ya C.dh.length yc]) := Touch.setRow (F := fun k => k = w.heap.size + 1) (Touch.refl _ _) (Or.inl rfl) _
  refine bodyPost_ret (v := .agg #[.int .u16 C.P.mtu, .int .u8 C.P.dopts, .int .u8 C.P.dflags, .int .u32 C.P.dseq, .slice ya C.dh.length yc]) ?hr rfl ?_
  case hr => exact results_cell_row rfl _ _ (w.heap.size + 1) 29 #[.int .u16 C.P.mtu, .int .u8 C.P.dopts, .int .u8 C.P.dflags, .int .u32 C.P.dseq, .slice ya C.dh.length yc] (0, 0) _ (by rfl) (B2.setRow _) Tryz.underlying29 rfl (by kernel_rfl)
  exact ⟨ya, yc, rfl, own_lower (own_touch (own_touch OW.out u2 (fun k hk e => by have := (OW.out.lt k hk).1; omega)) u3 (fun k hk e => by have := (OW.out.lt k hk).1; omega)) (by omega), T2.out.trans' u3 (fun i hi e => by omega)⟩
/-- Lengths that a copy bears. -/
structure PkC.Ln (C : PkC) : Prop where
  n : C.nb.length ≤ 1000000
  d : C.dh.length ≤ 1000000
  k : C.ks.length ≤ 1000000
  h : C.hs.length ≤ 1000000
set_option maxHeartbeats 4000000 in
theorem cpacket (C : PkC) (lt : C.Lt) (ln : C.Ln) (vn vd vk vs vh : Value) (w : World) (hp : PkAt w C vn vd vk vs vh) :
    Calls Tryz.prog 12 #[C.P.v vn vd vk vs vh] w fun e w' => ∃ un ud uk us uh, e = .returned (C.P.v un ud uk us uh) ∧ POwn w.heap.size w' C un ud uk us uh ∧ Touch (fun _ => False) w w' := by
  obtain ⟨na, nc, da, dc, ka, kc, sa, sc, ha, hc, rfl, rfl, rfl, rfl, rfl⟩ := hp.forms
  obtain ⟨w0, hw0⟩ : ∃ w0, w0 = (w.alloc (.cells #[.int .u8 C.P.typ, .int .u32 C.P.router, .int .u32 C.P.area, .int .u32 C.P.mask, .int .u16 C.P.iv, .int .u8 C.P.opts, .int .u8 C.P.prio, .int .u32 C.P.dead, .int .u32 C.P.dr, .int .u32 C.P.bdr, .slice na C.nb.length nc, .int .u16 C.P.mtu, .int .u8 C.P.dopts, .int .u8 C.P.dflags, .int .u32 C.P.dseq, .slice da C.dh.length dc, .slice ka C.ks.length kc, .slice sa C.ss.length sc, .slice ha C.hs.length hc] 33)).alloc (.cells #[.int .u8 0, .int .u32 0, .int .u32 0, .int .u32 0, .int .u16 0, .int .u8 0, .int .u8 0, .int .u32 0, .int .u32 0, .int .u32 0, .slice none 0 0, .int .u16 0, .int .u8 0, .int .u8 0, .int .u32 0, .slice none 0 0, .slice none 0 0, .slice none 0 0, .slice none 0 0] 33) := ⟨_, rfl⟩
  have ta : Touch (fun _ => False) w w0 := by rw [hw0]; exact ((Touch.refl _ w).alloc _).alloc _
  have A0 : Row w0 w.heap.size 33 [.int .u8 C.P.typ, .int .u32 C.P.router, .int .u32 C.P.area, .int .u32 C.P.mask, .int .u16 C.P.iv, .int .u8 C.P.opts, .int .u8 C.P.prio, .int .u32 C.P.dead, .int .u32 C.P.dr, .int .u32 C.P.bdr, .slice na C.nb.length nc, .int .u16 C.P.mtu, .int .u8 C.P.dopts, .int .u8 C.P.dflags, .int .u32 C.P.dseq, .slice da C.dh.length dc, .slice ka C.ks.length kc, .slice sa C.ss.length sc, .slice ha C.hs.length hc] := by rw [hw0]; exact (row_new w 33 #[.int .u8 C.P.typ, .int .u32 C.P.router, .int .u32 C.P.area, .int .u32 C.P.mask, .int .u16 C.P.iv, .int .u8 C.P.opts, .int .u8 C.P.prio, .int .u32 C.P.dead, .int .u32 C.P.dr, .int .u32 C.P.bdr, .slice na C.nb.length nc, .int .u16 C.P.mtu, .int .u8 C.P.dopts, .int .u8 C.P.dflags, .int .u32 C.P.dseq, .slice da C.dh.length dc, .slice ka C.ks.length kc, .slice sa C.ss.length sc, .slice ha C.hs.length hc]).keep ((Touch.refl _ _).alloc _)
  have B0 : Row w0 (w.heap.size + 1) 33 [.int .u8 0, .int .u32 0, .int .u32 0, .int .u32 0, .int .u16 0, .int .u8 0, .int .u8 0, .int .u32 0, .int .u32 0, .int .u32 0, .slice none 0 0, .int .u16 0, .int .u8 0, .int .u8 0, .int .u32 0, .slice none 0 0, .slice none 0 0, .slice none 0 0, .slice none 0 0] := by
    have := row_new (w.alloc (.cells #[.int .u8 C.P.typ, .int .u32 C.P.router, .int .u32 C.P.area, .int .u32 C.P.mask, .int .u16 C.P.iv, .int .u8 C.P.opts, .int .u8 C.P.prio, .int .u32 C.P.dead, .int .u32 C.P.dr, .int .u32 C.P.bdr, .slice na C.nb.length nc, .int .u16 C.P.mtu, .int .u8 C.P.dopts, .int .u8 C.P.dflags, .int .u32 C.P.dseq, .slice da C.dh.length dc, .slice ka C.ks.length kc, .slice sa C.ss.length sc, .slice ha C.hs.length hc] 33)) 33 #[.int .u8 0, .int .u32 0, .int .u32 0, .int .u32 0, .int .u16 0, .int .u8 0, .int .u8 0, .int .u32 0, .int .u32 0, .int .u32 0, .slice none 0 0, .int .u16 0, .int .u8 0, .int .u8 0, .int .u32 0, .slice none 0 0, .slice none 0 0, .slice none 0 0, .slice none 0 0]
    rw [← hw0] at this
    simpa using this
  have HS0 : Hid (w.heap.size + 2 ≤ w0.heap.size) := by show _ ≤ _; rw [hw0]; simp
  have T0 : Hid (Touch (fun _ => False) w w0) := ta
  have HP : Hid (PkAt w C (.slice na C.nb.length nc) (.slice da C.dh.length dc) (.slice ka C.ks.length kc) (.slice sa C.ss.length sc) (.slice ha C.hs.length hc)) := hp
  have LT : Hid C.Lt := lt
  have HL : Hid (C.nb.length ≤ 1000000 ∧ C.dh.length ≤ 1000000 ∧ C.ks.length ≤ 1000000 ∧ C.hs.length ≤ 1000000) := ⟨ln.n, ln.d, ln.k, ln.h⟩
  clear ta hp lt ln
  show Calls Tryz.prog 12 #[.agg #[.int .u8 C.P.typ, .int .u32 C.P.router, .int .u32 C.P.area, .int .u32 C.P.mask, .int .u16 C.P.iv, .int .u8 C.P.opts, .int .u8 C.P.prio, .int .u32 C.P.dead, .int .u32 C.P.dr, .int .u32 C.P.bdr, .slice na C.nb.length nc, .int .u16 C.P.mtu, .int .u8 C.P.dopts, .int .u8 C.P.dflags, .int .u32 C.P.dseq, .slice da C.dh.length dc, .slice ka C.ks.length kc, .slice sa C.ss.length sc, .slice ha C.hs.length hc]] w _
  go_enter Tryz.func12, Tryz.ntmps12
  go_upto_region 1 with fail
  rw [← hw0]
  clear hw0
  have ng21 : ¬ w.heap.size + 1 = w.heap.size := by omega
  generalize hg2 : w.heap.size + 1 = g2 at *
  generalize hg1 : w.heap.size = g1 at *
  have HZ : Hid (w.heap.size = g1 ∧ g1 + 1 = g2) := ⟨hg1, hg2⟩
  clear hg1 hg2
  have y3 : w0.cell? ⟨g1, 3, none⟩ = some (.int .u32 C.P.mask) := A0.cell 3
  have y4 : w0.cell? ⟨g1, 4, none⟩ = some (.int .u16 C.P.iv) := A0.cell 4
  have y5 : w0.cell? ⟨g1, 5, none⟩ = some (.int .u8 C.P.opts) := A0.cell 5
  have y6 : w0.cell? ⟨g1, 6, none⟩ = some (.int .u8 C.P.prio) := A0.cell 6
  have y7 : w0.cell? ⟨g1, 7, none⟩ = some (.int .u32 C.P.dead) := A0.cell 7
  have y8 : w0.cell? ⟨g1, 8, none⟩ = some (.int .u32 C.P.dr) := A0.cell 8
  have y9 : w0.cell? ⟨g1, 9, none⟩ = some (.int .u32 C.P.bdr) := A0.cell 9
  have y10 : w0.cell? ⟨g1, 10, none⟩ = some (.slice na C.nb.length nc) := A0.cell 10
  go_wp2_with fail
  refine Calls.mono (chelloP C na nc w0 (ValsAt.keep HP.out.n T0.out) HL.out.1) ?_
  rintro e wk ⟨nb, nd, rfl, bk⟩
  have tk := bk.t
  have A0x := A0.keep tk
  have B0x := B0.keep tk
  clear y3 y4 y5 y6 y7 y8 y9 y10
  have zc0 : wk.cell? ⟨g1, 3, none⟩ = some (.int .u32 C.P.mask) := A0x.cell 3
  have zf0 : wk.frozen? ⟨g1, 3, none⟩ = false := A0x.frozen 3
  have zc1 : wk.cell? ⟨g1, 4, none⟩ = some (.int .u16 C.P.iv) := A0x.cell 4
  have zf1 : wk.frozen? ⟨g1, 4, none⟩ = false := A0x.frozen 4
  have zc2 : wk.cell? ⟨g1, 5, none⟩ = some (.int .u8 C.P.opts) := A0x.cell 5
  have zf2 : wk.frozen? ⟨g1, 5, none⟩ = false := A0x.frozen 5
  have zc3 : wk.cell? ⟨g1, 6, none⟩ = some (.int .u8 C.P.prio) := A0x.cell 6
  have zf3 : wk.frozen? ⟨g1, 6, none⟩ = false := A0x.frozen 6
  have zc4 : wk.cell? ⟨g1, 7, none⟩ = some (.int .u32 C.P.dead) := A0x.cell 7
  have zf4 : wk.frozen? ⟨g1, 7, none⟩ = false := A0x.frozen 7
  have zc5 : wk.cell? ⟨g1, 8, none⟩ = some (.int .u32 C.P.dr) := A0x.cell 8
  have zf5 : wk.frozen? ⟨g1, 8, none⟩ = false := A0x.frozen 8
  have zc6 : wk.cell? ⟨g1, 9, none⟩ = some (.int .u32 C.P.bdr) := A0x.cell 9
  have zf6 : wk.frozen? ⟨g1, 9, none⟩ = false := A0x.frozen 9
  have zc7 : wk.cell? ⟨g1, 10, none⟩ = some (.slice na C.nb.length nc) := A0x.cell 10
  have zf7 : wk.frozen? ⟨g1, 10, none⟩ = false := A0x.frozen 10
  obtain ⟨w1, hw1⟩ : ∃ x, x = ((((((((wk.setCell ⟨g1, 3, none⟩ (.int .u32 C.P.mask)).setCell ⟨g1, 4, none⟩ (.int .u16 C.P.iv)).setCell ⟨g1, 5, none⟩ (.int .u8 C.P.opts)).setCell ⟨g1, 6, none⟩ (.int .u8 C.P.prio)).setCell ⟨g1, 7, none⟩ (.int .u32 C.P.dead)).setCell ⟨g1, 8, none⟩ (.int .u32 C.P.dr)).setCell ⟨g1, 9, none⟩ (.int .u32 C.P.bdr)).setCell ⟨g1, 10, none⟩ (.slice nb C.nb.length nd)) := ⟨_, rfl⟩
  have uk : Touch (fun k => k = g1) wk w1 := by rw [hw1]; refine Touch.setCell (F := fun k => k = g1) (p := ⟨g1, 10, none⟩) ?_ (Or.inl rfl) _; refine Touch.setCell (F := fun k => k = g1) (p := ⟨g1, 9, none⟩) ?_ (Or.inl rfl) _; refine Touch.setCell (F := fun k => k = g1) (p := ⟨g1, 8, none⟩) ?_ (Or.inl rfl) _; refine Touch.setCell (F := fun k => k = g1) (p := ⟨g1, 7, none⟩) ?_ (Or.inl rfl) _; refine Touch.setCell (F := fun k => k = g1) (p := ⟨g1, 6, none⟩) ?_ (Or.inl rfl) _; refine Touch.setCell (F := fun k => k = g1) (p := ⟨g1, 5, none⟩) ?_ (Or.inl rfl) _; refine Touch.setCell (F := fun k => k = g1) (p := ⟨g1, 4, none⟩) ?_ (Or.inl rfl) _; refine Touch.setCell (F := fun k => k = g1) (p := ⟨g1, 3, none⟩) ?_ (Or.inl rfl) _; exact Touch.refl _ _
  have A1 : Row w1 g1 33 [.int .u8 C.P.typ, .int .u32 C.P.router, .int .u32 C.P.area, .int .u32 C.P.mask, .int .u16 C.P.iv, .int .u8 C.P.opts, .int .u8 C.P.prio, .int .u32 C.P.dead, .int .u32 C.P.dr, .int .u32 C.P.bdr, .slice nb C.nb.length nd, .int .u16 C.P.mtu, .int .u8 C.P.dopts, .int .u8 C.P.dflags, .int .u32 C.P.dseq, .slice da C.dh.length dc, .slice ka C.ks.length kc, .slice sa C.ss.length sc, .slice ha C.hs.length hc] := by rw [hw1]; exact ((((((((A0x.set 3 _).set 4 _).set 5 _).set 6 _).set 7 _).set 8 _).set 9 _).set 10 _)
  have B1 := B0x.touch uk ng21
  have T1 : Hid (Touch (fun _ => False) w w1) := (T0.out.trans tk).trans' uk (fun i hi e => by have := HZ.out; omega)
  have On1 : Hid (w1.ownsRow (g1 + 2) 22 1 (.slice nb C.nb.length nd) C.nb.length (wordsC C.nb)) := own_touch (own_lower bk.own (by have := HS0.out; omega)) uk (fun k hk e => by have := (bk.own.lt k hk).1; have := HS0.out; omega)
  have HS1 : Hid (g1 + 2 ≤ w1.heap.size) := by have h1 := tk.size; have h2 := uk.size; have h3 := HS0.out; show _ ≤ _; omega
  clear uk tk A0 B0 A0x B0x T0
  go_upto_region 2 with fail
  rw [← hw1]
  clear hw1 zc0 zf0 zc1 zf1 zc2 zf2 zc3 zf3 zc4 zf4 zc5 zf5 zc6 zf6 zc7 zf7
  have y11 : w1.cell? ⟨g1, 11, none⟩ = some (.int .u16 C.P.mtu) := A1.cell 11
  have y12 : w1.cell? ⟨g1, 12, none⟩ = some (.int .u8 C.P.dopts) := A1.cell 12
  have y13 : w1.cell? ⟨g1, 13, none⟩ = some (.int .u8 C.P.dflags) := A1.cell 13
  have y14 : w1.cell? ⟨g1, 14, none⟩ = some (.int .u32 C.P.dseq) := A1.cell 14
  have y15 : w1.cell? ⟨g1, 15, none⟩ = some (.slice da C.dh.length dc) := A1.cell 15
  go_wp2_with fail
  refine Calls.mono (cddP C da dc w1 (ValsAt.keep HP.out.d T1.out) HL.out.2.1) ?_
  rintro e wk ⟨db, dd, rfl, bk⟩
  have tk := bk.t
  have A1x := A1.keep tk
  have B1x := B1.keep tk
  clear y11 y12 y13 y14 y15
  have zc0 : wk.cell? ⟨g1, 11, none⟩ = some (.int .u16 C.P.mtu) := A1x.cell 11
  have zf0 : wk.frozen? ⟨g1, 11, none⟩ = false := A1x.frozen 11
  have zc1 : wk.cell? ⟨g1, 12, none⟩ = some (.int .u8 C.P.dopts) := A1x.cell 12
  have zf1 : wk.frozen? ⟨g1, 12, none⟩ = false := A1x.frozen 12
  have zc2 : wk.cell? ⟨g1, 13, none⟩ = some (.int .u8 C.P.dflags) := A1x.cell 13
  have zf2 : wk.frozen? ⟨g1, 13, none⟩ = false := A1x.frozen 13
  have zc3 : wk.cell? ⟨g1, 14, none⟩ = some (.int .u32 C.P.dseq) := A1x.cell 14
  have zf3 : wk.frozen? ⟨g1, 14, none⟩ = false := A1x.frozen 14
  have zc4 : wk.cell? ⟨g1, 15, none⟩ = some (.slice da C.dh.length dc) := A1x.cell 15
  have zf4 : wk.frozen? ⟨g1, 15, none⟩ = false := A1x.frozen 15
  obtain ⟨w2, hw2⟩ : ∃ x, x = (((((wk.setCell ⟨g1, 11, none⟩ (.int .u16 C.P.mtu)).setCell ⟨g1, 12, none⟩ (.int .u8 C.P.dopts)).setCell ⟨g1, 13, none⟩ (.int .u8 C.P.dflags)).setCell ⟨g1, 14, none⟩ (.int .u32 C.P.dseq)).setCell ⟨g1, 15, none⟩ (.slice db C.dh.length dd)) := ⟨_, rfl⟩
  have uk : Touch (fun k => k = g1) wk w2 := by rw [hw2]; refine Touch.setCell (F := fun k => k = g1) (p := ⟨g1, 15, none⟩) ?_ (Or.inl rfl) _; refine Touch.setCell (F := fun k => k = g1) (p := ⟨g1, 14, none⟩) ?_ (Or.inl rfl) _; refine Touch.setCell (F := fun k => k = g1) (p := ⟨g1, 13, none⟩) ?_ (Or.inl rfl) _; refine Touch.setCell (F := fun k => k = g1) (p := ⟨g1, 12, none⟩) ?_ (Or.inl rfl) _; refine Touch.setCell (F := fun k => k = g1) (p := ⟨g1, 11, none⟩) ?_ (Or.inl rfl) _; exact Touch.refl _ _
  have A2 : Row w2 g1 33 [.int .u8 C.P.typ, .int .u32 C.P.router, .int .u32 C.P.area, .int .u32 C.P.mask, .int .u16 C.P.iv, .int .u8 C.P.opts, .int .u8 C.P.prio, .int .u32 C.P.dead, .int .u32 C.P.dr, .int .u32 C.P.bdr, .slice nb C.nb.length nd, .int .u16 C.P.mtu, .int .u8 C.P.dopts, .int .u8 C.P.dflags, .int .u32 C.P.dseq, .slice db C.dh.length dd, .slice ka C.ks.length kc, .slice sa C.ss.length sc, .slice ha C.hs.length hc] := by rw [hw2]; exact (((((A1x.set 11 _).set 12 _).set 13 _).set 14 _).set 15 _)
  have B2 := B1x.touch uk ng21
  have T2 : Hid (Touch (fun _ => False) w w2) := (T1.out.trans tk).trans' uk (fun i hi e => by have := HZ.out; omega)
  have On2 : Hid (w2.ownsRow (g1 + 2) 22 1 (.slice nb C.nb.length nd) C.nb.length (wordsC C.nb)) := own_touch (own_touch On1.out tk (fun _ _ f => f)) uk (fun k hk e => by have := (On1.out.lt k hk).1; omega)
  have Od2 : Hid (w2.ownsRow (g1 + 2) 93 8 (.slice db C.dh.length dd) C.dh.length (headsC C.dh)) := own_touch (own_lower bk.own (by have := HS1.out; omega)) uk (fun k hk e => by have := (bk.own.lt k hk).1; have := HS1.out; omega)
  have HS2 : Hid (g1 + 2 ≤ w2.heap.size) := by have h1 := tk.size; have h2 := uk.size; have h3 := HS1.out; show _ ≤ _; omega
  clear uk tk A1 B1 A1x B1x T1
  go_upto_region 3 with fail
  rw [← hw2]
  clear hw2 zc0 zf0 zc1 zf1 zc2 zf2 zc3 zf3 zc4 zf4
  have y16 : w2.cell? ⟨g1, 16, none⟩ = some (.slice ka C.ks.length kc) := A2.cell 16
  go_wp2_with fail
  refine Calls.mono (ckeysP (.slice ka C.ks.length kc) C.ks w2 (ValsAt.keep HP.out.k T2.out) HL.out.2.2.1) ?_
  rintro e wk ⟨u, rfl, bk⟩
  obtain ⟨kb, kd, rfl⟩ := bk.form
  have tk := bk.t
  have A2x := A2.keep tk
  have B2x := B2.keep tk
  clear y16
  have zc0 : wk.cell? ⟨g1, 16, none⟩ = some (.slice ka C.ks.length kc) := A2x.cell 16
  have zf0 : wk.frozen? ⟨g1, 16, none⟩ = false := A2x.frozen 16
  obtain ⟨w3, hw3⟩ : ∃ x, x = (wk.setCell ⟨g1, 16, none⟩ (.slice kb C.ks.length kd)) := ⟨_, rfl⟩
  have uk : Touch (fun k => k = g1) wk w3 := by rw [hw3]; refine Touch.setCell (F := fun k => k = g1) (p := ⟨g1, 16, none⟩) ?_ (Or.inl rfl) _; exact Touch.refl _ _
  have A3 : Row w3 g1 33 [.int .u8 C.P.typ, .int .u32 C.P.router, .int .u32 C.P.area, .int .u32 C.P.mask, .int .u16 C.P.iv, .int .u8 C.P.opts, .int .u8 C.P.prio, .int .u32 C.P.dead, .int .u32 C.P.dr, .int .u32 C.P.bdr, .slice nb C.nb.length nd, .int .u16 C.P.mtu, .int .u8 C.P.dopts, .int .u8 C.P.dflags, .int .u32 C.P.dseq, .slice db C.dh.length dd, .slice kb C.ks.length kd, .slice sa C.ss.length sc, .slice ha C.hs.length hc] := by rw [hw3]; exact (A2x.set 16 _)
  have B3 := B2x.touch uk ng21
  have T3 : Hid (Touch (fun _ => False) w w3) := (T2.out.trans tk).trans' uk (fun i hi e => by have := HZ.out; omega)
  have On3 : Hid (w3.ownsRow (g1 + 2) 22 1 (.slice nb C.nb.length nd) C.nb.length (wordsC C.nb)) := own_touch (own_touch On2.out tk (fun _ _ f => f)) uk (fun k hk e => by have := (On2.out.lt k hk).1; omega)
  have Od3 : Hid (w3.ownsRow (g1 + 2) 93 8 (.slice db C.dh.length dd) C.dh.length (headsC C.dh)) := own_touch (own_touch Od2.out tk (fun _ _ f => f)) uk (fun k hk e => by have := (Od2.out.lt k hk).1; omega)
  have Ok3 : Hid (w3.ownsRow (g1 + 2) 148 3 (.slice kb C.ks.length kd) C.ks.length (keysC C.ks)) := own_touch (own_lower bk.own (by have := HS2.out; omega)) uk (fun k hk e => by have := (bk.own.lt k hk).1; have := HS2.out; omega)
  have HS3 : Hid (g1 + 2 ≤ w3.heap.size) := by have h1 := tk.size; have h2 := uk.size; have h3 := HS2.out; show _ ≤ _; omega
  clear uk tk A2 B2 A2x B2x T2
  go_upto_region 4 with fail
  rw [← hw3]
  clear hw3 zc0 zf0
  have y17 : w3.cell? ⟨g1, 17, none⟩ = some (.slice sa C.ss.length sc) := A3.cell 17
  go_wp2_with fail
  obtain ⟨lS, hlS, hsS⟩ := HP.out.s
  refine Calls.mono (cstatesP (.slice sa C.ss.length sc) lS w3 (hsS.keep T3.out) (by have := LT.out.n; rw [← hlS, List.length_map] at this; exact this) (fun x hx => LT.out.b x.p (by rw [← hlS]; exact List.mem_map_of_mem hx))) ?_
  rintro e wk ⟨u, rfl, tk, l, hl1, hl2, hl3⟩
  obtain ⟨sb, sd, ev⟩ : ∃ a c, u = .slice a C.ss.length c := by
    obtain ⟨a, c, e⟩ := own_form hl2
    exact ⟨a, c, by rw [e, ← List.length_map (f := SE.p), hl1, hlS]⟩
  subst ev
  have SS : Hid (∃ l : List SE, l.map SE.p = C.ss ∧ wk.ownsRow w3.heap.size 95 9 (.slice sb C.ss.length sd) l.length (statesC l) ∧ ∀ x ∈ l, wk.ownsRow w3.heap.size 5 1 x.v x.rs.length (bytesOf x.rs)) := ⟨l, by rw [hl1, hlS], hl2, hl3⟩
  clear hl1 hl2 hl3 hsS hlS
  have A3x := A3.keep tk
  have B3x := B3.keep tk
  clear y17
  have zc0 : wk.cell? ⟨g1, 17, none⟩ = some (.slice sa C.ss.length sc) := A3x.cell 17
  have zf0 : wk.frozen? ⟨g1, 17, none⟩ = false := A3x.frozen 17
  obtain ⟨w4, hw4⟩ : ∃ x, x = (wk.setCell ⟨g1, 17, none⟩ (.slice sb C.ss.length sd)) := ⟨_, rfl⟩
  have uk : Touch (fun k => k = g1) wk w4 := by rw [hw4]; refine Touch.setCell (F := fun k => k = g1) (p := ⟨g1, 17, none⟩) ?_ (Or.inl rfl) _; exact Touch.refl _ _
  have A4 : Row w4 g1 33 [.int .u8 C.P.typ, .int .u32 C.P.router, .int .u32 C.P.area, .int .u32 C.P.mask, .int .u16 C.P.iv, .int .u8 C.P.opts, .int .u8 C.P.prio, .int .u32 C.P.dead, .int .u32 C.P.dr, .int .u32 C.P.bdr, .slice nb C.nb.length nd, .int .u16 C.P.mtu, .int .u8 C.P.dopts, .int .u8 C.P.dflags, .int .u32 C.P.dseq, .slice db C.dh.length dd, .slice kb C.ks.length kd, .slice sb C.ss.length sd, .slice ha C.hs.length hc] := by rw [hw4]; exact (A3x.set 17 _)
  have B4 := B3x.touch uk ng21
  have T4 : Hid (Touch (fun _ => False) w w4) := (T3.out.trans tk).trans' uk (fun i hi e => by have := HZ.out; omega)
  have On4 : Hid (w4.ownsRow (g1 + 2) 22 1 (.slice nb C.nb.length nd) C.nb.length (wordsC C.nb)) := own_touch (own_touch On3.out tk (fun _ _ f => f)) uk (fun k hk e => by have := (On3.out.lt k hk).1; omega)
  have Od4 : Hid (w4.ownsRow (g1 + 2) 93 8 (.slice db C.dh.length dd) C.dh.length (headsC C.dh)) := own_touch (own_touch Od3.out tk (fun _ _ f => f)) uk (fun k hk e => by have := (Od3.out.lt k hk).1; omega)
  have Ok4 : Hid (w4.ownsRow (g1 + 2) 148 3 (.slice kb C.ks.length kd) C.ks.length (keysC C.ks)) := own_touch (own_touch Ok3.out tk (fun _ _ f => f)) uk (fun k hk e => by have := (Ok3.out.lt k hk).1; omega)
  have Os4 : Hid (∃ l : List SE, l.map SE.p = C.ss ∧ w4.ownsRow (g1 + 2) 95 9 (.slice sb C.ss.length sd) l.length (statesC l) ∧ ∀ x ∈ l, w4.ownsRow (g1 + 2) 5 1 x.v x.rs.length (bytesOf x.rs)) := by
    obtain ⟨l, h1, h2, h3⟩ := SS.out
    exact ⟨l, h1, own_touch (own_lower h2 (by have := HS3.out; omega)) uk (fun k hk e => by have := (h2.lt k hk).1; have := HS3.out; omega), fun x hx => own_touch (own_lower (h3 x hx) (by have := HS3.out; omega)) uk (fun k hk e => by have := ((h3 x hx).lt k hk).1; have := HS3.out; omega)⟩
  have HS4 : Hid (g1 + 2 ≤ w4.heap.size) := by have h1 := tk.size; have h2 := uk.size; have h3 := HS3.out; show _ ≤ _; omega
  clear uk tk A3 B3 A3x B3x T3
  go_upto_region 5 with fail
  rw [← hw4]
  clear hw4 zc0 zf0
  have y18 : w4.cell? ⟨g1, 18, none⟩ = some (.slice ha C.hs.length hc) := A4.cell 18
  go_wp2_with fail
  refine Calls.mono (cheadsP (.slice ha C.hs.length hc) C.hs w4 (ValsAt.keep HP.out.h T4.out) HL.out.2.2.2) ?_
  rintro e wk ⟨u, rfl, bk⟩
  obtain ⟨hb, hd, rfl⟩ := bk.form
  have tk := bk.t
  have A4x := A4.keep tk
  have B4x := B4.keep tk
  clear y18
  have zc0 : wk.cell? ⟨g1, 18, none⟩ = some (.slice ha C.hs.length hc) := A4x.cell 18
  have zf0 : wk.frozen? ⟨g1, 18, none⟩ = false := A4x.frozen 18
  obtain ⟨w5, hw5⟩ : ∃ x, x = (wk.setCell ⟨g1, 18, none⟩ (.slice hb C.hs.length hd)) := ⟨_, rfl⟩
  have uk : Touch (fun k => k = g1) wk w5 := by rw [hw5]; refine Touch.setCell (F := fun k => k = g1) (p := ⟨g1, 18, none⟩) ?_ (Or.inl rfl) _; exact Touch.refl _ _
  have A5 : Row w5 g1 33 [.int .u8 C.P.typ, .int .u32 C.P.router, .int .u32 C.P.area, .int .u32 C.P.mask, .int .u16 C.P.iv, .int .u8 C.P.opts, .int .u8 C.P.prio, .int .u32 C.P.dead, .int .u32 C.P.dr, .int .u32 C.P.bdr, .slice nb C.nb.length nd, .int .u16 C.P.mtu, .int .u8 C.P.dopts, .int .u8 C.P.dflags, .int .u32 C.P.dseq, .slice db C.dh.length dd, .slice kb C.ks.length kd, .slice sb C.ss.length sd, .slice hb C.hs.length hd] := by rw [hw5]; exact (A4x.set 18 _)
  have B5 := B4x.touch uk ng21
  have T5 : Hid (Touch (fun _ => False) w w5) := (T4.out.trans tk).trans' uk (fun i hi e => by have := HZ.out; omega)
  have On5 : Hid (w5.ownsRow (g1 + 2) 22 1 (.slice nb C.nb.length nd) C.nb.length (wordsC C.nb)) := own_touch (own_touch On4.out tk (fun _ _ f => f)) uk (fun k hk e => by have := (On4.out.lt k hk).1; omega)
  have Od5 : Hid (w5.ownsRow (g1 + 2) 93 8 (.slice db C.dh.length dd) C.dh.length (headsC C.dh)) := own_touch (own_touch Od4.out tk (fun _ _ f => f)) uk (fun k hk e => by have := (Od4.out.lt k hk).1; omega)
  have Ok5 : Hid (w5.ownsRow (g1 + 2) 148 3 (.slice kb C.ks.length kd) C.ks.length (keysC C.ks)) := own_touch (own_touch Ok4.out tk (fun _ _ f => f)) uk (fun k hk e => by have := (Ok4.out.lt k hk).1; omega)
  have Os5 : Hid (∃ l : List SE, l.map SE.p = C.ss ∧ w5.ownsRow (g1 + 2) 95 9 (.slice sb C.ss.length sd) l.length (statesC l) ∧ ∀ x ∈ l, w5.ownsRow (g1 + 2) 5 1 x.v x.rs.length (bytesOf x.rs)) := by
    obtain ⟨l, h1, h2, h3⟩ := Os4.out
    exact ⟨l, h1, own_touch (own_touch h2 tk (fun _ _ f => f)) uk (fun k hk e => by have := (h2.lt k hk).1; omega), fun x hx => own_touch (own_touch (h3 x hx) tk (fun _ _ f => f)) uk (fun k hk e => by have := ((h3 x hx).lt k hk).1; omega)⟩
  have Oh5 : Hid (w5.ownsRow (g1 + 2) 93 8 (.slice hb C.hs.length hd) C.hs.length (headsC C.hs)) := own_touch (own_lower bk.own (by have := HS4.out; omega)) uk (fun k hk e => by have := (bk.own.lt k hk).1; have := HS4.out; omega)
  have HS5 : Hid (g1 + 2 ≤ w5.heap.size) := by have h1 := tk.size; have h2 := uk.size; have h3 := HS4.out; show _ ≤ _; omega
  clear uk tk A4 B4 A4x B4x T4
  go_upto_region 6 with fail
  rw [← hw5]
  clear hw5 zc0 zf0
  have R5 := A5.range
  go_wp2_with (first | refine wpList_load_mid rfl 33 (.tmp 1) rfl g1 0 rfl [.int .u8 C.P.typ, .int .u32 C.P.router, .int .u32 C.P.area, .int .u32 C.P.mask, .int .u16 C.P.iv, .int .u8 C.P.opts, .int .u8 C.P.prio, .int .u32 C.P.dead, .int .u32 C.P.dr, .int .u32 C.P.bdr, .slice nb C.nb.length nd, .int .u16 C.P.mtu, .int .u8 C.P.dopts, .int .u8 C.P.dflags, .int .u32 C.P.dseq, .slice db C.dh.length dd, .slice kb C.ks.length kd, .slice sb C.ss.length sd, .slice hb C.hs.length hd] _ R5 Tryz.underlying33 rfl (by kernel_rfl) ?_ | refine wpList_store_row rfl 33 (.tmp 2) (.tmp 23) rfl g2 #[.int .u8 C.P.typ, .int .u32 C.P.router, .int .u32 C.P.area, .int .u32 C.P.mask, .int .u16 C.P.iv, .int .u8 C.P.opts, .int .u8 C.P.prio, .int .u32 C.P.dead, .int .u32 C.P.dr, .int .u32 C.P.bdr, .slice nb C.nb.length nd, .int .u16 C.P.mtu, .int .u8 C.P.dopts, .int .u8 C.P.dflags, .int .u32 C.P.dseq, .slice db C.dh.length dd, .slice kb C.ks.length kd, .slice sb C.ss.length sd, .slice hb C.hs.length hd] rfl rfl 33 _ B5 (by kernel_rfl) rfl (by simp [Value.oneCell']) ?_)
  have u3 : Touch (fun k => k = g2) w5 (w5.setRow g2 #[.int .u8 C.P.typ, .int .u32 C.P.router, .int .u32 C.P.area, .int .u32 C.P.mask, .int .u16 C.P.iv, .int .u8 C.P.opts, .int .u8 C.P.prio, .int .u32 C.P.dead, .int .u32 C.P.dr, .int .u32 C.P.bdr, .slice nb C.nb.length nd, .int .u16 C.P.mtu, .int .u8 C.P.dopts, .int .u8 C.P.dflags, .int .u32 C.P.dseq, .slice db C.dh.length dd, .slice kb C.ks.length kd, .slice sb C.ss.length sd, .slice hb C.hs.length hd]) := Touch.setRow (F := fun k => k = g2) (Touch.refl _ _) (Or.inl rfl) _
  refine bodyPost_ret (v := .agg #[.int .u8 C.P.typ, .int .u32 C.P.router, .int .u32 C.P.area, .int .u32 C.P.mask, .int .u16 C.P.iv, .int .u8 C.P.opts, .int .u8 C.P.prio, .int .u32 C.P.dead, .int .u32 C.P.dr, .int .u32 C.P.bdr, .slice nb C.nb.length nd, .int .u16 C.P.mtu, .int .u8 C.P.dopts, .int .u8 C.P.dflags, .int .u32 C.P.dseq, .slice db C.dh.length dd, .slice kb C.ks.length kd, .slice sb C.ss.length sd, .slice hb C.hs.length hd]) ?hr rfl ?_
  case hr => exact results_cell_row rfl _ _ g2 33 #[.int .u8 C.P.typ, .int .u32 C.P.router, .int .u32 C.P.area, .int .u32 C.P.mask, .int .u16 C.P.iv, .int .u8 C.P.opts, .int .u8 C.P.prio, .int .u32 C.P.dead, .int .u32 C.P.dr, .int .u32 C.P.bdr, .slice nb C.nb.length nd, .int .u16 C.P.mtu, .int .u8 C.P.dopts, .int .u8 C.P.dflags, .int .u32 C.P.dseq, .slice db C.dh.length dd, .slice kb C.ks.length kd, .slice sb C.ss.length sd, .slice hb C.hs.length hd] (0, 0) _ (by rfl) (B5.setRow _) Tryz.underlying33 rfl (by kernel_rfl)
  have ow : ∀ {e k n : Nat} {v : Value} {xs : List Value}, w5.ownsRow (g1 + 2) e k v n xs → (w5.setRow g2 #[.int .u8 C.P.typ, .int .u32 C.P.router, .int .u32 C.P.area, .int .u32 C.P.mask, .int .u16 C.P.iv, .int .u8 C.P.opts, .int .u8 C.P.prio, .int .u32 C.P.dead, .int .u32 C.P.dr, .int .u32 C.P.bdr, .slice nb C.nb.length nd, .int .u16 C.P.mtu, .int .u8 C.P.dopts, .int .u8 C.P.dflags, .int .u32 C.P.dseq, .slice db C.dh.length dd, .slice kb C.ks.length kd, .slice sb C.ss.length sd, .slice hb C.hs.length hd]).ownsRow w.heap.size e k v n xs := fun h => own_lower (own_touch h u3 (fun k hk e => by have := (h.lt k hk).1; have := HZ.out; omega)) (by have := HZ.out; omega)
  obtain ⟨l, h1, h2, h3⟩ := Os5.out
  exact ⟨_, _, _, _, _, rfl, ⟨ow On5.out, ow Od5.out, ow Ok5.out, ⟨l, h1, ow h2, fun x hx => ow (h3 x hx)⟩, ow Oh5.out⟩, T5.out.trans' u3 (fun i hi e => by have := HZ.out; omega)⟩
theorem POwn.at_ {base : Nat} {w : World} {C : PkC} {vn vd vk vs vh : Value} (h : POwn base w C vn vd vk vs vh) (ok : C.Ok) : PkAt w C vn vd vk vs vh := by
  obtain ⟨l, h1, h2, h3⟩ := h.s
  refine ⟨own_vals h.n, own_vals h.d, own_vals h.k, ⟨l, h1, own_vals h2, fun x hx => ?_⟩, own_vals h.h⟩
  have hm : x.p ∈ C.ss := by rw [← h1]; exact List.mem_map_of_mem hx
  exact ⟨ok.sh x.p hm, (own_rowAt (h3 x hx)).arg, ok.sb x.p hm⟩
end Go.Proofs.YtjjgbcjgmjggnaaGreat
