/- Packets that are the same. -/
import Derived.Test.YtbfplepmgbkajaaGreatDoorPkCpP
import Derived.Deep.RegionHeld3
import Derived.Deep.DeepCutAuto
namespace Go.Proofs.YtbfplepmgbkajaaGreatDoor
open Go.RowKit
set_option linter.unusedVariables false
set_option maxRecDepth 100000

structure EsR (n : Nat) (w : World) (gg : Nat) (s5 : Value) (wr : World) : Prop where
 out : ∃ j : Nat, j ≤ n ∧ gg = n - j ∧ s5 = .int .i64 (j : Int) ∧ Touch (fun _ => False) w wr
set_option maxHeartbeats 2000000 in
theorem estatesP (va vb : Value) (la lb : List SE) (w : World) (ha : ValsAt w 9 va la.length (statesC la)) (hr : ∀ x ∈ la, RowAt w x.v x.rs) (hb : StatesAt w vb lb) (he : la.map SE.p = lb.map SE.p) :
  Calls Tryz.prog 45 #[va, vb] w fun e w' => e = .returned (.bool true) ∧ Touch (fun _ => False) w w' := by
 have hlen : la.length = lb.length := by have := congrArg List.length he; simpa using this
 obtain ⟨aa, ca, rfl, hm⟩ := ValsAt.form ha
 obtain ⟨ab, cb, rfl, _⟩ := ValsAt.form hb.vals
 unfold maxLen at hm
 rw [← hlen]
 have HA : Hid (∀ w', Touch (fun _ => False) w w' → ValsAt w' 9 (.slice aa la.length ca) la.length (statesC la)) := fun w' t => ha.keep t
 have HB : Hid (∀ w', Touch (fun _ => False) w w' → StatesAt w' (.slice ab la.length cb) lb) := fun w' t => by have := hb.keep t; rwa [← hlen] at this
 have HR : Hid (∀ x ∈ la, ∀ w', Touch (fun _ => False) w w' → RowAt w' x.v x.rs) := fun x hx w' t => (hr x hx).touch t (fun _ _ f => f)
 have HE : Hid (la.map SE.p = lb.map SE.p ∧ la.length = lb.length) := ⟨he, hlen⟩
 have hmx : (la.length : Int) ≤ 9223372036854775807 := by omega
 clear ha hb hr he hlen hm
 generalize hn : la.length = n at *
 have HN : Hid (la.length = n) := hn
 clear hn
 go_enter Tryz.func45, Tryz.ntmps45
 go_wp2_with fail
 go_loopg [5] n (fun gg s5 wr => EsR n w gg s5 wr)
 case atStart => exact ⟨0, by omega, by omega, rfl, Touch.refl _ _⟩
 case round =>
  obtain ⟨j, hj, hgg, rfl, tr⟩ := hrel.out
  have TR : Hid (Touch (fun _ => False) w wr) := tr
  clear tr hrel
  by_cases hlt : j < n
  ·have hlt' : (j : Int) < (n : Int) := by omega
   have hk00 : (0 : Int) ≤ (j : Int) := by omega
   obtain ⟨x, hx⟩ : ∃ x, la[j]? = some x := ⟨la[j]'(by have := HN.out; omega), List.getElem?_eq_getElem _⟩
   obtain ⟨y, hy⟩ : ∃ y, lb[j]? = some y := ⟨lb[j]'(by have := HN.out; have := HE.out.2; omega), List.getElem?_eq_getElem _⟩
   have hxy : x.p = y.p := by
    have h1 : (la.map SE.p)[j]? = some x.p := by rw [List.getElem?_map, hx]; rfl
    have h2 : (lb.map SE.p)[j]? = some y.p := by rw [List.getElem?_map, hy]; rfl
    rw [HE.out.1, h2] at h1
    exact (Option.some.inj h1).symm
   have hh : x.h = y.h := congrArg Prod.fst hxy
   have hrs : x.rs = y.rs := congrArg Prod.snd hxy
   have RX := HR.out x (List.mem_of_getElem? hx) wr TR.out
   obtain ⟨gA, oA, cA, eA, _, _, hcA⟩ := (HA.out wr TR.out).cells (by omega) (by omega)
   have hcA' : ∀ i u, x.cells[i]? = some u → wr.cell? ⟨gA, oA + (j * 9 + i), none⟩ = some u := fun i u hu => hcA _ _ (by rw [statesC_at la j i x hx (List.getElem?_eq_some_iff.mp hu).1]; exact hu)
   obtain ⟨oy, gB, oB, cB, eB, hcB⟩ := StatesAt.one (HB.out wr TR.out) hy
   obtain ⟨xa, xc, ex, -⟩ := rowAt_form RX
   obtain ⟨ya, yc, ey, -⟩ := oy.arg.form
   cases eA
   have eB' := eB
   simp only [Value.slice.injEq] at eB'
   obtain ⟨rfl, -, rfl⟩ := eB'
   have HQ : Hid (Calls Tryz.prog 106 #[.agg #[.int .u16 x.h.age, .int .u8 x.h.opts, .int .u8 x.h.typ, .int .u32 x.h.id, .int .u32 x.h.adv, .int .i32 x.h.seq, .int .u16 x.h.sum, .int .u16 x.h.len, .slice xa x.rs.length xc], .agg #[.int .u16 y.h.age, .int .u8 y.h.opts, .int .u8 y.h.typ, .int .u32 y.h.id, .int .u32 y.h.adv, .int .i32 y.h.seq, .int .u16 y.h.sum, .int .u16 y.h.len, .slice ya y.rs.length yc]] wr.drew fun e w' => e = .returned (.bool true) ∧ Touch (fun _ => False) wr.drew w') := by
    have := estate_true x.h (.slice xa x.rs.length xc) (.slice ya y.rs.length yc) x.rs wr.drew (by rw [← ex]; exact RX.touch ((Touch.refl (fun _ => False) _).drew) (fun _ _ f => f)) (by rw [← ey, hrs]; exact oy.arg.keepN ((Touch.refl _ _).drew))
    rw [hh] at this ⊢
    exact this
   have x0 : wr.cell? ⟨gA, oA + j * 9, none⟩ = some (.int .u16 x.h.age) := by exact hcA' 0 _ rfl
   have qx0 := onl_cell (F := fun _ => False) x0 (fun f => f)
   have x1 : wr.cell? ⟨gA, oA + j * 9 + 1, none⟩ = some (.int .u8 x.h.opts) := by rw [Nat.add_assoc]; exact hcA' 1 _ rfl
   have qx1 := onl_cell (F := fun _ => False) x1 (fun f => f)
   have x2 : wr.cell? ⟨gA, oA + j * 9 + 2, none⟩ = some (.int .u8 x.h.typ) := by rw [Nat.add_assoc]; exact hcA' 2 _ rfl
   have qx2 := onl_cell (F := fun _ => False) x2 (fun f => f)
   have x3 : wr.cell? ⟨gA, oA + j * 9 + 3, none⟩ = some (.int .u32 x.h.id) := by rw [Nat.add_assoc]; exact hcA' 3 _ rfl
   have qx3 := onl_cell (F := fun _ => False) x3 (fun f => f)
   have x4 : wr.cell? ⟨gA, oA + j * 9 + 4, none⟩ = some (.int .u32 x.h.adv) := by rw [Nat.add_assoc]; exact hcA' 4 _ rfl
   have qx4 := onl_cell (F := fun _ => False) x4 (fun f => f)
   have x5 : wr.cell? ⟨gA, oA + j * 9 + 5, none⟩ = some (.int .i32 x.h.seq) := by rw [Nat.add_assoc]; exact hcA' 5 _ rfl
   have qx5 := onl_cell (F := fun _ => False) x5 (fun f => f)
   have x6 : wr.cell? ⟨gA, oA + j * 9 + 6, none⟩ = some (.int .u16 x.h.sum) := by rw [Nat.add_assoc]; exact hcA' 6 _ rfl
   have qx6 := onl_cell (F := fun _ => False) x6 (fun f => f)
   have x7 : wr.cell? ⟨gA, oA + j * 9 + 7, none⟩ = some (.int .u16 x.h.len) := by rw [Nat.add_assoc]; exact hcA' 7 _ rfl
   have qx7 := onl_cell (F := fun _ => False) x7 (fun f => f)
   have x8 : wr.cell? ⟨gA, oA + j * 9 + 8, none⟩ = some (.slice xa x.rs.length xc) := by rw [← ex]; rw [Nat.add_assoc]; exact hcA' 8 _ rfl
   have qx8 := onl_cell (F := fun _ => False) x8 (fun f => f)
   have y0 : wr.cell? ⟨gB, oB + j * 9, none⟩ = some (.int .u16 y.h.age) := by exact hcB 0 _ rfl
   have qy0 := onl_cell (F := fun _ => False) y0 (fun f => f)
   have y1 : wr.cell? ⟨gB, oB + j * 9 + 1, none⟩ = some (.int .u8 y.h.opts) := by rw [Nat.add_assoc]; exact hcB 1 _ rfl
   have qy1 := onl_cell (F := fun _ => False) y1 (fun f => f)
   have y2 : wr.cell? ⟨gB, oB + j * 9 + 2, none⟩ = some (.int .u8 y.h.typ) := by rw [Nat.add_assoc]; exact hcB 2 _ rfl
   have qy2 := onl_cell (F := fun _ => False) y2 (fun f => f)
   have y3 : wr.cell? ⟨gB, oB + j * 9 + 3, none⟩ = some (.int .u32 y.h.id) := by rw [Nat.add_assoc]; exact hcB 3 _ rfl
   have qy3 := onl_cell (F := fun _ => False) y3 (fun f => f)
   have y4 : wr.cell? ⟨gB, oB + j * 9 + 4, none⟩ = some (.int .u32 y.h.adv) := by rw [Nat.add_assoc]; exact hcB 4 _ rfl
   have qy4 := onl_cell (F := fun _ => False) y4 (fun f => f)
   have y5 : wr.cell? ⟨gB, oB + j * 9 + 5, none⟩ = some (.int .i32 y.h.seq) := by rw [Nat.add_assoc]; exact hcB 5 _ rfl
   have qy5 := onl_cell (F := fun _ => False) y5 (fun f => f)
   have y6 : wr.cell? ⟨gB, oB + j * 9 + 6, none⟩ = some (.int .u16 y.h.sum) := by rw [Nat.add_assoc]; exact hcB 6 _ rfl
   have qy6 := onl_cell (F := fun _ => False) y6 (fun f => f)
   have y7 : wr.cell? ⟨gB, oB + j * 9 + 7, none⟩ = some (.int .u16 y.h.len) := by rw [Nat.add_assoc]; exact hcB 7 _ rfl
   have qy7 := onl_cell (F := fun _ => False) y7 (fun f => f)
   have y8 : wr.cell? ⟨gB, oB + j * 9 + 8, none⟩ = some (.slice ya y.rs.length yc) := by rw [← ey]; rw [Nat.add_assoc]; exact hcB 8 _ rfl
   have qy8 := onl_cell (F := fun _ => False) y8 (fun f => f)
   have hkw : wrap64 ((j : Int) + 1) = (j : Int) + 1 := by unfold wrap64; omega
   have st : Onl (fun _ => False) wr wr.drew := ⟨(Touch.refl _ _).drew⟩
   clear hcA hcA' hcB hx hy hxy hh hrs RX oy ex ey eB HA HB HR HE
   go_upto_region 6 with fail
   go_region_held3 (fun w' => Onl (fun _ => False) wr w') (with_reducible assumption) (first
    | (go_at_call 106; refine Calls.mono HQ.out ?_; rintro e w2 ⟨rfl, t2⟩; have s2 := st.keep t2))
   have T2 : Hid (Touch (fun _ => False) w w2) := TR.out.trans s2.t
   clear s2 t2 st HQ TR x0 qx0 x1 qx1 x2 qx2 x3 qx3 x4 qx4 x5 qx5 x6 qx6 x7 qx7 x8 qx8 y0 qy0 y1 qy1 y2 qy2 y3 qy3 y4 qy4 y5 qy5 y6 qy6 y7 qy7 y8 qy8
   go_wp2_with fail
   go_roundg (n - (j + 1))
   case measure => omega
   case rel => exact ⟨j + 1, by omega, by omega, by go_num, T2.out⟩
  ·obtain rfl : j = n := by omega
   have hlt' : ¬ (j : Int) < (j : Int) := by omega
   go_wp2
   go_ret
   exact ⟨rfl, TR.out⟩
set_option maxHeartbeats 2000000 in
theorem ehelloP (C : PkC) (xa ya : Option Addr) (xc yc : Nat) (w : World) (ha : WordsAt w (.slice xa C.nb.length xc) C.nb) (hb : WordsAt w (.slice ya C.nb.length yc) C.nb) :
  Calls Tryz.prog 42 #[.agg #[.int .u32 C.P.mask, .int .u16 C.P.iv, .int .u8 C.P.opts, .int .u8 C.P.prio, .int .u32 C.P.dead, .int .u32 C.P.dr, .int .u32 C.P.bdr, .slice xa C.nb.length xc], .agg #[.int .u32 C.P.mask, .int .u16 C.P.iv, .int .u8 C.P.opts, .int .u8 C.P.prio, .int .u32 C.P.dead, .int .u32 C.P.dr, .int .u32 C.P.bdr, .slice ya C.nb.length yc]] w fun e w' => e = .returned (.bool true) ∧ Touch (fun _ => False) w w' := by
 obtain ⟨w0, hw0⟩ : ∃ w0, w0 = (w.alloc (.cells #[.int .u32 C.P.mask, .int .u16 C.P.iv, .int .u8 C.P.opts, .int .u8 C.P.prio, .int .u32 C.P.dead, .int .u32 C.P.dr, .int .u32 C.P.bdr, .slice xa C.nb.length xc] 26)).alloc (.cells #[.int .u32 C.P.mask, .int .u16 C.P.iv, .int .u8 C.P.opts, .int .u8 C.P.prio, .int .u32 C.P.dead, .int .u32 C.P.dr, .int .u32 C.P.bdr, .slice ya C.nb.length yc] 26) := ⟨_, rfl⟩
 have ta : Touch (fun _ => False) w w0 := by rw [hw0]; exact ((Touch.refl _ w).alloc _).alloc _
 have A0 : Row w0 w.heap.size 26 [.int .u32 C.P.mask, .int .u16 C.P.iv, .int .u8 C.P.opts, .int .u8 C.P.prio, .int .u32 C.P.dead, .int .u32 C.P.dr, .int .u32 C.P.bdr, .slice xa C.nb.length xc] := by rw [hw0]; exact (row_new w 26 #[.int .u32 C.P.mask, .int .u16 C.P.iv, .int .u8 C.P.opts, .int .u8 C.P.prio, .int .u32 C.P.dead, .int .u32 C.P.dr, .int .u32 C.P.bdr, .slice xa C.nb.length xc]).keep ((Touch.refl _ _).alloc _)
 have B0 : Row w0 (w.heap.size + 1) 26 [.int .u32 C.P.mask, .int .u16 C.P.iv, .int .u8 C.P.opts, .int .u8 C.P.prio, .int .u32 C.P.dead, .int .u32 C.P.dr, .int .u32 C.P.bdr, .slice ya C.nb.length yc] := by
  have := row_new (w.alloc (.cells #[.int .u32 C.P.mask, .int .u16 C.P.iv, .int .u8 C.P.opts, .int .u8 C.P.prio, .int .u32 C.P.dead, .int .u32 C.P.dr, .int .u32 C.P.bdr, .slice xa C.nb.length xc] 26)) 26 #[.int .u32 C.P.mask, .int .u16 C.P.iv, .int .u8 C.P.opts, .int .u8 C.P.prio, .int .u32 C.P.dead, .int .u32 C.P.dr, .int .u32 C.P.bdr, .slice ya C.nb.length yc]
  rw [← hw0] at this
  simpa using this
 have a0 : w0.cell? ⟨w.heap.size, 0, none⟩ = some (.int .u32 C.P.mask) := A0.cell 0
 have b0 : w0.cell? ⟨w.heap.size + 1, 0, none⟩ = some (.int .u32 C.P.mask) := B0.cell 0
 have a1 : w0.cell? ⟨w.heap.size, 1, none⟩ = some (.int .u16 C.P.iv) := A0.cell 1
 have b1 : w0.cell? ⟨w.heap.size + 1, 1, none⟩ = some (.int .u16 C.P.iv) := B0.cell 1
 have a2 : w0.cell? ⟨w.heap.size, 2, none⟩ = some (.int .u8 C.P.opts) := A0.cell 2
 have b2 : w0.cell? ⟨w.heap.size + 1, 2, none⟩ = some (.int .u8 C.P.opts) := B0.cell 2
 have a3 : w0.cell? ⟨w.heap.size, 3, none⟩ = some (.int .u8 C.P.prio) := A0.cell 3
 have b3 : w0.cell? ⟨w.heap.size + 1, 3, none⟩ = some (.int .u8 C.P.prio) := B0.cell 3
 have a4 : w0.cell? ⟨w.heap.size, 4, none⟩ = some (.int .u32 C.P.dead) := A0.cell 4
 have b4 : w0.cell? ⟨w.heap.size + 1, 4, none⟩ = some (.int .u32 C.P.dead) := B0.cell 4
 have a5 : w0.cell? ⟨w.heap.size, 5, none⟩ = some (.int .u32 C.P.dr) := A0.cell 5
 have b5 : w0.cell? ⟨w.heap.size + 1, 5, none⟩ = some (.int .u32 C.P.dr) := B0.cell 5
 have a6 : w0.cell? ⟨w.heap.size, 6, none⟩ = some (.int .u32 C.P.bdr) := A0.cell 6
 have b6 : w0.cell? ⟨w.heap.size + 1, 6, none⟩ = some (.int .u32 C.P.bdr) := B0.cell 6
 have a7 : w0.cell? ⟨w.heap.size, 7, none⟩ = some (.slice xa C.nb.length xc) := A0.cell 7
 have b7 : w0.cell? ⟨w.heap.size + 1, 7, none⟩ = some (.slice ya C.nb.length yc) := B0.cell 7
 have HQ := ewordsP (.slice xa C.nb.length xc) (.slice ya C.nb.length yc) C.nb w0 (ValsAt.keep ha ta) (ValsAt.keep hb ta)
 have TA : Hid (Touch (fun _ => False) w w0) := ta
 clear ta ha hb A0 B0
 go_enter Tryz.func42, Tryz.ntmps42
 go_upto_region 1 with fail
 rw [← hw0]
 clear hw0
 go_wp2_with (go_at_call 105; refine Calls.mono HQ ?_; rintro e w1 ⟨rfl, n1, rfl⟩)
 go_ret
 exact ⟨rfl, TA.out.drewN n1⟩
set_option maxHeartbeats 2000000 in
theorem eddP (C : PkC) (xa ya : Option Addr) (xc yc : Nat) (w : World) (ha : HeadsAt w (.slice xa C.dh.length xc) C.dh) (hb : HeadsAt w (.slice ya C.dh.length yc) C.dh) :
  Calls Tryz.prog 43 #[.agg #[.int .u16 C.P.mtu, .int .u8 C.P.dopts, .int .u8 C.P.dflags, .int .u32 C.P.dseq, .slice xa C.dh.length xc], .agg #[.int .u16 C.P.mtu, .int .u8 C.P.dopts, .int .u8 C.P.dflags, .int .u32 C.P.dseq, .slice ya C.dh.length yc]] w fun e w' => e = .returned (.bool true) ∧ Touch (fun _ => False) w w' := by
 obtain ⟨w0, hw0⟩ : ∃ w0, w0 = (w.alloc (.cells #[.int .u16 C.P.mtu, .int .u8 C.P.dopts, .int .u8 C.P.dflags, .int .u32 C.P.dseq, .slice xa C.dh.length xc] 29)).alloc (.cells #[.int .u16 C.P.mtu, .int .u8 C.P.dopts, .int .u8 C.P.dflags, .int .u32 C.P.dseq, .slice ya C.dh.length yc] 29) := ⟨_, rfl⟩
 have ta : Touch (fun _ => False) w w0 := by rw [hw0]; exact ((Touch.refl _ w).alloc _).alloc _
 have A0 : Row w0 w.heap.size 29 [.int .u16 C.P.mtu, .int .u8 C.P.dopts, .int .u8 C.P.dflags, .int .u32 C.P.dseq, .slice xa C.dh.length xc] := by rw [hw0]; exact (row_new w 29 #[.int .u16 C.P.mtu, .int .u8 C.P.dopts, .int .u8 C.P.dflags, .int .u32 C.P.dseq, .slice xa C.dh.length xc]).keep ((Touch.refl _ _).alloc _)
 have B0 : Row w0 (w.heap.size + 1) 29 [.int .u16 C.P.mtu, .int .u8 C.P.dopts, .int .u8 C.P.dflags, .int .u32 C.P.dseq, .slice ya C.dh.length yc] := by
  have := row_new (w.alloc (.cells #[.int .u16 C.P.mtu, .int .u8 C.P.dopts, .int .u8 C.P.dflags, .int .u32 C.P.dseq, .slice xa C.dh.length xc] 29)) 29 #[.int .u16 C.P.mtu, .int .u8 C.P.dopts, .int .u8 C.P.dflags, .int .u32 C.P.dseq, .slice ya C.dh.length yc]
  rw [← hw0] at this
  simpa using this
 have a0 : w0.cell? ⟨w.heap.size, 0, none⟩ = some (.int .u16 C.P.mtu) := A0.cell 0
 have b0 : w0.cell? ⟨w.heap.size + 1, 0, none⟩ = some (.int .u16 C.P.mtu) := B0.cell 0
 have a1 : w0.cell? ⟨w.heap.size, 1, none⟩ = some (.int .u8 C.P.dopts) := A0.cell 1
 have b1 : w0.cell? ⟨w.heap.size + 1, 1, none⟩ = some (.int .u8 C.P.dopts) := B0.cell 1
 have a2 : w0.cell? ⟨w.heap.size, 2, none⟩ = some (.int .u8 C.P.dflags) := A0.cell 2
 have b2 : w0.cell? ⟨w.heap.size + 1, 2, none⟩ = some (.int .u8 C.P.dflags) := B0.cell 2
 have a3 : w0.cell? ⟨w.heap.size, 3, none⟩ = some (.int .u32 C.P.dseq) := A0.cell 3
 have b3 : w0.cell? ⟨w.heap.size + 1, 3, none⟩ = some (.int .u32 C.P.dseq) := B0.cell 3
 have a4 : w0.cell? ⟨w.heap.size, 4, none⟩ = some (.slice xa C.dh.length xc) := A0.cell 4
 have b4 : w0.cell? ⟨w.heap.size + 1, 4, none⟩ = some (.slice ya C.dh.length yc) := B0.cell 4
 have HQ := eheadsP (.slice xa C.dh.length xc) (.slice ya C.dh.length yc) C.dh w0 (ValsAt.keep ha ta) (ValsAt.keep hb ta)
 have TA : Hid (Touch (fun _ => False) w w0) := ta
 clear ta ha hb A0 B0
 go_enter Tryz.func43, Tryz.ntmps43
 go_upto_region 1 with fail
 rw [← hw0]
 clear hw0
 go_wp2_with (go_at_call 46; refine Calls.mono HQ ?_; rintro e w1 ⟨rfl, n1, rfl⟩)
 go_ret
 exact ⟨rfl, TA.out.drewN n1⟩
/-- A packet whose rows are whole: the first of two that are compared. -/
structure PkRw (w : World) (C : PkC) (vn vd vk vs vh : Value) : Prop where
 n : WordsAt w vn C.nb
 d : HeadsAt w vd C.dh
 k : KeysAt w vk C.ks
 s : ∃ l, l.map SE.p = C.ss ∧ ValsAt w 9 vs l.length (statesC l) ∧ ∀ x ∈ l, RowAt w x.v x.rs
 h : HeadsAt w vh C.hs
theorem PkRw.keep {w w' : World} {C : PkC} {vn vd vk vs vh : Value} (h : PkRw w C vn vd vk vs vh) (t : Touch (fun _ => False) w w') : PkRw w' C vn vd vk vs vh := by
 obtain ⟨l, h1, h2, h3⟩ := h.s
 exact ⟨ValsAt.keep h.n t, ValsAt.keep h.d t, ValsAt.keep h.k t, ⟨l, h1, h2.keep t, fun x hx => (h3 x hx).touch t (fun _ _ f => f)⟩, ValsAt.keep h.h t⟩
theorem POwn.rw {base : Nat} {w : World} {C : PkC} {vn vd vk vs vh : Value} (h : POwn base w C vn vd vk vs vh) : PkRw w C vn vd vk vs vh := by
 obtain ⟨l, h1, h2, h3⟩ := h.s
 exact ⟨own_vals h.n, own_vals h.d, own_vals h.k, ⟨l, h1, own_vals h2, fun x hx => own_rowAt (h3 x hx)⟩, own_vals h.h⟩
theorem PkRw.forms {w : World} {C : PkC} {vn vd vk vs vh : Value} (h : PkRw w C vn vd vk vs vh) : ∃ na nc da dc ka kc sa sc ha hc, vn = .slice na C.nb.length nc ∧ vd = .slice da C.dh.length dc ∧ vk = .slice ka C.ks.length kc ∧ vs = .slice sa C.ss.length sc ∧ vh = .slice ha C.hs.length hc := by
 obtain ⟨na, nc, e1, -⟩ := ValsAt.form h.n
 obtain ⟨da, dc, e2, -⟩ := ValsAt.form h.d
 obtain ⟨ka, kc, e3, -⟩ := ValsAt.form h.k
 obtain ⟨l, hl, hs, -⟩ := h.s
 obtain ⟨sa, sc, e4, -⟩ := ValsAt.form hs
 obtain ⟨ha, hc, e5, -⟩ := ValsAt.form h.h
 exact ⟨na, nc, da, dc, ka, kc, sa, sc, ha, hc, e1, e2, e3, by rw [e4, ← hl, List.length_map], e5⟩
set_option maxHeartbeats 4000000 in
theorem epacket (C : PkC) (vn vd vk vs vh un ud uk us uh : Value) (w : World) (hA : PkRw w C vn vd vk vs vh) (hB : PkAt w C un ud uk us uh) :
  Calls Tryz.prog 12 #[C.P.v vn vd vk vs vh, C.P.v un ud uk us uh] w fun e w' => e = .returned (.bool true) ∧ Touch (fun _ => False) w w' := by
 obtain ⟨na, nc, da, dc, ka, kc, sa, sc, ha, hc, rfl, rfl, rfl, rfl, rfl⟩ := hA.forms
 obtain ⟨nb, nd, db, dd, kb, kd, sb, sd, hb, hd, rfl, rfl, rfl, rfl, rfl⟩ := hB.forms
 obtain ⟨w0, hw0⟩ : ∃ w0, w0 = (w.alloc (.cells #[.int .u8 C.P.typ, .int .u32 C.P.router, .int .u32 C.P.area, .int .u32 C.P.mask, .int .u16 C.P.iv, .int .u8 C.P.opts, .int .u8 C.P.prio, .int .u32 C.P.dead, .int .u32 C.P.dr, .int .u32 C.P.bdr, .slice na C.nb.length nc, .int .u16 C.P.mtu, .int .u8 C.P.dopts, .int .u8 C.P.dflags, .int .u32 C.P.dseq, .slice da C.dh.length dc, .slice ka C.ks.length kc, .slice sa C.ss.length sc, .slice ha C.hs.length hc] 33)).alloc (.cells #[.int .u8 C.P.typ, .int .u32 C.P.router, .int .u32 C.P.area, .int .u32 C.P.mask, .int .u16 C.P.iv, .int .u8 C.P.opts, .int .u8 C.P.prio, .int .u32 C.P.dead, .int .u32 C.P.dr, .int .u32 C.P.bdr, .slice nb C.nb.length nd, .int .u16 C.P.mtu, .int .u8 C.P.dopts, .int .u8 C.P.dflags, .int .u32 C.P.dseq, .slice db C.dh.length dd, .slice kb C.ks.length kd, .slice sb C.ss.length sd, .slice hb C.hs.length hd] 33) := ⟨_, rfl⟩
 have ta : Touch (fun _ => False) w w0 := by rw [hw0]; exact ((Touch.refl _ w).alloc _).alloc _
 have A0 : Row w0 w.heap.size 33 [.int .u8 C.P.typ, .int .u32 C.P.router, .int .u32 C.P.area, .int .u32 C.P.mask, .int .u16 C.P.iv, .int .u8 C.P.opts, .int .u8 C.P.prio, .int .u32 C.P.dead, .int .u32 C.P.dr, .int .u32 C.P.bdr, .slice na C.nb.length nc, .int .u16 C.P.mtu, .int .u8 C.P.dopts, .int .u8 C.P.dflags, .int .u32 C.P.dseq, .slice da C.dh.length dc, .slice ka C.ks.length kc, .slice sa C.ss.length sc, .slice ha C.hs.length hc] := by rw [hw0]; exact (row_new w 33 #[.int .u8 C.P.typ, .int .u32 C.P.router, .int .u32 C.P.area, .int .u32 C.P.mask, .int .u16 C.P.iv, .int .u8 C.P.opts, .int .u8 C.P.prio, .int .u32 C.P.dead, .int .u32 C.P.dr, .int .u32 C.P.bdr, .slice na C.nb.length nc, .int .u16 C.P.mtu, .int .u8 C.P.dopts, .int .u8 C.P.dflags, .int .u32 C.P.dseq, .slice da C.dh.length dc, .slice ka C.ks.length kc, .slice sa C.ss.length sc, .slice ha C.hs.length hc]).keep ((Touch.refl _ _).alloc _)
 have B0 : Row w0 (w.heap.size + 1) 33 [.int .u8 C.P.typ, .int .u32 C.P.router, .int .u32 C.P.area, .int .u32 C.P.mask, .int .u16 C.P.iv, .int .u8 C.P.opts, .int .u8 C.P.prio, .int .u32 C.P.dead, .int .u32 C.P.dr, .int .u32 C.P.bdr, .slice nb C.nb.length nd, .int .u16 C.P.mtu, .int .u8 C.P.dopts, .int .u8 C.P.dflags, .int .u32 C.P.dseq, .slice db C.dh.length dd, .slice kb C.ks.length kd, .slice sb C.ss.length sd, .slice hb C.hs.length hd] := by
  have := row_new (w.alloc (.cells #[.int .u8 C.P.typ, .int .u32 C.P.router, .int .u32 C.P.area, .int .u32 C.P.mask, .int .u16 C.P.iv, .int .u8 C.P.opts, .int .u8 C.P.prio, .int .u32 C.P.dead, .int .u32 C.P.dr, .int .u32 C.P.bdr, .slice na C.nb.length nc, .int .u16 C.P.mtu, .int .u8 C.P.dopts, .int .u8 C.P.dflags, .int .u32 C.P.dseq, .slice da C.dh.length dc, .slice ka C.ks.length kc, .slice sa C.ss.length sc, .slice ha C.hs.length hc] 33)) 33 #[.int .u8 C.P.typ, .int .u32 C.P.router, .int .u32 C.P.area, .int .u32 C.P.mask, .int .u16 C.P.iv, .int .u8 C.P.opts, .int .u8 C.P.prio, .int .u32 C.P.dead, .int .u32 C.P.dr, .int .u32 C.P.bdr, .slice nb C.nb.length nd, .int .u16 C.P.mtu, .int .u8 C.P.dopts, .int .u8 C.P.dflags, .int .u32 C.P.dseq, .slice db C.dh.length dd, .slice kb C.ks.length kd, .slice sb C.ss.length sd, .slice hb C.hs.length hd]
  rw [← hw0] at this
  simpa using this
 have AA : Hid (∀ w', Touch (fun _ => False) w0 w' → Row w' w.heap.size 33 [.int .u8 C.P.typ, .int .u32 C.P.router, .int .u32 C.P.area, .int .u32 C.P.mask, .int .u16 C.P.iv, .int .u8 C.P.opts, .int .u8 C.P.prio, .int .u32 C.P.dead, .int .u32 C.P.dr, .int .u32 C.P.bdr, .slice na C.nb.length nc, .int .u16 C.P.mtu, .int .u8 C.P.dopts, .int .u8 C.P.dflags, .int .u32 C.P.dseq, .slice da C.dh.length dc, .slice ka C.ks.length kc, .slice sa C.ss.length sc, .slice ha C.hs.length hc]) := fun w' t => A0.keep t
 have BB : Hid (∀ w', Touch (fun _ => False) w0 w' → Row w' (w.heap.size + 1) 33 [.int .u8 C.P.typ, .int .u32 C.P.router, .int .u32 C.P.area, .int .u32 C.P.mask, .int .u16 C.P.iv, .int .u8 C.P.opts, .int .u8 C.P.prio, .int .u32 C.P.dead, .int .u32 C.P.dr, .int .u32 C.P.bdr, .slice nb C.nb.length nd, .int .u16 C.P.mtu, .int .u8 C.P.dopts, .int .u8 C.P.dflags, .int .u32 C.P.dseq, .slice db C.dh.length dd, .slice kb C.ks.length kd, .slice sb C.ss.length sd, .slice hb C.hs.length hd]) := fun w' t => B0.keep t
 have TA : Hid (Touch (fun _ => False) w w0) := ta
 have PA : Hid (∀ w', Touch (fun _ => False) w w' → PkRw w' C (.slice na C.nb.length nc) (.slice da C.dh.length dc) (.slice ka C.ks.length kc) (.slice sa C.ss.length sc) (.slice ha C.hs.length hc)) := fun w' t => hA.keep t
 have PB : Hid (∀ w', Touch (fun _ => False) w w' → PkAt w' C (.slice nb C.nb.length nd) (.slice db C.dh.length dd) (.slice kb C.ks.length kd) (.slice sb C.ss.length sd) (.slice hb C.hs.length hd)) := fun w' t => hB.keep t
 clear ta hA hB A0 B0
 show Calls Tryz.prog 12 #[.agg #[.int .u8 C.P.typ, .int .u32 C.P.router, .int .u32 C.P.area, .int .u32 C.P.mask, .int .u16 C.P.iv, .int .u8 C.P.opts, .int .u8 C.P.prio, .int .u32 C.P.dead, .int .u32 C.P.dr, .int .u32 C.P.bdr, .slice na C.nb.length nc, .int .u16 C.P.mtu, .int .u8 C.P.dopts, .int .u8 C.P.dflags, .int .u32 C.P.dseq, .slice da C.dh.length dc, .slice ka C.ks.length kc, .slice sa C.ss.length sc, .slice ha C.hs.length hc], .agg #[.int .u8 C.P.typ, .int .u32 C.P.router, .int .u32 C.P.area, .int .u32 C.P.mask, .int .u16 C.P.iv, .int .u8 C.P.opts, .int .u8 C.P.prio, .int .u32 C.P.dead, .int .u32 C.P.dr, .int .u32 C.P.bdr, .slice nb C.nb.length nd, .int .u16 C.P.mtu, .int .u8 C.P.dopts, .int .u8 C.P.dflags, .int .u32 C.P.dseq, .slice db C.dh.length dd, .slice kb C.ks.length kd, .slice sb C.ss.length sd, .slice hb C.hs.length hd]] w _
 go_enter Tryz.func12, Tryz.ntmps12
 go_upto_region 1 with fail
 rw [← hw0]
 clear hw0
 generalize w.heap.size + 1 = g2 at *
 generalize w.heap.size = g1 at *
 have T0 : Hid (Touch (fun _ => False) w w0) := TA.out
 have RA := AA.out w0 (Touch.refl _ _)
 have RB := BB.out w0 (Touch.refl _ _)
 have C0 : Hid (Touch (fun _ => False) w0 w0) := Touch.refl _ _
 have a0_0 : w0.cell? ⟨g1, 0, none⟩ = some (.int .u8 C.P.typ) := RA.cell 0
 have b0_0 : w0.cell? ⟨g2, 0, none⟩ = some (.int .u8 C.P.typ) := RB.cell 0
 have a1_0 : w0.cell? ⟨g1, 1, none⟩ = some (.int .u32 C.P.router) := RA.cell 1
 have b1_0 : w0.cell? ⟨g2, 1, none⟩ = some (.int .u32 C.P.router) := RB.cell 1
 have a2_0 : w0.cell? ⟨g1, 2, none⟩ = some (.int .u32 C.P.area) := RA.cell 2
 have b2_0 : w0.cell? ⟨g2, 2, none⟩ = some (.int .u32 C.P.area) := RB.cell 2
 have a3_0 : w0.cell? ⟨g1, 3, none⟩ = some (.int .u32 C.P.mask) := RA.cell 3
 have b3_0 : w0.cell? ⟨g2, 3, none⟩ = some (.int .u32 C.P.mask) := RB.cell 3
 have a4_0 : w0.cell? ⟨g1, 4, none⟩ = some (.int .u16 C.P.iv) := RA.cell 4
 have b4_0 : w0.cell? ⟨g2, 4, none⟩ = some (.int .u16 C.P.iv) := RB.cell 4
 have a5_0 : w0.cell? ⟨g1, 5, none⟩ = some (.int .u8 C.P.opts) := RA.cell 5
 have b5_0 : w0.cell? ⟨g2, 5, none⟩ = some (.int .u8 C.P.opts) := RB.cell 5
 have a6_0 : w0.cell? ⟨g1, 6, none⟩ = some (.int .u8 C.P.prio) := RA.cell 6
 have b6_0 : w0.cell? ⟨g2, 6, none⟩ = some (.int .u8 C.P.prio) := RB.cell 6
 have a7_0 : w0.cell? ⟨g1, 7, none⟩ = some (.int .u32 C.P.dead) := RA.cell 7
 have b7_0 : w0.cell? ⟨g2, 7, none⟩ = some (.int .u32 C.P.dead) := RB.cell 7
 have a8_0 : w0.cell? ⟨g1, 8, none⟩ = some (.int .u32 C.P.dr) := RA.cell 8
 have b8_0 : w0.cell? ⟨g2, 8, none⟩ = some (.int .u32 C.P.dr) := RB.cell 8
 have a9_0 : w0.cell? ⟨g1, 9, none⟩ = some (.int .u32 C.P.bdr) := RA.cell 9
 have b9_0 : w0.cell? ⟨g2, 9, none⟩ = some (.int .u32 C.P.bdr) := RB.cell 9
 have a10_0 : w0.cell? ⟨g1, 10, none⟩ = some (.slice na C.nb.length nc) := RA.cell 10
 have b10_0 : w0.cell? ⟨g2, 10, none⟩ = some (.slice nb C.nb.length nd) := RB.cell 10
 clear RA RB
 have HQ := ehelloP C na nb nc nd w0 (PA.out w0 T0.out).n (PB.out w0 T0.out).n
 go_wp2_with fail
 refine Calls.mono HQ ?_
 rintro e w1 ⟨rfl, tk⟩
 have T1 : Hid (Touch (fun _ => False) w w1) := T0.out.trans tk
 have C1 : Hid (Touch (fun _ => False) w0 w1) := C0.out.trans tk
 have RA := AA.out w1 C1.out
 have RB := BB.out w1 C1.out
 clear HQ tk a0_0 b0_0 a1_0 b1_0 a2_0 b2_0 a3_0 b3_0 a4_0 b4_0 a5_0 b5_0 a6_0 b6_0 a7_0 b7_0 a8_0 b8_0 a9_0 b9_0 a10_0 b10_0
 have a11_1 : w1.cell? ⟨g1, 11, none⟩ = some (.int .u16 C.P.mtu) := RA.cell 11
 have b11_1 : w1.cell? ⟨g2, 11, none⟩ = some (.int .u16 C.P.mtu) := RB.cell 11
 have a12_1 : w1.cell? ⟨g1, 12, none⟩ = some (.int .u8 C.P.dopts) := RA.cell 12
 have b12_1 : w1.cell? ⟨g2, 12, none⟩ = some (.int .u8 C.P.dopts) := RB.cell 12
 have a13_1 : w1.cell? ⟨g1, 13, none⟩ = some (.int .u8 C.P.dflags) := RA.cell 13
 have b13_1 : w1.cell? ⟨g2, 13, none⟩ = some (.int .u8 C.P.dflags) := RB.cell 13
 have a14_1 : w1.cell? ⟨g1, 14, none⟩ = some (.int .u32 C.P.dseq) := RA.cell 14
 have b14_1 : w1.cell? ⟨g2, 14, none⟩ = some (.int .u32 C.P.dseq) := RB.cell 14
 have a15_1 : w1.cell? ⟨g1, 15, none⟩ = some (.slice da C.dh.length dc) := RA.cell 15
 have b15_1 : w1.cell? ⟨g2, 15, none⟩ = some (.slice db C.dh.length dd) := RB.cell 15
 clear RA RB
 have HQ := eddP C da db dc dd w1 (PA.out w1 T1.out).d (PB.out w1 T1.out).d
 go_wp2_with fail
 refine Calls.mono HQ ?_
 rintro e w2 ⟨rfl, tk⟩
 have T2 : Hid (Touch (fun _ => False) w w2) := T1.out.trans tk
 have C2 : Hid (Touch (fun _ => False) w0 w2) := C1.out.trans tk
 have RA := AA.out w2 C2.out
 have RB := BB.out w2 C2.out
 clear HQ tk a11_1 b11_1 a12_1 b12_1 a13_1 b13_1 a14_1 b14_1 a15_1 b15_1
 have a16_2 : w2.cell? ⟨g1, 16, none⟩ = some (.slice ka C.ks.length kc) := RA.cell 16
 have b16_2 : w2.cell? ⟨g2, 16, none⟩ = some (.slice kb C.ks.length kd) := RB.cell 16
 clear RA RB
 have HQ := ekeysP (.slice ka C.ks.length kc) (.slice kb C.ks.length kd) C.ks w2 (PA.out w2 T2.out).k (PB.out w2 T2.out).k
 go_wp2_with fail
 refine Calls.mono HQ ?_
 rintro e w3 ⟨rfl, nk, hwk⟩
 have tk : Touch (fun _ => False) w2 w3 := hwk ▸ (Touch.refl _ _).drewN nk
 clear hwk
 have T3 : Hid (Touch (fun _ => False) w w3) := T2.out.trans tk
 have C3 : Hid (Touch (fun _ => False) w0 w3) := C2.out.trans tk
 have RA := AA.out w3 C3.out
 have RB := BB.out w3 C3.out
 clear HQ tk a16_2 b16_2
 have a17_3 : w3.cell? ⟨g1, 17, none⟩ = some (.slice sa C.ss.length sc) := RA.cell 17
 have b17_3 : w3.cell? ⟨g2, 17, none⟩ = some (.slice sb C.ss.length sd) := RB.cell 17
 obtain ⟨lA, hA1, hA2, hA3⟩ := (PA.out w3 T3.out).s
 obtain ⟨lB, hB1, hB2⟩ := (PB.out w3 T3.out).s
 clear RA RB
 have HQ := estatesP (.slice sa C.ss.length sc) (.slice sb C.ss.length sd) lA lB w3 hA2 hA3 hB2 (by rw [hA1, hB1])
 clear hA1 hA2 hA3 hB1 hB2
 go_wp2_with fail
 refine Calls.mono HQ ?_
 rintro e w4 ⟨rfl, tk⟩
 have T4 : Hid (Touch (fun _ => False) w w4) := T3.out.trans tk
 have C4 : Hid (Touch (fun _ => False) w0 w4) := C3.out.trans tk
 have RA := AA.out w4 C4.out
 have RB := BB.out w4 C4.out
 clear HQ tk a17_3 b17_3
 have a18_4 : w4.cell? ⟨g1, 18, none⟩ = some (.slice ha C.hs.length hc) := RA.cell 18
 have b18_4 : w4.cell? ⟨g2, 18, none⟩ = some (.slice hb C.hs.length hd) := RB.cell 18
 clear RA RB
 have HQ := eheadsP (.slice ha C.hs.length hc) (.slice hb C.hs.length hd) C.hs w4 (PA.out w4 T4.out).h (PB.out w4 T4.out).h
 go_wp2_with fail
 refine Calls.mono HQ ?_
 rintro e w5 ⟨rfl, nk, hwk⟩
 have tk : Touch (fun _ => False) w4 w5 := hwk ▸ (Touch.refl _ _).drewN nk
 clear hwk
 have T5 : Hid (Touch (fun _ => False) w w5) := T4.out.trans tk
 have C5 : Hid (Touch (fun _ => False) w0 w5) := C4.out.trans tk
 have RA := AA.out w5 C5.out
 have RB := BB.out w5 C5.out
 clear HQ tk a18_4 b18_4
 go_wp2
 go_ret
 exact ⟨rfl, T5.out⟩
end Go.Proofs.YtbfplepmgbkajaaGreatDoor
