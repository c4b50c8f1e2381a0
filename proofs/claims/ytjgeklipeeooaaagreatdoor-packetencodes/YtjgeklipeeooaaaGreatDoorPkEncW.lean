/- The walk of PacketEncodes. -/
import Derived.Test.YtjgeklipeeooaaaGreatDoorRefFour
import Derived.Test.YtjgeklipeeooaaaGreatDoorRefPkE
import Derived.Test.YtjgeklipeeooaaaGreatDoorPkEnc
import Derived.Test.YtjgeklipeeooaaaGreatDoorPkLive
import Derived.Test.YtjgeklipeeooaaaGreatDoorPkEq
import Derived.Test.YtjgeklipeeooaaaGreatDoorBagAdd
import Derived.Deep.DeepCutAuto
namespace Go.Proofs.YtjgeklipeeooaaaGreatDoor
open Go.RowKit
set_option linter.unusedVariables false
set_option maxRecDepth 100000

attribute [local go_sem ↓] Go.wp_at_zero Go.wp_at_succ
theorem wpList_load_mid_h {P : Program} {ops : Array Oper} {rest : List Oper} {op : Oper} {a : Act} {w : World} {Q : Exit → Act → World → Prop} (hw : Region.wanted op (yielded ops a.tmps) = true) (ty : TypeId) (x : Operand) (ho : op.op = .load ty x)
    (b o : Nat) (hx : a.eval x = .pointer (some ⟨b, o, none⟩)) (cs : List Value) (d : TypeDesc) (hc : w.rangeAt b o cs)
    (hu : P.underlying ty = some d) (hd : d.isRow = true) (hi : (P.info? ty).map (·.size) = some cs.length)
    (h : wpList P ops Q rest (a.put op.dst (.agg cs.toArray)) w) : wpList P ops Q (op :: rest) a w :=
  wpList_step fun _ hK => by
    rw [if_pos hw]
    exact wp_load_mid ty x ho b o hx cs d hc hu hd hi (hK _ _ h)
theorem own_low7 {w : World} {base base' e k : Nat} {v : Value} {n : Nat} {xs : List Value} (h : w.ownsRow base e k v n xs) (hb : base' ≤ base) : w.ownsRow base' e k v n xs := ⟨h.1, h.2.imp id (fun ⟨g, cap, cur, hv, hg, r⟩ => ⟨g, cap, cur, hv, Nat.le_trans hb hg, r⟩)⟩
theorem pencB_len (C : PkC) (A : AuV) : (pencB C A).length ≤ 65535 := by
  unfold pencB
  split
  · rename_i h
    have e := (pencE_ok h).l
    rw [sealed_form, List.length_append, length_phead2]
    omega
  · simp
set_option maxHeartbeats 4000000 in
theorem pencodes_any (C : PkC) (ok : C.Ok) (sz : C.Sz) (A : AuV) (oa : A.Ok) (vn vd vk vs vh : Value) (w : World) (hp : PkAt w C vn vd vk vs vh) :
    Calls Tryz.prog 3 #[C.P.v vn vd vk vs vh, A.v] w fun e w' => e = .returned (.bool true) ∧ Touch (fun _ => False) w w' := by
  obtain ⟨l, hl, hst⟩ := hp.s
  have HPA : Hid (∀ w', Touch (fun _ => False) w w' → PkAt w' C vn vd vk vs vh) := fun w' t => hp.keep t
  have HH : ∀ w', Touch (fun _ => False) w w' → Calls Tryz.prog 5 #[C.P.v vn vd vk vs vh] w' fun e w'' => ∃ b : Bool, e = .returned (.bool b) ∧ (b = false → C.Lt ∧ C.Ln) ∧ Touch (fun _ => False) w' w'' := fun w' t => pheavy C sz vn vd vk vs vh w' (hp.keep t)
  obtain ⟨na, nc, rfl, -⟩ := ValsAt.form hp.n
  obtain ⟨da, dc, rfl, -⟩ := ValsAt.form hp.d
  obtain ⟨ka, kc, rfl, -⟩ := ValsAt.form hp.k
  obtain ⟨sa, sc, rfl, -⟩ := ValsAt.form hst.vals
  obtain ⟨ha, hc, rfl, -⟩ := ValsAt.form hp.h
  have hll : l.length = C.ss.length := by rw [← hl, List.length_map]
  rw [hll] at HH HPA ⊢
  clear hp hst hl hll sz
  have HAu : Hid (∀ w, Calls Tryz.prog 9 #[.agg #[.int .u16 A.kind, .int .u8 A.d0, .int .u8 A.d1, .int .u8 A.d2, .int .u8 A.d3, .int .u8 A.d4, .int .u8 A.d5, .int .u8 A.d6, .int .u8 A.d7]] w fun e w' => e = .returned (.agg #[.int .u16 A.kind, .int .u8 A.d0, .int .u8 A.d1, .int .u8 A.d2, .int .u8 A.d3, .int .u8 A.d4, .int .u8 A.d5, .int .u8 A.d6, .int .u8 A.d7]) ∧ Touch (fun _ => False) w w') := fun w => pauth A w
  have OK : Hid C.Ok := ok
  have OA : Hid A.Ok := oa
  clear ok oa
  unfold PV.v at HH
  unfold PV.v AuV.v
  obtain ⟨w0, hw0⟩ : ∃ w0, w0 = (w.alloc (.cells #[.int .u8 C.P.typ, .int .u32 C.P.router, .int .u32 C.P.area, .int .u32 C.P.mask, .int .u16 C.P.iv, .int .u8 C.P.opts, .int .u8 C.P.prio, .int .u32 C.P.dead, .int .u32 C.P.dr, .int .u32 C.P.bdr, .slice na C.nb.length nc, .int .u16 C.P.mtu, .int .u8 C.P.dopts, .int .u8 C.P.dflags, .int .u32 C.P.dseq, .slice da C.dh.length dc, .slice ka C.ks.length kc, .slice sa C.ss.length sc, .slice ha C.hs.length hc] 33)).alloc (.cells #[.int .u16 A.kind, .int .u8 A.d0, .int .u8 A.d1, .int .u8 A.d2, .int .u8 A.d3, .int .u8 A.d4, .int .u8 A.d5, .int .u8 A.d6, .int .u8 A.d7] 36) := ⟨_, rfl⟩
  have ta : Touch (fun _ => False) w w0 := by rw [hw0]; exact ((Touch.refl _ w).alloc _).alloc _
  have A0 : Row w0 w.heap.size 33 [.int .u8 C.P.typ, .int .u32 C.P.router, .int .u32 C.P.area, .int .u32 C.P.mask, .int .u16 C.P.iv, .int .u8 C.P.opts, .int .u8 C.P.prio, .int .u32 C.P.dead, .int .u32 C.P.dr, .int .u32 C.P.bdr, .slice na C.nb.length nc, .int .u16 C.P.mtu, .int .u8 C.P.dopts, .int .u8 C.P.dflags, .int .u32 C.P.dseq, .slice da C.dh.length dc, .slice ka C.ks.length kc, .slice sa C.ss.length sc, .slice ha C.hs.length hc] := by rw [hw0]; exact (row_new w 33 #[.int .u8 C.P.typ, .int .u32 C.P.router, .int .u32 C.P.area, .int .u32 C.P.mask, .int .u16 C.P.iv, .int .u8 C.P.opts, .int .u8 C.P.prio, .int .u32 C.P.dead, .int .u32 C.P.dr, .int .u32 C.P.bdr, .slice na C.nb.length nc, .int .u16 C.P.mtu, .int .u8 C.P.dopts, .int .u8 C.P.dflags, .int .u32 C.P.dseq, .slice da C.dh.length dc, .slice ka C.ks.length kc, .slice sa C.ss.length sc, .slice ha C.hs.length hc]).keep ((Touch.refl _ _).alloc _)
  have B0 : Row w0 (w.heap.size + 1) 36 [.int .u16 A.kind, .int .u8 A.d0, .int .u8 A.d1, .int .u8 A.d2, .int .u8 A.d3, .int .u8 A.d4, .int .u8 A.d5, .int .u8 A.d6, .int .u8 A.d7] := by
    have := row_new (w.alloc (.cells #[.int .u8 C.P.typ, .int .u32 C.P.router, .int .u32 C.P.area, .int .u32 C.P.mask, .int .u16 C.P.iv, .int .u8 C.P.opts, .int .u8 C.P.prio, .int .u32 C.P.dead, .int .u32 C.P.dr, .int .u32 C.P.bdr, .slice na C.nb.length nc, .int .u16 C.P.mtu, .int .u8 C.P.dopts, .int .u8 C.P.dflags, .int .u32 C.P.dseq, .slice da C.dh.length dc, .slice ka C.ks.length kc, .slice sa C.ss.length sc, .slice ha C.hs.length hc] 33)) 36 #[.int .u16 A.kind, .int .u8 A.d0, .int .u8 A.d1, .int .u8 A.d2, .int .u8 A.d3, .int .u8 A.d4, .int .u8 A.d5, .int .u8 A.d6, .int .u8 A.d7]
    rw [← hw0] at this
    simpa using this
  have R0 := A0.range
  have HQ := HH w0 ta
  have TA : Hid (Touch (fun _ => False) w w0) := ta
  have A0h : Hid (∀ w', Touch (fun _ => False) w0 w' → Row w' w.heap.size 33 [.int .u8 C.P.typ, .int .u32 C.P.router, .int .u32 C.P.area, .int .u32 C.P.mask, .int .u16 C.P.iv, .int .u8 C.P.opts, .int .u8 C.P.prio, .int .u32 C.P.dead, .int .u32 C.P.dr, .int .u32 C.P.bdr, .slice na C.nb.length nc, .int .u16 C.P.mtu, .int .u8 C.P.dopts, .int .u8 C.P.dflags, .int .u32 C.P.dseq, .slice da C.dh.length dc, .slice ka C.ks.length kc, .slice sa C.ss.length sc, .slice ha C.hs.length hc]) := fun w' t => A0.keep t
  have B0h : Hid (∀ w', Touch (fun _ => False) w0 w' → Row w' (w.heap.size + 1) 36 [.int .u16 A.kind, .int .u8 A.d0, .int .u8 A.d1, .int .u8 A.d2, .int .u8 A.d3, .int .u8 A.d4, .int .u8 A.d5, .int .u8 A.d6, .int .u8 A.d7]) := fun w' t => B0.keep t
  clear HH ta A0 B0
  go_enter Tryz.func3, Tryz.ntmps3
  go_upto_region 1 with fail
  rw [← hw0]
  clear hw0
  generalize w.heap.size + 1 = g3 at *
  generalize hg2 : w.heap.size = g2 at *
  have HG2 : Hid (w.heap.size = g2) := hg2
  clear hg2
  go_wp2_with (refine wpList_load_mid rfl 33 (.tmp 2) rfl g2 0 rfl [.int .u8 C.P.typ, .int .u32 C.P.router, .int .u32 C.P.area, .int .u32 C.P.mask, .int .u16 C.P.iv, .int .u8 C.P.opts, .int .u8 C.P.prio, .int .u32 C.P.dead, .int .u32 C.P.dr, .int .u32 C.P.bdr, .slice na C.nb.length nc, .int .u16 C.P.mtu, .int .u8 C.P.dopts, .int .u8 C.P.dflags, .int .u32 C.P.dseq, .slice da C.dh.length dc, .slice ka C.ks.length kc, .slice sa C.ss.length sc, .slice ha C.hs.length hc] _ R0 Tryz.underlying33 rfl (by kernel_rfl) ?_)
  refine Calls.mono HQ ?_
  rintro e w1 ⟨b, rfl, hb, t1⟩
  have T1 : Hid (Touch (fun _ => False) w w1) := TA.out.trans t1
  have RG2 : Hid (∀ w', Touch (fun _ => False) w1 w' → Row w' g2 33 [.int .u8 C.P.typ, .int .u32 C.P.router, .int .u32 C.P.area, .int .u32 C.P.mask, .int .u16 C.P.iv, .int .u8 C.P.opts, .int .u8 C.P.prio, .int .u32 C.P.dead, .int .u32 C.P.dr, .int .u32 C.P.bdr, .slice na C.nb.length nc, .int .u16 C.P.mtu, .int .u8 C.P.dopts, .int .u8 C.P.dflags, .int .u32 C.P.dseq, .slice da C.dh.length dc, .slice ka C.ks.length kc, .slice sa C.ss.length sc, .slice ha C.hs.length hc]) := fun w' t => A0h.out w' (t1.trans t)
  have RA3 : Hid (∀ w', Touch (fun _ => False) w1 w' → Row w' g3 36 [.int .u16 A.kind, .int .u8 A.d0, .int .u8 A.d1, .int .u8 A.d2, .int .u8 A.d3, .int .u8 A.d4, .int .u8 A.d5, .int .u8 A.d6, .int .u8 A.d7]) := fun w' t => B0h.out w' (t1.trans t)
  have PR1 : Hid (∀ w', Touch (fun _ => False) w1 w' → PkAt w' C (.slice na C.nb.length nc) (.slice da C.dh.length dc) (.slice ka C.ks.length kc) (.slice sa C.ss.length sc) (.slice ha C.hs.length hc)) := fun w' t => HPA.out w' (T1.out.trans t)
  clear HQ R0 TA A0h B0h HPA t1
  cases b with
  | true =>
    have H1 := plives w1
    clear hb
    go_wp2_with (go_at_call 6; refine Calls.mono H1 ?_; rintro e w2 ⟨rfl, t2⟩)
    go_ret
    exact ⟨rfl, T1.out.trans t2⟩
  | false =>
    obtain ⟨lt, ln⟩ := hb rfl
    have LT : Hid C.Lt := lt
    have LN : Hid C.Ln := ln
    clear lt ln hb
    have HWP := wpacket C LT.out LN.out _ _ _ _ _ w1 (PR1.out _ (Touch.refl _ _))
    unfold PV.v at HWP
    have R1 := (RG2.out _ (Touch.refl _ _)).range
    go_wp2_with (refine wpList_load_mid rfl 33 (.tmp 2) rfl g2 0 rfl [.int .u8 C.P.typ, .int .u32 C.P.router, .int .u32 C.P.area, .int .u32 C.P.mask, .int .u16 C.P.iv, .int .u8 C.P.opts, .int .u8 C.P.prio, .int .u32 C.P.dead, .int .u32 C.P.dr, .int .u32 C.P.bdr, .slice na C.nb.length nc, .int .u16 C.P.mtu, .int .u8 C.P.dopts, .int .u8 C.P.dflags, .int .u32 C.P.dseq, .slice da C.dh.length dc, .slice ka C.ks.length kc, .slice sa C.ss.length sc, .slice ha C.hs.length hc] _ R1 Tryz.underlying33 rfl (by kernel_rfl) ?_)
    refine Calls.mono HWP ?_
    rintro e w2 ⟨nb, db, kb, sb, hb, rfl, wp, t2⟩
    obtain ⟨w3, hw3⟩ : ∃ w3, w3 = (w2.alloc (.cells #[.int .u8 0, .int .u32 0, .int .u32 0, .int .u32 0, .int .u16 0, .int .u8 0, .int .u8 0, .int .u32 0, .int .u32 0, .int .u32 0, .slice none 0 0, .int .u16 0, .int .u8 0, .int .u8 0, .int .u32 0, .slice none 0 0, .slice none 0 0, .slice none 0 0, .slice none 0 0] 33)).setRow w2.heap.size #[.int .u8 C.P.typ, .int .u32 C.P.router, .int .u32 C.P.area, .int .u32 C.P.mask, .int .u16 C.P.iv, .int .u8 C.P.opts, .int .u8 C.P.prio, .int .u32 C.P.dead, .int .u32 C.P.dr, .int .u32 C.P.bdr, .slice (some ⟨nb, 0, none⟩) C.nb.length (C.nb.length + 64), .int .u16 C.P.mtu, .int .u8 C.P.dopts, .int .u8 C.P.dflags, .int .u32 C.P.dseq, .slice (some ⟨db, 0, none⟩) C.dh.length (C.dh.length + 64), .slice (some ⟨kb, 0, none⟩) C.ks.length (C.ks.length + 64), .slice (some ⟨sb, 0, none⟩) C.ss.length (C.ss.length + 64), .slice (some ⟨hb, 0, none⟩) C.hs.length (C.hs.length + 64)] := ⟨_, rfl⟩
    have ra : Row (w2.alloc (.cells #[.int .u8 0, .int .u32 0, .int .u32 0, .int .u32 0, .int .u16 0, .int .u8 0, .int .u8 0, .int .u32 0, .int .u32 0, .int .u32 0, .slice none 0 0, .int .u16 0, .int .u8 0, .int .u8 0, .int .u32 0, .slice none 0 0, .slice none 0 0, .slice none 0 0, .slice none 0 0] 33)) w2.heap.size 33 [.int .u8 0, .int .u32 0, .int .u32 0, .int .u32 0, .int .u16 0, .int .u8 0, .int .u8 0, .int .u32 0, .int .u32 0, .int .u32 0, .slice none 0 0, .int .u16 0, .int .u8 0, .int .u8 0, .int .u32 0, .slice none 0 0, .slice none 0 0, .slice none 0 0, .slice none 0 0] := row_new w2 33 #[.int .u8 0, .int .u32 0, .int .u32 0, .int .u32 0, .int .u16 0, .int .u8 0, .int .u8 0, .int .u32 0, .int .u32 0, .int .u32 0, .slice none 0 0, .int .u16 0, .int .u8 0, .int .u8 0, .int .u32 0, .slice none 0 0, .slice none 0 0, .slice none 0 0, .slice none 0 0]
    have t3 : Touch (fun _ => False) w2 w3 := by rw [hw3]; exact ((Touch.refl _ _).alloc _).setRow (Or.inr (by omega)) _
    have G3 : Row w3 w2.heap.size 33 [.int .u8 C.P.typ, .int .u32 C.P.router, .int .u32 C.P.area, .int .u32 C.P.mask, .int .u16 C.P.iv, .int .u8 C.P.opts, .int .u8 C.P.prio, .int .u32 C.P.dead, .int .u32 C.P.dr, .int .u32 C.P.bdr, .slice (some ⟨nb, 0, none⟩) C.nb.length (C.nb.length + 64), .int .u16 C.P.mtu, .int .u8 C.P.dopts, .int .u8 C.P.dflags, .int .u32 C.P.dseq, .slice (some ⟨db, 0, none⟩) C.dh.length (C.dh.length + 64), .slice (some ⟨kb, 0, none⟩) C.ks.length (C.ks.length + 64), .slice (some ⟨sb, 0, none⟩) C.ss.length (C.ss.length + 64), .slice (some ⟨hb, 0, none⟩) C.hs.length (C.hs.length + 64)] := by rw [hw3]; exact ra.setRow _
    clear HWP R1
    go_upto_region 4 with (first | refine wpList_store_row rfl 33 (.tmp 5) (.tmp 17) rfl w2.heap.size #[.int .u8 C.P.typ, .int .u32 C.P.router, .int .u32 C.P.area, .int .u32 C.P.mask, .int .u16 C.P.iv, .int .u8 C.P.opts, .int .u8 C.P.prio, .int .u32 C.P.dead, .int .u32 C.P.dr, .int .u32 C.P.bdr, .slice (some ⟨nb, 0, none⟩) C.nb.length (C.nb.length + 64), .int .u16 C.P.mtu, .int .u8 C.P.dopts, .int .u8 C.P.dflags, .int .u32 C.P.dseq, .slice (some ⟨db, 0, none⟩) C.dh.length (C.dh.length + 64), .slice (some ⟨kb, 0, none⟩) C.ks.length (C.ks.length + 64), .slice (some ⟨sb, 0, none⟩) C.ss.length (C.ss.length + 64), .slice (some ⟨hb, 0, none⟩) C.hs.length (C.hs.length + 64)] rfl rfl 33 _ ra (by kernel_rfl) rfl (by simp [Value.oneCell']) ?_)
    rw [← hw3]
    clear hw3 ra
    generalize w2.heap.size = g5 at *
    have T13 : Hid (Touch (fun _ => False) w1 w3) := t2.trans t3
    have WP : Hid (∀ w', Touch (fun _ => False) w3 w' → WPk w1.heap.size w' C nb db kb sb hb) := fun w' t => wp.keep (t3.trans t)
    have RG5 : Hid (∀ w', Touch (fun _ => False) w3 w' → Row w' g5 33 [.int .u8 C.P.typ, .int .u32 C.P.router, .int .u32 C.P.area, .int .u32 C.P.mask, .int .u16 C.P.iv, .int .u8 C.P.opts, .int .u8 C.P.prio, .int .u32 C.P.dead, .int .u32 C.P.dr, .int .u32 C.P.bdr, .slice (some ⟨nb, 0, none⟩) C.nb.length (C.nb.length + 64), .int .u16 C.P.mtu, .int .u8 C.P.dopts, .int .u8 C.P.dflags, .int .u32 C.P.dseq, .slice (some ⟨db, 0, none⟩) C.dh.length (C.dh.length + 64), .slice (some ⟨kb, 0, none⟩) C.ks.length (C.ks.length + 64), .slice (some ⟨sb, 0, none⟩) C.ss.length (C.ss.length + 64), .slice (some ⟨hb, 0, none⟩) C.hs.length (C.hs.length + 64)]) := fun w' t => G3.keep t
    have RG3 : Hid (∀ w', Touch (fun _ => False) w3 w' → Row w' g3 36 [.int .u16 A.kind, .int .u8 A.d0, .int .u8 A.d1, .int .u8 A.d2, .int .u8 A.d3, .int .u8 A.d4, .int .u8 A.d5, .int .u8 A.d6, .int .u8 A.d7]) := fun w' t => RA3.out w' (T13.out.trans t)
    have SZW : Hid (w.heap.size ≤ w3.heap.size) := (T1.out.trans T13.out).size
    clear wp t2 t3 G3 RA3
    have HEN : Hid (∀ w', Touch (fun _ => False) w3 w' → Calls Tryz.prog 8 #[.agg #[.int .u8 C.P.typ, .int .u32 C.P.router, .int .u32 C.P.area, .int .u32 C.P.mask, .int .u16 C.P.iv, .int .u8 C.P.opts, .int .u8 C.P.prio, .int .u32 C.P.dead, .int .u32 C.P.dr, .int .u32 C.P.bdr, .slice (some ⟨nb, 0, none⟩) C.nb.length (C.nb.length + 64), .int .u16 C.P.mtu, .int .u8 C.P.dopts, .int .u8 C.P.dflags, .int .u32 C.P.dseq, .slice (some ⟨db, 0, none⟩) C.dh.length (C.dh.length + 64), .slice (some ⟨kb, 0, none⟩) C.ks.length (C.ks.length + 64), .slice (some ⟨sb, 0, none⟩) C.ss.length (C.ss.length + 64), .slice (some ⟨hb, 0, none⟩) C.hs.length (C.hs.length + 64)], .agg #[.int .u16 A.kind, .int .u8 A.d0, .int .u8 A.d1, .int .u8 A.d2, .int .u8 A.d3, .int .u8 A.d4, .int .u8 A.d5, .int .u8 A.d6, .int .u8 A.d7]] w' fun e w'' => ∃ v, e = .returned (.tuple #[v, .int .i64 (pencE C A)]) ∧ Buf w' w'' v (pencB C A)) := fun w' t => penc_any C OK.out LT.out A OA.out _ _ _ _ _ w' (((WP.out w' t).own LT.out LN.out).at_ OK.out)
    have HED : Hid (∀ w', Touch (fun _ => False) w1 w' → Calls Tryz.prog 10 #[.agg #[.int .u8 C.P.typ, .int .u32 C.P.router, .int .u32 C.P.area, .int .u32 C.P.mask, .int .u16 C.P.iv, .int .u8 C.P.opts, .int .u8 C.P.prio, .int .u32 C.P.dead, .int .u32 C.P.dr, .int .u32 C.P.bdr, .slice na C.nb.length nc, .int .u16 C.P.mtu, .int .u8 C.P.dopts, .int .u8 C.P.dflags, .int .u32 C.P.dseq, .slice da C.dh.length dc, .slice ka C.ks.length kc, .slice sa C.ss.length sc, .slice ha C.hs.length hc], .agg #[.int .u16 A.kind, .int .u8 A.d0, .int .u8 A.d1, .int .u8 A.d2, .int .u8 A.d3, .int .u8 A.d4, .int .u8 A.d5, .int .u8 A.d6, .int .u8 A.d7]] w' fun e w'' => ∃ v, e = .returned (.tuple #[v, .int .i64 (pencE C A)]) ∧ Buf w' w'' v (pencB C A)) := fun w' t => denc_any C OK.out LT.out LN.out A OA.out _ _ _ _ _ w' (PR1.out w' t)
    have HCL : Hid (True ∧ (pencB C A).length ≤ 65535) := ⟨trivial, pencB_len C A⟩
    have HQP : Hid (∀ w', Touch (fun _ => False) w3 w' → Calls Tryz.prog 12 #[.agg #[.int .u8 C.P.typ, .int .u32 C.P.router, .int .u32 C.P.area, .int .u32 C.P.mask, .int .u16 C.P.iv, .int .u8 C.P.opts, .int .u8 C.P.prio, .int .u32 C.P.dead, .int .u32 C.P.dr, .int .u32 C.P.bdr, .slice (some ⟨nb, 0, none⟩) C.nb.length (C.nb.length + 64), .int .u16 C.P.mtu, .int .u8 C.P.dopts, .int .u8 C.P.dflags, .int .u32 C.P.dseq, .slice (some ⟨db, 0, none⟩) C.dh.length (C.dh.length + 64), .slice (some ⟨kb, 0, none⟩) C.ks.length (C.ks.length + 64), .slice (some ⟨sb, 0, none⟩) C.ss.length (C.ss.length + 64), .slice (some ⟨hb, 0, none⟩) C.hs.length (C.hs.length + 64)], .agg #[.int .u8 C.P.typ, .int .u32 C.P.router, .int .u32 C.P.area, .int .u32 C.P.mask, .int .u16 C.P.iv, .int .u8 C.P.opts, .int .u8 C.P.prio, .int .u32 C.P.dead, .int .u32 C.P.dr, .int .u32 C.P.bdr, .slice na C.nb.length nc, .int .u16 C.P.mtu, .int .u8 C.P.dopts, .int .u8 C.P.dflags, .int .u32 C.P.dseq, .slice da C.dh.length dc, .slice ka C.ks.length kc, .slice sa C.ss.length sc, .slice ha C.hs.length hc]] w' fun e w'' => e = .returned (.bool true) ∧ Touch (fun _ => False) w' w'') := fun w' t => epacket C _ _ _ _ _ _ _ _ _ _ w' ((WP.out w' t).own LT.out LN.out).rw (PR1.out w' (T13.out.trans t))
    have HSP : Hid (∀ w', Touch (fun _ => False) w3 w' → Calls Tryz.prog 13 #[.agg #[.int .u8 C.P.typ, .int .u32 C.P.router, .int .u32 C.P.area, .int .u32 C.P.mask, .int .u16 C.P.iv, .int .u8 C.P.opts, .int .u8 C.P.prio, .int .u32 C.P.dead, .int .u32 C.P.dr, .int .u32 C.P.bdr, .slice (some ⟨nb, 0, none⟩) C.nb.length (C.nb.length + 64), .int .u16 C.P.mtu, .int .u8 C.P.dopts, .int .u8 C.P.dflags, .int .u32 C.P.dseq, .slice (some ⟨db, 0, none⟩) C.dh.length (C.dh.length + 64), .slice (some ⟨kb, 0, none⟩) C.ks.length (C.ks.length + 64), .slice (some ⟨sb, 0, none⟩) C.ss.length (C.ss.length + 64), .slice (some ⟨hb, 0, none⟩) C.hs.length (C.hs.length + 64)]] w' fun e w'' => e = .returned (.bool true) ∧ Touch (fun _ => False) w' w'') := fun w' t => spacketW C LT.out LN.out _ nb db kb sb hb w' (WP.out w' t)
    obtain ⟨cB, hcB⟩ : ∃ cB, pencB C A = cB := ⟨_, rfl⟩
    obtain ⟨E, hE⟩ : ∃ E, pencE C A = E := ⟨_, rfl⟩
    rw [hcB, hE] at HEN HED
    rw [hcB] at HCL
    clear hcB hE WP LT LN
    have S4d : Touch (fun _ => False) w3 w3.drew := (Touch.refl _ _).drew
    refine wp_region_held_drew (S := fun w' => Touch (fun _ => False) w3 w') (by kernel_rfl) S4d (fun hHeld => ?_)
    refine wpAnyH_take (i := 0) (oi := ⟨some 19, _, _, _, _, _⟩) (v := .agg #[.int .u8 C.P.typ, .int .u32 C.P.router, .int .u32 C.P.area, .int .u32 C.P.mask, .int .u16 C.P.iv, .int .u8 C.P.opts, .int .u8 C.P.prio, .int .u32 C.P.dead, .int .u32 C.P.dr, .int .u32 C.P.bdr, .slice (some ⟨nb, 0, none⟩) C.nb.length (C.nb.length + 64), .int .u16 C.P.mtu, .int .u8 C.P.dopts, .int .u8 C.P.dflags, .int .u32 C.P.dseq, .slice (some ⟨db, 0, none⟩) C.dh.length (C.dh.length + 64), .slice (some ⟨kb, 0, none⟩) C.ks.length (C.ks.length + 64), .slice (some ⟨sb, 0, none⟩) C.ss.length (C.ss.length + 64), .slice (some ⟨hb, 0, none⟩) C.hs.length (C.hs.length + 64)]) rfl (by kernel_rfl) (by kernel_rfl) (by kernel_rfl) (fun _ _ _ h => h) (yieldsIf_load_mid (by rfl) _ _ rfl _ _ rfl [.int .u8 C.P.typ, .int .u32 C.P.router, .int .u32 C.P.area, .int .u32 C.P.mask, .int .u16 C.P.iv, .int .u8 C.P.opts, .int .u8 C.P.prio, .int .u32 C.P.dead, .int .u32 C.P.dr, .int .u32 C.P.bdr, .slice (some ⟨nb, 0, none⟩) C.nb.length (C.nb.length + 64), .int .u16 C.P.mtu, .int .u8 C.P.dopts, .int .u8 C.P.dflags, .int .u32 C.P.dseq, .slice (some ⟨db, 0, none⟩) C.dh.length (C.dh.length + 64), .slice (some ⟨kb, 0, none⟩) C.ks.length (C.ks.length + 64), .slice (some ⟨sb, 0, none⟩) C.ss.length (C.ss.length + 64), .slice (some ⟨hb, 0, none⟩) C.hs.length (C.hs.length + 64)] _ (fun w h => (RG5.out w h).range) Tryz.underlying33 rfl (by kernel_rfl)) (by assumption) ?_
    simp only [Act.put, List.setIfInBounds_toArray, List.set_cons_zero, List.set_cons_succ]
    refine wpAnyH_take (i := 1) (oi := ⟨some 20, _, _, _, _, _⟩) (v := .agg #[.int .u16 A.kind, .int .u8 A.d0, .int .u8 A.d1, .int .u8 A.d2, .int .u8 A.d3, .int .u8 A.d4, .int .u8 A.d5, .int .u8 A.d6, .int .u8 A.d7]) rfl (by kernel_rfl) (by kernel_rfl) (by kernel_rfl) (fun _ _ _ h => h) (yieldsIf_load_mid (by rfl) _ _ rfl _ _ rfl [.int .u16 A.kind, .int .u8 A.d0, .int .u8 A.d1, .int .u8 A.d2, .int .u8 A.d3, .int .u8 A.d4, .int .u8 A.d5, .int .u8 A.d6, .int .u8 A.d7] _ (fun w h => (RG3.out w h).range) Tryz.underlying36 rfl (by kernel_rfl)) (by assumption) ?_
    simp only [Act.put, List.setIfInBounds_toArray, List.set_cons_zero, List.set_cons_succ]
    refine wpAnyH_ready (rs := [2]) (by kernel_rfl) (by simp) ?_
    refine AllReadyH.cons (o := ⟨some 21, _, _, _, _, _⟩) rfl (fun K hK => ?_) AllReadyH.nil
    go_simp
    refine Calls.mono (HAu.out _) ?_
    rintro e a4 ⟨rfl, ta4⟩
    have Sa4 : Touch (fun _ => False) w3 a4 := S4d.trans ta4
    refine hK.out _ _ Sa4 (fun hHeld => ?_)
    clear hK K
    have HEn := HEN.out a4 (Sa4)
    refine wpAnyH_ready (rs := [3]) (by kernel_rfl) (by simp) ?_
    refine AllReadyH.cons (o := ⟨some 22, _, _, _, _, _⟩) rfl (fun K hK => ?_) AllReadyH.nil
    go_simp
    refine Calls.mono HEn ?_
    rintro e x4 ⟨v4, rfl, b4⟩
    obtain ⟨c4a, c4c, rfl⟩ := b4.form
    have Sx4 : Touch (fun _ => False) w3 x4 := Sa4.trans b4.t
    refine hK.out _ _ Sx4 (fun hHeld => ?_)
    clear hK K HEn
    refine wpAnyH_take (i := 4) (oi := ⟨some 18, _, _, _, _, _⟩) (v := .tuple #[.slice c4a cB.length c4c, .int .i64 E]) rfl (by kernel_rfl) (by kernel_rfl) (by kernel_rfl) (fun _ _ _ h => h) (Or.inl ⟨by rfl, fun w hw => by go_simp⟩) (by assumption) ?_
    simp only [Act.put, List.setIfInBounds_toArray, List.set_cons_zero, List.set_cons_succ]
    refine wpAnyH_take (i := 5) (oi := ⟨some 23, _, _, _, _, _⟩) (v := .slice c4a cB.length c4c) rfl (by kernel_rfl) (by kernel_rfl) (by kernel_rfl) (fun _ _ _ h => h) (Or.inl ⟨by rfl, fun w hw => by go_simp⟩) (by assumption) ?_
    simp only [Act.put, List.setIfInBounds_toArray, List.set_cons_zero, List.set_cons_succ]
    refine wpAnyH_take (i := 6) (oi := ⟨some 24, _, _, _, _, _⟩) (v := .int .i64 E) rfl (by kernel_rfl) (by kernel_rfl) (by kernel_rfl) (fun _ _ _ h => h) (Or.inl ⟨by rfl, fun w hw => by go_simp⟩) (by assumption) ?_
    simp only [Act.put, List.setIfInBounds_toArray, List.set_cons_zero, List.set_cons_succ]
    refine wpAnyH_take (i := 7) (oi := ⟨some 6, _, _, _, _, _⟩) (v := .slice c4a cB.length c4c) rfl (by kernel_rfl) (by kernel_rfl) (by kernel_rfl) (fun _ _ _ h => h) (Or.inl ⟨by rfl, fun w hw => by go_simp⟩) (by assumption) ?_
    simp only [Act.put, List.setIfInBounds_toArray, List.set_cons_zero, List.set_cons_succ]
    refine wpAnyH_take (i := 8) (oi := ⟨some 7, _, _, _, _, _⟩) (v := .int .i64 E) rfl (by kernel_rfl) (by kernel_rfl) (by kernel_rfl) (fun _ _ _ h => h) (Or.inl ⟨by rfl, fun w hw => by go_simp⟩) (by assumption) ?_
    simp only [Act.put, List.setIfInBounds_toArray, List.set_cons_zero, List.set_cons_succ]
    refine wpAnyH_done (by kernel_rfl) ?_ _
    have TX4 : Hid (Touch (fun _ => False) w3 x4) := Sx4
    have BX4 : Hid (∀ w', Touch (fun _ => False) x4 w' → Buf a4 w' (.slice c4a cB.length c4c) cB) := fun w' t => b4.keep t
    have SZ4 : Hid (w3.heap.size ≤ a4.heap.size) := Sa4.size
    have KX4 : Hid (∀ k, (Value.slice c4a cB.length c4c).ownBlock = some k → a4.heap.size ≤ k ∧ k < x4.heap.size) := fun k hk => b4.own.lt k hk
    clear Sx4 Sa4 b4 ta4 S4d hHeld
    go_upto_region 5 with fail
    have RQ5 : Hid (∀ w', Touch (fun _ => False) x4 w' → Row w' g5 33 [.int .u8 C.P.typ, .int .u32 C.P.router, .int .u32 C.P.area, .int .u32 C.P.mask, .int .u16 C.P.iv, .int .u8 C.P.opts, .int .u8 C.P.prio, .int .u32 C.P.dead, .int .u32 C.P.dr, .int .u32 C.P.bdr, .slice (some ⟨nb, 0, none⟩) C.nb.length (C.nb.length + 64), .int .u16 C.P.mtu, .int .u8 C.P.dopts, .int .u8 C.P.dflags, .int .u32 C.P.dseq, .slice (some ⟨db, 0, none⟩) C.dh.length (C.dh.length + 64), .slice (some ⟨kb, 0, none⟩) C.ks.length (C.ks.length + 64), .slice (some ⟨sb, 0, none⟩) C.ss.length (C.ss.length + 64), .slice (some ⟨hb, 0, none⟩) C.hs.length (C.hs.length + 64)]) := fun w' t => RG5.out w' (TX4.out.trans t)
    have RQ3 : Hid (∀ w', Touch (fun _ => False) x4 w' → Row w' g3 36 [.int .u16 A.kind, .int .u8 A.d0, .int .u8 A.d1, .int .u8 A.d2, .int .u8 A.d3, .int .u8 A.d4, .int .u8 A.d5, .int .u8 A.d6, .int .u8 A.d7]) := fun w' t => RG3.out w' (TX4.out.trans t)
    have S5d : Touch (fun _ => False) x4 x4.drew := (Touch.refl _ _).drew
    refine wp_region_held_drew (S := fun w' => Touch (fun _ => False) x4 w') (by kernel_rfl) S5d (fun hHeld => ?_)
    refine wpAnyH_take (i := 0) (oi := ⟨some 26, _, _, _, _, _⟩) (v := .agg #[.int .u8 C.P.typ, .int .u32 C.P.router, .int .u32 C.P.area, .int .u32 C.P.mask, .int .u16 C.P.iv, .int .u8 C.P.opts, .int .u8 C.P.prio, .int .u32 C.P.dead, .int .u32 C.P.dr, .int .u32 C.P.bdr, .slice (some ⟨nb, 0, none⟩) C.nb.length (C.nb.length + 64), .int .u16 C.P.mtu, .int .u8 C.P.dopts, .int .u8 C.P.dflags, .int .u32 C.P.dseq, .slice (some ⟨db, 0, none⟩) C.dh.length (C.dh.length + 64), .slice (some ⟨kb, 0, none⟩) C.ks.length (C.ks.length + 64), .slice (some ⟨sb, 0, none⟩) C.ss.length (C.ss.length + 64), .slice (some ⟨hb, 0, none⟩) C.hs.length (C.hs.length + 64)]) rfl (by kernel_rfl) (by kernel_rfl) (by kernel_rfl) (fun _ _ _ h => h) (yieldsIf_load_mid (by rfl) _ _ rfl _ _ rfl [.int .u8 C.P.typ, .int .u32 C.P.router, .int .u32 C.P.area, .int .u32 C.P.mask, .int .u16 C.P.iv, .int .u8 C.P.opts, .int .u8 C.P.prio, .int .u32 C.P.dead, .int .u32 C.P.dr, .int .u32 C.P.bdr, .slice (some ⟨nb, 0, none⟩) C.nb.length (C.nb.length + 64), .int .u16 C.P.mtu, .int .u8 C.P.dopts, .int .u8 C.P.dflags, .int .u32 C.P.dseq, .slice (some ⟨db, 0, none⟩) C.dh.length (C.dh.length + 64), .slice (some ⟨kb, 0, none⟩) C.ks.length (C.ks.length + 64), .slice (some ⟨sb, 0, none⟩) C.ss.length (C.ss.length + 64), .slice (some ⟨hb, 0, none⟩) C.hs.length (C.hs.length + 64)] _ (fun w h => (RQ5.out w h).range) Tryz.underlying33 rfl (by kernel_rfl)) (by assumption) ?_
    simp only [Act.put, List.setIfInBounds_toArray, List.set_cons_zero, List.set_cons_succ]
    refine wpAnyH_take (i := 1) (oi := ⟨some 27, _, _, _, _, _⟩) (v := .agg #[.int .u16 A.kind, .int .u8 A.d0, .int .u8 A.d1, .int .u8 A.d2, .int .u8 A.d3, .int .u8 A.d4, .int .u8 A.d5, .int .u8 A.d6, .int .u8 A.d7]) rfl (by kernel_rfl) (by kernel_rfl) (by kernel_rfl) (fun _ _ _ h => h) (yieldsIf_load_mid (by rfl) _ _ rfl _ _ rfl [.int .u16 A.kind, .int .u8 A.d0, .int .u8 A.d1, .int .u8 A.d2, .int .u8 A.d3, .int .u8 A.d4, .int .u8 A.d5, .int .u8 A.d6, .int .u8 A.d7] _ (fun w h => (RQ3.out w h).range) Tryz.underlying36 rfl (by kernel_rfl)) (by assumption) ?_
    simp only [Act.put, List.setIfInBounds_toArray, List.set_cons_zero, List.set_cons_succ]
    refine wpAnyH_ready (rs := [2]) (by kernel_rfl) (by simp) ?_
    refine AllReadyH.cons (o := ⟨some 28, _, _, _, _, _⟩) rfl (fun K hK => ?_) AllReadyH.nil
    go_simp
    refine Calls.mono (HAu.out _) ?_
    rintro e a5 ⟨rfl, ta5⟩
    have Sa5 : Touch (fun _ => False) x4 a5 := S5d.trans ta5
    refine hK.out _ _ Sa5 (fun hHeld => ?_)
    clear hK K
    have HEn := HEN.out a5 (TX4.out.trans Sa5)
    refine wpAnyH_ready (rs := [3]) (by kernel_rfl) (by simp) ?_
    refine AllReadyH.cons (o := ⟨some 29, _, _, _, _, _⟩) rfl (fun K hK => ?_) AllReadyH.nil
    go_simp
    refine Calls.mono HEn ?_
    rintro e x5 ⟨v5, rfl, b5⟩
    obtain ⟨c5a, c5c, rfl⟩ := b5.form
    have Sx5 : Touch (fun _ => False) x4 x5 := Sa5.trans b5.t
    refine hK.out _ _ Sx5 (fun hHeld => ?_)
    clear hK K HEn
    refine wpAnyH_take (i := 4) (oi := ⟨some 25, _, _, _, _, _⟩) (v := .tuple #[.slice c5a cB.length c5c, .int .i64 E]) rfl (by kernel_rfl) (by kernel_rfl) (by kernel_rfl) (fun _ _ _ h => h) (Or.inl ⟨by rfl, fun w hw => by go_simp⟩) (by assumption) ?_
    simp only [Act.put, List.setIfInBounds_toArray, List.set_cons_zero, List.set_cons_succ]
    refine wpAnyH_take (i := 5) (oi := ⟨some 30, _, _, _, _, _⟩) (v := .slice c5a cB.length c5c) rfl (by kernel_rfl) (by kernel_rfl) (by kernel_rfl) (fun _ _ _ h => h) (Or.inl ⟨by rfl, fun w hw => by go_simp⟩) (by assumption) ?_
    simp only [Act.put, List.setIfInBounds_toArray, List.set_cons_zero, List.set_cons_succ]
    refine wpAnyH_take (i := 6) (oi := ⟨some 31, _, _, _, _, _⟩) (v := .int .i64 E) rfl (by kernel_rfl) (by kernel_rfl) (by kernel_rfl) (fun _ _ _ h => h) (Or.inl ⟨by rfl, fun w hw => by go_simp⟩) (by assumption) ?_
    simp only [Act.put, List.setIfInBounds_toArray, List.set_cons_zero, List.set_cons_succ]
    refine wpAnyH_take (i := 7) (oi := ⟨some 8, _, _, _, _, _⟩) (v := .slice c5a cB.length c5c) rfl (by kernel_rfl) (by kernel_rfl) (by kernel_rfl) (fun _ _ _ h => h) (Or.inl ⟨by rfl, fun w hw => by go_simp⟩) (by assumption) ?_
    simp only [Act.put, List.setIfInBounds_toArray, List.set_cons_zero, List.set_cons_succ]
    refine wpAnyH_take (i := 8) (oi := ⟨some 9, _, _, _, _, _⟩) (v := .int .i64 E) rfl (by kernel_rfl) (by kernel_rfl) (by kernel_rfl) (fun _ _ _ h => h) (Or.inl ⟨by rfl, fun w hw => by go_simp⟩) (by assumption) ?_
    simp only [Act.put, List.setIfInBounds_toArray, List.set_cons_zero, List.set_cons_succ]
    refine wpAnyH_done (by kernel_rfl) ?_ _
    have TX5 : Hid (Touch (fun _ => False) x4 x5) := Sx5
    have BX5 : Hid (∀ w', Touch (fun _ => False) x5 w' → Buf a5 w' (.slice c5a cB.length c5c) cB) := fun w' t => b5.keep t
    have SZ5 : Hid (x4.heap.size ≤ a5.heap.size) := Sa5.size
    have KX5 : Hid (∀ k, (Value.slice c5a cB.length c5c).ownBlock = some k → a5.heap.size ≤ k ∧ k < x5.heap.size) := fun k hk => b5.own.lt k hk
    clear Sx5 Sa5 b5 ta5 S5d hHeld
    go_upto_region 6 with fail
    have T35 : Hid (Touch (fun _ => False) w3 x5) := TX4.out.trans TX5.out
    have L2 := (RG2.out _ (T13.out.trans T35.out)).range
    have L3 := (RG3.out _ T35.out).range
    go_wp2_with (first | refine wpList_load_mid rfl 33 (.tmp 2) rfl g2 0 rfl [.int .u8 C.P.typ, .int .u32 C.P.router, .int .u32 C.P.area, .int .u32 C.P.mask, .int .u16 C.P.iv, .int .u8 C.P.opts, .int .u8 C.P.prio, .int .u32 C.P.dead, .int .u32 C.P.dr, .int .u32 C.P.bdr, .slice na C.nb.length nc, .int .u16 C.P.mtu, .int .u8 C.P.dopts, .int .u8 C.P.dflags, .int .u32 C.P.dseq, .slice da C.dh.length dc, .slice ka C.ks.length kc, .slice sa C.ss.length sc, .slice ha C.hs.length hc] _ L2 Tryz.underlying33 rfl (by kernel_rfl) ?_ | refine wpList_load_mid rfl 36 (.tmp 3) rfl g3 0 rfl [.int .u16 A.kind, .int .u8 A.d0, .int .u8 A.d1, .int .u8 A.d2, .int .u8 A.d3, .int .u8 A.d4, .int .u8 A.d5, .int .u8 A.d6, .int .u8 A.d7] _ L3 Tryz.underlying36 rfl (by kernel_rfl) ?_)
    refine Calls.mono (HED.out _ (T13.out.trans T35.out)) ?_
    rintro e x6 ⟨v6, rfl, b6⟩
    obtain ⟨c6a, c6c, rfl⟩ := b6.form
    have TX6 : Hid (Touch (fun _ => False) x5 x6) := b6.t
    have BX6 : Hid (∀ w', Touch (fun _ => False) x6 w' → Buf x5 w' (.slice c6a cB.length c6c) cB) := fun w' t => b6.keep t
    clear b6 L2 L3 HED HEN
    go_wp2_with fail
    refine Calls.mono (eq_true _ _ cB x6 (BX4.out _ (TX5.out.trans TX6.out)).row (BX6.out _ (Touch.refl _ _)).arg) ?_
    rintro e x7 ⟨rfl, n7, h7⟩
    have TX7 : Hid (Touch (fun _ => False) x6 x7) := h7 ▸ (Touch.refl _ _).drewN n7
    clear h7
    go_wp2_with fail
    refine Calls.mono (eq_true _ _ cB x7 (BX5.out _ (TX6.out.trans TX7.out)).row (BX6.out _ TX7.out).arg) ?_
    rintro e x8 ⟨rfl, n8, h8⟩
    have TX8 : Hid (Touch (fun _ => False) x6 x8) := TX7.out.trans (h8 ▸ (Touch.refl _ _).drewN n8)
    clear h8 BX6
    have T38 : Hid (Touch (fun _ => False) w3 x8) := T35.out.trans (TX6.out.trans TX8.out)
    have L5 := (RG5.out _ T38.out).range
    have L2 := (RG2.out _ (T13.out.trans T38.out)).range
    go_wp2_with (first | refine wpList_load_mid_h (by rfl) 33 (.tmp 5) rfl g5 0 rfl [.int .u8 C.P.typ, .int .u32 C.P.router, .int .u32 C.P.area, .int .u32 C.P.mask, .int .u16 C.P.iv, .int .u8 C.P.opts, .int .u8 C.P.prio, .int .u32 C.P.dead, .int .u32 C.P.dr, .int .u32 C.P.bdr, .slice (some ⟨nb, 0, none⟩) C.nb.length (C.nb.length + 64), .int .u16 C.P.mtu, .int .u8 C.P.dopts, .int .u8 C.P.dflags, .int .u32 C.P.dseq, .slice (some ⟨db, 0, none⟩) C.dh.length (C.dh.length + 64), .slice (some ⟨kb, 0, none⟩) C.ks.length (C.ks.length + 64), .slice (some ⟨sb, 0, none⟩) C.ss.length (C.ss.length + 64), .slice (some ⟨hb, 0, none⟩) C.hs.length (C.hs.length + 64)] _ L5 Tryz.underlying33 rfl (by kernel_rfl) ?_ | refine wpList_load_mid_h (by rfl) 33 (.tmp 2) rfl g2 0 rfl [.int .u8 C.P.typ, .int .u32 C.P.router, .int .u32 C.P.area, .int .u32 C.P.mask, .int .u16 C.P.iv, .int .u8 C.P.opts, .int .u8 C.P.prio, .int .u32 C.P.dead, .int .u32 C.P.dr, .int .u32 C.P.bdr, .slice na C.nb.length nc, .int .u16 C.P.mtu, .int .u8 C.P.dopts, .int .u8 C.P.dflags, .int .u32 C.P.dseq, .slice da C.dh.length dc, .slice ka C.ks.length kc, .slice sa C.ss.length sc, .slice ha C.hs.length hc] _ L2 Tryz.underlying33 rfl (by kernel_rfl) ?_)
    refine Calls.mono (HQP.out _ T38.out) ?_
    rintro e x9 ⟨rfl, t9⟩
    have T39 : Hid (Touch (fun _ => False) w3 x9) := T38.out.trans t9
    have T69 : Hid (Touch (fun _ => False) x6 x9) := TX8.out.trans t9
    clear t9 L5 L2 HQP T38
    have L5 := (RG5.out _ T39.out).range
    go_wp2_with (refine wpList_load_mid_h (by rfl) 33 (.tmp 5) rfl g5 0 rfl [.int .u8 C.P.typ, .int .u32 C.P.router, .int .u32 C.P.area, .int .u32 C.P.mask, .int .u16 C.P.iv, .int .u8 C.P.opts, .int .u8 C.P.prio, .int .u32 C.P.dead, .int .u32 C.P.dr, .int .u32 C.P.bdr, .slice (some ⟨nb, 0, none⟩) C.nb.length (C.nb.length + 64), .int .u16 C.P.mtu, .int .u8 C.P.dopts, .int .u8 C.P.dflags, .int .u32 C.P.dseq, .slice (some ⟨db, 0, none⟩) C.dh.length (C.dh.length + 64), .slice (some ⟨kb, 0, none⟩) C.ks.length (C.ks.length + 64), .slice (some ⟨sb, 0, none⟩) C.ss.length (C.ss.length + 64), .slice (some ⟨hb, 0, none⟩) C.hs.length (C.hs.length + 64)] _ L5 Tryz.underlying33 rfl (by kernel_rfl) ?_)
    refine Calls.mono (HSP.out _ T39.out) ?_
    rintro e x10 ⟨rfl, t10⟩
    have T610 : Hid (Touch (fun _ => False) x6 x10) := T69.out.trans t10
    clear t10 L5 HSP T39 T69
    go_upto_region 10 with fail
    have hbag := bag_new (w := x10) (T := 70) #[.slice none 0 0, .slice none 0 0, .slice none 0 0, .slice none 0 0, .slice none 0 0, .slice none 0 0, .slice none 0 0, .slice none 0 0, .slice none 0 0, .slice none 0 0, .slice none 0 0, .slice none 0 0, .slice none 0 0, .slice none 0 0, .slice none 0 0, .slice none 0 0, .slice none 0 0, .slice none 0 0, .slice none 0 0] rfl
    have HB0 : Hid (BagB (x10.alloc (.cells #[.slice none 0 0, .slice none 0 0, .slice none 0 0, .slice none 0 0, .slice none 0 0, .slice none 0 0, .slice none 0 0, .slice none 0 0, .slice none 0 0, .slice none 0 0, .slice none 0 0, .slice none 0 0, .slice none 0 0, .slice none 0 0, .slice none 0 0, .slice none 0 0, .slice none 0 0, .slice none 0 0, .slice none 0 0] 70)) x10.heap.size (.slice none 0 0) [] ∧ (x10.alloc (.cells #[.slice none 0 0, .slice none 0 0, .slice none 0 0, .slice none 0 0, .slice none 0 0, .slice none 0 0, .slice none 0 0, .slice none 0 0, .slice none 0 0, .slice none 0 0, .slice none 0 0, .slice none 0 0, .slice none 0 0, .slice none 0 0, .slice none 0 0, .slice none 0 0, .slice none 0 0, .slice none 0 0, .slice none 0 0] 70)).frozen? ⟨x10.heap.size, 0, none⟩ = false ∧ BagN (x10.alloc (.cells #[.slice none 0 0, .slice none 0 0, .slice none 0 0, .slice none 0 0, .slice none 0 0, .slice none 0 0, .slice none 0 0, .slice none 0 0, .slice none 0 0, .slice none 0 0, .slice none 0 0, .slice none 0 0, .slice none 0 0, .slice none 0 0, .slice none 0 0, .slice none 0 0, .slice none 0 0, .slice none 0 0, .slice none 0 0] 70)) x10.heap.size) := hbag
    have T12 : Hid (Touch (fun _ => False) x6 (x10.alloc (.cells #[.slice none 0 0, .slice none 0 0, .slice none 0 0, .slice none 0 0, .slice none 0 0, .slice none 0 0, .slice none 0 0, .slice none 0 0, .slice none 0 0, .slice none 0 0, .slice none 0 0, .slice none 0 0, .slice none 0 0, .slice none 0 0, .slice none 0 0, .slice none 0 0, .slice none 0 0, .slice none 0 0, .slice none 0 0] 70))) := T610.out.alloc _
    have KB : Hid (w.heap.size ≤ a4.heap.size ∧ x4.heap.size ≤ a5.heap.size ∧ x5.heap.size ≤ x10.heap.size ∧ w.heap.size ≤ a5.heap.size ∧ w.heap.size ≤ x10.heap.size ∧ x4.heap.size ≤ x10.heap.size) := by
      have h1 := SZW.out; have h2 := SZ4.out; have h3 := SZ5.out; have h4 := TX4.out.size; have h5 := TX5.out.size; have h6 := TX6.out.size; have h7 := T610.out.size
      show _ ∧ _; omega
    clear hbag
    generalize x10.alloc (.cells #[.slice none 0 0, .slice none 0 0, .slice none 0 0, .slice none 0 0, .slice none 0 0, .slice none 0 0, .slice none 0 0, .slice none 0 0, .slice none 0 0, .slice none 0 0, .slice none 0 0, .slice none 0 0, .slice none 0 0, .slice none 0 0, .slice none 0 0, .slice none 0 0, .slice none 0 0, .slice none 0 0, .slice none 0 0] 70) = x11 at *
    generalize x10.heap.size = bb at *
    have OC : Hid (x11.ownsRow 0 5 1 (.slice c4a cB.length c4c) cB.length (bytesOf cB)) := own_low7 (BX4.out x11 (TX5.out.trans (TX6.out.trans T12.out))).own (Nat.zero_le _)
    have OD : Hid (x11.ownsRow 0 5 1 (.slice c5a cB.length c5c) cB.length (bytesOf cB)) := own_low7 (BX5.out x11 (TX6.out.trans T12.out)).own (Nat.zero_le _)
    have TX : Hid (Touch (fun _ => False) w x11) := (T1.out.trans T13.out).trans (T35.out.trans (TX6.out.trans T12.out))
    clear BX4 BX5 T610 T12 TX4 TX5 TX6 TX7 TX8 T35 RG2 RG3 RG5 RQ3 RQ5 PR1
    go_wp2_with fail
    refine Calls.mono (add_any bb (.slice none 0 0) [] _ cB x11 HB0.out.1 HB0.out.2.1 OC.out (by have := HCL.out; omega) (fun k hk => ⟨by have := KX4.out k hk; have := KB.out; omega, by simp [Value.ownBlock], by simp⟩) (by simp) (by simp [Value.ownBlock])) ?_
    rintro e y1 ⟨rfl, gv1, hb1, hf1, hq1, hr1, tb1, hc1⟩
    have HB1 : Hid (BagB y1 bb gv1 ([] ++ [.slice c4a cB.length c4c])) := hb1
    have HF1 : Hid (y1.frozen? ⟨bb, 0, none⟩ = false) := hf1
    have HQ1 : Hid (∀ k, gv1.ownBlock = some k → bb < k) := hq1
    have TB1 : Hid (Touch (fun k => bb ≤ k) x11 y1) := Touch.mono tb1 (fun i _ e => by rcases e with e | e; omega; simp [Value.ownBlock] at e)
    have HN1 : Hid (BagN y1 bb) := fun j h1 h2 => hc1 j _ h1 (HB0.out.2.2 j h1 h2)
    have OD1 : Hid (y1.ownsRow 0 5 1 (.slice c5a cB.length c5c) cB.length (bytesOf cB)) := own_touch OD.out TB1.out (fun k hk e => by have := KX5.out k hk; have := KB.out; omega)
    clear hb1 hf1 hq1 hr1 tb1 hc1 HB0 OC OD
    go_wp2_with fail
    refine Calls.mono (add_any bb gv1 _ _ cB y1 HB1.out HF1.out OD1.out (by have := HCL.out; omega) (fun k hk => ⟨by have := KX5.out k hk; have := KB.out; omega, fun e => by have h1 := HQ1.out k e; have h2 := KX5.out k hk; have := KB.out; omega, fun m u hu e => by
      have h1 : u = .slice c4a cB.length c4c := by
        cases m with
        | zero => simpa using hu.symm
        | succ m => simp at hu
      subst h1
      have h2 := KX4.out k e; have h3 := KX5.out k hk; have := KB.out; omega⟩) (by simp) HQ1.out) ?_
    rintro e y3 ⟨rfl, gv3, hb3, hf3, hq3, hr3, tb3, hc3⟩
    have HB3 : Hid (BagB y3 bb gv3 ([] ++ [.slice c4a cB.length c4c] ++ [.slice c5a cB.length c5c])) := hb3
    have HN3 : Hid (BagN y3 bb) := fun j h1 h2 => hc3 j _ h1 (HN1.out j h1 h2)
    have TB3 : Hid (Touch (fun k => bb ≤ k) x11 y3) := TB1.out.trans (Touch.mono tb3 (fun i _ e => by rcases e with e | e; omega; have := HQ1.out i e; omega))
    clear hb3 hf3 hq3 hr3 tb3 hc3 HB1 HF1 HQ1 HN1 OD1 TB1
    have TY : Hid (Touch (fun _ => False) w y3) := Touch.trans' TX.out TB3.out (fun i hi h => by have := KB.out; omega)
    go_wp2_with fail
    refine Calls.mono (Apart_any bb gv3 _ y3 HB3.out HN3.out) ?_
    rintro e y4 ⟨rfl, t4⟩
    have TZ : Hid (Touch (fun _ => False) w y4) := Touch.trans' TY.out t4 (fun i hi f => by
      obtain ⟨m, v, hm, hv⟩ := f
      match m, hm with
      | 0, hm =>
        have h1 : v = .slice c4a cB.length c4c := by simpa using hm.symm
        subst h1
        have h2 := KX4.out _ hv
        have h3 := KB.out
        omega
      | 1, hm =>
        have h1 : v = .slice c5a cB.length c5c := by simpa using hm.symm
        subst h1
        have h2 := KX5.out _ hv
        have h3 := KB.out
        omega
      | m + 2, hm => simp at hm)
    clear t4 HB3 HN3 TB3 TY
    go_wp2_with fail
    refine Calls.mono (plives _) ?_
    rintro e wz ⟨rfl, tz⟩
    have TE : Hid (Touch (fun _ => False) w wz) := TZ.out.trans tz
    clear tz
    go_wp2_with fail
    go_ret
    exact ⟨rfl, TE.out⟩
end Go.Proofs.YtjgeklipeeooaaaGreatDoor
