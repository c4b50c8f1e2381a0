/- The walk of PacketDecodes. -/
import Derived.Test.YtbfplepmgbkajaaGreatDoorRefSum
import Derived.Test.YtbfplepmgbkajaaGreatDoorPkHvA
import Derived.Test.YtbfplepmgbkajaaGreatDoorPkEq
import Derived.Deep.DeepCutAuto
namespace Go.Proofs.YtbfplepmgbkajaaGreatDoor
open Go.RowKit
set_option linter.unusedVariables false
set_option maxRecDepth 100000

attribute [local go_sem ↓] Go.wp_at_zero Go.wp_at_succ
theorem wpList_load_mid_d {P : Program} {ops : Array Oper} {rest : List Oper} {op : Oper} {a : Act} {w : World} {Q : Exit → Act → World → Prop} (hw : Region.wanted op (yielded ops a.tmps) = true) (ty : TypeId) (x : Operand) (ho : op.op = .load ty x)
  (b o : Nat) (hx : a.eval x = .pointer (some ⟨b, o, none⟩)) (cs : List Value) (d : TypeDesc) (hc : w.rangeAt b o cs)
  (hu : P.underlying ty = some d) (hd : d.isRow = true) (hi : (P.info? ty).map (·.size) = some cs.length)
  (h : wpList P ops Q rest (a.put op.dst (.agg cs.toArray)) w) : wpList P ops Q (op :: rest) a w :=
 wpList_step fun _ hK => by
  rw [if_pos hw]
  exact wp_load_mid ty x ho b o hx cs d hc hu hd hi (hK _ _ h)
set_option maxHeartbeats 1000000 in
theorem pdecodes_long (va : Option Addr) (vc : Nat) (rs : List Int) (w : World) (hl : 131072 < rs.length) :
  Calls Tryz.prog 4 #[.slice va rs.length vc] w fun e w' => e = .returned (.bool true) ∧ Touch (fun _ => False) w w' := by
 have hl' : (131072 : Int) < (rs.length : Int) := by omega
 have H := plives w
 generalize rs.length = n at *
 go_enter Tryz.func4, Tryz.ntmps4
 go_wp2_with (go_at_call 6; refine Calls.mono H ?_; rintro e w1 ⟨rfl, t1⟩)
 go_ret
 exact ⟨rfl, t1⟩
set_option maxHeartbeats 8000000 in
theorem pdecodes_of (va : Option Addr) (vc : Nat) (rs : List Int) (w : World) (hv : ArgAt w (.slice va rs.length vc) rs) (hby : ∀ z ∈ rs, 0 ≤ z ∧ z < 256) (hl : rs.length ≤ 131072)
  (hdd : ∀ w', ArgAt w' (.slice va rs.length vc) rs → Calls Tryz.prog 18 #[.slice va rs.length vc] w' fun e w'' => Touch (fun _ => False) w' w'' ∧ ∃ vn vd vk vs vh, e = .returned (.tuple #[(pdecC rs).P.v vn vd vk vs vh, (pdecA rs).v, .int .i64 (pdecE rs)]) ∧ PkAt w'' (pdecC rs) vn vd vk vs vh) :
  Calls Tryz.prog 4 #[.slice va rs.length vc] w fun e w' => e = .returned (.bool true) ∧ Touch (fun _ => False) w w' := by
 have hl' : ¬ (131072 : Int) < (rs.length : Int) := by omega
 obtain ⟨lt, ln, oa⟩ := dec_small hby (by omega)
 have HWB := wide_any (.slice va rs.length vc) rs w hv hby (by omega)
 have HV : Hid (∀ w', Touch (fun _ => False) w w' → ArgAt w' (.slice va rs.length vc) rs) := fun w' t => hv.keepN t
 have HD : Hid (∀ v w', ArgAt w' v rs → Calls Tryz.prog 17 #[v] w' fun e w'' => ∃ na nc da dc ka kc sa sc ha hc, e = .returned (.tuple #[.agg #[.int .u8 (pdecC rs).P.typ, .int .u32 (pdecC rs).P.router, .int .u32 (pdecC rs).P.area, .int .u32 (pdecC rs).P.mask, .int .u16 (pdecC rs).P.iv, .int .u8 (pdecC rs).P.opts, .int .u8 (pdecC rs).P.prio, .int .u32 (pdecC rs).P.dead, .int .u32 (pdecC rs).P.dr, .int .u32 (pdecC rs).P.bdr, .slice na (pdecC rs).nb.length nc, .int .u16 (pdecC rs).P.mtu, .int .u8 (pdecC rs).P.dopts, .int .u8 (pdecC rs).P.dflags, .int .u32 (pdecC rs).P.dseq, .slice da (pdecC rs).dh.length dc, .slice ka (pdecC rs).ks.length kc, .slice sa (pdecC rs).ss.length sc, .slice ha (pdecC rs).hs.length hc], (pdecA rs).v, .int .i64 (pdecE rs)]) ∧ POwnA w'.heap.size w'' (pdecC rs) (.slice na (pdecC rs).nb.length nc) (.slice da (pdecC rs).dh.length dc) (.slice ka (pdecC rs).ks.length kc) (.slice sa (pdecC rs).ss.length sc) (.slice ha (pdecC rs).hs.length hc) ∧ Touch (fun _ => False) w' w'') := fun v w' h => by
  refine (pdecA_any v rs w' h hby (by omega)).mono ?_
  rintro e w'' ⟨vn, vd, vk, vs, vh, rfl, po, t⟩
  obtain ⟨na, nc, da, dc, ka, kc, sa, sc, ha, hc, rfl, rfl, rfl, rfl, rfl⟩ := po.own.rw.forms
  exact ⟨na, nc, da, dc, ka, kc, sa, sc, ha, hc, rfl, po, t⟩
 have HE : Hid (∀ w', ArgAt w' (.slice va rs.length vc) rs → Calls Tryz.prog 18 #[.slice va rs.length vc] w' fun e w'' => ∃ na nc da dc ka kc sa sc ha hc, e = .returned (.tuple #[.agg #[.int .u8 (pdecC rs).P.typ, .int .u32 (pdecC rs).P.router, .int .u32 (pdecC rs).P.area, .int .u32 (pdecC rs).P.mask, .int .u16 (pdecC rs).P.iv, .int .u8 (pdecC rs).P.opts, .int .u8 (pdecC rs).P.prio, .int .u32 (pdecC rs).P.dead, .int .u32 (pdecC rs).P.dr, .int .u32 (pdecC rs).P.bdr, .slice na (pdecC rs).nb.length nc, .int .u16 (pdecC rs).P.mtu, .int .u8 (pdecC rs).P.dopts, .int .u8 (pdecC rs).P.dflags, .int .u32 (pdecC rs).P.dseq, .slice da (pdecC rs).dh.length dc, .slice ka (pdecC rs).ks.length kc, .slice sa (pdecC rs).ss.length sc, .slice ha (pdecC rs).hs.length hc], (pdecA rs).v, .int .i64 (pdecE rs)]) ∧ PkAt w'' (pdecC rs) (.slice na (pdecC rs).nb.length nc) (.slice da (pdecC rs).dh.length dc) (.slice ka (pdecC rs).ks.length kc) (.slice sa (pdecC rs).ss.length sc) (.slice ha (pdecC rs).hs.length hc) ∧ Touch (fun _ => False) w' w'') := fun w' h => by
  refine (hdd w' h).mono ?_
  rintro e w'' ⟨t, vn, vd, vk, vs, vh, rfl, po⟩
  obtain ⟨na, nc, da, dc, ka, kc, sa, sc, ha, hc, rfl, rfl, rfl, rfl, rfl⟩ := po.forms
  exact ⟨na, nc, da, dc, ka, kc, sa, sc, ha, hc, rfl, po, t⟩
 have HL : Hid (∀ v w', ArgAt w' v rs → Calls Tryz.prog 19 #[v] w' fun e w'' => e = .returned (.tuple #[.int .i64 (pLenN rs), .int .i64 (pLenE rs)]) ∧ Touch (fun _ => False) w' w'') := fun v w' h => plenP_any v rs w' h hby (by omega)
 have HM : Hid (∀ w', ArgAt w' (.slice va rs.length vc) rs → Calls Tryz.prog 20 #[.slice va rs.length vc] w' fun e w'' => e = .returned (.tuple #[.int .i64 (pLenN rs), .int .i64 (pLenE rs)]) ∧ Touch (fun _ => False) w' w'') := fun w' h => (dlen_any _ rs w' h hby).mono (fun e w'' ⟨h1, n, h2⟩ => ⟨h1, h2 ▸ (Touch.refl _ _).drewN n⟩)
 have HR : Hid (∀ v w', ArgAt w' v rs → Calls Tryz.prog 22 #[v] w' fun e w'' => e = .returned (.bool (pRight rs)) ∧ Touch (fun _ => False) w' w'') := fun v w' h => pright_any v rs w' h hby (by omega)
 have HS : Hid (∀ w', ArgAt w' (.slice va rs.length vc) rs → Calls Tryz.prog 23 #[.slice va rs.length vc] w' fun e w'' => e = .returned (.bool (pRight rs)) ∧ Touch (fun _ => False) w' w'') := fun w' h => dright_any _ rs w' h hby (by omega)
 have HQA : Hid (∀ w, Calls Tryz.prog 21 #[(pdecA rs).v, (pdecA rs).v] w fun e w' => e = .returned (.bool true) ∧ Touch (fun _ => False) w w') := fun w => peqA _ oa w
 unfold AuV.v at HD HE HQA
 generalize pdecC rs = C at *
 generalize pdecA rs = A at *
 generalize pdecE rs = E at *
 generalize pLenN rs = N at *
 generalize pLenE rs = M at *
 generalize pRight rs = RB at *
 have LT : Hid C.Lt := lt
 have LN : Hid C.Ln := ln
 have HLL : Hid (rs.length ≤ 131072 ∧ True) := ⟨hl, trivial⟩
 clear hv hby hdd lt ln oa hl
 go_enter Tryz.func4, Tryz.ntmps4
 go_wp2_with fail
 refine Calls.mono HWB ?_
 rintro e w1 ⟨rfl, hin, t1⟩
 obtain ⟨gi, hgi⟩ : ∃ g, w.heap.size = g := ⟨_, rfl⟩
 rw [hgi] at hin ⊢
 have HG : Hid (w.heap.size = gi) := hgi
 have HI : Hid (∀ w', Touch (fun _ => False) w1 w' → w'.heap[gi]? = some (.cells (bytesOf (rs ++ spareMarks rs.length)).toArray 5 (0, 0))) := fun w' t => t.heapN hin
 have HIA : Hid (∀ w', Touch (fun _ => False) w1 w' → ArgAt w' (.slice (some ⟨gi, 0, none⟩) rs.length (rs.length + 64)) rs) := fun w' t => (rowAt_block (t.heapN hin) (by rw [length_spareMarks]) (by have := HLL.out; unfold maxLen; omega)).arg
 have HIR : Hid (∀ w', Touch (fun _ => False) w1 w' → RowAt w' (.slice (some ⟨gi, 0, none⟩) rs.length (rs.length + 64)) rs) := fun w' t => rowAt_block (t.heapN hin) (by rw [length_spareMarks]) (by have := HLL.out; unfold maxLen; omega)
 have hgi1 : gi < w1.heap.size := lt_of_heap hin
 have T1 : Hid (Touch (fun _ => False) w w1) := t1
 clear hin t1 hgi HWB
 go_wp2_with fail
 refine Calls.mono (HD.out _ w1 (HIA.out _ (Touch.refl _ _))) ?_
 rintro e w2 ⟨na1, nc1, da1, dc1, ka1, kc1, sa1, sc1, ha1, hc1, rfl, po1, t2⟩
 obtain ⟨w3, hw3⟩ : ∃ w3, w3 = (((w2.alloc (.cells #[.int .u8 0, .int .u32 0, .int .u32 0, .int .u32 0, .int .u16 0, .int .u8 0, .int .u8 0, .int .u32 0, .int .u32 0, .int .u32 0, .slice none 0 0, .int .u16 0, .int .u8 0, .int .u8 0, .int .u32 0, .slice none 0 0, .slice none 0 0, .slice none 0 0, .slice none 0 0] 33)).alloc (.cells #[.int .u16 0, .int .u8 0, .int .u8 0, .int .u8 0, .int .u8 0, .int .u8 0, .int .u8 0, .int .u8 0, .int .u8 0] 44)).setRow w2.heap.size #[.int .u8 C.P.typ, .int .u32 C.P.router, .int .u32 C.P.area, .int .u32 C.P.mask, .int .u16 C.P.iv, .int .u8 C.P.opts, .int .u8 C.P.prio, .int .u32 C.P.dead, .int .u32 C.P.dr, .int .u32 C.P.bdr, .slice na1 C.nb.length nc1, .int .u16 C.P.mtu, .int .u8 C.P.dopts, .int .u8 C.P.dflags, .int .u32 C.P.dseq, .slice da1 C.dh.length dc1, .slice ka1 C.ks.length kc1, .slice sa1 C.ss.length sc1, .slice ha1 C.hs.length hc1]).setRow (w2.heap.size + 1) #[.int .u16 A.kind, .int .u8 A.d0, .int .u8 A.d1, .int .u8 A.d2, .int .u8 A.d3, .int .u8 A.d4, .int .u8 A.d5, .int .u8 A.d6, .int .u8 A.d7] := ⟨_, rfl⟩
 have ra : Row ((w2.alloc (.cells #[.int .u8 0, .int .u32 0, .int .u32 0, .int .u32 0, .int .u16 0, .int .u8 0, .int .u8 0, .int .u32 0, .int .u32 0, .int .u32 0, .slice none 0 0, .int .u16 0, .int .u8 0, .int .u8 0, .int .u32 0, .slice none 0 0, .slice none 0 0, .slice none 0 0, .slice none 0 0] 33)).alloc (.cells #[.int .u16 0, .int .u8 0, .int .u8 0, .int .u8 0, .int .u8 0, .int .u8 0, .int .u8 0, .int .u8 0, .int .u8 0] 44)) w2.heap.size 33 [.int .u8 0, .int .u32 0, .int .u32 0, .int .u32 0, .int .u16 0, .int .u8 0, .int .u8 0, .int .u32 0, .int .u32 0, .int .u32 0, .slice none 0 0, .int .u16 0, .int .u8 0, .int .u8 0, .int .u32 0, .slice none 0 0, .slice none 0 0, .slice none 0 0, .slice none 0 0] := (row_new w2 33 #[.int .u8 0, .int .u32 0, .int .u32 0, .int .u32 0, .int .u16 0, .int .u8 0, .int .u8 0, .int .u32 0, .int .u32 0, .int .u32 0, .slice none 0 0, .int .u16 0, .int .u8 0, .int .u8 0, .int .u32 0, .slice none 0 0, .slice none 0 0, .slice none 0 0, .slice none 0 0]).keep ((Touch.refl _ _).alloc _)
 have rb : Row ((w2.alloc (.cells #[.int .u8 0, .int .u32 0, .int .u32 0, .int .u32 0, .int .u16 0, .int .u8 0, .int .u8 0, .int .u32 0, .int .u32 0, .int .u32 0, .slice none 0 0, .int .u16 0, .int .u8 0, .int .u8 0, .int .u32 0, .slice none 0 0, .slice none 0 0, .slice none 0 0, .slice none 0 0] 33)).alloc (.cells #[.int .u16 0, .int .u8 0, .int .u8 0, .int .u8 0, .int .u8 0, .int .u8 0, .int .u8 0, .int .u8 0, .int .u8 0] 44)) (w2.heap.size + 1) 44 [.int .u16 0, .int .u8 0, .int .u8 0, .int .u8 0, .int .u8 0, .int .u8 0, .int .u8 0, .int .u8 0, .int .u8 0] := by
  have := row_new (w2.alloc (.cells #[.int .u8 0, .int .u32 0, .int .u32 0, .int .u32 0, .int .u16 0, .int .u8 0, .int .u8 0, .int .u32 0, .int .u32 0, .int .u32 0, .slice none 0 0, .int .u16 0, .int .u8 0, .int .u8 0, .int .u32 0, .slice none 0 0, .slice none 0 0, .slice none 0 0, .slice none 0 0] 33)) 44 #[.int .u16 0, .int .u8 0, .int .u8 0, .int .u8 0, .int .u8 0, .int .u8 0, .int .u8 0, .int .u8 0, .int .u8 0]
  simpa using this
 have rb2 : Row (((w2.alloc (.cells #[.int .u8 0, .int .u32 0, .int .u32 0, .int .u32 0, .int .u16 0, .int .u8 0, .int .u8 0, .int .u32 0, .int .u32 0, .int .u32 0, .slice none 0 0, .int .u16 0, .int .u8 0, .int .u8 0, .int .u32 0, .slice none 0 0, .slice none 0 0, .slice none 0 0, .slice none 0 0] 33)).alloc (.cells #[.int .u16 0, .int .u8 0, .int .u8 0, .int .u8 0, .int .u8 0, .int .u8 0, .int .u8 0, .int .u8 0, .int .u8 0] 44)).setRow w2.heap.size #[.int .u8 C.P.typ, .int .u32 C.P.router, .int .u32 C.P.area, .int .u32 C.P.mask, .int .u16 C.P.iv, .int .u8 C.P.opts, .int .u8 C.P.prio, .int .u32 C.P.dead, .int .u32 C.P.dr, .int .u32 C.P.bdr, .slice na1 C.nb.length nc1, .int .u16 C.P.mtu, .int .u8 C.P.dopts, .int .u8 C.P.dflags, .int .u32 C.P.dseq, .slice da1 C.dh.length dc1, .slice ka1 C.ks.length kc1, .slice sa1 C.ss.length sc1, .slice ha1 C.hs.length hc1]) (w2.heap.size + 1) 44 [.int .u16 0, .int .u8 0, .int .u8 0, .int .u8 0, .int .u8 0, .int .u8 0, .int .u8 0, .int .u8 0, .int .u8 0] := rb.otherRow (by omega) _
 have t3 : Touch (fun _ => False) w2 w3 := by rw [hw3]; exact ((((Touch.refl _ _).alloc _).alloc _).setRow (Or.inr (by omega)) _).setRow (Or.inr (by omega)) _
 have G3 : Row w3 w2.heap.size 33 [.int .u8 C.P.typ, .int .u32 C.P.router, .int .u32 C.P.area, .int .u32 C.P.mask, .int .u16 C.P.iv, .int .u8 C.P.opts, .int .u8 C.P.prio, .int .u32 C.P.dead, .int .u32 C.P.dr, .int .u32 C.P.bdr, .slice na1 C.nb.length nc1, .int .u16 C.P.mtu, .int .u8 C.P.dopts, .int .u8 C.P.dflags, .int .u32 C.P.dseq, .slice da1 C.dh.length dc1, .slice ka1 C.ks.length kc1, .slice sa1 C.ss.length sc1, .slice ha1 C.hs.length hc1] := by rw [hw3]; exact (ra.setRow _).otherRow (by omega) _
 have G4 : Row w3 (w2.heap.size + 1) 44 [.int .u16 A.kind, .int .u8 A.d0, .int .u8 A.d1, .int .u8 A.d2, .int .u8 A.d3, .int .u8 A.d4, .int .u8 A.d5, .int .u8 A.d6, .int .u8 A.d7] := by rw [hw3]; exact rb2.setRow _
 go_upto_region 5 with (first | refine wpList_store_row rfl 33 (.tmp 4) (.tmp 27) rfl w2.heap.size #[.int .u8 C.P.typ, .int .u32 C.P.router, .int .u32 C.P.area, .int .u32 C.P.mask, .int .u16 C.P.iv, .int .u8 C.P.opts, .int .u8 C.P.prio, .int .u32 C.P.dead, .int .u32 C.P.dr, .int .u32 C.P.bdr, .slice na1 C.nb.length nc1, .int .u16 C.P.mtu, .int .u8 C.P.dopts, .int .u8 C.P.dflags, .int .u32 C.P.dseq, .slice da1 C.dh.length dc1, .slice ka1 C.ks.length kc1, .slice sa1 C.ss.length sc1, .slice ha1 C.hs.length hc1] rfl rfl 33 _ ra (by kernel_rfl) rfl (by simp [Value.oneCell']) ?_ | refine wpList_store_row rfl 44 (.tmp 5) (.tmp 28) rfl (w2.heap.size + 1) #[.int .u16 A.kind, .int .u8 A.d0, .int .u8 A.d1, .int .u8 A.d2, .int .u8 A.d3, .int .u8 A.d4, .int .u8 A.d5, .int .u8 A.d6, .int .u8 A.d7] rfl rfl 44 _ rb2 (by kernel_rfl) rfl (by simp [Value.oneCell']) ?_)
 rw [← hw3]
 clear hw3 ra rb rb2
 obtain ⟨g4, hg4⟩ : ∃ g, w2.heap.size + 1 = g := ⟨_, rfl⟩
 obtain ⟨g3, hg3⟩ : ∃ g, w2.heap.size = g := ⟨_, rfl⟩
 rw [hg4] at G4 ⊢
 rw [hg3] at G3 ⊢
 clear hg3 hg4
 have Rg3 : Hid (∀ w', Touch (fun _ => False) w3 w' → Row w' g3 33 [.int .u8 C.P.typ, .int .u32 C.P.router, .int .u32 C.P.area, .int .u32 C.P.mask, .int .u16 C.P.iv, .int .u8 C.P.opts, .int .u8 C.P.prio, .int .u32 C.P.dead, .int .u32 C.P.dr, .int .u32 C.P.bdr, .slice na1 C.nb.length nc1, .int .u16 C.P.mtu, .int .u8 C.P.dopts, .int .u8 C.P.dflags, .int .u32 C.P.dseq, .slice da1 C.dh.length dc1, .slice ka1 C.ks.length kc1, .slice sa1 C.ss.length sc1, .slice ha1 C.hs.length hc1]) := fun w' t => G3.keep t
 have Rg4 : Hid (∀ w', Touch (fun _ => False) w3 w' → Row w' g4 44 [.int .u16 A.kind, .int .u8 A.d0, .int .u8 A.d1, .int .u8 A.d2, .int .u8 A.d3, .int .u8 A.d4, .int .u8 A.d5, .int .u8 A.d6, .int .u8 A.d7]) := fun w' t => G4.keep t
 have T12 : Hid (Touch (fun _ => False) w1 w2) := t2
 have T23 : Hid (Touch (fun _ => False) w2 w3) := t3
 have T13 : Hid (Touch (fun _ => False) w1 w3) := t2.trans t3
 have PO1 : Hid (POwnA w1.heap.size w2 C (.slice na1 C.nb.length nc1) (.slice da1 C.dh.length dc1) (.slice ka1 C.ks.length kc1) (.slice sa1 C.ss.length sc1) (.slice ha1 C.hs.length hc1)) := po1
 clear po1 t2 t3 G3 G4
 go_wp2_with fail
 refine Calls.mono (HD.out _ w3 (HIA.out _ T13.out)) ?_
 rintro e w4 ⟨na2, nc2, da2, dc2, ka2, kc2, sa2, sc2, ha2, hc2, rfl, po2, t4⟩
 obtain ⟨w5, hw3⟩ : ∃ w3, w3 = (((w4.alloc (.cells #[.int .u8 0, .int .u32 0, .int .u32 0, .int .u32 0, .int .u16 0, .int .u8 0, .int .u8 0, .int .u32 0, .int .u32 0, .int .u32 0, .slice none 0 0, .int .u16 0, .int .u8 0, .int .u8 0, .int .u32 0, .slice none 0 0, .slice none 0 0, .slice none 0 0, .slice none 0 0] 33)).alloc (.cells #[.int .u16 0, .int .u8 0, .int .u8 0, .int .u8 0, .int .u8 0, .int .u8 0, .int .u8 0, .int .u8 0, .int .u8 0] 44)).setRow w4.heap.size #[.int .u8 C.P.typ, .int .u32 C.P.router, .int .u32 C.P.area, .int .u32 C.P.mask, .int .u16 C.P.iv, .int .u8 C.P.opts, .int .u8 C.P.prio, .int .u32 C.P.dead, .int .u32 C.P.dr, .int .u32 C.P.bdr, .slice na2 C.nb.length nc2, .int .u16 C.P.mtu, .int .u8 C.P.dopts, .int .u8 C.P.dflags, .int .u32 C.P.dseq, .slice da2 C.dh.length dc2, .slice ka2 C.ks.length kc2, .slice sa2 C.ss.length sc2, .slice ha2 C.hs.length hc2]).setRow (w4.heap.size + 1) #[.int .u16 A.kind, .int .u8 A.d0, .int .u8 A.d1, .int .u8 A.d2, .int .u8 A.d3, .int .u8 A.d4, .int .u8 A.d5, .int .u8 A.d6, .int .u8 A.d7] := ⟨_, rfl⟩
 have ra : Row ((w4.alloc (.cells #[.int .u8 0, .int .u32 0, .int .u32 0, .int .u32 0, .int .u16 0, .int .u8 0, .int .u8 0, .int .u32 0, .int .u32 0, .int .u32 0, .slice none 0 0, .int .u16 0, .int .u8 0, .int .u8 0, .int .u32 0, .slice none 0 0, .slice none 0 0, .slice none 0 0, .slice none 0 0] 33)).alloc (.cells #[.int .u16 0, .int .u8 0, .int .u8 0, .int .u8 0, .int .u8 0, .int .u8 0, .int .u8 0, .int .u8 0, .int .u8 0] 44)) w4.heap.size 33 [.int .u8 0, .int .u32 0, .int .u32 0, .int .u32 0, .int .u16 0, .int .u8 0, .int .u8 0, .int .u32 0, .int .u32 0, .int .u32 0, .slice none 0 0, .int .u16 0, .int .u8 0, .int .u8 0, .int .u32 0, .slice none 0 0, .slice none 0 0, .slice none 0 0, .slice none 0 0] := (row_new w4 33 #[.int .u8 0, .int .u32 0, .int .u32 0, .int .u32 0, .int .u16 0, .int .u8 0, .int .u8 0, .int .u32 0, .int .u32 0, .int .u32 0, .slice none 0 0, .int .u16 0, .int .u8 0, .int .u8 0, .int .u32 0, .slice none 0 0, .slice none 0 0, .slice none 0 0, .slice none 0 0]).keep ((Touch.refl _ _).alloc _)
 have rb : Row ((w4.alloc (.cells #[.int .u8 0, .int .u32 0, .int .u32 0, .int .u32 0, .int .u16 0, .int .u8 0, .int .u8 0, .int .u32 0, .int .u32 0, .int .u32 0, .slice none 0 0, .int .u16 0, .int .u8 0, .int .u8 0, .int .u32 0, .slice none 0 0, .slice none 0 0, .slice none 0 0, .slice none 0 0] 33)).alloc (.cells #[.int .u16 0, .int .u8 0, .int .u8 0, .int .u8 0, .int .u8 0, .int .u8 0, .int .u8 0, .int .u8 0, .int .u8 0] 44)) (w4.heap.size + 1) 44 [.int .u16 0, .int .u8 0, .int .u8 0, .int .u8 0, .int .u8 0, .int .u8 0, .int .u8 0, .int .u8 0, .int .u8 0] := by
  have := row_new (w4.alloc (.cells #[.int .u8 0, .int .u32 0, .int .u32 0, .int .u32 0, .int .u16 0, .int .u8 0, .int .u8 0, .int .u32 0, .int .u32 0, .int .u32 0, .slice none 0 0, .int .u16 0, .int .u8 0, .int .u8 0, .int .u32 0, .slice none 0 0, .slice none 0 0, .slice none 0 0, .slice none 0 0] 33)) 44 #[.int .u16 0, .int .u8 0, .int .u8 0, .int .u8 0, .int .u8 0, .int .u8 0, .int .u8 0, .int .u8 0, .int .u8 0]
  simpa using this
 have rb2 : Row (((w4.alloc (.cells #[.int .u8 0, .int .u32 0, .int .u32 0, .int .u32 0, .int .u16 0, .int .u8 0, .int .u8 0, .int .u32 0, .int .u32 0, .int .u32 0, .slice none 0 0, .int .u16 0, .int .u8 0, .int .u8 0, .int .u32 0, .slice none 0 0, .slice none 0 0, .slice none 0 0, .slice none 0 0] 33)).alloc (.cells #[.int .u16 0, .int .u8 0, .int .u8 0, .int .u8 0, .int .u8 0, .int .u8 0, .int .u8 0, .int .u8 0, .int .u8 0] 44)).setRow w4.heap.size #[.int .u8 C.P.typ, .int .u32 C.P.router, .int .u32 C.P.area, .int .u32 C.P.mask, .int .u16 C.P.iv, .int .u8 C.P.opts, .int .u8 C.P.prio, .int .u32 C.P.dead, .int .u32 C.P.dr, .int .u32 C.P.bdr, .slice na2 C.nb.length nc2, .int .u16 C.P.mtu, .int .u8 C.P.dopts, .int .u8 C.P.dflags, .int .u32 C.P.dseq, .slice da2 C.dh.length dc2, .slice ka2 C.ks.length kc2, .slice sa2 C.ss.length sc2, .slice ha2 C.hs.length hc2]) (w4.heap.size + 1) 44 [.int .u16 0, .int .u8 0, .int .u8 0, .int .u8 0, .int .u8 0, .int .u8 0, .int .u8 0, .int .u8 0, .int .u8 0] := rb.otherRow (by omega) _
 have t3 : Touch (fun _ => False) w4 w5 := by rw [hw3]; exact ((((Touch.refl _ _).alloc _).alloc _).setRow (Or.inr (by omega)) _).setRow (Or.inr (by omega)) _
 have G3 : Row w5 w4.heap.size 33 [.int .u8 C.P.typ, .int .u32 C.P.router, .int .u32 C.P.area, .int .u32 C.P.mask, .int .u16 C.P.iv, .int .u8 C.P.opts, .int .u8 C.P.prio, .int .u32 C.P.dead, .int .u32 C.P.dr, .int .u32 C.P.bdr, .slice na2 C.nb.length nc2, .int .u16 C.P.mtu, .int .u8 C.P.dopts, .int .u8 C.P.dflags, .int .u32 C.P.dseq, .slice da2 C.dh.length dc2, .slice ka2 C.ks.length kc2, .slice sa2 C.ss.length sc2, .slice ha2 C.hs.length hc2] := by rw [hw3]; exact (ra.setRow _).otherRow (by omega) _
 have G4 : Row w5 (w4.heap.size + 1) 44 [.int .u16 A.kind, .int .u8 A.d0, .int .u8 A.d1, .int .u8 A.d2, .int .u8 A.d3, .int .u8 A.d4, .int .u8 A.d5, .int .u8 A.d6, .int .u8 A.d7] := by rw [hw3]; exact rb2.setRow _
 go_upto_region 6 with (first | refine wpList_store_row rfl 33 (.tmp 7) (.tmp 33) rfl w4.heap.size #[.int .u8 C.P.typ, .int .u32 C.P.router, .int .u32 C.P.area, .int .u32 C.P.mask, .int .u16 C.P.iv, .int .u8 C.P.opts, .int .u8 C.P.prio, .int .u32 C.P.dead, .int .u32 C.P.dr, .int .u32 C.P.bdr, .slice na2 C.nb.length nc2, .int .u16 C.P.mtu, .int .u8 C.P.dopts, .int .u8 C.P.dflags, .int .u32 C.P.dseq, .slice da2 C.dh.length dc2, .slice ka2 C.ks.length kc2, .slice sa2 C.ss.length sc2, .slice ha2 C.hs.length hc2] rfl rfl 33 _ ra (by kernel_rfl) rfl (by simp [Value.oneCell']) ?_ | refine wpList_store_row rfl 44 (.tmp 8) (.tmp 34) rfl (w4.heap.size + 1) #[.int .u16 A.kind, .int .u8 A.d0, .int .u8 A.d1, .int .u8 A.d2, .int .u8 A.d3, .int .u8 A.d4, .int .u8 A.d5, .int .u8 A.d6, .int .u8 A.d7] rfl rfl 44 _ rb2 (by kernel_rfl) rfl (by simp [Value.oneCell']) ?_)
 rw [← hw3]
 clear hw3 ra rb rb2
 obtain ⟨g6, hg6⟩ : ∃ g, w4.heap.size + 1 = g := ⟨_, rfl⟩
 obtain ⟨g5, hg5⟩ : ∃ g, w4.heap.size = g := ⟨_, rfl⟩
 rw [hg6] at G4 ⊢
 rw [hg5] at G3 ⊢
 clear hg5 hg6
 have Rg5 : Hid (∀ w', Touch (fun _ => False) w5 w' → Row w' g5 33 [.int .u8 C.P.typ, .int .u32 C.P.router, .int .u32 C.P.area, .int .u32 C.P.mask, .int .u16 C.P.iv, .int .u8 C.P.opts, .int .u8 C.P.prio, .int .u32 C.P.dead, .int .u32 C.P.dr, .int .u32 C.P.bdr, .slice na2 C.nb.length nc2, .int .u16 C.P.mtu, .int .u8 C.P.dopts, .int .u8 C.P.dflags, .int .u32 C.P.dseq, .slice da2 C.dh.length dc2, .slice ka2 C.ks.length kc2, .slice sa2 C.ss.length sc2, .slice ha2 C.hs.length hc2]) := fun w' t => G3.keep t
 have Rg6 : Hid (∀ w', Touch (fun _ => False) w5 w' → Row w' g6 44 [.int .u16 A.kind, .int .u8 A.d0, .int .u8 A.d1, .int .u8 A.d2, .int .u8 A.d3, .int .u8 A.d4, .int .u8 A.d5, .int .u8 A.d6, .int .u8 A.d7]) := fun w' t => G4.keep t
 have T34 : Hid (Touch (fun _ => False) w3 w4) := t4
 have T45 : Hid (Touch (fun _ => False) w4 w5) := t3
 have T15 : Hid (Touch (fun _ => False) w1 w5) := T13.out.trans (t4.trans t3)
 have PO2 : Hid (POwnA w3.heap.size w4 C (.slice na2 C.nb.length nc2) (.slice da2 C.dh.length dc2) (.slice ka2 C.ks.length kc2) (.slice sa2 C.ss.length sc2) (.slice ha2 C.hs.length hc2)) := po2
 clear po2 t4 t3 G3 G4
 go_wp2_with fail
 refine Calls.mono (HE.out w5 (HV.out _ (T1.out.trans T15.out))) ?_
 rintro e w6 ⟨na3, nc3, da3, dc3, ka3, kc3, sa3, sc3, ha3, hc3, rfl, po3, t6⟩
 obtain ⟨w7, hw3⟩ : ∃ w3, w3 = (((w6.alloc (.cells #[.int .u8 0, .int .u32 0, .int .u32 0, .int .u32 0, .int .u16 0, .int .u8 0, .int .u8 0, .int .u32 0, .int .u32 0, .int .u32 0, .slice none 0 0, .int .u16 0, .int .u8 0, .int .u8 0, .int .u32 0, .slice none 0 0, .slice none 0 0, .slice none 0 0, .slice none 0 0] 33)).alloc (.cells #[.int .u16 0, .int .u8 0, .int .u8 0, .int .u8 0, .int .u8 0, .int .u8 0, .int .u8 0, .int .u8 0, .int .u8 0] 36)).setRow w6.heap.size #[.int .u8 C.P.typ, .int .u32 C.P.router, .int .u32 C.P.area, .int .u32 C.P.mask, .int .u16 C.P.iv, .int .u8 C.P.opts, .int .u8 C.P.prio, .int .u32 C.P.dead, .int .u32 C.P.dr, .int .u32 C.P.bdr, .slice na3 C.nb.length nc3, .int .u16 C.P.mtu, .int .u8 C.P.dopts, .int .u8 C.P.dflags, .int .u32 C.P.dseq, .slice da3 C.dh.length dc3, .slice ka3 C.ks.length kc3, .slice sa3 C.ss.length sc3, .slice ha3 C.hs.length hc3]).setRow (w6.heap.size + 1) #[.int .u16 A.kind, .int .u8 A.d0, .int .u8 A.d1, .int .u8 A.d2, .int .u8 A.d3, .int .u8 A.d4, .int .u8 A.d5, .int .u8 A.d6, .int .u8 A.d7] := ⟨_, rfl⟩
 have ra : Row ((w6.alloc (.cells #[.int .u8 0, .int .u32 0, .int .u32 0, .int .u32 0, .int .u16 0, .int .u8 0, .int .u8 0, .int .u32 0, .int .u32 0, .int .u32 0, .slice none 0 0, .int .u16 0, .int .u8 0, .int .u8 0, .int .u32 0, .slice none 0 0, .slice none 0 0, .slice none 0 0, .slice none 0 0] 33)).alloc (.cells #[.int .u16 0, .int .u8 0, .int .u8 0, .int .u8 0, .int .u8 0, .int .u8 0, .int .u8 0, .int .u8 0, .int .u8 0] 36)) w6.heap.size 33 [.int .u8 0, .int .u32 0, .int .u32 0, .int .u32 0, .int .u16 0, .int .u8 0, .int .u8 0, .int .u32 0, .int .u32 0, .int .u32 0, .slice none 0 0, .int .u16 0, .int .u8 0, .int .u8 0, .int .u32 0, .slice none 0 0, .slice none 0 0, .slice none 0 0, .slice none 0 0] := (row_new w6 33 #[.int .u8 0, .int .u32 0, .int .u32 0, .int .u32 0, .int .u16 0, .int .u8 0, .int .u8 0, .int .u32 0, .int .u32 0, .int .u32 0, .slice none 0 0, .int .u16 0, .int .u8 0, .int .u8 0, .int .u32 0, .slice none 0 0, .slice none 0 0, .slice none 0 0, .slice none 0 0]).keep ((Touch.refl _ _).alloc _)
 have rb : Row ((w6.alloc (.cells #[.int .u8 0, .int .u32 0, .int .u32 0, .int .u32 0, .int .u16 0, .int .u8 0, .int .u8 0, .int .u32 0, .int .u32 0, .int .u32 0, .slice none 0 0, .int .u16 0, .int .u8 0, .int .u8 0, .int .u32 0, .slice none 0 0, .slice none 0 0, .slice none 0 0, .slice none 0 0] 33)).alloc (.cells #[.int .u16 0, .int .u8 0, .int .u8 0, .int .u8 0, .int .u8 0, .int .u8 0, .int .u8 0, .int .u8 0, .int .u8 0] 36)) (w6.heap.size + 1) 36 [.int .u16 0, .int .u8 0, .int .u8 0, .int .u8 0, .int .u8 0, .int .u8 0, .int .u8 0, .int .u8 0, .int .u8 0] := by
  have := row_new (w6.alloc (.cells #[.int .u8 0, .int .u32 0, .int .u32 0, .int .u32 0, .int .u16 0, .int .u8 0, .int .u8 0, .int .u32 0, .int .u32 0, .int .u32 0, .slice none 0 0, .int .u16 0, .int .u8 0, .int .u8 0, .int .u32 0, .slice none 0 0, .slice none 0 0, .slice none 0 0, .slice none 0 0] 33)) 36 #[.int .u16 0, .int .u8 0, .int .u8 0, .int .u8 0, .int .u8 0, .int .u8 0, .int .u8 0, .int .u8 0, .int .u8 0]
  simpa using this
 have rb2 : Row (((w6.alloc (.cells #[.int .u8 0, .int .u32 0, .int .u32 0, .int .u32 0, .int .u16 0, .int .u8 0, .int .u8 0, .int .u32 0, .int .u32 0, .int .u32 0, .slice none 0 0, .int .u16 0, .int .u8 0, .int .u8 0, .int .u32 0, .slice none 0 0, .slice none 0 0, .slice none 0 0, .slice none 0 0] 33)).alloc (.cells #[.int .u16 0, .int .u8 0, .int .u8 0, .int .u8 0, .int .u8 0, .int .u8 0, .int .u8 0, .int .u8 0, .int .u8 0] 36)).setRow w6.heap.size #[.int .u8 C.P.typ, .int .u32 C.P.router, .int .u32 C.P.area, .int .u32 C.P.mask, .int .u16 C.P.iv, .int .u8 C.P.opts, .int .u8 C.P.prio, .int .u32 C.P.dead, .int .u32 C.P.dr, .int .u32 C.P.bdr, .slice na3 C.nb.length nc3, .int .u16 C.P.mtu, .int .u8 C.P.dopts, .int .u8 C.P.dflags, .int .u32 C.P.dseq, .slice da3 C.dh.length dc3, .slice ka3 C.ks.length kc3, .slice sa3 C.ss.length sc3, .slice ha3 C.hs.length hc3]) (w6.heap.size + 1) 36 [.int .u16 0, .int .u8 0, .int .u8 0, .int .u8 0, .int .u8 0, .int .u8 0, .int .u8 0, .int .u8 0, .int .u8 0] := rb.otherRow (by omega) _
 have t3 : Touch (fun _ => False) w6 w7 := by rw [hw3]; exact ((((Touch.refl _ _).alloc _).alloc _).setRow (Or.inr (by omega)) _).setRow (Or.inr (by omega)) _
 have G3 : Row w7 w6.heap.size 33 [.int .u8 C.P.typ, .int .u32 C.P.router, .int .u32 C.P.area, .int .u32 C.P.mask, .int .u16 C.P.iv, .int .u8 C.P.opts, .int .u8 C.P.prio, .int .u32 C.P.dead, .int .u32 C.P.dr, .int .u32 C.P.bdr, .slice na3 C.nb.length nc3, .int .u16 C.P.mtu, .int .u8 C.P.dopts, .int .u8 C.P.dflags, .int .u32 C.P.dseq, .slice da3 C.dh.length dc3, .slice ka3 C.ks.length kc3, .slice sa3 C.ss.length sc3, .slice ha3 C.hs.length hc3] := by rw [hw3]; exact (ra.setRow _).otherRow (by omega) _
 have G4 : Row w7 (w6.heap.size + 1) 36 [.int .u16 A.kind, .int .u8 A.d0, .int .u8 A.d1, .int .u8 A.d2, .int .u8 A.d3, .int .u8 A.d4, .int .u8 A.d5, .int .u8 A.d6, .int .u8 A.d7] := by rw [hw3]; exact rb2.setRow _
 go_upto_region 7 with (first | refine wpList_store_row rfl 33 (.tmp 10) (.tmp 39) rfl w6.heap.size #[.int .u8 C.P.typ, .int .u32 C.P.router, .int .u32 C.P.area, .int .u32 C.P.mask, .int .u16 C.P.iv, .int .u8 C.P.opts, .int .u8 C.P.prio, .int .u32 C.P.dead, .int .u32 C.P.dr, .int .u32 C.P.bdr, .slice na3 C.nb.length nc3, .int .u16 C.P.mtu, .int .u8 C.P.dopts, .int .u8 C.P.dflags, .int .u32 C.P.dseq, .slice da3 C.dh.length dc3, .slice ka3 C.ks.length kc3, .slice sa3 C.ss.length sc3, .slice ha3 C.hs.length hc3] rfl rfl 33 _ ra (by kernel_rfl) rfl (by simp [Value.oneCell']) ?_ | refine wpList_store_row rfl 36 (.tmp 11) (.tmp 40) rfl (w6.heap.size + 1) #[.int .u16 A.kind, .int .u8 A.d0, .int .u8 A.d1, .int .u8 A.d2, .int .u8 A.d3, .int .u8 A.d4, .int .u8 A.d5, .int .u8 A.d6, .int .u8 A.d7] rfl rfl 36 _ rb2 (by kernel_rfl) rfl (by simp [Value.oneCell']) ?_)
 rw [← hw3]
 clear hw3 ra rb rb2
 obtain ⟨g8, hg8⟩ : ∃ g, w6.heap.size + 1 = g := ⟨_, rfl⟩
 obtain ⟨g7, hg7⟩ : ∃ g, w6.heap.size = g := ⟨_, rfl⟩
 rw [hg8] at G4 ⊢
 rw [hg7] at G3 ⊢
 clear hg7 hg8
 have Rg7 : Hid (∀ w', Touch (fun _ => False) w7 w' → Row w' g7 33 [.int .u8 C.P.typ, .int .u32 C.P.router, .int .u32 C.P.area, .int .u32 C.P.mask, .int .u16 C.P.iv, .int .u8 C.P.opts, .int .u8 C.P.prio, .int .u32 C.P.dead, .int .u32 C.P.dr, .int .u32 C.P.bdr, .slice na3 C.nb.length nc3, .int .u16 C.P.mtu, .int .u8 C.P.dopts, .int .u8 C.P.dflags, .int .u32 C.P.dseq, .slice da3 C.dh.length dc3, .slice ka3 C.ks.length kc3, .slice sa3 C.ss.length sc3, .slice ha3 C.hs.length hc3]) := fun w' t => G3.keep t
 have Rg8 : Hid (∀ w', Touch (fun _ => False) w7 w' → Row w' g8 36 [.int .u16 A.kind, .int .u8 A.d0, .int .u8 A.d1, .int .u8 A.d2, .int .u8 A.d3, .int .u8 A.d4, .int .u8 A.d5, .int .u8 A.d6, .int .u8 A.d7]) := fun w' t => G4.keep t
 have T57 : Hid (Touch (fun _ => False) w5 w7) := t6.trans t3
 have T17 : Hid (Touch (fun _ => False) w1 w7) := T15.out.trans T57.out
 have PO3 : Hid (∀ w', Touch (fun _ => False) w7 w' → PkAt w' C (.slice na3 C.nb.length nc3) (.slice da3 C.dh.length dc3) (.slice ka3 C.ks.length kc3) (.slice sa3 C.ss.length sc3) (.slice ha3 C.hs.length hc3)) := fun w' t => po3.keep (t3.trans t)
 clear po3 t6 t3 G3 G4
 go_wp2_with fail
 refine Calls.mono (HL.out _ w7 (HIA.out _ T17.out)) ?_
 rintro e w8 ⟨rfl, t8⟩
 have T78 : Hid (Touch (fun _ => False) w7 w8) := t8
 clear t8
 go_wp2_with fail
 refine Calls.mono (HM.out w8 (HV.out _ (T1.out.trans (T17.out.trans T78.out)))) ?_
 rintro e w9 ⟨rfl, t9⟩
 have T79 : Hid (Touch (fun _ => False) w7 w9) := T78.out.trans t9
 have T19 : Hid (Touch (fun _ => False) w1 w9) := T17.out.trans T79.out
 clear t9 T78
 go_upto_region 9 with fail
 have T59 : Hid (Touch (fun _ => False) w5 w9) := T57.out.trans T79.out
 have T39 : Hid (Touch (fun _ => False) w3 w9) := (T34.out.trans T45.out).trans T59.out
 have Q3 : Hid (∀ w', Touch (fun _ => False) w9 w' → Row w' g3 33 [.int .u8 C.P.typ, .int .u32 C.P.router, .int .u32 C.P.area, .int .u32 C.P.mask, .int .u16 C.P.iv, .int .u8 C.P.opts, .int .u8 C.P.prio, .int .u32 C.P.dead, .int .u32 C.P.dr, .int .u32 C.P.bdr, .slice na1 C.nb.length nc1, .int .u16 C.P.mtu, .int .u8 C.P.dopts, .int .u8 C.P.dflags, .int .u32 C.P.dseq, .slice da1 C.dh.length dc1, .slice ka1 C.ks.length kc1, .slice sa1 C.ss.length sc1, .slice ha1 C.hs.length hc1]) := fun w' t => Rg3.out w' (T39.out.trans t)
 have Q4 : Hid (∀ w', Touch (fun _ => False) w9 w' → Row w' g4 44 [.int .u16 A.kind, .int .u8 A.d0, .int .u8 A.d1, .int .u8 A.d2, .int .u8 A.d3, .int .u8 A.d4, .int .u8 A.d5, .int .u8 A.d6, .int .u8 A.d7]) := fun w' t => Rg4.out w' (T39.out.trans t)
 have Q5 : Hid (∀ w', Touch (fun _ => False) w9 w' → Row w' g5 33 [.int .u8 C.P.typ, .int .u32 C.P.router, .int .u32 C.P.area, .int .u32 C.P.mask, .int .u16 C.P.iv, .int .u8 C.P.opts, .int .u8 C.P.prio, .int .u32 C.P.dead, .int .u32 C.P.dr, .int .u32 C.P.bdr, .slice na2 C.nb.length nc2, .int .u16 C.P.mtu, .int .u8 C.P.dopts, .int .u8 C.P.dflags, .int .u32 C.P.dseq, .slice da2 C.dh.length dc2, .slice ka2 C.ks.length kc2, .slice sa2 C.ss.length sc2, .slice ha2 C.hs.length hc2]) := fun w' t => Rg5.out w' (T59.out.trans t)
 have Q6 : Hid (∀ w', Touch (fun _ => False) w9 w' → Row w' g6 44 [.int .u16 A.kind, .int .u8 A.d0, .int .u8 A.d1, .int .u8 A.d2, .int .u8 A.d3, .int .u8 A.d4, .int .u8 A.d5, .int .u8 A.d6, .int .u8 A.d7]) := fun w' t => Rg6.out w' (T59.out.trans t)
 have Q7 : Hid (∀ w', Touch (fun _ => False) w9 w' → Row w' g7 33 [.int .u8 C.P.typ, .int .u32 C.P.router, .int .u32 C.P.area, .int .u32 C.P.mask, .int .u16 C.P.iv, .int .u8 C.P.opts, .int .u8 C.P.prio, .int .u32 C.P.dead, .int .u32 C.P.dr, .int .u32 C.P.bdr, .slice na3 C.nb.length nc3, .int .u16 C.P.mtu, .int .u8 C.P.dopts, .int .u8 C.P.dflags, .int .u32 C.P.dseq, .slice da3 C.dh.length dc3, .slice ka3 C.ks.length kc3, .slice sa3 C.ss.length sc3, .slice ha3 C.hs.length hc3]) := fun w' t => Rg7.out w' (T79.out.trans t)
 have Q8 : Hid (∀ w', Touch (fun _ => False) w9 w' → Row w' g8 36 [.int .u16 A.kind, .int .u8 A.d0, .int .u8 A.d1, .int .u8 A.d2, .int .u8 A.d3, .int .u8 A.d4, .int .u8 A.d5, .int .u8 A.d6, .int .u8 A.d7]) := fun w' t => Rg8.out w' (T79.out.trans t)
 have HQ1 : Hid (∀ w', Touch (fun _ => False) w9 w' → Calls Tryz.prog 12 #[.agg #[.int .u8 C.P.typ, .int .u32 C.P.router, .int .u32 C.P.area, .int .u32 C.P.mask, .int .u16 C.P.iv, .int .u8 C.P.opts, .int .u8 C.P.prio, .int .u32 C.P.dead, .int .u32 C.P.dr, .int .u32 C.P.bdr, .slice na1 C.nb.length nc1, .int .u16 C.P.mtu, .int .u8 C.P.dopts, .int .u8 C.P.dflags, .int .u32 C.P.dseq, .slice da1 C.dh.length dc1, .slice ka1 C.ks.length kc1, .slice sa1 C.ss.length sc1, .slice ha1 C.hs.length hc1], .agg #[.int .u8 C.P.typ, .int .u32 C.P.router, .int .u32 C.P.area, .int .u32 C.P.mask, .int .u16 C.P.iv, .int .u8 C.P.opts, .int .u8 C.P.prio, .int .u32 C.P.dead, .int .u32 C.P.dr, .int .u32 C.P.bdr, .slice na3 C.nb.length nc3, .int .u16 C.P.mtu, .int .u8 C.P.dopts, .int .u8 C.P.dflags, .int .u32 C.P.dseq, .slice da3 C.dh.length dc3, .slice ka3 C.ks.length kc3, .slice sa3 C.ss.length sc3, .slice ha3 C.hs.length hc3]] w' fun e w'' => e = .returned (.bool true) ∧ Touch (fun _ => False) w' w'') := fun w' t => epacket C _ _ _ _ _ _ _ _ _ _ w' (PO1.out.own.rw.keep (T23.out.trans (T39.out.trans t))) (PO3.out w' (T79.out.trans t))
 have HQ2 : Hid (∀ w', Touch (fun _ => False) w9 w' → Calls Tryz.prog 12 #[.agg #[.int .u8 C.P.typ, .int .u32 C.P.router, .int .u32 C.P.area, .int .u32 C.P.mask, .int .u16 C.P.iv, .int .u8 C.P.opts, .int .u8 C.P.prio, .int .u32 C.P.dead, .int .u32 C.P.dr, .int .u32 C.P.bdr, .slice na2 C.nb.length nc2, .int .u16 C.P.mtu, .int .u8 C.P.dopts, .int .u8 C.P.dflags, .int .u32 C.P.dseq, .slice da2 C.dh.length dc2, .slice ka2 C.ks.length kc2, .slice sa2 C.ss.length sc2, .slice ha2 C.hs.length hc2], .agg #[.int .u8 C.P.typ, .int .u32 C.P.router, .int .u32 C.P.area, .int .u32 C.P.mask, .int .u16 C.P.iv, .int .u8 C.P.opts, .int .u8 C.P.prio, .int .u32 C.P.dead, .int .u32 C.P.dr, .int .u32 C.P.bdr, .slice na3 C.nb.length nc3, .int .u16 C.P.mtu, .int .u8 C.P.dopts, .int .u8 C.P.dflags, .int .u32 C.P.dseq, .slice da3 C.dh.length dc3, .slice ka3 C.ks.length kc3, .slice sa3 C.ss.length sc3, .slice ha3 C.hs.length hc3]] w' fun e w'' => e = .returned (.bool true) ∧ Touch (fun _ => False) w' w'') := fun w' t => epacket C _ _ _ _ _ _ _ _ _ _ w' (PO2.out.own.rw.keep (T45.out.trans (T59.out.trans t))) (PO3.out w' (T79.out.trans t))
 have KS : Hid (gi < w1.heap.size ∧ w1.heap.size ≤ w2.heap.size ∧ w2.heap.size ≤ w3.heap.size ∧ w3.heap.size ≤ w4.heap.size ∧ w4.heap.size ≤ w5.heap.size ∧ w5.heap.size ≤ w9.heap.size ∧ g5 < w5.heap.size ∧ w.heap.size = gi) := ⟨hgi1, T12.out.size, T23.out.size, T34.out.size, T45.out.size, T59.out.size, (Rg5.out w5 (Touch.refl _ _)).lt, HG.out⟩
 clear HD HE HL HM Rg3 Rg4 Rg5 Rg6 Rg7 Rg8 PO3 hgi1
 have L4 := (Q4.out _ (Touch.refl _ _)).range
 have L8 := (Q8.out _ (Touch.refl _ _)).range
 go_wp2_with (first | refine wpList_load_mid_d (by rfl) 44 (.tmp 5) rfl g4 0 rfl [.int .u16 A.kind, .int .u8 A.d0, .int .u8 A.d1, .int .u8 A.d2, .int .u8 A.d3, .int .u8 A.d4, .int .u8 A.d5, .int .u8 A.d6, .int .u8 A.d7] _ L4 Tryz.underlying44 rfl (by kernel_rfl) ?_ | refine wpList_load_mid_d (by rfl) 36 (.tmp 11) rfl g8 0 rfl [.int .u16 A.kind, .int .u8 A.d0, .int .u8 A.d1, .int .u8 A.d2, .int .u8 A.d3, .int .u8 A.d4, .int .u8 A.d5, .int .u8 A.d6, .int .u8 A.d7] _ L8 Tryz.underlying36 rfl (by kernel_rfl) ?_)
 refine Calls.mono (HQA.out _) ?_
 rintro e x1 ⟨rfl, tx1⟩
 have Sx1 : Touch (fun _ => False) w9 x1 := tx1
 clear tx1 L4 L8
 have L6 := (Q6.out _ Sx1).range
 have L8 := (Q8.out _ Sx1).range
 go_wp2_with (first | refine wpList_load_mid_d (by rfl) 44 (.tmp 8) rfl g6 0 rfl [.int .u16 A.kind, .int .u8 A.d0, .int .u8 A.d1, .int .u8 A.d2, .int .u8 A.d3, .int .u8 A.d4, .int .u8 A.d5, .int .u8 A.d6, .int .u8 A.d7] _ L6 Tryz.underlying44 rfl (by kernel_rfl) ?_ | refine wpList_load_mid_d (by rfl) 36 (.tmp 11) rfl g8 0 rfl [.int .u16 A.kind, .int .u8 A.d0, .int .u8 A.d1, .int .u8 A.d2, .int .u8 A.d3, .int .u8 A.d4, .int .u8 A.d5, .int .u8 A.d6, .int .u8 A.d7] _ L8 Tryz.underlying36 rfl (by kernel_rfl) ?_)
 refine Calls.mono (HQA.out _) ?_
 rintro e x2 ⟨rfl, tx2⟩
 have Sx2 : Touch (fun _ => False) w9 x2 := Sx1.trans tx2
 clear tx2 L6 L8
 have L3 := (Q3.out _ Sx2).range
 have L7 := (Q7.out _ Sx2).range
 go_wp2_with (first | refine wpList_load_mid_d (by rfl) 33 (.tmp 4) rfl g3 0 rfl [.int .u8 C.P.typ, .int .u32 C.P.router, .int .u32 C.P.area, .int .u32 C.P.mask, .int .u16 C.P.iv, .int .u8 C.P.opts, .int .u8 C.P.prio, .int .u32 C.P.dead, .int .u32 C.P.dr, .int .u32 C.P.bdr, .slice na1 C.nb.length nc1, .int .u16 C.P.mtu, .int .u8 C.P.dopts, .int .u8 C.P.dflags, .int .u32 C.P.dseq, .slice da1 C.dh.length dc1, .slice ka1 C.ks.length kc1, .slice sa1 C.ss.length sc1, .slice ha1 C.hs.length hc1] _ L3 Tryz.underlying33 rfl (by kernel_rfl) ?_ | refine wpList_load_mid_d (by rfl) 33 (.tmp 10) rfl g7 0 rfl [.int .u8 C.P.typ, .int .u32 C.P.router, .int .u32 C.P.area, .int .u32 C.P.mask, .int .u16 C.P.iv, .int .u8 C.P.opts, .int .u8 C.P.prio, .int .u32 C.P.dead, .int .u32 C.P.dr, .int .u32 C.P.bdr, .slice na3 C.nb.length nc3, .int .u16 C.P.mtu, .int .u8 C.P.dopts, .int .u8 C.P.dflags, .int .u32 C.P.dseq, .slice da3 C.dh.length dc3, .slice ka3 C.ks.length kc3, .slice sa3 C.ss.length sc3, .slice ha3 C.hs.length hc3] _ L7 Tryz.underlying33 rfl (by kernel_rfl) ?_)
 refine Calls.mono (HQ1.out _ Sx2) ?_
 rintro e x3 ⟨rfl, tx3⟩
 have Sx3 : Touch (fun _ => False) w9 x3 := Sx2.trans tx3
 clear tx3 L3 L7
 have L5 := (Q5.out _ Sx3).range
 have L7 := (Q7.out _ Sx3).range
 go_wp2_with (first | refine wpList_load_mid_d (by rfl) 33 (.tmp 7) rfl g5 0 rfl [.int .u8 C.P.typ, .int .u32 C.P.router, .int .u32 C.P.area, .int .u32 C.P.mask, .int .u16 C.P.iv, .int .u8 C.P.opts, .int .u8 C.P.prio, .int .u32 C.P.dead, .int .u32 C.P.dr, .int .u32 C.P.bdr, .slice na2 C.nb.length nc2, .int .u16 C.P.mtu, .int .u8 C.P.dopts, .int .u8 C.P.dflags, .int .u32 C.P.dseq, .slice da2 C.dh.length dc2, .slice ka2 C.ks.length kc2, .slice sa2 C.ss.length sc2, .slice ha2 C.hs.length hc2] _ L5 Tryz.underlying33 rfl (by kernel_rfl) ?_ | refine wpList_load_mid_d (by rfl) 33 (.tmp 10) rfl g7 0 rfl [.int .u8 C.P.typ, .int .u32 C.P.router, .int .u32 C.P.area, .int .u32 C.P.mask, .int .u16 C.P.iv, .int .u8 C.P.opts, .int .u8 C.P.prio, .int .u32 C.P.dead, .int .u32 C.P.dr, .int .u32 C.P.bdr, .slice na3 C.nb.length nc3, .int .u16 C.P.mtu, .int .u8 C.P.dopts, .int .u8 C.P.dflags, .int .u32 C.P.dseq, .slice da3 C.dh.length dc3, .slice ka3 C.ks.length kc3, .slice sa3 C.ss.length sc3, .slice ha3 C.hs.length hc3] _ L7 Tryz.underlying33 rfl (by kernel_rfl) ?_)
 refine Calls.mono (HQ2.out _ Sx3) ?_
 rintro e x4 ⟨rfl, tx4⟩
 have Sx4 : Touch (fun _ => False) w9 x4 := Sx3.trans tx4
 clear tx4 L5 L7
 go_wp2_with fail
 refine Calls.mono (HR.out _ x4 (HIA.out _ (T19.out.trans Sx4))) ?_
 rintro e x5 ⟨rfl, tx5⟩
 have Sx5 : Touch (fun _ => False) w9 x5 := Sx4.trans tx5
 clear tx5
 go_wp2_with fail
 refine Calls.mono (HS.out x5 (HV.out _ (T1.out.trans (T19.out.trans Sx5)))) ?_
 rintro e x6 ⟨rfl, tx6⟩
 have Sx6 : Touch (fun _ => False) w9 x6 := Sx5.trans tx6
 clear tx6
 have T9 : Hid (Touch (fun _ => False) w9 x6) := Sx6
 clear Sx1 Sx2 Sx3 Sx4 Sx5 Sx6 HQ1 HQ2 HR HS HQA Q4 Q6 Q7 Q8
 go_upto_region 12 with fail
 have HB0 : Hid (BagP (x6.alloc (.cells #[.slice none 0 0, .slice none 0 0, .slice none 0 0, .slice none 0 0, .slice none 0 0, .slice none 0 0, .slice none 0 0, .slice none 0 0, .slice none 0 0, .slice none 0 0, .slice none 0 0, .slice none 0 0, .slice none 0 0, .slice none 0 0, .slice none 0 0, .slice none 0 0, .slice none 0 0, .slice none 0 0, .slice none 0 0] 70)) x6.heap.size (.slice none 0 0) [] (fun _ => .slice none 0 0) (fun _ => [])) := BagP.new x6 70
 have T9b : Hid (Touch (fun _ => False) w9 (x6.alloc (.cells #[.slice none 0 0, .slice none 0 0, .slice none 0 0, .slice none 0 0, .slice none 0 0, .slice none 0 0, .slice none 0 0, .slice none 0 0, .slice none 0 0, .slice none 0 0, .slice none 0 0, .slice none 0 0, .slice none 0 0, .slice none 0 0, .slice none 0 0, .slice none 0 0, .slice none 0 0, .slice none 0 0, .slice none 0 0] 70))) := T9.out.alloc _
 have KB : Hid (w9.heap.size ≤ x6.heap.size) := T9.out.size
 generalize x6.alloc (.cells #[.slice none 0 0, .slice none 0 0, .slice none 0 0, .slice none 0 0, .slice none 0 0, .slice none 0 0, .slice none 0 0, .slice none 0 0, .slice none 0 0, .slice none 0 0, .slice none 0 0, .slice none 0 0, .slice none 0 0, .slice none 0 0, .slice none 0 0, .slice none 0 0, .slice none 0 0, .slice none 0 0, .slice none 0 0] 70) = y0 at *
 generalize x6.heap.size = bb at *
 have T2y : Hid (Touch (fun _ => False) w2 y0) := T23.out.trans (T39.out.trans T9b.out)
 have T4y : Hid (Touch (fun _ => False) w4 y0) := T45.out.trans (T59.out.trans T9b.out)
 have T1y : Hid (Touch (fun _ => False) w1 y0) := T19.out.trans T9b.out
 have Q5y : Hid (Row y0 g5 33 [.int .u8 C.P.typ, .int .u32 C.P.router, .int .u32 C.P.area, .int .u32 C.P.mask, .int .u16 C.P.iv, .int .u8 C.P.opts, .int .u8 C.P.prio, .int .u32 C.P.dead, .int .u32 C.P.dr, .int .u32 C.P.bdr, .slice na2 C.nb.length nc2, .int .u16 C.P.mtu, .int .u8 C.P.dopts, .int .u8 C.P.dflags, .int .u32 C.P.dseq, .slice da2 C.dh.length dc2, .slice ka2 C.ks.length kc2, .slice sa2 C.ss.length sc2, .slice ha2 C.hs.length hc2]) := Q5.out _ T9b.out
 have L3 := (Q3.out _ T9b.out).range
 clear Q3 Q5 T9
 go_wp2_with (refine wpList_load_mid rfl 33 (.tmp 4) rfl g3 0 rfl [.int .u8 C.P.typ, .int .u32 C.P.router, .int .u32 C.P.area, .int .u32 C.P.mask, .int .u16 C.P.iv, .int .u8 C.P.opts, .int .u8 C.P.prio, .int .u32 C.P.dead, .int .u32 C.P.dr, .int .u32 C.P.bdr, .slice na1 C.nb.length nc1, .int .u16 C.P.mtu, .int .u8 C.P.dopts, .int .u8 C.P.dflags, .int .u32 C.P.dseq, .slice da1 C.dh.length dc1, .slice ka1 C.ks.length kc1, .slice sa1 C.ss.length sc1, .slice ha1 C.hs.length hc1] _ L3 Tryz.underlying33 rfl (by kernel_rfl) ?_)
 refine Calls.mono (addpk bb w1.heap.size _ _ _ _ C LT.out LN.out w2 y0 HB0.out PO1.out (by have := KS.out; have := KB.out; omega) (T2y.out.mono (fun _ _ f => f.elim)) (fun u hu => by rcases hu with hu | ⟨j, _, hu⟩ <;> cases hu)) ?_
 intro e y1 q1
 obtain rfl := q1.ret
 obtain ⟨gb1, vb1, G1, V1, p1, s1, u1⟩ := q1.out
 have P1 : Hid (BagP y1 bb gb1 vb1 G1 V1) := p1
 have B1 : Hid (Touch (fun k => bb ≤ k) y0 y1) := s1
 have U1 : Hid (∀ u, InB vb1 V1 u → ∀ k, u.ownBlock = some k → w1.heap.size ≤ k ∧ k < w2.heap.size) := fun u hu => (u1 u hu).resolve_left (fun h => by rcases h with h | ⟨j, _, h⟩ <;> cases h)
 clear p1 s1 u1 q1 L3 HB0
 have L5 := (Q5y.out.touch B1.out (by have := KS.out; have := KB.out; omega)).range
 go_wp2_with (refine wpList_load_mid rfl 33 (.tmp 7) rfl g5 0 rfl [.int .u8 C.P.typ, .int .u32 C.P.router, .int .u32 C.P.area, .int .u32 C.P.mask, .int .u16 C.P.iv, .int .u8 C.P.opts, .int .u8 C.P.prio, .int .u32 C.P.dead, .int .u32 C.P.dr, .int .u32 C.P.bdr, .slice na2 C.nb.length nc2, .int .u16 C.P.mtu, .int .u8 C.P.dopts, .int .u8 C.P.dflags, .int .u32 C.P.dseq, .slice da2 C.dh.length dc2, .slice ka2 C.ks.length kc2, .slice sa2 C.ss.length sc2, .slice ha2 C.hs.length hc2] _ L5 Tryz.underlying33 rfl (by kernel_rfl) ?_)
 refine Calls.mono (addpk bb w3.heap.size _ _ _ _ C LT.out LN.out w4 y1 P1.out PO2.out (by have := KS.out; have := KB.out; omega) ((T4y.out.mono (fun _ _ f => f.elim)).trans B1.out) (fun u hu k hk => by have h1 := U1.out u hu k hk; have := KS.out; omega)) ?_
 intro e y2 q2
 obtain rfl := q2.ret
 obtain ⟨gb2, vb2, G2, V2, p2, s2, u2⟩ := q2.out
 have P2 : Hid (BagP y2 bb gb2 vb2 G2 V2) := p2
 have U2 : Hid (∀ u, InB vb2 V2 u → ∀ k, u.ownBlock = some k → w1.heap.size ≤ k) := fun u hu k hk => by
  rcases u2 u hu with h | h
  ·exact (U1.out u h k hk).1
  ·have h1 := h k hk; have := KS.out; omega
 have TW2 : Hid (Touch (fun _ => False) w1 y2) := Touch.trans' T1y.out (B1.out.trans s2) (fun i hi h => by have := KS.out; have := KB.out; omega)
 clear p2 s2 u2 q2 L5 P1 B1 U1 Q5y
 go_wp2_with fail
 refine Calls.mono (Apart5_any bb gb2 vb2 G2 V2 y2 P2.out) ?_
 rintro e y3 ⟨rfl, t3⟩
 have TW3 : Hid (Touch (fun _ => False) w1 y3) := Touch.trans' TW2.out t3 (fun i hi f => by
  rcases f with ⟨m, v, hm, hk⟩ | ⟨c, K, hK, m, v, hm, hk⟩
  ·have := U2.out v (Or.inl (List.mem_of_getElem? hm)) i hk; omega
  ·have := U2.out v (Or.inr ⟨c, (kd5_by hK).2.2.2.2.1, List.mem_of_getElem? hm⟩) i hk; omega)
 clear t3 P2 U2 TW2
 go_wp2_with fail
 refine Calls.mono (eq_true _ _ rs y3 (HIR.out _ TW3.out) (HV.out _ (T1.out.trans TW3.out))) ?_
 rintro e y4 ⟨rfl, n4, h4⟩
 have TW4 : Hid (Touch (fun _ => False) w1 y4) := TW3.out.trans (h4 ▸ (Touch.refl _ _).drewN n4)
 clear h4
 go_wp2_with fail
 refine Calls.mono (spare_any gi rs y4 (HI.out _ TW4.out) (by have := HLL.out; omega)) ?_
 rintro e y5 ⟨rfl, rfl⟩
 go_wp2_with fail
 refine Calls.mono (plives _) ?_
 rintro e y6 ⟨rfl, t6⟩
 have TE : Hid (Touch (fun _ => False) w y6) := T1.out.trans (TW4.out.trans t6)
 clear t6
 go_wp2_with fail
 go_ret
 exact ⟨rfl, TE.out⟩
end Go.Proofs.YtbfplepmgbkajaaGreatDoor
