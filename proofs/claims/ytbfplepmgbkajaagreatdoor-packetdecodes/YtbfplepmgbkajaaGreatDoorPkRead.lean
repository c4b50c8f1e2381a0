/- Package packet: read. -/
import Derived.Test.YtbfplepmgbkajaaGreatDoorPkRead0
import Derived.Deep.RegionHeld2
import Derived.Deep.DeepCutAuto
namespace Go.Proofs.YtbfplepmgbkajaaGreatDoor
open Go.RowKit
set_option linter.unusedVariables false
set_option maxRecDepth 100000

theorem range_far {w : World} {g g' : Nat} {cs : List Value} (h : w.rangeAt g 0 cs) (hne : ¬ g = g') (R : Array Value) : (w.setRow g' R).rangeAt g 0 cs := fun j v hj => (Go.cell_setRow_other w g' R ⟨g, 0 + j, none⟩ hne).trans (h j v hj)
attribute [local go_sem ↓] Go.wp_at_zero Go.wp_at_succ
set_option maxHeartbeats 4000000 in
theorem pread_any (v : Value) (rs : List Int) (w : World) (hv : ArgAt w v rs) (hby : ∀ z ∈ rs, 0 ≤ z ∧ z < 256) (hl : rs.length ≤ 1000000) :
  Calls Tryz.prog 72 #[v] w (PDp rs w) := by
 obtain ⟨va, vc, rfl, -⟩ := hv.form
 obtain ⟨w0, hw0⟩ : ∃ w0, w0 = (w.alloc (.cells #[.int .u8 0, .int .u32 0, .int .u32 0, .int .u32 0, .int .u16 0, .int .u8 0, .int .u8 0, .int .u32 0, .int .u32 0, .int .u32 0, .slice none 0 0, .int .u16 0, .int .u8 0, .int .u8 0, .int .u32 0, .slice none 0 0, .slice none 0 0, .slice none 0 0, .slice none 0 0] 33)).alloc (.cells #[.int .u16 0, .int .u8 0, .int .u8 0, .int .u8 0, .int .u8 0, .int .u8 0, .int .u8 0, .int .u8 0, .int .u8 0] 44) := ⟨_, rfl⟩
 have ta : Touch (fun _ => False) w w0 := by rw [hw0]; exact ((Touch.refl _ w).alloc _).alloc _
 have za : w0.heap.size = w.heap.size + 2 := by rw [hw0]; simp
 have A0 : Row w0 w.heap.size 33 [.int .u8 0, .int .u32 0, .int .u32 0, .int .u32 0, .int .u16 0, .int .u8 0, .int .u8 0, .int .u32 0, .int .u32 0, .int .u32 0, .slice none 0 0, .int .u16 0, .int .u8 0, .int .u8 0, .int .u32 0, .slice none 0 0, .slice none 0 0, .slice none 0 0, .slice none 0 0] := by rw [hw0]; exact (row_new w 33 #[.int .u8 0, .int .u32 0, .int .u32 0, .int .u32 0, .int .u16 0, .int .u8 0, .int .u8 0, .int .u32 0, .int .u32 0, .int .u32 0, .slice none 0 0, .int .u16 0, .int .u8 0, .int .u8 0, .int .u32 0, .slice none 0 0, .slice none 0 0, .slice none 0 0, .slice none 0 0]).keep ((Touch.refl _ _).alloc _)
 have B0 : Row w0 (w.heap.size + 1) 44 [.int .u16 0, .int .u8 0, .int .u8 0, .int .u8 0, .int .u8 0, .int .u8 0, .int .u8 0, .int .u8 0, .int .u8 0] := by
  have := row_new (w.alloc (.cells #[.int .u8 0, .int .u32 0, .int .u32 0, .int .u32 0, .int .u16 0, .int .u8 0, .int .u8 0, .int .u32 0, .int .u32 0, .int .u32 0, .slice none 0 0, .int .u16 0, .int .u8 0, .int .u8 0, .int .u32 0, .slice none 0 0, .slice none 0 0, .slice none 0 0, .slice none 0 0] 33)) 44 #[.int .u16 0, .int .u8 0, .int .u8 0, .int .u8 0, .int .u8 0, .int .u8 0, .int .u8 0, .int .u8 0, .int .u8 0]
  rw [← hw0] at this
  simpa using this
 have T0 : Hid (Touch (fun _ => False) w w0) := ta
 have ZA : Hid (w0.heap.size = w.heap.size + 2) := za
 have HV' : Hid (∀ w', Touch (fun _ => False) w w' → ArgAt w' (.slice va rs.length vc) rs) := fun w' t => hv.keepN t
 have HBy : Hid (∀ z ∈ rs, 0 ≤ z ∧ z < 256) := hby
 clear ta za hv hby
 go_enter Tryz.func72, Tryz.ntmps72
 go_upto_region 1 with fail
 rw [← hw0]
 clear hw0
 generalize hg3 : w.heap.size + 1 = g3 at *
 generalize hg2 : w.heap.size = g2 at *
 have HZ : Hid (w.heap.size = g2 ∧ g2 + 1 = g3) := ⟨hg2, hg3⟩
 have ng23 : ¬ g2 = g3 := by omega
 have ng32 : ¬ g3 = g2 := by omega
 clear hg2 hg3
 by_cases hE : pLenE rs = 0
 rotate_left
 ·have HL := plength_bad _ rs w0 (HV'.out w0 T0.out) HBy.out hl hE
  have E : Hid (pdecE rs = pLenE rs) := pdecE_len hE
  have HE : Hid (pLenE rs ≠ 0) := hE
  generalize pLenE rs = PE at *
  clear hE
  go_wp2_with fail
  refine Calls.mono HL ?_
  rintro e w1 ⟨rfl, t1⟩
  exact ⟨rfl, pdp_no E.out HE.out (T0.out.trans t1)⟩
 have HL := plength_good _ rs w0 (HV'.out w0 T0.out) HBy.out hl hE
 have PLn := pLenE_ok hE
 obtain ⟨pn, hpn⟩ : ∃ pn : Nat, pTold rs = (pn : Int) := ⟨(pTold rs).toNat, by have := PLn.n; omega⟩
 have hp1 : 24 ≤ pn := by have := PLn.n; omega
 have hp2 : pn ≤ rs.length := by have := PLn.n; omega
 have HPN : Hid (pTold rs = (pn : Int)) := hpn
 rw [hpn] at HL
 obtain ⟨u, hu, ua⟩ := cut_to (HV'.out w0 T0.out) rfl (by omega) pn hp2
 have hul : (rs.take pn).length = pn := by rw [List.length_take]; omega
 obtain ⟨u1, u2, eu, -⟩ := ua.form
 rw [hul] at eu
 subst eu
 have UA : Hid (ArgAt w0 (.slice u1 pn u2) (rs.take pn)) := ua
 have HE0 : Hid (pLenE rs = 0) := hE
 have HTY : Hid (1 ≤ (pv0 rs).typ ∧ (pv0 rs).typ ≤ 5) := PLn.t
 have HBH : Hid (pbehind rs = (rs.take pn).drop 24) := by show _ = _; unfold pbehind; rw [hpn]; simp
 have HQ : Hid (pv0 (rs.take pn) = pv0 rs) := pv0_take rs pn hp1
 have HAQ : Hid (au0 (rs.take pn) = au0 rs) := au0_take rs pn hp1
 have HBT : Hid (∀ z ∈ rs.take pn, 0 ≤ z ∧ z < 256) := fun z hz => HBy.out z (List.mem_of_mem_take hz)
 have HUL : Hid ((rs.take pn).length = pn) := hul
 obtain ⟨Q, hQ⟩ : ∃ Q, pv0 rs = Q := ⟨_, rfl⟩
 obtain ⟨A, hA⟩ : ∃ A, au0 rs = A := ⟨_, rfl⟩
 have QQ : Hid (pv0 rs = Q) := hQ
 have AA : Hid (au0 rs = A) := hA
 generalize hbs : rs.take pn = bs at *
 have HBS : Hid (rs.take pn = bs) := hbs
 clear hbs hQ hA hE hpn PLn ua hul
 go_wp2_with fail
 refine Calls.mono HL ?_
 rintro e w1 ⟨rfl, t1⟩
 clear HL
 have HRd := read_r (.slice u1 pn u2) bs w1 (UA.out.keepN t1) HBT.out (by have := HUL.out; omega)
 have A1 := A0.keep t1
 have B1 := B0.keep t1
 have T1 : Hid (Touch (fun _ => False) w w1) := T0.out.trans t1
 have z1 : Hid (g3 < w1.heap.size) := by have h1 := t1.size; have h2 := ZA.out; have h3 := HZ.out; show _ < _; omega
 clear A0 B0 t1
 go_wp2_with fail
 refine Calls.mono HRd ?_
 rintro e w2 ⟨b, rfl, hb1, r2, t2⟩
 clear HRd
 obtain ⟨w3, hw3⟩ : ∃ w3, w3 = w2.alloc (.cells #[.pointer (some ⟨b, 0, none⟩)] 189) := ⟨_, rfl⟩
 have t3 : Touch (fun _ => False) w2 w3 := by rw [hw3]; exact (Touch.refl _ _).alloc _
 have c3 : w3.cell? ⟨w2.heap.size, 0, none⟩ = some (.pointer (some ⟨b, 0, none⟩)) := by rw [hw3]; simp [go_sem]
 have z3 : w3.heap.size = w2.heap.size + 1 := by rw [hw3]; simp
 have A3 := (A1.keep t2).keep t3
 have B3 := (B1.keep t2).keep t3
 have T3 : Hid (Touch (fun _ => False) w w3) := (T1.out.trans t2).trans t3
 have r3 := r2.keep t3
 have hb2 : b < w2.heap.size := r2.low
 have HH := prhd w2.heap.size b bs w3 r3 (by omega) (by have := HUL.out; omega) (by have := HUL.out; omega)
 rw [HQ.out, HAQ.out, QQ.out, AA.out] at HH
 unfold PV.v AuV.v at HH
 have hbw : Hid (w1.heap.size ≤ b ∧ b < w2.heap.size ∧ g3 < w1.heap.size) := ⟨hb1, hb2, z1.out⟩
 have Z2 : Hid (w1.heap.size ≤ w2.heap.size ∧ w3.heap.size = w2.heap.size + 1) := ⟨t2.size, z3⟩
 clear t2 t3 z3 A1 B1 r2 r3 T1 hb1 hb2 z1
 go_upto_region 3 with fail
 first | rw [← hw3] | (rw [hw3])
 clear hw3
 generalize hg5 : w2.heap.size = g5 at *
 have HG5 : Hid (w2.heap.size = g5) := hg5
 clear hg5
 go_wp2_with fail
 refine Calls.mono HH ?_
 rintro e w4 ⟨rfl, r4, t4⟩
 clear HH
 have nb2 : ¬ g2 = b := by have := hbw.out; have := HZ.out; omega
 have nb3 : ¬ g3 = b := by have := hbw.out; omega
 have nb5 : ¬ g5 = b := by have := hbw.out; omega
 have A4 := A3.touch t4 nb2
 have B4 := B3.touch t4 nb3
 have c4 := (t4.cell (lt_of_cellA c3) nb5).trans c3
 have T4 : Hid (Touch (fun _ => False) w w4) := T3.out.trans' t4 (fun i hi e => by have := hbw.out; have := HZ.out; omega)
 have z4 : Hid (g5 < w4.heap.size) := by have h1 := t4.size; have h2 := Z2.out; show _ < _; omega
 clear A3 B3 c3 T3 t4
 obtain ⟨w5, hw5⟩ : ∃ w5, w5 = (((w4.alloc (.cells #[.int .u8 0, .int .u32 0, .int .u32 0, .int .u32 0, .int .u16 0, .int .u8 0, .int .u8 0, .int .u32 0, .int .u32 0, .int .u32 0, .slice none 0 0, .int .u16 0, .int .u8 0, .int .u8 0, .int .u32 0, .slice none 0 0, .slice none 0 0, .slice none 0 0, .slice none 0 0] 33)).alloc (.cells #[.int .u16 0, .int .u8 0, .int .u8 0, .int .u8 0, .int .u8 0, .int .u8 0, .int .u8 0, .int .u8 0, .int .u8 0] 44)).setRow w4.heap.size #[.int .u8 Q.typ, .int .u32 Q.router, .int .u32 Q.area, .int .u32 Q.mask, .int .u16 Q.iv, .int .u8 Q.opts, .int .u8 Q.prio, .int .u32 Q.dead, .int .u32 Q.dr, .int .u32 Q.bdr, .slice none 0 0, .int .u16 Q.mtu, .int .u8 Q.dopts, .int .u8 Q.dflags, .int .u32 Q.dseq, .slice none 0 0, .slice none 0 0, .slice none 0 0, .slice none 0 0]).setRow (w4.heap.size + 1) #[.int .u16 A.kind, .int .u8 A.d0, .int .u8 A.d1, .int .u8 A.d2, .int .u8 A.d3, .int .u8 A.d4, .int .u8 A.d5, .int .u8 A.d6, .int .u8 A.d7] := ⟨_, rfl⟩
 have ra : Row ((w4.alloc (.cells #[.int .u8 0, .int .u32 0, .int .u32 0, .int .u32 0, .int .u16 0, .int .u8 0, .int .u8 0, .int .u32 0, .int .u32 0, .int .u32 0, .slice none 0 0, .int .u16 0, .int .u8 0, .int .u8 0, .int .u32 0, .slice none 0 0, .slice none 0 0, .slice none 0 0, .slice none 0 0] 33)).alloc (.cells #[.int .u16 0, .int .u8 0, .int .u8 0, .int .u8 0, .int .u8 0, .int .u8 0, .int .u8 0, .int .u8 0, .int .u8 0] 44)) w4.heap.size 33 [.int .u8 0, .int .u32 0, .int .u32 0, .int .u32 0, .int .u16 0, .int .u8 0, .int .u8 0, .int .u32 0, .int .u32 0, .int .u32 0, .slice none 0 0, .int .u16 0, .int .u8 0, .int .u8 0, .int .u32 0, .slice none 0 0, .slice none 0 0, .slice none 0 0, .slice none 0 0] := (row_new w4 33 #[.int .u8 0, .int .u32 0, .int .u32 0, .int .u32 0, .int .u16 0, .int .u8 0, .int .u8 0, .int .u32 0, .int .u32 0, .int .u32 0, .slice none 0 0, .int .u16 0, .int .u8 0, .int .u8 0, .int .u32 0, .slice none 0 0, .slice none 0 0, .slice none 0 0, .slice none 0 0]).keep ((Touch.refl _ _).alloc _)
 have rb : Row ((w4.alloc (.cells #[.int .u8 0, .int .u32 0, .int .u32 0, .int .u32 0, .int .u16 0, .int .u8 0, .int .u8 0, .int .u32 0, .int .u32 0, .int .u32 0, .slice none 0 0, .int .u16 0, .int .u8 0, .int .u8 0, .int .u32 0, .slice none 0 0, .slice none 0 0, .slice none 0 0, .slice none 0 0] 33)).alloc (.cells #[.int .u16 0, .int .u8 0, .int .u8 0, .int .u8 0, .int .u8 0, .int .u8 0, .int .u8 0, .int .u8 0, .int .u8 0] 44)) (w4.heap.size + 1) 44 [.int .u16 0, .int .u8 0, .int .u8 0, .int .u8 0, .int .u8 0, .int .u8 0, .int .u8 0, .int .u8 0, .int .u8 0] := by
  have := row_new (w4.alloc (.cells #[.int .u8 0, .int .u32 0, .int .u32 0, .int .u32 0, .int .u16 0, .int .u8 0, .int .u8 0, .int .u32 0, .int .u32 0, .int .u32 0, .slice none 0 0, .int .u16 0, .int .u8 0, .int .u8 0, .int .u32 0, .slice none 0 0, .slice none 0 0, .slice none 0 0, .slice none 0 0] 33)) 44 #[.int .u16 0, .int .u8 0, .int .u8 0, .int .u8 0, .int .u8 0, .int .u8 0, .int .u8 0, .int .u8 0, .int .u8 0]
  simpa using this
 have rb2 : Row (((w4.alloc (.cells #[.int .u8 0, .int .u32 0, .int .u32 0, .int .u32 0, .int .u16 0, .int .u8 0, .int .u8 0, .int .u32 0, .int .u32 0, .int .u32 0, .slice none 0 0, .int .u16 0, .int .u8 0, .int .u8 0, .int .u32 0, .slice none 0 0, .slice none 0 0, .slice none 0 0, .slice none 0 0] 33)).alloc (.cells #[.int .u16 0, .int .u8 0, .int .u8 0, .int .u8 0, .int .u8 0, .int .u8 0, .int .u8 0, .int .u8 0, .int .u8 0] 44)).setRow w4.heap.size #[.int .u8 Q.typ, .int .u32 Q.router, .int .u32 Q.area, .int .u32 Q.mask, .int .u16 Q.iv, .int .u8 Q.opts, .int .u8 Q.prio, .int .u32 Q.dead, .int .u32 Q.dr, .int .u32 Q.bdr, .slice none 0 0, .int .u16 Q.mtu, .int .u8 Q.dopts, .int .u8 Q.dflags, .int .u32 Q.dseq, .slice none 0 0, .slice none 0 0, .slice none 0 0, .slice none 0 0]) (w4.heap.size + 1) 44 [.int .u16 0, .int .u8 0, .int .u8 0, .int .u8 0, .int .u8 0, .int .u8 0, .int .u8 0, .int .u8 0, .int .u8 0] := rb.otherRow (by omega) _
 have t5 : Touch (fun _ => False) w4 w5 := by rw [hw5]; exact ((((Touch.refl _ _).alloc _).alloc _).setRow (Or.inr (by omega)) _).setRow (Or.inr (by omega)) _
 have z5 : w5.heap.size = w4.heap.size + 2 := by rw [hw5]; simp
 have G6 : Row w5 w4.heap.size 33 [.int .u8 Q.typ, .int .u32 Q.router, .int .u32 Q.area, .int .u32 Q.mask, .int .u16 Q.iv, .int .u8 Q.opts, .int .u8 Q.prio, .int .u32 Q.dead, .int .u32 Q.dr, .int .u32 Q.bdr, .slice none 0 0, .int .u16 Q.mtu, .int .u8 Q.dopts, .int .u8 Q.dflags, .int .u32 Q.dseq, .slice none 0 0, .slice none 0 0, .slice none 0 0, .slice none 0 0] := by rw [hw5]; exact (ra.setRow _).otherRow (by omega) _
 have G7 : Row w5 (w4.heap.size + 1) 44 [.int .u16 A.kind, .int .u8 A.d0, .int .u8 A.d1, .int .u8 A.d2, .int .u8 A.d3, .int .u8 A.d4, .int .u8 A.d5, .int .u8 A.d6, .int .u8 A.d7] := by rw [hw5]; exact rb2.setRow _
 have A5 := A4.keep t5
 have B5 := B4.keep t5
 have c5 := t5.cellN c4
 have r5 := r4.keep t5
 have T5 : Hid (Touch (fun _ => False) w w5) := T4.out.trans t5
 have ZZ : Hid (g5 < w4.heap.size ∧ w5.heap.size = w4.heap.size + 2) := ⟨z4.out, z5⟩
 clear A4 B4 c4 r4 T4 z4 z5 t5
 go_upto_region 4 with (first | refine wpList_store_row rfl 33 (.tmp 6) (.tmp 18) rfl w4.heap.size #[.int .u8 Q.typ, .int .u32 Q.router, .int .u32 Q.area, .int .u32 Q.mask, .int .u16 Q.iv, .int .u8 Q.opts, .int .u8 Q.prio, .int .u32 Q.dead, .int .u32 Q.dr, .int .u32 Q.bdr, .slice none 0 0, .int .u16 Q.mtu, .int .u8 Q.dopts, .int .u8 Q.dflags, .int .u32 Q.dseq, .slice none 0 0, .slice none 0 0, .slice none 0 0, .slice none 0 0] rfl rfl 33 _ ra (by kernel_rfl) rfl (by simp [Value.oneCell']) ?_ | refine wpList_store_row rfl 44 (.tmp 7) (.tmp 19) rfl (w4.heap.size + 1) #[.int .u16 A.kind, .int .u8 A.d0, .int .u8 A.d1, .int .u8 A.d2, .int .u8 A.d3, .int .u8 A.d4, .int .u8 A.d5, .int .u8 A.d6, .int .u8 A.d7] rfl rfl 44 _ rb2 (by kernel_rfl) rfl (by simp [Value.oneCell']) ?_)
 rw [← hw5]
 clear hw5 ra rb rb2
 generalize hg7 : w4.heap.size + 1 = g7 at *
 generalize hg6 : w4.heap.size = g6 at *
 have HG6 : Hid (w4.heap.size = g6 ∧ g6 + 1 = g7) := ⟨hg6, hg7⟩
 clear hg6 hg7
 have k5 : w5.cell? ⟨g7, 0, none⟩ = some (.int .u16 A.kind) := G7.cell 0
 by_cases hk : A.kind ≤ 2
 rotate_left
 ·have hkd : decide (A.kind ≤ 2) = false := decide_eq_false hk
  have E : Hid (pdecE rs = 25) := pdecE_25 HE0.out (by rw [AA.out]; omega)
  clear hk
  go_wp2_with fail
  refine Calls.mono (pneed_no 25 _) ?_
  rintro e w6 ⟨rfl, rfl⟩
  exact ⟨rfl, pdp_no E.out (by decide) T5.out⟩
 have hkd : decide (A.kind ≤ 2) = true := decide_eq_true hk
 have HK : Hid (¬ 2 < (au0 rs).kind) := by rw [AA.out]; show ¬ _; omega
 clear hk
 have NEXT : Hid (∀ (hok : (au0 rs).kind ≠ 2 → (rs.length : Int) = pTold rs ∧ pRight rs = true), True) := fun _ => trivial
 clear NEXT
 go_wp2_with fail
 refine Calls.mono (pneed_ok 25 _) ?_
 rintro e w6 ⟨rfl, rfl⟩
 clear hkd
 by_cases h2 : A.kind = 2
 have hkb : ((A.kind : Int) != 2) = false := by simpa using h2
 have hkb2 : ((A.kind : Int) == 2) = true := by simpa using h2
 have EP : Hid (pdecE rs = ppartE Q.typ (bs.drop 24)) := by
  show _ = _
  rw [pdecE_part HE0.out (by have := HK.out; omega) (fun h => by rw [AA.out] at h; exact (h h2).elim), HBH.out, ← QQ.out]
  rfl
 clear h2
 go_upto_region 8 with fail
 obtain ⟨w6, hw6, t6⟩ : ∃ w6, w5 = w6 ∧ Touch (fun _ => False) w5 w6 := ⟨w5, rfl, Touch.refl _ _⟩
 rw [hw6]
 clear hw6 hkb hkb2
 rotate_left
 have hkb : ((A.kind : Int) != 2) = true := by simpa using h2
 have hkb2 : ((A.kind : Int) == 2) = false := by simpa using h2
 have H2 : Hid ((au0 rs).kind ≠ 2) := by rw [AA.out]; exact h2
 clear h2
 by_cases hlp : (rs.length : Int) = (pn : Int)
 case neg =>
  have hlb : (((rs.length : Nat) : Int) == ((pn : Nat) : Int)) = false := by simpa using hlp
  have E : Hid (pdecE rs = 22) := pdecE_22 HE0.out (by have := HK.out; omega) H2.out (by rw [HPN.out]; exact hlp)
  have hlq : ¬ rs.length = pn := by omega
  clear hlp
  go_wp2_with fail
  refine Calls.mono (pneed_f _ 22 _ (by first | exact hlb | simp [hlq])) ?_
  rintro e w6 ⟨rfl, rfl⟩
  exact ⟨rfl, pdp_no E.out (by decide) T5.out⟩
 have hlq : rs.length = pn := by omega
 have HLQ : Hid (rs.length = pn) := hlq
 have hlb : (((rs.length : Nat) : Int) == ((pn : Nat) : Int)) = true := by simpa using hlp
 have HLP : Hid ((rs.length : Int) = pTold rs) := by rw [HPN.out]; exact hlp
 clear hlp hlq
 go_wp2_with fail
 refine Calls.mono (pneed_t _ 22 _ (by first | exact hlb | simp [HLQ.out])) ?_
 rintro e w6 ⟨rfl, rfl⟩
 have HRi := pright_any (.slice va rs.length vc) rs w5 (HV'.out w5 T5.out) HBy.out hl
 clear hlb
 go_wp2_with fail
 refine Calls.mono HRi ?_
 rintro e w6 ⟨rfl, t6⟩
 cases hri : pRight rs
 case false =>
  have E : Hid (pdecE rs = 23) := pdecE_23 HE0.out (by have := HK.out; omega) H2.out HLP.out hri
  clear hri HRi
  go_wp2_with fail
  refine Calls.mono (pneed_no 23 _) ?_
  rintro e w7 ⟨rfl, rfl⟩
  exact ⟨rfl, pdp_no E.out (by decide) (T5.out.trans t6)⟩
 have EP : Hid (pdecE rs = ppartE Q.typ (bs.drop 24)) := by
  show _ = _
  rw [pdecE_part HE0.out (by have := HK.out; omega) (fun h => ⟨HLP.out, hri⟩), HBH.out, ← QQ.out]
  rfl
 clear hri HRi
 go_wp2_with fail
 refine Calls.mono (pneed_ok 23 _) ?_
 rintro e w7 ⟨rfl, rfl⟩
 clear hkb hkb2 H2 HLQ HLP
 go_upto_region 8 with fail
 all_goals
  have A6 := (A5.keep t6).keep ((Touch.refl _ _).drew)
  have B6 := (B5.keep t6).keep ((Touch.refl _ _).drew)
  have c6 : w6.drew.cell? ⟨g5, 0, none⟩ = some (.pointer (some ⟨b, 0, none⟩)) := t6.drew.cellN c5
  have r6 := (r5.keep t6).keep ((Touch.refl _ _).drew)
  have G6' := (G6.keep t6).keep ((Touch.refl _ _).drew)
  have G7' := (G7.keep t6).keep ((Touch.refl _ _).drew)
  have T6 : Hid (Touch (fun _ => False) w w6.drew) := (T5.out.trans t6).drew
  have z6 : Hid (g7 < w6.heap.size) := by have h1 := t6.size; have h2 := ZZ.out; have h3 := HG6.out; show _ < _; omega
  clear A5 B5 c5 r5 G6 G7 T5 t6 k5
  obtain ⟨Fb, hFb⟩ : ∃ Fb : Nat → Prop, Fb = fun k => k = b ∨ k = g6 := ⟨_, rfl⟩
  have f5 : ¬ Fb g5 := by subst hFb; have h1 := HG6.out; have h2 := ZZ.out; show ¬ (_ ∨ _); omega
  have f2 : ¬ Fb g2 := by subst hFb; have h1 := HG6.out; have h2 := ZZ.out; have h3 := hbw.out; have h4 := HZ.out; have h5 := Z2.out; have h6 := HG5.out; show ¬ (_ ∨ _); omega
  have f3 : ¬ Fb g3 := by subst hFb; have h1 := HG6.out; have h2 := ZZ.out; have h3 := hbw.out; have h4 := HZ.out; have h5 := Z2.out; have h6 := HG5.out; show ¬ (_ ∨ _); omega
  have f7 : ¬ Fb g7 := by subst hFb; have h1 := HG6.out; have h2 := ZZ.out; have h3 := hbw.out; have h4 := HZ.out; have h5 := Z2.out; have h6 := HG5.out; show ¬ (_ ∨ _); omega
  have fT : Hid (∀ w', Touch Fb w6.drew w' → Touch (fun k => k = b ∨ k = g6) w6.drew w') := by subst hFb; exact fun _ t => t
  have fF : Hid (∀ w0 w', Touch (fun k => k = b ∨ k = g6) w0 w' → Touch Fb w0 w') := by subst hFb; exact fun _ _ t => t
  have q5 := onl_cell c6 f5
  have y0 : w6.drew.cell? ⟨g6, 0, none⟩ = some (.int .u8 Q.typ) := G6'.cell 0
  have S6 : Onl Fb w6.drew w6.drew ∧ w6.drew.cell? ⟨g6, 0, none⟩ = some (.int .u8 Q.typ) := ⟨⟨Touch.refl _ _⟩, y0⟩
  obtain ⟨f, hix, hcf, HF⟩ := prtype g5 b g6 Q bs (by rw [← QQ.out]; exact HTY.out) (by have := HUL.out; omega) (by have := HUL.out; omega)
  have HFn : Hid (∀ w', Rdr g5 w' b bs (some 24) → g5 ≤ g6 → g6 < w'.heap.size → Pd w' g6 Q (.slice none 0 0) (.slice none 0 0) (.slice none 0 0) (.slice none 0 0) (.slice none 0 0) → Room w' g6 19 → Calls Tryz.prog f #[.agg #[.pointer (some ⟨b, 0, none⟩)], .pointer (some ⟨g6, 0, none⟩)] w' (PtP b g6 Q (bs.drop 24) w')) := HF
  clear HF hFb c6
  refine wp_region_held_drew (S := fun w' => Onl Fb w6.drew w' ∧ w'.cell? ⟨g6, 0, none⟩ = some (.int .u8 Q.typ)) (by kernel_rfl) S6 (fun hHeld => ?_)
  refine wpAnyH_take (i := 0) (oi := ⟨some 35, _, _, _, _, _⟩) (v := .agg #[.pointer (some ⟨b, 0, none⟩)]) rfl (by kernel_rfl) (by kernel_rfl) (by kernel_rfl) (fun _ _ _ h => h) (Or.inl ⟨by rfl, fun w hw => by have hq := q5 w hw.1; go_simp⟩) (by assumption) ?_
  simp only [Act.put, List.setIfInBounds_toArray, List.set_cons_zero, List.set_cons_succ]
  refine wpAnyH_take (i := 2) (oi := ⟨some 37, _, _, _, _, _⟩) (v := .pointer (some ⟨g6, 0, none⟩)) rfl (by kernel_rfl) (by kernel_rfl) (by kernel_rfl) (fun _ _ _ h => h) (Or.inl ⟨by rfl, fun w hw => by go_simp⟩) (by assumption) ?_
  simp only [Act.put, List.setIfInBounds_toArray, List.set_cons_zero, List.set_cons_succ]
  refine wpAnyH_take (i := 3) (oi := ⟨some 38, _, _, _, _, _⟩) (v := .int .u8 Q.typ) rfl (by kernel_rfl) (by kernel_rfl) (by kernel_rfl) (fun _ _ _ h => h) (Or.inl ⟨by rfl, fun w hw => by have hq := hw.2; go_simp⟩) (by assumption) ?_
  simp only [Act.put, List.setIfInBounds_toArray, List.set_cons_zero, List.set_cons_succ]
  refine wpAnyH_ready (rs := [1]) (by kernel_rfl) (by simp) ?_
  refine AllReadyH.cons rfl (fun K hK => ?_) AllReadyH.nil
  go_simp
  go_wp2_with (go_at_call 112; refine Calls.mono (prparts_any b _) ?_; rintro e w7 ⟨rfl, t7⟩)
  have S7 : Onl Fb w6.drew w7 ∧ w7.cell? ⟨g6, 0, none⟩ = some (.int .u8 Q.typ) := ⟨⟨t7.mono (fun _ _ f => f.elim)⟩, t7.cellN y0⟩
  refine hK.out _ _ S7 (fun hHeld => ?_)
  clear hK K
  refine wpAnyH_take (i := 4) (oi := ⟨some 39, _, _, _, _, _⟩) (v := .func (.func f) #[.agg #[.pointer (some ⟨b, 0, none⟩)]] #[]) rfl (by kernel_rfl) (by kernel_rfl) (by kernel_rfl) (fun _ _ _ h => h) (Or.inl ⟨by rfl, fun w hw => by go_simp⟩) (by assumption) ?_
  simp only [Act.put, List.setIfInBounds_toArray, List.set_cons_zero, List.set_cons_succ]
  refine wpAnyH_ready (rs := [5]) (by kernel_rfl) (by simp) ?_
  refine AllReadyH.cons rfl (fun K hK => ?_) AllReadyH.nil
  go_simp
  go_wp2_with fail
  have G67 := G6'.keep t7
  refine Calls.mono (HFn.out w7 (r6.keep t7) (by have h1 := HG6.out; have h2 := ZZ.out; omega) (by have h1 := t7.size; have h2 := z6.out; have h3 := HG6.out; have h4 : w6.drew.heap.size = w6.heap.size := rfl; omega) G67.pd G67.room) ?_
  intro e w8 h8
  have T8 : Hid (Touch (fun _ => False) w w8) := (T6.out.trans t7).trans' h8.t (fun i hi e => by have h1 := HG6.out; have h2 := ZZ.out; have h3 := hbw.out; have h4 := HZ.out; have h5 := Z2.out; have h6 := HG5.out; omega)
  rcases h8.out with ⟨he8, rfl, ro8⟩ | ⟨he8, rfl⟩
  rotate_left
  ·exact ⟨rfl, by rw [← EP.out]; exact pdp_no rfl (by rw [EP.out]; exact he8) T8.out⟩
  have E0 : Hid (pdecE rs = 0) := by show _ = _; rw [EP.out]; exact he8
  obtain ⟨C, hC⟩ : ∃ C, ppartC Q (bs.drop 24) = C := ⟨_, rfl⟩
  have HC : Hid (pdecC rs = C) := by show _ = _; unfold pdecC; rw [if_pos E0.out, HBH.out, QQ.out]; exact hC
  have HCt : C.P.typ = Q.typ := by rw [← hC]; exact ppartC_typ _ _
  have HAc : Hid (pdecA rs = A) := by show _ = _; unfold pdecA; rw [if_pos E0.out]; exact AA.out
  rw [hC] at ro8
  obtain ⟨vn, vd, vk, vs, vh, pd8, rm8, po8⟩ := ro8.out
  obtain ⟨na, nc, rfl⟩ := own_form po8.n
  obtain ⟨da, dc, rfl⟩ := own_form po8.d
  obtain ⟨ka, kc, rfl⟩ := own_form po8.k
  obtain ⟨sa, sc, rfl⟩ : ∃ a c, vs = .slice a C.ss.length c := by
   obtain ⟨l, hl, hs, _⟩ := po8.s
   obtain ⟨a, c, e⟩ := own_form hs
   exact ⟨a, c, by rw [e, ← hl, List.length_map]⟩
  obtain ⟨ha, hc, rfl⟩ := own_form po8.h
  have PO8 : Hid (POwnA w7.heap.size w8 C (.slice na C.nb.length nc) (.slice da C.dh.length dc) (.slice ka C.ks.length kc) (.slice sa C.ss.length sc) (.slice ha C.hs.length hc)) := po8
  have PD8 : Hid (Pd w8 g6 C.P (.slice na C.nb.length nc) (.slice da C.dh.length dc) (.slice ka C.ks.length kc) (.slice sa C.ss.length sc) (.slice ha C.hs.length hc)) := pd8
  have A8 := ((A6.keep t7).touch (fF.out _ _ h8.t) f2).keep ((Touch.refl _ _).drew)
  have B8 := ((B6.keep t7).touch (fF.out _ _ h8.t) f3).keep ((Touch.refl _ _).drew)
  have G78 := ((G7'.keep t7).touch (fF.out _ _ h8.t) f7).keep ((Touch.refl _ _).drew)
  have y8 : w8.cell? ⟨g6, 0, none⟩ = some (.int .u8 Q.typ) := by rw [← HCt]; exact pd8.c0
  have s8 : Onl Fb w6.drew w8 := ⟨S7.1.t.trans (fF.out _ _ h8.t)⟩
  have z8 : Hid (g7 < w7.heap.size ∧ w7.heap.size ≤ w8.heap.size) := ⟨by have h1 := t7.size; have h2 := z6.out; have h4 : w6.drew.heap.size = w6.heap.size := rfl; omega, h8.t.size⟩
  refine hK.out _ _ ⟨s8, y8⟩ (fun hHeld => ?_)
  clear hK K hHeld
  refine wpAnyH_done (by kernel_rfl) ?_ _
  clear ro8 po8 pd8 rm8 h8 t7 S7 S6 G67 G6' G7' A6 B6 r6 q5 y0 y8 s8 hix hcf HFn HCt hC he8 hHeld
  go_upto_region 9 with fail
  have P9 : w8.drew.rangeAt g6 0 [.int .u8 C.P.typ, .int .u32 C.P.router, .int .u32 C.P.area, .int .u32 C.P.mask, .int .u16 C.P.iv, .int .u8 C.P.opts, .int .u8 C.P.prio, .int .u32 C.P.dead, .int .u32 C.P.dr, .int .u32 C.P.bdr, .slice na C.nb.length nc, .int .u16 C.P.mtu, .int .u8 C.P.dopts, .int .u8 C.P.dflags, .int .u32 C.P.dseq, .slice da C.dh.length dc, .slice ka C.ks.length kc, .slice sa C.ss.length sc, .slice ha C.hs.length hc] := (PD8.out.keep ((Touch.refl _ _).drew)).range
  have R9 : w8.drew.rangeAt g7 0 [.int .u16 A.kind, .int .u8 A.d0, .int .u8 A.d1, .int .u8 A.d2, .int .u8 A.d3, .int .u8 A.d4, .int .u8 A.d5, .int .u8 A.d6, .int .u8 A.d7] := G78.range
  refine wp_region_held_drew (S := fun w' => w'.rangeAt g6 0 [.int .u8 C.P.typ, .int .u32 C.P.router, .int .u32 C.P.area, .int .u32 C.P.mask, .int .u16 C.P.iv, .int .u8 C.P.opts, .int .u8 C.P.prio, .int .u32 C.P.dead, .int .u32 C.P.dr, .int .u32 C.P.bdr, .slice na C.nb.length nc, .int .u16 C.P.mtu, .int .u8 C.P.dopts, .int .u8 C.P.dflags, .int .u32 C.P.dseq, .slice da C.dh.length dc, .slice ka C.ks.length kc, .slice sa C.ss.length sc, .slice ha C.hs.length hc] ∧ w'.rangeAt g7 0 [.int .u16 A.kind, .int .u8 A.d0, .int .u8 A.d1, .int .u8 A.d2, .int .u8 A.d3, .int .u8 A.d4, .int .u8 A.d5, .int .u8 A.d6, .int .u8 A.d7]) (by kernel_rfl) ⟨P9, R9⟩ (fun hHeld => ?_)
  refine wpAnyH_take (i := 0) (oi := ⟨some 41, _, _, _, _, _⟩) (v := .agg #[.int .u8 C.P.typ, .int .u32 C.P.router, .int .u32 C.P.area, .int .u32 C.P.mask, .int .u16 C.P.iv, .int .u8 C.P.opts, .int .u8 C.P.prio, .int .u32 C.P.dead, .int .u32 C.P.dr, .int .u32 C.P.bdr, .slice na C.nb.length nc, .int .u16 C.P.mtu, .int .u8 C.P.dopts, .int .u8 C.P.dflags, .int .u32 C.P.dseq, .slice da C.dh.length dc, .slice ka C.ks.length kc, .slice sa C.ss.length sc, .slice ha C.hs.length hc]) rfl (by kernel_rfl) (by kernel_rfl) (by kernel_rfl) (fun _ _ _ h => h) (yieldsIf_load_mid (by rfl) _ _ rfl _ _ rfl [.int .u8 C.P.typ, .int .u32 C.P.router, .int .u32 C.P.area, .int .u32 C.P.mask, .int .u16 C.P.iv, .int .u8 C.P.opts, .int .u8 C.P.prio, .int .u32 C.P.dead, .int .u32 C.P.dr, .int .u32 C.P.bdr, .slice na C.nb.length nc, .int .u16 C.P.mtu, .int .u8 C.P.dopts, .int .u8 C.P.dflags, .int .u32 C.P.dseq, .slice da C.dh.length dc, .slice ka C.ks.length kc, .slice sa C.ss.length sc, .slice ha C.hs.length hc] _ (fun w h => h.1) Tryz.underlying33 rfl (by kernel_rfl)) (by assumption) ?_
  simp only [Act.put, List.setIfInBounds_toArray, List.set_cons_zero, List.set_cons_succ]
  refine wpAnyH_take (i := 1) (oi := ⟨some 42, _, _, _, _, _⟩) (v := .agg #[.int .u16 A.kind, .int .u8 A.d0, .int .u8 A.d1, .int .u8 A.d2, .int .u8 A.d3, .int .u8 A.d4, .int .u8 A.d5, .int .u8 A.d6, .int .u8 A.d7]) rfl (by kernel_rfl) (by kernel_rfl) (by kernel_rfl) (fun _ _ _ h => h) (yieldsIf_load_mid (by rfl) _ _ rfl _ _ rfl [.int .u16 A.kind, .int .u8 A.d0, .int .u8 A.d1, .int .u8 A.d2, .int .u8 A.d3, .int .u8 A.d4, .int .u8 A.d5, .int .u8 A.d6, .int .u8 A.d7] _ (fun w h => h.2) Tryz.underlying44 rfl (by kernel_rfl)) (by assumption) ?_
  simp only [Act.put, List.setIfInBounds_toArray, List.set_cons_zero, List.set_cons_succ]
  refine wpAnyH_ready (rs := [2]) (by kernel_rfl) (by simp) ?_
  refine AllReadyH.cons (o := ⟨none, _, _, _, _, _⟩) rfl (fun K hK => ?_) AllReadyH.nil
  refine step_row (by rfl) 33 (.tmp 2) (.tmp 41) (by rfl) g2 [.int .u8 C.P.typ, .int .u32 C.P.router, .int .u32 C.P.area, .int .u32 C.P.mask, .int .u16 C.P.iv, .int .u8 C.P.opts, .int .u8 C.P.prio, .int .u32 C.P.dead, .int .u32 C.P.dr, .int .u32 C.P.bdr, .slice na C.nb.length nc, .int .u16 C.P.mtu, .int .u8 C.P.dopts, .int .u8 C.P.dflags, .int .u32 C.P.dseq, .slice da C.dh.length dc, .slice ka C.ks.length kc, .slice sa C.ss.length sc, .slice ha C.hs.length hc] (by rfl) (by rfl) 33 _ A8 (by kernel_rfl) rfl (by simp [Value.oneCell']) ?_
  simp only [Act.put]
  have n26 : ¬ g6 = g2 := by have h1 := HG6.out; have h2 := ZZ.out; have h3 := hbw.out; have h4 := HZ.out; have h5 := Z2.out; have h6 := HG5.out; omega
  have n27 : ¬ g7 = g2 := by have h1 := HG6.out; have h2 := ZZ.out; have h3 := hbw.out; have h4 := HZ.out; have h5 := Z2.out; have h6 := HG5.out; omega
  have n36 : ¬ g6 = g3 := by have h1 := HG6.out; have h2 := ZZ.out; have h3 := hbw.out; have h4 := HZ.out; have h5 := Z2.out; have h6 := HG5.out; omega
  have n37 : ¬ g7 = g3 := by have h1 := HG6.out; have h2 := ZZ.out; have h3 := hbw.out; have h4 := HZ.out; have h5 := Z2.out; have h6 := HG5.out; omega
  refine hK.out _ _ ⟨range_far P9 n26 _, range_far R9 n27 _⟩ (fun hHeld => ?_)
  clear hK K
  refine wpAnyH_ready (rs := [3]) (by kernel_rfl) (by simp) ?_
  refine AllReadyH.cons (o := ⟨none, _, _, _, _, _⟩) rfl (fun K hK => ?_) AllReadyH.nil
  refine step_row (by rfl) 44 (.tmp 3) (.tmp 42) (by rfl) g3 [.int .u16 A.kind, .int .u8 A.d0, .int .u8 A.d1, .int .u8 A.d2, .int .u8 A.d3, .int .u8 A.d4, .int .u8 A.d5, .int .u8 A.d6, .int .u8 A.d7] (by rfl) (by rfl) 44 _ (B8.otherRow ng32 _) (by kernel_rfl) rfl (by simp [Value.oneCell']) ?_
  simp only [Act.put]
  refine hK.out _ _ ⟨range_far (range_far P9 n26 _) n36 _, range_far (range_far R9 n27 _) n37 _⟩ (fun hHeld => ?_)
  clear hK K
  refine wpAnyH_done (by kernel_rfl) ?_ _
  have Af := (A8.setRow #[.int .u8 C.P.typ, .int .u32 C.P.router, .int .u32 C.P.area, .int .u32 C.P.mask, .int .u16 C.P.iv, .int .u8 C.P.opts, .int .u8 C.P.prio, .int .u32 C.P.dead, .int .u32 C.P.dr, .int .u32 C.P.bdr, .slice na C.nb.length nc, .int .u16 C.P.mtu, .int .u8 C.P.dopts, .int .u8 C.P.dflags, .int .u32 C.P.dseq, .slice da C.dh.length dc, .slice ka C.ks.length kc, .slice sa C.ss.length sc, .slice ha C.hs.length hc]).otherRow ng23 #[.int .u16 A.kind, .int .u8 A.d0, .int .u8 A.d1, .int .u8 A.d2, .int .u8 A.d3, .int .u8 A.d4, .int .u8 A.d5, .int .u8 A.d6, .int .u8 A.d7]
  have Bf := (B8.otherRow ng32 #[.int .u8 C.P.typ, .int .u32 C.P.router, .int .u32 C.P.area, .int .u32 C.P.mask, .int .u16 C.P.iv, .int .u8 C.P.opts, .int .u8 C.P.prio, .int .u32 C.P.dead, .int .u32 C.P.dr, .int .u32 C.P.bdr, .slice na C.nb.length nc, .int .u16 C.P.mtu, .int .u8 C.P.dopts, .int .u8 C.P.dflags, .int .u32 C.P.dseq, .slice da C.dh.length dc, .slice ka C.ks.length kc, .slice sa C.ss.length sc, .slice ha C.hs.length hc]).setRow #[.int .u16 A.kind, .int .u8 A.d0, .int .u8 A.d1, .int .u8 A.d2, .int .u8 A.d3, .int .u8 A.d4, .int .u8 A.d5, .int .u8 A.d6, .int .u8 A.d7]
  have U9 : Touch (fun k => k = g2 ∨ k = g3) w8.drew ((w8.drew.setRow g2 #[.int .u8 C.P.typ, .int .u32 C.P.router, .int .u32 C.P.area, .int .u32 C.P.mask, .int .u16 C.P.iv, .int .u8 C.P.opts, .int .u8 C.P.prio, .int .u32 C.P.dead, .int .u32 C.P.dr, .int .u32 C.P.bdr, .slice na C.nb.length nc, .int .u16 C.P.mtu, .int .u8 C.P.dopts, .int .u8 C.P.dflags, .int .u32 C.P.dseq, .slice da C.dh.length dc, .slice ka C.ks.length kc, .slice sa C.ss.length sc, .slice ha C.hs.length hc]).setRow g3 #[.int .u16 A.kind, .int .u8 A.d0, .int .u8 A.d1, .int .u8 A.d2, .int .u8 A.d3, .int .u8 A.d4, .int .u8 A.d5, .int .u8 A.d6, .int .u8 A.d7]) := Touch.setRow (F := fun k => k = g2 ∨ k = g3) (Touch.setRow (F := fun k => k = g2 ∨ k = g3) (Touch.refl _ _) (Or.inl (Or.inl rfl)) _) (Or.inl (Or.inr rfl)) _
  have FIN : Hid (PDp rs w (.returned (.tuple #[.agg #[.int .u8 C.P.typ, .int .u32 C.P.router, .int .u32 C.P.area, .int .u32 C.P.mask, .int .u16 C.P.iv, .int .u8 C.P.opts, .int .u8 C.P.prio, .int .u32 C.P.dead, .int .u32 C.P.dr, .int .u32 C.P.bdr, .slice na C.nb.length nc, .int .u16 C.P.mtu, .int .u8 C.P.dopts, .int .u8 C.P.dflags, .int .u32 C.P.dseq, .slice da C.dh.length dc, .slice ka C.ks.length kc, .slice sa C.ss.length sc, .slice ha C.hs.length hc], .agg #[.int .u16 A.kind, .int .u8 A.d0, .int .u8 A.d1, .int .u8 A.d2, .int .u8 A.d3, .int .u8 A.d4, .int .u8 A.d5, .int .u8 A.d6, .int .u8 A.d7]])) ((w8.drew.setRow g2 #[.int .u8 C.P.typ, .int .u32 C.P.router, .int .u32 C.P.area, .int .u32 C.P.mask, .int .u16 C.P.iv, .int .u8 C.P.opts, .int .u8 C.P.prio, .int .u32 C.P.dead, .int .u32 C.P.dr, .int .u32 C.P.bdr, .slice na C.nb.length nc, .int .u16 C.P.mtu, .int .u8 C.P.dopts, .int .u8 C.P.dflags, .int .u32 C.P.dseq, .slice da C.dh.length dc, .slice ka C.ks.length kc, .slice sa C.ss.length sc, .slice ha C.hs.length hc]).setRow g3 #[.int .u16 A.kind, .int .u8 A.d0, .int .u8 A.d1, .int .u8 A.d2, .int .u8 A.d3, .int .u8 A.d4, .int .u8 A.d5, .int .u8 A.d6, .int .u8 A.d7])) := by
   refine ⟨T8.out.drew.trans' U9 (fun i hi e => by have := HZ.out; omega), Or.inl ⟨E0.out, _, _, _, _, _, by rw [HC.out, HAc.out]; rfl, ?_⟩⟩
   rw [HC.out]
   have nn : ∀ k, w7.heap.size ≤ k → ¬ (k = g2 ∨ k = g3) := fun k hk e => by have h1 := z8.out; have h2 := HZ.out; have h3 := n27; have h4 := hbw.out; have h5 := Z2.out; have h6 := HG5.out; have h7 := HG6.out; have h8 := ZZ.out; omega
   have po := PO8.out
   have ow : ∀ {e k n : Nat} {v : Value} {xs : List Value}, w8.ownsRow w7.heap.size e k v n xs → ((w8.drew.setRow g2 #[.int .u8 C.P.typ, .int .u32 C.P.router, .int .u32 C.P.area, .int .u32 C.P.mask, .int .u16 C.P.iv, .int .u8 C.P.opts, .int .u8 C.P.prio, .int .u32 C.P.dead, .int .u32 C.P.dr, .int .u32 C.P.bdr, .slice na C.nb.length nc, .int .u16 C.P.mtu, .int .u8 C.P.dopts, .int .u8 C.P.dflags, .int .u32 C.P.dseq, .slice da C.dh.length dc, .slice ka C.ks.length kc, .slice sa C.ss.length sc, .slice ha C.hs.length hc]).setRow g3 #[.int .u16 A.kind, .int .u8 A.d0, .int .u8 A.d1, .int .u8 A.d2, .int .u8 A.d3, .int .u8 A.d4, .int .u8 A.d5, .int .u8 A.d6, .int .u8 A.d7]).ownsRow w.heap.size e k v n xs := fun h => own_lower (own_touch (own_touch h ((Touch.refl (fun _ => False) _).drew) (fun _ _ f => f)) U9 (fun k hk => nn k (h.lt k hk).1)) (by have h1 := z8.out; have h2 := HZ.out; have h4 := hbw.out; have h5 := Z2.out; have h6 := HG5.out; have h7 := HG6.out; have h8 := ZZ.out; omega)
   obtain ⟨l, hl1, hl2, hl3, hl4⟩ := po.s
   exact ⟨ow po.n, ow po.d, ow po.k, ⟨l, hl1, ow hl2, (fun x hx => ow (hl3 x hx)), hl4⟩, ow po.h, po.x⟩
  go_wp2_with fail
  refine bodyPost_ret (v := .tuple #[.agg #[.int .u8 C.P.typ, .int .u32 C.P.router, .int .u32 C.P.area, .int .u32 C.P.mask, .int .u16 C.P.iv, .int .u8 C.P.opts, .int .u8 C.P.prio, .int .u32 C.P.dead, .int .u32 C.P.dr, .int .u32 C.P.bdr, .slice na C.nb.length nc, .int .u16 C.P.mtu, .int .u8 C.P.dopts, .int .u8 C.P.dflags, .int .u32 C.P.dseq, .slice da C.dh.length dc, .slice ka C.ks.length kc, .slice sa C.ss.length sc, .slice ha C.hs.length hc], .agg #[.int .u16 A.kind, .int .u8 A.d0, .int .u8 A.d1, .int .u8 A.d2, .int .u8 A.d3, .int .u8 A.d4, .int .u8 A.d5, .int .u8 A.d6, .int .u8 A.d7]]) ?hr rfl ?_
  case hr => exact results_two (p := 2) (q := 3) rfl _ _ g2 g3 33 44 [.int .u8 C.P.typ, .int .u32 C.P.router, .int .u32 C.P.area, .int .u32 C.P.mask, .int .u16 C.P.iv, .int .u8 C.P.opts, .int .u8 C.P.prio, .int .u32 C.P.dead, .int .u32 C.P.dr, .int .u32 C.P.bdr, .slice na C.nb.length nc, .int .u16 C.P.mtu, .int .u8 C.P.dopts, .int .u8 C.P.dflags, .int .u32 C.P.dseq, .slice da C.dh.length dc, .slice ka C.ks.length kc, .slice sa C.ss.length sc, .slice ha C.hs.length hc] [.int .u16 A.kind, .int .u8 A.d0, .int .u8 A.d1, .int .u8 A.d2, .int .u8 A.d3, .int .u8 A.d4, .int .u8 A.d5, .int .u8 A.d6, .int .u8 A.d7] _ _ (by rfl) (by rfl) Af Bf Tryz.underlying33 rfl (by kernel_rfl) Tryz.underlying44 rfl (by kernel_rfl)
  exact FIN.out
end Go.Proofs.YtbfplepmgbkajaaGreatDoor
