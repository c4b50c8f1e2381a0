/- The document's side of stage 7: Decode, every way. -/
import Derived.Test.YtbfplepmgbkajaaGreatDoorRefPkD6
import Derived.Deep.DeepCutAuto
namespace Go.Proofs.YtbfplepmgbkajaaGreatDoor
open Go.RowKit
set_option linter.unusedVariables false
set_option maxRecDepth 100000

/-- Behind the parts. -/
structure DmP (w0 W : World) (Q : PkC) (E : Int) (g9 : Nat) (s6 : Value) (wx : World) : Prop where
 t : Touch (fun _ => False) w0 wx
 tw : Touch (fun _ => False) W wx
 big : w0.heap.size ≤ g9
 out : (E = 0 ∧ s6 = .int .i64 0 ∧ ∃ na nc da dc ka kc sa sc ha hc, Row wx g9 33 [.int .u8 Q.P.typ, .int .u32 Q.P.router, .int .u32 Q.P.area, .int .u32 Q.P.mask, .int .u16 Q.P.iv, .int .u8 Q.P.opts, .int .u8 Q.P.prio, .int .u32 Q.P.dead, .int .u32 Q.P.dr, .int .u32 Q.P.bdr, .slice na Q.nb.length nc, .int .u16 Q.P.mtu, .int .u8 Q.P.dopts, .int .u8 Q.P.dflags, .int .u32 Q.P.dseq, .slice da Q.dh.length dc, .slice ka Q.ks.length kc, .slice sa Q.ss.length sc, .slice ha Q.hs.length hc] ∧ ∀ w', Touch (fun k => k < w0.heap.size) wx w' → PkAt w' Q (.slice na Q.nb.length nc) (.slice da Q.dh.length dc) (.slice ka Q.ks.length kc) (.slice sa Q.ss.length sc) (.slice ha Q.hs.length hc)) ∨ (E ≠ 0 ∧ s6 = .int .i64 E ∧ Row wx g9 33 [.int .u8 0, .int .u32 0, .int .u32 0, .int .u32 0, .int .u16 0, .int .u8 0, .int .u8 0, .int .u32 0, .int .u32 0, .int .u32 0, .slice none 0 0, .int .u16 0, .int .u8 0, .int .u8 0, .int .u32 0, .slice none 0 0, .slice none 0 0, .slice none 0 0, .slice none 0 0])
set_option maxHeartbeats 8000000 in
theorem ddec_good (v : Value) (rs : List Int) (w : World) (hv : ArgAt w v rs) (hby : ∀ z ∈ rs, 0 ≤ z ∧ z < 256) (hl : rs.length ≤ 1000000) (hE : pLenE rs = 0)  : Calls Tryz.prog 18 #[v] w (DdP w rs) := by
 obtain ⟨va, vc, rfl, -⟩ := hv.form
 obtain ⟨w0, hw0⟩ : ∃ w0, w0 = (w.alloc (.cells #[.int .u8 0, .int .u32 0, .int .u32 0, .int .u32 0, .int .u16 0, .int .u8 0, .int .u8 0, .int .u32 0, .int .u32 0, .int .u32 0, .slice none 0 0, .int .u16 0, .int .u8 0, .int .u8 0, .int .u32 0, .slice none 0 0, .slice none 0 0, .slice none 0 0, .slice none 0 0] 33)).alloc (.cells #[.int .u16 0, .int .u8 0, .int .u8 0, .int .u8 0, .int .u8 0, .int .u8 0, .int .u8 0, .int .u8 0, .int .u8 0] 36) := ⟨_, rfl⟩
 have ta : Touch (fun _ => False) w w0 := by rw [hw0]; exact ((Touch.refl _ w).alloc _).alloc _
 have A0 : Row w0 w.heap.size 33 [.int .u8 0, .int .u32 0, .int .u32 0, .int .u32 0, .int .u16 0, .int .u8 0, .int .u8 0, .int .u32 0, .int .u32 0, .int .u32 0, .slice none 0 0, .int .u16 0, .int .u8 0, .int .u8 0, .int .u32 0, .slice none 0 0, .slice none 0 0, .slice none 0 0, .slice none 0 0] := by rw [hw0]; exact (row_new w 33 #[.int .u8 0, .int .u32 0, .int .u32 0, .int .u32 0, .int .u16 0, .int .u8 0, .int .u8 0, .int .u32 0, .int .u32 0, .int .u32 0, .slice none 0 0, .int .u16 0, .int .u8 0, .int .u8 0, .int .u32 0, .slice none 0 0, .slice none 0 0, .slice none 0 0, .slice none 0 0]).keep ((Touch.refl _ _).alloc _)
 have B0 : Row w0 (w.heap.size + 1) 36 [.int .u16 0, .int .u8 0, .int .u8 0, .int .u8 0, .int .u8 0, .int .u8 0, .int .u8 0, .int .u8 0, .int .u8 0] := by
  have := row_new (w.alloc (.cells #[.int .u8 0, .int .u32 0, .int .u32 0, .int .u32 0, .int .u16 0, .int .u8 0, .int .u8 0, .int .u32 0, .int .u32 0, .int .u32 0, .slice none 0 0, .int .u16 0, .int .u8 0, .int .u8 0, .int .u32 0, .slice none 0 0, .slice none 0 0, .slice none 0 0, .slice none 0 0] 33)) 36 #[.int .u16 0, .int .u8 0, .int .u8 0, .int .u8 0, .int .u8 0, .int .u8 0, .int .u8 0, .int .u8 0, .int .u8 0]
  rw [← hw0] at this
  simpa using this
 have TA : Hid (Touch (fun _ => False) w w0) := ta
 have HZ0 : Hid (w0.heap.size = w.heap.size + 2) := by show _ = _; rw [hw0]; simp
 have BK2 : Hid (∀ w', Touch (fun _ => False) w0 w' → Row w' w.heap.size 33 [.int .u8 0, .int .u32 0, .int .u32 0, .int .u32 0, .int .u16 0, .int .u8 0, .int .u8 0, .int .u32 0, .int .u32 0, .int .u32 0, .slice none 0 0, .int .u16 0, .int .u8 0, .int .u8 0, .int .u32 0, .slice none 0 0, .slice none 0 0, .slice none 0 0, .slice none 0 0]) := fun w' t => A0.keep t
 have BK3 : Hid (∀ w', Touch (fun _ => False) w0 w' → Row w' (w.heap.size + 1) 36 [.int .u16 0, .int .u8 0, .int .u8 0, .int .u8 0, .int .u8 0, .int .u8 0, .int .u8 0, .int .u8 0, .int .u8 0]) := fun w' t => B0.keep t
 have HV' : Hid (∀ w', Touch (fun _ => False) w0 w' → ArgAt w' (.slice va rs.length vc) rs) := fun w' t => hv.keepN (ta.trans t)
 have HBY : Hid (∀ z ∈ rs, 0 ≤ z ∧ z < 256) := hby
 have HL := dlen_any _ rs w0 (HV'.out w0 (Touch.refl _ _)) hby
 have P := pLenE_ok hE
 have h24 : 24 ≤ rs.length := P.l
 have hN : pLenN rs = pTold rs := by unfold pLenN; rw [if_pos hE]
 obtain ⟨pn, hpn⟩ : ∃ pn : Nat, pTold rs = (pn : Int) := ⟨(pTold rs).toNat, by have := P.n; omega⟩
 have hp1 : 24 ≤ pn := by have := P.n; omega
 have hp2 : pn ≤ rs.length := by have := P.n; omega
 rw [hE, hN, hpn] at HL
 obtain ⟨kd, hkd⟩ : ∃ k, numOf ((rs.drop 14).take (16 - 14)) = k := ⟨_, rfl⟩
 obtain ⟨d0, hd0⟩ : ∃ d, rs.getD 16 0 = d := ⟨_, rfl⟩
 obtain ⟨d1, hd1⟩ : ∃ d, rs.getD 17 0 = d := ⟨_, rfl⟩
 obtain ⟨d2, hd2⟩ : ∃ d, rs.getD 18 0 = d := ⟨_, rfl⟩
 obtain ⟨d3, hd3⟩ : ∃ d, rs.getD 19 0 = d := ⟨_, rfl⟩
 obtain ⟨d4, hd4⟩ : ∃ d, rs.getD 20 0 = d := ⟨_, rfl⟩
 obtain ⟨d5, hd5⟩ : ∃ d, rs.getD 21 0 = d := ⟨_, rfl⟩
 obtain ⟨d6, hd6⟩ : ∃ d, rs.getD 22 0 = d := ⟨_, rfl⟩
 obtain ⟨d7, hd7⟩ : ∃ d, rs.getD 23 0 = d := ⟨_, rfl⟩
 have HAU : Hid (au0 rs = ⟨kd, d0, d1, d2, d3, d4, d5, d6, d7⟩) := by show _ = _; unfold au0; rw [hd0, hd1, hd2, hd3, hd4, hd5, hd6, hd7, ← hkd]
 have hkb : 0 ≤ kd ∧ kd < 65536 := by
  rw [← hkd]
  obtain ⟨q0, q1⟩ := numOf_bound ((rs.drop 14).take (16 - 14)) (fun z hz => hby z (List.mem_of_mem_drop (List.mem_of_mem_take hz)))
  refine ⟨q0, Int.lt_of_lt_of_le q1 ?_⟩
  have : ((rs.drop 14).take (16 - 14)).length = 2 := by simp; omega
  rw [this]
  decide
 have hu16 : IntKind.u16.wrap kd = kd := by simp [IntKind.wrap, IntKind.bits, IntKind.signed]; omega
 have va0 := HV'.out w0 (Touch.refl _ _)
 obtain ⟨u0, hu0, a0⟩ := cut_mid va0 rfl (by omega) 14 16 (by omega) (by omega)
 have s0 : ∀ w, Sem.run Tryz.prog (Instr.slice 40 (.slice va rs.length vc) (some (.int .i64 14)) (some (.int .i64 16)) none) w = .ok u0 w := hu0
 obtain ⟨u1, hu1, a1⟩ := cut_mid va0 rfl (by omega) 4 8 (by omega) (by omega)
 have s1 : ∀ w, Sem.run Tryz.prog (Instr.slice 40 (.slice va rs.length vc) (some (.int .i64 4)) (some (.int .i64 8)) none) w = .ok u1 w := hu1
 obtain ⟨u2, hu2, a2⟩ := cut_mid va0 rfl (by omega) 8 12 (by omega) (by omega)
 have s2 : ∀ w, Sem.run Tryz.prog (Instr.slice 40 (.slice va rs.length vc) (some (.int .i64 8)) (some (.int .i64 12)) none) w = .ok u2 w := hu2
 obtain ⟨u3, hu3, a3⟩ := cut_mid va0 rfl (by omega) 24 pn (by omega) (by omega)
 have s3 : ∀ w, Sem.run Tryz.prog (Instr.slice 40 (.slice va rs.length vc) (some (.int .i64 24)) (some (.int .i64 (pn : Int))) none) w = .ok u3 w := hu3
 obtain ⟨ga, oa, rfl⟩ := rowAt_some (va0.row (by omega)) (by omega)
 have CK : Hid (∀ w', Touch (fun _ => False) w0 w' → ∀ k, k < rs.length → w'.cell? ⟨ga, oa + k, none⟩ = some (.int .u8 (rs.getD k 0))) := fun w' t k hk => t.cellN (rowAt_cell (va0.row (by omega)) k hk)
 have HN0 : Hid (∀ w', Touch (fun _ => False) w0 w' → Calls Tryz.prog 73 #[u0] w' fun e w'' => e = .returned (.int .u32 kd) ∧ w' = w'') := fun w' t => by
  have := pnumber_any u0 _ w' (a0.keepN t) (fun z hz => hby z (List.mem_of_mem_drop (List.mem_of_mem_take hz))) (by simp; omega)
  rw [hkd] at this
  exact this
 obtain ⟨ro, hro⟩ : ∃ n, numOf ((rs.drop 4).take (8 - 4)) = n := ⟨_, rfl⟩
 obtain ⟨ar, har⟩ : ∃ n, numOf ((rs.drop 8).take (12 - 8)) = n := ⟨_, rfl⟩
 obtain ⟨ty, hty⟩ : ∃ n, rs.getD 1 0 = n := ⟨_, rfl⟩
 have HN1 : Hid (∀ w', Touch (fun _ => False) w0 w' → Calls Tryz.prog 73 #[u1] w' fun e w'' => e = .returned (.int .u32 ro) ∧ w' = w'') := fun w' t => by
  have := pnumber_any u1 _ w' (a1.keepN t) (fun z hz => hby z (List.mem_of_mem_drop (List.mem_of_mem_take hz))) (by simp; omega)
  rw [hro] at this
  exact this
 have HN2 : Hid (∀ w', Touch (fun _ => False) w0 w' → Calls Tryz.prog 73 #[u2] w' fun e w'' => e = .returned (.int .u32 ar) ∧ w' = w'') := fun w' t => by
  have := pnumber_any u2 _ w' (a2.keepN t) (fun z hz => hby z (List.mem_of_mem_drop (List.mem_of_mem_take hz))) (by simp; omega)
  rw [har] at this
  exact this
 have HBE : Hid (pbehind rs = (rs.drop 24).take (pn - 24)) := by show _ = _; unfold pbehind; rw [hpn, Int.toNat_natCast, List.drop_take]
 have HPV : Hid (pv0 rs = { PV.zero with typ := ty, router := ro, area := ar }) := by show _ = _; unfold pv0; rw [hty, ← hro, ← har]
 have HPA : Hid (∀ w', Touch (fun _ => False) w0 w' → Calls Tryz.prog 74 #[.agg #[.int .u8 ty, .int .u32 ro, .int .u32 ar, .int .u32 0, .int .u16 0, .int .u8 0, .int .u8 0, .int .u32 0, .int .u32 0, .int .u32 0, .slice none 0 0, .int .u16 0, .int .u8 0, .int .u8 0, .int .u32 0, .slice none 0 0, .slice none 0 0, .slice none 0 0, .slice none 0 0], u3] w' (DpP w' { PV.zero with typ := ty, router := ro, area := ar } (pbehind rs))) := fun w' t => by
  rw [HBE.out]
  exact dparts7 { PV.zero with typ := ty, router := ro, area := ar } u3 _ w' (a3.keepN t) (fun z hz => hby z (List.mem_of_mem_drop (List.mem_of_mem_take hz))) (by simp; omega)
 have HRI : Hid (∀ w', Touch (fun _ => False) w0 w' → Calls Tryz.prog 23 #[.slice (some ⟨ga, oa, none⟩) rs.length vc] w' fun e w'' => e = .returned (.bool (pRight rs)) ∧ Touch (fun _ => False) w' w'') := fun w' t => dright_any _ rs w' (HV'.out w' t) hby hl
 have h24' : (24 : Int) ≤ (rs.length : Int) := by omega
 have HTY : Hid (rs.getD 1 0 = ty) := hty
 have HKD : Hid (0 ≤ kd) := hkb.1
 have HD0 : Hid (rs.getD 16 0 = d0) := hd0
 have HD1 : Hid (rs.getD 17 0 = d1) := hd1
 have HD2 : Hid (rs.getD 18 0 = d2) := hd2
 have HD3 : Hid (rs.getD 19 0 = d3) := hd3
 have HD4 : Hid (rs.getD 20 0 = d4) := hd4
 have HD5 : Hid (rs.getD 21 0 = d5) := hd5
 have HD6 : Hid (rs.getD 22 0 = d6) := hd6
 have HD7 : Hid (rs.getD 23 0 = d7) := hd7
 have WAYS : Hid ((2 < kd ∧ pdecE rs = 25) ∨ (¬ 2 < kd ∧ (kd != 2) = true ∧ ((pn : Int) != (rs.length : Int)) = true ∧ pdecE rs = 22) ∨ (¬ 2 < kd ∧ (kd != 2) = true ∧ ((pn : Int) != (rs.length : Int)) = false ∧ pRight rs = false ∧ pdecE rs = 23) ∨ (¬ 2 < kd ∧ (kd != 2) = false ∧ pdecE rs = ppartE ty (pbehind rs)) ∨ (¬ 2 < kd ∧ (kd != 2) = true ∧ ((pn : Int) != (rs.length : Int)) = false ∧ pRight rs = true ∧ pdecE rs = ppartE ty (pbehind rs))) := by
  have ek : (au0 rs).kind = kd := by rw [HAU.out]
  show _ ∨ _
  unfold pdecE
  rw [if_neg (fun h => h hE), ek, hpn, hty]
  by_cases hk : 2 < kd
  ·exact Or.inl ⟨hk, by rw [if_pos hk]⟩
  rw [if_neg hk]
  by_cases h2 : kd = 2
  ·exact Or.inr (Or.inr (Or.inr (Or.inl ⟨hk, by simpa using h2, by rw [if_neg (fun h => h.1 h2), if_neg (fun h => h.1 h2)]⟩)))
  have h2b : (kd != 2) = true := by simpa using h2
  by_cases hl2 : (rs.length : Int) = (pn : Int)
  rotate_left
  ·exact Or.inr (Or.inl ⟨hk, h2b, by have h9 : ¬ (pn : Int) = (rs.length : Int) := fun e => hl2 e.symm; simpa using h9, by rw [if_pos ⟨h2, hl2⟩]⟩)
  have hnb : ((pn : Int) != (rs.length : Int)) = false := by have h9 : (pn : Int) = (rs.length : Int) := hl2.symm; simpa using h9
  cases hr : pRight rs
  ·exact Or.inr (Or.inr (Or.inl ⟨hk, h2b, hnb, rfl, by rw [if_neg (fun h => h.2 hl2), if_pos ⟨h2, rfl⟩]⟩))
  ·exact Or.inr (Or.inr (Or.inr (Or.inr ⟨hk, h2b, hnb, rfl, by rw [if_neg (fun h => h.2 hl2), if_neg (fun h => by cases h.2)]⟩)))
 clear hu0 hu1 hu2 hu3 a0 a1 a2 a3 va0 hv hby hE P hN hpn hkd hd0 hd1 hd2 hd3 hd4 hd5 hd6 hd7 hkb hro har hty ta A0 B0
 have CLR : True := trivial
 go_enter Tryz.func18, Tryz.ntmps18
 go_upto_region 1 with fail
 rw [← hw0]
 clear hw0
 have ng32 : ¬ w.heap.size + 1 = w.heap.size := by omega
 have ng23 : ¬ w.heap.size = w.heap.size + 1 := by omega
 generalize hg3 : w.heap.size + 1 = g3 at *
 generalize hg2 : w.heap.size = g2 at *
 have HZ : Hid (w.heap.size = g2 ∧ g2 + 1 = g3) := ⟨hg2, hg3⟩
 clear hg2 hg3
 go_wp2_with fail
 refine Calls.mono HL ?_
 rintro e w1 ⟨rfl, nn, rfl⟩
 have T1 : Hid (Touch (fun _ => False) w0 (w0.drewN nn)) := (Touch.refl _ _).drewN nn
 generalize w0.drewN nn = w1 at *
 clear HL
 go_wp2_with fail
 refine Calls.mono (HN0.out _ T1.out) ?_
 rintro e wx ⟨rfl, rfl⟩
 have R7 : Row (w1.alloc (.cells #[.int .u16 kd, .int .u8 0, .int .u8 0, .int .u8 0, .int .u8 0, .int .u8 0, .int .u8 0, .int .u8 0, .int .u8 0] 36)) w1.heap.size 36 [.int .u16 kd, .int .u8 0, .int .u8 0, .int .u8 0, .int .u8 0, .int .u8 0, .int .u8 0, .int .u8 0, .int .u8 0] := row_new w1 36 #[.int .u16 kd, .int .u8 0, .int .u8 0, .int .u8 0, .int .u8 0, .int .u8 0, .int .u8 0, .int .u8 0, .int .u8 0]
 have T7 : Hid (Touch (fun _ => False) w0 (w1.alloc (.cells #[.int .u16 kd, .int .u8 0, .int .u8 0, .int .u8 0, .int .u8 0, .int .u8 0, .int .u8 0, .int .u8 0, .int .u8 0] 36))) := T1.out.alloc _
 have HG7 : Hid (g2 + 2 ≤ w1.heap.size) := by have h1 := T1.out.size; have h2 := HZ0.out; have h3 := HZ.out; show _ ≤ _; omega
 go_upto_region 5 with fail
 generalize w1.alloc (.cells #[.int .u16 kd, .int .u8 0, .int .u8 0, .int .u8 0, .int .u8 0, .int .u8 0, .int .u8 0, .int .u8 0, .int .u8 0] 36) = x1 at *
 generalize w1.heap.size = g7 at *
 have REL : Hid (DcR g7 w0 kd d0 d1 d2 d3 d4 d5 d6 d7 8 (.int .i64 0) x1) := ⟨0, by omega, rfl, rfl, R7, T7.out⟩
 clear R7 T7 T1
 go_wp2_with fail
 go_loopg [8] 8 (fun gg i wr => DcR g7 w0 kd d0 d1 d2 d3 d4 d5 d6 d7 gg i wr)
 case atStart => exact REL.out
 case round =>
  clear REL
  obtain ⟨j, hj, hgg, rfl, rg, tw⟩ := hrel.out
  have TW : Hid (Touch (fun _ => False) w0 wr) := tw
  rcases (by omega : j = 8 ∨ j = 0 ∨ j = 1 ∨ j = 2 ∨ j = 3 ∨ j = 4 ∨ j = 5 ∨ j = 6 ∨ j = 7) with hj8 | hj0 | hj1 | hj2 | hj3 | hj4 | hj5 | hj6 | hj7
  rotate_left
  ·subst hj0
   have ra : Row wr g7 36 [.int .u16 kd, .int .u8 0, .int .u8 0, .int .u8 0, .int .u8 0, .int .u8 0, .int .u8 0, .int .u8 0, .int .u8 0] := rg
   have bc : wr.cell? ⟨ga, oa + 16, none⟩ = some (.int .u8 d0) := by have := CK.out _ tw 16 (by omega); rw [HD0.out] at this; exact this
   have zc : wr.cell? ⟨g7, 1, none⟩ = some (.int .u8 0) := ra.cell 1
   have zf : wr.frozen? ⟨g7, 1, none⟩ = false := ra.frozen 1
   have R8 : Hid (Row (wr.setCell ⟨g7, 1, none⟩ (.int .u8 d0)) g7 36 (auL kd d0 d1 d2 d3 d4 d5 d6 d7 1)) := ra.set 1 _
   have T8 : Hid (Touch (fun _ => False) w0 (wr.setCell ⟨g7, 1, none⟩ (.int .u8 d0))) := TW.out.setCell (Or.inr (by have h1 := HG7.out; have h2 := HZ0.out; have h3 := HZ.out; show _ ≤ g7; omega)) _
   have hi : (16 : Int) < (rs.length : Int) := by omega
   clear rg ra hrel tw hj
   go_wp2_with fail
   go_roundg 7
   case measure => omega
   case rel => exact ⟨1, by omega, rfl, rfl, R8.out, T8.out⟩
  ·subst hj1
   have ra : Row wr g7 36 [.int .u16 kd, .int .u8 d0, .int .u8 0, .int .u8 0, .int .u8 0, .int .u8 0, .int .u8 0, .int .u8 0, .int .u8 0] := rg
   have bc : wr.cell? ⟨ga, oa + 17, none⟩ = some (.int .u8 d1) := by have := CK.out _ tw 17 (by omega); rw [HD1.out] at this; exact this
   have zc : wr.cell? ⟨g7, 2, none⟩ = some (.int .u8 0) := ra.cell 2
   have zf : wr.frozen? ⟨g7, 2, none⟩ = false := ra.frozen 2
   have R8 : Hid (Row (wr.setCell ⟨g7, 2, none⟩ (.int .u8 d1)) g7 36 (auL kd d0 d1 d2 d3 d4 d5 d6 d7 2)) := ra.set 2 _
   have T8 : Hid (Touch (fun _ => False) w0 (wr.setCell ⟨g7, 2, none⟩ (.int .u8 d1))) := TW.out.setCell (Or.inr (by have h1 := HG7.out; have h2 := HZ0.out; have h3 := HZ.out; show _ ≤ g7; omega)) _
   have hi : (17 : Int) < (rs.length : Int) := by omega
   clear rg ra hrel tw hj
   go_wp2_with fail
   go_roundg 6
   case measure => omega
   case rel => exact ⟨2, by omega, rfl, rfl, R8.out, T8.out⟩
  ·subst hj2
   have ra : Row wr g7 36 [.int .u16 kd, .int .u8 d0, .int .u8 d1, .int .u8 0, .int .u8 0, .int .u8 0, .int .u8 0, .int .u8 0, .int .u8 0] := rg
   have bc : wr.cell? ⟨ga, oa + 18, none⟩ = some (.int .u8 d2) := by have := CK.out _ tw 18 (by omega); rw [HD2.out] at this; exact this
   have zc : wr.cell? ⟨g7, 3, none⟩ = some (.int .u8 0) := ra.cell 3
   have zf : wr.frozen? ⟨g7, 3, none⟩ = false := ra.frozen 3
   have R8 : Hid (Row (wr.setCell ⟨g7, 3, none⟩ (.int .u8 d2)) g7 36 (auL kd d0 d1 d2 d3 d4 d5 d6 d7 3)) := ra.set 3 _
   have T8 : Hid (Touch (fun _ => False) w0 (wr.setCell ⟨g7, 3, none⟩ (.int .u8 d2))) := TW.out.setCell (Or.inr (by have h1 := HG7.out; have h2 := HZ0.out; have h3 := HZ.out; show _ ≤ g7; omega)) _
   have hi : (18 : Int) < (rs.length : Int) := by omega
   clear rg ra hrel tw hj
   go_wp2_with fail
   go_roundg 5
   case measure => omega
   case rel => exact ⟨3, by omega, rfl, rfl, R8.out, T8.out⟩
  ·subst hj3
   have ra : Row wr g7 36 [.int .u16 kd, .int .u8 d0, .int .u8 d1, .int .u8 d2, .int .u8 0, .int .u8 0, .int .u8 0, .int .u8 0, .int .u8 0] := rg
   have bc : wr.cell? ⟨ga, oa + 19, none⟩ = some (.int .u8 d3) := by have := CK.out _ tw 19 (by omega); rw [HD3.out] at this; exact this
   have zc : wr.cell? ⟨g7, 4, none⟩ = some (.int .u8 0) := ra.cell 4
   have zf : wr.frozen? ⟨g7, 4, none⟩ = false := ra.frozen 4
   have R8 : Hid (Row (wr.setCell ⟨g7, 4, none⟩ (.int .u8 d3)) g7 36 (auL kd d0 d1 d2 d3 d4 d5 d6 d7 4)) := ra.set 4 _
   have T8 : Hid (Touch (fun _ => False) w0 (wr.setCell ⟨g7, 4, none⟩ (.int .u8 d3))) := TW.out.setCell (Or.inr (by have h1 := HG7.out; have h2 := HZ0.out; have h3 := HZ.out; show _ ≤ g7; omega)) _
   have hi : (19 : Int) < (rs.length : Int) := by omega
   clear rg ra hrel tw hj
   go_wp2_with fail
   go_roundg 4
   case measure => omega
   case rel => exact ⟨4, by omega, rfl, rfl, R8.out, T8.out⟩
  ·subst hj4
   have ra : Row wr g7 36 [.int .u16 kd, .int .u8 d0, .int .u8 d1, .int .u8 d2, .int .u8 d3, .int .u8 0, .int .u8 0, .int .u8 0, .int .u8 0] := rg
   have bc : wr.cell? ⟨ga, oa + 20, none⟩ = some (.int .u8 d4) := by have := CK.out _ tw 20 (by omega); rw [HD4.out] at this; exact this
   have zc : wr.cell? ⟨g7, 5, none⟩ = some (.int .u8 0) := ra.cell 5
   have zf : wr.frozen? ⟨g7, 5, none⟩ = false := ra.frozen 5
   have R8 : Hid (Row (wr.setCell ⟨g7, 5, none⟩ (.int .u8 d4)) g7 36 (auL kd d0 d1 d2 d3 d4 d5 d6 d7 5)) := ra.set 5 _
   have T8 : Hid (Touch (fun _ => False) w0 (wr.setCell ⟨g7, 5, none⟩ (.int .u8 d4))) := TW.out.setCell (Or.inr (by have h1 := HG7.out; have h2 := HZ0.out; have h3 := HZ.out; show _ ≤ g7; omega)) _
   have hi : (20 : Int) < (rs.length : Int) := by omega
   clear rg ra hrel tw hj
   go_wp2_with fail
   go_roundg 3
   case measure => omega
   case rel => exact ⟨5, by omega, rfl, rfl, R8.out, T8.out⟩
  ·subst hj5
   have ra : Row wr g7 36 [.int .u16 kd, .int .u8 d0, .int .u8 d1, .int .u8 d2, .int .u8 d3, .int .u8 d4, .int .u8 0, .int .u8 0, .int .u8 0] := rg
   have bc : wr.cell? ⟨ga, oa + 21, none⟩ = some (.int .u8 d5) := by have := CK.out _ tw 21 (by omega); rw [HD5.out] at this; exact this
   have zc : wr.cell? ⟨g7, 6, none⟩ = some (.int .u8 0) := ra.cell 6
   have zf : wr.frozen? ⟨g7, 6, none⟩ = false := ra.frozen 6
   have R8 : Hid (Row (wr.setCell ⟨g7, 6, none⟩ (.int .u8 d5)) g7 36 (auL kd d0 d1 d2 d3 d4 d5 d6 d7 6)) := ra.set 6 _
   have T8 : Hid (Touch (fun _ => False) w0 (wr.setCell ⟨g7, 6, none⟩ (.int .u8 d5))) := TW.out.setCell (Or.inr (by have h1 := HG7.out; have h2 := HZ0.out; have h3 := HZ.out; show _ ≤ g7; omega)) _
   have hi : (21 : Int) < (rs.length : Int) := by omega
   clear rg ra hrel tw hj
   go_wp2_with fail
   go_roundg 2
   case measure => omega
   case rel => exact ⟨6, by omega, rfl, rfl, R8.out, T8.out⟩
  ·subst hj6
   have ra : Row wr g7 36 [.int .u16 kd, .int .u8 d0, .int .u8 d1, .int .u8 d2, .int .u8 d3, .int .u8 d4, .int .u8 d5, .int .u8 0, .int .u8 0] := rg
   have bc : wr.cell? ⟨ga, oa + 22, none⟩ = some (.int .u8 d6) := by have := CK.out _ tw 22 (by omega); rw [HD6.out] at this; exact this
   have zc : wr.cell? ⟨g7, 7, none⟩ = some (.int .u8 0) := ra.cell 7
   have zf : wr.frozen? ⟨g7, 7, none⟩ = false := ra.frozen 7
   have R8 : Hid (Row (wr.setCell ⟨g7, 7, none⟩ (.int .u8 d6)) g7 36 (auL kd d0 d1 d2 d3 d4 d5 d6 d7 7)) := ra.set 7 _
   have T8 : Hid (Touch (fun _ => False) w0 (wr.setCell ⟨g7, 7, none⟩ (.int .u8 d6))) := TW.out.setCell (Or.inr (by have h1 := HG7.out; have h2 := HZ0.out; have h3 := HZ.out; show _ ≤ g7; omega)) _
   have hi : (22 : Int) < (rs.length : Int) := by omega
   clear rg ra hrel tw hj
   go_wp2_with fail
   go_roundg 1
   case measure => omega
   case rel => exact ⟨7, by omega, rfl, rfl, R8.out, T8.out⟩
  ·subst hj7
   have ra : Row wr g7 36 [.int .u16 kd, .int .u8 d0, .int .u8 d1, .int .u8 d2, .int .u8 d3, .int .u8 d4, .int .u8 d5, .int .u8 d6, .int .u8 0] := rg
   have bc : wr.cell? ⟨ga, oa + 23, none⟩ = some (.int .u8 d7) := by have := CK.out _ tw 23 (by omega); rw [HD7.out] at this; exact this
   have zc : wr.cell? ⟨g7, 8, none⟩ = some (.int .u8 0) := ra.cell 8
   have zf : wr.frozen? ⟨g7, 8, none⟩ = false := ra.frozen 8
   have R8 : Hid (Row (wr.setCell ⟨g7, 8, none⟩ (.int .u8 d7)) g7 36 (auL kd d0 d1 d2 d3 d4 d5 d6 d7 8)) := ra.set 8 _
   have T8 : Hid (Touch (fun _ => False) w0 (wr.setCell ⟨g7, 8, none⟩ (.int .u8 d7))) := TW.out.setCell (Or.inr (by have h1 := HG7.out; have h2 := HZ0.out; have h3 := HZ.out; show _ ≤ g7; omega)) _
   have hi : (23 : Int) < (rs.length : Int) := by omega
   clear rg ra hrel tw hj
   go_wp2_with fail
   go_roundg 0
   case measure => omega
   case rel => exact ⟨8, by omega, rfl, rfl, R8.out, T8.out⟩
  subst hj8
  have RA : Row wr g7 36 [.int .u16 kd, .int .u8 d0, .int .u8 d1, .int .u8 d2, .int .u8 d3, .int .u8 d4, .int .u8 d5, .int .u8 d6, .int .u8 d7] := rg
  have k0 : wr.cell? ⟨g7, 0, none⟩ = some (.int .u16 kd) := RA.cell 0
  clear rg hgg hj hrel tw
  rcases WAYS.out with ⟨hk2, hEE⟩ | ⟨hk0, hkb2, hnb2, hEE⟩ | ⟨hk0, hkb2, hnb2, hr, hEE⟩ | ⟨hk0, hkb2, hEE⟩ | ⟨hk0, hkb2, hnb2, hr, hEE⟩
  ·clear WAYS
   have HE : Hid (pdecE rs = 25) := hEE
   have HEN : Hid ((25 : Int) ≠ 0) := by show (25 : Int) ≠ 0; decide
   clear hEE
   have R2e : Row wr g2 33 [.int .u8 0, .int .u32 0, .int .u32 0, .int .u32 0, .int .u16 0, .int .u8 0, .int .u8 0, .int .u32 0, .int .u32 0, .int .u32 0, .slice none 0 0, .int .u16 0, .int .u8 0, .int .u8 0, .int .u32 0, .slice none 0 0, .slice none 0 0, .slice none 0 0, .slice none 0 0] := BK2.out _ TW.out
   have R3e : Row (wr.setRow g2 #[.int .u8 0, .int .u32 0, .int .u32 0, .int .u32 0, .int .u16 0, .int .u8 0, .int .u8 0, .int .u32 0, .int .u32 0, .int .u32 0, .slice none 0 0, .int .u16 0, .int .u8 0, .int .u8 0, .int .u32 0, .slice none 0 0, .slice none 0 0, .slice none 0 0, .slice none 0 0]) g3 36 [.int .u16 0, .int .u8 0, .int .u8 0, .int .u8 0, .int .u8 0, .int .u8 0, .int .u8 0, .int .u8 0, .int .u8 0] := (BK3.out _ TW.out).otherRow ng32 _
   go_wp2_with (first | refine wpList_store_row rfl 33 (.tmp 2) (.tmp 40) rfl g2 #[.int .u8 0, .int .u32 0, .int .u32 0, .int .u32 0, .int .u16 0, .int .u8 0, .int .u8 0, .int .u32 0, .int .u32 0, .int .u32 0, .slice none 0 0, .int .u16 0, .int .u8 0, .int .u8 0, .int .u32 0, .slice none 0 0, .slice none 0 0, .slice none 0 0, .slice none 0 0] rfl rfl 33 _ R2e (by kernel_rfl) rfl (by simp [Value.oneCell']) ?_ | refine wpList_store_row rfl 36 (.tmp 3) (.tmp 41) rfl g3 #[.int .u16 0, .int .u8 0, .int .u8 0, .int .u8 0, .int .u8 0, .int .u8 0, .int .u8 0, .int .u8 0, .int .u8 0] rfl rfl 36 _ R3e (by kernel_rfl) rfl (by simp [Value.oneCell']) ?_)
   refine bodyPost_ret (v := .tuple #[.agg #[.int .u8 0, .int .u32 0, .int .u32 0, .int .u32 0, .int .u16 0, .int .u8 0, .int .u8 0, .int .u32 0, .int .u32 0, .int .u32 0, .slice none 0 0, .int .u16 0, .int .u8 0, .int .u8 0, .int .u32 0, .slice none 0 0, .slice none 0 0, .slice none 0 0, .slice none 0 0], .agg #[.int .u16 0, .int .u8 0, .int .u8 0, .int .u8 0, .int .u8 0, .int .u8 0, .int .u8 0, .int .u8 0, .int .u8 0], .int .i64 25]) ?hr rfl ?_
   case hr => exact results_three (p := 2) (q := 3) (s := 4) rfl _ _ g2 g3 33 36 [.int .u8 0, .int .u32 0, .int .u32 0, .int .u32 0, .int .u16 0, .int .u8 0, .int .u8 0, .int .u32 0, .int .u32 0, .int .u32 0, .slice none 0 0, .int .u16 0, .int .u8 0, .int .u8 0, .int .u32 0, .slice none 0 0, .slice none 0 0, .slice none 0 0, .slice none 0 0] [.int .u16 0, .int .u8 0, .int .u8 0, .int .u8 0, .int .u8 0, .int .u8 0, .int .u8 0, .int .u8 0, .int .u8 0] _ _ _ (by rfl) (by rfl) (by rfl) ((R2e.setRow _).otherRow ng23 _) (R3e.setRow _) Tryz.underlying33 rfl (by kernel_rfl) Tryz.underlying36 rfl (by kernel_rfl)
   exact ddp_no HE.out HEN.out (((TA.out.trans TW.out).setRow (Or.inr (by have := HZ.out; omega)) _).setRow (Or.inr (by have := HZ.out; omega)) _)
  ·clear WAYS
   have HE : Hid (pdecE rs = 22) := hEE
   have HEN : Hid ((22 : Int) ≠ 0) := by show (22 : Int) ≠ 0; decide
   clear hEE
   have R2e : Row wr g2 33 [.int .u8 0, .int .u32 0, .int .u32 0, .int .u32 0, .int .u16 0, .int .u8 0, .int .u8 0, .int .u32 0, .int .u32 0, .int .u32 0, .slice none 0 0, .int .u16 0, .int .u8 0, .int .u8 0, .int .u32 0, .slice none 0 0, .slice none 0 0, .slice none 0 0, .slice none 0 0] := BK2.out _ TW.out
   have R3e : Row (wr.setRow g2 #[.int .u8 0, .int .u32 0, .int .u32 0, .int .u32 0, .int .u16 0, .int .u8 0, .int .u8 0, .int .u32 0, .int .u32 0, .int .u32 0, .slice none 0 0, .int .u16 0, .int .u8 0, .int .u8 0, .int .u32 0, .slice none 0 0, .slice none 0 0, .slice none 0 0, .slice none 0 0]) g3 36 [.int .u16 0, .int .u8 0, .int .u8 0, .int .u8 0, .int .u8 0, .int .u8 0, .int .u8 0, .int .u8 0, .int .u8 0] := (BK3.out _ TW.out).otherRow ng32 _
   go_wp2_with (first | refine wpList_store_row rfl 33 (.tmp 2) (.tmp 51) rfl g2 #[.int .u8 0, .int .u32 0, .int .u32 0, .int .u32 0, .int .u16 0, .int .u8 0, .int .u8 0, .int .u32 0, .int .u32 0, .int .u32 0, .slice none 0 0, .int .u16 0, .int .u8 0, .int .u8 0, .int .u32 0, .slice none 0 0, .slice none 0 0, .slice none 0 0, .slice none 0 0] rfl rfl 33 _ R2e (by kernel_rfl) rfl (by simp [Value.oneCell']) ?_ | refine wpList_store_row rfl 36 (.tmp 3) (.tmp 52) rfl g3 #[.int .u16 0, .int .u8 0, .int .u8 0, .int .u8 0, .int .u8 0, .int .u8 0, .int .u8 0, .int .u8 0, .int .u8 0] rfl rfl 36 _ R3e (by kernel_rfl) rfl (by simp [Value.oneCell']) ?_)
   refine bodyPost_ret (v := .tuple #[.agg #[.int .u8 0, .int .u32 0, .int .u32 0, .int .u32 0, .int .u16 0, .int .u8 0, .int .u8 0, .int .u32 0, .int .u32 0, .int .u32 0, .slice none 0 0, .int .u16 0, .int .u8 0, .int .u8 0, .int .u32 0, .slice none 0 0, .slice none 0 0, .slice none 0 0, .slice none 0 0], .agg #[.int .u16 0, .int .u8 0, .int .u8 0, .int .u8 0, .int .u8 0, .int .u8 0, .int .u8 0, .int .u8 0, .int .u8 0], .int .i64 22]) ?hr rfl ?_
   case hr => exact results_three (p := 2) (q := 3) (s := 4) rfl _ _ g2 g3 33 36 [.int .u8 0, .int .u32 0, .int .u32 0, .int .u32 0, .int .u16 0, .int .u8 0, .int .u8 0, .int .u32 0, .int .u32 0, .int .u32 0, .slice none 0 0, .int .u16 0, .int .u8 0, .int .u8 0, .int .u32 0, .slice none 0 0, .slice none 0 0, .slice none 0 0, .slice none 0 0] [.int .u16 0, .int .u8 0, .int .u8 0, .int .u8 0, .int .u8 0, .int .u8 0, .int .u8 0, .int .u8 0, .int .u8 0] _ _ _ (by rfl) (by rfl) (by rfl) ((R2e.setRow _).otherRow ng23 _) (R3e.setRow _) Tryz.underlying33 rfl (by kernel_rfl) Tryz.underlying36 rfl (by kernel_rfl)
   exact ddp_no HE.out HEN.out (((TA.out.trans TW.out).setRow (Or.inr (by have := HZ.out; omega)) _).setRow (Or.inr (by have := HZ.out; omega)) _)
  ·clear WAYS
   have HE : Hid (pdecE rs = 23) := hEE
   have HEN : Hid ((23 : Int) ≠ 0) := by show (23 : Int) ≠ 0; decide
   clear hEE
   rw [hr] at HRI
   go_wp2_with fail
   refine Calls.mono (HRI.out _ TW.out) ?_
   rintro e wq ⟨rfl, tq⟩
   have TQ : Hid (Touch (fun _ => False) w0 wq) := TW.out.trans tq
   clear tq k0
   have R2e : Row wq g2 33 [.int .u8 0, .int .u32 0, .int .u32 0, .int .u32 0, .int .u16 0, .int .u8 0, .int .u8 0, .int .u32 0, .int .u32 0, .int .u32 0, .slice none 0 0, .int .u16 0, .int .u8 0, .int .u8 0, .int .u32 0, .slice none 0 0, .slice none 0 0, .slice none 0 0, .slice none 0 0] := BK2.out _ TQ.out
   have R3e : Row (wq.setRow g2 #[.int .u8 0, .int .u32 0, .int .u32 0, .int .u32 0, .int .u16 0, .int .u8 0, .int .u8 0, .int .u32 0, .int .u32 0, .int .u32 0, .slice none 0 0, .int .u16 0, .int .u8 0, .int .u8 0, .int .u32 0, .slice none 0 0, .slice none 0 0, .slice none 0 0, .slice none 0 0]) g3 36 [.int .u16 0, .int .u8 0, .int .u8 0, .int .u8 0, .int .u8 0, .int .u8 0, .int .u8 0, .int .u8 0, .int .u8 0] := (BK3.out _ TQ.out).otherRow ng32 _
   go_wp2_with (first | refine wpList_store_row rfl 33 (.tmp 2) (.tmp 61) rfl g2 #[.int .u8 0, .int .u32 0, .int .u32 0, .int .u32 0, .int .u16 0, .int .u8 0, .int .u8 0, .int .u32 0, .int .u32 0, .int .u32 0, .slice none 0 0, .int .u16 0, .int .u8 0, .int .u8 0, .int .u32 0, .slice none 0 0, .slice none 0 0, .slice none 0 0, .slice none 0 0] rfl rfl 33 _ R2e (by kernel_rfl) rfl (by simp [Value.oneCell']) ?_ | refine wpList_store_row rfl 36 (.tmp 3) (.tmp 62) rfl g3 #[.int .u16 0, .int .u8 0, .int .u8 0, .int .u8 0, .int .u8 0, .int .u8 0, .int .u8 0, .int .u8 0, .int .u8 0] rfl rfl 36 _ R3e (by kernel_rfl) rfl (by simp [Value.oneCell']) ?_)
   refine bodyPost_ret (v := .tuple #[.agg #[.int .u8 0, .int .u32 0, .int .u32 0, .int .u32 0, .int .u16 0, .int .u8 0, .int .u8 0, .int .u32 0, .int .u32 0, .int .u32 0, .slice none 0 0, .int .u16 0, .int .u8 0, .int .u8 0, .int .u32 0, .slice none 0 0, .slice none 0 0, .slice none 0 0, .slice none 0 0], .agg #[.int .u16 0, .int .u8 0, .int .u8 0, .int .u8 0, .int .u8 0, .int .u8 0, .int .u8 0, .int .u8 0, .int .u8 0], .int .i64 23]) ?hr rfl ?_
   case hr => exact results_three (p := 2) (q := 3) (s := 4) rfl _ _ g2 g3 33 36 [.int .u8 0, .int .u32 0, .int .u32 0, .int .u32 0, .int .u16 0, .int .u8 0, .int .u8 0, .int .u32 0, .int .u32 0, .int .u32 0, .slice none 0 0, .int .u16 0, .int .u8 0, .int .u8 0, .int .u32 0, .slice none 0 0, .slice none 0 0, .slice none 0 0, .slice none 0 0] [.int .u16 0, .int .u8 0, .int .u8 0, .int .u8 0, .int .u8 0, .int .u8 0, .int .u8 0, .int .u8 0, .int .u8 0] _ _ _ (by rfl) (by rfl) (by rfl) ((R2e.setRow _).otherRow ng23 _) (R3e.setRow _) Tryz.underlying33 rfl (by kernel_rfl) Tryz.underlying36 rfl (by kernel_rfl)
   exact ddp_no HE.out HEN.out (((TA.out.trans TQ.out).setRow (Or.inr (by have := HZ.out; omega)) _).setRow (Or.inr (by have := HZ.out; omega)) _)
  focus
   clear WAYS
   have HE : Hid (pdecE rs = ppartE ty (pbehind rs)) := hEE
   clear hEE
   go_upto_region 15 with fail
   have TT : Hid (Touch (fun _ => False) w0 wr) := TW.out
   have RA7 : Hid (∀ w', Touch (fun _ => False) wr w' → Row w' g7 36 [.int .u16 kd, .int .u8 d0, .int .u8 d1, .int .u8 d2, .int .u8 d3, .int .u8 d4, .int .u8 d5, .int .u8 d6, .int .u8 d7]) := fun w' t => (RA).keep t
   have ZW : Hid (g2 + 2 ≤ wr.heap.size) := by have h1 := TT.out.size; have h2 := HZ0.out; have h3 := HZ.out; show _ ≤ _; omega
   clear RA k0
   generalize wr = W at *
  rotate_left
  focus
   clear WAYS
   have HE : Hid (pdecE rs = ppartE ty (pbehind rs)) := hEE
   rw [hr] at HRI
   clear hEE
   go_wp2_with fail
   refine Calls.mono (HRI.out _ TW.out) ?_
   rintro e wq0 ⟨rfl, tq⟩
   have TQ : Hid (Touch (fun _ => False) w0 wq0) := TW.out.trans tq
   have RQ := RA.keep tq
   clear tq
   go_upto_region 15 with fail
   have TT : Hid (Touch (fun _ => False) w0 wq0) := TQ.out
   have RA7 : Hid (∀ w', Touch (fun _ => False) wq0 w' → Row w' g7 36 [.int .u16 kd, .int .u8 d0, .int .u8 d1, .int .u8 d2, .int .u8 d3, .int .u8 d4, .int .u8 d5, .int .u8 d6, .int .u8 d7]) := fun w' t => (RQ).keep t
   have ZW : Hid (g2 + 2 ≤ wq0.heap.size) := by have h1 := TT.out.size; have h2 := HZ0.out; have h3 := HZ.out; show _ ≤ _; omega
   clear RA k0 RQ
   generalize wq0 = W at *
  all_goals
   have Y1 : Hid (∀ w', Touch (fun _ => False) W w' → w'.cell? ⟨ga, oa + 1, none⟩ = some (.int .u8 ty)) := fun w' t => by have := CK.out _ (TT.out.trans t) 1 (by omega); rw [HTY.out] at this; exact this
   have HVV : Hid (W.heap.size < ((W.alloc (.cells #[.int .u8 0, .int .u32 0, .int .u32 0, .int .u32 0, .int .u16 0, .int .u8 0, .int .u8 0, .int .u32 0, .int .u32 0, .int .u32 0, .slice none 0 0, .int .u16 0, .int .u8 0, .int .u8 0, .int .u32 0, .slice none 0 0, .slice none 0 0, .slice none 0 0, .slice none 0 0] 33)).drew).heap.size) := by show _ < _; simp
   have Sa : Touch (fun _ => False) W W.drew := (Touch.refl _ _).drew
   have Sb : Touch (fun _ => False) W ((W.alloc (.cells #[.int .u8 0, .int .u32 0, .int .u32 0, .int .u32 0, .int .u16 0, .int .u8 0, .int .u8 0, .int .u32 0, .int .u32 0, .int .u32 0, .slice none 0 0, .int .u16 0, .int .u8 0, .int .u8 0, .int .u32 0, .slice none 0 0, .slice none 0 0, .slice none 0 0, .slice none 0 0] 33)).drew) := ((Touch.refl _ _).alloc _).drew
   have RB : Hid (Row ((W.alloc (.cells #[.int .u8 0, .int .u32 0, .int .u32 0, .int .u32 0, .int .u16 0, .int .u8 0, .int .u8 0, .int .u32 0, .int .u32 0, .int .u32 0, .slice none 0 0, .int .u16 0, .int .u8 0, .int .u8 0, .int .u32 0, .slice none 0 0, .slice none 0 0, .slice none 0 0, .slice none 0 0] 33)).drew) W.heap.size 33 [.int .u8 0, .int .u32 0, .int .u32 0, .int .u32 0, .int .u16 0, .int .u8 0, .int .u8 0, .int .u32 0, .int .u32 0, .int .u32 0, .slice none 0 0, .int .u16 0, .int .u8 0, .int .u8 0, .int .u32 0, .slice none 0 0, .slice none 0 0, .slice none 0 0, .slice none 0 0]) := (row_new W 33 #[.int .u8 0, .int .u32 0, .int .u32 0, .int .u32 0, .int .u16 0, .int .u8 0, .int .u8 0, .int .u32 0, .int .u32 0, .int .u32 0, .slice none 0 0, .int .u16 0, .int .u8 0, .int .u8 0, .int .u32 0, .slice none 0 0, .slice none 0 0, .slice none 0 0, .slice none 0 0]).keep ((Touch.refl _ _).drew)
   obtain ⟨EP, hEP⟩ : ∃ E, ppartE ty (pbehind rs) = E := ⟨_, rfl⟩
   obtain ⟨Q, hQ⟩ : ∃ Q, ppartC { PV.zero with typ := ty, router := ro, area := ar } (pbehind rs) = Q := ⟨_, rfl⟩
   have HQE : Hid (ppartE ({ PV.zero with typ := ty, router := ro, area := ar } : PV).typ (pbehind rs) = EP) := hEP
   have HQC : Hid (ppartC { PV.zero with typ := ty, router := ro, area := ar } (pbehind rs) = Q) := hQ
   clear hEP hQ
   go_cut [6, 9] (fun s6 s9 wx => ∃ g9, s9 = .pointer (some ⟨g9, 0, none⟩) ∧ Hid (DmP w0 W Q EP g9 s6 wx))
   case first =>
    refine wp_region_held_drew (S := fun w' => Touch (fun _ => False) W w') (by kernel_rfl) Sa (fun hHeld => ?_)
    refine wpAnyH_take (i := 0) (oi := ⟨some 64, _, _, _, _, _⟩) (v := .slice (some ⟨ga, oa, none⟩) rs.length vc) rfl (by kernel_rfl) (by kernel_rfl) (by kernel_rfl) (fun _ _ _ h => h) (Or.inl ⟨by rfl, fun w hw => by go_simp⟩) (by assumption) ?_
    simp only [Act.put, List.setIfInBounds_toArray, List.set_cons_zero, List.set_cons_succ]
    refine wpAnyH_take (i := 1) (oi := ⟨some 65, _, _, _, _, _⟩) (v := .pointer (some ⟨ga, oa + 1, none⟩)) rfl (by kernel_rfl) (by kernel_rfl) (by kernel_rfl) (fun _ _ _ h => h) (Or.inl ⟨by rfl, fun w hw => by go_simp <;> first | omega | (intro hh; omega)⟩) (by assumption) ?_
    simp only [Act.put, List.setIfInBounds_toArray, List.set_cons_zero, List.set_cons_succ]
    refine wpAnyH_take (i := 2) (oi := ⟨some 66, _, _, _, _, _⟩) (v := .int .u8 ty) rfl (by kernel_rfl) (by kernel_rfl) (by kernel_rfl) (fun _ _ _ h => h) (Or.inl ⟨by rfl, fun w hw => by have kk := Y1.out w hw; go_simp⟩) (by assumption) ?_
    simp only [Act.put, List.setIfInBounds_toArray, List.set_cons_zero, List.set_cons_succ]
    refine wpAnyH_take (i := 3) (oi := ⟨some 67, _, _, _, _, _⟩) (v := .slice (some ⟨ga, oa, none⟩) rs.length vc) rfl (by kernel_rfl) (by kernel_rfl) (by kernel_rfl) (fun _ _ _ h => h) (Or.inl ⟨by rfl, fun w hw => by go_simp⟩) (by assumption) ?_
    simp only [Act.put, List.setIfInBounds_toArray, List.set_cons_zero, List.set_cons_succ]
    refine wpAnyH_take (i := 4) (oi := ⟨some 68, _, _, _, _, _⟩) (v := u1) rfl (by kernel_rfl) (by kernel_rfl) (by kernel_rfl) (fun _ _ _ h => h) (Or.inl ⟨by rfl, fun w hw => by go_simp⟩) (by assumption) ?_
    simp only [Act.put, List.setIfInBounds_toArray, List.set_cons_zero, List.set_cons_succ]
    refine wpAnyH_take (i := 6) (oi := ⟨some 70, _, _, _, _, _⟩) (v := .slice (some ⟨ga, oa, none⟩) rs.length vc) rfl (by kernel_rfl) (by kernel_rfl) (by kernel_rfl) (fun _ _ _ h => h) (Or.inl ⟨by rfl, fun w hw => by go_simp⟩) (by assumption) ?_
    simp only [Act.put, List.setIfInBounds_toArray, List.set_cons_zero, List.set_cons_succ]
    refine wpAnyH_take (i := 7) (oi := ⟨some 71, _, _, _, _, _⟩) (v := u2) rfl (by kernel_rfl) (by kernel_rfl) (by kernel_rfl) (fun _ _ _ h => h) (Or.inl ⟨by rfl, fun w hw => by go_simp⟩) (by assumption) ?_
    simp only [Act.put, List.setIfInBounds_toArray, List.set_cons_zero, List.set_cons_succ]
    refine wpAnyH_take (i := 10) (oi := ⟨some 74, _, _, _, _, _⟩) (v := .slice (some ⟨ga, oa, none⟩) rs.length vc) rfl (by kernel_rfl) (by kernel_rfl) (by kernel_rfl) (fun _ _ _ h => h) (Or.inl ⟨by rfl, fun w hw => by go_simp⟩) (by assumption) ?_
    simp only [Act.put, List.setIfInBounds_toArray, List.set_cons_zero, List.set_cons_succ]
    refine wpAnyH_take (i := 11) (oi := ⟨some 75, _, _, _, _, _⟩) (v := .int .i64 (pn : Int)) rfl (by kernel_rfl) (by kernel_rfl) (by kernel_rfl) (fun _ _ _ h => h) (Or.inl ⟨by rfl, fun w hw => by go_simp⟩) (by assumption) ?_
    simp only [Act.put, List.setIfInBounds_toArray, List.set_cons_zero, List.set_cons_succ]
    refine wpAnyH_take (i := 12) (oi := ⟨some 76, _, _, _, _, _⟩) (v := u3) rfl (by kernel_rfl) (by kernel_rfl) (by kernel_rfl) (fun _ _ _ h => h) (Or.inl ⟨by rfl, fun w hw => by go_simp⟩) (by assumption) ?_
    simp only [Act.put, List.setIfInBounds_toArray, List.set_cons_zero, List.set_cons_succ]
    refine wpAnyH_ready (rs := [5, 17]) (by kernel_rfl) (by simp) ?_
    refine AllReadyH.cons (o := ⟨some 69, _, _, _, _, _⟩) rfl (fun K hK => ?_) (AllReadyH.cons (o := ⟨some 9, _, _, _, _, _⟩) rfl (fun K hK => ?_) AllReadyH.nil)
    rotate_left
    focus
     go_simp
     refine hK.out _ _ Sb (fun hHeld => ?_)
     clear hK K
     refine wpAnyH_ready (rs := [5]) (by kernel_rfl) (by simp) ?_
     refine AllReadyH.cons (o := ⟨some 69, _, _, _, _, _⟩) rfl (fun K hK => ?_) AllReadyH.nil
     go_simp
     refine Calls.mono (HN1.out _ (TT.out.trans Sb)) ?_
     rintro e wx ⟨rfl, rfl⟩
     refine hK.out _ _ Sb (fun hHeld => ?_)
     clear hK K
     refine wpAnyH_ready (rs := [8]) (by kernel_rfl) (by simp) ?_
     refine AllReadyH.cons (o := ⟨some 72, _, _, _, _, _⟩) rfl (fun K hK => ?_) AllReadyH.nil
     go_simp
     refine Calls.mono (HN2.out _ (TT.out.trans Sb)) ?_
     rintro e wx ⟨rfl, rfl⟩
     refine hK.out _ _ Sb (fun hHeld => ?_)
     clear hK K
     refine wpAnyH_take (i := 9) (oi := ⟨some 73, _, _, _, _, _⟩) (v := .agg #[.int .u8 ty, .int .u32 ro, .int .u32 ar, .int .u32 0, .int .u16 0, .int .u8 0, .int .u8 0, .int .u32 0, .int .u32 0, .int .u32 0, .slice none 0 0, .int .u16 0, .int .u8 0, .int .u8 0, .int .u32 0, .slice none 0 0, .slice none 0 0, .slice none 0 0, .slice none 0 0]) rfl (by kernel_rfl) (by kernel_rfl) (by kernel_rfl) (fun _ _ _ h => h) (Or.inl ⟨by rfl, fun w hw => by go_simp⟩) (by assumption) ?_
     simp only [Act.put, List.setIfInBounds_toArray, List.set_cons_zero, List.set_cons_succ]
    rotate_left
    focus
     go_simp
     refine Calls.mono (HN1.out _ (TT.out.trans Sa)) ?_
     rintro e wx ⟨rfl, rfl⟩
     refine hK.out _ _ Sa (fun hHeld => ?_)
     clear hK K
     refine wpAnyH_ready (rs := [8, 17]) (by kernel_rfl) (by simp) ?_
     refine AllReadyH.cons (o := ⟨some 72, _, _, _, _, _⟩) rfl (fun K hK => ?_) (AllReadyH.cons (o := ⟨some 9, _, _, _, _, _⟩) rfl (fun K hK => ?_) AllReadyH.nil)
     rotate_left
     focus
      go_simp
      refine hK.out _ _ Sb (fun hHeld => ?_)
      clear hK K
      refine wpAnyH_ready (rs := [8]) (by kernel_rfl) (by simp) ?_
      refine AllReadyH.cons (o := ⟨some 72, _, _, _, _, _⟩) rfl (fun K hK => ?_) AllReadyH.nil
      go_simp
      refine Calls.mono (HN2.out _ (TT.out.trans Sb)) ?_
      rintro e wx ⟨rfl, rfl⟩
      refine hK.out _ _ Sb (fun hHeld => ?_)
      clear hK K
      refine wpAnyH_take (i := 9) (oi := ⟨some 73, _, _, _, _, _⟩) (v := .agg #[.int .u8 ty, .int .u32 ro, .int .u32 ar, .int .u32 0, .int .u16 0, .int .u8 0, .int .u8 0, .int .u32 0, .int .u32 0, .int .u32 0, .slice none 0 0, .int .u16 0, .int .u8 0, .int .u8 0, .int .u32 0, .slice none 0 0, .slice none 0 0, .slice none 0 0, .slice none 0 0]) rfl (by kernel_rfl) (by kernel_rfl) (by kernel_rfl) (fun _ _ _ h => h) (Or.inl ⟨by rfl, fun w hw => by go_simp⟩) (by assumption) ?_
      simp only [Act.put, List.setIfInBounds_toArray, List.set_cons_zero, List.set_cons_succ]
     rotate_left
     focus
      go_simp
      refine Calls.mono (HN2.out _ (TT.out.trans Sa)) ?_
      rintro e wx ⟨rfl, rfl⟩
      refine hK.out _ _ Sa (fun hHeld => ?_)
      clear hK K
      refine wpAnyH_take (i := 9) (oi := ⟨some 73, _, _, _, _, _⟩) (v := .agg #[.int .u8 ty, .int .u32 ro, .int .u32 ar, .int .u32 0, .int .u16 0, .int .u8 0, .int .u8 0, .int .u32 0, .int .u32 0, .int .u32 0, .slice none 0 0, .int .u16 0, .int .u8 0, .int .u8 0, .int .u32 0, .slice none 0 0, .slice none 0 0, .slice none 0 0, .slice none 0 0]) rfl (by kernel_rfl) (by kernel_rfl) (by kernel_rfl) (fun _ _ _ h => h) (Or.inl ⟨by rfl, fun w hw => by go_simp⟩) (by assumption) ?_
      simp only [Act.put, List.setIfInBounds_toArray, List.set_cons_zero, List.set_cons_succ]
      refine wpAnyH_ready (rs := [13, 17]) (by kernel_rfl) (by simp) ?_
      refine AllReadyH.cons (o := ⟨some 77, _, _, _, _, _⟩) rfl (fun K hK => ?_) (AllReadyH.cons (o := ⟨some 9, _, _, _, _, _⟩) rfl (fun K hK => ?_) AllReadyH.nil)
      ·go_simp
       refine Calls.mono (HPA.out _ (TT.out.trans Sa)) ?_
       intro e wq hq
       have tq := hq.t
       have hqo := hq.out
       have Sq : Touch (fun _ => False) W wq := Sa.trans tq
       clear hq
       rw [HQE.out, HQC.out] at hqo
       rcases hqo with ⟨hE0, vn, vd, vk, vs, vh, rfl, hat⟩ | ⟨hE0, rfl⟩
       ·obtain ⟨na, nc, da, dc, ka, kc, sa, sc, ha, hc, rfl, rfl, rfl, rfl, rfl⟩ := (hat wq (Touch.refl _ _)).forms
        unfold PV.v
        refine hK.out _ _ Sq (fun hHeld => ?_)
        clear hK K
        refine wpAnyH_take (i := 14) (oi := ⟨some 63, _, _, _, _, _⟩) (v := .tuple #[.agg #[.int .u8 Q.P.typ, .int .u32 Q.P.router, .int .u32 Q.P.area, .int .u32 Q.P.mask, .int .u16 Q.P.iv, .int .u8 Q.P.opts, .int .u8 Q.P.prio, .int .u32 Q.P.dead, .int .u32 Q.P.dr, .int .u32 Q.P.bdr, .slice na Q.nb.length nc, .int .u16 Q.P.mtu, .int .u8 Q.P.dopts, .int .u8 Q.P.dflags, .int .u32 Q.P.dseq, .slice da Q.dh.length dc, .slice ka Q.ks.length kc, .slice sa Q.ss.length sc, .slice ha Q.hs.length hc], .int .i64 0]) rfl (by kernel_rfl) (by kernel_rfl) (by kernel_rfl) (fun _ _ _ h => h) (Or.inl ⟨by rfl, fun w hw => by go_simp⟩) (by assumption) ?_
        simp only [Act.put, List.setIfInBounds_toArray, List.set_cons_zero, List.set_cons_succ]
        refine wpAnyH_take (i := 15) (oi := ⟨some 78, _, _, _, _, _⟩) (v := .agg #[.int .u8 Q.P.typ, .int .u32 Q.P.router, .int .u32 Q.P.area, .int .u32 Q.P.mask, .int .u16 Q.P.iv, .int .u8 Q.P.opts, .int .u8 Q.P.prio, .int .u32 Q.P.dead, .int .u32 Q.P.dr, .int .u32 Q.P.bdr, .slice na Q.nb.length nc, .int .u16 Q.P.mtu, .int .u8 Q.P.dopts, .int .u8 Q.P.dflags, .int .u32 Q.P.dseq, .slice da Q.dh.length dc, .slice ka Q.ks.length kc, .slice sa Q.ss.length sc, .slice ha Q.hs.length hc]) rfl (by kernel_rfl) (by kernel_rfl) (by kernel_rfl) (fun _ _ _ h => h) (Or.inl ⟨by rfl, fun w hw => by go_simp⟩) (by assumption) ?_
        simp only [Act.put, List.setIfInBounds_toArray, List.set_cons_zero, List.set_cons_succ]
        refine wpAnyH_take (i := 16) (oi := ⟨some 79, _, _, _, _, _⟩) (v := .int .i64 0) rfl (by kernel_rfl) (by kernel_rfl) (by kernel_rfl) (fun _ _ _ h => h) (Or.inl ⟨by rfl, fun w hw => by go_simp⟩) (by assumption) ?_
        simp only [Act.put, List.setIfInBounds_toArray, List.set_cons_zero, List.set_cons_succ]
        refine wpAnyH_ready (rs := [17]) (by kernel_rfl) (by simp) ?_
        refine AllReadyH.cons (o := ⟨some 9, _, _, _, _, _⟩) rfl (fun K hK => ?_) AllReadyH.nil
        go_simp
        refine hK.out _ _ (Sq.alloc _) (fun hHeld => ?_)
        clear hK K
        have R9 : Row (wq.alloc (.cells #[.int .u8 0, .int .u32 0, .int .u32 0, .int .u32 0, .int .u16 0, .int .u8 0, .int .u8 0, .int .u32 0, .int .u32 0, .int .u32 0, .slice none 0 0, .int .u16 0, .int .u8 0, .int .u8 0, .int .u32 0, .slice none 0 0, .slice none 0 0, .slice none 0 0, .slice none 0 0] 33)) wq.heap.size 33 [.int .u8 0, .int .u32 0, .int .u32 0, .int .u32 0, .int .u16 0, .int .u8 0, .int .u8 0, .int .u32 0, .int .u32 0, .int .u32 0, .slice none 0 0, .int .u16 0, .int .u8 0, .int .u8 0, .int .u32 0, .slice none 0 0, .slice none 0 0, .slice none 0 0, .slice none 0 0] := row_new wq 33 #[.int .u8 0, .int .u32 0, .int .u32 0, .int .u32 0, .int .u16 0, .int .u8 0, .int .u8 0, .int .u32 0, .int .u32 0, .int .u32 0, .slice none 0 0, .int .u16 0, .int .u8 0, .int .u8 0, .int .u32 0, .slice none 0 0, .slice none 0 0, .slice none 0 0, .slice none 0 0]
        have S9 : Touch (fun _ => False) W (wq.alloc (.cells #[.int .u8 0, .int .u32 0, .int .u32 0, .int .u32 0, .int .u16 0, .int .u8 0, .int .u8 0, .int .u32 0, .int .u32 0, .int .u32 0, .slice none 0 0, .int .u16 0, .int .u8 0, .int .u8 0, .int .u32 0, .slice none 0 0, .slice none 0 0, .slice none 0 0, .slice none 0 0] 33)) := Sq.alloc _
        have Z9s : W.heap.size ≤ wq.heap.size := Sq.size
        have TQ9 : Touch (fun _ => False) wq (wq.alloc (.cells #[.int .u8 0, .int .u32 0, .int .u32 0, .int .u32 0, .int .u16 0, .int .u8 0, .int .u8 0, .int .u32 0, .int .u32 0, .int .u32 0, .slice none 0 0, .int .u16 0, .int .u8 0, .int .u8 0, .int .u32 0, .slice none 0 0, .slice none 0 0, .slice none 0 0, .slice none 0 0] 33)) := (Touch.refl _ _).alloc _
        have ZQ : Hid (wq.heap.size ≤ wq.heap.size) := Nat.le_refl _
        generalize wq.alloc (.cells #[.int .u8 0, .int .u32 0, .int .u32 0, .int .u32 0, .int .u16 0, .int .u8 0, .int .u8 0, .int .u32 0, .int .u32 0, .int .u32 0, .slice none 0 0, .int .u16 0, .int .u8 0, .int .u8 0, .int .u32 0, .slice none 0 0, .slice none 0 0, .slice none 0 0, .slice none 0 0] 33) = w9 at *
        refine wpAnyH_ready (rs := [18]) (by kernel_rfl) (by simp) ?_
        refine AllReadyH.cons rfl (fun K hK => ?_) AllReadyH.nil
        refine step_row (by rfl) 33 (.tmp 9) (.tmp 78) (by rfl) wq.heap.size [.int .u8 Q.P.typ, .int .u32 Q.P.router, .int .u32 Q.P.area, .int .u32 Q.P.mask, .int .u16 Q.P.iv, .int .u8 Q.P.opts, .int .u8 Q.P.prio, .int .u32 Q.P.dead, .int .u32 Q.P.dr, .int .u32 Q.P.bdr, .slice na Q.nb.length nc, .int .u16 Q.P.mtu, .int .u8 Q.P.dopts, .int .u8 Q.P.dflags, .int .u32 Q.P.dseq, .slice da Q.dh.length dc, .slice ka Q.ks.length kc, .slice sa Q.ss.length sc, .slice ha Q.hs.length hc] (by rfl) (by rfl) 33 _ R9 (by kernel_rfl) rfl (by simp [Value.oneCell']) ?_
        have S10 : Touch (fun _ => False) W (w9.setRow wq.heap.size #[.int .u8 Q.P.typ, .int .u32 Q.P.router, .int .u32 Q.P.area, .int .u32 Q.P.mask, .int .u16 Q.P.iv, .int .u8 Q.P.opts, .int .u8 Q.P.prio, .int .u32 Q.P.dead, .int .u32 Q.P.dr, .int .u32 Q.P.bdr, .slice na Q.nb.length nc, .int .u16 Q.P.mtu, .int .u8 Q.P.dopts, .int .u8 Q.P.dflags, .int .u32 Q.P.dseq, .slice da Q.dh.length dc, .slice ka Q.ks.length kc, .slice sa Q.ss.length sc, .slice ha Q.hs.length hc]) := S9.setRow (Or.inr (by omega)) _
        refine hK.out _ _ S10 (fun hHeld => ?_)
        clear hK K
        refine wpAnyH_take (i := 19) (oi := ⟨some 6, _, _, _, _, _⟩) (v := .int .i64 0) rfl (by kernel_rfl) (by kernel_rfl) (by kernel_rfl) (fun _ _ _ h => h) (Or.inl ⟨by rfl, fun w hw => by go_simp⟩) (by assumption) ?_
        simp only [Act.put, List.setIfInBounds_toArray]
        refine wpAnyH_done (by kernel_rfl) ?_ _
        go_wp2_with fail
        go_meet
        case rel => exact ⟨_, rfl, ⟨TT.out.trans S10, S10, (by have := TT.out.size; omega), Or.inl ⟨hE0, rfl, na, nc, da, dc, ka, kc, sa, sc, ha, hc, (R9.setRow _), (fun w2 t2 => hat _ (((TQ9.setRow (Or.inr (by omega)) _).mono (fun _ _ f => f.elim)).trans (t2.mono (fun i _ e => by have h2 := TT.out.size; show i < W.heap.size; omega))))⟩⟩⟩
       ·refine hK.out _ _ Sq (fun hHeld => ?_)
        clear hK K
        refine wpAnyH_take (i := 14) (oi := ⟨some 63, _, _, _, _, _⟩) (v := .tuple #[.agg #[.int .u8 0, .int .u32 0, .int .u32 0, .int .u32 0, .int .u16 0, .int .u8 0, .int .u8 0, .int .u32 0, .int .u32 0, .int .u32 0, .slice none 0 0, .int .u16 0, .int .u8 0, .int .u8 0, .int .u32 0, .slice none 0 0, .slice none 0 0, .slice none 0 0, .slice none 0 0], .int .i64 EP]) rfl (by kernel_rfl) (by kernel_rfl) (by kernel_rfl) (fun _ _ _ h => h) (Or.inl ⟨by rfl, fun w hw => by go_simp⟩) (by assumption) ?_
        simp only [Act.put, List.setIfInBounds_toArray, List.set_cons_zero, List.set_cons_succ]
        refine wpAnyH_take (i := 15) (oi := ⟨some 78, _, _, _, _, _⟩) (v := .agg #[.int .u8 0, .int .u32 0, .int .u32 0, .int .u32 0, .int .u16 0, .int .u8 0, .int .u8 0, .int .u32 0, .int .u32 0, .int .u32 0, .slice none 0 0, .int .u16 0, .int .u8 0, .int .u8 0, .int .u32 0, .slice none 0 0, .slice none 0 0, .slice none 0 0, .slice none 0 0]) rfl (by kernel_rfl) (by kernel_rfl) (by kernel_rfl) (fun _ _ _ h => h) (Or.inl ⟨by rfl, fun w hw => by go_simp⟩) (by assumption) ?_
        simp only [Act.put, List.setIfInBounds_toArray, List.set_cons_zero, List.set_cons_succ]
        refine wpAnyH_take (i := 16) (oi := ⟨some 79, _, _, _, _, _⟩) (v := .int .i64 EP) rfl (by kernel_rfl) (by kernel_rfl) (by kernel_rfl) (fun _ _ _ h => h) (Or.inl ⟨by rfl, fun w hw => by go_simp⟩) (by assumption) ?_
        simp only [Act.put, List.setIfInBounds_toArray, List.set_cons_zero, List.set_cons_succ]
        refine wpAnyH_ready (rs := [17]) (by kernel_rfl) (by simp) ?_
        refine AllReadyH.cons (o := ⟨some 9, _, _, _, _, _⟩) rfl (fun K hK => ?_) AllReadyH.nil
        go_simp
        refine hK.out _ _ (Sq.alloc _) (fun hHeld => ?_)
        clear hK K
        have R9 : Row (wq.alloc (.cells #[.int .u8 0, .int .u32 0, .int .u32 0, .int .u32 0, .int .u16 0, .int .u8 0, .int .u8 0, .int .u32 0, .int .u32 0, .int .u32 0, .slice none 0 0, .int .u16 0, .int .u8 0, .int .u8 0, .int .u32 0, .slice none 0 0, .slice none 0 0, .slice none 0 0, .slice none 0 0] 33)) wq.heap.size 33 [.int .u8 0, .int .u32 0, .int .u32 0, .int .u32 0, .int .u16 0, .int .u8 0, .int .u8 0, .int .u32 0, .int .u32 0, .int .u32 0, .slice none 0 0, .int .u16 0, .int .u8 0, .int .u8 0, .int .u32 0, .slice none 0 0, .slice none 0 0, .slice none 0 0, .slice none 0 0] := row_new wq 33 #[.int .u8 0, .int .u32 0, .int .u32 0, .int .u32 0, .int .u16 0, .int .u8 0, .int .u8 0, .int .u32 0, .int .u32 0, .int .u32 0, .slice none 0 0, .int .u16 0, .int .u8 0, .int .u8 0, .int .u32 0, .slice none 0 0, .slice none 0 0, .slice none 0 0, .slice none 0 0]
        have S9 : Touch (fun _ => False) W (wq.alloc (.cells #[.int .u8 0, .int .u32 0, .int .u32 0, .int .u32 0, .int .u16 0, .int .u8 0, .int .u8 0, .int .u32 0, .int .u32 0, .int .u32 0, .slice none 0 0, .int .u16 0, .int .u8 0, .int .u8 0, .int .u32 0, .slice none 0 0, .slice none 0 0, .slice none 0 0, .slice none 0 0] 33)) := Sq.alloc _
        have Z9s : W.heap.size ≤ wq.heap.size := Sq.size
        have TQ9 : Touch (fun _ => False) wq (wq.alloc (.cells #[.int .u8 0, .int .u32 0, .int .u32 0, .int .u32 0, .int .u16 0, .int .u8 0, .int .u8 0, .int .u32 0, .int .u32 0, .int .u32 0, .slice none 0 0, .int .u16 0, .int .u8 0, .int .u8 0, .int .u32 0, .slice none 0 0, .slice none 0 0, .slice none 0 0, .slice none 0 0] 33)) := (Touch.refl _ _).alloc _
        have ZQ : Hid (wq.heap.size ≤ wq.heap.size) := Nat.le_refl _
        generalize wq.alloc (.cells #[.int .u8 0, .int .u32 0, .int .u32 0, .int .u32 0, .int .u16 0, .int .u8 0, .int .u8 0, .int .u32 0, .int .u32 0, .int .u32 0, .slice none 0 0, .int .u16 0, .int .u8 0, .int .u8 0, .int .u32 0, .slice none 0 0, .slice none 0 0, .slice none 0 0, .slice none 0 0] 33) = w9 at *
        refine wpAnyH_ready (rs := [18]) (by kernel_rfl) (by simp) ?_
        refine AllReadyH.cons rfl (fun K hK => ?_) AllReadyH.nil
        refine step_row (by rfl) 33 (.tmp 9) (.tmp 78) (by rfl) wq.heap.size [.int .u8 0, .int .u32 0, .int .u32 0, .int .u32 0, .int .u16 0, .int .u8 0, .int .u8 0, .int .u32 0, .int .u32 0, .int .u32 0, .slice none 0 0, .int .u16 0, .int .u8 0, .int .u8 0, .int .u32 0, .slice none 0 0, .slice none 0 0, .slice none 0 0, .slice none 0 0] (by rfl) (by rfl) 33 _ R9 (by kernel_rfl) rfl (by simp [Value.oneCell']) ?_
        have S10 : Touch (fun _ => False) W (w9.setRow wq.heap.size #[.int .u8 0, .int .u32 0, .int .u32 0, .int .u32 0, .int .u16 0, .int .u8 0, .int .u8 0, .int .u32 0, .int .u32 0, .int .u32 0, .slice none 0 0, .int .u16 0, .int .u8 0, .int .u8 0, .int .u32 0, .slice none 0 0, .slice none 0 0, .slice none 0 0, .slice none 0 0]) := S9.setRow (Or.inr (by omega)) _
        refine hK.out _ _ S10 (fun hHeld => ?_)
        clear hK K
        refine wpAnyH_take (i := 19) (oi := ⟨some 6, _, _, _, _, _⟩) (v := .int .i64 EP) rfl (by kernel_rfl) (by kernel_rfl) (by kernel_rfl) (fun _ _ _ h => h) (Or.inl ⟨by rfl, fun w hw => by go_simp⟩) (by assumption) ?_
        simp only [Act.put, List.setIfInBounds_toArray]
        refine wpAnyH_done (by kernel_rfl) ?_ _
        go_wp2_with fail
        go_meet
        case rel => exact ⟨_, rfl, ⟨TT.out.trans S10, S10, (by have := TT.out.size; omega), Or.inr ⟨hE0, rfl, (R9.setRow _)⟩⟩⟩
      go_simp
      refine hK.out _ _ Sb (fun hHeld => ?_)
      clear hK K
    all_goals
     refine wpAnyH_ready (rs := [13]) (by kernel_rfl) (by simp) ?_
     refine AllReadyH.cons (o := ⟨some 77, _, _, _, _, _⟩) rfl (fun K hK => ?_) AllReadyH.nil
     go_simp
     refine Calls.mono (HPA.out _ (TT.out.trans Sb)) ?_
     intro e wq hq
     have tq := hq.t
     have hqo := hq.out
     have Sq : Touch (fun _ => False) W wq := Sb.trans tq
     clear hq
     rw [HQE.out, HQC.out] at hqo
     rcases hqo with ⟨hE0, vn, vd, vk, vs, vh, rfl, hat⟩ | ⟨hE0, rfl⟩
     ·obtain ⟨na, nc, da, dc, ka, kc, sa, sc, ha, hc, rfl, rfl, rfl, rfl, rfl⟩ := (hat wq (Touch.refl _ _)).forms
      unfold PV.v
      refine hK.out _ _ Sq (fun hHeld => ?_)
      clear hK K
      refine wpAnyH_take (i := 14) (oi := ⟨some 63, _, _, _, _, _⟩) (v := .tuple #[.agg #[.int .u8 Q.P.typ, .int .u32 Q.P.router, .int .u32 Q.P.area, .int .u32 Q.P.mask, .int .u16 Q.P.iv, .int .u8 Q.P.opts, .int .u8 Q.P.prio, .int .u32 Q.P.dead, .int .u32 Q.P.dr, .int .u32 Q.P.bdr, .slice na Q.nb.length nc, .int .u16 Q.P.mtu, .int .u8 Q.P.dopts, .int .u8 Q.P.dflags, .int .u32 Q.P.dseq, .slice da Q.dh.length dc, .slice ka Q.ks.length kc, .slice sa Q.ss.length sc, .slice ha Q.hs.length hc], .int .i64 0]) rfl (by kernel_rfl) (by kernel_rfl) (by kernel_rfl) (fun _ _ _ h => h) (Or.inl ⟨by rfl, fun w hw => by go_simp⟩) (by assumption) ?_
      simp only [Act.put, List.setIfInBounds_toArray, List.set_cons_zero, List.set_cons_succ]
      refine wpAnyH_take (i := 15) (oi := ⟨some 78, _, _, _, _, _⟩) (v := .agg #[.int .u8 Q.P.typ, .int .u32 Q.P.router, .int .u32 Q.P.area, .int .u32 Q.P.mask, .int .u16 Q.P.iv, .int .u8 Q.P.opts, .int .u8 Q.P.prio, .int .u32 Q.P.dead, .int .u32 Q.P.dr, .int .u32 Q.P.bdr, .slice na Q.nb.length nc, .int .u16 Q.P.mtu, .int .u8 Q.P.dopts, .int .u8 Q.P.dflags, .int .u32 Q.P.dseq, .slice da Q.dh.length dc, .slice ka Q.ks.length kc, .slice sa Q.ss.length sc, .slice ha Q.hs.length hc]) rfl (by kernel_rfl) (by kernel_rfl) (by kernel_rfl) (fun _ _ _ h => h) (Or.inl ⟨by rfl, fun w hw => by go_simp⟩) (by assumption) ?_
      simp only [Act.put, List.setIfInBounds_toArray, List.set_cons_zero, List.set_cons_succ]
      refine wpAnyH_take (i := 16) (oi := ⟨some 79, _, _, _, _, _⟩) (v := .int .i64 0) rfl (by kernel_rfl) (by kernel_rfl) (by kernel_rfl) (fun _ _ _ h => h) (Or.inl ⟨by rfl, fun w hw => by go_simp⟩) (by assumption) ?_
      simp only [Act.put, List.setIfInBounds_toArray, List.set_cons_zero, List.set_cons_succ]
      have R9 : Row wq W.heap.size 33 [.int .u8 0, .int .u32 0, .int .u32 0, .int .u32 0, .int .u16 0, .int .u8 0, .int .u8 0, .int .u32 0, .int .u32 0, .int .u32 0, .slice none 0 0, .int .u16 0, .int .u8 0, .int .u8 0, .int .u32 0, .slice none 0 0, .slice none 0 0, .slice none 0 0, .slice none 0 0] := RB.out.keep tq
      have S9 : Touch (fun _ => False) W wq := Sq
      have Z9s : W.heap.size ≤ W.heap.size := Nat.le_refl _
      refine wpAnyH_ready (rs := [18]) (by kernel_rfl) (by simp) ?_
      refine AllReadyH.cons rfl (fun K hK => ?_) AllReadyH.nil
      refine step_row (by rfl) 33 (.tmp 9) (.tmp 78) (by rfl) W.heap.size [.int .u8 Q.P.typ, .int .u32 Q.P.router, .int .u32 Q.P.area, .int .u32 Q.P.mask, .int .u16 Q.P.iv, .int .u8 Q.P.opts, .int .u8 Q.P.prio, .int .u32 Q.P.dead, .int .u32 Q.P.dr, .int .u32 Q.P.bdr, .slice na Q.nb.length nc, .int .u16 Q.P.mtu, .int .u8 Q.P.dopts, .int .u8 Q.P.dflags, .int .u32 Q.P.dseq, .slice da Q.dh.length dc, .slice ka Q.ks.length kc, .slice sa Q.ss.length sc, .slice ha Q.hs.length hc] (by rfl) (by rfl) 33 _ R9 (by kernel_rfl) rfl (by simp [Value.oneCell']) ?_
      have S10 : Touch (fun _ => False) W (wq.setRow W.heap.size #[.int .u8 Q.P.typ, .int .u32 Q.P.router, .int .u32 Q.P.area, .int .u32 Q.P.mask, .int .u16 Q.P.iv, .int .u8 Q.P.opts, .int .u8 Q.P.prio, .int .u32 Q.P.dead, .int .u32 Q.P.dr, .int .u32 Q.P.bdr, .slice na Q.nb.length nc, .int .u16 Q.P.mtu, .int .u8 Q.P.dopts, .int .u8 Q.P.dflags, .int .u32 Q.P.dseq, .slice da Q.dh.length dc, .slice ka Q.ks.length kc, .slice sa Q.ss.length sc, .slice ha Q.hs.length hc]) := S9.setRow (Or.inr (by omega)) _
      refine hK.out _ _ S10 (fun hHeld => ?_)
      clear hK K
      refine wpAnyH_take (i := 19) (oi := ⟨some 6, _, _, _, _, _⟩) (v := .int .i64 0) rfl (by kernel_rfl) (by kernel_rfl) (by kernel_rfl) (fun _ _ _ h => h) (Or.inl ⟨by rfl, fun w hw => by go_simp⟩) (by assumption) ?_
      simp only [Act.put, List.setIfInBounds_toArray]
      refine wpAnyH_done (by kernel_rfl) ?_ _
      go_wp2_with fail
      go_meet
      case rel => exact ⟨_, rfl, ⟨TT.out.trans S10, S10, (by have := TT.out.size; omega), Or.inl ⟨hE0, rfl, na, nc, da, dc, ka, kc, sa, sc, ha, hc, (R9.setRow _), (fun w2 t2 => hat _ ((Touch.setRow (F := fun k => k < ((W.alloc (.cells #[.int .u8 0, .int .u32 0, .int .u32 0, .int .u32 0, .int .u16 0, .int .u8 0, .int .u8 0, .int .u32 0, .int .u32 0, .int .u32 0, .slice none 0 0, .int .u16 0, .int .u8 0, .int .u8 0, .int .u32 0, .slice none 0 0, .slice none 0 0, .slice none 0 0, .slice none 0 0] 33)).drew).heap.size) (Touch.refl _ _) (Or.inl HVV.out) _).trans (t2.mono (fun i _ e => by have h1 := HVV.out; have h2 := TT.out.size; omega))))⟩⟩⟩
     ·refine hK.out _ _ Sq (fun hHeld => ?_)
      clear hK K
      refine wpAnyH_take (i := 14) (oi := ⟨some 63, _, _, _, _, _⟩) (v := .tuple #[.agg #[.int .u8 0, .int .u32 0, .int .u32 0, .int .u32 0, .int .u16 0, .int .u8 0, .int .u8 0, .int .u32 0, .int .u32 0, .int .u32 0, .slice none 0 0, .int .u16 0, .int .u8 0, .int .u8 0, .int .u32 0, .slice none 0 0, .slice none 0 0, .slice none 0 0, .slice none 0 0], .int .i64 EP]) rfl (by kernel_rfl) (by kernel_rfl) (by kernel_rfl) (fun _ _ _ h => h) (Or.inl ⟨by rfl, fun w hw => by go_simp⟩) (by assumption) ?_
      simp only [Act.put, List.setIfInBounds_toArray, List.set_cons_zero, List.set_cons_succ]
      refine wpAnyH_take (i := 15) (oi := ⟨some 78, _, _, _, _, _⟩) (v := .agg #[.int .u8 0, .int .u32 0, .int .u32 0, .int .u32 0, .int .u16 0, .int .u8 0, .int .u8 0, .int .u32 0, .int .u32 0, .int .u32 0, .slice none 0 0, .int .u16 0, .int .u8 0, .int .u8 0, .int .u32 0, .slice none 0 0, .slice none 0 0, .slice none 0 0, .slice none 0 0]) rfl (by kernel_rfl) (by kernel_rfl) (by kernel_rfl) (fun _ _ _ h => h) (Or.inl ⟨by rfl, fun w hw => by go_simp⟩) (by assumption) ?_
      simp only [Act.put, List.setIfInBounds_toArray, List.set_cons_zero, List.set_cons_succ]
      refine wpAnyH_take (i := 16) (oi := ⟨some 79, _, _, _, _, _⟩) (v := .int .i64 EP) rfl (by kernel_rfl) (by kernel_rfl) (by kernel_rfl) (fun _ _ _ h => h) (Or.inl ⟨by rfl, fun w hw => by go_simp⟩) (by assumption) ?_
      simp only [Act.put, List.setIfInBounds_toArray, List.set_cons_zero, List.set_cons_succ]
      have R9 : Row wq W.heap.size 33 [.int .u8 0, .int .u32 0, .int .u32 0, .int .u32 0, .int .u16 0, .int .u8 0, .int .u8 0, .int .u32 0, .int .u32 0, .int .u32 0, .slice none 0 0, .int .u16 0, .int .u8 0, .int .u8 0, .int .u32 0, .slice none 0 0, .slice none 0 0, .slice none 0 0, .slice none 0 0] := RB.out.keep tq
      have S9 : Touch (fun _ => False) W wq := Sq
      have Z9s : W.heap.size ≤ W.heap.size := Nat.le_refl _
      refine wpAnyH_ready (rs := [18]) (by kernel_rfl) (by simp) ?_
      refine AllReadyH.cons rfl (fun K hK => ?_) AllReadyH.nil
      refine step_row (by rfl) 33 (.tmp 9) (.tmp 78) (by rfl) W.heap.size [.int .u8 0, .int .u32 0, .int .u32 0, .int .u32 0, .int .u16 0, .int .u8 0, .int .u8 0, .int .u32 0, .int .u32 0, .int .u32 0, .slice none 0 0, .int .u16 0, .int .u8 0, .int .u8 0, .int .u32 0, .slice none 0 0, .slice none 0 0, .slice none 0 0, .slice none 0 0] (by rfl) (by rfl) 33 _ R9 (by kernel_rfl) rfl (by simp [Value.oneCell']) ?_
      have S10 : Touch (fun _ => False) W (wq.setRow W.heap.size #[.int .u8 0, .int .u32 0, .int .u32 0, .int .u32 0, .int .u16 0, .int .u8 0, .int .u8 0, .int .u32 0, .int .u32 0, .int .u32 0, .slice none 0 0, .int .u16 0, .int .u8 0, .int .u8 0, .int .u32 0, .slice none 0 0, .slice none 0 0, .slice none 0 0, .slice none 0 0]) := S9.setRow (Or.inr (by omega)) _
      refine hK.out _ _ S10 (fun hHeld => ?_)
      clear hK K
      refine wpAnyH_take (i := 19) (oi := ⟨some 6, _, _, _, _, _⟩) (v := .int .i64 EP) rfl (by kernel_rfl) (by kernel_rfl) (by kernel_rfl) (fun _ _ _ h => h) (Or.inl ⟨by rfl, fun w hw => by go_simp⟩) (by assumption) ?_
      simp only [Act.put, List.setIfInBounds_toArray]
      refine wpAnyH_done (by kernel_rfl) ?_ _
      go_wp2_with fail
      go_meet
      case rel => exact ⟨_, rfl, ⟨TT.out.trans S10, S10, (by have := TT.out.size; omega), Or.inr ⟨hE0, rfl, (R9.setRow _)⟩⟩⟩
   case rest =>
    obtain ⟨g9, rfl, DM⟩ := hcut
    have TX := DM.out.t
    rcases DM.out.out with ⟨hE0, rfl, na, nc, da, dc, ka, kc, sa, sc, ha, hc, r9, hat⟩ | ⟨hE0, rfl, r9⟩
    ·have e0 : pdecE rs = 0 := (HE.out.trans HQE.out).trans hE0
     have eC : pdecC rs = Q := by unfold pdecC; rw [if_pos e0, HPV.out]; exact HQC.out
     have eA : pdecA rs = ⟨kd, d0, d1, d2, d3, d4, d5, d6, d7⟩ := by unfold pdecA; rw [if_pos e0]; exact HAU.out
     have HFIN : Hid (∀ w', Touch (fun _ => False) w w' → PkAt w' Q (.slice na Q.nb.length nc) (.slice da Q.dh.length dc) (.slice ka Q.ks.length kc) (.slice sa Q.ss.length sc) (.slice ha Q.hs.length hc) → DdP w rs (.returned (.tuple #[.agg #[.int .u8 Q.P.typ, .int .u32 Q.P.router, .int .u32 Q.P.area, .int .u32 Q.P.mask, .int .u16 Q.P.iv, .int .u8 Q.P.opts, .int .u8 Q.P.prio, .int .u32 Q.P.dead, .int .u32 Q.P.dr, .int .u32 Q.P.bdr, .slice na Q.nb.length nc, .int .u16 Q.P.mtu, .int .u8 Q.P.dopts, .int .u8 Q.P.dflags, .int .u32 Q.P.dseq, .slice da Q.dh.length dc, .slice ka Q.ks.length kc, .slice sa Q.ss.length sc, .slice ha Q.hs.length hc], .agg #[.int .u16 kd, .int .u8 d0, .int .u8 d1, .int .u8 d2, .int .u8 d3, .int .u8 d4, .int .u8 d5, .int .u8 d6, .int .u8 d7], .int .i64 0])) w') := fun w' t h => ⟨t, _, _, _, _, _, by rw [e0, eC, eA]; rfl, by rw [eC]; exact h⟩
     have HAT : Hid (∀ w', Touch (fun k => k < w0.heap.size) wc w' → PkAt w' Q (.slice na Q.nb.length nc) (.slice da Q.dh.length dc) (.slice ka Q.ks.length kc) (.slice sa Q.ss.length sc) (.slice ha Q.hs.length hc)) := hat
     have HB9 : Hid (g2 + 2 ≤ g9) := by have h1 := DM.out.big; have h2 := HZ0.out; have h3 := HZ.out; show _ ≤ _; omega
     have TXX : Hid (Touch (fun _ => False) w wc) := TA.out.trans TX
     have D9 : Row wc.drew g9 33 [.int .u8 Q.P.typ, .int .u32 Q.P.router, .int .u32 Q.P.area, .int .u32 Q.P.mask, .int .u16 Q.P.iv, .int .u8 Q.P.opts, .int .u8 Q.P.prio, .int .u32 Q.P.dead, .int .u32 Q.P.dr, .int .u32 Q.P.bdr, .slice na Q.nb.length nc, .int .u16 Q.P.mtu, .int .u8 Q.P.dopts, .int .u8 Q.P.dflags, .int .u32 Q.P.dseq, .slice da Q.dh.length dc, .slice ka Q.ks.length kc, .slice sa Q.ss.length sc, .slice ha Q.hs.length hc] := r9.keep ((Touch.refl _ _).drew)
     have D7 : Row wc.drew g7 36 [.int .u16 kd, .int .u8 d0, .int .u8 d1, .int .u8 d2, .int .u8 d3, .int .u8 d4, .int .u8 d5, .int .u8 d6, .int .u8 d7] := (RA7.out _ DM.out.tw).keep ((Touch.refl _ _).drew)
     have D2 : Row wc.drew g2 33 [.int .u8 0, .int .u32 0, .int .u32 0, .int .u32 0, .int .u16 0, .int .u8 0, .int .u8 0, .int .u32 0, .int .u32 0, .int .u32 0, .slice none 0 0, .int .u16 0, .int .u8 0, .int .u8 0, .int .u32 0, .slice none 0 0, .slice none 0 0, .slice none 0 0, .slice none 0 0] := (BK2.out _ TX).keep ((Touch.refl _ _).drew)
     have D3 : Row wc.drew g3 36 [.int .u16 0, .int .u8 0, .int .u8 0, .int .u8 0, .int .u8 0, .int .u8 0, .int .u8 0, .int .u8 0, .int .u8 0] := (BK3.out _ TX).keep ((Touch.refl _ _).drew)
     have n92 : ¬ g9 = g2 := by have := HB9.out; omega
     have n93 : ¬ g9 = g3 := by have := HB9.out; have := HZ.out; omega
     have n72 : ¬ g7 = g2 := by have := HG7.out; omega
     have n73 : ¬ g7 = g3 := by have := HG7.out; have := HZ.out; omega
     clear e0 eC eA hat TX r9 DM hE0
     go_upto_region 18 with fail
     refine wp_region_held_drew (S := fun w' => Row w' g9 33 [.int .u8 Q.P.typ, .int .u32 Q.P.router, .int .u32 Q.P.area, .int .u32 Q.P.mask, .int .u16 Q.P.iv, .int .u8 Q.P.opts, .int .u8 Q.P.prio, .int .u32 Q.P.dead, .int .u32 Q.P.dr, .int .u32 Q.P.bdr, .slice na Q.nb.length nc, .int .u16 Q.P.mtu, .int .u8 Q.P.dopts, .int .u8 Q.P.dflags, .int .u32 Q.P.dseq, .slice da Q.dh.length dc, .slice ka Q.ks.length kc, .slice sa Q.ss.length sc, .slice ha Q.hs.length hc] ∧ Row w' g7 36 [.int .u16 kd, .int .u8 d0, .int .u8 d1, .int .u8 d2, .int .u8 d3, .int .u8 d4, .int .u8 d5, .int .u8 d6, .int .u8 d7]) (by kernel_rfl) ⟨D9, D7⟩ (fun hHeld => ?_)
     refine wpAnyH_take (i := 0) (oi := ⟨some 85, _, _, _, _, _⟩) (v := .agg #[.int .u8 Q.P.typ, .int .u32 Q.P.router, .int .u32 Q.P.area, .int .u32 Q.P.mask, .int .u16 Q.P.iv, .int .u8 Q.P.opts, .int .u8 Q.P.prio, .int .u32 Q.P.dead, .int .u32 Q.P.dr, .int .u32 Q.P.bdr, .slice na Q.nb.length nc, .int .u16 Q.P.mtu, .int .u8 Q.P.dopts, .int .u8 Q.P.dflags, .int .u32 Q.P.dseq, .slice da Q.dh.length dc, .slice ka Q.ks.length kc, .slice sa Q.ss.length sc, .slice ha Q.hs.length hc]) rfl (by kernel_rfl) (by kernel_rfl) (by kernel_rfl) (fun _ _ _ h => h) (yieldsIf_load_mid (by rfl) _ _ rfl _ _ rfl [.int .u8 Q.P.typ, .int .u32 Q.P.router, .int .u32 Q.P.area, .int .u32 Q.P.mask, .int .u16 Q.P.iv, .int .u8 Q.P.opts, .int .u8 Q.P.prio, .int .u32 Q.P.dead, .int .u32 Q.P.dr, .int .u32 Q.P.bdr, .slice na Q.nb.length nc, .int .u16 Q.P.mtu, .int .u8 Q.P.dopts, .int .u8 Q.P.dflags, .int .u32 Q.P.dseq, .slice da Q.dh.length dc, .slice ka Q.ks.length kc, .slice sa Q.ss.length sc, .slice ha Q.hs.length hc] _ (fun w h => h.1.range) Tryz.underlying33 rfl (by kernel_rfl)) (by assumption) ?_
     simp only [Act.put, List.setIfInBounds_toArray, List.set_cons_zero, List.set_cons_succ]
     refine wpAnyH_take (i := 1) (oi := ⟨some 86, _, _, _, _, _⟩) (v := .agg #[.int .u16 kd, .int .u8 d0, .int .u8 d1, .int .u8 d2, .int .u8 d3, .int .u8 d4, .int .u8 d5, .int .u8 d6, .int .u8 d7]) rfl (by kernel_rfl) (by kernel_rfl) (by kernel_rfl) (fun _ _ _ h => h) (yieldsIf_load_mid (by rfl) _ _ rfl _ _ rfl [.int .u16 kd, .int .u8 d0, .int .u8 d1, .int .u8 d2, .int .u8 d3, .int .u8 d4, .int .u8 d5, .int .u8 d6, .int .u8 d7] _ (fun w h => h.2.range) Tryz.underlying36 rfl (by kernel_rfl)) (by assumption) ?_
     simp only [Act.put, List.setIfInBounds_toArray, List.set_cons_zero, List.set_cons_succ]
     refine wpAnyH_ready (rs := [2]) (by kernel_rfl) (by simp) ?_
     refine AllReadyH.cons rfl (fun K hK => ?_) AllReadyH.nil
     refine step_row (by rfl) 33 (.tmp 2) (.tmp 85) (by rfl) g2 [.int .u8 Q.P.typ, .int .u32 Q.P.router, .int .u32 Q.P.area, .int .u32 Q.P.mask, .int .u16 Q.P.iv, .int .u8 Q.P.opts, .int .u8 Q.P.prio, .int .u32 Q.P.dead, .int .u32 Q.P.dr, .int .u32 Q.P.bdr, .slice na Q.nb.length nc, .int .u16 Q.P.mtu, .int .u8 Q.P.dopts, .int .u8 Q.P.dflags, .int .u32 Q.P.dseq, .slice da Q.dh.length dc, .slice ka Q.ks.length kc, .slice sa Q.ss.length sc, .slice ha Q.hs.length hc] (by rfl) (by rfl) 33 _ D2 (by kernel_rfl) rfl (by simp [Value.oneCell']) ?_
     refine hK.out _ _ ⟨D9.otherRow n92 _, D7.otherRow n72 _⟩ (fun hHeld => ?_)
     clear hK K
     have D3' : Row (wc.drew.setRow g2 #[.int .u8 Q.P.typ, .int .u32 Q.P.router, .int .u32 Q.P.area, .int .u32 Q.P.mask, .int .u16 Q.P.iv, .int .u8 Q.P.opts, .int .u8 Q.P.prio, .int .u32 Q.P.dead, .int .u32 Q.P.dr, .int .u32 Q.P.bdr, .slice na Q.nb.length nc, .int .u16 Q.P.mtu, .int .u8 Q.P.dopts, .int .u8 Q.P.dflags, .int .u32 Q.P.dseq, .slice da Q.dh.length dc, .slice ka Q.ks.length kc, .slice sa Q.ss.length sc, .slice ha Q.hs.length hc]) g3 36 [.int .u16 0, .int .u8 0, .int .u8 0, .int .u8 0, .int .u8 0, .int .u8 0, .int .u8 0, .int .u8 0, .int .u8 0] := D3.otherRow ng32 _
     refine wpAnyH_ready (rs := [3]) (by kernel_rfl) (by simp) ?_
     refine AllReadyH.cons rfl (fun K hK => ?_) AllReadyH.nil
     refine step_row (by rfl) 36 (.tmp 3) (.tmp 86) (by rfl) g3 [.int .u16 kd, .int .u8 d0, .int .u8 d1, .int .u8 d2, .int .u8 d3, .int .u8 d4, .int .u8 d5, .int .u8 d6, .int .u8 d7] (by rfl) (by rfl) 36 _ D3' (by kernel_rfl) rfl (by simp [Value.oneCell']) ?_
     refine hK.out _ _ ⟨(D9.otherRow n92 _).otherRow n93 _, (D7.otherRow n72 _).otherRow n73 _⟩ (fun hHeld => ?_)
     clear hK K
     refine wpAnyH_take (i := 4) (oi := ⟨some 4, _, _, _, _, _⟩) (v := .int .i64 0) rfl (by kernel_rfl) (by kernel_rfl) (by kernel_rfl) (fun _ _ _ h => h) (Or.inl ⟨by rfl, fun w hw => by go_simp⟩) (by assumption) ?_
     simp only [Act.put, List.setIfInBounds_toArray]
     refine wpAnyH_done (by kernel_rfl) ?_ _
     go_wp2_with fail
     refine bodyPost_ret (v := .tuple #[.agg #[.int .u8 Q.P.typ, .int .u32 Q.P.router, .int .u32 Q.P.area, .int .u32 Q.P.mask, .int .u16 Q.P.iv, .int .u8 Q.P.opts, .int .u8 Q.P.prio, .int .u32 Q.P.dead, .int .u32 Q.P.dr, .int .u32 Q.P.bdr, .slice na Q.nb.length nc, .int .u16 Q.P.mtu, .int .u8 Q.P.dopts, .int .u8 Q.P.dflags, .int .u32 Q.P.dseq, .slice da Q.dh.length dc, .slice ka Q.ks.length kc, .slice sa Q.ss.length sc, .slice ha Q.hs.length hc], .agg #[.int .u16 kd, .int .u8 d0, .int .u8 d1, .int .u8 d2, .int .u8 d3, .int .u8 d4, .int .u8 d5, .int .u8 d6, .int .u8 d7], .int .i64 0]) ?hr rfl ?_
     case hr => exact results_three (p := 2) (q := 3) (s := 4) rfl _ _ g2 g3 33 36 [.int .u8 Q.P.typ, .int .u32 Q.P.router, .int .u32 Q.P.area, .int .u32 Q.P.mask, .int .u16 Q.P.iv, .int .u8 Q.P.opts, .int .u8 Q.P.prio, .int .u32 Q.P.dead, .int .u32 Q.P.dr, .int .u32 Q.P.bdr, .slice na Q.nb.length nc, .int .u16 Q.P.mtu, .int .u8 Q.P.dopts, .int .u8 Q.P.dflags, .int .u32 Q.P.dseq, .slice da Q.dh.length dc, .slice ka Q.ks.length kc, .slice sa Q.ss.length sc, .slice ha Q.hs.length hc] [.int .u16 kd, .int .u8 d0, .int .u8 d1, .int .u8 d2, .int .u8 d3, .int .u8 d4, .int .u8 d5, .int .u8 d6, .int .u8 d7] _ _ _ (by rfl) (by rfl) (by rfl) ((D2.setRow _).otherRow ng23 _) (D3'.setRow _) Tryz.underlying33 rfl (by kernel_rfl) Tryz.underlying36 rfl (by kernel_rfl)
     have U3 : Touch (fun k => k = g2 ∨ k = g3) wc ((wc.drew.setRow g2 #[.int .u8 Q.P.typ, .int .u32 Q.P.router, .int .u32 Q.P.area, .int .u32 Q.P.mask, .int .u16 Q.P.iv, .int .u8 Q.P.opts, .int .u8 Q.P.prio, .int .u32 Q.P.dead, .int .u32 Q.P.dr, .int .u32 Q.P.bdr, .slice na Q.nb.length nc, .int .u16 Q.P.mtu, .int .u8 Q.P.dopts, .int .u8 Q.P.dflags, .int .u32 Q.P.dseq, .slice da Q.dh.length dc, .slice ka Q.ks.length kc, .slice sa Q.ss.length sc, .slice ha Q.hs.length hc]).setRow g3 #[.int .u16 kd, .int .u8 d0, .int .u8 d1, .int .u8 d2, .int .u8 d3, .int .u8 d4, .int .u8 d5, .int .u8 d6, .int .u8 d7]) := ((Touch.refl _ _).drew.setRow (Or.inl (Or.inl rfl)) _).setRow (Or.inl (Or.inr rfl)) _
     exact HFIN.out _ (TXX.out.trans' U3 (fun i hi e => by have h3 := HZ.out; rcases e with e | e <;> omega)) (HAT.out _ (U3.mono (fun i _ e => by have h2 := HZ0.out; have h3 := HZ.out; rcases e with e | e <;> omega)))
    ·have HEZ : Hid (pdecE rs = EP) := HE.out.trans HQE.out
     have HEN : Hid (EP ≠ 0) := hE0
     have hEb : (EP != 0) = true := by simpa using hE0
     have TXX : Hid (Touch (fun _ => False) w0 wc) := TX
     clear r9 DM TX hE0
     have R2e : Row wc g2 33 [.int .u8 0, .int .u32 0, .int .u32 0, .int .u32 0, .int .u16 0, .int .u8 0, .int .u8 0, .int .u32 0, .int .u32 0, .int .u32 0, .slice none 0 0, .int .u16 0, .int .u8 0, .int .u8 0, .int .u32 0, .slice none 0 0, .slice none 0 0, .slice none 0 0, .slice none 0 0] := BK2.out _ TXX.out
     have R3e : Row (wc.setRow g2 #[.int .u8 0, .int .u32 0, .int .u32 0, .int .u32 0, .int .u16 0, .int .u8 0, .int .u8 0, .int .u32 0, .int .u32 0, .int .u32 0, .slice none 0 0, .int .u16 0, .int .u8 0, .int .u8 0, .int .u32 0, .slice none 0 0, .slice none 0 0, .slice none 0 0, .slice none 0 0]) g3 36 [.int .u16 0, .int .u8 0, .int .u8 0, .int .u8 0, .int .u8 0, .int .u8 0, .int .u8 0, .int .u8 0, .int .u8 0] := (BK3.out _ TXX.out).otherRow ng32 _
     go_wp2_with (first | refine wpList_store_row rfl 33 (.tmp 2) (.tmp 82) rfl g2 #[.int .u8 0, .int .u32 0, .int .u32 0, .int .u32 0, .int .u16 0, .int .u8 0, .int .u8 0, .int .u32 0, .int .u32 0, .int .u32 0, .slice none 0 0, .int .u16 0, .int .u8 0, .int .u8 0, .int .u32 0, .slice none 0 0, .slice none 0 0, .slice none 0 0, .slice none 0 0] rfl rfl 33 _ R2e (by kernel_rfl) rfl (by simp [Value.oneCell']) ?_ | refine wpList_store_row rfl 36 (.tmp 3) (.tmp 83) rfl g3 #[.int .u16 0, .int .u8 0, .int .u8 0, .int .u8 0, .int .u8 0, .int .u8 0, .int .u8 0, .int .u8 0, .int .u8 0] rfl rfl 36 _ R3e (by kernel_rfl) rfl (by simp [Value.oneCell']) ?_)
     refine bodyPost_ret (v := .tuple #[.agg #[.int .u8 0, .int .u32 0, .int .u32 0, .int .u32 0, .int .u16 0, .int .u8 0, .int .u8 0, .int .u32 0, .int .u32 0, .int .u32 0, .slice none 0 0, .int .u16 0, .int .u8 0, .int .u8 0, .int .u32 0, .slice none 0 0, .slice none 0 0, .slice none 0 0, .slice none 0 0], .agg #[.int .u16 0, .int .u8 0, .int .u8 0, .int .u8 0, .int .u8 0, .int .u8 0, .int .u8 0, .int .u8 0, .int .u8 0], .int .i64 EP]) ?hr rfl ?_
     case hr => exact results_three (p := 2) (q := 3) (s := 4) rfl _ _ g2 g3 33 36 [.int .u8 0, .int .u32 0, .int .u32 0, .int .u32 0, .int .u16 0, .int .u8 0, .int .u8 0, .int .u32 0, .int .u32 0, .int .u32 0, .slice none 0 0, .int .u16 0, .int .u8 0, .int .u8 0, .int .u32 0, .slice none 0 0, .slice none 0 0, .slice none 0 0, .slice none 0 0] [.int .u16 0, .int .u8 0, .int .u8 0, .int .u8 0, .int .u8 0, .int .u8 0, .int .u8 0, .int .u8 0, .int .u8 0] _ _ _ (by rfl) (by rfl) (by rfl) ((R2e.setRow _).otherRow ng23 _) (R3e.setRow _) Tryz.underlying33 rfl (by kernel_rfl) Tryz.underlying36 rfl (by kernel_rfl)
     exact ddp_no HEZ.out HEN.out (((TA.out.trans TXX.out).setRow (Or.inr (by have := HZ.out; omega)) _).setRow (Or.inr (by have := HZ.out; omega)) _)
/-- Every way. -/
theorem ddec_any (v : Value) (rs : List Int) (w : World) (hv : ArgAt w v rs) (hby : ∀ z ∈ rs, 0 ≤ z ∧ z < 256) (hl : rs.length ≤ 1000000) : Calls Tryz.prog 18 #[v] w (DdP w rs) := by
 by_cases hE : pLenE rs = 0
 ·exact ddec_good v rs w hv hby hl hE
 ·exact ddec_len v rs w hv hby hl hE
end Go.Proofs.YtbfplepmgbkajaaGreatDoor
