/- A packet whose head says something of its authentication. -/
import Derived.Test.YthilfealloakdaaAuSaid
namespace Go.Proofs.Ythilfealloakdaa
open Go.RowKit
set_option linter.unusedVariables false
set_option maxRecDepth 100000

theorem au_row_arg {w : World} {g : Nat} {T : TypeId} {l : List Int} (h : Row w g T (bytesOf l)) (hl : l.length ≤ 1000) (n : Nat) (hn : n = l.length) : ArgAt w (.slice (some ⟨g, 0, none⟩) n n) l := by
  subst hn
  refine RowAt.arg (Or.inr ⟨g, 0, l.length, rfl, Nat.le_refl _, by unfold maxLen; omega, fun j u hj => ?_⟩)
  rw [Nat.zero_add, h.cell j]
  exact hj
theorem length_sayB {b : List Int} (r k : Int) {d : List Int} (h : 24 ≤ b.length) (hd : d.length = 8) : (sayB b r k d).length = b.length := by
  unfold sayB
  simp only [List.length_append, length_numBytes (show (2:Nat) ≤ 4 by omega), List.length_take, List.length_drop, hd]
  omega
theorem kept_arg {n : Nat} {w w' : World} {v : Value} {l : List Int} (h : ArgAt w v l) (t : Kept (fun k => k < n) w w') (hn : w.heap.size ≤ n) : ArgAt w' v l := h.keep t (fun k hk hf => hf (by omega))
set_option maxHeartbeats 2000000 in
theorem saying_any (v : Value) (rs : List Int) (rt kd : Int) (DB : List Int) (w : World) (hv : ArgAt w v rs) (hl : 24 ≤ rs.length) (hn : rs.length ≤ 1000000) (hr : 0 ≤ rt ∧ rt < 65536) (hk : 0 ≤ kd ∧ kd < 65536) (hd : DB.length = 8) :
    Calls Try.prog 51 #[v, .int .u16 rt, .int .u16 kd, .agg (bytesOf DB).toArray] w fun e w' => ∃ u, e = .returned u ∧ Buf w w' u (sayB rs rt kd DB) := by
  obtain ⟨va, vc, rfl, hmx⟩ := hv.form
  obtain ⟨v1, hs1, hv1⟩ := cut_to hv rfl (by omega) 12 (by omega)
  obtain ⟨v2, hs2, hv2⟩ := cut_from hv rfl (by omega) 24 (by omega)
  replace hs1 : ∀ w, Sem.run Try.prog (Instr.slice 47 (.slice va rs.length vc) none (some (.int .i64 12)) none) w = .ok v1 w := hs1
  replace hs2 : ∀ w, Sem.run Try.prog (Instr.slice 47 (.slice va rs.length vc) (some (.int .i64 24)) none none) w = .ok v2 w := hs2
  have HLS : Hid ((sayB rs rt kd DB).length = rs.length) := length_sayB rt kd hl hd
  have HSY : Hid (sayB rs rt kd DB = rs.take 12 ++ numBytes 2 rt ++ numBytes 2 kd ++ DB ++ rs.drop 24) := rfl
  have HV1 : Hid (∀ w', Touch (fun _ => False) w w' → ArgAt w' v1 (rs.take 12)) := fun w' t => hv1.keep t (fun _ _ h => h)
  have HV2 : Hid (∀ w', Touch (fun _ => False) w w' → ArgAt w' v2 (rs.drop 24)) := fun w' t => hv2.keep t (fun _ _ h => h)
  have HL1 : Hid ((rs.take 12).length ≤ 1000000) := by show _ ≤ _; simp; omega
  have HL2 : Hid ((rs.drop 24).length ≤ 1000000) := by show _ ≤ _; simp; omega
  have hc1 : IntKind.u32.wrap rt = rt := by simp [IntKind.wrap, IntKind.bits, IntKind.signed]; omega
  have hc2 : IntKind.u32.wrap kd = kd := by simp [IntKind.wrap, IntKind.bits, IntKind.signed]; omega
  have hm : (rs.length : Int) ≤ 1048576 := by omega
  have hm0 : (0 : Int) ≤ (rs.length : Int) := by omega
  have hbO : (bytesOf DB).length = 8 := by rw [length_bytesOf, hd]
  have HDL : Hid (DB.length = 8) := hd
  generalize sayB rs rt kd DB = SS at *
  generalize rs.take 12 = R1 at *
  generalize rs.drop 24 = R2 at *
  generalize rs.length = n at *
  generalize hOO : bytesOf DB = O at hbO ⊢
  clear hv hmx hv1 hv2 hl hn hd
  go_enter Try.func51, Try.ntmps51
  go_upto_region 1 with fail
  have z0 := row_new w 87 O.toArray
  rw [List.toList_toArray] at z0
  have t0 : Hid (Touch (fun _ => False) w (w.alloc (.cells O.toArray 87))) := (Touch.refl _ w).alloc _
  generalize w.alloc (.cells O.toArray 87) = wa at z0 t0 ⊢
  have hza := z0.lt
  refine wp_region_held_drew (S := fun _ => True) (by kernel_rfl) trivial (fun hHeld => ?_)
  refine wpAnyH_take (i := 0) (oi := ⟨some 12, _, _, _, _, _⟩) (v := .slice va n vc) rfl (by kernel_rfl) (by kernel_rfl) (by kernel_rfl) (fun _ _ _ h => h) (Or.inl ⟨by rfl, fun w hw => by go_simp⟩) (by assumption) ?_
  simp only [Act.put, List.setIfInBounds_toArray, List.set_cons_zero, List.set_cons_succ]
  refine wpAnyH_take (i := 1) (oi := ⟨some 13, _, _, _, _, _⟩) (v := .int .i64 n) rfl (by kernel_rfl) (by kernel_rfl) (by kernel_rfl) (fun _ _ _ h => h) (Or.inl ⟨by rfl, fun w hw => by go_simp⟩) (by assumption) ?_
  simp only [Act.put, List.setIfInBounds_toArray, List.set_cons_zero, List.set_cons_succ]
  refine wpAnyH_take (i := 3) (oi := ⟨some 15, _, _, _, _, _⟩) (v := .slice va n vc) rfl (by kernel_rfl) (by kernel_rfl) (by kernel_rfl) (fun _ _ _ h => h) (Or.inl ⟨by rfl, fun w hw => by go_simp⟩) (by assumption) ?_
  simp only [Act.put, List.setIfInBounds_toArray, List.set_cons_zero, List.set_cons_succ]
  refine wpAnyH_take (i := 4) (oi := ⟨some 16, _, _, _, _, _⟩) (v := v1) rfl (by kernel_rfl) (by kernel_rfl) (by kernel_rfl) (fun _ _ _ h => h) (Or.inl ⟨by rfl, fun w hw => by go_simp⟩) (by assumption) ?_
  simp only [Act.put, List.setIfInBounds_toArray, List.set_cons_zero, List.set_cons_succ]
  refine wpAnyH_ready (rs := [2]) (by kernel_rfl) (by simp) ?_
  refine AllReadyH.cons rfl (fun K hK => ?_) AllReadyH.nil
  go_simp
  refine Calls.mono (write_w n wa.drew hm0) ?_
  rintro e w1 ⟨rfl, W1, t1⟩
  replace W1 : Wr (fun k => k < wa.heap.size) w1 wa.heap.size [] n := W1
  have T1 : Hid (Touch (fun _ => False) wa w1) := ((Touch.refl _ _).drew).trans t1
  clear t1
  refine hK.out _ _ trivial (fun hHeld => ?_)
  clear hK K
  refine wpAnyH_ready (rs := [5]) (by kernel_rfl) (by simp) ?_
  refine AllReadyH.cons rfl (fun K hK => ?_) AllReadyH.nil
  go_simp
  refine Calls.mono (put_arg (fun k => k < wa.heap.size) wa.heap.size [] n v1 R1 w1 W1 hm (HV1.out w1 (t0.out.trans T1.out)) (by have := HL1.out; omega)) ?_
  rintro e w2 ⟨rfl, W2, k2⟩
  rw [List.nil_append] at W2
  have T2 : Hid (Touch (fun _ => False) wa w2) := k2.after T1.out (fun i hi => hi)
  clear W1 k2 T1
  refine hK.out _ _ trivial (fun hHeld => ?_)
  clear hK K
  refine wpAnyH_take (i := 6) (oi := ⟨some 9, _, _, _, _, _⟩) (v := .pointer (some ⟨wa.heap.size, 0, none⟩)) rfl (by kernel_rfl) (by kernel_rfl) (by kernel_rfl) (fun _ _ _ h => h) (Or.inl ⟨by rfl, fun w hw => by go_simp⟩) (by assumption) ?_
  simp only [Act.put, List.setIfInBounds_toArray, List.set_cons_zero, List.set_cons_succ]
  refine wpAnyH_done (by kernel_rfl) ?_ _
  go_upto_region 2 with fail
  have W3 : Wr (fun k => k < wa.heap.size) w2.drew wa.heap.size R1 n := W2.keep ((Touch.refl _ _).drew)
  have T3 : Hid (Touch (fun _ => False) wa w2.drew) := T2.out.trans ((Touch.refl _ _).drew)
  clear W2 T2
  refine wp_region_held_drew (S := fun _ => True) (by kernel_rfl) trivial (fun hHeld => ?_)
  refine wpAnyH_take (i := 0) (oi := ⟨some 18, _, _, _, _, _⟩) (v := .pointer (some ⟨wa.heap.size, 0, none⟩)) rfl (by kernel_rfl) (by kernel_rfl) (by kernel_rfl) (fun _ _ _ h => h) (Or.inl ⟨by rfl, fun w hw => by go_simp⟩) (by assumption) ?_
  simp only [Act.put, List.setIfInBounds_toArray, List.set_cons_zero, List.set_cons_succ]
  refine wpAnyH_take (i := 1) (oi := ⟨some 19, _, _, _, _, _⟩) (v := .int .u16 rt) rfl (by kernel_rfl) (by kernel_rfl) (by kernel_rfl) (fun _ _ _ h => h) (Or.inl ⟨by rfl, fun w hw => by go_simp⟩) (by assumption) ?_
  simp only [Act.put, List.setIfInBounds_toArray, List.set_cons_zero, List.set_cons_succ]
  refine wpAnyH_take (i := 2) (oi := ⟨some 20, _, _, _, _, _⟩) (v := .int .u32 rt) rfl (by kernel_rfl) (by kernel_rfl) (by kernel_rfl) (fun _ _ _ h => h) (Or.inl ⟨by rfl, fun w hw => by go_simp⟩) (by assumption) ?_
  simp only [Act.put, List.setIfInBounds_toArray, List.set_cons_zero, List.set_cons_succ]
  refine wpAnyH_take (i := 4) (oi := ⟨some 22, _, _, _, _, _⟩) (v := .int .u16 kd) rfl (by kernel_rfl) (by kernel_rfl) (by kernel_rfl) (fun _ _ _ h => h) (Or.inl ⟨by rfl, fun w hw => by go_simp⟩) (by assumption) ?_
  simp only [Act.put, List.setIfInBounds_toArray, List.set_cons_zero, List.set_cons_succ]
  refine wpAnyH_take (i := 5) (oi := ⟨some 23, _, _, _, _, _⟩) (v := .int .u32 kd) rfl (by kernel_rfl) (by kernel_rfl) (by kernel_rfl) (fun _ _ _ h => h) (Or.inl ⟨by rfl, fun w hw => by go_simp⟩) (by assumption) ?_
  simp only [Act.put, List.setIfInBounds_toArray, List.set_cons_zero, List.set_cons_succ]
  refine wpAnyH_take (i := 7) (oi := ⟨some 25, _, _, _, _, _⟩) (v := .slice (some ⟨w.heap.size, 0, none⟩) 8 8) rfl (by kernel_rfl) (by kernel_rfl) (by kernel_rfl) (fun _ _ _ h => h) (Or.inl ⟨by rfl, fun w hw => by go_simp⟩) (by assumption) ?_
  simp only [Act.put, List.setIfInBounds_toArray, List.set_cons_zero, List.set_cons_succ]
  refine wpAnyH_ready (rs := [3]) (by kernel_rfl) (by simp) ?_
  refine AllReadyH.cons rfl (fun K hK => ?_) AllReadyH.nil
  go_simp
  refine Calls.mono (number_w2 _ _ R1 n rt _ W3 hm hr) ?_
  rintro e w4 ⟨rfl, W4, k4⟩
  have T4 : Hid (Touch (fun _ => False) wa w4) := k4.after T3.out (fun i hi => hi)
  clear W3 k4 T3
  refine hK.out _ _ trivial (fun hHeld => ?_)
  clear hK K
  refine wpAnyH_ready (rs := [6]) (by kernel_rfl) (by simp) ?_
  refine AllReadyH.cons rfl (fun K hK => ?_) AllReadyH.nil
  go_simp
  refine Calls.mono (number_w2 _ _ _ n kd _ W4 hm hk) ?_
  rintro e w5 ⟨rfl, W5, k5⟩
  have T5 : Hid (Touch (fun _ => False) wa w5) := k5.after T4.out (fun i hi => hi)
  clear W4 k5 T4
  refine hK.out _ _ trivial (fun hHeld => ?_)
  clear hK K
  have a5 : ArgAt w5 (.slice (some ⟨w.heap.size, 0, none⟩) 8 8) DB := au_row_arg (T := 87) (by rw [hOO]; exact z0.keep T5.out) (by have := HDL.out; omega) 8 HDL.out.symm
  refine wpAnyH_ready (rs := [8]) (by kernel_rfl) (by simp) ?_
  refine AllReadyH.cons rfl (fun K hK => ?_) AllReadyH.nil
  go_simp
  refine Calls.mono (put_arg _ _ _ n _ DB _ W5 hm a5 (by have := HDL.out; omega)) ?_
  rintro e w6 ⟨rfl, W6, k6⟩
  have T6 : Hid (Touch (fun _ => False) wa w6) := k6.after T5.out (fun i hi => hi)
  clear W5 k6 T5 a5
  refine hK.out _ _ trivial (fun hHeld => ?_)
  clear hK K
  refine wpAnyH_done (by kernel_rfl) ?_ _
  have HP7 := put_arg _ _ _ n v2 R2 _ W6 hm (HV2.out w6 (t0.out.trans T6.out)) (by have := HL2.out; omega)
  rw [← HSY.out] at HP7
  clear W6
  go_wp2_with fail
  refine Calls.mono HP7 ?_
  rintro e w7 ⟨rfl, W7, k7⟩
  have T7 : Hid (Touch (fun _ => False) wa w7) := k7.after T6.out (fun i hi => hi)
  clear k7 T6 HP7
  go_wp2_with fail
  refine Calls.mono (done_w _ _ SS n w7 W7 (by rw [HLS.out]; omega) hm) ?_
  rintro e w8 ⟨u, rfl, bu⟩
  have BU : Hid (Buf w w8 u SS) := bu.back (t0.out.trans T7.out)
  obtain ⟨ua, uc, rfl⟩ := bu.form
  clear bu W7 T7
  go_wp2_with fail
  go_ret
  exact ⟨_, rfl, BU.out⟩
end Go.Proofs.Ythilfealloakdaa
