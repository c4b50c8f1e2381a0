/- A packet whose head says something of its authentication. -/
import Derived.Test.YtjjgbcjgmjggnaaGreatDoorAuSaid
import Derived.Test.YtjjgbcjgmjggnaaGreatDoorWideB
import Derived.Recover
import Derived.Defers
namespace Go.Proofs.YtjjgbcjgmjggnaaGreatDoor
open Go.RowKit
set_option linter.unusedVariables false
set_option maxRecDepth 100000

theorem au_row_arg {w : World} {g : Nat} {T : TypeId} {l : List Int} (h : Row w g T (bytesOf l)) (hl : l.length ≤ 1000) (n : Nat) (hn : n = l.length) : ArgAt w (.slice (some ⟨g, 0, none⟩) n n) l := by
  subst hn
  refine RowAt.arg (Or.inr ⟨g, 0, l.length, rfl, Nat.le_refl _, by unfold maxLen; omega, fun j u hj => ?_⟩)
  rw [Nat.zero_add, h.cell j]
  exact hj
theorem length_sayB {b : List Int} (r k : Int) {d : List Int} (h : 24 ≤ b.length) (hd : d.length = 8) : (sayB b r k d).length = b.length := by
  unfold sayB
  simp only [List.length_append, length_numBytes (show (2:Nat) ≤ 4 by omega), List.length_take, List.length_drop, hd]
  omega
set_option maxHeartbeats 2000000 in
theorem saying_any (v : Value) (rs : List Int) (rt kd : Int) (DB : List Int) (w : World) (hv : ArgAt w v rs) (hl : 24 ≤ rs.length) (hn : rs.length ≤ 1000000) (hr : 0 ≤ rt ∧ rt < 65536) (hk : 0 ≤ kd ∧ kd < 65536) (hd : DB.length = 8) :
    Calls Tryz.prog 62 #[v, .int .u16 rt, .int .u16 kd, .agg (bytesOf DB).toArray] w fun e w' => ∃ u, e = .returned u ∧ Buf w w' u (sayB rs rt kd DB) := by
  obtain ⟨va, vc, rfl, hmx⟩ := hv.form
  obtain ⟨v1, hs1, hv1⟩ := cut_to hv rfl (by omega) 12 (by omega)
  obtain ⟨v2, hs2, hv2⟩ := cut_from hv rfl (by omega) 24 (by omega)
  replace hs1 : ∀ w, Sem.run Tryz.prog (Instr.slice 22 (.slice va rs.length vc) none (some (.int .i64 12)) none) w = .ok v1 w := hs1
  replace hs2 : ∀ w, Sem.run Tryz.prog (Instr.slice 22 (.slice va rs.length vc) (some (.int .i64 24)) none none) w = .ok v2 w := hs2
  have HLS : Hid ((sayB rs rt kd DB).length = rs.length) := length_sayB rt kd hl hd
  have HSY : Hid (sayB rs rt kd DB = rs.take 12 ++ numBytes 2 rt ++ numBytes 2 kd ++ DB ++ rs.drop 24) := rfl
  have HV1 : Hid (∀ w', Touch (fun _ => False) w w' → ArgAt w' v1 (rs.take 12)) := fun w' t => hv1.keep t (fun _ _ h => h)
  have HV2 : Hid (∀ w', Touch (fun _ => False) w w' → ArgAt w' v2 (rs.drop 24)) := fun w' t => hv2.keep t (fun _ _ h => h)
  have HL1 : Hid ((rs.take 12).length ≤ 1000000) := by show _ ≤ _; simp; omega
  have HL2 : Hid ((rs.drop 24).length ≤ 1000000) := by show _ ≤ _; simp; omega
  have hc1 : IntKind.u32.wrap rt = rt := by simp [IntKind.wrap, IntKind.bits, IntKind.signed]; omega
  have hc2 : IntKind.u32.wrap kd = kd := by simp [IntKind.wrap, IntKind.bits, IntKind.signed]; omega
  have hm : (rs.length : Int) ≤ 1048576 := by omega
  have hm0 : (0 : Int) ≤ (rs.length : Int) := by omega
  have hbO : (bytesOf DB).length = 8 := by rw [length_bytesOf, hd]
  have HDL : Hid (DB.length = 8) := hd
  generalize sayB rs rt kd DB = SS at *
  generalize rs.take 12 = R1 at *
  generalize rs.drop 24 = R2 at *
  generalize rs.length = n at *
  generalize hOO : bytesOf DB = O at hbO ⊢
  clear hv hmx hv1 hv2 hl hn hd
  go_enter Tryz.func62, Tryz.ntmps62
  go_upto_region 1 with fail
  have z0 := row_new w 82 O.toArray
  rw [List.toList_toArray] at z0
  have t0 : Hid (Touch (fun _ => False) w (w.alloc (.cells O.toArray 82))) := (Touch.refl _ w).alloc _
  generalize w.alloc (.cells O.toArray 82) = wa at z0 t0 ⊢
  have hza := z0.lt
  refine wp_region_held_drew (S := fun _ => True) (by kernel_rfl) trivial (fun hHeld => ?_)
  refine wpAnyH_take (i := 0) (oi := ⟨some 12, _, _, _, _, _⟩) (v := .slice va n vc) rfl (by kernel_rfl) (by kernel_rfl) (by kernel_rfl) (fun _ _ _ h => h) (Or.inl ⟨by rfl, fun w hw => by go_simp⟩) (by assumption) ?_
  simp only [Act.put, List.setIfInBounds_toArray, List.set_cons_zero, List.set_cons_succ]
  refine wpAnyH_take (i := 1) (oi := ⟨some 13, _, _, _, _, _⟩) (v := .int .i64 n) rfl (by kernel_rfl) (by kernel_rfl) (by kernel_rfl) (fun _ _ _ h => h) (Or.inl ⟨by rfl, fun w hw => by go_simp⟩) (by assumption) ?_
  simp only [Act.put, List.setIfInBounds_toArray, List.set_cons_zero, List.set_cons_succ]
  refine wpAnyH_take (i := 3) (oi := ⟨some 15, _, _, _, _, _⟩) (v := .slice va n vc) rfl (by kernel_rfl) (by kernel_rfl) (by kernel_rfl) (fun _ _ _ h => h) (Or.inl ⟨by rfl, fun w hw => by go_simp⟩) (by assumption) ?_
  simp only [Act.put, List.setIfInBounds_toArray, List.set_cons_zero, List.set_cons_succ]
  refine wpAnyH_take (i := 4) (oi := ⟨some 16, _, _, _, _, _⟩) (v := v1) rfl (by kernel_rfl) (by kernel_rfl) (by kernel_rfl) (fun _ _ _ h => h) (Or.inl ⟨by rfl, fun w hw => by go_simp⟩) (by assumption) ?_
  simp only [Act.put, List.setIfInBounds_toArray, List.set_cons_zero, List.set_cons_succ]
  refine wpAnyH_ready (rs := [2]) (by kernel_rfl) (by simp) ?_
  refine AllReadyH.cons rfl (fun K hK => ?_) AllReadyH.nil
  go_simp
  refine Calls.mono (write_w n wa.drew hm0) ?_
  rintro e w1 ⟨rfl, W1, t1⟩
  replace W1 : Wr (fun k => k < wa.heap.size) w1 wa.heap.size [] n := W1
  have T1 : Hid (Touch (fun _ => False) wa w1) := ((Touch.refl _ _).drew).trans t1
  clear t1
  refine hK.out _ _ trivial (fun hHeld => ?_)
  clear hK K
  refine wpAnyH_ready (rs := [5]) (by kernel_rfl) (by simp) ?_
  refine AllReadyH.cons rfl (fun K hK => ?_) AllReadyH.nil
  go_simp
  refine Calls.mono (put_arg (fun k => k < wa.heap.size) wa.heap.size [] n v1 R1 w1 W1 hm (HV1.out w1 (t0.out.trans T1.out)) (by have := HL1.out; omega)) ?_
  rintro e w2 ⟨rfl, W2, k2⟩
  rw [List.nil_append] at W2
  have T2 : Hid (Touch (fun _ => False) wa w2) := k2.after T1.out (fun i hi => hi)
  clear W1 k2 T1
  refine hK.out _ _ trivial (fun hHeld => ?_)
  clear hK K
  refine wpAnyH_take (i := 6) (oi := ⟨some 9, _, _, _, _, _⟩) (v := .pointer (some ⟨wa.heap.size, 0, none⟩)) rfl (by kernel_rfl) (by kernel_rfl) (by kernel_rfl) (fun _ _ _ h => h) (Or.inl ⟨by rfl, fun w hw => by go_simp⟩) (by assumption) ?_
  simp only [Act.put, List.setIfInBounds_toArray, List.set_cons_zero, List.set_cons_succ]
  refine wpAnyH_done (by kernel_rfl) ?_ _
  go_upto_region 2 with fail
  have W3 : Wr (fun k => k < wa.heap.size) w2.drew wa.heap.size R1 n := W2.keep ((Touch.refl _ _).drew)
  have T3 : Hid (Touch (fun _ => False) wa w2.drew) := T2.out.trans ((Touch.refl _ _).drew)
  clear W2 T2
  refine wp_region_held_drew (S := fun _ => True) (by kernel_rfl) trivial (fun hHeld => ?_)
  refine wpAnyH_take (i := 0) (oi := ⟨some 18, _, _, _, _, _⟩) (v := .pointer (some ⟨wa.heap.size, 0, none⟩)) rfl (by kernel_rfl) (by kernel_rfl) (by kernel_rfl) (fun _ _ _ h => h) (Or.inl ⟨by rfl, fun w hw => by go_simp⟩) (by assumption) ?_
  simp only [Act.put, List.setIfInBounds_toArray, List.set_cons_zero, List.set_cons_succ]
  refine wpAnyH_take (i := 1) (oi := ⟨some 19, _, _, _, _, _⟩) (v := .int .u16 rt) rfl (by kernel_rfl) (by kernel_rfl) (by kernel_rfl) (fun _ _ _ h => h) (Or.inl ⟨by rfl, fun w hw => by go_simp⟩) (by assumption) ?_
  simp only [Act.put, List.setIfInBounds_toArray, List.set_cons_zero, List.set_cons_succ]
  refine wpAnyH_take (i := 2) (oi := ⟨some 20, _, _, _, _, _⟩) (v := .int .u32 rt) rfl (by kernel_rfl) (by kernel_rfl) (by kernel_rfl) (fun _ _ _ h => h) (Or.inl ⟨by rfl, fun w hw => by go_simp⟩) (by assumption) ?_
  simp only [Act.put, List.setIfInBounds_toArray, List.set_cons_zero, List.set_cons_succ]
  refine wpAnyH_take (i := 4) (oi := ⟨some 22, _, _, _, _, _⟩) (v := .int .u16 kd) rfl (by kernel_rfl) (by kernel_rfl) (by kernel_rfl) (fun _ _ _ h => h) (Or.inl ⟨by rfl, fun w hw => by go_simp⟩) (by assumption) ?_
  simp only [Act.put, List.setIfInBounds_toArray, List.set_cons_zero, List.set_cons_succ]
  refine wpAnyH_take (i := 5) (oi := ⟨some 23, _, _, _, _, _⟩) (v := .int .u32 kd) rfl (by kernel_rfl) (by kernel_rfl) (by kernel_rfl) (fun _ _ _ h => h) (Or.inl ⟨by rfl, fun w hw => by go_simp⟩) (by assumption) ?_
  simp only [Act.put, List.setIfInBounds_toArray, List.set_cons_zero, List.set_cons_succ]
  refine wpAnyH_take (i := 7) (oi := ⟨some 25, _, _, _, _, _⟩) (v := .slice (some ⟨w.heap.size, 0, none⟩) 8 8) rfl (by kernel_rfl) (by kernel_rfl) (by kernel_rfl) (fun _ _ _ h => h) (Or.inl ⟨by rfl, fun w hw => by go_simp⟩) (by assumption) ?_
  simp only [Act.put, List.setIfInBounds_toArray, List.set_cons_zero, List.set_cons_succ]
  refine wpAnyH_ready (rs := [3]) (by kernel_rfl) (by simp) ?_
  refine AllReadyH.cons rfl (fun K hK => ?_) AllReadyH.nil
  go_simp
  refine Calls.mono (number_w2 _ _ R1 n rt _ W3 hm hr) ?_
  rintro e w4 ⟨rfl, W4, k4⟩
  have T4 : Hid (Touch (fun _ => False) wa w4) := k4.after T3.out (fun i hi => hi)
  clear W3 k4 T3
  refine hK.out _ _ trivial (fun hHeld => ?_)
  clear hK K
  refine wpAnyH_ready (rs := [6]) (by kernel_rfl) (by simp) ?_
  refine AllReadyH.cons rfl (fun K hK => ?_) AllReadyH.nil
  go_simp
  refine Calls.mono (number_w2 _ _ _ n kd _ W4 hm hk) ?_
  rintro e w5 ⟨rfl, W5, k5⟩
  have T5 : Hid (Touch (fun _ => False) wa w5) := k5.after T4.out (fun i hi => hi)
  clear W4 k5 T4
  refine hK.out _ _ trivial (fun hHeld => ?_)
  clear hK K
  have a5 : ArgAt w5 (.slice (some ⟨w.heap.size, 0, none⟩) 8 8) DB := au_row_arg (T := 82) (by rw [hOO]; exact z0.keep T5.out) (by have := HDL.out; omega) 8 HDL.out.symm
  refine wpAnyH_ready (rs := [8]) (by kernel_rfl) (by simp) ?_
  refine AllReadyH.cons rfl (fun K hK => ?_) AllReadyH.nil
  go_simp
  refine Calls.mono (put_arg _ _ _ n _ DB _ W5 hm a5 (by have := HDL.out; omega)) ?_
  rintro e w6 ⟨rfl, W6, k6⟩
  have T6 : Hid (Touch (fun _ => False) wa w6) := k6.after T5.out (fun i hi => hi)
  clear W5 k6 T5 a5
  refine hK.out _ _ trivial (fun hHeld => ?_)
  clear hK K
  refine wpAnyH_done (by kernel_rfl) ?_ _
  have HP7 := put_arg _ _ _ n v2 R2 _ W6 hm (HV2.out w6 (t0.out.trans T6.out)) (by have := HL2.out; omega)
  rw [← HSY.out] at HP7
  clear W6
  go_wp2_with fail
  refine Calls.mono HP7 ?_
  rintro e w7 ⟨rfl, W7, k7⟩
  have T7 : Hid (Touch (fun _ => False) wa w7) := k7.after T6.out (fun i hi => hi)
  clear k7 T6 HP7
  go_wp2_with fail
  refine Calls.mono (done_w _ _ SS n w7 W7 (by rw [HLS.out]; omega) hm) ?_
  rintro e w8 ⟨u, rfl, bu⟩
  have BU : Hid (Buf w w8 u SS) := bu.back (t0.out.trans T7.out)
  obtain ⟨ua, uc, rfl⟩ := bu.form
  clear bu W7 T7
  go_wp2_with fail
  go_ret
  exact ⟨_, rfl, BU.out⟩
end Go.Proofs.YtjjgbcjgmjggnaaGreatDoor

namespace Go.Proofs.YtjjgbcjgmjggnaaGreatDoor
open Go.RowKit
set_option linter.unusedVariables false
set_option maxRecDepth 100000

/-- A flaw of a packet on its way. -/
def pflawC (e : Int) : List PanicEntry := [{ v := .iface 170 (.int .i64 e), recovered := false }]
theorem pneed_ok (e : Int) (w : World) : Calls Tryz.prog 104 #[.bool true, .int .i64 e] w fun x w' => x = .returned (.tuple #[]) ∧ w = w' := by
  go_enter Tryz.func104, Tryz.ntmps104
  go_wp2
  go_end0
  exact ⟨rfl, rfl⟩
theorem pneed_no (e : Int) (w : World) : Calls Tryz.prog 104 #[.bool false, .int .i64 e] w fun x w' => x = .panicked (pflawC e) ∧ w = w' := by
  go_enter Tryz.func104, Tryz.ntmps104
  go_wp2
  exact ⟨rfl, rfl, rfl⟩
theorem pneed_t (t : Bool) (e : Int) (w : World) (ht : t = true) : Calls Tryz.prog 104 #[.bool t, .int .i64 e] w fun x w' => x = .returned (.tuple #[]) ∧ w = w' := by subst ht; exact pneed_ok e w
theorem pneed_f (t : Bool) (e : Int) (w : World) (ht : t = false) : Calls Tryz.prog 104 #[.bool t, .int .i64 e] w fun x w' => x = .panicked (pflawC e) ∧ w = w' := by subst ht; exact pneed_no e w
theorem pta_flaw (e : Int) (w : World) : (Instr.typeAssert (.iface 170 (.int .i64 e)) 20 170 true).run Tryz.prog w = .ok (.tuple #[.int .i64 e, .bool true]) w := by kernel_rfl
theorem pta_nil (w : World) : (Instr.typeAssert .nilIface 20 170 true).run Tryz.prog w = .ok (.tuple #[.int .i64 0, .bool false]) w := by kernel_rfl
theorem pcatch_flaw (b : Nat) (x e : Int) (w : World) (hc : w.cell? ⟨b, 0, none⟩ = some (.int .i64 x)) (hz : w.frozen? ⟨b, 0, none⟩ = false) :
    CallsD Tryz.prog 103 #[.pointer (some ⟨b, 0, none⟩)] (.panicking (pflawC e)) w fun r u' w' =>
      r = .returned (.tuple #[]) ∧ u' = .panicking [{ v := .iface 170 (.int .i64 e), recovered := true }] ∧ w' = w.setCell ⟨b, 0, none⟩ (.int .i64 e) := by
  refine callsD_of_wpS Tryz.func103 rfl fun c₀ cs hu => ?_
  apply wpS_seq
  apply wpS_region
  simp [wpOpsS, go_sem, recoverD, hu, pflawC, pta_flaw, Tryz.ntmps103, Exit.thenS]
  apply wpS_seq
  apply wpS_region
  simp [wpOpsS, go_sem, Exit.thenS]
  refine wpS_cond (t := true) (by simp [Act.eval, Array.replicate]) ?_
  simp only [if_true]
  apply wpS_region
  simp [wpOpsS, go_sem, hc, hz, bodyPostS, results, Tryz.results103]
theorem pcatch_idle (b : Nat) (w : World) :
    CallsD Tryz.prog 103 #[.pointer (some ⟨b, 0, none⟩)] .returning w fun r u' w' => r = .returned (.tuple #[]) ∧ u' = .returning ∧ w' = w := by
  refine callsD_of_wpS Tryz.func103 rfl fun c₀ cs hu => ?_
  apply wpS_seq
  apply wpS_region
  simp [wpOpsS, go_sem, recoverD, hu, pta_nil, Tryz.ntmps103, Exit.thenS]
  apply wpS_seq
  apply wpS_region
  simp [wpOpsS, go_sem, Exit.thenS]
  refine wpS_cond (t := false) (by simp [Act.eval, Array.replicate]) ?_
  simp only [Bool.false_eq_true, if_false]
  refine wpS_of_wp (wp_skip ?_)
  cases c₀
  simp_all [bodyPostS, results, Tryz.results103]
/-- The face where its function ends by itself: K is what it leaves. -/
theorem pface_ok (G : Nat) (cap : Array Value) (hG : ∀ w, (callFunc G cap).run Tryz.prog w = .ok (.enter G cap) w) (w : World) (F : Nat → Prop) (hF : ¬ F w.heap.size) (K : World → Prop)
    (h : Calls Tryz.prog G cap (w.alloc (.cells #[.int .i64 0] 29)) fun e w' => e = .returned (.tuple #[]) ∧ Touch F (w.alloc (.cells #[.int .i64 0] 29)) w' ∧ K w')
    (hK : ∀ w1 w2, K w1 → Touch (fun k => k = w.heap.size) w1 w2 → K w2) :
    Calls Tryz.prog 74 #[.func (.func G) #[] cap] w fun e w' => e = .returned (.int .i64 0) ∧ Touch F w w' ∧ K w' := by
  have hmf : ∀ (fn : Fn) (first cap : Array Value) (w : World), (Instr.makeFunc fn first cap).run Tryz.prog w = .ok (.func fn first cap) w := fun _ _ _ _ => rfl
  go_enter_defers Tryz.func74, Tryz.ntmps74
  go_wp2_with fail
  refine h.mono ?_
  rintro e w1 ⟨rfl, t1, k1⟩
  have fz1 : w1.frozen? ⟨w.heap.size, 0, none⟩ = false := (t1.frozen (p := ⟨w.heap.size, 0, none⟩) (by simp) hF).trans (by simp [go_sem])
  have ce1 : w1.cell? ⟨w.heap.size, 0, none⟩ = some (.int .i64 0) := (t1.cell (p := ⟨w.heap.size, 0, none⟩) (by simp) hF).trans (by simp [go_sem])
  have HT : Hid (Touch F w w1) := ((Touch.refl F w).alloc _).trans t1
  have HK : Hid (K w1) := k1
  have U : Hid (Touch (fun k => k = w.heap.size) w1 (w1.setCell ⟨w.heap.size, 0, none⟩ (.int .i64 0))) := Touch.setCell (F := fun k => k = w.heap.size) (p := ⟨w.heap.size, 0, none⟩) (Touch.refl _ _) (Or.inl rfl) _
  have de : (w1.setCell ⟨w.heap.size, 0, none⟩ (.int .i64 0)).cell? ⟨w.heap.size, 0, none⟩ = some (.int .i64 0) := by simp [ce1, go_sem]
  clear t1 k1 h
  go_wp2_with fail
  generalize w1.setCell ⟨w.heap.size, 0, none⟩ (.int .i64 0) = w2 at *
  clear ce1 fz1
  refine leaves_cons (f := 103) (args := #[.pointer (some ⟨w.heap.size, 0, none⟩)]) (by simp) (by simp [go_sem]) ?_
  refine (pcatch_idle w.heap.size _).mono ?_
  rintro e u' w'' ⟨rfl, rfl, rfl⟩
  exact ⟨.int .i64 0, by simp [results, Tryz.results74, go_sem, de], rfl, HT.out.trans' U.out (fun i hi e => by omega), hK _ _ HK.out U.out⟩
/-- The face where its function gives up. -/
theorem pface_no (G : Nat) (cap : Array Value) (hG : ∀ w, (callFunc G cap).run Tryz.prog w = .ok (.enter G cap) w) (w : World) (F : Nat → Prop) (hF : ¬ F w.heap.size) (err : Int) (K : World → Prop)
    (h : Calls Tryz.prog G cap (w.alloc (.cells #[.int .i64 0] 29)) fun e w' => e = .panicked (pflawC err) ∧ Touch F (w.alloc (.cells #[.int .i64 0] 29)) w' ∧ K w')
    (hK : ∀ w1 w2, K w1 → Touch (fun k => k = w.heap.size) w1 w2 → K w2) :
    Calls Tryz.prog 74 #[.func (.func G) #[] cap] w fun e w' => e = .returned (.int .i64 err) ∧ Touch F w w' ∧ K w' := by
  have hmf : ∀ (fn : Fn) (first cap : Array Value) (w : World), (Instr.makeFunc fn first cap).run Tryz.prog w = .ok (.func fn first cap) w := fun _ _ _ _ => rfl
  go_enter_defers Tryz.func74, Tryz.ntmps74
  go_wp2_with fail
  refine h.mono ?_
  rintro e w1 ⟨rfl, t1, k1⟩
  have fz1 : w1.frozen? ⟨w.heap.size, 0, none⟩ = false := (t1.frozen (p := ⟨w.heap.size, 0, none⟩) (by simp) hF).trans (by simp [go_sem])
  have ce1 : w1.cell? ⟨w.heap.size, 0, none⟩ = some (.int .i64 0) := (t1.cell (p := ⟨w.heap.size, 0, none⟩) (by simp) hF).trans (by simp [go_sem])
  have HT : Hid (Touch F w w1) := ((Touch.refl F w).alloc _).trans t1
  have U : Touch (fun k => k = w.heap.size) w1 (w1.setCell ⟨w.heap.size, 0, none⟩ (.int .i64 err)) := Touch.setCell (F := fun k => k = w.heap.size) (p := ⟨w.heap.size, 0, none⟩) (Touch.refl _ _) (Or.inl rfl) _
  refine leaves_cons (f := 103) (args := #[.pointer (some ⟨w.heap.size, 0, none⟩)]) (by simp) (by simp [go_sem]) ?_
  refine (pcatch_flaw w.heap.size 0 err _ ce1 fz1).mono ?_
  rintro e u' w'' ⟨rfl, rfl, rfl⟩
  exact ⟨.int .i64 err, by simp [results, Tryz.results74, go_sem, ce1], rfl, HT.out.trans' U (fun i hi e => by omega), hK _ _ k1 U⟩
end Go.Proofs.YtjjgbcjgmjggnaaGreatDoor
