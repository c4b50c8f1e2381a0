/- open, way by way. -/
import Derived.Test.YtjjgbcjgmjggnaaGreatDoorAuOdg
import Derived.Test.YtjjgbcjgmjggnaaGreatDoorAuChoose
namespace Go.Proofs.YtjjgbcjgmjggnaaGreatDoor
open Go.RowKit Go.Shelf
set_option linter.unusedVariables false
set_option maxRecDepth 100000

set_option maxHeartbeats 2000000 in
theorem open_key (va ka : Option Addr) (vc kc rn nn : Nat) (ks : List KE) (now KD KO EE SQ : Int) (O : List Value) (w : World) (hE : ¬ EE = 0) (hOl' : O.length = 8) (hO1 : ∀ v ∈ O, v.oneCell' = true)
    (HCK : Calls Tryz.prog 20 #[.slice ka ks.length kc] w fun e w' => e = .returned (.tuple #[.int .i64 EE, .int .i64 SQ]) ∧ Touch (fun _ => False) w w')
    (HSD : Hid (∀ w', Touch (fun _ => False) w w' → Calls Tryz.prog 53 #[.slice va rn vc] w' fun e w'' => e = .returned (.tuple #[.int .u16 KD, .agg O.toArray]) ∧ Touch (fun _ => False) w' w''))
    (HKO : Hid (∀ w', Touch (fun _ => False) w w' → Calls Tryz.prog 77 #[.slice ka ks.length kc] w' fun e w'' => e = .returned (.int .u16 KO) ∧ w' = w'')) :
    Calls Tryz.prog 52 #[.slice va rn vc, .int .i64 nn, .slice ka ks.length kc, .int .i64 now] w fun e w' => e = .returned (.tuple #[.int .u32 0, .int .i64 26]) ∧ Touch (fun _ => False) w w' := by
  go_enter Tryz.func52, Tryz.ntmps52
  go_wp2_with fail
  refine Calls.mono HCK ?_
  rintro e w1 ⟨rfl, t1⟩
  have T1 : Hid (Touch (fun _ => False) w w1) := t1
  clear t1
  go_wp2_with fail
  go_ret2
  exact ⟨rfl, T1.out⟩
set_option maxHeartbeats 2000000 in
theorem open_auth (va ka : Option Addr) (vc kc rn nn : Nat) (ks : List KE) (now KD KO EE SQ : Int) (O : List Value) (w : World) (hK : ¬ KD = KO) (hOl' : O.length = 8) (hO1 : ∀ v ∈ O, v.oneCell' = true)
    (HCK : Calls Tryz.prog 20 #[.slice ka ks.length kc] w fun e w' => e = .returned (.tuple #[.int .i64 0, .int .i64 0]) ∧ Touch (fun _ => False) w w')
    (HSD : Hid (∀ w', Touch (fun _ => False) w w' → Calls Tryz.prog 53 #[.slice va rn vc] w' fun e w'' => e = .returned (.tuple #[.int .u16 KD, .agg O.toArray]) ∧ Touch (fun _ => False) w' w''))
    (HKO : Hid (∀ w', Touch (fun _ => False) w w' → Calls Tryz.prog 77 #[.slice ka ks.length kc] w' fun e w'' => e = .returned (.int .u16 KO) ∧ w' = w'')) :
    Calls Tryz.prog 52 #[.slice va rn vc, .int .i64 nn, .slice ka ks.length kc, .int .i64 now] w fun e w' => e = .returned (.tuple #[.int .u32 0, .int .i64 25]) ∧ Touch (fun _ => False) w w' := by
  go_enter Tryz.func52, Tryz.ntmps52
  go_wp2_with fail
  refine Calls.mono HCK ?_
  rintro e w1 ⟨rfl, t1⟩
  have T1 : Hid (Touch (fun _ => False) w w1) := t1
  clear t1
  go_wp2_with fail
  refine Calls.mono (HSD.out w1 T1.out) ?_
  rintro e w2 ⟨rfl, t2⟩
  have T2 : Hid (Touch (fun _ => False) w w2) := T1.out.trans t2
  clear t2 T1
  have R3 := (row_new w2 82 #[.int .u8 0, .int .u8 0, .int .u8 0, .int .u8 0, .int .u8 0, .int .u8 0, .int .u8 0, .int .u8 0]).setRow O.toArray
  have T3 : Hid (Touch (fun _ => False) w ((w2.alloc (.cells #[.int .u8 0, .int .u8 0, .int .u8 0, .int .u8 0, .int .u8 0, .int .u8 0, .int .u8 0, .int .u8 0] 82)).setRow w2.heap.size O.toArray)) := Touch.setRow (T2.out.alloc _) (Or.inr T2.out.size) _
  rw [List.toList_toArray] at R3
  have hko := HKO.out _ T3.out
  go_wp2_with (refine wpList_store_row rfl 82 (.tmp 13) (.tmp 25) rfl w2.heap.size O.toArray rfl rfl 82 _ (row_new w2 82 _) (by rw [Tryz.info8d, List.size_toArray, hOl']) (by simp [hOl']) (all_oneCell hO1) ?_)
  generalize (w2.alloc (.cells #[.int .u8 0, .int .u8 0, .int .u8 0, .int .u8 0, .int .u8 0, .int .u8 0, .int .u8 0, .int .u8 0] 82)).setRow w2.heap.size O.toArray = w3 at R3 T3 hko ⊢
  generalize w2.heap.size = g3 at R3 ⊢
  refine Calls.mono hko ?_
  rintro e w3' ⟨rfl, rfl⟩
  clear T2 hko
  go_wp2_with fail
  go_ret2
  exact ⟨rfl, T3.out⟩
set_option maxHeartbeats 2000000 in
theorem open_none (va ka : Option Addr) (vc kc rn nn : Nat) (ks : List KE) (now KD KO EE SQ : Int) (O : List Value) (w : World) (hK : KD = KO) (h1 : ¬ KD = 1) (h2 : ¬ KD = 2) (hOl' : O.length = 8) (hO1 : ∀ v ∈ O, v.oneCell' = true)
    (HCK : Calls Tryz.prog 20 #[.slice ka ks.length kc] w fun e w' => e = .returned (.tuple #[.int .i64 0, .int .i64 0]) ∧ Touch (fun _ => False) w w')
    (HSD : Hid (∀ w', Touch (fun _ => False) w w' → Calls Tryz.prog 53 #[.slice va rn vc] w' fun e w'' => e = .returned (.tuple #[.int .u16 KD, .agg O.toArray]) ∧ Touch (fun _ => False) w' w''))
    (HKO : Hid (∀ w', Touch (fun _ => False) w w' → Calls Tryz.prog 77 #[.slice ka ks.length kc] w' fun e w'' => e = .returned (.int .u16 KO) ∧ w' = w''))
    (HWH : Hid (∀ w', Touch (fun _ => False) w w' → Calls Tryz.prog 81 #[.slice va rn vc, .int .i64 nn] w' fun e w'' => e = .returned (.int .i64 EE) ∧ Touch (fun _ => False) w' w'')) :
    Calls Tryz.prog 52 #[.slice va rn vc, .int .i64 nn, .slice ka ks.length kc, .int .i64 now] w fun e w' => e = .returned (.tuple #[.int .u32 0, .int .i64 EE]) ∧ Touch (fun _ => False) w w' := by
  subst hK
  go_enter Tryz.func52, Tryz.ntmps52
  go_wp2_with fail
  refine Calls.mono HCK ?_
  rintro e w1 ⟨rfl, t1⟩
  have T1 : Hid (Touch (fun _ => False) w w1) := t1
  clear t1
  go_wp2_with fail
  refine Calls.mono (HSD.out w1 T1.out) ?_
  rintro e w2 ⟨rfl, t2⟩
  have T2 : Hid (Touch (fun _ => False) w w2) := T1.out.trans t2
  clear t2 T1
  have R3 := (row_new w2 82 #[.int .u8 0, .int .u8 0, .int .u8 0, .int .u8 0, .int .u8 0, .int .u8 0, .int .u8 0, .int .u8 0]).setRow O.toArray
  have T3 : Hid (Touch (fun _ => False) w ((w2.alloc (.cells #[.int .u8 0, .int .u8 0, .int .u8 0, .int .u8 0, .int .u8 0, .int .u8 0, .int .u8 0, .int .u8 0] 82)).setRow w2.heap.size O.toArray)) := Touch.setRow (T2.out.alloc _) (Or.inr T2.out.size) _
  rw [List.toList_toArray] at R3
  have hko := HKO.out _ T3.out
  go_wp2_with (refine wpList_store_row rfl 82 (.tmp 13) (.tmp 25) rfl w2.heap.size O.toArray rfl rfl 82 _ (row_new w2 82 _) (by rw [Tryz.info8d, List.size_toArray, hOl']) (by simp [hOl']) (all_oneCell hO1) ?_)
  generalize (w2.alloc (.cells #[.int .u8 0, .int .u8 0, .int .u8 0, .int .u8 0, .int .u8 0, .int .u8 0, .int .u8 0, .int .u8 0] 82)).setRow w2.heap.size O.toArray = w3 at R3 T3 hko ⊢
  generalize w2.heap.size = g3 at R3 ⊢
  refine Calls.mono hko ?_
  rintro e w3' ⟨rfl, rfl⟩
  clear T2 hko
  go_wp2_with fail
  refine Calls.mono (HWH.out w3 T3.out) ?_
  rintro e w4 ⟨rfl, t4⟩
  have T4 : Hid (Touch (fun _ => False) w w4) := T3.out.trans t4
  go_wp2_with fail
  go_ret2
  exact ⟨rfl, T4.out⟩
set_option maxHeartbeats 2000000 in
theorem open_plain (va ka : Option Addr) (vc kc rn nn : Nat) (ks : List KE) (now KD KO EE SQ : Int) (O : List Value) (w : World) (hK : KD = 1) (hK2 : KO = 1) (hOl' : O.length = 8) (hO1 : ∀ v ∈ O, v.oneCell' = true)
    (HCK : Calls Tryz.prog 20 #[.slice ka ks.length kc] w fun e w' => e = .returned (.tuple #[.int .i64 0, .int .i64 0]) ∧ Touch (fun _ => False) w w')
    (HSD : Hid (∀ w', Touch (fun _ => False) w w' → Calls Tryz.prog 53 #[.slice va rn vc] w' fun e w'' => e = .returned (.tuple #[.int .u16 KD, .agg O.toArray]) ∧ Touch (fun _ => False) w' w''))
    (HKO : Hid (∀ w', Touch (fun _ => False) w w' → Calls Tryz.prog 77 #[.slice ka ks.length kc] w' fun e w'' => e = .returned (.int .u16 KO) ∧ w' = w''))
    (HOP : Hid (∀ w' b0 b1 b2, Touch (fun _ => False) w w' → w'.cell? ⟨b0, 0, none⟩ = some (.slice ka ks.length kc) → w'.cell? ⟨b1, 0, none⟩ = some (.func (.func 79) #[] #[]) → w'.cell? ⟨b2, 0, none⟩ = some (.int .i64 now) → Calls Tryz.prog 78 #[.slice va rn vc, .int .i64 nn, .agg O.toArray, .func (.func 87) #[] #[.pointer (some ⟨b0, 0, none⟩), .pointer (some ⟨b1, 0, none⟩), .pointer (some ⟨b2, 0, none⟩)]] w' fun e w'' => e = .returned (.int .i64 EE) ∧ Touch (fun _ => False) w' w'')) :
    Calls Tryz.prog 52 #[.slice va rn vc, .int .i64 nn, .slice ka ks.length kc, .int .i64 now] w fun e w' => e = .returned (.tuple #[.int .u32 0, .int .i64 EE]) ∧ Touch (fun _ => False) w w' := by
  subst hK hK2
  go_enter Tryz.func52, Tryz.ntmps52
  go_wp2_with fail
  refine Calls.mono HCK ?_
  rintro e w1 ⟨rfl, t1⟩
  have T1 : Hid (Touch (fun _ => False) w w1) := t1
  clear t1
  go_wp2_with fail
  refine Calls.mono (HSD.out w1 T1.out) ?_
  rintro e w2 ⟨rfl, t2⟩
  have T2 : Hid (Touch (fun _ => False) w w2) := T1.out.trans t2
  clear t2 T1
  have R3 := (row_new w2 82 #[.int .u8 0, .int .u8 0, .int .u8 0, .int .u8 0, .int .u8 0, .int .u8 0, .int .u8 0, .int .u8 0]).setRow O.toArray
  have T3 : Hid (Touch (fun _ => False) w ((w2.alloc (.cells #[.int .u8 0, .int .u8 0, .int .u8 0, .int .u8 0, .int .u8 0, .int .u8 0, .int .u8 0, .int .u8 0] 82)).setRow w2.heap.size O.toArray)) := Touch.setRow (T2.out.alloc _) (Or.inr T2.out.size) _
  rw [List.toList_toArray] at R3
  have hko := HKO.out _ T3.out
  go_wp2_with (refine wpList_store_row rfl 82 (.tmp 13) (.tmp 25) rfl w2.heap.size O.toArray rfl rfl 82 _ (row_new w2 82 _) (by rw [Tryz.info8d, List.size_toArray, hOl']) (by simp [hOl']) (all_oneCell hO1) ?_)
  generalize (w2.alloc (.cells #[.int .u8 0, .int .u8 0, .int .u8 0, .int .u8 0, .int .u8 0, .int .u8 0, .int .u8 0, .int .u8 0] 82)).setRow w2.heap.size O.toArray = w3 at R3 T3 hko ⊢
  generalize w2.heap.size = g3 at R3 ⊢
  refine Calls.mono hko ?_
  rintro e w3' ⟨rfl, rfl⟩
  clear T2 hko
  go_upto_region 9 with fail
  have R4 : Row w3.drew g3 82 O := R3.keep ((Touch.refl _ _).drew)
  have T4 : Hid (Touch (fun _ => False) w w3.drew) := T3.out.trans ((Touch.refl _ _).drew)
  refine wp_region_held_drew (S := fun w' => Row w' g3 82 O) (by kernel_rfl) R3 (fun hHeld => ?_)
  refine wpAnyH_take (i := 0) (oi := ⟨some 33, _, _, _, _, _⟩) (v := .slice va rn vc) rfl (by kernel_rfl) (by kernel_rfl) (by kernel_rfl) (fun _ _ _ h => h) (Or.inl ⟨by rfl, fun w hw => by go_simp⟩) (by assumption) ?_
  simp only [Act.put, List.setIfInBounds_toArray, List.set_cons_zero, List.set_cons_succ]
  refine wpAnyH_take (i := 1) (oi := ⟨some 34, _, _, _, _, _⟩) (v := .int .i64 nn) rfl (by kernel_rfl) (by kernel_rfl) (by kernel_rfl) (fun _ _ _ h => h) (Or.inl ⟨by rfl, fun w hw => by go_simp⟩) (by assumption) ?_
  simp only [Act.put, List.setIfInBounds_toArray, List.set_cons_zero, List.set_cons_succ]
  refine wpAnyH_take (i := 2) (oi := ⟨some 35, _, _, _, _, _⟩) (v := .agg O.toArray) rfl (by kernel_rfl) (by kernel_rfl) (by kernel_rfl) (fun _ _ _ h => h) (yieldsIf_load_mid (by rfl) _ _ rfl _ _ rfl O _ (fun w h => au_range h) Tryz.underlying82 rfl (by rw [Tryz.info8d, hOl'])) (by assumption) ?_
  simp only [Act.put, List.setIfInBounds_toArray, List.set_cons_zero, List.set_cons_succ]
  refine wpAnyH_take (i := 3) (oi := ⟨some 36, _, _, _, _, _⟩) (v := .slice ka ks.length kc) rfl (by kernel_rfl) (by kernel_rfl) (by kernel_rfl) (fun _ _ _ h => h) (Or.inl ⟨by rfl, fun w hw => by go_simp⟩) (by assumption) ?_
  simp only [Act.put, List.setIfInBounds_toArray, List.set_cons_zero, List.set_cons_succ]
  refine wpAnyH_take (i := 4) (oi := ⟨some 37, _, _, _, _, _⟩) (v := .int .i64 now) rfl (by kernel_rfl) (by kernel_rfl) (by kernel_rfl) (fun _ _ _ h => h) (Or.inl ⟨by rfl, fun w hw => by go_simp⟩) (by assumption) ?_
  simp only [Act.put, List.setIfInBounds_toArray, List.set_cons_zero, List.set_cons_succ]
  refine wpAnyH_ready (rs := [5]) (by kernel_rfl) (by simp) ?_
  refine AllReadyH.cons rfl (fun K hK => ?_) AllReadyH.nil
  go_simp
  refine Calls.mono (during_any w3.drew ka ks.length kc now 79) ?_
  rintro e w5 ⟨b0, b1, b2, rfl, dd⟩
  have R5 := R4.keep dd.t
  have T5 : Hid (Touch (fun _ => False) w w5) := T4.out.trans dd.t
  have hop := HOP.out w5 b0 b1 b2 T5.out dd.c0 dd.c1 dd.c2
  clear T4 R4
  refine hK.out _ _ R5 (fun hHeld => ?_)
  clear hK K
  refine wpAnyH_ready (rs := [6]) (by kernel_rfl) (by simp) ?_
  refine AllReadyH.cons rfl (fun K hK => ?_) AllReadyH.nil
  go_simp
  refine Calls.mono hop ?_
  rintro e w6 ⟨rfl, t6⟩
  have R6 := R5.keep t6
  have T6 : Hid (Touch (fun _ => False) w w6) := T5.out.trans t6
  clear T5 R5 dd t6 hop
  refine hK.out _ _ R6 (fun hHeld => ?_)
  clear hK K
  refine wpAnyH_take (i := 7) (oi := ⟨some 8, _, _, _, _, _⟩) (v := .int .u32 0) rfl (by kernel_rfl) (by kernel_rfl) (by kernel_rfl) (fun _ _ _ h => h) (Or.inl ⟨by rfl, fun w hw => by go_simp⟩) (by assumption) ?_
  simp only [Act.put, List.setIfInBounds_toArray, List.set_cons_zero, List.set_cons_succ]
  refine wpAnyH_take (i := 8) (oi := ⟨some 9, _, _, _, _, _⟩) (v := .int .i64 EE) rfl (by kernel_rfl) (by kernel_rfl) (by kernel_rfl) (fun _ _ _ h => h) (Or.inl ⟨by rfl, fun w hw => by go_simp⟩) (by assumption) ?_
  simp only [Act.put, List.setIfInBounds_toArray, List.set_cons_zero, List.set_cons_succ]
  refine wpAnyH_done (by kernel_rfl) ?_ _
  go_wp2_with fail
  go_ret2
  exact ⟨rfl, T6.out⟩
set_option maxHeartbeats 2000000 in
theorem open_digest (va ka : Option Addr) (vc kc rn nn : Nat) (ks : List KE) (now KD KO EE SQ : Int) (O : List Value) (w : World) (hK : KD = 2) (hK2 : KO = 2) (hOl' : O.length = 8) (hO1 : ∀ v ∈ O, v.oneCell' = true)
    (HCK : Calls Tryz.prog 20 #[.slice ka ks.length kc] w fun e w' => e = .returned (.tuple #[.int .i64 0, .int .i64 0]) ∧ Touch (fun _ => False) w w')
    (HSD : Hid (∀ w', Touch (fun _ => False) w w' → Calls Tryz.prog 53 #[.slice va rn vc] w' fun e w'' => e = .returned (.tuple #[.int .u16 KD, .agg O.toArray]) ∧ Touch (fun _ => False) w' w''))
    (HKO : Hid (∀ w', Touch (fun _ => False) w w' → Calls Tryz.prog 77 #[.slice ka ks.length kc] w' fun e w'' => e = .returned (.int .u16 KO) ∧ w' = w''))
    (HOD : Hid (∀ w' b0 b1 b2, Touch (fun _ => False) w w' → w'.cell? ⟨b0, 0, none⟩ = some (.slice ka ks.length kc) → w'.cell? ⟨b1, 0, none⟩ = some (.func (.func 79) #[] #[]) → w'.cell? ⟨b2, 0, none⟩ = some (.int .i64 now) → Calls Tryz.prog 80 #[.slice va rn vc, .int .i64 nn, .agg O.toArray, .func (.func 87) #[] #[.pointer (some ⟨b0, 0, none⟩), .pointer (some ⟨b1, 0, none⟩), .pointer (some ⟨b2, 0, none⟩)]] w' fun e w'' => e = .returned (.tuple #[.int .u32 SQ, .int .i64 EE]) ∧ Touch (fun _ => False) w' w'')) :
    Calls Tryz.prog 52 #[.slice va rn vc, .int .i64 nn, .slice ka ks.length kc, .int .i64 now] w fun e w' => e = .returned (.tuple #[.int .u32 SQ, .int .i64 EE]) ∧ Touch (fun _ => False) w w' := by
  subst hK hK2
  go_enter Tryz.func52, Tryz.ntmps52
  go_wp2_with fail
  refine Calls.mono HCK ?_
  rintro e w1 ⟨rfl, t1⟩
  have T1 : Hid (Touch (fun _ => False) w w1) := t1
  clear t1
  go_wp2_with fail
  refine Calls.mono (HSD.out w1 T1.out) ?_
  rintro e w2 ⟨rfl, t2⟩
  have T2 : Hid (Touch (fun _ => False) w w2) := T1.out.trans t2
  clear t2 T1
  have R3 := (row_new w2 82 #[.int .u8 0, .int .u8 0, .int .u8 0, .int .u8 0, .int .u8 0, .int .u8 0, .int .u8 0, .int .u8 0]).setRow O.toArray
  have T3 : Hid (Touch (fun _ => False) w ((w2.alloc (.cells #[.int .u8 0, .int .u8 0, .int .u8 0, .int .u8 0, .int .u8 0, .int .u8 0, .int .u8 0, .int .u8 0] 82)).setRow w2.heap.size O.toArray)) := Touch.setRow (T2.out.alloc _) (Or.inr T2.out.size) _
  rw [List.toList_toArray] at R3
  have hko := HKO.out _ T3.out
  go_wp2_with (refine wpList_store_row rfl 82 (.tmp 13) (.tmp 25) rfl w2.heap.size O.toArray rfl rfl 82 _ (row_new w2 82 _) (by rw [Tryz.info8d, List.size_toArray, hOl']) (by simp [hOl']) (all_oneCell hO1) ?_)
  generalize (w2.alloc (.cells #[.int .u8 0, .int .u8 0, .int .u8 0, .int .u8 0, .int .u8 0, .int .u8 0, .int .u8 0, .int .u8 0] 82)).setRow w2.heap.size O.toArray = w3 at R3 T3 hko ⊢
  generalize w2.heap.size = g3 at R3 ⊢
  refine Calls.mono hko ?_
  rintro e w3' ⟨rfl, rfl⟩
  clear T2 hko
  go_upto_region 11 with fail
  have R4 : Row w3.drew g3 82 O := R3.keep ((Touch.refl _ _).drew)
  have T4 : Hid (Touch (fun _ => False) w w3.drew) := T3.out.trans ((Touch.refl _ _).drew)
  refine wp_region_held_drew (S := fun w' => Row w' g3 82 O) (by kernel_rfl) R3 (fun hHeld => ?_)
  refine wpAnyH_take (i := 0) (oi := ⟨some 42, _, _, _, _, _⟩) (v := .slice va rn vc) rfl (by kernel_rfl) (by kernel_rfl) (by kernel_rfl) (fun _ _ _ h => h) (Or.inl ⟨by rfl, fun w hw => by go_simp⟩) (by assumption) ?_
  simp only [Act.put, List.setIfInBounds_toArray, List.set_cons_zero, List.set_cons_succ]
  refine wpAnyH_take (i := 1) (oi := ⟨some 43, _, _, _, _, _⟩) (v := .int .i64 nn) rfl (by kernel_rfl) (by kernel_rfl) (by kernel_rfl) (fun _ _ _ h => h) (Or.inl ⟨by rfl, fun w hw => by go_simp⟩) (by assumption) ?_
  simp only [Act.put, List.setIfInBounds_toArray, List.set_cons_zero, List.set_cons_succ]
  refine wpAnyH_take (i := 2) (oi := ⟨some 44, _, _, _, _, _⟩) (v := .agg O.toArray) rfl (by kernel_rfl) (by kernel_rfl) (by kernel_rfl) (fun _ _ _ h => h) (yieldsIf_load_mid (by rfl) _ _ rfl _ _ rfl O _ (fun w h => au_range h) Tryz.underlying82 rfl (by rw [Tryz.info8d, hOl'])) (by assumption) ?_
  simp only [Act.put, List.setIfInBounds_toArray, List.set_cons_zero, List.set_cons_succ]
  refine wpAnyH_take (i := 3) (oi := ⟨some 45, _, _, _, _, _⟩) (v := .slice ka ks.length kc) rfl (by kernel_rfl) (by kernel_rfl) (by kernel_rfl) (fun _ _ _ h => h) (Or.inl ⟨by rfl, fun w hw => by go_simp⟩) (by assumption) ?_
  simp only [Act.put, List.setIfInBounds_toArray, List.set_cons_zero, List.set_cons_succ]
  refine wpAnyH_take (i := 4) (oi := ⟨some 46, _, _, _, _, _⟩) (v := .int .i64 now) rfl (by kernel_rfl) (by kernel_rfl) (by kernel_rfl) (fun _ _ _ h => h) (Or.inl ⟨by rfl, fun w hw => by go_simp⟩) (by assumption) ?_
  simp only [Act.put, List.setIfInBounds_toArray, List.set_cons_zero, List.set_cons_succ]
  refine wpAnyH_ready (rs := [5]) (by kernel_rfl) (by simp) ?_
  refine AllReadyH.cons rfl (fun K hK => ?_) AllReadyH.nil
  go_simp
  refine Calls.mono (during_any w3.drew ka ks.length kc now 79) ?_
  rintro e w5 ⟨b0, b1, b2, rfl, dd⟩
  have R5 := R4.keep dd.t
  have T5 : Hid (Touch (fun _ => False) w w5) := T4.out.trans dd.t
  have hop := HOD.out w5 b0 b1 b2 T5.out dd.c0 dd.c1 dd.c2
  clear T4 R4
  refine hK.out _ _ R5 (fun hHeld => ?_)
  clear hK K
  refine wpAnyH_ready (rs := [6]) (by kernel_rfl) (by simp) ?_
  refine AllReadyH.cons rfl (fun K hK => ?_) AllReadyH.nil
  go_simp
  refine Calls.mono hop ?_
  rintro e w6 ⟨rfl, t6⟩
  have R6 := R5.keep t6
  have T6 : Hid (Touch (fun _ => False) w w6) := T5.out.trans t6
  clear T5 R5 dd t6 hop
  refine hK.out _ _ R6 (fun hHeld => ?_)
  clear hK K
  refine wpAnyH_take (i := 7) (oi := ⟨some 49, _, _, _, _, _⟩) (v := .int .u32 SQ) rfl (by kernel_rfl) (by kernel_rfl) (by kernel_rfl) (fun _ _ _ h => h) (Or.inl ⟨by rfl, fun w hw => by go_simp⟩) (by assumption) ?_
  simp only [Act.put, List.setIfInBounds_toArray, List.set_cons_zero, List.set_cons_succ]
  refine wpAnyH_take (i := 8) (oi := ⟨some 50, _, _, _, _, _⟩) (v := .int .i64 EE) rfl (by kernel_rfl) (by kernel_rfl) (by kernel_rfl) (fun _ _ _ h => h) (Or.inl ⟨by rfl, fun w hw => by go_simp⟩) (by assumption) ?_
  simp only [Act.put, List.setIfInBounds_toArray, List.set_cons_zero, List.set_cons_succ]
  refine wpAnyH_take (i := 9) (oi := ⟨some 8, _, _, _, _, _⟩) (v := .int .u32 SQ) rfl (by kernel_rfl) (by kernel_rfl) (by kernel_rfl) (fun _ _ _ h => h) (Or.inl ⟨by rfl, fun w hw => by go_simp⟩) (by assumption) ?_
  simp only [Act.put, List.setIfInBounds_toArray, List.set_cons_zero, List.set_cons_succ]
  refine wpAnyH_take (i := 10) (oi := ⟨some 9, _, _, _, _, _⟩) (v := .int .i64 EE) rfl (by kernel_rfl) (by kernel_rfl) (by kernel_rfl) (fun _ _ _ h => h) (Or.inl ⟨by rfl, fun w hw => by go_simp⟩) (by assumption) ?_
  simp only [Act.put, List.setIfInBounds_toArray, List.set_cons_zero, List.set_cons_succ]
  refine wpAnyH_done (by kernel_rfl) ?_ _
  go_wp2_with fail
  go_ret2
  exact ⟨rfl, T6.out⟩
end Go.Proofs.YtjjgbcjgmjggnaaGreatDoor
