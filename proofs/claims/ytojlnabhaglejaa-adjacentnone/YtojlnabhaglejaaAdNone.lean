
/- The walk of AdjacentNone. -/
import Derived.Test.YtojlnabhaglejaaAdWorks
namespace Go.Proofs.Ytojlnabhaglejaa
open Go.RowKit
set_option linter.unusedVariables false
set_option maxRecDepth 100000

set_option maxHeartbeats 8000000 in
theorem none14_any (x : HV) (w : World) : Calls Try.prog 5 #[.agg #[.int .u16 x.age, .int .u8 x.opts, .int .u8 x.typ, .int .u32 x.id, .int .u32 x.adv, .int .i32 x.seq, .int .u16 x.sum, .int .u16 x.len]] w fun e w' => e = .returned (.bool true) ∧ Touch (fun _ => False) w w' := by
  obtain ⟨w0, hw0⟩ : ∃ w0, w0 = (w.alloc (.cells #[.int .u16 x.age, .int .u8 x.opts, .int .u8 x.typ, .int .u32 x.id, .int .u32 x.adv, .int .i32 x.seq, .int .u16 x.sum, .int .u16 x.len] 50)).alloc (.cells #[.int .u32 0, .int .u32 0, .int .u16 0, .int .u8 0, .int .u16 0, .int .u32 0, .int .u16 0, .int .u32 0, .int .u16 0, .int .u8 0, .int .u8 0, .int .u32 0, .slice none 0 0, .int .u16 0, .int .u8 0, .bool false, .slice none 0 0, .int .u8 0, .int .u8 0, .int .u32 0, .map none, .slice none 0 0, .int .i64 0] 70) := ⟨_, rfl⟩
  have t0 : Touch (fun _ => False) w w0 := by rw [hw0]; exact ((Touch.refl _ _).alloc _).alloc _
  have rh : Row w0 w.heap.size 50 [.int .u16 x.age, .int .u8 x.opts, .int .u8 x.typ, .int .u32 x.id, .int .u32 x.adv, .int .i32 x.seq, .int .u16 x.sum, .int .u16 x.len] := by rw [hw0]; exact (row_new w 50 #[.int .u16 x.age, .int .u8 x.opts, .int .u8 x.typ, .int .u32 x.id, .int .u32 x.adv, .int .i32 x.seq, .int .u16 x.sum, .int .u16 x.len]).keep ((Touch.refl _ _).alloc _)
  have ra : Row w0 (w.heap.size + 1) 70 [.int .u32 0, .int .u32 0, .int .u16 0, .int .u8 0, .int .u16 0, .int .u32 0, .int .u16 0, .int .u32 0, .int .u16 0, .int .u8 0, .int .u8 0, .int .u32 0, .slice none 0 0, .int .u16 0, .int .u8 0, .bool false, .slice none 0 0, .int .u8 0, .int .u8 0, .int .u32 0, .map none, .slice none 0 0, .int .i64 0] := by
    have := row_new (w.alloc (.cells #[.int .u16 x.age, .int .u8 x.opts, .int .u8 x.typ, .int .u32 x.id, .int .u32 x.adv, .int .i32 x.seq, .int .u16 x.sum, .int .u16 x.len] 50)) 70 #[.int .u32 0, .int .u32 0, .int .u16 0, .int .u8 0, .int .u16 0, .int .u32 0, .int .u16 0, .int .u32 0, .int .u16 0, .int .u8 0, .int .u8 0, .int .u32 0, .slice none 0 0, .int .u16 0, .int .u8 0, .bool false, .slice none 0 0, .int .u8 0, .int .u8 0, .int .u32 0, .map none, .slice none 0 0, .int .i64 0]
    rw [← hw0] at this
    simpa using this
  have hno : ∀ w', Touch (fun _ => False) w0 w' → NoAd (.pointer (some ⟨w.heap.size + 1, 0, none⟩)) w' := fun w' t => Or.inr ⟨_, rfl, t.cellN (ra.cell 0)⟩
  have hnil : ∀ w', NoAd (.pointer none) w' := fun w' => Or.inl rfl
  have HH : Hid (∀ w', Touch (fun _ => False) w0 w' → Row w' w.heap.size 50 [.int .u16 x.age, .int .u8 x.opts, .int .u8 x.typ, .int .u32 x.id, .int .u32 x.adv, .int .i32 x.seq, .int .u16 x.sum, .int .u16 x.len]) := fun w' t => rh.keep t
  have HNO : Hid (∀ w', Touch (fun _ => False) w0 w' → NoAd (.pointer (some ⟨w.heap.size + 1, 0, none⟩)) w') := hno
  have HT0 : Hid (Touch (fun _ => False) w w0) := t0
  clear rh ra hno t0
  go_enter Try.func5, Try.ntmps5
  go_upto_region 3 with fail
  rw [← hw0]
  clear hw0
  generalize w.heap.size + 1 = g0 at *
  generalize w.heap.size = gh at *
  have T0 : Touch (fun _ => False) w0 w0 := Touch.refl _ _
  go_wp2_with fail
  refine Calls.mono (describe_no _ (.int .u16 0) (.int .u8 0) (.int .u8 0) (.int .u32 0) (.slice none 0 0) (.slice none 0 0) w0 (hnil _)) ?_
  rintro e w1 ⟨rfl, t1⟩
  have T1 : Touch (fun _ => False) w0 w1 := T0.trans t1
  clear t1
  have q0 : w1.cell? ⟨gh, 0, none⟩ = some (.int .u16 x.age) := (HH.out _ T1).cell 0
  have q1 : w1.cell? ⟨gh, 1, none⟩ = some (.int .u8 x.opts) := (HH.out _ T1).cell 1
  have q2 : w1.cell? ⟨gh, 2, none⟩ = some (.int .u8 x.typ) := (HH.out _ T1).cell 2
  have q3 : w1.cell? ⟨gh, 3, none⟩ = some (.int .u32 x.id) := (HH.out _ T1).cell 3
  have q4 : w1.cell? ⟨gh, 4, none⟩ = some (.int .u32 x.adv) := (HH.out _ T1).cell 4
  have q5 : w1.cell? ⟨gh, 5, none⟩ = some (.int .i32 x.seq) := (HH.out _ T1).cell 5
  have q6 : w1.cell? ⟨gh, 6, none⟩ = some (.int .u16 x.sum) := (HH.out _ T1).cell 6
  have q7 : w1.cell? ⟨gh, 7, none⟩ = some (.int .u16 x.len) := (HH.out _ T1).cell 7
  have hq := (HH.out _ T1).lt
  go_upto_region 4 with fail
  go_wp2_with fail
  have tb : Touch (fun _ => False) w0 (w1.alloc (.cells #[.int .u16 x.age, .int .u8 x.opts, .int .u8 x.typ, .int .u32 x.id, .int .u32 x.adv, .int .i32 x.seq, .int .u16 x.sum, .int .u16 x.len] 50)) := T1.alloc _
  refine Calls.mono (describe_no _ (.int .u16 0) (.int .u8 0) (.int .u8 7) (.int .u32 0) (.slice none 0 0) _ _ (HNO.out _ tb)) ?_
  rintro e w2 ⟨rfl, t2⟩
  have T2 : Touch (fun _ => False) w0 w2 := tb.trans t2
  clear tb t2
  clear q0 q1 q2 q3 q4 q5 q6 q7 hq
  go_wp2_with fail
  refine Calls.mono (asked_no _ _ _ w2 (HNO.out _ T2)) ?_
  rintro e w3 ⟨rfl, t3⟩
  have T3 : Touch (fun _ => False) w0 w3 := T2.trans t3
  clear t3
  have Hgot0 : Hid (∀ w', SnX w3 w' → Calls Try.prog 20 #[.pointer none, .agg #[.int .u16 x.age, .int .u8 x.opts, .int .u8 x.typ, .int .u32 x.id, .int .u32 x.adv, .int .i32 x.seq, .int .u16 x.sum, .int .u16 x.len]] w' fun e w'' => e = .returned (.slice none 0 0) ∧ Touch (fun _ => False) w' w'') := fun w' sx => got_no _ (.int .u16 x.age) (.int .u8 x.opts) (.int .u8 x.typ) (.int .u32 x.id) (.int .u32 x.adv) (.int .i32 x.seq) (.int .u16 x.sum) (.int .u16 x.len) w' (hnil _)
  have Hgot1 : Hid (∀ w', SnX w3 w' → Calls Try.prog 20 #[.pointer (some ⟨g0, 0, none⟩), .agg #[.int .u16 x.age, .int .u8 x.opts, .int .u8 x.typ, .int .u32 x.id, .int .u32 x.adv, .int .i32 x.seq, .int .u16 x.sum, .int .u16 x.len]] w' fun e w'' => e = .returned (.slice none 0 0) ∧ Touch (fun _ => False) w' w'') := fun w' sx => got_no _ (.int .u16 x.age) (.int .u8 x.opts) (.int .u8 x.typ) (.int .u32 x.id) (.int .u32 x.adv) (.int .i32 x.seq) (.int .u16 x.sum) (.int .u16 x.len) w' (HNO.out _ (T3.trans sx.t))
  have Hanew0 : Hid (∀ w', SnX w3 w' → Calls Try.prog 21 #[.pointer none] w' fun e w'' => e = .returned (.slice none 0 0) ∧ Touch (fun _ => False) w' w'') := fun w' sx => anew_no _ w' (hnil _)
  have Hanew1 : Hid (∀ w', SnX w3 w' → Calls Try.prog 21 #[.pointer (some ⟨g0, 0, none⟩)] w' fun e w'' => e = .returned (.slice none 0 0) ∧ Touch (fun _ => False) w' w'') := fun w' sx => anew_no _ w' (HNO.out _ (T3.trans sx.t))
  have Htick0 : Hid (∀ w', SnX w3 w' → Calls Try.prog 10 #[.pointer none] w' fun e w'' => e = .returned (.slice none 0 0) ∧ Touch (fun _ => False) w' w'') := fun w' sx => tick_no _ w' (hnil _)
  have Htick1 : Hid (∀ w', SnX w3 w' → Calls Try.prog 10 #[.pointer (some ⟨g0, 0, none⟩)] w' fun e w'' => e = .returned (.slice none 0 0) ∧ Touch (fun _ => False) w' w'') := fun w' sx => tick_no _ w' (HNO.out _ (T3.trans sx.t))
  have Hstate0 : Hid (∀ w', SnX w3 w' → Calls Try.prog 11 #[.pointer none] w' fun e w'' => e = .returned (.int .u8 0) ∧ Touch (fun _ => False) w' w'') := fun w' sx => state_no _ w' (hnil _)
  have Hstate1 : Hid (∀ w', SnX w3 w' → Calls Try.prog 11 #[.pointer (some ⟨g0, 0, none⟩)] w' fun e w'' => e = .returned (.int .u8 0) ∧ Touch (fun _ => False) w' w'') := fun w' sx => state_no _ w' (HNO.out _ (T3.trans sx.t))
  have Hmaster0 : Hid (∀ w', SnX w3 w' → Calls Try.prog 12 #[.pointer none] w' fun e w'' => e = .returned (.bool false) ∧ Touch (fun _ => False) w' w'') := fun w' sx => master_no _ w' (hnil _)
  have Hmaster1 : Hid (∀ w', SnX w3 w' → Calls Try.prog 12 #[.pointer (some ⟨g0, 0, none⟩)] w' fun e w'' => e = .returned (.bool false) ∧ Touch (fun _ => False) w' w'') := fun w' sx => master_no _ w' (HNO.out _ (T3.trans sx.t))
  have Hwants0 : Hid (∀ w', SnX w3 w' → Calls Try.prog 22 #[.pointer none] w' fun e w'' => e = .returned (.slice none 0 0) ∧ Touch (fun _ => False) w' w'') := fun w' sx => wants_no _ w' (hnil _)
  have Hwants1 : Hid (∀ w', SnX w3 w' → Calls Try.prog 22 #[.pointer (some ⟨g0, 0, none⟩)] w' fun e w'' => e = .returned (.slice none 0 0) ∧ Touch (fun _ => False) w' w'') := fun w' sx => wants_no _ w' (HNO.out _ (T3.trans sx.t))
  have Hopts0 : Hid (∀ w', SnX w3 w' → Calls Try.prog 23 #[.pointer none] w' fun e w'' => e = .returned (.int .u8 0) ∧ Touch (fun _ => False) w' w'') := fun w' sx => opts_no _ w' (hnil _)
  have Hopts1 : Hid (∀ w', SnX w3 w' → Calls Try.prog 23 #[.pointer (some ⟨g0, 0, none⟩)] w' fun e w'' => e = .returned (.int .u8 0) ∧ Touch (fun _ => False) w' w'') := fun w' sx => opts_no _ w' (HNO.out _ (T3.trans sx.t))
  have q0 : w3.cell? ⟨gh, 0, none⟩ = some (.int .u16 x.age) := (HH.out _ T3).cell 0
  have q1 : w3.cell? ⟨gh, 1, none⟩ = some (.int .u8 x.opts) := (HH.out _ T3).cell 1
  have q2 : w3.cell? ⟨gh, 2, none⟩ = some (.int .u8 x.typ) := (HH.out _ T3).cell 2
  have q3 : w3.cell? ⟨gh, 3, none⟩ = some (.int .u32 x.id) := (HH.out _ T3).cell 3
  have q4 : w3.cell? ⟨gh, 4, none⟩ = some (.int .u32 x.adv) := (HH.out _ T3).cell 4
  have q5 : w3.cell? ⟨gh, 5, none⟩ = some (.int .i32 x.seq) := (HH.out _ T3).cell 5
  have q6 : w3.cell? ⟨gh, 6, none⟩ = some (.int .u16 x.sum) := (HH.out _ T3).cell 6
  have q7 : w3.cell? ⟨gh, 7, none⟩ = some (.int .u16 x.len) := (HH.out _ T3).cell 7
  have hq := (HH.out _ T3).lt
  have z0 := snX_cell q0
  have z1 := snX_cell q1
  have z2 := snX_cell q2
  have z3 := snX_cell q3
  have z4 := snX_cell q4
  have z5 := snX_cell q5
  have z6 := snX_cell q6
  have z7 := snX_cell q7
  have HTk : Hid (Touch (fun _ => False) w w3) := HT0.out.trans T3
  go_upto_region 6 with fail
  clear q0 q1 q2 q3 q4 q5 q6 q7 hnil HNO HH
  simp only [List.append_eq, List.cons_append, List.nil_append]
  refine wp_region_held_drew (S := fun w' => SnX w3 w') (by kernel_rfl) (SnX.start w3) (fun hHeld => ?_)
  refine wpAnyH_take (i := 0) (oi := ⟨some 34, _, _, _, _, _⟩) (v := .slice none 0 0) rfl (by kernel_rfl) (by kernel_rfl) (by kernel_rfl) (fun _ _ _ h => h) (Or.inl ⟨by rfl, fun w hw => by go_simp⟩) (by assumption) ?_
  simp only [Act.put, List.setIfInBounds_toArray, List.set_cons_zero, List.set_cons_succ]
  refine wpAnyH_take (i := 1) (oi := ⟨some 35, _, _, _, _, _⟩) (v := .int .i64 0) rfl (by kernel_rfl) (by kernel_rfl) (by kernel_rfl) (fun _ _ _ h => h) (Or.inl ⟨by rfl, fun w hw => by go_simp⟩) (by assumption) ?_
  simp only [Act.put, List.setIfInBounds_toArray, List.set_cons_zero, List.set_cons_succ]
  refine wpAnyH_take (i := 2) (oi := ⟨some 36, _, _, _, _, _⟩) (v := .slice none 0 0) rfl (by kernel_rfl) (by kernel_rfl) (by kernel_rfl) (fun _ _ _ h => h) (Or.inl ⟨by rfl, fun w hw => by go_simp⟩) (by assumption) ?_
  simp only [Act.put, List.setIfInBounds_toArray, List.set_cons_zero, List.set_cons_succ]
  refine wpAnyH_take (i := 3) (oi := ⟨some 37, _, _, _, _, _⟩) (v := .int .i64 0) rfl (by kernel_rfl) (by kernel_rfl) (by kernel_rfl) (fun _ _ _ h => h) (Or.inl ⟨by rfl, fun w hw => by go_simp⟩) (by assumption) ?_
  simp only [Act.put, List.setIfInBounds_toArray, List.set_cons_zero, List.set_cons_succ]
  refine wpAnyH_take (i := 4) (oi := ⟨some 38, _, _, _, _, _⟩) (v := .int .i64 0) rfl (by kernel_rfl) (by kernel_rfl) (by kernel_rfl) (fun _ _ _ h => h) (Or.inl ⟨by rfl, fun w hw => by go_simp; rfl⟩) (by assumption) ?_
  simp only [Act.put, List.setIfInBounds_toArray, List.set_cons_zero, List.set_cons_succ]
  refine wpAnyH_take (i := 5) (oi := ⟨some 39, _, _, _, _, _⟩) (v := .slice none 0 0) rfl (by kernel_rfl) (by kernel_rfl) (by kernel_rfl) (fun _ _ _ h => h) (Or.inl ⟨by rfl, fun w hw => by go_simp⟩) (by assumption) ?_
  simp only [Act.put, List.setIfInBounds_toArray, List.set_cons_zero, List.set_cons_succ]
  refine wpAnyH_take (i := 6) (oi := ⟨some 40, _, _, _, _, _⟩) (v := .int .i64 0) rfl (by kernel_rfl) (by kernel_rfl) (by kernel_rfl) (fun _ _ _ h => h) (Or.inl ⟨by rfl, fun w hw => by go_simp⟩) (by assumption) ?_
  simp only [Act.put, List.setIfInBounds_toArray, List.set_cons_zero, List.set_cons_succ]
  refine wpAnyH_take (i := 7) (oi := ⟨some 41, _, _, _, _, _⟩) (v := .int .i64 0) rfl (by kernel_rfl) (by kernel_rfl) (by kernel_rfl) (fun _ _ _ h => h) (Or.inl ⟨by rfl, fun w hw => by go_simp; rfl⟩) (by assumption) ?_
  simp only [Act.put, List.setIfInBounds_toArray, List.set_cons_zero, List.set_cons_succ]
  refine wpAnyH_take (i := 8) (oi := ⟨some 42, _, _, _, _, _⟩) (v := .slice none 0 0) rfl (by kernel_rfl) (by kernel_rfl) (by kernel_rfl) (fun _ _ _ h => h) (Or.inl ⟨by rfl, fun w hw => by go_simp⟩) (by assumption) ?_
  simp only [Act.put, List.setIfInBounds_toArray, List.set_cons_zero, List.set_cons_succ]
  refine wpAnyH_take (i := 9) (oi := ⟨some 43, _, _, _, _, _⟩) (v := .int .i64 0) rfl (by kernel_rfl) (by kernel_rfl) (by kernel_rfl) (fun _ _ _ h => h) (Or.inl ⟨by rfl, fun w hw => by go_simp⟩) (by assumption) ?_
  simp only [Act.put, List.setIfInBounds_toArray, List.set_cons_zero, List.set_cons_succ]
  refine wpAnyH_take (i := 10) (oi := ⟨some 44, _, _, _, _, _⟩) (v := .int .i64 0) rfl (by kernel_rfl) (by kernel_rfl) (by kernel_rfl) (fun _ _ _ h => h) (Or.inl ⟨by rfl, fun w hw => by go_simp; rfl⟩) (by assumption) ?_
  simp only [Act.put, List.setIfInBounds_toArray, List.set_cons_zero, List.set_cons_succ]
  refine wpAnyH_take (i := 11) (oi := ⟨some 45, _, _, _, _, _⟩) (v := .bool true) rfl (by kernel_rfl) (by kernel_rfl) (by kernel_rfl) (fun _ _ _ h => h) (Or.inl ⟨by rfl, fun w hw => by go_simp⟩) (by assumption) ?_
  simp only [Act.put, List.setIfInBounds_toArray, List.set_cons_zero, List.set_cons_succ]
  as_aux_lemma =>
    refine wpAnyH_take (i := 12) (oi := ⟨some 46, _, _, _, _, _⟩) (v := .bool true) rfl (by kernel_rfl) (by kernel_rfl) (by kernel_rfl) (fun _ _ _ h => h) (Or.inl ⟨by rfl, fun w hw => by go_simp⟩) (by assumption) ?_
    simp only [Act.put, List.setIfInBounds_toArray, List.set_cons_zero, List.set_cons_succ]
    refine wpAnyH_take (i := 13) (oi := ⟨some 47, _, _, _, _, _⟩) (v := .int .i64 1) rfl (by kernel_rfl) (by kernel_rfl) (by kernel_rfl) (fun _ _ _ h => h) (Or.inl ⟨by rfl, fun w hw => by go_simp⟩) (by assumption) ?_
    simp only [Act.put, List.setIfInBounds_toArray, List.set_cons_zero, List.set_cons_succ]
    refine wpAnyH_take (i := 14) (oi := ⟨some 48, _, _, _, _, _⟩) (v := .bool true) rfl (by kernel_rfl) (by kernel_rfl) (by kernel_rfl) (fun _ _ _ h => h) (Or.inl ⟨by rfl, fun w hw => by go_simp⟩) (by assumption) ?_
    simp only [Act.put, List.setIfInBounds_toArray, List.set_cons_zero, List.set_cons_succ]
    refine wpAnyH_take (i := 15) (oi := ⟨some 49, _, _, _, _, _⟩) (v := .bool true) rfl (by kernel_rfl) (by kernel_rfl) (by kernel_rfl) (fun _ _ _ h => h) (Or.inl ⟨by rfl, fun w hw => by go_simp⟩) (by assumption) ?_
    simp only [Act.put, List.setIfInBounds_toArray, List.set_cons_zero, List.set_cons_succ]
    refine wpAnyH_take (i := 16) (oi := ⟨some 50, _, _, _, _, _⟩) (v := .bool true) rfl (by kernel_rfl) (by kernel_rfl) (by kernel_rfl) (fun _ _ _ h => h) (Or.inl ⟨by rfl, fun w hw => by go_simp⟩) (by assumption) ?_
    simp only [Act.put, List.setIfInBounds_toArray, List.set_cons_zero, List.set_cons_succ]
    refine wpAnyH_take (i := 17) (oi := ⟨some 51, _, _, _, _, _⟩) (v := .int .i64 1) rfl (by kernel_rfl) (by kernel_rfl) (by kernel_rfl) (fun _ _ _ h => h) (Or.inl ⟨by rfl, fun w hw => by go_simp⟩) (by assumption) ?_
    simp only [Act.put, List.setIfInBounds_toArray, List.set_cons_zero, List.set_cons_succ]
    refine wpAnyH_take (i := 18) (oi := ⟨some 52, _, _, _, _, _⟩) (v := .bool true) rfl (by kernel_rfl) (by kernel_rfl) (by kernel_rfl) (fun _ _ _ h => h) (Or.inl ⟨by rfl, fun w hw => by go_simp⟩) (by assumption) ?_
    simp only [Act.put, List.setIfInBounds_toArray, List.set_cons_zero, List.set_cons_succ]
    refine wpAnyH_take (i := 19) (oi := ⟨some 53, _, _, _, _, _⟩) (v := .bool true) rfl (by kernel_rfl) (by kernel_rfl) (by kernel_rfl) (fun _ _ _ h => h) (Or.inl ⟨by rfl, fun w hw => by go_simp⟩) (by assumption) ?_
    simp only [Act.put, List.setIfInBounds_toArray, List.set_cons_zero, List.set_cons_succ]
    refine wpAnyH_take (i := 20) (oi := ⟨some 54, _, _, _, _, _⟩) (v := .bool true) rfl (by kernel_rfl) (by kernel_rfl) (by kernel_rfl) (fun _ _ _ h => h) (Or.inl ⟨by rfl, fun w hw => by go_simp⟩) (by assumption) ?_
    simp only [Act.put, List.setIfInBounds_toArray, List.set_cons_zero, List.set_cons_succ]
    as_aux_lemma =>
      refine wpAnyH_take (i := 21) (oi := ⟨some 55, _, _, _, _, _⟩) (v := .int .i64 1) rfl (by kernel_rfl) (by kernel_rfl) (by kernel_rfl) (fun _ _ _ h => h) (Or.inl ⟨by rfl, fun w hw => by go_simp⟩) (by assumption) ?_
      simp only [Act.put, List.setIfInBounds_toArray, List.set_cons_zero, List.set_cons_succ]
      refine wpAnyH_take (i := 22) (oi := ⟨some 56, _, _, _, _, _⟩) (v := .bool true) rfl (by kernel_rfl) (by kernel_rfl) (by kernel_rfl) (fun _ _ _ h => h) (Or.inl ⟨by rfl, fun w hw => by go_simp⟩) (by assumption) ?_
      simp only [Act.put, List.setIfInBounds_toArray, List.set_cons_zero, List.set_cons_succ]
      refine wpAnyH_take (i := 23) (oi := ⟨some 57, _, _, _, _, _⟩) (v := .bool true) rfl (by kernel_rfl) (by kernel_rfl) (by kernel_rfl) (fun _ _ _ h => h) (Or.inl ⟨by rfl, fun w hw => by go_simp⟩) (by assumption) ?_
      simp only [Act.put, List.setIfInBounds_toArray, List.set_cons_zero, List.set_cons_succ]
      refine wpAnyH_take (i := 24) (oi := ⟨some 58, _, _, _, _, _⟩) (v := .bool true) rfl (by kernel_rfl) (by kernel_rfl) (by kernel_rfl) (fun _ _ _ h => h) (Or.inl ⟨by rfl, fun w hw => by go_simp⟩) (by assumption) ?_
      simp only [Act.put, List.setIfInBounds_toArray, List.set_cons_zero, List.set_cons_succ]
      refine wpAnyH_take (i := 25) (oi := ⟨some 59, _, _, _, _, _⟩) (v := .pointer none) rfl (by kernel_rfl) (by kernel_rfl) (by kernel_rfl) (fun _ _ _ h => h) (Or.inl ⟨by rfl, fun w hw => by go_simp⟩) (by assumption) ?_
      simp only [Act.put, List.setIfInBounds_toArray, List.set_cons_zero, List.set_cons_succ]
      refine wpAnyH_take (i := 26) (oi := ⟨some 60, _, _, _, _, _⟩) (v := .agg #[.int .u16 x.age, .int .u8 x.opts, .int .u8 x.typ, .int .u32 x.id, .int .u32 x.adv, .int .i32 x.seq, .int .u16 x.sum, .int .u16 x.len]) rfl (by kernel_rfl) (by kernel_rfl) (by kernel_rfl) (fun _ _ _ h => h) (Or.inl ⟨by rfl, fun w hw => by have a0 := z0 w hw; have a1 := z1 w hw; have a2 := z2 w hw; have a3 := z3 w hw; have a4 := z4 w hw; have a5 := z5 w hw; have a6 := z6 w hw; have a7 := z7 w hw; go_simp⟩) (by assumption) ?_
      simp only [Act.put, List.setIfInBounds_toArray, List.set_cons_zero, List.set_cons_succ]
      refine wpAnyH_take (i := 29) (oi := ⟨some 63, _, _, _, _, _⟩) (v := .pointer (some ⟨g0, 0, none⟩)) rfl (by kernel_rfl) (by kernel_rfl) (by kernel_rfl) (fun _ _ _ h => h) (Or.inl ⟨by rfl, fun w hw => by go_simp⟩) (by assumption) ?_
      simp only [Act.put, List.setIfInBounds_toArray, List.set_cons_zero, List.set_cons_succ]
      refine wpAnyH_take (i := 30) (oi := ⟨some 64, _, _, _, _, _⟩) (v := .agg #[.int .u16 x.age, .int .u8 x.opts, .int .u8 x.typ, .int .u32 x.id, .int .u32 x.adv, .int .i32 x.seq, .int .u16 x.sum, .int .u16 x.len]) rfl (by kernel_rfl) (by kernel_rfl) (by kernel_rfl) (fun _ _ _ h => h) (Or.inl ⟨by rfl, fun w hw => by have a0 := z0 w hw; have a1 := z1 w hw; have a2 := z2 w hw; have a3 := z3 w hw; have a4 := z4 w hw; have a5 := z5 w hw; have a6 := z6 w hw; have a7 := z7 w hw; go_simp⟩) (by assumption) ?_
      simp only [Act.put, List.setIfInBounds_toArray, List.set_cons_zero, List.set_cons_succ]
      refine wpAnyH_take (i := 34) (oi := ⟨some 68, _, _, _, _, _⟩) (v := .pointer none) rfl (by kernel_rfl) (by kernel_rfl) (by kernel_rfl) (fun _ _ _ h => h) (Or.inl ⟨by rfl, fun w hw => by go_simp⟩) (by assumption) ?_
      simp only [Act.put, List.setIfInBounds_toArray, List.set_cons_zero, List.set_cons_succ]
      refine wpAnyH_take (i := 38) (oi := ⟨some 72, _, _, _, _, _⟩) (v := .pointer (some ⟨g0, 0, none⟩)) rfl (by kernel_rfl) (by kernel_rfl) (by kernel_rfl) (fun _ _ _ h => h) (Or.inl ⟨by rfl, fun w hw => by go_simp⟩) (by assumption) ?_
      simp only [Act.put, List.setIfInBounds_toArray, List.set_cons_zero, List.set_cons_succ]
      refine wpAnyH_take (i := 42) (oi := ⟨some 76, _, _, _, _, _⟩) (v := .pointer none) rfl (by kernel_rfl) (by kernel_rfl) (by kernel_rfl) (fun _ _ _ h => h) (Or.inl ⟨by rfl, fun w hw => by go_simp⟩) (by assumption) ?_
      simp only [Act.put, List.setIfInBounds_toArray, List.set_cons_zero, List.set_cons_succ]
      refine wpAnyH_take (i := 46) (oi := ⟨some 80, _, _, _, _, _⟩) (v := .pointer (some ⟨g0, 0, none⟩)) rfl (by kernel_rfl) (by kernel_rfl) (by kernel_rfl) (fun _ _ _ h => h) (Or.inl ⟨by rfl, fun w hw => by go_simp⟩) (by assumption) ?_
      simp only [Act.put, List.setIfInBounds_toArray, List.set_cons_zero, List.set_cons_succ]
      refine wpAnyH_ready (rs := [27]) (by kernel_rfl) (by simp) ?_
      refine AllReadyH.cons (o := ⟨some 61, _, _, _, _, _⟩) rfl (fun K hK => ?_) AllReadyH.nil
      go_simp
      refine Calls.mono (Hgot0.out _ (SnX.start w3)) ?_
      rintro e y1 ⟨rfl, u1⟩
      have s1 : SnX w3 y1 := SnX.trans (SnX.start w3) u1
      refine hK.out _ _ s1 (fun hHeld => ?_)
      clear hK K u1
      as_aux_lemma =>
        refine wpAnyH_take (i := 28) (oi := ⟨some 62, _, _, _, _, _⟩) (v := .int .i64 0) rfl (by kernel_rfl) (by kernel_rfl) (by kernel_rfl) (fun _ _ _ h => h) (Or.inl ⟨by rfl, fun w hw => by go_simp⟩) (by assumption) ?_
        simp only [Act.put, List.setIfInBounds_toArray, List.set_cons_zero, List.set_cons_succ]
        refine wpAnyH_ready (rs := [31]) (by kernel_rfl) (by simp) ?_
        refine AllReadyH.cons (o := ⟨some 65, _, _, _, _, _⟩) rfl (fun K hK => ?_) AllReadyH.nil
        go_simp
        refine Calls.mono (Hgot1.out _ (s1)) ?_
        rintro e y2 ⟨rfl, u2⟩
        have s2 : SnX w3 y2 := SnX.trans (s1) u2
        refine hK.out _ _ s2 (fun hHeld => ?_)
        clear hK K u2
        as_aux_lemma =>
          refine wpAnyH_take (i := 32) (oi := ⟨some 66, _, _, _, _, _⟩) (v := .int .i64 0) rfl (by kernel_rfl) (by kernel_rfl) (by kernel_rfl) (fun _ _ _ h => h) (Or.inl ⟨by rfl, fun w hw => by go_simp⟩) (by assumption) ?_
          simp only [Act.put, List.setIfInBounds_toArray, List.set_cons_zero, List.set_cons_succ]
          refine wpAnyH_take (i := 33) (oi := ⟨some 67, _, _, _, _, _⟩) (v := .int .i64 0) rfl (by kernel_rfl) (by kernel_rfl) (by kernel_rfl) (fun _ _ _ h => h) (Or.inl ⟨by rfl, fun w hw => by go_simp; rfl⟩) (by assumption) ?_
          simp only [Act.put, List.setIfInBounds_toArray, List.set_cons_zero, List.set_cons_succ]
          refine wpAnyH_ready (rs := [35]) (by kernel_rfl) (by simp) ?_
          refine AllReadyH.cons (o := ⟨some 69, _, _, _, _, _⟩) rfl (fun K hK => ?_) AllReadyH.nil
          go_simp
          refine Calls.mono (Hanew0.out _ (s2)) ?_
          rintro e y3 ⟨rfl, u3⟩
          have s3 : SnX w3 y3 := SnX.trans (s2) u3
          refine hK.out _ _ s3 (fun hHeld => ?_)
          clear hK K u3
          as_aux_lemma =>
            refine wpAnyH_take (i := 36) (oi := ⟨some 70, _, _, _, _, _⟩) (v := .int .i64 0) rfl (by kernel_rfl) (by kernel_rfl) (by kernel_rfl) (fun _ _ _ h => h) (Or.inl ⟨by rfl, fun w hw => by go_simp⟩) (by assumption) ?_
            simp only [Act.put, List.setIfInBounds_toArray, List.set_cons_zero, List.set_cons_succ]
            refine wpAnyH_take (i := 37) (oi := ⟨some 71, _, _, _, _, _⟩) (v := .int .i64 0) rfl (by kernel_rfl) (by kernel_rfl) (by kernel_rfl) (fun _ _ _ h => h) (Or.inl ⟨by rfl, fun w hw => by go_simp; rfl⟩) (by assumption) ?_
            simp only [Act.put, List.setIfInBounds_toArray, List.set_cons_zero, List.set_cons_succ]
            refine wpAnyH_ready (rs := [39]) (by kernel_rfl) (by simp) ?_
            refine AllReadyH.cons (o := ⟨some 73, _, _, _, _, _⟩) rfl (fun K hK => ?_) AllReadyH.nil
            go_simp
            refine Calls.mono (Hanew1.out _ (s3)) ?_
            rintro e y4 ⟨rfl, u4⟩
            have s4 : SnX w3 y4 := SnX.trans (s3) u4
            refine hK.out _ _ s4 (fun hHeld => ?_)
            clear hK K u4
            as_aux_lemma =>
              refine wpAnyH_take (i := 40) (oi := ⟨some 74, _, _, _, _, _⟩) (v := .int .i64 0) rfl (by kernel_rfl) (by kernel_rfl) (by kernel_rfl) (fun _ _ _ h => h) (Or.inl ⟨by rfl, fun w hw => by go_simp⟩) (by assumption) ?_
              simp only [Act.put, List.setIfInBounds_toArray, List.set_cons_zero, List.set_cons_succ]
              refine wpAnyH_take (i := 41) (oi := ⟨some 75, _, _, _, _, _⟩) (v := .int .i64 0) rfl (by kernel_rfl) (by kernel_rfl) (by kernel_rfl) (fun _ _ _ h => h) (Or.inl ⟨by rfl, fun w hw => by go_simp; rfl⟩) (by assumption) ?_
              simp only [Act.put, List.setIfInBounds_toArray, List.set_cons_zero, List.set_cons_succ]
              refine wpAnyH_ready (rs := [43]) (by kernel_rfl) (by simp) ?_
              refine AllReadyH.cons (o := ⟨some 77, _, _, _, _, _⟩) rfl (fun K hK => ?_) AllReadyH.nil
              go_simp
              refine Calls.mono (Htick0.out _ (s4)) ?_
              rintro e y5 ⟨rfl, u5⟩
              have s5 : SnX w3 y5 := SnX.trans (s4) u5
              refine hK.out _ _ s5 (fun hHeld => ?_)
              clear hK K u5
              as_aux_lemma =>
                refine wpAnyH_take (i := 44) (oi := ⟨some 78, _, _, _, _, _⟩) (v := .int .i64 0) rfl (by kernel_rfl) (by kernel_rfl) (by kernel_rfl) (fun _ _ _ h => h) (Or.inl ⟨by rfl, fun w hw => by go_simp⟩) (by assumption) ?_
                simp only [Act.put, List.setIfInBounds_toArray, List.set_cons_zero, List.set_cons_succ]
                refine wpAnyH_take (i := 45) (oi := ⟨some 79, _, _, _, _, _⟩) (v := .int .i64 0) rfl (by kernel_rfl) (by kernel_rfl) (by kernel_rfl) (fun _ _ _ h => h) (Or.inl ⟨by rfl, fun w hw => by go_simp; rfl⟩) (by assumption) ?_
                simp only [Act.put, List.setIfInBounds_toArray, List.set_cons_zero, List.set_cons_succ]
                refine wpAnyH_ready (rs := [47]) (by kernel_rfl) (by simp) ?_
                refine AllReadyH.cons (o := ⟨some 81, _, _, _, _, _⟩) rfl (fun K hK => ?_) AllReadyH.nil
                go_simp
                refine Calls.mono (Htick1.out _ (s5)) ?_
                rintro e y6 ⟨rfl, u6⟩
                have s6 : SnX w3 y6 := SnX.trans (s5) u6
                refine hK.out _ _ s6 (fun hHeld => ?_)
                clear hK K u6
                as_aux_lemma =>
                  refine wpAnyH_take (i := 48) (oi := ⟨some 82, _, _, _, _, _⟩) (v := .int .i64 0) rfl (by kernel_rfl) (by kernel_rfl) (by kernel_rfl) (fun _ _ _ h => h) (Or.inl ⟨by rfl, fun w hw => by go_simp⟩) (by assumption) ?_
                  simp only [Act.put, List.setIfInBounds_toArray, List.set_cons_zero, List.set_cons_succ]
                  refine wpAnyH_take (i := 49) (oi := ⟨some 83, _, _, _, _, _⟩) (v := .int .i64 0) rfl (by kernel_rfl) (by kernel_rfl) (by kernel_rfl) (fun _ _ _ h => h) (Or.inl ⟨by rfl, fun w hw => by go_simp; rfl⟩) (by assumption) ?_
                  simp only [Act.put, List.setIfInBounds_toArray, List.set_cons_zero, List.set_cons_succ]
                  refine wpAnyH_take (i := 50) (oi := ⟨some 84, _, _, _, _, _⟩) (v := .bool true) rfl (by kernel_rfl) (by kernel_rfl) (by kernel_rfl) (fun _ _ _ h => h) (Or.inl ⟨by rfl, fun w hw => by go_simp⟩) (by assumption) ?_
                  simp only [Act.put, List.setIfInBounds_toArray, List.set_cons_zero, List.set_cons_succ]
                  refine wpAnyH_take (i := 51) (oi := ⟨some 85, _, _, _, _, _⟩) (v := .bool true) rfl (by kernel_rfl) (by kernel_rfl) (by kernel_rfl) (fun _ _ _ h => h) (Or.inl ⟨by rfl, fun w hw => by go_simp⟩) (by assumption) ?_
                  simp only [Act.put, List.setIfInBounds_toArray, List.set_cons_zero, List.set_cons_succ]
                  refine wpAnyH_take (i := 52) (oi := ⟨some 86, _, _, _, _, _⟩) (v := .bool true) rfl (by kernel_rfl) (by kernel_rfl) (by kernel_rfl) (fun _ _ _ h => h) (Or.inl ⟨by rfl, fun w hw => by go_simp⟩) (by assumption) ?_
                  simp only [Act.put, List.setIfInBounds_toArray, List.set_cons_zero, List.set_cons_succ]
                  refine wpAnyH_take (i := 53) (oi := ⟨some 87, _, _, _, _, _⟩) (v := .pointer none) rfl (by kernel_rfl) (by kernel_rfl) (by kernel_rfl) (fun _ _ _ h => h) (Or.inl ⟨by rfl, fun w hw => by go_simp⟩) (by assumption) ?_
                  simp only [Act.put, List.setIfInBounds_toArray, List.set_cons_zero, List.set_cons_succ]
                  refine wpAnyH_take (i := 55) (oi := ⟨some 89, _, _, _, _, _⟩) (v := .pointer (some ⟨g0, 0, none⟩)) rfl (by kernel_rfl) (by kernel_rfl) (by kernel_rfl) (fun _ _ _ h => h) (Or.inl ⟨by rfl, fun w hw => by go_simp⟩) (by assumption) ?_
                  simp only [Act.put, List.setIfInBounds_toArray, List.set_cons_zero, List.set_cons_succ]
                  refine wpAnyH_ready (rs := [54]) (by kernel_rfl) (by simp) ?_
                  refine AllReadyH.cons (o := ⟨some 88, _, _, _, _, _⟩) rfl (fun K hK => ?_) AllReadyH.nil
                  go_simp
                  refine Calls.mono (Hstate0.out _ (s6)) ?_
                  rintro e y7 ⟨rfl, u7⟩
                  have s7 : SnX w3 y7 := SnX.trans (s6) u7
                  refine hK.out _ _ s7 (fun hHeld => ?_)
                  clear hK K u7
                  as_aux_lemma =>
                    refine wpAnyH_ready (rs := [56]) (by kernel_rfl) (by simp) ?_
                    refine AllReadyH.cons (o := ⟨some 90, _, _, _, _, _⟩) rfl (fun K hK => ?_) AllReadyH.nil
                    go_simp
                    refine Calls.mono (Hstate1.out _ (s7)) ?_
                    rintro e y8 ⟨rfl, u8⟩
                    have s8 : SnX w3 y8 := SnX.trans (s7) u8
                    refine hK.out _ _ s8 (fun hHeld => ?_)
                    clear hK K u8
                    as_aux_lemma =>
                      refine wpAnyH_take (i := 57) (oi := ⟨some 91, _, _, _, _, _⟩) (v := .int .u8 0) rfl (by kernel_rfl) (by kernel_rfl) (by kernel_rfl) (fun _ _ _ h => h) (Or.inl ⟨by rfl, fun w hw => by go_simp; rfl⟩) (by assumption) ?_
                      simp only [Act.put, List.setIfInBounds_toArray, List.set_cons_zero, List.set_cons_succ]
                      refine wpAnyH_take (i := 58) (oi := ⟨some 92, _, _, _, _, _⟩) (v := .bool true) rfl (by kernel_rfl) (by kernel_rfl) (by kernel_rfl) (fun _ _ _ h => h) (Or.inl ⟨by rfl, fun w hw => by go_simp⟩) (by assumption) ?_
                      simp only [Act.put, List.setIfInBounds_toArray, List.set_cons_zero, List.set_cons_succ]
                      refine wpAnyH_take (i := 59) (oi := ⟨some 93, _, _, _, _, _⟩) (v := .bool true) rfl (by kernel_rfl) (by kernel_rfl) (by kernel_rfl) (fun _ _ _ h => h) (Or.inl ⟨by rfl, fun w hw => by go_simp⟩) (by assumption) ?_
                      simp only [Act.put, List.setIfInBounds_toArray, List.set_cons_zero, List.set_cons_succ]
                      refine wpAnyH_take (i := 60) (oi := ⟨some 94, _, _, _, _, _⟩) (v := .bool true) rfl (by kernel_rfl) (by kernel_rfl) (by kernel_rfl) (fun _ _ _ h => h) (Or.inl ⟨by rfl, fun w hw => by go_simp⟩) (by assumption) ?_
                      simp only [Act.put, List.setIfInBounds_toArray, List.set_cons_zero, List.set_cons_succ]
                      refine wpAnyH_take (i := 61) (oi := ⟨some 95, _, _, _, _, _⟩) (v := .pointer none) rfl (by kernel_rfl) (by kernel_rfl) (by kernel_rfl) (fun _ _ _ h => h) (Or.inl ⟨by rfl, fun w hw => by go_simp⟩) (by assumption) ?_
                      simp only [Act.put, List.setIfInBounds_toArray, List.set_cons_zero, List.set_cons_succ]
                      refine wpAnyH_ready (rs := [62]) (by kernel_rfl) (by simp) ?_
                      refine AllReadyH.cons (o := ⟨some 96, _, _, _, _, _⟩) rfl (fun K hK => ?_) AllReadyH.nil
                      go_simp
                      refine Calls.mono (Hmaster0.out _ (s8)) ?_
                      rintro e y9 ⟨rfl, u9⟩
                      have s9 : SnX w3 y9 := SnX.trans (s8) u9
                      refine hK.out _ _ s9 (fun hHeld => ?_)
                      clear hK K u9
                      as_aux_lemma =>
                        refine wpAnyH_take (i := 63) (oi := ⟨some 97, _, _, _, _, _⟩) (v := .bool true) rfl (by kernel_rfl) (by kernel_rfl) (by kernel_rfl) (fun _ _ _ h => h) (Or.inl ⟨by rfl, fun w hw => by go_simp⟩) (by assumption) ?_
                        simp only [Act.put, List.setIfInBounds_toArray, List.set_cons_zero, List.set_cons_succ]
                        refine wpAnyH_take (i := 64) (oi := ⟨some 98, _, _, _, _, _⟩) (v := .bool true) rfl (by kernel_rfl) (by kernel_rfl) (by kernel_rfl) (fun _ _ _ h => h) (Or.inl ⟨by rfl, fun w hw => by go_simp⟩) (by assumption) ?_
                        simp only [Act.put, List.setIfInBounds_toArray, List.set_cons_zero, List.set_cons_succ]
                        refine wpAnyH_take (i := 65) (oi := ⟨some 99, _, _, _, _, _⟩) (v := .bool true) rfl (by kernel_rfl) (by kernel_rfl) (by kernel_rfl) (fun _ _ _ h => h) (Or.inl ⟨by rfl, fun w hw => by go_simp⟩) (by assumption) ?_
                        simp only [Act.put, List.setIfInBounds_toArray, List.set_cons_zero, List.set_cons_succ]
                        refine wpAnyH_take (i := 66) (oi := ⟨some 100, _, _, _, _, _⟩) (v := .pointer (some ⟨g0, 0, none⟩)) rfl (by kernel_rfl) (by kernel_rfl) (by kernel_rfl) (fun _ _ _ h => h) (Or.inl ⟨by rfl, fun w hw => by go_simp⟩) (by assumption) ?_
                        simp only [Act.put, List.setIfInBounds_toArray, List.set_cons_zero, List.set_cons_succ]
                        refine wpAnyH_ready (rs := [67]) (by kernel_rfl) (by simp) ?_
                        refine AllReadyH.cons (o := ⟨some 101, _, _, _, _, _⟩) rfl (fun K hK => ?_) AllReadyH.nil
                        go_simp
                        refine Calls.mono (Hmaster1.out _ (s9)) ?_
                        rintro e y10 ⟨rfl, u10⟩
                        have s10 : SnX w3 y10 := SnX.trans (s9) u10
                        refine hK.out _ _ s10 (fun hHeld => ?_)
                        clear hK K u10
                        as_aux_lemma =>
                          refine wpAnyH_take (i := 68) (oi := ⟨some 102, _, _, _, _, _⟩) (v := .bool true) rfl (by kernel_rfl) (by kernel_rfl) (by kernel_rfl) (fun _ _ _ h => h) (Or.inl ⟨by rfl, fun w hw => by go_simp⟩) (by assumption) ?_
                          simp only [Act.put, List.setIfInBounds_toArray, List.set_cons_zero, List.set_cons_succ]
                          refine wpAnyH_take (i := 69) (oi := ⟨some 103, _, _, _, _, _⟩) (v := .bool true) rfl (by kernel_rfl) (by kernel_rfl) (by kernel_rfl) (fun _ _ _ h => h) (Or.inl ⟨by rfl, fun w hw => by go_simp⟩) (by assumption) ?_
                          simp only [Act.put, List.setIfInBounds_toArray, List.set_cons_zero, List.set_cons_succ]
                          refine wpAnyH_take (i := 70) (oi := ⟨some 104, _, _, _, _, _⟩) (v := .bool true) rfl (by kernel_rfl) (by kernel_rfl) (by kernel_rfl) (fun _ _ _ h => h) (Or.inl ⟨by rfl, fun w hw => by go_simp⟩) (by assumption) ?_
                          simp only [Act.put, List.setIfInBounds_toArray, List.set_cons_zero, List.set_cons_succ]
                          refine wpAnyH_take (i := 71) (oi := ⟨some 105, _, _, _, _, _⟩) (v := .pointer none) rfl (by kernel_rfl) (by kernel_rfl) (by kernel_rfl) (fun _ _ _ h => h) (Or.inl ⟨by rfl, fun w hw => by go_simp⟩) (by assumption) ?_
                          simp only [Act.put, List.setIfInBounds_toArray, List.set_cons_zero, List.set_cons_succ]
                          refine wpAnyH_take (i := 74) (oi := ⟨some 108, _, _, _, _, _⟩) (v := .pointer (some ⟨g0, 0, none⟩)) rfl (by kernel_rfl) (by kernel_rfl) (by kernel_rfl) (fun _ _ _ h => h) (Or.inl ⟨by rfl, fun w hw => by go_simp⟩) (by assumption) ?_
                          simp only [Act.put, List.setIfInBounds_toArray, List.set_cons_zero, List.set_cons_succ]
                          refine wpAnyH_ready (rs := [72]) (by kernel_rfl) (by simp) ?_
                          refine AllReadyH.cons (o := ⟨some 106, _, _, _, _, _⟩) rfl (fun K hK => ?_) AllReadyH.nil
                          go_simp
                          refine Calls.mono (Hwants0.out _ (s10)) ?_
                          rintro e y11 ⟨rfl, u11⟩
                          have s11 : SnX w3 y11 := SnX.trans (s10) u11
                          refine hK.out _ _ s11 (fun hHeld => ?_)
                          clear hK K u11
                          as_aux_lemma =>
                            refine wpAnyH_take (i := 73) (oi := ⟨some 107, _, _, _, _, _⟩) (v := .int .i64 0) rfl (by kernel_rfl) (by kernel_rfl) (by kernel_rfl) (fun _ _ _ h => h) (Or.inl ⟨by rfl, fun w hw => by go_simp⟩) (by assumption) ?_
                            simp only [Act.put, List.setIfInBounds_toArray, List.set_cons_zero, List.set_cons_succ]
                            refine wpAnyH_ready (rs := [75]) (by kernel_rfl) (by simp) ?_
                            refine AllReadyH.cons (o := ⟨some 109, _, _, _, _, _⟩) rfl (fun K hK => ?_) AllReadyH.nil
                            go_simp
                            refine Calls.mono (Hwants1.out _ (s11)) ?_
                            rintro e y12 ⟨rfl, u12⟩
                            have s12 : SnX w3 y12 := SnX.trans (s11) u12
                            refine hK.out _ _ s12 (fun hHeld => ?_)
                            clear hK K u12
                            as_aux_lemma =>
                              refine wpAnyH_take (i := 76) (oi := ⟨some 110, _, _, _, _, _⟩) (v := .int .i64 0) rfl (by kernel_rfl) (by kernel_rfl) (by kernel_rfl) (fun _ _ _ h => h) (Or.inl ⟨by rfl, fun w hw => by go_simp⟩) (by assumption) ?_
                              simp only [Act.put, List.setIfInBounds_toArray, List.set_cons_zero, List.set_cons_succ]
                              refine wpAnyH_take (i := 77) (oi := ⟨some 111, _, _, _, _, _⟩) (v := .int .i64 0) rfl (by kernel_rfl) (by kernel_rfl) (by kernel_rfl) (fun _ _ _ h => h) (Or.inl ⟨by rfl, fun w hw => by go_simp; rfl⟩) (by assumption) ?_
                              simp only [Act.put, List.setIfInBounds_toArray, List.set_cons_zero, List.set_cons_succ]
                              refine wpAnyH_take (i := 78) (oi := ⟨some 112, _, _, _, _, _⟩) (v := .bool true) rfl (by kernel_rfl) (by kernel_rfl) (by kernel_rfl) (fun _ _ _ h => h) (Or.inl ⟨by rfl, fun w hw => by go_simp⟩) (by assumption) ?_
                              simp only [Act.put, List.setIfInBounds_toArray, List.set_cons_zero, List.set_cons_succ]
                              refine wpAnyH_take (i := 79) (oi := ⟨some 113, _, _, _, _, _⟩) (v := .bool true) rfl (by kernel_rfl) (by kernel_rfl) (by kernel_rfl) (fun _ _ _ h => h) (Or.inl ⟨by rfl, fun w hw => by go_simp⟩) (by assumption) ?_
                              simp only [Act.put, List.setIfInBounds_toArray, List.set_cons_zero, List.set_cons_succ]
                              refine wpAnyH_take (i := 80) (oi := ⟨some 114, _, _, _, _, _⟩) (v := .bool true) rfl (by kernel_rfl) (by kernel_rfl) (by kernel_rfl) (fun _ _ _ h => h) (Or.inl ⟨by rfl, fun w hw => by go_simp⟩) (by assumption) ?_
                              simp only [Act.put, List.setIfInBounds_toArray, List.set_cons_zero, List.set_cons_succ]
                              refine wpAnyH_take (i := 81) (oi := ⟨some 115, _, _, _, _, _⟩) (v := .pointer none) rfl (by kernel_rfl) (by kernel_rfl) (by kernel_rfl) (fun _ _ _ h => h) (Or.inl ⟨by rfl, fun w hw => by go_simp⟩) (by assumption) ?_
                              simp only [Act.put, List.setIfInBounds_toArray, List.set_cons_zero, List.set_cons_succ]
                              refine wpAnyH_take (i := 83) (oi := ⟨some 117, _, _, _, _, _⟩) (v := .pointer (some ⟨g0, 0, none⟩)) rfl (by kernel_rfl) (by kernel_rfl) (by kernel_rfl) (fun _ _ _ h => h) (Or.inl ⟨by rfl, fun w hw => by go_simp⟩) (by assumption) ?_
                              simp only [Act.put, List.setIfInBounds_toArray, List.set_cons_zero, List.set_cons_succ]
                              refine wpAnyH_ready (rs := [82]) (by kernel_rfl) (by simp) ?_
                              refine AllReadyH.cons (o := ⟨some 116, _, _, _, _, _⟩) rfl (fun K hK => ?_) AllReadyH.nil
                              go_simp
                              refine Calls.mono (Hopts0.out _ (s12)) ?_
                              rintro e y13 ⟨rfl, u13⟩
                              have s13 : SnX w3 y13 := SnX.trans (s12) u13
                              refine hK.out _ _ s13 (fun hHeld => ?_)
                              clear hK K u13
                              as_aux_lemma =>
                                refine wpAnyH_ready (rs := [84]) (by kernel_rfl) (by simp) ?_
                                refine AllReadyH.cons (o := ⟨some 118, _, _, _, _, _⟩) rfl (fun K hK => ?_) AllReadyH.nil
                                go_simp
                                refine Calls.mono (Hopts1.out _ (s13)) ?_
                                rintro e y14 ⟨rfl, u14⟩
                                have s14 : SnX w3 y14 := SnX.trans (s13) u14
                                refine hK.out _ _ s14 (fun hHeld => ?_)
                                clear hK K u14
                                as_aux_lemma =>
                                  refine wpAnyH_take (i := 85) (oi := ⟨some 119, _, _, _, _, _⟩) (v := .int .u8 0) rfl (by kernel_rfl) (by kernel_rfl) (by kernel_rfl) (fun _ _ _ h => h) (Or.inl ⟨by rfl, fun w hw => by go_simp; rfl⟩) (by assumption) ?_
                                  simp only [Act.put, List.setIfInBounds_toArray, List.set_cons_zero, List.set_cons_succ]
                                  refine wpAnyH_take (i := 86) (oi := ⟨some 120, _, _, _, _, _⟩) (v := .bool true) rfl (by kernel_rfl) (by kernel_rfl) (by kernel_rfl) (fun _ _ _ h => h) (Or.inl ⟨by rfl, fun w hw => by go_simp⟩) (by assumption) ?_
                                  simp only [Act.put, List.setIfInBounds_toArray, List.set_cons_zero, List.set_cons_succ]
                                  refine wpAnyH_take (i := 87) (oi := ⟨some 121, _, _, _, _, _⟩) (v := .bool true) rfl (by kernel_rfl) (by kernel_rfl) (by kernel_rfl) (fun _ _ _ h => h) (Or.inl ⟨by rfl, fun w hw => by go_simp⟩) (by assumption) ?_
                                  simp only [Act.put, List.setIfInBounds_toArray, List.set_cons_zero, List.set_cons_succ]
                                  refine wpAnyH_take (i := 88) (oi := ⟨some 122, _, _, _, _, _⟩) (v := .bool true) rfl (by kernel_rfl) (by kernel_rfl) (by kernel_rfl) (fun _ _ _ h => h) (Or.inl ⟨by rfl, fun w hw => by go_simp⟩) (by assumption) ?_
                                  simp only [Act.put, List.setIfInBounds_toArray, List.set_cons_zero, List.set_cons_succ]
                                  refine wpAnyH_ready (rs := [89]) (by kernel_rfl) (by simp) ?_
                                  refine AllReadyH.cons (o := ⟨some 123, _, _, _, _, _⟩) rfl (fun K hK => ?_) AllReadyH.nil
                                  go_simp
                                  refine Calls.mono (works14 _) ?_
                                  rintro e y15 ⟨rfl, u15⟩
                                  have s15 : SnX w3 y15 := SnX.trans (s14) u15
                                  refine hK.out _ _ s15 (fun hHeld => ?_)
                                  clear hK K u15
                                  as_aux_lemma =>
                                    refine wpAnyH_take (i := 90) (oi := ⟨some 124, _, _, _, _, _⟩) (v := .bool true) rfl (by kernel_rfl) (by kernel_rfl) (by kernel_rfl) (fun _ _ _ h => h) (Or.inl ⟨by rfl, fun w hw => by go_simp⟩) (by assumption) ?_
                                    simp only [Act.put, List.setIfInBounds_toArray, List.set_cons_zero, List.set_cons_succ]
                                    refine wpAnyH_take (i := 91) (oi := ⟨some 2, _, _, _, _, _⟩) (v := .bool true) rfl (by kernel_rfl) (by kernel_rfl) (by kernel_rfl) (fun _ _ _ h => h) (Or.inl ⟨by rfl, fun w hw => by go_simp⟩) (by assumption) ?_
                                    simp only [Act.put, List.setIfInBounds_toArray, List.set_cons_zero, List.set_cons_succ]
                                    refine wpAnyH_done (by kernel_rfl) ?_ _
                                    go_wp2_with fail
                                    go_ret
                                    exact ⟨rfl, HTk.out.trans s15.t⟩
end Go.Proofs.Ytojlnabhaglejaa
