
/- No queue answers nothing. -/
import Derived.Test.YtmdnlfbploaafaaQuLives
namespace Go.Proofs.Ytmdnlfbploaafaa
open Go.RowKit
set_option linter.unusedVariables false
set_option maxRecDepth 100000

/-- Nobody made it. -/
structure Nobody (w : World) (pv : Value) : Prop where
  out : Calls Try.prog 28 #[pv] w fun e w' => e = .returned (.bool false) ∧ w = w'
theorem nobody_nil (w : World) : Nobody w (.pointer none) := ⟨made_nil w⟩
theorem nobody_zero (w : World) (b : Nat) (h : w.cell? ⟨b, 2, none⟩ = some (.int .i64 0)) : Nobody w (.pointer (some ⟨b, 0, none⟩)) := ⟨made_zero w b h⟩

set_option maxHeartbeats 400000 in
theorem len_not (w : World) (pv : Value) (h : Nobody w pv) : Calls Try.prog 12 #[pv] w fun e w' => e = .returned (.int .i64 0) ∧ w = w' := by
  go_enter Try.func12, Try.ntmps12
  go_wp2_with ((go_at_call 28; refine Calls.mono h.out ?_; rintro e w1 ⟨rfl, rfl⟩))
  go_ret
  exact ⟨rfl, rfl⟩
set_option maxHeartbeats 400000 in
theorem put_not (w : World) (pv : Value) (a r k : Int) (h : Nobody w pv) : Calls Try.prog 17 #[pv, .int .i64 a, .int .i64 r, .int .u64 k] w fun e w' => e = .returned (.bool false) ∧ w = w' := by
  go_enter Try.func17, Try.ntmps17
  go_wp2_with ((go_at_call 28; refine Calls.mono h.out ?_; rintro e w1 ⟨rfl, rfl⟩))
  go_ret
  exact ⟨rfl, rfl⟩
set_option maxHeartbeats 400000 in
theorem drop_not (w : World) (pv : Value) (k : Int) (h : Nobody w pv) : Calls Try.prog 20 #[pv, .int .u64 k] w fun e w' => e = .returned (.bool false) ∧ w = w' := by
  go_enter Try.func20, Try.ntmps20
  go_wp2_with ((go_at_call 28; refine Calls.mono h.out ?_; rintro e w1 ⟨rfl, rfl⟩))
  go_ret
  exact ⟨rfl, rfl⟩
set_option maxHeartbeats 400000 in
theorem when_not (w : World) (pv : Value) (k : Int) (h : Nobody w pv) : Calls Try.prog 21 #[pv, .int .u64 k] w fun e w' => e = .returned (.tuple #[.int .i64 0, .bool false]) ∧ w = w' := by
  go_enter Try.func21, Try.ntmps21
  go_wp2_with ((go_at_call 28; refine Calls.mono h.out ?_; rintro e w1 ⟨rfl, rfl⟩))
  go_ret2
  exact ⟨rfl, rfl⟩
set_option maxHeartbeats 400000 in
theorem all_not (w : World) (pv : Value) (h : Nobody w pv) : Calls Try.prog 13 #[pv] w fun e w' => e = .returned (.slice none 0 0) ∧ w = w' := by
  go_enter Try.func13, Try.ntmps13
  go_wp2_with ((go_at_call 28; refine Calls.mono h.out ?_; rintro e w1 ⟨rfl, rfl⟩))
  go_ret
  exact ⟨rfl, rfl⟩
set_option maxHeartbeats 400000 in
theorem copy_not (w : World) (pv : Value) (h : Nobody w pv) : Calls Try.prog 16 #[pv] w fun e w' => e = .returned (.pointer none) ∧ w = w' := by
  go_enter Try.func16, Try.ntmps16
  go_wp2_with ((go_at_call 28; refine Calls.mono h.out ?_; rintro e w1 ⟨rfl, rfl⟩))
  go_ret
  exact ⟨rfl, rfl⟩
set_option maxHeartbeats 400000 in
theorem next_not (w : World) (pv : Value) (h : ∀ wx, Touch (fun _ => False) w wx → Nobody wx pv) : Calls Try.prog 19 #[pv] w fun e w' => e = .returned (.tuple #[.agg #[.int .i64 0, .int .i64 0, .int .u64 0], .bool false]) ∧ Touch (fun _ => False) w w' := by
  go_enter Try.func19, Try.ntmps19
  go_wp2_with ((go_at_call 12; refine Calls.mono (len_not _ _ (h _ ((Touch.refl _ _).alloc _))) ?_; rintro e w1 ⟨rfl, rfl⟩))
  refine bodyPost_ret (v := .tuple #[.agg #[.int .i64 0, .int .i64 0, .int .u64 0], .bool false]) (by simp [results, Try.results19, go_sem]) rfl ⟨rfl, ?_⟩
  exact (Touch.refl _ _).alloc _
set_option maxHeartbeats 400000 in
theorem take_not (w : World) (pv : Value) (now : Int) (h : ∀ wx, Touch (fun _ => False) w wx → Nobody wx pv) : Calls Try.prog 18 #[pv, .int .i64 now] w fun e w' => e = .returned (.tuple #[.agg #[.int .i64 0, .int .i64 0, .int .u64 0], .bool false]) ∧ Touch (fun _ => False) w w' := by
  go_enter Try.func18, Try.ntmps18
  go_wp2_with fail
  have T : Touch (fun _ => False) w (w.alloc (.cells #[.int .i64 0, .int .i64 0, .int .u64 0] 41)) := (Touch.refl _ _).alloc _
  have R0 : Row (w.alloc (.cells #[.int .i64 0, .int .i64 0, .int .u64 0] 41)) w.heap.size 41 [.int .i64 0, .int .i64 0, .int .u64 0] := row_new w _ _
  generalize w.alloc (.cells #[.int .i64 0, .int .i64 0, .int .u64 0] 41) = wa at T R0 ⊢
  refine Calls.mono (next_not wa pv (fun wx t => h wx (T.trans t))) ?_
  rintro e w1 ⟨rfl, t1⟩
  have R1 := R0.keep t1
  have r0 : w1.cell? ⟨w.heap.size, 0, none⟩ = some (.int .i64 0) := R1.cell 0
  have r1 : w1.cell? ⟨w.heap.size, 1, none⟩ = some (.int .i64 0) := R1.cell 1
  have r2 : w1.cell? ⟨w.heap.size, 2, none⟩ = some (.int .u64 0) := R1.cell 2
  have rf := R1.frozen
  have hlt := R1.lt
  have HT : Hid (Touch (fun _ => False) w w1) := T.trans t1
  clear R0 R1 t1 T h
  go_wp2_with fail
  refine bodyPost_ret (v := .tuple #[.agg #[.int .i64 0, .int .i64 0, .int .u64 0], .bool false]) (by simp [results, Try.results18, go_sem, r0, r1, r2, hlt]) rfl ⟨rfl, ?_⟩
  refine Touch.alloc ?_ _
  refine Touch.setCell (p := ⟨w.heap.size, 2, none⟩) ?_ (Or.inr (Nat.le_refl _)) _
  refine Touch.setCell (p := ⟨w.heap.size, 1, none⟩) ?_ (Or.inr (Nat.le_refl _)) _
  refine Touch.setCell (p := ⟨w.heap.size, 0, none⟩) ?_ (Or.inr (Nat.le_refl _)) _
  exact HT.out

set_option maxHeartbeats 2000000 in
theorem none_any (a r k : Int) (w : World) : Calls Try.prog 7 #[.int .i64 a, .int .i64 r, .int .u64 k] w fun e w' => e = .returned (.bool true) ∧ Touch (fun _ => False) w w' := by
  go_enter Try.func7, Try.ntmps7
  go_wp2_with fail
  have T : Touch (fun _ => False) w (w.alloc (.cells #[.slice none 0 0, .map none, .int .i64 0] 59)) := (Touch.refl _ _).alloc _
  have z2 : (w.alloc (.cells #[.slice none 0 0, .map none, .int .i64 0] 59)).cell? ⟨w.heap.size, 2, none⟩ = some (.int .i64 0) := by simp [go_sem]
  generalize w.alloc (.cells #[.slice none 0 0, .map none, .int .i64 0] 59) = wa at T z2 ⊢
  refine Calls.mono (next_not wa (.pointer none) (fun wx _ => nobody_nil wx)) ?_
  rintro e w1 ⟨rfl, t1⟩
  replace T := T.trans t1
  replace z2 := t1.cellN z2
  clear t1
  go_wp2_with fail
  have t2 : Touch (fun _ => False) w1 (w1.alloc (.cells #[.int .i64 0, .int .i64 0, .int .u64 0] 41)) := (Touch.refl _ _).alloc _
  have R1 : Row (w1.alloc (.cells #[.int .i64 0, .int .i64 0, .int .u64 0] 41)) w1.heap.size 41 [.int .i64 0, .int .i64 0, .int .u64 0] := row_new w1 _ _
  generalize w1.alloc (.cells #[.int .i64 0, .int .i64 0, .int .u64 0] 41) = w2 at t2 R1 ⊢
  replace T := T.trans t2
  replace z2 := t2.cellN z2
  clear t2
  refine Calls.mono (take_not w2 (.pointer (some ⟨w.heap.size, 0, none⟩)) a (fun wx t => nobody_zero wx _ (t.cellN z2))) ?_
  rintro e w3 ⟨rfl, t3⟩
  replace T := T.trans t3
  replace z2 := t3.cellN z2
  replace R1 := R1.keep t3
  clear t3
  go_wp2_with fail
  have t4 : Touch (fun _ => False) w3 (w3.alloc (.cells #[.int .i64 0, .int .i64 0, .int .u64 0] 41)) := (Touch.refl _ _).alloc _
  have R2 : Row (w3.alloc (.cells #[.int .i64 0, .int .i64 0, .int .u64 0] 41)) w3.heap.size 41 [.int .i64 0, .int .i64 0, .int .u64 0] := row_new w3 _ _
  generalize w3.alloc (.cells #[.int .i64 0, .int .i64 0, .int .u64 0] 41) = w4 at t4 R2 ⊢
  replace T := T.trans t4
  replace z2 := t4.cellN z2
  replace R1 := R1.keep t4
  clear t4
  have x0 : w4.cell? ⟨w1.heap.size, 0, none⟩ = some (.int .i64 0) := R1.cell 0
  have x1 : w4.cell? ⟨w1.heap.size, 1, none⟩ = some (.int .i64 0) := R1.cell 1
  have x2 : w4.cell? ⟨w1.heap.size, 2, none⟩ = some (.int .u64 0) := R1.cell 2
  have y0 : w4.cell? ⟨w3.heap.size, 0, none⟩ = some (.int .i64 0) := R2.cell 0
  have y1 : w4.cell? ⟨w3.heap.size, 1, none⟩ = some (.int .i64 0) := R2.cell 1
  have y2 : w4.cell? ⟨w3.heap.size, 2, none⟩ = some (.int .u64 0) := R2.cell 2
  have N1 : Hid (Nobody w4 (.pointer none)) := nobody_nil w4
  have N2 : Hid (Nobody w4 (.pointer (some ⟨w.heap.size, 0, none⟩))) := nobody_zero w4 _ z2
  have HT : Hid _ := T
  clear R1 R2 z2 T
  go_wp2_with (first
    | (go_at_call 21; refine Calls.mono (when_not _ _ _ (by first | with_reducible exact N1.out | with_reducible exact N2.out)) ?_; rintro e wx ⟨rfl, rfl⟩)
    | (go_at_call 17; refine Calls.mono (put_not _ _ _ _ _ (by first | with_reducible exact N1.out | with_reducible exact N2.out)) ?_; rintro e wx ⟨rfl, rfl⟩)
    | (go_at_call 20; refine Calls.mono (drop_not _ _ _ (by first | with_reducible exact N1.out | with_reducible exact N2.out)) ?_; rintro e wx ⟨rfl, rfl⟩)
    | (go_at_call 16; refine Calls.mono (copy_not _ _ (by first | with_reducible exact N1.out | with_reducible exact N2.out)) ?_; rintro e wx ⟨rfl, rfl⟩)
    | (go_at_call 12; refine Calls.mono (len_not _ _ (by first | with_reducible exact N1.out | with_reducible exact N2.out)) ?_; rintro e wx ⟨rfl, rfl⟩)
    | (go_at_call 13; refine Calls.mono (all_not _ _ (by first | with_reducible exact N1.out | with_reducible exact N2.out)) ?_; rintro e wx ⟨rfl, rfl⟩)
    | (go_at_call 8; refine Calls.mono (lives_any _) ?_; rintro e wx ⟨rfl, tx⟩))
  go_ret
  exact ⟨rfl, HT.out.trans tx⟩
end Go.Proofs.Ytmdnlfbploaafaa
