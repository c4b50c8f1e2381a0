
/- Got, State. -/
import Derived.Test.YtojlnabhaglejaaAdGot
namespace Go.Proofs.Ytojlnabhaglejaa
open Go.RowKit
set_option linter.unusedVariables false
set_option maxRecDepth 100000

set_option maxHeartbeats 400000 in
theorem state_any (w : World) (b : Nat) (x : AJ) (h : Ads w b x) (hs : ¬ x.self = 0) : Calls Try.prog 11 #[.pointer (some ⟨b, 0, none⟩)] w fun e w' => e = .returned (.int .u8 x.state) ∧ w = w' := by
  have HM := made_yes w b x h hs
  have c14 : w.cell? ⟨b, 14, none⟩ = some (.int .u8 x.state) := h.cell 14
  have hb := h.lt
  clear h
  go_enter Try.func11, Try.ntmps11
  go_wp2_with ((go_at_call 27; refine Calls.mono HM ?_; rintro e w1 ⟨rfl, rfl⟩))
  go_ret
  exact ⟨rfl, rfl⟩
set_option maxHeartbeats 4000000 in
theorem load_one (base : Nat) (w : World) (b mm c c0 : Nat) (x : AJ) (h : Ads w b x) (hw : x.wm = .map (some mm)) (hk : KR base w x.keys) (hm : w.heap[mm]? = some (.map #[⟨K1, .agg #[.int .u16 0, .int .u8 0, .int .u8 1, .int .u32 2, .int .u32 2, .int .i32 (-2147483647), .int .u16 0, .int .u16 0], c0⟩] c)) (hbm : b ≠ mm) (hbb : b < base) (hmb : mm < base) (ha : x.asked = 1) : Calls Try.prog 43 #[.pointer (some ⟨b, 0, none⟩), .agg #[.int .u16 0, .int .u8 0, .int .u8 1, .int .u32 2, .int .u32 2, .int .i32 (-2147483647), .int .u16 0, .int .u16 0]] w fun e w' => e = .returned (.slice none 0 0) ∧ (∃ a d, Ads w' b { x with keys := .slice a 0 d, asked := 0, state := 3 }) ∧ Touch (fun k => k = b ∨ k = mm ∨ base ≤ k) w w' := by
  have T0 : Touch (fun _ => False) w (w.alloc (.cells #[.int .u16 0, .int .u8 0, .int .u8 1, .int .u32 2, .int .u32 2, .int .i32 (-2147483647), .int .u16 0, .int .u16 0] 50)) := (Touch.refl _ _).alloc _
  have R0 : Row (w.alloc (.cells #[.int .u16 0, .int .u8 0, .int .u8 1, .int .u32 2, .int .u32 2, .int .i32 (-2147483647), .int .u16 0, .int .u16 0] 50)) w.heap.size 50 [.int .u16 0, .int .u8 0, .int .u8 1, .int .u32 2, .int .u32 2, .int .i32 (-2147483647), .int .u16 0, .int .u16 0] := row_new _ _ _
  have HD : Hid (Calls Try.prog 51 #[.pointer (some ⟨b, 20, none⟩), .agg #[.int .u16 0, .int .u8 0, .int .u8 1, .int .u32 2, .int .u32 2, .int .i32 (-2147483647), .int .u16 0, .int .u16 0]] (w.alloc (.cells #[.int .u16 0, .int .u8 0, .int .u8 1, .int .u32 2, .int .u32 2, .int .i32 (-2147483647), .int .u16 0, .int .u16 0] 50)).drew fun e w' => e = .returned (.int .i64 0) ∧ ∃ a d, Ads w' b { x with keys := .slice a 0 d } ∧ Touch (fun k => k = b ∨ k = mm ∨ base ≤ k) (w.alloc (.cells #[.int .u16 0, .int .u8 0, .int .u8 1, .int .u32 2, .int .u32 2, .int .i32 (-2147483647), .int .u16 0, .int .u16 0] 50)).drew w') := drop_one base _ b mm c c0 x (h.keep T0.drew) hw (hk.keep T0.drew) (T0.drew.heapN hm) hbm hbb hmb
  have hb := (h.keep T0).lt
  have h0 : (w.alloc (.cells #[.int .u16 0, .int .u8 0, .int .u8 1, .int .u32 2, .int .u32 2, .int .i32 (-2147483647), .int .u16 0, .int .u16 0] 50)).cell? ⟨w.heap.size, 0, none⟩ = some (.int .u16 0) := R0.cell 0
  have h1 : (w.alloc (.cells #[.int .u16 0, .int .u8 0, .int .u8 1, .int .u32 2, .int .u32 2, .int .i32 (-2147483647), .int .u16 0, .int .u16 0] 50)).cell? ⟨w.heap.size, 1, none⟩ = some (.int .u8 0) := R0.cell 1
  have h2 : (w.alloc (.cells #[.int .u16 0, .int .u8 0, .int .u8 1, .int .u32 2, .int .u32 2, .int .i32 (-2147483647), .int .u16 0, .int .u16 0] 50)).cell? ⟨w.heap.size, 2, none⟩ = some (.int .u8 1) := R0.cell 2
  have h3 : (w.alloc (.cells #[.int .u16 0, .int .u8 0, .int .u8 1, .int .u32 2, .int .u32 2, .int .i32 (-2147483647), .int .u16 0, .int .u16 0] 50)).cell? ⟨w.heap.size, 3, none⟩ = some (.int .u32 2) := R0.cell 3
  have h4 : (w.alloc (.cells #[.int .u16 0, .int .u8 0, .int .u8 1, .int .u32 2, .int .u32 2, .int .i32 (-2147483647), .int .u16 0, .int .u16 0] 50)).cell? ⟨w.heap.size, 4, none⟩ = some (.int .u32 2) := R0.cell 4
  have h5 : (w.alloc (.cells #[.int .u16 0, .int .u8 0, .int .u8 1, .int .u32 2, .int .u32 2, .int .i32 (-2147483647), .int .u16 0, .int .u16 0] 50)).cell? ⟨w.heap.size, 5, none⟩ = some (.int .i32 (-2147483647)) := R0.cell 5
  have h6 : (w.alloc (.cells #[.int .u16 0, .int .u8 0, .int .u8 1, .int .u32 2, .int .u32 2, .int .i32 (-2147483647), .int .u16 0, .int .u16 0] 50)).cell? ⟨w.heap.size, 6, none⟩ = some (.int .u16 0) := R0.cell 6
  have h7 : (w.alloc (.cells #[.int .u16 0, .int .u8 0, .int .u8 1, .int .u32 2, .int .u32 2, .int .i32 (-2147483647), .int .u16 0, .int .u16 0] 50)).cell? ⟨w.heap.size, 7, none⟩ = some (.int .u16 0) := R0.cell 7
  have hh := R0.lt
  have HT0 : Hid (Touch (fun _ => False) w (w.alloc (.cells #[.int .u16 0, .int .u8 0, .int .u8 1, .int .u32 2, .int .u32 2, .int .i32 (-2147483647), .int .u16 0, .int .u16 0] 50)).drew) := T0.drew
  clear h hk hm T0 R0
  go_enter Try.func43, Try.ntmps43
  go_upto_region 1 with fail
  generalize w.alloc (.cells #[.int .u16 0, .int .u8 0, .int .u8 1, .int .u32 2, .int .u32 2, .int .i32 (-2147483647), .int .u16 0, .int .u16 0] 50) = wa at *
  generalize w.heap.size = g0 at *
  go_region_with (go_at_call 51; refine Calls.mono HD.out ?_; rintro e w1 ⟨rfl, a, d, ha1, t1⟩)
  all_goals
    have c22 : w1.cell? ⟨b, 22, none⟩ = some (.int .i64 1) := (ha1.cell 22).trans (by show some (Value.int .i64 x.asked) = _; rw [ha])
    have hf := ha1.frozen
    have hb1 := ha1.lt
    have HE : Hid (Calls Try.prog 57 #[.pointer (some ⟨b, 0, none⟩)] (w1.setCell ⟨b, 22, none⟩ (.int .i64 0)) fun e w' => e = .returned (.slice none 0 0) ∧ Ads w' b { x with keys := .slice a 0 d, asked := 0, state := 3 } ∧ Touch (fun k => k = b) (w1.setCell ⟨b, 22, none⟩ (.int .i64 0)) w') := end_full _ b _ a d (ha1.set22 0) rfl
    have T1 : Hid (Touch (fun k => k = b ∨ k = mm ∨ base ≤ k) w (w1.setCell ⟨b, 22, none⟩ (.int .i64 0))) := ((HT0.out.mono (fun _ _ f => f.elim)).trans t1).setCell (p := ⟨b, 22, none⟩) (Or.inl (Or.inl rfl)) _
    clear ha1 t1 HD h0 h1 h2 h3 h4 h5 h6 h7 hh HT0
    go_wp2_with fail
    refine Calls.mono HE.out ?_
    rintro e w2 ⟨rfl, ha2, t2⟩
    clear c22 hf
    go_wp2_with fail
    go_ret
    exact ⟨rfl, ⟨a, d, ha2⟩, T1.out.trans (t2.mono (fun _ _ e => Or.inl e))⟩
set_option maxHeartbeats 4000000 in
theorem got_one (base : Nat) (w : World) (b mm c c0 : Nat) (x : AJ) (h : Ads w b x) (hw : x.wm = .map (some mm)) (hk : KR base w x.keys) (hm : w.heap[mm]? = some (.map #[⟨K1, .agg #[.int .u16 0, .int .u8 0, .int .u8 1, .int .u32 2, .int .u32 2, .int .i32 (-2147483647), .int .u16 0, .int .u16 0], c0⟩] c)) (hbm : b ≠ mm) (hbb : b < base) (hmb : mm < base) (ha : x.asked = 1) (hself : ¬ x.self = 0) (hst : x.state = 2) : Calls Try.prog 20 #[.pointer (some ⟨b, 0, none⟩), .agg #[.int .u16 0, .int .u8 0, .int .u8 1, .int .u32 2, .int .u32 2, .int .i32 (-2147483647), .int .u16 0, .int .u16 0]] w fun e w' => e = .returned (.slice none 0 0) ∧ (∃ a d, Ads w' b { x with keys := .slice a 0 d, asked := 0, state := 3 }) ∧ Touch (fun k => k = b ∨ k = mm ∨ base ≤ k) w w' := by
  have T0 : Touch (fun _ => False) w (w.alloc (.cells #[.int .u16 0, .int .u8 0, .int .u8 1, .int .u32 2, .int .u32 2, .int .i32 (-2147483647), .int .u16 0, .int .u16 0] 50)) := (Touch.refl _ _).alloc _
  have R0 : Row (w.alloc (.cells #[.int .u16 0, .int .u8 0, .int .u8 1, .int .u32 2, .int .u32 2, .int .i32 (-2147483647), .int .u16 0, .int .u16 0] 50)) w.heap.size 50 [.int .u16 0, .int .u8 0, .int .u8 1, .int .u32 2, .int .u32 2, .int .i32 (-2147483647), .int .u16 0, .int .u16 0] := row_new _ _ _
  have hfl : ∀ w, (Instr.field 79 (.agg #[.func (.func 42) #[.pointer (some ⟨b, 0, none⟩)] #[], .func (.func 41) #[.pointer (some ⟨b, 0, none⟩)] #[], .func (.func 43) #[.pointer (some ⟨b, 0, none⟩)] #[], .func (.func 44) #[.pointer (some ⟨b, 0, none⟩)] #[]]) 2).run Try.prog w = .ok (.func (.func 43) #[.pointer (some ⟨b, 0, none⟩)] #[]) w := fun _ => rfl
  have HTN := turn_load (w.alloc (.cells #[.int .u16 0, .int .u8 0, .int .u8 1, .int .u32 2, .int .u32 2, .int .i32 (-2147483647), .int .u16 0, .int .u16 0] 50)).drew b x (h.keep T0.drew) hst
  have HMD := made_yes _ b x (h.keep T0) hself
  have HCL : Hid (∀ w1, Touch (fun _ => False) (w.alloc (.cells #[.int .u16 0, .int .u8 0, .int .u8 1, .int .u32 2, .int .u32 2, .int .i32 (-2147483647), .int .u16 0, .int .u16 0] 50)).drew w1 → Calls Try.prog 43 #[.pointer (some ⟨b, 0, none⟩), .agg #[.int .u16 0, .int .u8 0, .int .u8 1, .int .u32 2, .int .u32 2, .int .i32 (-2147483647), .int .u16 0, .int .u16 0]] w1 fun e w' => e = .returned (.slice none 0 0) ∧ (∃ a d, Ads w' b { x with keys := .slice a 0 d, asked := 0, state := 3 }) ∧ Touch (fun k => k = b ∨ k = mm ∨ base ≤ k) w1 w') := fun w1 t => load_one base w1 b mm c c0 x ((h.keep T0.drew).keep t) hw ((hk.keep T0.drew).keep t) (t.heapN (T0.drew.heapN hm)) hbm hbb hmb ha
  have h0 : (w.alloc (.cells #[.int .u16 0, .int .u8 0, .int .u8 1, .int .u32 2, .int .u32 2, .int .i32 (-2147483647), .int .u16 0, .int .u16 0] 50)).cell? ⟨w.heap.size, 0, none⟩ = some (.int .u16 0) := R0.cell 0
  have h1 : (w.alloc (.cells #[.int .u16 0, .int .u8 0, .int .u8 1, .int .u32 2, .int .u32 2, .int .i32 (-2147483647), .int .u16 0, .int .u16 0] 50)).cell? ⟨w.heap.size, 1, none⟩ = some (.int .u8 0) := R0.cell 1
  have h2 : (w.alloc (.cells #[.int .u16 0, .int .u8 0, .int .u8 1, .int .u32 2, .int .u32 2, .int .i32 (-2147483647), .int .u16 0, .int .u16 0] 50)).cell? ⟨w.heap.size, 2, none⟩ = some (.int .u8 1) := R0.cell 2
  have h3 : (w.alloc (.cells #[.int .u16 0, .int .u8 0, .int .u8 1, .int .u32 2, .int .u32 2, .int .i32 (-2147483647), .int .u16 0, .int .u16 0] 50)).cell? ⟨w.heap.size, 3, none⟩ = some (.int .u32 2) := R0.cell 3
  have h4 : (w.alloc (.cells #[.int .u16 0, .int .u8 0, .int .u8 1, .int .u32 2, .int .u32 2, .int .i32 (-2147483647), .int .u16 0, .int .u16 0] 50)).cell? ⟨w.heap.size, 4, none⟩ = some (.int .u32 2) := R0.cell 4
  have h5 : (w.alloc (.cells #[.int .u16 0, .int .u8 0, .int .u8 1, .int .u32 2, .int .u32 2, .int .i32 (-2147483647), .int .u16 0, .int .u16 0] 50)).cell? ⟨w.heap.size, 5, none⟩ = some (.int .i32 (-2147483647)) := R0.cell 5
  have h6 : (w.alloc (.cells #[.int .u16 0, .int .u8 0, .int .u8 1, .int .u32 2, .int .u32 2, .int .i32 (-2147483647), .int .u16 0, .int .u16 0] 50)).cell? ⟨w.heap.size, 6, none⟩ = some (.int .u16 0) := R0.cell 6
  have h7 : (w.alloc (.cells #[.int .u16 0, .int .u8 0, .int .u8 1, .int .u32 2, .int .u32 2, .int .i32 (-2147483647), .int .u16 0, .int .u16 0] 50)).cell? ⟨w.heap.size, 7, none⟩ = some (.int .u16 0) := R0.cell 7
  have hh := R0.lt
  have HT0 : Hid (Touch (fun _ => False) w (w.alloc (.cells #[.int .u16 0, .int .u8 0, .int .u8 1, .int .u32 2, .int .u32 2, .int .i32 (-2147483647), .int .u16 0, .int .u16 0] 50)).drew) := T0.drew
  clear h hk hm T0 R0
  go_enter Try.func20, Try.ntmps20
  go_upto_region 3 with (go_at_call 27; refine Calls.mono HMD ?_; rintro e w9 ⟨rfl, rfl⟩)
  generalize w.alloc (.cells #[.int .u16 0, .int .u8 0, .int .u8 1, .int .u32 2, .int .u32 2, .int .i32 (-2147483647), .int .u16 0, .int .u16 0] 50) = wa at *
  generalize w.heap.size = g0 at *
  go_region_with (first | (go_at_call 28; refine Calls.mono HTN ?_; rintro e w1 ⟨rfl, t1⟩; have z0 := t1.cellN h0; have z1 := t1.cellN h1; have z2 := t1.cellN h2; have z3 := t1.cellN h3; have z4 := t1.cellN h4; have z5 := t1.cellN h5; have z6 := t1.cellN h6; have z7 := t1.cellN h7; have hz := lt_of_cell z0) | (go_at_call 43; refine Calls.mono (HCL.out _ t1) ?_; rintro e w2 ⟨rfl, hq, t2⟩))
  all_goals
    clear h0 h1 h2 h3 h4 h5 h6 h7 z0 z1 z2 z3 z4 z5 z6 z7 hz hh HCL HTN
    go_wp2_with fail
    go_ret
    exact ⟨rfl, hq, ((HT0.out.trans t1).mono (fun _ _ f => f.elim)).trans t2⟩
end Go.Proofs.Ytojlnabhaglejaa
