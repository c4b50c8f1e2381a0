
/- A router that takes one head. -/
import Derived.Test.YtojlnabhaglejaaAdGot2
namespace Go.Proofs.Ytojlnabhaglejaa
open Go.RowKit
set_option linter.unusedVariables false
set_option maxRecDepth 100000

set_option maxHeartbeats 8000000 in
theorem works14 (w : World) : Calls Try.prog 6 #[] w fun e w' => e = .returned (.bool true) ∧ Touch (fun _ => False) w w' := by
  have HN := new_any w 1 2 0 2 5 100 65535 (by decide) (by decide) (by decide) (by decide)
  go_enter Try.func6, Try.ntmps6
  go_wp2_with fail
  refine Calls.mono HN ?_
  rintro e w1 ⟨b, v1, m, rfl, ⟨g1, rfl, hg1, r1⟩, ha1, hm1, hwb, hbm, t1⟩
  have q3 : w1.cell? ⟨g1, 3, none⟩ = some (.int .u8 7) := r1.cell 3
  have q4 : w1.cell? ⟨g1, 4, none⟩ = some (.int .u32 100) := r1.cell 4
  have hg1 := r1.lt
  have X1 : Hid (Ads w1 b (AJ.new 1 2 0 2 5 100 65535 m) ∧ w1.heap[m]? = some (.map #[] 0) ∧ Touch (fun _ => False) w w1) := ⟨ha1, hm1, t1⟩
  have HB : Hid (w.heap.size ≤ b ∧ b < m) := ⟨hwb, hbm⟩
  clear HN r1 ha1 hm1 t1 hwb hbm
  go_wp2_with fail
  have t2 : Touch (fun _ => False) w1 (w1.alloc (.cells #[.int .u16 0, .int .u8 0, .int .u8 1, .int .u32 2, .int .u32 2, .int .i32 (-2147483647), .int .u16 0, .int .u16 0] 50)) := (Touch.refl _ _).alloc _
  have r2 : Row (w1.alloc (.cells #[.int .u16 0, .int .u8 0, .int .u8 1, .int .u32 2, .int .u32 2, .int .i32 (-2147483647), .int .u16 0, .int .u16 0] 50)) w1.heap.size 50 [.int .u16 0, .int .u8 0, .int .u8 1, .int .u32 2, .int .u32 2, .int .i32 (-2147483647), .int .u16 0, .int .u16 0] := row_new _ _ _
  obtain ⟨ha1, hm1, t1⟩ := X1.out
  have ha2 := ha1.keep t2
  have hm2 := t2.heapN hm1
  have T2 := t1.trans t2
  have hbh : b ≠ w1.heap.size := by have := ha1.lt; omega
  have hmh : m ≠ w1.heap.size := by have := lt_of_heap hm1; omega
  generalize w1.alloc (.cells #[.int .u16 0, .int .u8 0, .int .u8 1, .int .u32 2, .int .u32 2, .int .i32 (-2147483647), .int .u16 0, .int .u16 0] 50) = w2 at *
  generalize w1.heap.size = gh at *
  clear X1 ha1 hm1 t1 t2 q3 q4 hg1
  refine Calls.mono (describe_first w2 b _ 0 2 40 ha2 (by show ¬ (1 : Int) = 0; decide) (by show (1 : Int) < 2; decide) rfl rfl) ?_
  rintro e w3 ⟨v2, rfl, ha3, t3⟩
  have hm3 : w3.heap[m]? = some (.map #[] 0) := (t3.block m (lt_of_heap hm2) (fun e => by have := HB.out; omega)).trans hm2
  have r3 : Row w3 gh 50 [.int .u16 0, .int .u8 0, .int .u8 1, .int .u32 2, .int .u32 2, .int .i32 (-2147483647), .int .u16 0, .int .u16 0] := (t3.block gh r2.lt (fun e => hbh e.symm)).trans r2
  have T3 : Touch (fun _ => False) w w3 := T2.trans' t3 (fun i hi e => by have := HB.out; omega)
  have h0 : w3.cell? ⟨gh, 0, none⟩ = some (.int .u16 0) := r3.cell 0
  have h1 : w3.cell? ⟨gh, 1, none⟩ = some (.int .u8 0) := r3.cell 1
  have h2 : w3.cell? ⟨gh, 2, none⟩ = some (.int .u8 1) := r3.cell 2
  have h3 : w3.cell? ⟨gh, 3, none⟩ = some (.int .u32 2) := r3.cell 3
  have h4 : w3.cell? ⟨gh, 4, none⟩ = some (.int .u32 2) := r3.cell 4
  have h5 : w3.cell? ⟨gh, 5, none⟩ = some (.int .i32 (-2147483647)) := r3.cell 5
  have h6 : w3.cell? ⟨gh, 6, none⟩ = some (.int .u16 0) := r3.cell 6
  have h7 : w3.cell? ⟨gh, 7, none⟩ = some (.int .u16 0) := r3.cell 7
  have hh3 := r3.lt
  have X3 : Hid (Ads w3 b _ ∧ w3.heap[m]? = some (.map #[] 0) ∧ Touch (fun _ => False) w w3 ∧ Row w3 gh 50 [.int .u16 0, .int .u8 0, .int .u8 1, .int .u32 2, .int .u32 2, .int .i32 (-2147483647), .int .u16 0, .int .u16 0]) := ⟨ha3, hm3, T3, r3⟩
  clear ha2 hm2 T2 r2 t3 ha3 hm3 T3 r3
  go_wp2_with fail
  have t4 : Touch (fun _ => False) w3 (w3.alloc (.cells #[.int .u16 0, .int .u8 0, .int .u8 1, .int .u32 2, .int .u32 2, .int .i32 (-2147483647), .int .u16 0, .int .u16 0] 50)) := (Touch.refl _ _).alloc _
  have r4 : Row (w3.alloc (.cells #[.int .u16 0, .int .u8 0, .int .u8 1, .int .u32 2, .int .u32 2, .int .i32 (-2147483647), .int .u16 0, .int .u16 0] 50)) w3.heap.size 50 [.int .u16 0, .int .u8 0, .int .u8 1, .int .u32 2, .int .u32 2, .int .i32 (-2147483647), .int .u16 0, .int .u16 0] := row_new _ _ _
  obtain ⟨ha3, hm3, T3, r3⟩ := X3.out
  have ha4 := ha3.keep t4
  have hm4 := t4.heapN hm3
  have T4 := T3.trans t4
  have r4h := r3.keep t4
  have hbs : b ≠ w3.heap.size := by have := ha3.lt; omega
  generalize w3.alloc (.cells #[.int .u16 0, .int .u8 0, .int .u8 1, .int .u32 2, .int .u32 2, .int .i32 (-2147483647), .int .u16 0, .int .u16 0] 50) = w4 at *
  generalize w3.heap.size = gs at *
  clear X3 ha3 hm3 T3 r3 t4 h0 h1 h2 h3 h4 h5 h6 h7 hh3
  have HD2 := describe_second w4 b m 0 gs _ 0 2 41 ha4 rfl rfl rfl rfl hm4 (by have := HB.out; omega) r4 (fun e => hbs e.symm) rfl rfl (by show IntKind.u32.wrap (40 + 1) = 41; decide) (by show ¬ (1 : Int) = 0; decide) rfl rfl
  refine Calls.mono HD2 ?_
  rintro e w5 ⟨v3, kv, rfl, ⟨g5, c5, ka, kd, rfl, hg5, hc5, k13⟩, ha5, kr5, hm5, t5⟩
  have r5h : Row w5 gh 50 [.int .u16 0, .int .u8 0, .int .u8 1, .int .u32 2, .int .u32 2, .int .i32 (-2147483647), .int .u16 0, .int .u16 0] := (t5.block gh r4h.lt (fun e => by rcases e with e | e; exact hbh e.symm; exact hmh e.symm)).trans r4h
  have T5 : Touch (fun _ => False) w w5 := T4.trans' t5 (fun i hi e => by have := HB.out; omega)
  have hc5' : (2 : Int) ≤ (c5 : Int) := by omega
  have hbb := ha4.lt
  have hmb := lt_of_heap hm4
  have HST := state_any w5 b _ ha5 (by show ¬ (1 : Int) = 0; decide)
  have HGO := got_one w4.heap.size w5 b m _ 0 _ ha5 rfl kr5 hm5 (by have := HB.out; omega) hbb hmb rfl (by show ¬ (1 : Int) = 0; decide) rfl
  have h0 : w5.cell? ⟨gh, 0, none⟩ = some (.int .u16 0) := r5h.cell 0
  have h1 : w5.cell? ⟨gh, 1, none⟩ = some (.int .u8 0) := r5h.cell 1
  have h2 : w5.cell? ⟨gh, 2, none⟩ = some (.int .u8 1) := r5h.cell 2
  have h3 : w5.cell? ⟨gh, 3, none⟩ = some (.int .u32 2) := r5h.cell 3
  have h4 : w5.cell? ⟨gh, 4, none⟩ = some (.int .u32 2) := r5h.cell 4
  have h5 : w5.cell? ⟨gh, 5, none⟩ = some (.int .i32 (-2147483647)) := r5h.cell 5
  have h6 : w5.cell? ⟨gh, 6, none⟩ = some (.int .u16 0) := r5h.cell 6
  have h7 : w5.cell? ⟨gh, 7, none⟩ = some (.int .u16 0) := r5h.cell 7
  have hh5 := r5h.lt
  have HT5 : Hid (Touch (fun _ => False) w w5 ∧ w.heap.size ≤ w4.heap.size) := ⟨T5, T4.size⟩
  clear ha4 hm4 T4 r4 r4h HD2 t5 ha5 kr5 hm5 T5 r5h
  go_wp2_with fail
  refine Calls.mono HST ?_
  rintro e w9 ⟨rfl, rfl⟩
  go_wp2_with fail
  refine Calls.mono HGO ?_
  rintro e w6 ⟨rfl, ⟨a6, d6, ha6⟩, t6⟩
  have HS6 := state_any w6 b _ ha6 (by show ¬ (1 : Int) = 0; decide)
  have T6 : Hid (Touch (fun _ => False) w w6) := HT5.out.1.trans' t6 (fun i hi e => by have := HB.out; have := HT5.out.2; omega)
  clear HST HGO ha6 t6 h0 h1 h2 h3 h4 h5 h6 h7 hh5 k13
  go_wp2_with fail
  refine Calls.mono HS6 ?_
  rintro e w7 ⟨rfl, rfl⟩
  go_wp2_with fail
  go_ret
  exact ⟨rfl, T6.out⟩
end Go.Proofs.Ytojlnabhaglejaa
