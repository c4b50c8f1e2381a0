/- Contracts: write, of summaries and of types that are none. -/
import Derived.Test.YtfdpmlogieaiaaaStWriteS
import Derived.Test.YtfdpmlogieaiaaaStPairs
import Derived.Test.YtfdpmlogieaiaaaStEnc1
namespace Go.Proofs.Ytfdpmlogieaiaaa
open Go.RowKit
set_option linter.unusedVariables false
set_option maxRecDepth 100000

theorem write_none (B : BV) (t : Int) (a1 a3 a8 : Option Addr) (n1 q1 n3 q3 n8 q8 : Nat) (w : World) (HP : ∀ w, Calls Try.prog 29 #[.int .u8 t] w fun e w' => e = .panicked (flawC 21) ∧ Touch (fun _ => False) w w') :
    Calls Try.prog 20 #[.int .u8 t, .agg #[.int .u8 B.flags, .slice a1 n1 q1, .int .u32 B.mask, .slice a3 n3 q3, .int .u32 B.metric, .bool B.type2, .int .u32 B.fwd, .int .u32 B.tag, .slice a8 n8 q8]] w fun e w' => e = .panicked (flawC 21) ∧ Touch (fun _ => False) w w' := by
  have HPh : Hid (∀ w, Calls Try.prog 29 #[.int .u8 t] w fun e w' => e = .panicked (flawC 21) ∧ Touch (fun _ => False) w w') := HP
  clear HP
  have hfl : ∀ w, (Instr.field 64 (.agg #[.func (.func 68) #[] #[], .func (.func 69) #[] #[]]) 0).run Try.prog w = .ok (.func (.func 68) #[] #[]) w := fun _ => by kernel_rfl
  go_enter Try.func20, Try.ntmps20
  go_wp2_with fail
  refine Calls.mono (write_w 65515 _ (by omega)) ?_
  rintro e w1 ⟨rfl, hw1, t1⟩
  have T1 : Hid (Touch (fun _ => False) w w1) := ((Touch.refl _ w).alloc _).trans t1
  clear t1 hw1
  go_upto_region 2 with fail
  have TB : Hid (Touch (fun _ => False) w (w1.alloc (.cells #[.pointer (some ⟨w.heap.size + 1, 0, none⟩)] 76)).drew) := (T1.out.alloc _).drew
  have y0 : (w1.alloc (.cells #[.pointer (some ⟨w.heap.size + 1, 0, none⟩)] 76)).drew.cell? ⟨w1.heap.size, 0, none⟩ = some (.pointer (some ⟨w.heap.size + 1, 0, none⟩)) := by simp [go_sem]
  generalize (w1.alloc (.cells #[.pointer (some ⟨w.heap.size + 1, 0, none⟩)] 76)) = w2 at *
  go_region_held2 (fun w' => w'.cell? ⟨w1.heap.size, 0, none⟩ = some (.pointer (some ⟨w.heap.size + 1, 0, none⟩))) (first | with_reducible exact y0 | with_reducible exact y1) (first
    | (go_at_call 29; refine Calls.mono (Calls.never (.agg #[.func (.func 68) #[] #[], .func (.func 69) #[] #[]]) (HPh.out _)) ?_; rintro e w3 (⟨rfl, t3⟩ | ⟨HF, rfl⟩); exact ⟨rfl, rfl, TB.out.trans t3⟩; have y1 : w3.cell? ⟨w1.heap.size, 0, none⟩ = some (.pointer (some ⟨w.heap.size + 1, 0, none⟩)) := HF.out.elim)
    | (go_at_call 68; refine Calls.mono (HF.out.elim : Calls Try.prog 68 #[_, _] w3 fun e w' => e = .returned (.tuple #[]) ∧ w3 = w') ?_; rintro e w5 ⟨rfl, rfl⟩))
  exact HF.out.elim
set_option maxHeartbeats 1000000 in
theorem write_sum (B : BV) (ok : B.Ok) (a1 a3 a8 : Option Addr) (n1 q1 n3 q3 n8 q8 : Nat) (w : World) (hp : pbok B.mask = true) (hq : B.metric ≤ 16777215)
    (z0 : B.flags = 0) (z1 : n1 = 0) (z3 : n3 = 0) (z5 : B.type2 = false) (z6 : B.fwd = 0) (z7 : B.tag = 0) (z8 : n8 = 0) :
    Calls Try.prog 20 #[.int .u8 3, .agg #[.int .u8 B.flags, .slice a1 n1 q1, .int .u32 B.mask, .slice a3 n3 q3, .int .u32 B.metric, .bool B.type2, .int .u32 B.fwd, .int .u32 B.tag, .slice a8 n8 q8]] w fun e w' => ∃ u, e = .returned u ∧ Buf w w' u (numBytes 4 B.mask ++ [0] ++ numBytes 3 B.metric) := by
  have OK : Hid B.Ok := ok
  have HZ : Hid (B.flags = 0 ∧ n1 = 0 ∧ n3 = 0 ∧ B.type2 = false ∧ B.fwd = 0 ∧ B.tag = 0 ∧ n8 = 0) := ⟨z0, z1, z3, z5, z6, z7, z8⟩
  clear ok z0 z1 z3 z5 z6 z7 z8
  have hfl : ∀ w, (Instr.field 64 (.agg #[.func (.func 68) #[] #[], .func (.func 69) #[] #[]]) 0).run Try.prog w = .ok (.func (.func 68) #[] #[]) w := fun _ => by kernel_rfl
  go_enter Try.func20, Try.ntmps20
  go_wp2_with fail
  refine Calls.mono (write_w 65515 _ (by omega)) ?_
  rintro e w1 ⟨rfl, hw1, t1⟩
  have O1 := (OutB.new w B (.slice a1 n1 q1) (.slice a3 n3 q3) (.slice a8 n8 q8) 30).keep t1
  have T1 : Hid (Touch (fun _ => False) w w1) := ((Touch.refl _ w).alloc _).trans t1
  simp only [World.size_alloc] at hw1 t1 ⊢
  have hsz : w.heap.size + 1 < w1.heap.size := hw1.lt
  have HO1 : Hid (OutB w1 w.heap.size B (.slice a1 n1 q1) (.slice a3 n3 q3) (.slice a8 n8 q8)) := O1
  have HW1 : Hid (Wr (fun k => k < w.heap.size + 1) w1 (w.heap.size + 1) [] 65515) := hw1
  clear t1 hw1 O1
  go_upto_region 2 with fail
  have hW2 : Wr (fun k => k < w.heap.size + 1 ∨ k = w1.heap.size) (w1.alloc (.cells #[.pointer (some ⟨w.heap.size + 1, 0, none⟩)] 76)).drew (w.heap.size + 1) [] 65515 := HW1.out.more (((Touch.refl _ _).alloc _).drew) (fun k hk => by rcases hk with hk | hk; exact Or.inl hk; exact Or.inr ⟨by omega, by simp [World.drew]; omega⟩)
  have HW2 : Hid (Wr (fun k => k < w.heap.size + 1 ∨ k = w1.heap.size) (w1.alloc (.cells #[.pointer (some ⟨w.heap.size + 1, 0, none⟩)] 76)).drew (w.heap.size + 1) [] 65515) := hW2
  have HO2 : Hid (OutB (w1.alloc (.cells #[.pointer (some ⟨w.heap.size + 1, 0, none⟩)] 76)).drew w.heap.size B (.slice a1 n1 q1) (.slice a3 n3 q3) (.slice a8 n8 q8)) := HO1.out.keep (((Touch.refl _ _).alloc _).drew)
  have TB : Hid (Touch (fun _ => False) w (w1.alloc (.cells #[.pointer (some ⟨w.heap.size + 1, 0, none⟩)] 76)).drew) := (T1.out.alloc _).drew
  have y0 : (w1.alloc (.cells #[.pointer (some ⟨w.heap.size + 1, 0, none⟩)] 76)).drew.cell? ⟨w1.heap.size, 0, none⟩ = some (.pointer (some ⟨w.heap.size + 1, 0, none⟩)) := by simp [go_sem]
  clear hW2 HW1 HO1 T1
  generalize (w1.alloc (.cells #[.pointer (some ⟨w.heap.size + 1, 0, none⟩)] 76)) = w2 at *
  go_region_held3 (fun w' => w'.cell? ⟨w1.heap.size, 0, none⟩ = some (.pointer (some ⟨w.heap.size + 1, 0, none⟩))) (first | with_reducible exact y0 | with_reducible exact y1 | with_reducible exact y4) (first
    | (go_at_call 29; refine Calls.mono (pairOf_3 _) ?_; rintro e w3 ⟨rfl, t3⟩; have y1 := t3.cellN y0; have HW3 : Hid (Wr _ w3 (w.heap.size + 1) [] 65515) := HW2.out.keep t3; have HO3 : Hid (OutB w3 w.heap.size B (.slice a1 n1 q1) (.slice a3 n3 q3) (.slice a8 n8 q8)) := HO2.out.keep t3; have T3 : Hid (Touch (fun _ => False) w w3) := TB.out.trans t3; clear t3)
    | (go_at_call 68; refine Calls.mono (wsum_ok (fun k => k < w.heap.size + 1 ∨ k = w1.heap.size) (w.heap.size + 1) w.heap.size [] 65515 B (.slice a1 n1 q1) (.slice a3 n3 q3) (.slice a8 n8 q8) OK.out _ HW3.out (by omega) (Or.inl (by omega)) HO3.out hp hq) ?_; rintro e w4 ⟨rfl, hw4, o4, k4⟩; have y4 := k4.cell y1 ⟨Or.inr rfl, by show w1.heap.size ≠ w.heap.size; omega⟩; have T4 : Hid (Touch (fun _ => False) w w4) := Kept.after k4 T3.out (fun i hi => ⟨Or.inl (by omega), by omega⟩); have HW4 : Hid (Wr _ w4 (w.heap.size + 1) ([] ++ numBytes 4 B.mask ++ [0] ++ numBytes 3 B.metric) 65515) := hw4; have HO4 : Hid (OutB w4 w.heap.size { B with mask := 0, metric := 0 } (.slice a1 n1 q1) (.slice a3 n3 q3) (.slice a8 n8 q8)) := o4; clear k4 hw4 o4))
  clear y0 y1 HW3 HO3 T3 HW2 HO2 TB
  obtain ⟨⟨d0, d1, d2, d3, d4, d5, d6, d7, d8⟩, -⟩ := HO4.out
  dsimp only at d0 d1 d2 d3 d4 d5 d6 d7 d8
  have hnn : n1 ≤ 140737488355328 ∧ n3 ≤ 140737488355328 ∧ n8 ≤ 140737488355328 := by obtain ⟨-, h1, h3, -, -, -, h8⟩ := HZ.out; omega
  have hbar : ((((n1 : Int) + n3 + n8 == 0) && (B.flags == 0) && ((0 : Int) == 0) && ((0 : Int) == 0) && (!B.type2) && (B.fwd == 0) && (B.tag == 0)) = true) := by
    obtain ⟨h0, h1, h3, h5, h6, h7, h8⟩ := HZ.out
    simp [h0, h1, h3, h5, h6, h7, h8]
  have HBR : Hid (((((n1 : Int) + n3 + n8 == 0) && (B.flags == 0) && ((0 : Int) == 0) && ((0 : Int) == 0) && (!B.type2) && (B.fwd == 0) && (B.tag == 0)) = true)) := hbar
  clear hbar
  go_wp2_with fail
  refine Calls.mono (bare_any B.flags 0 0 B.fwd B.tag B.type2 a1 a3 a8 n1 q1 n3 q3 n8 q8 _ hnn.1 hnn.2.1 hnn.2.2) ?_
  rw [HBR.out]
  rintro e w5 ⟨rfl, t5⟩
  have y5 := t5.cellN y4
  have HW5 : Hid (Wr _ w5 (w.heap.size + 1) ([] ++ numBytes 4 B.mask ++ [0] ++ numBytes 3 B.metric) 65515) := HW4.out.keep t5
  have T5 : Hid (Touch (fun _ => False) w w5) := T4.out.trans t5
  clear t5 y4 d0 d1 d2 d3 d4 d5 d6 d7 d8 HO4 HW4 T4 hnn
  go_wp2_with fail
  refine Calls.mono (need_t _ 28 _ rfl) ?_
  rintro e w6 ⟨rfl, rfl⟩
  go_wp2_with fail
  refine Calls.mono (done_w _ (w.heap.size + 1) _ 65515 _ HW5.out (by simp [numBytes]) (by omega)) ?_
  rintro e w6 ⟨u, rfl, b6⟩
  obtain ⟨ua, uc, rfl⟩ := b6.form
  have B6 : Hid (Buf w w6 _ ([] ++ numBytes 4 B.mask ++ [0] ++ numBytes 3 B.metric)) := b6.back T5.out
  clear b6 y5
  go_wp2_with fail
  refine Calls.mono (need_t _ _ _ rfl) ?_
  rintro e w7 ⟨rfl, rfl⟩
  go_wp2
  go_ret
  exact ⟨_, rfl, by simpa using B6.out⟩
end Go.Proofs.Ytfdpmlogieaiaaa
