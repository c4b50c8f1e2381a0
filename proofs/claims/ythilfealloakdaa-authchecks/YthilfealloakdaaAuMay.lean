/- May a key be? -/
import Derived.Test.YthilfealloakdaaDigBuf
import Derived.Test.YthilfealloakdaaAuRow
namespace Go.Proofs.Ythilfealloakdaa
open Go.RowKit
set_option linter.unusedVariables false
set_option maxRecDepth 100000

/-- A key in a block of its own. -/
def KBox (w : World) (b : Nat) (i kd : Int) (ka : Option Addr) (kn kc : Nat) (sf su tf tu : Int) : Prop := Row w b 50 [.int .u8 i, .int .u16 kd, .slice ka kn kc, .int .i64 sf, .int .i64 su, .int .i64 tf, .int .i64 tu]
theorem KBox.keep {w w' : World} {b : Nat} {i kd : Int} {ka : Option Addr} {kn kc : Nat} {sf su tf tu : Int} (h : KBox w b i kd ka kn kc sf su tf tu) (t : Touch (fun _ => False) w w') : KBox w' b i kd ka kn kc sf su tf tu := Row.keep h t
theorem kbox_new (w : World) (i kd : Int) (ka : Option Addr) (kn kc : Nat) (sf su tf tu : Int) : KBox (w.alloc (.cells #[.int .u8 i, .int .u16 kd, .slice ka kn kc, .int .i64 sf, .int .i64 su, .int .i64 tf, .int .i64 tu] 50)) w.heap.size i kd ka kn kc sf su tf tu := row_new w 50 _
theorem KBox.c0 {w : World} {b : Nat} {i kd : Int} {ka : Option Addr} {kn kc : Nat} {sf su tf tu : Int} (h : KBox w b i kd ka kn kc sf su tf tu) : w.cell? ⟨b, 0, none⟩ = some (.int .u8 i) := Row.cell h 0
theorem KBox.c1 {w : World} {b : Nat} {i kd : Int} {ka : Option Addr} {kn kc : Nat} {sf su tf tu : Int} (h : KBox w b i kd ka kn kc sf su tf tu) : w.cell? ⟨b, 1, none⟩ = some (.int .u16 kd) := Row.cell h 1
theorem KBox.c2 {w : World} {b : Nat} {i kd : Int} {ka : Option Addr} {kn kc : Nat} {sf su tf tu : Int} (h : KBox w b i kd ka kn kc sf su tf tu) : w.cell? ⟨b, 2, none⟩ = some (.slice ka kn kc) := Row.cell h 2
theorem KBox.c3 {w : World} {b : Nat} {i kd : Int} {ka : Option Addr} {kn kc : Nat} {sf su tf tu : Int} (h : KBox w b i kd ka kn kc sf su tf tu) : w.cell? ⟨b, 3, none⟩ = some (.int .i64 sf) := Row.cell h 3
theorem KBox.c4 {w : World} {b : Nat} {i kd : Int} {ka : Option Addr} {kn kc : Nat} {sf su tf tu : Int} (h : KBox w b i kd ka kn kc sf su tf tu) : w.cell? ⟨b, 4, none⟩ = some (.int .i64 su) := Row.cell h 4
theorem KBox.c5 {w : World} {b : Nat} {i kd : Int} {ka : Option Addr} {kn kc : Nat} {sf su tf tu : Int} (h : KBox w b i kd ka kn kc sf su tf tu) : w.cell? ⟨b, 5, none⟩ = some (.int .i64 tf) := Row.cell h 5
theorem KBox.c6 {w : World} {b : Nat} {i kd : Int} {ka : Option Addr} {kn kc : Nat} {sf su tf tu : Int} (h : KBox w b i kd ka kn kc sf su tf tu) : w.cell? ⟨b, 6, none⟩ = some (.int .i64 tu) := Row.cell h 6
set_option maxHeartbeats 1000000 in
theorem may_a (w : World) (i kd : Int) (ka : Option Addr) (kn kc : Nat) (sf su tf tu : Int) (hA : spanB sf su = false) :
    Calls Try.prog 24 #[.agg #[.int .u8 i, .int .u16 kd, .slice ka kn kc, .int .i64 sf, .int .i64 su, .int .i64 tf, .int .i64 tu]] w fun e w' => e = .returned (.bool false) ∧ Touch (fun _ => False) w w' := by
  have HS := fun w => sending_any w i kd ka kn kc sf su tf tu
  have HT := fun w => taking_any w i kd ka kn kc sf su tf tu
  have HP := fun w => span_any w sf su
  have HQ := fun w => span_any w tf tu
  have HL := fun w => longest_any w kd
  go_enter Try.func24, Try.ntmps24
  go_wp2_with fail
  have r0 := kbox_new w i kd ka kn kc sf su tf tu
  have t0 : Hid (Touch (fun _ => False) w (w.alloc (.cells #[.int .u8 i, .int .u16 kd, .slice ka kn kc, .int .i64 sf, .int .i64 su, .int .i64 tf, .int .i64 tu] 50))) := (Touch.refl _ _).alloc _
  generalize w.alloc (.cells #[.int .u8 i, .int .u16 kd, .slice ka kn kc, .int .i64 sf, .int .i64 su, .int .i64 tf, .int .i64 tu] 50) = wa at r0 t0 ⊢
  refine Calls.mono (HS _) ?_
  rintro e w1 ⟨rfl, t1⟩
  have r1 := r0.keep t1
  replace t1 : Hid (Touch (fun _ => False) w w1) := t0.out.trans t1
  clear r0 t0
  go_wp2_with fail
  refine Calls.mono (HP _) ?_
  rintro e w2 ⟨rfl, rfl⟩
  rw [hA]
  go_wp2_with fail
  go_region
  go_wp2_with fail
  go_ret
  exact ⟨rfl, t1.out.trans ((Touch.refl _ _).drew)⟩
set_option maxHeartbeats 1000000 in
theorem may_b (w : World) (i kd : Int) (ka : Option Addr) (kn kc : Nat) (sf su tf tu : Int) (hA : spanB sf su = true) (hB : spanB tf tu = false) :
    Calls Try.prog 24 #[.agg #[.int .u8 i, .int .u16 kd, .slice ka kn kc, .int .i64 sf, .int .i64 su, .int .i64 tf, .int .i64 tu]] w fun e w' => e = .returned (.bool false) ∧ Touch (fun _ => False) w w' := by
  have HS := fun w => sending_any w i kd ka kn kc sf su tf tu
  have HT := fun w => taking_any w i kd ka kn kc sf su tf tu
  have HP := fun w => span_any w sf su
  have HQ := fun w => span_any w tf tu
  have HL := fun w => longest_any w kd
  go_enter Try.func24, Try.ntmps24
  go_wp2_with fail
  have r0 := kbox_new w i kd ka kn kc sf su tf tu
  have t0 : Hid (Touch (fun _ => False) w (w.alloc (.cells #[.int .u8 i, .int .u16 kd, .slice ka kn kc, .int .i64 sf, .int .i64 su, .int .i64 tf, .int .i64 tu] 50))) := (Touch.refl _ _).alloc _
  generalize w.alloc (.cells #[.int .u8 i, .int .u16 kd, .slice ka kn kc, .int .i64 sf, .int .i64 su, .int .i64 tf, .int .i64 tu] 50) = wa at r0 t0 ⊢
  refine Calls.mono (HS _) ?_
  rintro e w1 ⟨rfl, t1⟩
  have r1 := r0.keep t1
  replace t1 : Hid (Touch (fun _ => False) w w1) := t0.out.trans t1
  clear r0 t0
  go_wp2_with fail
  refine Calls.mono (HP _) ?_
  rintro e w2 ⟨rfl, rfl⟩
  rw [hA]
  have c0 := r1.c0
  have c1 := r1.c1
  have c2 := r1.c2
  have c3 := r1.c3
  have c4 := r1.c4
  have c5 := r1.c5
  have c6 := r1.c6
  go_wp2_with fail
  refine Calls.mono (HT _) ?_
  rintro e w2 ⟨rfl, t2⟩
  have r2 := r1.keep t2
  replace t2 : Hid (Touch (fun _ => False) w w2) := t1.out.trans t2
  clear r1 t1 c0 c1 c2 c3 c4 c5 c6
  go_wp2_with fail
  refine Calls.mono (HQ _) ?_
  rintro e w3 ⟨rfl, rfl⟩
  rw [hB]
  go_wp2_with fail
  go_region
  go_wp2_with fail
  go_ret
  exact ⟨rfl, t2.out.trans ((Touch.refl _ _).drew)⟩
set_option maxHeartbeats 1000000 in
theorem may_c (w : World) (i kd : Int) (ka : Option Addr) (kn kc : Nat) (sf su tf tu : Int) (hA : spanB sf su = true) (hB : spanB tf tu = true) (hC : ¬ (1 : Int) ≤ (kn : Int)) :
    Calls Try.prog 24 #[.agg #[.int .u8 i, .int .u16 kd, .slice ka kn kc, .int .i64 sf, .int .i64 su, .int .i64 tf, .int .i64 tu]] w fun e w' => e = .returned (.bool false) ∧ Touch (fun _ => False) w w' := by
  have HS := fun w => sending_any w i kd ka kn kc sf su tf tu
  have HT := fun w => taking_any w i kd ka kn kc sf su tf tu
  have HP := fun w => span_any w sf su
  have HQ := fun w => span_any w tf tu
  have HL := fun w => longest_any w kd
  have hd : decide ((1 : Int) ≤ (kn : Int)) = false := decide_eq_false hC
  go_enter Try.func24, Try.ntmps24
  go_wp2_with fail
  have r0 := kbox_new w i kd ka kn kc sf su tf tu
  have t0 : Hid (Touch (fun _ => False) w (w.alloc (.cells #[.int .u8 i, .int .u16 kd, .slice ka kn kc, .int .i64 sf, .int .i64 su, .int .i64 tf, .int .i64 tu] 50))) := (Touch.refl _ _).alloc _
  generalize w.alloc (.cells #[.int .u8 i, .int .u16 kd, .slice ka kn kc, .int .i64 sf, .int .i64 su, .int .i64 tf, .int .i64 tu] 50) = wa at r0 t0 ⊢
  refine Calls.mono (HS _) ?_
  rintro e w1 ⟨rfl, t1⟩
  have r1 := r0.keep t1
  replace t1 : Hid (Touch (fun _ => False) w w1) := t0.out.trans t1
  clear r0 t0
  go_wp2_with fail
  refine Calls.mono (HP _) ?_
  rintro e w2 ⟨rfl, rfl⟩
  rw [hA]
  have c0 := r1.c0
  have c1 := r1.c1
  have c2 := r1.c2
  have c3 := r1.c3
  have c4 := r1.c4
  have c5 := r1.c5
  have c6 := r1.c6
  go_wp2_with fail
  refine Calls.mono (HT _) ?_
  rintro e w2 ⟨rfl, t2⟩
  have r2 := r1.keep t2
  replace t2 : Hid (Touch (fun _ => False) w w2) := t1.out.trans t2
  clear r1 t1 c0 c1 c2 c3 c4 c5 c6
  go_wp2_with fail
  refine Calls.mono (HQ _) ?_
  rintro e w3 ⟨rfl, rfl⟩
  rw [hB]
  have c2 := r2.c2
  go_wp2_with fail
  go_region
  go_wp2_with fail
  go_ret
  exact ⟨rfl, t2.out.trans ((Touch.refl _ _).drew)⟩
set_option maxHeartbeats 1000000 in
theorem may_d (w : World) (i kd : Int) (ka : Option Addr) (kn kc : Nat) (sf su tf tu : Int) (hA : spanB sf su = true) (hB : spanB tf tu = true) (hC : (1 : Int) ≤ (kn : Int)) (N : Int) (hN : longN kd = N) :
    Calls Try.prog 24 #[.agg #[.int .u8 i, .int .u16 kd, .slice ka kn kc, .int .i64 sf, .int .i64 su, .int .i64 tf, .int .i64 tu]] w fun e w' => e = .returned (.bool (decide ((kn : Int) ≤ N))) ∧ Touch (fun _ => False) w w' := by
  have HS := fun w => sending_any w i kd ka kn kc sf su tf tu
  have HT := fun w => taking_any w i kd ka kn kc sf su tf tu
  have HP := fun w => span_any w sf su
  have HQ := fun w => span_any w tf tu
  have HL := fun w => longest_any w kd
  rw [hN] at HL
  go_enter Try.func24, Try.ntmps24
  go_wp2_with fail
  have r0 := kbox_new w i kd ka kn kc sf su tf tu
  have t0 : Hid (Touch (fun _ => False) w (w.alloc (.cells #[.int .u8 i, .int .u16 kd, .slice ka kn kc, .int .i64 sf, .int .i64 su, .int .i64 tf, .int .i64 tu] 50))) := (Touch.refl _ _).alloc _
  generalize w.alloc (.cells #[.int .u8 i, .int .u16 kd, .slice ka kn kc, .int .i64 sf, .int .i64 su, .int .i64 tf, .int .i64 tu] 50) = wa at r0 t0 ⊢
  refine Calls.mono (HS _) ?_
  rintro e w1 ⟨rfl, t1⟩
  have r1 := r0.keep t1
  replace t1 : Hid (Touch (fun _ => False) w w1) := t0.out.trans t1
  clear r0 t0
  go_wp2_with fail
  refine Calls.mono (HP _) ?_
  rintro e w2 ⟨rfl, rfl⟩
  rw [hA]
  have c0 := r1.c0
  have c1 := r1.c1
  have c2 := r1.c2
  have c3 := r1.c3
  have c4 := r1.c4
  have c5 := r1.c5
  have c6 := r1.c6
  go_wp2_with fail
  refine Calls.mono (HT _) ?_
  rintro e w2 ⟨rfl, t2⟩
  have r2 := r1.keep t2
  replace t2 : Hid (Touch (fun _ => False) w w2) := t1.out.trans t2
  clear r1 t1 c0 c1 c2 c3 c4 c5 c6
  go_wp2_with fail
  refine Calls.mono (HQ _) ?_
  rintro e w3 ⟨rfl, rfl⟩
  rw [hB]
  go_wp2_with fail
  have d1 := snA_cell r2.c1
  have d2 := snA_cell r2.c2
  have st := SnA.start w2
  clear r2
  go_region_held3 (fun w' => SnA w2 w') (with_reducible assumption) (first | (go_at_call 42; refine Calls.mono (HL _) ?_; rintro e w4 ⟨rfl, rfl⟩))
  go_wp2_with fail
  go_ret
  exact ⟨rfl, t2.out.trans ((Touch.refl _ _).drew)⟩
/-- mayBe, every way. -/
theorem may_any (x : KE) (w : World) : Calls Try.prog 24 #[x.agg] w fun e w' => e = .returned (.bool x.p.may) ∧ Touch (fun _ => False) w w' := by
  unfold AKP.may
  cases hA : spanB x.p.sf x.p.su
  · exact may_a w _ _ _ _ _ _ _ _ _ hA
  · cases hB : spanB x.p.tf x.p.tu
    · exact may_b w _ _ _ _ _ _ _ _ _ hA hB
    · by_cases hC : (1 : Int) ≤ (x.p.sec.length : Int)
      · have e : decide (1 ≤ (x.p.sec.length : Int) ∧ (x.p.sec.length : Int) ≤ longN x.p.kind) = decide ((x.p.sec.length : Int) ≤ longN x.p.kind) := decide_eq_decide.mpr ⟨fun h => h.2, fun h => ⟨hC, h⟩⟩
        rw [e]
        exact may_d w _ _ _ _ _ _ _ _ _ hA hB hC _ rfl
      · rw [decide_eq_false (fun h => hC h.1)]
        exact may_c w _ _ _ _ _ _ _ _ _ hA hB hC
end Go.Proofs.Ythilfealloakdaa
