/- Contracts of the small functions: the four rounds' functions, the turn, and the document's turned, by, mixed, which. -/
import Derived.Test.YtbkidfmolnbhlaaDigMath
namespace Go.Proofs.Ytbkidfmolnbhlaa
open Go.RowKit
set_option linter.unusedVariables false
set_option maxRecDepth 100000

theorem xor_ones {b : Nat} (h : b < 4294967296) : 4294967295 ^^^ b = notN b := by
  unfold notN
  apply Nat.eq_of_testBit_eq
  intro i
  have e : 4294967295 - b = 2 ^ 32 - (b + 1) := by omega
  rw [e, Nat.testBit_two_pow_sub_succ (by omega : b < 2 ^ 32), Nat.testBit_xor, show (4294967295 : Nat) = 2 ^ 32 - 1 by rfl, Nat.testBit_two_pow_sub_one]
  by_cases hi : i < 32
  · simp [hi]
  · have h2 : 2 ^ 32 ≤ 2 ^ i := Nat.pow_le_pow_right (by omega) (by omega)
    have : b.testBit i = false := Nat.testBit_lt_two_pow (by omega)
    simp [hi, this]
theorem bx {b : Nat} (h : b < 4294967296) : bits .xor .u32 IntKind.u32.max (b : Int) = ((notN b : Nat) : Int) := by
  have := u32_xor_nat 4294967295 b (by decide) h
  rw [xor_ones h] at this
  exact this
theorem band {a b : Nat} (ha : a < 4294967296) (hb : b < 4294967296) : bits .and .u32 (a : Int) (b : Int) = ((a &&& b : Nat) : Int) := u32_and_nat a b ha hb
theorem bor {a b : Nat} (ha : a < 4294967296) (hb : b < 4294967296) : bits .or .u32 (a : Int) (b : Int) = ((a ||| b : Nat) : Int) := u32_or_nat a b ha hb
theorem bxor {a b : Nat} (ha : a < 4294967296) (hb : b < 4294967296) : bits .xor .u32 (a : Int) (b : Int) = ((a ^^^ b : Nat) : Int) := u32_xor_nat a b ha hb

theorem f1_any (b c d : Nat) (hb : b < 4294967296) (hc : c < 4294967296) (hd : d < 4294967296) (w : World) :
    Calls Try.prog 35 #[.int .u32 (b : Int), .int .u32 (c : Int), .int .u32 (d : Int)] w fun e w' => e = .returned (.int .u32 (((b &&& c) ||| (notN b &&& d) : Nat) : Int)) ∧ w = w' := by
  have h1 := band hb hc
  have h2 := bx hb
  have h3 := band (notN_lt b) hd
  have h4 := bor (and_lt32 c hb) (and_lt32 d (notN_lt b))
  go_enter Try.func35, Try.ntmps35
  go_wp2
  go_ret
  exact ⟨rfl, rfl⟩

theorem f2_any (b c d : Nat) (hb : b < 4294967296) (hc : c < 4294967296) (hd : d < 4294967296) (w : World) :
    Calls Try.prog 36 #[.int .u32 (b : Int), .int .u32 (c : Int), .int .u32 (d : Int)] w fun e w' => e = .returned (.int .u32 (((d &&& b) ||| (notN d &&& c) : Nat) : Int)) ∧ w = w' := by
  have h1 := band hd hb
  have h2 := bx hd
  have h3 := band (notN_lt d) hc
  have h4 := bor (and_lt32 b hd) (and_lt32 c (notN_lt d))
  go_enter Try.func36, Try.ntmps36
  go_wp2
  go_ret
  exact ⟨rfl, rfl⟩

theorem f3_any (b c d : Nat) (hb : b < 4294967296) (hc : c < 4294967296) (hd : d < 4294967296) (w : World) :
    Calls Try.prog 37 #[.int .u32 (b : Int), .int .u32 (c : Int), .int .u32 (d : Int)] w fun e w' => e = .returned (.int .u32 (((b ^^^ c) ^^^ d : Nat) : Int)) ∧ w = w' := by
  have h1 := bxor hb hc
  have h2 := bxor (xor_lt32 hb hc) hd
  go_enter Try.func37, Try.ntmps37
  go_wp2
  go_ret
  exact ⟨rfl, rfl⟩

theorem f4_any (b c d : Nat) (hb : b < 4294967296) (hc : c < 4294967296) (hd : d < 4294967296) (w : World) :
    Calls Try.prog 38 #[.int .u32 (b : Int), .int .u32 (c : Int), .int .u32 (d : Int)] w fun e w' => e = .returned (.int .u32 ((c ^^^ (b ||| notN d) : Nat) : Int)) ∧ w = w' := by
  have h1 := bx hd
  have h2 := bor hb (notN_lt d)
  have h3 := bxor hc (or_lt32 hb (notN_lt d))
  go_enter Try.func38, Try.ntmps38
  go_wp2
  go_ret
  exact ⟨rfl, rfl⟩

theorem rmixed_any (i b c d : Nat) (hi : i < 64) (hb : b < 4294967296) (hc : c < 4294967296) (hd : d < 4294967296) (w : World) :
    Calls Try.prog 28 #[.int .i64 (i : Int), .int .u32 (b : Int), .int .u32 (c : Int), .int .u32 (d : Int)] w fun e w' => e = .returned (.int .u32 ((mixN i b c d : Nat) : Int)) ∧ w = w' := by
  by_cases hq0 : i / 16 = 0
  · rw [show mixN i b c d = (b &&& c) ||| (notN b &&& d) by unfold mixN; simp only [hq0, reduceIte, Nat.reduceEqDiff]]
    have g0 : (i : Int) / 16 = 0 := by omega
    have h1 := band hb hc
    have h2 := bx hb
    have h3 := band (notN_lt b) hd
    have h4 := bor (and_lt32 c hb) (and_lt32 d (notN_lt b))
    clear hq0
    go_enter Try.func28, Try.ntmps28
    go_wp2
    go_ret
    exact ⟨rfl, rfl⟩
  by_cases hq1 : i / 16 = 1
  · rw [show mixN i b c d = (d &&& b) ||| (notN d &&& c) by unfold mixN; simp only [hq1, reduceIte, Nat.reduceEqDiff]]
    have g0 : ((i : Int) / 16 == 0) = false := by simp; omega
    have g1 : (i : Int) / 16 = 1 := by omega
    have h1 := band hd hb
    have h2 := bx hd
    have h3 := band (notN_lt d) hc
    have h4 := bor (and_lt32 b hd) (and_lt32 c (notN_lt d))
    clear hq0 hq1
    go_enter Try.func28, Try.ntmps28
    go_wp2
    go_ret
    exact ⟨rfl, rfl⟩
  by_cases hq2 : i / 16 = 2
  · rw [show mixN i b c d = (b ^^^ c) ^^^ d by unfold mixN; simp only [hq2, reduceIte, Nat.reduceEqDiff]]
    have g0 : ((i : Int) / 16 == 0) = false := by simp; omega
    have g1 : ((i : Int) / 16 == 1) = false := by simp; omega
    have g2 : (i : Int) / 16 = 2 := by omega
    have h1 := bxor hb hc
    have h2 := bxor (xor_lt32 hb hc) hd
    clear hq0 hq1 hq2
    go_enter Try.func28, Try.ntmps28
    go_wp2
    go_ret
    exact ⟨rfl, rfl⟩
  · rw [show mixN i b c d = c ^^^ (b ||| notN d) by unfold mixN; simp only [hq0, hq1, hq2, reduceIte]]
    have g0 : ((i : Int) / 16 == 0) = false := by simp; omega
    have g1 : ((i : Int) / 16 == 1) = false := by simp; omega
    have g2 : ((i : Int) / 16 == 2) = false := by simp; omega
    have h1 := bx hd
    have h2 := bor hb (notN_lt d)
    have h3 := bxor hc (or_lt32 hb (notN_lt d))
    clear hq0 hq1 hq2
    go_enter Try.func28, Try.ntmps28
    go_wp2
    go_ret
    exact ⟨rfl, rfl⟩

theorem rwhich_any (i : Nat) (hi : i < 64) (w : World) :
    Calls Try.prog 26 #[.int .i64 (i : Int)] w fun e w' => e = .returned (.int .i64 ((whichN i : Nat) : Int)) ∧ w = w' := by
  by_cases hq0 : i / 16 = 0
  · rw [show whichN i = i by unfold whichN; simp only [hq0, reduceIte, Nat.reduceEqDiff]]
    have g0 : (i : Int) / 16 = 0 := by omega
    clear hq0
    go_enter Try.func26, Try.ntmps26
    go_wp2
    go_ret
    exact ⟨by simp, rfl⟩
  by_cases hq1 : i / 16 = 1
  · rw [show whichN i = (5 * i + 1) % 16 by unfold whichN; simp only [hq1, reduceIte, Nat.reduceEqDiff]]
    have g0 : ((i : Int) / 16 == 0) = false := by simp; omega
    have g1 : (i : Int) / 16 = 1 := by omega
    clear hq0 hq1
    go_enter Try.func26, Try.ntmps26
    go_wp2
    go_ret
    exact ⟨by simp, rfl⟩
  by_cases hq2 : i / 16 = 2
  · rw [show whichN i = (3 * i + 5) % 16 by unfold whichN; simp only [hq2, reduceIte, Nat.reduceEqDiff]]
    have g0 : ((i : Int) / 16 == 0) = false := by simp; omega
    have g1 : ((i : Int) / 16 == 1) = false := by simp; omega
    have g2 : (i : Int) / 16 = 2 := by omega
    clear hq0 hq1 hq2
    go_enter Try.func26, Try.ntmps26
    go_wp2
    go_ret
    exact ⟨by simp, rfl⟩
  · rw [show whichN i = 7 * i % 16 by unfold whichN; simp only [hq0, hq1, hq2, reduceIte]]
    have g0 : ((i : Int) / 16 == 0) = false := by simp; omega
    have g1 : ((i : Int) / 16 == 1) = false := by simp; omega
    have g2 : ((i : Int) / 16 == 2) = false := by simp; omega
    clear hq0 hq1 hq2
    go_enter Try.func26, Try.ntmps26
    go_wp2
    go_ret
    exact ⟨by simp, rfl⟩

/-- The turn, as the code reckons it. -/
theorem rot_is {v n : Nat} (hv : v < 4294967296) (h4 : 4 ≤ n) (hn : n ≤ 23) : bits .or .u32 ((v : Int) * 2 ^ n % 4294967296) ((v : Int) / 2 ^ (32 - n)) = ((rotN v n : Nat) : Int) := by
  have e1 : (v : Int) * 2 ^ n % 4294967296 = ((v * 2 ^ n % 4294967296 : Nat) : Int) := by simp
  have e2 : (v : Int) / 2 ^ (32 - n) = ((v / 2 ^ (32 - n) : Nat) : Int) := by simp
  rw [e1, e2]
  exact bor (Nat.mod_lt _ (by decide)) (Nat.lt_of_le_of_lt (Nat.div_le_self _ _) hv)
theorem rturned_any (v n : Nat) (hv : v < 4294967296) (h4 : 4 ≤ n) (hn : n ≤ 23) (w : World) :
    Calls Try.prog 27 #[.int .u32 (v : Int), .int .i64 (n : Int)] w fun e w' => e = .returned (.int .u32 ((rotN v n : Nat) : Int)) ∧ ∃ k, w' = w.drewN k := by
  have h1 := rot_is hv h4 hn
  have h0 : ¬ (n : Int) < 0 := by omega
  have h2 : (0 : Int) ≤ (32 : Int) - (n : Int) := by omega
  have h3 : ((32 : Int) - (n : Int)).toNat = 32 - n := by omega
  have h5 : min n 32 = n := by omega
  have h6 : min (32 - n) 32 = 32 - n := by omega
  go_enter Try.func27, Try.ntmps27
  go_wp2
  go_quiet (fail)
  go_wp2
  go_ret
  exact ⟨rfl, _, rfl⟩
theorem rot_any (v n : Nat) (hv : v < 4294967296) (h4 : 4 ≤ n) (hn : n ≤ 23) (w : World) :
    Calls Try.prog 39 #[.int .u32 (v : Int), .int .i64 (n : Int)] w fun e w' => e = .returned (.int .u32 ((rotN v n : Nat) : Int)) ∧ w = w' := by
  have h1 := rot_is hv h4 hn
  have h0 : bits .and .u64 (n : Int) 31 = (n : Int) := by
    have : ∀ n : Nat, n < 24 → bits .and .u64 (n : Int) 31 = (n : Int) := by decide
    exact this n (by omega)
  have h2 : (0 : Int) ≤ (32 : Int) - (n : Int) := by omega
  have h3 : ((32 : Int) - (n : Int)).toNat = 32 - n := by omega
  have h5 : min n 32 = n := by omega
  have h6 : min (32 - n) 32 = 32 - n := by omega
  go_enter Try.func39, Try.ntmps39
  go_wp2
  go_ret
  exact ⟨rfl, rfl⟩

def bySteps : List Nat := [7, 12, 17, 22, 5, 9, 14, 20, 4, 11, 16, 23, 6, 10, 15, 21]
theorem by_cell (j : Nat) (h : j < 16) : ([Value.int .i64 7, .int .i64 12, .int .i64 17, .int .i64 22, .int .i64 5, .int .i64 9, .int .i64 14, .int .i64 20, .int .i64 4, .int .i64 11, .int .i64 16, .int .i64 23, .int .i64 6, .int .i64 10, .int .i64 15, .int .i64 21] : List Value)[j]? = some (.int .i64 ((bySteps.getD j 0 : Nat) : Int)) := by
  match j, h with
  | 0, _ | 1, _ | 2, _ | 3, _ | 4, _ | 5, _ | 6, _ | 7, _ | 8, _ | 9, _ | 10, _ | 11, _ | 12, _ | 13, _ | 14, _ | 15, _ => rfl
  | n + 16, h => omega
theorem rby_any (i : Nat) (hi : i < 64) (w : World) :
    Calls Try.prog 29 #[.int .i64 (i : Int)] w fun e w' => e = .returned (.int .i64 ((byN i : Nat) : Int)) ∧ Touch (fun _ => False) w w' := by
  have hb := by_cell (4 * (i / 16) + i % 4) (by omega)
  rw [show bySteps.getD (4 * (i / 16) + i % 4) 0 = byN i from rfl] at hb
  have h1 : 4 * ((i : Int) / 16) + (i : Int) % 4 = ((4 * (i / 16) + i % 4 : Nat) : Int) := by omega
  have h2 : 4 * (i / 16) + i % 4 < 16 := by omega
  revert hb h1 h2
  generalize byN i = B
  generalize 4 * (i / 16) + i % 4 = j
  intro hb h1 h2
  have HB : Hid _ := hb
  clear hb
  go_enter Try.func29, Try.ntmps29
  go_wp2
  go_ret
  exact ⟨congrArg Ending.returned ((List.getElem?_eq_some_iff.mp HB.out).2), (Touch.refl _ w).alloc _⟩
end Go.Proofs.Ytbkidfmolnbhlaa
