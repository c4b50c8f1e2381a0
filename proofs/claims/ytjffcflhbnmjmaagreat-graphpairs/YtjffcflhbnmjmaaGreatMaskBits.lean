/- slices.SortFunc of the library, laid at this program (made by the kit's own tool: of this seat alone). -/
import Derived.Shelf.SlSortCmp.WholeK
import Derived.Shelf.SlGeneric
import Derived.Ground.SlsfProg
import Derived.Shelf.SlSortCmp.NoneTotal
import Derived.Test.YtjffcflhbnmjmaaGreatRows
import Derived.WalkKit
namespace Go.Proofs.YtjffcflhbnmjmaaGreat
open Go.Shelf
def sortSd_ren : Go.Shelf.Ren := ⟨fun | 6 => 82 | 15 => 106 | 14 => 105 | 28 => 140 | 29 => 141 | 20 => 132 | 21 => 133 | 22 => 134 | 23 => 135 | 24 => 136 | 25 => 137 | 26 => 138 | 27 => 139 | 46 => 162 | 47 => 163 | 48 => 164 | 49 => 165 | 50 => 166 | 57 => 171 | n => n, fun | 22 => 61 | 24 => 69 | 25 => 152 | 3 => 3 | 39 => 183 | 0 => 0 | 53 => 23 | 55 => 207 | 4 => 4 | 46 => 200 | 45 => 199 | 50 => 121 | 5 => 5 | 9 => 9 | 66 => 233 | 70 => 237 | 76 => 242 | 77 => 135 | n => n, fun | n => n⟩
theorem sortSd : Go.Proofs.SlLaysF0.n6 Tryz.prog sortSd_ren := {
  mixed := by kernel_rfl
  f6 := ⟨Tryz.f82.name, by decide, Tryz.func82.trans (congrArg some (by kernel_rfl))⟩
  f14 := ⟨Tryz.f105.name, by decide, Tryz.func105.trans (congrArg some (by kernel_rfl))⟩
  f15 := Tryz.func106.trans (congrArg some (by kernel_rfl))
  f20 := ⟨Tryz.f132.name, by decide, Tryz.func132.trans (congrArg some (by kernel_rfl))⟩
  f21 := ⟨Tryz.f133.name, by decide, Tryz.func133.trans (congrArg some (by kernel_rfl))⟩
  f22 := ⟨Tryz.f134.name, by decide, Tryz.func134.trans (congrArg some (by kernel_rfl))⟩
  f23 := ⟨Tryz.f135.name, by decide, Tryz.func135.trans (congrArg some (by kernel_rfl))⟩
  f24 := ⟨Tryz.f136.name, by decide, Tryz.func136.trans (congrArg some (by kernel_rfl))⟩
  f25 := ⟨Tryz.f137.name, by decide, Tryz.func137.trans (congrArg some (by kernel_rfl))⟩
  f26 := ⟨Tryz.f138.name, by decide, Tryz.func138.trans (congrArg some (by kernel_rfl))⟩
  f27 := ⟨Tryz.f139.name, by decide, Tryz.func139.trans (congrArg some (by kernel_rfl))⟩
  f28 := Tryz.func140.trans (congrArg some (by kernel_rfl))
  f29 := Tryz.func141.trans (congrArg some (by kernel_rfl))
  f46 := ⟨Tryz.f162.name, by decide, Tryz.func162.trans (congrArg some (by kernel_rfl))⟩
  f47 := Tryz.func163.trans (congrArg some (by kernel_rfl))
  f48 := Tryz.func164.trans (congrArg some (by kernel_rfl))
  f49 := ⟨Tryz.f165.name, by decide, Tryz.func165.trans (congrArg some (by kernel_rfl))⟩
  f50 := ⟨Tryz.f166.name, by decide, Tryz.func166.trans (congrArg some (by kernel_rfl))⟩
  f57 := ⟨Tryz.f171.name, by decide, Tryz.func171.trans (congrArg some (by kernel_rfl))⟩
  t0 := Tryz.underlying0
  a0 := Tryz.isAgg0
  z0 := Tryz.sizeOf0
  v0 := Tryz.zeroValue0
  t3 := Tryz.underlying3
  a3 := Tryz.isAgg3
  z3 := Tryz.sizeOf3
  v3 := Tryz.zeroValue3
  t4 := Tryz.underlying4
  a4 := Tryz.isAgg4
  z4 := Tryz.sizeOf4
  v4 := Tryz.zeroValue4
  t5 := Tryz.underlying5
  a5 := Tryz.isAgg5
  z5 := Tryz.sizeOf5
  v5 := Tryz.zeroValue5
  t9 := Tryz.underlying9
  a9 := Tryz.isAgg9
  z9 := Tryz.sizeOf9
  v9 := Tryz.zeroValue9
  t22 := Tryz.underlying61
  a22 := Tryz.isAgg61
  z22 := Tryz.sizeOf61
  v22 := Tryz.zeroValue61
  t25 := Tryz.underlying152
  a25 := Tryz.isAgg152
  z25 := Tryz.sizeOf152
  v25 := Tryz.zeroValue152
  t39 := Tryz.underlying183
  a39 := Tryz.isAgg183
  z39 := Tryz.sizeOf183
  v39 := Tryz.zeroValue183
  t45 := Tryz.underlying199
  a45 := Tryz.isAgg199
  z45 := Tryz.sizeOf199
  v45 := Tryz.zeroValue199
  t46 := Tryz.underlying200
  a46 := Tryz.isAgg200
  z46 := Tryz.sizeOf200
  v46 := Tryz.zeroValue200
  t50 := Tryz.underlying121
  a50 := Tryz.isAgg121
  z50 := Tryz.sizeOf121
  v50 := Tryz.zeroValue121
  t53 := Tryz.underlying23
  a53 := Tryz.isAgg23
  z53 := Tryz.sizeOf23
  v53 := Tryz.zeroValue23
  t55 := Tryz.underlying207
  a55 := Tryz.isAgg207
  z55 := Tryz.sizeOf207
  v55 := Tryz.zeroValue207
  t66 := Tryz.underlying233
  a66 := Tryz.isAgg233
  z66 := Tryz.sizeOf233
  v66 := Tryz.zeroValue233
  t70 := Tryz.underlying237
  a70 := Tryz.isAgg237
  z70 := Tryz.sizeOf237
  v70 := Tryz.zeroValue237
  t76 := Tryz.underlying242
  a76 := Tryz.isAgg242
  z76 := Tryz.sizeOf242
  v76 := Tryz.zeroValue242
  t77 := Tryz.underlying135
  a77 := Tryz.isAgg135
  z77 := Tryz.sizeOf135
  v77 := Tryz.zeroValue135 }
end Go.Proofs.YtjffcflhbnmjmaaGreat

namespace Go.Proofs.YtjffcflhbnmjmaaGreat
set_option linter.unusedVariables false

def numBytes (n : Nat) (x : Int) : List Int := [x / 16777216 % 256, x / 65536 % 256, x / 256 % 256, x % 256].drop (4 - n)
theorem length_numBytes {n : Nat} (h : n ≤ 4) (x : Int) : (numBytes n x).length = n := by simp [numBytes]; omega
theorem numBytes_byte (n : Nat) (x : Int) : ∀ z ∈ numBytes n x, 0 ≤ z ∧ z < 256 := by
  intro z hz
  have := List.mem_of_mem_drop hz
  simp at this
  omega
theorem numBytes2 (x : Int) : numBytes 2 x = [x / 256 % 256, x % 256] := rfl
theorem numBytes4 (x : Int) : numBytes 4 x = [x / 16777216 % 256, x / 65536 % 256, x / 256 % 256, x % 256] := rfl
theorem numBytes3 (x : Int) : numBytes 3 x = [x / 65536 % 256, x / 256 % 256, x % 256] := rfl
/-- The number of bytes. -/
def numOf (l : List Int) : Int := l.foldl (fun v z => 256 * v + z) 0
theorem numOf_snoc (l : List Int) (z : Int) : numOf (l ++ [z]) = 256 * numOf l + z := by simp [numOf]
theorem foldl_bound (l : List Int) (h : ∀ z ∈ l, 0 ≤ z ∧ z < 256) : ∀ v : Int, 0 ≤ v → 0 ≤ l.foldl (fun v z => 256 * v + z) v ∧ l.foldl (fun v z => 256 * v + z) v < (v + 1) * 256 ^ l.length := by
  induction l with
  | nil => intro v hv; simp; omega
  | cons z r ih =>
    intro v hv
    have hz := h z (by simp)
    have := ih (fun z hz => h z (by simp [hz])) (256 * v + z) (by omega)
    refine ⟨this.1, Int.lt_of_lt_of_le this.2 ?_⟩
    rw [List.length_cons, Int.pow_succ, Int.mul_comm (256 ^ r.length) 256, ← Int.mul_assoc]
    exact Int.mul_le_mul_of_nonneg_right (by omega) (Int.pow_nonneg (by omega))
theorem numOf_bound (l : List Int) (h : ∀ z ∈ l, 0 ≤ z ∧ z < 256) : 0 ≤ numOf l ∧ numOf l < 256 ^ l.length := by
  have := foldl_bound l h 0 (by omega)
  rw [show (0 : Int) + 1 = 1 by omega, Int.one_mul] at this
  exact this
theorem numOf_two (x : Int) (h0 : 0 ≤ x) (h : x < 65536) : numOf (numBytes 2 x) = x := by simp [numOf, numBytes2]; omega
theorem numOf_three (x : Int) (h0 : 0 ≤ x) (h : x < 16777216) : numOf (numBytes 3 x) = x := by simp [numOf, numBytes3]; omega
theorem numOf_four (x : Int) (h0 : 0 ≤ x) (h : x < 4294967296) : numOf (numBytes 4 x) = x := by simp [numOf, numBytes4]; omega
theorem numBytes_two (a b : Int) (ha : 0 ≤ a ∧ a < 256) (hb : 0 ≤ b ∧ b < 256) : numBytes 2 (numOf [a, b]) = [a, b] := by simp [numOf, numBytes2]; omega
theorem numBytes_four (a b c d : Int) (ha : 0 ≤ a ∧ a < 256) (hb : 0 ≤ b ∧ b < 256) (hc : 0 ≤ c ∧ c < 256) (hd : 0 ≤ d ∧ d < 256) : numBytes 4 (numOf [a, b, c, d]) = [a, b, c, d] := by
  simp [numOf, numBytes4]; omega
end Go.Proofs.YtjffcflhbnmjmaaGreat

namespace Go.Proofs.YtjffcflhbnmjmaaGreat
set_option linter.unusedVariables false

/-- How many addresses a prefix of n bits has. -/
def psz (n : Int) : Int := 2 ^ (32 - n).toNat
/-- The mask of n bits; 0 beyond 32. -/
def pmask (n : Int) : Int := if n ≤ 32 then 4294967296 - psz n else 0
/-- The first n bits of an address, noughts behind. -/
def pcut (a n : Int) : Int := a - a % psz n
theorem psz_nat (n : Int) : psz n = ((2 ^ (32 - n).toNat : Nat) : Int) := by unfold psz; exact (Int.natCast_pow 2 _).symm
theorem psz_pos (n : Int) : 0 < psz n := by rw [psz_nat]; exact Int.ofNat_lt.2 (Nat.two_pow_pos _)
theorem psz_le {n : Int} (h : 0 ≤ n) : psz n ≤ 4294967296 := by
  rw [psz_nat]
  have : 2 ^ (32 - n).toNat ≤ 2 ^ 32 := Nat.pow_le_pow_right (by omega) (by omega)
  have e : (2 : Nat) ^ 32 = 4294967296 := by decide
  omega
theorem psz_lt {n m : Int} (h1 : n < m) (h2 : m ≤ 32) : psz m < psz n := by
  rw [psz_nat, psz_nat]
  exact Int.ofNat_lt.2 (Nat.pow_lt_pow_right (by omega) (by omega))
theorem nat_and_high (a k : Nat) (ha : a < 2 ^ 32) (hk : k ≤ 32) : a &&& (2 ^ 32 - 2 ^ k) = a - a % 2 ^ k := by
  have e : a - a % 2 ^ k = 2 ^ k * (a / 2 ^ k) := by have := Nat.div_add_mod a (2 ^ k); omega
  have hp : 0 < 2 ^ k := Nat.two_pow_pos k
  have e2 : 2 ^ 32 - 2 ^ k = 2 ^ 32 - ((2 ^ k - 1) + 1) := by omega
  have hlt : 2 ^ k - 1 < 2 ^ 32 := by have := Nat.pow_le_pow_right (n := 2) (by omega) hk; omega
  rw [e]
  refine Nat.eq_of_testBit_eq fun i => ?_
  rw [Nat.testBit_and, e2, Nat.testBit_two_pow_sub_succ hlt, Nat.testBit_two_pow_sub_one, Nat.testBit_two_pow_mul]
  by_cases hi : k ≤ i
  · rw [Nat.testBit_div_two_pow, Nat.sub_add_cancel hi]
    by_cases h32 : i < 32
    · simp [hi, h32]
    · have : a.testBit i = false := Nat.testBit_lt_two_pow (Nat.lt_of_lt_of_le ha (Nat.pow_le_pow_right (by omega) (by omega)))
      simp [this]
  · simp [hi]; intros; omega

theorem pmask_bd {n : Int} (h : 0 ≤ n) : 0 ≤ pmask n ∧ pmask n < 4294967296 := by
  unfold pmask
  have := psz_pos n; have := psz_le h
  split <;> omega
theorem pmask_le {n : Int} (h : n ≤ 32) : pmask n = 4294967296 - psz n := by rw [pmask, if_pos h]
theorem pmask_gt {n : Int} (h : 32 < n) : pmask n = 0 := by rw [pmask, if_neg (by omega)]

/-- The address and the mask, bit by bit, is the cut one. -/
theorem and_mask {a n : Int} (h0 : 0 ≤ a) (h1 : a < 4294967296) (hn0 : 0 ≤ n) (hn : n ≤ 32) : bits .and .u32 a (pmask n) = pcut a n := by
  have hb := pmask_bd hn0
  rw [u32_and a _ h0 h1 hb.1 hb.2, pmask_le hn]
  obtain ⟨A, rfl⟩ : ∃ A : Nat, a = A := ⟨a.toNat, by omega⟩
  unfold pcut
  rw [psz_nat]
  have hp : 2 ^ (32 - n).toNat ≤ 2 ^ 32 := Nat.pow_le_pow_right (by omega) (by omega)
  have e : (4294967296 - ((2 ^ (32 - n).toNat : Nat) : Int)).toNat = 2 ^ 32 - 2 ^ (32 - n).toNat := by omega
  rw [e, Int.toNat_natCast, nat_and_high A _ (by omega) (by omega)]
  have := Nat.mod_le A (2 ^ (32 - n).toNat)
  omega

end Go.Proofs.YtjffcflhbnmjmaaGreat

namespace Go.Proofs.YtjffcflhbnmjmaaGreat
open Go.RowKit
set_option linter.unusedVariables false
set_option maxRecDepth 100000

/-- Of how many bits it is the mask. -/
def pfind (a : Int) : Option Nat := (List.range 33).find? fun n => pmask n == a
def pbn (a : Int) : Int := (((pfind a).getD 0 : Nat) : Int)
def pbok (a : Int) : Bool := (pfind a).isSome

theorem pmask_inj {j k : Nat} (hj : j ≤ 32) (hk : k ≤ 32) (h : pmask j = pmask k) : j = k := by
  rw [pmask_le (by omega), pmask_le (by omega)] at h
  rcases Nat.lt_trichotomy j k with h' | h' | h'
  · have := psz_lt (n := j) (m := k) (by omega) (by omega); omega
  · exact h'
  · have := psz_lt (n := k) (m := j) (by omega) (by omega); omega
theorem pfind_some {a : Int} {k : Nat} (hk : k ≤ 32) (h : pmask k = a) : pfind a = some k := by
  unfold pfind
  rw [List.find?_range_eq_some]
  refine ⟨by simp [h], by simp; omega, fun j hj => ?_⟩
  simp
  intro e
  have := pmask_inj (j := j) (k := k) (by omega) hk (by rw [e, h])
  omega
theorem pfind_none {a : Int} (h : ∀ k : Nat, k ≤ 32 → pmask k ≠ a) : pfind a = none := by
  unfold pfind
  rw [List.find?_eq_none]
  intro k hk
  simp at hk ⊢
  exact h k (by omega)

theorem shl_one (a : Int) (k : Nat) : a * 2 ^ k % 4294967296 * 2 % 4294967296 = a * 2 ^ (k + 1) % 4294967296 := by
  rw [Int.pow_succ, ← Int.mul_assoc]
  omega
theorem shl_32 (a : Int) : a * 2 ^ 32 % 4294967296 = 0 := by
  have e : (2 : Int) ^ 32 = 4294967296 := by decide
  rw [e]; omega

/-- The least shift that leaves nothing. -/
theorem pmask_shift {j k : Nat} (hj : j ≤ 32) : pmask j * 2 ^ k % 4294967296 = 0 ↔ j ≤ k := by
  rw [pmask_le (by omega), Int.sub_mul]
  have e : psz j * 2 ^ k = 2 ^ (32 - j + k) := by
    unfold psz
    rw [← Int.pow_add]
    congr 1; omega
  rw [e]
  constructor
  · intro h
    rcases Nat.lt_or_ge k j with h' | h'
    · have h1 : (2 : Int) ^ (32 - j + k) = ((2 ^ (32 - j + k) : Nat) : Int) := (Int.natCast_pow 2 _).symm
      have h2 : 2 ^ (32 - j + k) < 2 ^ 32 := Nat.pow_lt_pow_right (by omega) (by omega)
      have h3 : 0 < 2 ^ (32 - j + k) := Nat.two_pow_pos _
      have h4 : (2 : Nat) ^ 32 = 4294967296 := by decide
      rw [h1] at h
      omega
    · exact h'
  · intro h
    have h1 : (2 : Int) ^ (32 - j + k) = 4294967296 * 2 ^ (k - j) := by
      have e : (4294967296 : Int) = 2 ^ 32 := by decide
      rw [e, ← Int.pow_add]; congr 1; omega
    rw [h1, ← Int.mul_sub]
    exact Int.mul_emod_right _ _

theorem bits_at {a : Int} {k : Nat} (hk : k ≤ 32) (h0 : a * 2 ^ k % 4294967296 = 0) (hl : ∀ j : Nat, j < k → a * 2 ^ j % 4294967296 ≠ 0) : pfind a = if pmask k = a then some k else none := by
  split
  · rename_i h; exact pfind_some hk h
  · rename_i h
    refine pfind_none fun j hj e => h ?_
    have h1 : j ≤ k := (pmask_shift hj).1 (by rw [e]; exact h0)
    rcases Nat.lt_or_ge j k with h2 | h2
    · exact absurd ((pmask_shift (k := j) hj).2 (Nat.le_refl _)) (by rw [e]; exact hl j h2)
    · obtain rfl : j = k := by omega
      exact e

theorem none_next {p : Nat → Prop} {k : Nat} (h : ∀ j : Nat, j < k → ¬ p j) (hk : ¬ p k) : ∀ j : Nat, j < k + 1 → ¬ p j := by
  intro j hj
  rcases Nat.lt_or_ge j k with h' | h'
  · exact h j h'
  · obtain rfl : j = k := by omega
    exact hk

theorem pb_yes {a : Int} {k : Nat} (h : pfind a = some k) : pbn a = k ∧ pbok a = true := by simp [pbn, pbok, h]
theorem pb_no {a : Int} (h : pfind a = none) : pbn a = 0 ∧ pbok a = false := by simp [pbn, pbok, h]

end Go.Proofs.YtjffcflhbnmjmaaGreat
