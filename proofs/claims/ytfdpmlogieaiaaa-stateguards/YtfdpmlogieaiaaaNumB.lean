/- Pure: a number's bytes, the highest first; and back. -/
import Derived.WalkKit
namespace Go.Proofs.Ytfdpmlogieaiaaa
set_option linter.unusedVariables false

def numBytes (n : Nat) (x : Int) : List Int := [x / 16777216 % 256, x / 65536 % 256, x / 256 % 256, x % 256].drop (4 - n)
theorem length_numBytes {n : Nat} (h : n ≤ 4) (x : Int) : (numBytes n x).length = n := by simp [numBytes]; omega
theorem numBytes_byte (n : Nat) (x : Int) : ∀ z ∈ numBytes n x, 0 ≤ z ∧ z < 256 := by
  intro z hz
  have := List.mem_of_mem_drop hz
  simp at this
  omega
theorem numBytes2 (x : Int) : numBytes 2 x = [x / 256 % 256, x % 256] := rfl
theorem numBytes4 (x : Int) : numBytes 4 x = [x / 16777216 % 256, x / 65536 % 256, x / 256 % 256, x % 256] := rfl
theorem numBytes3 (x : Int) : numBytes 3 x = [x / 65536 % 256, x / 256 % 256, x % 256] := rfl
/-- The number of bytes. -/
def numOf (l : List Int) : Int := l.foldl (fun v z => 256 * v + z) 0
theorem numOf_snoc (l : List Int) (z : Int) : numOf (l ++ [z]) = 256 * numOf l + z := by simp [numOf]
theorem foldl_bound (l : List Int) (h : ∀ z ∈ l, 0 ≤ z ∧ z < 256) : ∀ v : Int, 0 ≤ v → 0 ≤ l.foldl (fun v z => 256 * v + z) v ∧ l.foldl (fun v z => 256 * v + z) v < (v + 1) * 256 ^ l.length := by
  induction l with
  | nil => intro v hv; simp; omega
  | cons z r ih =>
    intro v hv
    have hz := h z (by simp)
    have := ih (fun z hz => h z (by simp [hz])) (256 * v + z) (by omega)
    refine ⟨this.1, Int.lt_of_lt_of_le this.2 ?_⟩
    rw [List.length_cons, Int.pow_succ, Int.mul_comm (256 ^ r.length) 256, ← Int.mul_assoc]
    exact Int.mul_le_mul_of_nonneg_right (by omega) (Int.pow_nonneg (by omega))
theorem numOf_bound (l : List Int) (h : ∀ z ∈ l, 0 ≤ z ∧ z < 256) : 0 ≤ numOf l ∧ numOf l < 256 ^ l.length := by
  have := foldl_bound l h 0 (by omega)
  rw [show (0 : Int) + 1 = 1 by omega, Int.one_mul] at this
  exact this
theorem numOf_two (x : Int) (h0 : 0 ≤ x) (h : x < 65536) : numOf (numBytes 2 x) = x := by simp [numOf, numBytes2]; omega
theorem numOf_three (x : Int) (h0 : 0 ≤ x) (h : x < 16777216) : numOf (numBytes 3 x) = x := by simp [numOf, numBytes3]; omega
theorem numOf_four (x : Int) (h0 : 0 ≤ x) (h : x < 4294967296) : numOf (numBytes 4 x) = x := by simp [numOf, numBytes4]; omega
theorem numBytes_two (a b : Int) (ha : 0 ≤ a ∧ a < 256) (hb : 0 ≤ b ∧ b < 256) : numBytes 2 (numOf [a, b]) = [a, b] := by simp [numOf, numBytes2]; omega
theorem numBytes_four (a b c d : Int) (ha : 0 ≤ a ∧ a < 256) (hb : 0 ≤ b ∧ b < 256) (hc : 0 ≤ c ∧ c < 256) (hd : 0 ≤ d ∧ d < 256) : numBytes 4 (numOf [a, b, c, d]) = [a, b, c, d] := by
  simp [numOf, numBytes4]; omega
end Go.Proofs.Ytfdpmlogieaiaaa
