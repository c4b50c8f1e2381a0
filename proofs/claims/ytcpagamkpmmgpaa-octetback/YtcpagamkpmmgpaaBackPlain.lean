/- Plain facts on numbers laid one behind the other. -/
import Derived.Test.YtcpagamkpmmgpaaLives
namespace Go.Proofs.Ytcpagamkpmmgpaa
open Go.RowKit
set_option linter.unusedVariables false

theorem length_numBytes (n : Nat) (x : Int) (h : n ≤ 4) : (numBytes n x).length = n := by simp [numBytes]; omega
theorem numBytes_byte (n : Nat) (x : Int) : ∀ y ∈ numBytes n x, 0 ≤ y ∧ y < 256 := by
  intro y hy
  have := List.mem_of_mem_drop hy
  simp at this
  omega
theorem numVal_numBytes (n : Nat) (x : Int) (hn1 : 1 ≤ n) (hn : n ≤ 4) (h0 : 0 ≤ x) (h1 : x < 256 ^ n) : numVal (numBytes n x) = x := by
  rcases (by omega : n = 1 ∨ n = 2 ∨ n = 3 ∨ n = 4) with rfl | rfl | rfl | rfl <;> simp [numVal, numBytes] at * <;> omega

def nOf (z1 : List Int) (k : Nat) : Nat := 1 + (z1.getD k 0 % 4).toNat
def xOf (z0 z1 : List Int) (k : Nat) : Int := z0.getD k 0 / 256 ^ (4 - nOf z1 k)
def itemOf (z0 z1 : List Int) (k : Nat) : List Int := numBytes (nOf z1 k) (xOf z0 z1 k)
def laidB (z0 z1 : List Int) : Nat → List Int
  | 0 => []
  | k + 1 => laidB z0 z1 k ++ itemOf z0 z1 k

theorem nOf_bd (z1 : List Int) (k : Nat) : 1 ≤ nOf z1 k ∧ nOf z1 k ≤ 4 := by unfold nOf; omega
theorem length_item (z0 z1 : List Int) (k : Nat) : (itemOf z0 z1 k).length = nOf z1 k := length_numBytes _ _ (nOf_bd z1 k).2
theorem laidB_len (z0 z1 : List Int) (k : Nat) : (laidB z0 z1 k).length ≤ 4 * k := by
  induction k with
  | zero => simp [laidB]
  | succ k ih => simp only [laidB, List.length_append, length_item]; have := nOf_bd z1 k; omega
theorem laidB_byte (z0 z1 : List Int) (k : Nat) : ∀ y ∈ laidB z0 z1 k, 0 ≤ y ∧ y < 256 := by
  induction k with
  | zero => simp [laidB]
  | succ k ih =>
    intro y hy
    simp only [laidB, List.mem_append] at hy
    rcases hy with hy | hy
    · exact ih y hy
    · exact numBytes_byte _ _ y hy
theorem laidB_ahead (z0 z1 : List Int) (k d : Nat) : ∃ r, laidB z0 z1 (k + d) = laidB z0 z1 k ++ r := by
  induction d with
  | zero => exact ⟨[], by simp⟩
  | succ d ih =>
    obtain ⟨r, hr⟩ := ih
    exact ⟨r ++ itemOf z0 z1 (k + d), by rw [← Nat.add_assoc, laidB, hr, List.append_assoc]⟩
theorem laidB_at (z0 z1 : List Int) (k K : Nat) (h : k < K) : ((laidB z0 z1 K).drop (laidB z0 z1 k).length).take (nOf z1 k) = itemOf z0 z1 k := by
  obtain ⟨r, hr⟩ := laidB_ahead z0 z1 (k + 1) (K - (k + 1))
  rw [show k + 1 + (K - (k + 1)) = K from by omega] at hr
  rw [hr, laidB, List.append_assoc, List.drop_left, ← length_item z0 z1 k, List.take_left]
theorem laidB_le (z0 z1 : List Int) (k K : Nat) (h : k < K) : (laidB z0 z1 k).length + nOf z1 k ≤ (laidB z0 z1 K).length := by
  obtain ⟨r, hr⟩ := laidB_ahead z0 z1 (k + 1) (K - (k + 1))
  rw [show k + 1 + (K - (k + 1)) = K from by omega] at hr
  rw [hr, laidB]
  simp [length_item]
theorem xOf_val (z0 z1 : List Int) (k : Nat) (h0 : 0 ≤ z0.getD k 0) (h1 : z0.getD k 0 < 4294967296) : numVal (itemOf z0 z1 k) = xOf z0 z1 k := by
  have hn := nOf_bd z1 k
  apply numVal_numBytes _ _ hn.1 hn.2
  · unfold xOf
    exact Int.ediv_nonneg h0 (by have : (0 : Int) < 256 ^ (4 - nOf z1 k) := Int.pow_pos (by decide); omega)
  · unfold xOf
    generalize nOf z1 k = n at hn ⊢
    generalize z0.getD k 0 = v at h0 h1 ⊢
    rcases (by omega : n = 1 ∨ n = 2 ∨ n = 3 ∨ n = 4) with rfl | rfl | rfl | rfl <;> simp <;> omega

theorem rnumber_eq (b p m : Nat) (rv : Value) (rs : List Int) (y : Int) (w : World) (h : RdS w b rv rs p 0) (hm1 : 1 ≤ m) (hm4 : m ≤ 4) (hm : p + m ≤ rs.length) (hy : numVal ((rs.drop p).take m) = y) :
    Calls Try.prog 10 #[.pointer (some ⟨b, 0, none⟩), .int .i64 m] w fun e w' => e = .returned (.int .u32 y) ∧
      RdS w' b rv rs (p + m) 0 ∧ Touch (fun k => k = b) w w' ∧ w'.heap.size = w.heap.size := by
  subst hy
  exact rnumber_ok b p m rv rs w h hm1 hm4 hm

/-- A size's four cases. -/
theorem nOf_cases (z0 z1 : List Int) (k : Nat) : (z1.getD k 0 % 4 = 0 ∧ nOf z1 k = 1 ∧ xOf z0 z1 k = z0.getD k 0 / 16777216) ∨ (z1.getD k 0 % 4 = 1 ∧ nOf z1 k = 2 ∧ xOf z0 z1 k = z0.getD k 0 / 65536) ∨
    (z1.getD k 0 % 4 = 2 ∧ nOf z1 k = 3 ∧ xOf z0 z1 k = z0.getD k 0 / 256) ∨ (z1.getD k 0 % 4 = 3 ∧ nOf z1 k = 4 ∧ xOf z0 z1 k = z0.getD k 0) := by
  have h : z1.getD k 0 % 4 = 0 ∨ z1.getD k 0 % 4 = 1 ∨ z1.getD k 0 % 4 = 2 ∨ z1.getD k 0 % 4 = 3 := by omega
  rcases h with h | h | h | h
  · have e : nOf z1 k = 1 := by unfold nOf; omega
    exact Or.inl ⟨h, e, by unfold xOf; rw [e]; rfl⟩
  · have e : nOf z1 k = 2 := by unfold nOf; omega
    exact Or.inr (Or.inl ⟨h, e, by unfold xOf; rw [e]; rfl⟩)
  · have e : nOf z1 k = 3 := by unfold nOf; omega
    exact Or.inr (Or.inr (Or.inl ⟨h, e, by unfold xOf; rw [e]; rfl⟩))
  · have e : nOf z1 k = 4 := by unfold nOf; omega
    exact Or.inr (Or.inr (Or.inr ⟨h, e, by unfold xOf; rw [e]; simp⟩))
end Go.Proofs.Ytcpagamkpmmgpaa
