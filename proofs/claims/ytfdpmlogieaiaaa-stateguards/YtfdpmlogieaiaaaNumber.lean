/- Contracts of the reader's Number. -/
import Derived.Test.YtfdpmlogieaiaaaCut
import Derived.Test.YtfdpmlogieaiaaaRets
namespace Go.Proofs.Ytfdpmlogieaiaaa
open Go.RowKit
set_option linter.unusedVariables false
set_option maxRecDepth 100000

/-- The number that bytes are, the highest first. -/
def numVal (l : List Int) : Int := l.foldl (fun a x => a * 256 + x) 0
theorem numVal_snoc (l : List Int) (x : Int) : numVal (l ++ [x]) = numVal l * 256 + x := by simp [numVal]
theorem numVal_take (l : List Int) (k : Nat) (h : k < l.length) : numVal (l.take (k + 1)) = numVal (l.take k) * 256 + l.getD k 0 := by
  rw [List.take_succ_eq_append_getElem h, numVal_snoc]; simp [List.getD, h]
theorem numVal_bd (l : List Int) (hb : ∀ x ∈ l, 0 ≤ x ∧ x < 256) (k : Nat) : 0 ≤ numVal (l.take k) ∧ numVal (l.take k) < 256 ^ k := by
  induction k with
  | zero => simp [numVal]
  | succ k ih =>
    by_cases h : k < l.length
    · rw [numVal_take l k h]
      have hx := hb (l.getD k 0) (by simp [List.getD, h])
      have e : (256 : Int) ^ (k + 1) = 256 ^ k * 256 := Int.pow_succ _ _
      omega
    · rw [List.take_of_length_le (by omega)] at ih ⊢
      have e : (256 : Int) ^ (k + 1) = 256 ^ k * 256 := Int.pow_succ _ _
      have : (0 : Int) < 256 ^ k := Int.pow_pos (by decide)
      omega
theorem pow_3 (k : Nat) (h : k ≤ 3) : (256 : Int) ^ k ≤ 16777216 := by
  rcases (by omega : k = 0 ∨ k = 1 ∨ k = 2 ∨ k = 3) with rfl | rfl | rfl | rfl <;> decide

theorem or_low (x y : Int) (hx : 0 ≤ x) (hx1 : x < 16777216) (hy : 0 ≤ y) (hy1 : y < 256) : bits .or .u32 (x * 256) y = x * 256 + y := by
  rw [u32_or _ _ (by omega) (by omega) (by omega) (by omega)]
  have e1 : (x * 256).toNat = x.toNat <<< 8 := by rw [Nat.shiftLeft_eq]; omega
  rw [e1, ← Nat.shiftLeft_add_eq_or_of_lt (by omega), Nat.shiftLeft_eq]
  omega

theorem bytes_sub {rs : List Int} (hb : ∀ x ∈ rs, 0 ≤ x ∧ x < 256) (p m : Nat) : ∀ x ∈ (rs.drop p).take m, 0 ≤ x ∧ x < 256 :=
  fun x hx => hb x (List.mem_of_mem_drop (List.mem_of_mem_take hx))

theorem cut_num (b p m : Nat) (rv : Value) (rs : List Int) (w : World) (h : RdS w b rv rs p 0) (hm1 : 1 ≤ m) (hm : p + m ≤ rs.length) :
    Calls Try.prog 91 #[.pointer (some ⟨b, 0, none⟩), .int .i64 m] w fun e w' => ∃ (g off c : Nat) (zs : List Int), e = .returned (.slice (some ⟨g, off, none⟩) m c) ∧ Hid (zs = (rs.drop p).take m) ∧ zs.length = m ∧
      (∀ j, j < m → w'.cell? ⟨g, off + j, none⟩ = some (.int .u8 (zs.getD j 0))) ∧ Hid (∀ x ∈ zs, 0 ≤ x ∧ x < 256) ∧ Hid (RdS w' b rv rs (p + m) 0 ∧ Touch (fun k => k = b) w w' ∧ w'.heap.size = w.heap.size) := by
  refine (cut_ok b p m rv rs w h hm).mono ?_
  rintro e w' ⟨sv, rfl, hrow, hown, hrd, ht, hsz⟩
  have hl : ((rs.drop p).take m).length = m := by simp; omega
  rcases hrow with ⟨_, e⟩ | ⟨g, off, c, rfl, h1, h2, h3⟩
  · rw [e] at hl; simp at hl; omega
  · refine ⟨g, off, c, _, by rw [hl], rfl, hl, fun j hj => h3 j _ ?_, bytes_sub h.byte p m, hrd, ht, hsz⟩
    simp only [bytesOf, List.getElem?_map]
    rw [List.getElem?_eq_getElem (by omega)]
    simp [List.getD, hl, hj]

theorem rnumber_ok (b p m : Nat) (rv : Value) (rs : List Int) (w : World) (h : RdS w b rv rs p 0) (hm1 : 1 ≤ m) (hm4 : m ≤ 4) (hm : p + m ≤ rs.length) :
    Calls Try.prog 74 #[.pointer (some ⟨b, 0, none⟩), .int .i64 m] w fun e w' => e = .returned (.int .u32 (numVal ((rs.drop p).take m))) ∧
      RdS w' b rv rs (p + m) 0 ∧ Touch (fun k => k = b) w w' ∧ w'.heap.size = w.heap.size := by
  have hd1 : decide ((m : Int) < 1) = false := by simp; omega
  have hd2 : decide ((4 : Int) < m) = false := by simp; omega
  go_enter Try.func74, Try.ntmps74
  go_wp2_with (go_at_call 91; refine (cut_num _ p m _ rs _ h hm1 hm).mono ?_; rintro e w' ⟨g, off, c, zs, rfl, hzs, hzl, hcell, hby, hrest⟩)
  go_loop [5, 20] (fun v i => ∃ k : Nat, k ≤ m ∧ i = .int .i64 k ∧ v = .int .u32 (numVal (zs.take k))) (fun _ i => m - (intOf i).toNat)
  case atStart => exact ⟨0, Nat.zero_le _, rfl, rfl⟩
  case round =>
    obtain ⟨k, hk, rfl, rfl⟩ := hrel
    by_cases hlt : k < m
    · have hc := hcell k hlt
      obtain ⟨z, hz⟩ : ∃ z, z = zs.getD k 0 := ⟨_, rfl⟩
      rw [← hz] at hc
      have hx := hby.out z (by rw [hz]; simp [List.getD, show k < zs.length by omega])
      obtain ⟨hx0, hx1⟩ := hx
      obtain ⟨V, hV⟩ : ∃ V, V = numVal (zs.take k) := ⟨_, rfl⟩
      have hb := numVal_bd zs hby.out k
      have hb3 := pow_3 k (by omega)
      have HS : Hid (numVal (zs.take (k + 1)) = V * 256 + z) := by show _ = _; rw [numVal_take zs k (by omega), hV, hz]
      rw [← hV] at hb ⊢
      have hV1 : V < 16777216 := by omega
      have hV0 : 0 ≤ V := hb.1
      have hor := or_low V z hV0 hV1 hx0 hx1
      clear hb hb3 hV hz hcell
      go_wp2
      go_round
      case rel => exact ⟨k + 1, by omega, by go_num, by rw [HS.out]⟩
      case measure => simp [intOf]; omega
    · go_wp2
      go_ret
      obtain rfl : k = m := by omega
      obtain ⟨a, b', c'⟩ := hrest.out
      exact ⟨ret_int (by rw [← hzs.out, List.take_of_length_le (by omega)]), a, b', c'⟩
end Go.Proofs.Ytfdpmlogieaiaaa
