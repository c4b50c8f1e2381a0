/- The document's numbers as bytes: Four, two, four, number. -/
import Derived.Test.YthilfealloakdaaGreatDigBuf
import Derived.Test.YthilfealloakdaaGreatStaMath
import Derived.Test.YthilfealloakdaaGreatAuMay
import Derived.Test.YthilfealloakdaaGreatSumMath
import Derived.Laws.BitsAllLaws
import Derived.Test.YthilfealloakdaaGreatWideB
namespace Go.Proofs.YthilfealloakdaaGreat
open Go.RowKit
set_option linter.unusedVariables false
set_option maxRecDepth 100000

end Go.Proofs.YthilfealloakdaaGreat

namespace Go.Proofs.YthilfealloakdaaGreat
open Go.RowKit
set_option linter.unusedVariables false
set_option maxRecDepth 100000

theorem take_next' {l : List Int} {j : Nat} (h : j < l.length) : l.take (j + 1) = l.take j ++ [l.getD j 0] := by
  rw [List.take_add_one, List.getElem?_eq_getElem h]
  simp [List.getD, h]
theorem pow256 {k : Nat} (h : k ≤ 3) : (256 : Int) ^ k ≤ 16777216 := by
  rcases (by omega : k = 0 ∨ k = 1 ∨ k = 2 ∨ k = 3) with rfl | rfl | rfl | rfl <;> decide
end Go.Proofs.YthilfealloakdaaGreat

namespace Go.Proofs.YthilfealloakdaaGreat
open Go.RowKit
set_option linter.unusedVariables false

theorem and16 {n : Int} (h0 : 0 ≤ n) (h : n < 4294967296) : bits .and .u32 n 65535 = n % 65536 := by
  rw [u32_and n _ h0 h (by omega) (by omega), show (65535 : Int).toNat = 2 ^ 16 - 1 from rfl, Nat.and_two_pow_sub_one_eq_mod]
  omega
theorem and8 {n : Int} (h0 : 0 ≤ n) (h : n < 4294967296) : bits .and .u32 n 255 = n % 256 := by
  rw [u32_and n _ h0 h (by omega) (by omega), show (255 : Int).toNat = 2 ^ 8 - 1 from rfl, Nat.and_two_pow_sub_one_eq_mod]
  omega
theorem and8s {n : Int} (h0 : 0 ≤ n) (h : n < 65536) : bits .and .u16 n 255 = n % 256 := by
  rw [u16_and n _ h0 h (by omega) (by omega), show (255 : Int).toNat = 2 ^ 8 - 1 from rfl, Nat.and_two_pow_sub_one_eq_mod]
  omega
theorem or8 {x y : Int} (hx0 : 0 ≤ x) (hx : x < 65536) (hy0 : 0 ≤ y) (hy : y < 256) : bits .or .u32 (x * 256) y = x * 256 + y := by
  rw [u32_or _ _ (by omega) (by omega) hy0 (by omega)]
  obtain ⟨X, rfl⟩ : ∃ X : Nat, x = X := ⟨x.toNat, by omega⟩
  obtain ⟨Y, rfl⟩ : ∃ Y : Nat, y = Y := ⟨y.toNat, by omega⟩
  have e : ((X : Int) * 256).toNat = X <<< 8 := by rw [Nat.shiftLeft_eq]; omega
  rw [e, Int.toNat_natCast, ← Nat.shiftLeft_add_eq_or_of_lt (by omega : Y < 2 ^ 8), Nat.shiftLeft_eq]
  omega
end Go.Proofs.YthilfealloakdaaGreat

namespace Go.Proofs.YthilfealloakdaaGreat
open Go.RowKit
set_option linter.unusedVariables false
set_option maxRecDepth 100000

theorem take_next {l : List Int} {j : Nat} (h : j < l.length) : l.take (j + 1) = l.take j ++ [l.getD j 0] := by
  rw [List.take_add_one, List.getElem?_eq_getElem h]
  simp [List.getD, h]
theorem getD_byte {l : List Int} (h : ∀ x ∈ l, 0 ≤ x ∧ x < 256) (j : Nat) (hj : j < l.length) : 0 ≤ l.getD j 0 ∧ l.getD j 0 < 256 := h _ (by simp [List.getD, hj])
end Go.Proofs.YthilfealloakdaaGreat

namespace Go.Proofs.YthilfealloakdaaGreat
open Go.RowKit
set_option linter.unusedVariables false
set_option maxRecDepth 100000

def FdR (rs : List Int) (s i : Value) : Prop := ∃ (j : Nat) (n : Int), j ≤ rs.length ∧ i = .int .i64 (j : Int) ∧ s = .int .u64 n ∧ 0 ≤ n ∧ n ≤ 65536 * (j : Int) ∧ Hid (n = W true (rs.take j))
def FdR2 (F : Int) (f : Value) : Prop := ∃ n : Int, f = .int .u64 n ∧ 0 ≤ n ∧ n ≤ 4294967296 ∧ Hid (fold n = F)

theorem rfolded_any (v : Value) (rs : List Int) (w : World) (hv : ArgAt w v rs) (hby : ∀ x ∈ rs, 0 ≤ x ∧ x < 256) (hl : rs.length ≤ 65536) :
    Calls Tryz.prog 142 #[v] w fun e w' => e = .returned (.int .u64 (fold (W true rs))) ∧ w = w' := by
  obtain ⟨F, hF⟩ : ∃ F, fold (W true rs) = F := ⟨_, rfl⟩
  have HF : Hid (fold (W true rs) = F) := hF
  rw [hF]
  clear hF
  have HBy : Hid (∀ x ∈ rs, 0 ≤ x ∧ x < 256) := hby
  obtain ⟨va, vc, rfl, hm⟩ := hv.form
  unfold maxLen at hm
  have HV : Hid (ArgAt w (.slice va rs.length vc) rs) := hv
  have hl' : (rs.length : Int) ≤ 65536 := by omega
  clear hv hby
  go_enter Tryz.func142, Tryz.ntmps142
  go_wp2
  go_loop [3, 4] (fun s i => FdR rs s i) (fun _ i => rs.length - (intOf i).toNat)
  case atStart => exact ⟨0, 0, Nat.zero_le _, rfl, rfl, by omega, by omega, rfl⟩
  case round =>
    obtain ⟨j, n, hj, rfl, rfl, hn0, hn1, HN⟩ := hrel
    by_cases hlt : j < rs.length
    · have hr := HV.out.row (by omega)
      obtain ⟨ga, oa, rfl⟩ := rowAt_some hr (by omega)
      have hcx := rowAt_cell hr j hlt
      obtain ⟨hz0, hz1⟩ := getD_byte HBy.out j hlt
      have HE : Hid (j % 2 = 0 → n + 256 * rs.getD j 0 = W true (rs.take (j + 1))) := fun e => by rw [take_next hlt, W_even (by simp; omega), HN.out]
      have HO : Hid (¬ j % 2 = 0 → n + rs.getD j 0 = W true (rs.take (j + 1))) := fun e => by rw [take_next hlt, W_odd (by simp; omega), HN.out]
      revert hcx hz0 hz1 HE HO
      generalize rs.getD j 0 = z
      intro hcx hz0 hz1 HE HO
      have hlt' : (j : Int) < (rs.length : Int) := by omega
      clear hr
      by_cases hp : j % 2 = 0
      · have hp' : (j : Int) % 2 = 0 := by omega
        have HN2 : Hid (FdR rs (.int .u64 (n + 256 * z)) (.int .i64 ((j : Int) + 1))) := ⟨j + 1, n + 256 * z, by omega, by rw [Int.natCast_add]; rfl, rfl, by omega, by omega, HE.out hp⟩
        clear hp HE HO
        go_wp2
        go_round
        case rel => exact HN2.out
        case measure => simp [intOf]; omega
      · have hp' : ((j : Int) % 2 == 0) = false := by simp; omega
        have HN2 : Hid (FdR rs (.int .u64 (n + z)) (.int .i64 ((j : Int) + 1))) := ⟨j + 1, n + z, by omega, by rw [Int.natCast_add]; rfl, rfl, by omega, by omega, HO.out hp⟩
        clear hp HE HO
        go_wp2
        go_round
        case rel => exact HN2.out
        case measure => simp [intOf]; omega
    · obtain rfl : j = rs.length := by omega
      have hq : ¬ (rs.length : Int) < (rs.length : Int) := by omega
      have HN3 : Hid (fold n = F) := by
        show _ = _
        rw [HN.out, List.take_length, HF.out]
      go_wp2
      go_loop [3] (fun f => FdR2 F f) (fun f => (intOf f).toNat)
      case atStart => exact ⟨n, rfl, hn0, by omega, HN3⟩
      case round =>
        obtain ⟨n, rfl, hn0, hn1, HN⟩ := hrel
        by_cases hlt : 65535 < n
        · have HS : Hid (FdR2 F (.int .u64 (n / 65536 + n % 65536))) := ⟨_, rfl, by omega, by omega, by show _ = _; rw [← HN.out]; exact fold_step hlt⟩
          go_wp2
          go_round
          case rel => exact HS.out
          case measure => simp [intOf]; omega
        · have HS : Hid (n = F) := by show _ = _; rw [← HN.out]; exact (fold_small hn0 (by omega)).symm
          go_wp2
          go_ret
          rw [HS.out]
          exact ⟨rfl, rfl⟩

theorem rright_any (v : Value) (rs : List Int) (w : World) (hv : ArgAt w v rs) (hby : ∀ x ∈ rs, 0 ≤ x ∧ x < 256) (hl : rs.length ≤ 65536) :
    Calls Tryz.prog 107 #[v] w fun e w' => e = .returned (.bool (fold (W true rs) == 65535)) ∧ w = w' := by
  have HC := rfolded_any v rs w hv hby hl
  revert HC
  generalize fold (W true rs) = F
  intro HC
  clear hv
  go_enter Tryz.func107, Tryz.ntmps107
  go_wp2_with fail
  refine HC.mono ?_
  rintro e w1 ⟨rfl, rfl⟩
  go_wp2
  go_ret
  exact ⟨rfl, rfl⟩
end Go.Proofs.YthilfealloakdaaGreat

namespace Go.Proofs.YthilfealloakdaaGreat
open Go.RowKit
set_option linter.unusedVariables false
set_option maxRecDepth 100000

theorem cap_of {w : World} {g off c n : Nat} {rs : List Int} (h : RowAt w (.slice (some ⟨g, off, none⟩) n c) rs) : n = rs.length ∧ n ≤ c ∧ c ≤ maxLen := by
  rcases h with ⟨h, _⟩ | ⟨g', off', c', h, h1, h2, _⟩
  · cases h
  · cases h; exact ⟨rfl, h1, h2⟩
theorem drop_row {w : World} {g off c n : Nat} {rs : List Int} (h : RowAt w (.slice (some ⟨g, off, none⟩) n c) rs) (m : Nat) (hm : m ≤ n) : RowAt w (.slice (some ⟨g, off + m, none⟩) (n - m) (c - m)) (rs.drop m) := by
  rcases h with ⟨h, _⟩ | ⟨g', off', c', h, h1, h2, h3⟩
  · cases h
  · cases h
    refine Or.inr ⟨g, off + m, c - m, by simp, by simp; omega, by omega, fun j u hj => ?_⟩
    rw [Nat.add_assoc]
    refine h3 (m + j) u ?_
    simpa [bytesOf, List.getElem?_drop] using hj
theorem take_row {w : World} {g off c n : Nat} {rs : List Int} (h : RowAt w (.slice (some ⟨g, off, none⟩) n c) rs) (m : Nat) (hm : m ≤ n) : RowAt w (.slice (some ⟨g, off, none⟩) m c) (rs.take m) := by
  rcases h with ⟨h, _⟩ | ⟨g', off', c', h, h1, h2, h3⟩
  · cases h
  · cases h
    refine Or.inr ⟨g, off, c, by simp; omega, by simp; omega, by omega, fun j u hj => ?_⟩
    refine h3 j u ?_
    simp only [bytesOf, List.getElem?_map, List.getElem?_take] at hj ⊢
    split at hj
    · exact hj
    · simp at hj
theorem empty_arg (w : World) (ad : Addr) (c : Nat) (hc : c ≤ maxLen) : ArgAt w (.slice (some ad) 0 c) [] := Or.inr ⟨ad, c, rfl, Nat.zero_le _, hc, fun j u hj => by simp [bytesOf] at hj⟩

/-- b[i:j], of a row that is not empty. -/
theorem cut_mid {w : World} {va : Option Addr} {vc n : Nat} {rs : List Int} (h : ArgAt w (.slice va n vc) rs) (hn : n = rs.length) (hp : 0 < n) (i j : Nat) (hij : i ≤ j) (hj : j ≤ n) :
    ∃ v, (∀ w, Sem.run Tryz.prog (Instr.slice 22 (.slice va n vc) (some (.int .i64 (i : Int))) (some (.int .i64 (j : Int))) none) w = .ok v w) ∧ ArgAt w v ((rs.drop i).take (j - i)) := by
  subst hn
  have hr := h.row hp
  obtain ⟨ga, oa, rfl⟩ := rowAt_some hr hp
  obtain ⟨-, hc1, hc2⟩ := cap_of hr
  have hc2' : (vc : Int) ≤ 9223372036854775807 := by unfold maxLen at hc2; omega
  have h0 : (0 : Int) ≤ (i : Int) := by omega
  have h0' : (0 : Int) ≤ (j : Int) := by omega
  have h1 : (j : Int) ≤ (vc : Int) := by omega
  have h2 : (i : Int) ≤ (j : Int) := by omega
  by_cases hz : vc = i
  · refine ⟨.slice (some ⟨ga, oa, none⟩) (j - i) (vc - i), fun w => ?_, ?_⟩
    · simp [Instr.slice, Instr.sliceBounds, Instr.sliceBound, go_sem, h0, h0', hz]
      rw [if_pos (by omega), if_pos (by omega)]
    · have : j - i = 0 := by omega
      rw [this, List.take_zero]
      exact empty_arg w _ _ (by unfold maxLen; omega)
  · refine ⟨.slice (some ⟨ga, oa + i, none⟩) (j - i) (vc - i), fun w => ?_, (take_row (drop_row hr i (by omega)) (j - i) (by omega)).arg⟩
    simp [Instr.slice, Instr.sliceBounds, Instr.sliceBound, go_sem, h0, h0', hz]
    rw [if_pos (by omega), if_pos hij]
/-- b[i:]. -/
theorem cut_from {w : World} {va : Option Addr} {vc n : Nat} {rs : List Int} (h : ArgAt w (.slice va n vc) rs) (hn : n = rs.length) (hp : 0 < n) (i : Nat) (hi : i ≤ n) :
    ∃ v, (∀ w, Sem.run Tryz.prog (Instr.slice 22 (.slice va n vc) (some (.int .i64 (i : Int))) none none) w = .ok v w) ∧ ArgAt w v (rs.drop i) := by
  subst hn
  have hr := h.row hp
  obtain ⟨ga, oa, rfl⟩ := rowAt_some hr hp
  obtain ⟨-, hc1, hc2⟩ := cap_of hr
  have hc2' : (vc : Int) ≤ 9223372036854775807 := by unfold maxLen at hc2; omega
  have h0 : (0 : Int) ≤ (i : Int) := by omega
  have h2 : (i : Int) ≤ (rs.length : Int) := by omega
  have h3 : (rs.length : Int) ≤ (vc : Int) := by omega
  by_cases hz : vc = i
  · refine ⟨.slice (some ⟨ga, oa, none⟩) (rs.length - i) (vc - i), fun w => ?_, ?_⟩
    · simp [Instr.slice, Instr.sliceBounds, Instr.sliceBound, go_sem, h0, hz]
      omega
    · have : rs.length - i = 0 := by omega
      rw [this, List.drop_eq_nil_of_le (by omega)]
      exact empty_arg w _ _ (by unfold maxLen; omega)
  · refine ⟨.slice (some ⟨ga, oa + i, none⟩) (rs.length - i) (vc - i), fun w => ?_, (drop_row hr i hi).arg⟩
    simp [Instr.slice, Instr.sliceBounds, Instr.sliceBound, go_sem, h0, hz]
    omega
/-- b[:j]. -/
theorem cut_to {w : World} {va : Option Addr} {vc n : Nat} {rs : List Int} (h : ArgAt w (.slice va n vc) rs) (hn : n = rs.length) (hp : 0 < n) (j : Nat) (hj : j ≤ n) :
    ∃ v, (∀ w, Sem.run Tryz.prog (Instr.slice 22 (.slice va n vc) none (some (.int .i64 (j : Int))) none) w = .ok v w) ∧ ArgAt w v (rs.take j) := by
  subst hn
  have hr := h.row hp
  obtain ⟨ga, oa, rfl⟩ := rowAt_some hr hp
  obtain ⟨-, hc1, hc2⟩ := cap_of hr
  have hc2' : (vc : Int) ≤ 9223372036854775807 := by unfold maxLen at hc2; omega
  have h0 : (0 : Int) ≤ (j : Int) := by omega
  have h1 : (j : Int) ≤ (vc : Int) := by omega
  have hne : ¬ vc = 0 := by omega
  refine ⟨.slice (some ⟨ga, oa, none⟩) j vc, fun w => ?_, (take_row hr j hj).arg⟩
  simp [Instr.slice, Instr.sliceBounds, Instr.sliceBound, go_sem, h0]
  intro hh; omega
end Go.Proofs.YthilfealloakdaaGreat
