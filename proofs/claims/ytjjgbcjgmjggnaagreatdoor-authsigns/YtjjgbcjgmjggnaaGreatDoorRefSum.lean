/- Pure: the bytes of heads and bodies; which bodies may be; bodies out of bytes. -/
import Derived.Test.YtjjgbcjgmjggnaaGreatDoorAuPure
import Derived.WalkKit
import Derived.Test.YtjjgbcjgmjggnaaGreatDoorHeadV
import Derived.Test.YtjjgbcjgmjggnaaGreatDoorDigBuf
import Derived.Test.YtjjgbcjgmjggnaaGreatDoorAuMay
import Derived.Laws.BitsAllLaws
import Derived.Test.YtjjgbcjgmjggnaaGreatDoorWideB
namespace Go.Proofs.YtjjgbcjgmjggnaaGreatDoor
open Go.RowKit
set_option linter.unusedVariables false
set_option maxRecDepth 100000

/-- A link's numbers. -/
structure LV where
  id : Int
  data : Int
  typ : Int
  cost : Int
/-- A body's numbers. -/
structure BV where
  flags : Int
  links : List LV
  mask : Int
  routers : List Int
  metric : Int
  type2 : Bool
  fwd : Int
  tag : Int
  data : List Int
def BV.zero : BV := ⟨0, [], 0, [], 0, false, 0, 0, []⟩
structure LV.Ok (x : LV) : Prop where
  i : 0 ≤ x.id ∧ x.id < 4294967296
  d : 0 ≤ x.data ∧ x.data < 4294967296
  t : 0 ≤ x.typ ∧ x.typ < 256
  c : 0 ≤ x.cost ∧ x.cost < 65536
structure BV.Ok (b : BV) : Prop where
  f : 0 ≤ b.flags ∧ b.flags < 256
  l : ∀ x ∈ b.links, x.Ok
  m : 0 ≤ b.mask ∧ b.mask < 4294967296
  r : ∀ x ∈ b.routers, 0 ≤ x ∧ x < 4294967296
  e : 0 ≤ b.metric ∧ b.metric < 4294967296
  w : 0 ≤ b.fwd ∧ b.fwd < 4294967296
  t : 0 ≤ b.tag ∧ b.tag < 4294967296
  d : ∀ x ∈ b.data, 0 ≤ x ∧ x < 256
/-- A head's numbers fit their kinds. -/
structure HV.All (h : HV) : Prop where
  a : 0 ≤ h.age ∧ h.age < 65536
  o : 0 ≤ h.opts ∧ h.opts < 256
  t : 0 ≤ h.typ ∧ h.typ < 256
  i : 0 ≤ h.id ∧ h.id < 4294967296
  v : 0 ≤ h.adv ∧ h.adv < 4294967296
  s : -2147483648 ≤ h.seq ∧ h.seq ≤ 2147483647
  m : 0 ≤ h.sum ∧ h.sum < 65536
  l : 0 ≤ h.len ∧ h.len < 65536

end Go.Proofs.YtjjgbcjgmjggnaaGreatDoor

namespace Go.Proofs.YtjjgbcjgmjggnaaGreatDoor
open Go.RowKit
set_option linter.unusedVariables false
set_option maxRecDepth 100000

theorem take_next' {l : List Int} {j : Nat} (h : j < l.length) : l.take (j + 1) = l.take j ++ [l.getD j 0] := by
  rw [List.take_add_one, List.getElem?_eq_getElem h]
  simp [List.getD, h]
theorem pow256 {k : Nat} (h : k ≤ 3) : (256 : Int) ^ k ≤ 16777216 := by
  rcases (by omega : k = 0 ∨ k = 1 ∨ k = 2 ∨ k = 3) with rfl | rfl | rfl | rfl <;> decide
end Go.Proofs.YtjjgbcjgmjggnaaGreatDoor

namespace Go.Proofs.YtjjgbcjgmjggnaaGreatDoor
open Go.RowKit
set_option linter.unusedVariables false

theorem and16 {n : Int} (h0 : 0 ≤ n) (h : n < 4294967296) : bits .and .u32 n 65535 = n % 65536 := by
  rw [u32_and n _ h0 h (by omega) (by omega), show (65535 : Int).toNat = 2 ^ 16 - 1 from rfl, Nat.and_two_pow_sub_one_eq_mod]
  omega
theorem and8 {n : Int} (h0 : 0 ≤ n) (h : n < 4294967296) : bits .and .u32 n 255 = n % 256 := by
  rw [u32_and n _ h0 h (by omega) (by omega), show (255 : Int).toNat = 2 ^ 8 - 1 from rfl, Nat.and_two_pow_sub_one_eq_mod]
  omega
end Go.Proofs.YtjjgbcjgmjggnaaGreatDoor

namespace Go.Proofs.YtjjgbcjgmjggnaaGreatDoor
open Go.RowKit
set_option linter.unusedVariables false
set_option maxRecDepth 100000

theorem take_next {l : List Int} {j : Nat} (h : j < l.length) : l.take (j + 1) = l.take j ++ [l.getD j 0] := by
  rw [List.take_add_one, List.getElem?_eq_getElem h]
  simp [List.getD, h]
theorem getD_byte {l : List Int} (h : ∀ x ∈ l, 0 ≤ x ∧ x < 256) (j : Nat) (hj : j < l.length) : 0 ≤ l.getD j 0 ∧ l.getD j 0 < 256 := h _ (by simp [List.getD, hj])
end Go.Proofs.YtjjgbcjgmjggnaaGreatDoor

namespace Go.Proofs.YtjjgbcjgmjggnaaGreatDoor
open Go.RowKit
set_option linter.unusedVariables false
set_option maxRecDepth 100000

def FdR (rs : List Int) (s i : Value) : Prop := ∃ (j : Nat) (n : Int), j ≤ rs.length ∧ i = .int .i64 (j : Int) ∧ s = .int .u64 n ∧ 0 ≤ n ∧ n ≤ 65536 * (j : Int) ∧ Hid (n = W true (rs.take j))
def FdR2 (F : Int) (f : Value) : Prop := ∃ n : Int, f = .int .u64 n ∧ 0 ≤ n ∧ n ≤ 4294967296 ∧ Hid (fold n = F)

theorem rfolded_any (v : Value) (rs : List Int) (w : World) (hv : ArgAt w v rs) (hby : ∀ x ∈ rs, 0 ≤ x ∧ x < 256) (hl : rs.length ≤ 65536) :
    Calls Tryz.prog 71 #[v] w fun e w' => e = .returned (.int .u64 (fold (W true rs))) ∧ w = w' := by
  obtain ⟨F, hF⟩ : ∃ F, fold (W true rs) = F := ⟨_, rfl⟩
  have HF : Hid (fold (W true rs) = F) := hF
  rw [hF]
  clear hF
  have HBy : Hid (∀ x ∈ rs, 0 ≤ x ∧ x < 256) := hby
  obtain ⟨va, vc, rfl, hm⟩ := hv.form
  unfold maxLen at hm
  have HV : Hid (ArgAt w (.slice va rs.length vc) rs) := hv
  have hl' : (rs.length : Int) ≤ 65536 := by omega
  clear hv hby
  go_enter Tryz.func71, Tryz.ntmps71
  go_wp2
  go_loop [3, 4] (fun s i => FdR rs s i) (fun _ i => rs.length - (intOf i).toNat)
  case atStart => exact ⟨0, 0, Nat.zero_le _, rfl, rfl, by omega, by omega, rfl⟩
  case round =>
    obtain ⟨j, n, hj, rfl, rfl, hn0, hn1, HN⟩ := hrel
    by_cases hlt : j < rs.length
    · have hr := HV.out.row (by omega)
      obtain ⟨ga, oa, rfl⟩ := rowAt_some hr (by omega)
      have hcx := rowAt_cell hr j hlt
      obtain ⟨hz0, hz1⟩ := getD_byte HBy.out j hlt
      have HE : Hid (j % 2 = 0 → n + 256 * rs.getD j 0 = W true (rs.take (j + 1))) := fun e => by rw [take_next hlt, W_even (by simp; omega), HN.out]
      have HO : Hid (¬ j % 2 = 0 → n + rs.getD j 0 = W true (rs.take (j + 1))) := fun e => by rw [take_next hlt, W_odd (by simp; omega), HN.out]
      revert hcx hz0 hz1 HE HO
      generalize rs.getD j 0 = z
      intro hcx hz0 hz1 HE HO
      have hlt' : (j : Int) < (rs.length : Int) := by omega
      clear hr
      by_cases hp : j % 2 = 0
      · have hp' : (j : Int) % 2 = 0 := by omega
        have HN2 : Hid (FdR rs (.int .u64 (n + 256 * z)) (.int .i64 ((j : Int) + 1))) := ⟨j + 1, n + 256 * z, by omega, by rw [Int.natCast_add]; rfl, rfl, by omega, by omega, HE.out hp⟩
        clear hp HE HO
        go_wp2
        go_round
        case rel => exact HN2.out
        case measure => simp [intOf]; omega
      · have hp' : ((j : Int) % 2 == 0) = false := by simp; omega
        have HN2 : Hid (FdR rs (.int .u64 (n + z)) (.int .i64 ((j : Int) + 1))) := ⟨j + 1, n + z, by omega, by rw [Int.natCast_add]; rfl, rfl, by omega, by omega, HO.out hp⟩
        clear hp HE HO
        go_wp2
        go_round
        case rel => exact HN2.out
        case measure => simp [intOf]; omega
    · obtain rfl : j = rs.length := by omega
      have hq : ¬ (rs.length : Int) < (rs.length : Int) := by omega
      have HN3 : Hid (fold n = F) := by
        show _ = _
        rw [HN.out, List.take_length, HF.out]
      go_wp2
      go_loop [3] (fun f => FdR2 F f) (fun f => (intOf f).toNat)
      case atStart => exact ⟨n, rfl, hn0, by omega, HN3⟩
      case round =>
        obtain ⟨n, rfl, hn0, hn1, HN⟩ := hrel
        by_cases hlt : 65535 < n
        · have HS : Hid (FdR2 F (.int .u64 (n / 65536 + n % 65536))) := ⟨_, rfl, by omega, by omega, by show _ = _; rw [← HN.out]; exact fold_step hlt⟩
          go_wp2
          go_round
          case rel => exact HS.out
          case measure => simp [intOf]; omega
        · have HS : Hid (n = F) := by show _ = _; rw [← HN.out]; exact (fold_small hn0 (by omega)).symm
          go_wp2
          go_ret
          rw [HS.out]
          exact ⟨rfl, rfl⟩

theorem rplain_any (v : Value) (rs : List Int) (w : World) (hv : ArgAt w v rs) (hby : ∀ x ∈ rs, 0 ≤ x ∧ x < 256) (hl : rs.length ≤ 65536) :
    Calls Tryz.prog 31 #[v] w fun e w' => e = .returned (.int .u16 (65535 - fold (W true rs))) ∧ w = w' := by
  have HC := rfolded_any v rs w hv hby hl
  have hb := fold_bound (W true rs)
  revert HC hb
  generalize fold (W true rs) = F
  intro HC hb
  obtain ⟨hb0, hb1⟩ := hb
  clear hv
  go_enter Tryz.func31, Tryz.ntmps31
  go_wp2_with fail
  refine HC.mono ?_
  rintro e w1 ⟨rfl, rfl⟩
  go_wp2
  go_ret
  exact ⟨rfl, rfl⟩
theorem rright_any (v : Value) (rs : List Int) (w : World) (hv : ArgAt w v rs) (hby : ∀ x ∈ rs, 0 ≤ x ∧ x < 256) (hl : rs.length ≤ 65536) :
    Calls Tryz.prog 67 #[v] w fun e w' => e = .returned (.bool (fold (W true rs) == 65535)) ∧ w = w' := by
  have HC := rfolded_any v rs w hv hby hl
  revert HC
  generalize fold (W true rs) = F
  intro HC
  clear hv
  go_enter Tryz.func67, Tryz.ntmps67
  go_wp2_with fail
  refine HC.mono ?_
  rintro e w1 ⟨rfl, rfl⟩
  go_wp2
  go_ret
  exact ⟨rfl, rfl⟩
end Go.Proofs.YtjjgbcjgmjggnaaGreatDoor
