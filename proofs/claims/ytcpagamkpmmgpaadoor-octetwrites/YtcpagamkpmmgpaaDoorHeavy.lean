/- The contract of 'heavy'. -/
import Derived.Test.YtcpagamkpmmgpaaDoorArgs
namespace Go.Proofs.YtcpagamkpmmgpaaDoor
open Go.RowKit
set_option linter.unusedVariables false
set_option maxRecDepth 100000

/-- How 'heavy' ends. -/
structure HeavyEnd (w : World) (len0 len1 : Nat) (ops : Nat → OpD) (e : Ending) (w' : World) : Prop where
  ex : ∃ r : Bool, e = .returned (.bool r) ∧ w = w' ∧ (r = false → len0 ≤ 65536 ∧ len1 ≤ 200 ∧ ∀ i, i < len1 → (ops i).bs.length ≤ 65536)

theorem heavy_any (a0 : Option Addr) (len0 cap0 : Nat) (a1 : Option Addr) (len1 cap1 : Nat) (g off : Nat) (ops : Nat → OpD) (w : World) (h0 : len0 ≤ 140737488355328) (h1 : len1 ≤ 140737488355328) (ha : 0 < len1 → a1 = some ⟨g, off, none⟩) (hops : ∀ i, i < len1 → OpAt w g off i (ops i)) :
    Calls Tryd.prog 5 #[.slice a0 len0 cap0, .slice a1 len1 cap1] w fun e w' => HeavyEnd w len0 len1 ops e w' := by
  go_enter Tryd.func5, Tryd.ntmps5
  go_wp2
  go_loop [5, 6] (fun n i => ∃ (k : Nat) (N : Nat), k ≤ len1 ∧ i = .int .i64 k ∧ n = .int .i64 N ∧ N ≤ 281474976710656 ∧ Hid (len0 ≤ N ∧ ∀ i, i < k → (ops i).bs.length ≤ N)) (fun _ i => len1 - (intOf i).toNat)
  case atStart => exact ⟨0, len0, Nat.zero_le _, rfl, rfl, by omega, Nat.le_refl _, by omega⟩
  case round =>
    obtain ⟨k, N, hk, rfl, rfl, hN, HI⟩ := hrel
    by_cases hlt : k < len1
    · by_cases hn : N ≤ 65536
      · obtain rfl := ha (by omega)
        have ho := hops k hlt
        obtain ⟨ba, bc, hbf, _⟩ := ho.arg.form
        have hc4 := ho.c4
        have hsm := ho.small
        rw [hbf] at hc4
        obtain ⟨L, hL⟩ : ∃ L, (ops k).bs.length = L := ⟨_, rfl⟩
        rw [hL] at hc4 hsm
        have HN : Hid (len0 ≤ N + L ∧ ∀ i, i < k + 1 → (ops i).bs.length ≤ N + L) := by
          refine ⟨by have := HI.out.1; omega, fun i hi => ?_⟩
          rcases Nat.lt_or_ge i k with h | h
          · have := HI.out.2 i h; omega
          · obtain rfl : i = k := by omega
            omega
        have hn' : (N : Int) ≤ 65536 := by omega
        clear ho hbf hL hops HI
        go_wp2
        go_round
        case rel => exact ⟨k + 1, N + L, by omega, by go_num, by go_num, by omega, HN⟩
        case measure => simp [intOf] <;> omega
      · have hn' : ¬ (N : Int) ≤ 65536 := by omega
        have hn2 : (65536 : Int) < (N : Int) := by omega
        go_wp2
        go_ret
        exact ⟨⟨_, rfl, rfl, by simp⟩⟩
    · obtain rfl : k = len1 := by omega
      by_cases hn : N ≤ 65536
      · have hn2 : ¬ (65536 : Int) < (N : Int) := by omega
        have hn3 : decide ((65536 : Int) < (N : Int)) = false := by simpa using hn2
        go_wp2
        go_ret
        refine ⟨⟨_, rfl, rfl, fun hr => ?_⟩⟩
        have hI := HI.out
        simp at hr
        exact ⟨by omega, by omega, fun i hi => by have := hI.2 i hi; omega⟩
      · have hn2 : (65536 : Int) < (N : Int) := by omega
        go_wp2
        go_ret
        exact ⟨⟨_, rfl, rfl, by simp⟩⟩
end Go.Proofs.YtcpagamkpmmgpaaDoor
