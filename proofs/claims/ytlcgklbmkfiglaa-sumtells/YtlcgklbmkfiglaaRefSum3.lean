/- The document's side: Whole, Fletcher. -/
import Derived.Test.YtlcgklbmkfiglaaRefSum2
namespace Go.Proofs.Ytlcgklbmkfiglaa
open Go.RowKit
set_option linter.unusedVariables false
set_option maxRecDepth 100000

theorem rwhole_any (v : Value) (rs : List Int) (w : World) (hv : ArgAt w v rs) (hby : ∀ x ∈ rs, 0 ≤ x ∧ x < 256) (hl : rs.length ≤ 65536) :
    Calls Try.prog 14 #[v] w fun e w' => e = .returned (.bool (whole rs)) ∧ w = w' := by
  have HC := rsums_any v rs rs (-1) w hv hby hl (ZAt.all rs) (by omega) (by omega)
  unfold whole
  revert HC
  generalize S0 rs % 255 = x
  generalize S1 rs % 255 = y
  intro HC
  clear hv hby
  by_cases hx : x = 0
  · subst hx
    go_enter Try.func14, Try.ntmps14
    go_wp2_with fail
    refine HC.mono ?_
    rintro e w1 ⟨rfl, rfl⟩
    go_wp2
    go_ret
    exact ⟨by simp, rfl⟩
  · have hx' : (x == 0) = false := by simpa using hx
    go_enter Try.func14, Try.ntmps14
    go_wp2_with fail
    refine HC.mono ?_
    rintro e w1 ⟨rfl, rfl⟩
    go_wp2
    go_ret
    exact ⟨by simp [hx'], rfl⟩

theorem rfletcher_out (v : Value) (rs : List Int) (a : Int) (w : World) (hv : ArgAt w v rs) (hl : rs.length ≤ 65536) (h : a < 0 ∨ (rs.length : Int) - 2 < a) :
    Calls Try.prog 8 #[v, .int .i64 a] w fun e w' => e = .returned (.tuple #[.int .u16 0, .int .i64 1]) ∧ w = w' := by
  obtain ⟨va, vc, rfl, hm⟩ := hv.form
  clear hv
  by_cases h0 : a < 0
  · clear h
    go_enter Try.func8, Try.ntmps8
    go_wp2
    go_ret2
    exact ⟨rfl, rfl⟩
  · have h0' : decide (a < 0) = false := by simpa using h0
    have h2 : (rs.length : Int) - 1 ≤ a := by omega
    clear h
    go_enter Try.func8, Try.ntmps8
    go_wp2
    go_ret2
    exact ⟨rfl, rfl⟩

def XR (X : Int) (x : Value) : Prop := ∃ n : Int, x = .int .i64 n ∧ 1 ≤ n ∧ n ≤ X
def YR (X Y n : Int) (y : Value) : Prop := ∃ m : Int, y = .int .i64 m ∧ 1 ≤ m ∧ m ≤ 256 ∧ Hid (n = X → m ≤ Y)

set_option maxHeartbeats 1000000 in
theorem rfletcher_any (v : Value) (rs : List Int) (a : Nat) (w : World) (hv : ArgAt w v rs) (hby : ∀ x ∈ rs, 0 ≤ x ∧ x < 256) (hl : rs.length ≤ 65536) (h : a + 2 ≤ rs.length) :
    Calls Try.prog 8 #[v, .int .i64 (a : Int)] w fun e w' => e = .returned (.tuple #[.int .u16 (256 * flx rs a + fly rs a), .int .i64 0]) ∧ w = w' := by
  have HC := rsums_any v rs (laid rs a 0 0) (a : Int) w hv hby hl (ZAt.laid rs a h) (by omega) (by omega)
  obtain ⟨N, hN⟩ : ∃ N, ((rs.length : Int) - (a : Int)) % 255 = N := ⟨_, rfl⟩
  obtain ⟨T, hT⟩ : ∃ T, (N + 254) % 255 = T := ⟨_, rfl⟩
  have hTt : tms rs a = T := by unfold tms; omega
  have hX : flx rs a = fx T (S0 (laid rs a 0 0) % 255) (S1 (laid rs a 0 0) % 255) := by unfold flx; rw [hTt]
  have hY : fly rs a = fy (S0 (laid rs a 0 0) % 255) (flx rs a) := rfl
  have hXb := flx_bound rs a
  have hYb := fly_bound rs a
  have hC0 : 0 ≤ S0 (laid rs a 0 0) % 255 ∧ S0 (laid rs a 0 0) % 255 ≤ 254 := by omega
  have hC1 : 0 ≤ S1 (laid rs a 0 0) % 255 ∧ S1 (laid rs a 0 0) % 255 ≤ 254 := by omega
  revert HC hX hY hXb hYb hC0 hC1
  generalize S0 (laid rs a 0 0) % 255 = C0
  generalize S1 (laid rs a 0 0) % 255 = C1
  generalize flx rs a = X
  generalize fly rs a = Y
  intro HC hX hY hXb hYb hC0 hC1
  have HPair : Hid (∀ x y : Int, 1 ≤ x ∧ x ≤ 255 → 1 ≤ y ∧ y ≤ 255 → (((C0 + x + y) % 255 = 0 ∧ (C1 + N * x + T * y) % 255 = 0) ↔ x = X ∧ y = Y)) := by
    intro x y hx hy
    rw [hY, hX]
    exact pair_only hT.symm hx hy
  obtain ⟨hX0, hX1⟩ := hXb
  obtain ⟨hY0, hY1⟩ := hYb
  obtain ⟨hC00, hC01⟩ := hC0
  obtain ⟨hC10, hC11⟩ := hC1
  have hN0 : 0 ≤ N := by omega
  have hN1 : N ≤ 254 := by omega
  have hT0 : 0 ≤ T := by omega
  have hT1 : T ≤ 254 := by omega
  obtain ⟨va, vc, rfl, hm⟩ := hv.form
  have h0 : ¬ (a : Int) < 0 := by omega
  have h1 : ¬ (rs.length : Int) - 1 ≤ (a : Int) := by omega
  have h2 : (a : Int) + 2 ≤ (rs.length : Int) := by omega
  have h3 : (rs.length : Int) ≤ 65536 := by omega
  clear hv hby hTt hX hY hm
  have HT : Hid ((N + 254) % 255 = T) := hT
  clear hT
  go_enter Try.func8, Try.ntmps8
  go_wp2_with fail
  refine HC.mono ?_
  rintro e w1 ⟨rfl, rfl⟩
  clear HC
  go_wp2_with fail
  rw [hN]
  go_loop [9] (fun x => XR X x) (fun x => (256 - intOf x).toNat)
  case atStart => exact ⟨1, rfl, by omega, by omega⟩
  case round =>
    obtain ⟨x, rfl, hx0, hx1⟩ := hrel
    have hT := HT.out
    clear hN
    go_wp2_with fail
    go_loop [10] (fun y => YR X Y x y) (fun y => (257 - intOf y).toNat)
    case atStart => exact ⟨1, rfl, by omega, by omega, fun _ => by omega⟩
    case round =>
      obtain ⟨y, rfl, hy0, hy1, HY⟩ := hrel
      by_cases hle : y ≤ 255
      · obtain ⟨hp0, hp1⟩ := mul_bound255 (x := N) (y := x) ⟨hN0, hN1⟩ ⟨by omega, by omega⟩
        obtain ⟨hq0, hq1⟩ := mul_bound255 (x := T) (y := y) ⟨hT0, hT1⟩ ⟨by omega, by omega⟩
        have hpr := HPair.out x y ⟨by omega, by omega⟩ ⟨by omega, by omega⟩
        by_cases e1 : (C0 + x + y) % 255 = 0
        · by_cases e2 : (C1 + N * x + T * y) % 255 = 0
          · obtain ⟨rfl, rfl⟩ := hpr.1 ⟨e1, e2⟩
            clear hpr
            go_wp2
            go_ret2
            exact ⟨rfl, rfl⟩
          · have e2' : ((C1 + N * x + T * y) % 255 == 0) = false := by simpa using e2
            have HN : Hid (YR X Y x (.int .i64 (y + 1))) := ⟨y + 1, rfl, by omega, by omega, fun e => by
              have := HY.out e
              rcases Int.lt_or_eq_of_le this with q | q
              · omega
              · exact absurd (hpr.2 ⟨e, q⟩).2 e2⟩
            clear hpr
            go_wp2
            go_round
            case rel => exact HN.out
            case measure => simp [intOf]; omega
        · have e1' : ((C0 + x + y) % 255 == 0) = false := by simpa using e1
          have HN : Hid (YR X Y x (.int .i64 (y + 1))) := ⟨y + 1, rfl, by omega, by omega, fun e => by
            have := HY.out e
            rcases Int.lt_or_eq_of_le this with q | q
            · omega
            · exact absurd (hpr.2 ⟨e, q⟩).1 e1⟩
          clear hpr
          go_wp2
          go_round
          case rel => exact HN.out
          case measure => simp [intOf]; omega
      · have hxx : x < X := by
          rcases Int.lt_or_eq_of_le hx1 with q | q
          · exact q
          · have := HY.out q; omega
        go_wp2
        go_round
        case rel => exact ⟨x + 1, rfl, by omega, by omega⟩
        case measure => simp [intOf]; omega
end Go.Proofs.Ytlcgklbmkfiglaa
