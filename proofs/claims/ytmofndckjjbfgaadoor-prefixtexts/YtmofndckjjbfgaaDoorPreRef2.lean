/- The document's answer: being a prefix, having, covering, sharing. -/
import Derived.Test.YtmofndckjjbfgaaDoorPreRef
namespace Go.Proofs.YtmofndckjjbfgaaDoor
open Go.RowKit
set_option linter.unusedVariables false
set_option maxRecDepth 100000

theorem bit_mod {a n k : Int} (ha : 0 ≤ a) (hnk : n ≤ k) (hk : k ≤ 31) (h : a % psz n < psz k) : pbit a k = a % psz n / psz (k + 1) := by
  have hp := psz_pos (k + 1)
  have hs := psz_succ hk
  have hpn := psz_pos n
  have hr := Int.emod_nonneg a (show psz n ≠ 0 by omega)
  obtain ⟨c, hc⟩ := psz_dvd hnk (by omega : k ≤ 32)
  have e : a = a % psz n + psz (k + 1) * (2 * (c * (a / psz n))) := by
    have h1 := Int.emod_add_mul_ediv a (psz n)
    have h2 : psz (k + 1) * (2 * (c * (a / psz n))) = psz n * (a / psz n) := by
      rw [hc, hs]; simp only [Int.mul_assoc, Int.mul_left_comm, Int.mul_comm]
    omega
  unfold pbit
  rw [e, Int.add_mul_ediv_left _ _ (by omega)]
  have h3 : (a % psz n + psz (k + 1) * (2 * (c * (a / psz n)))) % psz n = a % psz n := by rw [← e]
  rw [h3]
  have h4 : a % psz n / psz (k + 1) < 2 := Int.ediv_lt_of_lt_mul hp (by omega)
  have h5 : 0 ≤ a % psz n / psz (k + 1) := Int.ediv_nonneg hr (by omega)
  omega
theorem bit_zero {a n k : Int} (ha : 0 ≤ a) (hnk : n ≤ k) (hk : k ≤ 31) (h : a % psz n < psz k) (hb : pbit a k = 0) : a % psz n < psz (k + 1) := by
  rw [bit_mod ha hnk hk h] at hb
  have hp := psz_pos (k + 1)
  have hr := Int.emod_nonneg a (show psz n ≠ 0 by have := psz_pos n; omega)
  have := Int.lt_ediv_add_one_mul_self (a % psz n) hp
  rw [hb] at this; omega
theorem bit_one {a n k : Int} (ha : 0 ≤ a) (hnk : n ≤ k) (hk : k ≤ 31) (h : a % psz n < psz k) (hb : ¬ pbit a k = 0) : pis a n = false := by
  rw [bit_mod ha hnk hk h] at hb
  cases hp : pis a n with
  | false => rfl
  | true =>
    rw [(pis_iff.1 hp).2] at hb
    exact absurd (Int.zero_ediv _) hb

set_option maxHeartbeats 400000 in
theorem is_any (a n : Int) (w : World) (h0 : 0 ≤ n) (ha0 : 0 ≤ a) (ha1 : a < 4294967296) :
    Calls Tryd.prog 14 #[.agg #[.int .u32 a, .int .u8 n]] w fun e w' => e = .returned (.bool (pis a n)) ∧ Gr w w' := by
  have HA : Hid (0 ≤ a ∧ a < 4294967296) := ⟨ha0, ha1⟩
  clear ha0 ha1
  by_cases h1 : n ≤ 32
  · obtain ⟨N, rfl⟩ : ∃ N : Nat, n = N := ⟨n.toNat, by omega⟩
    go_enter Tryd.func14, Tryd.ntmps14
    go_wp2
    go_loop [3] (fun i => ∃ k : Nat, N ≤ k ∧ k ≤ 32 ∧ i = .int .u8 (k : Int) ∧ Hid (a % psz N < psz k)) (fun i => 32 - (intOf i).toNat)
    case atStart => exact ⟨N, Nat.le_refl _, by omega, rfl, Int.emod_lt_of_pos _ (psz_pos _)⟩
    case round =>
      obtain ⟨k, hNk, hk, rfl, HK⟩ := hrel
      by_cases hlt : k ≤ 31
      · have hlt' : (k : Int) < 32 := by omega
        by_cases hb : pbit a k = 0
        · have HB : Hid _ := bit_zero HA.out.1 (by omega) (by omega) HK.out hb
          go_wp2_with (go_at_call 38; refine (bit_any _ _ _ (by omega) (by omega) HA.out.1 HA.out.2).mono ?_; rintro e w' ⟨rfl, rfl⟩)
          go_round
          case rel => exact ⟨k + 1, by omega, by omega, by go_num, HB.out⟩
          case measure => simp [intOf]; omega
        · have HB : Hid _ := bit_one HA.out.1 (by omega) (by omega) HK.out hb
          go_wp2_with (go_at_call 38; refine (bit_any _ _ _ (by omega) (by omega) HA.out.1 HA.out.2).mono ?_; rintro e w' ⟨rfl, rfl⟩)
          go_ret
          exact ⟨ret_bool HB.out.symm, Gr.one _ _⟩
      · obtain rfl : k = 32 := by omega
        have HB : Hid (pis a N = true) := by
          have h := HK.out
          have e : psz ((32 : Nat) : Int) = 1 := psz_32
          rw [e] at h
          have hr := Int.emod_nonneg a (show psz N ≠ 0 by have := psz_pos N; omega)
          exact pis_iff.2 ⟨h1, by omega⟩
        go_wp2
        go_ret
        exact ⟨ret_bool HB.out.symm, Gr.one _ _⟩
  · have h2 : 32 < n := by omega
    have HB : Hid (pis a n = false) := by simp [Hid, pis]; omega
    clear h1
    go_enter Tryd.func14, Tryd.ntmps14
    go_wp2
    go_ret
    exact ⟨ret_bool HB.out.symm, Gr.one _ _⟩
theorem is_at (c : Bool) (a n : Int) (w : World) (h0 : 0 ≤ n) (ha0 : 0 ≤ a) (ha1 : a < 4294967296) (h : pis a n = c) :
    Calls Tryd.prog 14 #[.agg #[.int .u32 a, .int .u8 n]] w fun e w' => e = .returned (.bool c) ∧ Gr w w' := by
  rw [← h]; exact is_any a n w h0 ha0 ha1

theorem div_next {a k : Int} (hk : k ≤ 31) : a / psz (k + 1) = 2 * (a / psz k) + pbit a k := by
  unfold pbit
  have e : psz k = psz (k + 1) * 2 := by rw [psz_succ hk]; omega
  rw [e, ← Int.ediv_ediv_of_nonneg (Int.le_of_lt (psz_pos _))]
  omega
theorem div_le {a x k n : Int} (hkn : k ≤ n) (hn : n ≤ 32) (h : a / psz n = x / psz n) : a / psz k = x / psz k := by
  rw [psz_add hkn hn, ← Int.ediv_ediv_of_nonneg (Int.le_of_lt (psz_pos _)), ← Int.ediv_ediv_of_nonneg (Int.le_of_lt (psz_pos _)), h]
theorem phas_div {a n x : Int} (hp : pis a n = true) : phas a n x = true ↔ a / psz n = x / psz n := by
  obtain ⟨h1, h2⟩ := pis_iff.1 hp
  rw [phas_iff]
  have ea := Int.emod_add_mul_ediv a (psz n)
  have ex := Int.emod_add_mul_ediv x (psz n)
  constructor
  · rintro ⟨_, e⟩
    unfold pcut at e
    have hx := Int.emod_nonneg x (show psz n ≠ 0 by have := psz_pos n; omega)
    have : psz n * (a / psz n) = psz n * (x / psz n) := by omega
    exact Int.eq_of_mul_eq_mul_left (by have := psz_pos n; omega) this
  · intro e
    refine ⟨h1, ?_⟩
    unfold pcut
    rw [e] at ea
    omega

set_option maxHeartbeats 400000 in
theorem rhas_any (a n x : Int) (w : World) (h0 : 0 ≤ n) (ha0 : 0 ≤ a) (ha1 : a < 4294967296) (hx0 : 0 ≤ x) (hx1 : x < 4294967296) :
    Calls Tryd.prog 16 #[.agg #[.int .u32 a, .int .u8 n], .int .u32 x] w fun e w' => e = .returned (.bool (phas a n x)) ∧ Gr w w' := by
  have HA : Hid (0 ≤ a ∧ a < 4294967296) := ⟨ha0, ha1⟩
  have HX : Hid (0 ≤ x ∧ x < 4294967296) := ⟨hx0, hx1⟩
  clear ha0 ha1 hx0 hx1
  cases hp : pis a n with
  | false =>
    have HP : Hid _ := hp
    have HB : Hid (phas a n x = false) := by
      cases h : phas a n x with
      | false => rfl
      | true => rw [phas_pis h] at hp; cases hp
    clear hp
    go_enter Tryd.func16, Tryd.ntmps16
    go_wp2_with (go_at_call 14; refine (is_at false _ _ _ h0 HA.out.1 HA.out.2 HP.out).mono ?_; rintro e w1 ⟨rfl, hg⟩)
    go_ret
    exact ⟨ret_bool HB.out.symm, (Gr.one _ _).trans hg⟩
  | true =>
    have HP : Hid _ := hp
    obtain ⟨N, rfl⟩ : ∃ N : Nat, n = N := ⟨n.toNat, by omega⟩
    have hN : (N : Int) ≤ 32 := (pis_iff.1 hp).1
    clear hp
    go_enter Tryd.func16, Tryd.ntmps16
    go_wp2_with (go_at_call 14; refine (is_at true _ _ _ h0 HA.out.1 HA.out.2 HP.out).mono ?_; rintro e w1 ⟨rfl, hg⟩; obtain ⟨c0, c1⟩ := hg.px (Px.new w a N 24))
    go_loop [5] (fun i => ∃ k : Nat, k ≤ N ∧ i = .int .u8 (k : Int) ∧ Hid (a / psz k = x / psz k)) (fun i => N - (intOf i).toNat)
    case atStart => exact ⟨0, Nat.zero_le _, rfl, (by
      have e : psz ((0 : Nat) : Int) = 4294967296 := by decide
      show _ = _
      rw [e, Int.ediv_eq_zero_of_lt HA.out.1 HA.out.2, Int.ediv_eq_zero_of_lt HX.out.1 HX.out.2])⟩
    case round =>
      obtain ⟨k, hk, rfl, HK⟩ := hrel
      by_cases hlt : k < N
      · have hlt' : (k : Int) < (N : Int) := by omega
        have na := div_next (a := a) (k := k) (by omega)
        have nx := div_next (a := x) (k := k) (by omega)
        rw [HK.out] at na
        by_cases hb : pbit a k = pbit x k
        · have HB : Hid (a / psz ((k : Int) + 1) = x / psz ((k : Int) + 1)) := by show _ = _; rw [na, nx, hb]
          have HBE : Hid _ := hb
          clear na nx hb
          go_wp2_with fail
          refine Calls.mono (bit_any _ _ _ (by omega) (by omega) HA.out.1 HA.out.2) ?_
          rintro e w' ⟨rfl, rfl⟩
          go_wp2_with fail
          refine Calls.mono (bit_any _ _ _ (by omega) (by omega) HX.out.1 HX.out.2) ?_
          rintro e w' ⟨rfl, rfl⟩
          rw [HBE.out]
          go_wp2_with fail
          go_round
          case rel => exact ⟨k + 1, by omega, by go_num, HB.out⟩
          case measure => simp [intOf]; omega
        · have HB : Hid (phas a N x = false) := by
            cases h : phas a N x with
            | false => rfl
            | true =>
              have h2 := div_le (k := (k : Int) + 1) (by omega) hN ((phas_div HP.out).1 h)
              exfalso
              omega
          clear na nx
          go_wp2_with fail
          refine Calls.mono (bit_any _ _ _ (by omega) (by omega) HA.out.1 HA.out.2) ?_
          rintro e w' ⟨rfl, rfl⟩
          go_wp2_with fail
          refine Calls.mono (bit_any _ _ _ (by omega) (by omega) HX.out.1 HX.out.2) ?_
          rintro e w' ⟨rfl, rfl⟩
          go_wp2_with fail
          go_ret
          exact ⟨ret_bool HB.out.symm, (Gr.one _ _).trans hg⟩
      · obtain rfl : k = N := by omega
        have hlt' : ¬ (k : Int) < (k : Int) := by omega
        have HB : Hid (phas a k x = true) := (phas_div HP.out).2 HK.out
        go_wp2_with fail
        go_ret
        exact ⟨ret_bool HB.out.symm, (Gr.one _ _).trans hg⟩
theorem rhas_at (c : Bool) (a n x : Int) (w : World) (h0 : 0 ≤ n) (ha0 : 0 ≤ a) (ha1 : a < 4294967296) (hx0 : 0 ≤ x) (hx1 : x < 4294967296) (h : phas a n x = c) :
    Calls Tryd.prog 16 #[.agg #[.int .u32 a, .int .u8 n], .int .u32 x] w fun e w' => e = .returned (.bool c) ∧ Gr w w' := by
  rw [← h]; exact rhas_any a n x w h0 ha0 ha1 hx0 hx1
end Go.Proofs.YtmofndckjjbfgaaDoor
