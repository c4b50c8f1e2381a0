/- Pure: three-way comparison, the years of an age, which of two heads is the newer one; ages in pieces. -/
import Derived.Test.YthilfealloakdaaGreatDig1
import Derived.Laws.BitsAllLaws
import Derived.Test.YthilfealloakdaaGreatAuMay
import Derived.Deep.RegionHeld3
namespace Go.Proofs.YthilfealloakdaaGreat
open Go.RowKit
set_option linter.unusedVariables false
set_option maxRecDepth 100000


def cmpI (x y : Int) : Int := if x < y then -1 else if y < x then 1 else 0
theorem cmpI_lt {x y : Int} (h : x < y) : cmpI x y = -1 := if_pos h
theorem cmpI_gt {x y : Int} (h : y < x) : cmpI x y = 1 := by unfold cmpI; rw [if_neg (by omega), if_pos h]
theorem cmpI_eq (x : Int) : cmpI x x = 0 := by unfold cmpI; rw [if_neg (by omega), if_neg (by omega)]
theorem cmpI_zero {x y : Int} (h : cmpI x y = 0) : x = y := by
  unfold cmpI at h
  split at h
  · omega
  · split at h <;> omega
theorem cmpI_ne {x y : Int} (h : x ≠ y) : cmpI x y ≠ 0 := fun e => h (cmpI_zero e)
theorem cmpI_one {x y : Int} (h : cmpI x y = 1) : y < x := by
  unfold cmpI at h
  split at h
  · omega
  · split at h <;> omega
theorem cmpI_turn (x y : Int) : cmpI x y = - cmpI y x := by unfold cmpI; split <;> split <;> omega
theorem cmpI_range (x y : Int) : -1 ≤ cmpI x y ∧ cmpI x y ≤ 1 := by unfold cmpI; split <;> (try split) <;> omega

/-- The years of an age. -/
def yrs (a : Int) : Int := if a % 32768 < 3600 then a % 32768 else 3600
theorem yrs_lt {a : Int} (h : a % 32768 < 3600) : yrs a = a % 32768 := if_pos h
theorem yrs_ge {a : Int} (h : ¬ a % 32768 < 3600) : yrs a = 3600 := if_neg h
theorem yrs_bound (a : Int) : 0 ≤ yrs a ∧ yrs a ≤ 3600 := by unfold yrs; split <;> omega

/-- Just one is old: which. -/
def aloneI (x y : Int) : Int := if (x = 3600 ↔ y = 3600) then 0 else if x = 3600 then 1 else -1
/-- Years more than 900 apart: which has fewer. -/
def youngI (x y : Int) : Int := if x - y ≤ 900 ∧ y - x ≤ 900 then 0 else cmpI y x
/-- The first that is not nought. -/
def fstI (x y : Int) : Int := if x ≠ 0 then x else y
theorem fstI_ne {x : Int} (y : Int) (h : x ≠ 0) : fstI x y = x := if_pos h
theorem fstI_zero (y : Int) : fstI 0 y = y := if_neg (by omega)

theorem aloneI_turn (x y : Int) : aloneI x y = - aloneI y x := by unfold aloneI; split <;> split <;> (try split) <;> (try split) <;> omega
theorem youngI_turn (x y : Int) : youngI x y = - youngI y x := by
  unfold youngI
  split <;> split
  · omega
  · omega
  · omega
  · exact cmpI_turn y x
theorem fstI_turn {x y x' y' : Int} (h : x = - x') (k : y = - y') : fstI x y = - fstI x' y' := by
  unfold fstI
  split <;> split <;> omega

/-- By the numbers, then by the sums, then by the ages. -/
def newI (s m a s' m' a' : Int) : Int := fstI (cmpI s s') (fstI (cmpI m m') (fstI (aloneI (yrs a) (yrs a')) (youngI (yrs a) (yrs a'))))
theorem newI_turn (s m a s' m' a' : Int) : newI s m a s' m' a' = - newI s' m' a' s m a :=
  fstI_turn (cmpI_turn _ _) (fstI_turn (cmpI_turn _ _) (fstI_turn (aloneI_turn _ _) (youngI_turn _ _)))
theorem newI_self (s m a : Int) : newI s m a s m a = 0 := by have := newI_turn s m a s m a; omega
theorem newI_seq {s s' : Int} (h : s' < s) (m a m' a' : Int) : newI s m a s' m' a' = 1 := by
  unfold newI; rw [cmpI_gt h]; rfl
theorem newI_sum {s m m' : Int} (h : m' < m) (a a' : Int) : newI s m a s m' a' = 1 := by
  unfold newI; rw [cmpI_eq, fstI_zero, cmpI_gt h]; rfl
/-- Of equal numbers: who is newer has no lesser sum. -/
theorem newI_le {s m m' a a' : Int} (h : newI s m a s m' a' = 1) : m' ≤ m := by
  unfold newI at h
  rw [cmpI_eq, fstI_zero] at h
  rcases Int.lt_trichotomy m m' with g | g | g
  · rw [cmpI_lt g, fstI_ne _ (by omega)] at h; omega
  · omega
  · omega
theorem newI_three {s m a m1 a1 m2 a2 : Int} (h : newI s m a s m1 a1 = 1) (h1 : newI s m1 a1 s m2 a2 = 1) (hm : m ≠ m1) : newI s m a s m2 a2 = 1 := by
  have := newI_le h
  have := newI_le h1
  exact newI_sum (by omega) a a2
/-- Made old: newer than what it was, unless that was old. -/
theorem newI_old (s m a : Int) : newI s m 3600 s m a = if yrs a = 3600 then 0 else 1 := by
  have e : yrs 3600 = 3600 := rfl
  unfold newI
  rw [cmpI_eq, fstI_zero, cmpI_eq, fstI_zero, e]
  split
  · rename_i h
    rw [h]; rfl
  · rename_i h
    have : aloneI 3600 (yrs a) = 1 := by unfold aloneI; rw [if_neg (by omega), if_pos rfl]
    rw [this]; rfl

/-- An age when so many ticks have passed. -/
def ageI (a p : Int) : Int := if 32768 ≤ a ∨ p < 1 then a else if yrs a + p < 3600 then yrs a + p else 3600
theorem ageI_bound {a p : Int} (h0 : 0 ≤ a) (h : a < 65536) : 0 ≤ ageI a p ∧ ageI a p < 65536 := by
  have := yrs_bound a
  unfold ageI
  split
  · omega
  · split <;> omega
theorem ageI_two {a p q : Int} (h0 : 0 ≤ a) (h : a < 65536) (hp : 0 ≤ p) (hq : 0 ≤ q) : ageI a (p + q) = ageI (ageI a p) q := by
  have hy := yrs_bound a
  by_cases h1 : 32768 ≤ a
  · have e : ∀ r, ageI a r = a := fun r => if_pos (Or.inl h1)
    rw [e, e, e]
  · by_cases h2 : p < 1
    · have e : ageI a p = a := if_pos (Or.inr h2)
      have : p = 0 := by omega
      subst this
      rw [e, Int.zero_add]
    · have hA : ageI a p = if yrs a + p < 3600 then yrs a + p else 3600 := if_neg (by omega)
      have hB : ageI a (p + q) = if yrs a + (p + q) < 3600 then yrs a + (p + q) else 3600 := if_neg (by omega)
      rw [hA, hB]
      by_cases h3 : yrs a + p < 3600
      · rw [if_pos h3]
        have e : yrs (yrs a + p) = yrs a + p := by
          have : (yrs a + p) % 32768 = yrs a + p := by omega
          rw [yrs_lt (by omega), this]
        by_cases h4 : q < 1
        · have : ageI (yrs a + p) q = yrs a + p := if_pos (Or.inr h4)
          rw [this, if_pos (by omega)]
          omega
        · have : ageI (yrs a + p) q = if yrs (yrs a + p) + q < 3600 then yrs (yrs a + p) + q else 3600 := if_neg (by omega)
          rw [this, e]
          split <;> split <;> omega
      · rw [if_neg h3, if_neg (by omega)]
        by_cases h4 : q < 1
        · exact (if_pos (Or.inr h4)).symm
        · have : ageI 3600 q = if yrs 3600 + q < 3600 then yrs 3600 + q else 3600 := if_neg (by omega)
          rw [this, if_neg (by have : yrs 3600 = 3600 := rfl; omega)]
theorem ageI_old {a p : Int} (h : yrs a = 3600) : yrs (ageI a p) = 3600 := by
  unfold ageI
  split
  · exact h
  · rw [if_neg (by omega)]; rfl

/-- Keys: by the kind, then the ID, then who says it. -/
def keyI (t i a t' i' a' : Int) : Int := fstI (cmpI t t') (fstI (cmpI i i') (cmpI a a'))
end Go.Proofs.YthilfealloakdaaGreat

namespace Go.Proofs.YthilfealloakdaaGreat
open Go.RowKit
set_option linter.unusedVariables false
set_option maxRecDepth 100000

theorem and15 {n : Int} (h0 : 0 ≤ n) (h : n < 65536) : bits .andNot .u16 n 32768 = n % 32768 := by
  rw [u16_andNot n _ h0 h (by omega) (by omega), show 65535 - (32768 : Int).toNat = 2 ^ 15 - 1 from rfl, Nat.and_two_pow_sub_one_eq_mod]
  omega
theorem and_top (N : Nat) (h : N < 65536) : N &&& 2 ^ 15 = N / 32768 * 32768 := by
  have h1 : (N &&& 2 ^ 15) % 2 ^ 15 = 0 := by rw [Nat.and_mod_two_pow, Nat.mod_self, Nat.and_zero]
  have h2 : (N &&& 2 ^ 15) / 2 ^ 15 = N / 32768 % 2 := by rw [Nat.and_div_two_pow, Nat.div_self (by decide), Nat.and_one_is_mod]
  omega
theorem top_set {n : Int} (h0 : 0 ≤ n) (h : n < 65536) (h1 : 32768 ≤ n) : bits .and .u16 n 32768 = 32768 := by
  rw [u16_and n _ h0 h (by omega) (by omega), show (32768 : Int).toNat = 2 ^ 15 from rfl, and_top _ (by omega)]
  omega
theorem top_unset {n : Int} (h0 : 0 ≤ n) (h1 : n < 32768) : bits .and .u16 n 32768 = 0 := by
  rw [u16_and n _ h0 (by omega) (by omega) (by omega), show (32768 : Int).toNat = 2 ^ 15 from rfl, and_top _ (by omega)]
  omega

set_option maxHeartbeats 400000 in
theorem cmp8_any (x y : Int) (w : World) : Calls Tryz.prog 78 #[.int .u8 x, .int .u8 y] w fun e w' => e = .returned (.int .i64 (cmpI x y)) ∧ w = w' := by
  rcases Int.lt_trichotomy x y with h | h | h
  · have H : Hid _ := cmpI_lt h
    go_enter Tryz.func78, Tryz.ntmps78
    go_wp2
    go_ret
    exact ⟨ret_int H.out.symm, rfl⟩
  · subst h
    have H : Hid _ := cmpI_eq x
    have h1 : ¬ x < x := by omega
    go_enter Tryz.func78, Tryz.ntmps78
    go_wp2
    go_ret
    exact ⟨ret_int H.out.symm, rfl⟩
  · have H : Hid _ := cmpI_gt h
    have h1 : ¬ x < y := by omega
    go_enter Tryz.func78, Tryz.ntmps78
    go_wp2
    go_ret
    exact ⟨ret_int H.out.symm, rfl⟩

end Go.Proofs.YthilfealloakdaaGreat

namespace Go.Proofs.YthilfealloakdaaGreat
open Go.RowKit
set_option linter.unusedVariables false
set_option maxRecDepth 100000

set_option maxHeartbeats 400000 in
theorem acmpi_any (x y : Int) (w : World) : Calls Tryz.prog 77 #[.int .i64 x, .int .i64 y] w fun e w' => e = .returned (.int .i64 (cmpI x y)) ∧ w = w' := by
  rcases Int.lt_trichotomy x y with h | h | h
  · have H : Hid _ := cmpI_lt h
    go_enter Tryz.func77, Tryz.ntmps77
    go_wp2
    go_ret
    exact ⟨ret_int H.out.symm, rfl⟩
  · subst h
    have H : Hid _ := cmpI_eq x
    have h1 : ¬ x < x := by omega
    go_enter Tryz.func77, Tryz.ntmps77
    go_wp2
    go_ret
    exact ⟨ret_int H.out.symm, rfl⟩
  · have H : Hid _ := cmpI_gt h
    have h1 : ¬ x < y := by omega
    go_enter Tryz.func77, Tryz.ntmps77
    go_wp2
    go_ret
    exact ⟨ret_int H.out.symm, rfl⟩
def OrR2 (x y : Int) (k : Nat) : Prop := k ≤ 2 ∧ (1 ≤ k → x = 0) ∧ (2 ≤ k → y = 0)
set_option maxHeartbeats 1000000 in
theorem or_two (x y : Int) (g c : Nat) (v : Int) (hv : v = fstI x y) (w : World) (h0 : w.cell? ⟨g, 0, none⟩ = some (.int .i64 x)) (h1 : w.cell? ⟨g, 1, none⟩ = some (.int .i64 y)) :
    Calls Tryz.prog 76 #[.slice (some ⟨g, 0, none⟩) 2 c] w fun e w' => e = .returned (.int .i64 v) ∧ w = w' := by
  have HV : Hid _ := hv
  clear hv
  go_enter Tryz.func76, Tryz.ntmps76
  go_wp2
  go_loop [8] (fun i => ∃ k : Nat, i = .int .i64 k ∧ OrR2 x y k) (fun i => 2 - (intOf i).toNat)
  case atStart => exact ⟨0, rfl, by unfold OrR2; omega⟩
  case round =>
    obtain ⟨k, rfl, hr⟩ := hrel
    have HR : Hid _ := hr
    obtain ⟨hk, k1, k2⟩ := hr
    rcases (by omega : k = 0 ∨ k = 1 ∨ k = 2) with rfl | rfl | rfl
    · clear k1 k2 hk
      by_cases hx : x = 0
      · subst hx
        go_wp2
        go_round
        case rel => exact ⟨1, rfl, by unfold OrR2; omega⟩
        case measure => simp [intOf]
      · go_wp2
        go_ret
        exact ⟨ret_int (by rw [HV.out]; exact (fstI_ne _ hx).symm), rfl⟩
    · have ex := k1 (by omega)
      subst ex
      clear k1 k2 hk
      by_cases hy : y = 0
      · subst hy
        go_wp2
        go_round
        case rel => exact ⟨2, rfl, by unfold OrR2; omega⟩
        case measure => simp [intOf]
      · go_wp2
        go_ret
        exact ⟨ret_int (by rw [HV.out]; simp [fstI]), rfl⟩
    · have ex := k1 (by omega)
      have ey := k2 (by omega)
      subst ex
      subst ey
      clear k1 k2 hk
      go_wp2
      go_ret
      exact ⟨ret_int (by rw [HV.out]; simp [fstI]), rfl⟩
theorem ahead_num (a b : AKP) : decide (0 < fstI (cmpI a.sf b.sf) (cmpI a.id b.id)) = aheadB a b := by
  unfold aheadB
  refine decide_eq_decide.mpr ?_
  unfold fstI cmpI
  constructor
  · intro h
    split at h <;> (try split at h) <;> (try split at h) <;> (try split at h) <;> (try split at h) <;> omega
  · intro h
    split <;> (try split) <;> (try split) <;> (try split) <;> (try split) <;> omega
set_option maxHeartbeats 1000000 in
theorem ahead_any (x y : KE) (w : World) : Calls Tryz.prog 40 #[x.agg, y.agg] w fun e w' => e = .returned (.bool (aheadB x.p y.p)) ∧ Touch (fun _ => False) w w' := by
  rw [← ahead_num]
  generalize hz : fstI (cmpI x.p.sf y.p.sf) (cmpI x.p.id y.p.id) = z
  have HE : Hid (z = fstI (cmpI x.p.sf y.p.sf) (cmpI x.p.id y.p.id)) := hz.symm
  clear hz
  have HC := fun w => acmpi_any x.p.sf y.p.sf w
  have HD := fun w => cmp8_any x.p.id y.p.id w
  generalize cmpI x.p.sf y.p.sf = c1 at *
  generalize cmpI x.p.id y.p.id = c2 at *
  obtain ⟨⟨xi, xk, xs, xsf, xsu, xtf, xtu⟩, xa, xc⟩ := x
  obtain ⟨⟨yi, yk, ys, ysf, ysu, ytf, ytu⟩, ya, yc⟩ := y
  dsimp only [KE.agg] at *
  generalize xs.length = xn
  generalize ys.length = yn
  go_enter Tryz.func40, Tryz.ntmps40
  go_wp2_with fail
  go_region_held3 (fun w' => w'.cell? ⟨w.heap.size, 0, none⟩ = some (.int .u8 xi) ∧ w'.cell? ⟨w.heap.size, 3, none⟩ = some (.int .i64 xsf) ∧ w'.cell? ⟨w.heap.size + 1, 0, none⟩ = some (.int .u8 yi) ∧ w'.cell? ⟨w.heap.size + 1, 3, none⟩ = some (.int .i64 ysf)) (go_keep) (first
    | (go_at_call 77; refine (HC _).mono ?_; rintro e w1 ⟨rfl, rfl⟩)
    | (go_at_call 78; refine (HD _).mono ?_; rintro e w2 ⟨rfl, rfl⟩)
    | (go_at_call 76; refine (or_two _ _ _ _ z HE.out _ (by simp [go_sem]) (by simp [go_sem])).mono ?_; rintro e w5 ⟨rfl, rfl⟩))
  go_wp2_with fail
  go_ret
  exact ⟨rfl, ((((Touch.refl _ w).alloc _).alloc _).alloc _).drew⟩
end Go.Proofs.YthilfealloakdaaGreat
