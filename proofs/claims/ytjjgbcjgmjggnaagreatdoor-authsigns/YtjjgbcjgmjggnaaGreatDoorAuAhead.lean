/- Pure: three-way comparison, the years of an age, which of two heads is the newer one; ages in pieces. -/
import Derived.Test.YtjjgbcjgmjggnaaGreatDoorDig1
import Derived.Laws.BitsAllLaws
import Derived.Test.YtjjgbcjgmjggnaaGreatDoorAuMay
import Derived.Deep.RegionHeld3
namespace Go.Proofs.YtjjgbcjgmjggnaaGreatDoor
open Go.RowKit
set_option linter.unusedVariables false
set_option maxRecDepth 100000


def cmpI (x y : Int) : Int := if x < y then -1 else if y < x then 1 else 0
theorem cmpI_lt {x y : Int} (h : x < y) : cmpI x y = -1 := if_pos h
theorem cmpI_gt {x y : Int} (h : y < x) : cmpI x y = 1 := by unfold cmpI; rw [if_neg (by omega), if_pos h]
theorem cmpI_eq (x : Int) : cmpI x x = 0 := by unfold cmpI; rw [if_neg (by omega), if_neg (by omega)]
/-- The first that is not nought. -/
def fstI (x y : Int) : Int := if x ≠ 0 then x else y
theorem fstI_ne {x : Int} (y : Int) (h : x ≠ 0) : fstI x y = x := if_pos h
end Go.Proofs.YtjjgbcjgmjggnaaGreatDoor

namespace Go.Proofs.YtjjgbcjgmjggnaaGreatDoor
open Go.RowKit
set_option linter.unusedVariables false
set_option maxRecDepth 100000

set_option maxHeartbeats 400000 in
theorem cmp8_any (x y : Int) (w : World) : Calls Tryz.prog 90 #[.int .u8 x, .int .u8 y] w fun e w' => e = .returned (.int .i64 (cmpI x y)) ∧ w = w' := by
  rcases Int.lt_trichotomy x y with h | h | h
  · have H : Hid _ := cmpI_lt h
    go_enter Tryz.func90, Tryz.ntmps90
    go_wp2
    go_ret
    exact ⟨ret_int H.out.symm, rfl⟩
  · subst h
    have H : Hid _ := cmpI_eq x
    have h1 : ¬ x < x := by omega
    go_enter Tryz.func90, Tryz.ntmps90
    go_wp2
    go_ret
    exact ⟨ret_int H.out.symm, rfl⟩
  · have H : Hid _ := cmpI_gt h
    have h1 : ¬ x < y := by omega
    go_enter Tryz.func90, Tryz.ntmps90
    go_wp2
    go_ret
    exact ⟨ret_int H.out.symm, rfl⟩

end Go.Proofs.YtjjgbcjgmjggnaaGreatDoor

namespace Go.Proofs.YtjjgbcjgmjggnaaGreatDoor
open Go.RowKit
set_option linter.unusedVariables false
set_option maxRecDepth 100000

set_option maxHeartbeats 400000 in
theorem acmpi_any (x y : Int) (w : World) : Calls Tryz.prog 89 #[.int .i64 x, .int .i64 y] w fun e w' => e = .returned (.int .i64 (cmpI x y)) ∧ w = w' := by
  rcases Int.lt_trichotomy x y with h | h | h
  · have H : Hid _ := cmpI_lt h
    go_enter Tryz.func89, Tryz.ntmps89
    go_wp2
    go_ret
    exact ⟨ret_int H.out.symm, rfl⟩
  · subst h
    have H : Hid _ := cmpI_eq x
    have h1 : ¬ x < x := by omega
    go_enter Tryz.func89, Tryz.ntmps89
    go_wp2
    go_ret
    exact ⟨ret_int H.out.symm, rfl⟩
  · have H : Hid _ := cmpI_gt h
    have h1 : ¬ x < y := by omega
    go_enter Tryz.func89, Tryz.ntmps89
    go_wp2
    go_ret
    exact ⟨ret_int H.out.symm, rfl⟩
def OrR2 (x y : Int) (k : Nat) : Prop := k ≤ 2 ∧ (1 ≤ k → x = 0) ∧ (2 ≤ k → y = 0)
set_option maxHeartbeats 1000000 in
theorem or_two (x y : Int) (g c : Nat) (v : Int) (hv : v = fstI x y) (w : World) (h0 : w.cell? ⟨g, 0, none⟩ = some (.int .i64 x)) (h1 : w.cell? ⟨g, 1, none⟩ = some (.int .i64 y)) :
    Calls Tryz.prog 88 #[.slice (some ⟨g, 0, none⟩) 2 c] w fun e w' => e = .returned (.int .i64 v) ∧ w = w' := by
  have HV : Hid _ := hv
  clear hv
  go_enter Tryz.func88, Tryz.ntmps88
  go_wp2
  go_loop [8] (fun i => ∃ k : Nat, i = .int .i64 k ∧ OrR2 x y k) (fun i => 2 - (intOf i).toNat)
  case atStart => exact ⟨0, rfl, by unfold OrR2; omega⟩
  case round =>
    obtain ⟨k, rfl, hr⟩ := hrel
    have HR : Hid _ := hr
    obtain ⟨hk, k1, k2⟩ := hr
    rcases (by omega : k = 0 ∨ k = 1 ∨ k = 2) with rfl | rfl | rfl
    · clear k1 k2 hk
      by_cases hx : x = 0
      · subst hx
        go_wp2
        go_round
        case rel => exact ⟨1, rfl, by unfold OrR2; omega⟩
        case measure => simp [intOf]
      · go_wp2
        go_ret
        exact ⟨ret_int (by rw [HV.out]; exact (fstI_ne _ hx).symm), rfl⟩
    · have ex := k1 (by omega)
      subst ex
      clear k1 k2 hk
      by_cases hy : y = 0
      · subst hy
        go_wp2
        go_round
        case rel => exact ⟨2, rfl, by unfold OrR2; omega⟩
        case measure => simp [intOf]
      · go_wp2
        go_ret
        exact ⟨ret_int (by rw [HV.out]; simp [fstI]), rfl⟩
    · have ex := k1 (by omega)
      have ey := k2 (by omega)
      subst ex
      subst ey
      clear k1 k2 hk
      go_wp2
      go_ret
      exact ⟨ret_int (by rw [HV.out]; simp [fstI]), rfl⟩
theorem ahead_num (a b : AKP) : decide (0 < fstI (cmpI a.sf b.sf) (cmpI a.id b.id)) = aheadB a b := by
  unfold aheadB
  refine decide_eq_decide.mpr ?_
  unfold fstI cmpI
  constructor
  · intro h
    split at h <;> (try split at h) <;> (try split at h) <;> (try split at h) <;> (try split at h) <;> omega
  · intro h
    split <;> (try split) <;> (try split) <;> (try split) <;> (try split) <;> omega
set_option maxHeartbeats 1000000 in
theorem ahead_any (x y : KE) (w : World) : Calls Tryz.prog 57 #[x.agg, y.agg] w fun e w' => e = .returned (.bool (aheadB x.p y.p)) ∧ Touch (fun _ => False) w w' := by
  rw [← ahead_num]
  generalize hz : fstI (cmpI x.p.sf y.p.sf) (cmpI x.p.id y.p.id) = z
  have HE : Hid (z = fstI (cmpI x.p.sf y.p.sf) (cmpI x.p.id y.p.id)) := hz.symm
  clear hz
  have HC := fun w => acmpi_any x.p.sf y.p.sf w
  have HD := fun w => cmp8_any x.p.id y.p.id w
  generalize cmpI x.p.sf y.p.sf = c1 at *
  generalize cmpI x.p.id y.p.id = c2 at *
  obtain ⟨⟨xi, xk, xs, xsf, xsu, xtf, xtu⟩, xa, xc⟩ := x
  obtain ⟨⟨yi, yk, ys, ysf, ysu, ytf, ytu⟩, ya, yc⟩ := y
  dsimp only [KE.agg] at *
  generalize xs.length = xn
  generalize ys.length = yn
  go_enter Tryz.func57, Tryz.ntmps57
  go_wp2_with fail
  go_region_held3 (fun w' => w'.cell? ⟨w.heap.size, 0, none⟩ = some (.int .u8 xi) ∧ w'.cell? ⟨w.heap.size, 3, none⟩ = some (.int .i64 xsf) ∧ w'.cell? ⟨w.heap.size + 1, 0, none⟩ = some (.int .u8 yi) ∧ w'.cell? ⟨w.heap.size + 1, 3, none⟩ = some (.int .i64 ysf)) (go_keep) (first
    | (go_at_call 89; refine (HC _).mono ?_; rintro e w1 ⟨rfl, rfl⟩)
    | (go_at_call 90; refine (HD _).mono ?_; rintro e w2 ⟨rfl, rfl⟩)
    | (go_at_call 88; refine (or_two _ _ _ _ z HE.out _ (by simp [go_sem]) (by simp [go_sem])).mono ?_; rintro e w5 ⟨rfl, rfl⟩))
  go_wp2_with fail
  go_ret
  exact ⟨rfl, ((((Touch.refl _ w).alloc _).alloc _).alloc _).drew⟩
end Go.Proofs.YtjjgbcjgmjggnaaGreatDoor
