
/- Contracts: the order of two entries of a queue. -/
import Derived.Test.YtmdnlfbploaafaaQuMath
import Derived.Test.YtmdnlfbploaafaaOrdMath
import Derived.Test.YtmdnlfbploaafaaParts
import Derived.Deep.RegionHeld3
namespace Go.Proofs.Ytmdnlfbploaafaa
open Go.RowKit
set_option linter.unusedVariables false
set_option maxRecDepth 100000

/-- Below, at or above nought: the order of two entries. -/
def cE (x y : En) : Int := fstI (cmpI x.a y.a) (fstI (cmpI x.r y.r) (cmpI x.k y.k))
theorem cE_neg (x y : En) : cE x y < 0 ↔ x.lt y := by
  unfold cE fstI cmpI En.lt
  constructor
  · intro h
    split at h <;> (try split at h) <;> (try split at h) <;> (try split at h) <;> (try split at h) <;> (try split at h) <;> (try split at h) <;> (try split at h) <;> omega
  · intro h
    split <;> (try split) <;> (try split) <;> (try split) <;> (try split) <;> (try split) <;> (try split) <;> (try split) <;> omega

set_option maxHeartbeats 400000 in
theorem cmpi_any (x y : Int) (w : World) : Calls Try.prog 41 #[.int .i64 x, .int .i64 y] w fun e w' => e = .returned (.int .i64 (cmpI x y)) ∧ w = w' := by
  rcases Int.lt_trichotomy x y with h | h | h
  · have H : Hid _ := cmpI_lt h
    go_enter Try.func41, Try.ntmps41
    go_wp2
    go_ret
    exact ⟨ret_int H.out.symm, rfl⟩
  · subst h
    have H : Hid _ := cmpI_eq x
    have h1 : ¬ x < x := by omega
    go_enter Try.func41, Try.ntmps41
    go_wp2
    go_ret
    exact ⟨ret_int H.out.symm, rfl⟩
  · have H : Hid _ := cmpI_gt h
    have h1 : ¬ x < y := by omega
    go_enter Try.func41, Try.ntmps41
    go_wp2
    go_ret
    exact ⟨ret_int H.out.symm, rfl⟩

set_option maxHeartbeats 400000 in
theorem cmpu64_any (x y : Int) (w : World) : Calls Try.prog 42 #[.int .u64 x, .int .u64 y] w fun e w' => e = .returned (.int .i64 (cmpI x y)) ∧ w = w' := by
  rcases Int.lt_trichotomy x y with h | h | h
  · have H : Hid _ := cmpI_lt h
    go_enter Try.func42, Try.ntmps42
    go_wp2
    go_ret
    exact ⟨ret_int H.out.symm, rfl⟩
  · subst h
    have H : Hid _ := cmpI_eq x
    have h1 : ¬ x < x := by omega
    go_enter Try.func42, Try.ntmps42
    go_wp2
    go_ret
    exact ⟨ret_int H.out.symm, rfl⟩
  · have H : Hid _ := cmpI_gt h
    have h1 : ¬ x < y := by omega
    go_enter Try.func42, Try.ntmps42
    go_wp2
    go_ret
    exact ⟨ret_int H.out.symm, rfl⟩

/-- What the search for the first that is not nought has passed. -/
def OrR (x y z : Int) (k : Nat) : Prop := k ≤ 3 ∧ (1 ≤ k → x = 0) ∧ (2 ≤ k → y = 0) ∧ (3 ≤ k → z = 0)
set_option maxHeartbeats 1000000 in
theorem or_three (x y z : Int) (g c : Nat) (v : Int) (hv : v = fstI x (fstI y z)) (w : World) (h0 : w.cell? ⟨g, 0, none⟩ = some (.int .i64 x)) (h1 : w.cell? ⟨g, 1, none⟩ = some (.int .i64 y)) (h2 : w.cell? ⟨g, 2, none⟩ = some (.int .i64 z)) :
    Calls Try.prog 40 #[.slice (some ⟨g, 0, none⟩) 3 c] w fun e w' => e = .returned (.int .i64 v) ∧ w = w' := by
  have HV : Hid _ := hv
  clear hv
  go_enter Try.func40, Try.ntmps40
  go_wp2
  go_loop [8] (fun i => ∃ k : Nat, i = .int .i64 k ∧ OrR x y z k) (fun i => 3 - (intOf i).toNat)
  case atStart => exact ⟨0, rfl, by unfold OrR; omega⟩
  case round =>
    obtain ⟨k, rfl, hr⟩ := hrel
    have HR : Hid _ := hr
    obtain ⟨hk, k1, k2, k3⟩ := hr
    rcases (by omega : k = 0 ∨ k = 1 ∨ k = 2 ∨ k = 3) with rfl | rfl | rfl | rfl
    · clear k1 k2 k3 hk
      by_cases hx : x = 0
      · subst hx
        go_wp2
        go_round
        case rel => exact ⟨1, rfl, by unfold OrR; omega⟩
        case measure => simp [intOf]
      · go_wp2
        go_ret
        exact ⟨ret_int (by rw [HV.out]; exact (fstI_ne _ hx).symm), rfl⟩
    · have ex := k1 (by omega)
      subst ex
      clear k1 k2 k3 hk
      by_cases hy : y = 0
      · subst hy
        go_wp2
        go_round
        case rel => exact ⟨2, rfl, by unfold OrR; omega⟩
        case measure => simp [intOf]
      · go_wp2
        go_ret
        exact ⟨ret_int (by rw [HV.out]; simp [fstI, hy]), rfl⟩
    · have ex := k1 (by omega)
      have ey := k2 (by omega)
      subst ex
      subst ey
      clear k1 k2 k3 hk
      by_cases hz : z = 0
      · subst hz
        go_wp2
        go_round
        case rel => exact ⟨3, rfl, by unfold OrR; omega⟩
        case measure => simp [intOf]
      · go_wp2
        go_ret
        exact ⟨ret_int (by rw [HV.out]; simp [fstI]), rfl⟩
    · have ex := k1 (by omega)
      have ey := k2 (by omega)
      have ez := k3 (by omega)
      subst ex
      subst ey
      subst ez
      clear k1 k2 k3 hk
      go_wp2
      go_ret
      exact ⟨ret_int (by rw [HV.out]; simp [fstI]), rfl⟩

def En.cs (e : En) : List Value := [.int .i64 e.a, .int .i64 e.r, .int .u64 e.k]

set_option maxHeartbeats 1000000 in
theorem compare_any (x y : En) (w : World) :
    Calls Try.prog 31 #[.agg #[.int .i64 x.a, .int .i64 x.r, .int .u64 x.k], .agg #[.int .i64 y.a, .int .i64 y.r, .int .u64 y.k]] w fun e w' => e = .returned (.int .i64 (cE x y)) ∧ Touch (fun _ => False) w w' := by
  have HE : Hid (cE x y = fstI (cmpI x.a y.a) (fstI (cmpI x.r y.r) (cmpI x.k y.k))) := rfl
  generalize cE x y = z at HE ⊢
  obtain ⟨x0, x1, x2⟩ := x
  obtain ⟨y0, y1, y2⟩ := y
  go_enter Try.func31, Try.ntmps31
  go_wp2_with fail
  go_region_held3 (fun w' => w'.cell? ⟨w.heap.size, 0, none⟩ = some (.int .i64 x0) ∧ w'.cell? ⟨w.heap.size, 1, none⟩ = some (.int .i64 x1) ∧ w'.cell? ⟨w.heap.size, 2, none⟩ = some (.int .u64 x2) ∧ w'.cell? ⟨w.heap.size + 1, 0, none⟩ = some (.int .i64 y0) ∧ w'.cell? ⟨w.heap.size + 1, 1, none⟩ = some (.int .i64 y1) ∧ w'.cell? ⟨w.heap.size + 1, 2, none⟩ = some (.int .u64 y2)) (go_keep) (first
    | (go_at_call 41; refine (cmpi_any _ _ _).mono ?_; rintro e w1 ⟨rfl, rfl⟩)
    | (go_at_call 42; refine (cmpu64_any _ _ _).mono ?_; rintro e w2 ⟨rfl, rfl⟩)
    | (go_at_call 40; refine (or_three _ _ _ _ _ z HE.out _ (by simp [go_sem]) (by simp [go_sem]) (by simp [go_sem])).mono ?_; rintro e w5 ⟨rfl, rfl⟩))
  go_wp2_with fail
  go_ret
  exact ⟨rfl, ((((Touch.refl _ w).alloc _).alloc _).alloc _).drew⟩
end Go.Proofs.Ytmdnlfbploaafaa
