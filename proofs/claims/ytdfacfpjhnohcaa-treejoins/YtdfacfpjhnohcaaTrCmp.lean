
/- Contracts: the order of two hops. -/
import Derived.Test.YtdfacfpjhnohcaaTrMath
import Derived.Test.YtdfacfpjhnohcaaOrdMath
import Derived.Test.YtdfacfpjhnohcaaParts
import Derived.Deep.RegionHeld3
namespace Go.Proofs.Ytdfacfpjhnohcaa
open Go.RowKit
set_option linter.unusedVariables false
set_option maxRecDepth 100000

/-- Below, at or above nought: the order of two hops. -/
def cH (x y : HK) : Int := fstI (cmpI x.out y.out) (fstI (cmpI x.via y.via) (bz x.vr - bz y.vr))
theorem cH_neg (x y : HK) : cH x y < 0 ↔ x.lt y := by
  unfold cH fstI cmpI HK.lt
  have h1 := bz_range x.vr
  have h2 := bz_range y.vr
  constructor
  · intro h
    split at h <;> (try split at h) <;> (try split at h) <;> (try split at h) <;> (try split at h) <;> (try split at h) <;> (try split at h) <;> (try split at h) <;> omega
  · intro h
    split <;> (try split) <;> (try split) <;> (try split) <;> (try split) <;> (try split) <;> (try split) <;> (try split) <;> omega
def HK.v (h : HK) : Value := .agg #[.int .u32 h.out, .int .u32 h.via, .bool h.vr]
def HK.cs (h : HK) : List Value := [.int .u32 h.out, .int .u32 h.via, .bool h.vr]

set_option maxHeartbeats 400000 in
theorem later_any (b : Bool) (w : World) : Calls Try.prog 35 #[.bool b] w fun e w' => e = .returned (.int .i64 (bz b)) ∧ w = w' := by
  cases b
  · go_enter Try.func35, Try.ntmps35
    go_wp2
    go_ret
    exact ⟨rfl, rfl⟩
  · go_enter Try.func35, Try.ntmps35
    go_wp2
    go_ret
    exact ⟨rfl, rfl⟩
set_option maxHeartbeats 400000 in
theorem cmpu32_any (x y : Int) (w : World) : Calls Try.prog 34 #[.int .u32 x, .int .u32 y] w fun e w' => e = .returned (.int .i64 (cmpI x y)) ∧ w = w' := by
  rcases Int.lt_trichotomy x y with h | h | h
  · have H : Hid _ := cmpI_lt h
    go_enter Try.func34, Try.ntmps34
    go_wp2
    go_ret
    exact ⟨ret_int H.out.symm, rfl⟩
  · subst h
    have H : Hid _ := cmpI_eq x
    have h1 : ¬ x < x := by omega
    go_enter Try.func34, Try.ntmps34
    go_wp2
    go_ret
    exact ⟨ret_int H.out.symm, rfl⟩
  · have H : Hid _ := cmpI_gt h
    have h1 : ¬ x < y := by omega
    go_enter Try.func34, Try.ntmps34
    go_wp2
    go_ret
    exact ⟨ret_int H.out.symm, rfl⟩

/-- What the search for the first that is not nought has passed. -/
def OrR (x y z : Int) (k : Nat) : Prop := k ≤ 3 ∧ (1 ≤ k → x = 0) ∧ (2 ≤ k → y = 0) ∧ (3 ≤ k → z = 0)
set_option maxHeartbeats 1000000 in
theorem or_three (x y z : Int) (g c : Nat) (v : Int) (hv : v = fstI x (fstI y z)) (w : World) (h0 : w.cell? ⟨g, 0, none⟩ = some (.int .i64 x)) (h1 : w.cell? ⟨g, 1, none⟩ = some (.int .i64 y)) (h2 : w.cell? ⟨g, 2, none⟩ = some (.int .i64 z)) :
    Calls Try.prog 33 #[.slice (some ⟨g, 0, none⟩) 3 c] w fun e w' => e = .returned (.int .i64 v) ∧ w = w' := by
  have HV : Hid _ := hv
  clear hv
  go_enter Try.func33, Try.ntmps33
  go_wp2
  go_loop [8] (fun i => ∃ k : Nat, i = .int .i64 k ∧ OrR x y z k) (fun i => 3 - (intOf i).toNat)
  case atStart => exact ⟨0, rfl, by unfold OrR; omega⟩
  case round =>
    obtain ⟨k, rfl, hr⟩ := hrel
    have HR : Hid _ := hr
    obtain ⟨hk, k1, k2, k3⟩ := hr
    rcases (by omega : k = 0 ∨ k = 1 ∨ k = 2 ∨ k = 3) with rfl | rfl | rfl | rfl
    · clear k1 k2 k3 hk
      by_cases hx : x = 0
      · subst hx
        go_wp2
        go_round
        case rel => exact ⟨1, rfl, by unfold OrR; omega⟩
        case measure => simp [intOf]
      · go_wp2
        go_ret
        exact ⟨ret_int (by rw [HV.out]; exact (fstI_ne _ hx).symm), rfl⟩
    · have ex := k1 (by omega)
      subst ex
      clear k1 k2 k3 hk
      by_cases hy : y = 0
      · subst hy
        go_wp2
        go_round
        case rel => exact ⟨2, rfl, by unfold OrR; omega⟩
        case measure => simp [intOf]
      · go_wp2
        go_ret
        exact ⟨ret_int (by rw [HV.out]; simp [fstI, hy]), rfl⟩
    · have ex := k1 (by omega)
      have ey := k2 (by omega)
      subst ex
      subst ey
      clear k1 k2 k3 hk
      by_cases hz : z = 0
      · subst hz
        go_wp2
        go_round
        case rel => exact ⟨3, rfl, by unfold OrR; omega⟩
        case measure => simp [intOf]
      · go_wp2
        go_ret
        exact ⟨ret_int (by rw [HV.out]; simp [fstI]), rfl⟩
    · have ex := k1 (by omega)
      have ey := k2 (by omega)
      have ez := k3 (by omega)
      subst ex
      subst ey
      subst ez
      clear k1 k2 k3 hk
      go_wp2
      go_ret
      exact ⟨ret_int (by rw [HV.out]; simp [fstI]), rfl⟩


set_option maxHeartbeats 1000000 in
theorem hcmp_any (x y : HK) (w : World) : Calls Try.prog 23 #[.agg #[.int .u32 x.out, .int .u32 x.via, .bool x.vr], .agg #[.int .u32 y.out, .int .u32 y.via, .bool y.vr]] w fun e w' => e = .returned (.int .i64 (cH x y)) ∧ Touch (fun _ => False) w w' := by
  have HE : Hid (cH x y = fstI (cmpI x.out y.out) (fstI (cmpI x.via y.via) (bz x.vr - bz y.vr))) := rfl
  generalize cH x y = z at HE ⊢
  obtain ⟨x0, x1, x2⟩ := x
  obtain ⟨y0, y1, y2⟩ := y
  have b1 := bz_range x2
  have b2 := bz_range y2
  simp only at HE b1 b2
  have H1 : Hid _ := later_any x2
  have H2 : Hid _ := later_any y2
  generalize hbx : bz x2 = p at *
  generalize hby : bz y2 = q at *
  have HX : Hid _ := hbx
  have HY : Hid _ := hby
  clear hbx hby
  obtain ⟨b10, b11⟩ := b1
  obtain ⟨b20, b21⟩ := b2
  have hw : IntKind.i64.wrap (p - q) = p - q := by
    rcases (by omega : p = 0 ∨ p = 1) with rfl | rfl <;> rcases (by omega : q = 0 ∨ q = 1) with rfl | rfl <;> rfl
  go_enter Try.func23, Try.ntmps23
  go_wp2_with fail
  go_region_held3 (fun w' => w'.cell? ⟨w.heap.size, 0, none⟩ = some (.int .u32 x0) ∧ w'.cell? ⟨w.heap.size, 1, none⟩ = some (.int .u32 x1) ∧ w'.cell? ⟨w.heap.size, 2, none⟩ = some (.bool x2) ∧ w'.cell? ⟨w.heap.size + 1, 0, none⟩ = some (.int .u32 y0) ∧ w'.cell? ⟨w.heap.size + 1, 1, none⟩ = some (.int .u32 y1) ∧ w'.cell? ⟨w.heap.size + 1, 2, none⟩ = some (.bool y2)) (go_keep) (first
    | (go_at_call 34; refine (cmpu32_any _ _ _).mono ?_; rintro e w1 ⟨rfl, rfl⟩)
    | (go_at_call 35; refine (H1.out _).mono ?_; rintro e w1 ⟨rfl, rfl⟩)
    | (go_at_call 35; refine (H2.out _).mono ?_; rintro e w1 ⟨rfl, rfl⟩)
    | (go_at_call 33; refine (or_three _ _ _ _ _ z HE.out _ (by simp [go_sem]) (by simp [go_sem]) (by simp [go_sem])).mono ?_; rintro e w5 ⟨rfl, rfl⟩))
  go_wp2_with fail
  go_ret
  exact ⟨rfl, ((((Touch.refl _ w).alloc _).alloc _).alloc _).drew⟩
end Go.Proofs.Ytdfacfpjhnohcaa
