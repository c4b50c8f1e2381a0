/- Both orders of prefixes. -/
import Derived.Test.YtmofndckjjbfgaaDoorPreAft
import Derived.Deep.RegionHeld3
namespace Go.Proofs.YtmofndckjjbfgaaDoor
open Go.RowKit
set_option linter.unusedVariables false
set_option maxRecDepth 100000

def cmpI (x y : Int) : Int := if x < y then -1 else if y < x then 1 else 0
theorem cmpI_lt {x y : Int} (h : x < y) : cmpI x y = -1 := if_pos h
theorem cmpI_gt {x y : Int} (h : y < x) : cmpI x y = 1 := by unfold cmpI; rw [if_neg (by omega), if_pos h]
theorem cmpI_eq (x : Int) : cmpI x x = 0 := by unfold cmpI; rw [if_neg (by omega), if_neg (by omega)]
/-- The order of two prefixes: by the address, then by the bits. -/
def pcmp (a n b m : Int) : Int := if cmpI a b ≠ 0 then cmpI a b else cmpI n m

set_option maxHeartbeats 400000 in
theorem cmp32_any (x y : Int) (w : World) : Calls Tryd.prog 41 #[.int .u32 x, .int .u32 y] w fun e w' => e = .returned (.int .i64 (cmpI x y)) ∧ w = w' := by
  rcases Int.lt_trichotomy x y with h | h | h
  · have H : Hid _ := cmpI_lt h
    go_enter Tryd.func41, Tryd.ntmps41
    go_wp2
    go_ret
    exact ⟨ret_int H.out.symm, rfl⟩
  · subst h
    have H : Hid _ := cmpI_eq x
    have h1 : ¬ x < x := by omega
    go_enter Tryd.func41, Tryd.ntmps41
    go_wp2
    go_ret
    exact ⟨ret_int H.out.symm, rfl⟩
  · have H : Hid _ := cmpI_gt h
    have h1 : ¬ x < y := by omega
    go_enter Tryd.func41, Tryd.ntmps41
    go_wp2
    go_ret
    exact ⟨ret_int H.out.symm, rfl⟩
set_option maxHeartbeats 400000 in
theorem cmp8_any (x y : Int) (w : World) : Calls Tryd.prog 42 #[.int .u8 x, .int .u8 y] w fun e w' => e = .returned (.int .i64 (cmpI x y)) ∧ w = w' := by
  rcases Int.lt_trichotomy x y with h | h | h
  · have H : Hid _ := cmpI_lt h
    go_enter Tryd.func42, Tryd.ntmps42
    go_wp2
    go_ret
    exact ⟨ret_int H.out.symm, rfl⟩
  · subst h
    have H : Hid _ := cmpI_eq x
    have h1 : ¬ x < x := by omega
    go_enter Tryd.func42, Tryd.ntmps42
    go_wp2
    go_ret
    exact ⟨ret_int H.out.symm, rfl⟩
  · have H : Hid _ := cmpI_gt h
    have h1 : ¬ x < y := by omega
    go_enter Tryd.func42, Tryd.ntmps42
    go_wp2
    go_ret
    exact ⟨ret_int H.out.symm, rfl⟩

set_option maxHeartbeats 400000 in
theorem or_two (x y : Int) (g c : Nat) (w : World) (h0 : w.cell? ⟨g, 0, none⟩ = some (.int .i64 x)) (h1 : w.cell? ⟨g, 1, none⟩ = some (.int .i64 y)) :
    Calls Tryd.prog 40 #[.slice (some ⟨g, 0, none⟩) 2 c] w fun e w' => e = .returned (.int .i64 (if x ≠ 0 then x else y)) ∧ w = w' := by
  by_cases hx : x = 0
  · subst hx
    by_cases hy : y = 0
    · subst hy
      go_enter Tryd.func40, Tryd.ntmps40
      go_wp2
      go_rounds 3
      go_ret
      exact ⟨rfl, rfl⟩
    · go_enter Tryd.func40, Tryd.ntmps40
      go_wp2
      go_rounds 3
      go_ret
      exact ⟨rfl, rfl⟩
  · have H : Hid ((if x ≠ 0 then x else y) = x) := if_pos hx
    generalize (if x ≠ 0 then x else y) = z at H ⊢
    go_enter Tryd.func40, Tryd.ntmps40
    go_wp2
    go_rounds 3
    go_ret
    exact ⟨ret_int H.out.symm, rfl⟩

theorem or_at (x y z : Int) (hz : z = if x ≠ 0 then x else y) (g c : Nat) (w : World) (h0 : w.cell? ⟨g, 0, none⟩ = some (.int .i64 x)) (h1 : w.cell? ⟨g, 1, none⟩ = some (.int .i64 y)) :
    Calls Tryd.prog 40 #[.slice (some ⟨g, 0, none⟩) 2 c] w fun e w' => e = .returned (.int .i64 z) ∧ w = w' := by
  rw [hz]; exact or_two x y g c w h0 h1

set_option maxHeartbeats 1000000 in
theorem compare_any (a n b m : Int) (w : World) :
    Calls Tryd.prog 21 #[.agg #[.int .u32 a, .int .u8 n], .agg #[.int .u32 b, .int .u8 m]] w fun e w' => e = .returned (.int .i64 (pcmp a n b m)) ∧ Gr w w' := by
  have HE : Hid (pcmp a n b m = if cmpI a b ≠ 0 then cmpI a b else cmpI n m) := rfl
  generalize pcmp a n b m = z at HE ⊢
  go_enter Tryd.func21, Tryd.ntmps21
  go_wp2_with fail
  go_region_held3 (fun w' => w'.cell? ⟨w.heap.size, 0, none⟩ = some (.int .u32 a) ∧ w'.cell? ⟨w.heap.size, 1, none⟩ = some (.int .u8 n) ∧ w'.cell? ⟨w.heap.size + 1, 0, none⟩ = some (.int .u32 b) ∧ w'.cell? ⟨w.heap.size + 1, 1, none⟩ = some (.int .u8 m)) (go_keep) (first
    | (go_at_call 41; refine (cmp32_any a b _).mono ?_; rintro e w1 ⟨rfl, rfl⟩)
    | (go_at_call 42; refine (cmp8_any n m _).mono ?_; rintro e w2 ⟨rfl, rfl⟩)
    | (go_at_call 40; refine (or_at (cmpI a b) (cmpI n m) z HE.out _ _ _ (by simp [go_sem]) (by simp [go_sem])).mono ?_; rintro e w3 ⟨rfl, rfl⟩))
  go_wp2_with fail
  go_ret
  exact ⟨rfl, ((((Gr.refl w).alloc _).alloc _).alloc _).drew⟩

theorem pcmp_lt {a n b m : Int} (h : a < b ∨ a = b ∧ n < m) : pcmp a n b m = -1 := by
  unfold pcmp
  rcases h with h | ⟨rfl, h⟩
  · rw [cmpI_lt h]; rfl
  · rw [cmpI_eq, cmpI_lt h]; rfl
theorem pcmp_eq (a n : Int) : pcmp a n a n = 0 := by unfold pcmp; rw [cmpI_eq, cmpI_eq]; rfl
theorem pcmp_gt {a n b m : Int} (h : b < a ∨ a = b ∧ m < n) : pcmp a n b m = 1 := by
  unfold pcmp
  rcases h with h | ⟨rfl, h⟩
  · rw [cmpI_gt h]; rfl
  · rw [cmpI_eq, cmpI_gt h]; rfl

set_option maxHeartbeats 1000000 in
theorem rcompare_any (a n b m : Int) (w : World) :
    Calls Tryd.prog 22 #[.agg #[.int .u32 a, .int .u8 n], .agg #[.int .u32 b, .int .u8 m]] w fun e w' => e = .returned (.int .i64 (pcmp a n b m)) ∧ Gr w w' := by
  rcases Int.lt_trichotomy a b with h | h | h
  · have H : Hid _ := pcmp_lt (n := n) (m := m) (.inl h)
    go_enter Tryd.func22, Tryd.ntmps22
    go_wp2
    go_ret
    exact ⟨ret_int H.out.symm, (((Gr.refl w).alloc _).alloc _)⟩
  · subst h
    have h1 : ¬ a < a := by omega
    rcases Int.lt_trichotomy n m with g | g | g
    · have H : Hid _ := pcmp_lt (a := a) (.inr ⟨rfl, g⟩)
      go_enter Tryd.func22, Tryd.ntmps22
      go_wp2
      go_ret
      exact ⟨ret_int H.out.symm, (((Gr.refl w).alloc _).alloc _)⟩
    · subst g
      have g1 : ¬ n < n := by omega
      have H : Hid _ := pcmp_eq a n
      go_enter Tryd.func22, Tryd.ntmps22
      go_wp2
      go_ret
      exact ⟨ret_int H.out.symm, (((Gr.refl w).alloc _).alloc _)⟩
    · have H : Hid _ := pcmp_gt (a := a) (.inr ⟨rfl, g⟩)
      have g1 : ¬ n < m := by omega
      have g2 : ¬ n = m := by omega
      go_enter Tryd.func22, Tryd.ntmps22
      go_wp2
      go_ret
      exact ⟨ret_int H.out.symm, (((Gr.refl w).alloc _).alloc _)⟩
  · have H : Hid _ := pcmp_gt (n := n) (m := m) (.inl h)
    have h1 : ¬ a < b := by omega
    have h2 : ¬ a = b := by omega
    go_enter Tryd.func22, Tryd.ntmps22
    go_wp2
    go_ret
    exact ⟨ret_int H.out.symm, (((Gr.refl w).alloc _).alloc _)⟩
end Go.Proofs.YtmofndckjjbfgaaDoor
