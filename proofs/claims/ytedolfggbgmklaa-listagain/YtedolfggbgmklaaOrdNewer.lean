
/- Contracts: which of two heads is the newer one; keys. -/
import Derived.Test.YtedolfggbgmklaaOrdFirst
import Derived.Deep.RegionHeld3
namespace Go.Proofs.Ytedolfggbgmklaa
open Go.RowKit
set_option linter.unusedVariables false
set_option maxRecDepth 100000

theorem first_four (x y u v z : Int) (hz : z = fstI x (fstI y (fstI u v))) (g c : Nat) (w : World) (h0 : w.cell? ⟨g, 0, none⟩ = some (.int .i64 x)) (h1 : w.cell? ⟨g, 1, none⟩ = some (.int .i64 y))
    (h2 : w.cell? ⟨g, 2, none⟩ = some (.int .i64 u)) (h3 : w.cell? ⟨g, 3, none⟩ = some (.int .i64 v)) :
    Calls Try.prog 44 #[.slice (some ⟨g, 0, none⟩) 4 c] w fun e w' => e = .returned (.int .i64 z) ∧ w = w' := by
  have e : z = firstI [x, y, u, v] := by
    rw [hz]; show _ = fstI x (fstI y (fstI u (fstI v 0)))
    have : fstI v 0 = v := by unfold fstI; split <;> omega
    rw [this]
  rw [e]
  refine first_any [x, y, u, v] g c w (fun j a hj => ?_) (by simp)
  match j, hj with
  | 0, hj => obtain rfl : x = a := by simpa using hj
             exact h0
  | 1, hj => obtain rfl : y = a := by simpa using hj
             exact h1
  | 2, hj => obtain rfl : u = a := by simpa using hj
             exact h2
  | 3, hj => obtain rfl : v = a := by simpa using hj
             exact h3
theorem first_three (x y u z : Int) (hz : z = fstI x (fstI y u)) (g c : Nat) (w : World) (h0 : w.cell? ⟨g, 0, none⟩ = some (.int .i64 x)) (h1 : w.cell? ⟨g, 1, none⟩ = some (.int .i64 y))
    (h2 : w.cell? ⟨g, 2, none⟩ = some (.int .i64 u)) :
    Calls Try.prog 44 #[.slice (some ⟨g, 0, none⟩) 3 c] w fun e w' => e = .returned (.int .i64 z) ∧ w = w' := by
  have e : z = firstI [x, y, u] := by
    rw [hz]; show _ = fstI x (fstI y (fstI u 0))
    have : fstI u 0 = u := by unfold fstI; split <;> omega
    rw [this]
  rw [e]
  refine first_any [x, y, u] g c w (fun j a hj => ?_) (by simp)
  match j, hj with
  | 0, hj => obtain rfl : x = a := by simpa using hj
             exact h0
  | 1, hj => obtain rfl : y = a := by simpa using hj
             exact h1
  | 2, hj => obtain rfl : u = a := by simpa using hj
             exact h2

set_option maxHeartbeats 1000000 in
theorem newer_any (a0 a1 a2 a3 a4 a5 a6 a7 b0 b1 b2 b3 b4 b5 b6 b7 : Int) (ha0 : 0 ≤ a0) (ha : a0 < 65536) (hb0 : 0 ≤ b0) (hb : b0 < 65536) (w : World) :
    Calls Try.prog 30 #[.agg #[.int .u16 a0, .int .u8 a1, .int .u8 a2, .int .u32 a3, .int .u32 a4, .int .i32 a5, .int .u16 a6, .int .u16 a7], .agg #[.int .u16 b0, .int .u8 b1, .int .u8 b2, .int .u32 b3, .int .u32 b4, .int .i32 b5, .int .u16 b6, .int .u16 b7]] w
      fun e w' => e = .returned (.int .i64 (newI a5 a6 a0 b5 b6 b0)) ∧ Touch (fun _ => False) w w' := by
  have HE : Hid (newI a5 a6 a0 b5 b6 b0 = fstI (cmpI a5 b5) (fstI (cmpI a6 b6) (fstI (aloneI (yrs a0) (yrs b0)) (youngI (yrs a0) (yrs b0))))) := rfl
  have H1 := fun w => seq_any a5 b5 w
  have H2 := fun w => cmp16_any a6 b6 w
  have H3 := fun w => alone_any a0 b0 ha0 ha hb0 hb w
  have H4 := fun w => younger_any a0 b0 ha0 ha hb0 hb w
  generalize newI a5 a6 a0 b5 b6 b0 = z at HE ⊢
  generalize cmpI a5 b5 = x1 at HE H1
  generalize cmpI a6 b6 = x2 at HE H2
  generalize aloneI (yrs a0) (yrs b0) = x3 at HE H3
  generalize youngI (yrs a0) (yrs b0) = x4 at HE H4
  clear ha0 ha hb0 hb
  go_enter Try.func30, Try.ntmps30
  go_wp2_with fail
  go_region_held3 (fun w' => w'.cell? ⟨w.heap.size, 0, none⟩ = some (.int .u16 a0) ∧ w'.cell? ⟨w.heap.size, 5, none⟩ = some (.int .i32 a5) ∧ w'.cell? ⟨w.heap.size, 6, none⟩ = some (.int .u16 a6) ∧ w'.cell? ⟨w.heap.size + 1, 0, none⟩ = some (.int .u16 b0) ∧ w'.cell? ⟨w.heap.size + 1, 5, none⟩ = some (.int .i32 b5) ∧ w'.cell? ⟨w.heap.size + 1, 6, none⟩ = some (.int .u16 b6)) (go_keep) (first
    | (go_at_call 45; refine (H1 _).mono ?_; rintro e w1 ⟨rfl, rfl⟩)
    | (go_at_call 46; refine (H2 _).mono ?_; rintro e w2 ⟨rfl, rfl⟩)
    | (go_at_call 47; refine (H3 _).mono ?_; rintro e w3 ⟨rfl, rfl⟩)
    | (go_at_call 48; refine (H4 _).mono ?_; rintro e w4 ⟨rfl, rfl⟩)
    | (go_at_call 44; refine (first_four x1 x2 x3 x4 z HE.out _ _ _ (by simp [go_sem]) (by simp [go_sem]) (by simp [go_sem]) (by simp [go_sem])).mono ?_; rintro e w5 ⟨rfl, rfl⟩))
  go_wp2_with fail
  go_ret
  exact ⟨rfl, ((((Touch.refl _ w).alloc _).alloc _).alloc _).drew⟩
end Go.Proofs.Ytedolfggbgmklaa
