/- Contract: which of two keys comes first. -/
import Derived.Test.YtfflkconbpiflaaOrdNewer
namespace Go.Proofs.Ytfflkconbpiflaa
open Go.RowKit
set_option linter.unusedVariables false
set_option maxRecDepth 100000

theorem keys_self (a0 a1 a2 : Int) (w : World) :
    Calls Try.prog 15 #[.agg #[.int .u8 a0, .int .u32 a1, .int .u32 a2], .agg #[.int .u8 a0, .int .u32 a1, .int .u32 a2]] w fun e w' => e = .returned (.int .i64 0) ∧ Touch (fun _ => False) w w' := by
  go_enter Try.func15, Try.ntmps15
  go_wp2
  go_ret
  exact ⟨rfl, (((Touch.refl _ w).alloc _).alloc _)⟩

set_option maxHeartbeats 1000000 in
theorem keys_type (a0 a1 a2 b0 b1 b2 : Int) (hn : ¬ a0 = b0) (w : World) :
    Calls Try.prog 15 #[.agg #[.int .u8 a0, .int .u32 a1, .int .u32 a2], .agg #[.int .u8 b0, .int .u32 b1, .int .u32 b2]] w fun e w' => e = .returned (.int .i64 (keyI a0 a1 a2 b0 b1 b2)) ∧ Touch (fun _ => False) w w' := by
  have HE : Hid (keyI a0 a1 a2 b0 b1 b2 = fstI (cmpI a0 b0) (fstI (cmpI a1 b1) (cmpI a2 b2))) := rfl
  generalize keyI a0 a1 a2 b0 b1 b2 = z at HE ⊢
  go_enter Try.func15, Try.ntmps15
  go_wp2_with fail
  go_region_held3 (fun w' => w'.cell? ⟨w.heap.size, 0, none⟩ = some (.int .u8 a0) ∧ w'.cell? ⟨w.heap.size, 1, none⟩ = some (.int .u32 a1) ∧ w'.cell? ⟨w.heap.size, 2, none⟩ = some (.int .u32 a2) ∧ w'.cell? ⟨w.heap.size + 1, 0, none⟩ = some (.int .u8 b0) ∧ w'.cell? ⟨w.heap.size + 1, 1, none⟩ = some (.int .u32 b1) ∧ w'.cell? ⟨w.heap.size + 1, 2, none⟩ = some (.int .u32 b2)) (go_keep) (first
    | (go_at_call 27; refine (cmp8_any _ _ _).mono ?_; rintro e w1 ⟨rfl, rfl⟩)
    | (go_at_call 28; refine (cmp32_any _ _ _).mono ?_; rintro e w2 ⟨rfl, rfl⟩)
    | (go_at_call 23; refine (first_three _ _ _ z HE.out _ _ _ (by simp [go_sem]) (by simp [go_sem]) (by simp [go_sem])).mono ?_; rintro e w5 ⟨rfl, rfl⟩))
  go_wp2_with fail
  go_ret
  exact ⟨rfl, ((((Touch.refl _ w).alloc _).alloc _).alloc _).drew⟩

set_option maxHeartbeats 1000000 in
theorem keys_id (a0 a1 a2 b1 b2 : Int) (hn : ¬ a1 = b1) (w : World) :
    Calls Try.prog 15 #[.agg #[.int .u8 a0, .int .u32 a1, .int .u32 a2], .agg #[.int .u8 a0, .int .u32 b1, .int .u32 b2]] w fun e w' => e = .returned (.int .i64 (keyI a0 a1 a2 a0 b1 b2)) ∧ Touch (fun _ => False) w w' := by
  have HE : Hid (keyI a0 a1 a2 a0 b1 b2 = fstI (cmpI a0 a0) (fstI (cmpI a1 b1) (cmpI a2 b2))) := rfl
  generalize keyI a0 a1 a2 a0 b1 b2 = z at HE ⊢
  go_enter Try.func15, Try.ntmps15
  go_wp2_with fail
  go_region_held3 (fun w' => w'.cell? ⟨w.heap.size, 0, none⟩ = some (.int .u8 a0) ∧ w'.cell? ⟨w.heap.size, 1, none⟩ = some (.int .u32 a1) ∧ w'.cell? ⟨w.heap.size, 2, none⟩ = some (.int .u32 a2) ∧ w'.cell? ⟨w.heap.size + 1, 0, none⟩ = some (.int .u8 a0) ∧ w'.cell? ⟨w.heap.size + 1, 1, none⟩ = some (.int .u32 b1) ∧ w'.cell? ⟨w.heap.size + 1, 2, none⟩ = some (.int .u32 b2)) (go_keep) (first
    | (go_at_call 27; refine (cmp8_any _ _ _).mono ?_; rintro e w1 ⟨rfl, rfl⟩)
    | (go_at_call 28; refine (cmp32_any _ _ _).mono ?_; rintro e w2 ⟨rfl, rfl⟩)
    | (go_at_call 23; refine (first_three _ _ _ z HE.out _ _ _ (by simp [go_sem]) (by simp [go_sem]) (by simp [go_sem])).mono ?_; rintro e w5 ⟨rfl, rfl⟩))
  go_wp2_with fail
  go_ret
  exact ⟨rfl, ((((Touch.refl _ w).alloc _).alloc _).alloc _).drew⟩

set_option maxHeartbeats 1000000 in
theorem keys_adv (a0 a1 a2 b2 : Int) (hn : ¬ a2 = b2) (w : World) :
    Calls Try.prog 15 #[.agg #[.int .u8 a0, .int .u32 a1, .int .u32 a2], .agg #[.int .u8 a0, .int .u32 a1, .int .u32 b2]] w fun e w' => e = .returned (.int .i64 (keyI a0 a1 a2 a0 a1 b2)) ∧ Touch (fun _ => False) w w' := by
  have HE : Hid (keyI a0 a1 a2 a0 a1 b2 = fstI (cmpI a0 a0) (fstI (cmpI a1 a1) (cmpI a2 b2))) := rfl
  generalize keyI a0 a1 a2 a0 a1 b2 = z at HE ⊢
  go_enter Try.func15, Try.ntmps15
  go_wp2_with fail
  go_region_held3 (fun w' => w'.cell? ⟨w.heap.size, 0, none⟩ = some (.int .u8 a0) ∧ w'.cell? ⟨w.heap.size, 1, none⟩ = some (.int .u32 a1) ∧ w'.cell? ⟨w.heap.size, 2, none⟩ = some (.int .u32 a2) ∧ w'.cell? ⟨w.heap.size + 1, 0, none⟩ = some (.int .u8 a0) ∧ w'.cell? ⟨w.heap.size + 1, 1, none⟩ = some (.int .u32 a1) ∧ w'.cell? ⟨w.heap.size + 1, 2, none⟩ = some (.int .u32 b2)) (go_keep) (first
    | (go_at_call 27; refine (cmp8_any _ _ _).mono ?_; rintro e w1 ⟨rfl, rfl⟩)
    | (go_at_call 28; refine (cmp32_any _ _ _).mono ?_; rintro e w2 ⟨rfl, rfl⟩)
    | (go_at_call 23; refine (first_three _ _ _ z HE.out _ _ _ (by simp [go_sem]) (by simp [go_sem]) (by simp [go_sem])).mono ?_; rintro e w5 ⟨rfl, rfl⟩))
  go_wp2_with fail
  go_ret
  exact ⟨rfl, ((((Touch.refl _ w).alloc _).alloc _).alloc _).drew⟩

theorem keys_any (a0 a1 a2 b0 b1 b2 : Int) (w : World) :
    Calls Try.prog 15 #[.agg #[.int .u8 a0, .int .u32 a1, .int .u32 a2], .agg #[.int .u8 b0, .int .u32 b1, .int .u32 b2]] w fun e w' => e = .returned (.int .i64 (keyI a0 a1 a2 b0 b1 b2)) ∧ Touch (fun _ => False) w w' := by
  by_cases h : a0 = b0 ∧ a1 = b1 ∧ a2 = b2
  · obtain ⟨rfl, rfl, rfl⟩ := h
    have e : keyI a0 a1 a2 a0 a1 a2 = 0 := by unfold keyI; rw [cmpI_eq, cmpI_eq, cmpI_eq]; rfl
    rw [e]
    exact keys_self a0 a1 a2 w
  · by_cases h0 : a0 = b0
    · subst h0
      by_cases h1 : a1 = b1
      · subst h1
        exact keys_adv a0 a1 a2 b2 (fun e => h ⟨rfl, rfl, e⟩) w
      · exact keys_id a0 a1 a2 b1 b2 h1 w
    · exact keys_type a0 a1 a2 b0 b1 b2 h0 w
end Go.Proofs.Ytfflkconbpiflaa
