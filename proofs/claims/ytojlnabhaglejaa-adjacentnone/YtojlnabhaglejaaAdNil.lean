
/- What no adjacency answers. -/
import Derived.Test.YtojlnabhaglejaaRowB
import Derived.Test.YtojlnabhaglejaaHeadV
import Derived.BigRegion
namespace Go.Proofs.Ytojlnabhaglejaa
open Go.RowKit
set_option linter.unusedVariables false
set_option maxRecDepth 100000

/-- No adjacency, or one that New did not make. -/
def NoAd (p : Value) (w : World) : Prop := p = .pointer none ∨ ∃ b, p = .pointer (some ⟨b, 0, none⟩) ∧ w.cell? ⟨b, 0, none⟩ = some (.int .u32 0)
theorem NoAd.keep {p : Value} {w w' : World} (h : NoAd p w) (t : Touch (fun _ => False) w w') : NoAd p w' := by
  rcases h with h | ⟨b, h, hc⟩
  · exact Or.inl h
  · exact Or.inr ⟨b, h, t.cellN hc⟩
set_option maxHeartbeats 400000 in
theorem made_no (p : Value) (w : World) (h : NoAd p w) : Calls Try.prog 27 #[p] w fun e w' => e = .returned (.bool false) ∧ w = w' := by
  rcases h with rfl | ⟨b, rfl, hc⟩
  · go_enter Try.func27, Try.ntmps27
    go_wp2
    go_ret
    exact ⟨rfl, rfl⟩
  · go_enter Try.func27, Try.ntmps27
    go_wp2
    go_ret
    exact ⟨rfl, rfl⟩
set_option maxHeartbeats 1000000 in
theorem describe_no (p : Value) (d0 d1 d2 d3 d4 u : Value) (w : World) (h : NoAd p w) : Calls Try.prog 16 #[p, .agg #[d0, d1, d2, d3, d4], u] w fun e w' => e = .returned (.tuple #[.slice none 0 0, .int .i64 1]) ∧ Touch (fun _ => False) w w' := by
  have HM := fun w' t => made_no p w' (h.keep t)
  clear h
  go_enter Try.func16, Try.ntmps16
  go_wp2_with ((go_at_call 27; refine Calls.mono (HM _ ((Touch.refl _ _).alloc _)) ?_; rintro e w1 ⟨rfl, rfl⟩))
  refine bodyPost_ret (v := .tuple #[.slice none 0 0, .int .i64 1]) (by simp [results, Try.results16, go_sem]) rfl ⟨rfl, ?_⟩
  exact ((Touch.refl _ _).alloc _)
set_option maxHeartbeats 1000000 in
theorem asked_no (p : Value) (u v : Value) (w : World) (h : NoAd p w) : Calls Try.prog 19 #[p, u, v] w fun e w' => e = .returned (.tuple #[.slice none 0 0, .slice none 0 0, .int .i64 1]) ∧ Touch (fun _ => False) w w' := by
  have HM := fun w' t => made_no p w' (h.keep t)
  clear h
  go_enter Try.func19, Try.ntmps19
  go_wp2_with ((go_at_call 27; refine Calls.mono (HM _ (Touch.refl _ _)) ?_; rintro e w1 ⟨rfl, rfl⟩))
  refine bodyPost_ret (v := .tuple #[.slice none 0 0, .slice none 0 0, .int .i64 1]) (by simp [results, Try.results19, go_sem]) rfl ⟨rfl, ?_⟩
  exact (Touch.refl _ _)
set_option maxHeartbeats 1000000 in
theorem got_no (p : Value) (h0 h1 h2 h3 h4 h5 h6 h7 : Value) (w : World) (h : NoAd p w) : Calls Try.prog 20 #[p, .agg #[h0, h1, h2, h3, h4, h5, h6, h7]] w fun e w' => e = .returned (.slice none 0 0) ∧ Touch (fun _ => False) w w' := by
  have HM := fun w' t => made_no p w' (h.keep t)
  clear h
  go_enter Try.func20, Try.ntmps20
  go_wp2_with ((go_at_call 27; refine Calls.mono (HM _ ((Touch.refl _ _).alloc _)) ?_; rintro e w1 ⟨rfl, rfl⟩))
  go_ret
  exact ⟨rfl, ((Touch.refl _ _).alloc _)⟩
set_option maxHeartbeats 1000000 in
theorem anew_no (p : Value)  (w : World) (h : NoAd p w) : Calls Try.prog 21 #[p] w fun e w' => e = .returned (.slice none 0 0) ∧ Touch (fun _ => False) w w' := by
  have HM := fun w' t => made_no p w' (h.keep t)
  clear h
  go_enter Try.func21, Try.ntmps21
  go_wp2_with ((go_at_call 27; refine Calls.mono (HM _ (Touch.refl _ _)) ?_; rintro e w1 ⟨rfl, rfl⟩))
  go_ret
  exact ⟨rfl, (Touch.refl _ _)⟩
set_option maxHeartbeats 1000000 in
theorem tick_no (p : Value)  (w : World) (h : NoAd p w) : Calls Try.prog 10 #[p] w fun e w' => e = .returned (.slice none 0 0) ∧ Touch (fun _ => False) w w' := by
  have HM := fun w' t => made_no p w' (h.keep t)
  clear h
  go_enter Try.func10, Try.ntmps10
  go_wp2_with ((go_at_call 27; refine Calls.mono (HM _ (Touch.refl _ _)) ?_; rintro e w1 ⟨rfl, rfl⟩))
  go_ret
  exact ⟨rfl, (Touch.refl _ _)⟩
set_option maxHeartbeats 1000000 in
theorem state_no (p : Value)  (w : World) (h : NoAd p w) : Calls Try.prog 11 #[p] w fun e w' => e = .returned (.int .u8 0) ∧ Touch (fun _ => False) w w' := by
  have HM := fun w' t => made_no p w' (h.keep t)
  clear h
  go_enter Try.func11, Try.ntmps11
  go_wp2_with ((go_at_call 27; refine Calls.mono (HM _ (Touch.refl _ _)) ?_; rintro e w1 ⟨rfl, rfl⟩))
  go_ret
  exact ⟨rfl, (Touch.refl _ _)⟩
set_option maxHeartbeats 1000000 in
theorem master_no (p : Value)  (w : World) (h : NoAd p w) : Calls Try.prog 12 #[p] w fun e w' => e = .returned (.bool false) ∧ Touch (fun _ => False) w w' := by
  have HM := fun w' t => made_no p w' (h.keep t)
  clear h
  go_enter Try.func12, Try.ntmps12
  go_wp2_with ((go_at_call 27; refine Calls.mono (HM _ (Touch.refl _ _)) ?_; rintro e w1 ⟨rfl, rfl⟩))
  go_ret
  exact ⟨rfl, (Touch.refl _ _)⟩
set_option maxHeartbeats 1000000 in
theorem wants_no (p : Value)  (w : World) (h : NoAd p w) : Calls Try.prog 22 #[p] w fun e w' => e = .returned (.slice none 0 0) ∧ Touch (fun _ => False) w w' := by
  have HM := fun w' t => made_no p w' (h.keep t)
  clear h
  go_enter Try.func22, Try.ntmps22
  go_wp2_with ((go_at_call 27; refine Calls.mono (HM _ (Touch.refl _ _)) ?_; rintro e w1 ⟨rfl, rfl⟩))
  go_ret
  exact ⟨rfl, (Touch.refl _ _)⟩
set_option maxHeartbeats 1000000 in
theorem opts_no (p : Value)  (w : World) (h : NoAd p w) : Calls Try.prog 23 #[p] w fun e w' => e = .returned (.int .u8 0) ∧ Touch (fun _ => False) w w' := by
  have HM := fun w' t => made_no p w' (h.keep t)
  clear h
  go_enter Try.func23, Try.ntmps23
  go_wp2_with ((go_at_call 27; refine Calls.mono (HM _ (Touch.refl _ _)) ?_; rintro e w1 ⟨rfl, rfl⟩))
  go_ret
  exact ⟨rfl, (Touch.refl _ _)⟩
end Go.Proofs.Ytojlnabhaglejaa
