
/- What no list answers. -/
import Derived.Test.YtedolfggbgmklaaRowB
import Derived.Test.YtedolfggbgmklaaHeadV
import Derived.BigRegion
namespace Go.Proofs.Ytedolfggbgmklaa
open Go.RowKit
set_option linter.unusedVariables false
set_option maxRecDepth 100000

/-- No list, or one that New did not make. -/
def NoLi (p : Value) (w : World) : Prop := p = .pointer none ∨ ∃ b, p = .pointer (some ⟨b, 0, none⟩) ∧ w.cell? ⟨b, 0, none⟩ = some (.int .u16 0)
theorem NoLi.keep {p : Value} {w w' : World} (h : NoLi p w) (t : Touch (fun _ => False) w w') : NoLi p w' := by
  rcases h with h | ⟨b, h, hc⟩
  · exact Or.inl h
  · exact Or.inr ⟨b, h, t.cellN hc⟩
set_option maxHeartbeats 400000 in
theorem lmade_no (p : Value) (w : World) (h : NoLi p w) : Calls Try.prog 37 #[p] w fun e w' => e = .returned (.bool false) ∧ w = w' := by
  rcases h with rfl | ⟨b, rfl, hc⟩
  · go_enter Try.func37, Try.ntmps37
    go_wp2
    go_ret
    exact ⟨rfl, rfl⟩
  · go_enter Try.func37, Try.ntmps37
    go_wp2
    go_ret
    exact ⟨rfl, rfl⟩
set_option maxHeartbeats 1000000 in
theorem ladd_no (p : Value) (h0 h1 h2 h3 h4 h5 h6 h7 h8 : Value) (w : World) (h : NoLi p w) : Calls Try.prog 22 #[p, .agg #[h0, h1, h2, h3, h4, h5, h6, h7, h8]] w fun e w' => e = .returned (.tuple #[]) ∧ Touch (fun _ => False) w w' := by
  have HM := fun w' t => lmade_no p w' (NoLi.keep (w' := w') h t)
  clear h
  go_enter Try.func22, Try.ntmps22
  go_wp2_with fail
  refine Calls.mono (HM _ ((Touch.refl _ _).alloc _)) ?_
  rintro e w1 ⟨rfl, rfl⟩
  go_wp2_with fail
  first | exact bodyPost_ret (results_none rfl _ _ _) rfl ⟨rfl, (Touch.refl _ _).alloc _⟩ | exact bodyPost_end (results_none rfl _ _ _) rfl ⟨rfl, (Touch.refl _ _).alloc _⟩
set_option maxHeartbeats 1000000 in
theorem lclear_no (p : Value) (w : World) (h : NoLi p w) : Calls Try.prog 26 #[p] w fun e w' => e = .returned (.tuple #[]) ∧ Touch (fun _ => False) w w' := by
  have HM := fun w' t => lmade_no p w' (NoLi.keep (w' := w') h t)
  clear h
  go_enter Try.func26, Try.ntmps26
  go_wp2_with fail
  refine Calls.mono (HM _ (Touch.refl _ _)) ?_
  rintro e w1 ⟨rfl, rfl⟩
  go_wp2_with fail
  first | exact bodyPost_ret (results_none rfl _ _ _) rfl ⟨rfl, Touch.refl _ _⟩ | exact bodyPost_end (results_none rfl _ _ _) rfl ⟨rfl, Touch.refl _ _⟩
set_option maxHeartbeats 1000000 in
theorem lconf_no (p : Value) (h0 h1 h2 h3 h4 h5 h6 h7 : Value) (w : World) (h : NoLi p w) : Calls Try.prog 24 #[p, .agg #[h0, h1, h2, h3, h4, h5, h6, h7]] w fun e w' => e = .returned (.bool false) ∧ Touch (fun _ => False) w w' := by
  have HM := fun w' t => lmade_no p w' (NoLi.keep (w' := w') h t)
  clear h
  go_enter Try.func24, Try.ntmps24
  go_wp2_with fail
  refine Calls.mono (HM _ ((Touch.refl _ _).alloc _)) ?_
  rintro e w1 ⟨rfl, rfl⟩
  go_wp2_with fail
  go_ret
  exact ⟨rfl, (Touch.refl _ _).alloc _⟩
set_option maxHeartbeats 1000000 in
theorem ldrop_no (p : Value) (h0 h1 h2 : Value) (w : World) (h : NoLi p w) : Calls Try.prog 27 #[p, .agg #[h0, h1, h2]] w fun e w' => e = .returned (.bool false) ∧ Touch (fun _ => False) w w' := by
  have HM := fun w' t => lmade_no p w' (NoLi.keep (w' := w') h t)
  clear h
  go_enter Try.func27, Try.ntmps27
  go_wp2_with fail
  refine Calls.mono (HM _ ((Touch.refl _ _).alloc _)) ?_
  rintro e w1 ⟨rfl, rfl⟩
  go_wp2_with fail
  go_ret
  exact ⟨rfl, (Touch.refl _ _).alloc _⟩
set_option maxHeartbeats 1000000 in
theorem ltick_no (p : Value) (w : World) (h : NoLi p w) : Calls Try.prog 25 #[p] w fun e w' => e = .returned (.slice none 0 0) ∧ Touch (fun _ => False) w w' := by
  have HM := fun w' t => lmade_no p w' (NoLi.keep (w' := w') h t)
  clear h
  go_enter Try.func25, Try.ntmps25
  go_wp2_with fail
  refine Calls.mono (HM _ (Touch.refl _ _)) ?_
  rintro e w1 ⟨rfl, rfl⟩
  go_wp2_with fail
  go_ret
  exact ⟨rfl, Touch.refl _ _⟩
set_option maxHeartbeats 1000000 in
theorem lall_no (p : Value) (w : World) (h : NoLi p w) : Calls Try.prog 28 #[p] w fun e w' => e = .returned (.slice none 0 0) ∧ Touch (fun _ => False) w w' := by
  have HM := fun w' t => lmade_no p w' (NoLi.keep (w' := w') h t)
  clear h
  go_enter Try.func28, Try.ntmps28
  go_wp2_with fail
  refine Calls.mono (HM _ (Touch.refl _ _)) ?_
  rintro e w1 ⟨rfl, rfl⟩
  go_wp2_with fail
  go_ret
  exact ⟨rfl, Touch.refl _ _⟩
set_option maxHeartbeats 1000000 in
theorem llen_no (p : Value) (w : World) (h : NoLi p w) : Calls Try.prog 29 #[p] w fun e w' => e = .returned (.int .i64 0) ∧ Touch (fun _ => False) w w' := by
  have HM := fun w' t => lmade_no p w' (NoLi.keep (w' := w') h t)
  clear h
  go_enter Try.func29, Try.ntmps29
  go_wp2_with fail
  refine Calls.mono (HM _ (Touch.refl _ _)) ?_
  rintro e w1 ⟨rfl, rfl⟩
  go_wp2_with fail
  go_ret
  exact ⟨rfl, Touch.refl _ _⟩
end Go.Proofs.Ytedolfggbgmklaa
