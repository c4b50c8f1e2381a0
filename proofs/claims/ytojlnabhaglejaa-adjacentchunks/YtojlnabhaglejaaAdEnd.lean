
/- The exchange ends; what is wanted is requested. -/
import Derived.Test.YtojlnabhaglejaaAdWant2
namespace Go.Proofs.Ytojlnabhaglejaa
open Go.RowKit
set_option linter.unusedVariables false
set_option maxRecDepth 100000

/-- One thing to be sent: a request for one key. -/
def OneK (w : World) (v : Value) : Prop := ∃ g a c, v = .slice (some ⟨g, 0, none⟩) 1 1 ∧ Row w g 59 [.bool false, .int .u16 0, .int .u8 0, .int .u8 0, .int .u32 0, .slice none 0 0, .slice a 1 c]
set_option maxHeartbeats 4000000 in
theorem request_one (base : Nat) (w : World) (b : Nat) (x : AJ) (h : Ads w b x) (hk : KR base w x.keys) (hbb : b < base) : Calls Try.prog 44 #[.pointer (some ⟨b, 0, none⟩)] w fun e w' => ∃ v, e = .returned v ∧ OneK w' v ∧ Ads w' b { x with asked := 1, waited := 0 } ∧ Touch (fun k => k = b) w w' := by
  have HF := first_one base w b x h hk
  have HA : Hid (Ads w b x) := h
  have hb := h.lt
  clear h hk
  go_enter Try.func44, Try.ntmps44
  go_wp2_with fail
  refine Calls.mono HF ?_
  rintro e w1 ⟨u, rfl, hu, t1⟩
  obtain ⟨ua, uc, rfl⟩ := own_shape hu
  have HA1 := HA.out.keep t1
  have c22 : w1.cell? ⟨b, 22, none⟩ = some (.int .i64 x.asked) := HA1.cell 22
  have c13 : w1.cell? ⟨b, 13, none⟩ = some (.int .u16 x.waited) := HA1.cell 13
  have hf := HA1.frozen
  have hb1 := HA1.lt
  have X : Hid (Ads ((w1.setCell ⟨b, 22, none⟩ (.int .i64 1)).setCell ⟨b, 13, none⟩ (.int .u16 0)) b { x with asked := 1, waited := 0 } ∧ Touch (fun k => k = b) w ((w1.setCell ⟨b, 22, none⟩ (.int .i64 1)).setCell ⟨b, 13, none⟩ (.int .u16 0))) := ⟨(HA1.set22 1).set13 0, ((t1.mono (G := fun k => k = b) (fun _ _ f => f.elim)).setCell (p := ⟨b, 22, none⟩) (Or.inl rfl) _).setCell (p := ⟨b, 13, none⟩) (Or.inl rfl) _⟩
  clear HA1 hu t1 HF
  go_wp2_with fail
  go_ret
  refine ⟨_, rfl, ⟨_, ua, uc, rfl, ?_⟩, X.out.1.keep ((Touch.refl _ _).alloc _), X.out.2.alloc _⟩
  have := row_new ((w1.setCell ⟨b, 22, none⟩ (.int .i64 1)).setCell ⟨b, 13, none⟩ (.int .u16 0)) 59 #[.bool false, .int .u16 0, .int .u8 0, .int .u8 0, .int .u32 0, .slice none 0 0, .slice ua 1 uc]
  simpa [World.setCell] using this
set_option maxHeartbeats 2000000 in
theorem end_some (base : Nat) (w : World) (b : Nat) (x : AJ) (h : Ads w b x) (hk : KR base w x.keys) (hbb : b < base) : Calls Try.prog 57 #[.pointer (some ⟨b, 0, none⟩)] w fun e w' => ∃ v, e = .returned v ∧ OneK w' v ∧ Ads w' b { x with state := 2, asked := 1, waited := 0 } ∧ Touch (fun k => k = b) w w' := by
  obtain ⟨ka, kc, hkf⟩ := own_shape hk
  have HN := none_one w b x h ka kc hkf
  have c14 : w.cell? ⟨b, 14, none⟩ = some (.int .u8 x.state) := h.cell 14
  have hf := h.frozen
  have hb := h.lt
  have HA2 := h.set14 2
  have t2 : Touch (fun k => k = b) w (w.setCell ⟨b, 14, none⟩ (.int .u8 2)) := (Touch.refl (fun k => k = b) w).setCell (p := ⟨b, 14, none⟩) (Or.inl rfl) _
  have HR : Hid (Calls Try.prog 44 #[.pointer (some ⟨b, 0, none⟩)] (w.setCell ⟨b, 14, none⟩ (.int .u8 2)) fun e w' => ∃ v, e = .returned v ∧ OneK w' v ∧ Ads w' b { x with state := 2, asked := 1, waited := 0 } ∧ Touch (fun k => k = b) (w.setCell ⟨b, 14, none⟩ (.int .u8 2)) w') := request_one base _ b _ HA2 (own_touch hk t2 (fun k hk' e => by have := (hk.lt k hk').1; omega)) hbb
  have T2 : Hid (Touch (fun k => k = b) w (w.setCell ⟨b, 14, none⟩ (.int .u8 2))) := t2
  clear h hk HA2 t2 hkf
  go_enter Try.func57, Try.ntmps57
  go_wp2_with (first | (go_at_call 71; refine Calls.mono HN ?_; rintro e w1 ⟨rfl, rfl⟩) | (go_at_call 44; refine Calls.mono HR.out ?_; rintro e w1 ⟨v, rfl, od, ha, t⟩))
  go_ret
  exact ⟨v, rfl, od, ha, T2.out.trans t⟩
set_option maxHeartbeats 2000000 in
theorem end_full (w : World) (b : Nat) (x : AJ) (a : Option Addr) (c : Nat) (h : Ads w b x) (hk : x.keys = .slice a 0 c) : Calls Try.prog 57 #[.pointer (some ⟨b, 0, none⟩)] w fun e w' => e = .returned (.slice none 0 0) ∧ Ads w' b { x with state := 3 } ∧ Touch (fun k => k = b) w w' := by
  have HN := none_zero w b x h a c hk
  have c14 : w.cell? ⟨b, 14, none⟩ = some (.int .u8 x.state) := h.cell 14
  have hf := h.frozen
  have hb := h.lt
  have HA2 : Hid (Ads (w.setCell ⟨b, 14, none⟩ (.int .u8 3)) b { x with state := 3 }) := h.set14 3
  clear h hk
  go_enter Try.func57, Try.ntmps57
  go_wp2_with (go_at_call 71; refine Calls.mono HN ?_; rintro e w1 ⟨rfl, rfl⟩)
  go_ret
  exact ⟨rfl, HA2.out, (Touch.refl (fun k => k = b) w).setCell (p := ⟨b, 14, none⟩) (Or.inl rfl) _⟩
end Go.Proofs.Ytojlnabhaglejaa
