
/- Small functions of an adjacency. -/
import Derived.Test.YtojlnabhaglejaaAdTurn
namespace Go.Proofs.Ytojlnabhaglejaa
open Go.RowKit
set_option linter.unusedVariables false
set_option maxRecDepth 100000

set_option maxHeartbeats 2000000 in
theorem leads_no (w : World) (b : Nat) (x : AJ) (m o f s : Int) (hv : Value) (h : Ads w b x) (hlt : ¬ x.other < x.self) : Calls Try.prog 45 #[.pointer (some ⟨b, 0, none⟩), .agg #[.int .u16 m, .int .u8 o, .int .u8 f, .int .u32 s, hv]] w fun e w' => e = .returned (.bool false) ∧ Touch (fun _ => False) w w' := by
  have c0 : w.cell? ⟨b, 0, none⟩ = some (.int .u32 x.self) := h.cell 0
  have c1 : w.cell? ⟨b, 1, none⟩ = some (.int .u32 x.other) := h.cell 1
  have c7 : w.cell? ⟨b, 7, none⟩ = some (.int .u32 x.number) := h.cell 7
  have hb := h.lt
  have e1 : decide (x.other < x.self) = false := by simpa using hlt
  clear h
  go_enter Try.func45, Try.ntmps45
  go_wp2_with fail
  go_region
  go_wp2_with fail
  go_ret
  exact ⟨rfl, ((Touch.refl _ _).alloc _).drew⟩
set_option maxHeartbeats 2000000 in
theorem follows_yes (w : World) (b : Nat) (x : AJ) (m o s : Int) (h : Ads w b x) (hlt : x.self < x.other) : Calls Try.prog 46 #[.pointer (some ⟨b, 0, none⟩), .agg #[.int .u16 m, .int .u8 o, .int .u8 7, .int .u32 s, .slice none 0 0]] w fun e w' => e = .returned (.bool true) ∧ Touch (fun _ => False) w w' := by
  have c0 : w.cell? ⟨b, 0, none⟩ = some (.int .u32 x.self) := h.cell 0
  have c1 : w.cell? ⟨b, 1, none⟩ = some (.int .u32 x.other) := h.cell 1
  have hb := h.lt
  have e1 : decide (x.self < x.other) = true := by simpa using hlt
  clear h
  go_enter Try.func46, Try.ntmps46
  go_wp2_with fail
  go_region
  go_wp2_with fail
  go_ret
  exact ⟨rfl, ((Touch.refl _ _).alloc _).drew⟩
set_option maxHeartbeats 2000000 in
theorem indexFunc_nil (w : World) (g : Value) : Calls Try.prog 72 #[.slice none 0 0, g] w fun e w' => e = .returned (.int .i64 (-1)) ∧ w = w' := by
  go_enter Try.func72, Try.ntmps72
  go_wp2_with fail
  go_loopw [8] (fun i wr => i = .int .i64 0 ∧ wr = w) (fun _ _ => 0)
  case atStart => exact ⟨rfl, rfl⟩
  case round =>
    obtain ⟨rfl, rfl⟩ := hrel
    go_wp2_with fail
    go_ret
    exact ⟨rfl, rfl⟩
set_option maxHeartbeats 2000000 in
theorem contains_nil (w : World) (g : Value) : Calls Try.prog 59 #[.slice none 0 0, g] w fun e w' => e = .returned (.bool false) ∧ w = w' := by
  have H := indexFunc_nil w g
  go_enter Try.func59, Try.ntmps59
  go_wp2_with (go_at_call 72; refine Calls.mono H ?_; rintro e w1 ⟨rfl, rfl⟩)
  go_ret
  exact ⟨rfl, rfl⟩
set_option maxHeartbeats 2000000 in
theorem mayBe_nil (w : World) (b : Nat) : Calls Try.prog 47 #[.pointer (some ⟨b, 0, none⟩), .slice none 0 0] w fun e w' => e = .returned (.bool true) ∧ Touch (fun _ => False) w w' := by
  have hmf : ∀ (fn : Fn) (first cap : Array Value) (w : World), (Instr.makeFunc fn first cap).run Try.prog w = .ok (.func fn first cap) w := fun _ _ _ _ => rfl
  go_enter Try.func47, Try.ntmps47
  go_wp2_with (go_at_call 59; refine Calls.mono (contains_nil _ _) ?_; rintro e w1 ⟨rfl, rfl⟩)
  go_ret
  exact ⟨rfl, (Touch.refl _ _).alloc _⟩
set_option maxHeartbeats 2000000 in
theorem deleteFunc_nil (w : World) (g : Value) : Calls Try.prog 61 #[.slice none 0 0, g] w fun e w' => e = .returned (.slice none 0 0) ∧ w = w' := by
  have H := indexFunc_nil w g
  go_enter Try.func61, Try.ntmps61
  go_wp2_with (go_at_call 72; refine Calls.mono H ?_; rintro e w1 ⟨rfl, rfl⟩)
  go_ret
  exact ⟨rfl, rfl⟩
set_option maxHeartbeats 2000000 in
theorem young_nil (w : World) : Calls Try.prog 49 #[.slice none 0 0] w fun e w' => e = .returned (.slice none 0 0) ∧ w = w' := by
  go_enter Try.func49, Try.ntmps49
  go_wp2_with (first | (go_at_call 52; refine Calls.mono (clone_nil _) ?_; rintro e w1 ⟨rfl, rfl⟩) | (go_at_call 61; refine Calls.mono (deleteFunc_nil _ _) ?_; rintro e w1 ⟨rfl, rfl⟩))
  go_ret
  exact ⟨rfl, rfl⟩
set_option maxHeartbeats 2000000 in
theorem byKey_nil (w : World) : Calls Try.prog 54 #[.slice none 0 0] w fun e w' => e = .returned (.map (some w.heap.size)) ∧ w'.heap[w.heap.size]? = some (.map #[] 0) ∧ Touch (fun _ => False) w w' := by
  have hmm : ∀ w, (Instr.makeMap 64 (some (.int .i64 0))).run Try.prog w = .ok (.map (some w.heap.size)) (w.alloc (.map #[] 0)) := fun _ => rfl
  go_enter Try.func54, Try.ntmps54
  go_wp2_with fail
  go_loopw [11] (fun i wr => i = .int .i64 0 ∧ wr = w.alloc (.map #[] 0)) (fun _ _ => 0)
  case atStart => exact ⟨rfl, rfl⟩
  case round =>
    obtain ⟨rfl, rfl⟩ := hrel
    go_wp2_with fail
    go_ret
    exact ⟨rfl, heap_new _ _, (Touch.refl _ _).alloc _⟩
set_option maxHeartbeats 2000000 in
theorem markOf_any (w : World) (m o f s : Int) (hv : Value) : Calls Try.prog 56 #[.agg #[.int .u16 m, .int .u8 o, .int .u8 f, .int .u32 s, hv]] w fun e w' => e = .returned (.agg #[.int .u8 f, .int .u8 o, .int .u32 s]) ∧ Touch (fun _ => False) w w' := by
  go_enter Try.func56, Try.ntmps56
  go_wp2_with fail
  refine bodyPost_ret (v := .agg #[.int .u8 f, .int .u8 o, .int .u32 s]) (by simp [results, Try.results56, go_sem]) rfl ⟨rfl, ?_⟩
  exact ((Touch.refl _ _).alloc _).alloc _
set_option maxHeartbeats 2000000 in
theorem last_7 (w : World) (b : Nat) (x : AJ) (m o s : Int) (hv : Value) (h : Ads w b x) (hf : x.sflags = 0) : Calls Try.prog 79 #[.pointer (some ⟨b, 0, none⟩), .agg #[.int .u16 m, .int .u8 o, .int .u8 7, .int .u32 s, hv]] w fun e w' => e = .returned (.bool false) ∧ Touch (fun _ => False) w w' := by
  have c10 : w.cell? ⟨b, 10, none⟩ = some (.int .u8 x.sflags) := h.cell 10
  rw [hf] at c10
  have hb := h.lt
  clear h hf
  go_enter Try.func79, Try.ntmps79
  go_wp2_with fail
  go_region
  go_wp2_with fail
  go_ret
  exact ⟨rfl, ((Touch.refl _ _).alloc _).drew⟩
set_option maxHeartbeats 2000000 in
theorem last_1 (w : World) (b : Nat) (x : AJ) (m o s : Int) (hv : Value) (h : Ads w b x) (hf : x.sflags = 0) : Calls Try.prog 79 #[.pointer (some ⟨b, 0, none⟩), .agg #[.int .u16 m, .int .u8 o, .int .u8 1, .int .u32 s, hv]] w fun e w' => e = .returned (.bool true) ∧ Touch (fun _ => False) w w' := by
  have c10 : w.cell? ⟨b, 10, none⟩ = some (.int .u8 x.sflags) := h.cell 10
  rw [hf] at c10
  have hb := h.lt
  clear h hf
  go_enter Try.func79, Try.ntmps79
  go_wp2_with fail
  go_region
  go_wp2_with fail
  go_ret
  exact ⟨rfl, ((Touch.refl _ _).alloc _).drew⟩
set_option maxHeartbeats 2000000 in
theorem next_nil (w : World) (b : Nat) (x : AJ) (h : Ads w b x) (hm : x.master = false) (hl : x.left = .slice none 0 0) : Calls Try.prog 80 #[.pointer (some ⟨b, 0, none⟩)] w fun e w' => ∃ v, e = .returned v ∧ OneDD w.heap.size w' v x.mtu x.opts 0 x.number ∧ Ads w' b { x with smtu := x.mtu, sopts := x.opts, sflags := 0, sseq := x.number, sheads := .slice none 0 0, waited := 0, left := .slice none 0 0 } ∧ Touch (fun k => k = b) w w' := by
  have c15 : w.cell? ⟨b, 15, none⟩ = some (.bool x.master) := h.cell 15
  have c16 : w.cell? ⟨b, 16, none⟩ = some (x.left) := h.cell 16
  rw [hm] at c15
  rw [hl] at c16
  have hb := h.lt
  have hf := h.frozen
  have HA : Hid (Ads w b x) := h
  clear h hm hl
  go_enter Try.func80, Try.ntmps80
  go_wp2_with fail
  have HA2 := HA.out.set16 (.slice none 0 0)
  have T2 : Touch (fun k => k = b) w _ := (Touch.refl (fun k => k = b) w).setCell (p := ⟨b, 16, none⟩) (Or.inl rfl) (.slice none 0 0)
  refine Calls.mono (tell_nil _ b _ 0 HA2) ?_
  rintro e w1 ⟨v, rfl, od, ha, t⟩
  have T3 := T2.trans t
  replace od := od.low T2.size
  clear HA2 T2 t c15 c16 hf
  go_wp2_with fail
  go_ret
  exact ⟨v, rfl, od, ha, T3⟩
end Go.Proofs.Ytojlnabhaglejaa
