
/- An adjacency is made; what takes each message in a state. -/
import Derived.Test.YtojlnabhaglejaaAdVal
import Derived.Deep.MidRow
import Derived.Deep.DeepCutAuto
import Derived.Deep.RegionHeld3
namespace Go.Proofs.Ytojlnabhaglejaa
open Go.RowKit
set_option linter.unusedVariables false
set_option maxRecDepth 100000

theorem row_range {w : World} {g : Nat} {T : TypeId} {xs : List Value} (h : Row w g T xs) : w.rangeAt g 0 xs := fun j v hj => by
  rw [Nat.zero_add, h.cell j]
  exact hj
/-- A new adjacency. -/
def AJ.new (self other mtu opts rxmt cseq types : Int) (m : Nat) : AJ := ⟨self, other, mtu, opts, rxmt, cseq, types, cseq, mtu, opts, 7, cseq, .slice none 0 0, 0, 0, false, .slice none 0 0, 0, 0, 0, .map (some m), .slice none 0 0, 0⟩
set_option maxHeartbeats 2000000 in
theorem new_any (w : World) (self other mtu opts rxmt cseq types : Int) (h1 : ¬ self = 0) (h2 : ¬ other = 0) (h3 : ¬ self = other) (h4 : ¬ rxmt = 0) :
    Calls Try.prog 8 #[.agg #[.int .u32 self, .int .u32 other, .int .u16 mtu, .int .u8 opts, .int .u16 rxmt, .int .u32 cseq, .int .u16 types]] w fun e w' => ∃ b v m, e = .returned (.tuple #[.pointer (some ⟨b, 0, none⟩), v, .int .i64 0]) ∧ OneDD w.heap.size w' v mtu opts 7 cseq ∧ Ads w' b (AJ.new self other mtu opts rxmt cseq types m) ∧ w'.heap[m]? = some (.map #[] 0) ∧ w.heap.size ≤ b ∧ b < m ∧ Touch (fun _ => False) w w' := by
  have e1 : (self == 0) = false := by simpa using h1
  have e2 : (other == 0) = false := by simpa using h2
  have e3 : (self == other) = false := by simpa using h3
  have e4 : (rxmt == 0) = false := by simpa using h4
  go_enter Try.func8, Try.ntmps8
  go_wp2_with fail
  have HA : Ads ((w.alloc (.cells #[.int .u32 self, .int .u32 other, .int .u16 mtu, .int .u8 opts, .int .u16 rxmt, .int .u32 cseq, .int .u16 types] 41)).alloc (.cells #[.int .u32 self, .int .u32 other, .int .u16 mtu, .int .u8 opts, .int .u16 rxmt, .int .u32 cseq, .int .u16 types, .int .u32 cseq, .int .u16 0, .int .u8 0, .int .u8 0, .int .u32 0, .slice none 0 0, .int .u16 0, .int .u8 0, .bool false, .slice none 0 0, .int .u8 0, .int .u8 0, .int .u32 0, .map none, .slice none 0 0, .int .i64 0] 70)) (w.heap.size + 1) ⟨self, other, mtu, opts, rxmt, cseq, types, cseq, 0, 0, 0, 0, .slice none 0 0, 0, 0, false, .slice none 0 0, 0, 0, 0, .map none, .slice none 0 0, 0⟩ := by
    have := row_new (w.alloc (.cells #[.int .u32 self, .int .u32 other, .int .u16 mtu, .int .u8 opts, .int .u16 rxmt, .int .u32 cseq, .int .u16 types] 41)) 70 #[.int .u32 self, .int .u32 other, .int .u16 mtu, .int .u8 opts, .int .u16 rxmt, .int .u32 cseq, .int .u16 types, .int .u32 cseq, .int .u16 0, .int .u8 0, .int .u8 0, .int .u32 0, .slice none 0 0, .int .u16 0, .int .u8 0, .bool false, .slice none 0 0, .int .u8 0, .int .u8 0, .int .u32 0, .map none, .slice none 0 0, .int .i64 0]
    unfold Ads AJ.cells
    simpa using this
  have TA : Touch (fun _ => False) w ((w.alloc (.cells #[.int .u32 self, .int .u32 other, .int .u16 mtu, .int .u8 opts, .int .u16 rxmt, .int .u32 cseq, .int .u16 types] 41)).alloc (.cells #[.int .u32 self, .int .u32 other, .int .u16 mtu, .int .u8 opts, .int .u16 rxmt, .int .u32 cseq, .int .u16 types, .int .u32 cseq, .int .u16 0, .int .u8 0, .int .u8 0, .int .u32 0, .slice none 0 0, .int .u16 0, .int .u8 0, .bool false, .slice none 0 0, .int .u8 0, .int .u8 0, .int .u32 0, .map none, .slice none 0 0, .int .i64 0] 70)) := ((Touch.refl _ _).alloc _).alloc _
  refine Calls.mono (begin_any _ _ _ HA) ?_
  rintro e w1 ⟨v, m, rfl, od, ha, hm, hle, t⟩
  have T1 : Touch (fun _ => False) w w1 := TA.trans' t (fun i hi e => by omega)
  replace od := od.low TA.size
  have hlt : w.heap.size + 1 < m := by have := HA.lt; omega
  clear TA HA t hle
  generalize hbb : w.heap.size + 1 = b at *
  go_wp2_with fail
  refine bodyPost_ret (v := .tuple #[.pointer (some ⟨b, 0, none⟩), v, .int .i64 0]) (by simp [results, Try.results8, go_sem]) rfl ?_
  exact ⟨b, v, m, rfl, od, ha, hm, by omega, hlt, T1⟩
set_option maxHeartbeats 2000000 in
theorem turn_start (w : World) (b : Nat) (x : AJ) (h : Ads w b x) (hs : x.state = 0) : Calls Try.prog 28 #[.pointer (some ⟨b, 0, none⟩)] w fun e w' => e = .returned (.agg #[.func (.func 36) #[.pointer (some ⟨b, 0, none⟩)] #[], .func (.func 37) #[.pointer (some ⟨b, 0, none⟩)] #[], .func (.func 38) #[.pointer (some ⟨b, 0, none⟩)] #[], .func (.func 39) #[.pointer (some ⟨b, 0, none⟩)] #[]]) ∧ Touch (fun _ => False) w w' := by
  have c14 : w.cell? ⟨b, 14, none⟩ = some (.int .u8 x.state) := h.cell 14
  have c15 : w.cell? ⟨b, 15, none⟩ = some (.bool x.master) := h.cell 15
  rw [hs] at c14
  have hb := h.lt
  have hmf : ∀ (fn : Fn) (first cap : Array Value) (w : World), (Instr.makeFunc fn first cap).run Try.prog w = .ok (.func fn first cap) w := fun _ _ _ _ => rfl
  have ra : Row (w.alloc (.cells #[.nilFunc, .nilFunc, .nilFunc, .nilFunc] 79)) w.heap.size 79 [.nilFunc, .nilFunc, .nilFunc, .nilFunc] := row_new _ _ _
  clear h hs
  go_enter Try.func28, Try.ntmps28
  go_wp2_with (refine wpList_store_row rfl 79 (.tmp 2) (.tmp 19) rfl w.heap.size #[.func (.func 36) #[.pointer (some ⟨b, 0, none⟩)] #[], .func (.func 37) #[.pointer (some ⟨b, 0, none⟩)] #[], .func (.func 38) #[.pointer (some ⟨b, 0, none⟩)] #[], .func (.func 39) #[.pointer (some ⟨b, 0, none⟩)] #[]] rfl rfl 79 _ ra (by kernel_rfl) rfl (by simp [Value.oneCell']) ?_)
  refine bodyPost_ret (v := .agg #[.func (.func 36) #[.pointer (some ⟨b, 0, none⟩)] #[], .func (.func 37) #[.pointer (some ⟨b, 0, none⟩)] #[], .func (.func 38) #[.pointer (some ⟨b, 0, none⟩)] #[], .func (.func 39) #[.pointer (some ⟨b, 0, none⟩)] #[]]) (results_cell_row rfl _ _ w.heap.size 79 #[.func (.func 36) #[.pointer (some ⟨b, 0, none⟩)] #[], .func (.func 37) #[.pointer (some ⟨b, 0, none⟩)] #[], .func (.func 38) #[.pointer (some ⟨b, 0, none⟩)] #[], .func (.func 39) #[.pointer (some ⟨b, 0, none⟩)] #[]] (0, 0) _ (by rfl) (ra.setRow _) Try.underlying79 rfl (by kernel_rfl)) rfl ⟨rfl, ?_⟩
  exact ((Touch.refl _ _).alloc _).setRow (Or.inr (Nat.le_refl _)) _
set_option maxHeartbeats 2000000 in
theorem turn_slave (w : World) (b : Nat) (x : AJ) (h : Ads w b x) (hs : x.state = 1) (hm : x.master = false) : Calls Try.prog 28 #[.pointer (some ⟨b, 0, none⟩)] w fun e w' => e = .returned (.agg #[.func (.func 40) #[.pointer (some ⟨b, 0, none⟩)] #[], .func (.func 41) #[.pointer (some ⟨b, 0, none⟩)] #[], .func (.func 38) #[.pointer (some ⟨b, 0, none⟩)] #[], .nilFunc]) ∧ Touch (fun _ => False) w w' := by
  have c14 : w.cell? ⟨b, 14, none⟩ = some (.int .u8 x.state) := h.cell 14
  have c15 : w.cell? ⟨b, 15, none⟩ = some (.bool x.master) := h.cell 15
  rw [hs] at c14
  rw [hm] at c15
  have hb := h.lt
  have hmf : ∀ (fn : Fn) (first cap : Array Value) (w : World), (Instr.makeFunc fn first cap).run Try.prog w = .ok (.func fn first cap) w := fun _ _ _ _ => rfl
  have ra : Row (w.alloc (.cells #[.nilFunc, .nilFunc, .nilFunc, .nilFunc] 79)) w.heap.size 79 [.nilFunc, .nilFunc, .nilFunc, .nilFunc] := row_new _ _ _
  clear h hs
  go_enter Try.func28, Try.ntmps28
  have rb : Row ((w.alloc (.cells #[.nilFunc, .nilFunc, .nilFunc, .nilFunc] 79)).alloc (.cells #[.nilFunc, .nilFunc, .nilFunc, .nilFunc] 79)) (w.heap.size + 1) 79 [.nilFunc, .nilFunc, .nilFunc, .nilFunc] := by
    have := row_new (w.alloc (.cells #[.nilFunc, .nilFunc, .nilFunc, .nilFunc] 79)) 79 #[.nilFunc, .nilFunc, .nilFunc, .nilFunc]
    simpa using this
  go_upto_region 6 with (refine wpList_store_row rfl 79 (.tmp 3) (.tmp 28) rfl (w.heap.size + 1) #[.func (.func 40) #[.pointer (some ⟨b, 0, none⟩)] #[], .func (.func 41) #[.pointer (some ⟨b, 0, none⟩)] #[], .func (.func 38) #[.pointer (some ⟨b, 0, none⟩)] #[], .nilFunc] rfl rfl 79 _ rb (by kernel_rfl) rfl (by simp [Value.oneCell']) ?_)
  have t1 : Touch (fun _ => False) w (((w.alloc (.cells #[.nilFunc, .nilFunc, .nilFunc, .nilFunc] 79)).alloc (.cells #[.nilFunc, .nilFunc, .nilFunc, .nilFunc] 79)).setRow (w.heap.size + 1) #[.func (.func 40) #[.pointer (some ⟨b, 0, none⟩)] #[], .func (.func 41) #[.pointer (some ⟨b, 0, none⟩)] #[], .func (.func 38) #[.pointer (some ⟨b, 0, none⟩)] #[], .nilFunc]) := (((Touch.refl _ _).alloc _).alloc _).setRow (Or.inr (by omega)) _
  have r1 : Row (((w.alloc (.cells #[.nilFunc, .nilFunc, .nilFunc, .nilFunc] 79)).alloc (.cells #[.nilFunc, .nilFunc, .nilFunc, .nilFunc] 79)).setRow (w.heap.size + 1) #[.func (.func 40) #[.pointer (some ⟨b, 0, none⟩)] #[], .func (.func 41) #[.pointer (some ⟨b, 0, none⟩)] #[], .func (.func 38) #[.pointer (some ⟨b, 0, none⟩)] #[], .nilFunc]) (w.heap.size + 1) 79 [.func (.func 40) #[.pointer (some ⟨b, 0, none⟩)] #[], .func (.func 41) #[.pointer (some ⟨b, 0, none⟩)] #[], .func (.func 38) #[.pointer (some ⟨b, 0, none⟩)] #[], .nilFunc] := rb.setRow _
  have r0 : Row (((w.alloc (.cells #[.nilFunc, .nilFunc, .nilFunc, .nilFunc] 79)).alloc (.cells #[.nilFunc, .nilFunc, .nilFunc, .nilFunc] 79)).setRow (w.heap.size + 1) #[.func (.func 40) #[.pointer (some ⟨b, 0, none⟩)] #[], .func (.func 41) #[.pointer (some ⟨b, 0, none⟩)] #[], .func (.func 38) #[.pointer (some ⟨b, 0, none⟩)] #[], .nilFunc]) w.heap.size 79 [.nilFunc, .nilFunc, .nilFunc, .nilFunc] := by
    have h0 : Row ((w.alloc (.cells #[.nilFunc, .nilFunc, .nilFunc, .nilFunc] 79)).alloc (.cells #[.nilFunc, .nilFunc, .nilFunc, .nilFunc] 79)) w.heap.size 79 [.nilFunc, .nilFunc, .nilFunc, .nilFunc] := ra.keep ((Touch.refl _ _).alloc _)
    have hne : w.heap.size ≠ w.heap.size + 1 := by omega
    exact (setRow_other _ _ _ _ hne).trans h0
  generalize ((w.alloc (.cells #[.nilFunc, .nilFunc, .nilFunc, .nilFunc] 79)).alloc (.cells #[.nilFunc, .nilFunc, .nilFunc, .nilFunc] 79)).setRow (w.heap.size + 1) #[.func (.func 40) #[.pointer (some ⟨b, 0, none⟩)] #[], .func (.func 41) #[.pointer (some ⟨b, 0, none⟩)] #[], .func (.func 38) #[.pointer (some ⟨b, 0, none⟩)] #[], .nilFunc] = w1 at *
  have d15 := t1.cellN c15
  have hf := r1.frozen
  have d3 : w1.cell? ⟨w.heap.size + 1, 3, none⟩ = some .nilFunc := r1.cell 3
  clear ra rb c14 c15
  have r2 := r1
  have q2 := r0
  have t2 := t1
  have L2 := row_range r2
  go_wp2_with (first | refine wpList_load_mid rfl 79 (.tmp 3) rfl (w.heap.size + 1) 0 rfl [.func (.func 40) #[.pointer (some ⟨b, 0, none⟩)] #[], .func (.func 41) #[.pointer (some ⟨b, 0, none⟩)] #[], .func (.func 38) #[.pointer (some ⟨b, 0, none⟩)] #[], .nilFunc] _ L2 Try.underlying79 rfl (by kernel_rfl) ?_ | refine wpList_store_row rfl 79 (.tmp 2) (.tmp 37) rfl w.heap.size #[.func (.func 40) #[.pointer (some ⟨b, 0, none⟩)] #[], .func (.func 41) #[.pointer (some ⟨b, 0, none⟩)] #[], .func (.func 38) #[.pointer (some ⟨b, 0, none⟩)] #[], .nilFunc] rfl rfl 79 _ q2 (by kernel_rfl) rfl (by simp [Value.oneCell']) ?_)
  refine bodyPost_ret (v := .agg #[.func (.func 40) #[.pointer (some ⟨b, 0, none⟩)] #[], .func (.func 41) #[.pointer (some ⟨b, 0, none⟩)] #[], .func (.func 38) #[.pointer (some ⟨b, 0, none⟩)] #[], .nilFunc]) (results_cell_row rfl _ _ w.heap.size 79 #[.func (.func 40) #[.pointer (some ⟨b, 0, none⟩)] #[], .func (.func 41) #[.pointer (some ⟨b, 0, none⟩)] #[], .func (.func 38) #[.pointer (some ⟨b, 0, none⟩)] #[], .nilFunc] (0, 0) _ (by rfl) (q2.setRow _) Try.underlying79 rfl (by kernel_rfl)) rfl ⟨rfl, ?_⟩
  exact t2.setRow (Or.inr (Nat.le_refl _)) _
set_option maxHeartbeats 2000000 in
theorem turn_master (w : World) (b : Nat) (x : AJ) (h : Ads w b x) (hs : x.state = 1) (hm : x.master = true) : Calls Try.prog 28 #[.pointer (some ⟨b, 0, none⟩)] w fun e w' => e = .returned (.agg #[.func (.func 40) #[.pointer (some ⟨b, 0, none⟩)] #[], .func (.func 41) #[.pointer (some ⟨b, 0, none⟩)] #[], .func (.func 38) #[.pointer (some ⟨b, 0, none⟩)] #[], .func (.func 39) #[.pointer (some ⟨b, 0, none⟩)] #[]]) ∧ Touch (fun _ => False) w w' := by
  have c14 : w.cell? ⟨b, 14, none⟩ = some (.int .u8 x.state) := h.cell 14
  have c15 : w.cell? ⟨b, 15, none⟩ = some (.bool x.master) := h.cell 15
  rw [hs] at c14
  rw [hm] at c15
  have hb := h.lt
  have hmf : ∀ (fn : Fn) (first cap : Array Value) (w : World), (Instr.makeFunc fn first cap).run Try.prog w = .ok (.func fn first cap) w := fun _ _ _ _ => rfl
  have ra : Row (w.alloc (.cells #[.nilFunc, .nilFunc, .nilFunc, .nilFunc] 79)) w.heap.size 79 [.nilFunc, .nilFunc, .nilFunc, .nilFunc] := row_new _ _ _
  clear h hs
  go_enter Try.func28, Try.ntmps28
  have rb : Row ((w.alloc (.cells #[.nilFunc, .nilFunc, .nilFunc, .nilFunc] 79)).alloc (.cells #[.nilFunc, .nilFunc, .nilFunc, .nilFunc] 79)) (w.heap.size + 1) 79 [.nilFunc, .nilFunc, .nilFunc, .nilFunc] := by
    have := row_new (w.alloc (.cells #[.nilFunc, .nilFunc, .nilFunc, .nilFunc] 79)) 79 #[.nilFunc, .nilFunc, .nilFunc, .nilFunc]
    simpa using this
  go_upto_region 6 with (refine wpList_store_row rfl 79 (.tmp 3) (.tmp 28) rfl (w.heap.size + 1) #[.func (.func 40) #[.pointer (some ⟨b, 0, none⟩)] #[], .func (.func 41) #[.pointer (some ⟨b, 0, none⟩)] #[], .func (.func 38) #[.pointer (some ⟨b, 0, none⟩)] #[], .nilFunc] rfl rfl 79 _ rb (by kernel_rfl) rfl (by simp [Value.oneCell']) ?_)
  have t1 : Touch (fun _ => False) w (((w.alloc (.cells #[.nilFunc, .nilFunc, .nilFunc, .nilFunc] 79)).alloc (.cells #[.nilFunc, .nilFunc, .nilFunc, .nilFunc] 79)).setRow (w.heap.size + 1) #[.func (.func 40) #[.pointer (some ⟨b, 0, none⟩)] #[], .func (.func 41) #[.pointer (some ⟨b, 0, none⟩)] #[], .func (.func 38) #[.pointer (some ⟨b, 0, none⟩)] #[], .nilFunc]) := (((Touch.refl _ _).alloc _).alloc _).setRow (Or.inr (by omega)) _
  have r1 : Row (((w.alloc (.cells #[.nilFunc, .nilFunc, .nilFunc, .nilFunc] 79)).alloc (.cells #[.nilFunc, .nilFunc, .nilFunc, .nilFunc] 79)).setRow (w.heap.size + 1) #[.func (.func 40) #[.pointer (some ⟨b, 0, none⟩)] #[], .func (.func 41) #[.pointer (some ⟨b, 0, none⟩)] #[], .func (.func 38) #[.pointer (some ⟨b, 0, none⟩)] #[], .nilFunc]) (w.heap.size + 1) 79 [.func (.func 40) #[.pointer (some ⟨b, 0, none⟩)] #[], .func (.func 41) #[.pointer (some ⟨b, 0, none⟩)] #[], .func (.func 38) #[.pointer (some ⟨b, 0, none⟩)] #[], .nilFunc] := rb.setRow _
  have r0 : Row (((w.alloc (.cells #[.nilFunc, .nilFunc, .nilFunc, .nilFunc] 79)).alloc (.cells #[.nilFunc, .nilFunc, .nilFunc, .nilFunc] 79)).setRow (w.heap.size + 1) #[.func (.func 40) #[.pointer (some ⟨b, 0, none⟩)] #[], .func (.func 41) #[.pointer (some ⟨b, 0, none⟩)] #[], .func (.func 38) #[.pointer (some ⟨b, 0, none⟩)] #[], .nilFunc]) w.heap.size 79 [.nilFunc, .nilFunc, .nilFunc, .nilFunc] := by
    have h0 : Row ((w.alloc (.cells #[.nilFunc, .nilFunc, .nilFunc, .nilFunc] 79)).alloc (.cells #[.nilFunc, .nilFunc, .nilFunc, .nilFunc] 79)) w.heap.size 79 [.nilFunc, .nilFunc, .nilFunc, .nilFunc] := ra.keep ((Touch.refl _ _).alloc _)
    have hne : w.heap.size ≠ w.heap.size + 1 := by omega
    exact (setRow_other _ _ _ _ hne).trans h0
  generalize ((w.alloc (.cells #[.nilFunc, .nilFunc, .nilFunc, .nilFunc] 79)).alloc (.cells #[.nilFunc, .nilFunc, .nilFunc, .nilFunc] 79)).setRow (w.heap.size + 1) #[.func (.func 40) #[.pointer (some ⟨b, 0, none⟩)] #[], .func (.func 41) #[.pointer (some ⟨b, 0, none⟩)] #[], .func (.func 38) #[.pointer (some ⟨b, 0, none⟩)] #[], .nilFunc] = w1 at *
  have d15 := t1.cellN c15
  have hf := r1.frozen
  have d3 : w1.cell? ⟨w.heap.size + 1, 3, none⟩ = some .nilFunc := r1.cell 3
  clear ra rb c14 c15
  have hst := fun (a : Addr) (fn : Fn) (f c : Array Value) (m) (w : World) => run_store Try.prog w a (.func fn f c) m rfl
  have r2 : Row (w1.setCell ⟨w.heap.size + 1, 3, none⟩ (.func (.func 39) #[.pointer (some ⟨b, 0, none⟩)] #[])) (w.heap.size + 1) 79 [.func (.func 40) #[.pointer (some ⟨b, 0, none⟩)] #[], .func (.func 41) #[.pointer (some ⟨b, 0, none⟩)] #[], .func (.func 38) #[.pointer (some ⟨b, 0, none⟩)] #[], .func (.func 39) #[.pointer (some ⟨b, 0, none⟩)] #[]] := r1.set 3 _
  have q2 : Row (w1.setCell ⟨w.heap.size + 1, 3, none⟩ (.func (.func 39) #[.pointer (some ⟨b, 0, none⟩)] #[])) w.heap.size 79 [.nilFunc, .nilFunc, .nilFunc, .nilFunc] := r0.other (by show w.heap.size ≠ w.heap.size + 1; omega) _
  have t2 : Touch (fun _ => False) w (w1.setCell ⟨w.heap.size + 1, 3, none⟩ (.func (.func 39) #[.pointer (some ⟨b, 0, none⟩)] #[])) := t1.setCell (p := ⟨w.heap.size + 1, 3, none⟩) (Or.inr (by show w.heap.size ≤ w.heap.size + 1; omega)) _
  have L2 := row_range r2
  go_wp2_with (first | refine wpList_load_mid rfl 79 (.tmp 3) rfl (w.heap.size + 1) 0 rfl [.func (.func 40) #[.pointer (some ⟨b, 0, none⟩)] #[], .func (.func 41) #[.pointer (some ⟨b, 0, none⟩)] #[], .func (.func 38) #[.pointer (some ⟨b, 0, none⟩)] #[], .func (.func 39) #[.pointer (some ⟨b, 0, none⟩)] #[]] _ L2 Try.underlying79 rfl (by kernel_rfl) ?_ | refine wpList_store_row rfl 79 (.tmp 2) (.tmp 37) rfl w.heap.size #[.func (.func 40) #[.pointer (some ⟨b, 0, none⟩)] #[], .func (.func 41) #[.pointer (some ⟨b, 0, none⟩)] #[], .func (.func 38) #[.pointer (some ⟨b, 0, none⟩)] #[], .func (.func 39) #[.pointer (some ⟨b, 0, none⟩)] #[]] rfl rfl 79 _ q2 (by kernel_rfl) rfl (by simp [Value.oneCell']) ?_)
  refine bodyPost_ret (v := .agg #[.func (.func 40) #[.pointer (some ⟨b, 0, none⟩)] #[], .func (.func 41) #[.pointer (some ⟨b, 0, none⟩)] #[], .func (.func 38) #[.pointer (some ⟨b, 0, none⟩)] #[], .func (.func 39) #[.pointer (some ⟨b, 0, none⟩)] #[]]) (results_cell_row rfl _ _ w.heap.size 79 #[.func (.func 40) #[.pointer (some ⟨b, 0, none⟩)] #[], .func (.func 41) #[.pointer (some ⟨b, 0, none⟩)] #[], .func (.func 38) #[.pointer (some ⟨b, 0, none⟩)] #[], .func (.func 39) #[.pointer (some ⟨b, 0, none⟩)] #[]] (0, 0) _ (by rfl) (q2.setRow _) Try.underlying79 rfl (by kernel_rfl)) rfl ⟨rfl, ?_⟩
  exact t2.setRow (Or.inr (Nat.le_refl _)) _
set_option maxHeartbeats 2000000 in
theorem turn_load (w : World) (b : Nat) (x : AJ) (h : Ads w b x) (hs : x.state = 2) : Calls Try.prog 28 #[.pointer (some ⟨b, 0, none⟩)] w fun e w' => e = .returned (.agg #[.func (.func 42) #[.pointer (some ⟨b, 0, none⟩)] #[], .func (.func 41) #[.pointer (some ⟨b, 0, none⟩)] #[], .func (.func 43) #[.pointer (some ⟨b, 0, none⟩)] #[], .func (.func 44) #[.pointer (some ⟨b, 0, none⟩)] #[]]) ∧ Touch (fun _ => False) w w' := by
  have c14 : w.cell? ⟨b, 14, none⟩ = some (.int .u8 x.state) := h.cell 14
  have c15 : w.cell? ⟨b, 15, none⟩ = some (.bool x.master) := h.cell 15
  rw [hs] at c14
  have hb := h.lt
  have hmf : ∀ (fn : Fn) (first cap : Array Value) (w : World), (Instr.makeFunc fn first cap).run Try.prog w = .ok (.func fn first cap) w := fun _ _ _ _ => rfl
  have ra : Row (w.alloc (.cells #[.nilFunc, .nilFunc, .nilFunc, .nilFunc] 79)) w.heap.size 79 [.nilFunc, .nilFunc, .nilFunc, .nilFunc] := row_new _ _ _
  clear h hs
  go_enter Try.func28, Try.ntmps28
  go_wp2_with (refine wpList_store_row rfl 79 (.tmp 2) (.tmp 48) rfl w.heap.size #[.func (.func 42) #[.pointer (some ⟨b, 0, none⟩)] #[], .func (.func 41) #[.pointer (some ⟨b, 0, none⟩)] #[], .func (.func 43) #[.pointer (some ⟨b, 0, none⟩)] #[], .func (.func 44) #[.pointer (some ⟨b, 0, none⟩)] #[]] rfl rfl 79 _ ra (by kernel_rfl) rfl (by simp [Value.oneCell']) ?_)
  refine bodyPost_ret (v := .agg #[.func (.func 42) #[.pointer (some ⟨b, 0, none⟩)] #[], .func (.func 41) #[.pointer (some ⟨b, 0, none⟩)] #[], .func (.func 43) #[.pointer (some ⟨b, 0, none⟩)] #[], .func (.func 44) #[.pointer (some ⟨b, 0, none⟩)] #[]]) (results_cell_row rfl _ _ w.heap.size 79 #[.func (.func 42) #[.pointer (some ⟨b, 0, none⟩)] #[], .func (.func 41) #[.pointer (some ⟨b, 0, none⟩)] #[], .func (.func 43) #[.pointer (some ⟨b, 0, none⟩)] #[], .func (.func 44) #[.pointer (some ⟨b, 0, none⟩)] #[]] (0, 0) _ (by rfl) (ra.setRow _) Try.underlying79 rfl (by kernel_rfl)) rfl ⟨rfl, ?_⟩
  exact ((Touch.refl _ _).alloc _).setRow (Or.inr (Nat.le_refl _)) _
end Go.Proofs.Ytojlnabhaglejaa
