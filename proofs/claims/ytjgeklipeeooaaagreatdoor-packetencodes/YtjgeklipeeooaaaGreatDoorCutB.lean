/- A flaw is thrown and caught: need, and the face of states. -/
import Derived.Test.YtjgeklipeeooaaaGreatDoorStaOut
import Derived.Recover
import Derived.Defers
import Derived.Test.YtjgeklipeeooaaaGreatDoorReader
import Derived.WalkKit
import Derived.Test.YtjgeklipeeooaaaGreatDoorDigBuf
import Derived.Deep.RegionHeld3
import Derived.Deep.DeepCutAuto
namespace Go.Proofs.YtjgeklipeeooaaaGreatDoor
open Go.RowKit
set_option linter.unusedVariables false
set_option maxRecDepth 100000

/-- A flaw on its way. -/
def flawC (e : Int) : List PanicEntry := [{ v := .iface 264 (.int .i64 e), recovered := false }]

theorem need_ok (e : Int) (w : World) : Calls Tryz.prog 189 #[.bool true, .int .i64 e] w fun x w' => x = .returned (.tuple #[]) ∧ w = w' := by
  go_enter Tryz.func189, Tryz.ntmps189
  go_wp2
  go_end0
  exact ⟨rfl, rfl⟩
theorem need_no (e : Int) (w : World) : Calls Tryz.prog 189 #[.bool false, .int .i64 e] w fun x w' => x = .panicked (flawC e) ∧ w = w' := by
  go_enter Tryz.func189, Tryz.ntmps189
  go_wp2
  exact ⟨rfl, rfl, rfl⟩
theorem need_t (t : Bool) (e : Int) (w : World) (ht : t = true) : Calls Tryz.prog 189 #[.bool t, .int .i64 e] w fun x w' => x = .returned (.tuple #[]) ∧ w = w' := by subst ht; exact need_ok e w
theorem need_f (t : Bool) (e : Int) (w : World) (ht : t = false) : Calls Tryz.prog 189 #[.bool t, .int .i64 e] w fun x w' => x = .panicked (flawC e) ∧ w = w' := by subst ht; exact need_no e w
theorem ta_flaw (e : Int) (w : World) : (Instr.typeAssert (.iface 264 (.int .i64 e)) 20 264 true).run Tryz.prog w = .ok (.tuple #[.int .i64 e, .bool true]) w := by kernel_rfl
theorem ta_nil (w : World) : (Instr.typeAssert .nilIface 20 264 true).run Tryz.prog w = .ok (.tuple #[.int .i64 0, .bool false]) w := by kernel_rfl
theorem catchS_flaw (b : Nat) (x e : Int) (w : World) (hc : w.cell? ⟨b, 0, none⟩ = some (.int .i64 x)) (hz : w.frozen? ⟨b, 0, none⟩ = false) :
    CallsD Tryz.prog 196 #[.pointer (some ⟨b, 0, none⟩)] (.panicking (flawC e)) w fun r u' w' =>
      r = .returned (.tuple #[]) ∧ u' = .panicking [{ v := .iface 264 (.int .i64 e), recovered := true }] ∧ w' = w.setCell ⟨b, 0, none⟩ (.int .i64 e) := by
  refine callsD_of_wpS Tryz.func196 rfl fun c₀ cs hu => ?_
  apply wpS_seq
  apply wpS_region
  simp [wpOpsS, go_sem, recoverD, hu, flawC, ta_flaw, Tryz.ntmps196, Exit.thenS]
  apply wpS_seq
  apply wpS_region
  simp [wpOpsS, go_sem, Exit.thenS]
  refine wpS_cond (t := true) (by simp [Act.eval, Array.replicate]) ?_
  simp only [if_true]
  apply wpS_region
  simp [wpOpsS, go_sem, hc, hz, bodyPostS, results, Tryz.results196]
theorem catchS_idle (b : Nat) (w : World) :
    CallsD Tryz.prog 196 #[.pointer (some ⟨b, 0, none⟩)] .returning w fun r u' w' => r = .returned (.tuple #[]) ∧ u' = .returning ∧ w' = w := by
  refine callsD_of_wpS Tryz.func196 rfl fun c₀ cs hu => ?_
  apply wpS_seq
  apply wpS_region
  simp [wpOpsS, go_sem, recoverD, hu, ta_nil, Tryz.ntmps196, Exit.thenS]
  apply wpS_seq
  apply wpS_region
  simp [wpOpsS, go_sem, Exit.thenS]
  refine wpS_cond (t := false) (by simp [Act.eval, Array.replicate]) ?_
  simp only [Bool.false_eq_true, if_false]
  refine wpS_of_wp (wp_skip ?_)
  cases c₀
  simp_all [bodyPostS, results, Tryz.results196]
/-- The face where its function answers. -/
theorem faceS_ok (G : Nat) (cap : Array Value) (hG : ∀ w, (callFunc G cap).run Tryz.prog w = .ok (.enter G cap) w) (w : World) (x0 x1 x2 x3 x4 x5 x6 x7 : Int) (K : Value → World → Prop)
    (h : Calls Tryz.prog G cap ((w.alloc (.cells #[.int .u16 0, .int .u8 0, .int .u8 0, .int .u32 0, .int .u32 0, .int .i32 0, .int .u16 0, .int .u16 0, .slice none 0 0] 95)).alloc (.cells #[.int .i64 0] 41)) fun e w' => ∃ a n c, e = .returned (.agg #[.int .u16 x0, .int .u8 x1, .int .u8 x2, .int .u32 x3, .int .u32 x4, .int .i32 x5, .int .u16 x6, .int .u16 x7, .slice a n c]) ∧ Touch (fun _ => False) ((w.alloc (.cells #[.int .u16 0, .int .u8 0, .int .u8 0, .int .u32 0, .int .u32 0, .int .i32 0, .int .u16 0, .int .u16 0, .slice none 0 0] 95)).alloc (.cells #[.int .i64 0] 41)) w' ∧ K (.slice a n c) w')
    (hK : ∀ a n c w1 w2, K (.slice a n c) w1 → Touch (fun _ => False) ((w.alloc (.cells #[.int .u16 0, .int .u8 0, .int .u8 0, .int .u32 0, .int .u32 0, .int .i32 0, .int .u16 0, .int .u16 0, .slice none 0 0] 95)).alloc (.cells #[.int .i64 0] 41)) w1 → Touch (fun k => k = w.heap.size ∨ k = w.heap.size + 1) w1 w2 → K (.slice a n c) w2) :
    Calls Tryz.prog 186 #[.func (.func G) #[] cap] w fun e w' => ∃ a n c, e = .returned (.tuple #[.agg #[.int .u16 x0, .int .u8 x1, .int .u8 x2, .int .u32 x3, .int .u32 x4, .int .i32 x5, .int .u16 x6, .int .u16 x7, .slice a n c], .int .i64 0]) ∧ Touch (fun _ => False) w w' ∧ K (.slice a n c) w' := by
  have hmf : ∀ (fn : Fn) (first cap : Array Value) (w : World), (Instr.makeFunc fn first cap).run Tryz.prog w = .ok (.func fn first cap) w := fun _ _ _ _ => rfl
  go_enter_defers Tryz.func186, Tryz.ntmps186
  go_wp2_with fail
  refine h.mono ?_
  rintro e w1 ⟨a, n, c, rfl, t1, k1⟩
  have t0 := (((Touch.refl (fun _ => False) w).alloc _).alloc _).trans t1
  have FZ : Hid (∀ i, i < 9 → w1.frozen? ⟨w.heap.size, i, none⟩ = false) := fun i hi => (t1.frozen (p := ⟨w.heap.size, i, none⟩) (by simp; omega) (fun h => h)).trans (by simp [go_sem])
  have fz1 : w1.frozen? ⟨w.heap.size + 1, 0, none⟩ = false := (t1.frozen (p := ⟨w.heap.size + 1, 0, none⟩) (by simp) (fun h => h)).trans (by simp [go_sem])
  have ce1 : w1.cell? ⟨w.heap.size + 1, 0, none⟩ = some (.int .i64 0) := t1.cellN (by simp [go_sem])
  have c0 : w1.cell? ⟨w.heap.size, 0, none⟩ = some (.int .u16 0) := t1.cellN (by simp [go_sem])
  have z0 := FZ.out 0 (by omega)
  have c1 : w1.cell? ⟨w.heap.size, 1, none⟩ = some (.int .u8 0) := t1.cellN (by simp [go_sem])
  have z1 := FZ.out 1 (by omega)
  have c2 : w1.cell? ⟨w.heap.size, 2, none⟩ = some (.int .u8 0) := t1.cellN (by simp [go_sem])
  have z2 := FZ.out 2 (by omega)
  have c3 : w1.cell? ⟨w.heap.size, 3, none⟩ = some (.int .u32 0) := t1.cellN (by simp [go_sem])
  have z3 := FZ.out 3 (by omega)
  have c4 : w1.cell? ⟨w.heap.size, 4, none⟩ = some (.int .u32 0) := t1.cellN (by simp [go_sem])
  have z4 := FZ.out 4 (by omega)
  have c5 : w1.cell? ⟨w.heap.size, 5, none⟩ = some (.int .i32 0) := t1.cellN (by simp [go_sem])
  have z5 := FZ.out 5 (by omega)
  have c6 : w1.cell? ⟨w.heap.size, 6, none⟩ = some (.int .u16 0) := t1.cellN (by simp [go_sem])
  have z6 := FZ.out 6 (by omega)
  have c7 : w1.cell? ⟨w.heap.size, 7, none⟩ = some (.int .u16 0) := t1.cellN (by simp [go_sem])
  have z7 := FZ.out 7 (by omega)
  have c8 : w1.cell? ⟨w.heap.size, 8, none⟩ = some (.slice none 0 0) := t1.cellN (by simp [go_sem])
  have z8 := FZ.out 8 (by omega)
  clear FZ
  have HT : Hid (Touch (fun _ => False) w w1) := t0
  have HK : Hid (K (.slice a n c) w1) := k1
  have HT1 : Hid (Touch (fun _ => False) ((w.alloc (.cells #[.int .u16 0, .int .u8 0, .int .u8 0, .int .u32 0, .int .u32 0, .int .i32 0, .int .u16 0, .int .u16 0, .slice none 0 0] 95)).alloc (.cells #[.int .i64 0] 41)) w1) := t1
  obtain ⟨w2, hw2⟩ : ∃ w2, w2 = (((((((((w1.setCell ⟨w.heap.size, 0, none⟩ (.int .u16 x0)).setCell ⟨w.heap.size, 1, none⟩ (.int .u8 x1)).setCell ⟨w.heap.size, 2, none⟩ (.int .u8 x2)).setCell ⟨w.heap.size, 3, none⟩ (.int .u32 x3)).setCell ⟨w.heap.size, 4, none⟩ (.int .u32 x4)).setCell ⟨w.heap.size, 5, none⟩ (.int .i32 x5)).setCell ⟨w.heap.size, 6, none⟩ (.int .u16 x6)).setCell ⟨w.heap.size, 7, none⟩ (.int .u16 x7)).setCell ⟨w.heap.size, 8, none⟩ (.slice a n c)).setCell ⟨w.heap.size + 1, 0, none⟩ (.int .i64 0) := ⟨_, rfl⟩
  have d0 : w2.cell? ⟨w.heap.size, 0, none⟩ = some (.int .u16 x0) := by rw [hw2]; simp [c0, go_sem]
  have d1 : w2.cell? ⟨w.heap.size, 1, none⟩ = some (.int .u8 x1) := by rw [hw2]; simp [c1, go_sem]
  have d2 : w2.cell? ⟨w.heap.size, 2, none⟩ = some (.int .u8 x2) := by rw [hw2]; simp [c2, go_sem]
  have d3 : w2.cell? ⟨w.heap.size, 3, none⟩ = some (.int .u32 x3) := by rw [hw2]; simp [c3, go_sem]
  have d4 : w2.cell? ⟨w.heap.size, 4, none⟩ = some (.int .u32 x4) := by rw [hw2]; simp [c4, go_sem]
  have d5 : w2.cell? ⟨w.heap.size, 5, none⟩ = some (.int .i32 x5) := by rw [hw2]; simp [c5, go_sem]
  have d6 : w2.cell? ⟨w.heap.size, 6, none⟩ = some (.int .u16 x6) := by rw [hw2]; simp [c6, go_sem]
  have d7 : w2.cell? ⟨w.heap.size, 7, none⟩ = some (.int .u16 x7) := by rw [hw2]; simp [c7, go_sem]
  have d8 : w2.cell? ⟨w.heap.size, 8, none⟩ = some (.slice a n c) := by rw [hw2]; simp [c8, go_sem]
  have de : w2.cell? ⟨w.heap.size + 1, 0, none⟩ = some (.int .i64 0) := by rw [hw2]; simp [ce1, go_sem]
  have HU : Hid (Touch (fun k => k = w.heap.size ∨ k = w.heap.size + 1) w1 w2) := by
    show Touch _ _ _
    rw [hw2]
    exact Touch.setCell (Touch.setCell (Touch.setCell (Touch.setCell (Touch.setCell (Touch.setCell (Touch.setCell (Touch.setCell (Touch.setCell (Touch.setCell (Touch.refl _ _) (Or.inl (Or.inl rfl)) _) (Or.inl (Or.inl rfl)) _) (Or.inl (Or.inl rfl)) _) (Or.inl (Or.inl rfl)) _) (Or.inl (Or.inl rfl)) _) (Or.inl (Or.inl rfl)) _) (Or.inl (Or.inl rfl)) _) (Or.inl (Or.inl rfl)) _) (Or.inl (Or.inl rfl)) _) (Or.inl (Or.inr rfl)) _
  have HW : Hid (w2 = (((((((((w1.setCell ⟨w.heap.size, 0, none⟩ (.int .u16 x0)).setCell ⟨w.heap.size, 1, none⟩ (.int .u8 x1)).setCell ⟨w.heap.size, 2, none⟩ (.int .u8 x2)).setCell ⟨w.heap.size, 3, none⟩ (.int .u32 x3)).setCell ⟨w.heap.size, 4, none⟩ (.int .u32 x4)).setCell ⟨w.heap.size, 5, none⟩ (.int .i32 x5)).setCell ⟨w.heap.size, 6, none⟩ (.int .u16 x6)).setCell ⟨w.heap.size, 7, none⟩ (.int .u16 x7)).setCell ⟨w.heap.size, 8, none⟩ (.slice a n c)).setCell ⟨w.heap.size + 1, 0, none⟩ (.int .i64 0)) := hw2
  clear t0 t1 k1 h hw2
  go_wp2_with fail
  rw [← HW.out]
  clear HW c0 z0 c1 z1 c2 z2 c3 z3 c4 z4 c5 z5 c6 z6 c7 z7 c8 z8 fz1 ce1
  refine leaves_cons (f := 196) (args := #[.pointer (some ⟨w.heap.size + 1, 0, none⟩)]) (by simp) (by simp [go_sem]) ?_
  refine (catchS_idle (w.heap.size + 1) _).mono ?_
  rintro e u' w'' ⟨rfl, rfl, rfl⟩
  refine ⟨.tuple #[.agg #[.int .u16 x0, .int .u8 x1, .int .u8 x2, .int .u32 x3, .int .u32 x4, .int .i32 x5, .int .u16 x6, .int .u16 x7, .slice a n c], .int .i64 0], by simp [results, Tryz.results186, go_sem, d0, d1, d2, d3, d4, d5, d6, d7, d8, de], a, n, c, rfl, ?_, hK _ _ _ _ _ HK.out HT1.out HU.out⟩
  exact HT.out.trans' HU.out (fun i hi hf => by omega)
/-- The face where its function gives up. -/
theorem faceS_no (G : Nat) (cap : Array Value) (hG : ∀ w, (callFunc G cap).run Tryz.prog w = .ok (.enter G cap) w) (w : World) (err : Int)
    (h : Calls Tryz.prog G cap ((w.alloc (.cells #[.int .u16 0, .int .u8 0, .int .u8 0, .int .u32 0, .int .u32 0, .int .i32 0, .int .u16 0, .int .u16 0, .slice none 0 0] 95)).alloc (.cells #[.int .i64 0] 41)) fun e w' => e = .panicked (flawC err) ∧ Touch (fun _ => False) ((w.alloc (.cells #[.int .u16 0, .int .u8 0, .int .u8 0, .int .u32 0, .int .u32 0, .int .i32 0, .int .u16 0, .int .u16 0, .slice none 0 0] 95)).alloc (.cells #[.int .i64 0] 41)) w') :
    Calls Tryz.prog 186 #[.func (.func G) #[] cap] w fun e w' => e = .returned (.tuple #[.agg #[.int .u16 0, .int .u8 0, .int .u8 0, .int .u32 0, .int .u32 0, .int .i32 0, .int .u16 0, .int .u16 0, .slice none 0 0], .int .i64 err]) ∧ Touch (fun _ => False) w w' := by
  have hmf : ∀ (fn : Fn) (first cap : Array Value) (w : World), (Instr.makeFunc fn first cap).run Tryz.prog w = .ok (.func fn first cap) w := fun _ _ _ _ => rfl
  go_enter_defers Tryz.func186, Tryz.ntmps186
  go_wp2_with fail
  refine h.mono ?_
  rintro e w1 ⟨rfl, t1⟩
  have t0 := (((Touch.refl (fun _ => False) w).alloc _).alloc _).trans t1
  have fz1 : w1.frozen? ⟨w.heap.size + 1, 0, none⟩ = false := (t1.frozen (p := ⟨w.heap.size + 1, 0, none⟩) (by simp) (fun h => h)).trans (by simp [go_sem])
  have ce1 : w1.cell? ⟨w.heap.size + 1, 0, none⟩ = some (.int .i64 0) := t1.cellN (by simp [go_sem])
  have c0 : w1.cell? ⟨w.heap.size, 0, none⟩ = some (.int .u16 0) := t1.cellN (by simp [go_sem])
  have c1 : w1.cell? ⟨w.heap.size, 1, none⟩ = some (.int .u8 0) := t1.cellN (by simp [go_sem])
  have c2 : w1.cell? ⟨w.heap.size, 2, none⟩ = some (.int .u8 0) := t1.cellN (by simp [go_sem])
  have c3 : w1.cell? ⟨w.heap.size, 3, none⟩ = some (.int .u32 0) := t1.cellN (by simp [go_sem])
  have c4 : w1.cell? ⟨w.heap.size, 4, none⟩ = some (.int .u32 0) := t1.cellN (by simp [go_sem])
  have c5 : w1.cell? ⟨w.heap.size, 5, none⟩ = some (.int .i32 0) := t1.cellN (by simp [go_sem])
  have c6 : w1.cell? ⟨w.heap.size, 6, none⟩ = some (.int .u16 0) := t1.cellN (by simp [go_sem])
  have c7 : w1.cell? ⟨w.heap.size, 7, none⟩ = some (.int .u16 0) := t1.cellN (by simp [go_sem])
  have c8 : w1.cell? ⟨w.heap.size, 8, none⟩ = some (.slice none 0 0) := t1.cellN (by simp [go_sem])
  refine leaves_cons (f := 196) (args := #[.pointer (some ⟨w.heap.size + 1, 0, none⟩)]) (by simp) (by simp [go_sem]) ?_
  refine (catchS_flaw (w.heap.size + 1) 0 err _ ce1 fz1).mono ?_
  rintro e u' w'' ⟨rfl, rfl, rfl⟩
  refine ⟨.tuple #[.agg #[.int .u16 0, .int .u8 0, .int .u8 0, .int .u32 0, .int .u32 0, .int .i32 0, .int .u16 0, .int .u16 0, .slice none 0 0], .int .i64 err], by simp [results, Tryz.results186, go_sem, c0, c1, c2, c3, c4, c5, c6, c7, c8, ce1], rfl, ?_⟩
  exact Touch.setCell t0 (Or.inr (by simp)) _
end Go.Proofs.YtjgeklipeeooaaaGreatDoor

namespace Go.Proofs.YtjgeklipeeooaaaGreatDoor
open Go.RowKit
set_option linter.unusedVariables false
set_option maxRecDepth 100000

/-- A world in which nothing of w has turned. -/
structure Aft (w0 : World) where
  w : World
  gr : Touch (fun _ => False) w0 w

theorem wp_region_aft {P : Program} {id : Nat} {Q : Exit → Act → World → Prop} {a : Act} {w : World} {l : List Oper} (hm : P.follows .mixedOrders = true) (hB : Region.lexB .any l.toArray = true)
    (h : wpQuiet P l.toArray (fun w' => ∃ u : Aft w, w' = u.w) (fun a' => ∀ w', (∃ u : Aft w, w' = u.w) → Q .normal a' w') l a) : (Code.region id l.toArray true).wp P Q a w :=
  wp_region_quiet (C := fun w' => ∃ u : Aft w, w' = u.w) hm hB ⟨⟨_, (Touch.refl _ w).drew⟩, rfl⟩ (by simpa using h)
theorem Aft.call {P : Program} {f : FuncId} {args : Array Value} {w : World} {u : Aft w} {v : Value} (h : Calls P f args u.w fun e w' => e = .returned v ∧ Touch (fun _ => False) u.w w') :
    Calls P f args u.w fun e w'' => e = .returned v ∧ ∃ u' : Aft w, w'' = u'.w :=
  h.mono fun _ w'' ⟨he, hg⟩ => ⟨he, ⟨w'', u.gr.trans hg⟩, rfl⟩
theorem aft_cell {w : World} {p : Addr} {v : Value} (h : w.cell? p = some v) : ∀ u : Aft w, u.w.cell? p = some v :=
  fun u => u.gr.cellN h
end Go.Proofs.YtjgeklipeeooaaaGreatDoor

namespace Go.Proofs.YtjgeklipeeooaaaGreatDoor
open Go.RowKit
set_option linter.unusedVariables false
set_option maxRecDepth 100000

theorem size_any (h : HV) (a : Option Addr) (n c : Nat) (w : World) (hn : n ≤ 140737488355328) : Calls Tryz.prog 182 #[h.sv (.slice a n c)] w fun e w' => e = .returned (.int .i64 (20 + (n : Int))) ∧ Touch (fun _ => False) w w' := by
  have hw : wrap64 (20 + (n : Int)) = 20 + (n : Int) := by unfold wrap64; omega
  unfold HV.sv
  go_enter Tryz.func182, Tryz.ntmps182
  go_wp2
  go_ret
  exact ⟨rfl, (Touch.refl _ w).alloc _⟩
end Go.Proofs.YtjgeklipeeooaaaGreatDoor

namespace Go.Proofs.YtjgeklipeeooaaaGreatDoor
open Go.RowKit
set_option linter.unusedVariables false
set_option maxRecDepth 100000

theorem cap_of {w : World} {g off c n : Nat} {rs : List Int} (h : RowAt w (.slice (some ⟨g, off, none⟩) n c) rs) : n = rs.length ∧ n ≤ c ∧ c ≤ maxLen := by
  rcases h with ⟨h, _⟩ | ⟨g', off', c', h, h1, h2, _⟩
  · cases h
  · cases h; exact ⟨rfl, h1, h2⟩
theorem drop_row {w : World} {g off c n : Nat} {rs : List Int} (h : RowAt w (.slice (some ⟨g, off, none⟩) n c) rs) (m : Nat) (hm : m ≤ n) : RowAt w (.slice (some ⟨g, off + m, none⟩) (n - m) (c - m)) (rs.drop m) := by
  rcases h with ⟨h, _⟩ | ⟨g', off', c', h, h1, h2, h3⟩
  · cases h
  · cases h
    refine Or.inr ⟨g, off + m, c - m, by simp, by simp; omega, by omega, fun j u hj => ?_⟩
    rw [Nat.add_assoc]
    refine h3 (m + j) u ?_
    simpa [bytesOf, List.getElem?_drop] using hj
theorem take_row {w : World} {g off c n : Nat} {rs : List Int} (h : RowAt w (.slice (some ⟨g, off, none⟩) n c) rs) (m : Nat) (hm : m ≤ n) : RowAt w (.slice (some ⟨g, off, none⟩) m c) (rs.take m) := by
  rcases h with ⟨h, _⟩ | ⟨g', off', c', h, h1, h2, h3⟩
  · cases h
  · cases h
    refine Or.inr ⟨g, off, c, by simp; omega, by simp; omega, by omega, fun j u hj => ?_⟩
    refine h3 j u ?_
    simp only [bytesOf, List.getElem?_map, List.getElem?_take] at hj ⊢
    split at hj
    · exact hj
    · simp at hj
theorem empty_arg (w : World) (ad : Addr) (c : Nat) (hc : c ≤ maxLen) : ArgAt w (.slice (some ad) 0 c) [] := Or.inr ⟨ad, c, rfl, Nat.zero_le _, hc, fun j u hj => by simp [bytesOf] at hj⟩

/-- b[i:j], of a row that is not empty. -/
theorem cut_mid {w : World} {va : Option Addr} {vc n : Nat} {rs : List Int} (h : ArgAt w (.slice va n vc) rs) (hn : n = rs.length) (hp : 0 < n) (i j : Nat) (hij : i ≤ j) (hj : j ≤ n) :
    ∃ v, (∀ w, Sem.run Tryz.prog (Instr.slice 40 (.slice va n vc) (some (.int .i64 (i : Int))) (some (.int .i64 (j : Int))) none) w = .ok v w) ∧ ArgAt w v ((rs.drop i).take (j - i)) := by
  subst hn
  have hr := h.row hp
  obtain ⟨ga, oa, rfl⟩ := rowAt_some hr hp
  obtain ⟨-, hc1, hc2⟩ := cap_of hr
  have hc2' : (vc : Int) ≤ 9223372036854775807 := by unfold maxLen at hc2; omega
  have h0 : (0 : Int) ≤ (i : Int) := by omega
  have h0' : (0 : Int) ≤ (j : Int) := by omega
  have h1 : (j : Int) ≤ (vc : Int) := by omega
  have h2 : (i : Int) ≤ (j : Int) := by omega
  by_cases hz : vc = i
  · refine ⟨.slice (some ⟨ga, oa, none⟩) (j - i) (vc - i), fun w => ?_, ?_⟩
    · simp [Instr.slice, Instr.sliceBounds, Instr.sliceBound, go_sem, h0, h0', hz]
      rw [if_pos (by omega), if_pos (by omega)]
    · have : j - i = 0 := by omega
      rw [this, List.take_zero]
      exact empty_arg w _ _ (by unfold maxLen; omega)
  · refine ⟨.slice (some ⟨ga, oa + i, none⟩) (j - i) (vc - i), fun w => ?_, (take_row (drop_row hr i (by omega)) (j - i) (by omega)).arg⟩
    simp [Instr.slice, Instr.sliceBounds, Instr.sliceBound, go_sem, h0, h0', hz]
    rw [if_pos (by omega), if_pos hij]
/-- b[i:]. -/
theorem cut_from {w : World} {va : Option Addr} {vc n : Nat} {rs : List Int} (h : ArgAt w (.slice va n vc) rs) (hn : n = rs.length) (hp : 0 < n) (i : Nat) (hi : i ≤ n) :
    ∃ v, (∀ w, Sem.run Tryz.prog (Instr.slice 40 (.slice va n vc) (some (.int .i64 (i : Int))) none none) w = .ok v w) ∧ ArgAt w v (rs.drop i) := by
  subst hn
  have hr := h.row hp
  obtain ⟨ga, oa, rfl⟩ := rowAt_some hr hp
  obtain ⟨-, hc1, hc2⟩ := cap_of hr
  have hc2' : (vc : Int) ≤ 9223372036854775807 := by unfold maxLen at hc2; omega
  have h0 : (0 : Int) ≤ (i : Int) := by omega
  have h2 : (i : Int) ≤ (rs.length : Int) := by omega
  have h3 : (rs.length : Int) ≤ (vc : Int) := by omega
  by_cases hz : vc = i
  · refine ⟨.slice (some ⟨ga, oa, none⟩) (rs.length - i) (vc - i), fun w => ?_, ?_⟩
    · simp [Instr.slice, Instr.sliceBounds, Instr.sliceBound, go_sem, h0, hz]
      omega
    · have : rs.length - i = 0 := by omega
      rw [this, List.drop_eq_nil_of_le (by omega)]
      exact empty_arg w _ _ (by unfold maxLen; omega)
  · refine ⟨.slice (some ⟨ga, oa + i, none⟩) (rs.length - i) (vc - i), fun w => ?_, (drop_row hr i hi).arg⟩
    simp [Instr.slice, Instr.sliceBounds, Instr.sliceBound, go_sem, h0, hz]
    omega
/-- b[:j]. -/
theorem cut_to {w : World} {va : Option Addr} {vc n : Nat} {rs : List Int} (h : ArgAt w (.slice va n vc) rs) (hn : n = rs.length) (hp : 0 < n) (j : Nat) (hj : j ≤ n) :
    ∃ v, (∀ w, Sem.run Tryz.prog (Instr.slice 40 (.slice va n vc) none (some (.int .i64 (j : Int))) none) w = .ok v w) ∧ ArgAt w v (rs.take j) := by
  subst hn
  have hr := h.row hp
  obtain ⟨ga, oa, rfl⟩ := rowAt_some hr hp
  obtain ⟨-, hc1, hc2⟩ := cap_of hr
  have hc2' : (vc : Int) ≤ 9223372036854775807 := by unfold maxLen at hc2; omega
  have h0 : (0 : Int) ≤ (j : Int) := by omega
  have h1 : (j : Int) ≤ (vc : Int) := by omega
  have hne : ¬ vc = 0 := by omega
  refine ⟨.slice (some ⟨ga, oa, none⟩) j vc, fun w => ?_, (take_row hr j hj).arg⟩
  simp [Instr.slice, Instr.sliceBounds, Instr.sliceBound, go_sem, h0]
  intro hh; omega
end Go.Proofs.YtjgeklipeeooaaaGreatDoor
