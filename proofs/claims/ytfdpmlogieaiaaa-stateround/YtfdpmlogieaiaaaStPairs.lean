/- Contracts: pairs, pairOf. -/
import Derived.Test.YtfdpmlogieaiaaaStFace
import Derived.Test.YtfdpmlogieaiaaaRowB
import Derived.Test.YtfdpmlogieaiaaaStSeal
import Derived.Deep.DeepCutAuto
namespace Go.Proofs.Ytfdpmlogieaiaaa
open Go.RowKit
set_option linter.unusedVariables false
set_option maxRecDepth 100000

/-- The table's cells. -/
def prsV : List Value := [.nilFunc,
  .nilFunc,
  .func (.func 64) #[] #[],
  .func (.func 65) #[] #[],
  .func (.func 66) #[] #[],
  .func (.func 67) #[] #[],
  .func (.func 68) #[] #[],
  .func (.func 69) #[] #[],
  .func (.func 70) #[] #[],
  .func (.func 71) #[] #[],
  .func (.func 60) #[] #[],
  .func (.func 61) #[] #[],
  .nilFunc,
  .nilFunc,
  .func (.func 60) #[] #[],
  .func (.func 61) #[] #[],
  .nilFunc,
  .nilFunc,
  .func (.func 62) #[] #[],
  .func (.func 63) #[] #[],
  .func (.func 62) #[] #[],
  .func (.func 63) #[] #[],
  .func (.func 62) #[] #[],
  .func (.func 63) #[] #[]]
theorem Try.info24 : (Try.prog.info? 92).map (·.size) = some 24 := by kernel_rfl
theorem oneCell_prsV : prsV.toArray.all (·.oneCell') = true := by decide +kernel
set_option maxHeartbeats 1000000 in
theorem pairs_any (w : World) : Calls Try.prog 51 #[] w fun e w' => e = .returned (.agg prsV.toArray) ∧ Touch (fun _ => False) w w' := by
  go_enter Try.func51, Try.ntmps51
  have hsf : ∀ (w : World) (a : Addr) (f : Fn) (x y : Array Value) (m : Mode), (store a (.func f x y) m).run Try.prog w = stored Try.prog w a (.func f x y) m := fun w a f x y m => run_store Try.prog w a _ m rfl
  go_upto_region 3 with fail
  have HRW : Hid (Row (((w.alloc (.cells #[.nilFunc, .nilFunc, .nilFunc, .nilFunc, .nilFunc, .nilFunc, .nilFunc, .nilFunc, .nilFunc, .nilFunc, .nilFunc, .nilFunc, .nilFunc, .nilFunc, .nilFunc, .nilFunc, .nilFunc, .nilFunc, .nilFunc, .nilFunc, .nilFunc, .nilFunc, .nilFunc, .nilFunc] 92)).alloc (.cells #[.func (.func 60) #[] #[], .func (.func 61) #[] #[]] 64)).alloc (.cells #[.func (.func 62) #[] #[], .func (.func 63) #[] #[]] 64)) w.heap.size 92 [.nilFunc, .nilFunc, .nilFunc, .nilFunc, .nilFunc, .nilFunc, .nilFunc, .nilFunc, .nilFunc, .nilFunc, .nilFunc, .nilFunc, .nilFunc, .nilFunc, .nilFunc, .nilFunc, .nilFunc, .nilFunc, .nilFunc, .nilFunc, .nilFunc, .nilFunc, .nilFunc, .nilFunc]) := (row_new w 92 #[.nilFunc, .nilFunc, .nilFunc, .nilFunc, .nilFunc, .nilFunc, .nilFunc, .nilFunc, .nilFunc, .nilFunc, .nilFunc, .nilFunc, .nilFunc, .nilFunc, .nilFunc, .nilFunc, .nilFunc, .nilFunc, .nilFunc, .nilFunc, .nilFunc, .nilFunc, .nilFunc, .nilFunc]).keep (((Touch.refl _ _).alloc _).alloc _)
  have HTW : Hid (Touch (fun _ => False) w (((w.alloc (.cells #[.nilFunc, .nilFunc, .nilFunc, .nilFunc, .nilFunc, .nilFunc, .nilFunc, .nilFunc, .nilFunc, .nilFunc, .nilFunc, .nilFunc, .nilFunc, .nilFunc, .nilFunc, .nilFunc, .nilFunc, .nilFunc, .nilFunc, .nilFunc, .nilFunc, .nilFunc, .nilFunc, .nilFunc] 92)).alloc (.cells #[.func (.func 60) #[] #[], .func (.func 61) #[] #[]] 64)).alloc (.cells #[.func (.func 62) #[] #[], .func (.func 63) #[] #[]] 64))) := ((((Touch.refl _ w).alloc _).alloc _).alloc _)
  have o0 : (((w.alloc (.cells #[.nilFunc, .nilFunc, .nilFunc, .nilFunc, .nilFunc, .nilFunc, .nilFunc, .nilFunc, .nilFunc, .nilFunc, .nilFunc, .nilFunc, .nilFunc, .nilFunc, .nilFunc, .nilFunc, .nilFunc, .nilFunc, .nilFunc, .nilFunc, .nilFunc, .nilFunc, .nilFunc, .nilFunc] 92)).alloc (.cells #[.func (.func 60) #[] #[], .func (.func 61) #[] #[]] 64)).alloc (.cells #[.func (.func 62) #[] #[], .func (.func 63) #[] #[]] 64)).cell? ⟨w.heap.size + 1, 0, none⟩ = some (.func (.func 60) #[] #[]) := by simp [go_sem]
  have o1 : (((w.alloc (.cells #[.nilFunc, .nilFunc, .nilFunc, .nilFunc, .nilFunc, .nilFunc, .nilFunc, .nilFunc, .nilFunc, .nilFunc, .nilFunc, .nilFunc, .nilFunc, .nilFunc, .nilFunc, .nilFunc, .nilFunc, .nilFunc, .nilFunc, .nilFunc, .nilFunc, .nilFunc, .nilFunc, .nilFunc] 92)).alloc (.cells #[.func (.func 60) #[] #[], .func (.func 61) #[] #[]] 64)).alloc (.cells #[.func (.func 62) #[] #[], .func (.func 63) #[] #[]] 64)).cell? ⟨w.heap.size + 1, 1, none⟩ = some (.func (.func 61) #[] #[]) := by simp [go_sem]
  have p0 : (((w.alloc (.cells #[.nilFunc, .nilFunc, .nilFunc, .nilFunc, .nilFunc, .nilFunc, .nilFunc, .nilFunc, .nilFunc, .nilFunc, .nilFunc, .nilFunc, .nilFunc, .nilFunc, .nilFunc, .nilFunc, .nilFunc, .nilFunc, .nilFunc, .nilFunc, .nilFunc, .nilFunc, .nilFunc, .nilFunc] 92)).alloc (.cells #[.func (.func 60) #[] #[], .func (.func 61) #[] #[]] 64)).alloc (.cells #[.func (.func 62) #[] #[], .func (.func 63) #[] #[]] 64)).cell? ⟨w.heap.size + 1 + 1, 0, none⟩ = some (.func (.func 62) #[] #[]) := by simp [go_sem]
  have p1 : (((w.alloc (.cells #[.nilFunc, .nilFunc, .nilFunc, .nilFunc, .nilFunc, .nilFunc, .nilFunc, .nilFunc, .nilFunc, .nilFunc, .nilFunc, .nilFunc, .nilFunc, .nilFunc, .nilFunc, .nilFunc, .nilFunc, .nilFunc, .nilFunc, .nilFunc, .nilFunc, .nilFunc, .nilFunc, .nilFunc] 92)).alloc (.cells #[.func (.func 60) #[] #[], .func (.func 61) #[] #[]] 64)).alloc (.cells #[.func (.func 62) #[] #[], .func (.func 63) #[] #[]] 64)).cell? ⟨w.heap.size + 1 + 1, 1, none⟩ = some (.func (.func 63) #[] #[]) := by simp [go_sem]
  generalize ((w.alloc (.cells #[.nilFunc, .nilFunc, .nilFunc, .nilFunc, .nilFunc, .nilFunc, .nilFunc, .nilFunc, .nilFunc, .nilFunc, .nilFunc, .nilFunc, .nilFunc, .nilFunc, .nilFunc, .nilFunc, .nilFunc, .nilFunc, .nilFunc, .nilFunc, .nilFunc, .nilFunc, .nilFunc, .nilFunc] 92)).alloc (.cells #[.func (.func 60) #[] #[], .func (.func 61) #[] #[]] 64)).alloc (.cells #[.func (.func 62) #[] #[], .func (.func 63) #[] #[]] 64) = w1 at *
  clear hsf
  go_wp2_with (refine wpList_store_row rfl 92 (.tmp 0) (.tmp 14) rfl w.heap.size prsV.toArray rfl rfl 92 _ HRW.out (by rw [Try.info24]; rfl) rfl oneCell_prsV ?_)
  refine bodyPost_ret (results_cell_row Try.results51 _ _ w.heap.size 92 prsV.toArray (0, 0) _ rfl (HRW.out.setRow prsV.toArray) Try.underlying92 rfl (by rw [Try.info24]; rfl)) rfl ?_
  exact ⟨rfl, HTW.out.setRow (Or.inr (Nat.le_refl _)) _⟩
set_option maxHeartbeats 1000000 in
theorem pairOf_0 (w : World) : Calls Try.prog 29 #[.int .u8 0] w fun e w' => e = .panicked (flawC 21) ∧ Touch (fun _ => False) w w' := by
  have hsf : ∀ (w : World) (a : Addr) (f : Fn) (x y : Array Value) (m : Mode), (store a (.func f x y) m).run Try.prog w = stored Try.prog w a (.func f x y) m := fun w a f x y m => run_store Try.prog w a _ m rfl
  have hnq : ∀ (w : World) (F : Nat), (binOp BinOp.neq 62 (.func (.func F) #[] #[]) .nilFunc).run Try.prog w = .ok (.bool true) w := fun _ _ => by kernel_rfl
  have hnn : ∀ (w : World), (binOp BinOp.neq 62 .nilFunc .nilFunc).run Try.prog w = .ok (.bool false) w := fun _ => by kernel_rfl
  go_enter Try.func29, Try.ntmps29
  go_wp2_with fail
  refine Calls.mono (pairs_any _) ?_
  rintro e w1 ⟨rfl, t1⟩
  have T1 : Hid (Touch (fun _ => False) w w1) := ((Touch.refl _ w).alloc _).trans t1
  have R1 : Hid (Room w1 w.heap.size 2) := (Room.new w #[.nilFunc, .nilFunc] 64).keep t1
  have hg : w.heap.size < w1.heap.size := by have := t1.size; simp at this; omega
  clear t1
  go_upto_region 2 with (refine wpList_store_row rfl 92 (.tmp 3) (.tmp 4) rfl w1.heap.size prsV.toArray rfl rfl 92 _ (row_new w1 92 _) (by rw [Try.info24]; rfl) rfl oneCell_prsV ?_)
  have RW : Hid (Row ((w1.alloc (.cells #[.nilFunc, .nilFunc, .nilFunc, .nilFunc, .nilFunc, .nilFunc, .nilFunc, .nilFunc, .nilFunc, .nilFunc, .nilFunc, .nilFunc, .nilFunc, .nilFunc, .nilFunc, .nilFunc, .nilFunc, .nilFunc, .nilFunc, .nilFunc, .nilFunc, .nilFunc, .nilFunc, .nilFunc] 92)).setRow w1.heap.size prsV.toArray) w1.heap.size 92 prsV) := (row_new w1 92 _).setRow prsV.toArray
  have T2 : Hid (Touch (fun _ => False) w ((w1.alloc (.cells #[.nilFunc, .nilFunc, .nilFunc, .nilFunc, .nilFunc, .nilFunc, .nilFunc, .nilFunc, .nilFunc, .nilFunc, .nilFunc, .nilFunc, .nilFunc, .nilFunc, .nilFunc, .nilFunc, .nilFunc, .nilFunc, .nilFunc, .nilFunc, .nilFunc, .nilFunc, .nilFunc, .nilFunc] 92)).setRow w1.heap.size prsV.toArray)) := (T1.out.alloc _).setRow (Or.inr (by omega)) _
  have R2 : Hid (Room ((w1.alloc (.cells #[.nilFunc, .nilFunc, .nilFunc, .nilFunc, .nilFunc, .nilFunc, .nilFunc, .nilFunc, .nilFunc, .nilFunc, .nilFunc, .nilFunc, .nilFunc, .nilFunc, .nilFunc, .nilFunc, .nilFunc, .nilFunc, .nilFunc, .nilFunc, .nilFunc, .nilFunc, .nilFunc, .nilFunc] 92)).setRow w1.heap.size prsV.toArray) w.heap.size 2) := (R1.out.keep ((Touch.refl _ _).alloc _)).touch (Touch.setRow (F := fun k => k = w1.heap.size) (Touch.refl _ _) (Or.inl rfl) _) (by show ¬ w.heap.size = w1.heap.size; omega)
  have hne1 : ¬ w.heap.size = w1.heap.size := by omega
  have hne2 : ¬ w1.heap.size = w.heap.size := by omega
  generalize (w1.alloc (.cells #[.nilFunc, .nilFunc, .nilFunc, .nilFunc, .nilFunc, .nilFunc, .nilFunc, .nilFunc, .nilFunc, .nilFunc, .nilFunc, .nilFunc, .nilFunc, .nilFunc, .nilFunc, .nilFunc, .nilFunc, .nilFunc, .nilFunc, .nilFunc, .nilFunc, .nilFunc, .nilFunc, .nilFunc] 92)).setRow w1.heap.size prsV.toArray = w2 at *
  clear R1 T1
  have hc1 : w2.cell? ⟨w1.heap.size, 1, none⟩ = some .nilFunc := RW.out.cell 1
  go_wp2_with fail
  refine Calls.mono (need_f _ 21 _ rfl) ?_
  rintro e w3 ⟨rfl, rfl⟩
  exact ⟨rfl, rfl, T2.out⟩

set_option maxHeartbeats 1000000 in
theorem pairOf_1 (w : World) : Calls Try.prog 29 #[.int .u8 1] w fun e w' => e = .returned (.agg #[.func (.func 64) #[] #[], .func (.func 65) #[] #[]]) ∧ Touch (fun _ => False) w w' := by
  have hsf : ∀ (w : World) (a : Addr) (f : Fn) (x y : Array Value) (m : Mode), (store a (.func f x y) m).run Try.prog w = stored Try.prog w a (.func f x y) m := fun w a f x y m => run_store Try.prog w a _ m rfl
  have hnq : ∀ (w : World) (F : Nat), (binOp BinOp.neq 62 (.func (.func F) #[] #[]) .nilFunc).run Try.prog w = .ok (.bool true) w := fun _ _ => by kernel_rfl
  have hnn : ∀ (w : World), (binOp BinOp.neq 62 .nilFunc .nilFunc).run Try.prog w = .ok (.bool false) w := fun _ => by kernel_rfl
  go_enter Try.func29, Try.ntmps29
  go_wp2_with fail
  refine Calls.mono (pairs_any _) ?_
  rintro e w1 ⟨rfl, t1⟩
  have T1 : Hid (Touch (fun _ => False) w w1) := ((Touch.refl _ w).alloc _).trans t1
  have R1 : Hid (Room w1 w.heap.size 2) := (Room.new w #[.nilFunc, .nilFunc] 64).keep t1
  have hg : w.heap.size < w1.heap.size := by have := t1.size; simp at this; omega
  clear t1
  go_upto_region 2 with (refine wpList_store_row rfl 92 (.tmp 3) (.tmp 4) rfl w1.heap.size prsV.toArray rfl rfl 92 _ (row_new w1 92 _) (by rw [Try.info24]; rfl) rfl oneCell_prsV ?_)
  have RW : Hid (Row ((w1.alloc (.cells #[.nilFunc, .nilFunc, .nilFunc, .nilFunc, .nilFunc, .nilFunc, .nilFunc, .nilFunc, .nilFunc, .nilFunc, .nilFunc, .nilFunc, .nilFunc, .nilFunc, .nilFunc, .nilFunc, .nilFunc, .nilFunc, .nilFunc, .nilFunc, .nilFunc, .nilFunc, .nilFunc, .nilFunc] 92)).setRow w1.heap.size prsV.toArray) w1.heap.size 92 prsV) := (row_new w1 92 _).setRow prsV.toArray
  have T2 : Hid (Touch (fun _ => False) w ((w1.alloc (.cells #[.nilFunc, .nilFunc, .nilFunc, .nilFunc, .nilFunc, .nilFunc, .nilFunc, .nilFunc, .nilFunc, .nilFunc, .nilFunc, .nilFunc, .nilFunc, .nilFunc, .nilFunc, .nilFunc, .nilFunc, .nilFunc, .nilFunc, .nilFunc, .nilFunc, .nilFunc, .nilFunc, .nilFunc] 92)).setRow w1.heap.size prsV.toArray)) := (T1.out.alloc _).setRow (Or.inr (by omega)) _
  have R2 : Hid (Room ((w1.alloc (.cells #[.nilFunc, .nilFunc, .nilFunc, .nilFunc, .nilFunc, .nilFunc, .nilFunc, .nilFunc, .nilFunc, .nilFunc, .nilFunc, .nilFunc, .nilFunc, .nilFunc, .nilFunc, .nilFunc, .nilFunc, .nilFunc, .nilFunc, .nilFunc, .nilFunc, .nilFunc, .nilFunc, .nilFunc] 92)).setRow w1.heap.size prsV.toArray) w.heap.size 2) := (R1.out.keep ((Touch.refl _ _).alloc _)).touch (Touch.setRow (F := fun k => k = w1.heap.size) (Touch.refl _ _) (Or.inl rfl) _) (by show ¬ w.heap.size = w1.heap.size; omega)
  have hne1 : ¬ w.heap.size = w1.heap.size := by omega
  have hne2 : ¬ w1.heap.size = w.heap.size := by omega
  generalize (w1.alloc (.cells #[.nilFunc, .nilFunc, .nilFunc, .nilFunc, .nilFunc, .nilFunc, .nilFunc, .nilFunc, .nilFunc, .nilFunc, .nilFunc, .nilFunc, .nilFunc, .nilFunc, .nilFunc, .nilFunc, .nilFunc, .nilFunc, .nilFunc, .nilFunc, .nilFunc, .nilFunc, .nilFunc, .nilFunc] 92)).setRow w1.heap.size prsV.toArray = w2 at *
  clear R1 T1
  have hc0 : w2.cell? ⟨w1.heap.size, 2, none⟩ = some (.func (.func 64) #[] #[]) := RW.out.cell 2
  have hc1 : w2.cell? ⟨w1.heap.size, 3, none⟩ = some (.func (.func 65) #[] #[]) := RW.out.cell 3
  go_wp2_with fail
  refine Calls.mono (need_t _ 21 _ rfl) ?_
  rintro e w3 ⟨rfl, rfl⟩
  obtain ⟨zz0, zc0, zf0⟩ := R2.out 0 (by omega)
  obtain ⟨zz1, zc1, zf1⟩ := R2.out 1 (by omega)
  obtain ⟨wz, hwz⟩ : ∃ wz, wz = ((w2.setCell ⟨w.heap.size, 0, none⟩ (.func (.func 64) #[] #[])).setCell ⟨w.heap.size, 1, none⟩ (.func (.func 65) #[] #[])) := ⟨_, rfl⟩
  have zd0 : wz.cell? ⟨w.heap.size, 0, none⟩ = some (.func (.func 64) #[] #[]) := by rw [hwz]; simp [zc0, go_sem]
  have zd1 : wz.cell? ⟨w.heap.size, 1, none⟩ = some (.func (.func 65) #[] #[]) := by rw [hwz]; simp [zc1, go_sem]
  have HUz : Hid (Touch (fun k => k = w.heap.size) w2 wz) := by show Touch _ _ _; rw [hwz]; refine Touch.setCell (F := fun k => k = w.heap.size) (p := ⟨w.heap.size, 1, none⟩) ?_ (Or.inl rfl) _; refine Touch.setCell (F := fun k => k = w.heap.size) (p := ⟨w.heap.size, 0, none⟩) ?_ (Or.inl rfl) _; exact Touch.refl _ _
  have HWz : Hid (wz = ((w2.setCell ⟨w.heap.size, 0, none⟩ (.func (.func 64) #[] #[])).setCell ⟨w.heap.size, 1, none⟩ (.func (.func 65) #[] #[]))) := hwz
  clear hwz
  go_wp2_with fail
  rw [← HWz.out]
  clear HWz zc0 zf0 zc1 zf1
  refine bodyPost_ret (v := .agg #[.func (.func 64) #[] #[], .func (.func 65) #[] #[]]) (by simp [results, Try.results29, go_sem, zd0, zd1]) rfl ?_
  exact ⟨rfl, T2.out.trans' HUz.out (fun i hi e => by omega)⟩

set_option maxHeartbeats 1000000 in
theorem pairOf_2 (w : World) : Calls Try.prog 29 #[.int .u8 2] w fun e w' => e = .returned (.agg #[.func (.func 66) #[] #[], .func (.func 67) #[] #[]]) ∧ Touch (fun _ => False) w w' := by
  have hsf : ∀ (w : World) (a : Addr) (f : Fn) (x y : Array Value) (m : Mode), (store a (.func f x y) m).run Try.prog w = stored Try.prog w a (.func f x y) m := fun w a f x y m => run_store Try.prog w a _ m rfl
  have hnq : ∀ (w : World) (F : Nat), (binOp BinOp.neq 62 (.func (.func F) #[] #[]) .nilFunc).run Try.prog w = .ok (.bool true) w := fun _ _ => by kernel_rfl
  have hnn : ∀ (w : World), (binOp BinOp.neq 62 .nilFunc .nilFunc).run Try.prog w = .ok (.bool false) w := fun _ => by kernel_rfl
  go_enter Try.func29, Try.ntmps29
  go_wp2_with fail
  refine Calls.mono (pairs_any _) ?_
  rintro e w1 ⟨rfl, t1⟩
  have T1 : Hid (Touch (fun _ => False) w w1) := ((Touch.refl _ w).alloc _).trans t1
  have R1 : Hid (Room w1 w.heap.size 2) := (Room.new w #[.nilFunc, .nilFunc] 64).keep t1
  have hg : w.heap.size < w1.heap.size := by have := t1.size; simp at this; omega
  clear t1
  go_upto_region 2 with (refine wpList_store_row rfl 92 (.tmp 3) (.tmp 4) rfl w1.heap.size prsV.toArray rfl rfl 92 _ (row_new w1 92 _) (by rw [Try.info24]; rfl) rfl oneCell_prsV ?_)
  have RW : Hid (Row ((w1.alloc (.cells #[.nilFunc, .nilFunc, .nilFunc, .nilFunc, .nilFunc, .nilFunc, .nilFunc, .nilFunc, .nilFunc, .nilFunc, .nilFunc, .nilFunc, .nilFunc, .nilFunc, .nilFunc, .nilFunc, .nilFunc, .nilFunc, .nilFunc, .nilFunc, .nilFunc, .nilFunc, .nilFunc, .nilFunc] 92)).setRow w1.heap.size prsV.toArray) w1.heap.size 92 prsV) := (row_new w1 92 _).setRow prsV.toArray
  have T2 : Hid (Touch (fun _ => False) w ((w1.alloc (.cells #[.nilFunc, .nilFunc, .nilFunc, .nilFunc, .nilFunc, .nilFunc, .nilFunc, .nilFunc, .nilFunc, .nilFunc, .nilFunc, .nilFunc, .nilFunc, .nilFunc, .nilFunc, .nilFunc, .nilFunc, .nilFunc, .nilFunc, .nilFunc, .nilFunc, .nilFunc, .nilFunc, .nilFunc] 92)).setRow w1.heap.size prsV.toArray)) := (T1.out.alloc _).setRow (Or.inr (by omega)) _
  have R2 : Hid (Room ((w1.alloc (.cells #[.nilFunc, .nilFunc, .nilFunc, .nilFunc, .nilFunc, .nilFunc, .nilFunc, .nilFunc, .nilFunc, .nilFunc, .nilFunc, .nilFunc, .nilFunc, .nilFunc, .nilFunc, .nilFunc, .nilFunc, .nilFunc, .nilFunc, .nilFunc, .nilFunc, .nilFunc, .nilFunc, .nilFunc] 92)).setRow w1.heap.size prsV.toArray) w.heap.size 2) := (R1.out.keep ((Touch.refl _ _).alloc _)).touch (Touch.setRow (F := fun k => k = w1.heap.size) (Touch.refl _ _) (Or.inl rfl) _) (by show ¬ w.heap.size = w1.heap.size; omega)
  have hne1 : ¬ w.heap.size = w1.heap.size := by omega
  have hne2 : ¬ w1.heap.size = w.heap.size := by omega
  generalize (w1.alloc (.cells #[.nilFunc, .nilFunc, .nilFunc, .nilFunc, .nilFunc, .nilFunc, .nilFunc, .nilFunc, .nilFunc, .nilFunc, .nilFunc, .nilFunc, .nilFunc, .nilFunc, .nilFunc, .nilFunc, .nilFunc, .nilFunc, .nilFunc, .nilFunc, .nilFunc, .nilFunc, .nilFunc, .nilFunc] 92)).setRow w1.heap.size prsV.toArray = w2 at *
  clear R1 T1
  have hc0 : w2.cell? ⟨w1.heap.size, 4, none⟩ = some (.func (.func 66) #[] #[]) := RW.out.cell 4
  have hc1 : w2.cell? ⟨w1.heap.size, 5, none⟩ = some (.func (.func 67) #[] #[]) := RW.out.cell 5
  go_wp2_with fail
  refine Calls.mono (need_t _ 21 _ rfl) ?_
  rintro e w3 ⟨rfl, rfl⟩
  obtain ⟨zz0, zc0, zf0⟩ := R2.out 0 (by omega)
  obtain ⟨zz1, zc1, zf1⟩ := R2.out 1 (by omega)
  obtain ⟨wz, hwz⟩ : ∃ wz, wz = ((w2.setCell ⟨w.heap.size, 0, none⟩ (.func (.func 66) #[] #[])).setCell ⟨w.heap.size, 1, none⟩ (.func (.func 67) #[] #[])) := ⟨_, rfl⟩
  have zd0 : wz.cell? ⟨w.heap.size, 0, none⟩ = some (.func (.func 66) #[] #[]) := by rw [hwz]; simp [zc0, go_sem]
  have zd1 : wz.cell? ⟨w.heap.size, 1, none⟩ = some (.func (.func 67) #[] #[]) := by rw [hwz]; simp [zc1, go_sem]
  have HUz : Hid (Touch (fun k => k = w.heap.size) w2 wz) := by show Touch _ _ _; rw [hwz]; refine Touch.setCell (F := fun k => k = w.heap.size) (p := ⟨w.heap.size, 1, none⟩) ?_ (Or.inl rfl) _; refine Touch.setCell (F := fun k => k = w.heap.size) (p := ⟨w.heap.size, 0, none⟩) ?_ (Or.inl rfl) _; exact Touch.refl _ _
  have HWz : Hid (wz = ((w2.setCell ⟨w.heap.size, 0, none⟩ (.func (.func 66) #[] #[])).setCell ⟨w.heap.size, 1, none⟩ (.func (.func 67) #[] #[]))) := hwz
  clear hwz
  go_wp2_with fail
  rw [← HWz.out]
  clear HWz zc0 zf0 zc1 zf1
  refine bodyPost_ret (v := .agg #[.func (.func 66) #[] #[], .func (.func 67) #[] #[]]) (by simp [results, Try.results29, go_sem, zd0, zd1]) rfl ?_
  exact ⟨rfl, T2.out.trans' HUz.out (fun i hi e => by omega)⟩

set_option maxHeartbeats 1000000 in
theorem pairOf_3 (w : World) : Calls Try.prog 29 #[.int .u8 3] w fun e w' => e = .returned (.agg #[.func (.func 68) #[] #[], .func (.func 69) #[] #[]]) ∧ Touch (fun _ => False) w w' := by
  have hsf : ∀ (w : World) (a : Addr) (f : Fn) (x y : Array Value) (m : Mode), (store a (.func f x y) m).run Try.prog w = stored Try.prog w a (.func f x y) m := fun w a f x y m => run_store Try.prog w a _ m rfl
  have hnq : ∀ (w : World) (F : Nat), (binOp BinOp.neq 62 (.func (.func F) #[] #[]) .nilFunc).run Try.prog w = .ok (.bool true) w := fun _ _ => by kernel_rfl
  have hnn : ∀ (w : World), (binOp BinOp.neq 62 .nilFunc .nilFunc).run Try.prog w = .ok (.bool false) w := fun _ => by kernel_rfl
  go_enter Try.func29, Try.ntmps29
  go_wp2_with fail
  refine Calls.mono (pairs_any _) ?_
  rintro e w1 ⟨rfl, t1⟩
  have T1 : Hid (Touch (fun _ => False) w w1) := ((Touch.refl _ w).alloc _).trans t1
  have R1 : Hid (Room w1 w.heap.size 2) := (Room.new w #[.nilFunc, .nilFunc] 64).keep t1
  have hg : w.heap.size < w1.heap.size := by have := t1.size; simp at this; omega
  clear t1
  go_upto_region 2 with (refine wpList_store_row rfl 92 (.tmp 3) (.tmp 4) rfl w1.heap.size prsV.toArray rfl rfl 92 _ (row_new w1 92 _) (by rw [Try.info24]; rfl) rfl oneCell_prsV ?_)
  have RW : Hid (Row ((w1.alloc (.cells #[.nilFunc, .nilFunc, .nilFunc, .nilFunc, .nilFunc, .nilFunc, .nilFunc, .nilFunc, .nilFunc, .nilFunc, .nilFunc, .nilFunc, .nilFunc, .nilFunc, .nilFunc, .nilFunc, .nilFunc, .nilFunc, .nilFunc, .nilFunc, .nilFunc, .nilFunc, .nilFunc, .nilFunc] 92)).setRow w1.heap.size prsV.toArray) w1.heap.size 92 prsV) := (row_new w1 92 _).setRow prsV.toArray
  have T2 : Hid (Touch (fun _ => False) w ((w1.alloc (.cells #[.nilFunc, .nilFunc, .nilFunc, .nilFunc, .nilFunc, .nilFunc, .nilFunc, .nilFunc, .nilFunc, .nilFunc, .nilFunc, .nilFunc, .nilFunc, .nilFunc, .nilFunc, .nilFunc, .nilFunc, .nilFunc, .nilFunc, .nilFunc, .nilFunc, .nilFunc, .nilFunc, .nilFunc] 92)).setRow w1.heap.size prsV.toArray)) := (T1.out.alloc _).setRow (Or.inr (by omega)) _
  have R2 : Hid (Room ((w1.alloc (.cells #[.nilFunc, .nilFunc, .nilFunc, .nilFunc, .nilFunc, .nilFunc, .nilFunc, .nilFunc, .nilFunc, .nilFunc, .nilFunc, .nilFunc, .nilFunc, .nilFunc, .nilFunc, .nilFunc, .nilFunc, .nilFunc, .nilFunc, .nilFunc, .nilFunc, .nilFunc, .nilFunc, .nilFunc] 92)).setRow w1.heap.size prsV.toArray) w.heap.size 2) := (R1.out.keep ((Touch.refl _ _).alloc _)).touch (Touch.setRow (F := fun k => k = w1.heap.size) (Touch.refl _ _) (Or.inl rfl) _) (by show ¬ w.heap.size = w1.heap.size; omega)
  have hne1 : ¬ w.heap.size = w1.heap.size := by omega
  have hne2 : ¬ w1.heap.size = w.heap.size := by omega
  generalize (w1.alloc (.cells #[.nilFunc, .nilFunc, .nilFunc, .nilFunc, .nilFunc, .nilFunc, .nilFunc, .nilFunc, .nilFunc, .nilFunc, .nilFunc, .nilFunc, .nilFunc, .nilFunc, .nilFunc, .nilFunc, .nilFunc, .nilFunc, .nilFunc, .nilFunc, .nilFunc, .nilFunc, .nilFunc, .nilFunc] 92)).setRow w1.heap.size prsV.toArray = w2 at *
  clear R1 T1
  have hc0 : w2.cell? ⟨w1.heap.size, 6, none⟩ = some (.func (.func 68) #[] #[]) := RW.out.cell 6
  have hc1 : w2.cell? ⟨w1.heap.size, 7, none⟩ = some (.func (.func 69) #[] #[]) := RW.out.cell 7
  go_wp2_with fail
  refine Calls.mono (need_t _ 21 _ rfl) ?_
  rintro e w3 ⟨rfl, rfl⟩
  obtain ⟨zz0, zc0, zf0⟩ := R2.out 0 (by omega)
  obtain ⟨zz1, zc1, zf1⟩ := R2.out 1 (by omega)
  obtain ⟨wz, hwz⟩ : ∃ wz, wz = ((w2.setCell ⟨w.heap.size, 0, none⟩ (.func (.func 68) #[] #[])).setCell ⟨w.heap.size, 1, none⟩ (.func (.func 69) #[] #[])) := ⟨_, rfl⟩
  have zd0 : wz.cell? ⟨w.heap.size, 0, none⟩ = some (.func (.func 68) #[] #[]) := by rw [hwz]; simp [zc0, go_sem]
  have zd1 : wz.cell? ⟨w.heap.size, 1, none⟩ = some (.func (.func 69) #[] #[]) := by rw [hwz]; simp [zc1, go_sem]
  have HUz : Hid (Touch (fun k => k = w.heap.size) w2 wz) := by show Touch _ _ _; rw [hwz]; refine Touch.setCell (F := fun k => k = w.heap.size) (p := ⟨w.heap.size, 1, none⟩) ?_ (Or.inl rfl) _; refine Touch.setCell (F := fun k => k = w.heap.size) (p := ⟨w.heap.size, 0, none⟩) ?_ (Or.inl rfl) _; exact Touch.refl _ _
  have HWz : Hid (wz = ((w2.setCell ⟨w.heap.size, 0, none⟩ (.func (.func 68) #[] #[])).setCell ⟨w.heap.size, 1, none⟩ (.func (.func 69) #[] #[]))) := hwz
  clear hwz
  go_wp2_with fail
  rw [← HWz.out]
  clear HWz zc0 zf0 zc1 zf1
  refine bodyPost_ret (v := .agg #[.func (.func 68) #[] #[], .func (.func 69) #[] #[]]) (by simp [results, Try.results29, go_sem, zd0, zd1]) rfl ?_
  exact ⟨rfl, T2.out.trans' HUz.out (fun i hi e => by omega)⟩

set_option maxHeartbeats 1000000 in
theorem pairOf_4 (w : World) : Calls Try.prog 29 #[.int .u8 4] w fun e w' => e = .returned (.agg #[.func (.func 70) #[] #[], .func (.func 71) #[] #[]]) ∧ Touch (fun _ => False) w w' := by
  have hsf : ∀ (w : World) (a : Addr) (f : Fn) (x y : Array Value) (m : Mode), (store a (.func f x y) m).run Try.prog w = stored Try.prog w a (.func f x y) m := fun w a f x y m => run_store Try.prog w a _ m rfl
  have hnq : ∀ (w : World) (F : Nat), (binOp BinOp.neq 62 (.func (.func F) #[] #[]) .nilFunc).run Try.prog w = .ok (.bool true) w := fun _ _ => by kernel_rfl
  have hnn : ∀ (w : World), (binOp BinOp.neq 62 .nilFunc .nilFunc).run Try.prog w = .ok (.bool false) w := fun _ => by kernel_rfl
  go_enter Try.func29, Try.ntmps29
  go_wp2_with fail
  refine Calls.mono (pairs_any _) ?_
  rintro e w1 ⟨rfl, t1⟩
  have T1 : Hid (Touch (fun _ => False) w w1) := ((Touch.refl _ w).alloc _).trans t1
  have R1 : Hid (Room w1 w.heap.size 2) := (Room.new w #[.nilFunc, .nilFunc] 64).keep t1
  have hg : w.heap.size < w1.heap.size := by have := t1.size; simp at this; omega
  clear t1
  go_upto_region 2 with (refine wpList_store_row rfl 92 (.tmp 3) (.tmp 4) rfl w1.heap.size prsV.toArray rfl rfl 92 _ (row_new w1 92 _) (by rw [Try.info24]; rfl) rfl oneCell_prsV ?_)
  have RW : Hid (Row ((w1.alloc (.cells #[.nilFunc, .nilFunc, .nilFunc, .nilFunc, .nilFunc, .nilFunc, .nilFunc, .nilFunc, .nilFunc, .nilFunc, .nilFunc, .nilFunc, .nilFunc, .nilFunc, .nilFunc, .nilFunc, .nilFunc, .nilFunc, .nilFunc, .nilFunc, .nilFunc, .nilFunc, .nilFunc, .nilFunc] 92)).setRow w1.heap.size prsV.toArray) w1.heap.size 92 prsV) := (row_new w1 92 _).setRow prsV.toArray
  have T2 : Hid (Touch (fun _ => False) w ((w1.alloc (.cells #[.nilFunc, .nilFunc, .nilFunc, .nilFunc, .nilFunc, .nilFunc, .nilFunc, .nilFunc, .nilFunc, .nilFunc, .nilFunc, .nilFunc, .nilFunc, .nilFunc, .nilFunc, .nilFunc, .nilFunc, .nilFunc, .nilFunc, .nilFunc, .nilFunc, .nilFunc, .nilFunc, .nilFunc] 92)).setRow w1.heap.size prsV.toArray)) := (T1.out.alloc _).setRow (Or.inr (by omega)) _
  have R2 : Hid (Room ((w1.alloc (.cells #[.nilFunc, .nilFunc, .nilFunc, .nilFunc, .nilFunc, .nilFunc, .nilFunc, .nilFunc, .nilFunc, .nilFunc, .nilFunc, .nilFunc, .nilFunc, .nilFunc, .nilFunc, .nilFunc, .nilFunc, .nilFunc, .nilFunc, .nilFunc, .nilFunc, .nilFunc, .nilFunc, .nilFunc] 92)).setRow w1.heap.size prsV.toArray) w.heap.size 2) := (R1.out.keep ((Touch.refl _ _).alloc _)).touch (Touch.setRow (F := fun k => k = w1.heap.size) (Touch.refl _ _) (Or.inl rfl) _) (by show ¬ w.heap.size = w1.heap.size; omega)
  have hne1 : ¬ w.heap.size = w1.heap.size := by omega
  have hne2 : ¬ w1.heap.size = w.heap.size := by omega
  generalize (w1.alloc (.cells #[.nilFunc, .nilFunc, .nilFunc, .nilFunc, .nilFunc, .nilFunc, .nilFunc, .nilFunc, .nilFunc, .nilFunc, .nilFunc, .nilFunc, .nilFunc, .nilFunc, .nilFunc, .nilFunc, .nilFunc, .nilFunc, .nilFunc, .nilFunc, .nilFunc, .nilFunc, .nilFunc, .nilFunc] 92)).setRow w1.heap.size prsV.toArray = w2 at *
  clear R1 T1
  have hc0 : w2.cell? ⟨w1.heap.size, 8, none⟩ = some (.func (.func 70) #[] #[]) := RW.out.cell 8
  have hc1 : w2.cell? ⟨w1.heap.size, 9, none⟩ = some (.func (.func 71) #[] #[]) := RW.out.cell 9
  go_wp2_with fail
  refine Calls.mono (need_t _ 21 _ rfl) ?_
  rintro e w3 ⟨rfl, rfl⟩
  obtain ⟨zz0, zc0, zf0⟩ := R2.out 0 (by omega)
  obtain ⟨zz1, zc1, zf1⟩ := R2.out 1 (by omega)
  obtain ⟨wz, hwz⟩ : ∃ wz, wz = ((w2.setCell ⟨w.heap.size, 0, none⟩ (.func (.func 70) #[] #[])).setCell ⟨w.heap.size, 1, none⟩ (.func (.func 71) #[] #[])) := ⟨_, rfl⟩
  have zd0 : wz.cell? ⟨w.heap.size, 0, none⟩ = some (.func (.func 70) #[] #[]) := by rw [hwz]; simp [zc0, go_sem]
  have zd1 : wz.cell? ⟨w.heap.size, 1, none⟩ = some (.func (.func 71) #[] #[]) := by rw [hwz]; simp [zc1, go_sem]
  have HUz : Hid (Touch (fun k => k = w.heap.size) w2 wz) := by show Touch _ _ _; rw [hwz]; refine Touch.setCell (F := fun k => k = w.heap.size) (p := ⟨w.heap.size, 1, none⟩) ?_ (Or.inl rfl) _; refine Touch.setCell (F := fun k => k = w.heap.size) (p := ⟨w.heap.size, 0, none⟩) ?_ (Or.inl rfl) _; exact Touch.refl _ _
  have HWz : Hid (wz = ((w2.setCell ⟨w.heap.size, 0, none⟩ (.func (.func 70) #[] #[])).setCell ⟨w.heap.size, 1, none⟩ (.func (.func 71) #[] #[]))) := hwz
  clear hwz
  go_wp2_with fail
  rw [← HWz.out]
  clear HWz zc0 zf0 zc1 zf1
  refine bodyPost_ret (v := .agg #[.func (.func 70) #[] #[], .func (.func 71) #[] #[]]) (by simp [results, Try.results29, go_sem, zd0, zd1]) rfl ?_
  exact ⟨rfl, T2.out.trans' HUz.out (fun i hi e => by omega)⟩

set_option maxHeartbeats 1000000 in
theorem pairOf_5 (w : World) : Calls Try.prog 29 #[.int .u8 5] w fun e w' => e = .returned (.agg #[.func (.func 60) #[] #[], .func (.func 61) #[] #[]]) ∧ Touch (fun _ => False) w w' := by
  have hsf : ∀ (w : World) (a : Addr) (f : Fn) (x y : Array Value) (m : Mode), (store a (.func f x y) m).run Try.prog w = stored Try.prog w a (.func f x y) m := fun w a f x y m => run_store Try.prog w a _ m rfl
  have hnq : ∀ (w : World) (F : Nat), (binOp BinOp.neq 62 (.func (.func F) #[] #[]) .nilFunc).run Try.prog w = .ok (.bool true) w := fun _ _ => by kernel_rfl
  have hnn : ∀ (w : World), (binOp BinOp.neq 62 .nilFunc .nilFunc).run Try.prog w = .ok (.bool false) w := fun _ => by kernel_rfl
  go_enter Try.func29, Try.ntmps29
  go_wp2_with fail
  refine Calls.mono (pairs_any _) ?_
  rintro e w1 ⟨rfl, t1⟩
  have T1 : Hid (Touch (fun _ => False) w w1) := ((Touch.refl _ w).alloc _).trans t1
  have R1 : Hid (Room w1 w.heap.size 2) := (Room.new w #[.nilFunc, .nilFunc] 64).keep t1
  have hg : w.heap.size < w1.heap.size := by have := t1.size; simp at this; omega
  clear t1
  go_upto_region 2 with (refine wpList_store_row rfl 92 (.tmp 3) (.tmp 4) rfl w1.heap.size prsV.toArray rfl rfl 92 _ (row_new w1 92 _) (by rw [Try.info24]; rfl) rfl oneCell_prsV ?_)
  have RW : Hid (Row ((w1.alloc (.cells #[.nilFunc, .nilFunc, .nilFunc, .nilFunc, .nilFunc, .nilFunc, .nilFunc, .nilFunc, .nilFunc, .nilFunc, .nilFunc, .nilFunc, .nilFunc, .nilFunc, .nilFunc, .nilFunc, .nilFunc, .nilFunc, .nilFunc, .nilFunc, .nilFunc, .nilFunc, .nilFunc, .nilFunc] 92)).setRow w1.heap.size prsV.toArray) w1.heap.size 92 prsV) := (row_new w1 92 _).setRow prsV.toArray
  have T2 : Hid (Touch (fun _ => False) w ((w1.alloc (.cells #[.nilFunc, .nilFunc, .nilFunc, .nilFunc, .nilFunc, .nilFunc, .nilFunc, .nilFunc, .nilFunc, .nilFunc, .nilFunc, .nilFunc, .nilFunc, .nilFunc, .nilFunc, .nilFunc, .nilFunc, .nilFunc, .nilFunc, .nilFunc, .nilFunc, .nilFunc, .nilFunc, .nilFunc] 92)).setRow w1.heap.size prsV.toArray)) := (T1.out.alloc _).setRow (Or.inr (by omega)) _
  have R2 : Hid (Room ((w1.alloc (.cells #[.nilFunc, .nilFunc, .nilFunc, .nilFunc, .nilFunc, .nilFunc, .nilFunc, .nilFunc, .nilFunc, .nilFunc, .nilFunc, .nilFunc, .nilFunc, .nilFunc, .nilFunc, .nilFunc, .nilFunc, .nilFunc, .nilFunc, .nilFunc, .nilFunc, .nilFunc, .nilFunc, .nilFunc] 92)).setRow w1.heap.size prsV.toArray) w.heap.size 2) := (R1.out.keep ((Touch.refl _ _).alloc _)).touch (Touch.setRow (F := fun k => k = w1.heap.size) (Touch.refl _ _) (Or.inl rfl) _) (by show ¬ w.heap.size = w1.heap.size; omega)
  have hne1 : ¬ w.heap.size = w1.heap.size := by omega
  have hne2 : ¬ w1.heap.size = w.heap.size := by omega
  generalize (w1.alloc (.cells #[.nilFunc, .nilFunc, .nilFunc, .nilFunc, .nilFunc, .nilFunc, .nilFunc, .nilFunc, .nilFunc, .nilFunc, .nilFunc, .nilFunc, .nilFunc, .nilFunc, .nilFunc, .nilFunc, .nilFunc, .nilFunc, .nilFunc, .nilFunc, .nilFunc, .nilFunc, .nilFunc, .nilFunc] 92)).setRow w1.heap.size prsV.toArray = w2 at *
  clear R1 T1
  have hc0 : w2.cell? ⟨w1.heap.size, 10, none⟩ = some (.func (.func 60) #[] #[]) := RW.out.cell 10
  have hc1 : w2.cell? ⟨w1.heap.size, 11, none⟩ = some (.func (.func 61) #[] #[]) := RW.out.cell 11
  go_wp2_with fail
  refine Calls.mono (need_t _ 21 _ rfl) ?_
  rintro e w3 ⟨rfl, rfl⟩
  obtain ⟨zz0, zc0, zf0⟩ := R2.out 0 (by omega)
  obtain ⟨zz1, zc1, zf1⟩ := R2.out 1 (by omega)
  obtain ⟨wz, hwz⟩ : ∃ wz, wz = ((w2.setCell ⟨w.heap.size, 0, none⟩ (.func (.func 60) #[] #[])).setCell ⟨w.heap.size, 1, none⟩ (.func (.func 61) #[] #[])) := ⟨_, rfl⟩
  have zd0 : wz.cell? ⟨w.heap.size, 0, none⟩ = some (.func (.func 60) #[] #[]) := by rw [hwz]; simp [zc0, go_sem]
  have zd1 : wz.cell? ⟨w.heap.size, 1, none⟩ = some (.func (.func 61) #[] #[]) := by rw [hwz]; simp [zc1, go_sem]
  have HUz : Hid (Touch (fun k => k = w.heap.size) w2 wz) := by show Touch _ _ _; rw [hwz]; refine Touch.setCell (F := fun k => k = w.heap.size) (p := ⟨w.heap.size, 1, none⟩) ?_ (Or.inl rfl) _; refine Touch.setCell (F := fun k => k = w.heap.size) (p := ⟨w.heap.size, 0, none⟩) ?_ (Or.inl rfl) _; exact Touch.refl _ _
  have HWz : Hid (wz = ((w2.setCell ⟨w.heap.size, 0, none⟩ (.func (.func 60) #[] #[])).setCell ⟨w.heap.size, 1, none⟩ (.func (.func 61) #[] #[]))) := hwz
  clear hwz
  go_wp2_with fail
  rw [← HWz.out]
  clear HWz zc0 zf0 zc1 zf1
  refine bodyPost_ret (v := .agg #[.func (.func 60) #[] #[], .func (.func 61) #[] #[]]) (by simp [results, Try.results29, go_sem, zd0, zd1]) rfl ?_
  exact ⟨rfl, T2.out.trans' HUz.out (fun i hi e => by omega)⟩

set_option maxHeartbeats 1000000 in
theorem pairOf_6 (w : World) : Calls Try.prog 29 #[.int .u8 6] w fun e w' => e = .panicked (flawC 21) ∧ Touch (fun _ => False) w w' := by
  have hsf : ∀ (w : World) (a : Addr) (f : Fn) (x y : Array Value) (m : Mode), (store a (.func f x y) m).run Try.prog w = stored Try.prog w a (.func f x y) m := fun w a f x y m => run_store Try.prog w a _ m rfl
  have hnq : ∀ (w : World) (F : Nat), (binOp BinOp.neq 62 (.func (.func F) #[] #[]) .nilFunc).run Try.prog w = .ok (.bool true) w := fun _ _ => by kernel_rfl
  have hnn : ∀ (w : World), (binOp BinOp.neq 62 .nilFunc .nilFunc).run Try.prog w = .ok (.bool false) w := fun _ => by kernel_rfl
  go_enter Try.func29, Try.ntmps29
  go_wp2_with fail
  refine Calls.mono (pairs_any _) ?_
  rintro e w1 ⟨rfl, t1⟩
  have T1 : Hid (Touch (fun _ => False) w w1) := ((Touch.refl _ w).alloc _).trans t1
  have R1 : Hid (Room w1 w.heap.size 2) := (Room.new w #[.nilFunc, .nilFunc] 64).keep t1
  have hg : w.heap.size < w1.heap.size := by have := t1.size; simp at this; omega
  clear t1
  go_upto_region 2 with (refine wpList_store_row rfl 92 (.tmp 3) (.tmp 4) rfl w1.heap.size prsV.toArray rfl rfl 92 _ (row_new w1 92 _) (by rw [Try.info24]; rfl) rfl oneCell_prsV ?_)
  have RW : Hid (Row ((w1.alloc (.cells #[.nilFunc, .nilFunc, .nilFunc, .nilFunc, .nilFunc, .nilFunc, .nilFunc, .nilFunc, .nilFunc, .nilFunc, .nilFunc, .nilFunc, .nilFunc, .nilFunc, .nilFunc, .nilFunc, .nilFunc, .nilFunc, .nilFunc, .nilFunc, .nilFunc, .nilFunc, .nilFunc, .nilFunc] 92)).setRow w1.heap.size prsV.toArray) w1.heap.size 92 prsV) := (row_new w1 92 _).setRow prsV.toArray
  have T2 : Hid (Touch (fun _ => False) w ((w1.alloc (.cells #[.nilFunc, .nilFunc, .nilFunc, .nilFunc, .nilFunc, .nilFunc, .nilFunc, .nilFunc, .nilFunc, .nilFunc, .nilFunc, .nilFunc, .nilFunc, .nilFunc, .nilFunc, .nilFunc, .nilFunc, .nilFunc, .nilFunc, .nilFunc, .nilFunc, .nilFunc, .nilFunc, .nilFunc] 92)).setRow w1.heap.size prsV.toArray)) := (T1.out.alloc _).setRow (Or.inr (by omega)) _
  have R2 : Hid (Room ((w1.alloc (.cells #[.nilFunc, .nilFunc, .nilFunc, .nilFunc, .nilFunc, .nilFunc, .nilFunc, .nilFunc, .nilFunc, .nilFunc, .nilFunc, .nilFunc, .nilFunc, .nilFunc, .nilFunc, .nilFunc, .nilFunc, .nilFunc, .nilFunc, .nilFunc, .nilFunc, .nilFunc, .nilFunc, .nilFunc] 92)).setRow w1.heap.size prsV.toArray) w.heap.size 2) := (R1.out.keep ((Touch.refl _ _).alloc _)).touch (Touch.setRow (F := fun k => k = w1.heap.size) (Touch.refl _ _) (Or.inl rfl) _) (by show ¬ w.heap.size = w1.heap.size; omega)
  have hne1 : ¬ w.heap.size = w1.heap.size := by omega
  have hne2 : ¬ w1.heap.size = w.heap.size := by omega
  generalize (w1.alloc (.cells #[.nilFunc, .nilFunc, .nilFunc, .nilFunc, .nilFunc, .nilFunc, .nilFunc, .nilFunc, .nilFunc, .nilFunc, .nilFunc, .nilFunc, .nilFunc, .nilFunc, .nilFunc, .nilFunc, .nilFunc, .nilFunc, .nilFunc, .nilFunc, .nilFunc, .nilFunc, .nilFunc, .nilFunc] 92)).setRow w1.heap.size prsV.toArray = w2 at *
  clear R1 T1
  have hc1 : w2.cell? ⟨w1.heap.size, 13, none⟩ = some .nilFunc := RW.out.cell 13
  go_wp2_with fail
  refine Calls.mono (need_f _ 21 _ rfl) ?_
  rintro e w3 ⟨rfl, rfl⟩
  exact ⟨rfl, rfl, T2.out⟩

set_option maxHeartbeats 1000000 in
theorem pairOf_7 (w : World) : Calls Try.prog 29 #[.int .u8 7] w fun e w' => e = .returned (.agg #[.func (.func 60) #[] #[], .func (.func 61) #[] #[]]) ∧ Touch (fun _ => False) w w' := by
  have hsf : ∀ (w : World) (a : Addr) (f : Fn) (x y : Array Value) (m : Mode), (store a (.func f x y) m).run Try.prog w = stored Try.prog w a (.func f x y) m := fun w a f x y m => run_store Try.prog w a _ m rfl
  have hnq : ∀ (w : World) (F : Nat), (binOp BinOp.neq 62 (.func (.func F) #[] #[]) .nilFunc).run Try.prog w = .ok (.bool true) w := fun _ _ => by kernel_rfl
  have hnn : ∀ (w : World), (binOp BinOp.neq 62 .nilFunc .nilFunc).run Try.prog w = .ok (.bool false) w := fun _ => by kernel_rfl
  go_enter Try.func29, Try.ntmps29
  go_wp2_with fail
  refine Calls.mono (pairs_any _) ?_
  rintro e w1 ⟨rfl, t1⟩
  have T1 : Hid (Touch (fun _ => False) w w1) := ((Touch.refl _ w).alloc _).trans t1
  have R1 : Hid (Room w1 w.heap.size 2) := (Room.new w #[.nilFunc, .nilFunc] 64).keep t1
  have hg : w.heap.size < w1.heap.size := by have := t1.size; simp at this; omega
  clear t1
  go_upto_region 2 with (refine wpList_store_row rfl 92 (.tmp 3) (.tmp 4) rfl w1.heap.size prsV.toArray rfl rfl 92 _ (row_new w1 92 _) (by rw [Try.info24]; rfl) rfl oneCell_prsV ?_)
  have RW : Hid (Row ((w1.alloc (.cells #[.nilFunc, .nilFunc, .nilFunc, .nilFunc, .nilFunc, .nilFunc, .nilFunc, .nilFunc, .nilFunc, .nilFunc, .nilFunc, .nilFunc, .nilFunc, .nilFunc, .nilFunc, .nilFunc, .nilFunc, .nilFunc, .nilFunc, .nilFunc, .nilFunc, .nilFunc, .nilFunc, .nilFunc] 92)).setRow w1.heap.size prsV.toArray) w1.heap.size 92 prsV) := (row_new w1 92 _).setRow prsV.toArray
  have T2 : Hid (Touch (fun _ => False) w ((w1.alloc (.cells #[.nilFunc, .nilFunc, .nilFunc, .nilFunc, .nilFunc, .nilFunc, .nilFunc, .nilFunc, .nilFunc, .nilFunc, .nilFunc, .nilFunc, .nilFunc, .nilFunc, .nilFunc, .nilFunc, .nilFunc, .nilFunc, .nilFunc, .nilFunc, .nilFunc, .nilFunc, .nilFunc, .nilFunc] 92)).setRow w1.heap.size prsV.toArray)) := (T1.out.alloc _).setRow (Or.inr (by omega)) _
  have R2 : Hid (Room ((w1.alloc (.cells #[.nilFunc, .nilFunc, .nilFunc, .nilFunc, .nilFunc, .nilFunc, .nilFunc, .nilFunc, .nilFunc, .nilFunc, .nilFunc, .nilFunc, .nilFunc, .nilFunc, .nilFunc, .nilFunc, .nilFunc, .nilFunc, .nilFunc, .nilFunc, .nilFunc, .nilFunc, .nilFunc, .nilFunc] 92)).setRow w1.heap.size prsV.toArray) w.heap.size 2) := (R1.out.keep ((Touch.refl _ _).alloc _)).touch (Touch.setRow (F := fun k => k = w1.heap.size) (Touch.refl _ _) (Or.inl rfl) _) (by show ¬ w.heap.size = w1.heap.size; omega)
  have hne1 : ¬ w.heap.size = w1.heap.size := by omega
  have hne2 : ¬ w1.heap.size = w.heap.size := by omega
  generalize (w1.alloc (.cells #[.nilFunc, .nilFunc, .nilFunc, .nilFunc, .nilFunc, .nilFunc, .nilFunc, .nilFunc, .nilFunc, .nilFunc, .nilFunc, .nilFunc, .nilFunc, .nilFunc, .nilFunc, .nilFunc, .nilFunc, .nilFunc, .nilFunc, .nilFunc, .nilFunc, .nilFunc, .nilFunc, .nilFunc] 92)).setRow w1.heap.size prsV.toArray = w2 at *
  clear R1 T1
  have hc0 : w2.cell? ⟨w1.heap.size, 14, none⟩ = some (.func (.func 60) #[] #[]) := RW.out.cell 14
  have hc1 : w2.cell? ⟨w1.heap.size, 15, none⟩ = some (.func (.func 61) #[] #[]) := RW.out.cell 15
  go_wp2_with fail
  refine Calls.mono (need_t _ 21 _ rfl) ?_
  rintro e w3 ⟨rfl, rfl⟩
  obtain ⟨zz0, zc0, zf0⟩ := R2.out 0 (by omega)
  obtain ⟨zz1, zc1, zf1⟩ := R2.out 1 (by omega)
  obtain ⟨wz, hwz⟩ : ∃ wz, wz = ((w2.setCell ⟨w.heap.size, 0, none⟩ (.func (.func 60) #[] #[])).setCell ⟨w.heap.size, 1, none⟩ (.func (.func 61) #[] #[])) := ⟨_, rfl⟩
  have zd0 : wz.cell? ⟨w.heap.size, 0, none⟩ = some (.func (.func 60) #[] #[]) := by rw [hwz]; simp [zc0, go_sem]
  have zd1 : wz.cell? ⟨w.heap.size, 1, none⟩ = some (.func (.func 61) #[] #[]) := by rw [hwz]; simp [zc1, go_sem]
  have HUz : Hid (Touch (fun k => k = w.heap.size) w2 wz) := by show Touch _ _ _; rw [hwz]; refine Touch.setCell (F := fun k => k = w.heap.size) (p := ⟨w.heap.size, 1, none⟩) ?_ (Or.inl rfl) _; refine Touch.setCell (F := fun k => k = w.heap.size) (p := ⟨w.heap.size, 0, none⟩) ?_ (Or.inl rfl) _; exact Touch.refl _ _
  have HWz : Hid (wz = ((w2.setCell ⟨w.heap.size, 0, none⟩ (.func (.func 60) #[] #[])).setCell ⟨w.heap.size, 1, none⟩ (.func (.func 61) #[] #[]))) := hwz
  clear hwz
  go_wp2_with fail
  rw [← HWz.out]
  clear HWz zc0 zf0 zc1 zf1
  refine bodyPost_ret (v := .agg #[.func (.func 60) #[] #[], .func (.func 61) #[] #[]]) (by simp [results, Try.results29, go_sem, zd0, zd1]) rfl ?_
  exact ⟨rfl, T2.out.trans' HUz.out (fun i hi e => by omega)⟩

set_option maxHeartbeats 1000000 in
theorem pairOf_8 (w : World) : Calls Try.prog 29 #[.int .u8 8] w fun e w' => e = .panicked (flawC 21) ∧ Touch (fun _ => False) w w' := by
  have hsf : ∀ (w : World) (a : Addr) (f : Fn) (x y : Array Value) (m : Mode), (store a (.func f x y) m).run Try.prog w = stored Try.prog w a (.func f x y) m := fun w a f x y m => run_store Try.prog w a _ m rfl
  have hnq : ∀ (w : World) (F : Nat), (binOp BinOp.neq 62 (.func (.func F) #[] #[]) .nilFunc).run Try.prog w = .ok (.bool true) w := fun _ _ => by kernel_rfl
  have hnn : ∀ (w : World), (binOp BinOp.neq 62 .nilFunc .nilFunc).run Try.prog w = .ok (.bool false) w := fun _ => by kernel_rfl
  go_enter Try.func29, Try.ntmps29
  go_wp2_with fail
  refine Calls.mono (pairs_any _) ?_
  rintro e w1 ⟨rfl, t1⟩
  have T1 : Hid (Touch (fun _ => False) w w1) := ((Touch.refl _ w).alloc _).trans t1
  have R1 : Hid (Room w1 w.heap.size 2) := (Room.new w #[.nilFunc, .nilFunc] 64).keep t1
  have hg : w.heap.size < w1.heap.size := by have := t1.size; simp at this; omega
  clear t1
  go_upto_region 2 with (refine wpList_store_row rfl 92 (.tmp 3) (.tmp 4) rfl w1.heap.size prsV.toArray rfl rfl 92 _ (row_new w1 92 _) (by rw [Try.info24]; rfl) rfl oneCell_prsV ?_)
  have RW : Hid (Row ((w1.alloc (.cells #[.nilFunc, .nilFunc, .nilFunc, .nilFunc, .nilFunc, .nilFunc, .nilFunc, .nilFunc, .nilFunc, .nilFunc, .nilFunc, .nilFunc, .nilFunc, .nilFunc, .nilFunc, .nilFunc, .nilFunc, .nilFunc, .nilFunc, .nilFunc, .nilFunc, .nilFunc, .nilFunc, .nilFunc] 92)).setRow w1.heap.size prsV.toArray) w1.heap.size 92 prsV) := (row_new w1 92 _).setRow prsV.toArray
  have T2 : Hid (Touch (fun _ => False) w ((w1.alloc (.cells #[.nilFunc, .nilFunc, .nilFunc, .nilFunc, .nilFunc, .nilFunc, .nilFunc, .nilFunc, .nilFunc, .nilFunc, .nilFunc, .nilFunc, .nilFunc, .nilFunc, .nilFunc, .nilFunc, .nilFunc, .nilFunc, .nilFunc, .nilFunc, .nilFunc, .nilFunc, .nilFunc, .nilFunc] 92)).setRow w1.heap.size prsV.toArray)) := (T1.out.alloc _).setRow (Or.inr (by omega)) _
  have R2 : Hid (Room ((w1.alloc (.cells #[.nilFunc, .nilFunc, .nilFunc, .nilFunc, .nilFunc, .nilFunc, .nilFunc, .nilFunc, .nilFunc, .nilFunc, .nilFunc, .nilFunc, .nilFunc, .nilFunc, .nilFunc, .nilFunc, .nilFunc, .nilFunc, .nilFunc, .nilFunc, .nilFunc, .nilFunc, .nilFunc, .nilFunc] 92)).setRow w1.heap.size prsV.toArray) w.heap.size 2) := (R1.out.keep ((Touch.refl _ _).alloc _)).touch (Touch.setRow (F := fun k => k = w1.heap.size) (Touch.refl _ _) (Or.inl rfl) _) (by show ¬ w.heap.size = w1.heap.size; omega)
  have hne1 : ¬ w.heap.size = w1.heap.size := by omega
  have hne2 : ¬ w1.heap.size = w.heap.size := by omega
  generalize (w1.alloc (.cells #[.nilFunc, .nilFunc, .nilFunc, .nilFunc, .nilFunc, .nilFunc, .nilFunc, .nilFunc, .nilFunc, .nilFunc, .nilFunc, .nilFunc, .nilFunc, .nilFunc, .nilFunc, .nilFunc, .nilFunc, .nilFunc, .nilFunc, .nilFunc, .nilFunc, .nilFunc, .nilFunc, .nilFunc] 92)).setRow w1.heap.size prsV.toArray = w2 at *
  clear R1 T1
  have hc1 : w2.cell? ⟨w1.heap.size, 17, none⟩ = some .nilFunc := RW.out.cell 17
  go_wp2_with fail
  refine Calls.mono (need_f _ 21 _ rfl) ?_
  rintro e w3 ⟨rfl, rfl⟩
  exact ⟨rfl, rfl, T2.out⟩

set_option maxHeartbeats 1000000 in
theorem pairOf_9 (w : World) : Calls Try.prog 29 #[.int .u8 9] w fun e w' => e = .returned (.agg #[.func (.func 62) #[] #[], .func (.func 63) #[] #[]]) ∧ Touch (fun _ => False) w w' := by
  have hsf : ∀ (w : World) (a : Addr) (f : Fn) (x y : Array Value) (m : Mode), (store a (.func f x y) m).run Try.prog w = stored Try.prog w a (.func f x y) m := fun w a f x y m => run_store Try.prog w a _ m rfl
  have hnq : ∀ (w : World) (F : Nat), (binOp BinOp.neq 62 (.func (.func F) #[] #[]) .nilFunc).run Try.prog w = .ok (.bool true) w := fun _ _ => by kernel_rfl
  have hnn : ∀ (w : World), (binOp BinOp.neq 62 .nilFunc .nilFunc).run Try.prog w = .ok (.bool false) w := fun _ => by kernel_rfl
  go_enter Try.func29, Try.ntmps29
  go_wp2_with fail
  refine Calls.mono (pairs_any _) ?_
  rintro e w1 ⟨rfl, t1⟩
  have T1 : Hid (Touch (fun _ => False) w w1) := ((Touch.refl _ w).alloc _).trans t1
  have R1 : Hid (Room w1 w.heap.size 2) := (Room.new w #[.nilFunc, .nilFunc] 64).keep t1
  have hg : w.heap.size < w1.heap.size := by have := t1.size; simp at this; omega
  clear t1
  go_upto_region 2 with (refine wpList_store_row rfl 92 (.tmp 3) (.tmp 4) rfl w1.heap.size prsV.toArray rfl rfl 92 _ (row_new w1 92 _) (by rw [Try.info24]; rfl) rfl oneCell_prsV ?_)
  have RW : Hid (Row ((w1.alloc (.cells #[.nilFunc, .nilFunc, .nilFunc, .nilFunc, .nilFunc, .nilFunc, .nilFunc, .nilFunc, .nilFunc, .nilFunc, .nilFunc, .nilFunc, .nilFunc, .nilFunc, .nilFunc, .nilFunc, .nilFunc, .nilFunc, .nilFunc, .nilFunc, .nilFunc, .nilFunc, .nilFunc, .nilFunc] 92)).setRow w1.heap.size prsV.toArray) w1.heap.size 92 prsV) := (row_new w1 92 _).setRow prsV.toArray
  have T2 : Hid (Touch (fun _ => False) w ((w1.alloc (.cells #[.nilFunc, .nilFunc, .nilFunc, .nilFunc, .nilFunc, .nilFunc, .nilFunc, .nilFunc, .nilFunc, .nilFunc, .nilFunc, .nilFunc, .nilFunc, .nilFunc, .nilFunc, .nilFunc, .nilFunc, .nilFunc, .nilFunc, .nilFunc, .nilFunc, .nilFunc, .nilFunc, .nilFunc] 92)).setRow w1.heap.size prsV.toArray)) := (T1.out.alloc _).setRow (Or.inr (by omega)) _
  have R2 : Hid (Room ((w1.alloc (.cells #[.nilFunc, .nilFunc, .nilFunc, .nilFunc, .nilFunc, .nilFunc, .nilFunc, .nilFunc, .nilFunc, .nilFunc, .nilFunc, .nilFunc, .nilFunc, .nilFunc, .nilFunc, .nilFunc, .nilFunc, .nilFunc, .nilFunc, .nilFunc, .nilFunc, .nilFunc, .nilFunc, .nilFunc] 92)).setRow w1.heap.size prsV.toArray) w.heap.size 2) := (R1.out.keep ((Touch.refl _ _).alloc _)).touch (Touch.setRow (F := fun k => k = w1.heap.size) (Touch.refl _ _) (Or.inl rfl) _) (by show ¬ w.heap.size = w1.heap.size; omega)
  have hne1 : ¬ w.heap.size = w1.heap.size := by omega
  have hne2 : ¬ w1.heap.size = w.heap.size := by omega
  generalize (w1.alloc (.cells #[.nilFunc, .nilFunc, .nilFunc, .nilFunc, .nilFunc, .nilFunc, .nilFunc, .nilFunc, .nilFunc, .nilFunc, .nilFunc, .nilFunc, .nilFunc, .nilFunc, .nilFunc, .nilFunc, .nilFunc, .nilFunc, .nilFunc, .nilFunc, .nilFunc, .nilFunc, .nilFunc, .nilFunc] 92)).setRow w1.heap.size prsV.toArray = w2 at *
  clear R1 T1
  have hc0 : w2.cell? ⟨w1.heap.size, 18, none⟩ = some (.func (.func 62) #[] #[]) := RW.out.cell 18
  have hc1 : w2.cell? ⟨w1.heap.size, 19, none⟩ = some (.func (.func 63) #[] #[]) := RW.out.cell 19
  go_wp2_with fail
  refine Calls.mono (need_t _ 21 _ rfl) ?_
  rintro e w3 ⟨rfl, rfl⟩
  obtain ⟨zz0, zc0, zf0⟩ := R2.out 0 (by omega)
  obtain ⟨zz1, zc1, zf1⟩ := R2.out 1 (by omega)
  obtain ⟨wz, hwz⟩ : ∃ wz, wz = ((w2.setCell ⟨w.heap.size, 0, none⟩ (.func (.func 62) #[] #[])).setCell ⟨w.heap.size, 1, none⟩ (.func (.func 63) #[] #[])) := ⟨_, rfl⟩
  have zd0 : wz.cell? ⟨w.heap.size, 0, none⟩ = some (.func (.func 62) #[] #[]) := by rw [hwz]; simp [zc0, go_sem]
  have zd1 : wz.cell? ⟨w.heap.size, 1, none⟩ = some (.func (.func 63) #[] #[]) := by rw [hwz]; simp [zc1, go_sem]
  have HUz : Hid (Touch (fun k => k = w.heap.size) w2 wz) := by show Touch _ _ _; rw [hwz]; refine Touch.setCell (F := fun k => k = w.heap.size) (p := ⟨w.heap.size, 1, none⟩) ?_ (Or.inl rfl) _; refine Touch.setCell (F := fun k => k = w.heap.size) (p := ⟨w.heap.size, 0, none⟩) ?_ (Or.inl rfl) _; exact Touch.refl _ _
  have HWz : Hid (wz = ((w2.setCell ⟨w.heap.size, 0, none⟩ (.func (.func 62) #[] #[])).setCell ⟨w.heap.size, 1, none⟩ (.func (.func 63) #[] #[]))) := hwz
  clear hwz
  go_wp2_with fail
  rw [← HWz.out]
  clear HWz zc0 zf0 zc1 zf1
  refine bodyPost_ret (v := .agg #[.func (.func 62) #[] #[], .func (.func 63) #[] #[]]) (by simp [results, Try.results29, go_sem, zd0, zd1]) rfl ?_
  exact ⟨rfl, T2.out.trans' HUz.out (fun i hi e => by omega)⟩

set_option maxHeartbeats 1000000 in
theorem pairOf_10 (w : World) : Calls Try.prog 29 #[.int .u8 10] w fun e w' => e = .returned (.agg #[.func (.func 62) #[] #[], .func (.func 63) #[] #[]]) ∧ Touch (fun _ => False) w w' := by
  have hsf : ∀ (w : World) (a : Addr) (f : Fn) (x y : Array Value) (m : Mode), (store a (.func f x y) m).run Try.prog w = stored Try.prog w a (.func f x y) m := fun w a f x y m => run_store Try.prog w a _ m rfl
  have hnq : ∀ (w : World) (F : Nat), (binOp BinOp.neq 62 (.func (.func F) #[] #[]) .nilFunc).run Try.prog w = .ok (.bool true) w := fun _ _ => by kernel_rfl
  have hnn : ∀ (w : World), (binOp BinOp.neq 62 .nilFunc .nilFunc).run Try.prog w = .ok (.bool false) w := fun _ => by kernel_rfl
  go_enter Try.func29, Try.ntmps29
  go_wp2_with fail
  refine Calls.mono (pairs_any _) ?_
  rintro e w1 ⟨rfl, t1⟩
  have T1 : Hid (Touch (fun _ => False) w w1) := ((Touch.refl _ w).alloc _).trans t1
  have R1 : Hid (Room w1 w.heap.size 2) := (Room.new w #[.nilFunc, .nilFunc] 64).keep t1
  have hg : w.heap.size < w1.heap.size := by have := t1.size; simp at this; omega
  clear t1
  go_upto_region 2 with (refine wpList_store_row rfl 92 (.tmp 3) (.tmp 4) rfl w1.heap.size prsV.toArray rfl rfl 92 _ (row_new w1 92 _) (by rw [Try.info24]; rfl) rfl oneCell_prsV ?_)
  have RW : Hid (Row ((w1.alloc (.cells #[.nilFunc, .nilFunc, .nilFunc, .nilFunc, .nilFunc, .nilFunc, .nilFunc, .nilFunc, .nilFunc, .nilFunc, .nilFunc, .nilFunc, .nilFunc, .nilFunc, .nilFunc, .nilFunc, .nilFunc, .nilFunc, .nilFunc, .nilFunc, .nilFunc, .nilFunc, .nilFunc, .nilFunc] 92)).setRow w1.heap.size prsV.toArray) w1.heap.size 92 prsV) := (row_new w1 92 _).setRow prsV.toArray
  have T2 : Hid (Touch (fun _ => False) w ((w1.alloc (.cells #[.nilFunc, .nilFunc, .nilFunc, .nilFunc, .nilFunc, .nilFunc, .nilFunc, .nilFunc, .nilFunc, .nilFunc, .nilFunc, .nilFunc, .nilFunc, .nilFunc, .nilFunc, .nilFunc, .nilFunc, .nilFunc, .nilFunc, .nilFunc, .nilFunc, .nilFunc, .nilFunc, .nilFunc] 92)).setRow w1.heap.size prsV.toArray)) := (T1.out.alloc _).setRow (Or.inr (by omega)) _
  have R2 : Hid (Room ((w1.alloc (.cells #[.nilFunc, .nilFunc, .nilFunc, .nilFunc, .nilFunc, .nilFunc, .nilFunc, .nilFunc, .nilFunc, .nilFunc, .nilFunc, .nilFunc, .nilFunc, .nilFunc, .nilFunc, .nilFunc, .nilFunc, .nilFunc, .nilFunc, .nilFunc, .nilFunc, .nilFunc, .nilFunc, .nilFunc] 92)).setRow w1.heap.size prsV.toArray) w.heap.size 2) := (R1.out.keep ((Touch.refl _ _).alloc _)).touch (Touch.setRow (F := fun k => k = w1.heap.size) (Touch.refl _ _) (Or.inl rfl) _) (by show ¬ w.heap.size = w1.heap.size; omega)
  have hne1 : ¬ w.heap.size = w1.heap.size := by omega
  have hne2 : ¬ w1.heap.size = w.heap.size := by omega
  generalize (w1.alloc (.cells #[.nilFunc, .nilFunc, .nilFunc, .nilFunc, .nilFunc, .nilFunc, .nilFunc, .nilFunc, .nilFunc, .nilFunc, .nilFunc, .nilFunc, .nilFunc, .nilFunc, .nilFunc, .nilFunc, .nilFunc, .nilFunc, .nilFunc, .nilFunc, .nilFunc, .nilFunc, .nilFunc, .nilFunc] 92)).setRow w1.heap.size prsV.toArray = w2 at *
  clear R1 T1
  have hc0 : w2.cell? ⟨w1.heap.size, 20, none⟩ = some (.func (.func 62) #[] #[]) := RW.out.cell 20
  have hc1 : w2.cell? ⟨w1.heap.size, 21, none⟩ = some (.func (.func 63) #[] #[]) := RW.out.cell 21
  go_wp2_with fail
  refine Calls.mono (need_t _ 21 _ rfl) ?_
  rintro e w3 ⟨rfl, rfl⟩
  obtain ⟨zz0, zc0, zf0⟩ := R2.out 0 (by omega)
  obtain ⟨zz1, zc1, zf1⟩ := R2.out 1 (by omega)
  obtain ⟨wz, hwz⟩ : ∃ wz, wz = ((w2.setCell ⟨w.heap.size, 0, none⟩ (.func (.func 62) #[] #[])).setCell ⟨w.heap.size, 1, none⟩ (.func (.func 63) #[] #[])) := ⟨_, rfl⟩
  have zd0 : wz.cell? ⟨w.heap.size, 0, none⟩ = some (.func (.func 62) #[] #[]) := by rw [hwz]; simp [zc0, go_sem]
  have zd1 : wz.cell? ⟨w.heap.size, 1, none⟩ = some (.func (.func 63) #[] #[]) := by rw [hwz]; simp [zc1, go_sem]
  have HUz : Hid (Touch (fun k => k = w.heap.size) w2 wz) := by show Touch _ _ _; rw [hwz]; refine Touch.setCell (F := fun k => k = w.heap.size) (p := ⟨w.heap.size, 1, none⟩) ?_ (Or.inl rfl) _; refine Touch.setCell (F := fun k => k = w.heap.size) (p := ⟨w.heap.size, 0, none⟩) ?_ (Or.inl rfl) _; exact Touch.refl _ _
  have HWz : Hid (wz = ((w2.setCell ⟨w.heap.size, 0, none⟩ (.func (.func 62) #[] #[])).setCell ⟨w.heap.size, 1, none⟩ (.func (.func 63) #[] #[]))) := hwz
  clear hwz
  go_wp2_with fail
  rw [← HWz.out]
  clear HWz zc0 zf0 zc1 zf1
  refine bodyPost_ret (v := .agg #[.func (.func 62) #[] #[], .func (.func 63) #[] #[]]) (by simp [results, Try.results29, go_sem, zd0, zd1]) rfl ?_
  exact ⟨rfl, T2.out.trans' HUz.out (fun i hi e => by omega)⟩

set_option maxHeartbeats 1000000 in
theorem pairOf_11 (w : World) : Calls Try.prog 29 #[.int .u8 11] w fun e w' => e = .returned (.agg #[.func (.func 62) #[] #[], .func (.func 63) #[] #[]]) ∧ Touch (fun _ => False) w w' := by
  have hsf : ∀ (w : World) (a : Addr) (f : Fn) (x y : Array Value) (m : Mode), (store a (.func f x y) m).run Try.prog w = stored Try.prog w a (.func f x y) m := fun w a f x y m => run_store Try.prog w a _ m rfl
  have hnq : ∀ (w : World) (F : Nat), (binOp BinOp.neq 62 (.func (.func F) #[] #[]) .nilFunc).run Try.prog w = .ok (.bool true) w := fun _ _ => by kernel_rfl
  have hnn : ∀ (w : World), (binOp BinOp.neq 62 .nilFunc .nilFunc).run Try.prog w = .ok (.bool false) w := fun _ => by kernel_rfl
  go_enter Try.func29, Try.ntmps29
  go_wp2_with fail
  refine Calls.mono (pairs_any _) ?_
  rintro e w1 ⟨rfl, t1⟩
  have T1 : Hid (Touch (fun _ => False) w w1) := ((Touch.refl _ w).alloc _).trans t1
  have R1 : Hid (Room w1 w.heap.size 2) := (Room.new w #[.nilFunc, .nilFunc] 64).keep t1
  have hg : w.heap.size < w1.heap.size := by have := t1.size; simp at this; omega
  clear t1
  go_upto_region 2 with (refine wpList_store_row rfl 92 (.tmp 3) (.tmp 4) rfl w1.heap.size prsV.toArray rfl rfl 92 _ (row_new w1 92 _) (by rw [Try.info24]; rfl) rfl oneCell_prsV ?_)
  have RW : Hid (Row ((w1.alloc (.cells #[.nilFunc, .nilFunc, .nilFunc, .nilFunc, .nilFunc, .nilFunc, .nilFunc, .nilFunc, .nilFunc, .nilFunc, .nilFunc, .nilFunc, .nilFunc, .nilFunc, .nilFunc, .nilFunc, .nilFunc, .nilFunc, .nilFunc, .nilFunc, .nilFunc, .nilFunc, .nilFunc, .nilFunc] 92)).setRow w1.heap.size prsV.toArray) w1.heap.size 92 prsV) := (row_new w1 92 _).setRow prsV.toArray
  have T2 : Hid (Touch (fun _ => False) w ((w1.alloc (.cells #[.nilFunc, .nilFunc, .nilFunc, .nilFunc, .nilFunc, .nilFunc, .nilFunc, .nilFunc, .nilFunc, .nilFunc, .nilFunc, .nilFunc, .nilFunc, .nilFunc, .nilFunc, .nilFunc, .nilFunc, .nilFunc, .nilFunc, .nilFunc, .nilFunc, .nilFunc, .nilFunc, .nilFunc] 92)).setRow w1.heap.size prsV.toArray)) := (T1.out.alloc _).setRow (Or.inr (by omega)) _
  have R2 : Hid (Room ((w1.alloc (.cells #[.nilFunc, .nilFunc, .nilFunc, .nilFunc, .nilFunc, .nilFunc, .nilFunc, .nilFunc, .nilFunc, .nilFunc, .nilFunc, .nilFunc, .nilFunc, .nilFunc, .nilFunc, .nilFunc, .nilFunc, .nilFunc, .nilFunc, .nilFunc, .nilFunc, .nilFunc, .nilFunc, .nilFunc] 92)).setRow w1.heap.size prsV.toArray) w.heap.size 2) := (R1.out.keep ((Touch.refl _ _).alloc _)).touch (Touch.setRow (F := fun k => k = w1.heap.size) (Touch.refl _ _) (Or.inl rfl) _) (by show ¬ w.heap.size = w1.heap.size; omega)
  have hne1 : ¬ w.heap.size = w1.heap.size := by omega
  have hne2 : ¬ w1.heap.size = w.heap.size := by omega
  generalize (w1.alloc (.cells #[.nilFunc, .nilFunc, .nilFunc, .nilFunc, .nilFunc, .nilFunc, .nilFunc, .nilFunc, .nilFunc, .nilFunc, .nilFunc, .nilFunc, .nilFunc, .nilFunc, .nilFunc, .nilFunc, .nilFunc, .nilFunc, .nilFunc, .nilFunc, .nilFunc, .nilFunc, .nilFunc, .nilFunc] 92)).setRow w1.heap.size prsV.toArray = w2 at *
  clear R1 T1
  have hc0 : w2.cell? ⟨w1.heap.size, 22, none⟩ = some (.func (.func 62) #[] #[]) := RW.out.cell 22
  have hc1 : w2.cell? ⟨w1.heap.size, 23, none⟩ = some (.func (.func 63) #[] #[]) := RW.out.cell 23
  go_wp2_with fail
  refine Calls.mono (need_t _ 21 _ rfl) ?_
  rintro e w3 ⟨rfl, rfl⟩
  obtain ⟨zz0, zc0, zf0⟩ := R2.out 0 (by omega)
  obtain ⟨zz1, zc1, zf1⟩ := R2.out 1 (by omega)
  obtain ⟨wz, hwz⟩ : ∃ wz, wz = ((w2.setCell ⟨w.heap.size, 0, none⟩ (.func (.func 62) #[] #[])).setCell ⟨w.heap.size, 1, none⟩ (.func (.func 63) #[] #[])) := ⟨_, rfl⟩
  have zd0 : wz.cell? ⟨w.heap.size, 0, none⟩ = some (.func (.func 62) #[] #[]) := by rw [hwz]; simp [zc0, go_sem]
  have zd1 : wz.cell? ⟨w.heap.size, 1, none⟩ = some (.func (.func 63) #[] #[]) := by rw [hwz]; simp [zc1, go_sem]
  have HUz : Hid (Touch (fun k => k = w.heap.size) w2 wz) := by show Touch _ _ _; rw [hwz]; refine Touch.setCell (F := fun k => k = w.heap.size) (p := ⟨w.heap.size, 1, none⟩) ?_ (Or.inl rfl) _; refine Touch.setCell (F := fun k => k = w.heap.size) (p := ⟨w.heap.size, 0, none⟩) ?_ (Or.inl rfl) _; exact Touch.refl _ _
  have HWz : Hid (wz = ((w2.setCell ⟨w.heap.size, 0, none⟩ (.func (.func 62) #[] #[])).setCell ⟨w.heap.size, 1, none⟩ (.func (.func 63) #[] #[]))) := hwz
  clear hwz
  go_wp2_with fail
  rw [← HWz.out]
  clear HWz zc0 zf0 zc1 zf1
  refine bodyPost_ret (v := .agg #[.func (.func 62) #[] #[], .func (.func 63) #[] #[]]) (by simp [results, Try.results29, go_sem, zd0, zd1]) rfl ?_
  exact ⟨rfl, T2.out.trans' HUz.out (fun i hi e => by omega)⟩

set_option maxHeartbeats 1000000 in
theorem pairOf_over (x : Int) (h12 : 12 ≤ x) (h256 : x < 256) (w : World) : Calls Try.prog 29 #[.int .u8 x] w fun e w' => e = .panicked (flawC 21) ∧ Touch (fun _ => False) w w' := by
  have hsf : ∀ (w : World) (a : Addr) (f : Fn) (x y : Array Value) (m : Mode), (store a (.func f x y) m).run Try.prog w = stored Try.prog w a (.func f x y) m := fun w a f x y m => run_store Try.prog w a _ m rfl
  have hnq : ∀ (w : World) (F : Nat), (binOp BinOp.neq 62 (.func (.func F) #[] #[]) .nilFunc).run Try.prog w = .ok (.bool true) w := fun _ _ => by kernel_rfl
  have hnn : ∀ (w : World), (binOp BinOp.neq 62 .nilFunc .nilFunc).run Try.prog w = .ok (.bool false) w := fun _ => by kernel_rfl
  go_enter Try.func29, Try.ntmps29
  go_wp2_with fail
  refine Calls.mono (pairs_any _) ?_
  rintro e w1 ⟨rfl, t1⟩
  have T1 : Hid (Touch (fun _ => False) w w1) := ((Touch.refl _ w).alloc _).trans t1
  have R1 : Hid (Room w1 w.heap.size 2) := (Room.new w #[.nilFunc, .nilFunc] 64).keep t1
  have hg : w.heap.size < w1.heap.size := by have := t1.size; simp at this; omega
  clear t1
  go_upto_region 2 with (refine wpList_store_row rfl 92 (.tmp 3) (.tmp 4) rfl w1.heap.size prsV.toArray rfl rfl 92 _ (row_new w1 92 _) (by rw [Try.info24]; rfl) rfl oneCell_prsV ?_)
  have RW : Hid (Row ((w1.alloc (.cells #[.nilFunc, .nilFunc, .nilFunc, .nilFunc, .nilFunc, .nilFunc, .nilFunc, .nilFunc, .nilFunc, .nilFunc, .nilFunc, .nilFunc, .nilFunc, .nilFunc, .nilFunc, .nilFunc, .nilFunc, .nilFunc, .nilFunc, .nilFunc, .nilFunc, .nilFunc, .nilFunc, .nilFunc] 92)).setRow w1.heap.size prsV.toArray) w1.heap.size 92 prsV) := (row_new w1 92 _).setRow prsV.toArray
  have T2 : Hid (Touch (fun _ => False) w ((w1.alloc (.cells #[.nilFunc, .nilFunc, .nilFunc, .nilFunc, .nilFunc, .nilFunc, .nilFunc, .nilFunc, .nilFunc, .nilFunc, .nilFunc, .nilFunc, .nilFunc, .nilFunc, .nilFunc, .nilFunc, .nilFunc, .nilFunc, .nilFunc, .nilFunc, .nilFunc, .nilFunc, .nilFunc, .nilFunc] 92)).setRow w1.heap.size prsV.toArray)) := (T1.out.alloc _).setRow (Or.inr (by omega)) _
  have R2 : Hid (Room ((w1.alloc (.cells #[.nilFunc, .nilFunc, .nilFunc, .nilFunc, .nilFunc, .nilFunc, .nilFunc, .nilFunc, .nilFunc, .nilFunc, .nilFunc, .nilFunc, .nilFunc, .nilFunc, .nilFunc, .nilFunc, .nilFunc, .nilFunc, .nilFunc, .nilFunc, .nilFunc, .nilFunc, .nilFunc, .nilFunc] 92)).setRow w1.heap.size prsV.toArray) w.heap.size 2) := (R1.out.keep ((Touch.refl _ _).alloc _)).touch (Touch.setRow (F := fun k => k = w1.heap.size) (Touch.refl _ _) (Or.inl rfl) _) (by show ¬ w.heap.size = w1.heap.size; omega)
  have hne1 : ¬ w.heap.size = w1.heap.size := by omega
  have hne2 : ¬ w1.heap.size = w.heap.size := by omega
  generalize (w1.alloc (.cells #[.nilFunc, .nilFunc, .nilFunc, .nilFunc, .nilFunc, .nilFunc, .nilFunc, .nilFunc, .nilFunc, .nilFunc, .nilFunc, .nilFunc, .nilFunc, .nilFunc, .nilFunc, .nilFunc, .nilFunc, .nilFunc, .nilFunc, .nilFunc, .nilFunc, .nilFunc, .nilFunc, .nilFunc] 92)).setRow w1.heap.size prsV.toArray = w2 at *
  clear R1 T1
  have hlt : ¬ x < 12 := by omega
  go_wp2_with fail
  refine Calls.mono (need_f _ 21 _ (by first | rfl | simp)) ?_
  rintro e w3 ⟨rfl, rfl⟩
  exact ⟨rfl, rfl, T2.out⟩

end Go.Proofs.Ytfdpmlogieaiaaa
