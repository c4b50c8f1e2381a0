/- Contracts: pairs, pairOf. -/
import Derived.Test.YtjffcflhbnmjmaaGreatStFace
import Derived.Test.YtjffcflhbnmjmaaGreatRowB
import Derived.Test.YtjffcflhbnmjmaaGreatStRd2
import Derived.Deep.DeepCutAuto
namespace Go.Proofs.YtjffcflhbnmjmaaGreat
open Go.RowKit
set_option linter.unusedVariables false
set_option maxRecDepth 100000

/-- The table's cells. -/
def prsV : List Value := [.nilFunc,
  .nilFunc,
  .func (.func 123) #[] #[],
  .func (.func 124) #[] #[],
  .func (.func 125) #[] #[],
  .func (.func 126) #[] #[],
  .func (.func 127) #[] #[],
  .func (.func 128) #[] #[],
  .func (.func 129) #[] #[],
  .func (.func 130) #[] #[],
  .func (.func 119) #[] #[],
  .func (.func 120) #[] #[],
  .nilFunc,
  .nilFunc,
  .func (.func 119) #[] #[],
  .func (.func 120) #[] #[],
  .nilFunc,
  .nilFunc,
  .func (.func 121) #[] #[],
  .func (.func 122) #[] #[],
  .func (.func 121) #[] #[],
  .func (.func 122) #[] #[],
  .func (.func 121) #[] #[],
  .func (.func 122) #[] #[]]
theorem Tryz.info24 : (Tryz.prog.info? 173).map (·.size) = some 24 := by kernel_rfl
theorem oneCell_prsV : prsV.toArray.all (·.oneCell') = true := by decide +kernel
set_option maxHeartbeats 1000000 in
theorem pairs_any (w : World) : Calls Tryz.prog 100 #[] w fun e w' => e = .returned (.agg prsV.toArray) ∧ Touch (fun _ => False) w w' := by
  go_enter Tryz.func100, Tryz.ntmps100
  have hsf : ∀ (w : World) (a : Addr) (f : Fn) (x y : Array Value) (m : Mode), (store a (.func f x y) m).run Tryz.prog w = stored Tryz.prog w a (.func f x y) m := fun w a f x y m => run_store Tryz.prog w a _ m rfl
  go_upto_region 3 with fail
  have HRW : Hid (Row (((w.alloc (.cells #[.nilFunc, .nilFunc, .nilFunc, .nilFunc, .nilFunc, .nilFunc, .nilFunc, .nilFunc, .nilFunc, .nilFunc, .nilFunc, .nilFunc, .nilFunc, .nilFunc, .nilFunc, .nilFunc, .nilFunc, .nilFunc, .nilFunc, .nilFunc, .nilFunc, .nilFunc, .nilFunc, .nilFunc] 173)).alloc (.cells #[.func (.func 119) #[] #[], .func (.func 120) #[] #[]] 145)).alloc (.cells #[.func (.func 121) #[] #[], .func (.func 122) #[] #[]] 145)) w.heap.size 173 [.nilFunc, .nilFunc, .nilFunc, .nilFunc, .nilFunc, .nilFunc, .nilFunc, .nilFunc, .nilFunc, .nilFunc, .nilFunc, .nilFunc, .nilFunc, .nilFunc, .nilFunc, .nilFunc, .nilFunc, .nilFunc, .nilFunc, .nilFunc, .nilFunc, .nilFunc, .nilFunc, .nilFunc]) := (row_new w 173 #[.nilFunc, .nilFunc, .nilFunc, .nilFunc, .nilFunc, .nilFunc, .nilFunc, .nilFunc, .nilFunc, .nilFunc, .nilFunc, .nilFunc, .nilFunc, .nilFunc, .nilFunc, .nilFunc, .nilFunc, .nilFunc, .nilFunc, .nilFunc, .nilFunc, .nilFunc, .nilFunc, .nilFunc]).keep (((Touch.refl _ _).alloc _).alloc _)
  have HTW : Hid (Touch (fun _ => False) w (((w.alloc (.cells #[.nilFunc, .nilFunc, .nilFunc, .nilFunc, .nilFunc, .nilFunc, .nilFunc, .nilFunc, .nilFunc, .nilFunc, .nilFunc, .nilFunc, .nilFunc, .nilFunc, .nilFunc, .nilFunc, .nilFunc, .nilFunc, .nilFunc, .nilFunc, .nilFunc, .nilFunc, .nilFunc, .nilFunc] 173)).alloc (.cells #[.func (.func 119) #[] #[], .func (.func 120) #[] #[]] 145)).alloc (.cells #[.func (.func 121) #[] #[], .func (.func 122) #[] #[]] 145))) := ((((Touch.refl _ w).alloc _).alloc _).alloc _)
  have o0 : (((w.alloc (.cells #[.nilFunc, .nilFunc, .nilFunc, .nilFunc, .nilFunc, .nilFunc, .nilFunc, .nilFunc, .nilFunc, .nilFunc, .nilFunc, .nilFunc, .nilFunc, .nilFunc, .nilFunc, .nilFunc, .nilFunc, .nilFunc, .nilFunc, .nilFunc, .nilFunc, .nilFunc, .nilFunc, .nilFunc] 173)).alloc (.cells #[.func (.func 119) #[] #[], .func (.func 120) #[] #[]] 145)).alloc (.cells #[.func (.func 121) #[] #[], .func (.func 122) #[] #[]] 145)).cell? ⟨w.heap.size + 1, 0, none⟩ = some (.func (.func 119) #[] #[]) := by simp [go_sem]
  have o1 : (((w.alloc (.cells #[.nilFunc, .nilFunc, .nilFunc, .nilFunc, .nilFunc, .nilFunc, .nilFunc, .nilFunc, .nilFunc, .nilFunc, .nilFunc, .nilFunc, .nilFunc, .nilFunc, .nilFunc, .nilFunc, .nilFunc, .nilFunc, .nilFunc, .nilFunc, .nilFunc, .nilFunc, .nilFunc, .nilFunc] 173)).alloc (.cells #[.func (.func 119) #[] #[], .func (.func 120) #[] #[]] 145)).alloc (.cells #[.func (.func 121) #[] #[], .func (.func 122) #[] #[]] 145)).cell? ⟨w.heap.size + 1, 1, none⟩ = some (.func (.func 120) #[] #[]) := by simp [go_sem]
  have p0 : (((w.alloc (.cells #[.nilFunc, .nilFunc, .nilFunc, .nilFunc, .nilFunc, .nilFunc, .nilFunc, .nilFunc, .nilFunc, .nilFunc, .nilFunc, .nilFunc, .nilFunc, .nilFunc, .nilFunc, .nilFunc, .nilFunc, .nilFunc, .nilFunc, .nilFunc, .nilFunc, .nilFunc, .nilFunc, .nilFunc] 173)).alloc (.cells #[.func (.func 119) #[] #[], .func (.func 120) #[] #[]] 145)).alloc (.cells #[.func (.func 121) #[] #[], .func (.func 122) #[] #[]] 145)).cell? ⟨w.heap.size + 1 + 1, 0, none⟩ = some (.func (.func 121) #[] #[]) := by simp [go_sem]
  have p1 : (((w.alloc (.cells #[.nilFunc, .nilFunc, .nilFunc, .nilFunc, .nilFunc, .nilFunc, .nilFunc, .nilFunc, .nilFunc, .nilFunc, .nilFunc, .nilFunc, .nilFunc, .nilFunc, .nilFunc, .nilFunc, .nilFunc, .nilFunc, .nilFunc, .nilFunc, .nilFunc, .nilFunc, .nilFunc, .nilFunc] 173)).alloc (.cells #[.func (.func 119) #[] #[], .func (.func 120) #[] #[]] 145)).alloc (.cells #[.func (.func 121) #[] #[], .func (.func 122) #[] #[]] 145)).cell? ⟨w.heap.size + 1 + 1, 1, none⟩ = some (.func (.func 122) #[] #[]) := by simp [go_sem]
  generalize ((w.alloc (.cells #[.nilFunc, .nilFunc, .nilFunc, .nilFunc, .nilFunc, .nilFunc, .nilFunc, .nilFunc, .nilFunc, .nilFunc, .nilFunc, .nilFunc, .nilFunc, .nilFunc, .nilFunc, .nilFunc, .nilFunc, .nilFunc, .nilFunc, .nilFunc, .nilFunc, .nilFunc, .nilFunc, .nilFunc] 173)).alloc (.cells #[.func (.func 119) #[] #[], .func (.func 120) #[] #[]] 145)).alloc (.cells #[.func (.func 121) #[] #[], .func (.func 122) #[] #[]] 145) = w1 at *
  clear hsf
  go_wp2_with (refine wpList_store_row rfl 173 (.tmp 0) (.tmp 14) rfl w.heap.size prsV.toArray rfl rfl 173 _ HRW.out (by rw [Tryz.info24]; rfl) rfl oneCell_prsV ?_)
  refine bodyPost_ret (results_cell_row Tryz.results100 _ _ w.heap.size 173 prsV.toArray (0, 0) _ rfl (HRW.out.setRow prsV.toArray) Tryz.underlying173 rfl (by rw [Tryz.info24]; rfl)) rfl ?_
  exact ⟨rfl, HTW.out.setRow (Or.inr (Nat.le_refl _)) _⟩
set_option maxHeartbeats 1000000 in
theorem pairOf_0 (w : World) : Calls Tryz.prog 78 #[.int .u8 0] w fun e w' => e = .panicked (flawC 21) ∧ Touch (fun _ => False) w w' := by
  have hsf : ∀ (w : World) (a : Addr) (f : Fn) (x y : Array Value) (m : Mode), (store a (.func f x y) m).run Tryz.prog w = stored Tryz.prog w a (.func f x y) m := fun w a f x y m => run_store Tryz.prog w a _ m rfl
  have hnq : ∀ (w : World) (F : Nat), (binOp BinOp.neq 143 (.func (.func F) #[] #[]) .nilFunc).run Tryz.prog w = .ok (.bool true) w := fun _ _ => by kernel_rfl
  have hnn : ∀ (w : World), (binOp BinOp.neq 143 .nilFunc .nilFunc).run Tryz.prog w = .ok (.bool false) w := fun _ => by kernel_rfl
  go_enter Tryz.func78, Tryz.ntmps78
  go_wp2_with fail
  refine Calls.mono (pairs_any _) ?_
  rintro e w1 ⟨rfl, t1⟩
  have T1 : Hid (Touch (fun _ => False) w w1) := ((Touch.refl _ w).alloc _).trans t1
  have R1 : Hid (Room w1 w.heap.size 2) := (Room.new w #[.nilFunc, .nilFunc] 145).keep t1
  have hg : w.heap.size < w1.heap.size := by have := t1.size; simp at this; omega
  clear t1
  go_upto_region 2 with (refine wpList_store_row rfl 173 (.tmp 3) (.tmp 4) rfl w1.heap.size prsV.toArray rfl rfl 173 _ (row_new w1 173 _) (by rw [Tryz.info24]; rfl) rfl oneCell_prsV ?_)
  have RW : Hid (Row ((w1.alloc (.cells #[.nilFunc, .nilFunc, .nilFunc, .nilFunc, .nilFunc, .nilFunc, .nilFunc, .nilFunc, .nilFunc, .nilFunc, .nilFunc, .nilFunc, .nilFunc, .nilFunc, .nilFunc, .nilFunc, .nilFunc, .nilFunc, .nilFunc, .nilFunc, .nilFunc, .nilFunc, .nilFunc, .nilFunc] 173)).setRow w1.heap.size prsV.toArray) w1.heap.size 173 prsV) := (row_new w1 173 _).setRow prsV.toArray
  have T2 : Hid (Touch (fun _ => False) w ((w1.alloc (.cells #[.nilFunc, .nilFunc, .nilFunc, .nilFunc, .nilFunc, .nilFunc, .nilFunc, .nilFunc, .nilFunc, .nilFunc, .nilFunc, .nilFunc, .nilFunc, .nilFunc, .nilFunc, .nilFunc, .nilFunc, .nilFunc, .nilFunc, .nilFunc, .nilFunc, .nilFunc, .nilFunc, .nilFunc] 173)).setRow w1.heap.size prsV.toArray)) := (T1.out.alloc _).setRow (Or.inr (by omega)) _
  have R2 : Hid (Room ((w1.alloc (.cells #[.nilFunc, .nilFunc, .nilFunc, .nilFunc, .nilFunc, .nilFunc, .nilFunc, .nilFunc, .nilFunc, .nilFunc, .nilFunc, .nilFunc, .nilFunc, .nilFunc, .nilFunc, .nilFunc, .nilFunc, .nilFunc, .nilFunc, .nilFunc, .nilFunc, .nilFunc, .nilFunc, .nilFunc] 173)).setRow w1.heap.size prsV.toArray) w.heap.size 2) := (R1.out.keep ((Touch.refl _ _).alloc _)).touch (Touch.setRow (F := fun k => k = w1.heap.size) (Touch.refl _ _) (Or.inl rfl) _) (by show ¬ w.heap.size = w1.heap.size; omega)
  have hne1 : ¬ w.heap.size = w1.heap.size := by omega
  have hne2 : ¬ w1.heap.size = w.heap.size := by omega
  generalize (w1.alloc (.cells #[.nilFunc, .nilFunc, .nilFunc, .nilFunc, .nilFunc, .nilFunc, .nilFunc, .nilFunc, .nilFunc, .nilFunc, .nilFunc, .nilFunc, .nilFunc, .nilFunc, .nilFunc, .nilFunc, .nilFunc, .nilFunc, .nilFunc, .nilFunc, .nilFunc, .nilFunc, .nilFunc, .nilFunc] 173)).setRow w1.heap.size prsV.toArray = w2 at *
  clear R1 T1
  have hc1 : w2.cell? ⟨w1.heap.size, 1, none⟩ = some .nilFunc := RW.out.cell 1
  go_wp2_with fail
  refine Calls.mono (need_f _ 21 _ rfl) ?_
  rintro e w3 ⟨rfl, rfl⟩
  exact ⟨rfl, rfl, T2.out⟩

set_option maxHeartbeats 1000000 in
theorem pairOf_1 (w : World) : Calls Tryz.prog 78 #[.int .u8 1] w fun e w' => e = .returned (.agg #[.func (.func 123) #[] #[], .func (.func 124) #[] #[]]) ∧ Touch (fun _ => False) w w' := by
  have hsf : ∀ (w : World) (a : Addr) (f : Fn) (x y : Array Value) (m : Mode), (store a (.func f x y) m).run Tryz.prog w = stored Tryz.prog w a (.func f x y) m := fun w a f x y m => run_store Tryz.prog w a _ m rfl
  have hnq : ∀ (w : World) (F : Nat), (binOp BinOp.neq 143 (.func (.func F) #[] #[]) .nilFunc).run Tryz.prog w = .ok (.bool true) w := fun _ _ => by kernel_rfl
  have hnn : ∀ (w : World), (binOp BinOp.neq 143 .nilFunc .nilFunc).run Tryz.prog w = .ok (.bool false) w := fun _ => by kernel_rfl
  go_enter Tryz.func78, Tryz.ntmps78
  go_wp2_with fail
  refine Calls.mono (pairs_any _) ?_
  rintro e w1 ⟨rfl, t1⟩
  have T1 : Hid (Touch (fun _ => False) w w1) := ((Touch.refl _ w).alloc _).trans t1
  have R1 : Hid (Room w1 w.heap.size 2) := (Room.new w #[.nilFunc, .nilFunc] 145).keep t1
  have hg : w.heap.size < w1.heap.size := by have := t1.size; simp at this; omega
  clear t1
  go_upto_region 2 with (refine wpList_store_row rfl 173 (.tmp 3) (.tmp 4) rfl w1.heap.size prsV.toArray rfl rfl 173 _ (row_new w1 173 _) (by rw [Tryz.info24]; rfl) rfl oneCell_prsV ?_)
  have RW : Hid (Row ((w1.alloc (.cells #[.nilFunc, .nilFunc, .nilFunc, .nilFunc, .nilFunc, .nilFunc, .nilFunc, .nilFunc, .nilFunc, .nilFunc, .nilFunc, .nilFunc, .nilFunc, .nilFunc, .nilFunc, .nilFunc, .nilFunc, .nilFunc, .nilFunc, .nilFunc, .nilFunc, .nilFunc, .nilFunc, .nilFunc] 173)).setRow w1.heap.size prsV.toArray) w1.heap.size 173 prsV) := (row_new w1 173 _).setRow prsV.toArray
  have T2 : Hid (Touch (fun _ => False) w ((w1.alloc (.cells #[.nilFunc, .nilFunc, .nilFunc, .nilFunc, .nilFunc, .nilFunc, .nilFunc, .nilFunc, .nilFunc, .nilFunc, .nilFunc, .nilFunc, .nilFunc, .nilFunc, .nilFunc, .nilFunc, .nilFunc, .nilFunc, .nilFunc, .nilFunc, .nilFunc, .nilFunc, .nilFunc, .nilFunc] 173)).setRow w1.heap.size prsV.toArray)) := (T1.out.alloc _).setRow (Or.inr (by omega)) _
  have R2 : Hid (Room ((w1.alloc (.cells #[.nilFunc, .nilFunc, .nilFunc, .nilFunc, .nilFunc, .nilFunc, .nilFunc, .nilFunc, .nilFunc, .nilFunc, .nilFunc, .nilFunc, .nilFunc, .nilFunc, .nilFunc, .nilFunc, .nilFunc, .nilFunc, .nilFunc, .nilFunc, .nilFunc, .nilFunc, .nilFunc, .nilFunc] 173)).setRow w1.heap.size prsV.toArray) w.heap.size 2) := (R1.out.keep ((Touch.refl _ _).alloc _)).touch (Touch.setRow (F := fun k => k = w1.heap.size) (Touch.refl _ _) (Or.inl rfl) _) (by show ¬ w.heap.size = w1.heap.size; omega)
  have hne1 : ¬ w.heap.size = w1.heap.size := by omega
  have hne2 : ¬ w1.heap.size = w.heap.size := by omega
  generalize (w1.alloc (.cells #[.nilFunc, .nilFunc, .nilFunc, .nilFunc, .nilFunc, .nilFunc, .nilFunc, .nilFunc, .nilFunc, .nilFunc, .nilFunc, .nilFunc, .nilFunc, .nilFunc, .nilFunc, .nilFunc, .nilFunc, .nilFunc, .nilFunc, .nilFunc, .nilFunc, .nilFunc, .nilFunc, .nilFunc] 173)).setRow w1.heap.size prsV.toArray = w2 at *
  clear R1 T1
  have hc0 : w2.cell? ⟨w1.heap.size, 2, none⟩ = some (.func (.func 123) #[] #[]) := RW.out.cell 2
  have hc1 : w2.cell? ⟨w1.heap.size, 3, none⟩ = some (.func (.func 124) #[] #[]) := RW.out.cell 3
  go_wp2_with fail
  refine Calls.mono (need_t _ 21 _ rfl) ?_
  rintro e w3 ⟨rfl, rfl⟩
  obtain ⟨zz0, zc0, zf0⟩ := R2.out 0 (by omega)
  obtain ⟨zz1, zc1, zf1⟩ := R2.out 1 (by omega)
  obtain ⟨wz, hwz⟩ : ∃ wz, wz = ((w2.setCell ⟨w.heap.size, 0, none⟩ (.func (.func 123) #[] #[])).setCell ⟨w.heap.size, 1, none⟩ (.func (.func 124) #[] #[])) := ⟨_, rfl⟩
  have zd0 : wz.cell? ⟨w.heap.size, 0, none⟩ = some (.func (.func 123) #[] #[]) := by rw [hwz]; simp [zc0, go_sem]
  have zd1 : wz.cell? ⟨w.heap.size, 1, none⟩ = some (.func (.func 124) #[] #[]) := by rw [hwz]; simp [zc1, go_sem]
  have HUz : Hid (Touch (fun k => k = w.heap.size) w2 wz) := by show Touch _ _ _; rw [hwz]; refine Touch.setCell (F := fun k => k = w.heap.size) (p := ⟨w.heap.size, 1, none⟩) ?_ (Or.inl rfl) _; refine Touch.setCell (F := fun k => k = w.heap.size) (p := ⟨w.heap.size, 0, none⟩) ?_ (Or.inl rfl) _; exact Touch.refl _ _
  have HWz : Hid (wz = ((w2.setCell ⟨w.heap.size, 0, none⟩ (.func (.func 123) #[] #[])).setCell ⟨w.heap.size, 1, none⟩ (.func (.func 124) #[] #[]))) := hwz
  clear hwz
  go_wp2_with fail
  rw [← HWz.out]
  clear HWz zc0 zf0 zc1 zf1
  refine bodyPost_ret (v := .agg #[.func (.func 123) #[] #[], .func (.func 124) #[] #[]]) (by simp [results, Tryz.results78, go_sem, zd0, zd1]) rfl ?_
  exact ⟨rfl, T2.out.trans' HUz.out (fun i hi e => by omega)⟩

set_option maxHeartbeats 1000000 in
theorem pairOf_2 (w : World) : Calls Tryz.prog 78 #[.int .u8 2] w fun e w' => e = .returned (.agg #[.func (.func 125) #[] #[], .func (.func 126) #[] #[]]) ∧ Touch (fun _ => False) w w' := by
  have hsf : ∀ (w : World) (a : Addr) (f : Fn) (x y : Array Value) (m : Mode), (store a (.func f x y) m).run Tryz.prog w = stored Tryz.prog w a (.func f x y) m := fun w a f x y m => run_store Tryz.prog w a _ m rfl
  have hnq : ∀ (w : World) (F : Nat), (binOp BinOp.neq 143 (.func (.func F) #[] #[]) .nilFunc).run Tryz.prog w = .ok (.bool true) w := fun _ _ => by kernel_rfl
  have hnn : ∀ (w : World), (binOp BinOp.neq 143 .nilFunc .nilFunc).run Tryz.prog w = .ok (.bool false) w := fun _ => by kernel_rfl
  go_enter Tryz.func78, Tryz.ntmps78
  go_wp2_with fail
  refine Calls.mono (pairs_any _) ?_
  rintro e w1 ⟨rfl, t1⟩
  have T1 : Hid (Touch (fun _ => False) w w1) := ((Touch.refl _ w).alloc _).trans t1
  have R1 : Hid (Room w1 w.heap.size 2) := (Room.new w #[.nilFunc, .nilFunc] 145).keep t1
  have hg : w.heap.size < w1.heap.size := by have := t1.size; simp at this; omega
  clear t1
  go_upto_region 2 with (refine wpList_store_row rfl 173 (.tmp 3) (.tmp 4) rfl w1.heap.size prsV.toArray rfl rfl 173 _ (row_new w1 173 _) (by rw [Tryz.info24]; rfl) rfl oneCell_prsV ?_)
  have RW : Hid (Row ((w1.alloc (.cells #[.nilFunc, .nilFunc, .nilFunc, .nilFunc, .nilFunc, .nilFunc, .nilFunc, .nilFunc, .nilFunc, .nilFunc, .nilFunc, .nilFunc, .nilFunc, .nilFunc, .nilFunc, .nilFunc, .nilFunc, .nilFunc, .nilFunc, .nilFunc, .nilFunc, .nilFunc, .nilFunc, .nilFunc] 173)).setRow w1.heap.size prsV.toArray) w1.heap.size 173 prsV) := (row_new w1 173 _).setRow prsV.toArray
  have T2 : Hid (Touch (fun _ => False) w ((w1.alloc (.cells #[.nilFunc, .nilFunc, .nilFunc, .nilFunc, .nilFunc, .nilFunc, .nilFunc, .nilFunc, .nilFunc, .nilFunc, .nilFunc, .nilFunc, .nilFunc, .nilFunc, .nilFunc, .nilFunc, .nilFunc, .nilFunc, .nilFunc, .nilFunc, .nilFunc, .nilFunc, .nilFunc, .nilFunc] 173)).setRow w1.heap.size prsV.toArray)) := (T1.out.alloc _).setRow (Or.inr (by omega)) _
  have R2 : Hid (Room ((w1.alloc (.cells #[.nilFunc, .nilFunc, .nilFunc, .nilFunc, .nilFunc, .nilFunc, .nilFunc, .nilFunc, .nilFunc, .nilFunc, .nilFunc, .nilFunc, .nilFunc, .nilFunc, .nilFunc, .nilFunc, .nilFunc, .nilFunc, .nilFunc, .nilFunc, .nilFunc, .nilFunc, .nilFunc, .nilFunc] 173)).setRow w1.heap.size prsV.toArray) w.heap.size 2) := (R1.out.keep ((Touch.refl _ _).alloc _)).touch (Touch.setRow (F := fun k => k = w1.heap.size) (Touch.refl _ _) (Or.inl rfl) _) (by show ¬ w.heap.size = w1.heap.size; omega)
  have hne1 : ¬ w.heap.size = w1.heap.size := by omega
  have hne2 : ¬ w1.heap.size = w.heap.size := by omega
  generalize (w1.alloc (.cells #[.nilFunc, .nilFunc, .nilFunc, .nilFunc, .nilFunc, .nilFunc, .nilFunc, .nilFunc, .nilFunc, .nilFunc, .nilFunc, .nilFunc, .nilFunc, .nilFunc, .nilFunc, .nilFunc, .nilFunc, .nilFunc, .nilFunc, .nilFunc, .nilFunc, .nilFunc, .nilFunc, .nilFunc] 173)).setRow w1.heap.size prsV.toArray = w2 at *
  clear R1 T1
  have hc0 : w2.cell? ⟨w1.heap.size, 4, none⟩ = some (.func (.func 125) #[] #[]) := RW.out.cell 4
  have hc1 : w2.cell? ⟨w1.heap.size, 5, none⟩ = some (.func (.func 126) #[] #[]) := RW.out.cell 5
  go_wp2_with fail
  refine Calls.mono (need_t _ 21 _ rfl) ?_
  rintro e w3 ⟨rfl, rfl⟩
  obtain ⟨zz0, zc0, zf0⟩ := R2.out 0 (by omega)
  obtain ⟨zz1, zc1, zf1⟩ := R2.out 1 (by omega)
  obtain ⟨wz, hwz⟩ : ∃ wz, wz = ((w2.setCell ⟨w.heap.size, 0, none⟩ (.func (.func 125) #[] #[])).setCell ⟨w.heap.size, 1, none⟩ (.func (.func 126) #[] #[])) := ⟨_, rfl⟩
  have zd0 : wz.cell? ⟨w.heap.size, 0, none⟩ = some (.func (.func 125) #[] #[]) := by rw [hwz]; simp [zc0, go_sem]
  have zd1 : wz.cell? ⟨w.heap.size, 1, none⟩ = some (.func (.func 126) #[] #[]) := by rw [hwz]; simp [zc1, go_sem]
  have HUz : Hid (Touch (fun k => k = w.heap.size) w2 wz) := by show Touch _ _ _; rw [hwz]; refine Touch.setCell (F := fun k => k = w.heap.size) (p := ⟨w.heap.size, 1, none⟩) ?_ (Or.inl rfl) _; refine Touch.setCell (F := fun k => k = w.heap.size) (p := ⟨w.heap.size, 0, none⟩) ?_ (Or.inl rfl) _; exact Touch.refl _ _
  have HWz : Hid (wz = ((w2.setCell ⟨w.heap.size, 0, none⟩ (.func (.func 125) #[] #[])).setCell ⟨w.heap.size, 1, none⟩ (.func (.func 126) #[] #[]))) := hwz
  clear hwz
  go_wp2_with fail
  rw [← HWz.out]
  clear HWz zc0 zf0 zc1 zf1
  refine bodyPost_ret (v := .agg #[.func (.func 125) #[] #[], .func (.func 126) #[] #[]]) (by simp [results, Tryz.results78, go_sem, zd0, zd1]) rfl ?_
  exact ⟨rfl, T2.out.trans' HUz.out (fun i hi e => by omega)⟩

set_option maxHeartbeats 1000000 in
theorem pairOf_3 (w : World) : Calls Tryz.prog 78 #[.int .u8 3] w fun e w' => e = .returned (.agg #[.func (.func 127) #[] #[], .func (.func 128) #[] #[]]) ∧ Touch (fun _ => False) w w' := by
  have hsf : ∀ (w : World) (a : Addr) (f : Fn) (x y : Array Value) (m : Mode), (store a (.func f x y) m).run Tryz.prog w = stored Tryz.prog w a (.func f x y) m := fun w a f x y m => run_store Tryz.prog w a _ m rfl
  have hnq : ∀ (w : World) (F : Nat), (binOp BinOp.neq 143 (.func (.func F) #[] #[]) .nilFunc).run Tryz.prog w = .ok (.bool true) w := fun _ _ => by kernel_rfl
  have hnn : ∀ (w : World), (binOp BinOp.neq 143 .nilFunc .nilFunc).run Tryz.prog w = .ok (.bool false) w := fun _ => by kernel_rfl
  go_enter Tryz.func78, Tryz.ntmps78
  go_wp2_with fail
  refine Calls.mono (pairs_any _) ?_
  rintro e w1 ⟨rfl, t1⟩
  have T1 : Hid (Touch (fun _ => False) w w1) := ((Touch.refl _ w).alloc _).trans t1
  have R1 : Hid (Room w1 w.heap.size 2) := (Room.new w #[.nilFunc, .nilFunc] 145).keep t1
  have hg : w.heap.size < w1.heap.size := by have := t1.size; simp at this; omega
  clear t1
  go_upto_region 2 with (refine wpList_store_row rfl 173 (.tmp 3) (.tmp 4) rfl w1.heap.size prsV.toArray rfl rfl 173 _ (row_new w1 173 _) (by rw [Tryz.info24]; rfl) rfl oneCell_prsV ?_)
  have RW : Hid (Row ((w1.alloc (.cells #[.nilFunc, .nilFunc, .nilFunc, .nilFunc, .nilFunc, .nilFunc, .nilFunc, .nilFunc, .nilFunc, .nilFunc, .nilFunc, .nilFunc, .nilFunc, .nilFunc, .nilFunc, .nilFunc, .nilFunc, .nilFunc, .nilFunc, .nilFunc, .nilFunc, .nilFunc, .nilFunc, .nilFunc] 173)).setRow w1.heap.size prsV.toArray) w1.heap.size 173 prsV) := (row_new w1 173 _).setRow prsV.toArray
  have T2 : Hid (Touch (fun _ => False) w ((w1.alloc (.cells #[.nilFunc, .nilFunc, .nilFunc, .nilFunc, .nilFunc, .nilFunc, .nilFunc, .nilFunc, .nilFunc, .nilFunc, .nilFunc, .nilFunc, .nilFunc, .nilFunc, .nilFunc, .nilFunc, .nilFunc, .nilFunc, .nilFunc, .nilFunc, .nilFunc, .nilFunc, .nilFunc, .nilFunc] 173)).setRow w1.heap.size prsV.toArray)) := (T1.out.alloc _).setRow (Or.inr (by omega)) _
  have R2 : Hid (Room ((w1.alloc (.cells #[.nilFunc, .nilFunc, .nilFunc, .nilFunc, .nilFunc, .nilFunc, .nilFunc, .nilFunc, .nilFunc, .nilFunc, .nilFunc, .nilFunc, .nilFunc, .nilFunc, .nilFunc, .nilFunc, .nilFunc, .nilFunc, .nilFunc, .nilFunc, .nilFunc, .nilFunc, .nilFunc, .nilFunc] 173)).setRow w1.heap.size prsV.toArray) w.heap.size 2) := (R1.out.keep ((Touch.refl _ _).alloc _)).touch (Touch.setRow (F := fun k => k = w1.heap.size) (Touch.refl _ _) (Or.inl rfl) _) (by show ¬ w.heap.size = w1.heap.size; omega)
  have hne1 : ¬ w.heap.size = w1.heap.size := by omega
  have hne2 : ¬ w1.heap.size = w.heap.size := by omega
  generalize (w1.alloc (.cells #[.nilFunc, .nilFunc, .nilFunc, .nilFunc, .nilFunc, .nilFunc, .nilFunc, .nilFunc, .nilFunc, .nilFunc, .nilFunc, .nilFunc, .nilFunc, .nilFunc, .nilFunc, .nilFunc, .nilFunc, .nilFunc, .nilFunc, .nilFunc, .nilFunc, .nilFunc, .nilFunc, .nilFunc] 173)).setRow w1.heap.size prsV.toArray = w2 at *
  clear R1 T1
  have hc0 : w2.cell? ⟨w1.heap.size, 6, none⟩ = some (.func (.func 127) #[] #[]) := RW.out.cell 6
  have hc1 : w2.cell? ⟨w1.heap.size, 7, none⟩ = some (.func (.func 128) #[] #[]) := RW.out.cell 7
  go_wp2_with fail
  refine Calls.mono (need_t _ 21 _ rfl) ?_
  rintro e w3 ⟨rfl, rfl⟩
  obtain ⟨zz0, zc0, zf0⟩ := R2.out 0 (by omega)
  obtain ⟨zz1, zc1, zf1⟩ := R2.out 1 (by omega)
  obtain ⟨wz, hwz⟩ : ∃ wz, wz = ((w2.setCell ⟨w.heap.size, 0, none⟩ (.func (.func 127) #[] #[])).setCell ⟨w.heap.size, 1, none⟩ (.func (.func 128) #[] #[])) := ⟨_, rfl⟩
  have zd0 : wz.cell? ⟨w.heap.size, 0, none⟩ = some (.func (.func 127) #[] #[]) := by rw [hwz]; simp [zc0, go_sem]
  have zd1 : wz.cell? ⟨w.heap.size, 1, none⟩ = some (.func (.func 128) #[] #[]) := by rw [hwz]; simp [zc1, go_sem]
  have HUz : Hid (Touch (fun k => k = w.heap.size) w2 wz) := by show Touch _ _ _; rw [hwz]; refine Touch.setCell (F := fun k => k = w.heap.size) (p := ⟨w.heap.size, 1, none⟩) ?_ (Or.inl rfl) _; refine Touch.setCell (F := fun k => k = w.heap.size) (p := ⟨w.heap.size, 0, none⟩) ?_ (Or.inl rfl) _; exact Touch.refl _ _
  have HWz : Hid (wz = ((w2.setCell ⟨w.heap.size, 0, none⟩ (.func (.func 127) #[] #[])).setCell ⟨w.heap.size, 1, none⟩ (.func (.func 128) #[] #[]))) := hwz
  clear hwz
  go_wp2_with fail
  rw [← HWz.out]
  clear HWz zc0 zf0 zc1 zf1
  refine bodyPost_ret (v := .agg #[.func (.func 127) #[] #[], .func (.func 128) #[] #[]]) (by simp [results, Tryz.results78, go_sem, zd0, zd1]) rfl ?_
  exact ⟨rfl, T2.out.trans' HUz.out (fun i hi e => by omega)⟩

set_option maxHeartbeats 1000000 in
theorem pairOf_4 (w : World) : Calls Tryz.prog 78 #[.int .u8 4] w fun e w' => e = .returned (.agg #[.func (.func 129) #[] #[], .func (.func 130) #[] #[]]) ∧ Touch (fun _ => False) w w' := by
  have hsf : ∀ (w : World) (a : Addr) (f : Fn) (x y : Array Value) (m : Mode), (store a (.func f x y) m).run Tryz.prog w = stored Tryz.prog w a (.func f x y) m := fun w a f x y m => run_store Tryz.prog w a _ m rfl
  have hnq : ∀ (w : World) (F : Nat), (binOp BinOp.neq 143 (.func (.func F) #[] #[]) .nilFunc).run Tryz.prog w = .ok (.bool true) w := fun _ _ => by kernel_rfl
  have hnn : ∀ (w : World), (binOp BinOp.neq 143 .nilFunc .nilFunc).run Tryz.prog w = .ok (.bool false) w := fun _ => by kernel_rfl
  go_enter Tryz.func78, Tryz.ntmps78
  go_wp2_with fail
  refine Calls.mono (pairs_any _) ?_
  rintro e w1 ⟨rfl, t1⟩
  have T1 : Hid (Touch (fun _ => False) w w1) := ((Touch.refl _ w).alloc _).trans t1
  have R1 : Hid (Room w1 w.heap.size 2) := (Room.new w #[.nilFunc, .nilFunc] 145).keep t1
  have hg : w.heap.size < w1.heap.size := by have := t1.size; simp at this; omega
  clear t1
  go_upto_region 2 with (refine wpList_store_row rfl 173 (.tmp 3) (.tmp 4) rfl w1.heap.size prsV.toArray rfl rfl 173 _ (row_new w1 173 _) (by rw [Tryz.info24]; rfl) rfl oneCell_prsV ?_)
  have RW : Hid (Row ((w1.alloc (.cells #[.nilFunc, .nilFunc, .nilFunc, .nilFunc, .nilFunc, .nilFunc, .nilFunc, .nilFunc, .nilFunc, .nilFunc, .nilFunc, .nilFunc, .nilFunc, .nilFunc, .nilFunc, .nilFunc, .nilFunc, .nilFunc, .nilFunc, .nilFunc, .nilFunc, .nilFunc, .nilFunc, .nilFunc] 173)).setRow w1.heap.size prsV.toArray) w1.heap.size 173 prsV) := (row_new w1 173 _).setRow prsV.toArray
  have T2 : Hid (Touch (fun _ => False) w ((w1.alloc (.cells #[.nilFunc, .nilFunc, .nilFunc, .nilFunc, .nilFunc, .nilFunc, .nilFunc, .nilFunc, .nilFunc, .nilFunc, .nilFunc, .nilFunc, .nilFunc, .nilFunc, .nilFunc, .nilFunc, .nilFunc, .nilFunc, .nilFunc, .nilFunc, .nilFunc, .nilFunc, .nilFunc, .nilFunc] 173)).setRow w1.heap.size prsV.toArray)) := (T1.out.alloc _).setRow (Or.inr (by omega)) _
  have R2 : Hid (Room ((w1.alloc (.cells #[.nilFunc, .nilFunc, .nilFunc, .nilFunc, .nilFunc, .nilFunc, .nilFunc, .nilFunc, .nilFunc, .nilFunc, .nilFunc, .nilFunc, .nilFunc, .nilFunc, .nilFunc, .nilFunc, .nilFunc, .nilFunc, .nilFunc, .nilFunc, .nilFunc, .nilFunc, .nilFunc, .nilFunc] 173)).setRow w1.heap.size prsV.toArray) w.heap.size 2) := (R1.out.keep ((Touch.refl _ _).alloc _)).touch (Touch.setRow (F := fun k => k = w1.heap.size) (Touch.refl _ _) (Or.inl rfl) _) (by show ¬ w.heap.size = w1.heap.size; omega)
  have hne1 : ¬ w.heap.size = w1.heap.size := by omega
  have hne2 : ¬ w1.heap.size = w.heap.size := by omega
  generalize (w1.alloc (.cells #[.nilFunc, .nilFunc, .nilFunc, .nilFunc, .nilFunc, .nilFunc, .nilFunc, .nilFunc, .nilFunc, .nilFunc, .nilFunc, .nilFunc, .nilFunc, .nilFunc, .nilFunc, .nilFunc, .nilFunc, .nilFunc, .nilFunc, .nilFunc, .nilFunc, .nilFunc, .nilFunc, .nilFunc] 173)).setRow w1.heap.size prsV.toArray = w2 at *
  clear R1 T1
  have hc0 : w2.cell? ⟨w1.heap.size, 8, none⟩ = some (.func (.func 129) #[] #[]) := RW.out.cell 8
  have hc1 : w2.cell? ⟨w1.heap.size, 9, none⟩ = some (.func (.func 130) #[] #[]) := RW.out.cell 9
  go_wp2_with fail
  refine Calls.mono (need_t _ 21 _ rfl) ?_
  rintro e w3 ⟨rfl, rfl⟩
  obtain ⟨zz0, zc0, zf0⟩ := R2.out 0 (by omega)
  obtain ⟨zz1, zc1, zf1⟩ := R2.out 1 (by omega)
  obtain ⟨wz, hwz⟩ : ∃ wz, wz = ((w2.setCell ⟨w.heap.size, 0, none⟩ (.func (.func 129) #[] #[])).setCell ⟨w.heap.size, 1, none⟩ (.func (.func 130) #[] #[])) := ⟨_, rfl⟩
  have zd0 : wz.cell? ⟨w.heap.size, 0, none⟩ = some (.func (.func 129) #[] #[]) := by rw [hwz]; simp [zc0, go_sem]
  have zd1 : wz.cell? ⟨w.heap.size, 1, none⟩ = some (.func (.func 130) #[] #[]) := by rw [hwz]; simp [zc1, go_sem]
  have HUz : Hid (Touch (fun k => k = w.heap.size) w2 wz) := by show Touch _ _ _; rw [hwz]; refine Touch.setCell (F := fun k => k = w.heap.size) (p := ⟨w.heap.size, 1, none⟩) ?_ (Or.inl rfl) _; refine Touch.setCell (F := fun k => k = w.heap.size) (p := ⟨w.heap.size, 0, none⟩) ?_ (Or.inl rfl) _; exact Touch.refl _ _
  have HWz : Hid (wz = ((w2.setCell ⟨w.heap.size, 0, none⟩ (.func (.func 129) #[] #[])).setCell ⟨w.heap.size, 1, none⟩ (.func (.func 130) #[] #[]))) := hwz
  clear hwz
  go_wp2_with fail
  rw [← HWz.out]
  clear HWz zc0 zf0 zc1 zf1
  refine bodyPost_ret (v := .agg #[.func (.func 129) #[] #[], .func (.func 130) #[] #[]]) (by simp [results, Tryz.results78, go_sem, zd0, zd1]) rfl ?_
  exact ⟨rfl, T2.out.trans' HUz.out (fun i hi e => by omega)⟩

set_option maxHeartbeats 1000000 in
theorem pairOf_5 (w : World) : Calls Tryz.prog 78 #[.int .u8 5] w fun e w' => e = .returned (.agg #[.func (.func 119) #[] #[], .func (.func 120) #[] #[]]) ∧ Touch (fun _ => False) w w' := by
  have hsf : ∀ (w : World) (a : Addr) (f : Fn) (x y : Array Value) (m : Mode), (store a (.func f x y) m).run Tryz.prog w = stored Tryz.prog w a (.func f x y) m := fun w a f x y m => run_store Tryz.prog w a _ m rfl
  have hnq : ∀ (w : World) (F : Nat), (binOp BinOp.neq 143 (.func (.func F) #[] #[]) .nilFunc).run Tryz.prog w = .ok (.bool true) w := fun _ _ => by kernel_rfl
  have hnn : ∀ (w : World), (binOp BinOp.neq 143 .nilFunc .nilFunc).run Tryz.prog w = .ok (.bool false) w := fun _ => by kernel_rfl
  go_enter Tryz.func78, Tryz.ntmps78
  go_wp2_with fail
  refine Calls.mono (pairs_any _) ?_
  rintro e w1 ⟨rfl, t1⟩
  have T1 : Hid (Touch (fun _ => False) w w1) := ((Touch.refl _ w).alloc _).trans t1
  have R1 : Hid (Room w1 w.heap.size 2) := (Room.new w #[.nilFunc, .nilFunc] 145).keep t1
  have hg : w.heap.size < w1.heap.size := by have := t1.size; simp at this; omega
  clear t1
  go_upto_region 2 with (refine wpList_store_row rfl 173 (.tmp 3) (.tmp 4) rfl w1.heap.size prsV.toArray rfl rfl 173 _ (row_new w1 173 _) (by rw [Tryz.info24]; rfl) rfl oneCell_prsV ?_)
  have RW : Hid (Row ((w1.alloc (.cells #[.nilFunc, .nilFunc, .nilFunc, .nilFunc, .nilFunc, .nilFunc, .nilFunc, .nilFunc, .nilFunc, .nilFunc, .nilFunc, .nilFunc, .nilFunc, .nilFunc, .nilFunc, .nilFunc, .nilFunc, .nilFunc, .nilFunc, .nilFunc, .nilFunc, .nilFunc, .nilFunc, .nilFunc] 173)).setRow w1.heap.size prsV.toArray) w1.heap.size 173 prsV) := (row_new w1 173 _).setRow prsV.toArray
  have T2 : Hid (Touch (fun _ => False) w ((w1.alloc (.cells #[.nilFunc, .nilFunc, .nilFunc, .nilFunc, .nilFunc, .nilFunc, .nilFunc, .nilFunc, .nilFunc, .nilFunc, .nilFunc, .nilFunc, .nilFunc, .nilFunc, .nilFunc, .nilFunc, .nilFunc, .nilFunc, .nilFunc, .nilFunc, .nilFunc, .nilFunc, .nilFunc, .nilFunc] 173)).setRow w1.heap.size prsV.toArray)) := (T1.out.alloc _).setRow (Or.inr (by omega)) _
  have R2 : Hid (Room ((w1.alloc (.cells #[.nilFunc, .nilFunc, .nilFunc, .nilFunc, .nilFunc, .nilFunc, .nilFunc, .nilFunc, .nilFunc, .nilFunc, .nilFunc, .nilFunc, .nilFunc, .nilFunc, .nilFunc, .nilFunc, .nilFunc, .nilFunc, .nilFunc, .nilFunc, .nilFunc, .nilFunc, .nilFunc, .nilFunc] 173)).setRow w1.heap.size prsV.toArray) w.heap.size 2) := (R1.out.keep ((Touch.refl _ _).alloc _)).touch (Touch.setRow (F := fun k => k = w1.heap.size) (Touch.refl _ _) (Or.inl rfl) _) (by show ¬ w.heap.size = w1.heap.size; omega)
  have hne1 : ¬ w.heap.size = w1.heap.size := by omega
  have hne2 : ¬ w1.heap.size = w.heap.size := by omega
  generalize (w1.alloc (.cells #[.nilFunc, .nilFunc, .nilFunc, .nilFunc, .nilFunc, .nilFunc, .nilFunc, .nilFunc, .nilFunc, .nilFunc, .nilFunc, .nilFunc, .nilFunc, .nilFunc, .nilFunc, .nilFunc, .nilFunc, .nilFunc, .nilFunc, .nilFunc, .nilFunc, .nilFunc, .nilFunc, .nilFunc] 173)).setRow w1.heap.size prsV.toArray = w2 at *
  clear R1 T1
  have hc0 : w2.cell? ⟨w1.heap.size, 10, none⟩ = some (.func (.func 119) #[] #[]) := RW.out.cell 10
  have hc1 : w2.cell? ⟨w1.heap.size, 11, none⟩ = some (.func (.func 120) #[] #[]) := RW.out.cell 11
  go_wp2_with fail
  refine Calls.mono (need_t _ 21 _ rfl) ?_
  rintro e w3 ⟨rfl, rfl⟩
  obtain ⟨zz0, zc0, zf0⟩ := R2.out 0 (by omega)
  obtain ⟨zz1, zc1, zf1⟩ := R2.out 1 (by omega)
  obtain ⟨wz, hwz⟩ : ∃ wz, wz = ((w2.setCell ⟨w.heap.size, 0, none⟩ (.func (.func 119) #[] #[])).setCell ⟨w.heap.size, 1, none⟩ (.func (.func 120) #[] #[])) := ⟨_, rfl⟩
  have zd0 : wz.cell? ⟨w.heap.size, 0, none⟩ = some (.func (.func 119) #[] #[]) := by rw [hwz]; simp [zc0, go_sem]
  have zd1 : wz.cell? ⟨w.heap.size, 1, none⟩ = some (.func (.func 120) #[] #[]) := by rw [hwz]; simp [zc1, go_sem]
  have HUz : Hid (Touch (fun k => k = w.heap.size) w2 wz) := by show Touch _ _ _; rw [hwz]; refine Touch.setCell (F := fun k => k = w.heap.size) (p := ⟨w.heap.size, 1, none⟩) ?_ (Or.inl rfl) _; refine Touch.setCell (F := fun k => k = w.heap.size) (p := ⟨w.heap.size, 0, none⟩) ?_ (Or.inl rfl) _; exact Touch.refl _ _
  have HWz : Hid (wz = ((w2.setCell ⟨w.heap.size, 0, none⟩ (.func (.func 119) #[] #[])).setCell ⟨w.heap.size, 1, none⟩ (.func (.func 120) #[] #[]))) := hwz
  clear hwz
  go_wp2_with fail
  rw [← HWz.out]
  clear HWz zc0 zf0 zc1 zf1
  refine bodyPost_ret (v := .agg #[.func (.func 119) #[] #[], .func (.func 120) #[] #[]]) (by simp [results, Tryz.results78, go_sem, zd0, zd1]) rfl ?_
  exact ⟨rfl, T2.out.trans' HUz.out (fun i hi e => by omega)⟩

set_option maxHeartbeats 1000000 in
theorem pairOf_6 (w : World) : Calls Tryz.prog 78 #[.int .u8 6] w fun e w' => e = .panicked (flawC 21) ∧ Touch (fun _ => False) w w' := by
  have hsf : ∀ (w : World) (a : Addr) (f : Fn) (x y : Array Value) (m : Mode), (store a (.func f x y) m).run Tryz.prog w = stored Tryz.prog w a (.func f x y) m := fun w a f x y m => run_store Tryz.prog w a _ m rfl
  have hnq : ∀ (w : World) (F : Nat), (binOp BinOp.neq 143 (.func (.func F) #[] #[]) .nilFunc).run Tryz.prog w = .ok (.bool true) w := fun _ _ => by kernel_rfl
  have hnn : ∀ (w : World), (binOp BinOp.neq 143 .nilFunc .nilFunc).run Tryz.prog w = .ok (.bool false) w := fun _ => by kernel_rfl
  go_enter Tryz.func78, Tryz.ntmps78
  go_wp2_with fail
  refine Calls.mono (pairs_any _) ?_
  rintro e w1 ⟨rfl, t1⟩
  have T1 : Hid (Touch (fun _ => False) w w1) := ((Touch.refl _ w).alloc _).trans t1
  have R1 : Hid (Room w1 w.heap.size 2) := (Room.new w #[.nilFunc, .nilFunc] 145).keep t1
  have hg : w.heap.size < w1.heap.size := by have := t1.size; simp at this; omega
  clear t1
  go_upto_region 2 with (refine wpList_store_row rfl 173 (.tmp 3) (.tmp 4) rfl w1.heap.size prsV.toArray rfl rfl 173 _ (row_new w1 173 _) (by rw [Tryz.info24]; rfl) rfl oneCell_prsV ?_)
  have RW : Hid (Row ((w1.alloc (.cells #[.nilFunc, .nilFunc, .nilFunc, .nilFunc, .nilFunc, .nilFunc, .nilFunc, .nilFunc, .nilFunc, .nilFunc, .nilFunc, .nilFunc, .nilFunc, .nilFunc, .nilFunc, .nilFunc, .nilFunc, .nilFunc, .nilFunc, .nilFunc, .nilFunc, .nilFunc, .nilFunc, .nilFunc] 173)).setRow w1.heap.size prsV.toArray) w1.heap.size 173 prsV) := (row_new w1 173 _).setRow prsV.toArray
  have T2 : Hid (Touch (fun _ => False) w ((w1.alloc (.cells #[.nilFunc, .nilFunc, .nilFunc, .nilFunc, .nilFunc, .nilFunc, .nilFunc, .nilFunc, .nilFunc, .nilFunc, .nilFunc, .nilFunc, .nilFunc, .nilFunc, .nilFunc, .nilFunc, .nilFunc, .nilFunc, .nilFunc, .nilFunc, .nilFunc, .nilFunc, .nilFunc, .nilFunc] 173)).setRow w1.heap.size prsV.toArray)) := (T1.out.alloc _).setRow (Or.inr (by omega)) _
  have R2 : Hid (Room ((w1.alloc (.cells #[.nilFunc, .nilFunc, .nilFunc, .nilFunc, .nilFunc, .nilFunc, .nilFunc, .nilFunc, .nilFunc, .nilFunc, .nilFunc, .nilFunc, .nilFunc, .nilFunc, .nilFunc, .nilFunc, .nilFunc, .nilFunc, .nilFunc, .nilFunc, .nilFunc, .nilFunc, .nilFunc, .nilFunc] 173)).setRow w1.heap.size prsV.toArray) w.heap.size 2) := (R1.out.keep ((Touch.refl _ _).alloc _)).touch (Touch.setRow (F := fun k => k = w1.heap.size) (Touch.refl _ _) (Or.inl rfl) _) (by show ¬ w.heap.size = w1.heap.size; omega)
  have hne1 : ¬ w.heap.size = w1.heap.size := by omega
  have hne2 : ¬ w1.heap.size = w.heap.size := by omega
  generalize (w1.alloc (.cells #[.nilFunc, .nilFunc, .nilFunc, .nilFunc, .nilFunc, .nilFunc, .nilFunc, .nilFunc, .nilFunc, .nilFunc, .nilFunc, .nilFunc, .nilFunc, .nilFunc, .nilFunc, .nilFunc, .nilFunc, .nilFunc, .nilFunc, .nilFunc, .nilFunc, .nilFunc, .nilFunc, .nilFunc] 173)).setRow w1.heap.size prsV.toArray = w2 at *
  clear R1 T1
  have hc1 : w2.cell? ⟨w1.heap.size, 13, none⟩ = some .nilFunc := RW.out.cell 13
  go_wp2_with fail
  refine Calls.mono (need_f _ 21 _ rfl) ?_
  rintro e w3 ⟨rfl, rfl⟩
  exact ⟨rfl, rfl, T2.out⟩

set_option maxHeartbeats 1000000 in
theorem pairOf_7 (w : World) : Calls Tryz.prog 78 #[.int .u8 7] w fun e w' => e = .returned (.agg #[.func (.func 119) #[] #[], .func (.func 120) #[] #[]]) ∧ Touch (fun _ => False) w w' := by
  have hsf : ∀ (w : World) (a : Addr) (f : Fn) (x y : Array Value) (m : Mode), (store a (.func f x y) m).run Tryz.prog w = stored Tryz.prog w a (.func f x y) m := fun w a f x y m => run_store Tryz.prog w a _ m rfl
  have hnq : ∀ (w : World) (F : Nat), (binOp BinOp.neq 143 (.func (.func F) #[] #[]) .nilFunc).run Tryz.prog w = .ok (.bool true) w := fun _ _ => by kernel_rfl
  have hnn : ∀ (w : World), (binOp BinOp.neq 143 .nilFunc .nilFunc).run Tryz.prog w = .ok (.bool false) w := fun _ => by kernel_rfl
  go_enter Tryz.func78, Tryz.ntmps78
  go_wp2_with fail
  refine Calls.mono (pairs_any _) ?_
  rintro e w1 ⟨rfl, t1⟩
  have T1 : Hid (Touch (fun _ => False) w w1) := ((Touch.refl _ w).alloc _).trans t1
  have R1 : Hid (Room w1 w.heap.size 2) := (Room.new w #[.nilFunc, .nilFunc] 145).keep t1
  have hg : w.heap.size < w1.heap.size := by have := t1.size; simp at this; omega
  clear t1
  go_upto_region 2 with (refine wpList_store_row rfl 173 (.tmp 3) (.tmp 4) rfl w1.heap.size prsV.toArray rfl rfl 173 _ (row_new w1 173 _) (by rw [Tryz.info24]; rfl) rfl oneCell_prsV ?_)
  have RW : Hid (Row ((w1.alloc (.cells #[.nilFunc, .nilFunc, .nilFunc, .nilFunc, .nilFunc, .nilFunc, .nilFunc, .nilFunc, .nilFunc, .nilFunc, .nilFunc, .nilFunc, .nilFunc, .nilFunc, .nilFunc, .nilFunc, .nilFunc, .nilFunc, .nilFunc, .nilFunc, .nilFunc, .nilFunc, .nilFunc, .nilFunc] 173)).setRow w1.heap.size prsV.toArray) w1.heap.size 173 prsV) := (row_new w1 173 _).setRow prsV.toArray
  have T2 : Hid (Touch (fun _ => False) w ((w1.alloc (.cells #[.nilFunc, .nilFunc, .nilFunc, .nilFunc, .nilFunc, .nilFunc, .nilFunc, .nilFunc, .nilFunc, .nilFunc, .nilFunc, .nilFunc, .nilFunc, .nilFunc, .nilFunc, .nilFunc, .nilFunc, .nilFunc, .nilFunc, .nilFunc, .nilFunc, .nilFunc, .nilFunc, .nilFunc] 173)).setRow w1.heap.size prsV.toArray)) := (T1.out.alloc _).setRow (Or.inr (by omega)) _
  have R2 : Hid (Room ((w1.alloc (.cells #[.nilFunc, .nilFunc, .nilFunc, .nilFunc, .nilFunc, .nilFunc, .nilFunc, .nilFunc, .nilFunc, .nilFunc, .nilFunc, .nilFunc, .nilFunc, .nilFunc, .nilFunc, .nilFunc, .nilFunc, .nilFunc, .nilFunc, .nilFunc, .nilFunc, .nilFunc, .nilFunc, .nilFunc] 173)).setRow w1.heap.size prsV.toArray) w.heap.size 2) := (R1.out.keep ((Touch.refl _ _).alloc _)).touch (Touch.setRow (F := fun k => k = w1.heap.size) (Touch.refl _ _) (Or.inl rfl) _) (by show ¬ w.heap.size = w1.heap.size; omega)
  have hne1 : ¬ w.heap.size = w1.heap.size := by omega
  have hne2 : ¬ w1.heap.size = w.heap.size := by omega
  generalize (w1.alloc (.cells #[.nilFunc, .nilFunc, .nilFunc, .nilFunc, .nilFunc, .nilFunc, .nilFunc, .nilFunc, .nilFunc, .nilFunc, .nilFunc, .nilFunc, .nilFunc, .nilFunc, .nilFunc, .nilFunc, .nilFunc, .nilFunc, .nilFunc, .nilFunc, .nilFunc, .nilFunc, .nilFunc, .nilFunc] 173)).setRow w1.heap.size prsV.toArray = w2 at *
  clear R1 T1
  have hc0 : w2.cell? ⟨w1.heap.size, 14, none⟩ = some (.func (.func 119) #[] #[]) := RW.out.cell 14
  have hc1 : w2.cell? ⟨w1.heap.size, 15, none⟩ = some (.func (.func 120) #[] #[]) := RW.out.cell 15
  go_wp2_with fail
  refine Calls.mono (need_t _ 21 _ rfl) ?_
  rintro e w3 ⟨rfl, rfl⟩
  obtain ⟨zz0, zc0, zf0⟩ := R2.out 0 (by omega)
  obtain ⟨zz1, zc1, zf1⟩ := R2.out 1 (by omega)
  obtain ⟨wz, hwz⟩ : ∃ wz, wz = ((w2.setCell ⟨w.heap.size, 0, none⟩ (.func (.func 119) #[] #[])).setCell ⟨w.heap.size, 1, none⟩ (.func (.func 120) #[] #[])) := ⟨_, rfl⟩
  have zd0 : wz.cell? ⟨w.heap.size, 0, none⟩ = some (.func (.func 119) #[] #[]) := by rw [hwz]; simp [zc0, go_sem]
  have zd1 : wz.cell? ⟨w.heap.size, 1, none⟩ = some (.func (.func 120) #[] #[]) := by rw [hwz]; simp [zc1, go_sem]
  have HUz : Hid (Touch (fun k => k = w.heap.size) w2 wz) := by show Touch _ _ _; rw [hwz]; refine Touch.setCell (F := fun k => k = w.heap.size) (p := ⟨w.heap.size, 1, none⟩) ?_ (Or.inl rfl) _; refine Touch.setCell (F := fun k => k = w.heap.size) (p := ⟨w.heap.size, 0, none⟩) ?_ (Or.inl rfl) _; exact Touch.refl _ _
  have HWz : Hid (wz = ((w2.setCell ⟨w.heap.size, 0, none⟩ (.func (.func 119) #[] #[])).setCell ⟨w.heap.size, 1, none⟩ (.func (.func 120) #[] #[]))) := hwz
  clear hwz
  go_wp2_with fail
  rw [← HWz.out]
  clear HWz zc0 zf0 zc1 zf1
  refine bodyPost_ret (v := .agg #[.func (.func 119) #[] #[], .func (.func 120) #[] #[]]) (by simp [results, Tryz.results78, go_sem, zd0, zd1]) rfl ?_
  exact ⟨rfl, T2.out.trans' HUz.out (fun i hi e => by omega)⟩

set_option maxHeartbeats 1000000 in
theorem pairOf_8 (w : World) : Calls Tryz.prog 78 #[.int .u8 8] w fun e w' => e = .panicked (flawC 21) ∧ Touch (fun _ => False) w w' := by
  have hsf : ∀ (w : World) (a : Addr) (f : Fn) (x y : Array Value) (m : Mode), (store a (.func f x y) m).run Tryz.prog w = stored Tryz.prog w a (.func f x y) m := fun w a f x y m => run_store Tryz.prog w a _ m rfl
  have hnq : ∀ (w : World) (F : Nat), (binOp BinOp.neq 143 (.func (.func F) #[] #[]) .nilFunc).run Tryz.prog w = .ok (.bool true) w := fun _ _ => by kernel_rfl
  have hnn : ∀ (w : World), (binOp BinOp.neq 143 .nilFunc .nilFunc).run Tryz.prog w = .ok (.bool false) w := fun _ => by kernel_rfl
  go_enter Tryz.func78, Tryz.ntmps78
  go_wp2_with fail
  refine Calls.mono (pairs_any _) ?_
  rintro e w1 ⟨rfl, t1⟩
  have T1 : Hid (Touch (fun _ => False) w w1) := ((Touch.refl _ w).alloc _).trans t1
  have R1 : Hid (Room w1 w.heap.size 2) := (Room.new w #[.nilFunc, .nilFunc] 145).keep t1
  have hg : w.heap.size < w1.heap.size := by have := t1.size; simp at this; omega
  clear t1
  go_upto_region 2 with (refine wpList_store_row rfl 173 (.tmp 3) (.tmp 4) rfl w1.heap.size prsV.toArray rfl rfl 173 _ (row_new w1 173 _) (by rw [Tryz.info24]; rfl) rfl oneCell_prsV ?_)
  have RW : Hid (Row ((w1.alloc (.cells #[.nilFunc, .nilFunc, .nilFunc, .nilFunc, .nilFunc, .nilFunc, .nilFunc, .nilFunc, .nilFunc, .nilFunc, .nilFunc, .nilFunc, .nilFunc, .nilFunc, .nilFunc, .nilFunc, .nilFunc, .nilFunc, .nilFunc, .nilFunc, .nilFunc, .nilFunc, .nilFunc, .nilFunc] 173)).setRow w1.heap.size prsV.toArray) w1.heap.size 173 prsV) := (row_new w1 173 _).setRow prsV.toArray
  have T2 : Hid (Touch (fun _ => False) w ((w1.alloc (.cells #[.nilFunc, .nilFunc, .nilFunc, .nilFunc, .nilFunc, .nilFunc, .nilFunc, .nilFunc, .nilFunc, .nilFunc, .nilFunc, .nilFunc, .nilFunc, .nilFunc, .nilFunc, .nilFunc, .nilFunc, .nilFunc, .nilFunc, .nilFunc, .nilFunc, .nilFunc, .nilFunc, .nilFunc] 173)).setRow w1.heap.size prsV.toArray)) := (T1.out.alloc _).setRow (Or.inr (by omega)) _
  have R2 : Hid (Room ((w1.alloc (.cells #[.nilFunc, .nilFunc, .nilFunc, .nilFunc, .nilFunc, .nilFunc, .nilFunc, .nilFunc, .nilFunc, .nilFunc, .nilFunc, .nilFunc, .nilFunc, .nilFunc, .nilFunc, .nilFunc, .nilFunc, .nilFunc, .nilFunc, .nilFunc, .nilFunc, .nilFunc, .nilFunc, .nilFunc] 173)).setRow w1.heap.size prsV.toArray) w.heap.size 2) := (R1.out.keep ((Touch.refl _ _).alloc _)).touch (Touch.setRow (F := fun k => k = w1.heap.size) (Touch.refl _ _) (Or.inl rfl) _) (by show ¬ w.heap.size = w1.heap.size; omega)
  have hne1 : ¬ w.heap.size = w1.heap.size := by omega
  have hne2 : ¬ w1.heap.size = w.heap.size := by omega
  generalize (w1.alloc (.cells #[.nilFunc, .nilFunc, .nilFunc, .nilFunc, .nilFunc, .nilFunc, .nilFunc, .nilFunc, .nilFunc, .nilFunc, .nilFunc, .nilFunc, .nilFunc, .nilFunc, .nilFunc, .nilFunc, .nilFunc, .nilFunc, .nilFunc, .nilFunc, .nilFunc, .nilFunc, .nilFunc, .nilFunc] 173)).setRow w1.heap.size prsV.toArray = w2 at *
  clear R1 T1
  have hc1 : w2.cell? ⟨w1.heap.size, 17, none⟩ = some .nilFunc := RW.out.cell 17
  go_wp2_with fail
  refine Calls.mono (need_f _ 21 _ rfl) ?_
  rintro e w3 ⟨rfl, rfl⟩
  exact ⟨rfl, rfl, T2.out⟩

set_option maxHeartbeats 1000000 in
theorem pairOf_9 (w : World) : Calls Tryz.prog 78 #[.int .u8 9] w fun e w' => e = .returned (.agg #[.func (.func 121) #[] #[], .func (.func 122) #[] #[]]) ∧ Touch (fun _ => False) w w' := by
  have hsf : ∀ (w : World) (a : Addr) (f : Fn) (x y : Array Value) (m : Mode), (store a (.func f x y) m).run Tryz.prog w = stored Tryz.prog w a (.func f x y) m := fun w a f x y m => run_store Tryz.prog w a _ m rfl
  have hnq : ∀ (w : World) (F : Nat), (binOp BinOp.neq 143 (.func (.func F) #[] #[]) .nilFunc).run Tryz.prog w = .ok (.bool true) w := fun _ _ => by kernel_rfl
  have hnn : ∀ (w : World), (binOp BinOp.neq 143 .nilFunc .nilFunc).run Tryz.prog w = .ok (.bool false) w := fun _ => by kernel_rfl
  go_enter Tryz.func78, Tryz.ntmps78
  go_wp2_with fail
  refine Calls.mono (pairs_any _) ?_
  rintro e w1 ⟨rfl, t1⟩
  have T1 : Hid (Touch (fun _ => False) w w1) := ((Touch.refl _ w).alloc _).trans t1
  have R1 : Hid (Room w1 w.heap.size 2) := (Room.new w #[.nilFunc, .nilFunc] 145).keep t1
  have hg : w.heap.size < w1.heap.size := by have := t1.size; simp at this; omega
  clear t1
  go_upto_region 2 with (refine wpList_store_row rfl 173 (.tmp 3) (.tmp 4) rfl w1.heap.size prsV.toArray rfl rfl 173 _ (row_new w1 173 _) (by rw [Tryz.info24]; rfl) rfl oneCell_prsV ?_)
  have RW : Hid (Row ((w1.alloc (.cells #[.nilFunc, .nilFunc, .nilFunc, .nilFunc, .nilFunc, .nilFunc, .nilFunc, .nilFunc, .nilFunc, .nilFunc, .nilFunc, .nilFunc, .nilFunc, .nilFunc, .nilFunc, .nilFunc, .nilFunc, .nilFunc, .nilFunc, .nilFunc, .nilFunc, .nilFunc, .nilFunc, .nilFunc] 173)).setRow w1.heap.size prsV.toArray) w1.heap.size 173 prsV) := (row_new w1 173 _).setRow prsV.toArray
  have T2 : Hid (Touch (fun _ => False) w ((w1.alloc (.cells #[.nilFunc, .nilFunc, .nilFunc, .nilFunc, .nilFunc, .nilFunc, .nilFunc, .nilFunc, .nilFunc, .nilFunc, .nilFunc, .nilFunc, .nilFunc, .nilFunc, .nilFunc, .nilFunc, .nilFunc, .nilFunc, .nilFunc, .nilFunc, .nilFunc, .nilFunc, .nilFunc, .nilFunc] 173)).setRow w1.heap.size prsV.toArray)) := (T1.out.alloc _).setRow (Or.inr (by omega)) _
  have R2 : Hid (Room ((w1.alloc (.cells #[.nilFunc, .nilFunc, .nilFunc, .nilFunc, .nilFunc, .nilFunc, .nilFunc, .nilFunc, .nilFunc, .nilFunc, .nilFunc, .nilFunc, .nilFunc, .nilFunc, .nilFunc, .nilFunc, .nilFunc, .nilFunc, .nilFunc, .nilFunc, .nilFunc, .nilFunc, .nilFunc, .nilFunc] 173)).setRow w1.heap.size prsV.toArray) w.heap.size 2) := (R1.out.keep ((Touch.refl _ _).alloc _)).touch (Touch.setRow (F := fun k => k = w1.heap.size) (Touch.refl _ _) (Or.inl rfl) _) (by show ¬ w.heap.size = w1.heap.size; omega)
  have hne1 : ¬ w.heap.size = w1.heap.size := by omega
  have hne2 : ¬ w1.heap.size = w.heap.size := by omega
  generalize (w1.alloc (.cells #[.nilFunc, .nilFunc, .nilFunc, .nilFunc, .nilFunc, .nilFunc, .nilFunc, .nilFunc, .nilFunc, .nilFunc, .nilFunc, .nilFunc, .nilFunc, .nilFunc, .nilFunc, .nilFunc, .nilFunc, .nilFunc, .nilFunc, .nilFunc, .nilFunc, .nilFunc, .nilFunc, .nilFunc] 173)).setRow w1.heap.size prsV.toArray = w2 at *
  clear R1 T1
  have hc0 : w2.cell? ⟨w1.heap.size, 18, none⟩ = some (.func (.func 121) #[] #[]) := RW.out.cell 18
  have hc1 : w2.cell? ⟨w1.heap.size, 19, none⟩ = some (.func (.func 122) #[] #[]) := RW.out.cell 19
  go_wp2_with fail
  refine Calls.mono (need_t _ 21 _ rfl) ?_
  rintro e w3 ⟨rfl, rfl⟩
  obtain ⟨zz0, zc0, zf0⟩ := R2.out 0 (by omega)
  obtain ⟨zz1, zc1, zf1⟩ := R2.out 1 (by omega)
  obtain ⟨wz, hwz⟩ : ∃ wz, wz = ((w2.setCell ⟨w.heap.size, 0, none⟩ (.func (.func 121) #[] #[])).setCell ⟨w.heap.size, 1, none⟩ (.func (.func 122) #[] #[])) := ⟨_, rfl⟩
  have zd0 : wz.cell? ⟨w.heap.size, 0, none⟩ = some (.func (.func 121) #[] #[]) := by rw [hwz]; simp [zc0, go_sem]
  have zd1 : wz.cell? ⟨w.heap.size, 1, none⟩ = some (.func (.func 122) #[] #[]) := by rw [hwz]; simp [zc1, go_sem]
  have HUz : Hid (Touch (fun k => k = w.heap.size) w2 wz) := by show Touch _ _ _; rw [hwz]; refine Touch.setCell (F := fun k => k = w.heap.size) (p := ⟨w.heap.size, 1, none⟩) ?_ (Or.inl rfl) _; refine Touch.setCell (F := fun k => k = w.heap.size) (p := ⟨w.heap.size, 0, none⟩) ?_ (Or.inl rfl) _; exact Touch.refl _ _
  have HWz : Hid (wz = ((w2.setCell ⟨w.heap.size, 0, none⟩ (.func (.func 121) #[] #[])).setCell ⟨w.heap.size, 1, none⟩ (.func (.func 122) #[] #[]))) := hwz
  clear hwz
  go_wp2_with fail
  rw [← HWz.out]
  clear HWz zc0 zf0 zc1 zf1
  refine bodyPost_ret (v := .agg #[.func (.func 121) #[] #[], .func (.func 122) #[] #[]]) (by simp [results, Tryz.results78, go_sem, zd0, zd1]) rfl ?_
  exact ⟨rfl, T2.out.trans' HUz.out (fun i hi e => by omega)⟩

set_option maxHeartbeats 1000000 in
theorem pairOf_10 (w : World) : Calls Tryz.prog 78 #[.int .u8 10] w fun e w' => e = .returned (.agg #[.func (.func 121) #[] #[], .func (.func 122) #[] #[]]) ∧ Touch (fun _ => False) w w' := by
  have hsf : ∀ (w : World) (a : Addr) (f : Fn) (x y : Array Value) (m : Mode), (store a (.func f x y) m).run Tryz.prog w = stored Tryz.prog w a (.func f x y) m := fun w a f x y m => run_store Tryz.prog w a _ m rfl
  have hnq : ∀ (w : World) (F : Nat), (binOp BinOp.neq 143 (.func (.func F) #[] #[]) .nilFunc).run Tryz.prog w = .ok (.bool true) w := fun _ _ => by kernel_rfl
  have hnn : ∀ (w : World), (binOp BinOp.neq 143 .nilFunc .nilFunc).run Tryz.prog w = .ok (.bool false) w := fun _ => by kernel_rfl
  go_enter Tryz.func78, Tryz.ntmps78
  go_wp2_with fail
  refine Calls.mono (pairs_any _) ?_
  rintro e w1 ⟨rfl, t1⟩
  have T1 : Hid (Touch (fun _ => False) w w1) := ((Touch.refl _ w).alloc _).trans t1
  have R1 : Hid (Room w1 w.heap.size 2) := (Room.new w #[.nilFunc, .nilFunc] 145).keep t1
  have hg : w.heap.size < w1.heap.size := by have := t1.size; simp at this; omega
  clear t1
  go_upto_region 2 with (refine wpList_store_row rfl 173 (.tmp 3) (.tmp 4) rfl w1.heap.size prsV.toArray rfl rfl 173 _ (row_new w1 173 _) (by rw [Tryz.info24]; rfl) rfl oneCell_prsV ?_)
  have RW : Hid (Row ((w1.alloc (.cells #[.nilFunc, .nilFunc, .nilFunc, .nilFunc, .nilFunc, .nilFunc, .nilFunc, .nilFunc, .nilFunc, .nilFunc, .nilFunc, .nilFunc, .nilFunc, .nilFunc, .nilFunc, .nilFunc, .nilFunc, .nilFunc, .nilFunc, .nilFunc, .nilFunc, .nilFunc, .nilFunc, .nilFunc] 173)).setRow w1.heap.size prsV.toArray) w1.heap.size 173 prsV) := (row_new w1 173 _).setRow prsV.toArray
  have T2 : Hid (Touch (fun _ => False) w ((w1.alloc (.cells #[.nilFunc, .nilFunc, .nilFunc, .nilFunc, .nilFunc, .nilFunc, .nilFunc, .nilFunc, .nilFunc, .nilFunc, .nilFunc, .nilFunc, .nilFunc, .nilFunc, .nilFunc, .nilFunc, .nilFunc, .nilFunc, .nilFunc, .nilFunc, .nilFunc, .nilFunc, .nilFunc, .nilFunc] 173)).setRow w1.heap.size prsV.toArray)) := (T1.out.alloc _).setRow (Or.inr (by omega)) _
  have R2 : Hid (Room ((w1.alloc (.cells #[.nilFunc, .nilFunc, .nilFunc, .nilFunc, .nilFunc, .nilFunc, .nilFunc, .nilFunc, .nilFunc, .nilFunc, .nilFunc, .nilFunc, .nilFunc, .nilFunc, .nilFunc, .nilFunc, .nilFunc, .nilFunc, .nilFunc, .nilFunc, .nilFunc, .nilFunc, .nilFunc, .nilFunc] 173)).setRow w1.heap.size prsV.toArray) w.heap.size 2) := (R1.out.keep ((Touch.refl _ _).alloc _)).touch (Touch.setRow (F := fun k => k = w1.heap.size) (Touch.refl _ _) (Or.inl rfl) _) (by show ¬ w.heap.size = w1.heap.size; omega)
  have hne1 : ¬ w.heap.size = w1.heap.size := by omega
  have hne2 : ¬ w1.heap.size = w.heap.size := by omega
  generalize (w1.alloc (.cells #[.nilFunc, .nilFunc, .nilFunc, .nilFunc, .nilFunc, .nilFunc, .nilFunc, .nilFunc, .nilFunc, .nilFunc, .nilFunc, .nilFunc, .nilFunc, .nilFunc, .nilFunc, .nilFunc, .nilFunc, .nilFunc, .nilFunc, .nilFunc, .nilFunc, .nilFunc, .nilFunc, .nilFunc] 173)).setRow w1.heap.size prsV.toArray = w2 at *
  clear R1 T1
  have hc0 : w2.cell? ⟨w1.heap.size, 20, none⟩ = some (.func (.func 121) #[] #[]) := RW.out.cell 20
  have hc1 : w2.cell? ⟨w1.heap.size, 21, none⟩ = some (.func (.func 122) #[] #[]) := RW.out.cell 21
  go_wp2_with fail
  refine Calls.mono (need_t _ 21 _ rfl) ?_
  rintro e w3 ⟨rfl, rfl⟩
  obtain ⟨zz0, zc0, zf0⟩ := R2.out 0 (by omega)
  obtain ⟨zz1, zc1, zf1⟩ := R2.out 1 (by omega)
  obtain ⟨wz, hwz⟩ : ∃ wz, wz = ((w2.setCell ⟨w.heap.size, 0, none⟩ (.func (.func 121) #[] #[])).setCell ⟨w.heap.size, 1, none⟩ (.func (.func 122) #[] #[])) := ⟨_, rfl⟩
  have zd0 : wz.cell? ⟨w.heap.size, 0, none⟩ = some (.func (.func 121) #[] #[]) := by rw [hwz]; simp [zc0, go_sem]
  have zd1 : wz.cell? ⟨w.heap.size, 1, none⟩ = some (.func (.func 122) #[] #[]) := by rw [hwz]; simp [zc1, go_sem]
  have HUz : Hid (Touch (fun k => k = w.heap.size) w2 wz) := by show Touch _ _ _; rw [hwz]; refine Touch.setCell (F := fun k => k = w.heap.size) (p := ⟨w.heap.size, 1, none⟩) ?_ (Or.inl rfl) _; refine Touch.setCell (F := fun k => k = w.heap.size) (p := ⟨w.heap.size, 0, none⟩) ?_ (Or.inl rfl) _; exact Touch.refl _ _
  have HWz : Hid (wz = ((w2.setCell ⟨w.heap.size, 0, none⟩ (.func (.func 121) #[] #[])).setCell ⟨w.heap.size, 1, none⟩ (.func (.func 122) #[] #[]))) := hwz
  clear hwz
  go_wp2_with fail
  rw [← HWz.out]
  clear HWz zc0 zf0 zc1 zf1
  refine bodyPost_ret (v := .agg #[.func (.func 121) #[] #[], .func (.func 122) #[] #[]]) (by simp [results, Tryz.results78, go_sem, zd0, zd1]) rfl ?_
  exact ⟨rfl, T2.out.trans' HUz.out (fun i hi e => by omega)⟩

set_option maxHeartbeats 1000000 in
theorem pairOf_11 (w : World) : Calls Tryz.prog 78 #[.int .u8 11] w fun e w' => e = .returned (.agg #[.func (.func 121) #[] #[], .func (.func 122) #[] #[]]) ∧ Touch (fun _ => False) w w' := by
  have hsf : ∀ (w : World) (a : Addr) (f : Fn) (x y : Array Value) (m : Mode), (store a (.func f x y) m).run Tryz.prog w = stored Tryz.prog w a (.func f x y) m := fun w a f x y m => run_store Tryz.prog w a _ m rfl
  have hnq : ∀ (w : World) (F : Nat), (binOp BinOp.neq 143 (.func (.func F) #[] #[]) .nilFunc).run Tryz.prog w = .ok (.bool true) w := fun _ _ => by kernel_rfl
  have hnn : ∀ (w : World), (binOp BinOp.neq 143 .nilFunc .nilFunc).run Tryz.prog w = .ok (.bool false) w := fun _ => by kernel_rfl
  go_enter Tryz.func78, Tryz.ntmps78
  go_wp2_with fail
  refine Calls.mono (pairs_any _) ?_
  rintro e w1 ⟨rfl, t1⟩
  have T1 : Hid (Touch (fun _ => False) w w1) := ((Touch.refl _ w).alloc _).trans t1
  have R1 : Hid (Room w1 w.heap.size 2) := (Room.new w #[.nilFunc, .nilFunc] 145).keep t1
  have hg : w.heap.size < w1.heap.size := by have := t1.size; simp at this; omega
  clear t1
  go_upto_region 2 with (refine wpList_store_row rfl 173 (.tmp 3) (.tmp 4) rfl w1.heap.size prsV.toArray rfl rfl 173 _ (row_new w1 173 _) (by rw [Tryz.info24]; rfl) rfl oneCell_prsV ?_)
  have RW : Hid (Row ((w1.alloc (.cells #[.nilFunc, .nilFunc, .nilFunc, .nilFunc, .nilFunc, .nilFunc, .nilFunc, .nilFunc, .nilFunc, .nilFunc, .nilFunc, .nilFunc, .nilFunc, .nilFunc, .nilFunc, .nilFunc, .nilFunc, .nilFunc, .nilFunc, .nilFunc, .nilFunc, .nilFunc, .nilFunc, .nilFunc] 173)).setRow w1.heap.size prsV.toArray) w1.heap.size 173 prsV) := (row_new w1 173 _).setRow prsV.toArray
  have T2 : Hid (Touch (fun _ => False) w ((w1.alloc (.cells #[.nilFunc, .nilFunc, .nilFunc, .nilFunc, .nilFunc, .nilFunc, .nilFunc, .nilFunc, .nilFunc, .nilFunc, .nilFunc, .nilFunc, .nilFunc, .nilFunc, .nilFunc, .nilFunc, .nilFunc, .nilFunc, .nilFunc, .nilFunc, .nilFunc, .nilFunc, .nilFunc, .nilFunc] 173)).setRow w1.heap.size prsV.toArray)) := (T1.out.alloc _).setRow (Or.inr (by omega)) _
  have R2 : Hid (Room ((w1.alloc (.cells #[.nilFunc, .nilFunc, .nilFunc, .nilFunc, .nilFunc, .nilFunc, .nilFunc, .nilFunc, .nilFunc, .nilFunc, .nilFunc, .nilFunc, .nilFunc, .nilFunc, .nilFunc, .nilFunc, .nilFunc, .nilFunc, .nilFunc, .nilFunc, .nilFunc, .nilFunc, .nilFunc, .nilFunc] 173)).setRow w1.heap.size prsV.toArray) w.heap.size 2) := (R1.out.keep ((Touch.refl _ _).alloc _)).touch (Touch.setRow (F := fun k => k = w1.heap.size) (Touch.refl _ _) (Or.inl rfl) _) (by show ¬ w.heap.size = w1.heap.size; omega)
  have hne1 : ¬ w.heap.size = w1.heap.size := by omega
  have hne2 : ¬ w1.heap.size = w.heap.size := by omega
  generalize (w1.alloc (.cells #[.nilFunc, .nilFunc, .nilFunc, .nilFunc, .nilFunc, .nilFunc, .nilFunc, .nilFunc, .nilFunc, .nilFunc, .nilFunc, .nilFunc, .nilFunc, .nilFunc, .nilFunc, .nilFunc, .nilFunc, .nilFunc, .nilFunc, .nilFunc, .nilFunc, .nilFunc, .nilFunc, .nilFunc] 173)).setRow w1.heap.size prsV.toArray = w2 at *
  clear R1 T1
  have hc0 : w2.cell? ⟨w1.heap.size, 22, none⟩ = some (.func (.func 121) #[] #[]) := RW.out.cell 22
  have hc1 : w2.cell? ⟨w1.heap.size, 23, none⟩ = some (.func (.func 122) #[] #[]) := RW.out.cell 23
  go_wp2_with fail
  refine Calls.mono (need_t _ 21 _ rfl) ?_
  rintro e w3 ⟨rfl, rfl⟩
  obtain ⟨zz0, zc0, zf0⟩ := R2.out 0 (by omega)
  obtain ⟨zz1, zc1, zf1⟩ := R2.out 1 (by omega)
  obtain ⟨wz, hwz⟩ : ∃ wz, wz = ((w2.setCell ⟨w.heap.size, 0, none⟩ (.func (.func 121) #[] #[])).setCell ⟨w.heap.size, 1, none⟩ (.func (.func 122) #[] #[])) := ⟨_, rfl⟩
  have zd0 : wz.cell? ⟨w.heap.size, 0, none⟩ = some (.func (.func 121) #[] #[]) := by rw [hwz]; simp [zc0, go_sem]
  have zd1 : wz.cell? ⟨w.heap.size, 1, none⟩ = some (.func (.func 122) #[] #[]) := by rw [hwz]; simp [zc1, go_sem]
  have HUz : Hid (Touch (fun k => k = w.heap.size) w2 wz) := by show Touch _ _ _; rw [hwz]; refine Touch.setCell (F := fun k => k = w.heap.size) (p := ⟨w.heap.size, 1, none⟩) ?_ (Or.inl rfl) _; refine Touch.setCell (F := fun k => k = w.heap.size) (p := ⟨w.heap.size, 0, none⟩) ?_ (Or.inl rfl) _; exact Touch.refl _ _
  have HWz : Hid (wz = ((w2.setCell ⟨w.heap.size, 0, none⟩ (.func (.func 121) #[] #[])).setCell ⟨w.heap.size, 1, none⟩ (.func (.func 122) #[] #[]))) := hwz
  clear hwz
  go_wp2_with fail
  rw [← HWz.out]
  clear HWz zc0 zf0 zc1 zf1
  refine bodyPost_ret (v := .agg #[.func (.func 121) #[] #[], .func (.func 122) #[] #[]]) (by simp [results, Tryz.results78, go_sem, zd0, zd1]) rfl ?_
  exact ⟨rfl, T2.out.trans' HUz.out (fun i hi e => by omega)⟩

set_option maxHeartbeats 1000000 in
theorem pairOf_over (x : Int) (h12 : 12 ≤ x) (h256 : x < 256) (w : World) : Calls Tryz.prog 78 #[.int .u8 x] w fun e w' => e = .panicked (flawC 21) ∧ Touch (fun _ => False) w w' := by
  have hsf : ∀ (w : World) (a : Addr) (f : Fn) (x y : Array Value) (m : Mode), (store a (.func f x y) m).run Tryz.prog w = stored Tryz.prog w a (.func f x y) m := fun w a f x y m => run_store Tryz.prog w a _ m rfl
  have hnq : ∀ (w : World) (F : Nat), (binOp BinOp.neq 143 (.func (.func F) #[] #[]) .nilFunc).run Tryz.prog w = .ok (.bool true) w := fun _ _ => by kernel_rfl
  have hnn : ∀ (w : World), (binOp BinOp.neq 143 .nilFunc .nilFunc).run Tryz.prog w = .ok (.bool false) w := fun _ => by kernel_rfl
  go_enter Tryz.func78, Tryz.ntmps78
  go_wp2_with fail
  refine Calls.mono (pairs_any _) ?_
  rintro e w1 ⟨rfl, t1⟩
  have T1 : Hid (Touch (fun _ => False) w w1) := ((Touch.refl _ w).alloc _).trans t1
  have R1 : Hid (Room w1 w.heap.size 2) := (Room.new w #[.nilFunc, .nilFunc] 145).keep t1
  have hg : w.heap.size < w1.heap.size := by have := t1.size; simp at this; omega
  clear t1
  go_upto_region 2 with (refine wpList_store_row rfl 173 (.tmp 3) (.tmp 4) rfl w1.heap.size prsV.toArray rfl rfl 173 _ (row_new w1 173 _) (by rw [Tryz.info24]; rfl) rfl oneCell_prsV ?_)
  have RW : Hid (Row ((w1.alloc (.cells #[.nilFunc, .nilFunc, .nilFunc, .nilFunc, .nilFunc, .nilFunc, .nilFunc, .nilFunc, .nilFunc, .nilFunc, .nilFunc, .nilFunc, .nilFunc, .nilFunc, .nilFunc, .nilFunc, .nilFunc, .nilFunc, .nilFunc, .nilFunc, .nilFunc, .nilFunc, .nilFunc, .nilFunc] 173)).setRow w1.heap.size prsV.toArray) w1.heap.size 173 prsV) := (row_new w1 173 _).setRow prsV.toArray
  have T2 : Hid (Touch (fun _ => False) w ((w1.alloc (.cells #[.nilFunc, .nilFunc, .nilFunc, .nilFunc, .nilFunc, .nilFunc, .nilFunc, .nilFunc, .nilFunc, .nilFunc, .nilFunc, .nilFunc, .nilFunc, .nilFunc, .nilFunc, .nilFunc, .nilFunc, .nilFunc, .nilFunc, .nilFunc, .nilFunc, .nilFunc, .nilFunc, .nilFunc] 173)).setRow w1.heap.size prsV.toArray)) := (T1.out.alloc _).setRow (Or.inr (by omega)) _
  have R2 : Hid (Room ((w1.alloc (.cells #[.nilFunc, .nilFunc, .nilFunc, .nilFunc, .nilFunc, .nilFunc, .nilFunc, .nilFunc, .nilFunc, .nilFunc, .nilFunc, .nilFunc, .nilFunc, .nilFunc, .nilFunc, .nilFunc, .nilFunc, .nilFunc, .nilFunc, .nilFunc, .nilFunc, .nilFunc, .nilFunc, .nilFunc] 173)).setRow w1.heap.size prsV.toArray) w.heap.size 2) := (R1.out.keep ((Touch.refl _ _).alloc _)).touch (Touch.setRow (F := fun k => k = w1.heap.size) (Touch.refl _ _) (Or.inl rfl) _) (by show ¬ w.heap.size = w1.heap.size; omega)
  have hne1 : ¬ w.heap.size = w1.heap.size := by omega
  have hne2 : ¬ w1.heap.size = w.heap.size := by omega
  generalize (w1.alloc (.cells #[.nilFunc, .nilFunc, .nilFunc, .nilFunc, .nilFunc, .nilFunc, .nilFunc, .nilFunc, .nilFunc, .nilFunc, .nilFunc, .nilFunc, .nilFunc, .nilFunc, .nilFunc, .nilFunc, .nilFunc, .nilFunc, .nilFunc, .nilFunc, .nilFunc, .nilFunc, .nilFunc, .nilFunc] 173)).setRow w1.heap.size prsV.toArray = w2 at *
  clear R1 T1
  have hlt : ¬ x < 12 := by omega
  go_wp2_with fail
  refine Calls.mono (need_f _ 21 _ (by first | rfl | simp)) ?_
  rintro e w3 ⟨rfl, rfl⟩
  exact ⟨rfl, rfl, T2.out⟩

end Go.Proofs.YtjffcflhbnmjmaaGreat
