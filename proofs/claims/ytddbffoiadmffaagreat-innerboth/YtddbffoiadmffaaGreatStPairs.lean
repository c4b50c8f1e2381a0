import Derived.Test.YtddbffoiadmffaaGreatNumber
import Derived.Test.YtddbffoiadmffaaGreatTrUp
import Derived.Test.YtddbffoiadmffaaGreatRdAll2
import Derived.Deep.DeepCutAuto
namespace Go.Proofs.YtddbffoiadmffaaGreat
open Go.RowKit
set_option linter.unusedVariables false
set_option maxRecDepth 100000
def prsV:List Value:=[.nilFunc,
 .nilFunc,
 .func (.func 206) #[] #[],
 .func (.func 207) #[] #[],
 .func (.func 208) #[] #[],
 .func (.func 209) #[] #[],
 .func (.func 210) #[] #[],
 .func (.func 211) #[] #[],
 .func (.func 212) #[] #[],
 .func (.func 213) #[] #[],
 .func (.func 202) #[] #[],
 .func (.func 203) #[] #[],
 .nilFunc,
 .nilFunc,
 .func (.func 202) #[] #[],
 .func (.func 203) #[] #[],
 .nilFunc,
 .nilFunc,
 .func (.func 204) #[] #[],
 .func (.func 205) #[] #[],
 .func (.func 204) #[] #[],
 .func (.func 205) #[] #[],
 .func (.func 204) #[] #[],
 .func (.func 205) #[] #[]]
theorem Tryz.info24:(Tryz.prog.info? 293).map (·.size)=some 24:=by kernel_rfl
theorem oneCell_prsV:prsV.toArray.all (·.oneCell')=true:=by decide +kernel
set_option maxHeartbeats 1000000 in
theorem pairs_any (w:World):Calls Tryz.prog 176 #[] w fun e w'=>e=.returned (.agg prsV.toArray)∧Touch (fun _=>False) w w':=by
 go_enter Tryz.func176,Tryz.ntmps176
 have hsf:∀ (w:World) (a:Addr) (f:Fn) (x y:Array Value) (m:Mode),(store a (.func f x y) m).run Tryz.prog w=stored Tryz.prog w a (.func f x y) m:=fun w a f x y m=>run_store Tryz.prog w a _ m rfl
 go_upto_region 3 with fail
 have HRW:Hid (Row (((w.alloc (.cells #[.nilFunc,.nilFunc,.nilFunc,.nilFunc,.nilFunc,.nilFunc,.nilFunc,.nilFunc,.nilFunc,.nilFunc,.nilFunc,.nilFunc,.nilFunc,.nilFunc,.nilFunc,.nilFunc,.nilFunc,.nilFunc,.nilFunc,.nilFunc,.nilFunc,.nilFunc,.nilFunc,.nilFunc] 293)).alloc (.cells #[.func (.func 202) #[] #[],.func (.func 203) #[] #[]] 248)).alloc (.cells #[.func (.func 204) #[] #[],.func (.func 205) #[] #[]] 248)) w.heap.size 293 [.nilFunc,.nilFunc,.nilFunc,.nilFunc,.nilFunc,.nilFunc,.nilFunc,.nilFunc,.nilFunc,.nilFunc,.nilFunc,.nilFunc,.nilFunc,.nilFunc,.nilFunc,.nilFunc,.nilFunc,.nilFunc,.nilFunc,.nilFunc,.nilFunc,.nilFunc,.nilFunc,.nilFunc]):=(row_new w 293 #[.nilFunc,.nilFunc,.nilFunc,.nilFunc,.nilFunc,.nilFunc,.nilFunc,.nilFunc,.nilFunc,.nilFunc,.nilFunc,.nilFunc,.nilFunc,.nilFunc,.nilFunc,.nilFunc,.nilFunc,.nilFunc,.nilFunc,.nilFunc,.nilFunc,.nilFunc,.nilFunc,.nilFunc]).keep (((Touch.refl _ _).alloc _).alloc _)
 have HTW:Hid (Touch (fun _=>False) w (((w.alloc (.cells #[.nilFunc,.nilFunc,.nilFunc,.nilFunc,.nilFunc,.nilFunc,.nilFunc,.nilFunc,.nilFunc,.nilFunc,.nilFunc,.nilFunc,.nilFunc,.nilFunc,.nilFunc,.nilFunc,.nilFunc,.nilFunc,.nilFunc,.nilFunc,.nilFunc,.nilFunc,.nilFunc,.nilFunc] 293)).alloc (.cells #[.func (.func 202) #[] #[],.func (.func 203) #[] #[]] 248)).alloc (.cells #[.func (.func 204) #[] #[],.func (.func 205) #[] #[]] 248))):=((((Touch.refl _ w).alloc _).alloc _).alloc _)
 have o0:(((w.alloc (.cells #[.nilFunc,.nilFunc,.nilFunc,.nilFunc,.nilFunc,.nilFunc,.nilFunc,.nilFunc,.nilFunc,.nilFunc,.nilFunc,.nilFunc,.nilFunc,.nilFunc,.nilFunc,.nilFunc,.nilFunc,.nilFunc,.nilFunc,.nilFunc,.nilFunc,.nilFunc,.nilFunc,.nilFunc] 293)).alloc (.cells #[.func (.func 202) #[] #[],.func (.func 203) #[] #[]] 248)).alloc (.cells #[.func (.func 204) #[] #[],.func (.func 205) #[] #[]] 248)).cell? ⟨w.heap.size+1,0,none⟩=some (.func (.func 202) #[] #[]):=by simp [go_sem]
 have o1:(((w.alloc (.cells #[.nilFunc,.nilFunc,.nilFunc,.nilFunc,.nilFunc,.nilFunc,.nilFunc,.nilFunc,.nilFunc,.nilFunc,.nilFunc,.nilFunc,.nilFunc,.nilFunc,.nilFunc,.nilFunc,.nilFunc,.nilFunc,.nilFunc,.nilFunc,.nilFunc,.nilFunc,.nilFunc,.nilFunc] 293)).alloc (.cells #[.func (.func 202) #[] #[],.func (.func 203) #[] #[]] 248)).alloc (.cells #[.func (.func 204) #[] #[],.func (.func 205) #[] #[]] 248)).cell? ⟨w.heap.size+1,1,none⟩=some (.func (.func 203) #[] #[]):=by simp [go_sem]
 have p0:(((w.alloc (.cells #[.nilFunc,.nilFunc,.nilFunc,.nilFunc,.nilFunc,.nilFunc,.nilFunc,.nilFunc,.nilFunc,.nilFunc,.nilFunc,.nilFunc,.nilFunc,.nilFunc,.nilFunc,.nilFunc,.nilFunc,.nilFunc,.nilFunc,.nilFunc,.nilFunc,.nilFunc,.nilFunc,.nilFunc] 293)).alloc (.cells #[.func (.func 202) #[] #[],.func (.func 203) #[] #[]] 248)).alloc (.cells #[.func (.func 204) #[] #[],.func (.func 205) #[] #[]] 248)).cell? ⟨w.heap.size+1+1,0,none⟩=some (.func (.func 204) #[] #[]):=by simp [go_sem]
 have p1:(((w.alloc (.cells #[.nilFunc,.nilFunc,.nilFunc,.nilFunc,.nilFunc,.nilFunc,.nilFunc,.nilFunc,.nilFunc,.nilFunc,.nilFunc,.nilFunc,.nilFunc,.nilFunc,.nilFunc,.nilFunc,.nilFunc,.nilFunc,.nilFunc,.nilFunc,.nilFunc,.nilFunc,.nilFunc,.nilFunc] 293)).alloc (.cells #[.func (.func 202) #[] #[],.func (.func 203) #[] #[]] 248)).alloc (.cells #[.func (.func 204) #[] #[],.func (.func 205) #[] #[]] 248)).cell? ⟨w.heap.size+1+1,1,none⟩=some (.func (.func 205) #[] #[]):=by simp [go_sem]
 generalize ((w.alloc (.cells #[.nilFunc,.nilFunc,.nilFunc,.nilFunc,.nilFunc,.nilFunc,.nilFunc,.nilFunc,.nilFunc,.nilFunc,.nilFunc,.nilFunc,.nilFunc,.nilFunc,.nilFunc,.nilFunc,.nilFunc,.nilFunc,.nilFunc,.nilFunc,.nilFunc,.nilFunc,.nilFunc,.nilFunc] 293)).alloc (.cells #[.func (.func 202) #[] #[],.func (.func 203) #[] #[]] 248)).alloc (.cells #[.func (.func 204) #[] #[],.func (.func 205) #[] #[]] 248)=w1 at *
 clear hsf
 go_wp2_with (refine wpList_store_row rfl 293 (.tmp 0) (.tmp 14) rfl w.heap.size prsV.toArray rfl rfl 293 _ HRW.out (by rw [Tryz.info24]; rfl) rfl oneCell_prsV ?_)
 refine bodyPost_ret (results_cell_row Tryz.results176 _ _ w.heap.size 293 prsV.toArray (0,0) _ rfl (HRW.out.setRow prsV.toArray) Tryz.underlying293 rfl (by rw [Tryz.info24]; rfl)) rfl ?_
 exact ⟨rfl,HTW.out.setRow (Or.inr (Nat.le_refl _)) _⟩
set_option maxHeartbeats 1000000 in
theorem pairOf_0 (w:World):Calls Tryz.prog 144 #[.int .u8 0] w fun e w'=>e=.panicked (flawC 21)∧Touch (fun _=>False) w w':=by
 have hsf:∀ (w:World) (a:Addr) (f:Fn) (x y:Array Value) (m:Mode),(store a (.func f x y) m).run Tryz.prog w=stored Tryz.prog w a (.func f x y) m:=fun w a f x y m=>run_store Tryz.prog w a _ m rfl
 have hnq:∀ (w:World) (F:Nat),(binOp BinOp.neq 246 (.func (.func F) #[] #[]) .nilFunc).run Tryz.prog w=.ok (.bool true) w:=fun _ _=>by kernel_rfl
 have hnn:∀ (w:World),(binOp BinOp.neq 246 .nilFunc .nilFunc).run Tryz.prog w=.ok (.bool false) w:=fun _=>by kernel_rfl
 go_enter Tryz.func144,Tryz.ntmps144
 go_wp2_with fail
 refine Calls.mono (pairs_any _) ?_
 rintro e w1 ⟨rfl,t1⟩
 have T1:Hid (Touch (fun _=>False) w w1):=((Touch.refl _ w).alloc _).trans t1
 have R1:Hid (Room w1 w.heap.size 2):=(Room.new w #[.nilFunc,.nilFunc] 248).keep t1
 have hg:w.heap.size<w1.heap.size:=by have:=t1.size; simp at this; omega
 clear t1
 go_upto_region 2 with (refine wpList_store_row rfl 293 (.tmp 3) (.tmp 4) rfl w1.heap.size prsV.toArray rfl rfl 293 _ (row_new w1 293 _) (by rw [Tryz.info24]; rfl) rfl oneCell_prsV ?_)
 have RW:Hid (Row ((w1.alloc (.cells #[.nilFunc,.nilFunc,.nilFunc,.nilFunc,.nilFunc,.nilFunc,.nilFunc,.nilFunc,.nilFunc,.nilFunc,.nilFunc,.nilFunc,.nilFunc,.nilFunc,.nilFunc,.nilFunc,.nilFunc,.nilFunc,.nilFunc,.nilFunc,.nilFunc,.nilFunc,.nilFunc,.nilFunc] 293)).setRow w1.heap.size prsV.toArray) w1.heap.size 293 prsV):=(row_new w1 293 _).setRow prsV.toArray
 have T2:Hid (Touch (fun _=>False) w ((w1.alloc (.cells #[.nilFunc,.nilFunc,.nilFunc,.nilFunc,.nilFunc,.nilFunc,.nilFunc,.nilFunc,.nilFunc,.nilFunc,.nilFunc,.nilFunc,.nilFunc,.nilFunc,.nilFunc,.nilFunc,.nilFunc,.nilFunc,.nilFunc,.nilFunc,.nilFunc,.nilFunc,.nilFunc,.nilFunc] 293)).setRow w1.heap.size prsV.toArray)):=(T1.out.alloc _).setRow (Or.inr (by omega)) _
 have R2:Hid (Room ((w1.alloc (.cells #[.nilFunc,.nilFunc,.nilFunc,.nilFunc,.nilFunc,.nilFunc,.nilFunc,.nilFunc,.nilFunc,.nilFunc,.nilFunc,.nilFunc,.nilFunc,.nilFunc,.nilFunc,.nilFunc,.nilFunc,.nilFunc,.nilFunc,.nilFunc,.nilFunc,.nilFunc,.nilFunc,.nilFunc] 293)).setRow w1.heap.size prsV.toArray) w.heap.size 2):=(R1.out.keep ((Touch.refl _ _).alloc _)).touch (Touch.setRow (F:=fun k=>k=w1.heap.size) (Touch.refl _ _) (Or.inl rfl) _) (by show ¬ w.heap.size=w1.heap.size; omega)
 have hne1:¬ w.heap.size=w1.heap.size:=by omega
 have hne2:¬ w1.heap.size=w.heap.size:=by omega
 generalize (w1.alloc (.cells #[.nilFunc,.nilFunc,.nilFunc,.nilFunc,.nilFunc,.nilFunc,.nilFunc,.nilFunc,.nilFunc,.nilFunc,.nilFunc,.nilFunc,.nilFunc,.nilFunc,.nilFunc,.nilFunc,.nilFunc,.nilFunc,.nilFunc,.nilFunc,.nilFunc,.nilFunc,.nilFunc,.nilFunc] 293)).setRow w1.heap.size prsV.toArray=w2 at *
 clear R1 T1
 have hc1:w2.cell? ⟨w1.heap.size,1,none⟩=some .nilFunc:=RW.out.cell 1
 go_wp2_with fail
 refine Calls.mono (need_f _ 21 _ rfl) ?_
 rintro e w3 ⟨rfl,rfl⟩
 exact ⟨rfl,rfl,T2.out⟩
set_option maxHeartbeats 1000000 in
theorem pairOf_1 (w:World):Calls Tryz.prog 144 #[.int .u8 1] w fun e w'=>e=.returned (.agg #[.func (.func 206) #[] #[],.func (.func 207) #[] #[]])∧Touch (fun _=>False) w w':=by
 have hsf:∀ (w:World) (a:Addr) (f:Fn) (x y:Array Value) (m:Mode),(store a (.func f x y) m).run Tryz.prog w=stored Tryz.prog w a (.func f x y) m:=fun w a f x y m=>run_store Tryz.prog w a _ m rfl
 have hnq:∀ (w:World) (F:Nat),(binOp BinOp.neq 246 (.func (.func F) #[] #[]) .nilFunc).run Tryz.prog w=.ok (.bool true) w:=fun _ _=>by kernel_rfl
 have hnn:∀ (w:World),(binOp BinOp.neq 246 .nilFunc .nilFunc).run Tryz.prog w=.ok (.bool false) w:=fun _=>by kernel_rfl
 go_enter Tryz.func144,Tryz.ntmps144
 go_wp2_with fail
 refine Calls.mono (pairs_any _) ?_
 rintro e w1 ⟨rfl,t1⟩
 have T1:Hid (Touch (fun _=>False) w w1):=((Touch.refl _ w).alloc _).trans t1
 have R1:Hid (Room w1 w.heap.size 2):=(Room.new w #[.nilFunc,.nilFunc] 248).keep t1
 have hg:w.heap.size<w1.heap.size:=by have:=t1.size; simp at this; omega
 clear t1
 go_upto_region 2 with (refine wpList_store_row rfl 293 (.tmp 3) (.tmp 4) rfl w1.heap.size prsV.toArray rfl rfl 293 _ (row_new w1 293 _) (by rw [Tryz.info24]; rfl) rfl oneCell_prsV ?_)
 have RW:Hid (Row ((w1.alloc (.cells #[.nilFunc,.nilFunc,.nilFunc,.nilFunc,.nilFunc,.nilFunc,.nilFunc,.nilFunc,.nilFunc,.nilFunc,.nilFunc,.nilFunc,.nilFunc,.nilFunc,.nilFunc,.nilFunc,.nilFunc,.nilFunc,.nilFunc,.nilFunc,.nilFunc,.nilFunc,.nilFunc,.nilFunc] 293)).setRow w1.heap.size prsV.toArray) w1.heap.size 293 prsV):=(row_new w1 293 _).setRow prsV.toArray
 have T2:Hid (Touch (fun _=>False) w ((w1.alloc (.cells #[.nilFunc,.nilFunc,.nilFunc,.nilFunc,.nilFunc,.nilFunc,.nilFunc,.nilFunc,.nilFunc,.nilFunc,.nilFunc,.nilFunc,.nilFunc,.nilFunc,.nilFunc,.nilFunc,.nilFunc,.nilFunc,.nilFunc,.nilFunc,.nilFunc,.nilFunc,.nilFunc,.nilFunc] 293)).setRow w1.heap.size prsV.toArray)):=(T1.out.alloc _).setRow (Or.inr (by omega)) _
 have R2:Hid (Room ((w1.alloc (.cells #[.nilFunc,.nilFunc,.nilFunc,.nilFunc,.nilFunc,.nilFunc,.nilFunc,.nilFunc,.nilFunc,.nilFunc,.nilFunc,.nilFunc,.nilFunc,.nilFunc,.nilFunc,.nilFunc,.nilFunc,.nilFunc,.nilFunc,.nilFunc,.nilFunc,.nilFunc,.nilFunc,.nilFunc] 293)).setRow w1.heap.size prsV.toArray) w.heap.size 2):=(R1.out.keep ((Touch.refl _ _).alloc _)).touch (Touch.setRow (F:=fun k=>k=w1.heap.size) (Touch.refl _ _) (Or.inl rfl) _) (by show ¬ w.heap.size=w1.heap.size; omega)
 have hne1:¬ w.heap.size=w1.heap.size:=by omega
 have hne2:¬ w1.heap.size=w.heap.size:=by omega
 generalize (w1.alloc (.cells #[.nilFunc,.nilFunc,.nilFunc,.nilFunc,.nilFunc,.nilFunc,.nilFunc,.nilFunc,.nilFunc,.nilFunc,.nilFunc,.nilFunc,.nilFunc,.nilFunc,.nilFunc,.nilFunc,.nilFunc,.nilFunc,.nilFunc,.nilFunc,.nilFunc,.nilFunc,.nilFunc,.nilFunc] 293)).setRow w1.heap.size prsV.toArray=w2 at *
 clear R1 T1
 have hc0:w2.cell? ⟨w1.heap.size,2,none⟩=some (.func (.func 206) #[] #[]):=RW.out.cell 2
 have hc1:w2.cell? ⟨w1.heap.size,3,none⟩=some (.func (.func 207) #[] #[]):=RW.out.cell 3
 go_wp2_with fail
 refine Calls.mono (need_t _ 21 _ rfl) ?_
 rintro e w3 ⟨rfl,rfl⟩
 obtain ⟨zz0,zc0,zf0⟩:=R2.out 0 (by omega)
 obtain ⟨zz1,zc1,zf1⟩:=R2.out 1 (by omega)
 obtain ⟨wz,hwz⟩:∃ wz,wz=((w2.setCell ⟨w.heap.size,0,none⟩ (.func (.func 206) #[] #[])).setCell ⟨w.heap.size,1,none⟩ (.func (.func 207) #[] #[])):=⟨_,rfl⟩
 have zd0:wz.cell? ⟨w.heap.size,0,none⟩=some (.func (.func 206) #[] #[]):=by rw [hwz]; simp [zc0,go_sem]
 have zd1:wz.cell? ⟨w.heap.size,1,none⟩=some (.func (.func 207) #[] #[]):=by rw [hwz]; simp [zc1,go_sem]
 have HUz:Hid (Touch (fun k=>k=w.heap.size) w2 wz):=by show Touch _ _ _; rw [hwz]; refine Touch.setCell (F:=fun k=>k=w.heap.size) (p:=⟨w.heap.size,1,none⟩) ?_ (Or.inl rfl) _; refine Touch.setCell (F:=fun k=>k=w.heap.size) (p:=⟨w.heap.size,0,none⟩) ?_ (Or.inl rfl) _; exact Touch.refl _ _
 have HWz:Hid (wz=((w2.setCell ⟨w.heap.size,0,none⟩ (.func (.func 206) #[] #[])).setCell ⟨w.heap.size,1,none⟩ (.func (.func 207) #[] #[]))):=hwz
 clear hwz
 go_wp2_with fail
 rw [← HWz.out]
 clear HWz zc0 zf0 zc1 zf1
 refine bodyPost_ret (v:=.agg #[.func (.func 206) #[] #[],.func (.func 207) #[] #[]]) (by simp [results,Tryz.results144,go_sem,zd0,zd1]) rfl ?_
 exact ⟨rfl,T2.out.trans' HUz.out (fun i hi e=>by omega)⟩
set_option maxHeartbeats 1000000 in
theorem pairOf_2 (w:World):Calls Tryz.prog 144 #[.int .u8 2] w fun e w'=>e=.returned (.agg #[.func (.func 208) #[] #[],.func (.func 209) #[] #[]])∧Touch (fun _=>False) w w':=by
 have hsf:∀ (w:World) (a:Addr) (f:Fn) (x y:Array Value) (m:Mode),(store a (.func f x y) m).run Tryz.prog w=stored Tryz.prog w a (.func f x y) m:=fun w a f x y m=>run_store Tryz.prog w a _ m rfl
 have hnq:∀ (w:World) (F:Nat),(binOp BinOp.neq 246 (.func (.func F) #[] #[]) .nilFunc).run Tryz.prog w=.ok (.bool true) w:=fun _ _=>by kernel_rfl
 have hnn:∀ (w:World),(binOp BinOp.neq 246 .nilFunc .nilFunc).run Tryz.prog w=.ok (.bool false) w:=fun _=>by kernel_rfl
 go_enter Tryz.func144,Tryz.ntmps144
 go_wp2_with fail
 refine Calls.mono (pairs_any _) ?_
 rintro e w1 ⟨rfl,t1⟩
 have T1:Hid (Touch (fun _=>False) w w1):=((Touch.refl _ w).alloc _).trans t1
 have R1:Hid (Room w1 w.heap.size 2):=(Room.new w #[.nilFunc,.nilFunc] 248).keep t1
 have hg:w.heap.size<w1.heap.size:=by have:=t1.size; simp at this; omega
 clear t1
 go_upto_region 2 with (refine wpList_store_row rfl 293 (.tmp 3) (.tmp 4) rfl w1.heap.size prsV.toArray rfl rfl 293 _ (row_new w1 293 _) (by rw [Tryz.info24]; rfl) rfl oneCell_prsV ?_)
 have RW:Hid (Row ((w1.alloc (.cells #[.nilFunc,.nilFunc,.nilFunc,.nilFunc,.nilFunc,.nilFunc,.nilFunc,.nilFunc,.nilFunc,.nilFunc,.nilFunc,.nilFunc,.nilFunc,.nilFunc,.nilFunc,.nilFunc,.nilFunc,.nilFunc,.nilFunc,.nilFunc,.nilFunc,.nilFunc,.nilFunc,.nilFunc] 293)).setRow w1.heap.size prsV.toArray) w1.heap.size 293 prsV):=(row_new w1 293 _).setRow prsV.toArray
 have T2:Hid (Touch (fun _=>False) w ((w1.alloc (.cells #[.nilFunc,.nilFunc,.nilFunc,.nilFunc,.nilFunc,.nilFunc,.nilFunc,.nilFunc,.nilFunc,.nilFunc,.nilFunc,.nilFunc,.nilFunc,.nilFunc,.nilFunc,.nilFunc,.nilFunc,.nilFunc,.nilFunc,.nilFunc,.nilFunc,.nilFunc,.nilFunc,.nilFunc] 293)).setRow w1.heap.size prsV.toArray)):=(T1.out.alloc _).setRow (Or.inr (by omega)) _
 have R2:Hid (Room ((w1.alloc (.cells #[.nilFunc,.nilFunc,.nilFunc,.nilFunc,.nilFunc,.nilFunc,.nilFunc,.nilFunc,.nilFunc,.nilFunc,.nilFunc,.nilFunc,.nilFunc,.nilFunc,.nilFunc,.nilFunc,.nilFunc,.nilFunc,.nilFunc,.nilFunc,.nilFunc,.nilFunc,.nilFunc,.nilFunc] 293)).setRow w1.heap.size prsV.toArray) w.heap.size 2):=(R1.out.keep ((Touch.refl _ _).alloc _)).touch (Touch.setRow (F:=fun k=>k=w1.heap.size) (Touch.refl _ _) (Or.inl rfl) _) (by show ¬ w.heap.size=w1.heap.size; omega)
 have hne1:¬ w.heap.size=w1.heap.size:=by omega
 have hne2:¬ w1.heap.size=w.heap.size:=by omega
 generalize (w1.alloc (.cells #[.nilFunc,.nilFunc,.nilFunc,.nilFunc,.nilFunc,.nilFunc,.nilFunc,.nilFunc,.nilFunc,.nilFunc,.nilFunc,.nilFunc,.nilFunc,.nilFunc,.nilFunc,.nilFunc,.nilFunc,.nilFunc,.nilFunc,.nilFunc,.nilFunc,.nilFunc,.nilFunc,.nilFunc] 293)).setRow w1.heap.size prsV.toArray=w2 at *
 clear R1 T1
 have hc0:w2.cell? ⟨w1.heap.size,4,none⟩=some (.func (.func 208) #[] #[]):=RW.out.cell 4
 have hc1:w2.cell? ⟨w1.heap.size,5,none⟩=some (.func (.func 209) #[] #[]):=RW.out.cell 5
 go_wp2_with fail
 refine Calls.mono (need_t _ 21 _ rfl) ?_
 rintro e w3 ⟨rfl,rfl⟩
 obtain ⟨zz0,zc0,zf0⟩:=R2.out 0 (by omega)
 obtain ⟨zz1,zc1,zf1⟩:=R2.out 1 (by omega)
 obtain ⟨wz,hwz⟩:∃ wz,wz=((w2.setCell ⟨w.heap.size,0,none⟩ (.func (.func 208) #[] #[])).setCell ⟨w.heap.size,1,none⟩ (.func (.func 209) #[] #[])):=⟨_,rfl⟩
 have zd0:wz.cell? ⟨w.heap.size,0,none⟩=some (.func (.func 208) #[] #[]):=by rw [hwz]; simp [zc0,go_sem]
 have zd1:wz.cell? ⟨w.heap.size,1,none⟩=some (.func (.func 209) #[] #[]):=by rw [hwz]; simp [zc1,go_sem]
 have HUz:Hid (Touch (fun k=>k=w.heap.size) w2 wz):=by show Touch _ _ _; rw [hwz]; refine Touch.setCell (F:=fun k=>k=w.heap.size) (p:=⟨w.heap.size,1,none⟩) ?_ (Or.inl rfl) _; refine Touch.setCell (F:=fun k=>k=w.heap.size) (p:=⟨w.heap.size,0,none⟩) ?_ (Or.inl rfl) _; exact Touch.refl _ _
 have HWz:Hid (wz=((w2.setCell ⟨w.heap.size,0,none⟩ (.func (.func 208) #[] #[])).setCell ⟨w.heap.size,1,none⟩ (.func (.func 209) #[] #[]))):=hwz
 clear hwz
 go_wp2_with fail
 rw [← HWz.out]
 clear HWz zc0 zf0 zc1 zf1
 refine bodyPost_ret (v:=.agg #[.func (.func 208) #[] #[],.func (.func 209) #[] #[]]) (by simp [results,Tryz.results144,go_sem,zd0,zd1]) rfl ?_
 exact ⟨rfl,T2.out.trans' HUz.out (fun i hi e=>by omega)⟩
set_option maxHeartbeats 1000000 in
theorem pairOf_3 (w:World):Calls Tryz.prog 144 #[.int .u8 3] w fun e w'=>e=.returned (.agg #[.func (.func 210) #[] #[],.func (.func 211) #[] #[]])∧Touch (fun _=>False) w w':=by
 have hsf:∀ (w:World) (a:Addr) (f:Fn) (x y:Array Value) (m:Mode),(store a (.func f x y) m).run Tryz.prog w=stored Tryz.prog w a (.func f x y) m:=fun w a f x y m=>run_store Tryz.prog w a _ m rfl
 have hnq:∀ (w:World) (F:Nat),(binOp BinOp.neq 246 (.func (.func F) #[] #[]) .nilFunc).run Tryz.prog w=.ok (.bool true) w:=fun _ _=>by kernel_rfl
 have hnn:∀ (w:World),(binOp BinOp.neq 246 .nilFunc .nilFunc).run Tryz.prog w=.ok (.bool false) w:=fun _=>by kernel_rfl
 go_enter Tryz.func144,Tryz.ntmps144
 go_wp2_with fail
 refine Calls.mono (pairs_any _) ?_
 rintro e w1 ⟨rfl,t1⟩
 have T1:Hid (Touch (fun _=>False) w w1):=((Touch.refl _ w).alloc _).trans t1
 have R1:Hid (Room w1 w.heap.size 2):=(Room.new w #[.nilFunc,.nilFunc] 248).keep t1
 have hg:w.heap.size<w1.heap.size:=by have:=t1.size; simp at this; omega
 clear t1
 go_upto_region 2 with (refine wpList_store_row rfl 293 (.tmp 3) (.tmp 4) rfl w1.heap.size prsV.toArray rfl rfl 293 _ (row_new w1 293 _) (by rw [Tryz.info24]; rfl) rfl oneCell_prsV ?_)
 have RW:Hid (Row ((w1.alloc (.cells #[.nilFunc,.nilFunc,.nilFunc,.nilFunc,.nilFunc,.nilFunc,.nilFunc,.nilFunc,.nilFunc,.nilFunc,.nilFunc,.nilFunc,.nilFunc,.nilFunc,.nilFunc,.nilFunc,.nilFunc,.nilFunc,.nilFunc,.nilFunc,.nilFunc,.nilFunc,.nilFunc,.nilFunc] 293)).setRow w1.heap.size prsV.toArray) w1.heap.size 293 prsV):=(row_new w1 293 _).setRow prsV.toArray
 have T2:Hid (Touch (fun _=>False) w ((w1.alloc (.cells #[.nilFunc,.nilFunc,.nilFunc,.nilFunc,.nilFunc,.nilFunc,.nilFunc,.nilFunc,.nilFunc,.nilFunc,.nilFunc,.nilFunc,.nilFunc,.nilFunc,.nilFunc,.nilFunc,.nilFunc,.nilFunc,.nilFunc,.nilFunc,.nilFunc,.nilFunc,.nilFunc,.nilFunc] 293)).setRow w1.heap.size prsV.toArray)):=(T1.out.alloc _).setRow (Or.inr (by omega)) _
 have R2:Hid (Room ((w1.alloc (.cells #[.nilFunc,.nilFunc,.nilFunc,.nilFunc,.nilFunc,.nilFunc,.nilFunc,.nilFunc,.nilFunc,.nilFunc,.nilFunc,.nilFunc,.nilFunc,.nilFunc,.nilFunc,.nilFunc,.nilFunc,.nilFunc,.nilFunc,.nilFunc,.nilFunc,.nilFunc,.nilFunc,.nilFunc] 293)).setRow w1.heap.size prsV.toArray) w.heap.size 2):=(R1.out.keep ((Touch.refl _ _).alloc _)).touch (Touch.setRow (F:=fun k=>k=w1.heap.size) (Touch.refl _ _) (Or.inl rfl) _) (by show ¬ w.heap.size=w1.heap.size; omega)
 have hne1:¬ w.heap.size=w1.heap.size:=by omega
 have hne2:¬ w1.heap.size=w.heap.size:=by omega
 generalize (w1.alloc (.cells #[.nilFunc,.nilFunc,.nilFunc,.nilFunc,.nilFunc,.nilFunc,.nilFunc,.nilFunc,.nilFunc,.nilFunc,.nilFunc,.nilFunc,.nilFunc,.nilFunc,.nilFunc,.nilFunc,.nilFunc,.nilFunc,.nilFunc,.nilFunc,.nilFunc,.nilFunc,.nilFunc,.nilFunc] 293)).setRow w1.heap.size prsV.toArray=w2 at *
 clear R1 T1
 have hc0:w2.cell? ⟨w1.heap.size,6,none⟩=some (.func (.func 210) #[] #[]):=RW.out.cell 6
 have hc1:w2.cell? ⟨w1.heap.size,7,none⟩=some (.func (.func 211) #[] #[]):=RW.out.cell 7
 go_wp2_with fail
 refine Calls.mono (need_t _ 21 _ rfl) ?_
 rintro e w3 ⟨rfl,rfl⟩
 obtain ⟨zz0,zc0,zf0⟩:=R2.out 0 (by omega)
 obtain ⟨zz1,zc1,zf1⟩:=R2.out 1 (by omega)
 obtain ⟨wz,hwz⟩:∃ wz,wz=((w2.setCell ⟨w.heap.size,0,none⟩ (.func (.func 210) #[] #[])).setCell ⟨w.heap.size,1,none⟩ (.func (.func 211) #[] #[])):=⟨_,rfl⟩
 have zd0:wz.cell? ⟨w.heap.size,0,none⟩=some (.func (.func 210) #[] #[]):=by rw [hwz]; simp [zc0,go_sem]
 have zd1:wz.cell? ⟨w.heap.size,1,none⟩=some (.func (.func 211) #[] #[]):=by rw [hwz]; simp [zc1,go_sem]
 have HUz:Hid (Touch (fun k=>k=w.heap.size) w2 wz):=by show Touch _ _ _; rw [hwz]; refine Touch.setCell (F:=fun k=>k=w.heap.size) (p:=⟨w.heap.size,1,none⟩) ?_ (Or.inl rfl) _; refine Touch.setCell (F:=fun k=>k=w.heap.size) (p:=⟨w.heap.size,0,none⟩) ?_ (Or.inl rfl) _; exact Touch.refl _ _
 have HWz:Hid (wz=((w2.setCell ⟨w.heap.size,0,none⟩ (.func (.func 210) #[] #[])).setCell ⟨w.heap.size,1,none⟩ (.func (.func 211) #[] #[]))):=hwz
 clear hwz
 go_wp2_with fail
 rw [← HWz.out]
 clear HWz zc0 zf0 zc1 zf1
 refine bodyPost_ret (v:=.agg #[.func (.func 210) #[] #[],.func (.func 211) #[] #[]]) (by simp [results,Tryz.results144,go_sem,zd0,zd1]) rfl ?_
 exact ⟨rfl,T2.out.trans' HUz.out (fun i hi e=>by omega)⟩
set_option maxHeartbeats 1000000 in
theorem pairOf_4 (w:World):Calls Tryz.prog 144 #[.int .u8 4] w fun e w'=>e=.returned (.agg #[.func (.func 212) #[] #[],.func (.func 213) #[] #[]])∧Touch (fun _=>False) w w':=by
 have hsf:∀ (w:World) (a:Addr) (f:Fn) (x y:Array Value) (m:Mode),(store a (.func f x y) m).run Tryz.prog w=stored Tryz.prog w a (.func f x y) m:=fun w a f x y m=>run_store Tryz.prog w a _ m rfl
 have hnq:∀ (w:World) (F:Nat),(binOp BinOp.neq 246 (.func (.func F) #[] #[]) .nilFunc).run Tryz.prog w=.ok (.bool true) w:=fun _ _=>by kernel_rfl
 have hnn:∀ (w:World),(binOp BinOp.neq 246 .nilFunc .nilFunc).run Tryz.prog w=.ok (.bool false) w:=fun _=>by kernel_rfl
 go_enter Tryz.func144,Tryz.ntmps144
 go_wp2_with fail
 refine Calls.mono (pairs_any _) ?_
 rintro e w1 ⟨rfl,t1⟩
 have T1:Hid (Touch (fun _=>False) w w1):=((Touch.refl _ w).alloc _).trans t1
 have R1:Hid (Room w1 w.heap.size 2):=(Room.new w #[.nilFunc,.nilFunc] 248).keep t1
 have hg:w.heap.size<w1.heap.size:=by have:=t1.size; simp at this; omega
 clear t1
 go_upto_region 2 with (refine wpList_store_row rfl 293 (.tmp 3) (.tmp 4) rfl w1.heap.size prsV.toArray rfl rfl 293 _ (row_new w1 293 _) (by rw [Tryz.info24]; rfl) rfl oneCell_prsV ?_)
 have RW:Hid (Row ((w1.alloc (.cells #[.nilFunc,.nilFunc,.nilFunc,.nilFunc,.nilFunc,.nilFunc,.nilFunc,.nilFunc,.nilFunc,.nilFunc,.nilFunc,.nilFunc,.nilFunc,.nilFunc,.nilFunc,.nilFunc,.nilFunc,.nilFunc,.nilFunc,.nilFunc,.nilFunc,.nilFunc,.nilFunc,.nilFunc] 293)).setRow w1.heap.size prsV.toArray) w1.heap.size 293 prsV):=(row_new w1 293 _).setRow prsV.toArray
 have T2:Hid (Touch (fun _=>False) w ((w1.alloc (.cells #[.nilFunc,.nilFunc,.nilFunc,.nilFunc,.nilFunc,.nilFunc,.nilFunc,.nilFunc,.nilFunc,.nilFunc,.nilFunc,.nilFunc,.nilFunc,.nilFunc,.nilFunc,.nilFunc,.nilFunc,.nilFunc,.nilFunc,.nilFunc,.nilFunc,.nilFunc,.nilFunc,.nilFunc] 293)).setRow w1.heap.size prsV.toArray)):=(T1.out.alloc _).setRow (Or.inr (by omega)) _
 have R2:Hid (Room ((w1.alloc (.cells #[.nilFunc,.nilFunc,.nilFunc,.nilFunc,.nilFunc,.nilFunc,.nilFunc,.nilFunc,.nilFunc,.nilFunc,.nilFunc,.nilFunc,.nilFunc,.nilFunc,.nilFunc,.nilFunc,.nilFunc,.nilFunc,.nilFunc,.nilFunc,.nilFunc,.nilFunc,.nilFunc,.nilFunc] 293)).setRow w1.heap.size prsV.toArray) w.heap.size 2):=(R1.out.keep ((Touch.refl _ _).alloc _)).touch (Touch.setRow (F:=fun k=>k=w1.heap.size) (Touch.refl _ _) (Or.inl rfl) _) (by show ¬ w.heap.size=w1.heap.size; omega)
 have hne1:¬ w.heap.size=w1.heap.size:=by omega
 have hne2:¬ w1.heap.size=w.heap.size:=by omega
 generalize (w1.alloc (.cells #[.nilFunc,.nilFunc,.nilFunc,.nilFunc,.nilFunc,.nilFunc,.nilFunc,.nilFunc,.nilFunc,.nilFunc,.nilFunc,.nilFunc,.nilFunc,.nilFunc,.nilFunc,.nilFunc,.nilFunc,.nilFunc,.nilFunc,.nilFunc,.nilFunc,.nilFunc,.nilFunc,.nilFunc] 293)).setRow w1.heap.size prsV.toArray=w2 at *
 clear R1 T1
 have hc0:w2.cell? ⟨w1.heap.size,8,none⟩=some (.func (.func 212) #[] #[]):=RW.out.cell 8
 have hc1:w2.cell? ⟨w1.heap.size,9,none⟩=some (.func (.func 213) #[] #[]):=RW.out.cell 9
 go_wp2_with fail
 refine Calls.mono (need_t _ 21 _ rfl) ?_
 rintro e w3 ⟨rfl,rfl⟩
 obtain ⟨zz0,zc0,zf0⟩:=R2.out 0 (by omega)
 obtain ⟨zz1,zc1,zf1⟩:=R2.out 1 (by omega)
 obtain ⟨wz,hwz⟩:∃ wz,wz=((w2.setCell ⟨w.heap.size,0,none⟩ (.func (.func 212) #[] #[])).setCell ⟨w.heap.size,1,none⟩ (.func (.func 213) #[] #[])):=⟨_,rfl⟩
 have zd0:wz.cell? ⟨w.heap.size,0,none⟩=some (.func (.func 212) #[] #[]):=by rw [hwz]; simp [zc0,go_sem]
 have zd1:wz.cell? ⟨w.heap.size,1,none⟩=some (.func (.func 213) #[] #[]):=by rw [hwz]; simp [zc1,go_sem]
 have HUz:Hid (Touch (fun k=>k=w.heap.size) w2 wz):=by show Touch _ _ _; rw [hwz]; refine Touch.setCell (F:=fun k=>k=w.heap.size) (p:=⟨w.heap.size,1,none⟩) ?_ (Or.inl rfl) _; refine Touch.setCell (F:=fun k=>k=w.heap.size) (p:=⟨w.heap.size,0,none⟩) ?_ (Or.inl rfl) _; exact Touch.refl _ _
 have HWz:Hid (wz=((w2.setCell ⟨w.heap.size,0,none⟩ (.func (.func 212) #[] #[])).setCell ⟨w.heap.size,1,none⟩ (.func (.func 213) #[] #[]))):=hwz
 clear hwz
 go_wp2_with fail
 rw [← HWz.out]
 clear HWz zc0 zf0 zc1 zf1
 refine bodyPost_ret (v:=.agg #[.func (.func 212) #[] #[],.func (.func 213) #[] #[]]) (by simp [results,Tryz.results144,go_sem,zd0,zd1]) rfl ?_
 exact ⟨rfl,T2.out.trans' HUz.out (fun i hi e=>by omega)⟩
set_option maxHeartbeats 1000000 in
theorem pairOf_5 (w:World):Calls Tryz.prog 144 #[.int .u8 5] w fun e w'=>e=.returned (.agg #[.func (.func 202) #[] #[],.func (.func 203) #[] #[]])∧Touch (fun _=>False) w w':=by
 have hsf:∀ (w:World) (a:Addr) (f:Fn) (x y:Array Value) (m:Mode),(store a (.func f x y) m).run Tryz.prog w=stored Tryz.prog w a (.func f x y) m:=fun w a f x y m=>run_store Tryz.prog w a _ m rfl
 have hnq:∀ (w:World) (F:Nat),(binOp BinOp.neq 246 (.func (.func F) #[] #[]) .nilFunc).run Tryz.prog w=.ok (.bool true) w:=fun _ _=>by kernel_rfl
 have hnn:∀ (w:World),(binOp BinOp.neq 246 .nilFunc .nilFunc).run Tryz.prog w=.ok (.bool false) w:=fun _=>by kernel_rfl
 go_enter Tryz.func144,Tryz.ntmps144
 go_wp2_with fail
 refine Calls.mono (pairs_any _) ?_
 rintro e w1 ⟨rfl,t1⟩
 have T1:Hid (Touch (fun _=>False) w w1):=((Touch.refl _ w).alloc _).trans t1
 have R1:Hid (Room w1 w.heap.size 2):=(Room.new w #[.nilFunc,.nilFunc] 248).keep t1
 have hg:w.heap.size<w1.heap.size:=by have:=t1.size; simp at this; omega
 clear t1
 go_upto_region 2 with (refine wpList_store_row rfl 293 (.tmp 3) (.tmp 4) rfl w1.heap.size prsV.toArray rfl rfl 293 _ (row_new w1 293 _) (by rw [Tryz.info24]; rfl) rfl oneCell_prsV ?_)
 have RW:Hid (Row ((w1.alloc (.cells #[.nilFunc,.nilFunc,.nilFunc,.nilFunc,.nilFunc,.nilFunc,.nilFunc,.nilFunc,.nilFunc,.nilFunc,.nilFunc,.nilFunc,.nilFunc,.nilFunc,.nilFunc,.nilFunc,.nilFunc,.nilFunc,.nilFunc,.nilFunc,.nilFunc,.nilFunc,.nilFunc,.nilFunc] 293)).setRow w1.heap.size prsV.toArray) w1.heap.size 293 prsV):=(row_new w1 293 _).setRow prsV.toArray
 have T2:Hid (Touch (fun _=>False) w ((w1.alloc (.cells #[.nilFunc,.nilFunc,.nilFunc,.nilFunc,.nilFunc,.nilFunc,.nilFunc,.nilFunc,.nilFunc,.nilFunc,.nilFunc,.nilFunc,.nilFunc,.nilFunc,.nilFunc,.nilFunc,.nilFunc,.nilFunc,.nilFunc,.nilFunc,.nilFunc,.nilFunc,.nilFunc,.nilFunc] 293)).setRow w1.heap.size prsV.toArray)):=(T1.out.alloc _).setRow (Or.inr (by omega)) _
 have R2:Hid (Room ((w1.alloc (.cells #[.nilFunc,.nilFunc,.nilFunc,.nilFunc,.nilFunc,.nilFunc,.nilFunc,.nilFunc,.nilFunc,.nilFunc,.nilFunc,.nilFunc,.nilFunc,.nilFunc,.nilFunc,.nilFunc,.nilFunc,.nilFunc,.nilFunc,.nilFunc,.nilFunc,.nilFunc,.nilFunc,.nilFunc] 293)).setRow w1.heap.size prsV.toArray) w.heap.size 2):=(R1.out.keep ((Touch.refl _ _).alloc _)).touch (Touch.setRow (F:=fun k=>k=w1.heap.size) (Touch.refl _ _) (Or.inl rfl) _) (by show ¬ w.heap.size=w1.heap.size; omega)
 have hne1:¬ w.heap.size=w1.heap.size:=by omega
 have hne2:¬ w1.heap.size=w.heap.size:=by omega
 generalize (w1.alloc (.cells #[.nilFunc,.nilFunc,.nilFunc,.nilFunc,.nilFunc,.nilFunc,.nilFunc,.nilFunc,.nilFunc,.nilFunc,.nilFunc,.nilFunc,.nilFunc,.nilFunc,.nilFunc,.nilFunc,.nilFunc,.nilFunc,.nilFunc,.nilFunc,.nilFunc,.nilFunc,.nilFunc,.nilFunc] 293)).setRow w1.heap.size prsV.toArray=w2 at *
 clear R1 T1
 have hc0:w2.cell? ⟨w1.heap.size,10,none⟩=some (.func (.func 202) #[] #[]):=RW.out.cell 10
 have hc1:w2.cell? ⟨w1.heap.size,11,none⟩=some (.func (.func 203) #[] #[]):=RW.out.cell 11
 go_wp2_with fail
 refine Calls.mono (need_t _ 21 _ rfl) ?_
 rintro e w3 ⟨rfl,rfl⟩
 obtain ⟨zz0,zc0,zf0⟩:=R2.out 0 (by omega)
 obtain ⟨zz1,zc1,zf1⟩:=R2.out 1 (by omega)
 obtain ⟨wz,hwz⟩:∃ wz,wz=((w2.setCell ⟨w.heap.size,0,none⟩ (.func (.func 202) #[] #[])).setCell ⟨w.heap.size,1,none⟩ (.func (.func 203) #[] #[])):=⟨_,rfl⟩
 have zd0:wz.cell? ⟨w.heap.size,0,none⟩=some (.func (.func 202) #[] #[]):=by rw [hwz]; simp [zc0,go_sem]
 have zd1:wz.cell? ⟨w.heap.size,1,none⟩=some (.func (.func 203) #[] #[]):=by rw [hwz]; simp [zc1,go_sem]
 have HUz:Hid (Touch (fun k=>k=w.heap.size) w2 wz):=by show Touch _ _ _; rw [hwz]; refine Touch.setCell (F:=fun k=>k=w.heap.size) (p:=⟨w.heap.size,1,none⟩) ?_ (Or.inl rfl) _; refine Touch.setCell (F:=fun k=>k=w.heap.size) (p:=⟨w.heap.size,0,none⟩) ?_ (Or.inl rfl) _; exact Touch.refl _ _
 have HWz:Hid (wz=((w2.setCell ⟨w.heap.size,0,none⟩ (.func (.func 202) #[] #[])).setCell ⟨w.heap.size,1,none⟩ (.func (.func 203) #[] #[]))):=hwz
 clear hwz
 go_wp2_with fail
 rw [← HWz.out]
 clear HWz zc0 zf0 zc1 zf1
 refine bodyPost_ret (v:=.agg #[.func (.func 202) #[] #[],.func (.func 203) #[] #[]]) (by simp [results,Tryz.results144,go_sem,zd0,zd1]) rfl ?_
 exact ⟨rfl,T2.out.trans' HUz.out (fun i hi e=>by omega)⟩
set_option maxHeartbeats 1000000 in
theorem pairOf_6 (w:World):Calls Tryz.prog 144 #[.int .u8 6] w fun e w'=>e=.panicked (flawC 21)∧Touch (fun _=>False) w w':=by
 have hsf:∀ (w:World) (a:Addr) (f:Fn) (x y:Array Value) (m:Mode),(store a (.func f x y) m).run Tryz.prog w=stored Tryz.prog w a (.func f x y) m:=fun w a f x y m=>run_store Tryz.prog w a _ m rfl
 have hnq:∀ (w:World) (F:Nat),(binOp BinOp.neq 246 (.func (.func F) #[] #[]) .nilFunc).run Tryz.prog w=.ok (.bool true) w:=fun _ _=>by kernel_rfl
 have hnn:∀ (w:World),(binOp BinOp.neq 246 .nilFunc .nilFunc).run Tryz.prog w=.ok (.bool false) w:=fun _=>by kernel_rfl
 go_enter Tryz.func144,Tryz.ntmps144
 go_wp2_with fail
 refine Calls.mono (pairs_any _) ?_
 rintro e w1 ⟨rfl,t1⟩
 have T1:Hid (Touch (fun _=>False) w w1):=((Touch.refl _ w).alloc _).trans t1
 have R1:Hid (Room w1 w.heap.size 2):=(Room.new w #[.nilFunc,.nilFunc] 248).keep t1
 have hg:w.heap.size<w1.heap.size:=by have:=t1.size; simp at this; omega
 clear t1
 go_upto_region 2 with (refine wpList_store_row rfl 293 (.tmp 3) (.tmp 4) rfl w1.heap.size prsV.toArray rfl rfl 293 _ (row_new w1 293 _) (by rw [Tryz.info24]; rfl) rfl oneCell_prsV ?_)
 have RW:Hid (Row ((w1.alloc (.cells #[.nilFunc,.nilFunc,.nilFunc,.nilFunc,.nilFunc,.nilFunc,.nilFunc,.nilFunc,.nilFunc,.nilFunc,.nilFunc,.nilFunc,.nilFunc,.nilFunc,.nilFunc,.nilFunc,.nilFunc,.nilFunc,.nilFunc,.nilFunc,.nilFunc,.nilFunc,.nilFunc,.nilFunc] 293)).setRow w1.heap.size prsV.toArray) w1.heap.size 293 prsV):=(row_new w1 293 _).setRow prsV.toArray
 have T2:Hid (Touch (fun _=>False) w ((w1.alloc (.cells #[.nilFunc,.nilFunc,.nilFunc,.nilFunc,.nilFunc,.nilFunc,.nilFunc,.nilFunc,.nilFunc,.nilFunc,.nilFunc,.nilFunc,.nilFunc,.nilFunc,.nilFunc,.nilFunc,.nilFunc,.nilFunc,.nilFunc,.nilFunc,.nilFunc,.nilFunc,.nilFunc,.nilFunc] 293)).setRow w1.heap.size prsV.toArray)):=(T1.out.alloc _).setRow (Or.inr (by omega)) _
 have R2:Hid (Room ((w1.alloc (.cells #[.nilFunc,.nilFunc,.nilFunc,.nilFunc,.nilFunc,.nilFunc,.nilFunc,.nilFunc,.nilFunc,.nilFunc,.nilFunc,.nilFunc,.nilFunc,.nilFunc,.nilFunc,.nilFunc,.nilFunc,.nilFunc,.nilFunc,.nilFunc,.nilFunc,.nilFunc,.nilFunc,.nilFunc] 293)).setRow w1.heap.size prsV.toArray) w.heap.size 2):=(R1.out.keep ((Touch.refl _ _).alloc _)).touch (Touch.setRow (F:=fun k=>k=w1.heap.size) (Touch.refl _ _) (Or.inl rfl) _) (by show ¬ w.heap.size=w1.heap.size; omega)
 have hne1:¬ w.heap.size=w1.heap.size:=by omega
 have hne2:¬ w1.heap.size=w.heap.size:=by omega
 generalize (w1.alloc (.cells #[.nilFunc,.nilFunc,.nilFunc,.nilFunc,.nilFunc,.nilFunc,.nilFunc,.nilFunc,.nilFunc,.nilFunc,.nilFunc,.nilFunc,.nilFunc,.nilFunc,.nilFunc,.nilFunc,.nilFunc,.nilFunc,.nilFunc,.nilFunc,.nilFunc,.nilFunc,.nilFunc,.nilFunc] 293)).setRow w1.heap.size prsV.toArray=w2 at *
 clear R1 T1
 have hc1:w2.cell? ⟨w1.heap.size,13,none⟩=some .nilFunc:=RW.out.cell 13
 go_wp2_with fail
 refine Calls.mono (need_f _ 21 _ rfl) ?_
 rintro e w3 ⟨rfl,rfl⟩
 exact ⟨rfl,rfl,T2.out⟩
set_option maxHeartbeats 1000000 in
theorem pairOf_7 (w:World):Calls Tryz.prog 144 #[.int .u8 7] w fun e w'=>e=.returned (.agg #[.func (.func 202) #[] #[],.func (.func 203) #[] #[]])∧Touch (fun _=>False) w w':=by
 have hsf:∀ (w:World) (a:Addr) (f:Fn) (x y:Array Value) (m:Mode),(store a (.func f x y) m).run Tryz.prog w=stored Tryz.prog w a (.func f x y) m:=fun w a f x y m=>run_store Tryz.prog w a _ m rfl
 have hnq:∀ (w:World) (F:Nat),(binOp BinOp.neq 246 (.func (.func F) #[] #[]) .nilFunc).run Tryz.prog w=.ok (.bool true) w:=fun _ _=>by kernel_rfl
 have hnn:∀ (w:World),(binOp BinOp.neq 246 .nilFunc .nilFunc).run Tryz.prog w=.ok (.bool false) w:=fun _=>by kernel_rfl
 go_enter Tryz.func144,Tryz.ntmps144
 go_wp2_with fail
 refine Calls.mono (pairs_any _) ?_
 rintro e w1 ⟨rfl,t1⟩
 have T1:Hid (Touch (fun _=>False) w w1):=((Touch.refl _ w).alloc _).trans t1
 have R1:Hid (Room w1 w.heap.size 2):=(Room.new w #[.nilFunc,.nilFunc] 248).keep t1
 have hg:w.heap.size<w1.heap.size:=by have:=t1.size; simp at this; omega
 clear t1
 go_upto_region 2 with (refine wpList_store_row rfl 293 (.tmp 3) (.tmp 4) rfl w1.heap.size prsV.toArray rfl rfl 293 _ (row_new w1 293 _) (by rw [Tryz.info24]; rfl) rfl oneCell_prsV ?_)
 have RW:Hid (Row ((w1.alloc (.cells #[.nilFunc,.nilFunc,.nilFunc,.nilFunc,.nilFunc,.nilFunc,.nilFunc,.nilFunc,.nilFunc,.nilFunc,.nilFunc,.nilFunc,.nilFunc,.nilFunc,.nilFunc,.nilFunc,.nilFunc,.nilFunc,.nilFunc,.nilFunc,.nilFunc,.nilFunc,.nilFunc,.nilFunc] 293)).setRow w1.heap.size prsV.toArray) w1.heap.size 293 prsV):=(row_new w1 293 _).setRow prsV.toArray
 have T2:Hid (Touch (fun _=>False) w ((w1.alloc (.cells #[.nilFunc,.nilFunc,.nilFunc,.nilFunc,.nilFunc,.nilFunc,.nilFunc,.nilFunc,.nilFunc,.nilFunc,.nilFunc,.nilFunc,.nilFunc,.nilFunc,.nilFunc,.nilFunc,.nilFunc,.nilFunc,.nilFunc,.nilFunc,.nilFunc,.nilFunc,.nilFunc,.nilFunc] 293)).setRow w1.heap.size prsV.toArray)):=(T1.out.alloc _).setRow (Or.inr (by omega)) _
 have R2:Hid (Room ((w1.alloc (.cells #[.nilFunc,.nilFunc,.nilFunc,.nilFunc,.nilFunc,.nilFunc,.nilFunc,.nilFunc,.nilFunc,.nilFunc,.nilFunc,.nilFunc,.nilFunc,.nilFunc,.nilFunc,.nilFunc,.nilFunc,.nilFunc,.nilFunc,.nilFunc,.nilFunc,.nilFunc,.nilFunc,.nilFunc] 293)).setRow w1.heap.size prsV.toArray) w.heap.size 2):=(R1.out.keep ((Touch.refl _ _).alloc _)).touch (Touch.setRow (F:=fun k=>k=w1.heap.size) (Touch.refl _ _) (Or.inl rfl) _) (by show ¬ w.heap.size=w1.heap.size; omega)
 have hne1:¬ w.heap.size=w1.heap.size:=by omega
 have hne2:¬ w1.heap.size=w.heap.size:=by omega
 generalize (w1.alloc (.cells #[.nilFunc,.nilFunc,.nilFunc,.nilFunc,.nilFunc,.nilFunc,.nilFunc,.nilFunc,.nilFunc,.nilFunc,.nilFunc,.nilFunc,.nilFunc,.nilFunc,.nilFunc,.nilFunc,.nilFunc,.nilFunc,.nilFunc,.nilFunc,.nilFunc,.nilFunc,.nilFunc,.nilFunc] 293)).setRow w1.heap.size prsV.toArray=w2 at *
 clear R1 T1
 have hc0:w2.cell? ⟨w1.heap.size,14,none⟩=some (.func (.func 202) #[] #[]):=RW.out.cell 14
 have hc1:w2.cell? ⟨w1.heap.size,15,none⟩=some (.func (.func 203) #[] #[]):=RW.out.cell 15
 go_wp2_with fail
 refine Calls.mono (need_t _ 21 _ rfl) ?_
 rintro e w3 ⟨rfl,rfl⟩
 obtain ⟨zz0,zc0,zf0⟩:=R2.out 0 (by omega)
 obtain ⟨zz1,zc1,zf1⟩:=R2.out 1 (by omega)
 obtain ⟨wz,hwz⟩:∃ wz,wz=((w2.setCell ⟨w.heap.size,0,none⟩ (.func (.func 202) #[] #[])).setCell ⟨w.heap.size,1,none⟩ (.func (.func 203) #[] #[])):=⟨_,rfl⟩
 have zd0:wz.cell? ⟨w.heap.size,0,none⟩=some (.func (.func 202) #[] #[]):=by rw [hwz]; simp [zc0,go_sem]
 have zd1:wz.cell? ⟨w.heap.size,1,none⟩=some (.func (.func 203) #[] #[]):=by rw [hwz]; simp [zc1,go_sem]
 have HUz:Hid (Touch (fun k=>k=w.heap.size) w2 wz):=by show Touch _ _ _; rw [hwz]; refine Touch.setCell (F:=fun k=>k=w.heap.size) (p:=⟨w.heap.size,1,none⟩) ?_ (Or.inl rfl) _; refine Touch.setCell (F:=fun k=>k=w.heap.size) (p:=⟨w.heap.size,0,none⟩) ?_ (Or.inl rfl) _; exact Touch.refl _ _
 have HWz:Hid (wz=((w2.setCell ⟨w.heap.size,0,none⟩ (.func (.func 202) #[] #[])).setCell ⟨w.heap.size,1,none⟩ (.func (.func 203) #[] #[]))):=hwz
 clear hwz
 go_wp2_with fail
 rw [← HWz.out]
 clear HWz zc0 zf0 zc1 zf1
 refine bodyPost_ret (v:=.agg #[.func (.func 202) #[] #[],.func (.func 203) #[] #[]]) (by simp [results,Tryz.results144,go_sem,zd0,zd1]) rfl ?_
 exact ⟨rfl,T2.out.trans' HUz.out (fun i hi e=>by omega)⟩
set_option maxHeartbeats 1000000 in
theorem pairOf_8 (w:World):Calls Tryz.prog 144 #[.int .u8 8] w fun e w'=>e=.panicked (flawC 21)∧Touch (fun _=>False) w w':=by
 have hsf:∀ (w:World) (a:Addr) (f:Fn) (x y:Array Value) (m:Mode),(store a (.func f x y) m).run Tryz.prog w=stored Tryz.prog w a (.func f x y) m:=fun w a f x y m=>run_store Tryz.prog w a _ m rfl
 have hnq:∀ (w:World) (F:Nat),(binOp BinOp.neq 246 (.func (.func F) #[] #[]) .nilFunc).run Tryz.prog w=.ok (.bool true) w:=fun _ _=>by kernel_rfl
 have hnn:∀ (w:World),(binOp BinOp.neq 246 .nilFunc .nilFunc).run Tryz.prog w=.ok (.bool false) w:=fun _=>by kernel_rfl
 go_enter Tryz.func144,Tryz.ntmps144
 go_wp2_with fail
 refine Calls.mono (pairs_any _) ?_
 rintro e w1 ⟨rfl,t1⟩
 have T1:Hid (Touch (fun _=>False) w w1):=((Touch.refl _ w).alloc _).trans t1
 have R1:Hid (Room w1 w.heap.size 2):=(Room.new w #[.nilFunc,.nilFunc] 248).keep t1
 have hg:w.heap.size<w1.heap.size:=by have:=t1.size; simp at this; omega
 clear t1
 go_upto_region 2 with (refine wpList_store_row rfl 293 (.tmp 3) (.tmp 4) rfl w1.heap.size prsV.toArray rfl rfl 293 _ (row_new w1 293 _) (by rw [Tryz.info24]; rfl) rfl oneCell_prsV ?_)
 have RW:Hid (Row ((w1.alloc (.cells #[.nilFunc,.nilFunc,.nilFunc,.nilFunc,.nilFunc,.nilFunc,.nilFunc,.nilFunc,.nilFunc,.nilFunc,.nilFunc,.nilFunc,.nilFunc,.nilFunc,.nilFunc,.nilFunc,.nilFunc,.nilFunc,.nilFunc,.nilFunc,.nilFunc,.nilFunc,.nilFunc,.nilFunc] 293)).setRow w1.heap.size prsV.toArray) w1.heap.size 293 prsV):=(row_new w1 293 _).setRow prsV.toArray
 have T2:Hid (Touch (fun _=>False) w ((w1.alloc (.cells #[.nilFunc,.nilFunc,.nilFunc,.nilFunc,.nilFunc,.nilFunc,.nilFunc,.nilFunc,.nilFunc,.nilFunc,.nilFunc,.nilFunc,.nilFunc,.nilFunc,.nilFunc,.nilFunc,.nilFunc,.nilFunc,.nilFunc,.nilFunc,.nilFunc,.nilFunc,.nilFunc,.nilFunc] 293)).setRow w1.heap.size prsV.toArray)):=(T1.out.alloc _).setRow (Or.inr (by omega)) _
 have R2:Hid (Room ((w1.alloc (.cells #[.nilFunc,.nilFunc,.nilFunc,.nilFunc,.nilFunc,.nilFunc,.nilFunc,.nilFunc,.nilFunc,.nilFunc,.nilFunc,.nilFunc,.nilFunc,.nilFunc,.nilFunc,.nilFunc,.nilFunc,.nilFunc,.nilFunc,.nilFunc,.nilFunc,.nilFunc,.nilFunc,.nilFunc] 293)).setRow w1.heap.size prsV.toArray) w.heap.size 2):=(R1.out.keep ((Touch.refl _ _).alloc _)).touch (Touch.setRow (F:=fun k=>k=w1.heap.size) (Touch.refl _ _) (Or.inl rfl) _) (by show ¬ w.heap.size=w1.heap.size; omega)
 have hne1:¬ w.heap.size=w1.heap.size:=by omega
 have hne2:¬ w1.heap.size=w.heap.size:=by omega
 generalize (w1.alloc (.cells #[.nilFunc,.nilFunc,.nilFunc,.nilFunc,.nilFunc,.nilFunc,.nilFunc,.nilFunc,.nilFunc,.nilFunc,.nilFunc,.nilFunc,.nilFunc,.nilFunc,.nilFunc,.nilFunc,.nilFunc,.nilFunc,.nilFunc,.nilFunc,.nilFunc,.nilFunc,.nilFunc,.nilFunc] 293)).setRow w1.heap.size prsV.toArray=w2 at *
 clear R1 T1
 have hc1:w2.cell? ⟨w1.heap.size,17,none⟩=some .nilFunc:=RW.out.cell 17
 go_wp2_with fail
 refine Calls.mono (need_f _ 21 _ rfl) ?_
 rintro e w3 ⟨rfl,rfl⟩
 exact ⟨rfl,rfl,T2.out⟩
set_option maxHeartbeats 1000000 in
theorem pairOf_9 (w:World):Calls Tryz.prog 144 #[.int .u8 9] w fun e w'=>e=.returned (.agg #[.func (.func 204) #[] #[],.func (.func 205) #[] #[]])∧Touch (fun _=>False) w w':=by
 have hsf:∀ (w:World) (a:Addr) (f:Fn) (x y:Array Value) (m:Mode),(store a (.func f x y) m).run Tryz.prog w=stored Tryz.prog w a (.func f x y) m:=fun w a f x y m=>run_store Tryz.prog w a _ m rfl
 have hnq:∀ (w:World) (F:Nat),(binOp BinOp.neq 246 (.func (.func F) #[] #[]) .nilFunc).run Tryz.prog w=.ok (.bool true) w:=fun _ _=>by kernel_rfl
 have hnn:∀ (w:World),(binOp BinOp.neq 246 .nilFunc .nilFunc).run Tryz.prog w=.ok (.bool false) w:=fun _=>by kernel_rfl
 go_enter Tryz.func144,Tryz.ntmps144
 go_wp2_with fail
 refine Calls.mono (pairs_any _) ?_
 rintro e w1 ⟨rfl,t1⟩
 have T1:Hid (Touch (fun _=>False) w w1):=((Touch.refl _ w).alloc _).trans t1
 have R1:Hid (Room w1 w.heap.size 2):=(Room.new w #[.nilFunc,.nilFunc] 248).keep t1
 have hg:w.heap.size<w1.heap.size:=by have:=t1.size; simp at this; omega
 clear t1
 go_upto_region 2 with (refine wpList_store_row rfl 293 (.tmp 3) (.tmp 4) rfl w1.heap.size prsV.toArray rfl rfl 293 _ (row_new w1 293 _) (by rw [Tryz.info24]; rfl) rfl oneCell_prsV ?_)
 have RW:Hid (Row ((w1.alloc (.cells #[.nilFunc,.nilFunc,.nilFunc,.nilFunc,.nilFunc,.nilFunc,.nilFunc,.nilFunc,.nilFunc,.nilFunc,.nilFunc,.nilFunc,.nilFunc,.nilFunc,.nilFunc,.nilFunc,.nilFunc,.nilFunc,.nilFunc,.nilFunc,.nilFunc,.nilFunc,.nilFunc,.nilFunc] 293)).setRow w1.heap.size prsV.toArray) w1.heap.size 293 prsV):=(row_new w1 293 _).setRow prsV.toArray
 have T2:Hid (Touch (fun _=>False) w ((w1.alloc (.cells #[.nilFunc,.nilFunc,.nilFunc,.nilFunc,.nilFunc,.nilFunc,.nilFunc,.nilFunc,.nilFunc,.nilFunc,.nilFunc,.nilFunc,.nilFunc,.nilFunc,.nilFunc,.nilFunc,.nilFunc,.nilFunc,.nilFunc,.nilFunc,.nilFunc,.nilFunc,.nilFunc,.nilFunc] 293)).setRow w1.heap.size prsV.toArray)):=(T1.out.alloc _).setRow (Or.inr (by omega)) _
 have R2:Hid (Room ((w1.alloc (.cells #[.nilFunc,.nilFunc,.nilFunc,.nilFunc,.nilFunc,.nilFunc,.nilFunc,.nilFunc,.nilFunc,.nilFunc,.nilFunc,.nilFunc,.nilFunc,.nilFunc,.nilFunc,.nilFunc,.nilFunc,.nilFunc,.nilFunc,.nilFunc,.nilFunc,.nilFunc,.nilFunc,.nilFunc] 293)).setRow w1.heap.size prsV.toArray) w.heap.size 2):=(R1.out.keep ((Touch.refl _ _).alloc _)).touch (Touch.setRow (F:=fun k=>k=w1.heap.size) (Touch.refl _ _) (Or.inl rfl) _) (by show ¬ w.heap.size=w1.heap.size; omega)
 have hne1:¬ w.heap.size=w1.heap.size:=by omega
 have hne2:¬ w1.heap.size=w.heap.size:=by omega
 generalize (w1.alloc (.cells #[.nilFunc,.nilFunc,.nilFunc,.nilFunc,.nilFunc,.nilFunc,.nilFunc,.nilFunc,.nilFunc,.nilFunc,.nilFunc,.nilFunc,.nilFunc,.nilFunc,.nilFunc,.nilFunc,.nilFunc,.nilFunc,.nilFunc,.nilFunc,.nilFunc,.nilFunc,.nilFunc,.nilFunc] 293)).setRow w1.heap.size prsV.toArray=w2 at *
 clear R1 T1
 have hc0:w2.cell? ⟨w1.heap.size,18,none⟩=some (.func (.func 204) #[] #[]):=RW.out.cell 18
 have hc1:w2.cell? ⟨w1.heap.size,19,none⟩=some (.func (.func 205) #[] #[]):=RW.out.cell 19
 go_wp2_with fail
 refine Calls.mono (need_t _ 21 _ rfl) ?_
 rintro e w3 ⟨rfl,rfl⟩
 obtain ⟨zz0,zc0,zf0⟩:=R2.out 0 (by omega)
 obtain ⟨zz1,zc1,zf1⟩:=R2.out 1 (by omega)
 obtain ⟨wz,hwz⟩:∃ wz,wz=((w2.setCell ⟨w.heap.size,0,none⟩ (.func (.func 204) #[] #[])).setCell ⟨w.heap.size,1,none⟩ (.func (.func 205) #[] #[])):=⟨_,rfl⟩
 have zd0:wz.cell? ⟨w.heap.size,0,none⟩=some (.func (.func 204) #[] #[]):=by rw [hwz]; simp [zc0,go_sem]
 have zd1:wz.cell? ⟨w.heap.size,1,none⟩=some (.func (.func 205) #[] #[]):=by rw [hwz]; simp [zc1,go_sem]
 have HUz:Hid (Touch (fun k=>k=w.heap.size) w2 wz):=by show Touch _ _ _; rw [hwz]; refine Touch.setCell (F:=fun k=>k=w.heap.size) (p:=⟨w.heap.size,1,none⟩) ?_ (Or.inl rfl) _; refine Touch.setCell (F:=fun k=>k=w.heap.size) (p:=⟨w.heap.size,0,none⟩) ?_ (Or.inl rfl) _; exact Touch.refl _ _
 have HWz:Hid (wz=((w2.setCell ⟨w.heap.size,0,none⟩ (.func (.func 204) #[] #[])).setCell ⟨w.heap.size,1,none⟩ (.func (.func 205) #[] #[]))):=hwz
 clear hwz
 go_wp2_with fail
 rw [← HWz.out]
 clear HWz zc0 zf0 zc1 zf1
 refine bodyPost_ret (v:=.agg #[.func (.func 204) #[] #[],.func (.func 205) #[] #[]]) (by simp [results,Tryz.results144,go_sem,zd0,zd1]) rfl ?_
 exact ⟨rfl,T2.out.trans' HUz.out (fun i hi e=>by omega)⟩
set_option maxHeartbeats 1000000 in
theorem pairOf_10 (w:World):Calls Tryz.prog 144 #[.int .u8 10] w fun e w'=>e=.returned (.agg #[.func (.func 204) #[] #[],.func (.func 205) #[] #[]])∧Touch (fun _=>False) w w':=by
 have hsf:∀ (w:World) (a:Addr) (f:Fn) (x y:Array Value) (m:Mode),(store a (.func f x y) m).run Tryz.prog w=stored Tryz.prog w a (.func f x y) m:=fun w a f x y m=>run_store Tryz.prog w a _ m rfl
 have hnq:∀ (w:World) (F:Nat),(binOp BinOp.neq 246 (.func (.func F) #[] #[]) .nilFunc).run Tryz.prog w=.ok (.bool true) w:=fun _ _=>by kernel_rfl
 have hnn:∀ (w:World),(binOp BinOp.neq 246 .nilFunc .nilFunc).run Tryz.prog w=.ok (.bool false) w:=fun _=>by kernel_rfl
 go_enter Tryz.func144,Tryz.ntmps144
 go_wp2_with fail
 refine Calls.mono (pairs_any _) ?_
 rintro e w1 ⟨rfl,t1⟩
 have T1:Hid (Touch (fun _=>False) w w1):=((Touch.refl _ w).alloc _).trans t1
 have R1:Hid (Room w1 w.heap.size 2):=(Room.new w #[.nilFunc,.nilFunc] 248).keep t1
 have hg:w.heap.size<w1.heap.size:=by have:=t1.size; simp at this; omega
 clear t1
 go_upto_region 2 with (refine wpList_store_row rfl 293 (.tmp 3) (.tmp 4) rfl w1.heap.size prsV.toArray rfl rfl 293 _ (row_new w1 293 _) (by rw [Tryz.info24]; rfl) rfl oneCell_prsV ?_)
 have RW:Hid (Row ((w1.alloc (.cells #[.nilFunc,.nilFunc,.nilFunc,.nilFunc,.nilFunc,.nilFunc,.nilFunc,.nilFunc,.nilFunc,.nilFunc,.nilFunc,.nilFunc,.nilFunc,.nilFunc,.nilFunc,.nilFunc,.nilFunc,.nilFunc,.nilFunc,.nilFunc,.nilFunc,.nilFunc,.nilFunc,.nilFunc] 293)).setRow w1.heap.size prsV.toArray) w1.heap.size 293 prsV):=(row_new w1 293 _).setRow prsV.toArray
 have T2:Hid (Touch (fun _=>False) w ((w1.alloc (.cells #[.nilFunc,.nilFunc,.nilFunc,.nilFunc,.nilFunc,.nilFunc,.nilFunc,.nilFunc,.nilFunc,.nilFunc,.nilFunc,.nilFunc,.nilFunc,.nilFunc,.nilFunc,.nilFunc,.nilFunc,.nilFunc,.nilFunc,.nilFunc,.nilFunc,.nilFunc,.nilFunc,.nilFunc] 293)).setRow w1.heap.size prsV.toArray)):=(T1.out.alloc _).setRow (Or.inr (by omega)) _
 have R2:Hid (Room ((w1.alloc (.cells #[.nilFunc,.nilFunc,.nilFunc,.nilFunc,.nilFunc,.nilFunc,.nilFunc,.nilFunc,.nilFunc,.nilFunc,.nilFunc,.nilFunc,.nilFunc,.nilFunc,.nilFunc,.nilFunc,.nilFunc,.nilFunc,.nilFunc,.nilFunc,.nilFunc,.nilFunc,.nilFunc,.nilFunc] 293)).setRow w1.heap.size prsV.toArray) w.heap.size 2):=(R1.out.keep ((Touch.refl _ _).alloc _)).touch (Touch.setRow (F:=fun k=>k=w1.heap.size) (Touch.refl _ _) (Or.inl rfl) _) (by show ¬ w.heap.size=w1.heap.size; omega)
 have hne1:¬ w.heap.size=w1.heap.size:=by omega
 have hne2:¬ w1.heap.size=w.heap.size:=by omega
 generalize (w1.alloc (.cells #[.nilFunc,.nilFunc,.nilFunc,.nilFunc,.nilFunc,.nilFunc,.nilFunc,.nilFunc,.nilFunc,.nilFunc,.nilFunc,.nilFunc,.nilFunc,.nilFunc,.nilFunc,.nilFunc,.nilFunc,.nilFunc,.nilFunc,.nilFunc,.nilFunc,.nilFunc,.nilFunc,.nilFunc] 293)).setRow w1.heap.size prsV.toArray=w2 at *
 clear R1 T1
 have hc0:w2.cell? ⟨w1.heap.size,20,none⟩=some (.func (.func 204) #[] #[]):=RW.out.cell 20
 have hc1:w2.cell? ⟨w1.heap.size,21,none⟩=some (.func (.func 205) #[] #[]):=RW.out.cell 21
 go_wp2_with fail
 refine Calls.mono (need_t _ 21 _ rfl) ?_
 rintro e w3 ⟨rfl,rfl⟩
 obtain ⟨zz0,zc0,zf0⟩:=R2.out 0 (by omega)
 obtain ⟨zz1,zc1,zf1⟩:=R2.out 1 (by omega)
 obtain ⟨wz,hwz⟩:∃ wz,wz=((w2.setCell ⟨w.heap.size,0,none⟩ (.func (.func 204) #[] #[])).setCell ⟨w.heap.size,1,none⟩ (.func (.func 205) #[] #[])):=⟨_,rfl⟩
 have zd0:wz.cell? ⟨w.heap.size,0,none⟩=some (.func (.func 204) #[] #[]):=by rw [hwz]; simp [zc0,go_sem]
 have zd1:wz.cell? ⟨w.heap.size,1,none⟩=some (.func (.func 205) #[] #[]):=by rw [hwz]; simp [zc1,go_sem]
 have HUz:Hid (Touch (fun k=>k=w.heap.size) w2 wz):=by show Touch _ _ _; rw [hwz]; refine Touch.setCell (F:=fun k=>k=w.heap.size) (p:=⟨w.heap.size,1,none⟩) ?_ (Or.inl rfl) _; refine Touch.setCell (F:=fun k=>k=w.heap.size) (p:=⟨w.heap.size,0,none⟩) ?_ (Or.inl rfl) _; exact Touch.refl _ _
 have HWz:Hid (wz=((w2.setCell ⟨w.heap.size,0,none⟩ (.func (.func 204) #[] #[])).setCell ⟨w.heap.size,1,none⟩ (.func (.func 205) #[] #[]))):=hwz
 clear hwz
 go_wp2_with fail
 rw [← HWz.out]
 clear HWz zc0 zf0 zc1 zf1
 refine bodyPost_ret (v:=.agg #[.func (.func 204) #[] #[],.func (.func 205) #[] #[]]) (by simp [results,Tryz.results144,go_sem,zd0,zd1]) rfl ?_
 exact ⟨rfl,T2.out.trans' HUz.out (fun i hi e=>by omega)⟩
set_option maxHeartbeats 1000000 in
theorem pairOf_11 (w:World):Calls Tryz.prog 144 #[.int .u8 11] w fun e w'=>e=.returned (.agg #[.func (.func 204) #[] #[],.func (.func 205) #[] #[]])∧Touch (fun _=>False) w w':=by
 have hsf:∀ (w:World) (a:Addr) (f:Fn) (x y:Array Value) (m:Mode),(store a (.func f x y) m).run Tryz.prog w=stored Tryz.prog w a (.func f x y) m:=fun w a f x y m=>run_store Tryz.prog w a _ m rfl
 have hnq:∀ (w:World) (F:Nat),(binOp BinOp.neq 246 (.func (.func F) #[] #[]) .nilFunc).run Tryz.prog w=.ok (.bool true) w:=fun _ _=>by kernel_rfl
 have hnn:∀ (w:World),(binOp BinOp.neq 246 .nilFunc .nilFunc).run Tryz.prog w=.ok (.bool false) w:=fun _=>by kernel_rfl
 go_enter Tryz.func144,Tryz.ntmps144
 go_wp2_with fail
 refine Calls.mono (pairs_any _) ?_
 rintro e w1 ⟨rfl,t1⟩
 have T1:Hid (Touch (fun _=>False) w w1):=((Touch.refl _ w).alloc _).trans t1
 have R1:Hid (Room w1 w.heap.size 2):=(Room.new w #[.nilFunc,.nilFunc] 248).keep t1
 have hg:w.heap.size<w1.heap.size:=by have:=t1.size; simp at this; omega
 clear t1
 go_upto_region 2 with (refine wpList_store_row rfl 293 (.tmp 3) (.tmp 4) rfl w1.heap.size prsV.toArray rfl rfl 293 _ (row_new w1 293 _) (by rw [Tryz.info24]; rfl) rfl oneCell_prsV ?_)
 have RW:Hid (Row ((w1.alloc (.cells #[.nilFunc,.nilFunc,.nilFunc,.nilFunc,.nilFunc,.nilFunc,.nilFunc,.nilFunc,.nilFunc,.nilFunc,.nilFunc,.nilFunc,.nilFunc,.nilFunc,.nilFunc,.nilFunc,.nilFunc,.nilFunc,.nilFunc,.nilFunc,.nilFunc,.nilFunc,.nilFunc,.nilFunc] 293)).setRow w1.heap.size prsV.toArray) w1.heap.size 293 prsV):=(row_new w1 293 _).setRow prsV.toArray
 have T2:Hid (Touch (fun _=>False) w ((w1.alloc (.cells #[.nilFunc,.nilFunc,.nilFunc,.nilFunc,.nilFunc,.nilFunc,.nilFunc,.nilFunc,.nilFunc,.nilFunc,.nilFunc,.nilFunc,.nilFunc,.nilFunc,.nilFunc,.nilFunc,.nilFunc,.nilFunc,.nilFunc,.nilFunc,.nilFunc,.nilFunc,.nilFunc,.nilFunc] 293)).setRow w1.heap.size prsV.toArray)):=(T1.out.alloc _).setRow (Or.inr (by omega)) _
 have R2:Hid (Room ((w1.alloc (.cells #[.nilFunc,.nilFunc,.nilFunc,.nilFunc,.nilFunc,.nilFunc,.nilFunc,.nilFunc,.nilFunc,.nilFunc,.nilFunc,.nilFunc,.nilFunc,.nilFunc,.nilFunc,.nilFunc,.nilFunc,.nilFunc,.nilFunc,.nilFunc,.nilFunc,.nilFunc,.nilFunc,.nilFunc] 293)).setRow w1.heap.size prsV.toArray) w.heap.size 2):=(R1.out.keep ((Touch.refl _ _).alloc _)).touch (Touch.setRow (F:=fun k=>k=w1.heap.size) (Touch.refl _ _) (Or.inl rfl) _) (by show ¬ w.heap.size=w1.heap.size; omega)
 have hne1:¬ w.heap.size=w1.heap.size:=by omega
 have hne2:¬ w1.heap.size=w.heap.size:=by omega
 generalize (w1.alloc (.cells #[.nilFunc,.nilFunc,.nilFunc,.nilFunc,.nilFunc,.nilFunc,.nilFunc,.nilFunc,.nilFunc,.nilFunc,.nilFunc,.nilFunc,.nilFunc,.nilFunc,.nilFunc,.nilFunc,.nilFunc,.nilFunc,.nilFunc,.nilFunc,.nilFunc,.nilFunc,.nilFunc,.nilFunc] 293)).setRow w1.heap.size prsV.toArray=w2 at *
 clear R1 T1
 have hc0:w2.cell? ⟨w1.heap.size,22,none⟩=some (.func (.func 204) #[] #[]):=RW.out.cell 22
 have hc1:w2.cell? ⟨w1.heap.size,23,none⟩=some (.func (.func 205) #[] #[]):=RW.out.cell 23
 go_wp2_with fail
 refine Calls.mono (need_t _ 21 _ rfl) ?_
 rintro e w3 ⟨rfl,rfl⟩
 obtain ⟨zz0,zc0,zf0⟩:=R2.out 0 (by omega)
 obtain ⟨zz1,zc1,zf1⟩:=R2.out 1 (by omega)
 obtain ⟨wz,hwz⟩:∃ wz,wz=((w2.setCell ⟨w.heap.size,0,none⟩ (.func (.func 204) #[] #[])).setCell ⟨w.heap.size,1,none⟩ (.func (.func 205) #[] #[])):=⟨_,rfl⟩
 have zd0:wz.cell? ⟨w.heap.size,0,none⟩=some (.func (.func 204) #[] #[]):=by rw [hwz]; simp [zc0,go_sem]
 have zd1:wz.cell? ⟨w.heap.size,1,none⟩=some (.func (.func 205) #[] #[]):=by rw [hwz]; simp [zc1,go_sem]
 have HUz:Hid (Touch (fun k=>k=w.heap.size) w2 wz):=by show Touch _ _ _; rw [hwz]; refine Touch.setCell (F:=fun k=>k=w.heap.size) (p:=⟨w.heap.size,1,none⟩) ?_ (Or.inl rfl) _; refine Touch.setCell (F:=fun k=>k=w.heap.size) (p:=⟨w.heap.size,0,none⟩) ?_ (Or.inl rfl) _; exact Touch.refl _ _
 have HWz:Hid (wz=((w2.setCell ⟨w.heap.size,0,none⟩ (.func (.func 204) #[] #[])).setCell ⟨w.heap.size,1,none⟩ (.func (.func 205) #[] #[]))):=hwz
 clear hwz
 go_wp2_with fail
 rw [← HWz.out]
 clear HWz zc0 zf0 zc1 zf1
 refine bodyPost_ret (v:=.agg #[.func (.func 204) #[] #[],.func (.func 205) #[] #[]]) (by simp [results,Tryz.results144,go_sem,zd0,zd1]) rfl ?_
 exact ⟨rfl,T2.out.trans' HUz.out (fun i hi e=>by omega)⟩
set_option maxHeartbeats 1000000 in
theorem pairOf_over (x:Int) (h12:12≤x) (h256:x<256) (w:World):Calls Tryz.prog 144 #[.int .u8 x] w fun e w'=>e=.panicked (flawC 21)∧Touch (fun _=>False) w w':=by
 have hsf:∀ (w:World) (a:Addr) (f:Fn) (x y:Array Value) (m:Mode),(store a (.func f x y) m).run Tryz.prog w=stored Tryz.prog w a (.func f x y) m:=fun w a f x y m=>run_store Tryz.prog w a _ m rfl
 have hnq:∀ (w:World) (F:Nat),(binOp BinOp.neq 246 (.func (.func F) #[] #[]) .nilFunc).run Tryz.prog w=.ok (.bool true) w:=fun _ _=>by kernel_rfl
 have hnn:∀ (w:World),(binOp BinOp.neq 246 .nilFunc .nilFunc).run Tryz.prog w=.ok (.bool false) w:=fun _=>by kernel_rfl
 go_enter Tryz.func144,Tryz.ntmps144
 go_wp2_with fail
 refine Calls.mono (pairs_any _) ?_
 rintro e w1 ⟨rfl,t1⟩
 have T1:Hid (Touch (fun _=>False) w w1):=((Touch.refl _ w).alloc _).trans t1
 have R1:Hid (Room w1 w.heap.size 2):=(Room.new w #[.nilFunc,.nilFunc] 248).keep t1
 have hg:w.heap.size<w1.heap.size:=by have:=t1.size; simp at this; omega
 clear t1
 go_upto_region 2 with (refine wpList_store_row rfl 293 (.tmp 3) (.tmp 4) rfl w1.heap.size prsV.toArray rfl rfl 293 _ (row_new w1 293 _) (by rw [Tryz.info24]; rfl) rfl oneCell_prsV ?_)
 have RW:Hid (Row ((w1.alloc (.cells #[.nilFunc,.nilFunc,.nilFunc,.nilFunc,.nilFunc,.nilFunc,.nilFunc,.nilFunc,.nilFunc,.nilFunc,.nilFunc,.nilFunc,.nilFunc,.nilFunc,.nilFunc,.nilFunc,.nilFunc,.nilFunc,.nilFunc,.nilFunc,.nilFunc,.nilFunc,.nilFunc,.nilFunc] 293)).setRow w1.heap.size prsV.toArray) w1.heap.size 293 prsV):=(row_new w1 293 _).setRow prsV.toArray
 have T2:Hid (Touch (fun _=>False) w ((w1.alloc (.cells #[.nilFunc,.nilFunc,.nilFunc,.nilFunc,.nilFunc,.nilFunc,.nilFunc,.nilFunc,.nilFunc,.nilFunc,.nilFunc,.nilFunc,.nilFunc,.nilFunc,.nilFunc,.nilFunc,.nilFunc,.nilFunc,.nilFunc,.nilFunc,.nilFunc,.nilFunc,.nilFunc,.nilFunc] 293)).setRow w1.heap.size prsV.toArray)):=(T1.out.alloc _).setRow (Or.inr (by omega)) _
 have R2:Hid (Room ((w1.alloc (.cells #[.nilFunc,.nilFunc,.nilFunc,.nilFunc,.nilFunc,.nilFunc,.nilFunc,.nilFunc,.nilFunc,.nilFunc,.nilFunc,.nilFunc,.nilFunc,.nilFunc,.nilFunc,.nilFunc,.nilFunc,.nilFunc,.nilFunc,.nilFunc,.nilFunc,.nilFunc,.nilFunc,.nilFunc] 293)).setRow w1.heap.size prsV.toArray) w.heap.size 2):=(R1.out.keep ((Touch.refl _ _).alloc _)).touch (Touch.setRow (F:=fun k=>k=w1.heap.size) (Touch.refl _ _) (Or.inl rfl) _) (by show ¬ w.heap.size=w1.heap.size; omega)
 have hne1:¬ w.heap.size=w1.heap.size:=by omega
 have hne2:¬ w1.heap.size=w.heap.size:=by omega
 generalize (w1.alloc (.cells #[.nilFunc,.nilFunc,.nilFunc,.nilFunc,.nilFunc,.nilFunc,.nilFunc,.nilFunc,.nilFunc,.nilFunc,.nilFunc,.nilFunc,.nilFunc,.nilFunc,.nilFunc,.nilFunc,.nilFunc,.nilFunc,.nilFunc,.nilFunc,.nilFunc,.nilFunc,.nilFunc,.nilFunc] 293)).setRow w1.heap.size prsV.toArray=w2 at *
 clear R1 T1
 have hlt:¬ x<12:=by omega
 go_wp2_with fail
 refine Calls.mono (need_f _ 21 _ (by first | rfl | simp)) ?_
 rintro e w3 ⟨rfl,rfl⟩
 exact ⟨rfl,rfl,T2.out⟩
end Go.Proofs.YtddbffoiadmffaaGreat
