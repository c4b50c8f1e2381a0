import Derived.Test.YtldmkoogghemhaaGreatStBody
import Derived.Deep.DeepCutAuto
namespace Go.Proofs.YtldmkoogghemhaaGreat
set_option maxHeartbeats 8000000
open Go.RowKit
set_option linter.unusedVariables false
set_option maxRecDepth 100000
def prsV:List Value:=[.nilFunc,
 .nilFunc,
 .func (.func 159) #[] #[],
 .func (.func 160) #[] #[],
 .func (.func 161) #[] #[],
 .func (.func 162) #[] #[],
 .func (.func 163) #[] #[],
 .func (.func 164) #[] #[],
 .func (.func 165) #[] #[],
 .func (.func 166) #[] #[],
 .func (.func 155) #[] #[],
 .func (.func 156) #[] #[],
 .nilFunc,
 .nilFunc,
 .func (.func 155) #[] #[],
 .func (.func 156) #[] #[],
 .nilFunc,
 .nilFunc,
 .func (.func 157) #[] #[],
 .func (.func 158) #[] #[],
 .func (.func 157) #[] #[],
 .func (.func 158) #[] #[],
 .func (.func 157) #[] #[],
 .func (.func 158) #[] #[]]
theorem Tryz.info24:(Tryz.prog.info? 194).map (·.size)=some 24:=by kernel_rfl
theorem Qbj:prsV.toArray.all (·.oneCell')=true:=by decide +kernel
theorem Qdl (w:World):Calls Tryz.prog 140 #[] w fun e w'=>e=.returned (.agg prsV.toArray)∧Touch (fun _=>False) w w':=by
 go_enter Tryz.func140,Tryz.ntmps140
 have hsf:∀(w:World) (a:Addr) (f:Fn) (x y:Array Value) (m:Mode),(store a (.func f x y) m).run Tryz.prog w=stored Tryz.prog w a (.func f x y) m:=fun w a f x y m=>run_store Tryz.prog w a _ m rfl
 go_upto_region 3 with fail
 have HRW:Hid (Row (((w.alloc (.cells #[.nilFunc,.nilFunc,.nilFunc,.nilFunc,.nilFunc,.nilFunc,.nilFunc,.nilFunc,.nilFunc,.nilFunc,.nilFunc,.nilFunc,.nilFunc,.nilFunc,.nilFunc,.nilFunc,.nilFunc,.nilFunc,.nilFunc,.nilFunc,.nilFunc,.nilFunc,.nilFunc,.nilFunc] 194)).alloc (.cells #[.func (.func 155) #[] #[],.func (.func 156) #[] #[]] 166)).alloc (.cells #[.func (.func 157) #[] #[],.func (.func 158) #[] #[]] 166)) w.heap.size 194 [.nilFunc,.nilFunc,.nilFunc,.nilFunc,.nilFunc,.nilFunc,.nilFunc,.nilFunc,.nilFunc,.nilFunc,.nilFunc,.nilFunc,.nilFunc,.nilFunc,.nilFunc,.nilFunc,.nilFunc,.nilFunc,.nilFunc,.nilFunc,.nilFunc,.nilFunc,.nilFunc,.nilFunc]):=(Qac w 194 #[.nilFunc,.nilFunc,.nilFunc,.nilFunc,.nilFunc,.nilFunc,.nilFunc,.nilFunc,.nilFunc,.nilFunc,.nilFunc,.nilFunc,.nilFunc,.nilFunc,.nilFunc,.nilFunc,.nilFunc,.nilFunc,.nilFunc,.nilFunc,.nilFunc,.nilFunc,.nilFunc,.nilFunc]).keep (((Touch.refl _ _).alloc _).alloc _)
 have HTW:Hid (Touch (fun _=>False) w (((w.alloc (.cells #[.nilFunc,.nilFunc,.nilFunc,.nilFunc,.nilFunc,.nilFunc,.nilFunc,.nilFunc,.nilFunc,.nilFunc,.nilFunc,.nilFunc,.nilFunc,.nilFunc,.nilFunc,.nilFunc,.nilFunc,.nilFunc,.nilFunc,.nilFunc,.nilFunc,.nilFunc,.nilFunc,.nilFunc] 194)).alloc (.cells #[.func (.func 155) #[] #[],.func (.func 156) #[] #[]] 166)).alloc (.cells #[.func (.func 157) #[] #[],.func (.func 158) #[] #[]] 166))):=((((Touch.refl _ w).alloc _).alloc _).alloc _)
 have o0:(((w.alloc (.cells #[.nilFunc,.nilFunc,.nilFunc,.nilFunc,.nilFunc,.nilFunc,.nilFunc,.nilFunc,.nilFunc,.nilFunc,.nilFunc,.nilFunc,.nilFunc,.nilFunc,.nilFunc,.nilFunc,.nilFunc,.nilFunc,.nilFunc,.nilFunc,.nilFunc,.nilFunc,.nilFunc,.nilFunc] 194)).alloc (.cells #[.func (.func 155) #[] #[],.func (.func 156) #[] #[]] 166)).alloc (.cells #[.func (.func 157) #[] #[],.func (.func 158) #[] #[]] 166)).cell? ⟨w.heap.size+1,0,none⟩=some (.func (.func 155) #[] #[]):=by simp [go_sem]
 have o1:(((w.alloc (.cells #[.nilFunc,.nilFunc,.nilFunc,.nilFunc,.nilFunc,.nilFunc,.nilFunc,.nilFunc,.nilFunc,.nilFunc,.nilFunc,.nilFunc,.nilFunc,.nilFunc,.nilFunc,.nilFunc,.nilFunc,.nilFunc,.nilFunc,.nilFunc,.nilFunc,.nilFunc,.nilFunc,.nilFunc] 194)).alloc (.cells #[.func (.func 155) #[] #[],.func (.func 156) #[] #[]] 166)).alloc (.cells #[.func (.func 157) #[] #[],.func (.func 158) #[] #[]] 166)).cell? ⟨w.heap.size+1,1,none⟩=some (.func (.func 156) #[] #[]):=by simp [go_sem]
 have p0:(((w.alloc (.cells #[.nilFunc,.nilFunc,.nilFunc,.nilFunc,.nilFunc,.nilFunc,.nilFunc,.nilFunc,.nilFunc,.nilFunc,.nilFunc,.nilFunc,.nilFunc,.nilFunc,.nilFunc,.nilFunc,.nilFunc,.nilFunc,.nilFunc,.nilFunc,.nilFunc,.nilFunc,.nilFunc,.nilFunc] 194)).alloc (.cells #[.func (.func 155) #[] #[],.func (.func 156) #[] #[]] 166)).alloc (.cells #[.func (.func 157) #[] #[],.func (.func 158) #[] #[]] 166)).cell? ⟨w.heap.size+1+1,0,none⟩=some (.func (.func 157) #[] #[]):=by simp [go_sem]
 have p1:(((w.alloc (.cells #[.nilFunc,.nilFunc,.nilFunc,.nilFunc,.nilFunc,.nilFunc,.nilFunc,.nilFunc,.nilFunc,.nilFunc,.nilFunc,.nilFunc,.nilFunc,.nilFunc,.nilFunc,.nilFunc,.nilFunc,.nilFunc,.nilFunc,.nilFunc,.nilFunc,.nilFunc,.nilFunc,.nilFunc] 194)).alloc (.cells #[.func (.func 155) #[] #[],.func (.func 156) #[] #[]] 166)).alloc (.cells #[.func (.func 157) #[] #[],.func (.func 158) #[] #[]] 166)).cell? ⟨w.heap.size+1+1,1,none⟩=some (.func (.func 158) #[] #[]):=by simp [go_sem]
 generalize ((w.alloc (.cells #[.nilFunc,.nilFunc,.nilFunc,.nilFunc,.nilFunc,.nilFunc,.nilFunc,.nilFunc,.nilFunc,.nilFunc,.nilFunc,.nilFunc,.nilFunc,.nilFunc,.nilFunc,.nilFunc,.nilFunc,.nilFunc,.nilFunc,.nilFunc,.nilFunc,.nilFunc,.nilFunc,.nilFunc] 194)).alloc (.cells #[.func (.func 155) #[] #[],.func (.func 156) #[] #[]] 166)).alloc (.cells #[.func (.func 157) #[] #[],.func (.func 158) #[] #[]] 166)=w1 at *
 clear hsf
 go_wp2_with (refine wpList_store_row rfl 194 (.tmp 0) (.tmp 14) rfl w.heap.size prsV.toArray rfl rfl 194 _ HRW.out (by rw [Tryz.info24];rfl) rfl Qbj ?_)
 refine bodyPost_ret (results_cell_row Tryz.results140 _ _ w.heap.size 194 prsV.toArray (0,0) _ rfl (HRW.out.setRow prsV.toArray) Tryz.underlying194 rfl (by rw [Tryz.info24];rfl)) rfl ?_
 exact⟨rfl,HTW.out.setRow (Or.inr (Nat.le_refl _)) _⟩
theorem Qff (k F G:Nat) (hk:k<12) (hF:prsV[k*2]?=some (.func (.func F) #[] #[])) (hG:prsV[k*2+1]?=some (.func (.func G) #[] #[])) (w:World):Calls Tryz.prog 116 #[.int .u8 (k:Int)] w fun e w'=>e=.returned (.agg #[.func (.func F) #[] #[],.func (.func G) #[] #[]])∧Touch (fun _=>False) w w':=by
 have hsf:∀(w:World) (a:Addr) (f:Fn) (x y:Array Value) (m:Mode),(store a (.func f x y) m).run Tryz.prog w=stored Tryz.prog w a (.func f x y) m:=fun w a f x y m=>run_store Tryz.prog w a _ m rfl
 have hnq:∀(w:World) (F:Nat),(binOp BinOp.neq 164 (.func (.func F) #[] #[]) .nilFunc).run Tryz.prog w=.ok (.bool true) w:=fun _ _=>by kernel_rfl
 have hnn:∀(w:World),(binOp BinOp.neq 164 .nilFunc .nilFunc).run Tryz.prog w=.ok (.bool false) w:=fun _=>by kernel_rfl
 have hki:(k:Int)<12:=by omega
 have hk0:(0:Int)≤(k:Int):=by omega
 have hkw:IntKind.i64.wrap (k:Int)=(k:Int):=IntWalk.i64_in _ (by omega)
 go_enter Tryz.func116,Tryz.ntmps116
 go_wp2_with fail
 refine Calls.mono (Qdl _) ?_
 rintro e w1 ⟨rfl,t1⟩
 have T1:Hid (Touch (fun _=>False) w w1):=((Touch.refl _ w).alloc _).trans t1
 have R1:Hid (Room w1 w.heap.size 2):=(Room.new w #[.nilFunc,.nilFunc] 166).keep t1
 have hg:w.heap.size<w1.heap.size:=by have:=t1.size;simp at this;omega
 clear t1
 go_upto_region 2 with (refine wpList_store_row rfl 194 (.tmp 3) (.tmp 4) rfl w1.heap.size prsV.toArray rfl rfl 194 _ (Qac w1 194 _) (by rw [Tryz.info24];rfl) rfl Qbj ?_)
 obtain⟨w2,hw2⟩:∃u,u=(w1.alloc (.cells #[.nilFunc,.nilFunc,.nilFunc,.nilFunc,.nilFunc,.nilFunc,.nilFunc,.nilFunc,.nilFunc,.nilFunc,.nilFunc,.nilFunc,.nilFunc,.nilFunc,.nilFunc,.nilFunc,.nilFunc,.nilFunc,.nilFunc,.nilFunc,.nilFunc,.nilFunc,.nilFunc,.nilFunc] 194)).setRow w1.heap.size prsV.toArray:=⟨_,rfl⟩
 rw [←hw2]
 have RW:Hid (Row w2 w1.heap.size 194 prsV):=by rw [hw2];exact (Qac w1 194 _).setRow prsV.toArray
 have T2:Hid (Touch (fun _=>False) w w2):=by rw [hw2];exact (T1.out.alloc _).setRow (Or.inr (by omega)) _
 have R2:Hid (Room w2 w.heap.size 2):=by rw [hw2];exact (R1.out.keep ((Touch.refl _ _).alloc _)).touch (Touch.setRow (F:=fun k=>k=w1.heap.size) (Touch.refl _ _) (Or.inl rfl) _) (by show ¬w.heap.size=w1.heap.size;omega)
 have hne1:¬w.heap.size=w1.heap.size:=by omega
 have hne2:¬w1.heap.size=w.heap.size:=by omega
 clear hw2
 clear R1 T1
 have hc0:w2.cell? ⟨w1.heap.size,k*2,none⟩=some (.func (.func F) #[] #[]):=(RW.out.cell (k*2)).trans hF
 have hc1:w2.cell? ⟨w1.heap.size,k*2+1,none⟩=some (.func (.func G) #[] #[]):=(RW.out.cell (k*2+1)).trans hG
 go_wp2_with fail
 refine Calls.mono (Qbd _ 21 _ rfl) ?_
 rintro e w3 ⟨rfl,rfl⟩
 obtain⟨zz0,zc0,zf0⟩:=R2.out 0 (by omega)
 obtain⟨zz1,zc1,zf1⟩:=R2.out 1 (by omega)
 obtain⟨wz,hwz⟩:∃wz,wz=((w2.setCell ⟨w.heap.size,0,none⟩ (.func (.func F) #[] #[])).setCell ⟨w.heap.size,1,none⟩ (.func (.func G) #[] #[])):=⟨_,rfl⟩
 have zd0:wz.cell? ⟨w.heap.size,0,none⟩=some (.func (.func F) #[] #[]):=by rw [hwz];simp [zc0,go_sem]
 have zd1:wz.cell? ⟨w.heap.size,1,none⟩=some (.func (.func G) #[] #[]):=by rw [hwz];simp [zc1,go_sem]
 have HUz:Hid (Touch (fun k=>k=w.heap.size) w2 wz):=by show Touch _ _ _;rw [hwz];refine Touch.setCell (F:=fun k=>k=w.heap.size) (p:=⟨w.heap.size,1,none⟩) ?_ (Or.inl rfl) _;refine Touch.setCell (F:=fun k=>k=w.heap.size) (p:=⟨w.heap.size,0,none⟩) ?_ (Or.inl rfl) _;exact Touch.refl _ _
 have HWz:Hid (wz=((w2.setCell ⟨w.heap.size,0,none⟩ (.func (.func F) #[] #[])).setCell ⟨w.heap.size,1,none⟩ (.func (.func G) #[] #[]))):=hwz
 clear hwz
 go_wp2_with fail
 rw [←HWz.out]
 clear HWz zc0 zf0 zc1 zf1
 refine bodyPost_ret (v:=.agg #[.func (.func F) #[] #[],.func (.func G) #[] #[]]) (by simp [results,Tryz.results116,go_sem,zd0,zd1]) rfl ?_
 exact⟨rfl,T2.out.trans' HUz.out (fun i hi e=>by omega)⟩
theorem Qcu (k:Nat) (hk:k<12) (hF:prsV[k*2]?=some .nilFunc) (hG:prsV[k*2+1]?=some .nilFunc) (w:World):Calls Tryz.prog 116 #[.int .u8 (k:Int)] w fun e w'=>e=.panicked (flawC 21)∧Touch (fun _=>False) w w':=by
 have hsf:∀(w:World) (a:Addr) (f:Fn) (x y:Array Value) (m:Mode),(store a (.func f x y) m).run Tryz.prog w=stored Tryz.prog w a (.func f x y) m:=fun w a f x y m=>run_store Tryz.prog w a _ m rfl
 have hnq:∀(w:World) (F:Nat),(binOp BinOp.neq 164 (.func (.func F) #[] #[]) .nilFunc).run Tryz.prog w=.ok (.bool true) w:=fun _ _=>by kernel_rfl
 have hnn:∀(w:World),(binOp BinOp.neq 164 .nilFunc .nilFunc).run Tryz.prog w=.ok (.bool false) w:=fun _=>by kernel_rfl
 have hki:(k:Int)<12:=by omega
 have hk0:(0:Int)≤(k:Int):=by omega
 have hkw:IntKind.i64.wrap (k:Int)=(k:Int):=IntWalk.i64_in _ (by omega)
 go_enter Tryz.func116,Tryz.ntmps116
 go_wp2_with fail
 refine Calls.mono (Qdl _) ?_
 rintro e w1 ⟨rfl,t1⟩
 have T1:Hid (Touch (fun _=>False) w w1):=((Touch.refl _ w).alloc _).trans t1
 have R1:Hid (Room w1 w.heap.size 2):=(Room.new w #[.nilFunc,.nilFunc] 166).keep t1
 have hg:w.heap.size<w1.heap.size:=by have:=t1.size;simp at this;omega
 clear t1
 go_upto_region 2 with (refine wpList_store_row rfl 194 (.tmp 3) (.tmp 4) rfl w1.heap.size prsV.toArray rfl rfl 194 _ (Qac w1 194 _) (by rw [Tryz.info24];rfl) rfl Qbj ?_)
 obtain⟨w2,hw2⟩:∃u,u=(w1.alloc (.cells #[.nilFunc,.nilFunc,.nilFunc,.nilFunc,.nilFunc,.nilFunc,.nilFunc,.nilFunc,.nilFunc,.nilFunc,.nilFunc,.nilFunc,.nilFunc,.nilFunc,.nilFunc,.nilFunc,.nilFunc,.nilFunc,.nilFunc,.nilFunc,.nilFunc,.nilFunc,.nilFunc,.nilFunc] 194)).setRow w1.heap.size prsV.toArray:=⟨_,rfl⟩
 rw [←hw2]
 have RW:Hid (Row w2 w1.heap.size 194 prsV):=by rw [hw2];exact (Qac w1 194 _).setRow prsV.toArray
 have T2:Hid (Touch (fun _=>False) w w2):=by rw [hw2];exact (T1.out.alloc _).setRow (Or.inr (by omega)) _
 have R2:Hid (Room w2 w.heap.size 2):=by rw [hw2];exact (R1.out.keep ((Touch.refl _ _).alloc _)).touch (Touch.setRow (F:=fun k=>k=w1.heap.size) (Touch.refl _ _) (Or.inl rfl) _) (by show ¬w.heap.size=w1.heap.size;omega)
 have hne1:¬w.heap.size=w1.heap.size:=by omega
 have hne2:¬w1.heap.size=w.heap.size:=by omega
 clear hw2
 clear R1 T1
 have hc0:w2.cell? ⟨w1.heap.size,k*2,none⟩=some .nilFunc:=(RW.out.cell (k*2)).trans hF
 have hc1:w2.cell? ⟨w1.heap.size,k*2+1,none⟩=some .nilFunc:=(RW.out.cell (k*2+1)).trans hG
 go_wp2_with fail
 refine Calls.mono (Qb4 _ 21 _ rfl) ?_
 rintro e w3 ⟨rfl,rfl⟩
 exact⟨rfl,rfl,T2.out⟩
theorem Qly (w:World):Calls Tryz.prog 116 #[.int .u8 0] w fun e w'=>e=.panicked (flawC 21)∧Touch (fun _=>False) w w':=Qcu 0 (by omega) rfl rfl w
theorem Qln (w:World):Calls Tryz.prog 116 #[.int .u8 3] w fun e w'=>e=.returned (.agg #[.func (.func 163) #[] #[],.func (.func 164) #[] #[]])∧Touch (fun _=>False) w w':=Qff 3 _ _ (by omega) rfl rfl w
theorem Qk2 (w:World):Calls Tryz.prog 116 #[.int .u8 4] w fun e w'=>e=.returned (.agg #[.func (.func 165) #[] #[],.func (.func 166) #[] #[]])∧Touch (fun _=>False) w w':=Qff 4 _ _ (by omega) rfl rfl w
theorem Qk3 (w:World):Calls Tryz.prog 116 #[.int .u8 6] w fun e w'=>e=.panicked (flawC 21)∧Touch (fun _=>False) w w':=Qcu 6 (by omega) rfl rfl w
theorem Qkp (w:World):Calls Tryz.prog 116 #[.int .u8 8] w fun e w'=>e=.panicked (flawC 21)∧Touch (fun _=>False) w w':=Qcu 8 (by omega) rfl rfl w
theorem Qgi (x:Int) (h12:12≤x) (h256:x<256) (w:World):Calls Tryz.prog 116 #[.int .u8 x] w fun e w'=>e=.panicked (flawC 21)∧Touch (fun _=>False) w w':=by
 have hsf:∀(w:World) (a:Addr) (f:Fn) (x y:Array Value) (m:Mode),(store a (.func f x y) m).run Tryz.prog w=stored Tryz.prog w a (.func f x y) m:=fun w a f x y m=>run_store Tryz.prog w a _ m rfl
 have hnq:∀(w:World) (F:Nat),(binOp BinOp.neq 164 (.func (.func F) #[] #[]) .nilFunc).run Tryz.prog w=.ok (.bool true) w:=fun _ _=>by kernel_rfl
 have hnn:∀(w:World),(binOp BinOp.neq 164 .nilFunc .nilFunc).run Tryz.prog w=.ok (.bool false) w:=fun _=>by kernel_rfl
 go_enter Tryz.func116,Tryz.ntmps116
 go_wp2_with fail
 refine Calls.mono (Qdl _) ?_
 rintro e w1 ⟨rfl,t1⟩
 have T1:Hid (Touch (fun _=>False) w w1):=((Touch.refl _ w).alloc _).trans t1
 have R1:Hid (Room w1 w.heap.size 2):=(Room.new w #[.nilFunc,.nilFunc] 166).keep t1
 have hg:w.heap.size<w1.heap.size:=by have:=t1.size;simp at this;omega
 clear t1
 go_upto_region 2 with (refine wpList_store_row rfl 194 (.tmp 3) (.tmp 4) rfl w1.heap.size prsV.toArray rfl rfl 194 _ (Qac w1 194 _) (by rw [Tryz.info24];rfl) rfl Qbj ?_)
 obtain⟨w2,hw2⟩:∃u,u=(w1.alloc (.cells #[.nilFunc,.nilFunc,.nilFunc,.nilFunc,.nilFunc,.nilFunc,.nilFunc,.nilFunc,.nilFunc,.nilFunc,.nilFunc,.nilFunc,.nilFunc,.nilFunc,.nilFunc,.nilFunc,.nilFunc,.nilFunc,.nilFunc,.nilFunc,.nilFunc,.nilFunc,.nilFunc,.nilFunc] 194)).setRow w1.heap.size prsV.toArray:=⟨_,rfl⟩
 rw [←hw2]
 have RW:Hid (Row w2 w1.heap.size 194 prsV):=by rw [hw2];exact (Qac w1 194 _).setRow prsV.toArray
 have T2:Hid (Touch (fun _=>False) w w2):=by rw [hw2];exact (T1.out.alloc _).setRow (Or.inr (by omega)) _
 have R2:Hid (Room w2 w.heap.size 2):=by rw [hw2];exact (R1.out.keep ((Touch.refl _ _).alloc _)).touch (Touch.setRow (F:=fun k=>k=w1.heap.size) (Touch.refl _ _) (Or.inl rfl) _) (by show ¬w.heap.size=w1.heap.size;omega)
 have hne1:¬w.heap.size=w1.heap.size:=by omega
 have hne2:¬w1.heap.size=w.heap.size:=by omega
 clear hw2
 clear R1 T1
 have hlt:¬x<12:=by omega
 go_wp2_with fail
 refine Calls.mono (Qb4 _ 21 _ (by first|rfl|simp)) ?_
 rintro e w3 ⟨rfl,rfl⟩
 exact⟨rfl,rfl,T2.out⟩
end Go.Proofs.YtldmkoogghemhaaGreat
