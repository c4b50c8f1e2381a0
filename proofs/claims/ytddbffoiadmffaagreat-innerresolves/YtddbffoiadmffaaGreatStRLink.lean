import Derived.Test.YtddbffoiadmffaaGreatStReadAny
import Derived.Deep.DeepCutAuto
import Derived.Deep.RegionHeld3
import Derived.Deep.RegionLaw
import Derived.Deep.DrawnRows
namespace Go.Proofs.YtddbffoiadmffaaGreat
set_option maxHeartbeats 8000000
open Go.RowKit
set_option linter.unusedVariables false
set_option maxRecDepth 100000
def prsV:List Value:=[.nilFunc,
 .nilFunc,
 .func (.func 206) #[] #[],
 .func (.func 207) #[] #[],
 .func (.func 208) #[] #[],
 .func (.func 209) #[] #[],
 .func (.func 210) #[] #[],
 .func (.func 211) #[] #[],
 .func (.func 212) #[] #[],
 .func (.func 213) #[] #[],
 .func (.func 202) #[] #[],
 .func (.func 203) #[] #[],
 .nilFunc,
 .nilFunc,
 .func (.func 202) #[] #[],
 .func (.func 203) #[] #[],
 .nilFunc,
 .nilFunc,
 .func (.func 204) #[] #[],
 .func (.func 205) #[] #[],
 .func (.func 204) #[] #[],
 .func (.func 205) #[] #[],
 .func (.func 204) #[] #[],
 .func (.func 205) #[] #[]]
theorem Tryz.info24:(Tryz.prog.info? 293).map (·.size)=some 24:=by kernel_rfl
theorem Qb3:prsV.toArray.all (·.oneCell')=true:=by decide +kernel
theorem Qe4 (w:World):Calls Tryz.prog 176 #[] w fun e w'=>e=.returned (.agg prsV.toArray)∧Touch (fun _=>False) w w':=by
 go_enter Tryz.func176,Tryz.ntmps176
 have hsf:∀(w:World) (a:Addr) (f:Fn) (x y:Array Value) (m:Mode),(store a (.func f x y) m).run Tryz.prog w=stored Tryz.prog w a (.func f x y) m:=fun w a f x y m=>run_store Tryz.prog w a _ m rfl
 go_upto_region 3 with fail
 have HRW:Hid (Row (((w.alloc (.cells #[.nilFunc,.nilFunc,.nilFunc,.nilFunc,.nilFunc,.nilFunc,.nilFunc,.nilFunc,.nilFunc,.nilFunc,.nilFunc,.nilFunc,.nilFunc,.nilFunc,.nilFunc,.nilFunc,.nilFunc,.nilFunc,.nilFunc,.nilFunc,.nilFunc,.nilFunc,.nilFunc,.nilFunc] 293)).alloc (.cells #[.func (.func 202) #[] #[],.func (.func 203) #[] #[]] 248)).alloc (.cells #[.func (.func 204) #[] #[],.func (.func 205) #[] #[]] 248)) w.heap.size 293 [.nilFunc,.nilFunc,.nilFunc,.nilFunc,.nilFunc,.nilFunc,.nilFunc,.nilFunc,.nilFunc,.nilFunc,.nilFunc,.nilFunc,.nilFunc,.nilFunc,.nilFunc,.nilFunc,.nilFunc,.nilFunc,.nilFunc,.nilFunc,.nilFunc,.nilFunc,.nilFunc,.nilFunc]):=(Qac w 293 #[.nilFunc,.nilFunc,.nilFunc,.nilFunc,.nilFunc,.nilFunc,.nilFunc,.nilFunc,.nilFunc,.nilFunc,.nilFunc,.nilFunc,.nilFunc,.nilFunc,.nilFunc,.nilFunc,.nilFunc,.nilFunc,.nilFunc,.nilFunc,.nilFunc,.nilFunc,.nilFunc,.nilFunc]).keep (((Touch.refl _ _).alloc _).alloc _)
 have HTW:Hid (Touch (fun _=>False) w (((w.alloc (.cells #[.nilFunc,.nilFunc,.nilFunc,.nilFunc,.nilFunc,.nilFunc,.nilFunc,.nilFunc,.nilFunc,.nilFunc,.nilFunc,.nilFunc,.nilFunc,.nilFunc,.nilFunc,.nilFunc,.nilFunc,.nilFunc,.nilFunc,.nilFunc,.nilFunc,.nilFunc,.nilFunc,.nilFunc] 293)).alloc (.cells #[.func (.func 202) #[] #[],.func (.func 203) #[] #[]] 248)).alloc (.cells #[.func (.func 204) #[] #[],.func (.func 205) #[] #[]] 248))):=((((Touch.refl _ w).alloc _).alloc _).alloc _)
 have o0:(((w.alloc (.cells #[.nilFunc,.nilFunc,.nilFunc,.nilFunc,.nilFunc,.nilFunc,.nilFunc,.nilFunc,.nilFunc,.nilFunc,.nilFunc,.nilFunc,.nilFunc,.nilFunc,.nilFunc,.nilFunc,.nilFunc,.nilFunc,.nilFunc,.nilFunc,.nilFunc,.nilFunc,.nilFunc,.nilFunc] 293)).alloc (.cells #[.func (.func 202) #[] #[],.func (.func 203) #[] #[]] 248)).alloc (.cells #[.func (.func 204) #[] #[],.func (.func 205) #[] #[]] 248)).cell? ⟨w.heap.size+1,0,none⟩=some (.func (.func 202) #[] #[]):=by simp [go_sem]
 have o1:(((w.alloc (.cells #[.nilFunc,.nilFunc,.nilFunc,.nilFunc,.nilFunc,.nilFunc,.nilFunc,.nilFunc,.nilFunc,.nilFunc,.nilFunc,.nilFunc,.nilFunc,.nilFunc,.nilFunc,.nilFunc,.nilFunc,.nilFunc,.nilFunc,.nilFunc,.nilFunc,.nilFunc,.nilFunc,.nilFunc] 293)).alloc (.cells #[.func (.func 202) #[] #[],.func (.func 203) #[] #[]] 248)).alloc (.cells #[.func (.func 204) #[] #[],.func (.func 205) #[] #[]] 248)).cell? ⟨w.heap.size+1,1,none⟩=some (.func (.func 203) #[] #[]):=by simp [go_sem]
 have p0:(((w.alloc (.cells #[.nilFunc,.nilFunc,.nilFunc,.nilFunc,.nilFunc,.nilFunc,.nilFunc,.nilFunc,.nilFunc,.nilFunc,.nilFunc,.nilFunc,.nilFunc,.nilFunc,.nilFunc,.nilFunc,.nilFunc,.nilFunc,.nilFunc,.nilFunc,.nilFunc,.nilFunc,.nilFunc,.nilFunc] 293)).alloc (.cells #[.func (.func 202) #[] #[],.func (.func 203) #[] #[]] 248)).alloc (.cells #[.func (.func 204) #[] #[],.func (.func 205) #[] #[]] 248)).cell? ⟨w.heap.size+1+1,0,none⟩=some (.func (.func 204) #[] #[]):=by simp [go_sem]
 have p1:(((w.alloc (.cells #[.nilFunc,.nilFunc,.nilFunc,.nilFunc,.nilFunc,.nilFunc,.nilFunc,.nilFunc,.nilFunc,.nilFunc,.nilFunc,.nilFunc,.nilFunc,.nilFunc,.nilFunc,.nilFunc,.nilFunc,.nilFunc,.nilFunc,.nilFunc,.nilFunc,.nilFunc,.nilFunc,.nilFunc] 293)).alloc (.cells #[.func (.func 202) #[] #[],.func (.func 203) #[] #[]] 248)).alloc (.cells #[.func (.func 204) #[] #[],.func (.func 205) #[] #[]] 248)).cell? ⟨w.heap.size+1+1,1,none⟩=some (.func (.func 205) #[] #[]):=by simp [go_sem]
 generalize ((w.alloc (.cells #[.nilFunc,.nilFunc,.nilFunc,.nilFunc,.nilFunc,.nilFunc,.nilFunc,.nilFunc,.nilFunc,.nilFunc,.nilFunc,.nilFunc,.nilFunc,.nilFunc,.nilFunc,.nilFunc,.nilFunc,.nilFunc,.nilFunc,.nilFunc,.nilFunc,.nilFunc,.nilFunc,.nilFunc] 293)).alloc (.cells #[.func (.func 202) #[] #[],.func (.func 203) #[] #[]] 248)).alloc (.cells #[.func (.func 204) #[] #[],.func (.func 205) #[] #[]] 248)=w1 at *
 clear hsf
 go_wp2_with (refine wpList_store_row rfl 293 (.tmp 0) (.tmp 14) rfl w.heap.size prsV.toArray rfl rfl 293 _ HRW.out (by rw [Tryz.info24];rfl) rfl Qb3 ?_)
 refine bodyPost_ret (results_cell_row Tryz.results176 _ _ w.heap.size 293 prsV.toArray (0,0) _ rfl (HRW.out.setRow prsV.toArray) Tryz.underlying293 rfl (by rw [Tryz.info24];rfl)) rfl ?_
 exact⟨rfl,HTW.out.setRow (Or.inr (Nat.le_refl _)) _⟩
theorem Qod (k F G:Nat) (hk:k<12) (hF:prsV[k*2]?=some (.func (.func F) #[] #[])) (hG:prsV[k*2+1]?=some (.func (.func G) #[] #[])) (w:World):Calls Tryz.prog 144 #[.int .u8 (k:Int)] w fun e w'=>e=.returned (.agg #[.func (.func F) #[] #[],.func (.func G) #[] #[]])∧Touch (fun _=>False) w w':=by
 have hsf:∀(w:World) (a:Addr) (f:Fn) (x y:Array Value) (m:Mode),(store a (.func f x y) m).run Tryz.prog w=stored Tryz.prog w a (.func f x y) m:=fun w a f x y m=>run_store Tryz.prog w a _ m rfl
 have hnq:∀(w:World) (F:Nat),(binOp BinOp.neq 246 (.func (.func F) #[] #[]) .nilFunc).run Tryz.prog w=.ok (.bool true) w:=fun _ _=>by kernel_rfl
 have hnn:∀(w:World),(binOp BinOp.neq 246 .nilFunc .nilFunc).run Tryz.prog w=.ok (.bool false) w:=fun _=>by kernel_rfl
 have hki:(k:Int)<12:=by omega
 have hk0:(0:Int)≤(k:Int):=by omega
 have hkw:IntKind.i64.wrap (k:Int)=(k:Int):=IntWalk.i64_in _ (by omega)
 go_enter Tryz.func144,Tryz.ntmps144
 go_wp2_with fail
 refine Calls.mono (Qe4 _) ?_
 rintro e w1 ⟨rfl,t1⟩
 have T1:Hid (Touch (fun _=>False) w w1):=((Touch.refl _ w).alloc _).trans t1
 have R1:Hid (Room w1 w.heap.size 2):=(Room.new w #[.nilFunc,.nilFunc] 248).keep t1
 have hg:w.heap.size<w1.heap.size:=by have:=t1.size;simp at this;omega
 clear t1
 go_upto_region 2 with (refine wpList_store_row rfl 293 (.tmp 3) (.tmp 4) rfl w1.heap.size prsV.toArray rfl rfl 293 _ (Qac w1 293 _) (by rw [Tryz.info24];rfl) rfl Qb3 ?_)
 obtain⟨w2,hw2⟩:∃u,u=(w1.alloc (.cells #[.nilFunc,.nilFunc,.nilFunc,.nilFunc,.nilFunc,.nilFunc,.nilFunc,.nilFunc,.nilFunc,.nilFunc,.nilFunc,.nilFunc,.nilFunc,.nilFunc,.nilFunc,.nilFunc,.nilFunc,.nilFunc,.nilFunc,.nilFunc,.nilFunc,.nilFunc,.nilFunc,.nilFunc] 293)).setRow w1.heap.size prsV.toArray:=⟨_,rfl⟩
 rw [←hw2]
 have RW:Hid (Row w2 w1.heap.size 293 prsV):=by rw [hw2];exact (Qac w1 293 _).setRow prsV.toArray
 have T2:Hid (Touch (fun _=>False) w w2):=by rw [hw2];exact (T1.out.alloc _).setRow (Or.inr (by omega)) _
 have R2:Hid (Room w2 w.heap.size 2):=by rw [hw2];exact (R1.out.keep ((Touch.refl _ _).alloc _)).touch (Touch.setRow (F:=fun k=>k=w1.heap.size) (Touch.refl _ _) (Or.inl rfl) _) (by show ¬w.heap.size=w1.heap.size;omega)
 have hne1:¬w.heap.size=w1.heap.size:=by omega
 have hne2:¬w1.heap.size=w.heap.size:=by omega
 clear hw2
 clear R1 T1
 have hc0:w2.cell? ⟨w1.heap.size,k*2,none⟩=some (.func (.func F) #[] #[]):=(RW.out.cell (k*2)).trans hF
 have hc1:w2.cell? ⟨w1.heap.size,k*2+1,none⟩=some (.func (.func G) #[] #[]):=(RW.out.cell (k*2+1)).trans hG
 go_wp2_with fail
 refine Calls.mono (Qbm _ 21 _ rfl) ?_
 rintro e w3 ⟨rfl,rfl⟩
 obtain⟨zz0,zc0,zf0⟩:=R2.out 0 (by omega)
 obtain⟨zz1,zc1,zf1⟩:=R2.out 1 (by omega)
 obtain⟨wz,hwz⟩:∃wz,wz=((w2.setCell ⟨w.heap.size,0,none⟩ (.func (.func F) #[] #[])).setCell ⟨w.heap.size,1,none⟩ (.func (.func G) #[] #[])):=⟨_,rfl⟩
 have zd0:wz.cell? ⟨w.heap.size,0,none⟩=some (.func (.func F) #[] #[]):=by rw [hwz];simp [zc0,go_sem]
 have zd1:wz.cell? ⟨w.heap.size,1,none⟩=some (.func (.func G) #[] #[]):=by rw [hwz];simp [zc1,go_sem]
 have HUz:Hid (Touch (fun k=>k=w.heap.size) w2 wz):=by show Touch _ _ _;rw [hwz];refine Touch.setCell (F:=fun k=>k=w.heap.size) (p:=⟨w.heap.size,1,none⟩) ?_ (Or.inl rfl) _;refine Touch.setCell (F:=fun k=>k=w.heap.size) (p:=⟨w.heap.size,0,none⟩) ?_ (Or.inl rfl) _;exact Touch.refl _ _
 have HWz:Hid (wz=((w2.setCell ⟨w.heap.size,0,none⟩ (.func (.func F) #[] #[])).setCell ⟨w.heap.size,1,none⟩ (.func (.func G) #[] #[]))):=hwz
 clear hwz
 go_wp2_with fail
 rw [←HWz.out]
 clear HWz zc0 zf0 zc1 zf1
 refine bodyPost_ret (v:=.agg #[.func (.func F) #[] #[],.func (.func G) #[] #[]]) (by simp [results,Tryz.results144,go_sem,zd0,zd1]) rfl ?_
 exact⟨rfl,T2.out.trans' HUz.out (fun i hi e=>by omega)⟩
theorem Qea (k:Nat) (hk:k<12) (hF:prsV[k*2]?=some .nilFunc) (hG:prsV[k*2+1]?=some .nilFunc) (w:World):Calls Tryz.prog 144 #[.int .u8 (k:Int)] w fun e w'=>e=.panicked (flawC 21)∧Touch (fun _=>False) w w':=by
 have hsf:∀(w:World) (a:Addr) (f:Fn) (x y:Array Value) (m:Mode),(store a (.func f x y) m).run Tryz.prog w=stored Tryz.prog w a (.func f x y) m:=fun w a f x y m=>run_store Tryz.prog w a _ m rfl
 have hnq:∀(w:World) (F:Nat),(binOp BinOp.neq 246 (.func (.func F) #[] #[]) .nilFunc).run Tryz.prog w=.ok (.bool true) w:=fun _ _=>by kernel_rfl
 have hnn:∀(w:World),(binOp BinOp.neq 246 .nilFunc .nilFunc).run Tryz.prog w=.ok (.bool false) w:=fun _=>by kernel_rfl
 have hki:(k:Int)<12:=by omega
 have hk0:(0:Int)≤(k:Int):=by omega
 have hkw:IntKind.i64.wrap (k:Int)=(k:Int):=IntWalk.i64_in _ (by omega)
 go_enter Tryz.func144,Tryz.ntmps144
 go_wp2_with fail
 refine Calls.mono (Qe4 _) ?_
 rintro e w1 ⟨rfl,t1⟩
 have T1:Hid (Touch (fun _=>False) w w1):=((Touch.refl _ w).alloc _).trans t1
 have R1:Hid (Room w1 w.heap.size 2):=(Room.new w #[.nilFunc,.nilFunc] 248).keep t1
 have hg:w.heap.size<w1.heap.size:=by have:=t1.size;simp at this;omega
 clear t1
 go_upto_region 2 with (refine wpList_store_row rfl 293 (.tmp 3) (.tmp 4) rfl w1.heap.size prsV.toArray rfl rfl 293 _ (Qac w1 293 _) (by rw [Tryz.info24];rfl) rfl Qb3 ?_)
 obtain⟨w2,hw2⟩:∃u,u=(w1.alloc (.cells #[.nilFunc,.nilFunc,.nilFunc,.nilFunc,.nilFunc,.nilFunc,.nilFunc,.nilFunc,.nilFunc,.nilFunc,.nilFunc,.nilFunc,.nilFunc,.nilFunc,.nilFunc,.nilFunc,.nilFunc,.nilFunc,.nilFunc,.nilFunc,.nilFunc,.nilFunc,.nilFunc,.nilFunc] 293)).setRow w1.heap.size prsV.toArray:=⟨_,rfl⟩
 rw [←hw2]
 have RW:Hid (Row w2 w1.heap.size 293 prsV):=by rw [hw2];exact (Qac w1 293 _).setRow prsV.toArray
 have T2:Hid (Touch (fun _=>False) w w2):=by rw [hw2];exact (T1.out.alloc _).setRow (Or.inr (by omega)) _
 have R2:Hid (Room w2 w.heap.size 2):=by rw [hw2];exact (R1.out.keep ((Touch.refl _ _).alloc _)).touch (Touch.setRow (F:=fun k=>k=w1.heap.size) (Touch.refl _ _) (Or.inl rfl) _) (by show ¬w.heap.size=w1.heap.size;omega)
 have hne1:¬w.heap.size=w1.heap.size:=by omega
 have hne2:¬w1.heap.size=w.heap.size:=by omega
 clear hw2
 clear R1 T1
 have hc0:w2.cell? ⟨w1.heap.size,k*2,none⟩=some .nilFunc:=(RW.out.cell (k*2)).trans hF
 have hc1:w2.cell? ⟨w1.heap.size,k*2+1,none⟩=some .nilFunc:=(RW.out.cell (k*2+1)).trans hG
 go_wp2_with fail
 refine Calls.mono (Qcd _ 21 _ rfl) ?_
 rintro e w3 ⟨rfl,rfl⟩
 exact⟨rfl,rfl,T2.out⟩
theorem Qr3 (w:World):Calls Tryz.prog 144 #[.int .u8 0] w fun e w'=>e=.panicked (flawC 21)∧Touch (fun _=>False) w w':=Qea 0 (by omega) rfl rfl w
theorem Qq9 (w:World):Calls Tryz.prog 144 #[.int .u8 1] w fun e w'=>e=.returned (.agg #[.func (.func 206) #[] #[],.func (.func 207) #[] #[]])∧Touch (fun _=>False) w w':=Qod 1 _ _ (by omega) rfl rfl w
theorem Qq8 (w:World):Calls Tryz.prog 144 #[.int .u8 6] w fun e w'=>e=.panicked (flawC 21)∧Touch (fun _=>False) w w':=Qea 6 (by omega) rfl rfl w
theorem Qr9 (w:World):Calls Tryz.prog 144 #[.int .u8 8] w fun e w'=>e=.panicked (flawC 21)∧Touch (fun _=>False) w w':=Qea 8 (by omega) rfl rfl w
theorem Qjg (x:Int) (h12:12≤x) (h256:x<256) (w:World):Calls Tryz.prog 144 #[.int .u8 x] w fun e w'=>e=.panicked (flawC 21)∧Touch (fun _=>False) w w':=by
 have hsf:∀(w:World) (a:Addr) (f:Fn) (x y:Array Value) (m:Mode),(store a (.func f x y) m).run Tryz.prog w=stored Tryz.prog w a (.func f x y) m:=fun w a f x y m=>run_store Tryz.prog w a _ m rfl
 have hnq:∀(w:World) (F:Nat),(binOp BinOp.neq 246 (.func (.func F) #[] #[]) .nilFunc).run Tryz.prog w=.ok (.bool true) w:=fun _ _=>by kernel_rfl
 have hnn:∀(w:World),(binOp BinOp.neq 246 .nilFunc .nilFunc).run Tryz.prog w=.ok (.bool false) w:=fun _=>by kernel_rfl
 go_enter Tryz.func144,Tryz.ntmps144
 go_wp2_with fail
 refine Calls.mono (Qe4 _) ?_
 rintro e w1 ⟨rfl,t1⟩
 have T1:Hid (Touch (fun _=>False) w w1):=((Touch.refl _ w).alloc _).trans t1
 have R1:Hid (Room w1 w.heap.size 2):=(Room.new w #[.nilFunc,.nilFunc] 248).keep t1
 have hg:w.heap.size<w1.heap.size:=by have:=t1.size;simp at this;omega
 clear t1
 go_upto_region 2 with (refine wpList_store_row rfl 293 (.tmp 3) (.tmp 4) rfl w1.heap.size prsV.toArray rfl rfl 293 _ (Qac w1 293 _) (by rw [Tryz.info24];rfl) rfl Qb3 ?_)
 obtain⟨w2,hw2⟩:∃u,u=(w1.alloc (.cells #[.nilFunc,.nilFunc,.nilFunc,.nilFunc,.nilFunc,.nilFunc,.nilFunc,.nilFunc,.nilFunc,.nilFunc,.nilFunc,.nilFunc,.nilFunc,.nilFunc,.nilFunc,.nilFunc,.nilFunc,.nilFunc,.nilFunc,.nilFunc,.nilFunc,.nilFunc,.nilFunc,.nilFunc] 293)).setRow w1.heap.size prsV.toArray:=⟨_,rfl⟩
 rw [←hw2]
 have RW:Hid (Row w2 w1.heap.size 293 prsV):=by rw [hw2];exact (Qac w1 293 _).setRow prsV.toArray
 have T2:Hid (Touch (fun _=>False) w w2):=by rw [hw2];exact (T1.out.alloc _).setRow (Or.inr (by omega)) _
 have R2:Hid (Room w2 w.heap.size 2):=by rw [hw2];exact (R1.out.keep ((Touch.refl _ _).alloc _)).touch (Touch.setRow (F:=fun k=>k=w1.heap.size) (Touch.refl _ _) (Or.inl rfl) _) (by show ¬w.heap.size=w1.heap.size;omega)
 have hne1:¬w.heap.size=w1.heap.size:=by omega
 have hne2:¬w1.heap.size=w.heap.size:=by omega
 clear hw2
 clear R1 T1
 have hlt:¬x<12:=by omega
 go_wp2_with fail
 refine Calls.mono (Qcd _ 21 _ (by first|rfl|simp)) ?_
 rintro e w3 ⟨rfl,rfl⟩
 exact⟨rfl,rfl,T2.out⟩
theorem Qk5 (N b:Nat) (n:Int) (hn:n=1∨n=2∨n=3∨n=4) (rs:List Int) (q:Option Nat) (w:World) (h:Rdr N w b rs q) :
  Calls Tryz.prog 241 #[.agg #[.pointer (some ⟨b,0,none⟩)],.int .i64 n] w fun e w'=>(e=.returned (.tuple #[])∧numAt rs q n.toNat=0∧Rdr N w' b rs (nextAt rs q n.toNat)∧Touch (fun k=>k=b) w w')∨(e=.panicked (flawC 28)∧numAt rs q n.toNat≠0∧Touch (fun k=>k=b) w w'):=by
 by_cases hz:numAt rs q n.toNat=0
 ·refine (Qm5 N b n hn rs q w h hz).mono ?_
  rintro e w' ⟨rfl,hr,t⟩
  exact Or.inl ⟨rfl,hz,hr,t⟩
 ·refine (Qnt N b n hn rs q w h hz).mono ?_
  rintro e w' ⟨rfl,t⟩
  exact Or.inr ⟨rfl,hz,t⟩
theorem Qj8 (N b:Nat) (rs:List Int) (q:Option Nat) (w:World) (h:Rdr N w b rs q) :
  Calls Tryz.prog 241 #[.agg #[.pointer (some ⟨b,0,none⟩)],.int .i64 1] w fun e w'=>(e=.returned (.tuple #[])∧numAt rs q 1=0∧Rdr N w' b rs (nextAt rs q 1)∧Touch (fun k=>k=b) w w')∨(e=.panicked (flawC 28)∧numAt rs q 1≠0∧Touch (fun k=>k=b) w w'):=Qk5 N b 1 (by omega) rs q w h
theorem q8 (rs:List Int):nextAt rs (nextAt rs (nextAt rs (some 0) 4) 1) 3=nextAt rs (some 0) 8:=by rw [Qas,Qas]
attribute [local go_sem ↓] Go.wp_at_zero Go.wp_at_succ
theorem Qgb {P:Program} {w:World} {ops:Array Oper} {o:Oper} {a:Act} {K:Act→World→Prop} {Q:Exit→Act→World→Prop} {E:Prop} (hgd:o.guard=none) (s x:Operand) (t:TypeId)
  (ho:o.op=.call { callee:=.builtin .append,args:=#[s,x],argTypes:=#[t,t] })
  (base:Nat) (e:TypeId) (z:Value) (size bytes:Nat) (ht:P.underlying t=some (.slice e)) (hi:(P.info? e).map (fun i=>(i.zero,i.size,i.bytes))=some (some z,size,bytes)) (hzs:z.cells.size=size) (hsz:0<size) (hb64:bytes≤64)
  (v:Value) (n:Nat) (xs:List Value) (hs:a.eval s=v) (hown:w.ownsRow base e size v n xs)
  (ad:Addr) (m c:Nat) (news:List Value) (hx:a.eval x=.slice (some ad) m c) (hl:news.length=m*size) (hnews:∀j u,news[j]?=some u→w.cell? (ad.add j)=some u) (h1:∀u∈news,u.oneCell'=true)
  (hlen:n+m≤1099511627776) (hbase:base≤w.heap.size)
  (h:∀v' w',w'.ownsRow base e size v' (n+m) (xs++news)→Touch (fun j=>v.ownBlock=some j) w w'→K (a.put o.dst v') w') :
  if Region.wanted o (yielded ops a.tmps)=true then Oper.wp P o a w K Q else E:=by
 obtain⟨i,hi,hz,hsize,hby⟩:=info_parts hi
 have hw:Region.wanted o (yielded ops a.tmps)=true:=by simp [Region.wanted,hgd]
 rw [if_pos hw]
 have hmul:(n+m)*bytes≤1099511627776*64:=Nat.mul_le_mul hlen hb64
 obtain⟨v',w',hr,h2,h3,h4,h5⟩:=run_append_own_at (P:=P) w base t o.type e i z size bytes ht hi hz hsize hby hzs hsz v n xs hown ad m c news hl hnews h1 (by unfold maxLen;omega) (by omega) hbase
 unfold Oper.wp execOp
 simp only [ho,resolve,invoke,builtin,Sem.run_bind,Sem.run_pure,Result.andThen_ok,List.map_toArray,List.map_cons,List.map_nil,hs,hx,hr]
 exact h v' w' h2 ((Touch.refl _ _).grown h3 (fun k hk=>Or.inl hk))
theorem at12 {rs:List Int} {p:Nat} (h:p+12≤rs.length):∃a b c d e f g i j k m n r,rs.drop p=a::b::c::d::e::f::g::i::j::k::m::n::r∧numAt rs (some p) 4=numOf [a,b,c,d]∧numAt rs (nextAt rs (some p) 4) 4=numOf [e,f,g,i]∧numAt rs (nextAt rs (nextAt rs (some p) 4) 4) 1=j∧numAt rs (nextAt rs (nextAt rs (nextAt rs (some p) 4) 4) 1) 1=k∧numAt rs (nextAt rs (nextAt rs (nextAt rs (nextAt rs (some p) 4) 4) 1) 1) 2=numOf [m,n]:=by
 obtain⟨a,b,c,d,e,f,g,i,j,k,m,n,r,hr⟩:=list12 (l:=rs.drop p) (by rw [List.length_drop];omega)
 have dd:∀x,rs.drop (p+x)=(rs.drop p).drop x:=fun x=>(List.drop_drop).symm
 refine⟨a,b,c,d,e,f,g,i,j,k,m,n,r,hr,?_,?_,?_,?_,?_⟩
 ·rw [Qa7 (by omega),hr];rfl
 ·rw [Qa4 (by omega),Qa7 (by omega),dd,hr];rfl
 ·rw [Qas,Qa4 (by omega),Qa7 (by omega),dd,hr];exact numOf1 j
 ·rw [Qas,Qas,Qa4 (by omega),Qa7 (by omega),dd,hr];exact numOf1 k
 ·rw [Qas,Qas,Qas,Qa4 (by omega),Qa7 (by omega),dd,hr];rfl
theorem Qrl {rs:List Int} {p:Nat} (ht:1≤numAt rs (nextAt rs (nextAt rs (some p) 4) 4) 1∧numAt rs (nextAt rs (nextAt rs (some p) 4) 4) 1≤4) (hz:numAt rs (nextAt rs (nextAt rs (nextAt rs (some p) 4) 4) 1) 1=0) (h:p+12≤rs.length) :
  takeLink (rs.drop p)=some ⟨numAt rs (some p) 4,numAt rs (nextAt rs (some p) 4) 4,numAt rs (nextAt rs (nextAt rs (some p) 4) 4) 1,numAt rs (nextAt rs (nextAt rs (nextAt rs (nextAt rs (some p) 4) 4) 1) 1) 2⟩:=by
 obtain⟨a,b,c,d,e,f,g,i,j,k,m,n,r,hr,e1,e2,e3,e4,e5⟩:=at12 h
 rw [e1,e2,e5,e3,hr]
 rw [e3] at ht
 rw [e4] at hz
 simp only [takeLink]
 rw [if_pos ⟨hz,ht⟩]
theorem Qty {rs:List Int} {p:Nat} (hc:numAt rs (nextAt rs (nextAt rs (nextAt rs (some p) 4) 4) 1) 1≠0∨¬(1≤numAt rs (nextAt rs (nextAt rs (some p) 4) 4) 1∧numAt rs (nextAt rs (nextAt rs (some p) 4) 4) 1≤4)) (h:p+12≤rs.length):takeLink (rs.drop p)=none:=by
 obtain⟨a,b,c,d,e,f,g,i,j,k,m,n,r,hr,e1,e2,e3,e4,e5⟩:=at12 h
 rw [e3,e4] at hc
 rw [hr]
 simp only [takeLink]
 rw [if_neg]
 rintro ⟨h1,h2⟩
 rcases hc with hc|hc
 ·exact hc h1
 ·exact hc h2
structure Lk (w:World) (g:Nat) (x:LV):Prop where
 c0:w.cell? ⟨g,0,none⟩=some (.int .u32 x.id)
 c1:w.cell? ⟨g,1,none⟩=some (.int .u32 x.data)
 c2:w.cell? ⟨g,2,none⟩=some (.int .u8 x.typ)
 c3:w.cell? ⟨g,3,none⟩=some (.int .u16 x.cost)
 f3:w.frozen? ⟨g,3,none⟩=false
theorem Lk.touch {F:Nat→Prop} {w w':World} {g:Nat} {x:LV} (h:Lk w g x) (t:Touch F w w') (hF:¬F g):Lk w' g x:=by
 have hl:g<w.heap.size:=Qaa h.c0
 exact⟨(t.cell (p:=⟨g,0,none⟩) hl hF).trans h.c0,(t.cell (p:=⟨g,1,none⟩) hl hF).trans h.c1,(t.cell (p:=⟨g,2,none⟩) hl hF).trans h.c2,(t.cell (p:=⟨g,3,none⟩) hl hF).trans h.c3,(t.frozen (p:=⟨g,3,none⟩) hl hF).trans h.f3⟩
theorem Qnj {w:World} {g g':Nat} (hne:g≠g') (i:Nat) (u0 u1 u2 u3:Value):((((w.setCell ⟨g',0,none⟩ u0).setCell ⟨g',1,none⟩ u1).setCell ⟨g',2,none⟩ u2).setCell ⟨g',3,none⟩ u3).cell? ⟨g,i,none⟩=w.cell? ⟨g,i,none⟩:=by
 rw [Qaz hne,Qaz hne,Qaz hne,Qaz hne]
structure RoomL (w:World) (g n:Nat):Prop where
 out:Room w g n
theorem RoomL.touch {w w':World} {g n b:Nat} (h:RoomL w g n) (t:Touch (fun k=>k=b) w w') (hne:b≠g):RoomL w' g n:=⟨h.out.touch t (fun e=>hne e.symm)⟩
structure Mid (N b:Nat) (rs:List Int) (q:Option Nat) (w wl:World) (g1 g2 gl:Nat) (x:LV):Prop where
 rd:Rdr N wl b rs q
 y:wl.cell? ⟨g1,0,none⟩=some (.pointer (some ⟨b,0,none⟩))
 rm:Room wl g2 4
 lk:Lk wl gl x
 t:Touch (fun k=>k=b) w wl
 ne1:gl≠g1
 ne2:gl≠g2
 neb:gl≠b
 le:w.heap.size≤gl
 leN:N≤gl
theorem Qmq {N b:Nat} {rs:List Int} {q:Option Nat} {w w1 wz:World} {g1 g2:Nat} {I D T:Int} (T1:Touch (fun k=>k=b) w w1) (HT:Touch (fun k=>k=b) w1 wz) (h:Rdr N wz b rs q) (y:wz.cell? ⟨g1,0,none⟩=some (.pointer (some ⟨b,0,none⟩))) (r:Room w1.drew g2 4) (hn2:¬g2=b) (hs:g2<w1.heap.size) (hN:N≤w1.heap.size) :
  Mid N b rs q w (wz.alloc (.cells #[.int .u32 I,.int .u32 D,.int .u8 T,.int .u16 0] 115)) g1 g2 wz.heap.size ⟨I,D,T,0⟩:=by
 have hl:=HT.size
 have hl1:=T1.size
 have t:Touch (fun _=>False) wz (wz.alloc (.cells #[.int .u32 I,.int .u32 D,.int .u8 T,.int .u16 0] 115)):=(Touch.refl _ _).alloc _
 have r2:Room wz g2 4:=Room.touch (w:=w1) r HT hn2
 have:=Qaa y
 have:=h.lt
 exact⟨h.keep t,t.cellN y,r2.keep t,⟨by simp [go_sem],by simp [go_sem],by simp [go_sem],by simp [go_sem],by simp [go_sem]⟩,(T1.trans HT).alloc _,by omega,by omega,by omega,by omega,by omega⟩
theorem Qi4 {N b:Nat} {rs:List Int} {q:Option Nat} {w w1 wz:World} {g1 g2 gl:Nat} {I D T:Int} (T1:Touch (fun k=>k=b) w w1) (HT:Touch (fun k=>k=b) w1 wz) (h:Rdr N wz b rs q) (y:wz.cell? ⟨g1,0,none⟩=some (.pointer (some ⟨b,0,none⟩))) (r:Room w1.drew g2 4) (hn2:¬g2=b) (hs:g2<w1.heap.size) (hg1:g1<w1.heap.size) (hN:N≤w1.heap.size) (hbN:b<N)
  (R:RoomL wz gl 4) (hgl:w1.heap.size≤gl) :
  Mid N b rs q w ((((wz.setCell ⟨gl,0,none⟩ (.int .u32 I)).setCell ⟨gl,1,none⟩ (.int .u32 D)).setCell ⟨gl,2,none⟩ (.int .u8 T)).setCell ⟨gl,3,none⟩ (.int .u16 0)) g1 g2 gl ⟨I,D,T,0⟩:=by
 have hl:=HT.size
 have hl1:=T1.size
 have r2:Room wz g2 4:=Room.touch (w:=w1) r HT hn2
 have t:Touch (fun k=>k=gl) wz ((((wz.setCell ⟨gl,0,none⟩ (.int .u32 I)).setCell ⟨gl,1,none⟩ (.int .u32 D)).setCell ⟨gl,2,none⟩ (.int .u8 T)).setCell ⟨gl,3,none⟩ (.int .u16 0)):=by
  refine Touch.setCell (F:=fun k=>k=gl) (p:=⟨gl,3,none⟩) ?_ (Or.inl rfl) _
  refine Touch.setCell (F:=fun k=>k=gl) (p:=⟨gl,2,none⟩) ?_ (Or.inl rfl) _
  refine Touch.setCell (F:=fun k=>k=gl) (p:=⟨gl,1,none⟩) ?_ (Or.inl rfl) _
  refine Touch.setCell (F:=fun k=>k=gl) (p:=⟨gl,0,none⟩) ?_ (Or.inl rfl) _
  exact Touch.refl _ _
 obtain⟨zz0,zc0,zf0⟩:=R.out 0 (by omega)
 obtain⟨zz1,zc1,zf1⟩:=R.out 1 (by omega)
 obtain⟨zz2,zc2,zf2⟩:=R.out 2 (by omega)
 obtain⟨zz3,zc3,zf3⟩:=R.out 3 (by omega)
 have:=Qaa y
 exact⟨h.touch t (fun k hk e=>by omega),(t.cell (p:=⟨g1,0,none⟩) (Qaa y) (by show ¬g1=gl;omega)).trans y,r2.touch t (by show ¬g2=gl;omega),⟨by simp [zc0,go_sem],by simp [zc1,go_sem],by simp [zc2,go_sem],by simp [zc3,go_sem],by simp [zf3,go_sem]⟩,(T1.trans HT).trans' t (fun i hi e=>by omega),by omega,by omega,by omega,by omega,by omega⟩
def LinkPost (N b p:Nat) (rs:List Int) (w:World):Ending→World→Prop:=fun e w' =>
 (∃x:LV,e=.returned (.agg #[.int .u32 x.id,.int .u32 x.data,.int .u8 x.typ,.int .u16 x.cost])∧Rdr N w' b rs (nextAt rs (some p) 12)∧Touch (fun k=>k=b) w w'∧(p+12≤rs.length→takeLink (rs.drop p)=some x)) ∨
 (e=.panicked (flawC 28)∧Touch (fun k=>k=b) w w'∧(p+12≤rs.length→takeLink (rs.drop p)=none))
theorem Qgz (N b p:Nat) (rs:List Int) (w:World) (h:Rdr N w b rs (some p)) (hN:N≤w.heap.size) :
  Calls Tryz.prog 242 #[.agg #[.pointer (some ⟨b,0,none⟩)]] w (LinkPost N b p rs w):=by
 have hlow:=h.low
 have hbT:=Qcm h.byte (nextAt rs (nextAt rs (some p) 4) 4) 1
 have hbC:=Qcm h.byte (nextAt rs (nextAt rs (nextAt rs (nextAt rs (some p) 4) 4) 1) 1) 2
 have YES:Hid (_→_→_→_):=@Qrl rs p
 have NO:Hid (_→_→_):=@Qty rs p
 have HQ:Hid (nextAt rs (nextAt rs (nextAt rs (nextAt rs (nextAt rs (some p) 4) 4) 1) 1) 2=nextAt rs (some p) 12):=by show _=_;rw [Qas,Qas,Qas,Qas]
 have H1:=fun w h=>rnum4 N b rs (some p) w h
 have H2:=fun w h=>rnum4 N b rs (nextAt rs (some p) 4) w h
 have H3:=fun w h=>rnum1 N b rs (nextAt rs (nextAt rs (some p) 4) 4) w h
 have H4:=fun w h=>Qj8 N b rs (nextAt rs (nextAt rs (nextAt rs (some p) 4) 4) 1) w h
 have H5:=fun w h=>rnum2 N b rs (nextAt rs (nextAt rs (nextAt rs (nextAt rs (some p) 4) 4) 1) 1) w h
 generalize numAt rs (some p) 4=I at *
 generalize hq1:nextAt rs (some p) 4=q1 at *
 generalize numAt rs q1 4=D at *
 generalize nextAt rs q1 4=q2 at *
 generalize numAt rs q2 1=T at *
 generalize nextAt rs q2 1=q3 at *
 generalize numAt rs q3 1=Z at *
 generalize nextAt rs q3 1=q4 at *
 generalize numAt rs q4 2=C at *
 generalize nextAt rs q4 2=q5 at *
 clear hq1
 have hwT:IntKind.u8.wrap T=T:=by simp [IntKind.wrap,IntKind.bits,IntKind.signed];omega
 have hwC:IntKind.u16.wrap C=C:=by simp [IntKind.wrap,IntKind.bits,IntKind.signed];omega
 clear hbT hbC
 go_enter Tryz.func242,Tryz.ntmps242
 go_upto_region 1 with fail
 have T1:Hid (Touch (fun k=>k=b) w (((w.alloc (.cells #[.pointer (some ⟨b,0,none⟩)] 298)).alloc (.cells #[.int .u32 0,.int .u32 0,.int .u8 0,.int .u16 0] 115)))):=((Touch.refl _ w).alloc _).alloc _
 have h1:Rdr N (((w.alloc (.cells #[.pointer (some ⟨b,0,none⟩)] 298)).alloc (.cells #[.int .u32 0,.int .u32 0,.int .u8 0,.int .u16 0] 115))).drew b rs (some p):=h.keep ((((Touch.refl _ w).alloc _).alloc _).drew)
 have y0:(((w.alloc (.cells #[.pointer (some ⟨b,0,none⟩)] 298)).alloc (.cells #[.int .u32 0,.int .u32 0,.int .u8 0,.int .u16 0] 115))).drew.cell? ⟨w.heap.size,0,none⟩=some (.pointer (some ⟨b,0,none⟩)):=by simp [go_sem]
 have R1:Hid (Room (((w.alloc (.cells #[.pointer (some ⟨b,0,none⟩)] 298)).alloc (.cells #[.int .u32 0,.int .u32 0,.int .u8 0,.int .u16 0] 115))).drew (w.heap.size+1) 4):=by
  have:=(Room.new (w.alloc (.cells #[.pointer (some ⟨b,0,none⟩)] 298)) #[.int .u32 0,.int .u32 0,.int .u8 0,.int .u16 0] 115).keep ((Touch.refl _ _).drew)
  show Room _ _ _
  simpa using this
 have hn1:Hid (¬w.heap.size=b):=by show ¬_;omega
 have hn2:Hid (¬w.heap.size+1=b):=by show ¬_;omega
 have HS:Hid (w.heap.size+1<(((w.alloc (.cells #[.pointer (some ⟨b,0,none⟩)] 298)).alloc (.cells #[.int .u32 0,.int .u32 0,.int .u8 0,.int .u16 0] 115))).heap.size):=by show _<_;simp
 have HN:Hid (N≤w.heap.size):=hN
 have HLo:Hid (b<N):=hlow
 have HN1:Hid (N≤(((w.alloc (.cells #[.pointer (some ⟨b,0,none⟩)] 298)).alloc (.cells #[.int .u32 0,.int .u32 0,.int .u8 0,.int .u16 0] 115))).heap.size):=by show _≤_;simp;omega
 generalize hg2:w.heap.size+1=g2 at *
 generalize ((w.alloc (.cells #[.pointer (some ⟨b,0,none⟩)] 298)).alloc (.cells #[.int .u32 0,.int .u32 0,.int .u8 0,.int .u16 0] 115))=w1 at *
 clear h hN hlow
 generalize hg1:w.heap.size=g1 at *
 have HG1:Hid (w.heap.size=g1):=hg1
 have HG2:Hid (g1+1=g2):=hg2
 clear hg1 hg2
 have hl1:Hid (g1<w1.heap.size):=by have:=HS.out;have:=HG2.out;show _<_;omega
 have HT0:Hid (Touch (fun k=>k=b) w1 w1.drew):=(Touch.refl _ _).drew
 have h1a:Rdr N (w1.alloc (.cells #[.int .u32 0,.int .u32 0,.int .u8 0,.int .u16 0] 115)).drew b rs (some p):=h1.keep (⟨rfl,rfl,rfl,by show w1.heap.size≤(w1.alloc _).heap.size;simp,fun k hk _=>Below.heap_alloc _ _ _ hk⟩)
 have y0a:(w1.alloc (.cells #[.int .u32 0,.int .u32 0,.int .u8 0,.int .u16 0] 115)).drew.cell? ⟨g1,0,none⟩=some (.pointer (some ⟨b,0,none⟩)):=(((Touch.refl _ _).alloc _).drew).cellN (w:=w1) y0
 have HT0a:Hid (Touch (fun k=>k=b) w1 (w1.alloc (.cells #[.int .u32 0,.int .u32 0,.int .u8 0,.int .u16 0] 115)).drew):=((Touch.refl _ _).alloc _).drew
 have RL0:Hid (RoomL (w1.alloc (.cells #[.int .u32 0,.int .u32 0,.int .u8 0,.int .u16 0] 115)).drew w1.heap.size 4):=⟨(Room.new w1 #[.int .u32 0,.int .u32 0,.int .u8 0,.int .u16 0] _).keep ((Touch.refl _ _).drew)⟩
 have hg0:g1≠w1.heap.size:=by have:=hl1.out;omega
 have hb0:b≠w1.heap.size:=by have:b<w1.drew.heap.size:=h1.lt;have e:w1.drew.heap.size=w1.heap.size:=rfl;omega
 go_region_held3 (fun w'=>w'.cell? ⟨g1,0,none⟩=some (.pointer (some ⟨b,0,none⟩))) (first|with_reducible assumption|with_reducible exact (Qnj (by assumption) 0 _ _ _ _).trans (by assumption)) (first
  | (go_at_call 234;refine Calls.mono (H1 _ (by assumption)) ?_;rintro e wx ⟨rfl,hwx,twx⟩;have ywx:=(twx.cell (p:=⟨g1,0,none⟩) (Qaa (by assumption)) hn1.out).trans (by assumption);have HTwx:Hid (Touch (fun k=>k=b) w1 wx):=Touch.trans (Hid.out (by assumption)) twx;(try have RMwx:Hid (RoomL wx _ 4):=RoomL.touch (Hid.out (by assumption)) twx (by assumption));have hwxa:Rdr N (wx.alloc (.cells #[.int .u32 0,.int .u32 0,.int .u8 0,.int .u16 0] 115)) b rs q1:=hwx.keep ((Touch.refl _ _).alloc _);have ywxa:(wx.alloc (.cells #[.int .u32 0,.int .u32 0,.int .u8 0,.int .u16 0] 115)).cell? ⟨g1,0,none⟩=some (.pointer (some ⟨b,0,none⟩)):=((Touch.refl _ _).alloc _).cellN ywx;have HTwxa:Hid (Touch (fun k=>k=b) w1 (wx.alloc (.cells #[.int .u32 0,.int .u32 0,.int .u8 0,.int .u16 0] 115))):=HTwx.out.alloc _;have RLwx:Hid (RoomL (wx.alloc (.cells #[.int .u32 0,.int .u32 0,.int .u8 0,.int .u16 0] 115)) wx.heap.size 4):=⟨Room.new wx #[.int .u32 0,.int .u32 0,.int .u8 0,.int .u16 0] _⟩;have hgwx:g1≠wx.heap.size:=(by have:=Qaa ywx;omega);have hbwx:b≠wx.heap.size:=(by have:=hwx.lt;omega);clear twx H1)
  | (go_at_call 234;refine Calls.mono (H2 _ (by assumption)) ?_;rintro e wy ⟨rfl,hwy,twy⟩;have ywy:=(twy.cell (p:=⟨g1,0,none⟩) (Qaa (by assumption)) hn1.out).trans (by assumption);have HTwy:Hid (Touch (fun k=>k=b) w1 wy):=Touch.trans (Hid.out (by assumption)) twy;(try have RMwy:Hid (RoomL wy _ 4):=RoomL.touch (Hid.out (by assumption)) twy (by assumption));have hwya:Rdr N (wy.alloc (.cells #[.int .u32 0,.int .u32 0,.int .u8 0,.int .u16 0] 115)) b rs q2:=hwy.keep ((Touch.refl _ _).alloc _);have ywya:(wy.alloc (.cells #[.int .u32 0,.int .u32 0,.int .u8 0,.int .u16 0] 115)).cell? ⟨g1,0,none⟩=some (.pointer (some ⟨b,0,none⟩)):=((Touch.refl _ _).alloc _).cellN ywy;have HTwya:Hid (Touch (fun k=>k=b) w1 (wy.alloc (.cells #[.int .u32 0,.int .u32 0,.int .u8 0,.int .u16 0] 115))):=HTwy.out.alloc _;have RLwy:Hid (RoomL (wy.alloc (.cells #[.int .u32 0,.int .u32 0,.int .u8 0,.int .u16 0] 115)) wy.heap.size 4):=⟨Room.new wy #[.int .u32 0,.int .u32 0,.int .u8 0,.int .u16 0] _⟩;have hgwy:g1≠wy.heap.size:=(by have:=Qaa ywy;omega);have hbwy:b≠wy.heap.size:=(by have:=hwy.lt;omega);clear twy H2)
  | (go_at_call 234;refine Calls.mono (H3 _ (by assumption)) ?_;rintro e wz ⟨rfl,hwz,twz⟩;have ywz:=(twz.cell (p:=⟨g1,0,none⟩) (Qaa (by assumption)) hn1.out).trans (by assumption);have HTwz:Hid (Touch (fun k=>k=b) w1 wz):=Touch.trans (Hid.out (by assumption)) twz;(try have RMwz:Hid (RoomL wz _ 4):=RoomL.touch (Hid.out (by assumption)) twz (by assumption));have hwza:Rdr N (wz.alloc (.cells #[.int .u32 0,.int .u32 0,.int .u8 0,.int .u16 0] 115)) b rs q3:=hwz.keep ((Touch.refl _ _).alloc _);have ywza:(wz.alloc (.cells #[.int .u32 0,.int .u32 0,.int .u8 0,.int .u16 0] 115)).cell? ⟨g1,0,none⟩=some (.pointer (some ⟨b,0,none⟩)):=((Touch.refl _ _).alloc _).cellN ywz;have HTwza:Hid (Touch (fun k=>k=b) w1 (wz.alloc (.cells #[.int .u32 0,.int .u32 0,.int .u8 0,.int .u16 0] 115))):=HTwz.out.alloc _;have RLwz:Hid (RoomL (wz.alloc (.cells #[.int .u32 0,.int .u32 0,.int .u8 0,.int .u16 0] 115)) wz.heap.size 4):=⟨Room.new wz #[.int .u32 0,.int .u32 0,.int .u8 0,.int .u16 0] _⟩;have hgwz:g1≠wz.heap.size:=(by have:=Qaa ywz;omega);have hbwz:b≠wz.heap.size:=(by have:=hwz.lt;omega);clear twz H3;have ywzb:(wz.alloc (.cells #[.int .u32 I,.int .u32 D,.int .u8 T,.int .u16 0] 115)).cell? ⟨g1,0,none⟩=some (.pointer (some ⟨b,0,none⟩)):=((Touch.refl _ _).alloc _).cellN ywz;(try (have RR:=RoomL.out (Hid.out (by assumption:Hid (RoomL wz _ 4)));obtain⟨zz0,zc0,zf0⟩:=RR 0 (by omega);obtain⟨zz1,zc1,zf1⟩:=RR 1 (by omega);obtain⟨zz2,zc2,zf2⟩:=RR 2 (by omega);obtain⟨zz3,zc3,zf3⟩:=RR 3 (by omega);clear RR))))
 all_goals
  refine (‹∀(a:Act) (w_1:World),Code.wp Tryz.prog _ _ a w_1→_›) _ _ ?_
  first
   | (obtain⟨wl,hwl⟩:∃wl,wl=wz.alloc (.cells #[.int .u32 I,.int .u32 D,.int .u8 T,.int .u16 0] 115):=⟨_,rfl⟩;rw [←hwl];have M:=Qmq (I:=I) (D:=D) (T:=T) T1.out HTwz.out hwz ywz R1.out hn2.out HS.out HN1.out;rw [←hwl] at M;generalize wz.heap.size=gl at M ⊢;clear hwl)
   | (obtain⟨wl,hwl⟩:∃wl,wl=((((wz.setCell ⟨wy.heap.size,0,none⟩ (.int .u32 I)).setCell ⟨wy.heap.size,1,none⟩ (.int .u32 D)).setCell ⟨wy.heap.size,2,none⟩ (.int .u8 T)).setCell ⟨wy.heap.size,3,none⟩ (.int .u16 0)):=⟨_,rfl⟩;rw [←hwl];have M:=Qi4 (I:=I) (D:=D) (T:=T) T1.out HTwz.out hwz ywz R1.out hn2.out HS.out hl1.out HN1.out HLo.out RMwz.out (gl:=wy.heap.size) (HTwy.out.size);rw [←hwl] at M;generalize wy.heap.size=gl at M ⊢;clear hwl)
   | (obtain⟨wl,hwl⟩:∃wl,wl=((((wz.setCell ⟨wx.heap.size,0,none⟩ (.int .u32 I)).setCell ⟨wx.heap.size,1,none⟩ (.int .u32 D)).setCell ⟨wx.heap.size,2,none⟩ (.int .u8 T)).setCell ⟨wx.heap.size,3,none⟩ (.int .u16 0)):=⟨_,rfl⟩;rw [←hwl];have M:=Qi4 (I:=I) (D:=D) (T:=T) T1.out HTwz.out hwz ywz R1.out hn2.out HS.out hl1.out HN1.out HLo.out RMwz.out (gl:=wx.heap.size) (HTwx.out.size);rw [←hwl] at M;generalize wx.heap.size=gl at M ⊢;clear hwl)
   | (obtain⟨wl,hwl⟩:∃wl,wl=((((wz.setCell ⟨w1.heap.size,0,none⟩ (.int .u32 I)).setCell ⟨w1.heap.size,1,none⟩ (.int .u32 D)).setCell ⟨w1.heap.size,2,none⟩ (.int .u8 T)).setCell ⟨w1.heap.size,3,none⟩ (.int .u16 0)):=⟨_,rfl⟩;rw [←hwl];have M:=Qi4 (I:=I) (D:=D) (T:=T) T1.out HTwz.out hwz ywz R1.out hn2.out HS.out hl1.out HN1.out HLo.out RMwz.out (gl:=w1.heap.size) (Nat.le_refl _);rw [←hwl] at M;generalize w1.heap.size=gl at M ⊢;clear hwl)
  try clear zc0;try clear zc1;try clear zc2;try clear zc3;try clear zf0;try clear zf1;try clear zf2;try clear zf3;try clear ywzb;try clear RMwz;try clear RLwz;try clear hgwz;try clear hbwz;try clear HTwza;try clear ywza;try clear hwza;try clear HTwz;try clear ywz;try clear hwz;try clear RMwy;try clear RLwy;try clear hgwy;try clear hbwy;try clear HTwya;try clear ywya;try clear hwya;try clear HTwy;try clear ywy;try clear hwy;try clear RMwx;try clear RLwx;try clear hgwx;try clear hbwx;try clear HTwxa;try clear ywxa;try clear hwxa;try clear HTwx;try clear ywx;try clear hwx;try clear RL0;try clear hg0;try clear hb0;try clear HT0a;try clear y0a;try clear h1a;try clear HT0;try clear y0;try clear h1;try clear R1;try clear T1;try clear HS;try clear hl1;try clear HN1;try clear H1;try clear H2;try clear H3
  have y1:=M.y
  have hne1:=M.ne1
  have hne2:=M.ne2
  have hne1':¬g1=gl:=fun e=>hne1 e.symm
  go_wp2_with fail
  refine Calls.mono (H4 _ M.rd) ?_
  rintro e w4 (⟨rfl,hZ,h4,t4⟩|⟨rfl,hZ,t4⟩)
  rotate_left
  ·exact⟨rfl,Or.inr ⟨rfl,M.t.trans t4,NO.out (Or.inl hZ)⟩⟩
  have y4:=(t4.cell (p:=⟨g1,0,none⟩) (Qaa y1) hn1.out).trans y1
  have L4:Hid (Lk w4 gl ⟨I,D,T,0⟩):=M.lk.touch t4 M.neb
  have R4:Hid (Room w4 g2 4):=M.rm.touch t4 hn2.out
  have T4:Hid (Touch (fun k=>k=b) w w4):=M.t.trans t4
  have HZ0:Hid (Z=0):=hZ
  have HM1:Hid (gl≠b∧w.heap.size≤gl∧N≤gl):=⟨M.neb,M.le,M.leN⟩
  clear t4 H4 M y1 hZ
  go_wp2_with fail
  refine Calls.mono (H5 _ h4) ?_
  rintro e w5 ⟨rfl,h5,t5⟩
  have L5:=L4.out.touch t5 HM1.out.1
  have HL5:Hid (Lk w5 gl ⟨I,D,T,0⟩):=L5
  have R5:Hid (Room w5 g2 4):=R4.out.touch t5 hn2.out
  have T5:Hid (Touch (fun k=>k=b) w w5):=T4.out.trans t5
  have H5R:Hid (Rdr N w5 b rs q5):=h5
  obtain⟨d0,d1,d2,d3,f3⟩:=L5
  dsimp only at d0 d1 d2 d3
  clear t5 H5 h4 h5 y4 L4 R4 T4
  have U6:Hid (Touch (fun k=>k=gl) w5 (w5.setCell ⟨gl,3,none⟩ (.int .u16 C))):=Touch.setCell (F:=fun k=>k=gl) (p:=⟨gl,3,none⟩) (Touch.refl _ _) (Or.inl rfl) _
  have L6:Hid (Lk (w5.setCell ⟨gl,3,none⟩ (.int .u16 C)) gl ⟨I,D,T,C⟩):=⟨by simp [d0,go_sem],by simp [d1,go_sem],by simp [d2,go_sem],by simp [d3,go_sem],by simp [f3,go_sem]⟩
  go_upto_region 4 with fail
  clear d0 d1 d2 d3 f3
  generalize w5.setCell ⟨gl,3,none⟩ (.int .u16 C)=w6 at *
  obtain⟨d0,d1,d2,d3,f3⟩:=L6.out
  dsimp only at d0 d1 d2 d3
  have HIL:=Qk3 ⟨I,D,T,C⟩ w6
  dsimp only at HIL
  go_wp2_with fail
  refine Calls.mono HIL ?_
  rintro e w7 ⟨rfl,t7⟩
  have R7:Hid (Room w7 g2 4):=(R5.out.touch U6.out (fun e=>hne2 e.symm)).keep t7
  have T7:Hid (Touch (fun k=>k=b) w w7):=(T5.out.trans' U6.out (fun i hi e=>by have:=HM1.out;omega)).trans (Touch.mono t7 (fun _ _ h=>h.elim))
  have H7:Hid (Rdr N w7 b rs q5):=(H5R.out.touch U6.out (fun k hk e=>by have:=HM1.out;omega)).keep t7
  have L7:Hid (Lk w7 gl ⟨I,D,T,C⟩):=L6.out.touch t7 (fun h=>h)
  clear t7 HIL d0 d1 d2 d3 f3 L6 U6 R5 T5 H5R HL5
  by_cases ht:1≤T∧T≤4
  ·have hdt:(decide (1≤T)&&decide (T≤4))=true:=by simpa using ht
   have HT4:Hid (1≤T∧T≤4):=ht
   clear ht
   go_wp2_with fail
   refine Calls.mono (Qbm _ 28 _ (by first|rfl|exact hdt)) ?_
   rintro e w8 ⟨rfl,rfl⟩
   clear hdt
   obtain⟨d0,d1,d2,d3,f3⟩:=L7.out
   dsimp only at d0 d1 d2 d3
   obtain⟨zz0,zc0,zf0⟩:=R7.out 0 (by omega)
   obtain⟨zz1,zc1,zf1⟩:=R7.out 1 (by omega)
   obtain⟨zz2,zc2,zf2⟩:=R7.out 2 (by omega)
   obtain⟨zz3,zc3,zf3⟩:=R7.out 3 (by omega)
   obtain⟨wz,hwz⟩:∃wz,wz=((((w7.setCell ⟨g2,0,none⟩ (.int .u32 I)).setCell ⟨g2,1,none⟩ (.int .u32 D)).setCell ⟨g2,2,none⟩ (.int .u8 T)).setCell ⟨g2,3,none⟩ (.int .u16 C)):=⟨_,rfl⟩
   have zd0:wz.cell? ⟨g2,0,none⟩=some (.int .u32 I):=by rw [hwz];simp [zc0,go_sem]
   have zd1:wz.cell? ⟨g2,1,none⟩=some (.int .u32 D):=by rw [hwz];simp [zc1,go_sem]
   have zd2:wz.cell? ⟨g2,2,none⟩=some (.int .u8 T):=by rw [hwz];simp [zc2,go_sem]
   have zd3:wz.cell? ⟨g2,3,none⟩=some (.int .u16 C):=by rw [hwz];simp [zc3,go_sem]
   have HUz:Hid (Touch (fun k=>k=g2) w7 wz):=by show Touch _ _ _;rw [hwz];refine Touch.setCell (F:=fun k=>k=g2) (p:=⟨g2,3,none⟩) ?_ (Or.inl rfl) _;refine Touch.setCell (F:=fun k=>k=g2) (p:=⟨g2,2,none⟩) ?_ (Or.inl rfl) _;refine Touch.setCell (F:=fun k=>k=g2) (p:=⟨g2,1,none⟩) ?_ (Or.inl rfl) _;refine Touch.setCell (F:=fun k=>k=g2) (p:=⟨g2,0,none⟩) ?_ (Or.inl rfl) _;exact Touch.refl _ _
   have HWz:Hid (wz=((((w7.setCell ⟨g2,0,none⟩ (.int .u32 I)).setCell ⟨g2,1,none⟩ (.int .u32 D)).setCell ⟨g2,2,none⟩ (.int .u8 T)).setCell ⟨g2,3,none⟩ (.int .u16 C))):=hwz
   clear hwz
   go_wp2_with fail
   rw [←HWz.out]
   clear HWz zc0 zf0 zc1 zf1 zc2 zf2 zc3 zf3
   refine bodyPost_ret (v:=.agg #[.int .u32 I,.int .u32 D,.int .u8 T,.int .u16 C]) (by simp [results,Tryz.results242,go_sem,zd0,zd1,zd2,zd3]) rfl ?_
   exact Or.inl ⟨⟨I,D,T,C⟩,rfl,by rw [←HQ.out];exact H7.out.touch HUz.out (fun k hk e=>by have:=HG1.out;have:=HG2.out;have:=HN.out;omega),T7.out.trans' HUz.out (fun i hi e=>by have:=HG1.out;have:=HG2.out;omega),YES.out HT4.out HZ0.out⟩
  ·have hdt:(decide (1≤T)&&decide (T≤4))=false:=by simpa using ht
   have HT4:Hid (¬(1≤T∧T≤4)):=ht
   clear ht
   go_wp2_with fail
   refine Calls.mono (Qcd _ 28 _ (by first|rfl|exact hdt)) ?_
   rintro e w8 ⟨rfl,rfl⟩
   exact⟨rfl,Or.inr ⟨rfl,T7.out,NO.out (Or.inr HT4.out)⟩⟩
end Go.Proofs.YtddbffoiadmffaaGreat
