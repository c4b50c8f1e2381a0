import Derived.Deep.DeepCutAuto
import Derived.Test.YtddbffoiadmffaaGreatStEnc1
import Derived.Deep.RegionHeld3
import Derived.Deep.RegionLaw
import Derived.Deep.DrawnRows
namespace Go.Proofs.YtddbffoiadmffaaGreat
set_option maxHeartbeats 8000000
open Go.RowKit
set_option linter.unusedVariables false
set_option maxRecDepth 100000
def prsV:List Value:=[.nilFunc,
 .nilFunc,
 .func (.func 206) #[] #[],
 .func (.func 207) #[] #[],
 .func (.func 208) #[] #[],
 .func (.func 209) #[] #[],
 .func (.func 210) #[] #[],
 .func (.func 211) #[] #[],
 .func (.func 212) #[] #[],
 .func (.func 213) #[] #[],
 .func (.func 202) #[] #[],
 .func (.func 203) #[] #[],
 .nilFunc,
 .nilFunc,
 .func (.func 202) #[] #[],
 .func (.func 203) #[] #[],
 .nilFunc,
 .nilFunc,
 .func (.func 204) #[] #[],
 .func (.func 205) #[] #[],
 .func (.func 204) #[] #[],
 .func (.func 205) #[] #[],
 .func (.func 204) #[] #[],
 .func (.func 205) #[] #[]]
theorem Tryz.info24:(Tryz.prog.info? 293).map (·.size)=some 24:=by kernel_rfl
theorem Qby:prsV.toArray.all (·.oneCell')=true:=by decide +kernel
theorem Qel (w:World):Calls Tryz.prog 176 #[] w fun e w'=>e=.returned (.agg prsV.toArray)∧Touch (fun _=>False) w w':=by
 go_enter Tryz.func176,Tryz.ntmps176
 have hsf:∀(w:World) (a:Addr) (f:Fn) (x y:Array Value) (m:Mode),(store a (.func f x y) m).run Tryz.prog w=stored Tryz.prog w a (.func f x y) m:=fun w a f x y m=>run_store Tryz.prog w a _ m rfl
 go_upto_region 3 with fail
 have HRW:Hid (Row (((w.alloc (.cells #[.nilFunc,.nilFunc,.nilFunc,.nilFunc,.nilFunc,.nilFunc,.nilFunc,.nilFunc,.nilFunc,.nilFunc,.nilFunc,.nilFunc,.nilFunc,.nilFunc,.nilFunc,.nilFunc,.nilFunc,.nilFunc,.nilFunc,.nilFunc,.nilFunc,.nilFunc,.nilFunc,.nilFunc] 293)).alloc (.cells #[.func (.func 202) #[] #[],.func (.func 203) #[] #[]] 248)).alloc (.cells #[.func (.func 204) #[] #[],.func (.func 205) #[] #[]] 248)) w.heap.size 293 [.nilFunc,.nilFunc,.nilFunc,.nilFunc,.nilFunc,.nilFunc,.nilFunc,.nilFunc,.nilFunc,.nilFunc,.nilFunc,.nilFunc,.nilFunc,.nilFunc,.nilFunc,.nilFunc,.nilFunc,.nilFunc,.nilFunc,.nilFunc,.nilFunc,.nilFunc,.nilFunc,.nilFunc]):=(Qac w 293 #[.nilFunc,.nilFunc,.nilFunc,.nilFunc,.nilFunc,.nilFunc,.nilFunc,.nilFunc,.nilFunc,.nilFunc,.nilFunc,.nilFunc,.nilFunc,.nilFunc,.nilFunc,.nilFunc,.nilFunc,.nilFunc,.nilFunc,.nilFunc,.nilFunc,.nilFunc,.nilFunc,.nilFunc]).keep (((Touch.refl _ _).alloc _).alloc _)
 have HTW:Hid (Touch (fun _=>False) w (((w.alloc (.cells #[.nilFunc,.nilFunc,.nilFunc,.nilFunc,.nilFunc,.nilFunc,.nilFunc,.nilFunc,.nilFunc,.nilFunc,.nilFunc,.nilFunc,.nilFunc,.nilFunc,.nilFunc,.nilFunc,.nilFunc,.nilFunc,.nilFunc,.nilFunc,.nilFunc,.nilFunc,.nilFunc,.nilFunc] 293)).alloc (.cells #[.func (.func 202) #[] #[],.func (.func 203) #[] #[]] 248)).alloc (.cells #[.func (.func 204) #[] #[],.func (.func 205) #[] #[]] 248))):=((((Touch.refl _ w).alloc _).alloc _).alloc _)
 have o0:(((w.alloc (.cells #[.nilFunc,.nilFunc,.nilFunc,.nilFunc,.nilFunc,.nilFunc,.nilFunc,.nilFunc,.nilFunc,.nilFunc,.nilFunc,.nilFunc,.nilFunc,.nilFunc,.nilFunc,.nilFunc,.nilFunc,.nilFunc,.nilFunc,.nilFunc,.nilFunc,.nilFunc,.nilFunc,.nilFunc] 293)).alloc (.cells #[.func (.func 202) #[] #[],.func (.func 203) #[] #[]] 248)).alloc (.cells #[.func (.func 204) #[] #[],.func (.func 205) #[] #[]] 248)).cell? ⟨w.heap.size+1,0,none⟩=some (.func (.func 202) #[] #[]):=by simp [go_sem]
 have o1:(((w.alloc (.cells #[.nilFunc,.nilFunc,.nilFunc,.nilFunc,.nilFunc,.nilFunc,.nilFunc,.nilFunc,.nilFunc,.nilFunc,.nilFunc,.nilFunc,.nilFunc,.nilFunc,.nilFunc,.nilFunc,.nilFunc,.nilFunc,.nilFunc,.nilFunc,.nilFunc,.nilFunc,.nilFunc,.nilFunc] 293)).alloc (.cells #[.func (.func 202) #[] #[],.func (.func 203) #[] #[]] 248)).alloc (.cells #[.func (.func 204) #[] #[],.func (.func 205) #[] #[]] 248)).cell? ⟨w.heap.size+1,1,none⟩=some (.func (.func 203) #[] #[]):=by simp [go_sem]
 have p0:(((w.alloc (.cells #[.nilFunc,.nilFunc,.nilFunc,.nilFunc,.nilFunc,.nilFunc,.nilFunc,.nilFunc,.nilFunc,.nilFunc,.nilFunc,.nilFunc,.nilFunc,.nilFunc,.nilFunc,.nilFunc,.nilFunc,.nilFunc,.nilFunc,.nilFunc,.nilFunc,.nilFunc,.nilFunc,.nilFunc] 293)).alloc (.cells #[.func (.func 202) #[] #[],.func (.func 203) #[] #[]] 248)).alloc (.cells #[.func (.func 204) #[] #[],.func (.func 205) #[] #[]] 248)).cell? ⟨w.heap.size+1+1,0,none⟩=some (.func (.func 204) #[] #[]):=by simp [go_sem]
 have p1:(((w.alloc (.cells #[.nilFunc,.nilFunc,.nilFunc,.nilFunc,.nilFunc,.nilFunc,.nilFunc,.nilFunc,.nilFunc,.nilFunc,.nilFunc,.nilFunc,.nilFunc,.nilFunc,.nilFunc,.nilFunc,.nilFunc,.nilFunc,.nilFunc,.nilFunc,.nilFunc,.nilFunc,.nilFunc,.nilFunc] 293)).alloc (.cells #[.func (.func 202) #[] #[],.func (.func 203) #[] #[]] 248)).alloc (.cells #[.func (.func 204) #[] #[],.func (.func 205) #[] #[]] 248)).cell? ⟨w.heap.size+1+1,1,none⟩=some (.func (.func 205) #[] #[]):=by simp [go_sem]
 generalize ((w.alloc (.cells #[.nilFunc,.nilFunc,.nilFunc,.nilFunc,.nilFunc,.nilFunc,.nilFunc,.nilFunc,.nilFunc,.nilFunc,.nilFunc,.nilFunc,.nilFunc,.nilFunc,.nilFunc,.nilFunc,.nilFunc,.nilFunc,.nilFunc,.nilFunc,.nilFunc,.nilFunc,.nilFunc,.nilFunc] 293)).alloc (.cells #[.func (.func 202) #[] #[],.func (.func 203) #[] #[]] 248)).alloc (.cells #[.func (.func 204) #[] #[],.func (.func 205) #[] #[]] 248)=w1 at *
 clear hsf
 go_wp2_with (refine wpList_store_row rfl 293 (.tmp 0) (.tmp 14) rfl w.heap.size prsV.toArray rfl rfl 293 _ HRW.out (by rw [Tryz.info24];rfl) rfl Qby ?_)
 refine bodyPost_ret (results_cell_row Tryz.results176 _ _ w.heap.size 293 prsV.toArray (0,0) _ rfl (HRW.out.setRow prsV.toArray) Tryz.underlying293 rfl (by rw [Tryz.info24];rfl)) rfl ?_
 exact⟨rfl,HTW.out.setRow (Or.inr (Nat.le_refl _)) _⟩
theorem Qml (k F G:Nat) (hk:k<12) (hF:prsV[k*2]?=some (.func (.func F) #[] #[])) (hG:prsV[k*2+1]?=some (.func (.func G) #[] #[])) (w:World):Calls Tryz.prog 144 #[.int .u8 (k:Int)] w fun e w'=>e=.returned (.agg #[.func (.func F) #[] #[],.func (.func G) #[] #[]])∧Touch (fun _=>False) w w':=by
 have hsf:∀(w:World) (a:Addr) (f:Fn) (x y:Array Value) (m:Mode),(store a (.func f x y) m).run Tryz.prog w=stored Tryz.prog w a (.func f x y) m:=fun w a f x y m=>run_store Tryz.prog w a _ m rfl
 have hnq:∀(w:World) (F:Nat),(binOp BinOp.neq 246 (.func (.func F) #[] #[]) .nilFunc).run Tryz.prog w=.ok (.bool true) w:=fun _ _=>by kernel_rfl
 have hnn:∀(w:World),(binOp BinOp.neq 246 .nilFunc .nilFunc).run Tryz.prog w=.ok (.bool false) w:=fun _=>by kernel_rfl
 have hki:(k:Int)<12:=by omega
 have hk0:(0:Int)≤(k:Int):=by omega
 have hkw:IntKind.i64.wrap (k:Int)=(k:Int):=IntWalk.i64_in _ (by omega)
 go_enter Tryz.func144,Tryz.ntmps144
 go_wp2_with fail
 refine Calls.mono (Qel _) ?_
 rintro e w1 ⟨rfl,t1⟩
 have T1:Hid (Touch (fun _=>False) w w1):=((Touch.refl _ w).alloc _).trans t1
 have R1:Hid (Room w1 w.heap.size 2):=(Room.new w #[.nilFunc,.nilFunc] 248).keep t1
 have hg:w.heap.size<w1.heap.size:=by have:=t1.size;simp at this;omega
 clear t1
 go_upto_region 2 with (refine wpList_store_row rfl 293 (.tmp 3) (.tmp 4) rfl w1.heap.size prsV.toArray rfl rfl 293 _ (Qac w1 293 _) (by rw [Tryz.info24];rfl) rfl Qby ?_)
 obtain⟨w2,hw2⟩:∃u,u=(w1.alloc (.cells #[.nilFunc,.nilFunc,.nilFunc,.nilFunc,.nilFunc,.nilFunc,.nilFunc,.nilFunc,.nilFunc,.nilFunc,.nilFunc,.nilFunc,.nilFunc,.nilFunc,.nilFunc,.nilFunc,.nilFunc,.nilFunc,.nilFunc,.nilFunc,.nilFunc,.nilFunc,.nilFunc,.nilFunc] 293)).setRow w1.heap.size prsV.toArray:=⟨_,rfl⟩
 rw [←hw2]
 have RW:Hid (Row w2 w1.heap.size 293 prsV):=by rw [hw2];exact (Qac w1 293 _).setRow prsV.toArray
 have T2:Hid (Touch (fun _=>False) w w2):=by rw [hw2];exact (T1.out.alloc _).setRow (Or.inr (by omega)) _
 have R2:Hid (Room w2 w.heap.size 2):=by rw [hw2];exact (R1.out.keep ((Touch.refl _ _).alloc _)).touch (Touch.setRow (F:=fun k=>k=w1.heap.size) (Touch.refl _ _) (Or.inl rfl) _) (by show ¬w.heap.size=w1.heap.size;omega)
 have hne1:¬w.heap.size=w1.heap.size:=by omega
 have hne2:¬w1.heap.size=w.heap.size:=by omega
 clear hw2
 clear R1 T1
 have hc0:w2.cell? ⟨w1.heap.size,k*2,none⟩=some (.func (.func F) #[] #[]):=(RW.out.cell (k*2)).trans hF
 have hc1:w2.cell? ⟨w1.heap.size,k*2+1,none⟩=some (.func (.func G) #[] #[]):=(RW.out.cell (k*2+1)).trans hG
 go_wp2_with fail
 refine Calls.mono (Qbk _ 21 _ rfl) ?_
 rintro e w3 ⟨rfl,rfl⟩
 obtain⟨zz0,zc0,zf0⟩:=R2.out 0 (by omega)
 obtain⟨zz1,zc1,zf1⟩:=R2.out 1 (by omega)
 obtain⟨wz,hwz⟩:∃wz,wz=((w2.setCell ⟨w.heap.size,0,none⟩ (.func (.func F) #[] #[])).setCell ⟨w.heap.size,1,none⟩ (.func (.func G) #[] #[])):=⟨_,rfl⟩
 have zd0:wz.cell? ⟨w.heap.size,0,none⟩=some (.func (.func F) #[] #[]):=by rw [hwz];simp [zc0,go_sem]
 have zd1:wz.cell? ⟨w.heap.size,1,none⟩=some (.func (.func G) #[] #[]):=by rw [hwz];simp [zc1,go_sem]
 have HUz:Hid (Touch (fun k=>k=w.heap.size) w2 wz):=by show Touch _ _ _;rw [hwz];refine Touch.setCell (F:=fun k=>k=w.heap.size) (p:=⟨w.heap.size,1,none⟩) ?_ (Or.inl rfl) _;refine Touch.setCell (F:=fun k=>k=w.heap.size) (p:=⟨w.heap.size,0,none⟩) ?_ (Or.inl rfl) _;exact Touch.refl _ _
 have HWz:Hid (wz=((w2.setCell ⟨w.heap.size,0,none⟩ (.func (.func F) #[] #[])).setCell ⟨w.heap.size,1,none⟩ (.func (.func G) #[] #[]))):=hwz
 clear hwz
 go_wp2_with fail
 rw [←HWz.out]
 clear HWz zc0 zf0 zc1 zf1
 refine bodyPost_ret (v:=.agg #[.func (.func F) #[] #[],.func (.func G) #[] #[]]) (by simp [results,Tryz.results144,go_sem,zd0,zd1]) rfl ?_
 exact⟨rfl,T2.out.trans' HUz.out (fun i hi e=>by omega)⟩
theorem Qdv (k:Nat) (hk:k<12) (hF:prsV[k*2]?=some .nilFunc) (hG:prsV[k*2+1]?=some .nilFunc) (w:World):Calls Tryz.prog 144 #[.int .u8 (k:Int)] w fun e w'=>e=.panicked (flawC 21)∧Touch (fun _=>False) w w':=by
 have hsf:∀(w:World) (a:Addr) (f:Fn) (x y:Array Value) (m:Mode),(store a (.func f x y) m).run Tryz.prog w=stored Tryz.prog w a (.func f x y) m:=fun w a f x y m=>run_store Tryz.prog w a _ m rfl
 have hnq:∀(w:World) (F:Nat),(binOp BinOp.neq 246 (.func (.func F) #[] #[]) .nilFunc).run Tryz.prog w=.ok (.bool true) w:=fun _ _=>by kernel_rfl
 have hnn:∀(w:World),(binOp BinOp.neq 246 .nilFunc .nilFunc).run Tryz.prog w=.ok (.bool false) w:=fun _=>by kernel_rfl
 have hki:(k:Int)<12:=by omega
 have hk0:(0:Int)≤(k:Int):=by omega
 have hkw:IntKind.i64.wrap (k:Int)=(k:Int):=IntWalk.i64_in _ (by omega)
 go_enter Tryz.func144,Tryz.ntmps144
 go_wp2_with fail
 refine Calls.mono (Qel _) ?_
 rintro e w1 ⟨rfl,t1⟩
 have T1:Hid (Touch (fun _=>False) w w1):=((Touch.refl _ w).alloc _).trans t1
 have R1:Hid (Room w1 w.heap.size 2):=(Room.new w #[.nilFunc,.nilFunc] 248).keep t1
 have hg:w.heap.size<w1.heap.size:=by have:=t1.size;simp at this;omega
 clear t1
 go_upto_region 2 with (refine wpList_store_row rfl 293 (.tmp 3) (.tmp 4) rfl w1.heap.size prsV.toArray rfl rfl 293 _ (Qac w1 293 _) (by rw [Tryz.info24];rfl) rfl Qby ?_)
 obtain⟨w2,hw2⟩:∃u,u=(w1.alloc (.cells #[.nilFunc,.nilFunc,.nilFunc,.nilFunc,.nilFunc,.nilFunc,.nilFunc,.nilFunc,.nilFunc,.nilFunc,.nilFunc,.nilFunc,.nilFunc,.nilFunc,.nilFunc,.nilFunc,.nilFunc,.nilFunc,.nilFunc,.nilFunc,.nilFunc,.nilFunc,.nilFunc,.nilFunc] 293)).setRow w1.heap.size prsV.toArray:=⟨_,rfl⟩
 rw [←hw2]
 have RW:Hid (Row w2 w1.heap.size 293 prsV):=by rw [hw2];exact (Qac w1 293 _).setRow prsV.toArray
 have T2:Hid (Touch (fun _=>False) w w2):=by rw [hw2];exact (T1.out.alloc _).setRow (Or.inr (by omega)) _
 have R2:Hid (Room w2 w.heap.size 2):=by rw [hw2];exact (R1.out.keep ((Touch.refl _ _).alloc _)).touch (Touch.setRow (F:=fun k=>k=w1.heap.size) (Touch.refl _ _) (Or.inl rfl) _) (by show ¬w.heap.size=w1.heap.size;omega)
 have hne1:¬w.heap.size=w1.heap.size:=by omega
 have hne2:¬w1.heap.size=w.heap.size:=by omega
 clear hw2
 clear R1 T1
 have hc0:w2.cell? ⟨w1.heap.size,k*2,none⟩=some .nilFunc:=(RW.out.cell (k*2)).trans hF
 have hc1:w2.cell? ⟨w1.heap.size,k*2+1,none⟩=some .nilFunc:=(RW.out.cell (k*2+1)).trans hG
 go_wp2_with fail
 refine Calls.mono (Qb1 _ 21 _ rfl) ?_
 rintro e w3 ⟨rfl,rfl⟩
 exact⟨rfl,rfl,T2.out⟩
theorem Qoo (w:World):Calls Tryz.prog 144 #[.int .u8 0] w fun e w'=>e=.panicked (flawC 21)∧Touch (fun _=>False) w w':=Qdv 0 (by omega) rfl rfl w
theorem Qqh (w:World):Calls Tryz.prog 144 #[.int .u8 1] w fun e w'=>e=.returned (.agg #[.func (.func 206) #[] #[],.func (.func 207) #[] #[]])∧Touch (fun _=>False) w w':=Qml 1 _ _ (by omega) rfl rfl w
theorem Qo2 (w:World):Calls Tryz.prog 144 #[.int .u8 6] w fun e w'=>e=.panicked (flawC 21)∧Touch (fun _=>False) w w':=Qdv 6 (by omega) rfl rfl w
theorem Qpu (w:World):Calls Tryz.prog 144 #[.int .u8 8] w fun e w'=>e=.panicked (flawC 21)∧Touch (fun _=>False) w w':=Qdv 8 (by omega) rfl rfl w
theorem Qic (x:Int) (h12:12≤x) (h256:x<256) (w:World):Calls Tryz.prog 144 #[.int .u8 x] w fun e w'=>e=.panicked (flawC 21)∧Touch (fun _=>False) w w':=by
 have hsf:∀(w:World) (a:Addr) (f:Fn) (x y:Array Value) (m:Mode),(store a (.func f x y) m).run Tryz.prog w=stored Tryz.prog w a (.func f x y) m:=fun w a f x y m=>run_store Tryz.prog w a _ m rfl
 have hnq:∀(w:World) (F:Nat),(binOp BinOp.neq 246 (.func (.func F) #[] #[]) .nilFunc).run Tryz.prog w=.ok (.bool true) w:=fun _ _=>by kernel_rfl
 have hnn:∀(w:World),(binOp BinOp.neq 246 .nilFunc .nilFunc).run Tryz.prog w=.ok (.bool false) w:=fun _=>by kernel_rfl
 go_enter Tryz.func144,Tryz.ntmps144
 go_wp2_with fail
 refine Calls.mono (Qel _) ?_
 rintro e w1 ⟨rfl,t1⟩
 have T1:Hid (Touch (fun _=>False) w w1):=((Touch.refl _ w).alloc _).trans t1
 have R1:Hid (Room w1 w.heap.size 2):=(Room.new w #[.nilFunc,.nilFunc] 248).keep t1
 have hg:w.heap.size<w1.heap.size:=by have:=t1.size;simp at this;omega
 clear t1
 go_upto_region 2 with (refine wpList_store_row rfl 293 (.tmp 3) (.tmp 4) rfl w1.heap.size prsV.toArray rfl rfl 293 _ (Qac w1 293 _) (by rw [Tryz.info24];rfl) rfl Qby ?_)
 obtain⟨w2,hw2⟩:∃u,u=(w1.alloc (.cells #[.nilFunc,.nilFunc,.nilFunc,.nilFunc,.nilFunc,.nilFunc,.nilFunc,.nilFunc,.nilFunc,.nilFunc,.nilFunc,.nilFunc,.nilFunc,.nilFunc,.nilFunc,.nilFunc,.nilFunc,.nilFunc,.nilFunc,.nilFunc,.nilFunc,.nilFunc,.nilFunc,.nilFunc] 293)).setRow w1.heap.size prsV.toArray:=⟨_,rfl⟩
 rw [←hw2]
 have RW:Hid (Row w2 w1.heap.size 293 prsV):=by rw [hw2];exact (Qac w1 293 _).setRow prsV.toArray
 have T2:Hid (Touch (fun _=>False) w w2):=by rw [hw2];exact (T1.out.alloc _).setRow (Or.inr (by omega)) _
 have R2:Hid (Room w2 w.heap.size 2):=by rw [hw2];exact (R1.out.keep ((Touch.refl _ _).alloc _)).touch (Touch.setRow (F:=fun k=>k=w1.heap.size) (Touch.refl _ _) (Or.inl rfl) _) (by show ¬w.heap.size=w1.heap.size;omega)
 have hne1:¬w.heap.size=w1.heap.size:=by omega
 have hne2:¬w1.heap.size=w.heap.size:=by omega
 clear hw2
 clear R1 T1
 have hlt:¬x<12:=by omega
 go_wp2_with fail
 refine Calls.mono (Qb1 _ 21 _ (by first|rfl|simp)) ?_
 rintro e w3 ⟨rfl,rfl⟩
 exact⟨rfl,rfl,T2.out⟩
theorem Qkl (N b:Nat) (n:Int) (hn:n=1∨n=2∨n=3∨n=4) (rs:List Int) (q:Option Nat) (w:World) (h:Rdr N w b rs q) :
  Calls Tryz.prog 241 #[.agg #[.pointer (some ⟨b,0,none⟩)],.int .i64 n] w fun e w'=>(e=.returned (.tuple #[])∧numAt rs q n.toNat=0∧Rdr N w' b rs (nextAt rs q n.toNat)∧Touch (fun k=>k=b) w w')∨(e=.panicked (flawC 28)∧numAt rs q n.toNat≠0∧Touch (fun k=>k=b) w w'):=by
 by_cases hz:numAt rs q n.toNat=0
 ·refine (Qlo N b n hn rs q w h hz).mono ?_
  rintro e w' ⟨rfl,hr,t⟩
  exact Or.inl ⟨rfl,hz,hr,t⟩
 ·refine (Qnz N b n hn rs q w h hz).mono ?_
  rintro e w' ⟨rfl,t⟩
  exact Or.inr ⟨rfl,hz,t⟩
theorem Qjn (N b:Nat) (rs:List Int) (q:Option Nat) (w:World) (h:Rdr N w b rs q) :
  Calls Tryz.prog 241 #[.agg #[.pointer (some ⟨b,0,none⟩)],.int .i64 1] w fun e w'=>(e=.returned (.tuple #[])∧numAt rs q 1=0∧Rdr N w' b rs (nextAt rs q 1)∧Touch (fun k=>k=b) w w')∨(e=.panicked (flawC 28)∧numAt rs q 1≠0∧Touch (fun k=>k=b) w w'):=Qkl N b 1 (by omega) rs q w h
theorem q8 (rs:List Int):nextAt rs (nextAt rs (nextAt rs (some 0) 4) 1) 3=nextAt rs (some 0) 8:=by rw [Qar,Qar]
attribute [local go_sem ↓] Go.wp_at_zero Go.wp_at_succ
theorem Qf5 {P:Program} {w:World} {ops:Array Oper} {o:Oper} {a:Act} {K:Act→World→Prop} {Q:Exit→Act→World→Prop} {E:Prop} (hgd:o.guard=none) (s x:Operand) (t:TypeId)
  (ho:o.op=.call { callee:=.builtin .append,args:=#[s,x],argTypes:=#[t,t] })
  (base:Nat) (e:TypeId) (z:Value) (size bytes:Nat) (ht:P.underlying t=some (.slice e)) (hi:(P.info? e).map (fun i=>(i.zero,i.size,i.bytes))=some (some z,size,bytes)) (hzs:z.cells.size=size) (hsz:0<size) (hb64:bytes≤64)
  (v:Value) (n:Nat) (xs:List Value) (hs:a.eval s=v) (hown:w.ownsRow base e size v n xs)
  (ad:Addr) (m c:Nat) (news:List Value) (hx:a.eval x=.slice (some ad) m c) (hl:news.length=m*size) (hnews:∀j u,news[j]?=some u→w.cell? (ad.add j)=some u) (h1:∀u∈news,u.oneCell'=true)
  (hlen:n+m≤1099511627776) (hbase:base≤w.heap.size)
  (h:∀v' w',w'.ownsRow base e size v' (n+m) (xs++news)→Touch (fun j=>v.ownBlock=some j) w w'→K (a.put o.dst v') w') :
  if Region.wanted o (yielded ops a.tmps)=true then Oper.wp P o a w K Q else E:=by
 obtain⟨i,hi,hz,hsize,hby⟩:=info_parts hi
 have hw:Region.wanted o (yielded ops a.tmps)=true:=by simp [Region.wanted,hgd]
 rw [if_pos hw]
 have hmul:(n+m)*bytes≤1099511627776*64:=Nat.mul_le_mul hlen hb64
 obtain⟨v',w',hr,h2,h3,h4,h5⟩:=run_append_own_at (P:=P) w base t o.type e i z size bytes ht hi hz hsize hby hzs hsz v n xs hown ad m c news hl hnews h1 (by unfold maxLen;omega) (by omega) hbase
 unfold Oper.wp execOp
 simp only [ho,resolve,invoke,builtin,Sem.run_bind,Sem.run_pure,Result.andThen_ok,List.map_toArray,List.map_cons,List.map_nil,hs,hx,hr]
 exact h v' w' h2 ((Touch.refl _ _).grown h3 (fun k hk=>Or.inl hk))
end Go.Proofs.YtddbffoiadmffaaGreat
