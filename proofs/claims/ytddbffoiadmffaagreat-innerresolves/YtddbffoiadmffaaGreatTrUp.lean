import Derived.Test.YtddbffoiadmffaaGreatTrMath
import Derived.Laws.BitsAllLaws
import Derived.Deep.RegionHeld3
import Derived.Laws.Rows
import Derived.Laws.Tables
import Derived.BigRegion
import Derived.Deep.DrawnRows
import Derived.Deep.DeepCutAuto
namespace Go.Proofs.YtddbffoiadmffaaGreat
set_option maxHeartbeats 8000000
open Go.RowKit
set_option linter.unusedVariables false
theorem Qw2 {α:Type _} {l:List α} {i:Nat} {a:α}:l.toArray.setIfInBounds i a=(l.set i a).toArray:=List.setIfInBounds_toArray _ _ _
theorem Qw3 {α:Type _} {l:List α} {a b:α}:(a::l).set 0 b=b::l:=rfl
theorem Qw4 {α:Type _} {l:List α} {a b:α} {n:Nat}:(a::l).set (n+1) b=a::l.set n b:=rfl
theorem Qav {k:IntKind} {a b:Int} (h:a=b):Ending.returned (.int k a)=.returned (.int k b):=by rw [h]
theorem Qaj {a b:Bool} (h:a=b):Ending.returned (.bool a)=.returned (.bool b):=by rw [h]
theorem Qek {a b:Int} {c d:Bool} (h:a=b) (h':c=d):Ending.returned (.tuple #[.int .u8 a,.bool c])=.returned (.tuple #[.int .u8 b,.bool d]):=by rw [h,h']
set_option maxRecDepth 100000
def cmpI (x y:Int):Int:=if x<y then -1 else if y<x then 1 else 0
theorem Qi6 {x y:Int} (h:x<y):cmpI x y = -1:=if_pos h
theorem Qiz {x y:Int} (h:y<x):cmpI x y=1:=by unfold cmpI;rw [if_neg (by omega),if_pos h]
theorem Qd1 (x:Int):cmpI x x=0:=by unfold cmpI;rw [if_neg (by omega),if_neg (by omega)]
def yrs (a:Int):Int:=if a%32768<3600 then a%32768 else 3600
def fstI (x y:Int):Int:=if x≠0 then x else y
theorem Qjf {x:Int} (y:Int) (h:x≠0):fstI x y=x:=if_pos h
theorem Qok (y:Int):fstI 0 y=y:=if_neg (by omega)
def keyI (t i a t' i' a':Int):Int:=fstI (cmpI t t') (fstI (cmpI i i') (cmpI a a'))
def cH (x y:HK):Int:=fstI (cmpI x.out y.out) (fstI (cmpI x.via y.via) (bz x.vr-bz y.vr))
theorem Qf2 (x y:HK):cH x y<0↔x.lt y:=by
 unfold cH fstI cmpI HK.lt
 have h1:=Qcl x.vr
 have h2:=Qcl y.vr
 constructor
 ·intro h
  split at h <;> (try split at h) <;> (try split at h) <;> (try split at h) <;> (try split at h) <;> (try split at h) <;> (try split at h) <;> (try split at h) <;> omega
 ·intro h
  split <;> (try split) <;> (try split) <;> (try split) <;> (try split) <;> (try split) <;> (try split) <;> (try split) <;> omega
def HK.v (h:HK):Value:=.agg #[.int .u32 h.out,.int .u32 h.via,.bool h.vr]
def HK.cs (h:HK):List Value:=[.int .u32 h.out,.int .u32 h.via,.bool h.vr]
theorem Qdx (b:Bool) (w:World):Calls Tryz.prog 90 #[.bool b] w fun e w'=>e=.returned (.int .i64 (bz b))∧w=w':=by
 cases b
 ·go_enter Tryz.func90,Tryz.ntmps90
  go_wp2
  go_ret
  exact⟨rfl,rfl⟩
 ·go_enter Tryz.func90,Tryz.ntmps90
  go_wp2
  go_ret
  exact⟨rfl,rfl⟩
theorem Qd6 (x y:Int) (w:World):Calls Tryz.prog 89 #[.int .u32 x,.int .u32 y] w fun e w'=>e=.returned (.int .i64 (cmpI x y))∧w=w':=by
 rcases Int.lt_trichotomy x y with h|h|h
 ·have H:Hid _:=Qi6 h
  go_enter Tryz.func89,Tryz.ntmps89
  go_wp2
  go_ret
  exact⟨Qav H.out.symm,rfl⟩
 ·subst h
  have H:Hid _:=Qd1 x
  have h1:¬x<x:=by omega
  go_enter Tryz.func89,Tryz.ntmps89
  go_wp2
  go_ret
  exact⟨Qav H.out.symm,rfl⟩
 ·have H:Hid _:=Qiz h
  have h1:¬x<y:=by omega
  go_enter Tryz.func89,Tryz.ntmps89
  go_wp2
  go_ret
  exact⟨Qav H.out.symm,rfl⟩
def OrR (x y z:Int) (k:Nat):Prop:=k≤3∧(1≤k→x=0)∧(2≤k→y=0)∧(3≤k→z=0)
theorem Qjr (x y z:Int) (g c:Nat) (v:Int) (hv:v=fstI x (fstI y z)) (w:World) (h0:w.cell? ⟨g,0,none⟩=some (.int .i64 x)) (h1:w.cell? ⟨g,1,none⟩=some (.int .i64 y)) (h2:w.cell? ⟨g,2,none⟩=some (.int .i64 z)) :
  Calls Tryz.prog 88 #[.slice (some ⟨g,0,none⟩) 3 c] w fun e w'=>e=.returned (.int .i64 v)∧w=w':=by
 have HV:Hid _:=hv
 clear hv
 go_enter Tryz.func88,Tryz.ntmps88
 go_wp2
 go_loop [8] (fun i=>∃k:Nat,i=.int .i64 k∧OrR x y z k) (fun i=>3-(intOf i).toNat)
 case atStart=>exact⟨0,rfl,by unfold OrR;omega⟩
 case round =>
  obtain⟨k,rfl,hr⟩:=hrel
  have HR:Hid _:=hr
  obtain⟨hk,k1,k2,k3⟩:=hr
  rcases (by omega:k=0∨k=1∨k=2∨k=3) with rfl|rfl|rfl|rfl
  ·clear k1 k2 k3 hk
   by_cases hx:x=0
   ·subst hx
    go_wp2
    go_round
    case rel=>exact⟨1,rfl,by unfold OrR;omega⟩
    case measure=>simp [intOf]
   ·go_wp2
    go_ret
    exact⟨Qav (by rw [HV.out];exact (Qjf _ hx).symm),rfl⟩
  ·have ex:=k1 (by omega)
   subst ex
   clear k1 k2 k3 hk
   by_cases hy:y=0
   ·subst hy
    go_wp2
    go_round
    case rel=>exact⟨2,rfl,by unfold OrR;omega⟩
    case measure=>simp [intOf]
   ·go_wp2
    go_ret
    exact⟨Qav (by rw [HV.out];simp [fstI,hy]),rfl⟩
  ·have ex:=k1 (by omega)
   have ey:=k2 (by omega)
   subst ex
   subst ey
   clear k1 k2 k3 hk
   by_cases hz:z=0
   ·subst hz
    go_wp2
    go_round
    case rel=>exact⟨3,rfl,by unfold OrR;omega⟩
    case measure=>simp [intOf]
   ·go_wp2
    go_ret
    exact⟨Qav (by rw [HV.out];simp [fstI]),rfl⟩
  ·have ex:=k1 (by omega)
   have ey:=k2 (by omega)
   have ez:=k3 (by omega)
   subst ex
   subst ey
   subst ez
   clear k1 k2 k3 hk
   go_wp2
   go_ret
   exact⟨Qav (by rw [HV.out];simp [fstI]),rfl⟩
theorem Qr0 (x y:HK) (w:World):Calls Tryz.prog 48 #[.agg #[.int .u32 x.out,.int .u32 x.via,.bool x.vr],.agg #[.int .u32 y.out,.int .u32 y.via,.bool y.vr]] w fun e w'=>e=.returned (.int .i64 (cH x y))∧Touch (fun _=>False) w w':=by
 have HE:Hid (cH x y=fstI (cmpI x.out y.out) (fstI (cmpI x.via y.via) (bz x.vr-bz y.vr))):=rfl
 generalize cH x y=z at HE ⊢
 obtain⟨x0,x1,x2⟩:=x
 obtain⟨y0,y1,y2⟩:=y
 have b1:=Qcl x2
 have b2:=Qcl y2
 simp only at HE b1 b2
 have H1:Hid _:=Qdx x2
 have H2:Hid _:=Qdx y2
 generalize hbx:bz x2=p at *
 generalize hby:bz y2=q at *
 have HX:Hid _:=hbx
 have HY:Hid _:=hby
 clear hbx hby
 obtain⟨b10,b11⟩:=b1
 obtain⟨b20,b21⟩:=b2
 have hw:IntKind.i64.wrap (p-q)=p-q:=by
  rcases (by omega:p=0∨p=1) with rfl|rfl <;> rcases (by omega:q=0∨q=1) with rfl|rfl <;> rfl
 go_enter Tryz.func48,Tryz.ntmps48
 go_wp2_with fail
 go_region_held3 (fun w'=>w'.cell? ⟨w.heap.size,0,none⟩=some (.int .u32 x0)∧w'.cell? ⟨w.heap.size,1,none⟩=some (.int .u32 x1)∧w'.cell? ⟨w.heap.size,2,none⟩=some (.bool x2)∧w'.cell? ⟨w.heap.size+1,0,none⟩=some (.int .u32 y0)∧w'.cell? ⟨w.heap.size+1,1,none⟩=some (.int .u32 y1)∧w'.cell? ⟨w.heap.size+1,2,none⟩=some (.bool y2)) (go_keep) (first
  | (go_at_call 89;refine (Qd6 _ _ _).mono ?_;rintro e w1 ⟨rfl,rfl⟩)
  | (go_at_call 90;refine (H1.out _).mono ?_;rintro e w1 ⟨rfl,rfl⟩)
  | (go_at_call 90;refine (H2.out _).mono ?_;rintro e w1 ⟨rfl,rfl⟩)
  | (go_at_call 88;refine (Qjr _ _ _ _ _ z HE.out _ (by simp [go_sem]) (by simp [go_sem]) (by simp [go_sem])).mono ?_;rintro e w5 ⟨rfl,rfl⟩))
 go_wp2_with fail
 go_ret
 exact⟨rfl,((((Touch.refl _ w).alloc _).alloc _).alloc _).drew⟩
theorem Qiw {cs:List Value} (h:∀v∈cs,v.oneCell'=true):cs.toArray.all (·.oneCell')=true:=Array.all_eq_true_iff_forall_mem.2 (fun v hv=>h v (by simpa using hv))
def Row (w:World) (g:Nat) (T:TypeId) (xs:List Value):Prop:=w.heap[g]?=some (.cells xs.toArray T (0,0))
theorem Row.cell {w:World} {g:Nat} {T:TypeId} {xs:List Value} (h:Row w g T xs) (j:Nat):w.cell? ⟨g,j,none⟩=xs[j]?:=by
 rw [cell_of_row w g j _ T _ h]
 simp
theorem Row.frozen {w:World} {g:Nat} {T:TypeId} {xs:List Value} (h:Row w g T xs) (j:Nat):w.frozen? ⟨g,j,none⟩=false:=frozen_of_row w g j _ T h
theorem Row.set {w:World} {g:Nat} {T:TypeId} {xs:List Value} (h:Row w g T xs) (j:Nat) (u:Value):Row (w.setCell ⟨g,j,none⟩ u) g T (xs.set j u):=by
 unfold Row at *
 rw [heap_setCell_same w g j _ T u h]
 simp
theorem Row.keep {w w':World} {g:Nat} {T:TypeId} {xs:List Value} (h:Row w g T xs) (t:Touch (fun _=>False) w w'):Row w' g T xs:=t.heapN h
theorem Row.other {w:World} {g:Nat} {T:TypeId} {xs:List Value} (h:Row w g T xs) {p:Addr} (hp:g≠p.block) (u:Value):Row (w.setCell p u) g T xs:=(heap_setCell_other w p g u hp).trans h
theorem Row.lt {w:World} {g:Nat} {T:TypeId} {xs:List Value} (h:Row w g T xs):g<w.heap.size:=Qat h
theorem Row.setRow {w:World} {g:Nat} {T:TypeId} {xs:List Value} (h:Row w g T xs) (cs:Array Value):Row (w.setRow g cs) g T cs.toList:=by
 unfold Row at *
 rw [setRow_heap w g _ cs T _ h]
theorem Qac (w:World) (T:TypeId) (C:Array Value):Row (w.alloc (.cells C T)) w.heap.size T C.toList:=by
 unfold Row
 show (w.heap.push _)[w.heap.size]?=_
 simp
def cellsG {α:Type} (cs:α→List Value) (l:List α):List Value:=l.flatMap cs
section
variable {α:Type} {cs:α→List Value} {k:Nat}
theorem Qaq (l l':List α):cellsG cs (l++l')=cellsG cs l++cellsG cs l':=List.flatMap_append
theorem Qai (hk:∀x,(cs x).length=k) (l:List α):(cellsG cs l).length=l.length*k:=by
 induction l with
 | nil=>simp [cellsG]
 | cons a l ih =>
  have e:cellsG cs (a::l)=cs a++cellsG cs l:=rfl
  rw [e,List.length_append,ih,hk]
  simp [Nat.add_mul]
  omega
theorem Qa0 (hk:∀x,(cs x).length=k):∀(l:List α) (i c:Nat),c<k→(cellsG cs l)[i*k+c]?=(l[i]?).bind (fun e=>(cs e)[c]?)
 | [],i,c,h=>by simp [cellsG]
 | e::l,0,c,h=>by
  have e1:cellsG cs (e::l)=cs e++cellsG cs l:=rfl
  rw [e1,List.getElem?_append_left (by rw [hk];omega)]
  simp
 | e::l,i+1,c,h=>by
  have e1:cellsG cs (e::l)=cs e++cellsG cs l:=rfl
  have e2:(i+1)*k=i*k+k:=by rw [Nat.add_mul,Nat.one_mul]
  rw [e1,List.getElem?_append_right (by rw [hk,e2];omega)]
  have e3:(i+1)*k+c-(cs e).length=i*k+c:=by rw [hk,e2];omega
  rw [e3,Qa0 hk l i c h]
  simp
theorem Qje (hk:∀x,(cs x).length=k) (l:List α) (i c:Nat) (hc:c<k) (x y:α) (hi:l[i]?=some x) (u:Value) (hy:cs y=(cs x).set c u):cellsG cs (l.set i y)=(cellsG cs l).set (i*k+c) u:=by
 apply List.ext_getElem?
 intro j
 have hil:=(List.getElem?_eq_some_iff.1 hi).1
 have hk0:0<k:=by omega
 have hj:j=j/k*k+j%k:=by rw [Nat.mul_comm];exact (Nat.div_add_mod j k).symm
 have h3:j%k<k:=Nat.mod_lt _ hk0
 generalize j/k=q at hj
 generalize j%k=d at hj h3
 subst hj
 rw [Qa0 hk _ _ _ h3]
 simp only [List.getElem?_set,Qai hk]
 by_cases hq:i=q
 ·subst hq
  rw [if_pos rfl,if_pos hil]
  have hlt:i*k+k≤l.length*k:=by
   have:=Nat.mul_le_mul_right k (show i+1≤l.length by omega)
   rw [Nat.add_mul,Nat.one_mul] at this
   exact this
  by_cases hd:c=d
  ·subst hd
   rw [if_pos rfl,if_pos (by omega)]
   simp [hy,hk,hc]
  ·rw [if_neg (by omega),Qa0 hk _ _ _ h3,hi]
   simp [hy,hd]
 ·rw [if_neg hq,if_neg ?_,Qa0 hk _ _ _ h3]
  intro e
  rcases Nat.lt_or_gt_of_ne hq with h|h
  ·have:=Nat.mul_le_mul_right k (show i+1≤q by omega)
   rw [Nat.add_mul,Nat.one_mul] at this
   omega
  ·have:=Nat.mul_le_mul_right k (show q+1≤i by omega)
   rw [Nat.add_mul,Nat.one_mul] at this
   omega
theorem Qe7 (hk:∀x,(cs x).length=k) (l:List α) (n:Nat):cellsG cs (l.take n)=(cellsG cs l).take (n*k):=by
 rcases Nat.lt_or_ge l.length n with h|h
 ·rw [List.take_of_length_le (by omega),List.take_of_length_le (by rw [Qai hk];exact Nat.mul_le_mul_right k (by omega))]
 ·have e:=congrArg (cellsG cs) (List.take_append_drop n l)
  rw [Qaq] at e
  rw [←e,List.take_append_of_le_length (by rw [Qai hk];simp [Nat.min_eq_left h])]
  exact (List.take_of_length_le (by rw [Qai hk];simp [Nat.min_eq_left h])).symm
end
def RG {α:Type} (cs:α→List Value) (k T:Nat) (B:Nat) (w:World) (v:Value) (l:List α):Prop:=w.ownsRow B T k v l.length (cellsG cs l)
section
variable {α:Type} {cs:α→List Value} {k T B:Nat} {w w':World} {v:Value} {l:List α}
theorem RG.keep {F:Nat→Prop} (h:RG cs k T B w v l) (t:Touch F w w') (hn:∀j,v.ownBlock=some j→¬F j):RG cs k T B w' v l:=Qab h t hn
theorem RG.keepN (h:RG cs k T B w v l) (t:Touch (fun _=>False) w w'):RG cs k T B w' v l:=Qab h t (fun _ _ h=>h)
theorem RG.form (h:RG cs k T B w v l) (hl:0<l.length):∃g cap,v=.slice (some ⟨g,0,none⟩) l.length cap∧l.length≤cap∧g<w.heap.size∧B≤g:=by
 obtain⟨h1,h2|⟨g,cap,cur,hv,hb,hh,hc,_⟩⟩:=h
 ·omega
 ·exact⟨g,cap,hv,hc,Qat hh,hb⟩
theorem RG.shape (h:RG cs k T B w v l):∃a cap,v=.slice a l.length cap:=by
 obtain⟨h1,⟨h2,h3⟩|⟨g,cap,cur,hv,_⟩⟩:=h
 ·exact⟨none,0,by rw [h2,h3]⟩
 ·exact⟨_,_,hv⟩
theorem RG.lt (h:RG cs k T B w v l) {g:Nat} (hg:v.ownBlock=some g):g<w.heap.size:=(World.ownsRow.lt h g hg).2
theorem RG.ge (h:RG cs k T B w v l) {g:Nat} (hg:v.ownBlock=some g):B≤g:=(World.ownsRow.lt h g hg).1
theorem RG.cell (hk:∀x,(cs x).length=k) {g c n:Nat} (h:RG cs k T B w (.slice (some ⟨g,0,none⟩) n c) l) {i d:Nat} {x:α} {u:Value} (hi:l[i]?=some x) (hd:(cs x)[d]?=some u):w.cell? ⟨g,i*k+d,none⟩=some u:=by
 have hdk:d<k:=by rw [←hk x];exact (List.getElem?_eq_some_iff.1 hd).1
 have:=World.ownsRow.cells h (g:=g) rfl (i*k+d) u (by rw [Qa0 hk _ _ _ hdk,hi];exact hd)
 rw [Qae,Nat.zero_add] at this
 exact this
theorem RG.fz {g c n:Nat} (h:RG cs k T B w (.slice (some ⟨g,0,none⟩) n c) l) (j:Nat):w.frozen? ⟨g,j,none⟩=false:=by
 obtain⟨h1,⟨h2,h3⟩|⟨g',cap,cur,hv,_,hh,_⟩⟩:=h
 ·cases h2
 ·cases hv
  exact frozen_of_row w g j _ _ hh
theorem RG.set1 (hk:∀x,(cs x).length=k) {g c n:Nat} (h:RG cs k T B w (.slice (some ⟨g,0,none⟩) n c) l) {i d:Nat} (hd:d<k) {x y:α} (hi:l[i]?=some x) {u:Value} (hy:cs y=(cs x).set d u) :
  RG cs k T B (w.setCell ⟨g,i*k+d,none⟩ u) (.slice (some ⟨g,0,none⟩) n c) (l.set i y):=by
 obtain⟨h1,⟨h2,h3⟩|⟨g',cap,cur,hv,hg,hh,hn,hm,hs,hx⟩⟩:=h
 ·cases h2
 ·have R:Row w g' T cur.toList:=by unfold Row;simpa using hh
  cases hv
  have R1:=R.set (i*k+d) u
  refine⟨Qai hk _,Or.inr ⟨g,c,_,by simp,hg,R1,by simpa using hn,hm,by simpa using hs,?_⟩⟩
  rw [Qje hk l i d hd x y hi u hy,←hx,List.length_set]
  simp only [List.take_set]
theorem RG.cut (hk:∀x,(cs x).length=k) {g c n:Nat} (h:RG cs k T B w (.slice (some ⟨g,0,none⟩) n c) l) {m:Nat} (hm:m≤l.length):RG cs k T B w (.slice (some ⟨g,0,none⟩) m c) (l.take m):=by
 obtain⟨h1,⟨h2,h3⟩|⟨g',cap,cur,hv,hg,hh,hn,hm',hs,hx⟩⟩:=h
 ·cases h2
 ·cases hv
  have e:(l.take m).length=m:=by simp;omega
  refine⟨Qai hk _,Or.inr ⟨g,c,cur,by rw [e],hg,hh,by omega,hm',hs,?_⟩⟩
  rw [e,Qe7 hk,←hx,List.take_take,Nat.min_eq_left (Nat.mul_le_mul_right k hm)]
end
def Sp.cs (s:Sp):List Value:=[.int .i64 s.node,.int .u32 s.cost,.int .u32 s.h.out,.int .u32 s.h.via,.bool s.h.vr]
def Sp.v (s:Sp):Value:=.agg #[.int .i64 s.node,.int .u32 s.cost,.int .u32 s.h.out,.int .u32 s.h.via,.bool s.h.vr]
theorem Sp.len (s:Sp):s.cs.length=5:=rfl
theorem HK.len (s:HK):s.cs.length=3:=rfl
abbrev RS (B:Nat) (w:World) (v:Value) (l:List Sp):Prop:=RG Sp.cs 5 154 B w v l
abbrev RH (B:Nat) (w:World) (v:Value) (l:List HK):Prop:=RG HK.cs 3 48 B w v l
theorem RS.cells {B:Nat} {w:World} {g c n:Nat} {l:List Sp} (h:RS B w (.slice (some ⟨g,0,none⟩) n c) l) {i:Nat} {x:Sp} (hi:l[i]?=some x) :
  w.cell? ⟨g,i*5,none⟩=some (.int .i64 x.node)∧w.cell? ⟨g,i*5+1,none⟩=some (.int .u32 x.cost)∧w.cell? ⟨g,i*5+2,none⟩=some (.int .u32 x.h.out)∧w.cell? ⟨g,i*5+3,none⟩=some (.int .u32 x.h.via)∧w.cell? ⟨g,i*5+4,none⟩=some (.bool x.h.vr) :=
 ⟨RG.cell (d:=0) Sp.len h hi rfl,RG.cell (d:=1) Sp.len h hi rfl,RG.cell (d:=2) Sp.len h hi rfl,RG.cell (d:=3) Sp.len h hi rfl,RG.cell (d:=4) Sp.len h hi rfl⟩
theorem Qf5 {α:Type} {l:List α} {i:Nat} (hi:i<l.length) (y:α):(l.set i y)[i]?=some y:=by simp [hi]
theorem RS.set {B:Nat} {w:World} {g c n:Nat} {l:List Sp} (h:RS B w (.slice (some ⟨g,0,none⟩) n c) l) {i:Nat} (hi:i<l.length) (e:Sp) :
  RS B (((((w.setCell ⟨g,i*5,none⟩ (.int .i64 e.node)).setCell ⟨g,i*5+1,none⟩ (.int .u32 e.cost)).setCell ⟨g,i*5+2,none⟩ (.int .u32 e.h.out)).setCell ⟨g,i*5+3,none⟩ (.int .u32 e.h.via)).setCell ⟨g,i*5+4,none⟩ (.bool e.h.vr)) (.slice (some ⟨g,0,none⟩) n c) (l.set i e):=by
 obtain⟨x,hx⟩:∃x,l[i]?=some x:=⟨_,List.getElem?_eq_getElem hi⟩
 obtain⟨x0,x1,x2,x3,x4⟩:=x
 obtain⟨e0,e1,e2,e3,e4⟩:=e
 have h0:=RG.set1 Sp.len h (d:=0) (y:=⟨e0,x1,x2,x3,x4⟩) (by omega) hx (u:=.int .i64 e0) rfl
 have h1:=RG.set1 Sp.len h0 (d:=1) (y:=⟨e0,e1,x2,x3,x4⟩) (by omega) (Qf5 hi _) (u:=.int .u32 e1) rfl
 rw [List.set_set] at h1
 have h2:=RG.set1 Sp.len h1 (d:=2) (y:=⟨e0,e1,e2,x3,x4⟩) (by omega) (Qf5 hi _) (u:=.int .u32 e2) rfl
 rw [List.set_set] at h2
 have h3:=RG.set1 Sp.len h2 (d:=3) (y:=⟨e0,e1,e2,e3,x4⟩) (by omega) (Qf5 hi _) (u:=.int .u32 e3) rfl
 rw [List.set_set] at h3
 have h4:=RG.set1 Sp.len h3 (d:=4) (y:=⟨e0,e1,e2,e3,e4⟩) (by omega) (Qf5 hi _) (u:=.bool e4) rfl
 rw [List.set_set] at h4
 exact h4
structure LS (w:World) (b:Nat) (v:Value) (B:Nat) (l:List Sp):Prop where
 c0:w.cell? ⟨b,0,none⟩=some v
 f0:w.frozen? ⟨b,0,none⟩=false
 re:RS B w v l
 bv:v.ownBlock≠some b
 hl:l.length≤1099511627776
theorem LS.lt {w:World} {b:Nat} {v:Value} {B:Nat} {l:List Sp} (h:LS w b v B l):b<w.heap.size:=Qaa h.c0
theorem LS.keep {w w':World} {b:Nat} {v:Value} {B:Nat} {l:List Sp} (h:LS w b v B l) (t:Touch (fun _=>False) w w'):LS w' b v B l :=
 ⟨t.cellN h.c0,(t.frozen h.lt (fun h=>h)).trans h.f0,h.re.keepN t,h.bv,h.hl⟩
def ltB (x y:Sp):Bool:=decide (x.cost<y.cost∨x.cost=y.cost∧cH x.h y.h<0)
theorem Qde {x y:Sp} (h:x.lt y):ltB x y=true:=decide_eq_true (h.imp id (fun e=>⟨e.1,(Qf2 _ _).2 e.2⟩))
theorem Qct {x y:Sp} (h:¬x.lt y):ltB x y=false:=decide_eq_false (fun e=>h (e.imp id (fun e=>⟨e.1,(Qf2 _ _).1 e.2⟩)))
theorem Qha {a b:Bool} (h:a=b):Ending.returned (.bool a)=.returned (.bool b):=by rw [h]
theorem Qqk (w:World) (a:Option Addr) (n cap:Nat) :
  Calls Tryz.prog 61 #[.slice a n cap] w fun e w'=>e=.returned (.int .i64 n)∧w=w':=by
 go_enter Tryz.func61,Tryz.ntmps61
 go_wp2
 go_ret
 exact⟨rfl,rfl⟩
theorem Qlb (w:World) (g n c:Nat) (i j:Nat) (x y:Sp) (hi:i<n) (hj:j<n)
  (x1:w.cell? ⟨g,i*5+1,none⟩=some (.int .u32 x.cost)) (x2:w.cell? ⟨g,i*5+2,none⟩=some (.int .u32 x.h.out)) (x3:w.cell? ⟨g,i*5+3,none⟩=some (.int .u32 x.h.via)) (x4:w.cell? ⟨g,i*5+4,none⟩=some (.bool x.h.vr))
  (y1:w.cell? ⟨g,j*5+1,none⟩=some (.int .u32 y.cost)) (y2:w.cell? ⟨g,j*5+2,none⟩=some (.int .u32 y.h.out)) (y3:w.cell? ⟨g,j*5+3,none⟩=some (.int .u32 y.h.via)) (y4:w.cell? ⟨g,j*5+4,none⟩=some (.bool y.h.vr)) (z:Bool) (hz:z=ltB x y) :
  Calls Tryz.prog 270 #[.slice (some ⟨g,0,none⟩) n c,.int .i64 i,.int .i64 j] w fun e w'=>e=.returned (.bool z)∧Touch (fun _=>False) w w':=by
 have i0:(0:Int)≤(i:Int):=by omega
 have i1:(i:Int)<(n:Int):=by omega
 have j0:(0:Int)≤(j:Int):=by omega
 have j1:(j:Int)<(n:Int):=by omega
 obtain⟨xn,xc,xh⟩:=x
 obtain⟨yn,yc,yh⟩:=y
 simp only at x1 x2 x3 x4 y1 y2 y3 y4
 by_cases hc:xc=yc
 ·subst hc
  have hzz:Hid (decide (cH xh yh<0)=z):=by
   rw [hz]
   exact decide_eq_decide.2 ⟨fun h=>Or.inr ⟨rfl,h⟩,fun h=>h.elim (fun h=>(Int.lt_irrefl _ h).elim) (fun h=>h.2)⟩
  clear hz
  have HC:Hid _:=Qr0 xh yh
  go_enter Tryz.func270,Tryz.ntmps270
  go_wp2_with fail
  go_region
  go_wp2_with fail
  go_region_with ((go_at_call 48;refine Calls.mono (HC.out _) ?_;rintro e wx ⟨rfl,tx⟩))
  all_goals (go_wp2_with fail;go_ret;exact⟨Qha hzz.out,((Touch.refl _ _).drew.drew).trans tx⟩)
 ·have hzz:Hid (decide (xc<yc)=z):=by
   rw [hz]
   exact decide_eq_decide.2 ⟨Or.inl,fun h=>h.elim id (fun h=>(hc h.1).elim)⟩
  clear hz
  go_enter Tryz.func270,Tryz.ntmps270
  go_wp2_with fail
  go_region
  go_wp2_with fail
  go_region
  go_wp2_with fail
  go_ret
  exact⟨Qha hzz.out,(Touch.refl _ _).drew.drew⟩
theorem Qbq (w:World) (b:Nat) (v:Value) (B:Nat) (l:List Sp) (P:LS w b v B l) (i j:Nat) (x y:Int) (hx:x=(i:Int)) (hy:y=(j:Int)) (hi:i<l.length) (hj:j<l.length) (z:Bool) (hz:ltB (gt l i) (gt l j)=z) :
  Calls Tryz.prog 270 #[v,.int .i64 x,.int .i64 y] w fun e w'=>e=.returned (.bool z)∧Touch (fun _=>False) w w':=by
 subst hx;subst hy
 obtain⟨g,cap,rfl,hcap,hg,-⟩:=P.re.form (by omega)
 obtain⟨-,x1,x2,x3,x4⟩:=RS.cells P.re (Qd5 hi)
 obtain⟨-,y1,y2,y3,y4⟩:=RS.cells P.re (Qd5 hj)
 exact Qlb w g l.length cap i j _ _ hi hj x1 x2 x3 x4 y1 y2 y3 y4 z hz.symm
theorem tset1 {g:Nat} {a w:World} (h:Touch (fun k=>k=g) a w) (o:Nat) (u:Value):Touch (fun k=>k=g) a (w.setCell ⟨g,o,none⟩ u):=Touch.setCell h (p:=⟨g,o,none⟩) (Or.inl rfl) u
theorem tset5 {g:Nat} {a w:World} (h:Touch (fun k=>k=g) a w) (i:Nat) (e:Sp):Touch (fun k=>k=g) a (((((w.setCell ⟨g,i*5,none⟩ (.int .i64 e.node)).setCell ⟨g,i*5+1,none⟩ (.int .u32 e.cost)).setCell ⟨g,i*5+2,none⟩ (.int .u32 e.h.out)).setCell ⟨g,i*5+3,none⟩ (.int .u32 e.h.via)).setCell ⟨g,i*5+4,none⟩ (.bool e.h.vr)) :=
 tset1 (tset1 (tset1 (tset1 (tset1 h _ _) _ _) _ _) _ _) _ _
structure SwP (w:World) (b:Nat) (v:Value) (B:Nat) (l:List Sp) (i j:Nat) (e:Ending) (w':World):Prop where
 e:e=.returned (.tuple #[])
 ps:LS w' b v B (sw l i j)
 t:Touch (fun k=>v.ownBlock=some k) w w'
theorem Qdv (w:World) (b:Nat) (v:Value) (B:Nat) (l:List Sp) (P:LS w b v B l) (i j:Nat) (x y:Int) (hx:x=(i:Int)) (hy:y=(j:Int)) (hi:i<l.length) (hj:j<l.length) :
  Calls Tryz.prog 273 #[v,.int .i64 x,.int .i64 y] w (SwP w b v B l i j):=by
 subst hx;subst hy
 obtain⟨c0,f0,re,bv,hl⟩:=P
 obtain⟨g,cap,rfl,hcap,hg,-⟩:=re.form (by omega)
 have hbg:b≠g:=fun e=>bv (by subst e;rfl)
 obtain⟨x0,x1,x2,x3,x4⟩:=RS.cells re (Qd5 hi)
 obtain⟨y0,y1,y2,y3,y4⟩:=RS.cells re (Qd5 hj)
 have hf:=re.fz
 have FIN:Hid (∀w',Touch (fun k=>k=g) w w'→RS B w' (.slice (some ⟨g,0,none⟩) l.length cap) ((l.set i (gt l j)).set j (gt l i))→SwP w b (.slice (some ⟨g,0,none⟩) l.length cap) B l i j (.returned (.tuple #[])) w'):=by
  intro w' t r
  have hb:=Qaa c0
  exact⟨rfl,⟨(t.cell (p:=⟨b,0,none⟩) hb hbg).trans c0,(t.frozen (p:=⟨b,0,none⟩) hb hbg).trans f0,r,bv,by rw [Qid];exact hl⟩,t.mono (fun k _ e=>by rw [e];rfl)⟩
 have RE0:Hid (RS B w (.slice (some ⟨g,0,none⟩) l.length cap) l):=re
 have i0:(0:Int)≤(i:Int):=by omega
 have i1:(i:Int)<(l.length:Int):=by omega
 have j0:(0:Int)≤(j:Int):=by omega
 have j1:(j:Int)<(l.length:Int):=by omega
 have HI:Hid (i<l.length):=hi
 have HJ:Hid (j<l.length):=hj
 clear re c0 f0 bv hl hcap hi hj
 by_cases hij:i=j
 ·subst hij
  clear y0 y1 y2 y3 y4 j0 j1
  generalize gt l i=x at *
  generalize hL:l.length=L at *
  have HLn:Hid _:=hL
  clear hL
  have RF:=RS.set (RS.set RE0.out (i:=i) (by have:=HLn.out;have:=HI.out;omega) x) (i:=i) (by rw [List.length_set];have:=HLn.out;have:=HI.out;omega) x
  have TF:=tset5 (tset5 (Touch.refl (fun k=>k=g) w) i x) i x
  have HF0:=FIN.out _ TF.drew (RG.keepN RF ((Touch.refl _ _).drew))
  clear RF TF
  obtain⟨xn,xc,xo,xv,xr⟩:=x
  simp only at x0 x1 x2 x3 x4 HF0
  have HF:Hid _:=HF0
  clear HF0
  go_enter Tryz.func273,Tryz.ntmps273
  go_region
  all_goals go_wp2_with fail
  all_goals exact bodyPost_end (results_none rfl _ _ _) rfl HF.out
 ·have hji:¬j=i:=fun e=>hij e.symm
  generalize gt l i=x at *
  generalize gt l j=y at *
  generalize hL:l.length=L at *
  have HLn:Hid _:=hL
  clear hL
  have RF:=RS.set (RS.set RE0.out (i:=i) (by have:=HLn.out;have:=HI.out;omega) y) (i:=j) (by rw [List.length_set];have:=HLn.out;have:=HJ.out;omega) x
  have TF:=tset5 (tset5 (Touch.refl (fun k=>k=g) w) i y) j x
  have HF0:=FIN.out _ TF.drew (RG.keepN RF ((Touch.refl _ _).drew))
  clear RF TF
  obtain⟨xn,xc,xo,xv,xr⟩:=x
  obtain⟨yn,yc,yo,yv,yr⟩:=y
  simp only at x0 x1 x2 x3 x4 y0 y1 y2 y3 y4 HF0
  have HF:Hid _:=HF0
  clear HF0
  go_enter Tryz.func273,Tryz.ntmps273
  go_region
  all_goals go_wp2_with fail
  all_goals exact bodyPost_end (results_none rfl _ _ _) rfl HF.out
theorem Qs9 (a:Addr) (s m:String) (ts:Array TypeId) (t:TypeId):Builtin.ssaWrapNilChk_ ts t #[.pointer (some a),strVal s,strVal m]=pure (.pointer (some a)):=rfl
theorem Qfj (name:String) (f:FuncId) (h2:(Tryz.prog.info? 211).map (fun i=>(i.methods.find? (·.name==name)).map (fun m=>(m.path.toList,m.func)))=some (some ([],some (f,false)))) (b:Nat) (v:Value) (w:World) (h:w.cell? ⟨b,0,none⟩=some v) :
  Sem.run Tryz.prog (method 472 211 (.pointer (some ⟨b,0,none⟩)) name) w=.ok (f,v) w:=by
 have h1:Sem.run Tryz.prog (loadVar 147 ⟨b,0,none⟩) w=.ok v w:=by
  simp [loadVar,go_sem,h]
 have h3:Tryz.prog.underlying 211=some (.pointer 147):=by kernel_rfl
 cases hi:Tryz.prog.info? 211 with
 | none=>rw [hi] at h2;cases h2
 | some i =>
  rw [hi] at h2
  cases hm:i.methods.find? (·.name==name) with
  | none=>simp [hm] at h2
  | some m =>
   simp [hm] at h2
   obtain⟨hp,hf⟩:=h2
   unfold method
   simp [go_sem,typeInfo,hi,hm,hp,hf,follow,receiverAt,h3,Place.get,underlying,Qs9,asAddr,h]
theorem Qcf (b : Nat) (v : Value) (w : World) (h : w.cell? ⟨b, 0, none⟩ = some v) : Sem.run Tryz.prog (method 472 211 (.pointer (some ⟨b, 0, none⟩)) "Less") w = .ok (270, v) w := Qfj _ _ (by kernel_rfl) b v w h
theorem Qjq (b : Nat) (v : Value) (w : World) (h : w.cell? ⟨b, 0, none⟩ = some v) : Sem.run Tryz.prog (method 472 211 (.pointer (some ⟨b, 0, none⟩)) "Len") w = .ok (61, v) w := Qfj _ _ (by kernel_rfl) b v w h
theorem Qcu (b : Nat) (v : Value) (w : World) (h : w.cell? ⟨b, 0, none⟩ = some v) : Sem.run Tryz.prog (method 472 211 (.pointer (some ⟨b, 0, none⟩)) "Swap") w = .ok (273, v) w := Qfj _ _ (by kernel_rfl) b v w h
structure Laid (w:World) (b:Nat) (v:Value) (B:Nat) (l:List Sp) (N:Nat) (w':World) (l':List Sp):Prop where
 ps:LS w' b v B l'
 perm:l'.Perm l
 far:∀k,N≤k→gt l' k=gt l k
 t:Touch (fun k=>v.ownBlock=some k) w w'
theorem Laid.start {w:World} {b:Nat} {v:Value} {B:Nat} {l:List Sp} (h:LS w b v B l) (N:Nat):Laid w b v B l N w l:=⟨h,List.Perm.refl _,fun _ _=>rfl,Touch.refl _ _⟩
theorem Laid.len {w:World} {b:Nat} {v:Value} {B:Nat} {l:List Sp} {N:Nat} {w':World} {l':List Sp} (h:Laid w b v B l N w' l'):l'.length=l.length:=h.perm.length_eq
theorem Laid.keep {w:World} {b:Nat} {v:Value} {B:Nat} {l:List Sp} {N:Nat} {w' w'':World} {l':List Sp} (h:Laid w b v B l N w' l') (t:Touch (fun _=>False) w' w''):Laid w b v B l N w'' l' :=
 ⟨h.ps.keep t,h.perm,h.far,h.t.trans (t.mono (fun _ _ h=>h.elim))⟩
theorem Laid.swap {w:World} {b:Nat} {v:Value} {B:Nat} {l:List Sp} {N:Nat} {w' w'':World} {l':List Sp} (h:Laid w b v B l N w' l') {i j:Nat} (hi:i<l.length) (hj:j<l.length) (iN:i<N) (jN:j<N) {e:Ending}
  (s:SwP w' b v B l' i j e w''):Laid w b v B l N w'' (sw l' i j):=by
 obtain⟨_,ps,t⟩:=s
 have hi':i<l'.length:=by rw [h.len];exact hi
 have hj':j<l'.length:=by rw [h.len];exact hj
 refine⟨ps,(Qns hi' hj').trans h.perm,fun k kn=>?_,h.t.trans t⟩
 rw [Qjd hi' hj',if_neg (by omega),if_neg (by omega)]
 exact h.far k kn
structure UpR (w:World) (b:Nat) (v:Value) (B:Nat) (l:List Sp) (N:Nat) (w':World) (t:Nat):Prop where
 out:∃l',Laid w b v B l N w' l'∧t<N∧UpI N (gt l') t
structure HpP (w:World) (b:Nat) (v:Value) (B:Nat) (l:List Sp) (N:Nat) (e:Ending) (w':World):Prop where
 e:e=.returned (.tuple #[])
 out:∃l',Laid w b v B l N w' l'∧HP N (gt l')
theorem Qwg (w:World) (b:Nat) (v:Value) (B:Nat) (l:List Sp) (P:LS w b v B l) (N:Nat) (hN:N≤l.length) (j:Nat) (x:Int) (hx:x=(j:Int)) (hj:j<N) (U:UpI N (gt l) j) :
  Calls Tryz.prog 184 #[.iface 211 (.pointer (some ⟨b,0,none⟩)),.int .i64 x] w (HpP w b v B l N):=by
 subst hx
 have hl:=P.hl
 have R0:UpR w b v B l N w j:=⟨l,Laid.start P N,hj,U⟩
 have HR:Hid _:=R0
 have HL:Hid (l.length≤1099511627776):=hl
 have HN:Hid (N≤l.length):=hN
 clear P U hl hN R0 hj
 go_enter Tryz.func184,Tryz.ntmps184
 go_wp2_with fail
 go_loopw [1] (fun s1 wx=>∃t:Nat,s1=.int .i64 t∧UpR w b v B l N wx t) (fun s1 _=>(intOf s1).toNat)
 case atStart=>exact⟨j,rfl,HR.out⟩
 case round =>
  clear HR
  obtain⟨t,rfl,⟨l',L,ht,U⟩⟩:=hrel
  have hlt:t≤1099511627776:=by have:=HL.out;have:=HN.out;omega
  by_cases h0:t=0
  ·subst h0
   go_wp2_with fail
   exact bodyPost_end (results_none rfl _ _ _) rfl ⟨rfl,l',L,Qou U (Or.inl rfl)⟩
  ·have e1:((t:Int)-1)/2=(((t-1)/2:Nat):Int):=by omega
   have hp:(t-1)/2<t:=by omega
   have t1:(1:Int)≤(t:Int):=by omega
   have h00:0<t:=by omega
   have HS:Hid (∀g':Nat→Sp,(gt l' t).lt (gt l' ((t-1)/2))→(∀k,g' k=if k=t then gt l' ((t-1)/2) else if k=(t-1)/2 then gt l' t else gt l' k)→UpI N g' ((t-1)/2)):=fun g' a b=>Qt0 U ht h00 a b
   have HE:Hid ((gt l' ((t-1)/2)).le (gt l' t)→HP N (gt l')):=fun a=>Qou U (Or.inr a)
   generalize (t-1)/2=p at *
   have hne:¬(p:Int)=(t:Int):=by omega
   have hpl:p<l'.length:=by have:=L.len;have:=HN.out;omega
   have htl:t<l'.length:=by have:=L.len;have:=HN.out;omega
   have m1:=Qcf b v wr L.ps.c0
   have HT:Hid (t<N):=ht
   have LL:Hid _:=L
   clear U ht L h0 h00
   by_cases hb':(gt l' t).lt (gt l' p)
   ·have HpB:Hid _:=hb'
    clear hb'
    go_wp2_with ((go_at_call 270;refine Calls.mono (Qbq wr b v B l' LL.out.ps t p _ _ rfl rfl htl hpl true (Qde HpB.out)) ?_;rintro e wx ⟨rfl,tx⟩;have m2:=Qcu b v wx (LL.out.keep tx).ps.c0))
    have LX:=LL.out.keep tx
    refine Calls.mono (Qdv wx b v B l' LX.ps p t _ _ rfl rfl hpl htl) ?_
    rintro e wy sy
    have es:=sy.e
    subst es
    have LY:=LX.swap (by have:=LX.len;omega) (by have:=LX.len;omega) (by have:=HT.out;omega) HT.out sy
    have UY:UpI N (gt (sw l' p t)) p:=HS.out _ HpB.out (fun k=>Qjd hpl htl k)
    clear sy m1 m2
    have LZ:Hid _:=LY
    clear LY LX
    go_wp2_with fail
    go_roundw
    case rel=>exact⟨p,rfl,⟨_,LZ.out,by have:=HT.out;omega,UY⟩⟩
    case measure=>simp [intOf];omega
   ·have HpB:Hid _:=HE.out hb'
    have HZ:Hid _:=Qct hb'
    clear hb'
    go_wp2_with ((go_at_call 270;refine Calls.mono (Qbq wr b v B l' LL.out.ps t p _ _ rfl rfl htl hpl false HZ.out) ?_;rintro e wx ⟨rfl,tx⟩))
    exact bodyPost_end (results_none rfl _ _ _) rfl ⟨rfl,l',LL.out.keep tx,HpB.out⟩
end Go.Proofs.YtddbffoiadmffaaGreat
