import Derived.Test.YtldmkoogghemhaaGreatParts
import Derived.Sort.Grow
import Derived.Test.YtldmkoogghemhaaGreatRows
import Derived.Laws.BitsAllLaws
import Derived.Deep.RegionHeld3
import Derived.Laws.Rows
import Derived.Laws.Tables
import Derived.BigRegion
import Derived.Deep.DrawnRows
import Derived.Deep.DeepCutAuto
import Derived.Maps.AppendAt
import Derived.Deep.RegionLaw
namespace Go.Proofs.YtldmkoogghemhaaGreat
set_option maxHeartbeats 8000000
open Go.RowKit Go.Sort
set_option linter.unusedVariables false
set_option maxRecDepth 100000
structure Grs (x w:World):Prop where
 out:∃q os,w=grow (x.drewN q) os
theorem Qo4 {α:Type _} {l:List α} {i:Nat} {a:α}:l.toArray.setIfInBounds i a=(l.set i a).toArray:=List.setIfInBounds_toArray _ _ _
theorem Qo5 {α:Type _} {l:List α} {a b:α}:(a::l).set 0 b=b::l:=rfl
theorem Qo6 {α:Type _} {l:List α} {a b:α} {n:Nat}:(a::l).set (n+1) b=a::l.set n b:=rfl
theorem Qid (w:World) (q:Nat) (os:Array Obj):Touch (fun _=>False) w (grow (w.drewN q) os) :=
 ⟨rfl,rfl,rfl,by simp [grow,World.drewN],fun k hk _=>by simp only [grow,World.drewN];rw [Array.getElem?_append_left hk]⟩
theorem Grs.t {x w:World} (h:Grs x w):Touch (fun _=>False) x w:=by
 obtain⟨q,os,rfl⟩:=h.out
 exact Qid x q os
theorem Grs.trans {x w w':World} (h:Grs x w) (k:Grs w w'):Grs x w':=by
 obtain⟨q,os,rfl⟩:=h.out
 obtain⟨q',os',rfl⟩:=k.out
 exact⟨q+q',os++os',by show grow (grow ((x.drewN q).drewN q') os) os'=_;rw [grow_grow,World.drewN_drewN]⟩
theorem Grs.refl (w:World):Grs w w:=⟨0,#[],by rw [grow_empty];rfl⟩
theorem Grs.alloc {x w:World} (h:Grs x w) (o:Obj):Grs x (w.alloc o):=h.trans ⟨0,#[o],by rw [alloc_eq_grow];rfl⟩
theorem Grs.drew {x w:World} (h:Grs x w):Grs x w.drew:=h.trans ⟨1,#[],by rw [grow_empty];rfl⟩
theorem Qdh (w:World) (os:Array Obj):Touch (fun _=>False) w (grow w os) :=
 ⟨rfl,rfl,rfl,by simp [grow],fun k hk _=>by simp [grow,Array.getElem?_append_left hk]⟩
structure HK where
 out:Int
 via:Int
 vr:Bool
deriving DecidableEq
def HK0:HK:=⟨0,0,false⟩
def bz (b:Bool):Int:=if b then 1 else 0
theorem Qnu {a b:Bool} (h:bz a=bz b):a=b:=by cases a <;> cases b <;> simp_all [bz]
theorem Qc0 (a:Bool):0≤bz a∧bz a≤1:=by cases a <;> simp [bz]
def HK.lt (x y:HK):Prop:=x.out<y.out∨x.out=y.out∧(x.via<y.via∨x.via=y.via∧bz x.vr<bz y.vr)
def HK.le (x y:HK):Prop:=¬HK.lt y x
theorem HK.ext' {x y:HK} (h1:x.out=y.out) (h2:x.via=y.via) (h3:bz x.vr=bz y.vr):x=y:=by
 have:=Qnu h3
 cases x;cases y;simp_all
theorem HK.lt_of_le_ne {x y:HK} (h:x.le y) (h':x≠y):x.lt y:=by
 by_cases e:x.lt y
 ·exact e
 ·exfalso
  unfold HK.le HK.lt at *
  exact h' (HK.ext' (by omega) (by omega) (by omega))
theorem HK.lt_irrefl (x:HK):¬x.lt x:=by unfold HK.lt;omega
theorem HK.lt_trans {x y z:HK} (h:x.lt y) (h':y.lt z):x.lt z:=by unfold HK.lt at *;omega
theorem HK.lt_of_lt_of_le {x y z:HK} (h:x.lt y) (h':y.le z):x.lt z:=by unfold HK.le at h';unfold HK.lt at *;omega
structure Sp where
 node:Int
 cost:Int
 h:HK
deriving DecidableEq
open Go.RowKit
theorem Qas {k:IntKind} {a b:Int} (h:a=b):Ending.returned (.int k a)=.returned (.int k b):=by rw [h]
theorem Qad {a b:Bool} (h:a=b):Ending.returned (.bool a)=.returned (.bool b):=by rw [h]
theorem Qcy {a b:Int} {c d:Bool} (h:a=b) (h':c=d):Ending.returned (.tuple #[.int .u8 a,.bool c])=.returned (.tuple #[.int .u8 b,.bool d]):=by rw [h,h']
def cmpI (x y:Int):Int:=if x<y then -1 else if y<x then 1 else 0
theorem Qin {x y:Int} (h:x<y):cmpI x y = -1:=if_pos h
theorem Qkb {x y:Int} (h:y<x):cmpI x y=1:=by unfold cmpI;rw [if_neg (by omega),if_pos h]
theorem Qjd (x:Int):cmpI x x=0:=by unfold cmpI;rw [if_neg (by omega),if_neg (by omega)]
def yrs (a:Int):Int:=if a%32768<3600 then a%32768 else 3600
def fstI (x y:Int):Int:=if x≠0 then x else y
theorem Qja {x:Int} (y:Int) (h:x≠0):fstI x y=x:=if_pos h
def cH (x y:HK):Int:=fstI (cmpI x.out y.out) (fstI (cmpI x.via y.via) (bz x.vr-bz y.vr))
theorem Qjc (x y:HK):cH x y<0↔x.lt y:=by
 unfold cH fstI cmpI HK.lt
 have h1:=Qc0 x.vr
 have h2:=Qc0 y.vr
 constructor
 ·intro h
  split at h <;> (try split at h) <;> (try split at h) <;> (try split at h) <;> (try split at h) <;> (try split at h) <;> (try split at h) <;> (try split at h) <;> omega
 ·intro h
  split <;> (try split) <;> (try split) <;> (try split) <;> (try split) <;> (try split) <;> (try split) <;> (try split) <;> omega
def HK.cs (h:HK):List Value:=[.int .u32 h.out,.int .u32 h.via,.bool h.vr]
theorem Qe8 (b:Bool) (w:World):Calls Tryz.prog 103 #[.bool b] w fun e w'=>e=.returned (.int .i64 (bz b))∧w=w':=by
 cases b
 ·go_enter Tryz.func103,Tryz.ntmps103
  go_wp2
  go_ret
  exact⟨rfl,rfl⟩
 ·go_enter Tryz.func103,Tryz.ntmps103
  go_wp2
  go_ret
  exact⟨rfl,rfl⟩
theorem Qbp (x y:Int) (w:World):Calls Tryz.prog 51 #[.int .u32 x,.int .u32 y] w fun e w'=>e=.returned (.int .i64 (cmpI x y))∧w=w':=by
 rcases Int.lt_trichotomy x y with h|h|h
 ·have H:Hid _:=Qin h
  go_enter Tryz.func51,Tryz.ntmps51
  go_wp2
  go_ret
  exact⟨Qas H.out.symm,rfl⟩
 ·subst h
  have H:Hid _:=Qjd x
  have h1:¬x<x:=by omega
  go_enter Tryz.func51,Tryz.ntmps51
  go_wp2
  go_ret
  exact⟨Qas H.out.symm,rfl⟩
 ·have H:Hid _:=Qkb h
  have h1:¬x<y:=by omega
  go_enter Tryz.func51,Tryz.ntmps51
  go_wp2
  go_ret
  exact⟨Qas H.out.symm,rfl⟩
def OrR (x y z:Int) (k:Nat):Prop:=k≤3∧(1≤k→x=0)∧(2≤k→y=0)∧(3≤k→z=0)
theorem Qld (x y z:Int) (g c:Nat) (v:Int) (hv:v=fstI x (fstI y z)) (w:World) (h0:w.cell? ⟨g,0,none⟩=some (.int .i64 x)) (h1:w.cell? ⟨g,1,none⟩=some (.int .i64 y)) (h2:w.cell? ⟨g,2,none⟩=some (.int .i64 z)) :
  Calls Tryz.prog 50 #[.slice (some ⟨g,0,none⟩) 3 c] w fun e w'=>e=.returned (.int .i64 v)∧w=w':=by
 have HV:Hid _:=hv
 clear hv
 go_enter Tryz.func50,Tryz.ntmps50
 go_wp2
 go_loop [8] (fun i=>∃k:Nat,i=.int .i64 k∧OrR x y z k) (fun i=>3-(intOf i).toNat)
 case atStart=>exact⟨0,rfl,by unfold OrR;omega⟩
 case round =>
  obtain⟨k,rfl,hr⟩:=hrel
  have HR:Hid _:=hr
  obtain⟨hk,k1,k2,k3⟩:=hr
  rcases (by omega:k=0∨k=1∨k=2∨k=3) with rfl|rfl|rfl|rfl
  ·clear k1 k2 k3 hk
   by_cases hx:x=0
   ·subst hx
    go_wp2
    go_round
    case rel=>exact⟨1,rfl,by unfold OrR;omega⟩
    case measure=>simp [intOf]
   ·go_wp2
    go_ret
    exact⟨Qas (by rw [HV.out];exact (Qja _ hx).symm),rfl⟩
  ·have ex:=k1 (by omega)
   subst ex
   clear k1 k2 k3 hk
   by_cases hy:y=0
   ·subst hy
    go_wp2
    go_round
    case rel=>exact⟨2,rfl,by unfold OrR;omega⟩
    case measure=>simp [intOf]
   ·go_wp2
    go_ret
    exact⟨Qas (by rw [HV.out];simp [fstI,hy]),rfl⟩
  ·have ex:=k1 (by omega)
   have ey:=k2 (by omega)
   subst ex
   subst ey
   clear k1 k2 k3 hk
   by_cases hz:z=0
   ·subst hz
    go_wp2
    go_round
    case rel=>exact⟨3,rfl,by unfold OrR;omega⟩
    case measure=>simp [intOf]
   ·go_wp2
    go_ret
    exact⟨Qas (by rw [HV.out];simp [fstI]),rfl⟩
  ·have ex:=k1 (by omega)
   have ey:=k2 (by omega)
   have ez:=k3 (by omega)
   subst ex
   subst ey
   subst ez
   clear k1 k2 k3 hk
   go_wp2
   go_ret
   exact⟨Qas (by rw [HV.out];simp [fstI]),rfl⟩
theorem Qgc {cs:List Value} (h:∀v∈cs,v.oneCell'=true):cs.toArray.all (·.oneCell')=true:=Array.all_eq_true_iff_forall_mem.2 (fun v hv=>h v (by simpa using hv))
def Row (w:World) (g:Nat) (T:TypeId) (xs:List Value):Prop:=w.heap[g]?=some (.cells xs.toArray T (0,0))
theorem Row.cell {w:World} {g:Nat} {T:TypeId} {xs:List Value} (h:Row w g T xs) (j:Nat):w.cell? ⟨g,j,none⟩=xs[j]?:=by
 rw [cell_of_row w g j _ T _ h]
 simp
theorem Row.frozen {w:World} {g:Nat} {T:TypeId} {xs:List Value} (h:Row w g T xs) (j:Nat):w.frozen? ⟨g,j,none⟩=false:=frozen_of_row w g j _ T h
theorem Row.set {w:World} {g:Nat} {T:TypeId} {xs:List Value} (h:Row w g T xs) (j:Nat) (u:Value):Row (w.setCell ⟨g,j,none⟩ u) g T (xs.set j u):=by
 unfold Row at *
 rw [heap_setCell_same w g j _ T u h]
 simp
theorem Row.keep {w w':World} {g:Nat} {T:TypeId} {xs:List Value} (h:Row w g T xs) (t:Touch (fun _=>False) w w'):Row w' g T xs:=t.heapN h
theorem Row.lt {w:World} {g:Nat} {T:TypeId} {xs:List Value} (h:Row w g T xs):g<w.heap.size:=Qa7 h
theorem Row.setRow {w:World} {g:Nat} {T:TypeId} {xs:List Value} (h:Row w g T xs) (cs:Array Value):Row (w.setRow g cs) g T cs.toList:=by
 unfold Row at *
 rw [setRow_heap w g _ cs T _ h]
theorem Qac (w:World) (T:TypeId) (C:Array Value):Row (w.alloc (.cells C T)) w.heap.size T C.toList:=by
 unfold Row
 show (w.heap.push _)[w.heap.size]?=_
 simp
def cellsG {α:Type} (cs:α→List Value) (l:List α):List Value:=l.flatMap cs
section
variable {α:Type} {cs:α→List Value} {k:Nat}
theorem Qap (l l':List α):cellsG cs (l++l')=cellsG cs l++cellsG cs l':=List.flatMap_append
theorem Qat (hk:∀x,(cs x).length=k) (l:List α):(cellsG cs l).length=l.length*k:=by
 induction l with
 | nil=>simp [cellsG]
 | cons a l ih =>
  have e:cellsG cs (a::l)=cs a++cellsG cs l:=rfl
  rw [e,List.length_append,ih,hk]
  simp [Nat.add_mul]
  omega
theorem Qan (hk:∀x,(cs x).length=k):∀(l:List α) (i c:Nat),c<k→(cellsG cs l)[i*k+c]?=(l[i]?).bind (fun e=>(cs e)[c]?)
 | [],i,c,h=>by simp [cellsG]
 | e::l,0,c,h=>by
  have e1:cellsG cs (e::l)=cs e++cellsG cs l:=rfl
  rw [e1,List.getElem?_append_left (by rw [hk];omega)]
  simp
 | e::l,i+1,c,h=>by
  have e1:cellsG cs (e::l)=cs e++cellsG cs l:=rfl
  have e2:(i+1)*k=i*k+k:=by rw [Nat.add_mul,Nat.one_mul]
  rw [e1,List.getElem?_append_right (by rw [hk,e2];omega)]
  have e3:(i+1)*k+c-(cs e).length=i*k+c:=by rw [hk,e2];omega
  rw [e3,Qan hk l i c h]
  simp
theorem Qbt (hk:∀x,(cs x).length=k) (l:List α) (i c:Nat) (hc:c<k) (x y:α) (hi:l[i]?=some x) (u:Value) (hy:cs y=(cs x).set c u):cellsG cs (l.set i y)=(cellsG cs l).set (i*k+c) u:=by
 apply List.ext_getElem?
 intro j
 have hil:=(List.getElem?_eq_some_iff.1 hi).1
 have hk0:0<k:=by omega
 have hj:j=j/k*k+j%k:=by rw [Nat.mul_comm];exact (Nat.div_add_mod j k).symm
 have h3:j%k<k:=Nat.mod_lt _ hk0
 generalize j/k=q at hj
 generalize j%k=d at hj h3
 subst hj
 rw [Qan hk _ _ _ h3]
 simp only [List.getElem?_set,Qat hk]
 by_cases hq:i=q
 ·subst hq
  rw [if_pos rfl,if_pos hil]
  have hlt:i*k+k≤l.length*k:=by
   have:=Nat.mul_le_mul_right k (show i+1≤l.length by omega)
   rw [Nat.add_mul,Nat.one_mul] at this
   exact this
  by_cases hd:c=d
  ·subst hd
   rw [if_pos rfl,if_pos (by omega)]
   simp [hy,hk,hc]
  ·rw [if_neg (by omega),Qan hk _ _ _ h3,hi]
   simp [hy,hd]
 ·rw [if_neg hq,if_neg ?_,Qan hk _ _ _ h3]
  intro e
  rcases Nat.lt_or_gt_of_ne hq with h|h
  ·have:=Nat.mul_le_mul_right k (show i+1≤q by omega)
   rw [Nat.add_mul,Nat.one_mul] at this
   omega
  ·have:=Nat.mul_le_mul_right k (show q+1≤i by omega)
   rw [Nat.add_mul,Nat.one_mul] at this
   omega
end
def RG {α:Type} (cs:α→List Value) (k T:Nat) (B:Nat) (w:World) (v:Value) (l:List α):Prop:=w.ownsRow B T k v l.length (cellsG cs l)
section
variable {α:Type} {cs:α→List Value} {k T B:Nat} {w w':World} {v:Value} {l:List α}
theorem RG.keepN (h:RG cs k T B w v l) (t:Touch (fun _=>False) w w'):RG cs k T B w' v l:=Qab h t (fun _ _ h=>h)
theorem RG.form (h:RG cs k T B w v l) (hl:0<l.length):∃g cap,v=.slice (some ⟨g,0,none⟩) l.length cap∧l.length≤cap∧g<w.heap.size∧B≤g:=by
 obtain⟨h1,h2|⟨g,cap,cur,hv,hb,hh,hc,_⟩⟩:=h
 ·omega
 ·exact⟨g,cap,hv,hc,Qa7 hh,hb⟩
theorem RG.shape (h:RG cs k T B w v l):∃a cap,v=.slice a l.length cap:=by
 obtain⟨h1,⟨h2,h3⟩|⟨g,cap,cur,hv,_⟩⟩:=h
 ·exact⟨none,0,by rw [h2,h3]⟩
 ·exact⟨_,_,hv⟩
theorem RG.cell (hk:∀x,(cs x).length=k) {g c n:Nat} (h:RG cs k T B w (.slice (some ⟨g,0,none⟩) n c) l) {i d:Nat} {x:α} {u:Value} (hi:l[i]?=some x) (hd:(cs x)[d]?=some u):w.cell? ⟨g,i*k+d,none⟩=some u:=by
 have hdk:d<k:=by rw [←hk x];exact (List.getElem?_eq_some_iff.1 hd).1
 have:=World.ownsRow.cells h (g:=g) rfl (i*k+d) u (by rw [Qan hk _ _ _ hdk,hi];exact hd)
 rw [Qah,Nat.zero_add] at this
 exact this
end
theorem HK.len (s:HK):s.cs.length=3:=rfl
abbrev RH (B:Nat) (w:World) (v:Value) (l:List HK):Prop:=RG HK.cs 3 53 B w v l
theorem infoParts {x:Option TypeInfo} {z:Value} {k b:Nat} (h:x.map (fun i=>(i.zero,i.size,i.bytes))=some (some z,k,b)):∃i,x=some i∧i.zero=some z∧i.size=k∧i.bytes=b:=by
 cases x with
 | none=>cases h
 | some i=>simp at h;exact⟨i,rfl,h.1,h.2.1,h.2.2⟩
structure TE where
 dst:Int
 cost:Int
 data:Int
 vr:Bool
structure TN where
 net:Bool
 id:Int
 edges:List TE
def TN0:TN:=⟨false,0,[]⟩
def gn (g:List TN) (i:Nat):TN:=g.getD i TN0
structure RV where
 is:Bool
 cost:Int
 hops:List HK
theorem Qi2 {l:List HK} {h:HK} (hp:l.Pairwise HK.lt) (hle:∀k∈l,k.le h) (hl:l.getLast?≠some h):(l++[h]).Pairwise HK.lt:=by
 refine List.pairwise_append.2 ⟨hp,by simp,fun a ha b hb=>?_⟩
 simp at hb
 subst hb
 refine HK.lt_of_le_ne (hle a ha) (fun e=>hl ?_)
 subst e
 -- what stands last is not less than a,and a stands there
 cases hq:l.getLast? with
 | none=>rw [List.getLast?_eq_none_iff] at hq;subst hq;cases ha
 | some z =>
  obtain⟨l1,rfl⟩:∃l1,l=l1++[z]:=by
   obtain⟨ys,hy⟩:=List.getLast?_eq_some_iff.1 hq
   exact⟨ys,hy⟩
  rcases List.mem_append.1 ha with h1|h1
  ·have h2:=(List.pairwise_append.1 hp).2.2 a h1 z (by simp)
   have h3:=hle z (by simp)
   exact (HK.lt_irrefl a (HK.lt_of_lt_of_le h2 h3)).elim
  ·simp at h1;rw [h1]
end Go.Proofs.YtldmkoogghemhaaGreat
