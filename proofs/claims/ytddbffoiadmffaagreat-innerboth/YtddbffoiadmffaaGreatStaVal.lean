import Derived.Test.YtddbffoiadmffaaGreatParts
import Derived.Deep.Slices
import Derived.SizedLaws
import Derived.OpenShut
import Derived.Laws.AppendOwnNone
namespace Go.Proofs.YtddbffoiadmffaaGreat
open Go.RowKit
set_option linter.unusedVariables false
theorem ret_int {k:IntKind} {a b:Int} (h:a=b):Ending.returned (.int k a)=.returned (.int k b):=by rw [h]
theorem ret_bool {a b:Bool} (h:a=b):Ending.returned (.bool a)=.returned (.bool b):=by rw [h]
theorem ret_bits {a b:Int} {c d:Bool} (h:a=b) (h':c=d):Ending.returned (.tuple #[.int .u8 a,.bool c])=.returned (.tuple #[.int .u8 b,.bool d]):=by rw [h,h']
set_option maxRecDepth 100000
structure HV where
 age:Int
 opts:Int
 typ:Int
 id:Int
 adv:Int
 seq:Int
 sum:Int
 len:Int
def HV.v (h:HV):Value:=.agg #[.int .u16 h.age,.int .u8 h.opts,.int .u8 h.typ,.int .u32 h.id,.int .u32 h.adv,.int .i32 h.seq,.int .u16 h.sum,.int .u16 h.len]
structure Hd (w:World) (g:Nat) (h:HV):Prop where
 c0:w.cell? ⟨g,0,none⟩=some (.int .u16 h.age)
 c1:w.cell? ⟨g,1,none⟩=some (.int .u8 h.opts)
 c2:w.cell? ⟨g,2,none⟩=some (.int .u8 h.typ)
 c3:w.cell? ⟨g,3,none⟩=some (.int .u32 h.id)
 c4:w.cell? ⟨g,4,none⟩=some (.int .u32 h.adv)
 c5:w.cell? ⟨g,5,none⟩=some (.int .i32 h.seq)
 c6:w.cell? ⟨g,6,none⟩=some (.int .u16 h.sum)
 c7:w.cell? ⟨g,7,none⟩=some (.int .u16 h.len)
theorem Hd.keep {w w':World} {g:Nat} {h:HV} (k:Hd w g h) (t:Touch (fun _=>False) w w'):Hd w' g h :=
 ⟨t.cellN k.c0,t.cellN k.c1,t.cellN k.c2,t.cellN k.c3,t.cellN k.c4,t.cellN k.c5,t.cellN k.c6,t.cellN k.c7⟩
theorem Hd.new (w:World) (h:HV) (t:TypeId) :
  Hd (w.alloc (.cells #[.int .u16 h.age,.int .u8 h.opts,.int .u8 h.typ,.int .u32 h.id,.int .u32 h.adv,.int .i32 h.seq,.int .u16 h.sum,.int .u16 h.len] t)) w.heap.size h :=
 ⟨by simp [go_sem],by simp [go_sem],by simp [go_sem],by simp [go_sem],by simp [go_sem],by simp [go_sem],by simp [go_sem],by simp [go_sem]⟩
def S0:List Int→Int
 | []=>0
 | x :: r=>x+S0 r
def C1:Int→List Int→Int
 | _,[]=>0
 | n,x :: r=>n * x+C1 (n - 1) r
def S1 (l:List Int):Int:=C1 l.length l
theorem S0_append (a b:List Int):S0 (a ++ b)=S0 a+S0 b:=by
 induction a with
 | nil=>simp [S0]
 | cons x r ih=>simp only [List.cons_append,S0,ih]; omega
theorem C1_append (n:Int) (a b:List Int):C1 n (a ++ b)=C1 n a+C1 (n - a.length) b:=by
 induction a generalizing n with
 | nil=>simp [C1]
 | cons x r ih =>
  simp only [List.cons_append,C1,ih,List.length_cons]
  rw [show n - 1 - (r.length:Int)=n - ((r.length+1:Nat):Int) by omega]
  omega
theorem C1_shift (n d:Int) (l:List Int):C1 (n+d) l=C1 n l+d * S0 l:=by
 induction l generalizing n with
 | nil=>simp [C1,S0]
 | cons x r ih =>
  simp only [C1,S0]
  rw [show n+d - 1=n - 1+d by omega,ih]
  grind
theorem S1_snoc (l:List Int) (x:Int):S1 (l ++ [x])=S1 l+S0 l+x:=by
 unfold S1
 rw [C1_append,List.length_append,show ((l.length+[x].length:Nat):Int)=(l.length:Int)+1 by simp,C1_shift]
 simp only [C1]
 rw [show (l.length:Int)+1 - l.length=1 by omega]
 omega
structure Run (l:List Int) (a b:Int):Prop where
 c0:a % 255=S0 l % 255
 c1:b % 255=S1 l % 255
theorem Run.zero:Run [] 0 0:=⟨rfl,rfl⟩
theorem Run.snoc {l:List Int} {a b:Int} (h:Run l a b) (x:Int):Run (l ++ [x]) (a+x) (b+(a+x)):=by
 obtain ⟨h0,h1⟩:=h
 refine ⟨?_,?_⟩
 ·rw [S0_append]; simp only [S0]; omega
 ·rw [S1_snoc]; omega
theorem Run.mod {l:List Int} {a b:Int} (h:Run l a b):Run l (a % 255) (b % 255):=by
 obtain ⟨h0,h1⟩:=h
 exact ⟨by omega,by omega⟩
def W:Bool→List Int→Int
 | _,[]=>0
 | true,x :: r=>256 * x+W false r
 | false,x :: r=>x+W true r
def laid (l:List Int) (at':Nat) (x y:Int):List Int:=(l.set at' x).set (at'+1) y
theorem length_laid (l:List Int) (a:Nat) (x y:Int):(laid l a x y).length=l.length:=by simp [laid]
theorem laid_cut (l:List Int) (a:Nat) (x y:Int) (h:a+2≤l.length):laid l a x y=l.take a ++ (x :: y :: l.drop (a+2)):=by
 unfold laid
 rw [List.set_eq_take_append_cons_drop,if_pos (by simp; omega),List.take_set,List.drop_set]
 rw [if_pos (by omega),List.set_eq_take_append_cons_drop,if_pos (by simp; omega)]
 rw [List.take_take,Nat.min_eq_left (by omega),List.append_assoc]
 simp
theorem S0_set (l:List Int) (i:Nat) (x:Int) (h:i<l.length):S0 (l.set i x)=S0 l+(x - l.getD i 0):=by
 induction l generalizing i with
 | nil=>simp at h
 | cons y r ih =>
  cases i with
  | zero=>simp [S0]; omega
  | succ i =>
   have:=ih i (by simpa using h)
   simp only [List.set_cons_succ,S0,this,List.getD_cons_succ]
   omega
theorem C1_set (n:Int) (l:List Int) (i:Nat) (x:Int) (h:i<l.length):C1 n (l.set i x)=C1 n l+(n - i) * (x - l.getD i 0):=by
 induction l generalizing i n with
 | nil=>simp at h
 | cons y r ih =>
  cases i with
  | zero=>simp only [List.set_cons_zero,C1,List.getD_cons_zero]; grind
  | succ i =>
   have:=ih (n - 1) i (by simpa using h)
   simp only [List.set_cons_succ,C1,this,List.getD_cons_succ]
   rw [show n - 1 - (i:Int)=n - ((i+1:Nat):Int) by omega]
   omega
theorem S1_set (l:List Int) (i:Nat) (x:Int) (h:i<l.length):S1 (l.set i x)=S1 l+((l.length:Int) - i) * (x - l.getD i 0):=by
 unfold S1
 rw [List.length_set,C1_set _ _ _ _ h]
theorem getD_set_ne (l:List Int) (i j:Nat) (x:Int) (h:i≠j):(l.set i x).getD j 0=l.getD j 0:=by simp [List.getD,h]
theorem getD_set_eq (l:List Int) (i:Nat) (x:Int) (h:i<l.length):(l.set i x).getD i 0=x:=by simp [List.getD,h]
theorem S0_laid (l:List Int) (a:Nat) (x y:Int) (h:a+2≤l.length):S0 (laid l a x y)=S0 (laid l a 0 0)+x+y:=by
 unfold laid
 rw [S0_set _ _ _ (by simp; omega),S0_set _ _ _ (by omega),S0_set _ _ _ (by simp; omega),S0_set _ _ _ (by omega),getD_set_ne _ _ _ _ (by omega),getD_set_ne _ _ _ _ (by omega)]
 omega
theorem S1_laid (l:List Int) (a:Nat) (x y:Int) (h:a+2≤l.length):S1 (laid l a x y)=S1 (laid l a 0 0)+((l.length:Int) - a) * x+((l.length:Int) - a - 1) * y:=by
 unfold laid
 rw [S1_set _ _ _ (by simp; omega),S1_set _ _ _ (by omega),S1_set _ _ _ (by simp; omega),S1_set _ _ _ (by omega),getD_set_ne _ _ _ _ (by omega),getD_set_ne _ _ _ _ (by omega)]
 simp only [List.length_set]
 rw [show ((a+1:Nat):Int)=(a:Int)+1 by omega]
 grind
def fx (t c0 c1:Int):Int:=(t * c0+255 - c1+254) % 255+1
def fy (c0 x:Int):Int:=(510 - c0 - x+254) % 255+1
theorem fx_bound (t c0 c1:Int):1≤fx t c0 c1∧fx t c0 c1≤255:=by unfold fx; omega
theorem fy_bound (c0 x:Int):1≤fy c0 x∧fy c0 x≤255:=by unfold fy; omega
theorem pair_only {c0 c1 n t x y:Int} (ht:t=(n+254) % 255) (hx:1≤x∧x≤255) (hy:1≤y∧y≤255) :
  ((c0+x+y) % 255=0∧(c1+n * x+t * y) % 255=0)↔x=fx t c0 c1∧y=fy c0 (fx t c0 c1):=by
 obtain ⟨q,hq⟩:∃ q,n=t+1+255 * q:=⟨(n+254) / 255 - 1,by omega⟩
 constructor
 ·rintro ⟨h1,h2⟩
  obtain ⟨m,hm⟩:∃ m,y=255 * m - c0 - x:=⟨(c0+x+y) / 255,by omega⟩
  have e:c1+n * x+t * y=c1+x - t * c0+255 * (q * x+t * m):=by rw [hq,hm]; grind
  rw [e] at h2
  have hxx:x=fx t c0 c1:=by
   unfold fx
   generalize t * c0=P at *
   generalize q * x+t * m=R at *
   omega
  refine ⟨hxx,?_⟩
  rw [← hxx]
  unfold fy
  omega
 ·rintro ⟨h1,h2⟩
  rw [← h1] at h2
  have k1:(c0+x+y) % 255=0:=by rw [h2]; unfold fy; omega
  refine ⟨k1,?_⟩
  obtain ⟨m,hm⟩:∃ m,y=255 * m - c0 - x:=⟨(c0+x+y) / 255,by omega⟩
  have e:c1+n * x+t * y=c1+x - t * c0+255 * (q * x+t * m):=by rw [hq,hm]; grind
  rw [e]
  unfold fx at h1
  generalize t * c0=P at *
  generalize q * x+t * m=R at *
  omega
def tms (l:List Int) (a:Nat):Int:=((l.length:Int) - a - 1) % 255
def flx (l:List Int) (a:Nat):Int:=fx (tms l a) (S0 (laid l a 0 0) % 255) (S1 (laid l a 0 0) % 255)
def fly (l:List Int) (a:Nat):Int:=fy (S0 (laid l a 0 0) % 255) (flx l a)
theorem flx_bound (l:List Int) (a:Nat):1≤flx l a∧flx l a≤255:=fx_bound _ _ _
theorem fly_bound (l:List Int) (a:Nat):1≤fly l a∧fly l a≤255:=fy_bound _ _
def whole (l:List Int):Bool:=(S0 l % 255 == 0) && (S1 l % 255 == 0)
theorem whole_iff (l:List Int):whole l=true↔S0 l % 255=0∧S1 l % 255=0:=by simp [whole]
theorem whole_laid (l:List Int) (a:Nat) (h:a+2≤l.length):whole (laid l a (flx l a) (fly l a))=true:=by
 rw [whole_iff,S0_laid _ _ _ _ h,S1_laid _ _ _ _ h]
 have k:=(pair_only (c0:=S0 (laid l a 0 0) % 255) (c1:=S1 (laid l a 0 0) % 255) (n:=(l.length:Int) - a) (t:=((l.length:Int) - a+254) % 255) rfl (flx_bound l a) (fly_bound l a)).2
 have ht:tms l a=((l.length:Int) - a+254) % 255:=by unfold tms; omega
 have k:=k ⟨by rw [← ht]; rfl,by rw [← ht]; rfl⟩
 obtain ⟨k1,k2⟩:=k
 refine ⟨by omega,?_⟩
 obtain ⟨q,hq⟩:∃ q,(l.length:Int) - a - 1=((l.length:Int) - a+254) % 255+255 * q:=⟨((l.length:Int) - a - 1) / 255,by omega⟩
 rw [hq]
 have e:(((l.length:Int) - a+254) % 255+255 * q) * fly l a=((l.length:Int) - a+254) % 255 * fly l a+255 * (q * fly l a):=by grind
 rw [e]
 generalize ((l.length:Int) - a+254) % 255 * fly l a=P at *
 generalize q * fly l a=Q at *
 generalize ((l.length:Int) - a) * flx l a=R at *
 omega
structure LV where
 id:Int
 data:Int
 typ:Int
 cost:Int
structure BV where
 flags:Int
 links:List LV
 mask:Int
 routers:List Int
 metric:Int
 type2:Bool
 fwd:Int
 tag:Int
 data:List Int
def BV.zero:BV:=⟨0,[],0,[],0,false,0,0,[]⟩
structure LV.Ok (x:LV):Prop where
 i:0≤x.id∧x.id<4294967296
 d:0≤x.data∧x.data<4294967296
 t:0≤x.typ∧x.typ<256
 c:0≤x.cost∧x.cost<65536
structure BV.Ok (b:BV):Prop where
 f:0≤b.flags∧b.flags<256
 l:∀ x∈b.links,x.Ok
 m:0≤b.mask∧b.mask<4294967296
 r:∀ x∈b.routers,0≤x∧x<4294967296
 e:0≤b.metric∧b.metric<4294967296
 w:0≤b.fwd∧b.fwd<4294967296
 t:0≤b.tag∧b.tag<4294967296
 d:∀ x∈b.data,0≤x∧x<256
structure HV.All (h:HV):Prop where
 a:0≤h.age∧h.age<65536
 o:0≤h.opts∧h.opts<256
 t:0≤h.typ∧h.typ<256
 i:0≤h.id∧h.id<4294967296
 v:0≤h.adv∧h.adv<4294967296
 s : -2147483648≤h.seq∧h.seq≤2147483647
 m:0≤h.sum∧h.sum<65536
 l:0≤h.len∧h.len<65536
def headB (h:HV):List Int:=numBytes 2 h.age ++ [h.opts,h.typ] ++ numBytes 4 h.id ++ numBytes 4 h.adv ++ numBytes 4 (h.seq % 4294967296) ++ numBytes 2 h.sum ++ numBytes 2 h.len
theorem length_headB (h:HV):(headB h).length=20:=by simp [headB,numBytes]
theorem headB_byte {h:HV} (ok:h.All):∀ z∈headB h,0≤z∧z<256:=by
 intro z hz
 simp only [headB,List.mem_append] at hz
 rcases hz with ((((((hz | hz) | hz) | hz) | hz) | hz) | hz)
 ·exact numBytes_byte _ _ z hz
 ·have h1:=ok.o
  have h2:=ok.t
  simp at hz
  rcases hz with rfl | rfl <;> omega
 ·exact numBytes_byte _ _ z hz
 ·exact numBytes_byte _ _ z hz
 ·exact numBytes_byte _ _ z hz
 ·exact numBytes_byte _ _ z hz
 ·exact numBytes_byte _ _ z hz
def linkB (x:LV):List Int:=numBytes 4 x.id ++ numBytes 4 x.data ++ [x.typ,0] ++ numBytes 2 x.cost
theorem length_linkB (x:LV):(linkB x).length=12:=by simp [linkB,numBytes]
def linksB (l:List LV):List Int:=l.flatMap linkB
def routersB (l:List Int):List Int:=l.flatMap (numBytes 4)
theorem length_linksB (l:List LV):(linksB l).length=12 * l.length:=by
 induction l with
 | nil=>rfl
 | cons x r ih=>unfold linksB at *; rw [List.flatMap_cons,List.length_append,ih,length_linkB,List.length_cons]; omega
theorem length_routersB (l:List Int):(routersB l).length=4 * l.length:=by
 induction l with
 | nil=>rfl
 | cons x r ih=>unfold routersB at *; rw [List.flatMap_cons,List.length_append,ih,length_numBytes (by omega),List.length_cons]; omega
theorem linksB_snoc (l:List LV) (x:LV):linksB (l ++ [x])=linksB l ++ linkB x:=by simp [linksB]
theorem routersB_snoc (l:List Int) (x:Int):routersB (l ++ [x])=routersB l ++ numBytes 4 x:=by simp [routersB]
def metricN (b:BV):Int:=if b.type2 then (b.metric+2147483648) % 4294967296 else b.metric
def layB (t:Int) (b:BV):List Int :=
 if t=1 then [b.flags,0] ++ numBytes 2 ((b.links.length:Int) % 65536) ++ linksB b.links
 else if t=2 then numBytes 4 b.mask ++ routersB b.routers
 else if t=3∨t=4 then numBytes 4 b.mask ++ numBytes 4 b.metric
 else if t=5∨t=7 then numBytes 4 b.mask ++ numBytes 4 (metricN b) ++ numBytes 4 b.fwd ++ numBytes 4 b.tag
 else b.data
def sizeB (t:Int) (b:BV):Int :=
 if t=1 then 4+12 * (b.links.length:Int) else if t=2 then 4+4 * (b.routers.length:Int) else if t=3∨t=4 then 8 else if t=5∨t=7 then 16 else (b.data.length:Int)
theorem length_layB (t:Int) (b:BV):((layB t b).length:Int)=sizeB t b:=by
 unfold layB sizeB
 split
 ·simp [length_linksB,numBytes]; omega
 ·split
  ·simp [length_routersB,numBytes]; omega
  ·split
   ·simp [numBytes]
   ·split
    ·simp [numBytes]
    ·rfl
def knownB (t:Int):Bool:=(decide (1≤t) && decide (t≤5)) || decide (t=7) || (decide (9≤t) && decide (t≤11))
def aloneB (t:Int) (b:BV):Bool :=
 decide (t=1∨(b.flags=0∧b.links.length=0)) && decide (t=2∨b.routers.length=0) && decide (t=2∨t=3∨t=5∨t=7∨b.mask=0) && decide (t=3∨t=4∨t=5∨t=7∨b.metric=0)
  && decide (t=5∨t=7∨(b.type2=false∧b.fwd=0∧b.tag=0)) && decide (9≤t∨b.data.length=0)
def mayB (t:Int) (b:BV):Bool :=
 aloneB t b && pbok b.mask && decide (b.metric≤16777215) && decide (b.data.length % 4=0) && decide (t=2→0<b.routers.length) && b.links.all (fun x=>decide (1≤x.typ∧x.typ≤4))
structure May (t:Int) (b:BV):Prop where
 a1:t=1∨(b.flags=0∧b.links.length=0)
 a2:t=2∨b.routers.length=0
 a3:t=2∨t=3∨t=5∨t=7∨b.mask=0
 a4:t=3∨t=4∨t=5∨t=7∨b.metric=0
 a5:t=5∨t=7∨(b.type2=false∧b.fwd=0∧b.tag=0)
 a6:9≤t∨b.data.length=0
 mask:pbok b.mask=true
 met:b.metric≤16777215
 dat:b.data.length % 4=0
 rou:t=2→0<b.routers.length
 lin:∀ x∈b.links,1≤x.typ∧x.typ≤4
theorem mayB_iff (t:Int) (b:BV):mayB t b=true↔May t b:=by
 unfold mayB aloneB
 simp only [Bool.and_eq_true,decide_eq_true_eq,List.all_eq_true]
 constructor
 ·rintro ⟨⟨⟨⟨⟨⟨⟨⟨⟨⟨h1,h2⟩,h3⟩,h4⟩,h5⟩,h6⟩,h7⟩,h8⟩,h9⟩,h10⟩,h11⟩
  exact ⟨h1,h2,h3,h4,h5,h6,h7,h8,h9,h10,h11⟩
 ·rintro ⟨h1,h2,h3,h4,h5,h6,h7,h8,h9,h10,h11⟩
  exact ⟨⟨⟨⟨⟨⟨⟨⟨⟨⟨h1,h2⟩,h3⟩,h4⟩,h5⟩,h6⟩,h7⟩,h8⟩,h9⟩,h10⟩,h11⟩
def readLinks:List Int→List LV
 | a :: b :: c :: d :: e :: f :: g :: h :: i :: j :: k :: l :: r=>⟨numOf [a,b,c,d],numOf [e,f,g,h],i,numOf [k,l]⟩ :: readLinks r
 | _=>[]
def readRouters:List Int→List Int
 | a :: b :: c :: d :: r=>numOf [a,b,c,d] :: readRouters r
 | _=>[]
theorem readLinks_linksB (ls:List LV) (h:∀ x∈ls,x.Ok):readLinks (linksB ls)=ls:=by
 induction ls with
 | nil=>rfl
 | cons x r ih =>
  have hx:=h x (by simp)
  have hr:=ih (fun y hy=>h y (by simp [hy]))
  have e:linksB (x :: r)=linkB x ++ linksB r:=by simp [linksB]
  rw [e]
  obtain ⟨i,d,t,c⟩:=x
  obtain ⟨⟨i0,i1⟩,⟨d0,d1⟩,⟨t0,t1⟩,⟨c0,c1⟩⟩:=hx
  dsimp only at i0 i1 d0 d1 t0 t1 c0 c1
  have e1:=numOf_four i i0 i1
  have e2:=numOf_four d d0 d1
  have e3:=numOf_two c c0 c1
  rw [numBytes4] at e1 e2
  rw [numBytes2] at e3
  simp only [linkB,numBytes4,numBytes2,List.cons_append,List.nil_append,readLinks,hr]
  rw [e1,e2,e3]
theorem readRouters_routersB (ls:List Int) (h:∀ x∈ls,0≤x∧x<4294967296):readRouters (routersB ls)=ls:=by
 induction ls with
 | nil=>rfl
 | cons x r ih =>
  have hx:=h x (by simp)
  have hr:=ih (fun y hy=>h y (by simp [hy]))
  have e:routersB (x :: r)=numBytes 4 x ++ routersB r:=by simp [routersB]
  rw [e]
  have e1:=numOf_four x hx.1 hx.2
  rw [numBytes4] at e1
  simp only [numBytes4,List.cons_append,List.nil_append,readRouters,hr]
  rw [e1]
def readB (t:Int) (l:List Int):Option BV :=
 if t=1 then (if l.length<4 then none else some ⟨l.getD 0 0,readLinks (l.drop 4),0,[],0,false,0,0,[]⟩)
 else if t=2 then (if l.length<4 then none else some ⟨0,[],numOf (l.take 4),readRouters (l.drop 4),0,false,0,0,[]⟩)
 else if t=3∨t=4 then (if l.length≠8 then none else some ⟨0,[],numOf (l.take 4),[],numOf ((l.drop 4).take 4),false,0,0,[]⟩)
 else if t=5∨t=7 then (if l.length≠16 then none else some ⟨0,[],numOf (l.take 4),[],numOf ((l.drop 5).take 3),l.getD 4 0 == 128,numOf ((l.drop 8).take 4),numOf ((l.drop 12).take 4),[]⟩)
 else some ⟨0,[],0,[],0,false,0,0,l⟩
def decB (t:Int) (l:List Int):Option BV :=
 match readB t l with
 | none=>none
 | some b=>if mayB t b=true∧layB t b=l then some b else none
theorem decB_some {t:Int} {l:List Int} {b:BV} (h:decB t l=some b):readB t l=some b∧May t b∧layB t b=l:=by
 unfold decB at h
 split at h
 ·cases h
 ·rename_i c hc
  split at h
  ·rename_i hm
   cases h
   exact ⟨hc,(mayB_iff _ _).1 hm.1,hm.2⟩
  ·cases h
theorem readB_layB {t:Int} {b:BV} (ok:b.Ok) (m:May t b):readB t (layB t b)=some b:=by
 obtain ⟨fl,ls,ma,rs,me,t2,fw,tg,da⟩:=b
 obtain ⟨⟨f0,f1⟩,okl,⟨m0,m1⟩,okr,⟨e0,e1⟩,⟨w0,w1⟩,⟨g0,g1⟩,okd⟩:=ok
 obtain ⟨a1,a2,a3,a4,a5,a6,hm,hme,hda,hro,hli⟩:=m
 dsimp only at *
 unfold readB layB
 have n4:=numOf_four ma m0 m1
 rw [numBytes4] at n4
 by_cases h1:t=1
 ·obtain rfl:da=[]:=List.length_eq_zero_iff.1 (by omega)
  obtain rfl:rs=[]:=List.length_eq_zero_iff.1 (by omega)
  obtain rfl:ma=0:=by omega
  obtain rfl:me=0:=by omega
  obtain ⟨rfl,rfl,rfl⟩:t2=false∧fw=0∧tg=0:=by rcases a5 with h | h | h; omega; omega; exact h
  rw [if_pos h1,if_pos h1,numBytes2]
  simp only [List.cons_append,List.nil_append,List.length_cons]
  rw [if_neg (by omega)]
  simp [List.getD,readLinks_linksB ls okl]
 ·have hb:fl=0∧ls.length=0:=by rcases a1 with h | h; exact absurd h h1; exact h
  obtain ⟨rfl,hb⟩:=hb
  obtain rfl:ls=[]:=List.length_eq_zero_iff.1 hb
  rw [if_neg h1,if_neg h1]
  by_cases h2:t=2
  ·obtain rfl:da=[]:=List.length_eq_zero_iff.1 (by omega)
   obtain rfl:me=0:=by omega
   obtain ⟨rfl,rfl,rfl⟩:t2=false∧fw=0∧tg=0:=by rcases a5 with h | h | h; omega; omega; exact h
   rw [if_pos h2,if_pos h2,numBytes4]
   simp only [List.cons_append,List.nil_append,List.length_cons]
   rw [if_neg (by omega)]
   simp only [List.take,List.drop,n4,readRouters_routersB rs okr]
  ·obtain rfl:rs=[]:=List.length_eq_zero_iff.1 (by omega)
   rw [if_neg h2,if_neg h2]
   by_cases h3:t=3∨t=4
   ·obtain rfl:da=[]:=List.length_eq_zero_iff.1 (by omega)
    obtain ⟨rfl,rfl,rfl⟩:t2=false∧fw=0∧tg=0:=by rcases a5 with h | h | h; omega; omega; exact h
    have n5:=numOf_four me e0 e1
    rw [numBytes4] at n5
    rw [if_pos h3,if_pos h3,numBytes4,numBytes4]
    simp only [List.cons_append,List.nil_append,List.length_cons,List.length_nil]
    rw [if_neg (by omega)]
    simp only [List.take,List.drop,n4,n5]
   ·rw [if_neg h3,if_neg h3]
    by_cases h4:t=5∨t=7
    ·obtain rfl:da=[]:=List.length_eq_zero_iff.1 (by omega)
     rw [if_pos h4,if_pos h4,numBytes4,numBytes4,numBytes4,numBytes4]
     have n6:=numOf_four fw w0 w1
     have n7:=numOf_four tg g0 g1
     rw [numBytes4] at n6 n7
     have n8:=numOf_three me e0 (by omega)
     rw [numBytes3] at n8
     simp only [List.cons_append,List.nil_append,List.length_cons,List.length_nil]
     rw [if_neg (by omega)]
     cases t2 with
     | false =>
      simp only [metricN,Bool.false_eq_true,if_false,List.take,List.drop,List.getD,List.getElem?_cons_succ,List.getElem?_cons_zero,Option.getD,n4,n6,n7]
      rw [n8,show (me / 16777216 % 256 == 128)=false by simp; omega]
     | true =>
      simp only [metricN,if_true,List.take,List.drop,List.getD,List.getElem?_cons_succ,List.getElem?_cons_zero,Option.getD,n4,n6,n7]
      rw [show (me+2147483648) % 4294967296=me+2147483648 by omega]
      rw [show (me+2147483648) / 65536 % 256=me / 65536 % 256 by omega,show (me+2147483648) / 256 % 256=me / 256 % 256 by omega,show (me+2147483648) % 256=me % 256 by omega,n8,
       show ((me+2147483648) / 16777216 % 256 == 128)=true by simp; omega]
    ·have hb:t2=false∧fw=0∧tg=0:=by rcases a5 with h | h | h; omega; omega; exact h
     obtain ⟨rfl,rfl,rfl⟩:=hb
     obtain rfl:ma=0:=by omega
     obtain rfl:me=0:=by omega
     rw [if_neg h4,if_neg h4]
theorem decB_layB {t:Int} {b:BV} (ok:b.Ok) (m:May t b):decB t (layB t b)=some b:=by
 unfold decB
 rw [readB_layB ok m]
 exact if_pos ⟨(mayB_iff _ _).2 m,rfl⟩
def sealS (h:HV) (l:List Int):Int:=256 * flx ((headB { h with len:=20+(l.length:Int) } ++ l).drop 2) 14+fly ((headB { h with len:=20+(l.length:Int) } ++ l).drop 2) 14
def sealH (h:HV) (l:List Int):HV:={ h with len:=20+(l.length:Int),sum:=sealS h l }
open Go.RowKit Go.ChangeShapes Go.WideShapes Go.ChangeAt
def ArgAt (w:World) (v:Value) (rs:List Int):Prop :=
 (v=.slice none 0 0∧rs=[])∨∃ ad c,v=.slice (some ad) rs.length c∧rs.length≤c∧c≤maxLen∧∀ j u,(bytesOf rs)[j]?=some u→w.cell? (ad.add j)=some u
theorem RowAt.arg {w:World} {v:Value} {rs:List Int} (h:RowAt w v rs):ArgAt w v rs:=by
 rcases h with h | ⟨g,off,c,rfl,h1,h2,h3⟩
 ·exact Or.inl h
 ·exact Or.inr ⟨_,c,rfl,h1,h2,fun j u hj=>by rw [add_plain]; exact h3 j u hj⟩
theorem ArgAt.form {w:World} {v:Value} {rs:List Int} (h:ArgAt w v rs):∃ a c,v=.slice a rs.length c∧rs.length≤maxLen:=by
 rcases h with ⟨rfl,rfl⟩ | ⟨ad,c,rfl,h1,h2,h3⟩
 ·exact ⟨_,_,rfl,Nat.zero_le _⟩
 ·exact ⟨_,_,rfl,Nat.le_trans h1 h2⟩
theorem ArgAt.row {w:World} {v:Value} {rs:List Int} (h:ArgAt w v rs) (hp:0<rs.length):RowAt w v rs:=by
 rcases h with ⟨rfl,rfl⟩ | ⟨ad,c,rfl,h1,h2,h3⟩
 ·exact Or.inl ⟨rfl,rfl⟩
 ·obtain ⟨g,off,spot⟩:=ad
  have hc:=h3 0 (.int .u8 rs[0]) (by simp [bytesOf,hp])
  have hspot:spot=none:=by simpa [Addr.add] using World.cell?_spot hc
  subst hspot
  exact Or.inr ⟨g,off,c,rfl,h1,h2,fun j u hj=>by have:=h3 j u hj; rwa [add_plain] at this⟩
theorem ArgAt.keep {F:Nat→Prop} {w w':World} {v:Value} {rs:List Int} (h:ArgAt w v rs) (t:Touch F w w') (hF:∀ k,k<w.heap.size→¬ F k):ArgAt w' v rs:=by
 rcases h with h | ⟨ad,c,rfl,h1,h2,h3⟩
 ·exact Or.inl h
 ·refine Or.inr ⟨ad,c,rfl,h1,h2,fun j u hj=>?_⟩
  have hc:=h3 j u hj
  exact (t.cell (lt_of_cellA hc) (hF _ (lt_of_cellA hc))).trans hc
section
variable {H:Type} {enc:TypeId×Value→H} {w:World} {base:Nat} {held:Bool}
theorem open_bytes {fuel:Nat} {a:Option Addr} {len cap:Nat} {x:DataW H×List MemPlace} (h:DataW.trod enc Tryz.prog w base (fun _=>true) held fuel 55 [.slice a len cap]=some x) :
  ∃ rs:List Int,rs.length=len∧ArgAt w (.slice a len cap) rs∧(∀ z∈rs,0≤z∧z<256)∧(x.1=.nil∧len=0∨∃ el sp,x.1=.slice el sp∧el.length=len):=by
 rcases open_ints Tryz.underlying55 Tryz.underlying5 (by kernel_rfl) h with ⟨hcs,hx⟩ | ⟨ad,l,c,zs,hcs,_,hl,hm,hz,hx,hcell,hwz⟩
 ·simp at hcs
  obtain ⟨rfl,rfl,rfl⟩:=hcs
  exact ⟨[],rfl,Or.inl ⟨rfl,rfl⟩,by simp,Or.inl ⟨by rw [hx],rfl⟩⟩
 ·simp at hcs
  obtain ⟨rfl,rfl,rfl⟩:=hcs
  have hz':zs.length=cap:=by simpa using hz
  have hlen:(zs.take len).length=len:=by simp; omega
  refine ⟨zs.take len,hlen,Or.inr ⟨ad,cap,by rw [hlen],by omega,hm,fun j u hj=>?_⟩,fun z hzm=>?_,Or.inr ⟨_,_,by rw [hx],by simp [lits]; omega⟩⟩
  ·have hjl:j<len:=by
    have:=(List.getElem?_eq_some_iff.mp hj).1
    simp [bytesOf] at this
    omega
   have:=hcell j (by omega)
   rw [this]
   simp only [bytesOf,List.getElem?_map,List.getElem?_take,if_pos hjl] at hj
   rw [List.getElem?_eq_getElem (by omega)] at hj
   rw [← hj]
   simp [List.getD,show j<zs.length by omega]
  ·have:=bounds_u8 (hwz z (List.mem_of_mem_take hzm))
   omega
end
theorem rowAt_cell {w:World} {g off c n:Nat} {rs:List Int} (h:RowAt w (.slice (some ⟨g,off,none⟩) n c) rs) (j:Nat) (hj:j<rs.length):w.cell? ⟨g,off+j,none⟩=some (.int .u8 (rs.getD j 0)):=by
 rcases h with ⟨h,_⟩ | ⟨g',off',c',h,_,_,h3⟩
 ·simp at h
 ·simp at h
  obtain ⟨⟨rfl,rfl⟩,_,_⟩:=h
  exact h3 j _ (by simp [bytesOf,List.getElem?_eq_getElem hj,List.getD])
theorem rowAt_some {w:World} {a:Option Addr} {n c:Nat} {rs:List Int} (h:RowAt w (.slice a n c) rs) (hn:0<n):∃ g off,a=some ⟨g,off,none⟩:=by
 rcases h with ⟨h,_⟩ | ⟨g',off',c',h,_⟩
 ·simp at h; omega
 ·simp at h; exact ⟨g',off',h.1⟩
theorem Tryz.info5w:(Tryz.prog.info? 5).map (fun i=>(i.zero,i.size,i.bytes))=some (some (.int .u8 0),1,1):=by kernel_rfl
structure Buf (w0 w:World) (v:Value) (l:List Int):Prop where
 own:w.ownsRow w0.heap.size 5 1 v l.length (bytesOf l)
 t:Touch (fun _=>False) w0 w
theorem Buf.keep {w0 w w':World} {v:Value} {l:List Int} (h:Buf w0 w v l) (t:Touch (fun _=>False) w w'):Buf w0 w' v l:=⟨own_touch h.own t (fun _ _ h=>h),h.t.trans t⟩
theorem Buf.back {w0 w w':World} {v:Value} {l:List Int} (h:Buf w w' v l) (t:Touch (fun _=>False) w0 w):Buf w0 w' v l:=by
 refine ⟨⟨h.own.1,?_⟩,t.trans h.t⟩
 rcases h.own.2 with h2 | ⟨g,cap,cur,hv,hb,hr⟩
 ·exact Or.inl h2
 ·exact Or.inr ⟨g,cap,cur,hv,Nat.le_trans t.size hb,hr⟩
theorem Buf.nil {w0 w:World} (t:Touch (fun _=>False) w0 w):Buf w0 w (.slice none 0 0) []:=⟨World.ownsRow_nil _ _ _ _,t⟩
theorem Buf.form {w0 w:World} {v:Value} {l:List Int} (h:Buf w0 w v l):∃ a c,v=.slice a l.length c:=by
 rcases h.own.2 with ⟨rfl,e⟩ | ⟨g,cap,cur,rfl,_⟩
 ·exact ⟨none,0,by rw [e]⟩
 ·exact ⟨_,cap,rfl⟩
theorem Buf.arg {w0 w:World} {v:Value} {l:List Int} (h:Buf w0 w v l):ArgAt w v l:=(own_rowAt h.own).arg
theorem Buf.appended {w0 w w':World} {v v':Value} {l r:List Int} (h:Buf w0 w v l) (hown:w'.ownsRow w0.heap.size 5 1 v' (l.length+r.length) (bytesOf l ++ bytesOf r)) (hg:w.grownBy w' v.ownBlock):Buf w0 w' v' (l ++ r):=by
 refine ⟨?_,h.t.grown hg (fun k hk=>Or.inr (h.own.lt k hk).1)⟩
 rw [List.length_append,bytesOf_append]
 exact hown
section
variable {ops:Array Oper} {rest:List Oper} {o:Oper} {a:Act} {Q:Exit→Act→World→Prop} {w:World}
theorem app_arg (hgd:o.guard=none) (s x:Operand) (ho:o.op=.call { callee:=.builtin .append,args:=#[s,x],argTypes:=#[55,55] })
  (w0:World) (v:Value) (l:List Int) (hs:a.eval s=v) (hb:Buf w0 w v l) (vx:Value) (r:List Int) (hx:a.eval x=vx) (hr:ArgAt w vx r) (hl:l.length+r.length≤1099511627776)
  (h:∀ v' w',Buf w0 w' v' (l ++ r)→wpList Tryz.prog ops Q rest (a.put o.dst v') w'):wpList Tryz.prog ops Q (o :: rest) a w:=by
 obtain ⟨i0,hi,hz0,hz1,hz2⟩:=info_parts Tryz.info5w
 rcases hr with ⟨rfl,rfl⟩ | ⟨ad,c,rfl,h1,h2,h3⟩
 ·refine wpList_append_own_none hgd s x 55 ho w0.heap.size 5 i0 1 Tryz.underlying55 hi v l.length (bytesOf l) hs hb.own hx ?_
  exact h v w (by rw [List.append_nil]; exact hb)
 ·refine wpList_append_own_at w hgd s x 55 ho w0.heap.size 5 i0 (.int .u8 0) 1 1 Tryz.underlying55 hi hz0 hz1 hz2 rfl (by decide) v l.length (bytesOf l) hs hb.own ad r.length c (bytesOf r) hx (by simp [length_bytesOf]) h3 (oneCell_bytesOf r) (by unfold maxLen; omega) (by omega) hb.t.size ?_
  intro v' w' hown hg _ _
  exact h v' w' (hb.appended hown hg)
theorem app_one (hgd:o.guard=none) (s x:Operand) (ho:o.op=.call { callee:=.builtin .append,args:=#[s,x],argTypes:=#[55,55] })
  (w0:World) (v:Value) (l:List Int) (hs:a.eval s=v) (hb:Buf w0 w v l) (z:Int) (hx:a.eval x=.slice (some ⟨w.heap.size,0,none⟩) 1 1) (hl:l.length<1099511627776)
  (h:∀ v' w',Buf w0 w' v' (l ++ [z])→wpList Tryz.prog ops Q rest (a.put o.dst v') w'):wpList Tryz.prog ops Q (o :: rest) a (w.alloc (.cells #[.int .u8 z] 5)) :=
 app_arg hgd s x ho w0 v l hs (hb.keep ((Touch.refl _ w).alloc _)) _ [z] hx (Or.inr ⟨_,1,rfl,by simp,by simp [maxLen],cell_one_new w _ _⟩) (by simp; omega) h
end
def ValsAt (w:World) (k:Nat) (v:Value) (n:Nat) (xs:List Value):Prop :=
 xs.length=n * k∧((v=.slice none 0 0∧n=0)∨∃ ad c,v=.slice (some ad) n c∧n≤c∧c≤maxLen∧∀ j u,xs[j]?=some u→w.cell? (ad.add j)=some u)
theorem ValsAt.form {w:World} {k:Nat} {v:Value} {n:Nat} {xs:List Value} (h:ValsAt w k v n xs):∃ a c,v=.slice a n c∧n≤maxLen:=by
 rcases h.2 with ⟨rfl,rfl⟩ | ⟨ad,c,rfl,h1,h2,_⟩
 ·exact ⟨_,_,rfl,Nat.zero_le _⟩
 ·exact ⟨_,_,rfl,Nat.le_trans h1 h2⟩
theorem ValsAt.keep {w w':World} {k:Nat} {v:Value} {n:Nat} {xs:List Value} (h:ValsAt w k v n xs) (t:Touch (fun _=>False) w w'):ValsAt w' k v n xs:=by
 refine ⟨h.1,?_⟩
 rcases h.2 with h | ⟨ad,c,rfl,h1,h2,h3⟩
 ·exact Or.inl h
 ·exact Or.inr ⟨ad,c,rfl,h1,h2,fun j u hj=>t.cellN (h3 j u hj)⟩
theorem ValsAt.cells {w:World} {k:Nat} {v:Value} {n:Nat} {xs:List Value} (h:ValsAt w k v n xs) (hn:0<n) (hk:0<k) :
  ∃ g off c,v=.slice (some ⟨g,off,none⟩) n c∧n≤c∧c≤maxLen∧∀ j u,xs[j]?=some u→w.cell? ⟨g,off+j,none⟩=some u:=by
 obtain ⟨hl,h⟩:=h
 rcases h with ⟨_,rfl⟩ | ⟨ad,c,rfl,h1,h2,h3⟩
 ·omega
 ·have hp:0<xs.length:=by rw [hl]; exact Nat.mul_pos hn hk
  obtain ⟨g,off,spot⟩:=ad
  have hc:=h3 0 xs[0] (by simp [hp])
  have hspot:spot=none:=by simpa [Addr.add] using World.cell?_spot hc
  subst hspot
  exact ⟨g,off,c,rfl,h1,h2,fun j u hj=>by have:=h3 j u hj; rwa [add_plain] at this⟩
structure VBuf (e k:Nat) (w0 w:World) (v:Value) (n:Nat) (xs:List Value):Prop where
 own:w.ownsRow w0.heap.size e k v n xs
 t:Touch (fun _=>False) w0 w
theorem VBuf.keep {e k:Nat} {w0 w w':World} {v:Value} {n:Nat} {xs:List Value} (h:VBuf e k w0 w v n xs) (t:Touch (fun _=>False) w w'):VBuf e k w0 w' v n xs:=⟨own_touch h.own t (fun _ _ h=>h),h.t.trans t⟩
theorem VBuf.back {e k:Nat} {w0 w w':World} {v:Value} {n:Nat} {xs:List Value} (h:VBuf e k w w' v n xs) (t:Touch (fun _=>False) w0 w):VBuf e k w0 w' v n xs:=by
 refine ⟨⟨h.own.1,?_⟩,t.trans h.t⟩
 rcases h.own.2 with h2 | ⟨g,cap,cur,hv,hb,hr⟩
 ·exact Or.inl h2
 ·exact Or.inr ⟨g,cap,cur,hv,Nat.le_trans t.size hb,hr⟩
theorem VBuf.nil (e k:Nat) {w0 w:World} (t:Touch (fun _=>False) w0 w):VBuf e k w0 w (.slice none 0 0) 0 []:=⟨World.ownsRow_nil _ _ _ _,t⟩
theorem VBuf.form {e k:Nat} {w0 w:World} {v:Value} {n:Nat} {xs:List Value} (h:VBuf e k w0 w v n xs):∃ a c,v=.slice a n c:=by
 rcases h.own.2 with ⟨rfl,e⟩ | ⟨g,cap,cur,rfl,_⟩
 ·exact ⟨none,0,by rw [e]⟩
 ·exact ⟨_,cap,rfl⟩
theorem VBuf.vals {e k:Nat} {w0 w:World} {v:Value} {n:Nat} {xs:List Value} (h:VBuf e k w0 w v n xs):ValsAt w k v n xs:=by
 refine ⟨h.own.1,?_⟩
 rcases h.own.2 with h2 | ⟨g,cap,cur,hv,hb,hh,h1,h2,h3,h4⟩
 ·exact Or.inl h2
 ·refine Or.inr ⟨_,cap,hv,h1,h2,fun j u hj=>?_⟩
  have hjl:=(List.getElem?_eq_some_iff.mp hj).1
  have hl:=h.own.1
  rw [add_plain,Nat.zero_add]
  rw [← h4,List.getElem?_take,if_pos (by omega)] at hj
  simp [World.cell?,hh]
  simpa using hj
section
variable {ops:Array Oper} {rest:List Oper} {o:Oper} {a:Act} {Q:Exit→Act→World→Prop} {w:World}
theorem vapp_arg (hgd:o.guard=none) (s x:Operand) (t:TypeId) (ho:o.op=.call { callee:=.builtin .append,args:=#[s,x],argTypes:=#[t,t] })
  (e k bytes:Nat) (z:Value) (ht:Tryz.prog.underlying t=some (.slice e)) (hi:(Tryz.prog.info? e).map (fun i=>(i.zero,i.size,i.bytes))=some (some z,k,bytes)) (hzs:z.cells.size=k) (hk:0<k) (hby:bytes≤64)
  (w0:World) (v:Value) (n:Nat) (xs:List Value) (hs:a.eval s=v) (hb:VBuf e k w0 w v n xs) (vx:Value) (m:Nat) (news:List Value) (hx:a.eval x=vx) (hr:ValsAt w k vx m news) (h1:∀ u∈news,u.oneCell'=true) (hl:n+m≤1099511627776)
  (h:∀ v' w',VBuf e k w0 w' v' (n+m) (xs ++ news)→wpList Tryz.prog ops Q rest (a.put o.dst v') w'):wpList Tryz.prog ops Q (o :: rest) a w:=by
 obtain ⟨i0,hi,hz0,hz1,hz2⟩:=info_parts hi
 obtain ⟨hnl,hr⟩:=hr
 rcases hr with ⟨rfl,rfl⟩ | ⟨ad,c,rfl,h2,h3,h4⟩
 ·have hn0:news=[]:=List.length_eq_zero_iff.1 (by omega)
  subst hn0
  refine wpList_append_own_none hgd s x t ho w0.heap.size e i0 k ht hi v n xs hs hb.own hx ?_
  exact h v w (by rw [List.append_nil]; exact hb)
 ·have hmul:(n+m) * bytes≤1099511627776 * 64:=Nat.mul_le_mul hl hby
  refine wpList_append_own_at w hgd s x t ho w0.heap.size e i0 z k bytes ht hi hz0 hz1 hz2 hzs hk v n xs hs hb.own ad m c news hx hnl h4 h1 (by unfold maxLen; omega) (by omega) hb.t.size ?_
  intro v' w' hown hg _ _
  exact h v' w' ⟨hown,hb.t.grown hg (fun k hk=>Or.inr (hb.own.lt k hk).1)⟩
end
def LV.cells (x:LV):List Value:=[.int .u32 x.id,.int .u32 x.data,.int .u8 x.typ,.int .u16 x.cost]
def linksC (l:List LV):List Value:=l.flatMap LV.cells
def wordsC (l:List Int):List Value:=l.map (Value.int .u32)
theorem linksC_append (a b:List LV):linksC (a ++ b)=linksC a ++ linksC b:=by simp [linksC]
theorem wordsC_append (a b:List Int):wordsC (a ++ b)=wordsC a ++ wordsC b:=by simp [wordsC]
theorem linksC_at (l:List LV) (j i:Nat) (x:LV) (hj:l[j]?=some x) (hi:i<4):(linksC l)[j * 4+i]?=x.cells[i]?:=by
 induction l generalizing j with
 | nil=>simp at hj
 | cons y r ih =>
  have e:linksC (y :: r)=y.cells ++ linksC r:=by simp [linksC]
  have hl:y.cells.length=4:=rfl
  rw [e]
  cases j with
  | zero =>
   obtain rfl:y=x:=by simpa using hj
   rw [List.getElem?_append_left (by omega),Nat.zero_mul,Nat.zero_add]
  | succ j =>
   rw [List.getElem?_append_right (by omega),hl,show (j+1) * 4+i - 4=j * 4+i by omega]
   exact ih j (by simpa using hj)
def LinksAt (w:World) (v:Value) (l:List LV):Prop:=ValsAt w 4 v l.length (linksC l)
def WordsAt (w:World) (v:Value) (l:List Int):Prop:=ValsAt w 1 v l.length (wordsC l)
theorem LinksAt.keep {w w':World} {v:Value} {l:List LV} (h:LinksAt w v l) (t:Touch (fun _=>False) w w'):LinksAt w' v l:=ValsAt.keep h t
theorem WordsAt.keep {w w':World} {v:Value} {l:List Int} (h:WordsAt w v l) (t:Touch (fun _=>False) w w'):WordsAt w' v l:=ValsAt.keep h t
theorem ArgAt.keepN {w w':World} {v:Value} {l:List Int} (h:ArgAt w v l) (t:Touch (fun _=>False) w w'):ArgAt w' v l:=h.keep t (fun _ _ h=>h)
def BV.v (b:BV) (vl vr vd:Value):Value:=.agg #[.int .u8 b.flags,vl,.int .u32 b.mask,vr,.int .u32 b.metric,.bool b.type2,.int .u32 b.fwd,.int .u32 b.tag,vd]
structure BArg (w:World) (b:BV) (vl vr vd:Value):Prop where
 l:LinksAt w vl b.links
 r:WordsAt w vr b.routers
 d:ArgAt w vd b.data
theorem BArg.keep {w w':World} {b:BV} {vl vr vd:Value} (h:BArg w b vl vr vd) (t:Touch (fun _=>False) w w'):BArg w' b vl vr vd:=⟨h.l.keep t,h.r.keep t,h.d.keepN t⟩
structure Bd (w:World) (g:Nat) (b:BV) (vl vr vd:Value):Prop where
 c0:w.cell? ⟨g,0,none⟩=some (.int .u8 b.flags)
 c1:w.cell? ⟨g,1,none⟩=some vl
 c2:w.cell? ⟨g,2,none⟩=some (.int .u32 b.mask)
 c3:w.cell? ⟨g,3,none⟩=some vr
 c4:w.cell? ⟨g,4,none⟩=some (.int .u32 b.metric)
 c5:w.cell? ⟨g,5,none⟩=some (.bool b.type2)
 c6:w.cell? ⟨g,6,none⟩=some (.int .u32 b.fwd)
 c7:w.cell? ⟨g,7,none⟩=some (.int .u32 b.tag)
 c8:w.cell? ⟨g,8,none⟩=some vd
theorem Bd.keep {w w':World} {g:Nat} {b:BV} {vl vr vd:Value} (k:Bd w g b vl vr vd) (t:Touch (fun _=>False) w w'):Bd w' g b vl vr vd :=
 ⟨t.cellN k.c0,t.cellN k.c1,t.cellN k.c2,t.cellN k.c3,t.cellN k.c4,t.cellN k.c5,t.cellN k.c6,t.cellN k.c7,t.cellN k.c8⟩
theorem Bd.new (w:World) (b:BV) (vl vr vd:Value) (t:TypeId) :
  Bd (w.alloc (.cells #[.int .u8 b.flags,vl,.int .u32 b.mask,vr,.int .u32 b.metric,.bool b.type2,.int .u32 b.fwd,.int .u32 b.tag,vd] t)) w.heap.size b vl vr vd :=
 ⟨by simp [go_sem],by simp [go_sem],by simp [go_sem],by simp [go_sem],by simp [go_sem],by simp [go_sem],by simp [go_sem],by simp [go_sem],by simp [go_sem]⟩
def HV.sv (h:HV) (v:Value):Value:=.agg #[.int .u16 h.age,.int .u8 h.opts,.int .u8 h.typ,.int .u32 h.id,.int .u32 h.adv,.int .i32 h.seq,.int .u16 h.sum,.int .u16 h.len,v]
def HV.zero:HV:=⟨0,0,0,0,0,0,0,0⟩
structure Sd (w:World) (g:Nat) (h:HV) (v:Value):Prop where
 hd:Hd w g h
 c8:w.cell? ⟨g,8,none⟩=some v
theorem Sd.keep {w w':World} {g:Nat} {h:HV} {v:Value} (k:Sd w g h v) (t:Touch (fun _=>False) w w'):Sd w' g h v:=⟨k.hd.keep t,t.cellN k.c8⟩
theorem Sd.new (w:World) (h:HV) (v:Value) (t:TypeId) :
  Sd (w.alloc (.cells #[.int .u16 h.age,.int .u8 h.opts,.int .u8 h.typ,.int .u32 h.id,.int .u32 h.adv,.int .i32 h.seq,.int .u16 h.sum,.int .u16 h.len,v] t)) w.heap.size h v :=
 ⟨⟨by simp [go_sem],by simp [go_sem],by simp [go_sem],by simp [go_sem],by simp [go_sem],by simp [go_sem],by simp [go_sem],by simp [go_sem]⟩,by simp [go_sem]⟩
end Go.Proofs.YtddbffoiadmffaaGreat
