import Derived.WalkKit
import Derived.Test.YtldmkoogghemhaaGreatTrInv
namespace Go.Proofs.YtldmkoogghemhaaGreat
set_option linter.unusedVariables false
def numBytes (n:Nat) (x:Int):List Int:=[x/16777216%256,x/65536%256,x/256%256,x%256].drop (4-n)
theorem Qaf {n:Nat} (h:n≤4) (x:Int):(numBytes n x).length=n:=by simp [numBytes];omega
theorem Qag (n:Nat) (x:Int):∀z∈numBytes n x,0≤z∧z<256:=by
 intro z hz
 have:=List.mem_of_mem_drop hz
 simp at this
 omega
theorem numBytes2 (x:Int):numBytes 2 x=[x/256%256,x%256]:=rfl
theorem numBytes4 (x:Int):numBytes 4 x=[x/16777216%256,x/65536%256,x/256%256,x%256]:=rfl
theorem numBytes3 (x:Int):numBytes 3 x=[x/65536%256,x/256%256,x%256]:=rfl
def numOf (l:List Int):Int:=l.foldl (fun v z=>256*v+z) 0
theorem Qia (l:List Int) (z:Int):numOf (l++[z])=256*numOf l+z:=by simp [numOf]
theorem Qfx (l:List Int) (h:∀z∈l,0≤z∧z<256):∀v:Int,0≤v→0≤l.foldl (fun v z=>256*v+z) v∧l.foldl (fun v z=>256*v+z) v<(v+1)*256 ^ l.length:=by
 induction l with
 | nil=>intro v hv;simp;omega
 | cons z r ih =>
  intro v hv
  have hz:=h z (by simp)
  have:=ih (fun z hz=>h z (by simp [hz])) (256*v+z) (by omega)
  refine⟨this.1,Int.lt_of_lt_of_le this.2 ?_⟩
  rw [List.length_cons,Int.pow_succ,Int.mul_comm (256 ^ r.length) 256,←Int.mul_assoc]
  exact Int.mul_le_mul_of_nonneg_right (by omega) (Int.pow_nonneg (by omega))
theorem Qdd (l:List Int) (h:∀z∈l,0≤z∧z<256):0≤numOf l∧numOf l<256 ^ l.length:=by
 have:=Qfx l h 0 (by omega)
 rw [show (0:Int)+1=1 by omega,Int.one_mul] at this
 exact this
theorem Qif (x:Int) (h0:0≤x) (h:x<65536):numOf (numBytes 2 x)=x:=by simp [numOf,numBytes2];omega
theorem Qga (x:Int) (h0:0≤x) (h:x<16777216):numOf (numBytes 3 x)=x:=by simp [numOf,numBytes3];omega
theorem Qa9 (x:Int) (h0:0≤x) (h:x<4294967296):numOf (numBytes 4 x)=x:=by simp [numOf,numBytes4];omega
theorem Qe5 (a b:Int) (ha:0≤a∧a<256) (hb:0≤b∧b<256):numBytes 2 (numOf [a,b])=[a,b]:=by simp [numOf,numBytes2];omega
theorem Qa0 (a b c d:Int) (ha:0≤a∧a<256) (hb:0≤b∧b<256) (hc:0≤c∧c<256) (hd:0≤d∧d<256):numBytes 4 (numOf [a,b,c,d])=[a,b,c,d]:=by
 simp [numOf,numBytes4];omega
def psz (n:Int):Int:=2 ^ (32-n).toNat
def pmask (n:Int):Int:=if n≤32 then 4294967296-psz n else 0
def pcut (a n:Int):Int:=a-a%psz n
theorem Qcc (n:Int):psz n=((2 ^ (32-n).toNat:Nat):Int):=by unfold psz;exact (Int.natCast_pow 2 _).symm
theorem Qi1 (n:Int):0<psz n:=by rw [Qcc];exact Int.ofNat_lt.2 (Nat.two_pow_pos _)
theorem Ql8 {n:Int} (h:0≤n):psz n≤4294967296:=by
 rw [Qcc]
 have:2 ^ (32-n).toNat≤2 ^ 32:=Nat.pow_le_pow_right (by omega) (by omega)
 have e:(2:Nat) ^ 32=4294967296:=by decide
 omega
theorem Ql5 {n m:Int} (h1:n<m) (h2:m≤32):psz m<psz n:=by
 rw [Qcc,Qcc]
 exact Int.ofNat_lt.2 (Nat.pow_lt_pow_right (by omega) (by omega))
theorem Qe0 (a k:Nat) (ha:a<2 ^ 32) (hk:k≤32):a &&& (2 ^ 32-2 ^ k)=a-a%2 ^ k:=by
 have e:a-a%2 ^ k=2 ^ k*(a/2 ^ k):=by have:=Nat.div_add_mod a (2 ^ k);omega
 have hp:0<2 ^ k:=Nat.two_pow_pos k
 have e2:2 ^ 32-2 ^ k=2 ^ 32-((2 ^ k-1)+1):=by omega
 have hlt:2 ^ k-1<2 ^ 32:=by have:=Nat.pow_le_pow_right (n:=2) (by omega) hk;omega
 rw [e]
 refine Nat.eq_of_testBit_eq fun i=>?_
 rw [Nat.testBit_and,e2,Nat.testBit_two_pow_sub_succ hlt,Nat.testBit_two_pow_sub_one,Nat.testBit_two_pow_mul]
 by_cases hi:k≤i
 ·rw [Nat.testBit_div_two_pow,Nat.sub_add_cancel hi]
  by_cases h32:i<32
  ·simp [hi,h32]
  ·have:a.testBit i=false:=Nat.testBit_lt_two_pow (Nat.lt_of_lt_of_le ha (Nat.pow_le_pow_right (by omega) (by omega)))
   simp [this]
 ·simp [hi];intros;omega
theorem Qkt {n:Int} (h:0≤n):0≤pmask n∧pmask n<4294967296:=by
 unfold pmask
 have:=Qi1 n;have:=Ql8 h
 split <;> omega
theorem Qby {n:Int} (h:n≤32):pmask n=4294967296-psz n:=by rw [pmask,if_pos h]
theorem Qgu {n:Int} (h:32<n):pmask n=0:=by rw [pmask,if_neg (by omega)]
theorem Qk6 {a n:Int} (h0:0≤a) (h1:a<4294967296) (hn0:0≤n) (hn:n≤32):bits .and .u32 a (pmask n)=pcut a n:=by
 have hb:=Qkt hn0
 rw [u32_and a _ h0 h1 hb.1 hb.2,Qby hn]
 obtain⟨A,rfl⟩:∃A:Nat,a=A:=⟨a.toNat,by omega⟩
 unfold pcut
 rw [Qcc]
 have hp:2 ^ (32-n).toNat≤2 ^ 32:=Nat.pow_le_pow_right (by omega) (by omega)
 have e:(4294967296-((2 ^ (32-n).toNat:Nat):Int)).toNat=2 ^ 32-2 ^ (32-n).toNat:=by omega
 rw [e,Int.toNat_natCast,Qe0 A _ (by omega) (by omega)]
 have:=Nat.mod_le A (2 ^ (32-n).toNat)
 omega
open Go.RowKit
set_option maxRecDepth 100000
def pfind (a:Int):Option Nat:=(List.range 33).find? fun n=>pmask n==a
def pbn (a:Int):Int:=(((pfind a).getD 0:Nat):Int)
def pbok (a:Int):Bool:=(pfind a).isSome
theorem Qjb {j k:Nat} (hj:j≤32) (hk:k≤32) (h:pmask j=pmask k):j=k:=by
 rw [Qby (by omega),Qby (by omega)] at h
 rcases Nat.lt_trichotomy j k with h' | h' | h'
 ·have:=Ql5 (n:=j) (m:=k) (by omega) (by omega);omega
 ·exact h'
 ·have:=Ql5 (n:=k) (m:=j) (by omega) (by omega);omega
theorem Qdt {a:Int} {k:Nat} (hk:k≤32) (h:pmask k=a):pfind a=some k:=by
 unfold pfind
 rw [List.find?_range_eq_some]
 refine⟨by simp [h],by simp;omega,fun j hj=>?_⟩
 simp
 intro e
 have:=Qjb (j:=j) (k:=k) (by omega) hk (by rw [e,h])
 omega
theorem Qd1 {a:Int} (h:∀k:Nat,k≤32→pmask k≠a):pfind a=none:=by
 unfold pfind
 rw [List.find?_eq_none]
 intro k hk
 simp at hk ⊢
 exact h k (by omega)
theorem Qmx (a:Int) (k:Nat):a*2 ^ k%4294967296*2%4294967296=a*2 ^ (k+1)%4294967296:=by
 rw [Int.pow_succ,←Int.mul_assoc]
 omega
theorem Qog (a:Int):a*2 ^ 32%4294967296=0:=by
 have e:(2:Int) ^ 32=4294967296:=by decide
 rw [e];omega
theorem Qde {j k:Nat} (hj:j≤32):pmask j*2 ^ k%4294967296=0↔j≤k:=by
 rw [Qby (by omega),Int.sub_mul]
 have e:psz j*2 ^ k=2 ^ (32-j+k):=by
  unfold psz
  rw [←Int.pow_add]
  congr 1;omega
 rw [e]
 constructor
 ·intro h
  rcases Nat.lt_or_ge k j with h' | h'
  ·have h1:(2:Int) ^ (32-j+k)=((2 ^ (32-j+k):Nat):Int):=(Int.natCast_pow 2 _).symm
   have h2:2 ^ (32-j+k)<2 ^ 32:=Nat.pow_lt_pow_right (by omega) (by omega)
   have h3:0<2 ^ (32-j+k):=Nat.two_pow_pos _
   have h4:(2:Nat) ^ 32=4294967296:=by decide
   rw [h1] at h
   omega
  ·exact h'
 ·intro h
  have h1:(2:Int) ^ (32-j+k)=4294967296*2 ^ (k-j):=by
   have e:(4294967296:Int)=2 ^ 32:=by decide
   rw [e,←Int.pow_add];congr 1;omega
  rw [h1,←Int.mul_sub]
  exact Int.mul_emod_right _ _
theorem Qmr {a:Int} {k:Nat} (hk:k≤32) (h0:a*2 ^ k%4294967296=0) (hl:∀j:Nat,j<k→a*2 ^ j%4294967296≠0):pfind a=if pmask k=a then some k else none:=by
 split
 ·rename_i h;exact Qdt hk h
 ·rename_i h
  refine Qd1 fun j hj e=>h ?_
  have h1:j≤k:=(Qde hj).1 (by rw [e];exact h0)
  rcases Nat.lt_or_ge j k with h2|h2
  ·exact absurd ((Qde (k:=j) hj).2 (Nat.le_refl _)) (by rw [e];exact hl j h2)
  ·obtain rfl:j=k:=by omega
   exact e
theorem Qfk {p:Nat→Prop} {k:Nat} (h:∀j:Nat,j<k→¬p j) (hk:¬p k):∀j:Nat,j<k+1→¬p j:=by
 intro j hj
 rcases Nat.lt_or_ge j k with h' | h'
 ·exact h j h'
 ·obtain rfl:j=k:=by omega
  exact hk
theorem Qmb {a:Int} {k:Nat} (h:pfind a=some k):pbn a=k∧pbok a=true:=by simp [pbn,pbok,h]
theorem Qop {a:Int} (h:pfind a=none):pbn a=0∧pbok a=false:=by simp [pbn,pbok,h]
structure HV where
 age:Int
 opts:Int
 typ:Int
 id:Int
 adv:Int
 seq:Int
 sum:Int
 len:Int
def HV.v (h:HV):Value:=.agg #[.int .u16 h.age,.int .u8 h.opts,.int .u8 h.typ,.int .u32 h.id,.int .u32 h.adv,.int .i32 h.seq,.int .u16 h.sum,.int .u16 h.len]
structure Hd (w:World) (g:Nat) (h:HV):Prop where
 c0:w.cell? ⟨g,0,none⟩=some (.int .u16 h.age)
 c1:w.cell? ⟨g,1,none⟩=some (.int .u8 h.opts)
 c2:w.cell? ⟨g,2,none⟩=some (.int .u8 h.typ)
 c3:w.cell? ⟨g,3,none⟩=some (.int .u32 h.id)
 c4:w.cell? ⟨g,4,none⟩=some (.int .u32 h.adv)
 c5:w.cell? ⟨g,5,none⟩=some (.int .i32 h.seq)
 c6:w.cell? ⟨g,6,none⟩=some (.int .u16 h.sum)
 c7:w.cell? ⟨g,7,none⟩=some (.int .u16 h.len)
theorem Hd.keep {w w':World} {g:Nat} {h:HV} (k:Hd w g h) (t:Touch (fun _=>False) w w'):Hd w' g h :=
 ⟨t.cellN k.c0,t.cellN k.c1,t.cellN k.c2,t.cellN k.c3,t.cellN k.c4,t.cellN k.c5,t.cellN k.c6,t.cellN k.c7⟩
theorem Hd.new (w:World) (h:HV) (t:TypeId) :
  Hd (w.alloc (.cells #[.int .u16 h.age,.int .u8 h.opts,.int .u8 h.typ,.int .u32 h.id,.int .u32 h.adv,.int .i32 h.seq,.int .u16 h.sum,.int .u16 h.len] t)) w.heap.size h :=
 ⟨by simp [go_sem],by simp [go_sem],by simp [go_sem],by simp [go_sem],by simp [go_sem],by simp [go_sem],by simp [go_sem],by simp [go_sem]⟩
def S0:List Int→Int
 | []=>0
 | x::r=>x+S0 r
def C1:Int→List Int→Int
 | _,[]=>0
 | n,x::r=>n*x+C1 (n-1) r
def S1 (l:List Int):Int:=C1 l.length l
theorem Qdp (a b:List Int):S0 (a++b)=S0 a+S0 b:=by
 induction a with
 | nil=>simp [S0]
 | cons x r ih=>simp only [List.cons_append,S0,ih];omega
theorem Qdf (n:Int) (a b:List Int):C1 n (a++b)=C1 n a+C1 (n-a.length) b:=by
 induction a generalizing n with
 | nil=>simp [C1]
 | cons x r ih =>
  simp only [List.cons_append,C1,ih,List.length_cons]
  rw [show n-1-(r.length:Int)=n-((r.length+1:Nat):Int) by omega]
  omega
theorem Qle (n d:Int) (l:List Int):C1 (n+d) l=C1 n l+d*S0 l:=by
 induction l generalizing n with
 | nil=>simp [C1,S0]
 | cons x r ih =>
  simp only [C1,S0]
  rw [show n+d-1=n-1+d by omega,ih]
  grind
theorem Qm1 (l:List Int) (x:Int):S1 (l++[x])=S1 l+S0 l+x:=by
 unfold S1
 rw [Qdf,List.length_append,show ((l.length+[x].length:Nat):Int)=(l.length:Int)+1 by simp,Qle]
 simp only [C1]
 rw [show (l.length:Int)+1-l.length=1 by omega]
 omega
structure Run (l:List Int) (a b:Int):Prop where
 c0:a%255=S0 l%255
 c1:b%255=S1 l%255
theorem Run.zero:Run [] 0 0:=⟨rfl,rfl⟩
theorem Run.snoc {l:List Int} {a b:Int} (h:Run l a b) (x:Int):Run (l++[x]) (a+x) (b+(a+x)):=by
 obtain⟨h0,h1⟩:=h
 refine⟨?_,?_⟩
 ·rw [Qdp];simp only [S0];omega
 ·rw [Qm1];omega
theorem Run.mod {l:List Int} {a b:Int} (h:Run l a b):Run l (a%255) (b%255):=by
 obtain⟨h0,h1⟩:=h
 exact⟨by omega,by omega⟩
def W:Bool→List Int→Int
 | _,[]=>0
 | true,x::r=>256*x+W false r
 | false,x::r=>x+W true r
def laid (l:List Int) (at':Nat) (x y:Int):List Int:=(l.set at' x).set (at'+1) y
theorem Qfy (l:List Int) (a:Nat) (x y:Int):(laid l a x y).length=l.length:=by simp [laid]
theorem Qgt (l:List Int) (i:Nat) (x:Int) (h:i<l.length):S0 (l.set i x)=S0 l+(x-l.getD i 0):=by
 induction l generalizing i with
 | nil=>simp at h
 | cons y r ih =>
  cases i with
  | zero=>simp [S0];omega
  | succ i =>
   have:=ih i (by simpa using h)
   simp only [Qo6,S0,this,List.getD_cons_succ]
   omega
theorem Qn6 (n:Int) (l:List Int) (i:Nat) (x:Int) (h:i<l.length):C1 n (l.set i x)=C1 n l+(n-i)*(x-l.getD i 0):=by
 induction l generalizing i n with
 | nil=>simp at h
 | cons y r ih =>
  cases i with
  | zero=>simp only [Qo5,C1,List.getD_cons_zero];grind
  | succ i =>
   have:=ih (n-1) i (by simpa using h)
   simp only [Qo6,C1,this,List.getD_cons_succ]
   rw [show n-1-(i:Int)=n-((i+1:Nat):Int) by omega]
   omega
theorem Qgv (l:List Int) (i:Nat) (x:Int) (h:i<l.length):S1 (l.set i x)=S1 l+((l.length:Int)-i)*(x-l.getD i 0):=by
 unfold S1
 rw [List.length_set,Qn6 _ _ _ _ h]
theorem Qa2 (l:List Int) (i j:Nat) (x:Int) (h:i≠j):(l.set i x).getD j 0=l.getD j 0:=by simp [List.getD,h]
theorem Qdn (l:List Int) (i:Nat) (x:Int) (h:i<l.length):(l.set i x).getD i 0=x:=by simp [List.getD,h]
theorem Qne (l:List Int) (a:Nat) (x y:Int) (h:a+2≤l.length):S0 (laid l a x y)=S0 (laid l a 0 0)+x+y:=by
 unfold laid
 rw [Qgt _ _ _ (by simp;omega),Qgt _ _ _ (by omega),Qgt _ _ _ (by simp;omega),Qgt _ _ _ (by omega),Qa2 _ _ _ _ (by omega),Qa2 _ _ _ _ (by omega)]
 omega
theorem Qm9 (l:List Int) (a:Nat) (x y:Int) (h:a+2≤l.length):S1 (laid l a x y)=S1 (laid l a 0 0)+((l.length:Int)-a)*x+((l.length:Int)-a-1)*y:=by
 unfold laid
 rw [Qgv _ _ _ (by simp;omega),Qgv _ _ _ (by omega),Qgv _ _ _ (by simp;omega),Qgv _ _ _ (by omega),Qa2 _ _ _ _ (by omega),Qa2 _ _ _ _ (by omega)]
 simp only [List.length_set]
 rw [show ((a+1:Nat):Int)=(a:Int)+1 by omega]
 grind
def fx (t c0 c1:Int):Int:=(t*c0+255-c1+254)%255+1
def fy (c0 x:Int):Int:=(510-c0-x+254)%255+1
theorem Qlk (t c0 c1:Int):1≤fx t c0 c1∧fx t c0 c1≤255:=by unfold fx;omega
theorem Qlu (c0 x:Int):1≤fy c0 x∧fy c0 x≤255:=by unfold fy;omega
theorem Qe2 {c0 c1 n t x y:Int} (ht:t=(n+254)%255) (hx:1≤x∧x≤255) (hy:1≤y∧y≤255) :
  ((c0+x+y)%255=0∧(c1+n*x+t*y)%255=0)↔x=fx t c0 c1∧y=fy c0 (fx t c0 c1):=by
 obtain⟨q,hq⟩:∃q,n=t+1+255*q:=⟨(n+254)/255-1,by omega⟩
 constructor
 ·rintro ⟨h1,h2⟩
  obtain⟨m,hm⟩:∃m,y=255*m-c0-x:=⟨(c0+x+y)/255,by omega⟩
  have e:c1+n*x+t*y=c1+x-t*c0+255*(q*x+t*m):=by rw [hq,hm];grind
  rw [e] at h2
  have hxx:x=fx t c0 c1:=by
   unfold fx
   generalize t*c0=P at *
   generalize q*x+t*m=R at *
   omega
  refine⟨hxx,?_⟩
  rw [←hxx]
  unfold fy
  omega
 ·rintro ⟨h1,h2⟩
  rw [←h1] at h2
  have k1:(c0+x+y)%255=0:=by rw [h2];unfold fy;omega
  refine⟨k1,?_⟩
  obtain⟨m,hm⟩:∃m,y=255*m-c0-x:=⟨(c0+x+y)/255,by omega⟩
  have e:c1+n*x+t*y=c1+x-t*c0+255*(q*x+t*m):=by rw [hq,hm];grind
  rw [e]
  unfold fx at h1
  generalize t*c0=P at *
  generalize q*x+t*m=R at *
  omega
def tms (l:List Int) (a:Nat):Int:=((l.length:Int)-a-1)%255
def flx (l:List Int) (a:Nat):Int:=fx (tms l a) (S0 (laid l a 0 0)%255) (S1 (laid l a 0 0)%255)
def fly (l:List Int) (a:Nat):Int:=fy (S0 (laid l a 0 0)%255) (flx l a)
theorem Qcd (l:List Int) (a:Nat):1≤flx l a∧flx l a≤255:=Qlk _ _ _
theorem Qcm (l:List Int) (a:Nat):1≤fly l a∧fly l a≤255:=Qlu _ _
def whole (l:List Int):Bool:=(S0 l%255==0)&&(S1 l%255==0)
theorem Qcj (l:List Int):whole l=true↔S0 l%255=0∧S1 l%255=0:=by simp [whole]
theorem Qhk (l:List Int) (a:Nat) (h:a+2≤l.length):whole (laid l a (flx l a) (fly l a))=true:=by
 rw [Qcj,Qne _ _ _ _ h,Qm9 _ _ _ _ h]
 have k:=(Qe2 (c0:=S0 (laid l a 0 0)%255) (c1:=S1 (laid l a 0 0)%255) (n:=(l.length:Int)-a) (t:=((l.length:Int)-a+254)%255) rfl (Qcd l a) (Qcm l a)).2
 have ht:tms l a=((l.length:Int)-a+254)%255:=by unfold tms;omega
 have k:=k ⟨by rw [←ht];rfl,by rw [←ht];rfl⟩
 obtain⟨k1,k2⟩:=k
 refine⟨by omega,?_⟩
 obtain⟨q,hq⟩:∃q,(l.length:Int)-a-1=((l.length:Int)-a+254)%255+255*q:=⟨((l.length:Int)-a-1)/255,by omega⟩
 rw [hq]
 have e:(((l.length:Int)-a+254)%255+255*q)*fly l a=((l.length:Int)-a+254)%255*fly l a+255*(q*fly l a):=by grind
 rw [e]
 generalize ((l.length:Int)-a+254)%255*fly l a=P at *
 generalize q*fly l a=Q at *
 generalize ((l.length:Int)-a)*flx l a=R at *
 omega
end Go.Proofs.YtldmkoogghemhaaGreat
