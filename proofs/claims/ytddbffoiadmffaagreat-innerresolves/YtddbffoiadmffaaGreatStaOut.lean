import Derived.WalkKit
import Derived.Test.YtddbffoiadmffaaGreatTrCat
namespace Go.Proofs.YtddbffoiadmffaaGreat
set_option linter.unusedVariables false
def numBytes (n:Nat) (x:Int):List Int:=[x/16777216%256,x/65536%256,x/256%256,x%256].drop (4-n)
theorem Qak {n:Nat} (h:n≤4) (x:Int):(numBytes n x).length=n:=by simp [numBytes];omega
theorem Qan (n:Nat) (x:Int):∀z∈numBytes n x,0≤z∧z<256:=by
 intro z hz
 have:=List.mem_of_mem_drop hz
 simp at this
 omega
theorem numBytes2 (x:Int):numBytes 2 x=[x/256%256,x%256]:=rfl
theorem numBytes4 (x:Int):numBytes 4 x=[x/16777216%256,x/65536%256,x/256%256,x%256]:=rfl
theorem numBytes3 (x:Int):numBytes 3 x=[x/65536%256,x/256%256,x%256]:=rfl
def numOf (l:List Int):Int:=l.foldl (fun v z=>256*v+z) 0
theorem Ql3 (l:List Int) (z:Int):numOf (l++[z])=256*numOf l+z:=by simp [numOf]
theorem Qi9 (l:List Int) (h:∀z∈l,0≤z∧z<256):∀v:Int,0≤v→0≤l.foldl (fun v z=>256*v+z) v∧l.foldl (fun v z=>256*v+z) v<(v+1)*256 ^ l.length:=by
 induction l with
 | nil=>intro v hv;simp;omega
 | cons z r ih =>
  intro v hv
  have hz:=h z (by simp)
  have:=ih (fun z hz=>h z (by simp [hz])) (256*v+z) (by omega)
  refine⟨this.1,Int.lt_of_lt_of_le this.2 ?_⟩
  rw [List.length_cons,Int.pow_succ,Int.mul_comm (256 ^ r.length) 256,←Int.mul_assoc]
  exact Int.mul_le_mul_of_nonneg_right (by omega) (Int.pow_nonneg (by omega))
theorem Qe0 (l:List Int) (h:∀z∈l,0≤z∧z<256):0≤numOf l∧numOf l<256 ^ l.length:=by
 have:=Qi9 l h 0 (by omega)
 rw [show (0:Int)+1=1 by omega,Int.one_mul] at this
 exact this
theorem Qh9 (x:Int) (h0:0≤x) (h:x<65536):numOf (numBytes 2 x)=x:=by simp [numOf,numBytes2];omega
theorem Qi8 (x:Int) (h0:0≤x) (h:x<16777216):numOf (numBytes 3 x)=x:=by simp [numOf,numBytes3];omega
theorem Qbb (x:Int) (h0:0≤x) (h:x<4294967296):numOf (numBytes 4 x)=x:=by simp [numOf,numBytes4];omega
theorem Qeb (a b:Int) (ha:0≤a∧a<256) (hb:0≤b∧b<256):numBytes 2 (numOf [a,b])=[a,b]:=by simp [numOf,numBytes2];omega
theorem Qdi (a b c d:Int) (ha:0≤a∧a<256) (hb:0≤b∧b<256) (hc:0≤c∧c<256) (hd:0≤d∧d<256):numBytes 4 (numOf [a,b,c,d])=[a,b,c,d]:=by
 simp [numOf,numBytes4];omega
def psz (n:Int):Int:=2 ^ (32-n).toNat
def pmask (n:Int):Int:=if n≤32 then 4294967296-psz n else 0
def pcut (a n:Int):Int:=a-a%psz n
theorem Qda (n:Int):psz n=((2 ^ (32-n).toNat:Nat):Int):=by unfold psz;exact (Int.natCast_pow 2 _).symm
theorem Qi2 (n:Int):0<psz n:=by rw [Qda];exact Int.ofNat_lt.2 (Nat.two_pow_pos _)
theorem Qsu {n:Int} (h:0≤n):psz n≤4294967296:=by
 rw [Qda]
 have:2 ^ (32-n).toNat≤2 ^ 32:=Nat.pow_le_pow_right (by omega) (by omega)
 have e:(2:Nat) ^ 32=4294967296:=by decide
 omega
theorem Qsr {n m:Int} (h1:n<m) (h2:m≤32):psz m<psz n:=by
 rw [Qda,Qda]
 exact Int.ofNat_lt.2 (Nat.pow_lt_pow_right (by omega) (by omega))
theorem Qh4 (a k:Nat) (ha:a<2 ^ 32) (hk:k≤32):a &&& (2 ^ 32-2 ^ k)=a-a%2 ^ k:=by
 have e:a-a%2 ^ k=2 ^ k*(a/2 ^ k):=by have:=Nat.div_add_mod a (2 ^ k);omega
 have hp:0<2 ^ k:=Nat.two_pow_pos k
 have e2:2 ^ 32-2 ^ k=2 ^ 32-((2 ^ k-1)+1):=by omega
 have hlt:2 ^ k-1<2 ^ 32:=by have:=Nat.pow_le_pow_right (n:=2) (by omega) hk;omega
 rw [e]
 refine Nat.eq_of_testBit_eq fun i=>?_
 rw [Nat.testBit_and,e2,Nat.testBit_two_pow_sub_succ hlt,Nat.testBit_two_pow_sub_one,Nat.testBit_two_pow_mul]
 by_cases hi:k≤i
 ·rw [Nat.testBit_div_two_pow,Nat.sub_add_cancel hi]
  by_cases h32:i<32
  ·simp [hi,h32]
  ·have:a.testBit i=false:=Nat.testBit_lt_two_pow (Nat.lt_of_lt_of_le ha (Nat.pow_le_pow_right (by omega) (by omega)))
   simp [this]
 ·simp [hi];intros;omega
theorem Qq4 {n:Int} (h:0≤n):0≤pmask n∧pmask n<4294967296:=by
 unfold pmask
 have:=Qi2 n;have:=Qsu h
 split <;> omega
theorem Qcj {n:Int} (h:n≤32):pmask n=4294967296-psz n:=by rw [pmask,if_pos h]
theorem Qku {n:Int} (h:32<n):pmask n=0:=by rw [pmask,if_neg (by omega)]
theorem Qur {a n:Int} (h0:0≤a) (h1:a<4294967296):0≤pcut a n∧pcut a n<4294967296:=by
 unfold pcut
 have:=Qi2 n
 have h2:=Int.emod_nonneg a (show psz n≠0 by omega)
 have h3:a%psz n≤a:=by
  rcases Int.lt_or_le a (psz n) with h|h
  ·rw [Int.emod_eq_of_lt h0 h];omega
  ·have:=Int.emod_lt_of_pos a (show 0<psz n by omega);omega
 omega
theorem Qpi {a n:Int} (h0:0≤a) (h1:a<4294967296) (hn0:0≤n) (hn:n≤32):bits .and .u32 a (pmask n)=pcut a n:=by
 have hb:=Qq4 hn0
 rw [u32_and a _ h0 h1 hb.1 hb.2,Qcj hn]
 obtain⟨A,rfl⟩:∃A:Nat,a=A:=⟨a.toNat,by omega⟩
 unfold pcut
 rw [Qda]
 have hp:2 ^ (32-n).toNat≤2 ^ 32:=Nat.pow_le_pow_right (by omega) (by omega)
 have e:(4294967296-((2 ^ (32-n).toNat:Nat):Int)).toNat=2 ^ 32-2 ^ (32-n).toNat:=by omega
 rw [e,Int.toNat_natCast,Qh4 A _ (by omega) (by omega)]
 have:=Nat.mod_le A (2 ^ (32-n).toNat)
 omega
open Go.RowKit
set_option maxRecDepth 100000
def pfind (a:Int):Option Nat:=(List.range 33).find? fun n=>pmask n==a
def pbn (a:Int):Int:=(((pfind a).getD 0:Nat):Int)
def pbok (a:Int):Bool:=(pfind a).isSome
theorem Qoq {j k:Nat} (hj:j≤32) (hk:k≤32) (h:pmask j=pmask k):j=k:=by
 rw [Qcj (by omega),Qcj (by omega)] at h
 rcases Nat.lt_trichotomy j k with h' | h' | h'
 ·have:=Qsr (n:=j) (m:=k) (by omega) (by omega);omega
 ·exact h'
 ·have:=Qsr (n:=k) (m:=j) (by omega) (by omega);omega
theorem Qfr {a:Int} {k:Nat} (hk:k≤32) (h:pmask k=a):pfind a=some k:=by
 unfold pfind
 rw [List.find?_range_eq_some]
 refine⟨by simp [h],by simp;omega,fun j hj=>?_⟩
 simp
 intro e
 have:=Qoq (j:=j) (k:=k) (by omega) hk (by rw [e,h])
 omega
theorem Qf6 {a:Int} (h:∀k:Nat,k≤32→pmask k≠a):pfind a=none:=by
 unfold pfind
 rw [List.find?_eq_none]
 intro k hk
 simp at hk ⊢
 exact h k (by omega)
theorem Qus (a:Int) (k:Nat):a*2 ^ k%4294967296*2%4294967296=a*2 ^ (k+1)%4294967296:=by
 rw [Int.pow_succ,←Int.mul_assoc]
 omega
theorem Qwd (a:Int):a*2 ^ 32%4294967296=0:=by
 have e:(2:Int) ^ 32=4294967296:=by decide
 rw [e];omega
theorem Qfe {j k:Nat} (hj:j≤32):pmask j*2 ^ k%4294967296=0↔j≤k:=by
 rw [Qcj (by omega),Int.sub_mul]
 have e:psz j*2 ^ k=2 ^ (32-j+k):=by
  unfold psz
  rw [←Int.pow_add]
  congr 1;omega
 rw [e]
 constructor
 ·intro h
  rcases Nat.lt_or_ge k j with h' | h'
  ·have h1:(2:Int) ^ (32-j+k)=((2 ^ (32-j+k):Nat):Int):=(Int.natCast_pow 2 _).symm
   have h2:2 ^ (32-j+k)<2 ^ 32:=Nat.pow_lt_pow_right (by omega) (by omega)
   have h3:0<2 ^ (32-j+k):=Nat.two_pow_pos _
   have h4:(2:Nat) ^ 32=4294967296:=by decide
   rw [h1] at h
   omega
  ·exact h'
 ·intro h
  have h1:(2:Int) ^ (32-j+k)=4294967296*2 ^ (k-j):=by
   have e:(4294967296:Int)=2 ^ 32:=by decide
   rw [e,←Int.pow_add];congr 1;omega
  rw [h1,←Int.mul_sub]
  exact Int.mul_emod_right _ _
theorem Qte {a:Int} {k:Nat} (hk:k≤32) (h0:a*2 ^ k%4294967296=0) (hl:∀j:Nat,j<k→a*2 ^ j%4294967296≠0):pfind a=if pmask k=a then some k else none:=by
 split
 ·rename_i h;exact Qfr hk h
 ·rename_i h
  refine Qf6 fun j hj e=>h ?_
  have h1:j≤k:=(Qfe hj).1 (by rw [e];exact h0)
  rcases Nat.lt_or_ge j k with h2|h2
  ·exact absurd ((Qfe (k:=j) hj).2 (Nat.le_refl _)) (by rw [e];exact hl j h2)
  ·obtain rfl:j=k:=by omega
   exact e
theorem Qg4 {p:Nat→Prop} {k:Nat} (h:∀j:Nat,j<k→¬p j) (hk:¬p k):∀j:Nat,j<k+1→¬p j:=by
 intro j hj
 rcases Nat.lt_or_ge j k with h' | h'
 ·exact h j h'
 ·obtain rfl:j=k:=by omega
  exact hk
theorem Qsz {a:Int} {k:Nat} (h:pfind a=some k):pbn a=k∧pbok a=true:=by simp [pbn,pbok,h]
theorem Qwm {a:Int} (h:pfind a=none):pbn a=0∧pbok a=false:=by simp [pbn,pbok,h]
structure HV where
 age:Int
 opts:Int
 typ:Int
 id:Int
 adv:Int
 seq:Int
 sum:Int
 len:Int
def HV.v (h:HV):Value:=.agg #[.int .u16 h.age,.int .u8 h.opts,.int .u8 h.typ,.int .u32 h.id,.int .u32 h.adv,.int .i32 h.seq,.int .u16 h.sum,.int .u16 h.len]
structure Hd (w:World) (g:Nat) (h:HV):Prop where
 c0:w.cell? ⟨g,0,none⟩=some (.int .u16 h.age)
 c1:w.cell? ⟨g,1,none⟩=some (.int .u8 h.opts)
 c2:w.cell? ⟨g,2,none⟩=some (.int .u8 h.typ)
 c3:w.cell? ⟨g,3,none⟩=some (.int .u32 h.id)
 c4:w.cell? ⟨g,4,none⟩=some (.int .u32 h.adv)
 c5:w.cell? ⟨g,5,none⟩=some (.int .i32 h.seq)
 c6:w.cell? ⟨g,6,none⟩=some (.int .u16 h.sum)
 c7:w.cell? ⟨g,7,none⟩=some (.int .u16 h.len)
theorem Hd.keep {w w':World} {g:Nat} {h:HV} (k:Hd w g h) (t:Touch (fun _=>False) w w'):Hd w' g h :=
 ⟨t.cellN k.c0,t.cellN k.c1,t.cellN k.c2,t.cellN k.c3,t.cellN k.c4,t.cellN k.c5,t.cellN k.c6,t.cellN k.c7⟩
theorem Hd.new (w:World) (h:HV) (t:TypeId) :
  Hd (w.alloc (.cells #[.int .u16 h.age,.int .u8 h.opts,.int .u8 h.typ,.int .u32 h.id,.int .u32 h.adv,.int .i32 h.seq,.int .u16 h.sum,.int .u16 h.len] t)) w.heap.size h :=
 ⟨by simp [go_sem],by simp [go_sem],by simp [go_sem],by simp [go_sem],by simp [go_sem],by simp [go_sem],by simp [go_sem],by simp [go_sem]⟩
def S0:List Int→Int
 | []=>0
 | x::r=>x+S0 r
def C1:Int→List Int→Int
 | _,[]=>0
 | n,x::r=>n*x+C1 (n-1) r
def S1 (l:List Int):Int:=C1 l.length l
theorem Qet (a b:List Int):S0 (a++b)=S0 a+S0 b:=by
 induction a with
 | nil=>simp [S0]
 | cons x r ih=>simp only [List.cons_append,S0,ih];omega
theorem Qes (n:Int) (a b:List Int):C1 n (a++b)=C1 n a+C1 (n-a.length) b:=by
 induction a generalizing n with
 | nil=>simp [C1]
 | cons x r ih =>
  simp only [List.cons_append,C1,ih,List.length_cons]
  rw [show n-1-(r.length:Int)=n-((r.length+1:Nat):Int) by omega]
  omega
theorem Qpp (n d:Int) (l:List Int):C1 (n+d) l=C1 n l+d*S0 l:=by
 induction l generalizing n with
 | nil=>simp [C1,S0]
 | cons x r ih =>
  simp only [C1,S0]
  rw [show n+d-1=n-1+d by omega,ih]
  grind
theorem Qtx (l:List Int) (x:Int):S1 (l++[x])=S1 l+S0 l+x:=by
 unfold S1
 rw [Qes,List.length_append,show ((l.length+[x].length:Nat):Int)=(l.length:Int)+1 by simp,Qpp]
 simp only [C1]
 rw [show (l.length:Int)+1-l.length=1 by omega]
 omega
structure Run (l:List Int) (a b:Int):Prop where
 c0:a%255=S0 l%255
 c1:b%255=S1 l%255
theorem Run.zero:Run [] 0 0:=⟨rfl,rfl⟩
theorem Run.snoc {l:List Int} {a b:Int} (h:Run l a b) (x:Int):Run (l++[x]) (a+x) (b+(a+x)):=by
 obtain⟨h0,h1⟩:=h
 refine⟨?_,?_⟩
 ·rw [Qet];simp only [S0];omega
 ·rw [Qtx];omega
theorem Run.mod {l:List Int} {a b:Int} (h:Run l a b):Run l (a%255) (b%255):=by
 obtain⟨h0,h1⟩:=h
 exact⟨by omega,by omega⟩
def W:Bool→List Int→Int
 | _,[]=>0
 | true,x::r=>256*x+W false r
 | false,x::r=>x+W true r
def laid (l:List Int) (at':Nat) (x y:Int):List Int:=(l.set at' x).set (at'+1) y
theorem Qjk (l:List Int) (a:Nat) (x y:Int):(laid l a x y).length=l.length:=by simp [laid]
theorem Qwt (l:List Int) (a:Nat) (x y:Int) (h:a+2≤l.length):laid l a x y=l.take a++(x::y::l.drop (a+2)):=by
 unfold laid
 rw [List.set_eq_take_append_cons_drop,if_pos (by simp;omega),List.take_set,List.drop_set]
 rw [if_pos (by omega),List.set_eq_take_append_cons_drop,if_pos (by simp;omega)]
 rw [List.take_take,Nat.min_eq_left (by omega),List.append_assoc]
 simp
theorem Qj2 (l:List Int) (i:Nat) (x:Int) (h:i<l.length):S0 (l.set i x)=S0 l+(x-l.getD i 0):=by
 induction l generalizing i with
 | nil=>simp at h
 | cons y r ih =>
  cases i with
  | zero=>simp [S0];omega
  | succ i =>
   have:=ih i (by simpa using h)
   simp only [Qw4,S0,this,List.getD_cons_succ]
   omega
theorem Qwk (n:Int) (l:List Int) (i:Nat) (x:Int) (h:i<l.length):C1 n (l.set i x)=C1 n l+(n-i)*(x-l.getD i 0):=by
 induction l generalizing i n with
 | nil=>simp at h
 | cons y r ih =>
  cases i with
  | zero=>simp only [Qw3,C1,List.getD_cons_zero];grind
  | succ i =>
   have:=ih (n-1) i (by simpa using h)
   simp only [Qw4,C1,this,List.getD_cons_succ]
   rw [show n-1-(i:Int)=n-((i+1:Nat):Int) by omega]
   omega
theorem Qkm (l:List Int) (i:Nat) (x:Int) (h:i<l.length):S1 (l.set i x)=S1 l+((l.length:Int)-i)*(x-l.getD i 0):=by
 unfold S1
 rw [List.length_set,Qwk _ _ _ _ h]
theorem Qbg (l:List Int) (i j:Nat) (x:Int) (h:i≠j):(l.set i x).getD j 0=l.getD j 0:=by simp [List.getD,h]
theorem Qe2 (l:List Int) (i:Nat) (x:Int) (h:i<l.length):(l.set i x).getD i 0=x:=by simp [List.getD,h]
theorem Qt2 (l:List Int) (a:Nat) (x y:Int) (h:a+2≤l.length):S0 (laid l a x y)=S0 (laid l a 0 0)+x+y:=by
 unfold laid
 rw [Qj2 _ _ _ (by simp;omega),Qj2 _ _ _ (by omega),Qj2 _ _ _ (by simp;omega),Qj2 _ _ _ (by omega),Qbg _ _ _ _ (by omega),Qbg _ _ _ _ (by omega)]
 omega
theorem Qtb (l:List Int) (a:Nat) (x y:Int) (h:a+2≤l.length):S1 (laid l a x y)=S1 (laid l a 0 0)+((l.length:Int)-a)*x+((l.length:Int)-a-1)*y:=by
 unfold laid
 rw [Qkm _ _ _ (by simp;omega),Qkm _ _ _ (by omega),Qkm _ _ _ (by simp;omega),Qkm _ _ _ (by omega),Qbg _ _ _ _ (by omega),Qbg _ _ _ _ (by omega)]
 simp only [List.length_set]
 rw [show ((a+1:Nat):Int)=(a:Int)+1 by omega]
 grind
def fx (t c0 c1:Int):Int:=(t*c0+255-c1+254)%255+1
def fy (c0 x:Int):Int:=(510-c0-x+254)%255+1
theorem Qpq (t c0 c1:Int):1≤fx t c0 c1∧fx t c0 c1≤255:=by unfold fx;omega
theorem Qrc (c0 x:Int):1≤fy c0 x∧fy c0 x≤255:=by unfold fy;omega
theorem Qhz {c0 c1 n t x y:Int} (ht:t=(n+254)%255) (hx:1≤x∧x≤255) (hy:1≤y∧y≤255) :
  ((c0+x+y)%255=0∧(c1+n*x+t*y)%255=0)↔x=fx t c0 c1∧y=fy c0 (fx t c0 c1):=by
 obtain⟨q,hq⟩:∃q,n=t+1+255*q:=⟨(n+254)/255-1,by omega⟩
 constructor
 ·rintro ⟨h1,h2⟩
  obtain⟨m,hm⟩:∃m,y=255*m-c0-x:=⟨(c0+x+y)/255,by omega⟩
  have e:c1+n*x+t*y=c1+x-t*c0+255*(q*x+t*m):=by rw [hq,hm];grind
  rw [e] at h2
  have hxx:x=fx t c0 c1:=by
   unfold fx
   generalize t*c0=P at *
   generalize q*x+t*m=R at *
   omega
  refine⟨hxx,?_⟩
  rw [←hxx]
  unfold fy
  omega
 ·rintro ⟨h1,h2⟩
  rw [←h1] at h2
  have k1:(c0+x+y)%255=0:=by rw [h2];unfold fy;omega
  refine⟨k1,?_⟩
  obtain⟨m,hm⟩:∃m,y=255*m-c0-x:=⟨(c0+x+y)/255,by omega⟩
  have e:c1+n*x+t*y=c1+x-t*c0+255*(q*x+t*m):=by rw [hq,hm];grind
  rw [e]
  unfold fx at h1
  generalize t*c0=P at *
  generalize q*x+t*m=R at *
  omega
def tms (l:List Int) (a:Nat):Int:=((l.length:Int)-a-1)%255
def flx (l:List Int) (a:Nat):Int:=fx (tms l a) (S0 (laid l a 0 0)%255) (S1 (laid l a 0 0)%255)
def fly (l:List Int) (a:Nat):Int:=fy (S0 (laid l a 0 0)%255) (flx l a)
theorem Qdr (l:List Int) (a:Nat):1≤flx l a∧flx l a≤255:=Qpq _ _ _
theorem Qdh (l:List Int) (a:Nat):1≤fly l a∧fly l a≤255:=Qrc _ _
def whole (l:List Int):Bool:=(S0 l%255==0)&&(S1 l%255==0)
theorem Qdb (l:List Int):whole l=true↔S0 l%255=0∧S1 l%255=0:=by simp [whole]
theorem Qle (l:List Int) (a:Nat) (h:a+2≤l.length):whole (laid l a (flx l a) (fly l a))=true:=by
 rw [Qdb,Qt2 _ _ _ _ h,Qtb _ _ _ _ h]
 have k:=(Qhz (c0:=S0 (laid l a 0 0)%255) (c1:=S1 (laid l a 0 0)%255) (n:=(l.length:Int)-a) (t:=((l.length:Int)-a+254)%255) rfl (Qdr l a) (Qdh l a)).2
 have ht:tms l a=((l.length:Int)-a+254)%255:=by unfold tms;omega
 have k:=k ⟨by rw [←ht];rfl,by rw [←ht];rfl⟩
 obtain⟨k1,k2⟩:=k
 refine⟨by omega,?_⟩
 obtain⟨q,hq⟩:∃q,(l.length:Int)-a-1=((l.length:Int)-a+254)%255+255*q:=⟨((l.length:Int)-a-1)/255,by omega⟩
 rw [hq]
 have e:(((l.length:Int)-a+254)%255+255*q)*fly l a=((l.length:Int)-a+254)%255*fly l a+255*(q*fly l a):=by grind
 rw [e]
 generalize ((l.length:Int)-a+254)%255*fly l a=P at *
 generalize q*fly l a=Q at *
 generalize ((l.length:Int)-a)*flx l a=R at *
 omega
structure LV where
 id:Int
 data:Int
 typ:Int
 cost:Int
structure BV where
 flags:Int
 links:List LV
 mask:Int
 routers:List Int
 metric:Int
 type2:Bool
 fwd:Int
 tag:Int
 data:List Int
def BV.zero:BV:=⟨0,[],0,[],0,false,0,0,[]⟩
structure LV.Ok (x:LV):Prop where
 i:0≤x.id∧x.id<4294967296
 d:0≤x.data∧x.data<4294967296
 t:0≤x.typ∧x.typ<256
 c:0≤x.cost∧x.cost<65536
structure BV.Ok (b:BV):Prop where
 f:0≤b.flags∧b.flags<256
 l:∀x∈b.links,x.Ok
 m:0≤b.mask∧b.mask<4294967296
 r:∀x∈b.routers,0≤x∧x<4294967296
 e:0≤b.metric∧b.metric<4294967296
 w:0≤b.fwd∧b.fwd<4294967296
 t:0≤b.tag∧b.tag<4294967296
 d:∀x∈b.data,0≤x∧x<256
structure HV.All (h:HV):Prop where
 a:0≤h.age∧h.age<65536
 o:0≤h.opts∧h.opts<256
 t:0≤h.typ∧h.typ<256
 i:0≤h.id∧h.id<4294967296
 v:0≤h.adv∧h.adv<4294967296
 s : -2147483648≤h.seq∧h.seq≤2147483647
 m:0≤h.sum∧h.sum<65536
 l:0≤h.len∧h.len<65536
def headB (h:HV):List Int:=numBytes 2 h.age++[h.opts,h.typ]++numBytes 4 h.id++numBytes 4 h.adv++numBytes 4 (h.seq%4294967296)++numBytes 2 h.sum++numBytes 2 h.len
theorem Qa3 (h:HV):(headB h).length=20:=by simp [headB,numBytes]
theorem Qbk {h:HV} (ok:h.All):∀z∈headB h,0≤z∧z<256:=by
 intro z hz
 simp only [headB,List.mem_append] at hz
 rcases hz with ((((((hz|hz)|hz)|hz)|hz)|hz)|hz)
 ·exact Qan _ _ z hz
 ·have h1:=ok.o
  have h2:=ok.t
  simp at hz
  rcases hz with rfl|rfl <;> omega
 ·exact Qan _ _ z hz
 ·exact Qan _ _ z hz
 ·exact Qan _ _ z hz
 ·exact Qan _ _ z hz
 ·exact Qan _ _ z hz
def linkB (x:LV):List Int:=numBytes 4 x.id++numBytes 4 x.data++[x.typ,0]++numBytes 2 x.cost
theorem Qg2 (x:LV):(linkB x).length=12:=by simp [linkB,numBytes]
def linksB (l:List LV):List Int:=l.flatMap linkB
def routersB (l:List Int):List Int:=l.flatMap (numBytes 4)
theorem Qci (l:List LV):(linksB l).length=12*l.length:=by
 induction l with
 | nil=>rfl
 | cons x r ih=>unfold linksB at *;rw [List.flatMap_cons,List.length_append,ih,Qg2,List.length_cons];omega
theorem Qcy (l:List Int):(routersB l).length=4*l.length:=by
 induction l with
 | nil=>rfl
 | cons x r ih=>unfold routersB at *;rw [List.flatMap_cons,List.length_append,ih,Qak (by omega),List.length_cons];omega
theorem Qik (l:List LV) (x:LV):linksB (l++[x])=linksB l++linkB x:=by simp [linksB]
theorem Qgk (l:List Int) (x:Int):routersB (l++[x])=routersB l++numBytes 4 x:=by simp [routersB]
def metricN (b:BV):Int:=if b.type2 then (b.metric+2147483648)%4294967296 else b.metric
def layB (t:Int) (b:BV):List Int :=
 if t=1 then [b.flags,0]++numBytes 2 ((b.links.length:Int)%65536)++linksB b.links
 else if t=2 then numBytes 4 b.mask++routersB b.routers
 else if t=3∨t=4 then numBytes 4 b.mask++numBytes 4 b.metric
 else if t=5∨t=7 then numBytes 4 b.mask++numBytes 4 (metricN b)++numBytes 4 b.fwd++numBytes 4 b.tag
 else b.data
def sizeB (t:Int) (b:BV):Int :=
 if t=1 then 4+12*(b.links.length:Int) else if t=2 then 4+4*(b.routers.length:Int) else if t=3∨t=4 then 8 else if t=5∨t=7 then 16 else (b.data.length:Int)
theorem Qbh (t:Int) (b:BV):((layB t b).length:Int)=sizeB t b:=by
 unfold layB sizeB
 split
 ·simp [Qci,numBytes];omega
 ·split
  ·simp [Qcy,numBytes];omega
  ·split
   ·simp [numBytes]
   ·split
    ·simp [numBytes]
    ·rfl
def knownB (t:Int):Bool:=(decide (1≤t)&&decide (t≤5)) || decide (t=7) || (decide (9≤t)&&decide (t≤11))
def aloneB (t:Int) (b:BV):Bool :=
 decide (t=1∨(b.flags=0∧b.links.length=0))&&decide (t=2∨b.routers.length=0)&&decide (t=2∨t=3∨t=5∨t=7∨b.mask=0)&&decide (t=3∨t=4∨t=5∨t=7∨b.metric=0)
  && decide (t=5∨t=7∨(b.type2=false∧b.fwd=0∧b.tag=0))&&decide (9≤t∨b.data.length=0)
def mayB (t:Int) (b:BV):Bool :=
 aloneB t b&&pbok b.mask&&decide (b.metric≤16777215)&&decide (b.data.length%4=0)&&decide (t=2→0<b.routers.length)&&b.links.all (fun x=>decide (1≤x.typ∧x.typ≤4))
structure May (t:Int) (b:BV):Prop where
 a1:t=1∨(b.flags=0∧b.links.length=0)
 a2:t=2∨b.routers.length=0
 a3:t=2∨t=3∨t=5∨t=7∨b.mask=0
 a4:t=3∨t=4∨t=5∨t=7∨b.metric=0
 a5:t=5∨t=7∨(b.type2=false∧b.fwd=0∧b.tag=0)
 a6:9≤t∨b.data.length=0
 mask:pbok b.mask=true
 met:b.metric≤16777215
 dat:b.data.length%4=0
 rou:t=2→0<b.routers.length
 lin:∀x∈b.links,1≤x.typ∧x.typ≤4
theorem Qem (t:Int) (b:BV):mayB t b=true↔May t b:=by
 unfold mayB aloneB
 simp only [Bool.and_eq_true,decide_eq_true_eq,List.all_eq_true]
 constructor
 ·rintro ⟨⟨⟨⟨⟨⟨⟨⟨⟨⟨h1,h2⟩,h3⟩,h4⟩,h5⟩,h6⟩,h7⟩,h8⟩,h9⟩,h10⟩,h11⟩
  exact⟨h1,h2,h3,h4,h5,h6,h7,h8,h9,h10,h11⟩
 ·rintro ⟨h1,h2,h3,h4,h5,h6,h7,h8,h9,h10,h11⟩
  exact⟨⟨⟨⟨⟨⟨⟨⟨⟨⟨h1,h2⟩,h3⟩,h4⟩,h5⟩,h6⟩,h7⟩,h8⟩,h9⟩,h10⟩,h11⟩
def readLinks:List Int→List LV
 | a::b::c::d::e::f::g::h::i::j::k::l::r=>⟨numOf [a,b,c,d],numOf [e,f,g,h],i,numOf [k,l]⟩::readLinks r
 | _=>[]
def readRouters:List Int→List Int
 | a::b::c::d::r=>numOf [a,b,c,d]::readRouters r
 | _=>[]
theorem Qeg (ls:List LV) (h:∀x∈ls,x.Ok):readLinks (linksB ls)=ls:=by
 induction ls with
 | nil=>rfl
 | cons x r ih =>
  have hx:=h x (by simp)
  have hr:=ih (fun y hy=>h y (by simp [hy]))
  have e:linksB (x::r)=linkB x++linksB r:=by simp [linksB]
  rw [e]
  obtain⟨i,d,t,c⟩:=x
  obtain⟨⟨i0,i1⟩,⟨d0,d1⟩,⟨t0,t1⟩,⟨c0,c1⟩⟩:=hx
  dsimp only at i0 i1 d0 d1 t0 t1 c0 c1
  have e1:=Qbb i i0 i1
  have e2:=Qbb d d0 d1
  have e3:=Qh9 c c0 c1
  rw [numBytes4] at e1 e2
  rw [numBytes2] at e3
  simp only [linkB,numBytes4,numBytes2,List.cons_append,List.nil_append,readLinks,hr]
  rw [e1,e2,e3]
theorem Qc5 (ls:List Int) (h:∀x∈ls,0≤x∧x<4294967296):readRouters (routersB ls)=ls:=by
 induction ls with
 | nil=>rfl
 | cons x r ih =>
  have hx:=h x (by simp)
  have hr:=ih (fun y hy=>h y (by simp [hy]))
  have e:routersB (x::r)=numBytes 4 x++routersB r:=by simp [routersB]
  rw [e]
  have e1:=Qbb x hx.1 hx.2
  rw [numBytes4] at e1
  simp only [numBytes4,List.cons_append,List.nil_append,readRouters,hr]
  rw [e1]
def readB (t:Int) (l:List Int):Option BV :=
 if t=1 then (if l.length<4 then none else some ⟨l.getD 0 0,readLinks (l.drop 4),0,[],0,false,0,0,[]⟩)
 else if t=2 then (if l.length<4 then none else some ⟨0,[],numOf (l.take 4),readRouters (l.drop 4),0,false,0,0,[]⟩)
 else if t=3∨t=4 then (if l.length≠8 then none else some ⟨0,[],numOf (l.take 4),[],numOf ((l.drop 4).take 4),false,0,0,[]⟩)
 else if t=5∨t=7 then (if l.length≠16 then none else some ⟨0,[],numOf (l.take 4),[],numOf ((l.drop 5).take 3),l.getD 4 0==128,numOf ((l.drop 8).take 4),numOf ((l.drop 12).take 4),[]⟩)
 else some ⟨0,[],0,[],0,false,0,0,l⟩
def decB (t:Int) (l:List Int):Option BV :=
 match readB t l with
 | none=>none
 | some b=>if mayB t b=true∧layB t b=l then some b else none
theorem Qb2 {t:Int} {l:List Int} {b:BV} (h:decB t l=some b):readB t l=some b∧May t b∧layB t b=l:=by
 unfold decB at h
 split at h
 ·cases h
 ·rename_i c hc
  split at h
  ·rename_i hm
   cases h
   exact⟨hc,(Qem _ _).1 hm.1,hm.2⟩
  ·cases h
theorem Qll {t:Int} {b:BV} (ok:b.Ok) (m:May t b):readB t (layB t b)=some b:=by
 obtain⟨fl,ls,ma,rs,me,t2,fw,tg,da⟩:=b
 obtain⟨⟨f0,f1⟩,okl,⟨m0,m1⟩,okr,⟨e0,e1⟩,⟨w0,w1⟩,⟨g0,g1⟩,okd⟩:=ok
 obtain⟨a1,a2,a3,a4,a5,a6,hm,hme,hda,hro,hli⟩:=m
 dsimp only at *
 unfold readB layB
 have n4:=Qbb ma m0 m1
 rw [numBytes4] at n4
 by_cases h1:t=1
 ·obtain rfl:da=[]:=List.length_eq_zero_iff.1 (by omega)
  obtain rfl:rs=[]:=List.length_eq_zero_iff.1 (by omega)
  obtain rfl:ma=0:=by omega
  obtain rfl:me=0:=by omega
  obtain⟨rfl,rfl,rfl⟩:t2=false∧fw=0∧tg=0:=by rcases a5 with h|h|h;omega;omega;exact h
  rw [if_pos h1,if_pos h1,numBytes2]
  simp only [List.cons_append,List.nil_append,List.length_cons]
  rw [if_neg (by omega)]
  simp [List.getD,Qeg ls okl]
 ·have hb:fl=0∧ls.length=0:=by rcases a1 with h|h;exact absurd h h1;exact h
  obtain⟨rfl,hb⟩:=hb
  obtain rfl:ls=[]:=List.length_eq_zero_iff.1 hb
  rw [if_neg h1,if_neg h1]
  by_cases h2:t=2
  ·obtain rfl:da=[]:=List.length_eq_zero_iff.1 (by omega)
   obtain rfl:me=0:=by omega
   obtain⟨rfl,rfl,rfl⟩:t2=false∧fw=0∧tg=0:=by rcases a5 with h|h|h;omega;omega;exact h
   rw [if_pos h2,if_pos h2,numBytes4]
   simp only [List.cons_append,List.nil_append,List.length_cons]
   rw [if_neg (by omega)]
   simp only [List.take,List.drop,n4,Qc5 rs okr]
  ·obtain rfl:rs=[]:=List.length_eq_zero_iff.1 (by omega)
   rw [if_neg h2,if_neg h2]
   by_cases h3:t=3∨t=4
   ·obtain rfl:da=[]:=List.length_eq_zero_iff.1 (by omega)
    obtain⟨rfl,rfl,rfl⟩:t2=false∧fw=0∧tg=0:=by rcases a5 with h|h|h;omega;omega;exact h
    have n5:=Qbb me e0 e1
    rw [numBytes4] at n5
    rw [if_pos h3,if_pos h3,numBytes4,numBytes4]
    simp only [List.cons_append,List.nil_append,List.length_cons,List.length_nil]
    rw [if_neg (by omega)]
    simp only [List.take,List.drop,n4,n5]
   ·rw [if_neg h3,if_neg h3]
    by_cases h4:t=5∨t=7
    ·obtain rfl:da=[]:=List.length_eq_zero_iff.1 (by omega)
     rw [if_pos h4,if_pos h4,numBytes4,numBytes4,numBytes4,numBytes4]
     have n6:=Qbb fw w0 w1
     have n7:=Qbb tg g0 g1
     rw [numBytes4] at n6 n7
     have n8:=Qi8 me e0 (by omega)
     rw [numBytes3] at n8
     simp only [List.cons_append,List.nil_append,List.length_cons,List.length_nil]
     rw [if_neg (by omega)]
     cases t2 with
     | false =>
      simp only [metricN,Bool.false_eq_true,if_false,List.take,List.drop,List.getD,List.getElem?_cons_succ,List.getElem?_cons_zero,Option.getD,n4,n6,n7]
      rw [n8,show (me/16777216%256==128)=false by simp;omega]
     | true =>
      simp only [metricN,if_true,List.take,List.drop,List.getD,List.getElem?_cons_succ,List.getElem?_cons_zero,Option.getD,n4,n6,n7]
      rw [show (me+2147483648)%4294967296=me+2147483648 by omega]
      rw [show (me+2147483648)/65536%256=me/65536%256 by omega,show (me+2147483648)/256%256=me/256%256 by omega,show (me+2147483648)%256=me%256 by omega,n8,
       show ((me+2147483648)/16777216%256==128)=true by simp;omega]
    ·have hb:t2=false∧fw=0∧tg=0:=by rcases a5 with h|h|h;omega;omega;exact h
     obtain⟨rfl,rfl,rfl⟩:=hb
     obtain rfl:ma=0:=by omega
     obtain rfl:me=0:=by omega
     rw [if_neg h4,if_neg h4]
theorem Qfg {t:Int} {b:BV} (ok:b.Ok) (m:May t b):decB t (layB t b)=some b:=by
 unfold decB
 rw [Qll ok m]
 exact if_pos ⟨(Qem _ _).2 m,rfl⟩
def sealS (h:HV) (l:List Int):Int:=256*flx ((headB { h with len:=20+(l.length:Int) }++l).drop 2) 14+fly ((headB { h with len:=20+(l.length:Int) }++l).drop 2) 14
def sealH (h:HV) (l:List Int):HV:={ h with len:=20+(l.length:Int),sum:=sealS h l }
def LV.cells (x:LV):List Value:=[.int .u32 x.id,.int .u32 x.data,.int .u8 x.typ,.int .u16 x.cost]
def linksC (l:List LV):List Value:=l.flatMap LV.cells
def wordsC (l:List Int):List Value:=l.map (Value.int .u32)
theorem Qcg (a b:List LV):linksC (a++b)=linksC a++linksC b:=by simp [linksC]
theorem Qbs (l:List LV) (j i:Nat) (x:LV) (hj:l[j]?=some x) (hi:i<4):(linksC l)[j*4+i]?=x.cells[i]?:=by
 induction l generalizing j with
 | nil=>simp at hj
 | cons y r ih =>
  have e:linksC (y::r)=y.cells++linksC r:=by simp [linksC]
  have hl:y.cells.length=4:=rfl
  rw [e]
  cases j with
  | zero =>
   obtain rfl:y=x:=by simpa using hj
   rw [List.getElem?_append_left (by omega),Nat.zero_mul,Nat.zero_add]
  | succ j =>
   rw [List.getElem?_append_right (by omega),hl,show (j+1)*4+i-4=j*4+i by omega]
   exact ih j (by simpa using hj)
def LinksAt (w:World) (v:Value) (l:List LV):Prop:=ValsAt w 4 v l.length (linksC l)
def WordsAt (w:World) (v:Value) (l:List Int):Prop:=ValsAt w 1 v l.length (wordsC l)
theorem LinksAt.keep {w w':World} {v:Value} {l:List LV} (h:LinksAt w v l) (t:Touch (fun _=>False) w w'):LinksAt w' v l:=ValsAt.keep h t
theorem WordsAt.keep {w w':World} {v:Value} {l:List Int} (h:WordsAt w v l) (t:Touch (fun _=>False) w w'):WordsAt w' v l:=ValsAt.keep h t
theorem ArgAt.keepN {w w':World} {v:Value} {l:List Int} (h:ArgAt w v l) (t:Touch (fun _=>False) w w'):ArgAt w' v l:=h.keep t (fun _ _ h=>h)
def BV.v (b:BV) (vl vr vd:Value):Value:=.agg #[.int .u8 b.flags,vl,.int .u32 b.mask,vr,.int .u32 b.metric,.bool b.type2,.int .u32 b.fwd,.int .u32 b.tag,vd]
structure BArg (w:World) (b:BV) (vl vr vd:Value):Prop where
 l:LinksAt w vl b.links
 r:WordsAt w vr b.routers
 d:ArgAt w vd b.data
theorem BArg.keep {w w':World} {b:BV} {vl vr vd:Value} (h:BArg w b vl vr vd) (t:Touch (fun _=>False) w w'):BArg w' b vl vr vd:=⟨h.l.keep t,h.r.keep t,h.d.keepN t⟩
structure Bd (w:World) (g:Nat) (b:BV) (vl vr vd:Value):Prop where
 c0:w.cell? ⟨g,0,none⟩=some (.int .u8 b.flags)
 c1:w.cell? ⟨g,1,none⟩=some vl
 c2:w.cell? ⟨g,2,none⟩=some (.int .u32 b.mask)
 c3:w.cell? ⟨g,3,none⟩=some vr
 c4:w.cell? ⟨g,4,none⟩=some (.int .u32 b.metric)
 c5:w.cell? ⟨g,5,none⟩=some (.bool b.type2)
 c6:w.cell? ⟨g,6,none⟩=some (.int .u32 b.fwd)
 c7:w.cell? ⟨g,7,none⟩=some (.int .u32 b.tag)
 c8:w.cell? ⟨g,8,none⟩=some vd
theorem Bd.keep {w w':World} {g:Nat} {b:BV} {vl vr vd:Value} (k:Bd w g b vl vr vd) (t:Touch (fun _=>False) w w'):Bd w' g b vl vr vd :=
 ⟨t.cellN k.c0,t.cellN k.c1,t.cellN k.c2,t.cellN k.c3,t.cellN k.c4,t.cellN k.c5,t.cellN k.c6,t.cellN k.c7,t.cellN k.c8⟩
theorem Bd.new (w:World) (b:BV) (vl vr vd:Value) (t:TypeId) :
  Bd (w.alloc (.cells #[.int .u8 b.flags,vl,.int .u32 b.mask,vr,.int .u32 b.metric,.bool b.type2,.int .u32 b.fwd,.int .u32 b.tag,vd] t)) w.heap.size b vl vr vd :=
 ⟨by simp [go_sem],by simp [go_sem],by simp [go_sem],by simp [go_sem],by simp [go_sem],by simp [go_sem],by simp [go_sem],by simp [go_sem],by simp [go_sem]⟩
def HV.sv (h:HV) (v:Value):Value:=.agg #[.int .u16 h.age,.int .u8 h.opts,.int .u8 h.typ,.int .u32 h.id,.int .u32 h.adv,.int .i32 h.seq,.int .u16 h.sum,.int .u16 h.len,v]
def HV.zero:HV:=⟨0,0,0,0,0,0,0,0⟩
structure Sd (w:World) (g:Nat) (h:HV) (v:Value):Prop where
 hd:Hd w g h
 c8:w.cell? ⟨g,8,none⟩=some v
theorem Sd.keep {w w':World} {g:Nat} {h:HV} {v:Value} (k:Sd w g h v) (t:Touch (fun _=>False) w w'):Sd w' g h v:=⟨k.hd.keep t,t.cellN k.c8⟩
theorem Sd.new (w:World) (h:HV) (v:Value) (t:TypeId) :
  Sd (w.alloc (.cells #[.int .u16 h.age,.int .u8 h.opts,.int .u8 h.typ,.int .u32 h.id,.int .u32 h.adv,.int .i32 h.seq,.int .u16 h.sum,.int .u16 h.len,v] t)) w.heap.size h v :=
 ⟨⟨by simp [go_sem],by simp [go_sem],by simp [go_sem],by simp [go_sem],by simp [go_sem],by simp [go_sem],by simp [go_sem],by simp [go_sem]⟩,by simp [go_sem]⟩
structure Out (w:World) (g:Nat) (h:HV) (v:Value):Prop where
 sd:Sd w g h v
 fz:∀i,i<9→w.frozen? ⟨g,i,none⟩=false
theorem Out.lt {w:World} {g:Nat} {h:HV} {v:Value} (k:Out w g h v):g<w.heap.size:=Qaa k.sd.hd.c0
theorem Out.keep {w w':World} {g:Nat} {h:HV} {v:Value} (k:Out w g h v) (t:Touch (fun _=>False) w w'):Out w' g h v :=
 ⟨k.sd.keep t,fun i hi=>(t.frozen (p:=⟨g,i,none⟩) k.lt (fun h=>h)).trans (k.fz i hi)⟩
theorem Out.new (w:World) (h:HV) (v:Value) (t:TypeId) :
  Out (w.alloc (.cells #[.int .u16 h.age,.int .u8 h.opts,.int .u8 h.typ,.int .u32 h.id,.int .u32 h.adv,.int .i32 h.seq,.int .u16 h.sum,.int .u16 h.len,v] t)) w.heap.size h v :=
 ⟨Sd.new w h v t,fun i hi=>by simp [go_sem]⟩
theorem Out.set6 {w:World} {g:Nat} {h:HV} {v:Value} (k:Out w g h v) (x:Int):Out (w.setCell ⟨g,6,none⟩ (.int .u16 x)) g { h with sum:=x } v:=by
 obtain⟨⟨⟨c0,c1,c2,c3,c4,c5,c6,c7⟩,c8⟩,fz⟩:=k
 exact⟨⟨⟨by simp [c0,go_sem],by simp [c1,go_sem],by simp [c2,go_sem],by simp [c3,go_sem],by simp [c4,go_sem],by simp [c5,go_sem],by simp [c6,go_sem],by simp [c7,go_sem]⟩,by simp [c8,go_sem]⟩,fun i hi=>by simp [fz i hi,go_sem]⟩
theorem Out.set7 {w:World} {g:Nat} {h:HV} {v:Value} (k:Out w g h v) (x:Int):Out (w.setCell ⟨g,7,none⟩ (.int .u16 x)) g { h with len:=x } v:=by
 obtain⟨⟨⟨c0,c1,c2,c3,c4,c5,c6,c7⟩,c8⟩,fz⟩:=k
 exact⟨⟨⟨by simp [c0,go_sem],by simp [c1,go_sem],by simp [c2,go_sem],by simp [c3,go_sem],by simp [c4,go_sem],by simp [c5,go_sem],by simp [c6,go_sem],by simp [c7,go_sem]⟩,by simp [c8,go_sem]⟩,fun i hi=>by simp [fz i hi,go_sem]⟩
theorem Out.set8 {w:World} {g:Nat} {h:HV} {v:Value} (k:Out w g h v) (u:Value):Out (w.setCell ⟨g,8,none⟩ u) g h u:=by
 obtain⟨⟨⟨c0,c1,c2,c3,c4,c5,c6,c7⟩,c8⟩,fz⟩:=k
 exact⟨⟨⟨by simp [c0,go_sem],by simp [c1,go_sem],by simp [c2,go_sem],by simp [c3,go_sem],by simp [c4,go_sem],by simp [c5,go_sem],by simp [c6,go_sem],by simp [c7,go_sem]⟩,by simp [c8,go_sem]⟩,fun i hi=>by simp [fz i hi,go_sem]⟩
theorem Out.other {w:World} {g:Nat} {h:HV} {v:Value} (k:Out w g h v) {p:Addr} (hp:p.block≠g) (u:Value):Out (w.setCell p u) g h v:=by
 have t:Touch (fun k=>k=p.block) w (w.setCell p u):=Touch.setCell (F:=fun k=>k=p.block) (Touch.refl _ w) (p:=p) (Or.inl rfl) u
 have hl:=k.lt
 have ce:∀i,(w.setCell p u).cell? ⟨g,i,none⟩=w.cell? ⟨g,i,none⟩:=fun i=>t.cell (p:=⟨g,i,none⟩) hl (fun e=>hp e.symm)
 obtain⟨⟨⟨c0,c1,c2,c3,c4,c5,c6,c7⟩,c8⟩,fz⟩:=k
 exact⟨⟨⟨(ce 0).trans c0,(ce 1).trans c1,(ce 2).trans c2,(ce 3).trans c3,(ce 4).trans c4,(ce 5).trans c5,(ce 6).trans c6,(ce 7).trans c7⟩,(ce 8).trans c8⟩,
  fun i hi=>(t.frozen (p:=⟨g,i,none⟩) hl (fun e=>hp e.symm)).trans (fz i hi)⟩
theorem Qa1 {w:World} {base e k n:Nat} {v:Value} {xs:List Value} (h:w.ownsRow base e k v n xs) {p:Addr} (hp:p.block<base) (u:Value):(w.setCell p u).ownsRow base e k v n xs :=
 Qab h (Touch.setCell (F:=fun k=>k=p.block) (Touch.refl _ w) (p:=p) (Or.inl rfl) u) (fun j hj e=>by have:=(h.lt j hj).1;omega)
theorem Qam {w:World} {base base' e k n:Nat} {v:Value} {xs:List Value} (h:w.ownsRow base e k v n xs) (hb:base'≤base):w.ownsRow base' e k v n xs:=by
 refine⟨h.1,?_⟩
 rcases h.2 with h2|⟨g,cap,cur,hv,hg,r⟩
 ·exact Or.inl h2
 ·exact Or.inr ⟨g,cap,cur,hv,by omega,r⟩
end Go.Proofs.YtddbffoiadmffaaGreat
