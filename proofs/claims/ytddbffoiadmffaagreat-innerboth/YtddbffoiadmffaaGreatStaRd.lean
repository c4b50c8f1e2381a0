import Derived.Test.YtddbffoiadmffaaGreatStaVal
import Derived.Test.YtddbffoiadmffaaGreatOwnUn
namespace Go.Proofs.YtddbffoiadmffaaGreat
set_option linter.unusedVariables false
set_option maxRecDepth 100000
theorem pbok_zero:pbok 0=true:=by decide +kernel
theorem nextAt_add (rs:List Int) (q:Option Nat) (m n:Nat):nextAt rs (nextAt rs q m) n=nextAt rs q (m+n):=by
 cases q with
 | none=>rfl
 | some p =>
  unfold nextAt
  by_cases h:p+(m+n)≤rs.length
  ·simp only [if_pos h,if_pos (show p+m≤rs.length by omega),if_pos (show p+m+n≤rs.length by omega)]
   congr 1
   omega
  ·simp only [if_neg h]
   by_cases h2:p+m≤rs.length
   ·simp only [if_pos h2,if_neg (show ¬ p+m+n≤rs.length by omega)]
   ·simp only [if_neg h2]
theorem nextAt_some {rs:List Int} {p n:Nat} (h:p+n≤rs.length):nextAt rs (some p) n=some (p+n):=by simp [nextAt,h]
theorem nextAt_none {rs:List Int} {p n:Nat} (h:¬ p+n≤rs.length):nextAt rs (some p) n=none:=by simp [nextAt,h]
theorem numAt_some {rs:List Int} {p n:Nat} (h:p+n≤rs.length):numAt rs (some p) n=numOf ((rs.drop p).take n):=by simp [numAt,h]
theorem numOf1 (a:Int):numOf [a]=a:=by simp [numOf]
theorem numOf2 (a b:Int):numOf [a,b]=256 * a+b:=by simp [numOf]
theorem numOf3 (a b c:Int):numOf [a,b,c]=65536 * a+256 * b+c:=by simp [numOf]; omega
theorem numOf4 (a b c d:Int):numOf [a,b,c,d]=16777216 * a+65536 * b+256 * c+d:=by simp [numOf]; omega
def takeLink:List Int→Option LV
 | a :: b :: c :: d :: e :: f :: g :: h :: i :: j :: k :: l :: _=>if j=0∧1≤i∧i≤4 then some ⟨numOf [a,b,c,d],numOf [e,f,g,h],i,numOf [k,l]⟩ else none
 | _=>none
def parseLinks:List Int→Option (List LV)
 | []=>some []
 | a :: b :: c :: d :: e :: f :: g :: h :: i :: j :: k :: l :: r=>if j=0∧1≤i∧i≤4 then (parseLinks r).map (fun t=>⟨numOf [a,b,c,d],numOf [e,f,g,h],i,numOf [k,l]⟩ :: t) else none
 | _=>none
theorem list12 {l:List Int} (h:12≤l.length):∃ a b c d e f g i j k m n r,l=a :: b :: c :: d :: e :: f :: g :: i :: j :: k :: m :: n :: r:=by
 match l,h with
 | a :: b :: c :: d :: e :: f :: g :: i :: j :: k :: m :: n :: r,_=>exact ⟨a,b,c,d,e,f,g,i,j,k,m,n,r,rfl⟩
theorem parse_step {l:List Int} (h:12≤l.length):parseLinks l=match takeLink l with | some x=>(parseLinks (l.drop 12)).map (x :: ·) | none=>none:=by
 obtain ⟨a,b,c,d,e,f,g,i,j,k,m,n,r,rfl⟩:=list12 h
 by_cases hc:k=0∧1≤j∧j≤4
 ·simp only [parseLinks,takeLink,if_pos hc,List.drop]
 ·simp only [parseLinks,takeLink,if_neg hc]
theorem parse_short {l:List Int} (h0:0<l.length) (h:l.length<12):parseLinks l=none:=by
 match l,h0,h with
 | [_],_,_=>rfl
 | [_,_],_,_=>rfl
 | [_,_,_],_,_=>rfl
 | [_,_,_,_],_,_=>rfl
 | [_,_,_,_,_],_,_=>rfl
 | [_,_,_,_,_,_],_,_=>rfl
 | [_,_,_,_,_,_,_],_,_=>rfl
 | [_,_,_,_,_,_,_,_],_,_=>rfl
 | [_,_,_,_,_,_,_,_,_],_,_=>rfl
 | [_,_,_,_,_,_,_,_,_,_],_,_=>rfl
 | [_,_,_,_,_,_,_,_,_,_,_],_,_=>rfl
theorem two_ok {a b:Int} (ha:0≤a∧a<256) (hb:0≤b∧b<256):0≤numOf [a,b]∧numOf [a,b]<65536:=by rw [numOf2]; omega
theorem four_ok {a b c d:Int} (ha:0≤a∧a<256) (hb:0≤b∧b<256) (hc:0≤c∧c<256) (hd:0≤d∧d<256):0≤numOf [a,b,c,d]∧numOf [a,b,c,d]<4294967296:=by rw [numOf4]; omega
theorem parse_ok:∀ {l:List Int} {ls:List LV},(∀ z∈l,0≤z∧z<256)→parseLinks l=some ls→linksB ls=l∧∀ x∈ls,x.Ok∧1≤x.typ∧x.typ≤4
 | l,ls,hb,h=>by
  by_cases h12:12≤l.length
  ·rw [parse_step h12] at h
   obtain ⟨a,b,c,d,e,f,g,i,j,k,m,n,r,rfl⟩:=list12 h12
   simp only [takeLink,List.drop] at h
   by_cases hc:k=0∧1≤j∧j≤4
   ·rw [if_pos hc] at h
    simp only [Option.map_eq_some_iff] at h
    obtain ⟨t,ht,rfl⟩:=h
    obtain ⟨hl,hx⟩:=parse_ok (fun z hz=>hb z (by simp [hz])) ht
    have q:∀ z∈[a,b,c,d,e,f,g,i,j,k,m,n],0≤z∧z<256:=fun z hz=>hb z (by simp at hz ⊢; grind)
    simp only [List.mem_cons,List.not_mem_nil,or_false,forall_eq_or_imp,forall_eq] at q
    obtain ⟨qa,qb,qc,qd,qe,qf,qg,qi,qj,qk,qm,qn⟩:=q
    refine ⟨?_,?_⟩
    ·have e1:linksB (⟨numOf [a,b,c,d],numOf [e,f,g,i],j,numOf [m,n]⟩ :: t)=linkB ⟨numOf [a,b,c,d],numOf [e,f,g,i],j,numOf [m,n]⟩ ++ linksB t:=by simp [linksB]
     rw [e1,hl,linkB,numBytes_four a b c d qa qb qc qd,numBytes_four e f g i qe qf qg qi,numBytes_two m n qm qn,hc.1]
     rfl
    ·intro x hxm
     rcases List.mem_cons.1 hxm with rfl | hxm
     ·exact ⟨⟨four_ok qa qb qc qd,four_ok qe qf qg qi,qj,two_ok qm qn⟩,hc.2⟩
     ·exact hx x hxm
   ·rw [if_neg hc] at h
    cases h
  ·by_cases h0:0<l.length
   ·rw [parse_short h0 (by omega)] at h
    cases h
   ·obtain rfl:l=[]:=List.length_eq_zero_iff.1 (by omega)
    simp only [parseLinks,Option.some.injEq] at h
    subst h
    exact ⟨rfl,by simp⟩
 termination_by l=>l.length
theorem parse_linksB (ls:List LV) (h:∀ x∈ls,x.Ok) (ht:∀ x∈ls,1≤x.typ∧x.typ≤4):parseLinks (linksB ls)=some ls:=by
 induction ls with
 | nil=>rfl
 | cons x r ih =>
  have hx:=h x (by simp)
  have hr:=ih (fun y hy=>h y (by simp [hy])) (fun y hy=>ht y (by simp [hy]))
  have hxt:=ht x (by simp)
  have e:linksB (x :: r)=linkB x ++ linksB r:=by simp [linksB]
  rw [e]
  obtain ⟨i,d,t,c⟩:=x
  obtain ⟨⟨i0,i1⟩,⟨d0,d1⟩,⟨t0,t1⟩,⟨c0,c1⟩⟩:=hx
  dsimp only at i0 i1 d0 d1 t0 t1 c0 c1 hxt
  have e1:=numOf_four i i0 i1
  have e2:=numOf_four d d0 d1
  have e3:=numOf_two c c0 c1
  rw [numBytes4] at e1 e2
  rw [numBytes2] at e3
  simp only [linkB,numBytes4,numBytes2,List.cons_append,List.nil_append,parseLinks,hr]
  rw [if_pos ⟨trivial,hxt⟩,e1,e2,e3]
  rfl
theorem readLinks_ok:∀ (l:List Int),(∀ z∈l,0≤z∧z<256)→∀ x∈readLinks l,x.Ok
 | l,hb=>by
  by_cases h12:12≤l.length
  ·obtain ⟨a,b,c,d,e,f,g,i,j,k,m,n,r,rfl⟩:=list12 h12
   have ih:=readLinks_ok r (fun z hz=>hb z (by simp [hz]))
   have q:∀ z∈[a,b,c,d,e,f,g,i,j,k,m,n],0≤z∧z<256:=fun z hz=>hb z (by simp at hz ⊢; grind)
   simp only [List.mem_cons,List.not_mem_nil,or_false,forall_eq_or_imp,forall_eq] at q
   obtain ⟨qa,qb,qc,qd,qe,qf,qg,qi,qj,qk,qm,qn⟩:=q
   intro x hx
   rw [readLinks] at hx
   rcases List.mem_cons.1 hx with rfl | hx
   ·exact ⟨four_ok qa qb qc qd,four_ok qe qf qg qi,qj,two_ok qm qn⟩
   ·exact ih x hx
  ·match l,h12 with
   | [],_=>simp [readLinks]
   | [_],_=>simp [readLinks]
   | [_,_],_=>simp [readLinks]
   | [_,_,_],_=>simp [readLinks]
   | [_,_,_,_],_=>simp [readLinks]
   | [_,_,_,_,_],_=>simp [readLinks]
   | [_,_,_,_,_,_],_=>simp [readLinks]
   | [_,_,_,_,_,_,_],_=>simp [readLinks]
   | [_,_,_,_,_,_,_,_],_=>simp [readLinks]
   | [_,_,_,_,_,_,_,_,_],_=>simp [readLinks]
   | [_,_,_,_,_,_,_,_,_,_],_=>simp [readLinks]
   | [_,_,_,_,_,_,_,_,_,_,_],_=>simp [readLinks]
   | _ :: _ :: _ :: _ :: _ :: _ :: _ :: _ :: _ :: _ :: _ :: _ :: _,h=>simp at h
 termination_by l=>l.length
theorem dec1_yes {f c1 c2:Int} {r:List Int} {ls:List LV} (hb:∀ z∈f :: 0 :: c1 :: c2 :: r,0≤z∧z<256) (hp:parseLinks r=some ls) (hl:(ls.length:Int)=numOf [c1,c2]) :
  decB 1 (f :: 0 :: c1 :: c2 :: r)=some ⟨f,ls,0,[],0,false,0,0,[]⟩:=by
 obtain ⟨h1,h2⟩:=parse_ok (fun z hz=>hb z (by simp [hz])) hp
 have q1:=hb c1 (by simp)
 have q2:=hb c2 (by simp)
 have e:layB 1 ⟨f,ls,0,[],0,false,0,0,[]⟩=f :: 0 :: c1 :: c2 :: r:=by
  unfold layB
  rw [if_pos rfl]
  dsimp only
  have:=two_ok q1 q2
  rw [hl,Int.emod_eq_of_lt this.1 this.2,numBytes_two c1 c2 q1 q2,h1]
  rfl
 rw [← e]
 exact decB_layB ⟨hb f (by simp),fun x hx=>(h2 x hx).1,by simp,by simp,by simp,by simp,by simp,by simp⟩ ⟨Or.inl rfl,by simp,by simp,by simp,by simp,by simp,pbok_zero,by simp,by simp,by simp,fun x hx=>(h2 x hx).2⟩
theorem dec1_inv {rs:List Int} {B:BV} (hb:∀ z∈rs,0≤z∧z<256) (hl:rs.length<65536) (h:decB 1 rs=some B):∃ f c1 c2 r ls,rs=f :: 0 :: c1 :: c2 :: r∧parseLinks r=some ls∧(ls.length:Int)=numOf [c1,c2]:=by
 obtain ⟨h1,h2,h3⟩:=decB_some h
 simp only [readB,if_true] at h1
 split at h1
 ·cases h1
 ·simp only [Option.some.injEq] at h1
  have hok:=readLinks_ok (rs.drop 4) (fun z hz=>hb z (List.mem_of_mem_drop hz))
  obtain ⟨fl,ls,ma,rr,me,t2,fw,tg,da⟩:=B
  simp only [BV.mk.injEq] at h1
  obtain ⟨h1f,h1l,-⟩:=h1
  have hll:ls.length<65536:=by
   have:=congrArg List.length h3
   unfold layB at this
   rw [if_pos rfl] at this
   simp [length_linksB,numBytes] at this
   omega
  refine ⟨fl,(ls.length:Int) / 256 % 256,(ls.length:Int) % 256,linksB ls,ls,?_,parse_linksB ls (by rw [← h1l]; exact hok) h2.lin,?_⟩
  ·rw [← h3]
   unfold layB
   rw [if_pos rfl]
   dsimp only
   rw [show (ls.length:Int) % 65536=(ls.length:Int) by omega,numBytes2]
   rfl
  ·rw [numOf2]; omega
theorem list4 {l:List Int} (h:4≤l.length):∃ a b c d r,l=a :: b :: c :: d :: r:=by
 match l,h with
 | a :: b :: c :: d :: r,_=>exact ⟨a,b,c,d,r,rfl⟩
theorem readRouters_all:∀ (l:List Int),(∀ z∈l,0≤z∧z<256)→l.length % 4=0→routersB (readRouters l)=l∧∀ x∈readRouters l,0≤x∧x<4294967296
 | l,hb,hl=>by
  by_cases h4:4≤l.length
  ·obtain ⟨a,b,c,d,r,rfl⟩:=list4 h4
   obtain ⟨i1,i2⟩:=readRouters_all r (fun z hz=>hb z (by simp [hz])) (by simp at hl ⊢; omega)
   have qa:=hb a (by simp)
   have qb:=hb b (by simp)
   have qc:=hb c (by simp)
   have qd:=hb d (by simp)
   rw [readRouters]
   refine ⟨?_,?_⟩
   ·have e:routersB (numOf [a,b,c,d] :: readRouters r)=numBytes 4 (numOf [a,b,c,d]) ++ routersB (readRouters r):=by simp [routersB]
    rw [e,i1,numBytes_four a b c d qa qb qc qd]
    rfl
   ·intro x hx
    rcases List.mem_cons.1 hx with rfl | hx
    ·exact four_ok qa qb qc qd
    ·exact i2 x hx
  ·obtain rfl:l=[]:=List.length_eq_zero_iff.1 (by omega)
   exact ⟨rfl,by simp [readRouters]⟩
 termination_by l=>l.length
theorem readRouters_snoc:∀ (l:List Int) (a b c d:Int),l.length % 4=0→readRouters (l ++ [a,b,c,d])=readRouters l ++ [numOf [a,b,c,d]]
 | l,a,b,c,d,hl=>by
  by_cases h4:4≤l.length
  ·obtain ⟨x,y,z,u,r,rfl⟩:=list4 h4
   have ih:=readRouters_snoc r a b c d (by simp at hl ⊢; omega)
   rw [readRouters,List.cons_append,List.cons_append,List.cons_append,List.cons_append,readRouters,ih]
   rfl
  ·obtain rfl:l=[]:=List.length_eq_zero_iff.1 (by omega)
   rfl
 termination_by l=>l.length
theorem readRouters_len:∀ (l:List Int),l.length % 4=0→(readRouters l).length * 4=l.length
 | l,hl=>by
  by_cases h4:4≤l.length
  ·obtain ⟨x,y,z,u,r,rfl⟩:=list4 h4
   have ih:=readRouters_len r (by simp at hl ⊢; omega)
   rw [readRouters]
   simp only [List.length_cons]
   omega
  ·obtain rfl:l=[]:=List.length_eq_zero_iff.1 (by omega)
   rfl
 termination_by l=>l.length
theorem dec2_yes {a b c d:Int} {r:List Int} (hb:∀ z∈a :: b :: c :: d :: r,0≤z∧z<256) (hp:pbok (numOf [a,b,c,d])=true) (hl:r.length % 4=0) (h0:0<r.length) :
  decB 2 (a :: b :: c :: d :: r)=some ⟨0,[],numOf [a,b,c,d],readRouters r,0,false,0,0,[]⟩:=by
 obtain ⟨h1,h2⟩:=readRouters_all r (fun z hz=>hb z (by simp [hz])) hl
 have qa:=hb a (by simp)
 have qb:=hb b (by simp)
 have qc:=hb c (by simp)
 have qd:=hb d (by simp)
 have e:layB 2 ⟨0,[],numOf [a,b,c,d],readRouters r,0,false,0,0,[]⟩=a :: b :: c :: d :: r:=by
  unfold layB
  rw [if_neg (by omega),if_pos rfl]
  dsimp only
  rw [numBytes_four a b c d qa qb qc qd,h1]
  rfl
 rw [← e]
 have hn:=readRouters_len r hl
 exact decB_layB ⟨by simp,by simp,four_ok qa qb qc qd,h2,by simp,by simp,by simp,by simp⟩ ⟨by simp,by simp,by simp,by simp,by simp,by simp,hp,by simp,by simp,fun _=>by dsimp only; omega,by simp⟩
theorem dec2_inv {rs:List Int} {B:BV} (h:decB 2 rs=some B):∃ a b c d r,rs=a :: b :: c :: d :: r∧pbok (numOf [a,b,c,d])=true∧r.length % 4=0∧0<r.length:=by
 obtain ⟨h1,h2,h3⟩:=decB_some h
 simp only [readB] at h1
 rw [if_neg (by omega),if_pos trivial] at h1
 split at h1
 ·cases h1
 ·rename_i hlen
  obtain ⟨a,b,c,d,r,rfl⟩:=list4 (l:=rs) (by omega)
  simp only [Option.some.injEq,List.take,List.drop] at h1
  subst h1
  have hm:=h2.mask
  have hr:=h2.rou rfl
  dsimp only at hm hr
  have hl:=congrArg List.length h3
  unfold layB at hl
  rw [if_neg (by omega),if_pos rfl] at hl
  simp [length_routersB,numBytes] at hl
  exact ⟨a,b,c,d,r,rfl,hm,by omega,by omega⟩
theorem dec3_eq {a b c d e f g h:Int} (hb:∀ z∈[a,b,c,d,e,f,g,h],0≤z∧z<256) :
  decB 3 [a,b,c,d,e,f,g,h]=if pbok (numOf [a,b,c,d])=true∧e=0 then some ⟨0,[],numOf [a,b,c,d],[],numOf [f,g,h],false,0,0,[]⟩ else none:=by
 simp only [List.mem_cons,List.not_mem_nil,or_false,forall_eq_or_imp,forall_eq] at hb
 obtain ⟨qa,qb,qc,qd,qe,qf,qg,qh⟩:=hb
 have hr:readB 3 [a,b,c,d,e,f,g,h]=some ⟨0,[],numOf [a,b,c,d],[],numOf [e,f,g,h],false,0,0,[]⟩:=by simp [readB]
 have hlay:layB 3 ⟨0,[],numOf [a,b,c,d],[],numOf [e,f,g,h],false,0,0,[]⟩=[a,b,c,d,e,f,g,h]:=by
  unfold layB
  rw [if_neg (by omega),if_neg (by omega),if_pos (Or.inl rfl)]
  dsimp only
  rw [numBytes_four a b c d qa qb qc qd,numBytes_four e f g h qe qf qg qh]
  rfl
 unfold decB
 rw [hr]
 dsimp only
 by_cases hc:pbok (numOf [a,b,c,d])=true∧e=0
 ·have hm:May 3 ⟨0,[],numOf [a,b,c,d],[],numOf [e,f,g,h],false,0,0,[]⟩:=⟨by simp,by simp,by simp,by simp,by simp,by simp,hc.1,by dsimp only; rw [numOf4]; omega,by simp,by simp,by simp⟩
  rw [if_pos ⟨(mayB_iff _ _).2 hm,hlay⟩,if_pos hc]
  have:numOf [e,f,g,h]=numOf [f,g,h]:=by rw [numOf4,numOf3,hc.2]; omega
  rw [this]
 ·rw [if_neg hc,if_neg ?_]
  rintro ⟨hm,-⟩
  have m:=(mayB_iff _ _).1 hm
  have h1:=m.mask
  have h2:=m.met
  dsimp only at h1 h2
  rw [numOf4] at h2
  exact hc ⟨h1,by omega⟩
theorem dec4_eq {a b c d e f g h:Int} (hb:∀ z∈[a,b,c,d,e,f,g,h],0≤z∧z<256) :
  decB 4 [a,b,c,d,e,f,g,h]=if numOf [a,b,c,d]=0∧e=0 then some ⟨0,[],0,[],numOf [f,g,h],false,0,0,[]⟩ else none:=by
 simp only [List.mem_cons,List.not_mem_nil,or_false,forall_eq_or_imp,forall_eq] at hb
 obtain ⟨qa,qb,qc,qd,qe,qf,qg,qh⟩:=hb
 have hr:readB 4 [a,b,c,d,e,f,g,h]=some ⟨0,[],numOf [a,b,c,d],[],numOf [e,f,g,h],false,0,0,[]⟩:=by simp [readB]
 have hlay:layB 4 ⟨0,[],numOf [a,b,c,d],[],numOf [e,f,g,h],false,0,0,[]⟩=[a,b,c,d,e,f,g,h]:=by
  unfold layB
  rw [if_neg (by omega),if_neg (by omega),if_pos (Or.inr rfl)]
  dsimp only
  rw [numBytes_four a b c d qa qb qc qd,numBytes_four e f g h qe qf qg qh]
  rfl
 unfold decB
 rw [hr]
 dsimp only
 by_cases hc:numOf [a,b,c,d]=0∧e=0
 ·have hm:May 4 ⟨0,[],numOf [a,b,c,d],[],numOf [e,f,g,h],false,0,0,[]⟩:=⟨by simp,by simp,by simp [hc.1],by simp,by simp,by simp,by dsimp only; rw [hc.1]; exact pbok_zero,by dsimp only; rw [numOf4]; omega,by simp,by simp,by simp⟩
  rw [if_pos ⟨(mayB_iff _ _).2 hm,hlay⟩,if_pos hc]
  have:numOf [e,f,g,h]=numOf [f,g,h]:=by rw [numOf4,numOf3,hc.2]; omega
  rw [this,hc.1]
 ·rw [if_neg hc,if_neg ?_]
  rintro ⟨hm,-⟩
  have m:=(mayB_iff _ _).1 hm
  have h1:=m.a3
  have h2:=m.met
  dsimp only at h1 h2
  rw [numOf4] at h2
  exact hc ⟨by omega,by omega⟩
theorem dec5_eq {t a b c d e f g h i j k l m n o p:Int} (ht:t=5∨t=7) (hb:∀ z∈[a,b,c,d,e,f,g,h,i,j,k,l,m,n,o,p],0≤z∧z<256) :
  decB t [a,b,c,d,e,f,g,h,i,j,k,l,m,n,o,p]=if pbok (numOf [a,b,c,d])=true∧(e=0∨e=128) then some ⟨0,[],numOf [a,b,c,d],[],numOf [f,g,h],e == 128,numOf [i,j,k,l],numOf [m,n,o,p],[]⟩ else none:=by
 simp only [List.mem_cons,List.not_mem_nil,or_false,forall_eq_or_imp,forall_eq] at hb
 obtain ⟨qa,qb,qc,qd,qe,qf,qg,qh,qi,qj,qk,ql,qm,qn,qo,qp⟩:=hb
 have hr:readB t [a,b,c,d,e,f,g,h,i,j,k,l,m,n,o,p]=some ⟨0,[],numOf [a,b,c,d],[],numOf [f,g,h],e == 128,numOf [i,j,k,l],numOf [m,n,o,p],[]⟩:=by
  unfold readB
  rw [if_neg (by omega),if_neg (by omega),if_neg (by omega),if_pos ht]
  simp
 have hlay:layB t ⟨0,[],numOf [a,b,c,d],[],numOf [f,g,h],e == 128,numOf [i,j,k,l],numOf [m,n,o,p],[]⟩=[a,b,c,d] ++ numBytes 4 (if (e == 128)=true then (numOf [f,g,h]+2147483648) % 4294967296 else numOf [f,g,h]) ++ [i,j,k,l,m,n,o,p]:=by
  unfold layB
  rw [if_neg (by omega),if_neg (by omega),if_neg (by omega),if_pos ht]
  unfold metricN
  dsimp only
  rw [numBytes_four a b c d qa qb qc qd,numBytes_four i j k l qi qj qk ql,numBytes_four m n o p qm qn qo qp]
  simp
 unfold decB
 rw [hr]
 dsimp only
 by_cases hc:pbok (numOf [a,b,c,d])=true∧(e=0∨e=128)
 ·have hm:May t ⟨0,[],numOf [a,b,c,d],[],numOf [f,g,h],e == 128,numOf [i,j,k,l],numOf [m,n,o,p],[]⟩:=⟨Or.inr ⟨rfl,rfl⟩,Or.inr rfl,by omega,by omega,by omega,Or.inr rfl,hc.1,by dsimp only; rw [numOf3]; omega,rfl,by omega,by simp⟩
  have hly:layB t ⟨0,[],numOf [a,b,c,d],[],numOf [f,g,h],e == 128,numOf [i,j,k,l],numOf [m,n,o,p],[]⟩=[a,b,c,d,e,f,g,h,i,j,k,l,m,n,o,p]:=by
   rw [hlay,numOf3]
   rcases hc.2 with rfl | rfl
   ·simp [numBytes4]; omega
   ·simp [numBytes4]; omega
  rw [if_pos ⟨(mayB_iff _ _).2 hm,hly⟩,if_pos hc]
 ·rw [if_neg hc,if_neg ?_]
  rintro ⟨hm,h2⟩
  have m:=(mayB_iff _ _).1 hm
  have h1:=m.mask
  dsimp only at h1
  refine hc ⟨h1,?_⟩
  rw [hlay,numOf3] at h2
  by_cases h8:e=128
  ·exact Or.inr h8
  ·simp [numBytes4,h8] at h2
   omega
theorem dec9_eq {t:Int} {rs:List Int} (ht:9≤t):decB t rs=if rs.length % 4=0 then some ⟨0,[],0,[],0,false,0,0,rs⟩ else none:=by
 have hr:readB t rs=some ⟨0,[],0,[],0,false,0,0,rs⟩:=by
  unfold readB
  rw [if_neg (by omega),if_neg (by omega),if_neg (by omega),if_neg (by omega)]
 have hlay:layB t ⟨0,[],0,[],0,false,0,0,rs⟩=rs:=by
  unfold layB
  rw [if_neg (by omega),if_neg (by omega),if_neg (by omega),if_neg (by omega)]
 unfold decB
 rw [hr]
 dsimp only
 by_cases hc:rs.length % 4=0
 ·have hm:May t ⟨0,[],0,[],0,false,0,0,rs⟩:=⟨by simp,by simp,by simp,by simp,by simp,Or.inl ht,pbok_zero,by simp,hc,by simp; omega,by simp⟩
  rw [if_pos ⟨(mayB_iff _ _).2 hm,hlay⟩,if_pos hc]
 ·rw [if_neg hc,if_neg ?_]
  rintro ⟨hm,-⟩
  exact hc ((mayB_iff _ _).1 hm).dat
theorem dec34_len {t:Int} {rs:List Int} (ht:t=3∨t=4) (h:rs.length≠8):decB t rs=none:=by
 unfold decB readB
 rw [if_neg (by omega),if_neg (by omega),if_pos ht,if_pos h]
theorem dec57_len {t:Int} {rs:List Int} (ht:t=5∨t=7) (h:rs.length≠16):decB t rs=none:=by
 unfold decB readB
 rw [if_neg (by omega),if_neg (by omega),if_neg (by omega),if_pos ht,if_pos h]
theorem list8 {l:List Int} (h:l.length=8):∃ a b c d e f g i,l=[a,b,c,d,e,f,g,i]:=by
 match l,h with
 | [a,b,c,d,e,f,g,i],_=>exact ⟨a,b,c,d,e,f,g,i,rfl⟩
theorem list16 {l:List Int} (h:l.length=16):∃ a b c d e f g i j k m n o p q r,l=[a,b,c,d,e,f,g,i,j,k,m,n,o,p,q,r]:=by
 match l,h with
 | [a,b,c,d,e,f,g,i,j,k,m,n,o,p,q,r],_=>exact ⟨a,b,c,d,e,f,g,i,j,k,m,n,o,p,q,r,rfl⟩
end Go.Proofs.YtddbffoiadmffaaGreat
