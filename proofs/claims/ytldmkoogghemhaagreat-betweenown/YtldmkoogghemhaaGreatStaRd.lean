import Derived.Test.YtldmkoogghemhaaGreatRdAll2
namespace Go.Proofs.YtldmkoogghemhaaGreat
open Go.RowKit
set_option linter.unusedVariables false
set_option maxRecDepth 100000
theorem Qep (l:List Int):numVal l=numOf l:=by
 unfold numVal numOf
 congr 1
 funext a x
 rw [Int.mul_comm]
structure Rdr (N:Nat) (w:World) (b:Nat) (rs:List Int) (q:Option Nat):Prop where
 out:∃rv p err,RdS w b rv rs p err∧b<N∧(∀k,rv.ownBlock=some k→k<N)∧((q=some p∧err=0)∨(q=none∧err=10))
theorem Rdr.touch {F:Nat→Prop} {N:Nat} {w w':World} {b:Nat} {rs:List Int} {q:Option Nat} (h:Rdr N w b rs q) (t:Touch F w w') (hF:∀k,k<N→¬F k):Rdr N w' b rs q:=by
 obtain⟨rv,p,err,h,hb,ho,hq⟩:=h
 exact⟨rv,p,err,h.touch t (hF b hb) (fun k hk=>hF k (ho k hk)),hb,ho,hq⟩
theorem Rdr.keep {N:Nat} {w w':World} {b:Nat} {rs:List Int} {q:Option Nat} (h:Rdr N w b rs q) (t:Touch (fun _=>False) w w'):Rdr N w' b rs q:=h.touch t (fun _ _ h=>h)
theorem Rdr.low {N:Nat} {w:World} {b:Nat} {rs:List Int} {q:Option Nat} (h:Rdr N w b rs q):b<N:=by obtain⟨_,_,_,_,hb,_⟩:=h;exact hb
theorem Rdr.byte {N:Nat} {w:World} {b:Nat} {rs:List Int} {q:Option Nat} (h:Rdr N w b rs q):∀x∈rs,0≤x∧x<256:=by obtain⟨_,_,_,h,_⟩:=h;exact h.byte
theorem Rdr.ple {N:Nat} {w:World} {b:Nat} {rs:List Int} {p:Nat} (h:Rdr N w b rs (some p)):p≤rs.length:=by
 obtain⟨_,_,_,h,_,_,⟨e,_⟩|⟨e,_⟩⟩:=h
 ·cases e;exact h.ple
 ·cases e
def numAt (rs:List Int) (q:Option Nat) (n:Nat):Int:=match q with
 | some p=>if p+n≤rs.length then numOf ((rs.drop p).take n) else 0
 | none=>0
def nextAt (rs:List Int) (q:Option Nat) (n:Nat):Option Nat:=match q with
 | some p=>if p+n≤rs.length then some (p+n) else none
 | none=>none
def leftAt (rs:List Int) (q:Option Nat):Int:=match q with
 | some p=>(rs.length:Int)-p
 | none=>0
theorem Qbx {rs:List Int} (hb:∀x∈rs,0≤x∧x<256) (q:Option Nat) (n:Nat):0≤numAt rs q n∧numAt rs q n<256 ^ n:=by
 have hp:(0:Int)<256 ^ n:=Int.pow_pos (by decide)
 unfold numAt
 split
 ·split
  ·rename_i p h
   have:=Qdd ((rs.drop p).take n) (fun z hz=>hb z (List.mem_of_mem_drop (List.mem_of_mem_take hz)))
   rw [show ((rs.drop p).take n).length=n by simp;omega] at this
   exact this
  ·omega
 ·omega
theorem Qg4 (N b n:Nat) (rs:List Int) (q:Option Nat) (w:World) (h:Rdr N w b rs q) (h1:1≤n) (h4:n≤4) :
  Calls Tryz.prog 175 #[.pointer (some ⟨b,0,none⟩),.int .i64 n] w fun e w'=>e=.returned (.int .u32 (numAt rs q n))∧Rdr N w' b rs (nextAt rs q n)∧Touch (fun k=>k=b) w w':=by
 obtain⟨rv,p,err,h,hb,ho,⟨rfl,rfl⟩|⟨rfl,rfl⟩⟩:=h
 ·by_cases hp:p+n≤rs.length
  ·refine (Qhf b p n rv rs w h (by omega) (by omega) (by omega)).mono ?_
   rintro e w' ⟨rfl,hr,t,_⟩
   refine⟨?_,⟨rv,_,_,hr,hb,ho,Or.inl ⟨?_,rfl⟩⟩,t⟩
   ·simp only [numAt,if_pos hp,Qep]
   ·simp only [nextAt,if_pos hp]
  ·refine (Qeh b p n rv rs w h (by omega) (by omega) (by omega)).mono ?_
   rintro e w' ⟨rfl,hr,t,_⟩
   refine⟨?_,⟨rv,_,_,hr,hb,ho,Or.inr ⟨?_,rfl⟩⟩,t⟩
   ·simp only [numAt,if_neg hp]
   ·simp only [nextAt,if_neg hp]
 ·refine (Qe4 b p n 10 rv rs w h (by omega)).mono ?_
  rintro e w' ⟨rfl,rfl⟩
  exact⟨rfl,⟨rv,p,10,h,hb,ho,Or.inr ⟨rfl,rfl⟩⟩,Touch.refl _ _⟩
theorem rnum1 (N b:Nat) (rs:List Int) (q:Option Nat) (w:World) (h:Rdr N w b rs q) :
  Calls Tryz.prog 175 #[.pointer (some ⟨b,0,none⟩),.int .i64 1] w fun e w'=>e=.returned (.int .u32 (numAt rs q 1))∧Rdr N w' b rs (nextAt rs q 1)∧Touch (fun k=>k=b) w w':=Qg4 N b 1 rs q w h (by omega) (by omega)
theorem rnum2 (N b:Nat) (rs:List Int) (q:Option Nat) (w:World) (h:Rdr N w b rs q) :
  Calls Tryz.prog 175 #[.pointer (some ⟨b,0,none⟩),.int .i64 2] w fun e w'=>e=.returned (.int .u32 (numAt rs q 2))∧Rdr N w' b rs (nextAt rs q 2)∧Touch (fun k=>k=b) w w':=Qg4 N b 2 rs q w h (by omega) (by omega)
theorem rnum3 (N b:Nat) (rs:List Int) (q:Option Nat) (w:World) (h:Rdr N w b rs q) :
  Calls Tryz.prog 175 #[.pointer (some ⟨b,0,none⟩),.int .i64 3] w fun e w'=>e=.returned (.int .u32 (numAt rs q 3))∧Rdr N w' b rs (nextAt rs q 3)∧Touch (fun k=>k=b) w w':=Qg4 N b 3 rs q w h (by omega) (by omega)
theorem rnum4 (N b:Nat) (rs:List Int) (q:Option Nat) (w:World) (h:Rdr N w b rs q) :
  Calls Tryz.prog 175 #[.pointer (some ⟨b,0,none⟩),.int .i64 4] w fun e w'=>e=.returned (.int .u32 (numAt rs q 4))∧Rdr N w' b rs (nextAt rs q 4)∧Touch (fun k=>k=b) w w':=Qg4 N b 4 rs q w h (by omega) (by omega)
theorem Qny (N b:Nat) (rs:List Int) (q:Option Nat) (w:World) (h:Rdr N w b rs q) :
  Calls Tryz.prog 143 #[.pointer (some ⟨b,0,none⟩)] w fun e w'=>e=.returned (.int .i64 (leftAt rs q))∧∃n,w'=w.drewN n:=by
 obtain⟨rv,p,err,h,hb,ho,⟨rfl,rfl⟩|⟨rfl,rfl⟩⟩:=h
 ·exact Qdg b p rv rs w h
 ·refine (Qfe b 10 w h.made h.err (by decide)).mono ?_
  rintro e w' ⟨rfl,rfl⟩
  exact⟨rfl,0,rfl⟩
theorem Qn7 (N b:Nat) (rs:List Int) (q:Option Nat) (w:World) (h:Rdr N w b rs q) :
  Calls Tryz.prog 142 #[.pointer (some ⟨b,0,none⟩)] w fun e w'=>e=.returned (.int .i64 (if q=none then 10 else 0))∧w=w':=by
 obtain⟨rv,p,err,h,hb,ho,⟨rfl,rfl⟩|⟨rfl,rfl⟩⟩:=h
 ·exact Qf4 b 0 w h.made h.err
 ·exact Qf4 b 10 w h.made h.err
theorem Qof (v:Value) (bs:List Int) (w:World) (h:ArgAt w v bs) (hby:∀x∈bs,0≤x∧x<256) (hcap:bs.length≤1099511627776) :
  Calls Tryz.prog 141 #[v] w fun e w'=>∃b,e=.returned (.pointer (some ⟨b,0,none⟩))∧w.heap.size≤b∧Rdr w'.heap.size w' b bs (some 0)∧Touch (fun _=>False) w w':=by
 have fin:∀(b:Nat) (rv:Value) (w':World),w.heap.size≤b→RdS w' b rv bs 0 0→Touch (fun _=>False) w w' →
   ∃b',(Ending.returned (.pointer (some ⟨b,0,none⟩)))=.returned (.pointer (some ⟨b',0,none⟩))∧w.heap.size≤b'∧Rdr w'.heap.size w' b' bs (some 0)∧Touch (fun _=>False) w w' :=
  fun b rv w' hb hr t=>⟨b,rfl,hb,⟨rv,0,0,hr,Qaa hr.made,hr.blk,Or.inl ⟨rfl,rfl⟩⟩,t⟩
 rcases h with⟨rfl,rfl⟩|⟨ad,c,rfl,hlc,hcm,hs⟩
 ·go_enter Tryz.func141,Tryz.ntmps141
  go_wp2_with (go_at_call 154;refine (Qey _).mono ?_;rintro e w' ⟨rfl,rfl⟩)
  go_ret
  exact fin _ _ _ (Nat.le_refl _) ⟨by simp,by simp,by simp,by simp,by simp,by simp,by simp,Or.inl ⟨rfl,rfl⟩,by simp [Value.ownBlock],by simp,by simp [Value.ownBlock]⟩ ((Touch.refl _ _).alloc _)
 ·go_enter Tryz.func141,Tryz.ntmps141
  go_wp2_with (go_at_call 154;refine (Qd0 _ _ bs _ hs hcap).mono ?_;rintro e w' ⟨v',rfl,hown,ht,hne⟩;obtain⟨va,vc,rfl,_⟩:=Qdy (Qb0 hown))
  go_ret
  refine fin _ (.slice va bs.length vc) _ ht.size ⟨by simp,by simp,by simp,by simp,by simp,by simp,by simp,?_,?_,hby,fun k hk=>by have:=(hown.lt k hk).2;simp;omega⟩ (ht.alloc _)
  ·exact (Qb0 hown).touch ((Touch.refl (fun _=>False) _).alloc _) (fun _ _ h=>h)
  ·intro hk;have:=(hown.lt _ hk).2;omega
theorem Qit:pbok 0=true:=by decide +kernel
theorem Qds (rs:List Int) (q:Option Nat) (m n:Nat):nextAt rs (nextAt rs q m) n=nextAt rs q (m+n):=by
 cases q with
 | none=>rfl
 | some p =>
  unfold nextAt
  by_cases h:p+(m+n)≤rs.length
  ·simp only [if_pos h,if_pos (show p+m≤rs.length by omega),if_pos (show p+m+n≤rs.length by omega)]
   congr 1
   omega
  ·simp only [if_neg h]
   by_cases h2:p+m≤rs.length
   ·simp only [if_pos h2,if_neg (show ¬p+m+n≤rs.length by omega)]
   ·simp only [if_neg h2]
theorem Qhl {rs:List Int} {p n:Nat} (h:p+n≤rs.length):numAt rs (some p) n=numOf ((rs.drop p).take n):=by simp [numAt,h]
theorem numOf1 (a:Int):numOf [a]=a:=by simp [numOf]
theorem numOf2 (a b:Int):numOf [a,b]=256*a+b:=by simp [numOf]
theorem numOf3 (a b c:Int):numOf [a,b,c]=65536*a+256*b+c:=by simp [numOf];omega
theorem numOf4 (a b c d:Int):numOf [a,b,c,d]=16777216*a+65536*b+256*c+d:=by simp [numOf];omega
def takeLink:List Int→Option LV
 | a::b::c::d::e::f::g::h::i::j::k::l::_=>if j=0∧1≤i∧i≤4 then some ⟨numOf [a,b,c,d],numOf [e,f,g,h],i,numOf [k,l]⟩ else none
 | _=>none
def parseLinks:List Int→Option (List LV)
 | []=>some []
 | a::b::c::d::e::f::g::h::i::j::k::l::r=>if j=0∧1≤i∧i≤4 then (parseLinks r).map (fun t=>⟨numOf [a,b,c,d],numOf [e,f,g,h],i,numOf [k,l]⟩::t) else none
 | _=>none
theorem list12 {l:List Int} (h:12≤l.length):∃a b c d e f g i j k m n r,l=a::b::c::d::e::f::g::i::j::k::m::n::r:=by
 match l,h with
 | a::b::c::d::e::f::g::i::j::k::m::n::r,_=>exact⟨a,b,c,d,e,f,g,i,j,k,m,n,r,rfl⟩
theorem Qhv {l:List Int} (h:12≤l.length):parseLinks l=match takeLink l with|some x=>(parseLinks (l.drop 12)).map (x :: ·)|none=>none:=by
 obtain⟨a,b,c,d,e,f,g,i,j,k,m,n,r,rfl⟩:=list12 h
 by_cases hc:k=0∧1≤j∧j≤4
 ·simp only [parseLinks,takeLink,if_pos hc,List.drop]
 ·simp only [parseLinks,takeLink,if_neg hc]
theorem Qgn {l:List Int} (h0:0<l.length) (h:l.length<12):parseLinks l=none:=by
 match l,h0,h with
 | [_],_,_=>rfl
 | [_,_],_,_=>rfl
 | [_,_,_],_,_=>rfl
 | [_,_,_,_],_,_=>rfl
 | [_,_,_,_,_],_,_=>rfl
 | [_,_,_,_,_,_],_,_=>rfl
 | [_,_,_,_,_,_,_],_,_=>rfl
 | [_,_,_,_,_,_,_,_],_,_=>rfl
 | [_,_,_,_,_,_,_,_,_],_,_=>rfl
 | [_,_,_,_,_,_,_,_,_,_],_,_=>rfl
 | [_,_,_,_,_,_,_,_,_,_,_],_,_=>rfl
theorem Qom {a b:Int} (ha:0≤a∧a<256) (hb:0≤b∧b<256):0≤numOf [a,b]∧numOf [a,b]<65536:=by rw [numOf2];omega
theorem Qi4 {a b c d:Int} (ha:0≤a∧a<256) (hb:0≤b∧b<256) (hc:0≤c∧c<256) (hd:0≤d∧d<256):0≤numOf [a,b,c,d]∧numOf [a,b,c,d]<4294967296:=by rw [numOf4];omega
theorem Qlm:∀{l:List Int} {ls:List LV},(∀z∈l,0≤z∧z<256)→parseLinks l=some ls→linksB ls=l∧∀x∈ls,x.Ok∧1≤x.typ∧x.typ≤4
 | l,ls,hb,h=>by
  by_cases h12:12≤l.length
  ·rw [Qhv h12] at h
   obtain⟨a,b,c,d,e,f,g,i,j,k,m,n,r,rfl⟩:=list12 h12
   simp only [takeLink,List.drop] at h
   by_cases hc:k=0∧1≤j∧j≤4
   ·rw [if_pos hc] at h
    simp only [Option.map_eq_some_iff] at h
    obtain⟨t,ht,rfl⟩:=h
    obtain⟨hl,hx⟩:=Qlm (fun z hz=>hb z (by simp [hz])) ht
    have q:∀z∈[a,b,c,d,e,f,g,i,j,k,m,n],0≤z∧z<256:=fun z hz=>hb z (by simp at hz ⊢;grind)
    simp only [List.mem_cons,List.not_mem_nil,or_false,forall_eq_or_imp,forall_eq] at q
    obtain⟨qa,qb,qc,qd,qe,qf,qg,qi,qj,qk,qm,qn⟩:=q
    refine⟨?_,?_⟩
    ·have e1:linksB (⟨numOf [a,b,c,d],numOf [e,f,g,i],j,numOf [m,n]⟩::t)=linkB ⟨numOf [a,b,c,d],numOf [e,f,g,i],j,numOf [m,n]⟩++linksB t:=by simp [linksB]
     rw [e1,hl,linkB,Qa0 a b c d qa qb qc qd,Qa0 e f g i qe qf qg qi,Qe5 m n qm qn,hc.1]
     rfl
    ·intro x hxm
     rcases List.mem_cons.1 hxm with rfl|hxm
     ·exact⟨⟨Qi4 qa qb qc qd,Qi4 qe qf qg qi,qj,Qom qm qn⟩,hc.2⟩
     ·exact hx x hxm
   ·rw [if_neg hc] at h
    cases h
  ·by_cases h0:0<l.length
   ·rw [Qgn h0 (by omega)] at h
    cases h
   ·obtain rfl:l=[]:=List.length_eq_zero_iff.1 (by omega)
    simp only [parseLinks,Option.some.injEq] at h
    subst h
    exact⟨rfl,by simp⟩
 termination_by l=>l.length
theorem Qij {a b c d e f g h:Int} (hb:∀z∈[a,b,c,d,e,f,g,h],0≤z∧z<256) :
  decB 3 [a,b,c,d,e,f,g,h]=if pbok (numOf [a,b,c,d])=true∧e=0 then some ⟨0,[],numOf [a,b,c,d],[],numOf [f,g,h],false,0,0,[]⟩ else none:=by
 simp only [List.mem_cons,List.not_mem_nil,or_false,forall_eq_or_imp,forall_eq] at hb
 obtain⟨qa,qb,qc,qd,qe,qf,qg,qh⟩:=hb
 have hr:readB 3 [a,b,c,d,e,f,g,h]=some ⟨0,[],numOf [a,b,c,d],[],numOf [e,f,g,h],false,0,0,[]⟩:=by simp [readB]
 have hlay:layB 3 ⟨0,[],numOf [a,b,c,d],[],numOf [e,f,g,h],false,0,0,[]⟩=[a,b,c,d,e,f,g,h]:=by
  unfold layB
  rw [if_neg (by omega),if_neg (by omega),if_pos (Or.inl rfl)]
  dsimp only
  rw [Qa0 a b c d qa qb qc qd,Qa0 e f g h qe qf qg qh]
  rfl
 unfold decB
 rw [hr]
 dsimp only
 by_cases hc:pbok (numOf [a,b,c,d])=true∧e=0
 ·have hm:May 3 ⟨0,[],numOf [a,b,c,d],[],numOf [e,f,g,h],false,0,0,[]⟩:=⟨by simp,by simp,by simp,by simp,by simp,by simp,hc.1,by dsimp only;rw [numOf4];omega,by simp,by simp,by simp⟩
  rw [if_pos ⟨(Qbi _ _).2 hm,hlay⟩,if_pos hc]
  have:numOf [e,f,g,h]=numOf [f,g,h]:=by rw [numOf4,numOf3,hc.2];omega
  rw [this]
 ·rw [if_neg hc,if_neg ?_]
  rintro ⟨hm,-⟩
  have m:=(Qbi _ _).1 hm
  have h1:=m.mask
  have h2:=m.met
  dsimp only at h1 h2
  rw [numOf4] at h2
  exact hc ⟨h1,by omega⟩
theorem Qis {a b c d e f g h:Int} (hb:∀z∈[a,b,c,d,e,f,g,h],0≤z∧z<256) :
  decB 4 [a,b,c,d,e,f,g,h]=if numOf [a,b,c,d]=0∧e=0 then some ⟨0,[],0,[],numOf [f,g,h],false,0,0,[]⟩ else none:=by
 simp only [List.mem_cons,List.not_mem_nil,or_false,forall_eq_or_imp,forall_eq] at hb
 obtain⟨qa,qb,qc,qd,qe,qf,qg,qh⟩:=hb
 have hr:readB 4 [a,b,c,d,e,f,g,h]=some ⟨0,[],numOf [a,b,c,d],[],numOf [e,f,g,h],false,0,0,[]⟩:=by simp [readB]
 have hlay:layB 4 ⟨0,[],numOf [a,b,c,d],[],numOf [e,f,g,h],false,0,0,[]⟩=[a,b,c,d,e,f,g,h]:=by
  unfold layB
  rw [if_neg (by omega),if_neg (by omega),if_pos (Or.inr rfl)]
  dsimp only
  rw [Qa0 a b c d qa qb qc qd,Qa0 e f g h qe qf qg qh]
  rfl
 unfold decB
 rw [hr]
 dsimp only
 by_cases hc:numOf [a,b,c,d]=0∧e=0
 ·have hm:May 4 ⟨0,[],numOf [a,b,c,d],[],numOf [e,f,g,h],false,0,0,[]⟩:=⟨by simp,by simp,by simp [hc.1],by simp,by simp,by simp,by dsimp only;rw [hc.1];exact Qit,by dsimp only;rw [numOf4];omega,by simp,by simp,by simp⟩
  rw [if_pos ⟨(Qbi _ _).2 hm,hlay⟩,if_pos hc]
  have:numOf [e,f,g,h]=numOf [f,g,h]:=by rw [numOf4,numOf3,hc.2];omega
  rw [this,hc.1]
 ·rw [if_neg hc,if_neg ?_]
  rintro ⟨hm,-⟩
  have m:=(Qbi _ _).1 hm
  have h1:=m.a3
  have h2:=m.met
  dsimp only at h1 h2
  rw [numOf4] at h2
  exact hc ⟨by omega,by omega⟩
theorem Qcf {t:Int} {rs:List Int} (ht:t=3∨t=4) (h:rs.length≠8):decB t rs=none:=by
 unfold decB readB
 rw [if_neg (by omega),if_neg (by omega),if_pos ht,if_pos h]
theorem list8 {l:List Int} (h:l.length=8):∃a b c d e f g i,l=[a,b,c,d,e,f,g,i]:=by
 match l,h with
 | [a,b,c,d,e,f,g,i],_=>exact⟨a,b,c,d,e,f,g,i,rfl⟩
end Go.Proofs.YtldmkoogghemhaaGreat
