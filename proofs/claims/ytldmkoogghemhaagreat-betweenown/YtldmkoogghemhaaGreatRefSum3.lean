import Derived.Test.YtldmkoogghemhaaGreatRefMay2
import Derived.Laws.BitsAllLaws
namespace Go.Proofs.YtldmkoogghemhaaGreat
set_option maxHeartbeats 8000000
open Go.RowKit
set_option linter.unusedVariables false
set_option maxRecDepth 100000
theorem Qli (t:Int) (hk:knownB t=true) (b:BV) (vl vr vd:Value) (w:World) (ha:BArg w b vl vr vd) (hb1:b.links.length≤8192) (hb2:b.routers.length≤32768) (hb3:b.data.length≤131072) :
  Calls Tryz.prog 64 #[.int .u8 t,b.v vl vr vd] w fun e w'=>e=.returned (.bool (mayB t b))∧Touch (fun _=>False) w w':=by
 obtain⟨al,cl,rfl,-⟩:=ValsAt.form ha.l
 obtain⟨ar,cr,rfl,-⟩:=ValsAt.form ha.r
 obtain⟨ad,cd,rfl,-⟩:=ArgAt.form ha.d
 have HB:=fun w=>Qil b.mask w
 have HAl:=fun w' (t':Touch (fun _=>False) w w')=>Qh1 t hk b _ _ _ w' (ha.keep t') hb1 hb2 hb3
 cases hA:aloneB t b with
 | false =>
  rw [show mayB t b=false by simp [mayB,hA]]
  exact Qnt t b al ar ad cl cr cd b.routers.length b.data.length _ _ w ha.l hb1 hb2 hb3 HB HAl hA
 | true =>
  cases hM:pbok b.mask with
  | false =>
   rw [show mayB t b=false by simp [mayB,hM]]
   exact Qnx t b al ar ad cl cr cd b.routers.length b.data.length _ _ w ha.l hb1 hb2 hb3 HB HAl hA hM
  | true =>
   by_cases h3:16777215<b.metric
   ·rw [show mayB t b=false by unfold mayB;rw [decide_eq_false (show ¬b.metric≤16777215 by omega)];simp]
    exact Qoe t b al ar ad cl cr cd b.routers.length b.data.length _ _ w ha.l hb1 hb2 hb3 HB HAl hA hM h3
   ·by_cases h4:b.data.length%4=0
    ·have h4':((b.data.length:Nat):Int)%4=0:=by omega
     by_cases ht:t=2
     ·by_cases h6:b.routers.length=0
      ·rw [show mayB t b=false by unfold mayB;rw [decide_eq_false (show ¬(t=2→0<b.routers.length) from fun h=>by have:=h ht;omega)];simp]
       exact Qns t b al ar ad cl cr cd b.routers.length b.data.length _ _ w ha.l hb1 hb2 hb3 HB HAl hA hM h3 h4' ht h6
      ·refine Qmw t b al ar ad cl cr cd b.routers.length b.data.length _ _ w ha.l hb1 hb2 hb3 HB HAl hA hM h3 h4' ht (beq_eq_false_iff_ne.mpr (by omega)) _ ?_
       show _=_
       unfold mayB
       rw [hA,hM,decide_eq_true (show b.metric≤16777215 by omega),decide_eq_true h4,decide_eq_true (show t=2→0<b.routers.length from fun _=>by omega)]
       simp
     ·refine Qok t b al ar ad cl cr cd b.routers.length b.data.length _ _ w ha.l hb1 hb2 hb3 HB HAl hA hM h3 h4' ht _ ?_
      show _=_
      unfold mayB
      rw [hA,hM,decide_eq_true (show b.metric≤16777215 by omega),decide_eq_true h4,decide_eq_true (show t=2→0<b.routers.length from fun h=>absurd h ht)]
      simp
    ·rw [show mayB t b=false by unfold mayB;rw [decide_eq_false h4];simp]
     exact Qon t b al ar ad cl cr cd b.routers.length b.data.length _ _ w ha.l hb1 hb2 hb3 HB HAl hA hM h3 (b.data.length%4) (by omega) (by omega)
theorem Qkg (t:Int) (hk:knownB t=true) (b:BV) (ok:b.Ok) (vl vr vd:Value) (w:World) (ha:BArg w b vl vr vd) (hb1:b.links.length≤8192) (hb2:b.routers.length≤32768) (hb3:b.data.length≤131072) :
  Calls Tryz.prog 66 #[.int .u8 t,b.v vl vr vd] w fun e w'=>∃v,e=.returned v∧Buf w w' v (layB t b):=by
 unfold layB
 by_cases h1:t=1
 ·rw [if_pos h1];exact Qkq t h1 b ok vl vr vd w ha hb1 hb2 hb3
 ·rw [if_neg h1]
  by_cases h2:t=2
  ·rw [if_pos h2];exact Qlp t h2 b ok vl vr vd w ha hb1 hb2 hb3
  ·rw [if_neg h2]
   by_cases h3:t=3
   ·rw [if_pos (Or.inl h3)];exact Qht t h3 b ok vl vr vd w ha hb1 hb2 hb3
   ·by_cases h4:t=4
    ·rw [if_pos (Or.inr h4)];exact Qii t h4 b ok vl vr vd w ha hb1 hb2 hb3
    ·rw [if_neg (by omega)]
     by_cases h5:t=5
     ·rw [if_pos (Or.inl h5)];exact Qj5 t h5 b ok vl vr vd w ha hb1 hb2 hb3
     ·by_cases h7:t=7
      ·rw [if_pos (Or.inr h7)];exact Qh5 t h7 b ok vl vr vd w ha hb1 hb2 hb3
      ·rw [if_neg (by omega)];exact Qir t h1 h2 h3 h4 h5 h7 b ok vl vr vd w ha hb1 hb2 hb3
theorem Qe9 {l:List Int} {j:Nat} (h:j<l.length):l.take (j+1)=l.take j++[l.getD j 0]:=by
 rw [List.take_add_one,List.getElem?_eq_getElem h]
 simp [List.getD,h]
theorem Qjo {l:List Int} (h:∀x∈l,0≤x∧x<256) (j:Nat) (hj:j<l.length):0≤l.getD j 0∧l.getD j 0<256:=h _ (by simp [List.getD,hj])
theorem Qb5 {x y:Int} (hx:0≤x∧x≤254) (hy:0≤y∧y≤255):0≤x*y∧x*y≤64770:=by
 refine⟨Int.mul_nonneg hx.1 hy.1,?_⟩
 have h1:x*y≤254*y:=Int.mul_le_mul_of_nonneg_right hx.2 hy.1
 omega
structure ZAt (rs Z:List Int) (a:Int):Prop where
 len:Z.length=rs.length
 out:∀j:Nat,j<rs.length→0≤a→((j:Int)=a∨(j:Int)=a+1)→Z.getD j 0=0
 same:∀j:Nat,j<rs.length→(0≤a→(j:Int)≠a∧(j:Int)≠a+1)→Z.getD j 0=rs.getD j 0
theorem ZAt.all (rs:List Int):ZAt rs rs (-1):=⟨rfl,fun _ _ h=>by omega,fun _ _ _=>rfl⟩
theorem ZAt.laid (rs:List Int) (a:Nat) (h:a+2≤rs.length):ZAt rs (laid rs a 0 0) a:=by
 refine⟨Qfy _ _ _ _,fun j hj h0 e=>?_,fun j hj e=>?_⟩
 ·unfold YtldmkoogghemhaaGreat.laid
  rcases e with e|e
  ·obtain rfl:j=a:=by omega
   rw [Qa2 _ _ _ _ (by omega),Qdn _ _ _ (by omega)]
  ·obtain rfl:j=a+1:=by omega
   rw [Qdn _ _ _ (by simp;omega)]
 ·have e:=e (by omega)
  unfold YtldmkoogghemhaaGreat.laid
  rw [Qa2 _ _ _ _ (by omega),Qa2 _ _ _ _ (by omega)]
def SmR (Z:List Int) (n:Nat) (c0 c1 i:Value):Prop :=
 ∃(j:Nat) (x y:Int),j≤n∧i=.int .i64 (j:Int)∧c0=.int .i64 x∧c1=.int .i64 y∧0≤x∧x≤254∧0≤y∧y≤254∧Hid (x=S0 (Z.take j)%255)∧Hid (y=C1 (n:Int) (Z.take j)%255)
theorem Qnj {Z:List Int} {n j:Nat} {x y:Int} (hn:Z.length=n) (hj:j<n) (hz:Z.getD j 0=0) (hx:x=S0 (Z.take j)%255) (hy:y=C1 (n:Int) (Z.take j)%255):x=S0 (Z.take (j+1))%255∧y=C1 (n:Int) (Z.take (j+1))%255:=by
 rw [Qe9 (by omega),Qdp,Qdf,hz]
 simp only [S0,C1,Int.mul_zero,Int.add_zero]
 exact⟨hx,hy⟩
theorem Qml {Z:List Int} {n j:Nat} {x y:Int} (hn:Z.length=n) (hj:j<n) (hx:x=S0 (Z.take j)%255) (hy:y=C1 (n:Int) (Z.take j)%255) :
  (x+Z.getD j 0)%255=S0 (Z.take (j+1))%255∧(y+((n:Int)-j)%255*Z.getD j 0)%255=C1 (n:Int) (Z.take (j+1))%255:=by
 rw [Qe9 (by omega),Qdp,Qdf]
 simp only [S0,C1,Int.add_zero]
 have hl:((Z.take j).length:Int)=j:=by simp;omega
 rw [hl]
 generalize Z.getD j 0=z
 refine⟨by omega,?_⟩
 obtain⟨q,hq⟩:∃q,(n:Int)-j=((n:Int)-j)%255+255*q:=⟨((n:Int)-j)/255,by omega⟩
 have e:((n:Int)-j)*z=((n:Int)-j)%255*z+255*(q*z):=by
  rw [hq]
  have:(((n:Int)-j)%255+255*q)%255=((n:Int)-j)%255:=by omega
  rw [this]
  grind
 rw [e]
 generalize ((n:Int)-j)%255*z=P
 generalize q*z=Q
 omega
theorem Qfq (v:Value) (rs Z:List Int) (a:Int) (w:World) (hv:ArgAt w v rs) (hby:∀x∈rs,0≤x∧x<256) (hl:rs.length≤65536) (hZ:ZAt rs Z a) (ha:a≤65536) (ha' : -1≤a) :
  Calls Tryz.prog 62 #[v,.int .i64 a] w fun e w'=>e=.returned (.tuple #[.int .i64 (S0 Z%255),.int .i64 (S1 Z%255)])∧w=w':=by
 obtain⟨A,hA⟩:∃A,S0 Z%255=A:=⟨_,rfl⟩
 obtain⟨B,hB⟩:∃B,S1 Z%255=B:=⟨_,rfl⟩
 have HA:Hid (S0 Z%255=A):=hA
 have HB:Hid (S1 Z%255=B):=hB
 rw [hA,hB]
 clear hA hB
 have HBy:Hid (∀x∈rs,0≤x∧x<256):=hby
 have HZ:Hid (ZAt rs Z a):=hZ
 obtain⟨va,vc,rfl,hm⟩:=hv.form
 unfold maxLen at hm
 have HV:Hid (ArgAt w (.slice va rs.length vc) rs):=hv
 have hl':(rs.length:Int)≤65536:=by omega
 clear hv hby hZ
 go_enter Tryz.func62,Tryz.ntmps62
 go_wp2
 go_loop [6,7,8] (fun c0 c1 i=>SmR Z rs.length c0 c1 i) (fun _ _ i=>rs.length-(intOf i).toNat)
 case atStart=>exact⟨0,0,0,Nat.zero_le _,rfl,rfl,rfl,by omega,by omega,by omega,by omega,rfl,rfl⟩
 case round =>
  obtain⟨j,x,y,hj,rfl,rfl,rfl,hx0,hx1,hy0,hy1,HX,HY⟩:=hrel
  by_cases hlt:j<rs.length
  ·have hlt':(j:Int)<(rs.length:Int):=by omega
   by_cases hat:0≤a∧((j:Int)=a∨(j:Int)=a+1)
   ·obtain⟨hat0,hat1⟩:=hat
    have hst:=Qnj HZ.out.len hlt (HZ.out.out j hlt hat0 hat1) HX.out HY.out
    have HN:Hid (SmR Z rs.length (.int .i64 x) (.int .i64 y) (.int .i64 ((j:Int)+1))):=⟨j+1,x,y,by omega,by rw [Int.natCast_add];rfl,rfl,rfl,hx0,hx1,hy0,hy1,hst.1,hst.2⟩
    clear hst
    rcases hat1 with hat1|hat1
    ·have hat2:((j:Int)==a)=true:=by simp [hat1]
     clear hat1
     go_wp2
     go_round
     case rel=>exact HN.out
     case measure=>simp [intOf];omega
    ·have hat2:((j:Int)==a)=false:=by simp;omega
     have hat3:((j:Int)==a+1)=true:=by simp [hat1]
     clear hat1
     go_wp2
     go_round
     case rel=>exact HN.out
     case measure=>simp [intOf];omega
   ·have hr:=HV.out.row (by omega)
    obtain⟨ga,oa,rfl⟩:=Qcv hr (by omega)
    have hcx:=Qd2 hr j hlt
    obtain⟨hz0,hz1⟩:=Qjo HBy.out j hlt
    have hst:=Qml HZ.out.len hlt HX.out HY.out
    rw [HZ.out.same j hlt (fun h0=>by omega)] at hst
    revert hcx hz0 hz1 hst
    generalize rs.getD j 0=z
    intro hcx hz0 hz1 hst
    obtain⟨hp0,hp1⟩:=Qb5 (x:=((rs.length:Int)-j)%255) (y:=z) (by omega) (by omega)
    have HN:Hid (SmR Z rs.length (.int .i64 ((x+z)%255)) (.int .i64 ((y+((rs.length:Int)-j)%255*z)%255)) (.int .i64 ((j:Int)+1))):=⟨j+1,_,_,by omega,by rw [Int.natCast_add];rfl,rfl,rfl,by omega,by omega,by omega,by omega,hst.1,hst.2⟩
    clear hst hr
    by_cases h0:0≤a
    ·have hat2:((j:Int)==a)=false:=by simp;omega
     have hat3:((j:Int)==a+1)=false:=by simp;omega
     clear hat
     go_wp2
     go_round
     case rel=>exact HN.out
     case measure=>simp [intOf];omega
    ·have h0':decide (0≤a)=false:=by simpa using h0
     clear hat
     go_wp2
     go_round
     case rel=>exact HN.out
     case measure=>simp [intOf];omega
  ·obtain rfl:j=rs.length:=by omega
   have hq:¬(rs.length:Int)<(rs.length:Int):=by omega
   have hlen:=HZ.out.len
   have HXA:Hid (x=A):=by show _=_;rw [HX.out,←HA.out,List.take_of_length_le (by omega)]
   have HYB:Hid (y=B):=by show _=_;rw [HY.out,←HB.out,List.take_of_length_le (by omega),←hlen];rfl
   clear hlen
   go_wp2
   go_ret2
   rw [HXA.out,HYB.out]
   exact⟨rfl,rfl⟩
theorem Qnn (v:Value) (rs:List Int) (w:World) (hv:ArgAt w v rs) (hby:∀x∈rs,0≤x∧x<256) (hl:rs.length≤65536) :
  Calls Tryz.prog 104 #[v] w fun e w'=>e=.returned (.bool (whole rs))∧w=w':=by
 have HC:=Qfq v rs rs (-1) w hv hby hl (ZAt.all rs) (by omega) (by omega)
 unfold whole
 revert HC
 generalize S0 rs%255=x
 generalize S1 rs%255=y
 intro HC
 clear hv hby
 by_cases hx:x=0
 ·subst hx
  go_enter Tryz.func104,Tryz.ntmps104
  go_wp2_with fail
  refine HC.mono ?_
  rintro e w1 ⟨rfl,rfl⟩
  go_wp2
  go_ret
  exact⟨by simp,rfl⟩
 ·have hx':(x==0)=false:=by simpa using hx
  go_enter Tryz.func104,Tryz.ntmps104
  go_wp2_with fail
  refine HC.mono ?_
  rintro e w1 ⟨rfl,rfl⟩
  go_wp2
  go_ret
  exact⟨by simp [hx'],rfl⟩
def XR (X:Int) (x:Value):Prop:=∃n:Int,x=.int .i64 n∧1≤n∧n≤X
def YR (X Y n:Int) (y:Value):Prop:=∃m:Int,y=.int .i64 m∧1≤m∧m≤256∧Hid (n=X→m≤Y)
theorem Qee (v:Value) (rs:List Int) (a:Nat) (w:World) (hv:ArgAt w v rs) (hby:∀x∈rs,0≤x∧x<256) (hl:rs.length≤65536) (h:a+2≤rs.length) :
  Calls Tryz.prog 44 #[v,.int .i64 (a:Int)] w fun e w'=>e=.returned (.tuple #[.int .u16 (256*flx rs a+fly rs a),.int .i64 0])∧w=w':=by
 have HC:=Qfq v rs (laid rs a 0 0) (a:Int) w hv hby hl (ZAt.laid rs a h) (by omega) (by omega)
 obtain⟨N,hN⟩:∃N,((rs.length:Int)-(a:Int))%255=N:=⟨_,rfl⟩
 obtain⟨T,hT⟩:∃T,(N+254)%255=T:=⟨_,rfl⟩
 have hTt:tms rs a=T:=by unfold tms;omega
 have hX:flx rs a=fx T (S0 (laid rs a 0 0)%255) (S1 (laid rs a 0 0)%255):=by unfold flx;rw [hTt]
 have hY:fly rs a=fy (S0 (laid rs a 0 0)%255) (flx rs a):=rfl
 have hXb:=Qcd rs a
 have hYb:=Qcm rs a
 have hC0:0≤S0 (laid rs a 0 0)%255∧S0 (laid rs a 0 0)%255≤254:=by omega
 have hC1:0≤S1 (laid rs a 0 0)%255∧S1 (laid rs a 0 0)%255≤254:=by omega
 revert HC hX hY hXb hYb hC0 hC1
 generalize S0 (laid rs a 0 0)%255=C0
 generalize S1 (laid rs a 0 0)%255=C1
 generalize flx rs a=X
 generalize fly rs a=Y
 intro HC hX hY hXb hYb hC0 hC1
 have HPair:Hid (∀x y:Int,1≤x∧x≤255→1≤y∧y≤255→(((C0+x+y)%255=0∧(C1+N*x+T*y)%255=0)↔x=X∧y=Y)):=by
  intro x y hx hy
  rw [hY,hX]
  exact Qe2 hT.symm hx hy
 obtain⟨hX0,hX1⟩:=hXb
 obtain⟨hY0,hY1⟩:=hYb
 obtain⟨hC00,hC01⟩:=hC0
 obtain⟨hC10,hC11⟩:=hC1
 have hN0:0≤N:=by omega
 have hN1:N≤254:=by omega
 have hT0:0≤T:=by omega
 have hT1:T≤254:=by omega
 obtain⟨va,vc,rfl,hm⟩:=hv.form
 have h0:¬(a:Int)<0:=by omega
 have h1:¬(rs.length:Int)-1≤(a:Int):=by omega
 have h2:(a:Int)+2≤(rs.length:Int):=by omega
 have h3:(rs.length:Int)≤65536:=by omega
 clear hv hby hTt hX hY hm
 have HT:Hid ((N+254)%255=T):=hT
 clear hT
 go_enter Tryz.func44,Tryz.ntmps44
 go_wp2_with fail
 refine HC.mono ?_
 rintro e w1 ⟨rfl,rfl⟩
 clear HC
 go_wp2_with fail
 rw [hN]
 go_loop [9] (fun x=>XR X x) (fun x=>(256-intOf x).toNat)
 case atStart=>exact⟨1,rfl,by omega,by omega⟩
 case round =>
  obtain⟨x,rfl,hx0,hx1⟩:=hrel
  have hT:=HT.out
  clear hN
  go_wp2_with fail
  go_loop [10] (fun y=>YR X Y x y) (fun y=>(257-intOf y).toNat)
  case atStart=>exact⟨1,rfl,by omega,by omega,fun _=>by omega⟩
  case round =>
   obtain⟨y,rfl,hy0,hy1,HY⟩:=hrel
   by_cases hle:y≤255
   ·obtain⟨hp0,hp1⟩:=Qb5 (x:=N) (y:=x) ⟨hN0,hN1⟩ ⟨by omega,by omega⟩
    obtain⟨hq0,hq1⟩:=Qb5 (x:=T) (y:=y) ⟨hT0,hT1⟩ ⟨by omega,by omega⟩
    have hpr:=HPair.out x y ⟨by omega,by omega⟩ ⟨by omega,by omega⟩
    by_cases e1:(C0+x+y)%255=0
    ·by_cases e2:(C1+N*x+T*y)%255=0
     ·obtain⟨rfl,rfl⟩:=hpr.1 ⟨e1,e2⟩
      clear hpr
      go_wp2
      go_ret2
      exact⟨rfl,rfl⟩
     ·have e2':((C1+N*x+T*y)%255==0)=false:=by simpa using e2
      have HN:Hid (YR X Y x (.int .i64 (y+1))):=⟨y+1,rfl,by omega,by omega,fun e=>by
       have:=HY.out e
       rcases Int.lt_or_eq_of_le this with q|q
       ·omega
       ·exact absurd (hpr.2 ⟨e,q⟩).2 e2⟩
      clear hpr
      go_wp2
      go_round
      case rel=>exact HN.out
      case measure=>simp [intOf];omega
    ·have e1':((C0+x+y)%255==0)=false:=by simpa using e1
     have HN:Hid (YR X Y x (.int .i64 (y+1))):=⟨y+1,rfl,by omega,by omega,fun e=>by
      have:=HY.out e
      rcases Int.lt_or_eq_of_le this with q|q
      ·omega
      ·exact absurd (hpr.2 ⟨e,q⟩).1 e1⟩
     clear hpr
     go_wp2
     go_round
     case rel=>exact HN.out
     case measure=>simp [intOf];omega
   ·have hxx:x<X:=by
     rcases Int.lt_or_eq_of_le hx1 with q|q
     ·exact q
     ·have:=HY.out q;omega
    go_wp2
    go_round
    case rel=>exact⟨x+1,rfl,by omega,by omega⟩
    case measure=>simp [intOf];omega
end Go.Proofs.YtldmkoogghemhaaGreat
