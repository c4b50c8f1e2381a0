import Derived.Test.YtddbffoiadmffaaGreatRefMay2
import Derived.Laws.BitsAllLaws
import Derived.Deep.DeepCutAuto
import Derived.Test.YtddbffoiadmffaaGreatOrdNewer
import Derived.Deep.RegionHeld2
import Derived.Deep.RegionHeld3
import Derived.Deep.LoopGhost
namespace Go.Proofs.YtddbffoiadmffaaGreat
set_option maxHeartbeats 8000000
open Go.RowKit
set_option linter.unusedVariables false
set_option maxRecDepth 100000
theorem Qpf (t:Int) (hk:knownB t=true) (b:BV) (vl vr vd:Value) (w:World) (ha:BArg w b vl vr vd) (hb1:b.links.length≤8192) (hb2:b.routers.length≤32768) (hb3:b.data.length≤131072) :
  Calls Tryz.prog 92 #[.int .u8 t,b.v vl vr vd] w fun e w'=>e=.returned (.bool (mayB t b))∧Touch (fun _=>False) w w':=by
 obtain⟨al,cl,rfl,-⟩:=ValsAt.form ha.l
 obtain⟨ar,cr,rfl,-⟩:=ValsAt.form ha.r
 obtain⟨ad,cd,rfl,-⟩:=ArgAt.form ha.d
 have HB:=fun w=>Qm3 b.mask w
 have HAl:=fun w' (t':Touch (fun _=>False) w w')=>Qk0 t hk b _ _ _ w' (ha.keep t') hb1 hb2 hb3
 cases hA:aloneB t b with
 | false =>
  rw [show mayB t b=false by simp [mayB,hA]]
  exact Qvc t b al ar ad cl cr cd b.routers.length b.data.length _ _ w ha.l hb1 hb2 hb3 HB HAl hA
 | true =>
  cases hM:pbok b.mask with
  | false =>
   rw [show mayB t b=false by simp [mayB,hM]]
   exact Qv1 t b al ar ad cl cr cd b.routers.length b.data.length _ _ w ha.l hb1 hb2 hb3 HB HAl hA hM
  | true =>
   by_cases h3:16777215<b.metric
   ·rw [show mayB t b=false by unfold mayB;rw [decide_eq_false (show ¬b.metric≤16777215 by omega)];simp]
    exact Qws t b al ar ad cl cr cd b.routers.length b.data.length _ _ w ha.l hb1 hb2 hb3 HB HAl hA hM h3
   ·by_cases h4:b.data.length%4=0
    ·have h4':((b.data.length:Nat):Int)%4=0:=by omega
     by_cases ht:t=2
     ·by_cases h6:b.routers.length=0
      ·rw [show mayB t b=false by unfold mayB;rw [decide_eq_false (show ¬(t=2→0<b.routers.length) from fun h=>by have:=h ht;omega)];simp]
       exact Qu8 t b al ar ad cl cr cd b.routers.length b.data.length _ _ w ha.l hb1 hb2 hb3 HB HAl hA hM h3 h4' ht h6
      ·refine Qut t b al ar ad cl cr cd b.routers.length b.data.length _ _ w ha.l hb1 hb2 hb3 HB HAl hA hM h3 h4' ht (beq_eq_false_iff_ne.mpr (by omega)) _ ?_
       show _=_
       unfold mayB
       rw [hA,hM,decide_eq_true (show b.metric≤16777215 by omega),decide_eq_true h4,decide_eq_true (show t=2→0<b.routers.length from fun _=>by omega)]
       simp
     ·refine Qwh t b al ar ad cl cr cd b.routers.length b.data.length _ _ w ha.l hb1 hb2 hb3 HB HAl hA hM h3 h4' ht _ ?_
      show _=_
      unfold mayB
      rw [hA,hM,decide_eq_true (show b.metric≤16777215 by omega),decide_eq_true h4,decide_eq_true (show t=2→0<b.routers.length from fun h=>absurd h ht)]
      simp
    ·rw [show mayB t b=false by unfold mayB;rw [decide_eq_false h4];simp]
     exact Qvz t b al ar ad cl cr cd b.routers.length b.data.length _ _ w ha.l hb1 hb2 hb3 HB HAl hA hM h3 (b.data.length%4) (by omega) (by omega)
theorem Qqe (t:Int) (hk:knownB t=true) (b:BV) (ok:b.Ok) (vl vr vd:Value) (w:World) (ha:BArg w b vl vr vd) (hb1:b.links.length≤8192) (hb2:b.routers.length≤32768) (hb3:b.data.length≤131072) :
  Calls Tryz.prog 95 #[.int .u8 t,b.v vl vr vd] w fun e w'=>∃v,e=.returned v∧Buf w w' v (layB t b):=by
 unfold layB
 by_cases h1:t=1
 ·rw [if_pos h1];exact Qse t h1 b ok vl vr vd w ha hb1 hb2 hb3
 ·rw [if_neg h1]
  by_cases h2:t=2
  ·rw [if_pos h2];exact Qsb t h2 b ok vl vr vd w ha hb1 hb2 hb3
  ·rw [if_neg h2]
   by_cases h3:t=3
   ·rw [if_pos (Or.inl h3)];exact Qk8 t h3 b ok vl vr vd w ha hb1 hb2 hb3
   ·by_cases h4:t=4
    ·rw [if_pos (Or.inr h4)];exact Qos t h4 b ok vl vr vd w ha hb1 hb2 hb3
    ·rw [if_neg (by omega)]
     by_cases h5:t=5
     ·rw [if_pos (Or.inl h5)];exact Qn6 t h5 b ok vl vr vd w ha hb1 hb2 hb3
     ·by_cases h7:t=7
      ·rw [if_pos (Or.inr h7)];exact Qlm t h7 b ok vl vr vd w ha hb1 hb2 hb3
      ·rw [if_neg (by omega)];exact Qm0 t h1 h2 h3 h4 h5 h7 b ok vl vr vd w ha hb1 hb2 hb3
theorem Qhp {l:List Int} {j:Nat} (h:j<l.length):l.take (j+1)=l.take j++[l.getD j 0]:=by
 rw [List.take_add_one,List.getElem?_eq_getElem h]
 simp [List.getD,h]
theorem Qmz {l:List Int} (h:∀x∈l,0≤x∧x<256) (j:Nat) (hj:j<l.length):0≤l.getD j 0∧l.getD j 0<256:=h _ (by simp [List.getD,hj])
theorem Qcx {x y:Int} (hx:0≤x∧x≤254) (hy:0≤y∧y≤255):0≤x*y∧x*y≤64770:=by
 refine⟨Int.mul_nonneg hx.1 hy.1,?_⟩
 have h1:x*y≤254*y:=Int.mul_le_mul_of_nonneg_right hx.2 hy.1
 omega
structure ZAt (rs Z:List Int) (a:Int):Prop where
 len:Z.length=rs.length
 out:∀j:Nat,j<rs.length→0≤a→((j:Int)=a∨(j:Int)=a+1)→Z.getD j 0=0
 same:∀j:Nat,j<rs.length→(0≤a→(j:Int)≠a∧(j:Int)≠a+1)→Z.getD j 0=rs.getD j 0
theorem ZAt.all (rs:List Int):ZAt rs rs (-1):=⟨rfl,fun _ _ h=>by omega,fun _ _ _=>rfl⟩
theorem ZAt.laid (rs:List Int) (a:Nat) (h:a+2≤rs.length):ZAt rs (laid rs a 0 0) a:=by
 refine⟨Qjk _ _ _ _,fun j hj h0 e=>?_,fun j hj e=>?_⟩
 ·unfold YtddbffoiadmffaaGreat.laid
  rcases e with e|e
  ·obtain rfl:j=a:=by omega
   rw [Qbg _ _ _ _ (by omega),Qe2 _ _ _ (by omega)]
  ·obtain rfl:j=a+1:=by omega
   rw [Qe2 _ _ _ (by simp;omega)]
 ·have e:=e (by omega)
  unfold YtddbffoiadmffaaGreat.laid
  rw [Qbg _ _ _ _ (by omega),Qbg _ _ _ _ (by omega)]
def SmR (Z:List Int) (n:Nat) (c0 c1 i:Value):Prop :=
 ∃(j:Nat) (x y:Int),j≤n∧i=.int .i64 (j:Int)∧c0=.int .i64 x∧c1=.int .i64 y∧0≤x∧x≤254∧0≤y∧y≤254∧Hid (x=S0 (Z.take j)%255)∧Hid (y=C1 (n:Int) (Z.take j)%255)
theorem Qul {Z:List Int} {n j:Nat} {x y:Int} (hn:Z.length=n) (hj:j<n) (hz:Z.getD j 0=0) (hx:x=S0 (Z.take j)%255) (hy:y=C1 (n:Int) (Z.take j)%255):x=S0 (Z.take (j+1))%255∧y=C1 (n:Int) (Z.take (j+1))%255:=by
 rw [Qhp (by omega),Qet,Qes,hz]
 simp only [S0,C1,Int.mul_zero,Int.add_zero]
 exact⟨hx,hy⟩
theorem Qtm {Z:List Int} {n j:Nat} {x y:Int} (hn:Z.length=n) (hj:j<n) (hx:x=S0 (Z.take j)%255) (hy:y=C1 (n:Int) (Z.take j)%255) :
  (x+Z.getD j 0)%255=S0 (Z.take (j+1))%255∧(y+((n:Int)-j)%255*Z.getD j 0)%255=C1 (n:Int) (Z.take (j+1))%255:=by
 rw [Qhp (by omega),Qet,Qes]
 simp only [S0,C1,Int.add_zero]
 have hl:((Z.take j).length:Int)=j:=by simp;omega
 rw [hl]
 generalize Z.getD j 0=z
 refine⟨by omega,?_⟩
 obtain⟨q,hq⟩:∃q,(n:Int)-j=((n:Int)-j)%255+255*q:=⟨((n:Int)-j)/255,by omega⟩
 have e:((n:Int)-j)*z=((n:Int)-j)%255*z+255*(q*z):=by
  rw [hq]
  have:(((n:Int)-j)%255+255*q)%255=((n:Int)-j)%255:=by omega
  rw [this]
  grind
 rw [e]
 generalize ((n:Int)-j)%255*z=P
 generalize q*z=Q
 omega
theorem Qhb (v:Value) (rs Z:List Int) (a:Int) (w:World) (hv:ArgAt w v rs) (hby:∀x∈rs,0≤x∧x<256) (hl:rs.length≤65536) (hZ:ZAt rs Z a) (ha:a≤65536) (ha' : -1≤a) :
  Calls Tryz.prog 167 #[v,.int .i64 a] w fun e w'=>e=.returned (.tuple #[.int .i64 (S0 Z%255),.int .i64 (S1 Z%255)])∧w=w':=by
 obtain⟨A,hA⟩:∃A,S0 Z%255=A:=⟨_,rfl⟩
 obtain⟨B,hB⟩:∃B,S1 Z%255=B:=⟨_,rfl⟩
 have HA:Hid (S0 Z%255=A):=hA
 have HB:Hid (S1 Z%255=B):=hB
 rw [hA,hB]
 clear hA hB
 have HBy:Hid (∀x∈rs,0≤x∧x<256):=hby
 have HZ:Hid (ZAt rs Z a):=hZ
 obtain⟨va,vc,rfl,hm⟩:=hv.form
 unfold maxLen at hm
 have HV:Hid (ArgAt w (.slice va rs.length vc) rs):=hv
 have hl':(rs.length:Int)≤65536:=by omega
 clear hv hby hZ
 go_enter Tryz.func167,Tryz.ntmps167
 go_wp2
 go_loop [6,7,8] (fun c0 c1 i=>SmR Z rs.length c0 c1 i) (fun _ _ i=>rs.length-(intOf i).toNat)
 case atStart=>exact⟨0,0,0,Nat.zero_le _,rfl,rfl,rfl,by omega,by omega,by omega,by omega,rfl,rfl⟩
 case round =>
  obtain⟨j,x,y,hj,rfl,rfl,rfl,hx0,hx1,hy0,hy1,HX,HY⟩:=hrel
  by_cases hlt:j<rs.length
  ·have hlt':(j:Int)<(rs.length:Int):=by omega
   by_cases hat:0≤a∧((j:Int)=a∨(j:Int)=a+1)
   ·obtain⟨hat0,hat1⟩:=hat
    have hst:=Qul HZ.out.len hlt (HZ.out.out j hlt hat0 hat1) HX.out HY.out
    have HN:Hid (SmR Z rs.length (.int .i64 x) (.int .i64 y) (.int .i64 ((j:Int)+1))):=⟨j+1,x,y,by omega,by rw [Int.natCast_add];rfl,rfl,rfl,hx0,hx1,hy0,hy1,hst.1,hst.2⟩
    clear hst
    rcases hat1 with hat1|hat1
    ·have hat2:((j:Int)==a)=true:=by simp [hat1]
     clear hat1
     go_wp2
     go_round
     case rel=>exact HN.out
     case measure=>simp [intOf];omega
    ·have hat2:((j:Int)==a)=false:=by simp;omega
     have hat3:((j:Int)==a+1)=true:=by simp [hat1]
     clear hat1
     go_wp2
     go_round
     case rel=>exact HN.out
     case measure=>simp [intOf];omega
   ·have hr:=HV.out.row (by omega)
    obtain⟨ga,oa,rfl⟩:=Qd9 hr (by omega)
    have hcx:=Qfs hr j hlt
    obtain⟨hz0,hz1⟩:=Qmz HBy.out j hlt
    have hst:=Qtm HZ.out.len hlt HX.out HY.out
    rw [HZ.out.same j hlt (fun h0=>by omega)] at hst
    revert hcx hz0 hz1 hst
    generalize rs.getD j 0=z
    intro hcx hz0 hz1 hst
    obtain⟨hp0,hp1⟩:=Qcx (x:=((rs.length:Int)-j)%255) (y:=z) (by omega) (by omega)
    have HN:Hid (SmR Z rs.length (.int .i64 ((x+z)%255)) (.int .i64 ((y+((rs.length:Int)-j)%255*z)%255)) (.int .i64 ((j:Int)+1))):=⟨j+1,_,_,by omega,by rw [Int.natCast_add];rfl,rfl,rfl,by omega,by omega,by omega,by omega,hst.1,hst.2⟩
    clear hst hr
    by_cases h0:0≤a
    ·have hat2:((j:Int)==a)=false:=by simp;omega
     have hat3:((j:Int)==a+1)=false:=by simp;omega
     clear hat
     go_wp2
     go_round
     case rel=>exact HN.out
     case measure=>simp [intOf];omega
    ·have h0':decide (0≤a)=false:=by simpa using h0
     clear hat
     go_wp2
     go_round
     case rel=>exact HN.out
     case measure=>simp [intOf];omega
  ·obtain rfl:j=rs.length:=by omega
   have hq:¬(rs.length:Int)<(rs.length:Int):=by omega
   have hlen:=HZ.out.len
   have HXA:Hid (x=A):=by show _=_;rw [HX.out,←HA.out,List.take_of_length_le (by omega)]
   have HYB:Hid (y=B):=by show _=_;rw [HY.out,←HB.out,List.take_of_length_le (by omega),←hlen];rfl
   clear hlen
   go_wp2
   go_ret2
   rw [HXA.out,HYB.out]
   exact⟨rfl,rfl⟩
theorem Qu3 (v:Value) (rs:List Int) (w:World) (hv:ArgAt w v rs) (hby:∀x∈rs,0≤x∧x<256) (hl:rs.length≤65536) :
  Calls Tryz.prog 193 #[v] w fun e w'=>e=.returned (.bool (whole rs))∧w=w':=by
 have HC:=Qhb v rs rs (-1) w hv hby hl (ZAt.all rs) (by omega) (by omega)
 unfold whole
 revert HC
 generalize S0 rs%255=x
 generalize S1 rs%255=y
 intro HC
 clear hv hby
 by_cases hx:x=0
 ·subst hx
  go_enter Tryz.func193,Tryz.ntmps193
  go_wp2_with fail
  refine HC.mono ?_
  rintro e w1 ⟨rfl,rfl⟩
  go_wp2
  go_ret
  exact⟨by simp,rfl⟩
 ·have hx':(x==0)=false:=by simpa using hx
  go_enter Tryz.func193,Tryz.ntmps193
  go_wp2_with fail
  refine HC.mono ?_
  rintro e w1 ⟨rfl,rfl⟩
  go_wp2
  go_ret
  exact⟨by simp [hx'],rfl⟩
def XR (X:Int) (x:Value):Prop:=∃n:Int,x=.int .i64 n∧1≤n∧n≤X
def YR (X Y n:Int) (y:Value):Prop:=∃m:Int,y=.int .i64 m∧1≤m∧m≤256∧Hid (n=X→m≤Y)
theorem Qgm (v:Value) (rs:List Int) (a:Nat) (w:World) (hv:ArgAt w v rs) (hby:∀x∈rs,0≤x∧x<256) (hl:rs.length≤65536) (h:a+2≤rs.length) :
  Calls Tryz.prog 134 #[v,.int .i64 (a:Int)] w fun e w'=>e=.returned (.tuple #[.int .u16 (256*flx rs a+fly rs a),.int .i64 0])∧w=w':=by
 have HC:=Qhb v rs (laid rs a 0 0) (a:Int) w hv hby hl (ZAt.laid rs a h) (by omega) (by omega)
 obtain⟨N,hN⟩:∃N,((rs.length:Int)-(a:Int))%255=N:=⟨_,rfl⟩
 obtain⟨T,hT⟩:∃T,(N+254)%255=T:=⟨_,rfl⟩
 have hTt:tms rs a=T:=by unfold tms;omega
 have hX:flx rs a=fx T (S0 (laid rs a 0 0)%255) (S1 (laid rs a 0 0)%255):=by unfold flx;rw [hTt]
 have hY:fly rs a=fy (S0 (laid rs a 0 0)%255) (flx rs a):=rfl
 have hXb:=Qdr rs a
 have hYb:=Qdh rs a
 have hC0:0≤S0 (laid rs a 0 0)%255∧S0 (laid rs a 0 0)%255≤254:=by omega
 have hC1:0≤S1 (laid rs a 0 0)%255∧S1 (laid rs a 0 0)%255≤254:=by omega
 revert HC hX hY hXb hYb hC0 hC1
 generalize S0 (laid rs a 0 0)%255=C0
 generalize S1 (laid rs a 0 0)%255=C1
 generalize flx rs a=X
 generalize fly rs a=Y
 intro HC hX hY hXb hYb hC0 hC1
 have HPair:Hid (∀x y:Int,1≤x∧x≤255→1≤y∧y≤255→(((C0+x+y)%255=0∧(C1+N*x+T*y)%255=0)↔x=X∧y=Y)):=by
  intro x y hx hy
  rw [hY,hX]
  exact Qhz hT.symm hx hy
 obtain⟨hX0,hX1⟩:=hXb
 obtain⟨hY0,hY1⟩:=hYb
 obtain⟨hC00,hC01⟩:=hC0
 obtain⟨hC10,hC11⟩:=hC1
 have hN0:0≤N:=by omega
 have hN1:N≤254:=by omega
 have hT0:0≤T:=by omega
 have hT1:T≤254:=by omega
 obtain⟨va,vc,rfl,hm⟩:=hv.form
 have h0:¬(a:Int)<0:=by omega
 have h1:¬(rs.length:Int)-1≤(a:Int):=by omega
 have h2:(a:Int)+2≤(rs.length:Int):=by omega
 have h3:(rs.length:Int)≤65536:=by omega
 clear hv hby hTt hX hY hm
 have HT:Hid ((N+254)%255=T):=hT
 clear hT
 go_enter Tryz.func134,Tryz.ntmps134
 go_wp2_with fail
 refine HC.mono ?_
 rintro e w1 ⟨rfl,rfl⟩
 clear HC
 go_wp2_with fail
 rw [hN]
 go_loop [9] (fun x=>XR X x) (fun x=>(256-intOf x).toNat)
 case atStart=>exact⟨1,rfl,by omega,by omega⟩
 case round =>
  obtain⟨x,rfl,hx0,hx1⟩:=hrel
  have hT:=HT.out
  clear hN
  go_wp2_with fail
  go_loop [10] (fun y=>YR X Y x y) (fun y=>(257-intOf y).toNat)
  case atStart=>exact⟨1,rfl,by omega,by omega,fun _=>by omega⟩
  case round =>
   obtain⟨y,rfl,hy0,hy1,HY⟩:=hrel
   by_cases hle:y≤255
   ·obtain⟨hp0,hp1⟩:=Qcx (x:=N) (y:=x) ⟨hN0,hN1⟩ ⟨by omega,by omega⟩
    obtain⟨hq0,hq1⟩:=Qcx (x:=T) (y:=y) ⟨hT0,hT1⟩ ⟨by omega,by omega⟩
    have hpr:=HPair.out x y ⟨by omega,by omega⟩ ⟨by omega,by omega⟩
    by_cases e1:(C0+x+y)%255=0
    ·by_cases e2:(C1+N*x+T*y)%255=0
     ·obtain⟨rfl,rfl⟩:=hpr.1 ⟨e1,e2⟩
      clear hpr
      go_wp2
      go_ret2
      exact⟨rfl,rfl⟩
     ·have e2':((C1+N*x+T*y)%255==0)=false:=by simpa using e2
      have HN:Hid (YR X Y x (.int .i64 (y+1))):=⟨y+1,rfl,by omega,by omega,fun e=>by
       have:=HY.out e
       rcases Int.lt_or_eq_of_le this with q|q
       ·omega
       ·exact absurd (hpr.2 ⟨e,q⟩).2 e2⟩
      clear hpr
      go_wp2
      go_round
      case rel=>exact HN.out
      case measure=>simp [intOf];omega
    ·have e1':((C0+x+y)%255==0)=false:=by simpa using e1
     have HN:Hid (YR X Y x (.int .i64 (y+1))):=⟨y+1,rfl,by omega,by omega,fun e=>by
      have:=HY.out e
      rcases Int.lt_or_eq_of_le this with q|q
      ·omega
      ·exact absurd (hpr.2 ⟨e,q⟩).1 e1⟩
     clear hpr
     go_wp2
     go_round
     case rel=>exact HN.out
     case measure=>simp [intOf];omega
   ·have hxx:x<X:=by
     rcases Int.lt_or_eq_of_le hx1 with q|q
     ·exact q
     ·have:=HY.out q;omega
    go_wp2
    go_round
    case rel=>exact⟨x+1,rfl,by omega,by omega⟩
    case measure=>simp [intOf];omega
theorem Ql1 (h:HV) (ok:h.All) (v:Value) (rs:List Int) (w:World) (hv:ArgAt w v rs) (hl:rs.length≤131072) :
  Calls Tryz.prog 133 #[h.sv v] w fun e w'=>∃u,e=.returned u∧Buf w w' u (headB h++rs):=by
 have OK:Hid h.All:=ok
 have HV:Hid (ArgAt w v rs):=hv
 clear ok hv
 show Calls Tryz.prog 133 #[.agg #[.int .u16 h.age,.int .u8 h.opts,.int .u8 h.typ,.int .u32 h.id,.int .u32 h.adv,.int .i32 h.seq,.int .u16 h.sum,.int .u16 h.len,v]] w _
 go_enter Tryz.func133,Tryz.ntmps133
 go_upto_region 1 with fail
 have K0:Hid (Sd (w.alloc (.cells #[.int .u16 h.age,.int .u8 h.opts,.int .u8 h.typ,.int .u32 h.id,.int .u32 h.adv,.int .i32 h.seq,.int .u16 h.sum,.int .u16 h.len,v] 57)) w.heap.size h v):=Sd.new w h v _
 have T0:Hid (Touch (fun _=>False) w (w.alloc (.cells #[.int .u16 h.age,.int .u8 h.opts,.int .u8 h.typ,.int .u32 h.id,.int .u32 h.adv,.int .i32 h.seq,.int .u16 h.sum,.int .u16 h.len,v] 57))):=(Touch.refl _ w).alloc _
 generalize w.alloc (.cells #[.int .u16 h.age,.int .u8 h.opts,.int .u8 h.typ,.int .u32 h.id,.int .u32 h.adv,.int .i32 h.seq,.int .u16 h.sum,.int .u16 h.len,v] 57)=wa at K0 T0 ⊢
 generalize w.heap.size=g at K0 ⊢
 obtain⟨⟨c0,c1,c2,c3,c4,c5,c6,c7⟩,c8⟩:=K0.out
 go_wp2_with fail
 refine Calls.mono (Qlp h OK.out _) ?_
 rintro e w1 ⟨v1,rfl,b1⟩
 clear c0 c1 c2 c3 c4 c5 c6 c7 c8
 have B1:Hid (Buf wa w1 v1 (headB h)):=b1
 have A1:Hid (ArgAt w1 v rs):=HV.out.keepN (T0.out.trans b1.t)
 obtain⟨⟨c0,c1,c2,c3,c4,c5,c6,c7⟩,c8⟩:=K0.out.keep b1.t
 clear b1
 go_wp2_with (at_builtin;refine Qar rfl (.tmp 7) (.tmp 9) rfl wa _ _ rfl B1.out _ _ rfl A1.out (by rw [Qa3];omega) ?_)
 intro v2 w2 b2
 have B2:Hid (Buf wa w2 v2 (headB h++rs)):=b2
 clear b2 B1 A1 c0 c1 c2 c3 c4 c5 c6 c7 c8
 go_wp2_with fail
 go_ret
 exact⟨_,rfl,B2.out.back T0.out⟩
theorem Qrq (h:HV) (ok:h.All) (v:Value) (rs:List Int) (w:World) (hv:ArgAt w v rs) (hby:∀x∈rs,0≤x∧x<256) (hl:rs.length≤65515) :
  Calls Tryz.prog 94 #[h.sv v] w fun e w'=>∃u,e=.returned (.tuple #[(sealH h rs).sv u,.int .i64 0])∧Buf w w' u rs:=by
 obtain⟨va,vc,rfl,-⟩:=hv.form
 have OK:Hid h.All:=ok
 have HVV:Hid (ArgAt w (.slice va rs.length vc) rs):=hv
 have HBY:Hid (∀x∈rs,0≤x∧x<256):=hby
 have HSH:Hid (sealH h rs={ h with len:=20+(rs.length:Int),sum:=sealS h rs }):=rfl
 clear ok hv hby
 have h1:¬(65535:Int)<(rs.length:Int)+20:=by omega
 show Calls Tryz.prog 94 #[.agg #[.int .u16 h.age,.int .u8 h.opts,.int .u8 h.typ,.int .u32 h.id,.int .u32 h.adv,.int .i32 h.seq,.int .u16 h.sum,.int .u16 h.len,.slice va rs.length vc]] w _
 go_enter Tryz.func94,Tryz.ntmps94
 go_upto_region 4 with fail
 have z1:(w.alloc (.cells #[.int .u16 h.age,.int .u8 h.opts,.int .u8 h.typ,.int .u32 h.id,.int .u32 h.adv,.int .i32 h.seq,.int .u16 h.sum,.int .u16 h.len,.slice va rs.length vc] 57)).heap.size=w.heap.size+1:=by simp [go_sem]
 have z2:((w.alloc (.cells #[.int .u16 h.age,.int .u8 h.opts,.int .u8 h.typ,.int .u32 h.id,.int .u32 h.adv,.int .i32 h.seq,.int .u16 h.sum,.int .u16 h.len,.slice va rs.length vc] 57)).alloc (.cells #[.int .u16 0,.int .u8 0,.int .u8 0,.int .u32 0,.int .u32 0,.int .i32 0,.int .u16 0,.int .u16 0,.slice none 0 0] 57)).heap.size=w.heap.size+1+1:=by simp [go_sem]
 have z3:(((w.alloc (.cells #[.int .u16 h.age,.int .u8 h.opts,.int .u8 h.typ,.int .u32 h.id,.int .u32 h.adv,.int .i32 h.seq,.int .u16 h.sum,.int .u16 h.len,.slice va rs.length vc] 57)).alloc (.cells #[.int .u16 0,.int .u8 0,.int .u8 0,.int .u32 0,.int .u32 0,.int .i32 0,.int .u16 0,.int .u16 0,.slice none 0 0] 57)).alloc (.cells #[.int .u16 h.age,.int .u8 h.opts,.int .u8 h.typ,.int .u32 h.id,.int .u32 h.adv,.int .i32 h.seq,.int .u16 h.sum,.int .u16 h.len,.slice none 0 0] 57)).heap.size=w.heap.size+1+1+1:=by simp [go_sem]
 have K0:Hid (Sd (((w.alloc (.cells #[.int .u16 h.age,.int .u8 h.opts,.int .u8 h.typ,.int .u32 h.id,.int .u32 h.adv,.int .i32 h.seq,.int .u16 h.sum,.int .u16 h.len,.slice va rs.length vc] 57)).alloc (.cells #[.int .u16 0,.int .u8 0,.int .u8 0,.int .u32 0,.int .u32 0,.int .i32 0,.int .u16 0,.int .u16 0,.slice none 0 0] 57)).alloc (.cells #[.int .u16 h.age,.int .u8 h.opts,.int .u8 h.typ,.int .u32 h.id,.int .u32 h.adv,.int .i32 h.seq,.int .u16 h.sum,.int .u16 h.len,.slice none 0 0] 57)) w.heap.size h (.slice va rs.length vc)):=(Sd.new w h _ _).keep (((Touch.refl _ _).alloc _).alloc _)
 have R0:Hid (Out (((w.alloc (.cells #[.int .u16 h.age,.int .u8 h.opts,.int .u8 h.typ,.int .u32 h.id,.int .u32 h.adv,.int .i32 h.seq,.int .u16 h.sum,.int .u16 h.len,.slice va rs.length vc] 57)).alloc (.cells #[.int .u16 0,.int .u8 0,.int .u8 0,.int .u32 0,.int .u32 0,.int .i32 0,.int .u16 0,.int .u16 0,.slice none 0 0] 57)).alloc (.cells #[.int .u16 h.age,.int .u8 h.opts,.int .u8 h.typ,.int .u32 h.id,.int .u32 h.adv,.int .i32 h.seq,.int .u16 h.sum,.int .u16 h.len,.slice none 0 0] 57)) (w.heap.size+1) HV.zero (.slice none 0 0)):=z1 ▸ (Out.new (w.alloc (.cells #[.int .u16 h.age,.int .u8 h.opts,.int .u8 h.typ,.int .u32 h.id,.int .u32 h.adv,.int .i32 h.seq,.int .u16 h.sum,.int .u16 h.len,.slice va rs.length vc] 57)) HV.zero _ _).keep ((Touch.refl _ _).alloc _)
 have O0:Hid (Out (((w.alloc (.cells #[.int .u16 h.age,.int .u8 h.opts,.int .u8 h.typ,.int .u32 h.id,.int .u32 h.adv,.int .i32 h.seq,.int .u16 h.sum,.int .u16 h.len,.slice va rs.length vc] 57)).alloc (.cells #[.int .u16 0,.int .u8 0,.int .u8 0,.int .u32 0,.int .u32 0,.int .i32 0,.int .u16 0,.int .u16 0,.slice none 0 0] 57)).alloc (.cells #[.int .u16 h.age,.int .u8 h.opts,.int .u8 h.typ,.int .u32 h.id,.int .u32 h.adv,.int .i32 h.seq,.int .u16 h.sum,.int .u16 h.len,.slice none 0 0] 57)) (w.heap.size+1+1) h (.slice none 0 0)):=z2 ▸ Out.new ((w.alloc (.cells #[.int .u16 h.age,.int .u8 h.opts,.int .u8 h.typ,.int .u32 h.id,.int .u32 h.adv,.int .i32 h.seq,.int .u16 h.sum,.int .u16 h.len,.slice va rs.length vc] 57)).alloc (.cells #[.int .u16 0,.int .u8 0,.int .u8 0,.int .u32 0,.int .u32 0,.int .i32 0,.int .u16 0,.int .u16 0,.slice none 0 0] 57)) h _ _
 have T0:Hid (Touch (fun _=>False) w (((w.alloc (.cells #[.int .u16 h.age,.int .u8 h.opts,.int .u8 h.typ,.int .u32 h.id,.int .u32 h.adv,.int .i32 h.seq,.int .u16 h.sum,.int .u16 h.len,.slice va rs.length vc] 57)).alloc (.cells #[.int .u16 0,.int .u8 0,.int .u8 0,.int .u32 0,.int .u32 0,.int .i32 0,.int .u16 0,.int .u16 0,.slice none 0 0] 57)).alloc (.cells #[.int .u16 h.age,.int .u8 h.opts,.int .u8 h.typ,.int .u32 h.id,.int .u32 h.adv,.int .i32 h.seq,.int .u16 h.sum,.int .u16 h.len,.slice none 0 0] 57))):=(((Touch.refl _ _).alloc _).alloc _).alloc _
 have Z3:Hid ((((w.alloc (.cells #[.int .u16 h.age,.int .u8 h.opts,.int .u8 h.typ,.int .u32 h.id,.int .u32 h.adv,.int .i32 h.seq,.int .u16 h.sum,.int .u16 h.len,.slice va rs.length vc] 57)).alloc (.cells #[.int .u16 0,.int .u8 0,.int .u8 0,.int .u32 0,.int .u32 0,.int .i32 0,.int .u16 0,.int .u16 0,.slice none 0 0] 57)).alloc (.cells #[.int .u16 h.age,.int .u8 h.opts,.int .u8 h.typ,.int .u32 h.id,.int .u32 h.adv,.int .i32 h.seq,.int .u16 h.sum,.int .u16 h.len,.slice none 0 0] 57)).heap.size=w.heap.size+1+1+1):=z3
 clear z1 z2 z3
 generalize ((w.alloc (.cells #[.int .u16 h.age,.int .u8 h.opts,.int .u8 h.typ,.int .u32 h.id,.int .u32 h.adv,.int .i32 h.seq,.int .u16 h.sum,.int .u16 h.len,.slice va rs.length vc] 57)).alloc (.cells #[.int .u16 0,.int .u8 0,.int .u8 0,.int .u32 0,.int .u32 0,.int .i32 0,.int .u16 0,.int .u16 0,.slice none 0 0] 57)).alloc (.cells #[.int .u16 h.age,.int .u8 h.opts,.int .u8 h.typ,.int .u32 h.id,.int .u32 h.adv,.int .i32 h.seq,.int .u16 h.sum,.int .u16 h.len,.slice none 0 0] 57)=wa at K0 R0 O0 T0 Z3 ⊢
 obtain⟨g1,hg1⟩:∃g,w.heap.size=g:=⟨_,rfl⟩
 have HG1:Hid (w.heap.size=g1):=hg1
 rw [hg1] at K0 R0 O0 Z3 ⊢
 clear hg1
 have hne:Hid (g1+1≠g1+1+1):=by show _≠_;omega
 have A0:Hid (ArgAt wa (.slice va rs.length vc) rs):=HVV.out.keepN T0.out
 have N0:Hid (Buf wa wa (.slice none 0 0) []):=Buf.nil (Touch.refl _ _)
 obtain⟨⟨s0,s1,s2,s3,s4,s5,s6,s7⟩,s8⟩:=K0.out
 obtain⟨⟨⟨c0,c1,c2,c3,c4,c5,c6,c7⟩,c8⟩,-⟩:=O0.out
 go_wp2_with (at_builtin;refine Qar rfl (.tmp 18) (.tmp 20) rfl wa _ _ rfl N0.out _ _ rfl A0.out (by simp;omega) ?_)
 intro v1 w1 b0
 have b1:Buf wa w1 v1 rs:=b0
 clear b0
 obtain⟨ua,uc,rfl⟩:=b1.form
 clear s0 s1 s2 s3 s4 s5 s6 s7 s8 c0 c1 c2 c3 c4 c5 c6 c7 c8
 have B1:Hid (Buf wa w1 (.slice ua rs.length uc) rs):=b1
 have O1:Hid (Out w1 (g1+1+1) h (.slice none 0 0)):=O0.out.keep b1.t
 have R1:Hid (Out w1 (g1+1) HV.zero (.slice none 0 0)):=R0.out.keep b1.t
 obtain⟨⟨s0,s1,s2,s3,s4,s5,s6,s7⟩,s8⟩:=K0.out.keep b1.t
 obtain⟨⟨⟨c0,c1,c2,c3,c4,c5,c6,c7⟩,c8⟩,fz⟩:=O1.out
 have f7:=fz 7 (by omega)
 have f8:=fz 8 (by omega)
 have e1:wrap64 (20+(rs.length:Int))=20+(rs.length:Int):=by unfold wrap64;omega
 have e2:(20+(rs.length:Int))%65536=20+(rs.length:Int):=by omega
 have HL:Hid (rs.length≤65515):=hl
 clear fz b1 N0 A0 hl h1
 go_upto_region 6 with fail
 clear s0 s1 s2 s3 s4 s5 s6 s7 s8 c0 c1 c2 c3 c4 c5 c6 c7 c8 f7 f8 e1 e2
 have O2:Hid (Out ((w1.setCell ⟨g1+1+1,8,none⟩ (.slice ua rs.length uc)).setCell ⟨g1+1+1,7,none⟩ (.int .u16 (20+(rs.length:Int)))) (g1+1+1) { h with len:=20+(rs.length:Int) } (.slice ua rs.length uc)):=(O1.out.set8 _).set7 _
 have R2:Hid (Out ((w1.setCell ⟨g1+1+1,8,none⟩ (.slice ua rs.length uc)).setCell ⟨g1+1+1,7,none⟩ (.int .u16 (20+(rs.length:Int)))) (g1+1) HV.zero (.slice none 0 0)):=(R1.out.other (fun e=>hne.out e.symm) _).other (fun e=>hne.out e.symm) _
 have W2o:Hid (((w1.setCell ⟨g1+1+1,8,none⟩ (.slice ua rs.length uc)).setCell ⟨g1+1+1,7,none⟩ (.int .u16 (20+(rs.length:Int)))).ownsRow wa.heap.size 5 1 (.slice ua rs.length uc) rs.length (bytesOf rs)):=Qa1 (Qa1 B1.out.own (by have:=Z3.out;show g1+1+1<_;omega) _) (by have:=Z3.out;show g1+1+1<_;omega) _
 have T2:Hid (Touch (fun _=>False) w ((w1.setCell ⟨g1+1+1,8,none⟩ (.slice ua rs.length uc)).setCell ⟨g1+1+1,7,none⟩ (.int .u16 (20+(rs.length:Int))))):=((T0.out.trans B1.out.t).setCell (Or.inr (by have:=HG1.out;show _≤g1+1+1;omega)) _).setCell (Or.inr (by have:=HG1.out;show _≤g1+1+1;omega)) _
 clear O1 R1 B1 K0 O0 R0
 generalize (w1.setCell ⟨g1+1+1,8,none⟩ (.slice ua rs.length uc)).setCell ⟨g1+1+1,7,none⟩ (.int .u16 (20+(rs.length:Int)))=w2 at O2 R2 W2o T2 ⊢
 have OKN:Hid (HV.All { h with len:=20+(rs.length:Int) }):=⟨OK.out.a,OK.out.o,OK.out.t,OK.out.i,OK.out.v,OK.out.s,OK.out.m,by have:=HL.out;show 0≤20+(rs.length:Int)∧20+(rs.length:Int)<65536;omega⟩
 obtain⟨⟨⟨c0,c1,c2,c3,c4,c5,c6,c7⟩,c8⟩,-⟩:=O2.out
 dsimp only at c0 c1 c2 c3 c4 c5 c6 c7
 go_wp2_with fail
 refine Calls.mono (Ql1 { h with len:=20+(rs.length:Int) } OKN.out (.slice ua rs.length uc) rs _ (Qcw W2o.out).arg (by have:=HL.out;omega)) ?_
 rintro e w3 ⟨v3,rfl,b3⟩
 clear c0 c1 c2 c3 c4 c5 c6 c7 c8
 have O3:Hid (Out w3 (g1+1+1) { h with len:=20+(rs.length:Int) } (.slice ua rs.length uc)):=O2.out.keep b3.t
 have R3:Hid (Out w3 (g1+1) HV.zero (.slice none 0 0)):=R2.out.keep b3.t
 have W3o:Hid (w3.ownsRow wa.heap.size 5 1 (.slice ua rs.length uc) rs.length (bytesOf rs)):=Qab W2o.out b3.t (fun _ _ h=>h)
 have T3:Hid (Touch (fun _=>False) w w3):=T2.out.trans b3.t
 obtain⟨xa,xc,rfl⟩:=b3.form
 have hxl:(headB { h with len:=20+(rs.length:Int) }++rs).length=20+rs.length:=by rw [List.length_append,Qa3]
 obtain⟨u,hu,hua⟩:=Qc3 b3.arg rfl (by rw [hxl];omega) 2 (by rw [hxl];omega)
 have HUA:Hid (ArgAt w3 u ((headB { h with len:=20+(rs.length:Int) }++rs).drop 2)):=hua
 have hby2:∀x∈(headB { h with len:=20+(rs.length:Int) }++rs).drop 2,0≤x∧x<256:=fun x hx=>by
  rcases List.mem_append.1 (List.mem_of_mem_drop hx) with h' | h'
  ·exact Qbk OKN.out x h'
  ·exact HBY.out x h'
 have HF:=Qgm u ((headB { h with len:=20+(rs.length:Int) }++rs).drop 2) 14 w3 hua hby2 (by have:=HL.out;rw [List.length_drop,hxl];omega) (by rw [List.length_drop,hxl];omega)
 replace hu:∀w,Sem.run Tryz.prog (Instr.slice 55 (.slice xa (headB { h with len:=20+(rs.length:Int) }++rs).length xc) (some (.int .i64 2)) none none) w=.ok u w:=hu
 rw [hxl] at hu ⊢
 have HSS:Hid (256*flx ((headB { h with len:=20+(rs.length:Int) }++rs).drop 2) 14+fly ((headB { h with len:=20+(rs.length:Int) }++rs).drop 2) 14=sealS h rs):=rfl
 rw [HSS.out] at HF
 clear hua hby2 hxl b3 HUA O2 R2 W2o T2 HSS
 obtain⟨⟨⟨c0,c1,c2,c3,c4,c5,c6,c7⟩,c8⟩,fz⟩:=O3.out
 dsimp only at c0 c1 c2 c3 c4 c5 c6 c7
 have f6:=fz 6 (by omega)
 clear fz
 go_wp2_with fail
 refine Calls.mono HF ?_
 rintro e w4 ⟨rfl,rfl⟩
 clear HF hu
 go_upto_region 9 with fail
 clear c0 c1 c2 c3 c4 c5 c6 c7 c8 f6
 have O4:Hid (Out (w3.setCell ⟨g1+1+1,6,none⟩ (.int .u16 (sealS h rs))) (g1+1+1) (sealH h rs) (.slice ua rs.length uc)):=O3.out.set6 _
 have R4:Hid (Out (w3.setCell ⟨g1+1+1,6,none⟩ (.int .u16 (sealS h rs))) (g1+1) HV.zero (.slice none 0 0)):=R3.out.other (fun e=>hne.out e.symm) _
 have W4o:Hid ((w3.setCell ⟨g1+1+1,6,none⟩ (.int .u16 (sealS h rs))).ownsRow wa.heap.size 5 1 (.slice ua rs.length uc) rs.length (bytesOf rs)):=Qa1 W3o.out (by have:=Z3.out;show g1+1+1<_;omega) _
 have T4:Hid (Touch (fun _=>False) w (w3.setCell ⟨g1+1+1,6,none⟩ (.int .u16 (sealS h rs)))):=T3.out.setCell (Or.inr (by have:=HG1.out;show _≤g1+1+1;omega)) _
 clear O3 R3 W3o T3
 generalize w3.setCell ⟨g1+1+1,6,none⟩ (.int .u16 (sealS h rs))=w4 at O4 R4 W4o T4 ⊢
 obtain⟨hh,hhh⟩:∃x,sealH h rs=x:=⟨_,rfl⟩
 have HHH:Hid (sealH h rs=hh):=hhh
 rw [hhh] at O4
 clear hhh
 obtain⟨⟨⟨c0,c1,c2,c3,c4,c5,c6,c7⟩,c8⟩,-⟩:=O4.out
 obtain⟨⟨⟨r0,r1,r2,r3,r4,r5,r6,r7⟩,r8⟩,fr⟩:=R4.out
 have q0:=fr 0 (by omega)
 have q1:=fr 1 (by omega)
 have q2:=fr 2 (by omega)
 have q3:=fr 3 (by omega)
 have q4:=fr 4 (by omega)
 have q5:=fr 5 (by omega)
 have q6:=fr 6 (by omega)
 have q7:=fr 7 (by omega)
 have q8:=fr 8 (by omega)
 clear fr
 go_wp2_with fail
 refine bodyPost_ret (v:=.tuple #[hh.sv (.slice ua rs.length uc),.int .i64 0]) (by simp [results,Tryz.results94,go_sem,HV.sv,r0,r1,r2,r3,r4,r5,r6,r7,r8]) rfl ⟨.slice ua rs.length uc,by rw [HHH.out],?_⟩
 have hlt:g1+1<wa.heap.size:=by have:=Z3.out;omega
 have hge:False∨w.heap.size≤g1+1:=Or.inr (by have:=HG1.out;omega)
 exact⟨Qam (Qa1 (Qa1 (Qa1 (Qa1 (Qa1 (Qa1 (Qa1 (Qa1 (Qa1 (W4o.out) hlt _) hlt _) hlt _) hlt _) hlt _) hlt _) hlt _) hlt _) hlt _) (by have:=T0.out.size;omega),(((((((((T4.out).setCell hge _).setCell hge _).setCell hge _).setCell hge _).setCell hge _).setCell hge _).setCell hge _).setCell hge _).setCell hge _⟩
theorem Qjl (t:Int) (b:BV) (h1:b.links.length≤8192) (h2:b.routers.length≤32768) (h3:b.data.length≤131072):0≤sizeB t b∧sizeB t b≤1000000:=by
 unfold sizeB
 split
 ·omega
 ·split
  ·omega
  ·split
   ·omega
   ·split <;> omega
structure SinceF (x:World) (g:Nat) (w:World):Prop where
 t:Touch (fun k=>k=g) x w
theorem SinceF.trans {x w w':World} {g:Nat} (h:SinceF x g w) (t:Touch (fun _=>False) w w'):SinceF x g w':=⟨h.t.trans (t.mono (fun _ _ h=>h.elim))⟩
theorem SinceF.start (x:World) (g:Nat):SinceF x g x.drew:=⟨(Touch.refl _ _).drew⟩
theorem Qao {x:World} {g b o:Nat} {v:Value} (hne:b≠g) (h:x.cell? ⟨b,o,none⟩=some v):∀w,SinceF x g w→w.cell? ⟨b,o,none⟩=some v:=fun w s=>(s.t.cell (p:=⟨b,o,none⟩) (Qaa h) hne).trans h
theorem SinceF.set9 {x w:World} {g:Nat} (h:SinceF x g w) (u0 u1 u2 u3 u4 u5 u6 u7 u8:Value):SinceF x g (((((((((w.setCell ⟨g,0,none⟩ u0).setCell ⟨g,1,none⟩ u1).setCell ⟨g,2,none⟩ u2).setCell ⟨g,3,none⟩ u3).setCell ⟨g,4,none⟩ u4).setCell ⟨g,5,none⟩ u5).setCell ⟨g,6,none⟩ u6).setCell ⟨g,7,none⟩ u7).setCell ⟨g,8,none⟩ u8):=by
 constructor
 refine Touch.setCell (F:=fun k=>k=g) (p:=⟨g,8,none⟩) ?_ (Or.inl rfl) _
 refine Touch.setCell (F:=fun k=>k=g) (p:=⟨g,7,none⟩) ?_ (Or.inl rfl) _
 refine Touch.setCell (F:=fun k=>k=g) (p:=⟨g,6,none⟩) ?_ (Or.inl rfl) _
 refine Touch.setCell (F:=fun k=>k=g) (p:=⟨g,5,none⟩) ?_ (Or.inl rfl) _
 refine Touch.setCell (F:=fun k=>k=g) (p:=⟨g,4,none⟩) ?_ (Or.inl rfl) _
 refine Touch.setCell (F:=fun k=>k=g) (p:=⟨g,3,none⟩) ?_ (Or.inl rfl) _
 refine Touch.setCell (F:=fun k=>k=g) (p:=⟨g,2,none⟩) ?_ (Or.inl rfl) _
 refine Touch.setCell (F:=fun k=>k=g) (p:=⟨g,1,none⟩) ?_ (Or.inl rfl) _
 refine Touch.setCell (F:=fun k=>k=g) (p:=⟨g,0,none⟩) ?_ (Or.inl rfl) _
 exact h.t
def but (X:Nat→Prop) (g:Nat):Nat→Prop:=fun k=>X k∧k≠g
structure EncOk (t:Int) (B:BV):Prop where
 known:knownB t=true
 may:mayB t B=true
 len:(layB t B).length≤65515
end Go.Proofs.YtddbffoiadmffaaGreat
