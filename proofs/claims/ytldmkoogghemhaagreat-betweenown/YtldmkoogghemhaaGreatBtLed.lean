import Derived.Test.YtldmkoogghemhaaGreatBtBord
namespace Go.Proofs.YtldmkoogghemhaaGreat
set_option maxHeartbeats 8000000
open Go.RowKit
set_option linter.unusedVariables false
set_option maxRecDepth 100000
theorem Qix {t:Int} (h:t=3∨t=4):RdOk t:=by
 rcases h with rfl|rfl
 ·exact fun _=>⟨_,_,Qkx⟩
 ·exact fun _=>⟨_,_,Qk8⟩
theorem Qlc {t:Int} {rs:List Int} {b:BV} (ht:t=3∨t=4) (hby:∀z∈rs,0≤z∧z<256) (h:decB t rs=some b):(0≤b.mask∧b.mask<4294967296)∧(0≤b.metric∧b.metric≤16777215)∧pbok b.mask=true:=by
 have h1:=Qj6 h
 have hm:=h1.2.1.met
 have hr:=h1.1
 unfold readB at hr
 rw [if_neg (by omega),if_neg (by omega),if_pos ht] at hr
 split at hr
 ·cases hr
 ·rename_i hl
  have hl8:rs.length=8:=by omega
  have m1:=Qbx hby (some 0) 4
  have m2:=Qbx hby (some 4) 4
  rw [Qhl (by omega)] at m1 m2
  refine⟨?_,⟨?_,hm⟩,h1.2.1.mask⟩
  ·cases hr
   exact⟨m1.1,by have:=m1.2;simpa using this⟩
  ·cases hr
   exact m2.1
theorem Qe1 (x:SE) (w:World) (ok:x.Ok w) (hn:x.rs.length≤1000000) (self:Int) :
  Calls Tryz.prog 69 #[x.h.sv x.v,.int .u32 self] w fun e w'=>e=.returned (.bool (cntS self x))∧Touch (fun _=>False) w w':=by
 have HO:=fun w=>Qmo x.h.age ok.all.a.1 ok.all.a.2 w
 have HC:x.h.typ=3∨x.h.typ=4→∀w',Touch (fun _=>False) w w'→Calls Tryz.prog 87 #[x.h.sv x.v] w' fun e w''=>e=.returned (.int .i64 (chkE x.h x.rs))∧Touch (fun _=>False) w' w'':=fun h w' t=>Qh7 x.h ok.all (Qix h) x.v x.rs w' (ok.arg.keepN t) ok.byte hn
 have HE:Hid (cntS self x=decide ((x.h.typ=3∨x.h.typ=4)∧x.h.adv≠self∧¬yrs x.h.age=3600∧chkE x.h x.rs=0)):=rfl
 obtain⟨a,c,ev,-⟩:=ok.arg.form
 rw [ev] at HC ⊢
 clear ev ok hn
 unfold HV.sv at *
 generalize cntS self x=res at *
 generalize chkE x.h x.rs=z at *
 generalize x.rs.length=n at *
 obtain⟨⟨age,opts,typ,id,adv,seq,sum,len⟩,v,rs⟩:=x
 dsimp only at *
 generalize yrs age=yr at *
 by_cases ht:typ=3∨typ=4
 ·have hc:=HC ht
  clear HC
  by_cases hs:adv=self
  ·have HR:Hid (res=false):=by show _=_;rw [HE.out];simp [hs]
   subst hs
   clear HE HO hc
   rcases ht with rfl|rfl
   ·go_enter Tryz.func69,Tryz.ntmps69
    go_wp2
    go_ret
    exact⟨Qad HR.out.symm,((Touch.refl _ _).alloc _).alloc _⟩
   ·go_enter Tryz.func69,Tryz.ntmps69
    go_wp2
    go_ret
    exact⟨Qad HR.out.symm,((Touch.refl _ _).alloc _).alloc _⟩
  ·have hs':(adv != self)=true:=by simpa using hs
   by_cases hy:yr=3600
   ·have HR:Hid (res=false):=by show _=_;rw [HE.out];simp [hy]
    have hd:decide (yr=3600)=true:=decide_eq_true hy
    rw [hd] at HO
    clear HE hc hy hd hs
    rcases ht with rfl|rfl
    ·go_enter Tryz.func69,Tryz.ntmps69
     go_wp2_with (go_at_call 86;refine (HO _).mono ?_;rintro e w1 ⟨rfl,rfl⟩)
     go_ret
     exact⟨Qad HR.out.symm,((Touch.refl _ _).alloc _).alloc _⟩
    ·go_enter Tryz.func69,Tryz.ntmps69
     go_wp2_with (go_at_call 86;refine (HO _).mono ?_;rintro e w1 ⟨rfl,rfl⟩)
     go_ret
     exact⟨Qad HR.out.symm,((Touch.refl _ _).alloc _).alloc _⟩
   ·have HR:Hid (res=(z==0)):=by show _=_;rw [HE.out,Bool.eq_iff_iff];simp [ht,hs,hy]
    have hd:decide (yr=3600)=false:=decide_eq_false hy
    rw [hd] at HO
    clear HE hy hd hs
    rcases ht with rfl|rfl
    ·go_enter Tryz.func69,Tryz.ntmps69
     go_wp2_with (first
      | (go_at_call 86;refine (HO _).mono ?_;rintro e w1 ⟨rfl,rfl⟩)
      | (go_at_call 87;refine (hc _ (((Touch.refl _ _).alloc _).alloc _)).mono ?_;rintro e w2 ⟨rfl,t2⟩;have T2:Hid _:=t2;clear t2))
     go_ret
     exact⟨Qad HR.out.symm,(((Touch.refl _ _).alloc _).alloc _).trans T2.out⟩
    ·go_enter Tryz.func69,Tryz.ntmps69
     go_wp2_with (first
      | (go_at_call 86;refine (HO _).mono ?_;rintro e w1 ⟨rfl,rfl⟩)
      | (go_at_call 87;refine (hc _ (((Touch.refl _ _).alloc _).alloc _)).mono ?_;rintro e w2 ⟨rfl,t2⟩;have T2:Hid _:=t2;clear t2))
     go_ret
     exact⟨Qad HR.out.symm,(((Touch.refl _ _).alloc _).alloc _).trans T2.out⟩
 ·have HR:Hid (res=false):=by show _=_;rw [HE.out];simp [ht]
  have h3:(typ==3)=false:=by simp;omega
  have h4:(typ==4)=false:=by simp;omega
  clear HE HC HO ht
  go_enter Tryz.func69,Tryz.ntmps69
  go_wp2
  go_ret
  exact⟨Qad HR.out.symm,((Touch.refl _ _).alloc _).alloc _⟩
theorem Qjy {h:HV} {rs:List Int} (hc:chkE h rs=0):∃B,decB h.typ rs=some B∧h.len=20+(rs.length:Int)∧knownB h.typ=true:=by
 unfold chkE at hc
 split at hc
 ·omega
 ·rename_i h1
  split at hc
  ·omega
  ·split at hc
   ·omega
   ·rename_i h3
    split at hc
    ·omega
    ·split at hc
     ·omega
     ·rename_i h5
      exact⟨(decB h.typ rs).get (by cases e:decB h.typ rs <;> simp_all),by simp,by omega,by simpa using h3⟩
structure LedP (x:SE) (y:WY) (w:World) (e:Ending) (w':World):Prop where
 t:Touch (fun _=>False) w w'
 yes:∀z,ledW x y.x=some z→e=.returned (.tuple #[(⟨z,y.hv⟩:WY).sv,.bool true])
 no:ledW x y.x=none→∃(z:WP) (a:Option Addr) (n c:Nat),e=.returned (.tuple #[(⟨z,.slice a n c⟩:WY).sv,.bool false])
theorem Qav {fn:Func} {p q:Tmp} (h:fn.results=#[.cell p 47,.tmp q]) (tmps:Array Value) (w:World) (g:Nat) (t:TypeId) (cs:Array Value) (fr:Nat×Nat) (v:Value)
  (hp:tmps.getD p undef=.pointer (some ⟨g,0,none⟩)) (hq:tmps.getD q undef=v) (hg:w.heap[g]?=some (.cells cs t fr)) (hi:(Tryz.prog.info? 47).map (·.size)=some cs.size) :
  (results fn tmps).run Tryz.prog w=.ok (.tuple #[.agg cs,v]) w:=by
 have hp':tmps[p]?.getD undef=.pointer (some ⟨g,0,none⟩):=by simpa using hp
 have hq':tmps[q]?.getD undef=v:=by simpa using hq
 simp [results,h,hp',hq',asAddr,run_loadVar_row w g t 47 cs fr _ hg Tryz.underlying47 rfl hi,Result.andThen]
structure Dec3 (mask metric:Int) (w:World) (e:Ending) (w':World):Prop where
 out:∃(bf fw tg:Int) (b2:Bool) (la ra da:Option Addr) (ln lc rn rc dn dc:Nat),e=.returned (.tuple #[.agg #[.int .u8 bf,.slice la ln lc,.int .u32 mask,.slice ra rn rc,.int .u32 metric,.bool b2,.int .u32 fw,.int .u32 tg,.slice da dn dc],.int .i64 0])∧Touch (fun _=>False) w w'
theorem decode34 (x:SE) (w:World) (ok:x.Ok w) (ht:x.h.typ=3∨x.h.typ=4) (B:BV) (hB:decB x.h.typ x.rs=some B) (hlen:x.h.len=20+(x.rs.length:Int)) (hk:knownB x.h.typ=true) (w':World) (t:Touch (fun _=>False) w w') :
  Calls Tryz.prog 88 #[x.h.sv x.v] w' (Dec3 B.mask B.metric w'):=by
 refine (Qet x.h ok.all (Qix ht) x.v x.rs w' B (ok.arg.keepN t) ok.byte hlen hk hB).mono ?_
 rintro e w'' ⟨vl,vr,vd,rfl,hb,t2⟩
 obtain⟨la,lc,rfl⟩:=Qal hb.l
 obtain⟨ra,rc,rfl⟩:=Qal hb.r
 obtain⟨da,dc,rfl⟩:=Qal hb.d
 exact⟨_,_,_,_,_,_,_,_,_,_,_,_,_,rfl,t2⟩
theorem Qm7 (x:SE) (y:WY) (w:World) (ok:x.Ok w) (ht:x.h.typ=3∨x.h.typ=4) (hc:chkE x.h x.rs=0) (hc0:0≤y.x.cost) (hc1:y.x.cost≤4294967295) (hy:∃a n c,y.hv=.slice a n c) :
  Calls Tryz.prog 70 #[x.h.sv x.v,y.sv] w (LedP x y w):=by
 obtain⟨B,hB,hlen,hk⟩:=Qjy hc
 have HD:=decode34 x w ok ht B hB hlen hk
 obtain⟨⟨hm0,hm1⟩,⟨hq0,hq1⟩,-⟩:=Qlc ht ok.byte hB
 have hid:=ok.all.i
 have HL:Hid (ledW x y.x=if 16777215≤B.metric∨4294967295<B.metric+y.x.cost then none
  else if x.h.typ=4 then (if x.h.id=0 then none else some ⟨⟨0,0⟩,x.h.id,0,0,0,y.x.cost+B.metric,0,0,y.x.hs⟩)
  else some ⟨⟨pcut x.h.id (pbn B.mask),pbn B.mask⟩,0,0,0,0,y.x.cost+B.metric,0,0,y.x.hs⟩):=by
  show ledW x y.x=_
  unfold ledW
  rw [hB]
  rfl
 have HBT:=fun w=>Qgz B.mask w hm0 hm1
 have hpb:=Qoz B.mask
 have HMK:=fun w=>Qm0 x.h.id (pbn B.mask) w hpb.1 hpb.2 hid.1 hid.2
 obtain⟨a,c,ev,-⟩:=ok.arg.form
 obtain⟨ya,yn,yc,ey⟩:=hy
 have HP:Hid (∀e w',Touch (fun _=>False) w w'→(∀z,ledW x y.x=some z→e=.returned (.tuple #[(⟨z,y.hv⟩:WY).sv,.bool true]))→(ledW x y.x=none→∃(z:WP) (a:Option Addr) (n c:Nat),e=.returned (.tuple #[(⟨z,.slice a n c⟩:WY).sv,.bool false]))→LedP x y w e w'):=fun e w' t h1 h2=>⟨t,h1,h2⟩
 generalize LedP x y w=Q at HP ⊢
 unfold WY.sv at *
 rw [ey] at HP ⊢
 rw [ev] at HD ⊢
 clear ev ey ok hc hB hlen hk
 unfold HV.sv at *
 generalize ledW x y.x=L at *
 generalize x.rs.length=n at *
 obtain⟨⟨age,opts,typ,id,adv,seq,sum,len⟩,v,rs⟩:=x
 obtain⟨⟨⟨pa,pb⟩,ro,fl,ki,ar,co,di,tg,hs⟩,yhv⟩:=y
 obtain⟨bf,bl,mask,br,metric,b2,bfw,btg,bd⟩:=B
 dsimp only at *
 generalize hpc:pcut id (pbn mask)=pc at *
 generalize hpn:pbn mask=pn at *
 clear hpc hpn
 obtain⟨w0,hw0⟩:∃u,u=((w.alloc (.cells #[.int .u16 age,.int .u8 opts,.int .u8 typ,.int .u32 id,.int .u32 adv,.int .i32 seq,.int .u16 sum,.int .u16 len,.slice a n c] 59)).alloc (.cells #[.int .u32 pa,.int .u8 pb,.int .u32 ro,.int .u8 fl,.int .u8 ki,.int .u32 ar,.int .u32 co,.int .u32 di,.int .u32 tg,.slice ya yn yc] 47)).alloc (.cells #[.int .u32 0,.int .u8 0,.int .u32 0,.int .u8 0,.int .u8 0,.int .u32 0,.int .u32 0,.int .u32 0,.int .u32 0,.slice none 0 0] 47):=⟨_,rfl⟩
 have t0:Touch (fun _=>False) w w0:=by rw [hw0];exact (((Touch.refl _ _).alloc _).alloc _).alloc _
 have RowS:Row w0 w.heap.size 59 [.int .u16 age,.int .u8 opts,.int .u8 typ,.int .u32 id,.int .u32 adv,.int .i32 seq,.int .u16 sum,.int .u16 len,.slice a n c]:=by rw [hw0];exact ((Qac w _ _).keep ((Touch.refl _ _).alloc _)).keep ((Touch.refl _ _).alloc _)
 have RowB1:Row w0 (w.heap.size+1) 47 [.int .u32 pa,.int .u8 pb,.int .u32 ro,.int .u8 fl,.int .u8 ki,.int .u32 ar,.int .u32 co,.int .u32 di,.int .u32 tg,.slice ya yn yc]:=by rw [hw0];have:=(Qac (w.alloc (.cells #[.int .u16 age,.int .u8 opts,.int .u8 typ,.int .u32 id,.int .u32 adv,.int .i32 seq,.int .u16 sum,.int .u16 len,.slice a n c] 59)) 47 #[.int .u32 pa,.int .u8 pb,.int .u32 ro,.int .u8 fl,.int .u8 ki,.int .u32 ar,.int .u32 co,.int .u32 di,.int .u32 tg,.slice ya yn yc]).keep ((Touch.refl _ _).alloc (.cells #[.int .u32 0,.int .u8 0,.int .u32 0,.int .u8 0,.int .u8 0,.int .u32 0,.int .u32 0,.int .u32 0,.int .u32 0,.slice none 0 0] 47));rw [World.size_alloc] at this;exact this
 have RowR:Row w0 (w.heap.size+2) 47 [.int .u32 0,.int .u8 0,.int .u32 0,.int .u8 0,.int .u8 0,.int .u32 0,.int .u32 0,.int .u32 0,.int .u32 0,.slice none 0 0]:=by rw [hw0];have:=Qac ((w.alloc (.cells #[.int .u16 age,.int .u8 opts,.int .u8 typ,.int .u32 id,.int .u32 adv,.int .i32 seq,.int .u16 sum,.int .u16 len,.slice a n c] 59)).alloc (.cells #[.int .u32 pa,.int .u8 pb,.int .u32 ro,.int .u8 fl,.int .u8 ki,.int .u32 ar,.int .u32 co,.int .u32 di,.int .u32 tg,.slice ya yn yc] 47)) 47 #[.int .u32 0,.int .u8 0,.int .u32 0,.int .u8 0,.int .u8 0,.int .u32 0,.int .u32 0,.int .u32 0,.int .u32 0,.slice none 0 0];rw [World.size_alloc,World.size_alloc] at this;exact this
 have HDw:=HD w0 t0
 have T0:Hid (Touch (fun _=>False) w w0):=t0
 have HLO:Hid (w.heap.size≤w.heap.size+2):=Nat.le_add_right _ _
 clear HD t0
 go_enter Tryz.func70,Tryz.ntmps70
 go_upto_region 1 with fail
 rw [←hw0]
 clear hw0
 have HG:Hid (w.heap.size<w.heap.size+1∧w.heap.size+1<w.heap.size+2):=⟨Nat.lt_succ_self _,Nat.lt_succ_self _⟩
 generalize w.heap.size+2=g2 at *
 generalize w.heap.size+1=g1 at *
 generalize hg0:w.heap.size=g0 at *
 have HG0:Hid (w.heap.size=g0):=hg0
 clear hg0
 have s0:=RowS.cell 0
 have s1:=RowS.cell 1
 have s2:=RowS.cell 2
 have s3:=RowS.cell 3
 have s4:=RowS.cell 4
 have s5:=RowS.cell 5
 have s6:=RowS.cell 6
 have s7:=RowS.cell 7
 have s8:=RowS.cell 8
 have ls:=RowS.lt
 go_upto_region 2 with (go_at_call 88;refine HDw.mono ?_;rintro e w1 ⟨bf,dfw,dtg,db2,la,ra,da,ln,lc,rn,rc,dn,dc,rfl,t1⟩;have T1:Hid (Touch (fun _=>False) w0 w1):=t1;clear t1 s0 s1 s2 s3 s4 s5 s6 s7 s8 ls)
 have tb:Touch (fun _=>False) w1 (w1.alloc (.cells #[.int .u8 bf,.slice la ln lc,.int .u32 mask,.slice ra rn rc,.int .u32 metric,.bool db2,.int .u32 dfw,.int .u32 dtg,.slice da dn dc] 92)):=(Touch.refl _ _).alloc _
 have RowD:Row (w1.alloc (.cells #[.int .u8 bf,.slice la ln lc,.int .u32 mask,.slice ra rn rc,.int .u32 metric,.bool db2,.int .u32 dfw,.int .u32 dtg,.slice da dn dc] 92)) w1.heap.size 92 [.int .u8 bf,.slice la ln lc,.int .u32 mask,.slice ra rn rc,.int .u32 metric,.bool db2,.int .u32 dfw,.int .u32 dtg,.slice da dn dc]:=Qac w1 _ _
 have RowS2:=RowS.keep (T1.out.trans tb)
 have RowB2:=RowB1.keep (T1.out.trans tb)
 have RowR2:=RowR.keep (T1.out.trans tb)
 have T2:Hid (Touch (fun _=>False) w (w1.alloc (.cells #[.int .u8 bf,.slice la ln lc,.int .u32 mask,.slice ra rn rc,.int .u32 metric,.bool db2,.int .u32 dfw,.int .u32 dtg,.slice da dn dc] 92))):=T0.out.trans (T1.out.trans tb)
 have c2:=RowS2.cell 2
 have c3:=RowS2.cell 3
 have k6:=RowB2.cell 6
 have k9:=RowB2.cell 9
 have q2:=RowD.cell 2
 have q4:=RowD.cell 4
 have lr:=RowR2.lt
 have fz:=RowR2.frozen
 have l0:=RowS2.lt
 have l1:=RowB2.lt
 have ld:=RowD.lt
 simp only [List.getElem?_cons_succ,List.getElem?_cons_zero] at c2 c3 k6 k9 q2 q4
 clear tb RowS RowB1 RowR HDw T1
 generalize w1.alloc (.cells #[.int .u8 bf,.slice la ln lc,.int .u32 mask,.slice ra rn rc,.int .u32 metric,.bool db2,.int .u32 dfw,.int .u32 dtg,.slice da dn dc] 92)=w2 at *
 generalize w1.heap.size=gb at *
 by_cases h1:16777215≤metric
 ·as_aux_lemma =>
  have HN:Hid (L=none):=by show _=_;rw [HL.out,if_pos (Or.inl h1)]
  clear HL HBT HMK RowS2 RowB2 RowD c2 c3 k9 q2 hpb hid hm0 hm1
  go_wp2_with (refine wpList_store_row rfl 47 (.tmp 4) (.tmp 27) rfl g2 #[.int .u32 0,.int .u8 0,.int .u32 0,.int .u8 0,.int .u8 0,.int .u32 0,.int .u32 0,.int .u32 0,.int .u32 0,.slice none 0 0] rfl rfl 47 _ RowR2 (by kernel_rfl) rfl (by simp [Value.oneCell']) ?_)
  refine bodyPost_ret (v:=.tuple #[.agg #[.int .u32 0,.int .u8 0,.int .u32 0,.int .u8 0,.int .u8 0,.int .u32 0,.int .u32 0,.int .u32 0,.int .u32 0,.slice none 0 0],.bool false]) (Qav (by rfl) _ _ g2 47 #[.int .u32 0,.int .u8 0,.int .u32 0,.int .u8 0,.int .u8 0,.int .u32 0,.int .u32 0,.int .u32 0,.int .u32 0,.slice none 0 0] (0,0) _ (by rfl) (by rfl) (RowR2.setRow _) (by kernel_rfl)) rfl ?_
  exact HP.out _ _ (T2.out.setRow (Or.inr (by rw [HG0.out];exact HLO.out)) _) (fun z hz=>by rw [HN.out] at hz;cases hz) (fun _=>⟨⟨⟨0,0⟩,0,0,0,0,0,0,0,[]⟩,none,0,0,rfl⟩)
 ·by_cases h2:4294967295<metric+co
  ·as_aux_lemma =>
   have HN:Hid (L=none):=by show _=_;rw [HL.out,if_pos (Or.inr h2)]
   have hw:IntKind.u32.wrap (4294967295-co)=4294967295-co:=by simp [IntKind.wrap,IntKind.bits,IntKind.signed];omega
   have h2':4294967295-co<metric:=by omega
   clear HL HBT HMK RowS2 RowB2 RowD c2 c3 k9 q2 hpb hid hm0 hm1 h2
   go_wp2_with (refine wpList_store_row rfl 47 (.tmp 4) (.tmp 27) rfl g2 #[.int .u32 0,.int .u8 0,.int .u32 0,.int .u8 0,.int .u8 0,.int .u32 0,.int .u32 0,.int .u32 0,.int .u32 0,.slice none 0 0] rfl rfl 47 _ RowR2 (by kernel_rfl) rfl (by simp [Value.oneCell']) ?_)
   refine bodyPost_ret (v:=.tuple #[.agg #[.int .u32 0,.int .u8 0,.int .u32 0,.int .u8 0,.int .u8 0,.int .u32 0,.int .u32 0,.int .u32 0,.int .u32 0,.slice none 0 0],.bool false]) (Qav (by rfl) _ _ g2 47 #[.int .u32 0,.int .u8 0,.int .u32 0,.int .u8 0,.int .u8 0,.int .u32 0,.int .u32 0,.int .u32 0,.int .u32 0,.slice none 0 0] (0,0) _ (by rfl) (by rfl) (RowR2.setRow _) (by kernel_rfl)) rfl ?_
   exact HP.out _ _ (T2.out.setRow (Or.inr (by rw [HG0.out];exact HLO.out)) _) (fun z hz=>by rw [HN.out] at hz;cases hz) (fun _=>⟨⟨⟨0,0⟩,0,0,0,0,0,0,0,[]⟩,none,0,0,rfl⟩)
  ·skip
   have hw:IntKind.u32.wrap (4294967295-co)=4294967295-co:=by simp [IntKind.wrap,IntKind.bits,IntKind.signed];omega
   have h2':¬4294967295-co<metric:=by omega
   have hw2:IntKind.u32.wrap (co+metric)=co+metric:=by simp [IntKind.wrap,IntKind.bits,IntKind.signed];omega
   have HL2:Hid (L=if typ=4 then (if id=0 then none else some ⟨⟨0,0⟩,id,0,0,0,co+metric,0,0,hs⟩) else some ⟨⟨pc,pn⟩,0,0,0,0,co+metric,0,0,hs⟩):=by
    show L=_
    rw [HL.out,if_neg (by omega)]
   clear HL h2
   have RowX:Row (w2.alloc (.cells #[.int .u32 0,.int .u8 0,.int .u32 0,.int .u8 0,.int .u8 0,.int .u32 0,.int .u32 (co+metric),.int .u32 0,.int .u32 0,.slice ya yn yc] 47)) w2.heap.size 47 [.int .u32 0,.int .u8 0,.int .u32 0,.int .u8 0,.int .u8 0,.int .u32 0,.int .u32 (co+metric),.int .u32 0,.int .u32 0,.slice ya yn yc]:=Qac w2 _ _
   have tx:Touch (fun _=>False) w2 (w2.alloc (.cells #[.int .u32 0,.int .u8 0,.int .u32 0,.int .u8 0,.int .u8 0,.int .u32 0,.int .u32 (co+metric),.int .u32 0,.int .u32 0,.slice ya yn yc] 47)):=(Touch.refl _ _).alloc _
   have RowR3:=RowR2.keep tx
   have T3:Hid (Touch (fun _=>False) w (w2.alloc (.cells #[.int .u32 0,.int .u8 0,.int .u32 0,.int .u8 0,.int .u8 0,.int .u32 0,.int .u32 (co+metric),.int .u32 0,.int .u32 0,.slice ya yn yc] 47))):=T2.out.trans tx
   have c2x:=(RowS2.keep tx).cell 2
   have c3x:=(RowS2.keep tx).cell 3
   have q2x:=(RowD.keep tx).cell 2
   have HGX:Hid (g2<w2.heap.size):=RowR2.lt
   simp only [List.getElem?_cons_succ,List.getElem?_cons_zero] at c2x c3x q2x
   clear tx RowS2 RowB2 RowD RowR2
   go_upto_region 5 with fail
   generalize w2.alloc (.cells #[.int .u32 0,.int .u8 0,.int .u32 0,.int .u8 0,.int .u8 0,.int .u32 0,.int .u32 (co+metric),.int .u32 0,.int .u32 0,.slice ya yn yc] 47)=w3 at *
   generalize w2.heap.size=gx at *
   have x2:=RowX.cell 2
   have lx:=RowX.lt
   have fx:=RowX.frozen
   simp only [List.getElem?_cons_succ,List.getElem?_cons_zero] at x2
   clear c2 c3 q2 q4 k6 k9 l0 l1 ld lr fz hw hw2 h2' h1
   rcases ht with rfl|rfl
   ·as_aux_lemma =>
    have HL3:Hid (L=some ⟨⟨pc,pn⟩,0,0,0,0,co+metric,0,0,hs⟩):=by show L=_;rw [HL2.out,if_neg (by omega)]
    clear HL2
    go_upto_region 10 with (first
     | (go_at_call 89;refine (HBT _).mono ?_;rintro e w4 ⟨rfl,rfl⟩)
     | (go_at_call 90;refine (HMK _).mono ?_;rintro e w5 ⟨rfl,t5⟩;have T5:Hid (Touch (fun _=>False) w3 w5):=t5;have RowX5:=RowX.keep t5;have HR5:Hid (Row w5 g2 47 [.int .u32 0,.int .u8 0,.int .u32 0,.int .u8 0,.int .u8 0,.int .u32 0,.int .u32 0,.int .u32 0,.int .u32 0,.slice none 0 0]):=RowR3.keep t5;have x0:=RowX5.cell 0;have x1:=RowX5.cell 1;have fx5:=RowX5.frozen;have lx5:=RowX5.lt;simp only [List.getElem?_cons_succ,List.getElem?_cons_zero] at x0 x1;have HX5:Hid (Row w5 gx 47 [.int .u32 0,.int .u8 0,.int .u32 0,.int .u8 0,.int .u8 0,.int .u32 0,.int .u32 (co+metric),.int .u32 0,.int .u32 0,.slice ya yn yc]):=RowX5;clear t5 RowX RowX5 RowR3 c2x c3x q2x x2 lx fx))
    have RowY:Row ((w5.setCell ⟨gx,0,none⟩ (.int .u32 pc)).setCell ⟨gx,1,none⟩ (.int .u8 pn)) gx 47 [.int .u32 pc,.int .u8 pn,.int .u32 0,.int .u8 0,.int .u8 0,.int .u32 0,.int .u32 (co+metric),.int .u32 0,.int .u32 0,.slice ya yn yc]:=(HX5.out.set 0 _).set 1 _
    have ty:Touch (fun k=>k=gx) w5 ((w5.setCell ⟨gx,0,none⟩ (.int .u32 pc)).setCell ⟨gx,1,none⟩ (.int .u8 pn)):=Touch.setCell (F:=fun k=>k=gx) (p:=⟨gx,1,none⟩) (Touch.setCell (F:=fun k=>k=gx) (p:=⟨gx,0,none⟩) (Touch.refl _ _) (Or.inl rfl) _) (Or.inl rfl) _
    have RowRy:=Qay HR5.out ty (Nat.ne_of_lt HGX.out)
    have T6:Hid (Touch (fun _=>False) w ((w5.setCell ⟨gx,0,none⟩ (.int .u32 pc)).setCell ⟨gx,1,none⟩ (.int .u8 pn))):=(T3.out.trans T5.out).trans' ty (fun i hi e=>by have:=HGX.out;have:=HLO.out;have:=HG0.out;omega)
    generalize (w5.setCell ⟨gx,0,none⟩ (.int .u32 pc)).setCell ⟨gx,1,none⟩ (.int .u8 pn)=w6 at *
    clear x0 x1 fx5 lx5 ty HX5 HR5
    have y0:=RowY.cell 0
    have y1:=RowY.cell 1
    have y2:=RowY.cell 2
    have y3:=RowY.cell 3
    have y4:=RowY.cell 4
    have y5:=RowY.cell 5
    have y6:=RowY.cell 6
    have y7:=RowY.cell 7
    have y8:=RowY.cell 8
    have y9:=RowY.cell 9
    simp only [List.getElem?_cons_succ,List.getElem?_cons_zero] at y0 y1 y2 y3 y4 y5 y6 y7 y8 y9
    have ly:=RowY.lt
    go_wp2_with (refine wpList_store_row rfl 47 (.tmp 4) (.tmp 63) rfl g2 #[.int .u32 pc,.int .u8 pn,.int .u32 0,.int .u8 0,.int .u8 0,.int .u32 0,.int .u32 (co+metric),.int .u32 0,.int .u32 0,.slice ya yn yc] rfl rfl 47 _ RowRy (by kernel_rfl) rfl (by simp [Value.oneCell']) ?_)
    refine bodyPost_ret (v:=.tuple #[.agg #[.int .u32 pc,.int .u8 pn,.int .u32 0,.int .u8 0,.int .u8 0,.int .u32 0,.int .u32 (co+metric),.int .u32 0,.int .u32 0,.slice ya yn yc],.bool true]) (Qav (by rfl) _ _ g2 47 #[.int .u32 pc,.int .u8 pn,.int .u32 0,.int .u8 0,.int .u8 0,.int .u32 0,.int .u32 (co+metric),.int .u32 0,.int .u32 0,.slice ya yn yc] (0,0) _ (by rfl) (by rfl) (RowRy.setRow _) (by kernel_rfl)) rfl ?_
    exact HP.out _ _ (T6.out.setRow (Or.inr (by rw [HG0.out];exact HLO.out)) _) (fun z hz=>by rw [HL3.out] at hz;cases hz;rfl) (fun h=>by rw [HL3.out] at h;cases h)
   ·have HL3:Hid (L=if id=0 then none else some ⟨⟨0,0⟩,id,0,0,0,co+metric,0,0,hs⟩):=by show L=_;rw [HL2.out,if_pos rfl]
    clear HL2
    go_upto_region 7 with fail
    have RowY:Row (w3.setCell ⟨gx,2,none⟩ (.int .u32 id)) gx 47 [.int .u32 0,.int .u8 0,.int .u32 id,.int .u8 0,.int .u8 0,.int .u32 0,.int .u32 (co+metric),.int .u32 0,.int .u32 0,.slice ya yn yc]:=RowX.set 2 _
    have ty:Touch (fun k=>k=gx) w3 (w3.setCell ⟨gx,2,none⟩ (.int .u32 id)):=Touch.setCell (F:=fun k=>k=gx) (p:=⟨gx,2,none⟩) (Touch.refl _ _) (Or.inl rfl) _
    have RowRy:=Qay RowR3 ty (Nat.ne_of_lt HGX.out)
    have T6:Hid (Touch (fun _=>False) w (w3.setCell ⟨gx,2,none⟩ (.int .u32 id))):=T3.out.trans' ty (fun i hi e=>by have:=HGX.out;have:=HLO.out;have:=HG0.out;omega)
    generalize w3.setCell ⟨gx,2,none⟩ (.int .u32 id)=w6 at *
    clear x2 fx lx ty RowX RowR3 c2x c3x q2x
    have HGN:Hid (gx≠g2):=Nat.ne_of_gt HGX.out
    have HRY:∀w',Touch (fun k=>k=g2) w6 w'→Row w' gx 47 [.int .u32 0,.int .u8 0,.int .u32 id,.int .u8 0,.int .u8 0,.int .u32 0,.int .u32 (co+metric),.int .u32 0,.int .u32 0,.slice ya yn yc]:=fun w' t=>Qay RowY t HGN.out
    have y2:∀w',Touch (fun k=>k=g2) w6 w'→w'.cell? ⟨gx,2,none⟩=some (.int .u32 id):=fun w' t=>(HRY w' t).cell 2
    have s6:Touch (fun k=>k=g2) w6 w6.drew:=(Touch.refl _ _).drew
    have RowRd:Row w6.drew g2 47 [.int .u32 0,.int .u8 0,.int .u32 0,.int .u8 0,.int .u8 0,.int .u32 0,.int .u32 0,.int .u32 0,.int .u32 0,.slice none 0 0]:=RowRy.keep ((Touch.refl _ _).drew)
    have T7:Hid (Touch (fun _=>False) w w6.drew):=T6.out.trans ((Touch.refl _ _).drew)
    refine wp_region_held_drew (S:=fun w'=>Touch (fun k=>k=g2) w6 w') (by kernel_rfl) s6 (fun hHeld=>?_)
    refine wpAnyH_take (i:=0) (oi:=⟨some 44,_,_,_,_,_⟩) (v:=.agg #[.int .u32 0,.int .u8 0,.int .u32 id,.int .u8 0,.int .u8 0,.int .u32 0,.int .u32 (co+metric),.int .u32 0,.int .u32 0,.slice ya yn yc]) rfl (by kernel_rfl) (by kernel_rfl) (by kernel_rfl) (fun _ _ _ h=>h) (yieldsIf_load_mid (by rfl) _ _ rfl _ _ rfl [.int .u32 0,.int .u8 0,.int .u32 id,.int .u8 0,.int .u8 0,.int .u32 0,.int .u32 (co+metric),.int .u32 0,.int .u32 0,.slice ya yn yc] _ (fun w h=>Qbk (HRY w h)) Tryz.underlying47 rfl (by kernel_rfl)) (by assumption) ?_
    simp only [Act.put,Qo4,Qo5,Qo6]
    refine wpAnyH_take (i:=1) (oi:=⟨some 45,_,_,_,_,_⟩) (v:=.pointer (some ⟨gx,2,none⟩)) rfl (by kernel_rfl) (by kernel_rfl) (by kernel_rfl) (fun _ _ _ h=>h) (Or.inl ⟨by rfl,fun w hw=>by go_simp⟩) (by assumption) ?_
    simp only [Act.put,Qo4,Qo5,Qo6]
    refine wpAnyH_take (i:=2) (oi:=⟨some 46,_,_,_,_,_⟩) (v:=.int .u32 id) rfl (by kernel_rfl) (by kernel_rfl) (by kernel_rfl) (fun _ _ _ h=>h) (Or.inl ⟨by rfl,fun w hw=>by go_simp⟩) (by assumption) ?_
    simp only [Act.put,Qo4,Qo5,Qo6]
    refine wpAnyH_take (i:=3) (oi:=⟨some 47,_,_,_,_,_⟩) (v:=.bool (id != 0)) rfl (by kernel_rfl) (by kernel_rfl) (by kernel_rfl) (fun _ _ _ h=>h) (Or.inl ⟨by rfl,fun w hw=>by go_simp⟩) (by assumption) ?_
    simp only [Act.put,Qo4,Qo5,Qo6]
    refine wpAnyH_ready (rs:=[4]) (by kernel_rfl) (by simp) ?_
    refine AllReadyH.cons (o:=⟨none,_,_,_,_,_⟩) rfl (fun K hK=>?_) AllReadyH.nil
    refine Qnf (by rfl) 47 (.tmp 4) (.tmp 44) (by rfl) g2 [.int .u32 0,.int .u8 0,.int .u32 id,.int .u8 0,.int .u8 0,.int .u32 0,.int .u32 (co+metric),.int .u32 0,.int .u32 0,.slice ya yn yc] (by rfl) (by rfl) 47 _ RowRd (by kernel_rfl) rfl (Qbw _ _ _ _ _ _ _ _ _ _ _ _) ?_
    simp only [Act.put]
    have RowF:=Qih RowRd [.int .u32 0,.int .u8 0,.int .u32 id,.int .u8 0,.int .u8 0,.int .u32 0,.int .u32 (co+metric),.int .u32 0,.int .u32 0,.slice ya yn yc]
    have sF:Touch (fun k=>k=g2) w6 _:=Touch.setRow s6 (Or.inl rfl) (List.toArray [.int .u32 0,.int .u8 0,.int .u32 id,.int .u8 0,.int .u8 0,.int .u32 0,.int .u32 (co+metric),.int .u32 0,.int .u32 0,.slice ya yn yc])
    have TF:Hid (Touch (fun _=>False) w _):=Touch.setRow T7.out (Or.inr (by rw [HG0.out];exact HLO.out)) (List.toArray [.int .u32 0,.int .u8 0,.int .u32 id,.int .u8 0,.int .u8 0,.int .u32 0,.int .u32 (co+metric),.int .u32 0,.int .u32 0,.slice ya yn yc])
    generalize World.setRow _ _ _=w8 at RowF sF TF ⊢
    refine hK.out _ _ (by assumption) (fun hHeld=>?_)
    clear hK K
    refine wpAnyH_take (i:=5) (oi:=⟨some 5,_,_,_,_,_⟩) (v:=.bool (id != 0)) rfl (by kernel_rfl) (by kernel_rfl) (by kernel_rfl) (fun _ _ _ h=>h) (Or.inl ⟨by rfl,fun w hw=>by go_simp⟩) (by assumption) ?_
    simp only [Act.put,Qo4,Qo5,Qo6]
    refine wpAnyH_done (by kernel_rfl) ?_ _
    clear HRY y2 s6
    go_wp2_with fail
    by_cases h0:id=0
    ·subst h0
     refine bodyPost_ret (v:=.tuple #[.agg #[.int .u32 0,.int .u8 0,.int .u32 0,.int .u8 0,.int .u8 0,.int .u32 0,.int .u32 (co+metric),.int .u32 0,.int .u32 0,.slice ya yn yc],.bool false]) (Qav (by rfl) _ _ g2 47 #[.int .u32 0,.int .u8 0,.int .u32 0,.int .u8 0,.int .u8 0,.int .u32 0,.int .u32 (co+metric),.int .u32 0,.int .u32 0,.slice ya yn yc] (0,0) _ (by rfl) (by rfl) RowF (by kernel_rfl)) rfl ?_
     exact HP.out _ _ TF.out (fun z hz=>by rw [HL3.out,if_pos rfl] at hz;cases hz) (fun _=>⟨⟨⟨0,0⟩,0,0,0,0,co+metric,0,0,[]⟩,ya,yn,yc,rfl⟩)
    ·have hne:(id != 0)=true:=by simpa using h0
     rw [hne]
     refine bodyPost_ret (v:=.tuple #[.agg #[.int .u32 0,.int .u8 0,.int .u32 id,.int .u8 0,.int .u8 0,.int .u32 0,.int .u32 (co+metric),.int .u32 0,.int .u32 0,.slice ya yn yc],.bool true]) (Qav (by rfl) _ _ g2 47 #[.int .u32 0,.int .u8 0,.int .u32 id,.int .u8 0,.int .u8 0,.int .u32 0,.int .u32 (co+metric),.int .u32 0,.int .u32 0,.slice ya yn yc] (0,0) _ (by rfl) (by rfl) RowF (by kernel_rfl)) rfl ?_
     exact HP.out _ _ TF.out (fun z hz=>by rw [HL3.out,if_neg h0] at hz;cases hz;rfl) (fun h=>by rw [HL3.out,if_neg h0] at h;cases h)
end Go.Proofs.YtldmkoogghemhaaGreat
