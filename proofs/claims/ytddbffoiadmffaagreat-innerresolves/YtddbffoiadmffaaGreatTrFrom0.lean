import Derived.Test.YtddbffoiadmffaaGreatTrTry
namespace Go.Proofs.YtddbffoiadmffaaGreat
set_option maxHeartbeats 8000000
open Go.RowKit
set_option linter.unusedVariables false
set_option maxRecDepth 100000
theorem Qp6 {α:Type} (f:Nat→α) (i:Nat) (x:α) (h:x=f i):upf f i x=f:=by
 funext j
 by_cases e:j=i
 ·subst e;rw [Qag,h]
 ·rw [Qaf _ _ e]
structure GB (p:WB) (ns:List NM) (M:Int) (E:Nat):Prop where
 ok:GOk (ns.map (·.t)) M E
 n:p.N=ns.length
 nm:ns.length≤1000000
 root:p.root<p.N
 big:E*(ns.length*(E*((ns.length+1)*2))+1)+1≤1099511627776
theorem GB.few {p:WB} {ns:List NM} {M:Int} {E:Nat} (G:GB p ns M E) {R:Nat→RV} {n i:Nat} (h:tot (ns.map (·.t)) R≤ns.length*(E*((ns.length+1)*2))) (hi:i≤E) (hn:n≤E*tot (ns.map (·.t)) R+i):n+1≤1099511627776:=by
 have h1:=G.big
 have h2:=Nat.mul_le_mul_left E h
 rw [Nat.mul_add,Nat.mul_one] at h1
 omega
structure EdR (w0:World) (p:WB) (ns:List NM) (M:Int) (E:Nat) (H:Nat→Value) (x:Nat) (s:Sp) (T sb:Nat) (i:Nat) (w:World):Prop where
 out:∃v L R Z,WS w0 p w v L R H Z∧Inv (ns.map (·.t)) M p.root x i s L R Z∧St p.root R x∧(R x).cost=s.cost∧tot (ns.map (·.t)) R=T∧L.length≤E*T+i∧v.ownBlock≠some sb
 row:Row w sb 154 [.int .i64 s.node,.int .u32 s.cost,.int .u32 s.h.out,.int .u32 s.h.via,.bool s.h.vr]
 far:sb≠p.wb∧sb≠p.rb∧sb≠p.zb
theorem EdR.keep {w0:World} {p:WB} {ns:List NM} {M:Int} {E:Nat} {H:Nat→Value} {x:Nat} {s:Sp} {T sb i:Nat} {w w':World} (h:EdR w0 p ns M E H x s T sb i w) (t:Touch (fun _=>False) w w'):EdR w0 p ns M E H x s T sb i w':=by
 obtain⟨⟨v,L,R,Z,X,r⟩,row,far⟩:=h
 exact⟨⟨v,L,R,Z,X.keep t,r⟩,row.keep t,far⟩
theorem EdR.step {w0:World} {p:WB} {ns:List NM} {M:Int} {E:Nat} (G:GB p ns M E) {H:Nat→Value} {x:Nat} {s:Sp} {T sb i:Nat} {w w' w'':World} {v:Value} {L:List Sp} {R:Nat→RV} {Z:Nat→Sp} {e:TE} {en:Ending}
  (X:WS w0 p w v L R H Z) (I:Inv (ns.map (·.t)) M p.root x i s L R Z) (S:St p.root R x) (hc:(R x).cost=s.cost) (hT:tot (ns.map (·.t)) R=T) (hL:L.length≤E*T+i) (hv:v.ownBlock≠some sb) (far:sb≠p.wb∧sb≠p.rb∧sb≠p.zb)
  (row:Row w sb 154 [.int .i64 s.node,.int .u32 s.cost,.int .u32 s.h.out,.int .u32 s.h.via,.bool s.h.vr]) (hx:x<ns.length) (HW:HopW (ns.map (·.t)) p.root x s.cost s.h) (he:(gn (ns.map (·.t)) x).edges[i]?=some e)
  (t:Touch (fun _=>False) w w') (Q:TryP w0 p ns e s.cost s.h w' v L R H Z en w''):EdR w0 p ns M E H x s T sb (i+1) w'':=by
 have hlen:(ns.map (·.t)).length=ns.length:=by simp
 have hem:e∈(gn (ns.map (·.t)) x).edges:=List.mem_of_getElem? he
 have hE:=G.ok.ed _ (Qbx (by rw [hlen];exact hx)) e hem
 have hlt:=row.lt
 have row':Row w'' sb 154 [.int .i64 s.node,.int .u32 s.cost,.int .u32 s.h.out,.int .u32 s.h.via,.bool s.h.vr]:=by
  refine (Q.tt.block sb (Nat.lt_of_lt_of_le hlt t.size) ?_).trans (row.keep t)
  rintro (e1|e1|e1|e1)
  ·exact far.1 e1
  ·exact far.2.1 e1
  ·exact far.2.2 e1
  ·exact hv e1
 refine⟨?_,row',far⟩
 rcases Q.out with⟨X',hno⟩|⟨d,v',L',hd,hdn,hdr,hm,hle,pe,ow,X'⟩
 ·refine⟨v,L,R,Z,X',I.skip he (fun d h1 h2 h3 h4=>?_) hE.1,S,hc,hT,by omega,hv⟩
  rw [hlen] at h2
  rw [hc] at h4 ⊢
  obtain⟨a1,a2⟩:=hno d h1 h2 h3 h4
  refine⟨a1,?_⟩
  rcases a2 with a2|a2
  ·omega
  ·have:=I.zc d (by rw [hlen];exact h2) h3 a1
   rw [a2] at this
   simp only at this
   omega
 ·have HWd:=HW.snoc G.ok hem hd (by rw [hlen];exact hdn)
  have hcur:s.le ⟨(d:Int),s.cost+e.cost,intoH s.h (gn (ns.map (·.t)) d)⟩:=by
   have h1:=Qt9 G.ok HW (by rw [hlen];exact hdn)
   unfold Sp.le Sp.lt
   simp only
   rintro (h2|⟨h2,h3⟩)
   ·omega
   ·exact h1 h3
  have IW:=I.wait G.ok (by rw [hlen];exact hx) S he hd (by rw [hlen];exact hdn) hdr (by rw [hc];exact hm) (fun h=>by rw [hc];exact hle h) (by rw [hc];exact HWd) (by rw [hc];exact hcur)
  rw [hc] at IW
  have hh:∀u,(upf R d ⟨true,s.cost+e.cost,(R d).hops⟩ u).hops=(R u).hops:=by
   intro u
   by_cases h:u=d
   ·subst h;rw [Qag]
   ·rw [Qaf _ _ h]
  have hcx:(upf R d ⟨true,s.cost+e.cost,(R d).hops⟩ x).cost=s.cost:=by
   by_cases h:x=d
   ·subst h
    rw [Qag]
    have:=hle (S.elim (fun e=>(hdr e).elim) (fun e=>(I.hs x e).2.2))
    simp only
    omega
   ·rw [Qaf _ _ h];exact hc
  refine⟨v',L',_,_,X',IW.perm pe,?_,hcx,?_,?_,?_⟩
  ·unfold St at S ⊢;rw [hh];exact S
  ·rw [Qkr hh];exact hT
  ·have:=pe.length_eq
   simp at this
   omega
  ·rcases ow with e1|⟨g,e1,hg⟩
   ·rw [e1];exact hv
   ·rw [e1];intro h;injection h with h;have:=t.size;omega
structure TakeQ (w0:World) (p:WB) (ns:List NM) (M:Int) (E:Nat) (R:Nat→RV) (n:Nat) (e:Ending) (w:World):Prop where
 ed:e=.returned (.tuple #[])
 out:∃v L R' H Z x i s,WS w0 p w v L R' H Z∧Inv (ns.map (·.t)) M p.root x i s L R' Z∧(gn (ns.map (·.t)) x).edges.length≤i∧L.length≤E*(tot (ns.map (·.t)) R'+1)∧((tot (ns.map (·.t)) R'=tot (ns.map (·.t)) R∧L.length=n)∨tot (ns.map (·.t)) R'=tot (ns.map (·.t)) R+1)
theorem Qrf (w0:World) (p:WB) (ns:List NM) (GA:GrAt w0 p.nv ns) (M:Int) (E:Nat) (G:GB p ns M E) (w:World) (v:Value) (L L0:List Sp) (R:Nat→RV) (H:Nat→Value) (Z:Nat→Sp) (x i:Nat) (cur s:Sp)
  (X:WS w0 p w v L R H Z) (I:Inv (ns.map (·.t)) M p.root x i cur L0 R Z) (hfull:(gn (ns.map (·.t)) x).edges.length≤i) (hp:L0.Perm (L++[s])) (hmin:∀y∈L0,s.le y) (hL:L0.length≤E*(tot (ns.map (·.t)) R+1)) :
  Calls Tryz.prog 62 #[.pointer (some ⟨p.wb,0,none⟩),.agg #[.int .i64 s.node,.int .u32 s.cost,.int .u32 s.h.out,.int .u32 s.h.via,.bool s.h.vr]] w (TakeQ w0 p ns M E R L.length):=by
 have hlen:(ns.map (·.t)).length=ns.length:=by simp
 have hrl:p.root<(ns.map (·.t)).length:=by rw [hlen,←G.n];exact G.root
 obtain⟨d,hsd,hdl,hdr,hdi,hdc,hsm,hdw⟩:=I.st s (hp.mem_iff.2 (by simp))
 rw [hlen] at hdl
 have hll:L.length≤E*(tot (ns.map (·.t)) R+1):=by have:=hp.length_eq;simp at this;omega
 have hdp:d<p.N:=by rw [G.n];exact hdl
 have hc0:=(I.rc d).1
 have OLD:Hid (∀w',Touch (fun _=>False) w w'→((R d).cost<s.cost∨(R d).hops≠[])→TakeQ w0 p ns M E R L.length (.returned (.tuple #[])) w'):=fun w' t h=>⟨rfl,v,L,R,H,Z,x,i,s,X.keep t,I.pop hp hmin d hsd h,hfull,hll,Or.inl ⟨rfl,rfl⟩⟩
 obtain⟨sn,sc,so,sv,sr⟩:=s
 simp only at hsd hdc hsm hdw
 subst hsd
 have T0:Touch (fun _=>False) w (w.alloc (.cells #[.int .i64 (d:Int),.int .u32 sc,.int .u32 so,.int .u32 sv,.bool sr] 154)):=(Touch.refl _ _).alloc _
 have RS0:Row (w.alloc (.cells #[.int .i64 (d:Int),.int .u32 sc,.int .u32 so,.int .u32 sv,.bool sr] 154)) w.heap.size 154 [.int .i64 (d:Int),.int .u32 sc,.int .u32 so,.int .u32 sv,.bool sr]:=Qac w _ _
 have HX:Hid _:=X
 have HI:Hid _:=I
 have HMIN:Hid _:=hmin
 have HPM:Hid _:=hp
 have HFU:Hid _:=hfull
 have HG:Hid _:=G
 have HGA:Hid _:=GA
 have HDW:Hid _:=hdw
 have HSB:Hid (w.heap.size≠p.wb∧w.heap.size≠p.rb∧w.heap.size≠p.zb∧v.ownBlock≠some w.heap.size):=⟨by have:=X.ls.lt;omega,by have:=X.rlt;omega,by have:=X.zlt;omega,fun e=>by have:=X.vlt e;omega⟩
 clear X I hmin hp hfull G GA hdw
 go_enter Tryz.func62,Tryz.ntmps62
 go_wp2_with fail
 generalize (w.alloc (.cells #[.int .i64 (d:Int),.int .u32 sc,.int .u32 so,.int .u32 sv,.bool sr] 154))=wa at *
 have X1:=HX.out.keep T0
 have c3:=X1.c3
 have b0:wa.cell? ⟨w.heap.size,0,none⟩=some (.int .i64 (d:Int)):=RS0.cell 0
 have b1:wa.cell? ⟨w.heap.size,1,none⟩=some (.int .u32 sc):=RS0.cell 1
 obtain⟨r0,r1,r2⟩:=X1.rcell hdp
 obtain⟨ha,hcp,hHd⟩:=RG.shape (X1.hh d hdp)
 have HHD:Hid _:=hHd
 rw [hHd] at r2
 clear hHd
 have HN5:Hid ((R d).hops.length≤ns.length*(E*((ns.length+1)*2))):=by
  have:=HI.out.few HG.out.ok hrl d
  rw [hlen] at this
  have h2:E*((ns.length+1)*2)≤ns.length*(E*((ns.length+1)*2)):=Nat.le_mul_of_pos_left _ (by omega)
  exact Nat.le_trans this h2
 have hdpi:(d:Int)<(p.N:Int):=by omega
 have hd0:(0:Int)≤(d:Int):=by omega
 have HX1:Hid _:=X1
 have HT0:Hid _:=T0
 have HRS:Hid (Row wa w.heap.size 154 [.int .i64 (d:Int),.int .u32 sc,.int .u32 so,.int .u32 sv,.bool sr]):=RS0
 clear X1 T0 RS0
 go_quiet (fail)
 go_wp2_with fail
 by_cases hlt:(R d).cost<sc
 ·have hd1:decide ((R d).cost<sc)=true:=decide_eq_true hlt
  have HZ:Hid _:=fun w' t=>OLD.out w' t (Or.inl hlt)
  go_quiet (fail)
  go_wp2_with fail
  refine bodyPost_end (results_none rfl _ _ _) rfl (HZ.out _ (HT0.out.trans ?_))
  exact ((Touch.refl _ _).drewN _).drewN _
 ·have hd1:decide ((R d).cost<sc)=false:=decide_eq_false hlt
  have hce:(R d).cost=sc:=by omega
  have HCE:Hid _:=hce
  clear hce hlt
  go_quiet (fail)
  go_wp2_with fail
  generalize hw2:World.drewN wa _=w2
  have T2:Touch (fun _=>False) wa w2:=by rw [←hw2];exact (Touch.refl _ _).drewN _
  have X2:=HX1.out.keep T2
  have RS2:Row w2 w.heap.size 154 [.int .i64 (d:Int),.int .u32 sc,.int .u32 so,.int .u32 sv,.bool sr]:=Row.keep HRS.out T2
  have TT2:Hid (Touch (fun _=>False) w w2):=HT0.out.trans T2
  have r2':w2.cell? ⟨p.rb,d*3+2,none⟩=some (.slice ha (R d).hops.length hcp):=by rw [←HHD.out];exact (X2.rcell hdp).2.2
  have b2:w2.cell? ⟨w.heap.size,2,none⟩=some (.int .u32 so):=RS2.cell 2
  have b3:w2.cell? ⟨w.heap.size,3,none⟩=some (.int .u32 sv):=RS2.cell 3
  have b4:w2.cell? ⟨w.heap.size,4,none⟩=some (.bool sr):=RS2.cell 4
  have hTA:Touch (fun _=>False) w2 (w2.alloc (.cells #[.int .u32 so,.int .u32 sv,.bool sr] 48)).drew:=((Touch.refl _ _).alloc _).drew
  have HJ:Hid (Calls Tryz.prog 49 #[.slice ha (R d).hops.length hcp,.slice (some ⟨w2.heap.size,0,none⟩) 1 1] (w2.alloc (.cells #[.int .u32 so,.int .u32 sv,.bool sr] 48)).drew (JoinP (w2.alloc (.cells #[.int .u32 so,.int .u32 sv,.bool sr] 48)).drew w0.heap.size (.slice ha (R d).hops.length hcp) (jn (R d).hops [⟨so,sv,sr⟩]))):=by
   have hre:=X2.hh d hdp
   rw [HHD.out] at hre
   refine Qkf _ w0.heap.size _ _ (R d).hops [⟨so,sv,sr⟩] (hre.keepN hTA) ⟨some ⟨w2.heap.size,0,none⟩,1,rfl,Or.inr ⟨_,rfl,fun i x hi dd u hu=>?_⟩⟩ (fun k hk e=>?_) (Nat.le_trans X2.t.size hTA.size) ?_
   ·cases i with
    | zero =>
     simp at hi
     subst hi
     have:=(Qac w2 48 #[.int .u32 so,.int .u32 sv,.bool sr]).cell dd
     rw [Nat.zero_mul,Nat.zero_add]
     exact this.trans hu
    | succ i=>simp at hi
   ·have:=RG.lt hre hk
    have e':some w2.heap.size=some k:=e
    injection e' with e'
    omega
   ·have h1:=HG.out.big
    have h3:=HN5.out
    have h2:ns.length*(E*((ns.length+1)*2))≤E*(ns.length*(E*((ns.length+1)*2))+1)∨E=0:=by
     rcases Nat.eq_zero_or_pos E with e|e
     ·exact Or.inr e
     ·exact Or.inl (Nat.le_trans (Nat.le_succ _) (Nat.le_mul_of_pos_left _ e))
    simp only [List.length_singleton]
    rcases h2 with h2|h2
    ·omega
    ·rw [h2] at h3;simp at h3;simp [h3]
  have hrf:∀wj,Touch (fun k=>Value.ownBlock (.slice ha (R d).hops.length hcp)=some k) (w2.alloc (.cells #[.int .u32 so,.int .u32 sv,.bool sr] 48)).drew wj→wj.cell? ⟨p.rb,d*3+2,none⟩=some (.slice ha (R d).hops.length hcp)∧wj.frozen? ⟨p.rb,d*3+2,none⟩=false∧Touch (fun k=>(H d).ownBlock=some k) w2 wj:=by
   intro wj tj
   have hn:¬(Value.ownBlock (.slice ha (R d).hops.length hcp)=some p.rb):=fun e=>by
    rw [←HHD.out] at e
    exact (X2.h1 d p.rb hdp e).2.1 rfl
   have hlt:=X2.rlt
   refine⟨(tj.cell (p:=⟨p.rb,d*3+2,none⟩) (Nat.lt_of_lt_of_le hlt hTA.size) hn).trans (hTA.cellN r2'),(tj.frozen (p:=⟨p.rb,d*3+2,none⟩) (Nat.lt_of_lt_of_le hlt hTA.size) hn).trans ((hTA.frozen (p:=⟨p.rb,d*3+2,none⟩) hlt (fun h=>h)).trans (X2.rfz _)),?_⟩
   rw [HHD.out]
   exact (hTA.mono (fun _ _ h=>h.elim)).trans tj
  have HRF:Hid _:=hrf
  have hlr:=X2.rlt
  have hls:=RS2.lt
  have hsz:w2.heap.size≤(w2.alloc (.cells #[.int .u32 so,.int .u32 sv,.bool sr] 48)).drew.heap.size:=hTA.size
  have HSZ:Hid _:=hsz
  have HX2:Hid _:=X2
  have HRS2:Hid (Row w2 w.heap.size 154 [.int .i64 (d:Int),.int .u32 sc,.int .u32 so,.int .u32 sv,.bool sr]):=RS2
  clear X2 RS2 T2 hw2 hTA hrf hsz r0 r1 r2 b0 b1 c3 HX1 HRS HT0 hd1
  go_upto_region 4 with fail
  go_cut [] (fun wx=>∃w1 hv,RH w0.heap.size w1 hv (jn (R d).hops [⟨so,sv,sr⟩])∧(hv.ownBlock=(H d).ownBlock∨∃g,hv.ownBlock=some g∧w2.heap.size≤g)∧Touch (fun k=>(H d).ownBlock=some k) w2 w1∧wx=w1.setCell ⟨p.rb,d*3+2,none⟩ hv)
  case first =>
   go_region_with ((go_at_call 49;refine Calls.mono HJ.out ?_;rintro e wj ⟨⟨hv,rfl,re,ow⟩,tj⟩;obtain⟨ua,uc,rfl⟩:=RG.shape re;have f1:=(HRF.out wj tj).1;have f2:=(HRF.out wj tj).2.1;have HRE:Hid _:=re;have HOW:Hid _:=ow;have HTJ:Hid _:=(HRF.out wj tj).2.2;clear re ow tj))
   all_goals go_wp2_with fail
   all_goals go_meet
   all_goals exact⟨wj,_,HRE.out,by rw [HHD.out];exact HOW.out.imp id (fun ⟨g,e,hg⟩=>⟨g,e,Nat.le_trans HSZ.out hg⟩),HTJ.out,rfl⟩
  case rest =>
   obtain⟨w1,hv,re,ow,t1,hwx⟩:=hcut
   obtain⟨ua,uc,hhv⟩:=RG.shape re
   have X3:=HX2.out.hops hdp re ow t1
   have RS3:Row wc w.heap.size 154 [.int .i64 (d:Int),.int .u32 sc,.int .u32 so,.int .u32 sv,.bool sr]:=by
    rw [hwx]
    refine Row.other ((t1.block _ (Row.lt HRS2.out) (fun e=>?_)).trans HRS2.out) HSB.out.2.1 _
    have:=RG.lt (HX.out.hh d hdp) e
    omega
   rw [←hwx] at X3
   generalize wc=w3 at *
   have r2:=(X3.rcell hdp).2.2
   rw [Qag,hhv] at r2
   have b0:w3.cell? ⟨w.heap.size,0,none⟩=some (.int .i64 (d:Int)):=RS3.cell 0
   have HRS3:Hid (Row w3 w.heap.size 154 [.int .i64 (d:Int),.int .u32 sc,.int .u32 so,.int .u32 sv,.bool sr]):=RS3
   have HX3:Hid _:=X3
   clear re ow t1 hwx hhv RS3 X3 r2' b2 b3 b4 HX2 HRS2 HJ HRF HSZ hlr hls TT2
   by_cases hq:(R d).hops.getLast?=some ⟨so,sv,sr⟩
   ·have hj:jn (R d).hops [⟨so,sv,sr⟩]=(R d).hops:=by rw [Qki,if_pos hq]
    have HZ:Hid (TakeQ w0 p ns M E R L.length (.returned (.tuple #[])) w3):=by
     have X4:=HX3.out
     rw [hj,Qp6 R d ⟨(R d).is,(R d).cost,(R d).hops⟩ rfl] at X4
     refine⟨rfl,v,L,R,_,Z,x,i,_,X4,HI.out.pop HPM.out HMIN.out d rfl (Or.inr (fun e=>?_)),HFU.out,hll,Or.inl ⟨rfl,rfl⟩⟩
     rw [e] at hq;cases hq
    rw [hj] at r2
    clear hq hj HX3
    generalize (R d).hops.length=n at *
    go_wp2_with fail
    exact bodyPost_end (results_none rfl _ _ _) rfl HZ.out
   ·have hj:jn (R d).hops [⟨so,sv,sr⟩]=(R d).hops++[⟨so,sv,sr⟩]:=by rw [Qki,if_neg hq]
    obtain⟨I2,S2,W2⟩:=HI.out.take HG.out.ok hrl HFU.out HPM.out HMIN.out d rfl HCE.out.symm hq
    have X4:=HX3.out
    rw [hj] at X4 r2
    simp only [List.length_append,List.length_singleton] at r2
    have hT:=Qtn (g:=ns.map (·.t)) (R:=R) (v:=d) (by rw [hlen];exact hdl) (R d).is (R d).cost ⟨so,sv,sr⟩
    have hcs:(upf R d ⟨(R d).is,(R d).cost,(R d).hops++[⟨so,sv,sr⟩]⟩ d).cost=sc:=by rw [Qag];exact HCE.out
    obtain⟨xn,hx⟩:∃xn,ns[d]?=some xn:=⟨_,List.getElem?_eq_getElem hdl⟩
    have hxt:gn (ns.map (·.t)) d=xn.t:=by unfold gn;rw [List.getD_eq_getElem?_getD,List.getElem?_map,hx];rfl
    have hdeg:xn.t.edges.length≤E:=HG.out.ok.deg _ (List.mem_map.2 ⟨xn,List.mem_of_getElem? hx,rfl⟩)
    obtain⟨⟨a,cp,hnv,hsh⟩,hed⟩:=HGA.out
    rcases hsh with e|⟨ng,rfl,hcs2⟩
    ·rw [e] at hx;cases hx
    have c1:w3.cell? ⟨p.wb,1,none⟩=some (.slice (some ⟨ng,0,none⟩) ns.length cp):=by rw [←hnv];exact X4.c1
    have q5:w3.cell? ⟨ng,d*7+5,none⟩=some (.slice xn.ea xn.t.edges.length xn.ec):=X4.t.cellN (hcs2 d xn hx 5 _ rfl)
    have hdl2:(d:Int)<(ns.length:Int):=by omega
    have hne:((((R d).hops.length:Nat):Int)+1==(((R d).hops.length:Nat):Int))=false:=by simp;omega
    have ST:Hid (EdR w0 p ns M E (upf H d hv) d ⟨(d:Int),sc,⟨so,sv,sr⟩⟩ (tot (ns.map (·.t)) R+1) w.heap.size 0 w3):=⟨⟨v,L,_,Z,X4,I2,S2,hcs,hT,by have:=hll;omega,HSB.out.2.2.2⟩,HRS3.out,HSB.out.1,HSB.out.2.1,HSB.out.2.2.1⟩
    have HED:Hid _:=hed xn (List.mem_of_getElem? hx)
    have HW2:Hid (HopW (ns.map (·.t)) p.root d sc ⟨so,sv,sr⟩):=by have:=W2;rw [HCE.out] at this;exact this
    have HXT:Hid _:=hxt
    have HT3:Hid (Touch (fun _=>False) w0 w3):=X4.t
    have hE40:E≤1099511627776:=by
     have h1:=HG.out.big
     rw [Nat.mul_add,Nat.mul_one] at h1
     omega
    have HDG:Hid (xn.t.edges.length≤E):=hdeg
    have HE40:Hid (E≤1099511627776):=hE40
    have hdgi:(xn.t.edges.length:Int)≤1099511627776:=by omega
    clear hq hj I2 S2 W2 X4 hT hcs hxt hdeg hnv hed hcs2 hx HX3 HRS3 hE40
    generalize (R d).hops.length=n at *
    generalize hdd:xn.t.edges.length=dg at *
    have HDD:Hid _:=hdd
    clear hdd
    generalize hea0:xn.ea=ea0 at *
    clear hea0
    go_wp2_with fail
    go_quiet (fail)
    go_wp2_with fail
    generalize hw4:World.drewN w3 _=w4
    have T4:Touch (fun _=>False) w3 w4:=by rw [←hw4];exact (Touch.refl _ _).drewN _
    have ST4:=ST.out.keep T4
    have HST:Hid (EdR w0 p ns M E (upf H d hv) d ⟨(d:Int),sc,⟨so,sv,sr⟩⟩ (tot (ns.map (·.t)) R+1) w.heap.size 0 w4):=ST4
    have HQB:Hid (tot (ns.map (·.t)) R+1=tot (ns.map (·.t)) R+1):=rfl
    generalize w.heap.size=sb at *
    generalize hTT:tot (ns.map (·.t)) R=T0 at *
    have HTT:Hid _:=hTT
    clear hTT ST ST4 T4 hw4 c1 q5 r2 b0 hdl2 hne HT3 HQB OLD HX HI HMIN HPM HFU HSB HHD HN5 hdc hdi hc0 hL hll
    go_loopw [55] (fun s55 wx=>∃j:Nat,s55=.int .i64 j∧j≤dg∧EdR w0 p ns M E (upf H d hv) d ⟨(d:Int),sc,⟨so,sv,sr⟩⟩ (T0+1) sb j wx) (fun s55 _=>dg-(intOf s55).toNat)
    case atStart=>exact⟨0,rfl,Nat.zero_le _,HST.out⟩
    case round =>
     clear HST
     obtain⟨j,rfl,hj,XE⟩:=hrel
     by_cases hjd:j<dg
     ·obtain⟨e,he⟩:∃e,xn.t.edges[j]?=some e:=⟨_,List.getElem?_eq_getElem (by have:=HDD.out;omega)⟩
      rcases HED.out with e1|⟨eg,rfl,hce⟩
      ·rw [e1] at he;cases he
      obtain⟨⟨v1,L1,R1,Z1,X1,I1,S1,C1,T1,LL1,V1⟩,row1,far1⟩:=XE
      have q0:wr.cell? ⟨eg,j*4,none⟩=some (.int .i64 e.dst):=X1.t.cellN (hce j e he 0 _ rfl)
      have q1:wr.cell? ⟨eg,j*4+1,none⟩=some (.int .u32 e.cost):=X1.t.cellN (hce j e he 1 _ rfl)
      have q2:wr.cell? ⟨eg,j*4+2,none⟩=some (.int .u32 e.data):=X1.t.cellN (hce j e he 2 _ rfl)
      have q3:wr.cell? ⟨eg,j*4+3,none⟩=some (.bool e.vr):=X1.t.cellN (hce j e he 3 _ rfl)
      have k1:wr.cell? ⟨sb,1,none⟩=some (.int .u32 sc):=Row.cell row1 1
      have k2:wr.cell? ⟨sb,2,none⟩=some (.int .u32 so):=Row.cell row1 2
      have k3:wr.cell? ⟨sb,3,none⟩=some (.int .u32 sv):=Row.cell row1 3
      have k4:wr.cell? ⟨sb,4,none⟩=some (.bool sr):=Row.cell row1 4
      have hsbl:sb<wr.heap.size:=Row.lt row1
      have he':(gn (ns.map (·.t)) d).edges[j]?=some e:=by rw [HXT.out];exact he
      have hdm:d<(ns.map (·.t)).length:=by rw [hlen];exact hdl
      have hEc:=HG.out.ok.ed _ (Qbx hdm) e (List.mem_of_getElem? he')
      have hC0:=(I1.rc d).1
      rw [C1] at hC0
      simp only at hC0
      have tA:Touch (fun _=>False) wr (wr.alloc (.cells #[.int .i64 e.dst,.int .u32 e.cost,.int .u32 e.data,.bool e.vr] 134)):=(Touch.refl _ _).alloc _
      have hlL:L1.length+1≤1099511627776:=by
       have h1:=I1.tot_le HG.out.ok hrl
       rw [hlen] at h1
       refine HG.out.few (i:=j) h1 (by have:=HDG.out;omega) ?_
       rw [T1];exact LL1
      have HTRY:=Qo9 w0 p ns HGA.out HG.out.n HG.out.nm HG.out.root (wr.alloc (.cells #[.int .i64 e.dst,.int .u32 e.cost,.int .u32 e.data,.bool e.vr] 134)) v1 L1 R1 (upf H d hv) Z1 (X1.keep tA) e sc ⟨so,sv,sr⟩ ⟨hC0,hsm⟩ ⟨hEc.1,hEc.2.2.1⟩ hlL
      have FIN:Hid (∀en w5,TryP w0 p ns e sc ⟨so,sv,sr⟩ (wr.alloc (.cells #[.int .i64 e.dst,.int .u32 e.cost,.int .u32 e.data,.bool e.vr] 134)) v1 L1 R1 (upf H d hv) Z1 en w5→EdR w0 p ns M E (upf H d hv) d ⟨(d:Int),sc,⟨so,sv,sr⟩⟩ (T0+1) sb (j+1) w5):=fun en w5 Q=>EdR.step HG.out X1 I1 S1 C1 T1 LL1 V1 far1 row1 hdl HDW.out he' tA Q
      have HT:Hid _:=HTRY
      have hj1:(j:Int)<(dg:Int):=by omega
      have hj0:(0:Int)≤(j:Int):=by omega
      clear HTRY X1 I1 S1 C1 T1 LL1 V1 row1 far1 tA hEc hC0 hlL he he' hce
      go_wp2_with ((go_at_call 60;refine Calls.mono HT.out ?_;rintro en w5 Q;have ee:=Q.ed;subst ee;have HF:Hid _:=FIN.out _ w5 Q;clear Q))
      go_roundw
      case rel=>exact⟨j+1,by go_num,by omega,HF.out⟩
      case measure=>simp [intOf];omega
     ·have hjj:j=dg:=by omega
      subst hjj
      have FIN:Hid (TakeQ w0 p ns M E R L.length (.returned (.tuple #[])) wr):=by
       obtain⟨⟨v1,L1,R1,Z1,X1,I1,S1,C1,T1,LL1,V1⟩,row1,far1⟩:=XE
       refine⟨rfl,v1,L1,R1,_,Z1,d,j,_,X1,I1,by rw [HXT.out];exact Nat.le_of_eq HDD.out,?_,Or.inr (by rw [T1,HTT.out])⟩
       rw [T1,Nat.mul_add,Nat.mul_one]
       have:=HDG.out
       omega
      clear XE
      go_wp2_with fail
      exact bodyPost_end (results_none rfl _ _ _) rfl FIN.out
theorem Qkh {α:Type} {cs:α→List Value} {k:Nat} (hk:∀x,(cs x).length=k) (h0:0<k) (x:α) (n:Nat):(madeCells (cs x).toArray (n*k)).toList=cellsG cs (tab n (fun _=>x)):=by
 apply List.ext_getElem?
 intro j
 have hs:(cs x).toArray.size=k:=by simp [hk]
 have hj:j=j/k*k+j%k:=by rw [Nat.mul_comm];exact (Nat.div_add_mod j k).symm
 have hm:j%k<k:=Nat.mod_lt _ h0
 by_cases hn:j<n*k
 ·have hq:j/k<n:=Nat.div_lt_of_lt_mul (by rw [Nat.mul_comm];exact hn)
  have h1:=Qa0 hk (tab n (fun _=>x)) (j/k) (j%k) hm
  rw [←hj,Qbe _ hq] at h1
  rw [h1]
  simp only [madeCells,hs,Array.toList_map,List.getElem?_map,Array.getElem?_toList,Array.getElem?_range,hn,if_true,Option.map_some,Option.bind_some]
  have hl:j%k<(cs x).length:=by rw [hk];exact hm
  rw [List.getElem?_eq_getElem hl,getElem!_pos (cs x).toArray (j%k) (by simpa using hl)]
  simp
 ·rw [List.getElem?_eq_none (by simp [madeCells];omega),List.getElem?_eq_none (by rw [Qai hk,Qau];omega)]
theorem Qhv (x:NM) (h:x.t.net=false→x.t.id≠0) (w:World):Calls Tryz.prog 59 #[.agg #[.bool x.t.net,.int .u32 x.t.id,.int .u32 x.addr,.int .u8 x.bits,.int .u8 x.flags,.slice x.ea x.t.edges.length x.ec,.slice x.sa x.sn x.sc]] w fun e w'=>e=.returned (.bool false)∧Touch (fun _=>False) w w':=by
 obtain⟨⟨net,id,es⟩,a,b,f,ea,ec,sa,sn,sc⟩:=x
 simp only at h ⊢
 generalize es.length=en
 cases net
 ·have hid:¬id=0:=h rfl
  have hib:(id==0)=false:=by simpa using hid
  clear h
  go_enter Tryz.func59,Tryz.ntmps59
  go_wp2_with fail
  go_ret
  exact⟨rfl,(Touch.refl _ _).alloc _⟩
 ·clear h
  go_enter Tryz.func59,Tryz.ntmps59
  go_wp2_with fail
  go_ret
  exact⟨rfl,(Touch.refl _ _).alloc _⟩
theorem index17 (w:World) (nv:Value) (ns:List NM) (GA:GrAt w nv ns) (hn:ns.length≤1000000) (h:∀x∈ns,x.t.net=false→x.t.id≠0) :
  Calls Tryz.prog 56 #[nv,.func (.func 59) #[] #[]] w fun e w'=>e=.returned (.int .i64 (-1))∧Touch (fun _=>False) w w':=by
 obtain⟨⟨a,cp,rfl,hsh⟩,-⟩:=GA
 have HSH:Hid _:=hsh
 have HH:Hid _:=h
 have hn1:(ns.length:Int)≤1000000:=by omega
 generalize hN:ns.length=N at *
 have HN:Hid _:=hN
 clear hsh h hN
 go_enter Tryz.func56,Tryz.ntmps56
 go_wp2_with fail
 go_loopw [8] (fun s8 wx=>∃j:Nat,s8=.int .i64 j∧j≤N∧Touch (fun _=>False) w wx) (fun s8 _=>N-(intOf s8).toNat)
 case atStart=>exact⟨0,rfl,Nat.zero_le _,Touch.refl _ _⟩
 case round =>
  obtain⟨j,rfl,hj,T⟩:=hrel
  by_cases hjN:j<N
  ·obtain⟨x,hx⟩:∃x,ns[j]?=some x:=⟨_,List.getElem?_eq_getElem (by have:=HN.out;omega)⟩
   rcases HSH.out with e|⟨g,rfl,hc⟩
   ·rw [e] at hx;cases hx
   have hq:=fun d u hd=>T.cellN (hc j x hx d u hd)
   have q0:wr.cell? ⟨g,j*7,none⟩=some (.bool x.t.net):=hq 0 _ rfl
   have q1:wr.cell? ⟨g,j*7+1,none⟩=some (.int .u32 x.t.id):=hq 1 _ rfl
   have q2:wr.cell? ⟨g,j*7+2,none⟩=some (.int .u32 x.addr):=hq 2 _ rfl
   have q3:wr.cell? ⟨g,j*7+3,none⟩=some (.int .u8 x.bits):=hq 3 _ rfl
   have q4:wr.cell? ⟨g,j*7+4,none⟩=some (.int .u8 x.flags):=hq 4 _ rfl
   have q5:wr.cell? ⟨g,j*7+5,none⟩=some (.slice x.ea x.t.edges.length x.ec):=hq 5 _ rfl
   have q6:wr.cell? ⟨g,j*7+6,none⟩=some (.slice x.sa x.sn x.sc):=hq 6 _ rfl
   have HNM:Hid _:=Qhv x (HH.out x (List.mem_of_getElem? hx))
   have HT:Hid (Touch (fun _=>False) w wr):=T
   have hj0:(0:Int)≤(j:Int):=by omega
   have hj1:(j:Int)<(N:Int):=by omega
   clear hq hx hc T
   go_wp2_with ((go_at_call 59;refine Calls.mono (HNM.out _) ?_;rintro en w5 ⟨rfl,t5⟩))
   go_roundw
   case rel=>exact⟨j+1,by go_num,by omega,HT.out.trans t5⟩
   case measure=>simp [intOf];omega
  ·have hjj:j=N:=by omega
   subst hjj
   go_wp2_with fail
   go_ret
   exact⟨rfl,T⟩
theorem contains17 (w:World) (nv:Value) (ns:List NM) (GA:GrAt w nv ns) (hn:ns.length≤1000000) (h:∀x∈ns,x.t.net=false→x.t.id≠0) :
  Calls Tryz.prog 58 #[nv,.func (.func 59) #[] #[]] w fun e w'=>e=.returned (.bool false)∧Touch (fun _=>False) w w':=by
 have HI:Hid _:=index17 w nv ns GA hn h
 clear GA
 go_enter Tryz.func58,Tryz.ntmps58
 go_wp2_with fail
 refine Calls.mono HI.out ?_
 rintro en w5 ⟨rfl,t5⟩
 go_wp2_with fail
 go_ret
 exact⟨rfl,t5⟩
end Go.Proofs.YtddbffoiadmffaaGreat
