import Derived.Test.YtddbffoiadmffaaGreatGrBld0
namespace Go.Proofs.YtddbffoiadmffaaGreat
set_option maxHeartbeats 8000000
open Go.RowKit
set_option linter.unusedVariables false
set_option maxRecDepth 100000
theorem infoLs:(Tryz.prog.info? 43).map (fun i=>(i.zero,i.size,i.bytes))=some (some (.slice none 0 0),1,24):=by kernel_rfl
structure FinA (w0:World) (G:Nat→Prop) (w:World) (m:Nat) (L:List ME) (p:PX) (c:Int) (lx:Value) (n:Nat) (xs:List Value):Prop where
 out:∀w2 f1 f2,Touch (fun k=>lx.ownBlock=some k) w w2→w2.ownsRow w0.heap.size 43 1 (.slice f1 (n+1) f2) (n+1) xs→((Value.slice f1 (n+1) f2).ownBlock=lx.ownBlock∨∃g,(Value.slice f1 (n+1) f2).ownBlock=some g∧w.heap.size≤g)→PutTo w0 G w w2 m L p c (.slice f1 (n+1) f2)
theorem Quc {w:World} {base e k n:Nat} {v:Value} {xs:List Value} (h:w.ownsRow base e k v (n+1) xs):∃g,v.ownBlock=some g:=by
 rcases h.2 with⟨-,h0⟩|⟨g,cap,cur,rfl,-⟩
 ·omega
 ·exact⟨g,rfl⟩
theorem Qtq (w0 w:World) (G:Nat→Prop) (m:Nat) (L0:List ME) (Q:List MQ) (hQ:Q.map (·.e)=L0) (GM:MSG w0 G w m Q) (pa pb:Int) (c:Int) (hc0:0≤c) (ha:Option Addr) (hn hc:Nat) (hk:List HK) (hlen:∀q∈Q,q.e.hs.length≤1000000) (okp:(⟨pa,pb⟩:PX).Ok) (hp:plM L0 ⟨pa,pb⟩=none):Calls Tryz.prog 64 #[.map (some m),.agg #[.int .u32 pa,.int .u8 pb],.int .u32 c,.slice ha hn hc] w (AddP w0 G w m (L0++[⟨⟨pa,pb⟩,c,[(.slice ha hn hc,hk)]⟩])):=by
 have X:=GM.q
 have hT:=GM.t
 obtain⟨q,hq⟩:=Qsw ⟨pa,pb⟩ okp
 have hnk:∀y∈Q,y.e.p≠⟨pa,pb⟩:=fun y hy=>Qkp hp y.e (by rw [←hQ];exact List.mem_map.2 ⟨y,hy,rfl⟩)
 have hlook:=(X.am.keepN ((Touch.refl _ w).alloc (.cells #[.int .u32 pa,.int .u8 pb] 42))).miss kindX hq (fun x hx=>by
  obtain⟨y,hy,rfl⟩:=List.mem_map.1 hx
  exact fun e=>hnk y hy (PX.v_inj e))
 unfold PX.v at hlook
 have hc1:¬(c<0):=by omega
 obtain⟨la,hla⟩:∃la:Option Addr,la=none:=⟨_,rfl⟩
 obtain⟨N,hN⟩:∃N:Nat,N=0:=⟨_,rfl⟩
 obtain⟨lc,hlc⟩:∃lc:Nat,lc=0:=⟨_,rfl⟩
 obtain⟨cx,hcx⟩:∃cx:Int,cx=0:=⟨_,rfl⟩
 obtain⟨xs,hxs⟩:∃xs:List Value,xs=[]:=⟨_,rfl⟩
 have hz:(Value.slice none 0 0)=.slice la N lc:=by rw [hla,hN,hlc]
 have HFI:Hid (FinA w0 G w m (L0++[⟨⟨pa,pb⟩,c,[(.slice ha hn hc,hk)]⟩]) ⟨pa,pb⟩ c (.slice la N lc) N (xs++[.slice ha hn hc])):=by
  refine⟨fun w2 f1 f2 tg own hor=>?_⟩
  subst hla hN hlc hxs
  have tg':Touch (fun _=>False) w w2:=tg.mono (fun k _ e=>by cases e)
  refine Que hQ GM ⟨⟨pa,pb⟩,c,[(.slice ha hn hc,hk)]⟩ okp hnk tg' own ?_
  rcases hor with e|e
  ·obtain⟨g,hg⟩:=Quc own
   rw [hg] at e
   cases e
  ·exact e
 have HO1:Hid (∀w':World,w'.ownsRow w0.heap.size 43 1 (.slice la N lc) N xs):=by
  subst hla hN hlc hxs
  exact fun w'=>World.ownsRow_nil _ _ _ _
 have HLN:Hid (N≤1000000):=by show N≤1000000;rw [hN];exact Nat.zero_le _
 have HB5:Hid ((Value.slice la N lc).ownBlock≠some w.heap.size∧(Value.slice la N lc).ownBlock≠some (w.heap.size+1)):=by
  subst hla hN hlc
  exact⟨fun h=>(by cases h),fun h=>(by cases h)⟩
 have HBK:Hid ((Value.slice la N lc).ownBlock=(Value.slice la N lc).ownBlock):=rfl
 have TW:Touch (fun _=>False) w ((w.alloc (.cells #[.int .u32 pa,.int .u8 pb] 42)).alloc (.cells #[.int .u32 cx,.slice la N lc] 164)):=((Touch.refl _ w).alloc _).alloc _
 have R8:Row ((w.alloc (.cells #[.int .u32 pa,.int .u8 pb] 42)).alloc (.cells #[.int .u32 cx,.slice la N lc] 164)) (w.heap.size+1) 164 [.int .u32 cx,.slice la N lc]:=by have:=Qac (w.alloc (.cells #[.int .u32 pa,.int .u8 pb] 42)) 164 #[.int .u32 cx,.slice la N lc];rw [World.size_alloc] at this;exact this
 have R5:Row ((w.alloc (.cells #[.int .u32 pa,.int .u8 pb] 42)).alloc (.cells #[.int .u32 cx,.slice la N lc] 164)) w.heap.size 42 [.int .u32 pa,.int .u8 pb]:=Row.keep (Qac w 42 #[.int .u32 pa,.int .u8 pb]) ((Touch.refl _ _).alloc _)
 have HW0:Hid (w0.heap.size≤((w.alloc (.cells #[.int .u32 pa,.int .u8 pb] 42)).alloc (.cells #[.int .u32 cx,.slice la N lc] 164)).heap.size):=Nat.le_trans hT.size TW.size
 have HMB:Hid (m<w.heap.size∧m<w.heap.size+1):=⟨X.am.lt,Nat.lt_succ_of_lt X.am.lt⟩
 have HO:Hid (((w.alloc (.cells #[.int .u32 pa,.int .u8 pb] 42)).alloc (.cells #[.int .u32 cx,.slice la N lc] 164)).ownsRow w0.heap.size 43 1 (.slice la N lc) N xs):=HO1.out _
 have HTW:Hid (Touch (fun k=>(Value.slice la N lc).ownBlock=some k) w ((w.alloc (.cells #[.int .u32 pa,.int .u8 pb] 42)).alloc (.cells #[.int .u32 cx,.slice la N lc] 164))):=TW.mono (fun _ _ h=>h.elim)
 have HCX:Hid (0=cx):=hcx.symm
 have HZ:Hid ((Value.slice none 0 0)=.slice la N lc):=hz
 clear hla hN hlc hxs hcx hz hp hnk X GM hT hlen okp HO1 TW
 go_enter Tryz.func64,Tryz.ntmps64
 go_upto_region 5 with fail
 rw [HZ.out,HCX.out]
 clear hlook hc1 hc0 hq q HZ HCX
 generalize ((w.alloc (.cells #[.int .u32 pa,.int .u8 pb] 42)).alloc (.cells #[.int .u32 cx,.slice la N lc] 164))=wr at *
 generalize w.heap.size+1=b8 at *
 generalize hb5:w.heap.size=b5 at *
 obtain⟨i0,hi,hz0,hz1,hz2⟩:=info_parts infoLs
 have RA:Row (wr.drew.alloc (.cells #[.slice ha hn hc] 43)) wr.heap.size 43 [.slice ha hn hc]:=Qac wr.drew _ _
 have T1:Touch (fun _=>False) wr (wr.drew.alloc (.cells #[.slice ha hn hc] 43)):=((Touch.refl _ _).drew).alloc _
 have HOA:Hid ((wr.drew.alloc (.cells #[.slice ha hn hc] 43)).ownsRow w0.heap.size 43 1 (.slice la N lc) N xs):=Qab HO.out T1 (fun _ _ h=>h)
 have HNA:Hid (∀(j:Nat) u,([.slice ha hn hc]:List Value)[j]?=some u→(wr.drew.alloc (.cells #[.slice ha hn hc] 43)).cell? ((⟨wr.heap.size,0,none⟩:Addr).add j)=some u):=fun j u hj=>by rw [Qae,Nat.zero_add,RA.cell j];exact hj
 clear RA
 refine wp_region_held_drew (S:=fun w'=>Row w' b5 42 [.int .u32 pa,.int .u8 pb]∧Row w' b8 164 [.int .u32 cx,.slice la N lc]) (by kernel_rfl) ⟨R5.keep ((Touch.refl _ _).drew),R8.keep ((Touch.refl _ _).drew)⟩ (fun hHeld=>?_)
 refine wpAnyH_take (i:=0) (oi:=⟨some 31,_,_,_,_,_⟩) (v:=.map (some m)) rfl (by kernel_rfl) (by kernel_rfl) (by kernel_rfl) (fun _ _ _ h=>h) (Or.inl ⟨by rfl,fun w hw=>by go_simp⟩) (by assumption) ?_
 simp only [Act.put,Qw2,Qw3,Qw4]
 refine wpAnyH_take (i:=1) (oi:=⟨some 32,_,_,_,_,_⟩) (v:=.agg #[.int .u32 pa,.int .u8 pb]) rfl (by kernel_rfl) (by kernel_rfl) (by kernel_rfl) (fun _ _ _ h=>h) (yieldsIf_load_mid (by rfl) _ _ rfl _ _ rfl [.int .u32 pa,.int .u8 pb] _ (fun w h=>Qba h.1) Tryz.underlying42 rfl (by kernel_rfl)) (by assumption) ?_
 simp only [Act.put,Qw2,Qw3,Qw4]
 refine wpAnyH_take (i:=2) (oi:=⟨some 33,_,_,_,_,_⟩) (v:=.int .u32 c) rfl (by kernel_rfl) (by kernel_rfl) (by kernel_rfl) (fun _ _ _ h=>h) (Or.inl ⟨by rfl,fun w hw=>by go_simp⟩) (by assumption) ?_
 simp only [Act.put,Qw2,Qw3,Qw4]
 refine wpAnyH_take (i:=3) (oi:=⟨some 34,_,_,_,_,_⟩) (v:=.pointer (some ⟨b8,1,none⟩)) rfl (by kernel_rfl) (by kernel_rfl) (by kernel_rfl) (fun _ _ _ h=>h) (Or.inl ⟨by rfl,fun w hw=>by go_simp⟩) (by assumption) ?_
 simp only [Act.put,Qw2,Qw3,Qw4]
 refine wpAnyH_take (i:=4) (oi:=⟨some 35,_,_,_,_,_⟩) (v:=.slice la N lc) rfl (by kernel_rfl) (by kernel_rfl) (by kernel_rfl) (fun _ _ _ h=>h) (Or.inl ⟨by rfl,fun w hw=>by have c1:w.cell? ⟨b8,1,none⟩=some (.slice la N lc):=hw.2.cell 1;go_simp⟩) (by assumption) ?_
 simp only [Act.put,Qw2,Qw3,Qw4]
 refine wpAnyH_take (i:=5) (oi:=⟨some 36,_,_,_,_,_⟩) (v:=.slice ha hn hc) rfl (by kernel_rfl) (by kernel_rfl) (by kernel_rfl) (fun _ _ _ h=>h) (Or.inl ⟨by rfl,fun w hw=>by go_simp⟩) (by assumption) ?_
 simp only [Act.put,Qw2,Qw3,Qw4]
 refine wpAnyH_ready (rs:=[6]) (by kernel_rfl) (by simp) ?_
 refine AllReadyH.cons (o:=⟨some 37,_,_,_,_,_⟩) rfl (fun K hK=>?_) AllReadyH.nil
 go_simp
 refine hK.out _ _ ⟨R5.keep T1,R8.keep T1⟩ (fun hHeld=>?_)
 clear hK K
 refine wpAnyH_ready (rs:=[7]) (by kernel_rfl) (by simp) ?_
 refine AllReadyH.cons (o:=⟨some 38,_,_,_,_,_⟩) rfl (fun K hK=>?_) AllReadyH.nil
 refine Qbc (by rfl) (.tmp 35) (.tmp 37) 99 (by rfl) w0.heap.size 43 i0 (.slice none 0 0) 1 24 Tryz.underlying99 hi hz0 hz1 hz2 rfl (by omega) (.slice la N lc) N xs (by rfl) HOA.out ⟨wr.heap.size,0,none⟩ 1 1 [.slice ha hn hc] (by rfl) rfl HNA.out (by intro u hu;simp at hu;rw [hu];rfl) (by have:=HLN.out;unfold maxLen;omega) (by have:=HLN.out;omega) (by have:=HW0.out;simp;omega) ?_
 intro v' w' hown hgr hor
 simp only [Act.put,Qw2,Qw3,Qw4]
 have TG:Touch (fun k=>(Value.slice la N lc).ownBlock=some k) (wr.drew.alloc (.cells #[.slice ha hn hc] 43)) w':=(Touch.refl _ _).grown hgr (fun k hk=>Or.inl hk)
 have n5:¬(Value.slice la N lc).ownBlock=some b5:=fun e=>HB5.out.1 e
 have n8:¬(Value.slice la N lc).ownBlock=some b8:=fun e=>HB5.out.2 e
 refine hK.out _ _ ⟨Qad (R5.keep T1) TG n5,Qad (R8.keep T1) TG n8⟩ (fun hHeld=>?_)
 clear hK K
 have Q5:=Qad (R5.keep T1) TG n5
 have Q8:=Qad (R8.keep T1) TG n8
 obtain⟨f1,f2,rfl⟩:=Qah hown
 obtain⟨w3,hput,HAP,HTM0⟩:=HFI.out.out w' f1 f2 (HTW.out.trans ((T1.mono (fun _ _ h=>h.elim)).trans (TG.mono (fun k _ e=>HBK.out.trans e)))) hown (hor.elim (fun e=>Or.inl (e.trans HBK.out.symm)) (fun e=>Or.inr ⟨_,e,Nat.le_trans HTW.out.size T1.size⟩))
 have HAH:Hid _:=HAP
 have HTM:Hid (Touch (fun k=>k=m) w' w3):=HTM0
 clear HAP HTM0 HFI hown hgr hor TG HOA HNA HO
 refine wpAnyH_take (i:=8) (oi:=⟨some 39,_,_,_,_,_⟩) (v:=.agg #[.int .u32 c,.slice f1 (N+1) f2]) rfl (by kernel_rfl) (by kernel_rfl) (by kernel_rfl) (fun _ _ _ h=>h) (Or.inl ⟨by rfl,fun w hw=>by go_simp⟩) (by assumption) ?_
 simp only [Act.put,Qw2,Qw3,Qw4]
 refine wpAnyH_ready (rs:=[9]) (by kernel_rfl) (by simp) ?_
 refine AllReadyH.cons (o:=⟨none,_,_,_,_,_⟩) rfl (fun K hK=>?_) AllReadyH.nil
 go_simp
 refine hK.out _ _ ⟨Qad Q5 HTM.out (fun h=>by have:=HMB.out;omega),Qad Q8 HTM.out (fun h=>by have:=HMB.out;omega)⟩ (fun hHeld=>?_)
 clear hK K hput Q5 Q8 R5 R8
 refine wpAnyH_done (by kernel_rfl) ?_ _
 go_wp2_with fail
 exact bodyPost_end (results_none rfl _ _ _) rfl HAH.out
theorem Qv3 (w0 w:World) (G:Nat→Prop) (m:Nat) (L0:List ME) (Q:List MQ) (hQ:Q.map (·.e)=L0) (GM:MSG w0 G w m Q) (pa pb:Int) (c:Int) (hc0:0≤c) (ha:Option Addr) (hn hc:Nat) (hk:List HK) (hlen:∀q∈Q,q.e.hs.length≤1000000) {j:Nat} {q:MQ} (hq:Q[j]?=some q) (hqp:q.e.p=⟨pa,pb⟩) (hcc:q.e.cost<c):Calls Tryz.prog 64 #[.map (some m),.agg #[.int .u32 pa,.int .u8 pb],.int .u32 c,.slice ha hn hc] w (AddP w0 G w m L0):=by
 have X:=GM.q
 have hT:=GM.t
 have hmq:q∈Q:=List.mem_of_getElem? hq
 have hlook:=(X.am.keepN ((Touch.refl _ w).alloc (.cells #[.int .u32 pa,.int .u8 pb] 42))).hit kindX (j:=j) (k:=.agg #[.int .u32 pa,.int .u8 pb]) (v:=.agg #[.int .u32 q.e.cost,q.lv]) (by rw [List.getElem?_map,hq];show some (q.e.p.v,_)=_;rw [hqp];rfl)
 have HRW:Hid (LsB w0.heap.size w q.lv q.e.hs):=X.row q hmq
 generalize q.e.cost=cx at *
 obtain⟨la,lc,elv⟩:=Qah HRW.out
 rw [elv] at hlook
 have TW:Touch (fun _=>False) w ((w.alloc (.cells #[.int .u32 pa,.int .u8 pb] 42)).alloc (.cells #[.int .u32 cx,.slice la q.e.hs.length lc] 164)):=((Touch.refl _ w).alloc _).alloc _
 have HF:Hid (AddP w0 G w m L0 (.returned (.tuple #[])) ((w.alloc (.cells #[.int .u32 pa,.int .u8 pb] 42)).alloc (.cells #[.int .u32 cx,.slice la q.e.hs.length lc] 164))):=⟨rfl,MS.keep ⟨Q,hQ,GM⟩ TW,TW.mono (fun _ _ h=>h.elim)⟩
 clear X GM hT hlen TW elv HRW hmq
 go_enter Tryz.func64,Tryz.ntmps64
 go_wp2_with fail
 exact bodyPost_end (results_none rfl _ _ _) rfl HF.out
theorem Qwr (w0 w:World) (G:Nat→Prop) (m:Nat) (L0:List ME) (Q:List MQ) (hQ:Q.map (·.e)=L0) (GM:MSG w0 G w m Q) (pa pb:Int) (c:Int) (hc0:0≤c) (ha:Option Addr) (hn hc:Nat) (hk:List HK) (hlen:∀q∈Q,q.e.hs.length≤1000000) {j:Nat} {q:MQ} (hq:Q[j]?=some q) (hqp:q.e.p=⟨pa,pb⟩) (hcc:q.e.cost=c):Calls Tryz.prog 64 #[.map (some m),.agg #[.int .u32 pa,.int .u8 pb],.int .u32 c,.slice ha hn hc] w (AddP w0 G w m (L0.set j ⟨⟨pa,pb⟩,c,q.e.hs++[(.slice ha hn hc,hk)]⟩)):=by
 have X:=GM.q
 have hT:=GM.t
 have hmq:q∈Q:=List.mem_of_getElem? hq
 have hlook:=(X.am.keepN ((Touch.refl _ w).alloc (.cells #[.int .u32 pa,.int .u8 pb] 42))).hit kindX (j:=j) (k:=.agg #[.int .u32 pa,.int .u8 pb]) (v:=.agg #[.int .u32 q.e.cost,q.lv]) (by rw [List.getElem?_map,hq];show some (q.e.p.v,_)=_;rw [hqp];rfl)
 have HRW:Hid (LsB w0.heap.size w q.lv q.e.hs):=X.row q hmq
 obtain⟨la,lc,elv⟩:=Qah HRW.out
 rw [elv] at hlook
 have HBK:Hid (q.lv.ownBlock=(Value.slice la q.e.hs.length lc).ownBlock):=by show _=_;rw [elv]
 have HFI:Hid (FinA w0 G w m (L0.set j ⟨⟨pa,pb⟩,c,q.e.hs++[(.slice ha hn hc,hk)]⟩) ⟨pa,pb⟩ c q.lv q.e.hs.length (q.e.hs.map Prod.fst++[.slice ha hn hc])):=by
  refine⟨fun w2 f1 f2 tg own hor=>?_⟩
  refine Qmn hQ GM hq rfl ⟨⟨pa,pb⟩,c,q.e.hs++[(.slice ha hn hc,hk)]⟩ hqp.symm tg ?_ hor
  show w2.ownsRow _ _ _ _ (q.e.hs++[(Value.slice ha hn hc,hk)]).length ((q.e.hs++[(Value.slice ha hn hc,hk)]).map Prod.fst)
  rw [List.length_append,List.map_append]
  exact own
 have HLN:Hid (q.e.hs.length≤1000000):=hlen q hmq
 have HRL:=HRW.out
 rw [elv] at HRL
 have HB5:Hid ((Value.slice la q.e.hs.length lc).ownBlock≠some w.heap.size∧(Value.slice la q.e.hs.length lc).ownBlock≠some (w.heap.size+1)):=⟨fun h=>by have:=(HRL.lt _ h).2;omega,fun h=>by have:=(HRL.lt _ h).2;omega⟩
 have HRL':Hid (w.ownsRow w0.heap.size 43 1 (.slice la q.e.hs.length lc) q.e.hs.length (q.e.hs.map Prod.fst)):=HRL
 generalize q.e.hs.map Prod.fst=xs at *
 generalize q.e.hs.length=N at *
 generalize q.e.cost=cx at *
 subst hcc
 have hc1:¬(cx<cx):=by omega
 have TW:Touch (fun _=>False) w ((w.alloc (.cells #[.int .u32 pa,.int .u8 pb] 42)).alloc (.cells #[.int .u32 cx,.slice la N lc] 164)):=((Touch.refl _ w).alloc _).alloc _
 have R8:Row ((w.alloc (.cells #[.int .u32 pa,.int .u8 pb] 42)).alloc (.cells #[.int .u32 cx,.slice la N lc] 164)) (w.heap.size+1) 164 [.int .u32 cx,.slice la N lc]:=by have:=Qac (w.alloc (.cells #[.int .u32 pa,.int .u8 pb] 42)) 164 #[.int .u32 cx,.slice la N lc];rw [World.size_alloc] at this;exact this
 have R5:Row ((w.alloc (.cells #[.int .u32 pa,.int .u8 pb] 42)).alloc (.cells #[.int .u32 cx,.slice la N lc] 164)) w.heap.size 42 [.int .u32 pa,.int .u8 pb]:=Row.keep (Qac w 42 #[.int .u32 pa,.int .u8 pb]) ((Touch.refl _ _).alloc _)
 have HW0:Hid (w0.heap.size≤((w.alloc (.cells #[.int .u32 pa,.int .u8 pb] 42)).alloc (.cells #[.int .u32 cx,.slice la N lc] 164)).heap.size):=Nat.le_trans hT.size TW.size
 have HMB:Hid (m<w.heap.size∧m<w.heap.size+1):=⟨X.am.lt,Nat.lt_succ_of_lt X.am.lt⟩
 have HO:Hid (((w.alloc (.cells #[.int .u32 pa,.int .u8 pb] 42)).alloc (.cells #[.int .u32 cx,.slice la N lc] 164)).ownsRow w0.heap.size 43 1 (.slice la N lc) N xs):=Qab HRL'.out TW (fun _ _ h=>h)
 generalize hqlv:q.lv=ql at *
 have HQL:Hid (ql=.slice la N lc):=elv
 have HTW:Hid (Touch (fun k=>ql.ownBlock=some k) w ((w.alloc (.cells #[.int .u32 pa,.int .u8 pb] 42)).alloc (.cells #[.int .u32 cx,.slice la N lc] 164))):=TW.mono (fun _ _ h=>h.elim)
 clear hqlv
 clear X GM hT hlen TW elv HRW hmq HRL HRL' hqp hq HQL
 go_enter Tryz.func64,Tryz.ntmps64
 go_upto_region 5 with fail
 clear hlook hc1 hc0
 generalize ((w.alloc (.cells #[.int .u32 pa,.int .u8 pb] 42)).alloc (.cells #[.int .u32 cx,.slice la N lc] 164))=wr at *
 generalize w.heap.size+1=b8 at *
 generalize hb5:w.heap.size=b5 at *
 obtain⟨i0,hi,hz0,hz1,hz2⟩:=info_parts infoLs
 have RA:Row (wr.drew.alloc (.cells #[.slice ha hn hc] 43)) wr.heap.size 43 [.slice ha hn hc]:=Qac wr.drew _ _
 have T1:Touch (fun _=>False) wr (wr.drew.alloc (.cells #[.slice ha hn hc] 43)):=((Touch.refl _ _).drew).alloc _
 have HOA:Hid ((wr.drew.alloc (.cells #[.slice ha hn hc] 43)).ownsRow w0.heap.size 43 1 (.slice la N lc) N xs):=Qab HO.out T1 (fun _ _ h=>h)
 have HNA:Hid (∀(j:Nat) u,([.slice ha hn hc]:List Value)[j]?=some u→(wr.drew.alloc (.cells #[.slice ha hn hc] 43)).cell? ((⟨wr.heap.size,0,none⟩:Addr).add j)=some u):=fun j u hj=>by rw [Qae,Nat.zero_add,RA.cell j];exact hj
 clear RA
 refine wp_region_held_drew (S:=fun w'=>Row w' b5 42 [.int .u32 pa,.int .u8 pb]∧Row w' b8 164 [.int .u32 cx,.slice la N lc]) (by kernel_rfl) ⟨R5.keep ((Touch.refl _ _).drew),R8.keep ((Touch.refl _ _).drew)⟩ (fun hHeld=>?_)
 refine wpAnyH_take (i:=0) (oi:=⟨some 31,_,_,_,_,_⟩) (v:=.map (some m)) rfl (by kernel_rfl) (by kernel_rfl) (by kernel_rfl) (fun _ _ _ h=>h) (Or.inl ⟨by rfl,fun w hw=>by go_simp⟩) (by assumption) ?_
 simp only [Act.put,Qw2,Qw3,Qw4]
 refine wpAnyH_take (i:=1) (oi:=⟨some 32,_,_,_,_,_⟩) (v:=.agg #[.int .u32 pa,.int .u8 pb]) rfl (by kernel_rfl) (by kernel_rfl) (by kernel_rfl) (fun _ _ _ h=>h) (yieldsIf_load_mid (by rfl) _ _ rfl _ _ rfl [.int .u32 pa,.int .u8 pb] _ (fun w h=>Qba h.1) Tryz.underlying42 rfl (by kernel_rfl)) (by assumption) ?_
 simp only [Act.put,Qw2,Qw3,Qw4]
 refine wpAnyH_take (i:=2) (oi:=⟨some 33,_,_,_,_,_⟩) (v:=.int .u32 cx) rfl (by kernel_rfl) (by kernel_rfl) (by kernel_rfl) (fun _ _ _ h=>h) (Or.inl ⟨by rfl,fun w hw=>by go_simp⟩) (by assumption) ?_
 simp only [Act.put,Qw2,Qw3,Qw4]
 refine wpAnyH_take (i:=3) (oi:=⟨some 34,_,_,_,_,_⟩) (v:=.pointer (some ⟨b8,1,none⟩)) rfl (by kernel_rfl) (by kernel_rfl) (by kernel_rfl) (fun _ _ _ h=>h) (Or.inl ⟨by rfl,fun w hw=>by go_simp⟩) (by assumption) ?_
 simp only [Act.put,Qw2,Qw3,Qw4]
 refine wpAnyH_take (i:=4) (oi:=⟨some 35,_,_,_,_,_⟩) (v:=.slice la N lc) rfl (by kernel_rfl) (by kernel_rfl) (by kernel_rfl) (fun _ _ _ h=>h) (Or.inl ⟨by rfl,fun w hw=>by have c1:w.cell? ⟨b8,1,none⟩=some (.slice la N lc):=hw.2.cell 1;go_simp⟩) (by assumption) ?_
 simp only [Act.put,Qw2,Qw3,Qw4]
 refine wpAnyH_take (i:=5) (oi:=⟨some 36,_,_,_,_,_⟩) (v:=.slice ha hn hc) rfl (by kernel_rfl) (by kernel_rfl) (by kernel_rfl) (fun _ _ _ h=>h) (Or.inl ⟨by rfl,fun w hw=>by go_simp⟩) (by assumption) ?_
 simp only [Act.put,Qw2,Qw3,Qw4]
 refine wpAnyH_ready (rs:=[6]) (by kernel_rfl) (by simp) ?_
 refine AllReadyH.cons (o:=⟨some 37,_,_,_,_,_⟩) rfl (fun K hK=>?_) AllReadyH.nil
 go_simp
 refine hK.out _ _ ⟨R5.keep T1,R8.keep T1⟩ (fun hHeld=>?_)
 clear hK K
 refine wpAnyH_ready (rs:=[7]) (by kernel_rfl) (by simp) ?_
 refine AllReadyH.cons (o:=⟨some 38,_,_,_,_,_⟩) rfl (fun K hK=>?_) AllReadyH.nil
 refine Qbc (by rfl) (.tmp 35) (.tmp 37) 99 (by rfl) w0.heap.size 43 i0 (.slice none 0 0) 1 24 Tryz.underlying99 hi hz0 hz1 hz2 rfl (by omega) (.slice la N lc) N xs (by rfl) HOA.out ⟨wr.heap.size,0,none⟩ 1 1 [.slice ha hn hc] (by rfl) rfl HNA.out (by intro u hu;simp at hu;rw [hu];rfl) (by have:=HLN.out;unfold maxLen;omega) (by have:=HLN.out;omega) (by have:=HW0.out;simp;omega) ?_
 intro v' w' hown hgr hor
 simp only [Act.put,Qw2,Qw3,Qw4]
 have TG:Touch (fun k=>(Value.slice la N lc).ownBlock=some k) (wr.drew.alloc (.cells #[.slice ha hn hc] 43)) w':=(Touch.refl _ _).grown hgr (fun k hk=>Or.inl hk)
 have n5:¬(Value.slice la N lc).ownBlock=some b5:=fun e=>HB5.out.1 e
 have n8:¬(Value.slice la N lc).ownBlock=some b8:=fun e=>HB5.out.2 e
 refine hK.out _ _ ⟨Qad (R5.keep T1) TG n5,Qad (R8.keep T1) TG n8⟩ (fun hHeld=>?_)
 clear hK K
 have Q5:=Qad (R5.keep T1) TG n5
 have Q8:=Qad (R8.keep T1) TG n8
 obtain⟨f1,f2,rfl⟩:=Qah hown
 obtain⟨w3,hput,HAP,HTM0⟩:=HFI.out.out w' f1 f2 (HTW.out.trans ((T1.mono (fun _ _ h=>h.elim)).trans (TG.mono (fun k _ e=>HBK.out.trans e)))) hown (hor.elim (fun e=>Or.inl (e.trans HBK.out.symm)) (fun e=>Or.inr ⟨_,e,Nat.le_trans HTW.out.size T1.size⟩))
 have HAH:Hid _:=HAP
 have HTM:Hid (Touch (fun k=>k=m) w' w3):=HTM0
 clear HAP HTM0 HFI hown hgr hor TG HOA HNA HO
 refine wpAnyH_take (i:=8) (oi:=⟨some 39,_,_,_,_,_⟩) (v:=.agg #[.int .u32 cx,.slice f1 (N+1) f2]) rfl (by kernel_rfl) (by kernel_rfl) (by kernel_rfl) (fun _ _ _ h=>h) (Or.inl ⟨by rfl,fun w hw=>by go_simp⟩) (by assumption) ?_
 simp only [Act.put,Qw2,Qw3,Qw4]
 refine wpAnyH_ready (rs:=[9]) (by kernel_rfl) (by simp) ?_
 refine AllReadyH.cons (o:=⟨none,_,_,_,_,_⟩) rfl (fun K hK=>?_) AllReadyH.nil
 go_simp
 refine hK.out _ _ ⟨Qad Q5 HTM.out (fun h=>by have:=HMB.out;omega),Qad Q8 HTM.out (fun h=>by have:=HMB.out;omega)⟩ (fun hHeld=>?_)
 clear hK K hput Q5 Q8 R5 R8
 refine wpAnyH_done (by kernel_rfl) ?_ _
 go_wp2_with fail
 exact bodyPost_end (results_none rfl _ _ _) rfl HAH.out
theorem Qv9 (w0 w:World) (G:Nat→Prop) (m:Nat) (L0:List ME) (Q:List MQ) (hQ:Q.map (·.e)=L0) (GM:MSG w0 G w m Q) (pa pb:Int) (c:Int) (hc0:0≤c) (ha:Option Addr) (hn hc:Nat) (hk:List HK) (hlen:∀q∈Q,q.e.hs.length≤1000000) {j:Nat} {q:MQ} (hq:Q[j]?=some q) (hqp:q.e.p=⟨pa,pb⟩) (hcc:c<q.e.cost):Calls Tryz.prog 64 #[.map (some m),.agg #[.int .u32 pa,.int .u8 pb],.int .u32 c,.slice ha hn hc] w (AddP w0 G w m (L0.set j ⟨⟨pa,pb⟩,c,[(.slice ha hn hc,hk)]⟩)):=by
 have X:=GM.q
 have hT:=GM.t
 have hmq:q∈Q:=List.mem_of_getElem? hq
 have hlook:=(X.am.keepN ((Touch.refl _ w).alloc (.cells #[.int .u32 pa,.int .u8 pb] 42))).hit kindX (j:=j) (k:=.agg #[.int .u32 pa,.int .u8 pb]) (v:=.agg #[.int .u32 q.e.cost,q.lv]) (by rw [List.getElem?_map,hq];show some (q.e.p.v,_)=_;rw [hqp];rfl)
 have HRW:Hid (LsB w0.heap.size w q.lv q.e.hs):=X.row q hmq
 obtain⟨ya,yc,elv⟩:=Qah HRW.out
 rw [elv] at hlook
 have HFI:Hid (FinA w0 G w m (L0.set j ⟨⟨pa,pb⟩,c,[(.slice ha hn hc,hk)]⟩) ⟨pa,pb⟩ c q.lv 0 ([]++[.slice ha hn hc])):=by
  refine⟨fun w2 f1 f2 tg own hor=>?_⟩
  exact Qmn hQ GM hq rfl ⟨⟨pa,pb⟩,c,[(.slice ha hn hc,hk)]⟩ hqp.symm tg own hor
 have HRL:=HRW.out
 rw [elv] at HRL
 have HB5':Hid (∀k,q.lv.ownBlock=some k→k<w.heap.size):=fun k h=>(HRW.out.lt k h).2
 have TW:Touch (fun _=>False) w ((w.alloc (.cells #[.int .u32 pa,.int .u8 pb] 42)).alloc (.cells #[.int .u32 q.e.cost,.slice ya q.e.hs.length yc] 164)):=((Touch.refl _ w).alloc _).alloc _
 have HEM:Hid (LsB w0.heap.size ((w.alloc (.cells #[.int .u32 pa,.int .u8 pb] 42)).alloc (.cells #[.int .u32 q.e.cost,.slice ya q.e.hs.length yc] 164)) (.slice ya q.e.hs.length yc) q.e.hs):=Qab HRL TW (fun _ _ h=>h)
 have HE0:=Qm1 w0.heap.size _ _ _ HEM.out
 have HE:Calls Tryz.prog 39 #[.slice ya q.e.hs.length yc] ((w.alloc (.cells #[.int .u32 pa,.int .u8 pb] 42)).alloc (.cells #[.int .u32 q.e.cost,.slice ya q.e.hs.length yc] 164)) fun e w'=>∃la lc N xs,e=.returned (.slice la N lc)∧w'.ownsRow w0.heap.size 43 1 (.slice la N lc) N xs∧(Value.slice la N lc).ownBlock=q.lv.ownBlock∧Touch (fun k=>q.lv.ownBlock=some k) ((w.alloc (.cells #[.int .u32 pa,.int .u8 pb] 42)).alloc (.cells #[.int .u32 q.e.cost,.slice ya q.e.hs.length yc] 164)) w'∧FinA w0 G w m (L0.set j ⟨⟨pa,pb⟩,c,[(.slice ha hn hc,hk)]⟩) ⟨pa,pb⟩ c q.lv N (xs++[.slice ha hn hc])∧N≤1000000:=by
  refine Calls.mono HE0 ?_
  rintro e w' ⟨v',rfl,o,hb,t⟩
  obtain⟨la,lc,rfl⟩:=Qah o
  rw [←elv] at hb
  exact⟨la,lc,0,[],rfl,o,hb,t.mono (fun k _ h=>by rw [elv];exact h),HFI.out,by omega⟩
 clear HE0 HFI
 generalize q.e.hs.length=K at *
 generalize q.e.cost=cx at *
 generalize q.lv=ql at *
 have R8:Row ((w.alloc (.cells #[.int .u32 pa,.int .u8 pb] 42)).alloc (.cells #[.int .u32 cx,.slice ya K yc] 164)) (w.heap.size+1) 164 [.int .u32 cx,.slice ya K yc]:=by have:=Qac (w.alloc (.cells #[.int .u32 pa,.int .u8 pb] 42)) 164 #[.int .u32 cx,.slice ya K yc];rw [World.size_alloc] at this;exact this
 have R5:Row ((w.alloc (.cells #[.int .u32 pa,.int .u8 pb] 42)).alloc (.cells #[.int .u32 cx,.slice ya K yc] 164)) w.heap.size 42 [.int .u32 pa,.int .u8 pb]:=Row.keep (Qac w 42 #[.int .u32 pa,.int .u8 pb]) ((Touch.refl _ _).alloc _)
 have HW00:Hid (w0.heap.size≤w.heap.size):=hT.size
 have HMB:Hid (m<w.heap.size∧m<w.heap.size+1):=⟨X.am.lt,Nat.lt_succ_of_lt X.am.lt⟩
 have HTW0:Hid (Touch (fun _=>False) w ((w.alloc (.cells #[.int .u32 pa,.int .u8 pb] 42)).alloc (.cells #[.int .u32 cx,.slice ya K yc] 164))):=TW
 have hc1:¬(cx<c):=by omega
 clear X GM hT hlen TW elv HRW hmq HRL hqp hq HEM
 go_enter Tryz.func64,Tryz.ntmps64
 go_upto_region 4 with fail
 clear hlook hc1
 generalize hwA:((w.alloc (.cells #[.int .u32 pa,.int .u8 pb] 42)).alloc (.cells #[.int .u32 cx,.slice ya K yc] 164))=wA at *
 clear hwA
 have HR8:Hid (Row wA (w.heap.size+1) 164 [.int .u32 cx,.slice ya K yc]):=R8
 have HR5:Hid (Row wA w.heap.size 42 [.int .u32 pa,.int .u8 pb]):=R5
 have c81:wA.cell? ⟨w.heap.size+1,1,none⟩=some (.slice ya K yc):=R8.cell 1
 have hcc':¬(cx<c):=by omega
 clear R8 R5
 go_upto_region 5 with (first|refine HE.mono ?_;rintro e w2 ⟨la,lc,N,xs,rfl,own2,hb2,t2,hfi,hnl⟩;have HO2:Hid (w2.ownsRow w0.heap.size 43 1 (.slice la N lc) N xs):=own2;have HT2:Hid (Touch (fun k=>ql.ownBlock=some k) wA w2):=t2;have HFI:Hid (FinA w0 G w m (L0.set j ⟨⟨pa,pb⟩,c,[(.slice ha hn hc,hk)]⟩) ⟨pa,pb⟩ c ql N (xs++[.slice ha hn hc])):=hfi;have HLN:Hid (N≤1000000):=hnl;have HBK:Hid (ql.ownBlock=(Value.slice la N lc).ownBlock):=hb2.symm;have HR82:Hid (Row w2 (w.heap.size+1) 164 [.int .u32 cx,.slice ya K yc]):=Qad HR8.out t2 (fun h=>by have:=HB5'.out _ h;omega);have HR52:Hid (Row w2 w.heap.size 42 [.int .u32 pa,.int .u8 pb]):=Qad HR5.out t2 (fun h=>by have:=HB5'.out _ h;omega);have c82:=HR82.out.cell 1;have f82:=HR82.out.frozen 1;have l82:=HR82.out.lt;simp only [List.getElem?_cons_zero,List.getElem?_cons_succ] at c82;clear own2 hb2 t2 hfi hnl c81)
 clear HE c82 f82 l82
 have HB5:Hid ((Value.slice la N lc).ownBlock≠some w.heap.size∧(Value.slice la N lc).ownBlock≠some (w.heap.size+1)):=⟨fun h=>by have:=HB5'.out _ (HBK.out.trans h);omega,fun h=>by have:=HB5'.out _ (HBK.out.trans h);omega⟩
 have T3:Touch (fun k=>k=w.heap.size+1) w2 (w2.setCell ⟨w.heap.size+1,1,none⟩ (.slice la N lc)):=Touch.setCell (F:=fun k=>k=w.heap.size+1) (Touch.refl _ _) (p:=⟨w.heap.size+1,1,none⟩) (Or.inl rfl) _
 have HTW:Hid (Touch (fun k=>ql.ownBlock=some k) w (w2.setCell ⟨w.heap.size+1,1,none⟩ (.slice la N lc))):=((HTW0.out.mono (fun _ _ h=>h.elim)).trans HT2.out).trans' T3 (fun i hi h=>by omega)
 have HO:Hid ((w2.setCell ⟨w.heap.size+1,1,none⟩ (.slice la N lc)).ownsRow w0.heap.size 43 1 (.slice la N lc) N xs):=Qab HO2.out T3 (fun k hk h=>HB5.out.2 (h ▸ hk))
 have R8:Row (w2.setCell ⟨w.heap.size+1,1,none⟩ (.slice la N lc)) (w.heap.size+1) 164 [.int .u32 cx,.slice la N lc]:=HR82.out.set 1 _
 have R5:Row (w2.setCell ⟨w.heap.size+1,1,none⟩ (.slice la N lc)) w.heap.size 42 [.int .u32 pa,.int .u8 pb]:=Qad HR52.out T3 (fun h=>by omega)
 have HW0:Hid (w0.heap.size≤(w2.setCell ⟨w.heap.size+1,1,none⟩ (.slice la N lc)).heap.size):=Nat.le_trans HW00.out HTW.out.size
 clear T3 HO2 HT2 HR82 HR52 HR8 HR5 HTW0 HB5' HW00 hcc'
 generalize w2.setCell ⟨w.heap.size+1,1,none⟩ (.slice la N lc)=wr at *
 generalize w.heap.size+1=b8 at *
 generalize hb5:w.heap.size=b5 at *
 obtain⟨i0,hi,hz0,hz1,hz2⟩:=info_parts infoLs
 have RA:Row (wr.drew.alloc (.cells #[.slice ha hn hc] 43)) wr.heap.size 43 [.slice ha hn hc]:=Qac wr.drew _ _
 have T1:Touch (fun _=>False) wr (wr.drew.alloc (.cells #[.slice ha hn hc] 43)):=((Touch.refl _ _).drew).alloc _
 have HOA:Hid ((wr.drew.alloc (.cells #[.slice ha hn hc] 43)).ownsRow w0.heap.size 43 1 (.slice la N lc) N xs):=Qab HO.out T1 (fun _ _ h=>h)
 have HNA:Hid (∀(j:Nat) u,([.slice ha hn hc]:List Value)[j]?=some u→(wr.drew.alloc (.cells #[.slice ha hn hc] 43)).cell? ((⟨wr.heap.size,0,none⟩:Addr).add j)=some u):=fun j u hj=>by rw [Qae,Nat.zero_add,RA.cell j];exact hj
 clear RA
 refine wp_region_held_drew (S:=fun w'=>Row w' b5 42 [.int .u32 pa,.int .u8 pb]∧Row w' b8 164 [.int .u32 cx,.slice la N lc]) (by kernel_rfl) ⟨R5.keep ((Touch.refl _ _).drew),R8.keep ((Touch.refl _ _).drew)⟩ (fun hHeld=>?_)
 refine wpAnyH_take (i:=0) (oi:=⟨some 31,_,_,_,_,_⟩) (v:=.map (some m)) rfl (by kernel_rfl) (by kernel_rfl) (by kernel_rfl) (fun _ _ _ h=>h) (Or.inl ⟨by rfl,fun w hw=>by go_simp⟩) (by assumption) ?_
 simp only [Act.put,Qw2,Qw3,Qw4]
 refine wpAnyH_take (i:=1) (oi:=⟨some 32,_,_,_,_,_⟩) (v:=.agg #[.int .u32 pa,.int .u8 pb]) rfl (by kernel_rfl) (by kernel_rfl) (by kernel_rfl) (fun _ _ _ h=>h) (yieldsIf_load_mid (by rfl) _ _ rfl _ _ rfl [.int .u32 pa,.int .u8 pb] _ (fun w h=>Qba h.1) Tryz.underlying42 rfl (by kernel_rfl)) (by assumption) ?_
 simp only [Act.put,Qw2,Qw3,Qw4]
 refine wpAnyH_take (i:=2) (oi:=⟨some 33,_,_,_,_,_⟩) (v:=.int .u32 c) rfl (by kernel_rfl) (by kernel_rfl) (by kernel_rfl) (fun _ _ _ h=>h) (Or.inl ⟨by rfl,fun w hw=>by go_simp⟩) (by assumption) ?_
 simp only [Act.put,Qw2,Qw3,Qw4]
 refine wpAnyH_take (i:=3) (oi:=⟨some 34,_,_,_,_,_⟩) (v:=.pointer (some ⟨b8,1,none⟩)) rfl (by kernel_rfl) (by kernel_rfl) (by kernel_rfl) (fun _ _ _ h=>h) (Or.inl ⟨by rfl,fun w hw=>by go_simp⟩) (by assumption) ?_
 simp only [Act.put,Qw2,Qw3,Qw4]
 refine wpAnyH_take (i:=4) (oi:=⟨some 35,_,_,_,_,_⟩) (v:=.slice la N lc) rfl (by kernel_rfl) (by kernel_rfl) (by kernel_rfl) (fun _ _ _ h=>h) (Or.inl ⟨by rfl,fun w hw=>by have c1:w.cell? ⟨b8,1,none⟩=some (.slice la N lc):=hw.2.cell 1;go_simp⟩) (by assumption) ?_
 simp only [Act.put,Qw2,Qw3,Qw4]
 refine wpAnyH_take (i:=5) (oi:=⟨some 36,_,_,_,_,_⟩) (v:=.slice ha hn hc) rfl (by kernel_rfl) (by kernel_rfl) (by kernel_rfl) (fun _ _ _ h=>h) (Or.inl ⟨by rfl,fun w hw=>by go_simp⟩) (by assumption) ?_
 simp only [Act.put,Qw2,Qw3,Qw4]
 refine wpAnyH_ready (rs:=[6]) (by kernel_rfl) (by simp) ?_
 refine AllReadyH.cons (o:=⟨some 37,_,_,_,_,_⟩) rfl (fun K hK=>?_) AllReadyH.nil
 go_simp
 refine hK.out _ _ ⟨R5.keep T1,R8.keep T1⟩ (fun hHeld=>?_)
 clear hK K
 refine wpAnyH_ready (rs:=[7]) (by kernel_rfl) (by simp) ?_
 refine AllReadyH.cons (o:=⟨some 38,_,_,_,_,_⟩) rfl (fun K hK=>?_) AllReadyH.nil
 refine Qbc (by rfl) (.tmp 35) (.tmp 37) 99 (by rfl) w0.heap.size 43 i0 (.slice none 0 0) 1 24 Tryz.underlying99 hi hz0 hz1 hz2 rfl (by omega) (.slice la N lc) N xs (by rfl) HOA.out ⟨wr.heap.size,0,none⟩ 1 1 [.slice ha hn hc] (by rfl) rfl HNA.out (by intro u hu;simp at hu;rw [hu];rfl) (by have:=HLN.out;unfold maxLen;omega) (by have:=HLN.out;omega) (by have:=HW0.out;simp;omega) ?_
 intro v' w' hown hgr hor
 simp only [Act.put,Qw2,Qw3,Qw4]
 have TG:Touch (fun k=>(Value.slice la N lc).ownBlock=some k) (wr.drew.alloc (.cells #[.slice ha hn hc] 43)) w':=(Touch.refl _ _).grown hgr (fun k hk=>Or.inl hk)
 have n5:¬(Value.slice la N lc).ownBlock=some b5:=fun e=>HB5.out.1 e
 have n8:¬(Value.slice la N lc).ownBlock=some b8:=fun e=>HB5.out.2 e
 refine hK.out _ _ ⟨Qad (R5.keep T1) TG n5,Qad (R8.keep T1) TG n8⟩ (fun hHeld=>?_)
 clear hK K
 have Q5:=Qad (R5.keep T1) TG n5
 have Q8:=Qad (R8.keep T1) TG n8
 obtain⟨f1,f2,rfl⟩:=Qah hown
 obtain⟨w3,hput,HAP,HTM0⟩:=HFI.out.out w' f1 f2 (HTW.out.trans ((T1.mono (fun _ _ h=>h.elim)).trans (TG.mono (fun k _ e=>HBK.out.trans e)))) hown (hor.elim (fun e=>Or.inl (e.trans HBK.out.symm)) (fun e=>Or.inr ⟨_,e,Nat.le_trans HTW.out.size T1.size⟩))
 have HAH:Hid _:=HAP
 have HTM:Hid (Touch (fun k=>k=m) w' w3):=HTM0
 clear HAP HTM0 HFI hown hgr hor TG HOA HNA HO
 refine wpAnyH_take (i:=8) (oi:=⟨some 39,_,_,_,_,_⟩) (v:=.agg #[.int .u32 c,.slice f1 (N+1) f2]) rfl (by kernel_rfl) (by kernel_rfl) (by kernel_rfl) (fun _ _ _ h=>h) (Or.inl ⟨by rfl,fun w hw=>by go_simp⟩) (by assumption) ?_
 simp only [Act.put,Qw2,Qw3,Qw4]
 refine wpAnyH_ready (rs:=[9]) (by kernel_rfl) (by simp) ?_
 refine AllReadyH.cons (o:=⟨none,_,_,_,_,_⟩) rfl (fun K hK=>?_) AllReadyH.nil
 go_simp
 refine hK.out _ _ ⟨Qad Q5 HTM.out (fun h=>by have:=HMB.out;omega),Qad Q8 HTM.out (fun h=>by have:=HMB.out;omega)⟩ (fun hHeld=>?_)
 clear hK K hput Q5 Q8 R5 R8
 refine wpAnyH_done (by kernel_rfl) ?_ _
 go_wp2_with fail
 exact bodyPost_end (results_none rfl _ _ _) rfl HAH.out
theorem Qeo (w0 w:World) (G:Nat→Prop) (m:Nat) (L0:List ME) (X:MS w0 G w m L0) (p:PX) (okp:p.Ok) (c:Int) (hc0:0≤c) (hv:Value) (hk:List HK) (HV:∃a c,hv=.slice a hk.length c) (hlen:∀e∈L0,e.hs.length≤1000000) :
  Calls Tryz.prog 64 #[.map (some m),p.v,.int .u32 c,hv] w (AddP w0 G w m (putM L0 p c (hv,hk))):=by
 obtain⟨Q,hQ,MQ0⟩:=X.out
 obtain⟨pa,pb⟩:=p
 obtain⟨ha,hc,rfl⟩:=HV
 have hlen':∀q∈Q,q.e.hs.length≤1000000:=fun q hq=>hlen q.e (by rw [←hQ];exact List.mem_map.2 ⟨q,hq,rfl⟩)
 cases hp:plM L0 ⟨pa,pb⟩ with
 | none =>
  rw [Qj7 hp]
  exact Qtq w0 w G m L0 Q hQ MQ0 pa pb c hc0 ha _ hc hk hlen' okp hp
 | some j =>
  obtain⟨e,he,hpe⟩:=Qkj hp
  rw [Qks hp he]
  obtain⟨q,hq,rfl⟩:∃q,Q[j]?=some q∧q.e=e:=by
   rw [←hQ,List.getElem?_map] at he
   cases h:Q[j]? with
   | none=>rw [h] at he;cases he
   | some q=>rw [h] at he;injection he with he;exact⟨q,rfl,he⟩
  unfold upM
  by_cases h1:q.e.cost<c
  ·rw [if_pos h1]
   have:L0.set j q.e=L0:=by
    apply List.ext_getElem?
    intro i
    rw [List.getElem?_set]
    split
    ·rename_i hij
     subst hij
     rw [he]
     simp [(List.getElem?_eq_some_iff.1 he).1]
    ·rfl
   rw [this]
   exact Qv3 w0 w G m L0 Q hQ MQ0 pa pb c hc0 ha _ hc hk hlen' hq hpe h1
  ·rw [if_neg h1,hpe]
   by_cases h2:c<q.e.cost
   ·rw [if_pos h2]
    exact Qv9 w0 w G m L0 Q hQ MQ0 pa pb c hc0 ha _ hc hk hlen' hq hpe h2
   ·rw [if_neg h2]
    exact Qwr w0 w G m L0 Q hQ MQ0 pa pb c hc0 ha _ hc hk hlen' hq hpe (by omega)
end Go.Proofs.YtddbffoiadmffaaGreat
