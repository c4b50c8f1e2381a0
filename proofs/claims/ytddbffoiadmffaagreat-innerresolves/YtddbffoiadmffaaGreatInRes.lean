import Derived.Test.YtddbffoiadmffaaGreatInRes1
import Derived.Deep.DeepCutAuto
import Derived.Deep.RegionHeld2
namespace Go.Proofs.YtddbffoiadmffaaGreat
set_option maxHeartbeats 8000000
open Go.RowKit
set_option linter.unusedVariables false
set_option maxRecDepth 100000
structure ResP (w:World) (N T:List WP) (e:Ending) (w':World):Prop where
 out:∃(v:Value) (M:List WY),e=.returned v∧WB1 w w' v M∧M.map (·.x)=N.filterMap (resW T)
theorem Qii (va vb:Value) (N T:List WY) (w:World) (A:WRd w va N) (C:WRd w vb T) (hn:N.length≤60) (ht:T.length≤60) :
  Calls Tryz.prog 18 #[va,vb] w (ResP w (N.map (·.x)) (T.map (·.x))):=by
 obtain⟨aa,ac,rfl,hA⟩:=A.sh
 obtain⟨ba,bc,rfl,hB⟩:=C.sh
 have HA:Hid (∀w',Touch (fun _=>False) w w'→WRd w' (.slice aa N.length ac) N):=fun w' t=>A.keep t
 have HC:Hid (∀w',Touch (fun _=>False) w w'→WRd w' (.slice ba T.length bc) T):=fun w' t=>C.keep t
 have HRA:Hid (∀w',Touch (fun _=>False) w w'→RwAt WY.cs 10 w' aa N):=fun w' t=>Qdw hA t
 have HRB:Hid (∀w',Touch (fun _=>False) w w'→RwAt WY.cs 10 w' ba T):=fun w' t=>Qdw hB t
 have hn':(N.length:Int)≤60:=by omega
 have ht':(T.length:Int)≤60:=by omega
 have HNB:Hid (N.length≤60):=hn
 have HTB:Hid (T.length≤60):=ht
 have HTL:Hid ((T.map (·.x)).length=T.length):=by show _=_;simp
 have HTX:Hid (∀(k:Nat) (y:WY),T[k]?=some y→(T.map (·.x))[k]?=some y.x):=fun k y h=>by rw [List.getElem?_map,h];rfl
 have HTM:Hid (∀x∈T.map (·.x),x.hs.length≤400):=fun x hx=>by obtain⟨y,hy,rfl⟩:=List.mem_map.1 hx;exact C.ln y hy
 have HNX:Hid (∀(k:Nat) (y:WY),N[k]?=some y→(N.map (·.x))[k]?=some y.x):=fun k y h=>by rw [List.getElem?_map,h];rfl
 have HNF:Hid ((N.map (·.x)).take N.length=N.map (·.x)):=by show _=_;rw [List.take_of_length_le (by simp)]
 have hmm:∀w,(Instr.makeMap 96 none).run Tryz.prog w=.ok (.map (some w.heap.size)) (w.alloc (.map #[] 0)):=fun w=>by simp [Instr.makeMap]
 obtain⟨wm,hwm⟩:∃u,u=w.alloc (.map #[] 0):=⟨_,rfl⟩
 have HR0:Hid (R1 w (T.map (·.x)) w.heap.size 0 wm):=by rw [hwm];exact⟨AM.made w _ 0,(Touch.refl _ _).alloc _,Nat.le_refl _⟩
 clear A C hA hB hn ht
 generalize hNl:N.length=n at *
 generalize hTl:T.length=t at *
 generalize N.map (·.x)=NX at *
 generalize T.map (·.x)=TX at *
 have HNL:Hid (N.length=n):=hNl
 have HTLn:Hid (T.length=t):=hTl
 clear hNl hTl
 go_enter Tryz.func18,Tryz.ntmps18
 go_upto_region 2 with fail
 rw [←hwm]
 clear hwm hmm
 generalize hm0:w.heap.size=m at HR0 ⊢
 clear hm0
 go_wp2_with fail
 go_loopw [22] (fun s22 wr=>∃k:Nat,k≤t∧s22=.int .i64 k∧R1 w TX m k wr) (fun s22 _=>t-(intOf s22).toNat)
 case atStart=>exact⟨0,Nat.zero_le _,rfl,HR0.out⟩
 case round =>
  obtain⟨k,hk,rfl,hr⟩:=hrel
  have HR:Hid (R1 w TX m k wr):=hr
  clear HR0 hr
  by_cases hlt:k<t
  ·as_aux_lemma =>
   have hlt':(k:Int)<(t:Int):=Qbi hlt
   have hk00:(0:Int)≤(k:Int):=Qbj _
   have hkw:wrap64 ((k:Int)+1)=(k:Int)+1:=Qe6 (Nat.le_trans (Nat.le_trans (Nat.le_of_lt hlt) HTB.out) (by decide))
   obtain⟨y,hy⟩:=Qcq HTLn.out hlt
   have HY:Hid (T[k]?=some y):=hy
   have hX:=HTX.out k y hy
   have hRt:=(HC.out wr HR.out.t).rt y (List.mem_of_getElem? hy)
   obtain⟨a1,c1,e1⟩:=ValsAt.form ((HC.out wr HR.out.t).hs y (List.mem_of_getElem? hy))
   obtain⟨g,oo,rfl,⟨e0,e1',e2,e3,e4,e5,e6,e7,e8,e9⟩⟩:=Qj4 (HRB.out wr HR.out.t) hy
   rw [e1.1] at e9
   have lg:=Qaa e0
   obtain⟨wa,hwa⟩:∃u,u=wr.alloc (.cells #[.int .u32 y.x.p.addr,.int .u8 y.x.p.bits,.int .u32 y.x.router,.int .u8 y.x.flags,.int .u8 y.x.kind,.int .u32 y.x.area,.int .u32 y.x.cost,.int .u32 y.x.dist,.int .u32 y.x.tag,.slice a1 y.x.hs.length c1] 45):=⟨_,rfl⟩
   have ta:Touch (fun _=>False) wr wa:=by rw [hwa];exact (Touch.refl _ _).alloc _
   have RX:Row wa wr.heap.size 45 [.int .u32 y.x.p.addr,.int .u8 y.x.p.bits,.int .u32 y.x.router,.int .u8 y.x.flags,.int .u8 y.x.kind,.int .u32 y.x.area,.int .u32 y.x.cost,.int .u32 y.x.dist,.int .u32 y.x.tag,.slice a1 y.x.hs.length c1]:=by rw [hwa];exact Qac _ _ _
   have u2:wa.cell? ⟨wr.heap.size,2,none⟩=some (.int .u32 y.x.router):=RX.cell 2
   have lx:=RX.lt
   have Ra:=HR.out.keep ta
   have hlook:=Ra.look hRt
   generalize y.x.hs.length=hl at *
   go_upto_region 5 with fail
   rw [←hwa]
   clear hwa e0 e1' e2 e3 e4 e5 e6 e7 e8 e9 lg RX ta e1
   rcases hlook with⟨i,-,hany,hlk⟩|⟨hany,-,hlk⟩
   ·as_aux_lemma =>
    have HN:Hid (R1 w TX m (k+1) wa):=Ra.old hX hany
    clear Ra hX hany hRt HR HY
    go_wp2_with fail
    go_roundw
    case rel=>exact⟨k+1,hlt,by first|exact Qap hkw|exact Qap rfl,HN.out⟩
    case measure=>first|exact Qa5 hlt hkw|exact Qa5 hlt rfl
   ·as_aux_lemma =>
    obtain⟨wp,hput,hp⟩:=Ra.put hX hRt hany
    have HN:Hid (R1 w TX m (k+1) wp):=hp
    clear Ra hX hany hRt HR HY hp
    go_wp2_with fail
    go_roundw
    case rel=>exact⟨k+1,hlt,by first|exact Qap hkw|exact Qap rfl,HN.out⟩
    case measure=>first|exact Qa5 hlt hkw|exact Qa5 hlt rfl
  ·skip
   have hlt':¬(k:Int)<(t:Int):=Qbu hlt
   obtain rfl:t=k:=(Nat.le_antisymm hk (Nat.le_of_not_lt hlt)).symm
   have HR2:Hid (R2 w NX TX m 0 (.slice none 0 0) (.slice none 0 0) wr):=⟨by rw [HTL.out];exact HR.out.am,HR.out.lo,⟨[],WB1.nil HR.out.t,by simp,Nat.le_refl _⟩,⟨[],World.ownsRow_nil _ _ _ _⟩⟩
   clear HR hk hlt
   generalize wr=wl at *
   go_wp2_with fail
   go_loopg [10,11,43] n (fun gg s10 s11 s43 wr=>∃(q:Nat) (S10 S11:Value),q≤n∧n-q≤gg∧s43=.int .i64 q∧S10=s10∧S11=s11∧R2 w NX TX m q S10 S11 wr)
   case atStart=>exact⟨0,_,_,Nat.zero_le _,Nat.le_refl _,rfl,rfl,rfl,HR2.out⟩
   case round =>
    obtain⟨q,S10,S11,hq,hg,rfl,rfl,rfl,hr⟩:=hrel
    have HR:Hid (R2 w NX TX m q S10 S11 wr):=hr
    clear HR2 hr
    by_cases hlq:q<n
    ·skip
     have hlq':(q:Int)<(n:Int):=Qbi hlq
     have hq00:(0:Int)≤(q:Int):=Qbj _
     have hqw:wrap64 ((q:Int)+1)=(q:Int)+1:=Qe6 (Nat.le_trans (Nat.le_trans (Nat.le_of_lt hlq) HNB.out) (by decide))
     have HGQ:Hid (q<n∧n-q≤gk):=⟨hlq,hg⟩
     obtain⟨y,hy⟩:=Qcq HNL.out hlq
     have HX:Hid (NX[q]?=some y.x):=HNX.out q y hy
     have hmem:=List.mem_of_getElem? hy
     have HL4:Hid (y.x.hs.length≤400):=(HA.out wr HR.out.t).ln y hmem
     have HVI:Hid (∀h∈y.x.hs,0≤h.via∧h.via≤4294967295):=(HA.out wr HR.out.t).vi y hmem
     have HHV:Hid (∀w',Touch (fun _=>False) w w'→HV3 w' y.hv y.x.hs):=fun w' t=>(HA.out w' t).hs y hmem
     obtain⟨ha,hcp,ehv⟩:=ValsAt.form (HHV.out wr HR.out.t)
     have EHV:Hid (y.hv=.slice ha y.x.hs.length hcp):=ehv.1
     obtain⟨g,oo,rfl,⟨e0,e1,e2,e3,e4,e5,e6,e7,e8,e9⟩⟩:=Qj4 (HRA.out wr HR.out.t) hy
     rw [EHV.out] at e9
     have lg:=Qaa e0
     obtain⟨h0,hls⟩:=HR.out.ls
     obtain⟨la,lc,rfl⟩:=Qah hls
     have HLS:Hid (LsB w.heap.size wr (.slice la h0.length lc) h0):=hls
     obtain⟨wa,hwa⟩:∃u,u=wr.alloc (.cells #[.int .u32 y.x.p.addr,.int .u8 y.x.p.bits,.int .u32 y.x.router,.int .u8 y.x.flags,.int .u8 y.x.kind,.int .u32 y.x.area,.int .u32 y.x.cost,.int .u32 y.x.dist,.int .u32 y.x.tag,.slice ha y.x.hs.length hcp] 45):=⟨_,rfl⟩
     have ta:Touch (fun _=>False) wr wa:=by rw [hwa];exact (Touch.refl _ _).alloc _
     have RX:Row wa wr.heap.size 45 [.int .u32 y.x.p.addr,.int .u8 y.x.p.bits,.int .u32 y.x.router,.int .u8 y.x.flags,.int .u8 y.x.kind,.int .u32 y.x.area,.int .u32 y.x.cost,.int .u32 y.x.dist,.int .u32 y.x.tag,.slice ha y.x.hs.length hcp]:=by rw [hwa];exact Qac _ _ _
     have HRY:Hid (Row wa wr.heap.size 45 y.cs):=by show Row _ _ _ _;unfold WY.cs;rw [EHV.out];exact RX
     have HTA:Hid (Touch (fun _=>False) wr wa):=ta
     have HEM:Hid (∀wx,Touch (fun _=>False) wr wx→Calls Tryz.prog 39 #[.slice la h0.length lc] wx fun e w'=>∃v',e=.returned v'∧LsB w.heap.size w' v' []∧v'.ownBlock=(Value.slice la h0.length lc).ownBlock∧Touch (fun j=>(Value.slice la h0.length lc).ownBlock=some j) wx w'):=fun wx t=>Qm1 _ wx _ h0 (Qab HLS.out t (fun _ _ h=>h))
     have HPL:Hid (∀wx,Touch (fun _=>False) w wx→Calls Tryz.prog 40 #[.slice ha y.x.hs.length hcp] wx fun e w'=>∃p,e=.returned p∧HpB wx w' p (plainL y.x.hs)):=fun wx t=>Qh1 _ _ wx (by have:=HHV.out wx t;rw [EHV.out] at this;exact this) (Nat.le_trans HL4.out (by decide))
     have HNT:Hid ((Value.slice la h0.length lc).ownBlock≠some wr.heap.size):=fun e=>by have:=(HLS.out.lt _ e).2;omega
     have HLO:Hid (∀j,(Value.slice la h0.length lc).ownBlock=some j→w.heap.size≤j):=fun j e=>(HLS.out.lt j e).1
     have HTW:Hid (Touch (fun _=>False) w wr):=HR.out.t
     obtain⟨b,hb⟩:∃b,b=wr.heap.size:=⟨_,rfl⟩
     have HB:Hid (b=wr.heap.size):=hb
     rw [←hb] at RX HRY HNT
     go_upto_region 14 with fail
     rw [←hwa,←hb]
     clear hwa hb e0 e1 e2 e3 e4 e5 e6 e7 e8 e9 lg hy hmem ehv hls hg hlq hq hlq' hq00
     generalize hhl:y.x.hs.length=hl at *
     have HHL:Hid (y.x.hs.length=hl):=hhl
     generalize hh0:h0.length=l0 at *
     clear hhl hh0
     go_cut [11] (fun s11 wx=>∃xa xn xc,s11=.slice xa xn xc∧Hid (R3 w NX TX m q b y S10 s11 [plainL y.x.hs] wx))
     case first =>
      as_aux_lemma =>
      obtain⟨i0,hi,hz0,hz1,hz2⟩:=info_parts infoLs
      refine wp_region_held_drew (S:=fun w'=>Row w' b 45 [.int .u32 y.x.p.addr,.int .u8 y.x.p.bits,.int .u32 y.x.router,.int .u8 y.x.flags,.int .u8 y.x.kind,.int .u32 y.x.area,.int .u32 y.x.cost,.int .u32 y.x.dist,.int .u32 y.x.tag,.slice ha hl hcp]) (by kernel_rfl) (RX.keep ((Touch.refl _ _).drew)) (fun hHeld=>?_)
      refine wpAnyH_take (i:=0) (oi:=⟨some 47,_,_,_,_,_⟩) (v:=.slice la l0 lc) rfl (by kernel_rfl) (by kernel_rfl) (by kernel_rfl) (fun _ _ _ h=>h) (Or.inl ⟨by rfl,fun w hw=>by go_simp⟩) (by assumption) ?_
      simp only [Act.put,Qw2,Qw3,Qw4]
      refine wpAnyH_take (i:=2) (oi:=⟨some 49,_,_,_,_,_⟩) (v:=.pointer (some ⟨b,9,none⟩)) rfl (by kernel_rfl) (by kernel_rfl) (by kernel_rfl) (fun _ _ _ h=>h) (Or.inl ⟨by rfl,fun w hw=>by go_simp⟩) (by assumption) ?_
      simp only [Act.put,Qw2,Qw3,Qw4]
      refine wpAnyH_take (i:=3) (oi:=⟨some 50,_,_,_,_,_⟩) (v:=.slice ha hl hcp) rfl (by kernel_rfl) (by kernel_rfl) (by kernel_rfl) (fun _ _ _ h=>h) (Or.inl ⟨by rfl,fun w hw=>by have c9:w.cell? ⟨b,9,none⟩=some (.slice ha hl hcp):=hw.cell 9;go_simp⟩) (by assumption) ?_
      simp only [Act.put,Qw2,Qw3,Qw4]
      refine wpAnyH_ready (rs:=[1]) (by kernel_rfl) (by simp) ?_
      refine AllReadyH.cons (o:=⟨some 48,_,_,_,_,_⟩) rfl (fun K hK=>?_) AllReadyH.nil
      have T0:Touch (fun _=>False) wr wa.drew:=HTA.out.trans ((Touch.refl _ _).drew)
      go_simp
      refine Calls.mono (HEM.out wa.drew T0) ?_
      rintro e w1 ⟨e',rfl,le1,he,t1⟩
      have RX1:=Qad (RX.keep ((Touch.refl (fun _=>False) wa).drew)) t1 HNT.out
      refine hK.out _ _ RX1 (fun hHeld=>?_)
      clear hK K
      refine wpAnyH_ready (rs:=[4]) (by kernel_rfl) (by simp) ?_
      refine AllReadyH.cons (o:=⟨some 51,_,_,_,_,_⟩) rfl (fun K hK=>?_) AllReadyH.nil
      go_simp
      refine Calls.mono (HPL.out w1 ((HTW.out.trans T0).trans' t1 (fun i hi e=>by have:=HLO.out i e;omega))) ?_
      rintro e w2 ⟨p,rfl,hpb⟩
      have hp:HO w2 p (plainL y.x.hs):=Qam hpb.own (Nat.zero_le _)
      have le:LsB w.heap.size w2 e' []:=Qab le1 hpb.t (fun _ _ h=>h)
      have tt:Touch (fun j=>(Value.slice la l0 lc).ownBlock=some j) wa w2:=(((Touch.refl _ _).drew).trans t1).trans (hpb.t.mono (fun _ _ h=>h.elim))
      have RX2:=RX1.keep hpb.t
      refine hK.out _ _ RX2 (fun hHeld=>?_)
      clear hK K
      clear hpb t1 le1 RX1 RX2 T0
      obtain⟨pa,pc,rfl⟩:=Qah hp
      obtain⟨ea,ec,rfl⟩:=Qah le
      have HP:Hid _:=hp
      have HE:Hid _:=le
      have HEQ:Hid _:=he
      have HT2:Hid (Touch (fun j=>(Value.slice la l0 lc).ownBlock=some j) wa w2):=tt
      clear hp le he tt
      generalize hpn:(plainL y.x.hs).length=pn at *
      have HPN:Hid ((plainL y.x.hs).length=pn):=hpn
      clear hpn
      have R2b:Row w2 b 45 [.int .u32 y.x.p.addr,.int .u8 y.x.p.bits,.int .u32 y.x.router,.int .u8 y.x.flags,.int .u8 y.x.kind,.int .u32 y.x.area,.int .u32 y.x.cost,.int .u32 y.x.dist,.int .u32 y.x.tag,.slice ha hl hcp]:=Qad RX HT2.out HNT.out
      have T3:Touch (fun _=>False) w2 (w2.alloc (.cells #[.slice pa pn pc] 43)):=(Touch.refl _ _).alloc _
      have RA:Row (w2.alloc (.cells #[.slice pa pn pc] 43)) w2.heap.size 43 [.slice pa pn pc]:=Qac w2 _ _
      have HNA:Hid (∀(j:Nat) u,([.slice pa pn pc]:List Value)[j]?=some u→(w2.alloc (.cells #[.slice pa pn pc] 43)).cell? ((⟨w2.heap.size,0,none⟩:Addr).add j)=some u):=fun j u hj=>by rw [Qae,Nat.zero_add,RA.cell j];exact hj
      have HOA:Hid ((w2.alloc (.cells #[.slice pa pn pc] 43)).ownsRow w.heap.size 43 1 (.slice ea 0 ec) 0 []):=Qab HE.out T3 (fun _ _ h=>h)
      clear RA
      refine wpAnyH_ready (rs:=[5]) (by kernel_rfl) (by simp) ?_
      refine AllReadyH.cons (o:=⟨some 52,_,_,_,_,_⟩) rfl (fun K hK=>?_) AllReadyH.nil
      go_simp
      refine hK.out _ _ (R2b.keep T3) (fun hHeld=>?_)
      clear hK K
      refine wpAnyH_ready (rs:=[6]) (by kernel_rfl) (by simp) ?_
      refine AllReadyH.cons (o:=⟨some 53,_,_,_,_,_⟩) rfl (fun K hK=>?_) AllReadyH.nil
      refine Qbc (by rfl) (.tmp 48) (.tmp 52) 99 (by rfl) w.heap.size 43 i0 (.slice none 0 0) 1 24 Tryz.underlying99 hi hz0 hz1 hz2 rfl (by omega) (.slice ea 0 ec) 0 [] (by rfl) HOA.out ⟨w2.heap.size,0,none⟩ 1 1 [.slice pa pn pc] (by rfl) rfl HNA.out (by intro u hu;simp at hu;rw [hu];rfl) (by unfold maxLen;omega) (by omega) (Nat.le_trans (HTW.out.size) (Nat.le_trans HTA.out.size (Nat.le_trans HT2.out.size T3.size))) ?_
      intro v' w4 hown hgr hor
      simp only [Act.put,Qw2,Qw3,Qw4]
      have TG:Touch (fun k=>(Value.slice ea 0 ec).ownBlock=some k) (w2.alloc (.cells #[.slice pa pn pc] 43)) w4:=(Touch.refl _ _).grown hgr (fun k hk=>Or.inl hk)
      refine hK.out _ _ (Qad (R2b.keep T3) TG (fun e=>HNT.out (HEQ.out ▸ e))) (fun hHeld=>?_)
      clear hK K
      obtain⟨f1,f2,rfl⟩:=Qah hown
      have HR3:Hid (R3 w NX TX m q b y S10 (.slice f1 1 f2) [plainL y.x.hs] w4):=R2.start HR.out HLS.out HB.out HTA.out HRY.out HT2.out (by show World.ownsRow _ _ _ _ _ _ _;rw [HPN.out];exact HP.out) HEQ.out HE.out _ T3 hown TG
      clear hown hgr hor TG HOA HNA R2b T3 hi hz0 hz1 hz2
      refine wpAnyH_take (i:=7) (oi:=⟨some 11,_,_,_,_,_⟩) (v:=.slice f1 1 f2) rfl (by kernel_rfl) (by kernel_rfl) (by kernel_rfl) (fun _ _ _ h=>h) (Or.inl ⟨by rfl,fun w hw=>by go_simp⟩) (by assumption) ?_
      simp only [Act.put,Qw2,Qw3,Qw4]
      refine wpAnyH_done (by kernel_rfl) ?_ _
      go_wp2_with fail
      go_meet
      exact⟨f1,1,f2,rfl,HR3.out⟩
     case rest =>
      obtain⟨xa,xn,xc,rfl,hr3⟩:=hcut
      have HR3:Hid (R3 w NX TX m q b y S10 (.slice xa xn xc) [plainL y.x.hs] wc):=hr3
      have b9:wc.cell? ⟨b,9,none⟩=some (.slice ha hl hcp):=by rw [←EHV.out];exact hr3.box.cell 9
      have lb:b<wc.heap.size:=hr3.box.lt
      have hhl4:(hl:Int)≤400:=by have:=HL4.out;omega
      clear hr3 HEM HPL HRY RX HTA ta HLS HLO HNT HTW HB
      generalize wc=w5 at *
      go_wp2_with fail
      go_loopg [11,57] hl (fun gg s11 s57 wr=>∃j:Nat,j≤hl∧hl-j≤gg∧s57=.int .i64 j∧(∃xa xn xc,s11=.slice xa xn xc)∧R3 w NX TX m q b y S10 s11 (plainL y.x.hs::trsH TX (y.x.hs.take j)) wr)
      case atStart=>exact⟨0,Nat.zero_le _,Nat.le_refl _,rfl,⟨xa,xn,xc,rfl⟩,HR3.out⟩
      case round =>
       obtain⟨j,hj,hgj,rfl,⟨za,zn,zc,rfl⟩,hr⟩:=hrel
       have HR3j:Hid (R3 w NX TX m q b y S10 (.slice za zn zc) (plainL y.x.hs::trsH TX (y.x.hs.take j)) wr):=hr
       clear HR3 hr b9 lb
       by_cases hlj:j<hl
       ·as_aux_lemma =>
        have hlj':(j:Int)<(hl:Int):=Qbi hlj
        have hj00:(0:Int)≤(j:Int):=Qbj _
        have hjw:wrap64 ((j:Int)+1)=(j:Int)+1:=Qe6 (Nat.le_trans (Nat.le_trans (Nat.le_of_lt hlj) HL4.out) (by decide))
        have HGJ:Hid (j<hl∧hl-j≤gk):=⟨hlj,hgj⟩
        obtain⟨h,hh⟩:=Qcq HHL.out hlj
        have HTK:Hid (trsH TX (y.x.hs.take (j+1))=trsH TX (y.x.hs.take j)++viaH TX h):=Qny hh
        have hvi:=HVI.out h (List.mem_of_getElem? hh)
        have hra:=HV3.ra (HHV.out wr HR3j.out.t)
        rw [EHV.out] at hra
        obtain⟨a2,c2,ea2,hs2⟩:=hra.out
        simp only [Value.slice.injEq] at ea2
        obtain⟨rfl,-,rfl⟩:=ea2
        rcases hs2 with e|⟨g2,o2,rfl,hc2⟩
        ·rw [e] at hh;cases hh
        have q0:wr.cell? ⟨g2,o2+j*3,none⟩=some (.int .u32 h.out):=hc2 j h hh 0 _ rfl
        have q1:wr.cell? ⟨g2,o2+j*3+1,none⟩=some (.int .u32 h.via):=hc2 j h hh 1 _ rfl
        have q2:wr.cell? ⟨g2,o2+j*3+2,none⟩=some (.bool h.vr):=hc2 j h hh 2 _ rfl
        have lq:=Qaa q0
        obtain⟨wh,hwh⟩:∃u,u=wr.alloc (.cells #[.int .u32 h.out,.int .u32 h.via,.bool h.vr] 48):=⟨_,rfl⟩
        have th:Touch (fun _=>False) wr wh:=by rw [hwh];exact (Touch.refl _ _).alloc _
        have RH2:Row wh wr.heap.size 48 [.int .u32 h.out,.int .u32 h.via,.bool h.vr]:=by rw [hwh];exact Qac _ _ _
        have v1:wh.cell? ⟨wr.heap.size,1,none⟩=some (.int .u32 h.via):=RH2.cell 1
        have v2:wh.cell? ⟨wr.heap.size,2,none⟩=some (.bool h.vr):=RH2.cell 2
        have lh:=RH2.lt
        have HRH:Hid (R3 w NX TX m q b y S10 (.slice za zn zc) (plainL y.x.hs::trsH TX (y.x.hs.take j)) wh):=HR3j.out.keep th
        have hlook:=HRH.out.r1.look hvi
        clear hc2 hh hvi hra RH2 th HR3j hlj hgj hj
        go_upto_region 18 with fail
        rw [←hwh]
        clear hwh q0 q1 q2 lq
        rcases hlook with⟨i,hf,-,hlk⟩|⟨-,hf,hlk⟩
        ·by_cases hvr:h.vr=true
         ·as_aux_lemma =>
          have hi:i<t:=by have:=Qw0 hf;rw [HTL.out] at this;exact this
          obtain⟨x2,hx2⟩:=Qcq HTLn.out hi
          have HVH:Hid (viaH TX h=[plainL x2.x.hs]):=Qjv hvr hf (HTX.out i x2 hx2)
          have hmem2:=List.mem_of_getElem? hx2
          have hi':(i:Int)<(t:Int):=Qbi hi
          have hi00:(0:Int)≤(i:Int):=Qbj _
          have HCW:=HC.out wh HRH.out.t
          obtain⟨pa2,pc2,ep2⟩:=ValsAt.form (HCW.hs x2 hmem2)
          obtain⟨gB,oB,rfl,⟨-,-,-,-,-,-,-,-,-,f9⟩⟩:=Qj4 (HRB.out wh HRH.out.t) hx2
          rw [ep2.1] at f9
          have HPL2:=Qh1 (.slice pa2 x2.x.hs.length pc2) x2.x.hs wh (by have:=HCW.hs x2 hmem2;rw [ep2.1] at this;exact this) (Nat.le_trans (HCW.ln x2 hmem2) (by decide))
          have lf:=Qaa f9
          rw [hvr] at v2 ⊢
          clear hx2 hmem2 HCW ep2 hf hvr hi
          generalize x2.x.hs.length=p2n at *
          generalize x2.x.hs=ph2 at *
          go_wp2_with fail
          refine HPL2.mono ?_
          rintro e w6 ⟨p,rfl,hpb⟩
          have hp:HO w6 p (plainL ph2):=Qam hpb.own (Nat.zero_le _)
          have HT6:Hid (Touch (fun _=>False) wh w6):=hpb.t
          obtain⟨pa,pc,rfl⟩:=Qah hp
          have HP:Hid _:=hp
          clear hpb hp HPL2 f9 lf v1 v2 lh
          generalize hpn:(plainL ph2).length=pn at *
          have HPN:Hid ((plainL ph2).length=pn):=hpn
          clear hpn
          have RA:=Qac w6 43 #[.slice pa pn pc]
          have T7:Touch (fun _=>False) w6 (w6.alloc (.cells #[.slice pa pn pc] 43)):=(Touch.refl _ _).alloc _
          have HT7:Hid _:=T7
          have HNA:Hid (∀(j:Nat) u,([.slice pa pn pc]:List Value)[j]?=some u→(w6.alloc (.cells #[.slice pa pn pc] 43)).cell? ((⟨w6.heap.size,0,none⟩:Addr).add j)=some u):=fun j u hj=>by rw [Qae,Nat.zero_add,RA.cell j];exact hj
          obtain⟨hs3,o3,m3,-⟩:=(HRH.out.keep (HT6.out.trans T7)).ls
          have hzn:zn=hs3.length:=by obtain⟨_,_,e⟩:=Qah o3;simp only [Value.slice.injEq] at e;exact e.2.1
          have HO3:Hid ((w6.alloc (.cells #[.slice pa pn pc] 43)).ownsRow w.heap.size 43 1 (.slice za zn zc) zn (hs3.map Prod.fst)):=by rw [hzn] at o3 ⊢;exact o3
          have hz4:zn≤1000:=by
           have e:=congrArg List.length m3
           have h1:=Qgf TX (y.x.hs.take j)
           have h2:=List.length_take_le j y.x.hs
           have h3:=HHL.out
           have h4:=HL4.out
           have h5:=HGJ.out.1
           simp only [List.length_map,List.length_cons] at e
           omega
          have HZ4:Hid (zn≤1000):=hz4
          have HM3:Hid (hs3.map Prod.snd=_):=m3
          have HSZ:Hid (w.heap.size≤(w6.alloc (.cells #[.slice pa pn pc] 43)).heap.size):=Nat.le_trans HRH.out.t.size (Nat.le_trans HT6.out.size T7.size)
          have HZN:Hid (zn=hs3.length):=hzn
          clear RA T7 o3 m3 hzn hz4
          go_wp2_with (at_builtin;refine Qby rfl (.tmp 73) (.tmp 80) 99 rfl 43 1 24 (.slice none 0 0) Tryz.underlying99 infoLs rfl (by decide) (by decide) w.heap.size (.slice za zn zc) zn _ rfl HO3.out HSZ.out ⟨w6.heap.size,0,none⟩ 1 1 [.slice pa pn pc] rfl rfl HNA.out (by intro u hu;simp at hu;rw [hu];rfl) (Nat.le_trans (Nat.add_le_add_right HZ4.out 1) (by decide)) ?_)
          intro v' w8 hown TG
          obtain⟨f1,f2,rfl⟩:=Qah hown
          have HN3:Hid (R3 w NX TX m q b y S10 (.slice f1 (zn+1) f2) (plainL y.x.hs::trsH TX (y.x.hs.take (j+1))) w8):=by
           have hl3:∀hs:List HL,LsB w.heap.size (w6.alloc (.cells #[.slice pa pn pc] 43)) (.slice za zn zc) hs→hs.map Prod.snd=plainL y.x.hs::trsH TX (y.x.hs.take j)→LsB w.heap.size w8 (.slice f1 (zn+1) f2) (hs++[(.slice pa pn pc,plainL ph2)]):=fun hs l1 l2=>by
            have e1:hs.length=zn:=by obtain⟨_,_,e⟩:=Qah l1;simp only [Value.slice.injEq] at e;exact e.2.1.symm
            have e2:hs.map Prod.fst=hs3.map Prod.fst:=Qdd l1 (by have:=HO3.out;rw [HZN.out] at this ⊢;exact this) (by rw [e1,HZN.out])
            show World.ownsRow _ _ _ _ _ _ _
            rw [List.length_append,List.map_append,e1,e2]
            exact hown
           have:=HRH.out.more HT6.out (p:=.slice pa pn pc) (pl:=plainL ph2) (by show World.ownsRow _ _ _ _ _ _ _;rw [HPN.out];exact HP.out) HT7.out hl3 TG
           rw [HTK.out,HVH.out,←List.cons_append]
           exact this
          clear hown TG HO3 HNA HM3 HSZ HZN HZ4 HT7 HT6 HRH HP HPN HVH
          go_wp2_with fail
          go_roundg (hl-(j+1))
          case measure=>exact Qbo HGJ.out.1 HGJ.out.2
          case rel=>exact⟨j+1,HGJ.out.1,Nat.le_refl _,by first|exact Qap hjw|exact Qap rfl,⟨_,_,_,rfl⟩,HN3.out⟩
         ·skip
          have hvr':h.vr=false:=by simpa using hvr
          rw [hvr'] at v2 ⊢
          have HN3:Hid (R3 w NX TX m q b y S10 (.slice za zn zc) (plainL y.x.hs::trsH TX (y.x.hs.take (j+1))) wh):=by rw [HTK.out,Qnf hvr',List.append_nil];exact HRH.out
          clear HRH HTK hf hvr hvr'
          go_wp2_with fail
          go_roundg (hl-(j+1))
          case measure=>exact Qbo HGJ.out.1 HGJ.out.2
          case rel=>exact⟨j+1,HGJ.out.1,Nat.le_refl _,by first|exact Qap hjw|exact Qap rfl,⟨_,_,_,rfl⟩,HN3.out⟩
        ·skip
         have HN3:Hid (R3 w NX TX m q b y S10 (.slice za zn zc) (plainL y.x.hs::trsH TX (y.x.hs.take (j+1))) wh):=by rw [HTK.out,Qg0 hf,List.append_nil];exact HRH.out
         clear HRH HTK hf
         go_wp2_with fail
         go_roundg (hl-(j+1))
         case measure=>exact Qbo HGJ.out.1 HGJ.out.2
         case rel=>exact⟨j+1,HGJ.out.1,Nat.le_refl _,by first|exact Qap hjw|exact Qap rfl,⟨_,_,_,rfl⟩,HN3.out⟩
       ·skip
        have hlj':¬(j:Int)<(hl:Int):=Qbu hlj
        have hR:R3 w NX TX m q b y S10 (.slice za zn zc) (resL TX y.x.hs) wr:=by have h:=HR3j.out;rw [Qgd HHL.out hlj] at h;exact h
        have HJ:=hR.joined (by rw [HHL.out];exact HL4.out) HTM.out
        have b9:wr.cell? ⟨b,9,none⟩=some (.slice ha hl hcp):=by rw [←EHV.out];exact hR.box.cell 9
        have lb:b<wr.heap.size:=hR.box.lt
        have HRL:Hid (R3 w NX TX m q b y S10 (.slice za zn zc) (resL TX y.x.hs) wr):=hR
        have hl00:(0:Int)≤(hl:Int):=Qbj _
        clear hR HR3j hj hgj hlj HVI HHV
        by_cases h0:hl=0
        ·skip
         have hb0:((hl:Int)==0)=true:=by rw [h0];rfl
         have HK2:Hid (resW TX y.x=some { y.x with hs:=resH TX y.x.hs }):=Qdt (Or.inl (List.eq_nil_of_length_eq_zero (HHL.out.trans h0)))
         clear h0
         go_wp2_with fail
         refine HJ.mono ?_
         rintro e w6 ⟨r,rfl,ho,t6⟩
         have hbx:=(HRL.out.keep t6).box
         have c9:w6.cell? ⟨b,9,none⟩=some (.slice ha hl hcp):=by rw [←EHV.out];exact hbx.cell 9
         have hfz:=hbx.frozen
         have lb6:=hbx.lt
         have h4:=HRL.out.store t6 ho
         obtain⟨ra,rc,rfl⟩:=Qah ho
         have HR4:Hid (R4 w NX TX m q b { y.x with hs:=resH TX y.x.hs } (.slice ra (resH TX y.x.hs).length rc) S10 (.slice za zn zc) (w6.setCell ⟨b,9,none⟩ (.slice ra (resH TX y.x.hs).length rc))):=h4
         have HRN:Hid ((resH TX y.x.hs).length=0→resH TX y.x.hs=[]):=fun e=>List.eq_nil_of_length_eq_zero e
         have HRP:Hid (0<(resH TX y.x.hs).length→resH TX y.x.hs≠[]):=fun h e=>by rw [e] at h;exact absurd h (by simp)
         clear h4 ho t6 hbx HJ b9 lb HRL
         generalize hrn:(resH TX y.x.hs).length=rn at *
         clear hrn
         go_upto_region 24 with fail
         generalize w6.setCell ⟨b,9,none⟩ (.slice ra rn rc)=w7 at HR4 ⊢
         clear c9 hfz lb6
         have hb7:=HR4.out.box
         have k9:w7.cell? ⟨b,9,none⟩=some (.slice ra rn rc):=hb7.cell 9
         have l7:=hb7.lt
         have k0:w7.cell? ⟨b,0,none⟩=some (.int .u32 y.x.p.addr):=hb7.cell 0
         have k1:w7.cell? ⟨b,1,none⟩=some (.int .u8 y.x.p.bits):=hb7.cell 1
         have k2:w7.cell? ⟨b,2,none⟩=some (.int .u32 y.x.router):=hb7.cell 2
         have k3:w7.cell? ⟨b,3,none⟩=some (.int .u8 y.x.flags):=hb7.cell 3
         have k4:w7.cell? ⟨b,4,none⟩=some (.int .u8 y.x.kind):=hb7.cell 4
         have k5:w7.cell? ⟨b,5,none⟩=some (.int .u32 y.x.area):=hb7.cell 5
         have k6:w7.cell? ⟨b,6,none⟩=some (.int .u32 y.x.cost):=hb7.cell 6
         have k7:w7.cell? ⟨b,7,none⟩=some (.int .u32 y.x.dist):=hb7.cell 7
         have k8:w7.cell? ⟨b,8,none⟩=some (.int .u32 y.x.tag):=hb7.cell 8
         have RAw:=Qac w7 45 #[.int .u32 y.x.p.addr,.int .u8 y.x.p.bits,.int .u32 y.x.router,.int .u8 y.x.flags,.int .u8 y.x.kind,.int .u32 y.x.area,.int .u32 y.x.cost,.int .u32 y.x.dist,.int .u32 y.x.tag,.slice ra rn rc]
         have T8:Touch (fun _=>False) w7 (w7.alloc (.cells #[.int .u32 y.x.p.addr,.int .u8 y.x.p.bits,.int .u32 y.x.router,.int .u8 y.x.flags,.int .u8 y.x.kind,.int .u32 y.x.area,.int .u32 y.x.cost,.int .u32 y.x.dist,.int .u32 y.x.tag,.slice ra rn rc] 45)):=(Touch.refl _ _).alloc _
         have HT8:Hid _:=T8
         have HNA:Hid (∀(j:Nat) u,([.int .u32 y.x.p.addr,.int .u8 y.x.p.bits,.int .u32 y.x.router,.int .u8 y.x.flags,.int .u8 y.x.kind,.int .u32 y.x.area,.int .u32 y.x.cost,.int .u32 y.x.dist,.int .u32 y.x.tag,.slice ra rn rc]:List Value)[j]?=some u→(w7.alloc (.cells #[.int .u32 y.x.p.addr,.int .u8 y.x.p.bits,.int .u32 y.x.router,.int .u8 y.x.flags,.int .u8 y.x.kind,.int .u32 y.x.area,.int .u32 y.x.cost,.int .u32 y.x.dist,.int .u32 y.x.tag,.slice ra rn rc] 45)).cell? ((⟨w7.heap.size,0,none⟩:Addr).add j)=some u):=fun j u hj=>by rw [Qae,Nat.zero_add,RAw.cell j];exact hj
         obtain⟨M0,hM0,-,hMl⟩:=(HR4.out.keep T8).all
         have HO8:Hid ((w7.alloc (.cells #[.int .u32 y.x.p.addr,.int .u8 y.x.p.bits,.int .u32 y.x.router,.int .u8 y.x.flags,.int .u8 y.x.kind,.int .u32 y.x.area,.int .u32 y.x.cost,.int .u32 y.x.dist,.int .u32 y.x.tag,.slice ra rn rc] 45)).ownsRow w.heap.size 45 10 S10 M0.length (cellsG WY.cs M0)):=hM0.b.own
         have HSZ:Hid (w.heap.size≤(w7.alloc (.cells #[.int .u32 y.x.p.addr,.int .u8 y.x.p.bits,.int .u32 y.x.router,.int .u8 y.x.flags,.int .u8 y.x.kind,.int .u32 y.x.area,.int .u32 y.x.cost,.int .u32 y.x.dist,.int .u32 y.x.tag,.slice ra rn rc] 45)).heap.size):=hM0.b.t.size
         have HML:Hid (M0.length≤100):=Nat.le_trans hMl (Nat.le_trans (Nat.le_of_lt HGQ.out.1) (Nat.le_trans HNB.out (by decide)))
         clear RAw T8 hM0 hMl hb7 HRN HRP
         go_wp2_with (at_builtin;refine Qby rfl (.tmp 97) (.tmp 99) 27 rfl 45 10 56 (.agg #[.int .u32 0,.int .u8 0,.int .u32 0,.int .u8 0,.int .u8 0,.int .u32 0,.int .u32 0,.int .u32 0,.int .u32 0,.slice none 0 0]) Tryz.underlying27 infoWay rfl (by decide) (by decide) w.heap.size S10 M0.length _ rfl HO8.out HSZ.out ⟨w7.heap.size,0,none⟩ 1 1 [.int .u32 y.x.p.addr,.int .u8 y.x.p.bits,.int .u32 y.x.router,.int .u8 y.x.flags,.int .u8 y.x.kind,.int .u32 y.x.area,.int .u32 y.x.cost,.int .u32 y.x.dist,.int .u32 y.x.tag,.slice ra rn rc] rfl rfl HNA.out (Qgx _ _ _ _ _ _ _ _ _ _ _ _) (Nat.le_trans (Nat.add_le_add_right HML.out 1) (by decide)) ?_)
         intro v' w8 hown TG
         have HN2:Hid (R2 w NX TX m (q+1) v' (.slice za zn zc) w8):=by
          refine HR4.out.app HX.out HK2.out HT8.out (fun M hM=>?_) TG
          have e1:M.length=M0.length:=by
           obtain⟨a1,c1,e1⟩:=Qah hM.b.own
           obtain⟨a2,c2,e2⟩:=Qah HO8.out
           rw [e1] at e2
           simp only [Value.slice.injEq] at e2
           exact e2.2.1
          have e2:=Qdd hM.b.own HO8.out e1
          rw [e1,e2]
          exact hown
         obtain⟨f1,f2,rfl⟩:=Qah hown
         clear hown TG HO8 HNA HSZ HT8 HR4 k9 l7 HK2
         generalize M0.length+1=ml at *
         clear HML
         go_wp2_with fail
         go_roundg (n-(q+1))
         case measure=>exact Qbo HGQ.out.1 HGQ.out.2
         case rel=>exact⟨q+1,_,_,HGQ.out.1,Nat.le_refl _,by first|exact Qap hqw|exact Qap rfl,rfl,rfl,HN2.out⟩
        ·skip
         have hb0:((hl:Int)==0)=false:=by rw [beq_eq_false_iff_ne];omega
         have HHN:Hid (y.x.hs≠[]):=fun e=>h0 (by rw [←HHL.out,e];rfl)
         clear h0
         go_wp2_with fail
         refine HJ.mono ?_
         rintro e w6 ⟨r,rfl,ho,t6⟩
         have hbx:=(HRL.out.keep t6).box
         have c9:w6.cell? ⟨b,9,none⟩=some (.slice ha hl hcp):=by rw [←EHV.out];exact hbx.cell 9
         have hfz:=hbx.frozen
         have lb6:=hbx.lt
         have h4:=HRL.out.store t6 ho
         obtain⟨ra,rc,rfl⟩:=Qah ho
         have HR4:Hid (R4 w NX TX m q b { y.x with hs:=resH TX y.x.hs } (.slice ra (resH TX y.x.hs).length rc) S10 (.slice za zn zc) (w6.setCell ⟨b,9,none⟩ (.slice ra (resH TX y.x.hs).length rc))):=h4
         have HRN:Hid ((resH TX y.x.hs).length=0→resH TX y.x.hs=[]):=fun e=>List.eq_nil_of_length_eq_zero e
         have HRP:Hid (0<(resH TX y.x.hs).length→resH TX y.x.hs≠[]):=fun h e=>by rw [e] at h;exact absurd h (by simp)
         clear h4 ho t6 hbx HJ b9 lb HRL
         generalize hrn:(resH TX y.x.hs).length=rn at *
         clear hrn
         go_upto_region 24 with fail
         generalize w6.setCell ⟨b,9,none⟩ (.slice ra rn rc)=w7 at HR4 ⊢
         clear c9 hfz lb6
         have hb7:=HR4.out.box
         have k9:w7.cell? ⟨b,9,none⟩=some (.slice ra rn rc):=hb7.cell 9
         have l7:=hb7.lt
         by_cases hr0:0<rn
         ·skip
          have hr0':(0:Int)<(rn:Int):=Qbi hr0
          have HK2:Hid (resW TX y.x=some { y.x with hs:=resH TX y.x.hs }):=Qdt (Or.inr (HRP.out hr0))
          clear hr0
          have k0:w7.cell? ⟨b,0,none⟩=some (.int .u32 y.x.p.addr):=hb7.cell 0
          have k1:w7.cell? ⟨b,1,none⟩=some (.int .u8 y.x.p.bits):=hb7.cell 1
          have k2:w7.cell? ⟨b,2,none⟩=some (.int .u32 y.x.router):=hb7.cell 2
          have k3:w7.cell? ⟨b,3,none⟩=some (.int .u8 y.x.flags):=hb7.cell 3
          have k4:w7.cell? ⟨b,4,none⟩=some (.int .u8 y.x.kind):=hb7.cell 4
          have k5:w7.cell? ⟨b,5,none⟩=some (.int .u32 y.x.area):=hb7.cell 5
          have k6:w7.cell? ⟨b,6,none⟩=some (.int .u32 y.x.cost):=hb7.cell 6
          have k7:w7.cell? ⟨b,7,none⟩=some (.int .u32 y.x.dist):=hb7.cell 7
          have k8:w7.cell? ⟨b,8,none⟩=some (.int .u32 y.x.tag):=hb7.cell 8
          have RAw:=Qac w7 45 #[.int .u32 y.x.p.addr,.int .u8 y.x.p.bits,.int .u32 y.x.router,.int .u8 y.x.flags,.int .u8 y.x.kind,.int .u32 y.x.area,.int .u32 y.x.cost,.int .u32 y.x.dist,.int .u32 y.x.tag,.slice ra rn rc]
          have T8:Touch (fun _=>False) w7 (w7.alloc (.cells #[.int .u32 y.x.p.addr,.int .u8 y.x.p.bits,.int .u32 y.x.router,.int .u8 y.x.flags,.int .u8 y.x.kind,.int .u32 y.x.area,.int .u32 y.x.cost,.int .u32 y.x.dist,.int .u32 y.x.tag,.slice ra rn rc] 45)):=(Touch.refl _ _).alloc _
          have HT8:Hid _:=T8
          have HNA:Hid (∀(j:Nat) u,([.int .u32 y.x.p.addr,.int .u8 y.x.p.bits,.int .u32 y.x.router,.int .u8 y.x.flags,.int .u8 y.x.kind,.int .u32 y.x.area,.int .u32 y.x.cost,.int .u32 y.x.dist,.int .u32 y.x.tag,.slice ra rn rc]:List Value)[j]?=some u→(w7.alloc (.cells #[.int .u32 y.x.p.addr,.int .u8 y.x.p.bits,.int .u32 y.x.router,.int .u8 y.x.flags,.int .u8 y.x.kind,.int .u32 y.x.area,.int .u32 y.x.cost,.int .u32 y.x.dist,.int .u32 y.x.tag,.slice ra rn rc] 45)).cell? ((⟨w7.heap.size,0,none⟩:Addr).add j)=some u):=fun j u hj=>by rw [Qae,Nat.zero_add,RAw.cell j];exact hj
          obtain⟨M0,hM0,-,hMl⟩:=(HR4.out.keep T8).all
          have HO8:Hid ((w7.alloc (.cells #[.int .u32 y.x.p.addr,.int .u8 y.x.p.bits,.int .u32 y.x.router,.int .u8 y.x.flags,.int .u8 y.x.kind,.int .u32 y.x.area,.int .u32 y.x.cost,.int .u32 y.x.dist,.int .u32 y.x.tag,.slice ra rn rc] 45)).ownsRow w.heap.size 45 10 S10 M0.length (cellsG WY.cs M0)):=hM0.b.own
          have HSZ:Hid (w.heap.size≤(w7.alloc (.cells #[.int .u32 y.x.p.addr,.int .u8 y.x.p.bits,.int .u32 y.x.router,.int .u8 y.x.flags,.int .u8 y.x.kind,.int .u32 y.x.area,.int .u32 y.x.cost,.int .u32 y.x.dist,.int .u32 y.x.tag,.slice ra rn rc] 45)).heap.size):=hM0.b.t.size
          have HML:Hid (M0.length≤100):=Nat.le_trans hMl (Nat.le_trans (Nat.le_of_lt HGQ.out.1) (Nat.le_trans HNB.out (by decide)))
          clear RAw T8 hM0 hMl hb7 HRN HRP
          go_wp2_with (at_builtin;refine Qby rfl (.tmp 97) (.tmp 99) 27 rfl 45 10 56 (.agg #[.int .u32 0,.int .u8 0,.int .u32 0,.int .u8 0,.int .u8 0,.int .u32 0,.int .u32 0,.int .u32 0,.int .u32 0,.slice none 0 0]) Tryz.underlying27 infoWay rfl (by decide) (by decide) w.heap.size S10 M0.length _ rfl HO8.out HSZ.out ⟨w7.heap.size,0,none⟩ 1 1 [.int .u32 y.x.p.addr,.int .u8 y.x.p.bits,.int .u32 y.x.router,.int .u8 y.x.flags,.int .u8 y.x.kind,.int .u32 y.x.area,.int .u32 y.x.cost,.int .u32 y.x.dist,.int .u32 y.x.tag,.slice ra rn rc] rfl rfl HNA.out (Qgx _ _ _ _ _ _ _ _ _ _ _ _) (Nat.le_trans (Nat.add_le_add_right HML.out 1) (by decide)) ?_)
          intro v' w8 hown TG
          have HN2:Hid (R2 w NX TX m (q+1) v' (.slice za zn zc) w8):=by
           refine HR4.out.app HX.out HK2.out HT8.out (fun M hM=>?_) TG
           have e1:M.length=M0.length:=by
            obtain⟨a1,c1,e1⟩:=Qah hM.b.own
            obtain⟨a2,c2,e2⟩:=Qah HO8.out
            rw [e1] at e2
            simp only [Value.slice.injEq] at e2
            exact e2.2.1
           have e2:=Qdd hM.b.own HO8.out e1
           rw [e1,e2]
           exact hown
          obtain⟨f1,f2,rfl⟩:=Qah hown
          clear hown TG HO8 HNA HSZ HT8 HR4 k9 l7 HK2
          generalize M0.length+1=ml at *
          clear HML
          go_wp2_with fail
          go_roundg (n-(q+1))
          case measure=>exact Qbo HGQ.out.1 HGQ.out.2
          case rel=>exact⟨q+1,_,_,HGQ.out.1,Nat.le_refl _,by first|exact Qap hqw|exact Qap rfl,rfl,rfl,HN2.out⟩
         ·skip
          have hr0':¬(0:Int)<(rn:Int):=Qbu hr0
          have HN2:Hid (R2 w NX TX m (q+1) S10 (.slice za zn zc) w7):=HR4.out.skip HX.out (Qg8 HHN.out (HRN.out (Nat.eq_zero_of_not_pos hr0)))
          clear hr0 HRN HRP hb7 HR4
          go_wp2_with fail
          go_roundg (n-(q+1))
          case measure=>exact Qbo HGQ.out.1 HGQ.out.2
          case rel=>exact⟨q+1,_,_,HGQ.out.1,Nat.le_refl _,by first|exact Qap hqw|exact Qap rfl,rfl,rfl,HN2.out⟩
    ·as_aux_lemma =>
     have hlq':¬(q:Int)<(n:Int):=Qbu hlq
     obtain rfl:q=n:=Nat.le_antisymm hq (Nat.le_of_not_lt hlq)
     obtain⟨M,hM,hMx,-⟩:=HR.out.all
     rw [HNF.out] at hMx
     obtain⟨ua,uc,rfl⟩:=Qah hM.b.own
     have HM:Hid _:=And.intro hM hMx
     clear hM hMx
     generalize M.length=ml at *
     go_wp2_with fail
     go_ret
     exact⟨_,M,rfl,HM.out.1,HM.out.2⟩
end Go.Proofs.YtddbffoiadmffaaGreat
