import Derived.Test.YtddbffoiadmffaaGreatInRsD
import Derived.Deep.DeepCutAuto
import Derived.Deep.RegionHeld2
namespace Go.Proofs.YtddbffoiadmffaaGreat
set_option maxHeartbeats 8000000
open Go.RowKit
set_option linter.unusedVariables false
set_option maxRecDepth 100000
theorem infoDWay:(Tryz.prog.info? 84).map (fun i=>(i.zero,i.size,i.bytes))=some (some (.agg #[.int .u32 0,.int .u8 0,.int .u32 0,.int .u8 0,.int .u8 0,.int .u32 0,.int .u32 0,.int .u32 0,.int .u32 0,.slice none 0 0]),10,56):=by kernel_rfl
structure RsP (w:World) (N T:List WP) (e:Ending) (w':World):Prop where
 out:∃(v:Value) (M:List WY),e=.returned v∧DW w w' v M∧M.map (·.x)=N.filterMap (resW T)
theorem Qhm (va vb:Value) (N T:List WY) (w:World) (A:WsAt w va N) (C:WsAt w vb T) (hn:N.length≤60) (ht:T.length≤60) (hlN:∀y∈N,y.x.hs.length≤400) (hlT:∀y∈T,y.x.hs.length≤400) :
  Calls Tryz.prog 19 #[va,vb] w (RsP w (N.map (·.x)) (T.map (·.x))):=by
 obtain⟨aa,ac,rfl,hA⟩:=A.sh
 obtain⟨ba,bc,rfl,-⟩:=C.sh
 have HA:Hid (∀w',Touch (fun _=>False) w w'→WsAt w' (.slice aa N.length ac) N):=fun w' t=>A.keep t
 have HC:Hid (∀w',Touch (fun _=>False) w w'→∀r,Calls Tryz.prog 44 #[.slice ba T.length bc,.int .u32 r] w' fun e w2=>∃v',e=.returned v'∧HD w' w2 v' (dpl (T.map (·.x)) r)):=fun w' t r=>Qlc _ T r w' (C.keep t) ht hlT
 have HRA:Hid (∀w',Touch (fun _=>False) w w'→RwAt WY.cs 10 w' aa N):=fun w' t=>Qdw hA t
 have hn':(N.length:Int)≤60:=by omega
 have HNB:Hid (N.length≤60):=hn
 have HTM:Hid (∀x∈T.map (·.x),x.hs.length≤400):=fun x hx=>by obtain⟨y,hy,rfl⟩:=List.mem_map.1 hx;exact hlT y hy
 have HNM:Hid (∀y∈N,y.x.hs.length≤400):=hlN
 have HNX:Hid (∀(k:Nat) (y:WY),N[k]?=some y→(N.map (·.x))[k]?=some y.x):=fun k y h=>by rw [List.getElem?_map,h];rfl
 have HNF:Hid ((N.map (·.x)).take N.length=N.map (·.x)):=by show _=_;rw [List.take_of_length_le (by simp)]
 clear A C hA hn ht hlN hlT
 generalize hNl:N.length=n at *
 generalize hTl:T.length=t at *
 generalize N.map (·.x)=NX at *
 generalize T.map (·.x)=TX at *
 have HNL:Hid (N.length=n):=hNl
 clear hNl hTl
 go_enter Tryz.func19,Tryz.ntmps19
 go_wp2_with fail
 go_loopg [5,6] n (fun gg s5 s6 wr=>∃(q:Nat) (S5:Value),q≤n∧n-q≤gg∧s6=.int .i64 q∧S5=s5∧D2 w NX TX q S5 wr)
 case atStart=>exact⟨0,_,Nat.zero_le _,Nat.le_refl _,rfl,rfl,⟨[],DW.nil (Touch.refl _ _),by simp,Nat.le_refl _⟩⟩
 case round =>
  obtain⟨q,S5,hq,hg,rfl,rfl,hr⟩:=hrel
  have HR:Hid (D2 w NX TX q S5 wr):=hr
  clear hr
  by_cases hlq:q<n
  ·skip
   have hlq':(q:Int)<(n:Int):=Qbi hlq
   have hq00:(0:Int)≤(q:Int):=Qbj _
   have hqw:wrap64 ((q:Int)+1)=(q:Int)+1:=Qe6 (Nat.le_trans (Nat.le_trans (Nat.le_of_lt hlq) HNB.out) (by decide))
   have HGQ:Hid (q<n∧n-q≤gk):=⟨hlq,hg⟩
   obtain⟨y,hy⟩:=Qcq HNL.out hlq
   have HX:Hid (NX[q]?=some y.x):=HNX.out q y hy
   have hmem:=List.mem_of_getElem? hy
   have HL4:Hid (y.x.hs.length≤400):=HNM.out y hmem
   have HHV:Hid (∀w',Touch (fun _=>False) w w'→RA w' y.hv y.x.hs):=fun w' t=>((HA.out w' t).ok y hmem).ra
   obtain⟨ha,hcp,ehv,-⟩:=(HHV.out wr HR.out.t).out
   have EHV:Hid (y.hv=.slice ha y.x.hs.length hcp):=ehv
   have HC8:Hid (∃g oo,aa=some ⟨g,oo,none⟩∧∀w',Touch (fun _=>False) w w'→w'.cell? ⟨g,oo+q*10+9,none⟩=some y.hv):=by
    rcases HRA.out wr HR.out.t with e|⟨g,oo,rfl,hc⟩
    ·rw [e] at hy;cases hy
    ·refine⟨g,oo,rfl,fun w' t=>?_⟩
     rcases HRA.out w' t with e|⟨g',oo',e',hc'⟩
     ·rw [e] at hy;cases hy
     ·simp only [Option.some.injEq,Addr.mk.injEq,and_true] at e'
      obtain⟨rfl,rfl⟩:=e'
      exact hc' q y hy 9 _ rfl
   obtain⟨g,oo,rfl,HC9⟩:=HC8.out
   obtain⟨g',oo',e',⟨e0,e1,e2,e3,e4,e5,e6,e7,e8,e9⟩⟩:=Qj4 (HRA.out wr HR.out.t) hy
   simp only [Option.some.injEq,Addr.mk.injEq,and_true] at e'
   obtain⟨rfl,rfl⟩:=e'
   have HC9':Hid (∀w',Touch (fun _=>False) w w'→w'.cell? ⟨g,oo+q*10+9,none⟩=some (.slice ha y.x.hs.length hcp)):=fun w' t=>by rw [←EHV.out];exact HC9 w' t
   rw [EHV.out] at e9
   have lg:=Qaa e0
   obtain⟨wa,hwa⟩:∃u,u=wr.alloc (.cells #[.int .u32 y.x.p.addr,.int .u8 y.x.p.bits,.int .u32 y.x.router,.int .u8 y.x.flags,.int .u8 y.x.kind,.int .u32 y.x.area,.int .u32 y.x.cost,.int .u32 y.x.dist,.int .u32 y.x.tag,.slice ha y.x.hs.length hcp] 84):=⟨_,rfl⟩
   have ta:Touch (fun _=>False) wr wa:=by rw [hwa];exact (Touch.refl _ _).alloc _
   have RX:Row wa wr.heap.size 84 [.int .u32 y.x.p.addr,.int .u8 y.x.p.bits,.int .u32 y.x.router,.int .u8 y.x.flags,.int .u8 y.x.kind,.int .u32 y.x.area,.int .u32 y.x.cost,.int .u32 y.x.dist,.int .u32 y.x.tag,.slice ha y.x.hs.length hcp]:=by rw [hwa];exact Qac _ _ _
   have c9:wa.cell? ⟨wr.heap.size,9,none⟩=some (.slice ha y.x.hs.length hcp):=RX.cell 9
   have hfz:=RX.frozen 9
   have lx:=RX.lt
   obtain⟨wb,hwb⟩:∃u,u=wa.setCell ⟨wr.heap.size,9,none⟩ (.slice none 0 0):=⟨_,rfl⟩
   have RB:Row wb wr.heap.size 84 (⟨y.x,.slice none 0 0⟩:WY).cs:=by rw [hwb];exact RX.set 9 (.slice none 0 0)
   have tb:Touch (fun _=>False) wr wb:=by rw [hwb];exact Touch.setCell (p:=⟨wr.heap.size,9,none⟩) ta (Or.inr (Nat.le_refl _)) _
   have HD3:Hid (D3 w NX TX q wr.heap.size y.x S5 (.slice none 0 0) [] wb):=HR.out.start rfl tb RB
   generalize hhl:y.x.hs.length=hl at *
   have HHL:Hid (y.x.hs.length=hl):=hhl
   have hhl4:(hl:Int)≤400:=by have:=HL4.out;omega
   have HL4':Hid (hl≤400):=HL4.out
   clear hy hmem ehv HC9 HC8 hg hlq hq hhl RB tb
   go_upto_region 6 with fail
   rw [←hwa]
   clear hwa e0 e1 e2 e3 e4 e5 e6 e7 e8 e9 lg RX ta
   go_upto_region 7 with fail
   rw [←hwb]
   clear hwb c9 hfz lx HR
   generalize wr.heap.size=b at *
   clear wr wa
   go_wp2_with fail
   go_loopg [8] hl (fun gg s8 wr=>∃(k:Nat) (hv:Value),k≤hl∧hl-k≤gg∧s8=.int .i64 k∧D3 w NX TX q b y.x S5 hv ((y.x.hs.take k).foldl (dStep TX) []) wr)
   case atStart=>exact⟨0,_,Nat.zero_le _,Nat.le_refl _,rfl,HD3.out⟩
   case round =>
    obtain⟨k,hv,hk,hgk,rfl,hd⟩:=hrel
    have HDk:Hid (D3 w NX TX q b y.x S5 hv ((y.x.hs.take k).foldl (dStep TX) []) wr):=hd
    have HT:Hid (Touch (fun _=>False) w wr):=by obtain⟨M,hM,-⟩:=hd.all;exact hM.b.t
    have k9:=HC9'.out wr HT.out
    have l9:=Qaa k9
    clear hd HD3
    by_cases hlk:k<hl
    ·skip
     have hlk':(k:Int)<(hl:Int):=Qbi hlk
     have hk00:(0:Int)≤(k:Int):=Qbj _
     have hkw:wrap64 ((k:Int)+1)=(k:Int)+1:=Qe6 (Nat.le_trans (Nat.le_trans (Nat.le_of_lt hlk) HL4'.out) (by decide))
     have HGK:Hid (k<hl∧hl-k≤gk):=⟨hlk,hgk⟩
     obtain⟨h,hh⟩:=Qcq HHL.out hlk
     have HST:Hid ((y.x.hs.take (k+1)).foldl (dStep TX) []=dStep TX ((y.x.hs.take k).foldl (dStep TX) []) h):=by show _=_;rw [List.take_add_one,hh,List.foldl_append];rfl
     have HAL:Hid (((y.x.hs.take k).foldl (dStep TX) []).length≤170000):=by
      show _≤_
      have h1:=Qew TX 400 HTM.out (y.x.hs.take k) []
      have h2:=List.length_take_le k y.x.hs
      have h3:=HHL.out
      have h4:=HL4'.out
      have h5:=Nat.mul_le_mul_right 401 (show (y.x.hs.take k).length≤400 by rw [List.length_take];omega)
      simp only [List.length_nil] at h1
      omega
     have hra:=HHV.out wr HT.out
     rw [EHV.out] at hra
     obtain⟨a2,c2,ea2,hs2⟩:=hra.out
     simp only [Value.slice.injEq] at ea2
     obtain⟨rfl,-,rfl⟩:=ea2
     rcases hs2 with e|⟨g2,o2,rfl,hc2⟩
     ·rw [e] at hh;cases hh
     have q0:wr.cell? ⟨g2,o2+k*3,none⟩=some (.int .u32 h.out):=hc2 k h hh 0 _ rfl
     have q1:wr.cell? ⟨g2,o2+k*3+1,none⟩=some (.int .u32 h.via):=hc2 k h hh 1 _ rfl
     have q2:wr.cell? ⟨g2,o2+k*3+2,none⟩=some (.bool h.vr):=hc2 k h hh 2 _ rfl
     have lq:=Qaa q0
     obtain⟨wh,hwh⟩:∃u,u=wr.alloc (.cells #[.int .u32 h.out,.int .u32 h.via,.bool h.vr] 103):=⟨_,rfl⟩
     have th:Touch (fun _=>False) wr wh:=by rw [hwh];exact (Touch.refl _ _).alloc _
     have RH:Row wh wr.heap.size 103 [.int .u32 h.out,.int .u32 h.via,.bool h.vr]:=by rw [hwh];exact Qac _ _ _
     have HDH:Hid (D3 w NX TX q b y.x S5 hv ((y.x.hs.take k).foldl (dStep TX) []) wh):=HDk.out.keep th
     have HBH:Hid (b<wr.heap.size):=HDk.out.box.lt
     generalize hacc:(y.x.hs.take k).foldl (dStep TX) []=acc at *
     have v0:wh.cell? ⟨wr.heap.size,0,none⟩=some (.int .u32 h.out):=RH.cell 0
     have v1:wh.cell? ⟨wr.heap.size,1,none⟩=some (.int .u32 h.via):=RH.cell 1
     have v2:wh.cell? ⟨wr.heap.size,2,none⟩=some (.bool h.vr):=RH.cell 2
     have lh:=RH.lt
     have HRH:Hid (Row wh wr.heap.size 103 [.int .u32 h.out,.int .u32 h.via,.bool h.vr]):=RH
     have b9:wh.cell? ⟨b,9,none⟩=some hv:=HDH.out.box.cell 9
     have lb:=HDH.out.box.lt
     clear hc2 hh hra RH th HDk hlk hgk hk hacc
     go_upto_region 11 with fail
     rw [←hwh]
     clear hwh q0 q1 q2 lq k9 l9
     generalize wr.heap.size=bh at *
     cases hvr:h.vr with
     | false =>
      have HS2:Hid ((y.x.hs.take (k+1)).foldl (dStep TX) []=pt h acc):=by show _=_;rw [HST.out];unfold dStep;rw [hvr];simp
      have HP:=Qj5 w wh hv acc h HDH.out.hd (Nat.le_trans HAL.out (by decide))
      rw [hvr] at v2 HP
      clear hvr HST
      go_wp2_with fail
      refine HP.mono ?_
      rintro e w2 ⟨v',rfl,hd2,t2⟩
      have HN:=HDH.out.store t2 hd2
      have HB2:=(HDH.out.keep t2).box
      have c2:w2.cell? ⟨b,9,none⟩=some hv:=HB2.cell 9
      have hfz:=HB2.frozen 9
      have l2:=HB2.lt
      have HNN:Hid (D3 w NX TX q b y.x S5 v' ((y.x.hs.take (k+1)).foldl (dStep TX) []) (w2.setCell ⟨b,9,none⟩ v')):=by show D3 _ _ _ _ _ _ _ _ _ _;rw [HS2.out];exact HN
      obtain⟨xa,xc,rfl⟩:=hd2.form
      clear HN HB2 hd2 t2 HP HDH HRH v0 v1 v2 lh b9 lb HS2
      generalize (pt h acc).length=xn at *
      go_wp2_with fail
      go_roundg (hl-(k+1))
      case measure=>exact Qbo HGK.out.1 HGK.out.2
      case rel=>exact⟨k+1,_,HGK.out.1,Nat.le_refl _,by first|exact Qap hkw|exact Qap rfl,HNN.out⟩
     | true =>
      have HS2:Hid ((y.x.hs.take (k+1)).foldl (dStep TX) []=rj acc (dpl TX h.via)):=by show _=_;rw [HST.out];unfold dStep;rw [hvr];simp
      rw [hvr] at v2 HRH
      have HTW:Hid (Touch (fun _=>False) w wh):=by obtain⟨M,hM,-⟩:=HDH.out.all;exact hM.b.t
      have HPL:Hid (dpl TX h.via=dpl TX h.via∧(dpl TX h.via).length≤400):=by
       refine⟨rfl,?_⟩
       unfold dpl
       split
       ·rename_i x hx
        exact Nat.le_trans (Qb7 _) (HTM.out x (List.mem_of_find?_eq_some hx))
       ·exact Nat.zero_le _
      clear hvr HST
      go_upto_region 13 with fail
      refine wp_region_held_drew (S:=fun w'=>Row w' bh 103 [.int .u32 h.out,.int .u32 h.via,.bool true]) (by kernel_rfl) (HRH.out.keep ((Touch.refl _ _).drew)) (fun hHeld=>?_)
      have TWD:Touch (fun _=>False) w wh.drew:=HTW.out.trans ((Touch.refl _ _).drew)
      have T0:Touch (fun _=>False) wh wh.drew:=(Touch.refl _ _).drew
      have b9d:wh.drew.cell? ⟨b,9,none⟩=some hv:=(HDH.out.keep T0).box.cell 9
      have lbd:b<wh.drew.heap.size:=(HDH.out.keep T0).box.lt
      refine wpAnyH_take (i:=0) (oi:=⟨some 47,_,_,_,_,_⟩) (v:=.pointer (some ⟨b,9,none⟩)) rfl (by kernel_rfl) (by kernel_rfl) (by kernel_rfl) (fun _ _ _ h=>h) (Or.inl ⟨by rfl,fun w hw=>by go_simp⟩) (by assumption) ?_
      simp only [Act.put,Qw2,Qw3,Qw4]
      refine wpAnyH_take (i:=2) (oi:=⟨some 49,_,_,_,_,_⟩) (v:=.slice ba t bc) rfl (by kernel_rfl) (by kernel_rfl) (by kernel_rfl) (fun _ _ _ h=>h) (Or.inl ⟨by rfl,fun w hw=>by go_simp⟩) (by assumption) ?_
      simp only [Act.put,Qw2,Qw3,Qw4]
      refine wpAnyH_take (i:=3) (oi:=⟨some 50,_,_,_,_,_⟩) (v:=.pointer (some ⟨bh,1,none⟩)) rfl (by kernel_rfl) (by kernel_rfl) (by kernel_rfl) (fun _ _ _ h=>h) (Or.inl ⟨by rfl,fun w hw=>by go_simp⟩) (by assumption) ?_
      simp only [Act.put,Qw2,Qw3,Qw4]
      refine wpAnyH_take (i:=4) (oi:=⟨some 51,_,_,_,_,_⟩) (v:=.int .u32 h.via) rfl (by kernel_rfl) (by kernel_rfl) (by kernel_rfl) (fun _ _ _ h=>h) (Or.inl ⟨by rfl,fun w hw=>by have c1:w.cell? ⟨bh,1,none⟩=some (.int .u32 h.via):=hw.cell 1;go_simp⟩) (by assumption) ?_
      simp only [Act.put,Qw2,Qw3,Qw4]
      refine wpAnyH_ready (rs:=[1,5]) (by kernel_rfl) (by simp) ?_
      refine AllReadyH.cons (o:=⟨some 48,_,_,_,_,_⟩) rfl (fun K hK=>?_) (AllReadyH.cons (o:=⟨some 52,_,_,_,_,_⟩) rfl (fun K hK=>?_) AllReadyH.nil)
      ·have c9:wh.drew.cell? ⟨b,9,none⟩=some hv:=(HDH.out.keep T0).box.cell 9
       have l9:=(HDH.out.keep T0).box.lt
       go_simp
       refine hK.out _ _ (HRH.out.keep T0) (fun hHeld=>?_)
       clear hK K c9 l9
       refine wpAnyH_ready (rs:=[5]) (by kernel_rfl) (by simp) ?_
       refine AllReadyH.cons (o:=⟨some 52,_,_,_,_,_⟩) rfl (fun K hK=>?_) AllReadyH.nil
       go_simp
       refine Calls.mono (HC.out wh.drew TWD h.via) ?_
       rintro e w1 ⟨p,rfl,hp⟩
       have T1:Touch (fun _=>False) wh w1:=T0.trans hp.t
       refine hK.out _ _ (HRH.out.keep T1) (fun hHeld=>?_)
       clear hK K
       refine wpAnyH_ready (rs:=[6]) (by kernel_rfl) (by simp) ?_
       refine AllReadyH.cons (o:=⟨some 53,_,_,_,_,_⟩) rfl (fun K hK=>?_) AllReadyH.nil
       go_simp
       refine Calls.mono (Qh6 w1 hv p acc (dpl TX h.via) (HV3.ra (HDH.out.keep T1).hd.vals) (HV3.ra hp.vals) (Nat.le_trans (Nat.add_le_add HAL.out HPL.out.2) (by decide))) ?_
       rintro e w2 ⟨v2,rfl,hd2⟩
       have T2:Touch (fun _=>False) wh w2:=T1.trans hd2.t
       have HD2:HD w w2 v2 (rj acc (dpl TX h.via)):=VBuf.back hd2 (TWD.trans hp.t)
       refine hK.out _ _ (HRH.out.keep T2) (fun hHeld=>?_)
       clear hK K
       have HN:Hid (D3 w NX TX q b y.x S5 v2 ((y.x.hs.take (k+1)).foldl (dStep TX) []) (w2.setCell ⟨b,9,none⟩ v2)):=by show D3 _ _ _ _ _ _ _ _ _ _;rw [HS2.out];exact HDH.out.store T2 HD2
       have HBX:=(HDH.out.keep T2).box
       have c2:w2.cell? ⟨b,9,none⟩=some hv:=HBX.cell 9
       have hfz:=HBX.frozen 9
       have l2:=HBX.lt
       have HRZ:Hid (Row (w2.setCell ⟨b,9,none⟩ v2) bh 103 [.int .u32 h.out,.int .u32 h.via,.bool true]):=Row.other (HRH.out.keep T2) (Nat.ne_of_gt HBH.out) v2
       obtain⟨xa,xc,rfl⟩:=HD2.form
       clear hd2 HD2 hp T2 T1 HDH HBX T0 TWD
       generalize (rj acc (dpl TX h.via)).length=xn at *
       refine wpAnyH_take (i:=7) (oi:=⟨some 54,_,_,_,_,_⟩) (v:=.pointer (some ⟨b,9,none⟩)) rfl (by kernel_rfl) (by kernel_rfl) (by kernel_rfl) (fun _ _ _ h=>h) (Or.inl ⟨by rfl,fun w hw=>by go_simp⟩) (by assumption) ?_
       simp only [Act.put,Qw2,Qw3,Qw4]
       refine wpAnyH_ready (rs:=[8]) (by kernel_rfl) (by simp) ?_
       refine AllReadyH.cons (o:=⟨none,_,_,_,_,_⟩) rfl (fun K hK=>?_) AllReadyH.nil
       go_simp
       refine hK.out _ _ HRZ.out (fun hHeld=>?_)
       clear hK K c2 hfz l2
       refine wpAnyH_done (by kernel_rfl) ?_ _
       clear v0 v1 v2 lh b9 lb
       go_wp2_with fail
       go_roundg (hl-(k+1))
       case measure=>exact Qbo HGK.out.1 HGK.out.2
       case rel=>exact⟨k+1,_,HGK.out.1,Nat.le_refl _,by first|exact Qap hkw|exact Qap rfl,HN.out⟩
      ·go_simp
       refine Calls.mono (HC.out wh.drew TWD h.via) ?_
       rintro e w1 ⟨p,rfl,hp⟩
       have T1:Touch (fun _=>False) wh w1:=T0.trans hp.t
       refine hK.out _ _ (HRH.out.keep T1) (fun hHeld=>?_)
       clear hK K
       refine wpAnyH_ready (rs:=[1]) (by kernel_rfl) (by simp) ?_
       refine AllReadyH.cons (o:=⟨some 48,_,_,_,_,_⟩) rfl (fun K hK=>?_) AllReadyH.nil
       have c9:w1.cell? ⟨b,9,none⟩=some hv:=(HDH.out.keep T1).box.cell 9
       have l9:=(HDH.out.keep T1).box.lt
       go_simp
       refine hK.out _ _ (HRH.out.keep T1) (fun hHeld=>?_)
       clear hK K c9 l9
       refine wpAnyH_ready (rs:=[6]) (by kernel_rfl) (by simp) ?_
       refine AllReadyH.cons (o:=⟨some 53,_,_,_,_,_⟩) rfl (fun K hK=>?_) AllReadyH.nil
       go_simp
       refine Calls.mono (Qh6 w1 hv p acc (dpl TX h.via) (HV3.ra (HDH.out.keep T1).hd.vals) (HV3.ra hp.vals) (Nat.le_trans (Nat.add_le_add HAL.out HPL.out.2) (by decide))) ?_
       rintro e w2 ⟨v2,rfl,hd2⟩
       have T2:Touch (fun _=>False) wh w2:=T1.trans hd2.t
       have HD2:HD w w2 v2 (rj acc (dpl TX h.via)):=VBuf.back hd2 (TWD.trans hp.t)
       refine hK.out _ _ (HRH.out.keep T2) (fun hHeld=>?_)
       clear hK K
       have HN:Hid (D3 w NX TX q b y.x S5 v2 ((y.x.hs.take (k+1)).foldl (dStep TX) []) (w2.setCell ⟨b,9,none⟩ v2)):=by show D3 _ _ _ _ _ _ _ _ _ _;rw [HS2.out];exact HDH.out.store T2 HD2
       have HBX:=(HDH.out.keep T2).box
       have c2:w2.cell? ⟨b,9,none⟩=some hv:=HBX.cell 9
       have hfz:=HBX.frozen 9
       have l2:=HBX.lt
       have HRZ:Hid (Row (w2.setCell ⟨b,9,none⟩ v2) bh 103 [.int .u32 h.out,.int .u32 h.via,.bool true]):=Row.other (HRH.out.keep T2) (Nat.ne_of_gt HBH.out) v2
       obtain⟨xa,xc,rfl⟩:=HD2.form
       clear hd2 HD2 hp T2 T1 HDH HBX T0 TWD
       generalize (rj acc (dpl TX h.via)).length=xn at *
       refine wpAnyH_take (i:=7) (oi:=⟨some 54,_,_,_,_,_⟩) (v:=.pointer (some ⟨b,9,none⟩)) rfl (by kernel_rfl) (by kernel_rfl) (by kernel_rfl) (fun _ _ _ h=>h) (Or.inl ⟨by rfl,fun w hw=>by go_simp⟩) (by assumption) ?_
       simp only [Act.put,Qw2,Qw3,Qw4]
       refine wpAnyH_ready (rs:=[8]) (by kernel_rfl) (by simp) ?_
       refine AllReadyH.cons (o:=⟨none,_,_,_,_,_⟩) rfl (fun K hK=>?_) AllReadyH.nil
       go_simp
       refine hK.out _ _ HRZ.out (fun hHeld=>?_)
       clear hK K c2 hfz l2
       refine wpAnyH_done (by kernel_rfl) ?_ _
       clear v0 v1 v2 lh b9 lb
       go_wp2_with fail
       go_roundg (hl-(k+1))
       case measure=>exact Qbo HGK.out.1 HGK.out.2
       case rel=>exact⟨k+1,_,HGK.out.1,Nat.le_refl _,by first|exact Qap hkw|exact Qap rfl,HN.out⟩
    ·have hlk':¬(k:Int)<(hl:Int):=Qbu hlk
     have HDE:Hid (D3 w NX TX q b y.x S5 hv (dH TX y.x.hs) wr):=by have h:=HDk.out;rw [Qgd HHL.out hlk] at h;exact h
     have hb9:=HDE.out.box
     obtain⟨ra,rc,rfl⟩:=HDE.out.hd.form
     have b9:wr.cell? ⟨b,9,none⟩=some (.slice ra (dH TX y.x.hs).length rc):=hb9.cell 9
     have lb:=hb9.lt
     have HRN:Hid ((dH TX y.x.hs).length=0→resH TX y.x.hs=[]):=fun e=>by rw [←Qrw];exact List.eq_nil_of_length_eq_zero e
     have HRP:Hid (0<(dH TX y.x.hs).length→resH TX y.x.hs≠[]):=fun h e=>by rw [Qrw,e] at h;exact absurd h (by simp)
     have HWE:Hid ({ y.x with hs:=dH TX y.x.hs }={ y.x with hs:=resH TX y.x.hs }):=by show _=_;rw [Qrw]
     have hl00:(0:Int)≤(hl:Int):=Qbj _
     clear HDk hlk hgk hk hb9 HHV HC HRA
     generalize hrn:(dH TX y.x.hs).length=rn at *
     clear hrn
     by_cases hr0:0<rn
     ·have hr0':(0:Int)<(rn:Int):=Qbi hr0
      have HK2:Hid (resW TX y.x=some { y.x with hs:=dH TX y.x.hs }):=by show _=_;rw [HWE.out];exact Qdt (Or.inr (HRP.out hr0))
      clear hr0
      go_upto_region 15 with fail
      have hb7:=HDE.out.box
      have k0:wr.cell? ⟨b,0,none⟩=some (.int .u32 y.x.p.addr):=hb7.cell 0
      have k1:wr.cell? ⟨b,1,none⟩=some (.int .u8 y.x.p.bits):=hb7.cell 1
      have k2:wr.cell? ⟨b,2,none⟩=some (.int .u32 y.x.router):=hb7.cell 2
      have k3:wr.cell? ⟨b,3,none⟩=some (.int .u8 y.x.flags):=hb7.cell 3
      have k4:wr.cell? ⟨b,4,none⟩=some (.int .u8 y.x.kind):=hb7.cell 4
      have k5:wr.cell? ⟨b,5,none⟩=some (.int .u32 y.x.area):=hb7.cell 5
      have k6:wr.cell? ⟨b,6,none⟩=some (.int .u32 y.x.cost):=hb7.cell 6
      have k7:wr.cell? ⟨b,7,none⟩=some (.int .u32 y.x.dist):=hb7.cell 7
      have k8:wr.cell? ⟨b,8,none⟩=some (.int .u32 y.x.tag):=hb7.cell 8
      have RAw:=Qac wr 84 #[.int .u32 y.x.p.addr,.int .u8 y.x.p.bits,.int .u32 y.x.router,.int .u8 y.x.flags,.int .u8 y.x.kind,.int .u32 y.x.area,.int .u32 y.x.cost,.int .u32 y.x.dist,.int .u32 y.x.tag,.slice ra rn rc]
      have T8:Touch (fun _=>False) wr (wr.alloc (.cells #[.int .u32 y.x.p.addr,.int .u8 y.x.p.bits,.int .u32 y.x.router,.int .u8 y.x.flags,.int .u8 y.x.kind,.int .u32 y.x.area,.int .u32 y.x.cost,.int .u32 y.x.dist,.int .u32 y.x.tag,.slice ra rn rc] 84)):=(Touch.refl _ _).alloc _
      have HT8:Hid (Touch (fun _=>False) wr (wr.alloc (.cells #[.int .u32 y.x.p.addr,.int .u8 y.x.p.bits,.int .u32 y.x.router,.int .u8 y.x.flags,.int .u8 y.x.kind,.int .u32 y.x.area,.int .u32 y.x.cost,.int .u32 y.x.dist,.int .u32 y.x.tag,.slice ra rn rc] 84))):=T8
      have HNA:Hid (∀(j:Nat) u,([.int .u32 y.x.p.addr,.int .u8 y.x.p.bits,.int .u32 y.x.router,.int .u8 y.x.flags,.int .u8 y.x.kind,.int .u32 y.x.area,.int .u32 y.x.cost,.int .u32 y.x.dist,.int .u32 y.x.tag,.slice ra rn rc]:List Value)[j]?=some u→(wr.alloc (.cells #[.int .u32 y.x.p.addr,.int .u8 y.x.p.bits,.int .u32 y.x.router,.int .u8 y.x.flags,.int .u8 y.x.kind,.int .u32 y.x.area,.int .u32 y.x.cost,.int .u32 y.x.dist,.int .u32 y.x.tag,.slice ra rn rc] 84)).cell? ((⟨wr.heap.size,0,none⟩:Addr).add j)=some u):=fun j u hj=>by rw [Qae,Nat.zero_add,RAw.cell j];exact hj
      obtain⟨M0,hM0,-,hMl⟩:=(HDE.out.keep T8).all
      have HO8:Hid ((wr.alloc (.cells #[.int .u32 y.x.p.addr,.int .u8 y.x.p.bits,.int .u32 y.x.router,.int .u8 y.x.flags,.int .u8 y.x.kind,.int .u32 y.x.area,.int .u32 y.x.cost,.int .u32 y.x.dist,.int .u32 y.x.tag,.slice ra rn rc] 84)).ownsRow w.heap.size 84 10 S5 M0.length (cellsG WY.cs M0)):=hM0.b.own
      have HSZ:Hid (w.heap.size≤(wr.alloc (.cells #[.int .u32 y.x.p.addr,.int .u8 y.x.p.bits,.int .u32 y.x.router,.int .u8 y.x.flags,.int .u8 y.x.kind,.int .u32 y.x.area,.int .u32 y.x.cost,.int .u32 y.x.dist,.int .u32 y.x.tag,.slice ra rn rc] 84)).heap.size):=hM0.b.t.size
      have HML:Hid (M0.length≤100):=Nat.le_trans hMl (Nat.le_trans (Nat.le_of_lt HGQ.out.1) (Nat.le_trans HNB.out (by decide)))
      clear RAw T8 hM0 hMl hb7 HRN HRP
      go_wp2_with (at_builtin;refine Qby rfl (.tmp 68) (.tmp 70) 30 rfl 84 10 56 (.agg #[.int .u32 0,.int .u8 0,.int .u32 0,.int .u8 0,.int .u8 0,.int .u32 0,.int .u32 0,.int .u32 0,.int .u32 0,.slice none 0 0]) Tryz.underlying30 infoDWay rfl (by decide) (by decide) w.heap.size S5 M0.length _ rfl HO8.out HSZ.out ⟨wr.heap.size,0,none⟩ 1 1 [.int .u32 y.x.p.addr,.int .u8 y.x.p.bits,.int .u32 y.x.router,.int .u8 y.x.flags,.int .u8 y.x.kind,.int .u32 y.x.area,.int .u32 y.x.cost,.int .u32 y.x.dist,.int .u32 y.x.tag,.slice ra rn rc] rfl rfl HNA.out (Qgx _ _ _ _ _ _ _ _ _ _ _ _) (Nat.le_trans (Nat.add_le_add_right HML.out 1) (by decide)) ?_)
      intro v' w8 hown TG
      have HN2:Hid (D2 w NX TX (q+1) v' w8):=by
       refine HDE.out.app HX.out HK2.out HT8.out (fun M hM=>?_) TG
       have e1:M.length=M0.length:=by
        obtain⟨a1,c1,e1⟩:=Qah hM.b.own
        obtain⟨a2,c2,e2⟩:=Qah HO8.out
        rw [e1] at e2
        simp only [Value.slice.injEq] at e2
        exact e2.2.1
       have e2:=Qdd hM.b.own HO8.out e1
       rw [e1,e2]
       exact hown
      obtain⟨f1,f2,rfl⟩:=Qah hown
      clear hown TG HO8 HNA HSZ HT8 HDE HK2
      generalize M0.length+1=ml at *
      clear HML
      go_wp2_with fail
      go_roundg (n-(q+1))
      case measure=>exact Qbo HGQ.out.1 HGQ.out.2
      case rel=>exact⟨q+1,_,HGQ.out.1,Nat.le_refl _,by first|exact Qap hqw|exact Qap rfl,rfl,HN2.out⟩
     ·have hr0':¬(0:Int)<(rn:Int):=Qbu hr0
      obtain rfl:rn=0:=Nat.eq_zero_of_not_pos hr0
      clear hr0'
      by_cases h0:hl=0
      ·have hb0:((hl:Int)==0)=true:=by rw [h0];rfl
       have HK2:Hid (resW TX y.x=some { y.x with hs:=dH TX y.x.hs }):=by show _=_;rw [HWE.out];exact Qdt (Or.inl (List.eq_nil_of_length_eq_zero (HHL.out.trans h0)))
       clear h0 hr0
       go_upto_region 15 with fail
       have hb7:=HDE.out.box
       have k0:wr.cell? ⟨b,0,none⟩=some (.int .u32 y.x.p.addr):=hb7.cell 0
       have k1:wr.cell? ⟨b,1,none⟩=some (.int .u8 y.x.p.bits):=hb7.cell 1
       have k2:wr.cell? ⟨b,2,none⟩=some (.int .u32 y.x.router):=hb7.cell 2
       have k3:wr.cell? ⟨b,3,none⟩=some (.int .u8 y.x.flags):=hb7.cell 3
       have k4:wr.cell? ⟨b,4,none⟩=some (.int .u8 y.x.kind):=hb7.cell 4
       have k5:wr.cell? ⟨b,5,none⟩=some (.int .u32 y.x.area):=hb7.cell 5
       have k6:wr.cell? ⟨b,6,none⟩=some (.int .u32 y.x.cost):=hb7.cell 6
       have k7:wr.cell? ⟨b,7,none⟩=some (.int .u32 y.x.dist):=hb7.cell 7
       have k8:wr.cell? ⟨b,8,none⟩=some (.int .u32 y.x.tag):=hb7.cell 8
       have RAw:=Qac wr 84 #[.int .u32 y.x.p.addr,.int .u8 y.x.p.bits,.int .u32 y.x.router,.int .u8 y.x.flags,.int .u8 y.x.kind,.int .u32 y.x.area,.int .u32 y.x.cost,.int .u32 y.x.dist,.int .u32 y.x.tag,.slice ra 0 rc]
       have T8:Touch (fun _=>False) wr (wr.alloc (.cells #[.int .u32 y.x.p.addr,.int .u8 y.x.p.bits,.int .u32 y.x.router,.int .u8 y.x.flags,.int .u8 y.x.kind,.int .u32 y.x.area,.int .u32 y.x.cost,.int .u32 y.x.dist,.int .u32 y.x.tag,.slice ra 0 rc] 84)):=(Touch.refl _ _).alloc _
       have HT8:Hid (Touch (fun _=>False) wr (wr.alloc (.cells #[.int .u32 y.x.p.addr,.int .u8 y.x.p.bits,.int .u32 y.x.router,.int .u8 y.x.flags,.int .u8 y.x.kind,.int .u32 y.x.area,.int .u32 y.x.cost,.int .u32 y.x.dist,.int .u32 y.x.tag,.slice ra 0 rc] 84))):=T8
       have HNA:Hid (∀(j:Nat) u,([.int .u32 y.x.p.addr,.int .u8 y.x.p.bits,.int .u32 y.x.router,.int .u8 y.x.flags,.int .u8 y.x.kind,.int .u32 y.x.area,.int .u32 y.x.cost,.int .u32 y.x.dist,.int .u32 y.x.tag,.slice ra 0 rc]:List Value)[j]?=some u→(wr.alloc (.cells #[.int .u32 y.x.p.addr,.int .u8 y.x.p.bits,.int .u32 y.x.router,.int .u8 y.x.flags,.int .u8 y.x.kind,.int .u32 y.x.area,.int .u32 y.x.cost,.int .u32 y.x.dist,.int .u32 y.x.tag,.slice ra 0 rc] 84)).cell? ((⟨wr.heap.size,0,none⟩:Addr).add j)=some u):=fun j u hj=>by rw [Qae,Nat.zero_add,RAw.cell j];exact hj
       obtain⟨M0,hM0,-,hMl⟩:=(HDE.out.keep T8).all
       have HO8:Hid ((wr.alloc (.cells #[.int .u32 y.x.p.addr,.int .u8 y.x.p.bits,.int .u32 y.x.router,.int .u8 y.x.flags,.int .u8 y.x.kind,.int .u32 y.x.area,.int .u32 y.x.cost,.int .u32 y.x.dist,.int .u32 y.x.tag,.slice ra 0 rc] 84)).ownsRow w.heap.size 84 10 S5 M0.length (cellsG WY.cs M0)):=hM0.b.own
       have HSZ:Hid (w.heap.size≤(wr.alloc (.cells #[.int .u32 y.x.p.addr,.int .u8 y.x.p.bits,.int .u32 y.x.router,.int .u8 y.x.flags,.int .u8 y.x.kind,.int .u32 y.x.area,.int .u32 y.x.cost,.int .u32 y.x.dist,.int .u32 y.x.tag,.slice ra 0 rc] 84)).heap.size):=hM0.b.t.size
       have HML:Hid (M0.length≤100):=Nat.le_trans hMl (Nat.le_trans (Nat.le_of_lt HGQ.out.1) (Nat.le_trans HNB.out (by decide)))
       clear RAw T8 hM0 hMl hb7 HRN HRP
       go_wp2_with (at_builtin;refine Qby rfl (.tmp 68) (.tmp 70) 30 rfl 84 10 56 (.agg #[.int .u32 0,.int .u8 0,.int .u32 0,.int .u8 0,.int .u8 0,.int .u32 0,.int .u32 0,.int .u32 0,.int .u32 0,.slice none 0 0]) Tryz.underlying30 infoDWay rfl (by decide) (by decide) w.heap.size S5 M0.length _ rfl HO8.out HSZ.out ⟨wr.heap.size,0,none⟩ 1 1 [.int .u32 y.x.p.addr,.int .u8 y.x.p.bits,.int .u32 y.x.router,.int .u8 y.x.flags,.int .u8 y.x.kind,.int .u32 y.x.area,.int .u32 y.x.cost,.int .u32 y.x.dist,.int .u32 y.x.tag,.slice ra 0 rc] rfl rfl HNA.out (Qgx _ _ _ _ _ _ _ _ _ _ _ _) (Nat.le_trans (Nat.add_le_add_right HML.out 1) (by decide)) ?_)
       intro v' w8 hown TG
       have HN2:Hid (D2 w NX TX (q+1) v' w8):=by
        refine HDE.out.app HX.out HK2.out HT8.out (fun M hM=>?_) TG
        have e1:M.length=M0.length:=by
         obtain⟨a1,c1,e1⟩:=Qah hM.b.own
         obtain⟨a2,c2,e2⟩:=Qah HO8.out
         rw [e1] at e2
         simp only [Value.slice.injEq] at e2
         exact e2.2.1
        have e2:=Qdd hM.b.own HO8.out e1
        rw [e1,e2]
        exact hown
       obtain⟨f1,f2,rfl⟩:=Qah hown
       clear hown TG HO8 HNA HSZ HT8 HDE HK2
       generalize M0.length+1=ml at *
       clear HML
       go_wp2_with fail
       go_roundg (n-(q+1))
       case measure=>exact Qbo HGQ.out.1 HGQ.out.2
       case rel=>exact⟨q+1,_,HGQ.out.1,Nat.le_refl _,by first|exact Qap hqw|exact Qap rfl,rfl,HN2.out⟩
      ·have hb0:((hl:Int)==0)=false:=by rw [beq_eq_false_iff_ne];omega
       have HHN:Hid (y.x.hs≠[]):=fun e=>h0 (by rw [←HHL.out,e];rfl)
       have HN2:Hid (D2 w NX TX (q+1) S5 wr):=HDE.out.skip HX.out (Qg8 HHN.out (HRN.out rfl))
       clear hr0 HRN HRP HDE h0
       go_wp2_with fail
       go_roundg (n-(q+1))
       case measure=>exact Qbo HGQ.out.1 HGQ.out.2
       case rel=>exact⟨q+1,_,HGQ.out.1,Nat.le_refl _,by first|exact Qap hqw|exact Qap rfl,rfl,HN2.out⟩
  ·have hlq':¬(q:Int)<(n:Int):=Qbu hlq
   obtain rfl:q=n:=Nat.le_antisymm hq (Nat.le_of_not_lt hlq)
   obtain⟨M,hM,hMx,-⟩:=HR.out.all
   rw [HNF.out] at hMx
   obtain⟨ua,uc,rfl⟩:=Qah hM.b.own
   have HM:Hid (DW w wr (.slice ua M.length uc) M∧M.map (·.x)=NX.filterMap (resW TX)):=And.intro hM hMx
   clear hM hMx
   generalize M.length=ml at *
   go_wp2_with fail
   go_ret
   exact⟨_,M,rfl,HM.out.1,HM.out.2⟩
end Go.Proofs.YtddbffoiadmffaaGreat
