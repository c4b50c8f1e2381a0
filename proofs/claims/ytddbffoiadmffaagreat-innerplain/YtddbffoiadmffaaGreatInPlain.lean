import Derived.Test.YtddbffoiadmffaaGreatInPlnP
import Derived.Test.YtddbffoiadmffaaGreatInRiseP
import Derived.Deep.QuietTactic
import Derived.BigQuiet
namespace Go.Proofs.YtddbffoiadmffaaGreat
set_option maxHeartbeats 8000000
open Go.RowKit
set_option linter.unusedVariables false
set_option maxRecDepth 100000
theorem Qvc {w wr:World} {v:Value} {L:List WY} (h:WB1 w wr v L) (h1:∀y∈L,0≤y.x.router∧y.x.router≤4294967295) (h2:∀y∈L,∀h∈y.x.hs,0≤h.via∧h.via≤4294967295) (h3:∀y∈L,y.x.hs.length≤400):WRd wr v L:=by
 refine⟨?_,fun y hy=>Qa5 (h.h y hy),h1,h2,h3⟩
 have r:RG WY.cs 10 45 w.heap.size wr v L:=h.b.own
 by_cases h0:0<L.length
 ·obtain⟨g,c,rfl,-⟩:=RG.form r h0
  exact⟨_,c,rfl,Or.inr ⟨g,0,rfl,fun i x hx d u hd=>by rw [Nat.zero_add];exact RG.cell WY.len r hx hd⟩⟩
 ·obtain⟨a,c,rfl⟩:=RG.shape r
  exact⟨a,c,rfl,Or.inl (List.eq_nil_of_length_eq_zero (by omega))⟩
structure LkW (NX:List WP):Prop where
 rt:∀x∈NX,0≤x.router∧x.router≤4294967295
 vi:∀x∈NX,∀h∈x.hs,0≤h.via∧h.via≤4294967295
 ln:∀x∈NX,x.hs.length≤400
theorem LkW.of {w:World} {v:Value} {l:List WY} (h:WsAt w v l) (hb:∀y∈l,y.x.hs.length≤400):LkW (l.map (·.x)):=by
 refine⟨fun x hx=>?_,fun x hx=>?_,fun x hx=>?_⟩ <;> obtain⟨y,hy,rfl⟩:=List.mem_map.1 hx
 ·exact (h.ok y hy).nk.rt
 ·exact (h.ok y hy).vi
 ·exact hb y hy
theorem LkW.pr {N:List WP} (h:LkW N):LkW (N.map prW):=by
 refine⟨fun x hx=>?_,fun x hx=>?_,fun x hx=>?_⟩ <;> obtain⟨y,hy,rfl⟩:=List.mem_map.1 hx
 ·exact h.rt y hy
 ·exact Qs3 (h.vi y hy)
 ·exact Nat.le_trans (Ql8 _) (h.ln y hy)
theorem LkW.rd {w wr:World} {v:Value} {L:List WY} {N:List WP} (h:LkW N) (hL:L.map (·.x)=N) (hw:WB1 w wr v L):WRd wr v L:=by
 have m:∀y∈L,y.x∈N:=fun y hy=>by rw [←hL];exact List.mem_map.2 ⟨y,hy,rfl⟩
 exact Qvc hw (fun y hy=>h.rt _ (m y hy)) (fun y hy=>h.vi _ (m y hy)) (fun y hy=>h.ln _ (m y hy))
theorem Qt9 (w:World) (h:HK):HV3 (w.alloc (.cells #[.int .u32 h.out,.int .u32 h.via,.bool h.vr] 48)) (.slice (some ⟨w.heap.size,0,none⟩) 1 1) [h]:=by
 have:=World.ownsRow_lit (base:=0) (e:=48) (size:=3) w #[.int .u32 h.out,.int .u32 h.via,.bool h.vr] 1 (Nat.zero_le _) (by simp [maxLen]) (by simp)
 exact Qa5 this
structure TwA (w:World) (g q:Nat) (x:WP) (hv:Value):Prop where
 e0:w.cell? ⟨g,q*10,none⟩=some (.int .u32 x.p.addr)
 e1:w.cell? ⟨g,q*10+1,none⟩=some (.int .u8 x.p.bits)
 e2:w.cell? ⟨g,q*10+2,none⟩=some (.int .u32 x.router)
 e9:w.cell? ⟨g,q*10+9,none⟩=some hv
 ho:HO w hv (plF x.hs)
theorem TwA.keep {w w':World} {g q:Nat} {x:WP} {hv:Value} (h:TwA w g q x hv) (t:Touch (fun _=>False) w w'):TwA w' g q x hv :=
 ⟨t.cellN h.e0,t.cellN h.e1,t.cellN h.e2,t.cellN h.e9,Qab h.ho t (fun _ _ h=>h)⟩
theorem Qsb {w0 w:World} {va:Option Addr} {n vc:Nat} {L:List WY} {NX:List WP} (h:WB1 w0 w (.slice va n vc) L) (hL:L.map (·.x)=NX.map prW) {q:Nat} {x:WP} (hx:NX[q]?=some x):∃g hv,va=some ⟨g,0,none⟩∧TwA w g q x hv:=by
 have h3:(L.map (·.x))[q]?=some (prW x):=by rw [hL,List.getElem?_map,hx];rfl
 rw [List.getElem?_map] at h3
 cases hy:L[q]? with
 | none=>rw [hy] at h3;cases h3
 | some y =>
  rw [hy] at h3
  have e:y.x=prW x:=Option.some.inj h3
  have r:RG WY.cs 10 45 w0.heap.size w (.slice va n vc) L:=h.b.own
  obtain⟨g,c,e2,-⟩:=RG.form r (Nat.lt_of_le_of_lt (Nat.zero_le _) (List.getElem?_eq_some_iff.1 hy).1)
  simp only [Value.slice.injEq] at e2
  obtain⟨rfl,rfl,rfl⟩:=e2
  have ho:=h.h y (List.mem_of_getElem? hy)
  rw [e] at ho
  refine⟨g,y.hv,rfl,?_,?_,?_,RG.cell (i:=q) (d:=9) WY.len r hy rfl,ho⟩
  ·have:=RG.cell (i:=q) (d:=0) WY.len r hy rfl
   rw [e] at this
   exact this
  ·have:=RG.cell (i:=q) (d:=1) WY.len r hy rfl
   rw [e] at this
   exact this
  ·have:=RG.cell (i:=q) (d:=2) WY.len r hy rfl
   rw [e] at this
   exact this
theorem plain18 (vl vt:Value) (l T:List WY) (w:World) (A:WsAt w vl l) (C:WsAt w vt T) (hl:l.length≤140737488355328) (ht:T.length≤140737488355328) :
  Calls Tryz.prog 7 #[vl,vt] w fun e w'=>e=.returned (.bool true)∧Touch (fun _=>False) w w':=by
 have HB1:=Qjv vl l w A hl
 have HB2:=Qjv vt T w C ht
 have HW:=works18
 have HA:Hid (WsAt w vl l):=A
 have HC:Hid (WsAt w vt T):=C
 obtain⟨la,lc,rfl,-⟩:=A.sh
 obtain⟨ta,tc,rfl,-⟩:=C.sh
 clear A C hl ht
 go_enter Tryz.func7,Tryz.ntmps7
 go_wp2_with fail
 refine HB1.mono ?_
 rintro e w1 ⟨b1,rfl,h1,rfl⟩
 cases b1 with
 | true =>
  clear HB1 HB2 h1
  go_wp2_with fail
  refine (HW _).mono ?_
  rintro e w1 ⟨rfl,t1⟩
  have T1:Hid _:=t1
  clear t1 HW
  go_wp2_with fail
  go_ret
  exact⟨rfl,T1.out⟩
 | false =>
  have H1:Hid _:=h1 rfl
  clear h1 HB1
  go_wp2_with fail
  refine HB2.mono ?_
  rintro e w1 ⟨b2,rfl,h2,rfl⟩
  cases b2 with
  | true =>
   clear HB2 h2
   go_wp2_with fail
   refine (HW _).mono ?_
   rintro e w1 ⟨rfl,t1⟩
   have T1:Hid _:=t1
   clear t1 HW
   go_wp2_with fail
   go_ret
   exact⟨rfl,T1.out⟩
  | false =>
   have H2:=h2 rfl
   have HM:=Qfs _ l w HA.out H1.out.1 H1.out.2
   have HM2:Hid (∀w',Touch (fun _=>False) w w'→Calls Tryz.prog 17 #[.slice ta T.length tc] w' (WsP w' T)):=fun w' t=>Qfs _ T w' (HC.out.keep t) H2.1 H2.2
   have HLN:Hid (LkW (l.map (·.x))):=LkW.of HA.out H1.out.2
   have HLT:Hid (LkW (T.map (·.x))):=LkW.of HC.out H2.2
   have HTL:Hid (T.length≤60):=H2.1
   have HL60:Hid ((l.map (·.x)).length≤60):=by show _≤_;rw [List.length_map];exact H1.out.1
   clear HB2 h2 H2 H1 HA HC
   go_wp2_with fail
   refine HM.mono ?_
   rintro e w1 ⟨v1,L0,rfl,hw1,hx1⟩
   generalize l.map (·.x)=NX at *
   obtain⟨va,vc,rfl⟩:=Qah hw1.b.own
   have HN:Hid (L0.length=NX.length):=by
    show L0.length=NX.length
    have:=congrArg List.length hx1
    simpa using this
   have HP0:Hid (PlA w (.slice va L0.length vc) NX 0 w1):=⟨L0,hw1,by simpa using hx1⟩
   clear hw1 hx1 HM
   generalize L0.length=n at *
   have hn60:(n:Int)≤60:=by have:=HN.out;have:=HL60.out;omega
   have HN60:Hid (n≤60):=by show _≤_;omega
   go_wp2_with fail
   go_loopg [6] n (fun gg s6 wr=>∃i:Nat,i≤n∧n-i≤gg∧s6=.int .i64 i∧PlA w (.slice va n vc) NX i wr)
   case atStart=>exact⟨0,Nat.zero_le _,Nat.le_refl _,rfl,HP0.out⟩
   case round =>
    obtain⟨i,hi,hg,rfl,hp⟩:=hrel
    have HP:Hid (PlA w (.slice va n vc) NX i wr):=hp
    clear HP0 hp
    by_cases hlt:i<n
    ·skip
     have hlt':(i:Int)<(n:Int):=Qbr hlt
     have hi00:(0:Int)≤(i:Int):=Qbq _
     have hiw:wrap64 ((i:Int)+1)=(i:Int)+1:=Qhq (Nat.le_trans (Nat.le_trans (Nat.le_of_lt hlt) HN60.out) (by decide))
     have HGI:Hid (i<n∧n-i≤gk):=⟨hlt,hg⟩
     obtain⟨x,hx⟩:=Qdq HN.out.symm hlt
     have HX:Hid (NX[i]?=some x):=hx
     obtain⟨g,rfl⟩:∃g,va=some ⟨g,0,none⟩:=by
      obtain⟨L,hL,-⟩:=HP.out.out
      obtain⟨a,c,e⟩:=Qah hL.b.own
      simp only [Value.slice.injEq] at e
      obtain⟨g,c2,e2,-⟩:=RG.form (show RG WY.cs 10 45 w.heap.size wr _ L from hL.b.own) (by rw [←e.2.1];exact Nat.lt_of_le_of_lt (Nat.zero_le _) hlt)
      simp only [Value.slice.injEq] at e2
      exact⟨g,e2.1⟩
     obtain⟨hv,c9⟩:=HP.out.at hx
     obtain⟨ha,hcp,rfl⟩:=Qah c9.ho
     have HCC:Hid (PlC w wr g i x (.slice ha x.hs.length hcp)):=c9
     have d9:=c9.c9
     have lg:=c9.lt
     have HLX:Hid (x.hs.length≤400):=HLN.out.ln x (List.mem_of_getElem? hx)
     generalize hhl:x.hs.length=hl at *
     have HHL:Hid (x.hs.length=hl):=hhl
     have hhl4:(hl:Int)≤400:=by have:=HLX.out;omega
     clear c9 hx hhl hlt hg hi
     go_wp2_with fail
     go_loopg [7,8] hl (fun gg s7 s8 wr2=>∃(k:Nat) (S7:Value),k≤hl∧hl-k≤gg∧s8=.int .i64 k∧S7=s7∧HO wr2 S7 (plF (x.hs.take k))∧Touch (fun _=>False) wr wr2)
     case atStart=>exact⟨0,_,Nat.zero_le _,Nat.le_refl _,rfl,rfl,World.ownsRow_nil _ _ _ _,Touch.refl _ _⟩
     case round =>
      obtain⟨k,S7,hk,hgk,rfl,rfl,hho,ht⟩:=hrel
      have HHO:Hid (HO wr S7 (plF (x.hs.take k))):=hho
      have HT:Hid (Touch (fun _=>False) _ wr):=ht
      have e9:wr.cell? ⟨g,i*10+9,none⟩=some (.slice ha hl hcp):=ht.cellN d9
      have lg9:g<wr.heap.size:=Nat.lt_of_lt_of_le lg ht.size
      clear hho ht d9 lg
      by_cases hlk:k<hl
      ·as_aux_lemma =>
       have hlk':(k:Int)<(hl:Int):=Qbr hlk
       have hk00:(0:Int)≤(k:Int):=Qbq _
       have hkw:wrap64 ((k:Int)+1)=(k:Int)+1:=Qhq (Nat.le_trans (Nat.le_trans (Nat.le_of_lt hlk) HLX.out) (by decide))
       have HGK:Hid (k<hl∧hl-k≤gk):=⟨hlk,hgk⟩
       obtain⟨h,hh⟩:=Qdq HHL.out hlk
       have hho2:HO wr (.slice ha hl hcp) x.hs:=Qab HCC.out.ho HT.out (fun _ _ h=>h)
       obtain⟨a2,c2,ea2,hs2⟩:=(HV3.ra (Qa5 hho2)).out
       simp only [Value.slice.injEq] at ea2
       obtain⟨rfl,-,rfl⟩:=ea2
       rcases hs2 with e|⟨g2,o2,rfl,hc2⟩
       ·rw [e] at hh;cases hh
       have q0:wr.cell? ⟨g2,o2+k*3,none⟩=some (.int .u32 h.out):=hc2 k h hh 0 _ rfl
       have q1:wr.cell? ⟨g2,o2+k*3+1,none⟩=some (.int .u32 h.via):=hc2 k h hh 1 _ rfl
       have q2:wr.cell? ⟨g2,o2+k*3+2,none⟩=some (.bool h.vr):=hc2 k h hh 2 _ rfl
       have lq:=Qaa q0
       obtain⟨wa,hwa⟩:∃u,u=wr.alloc (.cells #[.int .u32 h.out,.int .u32 h.via,.bool h.vr] 48):=⟨_,rfl⟩
       have ta:Touch (fun _=>False) wr wa:=by rw [hwa];exact (Touch.refl _ _).alloc _
       have RX:Row wa wr.heap.size 48 [.int .u32 h.out,.int .u32 h.via,.bool h.vr]:=by rw [hwa];exact Qac _ _ _
       have u2:wa.cell? ⟨wr.heap.size,2,none⟩=some (.bool h.vr):=RX.cell 2
       have hfz:=RX.frozen 2
       have lx:=RX.lt
       obtain⟨wb,hwb⟩:∃u,u=wa.setCell ⟨wr.heap.size,2,none⟩ (.bool false):=⟨_,rfl⟩
       have RB:Row wb wr.heap.size 48 [.int .u32 h.out,.int .u32 h.via,.bool false]:=by rw [hwb];exact RX.set 2 (.bool false)
       have tb:Touch (fun _=>False) wr wb:=by
        rw [hwb]
        exact Touch.setCell (p:=⟨wr.heap.size,2,none⟩) ta (Or.inr (Nat.le_refl _)) _
       have b0:wb.cell? ⟨wr.heap.size,0,none⟩=some (.int .u32 h.out):=RB.cell 0
       have b1:wb.cell? ⟨wr.heap.size,1,none⟩=some (.int .u32 h.via):=RB.cell 1
       have b2:wb.cell? ⟨wr.heap.size,2,none⟩=some (.bool false):=RB.cell 2
       have lb:=RB.lt
       have TC:Touch (fun _=>False) wb (wb.alloc (.cells #[.int .u32 h.out,.int .u32 h.via,.bool false] 48)):=(Touch.refl _ _).alloc _
       have HTC:Hid (Touch (fun _=>False) wr (wb.alloc (.cells #[.int .u32 h.out,.int .u32 h.via,.bool false] 48))):=tb.trans TC
       have hlen:(plF (x.hs.take k)).length≤400:=Nat.le_trans (Ql8 _) (Nat.le_trans (List.length_take_le' k x.hs) (by rw [HHL.out];exact HLX.out))
       have HJ:=Qg5 (wb.alloc (.cells #[.int .u32 h.out,.int .u32 h.via,.bool false] 48)) S7 (.slice (some ⟨wb.heap.size,0,none⟩) 1 1) (plF (x.hs.take k)) [unv h] (plF (x.hs.take (k+1))) (Qa5 (Qab HHO.out HTC.out (fun _ _ h=>h))) (Qt9 wb (unv h)) (by simp only [List.length_cons,List.length_nil];omega) (Qjd _) (Qqs hh)
       obtain⟨sa,sc,rfl⟩:=Qah HHO.out
       generalize (plF (x.hs.take k)).length=sn at *
       clear hc2 hh hho2 RX RB ta tb TC hlen hlk hgk hk
       go_upto_region 12 with fail
       rw [←hwa]
       clear hwa q0 q1 q2 lq e9 lg9
       go_upto_region 13 with fail
       rw [←hwb]
       clear hwb u2 hfz lx
       go_wp2_with fail
       refine HJ.mono ?_
       rintro e w6 ⟨r,rfl,hb,t6⟩
       have HF:Hid (HO w6 r (plF (x.hs.take (k+1)))):=Qao hb.own (Nat.zero_le _)
       have HT6:Hid _:=HT.out.trans (HTC.out.trans t6)
       clear hb t6 HJ b0 b1 b2 lb HTC
       go_wp2_with fail
       go_roundg (hl-(k+1))
       case measure=>exact Qcl HGK.out.1 HGK.out.2
       case rel=>exact⟨k+1,_,HGK.out.1,Nat.le_refl _,by first|exact Qay hkw|exact Qay rfl,rfl,HF.out,HT6.out⟩
      ·as_aux_lemma =>
       have hlk':¬(k:Int)<(hl:Int):=Qch hlk
       have HPk:PlA w (.slice (some ⟨g,0,none⟩) n vc) NX i wr:=HP.out.keep HT.out
       have hfin:HO wr S7 (plF x.hs):=by have:=HHO.out;rw [Qjg HHL.out hlk] at this;exact this
       have HPN:Hid (PlA w (.slice (some ⟨g,0,none⟩) n vc) NX (i+1) (wr.setCell ⟨g,i*10+9,none⟩ S7)):=HPk.put HX.out hfin
       obtain⟨sa,sc,rfl⟩:=Qah hfin
       have hfz:wr.frozen? ⟨g,i*10+9,none⟩=false:=by
        obtain⟨L,hL,-⟩:=HPk.out
        exact RG.fz (show RG WY.cs 10 45 w.heap.size wr _ L from hL.b.own) _
       clear HPk hfin HHO HT hlk hgk hk
       generalize (plF x.hs).length=sn at *
       go_wp2_with fail
       go_roundg (n-(i+1))
       case measure=>exact Qcl HGI.out.1 HGI.out.2
       case rel=>exact⟨i+1,HGI.out.1,Nat.le_refl _,by first|exact Qay hiw|exact Qay rfl,HPN.out⟩
    ·skip
     have hlt':¬(i:Int)<(n:Int):=Qch hlt
     obtain rfl:n=i:=(Nat.le_antisymm hi (Nat.le_of_not_lt hlt)).symm
     obtain⟨L,hL,hLx⟩:=HP.out.out
     have hLp:L.map (·.x)=NX.map prW:=by
      rw [hLx,HN.out,List.take_length,List.drop_length,List.append_nil]
     have HL:Hid (WB1 w wr (.slice va n vc) L):=hL
     have HLX:Hid (L.map (·.x)=NX.map prW):=hLp
     have HWL:Hid (∀w',Touch (fun _=>False) wr w'→WRd w' (.slice va n vc) L):=fun w' t=>(HLN.out.pr).rd hLp (hL.keep t)
     have HLL:Hid (L.length=n):=by
      show L.length=n
      have:=congrArg List.length hLp
      simp only [List.length_map] at this
      rw [this,HN.out]
     have HM3:=HM2.out wr hL.b.t
     clear HP hL hLx hLp hlt hi hg
     generalize wr=w3 at *
     go_wp2_with fail
     refine HM3.mono ?_
     rintro e w4 ⟨v2,T0,rfl,hw2,hx2⟩
     have HRS:=Qi4 (.slice va n vc) v2 L T0 w4 (HWL.out w4 hw2.b.t) (HLT.out.rd hx2 hw2) (by rw [HLL.out];exact HN60.out) (by have:=congrArg List.length hx2;simp only [List.length_map] at this;rw [this];exact HTL.out)
     have HT4:Hid (Touch (fun _=>False) w3 w4):=hw2.b.t
     obtain⟨xa,xc,rfl⟩:=Qah hw2.b.own
     generalize T0.length=t0 at *
     clear hw2 hx2 HM3
     go_wp2_with fail
     refine HRS.mono ?_
     rintro e w5 ⟨v3,M,rfl,hw3,hx3⟩
     rw [HLX.out,Qmd] at hx3
     have HM5:Hid (WB1 w4 w5 v3 M):=hw3
     have HMX:Hid (M.map (·.x)=NX.map prW):=hx3
     have HML:Hid (M.length=n):=by
      show M.length=n
      have:=congrArg List.length hx3
      simp only [List.length_map] at this
      rw [this,HN.out]
     have HL5:Hid (WB1 w w5 (.slice va n vc) L):=HL.out.keep (HT4.out.trans hw3.b.t)
     obtain⟨ma,mc,rfl⟩:=Qah hw3.b.own
     rw [HML.out] at HM5 ⊢
     clear hw3 hx3 HRS HL HWL
     have HBOTH:Hid (∀(q:Nat) (x:WP),NX[q]?=some x→∃gl hvl gm hvm,va=some ⟨gl,0,none⟩∧ma=some ⟨gm,0,none⟩∧TwA w5 gl q x hvl∧TwA w5 gm q x hvm):=fun q x hx=>by
      obtain⟨gl,hvl,a1,a2⟩:=Qsb HL5.out HLX.out hx
      obtain⟨gm,hvm,b1,b2⟩:=Qsb HM5.out HMX.out hx
      exact⟨gl,hvl,gm,hvm,a1,b1,a2,b2⟩
     have HT5:Hid (Touch (fun _=>False) w w5):=HL5.out.b.t
     clear HL5 HM5 HMX HLX HML HLL HT4
     go_wp2_with fail
     go_loopg [11] n (fun gg s11 wr=>∃q:Nat,q≤n∧n-q≤gg∧s11=.int .i64 q∧Touch (fun _=>False) w5 wr)
     case atStart=>exact⟨0,Nat.zero_le _,Nat.le_refl _,rfl,Touch.refl _ _⟩
     case round =>
      obtain⟨q,hq,hg,rfl,ht⟩:=hrel
      have HT:Hid (Touch (fun _=>False) w5 wr):=ht
      clear ht
      by_cases hlq:q<n
      ·skip
       have hlq':(q:Int)<(n:Int):=Qbr hlq
       have hq00:(0:Int)≤(q:Int):=Qbq _
       have hqw:wrap64 ((q:Int)+1)=(q:Int)+1:=Qhq (Nat.le_trans (Nat.le_trans (Nat.le_of_lt hlq) HN60.out) (by decide))
       have HGQ:Hid (q<n∧n-q≤gk):=⟨hlq,hg⟩
       obtain⟨x,hx⟩:=Qdq HN.out.symm hlq
       obtain⟨gl,hvl,gm,hvm,rfl,rfl,al,am⟩:=HBOTH.out q x hx
       obtain⟨hla,hlc,rfl⟩:=Qah al.ho
       obtain⟨hma,hmc,rfl⟩:=Qah am.ho
       have HAL:Hid (TwA w5 gl q x (.slice hla (plF x.hs).length hlc)):=al
       have HAM:Hid (TwA w5 gm q x (.slice hma (plF x.hs).length hmc)):=am
       obtain⟨l0,l1,l2,l9,-⟩:=al.keep HT.out
       obtain⟨m0,m1,m2,m9,-⟩:=am.keep HT.out
       have hEP:=eqPxx x.p.addr x.p.bits
       generalize hpn:(plF x.hs).length=pn at *
       have HPN:Hid ((plF x.hs).length=pn):=hpn
       have hrr:(x.router != x.router)=false:=by simp
       have hnn:((pn:Int) != (pn:Int))=false:=by simp
       clear al am hx hpn hlq hg hq
       go_wp2_with fail
       go_big_quiet (fail)
       go_wp2_with fail
       clear hEP l0 l1 l2 m0 m1 m2
       go_loopg [12] pn (fun gg s12 wr=>∃k:Nat,k≤pn∧pn-k≤gg∧s12=.int .i64 k∧Touch (fun _=>False) w5 wr)
       case atStart=>exact⟨0,Nat.zero_le _,Nat.le_refl _,rfl,HT.out.drewN _⟩
       case round =>
        obtain⟨k,hk,hgk,rfl,ht⟩:=hrel
        have HTk:Hid (Touch (fun _=>False) w5 wr):=ht
        have AM:=HAM.out.keep ht
        have AL:=HAL.out.keep ht
        have k9:=AM.e9
        have j9:=AL.e9
        clear ht l9 m9
        by_cases hlk:k<pn
        ·as_aux_lemma =>
         have hlk':(k:Int)<(pn:Int):=Qbr hlk
         have hk00:(0:Int)≤(k:Int):=Qbq _
         have hkw:wrap64 ((k:Int)+1)=(k:Int)+1:=by
          have h1:=HLN.out
          have h2:pn≤maxLen:=by obtain⟨_,_,e,h⟩:=ValsAt.form (Qa5 AM.ho);rw [←HPN.out];exact h
          exact Qtn hlk h2
         have HGK:Hid (k<pn∧pn-k≤gk):=⟨hlk,hgk⟩
         obtain⟨h,hh⟩:=Qdq HPN.out hlk
         obtain⟨a2,c2,ea2,hs2⟩:=(HV3.ra (Qa5 AM.ho)).out
         simp only [Value.slice.injEq] at ea2
         obtain⟨rfl,-,rfl⟩:=ea2
         obtain⟨a3,c3,ea3,hs3⟩:=(HV3.ra (Qa5 AL.ho)).out
         simp only [Value.slice.injEq] at ea3
         obtain⟨rfl,-,rfl⟩:=ea3
         rcases hs2 with e|⟨g2,o2,rfl,hc2⟩
         ·rw [e] at hh;cases hh
         rcases hs3 with e|⟨g3,o3,rfl,hc3⟩
         ·rw [e] at hh;cases hh
         have q0:wr.cell? ⟨g2,o2+k*3,none⟩=some (.int .u32 h.out):=hc2 k h hh 0 _ rfl
         have q1:wr.cell? ⟨g2,o2+k*3+1,none⟩=some (.int .u32 h.via):=hc2 k h hh 1 _ rfl
         have q2:wr.cell? ⟨g2,o2+k*3+2,none⟩=some (.bool h.vr):=hc2 k h hh 2 _ rfl
         have r0:wr.cell? ⟨g3,o3+k*3,none⟩=some (.int .u32 h.out):=hc3 k h hh 0 _ rfl
         have r1:wr.cell? ⟨g3,o3+k*3+1,none⟩=some (.int .u32 h.via):=hc3 k h hh 1 _ rfl
         have r2:wr.cell? ⟨g3,o3+k*3+2,none⟩=some (.bool h.vr):=hc3 k h hh 2 _ rfl
         have hEH:∀w,(Op.equalIn 10000 48 (.agg #[.int .u32 h.out,.int .u32 h.via,.bool h.vr]) (.agg #[.int .u32 h.out,.int .u32 h.via,.bool h.vr])).run Tryz.prog w=.ok true w:=fun w=>by have:=eqHop h h w;simpa using this
         clear hc2 hc3 hh AM AL hlk hgk hk
         go_wp2_with fail
         go_big_quiet (fail)
         go_wp2_with fail
         go_roundg (pn-(k+1))
         case measure=>exact Qcl HGK.out.1 HGK.out.2
         case rel=>exact⟨k+1,HGK.out.1,Nat.le_refl _,by first|exact Qay hkw|exact Qay rfl,HTk.out.drewN _⟩
        ·as_aux_lemma =>
         have hlk':¬(k:Int)<(pn:Int):=Qch hlk
         clear AM AL hlk hgk hk
         go_wp2_with fail
         go_roundg (n-(q+1))
         case measure=>exact Qcl HGQ.out.1 HGQ.out.2
         case rel=>exact⟨q+1,HGQ.out.1,Nat.le_refl _,by first|exact Qay hqw|exact Qay rfl,HTk.out⟩
      ·as_aux_lemma =>
       have hlq':¬(q:Int)<(n:Int):=Qch hlq
       clear hq hg hlq
       go_wp2_with fail
       refine (HW _).mono ?_
       rintro e w9 ⟨rfl,t9⟩
       have T9:Hid _:=t9
       clear t9 HW
       go_wp2_with fail
       go_ret
       exact⟨rfl,HT5.out.trans (HT.out.trans T9.out)⟩
end Go.Proofs.YtddbffoiadmffaaGreat
