import Derived.Test.YtldmkoogghemhaaGreatBtBest
namespace Go.Proofs.YtldmkoogghemhaaGreat
set_option maxHeartbeats 8000000
open Go.RowKit
set_option linter.unusedVariables false
set_option maxRecDepth 100000
theorem oneCellW {l:List WY} (h:∀y∈l,∃a n c,y.hv=.slice a n c):∀u∈cellsG WY.cs l,u.oneCell'=true:=by
 intro u hu
 obtain⟨y,hy,hu⟩:=List.mem_flatMap.1 hu
 obtain⟨a,n,c,e⟩:=h y hy
 unfold WY.cs at hu
 rw [e] at hu
 exact Qbw _ _ _ _ _ _ _ _ _ _ _ _ u hu
theorem Qmv (v:Value) (l:List WY) (w:World) (hsl:∀y∈l,∃a n c,y.hv=.slice a n c) (V:WV w v l) (hl:l.length≤1000000):Calls Tryz.prog 34 #[v] w fun e w'=>∃v',e=.returned v'∧WsB w w' v' l:=by
 have HV:Hid (WV w v l):=V
 have HL:Hid (l.length≤1000000):=hl
 obtain⟨va,vc,rfl,-⟩:=V.form
 have hq:=fun (w:World) (a:Option Addr) (n c n' c':Nat)=>Lib.run_eql_slice_nil (P:=Tryz.prog) w 31 47 a n c n' c' Tryz.underlying31
 cases va with
 | none =>
  have h0:l=[]:=by
   rcases V.2 with⟨e,h⟩|⟨ad,c,e,-⟩
   ·exact List.eq_nil_of_length_eq_zero h
   ·cases e
  subst h0
  clear V hl
  go_enter Tryz.func34,Tryz.ntmps34
  go_wp2
  go_ret
  exact⟨_,rfl,VBuf.nil _ _ (Touch.refl _ _)⟩
 | some ad =>
  have T1:Touch (fun _=>False) w (w.alloc (.cells #[] 47)):=(Touch.refl _ _).alloc _
  have H0:Hid (WsB w (w.alloc (.cells #[] 47)) (.slice (some ⟨w.heap.size,0,none⟩) 0 0) []):=⟨World.ownsRow_lit w #[] 0 (Nat.le_refl _) (by simp [maxLen]) (by simp),T1⟩
  have HV1:Hid (WV (w.alloc (.cells #[] 47)) (.slice (some ad) l.length vc) l):=V.keep T1
  clear V hl T1
  generalize hn:l.length=n at *
  have HN:Hid (l.length=n):=hn
  go_enter Tryz.func34,Tryz.ntmps34
  go_wp2_with (at_builtin;refine Qc2 rfl (.tmp 5) (.tmp 6) 31 rfl 47 10 56 _ Tryz.underlying31 infoWay rfl (by omega) (by omega) w _ 0 [] rfl H0.out _ n (cellsG WY.cs l) rfl (by have:=HV1.out;unfold WV at this;rw [HN.out] at this;exact this) (oneCellW hsl) (by have:=HL.out;have:=HN.out;omega) ?_)
  intro v' w' hb'
  have HB':Hid (WsB w w' v' l):=by
   show VBuf _ _ _ _ _ l.length _
   rw [HN.out]
   exact hb'
  clear hb' hn
  go_wp2
  go_ret
  exact⟨_,rfl,HB'.out⟩
def mayW (z:WP):Bool:=decide ((z.kind=1∨z.kind=2)∧z.area=0)
theorem Qdq (z:WP) (a:Option Addr) (n c:Nat) (w:World) :
  Calls Tryz.prog 37 #[(⟨z,.slice a n c⟩:WY).sv] w fun e w'=>e=.returned (.bool (mayW z))∧Touch (fun _=>False) w w':=by
 have HE:Hid (mayW z=decide ((z.kind=1∨z.kind=2)∧z.area=0)):=rfl
 generalize mayW z=res at *
 obtain⟨⟨pa,pb⟩,ro,fl,ki,ar,co,di,tg,hs⟩:=z
 unfold WY.sv
 dsimp only at *
 by_cases hk:ki=1∨ki=2
 ·by_cases ha:ar=0
  ·have HR:Hid (res=true):=by show _=_;rw [HE.out];simp [hk,ha]
   subst ha
   clear HE
   rcases hk with rfl|rfl
   ·go_enter Tryz.func37,Tryz.ntmps37
    go_wp2
    go_ret
    exact⟨Qad HR.out.symm,(Touch.refl _ _).alloc _⟩
   ·go_enter Tryz.func37,Tryz.ntmps37
    go_wp2
    go_ret
    exact⟨Qad HR.out.symm,(Touch.refl _ _).alloc _⟩
  ·have HR:Hid (res=false):=by show _=_;rw [HE.out];simp [ha]
   have ha':(ar==0)=false:=by simpa using ha
   clear HE ha
   rcases hk with rfl|rfl
   ·go_enter Tryz.func37,Tryz.ntmps37
    go_wp2
    go_ret
    exact⟨Qad HR.out.symm,(Touch.refl _ _).alloc _⟩
   ·go_enter Tryz.func37,Tryz.ntmps37
    go_wp2
    go_ret
    exact⟨Qad HR.out.symm,(Touch.refl _ _).alloc _⟩
 ·have HR:Hid (res=false):=by show _=_;rw [HE.out];simp [hk]
  have h1:(ki==1)=false:=by simp;omega
  have h2:(ki==2)=false:=by simp;omega
  clear HE hk
  go_enter Tryz.func37,Tryz.ntmps37
  go_wp2
  go_ret
  exact⟨Qad HR.out.symm,(Touch.refl _ _).alloc _⟩
def shP (x y:WP):WP:=if y.cost<x.cost then { x with cost:=y.cost,hs:=y.hs } else if y.cost=x.cost then { x with hs:=rj x.hs y.hs } else x
structure ShoP (x y:WP) (w:World) (e:Ending) (w':World):Prop where
 out:∃r,e=.returned (⟨shP x y,r⟩:WY).sv∧HO w' r (shP x y).hs∧Touch (fun _=>False) w w'
theorem Qfv (x y:WP) (xv yv:Value) (w:World) (X:HV3 w xv x.hs) (Y:HV3 w yv y.hs) (hxl:x.hs.length≤100000) (hyl:y.hs.length≤100000) :
  Calls Tryz.prog 38 #[(⟨x,xv⟩:WY).sv,(⟨y,yv⟩:WY).sv] w (ShoP x y w):=by
 have HX:=fun w' (t:Touch (fun _=>False) w w')=>ValsAt.keep X t
 have HY:=fun w' (t:Touch (fun _=>False) w w')=>ValsAt.keep Y t
 have HXV:Hid (∀w',Touch (fun _=>False) w w'→HV3 w' xv x.hs):=HX
 have HYV:Hid (∀w',Touch (fun _=>False) w w'→HV3 w' yv y.hs):=HY
 have HLX:Hid (x.hs.length≤100000∧y.hs.length≤100000):=⟨hxl,hyl⟩
 obtain⟨xa,xc,ex,-⟩:=ValsAt.form X
 obtain⟨ya,yc,ey,-⟩:=ValsAt.form Y
 subst ex ey
 have HP:Hid (∀e w',(∃r,e=.returned (⟨shP x y,r⟩:WY).sv∧HO w' r (shP x y).hs∧Touch (fun _=>False) w w')→ShoP x y w e w'):=fun e w' h=>⟨h⟩
 have HE:Hid (shP x y=if y.cost<x.cost then { x with cost:=y.cost,hs:=y.hs } else if y.cost=x.cost then { x with hs:=rj x.hs y.hs } else x):=rfl
 generalize ShoP x y w=Q at *
 generalize shP x y=sp at *
 clear HX HY X Y hxl hyl
 have HCM:=fun w=>Qbp y.cost x.cost w
 obtain⟨⟨pa,pb⟩,ro,fl,ki,ar,co,di,tg,hx⟩:=x
 obtain⟨⟨qa,qb⟩,qr,qf,qk,qe,cy,qd,qt,hy⟩:=y
 unfold WY.sv at *
 dsimp only at *
 have HCI:Hid (cmpI cy co=if cy<co then -1 else if co<cy then 1 else 0):=rfl
 generalize cmpI cy co=cz at *
 obtain⟨w0,hw0⟩:∃u,u=((w.alloc (.cells #[.int .u32 pa,.int .u8 pb,.int .u32 ro,.int .u8 fl,.int .u8 ki,.int .u32 ar,.int .u32 co,.int .u32 di,.int .u32 tg,.slice xa hx.length xc] 47)).alloc (.cells #[.int .u32 qa,.int .u8 qb,.int .u32 qr,.int .u8 qf,.int .u8 qk,.int .u32 qe,.int .u32 cy,.int .u32 qd,.int .u32 qt,.slice ya hy.length yc] 47)).alloc (.cells #[.int .u32 0,.int .u8 0,.int .u32 0,.int .u8 0,.int .u8 0,.int .u32 0,.int .u32 0,.int .u32 0,.int .u32 0,.slice none 0 0] 47):=⟨_,rfl⟩
 have t0:Touch (fun _=>False) w w0:=by rw [hw0];exact (((Touch.refl _ _).alloc _).alloc _).alloc _
 have HR0:Hid (Row w0 w.heap.size 47 [.int .u32 pa,.int .u8 pb,.int .u32 ro,.int .u8 fl,.int .u8 ki,.int .u32 ar,.int .u32 co,.int .u32 di,.int .u32 tg,.slice xa hx.length xc]):=by rw [hw0];exact ((Qac w _ _).keep ((Touch.refl _ _).alloc _)).keep ((Touch.refl _ _).alloc _)
 have HR1:Hid (Row w0 (w.heap.size+1) 47 [.int .u32 qa,.int .u8 qb,.int .u32 qr,.int .u8 qf,.int .u8 qk,.int .u32 qe,.int .u32 cy,.int .u32 qd,.int .u32 qt,.slice ya hy.length yc]):=by rw [hw0];have:=(Qac (w.alloc (.cells #[.int .u32 pa,.int .u8 pb,.int .u32 ro,.int .u8 fl,.int .u8 ki,.int .u32 ar,.int .u32 co,.int .u32 di,.int .u32 tg,.slice xa hx.length xc] 47)) 47 #[.int .u32 qa,.int .u8 qb,.int .u32 qr,.int .u8 qf,.int .u8 qk,.int .u32 qe,.int .u32 cy,.int .u32 qd,.int .u32 qt,.slice ya hy.length yc]).keep ((Touch.refl _ _).alloc (.cells #[.int .u32 0,.int .u8 0,.int .u32 0,.int .u8 0,.int .u8 0,.int .u32 0,.int .u32 0,.int .u32 0,.int .u32 0,.slice none 0 0] 47));rw [World.size_alloc] at this;exact this
 have HR2:Hid (Row w0 (w.heap.size+2) 47 [.int .u32 0,.int .u8 0,.int .u32 0,.int .u8 0,.int .u8 0,.int .u32 0,.int .u32 0,.int .u32 0,.int .u32 0,.slice none 0 0]):=by rw [hw0];have:=Qac ((w.alloc (.cells #[.int .u32 pa,.int .u8 pb,.int .u32 ro,.int .u8 fl,.int .u8 ki,.int .u32 ar,.int .u32 co,.int .u32 di,.int .u32 tg,.slice xa hx.length xc] 47)).alloc (.cells #[.int .u32 qa,.int .u8 qb,.int .u32 qr,.int .u8 qf,.int .u8 qk,.int .u32 qe,.int .u32 cy,.int .u32 qd,.int .u32 qt,.slice ya hy.length yc] 47)) 47 #[.int .u32 0,.int .u8 0,.int .u32 0,.int .u8 0,.int .u8 0,.int .u32 0,.int .u32 0,.int .u32 0,.int .u32 0,.slice none 0 0];rw [World.size_alloc,World.size_alloc] at this;exact this
 have HT0:Hid (Touch (fun _=>False) w w0):=t0
 clear t0
 go_enter Tryz.func38,Tryz.ntmps38
 go_upto_region 1 with fail
 rw [←hw0]
 clear hw0
 have HG:Hid (w.heap.size≤w.heap.size∧w.heap.size<w.heap.size+1∧w.heap.size+1<w.heap.size+2):=⟨Nat.le_refl _,Nat.lt_succ_self _,Nat.lt_succ_self _⟩
 generalize w.heap.size+2=g2 at *
 generalize w.heap.size+1=g1 at *
 obtain⟨g0,hg0⟩:∃g,g=w.heap.size:=⟨_,rfl⟩
 have HG:Hid (w.heap.size=g0∧g0<g1∧g1<g2):=by have h:=HG.out;rw [←hg0] at h;exact⟨hg0.symm,h.2.1,h.2.2⟩
 rw [←hg0] at HR0 ⊢
 clear hg0
 have a6:=HR0.out.cell 6
 have b6:=HR1.out.cell 6
 have l0:=HR0.out.lt
 have l1:=HR1.out.lt
 simp only [List.getElem?_cons_succ,List.getElem?_cons_zero] at a6 b6
 go_upto_region 3 with (go_at_call 51;refine (HCM _).mono ?_;rintro e w1 ⟨rfl,rfl⟩)
 clear a6 b6 l0 l1 HCM
 by_cases h1:cy<co
 ·have hcz:cz = -1:=by rw [HCI.out,if_pos h1]
  subst hcz
  have HSP:Hid (sp=⟨⟨pa,pb⟩,ro,fl,ki,ar,cy,di,tg,hy⟩):=by show _=_;rw [HE.out,if_pos h1]
  clear HE HCI h1
  go_upto_region 4 with fail
  have T0d:Touch (fun _=>False) w0 w0.drew:=(Touch.refl _ _).drew
  have s0:Touch (fun k=>k=g0) w0 w0.drew:=(Touch.refl _ _).drew
  have HB:∀w',Touch (fun k=>k=g0) w0 w'→Row w' g1 47 [.int .u32 qa,.int .u8 qb,.int .u32 qr,.int .u8 qf,.int .u8 qk,.int .u32 qe,.int .u32 cy,.int .u32 qd,.int .u32 qt,.slice ya hy.length yc]:=fun w' t=>Qay HR1.out t (by have:=HG.out;omega)
  have b6:∀w',Touch (fun k=>k=g0) w0 w'→w'.cell? ⟨g1,6,none⟩=some (.int .u32 cy):=fun w' t=>(HB w' t).cell 6
  have b9:∀w',Touch (fun k=>k=g0) w0 w'→w'.cell? ⟨g1,9,none⟩=some (.slice ya hy.length yc):=fun w' t=>(HB w' t).cell 9
  have HCL:=Qcs (.slice ya hy.length yc) hy w0.drew (HYV.out _ (HT0.out.trans T0d)) (by have:=HLX.out.2;omega)
  refine wp_region_held_drew (S:=fun w'=>Touch (fun k=>k=g0) w0 w') (by kernel_rfl) s0 (fun hHeld=>?_)
  refine wpAnyH_take (i:=0) (oi:=⟨some 16,_,_,_,_,_⟩) (v:=.pointer (some ⟨g1,6,none⟩)) rfl (by kernel_rfl) (by kernel_rfl) (by kernel_rfl) (fun _ _ _ h=>h) (Or.inl ⟨by rfl,fun w hw=>by go_simp⟩) (by assumption) ?_
  simp only [Act.put,Qo4,Qo5,Qo6]
  refine wpAnyH_take (i:=1) (oi:=⟨some 17,_,_,_,_,_⟩) (v:=.int .u32 cy) rfl (by kernel_rfl) (by kernel_rfl) (by kernel_rfl) (fun _ _ _ h=>h) (Or.inl ⟨by rfl,fun w hw=>by go_simp⟩) (by assumption) ?_
  simp only [Act.put,Qo4,Qo5,Qo6]
  refine wpAnyH_take (i:=2) (oi:=⟨some 18,_,_,_,_,_⟩) (v:=.pointer (some ⟨g1,9,none⟩)) rfl (by kernel_rfl) (by kernel_rfl) (by kernel_rfl) (fun _ _ _ h=>h) (Or.inl ⟨by rfl,fun w hw=>by go_simp⟩) (by assumption) ?_
  simp only [Act.put,Qo4,Qo5,Qo6]
  refine wpAnyH_take (i:=3) (oi:=⟨some 19,_,_,_,_,_⟩) (v:=.slice ya hy.length yc) rfl (by kernel_rfl) (by kernel_rfl) (by kernel_rfl) (fun _ _ _ h=>h) (Or.inl ⟨by rfl,fun w hw=>by go_simp⟩) (by assumption) ?_
  simp only [Act.put,Qo4,Qo5,Qo6]
  refine wpAnyH_take (i:=5) (oi:=⟨some 21,_,_,_,_,_⟩) (v:=.pointer (some ⟨g0,6,none⟩)) rfl (by kernel_rfl) (by kernel_rfl) (by kernel_rfl) (fun _ _ _ h=>h) (Or.inl ⟨by rfl,fun w hw=>by go_simp⟩) (by assumption) ?_
  simp only [Act.put,Qo4,Qo5,Qo6]
  refine wpAnyH_ready (rs:=[4]) (by kernel_rfl) (by simp) ?_
  refine AllReadyH.cons (o:=⟨some 20,_,_,_,_,_⟩) rfl (fun K hK=>?_) AllReadyH.nil
  go_simp
  refine Calls.mono (HCL) ?_
  rintro e w2 ⟨r,rfl,hr⟩
  have s2:Touch (fun k=>k=g0) w0 w2:=s0.trans (hr.t.mono (fun _ _ h=>h.elim))
  have HRO2:Hid (HO w2 r hy):=Qak hr.own (Nat.zero_le _)
  have HRa:Hid (Row w2 g0 47 [.int .u32 pa,.int .u8 pb,.int .u32 ro,.int .u8 fl,.int .u8 ki,.int .u32 ar,.int .u32 co,.int .u32 di,.int .u32 tg,.slice xa hx.length xc]):=HR0.out.keep (T0d.trans hr.t)
  have HRc:Hid (Row w2 g2 47 [.int .u32 0,.int .u8 0,.int .u32 0,.int .u8 0,.int .u8 0,.int .u32 0,.int .u32 0,.int .u32 0,.int .u32 0,.slice none 0 0]):=HR2.out.keep (T0d.trans hr.t)
  have HT2:Hid (Touch (fun _=>False) w w2):=HT0.out.trans (T0d.trans hr.t)
  obtain⟨ra,rc,rfl⟩:=Qal hr.own
  clear hr HCL
  refine hK.out _ _ (by assumption) (fun hHeld=>?_)
  clear hK K
  have c6:=HRa.out.cell 6
  have fz:=HRa.out.frozen
  have la:=HRa.out.lt
  simp only [List.getElem?_cons_succ,List.getElem?_cons_zero] at c6
  refine wpAnyH_ready (rs:=[6]) (by kernel_rfl) (by simp) ?_
  refine AllReadyH.cons (o:=⟨none,_,_,_,_,_⟩) rfl (fun K hK=>?_) AllReadyH.nil
  go_simp
  have s3:Touch (fun k=>k=g0) w0 (w2.setCell ⟨g0,6,none⟩ (.int .u32 cy)):=Touch.setCell (F:=fun k=>k=g0) (p:=⟨g0,6,none⟩) s2 (Or.inl rfl) _
  have HRb:Hid (Row (w2.setCell ⟨g0,6,none⟩ (.int .u32 cy)) g0 47 [.int .u32 pa,.int .u8 pb,.int .u32 ro,.int .u8 fl,.int .u8 ki,.int .u32 ar,.int .u32 cy,.int .u32 di,.int .u32 tg,.slice xa hx.length xc]):=HRa.out.set 6 _
  refine hK.out _ _ (by assumption) (fun hHeld=>?_)
  clear hK K c6 fz la
  refine wpAnyH_take (i:=7) (oi:=⟨some 22,_,_,_,_,_⟩) (v:=.pointer (some ⟨g0,9,none⟩)) rfl (by kernel_rfl) (by kernel_rfl) (by kernel_rfl) (fun _ _ _ h=>h) (Or.inl ⟨by rfl,fun w hw=>by go_simp⟩) (by assumption) ?_
  simp only [Act.put,Qo4,Qo5,Qo6]
  have c9:=HRb.out.cell 9
  have fz:=HRb.out.frozen
  have la:=HRb.out.lt
  simp only [List.getElem?_cons_succ,List.getElem?_cons_zero] at c9
  refine wpAnyH_ready (rs:=[8]) (by kernel_rfl) (by simp) ?_
  refine AllReadyH.cons (o:=⟨none,_,_,_,_,_⟩) rfl (fun K hK=>?_) AllReadyH.nil
  go_simp
  have s4:Touch (fun k=>k=g0) w0 ((w2.setCell ⟨g0,6,none⟩ (.int .u32 cy)).setCell ⟨g0,9,none⟩ (.slice ra hy.length rc)):=Touch.setCell (F:=fun k=>k=g0) (p:=⟨g0,9,none⟩) s3 (Or.inl rfl) _
  have HF:Hid (Row ((w2.setCell ⟨g0,6,none⟩ (.int .u32 cy)).setCell ⟨g0,9,none⟩ (.slice ra hy.length rc)) g0 47 [.int .u32 pa,.int .u8 pb,.int .u32 ro,.int .u8 fl,.int .u8 ki,.int .u32 ar,.int .u32 cy,.int .u32 di,.int .u32 tg,.slice ra hy.length rc]):=HRb.out.set 9 _
  have t24:Touch (fun k=>k=g0) w2 ((w2.setCell ⟨g0,6,none⟩ (.int .u32 cy)).setCell ⟨g0,9,none⟩ (.slice ra hy.length rc)):=Touch.setCell (F:=fun k=>k=g0) (p:=⟨g0,9,none⟩) (Touch.setCell (F:=fun k=>k=g0) (p:=⟨g0,6,none⟩) (Touch.refl _ _) (Or.inl rfl) _) (Or.inl rfl) _
  have HS:Hid (Row ((w2.setCell ⟨g0,6,none⟩ (.int .u32 cy)).setCell ⟨g0,9,none⟩ (.slice ra hy.length rc)) g2 47 [.int .u32 0,.int .u8 0,.int .u32 0,.int .u8 0,.int .u8 0,.int .u32 0,.int .u32 0,.int .u32 0,.int .u32 0,.slice none 0 0]):=Qay HRc.out t24 (by have:=HG.out;omega)
  have HRO:Hid (HO ((w2.setCell ⟨g0,6,none⟩ (.int .u32 cy)).setCell ⟨g0,9,none⟩ (.slice ra hy.length rc)) (.slice ra hy.length rc) hy):=Qab HRO2.out t24 (fun j hj e=>Qbo HRO2.out HRa.out (by decide) (by rw [hj,e]))
  have HTZ:Hid (Touch (fun _=>False) w ((w2.setCell ⟨g0,6,none⟩ (.int .u32 cy)).setCell ⟨g0,9,none⟩ (.slice ra hy.length rc))):=HT2.out.trans' t24 (fun i hi e=>by have:=HG.out;omega)
  refine hK.out _ _ (by assumption) (fun hHeld=>?_)
  clear hK K c9 fz la
  refine wpAnyH_done (by kernel_rfl) ?_ _
  clear b6 b9 HB s0 s2 s3 s4 T0d t24
  generalize (w2.setCell ⟨g0,6,none⟩ (.int .u32 cy)).setCell ⟨g0,9,none⟩ (.slice ra hy.length rc)=wz at *
  have f0:=HF.out.cell 0
  have f1:=HF.out.cell 1
  have f2:=HF.out.cell 2
  have f3:=HF.out.cell 3
  have f4:=HF.out.cell 4
  have f5:=HF.out.cell 5
  have f6:=HF.out.cell 6
  have f7:=HF.out.cell 7
  have f8:=HF.out.cell 8
  have f9:=HF.out.cell 9
  simp only [List.getElem?_cons_succ,List.getElem?_cons_zero] at f0 f1 f2 f3 f4 f5 f6 f7 f8 f9
  have lf:=HF.out.lt
  go_wp2_with (refine wpList_store_row rfl 47 (.tmp 4) (.tmp 31) rfl g2 #[.int .u32 pa,.int .u8 pb,.int .u32 ro,.int .u8 fl,.int .u8 ki,.int .u32 ar,.int .u32 cy,.int .u32 di,.int .u32 tg,.slice ra (hy).length rc] rfl rfl 47 _ HS.out (by kernel_rfl) rfl (by simp [Value.oneCell']) ?_)
  refine bodyPost_ret (v:=.agg #[.int .u32 pa,.int .u8 pb,.int .u32 ro,.int .u8 fl,.int .u8 ki,.int .u32 ar,.int .u32 cy,.int .u32 di,.int .u32 tg,.slice ra (hy).length rc]) (results_cell_row rfl _ _ g2 47 #[.int .u32 pa,.int .u8 pb,.int .u32 ro,.int .u8 fl,.int .u8 ki,.int .u32 ar,.int .u32 cy,.int .u32 di,.int .u32 tg,.slice ra (hy).length rc] (0,0) _ (by rfl) (HS.out.setRow _) Tryz.underlying47 rfl (by kernel_rfl)) rfl ?_
  refine HP.out _ _ ⟨.slice ra (hy).length rc,by rw [HSP.out],?_,HTZ.out.setRow (Or.inr (by have:=HG.out;omega)) _⟩
  rw [HSP.out]
  have ts:Touch (fun k=>k=g2) wz (World.setRow wz g2 #[.int .u32 pa,.int .u8 pb,.int .u32 ro,.int .u8 fl,.int .u8 ki,.int .u32 ar,.int .u32 cy,.int .u32 di,.int .u32 tg,.slice ra (hy).length rc]):=Touch.setRow (F:=fun k=>k=g2) (Touch.refl _ _) (Or.inl rfl) _
  exact Qab HRO.out ts (fun j hj e=>Qbo HRO.out HS.out (by decide) (by rw [hj,e]))
 ·by_cases h2:cy=co
  ·have hcz:cz=0:=by rw [HCI.out,if_neg h1,if_neg (by omega)]
   subst hcz
   have HSP:Hid (sp=⟨⟨pa,pb⟩,ro,fl,ki,ar,co,di,tg,rj hx hy⟩):=by show _=_;rw [HE.out,if_neg h1,if_pos h2]
   clear HE HCI h1 h2
   have a9:=HR0.out.cell 9
   have b9:=HR1.out.cell 9
   have l0:=HR0.out.lt
   have l1:=HR1.out.lt
   simp only [List.getElem?_cons_succ,List.getElem?_cons_zero] at a9 b9
   have HCL:=Qdu w0 (.slice xa hx.length xc) (.slice ya hy.length yc) hx hy (rj hx hy) (HXV.out _ HT0.out) (HYV.out _ HT0.out) (by have:=HLX.out;omega) (Qcn _ _ (Qcn _ _ List.Pairwise.nil)) (fun x=>Qn9 hx hy x)
   go_upto_region 7 with (go_at_call 52;refine HCL.mono ?_;rintro e w2 ⟨r,rfl,hr⟩;have HRO2:Hid (HO w2 r (rj hx hy)):=Qak hr.own (Nat.zero_le _);have HRa:Hid (Row w2 g0 47 [.int .u32 pa,.int .u8 pb,.int .u32 ro,.int .u8 fl,.int .u8 ki,.int .u32 ar,.int .u32 co,.int .u32 di,.int .u32 tg,.slice xa hx.length xc]):=HR0.out.keep hr.t;have HRc:Hid (Row w2 g2 47 [.int .u32 0,.int .u8 0,.int .u32 0,.int .u8 0,.int .u8 0,.int .u32 0,.int .u32 0,.int .u32 0,.int .u32 0,.slice none 0 0]):=HR2.out.keep hr.t;have HT2:Hid (Touch (fun _=>False) w w2):=HT0.out.trans hr.t;have c9:=HRa.out.cell 9;have fz:=HRa.out.frozen;have la:=HRa.out.lt;simp only [List.getElem?_cons_succ,List.getElem?_cons_zero] at c9;obtain⟨ra,rc,rfl⟩:=Qal hr.own;clear hr a9 b9 l0 l1)
   clear HCL c9 fz la
   have HF:Hid (Row (w2.setCell ⟨g0,9,none⟩ (.slice ra (rj hx hy).length rc)) g0 47 [.int .u32 pa,.int .u8 pb,.int .u32 ro,.int .u8 fl,.int .u8 ki,.int .u32 ar,.int .u32 co,.int .u32 di,.int .u32 tg,.slice ra (rj hx hy).length rc]):=HRa.out.set 9 _
   have t24:Touch (fun k=>k=g0) w2 (w2.setCell ⟨g0,9,none⟩ (.slice ra (rj hx hy).length rc)):=Touch.setCell (F:=fun k=>k=g0) (p:=⟨g0,9,none⟩) (Touch.refl _ _) (Or.inl rfl) _
   have HS:Hid (Row (w2.setCell ⟨g0,9,none⟩ (.slice ra (rj hx hy).length rc)) g2 47 [.int .u32 0,.int .u8 0,.int .u32 0,.int .u8 0,.int .u8 0,.int .u32 0,.int .u32 0,.int .u32 0,.int .u32 0,.slice none 0 0]):=Qay HRc.out t24 (by have:=HG.out;omega)
   have HRO:Hid (HO (w2.setCell ⟨g0,9,none⟩ (.slice ra (rj hx hy).length rc)) (.slice ra (rj hx hy).length rc) (rj hx hy)):=Qab HRO2.out t24 (fun j hj e=>Qbo HRO2.out HRa.out (by decide) (by rw [hj,e]))
   have HTZ:Hid (Touch (fun _=>False) w (w2.setCell ⟨g0,9,none⟩ (.slice ra (rj hx hy).length rc))):=HT2.out.trans' t24 (fun i hi e=>by have:=HG.out;omega)
   clear t24
   generalize w2.setCell ⟨g0,9,none⟩ (.slice ra (rj hx hy).length rc)=wz at *
   have f0:=HF.out.cell 0
   have f1:=HF.out.cell 1
   have f2:=HF.out.cell 2
   have f3:=HF.out.cell 3
   have f4:=HF.out.cell 4
   have f5:=HF.out.cell 5
   have f6:=HF.out.cell 6
   have f7:=HF.out.cell 7
   have f8:=HF.out.cell 8
   have f9:=HF.out.cell 9
   simp only [List.getElem?_cons_succ,List.getElem?_cons_zero] at f0 f1 f2 f3 f4 f5 f6 f7 f8 f9
   have lf:=HF.out.lt
   go_wp2_with (refine wpList_store_row rfl 47 (.tmp 4) (.tmp 31) rfl g2 #[.int .u32 pa,.int .u8 pb,.int .u32 ro,.int .u8 fl,.int .u8 ki,.int .u32 ar,.int .u32 co,.int .u32 di,.int .u32 tg,.slice ra (rj hx hy).length rc] rfl rfl 47 _ HS.out (by kernel_rfl) rfl (by simp [Value.oneCell']) ?_)
   refine bodyPost_ret (v:=.agg #[.int .u32 pa,.int .u8 pb,.int .u32 ro,.int .u8 fl,.int .u8 ki,.int .u32 ar,.int .u32 co,.int .u32 di,.int .u32 tg,.slice ra (rj hx hy).length rc]) (results_cell_row rfl _ _ g2 47 #[.int .u32 pa,.int .u8 pb,.int .u32 ro,.int .u8 fl,.int .u8 ki,.int .u32 ar,.int .u32 co,.int .u32 di,.int .u32 tg,.slice ra (rj hx hy).length rc] (0,0) _ (by rfl) (HS.out.setRow _) Tryz.underlying47 rfl (by kernel_rfl)) rfl ?_
   refine HP.out _ _ ⟨.slice ra (rj hx hy).length rc,by rw [HSP.out],?_,HTZ.out.setRow (Or.inr (by have:=HG.out;omega)) _⟩
   rw [HSP.out]
   have ts:Touch (fun k=>k=g2) wz (World.setRow wz g2 #[.int .u32 pa,.int .u8 pb,.int .u32 ro,.int .u8 fl,.int .u8 ki,.int .u32 ar,.int .u32 co,.int .u32 di,.int .u32 tg,.slice ra (rj hx hy).length rc]):=Touch.setRow (F:=fun k=>k=g2) (Touch.refl _ _) (Or.inl rfl) _
   exact Qab HRO.out ts (fun j hj e=>Qbo HRO.out HS.out (by decide) (by rw [hj,e]))
  ·have hcz:cz=1:=by rw [HCI.out,if_neg h1,if_pos (by omega)]
   subst hcz
   have HSP:Hid (sp=⟨⟨pa,pb⟩,ro,fl,ki,ar,co,di,tg,hx⟩):=by show _=_;rw [HE.out,if_neg h1,if_neg h2]
   clear HE HCI h1 h2
   have a9:=HR0.out.cell 9
   have b9:=HR1.out.cell 9
   have l0:=HR0.out.lt
   have l1:=HR1.out.lt
   simp only [List.getElem?_cons_succ,List.getElem?_cons_zero] at a9 b9
   have HCL:=Qcs (.slice xa hx.length xc) hx w0 (HXV.out _ HT0.out) (by have:=HLX.out.1;omega)
   go_upto_region 7 with (go_at_call 39;refine HCL.mono ?_;rintro e w2 ⟨r,rfl,hr⟩;have HRO2:Hid (HO w2 r (hx)):=Qak hr.own (Nat.zero_le _);have HRa:Hid (Row w2 g0 47 [.int .u32 pa,.int .u8 pb,.int .u32 ro,.int .u8 fl,.int .u8 ki,.int .u32 ar,.int .u32 co,.int .u32 di,.int .u32 tg,.slice xa hx.length xc]):=HR0.out.keep hr.t;have HRc:Hid (Row w2 g2 47 [.int .u32 0,.int .u8 0,.int .u32 0,.int .u8 0,.int .u8 0,.int .u32 0,.int .u32 0,.int .u32 0,.int .u32 0,.slice none 0 0]):=HR2.out.keep hr.t;have HT2:Hid (Touch (fun _=>False) w w2):=HT0.out.trans hr.t;have c9:=HRa.out.cell 9;have fz:=HRa.out.frozen;have la:=HRa.out.lt;simp only [List.getElem?_cons_succ,List.getElem?_cons_zero] at c9;obtain⟨ra,rc,rfl⟩:=Qal hr.own;clear hr a9 b9 l0 l1)
   clear HCL c9 fz la
   have HF:Hid (Row (w2.setCell ⟨g0,9,none⟩ (.slice ra (hx).length rc)) g0 47 [.int .u32 pa,.int .u8 pb,.int .u32 ro,.int .u8 fl,.int .u8 ki,.int .u32 ar,.int .u32 co,.int .u32 di,.int .u32 tg,.slice ra (hx).length rc]):=HRa.out.set 9 _
   have t24:Touch (fun k=>k=g0) w2 (w2.setCell ⟨g0,9,none⟩ (.slice ra (hx).length rc)):=Touch.setCell (F:=fun k=>k=g0) (p:=⟨g0,9,none⟩) (Touch.refl _ _) (Or.inl rfl) _
   have HS:Hid (Row (w2.setCell ⟨g0,9,none⟩ (.slice ra (hx).length rc)) g2 47 [.int .u32 0,.int .u8 0,.int .u32 0,.int .u8 0,.int .u8 0,.int .u32 0,.int .u32 0,.int .u32 0,.int .u32 0,.slice none 0 0]):=Qay HRc.out t24 (by have:=HG.out;omega)
   have HRO:Hid (HO (w2.setCell ⟨g0,9,none⟩ (.slice ra (hx).length rc)) (.slice ra (hx).length rc) (hx)):=Qab HRO2.out t24 (fun j hj e=>Qbo HRO2.out HRa.out (by decide) (by rw [hj,e]))
   have HTZ:Hid (Touch (fun _=>False) w (w2.setCell ⟨g0,9,none⟩ (.slice ra (hx).length rc))):=HT2.out.trans' t24 (fun i hi e=>by have:=HG.out;omega)
   clear t24
   generalize w2.setCell ⟨g0,9,none⟩ (.slice ra (hx).length rc)=wz at *
   have f0:=HF.out.cell 0
   have f1:=HF.out.cell 1
   have f2:=HF.out.cell 2
   have f3:=HF.out.cell 3
   have f4:=HF.out.cell 4
   have f5:=HF.out.cell 5
   have f6:=HF.out.cell 6
   have f7:=HF.out.cell 7
   have f8:=HF.out.cell 8
   have f9:=HF.out.cell 9
   simp only [List.getElem?_cons_succ,List.getElem?_cons_zero] at f0 f1 f2 f3 f4 f5 f6 f7 f8 f9
   have lf:=HF.out.lt
   go_wp2_with (refine wpList_store_row rfl 47 (.tmp 4) (.tmp 31) rfl g2 #[.int .u32 pa,.int .u8 pb,.int .u32 ro,.int .u8 fl,.int .u8 ki,.int .u32 ar,.int .u32 co,.int .u32 di,.int .u32 tg,.slice ra (hx).length rc] rfl rfl 47 _ HS.out (by kernel_rfl) rfl (by simp [Value.oneCell']) ?_)
   refine bodyPost_ret (v:=.agg #[.int .u32 pa,.int .u8 pb,.int .u32 ro,.int .u8 fl,.int .u8 ki,.int .u32 ar,.int .u32 co,.int .u32 di,.int .u32 tg,.slice ra (hx).length rc]) (results_cell_row rfl _ _ g2 47 #[.int .u32 pa,.int .u8 pb,.int .u32 ro,.int .u8 fl,.int .u8 ki,.int .u32 ar,.int .u32 co,.int .u32 di,.int .u32 tg,.slice ra (hx).length rc] (0,0) _ (by rfl) (HS.out.setRow _) Tryz.underlying47 rfl (by kernel_rfl)) rfl ?_
   refine HP.out _ _ ⟨.slice ra (hx).length rc,by rw [HSP.out],?_,HTZ.out.setRow (Or.inr (by have:=HG.out;omega)) _⟩
   rw [HSP.out]
   have ts:Touch (fun k=>k=g2) wz (World.setRow wz g2 #[.int .u32 pa,.int .u8 pb,.int .u32 ro,.int .u8 fl,.int .u8 ki,.int .u32 ar,.int .u32 co,.int .u32 di,.int .u32 tg,.slice ra (hx).length rc]):=Touch.setRow (F:=fun k=>k=g2) (Touch.refl _ _) (Or.inl rfl) _
   exact Qab HRO.out ts (fun j hj e=>Qbo HRO.out HS.out (by decide) (by rw [hj,e]))
end Go.Proofs.YtldmkoogghemhaaGreat
