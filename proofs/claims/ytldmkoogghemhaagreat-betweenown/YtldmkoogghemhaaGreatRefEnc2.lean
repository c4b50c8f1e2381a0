import Derived.Test.YtldmkoogghemhaaGreatStEncAny
import Derived.Deep.RegionHeld3
import Derived.Deep.DeepCutAuto
namespace Go.Proofs.YtldmkoogghemhaaGreat
set_option maxHeartbeats 8000000
open Go.RowKit
set_option linter.unusedVariables false
set_option maxRecDepth 100000
theorem Qfo (l:List LV) (h:∀x∈l,x.Ok):∀z∈linksB l,0≤z∧z<256:=by
 intro z hz
 simp only [linksB,List.mem_flatMap] at hz
 obtain⟨x,hx,hz⟩:=hz
 have ox:=(h x hx).t
 simp only [linkB,List.mem_append,List.mem_cons,List.not_mem_nil,or_false] at hz
 rcases hz with ((hz|hz)|hz)|hz
 ·exact Qag _ _ z hz
 ·exact Qag _ _ z hz
 ·rcases hz with rfl|rfl <;> omega
 ·exact Qag _ _ z hz
theorem Qd3 (t:Int) (b:BV) (ok:b.Ok):∀z∈layB t b,0≤z∧z<256:=by
 intro z hz
 have of:=ok.f
 unfold layB at hz
 split at hz
 ·simp only [List.mem_append,List.mem_cons,List.not_mem_nil,or_false] at hz
  rcases hz with (hz|hz)|hz
  ·rcases hz with rfl|rfl <;> omega
  ·exact Qag _ _ z hz
  ·exact Qfo _ ok.l z hz
 ·split at hz
  ·rcases List.mem_append.1 hz with hz|hz
   ·exact Qag _ _ z hz
   ·simp only [routersB,List.mem_flatMap] at hz
    obtain⟨x,_,hz⟩:=hz
    exact Qag _ _ z hz
  ·split at hz
   ·rcases List.mem_append.1 hz with hz|hz <;> exact Qag _ _ z hz
   ·split at hz
    ·simp only [List.mem_append] at hz
     rcases hz with ((hz|hz)|hz)|hz <;> exact Qag _ _ z hz
    ·exact ok.d z hz
theorem Qh0 (h:HV) (oh:h.All) (b:BV) (ok:b.Ok) (vl vr vd:Value) (w:World) (ha:BArg w b vl vr vd) (hb1:b.links.length≤8192) (hb2:b.routers.length≤32768) (hb3:b.data.length≤131072) (hk:knownB h.typ=true) (hm:mayB h.typ b=true) (hs:sizeB h.typ b≤65515) :
  Calls Tryz.prog 45 #[h.v,b.v vl vr vd] w fun e w'=>∃u,e=.returned (.tuple #[(sealH h (layB h.typ b)).sv u,.int .i64 0])∧Buf w w' u (layB h.typ b):=by
 obtain⟨al,cl,rfl,-⟩:=ValsAt.form ha.l
 obtain⟨ar,cr,rfl,-⟩:=ValsAt.form ha.r
 obtain⟨ad,cd,rfl,-⟩:=ArgAt.form ha.d
 have OH:Hid h.All:=oh
 have OB:Hid b.Ok:=ok
 have HA:Hid (BArg w b (.slice al b.links.length cl) (.slice ar b.routers.length cr) (.slice ad b.data.length cd)):=ha
 have HB:Hid (b.links.length≤8192∧b.routers.length≤32768∧b.data.length≤131072):=⟨hb1,hb2,hb3⟩
 have hb3':b.data.length≤131072:=hb3
 clear oh ok ha hb1 hb2 hb3
 have HKN:=fun w=>Qib h.typ OH.out.t.1 w
 rw [hk] at HKN
 have HK:Hid (knownB h.typ=true):=hk
 have HM:Hid (mayB h.typ b=true):=hm
 clear hk hm
 have hs0:wrap64 (sizeB h.typ b+20)=sizeB h.typ b+20:=by have:=Qfz h.typ b HB.out.1 HB.out.2.1 HB.out.2.2;unfold wrap64;omega
 have hs1:¬(65535:Int)<sizeB h.typ b+20:=by omega
 have HS:Hid (sizeB h.typ b≤65515):=hs
 clear hs
 show Calls Tryz.prog 45 #[.agg #[.int .u16 h.age,.int .u8 h.opts,.int .u8 h.typ,.int .u32 h.id,.int .u32 h.adv,.int .i32 h.seq,.int .u16 h.sum,.int .u16 h.len],.agg #[.int .u8 b.flags,.slice al b.links.length cl,.int .u32 b.mask,.slice ar b.routers.length cr,.int .u32 b.metric,.bool b.type2,.int .u32 b.fwd,.int .u32 b.tag,.slice ad b.data.length cd]] w _
 go_enter Tryz.func45,Tryz.ntmps45
 go_upto_region 1 with fail
 have z1:(w.alloc (.cells #[.int .u16 h.age,.int .u8 h.opts,.int .u8 h.typ,.int .u32 h.id,.int .u32 h.adv,.int .i32 h.seq,.int .u16 h.sum,.int .u16 h.len] 56)).heap.size=w.heap.size+1:=by simp [go_sem]
 have z2:((w.alloc (.cells #[.int .u16 h.age,.int .u8 h.opts,.int .u8 h.typ,.int .u32 h.id,.int .u32 h.adv,.int .i32 h.seq,.int .u16 h.sum,.int .u16 h.len] 56)).alloc (.cells #[.int .u8 b.flags,.slice al b.links.length cl,.int .u32 b.mask,.slice ar b.routers.length cr,.int .u32 b.metric,.bool b.type2,.int .u32 b.fwd,.int .u32 b.tag,.slice ad b.data.length cd] 92)).heap.size=w.heap.size+1+1:=by simp [go_sem]
 have Z3:Hid ((((w.alloc (.cells #[.int .u16 h.age,.int .u8 h.opts,.int .u8 h.typ,.int .u32 h.id,.int .u32 h.adv,.int .i32 h.seq,.int .u16 h.sum,.int .u16 h.len] 56)).alloc (.cells #[.int .u8 b.flags,.slice al b.links.length cl,.int .u32 b.mask,.slice ar b.routers.length cr,.int .u32 b.metric,.bool b.type2,.int .u32 b.fwd,.int .u32 b.tag,.slice ad b.data.length cd] 92)).alloc (.cells #[.int .u16 0,.int .u8 0,.int .u8 0,.int .u32 0,.int .u32 0,.int .i32 0,.int .u16 0,.int .u16 0,.slice none 0 0] 59)).heap.size=w.heap.size+1+1+1):=by show _=_;simp [go_sem]
 have K0:Hid (Hd (((w.alloc (.cells #[.int .u16 h.age,.int .u8 h.opts,.int .u8 h.typ,.int .u32 h.id,.int .u32 h.adv,.int .i32 h.seq,.int .u16 h.sum,.int .u16 h.len] 56)).alloc (.cells #[.int .u8 b.flags,.slice al b.links.length cl,.int .u32 b.mask,.slice ar b.routers.length cr,.int .u32 b.metric,.bool b.type2,.int .u32 b.fwd,.int .u32 b.tag,.slice ad b.data.length cd] 92)).alloc (.cells #[.int .u16 0,.int .u8 0,.int .u8 0,.int .u32 0,.int .u32 0,.int .i32 0,.int .u16 0,.int .u16 0,.slice none 0 0] 59)) w.heap.size h):=(Hd.new w h _).keep (((Touch.refl _ _).alloc _).alloc _)
 have D0:Hid (Bd (((w.alloc (.cells #[.int .u16 h.age,.int .u8 h.opts,.int .u8 h.typ,.int .u32 h.id,.int .u32 h.adv,.int .i32 h.seq,.int .u16 h.sum,.int .u16 h.len] 56)).alloc (.cells #[.int .u8 b.flags,.slice al b.links.length cl,.int .u32 b.mask,.slice ar b.routers.length cr,.int .u32 b.metric,.bool b.type2,.int .u32 b.fwd,.int .u32 b.tag,.slice ad b.data.length cd] 92)).alloc (.cells #[.int .u16 0,.int .u8 0,.int .u8 0,.int .u32 0,.int .u32 0,.int .i32 0,.int .u16 0,.int .u16 0,.slice none 0 0] 59)) (w.heap.size+1) b (.slice al b.links.length cl) (.slice ar b.routers.length cr) (.slice ad b.data.length cd)):=z1 ▸ (Bd.new (w.alloc (.cells #[.int .u16 h.age,.int .u8 h.opts,.int .u8 h.typ,.int .u32 h.id,.int .u32 h.adv,.int .i32 h.seq,.int .u16 h.sum,.int .u16 h.len] 56)) b _ _ _ _).keep ((Touch.refl _ _).alloc _)
 have R0:Hid (Out (((w.alloc (.cells #[.int .u16 h.age,.int .u8 h.opts,.int .u8 h.typ,.int .u32 h.id,.int .u32 h.adv,.int .i32 h.seq,.int .u16 h.sum,.int .u16 h.len] 56)).alloc (.cells #[.int .u8 b.flags,.slice al b.links.length cl,.int .u32 b.mask,.slice ar b.routers.length cr,.int .u32 b.metric,.bool b.type2,.int .u32 b.fwd,.int .u32 b.tag,.slice ad b.data.length cd] 92)).alloc (.cells #[.int .u16 0,.int .u8 0,.int .u8 0,.int .u32 0,.int .u32 0,.int .i32 0,.int .u16 0,.int .u16 0,.slice none 0 0] 59)) (w.heap.size+1+1) HV.zero (.slice none 0 0)):=z2 ▸ Out.new ((w.alloc (.cells #[.int .u16 h.age,.int .u8 h.opts,.int .u8 h.typ,.int .u32 h.id,.int .u32 h.adv,.int .i32 h.seq,.int .u16 h.sum,.int .u16 h.len] 56)).alloc (.cells #[.int .u8 b.flags,.slice al b.links.length cl,.int .u32 b.mask,.slice ar b.routers.length cr,.int .u32 b.metric,.bool b.type2,.int .u32 b.fwd,.int .u32 b.tag,.slice ad b.data.length cd] 92)) HV.zero _ _
 have T0:Hid (Touch (fun _=>False) w (((w.alloc (.cells #[.int .u16 h.age,.int .u8 h.opts,.int .u8 h.typ,.int .u32 h.id,.int .u32 h.adv,.int .i32 h.seq,.int .u16 h.sum,.int .u16 h.len] 56)).alloc (.cells #[.int .u8 b.flags,.slice al b.links.length cl,.int .u32 b.mask,.slice ar b.routers.length cr,.int .u32 b.metric,.bool b.type2,.int .u32 b.fwd,.int .u32 b.tag,.slice ad b.data.length cd] 92)).alloc (.cells #[.int .u16 0,.int .u8 0,.int .u8 0,.int .u32 0,.int .u32 0,.int .i32 0,.int .u16 0,.int .u16 0,.slice none 0 0] 59))):=(((Touch.refl _ _).alloc _).alloc _).alloc _
 clear z1 z2
 generalize ((w.alloc (.cells #[.int .u16 h.age,.int .u8 h.opts,.int .u8 h.typ,.int .u32 h.id,.int .u32 h.adv,.int .i32 h.seq,.int .u16 h.sum,.int .u16 h.len] 56)).alloc (.cells #[.int .u8 b.flags,.slice al b.links.length cl,.int .u32 b.mask,.slice ar b.routers.length cr,.int .u32 b.metric,.bool b.type2,.int .u32 b.fwd,.int .u32 b.tag,.slice ad b.data.length cd] 92)).alloc (.cells #[.int .u16 0,.int .u8 0,.int .u8 0,.int .u32 0,.int .u32 0,.int .i32 0,.int .u16 0,.int .u16 0,.slice none 0 0] 59)=wa at K0 D0 R0 T0 Z3 ⊢
 obtain⟨g1,hg1⟩:∃g,w.heap.size=g:=⟨_,rfl⟩
 have HG1:Hid (w.heap.size=g1):=hg1
 rw [hg1] at K0 D0 R0 Z3 ⊢
 clear hg1
 obtain⟨c0,c1,c2,c3,c4,c5,c6,c7⟩:=K0.out
 go_wp2_with fail
 refine Calls.mono (HKN _) ?_
 rintro e w1 ⟨rfl,rfl⟩
 clear HKN
 obtain⟨d0,d1,d2,d3,d4,d5,d6,d7,d8⟩:=D0.out
 go_wp2_with fail
 refine Calls.mono (Qli h.typ HK.out b (.slice al b.links.length cl) (.slice ar b.routers.length cr) (.slice ad b.data.length cd) _ (HA.out.keep T0.out) HB.out.1 HB.out.2.1 HB.out.2.2) ?_
 rw [HM.out]
 rintro e w2 ⟨rfl,t2⟩
 clear c0 c1 c2 c3 c4 c5 c6 c7 d0 d1 d2 d3 d4 d5 d6 d7 d8
 have K2:Hid (Hd w2 g1 h):=K0.out.keep t2
 have D2:Hid (Bd w2 (g1+1) b (.slice al b.links.length cl) (.slice ar b.routers.length cr) (.slice ad b.data.length cd)):=D0.out.keep t2
 have R2:Hid (Out w2 (g1+1+1) HV.zero (.slice none 0 0)):=R0.out.keep t2
 have T2:Hid (Touch (fun _=>False) w w2):=T0.out.trans t2
 clear t2 K0 D0 R0
 obtain⟨c0,c1,c2,c3,c4,c5,c6,c7⟩:=K2.out
 obtain⟨d0,d1,d2,d3,d4,d5,d6,d7,d8⟩:=D2.out
 go_wp2_with fail
 refine Calls.mono (Qi8 h.typ OH.out.t.1 OH.out.t.2 b OB.out (.slice al b.links.length cl) (.slice ar b.routers.length cr) (.slice ad b.data.length cd) _ (HA.out.keep T2.out) HB.out.1 HB.out.2.1 HB.out.2.2) ?_
 rintro e w3 ⟨rfl,t3⟩
 clear c0 c1 c2 c3 c4 c5 c6 c7 d0 d1 d2 d3 d4 d5 d6 d7 d8
 have K3:Hid (Hd w3 g1 h):=K2.out.keep t3
 have D3:Hid (Bd w3 (g1+1) b (.slice al b.links.length cl) (.slice ar b.routers.length cr) (.slice ad b.data.length cd)):=D2.out.keep t3
 have R3:Hid (Out w3 (g1+1+1) HV.zero (.slice none 0 0)):=R2.out.keep t3
 have T3:Hid (Touch (fun _=>False) w w3):=T2.out.trans t3
 clear t3 K2 D2 R2
 obtain⟨c0,c1,c2,c3,c4,c5,c6,c7⟩:=K3.out
 obtain⟨d0,d1,d2,d3,d4,d5,d6,d7,d8⟩:=D3.out
 go_upto_region 7 with fail
 clear hs0 hs1
 have HLL:Hid ((layB h.typ b).length≤65515):=by show _≤_;have:=Qc7 h.typ b;have:=HS.out;omega
 have HLY:Hid (∀z∈layB h.typ b,0≤z∧z<256):=Qd3 _ _ OB.out
 have HLA:=fun w' ha=>Qkg h.typ HK.out b OB.out (.slice al b.links.length cl) (.slice ar b.routers.length cr) (.slice ad b.data.length cd) w' ha HB.out.1 HB.out.2.1 HB.out.2.2
 have HSE:=fun v w' (a:ArgAt w' v (layB h.typ b))=>Qg2 h OH.out v (layB h.typ b) w' a HLY.out HLL.out
 unfold BV.v at HLA
 unfold HV.sv sealH at HSE
 generalize hgr:g1+1+1=gr at *
 have HGR:Hid (g1+1+1=gr):=hgr
 have hn1:g1≠gr:=by omega
 have hn2:g1+1≠gr:=by omega
 clear hgr
 have c0':=Qai hn1 c0
 have c1':=Qai hn1 c1
 have c2':=Qai hn1 c2
 have c3':=Qai hn1 c3
 have c4':=Qai hn1 c4
 have c5':=Qai hn1 c5
 have c6':=Qai hn1 c6
 have c7':=Qai hn1 c7
 have d0':=Qai hn2 d0
 have d1':=Qai hn2 d1
 have d2':=Qai hn2 d2
 have d3':=Qai hn2 d3
 have d4':=Qai hn2 d4
 have d5':=Qai hn2 d5
 have d6':=Qai hn2 d6
 have d7':=Qai hn2 d7
 have d8':=Qai hn2 d8
 clear c0 c1 c2 c3 c4 c5 c6 c7 d0 d1 d2 d3 d4 d5 d6 d7 d8
 have st:SinceF w3 gr w3.drew:=SinceF.start w3 gr
 have A3:Hid (BArg w3.drew b (.slice al b.links.length cl) (.slice ar b.routers.length cr) (.slice ad b.data.length cd)):=HA.out.keep T3.out.drew
 have O3:Hid (Out w3.drew gr HV.zero (.slice none 0 0)):=R3.out.keep ((Touch.refl _ _).drew)
 have hZ3:Hid (w.heap.size≤w3.heap.size∧gr<w3.heap.size):=⟨T3.out.size,R3.out.lt⟩
 go_region_held3 (fun w'=>SinceF w3 gr w') (first|with_reducible assumption|with_reducible exact SinceF.set9 (by assumption) _ _ _ _ _ _ _ _ _) (first
  | (go_at_call 66;refine Calls.mono (HLA _ A3.out) ?_;rintro e w4 ⟨v4,rfl,b4⟩;obtain⟨va4,vc4,rfl⟩:=b4.form;have B4:Hid (Buf w3.drew w4 (.slice va4 (layB h.typ b).length vc4) (layB h.typ b)):=b4;have s4:=SinceF.trans (by assumption) b4.t;clear b4)
  | (go_at_call 22;refine Calls.mono (HSE _ _ B4.out.arg) ?_;rintro e w5 ⟨u5,rfl,b5⟩;obtain⟨va5,vc5,rfl⟩:=b5.form;have B5:Hid (Buf w4 w5 (.slice va5 (layB h.typ b).length vc5) (layB h.typ b)):=b5;have s5:=SinceF.trans (by assumption) b5.t;obtain⟨⟨⟨zc0,zc1,zc2,zc3,zc4,zc5,zc6,zc7⟩,zc8⟩,fr⟩:=(O3.out.keep B4.out.t).keep b5.t;have zf0:=fr 0 (by omega);have zf1:=fr 1 (by omega);have zf2:=fr 2 (by omega);have zf3:=fr 3 (by omega);have zf4:=fr 4 (by omega);have zf5:=fr 5 (by omega);have zf6:=fr 6 (by omega);have zf7:=fr 7 (by omega);have zf8:=fr 8 (by omega);clear fr b5))
 obtain⟨wz,hwz⟩:∃wz,wz=(((((((((w5.setCell ⟨gr,0,none⟩ (.int .u16 h.age)).setCell ⟨gr,1,none⟩ (.int .u8 h.opts)).setCell ⟨gr,2,none⟩ (.int .u8 h.typ)).setCell ⟨gr,3,none⟩ (.int .u32 h.id)).setCell ⟨gr,4,none⟩ (.int .u32 h.adv)).setCell ⟨gr,5,none⟩ (.int .i32 h.seq)).setCell ⟨gr,6,none⟩ (.int .u16 (sealS h (layB h.typ b)))).setCell ⟨gr,7,none⟩ (.int .u16 (20+((layB h.typ b).length:Int)))).setCell ⟨gr,8,none⟩ (.slice va5 (layB h.typ b).length vc5)):=⟨_,rfl⟩
 have zd0:wz.cell? ⟨gr,0,none⟩=some (.int .u16 h.age):=by rw [hwz];simp [zc0,go_sem]
 have zd1:wz.cell? ⟨gr,1,none⟩=some (.int .u8 h.opts):=by rw [hwz];simp [zc1,go_sem]
 have zd2:wz.cell? ⟨gr,2,none⟩=some (.int .u8 h.typ):=by rw [hwz];simp [zc2,go_sem]
 have zd3:wz.cell? ⟨gr,3,none⟩=some (.int .u32 h.id):=by rw [hwz];simp [zc3,go_sem]
 have zd4:wz.cell? ⟨gr,4,none⟩=some (.int .u32 h.adv):=by rw [hwz];simp [zc4,go_sem]
 have zd5:wz.cell? ⟨gr,5,none⟩=some (.int .i32 h.seq):=by rw [hwz];simp [zc5,go_sem]
 have zd6:wz.cell? ⟨gr,6,none⟩=some (.int .u16 (sealS h (layB h.typ b))):=by rw [hwz];simp [zc6,go_sem]
 have zd7:wz.cell? ⟨gr,7,none⟩=some (.int .u16 (20+((layB h.typ b).length:Int))):=by rw [hwz];simp [zc7,go_sem]
 have zd8:wz.cell? ⟨gr,8,none⟩=some (.slice va5 (layB h.typ b).length vc5):=by rw [hwz];simp [zc8,go_sem]
 have HUz:Hid (Touch (fun k=>k=gr) w5 wz):=by show Touch _ _ _;rw [hwz];refine Touch.setCell (F:=fun k=>k=gr) (p:=⟨gr,8,none⟩) ?_ (Or.inl rfl) _;refine Touch.setCell (F:=fun k=>k=gr) (p:=⟨gr,7,none⟩) ?_ (Or.inl rfl) _;refine Touch.setCell (F:=fun k=>k=gr) (p:=⟨gr,6,none⟩) ?_ (Or.inl rfl) _;refine Touch.setCell (F:=fun k=>k=gr) (p:=⟨gr,5,none⟩) ?_ (Or.inl rfl) _;refine Touch.setCell (F:=fun k=>k=gr) (p:=⟨gr,4,none⟩) ?_ (Or.inl rfl) _;refine Touch.setCell (F:=fun k=>k=gr) (p:=⟨gr,3,none⟩) ?_ (Or.inl rfl) _;refine Touch.setCell (F:=fun k=>k=gr) (p:=⟨gr,2,none⟩) ?_ (Or.inl rfl) _;refine Touch.setCell (F:=fun k=>k=gr) (p:=⟨gr,1,none⟩) ?_ (Or.inl rfl) _;refine Touch.setCell (F:=fun k=>k=gr) (p:=⟨gr,0,none⟩) ?_ (Or.inl rfl) _;exact Touch.refl _ _
 rw [←hwz]
 clear hwz zc0 zf0 zc1 zf1 zc2 zf2 zc3 zf3 zc4 zf4 zc5 zf5 zc6 zf6 zc7 zf7 zc8 zf8
 go_wp2_with fail
 refine bodyPost_ret (v:=.tuple #[.agg #[.int .u16 h.age,.int .u8 h.opts,.int .u8 h.typ,.int .u32 h.id,.int .u32 h.adv,.int .i32 h.seq,.int .u16 (sealS h (layB h.typ b)),.int .u16 (20+((layB h.typ b).length:Int)),.slice va5 (layB h.typ b).length vc5],.int .i64 0]) (by simp [results,Tryz.results45,go_sem,zd0,zd1,zd2,zd3,zd4,zd5,zd6,zd7,zd8]) rfl ?_
 refine⟨_,rfl,?_,?_⟩
 ·refine Qak (Qab B5.out.own HUz.out (fun k hk e=>by have h1:=(B5.out.own.lt k hk).1;have h2:=B4.out.t.size;have h3:=hZ3.out;have h4:w3.drew.heap.size=w3.heap.size:=rfl;omega)) ?_
  have h2:=B4.out.t.size;have h3:=hZ3.out;have h4:w3.drew.heap.size=w3.heap.size:=rfl;omega
 ·exact (((T3.out.drew.trans B4.out.t).trans B5.out.t)).trans' HUz.out (fun i hi e=>by have:=HGR.out;have:=HG1.out;omega)
end Go.Proofs.YtldmkoogghemhaaGreat
