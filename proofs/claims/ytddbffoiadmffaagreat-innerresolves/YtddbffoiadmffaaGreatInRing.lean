import Derived.Test.YtddbffoiadmffaaGreatStEncAny
import Derived.Deep.RegionHeld3
import Derived.Deep.DeepCutAuto
import Derived.Test.YtddbffoiadmffaaGreatInRoutes
namespace Go.Proofs.YtddbffoiadmffaaGreat
set_option maxHeartbeats 8000000
open Go.RowKit
set_option linter.unusedVariables false
set_option maxRecDepth 100000
theorem Qh2 (l:List LV) (h:∀x∈l,x.Ok):∀z∈linksB l,0≤z∧z<256:=by
 intro z hz
 simp only [linksB,List.mem_flatMap] at hz
 obtain⟨x,hx,hz⟩:=hz
 have ox:=(h x hx).t
 simp only [linkB,List.mem_append,List.mem_cons,List.not_mem_nil,or_false] at hz
 rcases hz with ((hz|hz)|hz)|hz
 ·exact Qan _ _ z hz
 ·exact Qan _ _ z hz
 ·rcases hz with rfl|rfl <;> omega
 ·exact Qan _ _ z hz
theorem Qf9 (t:Int) (b:BV) (ok:b.Ok):∀z∈layB t b,0≤z∧z<256:=by
 intro z hz
 have of:=ok.f
 unfold layB at hz
 split at hz
 ·simp only [List.mem_append,List.mem_cons,List.not_mem_nil,or_false] at hz
  rcases hz with (hz|hz)|hz
  ·rcases hz with rfl|rfl <;> omega
  ·exact Qan _ _ z hz
  ·exact Qh2 _ ok.l z hz
 ·split at hz
  ·rcases List.mem_append.1 hz with hz|hz
   ·exact Qan _ _ z hz
   ·simp only [routersB,List.mem_flatMap] at hz
    obtain⟨x,_,hz⟩:=hz
    exact Qan _ _ z hz
  ·split at hz
   ·rcases List.mem_append.1 hz with hz|hz <;> exact Qan _ _ z hz
   ·split at hz
    ·simp only [List.mem_append] at hz
     rcases hz with ((hz|hz)|hz)|hz <;> exact Qan _ _ z hz
    ·exact ok.d z hz
theorem Qfx (h:HV) (oh:h.All) (b:BV) (ok:b.Ok) (vl vr vd:Value) (w:World) (ha:BArg w b vl vr vd) (hb1:b.links.length≤8192) (hb2:b.routers.length≤32768) (hb3:b.data.length≤131072) (hk:knownB h.typ=true) (hm:mayB h.typ b=true) (hs:sizeB h.typ b≤65515) :
  Calls Tryz.prog 50 #[h.v,b.v vl vr vd] w fun e w'=>∃u,e=.returned (.tuple #[(sealH h (layB h.typ b)).sv u,.int .i64 0])∧Buf w w' u (layB h.typ b):=by
 obtain⟨al,cl,rfl,-⟩:=ValsAt.form ha.l
 obtain⟨ar,cr,rfl,-⟩:=ValsAt.form ha.r
 obtain⟨ad,cd,rfl,-⟩:=ArgAt.form ha.d
 have OH:Hid h.All:=oh
 have OB:Hid b.Ok:=ok
 have HA:Hid (BArg w b (.slice al b.links.length cl) (.slice ar b.routers.length cr) (.slice ad b.data.length cd)):=ha
 have HB:Hid (b.links.length≤8192∧b.routers.length≤32768∧b.data.length≤131072):=⟨hb1,hb2,hb3⟩
 have hb3':b.data.length≤131072:=hb3
 clear oh ok ha hb1 hb2 hb3
 have HKN:=fun w=>Ql5 h.typ OH.out.t.1 w
 rw [hk] at HKN
 have HK:Hid (knownB h.typ=true):=hk
 have HM:Hid (mayB h.typ b=true):=hm
 clear hk hm
 have hs0:wrap64 (sizeB h.typ b+20)=sizeB h.typ b+20:=by have:=Qjl h.typ b HB.out.1 HB.out.2.1 HB.out.2.2;unfold wrap64;omega
 have hs1:¬(65535:Int)<sizeB h.typ b+20:=by omega
 have HS:Hid (sizeB h.typ b≤65515):=hs
 clear hs
 show Calls Tryz.prog 50 #[.agg #[.int .u16 h.age,.int .u8 h.opts,.int .u8 h.typ,.int .u32 h.id,.int .u32 h.adv,.int .i32 h.seq,.int .u16 h.sum,.int .u16 h.len],.agg #[.int .u8 b.flags,.slice al b.links.length cl,.int .u32 b.mask,.slice ar b.routers.length cr,.int .u32 b.metric,.bool b.type2,.int .u32 b.fwd,.int .u32 b.tag,.slice ad b.data.length cd]] w _
 go_enter Tryz.func50,Tryz.ntmps50
 go_upto_region 1 with fail
 have z1:(w.alloc (.cells #[.int .u16 h.age,.int .u8 h.opts,.int .u8 h.typ,.int .u32 h.id,.int .u32 h.adv,.int .i32 h.seq,.int .u16 h.sum,.int .u16 h.len] 54)).heap.size=w.heap.size+1:=by simp [go_sem]
 have z2:((w.alloc (.cells #[.int .u16 h.age,.int .u8 h.opts,.int .u8 h.typ,.int .u32 h.id,.int .u32 h.adv,.int .i32 h.seq,.int .u16 h.sum,.int .u16 h.len] 54)).alloc (.cells #[.int .u8 b.flags,.slice al b.links.length cl,.int .u32 b.mask,.slice ar b.routers.length cr,.int .u32 b.metric,.bool b.type2,.int .u32 b.fwd,.int .u32 b.tag,.slice ad b.data.length cd] 119)).heap.size=w.heap.size+1+1:=by simp [go_sem]
 have Z3:Hid ((((w.alloc (.cells #[.int .u16 h.age,.int .u8 h.opts,.int .u8 h.typ,.int .u32 h.id,.int .u32 h.adv,.int .i32 h.seq,.int .u16 h.sum,.int .u16 h.len] 54)).alloc (.cells #[.int .u8 b.flags,.slice al b.links.length cl,.int .u32 b.mask,.slice ar b.routers.length cr,.int .u32 b.metric,.bool b.type2,.int .u32 b.fwd,.int .u32 b.tag,.slice ad b.data.length cd] 119)).alloc (.cells #[.int .u16 0,.int .u8 0,.int .u8 0,.int .u32 0,.int .u32 0,.int .i32 0,.int .u16 0,.int .u16 0,.slice none 0 0] 57)).heap.size=w.heap.size+1+1+1):=by show _=_;simp [go_sem]
 have K0:Hid (Hd (((w.alloc (.cells #[.int .u16 h.age,.int .u8 h.opts,.int .u8 h.typ,.int .u32 h.id,.int .u32 h.adv,.int .i32 h.seq,.int .u16 h.sum,.int .u16 h.len] 54)).alloc (.cells #[.int .u8 b.flags,.slice al b.links.length cl,.int .u32 b.mask,.slice ar b.routers.length cr,.int .u32 b.metric,.bool b.type2,.int .u32 b.fwd,.int .u32 b.tag,.slice ad b.data.length cd] 119)).alloc (.cells #[.int .u16 0,.int .u8 0,.int .u8 0,.int .u32 0,.int .u32 0,.int .i32 0,.int .u16 0,.int .u16 0,.slice none 0 0] 57)) w.heap.size h):=(Hd.new w h _).keep (((Touch.refl _ _).alloc _).alloc _)
 have D0:Hid (Bd (((w.alloc (.cells #[.int .u16 h.age,.int .u8 h.opts,.int .u8 h.typ,.int .u32 h.id,.int .u32 h.adv,.int .i32 h.seq,.int .u16 h.sum,.int .u16 h.len] 54)).alloc (.cells #[.int .u8 b.flags,.slice al b.links.length cl,.int .u32 b.mask,.slice ar b.routers.length cr,.int .u32 b.metric,.bool b.type2,.int .u32 b.fwd,.int .u32 b.tag,.slice ad b.data.length cd] 119)).alloc (.cells #[.int .u16 0,.int .u8 0,.int .u8 0,.int .u32 0,.int .u32 0,.int .i32 0,.int .u16 0,.int .u16 0,.slice none 0 0] 57)) (w.heap.size+1) b (.slice al b.links.length cl) (.slice ar b.routers.length cr) (.slice ad b.data.length cd)):=z1 ▸ (Bd.new (w.alloc (.cells #[.int .u16 h.age,.int .u8 h.opts,.int .u8 h.typ,.int .u32 h.id,.int .u32 h.adv,.int .i32 h.seq,.int .u16 h.sum,.int .u16 h.len] 54)) b _ _ _ _).keep ((Touch.refl _ _).alloc _)
 have R0:Hid (Out (((w.alloc (.cells #[.int .u16 h.age,.int .u8 h.opts,.int .u8 h.typ,.int .u32 h.id,.int .u32 h.adv,.int .i32 h.seq,.int .u16 h.sum,.int .u16 h.len] 54)).alloc (.cells #[.int .u8 b.flags,.slice al b.links.length cl,.int .u32 b.mask,.slice ar b.routers.length cr,.int .u32 b.metric,.bool b.type2,.int .u32 b.fwd,.int .u32 b.tag,.slice ad b.data.length cd] 119)).alloc (.cells #[.int .u16 0,.int .u8 0,.int .u8 0,.int .u32 0,.int .u32 0,.int .i32 0,.int .u16 0,.int .u16 0,.slice none 0 0] 57)) (w.heap.size+1+1) HV.zero (.slice none 0 0)):=z2 ▸ Out.new ((w.alloc (.cells #[.int .u16 h.age,.int .u8 h.opts,.int .u8 h.typ,.int .u32 h.id,.int .u32 h.adv,.int .i32 h.seq,.int .u16 h.sum,.int .u16 h.len] 54)).alloc (.cells #[.int .u8 b.flags,.slice al b.links.length cl,.int .u32 b.mask,.slice ar b.routers.length cr,.int .u32 b.metric,.bool b.type2,.int .u32 b.fwd,.int .u32 b.tag,.slice ad b.data.length cd] 119)) HV.zero _ _
 have T0:Hid (Touch (fun _=>False) w (((w.alloc (.cells #[.int .u16 h.age,.int .u8 h.opts,.int .u8 h.typ,.int .u32 h.id,.int .u32 h.adv,.int .i32 h.seq,.int .u16 h.sum,.int .u16 h.len] 54)).alloc (.cells #[.int .u8 b.flags,.slice al b.links.length cl,.int .u32 b.mask,.slice ar b.routers.length cr,.int .u32 b.metric,.bool b.type2,.int .u32 b.fwd,.int .u32 b.tag,.slice ad b.data.length cd] 119)).alloc (.cells #[.int .u16 0,.int .u8 0,.int .u8 0,.int .u32 0,.int .u32 0,.int .i32 0,.int .u16 0,.int .u16 0,.slice none 0 0] 57))):=(((Touch.refl _ _).alloc _).alloc _).alloc _
 clear z1 z2
 generalize ((w.alloc (.cells #[.int .u16 h.age,.int .u8 h.opts,.int .u8 h.typ,.int .u32 h.id,.int .u32 h.adv,.int .i32 h.seq,.int .u16 h.sum,.int .u16 h.len] 54)).alloc (.cells #[.int .u8 b.flags,.slice al b.links.length cl,.int .u32 b.mask,.slice ar b.routers.length cr,.int .u32 b.metric,.bool b.type2,.int .u32 b.fwd,.int .u32 b.tag,.slice ad b.data.length cd] 119)).alloc (.cells #[.int .u16 0,.int .u8 0,.int .u8 0,.int .u32 0,.int .u32 0,.int .i32 0,.int .u16 0,.int .u16 0,.slice none 0 0] 57)=wa at K0 D0 R0 T0 Z3 ⊢
 obtain⟨g1,hg1⟩:∃g,w.heap.size=g:=⟨_,rfl⟩
 have HG1:Hid (w.heap.size=g1):=hg1
 rw [hg1] at K0 D0 R0 Z3 ⊢
 clear hg1
 obtain⟨c0,c1,c2,c3,c4,c5,c6,c7⟩:=K0.out
 go_wp2_with fail
 refine Calls.mono (HKN _) ?_
 rintro e w1 ⟨rfl,rfl⟩
 clear HKN
 obtain⟨d0,d1,d2,d3,d4,d5,d6,d7,d8⟩:=D0.out
 go_wp2_with fail
 refine Calls.mono (Qpf h.typ HK.out b (.slice al b.links.length cl) (.slice ar b.routers.length cr) (.slice ad b.data.length cd) _ (HA.out.keep T0.out) HB.out.1 HB.out.2.1 HB.out.2.2) ?_
 rw [HM.out]
 rintro e w2 ⟨rfl,t2⟩
 clear c0 c1 c2 c3 c4 c5 c6 c7 d0 d1 d2 d3 d4 d5 d6 d7 d8
 have K2:Hid (Hd w2 g1 h):=K0.out.keep t2
 have D2:Hid (Bd w2 (g1+1) b (.slice al b.links.length cl) (.slice ar b.routers.length cr) (.slice ad b.data.length cd)):=D0.out.keep t2
 have R2:Hid (Out w2 (g1+1+1) HV.zero (.slice none 0 0)):=R0.out.keep t2
 have T2:Hid (Touch (fun _=>False) w w2):=T0.out.trans t2
 clear t2 K0 D0 R0
 obtain⟨c0,c1,c2,c3,c4,c5,c6,c7⟩:=K2.out
 obtain⟨d0,d1,d2,d3,d4,d5,d6,d7,d8⟩:=D2.out
 go_wp2_with fail
 refine Calls.mono (Qna h.typ OH.out.t.1 OH.out.t.2 b OB.out (.slice al b.links.length cl) (.slice ar b.routers.length cr) (.slice ad b.data.length cd) _ (HA.out.keep T2.out) HB.out.1 HB.out.2.1 HB.out.2.2) ?_
 rintro e w3 ⟨rfl,t3⟩
 clear c0 c1 c2 c3 c4 c5 c6 c7 d0 d1 d2 d3 d4 d5 d6 d7 d8
 have K3:Hid (Hd w3 g1 h):=K2.out.keep t3
 have D3:Hid (Bd w3 (g1+1) b (.slice al b.links.length cl) (.slice ar b.routers.length cr) (.slice ad b.data.length cd)):=D2.out.keep t3
 have R3:Hid (Out w3 (g1+1+1) HV.zero (.slice none 0 0)):=R2.out.keep t3
 have T3:Hid (Touch (fun _=>False) w w3):=T2.out.trans t3
 clear t3 K2 D2 R2
 obtain⟨c0,c1,c2,c3,c4,c5,c6,c7⟩:=K3.out
 obtain⟨d0,d1,d2,d3,d4,d5,d6,d7,d8⟩:=D3.out
 go_upto_region 7 with fail
 clear hs0 hs1
 have HLL:Hid ((layB h.typ b).length≤65515):=by show _≤_;have:=Qbh h.typ b;have:=HS.out;omega
 have HLY:Hid (∀z∈layB h.typ b,0≤z∧z<256):=Qf9 _ _ OB.out
 have HLA:=fun w' ha=>Qqe h.typ HK.out b OB.out (.slice al b.links.length cl) (.slice ar b.routers.length cr) (.slice ad b.data.length cd) w' ha HB.out.1 HB.out.2.1 HB.out.2.2
 have HSE:=fun v w' (a:ArgAt w' v (layB h.typ b))=>Qrq h OH.out v (layB h.typ b) w' a HLY.out HLL.out
 unfold BV.v at HLA
 unfold HV.sv sealH at HSE
 generalize hgr:g1+1+1=gr at *
 have HGR:Hid (g1+1+1=gr):=hgr
 have hn1:g1≠gr:=by omega
 have hn2:g1+1≠gr:=by omega
 clear hgr
 have c0':=Qao hn1 c0
 have c1':=Qao hn1 c1
 have c2':=Qao hn1 c2
 have c3':=Qao hn1 c3
 have c4':=Qao hn1 c4
 have c5':=Qao hn1 c5
 have c6':=Qao hn1 c6
 have c7':=Qao hn1 c7
 have d0':=Qao hn2 d0
 have d1':=Qao hn2 d1
 have d2':=Qao hn2 d2
 have d3':=Qao hn2 d3
 have d4':=Qao hn2 d4
 have d5':=Qao hn2 d5
 have d6':=Qao hn2 d6
 have d7':=Qao hn2 d7
 have d8':=Qao hn2 d8
 clear c0 c1 c2 c3 c4 c5 c6 c7 d0 d1 d2 d3 d4 d5 d6 d7 d8
 have st:SinceF w3 gr w3.drew:=SinceF.start w3 gr
 have A3:Hid (BArg w3.drew b (.slice al b.links.length cl) (.slice ar b.routers.length cr) (.slice ad b.data.length cd)):=HA.out.keep T3.out.drew
 have O3:Hid (Out w3.drew gr HV.zero (.slice none 0 0)):=R3.out.keep ((Touch.refl _ _).drew)
 have hZ3:Hid (w.heap.size≤w3.heap.size∧gr<w3.heap.size):=⟨T3.out.size,R3.out.lt⟩
 go_region_held3 (fun w'=>SinceF w3 gr w') (first|with_reducible assumption|with_reducible exact SinceF.set9 (by assumption) _ _ _ _ _ _ _ _ _) (first
  | (go_at_call 95;refine Calls.mono (HLA _ A3.out) ?_;rintro e w4 ⟨v4,rfl,b4⟩;obtain⟨va4,vc4,rfl⟩:=b4.form;have B4:Hid (Buf w3.drew w4 (.slice va4 (layB h.typ b).length vc4) (layB h.typ b)):=b4;have s4:=SinceF.trans (by assumption) b4.t;clear b4)
  | (go_at_call 94;refine Calls.mono (HSE _ _ B4.out.arg) ?_;rintro e w5 ⟨u5,rfl,b5⟩;obtain⟨va5,vc5,rfl⟩:=b5.form;have B5:Hid (Buf w4 w5 (.slice va5 (layB h.typ b).length vc5) (layB h.typ b)):=b5;have s5:=SinceF.trans (by assumption) b5.t;obtain⟨⟨⟨zc0,zc1,zc2,zc3,zc4,zc5,zc6,zc7⟩,zc8⟩,fr⟩:=(O3.out.keep B4.out.t).keep b5.t;have zf0:=fr 0 (by omega);have zf1:=fr 1 (by omega);have zf2:=fr 2 (by omega);have zf3:=fr 3 (by omega);have zf4:=fr 4 (by omega);have zf5:=fr 5 (by omega);have zf6:=fr 6 (by omega);have zf7:=fr 7 (by omega);have zf8:=fr 8 (by omega);clear fr b5))
 obtain⟨wz,hwz⟩:∃wz,wz=(((((((((w5.setCell ⟨gr,0,none⟩ (.int .u16 h.age)).setCell ⟨gr,1,none⟩ (.int .u8 h.opts)).setCell ⟨gr,2,none⟩ (.int .u8 h.typ)).setCell ⟨gr,3,none⟩ (.int .u32 h.id)).setCell ⟨gr,4,none⟩ (.int .u32 h.adv)).setCell ⟨gr,5,none⟩ (.int .i32 h.seq)).setCell ⟨gr,6,none⟩ (.int .u16 (sealS h (layB h.typ b)))).setCell ⟨gr,7,none⟩ (.int .u16 (20+((layB h.typ b).length:Int)))).setCell ⟨gr,8,none⟩ (.slice va5 (layB h.typ b).length vc5)):=⟨_,rfl⟩
 have zd0:wz.cell? ⟨gr,0,none⟩=some (.int .u16 h.age):=by rw [hwz];simp [zc0,go_sem]
 have zd1:wz.cell? ⟨gr,1,none⟩=some (.int .u8 h.opts):=by rw [hwz];simp [zc1,go_sem]
 have zd2:wz.cell? ⟨gr,2,none⟩=some (.int .u8 h.typ):=by rw [hwz];simp [zc2,go_sem]
 have zd3:wz.cell? ⟨gr,3,none⟩=some (.int .u32 h.id):=by rw [hwz];simp [zc3,go_sem]
 have zd4:wz.cell? ⟨gr,4,none⟩=some (.int .u32 h.adv):=by rw [hwz];simp [zc4,go_sem]
 have zd5:wz.cell? ⟨gr,5,none⟩=some (.int .i32 h.seq):=by rw [hwz];simp [zc5,go_sem]
 have zd6:wz.cell? ⟨gr,6,none⟩=some (.int .u16 (sealS h (layB h.typ b))):=by rw [hwz];simp [zc6,go_sem]
 have zd7:wz.cell? ⟨gr,7,none⟩=some (.int .u16 (20+((layB h.typ b).length:Int))):=by rw [hwz];simp [zc7,go_sem]
 have zd8:wz.cell? ⟨gr,8,none⟩=some (.slice va5 (layB h.typ b).length vc5):=by rw [hwz];simp [zc8,go_sem]
 have HUz:Hid (Touch (fun k=>k=gr) w5 wz):=by show Touch _ _ _;rw [hwz];refine Touch.setCell (F:=fun k=>k=gr) (p:=⟨gr,8,none⟩) ?_ (Or.inl rfl) _;refine Touch.setCell (F:=fun k=>k=gr) (p:=⟨gr,7,none⟩) ?_ (Or.inl rfl) _;refine Touch.setCell (F:=fun k=>k=gr) (p:=⟨gr,6,none⟩) ?_ (Or.inl rfl) _;refine Touch.setCell (F:=fun k=>k=gr) (p:=⟨gr,5,none⟩) ?_ (Or.inl rfl) _;refine Touch.setCell (F:=fun k=>k=gr) (p:=⟨gr,4,none⟩) ?_ (Or.inl rfl) _;refine Touch.setCell (F:=fun k=>k=gr) (p:=⟨gr,3,none⟩) ?_ (Or.inl rfl) _;refine Touch.setCell (F:=fun k=>k=gr) (p:=⟨gr,2,none⟩) ?_ (Or.inl rfl) _;refine Touch.setCell (F:=fun k=>k=gr) (p:=⟨gr,1,none⟩) ?_ (Or.inl rfl) _;refine Touch.setCell (F:=fun k=>k=gr) (p:=⟨gr,0,none⟩) ?_ (Or.inl rfl) _;exact Touch.refl _ _
 rw [←hwz]
 clear hwz zc0 zf0 zc1 zf1 zc2 zf2 zc3 zf3 zc4 zf4 zc5 zf5 zc6 zf6 zc7 zf7 zc8 zf8
 go_wp2_with fail
 refine bodyPost_ret (v:=.tuple #[.agg #[.int .u16 h.age,.int .u8 h.opts,.int .u8 h.typ,.int .u32 h.id,.int .u32 h.adv,.int .i32 h.seq,.int .u16 (sealS h (layB h.typ b)),.int .u16 (20+((layB h.typ b).length:Int)),.slice va5 (layB h.typ b).length vc5],.int .i64 0]) (by simp [results,Tryz.results50,go_sem,zd0,zd1,zd2,zd3,zd4,zd5,zd6,zd7,zd8]) rfl ?_
 refine⟨_,rfl,?_,?_⟩
 ·refine Qam (Qab B5.out.own HUz.out (fun k hk e=>by have h1:=(B5.out.own.lt k hk).1;have h2:=B4.out.t.size;have h3:=hZ3.out;have h4:w3.drew.heap.size=w3.heap.size:=rfl;omega)) ?_
  have h2:=B4.out.t.size;have h3:=hZ3.out;have h4:w3.drew.heap.size=w3.heap.size:=rfl;omega
 ·exact (((T3.out.drew.trans B4.out.t).trans B5.out.t)).trans' HUz.out (fun i hi e=>by have:=HGR.out;have:=HG1.out;omega)
theorem Qil {x y:Int} (hx:1≤x∧x≤255) (hy:1≤y∧y≤255):numBytes 2 (256*x+y)=[x,y]:=by
 rw [numBytes2]
 congr 1
 ·omega
 ·congr 1
  omega
theorem Qma (h:HV) (l:List Int) (s:Int) (x y:Int) (hs:numBytes 2 s=[x,y]):(headB { h with sum:=s }++l).drop 2=laid ((headB h++l).drop 2) 14 x y:=by
 simp only [headB,hs,numBytes2,numBytes4,List.cons_append,List.nil_append,List.drop,laid,List.set]
theorem Qqy (h:HV) (l:List Int) (a:Int):(headB { h with age:=a }++l).drop 2=(headB h++l).drop 2:=by
 simp only [headB,numBytes2,numBytes4,List.cons_append,List.nil_append,List.drop]
theorem Qht (h:HV) (l:List Int):((headB h++l).drop 2).length=18+l.length:=by
 rw [List.length_drop,List.length_append,Qa3];omega
theorem Qeu (h:HV) (l:List Int):257≤sealS h l∧sealS h l≤65535:=by
 have h1:=Qdr ((headB { h with len:=20+(l.length:Int) }++l).drop 2) 14
 have h2:=Qdh ((headB { h with len:=20+(l.length:Int) }++l).drop 2) 14
 unfold sealS
 omega
theorem Qpa (h:HV) (l:List Int):numBytes 2 (sealS h l)=[flx ((headB { h with len:=20+(l.length:Int) }++l).drop 2) 14,fly ((headB { h with len:=20+(l.length:Int) }++l).drop 2) 14]:=Qil (Qdr _ _) (Qdh _ _)
theorem Qk2 (h:HV) (l:List Int):whole ((headB (sealH h l)++l).drop 2)=true:=by
 have e:sealH h l={ { h with len:=20+(l.length:Int) } with sum:=sealS h l }:=rfl
 rw [e,Qma _ l _ _ _ (Qpa h l)]
 exact Qle _ 14 (by rw [Qht];omega)
theorem Qj6 {h:HV} (ok:h.All) {l:List Int} (hl:l.length≤65515):(sealH h l).All:=by
 obtain⟨a,o,t,i,v,s,m,n⟩:=ok
 have:=Qeu h l
 exact⟨a,o,t,i,v,s,⟨by show 0≤sealS h l;omega,by show sealS h l<65536;omega⟩,⟨by show 0≤20+(l.length:Int);omega,by show 20+(l.length:Int)<65536;omega⟩⟩
theorem Quf {h:HV} {B:BV} (ok:B.Ok) (he:EncOk h.typ B) (a:Int):chkE { sealH h (layB h.typ B) with age:=a } (layB h.typ B)=if h.seq = -2147483648∨¬bits BinOp.andNot .u16 a 32768≤3600 then 24 else 0:=by
 have hd:decB h.typ (layB h.typ B)=some B:=Qfg ok ((Qem _ _).1 he.may)
 have hb:=Qeu h (layB h.typ B)
 have hw:=Qk2 h (layB h.typ B)
 generalize layB h.typ B=l at *
 unfold chkE
 rw [Qqy,hw]
 have e1:(sealH h l).len=20+(l.length:Int):=rfl
 have e2:(sealH h l).sum=sealS h l:=rfl
 have e3:(sealH h l).typ=h.typ:=rfl
 have e4:(sealH h l).seq=h.seq:=rfl
 dsimp only
 rw [e1,e2,e3,e4,hd]
 rw [if_neg (by omega),if_neg (by rintro (q|q);omega;cases q),if_neg (by rw [he.known];decide)]
 split
 ·rfl
 ·rw [if_neg (by simp)]
def rhA:HV:=⟨0,0,1,1,1,1,0,0⟩
def rhB:HV:=⟨0,0,1,2,2,1,0,0⟩
def rbA:BV:=⟨0,[⟨2,167772161,1,3⟩],0,[],0,false,0,0,[]⟩
def rbB:BV:=⟨3,[⟨1,167772162,1,5⟩,⟨167837696,4294901760,3,4⟩],0,[],0,false,0,0,[]⟩
structure RgH (h:HV) (b:BV):Prop where
 oh:h.All
 ok:b.Ok
 kn:knownB h.typ=true
 may:mayB h.typ b=true
 size:sizeB h.typ b≤65515
 n1:b.links.length≤8192
 n2:b.routers.length≤32768
 n3:b.data.length≤131072
 typ:h.typ=1∨h.typ=2
 age:h.age=0
 seq:h.seq=1
 self:h.typ=1→h.id=h.adv∧h.id≠0
theorem rgA:∀x∈rbA.links,x.Ok:=by
 intro x hx
 simp [rbA] at hx
 subst hx
 exact⟨by decide,by decide,by decide,by decide⟩
theorem rgB:∀x∈rbB.links,x.Ok:=by
 intro x hx
 simp [rbB] at hx
 rcases hx with rfl|rfl
 ·exact⟨by decide,by decide,by decide,by decide⟩
 ·exact⟨by decide,by decide,by decide,by decide⟩
theorem rgHA:RgH rhA rbA:=⟨⟨by decide,by decide,by decide,by decide,by decide,by decide,by decide,by decide⟩,⟨by decide,rgA,by decide,by simp [rbA],by decide,by decide,by decide,by simp [rbA]⟩,rfl,by decide,by decide,by decide,by decide,by decide,Or.inl rfl,rfl,rfl,fun _=>by decide⟩
theorem rgHB:RgH rhB rbB:=⟨⟨by decide,by decide,by decide,by decide,by decide,by decide,by decide,by decide⟩,⟨by decide,rgB,by decide,by simp [rbB],by decide,by decide,by decide,by simp [rbB]⟩,rfl,by decide,by decide,by decide,by decide,by decide,Or.inl rfl,rfl,rfl,fun _=>by decide⟩
theorem RgH.chk {h:HV} {b:BV} (H:RgH h b):chkE (sealH h (layB h.typ b)) (layB h.typ b)=0:=by
 have hl:(layB h.typ b).length≤65515:=by have h1:=Qbh h.typ b;have h2:=H.size;omega
 have h1:=Quf H.ok ⟨H.kn,H.may,hl⟩ h.age
 rw [if_neg (by rw [H.age,H.seq];decide)] at h1
 exact h1
theorem RgH.cnt {h:HV} {b:BV} (H:RgH h b):cntB (sealH h (layB h.typ b)) (layB h.typ b)=true:=by
 unfold cntB
 refine decide_eq_true ⟨H.typ,?_,H.self,H.chk⟩
 show h.age%32768<3600
 rw [H.age]
 decide
theorem RgH.dec {h:HV} {b:BV} (H:RgH h b):decB h.typ (layB h.typ b)=some b:=Qfg H.ok ((Qem _ _).1 H.may)
theorem RgH.bytes {h:HV} {b:BV} (H:RgH h b):(∀z∈layB h.typ b,0≤z∧z<256)∧(layB h.typ b).length≤65515:=⟨Qf9 h.typ b H.ok,by have h1:=Qbh h.typ b;have h2:=H.size;omega⟩
def rsA (v:Value):SE:=⟨sealH rhA (layB 1 rbA),v,layB 1 rbA⟩
def rsB (v:Value):SE:=⟨sealH rhB (layB 1 rbB),v,layB 1 rbB⟩
def P2r:List SV:=[⟨sealH rhA (layB 1 rbA),rbA⟩,⟨sealH rhB (layB 1 rbB),rbB⟩]
theorem Qra {x y:SV} (h:x.lt y):¬y.lt x:=by unfold SV.lt at *;omega
theorem Qhe:∀{l l':List SV},l.Pairwise SV.lt→l'.Pairwise SV.lt→l.Perm l'→l=l'
 | [],l',_,_,p=>(List.nil_perm.1 p).symm
 | x::l,[],_,_,p=>by have:=p.length_eq;simp at this
 | x::l,y::l',h,h',p=>by
  rw [List.pairwise_cons] at h h'
  have e:x=y:=by
   rcases List.mem_cons.1 (p.mem_iff.1 (List.mem_cons_self)) with e|e
   ·exact e
   ·rcases List.mem_cons.1 (p.mem_iff.2 (List.mem_cons_self)) with e2|e2
    ·exact e2.symm
    ·exact absurd (h'.1 x e) (Qra (h.1 y e2))
  subst e
  rw [Qhe h.2 h'.2 ((List.perm_cons x).1 p)]
theorem Qmj (va vb:Value):bests [rsA va,rsB vb]=[rsA va,rsB vb]:=by
 have cB:cntB (rsB vb).h (rsB vb).rs=true:=rgHB.cnt
 have cA:cntB (rsA va).h (rsA va).rs=true:=rgHA.cnt
 have p1:plAt [] (rsA va).h.pl=none:=rfl
 have p2:plAt [rsA va] (rsB vb).h.pl=none:=rfl
 unfold bests
 rw [List.foldl_cons,List.foldl_cons,List.foldl_nil]
 have e1:putS [] (rsA va)=[rsA va]:=by unfold putS;rw [if_pos cA,p1,List.nil_append]
 rw [e1]
 unfold putS
 rw [if_pos cB,p2,List.cons_append,List.nil_append]
theorem Qug {va vb:Value} {P:List SV} (h:IsN [rsA va,rsB vb] P):P=P2r:=by
 have h1:=h.perm
 rw [Qmj] at h1
 refine Qhe h.sort ?_ (h1.trans ?_)
 ·unfold P2r
  refine List.Pairwise.cons ?_ (List.Pairwise.cons ?_ List.Pairwise.nil)
  ·intro y hy
   obtain rfl:y=_:=by simpa using hy
   exact Or.inr ⟨rfl,by decide⟩
  ·intro y hy
   simp at hy
 ·have eB:(rsB vb).sv=⟨sealH rhB (layB 1 rbB),rbB⟩:=by have:decB (rsB vb).h.typ (rsB vb).rs=some rbB:=rgHB.dec;unfold SE.sv;rw [this];rfl
  have eA:(rsA va).sv=⟨sealH rhA (layB 1 rbA),rbA⟩:=by have:decB (rsA va).h.typ (rsA va).rs=some rbA:=rgHA.dec;unfold SE.sv;rw [this];rfl
  show [(rsA va).sv,(rsB vb).sv].Perm P2r
  rw [eB,eA]
  exact List.Perm.refl _
def n1r:NV:=⟨false,1,0,0,0,[⟨1,3,167772161,false⟩],[]⟩
def n2r:NV:=⟨false,2,0,0,3,[⟨0,5,167772162,false⟩],[⟨167837696,16,4⟩]⟩
theorem Qm9:grB P2r=[n1r,n2r]:=by rfl
structure RingP (w:World) (e:Ending) (w':World):Prop where
 out:∃u va vb,e=.returned u∧StatesAt w' u [rsA va,rsB vb]
 t:Touch (fun _=>False) w w'
theorem Qpu (w:World):Calls Tryz.prog 23 #[] w (RingP w):=by
 have HA:=fun w u (ha:BArg w rbA u (.slice none 0 0) (.slice none 0 0))=>Qfx rhA rgHA.oh rbA rgHA.ok u (.slice none 0 0) (.slice none 0 0) w ha rgHA.n1 rgHA.n2 rgHA.n3 rgHA.kn rgHA.may rgHA.size
 have HB:=fun w u (ha:BArg w rbB u (.slice none 0 0) (.slice none 0 0))=>Qfx rhB rgHB.oh rbB rgHB.ok u (.slice none 0 0) (.slice none 0 0) w ha rgHB.n1 rgHB.n2 rgHB.n3 rgHB.kn rgHB.may rgHB.size
 have aA:∀w g,Row w g 115 [.int .u32 2,.int .u32 167772161,.int .u8 1,.int .u16 3]→BArg w rbA (.slice (some ⟨g,0,none⟩) 1 1) (.slice none 0 0) (.slice none 0 0):=fun w g r=>⟨⟨rfl,Or.inr ⟨_,_,rfl,Nat.le_refl _,by unfold maxLen;omega,fun j u hj=>by rw [Qae,Nat.zero_add,r.cell j];exact hj⟩⟩,⟨rfl,Or.inl ⟨rfl,rfl⟩⟩,Or.inl ⟨rfl,rfl⟩⟩
 have aB:∀w g,Row w g 115 [.int .u32 1,.int .u32 167772162,.int .u8 1,.int .u16 5,.int .u32 167837696,.int .u32 4294901760,.int .u8 3,.int .u16 4]→BArg w rbB (.slice (some ⟨g,0,none⟩) 2 2) (.slice none 0 0) (.slice none 0 0):=fun w g r=>⟨⟨rfl,Or.inr ⟨_,_,rfl,Nat.le_refl _,by unfold maxLen;omega,fun j u hj=>by rw [Qae,Nat.zero_add,r.cell j];exact hj⟩⟩,⟨rfl,Or.inl ⟨rfl,rfl⟩⟩,Or.inl ⟨rfl,rfl⟩⟩
 have fA:Hid (∀w' v,ArgAt w' v (layB 1 rbA)→(rsA v).Ok w'):=fun w' v h=>⟨Qj6 rgHA.oh rgHA.bytes.2,h,rgHA.bytes.1⟩
 have fB:Hid (∀w' v,ArgAt w' v (layB 1 rbB)→(rsB v).Ok w'):=fun w' v h=>⟨Qj6 rgHB.oh rgHB.bytes.2,h,rgHB.bytes.1⟩
 have gA:Hid (∀v,(rsA v).cells=[.int .u16 (sealH rhA (layB 1 rbA)).age,.int .u8 (sealH rhA (layB 1 rbA)).opts,.int .u8 (sealH rhA (layB 1 rbA)).typ,.int .u32 (sealH rhA (layB 1 rbA)).id,.int .u32 (sealH rhA (layB 1 rbA)).adv,.int .i32 (sealH rhA (layB 1 rbA)).seq,.int .u16 (sealH rhA (layB 1 rbA)).sum,.int .u16 (sealH rhA (layB 1 rbA)).len,v]):=fun _=>rfl
 have gB:Hid (∀v,(rsB v).cells=[.int .u16 (sealH rhB (layB 1 rbB)).age,.int .u8 (sealH rhB (layB 1 rbB)).opts,.int .u8 (sealH rhB (layB 1 rbB)).typ,.int .u32 (sealH rhB (layB 1 rbB)).id,.int .u32 (sealH rhB (layB 1 rbB)).adv,.int .i32 (sealH rhB (layB 1 rbB)).seq,.int .u16 (sealH rhB (layB 1 rbB)).sum,.int .u16 (sealH rhB (layB 1 rbB)).len,v]):=fun _=>rfl
 have tA:rhA.typ=1:=rfl
 have tB:rhB.typ=1:=rfl
 rw [tA] at HA
 rw [tB] at HB
 clear tA tB
 generalize hsA:sealH rhA (layB 1 rbA)=sA at *
 generalize hsB:sealH rhB (layB 1 rbB)=sB at *
 generalize hlA:layB 1 rbA=lA at *
 generalize hlB:layB 1 rbB=lB at *
 unfold rhA HV.v rbA BV.v HV.sv at HA
 unfold rhB HV.v rbB BV.v HV.sv at HB
 unfold rbA at aA
 unfold rbB at aB
 clear hsA hsB hlA hlB
 go_enter Tryz.func23,Tryz.ntmps23
 go_wp2_with fail
 refine (HA _ _ (aA _ _ (Qac w _ _))).mono ?_
 rintro e w1 ⟨uA,rfl,bA⟩
 obtain⟨xa,xc,rfl⟩:=bA.form
 have TA:Hid (Touch (fun _=>False) w w1):=((Touch.refl _ _).alloc _).trans bA.t
 have ARA:Hid (ArgAt w1 (.slice xa lA.length xc) lA):=bA.arg
 clear bA HA aA
 go_wp2_with fail
 have RA:Row (w1.alloc (.cells #[.int .u16 sA.age,.int .u8 sA.opts,.int .u8 sA.typ,.int .u32 sA.id,.int .u32 sA.adv,.int .i32 sA.seq,.int .u16 sA.sum,.int .u16 sA.len,.slice xa lA.length xc] 57)) w1.heap.size 57 [.int .u16 sA.age,.int .u8 sA.opts,.int .u8 sA.typ,.int .u32 sA.id,.int .u32 sA.adv,.int .i32 sA.seq,.int .u16 sA.sum,.int .u16 sA.len,.slice xa lA.length xc]:=Qac w1 _ _
 have t1:Touch (fun _=>False) w1 ((w1.alloc (.cells #[.int .u16 sA.age,.int .u8 sA.opts,.int .u8 sA.typ,.int .u32 sA.id,.int .u32 sA.adv,.int .i32 sA.seq,.int .u16 sA.sum,.int .u16 sA.len,.slice xa lA.length xc] 57)).alloc (.cells #[.int .u32 1,.int .u32 167772162,.int .u8 1,.int .u16 5,.int .u32 167837696,.int .u32 4294901760,.int .u8 3,.int .u16 4] 115)):=((Touch.refl _ _).alloc _).alloc _
 have RLB:Row ((w1.alloc (.cells #[.int .u16 sA.age,.int .u8 sA.opts,.int .u8 sA.typ,.int .u32 sA.id,.int .u32 sA.adv,.int .i32 sA.seq,.int .u16 sA.sum,.int .u16 sA.len,.slice xa lA.length xc] 57)).alloc (.cells #[.int .u32 1,.int .u32 167772162,.int .u8 1,.int .u16 5,.int .u32 167837696,.int .u32 4294901760,.int .u8 3,.int .u16 4] 115)) (w1.heap.size+1) 115 [.int .u32 1,.int .u32 167772162,.int .u8 1,.int .u16 5,.int .u32 167837696,.int .u32 4294901760,.int .u8 3,.int .u16 4]:=by
  have:=Qac (w1.alloc (.cells #[.int .u16 sA.age,.int .u8 sA.opts,.int .u8 sA.typ,.int .u32 sA.id,.int .u32 sA.adv,.int .i32 sA.seq,.int .u16 sA.sum,.int .u16 sA.len,.slice xa lA.length xc] 57)) 115 #[.int .u32 1,.int .u32 167772162,.int .u8 1,.int .u16 5,.int .u32 167837696,.int .u32 4294901760,.int .u8 3,.int .u16 4]
  rw [World.size_alloc] at this
  exact this
 refine (HB _ _ (aB _ _ RLB)).mono ?_
 rintro e w2 ⟨uB,rfl,bB⟩
 obtain⟨ya,yc,rfl⟩:=bB.form
 have T12:Hid (Touch (fun _=>False) w1 w2):=t1.trans bB.t
 have ra:=(RA.keep ((Touch.refl _ _).alloc _)).keep bB.t
 have ca0:w2.cell? ⟨w1.heap.size,0,none⟩=some (.int .u16 sA.age):=ra.cell 0
 have ca1:w2.cell? ⟨w1.heap.size,1,none⟩=some (.int .u8 sA.opts):=ra.cell 1
 have ca2:w2.cell? ⟨w1.heap.size,2,none⟩=some (.int .u8 sA.typ):=ra.cell 2
 have ca3:w2.cell? ⟨w1.heap.size,3,none⟩=some (.int .u32 sA.id):=ra.cell 3
 have ca4:w2.cell? ⟨w1.heap.size,4,none⟩=some (.int .u32 sA.adv):=ra.cell 4
 have ca5:w2.cell? ⟨w1.heap.size,5,none⟩=some (.int .i32 sA.seq):=ra.cell 5
 have ca6:w2.cell? ⟨w1.heap.size,6,none⟩=some (.int .u16 sA.sum):=ra.cell 6
 have ca7:w2.cell? ⟨w1.heap.size,7,none⟩=some (.int .u16 sA.len):=ra.cell 7
 have ca8:w2.cell? ⟨w1.heap.size,8,none⟩=some (.slice xa lA.length xc):=ra.cell 8
 have la:=ra.lt
 have ARB:Hid (ArgAt w2 (.slice ya lB.length yc) lB):=bB.arg
 clear bB HB aB RLB RA t1 ra
 go_wp2_with fail
 have TF:Touch (fun _=>False) w2 ((w2.alloc (.cells #[.int .u16 sB.age,.int .u8 sB.opts,.int .u8 sB.typ,.int .u32 sB.id,.int .u32 sB.adv,.int .i32 sB.seq,.int .u16 sB.sum,.int .u16 sB.len,.slice ya lB.length yc] 57)).alloc (.cells #[.int .u16 sA.age,.int .u8 sA.opts,.int .u8 sA.typ,.int .u32 sA.id,.int .u32 sA.adv,.int .i32 sA.seq,.int .u16 sA.sum,.int .u16 sA.len,.slice xa lA.length xc,.int .u16 sB.age,.int .u8 sB.opts,.int .u8 sB.typ,.int .u32 sB.id,.int .u32 sB.adv,.int .i32 sB.seq,.int .u16 sB.sum,.int .u16 sB.len,.slice ya lB.length yc] 57)):=((Touch.refl _ _).alloc _).alloc _
 have RF:Row ((w2.alloc (.cells #[.int .u16 sB.age,.int .u8 sB.opts,.int .u8 sB.typ,.int .u32 sB.id,.int .u32 sB.adv,.int .i32 sB.seq,.int .u16 sB.sum,.int .u16 sB.len,.slice ya lB.length yc] 57)).alloc (.cells #[.int .u16 sA.age,.int .u8 sA.opts,.int .u8 sA.typ,.int .u32 sA.id,.int .u32 sA.adv,.int .i32 sA.seq,.int .u16 sA.sum,.int .u16 sA.len,.slice xa lA.length xc,.int .u16 sB.age,.int .u8 sB.opts,.int .u8 sB.typ,.int .u32 sB.id,.int .u32 sB.adv,.int .i32 sB.seq,.int .u16 sB.sum,.int .u16 sB.len,.slice ya lB.length yc] 57)) (w2.heap.size+1) 57 [.int .u16 sA.age,.int .u8 sA.opts,.int .u8 sA.typ,.int .u32 sA.id,.int .u32 sA.adv,.int .i32 sA.seq,.int .u16 sA.sum,.int .u16 sA.len,.slice xa lA.length xc,.int .u16 sB.age,.int .u8 sB.opts,.int .u8 sB.typ,.int .u32 sB.id,.int .u32 sB.adv,.int .i32 sB.seq,.int .u16 sB.sum,.int .u16 sB.len,.slice ya lB.length yc]:=by
  have:=Qac (w2.alloc (.cells #[.int .u16 sB.age,.int .u8 sB.opts,.int .u8 sB.typ,.int .u32 sB.id,.int .u32 sB.adv,.int .i32 sB.seq,.int .u16 sB.sum,.int .u16 sB.len,.slice ya lB.length yc] 57)) 57 #[.int .u16 sA.age,.int .u8 sA.opts,.int .u8 sA.typ,.int .u32 sA.id,.int .u32 sA.adv,.int .i32 sA.seq,.int .u16 sA.sum,.int .u16 sA.len,.slice xa lA.length xc,.int .u16 sB.age,.int .u8 sB.opts,.int .u8 sB.typ,.int .u32 sB.id,.int .u32 sB.adv,.int .i32 sB.seq,.int .u16 sB.sum,.int .u16 sB.len,.slice ya lB.length yc]
  rw [World.size_alloc] at this
  exact this
 go_ret
 refine⟨⟨_,.slice xa lA.length xc,.slice ya lB.length yc,rfl,⟨⟨rfl,Or.inr ⟨_,_,rfl,Nat.le_refl _,by unfold maxLen;omega,fun j u hj=>?_⟩⟩,fun x hx=>?_⟩⟩,?_⟩
 ·rw [Qae,Nat.zero_add,RF.cell j]
  have e:statesC [rsA (.slice xa lA.length xc),rsB (.slice ya lB.length yc)]=[.int .u16 sA.age,.int .u8 sA.opts,.int .u8 sA.typ,.int .u32 sA.id,.int .u32 sA.adv,.int .i32 sA.seq,.int .u16 sA.sum,.int .u16 sA.len,.slice xa lA.length xc,.int .u16 sB.age,.int .u8 sB.opts,.int .u8 sB.typ,.int .u32 sB.id,.int .u32 sB.adv,.int .i32 sB.seq,.int .u16 sB.sum,.int .u16 sB.len,.slice ya lB.length yc]:=by
   show (rsA _).cells++((rsB _).cells++[])=_
   rw [gB.out,gA.out]
   rfl
  rw [←e]
  exact hj
 ·simp only [List.mem_cons,List.not_mem_nil,or_false] at hx
  rcases hx with rfl|rfl
  ·exact fA.out _ _ ((ARA.out.keepN T12.out).keepN TF)
  ·exact fB.out _ _ (ARB.out.keepN TF)
 ·exact (TA.out.trans T12.out).trans TF
end Go.Proofs.YtddbffoiadmffaaGreat
