import Derived.Test.YtddbffoiadmffaaGreatGrClm
namespace Go.Proofs.YtddbffoiadmffaaGreat
set_option maxHeartbeats 8000000
open Go.RowKit
set_option linter.unusedVariables false
set_option maxRecDepth 100000
theorem Qd0 (P:List SV) (x:SV) (p:Bool×Int) (c:CV):(clm P x p c).length≤1:=by
 unfold clm
 split
 ·split <;> simp
 ·simp
theorem Qds (P:List SV) (x:SV) (k:LV):(clmL P x k).length≤1:=by
 unfold clmL
 split
 ·exact Qd0 _ _ _ _
 ·split
  ·exact Qd0 _ _ _ _
  ·simp
theorem Qbt {α β:Type} (f:α→List β) (h:∀a,(f a).length≤1):∀l:List α,(l.flatMap f).length≤l.length
 | []=>by simp
 | a::l=>by
  have h1:=h a
  have h2:=Qbt f h l
  rw [List.flatMap_cons,List.length_append,List.length_cons]
  omega
theorem Qfa {α β:Type} (f:α→List β) {l:List α} {k:Nat} {a:α} (h:l[k]?=some a):(l.take (k+1)).flatMap f=(l.take k).flatMap f++f a:=by
 rw [List.take_add_one,h,List.flatMap_append]
 simp
theorem Ql7 (P:List SV) (x:SV) {l:List LV} {k:Nat} {y:LV} (h:l[k]?=some y):(l.take (k+1)).flatMap (clmL P x)=(l.take k).flatMap (clmL P x)++clmL P x y:=Qfa _ h
theorem Quy (P:List SV) (x:SV) (id data cost:Int):clmL P x ⟨id,data,1,cost⟩=clm P x (false,id) ⟨⟨0,cost,data,false⟩,1⟩:=by unfold clmL;rw [if_pos (Or.inl rfl)];rfl
theorem Qu2 (P:List SV) (x:SV) (id data cost:Int):clmL P x ⟨id,data,4,cost⟩=clm P x (false,id) ⟨⟨0,cost,data,true⟩,4⟩:=by unfold clmL;rw [if_pos (Or.inr rfl)];rfl
theorem Qvq (P:List SV) (x:SV) (id data cost:Int):clmL P x ⟨id,data,2,cost⟩=clm P x (true,id) ⟨⟨0,cost,data,false⟩,2⟩:=by unfold clmL;rw [if_neg (by simp),if_pos rfl];rfl
theorem Qus (P:List SV) (x:SV) (id data typ cost:Int) (h1:¬typ=1) (h4:¬typ=4) (h2:¬typ=2):clmL P x ⟨id,data,typ,cost⟩=[]:=by unfold clmL;rw [if_neg (by simp [h1,h4]),if_neg h2]
structure ClP (w:World) (P:List SV) (x:SV) (e:Ending) (w':World):Prop where
 out:∃v,e=.returned v∧w'.ownsRow w.heap.size 136 5 v (clms P x).length (claimC (clms P x))
 t:Touch (fun _=>False) w w'
theorem Qkk (w:World) (ma:Nat) (P:List SV) (x:SD) (ok:x.Ok w) (hm:AM w 127 ma (atL P)) (a1 a3 a8:Option Addr) (q1 q3 q8:Nat) (e1:x.vl=.slice a1 x.b.links.length q1) (e3:x.vr=.slice a3 x.b.routers.length q3) (e8:x.vd=.slice a8 x.b.data.length q8) :
  Calls Tryz.prog 54 #[.agg #[.int .u16 x.h.age,.int .u8 x.h.opts,.int .u8 x.h.typ,.int .u32 x.h.id,.int .u32 x.h.adv,.int .i32 x.h.seq,.int .u16 x.h.sum,.int .u16 x.h.len,.int .u8 x.b.flags,.slice a1 x.b.links.length q1,.int .u32 x.b.mask,.slice a3 x.b.routers.length q3,.int .u32 x.b.metric,.bool x.b.type2,.int .u32 x.b.fwd,.int .u32 x.b.tag,.slice a8 x.b.data.length q8],.map (some ma)] w (ClP w P x.sv):=by
 obtain⟨wb,hwb⟩:∃u,u=((w.alloc (.cells #[.int .u16 x.h.age,.int .u8 x.h.opts,.int .u8 x.h.typ,.int .u32 x.h.id,.int .u32 x.h.adv,.int .i32 x.h.seq,.int .u16 x.h.sum,.int .u16 x.h.len,.int .u8 x.b.flags,.slice a1 x.b.links.length q1,.int .u32 x.b.mask,.slice a3 x.b.routers.length q3,.int .u32 x.b.metric,.bool x.b.type2,.int .u32 x.b.fwd,.int .u32 x.b.tag,.slice a8 x.b.data.length q8] 125)).alloc (.cells #[.map (some ma)] 123)).alloc (.cells #[.slice none 0 0] 131):=⟨_,rfl⟩
 have tb:Touch (fun _=>False) w wb:=by rw [hwb];exact (((Touch.refl _ _).alloc _).alloc _).alloc _
 have zb:wb.heap.size=w.heap.size+3:=by rw [hwb];simp
 have RS:Row wb w.heap.size 125 [.int .u16 x.h.age,.int .u8 x.h.opts,.int .u8 x.h.typ,.int .u32 x.h.id,.int .u32 x.h.adv,.int .i32 x.h.seq,.int .u16 x.h.sum,.int .u16 x.h.len,.int .u8 x.b.flags,.slice a1 x.b.links.length q1,.int .u32 x.b.mask,.slice a3 x.b.routers.length q3,.int .u32 x.b.metric,.bool x.b.type2,.int .u32 x.b.fwd,.int .u32 x.b.tag,.slice a8 x.b.data.length q8]:=by rw [hwb];exact ((Qac w _ _).keep ((Touch.refl _ _).alloc _)).keep ((Touch.refl _ _).alloc _)
 have BX:wb.cell? ⟨w.heap.size+1,0,none⟩=some (.map (some ma)):=by rw [hwb];simp [go_sem]
 have RL:Row wb (w.heap.size+2) 131 [.slice none 0 0]:=by
  rw [hwb]
  have:=Qac ((w.alloc (.cells #[.int .u16 x.h.age,.int .u8 x.h.opts,.int .u8 x.h.typ,.int .u32 x.h.id,.int .u32 x.h.adv,.int .i32 x.h.seq,.int .u16 x.h.sum,.int .u16 x.h.len,.int .u8 x.b.flags,.slice a1 x.b.links.length q1,.int .u32 x.b.mask,.slice a3 x.b.routers.length q3,.int .u32 x.b.metric,.bool x.b.type2,.int .u32 x.b.fwd,.int .u32 x.b.tag,.slice a8 x.b.data.length q8] 125)).alloc (.cells #[.map (some ma)] 123)) 131 #[.slice none 0 0]
  simpa using this
 have hml:=hm.lt
 have E:CE wb w.heap.size (w.heap.size+1) (w.heap.size+2) ma P [.int .u16 x.h.age,.int .u8 x.h.opts,.int .u8 x.h.typ,.int .u32 x.h.id,.int .u32 x.h.adv,.int .i32 x.h.seq,.int .u16 x.h.sum,.int .u16 x.h.len,.int .u8 x.b.flags,.slice a1 x.b.links.length q1,.int .u32 x.b.mask,.slice a3 x.b.routers.length q3,.int .u32 x.b.metric,.bool x.b.type2,.int .u32 x.b.fwd,.int .u32 x.b.tag,.slice a8 x.b.data.length q8]:=⟨RS,BX,hm.keepN tb,by omega,by omega,by omega⟩
 have HE:Hid (CE wb w.heap.size (w.heap.size+1) (w.heap.size+2) ma P [.int .u16 x.h.age,.int .u8 x.h.opts,.int .u8 x.h.typ,.int .u32 x.h.id,.int .u32 x.h.adv,.int .i32 x.h.seq,.int .u16 x.h.sum,.int .u16 x.h.len,.int .u8 x.b.flags,.slice a1 x.b.links.length q1,.int .u32 x.b.mask,.slice a3 x.b.routers.length q3,.int .u32 x.b.metric,.bool x.b.type2,.int .u32 x.b.fwd,.int .u32 x.b.tag,.slice a8 x.b.data.length q8]):=E
 have S0:Hid (CS wb wb (w.heap.size+2) ((x.b.links.take 0).flatMap (clmL P x.sv))):=⟨⟨_,RL,World.ownsRow_nil _ _ _ _⟩,Touch.refl _ _,by omega⟩
 have HLk:Hid (∀w',Touch (fun k=>k=w.heap.size+2) wb w'→LinksAt w' (.slice a1 x.b.links.length q1) x.b.links∧WordsAt w' (.slice a3 x.b.routers.length q3) x.b.routers):=fun w' t=>by
  have tw:Touch (fun _=>False) w w':=tb.trans' t (fun i hi e=>by omega)
  have h1:=ok.arg.l.keep tw
  have h3:=ok.arg.r.keep tw
  rw [e1] at h1
  rw [e3] at h3
  exact⟨h1,h3⟩
 have HRg:Hid (x.b.Rg):=ok.kn.rg
 have hid:Hid (0≤x.h.id∧x.h.id<4294967296):=ok.kn.all.i
 have HTb:Hid (Touch (fun _=>False) w wb):=tb
 have hnl:(x.b.links.length:Int)≤65536:=by have:=ok.kn.rg.nl;omega
 have hnr:(x.b.routers.length:Int)≤65536:=by have:=ok.kn.rg.nr;omega
 have c9:wb.cell? ⟨w.heap.size,9,none⟩=some (.slice a1 x.b.links.length q1):=RS.cell 9
 have ls:=RS.lt
 clear ok hm RS BX RL tb zb e1 e3 e8 E
 go_enter Tryz.func54,Tryz.ntmps54
 go_upto_region 3 with fail
 rw [←hwb]
 clear hwb
 have HZ:Hid (w.heap.size≤w.heap.size∧w.heap.size<w.heap.size+2∧w.heap.size+1<w.heap.size+2):=⟨Nat.le_refl _,by omega,by omega⟩
 generalize hbl:w.heap.size+2=bl at *
 generalize hbm:w.heap.size+1=bm at *
 generalize hbs:w.heap.size=bs at *
 have HW:Hid (w.heap.size=bs):=hbs
 clear hbl hbm hbs
 go_wp2_with fail
 go_loopw [17] (fun i wr=>∃k:Nat,k≤x.b.links.length∧i=.int .i64 k∧CS wb wr bl ((x.b.links.take k).flatMap (clmL P x.sv))) (fun i _=>x.b.links.length-(intOf i).toNat)
 case atStart=>exact⟨0,Nat.zero_le _,rfl,S0.out⟩
 case round =>
  obtain⟨j,hk,rfl,cs⟩:=hrel
  have HC:Hid (CS wb wr bl ((x.b.links.take j).flatMap (clmL P x.sv))):=cs
  have hlC:Hid (((x.b.links.take j).flatMap (clmL P x.sv)).length≤4000000):=by have:=Qbt _ (Qds P x.sv) (x.b.links.take j);have:=List.length_take_le j x.b.links;show _≤4000000;omega
  clear cs S0 c9
  by_cases hlt:j<x.b.links.length
  ·have hlt':(j:Int)<(x.b.links.length:Int):=by omega
   obtain⟨y,hy⟩:∃y,x.b.links[j]?=some y:=⟨x.b.links[j],by simp [hlt]⟩
   have HS:=Ql7 P x.sv hy
   have HST:Hid _:=HS
   have yk:=HRg.out.l y (List.mem_of_getElem? hy)
   obtain⟨g,off,qc,eg,-,-,hc⟩:=ValsAt.cells (HLk.out wr HC.out.t).1 (by omega) (by omega)
   simp only [Value.slice.injEq] at eg
   obtain⟨rfl,-,rfl⟩:=eg
   have hcc:∀i u,i<4→y.cells[i]?=some u→wr.cell? ⟨g,off+(j*4+i),none⟩=some u:=fun i u hi hu=>hc (j*4+i) u (by rw [Qbo x.b.links j i y hy hi];exact hu)
   obtain⟨yi,yd,yt,yc⟩:=y
   obtain⟨⟨i0,i1⟩,⟨d0,d1⟩,⟨t0,t1⟩,⟨c0,c1⟩⟩:=yk
   dsimp only at i0 i1 d0 d1 t0 t1 c0 c1
   have z0:wr.cell? ⟨g,off+j*4,none⟩=some (.int .u32 yi):=hcc 0 _ (by omega) rfl
   have z1:wr.cell? ⟨g,off+j*4+1,none⟩=some (.int .u32 yd):=by rw [Nat.add_assoc];exact hcc 1 _ (by omega) rfl
   have z2:wr.cell? ⟨g,off+j*4+2,none⟩=some (.int .u8 yt):=by rw [Nat.add_assoc];exact hcc 2 _ (by omega) rfl
   have z3:wr.cell? ⟨g,off+j*4+3,none⟩=some (.int .u16 yc):=by rw [Nat.add_assoc];exact hcc 3 _ (by omega) rfl
   have hlw:=Qaa z0
   clear hc hcc HS hy HLk
   have HADD:Hid (∀(q:Bool) (v:Bool) (kd:Int) w',Touch (fun _=>False) wr w'→Calls Tryz.prog 107 #[.agg #[.bool q,.int .u32 yi],.agg #[.int .i64 0,.int .u32 yc,.int .u32 yd,.bool v,.int .u8 kd],.pointer (some ⟨bm,0,none⟩),.pointer (some ⟨bs,0,none⟩),.pointer (some ⟨bl,0,none⟩)] w' fun e w''=>e=.returned (.tuple #[])∧CS wb w'' bl ((x.b.links.take j).flatMap (clmL P x.sv)++clm P x.sv (q,yi) ⟨⟨0,yc,yd,v⟩,kd⟩)):=fun q v kd w' t=>Qlv w' wb bs bm bl ma P x (q,yi) ⟨⟨0,yc,yd,v⟩,kd⟩ _ _ _ _ _ _ _ _ _ _ HE.out (HC.out.keep t) ⟨i0,i1⟩ hid.out hlC.out
   rcases (by omega:yt=1∨yt=4∨yt=2∨(¬yt=1∧¬yt=4∧¬yt=2)) with ht|ht|ht|⟨ht1,ht4,ht2⟩
   ·subst ht
    have HA:=HADD.out false false 1 _ ((((Touch.refl _ wr).alloc (.cells #[.int .u32 yi,.int .u32 yd,.int .u8 1,.int .u16 yc] 115)).alloc (.cells #[.int .i64 0,.int .u32 yc,.int .u32 yd,.bool false,.int .u8 1] 136)))
    rw [Quy] at HST
    clear HADD hlC HC
    go_wp2_with fail
    refine HA.mono ?_
    rintro e w1 ⟨rfl,cs1⟩
    have HC1:Hid _:=cs1
    clear cs1 HA z0 z1 z2 z3 hlw
    go_wp2_with fail
    go_roundw
    case rel=>exact⟨j+1,by omega,by go_num,by rw [HST.out];exact HC1.out⟩
    case measure=>simp [intOf];omega
   ·subst ht
    have HA:=HADD.out false true 4 _ ((((Touch.refl _ wr).alloc (.cells #[.int .u32 yi,.int .u32 yd,.int .u8 4,.int .u16 yc] 115)).alloc (.cells #[.int .i64 0,.int .u32 yc,.int .u32 yd,.bool true,.int .u8 4] 136)))
    rw [Qu2] at HST
    clear HADD hlC HC
    go_wp2_with fail
    refine HA.mono ?_
    rintro e w1 ⟨rfl,cs1⟩
    have HC1:Hid _:=cs1
    clear cs1 HA z0 z1 z2 z3 hlw
    go_wp2_with fail
    go_roundw
    case rel=>exact⟨j+1,by omega,by go_num,by rw [HST.out];exact HC1.out⟩
    case measure=>simp [intOf];omega
   ·subst ht
    have HA:=HADD.out true false 2 _ ((((Touch.refl _ wr).alloc (.cells #[.int .u32 yi,.int .u32 yd,.int .u8 2,.int .u16 yc] 115)).alloc (.cells #[.int .i64 0,.int .u32 yc,.int .u32 yd,.bool false,.int .u8 2] 136)))
    rw [Qvq] at HST
    clear HADD hlC HC
    go_wp2_with fail
    refine HA.mono ?_
    rintro e w1 ⟨rfl,cs1⟩
    have HC1:Hid _:=cs1
    clear cs1 HA z0 z1 z2 z3 hlw
    go_wp2_with fail
    go_roundw
    case rel=>exact⟨j+1,by omega,by go_num,by rw [HST.out];exact HC1.out⟩
    case measure=>simp [intOf];omega
   ·rw [Qus _ _ _ _ _ _ ht1 ht4 ht2,List.append_nil] at HST
    have b1:(yt==1)=false:=by simpa using ht1
    have b4:(yt==4)=false:=by simpa using ht4
    have b2:(yt==2)=false:=by simpa using ht2
    have HC1:Hid (CS wb ((wr.alloc (.cells #[.int .u32 yi,.int .u32 yd,.int .u8 yt,.int .u16 yc] 115)).alloc (.cells #[.int .i64 0,.int .u32 yc,.int .u32 yd,.bool false,.int .u8 yt] 136)) bl ((x.b.links.take j).flatMap (clmL P x.sv))):=HC.out.keep (((Touch.refl _ wr).alloc _).alloc _)
    clear HADD hlC HC
    go_wp2_with fail
    go_roundw
    case rel=>exact⟨j+1,by omega,by go_num,by rw [HST.out];exact HC1.out⟩
    case measure=>simp [intOf];omega
  ·have hlt':¬(j:Int)<(x.b.links.length:Int):=by omega
   obtain rfl:j=x.b.links.length:=by omega
   have c11:wr.cell? ⟨bs,11,none⟩=some (.slice a3 x.b.routers.length q3):=(HE.out.later HC.out.t).row.cell 11
   have lsr:=Qaa c11
   have S1:Hid (CS wb wr bl (x.b.links.flatMap (clmL P x.sv)++(x.b.routers.take 0).flatMap (fun r=>clm P x.sv (false,r) rtr))):=by have:=HC.out;rw [List.take_length] at this;show CS wb wr bl _;simpa using this
   clear HC hlC
   go_wp2_with fail
   go_loopw [57] (fun i wr=>∃k:Nat,k≤x.b.routers.length∧i=.int .i64 k∧CS wb wr bl (x.b.links.flatMap (clmL P x.sv)++(x.b.routers.take k).flatMap (fun r=>clm P x.sv (false,r) rtr))) (fun i _=>x.b.routers.length-(intOf i).toNat)
   case atStart=>exact⟨0,Nat.zero_le _,rfl,S1.out⟩
   case round =>
    obtain⟨j,hk,rfl,cs⟩:=hrel
    have HC:Hid (CS wb wr bl (x.b.links.flatMap (clmL P x.sv)++(x.b.routers.take j).flatMap (fun r=>clm P x.sv (false,r) rtr))):=cs
    have hlC:Hid ((x.b.links.flatMap (clmL P x.sv)++(x.b.routers.take j).flatMap (fun r=>clm P x.sv (false,r) rtr)).length≤4000000):=by
     have h1:=Qbt _ (Qds P x.sv) x.b.links
     have h2:=Qbt _ (fun r=>Qd0 P x.sv (false,r) rtr) (x.b.routers.take j)
     have h3:=List.length_take_le j x.b.routers
     show _≤4000000
     rw [List.length_append]
     omega
    clear cs S1 c11
    by_cases hlt:j<x.b.routers.length
    ·have hlt':(j:Int)<(x.b.routers.length:Int):=by omega
     obtain⟨y,hy⟩:∃y,x.b.routers[j]?=some y:=⟨x.b.routers[j],by simp [hlt]⟩
     have HST:Hid _:=Qfa (fun r=>clm P x.sv (false,r) rtr) hy
     have yk:=HRg.out.r y (List.mem_of_getElem? hy)
     obtain⟨g,off,qc,eg,-,-,hc⟩:=ValsAt.cells (HLk.out wr HC.out.t).2 (by omega) (by omega)
     simp only [Value.slice.injEq] at eg
     obtain⟨rfl,-,rfl⟩:=eg
     have z0:wr.cell? ⟨g,off+j,none⟩=some (.int .u32 y):=hc j _ (by simp [wordsC,hy])
     have hlw:=Qaa z0
     have HADD:=Qlv wr wb bs bm bl ma P x (false,y) rtr _ _ _ _ _ _ _ _ _ _ HE.out HC.out yk hid.out hlC.out
     clear hc hy HLk hlC
     unfold rtr at HADD
     go_wp2_with fail
     refine HADD.mono ?_
     rintro e w1 ⟨rfl,cs1⟩
     have HC1:Hid _:=cs1
     clear cs1 HADD z0 hlw
     go_wp2_with fail
     go_roundw
     case rel=>exact⟨j+1,by omega,by go_num,by rw [HST.out,←List.append_assoc];exact HC1.out⟩
     case measure=>simp [intOf];omega
    ·have hlt':¬(j:Int)<(x.b.routers.length:Int):=by omega
     obtain rfl:j=x.b.routers.length:=by omega
     have cs:=HC.out
     rw [List.take_length] at cs
     obtain⟨⟨v,h1,h2⟩,h3,h4⟩:=cs
     have f0:wr.cell? ⟨bl,0,none⟩=some v:=h1.cell 0
     have lbw:=h1.lt
     have hZ:=HZ.out
     have hW:=HW.out
     have HF:Hid (ClP w P x.sv (.returned v) wr):=⟨⟨v,rfl,Qao h2 HTb.out.size⟩,HTb.out.trans' h3 (fun i hi e=>by omega)⟩
     obtain⟨v1,v2,rfl⟩:=Qah h2
     clear h1 h2 h3 h4 HC hlC
     generalize (x.b.links.flatMap (clmL P x.sv)++x.b.routers.flatMap (fun r=>clm P x.sv (false,r) rtr)).length=nn at f0 HF
     go_wp2_with fail
     go_ret
     exact HF.out
end Go.Proofs.YtddbffoiadmffaaGreat
