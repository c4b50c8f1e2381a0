import Derived.Test.YtldmkoogghemhaaGreatInWArg
import Derived.Deep.RegionHeld2
namespace Go.Proofs.YtldmkoogghemhaaGreat
set_option maxHeartbeats 8000000
open Go.RowKit
set_option linter.unusedVariables false
set_option maxRecDepth 100000
theorem Qme (a b:Int) (c:Bool) (w:World):(Instr.buildSlice 45 1 #[(0,.agg #[.int .u32 a,.int .u32 b,.bool c])]).run Tryz.prog w=.ok (.slice (some ⟨w.heap.size,0,none⟩) 1 1) (w.alloc (.cells #[.int .u32 a,.int .u32 b,.bool c] 53)):=by
 obtain⟨i0,hi,hz0,hz1,hz2⟩:=info_parts infoHop
 refine run_buildSlice w _ _ 1 _ _ i0 _ Tryz.underlying45 hi hz0 (by rw [hz1];decide) (by rw [hz1];decide) ?_
 rw [hz1]
 kernel_rfl
structure HS (wb w:World) (nb:Nat) (pa pb rt fl ki ar co di tg:Int) (l:List HK):Prop where
 out:∃v,Row w nb 47 [.int .u32 pa,.int .u8 pb,.int .u32 rt,.int .u8 fl,.int .u8 ki,.int .u32 ar,.int .u32 co,.int .u32 di,.int .u32 tg,v]∧w.ownsRow wb.heap.size 53 3 v l.length (cellsG HK.cs l)
 t:Touch (fun k=>k=nb) wb w
 lt:nb<wb.heap.size
structure WyP (w:World) (pa pb rt fl ki ar co di tg:Int) (l:List HK) (e:Ending) (w':World):Prop where
 out:∃v,e=.returned (.agg #[.int .u32 pa,.int .u8 pb,.int .u32 rt,.int .u8 fl,.int .u8 ki,.int .u32 ar,.int .u32 co,.int .u32 di,.int .u32 tg,v])∧w'.ownsRow w.heap.size 53 3 v l.length (cellsG HK.cs l)
 t:Touch (fun _=>False) w w'
theorem Qmm (pa pb rt fl ki ar co di tg:Int) (va:Option Addr) (vn vc:Nat) (l:List HK) (w:World) (A:RA w (.slice va vn vc) l) (hl:l.length≤1000000) :
  Calls Tryz.prog 27 #[.agg #[.int .u32 pa,.int .u8 pb,.int .u32 rt,.int .u8 fl,.int .u8 ki,.int .u32 ar,.int .u32 co,.int .u32 di,.int .u32 tg,.slice va vn vc]] w (WyP w pa pb rt fl ki ar co di tg l):=by
 obtain⟨wa,hwa⟩:∃u,u=(w.alloc (.cells #[.int .u32 pa,.int .u8 pb,.int .u32 rt,.int .u8 fl,.int .u8 ki,.int .u32 ar,.int .u32 co,.int .u32 di,.int .u32 tg,.slice va vn vc] 50)).alloc (.cells #[.int .u32 0,.int .u8 0,.int .u32 0,.int .u8 0,.int .u8 0,.int .u32 0,.int .u32 0,.int .u32 0,.int .u32 0,.slice none 0 0] 47):=⟨_,rfl⟩
 have ta:Touch (fun _=>False) w wa:=by rw [hwa];exact ((Touch.refl _ _).alloc _).alloc _
 have za:wa.heap.size=w.heap.size+2:=by rw [hwa];simp
 have RS:Row wa w.heap.size 50 [.int .u32 pa,.int .u8 pb,.int .u32 rt,.int .u8 fl,.int .u8 ki,.int .u32 ar,.int .u32 co,.int .u32 di,.int .u32 tg,.slice va vn vc]:=by rw [hwa];exact (Qac w _ _).keep ((Touch.refl _ _).alloc _)
 have RR:Row wa (w.heap.size+1) 47 [.int .u32 0,.int .u8 0,.int .u32 0,.int .u8 0,.int .u8 0,.int .u32 0,.int .u32 0,.int .u32 0,.int .u32 0,.slice none 0 0]:=by
  rw [hwa]
  have:=Qac (w.alloc (.cells #[.int .u32 pa,.int .u8 pb,.int .u32 rt,.int .u8 fl,.int .u8 ki,.int .u32 ar,.int .u32 co,.int .u32 di,.int .u32 tg,.slice va vn vc] 50)) 47 #[.int .u32 0,.int .u8 0,.int .u32 0,.int .u8 0,.int .u8 0,.int .u32 0,.int .u32 0,.int .u32 0,.int .u32 0,.slice none 0 0]
  rw [World.size_alloc] at this
  exact this
 obtain⟨wb,hwb⟩:∃u,u=wa.alloc (.cells #[.int .u32 pa,.int .u8 pb,.int .u32 rt,.int .u8 fl,.int .u8 ki,.int .u32 ar,.int .u32 co,.int .u32 di,.int .u32 tg,.slice none 0 0] 47):=⟨_,rfl⟩
 have tb:Touch (fun _=>False) wa wb:=by rw [hwb];exact (Touch.refl _ _).alloc _
 have RN:Row wb (w.heap.size+2) 47 [.int .u32 pa,.int .u8 pb,.int .u32 rt,.int .u8 fl,.int .u8 ki,.int .u32 ar,.int .u32 co,.int .u32 di,.int .u32 tg,.slice none 0 0]:=by rw [hwb,←za];exact Qac wa _ _
 have zb:wb.heap.size=w.heap.size+3:=by rw [hwb,World.size_alloc,za]
 have S0:Hid (HS wb wb (w.heap.size+2) pa pb rt fl ki ar co di tg (l.take 0)):=⟨⟨_,RN,World.ownsRow_nil _ _ _ _⟩,Touch.refl _ _,by omega⟩
 have HRS:Hid (∀w',Touch (fun k=>k=w.heap.size+2) wb w'→Row w' w.heap.size 50 [.int .u32 pa,.int .u8 pb,.int .u32 rt,.int .u8 fl,.int .u8 ki,.int .u32 ar,.int .u32 co,.int .u32 di,.int .u32 tg,.slice va vn vc]∧Row w' (w.heap.size+1) 47 [.int .u32 0,.int .u8 0,.int .u32 0,.int .u8 0,.int .u8 0,.int .u32 0,.int .u32 0,.int .u32 0,.int .u32 0,.slice none 0 0]):=fun w' t=>⟨Qay (RS.keep tb) t (by omega),Qay (RR.keep tb) t (by omega)⟩
 have HTb:Hid (Touch (fun _=>False) w wb):=ta.trans tb
 have HLk:Hid (∀w',Touch (fun k=>k=w.heap.size+2) wb w'→RA w' (.slice va vn vc) l):=fun w' t=>A.keep ((ta.trans tb).trans' t (fun i hi e=>by omega))
 have hvn:vn=l.length:=by
  obtain⟨a,c,e,-⟩:=A.out
  simp only [Value.slice.injEq] at e
  exact e.2.1
 have hl1:(vn:Int)≤1000000:=by omega
 have hbld:∀w,(Instr.build 47 #[(0,.agg #[.int .u32 pa,.int .u8 pb]),(1,.int .u32 rt),(2,.int .u8 fl),(3,.int .u8 ki),(4,.int .u32 ar),(5,.int .u32 co),(6,.int .u32 di),(7,.int .u32 tg)]).run Tryz.prog w=.ok (.agg #[.int .u32 pa,.int .u8 pb,.int .u32 rt,.int .u8 fl,.int .u8 ki,.int .u32 ar,.int .u32 co,.int .u32 di,.int .u32 tg,.slice none 0 0]) w:=fun w=>run_build w 47 _ _ (by kernel_rfl)
 have s0:wa.cell? ⟨w.heap.size,0,none⟩=some (.int .u32 pa):=RS.cell 0
 have s1:wa.cell? ⟨w.heap.size,1,none⟩=some (.int .u8 pb):=RS.cell 1
 have s2:wa.cell? ⟨w.heap.size,2,none⟩=some (.int .u32 rt):=RS.cell 2
 have s3:wa.cell? ⟨w.heap.size,3,none⟩=some (.int .u8 fl):=RS.cell 3
 have s4:wa.cell? ⟨w.heap.size,4,none⟩=some (.int .u8 ki):=RS.cell 4
 have s5:wa.cell? ⟨w.heap.size,5,none⟩=some (.int .u32 ar):=RS.cell 5
 have s6:wa.cell? ⟨w.heap.size,6,none⟩=some (.int .u32 co):=RS.cell 6
 have s7:wa.cell? ⟨w.heap.size,7,none⟩=some (.int .u32 di):=RS.cell 7
 have s8:wa.cell? ⟨w.heap.size,8,none⟩=some (.int .u32 tg):=RS.cell 8
 have ls:=RS.lt
 have HVN:Hid (vn=l.length):=hvn
 have HL:Hid (l.length≤1000000):=hl
 clear RS RR RN ta tb hvn hl A
 go_enter Tryz.func27,Tryz.ntmps27
 go_upto_region 1 with fail
 rw [←hwa]
 clear hwa
 go_upto_region 2 with fail
 rw [←hwb]
 have lb:w.heap.size<wb.heap.size:=by omega
 clear hwb s0 s1 s2 s3 s4 s5 s6 s7 s8 ls za hbld
 have HZ:Hid (w.heap.size<w.heap.size+2∧w.heap.size+1<w.heap.size+2∧w.heap.size+2<wb.heap.size∧w.heap.size≤w.heap.size+1):=⟨by omega,by omega,by omega,by omega⟩
 clear zb
 generalize hnb:w.heap.size+2=nb at *
 generalize hrb:w.heap.size+1=rb at *
 generalize hbs:w.heap.size=bs at *
 have HW:Hid (w.heap.size=bs):=hbs
 clear hnb hrb hbs
 obtain⟨i0,hin0,hz0,hz1,hz2⟩:=infoParts infoHop
 go_wp2_with fail
 go_loopw [4] (fun i wr=>∃k:Nat,k≤vn∧i=.int .i64 k∧HS wb wr nb pa pb rt fl ki ar co di tg (l.take k)) (fun i _=>vn-(intOf i).toNat)
 case atStart=>exact⟨0,Nat.zero_le _,rfl,S0.out⟩
 case round =>
  obtain⟨i,hi,rfl,cs⟩:=hrel
  have HC:Hid (HS wb wr nb pa pb rt fl ki ar co di tg (l.take i)):=cs
  clear S0
  have s9:wr.cell? ⟨bs,9,none⟩=some (.slice va vn vc):=(HRS.out wr cs.t).1.cell 9
  have lbs:bs<wr.heap.size:=(HRS.out wr cs.t).1.lt
  by_cases hlt:i<vn
  ·as_aux_lemma =>
   have hlt':(i:Int)<(vn:Int):=by omega
   have hi0:(0:Int)≤(i:Int):=by omega
   obtain⟨x,hx⟩:∃x,l[i]?=some x:=⟨_,List.getElem?_eq_getElem (by have:=HVN.out;omega)⟩
   obtain⟨a',c',ea,hsh⟩:=(HLk.out wr cs.t).out
   simp only [Value.slice.injEq] at ea
   obtain⟨rfl,-,rfl⟩:=ea
   rcases hsh with e|⟨g,oo,rfl,hc⟩
   ·rw [e] at hx;cases hx
   have q:=fun d u hd=>hc i x hx d u hd
   have q0:wr.cell? ⟨g,oo+i*3,none⟩=some (.int .u32 x.out):=q 0 _ rfl
   have q1:wr.cell? ⟨g,oo+i*3+1,none⟩=some (.int .u32 x.via):=q 1 _ rfl
   have q2:wr.cell? ⟨g,oo+i*3+2,none⟩=some (.bool x.vr):=q 2 _ rfl
   have lq:=Qaa q0
   have hbld:∀w,(Instr.build 53 #[(0,.int .u32 x.out),(1,.int .u32 x.via),(2,.bool x.vr)]).run Tryz.prog w=.ok (.agg #[.int .u32 x.out,.int .u32 x.via,.bool x.vr]) w:=fun w=>run_build w 53 _ _ (by kernel_rfl)
   obtain⟨⟨v,h1,h2⟩,h3,h4⟩:=cs
   obtain⟨ua,uc,rfl⟩:=Qal h2
   have f9:wr.cell? ⟨nb,9,none⟩=some (.slice ua (l.take i).length uc):=h1.cell 9
   have hfz:=h1.frozen
   have ln:=h1.lt
   have HT:Hid (l.take (i+1)=l.take i++[x]):=Qnr hx
   have HLN:Hid ((l.take i).length≤1000000):=by have:=HL.out;show _≤_;simp;omega
   have HST:Hid (∀w2 w3 v3,Touch (fun _=>False) wr w2→w3.ownsRow wb.heap.size 53 3 v3 ((l.take i).length+1) (cellsG HK.cs (l.take i)++x.cs)→w2.grownBy w3 (Value.ownBlock (.slice ua (l.take i).length uc))→w3.cell? ⟨nb,9,none⟩=some (.slice ua (l.take i).length uc)∧w3.frozen? ⟨nb,9,none⟩=false∧nb<w3.heap.size∧HS wb (w3.setCell ⟨nb,9,none⟩ v3) nb pa pb rt fl ki ar co di tg (l.take (i+1))∧∃xa xc,v3=.slice xa ((l.take i).length+1) xc):=by
    intro w2 w3 v3 t own gr
    have TG:Touch (fun k=>(Value.slice ua (l.take i).length uc).ownBlock=some k) w2 w3:=(Touch.refl _ _).grown gr (fun k hk=>Or.inl hk)
    have hobl:¬(Value.slice ua (l.take i).length uc).ownBlock=some nb:=fun e=>by have:=(h2.lt nb e).1;omega
    have RB:=Qay (h1.keep t) TG hobl
    obtain⟨xa,xc,rfl⟩:=Qal own
    refine⟨RB.cell 9,RB.frozen 9,RB.lt,⟨⟨_,RB.set 9 _,?_⟩,?_,h4⟩,_,_,rfl⟩
    ·rw [HT.out,List.length_append,Qap]
     have e:cellsG HK.cs [x]=x.cs:=by simp [cellsG]
     rw [e]
     exact Qcb own h4 _
    ·refine Touch.setCell (F:=fun k=>k=nb) (p:=⟨nb,9,none⟩) ?_ (Or.inl rfl) _
     exact (h3.trans (t.mono (fun _ _ h=>h.elim))).trans' TG (fun k hk e=>by have:=(h2.lt k e).1;omega)
   have HOW:Hid (∀w2,Touch (fun _=>False) wr w2→w2.ownsRow wb.heap.size 53 3 (.slice ua (l.take i).length uc) (l.take i).length (cellsG HK.cs (l.take i))):=fun w2 t=>Qab h2 t (fun _ _ h=>h)
   have HWS:Hid (wb.heap.size≤wr.heap.size):=h3.size
   have HSrc:Hid (∀w',Touch (fun k=>k=nb) wb w'→w'.cell? ⟨bs,9,none⟩=some (.slice (some ⟨g,oo,none⟩) vn vc)∧w'.cell? ⟨g,oo+i*3,none⟩=some (.int .u32 x.out)∧w'.cell? ⟨g,oo+i*3+1,none⟩=some (.int .u32 x.via)∧w'.cell? ⟨g,oo+i*3+2,none⟩=some (.bool x.vr)):=fun w' t=>by
    obtain⟨a2,c2,e2,hs2⟩:=(HLk.out w' t).out
    simp only [Value.slice.injEq] at e2
    obtain⟨rfl,-,rfl⟩:=e2
    rcases hs2 with e|⟨g2,o2,e,hc2⟩
    ·rw [e] at hx;cases hx
    ·simp only [Option.some.injEq,Addr.mk.injEq,and_true] at e
     obtain⟨rfl,rfl⟩:=e
     exact⟨(HRS.out w' t).1.cell 9,hc2 i x hx 0 _ rfl,hc2 i x hx 1 _ rfl,hc2 i x hx 2 _ rfl⟩
   have HTW:Hid (Touch (fun k=>k=nb) wb wr):=h3
   clear h1 h2 h3 h4 q hc hx HC HT q0 q1 q2
   generalize l.take i=lc at *
   generalize lc.length=LL at *
   have TDR:Touch (fun _=>False) wr wr.drew:=(Touch.refl _ _).drew
   have f9d:wr.drew.cell? ⟨nb,9,none⟩=some (.slice ua LL uc):=TDR.cellN f9
   have TW1:Touch (fun _=>False) wr (wr.drew.alloc (.cells #[.int .u32 x.out,.int .u32 x.via,.bool x.vr] 53)):=TDR.alloc _
   have f9a:(wr.drew.alloc (.cells #[.int .u32 x.out,.int .u32 x.via,.bool x.vr] 53)).cell? ⟨nb,9,none⟩=some (.slice ua LL uc):=TW1.cellN f9
   have RA1:Row (wr.drew.alloc (.cells #[.int .u32 x.out,.int .u32 x.via,.bool x.vr] 53)) wr.heap.size 53 [.int .u32 x.out,.int .u32 x.via,.bool x.vr]:=Qac wr.drew _ _
   have HNA:Hid (∀(j:Nat) u,([.int .u32 x.out,.int .u32 x.via,.bool x.vr]:List Value)[j]?=some u→(wr.drew.alloc (.cells #[.int .u32 x.out,.int .u32 x.via,.bool x.vr] 53)).cell? ((⟨wr.heap.size,0,none⟩:Addr).add j)=some u):=fun j u hj=>by rw [Qah,Nat.zero_add,RA1.cell j];exact hj
   clear RA1
   go_upto_region 5 with fail
   clear s9
   refine wp_region_held_drew (S:=fun w'=>w'.cell? ⟨bs,9,none⟩=some (.slice (some ⟨g,oo,none⟩) vn vc)∧w'.cell? ⟨g,oo+i*3,none⟩=some (.int .u32 x.out)∧w'.cell? ⟨g,oo+i*3+1,none⟩=some (.int .u32 x.via)∧w'.cell? ⟨g,oo+i*3+2,none⟩=some (.bool x.vr)) (by kernel_rfl) (HSrc.out _ (HTW.out.trans (TDR.mono (fun _ _ h=>h.elim)))) (fun hHeld=>?_)
   refine wpAnyH_take (i:=0) (oi:=⟨some 29,_,_,_,_,_⟩) (v:=.pointer (some ⟨nb,9,none⟩)) rfl (by kernel_rfl) (by kernel_rfl) (by kernel_rfl) (fun _ _ _ h=>h) (Or.inl ⟨by rfl,fun w hw=>by go_simp⟩) (by assumption) ?_
   simp only [Act.put,Qo4,Qo5,Qo6]
   refine wpAnyH_take (i:=2) (oi:=⟨some 31,_,_,_,_,_⟩) (v:=.pointer (some ⟨bs,9,none⟩)) rfl (by kernel_rfl) (by kernel_rfl) (by kernel_rfl) (fun _ _ _ h=>h) (Or.inl ⟨by rfl,fun w hw=>by go_simp⟩) (by assumption) ?_
   simp only [Act.put,Qo4,Qo5,Qo6]
   refine wpAnyH_take (i:=3) (oi:=⟨some 32,_,_,_,_,_⟩) (v:=.slice (some ⟨g,oo,none⟩) vn vc) rfl (by kernel_rfl) (by kernel_rfl) (by kernel_rfl) (fun _ _ _ h=>h) (Or.inl ⟨by rfl,fun w hw=>by have p1:=hw.1;have p2:=hw.2.1;have p3:=hw.2.2.1;have p4:=hw.2.2.2;go_simp⟩) (by assumption) ?_
   simp only [Act.put,Qo4,Qo5,Qo6]
   refine wpAnyH_take (i:=4) (oi:=⟨some 33,_,_,_,_,_⟩) (v:=.int .i64 (i:Int)) rfl (by kernel_rfl) (by kernel_rfl) (by kernel_rfl) (fun _ _ _ h=>h) (Or.inl ⟨by rfl,fun w hw=>by go_simp⟩) (by assumption) ?_
   simp only [Act.put,Qo4,Qo5,Qo6]
   refine wpAnyH_take (i:=5) (oi:=⟨some 34,_,_,_,_,_⟩) (v:=.pointer (some ⟨g,oo+i*3,none⟩)) rfl (by kernel_rfl) (by kernel_rfl) (by kernel_rfl) (fun _ _ _ h=>h) (Or.inl ⟨by rfl,fun w hw=>by go_simp⟩) (by assumption) ?_
   simp only [Act.put,Qo4,Qo5,Qo6]
   refine wpAnyH_take (i:=6) (oi:=⟨some 35,_,_,_,_,_⟩) (v:=.pointer (some ⟨g,oo+i*3,none⟩)) rfl (by kernel_rfl) (by kernel_rfl) (by kernel_rfl) (fun _ _ _ h=>h) (Or.inl ⟨by rfl,fun w hw=>by go_simp⟩) (by assumption) ?_
   simp only [Act.put,Qo4,Qo5,Qo6]
   refine wpAnyH_take (i:=7) (oi:=⟨some 36,_,_,_,_,_⟩) (v:=.int .u32 x.out) rfl (by kernel_rfl) (by kernel_rfl) (by kernel_rfl) (fun _ _ _ h=>h) (Or.inl ⟨by rfl,fun w hw=>by have p1:=hw.1;have p2:=hw.2.1;have p3:=hw.2.2.1;have p4:=hw.2.2.2;go_simp⟩) (by assumption) ?_
   simp only [Act.put,Qo4,Qo5,Qo6]
   refine wpAnyH_take (i:=8) (oi:=⟨some 37,_,_,_,_,_⟩) (v:=.pointer (some ⟨bs,9,none⟩)) rfl (by kernel_rfl) (by kernel_rfl) (by kernel_rfl) (fun _ _ _ h=>h) (Or.inl ⟨by rfl,fun w hw=>by go_simp⟩) (by assumption) ?_
   simp only [Act.put,Qo4,Qo5,Qo6]
   refine wpAnyH_take (i:=9) (oi:=⟨some 38,_,_,_,_,_⟩) (v:=.slice (some ⟨g,oo,none⟩) vn vc) rfl (by kernel_rfl) (by kernel_rfl) (by kernel_rfl) (fun _ _ _ h=>h) (Or.inl ⟨by rfl,fun w hw=>by have p1:=hw.1;have p2:=hw.2.1;have p3:=hw.2.2.1;have p4:=hw.2.2.2;go_simp⟩) (by assumption) ?_
   simp only [Act.put,Qo4,Qo5,Qo6]
   refine wpAnyH_take (i:=10) (oi:=⟨some 39,_,_,_,_,_⟩) (v:=.int .i64 (i:Int)) rfl (by kernel_rfl) (by kernel_rfl) (by kernel_rfl) (fun _ _ _ h=>h) (Or.inl ⟨by rfl,fun w hw=>by go_simp⟩) (by assumption) ?_
   simp only [Act.put,Qo4,Qo5,Qo6]
   refine wpAnyH_take (i:=11) (oi:=⟨some 40,_,_,_,_,_⟩) (v:=.pointer (some ⟨g,oo+i*3,none⟩)) rfl (by kernel_rfl) (by kernel_rfl) (by kernel_rfl) (fun _ _ _ h=>h) (Or.inl ⟨by rfl,fun w hw=>by go_simp⟩) (by assumption) ?_
   simp only [Act.put,Qo4,Qo5,Qo6]
   refine wpAnyH_take (i:=12) (oi:=⟨some 41,_,_,_,_,_⟩) (v:=.pointer (some ⟨g,oo+i*3+1,none⟩)) rfl (by kernel_rfl) (by kernel_rfl) (by kernel_rfl) (fun _ _ _ h=>h) (Or.inl ⟨by rfl,fun w hw=>by go_simp⟩) (by assumption) ?_
   simp only [Act.put,Qo4,Qo5,Qo6]
   refine wpAnyH_take (i:=13) (oi:=⟨some 42,_,_,_,_,_⟩) (v:=.int .u32 x.via) rfl (by kernel_rfl) (by kernel_rfl) (by kernel_rfl) (fun _ _ _ h=>h) (Or.inl ⟨by rfl,fun w hw=>by have p1:=hw.1;have p2:=hw.2.1;have p3:=hw.2.2.1;have p4:=hw.2.2.2;go_simp⟩) (by assumption) ?_
   simp only [Act.put,Qo4,Qo5,Qo6]
   refine wpAnyH_take (i:=14) (oi:=⟨some 43,_,_,_,_,_⟩) (v:=.pointer (some ⟨bs,9,none⟩)) rfl (by kernel_rfl) (by kernel_rfl) (by kernel_rfl) (fun _ _ _ h=>h) (Or.inl ⟨by rfl,fun w hw=>by go_simp⟩) (by assumption) ?_
   simp only [Act.put,Qo4,Qo5,Qo6]
   refine wpAnyH_take (i:=15) (oi:=⟨some 44,_,_,_,_,_⟩) (v:=.slice (some ⟨g,oo,none⟩) vn vc) rfl (by kernel_rfl) (by kernel_rfl) (by kernel_rfl) (fun _ _ _ h=>h) (Or.inl ⟨by rfl,fun w hw=>by have p1:=hw.1;have p2:=hw.2.1;have p3:=hw.2.2.1;have p4:=hw.2.2.2;go_simp⟩) (by assumption) ?_
   simp only [Act.put,Qo4,Qo5,Qo6]
   refine wpAnyH_take (i:=16) (oi:=⟨some 45,_,_,_,_,_⟩) (v:=.int .i64 (i:Int)) rfl (by kernel_rfl) (by kernel_rfl) (by kernel_rfl) (fun _ _ _ h=>h) (Or.inl ⟨by rfl,fun w hw=>by go_simp⟩) (by assumption) ?_
   simp only [Act.put,Qo4,Qo5,Qo6]
   refine wpAnyH_take (i:=17) (oi:=⟨some 46,_,_,_,_,_⟩) (v:=.pointer (some ⟨g,oo+i*3,none⟩)) rfl (by kernel_rfl) (by kernel_rfl) (by kernel_rfl) (fun _ _ _ h=>h) (Or.inl ⟨by rfl,fun w hw=>by go_simp⟩) (by assumption) ?_
   simp only [Act.put,Qo4,Qo5,Qo6]
   refine wpAnyH_take (i:=18) (oi:=⟨some 47,_,_,_,_,_⟩) (v:=.pointer (some ⟨g,oo+i*3+2,none⟩)) rfl (by kernel_rfl) (by kernel_rfl) (by kernel_rfl) (fun _ _ _ h=>h) (Or.inl ⟨by rfl,fun w hw=>by go_simp⟩) (by assumption) ?_
   simp only [Act.put,Qo4,Qo5,Qo6]
   refine wpAnyH_take (i:=19) (oi:=⟨some 48,_,_,_,_,_⟩) (v:=.bool x.vr) rfl (by kernel_rfl) (by kernel_rfl) (by kernel_rfl) (fun _ _ _ h=>h) (Or.inl ⟨by rfl,fun w hw=>by have p1:=hw.1;have p2:=hw.2.1;have p3:=hw.2.2.1;have p4:=hw.2.2.2;go_simp⟩) (by assumption) ?_
   simp only [Act.put,Qo4,Qo5,Qo6]
   refine wpAnyH_take (i:=20) (oi:=⟨some 49,_,_,_,_,_⟩) (v:=.agg #[.int .u32 x.out,.int .u32 x.via,.bool x.vr]) rfl (by kernel_rfl) (by kernel_rfl) (by kernel_rfl) (fun _ _ _ h=>h) (Or.inl ⟨by rfl,fun w hw=>by simp only [execOp,Sem.run_bind,List.map_toArray,List.map_cons,List.map_nil];exact Eq.trans (congrArg (fun r=>Result.andThen r (fun a w'=>Sem.run Tryz.prog (pure (Next.value a)) w')) (hbld w)) rfl⟩) (by assumption) ?_
   simp only [Act.put,Qo4,Qo5,Qo6]
   refine wpAnyH_ready (rs:=[1,21]) (by kernel_rfl) (by simp) ?_
   refine AllReadyH.cons (o:=⟨some 30,_,_,_,_,_⟩) rfl (fun K hK=>?_) (AllReadyH.cons (o:=⟨some 50,_,_,_,_,_⟩) rfl (fun K hK=>?_) AllReadyH.nil)
   ·as_aux_lemma =>
    go_simp
    refine hK.out _ _ (by assumption) (fun hHeld=>?_)
    clear hK K
    refine wpAnyH_ready (rs:=[21]) (by kernel_rfl) (by simp) ?_
    refine AllReadyH.cons (o:=⟨some 50,_,_,_,_,_⟩) rfl (fun K hK=>?_) AllReadyH.nil
    refine Qfd (by rfl) 45 1 [(0,.tmp 49)] (by rfl) _ [(0,.agg #[.int .u32 x.out,.int .u32 x.via,.bool x.vr])] (by rfl) (Qme x.out x.via x.vr wr.drew) ?_
    simp only [Act.put,Qo4,Qo5,Qo6]
    refine hK.out _ _ (HSrc.out _ (HTW.out.trans (TW1.mono (fun _ _ h=>h.elim)))) (fun hHeld=>?_)
    clear hK K
    refine wpAnyH_ready (rs:=[22]) (by kernel_rfl) (by simp) ?_
    refine AllReadyH.cons (o:=⟨some 51,_,_,_,_,_⟩) rfl (fun K hK=>?_) AllReadyH.nil
    refine Qfl (by rfl) (.tmp 30) (.tmp 50) 45 (by rfl) wb.heap.size 53 i0 _ 3 12 Tryz.underlying45 hin0 hz0 hz1 hz2 rfl (by omega) (.slice ua LL uc) LL (cellsG HK.cs lc) (by rfl) (HOW.out _ TW1) ⟨wr.heap.size,0,none⟩ 1 1 [.int .u32 x.out,.int .u32 x.via,.bool x.vr] (by rfl) rfl HNA.out (by intro u hu;simp at hu;rcases hu with rfl|rfl|rfl <;> rfl) (by have:=HLN.out;unfold maxLen;omega) (by have:=HLN.out;omega) (Nat.le_trans HWS.out TW1.size) ?_
    intro v3 w3 own3 gr3 hor
    simp only [Act.put,Qo4,Qo5,Qo6]
    obtain⟨k9,z9,l9,hhs,xa3,xc3,rfl⟩:=HST.out _ _ _ TW1 own3 gr3
    have XN:Hid _:=hhs
    have T3:Touch (fun k=>k=nb) wb w3:=(HTW.out.trans (TW1.mono (fun _ _ h=>h.elim))).trans' ((Touch.refl (fun k=>(Value.slice ua LL uc).ownBlock=some k) _).grown gr3 (fun k hk=>Or.inl hk)) (fun k hk e=>by have:=((HOW.out _ TW1).lt k e).1;omega)
    clear hhs own3 gr3
    refine hK.out _ _ (HSrc.out _ T3) (fun hHeld=>?_)
    clear hK K
    refine wpAnyH_take (i:=23) (oi:=⟨some 52,_,_,_,_,_⟩) (v:=.pointer (some ⟨nb,9,none⟩)) rfl (by kernel_rfl) (by kernel_rfl) (by kernel_rfl) (fun _ _ _ h=>h) (Or.inl ⟨by rfl,fun w hw=>by go_simp⟩) (by assumption) ?_
    simp only [Act.put,Qo4,Qo5,Qo6]
    refine wpAnyH_ready (rs:=[24]) (by kernel_rfl) (by simp) ?_
    refine AllReadyH.cons (o:=⟨none,_,_,_,_,_⟩) rfl (fun K hK=>?_) AllReadyH.nil
    go_simp
    refine hK.out _ _ (HSrc.out _ (Touch.setCell (p:=⟨nb,9,none⟩) T3 (Or.inl rfl) _)) (fun hHeld=>?_)
    clear hK K
    refine wpAnyH_done (by kernel_rfl) ?_ _
    clear T3 HSrc HST HOW
    go_wp2_with fail
    go_roundw
    case rel=>exact⟨i+1,by omega,by go_num,XN.out⟩
    case measure=>simp [intOf];omega
   ·as_aux_lemma =>
    refine Qfd (by rfl) 45 1 [(0,.tmp 49)] (by rfl) _ [(0,.agg #[.int .u32 x.out,.int .u32 x.via,.bool x.vr])] (by rfl) (Qme x.out x.via x.vr wr.drew) ?_
    simp only [Act.put,Qo4,Qo5,Qo6]
    refine hK.out _ _ (HSrc.out _ (HTW.out.trans (TW1.mono (fun _ _ h=>h.elim)))) (fun hHeld=>?_)
    clear hK K
    refine wpAnyH_ready (rs:=[1]) (by kernel_rfl) (by simp) ?_
    refine AllReadyH.cons (o:=⟨some 30,_,_,_,_,_⟩) rfl (fun K hK=>?_) AllReadyH.nil
    go_simp
    refine hK.out _ _ (by assumption) (fun hHeld=>?_)
    clear hK K
    refine wpAnyH_ready (rs:=[22]) (by kernel_rfl) (by simp) ?_
    refine AllReadyH.cons (o:=⟨some 51,_,_,_,_,_⟩) rfl (fun K hK=>?_) AllReadyH.nil
    refine Qfl (by rfl) (.tmp 30) (.tmp 50) 45 (by rfl) wb.heap.size 53 i0 _ 3 12 Tryz.underlying45 hin0 hz0 hz1 hz2 rfl (by omega) (.slice ua LL uc) LL (cellsG HK.cs lc) (by rfl) (HOW.out _ TW1) ⟨wr.heap.size,0,none⟩ 1 1 [.int .u32 x.out,.int .u32 x.via,.bool x.vr] (by rfl) rfl HNA.out (by intro u hu;simp at hu;rcases hu with rfl|rfl|rfl <;> rfl) (by have:=HLN.out;unfold maxLen;omega) (by have:=HLN.out;omega) (Nat.le_trans HWS.out TW1.size) ?_
    intro v3 w3 own3 gr3 hor
    simp only [Act.put,Qo4,Qo5,Qo6]
    obtain⟨k9,z9,l9,hhs,xa3,xc3,rfl⟩:=HST.out _ _ _ TW1 own3 gr3
    have XN:Hid _:=hhs
    have T3:Touch (fun k=>k=nb) wb w3:=(HTW.out.trans (TW1.mono (fun _ _ h=>h.elim))).trans' ((Touch.refl (fun k=>(Value.slice ua LL uc).ownBlock=some k) _).grown gr3 (fun k hk=>Or.inl hk)) (fun k hk e=>by have:=((HOW.out _ TW1).lt k e).1;omega)
    clear hhs own3 gr3
    refine hK.out _ _ (HSrc.out _ T3) (fun hHeld=>?_)
    clear hK K
    refine wpAnyH_take (i:=23) (oi:=⟨some 52,_,_,_,_,_⟩) (v:=.pointer (some ⟨nb,9,none⟩)) rfl (by kernel_rfl) (by kernel_rfl) (by kernel_rfl) (fun _ _ _ h=>h) (Or.inl ⟨by rfl,fun w hw=>by go_simp⟩) (by assumption) ?_
    simp only [Act.put,Qo4,Qo5,Qo6]
    refine wpAnyH_ready (rs:=[24]) (by kernel_rfl) (by simp) ?_
    refine AllReadyH.cons (o:=⟨none,_,_,_,_,_⟩) rfl (fun K hK=>?_) AllReadyH.nil
    go_simp
    refine hK.out _ _ (HSrc.out _ (Touch.setCell (p:=⟨nb,9,none⟩) T3 (Or.inl rfl) _)) (fun hHeld=>?_)
    clear hK K
    refine wpAnyH_done (by kernel_rfl) ?_ _
    clear T3 HSrc HST HOW
    go_wp2_with fail
    go_roundw
    case rel=>exact⟨i+1,by omega,by go_num,XN.out⟩
    case measure=>simp [intOf];omega
  ·as_aux_lemma =>
   have hlt':¬(i:Int)<(vn:Int):=by omega
   obtain rfl:i=vn:=by omega
   rw [HVN.out,List.take_length] at cs
   obtain⟨⟨v,h1,h2⟩,h3,h4⟩:=cs
   have RZ:=(HRS.out wr h3).2
   have hZ:=HZ.out
   have hW:=HW.out
   obtain⟨v1,v2,hv⟩:=Qal h2
   have HF:Hid (∀cs,WyP w pa pb rt fl ki ar co di tg l (.returned (.agg #[.int .u32 pa,.int .u8 pb,.int .u32 rt,.int .u8 fl,.int .u8 ki,.int .u32 ar,.int .u32 co,.int .u32 di,.int .u32 tg,v])) (wr.setRow rb cs)):=fun cs=>by
    refine⟨⟨v,rfl,Qak (Qab h2 (Touch.setRow (F:=fun k=>k=rb) (Touch.refl _ _) (Or.inl rfl) cs) (fun k hk e=>by have:=(h2.lt k hk).1;omega)) HTb.out.size⟩,?_⟩
    exact Touch.setRow (HTb.out.trans' h3 (fun i hi e=>by omega)) (Or.inr (by omega)) cs
   have HR1:Hid (Row wr nb 47 [.int .u32 pa,.int .u8 pb,.int .u32 rt,.int .u8 fl,.int .u8 ki,.int .u32 ar,.int .u32 co,.int .u32 di,.int .u32 tg,v]):=h1
   have HR2:Hid (Row wr rb 47 [.int .u32 0,.int .u8 0,.int .u32 0,.int .u8 0,.int .u8 0,.int .u32 0,.int .u32 0,.int .u32 0,.int .u32 0,.slice none 0 0]):=RZ
   clear h1 h2 h3 h4 HC RZ HRS HLk
   subst hv
   generalize l.length=nn at HR1 HF
   go_upto_region 6 with fail
   have HLD:=Qbk HR1.out
   have HST2:=HR2.out
   go_wp2_with (first|refine wpList_load_mid rfl 47 (.tmp 3) rfl nb 0 rfl [.int .u32 pa,.int .u8 pb,.int .u32 rt,.int .u8 fl,.int .u8 ki,.int .u32 ar,.int .u32 co,.int .u32 di,.int .u32 tg,.slice v1 nn v2] _ HLD Tryz.underlying47 rfl (by kernel_rfl) ?_|refine wpList_store_row rfl 47 (.tmp 2) (.tmp 53) rfl rb #[.int .u32 pa,.int .u8 pb,.int .u32 rt,.int .u8 fl,.int .u8 ki,.int .u32 ar,.int .u32 co,.int .u32 di,.int .u32 tg,.slice v1 nn v2] rfl rfl 47 _ HST2 (by kernel_rfl) rfl (by simp [Value.oneCell']) ?_)
   refine bodyPost_ret (results_cell_row Tryz.results27 _ _ rb 47 #[.int .u32 pa,.int .u8 pb,.int .u32 rt,.int .u8 fl,.int .u8 ki,.int .u32 ar,.int .u32 co,.int .u32 di,.int .u32 tg,.slice v1 nn v2] (0,0) _ rfl (HR2.out.setRow #[.int .u32 pa,.int .u8 pb,.int .u32 rt,.int .u8 fl,.int .u8 ki,.int .u32 ar,.int .u32 co,.int .u32 di,.int .u32 tg,.slice v1 nn v2]) Tryz.underlying47 rfl (by kernel_rfl)) rfl ?_
   exact HF.out _
end Go.Proofs.YtldmkoogghemhaaGreat
