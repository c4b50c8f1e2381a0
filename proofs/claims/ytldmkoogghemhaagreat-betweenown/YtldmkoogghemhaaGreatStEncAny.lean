import Derived.Test.YtldmkoogghemhaaGreatRefSum3
import Derived.Deep.DeepCutAuto
import Derived.Deep.RegionHeld2
import Derived.Deep.RegionHeld3
import Derived.Deep.LoopGhost
import Derived.Test.YtldmkoogghemhaaGreatGrCnt
namespace Go.Proofs.YtldmkoogghemhaaGreat
set_option maxHeartbeats 8000000
open Go.RowKit
set_option linter.unusedVariables false
set_option maxRecDepth 100000
theorem Qhg (h:HV) (ok:h.All) (v:Value) (rs:List Int) (w:World) (hv:ArgAt w v rs) (hl:rs.length≤131072) :
  Calls Tryz.prog 43 #[h.sv v] w fun e w'=>∃u,e=.returned u∧Buf w w' u (headB h++rs):=by
 have OK:Hid h.All:=ok
 have HV:Hid (ArgAt w v rs):=hv
 clear ok hv
 show Calls Tryz.prog 43 #[.agg #[.int .u16 h.age,.int .u8 h.opts,.int .u8 h.typ,.int .u32 h.id,.int .u32 h.adv,.int .i32 h.seq,.int .u16 h.sum,.int .u16 h.len,v]] w _
 go_enter Tryz.func43,Tryz.ntmps43
 go_upto_region 1 with fail
 have K0:Hid (Sd (w.alloc (.cells #[.int .u16 h.age,.int .u8 h.opts,.int .u8 h.typ,.int .u32 h.id,.int .u32 h.adv,.int .i32 h.seq,.int .u16 h.sum,.int .u16 h.len,v] 59)) w.heap.size h v):=Sd.new w h v _
 have T0:Hid (Touch (fun _=>False) w (w.alloc (.cells #[.int .u16 h.age,.int .u8 h.opts,.int .u8 h.typ,.int .u32 h.id,.int .u32 h.adv,.int .i32 h.seq,.int .u16 h.sum,.int .u16 h.len,v] 59))):=(Touch.refl _ w).alloc _
 generalize w.alloc (.cells #[.int .u16 h.age,.int .u8 h.opts,.int .u8 h.typ,.int .u32 h.id,.int .u32 h.adv,.int .i32 h.seq,.int .u16 h.sum,.int .u16 h.len,v] 59)=wa at K0 T0 ⊢
 generalize w.heap.size=g at K0 ⊢
 obtain⟨⟨c0,c1,c2,c3,c4,c5,c6,c7⟩,c8⟩:=K0.out
 go_wp2_with fail
 refine Calls.mono (Qhj h OK.out _) ?_
 rintro e w1 ⟨v1,rfl,b1⟩
 clear c0 c1 c2 c3 c4 c5 c6 c7 c8
 have B1:Hid (Buf wa w1 v1 (headB h)):=b1
 have A1:Hid (ArgAt w1 v rs):=HV.out.keepN (T0.out.trans b1.t)
 obtain⟨⟨c0,c1,c2,c3,c4,c5,c6,c7⟩,c8⟩:=K0.out.keep b1.t
 clear b1
 go_wp2_with (at_builtin;refine Qaj rfl (.tmp 7) (.tmp 9) rfl wa _ _ rfl B1.out _ _ rfl A1.out (by rw [Qaq];omega) ?_)
 intro v2 w2 b2
 have B2:Hid (Buf wa w2 v2 (headB h++rs)):=b2
 clear b2 B1 A1 c0 c1 c2 c3 c4 c5 c6 c7 c8
 go_wp2_with fail
 go_ret
 exact⟨_,rfl,B2.out.back T0.out⟩
theorem Qg2 (h:HV) (ok:h.All) (v:Value) (rs:List Int) (w:World) (hv:ArgAt w v rs) (hby:∀x∈rs,0≤x∧x<256) (hl:rs.length≤65515) :
  Calls Tryz.prog 22 #[h.sv v] w fun e w'=>∃u,e=.returned (.tuple #[(sealH h rs).sv u,.int .i64 0])∧Buf w w' u rs:=by
 obtain⟨va,vc,rfl,-⟩:=hv.form
 have OK:Hid h.All:=ok
 have HVV:Hid (ArgAt w (.slice va rs.length vc) rs):=hv
 have HBY:Hid (∀x∈rs,0≤x∧x<256):=hby
 have HSH:Hid (sealH h rs={ h with len:=20+(rs.length:Int),sum:=sealS h rs }):=rfl
 clear ok hv hby
 have h1:¬(65535:Int)<(rs.length:Int)+20:=by omega
 show Calls Tryz.prog 22 #[.agg #[.int .u16 h.age,.int .u8 h.opts,.int .u8 h.typ,.int .u32 h.id,.int .u32 h.adv,.int .i32 h.seq,.int .u16 h.sum,.int .u16 h.len,.slice va rs.length vc]] w _
 go_enter Tryz.func22,Tryz.ntmps22
 go_upto_region 4 with fail
 have z1:(w.alloc (.cells #[.int .u16 h.age,.int .u8 h.opts,.int .u8 h.typ,.int .u32 h.id,.int .u32 h.adv,.int .i32 h.seq,.int .u16 h.sum,.int .u16 h.len,.slice va rs.length vc] 59)).heap.size=w.heap.size+1:=by simp [go_sem]
 have z2:((w.alloc (.cells #[.int .u16 h.age,.int .u8 h.opts,.int .u8 h.typ,.int .u32 h.id,.int .u32 h.adv,.int .i32 h.seq,.int .u16 h.sum,.int .u16 h.len,.slice va rs.length vc] 59)).alloc (.cells #[.int .u16 0,.int .u8 0,.int .u8 0,.int .u32 0,.int .u32 0,.int .i32 0,.int .u16 0,.int .u16 0,.slice none 0 0] 59)).heap.size=w.heap.size+1+1:=by simp [go_sem]
 have z3:(((w.alloc (.cells #[.int .u16 h.age,.int .u8 h.opts,.int .u8 h.typ,.int .u32 h.id,.int .u32 h.adv,.int .i32 h.seq,.int .u16 h.sum,.int .u16 h.len,.slice va rs.length vc] 59)).alloc (.cells #[.int .u16 0,.int .u8 0,.int .u8 0,.int .u32 0,.int .u32 0,.int .i32 0,.int .u16 0,.int .u16 0,.slice none 0 0] 59)).alloc (.cells #[.int .u16 h.age,.int .u8 h.opts,.int .u8 h.typ,.int .u32 h.id,.int .u32 h.adv,.int .i32 h.seq,.int .u16 h.sum,.int .u16 h.len,.slice none 0 0] 59)).heap.size=w.heap.size+1+1+1:=by simp [go_sem]
 have K0:Hid (Sd (((w.alloc (.cells #[.int .u16 h.age,.int .u8 h.opts,.int .u8 h.typ,.int .u32 h.id,.int .u32 h.adv,.int .i32 h.seq,.int .u16 h.sum,.int .u16 h.len,.slice va rs.length vc] 59)).alloc (.cells #[.int .u16 0,.int .u8 0,.int .u8 0,.int .u32 0,.int .u32 0,.int .i32 0,.int .u16 0,.int .u16 0,.slice none 0 0] 59)).alloc (.cells #[.int .u16 h.age,.int .u8 h.opts,.int .u8 h.typ,.int .u32 h.id,.int .u32 h.adv,.int .i32 h.seq,.int .u16 h.sum,.int .u16 h.len,.slice none 0 0] 59)) w.heap.size h (.slice va rs.length vc)):=(Sd.new w h _ _).keep (((Touch.refl _ _).alloc _).alloc _)
 have R0:Hid (Out (((w.alloc (.cells #[.int .u16 h.age,.int .u8 h.opts,.int .u8 h.typ,.int .u32 h.id,.int .u32 h.adv,.int .i32 h.seq,.int .u16 h.sum,.int .u16 h.len,.slice va rs.length vc] 59)).alloc (.cells #[.int .u16 0,.int .u8 0,.int .u8 0,.int .u32 0,.int .u32 0,.int .i32 0,.int .u16 0,.int .u16 0,.slice none 0 0] 59)).alloc (.cells #[.int .u16 h.age,.int .u8 h.opts,.int .u8 h.typ,.int .u32 h.id,.int .u32 h.adv,.int .i32 h.seq,.int .u16 h.sum,.int .u16 h.len,.slice none 0 0] 59)) (w.heap.size+1) HV.zero (.slice none 0 0)):=z1 ▸ (Out.new (w.alloc (.cells #[.int .u16 h.age,.int .u8 h.opts,.int .u8 h.typ,.int .u32 h.id,.int .u32 h.adv,.int .i32 h.seq,.int .u16 h.sum,.int .u16 h.len,.slice va rs.length vc] 59)) HV.zero _ _).keep ((Touch.refl _ _).alloc _)
 have O0:Hid (Out (((w.alloc (.cells #[.int .u16 h.age,.int .u8 h.opts,.int .u8 h.typ,.int .u32 h.id,.int .u32 h.adv,.int .i32 h.seq,.int .u16 h.sum,.int .u16 h.len,.slice va rs.length vc] 59)).alloc (.cells #[.int .u16 0,.int .u8 0,.int .u8 0,.int .u32 0,.int .u32 0,.int .i32 0,.int .u16 0,.int .u16 0,.slice none 0 0] 59)).alloc (.cells #[.int .u16 h.age,.int .u8 h.opts,.int .u8 h.typ,.int .u32 h.id,.int .u32 h.adv,.int .i32 h.seq,.int .u16 h.sum,.int .u16 h.len,.slice none 0 0] 59)) (w.heap.size+1+1) h (.slice none 0 0)):=z2 ▸ Out.new ((w.alloc (.cells #[.int .u16 h.age,.int .u8 h.opts,.int .u8 h.typ,.int .u32 h.id,.int .u32 h.adv,.int .i32 h.seq,.int .u16 h.sum,.int .u16 h.len,.slice va rs.length vc] 59)).alloc (.cells #[.int .u16 0,.int .u8 0,.int .u8 0,.int .u32 0,.int .u32 0,.int .i32 0,.int .u16 0,.int .u16 0,.slice none 0 0] 59)) h _ _
 have T0:Hid (Touch (fun _=>False) w (((w.alloc (.cells #[.int .u16 h.age,.int .u8 h.opts,.int .u8 h.typ,.int .u32 h.id,.int .u32 h.adv,.int .i32 h.seq,.int .u16 h.sum,.int .u16 h.len,.slice va rs.length vc] 59)).alloc (.cells #[.int .u16 0,.int .u8 0,.int .u8 0,.int .u32 0,.int .u32 0,.int .i32 0,.int .u16 0,.int .u16 0,.slice none 0 0] 59)).alloc (.cells #[.int .u16 h.age,.int .u8 h.opts,.int .u8 h.typ,.int .u32 h.id,.int .u32 h.adv,.int .i32 h.seq,.int .u16 h.sum,.int .u16 h.len,.slice none 0 0] 59))):=(((Touch.refl _ _).alloc _).alloc _).alloc _
 have Z3:Hid ((((w.alloc (.cells #[.int .u16 h.age,.int .u8 h.opts,.int .u8 h.typ,.int .u32 h.id,.int .u32 h.adv,.int .i32 h.seq,.int .u16 h.sum,.int .u16 h.len,.slice va rs.length vc] 59)).alloc (.cells #[.int .u16 0,.int .u8 0,.int .u8 0,.int .u32 0,.int .u32 0,.int .i32 0,.int .u16 0,.int .u16 0,.slice none 0 0] 59)).alloc (.cells #[.int .u16 h.age,.int .u8 h.opts,.int .u8 h.typ,.int .u32 h.id,.int .u32 h.adv,.int .i32 h.seq,.int .u16 h.sum,.int .u16 h.len,.slice none 0 0] 59)).heap.size=w.heap.size+1+1+1):=z3
 clear z1 z2 z3
 generalize ((w.alloc (.cells #[.int .u16 h.age,.int .u8 h.opts,.int .u8 h.typ,.int .u32 h.id,.int .u32 h.adv,.int .i32 h.seq,.int .u16 h.sum,.int .u16 h.len,.slice va rs.length vc] 59)).alloc (.cells #[.int .u16 0,.int .u8 0,.int .u8 0,.int .u32 0,.int .u32 0,.int .i32 0,.int .u16 0,.int .u16 0,.slice none 0 0] 59)).alloc (.cells #[.int .u16 h.age,.int .u8 h.opts,.int .u8 h.typ,.int .u32 h.id,.int .u32 h.adv,.int .i32 h.seq,.int .u16 h.sum,.int .u16 h.len,.slice none 0 0] 59)=wa at K0 R0 O0 T0 Z3 ⊢
 obtain⟨g1,hg1⟩:∃g,w.heap.size=g:=⟨_,rfl⟩
 have HG1:Hid (w.heap.size=g1):=hg1
 rw [hg1] at K0 R0 O0 Z3 ⊢
 clear hg1
 have hne:Hid (g1+1≠g1+1+1):=by show _≠_;omega
 have A0:Hid (ArgAt wa (.slice va rs.length vc) rs):=HVV.out.keepN T0.out
 have N0:Hid (Buf wa wa (.slice none 0 0) []):=Buf.nil (Touch.refl _ _)
 obtain⟨⟨s0,s1,s2,s3,s4,s5,s6,s7⟩,s8⟩:=K0.out
 obtain⟨⟨⟨c0,c1,c2,c3,c4,c5,c6,c7⟩,c8⟩,-⟩:=O0.out
 go_wp2_with (at_builtin;refine Qaj rfl (.tmp 18) (.tmp 20) rfl wa _ _ rfl N0.out _ _ rfl A0.out (by simp;omega) ?_)
 intro v1 w1 b0
 have b1:Buf wa w1 v1 rs:=b0
 clear b0
 obtain⟨ua,uc,rfl⟩:=b1.form
 clear s0 s1 s2 s3 s4 s5 s6 s7 s8 c0 c1 c2 c3 c4 c5 c6 c7 c8
 have B1:Hid (Buf wa w1 (.slice ua rs.length uc) rs):=b1
 have O1:Hid (Out w1 (g1+1+1) h (.slice none 0 0)):=O0.out.keep b1.t
 have R1:Hid (Out w1 (g1+1) HV.zero (.slice none 0 0)):=R0.out.keep b1.t
 obtain⟨⟨s0,s1,s2,s3,s4,s5,s6,s7⟩,s8⟩:=K0.out.keep b1.t
 obtain⟨⟨⟨c0,c1,c2,c3,c4,c5,c6,c7⟩,c8⟩,fz⟩:=O1.out
 have f7:=fz 7 (by omega)
 have f8:=fz 8 (by omega)
 have e1:wrap64 (20+(rs.length:Int))=20+(rs.length:Int):=by unfold wrap64;omega
 have e2:(20+(rs.length:Int))%65536=20+(rs.length:Int):=by omega
 have HL:Hid (rs.length≤65515):=hl
 clear fz b1 N0 A0 hl h1
 go_upto_region 6 with fail
 clear s0 s1 s2 s3 s4 s5 s6 s7 s8 c0 c1 c2 c3 c4 c5 c6 c7 c8 f7 f8 e1 e2
 have O2:Hid (Out ((w1.setCell ⟨g1+1+1,8,none⟩ (.slice ua rs.length uc)).setCell ⟨g1+1+1,7,none⟩ (.int .u16 (20+(rs.length:Int)))) (g1+1+1) { h with len:=20+(rs.length:Int) } (.slice ua rs.length uc)):=(O1.out.set8 _).set7 _
 have R2:Hid (Out ((w1.setCell ⟨g1+1+1,8,none⟩ (.slice ua rs.length uc)).setCell ⟨g1+1+1,7,none⟩ (.int .u16 (20+(rs.length:Int)))) (g1+1) HV.zero (.slice none 0 0)):=(R1.out.other (fun e=>hne.out e.symm) _).other (fun e=>hne.out e.symm) _
 have W2o:Hid (((w1.setCell ⟨g1+1+1,8,none⟩ (.slice ua rs.length uc)).setCell ⟨g1+1+1,7,none⟩ (.int .u16 (20+(rs.length:Int)))).ownsRow wa.heap.size 5 1 (.slice ua rs.length uc) rs.length (bytesOf rs)):=Qau (Qau B1.out.own (by have:=Z3.out;show g1+1+1<_;omega) _) (by have:=Z3.out;show g1+1+1<_;omega) _
 have T2:Hid (Touch (fun _=>False) w ((w1.setCell ⟨g1+1+1,8,none⟩ (.slice ua rs.length uc)).setCell ⟨g1+1+1,7,none⟩ (.int .u16 (20+(rs.length:Int))))):=((T0.out.trans B1.out.t).setCell (Or.inr (by have:=HG1.out;show _≤g1+1+1;omega)) _).setCell (Or.inr (by have:=HG1.out;show _≤g1+1+1;omega)) _
 clear O1 R1 B1 K0 O0 R0
 generalize (w1.setCell ⟨g1+1+1,8,none⟩ (.slice ua rs.length uc)).setCell ⟨g1+1+1,7,none⟩ (.int .u16 (20+(rs.length:Int)))=w2 at O2 R2 W2o T2 ⊢
 have OKN:Hid (HV.All { h with len:=20+(rs.length:Int) }):=⟨OK.out.a,OK.out.o,OK.out.t,OK.out.i,OK.out.v,OK.out.s,OK.out.m,by have:=HL.out;show 0≤20+(rs.length:Int)∧20+(rs.length:Int)<65536;omega⟩
 obtain⟨⟨⟨c0,c1,c2,c3,c4,c5,c6,c7⟩,c8⟩,-⟩:=O2.out
 dsimp only at c0 c1 c2 c3 c4 c5 c6 c7
 go_wp2_with fail
 refine Calls.mono (Qhg { h with len:=20+(rs.length:Int) } OKN.out (.slice ua rs.length uc) rs _ (Qb0 W2o.out).arg (by have:=HL.out;omega)) ?_
 rintro e w3 ⟨v3,rfl,b3⟩
 clear c0 c1 c2 c3 c4 c5 c6 c7 c8
 have O3:Hid (Out w3 (g1+1+1) { h with len:=20+(rs.length:Int) } (.slice ua rs.length uc)):=O2.out.keep b3.t
 have R3:Hid (Out w3 (g1+1) HV.zero (.slice none 0 0)):=R2.out.keep b3.t
 have W3o:Hid (w3.ownsRow wa.heap.size 5 1 (.slice ua rs.length uc) rs.length (bytesOf rs)):=Qab W2o.out b3.t (fun _ _ h=>h)
 have T3:Hid (Touch (fun _=>False) w w3):=T2.out.trans b3.t
 obtain⟨xa,xc,rfl⟩:=b3.form
 have hxl:(headB { h with len:=20+(rs.length:Int) }++rs).length=20+rs.length:=by rw [List.length_append,Qaq]
 obtain⟨u,hu,hua⟩:=Qb7 b3.arg rfl (by rw [hxl];omega) 2 (by rw [hxl];omega)
 have HUA:Hid (ArgAt w3 u ((headB { h with len:=20+(rs.length:Int) }++rs).drop 2)):=hua
 have hby2:∀x∈(headB { h with len:=20+(rs.length:Int) }++rs).drop 2,0≤x∧x<256:=fun x hx=>by
  rcases List.mem_append.1 (List.mem_of_mem_drop hx) with h' | h'
  ·exact Qa4 OKN.out x h'
  ·exact HBY.out x h'
 have HF:=Qee u ((headB { h with len:=20+(rs.length:Int) }++rs).drop 2) 14 w3 hua hby2 (by have:=HL.out;rw [List.length_drop,hxl];omega) (by rw [List.length_drop,hxl];omega)
 replace hu:∀w,Sem.run Tryz.prog (Instr.slice 57 (.slice xa (headB { h with len:=20+(rs.length:Int) }++rs).length xc) (some (.int .i64 2)) none none) w=.ok u w:=hu
 rw [hxl] at hu ⊢
 have HSS:Hid (256*flx ((headB { h with len:=20+(rs.length:Int) }++rs).drop 2) 14+fly ((headB { h with len:=20+(rs.length:Int) }++rs).drop 2) 14=sealS h rs):=rfl
 rw [HSS.out] at HF
 clear hua hby2 hxl b3 HUA O2 R2 W2o T2 HSS
 obtain⟨⟨⟨c0,c1,c2,c3,c4,c5,c6,c7⟩,c8⟩,fz⟩:=O3.out
 dsimp only at c0 c1 c2 c3 c4 c5 c6 c7
 have f6:=fz 6 (by omega)
 clear fz
 go_wp2_with fail
 refine Calls.mono HF ?_
 rintro e w4 ⟨rfl,rfl⟩
 clear HF hu
 go_upto_region 9 with fail
 clear c0 c1 c2 c3 c4 c5 c6 c7 c8 f6
 have O4:Hid (Out (w3.setCell ⟨g1+1+1,6,none⟩ (.int .u16 (sealS h rs))) (g1+1+1) (sealH h rs) (.slice ua rs.length uc)):=O3.out.set6 _
 have R4:Hid (Out (w3.setCell ⟨g1+1+1,6,none⟩ (.int .u16 (sealS h rs))) (g1+1) HV.zero (.slice none 0 0)):=R3.out.other (fun e=>hne.out e.symm) _
 have W4o:Hid ((w3.setCell ⟨g1+1+1,6,none⟩ (.int .u16 (sealS h rs))).ownsRow wa.heap.size 5 1 (.slice ua rs.length uc) rs.length (bytesOf rs)):=Qau W3o.out (by have:=Z3.out;show g1+1+1<_;omega) _
 have T4:Hid (Touch (fun _=>False) w (w3.setCell ⟨g1+1+1,6,none⟩ (.int .u16 (sealS h rs)))):=T3.out.setCell (Or.inr (by have:=HG1.out;show _≤g1+1+1;omega)) _
 clear O3 R3 W3o T3
 generalize w3.setCell ⟨g1+1+1,6,none⟩ (.int .u16 (sealS h rs))=w4 at O4 R4 W4o T4 ⊢
 obtain⟨hh,hhh⟩:∃x,sealH h rs=x:=⟨_,rfl⟩
 have HHH:Hid (sealH h rs=hh):=hhh
 rw [hhh] at O4
 clear hhh
 obtain⟨⟨⟨c0,c1,c2,c3,c4,c5,c6,c7⟩,c8⟩,-⟩:=O4.out
 obtain⟨⟨⟨r0,r1,r2,r3,r4,r5,r6,r7⟩,r8⟩,fr⟩:=R4.out
 have q0:=fr 0 (by omega)
 have q1:=fr 1 (by omega)
 have q2:=fr 2 (by omega)
 have q3:=fr 3 (by omega)
 have q4:=fr 4 (by omega)
 have q5:=fr 5 (by omega)
 have q6:=fr 6 (by omega)
 have q7:=fr 7 (by omega)
 have q8:=fr 8 (by omega)
 clear fr
 go_wp2_with fail
 refine bodyPost_ret (v:=.tuple #[hh.sv (.slice ua rs.length uc),.int .i64 0]) (by simp [results,Tryz.results22,go_sem,HV.sv,r0,r1,r2,r3,r4,r5,r6,r7,r8]) rfl ⟨.slice ua rs.length uc,by rw [HHH.out],?_⟩
 have hlt:g1+1<wa.heap.size:=by have:=Z3.out;omega
 have hge:False∨w.heap.size≤g1+1:=Or.inr (by have:=HG1.out;omega)
 exact⟨Qak (Qau (Qau (Qau (Qau (Qau (Qau (Qau (Qau (Qau (W4o.out) hlt _) hlt _) hlt _) hlt _) hlt _) hlt _) hlt _) hlt _) hlt _) (by have:=T0.out.size;omega),(((((((((T4.out).setCell hge _).setCell hge _).setCell hge _).setCell hge _).setCell hge _).setCell hge _).setCell hge _).setCell hge _).setCell hge _⟩
theorem Qfz (t:Int) (b:BV) (h1:b.links.length≤8192) (h2:b.routers.length≤32768) (h3:b.data.length≤131072):0≤sizeB t b∧sizeB t b≤1000000:=by
 unfold sizeB
 split
 ·omega
 ·split
  ·omega
  ·split
   ·omega
   ·split <;> omega
structure SinceF (x:World) (g:Nat) (w:World):Prop where
 t:Touch (fun k=>k=g) x w
theorem SinceF.trans {x w w':World} {g:Nat} (h:SinceF x g w) (t:Touch (fun _=>False) w w'):SinceF x g w':=⟨h.t.trans (t.mono (fun _ _ h=>h.elim))⟩
theorem SinceF.start (x:World) (g:Nat):SinceF x g x.drew:=⟨(Touch.refl _ _).drew⟩
theorem Qai {x:World} {g b o:Nat} {v:Value} (hne:b≠g) (h:x.cell? ⟨b,o,none⟩=some v):∀w,SinceF x g w→w.cell? ⟨b,o,none⟩=some v:=fun w s=>(s.t.cell (p:=⟨b,o,none⟩) (Qaa h) hne).trans h
theorem SinceF.set9 {x w:World} {g:Nat} (h:SinceF x g w) (u0 u1 u2 u3 u4 u5 u6 u7 u8:Value):SinceF x g (((((((((w.setCell ⟨g,0,none⟩ u0).setCell ⟨g,1,none⟩ u1).setCell ⟨g,2,none⟩ u2).setCell ⟨g,3,none⟩ u3).setCell ⟨g,4,none⟩ u4).setCell ⟨g,5,none⟩ u5).setCell ⟨g,6,none⟩ u6).setCell ⟨g,7,none⟩ u7).setCell ⟨g,8,none⟩ u8):=by
 constructor
 refine Touch.setCell (F:=fun k=>k=g) (p:=⟨g,8,none⟩) ?_ (Or.inl rfl) _
 refine Touch.setCell (F:=fun k=>k=g) (p:=⟨g,7,none⟩) ?_ (Or.inl rfl) _
 refine Touch.setCell (F:=fun k=>k=g) (p:=⟨g,6,none⟩) ?_ (Or.inl rfl) _
 refine Touch.setCell (F:=fun k=>k=g) (p:=⟨g,5,none⟩) ?_ (Or.inl rfl) _
 refine Touch.setCell (F:=fun k=>k=g) (p:=⟨g,4,none⟩) ?_ (Or.inl rfl) _
 refine Touch.setCell (F:=fun k=>k=g) (p:=⟨g,3,none⟩) ?_ (Or.inl rfl) _
 refine Touch.setCell (F:=fun k=>k=g) (p:=⟨g,2,none⟩) ?_ (Or.inl rfl) _
 refine Touch.setCell (F:=fun k=>k=g) (p:=⟨g,1,none⟩) ?_ (Or.inl rfl) _
 refine Touch.setCell (F:=fun k=>k=g) (p:=⟨g,0,none⟩) ?_ (Or.inl rfl) _
 exact h.t
def but (X:Nat→Prop) (g:Nat):Nat→Prop:=fun k=>X k∧k≠g
structure EncOk (t:Int) (B:BV):Prop where
 known:knownB t=true
 may:mayB t B=true
 len:(layB t B).length≤65515
end Go.Proofs.YtldmkoogghemhaaGreat
