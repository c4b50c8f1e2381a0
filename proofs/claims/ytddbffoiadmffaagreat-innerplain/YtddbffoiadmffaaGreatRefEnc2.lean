import Derived.Test.YtddbffoiadmffaaGreatRefSum3
import Derived.Deep.DeepCutAuto
import Derived.Deep.RegionHeld2
import Derived.Deep.RegionHeld3
import Derived.Deep.LoopGhost
import Derived.Test.YtddbffoiadmffaaGreatOrdNewer
namespace Go.Proofs.YtddbffoiadmffaaGreat
set_option maxHeartbeats 8000000
open Go.RowKit
set_option linter.unusedVariables false
set_option maxRecDepth 100000
theorem Qlj (h:HV) (ok:h.All) (v:Value) (rs:List Int) (w:World) (hv:ArgAt w v rs) (hl:rs.length≤131072) :
  Calls Tryz.prog 133 #[h.sv v] w fun e w'=>∃u,e=.returned u∧Buf w w' u (headB h++rs):=by
 have OK:Hid h.All:=ok
 have HV:Hid (ArgAt w v rs):=hv
 clear ok hv
 show Calls Tryz.prog 133 #[.agg #[.int .u16 h.age,.int .u8 h.opts,.int .u8 h.typ,.int .u32 h.id,.int .u32 h.adv,.int .i32 h.seq,.int .u16 h.sum,.int .u16 h.len,v]] w _
 go_enter Tryz.func133,Tryz.ntmps133
 go_upto_region 1 with fail
 have K0:Hid (Sd (w.alloc (.cells #[.int .u16 h.age,.int .u8 h.opts,.int .u8 h.typ,.int .u32 h.id,.int .u32 h.adv,.int .i32 h.seq,.int .u16 h.sum,.int .u16 h.len,v] 57)) w.heap.size h v):=Sd.new w h v _
 have T0:Hid (Touch (fun _=>False) w (w.alloc (.cells #[.int .u16 h.age,.int .u8 h.opts,.int .u8 h.typ,.int .u32 h.id,.int .u32 h.adv,.int .i32 h.seq,.int .u16 h.sum,.int .u16 h.len,v] 57))):=(Touch.refl _ w).alloc _
 generalize w.alloc (.cells #[.int .u16 h.age,.int .u8 h.opts,.int .u8 h.typ,.int .u32 h.id,.int .u32 h.adv,.int .i32 h.seq,.int .u16 h.sum,.int .u16 h.len,v] 57)=wa at K0 T0 ⊢
 generalize w.heap.size=g at K0 ⊢
 obtain⟨⟨c0,c1,c2,c3,c4,c5,c6,c7⟩,c8⟩:=K0.out
 go_wp2_with fail
 refine Calls.mono (Qkt h OK.out _) ?_
 rintro e w1 ⟨v1,rfl,b1⟩
 clear c0 c1 c2 c3 c4 c5 c6 c7 c8
 have B1:Hid (Buf wa w1 v1 (headB h)):=b1
 have A1:Hid (ArgAt w1 v rs):=HV.out.keepN (T0.out.trans b1.t)
 obtain⟨⟨c0,c1,c2,c3,c4,c5,c6,c7⟩,c8⟩:=K0.out.keep b1.t
 clear b1
 go_wp2_with (at_builtin;refine Qap rfl (.tmp 7) (.tmp 9) rfl wa _ _ rfl B1.out _ _ rfl A1.out (by rw [Qa1];omega) ?_)
 intro v2 w2 b2
 have B2:Hid (Buf wa w2 v2 (headB h++rs)):=b2
 clear b2 B1 A1 c0 c1 c2 c3 c4 c5 c6 c7 c8
 go_wp2_with fail
 go_ret
 exact⟨_,rfl,B2.out.back T0.out⟩
theorem Qo5 (h:HV) (ok:h.All) (v:Value) (rs:List Int) (w:World) (hv:ArgAt w v rs) (hby:∀x∈rs,0≤x∧x<256) (hl:rs.length≤65515) :
  Calls Tryz.prog 94 #[h.sv v] w fun e w'=>∃u,e=.returned (.tuple #[(sealH h rs).sv u,.int .i64 0])∧Buf w w' u rs:=by
 obtain⟨va,vc,rfl,-⟩:=hv.form
 have OK:Hid h.All:=ok
 have HVV:Hid (ArgAt w (.slice va rs.length vc) rs):=hv
 have HBY:Hid (∀x∈rs,0≤x∧x<256):=hby
 have HSH:Hid (sealH h rs={ h with len:=20+(rs.length:Int),sum:=sealS h rs }):=rfl
 clear ok hv hby
 have h1:¬(65535:Int)<(rs.length:Int)+20:=by omega
 show Calls Tryz.prog 94 #[.agg #[.int .u16 h.age,.int .u8 h.opts,.int .u8 h.typ,.int .u32 h.id,.int .u32 h.adv,.int .i32 h.seq,.int .u16 h.sum,.int .u16 h.len,.slice va rs.length vc]] w _
 go_enter Tryz.func94,Tryz.ntmps94
 go_upto_region 4 with fail
 have z1:(w.alloc (.cells #[.int .u16 h.age,.int .u8 h.opts,.int .u8 h.typ,.int .u32 h.id,.int .u32 h.adv,.int .i32 h.seq,.int .u16 h.sum,.int .u16 h.len,.slice va rs.length vc] 57)).heap.size=w.heap.size+1:=by simp [go_sem]
 have z2:((w.alloc (.cells #[.int .u16 h.age,.int .u8 h.opts,.int .u8 h.typ,.int .u32 h.id,.int .u32 h.adv,.int .i32 h.seq,.int .u16 h.sum,.int .u16 h.len,.slice va rs.length vc] 57)).alloc (.cells #[.int .u16 0,.int .u8 0,.int .u8 0,.int .u32 0,.int .u32 0,.int .i32 0,.int .u16 0,.int .u16 0,.slice none 0 0] 57)).heap.size=w.heap.size+1+1:=by simp [go_sem]
 have z3:(((w.alloc (.cells #[.int .u16 h.age,.int .u8 h.opts,.int .u8 h.typ,.int .u32 h.id,.int .u32 h.adv,.int .i32 h.seq,.int .u16 h.sum,.int .u16 h.len,.slice va rs.length vc] 57)).alloc (.cells #[.int .u16 0,.int .u8 0,.int .u8 0,.int .u32 0,.int .u32 0,.int .i32 0,.int .u16 0,.int .u16 0,.slice none 0 0] 57)).alloc (.cells #[.int .u16 h.age,.int .u8 h.opts,.int .u8 h.typ,.int .u32 h.id,.int .u32 h.adv,.int .i32 h.seq,.int .u16 h.sum,.int .u16 h.len,.slice none 0 0] 57)).heap.size=w.heap.size+1+1+1:=by simp [go_sem]
 have K0:Hid (Sd (((w.alloc (.cells #[.int .u16 h.age,.int .u8 h.opts,.int .u8 h.typ,.int .u32 h.id,.int .u32 h.adv,.int .i32 h.seq,.int .u16 h.sum,.int .u16 h.len,.slice va rs.length vc] 57)).alloc (.cells #[.int .u16 0,.int .u8 0,.int .u8 0,.int .u32 0,.int .u32 0,.int .i32 0,.int .u16 0,.int .u16 0,.slice none 0 0] 57)).alloc (.cells #[.int .u16 h.age,.int .u8 h.opts,.int .u8 h.typ,.int .u32 h.id,.int .u32 h.adv,.int .i32 h.seq,.int .u16 h.sum,.int .u16 h.len,.slice none 0 0] 57)) w.heap.size h (.slice va rs.length vc)):=(Sd.new w h _ _).keep (((Touch.refl _ _).alloc _).alloc _)
 have R0:Hid (Out (((w.alloc (.cells #[.int .u16 h.age,.int .u8 h.opts,.int .u8 h.typ,.int .u32 h.id,.int .u32 h.adv,.int .i32 h.seq,.int .u16 h.sum,.int .u16 h.len,.slice va rs.length vc] 57)).alloc (.cells #[.int .u16 0,.int .u8 0,.int .u8 0,.int .u32 0,.int .u32 0,.int .i32 0,.int .u16 0,.int .u16 0,.slice none 0 0] 57)).alloc (.cells #[.int .u16 h.age,.int .u8 h.opts,.int .u8 h.typ,.int .u32 h.id,.int .u32 h.adv,.int .i32 h.seq,.int .u16 h.sum,.int .u16 h.len,.slice none 0 0] 57)) (w.heap.size+1) HV.zero (.slice none 0 0)):=z1 ▸ (Out.new (w.alloc (.cells #[.int .u16 h.age,.int .u8 h.opts,.int .u8 h.typ,.int .u32 h.id,.int .u32 h.adv,.int .i32 h.seq,.int .u16 h.sum,.int .u16 h.len,.slice va rs.length vc] 57)) HV.zero _ _).keep ((Touch.refl _ _).alloc _)
 have O0:Hid (Out (((w.alloc (.cells #[.int .u16 h.age,.int .u8 h.opts,.int .u8 h.typ,.int .u32 h.id,.int .u32 h.adv,.int .i32 h.seq,.int .u16 h.sum,.int .u16 h.len,.slice va rs.length vc] 57)).alloc (.cells #[.int .u16 0,.int .u8 0,.int .u8 0,.int .u32 0,.int .u32 0,.int .i32 0,.int .u16 0,.int .u16 0,.slice none 0 0] 57)).alloc (.cells #[.int .u16 h.age,.int .u8 h.opts,.int .u8 h.typ,.int .u32 h.id,.int .u32 h.adv,.int .i32 h.seq,.int .u16 h.sum,.int .u16 h.len,.slice none 0 0] 57)) (w.heap.size+1+1) h (.slice none 0 0)):=z2 ▸ Out.new ((w.alloc (.cells #[.int .u16 h.age,.int .u8 h.opts,.int .u8 h.typ,.int .u32 h.id,.int .u32 h.adv,.int .i32 h.seq,.int .u16 h.sum,.int .u16 h.len,.slice va rs.length vc] 57)).alloc (.cells #[.int .u16 0,.int .u8 0,.int .u8 0,.int .u32 0,.int .u32 0,.int .i32 0,.int .u16 0,.int .u16 0,.slice none 0 0] 57)) h _ _
 have T0:Hid (Touch (fun _=>False) w (((w.alloc (.cells #[.int .u16 h.age,.int .u8 h.opts,.int .u8 h.typ,.int .u32 h.id,.int .u32 h.adv,.int .i32 h.seq,.int .u16 h.sum,.int .u16 h.len,.slice va rs.length vc] 57)).alloc (.cells #[.int .u16 0,.int .u8 0,.int .u8 0,.int .u32 0,.int .u32 0,.int .i32 0,.int .u16 0,.int .u16 0,.slice none 0 0] 57)).alloc (.cells #[.int .u16 h.age,.int .u8 h.opts,.int .u8 h.typ,.int .u32 h.id,.int .u32 h.adv,.int .i32 h.seq,.int .u16 h.sum,.int .u16 h.len,.slice none 0 0] 57))):=(((Touch.refl _ _).alloc _).alloc _).alloc _
 have Z3:Hid ((((w.alloc (.cells #[.int .u16 h.age,.int .u8 h.opts,.int .u8 h.typ,.int .u32 h.id,.int .u32 h.adv,.int .i32 h.seq,.int .u16 h.sum,.int .u16 h.len,.slice va rs.length vc] 57)).alloc (.cells #[.int .u16 0,.int .u8 0,.int .u8 0,.int .u32 0,.int .u32 0,.int .i32 0,.int .u16 0,.int .u16 0,.slice none 0 0] 57)).alloc (.cells #[.int .u16 h.age,.int .u8 h.opts,.int .u8 h.typ,.int .u32 h.id,.int .u32 h.adv,.int .i32 h.seq,.int .u16 h.sum,.int .u16 h.len,.slice none 0 0] 57)).heap.size=w.heap.size+1+1+1):=z3
 clear z1 z2 z3
 generalize ((w.alloc (.cells #[.int .u16 h.age,.int .u8 h.opts,.int .u8 h.typ,.int .u32 h.id,.int .u32 h.adv,.int .i32 h.seq,.int .u16 h.sum,.int .u16 h.len,.slice va rs.length vc] 57)).alloc (.cells #[.int .u16 0,.int .u8 0,.int .u8 0,.int .u32 0,.int .u32 0,.int .i32 0,.int .u16 0,.int .u16 0,.slice none 0 0] 57)).alloc (.cells #[.int .u16 h.age,.int .u8 h.opts,.int .u8 h.typ,.int .u32 h.id,.int .u32 h.adv,.int .i32 h.seq,.int .u16 h.sum,.int .u16 h.len,.slice none 0 0] 57)=wa at K0 R0 O0 T0 Z3 ⊢
 obtain⟨g1,hg1⟩:∃g,w.heap.size=g:=⟨_,rfl⟩
 have HG1:Hid (w.heap.size=g1):=hg1
 rw [hg1] at K0 R0 O0 Z3 ⊢
 clear hg1
 have hne:Hid (g1+1≠g1+1+1):=by show _≠_;omega
 have A0:Hid (ArgAt wa (.slice va rs.length vc) rs):=HVV.out.keepN T0.out
 have N0:Hid (Buf wa wa (.slice none 0 0) []):=Buf.nil (Touch.refl _ _)
 obtain⟨⟨s0,s1,s2,s3,s4,s5,s6,s7⟩,s8⟩:=K0.out
 obtain⟨⟨⟨c0,c1,c2,c3,c4,c5,c6,c7⟩,c8⟩,-⟩:=O0.out
 go_wp2_with (at_builtin;refine Qap rfl (.tmp 18) (.tmp 20) rfl wa _ _ rfl N0.out _ _ rfl A0.out (by simp;omega) ?_)
 intro v1 w1 b0
 have b1:Buf wa w1 v1 rs:=b0
 clear b0
 obtain⟨ua,uc,rfl⟩:=b1.form
 clear s0 s1 s2 s3 s4 s5 s6 s7 s8 c0 c1 c2 c3 c4 c5 c6 c7 c8
 have B1:Hid (Buf wa w1 (.slice ua rs.length uc) rs):=b1
 have O1:Hid (Out w1 (g1+1+1) h (.slice none 0 0)):=O0.out.keep b1.t
 have R1:Hid (Out w1 (g1+1) HV.zero (.slice none 0 0)):=R0.out.keep b1.t
 obtain⟨⟨s0,s1,s2,s3,s4,s5,s6,s7⟩,s8⟩:=K0.out.keep b1.t
 obtain⟨⟨⟨c0,c1,c2,c3,c4,c5,c6,c7⟩,c8⟩,fz⟩:=O1.out
 have f7:=fz 7 (by omega)
 have f8:=fz 8 (by omega)
 have e1:wrap64 (20+(rs.length:Int))=20+(rs.length:Int):=by unfold wrap64;omega
 have e2:(20+(rs.length:Int))%65536=20+(rs.length:Int):=by omega
 have HL:Hid (rs.length≤65515):=hl
 clear fz b1 N0 A0 hl h1
 go_upto_region 6 with fail
 clear s0 s1 s2 s3 s4 s5 s6 s7 s8 c0 c1 c2 c3 c4 c5 c6 c7 c8 f7 f8 e1 e2
 have O2:Hid (Out ((w1.setCell ⟨g1+1+1,8,none⟩ (.slice ua rs.length uc)).setCell ⟨g1+1+1,7,none⟩ (.int .u16 (20+(rs.length:Int)))) (g1+1+1) { h with len:=20+(rs.length:Int) } (.slice ua rs.length uc)):=(O1.out.set8 _).set7 _
 have R2:Hid (Out ((w1.setCell ⟨g1+1+1,8,none⟩ (.slice ua rs.length uc)).setCell ⟨g1+1+1,7,none⟩ (.int .u16 (20+(rs.length:Int)))) (g1+1) HV.zero (.slice none 0 0)):=(R1.out.other (fun e=>hne.out e.symm) _).other (fun e=>hne.out e.symm) _
 have W2o:Hid (((w1.setCell ⟨g1+1+1,8,none⟩ (.slice ua rs.length uc)).setCell ⟨g1+1+1,7,none⟩ (.int .u16 (20+(rs.length:Int)))).ownsRow wa.heap.size 5 1 (.slice ua rs.length uc) rs.length (bytesOf rs)):=Qa0 (Qa0 B1.out.own (by have:=Z3.out;show g1+1+1<_;omega) _) (by have:=Z3.out;show g1+1+1<_;omega) _
 have T2:Hid (Touch (fun _=>False) w ((w1.setCell ⟨g1+1+1,8,none⟩ (.slice ua rs.length uc)).setCell ⟨g1+1+1,7,none⟩ (.int .u16 (20+(rs.length:Int))))):=((T0.out.trans B1.out.t).setCell (Or.inr (by have:=HG1.out;show _≤g1+1+1;omega)) _).setCell (Or.inr (by have:=HG1.out;show _≤g1+1+1;omega)) _
 clear O1 R1 B1 K0 O0 R0
 generalize (w1.setCell ⟨g1+1+1,8,none⟩ (.slice ua rs.length uc)).setCell ⟨g1+1+1,7,none⟩ (.int .u16 (20+(rs.length:Int)))=w2 at O2 R2 W2o T2 ⊢
 have OKN:Hid (HV.All { h with len:=20+(rs.length:Int) }):=⟨OK.out.a,OK.out.o,OK.out.t,OK.out.i,OK.out.v,OK.out.s,OK.out.m,by have:=HL.out;show 0≤20+(rs.length:Int)∧20+(rs.length:Int)<65536;omega⟩
 obtain⟨⟨⟨c0,c1,c2,c3,c4,c5,c6,c7⟩,c8⟩,-⟩:=O2.out
 dsimp only at c0 c1 c2 c3 c4 c5 c6 c7
 go_wp2_with fail
 refine Calls.mono (Qlj { h with len:=20+(rs.length:Int) } OKN.out (.slice ua rs.length uc) rs _ (Qcv W2o.out).arg (by have:=HL.out;omega)) ?_
 rintro e w3 ⟨v3,rfl,b3⟩
 clear c0 c1 c2 c3 c4 c5 c6 c7 c8
 have O3:Hid (Out w3 (g1+1+1) { h with len:=20+(rs.length:Int) } (.slice ua rs.length uc)):=O2.out.keep b3.t
 have R3:Hid (Out w3 (g1+1) HV.zero (.slice none 0 0)):=R2.out.keep b3.t
 have W3o:Hid (w3.ownsRow wa.heap.size 5 1 (.slice ua rs.length uc) rs.length (bytesOf rs)):=Qab W2o.out b3.t (fun _ _ h=>h)
 have T3:Hid (Touch (fun _=>False) w w3):=T2.out.trans b3.t
 obtain⟨xa,xc,rfl⟩:=b3.form
 have hxl:(headB { h with len:=20+(rs.length:Int) }++rs).length=20+rs.length:=by rw [List.length_append,Qa1]
 obtain⟨u,hu,hua⟩:=Qc0 b3.arg rfl (by rw [hxl];omega) 2 (by rw [hxl];omega)
 have HUA:Hid (ArgAt w3 u ((headB { h with len:=20+(rs.length:Int) }++rs).drop 2)):=hua
 have hby2:∀x∈(headB { h with len:=20+(rs.length:Int) }++rs).drop 2,0≤x∧x<256:=fun x hx=>by
  rcases List.mem_append.1 (List.mem_of_mem_drop hx) with h' | h'
  ·exact Qbj OKN.out x h'
  ·exact HBY.out x h'
 have HF:=Qf4 u ((headB { h with len:=20+(rs.length:Int) }++rs).drop 2) 14 w3 hua hby2 (by have:=HL.out;rw [List.length_drop,hxl];omega) (by rw [List.length_drop,hxl];omega)
 replace hu:∀w,Sem.run Tryz.prog (Instr.slice 55 (.slice xa (headB { h with len:=20+(rs.length:Int) }++rs).length xc) (some (.int .i64 2)) none none) w=.ok u w:=hu
 rw [hxl] at hu ⊢
 have HSS:Hid (256*flx ((headB { h with len:=20+(rs.length:Int) }++rs).drop 2) 14+fly ((headB { h with len:=20+(rs.length:Int) }++rs).drop 2) 14=sealS h rs):=rfl
 rw [HSS.out] at HF
 clear hua hby2 hxl b3 HUA O2 R2 W2o T2 HSS
 obtain⟨⟨⟨c0,c1,c2,c3,c4,c5,c6,c7⟩,c8⟩,fz⟩:=O3.out
 dsimp only at c0 c1 c2 c3 c4 c5 c6 c7
 have f6:=fz 6 (by omega)
 clear fz
 go_wp2_with fail
 refine Calls.mono HF ?_
 rintro e w4 ⟨rfl,rfl⟩
 clear HF hu
 go_upto_region 9 with fail
 clear c0 c1 c2 c3 c4 c5 c6 c7 c8 f6
 have O4:Hid (Out (w3.setCell ⟨g1+1+1,6,none⟩ (.int .u16 (sealS h rs))) (g1+1+1) (sealH h rs) (.slice ua rs.length uc)):=O3.out.set6 _
 have R4:Hid (Out (w3.setCell ⟨g1+1+1,6,none⟩ (.int .u16 (sealS h rs))) (g1+1) HV.zero (.slice none 0 0)):=R3.out.other (fun e=>hne.out e.symm) _
 have W4o:Hid ((w3.setCell ⟨g1+1+1,6,none⟩ (.int .u16 (sealS h rs))).ownsRow wa.heap.size 5 1 (.slice ua rs.length uc) rs.length (bytesOf rs)):=Qa0 W3o.out (by have:=Z3.out;show g1+1+1<_;omega) _
 have T4:Hid (Touch (fun _=>False) w (w3.setCell ⟨g1+1+1,6,none⟩ (.int .u16 (sealS h rs)))):=T3.out.setCell (Or.inr (by have:=HG1.out;show _≤g1+1+1;omega)) _
 clear O3 R3 W3o T3
 generalize w3.setCell ⟨g1+1+1,6,none⟩ (.int .u16 (sealS h rs))=w4 at O4 R4 W4o T4 ⊢
 obtain⟨hh,hhh⟩:∃x,sealH h rs=x:=⟨_,rfl⟩
 have HHH:Hid (sealH h rs=hh):=hhh
 rw [hhh] at O4
 clear hhh
 obtain⟨⟨⟨c0,c1,c2,c3,c4,c5,c6,c7⟩,c8⟩,-⟩:=O4.out
 obtain⟨⟨⟨r0,r1,r2,r3,r4,r5,r6,r7⟩,r8⟩,fr⟩:=R4.out
 have q0:=fr 0 (by omega)
 have q1:=fr 1 (by omega)
 have q2:=fr 2 (by omega)
 have q3:=fr 3 (by omega)
 have q4:=fr 4 (by omega)
 have q5:=fr 5 (by omega)
 have q6:=fr 6 (by omega)
 have q7:=fr 7 (by omega)
 have q8:=fr 8 (by omega)
 clear fr
 go_wp2_with fail
 refine bodyPost_ret (v:=.tuple #[hh.sv (.slice ua rs.length uc),.int .i64 0]) (by simp [results,Tryz.results94,go_sem,HV.sv,r0,r1,r2,r3,r4,r5,r6,r7,r8]) rfl ⟨.slice ua rs.length uc,by rw [HHH.out],?_⟩
 have hlt:g1+1<wa.heap.size:=by have:=Z3.out;omega
 have hge:False∨w.heap.size≤g1+1:=Or.inr (by have:=HG1.out;omega)
 exact⟨Qao (Qa0 (Qa0 (Qa0 (Qa0 (Qa0 (Qa0 (Qa0 (Qa0 (Qa0 (W4o.out) hlt _) hlt _) hlt _) hlt _) hlt _) hlt _) hlt _) hlt _) hlt _) (by have:=T0.out.size;omega),(((((((((T4.out).setCell hge _).setCell hge _).setCell hge _).setCell hge _).setCell hge _).setCell hge _).setCell hge _).setCell hge _).setCell hge _⟩
theorem Qir (t:Int) (b:BV) (h1:b.links.length≤8192) (h2:b.routers.length≤32768) (h3:b.data.length≤131072):0≤sizeB t b∧sizeB t b≤1000000:=by
 unfold sizeB
 split
 ·omega
 ·split
  ·omega
  ·split
   ·omega
   ·split <;> omega
structure SinceF (x:World) (g:Nat) (w:World):Prop where
 t:Touch (fun k=>k=g) x w
theorem SinceF.trans {x w w':World} {g:Nat} (h:SinceF x g w) (t:Touch (fun _=>False) w w'):SinceF x g w':=⟨h.t.trans (t.mono (fun _ _ h=>h.elim))⟩
theorem SinceF.start (x:World) (g:Nat):SinceF x g x.drew:=⟨(Touch.refl _ _).drew⟩
theorem Qan {x:World} {g b o:Nat} {v:Value} (hne:b≠g) (h:x.cell? ⟨b,o,none⟩=some v):∀w,SinceF x g w→w.cell? ⟨b,o,none⟩=some v:=fun w s=>(s.t.cell (p:=⟨b,o,none⟩) (Qaa h) hne).trans h
theorem SinceF.set9 {x w:World} {g:Nat} (h:SinceF x g w) (u0 u1 u2 u3 u4 u5 u6 u7 u8:Value):SinceF x g (((((((((w.setCell ⟨g,0,none⟩ u0).setCell ⟨g,1,none⟩ u1).setCell ⟨g,2,none⟩ u2).setCell ⟨g,3,none⟩ u3).setCell ⟨g,4,none⟩ u4).setCell ⟨g,5,none⟩ u5).setCell ⟨g,6,none⟩ u6).setCell ⟨g,7,none⟩ u7).setCell ⟨g,8,none⟩ u8):=by
 constructor
 refine Touch.setCell (F:=fun k=>k=g) (p:=⟨g,8,none⟩) ?_ (Or.inl rfl) _
 refine Touch.setCell (F:=fun k=>k=g) (p:=⟨g,7,none⟩) ?_ (Or.inl rfl) _
 refine Touch.setCell (F:=fun k=>k=g) (p:=⟨g,6,none⟩) ?_ (Or.inl rfl) _
 refine Touch.setCell (F:=fun k=>k=g) (p:=⟨g,5,none⟩) ?_ (Or.inl rfl) _
 refine Touch.setCell (F:=fun k=>k=g) (p:=⟨g,4,none⟩) ?_ (Or.inl rfl) _
 refine Touch.setCell (F:=fun k=>k=g) (p:=⟨g,3,none⟩) ?_ (Or.inl rfl) _
 refine Touch.setCell (F:=fun k=>k=g) (p:=⟨g,2,none⟩) ?_ (Or.inl rfl) _
 refine Touch.setCell (F:=fun k=>k=g) (p:=⟨g,1,none⟩) ?_ (Or.inl rfl) _
 refine Touch.setCell (F:=fun k=>k=g) (p:=⟨g,0,none⟩) ?_ (Or.inl rfl) _
 exact h.t
def but (X:Nat→Prop) (g:Nat):Nat→Prop:=fun k=>X k∧k≠g
structure EncOk (t:Int) (B:BV):Prop where
 known:knownB t=true
 may:mayB t B=true
 len:(layB t B).length≤65515
theorem Qhx (l:List LV) (h:∀x∈l,x.Ok):∀z∈linksB l,0≤z∧z<256:=by
 intro z hz
 simp only [linksB,List.mem_flatMap] at hz
 obtain⟨x,hx,hz⟩:=hz
 have ox:=(h x hx).t
 simp only [linkB,List.mem_append,List.mem_cons,List.not_mem_nil,or_false] at hz
 rcases hz with ((hz|hz)|hz)|hz
 ·exact Qam _ _ z hz
 ·exact Qam _ _ z hz
 ·rcases hz with rfl|rfl <;> omega
 ·exact Qam _ _ z hz
theorem Qfy (t:Int) (b:BV) (ok:b.Ok):∀z∈layB t b,0≤z∧z<256:=by
 intro z hz
 have of:=ok.f
 unfold layB at hz
 split at hz
 ·simp only [List.mem_append,List.mem_cons,List.not_mem_nil,or_false] at hz
  rcases hz with (hz|hz)|hz
  ·rcases hz with rfl|rfl <;> omega
  ·exact Qam _ _ z hz
  ·exact Qhx _ ok.l z hz
 ·split at hz
  ·rcases List.mem_append.1 hz with hz|hz
   ·exact Qam _ _ z hz
   ·simp only [routersB,List.mem_flatMap] at hz
    obtain⟨x,_,hz⟩:=hz
    exact Qam _ _ z hz
  ·split at hz
   ·rcases List.mem_append.1 hz with hz|hz <;> exact Qam _ _ z hz
   ·split at hz
    ·simp only [List.mem_append] at hz
     rcases hz with ((hz|hz)|hz)|hz <;> exact Qam _ _ z hz
    ·exact ok.d z hz
theorem Qfx (h:HV) (oh:h.All) (b:BV) (ok:b.Ok) (vl vr vd:Value) (w:World) (ha:BArg w b vl vr vd) (hb1:b.links.length≤8192) (hb2:b.routers.length≤32768) (hb3:b.data.length≤131072) (hk:knownB h.typ=true) (hm:mayB h.typ b=true) (hs:sizeB h.typ b≤65515) :
  Calls Tryz.prog 50 #[h.v,b.v vl vr vd] w fun e w'=>∃u,e=.returned (.tuple #[(sealH h (layB h.typ b)).sv u,.int .i64 0])∧Buf w w' u (layB h.typ b):=by
 obtain⟨al,cl,rfl,-⟩:=ValsAt.form ha.l
 obtain⟨ar,cr,rfl,-⟩:=ValsAt.form ha.r
 obtain⟨ad,cd,rfl,-⟩:=ArgAt.form ha.d
 have OH:Hid h.All:=oh
 have OB:Hid b.Ok:=ok
 have HA:Hid (BArg w b (.slice al b.links.length cl) (.slice ar b.routers.length cr) (.slice ad b.data.length cd)):=ha
 have HB:Hid (b.links.length≤8192∧b.routers.length≤32768∧b.data.length≤131072):=⟨hb1,hb2,hb3⟩
 have hb3':b.data.length≤131072:=hb3
 clear oh ok ha hb1 hb2 hb3
 have HKN:=fun w=>Qlb h.typ OH.out.t.1 w
 rw [hk] at HKN
 have HK:Hid (knownB h.typ=true):=hk
 have HM:Hid (mayB h.typ b=true):=hm
 clear hk hm
 have hs0:wrap64 (sizeB h.typ b+20)=sizeB h.typ b+20:=by have:=Qir h.typ b HB.out.1 HB.out.2.1 HB.out.2.2;unfold wrap64;omega
 have hs1:¬(65535:Int)<sizeB h.typ b+20:=by omega
 have HS:Hid (sizeB h.typ b≤65515):=hs
 clear hs
 show Calls Tryz.prog 50 #[.agg #[.int .u16 h.age,.int .u8 h.opts,.int .u8 h.typ,.int .u32 h.id,.int .u32 h.adv,.int .i32 h.seq,.int .u16 h.sum,.int .u16 h.len],.agg #[.int .u8 b.flags,.slice al b.links.length cl,.int .u32 b.mask,.slice ar b.routers.length cr,.int .u32 b.metric,.bool b.type2,.int .u32 b.fwd,.int .u32 b.tag,.slice ad b.data.length cd]] w _
 go_enter Tryz.func50,Tryz.ntmps50
 go_upto_region 1 with fail
 have z1:(w.alloc (.cells #[.int .u16 h.age,.int .u8 h.opts,.int .u8 h.typ,.int .u32 h.id,.int .u32 h.adv,.int .i32 h.seq,.int .u16 h.sum,.int .u16 h.len] 54)).heap.size=w.heap.size+1:=by simp [go_sem]
 have z2:((w.alloc (.cells #[.int .u16 h.age,.int .u8 h.opts,.int .u8 h.typ,.int .u32 h.id,.int .u32 h.adv,.int .i32 h.seq,.int .u16 h.sum,.int .u16 h.len] 54)).alloc (.cells #[.int .u8 b.flags,.slice al b.links.length cl,.int .u32 b.mask,.slice ar b.routers.length cr,.int .u32 b.metric,.bool b.type2,.int .u32 b.fwd,.int .u32 b.tag,.slice ad b.data.length cd] 119)).heap.size=w.heap.size+1+1:=by simp [go_sem]
 have Z3:Hid ((((w.alloc (.cells #[.int .u16 h.age,.int .u8 h.opts,.int .u8 h.typ,.int .u32 h.id,.int .u32 h.adv,.int .i32 h.seq,.int .u16 h.sum,.int .u16 h.len] 54)).alloc (.cells #[.int .u8 b.flags,.slice al b.links.length cl,.int .u32 b.mask,.slice ar b.routers.length cr,.int .u32 b.metric,.bool b.type2,.int .u32 b.fwd,.int .u32 b.tag,.slice ad b.data.length cd] 119)).alloc (.cells #[.int .u16 0,.int .u8 0,.int .u8 0,.int .u32 0,.int .u32 0,.int .i32 0,.int .u16 0,.int .u16 0,.slice none 0 0] 57)).heap.size=w.heap.size+1+1+1):=by show _=_;simp [go_sem]
 have K0:Hid (Hd (((w.alloc (.cells #[.int .u16 h.age,.int .u8 h.opts,.int .u8 h.typ,.int .u32 h.id,.int .u32 h.adv,.int .i32 h.seq,.int .u16 h.sum,.int .u16 h.len] 54)).alloc (.cells #[.int .u8 b.flags,.slice al b.links.length cl,.int .u32 b.mask,.slice ar b.routers.length cr,.int .u32 b.metric,.bool b.type2,.int .u32 b.fwd,.int .u32 b.tag,.slice ad b.data.length cd] 119)).alloc (.cells #[.int .u16 0,.int .u8 0,.int .u8 0,.int .u32 0,.int .u32 0,.int .i32 0,.int .u16 0,.int .u16 0,.slice none 0 0] 57)) w.heap.size h):=(Hd.new w h _).keep (((Touch.refl _ _).alloc _).alloc _)
 have D0:Hid (Bd (((w.alloc (.cells #[.int .u16 h.age,.int .u8 h.opts,.int .u8 h.typ,.int .u32 h.id,.int .u32 h.adv,.int .i32 h.seq,.int .u16 h.sum,.int .u16 h.len] 54)).alloc (.cells #[.int .u8 b.flags,.slice al b.links.length cl,.int .u32 b.mask,.slice ar b.routers.length cr,.int .u32 b.metric,.bool b.type2,.int .u32 b.fwd,.int .u32 b.tag,.slice ad b.data.length cd] 119)).alloc (.cells #[.int .u16 0,.int .u8 0,.int .u8 0,.int .u32 0,.int .u32 0,.int .i32 0,.int .u16 0,.int .u16 0,.slice none 0 0] 57)) (w.heap.size+1) b (.slice al b.links.length cl) (.slice ar b.routers.length cr) (.slice ad b.data.length cd)):=z1 ▸ (Bd.new (w.alloc (.cells #[.int .u16 h.age,.int .u8 h.opts,.int .u8 h.typ,.int .u32 h.id,.int .u32 h.adv,.int .i32 h.seq,.int .u16 h.sum,.int .u16 h.len] 54)) b _ _ _ _).keep ((Touch.refl _ _).alloc _)
 have R0:Hid (Out (((w.alloc (.cells #[.int .u16 h.age,.int .u8 h.opts,.int .u8 h.typ,.int .u32 h.id,.int .u32 h.adv,.int .i32 h.seq,.int .u16 h.sum,.int .u16 h.len] 54)).alloc (.cells #[.int .u8 b.flags,.slice al b.links.length cl,.int .u32 b.mask,.slice ar b.routers.length cr,.int .u32 b.metric,.bool b.type2,.int .u32 b.fwd,.int .u32 b.tag,.slice ad b.data.length cd] 119)).alloc (.cells #[.int .u16 0,.int .u8 0,.int .u8 0,.int .u32 0,.int .u32 0,.int .i32 0,.int .u16 0,.int .u16 0,.slice none 0 0] 57)) (w.heap.size+1+1) HV.zero (.slice none 0 0)):=z2 ▸ Out.new ((w.alloc (.cells #[.int .u16 h.age,.int .u8 h.opts,.int .u8 h.typ,.int .u32 h.id,.int .u32 h.adv,.int .i32 h.seq,.int .u16 h.sum,.int .u16 h.len] 54)).alloc (.cells #[.int .u8 b.flags,.slice al b.links.length cl,.int .u32 b.mask,.slice ar b.routers.length cr,.int .u32 b.metric,.bool b.type2,.int .u32 b.fwd,.int .u32 b.tag,.slice ad b.data.length cd] 119)) HV.zero _ _
 have T0:Hid (Touch (fun _=>False) w (((w.alloc (.cells #[.int .u16 h.age,.int .u8 h.opts,.int .u8 h.typ,.int .u32 h.id,.int .u32 h.adv,.int .i32 h.seq,.int .u16 h.sum,.int .u16 h.len] 54)).alloc (.cells #[.int .u8 b.flags,.slice al b.links.length cl,.int .u32 b.mask,.slice ar b.routers.length cr,.int .u32 b.metric,.bool b.type2,.int .u32 b.fwd,.int .u32 b.tag,.slice ad b.data.length cd] 119)).alloc (.cells #[.int .u16 0,.int .u8 0,.int .u8 0,.int .u32 0,.int .u32 0,.int .i32 0,.int .u16 0,.int .u16 0,.slice none 0 0] 57))):=(((Touch.refl _ _).alloc _).alloc _).alloc _
 clear z1 z2
 generalize ((w.alloc (.cells #[.int .u16 h.age,.int .u8 h.opts,.int .u8 h.typ,.int .u32 h.id,.int .u32 h.adv,.int .i32 h.seq,.int .u16 h.sum,.int .u16 h.len] 54)).alloc (.cells #[.int .u8 b.flags,.slice al b.links.length cl,.int .u32 b.mask,.slice ar b.routers.length cr,.int .u32 b.metric,.bool b.type2,.int .u32 b.fwd,.int .u32 b.tag,.slice ad b.data.length cd] 119)).alloc (.cells #[.int .u16 0,.int .u8 0,.int .u8 0,.int .u32 0,.int .u32 0,.int .i32 0,.int .u16 0,.int .u16 0,.slice none 0 0] 57)=wa at K0 D0 R0 T0 Z3 ⊢
 obtain⟨g1,hg1⟩:∃g,w.heap.size=g:=⟨_,rfl⟩
 have HG1:Hid (w.heap.size=g1):=hg1
 rw [hg1] at K0 D0 R0 Z3 ⊢
 clear hg1
 obtain⟨c0,c1,c2,c3,c4,c5,c6,c7⟩:=K0.out
 go_wp2_with fail
 refine Calls.mono (HKN _) ?_
 rintro e w1 ⟨rfl,rfl⟩
 clear HKN
 obtain⟨d0,d1,d2,d3,d4,d5,d6,d7,d8⟩:=D0.out
 go_wp2_with fail
 refine Calls.mono (Qom h.typ HK.out b (.slice al b.links.length cl) (.slice ar b.routers.length cr) (.slice ad b.data.length cd) _ (HA.out.keep T0.out) HB.out.1 HB.out.2.1 HB.out.2.2) ?_
 rw [HM.out]
 rintro e w2 ⟨rfl,t2⟩
 clear c0 c1 c2 c3 c4 c5 c6 c7 d0 d1 d2 d3 d4 d5 d6 d7 d8
 have K2:Hid (Hd w2 g1 h):=K0.out.keep t2
 have D2:Hid (Bd w2 (g1+1) b (.slice al b.links.length cl) (.slice ar b.routers.length cr) (.slice ad b.data.length cd)):=D0.out.keep t2
 have R2:Hid (Out w2 (g1+1+1) HV.zero (.slice none 0 0)):=R0.out.keep t2
 have T2:Hid (Touch (fun _=>False) w w2):=T0.out.trans t2
 clear t2 K0 D0 R0
 obtain⟨c0,c1,c2,c3,c4,c5,c6,c7⟩:=K2.out
 obtain⟨d0,d1,d2,d3,d4,d5,d6,d7,d8⟩:=D2.out
 go_wp2_with fail
 refine Calls.mono (Qn2 h.typ OH.out.t.1 OH.out.t.2 b OB.out (.slice al b.links.length cl) (.slice ar b.routers.length cr) (.slice ad b.data.length cd) _ (HA.out.keep T2.out) HB.out.1 HB.out.2.1 HB.out.2.2) ?_
 rintro e w3 ⟨rfl,t3⟩
 clear c0 c1 c2 c3 c4 c5 c6 c7 d0 d1 d2 d3 d4 d5 d6 d7 d8
 have K3:Hid (Hd w3 g1 h):=K2.out.keep t3
 have D3:Hid (Bd w3 (g1+1) b (.slice al b.links.length cl) (.slice ar b.routers.length cr) (.slice ad b.data.length cd)):=D2.out.keep t3
 have R3:Hid (Out w3 (g1+1+1) HV.zero (.slice none 0 0)):=R2.out.keep t3
 have T3:Hid (Touch (fun _=>False) w w3):=T2.out.trans t3
 clear t3 K2 D2 R2
 obtain⟨c0,c1,c2,c3,c4,c5,c6,c7⟩:=K3.out
 obtain⟨d0,d1,d2,d3,d4,d5,d6,d7,d8⟩:=D3.out
 go_upto_region 7 with fail
 clear hs0 hs1
 have HLL:Hid ((layB h.typ b).length≤65515):=by show _≤_;have:=Qbe h.typ b;have:=HS.out;omega
 have HLY:Hid (∀z∈layB h.typ b,0≤z∧z<256):=Qfy _ _ OB.out
 have HLA:=fun w' ha=>Qok h.typ HK.out b OB.out (.slice al b.links.length cl) (.slice ar b.routers.length cr) (.slice ad b.data.length cd) w' ha HB.out.1 HB.out.2.1 HB.out.2.2
 have HSE:=fun v w' (a:ArgAt w' v (layB h.typ b))=>Qo5 h OH.out v (layB h.typ b) w' a HLY.out HLL.out
 unfold BV.v at HLA
 unfold HV.sv sealH at HSE
 generalize hgr:g1+1+1=gr at *
 have HGR:Hid (g1+1+1=gr):=hgr
 have hn1:g1≠gr:=by omega
 have hn2:g1+1≠gr:=by omega
 clear hgr
 have c0':=Qan hn1 c0
 have c1':=Qan hn1 c1
 have c2':=Qan hn1 c2
 have c3':=Qan hn1 c3
 have c4':=Qan hn1 c4
 have c5':=Qan hn1 c5
 have c6':=Qan hn1 c6
 have c7':=Qan hn1 c7
 have d0':=Qan hn2 d0
 have d1':=Qan hn2 d1
 have d2':=Qan hn2 d2
 have d3':=Qan hn2 d3
 have d4':=Qan hn2 d4
 have d5':=Qan hn2 d5
 have d6':=Qan hn2 d6
 have d7':=Qan hn2 d7
 have d8':=Qan hn2 d8
 clear c0 c1 c2 c3 c4 c5 c6 c7 d0 d1 d2 d3 d4 d5 d6 d7 d8
 have st:SinceF w3 gr w3.drew:=SinceF.start w3 gr
 have A3:Hid (BArg w3.drew b (.slice al b.links.length cl) (.slice ar b.routers.length cr) (.slice ad b.data.length cd)):=HA.out.keep T3.out.drew
 have O3:Hid (Out w3.drew gr HV.zero (.slice none 0 0)):=R3.out.keep ((Touch.refl _ _).drew)
 have hZ3:Hid (w.heap.size≤w3.heap.size∧gr<w3.heap.size):=⟨T3.out.size,R3.out.lt⟩
 go_region_held3 (fun w'=>SinceF w3 gr w') (first|with_reducible assumption|with_reducible exact SinceF.set9 (by assumption) _ _ _ _ _ _ _ _ _) (first
  | (go_at_call 95;refine Calls.mono (HLA _ A3.out) ?_;rintro e w4 ⟨v4,rfl,b4⟩;obtain⟨va4,vc4,rfl⟩:=b4.form;have B4:Hid (Buf w3.drew w4 (.slice va4 (layB h.typ b).length vc4) (layB h.typ b)):=b4;have s4:=SinceF.trans (by assumption) b4.t;clear b4)
  | (go_at_call 94;refine Calls.mono (HSE _ _ B4.out.arg) ?_;rintro e w5 ⟨u5,rfl,b5⟩;obtain⟨va5,vc5,rfl⟩:=b5.form;have B5:Hid (Buf w4 w5 (.slice va5 (layB h.typ b).length vc5) (layB h.typ b)):=b5;have s5:=SinceF.trans (by assumption) b5.t;obtain⟨⟨⟨zc0,zc1,zc2,zc3,zc4,zc5,zc6,zc7⟩,zc8⟩,fr⟩:=(O3.out.keep B4.out.t).keep b5.t;have zf0:=fr 0 (by omega);have zf1:=fr 1 (by omega);have zf2:=fr 2 (by omega);have zf3:=fr 3 (by omega);have zf4:=fr 4 (by omega);have zf5:=fr 5 (by omega);have zf6:=fr 6 (by omega);have zf7:=fr 7 (by omega);have zf8:=fr 8 (by omega);clear fr b5))
 obtain⟨wz,hwz⟩:∃wz,wz=(((((((((w5.setCell ⟨gr,0,none⟩ (.int .u16 h.age)).setCell ⟨gr,1,none⟩ (.int .u8 h.opts)).setCell ⟨gr,2,none⟩ (.int .u8 h.typ)).setCell ⟨gr,3,none⟩ (.int .u32 h.id)).setCell ⟨gr,4,none⟩ (.int .u32 h.adv)).setCell ⟨gr,5,none⟩ (.int .i32 h.seq)).setCell ⟨gr,6,none⟩ (.int .u16 (sealS h (layB h.typ b)))).setCell ⟨gr,7,none⟩ (.int .u16 (20+((layB h.typ b).length:Int)))).setCell ⟨gr,8,none⟩ (.slice va5 (layB h.typ b).length vc5)):=⟨_,rfl⟩
 have zd0:wz.cell? ⟨gr,0,none⟩=some (.int .u16 h.age):=by rw [hwz];simp [zc0,go_sem]
 have zd1:wz.cell? ⟨gr,1,none⟩=some (.int .u8 h.opts):=by rw [hwz];simp [zc1,go_sem]
 have zd2:wz.cell? ⟨gr,2,none⟩=some (.int .u8 h.typ):=by rw [hwz];simp [zc2,go_sem]
 have zd3:wz.cell? ⟨gr,3,none⟩=some (.int .u32 h.id):=by rw [hwz];simp [zc3,go_sem]
 have zd4:wz.cell? ⟨gr,4,none⟩=some (.int .u32 h.adv):=by rw [hwz];simp [zc4,go_sem]
 have zd5:wz.cell? ⟨gr,5,none⟩=some (.int .i32 h.seq):=by rw [hwz];simp [zc5,go_sem]
 have zd6:wz.cell? ⟨gr,6,none⟩=some (.int .u16 (sealS h (layB h.typ b))):=by rw [hwz];simp [zc6,go_sem]
 have zd7:wz.cell? ⟨gr,7,none⟩=some (.int .u16 (20+((layB h.typ b).length:Int))):=by rw [hwz];simp [zc7,go_sem]
 have zd8:wz.cell? ⟨gr,8,none⟩=some (.slice va5 (layB h.typ b).length vc5):=by rw [hwz];simp [zc8,go_sem]
 have HUz:Hid (Touch (fun k=>k=gr) w5 wz):=by show Touch _ _ _;rw [hwz];refine Touch.setCell (F:=fun k=>k=gr) (p:=⟨gr,8,none⟩) ?_ (Or.inl rfl) _;refine Touch.setCell (F:=fun k=>k=gr) (p:=⟨gr,7,none⟩) ?_ (Or.inl rfl) _;refine Touch.setCell (F:=fun k=>k=gr) (p:=⟨gr,6,none⟩) ?_ (Or.inl rfl) _;refine Touch.setCell (F:=fun k=>k=gr) (p:=⟨gr,5,none⟩) ?_ (Or.inl rfl) _;refine Touch.setCell (F:=fun k=>k=gr) (p:=⟨gr,4,none⟩) ?_ (Or.inl rfl) _;refine Touch.setCell (F:=fun k=>k=gr) (p:=⟨gr,3,none⟩) ?_ (Or.inl rfl) _;refine Touch.setCell (F:=fun k=>k=gr) (p:=⟨gr,2,none⟩) ?_ (Or.inl rfl) _;refine Touch.setCell (F:=fun k=>k=gr) (p:=⟨gr,1,none⟩) ?_ (Or.inl rfl) _;refine Touch.setCell (F:=fun k=>k=gr) (p:=⟨gr,0,none⟩) ?_ (Or.inl rfl) _;exact Touch.refl _ _
 rw [←hwz]
 clear hwz zc0 zf0 zc1 zf1 zc2 zf2 zc3 zf3 zc4 zf4 zc5 zf5 zc6 zf6 zc7 zf7 zc8 zf8
 go_wp2_with fail
 refine bodyPost_ret (v:=.tuple #[.agg #[.int .u16 h.age,.int .u8 h.opts,.int .u8 h.typ,.int .u32 h.id,.int .u32 h.adv,.int .i32 h.seq,.int .u16 (sealS h (layB h.typ b)),.int .u16 (20+((layB h.typ b).length:Int)),.slice va5 (layB h.typ b).length vc5],.int .i64 0]) (by simp [results,Tryz.results50,go_sem,zd0,zd1,zd2,zd3,zd4,zd5,zd6,zd7,zd8]) rfl ?_
 refine⟨_,rfl,?_,?_⟩
 ·refine Qao (Qab B5.out.own HUz.out (fun k hk e=>by have h1:=(B5.out.own.lt k hk).1;have h2:=B4.out.t.size;have h3:=hZ3.out;have h4:w3.drew.heap.size=w3.heap.size:=rfl;omega)) ?_
  have h2:=B4.out.t.size;have h3:=hZ3.out;have h4:w3.drew.heap.size=w3.heap.size:=rfl;omega
 ·exact (((T3.out.drew.trans B4.out.t).trans B5.out.t)).trans' HUz.out (fun i hi e=>by have:=HGR.out;have:=HG1.out;omega)
end Go.Proofs.YtddbffoiadmffaaGreat
