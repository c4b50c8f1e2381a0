import Derived.Test.YtddbffoiadmffaaGreatStReadAny
import Derived.Deep.RegionHeld2
namespace Go.Proofs.YtddbffoiadmffaaGreat
set_option maxHeartbeats 8000000
open Go.RowKit
set_option linter.unusedVariables false
set_option maxRecDepth 100000
theorem Qif (b:Nat) (x e:Int) (w:World) (hc:w.cell? ⟨b,0,none⟩=some (.int .i64 x)) (hz:w.frozen? ⟨b,0,none⟩=false) :
  CallsD Tryz.prog 169 #[.pointer (some ⟨b,0,none⟩)] (.panicking (flawC e)) w fun r u' w' =>
   r=.returned (.tuple #[])∧u'=.panicking [{ v:=.iface 280 (.int .i64 e),recovered:=true }]∧w'=w.setCell ⟨b,0,none⟩ (.int .i64 e):=by
 refine callsD_of_wpS Tryz.func169 rfl fun c₀ cs hu=>?_
 apply wpS_seq
 apply wpS_region
 simp [wpOpsS,go_sem,recoverD,hu,flawC,Qt7,Tryz.ntmps169,Exit.thenS]
 apply wpS_seq
 apply wpS_region
 simp [wpOpsS,go_sem,Exit.thenS]
 refine wpS_cond (t:=true) (by simp [Act.eval,Array.replicate]) ?_
 simp only [if_true]
 apply wpS_region
 simp [wpOpsS,go_sem,hc,hz,bodyPostS,results,Tryz.results169]
theorem Qig (b:Nat) (w:World) :
  CallsD Tryz.prog 169 #[.pointer (some ⟨b,0,none⟩)] .returning w fun r u' w'=>r=.returned (.tuple #[])∧u'=.returning∧w'=w:=by
 refine callsD_of_wpS Tryz.func169 rfl fun c₀ cs hu=>?_
 apply wpS_seq
 apply wpS_region
 simp [wpOpsS,go_sem,recoverD,hu,Qvg,Tryz.ntmps169,Exit.thenS]
 apply wpS_seq
 apply wpS_region
 simp [wpOpsS,go_sem,Exit.thenS]
 refine wpS_cond (t:=false) (by simp [Act.eval,Array.replicate]) ?_
 simp only [Bool.false_eq_true,if_false]
 refine wpS_of_wp (wp_skip ?_)
 cases c₀
 simp_all [bodyPostS,results,Tryz.results169]
theorem Qkn (G:Nat) (cap:Array Value) (hG:∀w,(callFunc G cap).run Tryz.prog w=.ok (.enter G cap) w) (w:World) (x0 x2 x4 x6 x7:Int) (x5:Bool) (K:Value→Value→Value→World→Prop)
  (h:Calls Tryz.prog G cap ((w.alloc (.cells #[.int .u8 0,.slice none 0 0,.int .u32 0,.slice none 0 0,.int .u32 0,.bool false,.int .u32 0,.int .u32 0,.slice none 0 0] 119)).alloc (.cells #[.int .i64 0] 111)) fun e w'=>∃a1 n1 q1 a3 n3 q3 a8 n8 q8,e=.returned (.agg #[.int .u8 x0,.slice a1 n1 q1,.int .u32 x2,.slice a3 n3 q3,.int .u32 x4,.bool x5,.int .u32 x6,.int .u32 x7,.slice a8 n8 q8])∧Touch (fun _=>False) ((w.alloc (.cells #[.int .u8 0,.slice none 0 0,.int .u32 0,.slice none 0 0,.int .u32 0,.bool false,.int .u32 0,.int .u32 0,.slice none 0 0] 119)).alloc (.cells #[.int .i64 0] 111)) w'∧K (.slice a1 n1 q1) (.slice a3 n3 q3) (.slice a8 n8 q8) w')
  (hK:∀a1 n1 q1 a3 n3 q3 a8 n8 q8 w1 w2,K (.slice a1 n1 q1) (.slice a3 n3 q3) (.slice a8 n8 q8) w1→Touch (fun _=>False) ((w.alloc (.cells #[.int .u8 0,.slice none 0 0,.int .u32 0,.slice none 0 0,.int .u32 0,.bool false,.int .u32 0,.int .u32 0,.slice none 0 0] 119)).alloc (.cells #[.int .i64 0] 111)) w1→Touch (fun k=>k=w.heap.size∨k=w.heap.size+1) w1 w2→K (.slice a1 n1 q1) (.slice a3 n3 q3) (.slice a8 n8 q8) w2) :
  Calls Tryz.prog 138 #[.func (.func G) #[] cap] w fun e w'=>∃a1 n1 q1 a3 n3 q3 a8 n8 q8,e=.returned (.tuple #[.agg #[.int .u8 x0,.slice a1 n1 q1,.int .u32 x2,.slice a3 n3 q3,.int .u32 x4,.bool x5,.int .u32 x6,.int .u32 x7,.slice a8 n8 q8],.int .i64 0])∧Touch (fun _=>False) w w'∧K (.slice a1 n1 q1) (.slice a3 n3 q3) (.slice a8 n8 q8) w':=by
 have hmf:∀(fn:Fn) (first cap:Array Value) (w:World),(Instr.makeFunc fn first cap).run Tryz.prog w=.ok (.func fn first cap) w:=fun _ _ _ _=>rfl
 go_enter_defers Tryz.func138,Tryz.ntmps138
 go_wp2_with fail
 refine h.mono ?_
 rintro e w1 ⟨a1,n1,q1,a3,n3,q3,a8,n8,q8,rfl,t1,k1⟩
 have t0:=(((Touch.refl (fun _=>False) w).alloc _).alloc _).trans t1
 have FZ:Hid (∀i,i<9→w1.frozen? ⟨w.heap.size,i,none⟩=false):=fun i hi=>(t1.frozen (p:=⟨w.heap.size,i,none⟩) (by simp;omega) (fun h=>h)).trans (by simp [go_sem])
 have fz1:w1.frozen? ⟨w.heap.size+1,0,none⟩=false:=(t1.frozen (p:=⟨w.heap.size+1,0,none⟩) (by simp) (fun h=>h)).trans (by simp [go_sem])
 have ce1:w1.cell? ⟨w.heap.size+1,0,none⟩=some (.int .i64 0):=t1.cellN (by simp [go_sem])
 have c0:w1.cell? ⟨w.heap.size,0,none⟩=some (.int .u8 0):=t1.cellN (by simp [go_sem])
 have z0:=FZ.out 0 (by omega)
 have c1:w1.cell? ⟨w.heap.size,1,none⟩=some (.slice none 0 0):=t1.cellN (by simp [go_sem])
 have z1:=FZ.out 1 (by omega)
 have c2:w1.cell? ⟨w.heap.size,2,none⟩=some (.int .u32 0):=t1.cellN (by simp [go_sem])
 have z2:=FZ.out 2 (by omega)
 have c3:w1.cell? ⟨w.heap.size,3,none⟩=some (.slice none 0 0):=t1.cellN (by simp [go_sem])
 have z3:=FZ.out 3 (by omega)
 have c4:w1.cell? ⟨w.heap.size,4,none⟩=some (.int .u32 0):=t1.cellN (by simp [go_sem])
 have z4:=FZ.out 4 (by omega)
 have c5:w1.cell? ⟨w.heap.size,5,none⟩=some (.bool false):=t1.cellN (by simp [go_sem])
 have z5:=FZ.out 5 (by omega)
 have c6:w1.cell? ⟨w.heap.size,6,none⟩=some (.int .u32 0):=t1.cellN (by simp [go_sem])
 have z6:=FZ.out 6 (by omega)
 have c7:w1.cell? ⟨w.heap.size,7,none⟩=some (.int .u32 0):=t1.cellN (by simp [go_sem])
 have z7:=FZ.out 7 (by omega)
 have c8:w1.cell? ⟨w.heap.size,8,none⟩=some (.slice none 0 0):=t1.cellN (by simp [go_sem])
 have z8:=FZ.out 8 (by omega)
 clear FZ
 have HT:Hid (Touch (fun _=>False) w w1):=t0
 have HK:Hid (K (.slice a1 n1 q1) (.slice a3 n3 q3) (.slice a8 n8 q8) w1):=k1
 have HT1:Hid (Touch (fun _=>False) ((w.alloc (.cells #[.int .u8 0,.slice none 0 0,.int .u32 0,.slice none 0 0,.int .u32 0,.bool false,.int .u32 0,.int .u32 0,.slice none 0 0] 119)).alloc (.cells #[.int .i64 0] 111)) w1):=t1
 obtain⟨w2,hw2⟩:∃w2,w2=(((((((((w1.setCell ⟨w.heap.size,0,none⟩ (.int .u8 x0)).setCell ⟨w.heap.size,1,none⟩ (.slice a1 n1 q1)).setCell ⟨w.heap.size,2,none⟩ (.int .u32 x2)).setCell ⟨w.heap.size,3,none⟩ (.slice a3 n3 q3)).setCell ⟨w.heap.size,4,none⟩ (.int .u32 x4)).setCell ⟨w.heap.size,5,none⟩ (.bool x5)).setCell ⟨w.heap.size,6,none⟩ (.int .u32 x6)).setCell ⟨w.heap.size,7,none⟩ (.int .u32 x7)).setCell ⟨w.heap.size,8,none⟩ (.slice a8 n8 q8)).setCell ⟨w.heap.size+1,0,none⟩ (.int .i64 0):=⟨_,rfl⟩
 have d0:w2.cell? ⟨w.heap.size,0,none⟩=some (.int .u8 x0):=by rw [hw2];simp [c0,go_sem]
 have d1:w2.cell? ⟨w.heap.size,1,none⟩=some (.slice a1 n1 q1):=by rw [hw2];simp [c1,go_sem]
 have d2:w2.cell? ⟨w.heap.size,2,none⟩=some (.int .u32 x2):=by rw [hw2];simp [c2,go_sem]
 have d3:w2.cell? ⟨w.heap.size,3,none⟩=some (.slice a3 n3 q3):=by rw [hw2];simp [c3,go_sem]
 have d4:w2.cell? ⟨w.heap.size,4,none⟩=some (.int .u32 x4):=by rw [hw2];simp [c4,go_sem]
 have d5:w2.cell? ⟨w.heap.size,5,none⟩=some (.bool x5):=by rw [hw2];simp [c5,go_sem]
 have d6:w2.cell? ⟨w.heap.size,6,none⟩=some (.int .u32 x6):=by rw [hw2];simp [c6,go_sem]
 have d7:w2.cell? ⟨w.heap.size,7,none⟩=some (.int .u32 x7):=by rw [hw2];simp [c7,go_sem]
 have d8:w2.cell? ⟨w.heap.size,8,none⟩=some (.slice a8 n8 q8):=by rw [hw2];simp [c8,go_sem]
 have de:w2.cell? ⟨w.heap.size+1,0,none⟩=some (.int .i64 0):=by rw [hw2];simp [ce1,go_sem]
 have HU:Hid (Touch (fun k=>k=w.heap.size∨k=w.heap.size+1) w1 w2):=by
  show Touch _ _ _
  rw [hw2]
  exact Touch.setCell (Touch.setCell (Touch.setCell (Touch.setCell (Touch.setCell (Touch.setCell (Touch.setCell (Touch.setCell (Touch.setCell (Touch.setCell (Touch.refl _ _) (Or.inl (Or.inl rfl)) _) (Or.inl (Or.inl rfl)) _) (Or.inl (Or.inl rfl)) _) (Or.inl (Or.inl rfl)) _) (Or.inl (Or.inl rfl)) _) (Or.inl (Or.inl rfl)) _) (Or.inl (Or.inl rfl)) _) (Or.inl (Or.inl rfl)) _) (Or.inl (Or.inl rfl)) _) (Or.inl (Or.inr rfl)) _
 have HW:Hid (w2=(((((((((w1.setCell ⟨w.heap.size,0,none⟩ (.int .u8 x0)).setCell ⟨w.heap.size,1,none⟩ (.slice a1 n1 q1)).setCell ⟨w.heap.size,2,none⟩ (.int .u32 x2)).setCell ⟨w.heap.size,3,none⟩ (.slice a3 n3 q3)).setCell ⟨w.heap.size,4,none⟩ (.int .u32 x4)).setCell ⟨w.heap.size,5,none⟩ (.bool x5)).setCell ⟨w.heap.size,6,none⟩ (.int .u32 x6)).setCell ⟨w.heap.size,7,none⟩ (.int .u32 x7)).setCell ⟨w.heap.size,8,none⟩ (.slice a8 n8 q8)).setCell ⟨w.heap.size+1,0,none⟩ (.int .i64 0)):=hw2
 clear t0 t1 k1 h hw2
 go_wp2_with fail
 rw [←HW.out]
 clear HW c0 z0 c1 z1 c2 z2 c3 z3 c4 z4 c5 z5 c6 z6 c7 z7 c8 z8 fz1 ce1
 refine leaves_cons (f:=169) (args:=#[.pointer (some ⟨w.heap.size+1,0,none⟩)]) (by simp) (by simp [go_sem]) ?_
 refine (Qig (w.heap.size+1) _).mono ?_
 rintro e u' w'' ⟨rfl,rfl,rfl⟩
 refine⟨.tuple #[.agg #[.int .u8 x0,.slice a1 n1 q1,.int .u32 x2,.slice a3 n3 q3,.int .u32 x4,.bool x5,.int .u32 x6,.int .u32 x7,.slice a8 n8 q8],.int .i64 0],by simp [results,Tryz.results138,go_sem,d0,d1,d2,d3,d4,d5,d6,d7,d8,de],a1,n1,q1,a3,n3,q3,a8,n8,q8,rfl,?_,hK _ _ _ _ _ _ _ _ _ _ _ HK.out HT1.out HU.out⟩
 exact HT.out.trans' HU.out (fun i hi hf=>by omega)
theorem Qr2 (G:Nat) (cap:Array Value) (hG:∀w,(callFunc G cap).run Tryz.prog w=.ok (.enter G cap) w) (w:World) (err:Int)
  (h:Calls Tryz.prog G cap ((w.alloc (.cells #[.int .u8 0,.slice none 0 0,.int .u32 0,.slice none 0 0,.int .u32 0,.bool false,.int .u32 0,.int .u32 0,.slice none 0 0] 119)).alloc (.cells #[.int .i64 0] 111)) fun e w'=>e=.panicked (flawC err)∧Touch (fun _=>False) ((w.alloc (.cells #[.int .u8 0,.slice none 0 0,.int .u32 0,.slice none 0 0,.int .u32 0,.bool false,.int .u32 0,.int .u32 0,.slice none 0 0] 119)).alloc (.cells #[.int .i64 0] 111)) w') :
  Calls Tryz.prog 138 #[.func (.func G) #[] cap] w fun e w'=>e=.returned (.tuple #[.agg #[.int .u8 0,.slice none 0 0,.int .u32 0,.slice none 0 0,.int .u32 0,.bool false,.int .u32 0,.int .u32 0,.slice none 0 0],.int .i64 err])∧Touch (fun _=>False) w w':=by
 have hmf:∀(fn:Fn) (first cap:Array Value) (w:World),(Instr.makeFunc fn first cap).run Tryz.prog w=.ok (.func fn first cap) w:=fun _ _ _ _=>rfl
 go_enter_defers Tryz.func138,Tryz.ntmps138
 go_wp2_with fail
 refine h.mono ?_
 rintro e w1 ⟨rfl,t1⟩
 have t0:=(((Touch.refl (fun _=>False) w).alloc _).alloc _).trans t1
 have fz1:w1.frozen? ⟨w.heap.size+1,0,none⟩=false:=(t1.frozen (p:=⟨w.heap.size+1,0,none⟩) (by simp) (fun h=>h)).trans (by simp [go_sem])
 have ce1:w1.cell? ⟨w.heap.size+1,0,none⟩=some (.int .i64 0):=t1.cellN (by simp [go_sem])
 have c0:w1.cell? ⟨w.heap.size,0,none⟩=some (.int .u8 0):=t1.cellN (by simp [go_sem])
 have c1:w1.cell? ⟨w.heap.size,1,none⟩=some (.slice none 0 0):=t1.cellN (by simp [go_sem])
 have c2:w1.cell? ⟨w.heap.size,2,none⟩=some (.int .u32 0):=t1.cellN (by simp [go_sem])
 have c3:w1.cell? ⟨w.heap.size,3,none⟩=some (.slice none 0 0):=t1.cellN (by simp [go_sem])
 have c4:w1.cell? ⟨w.heap.size,4,none⟩=some (.int .u32 0):=t1.cellN (by simp [go_sem])
 have c5:w1.cell? ⟨w.heap.size,5,none⟩=some (.bool false):=t1.cellN (by simp [go_sem])
 have c6:w1.cell? ⟨w.heap.size,6,none⟩=some (.int .u32 0):=t1.cellN (by simp [go_sem])
 have c7:w1.cell? ⟨w.heap.size,7,none⟩=some (.int .u32 0):=t1.cellN (by simp [go_sem])
 have c8:w1.cell? ⟨w.heap.size,8,none⟩=some (.slice none 0 0):=t1.cellN (by simp [go_sem])
 refine leaves_cons (f:=169) (args:=#[.pointer (some ⟨w.heap.size+1,0,none⟩)]) (by simp) (by simp [go_sem]) ?_
 refine (Qif (w.heap.size+1) 0 err _ ce1 fz1).mono ?_
 rintro e u' w'' ⟨rfl,rfl,rfl⟩
 refine⟨.tuple #[.agg #[.int .u8 0,.slice none 0 0,.int .u32 0,.slice none 0 0,.int .u32 0,.bool false,.int .u32 0,.int .u32 0,.slice none 0 0],.int .i64 err],by simp [results,Tryz.results138,go_sem,c0,c1,c2,c3,c4,c5,c6,c7,c8,ce1],rfl,?_⟩
 exact Touch.setCell t0 (Or.inr (by simp)) _
structure Never:Prop where
 out:False
theorem Calls.never {P:Program} {f:FuncId} {args:Array Value} {w:World} {c:List PanicEntry} {R:World→Prop} (v:Value) (h:Calls P f args w fun e w'=>e=.panicked c∧R w') :
  Calls P f args w fun e w'=>(e=.panicked c∧R w')∨(Never∧e=.returned v):=h.mono (fun _ _ h=>Or.inl h)
theorem Qvi (g:Nat) (h:HV) (a:Option Addr) (n c:Nat) (w:World) (hS:Sd w g h (.slice a n c)) (hl0:0≤h.len∧h.len<65536) (hn:n≤140737488355328) (hlen:h.len=20+(n:Int))
  (HP:∀w,Calls Tryz.prog 144 #[.int .u8 h.typ] w fun e w'=>e=.panicked (flawC 21)∧Touch (fun _=>False) w w') :
  Calls Tryz.prog 180 #[.pointer (some ⟨g,0,none⟩)] w fun e w'=>e=.panicked (flawC 21)∧Touch (fun _=>False) w w':=by
 have HPh:Hid (∀w,Calls Tryz.prog 144 #[.int .u8 h.typ] w fun e w'=>e=.panicked (flawC 21)∧Touch (fun _=>False) w w'):=HP
 have HLn:∀w,Calls Tryz.prog 141 #[.agg #[.int .u16 h.age,.int .u8 h.opts,.int .u8 h.typ,.int .u32 h.id,.int .u32 h.adv,.int .i32 h.seq,.int .u16 h.sum,.int .u16 h.len,.slice a n c]] w fun e w'=>e=.returned (.bool true)∧Touch (fun _=>False) w w':=fun w=>by
  have:=Qax h a n c w hn hl0
  rwa [show (h.len==20+(n:Int))=true by rw [hlen];simp] at this
 have hgl:=Qaa hS.hd.c0
 have HS:Hid (Sd w g h (.slice a n c)):=hS
 obtain⟨⟨s0,s1,s2,s3,s4,s5,s6,s7⟩,s8⟩:=hS.keep ((Touch.refl (fun _=>False) w).alloc (.cells #[.int .u8 0,.slice none 0 0,.int .u32 0,.slice none 0 0,.int .u32 0,.bool false,.int .u32 0,.int .u32 0,.slice none 0 0] 119))
 clear HP hlen hl0 hn hS
 go_enter Tryz.func180,Tryz.ntmps180
 go_wp2_with fail
 refine Calls.mono (HLn _) ?_
 rintro e w1 ⟨rfl,t1⟩
 have T1:Hid (Touch (fun _=>False) w w1.drew):=(((Touch.refl _ w).alloc _).trans t1).drew
 have S1:=HS.out.keep T1.out
 have e2:=S1.hd.c2
 have e8:=S1.c8
 have hr:g≠w.heap.size:=by omega
 clear t1 HLn s0 s1 s2 s3 s4 s5 s6 s7 s8 S1 hgl
 go_upto_region 2 with (go_at_call 140;refine Calls.mono (Qbm _ 22 _ rfl) ?_;rintro e wx ⟨rfl,rfl⟩)
 generalize hG:w.heap.size=gr at *
 clear hG
 go_region_held2 (fun w'=>w'.cell? ⟨g,2,none⟩=some (.int .u8 h.typ)∧w'.cell? ⟨g,8,none⟩=some (.slice a n c)) (first|with_reducible exact⟨e2,e8⟩|with_reducible exact⟨y2,y8⟩|with_reducible exact⟨(Qds hr 2 _ _ _ _ _ _ _ _ _).trans y2,(Qds hr 8 _ _ _ _ _ _ _ _ _).trans y8⟩) (first
  | (go_at_call 144;refine Calls.mono (Calls.never (.agg #[.nilFunc,.nilFunc]) (HPh.out _)) ?_;rintro e w2 (⟨rfl,t2⟩|⟨HF,rfl⟩);exact⟨rfl,rfl,T1.out.trans t2⟩;obtain⟨y2,y8⟩:w2.cell? ⟨g,2,none⟩=some (.int .u8 h.typ)∧w2.cell? ⟨g,8,none⟩=some (.slice a n c):=HF.out.elim;obtain⟨zc0,zf0,zc1,zf1,zc2,zf2,zc3,zf3,zc4,zf4,zc5,zf5,zc6,zf6,zc7,zf7,zc8,zf8⟩:w2.cell? ⟨gr,0,none⟩=some .nilFunc∧w2.frozen? ⟨gr,0,none⟩=false∧w2.cell? ⟨gr,1,none⟩=some .nilFunc∧w2.frozen? ⟨gr,1,none⟩=false∧w2.cell? ⟨gr,2,none⟩=some .nilFunc∧w2.frozen? ⟨gr,2,none⟩=false∧w2.cell? ⟨gr,3,none⟩=some .nilFunc∧w2.frozen? ⟨gr,3,none⟩=false∧w2.cell? ⟨gr,4,none⟩=some .nilFunc∧w2.frozen? ⟨gr,4,none⟩=false∧w2.cell? ⟨gr,5,none⟩=some .nilFunc∧w2.frozen? ⟨gr,5,none⟩=false∧w2.cell? ⟨gr,6,none⟩=some .nilFunc∧w2.frozen? ⟨gr,6,none⟩=false∧w2.cell? ⟨gr,7,none⟩=some .nilFunc∧w2.frozen? ⟨gr,7,none⟩=false∧w2.cell? ⟨gr,8,none⟩=some .nilFunc∧w2.frozen? ⟨gr,8,none⟩=false:=HF.out.elim)
  | (go_at_call 145;refine Calls.mono (HF.out.elim:Calls Tryz.prog 145 #[_,_] w2 fun e w'=>e=.returned (.agg #[.int .u8 0,.slice none 0 0,.int .u32 0,.slice none 0 0,.int .u32 0,.bool false,.int .u32 0,.int .u32 0,.slice none 0 0])∧w2=w') ?_;rintro e w5 ⟨rfl,rfl⟩))
 exact HF.out.elim
theorem Qps (g:Nat) (h:HV) (a:Option Addr) (n c:Nat) (G1 G2:Nat) (rs:List Int) (w:World) (hS:Sd w g h (.slice a n c)) (hl0:0≤h.len∧h.len<65536) (hn:n≤140737488355328) (hlen:h.len=20+(n:Int))
  (HP:∀w,Calls Tryz.prog 144 #[.int .u8 h.typ] w fun e w'=>e=.returned (.agg #[.func (.func G1) #[] #[],.func (.func G2) #[] #[]])∧Touch (fun _=>False) w w')
  (HR:∀w',Touch (fun _=>False) w w'→Calls Tryz.prog 145 #[.agg #[.func (.func G1) #[] #[],.func (.func G2) #[] #[]],.slice a n c] w' (RdAns h.typ rs w')) :
  Calls Tryz.prog 180 #[.pointer (some ⟨g,0,none⟩)] w (RdAns h.typ rs w):=by
 have HPh:Hid (∀w,Calls Tryz.prog 144 #[.int .u8 h.typ] w fun e w'=>e=.returned (.agg #[.func (.func G1) #[] #[],.func (.func G2) #[] #[]])∧Touch (fun _=>False) w w'):=HP
 have HRh:Hid (∀w',Touch (fun _=>False) w w'→Calls Tryz.prog 145 #[.agg #[.func (.func G1) #[] #[],.func (.func G2) #[] #[]],.slice a n c] w' (RdAns h.typ rs w')):=HR
 have HLn:∀w,Calls Tryz.prog 141 #[.agg #[.int .u16 h.age,.int .u8 h.opts,.int .u8 h.typ,.int .u32 h.id,.int .u32 h.adv,.int .i32 h.seq,.int .u16 h.sum,.int .u16 h.len,.slice a n c]] w fun e w'=>e=.returned (.bool true)∧Touch (fun _=>False) w w':=fun w=>by
  have:=Qax h a n c w hn hl0
  rwa [show (h.len==20+(n:Int))=true by rw [hlen];simp] at this
 have hgl:=Qaa hS.hd.c0
 have HS:Hid (Sd w g h (.slice a n c)):=hS
 obtain⟨⟨s0,s1,s2,s3,s4,s5,s6,s7⟩,s8⟩:=hS.keep ((Touch.refl (fun _=>False) w).alloc (.cells #[.int .u8 0,.slice none 0 0,.int .u32 0,.slice none 0 0,.int .u32 0,.bool false,.int .u32 0,.int .u32 0,.slice none 0 0] 119))
 clear HP HR hlen hl0 hn hS
 go_enter Tryz.func180,Tryz.ntmps180
 go_wp2_with fail
 refine Calls.mono (HLn _) ?_
 rintro e w1 ⟨rfl,t1⟩
 have R1:Hid (Room w1.drew w.heap.size 9):=((Room.new w #[.int .u8 0,.slice none 0 0,.int .u32 0,.slice none 0 0,.int .u32 0,.bool false,.int .u32 0,.int .u32 0,.slice none 0 0] 119).keep t1).keep ((Touch.refl _ _).drew)
 have T1:Hid (Touch (fun _=>False) w w1.drew):=(((Touch.refl _ w).alloc _).trans t1).drew
 have HSZ:Hid (w.heap.size<w1.heap.size):=by have:=t1.size;show _<_;simp at this;omega
 have S1:=HS.out.keep T1.out
 have e2:=S1.hd.c2
 have e8:=S1.c8
 have hr:g≠w.heap.size:=by omega
 clear t1 HLn s0 s1 s2 s3 s4 s5 s6 s7 s8 S1 hgl
 go_upto_region 2 with (go_at_call 140;refine Calls.mono (Qbm _ 22 _ rfl) ?_;rintro e wx ⟨rfl,rfl⟩)
 generalize hG:w.heap.size=gr at *
 have HG:Hid (w.heap.size=gr):=hG
 clear hG
 go_region_held2 (fun w'=>w'.cell? ⟨g,2,none⟩=some (.int .u8 h.typ)∧w'.cell? ⟨g,8,none⟩=some (.slice a n c)) (first|with_reducible exact⟨e2,e8⟩|with_reducible exact⟨y2,y8⟩|with_reducible exact⟨u2,u8⟩|with_reducible exact⟨(Qds hr 2 _ _ _ _ _ _ _ _ _).trans u2,(Qds hr 8 _ _ _ _ _ _ _ _ _).trans u8⟩) (first
  | (go_at_call 144;refine Calls.mono (HPh.out _) ?_;rintro e w2 ⟨rfl,t2⟩;have y2:=t2.cellN e2;have y8:=t2.cellN e8;have T2:Hid (Touch (fun _=>False) w w2):=T1.out.trans t2;have R2:Hid (Room w2 gr 9):=R1.out.keep t2;have HS2:Hid (gr<w2.heap.size):=Nat.lt_of_lt_of_le HSZ.out t2.size;clear t2)
  | (go_at_call 145;refine Calls.mono (HRh.out _ T2.out) ?_;rintro e w3 (⟨B,vl,vr,vd,rfl,hd,o3,t3⟩|⟨rfl,hd,t3⟩);rotate_left;exact⟨rfl,Or.inr ⟨rfl,hd,T2.out.trans t3⟩⟩;have HD:Hid (decB h.typ rs=some B):=hd;have O3:Hid (BOwn w2.heap.size w3 B vl vr vd):=o3;obtain⟨a1,q1,a3,q3,a8,q8,rfl,rfl,rfl⟩:=o3.form;unfold BV.v;have u2:=t3.cellN y2;have u8:=t3.cellN y8;have T3:Hid (Touch (fun _=>False) w w3):=T2.out.trans t3;have R5:=R2.out.keep t3;clear t3 hd o3;obtain⟨zz0,zc0,zf0⟩:=R5 0 (by omega);obtain⟨zz1,zc1,zf1⟩:=R5 1 (by omega);obtain⟨zz2,zc2,zf2⟩:=R5 2 (by omega);obtain⟨zz3,zc3,zf3⟩:=R5 3 (by omega);obtain⟨zz4,zc4,zf4⟩:=R5 4 (by omega);obtain⟨zz5,zc5,zf5⟩:=R5 5 (by omega);obtain⟨zz6,zc6,zf6⟩:=R5 6 (by omega);obtain⟨zz7,zc7,zf7⟩:=R5 7 (by omega);obtain⟨zz8,zc8,zf8⟩:=R5 8 (by omega);clear R5))
 clear e2 e8 y2 y8 u2 u8
 obtain⟨wz,hwz⟩:∃wz,wz=(((((((((w3.setCell ⟨gr,0,none⟩ (.int .u8 B.flags)).setCell ⟨gr,1,none⟩ (.slice a1 B.links.length q1)).setCell ⟨gr,2,none⟩ (.int .u32 B.mask)).setCell ⟨gr,3,none⟩ (.slice a3 B.routers.length q3)).setCell ⟨gr,4,none⟩ (.int .u32 B.metric)).setCell ⟨gr,5,none⟩ (.bool B.type2)).setCell ⟨gr,6,none⟩ (.int .u32 B.fwd)).setCell ⟨gr,7,none⟩ (.int .u32 B.tag)).setCell ⟨gr,8,none⟩ (.slice a8 B.data.length q8)):=⟨_,rfl⟩
 have zd0:wz.cell? ⟨gr,0,none⟩=some (.int .u8 B.flags):=by rw [hwz];simp [zc0,go_sem]
 have zd1:wz.cell? ⟨gr,1,none⟩=some (.slice a1 B.links.length q1):=by rw [hwz];simp [zc1,go_sem]
 have zd2:wz.cell? ⟨gr,2,none⟩=some (.int .u32 B.mask):=by rw [hwz];simp [zc2,go_sem]
 have zd3:wz.cell? ⟨gr,3,none⟩=some (.slice a3 B.routers.length q3):=by rw [hwz];simp [zc3,go_sem]
 have zd4:wz.cell? ⟨gr,4,none⟩=some (.int .u32 B.metric):=by rw [hwz];simp [zc4,go_sem]
 have zd5:wz.cell? ⟨gr,5,none⟩=some (.bool B.type2):=by rw [hwz];simp [zc5,go_sem]
 have zd6:wz.cell? ⟨gr,6,none⟩=some (.int .u32 B.fwd):=by rw [hwz];simp [zc6,go_sem]
 have zd7:wz.cell? ⟨gr,7,none⟩=some (.int .u32 B.tag):=by rw [hwz];simp [zc7,go_sem]
 have zd8:wz.cell? ⟨gr,8,none⟩=some (.slice a8 B.data.length q8):=by rw [hwz];simp [zc8,go_sem]
 have HUz:Hid (Touch (fun k=>k=gr) w3 wz):=by show Touch _ _ _;rw [hwz];refine Touch.setCell (F:=fun k=>k=gr) (p:=⟨gr,8,none⟩) ?_ (Or.inl rfl) _;refine Touch.setCell (F:=fun k=>k=gr) (p:=⟨gr,7,none⟩) ?_ (Or.inl rfl) _;refine Touch.setCell (F:=fun k=>k=gr) (p:=⟨gr,6,none⟩) ?_ (Or.inl rfl) _;refine Touch.setCell (F:=fun k=>k=gr) (p:=⟨gr,5,none⟩) ?_ (Or.inl rfl) _;refine Touch.setCell (F:=fun k=>k=gr) (p:=⟨gr,4,none⟩) ?_ (Or.inl rfl) _;refine Touch.setCell (F:=fun k=>k=gr) (p:=⟨gr,3,none⟩) ?_ (Or.inl rfl) _;refine Touch.setCell (F:=fun k=>k=gr) (p:=⟨gr,2,none⟩) ?_ (Or.inl rfl) _;refine Touch.setCell (F:=fun k=>k=gr) (p:=⟨gr,1,none⟩) ?_ (Or.inl rfl) _;refine Touch.setCell (F:=fun k=>k=gr) (p:=⟨gr,0,none⟩) ?_ (Or.inl rfl) _;exact Touch.refl _ _
 rw [←hwz]
 clear hwz zc0 zf0 zc1 zf1 zc2 zf2 zc3 zf3 zc4 zf4 zc5 zf5 zc6 zf6 zc7 zf7 zc8 zf8
 go_wp2_with fail
 refine bodyPost_ret (v:=.agg #[.int .u8 B.flags,.slice a1 B.links.length q1,.int .u32 B.mask,.slice a3 B.routers.length q3,.int .u32 B.metric,.bool B.type2,.int .u32 B.fwd,.int .u32 B.tag,.slice a8 B.data.length q8]) (by simp [results,Tryz.results180,go_sem,zd0,zd1,zd2,zd3,zd4,zd5,zd6,zd7,zd8]) rfl ?_
 exact Or.inl ⟨B,_,_,_,rfl,HD.out,(O3.out.touch HUz.out (fun k hk e=>by have:=HS2.out;omega)).lower (by have:=HS2.out;have:=HG.out;omega),T3.out.trans' HUz.out (fun i hi e=>by have:=HG.out;omega)⟩
theorem Qk7 (h:HV) (a:Option Addr) (n c:Nat) (rs:List Int) (w:World) (B:BV) (hB:decB h.typ rs=some B)
  (HC:∀w',Touch (fun _=>False) w w'→Sd w' w.heap.size h (.slice a n c)→Calls Tryz.prog 180 #[.pointer (some ⟨w.heap.size,0,none⟩)] w' (RdAns h.typ rs w')) :
  Calls Tryz.prog 147 #[h.sv (.slice a n c)] w fun e w'=>∃vl vr vd,e=.returned (.tuple #[B.v vl vr vd,.int .i64 0])∧BOwn w.heap.size w' B vl vr vd∧Touch (fun _=>False) w w':=by
 have hmf:∀(fn:Fn) (first cap:Array Value) (w:World),(Instr.makeFunc fn first cap).run Tryz.prog w=.ok (.func fn first cap) w:=fun _ _ _ _=>rfl
 have HC4:=HC ((((w.alloc (.cells #[.int .u16 h.age,.int .u8 h.opts,.int .u8 h.typ,.int .u32 h.id,.int .u32 h.adv,.int .i32 h.seq,.int .u16 h.sum,.int .u16 h.len,.slice a n c] 57)).alloc (.cells #[.int .u8 0,.slice none 0 0,.int .u32 0,.slice none 0 0,.int .u32 0,.bool false,.int .u32 0,.int .u32 0,.slice none 0 0] 119)).alloc (.cells #[.int .u8 0,.slice none 0 0,.int .u32 0,.slice none 0 0,.int .u32 0,.bool false,.int .u32 0,.int .u32 0,.slice none 0 0] 119)).alloc (.cells #[.int .i64 0] 111)) ((((Touch.refl _ w).alloc _).alloc _).alloc _ |>.alloc _) ((Sd.new w h (.slice a n c) 57).keep ((((Touch.refl _ _).alloc _).alloc _).alloc _))
 have HF:=Qkn 180 #[.pointer (some ⟨w.heap.size,0,none⟩)] (fun _=>rfl) ((w.alloc (.cells #[.int .u16 h.age,.int .u8 h.opts,.int .u8 h.typ,.int .u32 h.id,.int .u32 h.adv,.int .i32 h.seq,.int .u16 h.sum,.int .u16 h.len,.slice a n c] 57)).alloc (.cells #[.int .u8 0,.slice none 0 0,.int .u32 0,.slice none 0 0,.int .u32 0,.bool false,.int .u32 0,.int .u32 0,.slice none 0 0] 119)) B.flags B.mask B.metric B.fwd B.tag B.type2 (fun s1 s3 s8 w'=>BOwn (w.heap.size+4) w' B s1 s3 s8) (HC4.mono (by
  rintro e w' (⟨B',vl,vr,vd,rfl,hd,o,t⟩|⟨rfl,hd,t⟩)
  ·rw [hB] at hd
   cases hd
   obtain⟨a1,q1,a3,q3,a8,q8,rfl,rfl,rfl⟩:=o.form
   exact⟨a1,_,q1,a3,_,q3,a8,_,q8,rfl,t,by have:=o;simpa using this⟩
  ·rw [hB] at hd
   cases hd)) (by
  intro a1 n1 q1 a3 n3 q3 a8 n8 q8 w1 w2 hk _ t
  simp only [World.size_alloc] at t
  exact hk.touch t (fun k hkk e=>by omega))
 clear HC HC4 hB
 show Calls Tryz.prog 147 #[.agg #[.int .u16 h.age,.int .u8 h.opts,.int .u8 h.typ,.int .u32 h.id,.int .u32 h.adv,.int .i32 h.seq,.int .u16 h.sum,.int .u16 h.len,.slice a n c]] w _
 go_enter Tryz.func147,Tryz.ntmps147
 go_wp2_with fail
 refine Calls.mono HF ?_
 rintro e w1 ⟨a1,n1,q1,a3,n3,q3,a8,n8,q8,rfl,t1,k1⟩
 have R1:Hid (Room w1 (w.heap.size+1) 9):=by
  have:=(Room.new (w.alloc (.cells #[.int .u16 h.age,.int .u8 h.opts,.int .u8 h.typ,.int .u32 h.id,.int .u32 h.adv,.int .i32 h.seq,.int .u16 h.sum,.int .u16 h.len,.slice a n c] 57)) #[.int .u8 0,.slice none 0 0,.int .u32 0,.slice none 0 0,.int .u32 0,.bool false,.int .u32 0,.int .u32 0,.slice none 0 0] 119).keep t1
  show Room _ _ _
  simpa using this
 have HT:Hid (Touch (fun _=>False) w w1):=(((Touch.refl _ w).alloc _).alloc _).trans t1
 have HO:Hid (BOwn (w.heap.size+4) w1 B (.slice a1 n1 q1) (.slice a3 n3 q3) (.slice a8 n8 q8)):=k1
 clear HF t1 hmf k1
 generalize hg:w.heap.size+1=g at *
 have HG:Hid (w.heap.size+1=g):=hg
 clear hg
 obtain⟨zz0,zc0,zf0⟩:=R1.out 0 (by omega)
 obtain⟨zz1,zc1,zf1⟩:=R1.out 1 (by omega)
 obtain⟨zz2,zc2,zf2⟩:=R1.out 2 (by omega)
 obtain⟨zz3,zc3,zf3⟩:=R1.out 3 (by omega)
 obtain⟨zz4,zc4,zf4⟩:=R1.out 4 (by omega)
 obtain⟨zz5,zc5,zf5⟩:=R1.out 5 (by omega)
 obtain⟨zz6,zc6,zf6⟩:=R1.out 6 (by omega)
 obtain⟨zz7,zc7,zf7⟩:=R1.out 7 (by omega)
 obtain⟨zz8,zc8,zf8⟩:=R1.out 8 (by omega)
 obtain⟨wz,hwz⟩:∃wz,wz=(((((((((w1.setCell ⟨g,0,none⟩ (.int .u8 B.flags)).setCell ⟨g,1,none⟩ (.slice a1 n1 q1)).setCell ⟨g,2,none⟩ (.int .u32 B.mask)).setCell ⟨g,3,none⟩ (.slice a3 n3 q3)).setCell ⟨g,4,none⟩ (.int .u32 B.metric)).setCell ⟨g,5,none⟩ (.bool B.type2)).setCell ⟨g,6,none⟩ (.int .u32 B.fwd)).setCell ⟨g,7,none⟩ (.int .u32 B.tag)).setCell ⟨g,8,none⟩ (.slice a8 n8 q8)):=⟨_,rfl⟩
 have zd0:wz.cell? ⟨g,0,none⟩=some (.int .u8 B.flags):=by rw [hwz];simp [zc0,go_sem]
 have zd1:wz.cell? ⟨g,1,none⟩=some (.slice a1 n1 q1):=by rw [hwz];simp [zc1,go_sem]
 have zd2:wz.cell? ⟨g,2,none⟩=some (.int .u32 B.mask):=by rw [hwz];simp [zc2,go_sem]
 have zd3:wz.cell? ⟨g,3,none⟩=some (.slice a3 n3 q3):=by rw [hwz];simp [zc3,go_sem]
 have zd4:wz.cell? ⟨g,4,none⟩=some (.int .u32 B.metric):=by rw [hwz];simp [zc4,go_sem]
 have zd5:wz.cell? ⟨g,5,none⟩=some (.bool B.type2):=by rw [hwz];simp [zc5,go_sem]
 have zd6:wz.cell? ⟨g,6,none⟩=some (.int .u32 B.fwd):=by rw [hwz];simp [zc6,go_sem]
 have zd7:wz.cell? ⟨g,7,none⟩=some (.int .u32 B.tag):=by rw [hwz];simp [zc7,go_sem]
 have zd8:wz.cell? ⟨g,8,none⟩=some (.slice a8 n8 q8):=by rw [hwz];simp [zc8,go_sem]
 have HUz:Hid (Touch (fun k=>k=g) w1 wz):=by show Touch _ _ _;rw [hwz];refine Touch.setCell (F:=fun k=>k=g) (p:=⟨g,8,none⟩) ?_ (Or.inl rfl) _;refine Touch.setCell (F:=fun k=>k=g) (p:=⟨g,7,none⟩) ?_ (Or.inl rfl) _;refine Touch.setCell (F:=fun k=>k=g) (p:=⟨g,6,none⟩) ?_ (Or.inl rfl) _;refine Touch.setCell (F:=fun k=>k=g) (p:=⟨g,5,none⟩) ?_ (Or.inl rfl) _;refine Touch.setCell (F:=fun k=>k=g) (p:=⟨g,4,none⟩) ?_ (Or.inl rfl) _;refine Touch.setCell (F:=fun k=>k=g) (p:=⟨g,3,none⟩) ?_ (Or.inl rfl) _;refine Touch.setCell (F:=fun k=>k=g) (p:=⟨g,2,none⟩) ?_ (Or.inl rfl) _;refine Touch.setCell (F:=fun k=>k=g) (p:=⟨g,1,none⟩) ?_ (Or.inl rfl) _;refine Touch.setCell (F:=fun k=>k=g) (p:=⟨g,0,none⟩) ?_ (Or.inl rfl) _;exact Touch.refl _ _
 have HWz:Hid (wz=(((((((((w1.setCell ⟨g,0,none⟩ (.int .u8 B.flags)).setCell ⟨g,1,none⟩ (.slice a1 n1 q1)).setCell ⟨g,2,none⟩ (.int .u32 B.mask)).setCell ⟨g,3,none⟩ (.slice a3 n3 q3)).setCell ⟨g,4,none⟩ (.int .u32 B.metric)).setCell ⟨g,5,none⟩ (.bool B.type2)).setCell ⟨g,6,none⟩ (.int .u32 B.fwd)).setCell ⟨g,7,none⟩ (.int .u32 B.tag)).setCell ⟨g,8,none⟩ (.slice a8 n8 q8))):=hwz
 clear hwz
 go_wp2_with fail
 rw [←HWz.out]
 clear HWz zc0 zf0 zc1 zf1 zc2 zf2 zc3 zf3 zc4 zf4 zc5 zf5 zc6 zf6 zc7 zf7 zc8 zf8
 refine bodyPost_ret (v:=.tuple #[.agg #[.int .u8 B.flags,.slice a1 n1 q1,.int .u32 B.mask,.slice a3 n3 q3,.int .u32 B.metric,.bool B.type2,.int .u32 B.fwd,.int .u32 B.tag,.slice a8 n8 q8],.int .i64 0]) (by simp [results,Tryz.results147,go_sem,zd0,zd1,zd2,zd3,zd4,zd5,zd6,zd7,zd8]) rfl ?_
 exact⟨_,_,_,rfl,(HO.out.touch HUz.out (fun k hk e=>by have:=HG.out;omega)).lower (by omega),HT.out.trans' HUz.out (fun i hi e=>by have:=HG.out;omega)⟩
end Go.Proofs.YtddbffoiadmffaaGreat
