import Derived.Test.YtldmkoogghemhaaGreatWrAll2
namespace Go.Proofs.YtldmkoogghemhaaGreat
open Go.RowKit
set_option linter.unusedVariables false
set_option maxRecDepth 100000
theorem Qgb (b:Nat) (x e:Int) (w:World) (hc:w.cell? ⟨b,0,none⟩=some (.int .i64 x)) (hz:w.frozen? ⟨b,0,none⟩=false) :
  CallsD Tryz.prog 133 #[.pointer (some ⟨b,0,none⟩)] (.panicking (flawC e)) w fun r u' w' =>
   r=.returned (.tuple #[])∧u'=.panicking [{ v:=.iface 181 (.int .i64 e),recovered:=true }]∧w'=w.setCell ⟨b,0,none⟩ (.int .i64 e):=by
 refine callsD_of_wpS Tryz.func133 rfl fun c₀ cs hu=>?_
 apply wpS_seq
 apply wpS_region
 simp [wpOpsS,go_sem,recoverD,hu,flawC,Qnd,Tryz.ntmps133,Exit.thenS]
 apply wpS_seq
 apply wpS_region
 simp [wpOpsS,go_sem,Exit.thenS]
 refine wpS_cond (t:=true) (by simp [Act.eval,Array.replicate]) ?_
 simp only [if_true]
 apply wpS_region
 simp [wpOpsS,go_sem,hc,hz,bodyPostS,results,Tryz.results133]
theorem Qfu (b:Nat) (w:World) :
  CallsD Tryz.prog 133 #[.pointer (some ⟨b,0,none⟩)] .returning w fun r u' w'=>r=.returned (.tuple #[])∧u'=.returning∧w'=w:=by
 refine callsD_of_wpS Tryz.func133 rfl fun c₀ cs hu=>?_
 apply wpS_seq
 apply wpS_region
 simp [wpOpsS,go_sem,recoverD,hu,Qnv,Tryz.ntmps133,Exit.thenS]
 apply wpS_seq
 apply wpS_region
 simp [wpOpsS,go_sem,Exit.thenS]
 refine wpS_cond (t:=false) (by simp [Act.eval,Array.replicate]) ?_
 simp only [Bool.false_eq_true,if_false]
 refine wpS_of_wp (wp_skip ?_)
 cases c₀
 simp_all [bodyPostS,results,Tryz.results133]
theorem Qg1 (G:Nat) (cap:Array Value) (hG:∀w,(callFunc G cap).run Tryz.prog w=.ok (.enter G cap) w) (w:World) (x0 x2 x4 x6 x7:Int) (x5:Bool) (K:Value→Value→Value→World→Prop)
  (h:Calls Tryz.prog G cap ((w.alloc (.cells #[.int .u8 0,.slice none 0 0,.int .u32 0,.slice none 0 0,.int .u32 0,.bool false,.int .u32 0,.int .u32 0,.slice none 0 0] 92)).alloc (.cells #[.int .i64 0] 61)) fun e w'=>∃a1 n1 q1 a3 n3 q3 a8 n8 q8,e=.returned (.agg #[.int .u8 x0,.slice a1 n1 q1,.int .u32 x2,.slice a3 n3 q3,.int .u32 x4,.bool x5,.int .u32 x6,.int .u32 x7,.slice a8 n8 q8])∧Touch (fun _=>False) ((w.alloc (.cells #[.int .u8 0,.slice none 0 0,.int .u32 0,.slice none 0 0,.int .u32 0,.bool false,.int .u32 0,.int .u32 0,.slice none 0 0] 92)).alloc (.cells #[.int .i64 0] 61)) w'∧K (.slice a1 n1 q1) (.slice a3 n3 q3) (.slice a8 n8 q8) w')
  (hK:∀a1 n1 q1 a3 n3 q3 a8 n8 q8 w1 w2,K (.slice a1 n1 q1) (.slice a3 n3 q3) (.slice a8 n8 q8) w1→Touch (fun _=>False) ((w.alloc (.cells #[.int .u8 0,.slice none 0 0,.int .u32 0,.slice none 0 0,.int .u32 0,.bool false,.int .u32 0,.int .u32 0,.slice none 0 0] 92)).alloc (.cells #[.int .i64 0] 61)) w1→Touch (fun k=>k=w.heap.size∨k=w.heap.size+1) w1 w2→K (.slice a1 n1 q1) (.slice a3 n3 q3) (.slice a8 n8 q8) w2) :
  Calls Tryz.prog 110 #[.func (.func G) #[] cap] w fun e w'=>∃a1 n1 q1 a3 n3 q3 a8 n8 q8,e=.returned (.tuple #[.agg #[.int .u8 x0,.slice a1 n1 q1,.int .u32 x2,.slice a3 n3 q3,.int .u32 x4,.bool x5,.int .u32 x6,.int .u32 x7,.slice a8 n8 q8],.int .i64 0])∧Touch (fun _=>False) w w'∧K (.slice a1 n1 q1) (.slice a3 n3 q3) (.slice a8 n8 q8) w':=by
 have hmf:∀(fn:Fn) (first cap:Array Value) (w:World),(Instr.makeFunc fn first cap).run Tryz.prog w=.ok (.func fn first cap) w:=fun _ _ _ _=>rfl
 go_enter_defers Tryz.func110,Tryz.ntmps110
 go_wp2_with fail
 refine h.mono ?_
 rintro e w1 ⟨a1,n1,q1,a3,n3,q3,a8,n8,q8,rfl,t1,k1⟩
 have t0:=(((Touch.refl (fun _=>False) w).alloc _).alloc _).trans t1
 have FZ:Hid (∀i,i<9→w1.frozen? ⟨w.heap.size,i,none⟩=false):=fun i hi=>(t1.frozen (p:=⟨w.heap.size,i,none⟩) (by simp;omega) (fun h=>h)).trans (by simp [go_sem])
 have fz1:w1.frozen? ⟨w.heap.size+1,0,none⟩=false:=(t1.frozen (p:=⟨w.heap.size+1,0,none⟩) (by simp) (fun h=>h)).trans (by simp [go_sem])
 have ce1:w1.cell? ⟨w.heap.size+1,0,none⟩=some (.int .i64 0):=t1.cellN (by simp [go_sem])
 have c0:w1.cell? ⟨w.heap.size,0,none⟩=some (.int .u8 0):=t1.cellN (by simp [go_sem])
 have z0:=FZ.out 0 (by omega)
 have c1:w1.cell? ⟨w.heap.size,1,none⟩=some (.slice none 0 0):=t1.cellN (by simp [go_sem])
 have z1:=FZ.out 1 (by omega)
 have c2:w1.cell? ⟨w.heap.size,2,none⟩=some (.int .u32 0):=t1.cellN (by simp [go_sem])
 have z2:=FZ.out 2 (by omega)
 have c3:w1.cell? ⟨w.heap.size,3,none⟩=some (.slice none 0 0):=t1.cellN (by simp [go_sem])
 have z3:=FZ.out 3 (by omega)
 have c4:w1.cell? ⟨w.heap.size,4,none⟩=some (.int .u32 0):=t1.cellN (by simp [go_sem])
 have z4:=FZ.out 4 (by omega)
 have c5:w1.cell? ⟨w.heap.size,5,none⟩=some (.bool false):=t1.cellN (by simp [go_sem])
 have z5:=FZ.out 5 (by omega)
 have c6:w1.cell? ⟨w.heap.size,6,none⟩=some (.int .u32 0):=t1.cellN (by simp [go_sem])
 have z6:=FZ.out 6 (by omega)
 have c7:w1.cell? ⟨w.heap.size,7,none⟩=some (.int .u32 0):=t1.cellN (by simp [go_sem])
 have z7:=FZ.out 7 (by omega)
 have c8:w1.cell? ⟨w.heap.size,8,none⟩=some (.slice none 0 0):=t1.cellN (by simp [go_sem])
 have z8:=FZ.out 8 (by omega)
 clear FZ
 have HT:Hid (Touch (fun _=>False) w w1):=t0
 have HK:Hid (K (.slice a1 n1 q1) (.slice a3 n3 q3) (.slice a8 n8 q8) w1):=k1
 have HT1:Hid (Touch (fun _=>False) ((w.alloc (.cells #[.int .u8 0,.slice none 0 0,.int .u32 0,.slice none 0 0,.int .u32 0,.bool false,.int .u32 0,.int .u32 0,.slice none 0 0] 92)).alloc (.cells #[.int .i64 0] 61)) w1):=t1
 obtain⟨w2,hw2⟩:∃w2,w2=(((((((((w1.setCell ⟨w.heap.size,0,none⟩ (.int .u8 x0)).setCell ⟨w.heap.size,1,none⟩ (.slice a1 n1 q1)).setCell ⟨w.heap.size,2,none⟩ (.int .u32 x2)).setCell ⟨w.heap.size,3,none⟩ (.slice a3 n3 q3)).setCell ⟨w.heap.size,4,none⟩ (.int .u32 x4)).setCell ⟨w.heap.size,5,none⟩ (.bool x5)).setCell ⟨w.heap.size,6,none⟩ (.int .u32 x6)).setCell ⟨w.heap.size,7,none⟩ (.int .u32 x7)).setCell ⟨w.heap.size,8,none⟩ (.slice a8 n8 q8)).setCell ⟨w.heap.size+1,0,none⟩ (.int .i64 0):=⟨_,rfl⟩
 have d0:w2.cell? ⟨w.heap.size,0,none⟩=some (.int .u8 x0):=by rw [hw2];simp [c0,go_sem]
 have d1:w2.cell? ⟨w.heap.size,1,none⟩=some (.slice a1 n1 q1):=by rw [hw2];simp [c1,go_sem]
 have d2:w2.cell? ⟨w.heap.size,2,none⟩=some (.int .u32 x2):=by rw [hw2];simp [c2,go_sem]
 have d3:w2.cell? ⟨w.heap.size,3,none⟩=some (.slice a3 n3 q3):=by rw [hw2];simp [c3,go_sem]
 have d4:w2.cell? ⟨w.heap.size,4,none⟩=some (.int .u32 x4):=by rw [hw2];simp [c4,go_sem]
 have d5:w2.cell? ⟨w.heap.size,5,none⟩=some (.bool x5):=by rw [hw2];simp [c5,go_sem]
 have d6:w2.cell? ⟨w.heap.size,6,none⟩=some (.int .u32 x6):=by rw [hw2];simp [c6,go_sem]
 have d7:w2.cell? ⟨w.heap.size,7,none⟩=some (.int .u32 x7):=by rw [hw2];simp [c7,go_sem]
 have d8:w2.cell? ⟨w.heap.size,8,none⟩=some (.slice a8 n8 q8):=by rw [hw2];simp [c8,go_sem]
 have de:w2.cell? ⟨w.heap.size+1,0,none⟩=some (.int .i64 0):=by rw [hw2];simp [ce1,go_sem]
 have HU:Hid (Touch (fun k=>k=w.heap.size∨k=w.heap.size+1) w1 w2):=by
  show Touch _ _ _
  rw [hw2]
  exact Touch.setCell (Touch.setCell (Touch.setCell (Touch.setCell (Touch.setCell (Touch.setCell (Touch.setCell (Touch.setCell (Touch.setCell (Touch.setCell (Touch.refl _ _) (Or.inl (Or.inl rfl)) _) (Or.inl (Or.inl rfl)) _) (Or.inl (Or.inl rfl)) _) (Or.inl (Or.inl rfl)) _) (Or.inl (Or.inl rfl)) _) (Or.inl (Or.inl rfl)) _) (Or.inl (Or.inl rfl)) _) (Or.inl (Or.inl rfl)) _) (Or.inl (Or.inl rfl)) _) (Or.inl (Or.inr rfl)) _
 have HW:Hid (w2=(((((((((w1.setCell ⟨w.heap.size,0,none⟩ (.int .u8 x0)).setCell ⟨w.heap.size,1,none⟩ (.slice a1 n1 q1)).setCell ⟨w.heap.size,2,none⟩ (.int .u32 x2)).setCell ⟨w.heap.size,3,none⟩ (.slice a3 n3 q3)).setCell ⟨w.heap.size,4,none⟩ (.int .u32 x4)).setCell ⟨w.heap.size,5,none⟩ (.bool x5)).setCell ⟨w.heap.size,6,none⟩ (.int .u32 x6)).setCell ⟨w.heap.size,7,none⟩ (.int .u32 x7)).setCell ⟨w.heap.size,8,none⟩ (.slice a8 n8 q8)).setCell ⟨w.heap.size+1,0,none⟩ (.int .i64 0)):=hw2
 clear t0 t1 k1 h hw2
 go_wp2_with fail
 rw [←HW.out]
 clear HW c0 z0 c1 z1 c2 z2 c3 z3 c4 z4 c5 z5 c6 z6 c7 z7 c8 z8 fz1 ce1
 refine leaves_cons (f:=133) (args:=#[.pointer (some ⟨w.heap.size+1,0,none⟩)]) (by simp) (by simp [go_sem]) ?_
 refine (Qfu (w.heap.size+1) _).mono ?_
 rintro e u' w'' ⟨rfl,rfl,rfl⟩
 refine⟨.tuple #[.agg #[.int .u8 x0,.slice a1 n1 q1,.int .u32 x2,.slice a3 n3 q3,.int .u32 x4,.bool x5,.int .u32 x6,.int .u32 x7,.slice a8 n8 q8],.int .i64 0],by simp [results,Tryz.results110,go_sem,d0,d1,d2,d3,d4,d5,d6,d7,d8,de],a1,n1,q1,a3,n3,q3,a8,n8,q8,rfl,?_,hK _ _ _ _ _ _ _ _ _ _ _ HK.out HT1.out HU.out⟩
 exact HT.out.trans' HU.out (fun i hi hf=>by omega)
theorem Qlr (G:Nat) (cap:Array Value) (hG:∀w,(callFunc G cap).run Tryz.prog w=.ok (.enter G cap) w) (w:World) (err:Int)
  (h:Calls Tryz.prog G cap ((w.alloc (.cells #[.int .u8 0,.slice none 0 0,.int .u32 0,.slice none 0 0,.int .u32 0,.bool false,.int .u32 0,.int .u32 0,.slice none 0 0] 92)).alloc (.cells #[.int .i64 0] 61)) fun e w'=>e=.panicked (flawC err)∧Touch (fun _=>False) ((w.alloc (.cells #[.int .u8 0,.slice none 0 0,.int .u32 0,.slice none 0 0,.int .u32 0,.bool false,.int .u32 0,.int .u32 0,.slice none 0 0] 92)).alloc (.cells #[.int .i64 0] 61)) w') :
  Calls Tryz.prog 110 #[.func (.func G) #[] cap] w fun e w'=>e=.returned (.tuple #[.agg #[.int .u8 0,.slice none 0 0,.int .u32 0,.slice none 0 0,.int .u32 0,.bool false,.int .u32 0,.int .u32 0,.slice none 0 0],.int .i64 err])∧Touch (fun _=>False) w w':=by
 have hmf:∀(fn:Fn) (first cap:Array Value) (w:World),(Instr.makeFunc fn first cap).run Tryz.prog w=.ok (.func fn first cap) w:=fun _ _ _ _=>rfl
 go_enter_defers Tryz.func110,Tryz.ntmps110
 go_wp2_with fail
 refine h.mono ?_
 rintro e w1 ⟨rfl,t1⟩
 have t0:=(((Touch.refl (fun _=>False) w).alloc _).alloc _).trans t1
 have fz1:w1.frozen? ⟨w.heap.size+1,0,none⟩=false:=(t1.frozen (p:=⟨w.heap.size+1,0,none⟩) (by simp) (fun h=>h)).trans (by simp [go_sem])
 have ce1:w1.cell? ⟨w.heap.size+1,0,none⟩=some (.int .i64 0):=t1.cellN (by simp [go_sem])
 have c0:w1.cell? ⟨w.heap.size,0,none⟩=some (.int .u8 0):=t1.cellN (by simp [go_sem])
 have c1:w1.cell? ⟨w.heap.size,1,none⟩=some (.slice none 0 0):=t1.cellN (by simp [go_sem])
 have c2:w1.cell? ⟨w.heap.size,2,none⟩=some (.int .u32 0):=t1.cellN (by simp [go_sem])
 have c3:w1.cell? ⟨w.heap.size,3,none⟩=some (.slice none 0 0):=t1.cellN (by simp [go_sem])
 have c4:w1.cell? ⟨w.heap.size,4,none⟩=some (.int .u32 0):=t1.cellN (by simp [go_sem])
 have c5:w1.cell? ⟨w.heap.size,5,none⟩=some (.bool false):=t1.cellN (by simp [go_sem])
 have c6:w1.cell? ⟨w.heap.size,6,none⟩=some (.int .u32 0):=t1.cellN (by simp [go_sem])
 have c7:w1.cell? ⟨w.heap.size,7,none⟩=some (.int .u32 0):=t1.cellN (by simp [go_sem])
 have c8:w1.cell? ⟨w.heap.size,8,none⟩=some (.slice none 0 0):=t1.cellN (by simp [go_sem])
 refine leaves_cons (f:=133) (args:=#[.pointer (some ⟨w.heap.size+1,0,none⟩)]) (by simp) (by simp [go_sem]) ?_
 refine (Qgb (w.heap.size+1) 0 err _ ce1 fz1).mono ?_
 rintro e u' w'' ⟨rfl,rfl,rfl⟩
 refine⟨.tuple #[.agg #[.int .u8 0,.slice none 0 0,.int .u32 0,.slice none 0 0,.int .u32 0,.bool false,.int .u32 0,.int .u32 0,.slice none 0 0],.int .i64 err],by simp [results,Tryz.results110,go_sem,c0,c1,c2,c3,c4,c5,c6,c7,c8,ce1],rfl,?_⟩
 exact Touch.setCell t0 (Or.inr (by simp)) _
end Go.Proofs.YtldmkoogghemhaaGreat
