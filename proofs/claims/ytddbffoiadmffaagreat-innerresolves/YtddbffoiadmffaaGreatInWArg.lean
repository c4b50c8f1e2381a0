import Derived.Test.YtddbffoiadmffaaGreatTrFrom0
import Derived.SizedLaws
import Derived.ProofKit
import Derived.OpenShut
import Derived.ChangeOld
import Derived.Deep.Slices
import Derived.Deep.Matrix
import Derived.Deep.RegionLaw
namespace Go.Proofs.YtddbffoiadmffaaGreat
set_option maxHeartbeats 8000000
open Go.RowKit
set_option linter.unusedVariables false
set_option maxRecDepth 100000
theorem WS.mark {w0:World} {p:WB} {w:World} {v:Value} {L:List Sp} {R:Nat→RV} {H:Nat→Value} {Z:Nat→Sp} (X:WS w0 p w v L R H Z) {i:Nat} (hi:i<p.N) (b:Bool):WS w0 p (w.setCell ⟨p.rb,i*3,none⟩ (.bool b)) v L (upf R i ⟨b,(R i).cost,(R i).hops⟩) H Z:=by
 have t:Touch (fun k=>k=p.rb) w (w.setCell ⟨p.rb,i*3,none⟩ (.bool b)):=tset1 (Touch.refl _ _) _ _
 have r1:=RG.set1 Qbt X.rr (i:=i) (d:=0) (x:=(R i,H i)) (y:=(⟨b,(R i).cost,(R i).hops⟩,H i)) (by omega) (Qbe _ hi) (u:=.bool b) rfl
 rw [Qfi] at r1
 have e:upf (fun i=>(R i,H i)) i (⟨b,(R i).cost,(R i).hops⟩,H i)=fun j=>(upf R i ⟨b,(R i).cost,(R i).hops⟩ j,H j):=by
  funext j
  by_cases h:j=i
  ·subst h;simp only [Qag]
  ·simp only [Qaf _ _ h]
 rw [e] at r1
 have hw:p.wb<w.heap.size:=X.ls.lt
 have cw:∀o,(w.setCell ⟨p.rb,i*3,none⟩ (.bool b)).cell? ⟨p.wb,o,none⟩=w.cell? ⟨p.wb,o,none⟩:=fun o=>t.cell (p:=⟨p.wb,o,none⟩) hw X.d1
 refine⟨X.old t (fun k e=>by rw [e];exact X.rge),⟨(cw 0).trans X.ls.c0,(t.frozen (p:=⟨p.wb,0,none⟩) hw X.d1).trans X.ls.f0,RG.keep X.ls.re t (fun j hj e=>X.e1 (by rw [hj,e])),X.ls.bv,X.ls.hl⟩,X.hp,(cw 1).trans X.c1,(cw 2).trans X.c2,(cw 3).trans X.c3,(cw 4).trans X.c4,X.wB,r1,RG.keep X.zz t (fun j hj e=>by cases hj;exact X.d3 e.symm),fun j hj=>?_,X.d1,X.d2,X.d3,X.e1,X.e2,X.h1,X.h2⟩
 have hq:(upf R i ⟨b,(R i).cost,(R i).hops⟩ j).hops=(R j).hops:=by
  by_cases h:j=i
  ·subst h;simp only [Qag]
  ·simp only [Qaf _ _ h]
 rw [hq]
 exact RG.keep (X.hh j hj) t (fun g hg e=>(X.h1 j g hj hg).2.1 e)
structure RtR (w0:World) (p:WB) (ns:List NM) (M:Int) (H:Nat→Value) (i:Nat) (w:World):Prop where
 out:∃v L R Z,WS w0 p w v L R H Z∧Inv (ns.map (·.t)) M p.root p.root i Sp0 L R Z∧tot (ns.map (·.t)) R=0∧L.length≤i
theorem RtR.step {w0:World} {p:WB} {ns:List NM} {M:Int} {E:Nat} (G:GB p ns M E) {H:Nat→Value} {i:Nat} {w w' w'':World} {v:Value} {L:List Sp} {R:Nat→RV} {Z:Nat→Sp} {e:TE} {en:Ending}
  (X:WS w0 p w v L R H Z) (I:Inv (ns.map (·.t)) M p.root p.root i Sp0 L R Z) (hT:tot (ns.map (·.t)) R=0) (hL:L.length≤i) (he:(gn (ns.map (·.t)) p.root).edges[i]?=some e)
  (t:Touch (fun _=>False) w w') (Q:TryP w0 p ns e 0 ⟨e.data,0,e.vr⟩ w' v L R H Z en w''):RtR w0 p ns M H (i+1) w'':=by
 have hlen:(ns.map (·.t)).length=ns.length:=by simp
 have hrl:p.root<(ns.map (·.t)).length:=by rw [hlen,←G.n];exact G.root
 have hem:e∈(gn (ns.map (·.t)) p.root).edges:=List.mem_of_getElem? he
 have hE:=G.ok.ed _ (Qbx hrl) e hem
 have hc:(R p.root).cost=0:=by rw [I.rr]
 rcases Q.out with⟨X',hno⟩|⟨d,v',L',hd,hdn,hdr,hm,hle,pe,ow,X'⟩
 ·refine⟨v,L,R,Z,X',I.skip he (fun d h1 h2 h3 h4=>?_) hE.1,hT,by omega⟩
  rw [hlen] at h2
  rw [hc] at h4 ⊢
  obtain⟨a1,a2⟩:=hno d h1 h2 h3 h4
  refine⟨a1,?_⟩
  rcases a2 with a2|a2
  ·omega
  ·have:=I.zc d (by rw [hlen];exact h2) h3 a1
   rw [a2] at this
   simp only at this
   omega
 ·have hdl:d<(ns.map (·.t)).length:=by rw [hlen];exact hdn
  have HWd:=HopW.first G.ok hem hd hdl hdr
  rw [Int.zero_add] at hm hle pe X'
  have hcur:Sp0.le ⟨(d:Int),e.cost,intoH ⟨e.data,0,e.vr⟩ (gn (ns.map (·.t)) d)⟩:=by
   have h1:=(G.ok.id0 _ (Qbx hdl)).1
   unfold Sp.le Sp.lt HK.lt Sp0 HK0
   have h2:=Qcl (intoH ⟨e.data,0,e.vr⟩ (gn (ns.map (·.t)) d)).vr
   have h3:0≤(intoH ⟨e.data,0,e.vr⟩ (gn (ns.map (·.t)) d)).out∧0≤(intoH ⟨e.data,0,e.vr⟩ (gn (ns.map (·.t)) d)).via:=by
    unfold intoH
    split
    ·exact⟨hE.2.2.2.1,by simp⟩
    ·split
     ·exact⟨hE.2.2.2.1,by simp⟩
     ·exact⟨hE.2.2.2.1,h1⟩
   simp only [show bz false=0 from rfl]
   omega
  have IW:=I.wait G.ok hrl (Or.inl rfl) he hd hdl hdr (by rw [hc,Int.zero_add];exact hm) (fun h=>by rw [hc,Int.zero_add];exact hle h) (by rw [hc,Int.zero_add];exact HWd) (by rw [hc,Int.zero_add];exact hcur)
  rw [hc,Int.zero_add] at IW
  have hh:∀u,(upf R d ⟨true,e.cost,(R d).hops⟩ u).hops=(R u).hops:=by
   intro u
   by_cases h:u=d
   ·subst h;rw [Qag]
   ·rw [Qaf _ _ h]
  refine⟨v',L',_,_,X',IW.perm pe,?_,?_⟩
  ·rw [Qkr hh];exact hT
  ·have:=pe.length_eq
   simp at this
   omega
def topN (ns:List NM) (E:Nat):Nat:=ns.length*(E*((ns.length+1)*2))
structure FrR (w0:World) (p:WB) (ns:List NM) (M:Int) (E:Nat) (g:Nat) (w:World):Prop where
 out:∃v L R H Z x i s,WS w0 p w v L R H Z∧Inv (ns.map (·.t)) M p.root x i s L R Z∧(gn (ns.map (·.t)) x).edges.length≤i∧L.length≤E*(tot (ns.map (·.t)) R+1)∧g=(topN ns E-tot (ns.map (·.t)) R)*(E*(topN ns E+1)+1)+L.length
theorem Qrj {T t t' B n l:Nat} (h1:t'≤T) (hB:l≤B) (h:(t'=t∧l=n)∨t'=t+1):(T-t')*(B+1)+l<(T-t)*(B+1)+(n+1):=by
 rcases h with⟨rfl,rfl⟩|rfl
 ·omega
 ·obtain⟨d,rfl⟩:∃d,T=t+1+d:=⟨T-(t+1),by omega⟩
  have e1:t+1+d-(t+1)=d:=by omega
  have e2:t+1+d-t=d+1:=by omega
  rw [e1,e2,Nat.add_mul,Nat.one_mul]
  omega
theorem FrR.next {w0:World} {p:WB} {ns:List NM} {M:Int} {E:Nat} (G:GB p ns M E) {R:Nat→RV} {n g:Nat} {en:Ending} {w:World} (Q:TakeQ w0 p ns M E R n en w) (hg:g=(topN ns E-tot (ns.map (·.t)) R)*(E*(topN ns E+1)+1)+(n+1)):∃g',g'<g∧FrR w0 p ns M E g' w:=by
 obtain⟨-,v,L,R',H,Z,x,i,s,X,I,F,LL,h⟩:=Q
 have hlen:(ns.map (·.t)).length=ns.length:=by simp
 have h1:=I.tot_le G.ok (by rw [hlen,←G.n];exact G.root)
 rw [hlen] at h1
 refine⟨_,?_,v,L,R',H,Z,x,i,s,X,I,F,LL,rfl⟩
 rw [hg]
 exact Qrj h1 (Nat.le_trans LL (Nat.mul_le_mul_left _ (Nat.succ_le_succ h1))) h
structure FromP (w:World) (ns:List NM) (M:Int) (root:Nat) (e:Ending) (w':World):Prop where
 out:∃(rb:Nat) (R:Nat→RV) (H:Nat→Value) (Z:Nat→Sp) (x i:Nat) (s:Sp),e=.returned (.slice (some ⟨rb,0,none⟩) ns.length ns.length)∧RR w.heap.size w' (.slice (some ⟨rb,0,none⟩) ns.length ns.length) (tab ns.length (fun j=>(R j,H j)))∧(∀j,j<ns.length→RH w.heap.size w' (H j) (R j).hops)∧Inv (ns.map (·.t)) M root x i s [] R Z∧(gn (ns.map (·.t)) x).edges.length≤i
 t:Touch (fun _=>False) w w'
theorem infoReach:(Tryz.prog.info? 68).map (fun i=>(i.zero,i.size,i.bytes))=some (some (.agg #[.bool false,.int .u32 0,.slice none 0 0]),3,32):=by kernel_rfl
theorem alloc3 (w:World) (o1 o2 o3:Obj):((((w.alloc o1).alloc o2).alloc o3).drew).heap[w.heap.size]?=some o1∧((((w.alloc o1).alloc o2).alloc o3).drew).heap[w.heap.size+1]?=some o2∧((((w.alloc o1).alloc o2).alloc o3).drew).heap[w.heap.size+1+1]?=some o3:=by
 show (((w.heap.push o1).push o2).push o3)[w.heap.size]?=some o1∧(((w.heap.push o1).push o2).push o3)[w.heap.size+1]?=some o2∧(((w.heap.push o1).push o2).push o3)[w.heap.size+1+1]?=some o3
 refine⟨?_,?_,?_⟩
 ·rw [Array.getElem?_push,if_neg (by simp;omega),Array.getElem?_push,if_neg (by simp),Array.getElem?_push,if_pos (by simp)]
 ·rw [Array.getElem?_push,if_neg (by simp),Array.getElem?_push,if_pos (by simp)]
 ·rw [Array.getElem?_push,if_pos (by simp)]
theorem Qf0 {w:World} {g:Nat} {T:TypeId} {xs:List Value} (h:w.heap[g]?=some (.cells xs.toArray T)):Row w g T xs:=h
theorem Qpz (w:World) (nv:Value) (ns:List NM) (GA:GrAt w nv ns) (root:Nat) (hr:root<ns.length) (M:Int) (E:Nat) (G:GOk (ns.map (·.t)) M E) (hn:ns.length≤1000000) (hbig:E*(ns.length*(E*((ns.length+1)*2))+1)+1≤1099511627776) :
  Calls Tryz.prog 28 #[nv,.int .i64 root] w (FromP w ns M root):=by
 have HCO:Hid _:=contains17 w nv ns GA hn (fun x hx h=>G.rt _ (List.mem_map.2 ⟨x,hx,rfl⟩) h)
 have HGA:Hid _:=GA
 obtain⟨⟨a,cp,rfl,hsh⟩,hed⟩:=GA
 obtain⟨i1,hi1,hz1,hs1,hb1⟩:=infoParts infoReach
 obtain⟨i2,hi2,hz2,hs2,hb2⟩:=infoParts infoSt
 have hm1:∀w,(Instr.makeSlice 65 (.int .i64 (ns.length:Int)) (.int .i64 (ns.length:Int))).run Tryz.prog w=.ok (.slice (some ⟨w.heap.size,0,none⟩) ns.length ns.length) (w.alloc (.cells (cellsG rcs (tab ns.length (fun _=>(RV0,Value.slice none 0 0)))).toArray 68)):=by
  intro w
  have h:=run_make (P:=Tryz.prog) w 65 68 i1 _ Tryz.underlying65 hi1 hz1 .i64 .i64 (ns.length:Int) (ns.length:Int) (by omega) (Int.le_refl _) (by rw [hb1];omega) (by omega)
  rw [hs1] at h
  simp only [Int.toNat_natCast] at h
  rw [h,←Qkh Qbt (by omega) (RV0,Value.slice none 0 0) ns.length]
  rfl
 have hm2:∀w,(Instr.makeSlice 146 (.int .i64 (ns.length:Int)) (.int .i64 (ns.length:Int))).run Tryz.prog w=.ok (.slice (some ⟨w.heap.size,0,none⟩) ns.length ns.length) (w.alloc (.cells (cellsG Sp.cs (tab ns.length (fun _=>Sp0))).toArray 154)):=by
  intro w
  have h:=run_make (P:=Tryz.prog) w 146 154 i2 _ Tryz.underlying146 hi2 hz2 .i64 .i64 (ns.length:Int) (ns.length:Int) (by omega) (Int.le_refl _) (by rw [hb2];omega) (by omega)
  rw [hs2] at h
  simp only [Int.toNat_natCast] at h
  rw [h,←Qkh Sp.len (by omega) Sp0 ns.length]
  rfl
 have hr1:decide ((root:Int)<0)=false:=decide_eq_false (by omega)
 have hr2:decide ((ns.length:Int)≤(root:Int))=false:=decide_eq_false (by omega)
 have hbld:∀(w:World) (x y:Nat),(Instr.build 149 #[(1,.slice a ns.length cp),(2,.int .i64 (root:Int)),(3,.slice (some ⟨x,0,none⟩) ns.length ns.length),(4,.slice (some ⟨y,0,none⟩) ns.length ns.length)]).run Tryz.prog w=.ok (.agg #[.slice none 0 0,.slice a ns.length cp,.int .i64 (root:Int),.slice (some ⟨x,0,none⟩) ns.length ns.length,.slice (some ⟨y,0,none⟩) ns.length ns.length]) w:=fun w x y=>run_build w 149 _ _ (by kernel_rfl)
 clear hi1 hz1 hs1 hb1 hi2 hz2 hs2 hb2
 go_enter Tryz.func28,Tryz.ntmps28
 go_wp2_with ((go_at_call 58;refine Calls.mono HCO.out ?_;rintro en w1 ⟨rfl,t1⟩))
 go_cut [5] (fun s5 wx=>∃wb rb zb,s5=.pointer (some ⟨wb,0,none⟩)∧w1.heap.size≤wb∧w1.heap.size≤rb∧w1.heap.size≤zb∧wb≠rb∧wb≠zb∧rb≠zb∧Touch (fun _=>False) w1 wx∧Row wx wb 149 [.slice none 0 0,.slice a ns.length cp,.int .i64 (root:Int),.slice (some ⟨rb,0,none⟩) ns.length ns.length,.slice (some ⟨zb,0,none⟩) ns.length ns.length]∧Row wx rb 68 (cellsG rcs (tab ns.length (fun _=>(RV0,Value.slice none 0 0))))∧Row wx zb 154 (cellsG Sp.cs (tab ns.length (fun _=>Sp0))))
 case first =>
  go_region
  all_goals go_wp2_with fail
  all_goals go_meet
  ·obtain⟨a1,a2,a3⟩:=alloc3 w1 (.cells (cellsG rcs (tab ns.length (fun _=>(RV0,Value.slice none 0 0)))).toArray 68) (.cells (cellsG Sp.cs (tab ns.length (fun _=>Sp0))).toArray 154) (.cells #[.slice none 0 0,.slice a ns.length cp,.int .i64 (root:Int),.slice (some ⟨w1.heap.size,0,none⟩) ns.length ns.length,.slice (some ⟨w1.heap.size+1,0,none⟩) ns.length ns.length] 149)
   exact⟨w1.heap.size+1+1,w1.heap.size,w1.heap.size+1,rfl,by omega,by omega,by omega,by omega,by omega,by omega,((((Touch.refl _ w1).alloc _).alloc _).alloc _).drew,Qf0 a3,Qf0 a1,Qf0 a2⟩
  ·obtain⟨a1,a2,a3⟩:=alloc3 w1 (.cells (cellsG Sp.cs (tab ns.length (fun _=>Sp0))).toArray 154) (.cells (cellsG rcs (tab ns.length (fun _=>(RV0,Value.slice none 0 0)))).toArray 68) (.cells #[.slice none 0 0,.slice a ns.length cp,.int .i64 (root:Int),.slice (some ⟨w1.heap.size+1,0,none⟩) ns.length ns.length,.slice (some ⟨w1.heap.size,0,none⟩) ns.length ns.length] 149)
   exact⟨w1.heap.size+1+1,w1.heap.size+1,w1.heap.size,rfl,by omega,by omega,by omega,by omega,by omega,by omega,((((Touch.refl _ w1).alloc _).alloc _).alloc _).drew,Qf0 a3,Qf0 a2,Qf0 a1⟩
 case rest =>
  obtain⟨wb,rb,zb,rfl,hwb,hrb,hzb,n1,n2,n3,tc,RW,RRW,RZW⟩:=hcut
  generalize wc=w2 at *
  have T2:Touch (fun _=>False) w w2:=t1.trans tc
  have hs1:=t1.size
  have hNm:ns.length≤maxLen:=by unfold maxLen;omega
  have own1:RR w.heap.size w2 (.slice (some ⟨rb,0,none⟩) ns.length ns.length) (tab ns.length (fun _=>(RV0,Value.slice none 0 0))):=by
   refine⟨Qai Qbt _,Or.inr ⟨rb,ns.length,(cellsG rcs (tab ns.length (fun _=>(RV0,Value.slice none 0 0)))).toArray,by rw [Qau],by omega,RRW,by rw [Qau];exact Nat.le_refl _,hNm,by simp [Qai Qbt,Qau],?_⟩⟩
   rw [List.take_of_length_le]
   simp [Qai Qbt]
  have own2:RS w.heap.size w2 (.slice (some ⟨zb,0,none⟩) ns.length ns.length) (tab ns.length (fun _=>Sp0)):=by
   refine⟨Qai Sp.len _,Or.inr ⟨zb,ns.length,(cellsG Sp.cs (tab ns.length (fun _=>Sp0))).toArray,by rw [Qau],by omega,RZW,by rw [Qau];exact Nat.le_refl _,hNm,by simp [Qai Sp.len,Qau],?_⟩⟩
   rw [List.take_of_length_le]
   simp [Qai Sp.len]
  have X2:WS w ⟨.slice a ns.length cp,ns.length,root,wb,rb,zb⟩ w2 (.slice none 0 0) [] (fun _=>RV0) (fun _=>.slice none 0 0) (fun _=>Sp0) :=
   ⟨T2,⟨RW.cell 0,RW.frozen 0,World.ownsRow_nil _ _ _ _,by simp [Value.ownBlock],by simp⟩,fun c _ h=>by simp at h,RW.cell 1,RW.cell 2,RW.cell 3,RW.cell 4,by show w.heap.size≤wb;omega,own1,own2,fun i _=>World.ownsRow_nil _ _ _ _,n1,n2,n3,by simp [Value.ownBlock],by simp [Value.ownBlock],fun i g _ h=>by simp [Value.ownBlock] at h,fun i j g _ _ _ h=>by simp [Value.ownBlock] at h⟩
  have hGB:GB ⟨.slice a ns.length cp,ns.length,root,wb,rb,zb⟩ ns M E:=⟨G,rfl,hn,hr,hbig⟩
  have X3:=X2.mark (i:=root) hr true
  have I3:=Inv.start (ns.map (·.t)) G.m0 root (by simpa using hr) (upf (fun _=>RV0) root ⟨true,0,[]⟩) (fun _=>Sp0) (Qag _ _ _) (fun v hv=>Qaf _ _ hv)
  have hT0:tot (ns.map (·.t)) (upf (fun _=>RV0) root ⟨true,0,[]⟩)=0:=by
   unfold tot
   have h:=Qi1 (n:=(ns.map (·.t)).length) (B:=0) (f:=fun v=>(upf (fun _=>RV0) root ⟨true,0,[]⟩ v).hops.length) (fun v _=>by
    by_cases e:v=root
    ·subst e;rw [Qag];simp
    ·rw [Qaf _ _ e];simp [RV0])
   omega
  obtain⟨xn,hx⟩:∃xn,ns[root]?=some xn:=⟨_,List.getElem?_eq_getElem hr⟩
  have hxt:gn (ns.map (·.t)) root=xn.t:=by unfold gn;rw [List.getD_eq_getElem?_getD,List.getElem?_map,hx];rfl
  have hdeg:xn.t.edges.length≤E:=G.deg _ (List.mem_map.2 ⟨xn,List.mem_of_getElem? hx,rfl⟩)
  rcases hsh with e|⟨ng,rfl,hcs2⟩
  ·rw [e] at hx;cases hx
  have q5:(w2.setCell ⟨rb,root*3,none⟩ (.bool true)).cell? ⟨ng,root*7+5,none⟩=some (.slice xn.ea xn.t.edges.length xn.ec):=X3.t.cellN (hcs2 root xn hx 5 _ rfl)
  have c3:=X2.c3
  have r0:=(X2.rcell (i:=root) hr).1
  have rf:=X2.rfz
  simp only at c3 r0 rf
  have hrl:(root:Int)<(ns.length:Int):=by omega
  have hr0:(0:Int)≤(root:Int):=by omega
  have hE40:E≤1099511627776:=by
   rw [Nat.mul_add,Nat.mul_one] at hbig
   omega
  have hdgi:(xn.t.edges.length:Int)≤1099511627776:=by omega
  have HST:Hid (RtR w ⟨.slice (some ⟨ng,0,none⟩) ns.length cp,ns.length,root,wb,rb,zb⟩ ns M (fun _=>.slice none 0 0) 0 (w2.setCell ⟨rb,root*3,none⟩ (.bool true))):=⟨_,_,_,_,X3,I3,hT0,Nat.le_refl _⟩
  have HED:Hid _:=hed xn (List.mem_of_getElem? hx)
  have HGB:Hid _:=hGB
  have HXT:Hid _:=hxt
  have HDG:Hid _:=hdeg
  have hnr:¬ng=rb:=fun e=>by
   have h1:=Qaa (hcs2 root xn hx 5 _ rfl)
   omega
  clear hm1 hm2 hbld X2 X3 I3 hT0 hcs2 hed hxt hdeg hGB RW RRW RZW own1 own2 tc T2 hs1 hNm hE40 hx HCO hr1 hr2 t1
  generalize hea0:xn.ea=ea0 at *
  generalize hdd:xn.t.edges.length=dg at *
  have HDD:Hid _:=hdd
  clear hea0 hdd
  have q5':w2.cell? ⟨ng,root*7+5,none⟩=some (.slice ea0 dg xn.ec):=by simpa [go_sem,hnr] using q5
  clear q5
  go_wp2_with fail
  go_loopw [43] (fun s43 wx=>∃j:Nat,s43=.int .i64 j∧j≤dg∧RtR w ⟨.slice (some ⟨ng,0,none⟩) ns.length cp,ns.length,root,wb,rb,zb⟩ ns M (fun _=>.slice none 0 0) j wx) (fun s43 _=>dg-(intOf s43).toNat)
  case atStart=>exact⟨0,rfl,Nat.zero_le _,HST.out⟩
  case round =>
   clear HST
   obtain⟨j,rfl,hj,XE⟩:=hrel
   by_cases hjd:j<dg
   ·obtain⟨e,he⟩:∃e,xn.t.edges[j]?=some e:=⟨_,List.getElem?_eq_getElem (by have:=HDD.out;omega)⟩
    rcases HED.out with e1|⟨eg,rfl,hce⟩
    ·rw [e1] at he;cases he
    obtain⟨⟨v1,L1,R1,Z1,X1,I1,T1,LL1⟩⟩:=XE
    have q0:wr.cell? ⟨eg,j*4,none⟩=some (.int .i64 e.dst):=X1.t.cellN (hce j e he 0 _ rfl)
    have q1:wr.cell? ⟨eg,j*4+1,none⟩=some (.int .u32 e.cost):=X1.t.cellN (hce j e he 1 _ rfl)
    have q2:wr.cell? ⟨eg,j*4+2,none⟩=some (.int .u32 e.data):=X1.t.cellN (hce j e he 2 _ rfl)
    have q3:wr.cell? ⟨eg,j*4+3,none⟩=some (.bool e.vr):=X1.t.cellN (hce j e he 3 _ rfl)
    have he':(gn (ns.map (·.t)) root).edges[j]?=some e:=by rw [HXT.out];exact he
    have hEc:=G.ed _ (Qbx (by simpa using hr)) e (List.mem_of_getElem? he')
    have tA:Touch (fun _=>False) wr (wr.alloc (.cells #[.int .i64 e.dst,.int .u32 e.cost,.int .u32 e.data,.bool e.vr] 134)):=(Touch.refl _ _).alloc _
    have hlL:L1.length+1≤1099511627776:=by
     refine HGB.out.few (R:=R1) (i:=j) (by rw [T1];exact Nat.zero_le _) (by have:=HDG.out;omega) ?_
     rw [T1];omega
    have HTRY:=Qo9 w ⟨.slice (some ⟨ng,0,none⟩) ns.length cp,ns.length,root,wb,rb,zb⟩ ns HGA.out rfl hn hr (wr.alloc (.cells #[.int .i64 e.dst,.int .u32 e.cost,.int .u32 e.data,.bool e.vr] 134)) v1 L1 R1 (fun _=>.slice none 0 0) Z1 (X1.keep tA) e 0 ⟨e.data,0,e.vr⟩ ⟨by omega,by omega⟩ ⟨hEc.1,hEc.2.2.1⟩ hlL
    have FIN:Hid (∀en w5,TryP w ⟨.slice (some ⟨ng,0,none⟩) ns.length cp,ns.length,root,wb,rb,zb⟩ ns e 0 ⟨e.data,0,e.vr⟩ (wr.alloc (.cells #[.int .i64 e.dst,.int .u32 e.cost,.int .u32 e.data,.bool e.vr] 134)) v1 L1 R1 (fun _=>.slice none 0 0) Z1 en w5→RtR w ⟨.slice (some ⟨ng,0,none⟩) ns.length cp,ns.length,root,wb,rb,zb⟩ ns M (fun _=>.slice none 0 0) (j+1) w5):=fun en w5 Q=>RtR.step HGB.out X1 I1 T1 LL1 he' tA Q
    have HT:Hid _:=HTRY
    have hj1:(j:Int)<(dg:Int):=by omega
    have hj0:(0:Int)≤(j:Int):=by omega
    have hbld2:∀w,(Instr.build 48 #[(0,.int .u32 e.data),(2,.bool e.vr)]).run Tryz.prog w=.ok (.agg #[.int .u32 e.data,.int .u32 0,.bool e.vr]) w:=fun w=>run_build w 48 _ _ (by kernel_rfl)
    clear HTRY X1 I1 T1 LL1 tA hEc hlL he he' hce
    go_wp2_with ((go_at_call 60;refine Calls.mono HT.out ?_;rintro en w5 Q;have ee:=Q.ed;subst ee;have HF:Hid _:=FIN.out _ w5 Q;clear Q))
    go_roundw
    case rel=>exact⟨j+1,by go_num,by omega,HF.out⟩
    case measure=>simp [intOf];omega
   ·have hjj:j=dg:=by omega
    subst hjj
    have HFR:Hid (∃g,FrR w ⟨.slice (some ⟨ng,0,none⟩) ns.length cp,ns.length,root,wb,rb,zb⟩ ns M E g wr):=by
     obtain⟨⟨v1,L1,R1,Z1,X1,I1,T1,LL1⟩⟩:=XE
     refine⟨_,v1,L1,R1,_,Z1,root,j,Sp0,X1,I1,by rw [HXT.out];exact Nat.le_of_eq HDD.out,?_,rfl⟩
     rw [T1]
     have:=HDG.out
     omega
    clear XE
    obtain⟨g0,HFR0⟩:=HFR.out
    have HFR1:Hid _:=HFR0
    clear HFR HFR0
    go_wp2_with fail
    go_loopg [] g0 (fun gg wx=>FrR w ⟨.slice (some ⟨ng,0,none⟩) ns.length cp,ns.length,root,wb,rb,zb⟩ ns M E gg wx)
    case atStart=>exact HFR1.out
    case round =>
     clear HFR1
     obtain⟨⟨v1,L1,R1,H1,Z1,x1,i1,s1,X1,I1,F1,LL1,hg⟩⟩:=hrel
     obtain⟨va,vc,rfl⟩:=X1.ls.re.shape
     have c0:=X1.ls.c0
     simp only at c0
     have hL40:(L1.length:Int)≤1099511627776:=by have:=X1.ls.hl;omega
     have HLEN:Hid _:=Qji wr wb (.slice va L1.length vc) w.heap.size L1 X1.ls
     have HX1:Hid _:=X1
     have HI1:Hid _:=I1
     have HF1:Hid _:=F1
     have HLL1:Hid _:=LL1
     have HG1:Hid _:=hg
     by_cases hl0:L1.length=0
     ·have e:L1=[]:=List.length_eq_zero_iff.1 hl0
      subst e
      have FIN:Hid (FromP w ns M root (.returned (.slice (some ⟨rb,0,none⟩) ns.length ns.length)) wr):=⟨⟨rb,R1,H1,Z1,x1,i1,s1,rfl,X1.rr,X1.hh,I1,F1⟩,X1.t⟩
      have c3:=X1.c3
      simp only at c3
      clear X1 I1 F1 LL1 hg
      simp only [List.length_nil] at *
      go_wp2_with ((go_at_call 61;refine Calls.mono HLEN.out ?_;rintro en wx ⟨rfl,rfl⟩))
      go_ret
      exact FIN.out
     ·have HNX:Hid _:=Qrs wr wb (.slice va L1.length vc) w.heap.size L1 X1.ls X1.hp (by omega)
      have hl1:(0:Int)<(L1.length:Int):=by omega
      have HL0:Hid _:=hl0
      clear X1 I1 F1 LL1 hg hl0
      go_wp2_with ((go_at_call 61;refine Calls.mono HLEN.out ?_;rintro en wx ⟨rfl,rfl⟩))
      refine Calls.mono HNX.out ?_
      rintro en w5 ⟨⟨⟨sn,sc,so,sv,sr⟩,v2,L2,rfl,P2,pe,hp2,mn,hv2⟩,t2⟩
      simp only [Sp.v]
      have HTK:Hid _:=Qrf w ⟨.slice (some ⟨ng,0,none⟩) ns.length cp,ns.length,root,wb,rb,zb⟩ ns HGA.out M E HGB.out w5 v2 L2 L1 R1 H1 Z1 x1 i1 s1 ⟨sn,sc,so,sv,sr⟩ (HX1.out.line P2 hp2 (Or.inl hv2) t2) HI1.out HF1.out pe mn HLL1.out
      have HLN:Hid (L1.length=L2.length+1):=(by have:=pe.length_eq;show _=_;simpa using this)
      clear P2 pe hp2 mn hv2 t2
      go_wp2_with fail
      refine Calls.mono HTK.out ?_
      rintro en w6 Q
      have ee:=Q.ed
      subst ee
      obtain⟨g',hg',HQ⟩:=FrR.next HGB.out Q (HG1.out.trans (by rw [HLN.out]))
      have HQQ:Hid _:=HQ
      have HGG:Hid _:=hg'
      clear Q HQ hg'
      go_wp2_with fail
      go_roundg g'
      case measure=>exact HGG.out
      case rel=>exact HQQ.out
theorem Inv.opt {g:List TN} {M:Int} {E:Nat} (G:GOk g M E) {root x i:Nat} {cur:Sp} {R:Nat→RV} {Z:Nat→Sp} (I:Inv g M root x i cur [] R Z) (hf:(gn g x).edges.length≤i) (hM:M*(g.length:Int)≤4294967295) {v:Nat} {c:Int} (W:Wk g root v c):(R v).is=true∧(R v).cost≤c∧St root R v:=by
 have st:∀v,v<g.length→(R v).is=true→St root R v:=by
  intro v hv h
  by_cases e:v=root
  ·exact Or.inl e
  ·rcases I.wt v hv e h with h|⟨s,h,_⟩
   ·exact Or.inr h
   ·cases h
 have hcn:M*(cnt g root R:Int)≤M*(g.length:Int):=Int.mul_le_mul_of_nonneg_left (by have:=Qve g root R;omega) G.m0
 induction W with
 | nil hu=>rw [I.rr];exact⟨rfl,Int.le_refl _,Or.inl rfl⟩
 | @snoc v y c e W he hd hy ih =>
  obtain⟨h1,h2,h3⟩:=ih
  have hv:v<g.length:=by
   rcases Nat.lt_or_ge v g.length with h|h
   ·exact h
   ·unfold gn at he
    rw [List.getD_eq_getElem?_getD,List.getElem?_eq_none h] at he
    simp [TN0] at he
  have hE:=G.ed _ (Qbx hv) e he
  have hb:=I.bs v hv h3
  obtain⟨j,hj,hje⟩:=List.mem_iff_getElem.1 he
  have hje':(gn g v).edges[j]?=some e:=by rw [List.getElem?_eq_getElem hj,hje]
  obtain⟨a1,a2⟩:=I.cl v hv h3 j e hje' (fun hvx=>by subst hvx;omega) y hd hy (by omega)
  exact⟨a1,by omega,st y hy a1⟩
theorem Inv.hopsN {g:List TN} {M:Int} {root x i:Nat} {cur:Sp} {R:Nat→RV} {Z:Nat→Sp} (I:Inv g M root x i cur [] R Z) {v:Nat} (hv:v<g.length) (h:(R v).is=true) (hr:v≠root):(R v).hops≠[]:=by
 rcases I.wt v hv hr h with h|⟨s,h,_⟩
 ·exact h
 ·cases h
theorem Quu {l:List HK} {k:HK} (hp:l.Pairwise HK.lt) (hn:l≠[]) (h:∀x∈l,x=k):l=[k]:=by
 match l,hp,hn,h with
 | [],_,hn,_=>exact (hn rfl).elim
 | [a],_,_,h=>rw [h a (by simp)]
 | a::b::t,hp,_,h =>
  have h1:=(List.pairwise_cons.1 hp).1 b (by simp)
  rw [h a (by simp),h b (by simp)] at h1
  exact (HK.lt_irrefl _ h1).elim
open Go.ChangeShapes Go.WideShapes Go.ChangeAt Go.RowKit
section
variable {H:Type} {enc:TypeId×Value→H} {w:World} {base:Nat} {held:Bool}
theorem Qb0 {sp:Nat→Bool} {fuel:Nat} {t:TypeId} {fs:Array Field} {cs:List Value} {x:DataW H×List MemPlace} (ht:Tryz.prog.underlying t=some (.struct fs)) (h:DataW.trod enc Tryz.prog w base sp held fuel t cs=some x)
  (i:Nat) (f:Field) (hf:fs[i]?=some f) (o:Nat) (ho:f.offset=o) (k:IntKind) (hk:Tryz.prog.underlying f.type=some (.int k)) (hc:Tryz.prog.cellsOf f.type=1):∃n,(cs.drop o).take 1=[.int k n]∧(Lit.int k n).wf=true:=by
 obtain⟨xs,m,_,_,_,hlen,hall⟩:=DataW.trod_struct ht h
 have hi:i<xs.length:=by
  have:=(Array.getElem?_eq_some_iff.mp hf).1
  omega
 have:=hall i f hf
 rw [ho,hc,List.getElem?_eq_getElem hi] at this
 obtain⟨n,e,_,wf⟩:=DataW.trod_int hk this
 exact⟨n,e,wf⟩
theorem Qsx {sp:Nat→Bool} {fuel:Nat} {t:TypeId} {fs:Array Field} {cs:List Value} {x:DataW H×List MemPlace} (ht:Tryz.prog.underlying t=some (.struct fs)) (h:DataW.trod enc Tryz.prog w base sp held fuel t cs=some x):cs.length=Tryz.prog.cellsOf t:=by
 obtain⟨xs,m,_,_,hl,_⟩:=DataW.trod_struct ht h
 exact hl
def LightG (t:TypeId) (d:DataW H):Prop:=∀n∈d.weights Tryz.prog t,n≤140737488355328
theorem Qc0 {sp:Nat→Bool} {fuel:Nat} {t:TypeId} {fs:Array Field} {cs:List Value} {x:DataW H×List MemPlace} (ht:Tryz.prog.underlying t=some (.struct fs)) (h:DataW.trod enc Tryz.prog w base sp held fuel t cs=some x) (hL:LightG t x.1)
  (i:Nat) (f:Field) (hf:fs[i]?=some f) (o n:Nat) (ho:f.offset=o) (hc:Tryz.prog.cellsOf f.type=n):∃m y,DataW.trod enc Tryz.prog w base sp held m f.type ((cs.drop o).take n)=some y∧LightG f.type y.1:=by
 obtain⟨xs,m,_,hx,_,hlen,hall⟩:=DataW.trod_struct ht h
 have hi:i<xs.length:=by
  have:=(Array.getElem?_eq_some_iff.mp hf).1
  omega
 have h1:=hall i f hf
 rw [ho,hc,List.getElem?_eq_getElem hi] at h1
 refine⟨m,_,h1,fun n hn=>hL n ?_⟩
 rw [hx]
 simp only [DataW.weights,ht]
 exact DataW.weights_mem_each (j:=i) (t:=f.type) (d:=xs[i].1) (by simp [hf]) (by simp [hi]) n hn
theorem Qhc {t e:TypeId} {fuel:Nat} {cs:List Value} {x:DataW H×List MemPlace} (ht:Tryz.prog.underlying t=some (.slice e)) (he:0<Tryz.prog.bytesOf e) (h:DataW.trod enc Tryz.prog w base (fun _=>true) held fuel t cs=some x) (hL:LightG t x.1) :
  ∀a len cap,cs=[.slice a len cap]→len≤140737488355328:=by
 intro a len cap hcs
 rcases Deep.open_slice ht h with⟨h0,_⟩|⟨ad,l,c,m,n,D,Pl,h0,_,hl,hm,hmm,hx,hel⟩
 ·rw [hcs] at h0
  simp at h0
  omega
 ·rw [hcs] at h0
  simp at h0
  obtain⟨-,rfl,-⟩:=h0
  have:=hL ((len+(m-len))*Tryz.prog.bytesOf e) (by rw [hx];simp [DataW.weights,ht])
  have h2:len*1≤(len+(m-len))*Tryz.prog.bytesOf e:=Nat.mul_le_mul (by omega) he
  omega
theorem Qiq {t e:TypeId} {l k:Nat} {D:Nat→DataW H} {x:DataW H×List MemPlace} {q:List (DataW H)} {p:List MemPlace} (ht:Tryz.prog.underlying t=some (.slice e)) (hx:x=(.slice ((List.range l).map D) q,p)) (hL:LightG t x.1) (i:Nat) (hi:i<l):LightG e (D i):=by
 intro n hn
 refine hL n ?_
 rw [hx]
 simp only [DataW.weights,ht,List.mem_cons,List.mem_append]
 refine Or.inr (Or.inl ?_)
 have G:∀(ds:List (DataW H)) (d:DataW H),d∈ds→n∈d.weights Tryz.prog e→n∈DataW.weightsAll Tryz.prog e ds:=by
  intro ds
  induction ds with
  | nil=>intro d hd;cases hd
  | cons a r ih =>
   intro d hd hn
   simp only [DataW.weightsAll,List.mem_append]
   rcases List.mem_cons.mp hd with rfl|hd
   ·exact Or.inl hn
   ·exact Or.inr (ih d hd hn)
 exact G _ (D i) (by simp only [List.mem_map,List.mem_range];exact⟨i,hi,rfl⟩) hn
def RwAt {α:Type} (cs:α→List Value) (k:Nat) (w:World) (a:Option Addr) (l:List α):Prop:=l=[]∨∃g o,a=some ⟨g,o,none⟩∧∀i x,l[i]?=some x→∀d u,(cs x)[d]?=some u→w.cell? ⟨g,o+i*k+d,none⟩=some u
theorem Qj1 {α:Type} [Inhabited α] {cs:α→List Value} {k:Nat} (hk0:0<k) (hk:∀x,(cs x).length=k) {P:α→Prop} {t e:TypeId} (ht:Tryz.prog.underlying t=some (.slice e)) (he:0<Tryz.prog.bytesOf e) (hcl:Tryz.prog.cellsOf e=k)
  (each:∀{fuel:Nat} {c:List Value} {x:DataW H×List MemPlace},DataW.trod enc Tryz.prog w base (fun _=>true) held fuel e c=some x→LightG e x.1→∃y:α,c=cs y∧P y)
  {fuel:Nat} {c:List Value} {x:DataW H×List MemPlace} (h:DataW.trod enc Tryz.prog w base (fun _=>true) held fuel t c=some x) (hL:LightG t x.1) :
  ∃a cap l,c=[.slice a (List.length l) cap]∧RwAt cs k w a l∧(∀y∈l,P y)∧l.length≤140737488355328:=by
 have hz:=Qhc ht he h hL
 rcases Deep.open_slice ht h with⟨hcs,_⟩|⟨ad,l,cp,m,n,D,Pl,hcs,_,hl,hm,hmm,hx,hel⟩
 ·exact⟨none,0,[],hcs,Or.inl rfl,by simp,by simp⟩
 ·simp at hmm
  subst hmm
  have each':∀i,i<l→∃s:α,P s∧∀r u,(cs s)[r]?=some u→w.cell? (ad.add (i*k+r))=some u:=by
   intro i hi
   obtain⟨cs',h1,h2⟩:=hel i (by omega)
   rw [hcl] at h1
   obtain⟨_,hlen,hcell⟩:=World.cells?_some h1
   obtain⟨s,rfl,ok⟩:=each h2 (Qiq (k:=0) ht hx hL i hi)
   refine⟨s,ok,fun r u hu=>?_⟩
   have hr:r<k:=by rw [←hk s];exact (List.getElem?_eq_some_iff.mp hu).1
   have q:=hcell r (by rw [←hcl] at hr;omega)
   rw [Deep.add_add] at q
   rw [q]
   exact hu
  obtain⟨f,hf⟩:=Deep.choose_lt each'
  have hln:((List.range l).map f).length=l:=by simp
  refine⟨some ad,_,(List.range l).map f,by rw [hln];exact hcs,?_,fun y hy=>?_,by rw [hln];exact hz _ _ _ hcs⟩
  ·rcases Nat.eq_zero_or_pos l with h0|h0
   ·subst h0;exact Or.inl rfl
   ·obtain⟨g,off,spot⟩:=ad
    obtain⟨u0,hu0⟩:∃u,(cs (f 0))[0]?=some u:=⟨_,List.getElem?_eq_getElem (by rw [hk];exact hk0)⟩
    have hc:=(hf 0 h0).2 0 u0 hu0
    have hspot:spot=none:=by simpa [Addr.add] using World.cell?_spot hc
    subst hspot
    refine Or.inr ⟨g,off,rfl,fun i x hx d u hd=>?_⟩
    have hi:i<l:=by have:=(List.getElem?_eq_some_iff.mp hx).1;simpa using this
    have e1:x=f i:=by simpa [hi] using hx.symm
    subst e1
    have:=(hf i hi).2 d u hd
    rw [Qae] at this
    rw [Nat.add_assoc]
    exact this
  ·simp only [List.mem_map,List.mem_range] at hy
   obtain⟨i,hi,rfl⟩:=hy
   exact (hf i hi).1
end
structure RA (w:World) (v:Value) (l:List HK):Prop where
 out:∃a c,v=.slice a l.length c∧RwAt HK.cs 3 w a l
theorem RA.keep {w w':World} {v:Value} {l:List HK} (h:RA w v l) (t:Touch (fun _=>False) w w'):RA w' v l:=by
 obtain⟨a,c,rfl,h|⟨g,o,rfl,hc⟩⟩:=h.out
 ·exact⟨_,_,rfl,Or.inl h⟩
 ·exact⟨_,_,rfl,Or.inr ⟨g,o,rfl,fun i x hx d u hd=>t.cellN (hc i x hx d u hd)⟩⟩
theorem HV3.ra {w:World} {v:Value} {l:List HK} (h:HV3 w v l):RA w v l:=by
 rcases Nat.eq_zero_or_pos l.length with h0|h0
 ·obtain⟨a,c,rfl,-⟩:=h.form
  exact⟨a,c,rfl,Or.inl (List.length_eq_zero_iff.1 h0)⟩
 ·obtain⟨g,o,c,rfl,-,-,hc⟩:=h.cells h0 (by omega)
  refine⟨_,c,rfl,Or.inr ⟨g,o,rfl,fun i x hx d u hd=>?_⟩⟩
  have hd3:d<3:=(List.getElem?_eq_some_iff.1 hd).1
  have:=hc (i*3+d) u (by rw [Qa0 HK.len _ _ _ hd3,hx];exact hd)
  rw [Nat.add_assoc]
  exact this
theorem Qvs {l:List HK} {i:Nat} {x:HK} (h:l[i]?=some x):l.take (i+1)=l.take i++[x]:=by rw [List.take_add_one,h];rfl
open Go.ChangeShapes Go.WideShapes Go.ChangeAt Go.RowKit
structure WNk (x:WP):Prop where
 ad:0≤x.p.addr∧x.p.addr≤4294967295
 bi:0≤x.p.bits∧x.p.bits≤255
 rt:0≤x.router∧x.router≤4294967295
 fl:0≤x.flags∧x.flags≤255
 ki:0≤x.kind∧x.kind≤255
 ar:0≤x.area∧x.area≤4294967295
 co:0≤x.cost∧x.cost≤4294967295
 di:0≤x.dist∧x.dist≤4294967295
 tg:0≤x.tag∧x.tag≤4294967295
structure WIn (w:World) (y:WY):Prop where
 nk:WNk y.x
 ra:RA w y.hv y.x.hs
 ln:y.x.hs.length≤140737488355328
 vi:∀h∈y.x.hs,0≤h.via∧h.via≤4294967295
theorem WIn.keep {w w':World} {y:WY} (h:WIn w y) (t:Touch (fun _=>False) w w'):WIn w' y:=⟨h.nk,h.ra.keep t,h.ln,h.vi⟩
structure WsAt (w:World) (v:Value) (l:List WY):Prop where
 sh:∃a c,v=.slice a l.length c∧RwAt WY.cs 10 w a l
 ok:∀y∈l,WIn w y
theorem WsAt.keep {w w':World} {v:Value} {l:List WY} (h:WsAt w v l) (t:Touch (fun _=>False) w w'):WsAt w' v l:=by
 refine⟨?_,fun y hy=>(h.ok y hy).keep t⟩
 obtain⟨a,c,rfl,e|⟨g,o,rfl,hc⟩⟩:=h.sh
 ·exact⟨_,_,rfl,Or.inl e⟩
 ·exact⟨_,_,rfl,Or.inr ⟨g,o,rfl,fun i x hx d u hd=>t.cellN (hc i x hx d u hd)⟩⟩
section
variable {H:Type} {enc:TypeId×Value→H} {w:World} {base:Nat} {held:Bool}
theorem Qo3 {fuel:Nat} {cs:List Value} {x:DataW H×List MemPlace} (h:DataW.trod enc Tryz.prog w base (fun _=>true) held fuel 103 cs=some x) (hL:LightG 103 x.1):∃e:HK,cs=e.cs∧(0≤e.via∧e.via≤4294967295):=by
 have hl:=Qsx Tryz.underlying103 h
 have hc:Tryz.prog.cellsOf 103=3:=by kernel_rfl
 rw [hc] at hl
 obtain⟨n0,e0,w0⟩:=Qb0 Tryz.underlying103 h 0 _ rfl 0 rfl .u32 Tryz.underlying23 (by kernel_rfl)
 obtain⟨n1,e1,w1⟩:=Qb0 Tryz.underlying103 h 1 _ rfl 1 rfl .u32 Tryz.underlying23 (by kernel_rfl)
 obtain⟨m2,y2,a2,-⟩:=Qc0 Tryz.underlying103 h hL 2 _ rfl 2 1 rfl (by kernel_rfl)
 obtain⟨n2,e2,_⟩:=DataW.trod_bool Tryz.underlying4 a2
 match cs,hl with
 | [c0,c1,c2],_ =>
  simp only [List.drop,List.take,List.cons.injEq,and_true] at e0 e1 e2
  subst e0 e1 e2
  exact⟨⟨n0,n1,n2⟩,rfl,bounds_u32 w1⟩
theorem Qr1 {fuel:Nat} {cs:List Value} {x:DataW H×List MemPlace} (h:DataW.trod enc Tryz.prog w base (fun _=>true) held fuel 84 cs=some x) (hL:LightG 84 x.1):∃y:WY,cs=y.cs∧WIn w y:=by
 haveI:Inhabited HK:=⟨HK0⟩
 have hl:=Qsx Tryz.underlying84 h
 have hc:Tryz.prog.cellsOf 84=10:=by kernel_rfl
 rw [hc] at hl
 obtain⟨m0,y0,a0,-⟩:=Qc0 Tryz.underlying84 h hL 0 _ rfl 0 2 rfl (by kernel_rfl)
 obtain⟨n0,e0,w0⟩:=Qb0 Tryz.underlying42 a0 0 _ rfl 0 rfl .u32 Tryz.underlying23 (by kernel_rfl)
 obtain⟨n1,e1,w1⟩:=Qb0 Tryz.underlying42 a0 1 _ rfl 1 rfl .u8 Tryz.underlying5 (by kernel_rfl)
 obtain⟨n2,e2,w2⟩:=Qb0 Tryz.underlying84 h 1 _ rfl 2 rfl .u32 Tryz.underlying23 (by kernel_rfl)
 obtain⟨n3,e3,w3⟩:=Qb0 Tryz.underlying84 h 2 _ rfl 3 rfl .u8 Tryz.underlying5 (by kernel_rfl)
 obtain⟨n4,e4,w4⟩:=Qb0 Tryz.underlying84 h 3 _ rfl 4 rfl .u8 Tryz.underlying5 (by kernel_rfl)
 obtain⟨n5,e5,w5⟩:=Qb0 Tryz.underlying84 h 4 _ rfl 5 rfl .u32 Tryz.underlying23 (by kernel_rfl)
 obtain⟨n6,e6,w6⟩:=Qb0 Tryz.underlying84 h 5 _ rfl 6 rfl .u32 Tryz.underlying23 (by kernel_rfl)
 obtain⟨n7,e7,w7⟩:=Qb0 Tryz.underlying84 h 6 _ rfl 7 rfl .u32 Tryz.underlying23 (by kernel_rfl)
 obtain⟨n8,e8,w8⟩:=Qb0 Tryz.underlying84 h 7 _ rfl 8 rfl .u32 Tryz.underlying23 (by kernel_rfl)
 obtain⟨m9,y9,a9,l9⟩:=Qc0 Tryz.underlying84 h hL 8 _ rfl 9 1 rfl (by kernel_rfl)
 obtain⟨ha,hcp,hs,e9,r9,ok9,hn9⟩:=Qj1 (cs:=HK.cs) (k:=3) (by omega) (fun _=>rfl) (P:=fun e=>0≤e.via∧e.via≤4294967295) Tryz.underlying80 (of_decide_eq_true (by kernel_rfl)) (by kernel_rfl) (fun h hL=>Qo3 h hL) a9 l9
 match cs,hl with
 | [c0,c1,c2,c3,c4,c5,c6,c7,c8,c9],_ =>
  simp only [List.drop,List.take,List.cons.injEq,and_true] at e0 e1 e2 e3 e4 e5 e6 e7 e8 e9
  subst e0 e1 e2 e3 e4 e5 e6 e7 e8 e9
  exact⟨⟨⟨⟨n0,n1⟩,n2,n3,n4,n5,n6,n7,n8,hs⟩,.slice ha hs.length hcp⟩,rfl,⟨bounds_u32 w0,bounds_u8 w1,bounds_u32 w2,bounds_u8 w3,bounds_u8 w4,bounds_u32 w5,bounds_u32 w6,bounds_u32 w7,bounds_u32 w8⟩,⟨_,_,rfl,r9⟩,hn9,ok9⟩
theorem Qfn {a:Option Addr} {len cap:Nat} {d:DataW H} {p:List MemPlace} (hd:DataW.Trod enc Tryz.prog w base (fun _=>true) held 30 (.slice a len cap) d p) (hL:LightG 30 d) :
  ∃l:List WY,WsAt w (.slice a len cap) l∧l.length≤140737488355328:=by
 haveI:Inhabited WY:=⟨⟨⟨⟨0,0⟩,0,0,0,0,0,0,0,[]⟩,.slice none 0 0⟩⟩
 obtain⟨fuel,hf⟩:=hd
 have h:DataW.trod enc Tryz.prog w base (fun _=>true) held fuel 30 [.slice a len cap]=some (d,p):=by simpa [Value.cells] using hf
 obtain⟨a',cap',ns,e,r,ok,hn⟩:=Qj1 (cs:=WY.cs) (k:=10) (by omega) (fun _=>rfl) (P:=WIn w) Tryz.underlying30 (of_decide_eq_true (by kernel_rfl)) (by kernel_rfl) (fun h hL=>Qr1 h hL) h hL
 simp at e
 obtain⟨rfl,rfl,rfl⟩:=e
 exact⟨ns,⟨⟨_,_,rfl,r⟩,ok⟩,hn⟩
end
end Go.Proofs.YtddbffoiadmffaaGreat
