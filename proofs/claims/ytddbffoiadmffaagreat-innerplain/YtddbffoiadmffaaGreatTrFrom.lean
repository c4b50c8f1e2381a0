import Derived.Test.YtddbffoiadmffaaGreatTrFrom0
namespace Go.Proofs.YtddbffoiadmffaaGreat
set_option maxHeartbeats 8000000
open Go.RowKit
set_option linter.unusedVariables false
set_option maxRecDepth 100000
theorem WS.mark {w0:World} {p:WB} {w:World} {v:Value} {L:List Sp} {R:Nat→RV} {H:Nat→Value} {Z:Nat→Sp} (X:WS w0 p w v L R H Z) {i:Nat} (hi:i<p.N) (b:Bool):WS w0 p (w.setCell ⟨p.rb,i*3,none⟩ (.bool b)) v L (upf R i ⟨b,(R i).cost,(R i).hops⟩) H Z:=by
 have t:Touch (fun k=>k=p.rb) w (w.setCell ⟨p.rb,i*3,none⟩ (.bool b)):=tset1 (Touch.refl _ _) _ _
 have r1:=RG.set1 Qbp X.rr (i:=i) (d:=0) (x:=(R i,H i)) (y:=(⟨b,(R i).cost,(R i).hops⟩,H i)) (by omega) (Qbg _ hi) (u:=.bool b) rfl
 rw [Qfb] at r1
 have e:upf (fun i=>(R i,H i)) i (⟨b,(R i).cost,(R i).hops⟩,H i)=fun j=>(upf R i ⟨b,(R i).cost,(R i).hops⟩ j,H j):=by
  funext j
  by_cases h:j=i
  ·subst h;simp only [Qag]
  ·simp only [Qae _ _ h]
 rw [e] at r1
 have hw:p.wb<w.heap.size:=X.ls.lt
 have cw:∀o,(w.setCell ⟨p.rb,i*3,none⟩ (.bool b)).cell? ⟨p.wb,o,none⟩=w.cell? ⟨p.wb,o,none⟩:=fun o=>t.cell (p:=⟨p.wb,o,none⟩) hw X.d1
 refine⟨X.old t (fun k e=>by rw [e];exact X.rge),⟨(cw 0).trans X.ls.c0,(t.frozen (p:=⟨p.wb,0,none⟩) hw X.d1).trans X.ls.f0,RG.keep X.ls.re t (fun j hj e=>X.e1 (by rw [hj,e])),X.ls.bv,X.ls.hl⟩,X.hp,(cw 1).trans X.c1,(cw 2).trans X.c2,(cw 3).trans X.c3,(cw 4).trans X.c4,X.wB,r1,RG.keep X.zz t (fun j hj e=>by cases hj;exact X.d3 e.symm),fun j hj=>?_,X.d1,X.d2,X.d3,X.e1,X.e2,X.h1,X.h2⟩
 have hq:(upf R i ⟨b,(R i).cost,(R i).hops⟩ j).hops=(R j).hops:=by
  by_cases h:j=i
  ·subst h;simp only [Qag]
  ·simp only [Qae _ _ h]
 rw [hq]
 exact RG.keep (X.hh j hj) t (fun g hg e=>(X.h1 j g hj hg).2.1 e)
structure RtR (w0:World) (p:WB) (ns:List NM) (M:Int) (H:Nat→Value) (i:Nat) (w:World):Prop where
 out:∃v L R Z,WS w0 p w v L R H Z∧Inv (ns.map (·.t)) M p.root p.root i Sp0 L R Z∧tot (ns.map (·.t)) R=0∧L.length≤i
theorem RtR.step {w0:World} {p:WB} {ns:List NM} {M:Int} {E:Nat} (G:GB p ns M E) {H:Nat→Value} {i:Nat} {w w' w'':World} {v:Value} {L:List Sp} {R:Nat→RV} {Z:Nat→Sp} {e:TE} {en:Ending}
  (X:WS w0 p w v L R H Z) (I:Inv (ns.map (·.t)) M p.root p.root i Sp0 L R Z) (hT:tot (ns.map (·.t)) R=0) (hL:L.length≤i) (he:(gn (ns.map (·.t)) p.root).edges[i]?=some e)
  (t:Touch (fun _=>False) w w') (Q:TryP w0 p ns e 0 ⟨e.data,0,e.vr⟩ w' v L R H Z en w''):RtR w0 p ns M H (i+1) w'':=by
 have hlen:(ns.map (·.t)).length=ns.length:=by simp
 have hrl:p.root<(ns.map (·.t)).length:=by rw [hlen,←G.n];exact G.root
 have hem:e∈(gn (ns.map (·.t)) p.root).edges:=List.mem_of_getElem? he
 have hE:=G.ok.ed _ (Qbw hrl) e hem
 have hc:(R p.root).cost=0:=by rw [I.rr]
 rcases Q.out with⟨X',hno⟩|⟨d,v',L',hd,hdn,hdr,hm,hle,pe,ow,X'⟩
 ·refine⟨v,L,R,Z,X',I.skip he (fun d h1 h2 h3 h4=>?_) hE.1,hT,by omega⟩
  rw [hlen] at h2
  rw [hc] at h4 ⊢
  obtain⟨a1,a2⟩:=hno d h1 h2 h3 h4
  refine⟨a1,?_⟩
  rcases a2 with a2|a2
  ·omega
  ·have:=I.zc d (by rw [hlen];exact h2) h3 a1
   rw [a2] at this
   simp only at this
   omega
 ·have hdl:d<(ns.map (·.t)).length:=by rw [hlen];exact hdn
  have HWd:=HopW.first G.ok hem hd hdl hdr
  rw [Int.zero_add] at hm hle pe X'
  have hcur:Sp0.le ⟨(d:Int),e.cost,intoH ⟨e.data,0,e.vr⟩ (gn (ns.map (·.t)) d)⟩:=by
   have h1:=(G.ok.id0 _ (Qbw hdl)).1
   unfold Sp.le Sp.lt HK.lt Sp0 HK0
   have h2:=Qcg (intoH ⟨e.data,0,e.vr⟩ (gn (ns.map (·.t)) d)).vr
   have h3:0≤(intoH ⟨e.data,0,e.vr⟩ (gn (ns.map (·.t)) d)).out∧0≤(intoH ⟨e.data,0,e.vr⟩ (gn (ns.map (·.t)) d)).via:=by
    unfold intoH
    split
    ·exact⟨hE.2.2.2.1,by simp⟩
    ·split
     ·exact⟨hE.2.2.2.1,by simp⟩
     ·exact⟨hE.2.2.2.1,h1⟩
   simp only [show bz false=0 from rfl]
   omega
  have IW:=I.wait G.ok hrl (Or.inl rfl) he hd hdl hdr (by rw [hc,Int.zero_add];exact hm) (fun h=>by rw [hc,Int.zero_add];exact hle h) (by rw [hc,Int.zero_add];exact HWd) (by rw [hc,Int.zero_add];exact hcur)
  rw [hc,Int.zero_add] at IW
  have hh:∀u,(upf R d ⟨true,e.cost,(R d).hops⟩ u).hops=(R u).hops:=by
   intro u
   by_cases h:u=d
   ·subst h;rw [Qag]
   ·rw [Qae _ _ h]
  refine⟨v',L',_,_,X',IW.perm pe,?_,?_⟩
  ·rw [Qj2 hh];exact hT
  ·have:=pe.length_eq
   simp at this
   omega
def topN (ns:List NM) (E:Nat):Nat:=ns.length*(E*((ns.length+1)*2))
structure FrR (w0:World) (p:WB) (ns:List NM) (M:Int) (E:Nat) (g:Nat) (w:World):Prop where
 out:∃v L R H Z x i s,WS w0 p w v L R H Z∧Inv (ns.map (·.t)) M p.root x i s L R Z∧(gn (ns.map (·.t)) x).edges.length≤i∧L.length≤E*(tot (ns.map (·.t)) R+1)∧g=(topN ns E-tot (ns.map (·.t)) R)*(E*(topN ns E+1)+1)+L.length
theorem Qrm {T t t' B n l:Nat} (h1:t'≤T) (hB:l≤B) (h:(t'=t∧l=n)∨t'=t+1):(T-t')*(B+1)+l<(T-t)*(B+1)+(n+1):=by
 rcases h with⟨rfl,rfl⟩|rfl
 ·omega
 ·obtain⟨d,rfl⟩:∃d,T=t+1+d:=⟨T-(t+1),by omega⟩
  have e1:t+1+d-(t+1)=d:=by omega
  have e2:t+1+d-t=d+1:=by omega
  rw [e1,e2,Nat.add_mul,Nat.one_mul]
  omega
theorem FrR.next {w0:World} {p:WB} {ns:List NM} {M:Int} {E:Nat} (G:GB p ns M E) {R:Nat→RV} {n g:Nat} {en:Ending} {w:World} (Q:TakeQ w0 p ns M E R n en w) (hg:g=(topN ns E-tot (ns.map (·.t)) R)*(E*(topN ns E+1)+1)+(n+1)):∃g',g'<g∧FrR w0 p ns M E g' w:=by
 obtain⟨-,v,L,R',H,Z,x,i,s,X,I,F,LL,h⟩:=Q
 have hlen:(ns.map (·.t)).length=ns.length:=by simp
 have h1:=I.tot_le G.ok (by rw [hlen,←G.n];exact G.root)
 rw [hlen] at h1
 refine⟨_,?_,v,L,R',H,Z,x,i,s,X,I,F,LL,rfl⟩
 rw [hg]
 exact Qrm h1 (Nat.le_trans LL (Nat.mul_le_mul_left _ (Nat.succ_le_succ h1))) h
structure FromP (w:World) (ns:List NM) (M:Int) (root:Nat) (e:Ending) (w':World):Prop where
 out:∃(rb:Nat) (R:Nat→RV) (H:Nat→Value) (Z:Nat→Sp) (x i:Nat) (s:Sp),e=.returned (.slice (some ⟨rb,0,none⟩) ns.length ns.length)∧RR w.heap.size w' (.slice (some ⟨rb,0,none⟩) ns.length ns.length) (tab ns.length (fun j=>(R j,H j)))∧(∀j,j<ns.length→RH w.heap.size w' (H j) (R j).hops)∧Inv (ns.map (·.t)) M root x i s [] R Z∧(gn (ns.map (·.t)) x).edges.length≤i
 t:Touch (fun _=>False) w w'
theorem infoReach:(Tryz.prog.info? 68).map (fun i=>(i.zero,i.size,i.bytes))=some (some (.agg #[.bool false,.int .u32 0,.slice none 0 0]),3,32):=by kernel_rfl
theorem alloc3 (w:World) (o1 o2 o3:Obj):((((w.alloc o1).alloc o2).alloc o3).drew).heap[w.heap.size]?=some o1∧((((w.alloc o1).alloc o2).alloc o3).drew).heap[w.heap.size+1]?=some o2∧((((w.alloc o1).alloc o2).alloc o3).drew).heap[w.heap.size+1+1]?=some o3:=by
 show (((w.heap.push o1).push o2).push o3)[w.heap.size]?=some o1∧(((w.heap.push o1).push o2).push o3)[w.heap.size+1]?=some o2∧(((w.heap.push o1).push o2).push o3)[w.heap.size+1+1]?=some o3
 refine⟨?_,?_,?_⟩
 ·rw [Array.getElem?_push,if_neg (by simp;omega),Array.getElem?_push,if_neg (by simp),Array.getElem?_push,if_pos (by simp)]
 ·rw [Array.getElem?_push,if_neg (by simp),Array.getElem?_push,if_pos (by simp)]
 ·rw [Array.getElem?_push,if_pos (by simp)]
theorem Qfi {w:World} {g:Nat} {T:TypeId} {xs:List Value} (h:w.heap[g]?=some (.cells xs.toArray T)):Row w g T xs:=h
theorem Qp7 (w:World) (nv:Value) (ns:List NM) (GA:GrAt w nv ns) (root:Nat) (hr:root<ns.length) (M:Int) (E:Nat) (G:GOk (ns.map (·.t)) M E) (hn:ns.length≤1000000) (hbig:E*(ns.length*(E*((ns.length+1)*2))+1)+1≤1099511627776) :
  Calls Tryz.prog 28 #[nv,.int .i64 root] w (FromP w ns M root):=by
 have HCO:Hid _:=contains17 w nv ns GA hn (fun x hx h=>G.rt _ (List.mem_map.2 ⟨x,hx,rfl⟩) h)
 have HGA:Hid _:=GA
 obtain⟨⟨a,cp,rfl,hsh⟩,hed⟩:=GA
 obtain⟨i1,hi1,hz1,hs1,hb1⟩:=infoParts infoReach
 obtain⟨i2,hi2,hz2,hs2,hb2⟩:=infoParts infoSt
 have hm1:∀w,(Instr.makeSlice 65 (.int .i64 (ns.length:Int)) (.int .i64 (ns.length:Int))).run Tryz.prog w=.ok (.slice (some ⟨w.heap.size,0,none⟩) ns.length ns.length) (w.alloc (.cells (cellsG rcs (tab ns.length (fun _=>(RV0,Value.slice none 0 0)))).toArray 68)):=by
  intro w
  have h:=run_make (P:=Tryz.prog) w 65 68 i1 _ Tryz.underlying65 hi1 hz1 .i64 .i64 (ns.length:Int) (ns.length:Int) (by omega) (Int.le_refl _) (by rw [hb1];omega) (by omega)
  rw [hs1] at h
  simp only [Int.toNat_natCast] at h
  rw [h,←Qjw Qbp (by omega) (RV0,Value.slice none 0 0) ns.length]
  rfl
 have hm2:∀w,(Instr.makeSlice 146 (.int .i64 (ns.length:Int)) (.int .i64 (ns.length:Int))).run Tryz.prog w=.ok (.slice (some ⟨w.heap.size,0,none⟩) ns.length ns.length) (w.alloc (.cells (cellsG Sp.cs (tab ns.length (fun _=>Sp0))).toArray 154)):=by
  intro w
  have h:=run_make (P:=Tryz.prog) w 146 154 i2 _ Tryz.underlying146 hi2 hz2 .i64 .i64 (ns.length:Int) (ns.length:Int) (by omega) (Int.le_refl _) (by rw [hb2];omega) (by omega)
  rw [hs2] at h
  simp only [Int.toNat_natCast] at h
  rw [h,←Qjw Sp.len (by omega) Sp0 ns.length]
  rfl
 have hr1:decide ((root:Int)<0)=false:=decide_eq_false (by omega)
 have hr2:decide ((ns.length:Int)≤(root:Int))=false:=decide_eq_false (by omega)
 have hbld:∀(w:World) (x y:Nat),(Instr.build 149 #[(1,.slice a ns.length cp),(2,.int .i64 (root:Int)),(3,.slice (some ⟨x,0,none⟩) ns.length ns.length),(4,.slice (some ⟨y,0,none⟩) ns.length ns.length)]).run Tryz.prog w=.ok (.agg #[.slice none 0 0,.slice a ns.length cp,.int .i64 (root:Int),.slice (some ⟨x,0,none⟩) ns.length ns.length,.slice (some ⟨y,0,none⟩) ns.length ns.length]) w:=fun w x y=>run_build w 149 _ _ (by kernel_rfl)
 clear hi1 hz1 hs1 hb1 hi2 hz2 hs2 hb2
 go_enter Tryz.func28,Tryz.ntmps28
 go_wp2_with ((go_at_call 58;refine Calls.mono HCO.out ?_;rintro en w1 ⟨rfl,t1⟩))
 go_cut [5] (fun s5 wx=>∃wb rb zb,s5=.pointer (some ⟨wb,0,none⟩)∧w1.heap.size≤wb∧w1.heap.size≤rb∧w1.heap.size≤zb∧wb≠rb∧wb≠zb∧rb≠zb∧Touch (fun _=>False) w1 wx∧Row wx wb 149 [.slice none 0 0,.slice a ns.length cp,.int .i64 (root:Int),.slice (some ⟨rb,0,none⟩) ns.length ns.length,.slice (some ⟨zb,0,none⟩) ns.length ns.length]∧Row wx rb 68 (cellsG rcs (tab ns.length (fun _=>(RV0,Value.slice none 0 0))))∧Row wx zb 154 (cellsG Sp.cs (tab ns.length (fun _=>Sp0))))
 case first =>
  go_region
  all_goals go_wp2_with fail
  all_goals go_meet
  ·obtain⟨a1,a2,a3⟩:=alloc3 w1 (.cells (cellsG rcs (tab ns.length (fun _=>(RV0,Value.slice none 0 0)))).toArray 68) (.cells (cellsG Sp.cs (tab ns.length (fun _=>Sp0))).toArray 154) (.cells #[.slice none 0 0,.slice a ns.length cp,.int .i64 (root:Int),.slice (some ⟨w1.heap.size,0,none⟩) ns.length ns.length,.slice (some ⟨w1.heap.size+1,0,none⟩) ns.length ns.length] 149)
   exact⟨w1.heap.size+1+1,w1.heap.size,w1.heap.size+1,rfl,by omega,by omega,by omega,by omega,by omega,by omega,((((Touch.refl _ w1).alloc _).alloc _).alloc _).drew,Qfi a3,Qfi a1,Qfi a2⟩
  ·obtain⟨a1,a2,a3⟩:=alloc3 w1 (.cells (cellsG Sp.cs (tab ns.length (fun _=>Sp0))).toArray 154) (.cells (cellsG rcs (tab ns.length (fun _=>(RV0,Value.slice none 0 0)))).toArray 68) (.cells #[.slice none 0 0,.slice a ns.length cp,.int .i64 (root:Int),.slice (some ⟨w1.heap.size+1,0,none⟩) ns.length ns.length,.slice (some ⟨w1.heap.size,0,none⟩) ns.length ns.length] 149)
   exact⟨w1.heap.size+1+1,w1.heap.size+1,w1.heap.size,rfl,by omega,by omega,by omega,by omega,by omega,by omega,((((Touch.refl _ w1).alloc _).alloc _).alloc _).drew,Qfi a3,Qfi a2,Qfi a1⟩
 case rest =>
  obtain⟨wb,rb,zb,rfl,hwb,hrb,hzb,n1,n2,n3,tc,RW,RRW,RZW⟩:=hcut
  generalize wc=w2 at *
  have T2:Touch (fun _=>False) w w2:=t1.trans tc
  have hs1:=t1.size
  have hNm:ns.length≤maxLen:=by unfold maxLen;omega
  have own1:RR w.heap.size w2 (.slice (some ⟨rb,0,none⟩) ns.length ns.length) (tab ns.length (fun _=>(RV0,Value.slice none 0 0))):=by
   refine⟨Qai Qbp _,Or.inr ⟨rb,ns.length,(cellsG rcs (tab ns.length (fun _=>(RV0,Value.slice none 0 0)))).toArray,by rw [Qas],by omega,RRW,by rw [Qas];exact Nat.le_refl _,hNm,by simp [Qai Qbp,Qas],?_⟩⟩
   rw [List.take_of_length_le]
   simp [Qai Qbp]
  have own2:RS w.heap.size w2 (.slice (some ⟨zb,0,none⟩) ns.length ns.length) (tab ns.length (fun _=>Sp0)):=by
   refine⟨Qai Sp.len _,Or.inr ⟨zb,ns.length,(cellsG Sp.cs (tab ns.length (fun _=>Sp0))).toArray,by rw [Qas],by omega,RZW,by rw [Qas];exact Nat.le_refl _,hNm,by simp [Qai Sp.len,Qas],?_⟩⟩
   rw [List.take_of_length_le]
   simp [Qai Sp.len]
  have X2:WS w ⟨.slice a ns.length cp,ns.length,root,wb,rb,zb⟩ w2 (.slice none 0 0) [] (fun _=>RV0) (fun _=>.slice none 0 0) (fun _=>Sp0) :=
   ⟨T2,⟨RW.cell 0,RW.frozen 0,World.ownsRow_nil _ _ _ _,by simp [Value.ownBlock],by simp⟩,fun c _ h=>by simp at h,RW.cell 1,RW.cell 2,RW.cell 3,RW.cell 4,by show w.heap.size≤wb;omega,own1,own2,fun i _=>World.ownsRow_nil _ _ _ _,n1,n2,n3,by simp [Value.ownBlock],by simp [Value.ownBlock],fun i g _ h=>by simp [Value.ownBlock] at h,fun i j g _ _ _ h=>by simp [Value.ownBlock] at h⟩
  have hGB:GB ⟨.slice a ns.length cp,ns.length,root,wb,rb,zb⟩ ns M E:=⟨G,rfl,hn,hr,hbig⟩
  have X3:=X2.mark (i:=root) hr true
  have I3:=Inv.start (ns.map (·.t)) G.m0 root (by simpa using hr) (upf (fun _=>RV0) root ⟨true,0,[]⟩) (fun _=>Sp0) (Qag _ _ _) (fun v hv=>Qae _ _ hv)
  have hT0:tot (ns.map (·.t)) (upf (fun _=>RV0) root ⟨true,0,[]⟩)=0:=by
   unfold tot
   have h:=Qip (n:=(ns.map (·.t)).length) (B:=0) (f:=fun v=>(upf (fun _=>RV0) root ⟨true,0,[]⟩ v).hops.length) (fun v _=>by
    by_cases e:v=root
    ·subst e;rw [Qag];simp
    ·rw [Qae _ _ e];simp [RV0])
   omega
  obtain⟨xn,hx⟩:∃xn,ns[root]?=some xn:=⟨_,List.getElem?_eq_getElem hr⟩
  have hxt:gn (ns.map (·.t)) root=xn.t:=by unfold gn;rw [List.getD_eq_getElem?_getD,List.getElem?_map,hx];rfl
  have hdeg:xn.t.edges.length≤E:=G.deg _ (List.mem_map.2 ⟨xn,List.mem_of_getElem? hx,rfl⟩)
  rcases hsh with e|⟨ng,rfl,hcs2⟩
  ·rw [e] at hx;cases hx
  have q5:(w2.setCell ⟨rb,root*3,none⟩ (.bool true)).cell? ⟨ng,root*7+5,none⟩=some (.slice xn.ea xn.t.edges.length xn.ec):=X3.t.cellN (hcs2 root xn hx 5 _ rfl)
  have c3:=X2.c3
  have r0:=(X2.rcell (i:=root) hr).1
  have rf:=X2.rfz
  simp only at c3 r0 rf
  have hrl:(root:Int)<(ns.length:Int):=by omega
  have hr0:(0:Int)≤(root:Int):=by omega
  have hE40:E≤1099511627776:=by
   rw [Nat.mul_add,Nat.mul_one] at hbig
   omega
  have hdgi:(xn.t.edges.length:Int)≤1099511627776:=by omega
  have HST:Hid (RtR w ⟨.slice (some ⟨ng,0,none⟩) ns.length cp,ns.length,root,wb,rb,zb⟩ ns M (fun _=>.slice none 0 0) 0 (w2.setCell ⟨rb,root*3,none⟩ (.bool true))):=⟨_,_,_,_,X3,I3,hT0,Nat.le_refl _⟩
  have HED:Hid _:=hed xn (List.mem_of_getElem? hx)
  have HGB:Hid _:=hGB
  have HXT:Hid _:=hxt
  have HDG:Hid _:=hdeg
  have hnr:¬ng=rb:=fun e=>by
   have h1:=Qaa (hcs2 root xn hx 5 _ rfl)
   omega
  clear hm1 hm2 hbld X2 X3 I3 hT0 hcs2 hed hxt hdeg hGB RW RRW RZW own1 own2 tc T2 hs1 hNm hE40 hx HCO hr1 hr2 t1
  generalize hea0:xn.ea=ea0 at *
  generalize hdd:xn.t.edges.length=dg at *
  have HDD:Hid _:=hdd
  clear hea0 hdd
  have q5':w2.cell? ⟨ng,root*7+5,none⟩=some (.slice ea0 dg xn.ec):=by simpa [go_sem,hnr] using q5
  clear q5
  go_wp2_with fail
  go_loopw [43] (fun s43 wx=>∃j:Nat,s43=.int .i64 j∧j≤dg∧RtR w ⟨.slice (some ⟨ng,0,none⟩) ns.length cp,ns.length,root,wb,rb,zb⟩ ns M (fun _=>.slice none 0 0) j wx) (fun s43 _=>dg-(intOf s43).toNat)
  case atStart=>exact⟨0,rfl,Nat.zero_le _,HST.out⟩
  case round =>
   clear HST
   obtain⟨j,rfl,hj,XE⟩:=hrel
   by_cases hjd:j<dg
   ·obtain⟨e,he⟩:∃e,xn.t.edges[j]?=some e:=⟨_,List.getElem?_eq_getElem (by have:=HDD.out;omega)⟩
    rcases HED.out with e1|⟨eg,rfl,hce⟩
    ·rw [e1] at he;cases he
    obtain⟨⟨v1,L1,R1,Z1,X1,I1,T1,LL1⟩⟩:=XE
    have q0:wr.cell? ⟨eg,j*4,none⟩=some (.int .i64 e.dst):=X1.t.cellN (hce j e he 0 _ rfl)
    have q1:wr.cell? ⟨eg,j*4+1,none⟩=some (.int .u32 e.cost):=X1.t.cellN (hce j e he 1 _ rfl)
    have q2:wr.cell? ⟨eg,j*4+2,none⟩=some (.int .u32 e.data):=X1.t.cellN (hce j e he 2 _ rfl)
    have q3:wr.cell? ⟨eg,j*4+3,none⟩=some (.bool e.vr):=X1.t.cellN (hce j e he 3 _ rfl)
    have he':(gn (ns.map (·.t)) root).edges[j]?=some e:=by rw [HXT.out];exact he
    have hEc:=G.ed _ (Qbw (by simpa using hr)) e (List.mem_of_getElem? he')
    have tA:Touch (fun _=>False) wr (wr.alloc (.cells #[.int .i64 e.dst,.int .u32 e.cost,.int .u32 e.data,.bool e.vr] 134)):=(Touch.refl _ _).alloc _
    have hlL:L1.length+1≤1099511627776:=by
     refine HGB.out.few (R:=R1) (i:=j) (by rw [T1];exact Nat.zero_le _) (by have:=HDG.out;omega) ?_
     rw [T1];omega
    have HTRY:=Qnr w ⟨.slice (some ⟨ng,0,none⟩) ns.length cp,ns.length,root,wb,rb,zb⟩ ns HGA.out rfl hn hr (wr.alloc (.cells #[.int .i64 e.dst,.int .u32 e.cost,.int .u32 e.data,.bool e.vr] 134)) v1 L1 R1 (fun _=>.slice none 0 0) Z1 (X1.keep tA) e 0 ⟨e.data,0,e.vr⟩ ⟨by omega,by omega⟩ ⟨hEc.1,hEc.2.2.1⟩ hlL
    have FIN:Hid (∀en w5,TryP w ⟨.slice (some ⟨ng,0,none⟩) ns.length cp,ns.length,root,wb,rb,zb⟩ ns e 0 ⟨e.data,0,e.vr⟩ (wr.alloc (.cells #[.int .i64 e.dst,.int .u32 e.cost,.int .u32 e.data,.bool e.vr] 134)) v1 L1 R1 (fun _=>.slice none 0 0) Z1 en w5→RtR w ⟨.slice (some ⟨ng,0,none⟩) ns.length cp,ns.length,root,wb,rb,zb⟩ ns M (fun _=>.slice none 0 0) (j+1) w5):=fun en w5 Q=>RtR.step HGB.out X1 I1 T1 LL1 he' tA Q
    have HT:Hid _:=HTRY
    have hj1:(j:Int)<(dg:Int):=by omega
    have hj0:(0:Int)≤(j:Int):=by omega
    have hbld2:∀w,(Instr.build 48 #[(0,.int .u32 e.data),(2,.bool e.vr)]).run Tryz.prog w=.ok (.agg #[.int .u32 e.data,.int .u32 0,.bool e.vr]) w:=fun w=>run_build w 48 _ _ (by kernel_rfl)
    clear HTRY X1 I1 T1 LL1 tA hEc hlL he he' hce
    go_wp2_with ((go_at_call 60;refine Calls.mono HT.out ?_;rintro en w5 Q;have ee:=Q.ed;subst ee;have HF:Hid _:=FIN.out _ w5 Q;clear Q))
    go_roundw
    case rel=>exact⟨j+1,by go_num,by omega,HF.out⟩
    case measure=>simp [intOf];omega
   ·have hjj:j=dg:=by omega
    subst hjj
    have HFR:Hid (∃g,FrR w ⟨.slice (some ⟨ng,0,none⟩) ns.length cp,ns.length,root,wb,rb,zb⟩ ns M E g wr):=by
     obtain⟨⟨v1,L1,R1,Z1,X1,I1,T1,LL1⟩⟩:=XE
     refine⟨_,v1,L1,R1,_,Z1,root,j,Sp0,X1,I1,by rw [HXT.out];exact Nat.le_of_eq HDD.out,?_,rfl⟩
     rw [T1]
     have:=HDG.out
     omega
    clear XE
    obtain⟨g0,HFR0⟩:=HFR.out
    have HFR1:Hid _:=HFR0
    clear HFR HFR0
    go_wp2_with fail
    go_loopg [] g0 (fun gg wx=>FrR w ⟨.slice (some ⟨ng,0,none⟩) ns.length cp,ns.length,root,wb,rb,zb⟩ ns M E gg wx)
    case atStart=>exact HFR1.out
    case round =>
     clear HFR1
     obtain⟨⟨v1,L1,R1,H1,Z1,x1,i1,s1,X1,I1,F1,LL1,hg⟩⟩:=hrel
     obtain⟨va,vc,rfl⟩:=X1.ls.re.shape
     have c0:=X1.ls.c0
     simp only at c0
     have hL40:(L1.length:Int)≤1099511627776:=by have:=X1.ls.hl;omega
     have HLEN:Hid _:=Qh3 wr wb (.slice va L1.length vc) w.heap.size L1 X1.ls
     have HX1:Hid _:=X1
     have HI1:Hid _:=I1
     have HF1:Hid _:=F1
     have HLL1:Hid _:=LL1
     have HG1:Hid _:=hg
     by_cases hl0:L1.length=0
     ·have e:L1=[]:=List.length_eq_zero_iff.1 hl0
      subst e
      have FIN:Hid (FromP w ns M root (.returned (.slice (some ⟨rb,0,none⟩) ns.length ns.length)) wr):=⟨⟨rb,R1,H1,Z1,x1,i1,s1,rfl,X1.rr,X1.hh,I1,F1⟩,X1.t⟩
      have c3:=X1.c3
      simp only at c3
      clear X1 I1 F1 LL1 hg
      simp only [List.length_nil] at *
      go_wp2_with ((go_at_call 61;refine Calls.mono HLEN.out ?_;rintro en wx ⟨rfl,rfl⟩))
      go_ret
      exact FIN.out
     ·have HNX:Hid _:=Qo9 wr wb (.slice va L1.length vc) w.heap.size L1 X1.ls X1.hp (by omega)
      have hl1:(0:Int)<(L1.length:Int):=by omega
      have HL0:Hid _:=hl0
      clear X1 I1 F1 LL1 hg hl0
      go_wp2_with ((go_at_call 61;refine Calls.mono HLEN.out ?_;rintro en wx ⟨rfl,rfl⟩))
      refine Calls.mono HNX.out ?_
      rintro en w5 ⟨⟨⟨sn,sc,so,sv,sr⟩,v2,L2,rfl,P2,pe,hp2,mn,hv2⟩,t2⟩
      simp only [Sp.v]
      have HTK:Hid _:=Qpn w ⟨.slice (some ⟨ng,0,none⟩) ns.length cp,ns.length,root,wb,rb,zb⟩ ns HGA.out M E HGB.out w5 v2 L2 L1 R1 H1 Z1 x1 i1 s1 ⟨sn,sc,so,sv,sr⟩ (HX1.out.line P2 hp2 (Or.inl hv2) t2) HI1.out HF1.out pe mn HLL1.out
      have HLN:Hid (L1.length=L2.length+1):=(by have:=pe.length_eq;show _=_;simpa using this)
      clear P2 pe hp2 mn hv2 t2
      go_wp2_with fail
      refine Calls.mono HTK.out ?_
      rintro en w6 Q
      have ee:=Q.ed
      subst ee
      obtain⟨g',hg',HQ⟩:=FrR.next HGB.out Q (HG1.out.trans (by rw [HLN.out]))
      have HQQ:Hid _:=HQ
      have HGG:Hid _:=hg'
      clear Q HQ hg'
      go_wp2_with fail
      go_roundg g'
      case measure=>exact HGG.out
      case rel=>exact HQQ.out
end Go.Proofs.YtddbffoiadmffaaGreat
