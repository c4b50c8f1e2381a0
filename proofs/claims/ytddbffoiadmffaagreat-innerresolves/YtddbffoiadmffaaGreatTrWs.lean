import Derived.Test.YtddbffoiadmffaaGreatInJoin
import Derived.Great.BuildSlice
namespace Go.Proofs.YtddbffoiadmffaaGreat
set_option maxHeartbeats 8000000
open Go.RowKit Go.Shelf
set_option linter.unusedVariables false
set_option maxRecDepth 100000
structure WP where
 p:PX
 router:Int
 flags:Int
 kind:Int
 area:Int
 cost:Int
 dist:Int
 tag:Int
 hs:List HK
structure WY where
 x:WP
 hv:Value
def WY.cs (y:WY):List Value:=[.int .u32 y.x.p.addr,.int .u8 y.x.p.bits,.int .u32 y.x.router,.int .u8 y.x.flags,.int .u8 y.x.kind,.int .u32 y.x.area,.int .u32 y.x.cost,.int .u32 y.x.dist,.int .u32 y.x.tag,y.hv]
theorem WY.len (y:WY):y.cs.length=10:=rfl
abbrev HO (w:World) (v:Value) (l:List HK):Prop:=w.ownsRow 0 48 3 v l.length (cellsG HK.cs l)
theorem Qa2 {w:World} {b1 b2 e1 e2 k1 k2 n1 n2:Nat} {v1 v2:Value} {x1 x2:List Value} (h:w.ownsRow b1 e1 k1 v1 n1 x1) (o:w.ownsRow b2 e2 k2 v2 n2 x2) (hT:e1≠e2):∀k,v1.ownBlock=some k→v2.ownBlock≠some k:=by
 intro k hk
 rcases h.2 with⟨rfl,-⟩|⟨g,cap,cur,rfl,-,hh,-⟩
 ·cases hk
 ·have:g=k:=by simpa [Value.ownBlock] using hk
  subst this
  refine Qb5 o (B:=g) (T:=e1) (ys:=cur.toList) ?_ (fun e=>hT e.symm)
  exact hh
structure WB1 (w0 w:World) (v:Value) (N:List WY):Prop where
 b:VBuf 45 10 w0 w v N.length (cellsG WY.cs N)
 h:∀y∈N,HO w y.hv y.x.hs
theorem WB1.keep {w0 w w':World} {v:Value} {N:List WY} (h:WB1 w0 w v N) (t:Touch (fun _=>False) w w'):WB1 w0 w' v N:=⟨h.b.keep t,fun y hy=>Qab (h.h y hy) t (fun _ _ h=>h)⟩
theorem WB1.nil {w0 w:World} (t:Touch (fun _=>False) w0 w):WB1 w0 w (.slice none 0 0) []:=⟨VBuf.nil _ _ t,by simp⟩
def wayE (area:Int) (e:ME):WP:=⟨e.p,0,0,1,area,e.cost,0,0,jnL e.hs⟩
theorem infoWay:(Tryz.prog.info? 45).map (fun i=>(i.zero,i.size,i.bytes))=some (some (.agg #[.int .u32 0,.int .u8 0,.int .u32 0,.int .u8 0,.int .u8 0,.int .u32 0,.int .u32 0,.int .u32 0,.int .u32 0,.slice none 0 0]),10,56):=by kernel_rfl
theorem AM.hit1 {K M E:TypeId} {z:Value} (kt:MK K M E z) {w:World} {m:Nat} {l:List (Value×Value)} (h:AM w K m l) {k v:Value} {j:Nat} (hj:l[j]?=some (k,v)) :
  (Instr.lookup M (.map (some m)) k false).run Tryz.prog w=.ok v w:=by
 obtain⟨⟨es,c,h1,h2,-⟩,ok,nd⟩:=h
 obtain⟨q,hk⟩:∃q,Go.keyOf Tryz.prog K k=some q:=ok _ (List.mem_of_getElem? hj)
 rcases kt.law.find w hk es.toList (Qcz h2 ok) with⟨-,g2⟩|⟨i,e,g1,g2,g3⟩
 ·exfalso
  have:(k,v)∈es.toList.map (fun e=>(e.key,e.val)):=by rw [h2];exact List.mem_of_getElem? hj
  obtain⟨e,he,e1⟩:=List.mem_map.1 this
  exact g2 e he (congrArg Prod.fst e1)
 ·have g4:=Qdn h2 g2
  rw [g3] at g4
  have hij:=Qkv nd g4 hj
  subst hij
  have e2:e.val=v:=by rw [g4] at hj;injection hj with hj;exact congrArg Prod.snd hj
  have g2':es[i]?=.some e:=by simpa using g2
  simp [Instr.lookup,run_underlying kt.und,MapKept.run_getObj_map h1,kt.law.check w es.isEmpty hk,g1,Result.andThen,e2]
theorem Qnb {e:MapEntry} {p:PX} (h:e.key=p.v):keyP e=p:=by
 unfold keyP
 rw [h]
 rfl
def entX (L:List ME) (p:PX):ME:=(L.find? (fun e=>e.p==p)).getD ⟨p,0,[]⟩
theorem Qgj {L:List ME} {p:PX} (h:p∈L.map (·.p)):entX L p∈L∧(entX L p).p=p:=by
 unfold entX
 cases hf:L.find? (fun e=>e.p==p) with
 | none =>
  obtain⟨e,he,rfl⟩:=List.mem_map.1 h
  have:=List.find?_eq_none.1 hf e he
  simp at this
 | some e =>
  exact⟨List.mem_of_find?_eq_some hf,by simpa using List.find?_some hf⟩
theorem Qth {L:List ME} (nd:(L.map (·.p)).Nodup) {e:ME} (he:e∈L):entX L e.p=e:=by
 obtain⟨h1,h2⟩:=Qgj (L:=L) (p:=e.p) (List.mem_map.2 ⟨e,he,rfl⟩)
 obtain⟨i,hi,hie⟩:=List.mem_iff_getElem.1 h1
 obtain⟨j,hj,hje⟩:=List.mem_iff_getElem.1 he
 have a1:(L.map (·.p))[i]?=some e.p:=by rw [List.getElem?_map,List.getElem?_eq_getElem hi,hie];simp [h2]
 have a2:(L.map (·.p))[j]?=some e.p:=by rw [List.getElem?_map,List.getElem?_eq_getElem hj,hje];rfl
 have hij:=(List.getElem?_inj (List.getElem?_eq_some_iff.1 a1).1 nd).1 (a1.trans a2.symm)
 subst hij
 rw [←hie,←hje]
theorem Qhx {L:List ME} (nd:(L.map (·.p)).Nodup) {S:List PX} (h:S.Perm (L.map (·.p))):(S.map (entX L)).Perm L:=by
 refine (h.map (entX L)).trans ?_
 rw [List.map_map]
 have:L.map (entX L ∘ fun e=>e.p)=L.map id:=List.map_congr_left (fun e he=>Qth nd he)
 rw [this,List.map_id]
theorem Qh7 {L:List ME} {S:List PX} (h:∀p∈S,p∈L.map (·.p)):(S.map (entX L)).map (·.p)=S:=by
 rw [List.map_map]
 have:S.map ((fun e=>e.p) ∘ entX L)=S.map id:=List.map_congr_left (fun p hp=>(Qgj (h p hp)).2)
 rw [this,List.map_id]
theorem Qs7 {S:List PX} (nd:S.Nodup) (h:S.Pairwise PX.le):S.Pairwise PX.lt:=by
 have:=List.pairwise_and_iff.2 ⟨nd,h⟩
 refine this.imp (fun {a b} hab=>?_)
 rcases PX.lt_tri hab.1 with h|h
 ·exact h
 ·exact (hab.2 h).elim
theorem Qn8 (w:World) (m:Nat):Calls Tryz.prog 66 #[.map (some m)] w fun e w'=>∃b,e=.returned (.func (.func 114) #[] #[.pointer (some ⟨b,0,none⟩)])∧w'.cell? ⟨b,0,none⟩=some (.map (some m))∧Touch (fun _=>False) w w':=by
 go_enter Tryz.func66,Tryz.ntmps66
 go_wp2
 go_ret
 exact⟨_,rfl,by simp [go_sem],(Touch.refl _ w).alloc _⟩
theorem Qsm (pa pb router flags kind area cost dist tag:Int) (ra:Option Addr) (rn rc:Nat) (w:World):(Instr.buildSlice 27 1 #[(0,.agg #[.int .u32 pa,.int .u8 pb,.int .u32 router,.int .u8 flags,.int .u8 kind,.int .u32 area,.int .u32 cost,.int .u32 dist,.int .u32 tag,.slice ra rn rc])]).run Tryz.prog w=.ok (.slice (some ⟨w.heap.size,0,none⟩) 1 1) (w.alloc (.cells #[.int .u32 pa,.int .u8 pb,.int .u32 router,.int .u8 flags,.int .u8 kind,.int .u32 area,.int .u32 cost,.int .u32 dist,.int .u32 tag,.slice ra rn rc] 45)):=by
 obtain⟨i0,hi,hz0,hz1,hz2⟩:=info_parts infoWay
 refine run_buildSlice w _ _ 1 _ _ i0 _ Tryz.underlying27 hi hz0 (by rw [hz1];decide) (by rw [hz1];decide) ?_
 rw [hz1]
 kernel_rfl
theorem Qdp {P:Program} {w w':World} {ops:Array Oper} {o:Oper} {a:Act} {K:Act→World→Prop} {Q:Exit→Act→World→Prop} {E:Prop} (hgd:o.guard=none) (t:TypeId) (len:Nat) (parts:List (Nat×Operand)) (ho:o.op=.buildSlice t len parts.toArray) (v:Value) (vs:List (Nat×Value)) (hv:parts.map (fun x=>(x.1,a.eval x.2))=vs)
  (hrun:(Instr.buildSlice t len vs.toArray).run P w=.ok v w') (h:K (a.put o.dst v) w'):if Region.wanted o (yielded ops a.tmps)=true then Oper.wp P o a w K Q else E:=by
 have hw:Region.wanted o (yielded ops a.tmps)=true:=by simp [Region.wanted,hgd]
 rw [if_pos hw]
 subst hv
 unfold Oper.wp execOp
 simp only [ho,List.map_toArray,Sem.run_bind,hrun,Result.andThen_ok,Sem.run_pure]
 exact h
structure WaysP (w:World) (area:Int) (L:List ME) (e:Ending) (w':World):Prop where
 out:∃(v:Value) (N:List WY) (Ls:List ME),e=.returned v∧WB1 w w' v N∧Ls.Perm L∧(Ls.map ME.p).Pairwise PX.lt∧N.map (·.x)=Ls.map (wayE area)
theorem Qqo (w0 w:World) (G:Nat→Prop) (m:Nat) (L:List ME) (area:Int) (X:MS w0 G w m L) (hh:∀e∈L,∀h∈e.hs,HV3 w h.1 h.2) (hl:L.length≤1000000) (hb:∀e∈L,e.hs.length≤1000000∧(flatH e.hs).length≤100000000000) :
  Calls Tryz.prog 30 #[.map (some m),.int .u32 area] w (WaysP w area L):=by
 obtain⟨Q,hQ,GM⟩:=X.out
 have AMQ:=GM.q.am
 obtain⟨es,c,h1,h2,h3,h4⟩:=AMQ.out
 have hke:∀e∈es.toList,∃q∈Q,e.key=q.e.p.v:=fun e he=>by
  have:(e.key,e.val)∈Q.map MQ.kv:=by rw [←h2];exact List.mem_map.2 ⟨e,he,rfl⟩
  obtain⟨q,hq,hqe⟩:=List.mem_map.1 this
  exact⟨q,hq,(congrArg Prod.fst hqe).symm⟩
 have hk:∀e∈es.toList,e.key=(keyP e).v:=fun e he=>by
  obtain⟨q,hq,hqe⟩:=hke e he
  rw [Qnb hqe,hqe]
 have hkeys:es.toList.map keyP=L.map (·.p):=by
  rw [←hQ,List.map_map]
  have e1:(es.toList.map (fun e=>(e.key,e.val))).map Prod.fst=(Q.map MQ.kv).map Prod.fst:=by rw [h2]
  rw [List.map_map,List.map_map] at e1
  have e2:es.toList.map keyP=(es.toList.map (Prod.fst ∘ fun e=>(e.key,e.val))).map (fun k=>keyP ⟨k,k,0⟩):=by rw [List.map_map];rfl
  rw [e2,e1,List.map_map]
  exact List.map_congr_left (fun q hq=>(Qnb (e:=⟨q.e.p.v,q.e.p.v,0⟩) rfl))
 have hnd:(L.map (·.p)).Nodup:=by
  have:=AMQ.nd
  rw [List.map_map] at this
  rw [←hQ,List.map_map]
  have e1:Q.map (Prod.fst ∘ MQ.kv)=(Q.map ((fun e=>e.p) ∘ fun x=>x.e)).map PX.v:=by rw [List.map_map];rfl
  rw [e1] at this
  rw [List.Nodup,List.pairwise_map] at this
  exact this.imp (fun h e=>h (by rw [e]))
 have hsz:es.size≤1000000:=by
  have:=congrArg List.length h2
  have h5:=congrArg List.length hQ
  simp only [List.length_map,Array.length_toList] at this h5
  omega
 have HSO:=fun w' b (t:Touch (fun _=>False) w w') (hb:w'.cell? ⟨b,0,none⟩=some (.map (some m)))=>Qlw w' b m es c hb (t.heapN h1) h3 h4 hk hsz
 rw [hkeys] at HSO
 have HQJ:Hid (∀e∈L,∃(j:Nat) (q:MQ),Q[j]?=some q∧q.e=e):=fun e he=>by
  rw [←hQ] at he
  obtain⟨q,hq,hqe⟩:=List.mem_map.1 he
  obtain⟨j,hj⟩:=List.mem_iff_getElem?.1 hq
  exact⟨j,q,hj,hqe⟩
 have HAM1:Hid (∀w',Touch (fun _=>False) w w'→∀(j:Nat) (q:MQ),Q[j]?=some q→(Instr.lookup 64 (.map (some m)) q.e.p.v false).run Tryz.prog w'=.ok (.agg #[.int .u32 q.e.cost,q.lv]) w'):=fun w' t j q hq =>
  (AMQ.keepN t).hit1 kindX (j:=j) (by rw [List.getElem?_map,hq];rfl)
 have HAM:Hid (∀w',Touch (fun _=>False) w w'→∀(j:Nat) (q:MQ),Q[j]?=some q→(Instr.lookup 64 (.map (some m)) q.e.p.v false).run Tryz.prog w'=.ok (.agg #[.int .u32 q.e.cost,q.lv]) w'∧ValsAt w' 1 q.lv q.e.hs.length (q.e.hs.map Prod.fst)∧(∀h∈q.e.hs,HV3 w' h.1 h.2)∧q.e.hs.length≤1000000∧(flatH q.e.hs).length≤100000000000):=fun w' t j q hq=>by
  have hm:q∈Q:=List.mem_of_getElem? hq
  have hmL:q.e∈L:=by rw [←hQ];exact List.mem_map.2 ⟨q,hm,rfl⟩
  refine⟨HAM1.out w' t j q hq,?_,fun h hhh=>(hh q.e hmL h hhh).keep t,hb q.e hmL⟩
  exact VBuf.vals (w0:=w0) ⟨Qab (GM.q.row q hm) t (fun _ _ h=>h),GM.t.trans t⟩
 have HND:Hid ((L.map (·.p)).Nodup∧L.length≤1000000):=⟨hnd,hl⟩
 clear X GM AMQ h1 h2 h3 h4 hke hk hkeys hnd hsz hh hb hl hQ
 go_enter Tryz.func30,Tryz.ntmps30
 go_wp2_with (first
  | (go_at_call 66;refine (Qn8 w m).mono ?_;rintro e1 w1 ⟨b,rfl,hc1,t1⟩;have HSO1:=HSO w1 b t1 hc1;have HT1:Hid (Touch (fun _=>False) w w1):=t1;clear HSO t1 hc1)
  | (go_at_call 65;refine HSO1.mono ?_;rintro e2 w2 ⟨v,S,rfl,p1,p2,p3,t2⟩;have HT2:Hid (Touch (fun _=>False) w w2):=HT1.out.trans t2;have HS:Hid ((∀p∈S,p∈L.map (·.p))∧S.Perm (L.map (·.p))∧(L.map (·.p)).Nodup∧S.Pairwise PX.lt):=⟨fun p hp=>p1.mem_iff.1 hp,p1,HND.out.1,Qs7 (p1.nodup_iff.2 HND.out.1) p2⟩;have HLN:Hid (S.length≤1000000):=(by show _≤_;rw [p1.length_eq,List.length_map];exact HND.out.2);have HXV:Hid (XV2 w2 v S):=p3;obtain⟨va,vc,rfl,-⟩:=p3.form;clear p1 p2 p3 t2 HSO1 HT1))
 obtain⟨n,hnn⟩:∃n,n=S.length:=⟨_,rfl⟩
 have HN:Hid (n=S.length∧n≤1000000):=⟨hnn,by rw [hnn];exact HLN.out⟩
 rw [←hnn]
 by_cases h0:n=0
 ·have HN0:Hid (n=0):=h0
  clear h0 hnn
  go_loopw [5,13] (fun s i wr=>∃(k:Nat) (aa:Option Addr) (ac:Nat) (NN:List WY),k≤n∧s=.slice aa NN.length ac∧i=.int .i64 k∧WB1 w2 wr (.slice aa NN.length ac) NN∧NN.map (·.x)=((S.take k).map (entX L)).map (wayE area)) (fun _ i _=>n-(intOf i).toNat)
  case atStart=>exact⟨0,none,0,[],Nat.zero_le _,rfl,rfl,WB1.nil (Touch.refl _ _),by simp⟩
  case round =>
   as_aux_lemma =>
   obtain⟨k,aa,ac,NN,hk',rfl,rfl,hb,hnn⟩:=hrel
   by_cases hlt:k<n
   ·exact absurd hlt (by have:=HN0.out;omega)
   ·have hlt':¬(k:Int)<(n:Int):=by omega
    have hk2:S.take k=S:=List.take_of_length_le (by have:=HN.out;omega)
    rw [hk2] at hnn
    have HF:Hid (WaysP w area L (.returned (.slice aa NN.length ac)) wr):=⟨_,NN,S.map (entX L),rfl,⟨hb.b.back HT2.out,hb.h⟩,Qhx HS.out.2.2.1 HS.out.2.1,by have:=Qh7 HS.out.1;rw [this];exact HS.out.2.2.2,hnn⟩
    clear hb hnn hk2
    generalize NN.length=NL at *
    go_wp2_with fail
    go_ret
    exact HF.out
 ·obtain⟨sg,so,sc,e,hc1,hc2,hcc⟩:=HXV.out.cells (by omega) (by omega)
  rw [←hnn] at e hc1
  injection e with e1 e2 e3
  subst e1
  subst e3
  have HSC:Hid (∀(wr:World) (k:Nat) (p:PX),S[k]?=some p→Touch (fun _=>False) w2 wr→wr.cell? ⟨sg,so+k*2,none⟩=some (.int .u32 p.addr)∧wr.cell? ⟨sg,so+k*2+1,none⟩=some (.int .u8 p.bits)):=fun wr k p hp t=>by
   have key:∀i u,i<2→p.cs[i]?=some u→wr.cell? ⟨sg,so+(k*2+i),none⟩=some u:=fun i u hi hu=>t.cellN (hcc (k*2+i) u (by rw [Qa0 PX.len _ _ _ hi,hp];exact hu))
   exact⟨key 0 _ (by omega) rfl,key 1 _ (by omega) rfl⟩
  clear h0 hnn hcc HXV
  go_loopw [5,13] (fun s i wr=>∃(k:Nat) (aa:Option Addr) (ac:Nat) (NN:List WY),k≤n∧s=.slice aa NN.length ac∧i=.int .i64 k∧WB1 w2 wr (.slice aa NN.length ac) NN∧NN.map (·.x)=((S.take k).map (entX L)).map (wayE area)) (fun _ i _=>n-(intOf i).toNat)
  case atStart=>exact⟨0,none,0,[],Nat.zero_le _,rfl,rfl,WB1.nil (Touch.refl _ _),by simp⟩
  case round =>
   as_aux_lemma =>
   obtain⟨k,aa,ac,NN,hk',rfl,rfl,hb,hnn⟩:=hrel
   by_cases hlt:k<n
   ·obtain⟨p,hp⟩:∃p,S[k]?=some p:=⟨S[k]'(by have:=HN.out;omega),by simp⟩
    have hpS:p∈S:=List.mem_of_getElem? hp
    obtain⟨heL,hep⟩:=Qgj (L:=L) (p:=p) (HS.out.1 p hpS)
    obtain⟨e,hee⟩:∃e,entX L p=e:=⟨_,rfl⟩
    rw [hee] at heL hep
    obtain⟨j,q,hq,rfl⟩:=HQJ.out e heL
    have HT2':=hb.b.t
    have HT:=HT2.out.trans HT2'
    obtain⟨hq1,hq2,hq3,hq4⟩:=HAM.out wr HT j q hq
    have hcx:wr.cell? ⟨sg,so+k*2,none⟩=some (.int .u32 p.addr):=(HSC.out wr k p hp HT2').1
    have hcy:wr.cell? ⟨sg,so+k*2+1,none⟩=some (.int .u8 p.bits):=(HSC.out wr k p hp HT2').2
    have lcx:=Qaa hcx
    have hlt':(k:Int)<(n:Int):=by omega
    have hk00:(0:Int)≤(k:Int):=by omega
    have hkw:wrap64 ((k:Int)+1)=(k:Int)+1:=by have:=HN.out;unfold wrap64;omega
    have HNN:Hid (NN.map (·.x)=((S.take k).map (entX L)).map (wayE area)∧NN.length=k):=⟨hnn,by have:=congrArg List.length hnn;simp only [List.length_map,List.length_take] at this;have:=HN.out;omega⟩
    have HST:Hid (((S.take (k+1)).map (entX L)).map (wayE area)=((S.take k).map (entX L)).map (wayE area)++[wayE area q.e]):=by show _=_;rw [List.take_add_one,hp];simp [hee]
    rw [hep] at hq1
    obtain⟨pa,pb⟩:=p
    unfold PX.v at hq1
    simp only at hcx hcy hq1
    have HEP:Hid (q.e.p=⟨pa,pb⟩):=hep
    have HJO:=fun w' (t:Touch (fun _=>False) wr w')=>Qf8 w' q.lv q.e.hs (hq2.keep t) (fun h hh=>(hq3 h hh).keep t) hq4.1 hq4.2
    obtain⟨jl,hjl⟩:∃jl,jnL q.e.hs=jl:=⟨_,rfl⟩
    rw [hjl] at HJO
    have HJL:Hid (jnL q.e.hs=jl):=hjl
    clear hjl
    obtain⟨la,lc,elv,-⟩:=hq2.form
    rw [elv] at hq1 HJO
    obtain⟨w8,hw8⟩:∃u,u=(wr.alloc (.cells #[.int .u32 pa,.int .u8 pb] 42)).alloc (.cells #[.int .u32 q.e.cost,.slice la q.e.hs.length lc] 164):=⟨_,rfl⟩
    have T8:Touch (fun _=>False) wr w8:=by rw [hw8];exact ((Touch.refl _ wr).alloc _).alloc _
    have R7:Row w8 wr.heap.size 42 [.int .u32 pa,.int .u8 pb]:=by rw [hw8];exact Row.keep (Qac wr 42 #[.int .u32 pa,.int .u8 pb]) ((Touch.refl _ _).alloc _)
    have R8:Row w8 (wr.heap.size+1) 164 [.int .u32 q.e.cost,.slice la q.e.hs.length lc]:=by
     rw [hw8]
     have:=Qac (wr.alloc (.cells #[.int .u32 pa,.int .u8 pb] 42)) 164 #[.int .u32 q.e.cost,.slice la q.e.hs.length lc]
     rw [World.size_alloc] at this
     exact this
    have hq1':=HAM1.out (wr.alloc (.cells #[.int .u32 pa,.int .u8 pb] 42)) (HT.trans ((Touch.refl _ _).alloc _)) j q hq
    rw [hep,elv] at hq1'
    unfold PX.v at hq1'
    simp only at hq1'
    have HJ8:=HJO
    have HW8:Hid (WB1 w2 w8 (.slice aa NN.length ac) NN):=hb.keep T8
    have HT8:Hid (Touch (fun _=>False) w2 w8):=HT2'.trans T8
    generalize hec:q.e.cost=ec at *
    have HEC:Hid (q.e.cost=ec):=hec
    generalize hln:q.e.hs.length=ln at *
    generalize hNL:NN.length=NL at *
    have HLB:Hid (NL≤1000000):=by show _≤_;have:=HNN.out.2;have:=HN.out;omega
    have HNL:Hid (NN.length=NL):=hNL
    clear hq1 hq2 hq3 hq4 hb hnn hee hep heL hq elv hec hln HT HT2' HJO hNL hpS hp
    go_upto_region 6 with fail
    rw [←hw8]
    clear hw8 hcx hcy lcx hq1'
    generalize wr.heap.size+1=b8 at *
    generalize wr.heap.size=b7 at *
    obtain⟨i0,hi,hz0,hz1,hz2⟩:=info_parts infoWay
    refine wp_region_held_drew (S:=fun w'=>Row w' b7 42 [.int .u32 pa,.int .u8 pb]∧Row w' b8 164 [.int .u32 ec,.slice la ln lc]) (by kernel_rfl) ⟨R7.keep ((Touch.refl _ _).drew),R8.keep ((Touch.refl _ _).drew)⟩ (fun hHeld=>?_)
    refine wpAnyH_take (i:=0) (oi:=⟨some 20,_,_,_,_,_⟩) (v:=.slice aa NL ac) rfl (by kernel_rfl) (by kernel_rfl) (by kernel_rfl) (fun _ _ _ h=>h) (Or.inl ⟨by rfl,fun w hw=>by go_simp⟩) (by assumption) ?_
    simp only [Act.put,Qw2,Qw3,Qw4]
    refine wpAnyH_take (i:=1) (oi:=⟨some 21,_,_,_,_,_⟩) (v:=.agg #[.int .u32 pa,.int .u8 pb]) rfl (by kernel_rfl) (by kernel_rfl) (by kernel_rfl) (fun _ _ _ h=>h) (yieldsIf_load_mid (by rfl) _ _ rfl _ _ rfl [.int .u32 pa,.int .u8 pb] _ (fun w h=>Qba h.1) Tryz.underlying42 rfl (by kernel_rfl)) (by assumption) ?_
    simp only [Act.put,Qw2,Qw3,Qw4]
    refine wpAnyH_take (i:=2) (oi:=⟨some 22,_,_,_,_,_⟩) (v:=.int .u32 area) rfl (by kernel_rfl) (by kernel_rfl) (by kernel_rfl) (fun _ _ _ h=>h) (Or.inl ⟨by rfl,fun w hw=>by go_simp⟩) (by assumption) ?_
    simp only [Act.put,Qw2,Qw3,Qw4]
    refine wpAnyH_take (i:=3) (oi:=⟨some 23,_,_,_,_,_⟩) (v:=.pointer (some ⟨b8,0,none⟩)) rfl (by kernel_rfl) (by kernel_rfl) (by kernel_rfl) (fun _ _ _ h=>h) (Or.inl ⟨by rfl,fun w hw=>by go_simp⟩) (by assumption) ?_
    simp only [Act.put,Qw2,Qw3,Qw4]
    refine wpAnyH_take (i:=4) (oi:=⟨some 24,_,_,_,_,_⟩) (v:=.int .u32 ec) rfl (by kernel_rfl) (by kernel_rfl) (by kernel_rfl) (fun _ _ _ h=>h) (Or.inl ⟨by rfl,fun w hw=>by have c1:w.cell? ⟨b8,0,none⟩=some (.int .u32 ec):=hw.2.cell 0;go_simp⟩) (by assumption) ?_
    simp only [Act.put,Qw2,Qw3,Qw4]
    refine wpAnyH_take (i:=5) (oi:=⟨some 25,_,_,_,_,_⟩) (v:=.pointer (some ⟨b8,1,none⟩)) rfl (by kernel_rfl) (by kernel_rfl) (by kernel_rfl) (fun _ _ _ h=>h) (Or.inl ⟨by rfl,fun w hw=>by go_simp⟩) (by assumption) ?_
    simp only [Act.put,Qw2,Qw3,Qw4]
    refine wpAnyH_take (i:=6) (oi:=⟨some 26,_,_,_,_,_⟩) (v:=.slice la ln lc) rfl (by kernel_rfl) (by kernel_rfl) (by kernel_rfl) (fun _ _ _ h=>h) (Or.inl ⟨by rfl,fun w hw=>by have c1:w.cell? ⟨b8,1,none⟩=some (.slice la ln lc):=hw.2.cell 1;go_simp⟩) (by assumption) ?_
    simp only [Act.put,Qw2,Qw3,Qw4]
    refine wpAnyH_ready (rs:=[7]) (by kernel_rfl) (by simp) ?_
    refine AllReadyH.cons (o:=⟨some 27,_,_,_,_,_⟩) rfl (fun K hK=>?_) AllReadyH.nil
    go_simp
    refine Calls.mono (HJ8 w8.drew (T8.trans ((Touch.refl _ _).drew))) ?_
    rintro e9 w9 ⟨rv,rfl,hv9,t9⟩
    have t89:Touch (fun _=>False) w8 w9:=Touch.trans (b:=w8.drew) ((Touch.refl _ _).drew) t9
    refine hK.out _ _ ⟨R7.keep t89,R8.keep t89⟩ (fun hHeld=>?_)
    clear hK K
    obtain⟨ra,rc,rfl⟩:=hv9.form
    have HV9:Hid (HO w9 (.slice ra jl.length rc) jl):=Qam hv9.own (Nat.zero_le _)
    generalize hrn:jl.length=rn at *
    have HT89:Hid (Touch (fun _=>False) w8 w9):=t89
    clear hv9 t9 hrn HJ8
    have R79:=R7.keep t89
    have R89:=R8.keep t89
    clear R7 R8 t89
    have hbld:∀w',(Instr.build 45 #[(0,.agg #[.int .u32 pa,.int .u8 pb]),(3,.int .u8 1),(4,.int .u32 area),(5,.int .u32 ec),(8,.slice ra rn rc)]).run Tryz.prog w'=.ok (.agg #[.int .u32 pa,.int .u8 pb,.int .u32 0,.int .u8 0,.int .u8 1,.int .u32 area,.int .u32 ec,.int .u32 0,.int .u32 0,.slice ra rn rc]) w':=fun w'=>run_build w' _ _ _ (by kernel_rfl)
    refine wpAnyH_take (i:=8) (oi:=⟨some 28,_,_,_,_,_⟩) (v:=.agg #[.int .u32 pa,.int .u8 pb,.int .u32 0,.int .u8 0,.int .u8 1,.int .u32 area,.int .u32 ec,.int .u32 0,.int .u32 0,.slice ra rn rc]) rfl (by kernel_rfl) (by kernel_rfl) (by kernel_rfl) (fun _ _ _ h=>h) (Or.inl ⟨by rfl,fun w hw=>by simp only [execOp,Sem.run_bind,List.map_toArray,List.map_cons,List.map_nil];exact Eq.trans (congrArg (fun r=>Result.andThen r (fun a w'=>Sem.run Tryz.prog (pure (Next.value a)) w')) (hbld w)) rfl⟩) (by assumption) ?_
    simp only [Act.put,Qw2,Qw3,Qw4]
    refine wpAnyH_ready (rs:=[9]) (by kernel_rfl) (by simp) ?_
    refine AllReadyH.cons (o:=⟨some 29,_,_,_,_,_⟩) rfl (fun K hK=>?_) AllReadyH.nil
    have RA:Row (w9.alloc (.cells #[.int .u32 pa,.int .u8 pb,.int .u32 0,.int .u8 0,.int .u8 1,.int .u32 area,.int .u32 ec,.int .u32 0,.int .u32 0,.slice ra rn rc] 45)) w9.heap.size 45 [.int .u32 pa,.int .u8 pb,.int .u32 0,.int .u8 0,.int .u8 1,.int .u32 area,.int .u32 ec,.int .u32 0,.int .u32 0,.slice ra rn rc]:=Qac w9 _ _
    have T10:Touch (fun _=>False) w9 (w9.alloc (.cells #[.int .u32 pa,.int .u8 pb,.int .u32 0,.int .u8 0,.int .u8 1,.int .u32 area,.int .u32 ec,.int .u32 0,.int .u32 0,.slice ra rn rc] 45)):=(Touch.refl _ _).alloc _
    have HOA:Hid ((w9.alloc (.cells #[.int .u32 pa,.int .u8 pb,.int .u32 0,.int .u8 0,.int .u8 1,.int .u32 area,.int .u32 ec,.int .u32 0,.int .u32 0,.slice ra rn rc] 45)).ownsRow w2.heap.size 45 10 (.slice aa NL ac) NL (cellsG WY.cs NN)):=by have:=HW8.out.b.own;rw [HNL.out] at this;exact Qab this (HT89.out.trans T10) (fun _ _ h=>h)
    have HNA:Hid (∀(j:Nat) u,([.int .u32 pa,.int .u8 pb,.int .u32 0,.int .u8 0,.int .u8 1,.int .u32 area,.int .u32 ec,.int .u32 0,.int .u32 0,.slice ra rn rc]:List Value)[j]?=some u→(w9.alloc (.cells #[.int .u32 pa,.int .u8 pb,.int .u32 0,.int .u8 0,.int .u8 1,.int .u32 area,.int .u32 ec,.int .u32 0,.int .u32 0,.slice ra rn rc] 45)).cell? ((⟨w9.heap.size,0,none⟩:Addr).add j)=some u):=fun j u hj=>by rw [Qae,Nat.zero_add,RA.cell j];exact hj
    clear RA
    refine Qdp (by rfl) 27 1 [(0,.tmp 28)] (by rfl) _ [(0,.agg #[.int .u32 pa,.int .u8 pb,.int .u32 0,.int .u8 0,.int .u8 1,.int .u32 area,.int .u32 ec,.int .u32 0,.int .u32 0,.slice ra rn rc])] (by rfl) (Qsm pa pb 0 0 1 area ec 0 0 ra rn rc w9) ?_
    simp only [Act.put,Qw2,Qw3,Qw4]
    refine hK.out _ _ ⟨R79.keep T10,R89.keep T10⟩ (fun hHeld=>?_)
    clear hK K
    refine wpAnyH_ready (rs:=[10]) (by kernel_rfl) (by simp) ?_
    refine AllReadyH.cons (o:=⟨some 30,_,_,_,_,_⟩) rfl (fun K hK=>?_) AllReadyH.nil
    refine Qbc (by rfl) (.tmp 20) (.tmp 29) 27 (by rfl) w2.heap.size 45 i0 (.agg #[.int .u32 0,.int .u8 0,.int .u32 0,.int .u8 0,.int .u8 0,.int .u32 0,.int .u32 0,.int .u32 0,.int .u32 0,.slice none 0 0]) 10 56 Tryz.underlying27 hi hz0 hz1 hz2 rfl (by omega) (.slice aa NL ac) NL (cellsG WY.cs NN) (by rfl) HOA.out ⟨w9.heap.size,0,none⟩ 1 1 [.int .u32 pa,.int .u8 pb,.int .u32 0,.int .u8 0,.int .u8 1,.int .u32 area,.int .u32 ec,.int .u32 0,.int .u32 0,.slice ra rn rc] (by rfl) rfl HNA.out (by intro u hu;simp at hu;rcases hu with rfl|rfl|rfl|rfl|rfl|rfl|rfl|rfl|rfl|rfl <;> rfl) (by have:=HLB.out;unfold maxLen;omega) (by have:=HLB.out;omega) (by have:=(HT8.out.trans (HT89.out.trans T10)).size;simpa using this) ?_
    intro v' w' hown hgr hor
    simp only [Act.put,Qw2,Qw3,Qw4]
    have TG:Touch (fun k=>(Value.slice aa NL ac).ownBlock=some k) (w9.alloc (.cells #[.int .u32 pa,.int .u8 pb,.int .u32 0,.int .u8 0,.int .u8 1,.int .u32 area,.int .u32 ec,.int .u32 0,.int .u32 0,.slice ra rn rc] 45)) w':=(Touch.refl _ _).grown hgr (fun k hk=>Or.inl hk)
    have n7:¬(Value.slice aa NL ac).ownBlock=some b7:=Qb5 HOA.out (R79.keep T10) (by decide)
    have n8:¬(Value.slice aa NL ac).ownBlock=some b8:=Qb5 HOA.out (R89.keep T10) (by decide)
    refine hK.out _ _ ⟨Qad (R79.keep T10) TG n7,Qad (R89.keep T10) TG n8⟩ (fun hHeld=>?_)
    clear hK K
    obtain⟨f1,f2,rfl⟩:=Qah hown
    have HLOW:Hid (∀k,(Value.slice aa NL ac).ownBlock=some k→w2.heap.size≤k):=fun k hk=>(HOA.out.lt k hk).1
    have HTY:Hid (∀(g:Nat) (xs:List Value) (T:Nat),45≠T→Row (w9.alloc (.cells #[.int .u32 pa,.int .u8 pb,.int .u32 0,.int .u8 0,.int .u8 1,.int .u32 area,.int .u32 ec,.int .u32 0,.int .u32 0,.slice ra rn rc] 45)) g T xs→(Value.slice aa NL ac).ownBlock≠some g):=fun g xs T hT hr=>Qb5 HOA.out hr hT
    have HWN:Hid (WB1 w2 w' (.slice f1 (NL+1) f2) (NN++[⟨wayE area q.e,.slice ra rn rc⟩])):=by
     have tt:Touch (fun _=>False) w2 w':=(HT8.out.trans (HT89.out.trans T10)).trans' TG (fun i hi h=>by have:=HLOW.out i h;omega)
     have kh:∀v l,HO (w9.alloc (.cells #[.int .u32 pa,.int .u8 pb,.int .u32 0,.int .u8 0,.int .u8 1,.int .u32 area,.int .u32 ec,.int .u32 0,.int .u32 0,.slice ra rn rc] 45)) v l→HO w' v l:=fun v l hv=>Qab hv TG (Qa2 hv HOA.out (by decide))
     refine⟨⟨?_,tt⟩,fun y hy=>?_⟩
     ·rw [List.length_append,Qaq,HNL.out]
      have hw:wayE area q.e=⟨⟨pa,pb⟩,0,0,1,area,ec,0,0,jl⟩:=by unfold wayE;rw [HEP.out,HEC.out,HJL.out]
      rw [hw]
      exact hown
     ·rcases List.mem_append.1 hy with hy|hy
      ·exact kh _ _ (Qab (HW8.out.h y hy) (HT89.out.trans T10) (fun _ _ h=>h))
      ·obtain rfl:y=⟨wayE area q.e,.slice ra rn rc⟩:=by simpa using hy
       show HO w' (.slice ra rn rc) (jnL q.e.hs)
       rw [HJL.out]
       exact kh _ _ (Qab HV9.out T10 (fun _ _ h=>h))
    clear HOA HNA HW8 HV9 HT89 HTY HLOW hown hgr hor TG n7 n8 R79 R89 T10 hi hz0 hz1 hz2 HEP HEC T8 HT8
    refine wpAnyH_take (i:=11) (oi:=⟨some 5,_,_,_,_,_⟩) (v:=.slice f1 (NL+1) f2) rfl (by kernel_rfl) (by kernel_rfl) (by kernel_rfl) (fun _ _ _ h=>h) (Or.inl ⟨by rfl,fun w hw=>by go_simp⟩) (by assumption) ?_
    simp only [Act.put,Qw2,Qw3,Qw4]
    refine wpAnyH_done (by kernel_rfl) ?_ _
    go_wp2_with fail
    go_roundw
    case rel=>exact⟨k+1,f1,f2,NN++[⟨wayE area q.e,.slice ra rn rc⟩],by omega,by rw [List.length_append,HNL.out];rfl,by go_num,by rw [List.length_append,HNL.out];exact HWN.out,by rw [HST.out,List.map_append,HNN.out.1];rfl⟩
    case measure=>exact Qa5 hlt hkw
   ·have hlt':¬(k:Int)<(n:Int):=by omega
    have hk2:S.take k=S:=List.take_of_length_le (by have:=HN.out;omega)
    rw [hk2] at hnn
    have HF:Hid (WaysP w area L (.returned (.slice aa NN.length ac)) wr):=⟨_,NN,S.map (entX L),rfl,⟨hb.b.back HT2.out,hb.h⟩,Qhx HS.out.2.2.1 HS.out.2.1,by have:=Qh7 HS.out.1;rw [this];exact HS.out.2.2.2,hnn⟩
    clear hb hnn hk2
    generalize NN.length=NL at *
    go_wp2_with fail
    go_ret
    exact HF.out
open Go.RowKit
def tab {α:Type} (n:Nat) (f:Nat→α):List α:=(List.range n).map f
theorem Qau {α:Type} (n:Nat) (f:Nat→α):(tab n f).length=n:=by simp [tab]
theorem Qbe {α:Type} {n i:Nat} (f:Nat→α) (h:i<n):(tab n f)[i]?=some (f i):=by simp [tab,h]
theorem Qfi {α:Type} (n:Nat) (f:Nat→α) (i:Nat) (x:α):(tab n f).set i x=tab n (upf f i x):=by
 apply List.ext_getElem?
 intro j
 rw [List.getElem?_set]
 simp only [Qau]
 by_cases h:i=j
 ·subst h
  rw [if_pos rfl]
  by_cases hi:i<n
  ·rw [if_pos hi,Qbe _ hi,Qag]
  ·rw [if_neg hi,List.getElem?_eq_none (by rw [Qau];omega)]
 ·rw [if_neg h]
  by_cases hj:j<n
  ·rw [Qbe _ hj,Qbe _ hj,Qaf _ _ (Ne.symm h)]
  ·rw [List.getElem?_eq_none (by rw [Qau];omega),List.getElem?_eq_none (by rw [Qau];omega)]
theorem Qn9 {α:Type} {n:Nat} {f f':Nat→α} (h:∀i,i<n→f i=f' i):tab n f=tab n f':=by
 apply List.ext_getElem?
 intro j
 by_cases hj:j<n
 ·rw [Qbe _ hj,Qbe _ hj,h j hj]
 ·rw [List.getElem?_eq_none (by rw [Qau];omega),List.getElem?_eq_none (by rw [Qau];omega)]
def TE.cs (e:TE):List Value:=[.int .i64 e.dst,.int .u32 e.cost,.int .u32 e.data,.bool e.vr]
structure GrAt (w:World) (nv:Value) (ns:List NM):Prop where
 sh:∃a c,nv=.slice a ns.length c∧(ns=[]∨∃g,a=some ⟨g,0,none⟩∧∀i x,ns[i]?=some x→∀d u,x.cs[d]?=some u→w.cell? ⟨g,i*7+d,none⟩=some u)
 ed:∀x∈ns,x.t.edges=[]∨∃g,x.ea=some ⟨g,0,none⟩∧∀j e,x.t.edges[j]?=some e→∀d u,e.cs[d]?=some u→w.cell? ⟨g,j*4+d,none⟩=some u
def rcs (x:RV×Value):List Value:=[.bool x.1.is,.int .u32 x.1.cost,x.2]
theorem Qbt (x:RV×Value):(rcs x).length=3:=rfl
abbrev RR (B:Nat) (w:World) (v:Value) (l:List (RV×Value)):Prop:=RG rcs 3 68 B w v l
structure WB where
 nv:Value
 N:Nat
 root:Nat
 wb:Nat
 rb:Nat
 zb:Nat
structure WS (w0:World) (p:WB) (w:World) (v:Value) (L:List Sp) (R:Nat→RV) (H:Nat→Value) (Z:Nat→Sp):Prop where
 t:Touch (fun _=>False) w0 w
 ls:LS w p.wb v w0.heap.size L
 hp:HP L.length (gt L)
 c1:w.cell? ⟨p.wb,1,none⟩=some p.nv
 c2:w.cell? ⟨p.wb,2,none⟩=some (.int .i64 p.root)
 c3:w.cell? ⟨p.wb,3,none⟩=some (.slice (some ⟨p.rb,0,none⟩) p.N p.N)
 c4:w.cell? ⟨p.wb,4,none⟩=some (.slice (some ⟨p.zb,0,none⟩) p.N p.N)
 wB:w0.heap.size≤p.wb
 rr:RR w0.heap.size w (.slice (some ⟨p.rb,0,none⟩) p.N p.N) (tab p.N (fun i=>(R i,H i)))
 zz:RS w0.heap.size w (.slice (some ⟨p.zb,0,none⟩) p.N p.N) (tab p.N Z)
 hh:∀i,i<p.N→RH w0.heap.size w (H i) (R i).hops
 d1:p.wb≠p.rb
 d2:p.wb≠p.zb
 d3:p.rb≠p.zb
 e1:v.ownBlock≠some p.rb
 e2:v.ownBlock≠some p.zb
 h1:∀i g,i<p.N→(H i).ownBlock=some g→g≠p.wb∧g≠p.rb∧g≠p.zb∧v.ownBlock≠some g
 h2:∀i j g,i<p.N→j<p.N→i≠j→(H i).ownBlock=some g→(H j).ownBlock≠some g
def WBl (p:WB) (v:Value):Nat→Prop:=fun k=>k=p.wb∨k=p.rb∨k=p.zb∨v.ownBlock=some k
section
variable {w0:World} {p:WB} {w w':World} {v v':Value} {L L':List Sp} {R:Nat→RV} {H:Nat→Value} {Z:Nat→Sp}
theorem WS.rlt (X:WS w0 p w v L R H Z):p.rb<w.heap.size:=RG.lt X.rr rfl
theorem WS.zlt (X:WS w0 p w v L R H Z):p.zb<w.heap.size:=RG.lt X.zz rfl
theorem WS.rge (X:WS w0 p w v L R H Z):w0.heap.size≤p.rb:=RG.ge X.rr rfl
theorem WS.zge (X:WS w0 p w v L R H Z):w0.heap.size≤p.zb:=RG.ge X.zz rfl
theorem WS.vge (X:WS w0 p w v L R H Z) {g:Nat} (h:v.ownBlock=some g):w0.heap.size≤g:=RG.ge X.ls.re h
theorem WS.vlt (X:WS w0 p w v L R H Z) {g:Nat} (h:v.ownBlock=some g):g<w.heap.size:=RG.lt X.ls.re h
theorem WS.keep (X:WS w0 p w v L R H Z) (t:Touch (fun _=>False) w w'):WS w0 p w' v L R H Z :=
 ⟨X.t.trans t,X.ls.keep t,X.hp,t.cellN X.c1,t.cellN X.c2,t.cellN X.c3,t.cellN X.c4,X.wB,X.rr.keepN t,X.zz.keepN t,fun i hi=>(X.hh i hi).keepN t,X.d1,X.d2,X.d3,X.e1,X.e2,X.h1,X.h2⟩
theorem WS.old {F:Nat→Prop} (X:WS w0 p w v L R H Z) (t:Touch F w w') (h:∀k,F k→w0.heap.size≤k):Touch (fun _=>False) w0 w':=X.t.trans' t (fun k hk f=>by have:=h k f;omega)
theorem WS.line (X:WS w0 p w v L R H Z) (ls:LS w' p.wb v' w0.heap.size L') (hp:HP L'.length (gt L')) (hv:v'.ownBlock=v.ownBlock∨∃g,v'.ownBlock=some g∧w.heap.size≤g) (t:TouchB p.wb (fun k=>v.ownBlock=some k) w w'):WS w0 p w' v' L' R H Z:=by
 have hge:∀k,(k=p.wb∨v.ownBlock=some k)→w0.heap.size≤k:=fun k h=>h.elim (fun e=>by rw [e];exact X.wB) (fun e=>X.vge e)
 refine⟨X.old t.t hge,ls,hp,(t.rest 1 (by omega)).trans X.c1,(t.rest 2 (by omega)).trans X.c2,(t.rest 3 (by omega)).trans X.c3,(t.rest 4 (by omega)).trans X.c4,X.wB,RG.keep X.rr t.t ?_,RG.keep X.zz t.t ?_,fun i hi=>RG.keep (X.hh i hi) t.t ?_,X.d1,X.d2,X.d3,?_,?_,fun i g hi hg=>?_,X.h2⟩
 ·intro j hj e
  injection hj with hj
  subst hj
  exact e.elim (fun e=>X.d1 e.symm) X.e1
 ·intro j hj e
  injection hj with hj
  subst hj
  exact e.elim (fun e=>X.d2 e.symm) X.e2
 ·intro j hj e
  obtain⟨a1,a2,a3,a4⟩:=X.h1 i j hi hj
  exact e.elim a1 a4
 ·rcases hv with e|⟨g,e,hg⟩
  ·rw [e];exact X.e1
  ·rw [e];intro h;injection h with h;have:=X.rlt;omega
 ·rcases hv with e|⟨g,e,hg⟩
  ·rw [e];exact X.e2
  ·rw [e];intro h;injection h with h;have:=X.zlt;omega
 ·obtain⟨a1,a2,a3,a4⟩:=X.h1 i g hi hg
  refine⟨a1,a2,a3,?_⟩
  rcases hv with e|⟨g',e,hg'⟩
  ·rw [e];exact a4
  ·rw [e];intro h;injection h with h;have:=RG.lt (X.hh i hi) hg;omega
theorem WS.reach (X:WS w0 p w v L R H Z) {i:Nat} (hi:i<p.N) (b:Bool) (c:Int):WS w0 p ((w.setCell ⟨p.rb,i*3,none⟩ (.bool b)).setCell ⟨p.rb,i*3+1,none⟩ (.int .u32 c)) v L (upf R i ⟨b,c,(R i).hops⟩) H Z:=by
 have t:Touch (fun k=>k=p.rb) w ((w.setCell ⟨p.rb,i*3,none⟩ (.bool b)).setCell ⟨p.rb,i*3+1,none⟩ (.int .u32 c)):=tset1 (tset1 (Touch.refl _ _) _ _) _ _
 have r1:=RG.set1 Qbt X.rr (i:=i) (d:=0) (x:=(R i,H i)) (y:=(⟨b,(R i).cost,(R i).hops⟩,H i)) (by omega) (Qbe _ hi) (u:=.bool b) rfl
 rw [Qfi] at r1
 have r2:=RG.set1 Qbt r1 (i:=i) (d:=1) (x:=(⟨b,(R i).cost,(R i).hops⟩,H i)) (y:=(⟨b,c,(R i).hops⟩,H i)) (by omega) (by rw [Qbe _ hi,Qag]) (u:=.int .u32 c) rfl
 rw [Qfi] at r2
 have e:upf (upf (fun i=>(R i,H i)) i (⟨b,(R i).cost,(R i).hops⟩,H i)) i (⟨b,c,(R i).hops⟩,H i)=fun j=>(upf R i ⟨b,c,(R i).hops⟩ j,H j):=by
  funext j
  by_cases h:j=i
  ·subst h;simp only [Qag]
  ·simp only [Qaf _ _ h]
 rw [e] at r2
 have hw:p.wb<w.heap.size:=X.ls.lt
 have cw:∀o,((w.setCell ⟨p.rb,i*3,none⟩ (.bool b)).setCell ⟨p.rb,i*3+1,none⟩ (.int .u32 c)).cell? ⟨p.wb,o,none⟩=w.cell? ⟨p.wb,o,none⟩:=fun o=>t.cell (p:=⟨p.wb,o,none⟩) hw X.d1
 refine⟨X.old t (fun k e=>by rw [e];exact X.rge),⟨(cw 0).trans X.ls.c0,(t.frozen (p:=⟨p.wb,0,none⟩) hw X.d1).trans X.ls.f0,RG.keep X.ls.re t (fun j hj e=>X.e1 (by rw [hj,e])),X.ls.bv,X.ls.hl⟩,X.hp,(cw 1).trans X.c1,(cw 2).trans X.c2,(cw 3).trans X.c3,(cw 4).trans X.c4,X.wB,r2,RG.keep X.zz t (fun j hj e=>by cases hj;exact X.d3 e.symm),fun j hj=>?_,X.d1,X.d2,X.d3,X.e1,X.e2,X.h1,X.h2⟩
 have hq:(upf R i ⟨b,c,(R i).hops⟩ j).hops=(R j).hops:=by
  by_cases h:j=i
  ·subst h;simp only [Qag]
  ·simp only [Qaf _ _ h]
 rw [hq]
 exact RG.keep (X.hh j hj) t (fun g hg e=>(X.h1 j g hj hg).2.1 e)
theorem WS.last (X:WS w0 p w v L R H Z) {i:Nat} (hi:i<p.N) (s:Sp):WS w0 p (((((w.setCell ⟨p.zb,i*5,none⟩ (.int .i64 s.node)).setCell ⟨p.zb,i*5+1,none⟩ (.int .u32 s.cost)).setCell ⟨p.zb,i*5+2,none⟩ (.int .u32 s.h.out)).setCell ⟨p.zb,i*5+3,none⟩ (.int .u32 s.h.via)).setCell ⟨p.zb,i*5+4,none⟩ (.bool s.h.vr)) v L R H (upf Z i s):=by
 have t:=tset5 (Touch.refl (fun k=>k=p.zb) w) i s
 have r1:=RS.set X.zz (i:=i) (by rw [Qau];exact hi) s
 rw [Qfi] at r1
 generalize (((((w.setCell ⟨p.zb,i*5,none⟩ (.int .i64 s.node)).setCell ⟨p.zb,i*5+1,none⟩ (.int .u32 s.cost)).setCell ⟨p.zb,i*5+2,none⟩ (.int .u32 s.h.out)).setCell ⟨p.zb,i*5+3,none⟩ (.int .u32 s.h.via)).setCell ⟨p.zb,i*5+4,none⟩ (.bool s.h.vr))=w2 at t r1 ⊢
 have hw:p.wb<w.heap.size:=X.ls.lt
 have cw:∀o,w2.cell? ⟨p.wb,o,none⟩=w.cell? ⟨p.wb,o,none⟩:=fun o=>t.cell (p:=⟨p.wb,o,none⟩) hw X.d2
 exact⟨X.old t (fun k e=>by rw [e];exact X.zge),⟨(cw 0).trans X.ls.c0,(t.frozen (p:=⟨p.wb,0,none⟩) hw X.d2).trans X.ls.f0,RG.keep X.ls.re t (fun j hj e=>X.e2 (by rw [hj,e])),X.ls.bv,X.ls.hl⟩,X.hp,(cw 1).trans X.c1,(cw 2).trans X.c2,(cw 3).trans X.c3,(cw 4).trans X.c4,X.wB,RG.keep X.rr t (fun j hj e=>by cases hj;exact X.d3 e),r1,fun j hj=>RG.keep (X.hh j hj) t (fun g hg e=>(X.h1 j g hj hg).2.2.1 e),X.d1,X.d2,X.d3,X.e1,X.e2,X.h1,X.h2⟩
theorem WS.hops (X:WS w0 p w v L R H Z) {i:Nat} (hi:i<p.N) {w1:World} {hv:Value} {hs:List HK} (re:RH w0.heap.size w1 hv hs) (ow:hv.ownBlock=(H i).ownBlock∨∃g,hv.ownBlock=some g∧w.heap.size≤g) (t1:Touch (fun k=>(H i).ownBlock=some k) w w1) :
  WS w0 p (w1.setCell ⟨p.rb,i*3+2,none⟩ hv) v L (upf R i ⟨(R i).is,(R i).cost,hs⟩) (upf H i hv) Z:=by
 have hio:=X.h1 i
 have fw:¬((H i).ownBlock=some p.wb):=fun e=>(hio _ hi e).1 rfl
 have fr:¬((H i).ownBlock=some p.rb):=fun e=>(hio _ hi e).2.1 rfl
 have fz:¬((H i).ownBlock=some p.zb):=fun e=>(hio _ hi e).2.2.1 rfl
 have fv:∀g,v.ownBlock=some g→¬((H i).ownBlock=some g):=fun g hg e=>(hio _ hi e).2.2.2 hg
 have hw:p.wb<w.heap.size:=X.ls.lt
 have hw1:p.wb<w1.heap.size:=Nat.lt_of_lt_of_le hw t1.size
 have rr1:RR w0.heap.size w1 (.slice (some ⟨p.rb,0,none⟩) p.N p.N) (tab p.N (fun i=>(R i,H i))):=RG.keep X.rr t1 (fun j hj e=>by injection hj with hj;subst hj;exact fr e)
 have zz1:RS w0.heap.size w1 (.slice (some ⟨p.zb,0,none⟩) p.N p.N) (tab p.N Z):=RG.keep X.zz t1 (fun j hj e=>by injection hj with hj;subst hj;exact fz e)
 have t:Touch (fun k=>k=p.rb) w1 (w1.setCell ⟨p.rb,i*3+2,none⟩ hv):=tset1 (Touch.refl _ _) _ _
 have r1:=RG.set1 Qbt rr1 (i:=i) (d:=2) (x:=(R i,H i)) (y:=(R i,hv)) (by omega) (Qbe _ hi) (u:=hv) rfl
 rw [Qfi] at r1
 have e:tab p.N (upf (fun i=>(R i,H i)) i (R i,hv))=tab p.N (fun j=>(R j,upf H i hv j)):=Qn9 (fun j _=>by
  by_cases h:j=i
  ·subst h;simp only [Qag]
  ·simp only [Qaf _ _ h])
 rw [e] at r1
 have r2:RR w0.heap.size (w1.setCell ⟨p.rb,i*3+2,none⟩ hv) (.slice (some ⟨p.rb,0,none⟩) p.N p.N) (tab p.N (fun j=>(upf R i ⟨(R i).is,(R i).cost,hs⟩ j,upf H i hv j))):=by
  have e2:cellsG rcs (tab p.N (fun j=>(upf R i ⟨(R i).is,(R i).cost,hs⟩ j,upf H i hv j)))=cellsG rcs (tab p.N (fun j=>(R j,upf H i hv j))):=by
   unfold cellsG tab
   rw [List.flatMap_map,List.flatMap_map]
   refine congrArg (fun f=>List.flatMap f (List.range p.N)) (funext fun j=>?_)
   by_cases h:j=i
   ·subst h;simp only [rcs,Qag]
   ·simp only [rcs,Qaf _ _ h]
  show RG rcs 3 _ _ _ _ _
  unfold RG at r1 ⊢
  rw [Qau] at r1 ⊢
  rw [e2]
  exact r1
 have hge:∀k,(H i).ownBlock=some k→w0.heap.size≤k:=fun k e=>RG.ge (X.hh i hi) e
 have T1:=X.old t1 hge
 have c:∀o,(w1.setCell ⟨p.rb,i*3+2,none⟩ hv).cell? ⟨p.wb,o,none⟩=w.cell? ⟨p.wb,o,none⟩:=fun o=>(t.cell (p:=⟨p.wb,o,none⟩) hw1 X.d1).trans (t1.cell (p:=⟨p.wb,o,none⟩) hw fw)
 have own:∀g,hv.ownBlock=some g→g≠p.wb∧g≠p.rb∧g≠p.zb∧v.ownBlock≠some g:=by
  intro g hg
  rcases ow with e|⟨g',e,hg'⟩
  ·rw [e] at hg;exact hio g hi hg
  ·rw [e] at hg
   injection hg with hg
   have:=X.rlt
   have:=X.zlt
   exact⟨by omega,by omega,by omega,fun e=>by have:=X.vlt e;omega⟩
 have far:∀j g,j<p.N→j≠i→(H j).ownBlock=some g→hv.ownBlock≠some g:=by
  intro j g hj hji hg
  rcases ow with e|⟨g',e,hg'⟩
  ·rw [e];exact X.h2 j i g hj hi hji hg
  ·rw [e];intro h;injection h with h;have:=RG.lt (X.hh j hj) hg;omega
 refine⟨T1.trans' t (fun k hk e=>by have:=X.rge;omega),⟨(c 0).trans X.ls.c0,(t.frozen (p:=⟨p.wb,0,none⟩) hw1 X.d1).trans ((t1.frozen (p:=⟨p.wb,0,none⟩) hw fw).trans X.ls.f0),RG.keep (RG.keep X.ls.re t1 (fun g hg=>fv g hg)) t (fun g hg e=>X.e1 (by rw [hg,e])),X.ls.bv,X.ls.hl⟩,X.hp,(c 1).trans X.c1,(c 2).trans X.c2,(c 3).trans X.c3,(c 4).trans X.c4,X.wB,r2,RG.keep zz1 t (fun g hg e=>by cases hg;exact X.d3 e.symm),fun j hj=>?_,X.d1,X.d2,X.d3,X.e1,X.e2,fun j g hj hg=>?_,fun j k g hj hk hjk hg=>?_⟩
 ·by_cases h:j=i
  ·subst h
   rw [Qag,Qag]
   exact RG.keep re t (fun g hg e=>(own g hg).2.1 e)
  ·rw [Qaf _ _ h,Qaf _ _ h]
   exact RG.keep (RG.keep (X.hh j hj) t1 (fun g hg e=>X.h2 j i g hj hi h hg e)) t (fun g hg e=>(X.h1 j g hj hg).2.1 e)
 ·by_cases h:j=i
  ·subst h;rw [Qag] at hg;exact own g hg
  ·rw [Qaf _ _ h] at hg;exact X.h1 j g hj hg
 ·by_cases h:j=i
  ·subst h
   rw [Qag] at hg
   rw [Qaf _ _ (Ne.symm hjk)]
   intro e
   exact far k g hk (Ne.symm hjk) e hg
  ·rw [Qaf _ _ h] at hg
   by_cases h':k=i
   ·subst h';rw [Qag];exact far j g hj h hg
   ·rw [Qaf _ _ h'];exact X.h2 j k g hj hk hjk hg
theorem WS.rcell (X:WS w0 p w v L R H Z) {i:Nat} (hi:i<p.N):w.cell? ⟨p.rb,i*3,none⟩=some (.bool (R i).is)∧w.cell? ⟨p.rb,i*3+1,none⟩=some (.int .u32 (R i).cost)∧w.cell? ⟨p.rb,i*3+2,none⟩=some (H i) :=
 ⟨RG.cell (d:=0) Qbt X.rr (Qbe _ hi) rfl,RG.cell (d:=1) Qbt X.rr (Qbe _ hi) rfl,RG.cell (d:=2) Qbt X.rr (Qbe _ hi) rfl⟩
theorem WS.zcell (X:WS w0 p w v L R H Z) {i:Nat} (hi:i<p.N):w.cell? ⟨p.zb,i*5,none⟩=some (.int .i64 (Z i).node)∧w.cell? ⟨p.zb,i*5+1,none⟩=some (.int .u32 (Z i).cost)∧w.cell? ⟨p.zb,i*5+2,none⟩=some (.int .u32 (Z i).h.out)∧w.cell? ⟨p.zb,i*5+3,none⟩=some (.int .u32 (Z i).h.via)∧w.cell? ⟨p.zb,i*5+4,none⟩=some (.bool (Z i).h.vr):=RS.cells X.zz (Qbe _ hi)
theorem WS.rfz (X:WS w0 p w v L R H Z) (o:Nat):w.frozen? ⟨p.rb,o,none⟩=false:=RG.fz X.rr o
theorem WS.zfz (X:WS w0 p w v L R H Z) (o:Nat):w.frozen? ⟨p.zb,o,none⟩=false:=RG.fz X.zz o
end
end Go.Proofs.YtddbffoiadmffaaGreat
