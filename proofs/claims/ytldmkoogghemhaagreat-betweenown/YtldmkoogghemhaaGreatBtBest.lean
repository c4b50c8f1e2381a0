import Derived.Test.YtldmkoogghemhaaGreatBtSeq
import Derived.Test.YtldmkoogghemhaaGreatBtKeep
import Derived.Maps.AppendAt
import Derived.Laws.OwnMore
import Derived.Sort.CutIn
import Derived.Deep.LoopGhost
namespace Go.Proofs.YtldmkoogghemhaaGreat
set_option maxHeartbeats 8000000
open Go.RowKit Go.Shelf
set_option linter.unusedVariables false
set_option maxRecDepth 100000
attribute [local go_sem] Oper.semAt_some
structure BestP (w:World) (T:List WY) (me:Int) (S:List SE) (e:Ending) (w':World):Prop where
 out:∃(v:Value) (M L:List WY),e=.returned v∧WB1 w w' v M∧L.Perm (leadsY T me S)∧(L.map (·.x)).Pairwise WP.wle∧M.map (·.x)=bestP (L.map (·.x))
theorem Qkj {G:Nat→Prop} {n:Nat} (hG:∀k,n≤k→G k):∀(W:World) (l:Nat) (o o':Obj),n≤l→W.heap[l]?=some o→o.isCells=false→o.isWalk=false→Touch G W (W.putObj l o') :=
 fun W l o o' hl _ _ _=>(Touch.refl G W).grown (grownBy_putObj' W l o') (fun k hk=>by cases hk;exact Or.inl (hG l hl))
structure BsI (w w1:World) (B:Nat) (pre:List WZ) (W:World):Prop where
 t:Touch (fun _=>False) w W
 ge:w1.heap.size≤W.heap.size
 box:∃v,Row W B 31 [v]∧W.ownsRow w1.heap.size 47 10 v pre.length (cellsG WY.cs (ysZ pre))
theorem BsI.own (w w1:World) (B:Nat) (hn:w.heap.size≤w1.heap.size):OwnFrom w1.heap.size (BsI w w1 B):=by
 intro pre W W' row h hg hr
 obtain⟨t,ge,v,hb,ho⟩:=h
 refine⟨t.grown hg (fun k hk=>Or.inr (by have:=(hr k hk).1;omega)),Nat.le_trans ge hg.size,v,?_,?_⟩
 ·refine (hg.block B hb.lt (fun e=>?_)).trans hb
  obtain⟨-,o,h1,h2⟩:=hr B e.symm
  rw [show W.heap[B]?=_ from hb] at h1
  cases h1
  cases h2
 ·exact Qab ho ((Touch.refl (fun k=>row=some k) W).grown hg (fun k hk=>Or.inl hk)) (fun k hk e=>by
   obtain⟨-,o,h1,h2⟩:=hr k e
   exact Qex ho h1 h2 hk)
theorem Qlw {β:Type} (g T:Nat) (xs:List Value) (n:Nat):OwnFrom n (fun (_:β) W=>Row W g T xs):=by
 intro s X Y row hs hg hr
 refine (hg.block g hs.lt (fun e=>?_)).trans hs
 obtain⟨-,o,h1,h2⟩:=hr g e.symm
 rw [show X.heap[g]?=_ from hs] at h1
 cases h1
 cases h2
theorem Qnl {x:SE} {b z:WP} (h:ledW x b=some z):z.hs=b.hs:=by
 unfold ledW at h
 split at h
 ·cases h
 ·split at h
  ·split at h
   ·cases h
   ·cases h;rfl
  ·cases h;rfl
theorem Qdv {T:List WY} {me:Int} {S:List SE} {y:WY} (h:y∈leadsY T me S):∃b∈T,∃x∈S,y.hv=b.hv∧y.x.hs=b.x.hs∧T.find? (isBd x.h.adv)=some b∧cntS me x=true∧ledW x b.x=some y.x:=by
 obtain⟨x,hx,he⟩:=List.mem_filterMap.1 h
 unfold leadY at he
 cases hf:T.find? (isBd x.h.adv) with
 | none=>rw [hf] at he;cases he
 | some b =>
  rw [hf] at he
  simp only at he
  split at he
  ·rename_i hc
   obtain⟨z,hz,rfl⟩:=Option.map_eq_some_iff.1 he
   exact⟨b,List.mem_of_find?_eq_some hf,x,hx,rfl,Qnl hz,hf,hc,hz⟩
  ·cases he
theorem Qnb {w:World} {v:Value} {N:List WY} (h:WV w v N):∃a c,v=.slice a N.length c∧RwAt WY.cs 10 w a N:=by
 cases N with
 | nil =>
  obtain⟨a,c,e,-⟩:=ValsAt.form h
  exact⟨a,c,e,Or.inl rfl⟩
 | cons y N =>
  obtain⟨g,off,c,e,-,-,hc⟩:=ValsAt.cells h (by simp) (by omega)
  refine⟨_,c,e,Or.inr ⟨g,off,rfl,fun i x hx d u hd=>?_⟩⟩
  have hd10:d<10:=(List.getElem?_eq_some_iff.1 hd).1
  have:=hc (i*10+d) u (by rw [Qan WY.len _ _ _ hd10,hx];exact hd)
  rw [Nat.add_assoc]
  exact this
theorem Qfj {w:World} {a:Option Addr} {n c:Nat} {N:List WY} (h:WV w (.slice a n c) N) (hn:N.length=n):RwAt WY.cs 10 w a N:=by
 obtain⟨a',c',e,hr⟩:=Qnb h
 injection e with e1 e2 e3
 rw [e1]
 exact hr
theorem Qiw {ops:Array Oper} {o:Oper} {a:Act} {w:World} {K:Act→World→Prop} {Q:Exit→Act→World→Prop} {E:Prop}
  (hg:o.guard=none) (s x:Operand) (hop:o.op=Op.call { callee:=Callee.builtin Builtin.append,args:=#[s,x],argTypes:=#[45,45] })
  (base:Nat) (v xv:Value) (l m:List HK) (hs:a.eval s=v) (hown:HOw base w v l) (hx:a.eval x=xv) (hm:HV3 w xv m) (b1:l.length+m.length≤1000000) (hb:base≤w.heap.size)
  (hK:∀v' w',HOw base w' v' (l++m)→Touch (fun j=>v.ownBlock=some j) w w'→(v'.ownBlock=v.ownBlock∨∀k,v'.ownBlock=some k→w.heap.size≤k)→K (a.put o.dst v') w') :
  if Region.wanted o (yielded ops a.tmps)=true then Oper.wp Tryz.prog o a w K Q else E:=by
 have hw:Region.wanted o (yielded ops a.tmps)=true:=by simp [Region.wanted,hg]
 obtain⟨i0,hi,hz0,hz1,hz2⟩:=info_parts infoHop
 rw [if_pos hw]
 rcases hm.2 with⟨e,h0⟩|⟨ad,c,e,-,-,hc⟩
 ·have em:m=[]:=List.length_eq_zero_iff.1 h0
  subst em
  have hrun:=run_append_owned_none (P:=Tryz.prog) (w:=w) base 45 o.type 53 i0 3 Tryz.underlying45 hi v l.length (cellsG HK.cs l) hown
  unfold Oper.wp
  simp [execOp,hop,resolve,invoke,builtin,hs,hx,e,hrun,Result.andThen]
  exact hK v w (by rw [List.append_nil];exact hown) (Touch.refl _ _) (Or.inl rfl)
 ·obtain⟨v',w',hrun,r1,r2,-,r4⟩:=run_append_own_at (P:=Tryz.prog) (w:=w) base 45 o.type 53 i0 (.agg #[.int .u32 0,.int .u32 0,.bool false]) 3 12 Tryz.underlying45 hi hz0 hz1 hz2 rfl (by decide) v l.length (cellsG HK.cs l) hown ad m.length c (cellsG HK.cs m) (Qat HK.len m) hc (fun u hu=>by
   obtain⟨h,-,hh⟩:=List.mem_flatMap.1 hu
   simp [HK.cs] at hh
   rcases hh with rfl|rfl|rfl <;> rfl) (by unfold maxLen;omega) (by omega) hb
  unfold Oper.wp
  simp [execOp,hop,resolve,invoke,builtin,hs,hx,e,hrun,Result.andThen]
  refine hK v' w' (by show World.ownsRow _ _ _ _ _ _ _;rw [List.length_append,Qap];exact r1) ((Touch.refl _ _).grown r2 (fun k hk=>Or.inl hk)) ?_
  rcases r4 with r4|r4
  ·exact Or.inl r4
  ·exact Or.inr (fun k hk=>by rw [r4] at hk;cases hk;exact Nat.le_refl _)
def NoPan (Q:Exit→Act→World→Prop):Exit→Act→World→Prop
 | .panic _,_,_=>False
 | e,a,w=>Q e a w
theorem noPan (Q:Exit→Act→World→Prop):∀e a w,NoPan Q e a w→Q e a w:=by
 intro e a w h
 cases e <;> first|exact h|exact h.elim
theorem Qdj {w:World} {base e k n n' cap g:Nat} {xs:List Value} (h:w.ownsRow base e k (.slice (some ⟨g,0,none⟩) n' cap) n xs) (j:Nat):w.frozen? ⟨g,j,none⟩=false:=by
 rcases h.2 with⟨e,-⟩|⟨g',cap',cur,e,-,hh,-⟩
 ·cases e
 ·injection e with e1
  injection e1 with e1
  injection e1 with e1
  subst e1
  exact frozen_of_row w g j cur _ hh
theorem Qmu {X:List WP} {N:List WY} {i:Nat} {z q:WY} (hN:N.map (·.x)=(X.take i).map srtW++X.drop i) (hz:N[i]?=some z) (hq:q.x=srtW z.x):(N.set i q).map (·.x)=(X.take (i+1)).map srtW++X.drop (i+1):=by
 have hi:i<N.length:=(List.getElem?_eq_some_iff.1 hz).1
 have hl:N.length=X.length:=by
  have e:=congrArg List.length hN
  simp only [List.length_map,List.length_append,List.length_take,List.length_drop] at e
  omega
 have hA:((X.take i).map srtW).length=i:=by rw [List.length_map,List.length_take];omega
 have hx:X[i]?=some z.x:=by
  have e:(N.map (·.x))[i]?=some z.x:=by rw [List.getElem?_map,hz];rfl
  rw [hN,List.getElem?_append_right (by omega),hA,Nat.sub_self,List.getElem?_drop,Nat.add_zero] at e
  exact e
 have hd:X.drop i=z.x::X.drop (i+1):=by
  rw [List.drop_eq_getElem_cons (by omega)]
  congr 1
  have:=List.getElem?_eq_getElem (l:=X) (i:=i) (by omega)
  rw [hx] at this
  exact (Option.some.inj this).symm
 rw [List.map_set,hN,hd,List.set_append_right _ _ (by omega),hA,Nat.sub_self,Qo5,hq,List.take_add_one,hx,List.map_append,List.append_assoc]
 rfl
theorem Qg3 (va:Option Addr) (vc:Nat) (S:List SE) (vb:Value) (T:List WY) (self:Int) (w:World) (A:StatesAt w (.slice va S.length vc) S) (Cc:WRd w vb T) (hf:∀y∈T,0≤y.x.flags∧y.x.flags≤255) (hco:∀y∈T,0≤y.x.cost∧y.x.cost≤4294967295) (hl:S.length≤60) (ht:T.length≤60) (hS:∀x∈S,x.rs.length≤1000000) :
  Calls Tryz.prog 28 #[.slice va S.length vc,.int .u32 self,vb] w (BestP w T self S):=by
 obtain⟨ba,bc,rfl,-⟩:=Cc.sh
 have HA:Hid (∀w',Touch (fun _=>False) w w'→StatesAt w' (.slice va S.length vc) S):=fun w' t=>A.keep t
 have HC:Hid (∀w',Touch (fun _=>False) w w'→WRd w' (.slice ba T.length bc) T):=fun w' t=>Cc.keep t
 have HT:Hid (∀y∈T,(∃a n c,y.hv=.slice a n c)∧0≤y.x.cost∧y.x.cost≤4294967295):=fun y hy=>⟨by obtain⟨a,c,e⟩:=ValsAt.form (Cc.hs y hy);exact⟨_,_,_,e.1⟩,hco y hy⟩
 have HSB:Hid (∀x∈S,x.rs.length≤1000000):=hS
 have HLB:Hid (S.length≤60∧T.length≤60):=⟨hl,ht⟩
 obtain⟨w0,hw0⟩:∃u,u=w.alloc (.cells #[.slice none 0 0] 31):=⟨_,rfl⟩
 have t0:Touch (fun _=>False) w w0:=by rw [hw0];exact (Touch.refl _ _).alloc _
 have RB0:Row w0 w.heap.size 31 [.slice none 0 0]:=by rw [hw0];exact Qac w _ _
 have HLD:=Qft va S.length vc (.slice ba T.length bc) T w0 self (HC.out w0 t0) hf ht
 have HT0:Hid (Touch (fun _=>False) w w0):=t0
 have HRB0:Hid (Row w0 w.heap.size 31 [.slice none 0 0]):=RB0
 clear A Cc hf hco hl ht hS t0 RB0
 generalize hSl:S.length=sl at *
 generalize hTl:T.length=tl at *
 have HSL:Hid (S.length=sl):=hSl
 have HTL:Hid (T.length=tl):=hTl
 clear hSl hTl
 refine (callsIn_wide (n:=6)).1 ?_
 refine callsIn_of_wp_marks Tryz.func28 rfl trivial ?_ rfl
 simp only [Tryz.ntmps28,List.size_toArray,List.length_cons,List.length_nil,Nat.reduceAdd,Nat.reduceSub,Array.replicate_succ,Array.replicate_zero,List.push_toArray,List.append_toArray,List.nil_append,List.cons_append]
 gi_wp2_with fail
 rw [←hw0]
 clear hw0
 obtain⟨B,hB⟩:∃B,B=w.heap.size:=⟨_,rfl⟩
 rw [←hB] at HRB0 ⊢
 have HB:Hid (B=w.heap.size):=hB
 clear hB
 refine⟨trivial,?_⟩
 refine (callsIn_wide.2 HLD).mono ?_
 rintro e w1 hP
 obtain⟨b3,b7,b4,m,rfl,c3,c7,c4,hb1,l3,l7,l4⟩:=hP.out
 have HB1:Hid (B1 w0 T m tl w1):=by have h:=hb1;rw [HTL.out] at h;exact h
 have HCE:Hid (w1.cell? ⟨b3,0,none⟩=some (.slice va sl vc)∧w1.cell? ⟨b7,0,none⟩=some (.map (some m))∧w1.cell? ⟨b4,0,none⟩=some (.int .u32 self)∧w0.heap.size≤b3∧w0.heap.size≤b7∧w0.heap.size≤b4):=⟨c3,c7,c4,l3,l7,l4⟩
 clear hb1 c3 c7 c4 l3 l7 l4 hP HLD
 gi_wp2_with fail
 have HW1:Hid (B<w0.heap.size∧w0.heap.size≤w1.heap.size∧w.heap.size≤w0.heap.size∧B=w.heap.size):=⟨HRB0.out.lt,HB1.out.t.size,HT0.out.size,HB.out⟩
 have HT1:Hid (Touch (fun _=>False) w w1):=HT0.out.trans HB1.out.t
 have HKB:Hid (∀w',Touch (fun k=>k=B∨w1.heap.size≤k) w1 w'→Touch (fun _=>False) w w'):=fun w' tt=>HT1.out.trans' tt (fun i hi e=>by have:=HW1.out;rcases e with e|e <;> omega)
 have HLOW:Hid (∀(b:Nat) (v:Value) (w':World),Touch (fun k=>k=B∨w1.heap.size≤k) w1 w'→w0.heap.size≤b→w1.cell? ⟨b,0,none⟩=some v→w'.cell? ⟨b,0,none⟩=some v):=fun b v w' tt hb hc =>
  (tt.cell (p:=⟨b,0,none⟩) (Qaa hc) (fun h=>by have:=Qaa hc;have:=HW1.out;rcases h with h|h <;> (dsimp only at h;omega))).trans hc
 have HAM:Hid (∀w',Touch (fun k=>k=B∨w1.heap.size≤k) w1 w'→AM w' 23 m ((bK T T.length).map bV)):=fun w' tt=>by
  have h:=HB1.out.am
  rw [←HTL.out] at h
  refine h.keep tt (fun e=>?_)
  have:=h.lt
  have:=HB1.out.lo
  have:=HW1.out
  rcases e with e|e <;> omega
 have H0:Hid (BsI w w1 B [] w1):=⟨HT1.out,Nat.le_refl _,_,HRB0.out.keep HB1.out.t,World.ownsRow_nil _ _ _ _⟩
 have HSEQ:=Qhc 5 (by omega) b3 b7 b4 m (fun k=>k=B∨w1.heap.size≤k) va vc S T self w1 (by rw [HSL.out];exact HLB.out.1) (fun w' tt=>by rw [HSL.out];exact HA.out w' (HKB.out w' tt)) (fun w' tt=>by rw [HSL.out];exact HLOW.out _ _ w' tt HCE.out.2.2.2.1 HCE.out.1) (fun w' tt=>HLOW.out _ _ w' tt HCE.out.2.2.2.2.1 HCE.out.2.1) (fun w' tt=>HLOW.out _ _ w' tt HCE.out.2.2.2.2.2 HCE.out.2.2.1) HAM.out HT.out HSB.out
 rw [HSL.out] at HSEQ
 obtain⟨i0,hi,hz0,hz1,hz2⟩:=info_parts infoWay
 refine wpIn_rangeFunc_ownH rfl (by omega) (gf:=68) (lb:=#[.pointer (some ⟨b3,0,none⟩),.pointer (some ⟨b7,0,none⟩),.pointer (some ⟨b4,0,none⟩)]) rfl trivial (enters_of Tryz.func68 (by kernel_rfl) rfl)
  HSEQ (fun h k=>h.trans k) (Qkj (fun k hk=>Or.inr hk)) (Below.refl _ _) (fun _=>rfl)
  (BsI w w1 B) (fun _ _ _=>False) (BsI.own w w1 B (Nat.le_trans HW1.out.2.2.1 HW1.out.2.1)) (fun _ _ _ _ _ hs _ _=>hs) H0.out
  (fun x a' W=>∃Bx,Row W Bx 47 [.int .u32 x.x.p.addr,.int .u8 x.x.p.bits,.int .u32 x.x.router,.int .u8 x.x.flags,.int .u8 x.x.kind,.int .u32 x.x.area,.int .u32 x.x.cost,.int .u32 x.x.dist,.int .u32 x.x.tag,.slice x.a x.n x.c]∧a'={ tmps:=#[.slice va sl vc,.int .u32 self,.slice ba tl bc,undef,undef,undef,.slice none 0 0,.pointer (some ⟨B,0,none⟩),.pointer (some ⟨Bx,0,none⟩),undef,undef,undef,undef,undef,undef,.slice va sl vc,.int .u32 self,.slice ba tl bc,.func (.func 68) #[] #[.pointer (some ⟨b3,0,none⟩),.pointer (some ⟨b7,0,none⟩),.pointer (some ⟨b4,0,none⟩)],.agg #[.int .u32 x.x.p.addr,.int .u8 x.x.p.bits,.int .u32 x.x.router,.int .u8 x.x.flags,.int .u8 x.x.kind,.int .u32 x.x.area,.int .u32 x.x.cost,.int .u32 x.x.dist,.int .u32 x.x.tag,.slice x.a x.n x.c],undef,undef,undef,undef,undef,undef,undef,undef,undef,undef,undef,undef,undef,undef,undef,undef,undef,undef,undef,undef,undef,undef,undef,undef,undef,undef,undef,undef,undef,undef,undef,undef,undef,undef,undef,undef,undef,undef,undef,undef,undef,undef,undef,undef,undef,undef,undef,undef,undef,undef,undef,undef,undef,undef,undef,undef,undef,undef,undef,undef,undef,undef,undef,undef,undef,undef,undef,undef,undef,undef,undef,undef,undef],defers:=[] })
  (fun x a' s X Y row hs hg hr=>by obtain⟨Bx,h2,h3⟩:=hs;exact⟨Bx,Qlw (β:=Unit) _ _ _ _ () X Y row h2 hg hr,h3⟩)
  ?assign ?body ?done ?stop
 case assign =>
  rintro l pre x W K hI hK
  unfold encZ WZ.y WY.sv
  gi_wp2
  have ta:Touch (fun _=>False) W (W.alloc (.cells #[.int .u32 x.x.p.addr,.int .u8 x.x.p.bits,.int .u32 x.x.router,.int .u8 x.x.flags,.int .u8 x.x.kind,.int .u32 x.x.area,.int .u32 x.x.cost,.int .u32 x.x.dist,.int .u32 x.x.tag,.slice x.a x.n x.c] 47)):=(Touch.refl _ _).alloc _
  obtain⟨t,ge,v,h1,h2⟩:=hI
  exact hK _ _ ((KeepsOthers.alloc _ _).from _) (ta.mono (fun _ _ h=>h.elim)) ⟨t.trans ta,Nat.le_trans ge ta.size,v,h1.keep ta,Qab h2 ta (fun _ _ h=>h)⟩ ⟨W.heap.size,Qac W _ _,rfl⟩
 case body =>
  rintro l pre x a' W hll ⟨r,hr⟩ hI ⟨Bx,hX,rfl⟩ hlt
  obtain⟨t,ge,v,h1,h2⟩:=hI
  obtain⟨ka,kc,rfl⟩:=Qal h2
  have hb0:W.cell? ⟨B,0,none⟩=some (.slice ka pre.length kc):=h1.cell 0
  have x0:W.cell? ⟨Bx,0,none⟩=some (.int .u32 x.x.p.addr):=hX.cell 0
  have x1:W.cell? ⟨Bx,1,none⟩=some (.int .u8 x.x.p.bits):=hX.cell 1
  have x2:W.cell? ⟨Bx,2,none⟩=some (.int .u32 x.x.router):=hX.cell 2
  have x3:W.cell? ⟨Bx,3,none⟩=some (.int .u8 x.x.flags):=hX.cell 3
  have x4:W.cell? ⟨Bx,4,none⟩=some (.int .u8 x.x.kind):=hX.cell 4
  have x5:W.cell? ⟨Bx,5,none⟩=some (.int .u32 x.x.area):=hX.cell 5
  have x6:W.cell? ⟨Bx,6,none⟩=some (.int .u32 x.x.cost):=hX.cell 6
  have x7:W.cell? ⟨Bx,7,none⟩=some (.int .u32 x.x.dist):=hX.cell 7
  have x8:W.cell? ⟨Bx,8,none⟩=some (.int .u32 x.x.tag):=hX.cell 8
  have x9:W.cell? ⟨Bx,9,none⟩=some (.slice x.a x.n x.c):=hX.cell 9
  have lx:=hX.lt
  have lb:=h1.lt
  have HP:Hid (Touch (fun _=>False) w W):=t
  have HGE:Hid (w1.heap.size≤W.heap.size):=ge
  have HH1:Hid (Row W B 31 [.slice ka pre.length kc]):=h1
  have HLT:Hid (pre.length<sl∧sl≤60):=⟨hlt,HLB.out.1⟩
  obtain⟨W1,hW1⟩:∃u,u=W.alloc (.cells #[.int .u32 x.x.p.addr,.int .u8 x.x.p.bits,.int .u32 x.x.router,.int .u8 x.x.flags,.int .u8 x.x.kind,.int .u32 x.x.area,.int .u32 x.x.cost,.int .u32 x.x.dist,.int .u32 x.x.tag,.slice x.a x.n x.c] 47):=⟨_,rfl⟩
  have T1:Touch (fun _=>False) W W1:=by rw [hW1];exact (Touch.refl _ _).alloc _
  have RA:Row W1 W.heap.size 47 [.int .u32 x.x.p.addr,.int .u8 x.x.p.bits,.int .u32 x.x.router,.int .u8 x.x.flags,.int .u8 x.x.kind,.int .u32 x.x.area,.int .u32 x.x.cost,.int .u32 x.x.dist,.int .u32 x.x.tag,.slice x.a x.n x.c]:=by rw [hW1];exact Qac W _ _
  have HOA:Hid (W1.ownsRow w1.heap.size 47 10 (.slice ka pre.length kc) pre.length (cellsG WY.cs (ysZ pre))):=Qab h2 T1 (fun _ _ h=>h)
  have HNA:Hid (∀(j:Nat) u,([.int .u32 x.x.p.addr,.int .u8 x.x.p.bits,.int .u32 x.x.router,.int .u8 x.x.flags,.int .u8 x.x.kind,.int .u32 x.x.area,.int .u32 x.x.cost,.int .u32 x.x.dist,.int .u32 x.x.tag,.slice x.a x.n x.c]:List Value)[j]?=some u→W1.cell? ((⟨W.heap.size,0,none⟩:Addr).add j)=some u):=fun j u hj=>by rw [Qah,Nat.zero_add,RA.cell j];exact hj
  have HSZ:Hid (w1.heap.size≤W1.heap.size):=Nat.le_trans ge T1.size
  have HT1':Hid (Touch (fun _=>False) W W1):=T1
  rw [hW1] at HOA HNA HSZ
  have HNB:Hid ((Value.slice ka pre.length kc).ownBlock≠some B):=Qbo h2 h1 (by decide)
  have HOC:Hid (∀(k:Nat) (o:Obj),(k=B∨(Value.slice ka pre.length kc).ownBlock=some k)→W.heap[k]?=some o→o.isCells=true):=fun k o hk ho=>by
   rcases hk with rfl|hk
   ·rw [show W.heap[k]?=_ from h1] at ho;cases ho;rfl
   ·exact Qiv h2 hk ho
  have HOB:Hid (∀k,(Value.slice ka pre.length kc).ownBlock=some k→w1.heap.size≤k):=fun k hk=>(h2.lt k hk).1
  clear h1 h2 hX t T1 RA hr ge
  gi_wp2_with (gi_at_builtin;refine wpListIn_append_own _ rfl _ _ 31 rfl w1.heap.size 47 i0 (.agg #[.int .u32 0,.int .u8 0,.int .u32 0,.int .u8 0,.int .u8 0,.int .u32 0,.int .u32 0,.int .u32 0,.int .u32 0,.slice none 0 0]) 10 56 Tryz.underlying31 hi hz0 hz1 hz2 rfl (by decide) _ _ _ rfl HOA.out ⟨W.heap.size,0,none⟩ 1 1 [.int .u32 x.x.p.addr,.int .u8 x.x.p.bits,.int .u32 x.x.router,.int .u8 x.x.flags,.int .u8 x.x.kind,.int .u32 x.x.area,.int .u32 x.x.cost,.int .u32 x.x.dist,.int .u32 x.x.tag,.slice x.a x.n x.c] rfl rfl HNA.out (Qbw _ _ _ _ _ _ _ _ _ _ _ _) (by have:=HLT.out;unfold maxLen;omega) (by have:=HLT.out;omega) HSZ.out ?_;intro v' w' hown hg hnil;rw [←hW1] at hg;have TG:Touch (fun k=>(Value.slice ka pre.length kc).ownBlock=some k) W1 w':=(Touch.refl _ _).grown hg (fun k hk=>Or.inl hk);have hnb:=HNB.out;have RB:Row w' B 31 [.slice ka pre.length kc]:=Qay (HH1.out.keep HT1'.out) TG hnb;have cB:w'.cell? ⟨B,0,none⟩=some (.slice ka pre.length kc):=RB.cell 0;have fB:=RB.frozen 0;have lB:=RB.lt;obtain⟨f1,f2,rfl⟩:=Qal hown;have HRB:Hid (Row w' B 31 [.slice ka pre.length kc]):=RB;have HOW:Hid (w'.ownsRow w1.heap.size 47 10 (.slice f1 (pre.length+1) f2) (pre.length+1) (cellsG WY.cs (ysZ pre)++[.int .u32 x.x.p.addr,.int .u8 x.x.p.bits,.int .u32 x.x.router,.int .u8 x.x.flags,.int .u8 x.x.kind,.int .u32 x.x.area,.int .u32 x.x.cost,.int .u32 x.x.dist,.int .u32 x.x.tag,.slice x.a x.n x.c])):=hown;have HTG:Hid (Touch (fun k=>(Value.slice ka pre.length kc).ownBlock=some k) W1 w'):=TG;clear RB hown hg hnil TG hnb)
  have TF:Touch (fun k=>k=B∨(Value.slice ka pre.length kc).ownBlock=some k) W (w'.setCell ⟨B,0,none⟩ (.slice f1 (pre.length+1) f2)) :=
   Touch.setCell (F:=fun k=>k=B∨(Value.slice ka pre.length kc).ownBlock=some k) (p:=⟨B,0,none⟩) ((HT1'.out.mono (fun _ _ h=>h.elim)).trans (HTG.out.mono (fun k _ h=>Or.inr h))) (Or.inl (Or.inl rfl)) _
  have TB:Touch (fun k=>k=B) w' (w'.setCell ⟨B,0,none⟩ (.slice f1 (pre.length+1) f2)):=Touch.setCell (F:=fun k=>k=B) (p:=⟨B,0,none⟩) (Touch.refl _ _) (Or.inl rfl) _
  refine⟨Qf8 _ TF HOC.out,TF.mono (fun k _ h=>h.imp id (HOB.out k)),?_,Nat.le_trans HGE.out TF.size,_,HRB.out.set 0 _,?_⟩
  ·refine HP.out.trans' TF (fun i hi h=>?_)
   have:=HW1.out
   rcases h with h|h
   ·omega
   ·have:=HOB.out _ h;omega
  ·have ho:=Qab HOW.out TB (fun k hk e=>by subst e;exact Qbo HOW.out HRB.out (by decide) hk)
   show (w'.setCell ⟨B,0,none⟩ (.slice f1 (pre.length+1) f2)).ownsRow _ _ _ _ (pre++[x]).length (cellsG WY.cs (ysZ (pre++[x])))
   rw [List.length_append,show ysZ (pre++[x])=ysZ pre++[x.y] from List.map_append,Qap]
   exact ho
 case done =>
  intro D xs W hD hS hI hd
  obtain⟨t,ge,v,h1,h2⟩:=hI
  obtain⟨ka,kc,rfl⟩:=Qal h2
  have hb0:W.cell? ⟨B,0,none⟩=some (.slice ka xs.length kc):=h1.cell 0
  have lb:=h1.lt
  have HXL:Hid (xs.length≤sl):=by have e:=congrArg List.length hS;rw [List.length_map] at e;have:=Qb6 T self S sl;rw [List.take_of_length_le (by rw [HSL.out];exact Nat.le_refl _)] at this;show _≤_;omega
  have hown:W.ownsRow w1.heap.size 47 10 (.slice ka xs.length kc) (ysZ xs).length (cellsG WY.cs (ysZ xs)):=by rw [List.length_map];exact h2
  have HSO:=Qjz w1.heap.size W (.slice ka xs.length kc) (ysZ xs) (fun y hy=>by obtain⟨z,-,rfl⟩:=List.mem_map.1 hy;exact⟨_,_,_,rfl⟩) hown (by rw [List.length_map];have:=HXL.out;have:=HLB.out;omega)
  have HRB:Hid (Row W B 31 [.slice ka xs.length kc]):=h1
  have HTW:Hid (Touch (fun _=>False) w W):=t
  have HGE:Hid (w1.heap.size≤W.heap.size):=ge
  have HOW:Hid (W.ownsRow w1.heap.size 47 10 (.slice ka xs.length kc) xs.length (cellsG WY.cs (ysZ xs))):=h2
  have HSX:Hid (ysZ xs=leadsY T self S):=hS
  have HDF:Hid (W.heap[D]?=some (.deferred (some []))):=hd
  clear h1 h2 t ge hS hd hown HCE HRB0 HSEQ HKB HLOW HAM H0 HB1 HT0
  gi_wp2_with fail
  refine⟨trivial,?_⟩
  refine (callsIn_wide.2 HSO).mono ?_
  rintro e w2 ⟨rfl,L,hLp,hLs,hLv,t2⟩
  have hxl:xs.length=L.length:=by rw [hLp.length_eq,List.length_map]
  rw [hxl] at hLv
  have HWV:Hid (∀w',Touch (fun _=>False) w2 w'→RwAt WY.cs 10 w' ka L):=fun w' t=>Qch (Qfj hLv rfl) t
  have hnB:∀k,(Value.slice ka xs.length kc).ownBlock=some k→¬k=B:=fun k hk e=>by subst e;exact Qbo HOW.out HRB.out (by decide) hk
  have hnD:∀k,(Value.slice ka xs.length kc).ownBlock=some k→¬k=D:=fun k hk e=>by subst e;exact Qex HOW.out HDF.out rfl hk
  have HRB2:Hid (Row w2 B 31 [.slice ka L.length kc]):=by rw [←hxl];exact Qay HRB.out t2 (fun h=>hnB B h rfl)
  have HD2:Hid (w2.heap[D]?=some (.deferred (some []))):=(t2.block D (Qa7 HDF.out) (fun h=>hnD D h rfl)).trans HDF.out
  have HTW2:Hid (Touch (fun _=>False) w w2):=HTW.out.trans' t2 (fun i hi e=>by have:=(HOW.out.lt i e).1;have:=HW1.out;omega)
  have HLP:Hid (L.Perm (leadsY T self S)):=by show List.Perm _ _;rw [←HSX.out];exact hLp
  have HLS:Hid (L.Pairwise (fun a b=>a.x.wle b.x)):=hLs
  have HMB:Hid (∀y∈L,∃b∈T,y.hv=b.hv∧y.x.hs=b.x.hs):=fun y hy=>by obtain⟨b,hb,x,-,h1,h2,-⟩:=Qdv (HLP.out.mem_iff.1 hy);exact⟨b,hb,h1,h2⟩
  have HLH:Hid (∀w',Touch (fun _=>False) w2 w'→∀y∈L,HV3 w' y.hv y.x.hs):=fun w' t y hy=>by obtain⟨b,hb,h1,h2⟩:=HMB.out y hy;rw [h1,h2];exact (HC.out w' (HTW2.out.trans t)).hs b hb
  have HLL:Hid (∀y∈L,y.x.hs.length≤400):=fun y hy=>by obtain⟨b,hb,-,h2⟩:=HMB.out y hy;rw [h2];exact (HC.out w (Touch.refl _ _)).ln b hb
  have HNB:Hid (L.length≤60):=by rw [hxl] at HXL;exact Nat.le_trans HXL.out HLB.out.1
  clear hLp hLs hLv t2 hnB hnD HRB HDF HTW HGE HOW HSX HXL HSO
  rw [hxl]
  clear hxl
  have LCOPY:Hid (L.length=L.length):=rfl
  generalize hNl:L.length=n at *
  have HNL:Hid (L.length=n):=hNl
  clear hNl LCOPY
  have hn60:(n:Int)≤60:=by have:=HNB.out;omega
  gi_upto_region 6 with fail
  refine wpIn_wide.2 ?_
  have cB:=HRB2.out.cell 0
  have lB:=HRB2.out.lt
  simp only [List.getElem?_cons_zero] at cB
  go_wp2_with fail
  refine wpIn_wide.2 (Code.wp_mono (noPan _) ?_)
  go_wp2_with fail
  clear cB lB HRB2 hi hz0 hz1 hz2 hb0 lb
  have HK0:Hid (KpR w2 w2 (.slice none 0 0) []):=KpR.nil (Touch.refl _ _)
  go_loopg [9,28] n (fun gg s9 s28 wr=>∃(k:Nat) (K:List WY) (a9:Option Addr) (c9:Nat),k≤n∧n-k≤gg∧s28=.int .i64 k∧s9=.slice a9 K.length c9∧KpR w2 wr (.slice a9 K.length c9) K∧K.map (·.x)=kpP ((L.take k).map (·.x))∧K.length≤k)
  case atStart=>exact⟨0,[],none,0,Nat.zero_le _,Nat.le_refl _,rfl,rfl,HK0.out,rfl,Nat.le_refl _⟩
  case round =>
   clear HK0
   obtain⟨k,K,a9,c9,hk,hgk,rfl,rfl,hr,hKx,hKl⟩:=hrel
   have HR:Hid (KpR w2 wr (.slice a9 K.length c9) K):=hr
   have HKX:Hid (K.map (·.x)=kpP ((L.take k).map (·.x))):=hKx
   have HKL:Hid (K.length≤k):=hKl
   clear hr hKx hKl
   by_cases hlt:k<n
   ·have hlt':(k:Int)<(n:Int):=Qbl hlt
    have hk00:(0:Int)≤(k:Int):=Qa6 _
    have hkw:wrap64 ((k:Int)+1)=(k:Int)+1:=Qes (Nat.le_trans (Nat.le_trans (Nat.le_of_lt hlt) HNB.out) (by decide))
    have HGK:Hid (k<n∧n-k≤gk):=⟨hlt,hgk⟩
    obtain⟨y,hy⟩:=Qco HNL.out hlt
    have HYL:Hid (y.x.hs.length≤400):=HLL.out y (List.mem_of_getElem? hy)
    have hyv:=HLH.out wr HR.out.b.t y (List.mem_of_getElem? hy)
    obtain⟨ya,yc,eyv⟩:=ValsAt.form hyv
    have EYV:Hid (y.hv=.slice ya y.x.hs.length yc):=eyv.1
    have HYV:Hid (∀w',Touch (fun _=>False) wr w'→HV3 w' (.slice ya y.x.hs.length yc) y.x.hs):=fun w' t=>by rw [←EYV.out];exact ValsAt.keep hyv t
    have HSTEP:Hid (∀K':List WP,K'=kp1 (K.map (·.x)) y.x→K'=kpP ((L.take (k+1)).map (·.x))):=fun K' e=>by
     rw [e,HKX.out,List.take_add_one,hy]
     show _=kpP (List.map _ (L.take k++[y]))
     rw [List.map_append,List.map_singleton,Qc5]
    obtain⟨g,oo,rfl,⟨e0,e1,e2,e3,e4,e5,e6,e7,e8,e9⟩⟩:=Qbq (HWV.out wr HR.out.b.t) hy
    rw [eyv.1] at e9
    have lg:=Qaa e0
    obtain⟨wa,hwa⟩:∃u,u=wr.alloc (.cells #[.int .u32 y.x.p.addr,.int .u8 y.x.p.bits,.int .u32 y.x.router,.int .u8 y.x.flags,.int .u8 y.x.kind,.int .u32 y.x.area,.int .u32 y.x.cost,.int .u32 y.x.dist,.int .u32 y.x.tag,.slice ya y.x.hs.length yc] 47):=⟨_,rfl⟩
    have ta:Touch (fun _=>False) wr wa:=by rw [hwa];exact (Touch.refl _ _).alloc _
    have HRX:Hid (Row wa wr.heap.size 47 [.int .u32 y.x.p.addr,.int .u8 y.x.p.bits,.int .u32 y.x.router,.int .u8 y.x.flags,.int .u8 y.x.kind,.int .u32 y.x.area,.int .u32 y.x.cost,.int .u32 y.x.dist,.int .u32 y.x.tag,.slice ya y.x.hs.length yc]):=by rw [hwa];exact Qac _ _ _
    have HTA:Hid (Touch (fun _=>False) wr wa):=ta
    have HRA:Hid (KpR w2 wa (.slice a9 K.length c9) K):=HR.out.keep ta
    clear ta hy hyv eyv
    generalize hyl:y.x.hs.length=yl at *
    have HYN:Hid (y.x.hs.length=yl):=hyl
    clear hyl
    obtain⟨bx,hbx⟩:∃b,b=wr.heap.size:=⟨_,rfl⟩
    have HBX:Hid (bx=wr.heap.size):=hbx
    rw [←hbx] at HRX
    go_upto_region 10 with fail
    rw [←hwa,←hbx]
    clear hwa hbx e0 e1 e2 e3 e4 e5 e6 e7 e8 e9 lg
    rcases List.eq_nil_or_concat K with rfl|⟨K0,z,rfl⟩
    ·skip
     have HLN:Hid (0+1≤1099511627776):=(by decide:0+1≤1099511627776)
     have hm1:wrap64 (-1) = -1:=by unfold wrap64;omega
     have HKL:Hid (0≤k):=Nat.zero_le _
     go_upto_region 11 with fail
     have s0:Touch (fun _=>False) wa wa.drew:=(Touch.refl _ _).drew
     refine wp_region_held_drew (S:=fun w'=>Touch (fun _=>False) wa w') (by kernel_rfl) s0 (fun hHeld=>?_)
     refine wpAnyH_take (i:=0) (oi:=⟨some 36,_,_,_,_,_⟩) (v:=.int .i64 (-1)) rfl (by kernel_rfl) (by kernel_rfl) (by kernel_rfl) (fun _ _ _ h=>h) (Or.inl ⟨by rfl,fun w hw=>by go_simp⟩) (by assumption) ?_
     simp only [Act.put,Qo4,Qo5,Qo6]
     refine wpAnyH_take (i:=1) (oi:=⟨some 37,_,_,_,_,_⟩) (v:=.bool true) rfl (by kernel_rfl) (by kernel_rfl) (by kernel_rfl) (fun _ _ _ h=>h) (Or.inl ⟨by rfl,fun w hw=>by go_simp⟩) (by assumption) ?_
     simp only [Act.put,Qo4,Qo5,Qo6]
     refine wpAnyH_take (i:=2) (oi:=⟨some 38,_,_,_,_,_⟩) (v:=.bool true) rfl (by kernel_rfl) (by kernel_rfl) (by kernel_rfl) (fun _ _ _ h=>h) (Or.inl ⟨by rfl,fun w hw=>by go_simp⟩) (by assumption) ?_
     simp only [Act.put,Qo4,Qo5,Qo6]
     refine wpAnyH_take (i:=3) (oi:=⟨some 39,_,_,_,_,_⟩) (v:=undef) rfl (by kernel_rfl) (by kernel_rfl) (by kernel_rfl) (fun _ _ _ h=>h) (Or.inr ⟨by rfl,rfl⟩) (by assumption) ?_
     simp only [Act.put,Qo4,Qo5,Qo6]
     refine wpAnyH_take (i:=4) (oi:=⟨some 40,_,_,_,_,_⟩) (v:=undef) rfl (by kernel_rfl) (by kernel_rfl) (by kernel_rfl) (fun _ _ _ h=>h) (Or.inr ⟨by rfl,rfl⟩) (by assumption) ?_
     simp only [Act.put,Qo4,Qo5,Qo6]
     refine wpAnyH_take (i:=5) (oi:=⟨some 41,_,_,_,_,_⟩) (v:=undef) rfl (by kernel_rfl) (by kernel_rfl) (by kernel_rfl) (fun _ _ _ h=>h) (Or.inr ⟨by rfl,rfl⟩) (by assumption) ?_
     simp only [Act.put,Qo4,Qo5,Qo6]
     refine wpAnyH_take (i:=6) (oi:=⟨some 42,_,_,_,_,_⟩) (v:=undef) rfl (by kernel_rfl) (by kernel_rfl) (by kernel_rfl) (fun _ _ _ h=>h) (Or.inr ⟨by rfl,rfl⟩) (by assumption) ?_
     simp only [Act.put,Qo4,Qo5,Qo6]
     refine wpAnyH_take (i:=7) (oi:=⟨some 43,_,_,_,_,_⟩) (v:=undef) rfl (by kernel_rfl) (by kernel_rfl) (by kernel_rfl) (fun _ _ _ h=>h) (Or.inr ⟨by rfl,rfl⟩) (by assumption) ?_
     simp only [Act.put,Qo4,Qo5,Qo6]
     refine wpAnyH_take (i:=8) (oi:=⟨some 44,_,_,_,_,_⟩) (v:=undef) rfl (by kernel_rfl) (by kernel_rfl) (by kernel_rfl) (fun _ _ _ h=>h) (Or.inr ⟨by rfl,rfl⟩) (by assumption) ?_
     simp only [Act.put,Qo4,Qo5,Qo6]
     refine wpAnyH_take (i:=9) (oi:=⟨some 45,_,_,_,_,_⟩) (v:=undef) rfl (by kernel_rfl) (by kernel_rfl) (by kernel_rfl) (fun _ _ _ h=>h) (Or.inr ⟨by rfl,rfl⟩) (by assumption) ?_
     simp only [Act.put,Qo4,Qo5,Qo6]
     refine wpAnyH_take (i:=10) (oi:=⟨some 46,_,_,_,_,_⟩) (v:=.bool true) rfl (by kernel_rfl) (by kernel_rfl) (by kernel_rfl) (fun _ _ _ h=>h) (Or.inl ⟨by rfl,fun w hw=>by go_simp⟩) (by assumption) ?_
     simp only [Act.put,Qo4,Qo5,Qo6]
     refine wpAnyH_take (i:=11) (oi:=⟨some 35,_,_,_,_,_⟩) (v:=.bool true) rfl (by kernel_rfl) (by kernel_rfl) (by kernel_rfl) (fun _ _ _ h=>h) (Or.inl ⟨by rfl,fun w hw=>by go_simp⟩) (by assumption) ?_
     simp only [Act.put,Qo4,Qo5,Qo6]
     refine wpAnyH_done (by kernel_rfl) ?_ _
     have HTD:Hid (Touch (fun _=>False) wa wa.drew):=s0
     clear s0 hm1 HRA
     generalize wa.drew=wb at *
     have HTB:Hid (Touch (fun _=>False) wr wb):=HTA.out.trans HTD.out
     have HRXb:Hid (Row wb bx 47 [.int .u32 y.x.p.addr,.int .u8 y.x.p.bits,.int .u32 y.x.router,.int .u8 y.x.flags,.int .u8 y.x.kind,.int .u32 y.x.area,.int .u32 y.x.cost,.int .u32 y.x.dist,.int .u32 y.x.tag,.slice ya yl yc]):=HRX.out.keep HTD.out
     have x9:=HRXb.out.cell 9
     have lx:=HRXb.out.lt
     simp only [List.getElem?_cons_succ,List.getElem?_cons_zero] at x9
     have HCL:=Qcs (.slice ya yl yc) y.x.hs wb (by have h:=HYV.out _ HTB.out;rw [←HYN.out] at h ⊢;exact h) (by rw [HYN.out];exact Nat.le_trans HYL.out (by decide))
     clear HRX HTA
     go_upto_region 13 with (go_at_call 39;refine HCL.mono ?_;rintro e wc ⟨cv,rfl,hcv⟩;obtain⟨ca,cc,rfl⟩:=Qal hcv.own;have HCV:Hid (HpB wb wc (.slice ca y.x.hs.length cc) y.x.hs):=hcv;have HRXc:Hid (Row wc bx 47 [.int .u32 y.x.p.addr,.int .u8 y.x.p.bits,.int .u32 y.x.router,.int .u8 y.x.flags,.int .u8 y.x.kind,.int .u32 y.x.area,.int .u32 y.x.cost,.int .u32 y.x.dist,.int .u32 y.x.tag,.slice ya yl yc]):=HRXb.out.keep hcv.t;have y9:=HRXc.out.cell 9;have fy:=HRXc.out.frozen;have ly:=HRXc.out.lt;simp only [List.getElem?_cons_succ,List.getElem?_cons_zero] at y9;clear hcv x9 lx)
     clear HCL y9 fy ly
     have HRXd:Hid (Row (wc.setCell ⟨bx,9,none⟩ (.slice ca y.x.hs.length cc)) bx 47 [.int .u32 y.x.p.addr,.int .u8 y.x.p.bits,.int .u32 y.x.router,.int .u8 y.x.flags,.int .u8 y.x.kind,.int .u32 y.x.area,.int .u32 y.x.cost,.int .u32 y.x.dist,.int .u32 y.x.tag,.slice ca y.x.hs.length cc]):=HRXc.out.set 9 _
     have tcd:Touch (fun k=>k=bx) wc (wc.setCell ⟨bx,9,none⟩ (.slice ca y.x.hs.length cc)):=Touch.setCell (F:=fun k=>k=bx) (p:=⟨bx,9,none⟩) (Touch.refl _ _) (Or.inl rfl) _
     have hwrd:Touch (fun k=>k=bx) wr (wc.setCell ⟨bx,9,none⟩ (.slice ca y.x.hs.length cc)):=((HTB.out.trans HCV.out.t).mono (fun _ _ h=>h.elim)).trans tcd
     have HKd:Hid (KpR w2 (wc.setCell ⟨bx,9,none⟩ (.slice ca y.x.hs.length cc)) (.slice a9 0 c9) []):=HR.out.fresh (by rw [HBX.out];exact Nat.le_refl _) hwrd
     have HOd:Hid (HOw wr.heap.size (wc.setCell ⟨bx,9,none⟩ (.slice ca y.x.hs.length cc)) (.slice ca y.x.hs.length cc) y.x.hs):=Qab (Qak HCV.out.own HTB.out.size) tcd (fun j hj e=>by subst e;exact Qbo HCV.out.own HRXc.out (by decide) hj)
     have HSZd:Hid (wr.heap.size≤(wc.setCell ⟨bx,9,none⟩ (.slice ca y.x.hs.length cc)).heap.size):=hwrd.size
     clear tcd hwrd HCV HRXc HRXb
     generalize wc.setCell ⟨bx,9,none⟩ (.slice ca y.x.hs.length cc)=wd at *
     have d0:=HRXd.out.cell 0
     have d1:=HRXd.out.cell 1
     have d2:=HRXd.out.cell 2
     have d3:=HRXd.out.cell 3
     have d4:=HRXd.out.cell 4
     have d5:=HRXd.out.cell 5
     have d6:=HRXd.out.cell 6
     have d7:=HRXd.out.cell 7
     have d8:=HRXd.out.cell 8
     have d9:=HRXd.out.cell 9
     simp only [List.getElem?_cons_succ,List.getElem?_cons_zero] at d0 d1 d2 d3 d4 d5 d6 d7 d8 d9
     have ld:=HRXd.out.lt
     have RAw:=Qac wd 47 #[.int .u32 y.x.p.addr,.int .u8 y.x.p.bits,.int .u32 y.x.router,.int .u8 y.x.flags,.int .u8 y.x.kind,.int .u32 y.x.area,.int .u32 y.x.cost,.int .u32 y.x.dist,.int .u32 y.x.tag,.slice ca y.x.hs.length cc]
     have T8:Touch (fun _=>False) wd (wd.alloc (.cells #[.int .u32 y.x.p.addr,.int .u8 y.x.p.bits,.int .u32 y.x.router,.int .u8 y.x.flags,.int .u8 y.x.kind,.int .u32 y.x.area,.int .u32 y.x.cost,.int .u32 y.x.dist,.int .u32 y.x.tag,.slice ca y.x.hs.length cc] 47)):=(Touch.refl _ _).alloc _
     have HNA:Hid (∀(j:Nat) u,([.int .u32 y.x.p.addr,.int .u8 y.x.p.bits,.int .u32 y.x.router,.int .u8 y.x.flags,.int .u8 y.x.kind,.int .u32 y.x.area,.int .u32 y.x.cost,.int .u32 y.x.dist,.int .u32 y.x.tag,.slice ca y.x.hs.length cc]:List Value)[j]?=some u→(wd.alloc (.cells #[.int .u32 y.x.p.addr,.int .u8 y.x.p.bits,.int .u32 y.x.router,.int .u8 y.x.flags,.int .u8 y.x.kind,.int .u32 y.x.area,.int .u32 y.x.cost,.int .u32 y.x.dist,.int .u32 y.x.tag,.slice ca y.x.hs.length cc] 47)).cell? ((⟨wd.heap.size,0,none⟩:Addr).add j)=some u):=fun j u hj=>by rw [Qah,Nat.zero_add,RAw.cell j];exact hj
     have HKe:Hid (KpR w2 (wd.alloc (.cells #[.int .u32 y.x.p.addr,.int .u8 y.x.p.bits,.int .u32 y.x.router,.int .u8 y.x.flags,.int .u8 y.x.kind,.int .u32 y.x.area,.int .u32 y.x.cost,.int .u32 y.x.dist,.int .u32 y.x.tag,.slice ca y.x.hs.length cc] 47)) (.slice a9 0 c9) []):=HKd.out.keep T8
     have HOe:Hid (HOw wr.heap.size (wd.alloc (.cells #[.int .u32 y.x.p.addr,.int .u8 y.x.p.bits,.int .u32 y.x.router,.int .u8 y.x.flags,.int .u8 y.x.kind,.int .u32 y.x.area,.int .u32 y.x.cost,.int .u32 y.x.dist,.int .u32 y.x.tag,.slice ca y.x.hs.length cc] 47)) (.slice ca y.x.hs.length cc) y.x.hs):=Qab HOd.out T8 (fun _ _ h=>h)
     have HSZe:Hid (wr.heap.size≤(wd.alloc (.cells #[.int .u32 y.x.p.addr,.int .u8 y.x.p.bits,.int .u32 y.x.router,.int .u8 y.x.flags,.int .u8 y.x.kind,.int .u32 y.x.area,.int .u32 y.x.cost,.int .u32 y.x.dist,.int .u32 y.x.tag,.slice ca y.x.hs.length cc] 47)).heap.size∧w2.heap.size≤(wd.alloc (.cells #[.int .u32 y.x.p.addr,.int .u8 y.x.p.bits,.int .u32 y.x.router,.int .u8 y.x.flags,.int .u8 y.x.kind,.int .u32 y.x.area,.int .u32 y.x.cost,.int .u32 y.x.dist,.int .u32 y.x.tag,.slice ca y.x.hs.length cc] 47)).heap.size):=⟨Nat.le_trans HSZd.out T8.size,HKe.out.b.t.size⟩
     have HOW8:Hid ((wd.alloc (.cells #[.int .u32 y.x.p.addr,.int .u8 y.x.p.bits,.int .u32 y.x.router,.int .u8 y.x.flags,.int .u8 y.x.kind,.int .u32 y.x.area,.int .u32 y.x.cost,.int .u32 y.x.dist,.int .u32 y.x.tag,.slice ca y.x.hs.length cc] 47)).ownsRow w2.heap.size 47 10 (.slice a9 0 c9) 0 (cellsG WY.cs [])):=HKe.out.b.own
     clear RAw T8 HKd HOd HSZd HRXd
     go_wp2_with (at_builtin;refine Qce rfl (.tmp 51) (.tmp 53) 31 rfl 47 10 56 (.agg #[.int .u32 0,.int .u8 0,.int .u32 0,.int .u8 0,.int .u8 0,.int .u32 0,.int .u32 0,.int .u32 0,.int .u32 0,.slice none 0 0]) Tryz.underlying31 infoWay rfl (by decide) (by decide) w2.heap.size (.slice a9 0 c9) 0 _ rfl HOW8.out HSZe.out.2 ⟨wd.heap.size,0,none⟩ 1 1 [.int .u32 y.x.p.addr,.int .u8 y.x.p.bits,.int .u32 y.x.router,.int .u8 y.x.flags,.int .u8 y.x.kind,.int .u32 y.x.area,.int .u32 y.x.cost,.int .u32 y.x.dist,.int .u32 y.x.tag,.slice ca y.x.hs.length cc] rfl rfl HNA.out (Qbw _ _ _ _ _ _ _ _ _ _ _ _) HLN.out ?_)
     intro v' wf hown TG
     clear d0 d1 d2 d3 d4 d5 d6 d7 d8 d9 ld HNA HOW8
     have HNK:Hid (KpR w2 wf v' ([]++[⟨y.x,.slice ca y.x.hs.length cc⟩])):=HR.out.app HKe.out HSZe.out.1 HOe.out (by exact hown) TG
     obtain⟨f1,f2,rfl⟩:=Qal hown
     clear hown TG HKe HOe HSZe
     go_wp2_with fail
     go_roundg (n-(k+1))
     case measure=>exact Qbz HGK.out.1 HGK.out.2
     case rel=>exact⟨k+1,[]++[⟨y.x,.slice ca y.x.hs.length cc⟩],f1,f2,HGK.out.1,Nat.le_refl _,by first|exact Qam hkw|exact Qam rfl,rfl,by have h:=HNK.out;first|exact h|(rw [List.length_append,HKN.out];exact h),HSTEP.out _ rfl,by rw [List.length_append];exact Nat.add_le_add_right HKL.out 1⟩
    ·skip
     rw [List.concat_eq_append] at *
     have hlen:(K0++[z]).length=K0.length+1:=by simp
     have hkl60:K0.length+1≤60:=by have h1:=HKL.out;rw [hlen] at h1;have:=HNB.out;omega
     have HKN1:Hid (∀c:WY,endC z.x y.x≠0→c.x=y.x→(K0++[z]++[c]).map (·.x)=kp1 ((K0++[z]).map (·.x)) y.x):=fun c he hc=>by simp only [List.map_append,List.map_cons,List.map_nil];rw [Qec he,hc]
     have HKN2:Hid (∀c:WY,endC z.x y.x=0→z.x.cost=y.x.cost→c.x={ z.x with hs:=z.x.hs++y.x.hs }→(K0++[c]).map (·.x)=kp1 ((K0++[z]).map (·.x)) y.x):=fun c he h2 hc=>by simp only [List.map_append,List.map_cons,List.map_nil];rw [Qcz he h2,hc]
     have HKN3:Hid (endC z.x y.x=0→z.x.cost≠y.x.cost→(K0++[z]).map (·.x)=kp1 ((K0++[z]).map (·.x)) y.x):=fun he h2=>by simp only [List.map_append,List.map_cons,List.map_nil];rw [Qc4 he h2]
     have HZL:Hid (z.x.hs.length≤24000):=by
      have h1:z.x∈kpP ((L.take k).map (·.x)):=by rw [←HKX.out];exact List.mem_map.2 ⟨z,by simp,rfl⟩
      have h2:=Qgd _ 400 (fun x hx=>by obtain⟨q,hq,rfl⟩:=List.mem_map.1 hx;exact HLL.out q (List.mem_of_mem_take hq)) _ h1
      rw [List.length_map] at h2
      have h3:=List.length_take_le k L
      have h4:=HNB.out
      have h5:=HGK.out.1
      have h6:(L.take k).length*400≤60*400:=Nat.mul_le_mul_right _ (by omega)
      show _≤_
      omega
     obtain⟨g9,e9⟩:∃g9,a9=some ⟨g9,0,none⟩:=by
      rcases HRA.out.b.own.2 with⟨h,-⟩|⟨g,cap,cur,h,-⟩
      ·rw [hlen] at h;cases h
      ·injection h with h1;exact⟨g,h1⟩
     subst e9
     generalize hkn:(K0++[z]).length=kn at *
     have HKN:Hid ((K0++[z]).length=kn):=hkn
     have HKN0:Hid (kn=K0.length+1):=hlen
     have hw12:wrap64 ((kn:Int)-1)=(K0.length:Int):=by rw [hlen];unfold wrap64;omega
     have hi0:(0:Int)≤(K0.length:Int):=Qa6 _
     have hi1:(K0.length:Int)<(kn:Int):=by rw [hlen];omega
     have hin:¬(K0.length:Int)<0:=by omega
     have HLN:Hid (kn+1≤1099511627776):=by show _≤_;omega
     have hZV:HOw w2.heap.size wa z.hv z.x.hs:=HRA.out.h z (by simp)
     obtain⟨za,zc,ezv⟩:=Qal hZV
     have EZV:Hid (z.hv=.slice za z.x.hs.length zc):=ezv
     have HZ10:Hid (∀w',Touch (fun _=>False) wa w'→W10 w' g9 (K0.length*10) z):=fun w' t=>by
      obtain⟨g,o,e,h⟩:=Qbq (Qfj (VBuf.vals (HRA.out.keep t).b) HKN.out) (k:=K0.length) (y:=z) (by simp)
      injection e with e
      injection e with e1 e2
      subst e1
      rw [←e2,Nat.zero_add] at h
      exact h
     have HENDS:=fun w=>Qej z y w
     rw [EZV.out,EYV.out] at HENDS
     clear hlen hkl60 hkn hZV ezv
     go_upto_region 11 with fail
     have s0:Touch (fun _=>False) wa wa.drew:=(Touch.refl _ _).drew
     have HZR:∀w',Touch (fun _=>False) wa w'→w'.rangeAt g9 (K0.length*10) [.int .u32 z.x.p.addr,.int .u8 z.x.p.bits,.int .u32 z.x.router,.int .u8 z.x.flags,.int .u8 z.x.kind,.int .u32 z.x.area,.int .u32 z.x.cost,.int .u32 z.x.dist,.int .u32 z.x.tag,.slice za z.x.hs.length zc]:=fun w' t j v hj=>by
      obtain⟨q0,q1,q2,q3,q4,q5,q6,q7,q8,q9⟩:=HZ10.out w' t
      rw [EZV.out] at q9
      match j,hj with
      | 0,hj=>cases hj;exact q0
      | 1,hj=>cases hj;exact q1
      | 2,hj=>cases hj;exact q2
      | 3,hj=>cases hj;exact q3
      | 4,hj=>cases hj;exact q4
      | 5,hj=>cases hj;exact q5
      | 6,hj=>cases hj;exact q6
      | 7,hj=>cases hj;exact q7
      | 8,hj=>cases hj;exact q8
      | 9,hj=>cases hj;exact q9
      | j+10,hj=>simp at hj
     have HRXw:∀w',Touch (fun _=>False) wa w'→Row w' bx 47 [.int .u32 y.x.p.addr,.int .u8 y.x.p.bits,.int .u32 y.x.router,.int .u8 y.x.flags,.int .u8 y.x.kind,.int .u32 y.x.area,.int .u32 y.x.cost,.int .u32 y.x.dist,.int .u32 y.x.tag,.slice ya yl yc]:=fun w' t=>HRX.out.keep t
     refine wp_region_held_drew (S:=fun w'=>Touch (fun _=>False) wa w') (by kernel_rfl) s0 (fun hHeld=>?_)
     refine wpAnyH_take (i:=0) (oi:=⟨some 36,_,_,_,_,_⟩) (v:=.int .i64 (K0.length:Int)) rfl (by kernel_rfl) (by kernel_rfl) (by kernel_rfl) (fun _ _ _ h=>h) (Or.inl ⟨by rfl,fun w hw=>by go_simp⟩) (by assumption) ?_
     simp only [Act.put,Qo4,Qo5,Qo6]
     refine wpAnyH_take (i:=1) (oi:=⟨some 37,_,_,_,_,_⟩) (v:=.bool false) rfl (by kernel_rfl) (by kernel_rfl) (by kernel_rfl) (fun _ _ _ h=>h) (Or.inl ⟨by rfl,fun w hw=>by go_simp⟩) (by assumption) ?_
     simp only [Act.put,Qo4,Qo5,Qo6]
     refine wpAnyH_take (i:=2) (oi:=⟨some 38,_,_,_,_,_⟩) (v:=.bool false) rfl (by kernel_rfl) (by kernel_rfl) (by kernel_rfl) (fun _ _ _ h=>h) (Or.inl ⟨by rfl,fun w hw=>by go_simp⟩) (by assumption) ?_
     simp only [Act.put,Qo4,Qo5,Qo6]
     refine wpAnyH_take (i:=3) (oi:=⟨some 39,_,_,_,_,_⟩) (v:=.slice (some ⟨g9,0,none⟩) kn c9) rfl (by kernel_rfl) (by kernel_rfl) (by kernel_rfl) (fun _ _ _ h=>h) (Or.inl ⟨by rfl,fun w hw=>by go_simp⟩) (by assumption) ?_
     simp only [Act.put,Qo4,Qo5,Qo6]
     refine wpAnyH_take (i:=4) (oi:=⟨some 40,_,_,_,_,_⟩) (v:=.int .i64 (K0.length:Int)) rfl (by kernel_rfl) (by kernel_rfl) (by kernel_rfl) (fun _ _ _ h=>h) (Or.inl ⟨by rfl,fun w hw=>by go_simp⟩) (by assumption) ?_
     simp only [Act.put,Qo4,Qo5,Qo6]
     refine wpAnyH_take (i:=5) (oi:=⟨some 41,_,_,_,_,_⟩) (v:=.pointer (some ⟨g9,K0.length*10,none⟩)) rfl (by kernel_rfl) (by kernel_rfl) (by kernel_rfl) (fun _ _ _ h=>h) (Or.inl ⟨by rfl,fun w hw=>by go_simp⟩) (by assumption) ?_
     simp only [Act.put,Qo4,Qo5,Qo6]
     refine wpAnyH_take (i:=6) (oi:=⟨some 42,_,_,_,_,_⟩) (v:=.agg #[.int .u32 z.x.p.addr,.int .u8 z.x.p.bits,.int .u32 z.x.router,.int .u8 z.x.flags,.int .u8 z.x.kind,.int .u32 z.x.area,.int .u32 z.x.cost,.int .u32 z.x.dist,.int .u32 z.x.tag,.slice za z.x.hs.length zc]) rfl (by kernel_rfl) (by kernel_rfl) (by kernel_rfl) (fun _ _ _ h=>h) (yieldsIf_load_mid (by rfl) _ _ rfl _ _ rfl [.int .u32 z.x.p.addr,.int .u8 z.x.p.bits,.int .u32 z.x.router,.int .u8 z.x.flags,.int .u8 z.x.kind,.int .u32 z.x.area,.int .u32 z.x.cost,.int .u32 z.x.dist,.int .u32 z.x.tag,.slice za z.x.hs.length zc] _ (fun w h=>HZR w h) Tryz.underlying47 rfl (by kernel_rfl)) (by assumption) ?_
     simp only [Act.put,Qo4,Qo5,Qo6]
     refine wpAnyH_take (i:=7) (oi:=⟨some 43,_,_,_,_,_⟩) (v:=.agg #[.int .u32 y.x.p.addr,.int .u8 y.x.p.bits,.int .u32 y.x.router,.int .u8 y.x.flags,.int .u8 y.x.kind,.int .u32 y.x.area,.int .u32 y.x.cost,.int .u32 y.x.dist,.int .u32 y.x.tag,.slice ya yl yc]) rfl (by kernel_rfl) (by kernel_rfl) (by kernel_rfl) (fun _ _ _ h=>h) (yieldsIf_load_mid (by rfl) _ _ rfl _ _ rfl [.int .u32 y.x.p.addr,.int .u8 y.x.p.bits,.int .u32 y.x.router,.int .u8 y.x.flags,.int .u8 y.x.kind,.int .u32 y.x.area,.int .u32 y.x.cost,.int .u32 y.x.dist,.int .u32 y.x.tag,.slice ya yl yc] _ (fun w h=>Qbk (HRXw w h)) Tryz.underlying47 rfl (by kernel_rfl)) (by assumption) ?_
     simp only [Act.put,Qo4,Qo5,Qo6]
     refine wpAnyH_ready (rs:=[8]) (by kernel_rfl) (by simp) ?_
     refine AllReadyH.cons (o:=⟨some 44,_,_,_,_,_⟩) rfl (fun K hK=>?_) AllReadyH.nil
     go_simp
     refine Calls.mono (HENDS _) ?_
     rintro e y1 ⟨rfl,u1⟩
     have s1:Touch (fun _=>False) wa y1:=s0.trans u1.t
     refine hK.out _ _ (by assumption) (fun hHeld=>?_)
     clear hK K
     refine wpAnyH_take (i:=9) (oi:=⟨some 45,_,_,_,_,_⟩) (v:=.bool (endC z.x y.x != 0)) rfl (by kernel_rfl) (by kernel_rfl) (by kernel_rfl) (fun _ _ _ h=>h) (Or.inl ⟨by rfl,fun w hw=>by go_simp⟩) (by assumption) ?_
     simp only [Act.put,Qo4,Qo5,Qo6]
     refine wpAnyH_take (i:=10) (oi:=⟨some 46,_,_,_,_,_⟩) (v:=.bool (endC z.x y.x != 0)) rfl (by kernel_rfl) (by kernel_rfl) (by kernel_rfl) (fun _ _ _ h=>h) (Or.inl ⟨by rfl,fun w hw=>by go_simp⟩) (by assumption) ?_
     simp only [Act.put,Qo4,Qo5,Qo6]
     refine wpAnyH_take (i:=11) (oi:=⟨some 35,_,_,_,_,_⟩) (v:=.bool (endC z.x y.x != 0)) rfl (by kernel_rfl) (by kernel_rfl) (by kernel_rfl) (fun _ _ _ h=>h) (Or.inl ⟨by rfl,fun w hw=>by go_simp⟩) (by assumption) ?_
     simp only [Act.put,Qo4,Qo5,Qo6]
     refine wpAnyH_done (by kernel_rfl) ?_ _
     have HTD:Hid (Touch (fun _=>False) wa y1):=s1
     clear s0 s1 u1 HENDS HRXw
     by_cases he:endC z.x y.x=0
     ·have hne:(endC z.x y.x != 0)=false:=by simpa using he
      rw [hne]
      clear hne HKN1 HZR
      go_upto_region 14 with fail
      have s0:Touch (fun _=>False) y1 y1.drew:=(Touch.refl _ _).drew
      have zc6:∀w',Touch (fun _=>False) y1 w'→w'.cell? ⟨g9,K0.length*10+6,none⟩=some (.int .u32 z.x.cost):=fun w' t=>(HZ10.out w' (HTD.out.trans t)).e6
      have yc6:∀w',Touch (fun _=>False) y1 w'→w'.cell? ⟨bx,6,none⟩=some (.int .u32 y.x.cost):=fun w' t=>(HRX.out.keep (HTD.out.trans t)).cell 6
      refine wp_region_held_drew (S:=fun w'=>Touch (fun _=>False) y1 w') (by kernel_rfl) s0 (fun hHeld=>?_)
      refine wpAnyH_take (i:=0) (oi:=⟨some 56,_,_,_,_,_⟩) (v:=.slice (some ⟨g9,0,none⟩) kn c9) rfl (by kernel_rfl) (by kernel_rfl) (by kernel_rfl) (fun _ _ _ h=>h) (Or.inl ⟨by rfl,fun w hw=>by go_simp⟩) (by assumption) ?_
      simp only [Act.put,Qo4,Qo5,Qo6]
      refine wpAnyH_take (i:=1) (oi:=⟨some 57,_,_,_,_,_⟩) (v:=.int .i64 (K0.length:Int)) rfl (by kernel_rfl) (by kernel_rfl) (by kernel_rfl) (fun _ _ _ h=>h) (Or.inl ⟨by rfl,fun w hw=>by go_simp⟩) (by assumption) ?_
      simp only [Act.put,Qo4,Qo5,Qo6]
      refine wpAnyH_take (i:=2) (oi:=⟨some 58,_,_,_,_,_⟩) (v:=.pointer (some ⟨g9,K0.length*10,none⟩)) rfl (by kernel_rfl) (by kernel_rfl) (by kernel_rfl) (fun _ _ _ h=>h) (Or.inl ⟨by rfl,fun w hw=>by go_simp⟩) (by assumption) ?_
      simp only [Act.put,Qo4,Qo5,Qo6]
      refine wpAnyH_take (i:=3) (oi:=⟨some 59,_,_,_,_,_⟩) (v:=.pointer (some ⟨g9,K0.length*10+6,none⟩)) rfl (by kernel_rfl) (by kernel_rfl) (by kernel_rfl) (fun _ _ _ h=>h) (Or.inl ⟨by rfl,fun w hw=>by go_simp⟩) (by assumption) ?_
      simp only [Act.put,Qo4,Qo5,Qo6]
      refine wpAnyH_take (i:=4) (oi:=⟨some 60,_,_,_,_,_⟩) (v:=.int .u32 z.x.cost) rfl (by kernel_rfl) (by kernel_rfl) (by kernel_rfl) (fun _ _ _ h=>h) (Or.inl ⟨by rfl,fun w hw=>by go_simp⟩) (by assumption) ?_
      simp only [Act.put,Qo4,Qo5,Qo6]
      refine wpAnyH_take (i:=5) (oi:=⟨some 61,_,_,_,_,_⟩) (v:=.pointer (some ⟨bx,6,none⟩)) rfl (by kernel_rfl) (by kernel_rfl) (by kernel_rfl) (fun _ _ _ h=>h) (Or.inl ⟨by rfl,fun w hw=>by go_simp⟩) (by assumption) ?_
      simp only [Act.put,Qo4,Qo5,Qo6]
      refine wpAnyH_take (i:=6) (oi:=⟨some 62,_,_,_,_,_⟩) (v:=.int .u32 y.x.cost) rfl (by kernel_rfl) (by kernel_rfl) (by kernel_rfl) (fun _ _ _ h=>h) (Or.inl ⟨by rfl,fun w hw=>by go_simp⟩) (by assumption) ?_
      simp only [Act.put,Qo4,Qo5,Qo6]
      refine wpAnyH_take (i:=7) (oi:=⟨some 63,_,_,_,_,_⟩) (v:=.bool (z.x.cost==y.x.cost)) rfl (by kernel_rfl) (by kernel_rfl) (by kernel_rfl) (fun _ _ _ h=>h) (Or.inl ⟨by rfl,fun w hw=>by go_simp⟩) (by assumption) ?_
      simp only [Act.put,Qo4,Qo5,Qo6]
      refine wpAnyH_take (i:=8) (oi:=⟨some 55,_,_,_,_,_⟩) (v:=.bool (z.x.cost==y.x.cost)) rfl (by kernel_rfl) (by kernel_rfl) (by kernel_rfl) (fun _ _ _ h=>h) (Or.inl ⟨by rfl,fun w hw=>by go_simp⟩) (by assumption) ?_
      simp only [Act.put,Qo4,Qo5,Qo6]
      refine wpAnyH_done (by kernel_rfl) ?_ _
      have HTQ:Hid (Touch (fun _=>False) wa y1.drew):=HTD.out.trans s0
      clear s0 zc6 yc6 hHeld HTD
      generalize y1.drew=wq at *
      have HLK:Hid (∀q:WY,(K0++[q]).length=kn):=fun q=>by rw [List.length_append,HKN0.out];rfl
      by_cases hc:z.x.cost=y.x.cost
      ·have hce:(z.x.cost==y.x.cost)=true:=by simpa using hc
       rw [hce]
       clear hce
       go_upto_region 15 with fail
       have HKq:Hid (KpR w2 wq (.slice (some ⟨g9,0,none⟩) kn c9) (K0++[z])):=HRA.out.keep HTQ.out
       have HGL:Hid (g9<wr.heap.size∧∀j,z.hv.ownBlock=some j→j<wr.heap.size):=⟨((HR.out.b.own).lt g9 rfl).2,fun j hj=>((HR.out.h z (by simp)).lt j hj).2⟩
       have HNF:Hid (¬(bx=g9∨z.hv.ownBlock=some bx)):=fun h=>by have h1:=HGL.out;have h2:=HBX.out;exact h.elim (fun h=>by omega) (fun h=>by have:=h1.2 bx h;omega)
       have HRXq:Hid (Row wq bx 47 [.int .u32 y.x.p.addr,.int .u8 y.x.p.bits,.int .u32 y.x.router,.int .u8 y.x.flags,.int .u8 y.x.kind,.int .u32 y.x.area,.int .u32 y.x.cost,.int .u32 y.x.dist,.int .u32 y.x.tag,.slice ya yl yc]):=HRX.out.keep HTQ.out
       have s0:Touch (fun k=>k=g9∨z.hv.ownBlock=some k) wq wq.drew:=(Touch.refl _ _).drew
       have T0:Touch (fun _=>False) wq wq.drew:=(Touch.refl _ _).drew
       have y9:∀w',Touch (fun k=>k=g9∨z.hv.ownBlock=some k) wq w'→w'.cell? ⟨bx,9,none⟩=some (.slice ya yl yc):=fun w' t=>(Qay HRXq.out t HNF.out).cell 9
       have z9:wq.drew.cell? ⟨g9,K0.length*10+9,none⟩=some (.slice za z.x.hs.length zc):=by rw [←EZV.out];exact (HZ10.out _ (HTQ.out.trans T0)).e9
       have HKd:Hid (KpR w2 wq.drew (.slice (some ⟨g9,0,none⟩) kn c9) (K0++[z])):=HKq.out.keep T0
       have HOZ:Hid (HOw w2.heap.size wq.drew (.slice za z.x.hs.length zc) z.x.hs):=by rw [←EZV.out];exact HKd.out.h z (by simp)
       have HVY:Hid (HV3 wq.drew (.slice ya yl yc) y.x.hs):=by have h:=HYV.out _ (HTA.out.trans (HTQ.out.trans T0));rw [←HYN.out] at h ⊢;exact h
       have HLE:Hid (z.x.hs.length+y.x.hs.length≤1000000):=by have h1:=HZL.out;have h2:=HYL.out;have h3:=HYN.out;show _≤_;omega
       have HSQ:Hid (w2.heap.size≤wq.drew.heap.size):=HKd.out.b.t.size
       clear T0
       refine wp_region_held_drew (S:=fun w'=>Touch (fun k=>k=g9∨z.hv.ownBlock=some k) wq w') (by kernel_rfl) s0 (fun hHeld=>?_)
       refine wpAnyH_take (i:=0) (oi:=⟨some 64,_,_,_,_,_⟩) (v:=.slice (some ⟨g9,0,none⟩) kn c9) rfl (by kernel_rfl) (by kernel_rfl) (by kernel_rfl) (fun _ _ _ h=>h) (Or.inl ⟨by rfl,fun w hw=>by go_simp⟩) (by assumption) ?_
       simp only [Act.put,Qo4,Qo5,Qo6]
       refine wpAnyH_take (i:=1) (oi:=⟨some 65,_,_,_,_,_⟩) (v:=.int .i64 (K0.length:Int)) rfl (by kernel_rfl) (by kernel_rfl) (by kernel_rfl) (fun _ _ _ h=>h) (Or.inl ⟨by rfl,fun w hw=>by go_simp⟩) (by assumption) ?_
       simp only [Act.put,Qo4,Qo5,Qo6]
       refine wpAnyH_take (i:=2) (oi:=⟨some 66,_,_,_,_,_⟩) (v:=.slice (some ⟨g9,0,none⟩) kn c9) rfl (by kernel_rfl) (by kernel_rfl) (by kernel_rfl) (fun _ _ _ h=>h) (Or.inl ⟨by rfl,fun w hw=>by go_simp⟩) (by assumption) ?_
       simp only [Act.put,Qo4,Qo5,Qo6]
       refine wpAnyH_take (i:=3) (oi:=⟨some 67,_,_,_,_,_⟩) (v:=.int .i64 (K0.length:Int)) rfl (by kernel_rfl) (by kernel_rfl) (by kernel_rfl) (fun _ _ _ h=>h) (Or.inl ⟨by rfl,fun w hw=>by go_simp⟩) (by assumption) ?_
       simp only [Act.put,Qo4,Qo5,Qo6]
       refine wpAnyH_take (i:=4) (oi:=⟨some 68,_,_,_,_,_⟩) (v:=.pointer (some ⟨g9,K0.length*10,none⟩)) rfl (by kernel_rfl) (by kernel_rfl) (by kernel_rfl) (fun _ _ _ h=>h) (Or.inl ⟨by rfl,fun w hw=>by go_simp⟩) (by assumption) ?_
       simp only [Act.put,Qo4,Qo5,Qo6]
       refine wpAnyH_take (i:=5) (oi:=⟨some 69,_,_,_,_,_⟩) (v:=.pointer (some ⟨g9,K0.length*10+9,none⟩)) rfl (by kernel_rfl) (by kernel_rfl) (by kernel_rfl) (fun _ _ _ h=>h) (Or.inl ⟨by rfl,fun w hw=>by go_simp⟩) (by assumption) ?_
       simp only [Act.put,Qo4,Qo5,Qo6]
       refine wpAnyH_take (i:=7) (oi:=⟨some 71,_,_,_,_,_⟩) (v:=.pointer (some ⟨bx,9,none⟩)) rfl (by kernel_rfl) (by kernel_rfl) (by kernel_rfl) (fun _ _ _ h=>h) (Or.inl ⟨by rfl,fun w hw=>by go_simp⟩) (by assumption) ?_
       simp only [Act.put,Qo4,Qo5,Qo6]
       refine wpAnyH_take (i:=8) (oi:=⟨some 72,_,_,_,_,_⟩) (v:=.slice ya yl yc) rfl (by kernel_rfl) (by kernel_rfl) (by kernel_rfl) (fun _ _ _ h=>h) (Or.inl ⟨by rfl,fun w hw=>by go_simp⟩) (by assumption) ?_
       simp only [Act.put,Qo4,Qo5,Qo6]
       refine wpAnyH_ready (rs:=[6]) (by kernel_rfl) (by simp) ?_
       refine AllReadyH.cons (o:=⟨some 70,_,_,_,_,_⟩) rfl (fun K hK=>?_) AllReadyH.nil
       go_simp
       refine hK.out _ _ (by assumption) (fun hHeld=>?_)
       clear hK K
       refine wpAnyH_ready (rs:=[9]) (by kernel_rfl) (by simp) ?_
       refine AllReadyH.cons (o:=⟨some 73,_,_,_,_,_⟩) rfl (fun K hK=>?_) AllReadyH.nil
       refine Qiw rfl (.tmp 70) (.tmp 72) rfl w2.heap.size (.slice za z.x.hs.length zc) (.slice ya yl yc) z.x.hs y.x.hs rfl HOZ.out rfl HVY.out HLE.out HSQ.out ?_
       intro v' wp hown TG hvv
       simp only [Act.put,Qo4,Qo5,Qo6]
       have sP:Touch (fun k=>k=g9∨z.hv.ownBlock=some k) wq wp:=s0.trans (TG.mono (fun k _ h=>Or.inr (by rw [EZV.out];exact h)))
       have hgz:¬(Value.slice za z.x.hs.length zc).ownBlock=some g9:=fun h=>Qa1 HKd.out.b.own (HKd.out.h z (by simp)) (by decide) g9 rfl (by rw [EZV.out];exact h)
       have z9p:wp.cell? ⟨g9,K0.length*10+9,none⟩=some (.slice za z.x.hs.length zc):=(TG.cell (p:=⟨g9,K0.length*10+9,none⟩) (Qaa z9) hgz).trans z9
       have f9p:wp.frozen? ⟨g9,K0.length*10+9,none⟩=false:=(TG.frozen (p:=⟨g9,K0.length*10+9,none⟩) (Qaa z9) hgz).trans (Qdj HKd.out.b.own _)
       have l9p:=Qaa z9p
       have HOV:Hid (HOw w2.heap.size wp v' (z.x.hs++y.x.hs)):=hown
       have HTG:Hid (Touch (fun j=>z.hv.ownBlock=some j) wq.drew wp):=TG.mono (fun k _ h=>by rw [EZV.out];exact h)
       have HVV:Hid (v'.ownBlock=z.hv.ownBlock∨∀k,v'.ownBlock=some k→wq.drew.heap.size≤k):=by rw [EZV.out];exact hvv
       obtain⟨va',vc',rfl⟩:=Qal hown
       clear hown TG hvv hgz z9
       refine hK.out _ _ (by assumption) (fun hHeld=>?_)
       clear hK K
       refine wpAnyH_take (i:=10) (oi:=⟨some 74,_,_,_,_,_⟩) (v:=.pointer (some ⟨g9,K0.length*10,none⟩)) rfl (by kernel_rfl) (by kernel_rfl) (by kernel_rfl) (fun _ _ _ h=>h) (Or.inl ⟨by rfl,fun w hw=>by go_simp⟩) (by assumption) ?_
       simp only [Act.put,Qo4,Qo5,Qo6]
       refine wpAnyH_take (i:=11) (oi:=⟨some 75,_,_,_,_,_⟩) (v:=.pointer (some ⟨g9,K0.length*10+9,none⟩)) rfl (by kernel_rfl) (by kernel_rfl) (by kernel_rfl) (fun _ _ _ h=>h) (Or.inl ⟨by rfl,fun w hw=>by go_simp⟩) (by assumption) ?_
       simp only [Act.put,Qo4,Qo5,Qo6]
       refine wpAnyH_ready (rs:=[12]) (by kernel_rfl) (by simp) ?_
       refine AllReadyH.cons (o:=⟨none,_,_,_,_,_⟩) rfl (fun K hK=>?_) AllReadyH.nil
       go_simp
       have sE:Touch (fun k=>k=g9∨z.hv.ownBlock=some k) wq (wp.setCell ⟨g9,K0.length*10+9,none⟩ (.slice va' (z.x.hs++y.x.hs).length vc')):=Touch.setCell (F:=fun k=>k=g9∨z.hv.ownBlock=some k) (p:=⟨g9,K0.length*10+9,none⟩) sP (Or.inl (Or.inl rfl)) _
       refine hK.out _ _ (by first|exact sE|(simp at sE ⊢;exact sE)) (fun hHeld=>?_)
       clear hK K
       refine wpAnyH_done (by kernel_rfl) ?_ _
       have HKf:Hid (KpR w2 (wp.setCell ⟨g9,K0.length*10+9,none⟩ (.slice va' (z.x.hs++y.x.hs).length vc')) (.slice (some ⟨g9,0,none⟩) kn c9) (K0++[⟨{ z.x with hs:=z.x.hs++y.x.hs },(.slice va' (z.x.hs++y.x.hs).length vc')⟩])):=by
        have h:=HKd.out
        rw [HKN0.out] at h ⊢
        exact h.more HOV.out HTG.out HVV.out
       clear sE sP z9p f9p l9p HOV HTG HVV y9 s0
       go_wp2_with fail
       go_roundg (n-(k+1))
       case measure=>exact Qbz HGK.out.1 HGK.out.2
       case rel=>exact⟨k+1,K0++[⟨{ z.x with hs:=z.x.hs++y.x.hs },(.slice va' (z.x.hs++y.x.hs).length vc')⟩],some ⟨g9,0,none⟩,c9,HGK.out.1,Nat.le_refl _,by first|exact Qam hkw|exact Qam rfl,by rw [HLK.out],by rw [HLK.out];first|exact HKf.out|(simpa using HKf.out),HSTEP.out _ (HKN2.out _ he hc rfl),by rw [HLK.out];exact Nat.le_succ_of_le HKL.out⟩
      ·have hce:(z.x.cost==y.x.cost)=false:=by simpa using hc
       rw [hce]
       clear hce
       have HKf:Hid (KpR w2 wq (.slice (some ⟨g9,0,none⟩) kn c9) (K0++[z])):=HRA.out.keep HTQ.out
       go_wp2_with fail
       go_roundg (n-(k+1))
       case measure=>exact Qbz HGK.out.1 HGK.out.2
       case rel=>exact⟨k+1,K0++[z],some ⟨g9,0,none⟩,c9,HGK.out.1,Nat.le_refl _,by first|exact Qam hkw|exact Qam rfl,by rw [HLK.out],by rw [HLK.out];exact HKf.out,HSTEP.out _ (HKN3.out he hc),by rw [HLK.out];exact Nat.le_succ_of_le HKL.out⟩
     ·have hne:(endC z.x y.x != 0)=true:=by simpa using he
      have HKN1:Hid (∀c:WY,c.x=y.x→(K0++[z]++[c]).map (·.x)=kp1 ((K0++[z]).map (·.x)) y.x):=fun c hc=>HKN1.out c he hc
      rw [hne]
      clear hne he HZR HKN2 HKN3 HRA
      have HTB:Hid (Touch (fun _=>False) wr y1):=HTA.out.trans HTD.out
      have HRXb:Hid (Row y1 bx 47 [.int .u32 y.x.p.addr,.int .u8 y.x.p.bits,.int .u32 y.x.router,.int .u8 y.x.flags,.int .u8 y.x.kind,.int .u32 y.x.area,.int .u32 y.x.cost,.int .u32 y.x.dist,.int .u32 y.x.tag,.slice ya yl yc]):=HRX.out.keep HTD.out
      have x9:=HRXb.out.cell 9
      have lx:=HRXb.out.lt
      simp only [List.getElem?_cons_succ,List.getElem?_cons_zero] at x9
      have HCL:=Qcs (.slice ya yl yc) y.x.hs y1 (by have h:=HYV.out _ HTB.out;rw [←HYN.out] at h ⊢;exact h) (by rw [HYN.out];exact Nat.le_trans HYL.out (by decide))
      clear HRX HTA
      go_upto_region 13 with (go_at_call 39;refine HCL.mono ?_;rintro e wc ⟨cv,rfl,hcv⟩;obtain⟨ca,cc,rfl⟩:=Qal hcv.own;have HCV:Hid (HpB y1 wc (.slice ca y.x.hs.length cc) y.x.hs):=hcv;have HRXc:Hid (Row wc bx 47 [.int .u32 y.x.p.addr,.int .u8 y.x.p.bits,.int .u32 y.x.router,.int .u8 y.x.flags,.int .u8 y.x.kind,.int .u32 y.x.area,.int .u32 y.x.cost,.int .u32 y.x.dist,.int .u32 y.x.tag,.slice ya yl yc]):=HRXb.out.keep hcv.t;have y9:=HRXc.out.cell 9;have fy:=HRXc.out.frozen;have ly:=HRXc.out.lt;simp only [List.getElem?_cons_succ,List.getElem?_cons_zero] at y9;clear hcv x9 lx)
      clear HCL y9 fy ly
      have HRXd:Hid (Row (wc.setCell ⟨bx,9,none⟩ (.slice ca y.x.hs.length cc)) bx 47 [.int .u32 y.x.p.addr,.int .u8 y.x.p.bits,.int .u32 y.x.router,.int .u8 y.x.flags,.int .u8 y.x.kind,.int .u32 y.x.area,.int .u32 y.x.cost,.int .u32 y.x.dist,.int .u32 y.x.tag,.slice ca y.x.hs.length cc]):=HRXc.out.set 9 _
      have tcd:Touch (fun k=>k=bx) wc (wc.setCell ⟨bx,9,none⟩ (.slice ca y.x.hs.length cc)):=Touch.setCell (F:=fun k=>k=bx) (p:=⟨bx,9,none⟩) (Touch.refl _ _) (Or.inl rfl) _
      have hwrd:Touch (fun k=>k=bx) wr (wc.setCell ⟨bx,9,none⟩ (.slice ca y.x.hs.length cc)):=((HTB.out.trans HCV.out.t).mono (fun _ _ h=>h.elim)).trans tcd
      have HKd:Hid (KpR w2 (wc.setCell ⟨bx,9,none⟩ (.slice ca y.x.hs.length cc)) (.slice (some ⟨g9,0,none⟩) kn c9) (K0++[z])):=HR.out.fresh (by rw [HBX.out];exact Nat.le_refl _) hwrd
      have HOd:Hid (HOw wr.heap.size (wc.setCell ⟨bx,9,none⟩ (.slice ca y.x.hs.length cc)) (.slice ca y.x.hs.length cc) y.x.hs):=Qab (Qak HCV.out.own HTB.out.size) tcd (fun j hj e=>by subst e;exact Qbo HCV.out.own HRXc.out (by decide) hj)
      have HSZd:Hid (wr.heap.size≤(wc.setCell ⟨bx,9,none⟩ (.slice ca y.x.hs.length cc)).heap.size):=hwrd.size
      clear tcd hwrd HCV HRXc HRXb
      generalize wc.setCell ⟨bx,9,none⟩ (.slice ca y.x.hs.length cc)=wd at *
      have d0:=HRXd.out.cell 0
      have d1:=HRXd.out.cell 1
      have d2:=HRXd.out.cell 2
      have d3:=HRXd.out.cell 3
      have d4:=HRXd.out.cell 4
      have d5:=HRXd.out.cell 5
      have d6:=HRXd.out.cell 6
      have d7:=HRXd.out.cell 7
      have d8:=HRXd.out.cell 8
      have d9:=HRXd.out.cell 9
      simp only [List.getElem?_cons_succ,List.getElem?_cons_zero] at d0 d1 d2 d3 d4 d5 d6 d7 d8 d9
      have ld:=HRXd.out.lt
      have RAw:=Qac wd 47 #[.int .u32 y.x.p.addr,.int .u8 y.x.p.bits,.int .u32 y.x.router,.int .u8 y.x.flags,.int .u8 y.x.kind,.int .u32 y.x.area,.int .u32 y.x.cost,.int .u32 y.x.dist,.int .u32 y.x.tag,.slice ca y.x.hs.length cc]
      have T8:Touch (fun _=>False) wd (wd.alloc (.cells #[.int .u32 y.x.p.addr,.int .u8 y.x.p.bits,.int .u32 y.x.router,.int .u8 y.x.flags,.int .u8 y.x.kind,.int .u32 y.x.area,.int .u32 y.x.cost,.int .u32 y.x.dist,.int .u32 y.x.tag,.slice ca y.x.hs.length cc] 47)):=(Touch.refl _ _).alloc _
      have HNA:Hid (∀(j:Nat) u,([.int .u32 y.x.p.addr,.int .u8 y.x.p.bits,.int .u32 y.x.router,.int .u8 y.x.flags,.int .u8 y.x.kind,.int .u32 y.x.area,.int .u32 y.x.cost,.int .u32 y.x.dist,.int .u32 y.x.tag,.slice ca y.x.hs.length cc]:List Value)[j]?=some u→(wd.alloc (.cells #[.int .u32 y.x.p.addr,.int .u8 y.x.p.bits,.int .u32 y.x.router,.int .u8 y.x.flags,.int .u8 y.x.kind,.int .u32 y.x.area,.int .u32 y.x.cost,.int .u32 y.x.dist,.int .u32 y.x.tag,.slice ca y.x.hs.length cc] 47)).cell? ((⟨wd.heap.size,0,none⟩:Addr).add j)=some u):=fun j u hj=>by rw [Qah,Nat.zero_add,RAw.cell j];exact hj
      have HKe:Hid (KpR w2 (wd.alloc (.cells #[.int .u32 y.x.p.addr,.int .u8 y.x.p.bits,.int .u32 y.x.router,.int .u8 y.x.flags,.int .u8 y.x.kind,.int .u32 y.x.area,.int .u32 y.x.cost,.int .u32 y.x.dist,.int .u32 y.x.tag,.slice ca y.x.hs.length cc] 47)) (.slice (some ⟨g9,0,none⟩) kn c9) (K0++[z])):=HKd.out.keep T8
      have HOe:Hid (HOw wr.heap.size (wd.alloc (.cells #[.int .u32 y.x.p.addr,.int .u8 y.x.p.bits,.int .u32 y.x.router,.int .u8 y.x.flags,.int .u8 y.x.kind,.int .u32 y.x.area,.int .u32 y.x.cost,.int .u32 y.x.dist,.int .u32 y.x.tag,.slice ca y.x.hs.length cc] 47)) (.slice ca y.x.hs.length cc) y.x.hs):=Qab HOd.out T8 (fun _ _ h=>h)
      have HSZe:Hid (wr.heap.size≤(wd.alloc (.cells #[.int .u32 y.x.p.addr,.int .u8 y.x.p.bits,.int .u32 y.x.router,.int .u8 y.x.flags,.int .u8 y.x.kind,.int .u32 y.x.area,.int .u32 y.x.cost,.int .u32 y.x.dist,.int .u32 y.x.tag,.slice ca y.x.hs.length cc] 47)).heap.size∧w2.heap.size≤(wd.alloc (.cells #[.int .u32 y.x.p.addr,.int .u8 y.x.p.bits,.int .u32 y.x.router,.int .u8 y.x.flags,.int .u8 y.x.kind,.int .u32 y.x.area,.int .u32 y.x.cost,.int .u32 y.x.dist,.int .u32 y.x.tag,.slice ca y.x.hs.length cc] 47)).heap.size):=⟨Nat.le_trans HSZd.out T8.size,HKe.out.b.t.size⟩
      have HOW8:Hid ((wd.alloc (.cells #[.int .u32 y.x.p.addr,.int .u8 y.x.p.bits,.int .u32 y.x.router,.int .u8 y.x.flags,.int .u8 y.x.kind,.int .u32 y.x.area,.int .u32 y.x.cost,.int .u32 y.x.dist,.int .u32 y.x.tag,.slice ca y.x.hs.length cc] 47)).ownsRow w2.heap.size 47 10 (.slice (some ⟨g9,0,none⟩) kn c9) kn (cellsG WY.cs (K0++[z]))):=by have h:=HKe.out.b.own;rw [HKN.out] at h;exact h
      clear RAw T8 HKd HOd HSZd HRXd
      go_wp2_with (at_builtin;refine Qce rfl (.tmp 51) (.tmp 53) 31 rfl 47 10 56 (.agg #[.int .u32 0,.int .u8 0,.int .u32 0,.int .u8 0,.int .u8 0,.int .u32 0,.int .u32 0,.int .u32 0,.int .u32 0,.slice none 0 0]) Tryz.underlying31 infoWay rfl (by decide) (by decide) w2.heap.size (.slice (some ⟨g9,0,none⟩) kn c9) kn _ rfl HOW8.out HSZe.out.2 ⟨wd.heap.size,0,none⟩ 1 1 [.int .u32 y.x.p.addr,.int .u8 y.x.p.bits,.int .u32 y.x.router,.int .u8 y.x.flags,.int .u8 y.x.kind,.int .u32 y.x.area,.int .u32 y.x.cost,.int .u32 y.x.dist,.int .u32 y.x.tag,.slice ca y.x.hs.length cc] rfl rfl HNA.out (Qbw _ _ _ _ _ _ _ _ _ _ _ _) HLN.out ?_)
      intro v' wf hown TG
      clear d0 d1 d2 d3 d4 d5 d6 d7 d8 d9 ld HNA HOW8
      have HNK:Hid (KpR w2 wf v' ((K0++[z])++[⟨y.x,.slice ca y.x.hs.length cc⟩])):=HR.out.app HKe.out HSZe.out.1 HOe.out (by rw [HKN.out];exact hown) TG
      obtain⟨f1,f2,rfl⟩:=Qal hown
      clear hown TG HKe HOe HSZe
      go_wp2_with fail
      go_roundg (n-(k+1))
      case measure=>exact Qbz HGK.out.1 HGK.out.2
      case rel=>exact⟨k+1,(K0++[z])++[⟨y.x,.slice ca y.x.hs.length cc⟩],f1,f2,HGK.out.1,Nat.le_refl _,by first|exact Qam hkw|exact Qam rfl,by rw [List.length_append,HKN.out];rfl,by have h:=HNK.out;first|exact h|(rw [List.length_append,HKN.out];exact h),HSTEP.out _ (HKN1.out _ rfl),by rw [List.length_append,HKN.out];exact Nat.add_le_add_right HKL.out 1⟩
   ·skip
    obtain rfl:k=n:=Nat.le_antisymm hk (Nat.le_of_not_lt hlt)
    have hlt':¬(k:Int)<(k:Int):=Int.lt_irrefl _
    have HKF:Hid (K.map (·.x)=kpP (L.map (·.x))):=by have h:=HKX.out;rw [List.take_of_length_le (by rw [HNL.out];exact Nat.le_refl _)] at h;exact h
    have HWB:Hid (WB1 w2 wr (.slice a9 K.length c9) K):=HR.out.wb
    have HZL:Hid (∀q∈K.map (·.x),q.hs.length≤24000):=fun q hq=>by
     rw [HKF.out] at hq
     have h2:=Qgd _ 400 (fun x hx=>by obtain⟨q,hq,rfl⟩:=List.mem_map.1 hx;exact HLL.out q hq) _ hq
     rw [List.length_map,HNL.out] at h2
     have h4:=HNB.out
     have h6:k*400≤60*400:=Nat.mul_le_mul_right _ h4
     omega
    have HKB:Hid (K.length≤60):=Nat.le_trans HKL.out HNB.out
    generalize hkn:K.length=kn at *
    have HKN:Hid (K.length=kn):=hkn
    have hkn60:(kn:Int)≤60:=by have:=HKB.out;omega
    clear hkn HR HKX HKL hgk hlt hk
    go_wp2_with fail
    go_loopg [79] kn (fun gg s79 wx=>∃(i:Nat) (N:List WY),i≤kn∧kn-i≤gg∧s79=.int .i64 i∧WB1 w2 wx (.slice a9 kn c9) N∧N.length=kn∧N.map (·.x)=((K.map (·.x)).take i).map srtW++(K.map (·.x)).drop i)
    case atStart=>exact⟨0,K,Nat.zero_le _,Nat.le_refl _,rfl,HWB.out,HKN.out,by simp⟩
    case round =>
     clear HWB
     obtain⟨i,N,hi,hgi,rfl,hwb,hNl,hNx⟩:=hrel
     have HWN:Hid (WB1 w2 wr (.slice a9 kn c9) N):=hwb
     have HNl:Hid (N.length=kn):=hNl
     have HNx:Hid (N.map (·.x)=((K.map (·.x)).take i).map srtW++(K.map (·.x)).drop i):=hNx
     clear hwb hNl hNx
     by_cases hli:i<kn
     ·skip
      have hli':(i:Int)<(kn:Int):=Qbl hli
      have hi00:(0:Int)≤(i:Int):=Qa6 _
      have hiw:wrap64 ((i:Int)+1)=(i:Int)+1:=Qes (Nat.le_trans (Nat.le_trans (Nat.le_of_lt hli) HKB.out) (by decide))
      have HGI:Hid (i<kn∧kn-i≤gk):=⟨hli,hgi⟩
      obtain⟨z,hz⟩:=Qco HNl.out hli
      have HZI:Hid (N[i]?=some z):=hz
      obtain⟨g9,e9⟩:∃g9,a9=some ⟨g9,0,none⟩:=by
       rcases HWN.out.b.own.2 with⟨h,-⟩|⟨g,cap,cur,h,-⟩
       ·injection h with h1 h2;omega
       ·injection h with h1;exact⟨g,h1⟩
      subst e9
      have hZO:HO wr z.hv z.x.hs:=HWN.out.h z (List.mem_of_getElem? hz)
      have HZL2:Hid (z.x.hs.length≤24000):=by
       have e:(N.map (·.x))[i]?=some z.x:=by rw [List.getElem?_map,hz];rfl
       have hkl:(K.map (·.x)).length=kn:=by rw [List.length_map,HKN.out]
       rw [HNx.out,List.getElem?_append_right (by rw [List.length_map,List.length_take];omega),List.length_map,List.length_take,Nat.min_eq_left (by omega),Nat.sub_self,List.getElem?_drop,Nat.add_zero] at e
       exact HZL.out _ (List.mem_of_getElem? e)
      obtain⟨za,zc,ezv⟩:=Qal hZO
      have EZV:Hid (z.hv=.slice za z.x.hs.length zc):=ezv
      have HZ10:Hid (∀w',Touch (fun _=>False) wr w'→W10 w' g9 (i*10) z):=fun w' t=>by
       obtain⟨g,o,e,h⟩:=Qbq (Qfj (VBuf.vals (HWN.out.keep t).b) HNl.out) HZI.out
       injection e with e
       injection e with e1 e2
       subst e1
       rw [←e2,Nat.zero_add] at h
       exact h
      obtain⟨e0,e1,e2,e3,e4,e5,e6,e7,e8,e9⟩:=HZ10.out wr (Touch.refl _ _)
      rw [EZV.out] at e9
      have lg:=Qaa e0
      have ta:Touch (fun _=>False) wr (wr.alloc (.cells #[.int .u32 z.x.p.addr,.int .u8 z.x.p.bits,.int .u32 z.x.router,.int .u8 z.x.flags,.int .u8 z.x.kind,.int .u32 z.x.area,.int .u32 z.x.cost,.int .u32 z.x.dist,.int .u32 z.x.tag,.slice za z.x.hs.length zc] 47)):=(Touch.refl _ _).alloc _
      have HTA:Hid (Touch (fun _=>False) wr (wr.alloc (.cells #[.int .u32 z.x.p.addr,.int .u8 z.x.p.bits,.int .u32 z.x.router,.int .u8 z.x.flags,.int .u8 z.x.kind,.int .u32 z.x.area,.int .u32 z.x.cost,.int .u32 z.x.dist,.int .u32 z.x.tag,.slice za z.x.hs.length zc] 47))):=ta
      have HVZ:HV3 (wr.alloc (.cells #[.int .u32 z.x.p.addr,.int .u8 z.x.p.bits,.int .u32 z.x.router,.int .u8 z.x.flags,.int .u8 z.x.kind,.int .u32 z.x.area,.int .u32 z.x.cost,.int .u32 z.x.dist,.int .u32 z.x.tag,.slice za z.x.hs.length zc] 47)) (.slice za z.x.hs.length zc) z.x.hs:=by have h:=ValsAt.keep (Qcg hZO) ta;rw [EZV.out] at h;exact h
      have HJ:=Qdu _ (.slice za z.x.hs.length zc) (.slice none 0 0) z.x.hs [] (pts [] z.x.hs) HVZ ⟨rfl,Or.inl ⟨rfl,rfl⟩⟩ (by have:=HZL2.out;simp;omega) (Qcn [] _ List.Pairwise.nil) (fun x=>by rw [Qd9];simp)
      clear ta hz hZO ezv HVZ
      go_upto_region 20 with fail
      clear e0 e1 e2 e3 e4 e5 e6 e7 e8 e9 lg
      have RX:Row (wr.alloc (.cells #[.int .u32 z.x.p.addr,.int .u8 z.x.p.bits,.int .u32 z.x.router,.int .u8 z.x.flags,.int .u8 z.x.kind,.int .u32 z.x.area,.int .u32 z.x.cost,.int .u32 z.x.dist,.int .u32 z.x.tag,.slice za z.x.hs.length zc] 47)) wr.heap.size 47 [.int .u32 z.x.p.addr,.int .u8 z.x.p.bits,.int .u32 z.x.router,.int .u8 z.x.flags,.int .u8 z.x.kind,.int .u32 z.x.area,.int .u32 z.x.cost,.int .u32 z.x.dist,.int .u32 z.x.tag,.slice za z.x.hs.length zc]:=Qac wr _ _
      have x9:=RX.cell 9
      have lx:=RX.lt
      simp only [List.getElem?_cons_succ,List.getElem?_cons_zero] at x9
      clear RX
      generalize wr.alloc (.cells #[.int .u32 z.x.p.addr,.int .u8 z.x.p.bits,.int .u32 z.x.router,.int .u8 z.x.flags,.int .u8 z.x.kind,.int .u32 z.x.area,.int .u32 z.x.cost,.int .u32 z.x.dist,.int .u32 z.x.tag,.slice za z.x.hs.length zc] 47)=wa at *
      have HWa:Hid (WB1 w2 wa (.slice (some ⟨g9,0,none⟩) kn c9) N):=HWN.out.keep HTA.out
      have HZa:Hid (∀w',Touch (fun _=>False) wa w'→W10 w' g9 (i*10) z):=fun w' t=>HZ10.out w' (HTA.out.trans t)
      go_upto_region 21 with (go_at_call 52;refine HJ.mono ?_;rintro e wj ⟨r,rfl,hr⟩;have HRJ:Hid (HO wj r (pts [] z.x.hs)):=Qak hr.own (Nat.zero_le _);have z9:=(HZa.out wj hr.t).e9;rw [EZV.out] at z9;have HWj:Hid (WB1 w2 wj (.slice (some ⟨g9,0,none⟩) kn c9) N):=HWa.out.keep hr.t;have f9:=Qdj HWj.out.b.own (i*10+9);have l9:=Qaa z9;obtain⟨ra,rc,rfl⟩:=Qal hr.own;clear hr)
      have HWs:Hid (WB1 w2 (wj.setCell ⟨g9,i*10+9,none⟩ (.slice ra (pts [] z.x.hs).length rc)) (.slice (some ⟨g9,0,none⟩) kn c9) (N.set i ⟨{ z.x with hs:=pts [] z.x.hs },(.slice ra (pts [] z.x.hs).length rc)⟩)):=by have h:=HWj.out;rw [←HNl.out] at h ⊢;exact h.set9 HZI.out HRJ.out
      have HNs:Hid ((N.set i ⟨{ z.x with hs:=pts [] z.x.hs },(.slice ra (pts [] z.x.hs).length rc)⟩).map (·.x)=((K.map (·.x)).take (i+1)).map srtW++(K.map (·.x)).drop (i+1)):=Qmu HNx.out HZI.out rfl
      clear z9 f9 l9 HWj HRJ HJ HZa HWa x9 lx
      go_wp2_with fail
      go_roundg (kn-(i+1))
      case measure=>exact Qbz HGI.out.1 HGI.out.2
      case rel=>exact⟨i+1,_,HGI.out.1,Nat.le_refl _,by first|exact Qam hiw|exact Qam rfl,HWs.out,by rw [List.length_set];exact HNl.out,HNs.out⟩
     ·skip
      obtain rfl:i=kn:=Nat.le_antisymm hi (Nat.le_of_not_lt hli)
      have hli':¬(i:Int)<(i:Int):=Int.lt_irrefl _
      have HNF:Hid (N.map (·.x)=bestP (L.map (·.x))):=by have h:=HNx.out;rw [List.take_of_length_le (by rw [List.length_map,HKN.out];exact Nat.le_refl _),List.drop_of_length_le (by rw [List.length_map,HKN.out];exact Nat.le_refl _),List.append_nil,HKF.out] at h;exact h
      have hDr:wr.heap[D]?=some (.deferred (some [])):=HWN.out.b.t.heapN HD2.out
      go_wp2_with fail
      refine⟨by simp,.inl ⟨_,_,rfl,run_takeDeferred hDr,?_⟩⟩
      refine⟨_,results_tmp rfl _ _ _,?_⟩
      have tp:Touch (fun j=>j=D) wr (wr.putObj D (.deferred none)):=(Touch.refl _ _).grown (grownBy_putObj' wr D _) (fun j hj=>by cases hj;exact Or.inl rfl)
      have hDw:w.heap.size≤D:=by have h:=HW1.out;omega
      refine⟨_,N,L,rfl,⟨⟨Qab (Qak HWN.out.b.own HTW2.out.size) tp (fun j hj e=>by subst e;exact Qex HWN.out.b.own hDr rfl hj),(HTW2.out.trans HWN.out.b.t).trans' tp (fun j hj e=>by omega)⟩,fun y hy=>Qab (HWN.out.h y hy) tp (fun j hj e=>by subst e;exact Qex (HWN.out.h y hy) hDr rfl hj)⟩,HLP.out,?_,HNF.out⟩
      rw [List.pairwise_map]
      exact HLS.out
 case stop=>exact fun _ _ _ _ _ _ h _=>h.elim
end Go.Proofs.YtldmkoogghemhaaGreat
