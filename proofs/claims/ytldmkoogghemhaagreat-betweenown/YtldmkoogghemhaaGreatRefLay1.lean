import Derived.Test.YtldmkoogghemhaaGreatRefLay
import Derived.Deep.LoopGhost
import Derived.Deep.DeepCutAuto
namespace Go.Proofs.YtldmkoogghemhaaGreat
set_option maxHeartbeats 8000000
open Go.RowKit
set_option linter.unusedVariables false
set_option maxRecDepth 100000
structure LkD (w:World) (g:Nat) (x:LV):Prop where
 c0:w.cell? ⟨g,0,none⟩=some (.int .u32 x.id)
 c1:w.cell? ⟨g,1,none⟩=some (.int .u32 x.data)
 c2:w.cell? ⟨g,2,none⟩=some (.int .u8 x.typ)
 c3:w.cell? ⟨g,3,none⟩=some (.int .u16 x.cost)
theorem LkD.keep {w w':World} {g:Nat} {x:LV} (k:LkD w g x) (t:Touch (fun _=>False) w w'):LkD w' g x:=⟨t.cellN k.c0,t.cellN k.c1,t.cellN k.c2,t.cellN k.c3⟩
theorem LkD.new (w:World) (x:LV) (t:TypeId):LkD (w.alloc (.cells #[.int .u32 x.id,.int .u32 x.data,.int .u8 x.typ,.int .u16 x.cost] t)) w.heap.size x :=
 ⟨by simp [go_sem],by simp [go_sem],by simp [go_sem],by simp [go_sem]⟩
structure LkOff (w:World) (g:Nat) (x:LV) (v:Value):Prop where
 lk:LkD w g x
 off:v.ownBlock≠some g
theorem LkOff.keep {w w':World} {g:Nat} {x:LV} {v:Value} (k:LkOff w g x v) (t:Touch (fun _=>False) w w'):LkOff w' g x v:=⟨k.lk.keep t,k.off⟩
theorem LkOff.lt {w:World} {g:Nat} {x:LV} {v:Value} (k:LkOff w g x v):g<w.heap.size:=Qaa k.lk.c0
section
variable {ops:Array Oper} {rest:List Oper} {o:Oper} {a:Act} {Q:Exit→Act→World→Prop} {w:World}
theorem Qed (hgd:o.guard=none) (s x:Operand) (ho:o.op=.call { callee:=.builtin .append,args:=#[s,x],argTypes:=#[57,57] })
  (w0:World) (v:Value) (l:List Int) (hs:a.eval s=v) (hb:Buf w0 w v l) (vx:Value) (r:List Int) (hx:a.eval x=vx) (hr:ArgAt w vx r) (hl:l.length+r.length≤1099511627776) (g:Nat) (y:LV) (hk:LkOff w g y v)
  (h:∀v' w',Buf w0 w' v' (l++r)→LkOff w' g y v'→wpList Tryz.prog ops Q rest (a.put o.dst v') w'):wpList Tryz.prog ops Q (o::rest) a w:=by
 obtain⟨i0,hi,hz0,hz1,hz2⟩:=info_parts Tryz.info5w
 rcases hr with⟨rfl,rfl⟩|⟨ad,c,rfl,h1,h2,h3⟩
 ·refine wpList_append_own_none hgd s x 57 ho w0.heap.size 5 i0 1 Tryz.underlying57 hi v l.length (bytesOf l) hs hb.own hx ?_
  exact h v w (by rw [List.append_nil];exact hb) hk
 ·refine wpList_append_own_at w hgd s x 57 ho w0.heap.size 5 i0 (.int .u8 0) 1 1 Tryz.underlying57 hi hz0 hz1 hz2 rfl (by decide) v l.length (bytesOf l) hs hb.own ad r.length c (bytesOf r) hx (by simp [Qba]) h3 (Qa5 r) (by unfold maxLen;omega) (by omega) hb.t.size ?_
  intro v' w' hown hg _ hat
  have hlt:=hk.lt
  have hbl:w'.heap[g]?=w.heap[g]?:=hg.block g hlt (fun e=>hk.off e.symm)
  have hce:∀i:Nat,w'.cell? ⟨g,i,none⟩=w.cell? ⟨g,i,none⟩:=fun i=>World.cell?_of_block (w:=w) (a:=⟨g,i,none⟩) hbl
  refine h v' w' (hb.appended hown hg) ⟨⟨(hce 0).trans hk.lk.c0,(hce 1).trans hk.lk.c1,(hce 2).trans hk.lk.c2,(hce 3).trans hk.lk.c3⟩,?_⟩
  rcases hat with e|e
  ·rw [e];exact hk.off
  ·rw [e];intro e2;cases e2;omega
theorem Qfr (hgd:o.guard=none) (s x:Operand) (ho:o.op=.call { callee:=.builtin .append,args:=#[s,x],argTypes:=#[57,57] })
  (w0:World) (v:Value) (l:List Int) (hs:a.eval s=v) (hb:Buf w0 w v l) (y z:Int) (hx:a.eval x=.slice (some ⟨w.heap.size,0,none⟩) 2 2) (hl:l.length+2≤1099511627776) (g:Nat) (lk:LV) (hk:LkOff w g lk v)
  (h:∀v' w',Buf w0 w' v' (l++[y,z])→LkOff w' g lk v'→wpList Tryz.prog ops Q rest (a.put o.dst v') w'):wpList Tryz.prog ops Q (o::rest) a (w.alloc (.cells #[.int .u8 y,.int .u8 z] 5)) :=
 Qed hgd s x ho w0 v l hs (hb.keep ((Touch.refl _ w).alloc _)) _ [y,z] hx (Or.inr ⟨_,2,rfl,by simp,by simp [maxLen],fun j u hj=>by
  match j,hj with
  | 0,hj=>simp [bytesOf] at hj;subst hj;simp [go_sem,Addr.add]
  | 1,hj=>simp [bytesOf] at hj;subst hj;simp [go_sem,Addr.add]⟩) (by simp;omega) g lk (hk.keep ((Touch.refl _ w).alloc _)) h
end
theorem Qci {α:Type} {l:List α} {j:Nat} {x:α} (h:l[j]?=some x):l.take (j+1)=l.take j++[x]:=by rw [List.take_add_one,h];rfl
theorem Qlp (t:Int) (ht:t=2) (b:BV) (ok:b.Ok) (vl vr vd:Value) (w:World) (ha:BArg w b vl vr vd) (hb1:b.links.length≤8192) (hb2:b.routers.length≤32768) (hb3:b.data.length≤131072) :
  Calls Tryz.prog 66 #[.int .u8 t,b.v vl vr vd] w fun e w'=>∃v,e=.returned v∧Buf w w' v (numBytes 4 b.mask++routersB b.routers):=by
 obtain⟨al,cl,rfl,-⟩:=ValsAt.form ha.l
 obtain⟨ar,cr,rfl,-⟩:=ValsAt.form ha.r
 obtain⟨ad,cd,rfl,-⟩:=ArgAt.form ha.d
 have OK:Hid b.Ok:=ok
 have HA:Hid (BArg w b (.slice al b.links.length cl) (.slice ar b.routers.length cr) (.slice ad b.data.length cd)):=ha
 clear ok ha
 show Calls Tryz.prog 66 #[.int .u8 t,.agg #[.int .u8 b.flags,.slice al b.links.length cl,.int .u32 b.mask,.slice ar b.routers.length cr,.int .u32 b.metric,.bool b.type2,.int .u32 b.fwd,.int .u32 b.tag,.slice ad b.data.length cd]] w _
 subst ht
 go_enter Tryz.func66,Tryz.ntmps66
 go_wp2_with fail
 have K0:Hid (Bd (w.alloc (.cells #[.int .u8 b.flags,.slice al b.links.length cl,.int .u32 b.mask,.slice ar b.routers.length cr,.int .u32 b.metric,.bool b.type2,.int .u32 b.fwd,.int .u32 b.tag,.slice ad b.data.length cd] 92)) w.heap.size b (.slice al b.links.length cl) (.slice ar b.routers.length cr) (.slice ad b.data.length cd)):=Bd.new w b _ _ _ _
 have T0:Hid (Touch (fun _=>False) w (w.alloc (.cells #[.int .u8 b.flags,.slice al b.links.length cl,.int .u32 b.mask,.slice ar b.routers.length cr,.int .u32 b.metric,.bool b.type2,.int .u32 b.fwd,.int .u32 b.tag,.slice ad b.data.length cd] 92))):=(Touch.refl _ w).alloc _
 have A0:Hid (BArg (w.alloc (.cells #[.int .u8 b.flags,.slice al b.links.length cl,.int .u32 b.mask,.slice ar b.routers.length cr,.int .u32 b.metric,.bool b.type2,.int .u32 b.fwd,.int .u32 b.tag,.slice ad b.data.length cd] 92)) b (.slice al b.links.length cl) (.slice ar b.routers.length cr) (.slice ad b.data.length cd)):=HA.out.keep T0.out
 clear HA
 generalize w.alloc (.cells #[.int .u8 b.flags,.slice al b.links.length cl,.int .u32 b.mask,.slice ar b.routers.length cr,.int .u32 b.metric,.bool b.type2,.int .u32 b.fwd,.int .u32 b.tag,.slice ad b.data.length cd] 92)=wa at K0 T0 A0 ⊢
 generalize w.heap.size=g at K0 ⊢
 have B0:Hid (Buf wa wa (.slice none 0 0) []):=Buf.nil (Touch.refl _ _)
 refine Calls.mono (Qae b.mask _ OK.out.m.1 OK.out.m.2) ?_
 rintro e y0 ⟨u0v,rfl,d0⟩
 have D0:Hid (ArgAt y0 u0v (numBytes 4 b.mask)):=d0.arg
 have E0:Hid (Buf wa y0 _ ([])):=B0.out.keep d0.t
 obtain⟨c0,c1,c2,c3,c4,c5,c6,c7,c8⟩:=K0.out.keep E0.out.t
 clear d0 B0
 go_wp2_with (at_builtin;refine Qaj rfl (.tmp 63) (.tmp 66) rfl wa _ _ rfl E0.out _ _ rfl D0.out (by simp [numBytes]) ?_)
 intro v1 w1 b1
 clear D0 E0 c0 c1 c2 c3 c4 c5 c6 c7 c8
 have B1:Hid (Buf wa w1 v1 (numBytes 4 b.mask)):=b1
 clear b1
 obtain⟨c0,c1,c2,c3,c4,c5,c6,c7,c8⟩:=K0.out.keep B1.out.t
 go_wp2_with fail
 clear c0 c1 c2 c3 c4 c5 c6 c7 c8
 go_loopg [5,8] b.routers.length (fun gg l i wr=>∃j:Nat,j≤b.routers.length∧b.routers.length-j≤gg∧i=.int .i64 (j:Int)∧Hid (Buf wa wr l (numBytes 4 b.mask++routersB (b.routers.take j))))
 case atStart=>exact⟨0,Nat.zero_le _,by omega,rfl,by show Buf _ _ _ _;have:=B1.out;simpa [routersB] using this⟩
 case round =>
  obtain⟨j,hj,hg,rfl,B2⟩:=hrel
  obtain⟨c0,c1,c2,c3,c4,c5,c6,c7,c8⟩:=K0.out.keep B2.out.t
  rcases Nat.lt_or_ge j b.routers.length with hlt|hge
  ·have hlt':(j:Int)<(b.routers.length:Int):=by omega
   obtain⟨gr,off,cc,e,h1,h2,h3⟩:=ValsAt.cells (A0.out.r.keep B2.out.t) (by omega) (by decide)
   obtain⟨rfl,rfl⟩:ar=some ⟨gr,off,none⟩∧cr=cc:=by cases e;exact⟨rfl,rfl⟩
   obtain⟨x,hx⟩:∃x,b.routers[j]?=some x:=⟨_,List.getElem?_eq_getElem hlt⟩
   have HX:Hid (b.routers[j]?=some x):=hx
   have hxb:=OK.out.r x (List.mem_of_getElem? hx)
   have hc:=h3 j (.int .u32 x) (by simp [wordsC,hx])
   clear h3 e hx
   go_wp2_with fail
   refine Calls.mono (Qae x _ hxb.1 hxb.2) ?_
   rintro e y2 ⟨uv,rfl,d2⟩
   clear c0 c1 c2 c3 c4 c5 c6 c7 c8 hc
   have D2:Hid (ArgAt y2 uv (numBytes 4 x)):=d2.arg
   have E2:Hid (Buf wa y2 _ (numBytes 4 b.mask++routersB (b.routers.take j))):=B2.out.keep d2.t
   have hsz:Hid ((numBytes 4 b.mask++routersB (b.routers.take j)).length≤4+4*32768):=by
    show _≤_
    rw [List.length_append,Qb1,Qaf (by omega)]
    simp;omega
   clear d2 B2
   go_wp2_with (at_builtin;refine Qaj rfl (.tmp 75) (.tmp 81) rfl wa _ _ rfl E2.out _ _ rfl D2.out (by have:=hsz.out;rw [Qaf (by omega)];omega) ?_)
   intro v3 w3 b3
   have B3:Hid (Buf wa w3 v3 (numBytes 4 b.mask++routersB (b.routers.take (j+1)))):=by
    show Buf _ _ _ _
    rw [Qci HX.out,Qd5,←List.append_assoc]
    exact b3
   clear b3 D2 E2 hsz HX
   go_wp2_with fail
   go_roundg (b.routers.length-(j+1))
   case measure=>omega
   case rel=>exact⟨j+1,by omega,by omega,by go_num,B3⟩
  ·obtain rfl:j=b.routers.length:=by omega
   have hlt':¬(b.routers.length:Int)<(b.routers.length:Int):=by omega
   have B3:Hid (Buf wa wr u5 (numBytes 4 b.mask++routersB b.routers)):=by
    show Buf _ _ _ _
    have:=B2.out
    rw [List.take_length] at this
    exact this
   clear B2
   go_wp2_with fail
   go_ret
   exact⟨_,rfl,B3.out.back T0.out⟩
theorem Qkq (t:Int) (ht:t=1) (b:BV) (ok:b.Ok) (vl vr vd:Value) (w:World) (ha:BArg w b vl vr vd) (hb1:b.links.length≤8192) (hb2:b.routers.length≤32768) (hb3:b.data.length≤131072) :
  Calls Tryz.prog 66 #[.int .u8 t,b.v vl vr vd] w fun e w'=>∃v,e=.returned v∧Buf w w' v ([b.flags,0]++numBytes 2 ((b.links.length:Int)%65536)++linksB b.links):=by
 obtain⟨al,cl,rfl,-⟩:=ValsAt.form ha.l
 obtain⟨ar,cr,rfl,-⟩:=ValsAt.form ha.r
 obtain⟨ad,cd,rfl,-⟩:=ArgAt.form ha.d
 have OK:Hid b.Ok:=ok
 have HA:Hid (BArg w b (.slice al b.links.length cl) (.slice ar b.routers.length cr) (.slice ad b.data.length cd)):=ha
 clear ok ha
 show Calls Tryz.prog 66 #[.int .u8 t,.agg #[.int .u8 b.flags,.slice al b.links.length cl,.int .u32 b.mask,.slice ar b.routers.length cr,.int .u32 b.metric,.bool b.type2,.int .u32 b.fwd,.int .u32 b.tag,.slice ad b.data.length cd]] w _
 subst ht
 go_enter Tryz.func66,Tryz.ntmps66
 go_upto_region 5 with fail
 have HE:Hid ((b.links.length:Int)%65536=b.links.length):=by show _=_;omega
 have K0:Hid (Bd (w.alloc (.cells #[.int .u8 b.flags,.slice al b.links.length cl,.int .u32 b.mask,.slice ar b.routers.length cr,.int .u32 b.metric,.bool b.type2,.int .u32 b.fwd,.int .u32 b.tag,.slice ad b.data.length cd] 92)) w.heap.size b (.slice al b.links.length cl) (.slice ar b.routers.length cr) (.slice ad b.data.length cd)):=Bd.new w b _ _ _ _
 have T0:Hid (Touch (fun _=>False) w (w.alloc (.cells #[.int .u8 b.flags,.slice al b.links.length cl,.int .u32 b.mask,.slice ar b.routers.length cr,.int .u32 b.metric,.bool b.type2,.int .u32 b.fwd,.int .u32 b.tag,.slice ad b.data.length cd] 92))):=(Touch.refl _ w).alloc _
 have A0:Hid (BArg (w.alloc (.cells #[.int .u8 b.flags,.slice al b.links.length cl,.int .u32 b.mask,.slice ar b.routers.length cr,.int .u32 b.metric,.bool b.type2,.int .u32 b.fwd,.int .u32 b.tag,.slice ad b.data.length cd] 92)) b (.slice al b.links.length cl) (.slice ar b.routers.length cr) (.slice ad b.data.length cd)):=HA.out.keep T0.out
 clear HA
 generalize w.alloc (.cells #[.int .u8 b.flags,.slice al b.links.length cl,.int .u32 b.mask,.slice ar b.routers.length cr,.int .u32 b.metric,.bool b.type2,.int .u32 b.fwd,.int .u32 b.tag,.slice ad b.data.length cd] 92)=wa at K0 T0 A0 ⊢
 generalize w.heap.size=g at K0 ⊢
 have HB:Hid (Buf wa wa (.slice none 0 0) []):=Buf.nil (Touch.refl _ _)
 obtain⟨c0,c1,c2,c3,c4,c5,c6,c7,c8⟩:=K0.out
 go_wp2_with (at_builtin;refine Qjx rfl (.tmp 17) (.tmp 20) rfl wa _ _ rfl HB.out _ _ rfl (by simp) ?_)
 intro v1 w1 b1
 have B1:Hid (Buf wa w1 v1 [b.flags,0]):=b1
 clear b1 HB c0 c1 c2 c3 c4 c5 c6 c7 c8
 obtain⟨c0,c1,c2,c3,c4,c5,c6,c7,c8⟩:=K0.out.keep B1.out.t
 go_wp2_with fail
 refine Calls.mono (Qcq (b.links.length:Int) _ (by omega) (by omega)) ?_
 rintro e y1 ⟨u1v,rfl,d1⟩
 clear c0 c1 c2 c3 c4 c5 c6 c7 c8
 have D1:Hid (ArgAt y1 u1v (numBytes 2 (b.links.length:Int))):=d1.arg
 have E1:Hid (Buf wa y1 _ ([b.flags,0])):=B1.out.keep d1.t
 obtain⟨c0,c1,c2,c3,c4,c5,c6,c7,c8⟩:=K0.out.keep E1.out.t
 clear d1 B1
 go_wp2_with (at_builtin;refine Qaj rfl (.tmp 22) (.tmp 27) rfl wa _ _ rfl E1.out _ _ rfl D1.out (by simp [numBytes]) ?_)
 intro v2 w2 b2
 clear D1 E1 c0 c1 c2 c3 c4 c5 c6 c7 c8
 have B2:Hid (Buf wa w2 v2 ([b.flags,0]++numBytes 2 (b.links.length:Int))):=b2
 clear b2
 obtain⟨c0,c1,c2,c3,c4,c5,c6,c7,c8⟩:=K0.out.keep B2.out.t
 go_wp2_with fail
 clear c0 c1 c2 c3 c4 c5 c6 c7 c8
 go_loopg [5,6,7] b.links.length (fun gg l i _ wr=>∃j:Nat,j≤b.links.length∧b.links.length-j≤gg∧i=.int .i64 (j:Int)∧Hid (Buf wa wr l ([b.flags,0]++numBytes 2 (b.links.length:Int)++linksB (b.links.take j))))
 case atStart=>exact⟨0,Nat.zero_le _,by omega,rfl,by show Buf _ _ _ _;have:=B2.out;simpa [linksB] using this⟩
 case round =>
  obtain⟨j,hj,hg,rfl,B3⟩:=hrel
  obtain⟨c0,c1,c2,c3,c4,c5,c6,c7,c8⟩:=K0.out.keep B3.out.t
  rcases Nat.lt_or_ge j b.links.length with hlt|hge
  ·have hlt':(j:Int)<(b.links.length:Int):=by omega
   obtain⟨gr,off,cc,e,h1,h2,h3⟩:=ValsAt.cells (A0.out.l.keep B3.out.t) (by omega) (by decide)
   obtain⟨rfl,rfl⟩:al=some ⟨gr,off,none⟩∧cl=cc:=by cases e;exact⟨rfl,rfl⟩
   obtain⟨x,hx⟩:∃x,b.links[j]?=some x:=⟨_,List.getElem?_eq_getElem hlt⟩
   have HX:Hid (b.links[j]?=some x):=hx
   have HXB:Hid x.Ok:=OK.out.l x (List.mem_of_getElem? hx)
   have d0:wr.cell? ⟨gr,off+j*4,none⟩=some (.int .u32 x.id):=h3 (j*4+0) (.int .u32 x.id) (by rw [Qbn _ _ _ _ hx (by omega)];rfl)
   have d1:wr.cell? ⟨gr,off+j*4+1,none⟩=some (.int .u32 x.data):=h3 (j*4+1) (.int .u32 x.data) (by rw [Qbn _ _ _ _ hx (by omega)];rfl)
   have d2:wr.cell? ⟨gr,off+j*4+2,none⟩=some (.int .u8 x.typ):=h3 (j*4+2) (.int .u8 x.typ) (by rw [Qbn _ _ _ _ hx (by omega)];rfl)
   have d3:wr.cell? ⟨gr,off+j*4+3,none⟩=some (.int .u16 x.cost):=h3 (j*4+3) (.int .u16 x.cost) (by rw [Qbn _ _ _ _ hx (by omega)];rfl)
   clear h3 e hx
   go_upto_region 11 with fail
   have hoff:u5.ownBlock≠some wr.heap.size:=fun e=>by have:=(B3.out.own.lt _ e).2;omega
   have L3:Hid (LkOff (wr.alloc (.cells #[.int .u32 x.id,.int .u32 x.data,.int .u8 x.typ,.int .u16 x.cost] 140)) wr.heap.size x u5):=⟨LkD.new wr x _,hoff⟩
   have B4:Hid (Buf wa (wr.alloc (.cells #[.int .u32 x.id,.int .u32 x.data,.int .u8 x.typ,.int .u16 x.cost] 140)) u5 ([b.flags,0]++numBytes 2 (b.links.length:Int)++linksB (b.links.take j))):=B3.out.keep ((Touch.refl _ _).alloc _)
   have hsz:Hid (([b.flags,0]++numBytes 2 (b.links.length:Int)++linksB (b.links.take j)).length≤4+12*8192):=by
    show _≤_
    rw [List.length_append,List.length_append,Qcp,Qaf (by omega)]
    simp;omega
   clear hoff B3 d0 d1 d2 d3 c0 c1 c2 c3 c4 c5 c6 c7 c8
   generalize wr.alloc (.cells #[.int .u32 x.id,.int .u32 x.data,.int .u8 x.typ,.int .u16 x.cost] 140)=w4 at L3 B4 ⊢
   generalize wr.heap.size=xb at L3 ⊢
   obtain⟨⟨x0,x1,x2,x3⟩,-⟩:=L3.out
   go_wp2_with fail
   refine Calls.mono (Qae x.id _ HXB.out.i.1 HXB.out.i.2) ?_
   rintro e y4 ⟨u4v,rfl,d4⟩
   clear x0 x1 x2 x3
   have D4:Hid (ArgAt y4 u4v (numBytes 4 x.id)):=d4.arg
   have E4:Hid (Buf wa y4 _ ([b.flags,0]++numBytes 2 (b.links.length:Int)++linksB (b.links.take j))):=B4.out.keep d4.t
   have M4:Hid (LkOff y4 xb x _):=L3.out.keep d4.t
   clear d4 B4 L3
   go_wp2_with (at_builtin;refine Qed rfl (.tmp 41) (.tmp 44) rfl wa _ _ rfl E4.out _ _ rfl D4.out (by have:=hsz.out;simp only [List.length_append,Qaf (show 4≤4 by omega),Qaf (show 2≤4 by omega),List.length_cons,List.length_nil] at this ⊢;omega) _ _ M4.out ?_)
   intro v5 w5 b5 l5
   have B5:Hid (Buf wa w5 v5 ([b.flags,0]++numBytes 2 (b.links.length:Int)++linksB (b.links.take j)++numBytes 4 x.id)):=by show Buf _ _ _ _;simpa only [List.append_assoc,List.cons_append,List.nil_append] using b5
   have L4:Hid (LkOff w5 xb x v5):=l5
   clear D4 E4 M4 b5 l5
   obtain⟨⟨x0,x1,x2,x3⟩,-⟩:=L4.out
   go_wp2_with fail
   refine Calls.mono (Qae x.data _ HXB.out.d.1 HXB.out.d.2) ?_
   rintro e y5 ⟨u5v,rfl,d5⟩
   clear x0 x1 x2 x3
   have D5:Hid (ArgAt y5 u5v (numBytes 4 x.data)):=d5.arg
   have E5:Hid (Buf wa y5 _ ([b.flags,0]++numBytes 2 (b.links.length:Int)++linksB (b.links.take j)++numBytes 4 x.id)):=B5.out.keep d5.t
   have M5:Hid (LkOff y5 xb x _):=L4.out.keep d5.t
   clear d5 B5 L4
   go_wp2_with (at_builtin;refine Qed rfl (.tmp 46) (.tmp 49) rfl wa _ _ rfl E5.out _ _ rfl D5.out (by have:=hsz.out;simp only [List.length_append,Qaf (show 4≤4 by omega),Qaf (show 2≤4 by omega),List.length_cons,List.length_nil] at this ⊢;omega) _ _ M5.out ?_)
   intro v6 w6 b6 l6
   have B6:Hid (Buf wa w6 v6 ([b.flags,0]++numBytes 2 (b.links.length:Int)++linksB (b.links.take j)++numBytes 4 x.id++numBytes 4 x.data)):=by show Buf _ _ _ _;simpa only [List.append_assoc,List.cons_append,List.nil_append] using b6
   have L5:Hid (LkOff w6 xb x v6):=l6
   clear D5 E5 M5 b6 l6
   obtain⟨⟨x0,x1,x2,x3⟩,-⟩:=L5.out
   go_wp2_with (at_builtin;refine Qfr rfl (.tmp 51) (.tmp 54) rfl wa _ _ rfl B6.out _ _ rfl (by have:=hsz.out;simp only [List.length_append,Qaf (show 4≤4 by omega),Qaf (show 2≤4 by omega),List.length_cons,List.length_nil] at this ⊢;omega) _ _ L5.out ?_)
   intro v7 w7 b7 l7
   have B7:Hid (Buf wa w7 v7 ([b.flags,0]++numBytes 2 (b.links.length:Int)++linksB (b.links.take j)++numBytes 4 x.id++numBytes 4 x.data++[x.typ,0])):=by show Buf _ _ _ _;simpa only [List.append_assoc,List.cons_append,List.nil_append] using b7
   have L6:Hid (LkOff w7 xb x v7):=l7
   clear b7 l7 B6 L5 x0 x1 x2 x3
   obtain⟨⟨x0,x1,x2,x3⟩,-⟩:=L6.out
   go_wp2_with fail
   refine Calls.mono (Qcq x.cost _ HXB.out.c.1 HXB.out.c.2) ?_
   rintro e y7 ⟨u7v,rfl,d7⟩
   clear x0 x1 x2 x3
   have D7:Hid (ArgAt y7 u7v (numBytes 2 x.cost)):=d7.arg
   have E7:Hid (Buf wa y7 _ ([b.flags,0]++numBytes 2 (b.links.length:Int)++linksB (b.links.take j)++numBytes 4 x.id++numBytes 4 x.data++[x.typ,0])):=B7.out.keep d7.t
   have M7:Hid (LkOff y7 xb x _):=L6.out.keep d7.t
   clear d7 B7 L6
   go_wp2_with (at_builtin;refine Qed rfl (.tmp 56) (.tmp 59) rfl wa _ _ rfl E7.out _ _ rfl D7.out (by have:=hsz.out;simp only [List.length_append,Qaf (show 4≤4 by omega),Qaf (show 2≤4 by omega),List.length_cons,List.length_nil] at this ⊢;omega) _ _ M7.out ?_)
   intro v8 w8 b8 l8
   have B8:Hid (Buf wa w8 v8 ([b.flags,0]++numBytes 2 (b.links.length:Int)++linksB (b.links.take j)++numBytes 4 x.id++numBytes 4 x.data++[x.typ,0]++numBytes 2 x.cost)):=by show Buf _ _ _ _;simpa only [List.append_assoc,List.cons_append,List.nil_append] using b8
   have L7:Hid (LkOff w8 xb x v8):=l8
   clear D7 E7 M7 b8 l8
   have B9:Hid (Buf wa w8 v8 ([b.flags,0]++numBytes 2 (b.links.length:Int)++linksB (b.links.take (j+1)))):=by
    show Buf _ _ _ _
    have:=B8.out
    rw [Qci HX.out,Qgm]
    unfold linkB
    simp only [List.append_assoc] at this ⊢
    exact this
   clear B8 L7 hsz HX
   go_wp2_with fail
   go_roundg (b.links.length-(j+1))
   case measure=>omega
   case rel=>exact⟨j+1,by omega,by omega,by go_num,B9⟩
  ·obtain rfl:j=b.links.length:=by omega
   have hlt':¬(b.links.length:Int)<(b.links.length:Int):=by omega
   have B4:Hid (Buf wa wr u5 ([b.flags,0]++numBytes 2 (b.links.length:Int)++linksB b.links)):=by
    show Buf _ _ _ _
    have:=B3.out
    rw [List.take_length] at this
    exact this
   clear B3
   go_wp2_with fail
   go_ret
   exact⟨_,rfl,by rw [HE.out];exact B4.out.back T0.out⟩
end Go.Proofs.YtldmkoogghemhaaGreat
