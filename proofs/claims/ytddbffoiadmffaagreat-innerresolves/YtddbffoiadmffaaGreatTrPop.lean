import Derived.Test.YtddbffoiadmffaaGreatTrUp
import Derived.Maps.AppendAt
import Derived.Deep.RegionLaw
namespace Go.Proofs.YtddbffoiadmffaaGreat
set_option maxHeartbeats 8000000
open Go.RowKit
set_option linter.unusedVariables false
set_option maxRecDepth 100000
structure DnR (w:World) (b:Nat) (v:Value) (B:Nat) (l:List Sp) (N i0:Nat) (w':World) (t:Nat):Prop where
 out:∃l',Laid w b v B l N w' l'∧t<N∧((t=i0∧l'=l∧FixI N (gt l) i0)∨(i0<t∧DnI N (gt l') t))
theorem DnR.fix {N i0 t:Nat} {l l':List Sp} (h:(t=i0∧l'=l∧FixI N (gt l) i0)∨(i0<t∧DnI N (gt l') t)):FixI N (gt l') t∧i0≤t:=by
 rcases h with⟨rfl,rfl,h⟩|⟨h0,h⟩
 ·exact⟨h,Nat.le_refl _⟩
 ·exact⟨h.fix,by omega⟩
structure DnP (w:World) (b:Nat) (v:Value) (B:Nat) (l:List Sp) (N i0:Nat) (e:Ending) (w':World):Prop where
 out:∃l' z,e=.returned (.bool z)∧Laid w b v B l N w' l'∧((z=true∧HP N (gt l'))∨(z=false∧l'=l∧UpI N (gt l) i0))
theorem DnR.end {w:World} {b:Nat} {v:Value} {B:Nat} {l:List Sp} {N i0:Nat} {w':World} {t:Nat} {l':List Sp} (L:Laid w b v B l N w' l')
  (h:(t=i0∧l'=l∧FixI N (gt l) i0)∨(i0<t∧DnI N (gt l') t)) (hc:∀c,0<c→c<N→(c-1)/2=t→(gt l' t).le (gt l' c)) (z:Bool) (hz:z=decide (i0<t)):DnP w b v B l N i0 (.returned (.bool z)) w':=by
 refine⟨l',z,rfl,L,?_⟩
 rcases h with⟨rfl,rfl,h⟩|⟨h0,h⟩
 ·exact Or.inr ⟨by rw [hz];simp,rfl,Qv5 h hc⟩
 ·exact Or.inl ⟨by rw [hz];simpa using h0,Qv6 h hc⟩
theorem Qpt (w:World) (b:Nat) (v:Value) (B:Nat) (l:List Sp) (P:LS w b v B l) (N:Nat) (hN:N≤l.length) (i0:Nat) (hi:i0<N) (F:FixI N (gt l) i0) :
  Calls Tryz.prog 155 #[.iface 211 (.pointer (some ⟨b,0,none⟩)),.int .i64 i0,.int .i64 N] w (DnP w b v B l N i0):=by
 have hl:=P.hl
 have R0:DnR w b v B l N i0 w i0:=⟨l,Laid.start P N,hi,Or.inl ⟨rfl,rfl,F⟩⟩
 have HR:Hid _:=R0
 have HL:Hid (l.length≤1099511627776):=hl
 have HN:Hid (N≤l.length):=hN
 have HI:Hid (i0<N):=hi
 have hN2:(N:Int)≤1099511627776:=by omega
 have hi2:(i0:Int)≤1099511627776:=by omega
 clear P F hl hN R0 hi
 go_enter Tryz.func155,Tryz.ntmps155
 go_wp2_with fail
 go_loopw [7] (fun s7 wx=>∃t:Nat,s7=.int .i64 t∧DnR w b v B l N i0 wx t) (fun s7 _=>N-(intOf s7).toNat)
 case atStart=>exact⟨i0,rfl,HR.out⟩
 case round =>
  clear HR
  obtain⟨t,rfl,⟨l',L,ht,D⟩⟩:=hrel
  have hlt:(t:Int)≤1099511627776:=by omega
  have t0:(0:Int)≤(t:Int):=by omega
  have hlen:Hid (N≤l'.length):=Nat.le_trans HN.out (Nat.le_of_eq L.len.symm)
  have hF:=(DnR.fix D).1
  have hge:=(DnR.fix D).2
  have HD:Hid _:=D
  have LL:Hid _:=L
  clear D L
  by_cases hA:2*t+1<N
  ·have hA1:2*(t:Int)+1<(N:Int):=by omega
   have htl:t<l'.length:=by have:=hlen.out;omega
   have HT:Hid (t<N):=ht
   have HA:Hid (2*t+1<N):=hA
   have HF:Hid _:=hF
   have HG:Hid (i0≤t):=hge
   clear ht hA hF hge
   by_cases hB:2*t+2<N
   ·have hB1:2*(t:Int)+1+1<(N:Int):=by omega
    have HB0:Hid (2*t+2<N):=hB
    by_cases hs:(gt l' (2*t+2)).lt (gt l' (2*t+1))
    ·have HM:Hid (∀c,0<c→c<N→(c-1)/2=t→(gt l' (2*t+2)).le (gt l' c)):=by
      intro c c0 cn ce
      rcases (by omega:c=2*t+1∨c=2*t+2) with rfl|rfl
      ·exact Qe1 hs
      ·exact Qeh _
     have HS:Hid _:=hs
     clear hs hB
     have m1:=Qcf b v wr LL.out.ps.c0
     go_wp2_with fail
     refine Calls.mono (Qbq wr b v B l' LL.out.ps (2*t+2) (2*t+1) _ _ (by omega) (by omega) (by have:=hlen.out;have:=HB0.out;omega) (by have:=hlen.out;have:=HA.out;omega) true (Qde HS.out)) ?_
     rintro e wx ⟨rfl,tx⟩
     have LX:=LL.out.keep tx
     have m2:=Qcf b v wx LX.ps.c0
     go_wp2_with fail
     by_cases hb:(gt l' (2*t+2)).lt (gt l' t)
     ·have HpB:Hid _:=hb
      clear hb
      refine Calls.mono (Qbq wx b v B l' LX.ps (2*t+2) t _ _ (by omega) rfl (by have:=hlen.out;have:=HB0.out;omega) htl true (Qde HpB.out)) ?_
      rintro e wy ⟨rfl,ty⟩
      have LY:=LX.keep ty
      have m3:=Qcu b v wy LY.ps.c0
      go_wp2_with fail
      refine Calls.mono (Qdv wy b v B l' LY.ps t (2*t+2) _ _ rfl (by omega) htl (by have:=hlen.out;have:=HB0.out;omega)) ?_
      rintro e wz sz
      have es:=sz.e
      subst es
      have LZ:=LY.swap (by have:=LY.len;omega) (by have:=LY.len;have:=hlen.out;have:=HB0.out;omega) HT.out (by have:=HB0.out;omega) sz
      have DZ:DnI N (gt (sw l' t (2*t+2))) (2*t+2):=Qix HF.out (by omega) (by omega) (by have:=HB0.out;omega) HpB.out HM.out (fun k=>Qjd htl (by have:=hlen.out;have:=HB0.out;omega) k)
      clear sz
      have LW:Hid _:=LZ
      clear LZ LY LX
      go_wp2_with fail
      go_roundw
      case rel=>exact⟨2*t+2,by go_num,⟨_,LW.out,by have:=HB0.out;omega,Or.inr ⟨by have:=HG.out;omega,DZ⟩⟩⟩
      case measure=>have:=HA.out;simp [intOf];omega
     ·have HpB:Hid _:=hb
      clear hb
      refine Calls.mono (Qbq wx b v B l' LX.ps (2*t+2) t _ _ (by omega) rfl (by have:=hlen.out;have:=HB0.out;omega) htl false (Qct HpB.out)) ?_
      rintro e wy ⟨rfl,ty⟩
      have LY:Hid _:=LX.keep ty
      clear LX
      go_wp2_with fail
      go_ret
      exact DnR.end LY.out HD.out (fun c c0 cn ce=>Qa8 HpB.out (HM.out c c0 cn ce)) _ (by simp)
    ·have HM:Hid (∀c,0<c→c<N→(c-1)/2=t→(gt l' (2*t+1)).le (gt l' c)):=by
      intro c c0 cn ce
      rcases (by omega:c=2*t+1∨c=2*t+2) with rfl|rfl
      ·exact Qeh _
      ·exact hs
     have HS:Hid _:=hs
     clear hs hB
     have m1:=Qcf b v wr LL.out.ps.c0
     go_wp2_with fail
     refine Calls.mono (Qbq wr b v B l' LL.out.ps (2*t+2) (2*t+1) _ _ (by omega) (by omega) (by have:=hlen.out;have:=HB0.out;omega) (by have:=hlen.out;have:=HA.out;omega) false (Qct HS.out)) ?_
     rintro e wx ⟨rfl,tx⟩
     have LX:=LL.out.keep tx
     have m2:=Qcf b v wx LX.ps.c0
     go_wp2_with fail
     by_cases hb:(gt l' (2*t+1)).lt (gt l' t)
     ·have HpB:Hid _:=hb
      clear hb
      refine Calls.mono (Qbq wx b v B l' LX.ps (2*t+1) t _ _ (by omega) rfl (by have:=hlen.out;have:=HA.out;omega) htl true (Qde HpB.out)) ?_
      rintro e wy ⟨rfl,ty⟩
      have LY:=LX.keep ty
      have m3:=Qcu b v wy LY.ps.c0
      go_wp2_with fail
      refine Calls.mono (Qdv wy b v B l' LY.ps t (2*t+1) _ _ rfl (by omega) htl (by have:=hlen.out;have:=HA.out;omega)) ?_
      rintro e wz sz
      have es:=sz.e
      subst es
      have LZ:=LY.swap (by have:=LY.len;omega) (by have:=LY.len;have:=hlen.out;have:=HA.out;omega) HT.out (by have:=HA.out;omega) sz
      have DZ:DnI N (gt (sw l' t (2*t+1))) (2*t+1):=Qix HF.out (by omega) (by omega) (by have:=HA.out;omega) HpB.out HM.out (fun k=>Qjd htl (by have:=hlen.out;have:=HA.out;omega) k)
      clear sz
      have LW:Hid _:=LZ
      clear LZ LY LX
      go_wp2_with fail
      go_roundw
      case rel=>exact⟨2*t+1,by go_num,⟨_,LW.out,by have:=HA.out;omega,Or.inr ⟨by have:=HG.out;omega,DZ⟩⟩⟩
      case measure=>have:=HA.out;simp [intOf];omega
     ·have HpB:Hid _:=hb
      clear hb
      refine Calls.mono (Qbq wx b v B l' LX.ps (2*t+1) t _ _ (by omega) rfl (by have:=hlen.out;have:=HA.out;omega) htl false (Qct HpB.out)) ?_
      rintro e wy ⟨rfl,ty⟩
      have LY:Hid _:=LX.keep ty
      clear LX
      go_wp2_with fail
      go_ret
      exact DnR.end LY.out HD.out (fun c c0 cn ce=>Qa8 HpB.out (HM.out c c0 cn ce)) _ (by simp)
   ·have hB1:¬2*(t:Int)+1+1<(N:Int):=by omega
    have HM:Hid (∀c,0<c→c<N→(c-1)/2=t→(gt l' (2*t+1)).le (gt l' c)):=by
     intro c c0 cn ce
     rcases (by omega:c=2*t+1) with rfl
     exact Qeh _
    clear hB
    have LX:=LL.out
    have m2:=Qcf b v wr LX.ps.c0
    go_wp2_with fail
    by_cases hb:(gt l' (2*t+1)).lt (gt l' t)
    ·have HpB:Hid _:=hb
     clear hb
     refine Calls.mono (Qbq wr b v B l' LX.ps (2*t+1) t _ _ (by omega) rfl (by have:=hlen.out;have:=HA.out;omega) htl true (Qde HpB.out)) ?_
     rintro e wy ⟨rfl,ty⟩
     have LY:=LX.keep ty
     have m3:=Qcu b v wy LY.ps.c0
     go_wp2_with fail
     refine Calls.mono (Qdv wy b v B l' LY.ps t (2*t+1) _ _ rfl (by omega) htl (by have:=hlen.out;have:=HA.out;omega)) ?_
     rintro e wz sz
     have es:=sz.e
     subst es
     have LZ:=LY.swap (by have:=LY.len;omega) (by have:=LY.len;have:=hlen.out;have:=HA.out;omega) HT.out (by have:=HA.out;omega) sz
     have DZ:DnI N (gt (sw l' t (2*t+1))) (2*t+1):=Qix HF.out (by omega) (by omega) (by have:=HA.out;omega) HpB.out HM.out (fun k=>Qjd htl (by have:=hlen.out;have:=HA.out;omega) k)
     clear sz
     have LW:Hid _:=LZ
     clear LZ LY LX
     go_wp2_with fail
     go_roundw
     case rel=>exact⟨2*t+1,by go_num,⟨_,LW.out,by have:=HA.out;omega,Or.inr ⟨by have:=HG.out;omega,DZ⟩⟩⟩
     case measure=>have:=HA.out;simp [intOf];omega
    ·have HpB:Hid _:=hb
     clear hb
     refine Calls.mono (Qbq wr b v B l' LX.ps (2*t+1) t _ _ (by omega) rfl (by have:=hlen.out;have:=HA.out;omega) htl false (Qct HpB.out)) ?_
     rintro e wy ⟨rfl,ty⟩
     have LY:Hid _:=LX.keep ty
     clear LX
     go_wp2_with fail
     go_ret
     exact DnR.end LY.out HD.out (fun c c0 cn ce=>Qa8 HpB.out (HM.out c c0 cn ce)) _ (by simp)
  ·have hA1:¬2*(t:Int)+1<(N:Int):=by omega
   clear hF
   go_wp2_with fail
   go_ret
   exact DnR.end LL.out HD.out (fun c c0 cn ce=>by omega) _ (by simp)
theorem infoSt:(Tryz.prog.info? 154).map (fun i=>(i.zero,i.size,i.bytes))=some (some (.agg #[.int .i64 0,.int .u32 0,.int .u32 0,.int .u32 0,.bool false]),5,24):=by kernel_rfl
theorem infoParts {x:Option TypeInfo} {z:Value} {k b:Nat} (h:x.map (fun i=>(i.zero,i.size,i.bytes))=some (some z,k,b)):∃i,x=some i∧i.zero=some z∧i.size=k∧i.bytes=b:=by
 cases x with
 | none=>cases h
 | some i=>simp at h;exact⟨i,rfl,h.1,h.2.1,h.2.2⟩
theorem Qe5 {P:Program} {w:World} {ops:Array Oper} {o:Oper} {a:Act} {K:Act→World→Prop} {Q:Exit→Act→World→Prop} {E:Prop} (hgd:o.guard=none) (s x:Operand) (t:TypeId)
  (ho:o.op=.call { callee:=.builtin .append,args:=#[s,x],argTypes:=#[t,t] }) (v y v':Value) (w':World) (hs:a.eval s=v) (hx:a.eval x=y)
  (hr:(Builtin.append_ #[t,t] o.type #[v,y]).run P w=.ok v' w') (h:K (a.put o.dst v') w'):if Region.wanted o (yielded ops a.tmps)=true then Oper.wp P o a w K Q else E:=by
 have hw:Region.wanted o (yielded ops a.tmps)=true:=by simp [Region.wanted,hgd]
 rw [if_pos hw]
 unfold Oper.wp execOp
 simp only [ho,resolve,invoke,builtin,Sem.run_bind,Sem.run_pure,Result.andThen_ok,List.map_toArray,List.map_cons,List.map_nil,hs,hx,hr]
 exact h
theorem Qfh (x:Sp) (w:World):(Instr.typeAssert (.iface 154 (.agg #[.int .i64 x.node,.int .u32 x.cost,.int .u32 x.h.out,.int .u32 x.h.via,.bool x.h.vr])) 20 154 true).run Tryz.prog w=.ok (.tuple #[.agg #[.int .i64 x.node,.int .u32 x.cost,.int .u32 x.h.out,.int .u32 x.h.via,.bool x.h.vr],.bool true]) w:=by rfl
theorem Qm8 {w:World} {base e k n:Nat} {v:Value} {xs:List Value} (h:w.ownsRow base e k v n xs):∃a c,v=.slice a n c:=by
 obtain⟨h1,⟨h2,h3⟩|⟨g,cap,cur,hv,_⟩⟩:=h
 ·exact⟨none,0,by rw [h2,h3]⟩
 ·exact⟨_,_,hv⟩
structure TouchB (b:Nat) (F:Nat→Prop) (w w':World):Prop where
 t:Touch (fun k=>k=b∨F k) w w'
 rest:∀o,o≠0→w'.cell? ⟨b,o,none⟩=w.cell? ⟨b,o,none⟩
theorem TouchB.of {b:Nat} {F:Nat→Prop} {w w':World} (h:Touch F w w') (hb:b<w.heap.size) (hn:¬F b):TouchB b F w w':=⟨h.mono (fun _ _ e=>Or.inr e),fun o _=>h.cell (p:=⟨b,o,none⟩) hb hn⟩
theorem TouchB.trans {b:Nat} {F G:Nat→Prop} {w w' w'':World} (h:TouchB b F w w') (k:TouchB b G w' w'') (hG:∀i,i<w.heap.size→G i→F i):TouchB b F w w'' :=
 ⟨h.t.trans' k.t (fun i hi e=>e.elim Or.inl (fun e=>Or.inr (hG i hi e))),fun o ho=>(k.rest o ho).trans (h.rest o ho)⟩
structure PushP (w:World) (b:Nat) (v:Value) (B:Nat) (l:List Sp) (x:Sp) (e:Ending) (w':World):Prop where
 e:e=.returned (.tuple #[])
 out:∃v',LS w' b v' B (l++[x])∧(v'.ownBlock=v.ownBlock∨∃g,v'.ownBlock=some g∧w.heap.size≤g)
 t:TouchB b (fun k=>v.ownBlock=some k) w w'
theorem Qn7 (w:World) (b:Nat) (v:Value) (B:Nat) (l:List Sp) (P:LS w b v B l) (x:Sp) (hB:B≤w.heap.size) (hl:l.length+1≤1099511627776) :
  Calls Tryz.prog 272 #[.pointer (some ⟨b,0,none⟩),.iface 154 (.agg #[.int .i64 x.node,.int .u32 x.cost,.int .u32 x.h.out,.int .u32 x.h.via,.bool x.h.vr])] w (PushP w b v B l x):=by
 obtain⟨c0,f0,re,bv,hl2⟩:=P
 have hb:=Qaa c0
 obtain⟨va,vc,rfl⟩:=re.shape
 have hta:=Qfh x
 obtain⟨i0,hi0,hz0,hz1,hz2⟩:=infoParts infoSt
 go_enter Tryz.func272,Tryz.ntmps272
 go_wp2_with fail
 have T:Touch (fun _=>False) w (w.alloc (.cells #[.int .i64 x.node,.int .u32 x.cost,.int .u32 x.h.out,.int .u32 x.h.via,.bool x.h.vr] 154)):=(Touch.refl _ _).alloc _
 have R0:Row (w.alloc (.cells #[.int .i64 x.node,.int .u32 x.cost,.int .u32 x.h.out,.int .u32 x.h.via,.bool x.h.vr] 154)) w.heap.size 154 x.cs:=Qac w _ _
 generalize w.alloc (.cells #[.int .i64 x.node,.int .u32 x.cost,.int .u32 x.h.out,.int .u32 x.h.via,.bool x.h.vr] 154)=wa at T R0 ⊢
 have hbw:b<wa.heap.size:=Nat.lt_of_lt_of_le hb T.size
 have d0:=T.cellN c0
 have g0:=(T.frozen (p:=⟨b,0,none⟩) hb (fun h=>h)).trans f0
 have y0:wa.cell? ⟨w.heap.size,0,none⟩=some (.int .i64 x.node):=R0.cell 0
 have y1:wa.cell? ⟨w.heap.size,1,none⟩=some (.int .u32 x.cost):=R0.cell 1
 have y2:wa.cell? ⟨w.heap.size,2,none⟩=some (.int .u32 x.h.out):=R0.cell 2
 have y3:wa.cell? ⟨w.heap.size,3,none⟩=some (.int .u32 x.h.via):=R0.cell 3
 have y4:wa.cell? ⟨w.heap.size,4,none⟩=some (.bool x.h.vr):=R0.cell 4
 have T1:Touch (fun _=>False) wa (wa.alloc (.cells #[.int .i64 x.node,.int .u32 x.cost,.int .u32 x.h.out,.int .u32 x.h.via,.bool x.h.vr] 154)).drew:=((Touch.refl _ _).alloc _).drew
 have RW:RS B (wa.alloc (.cells #[.int .i64 x.node,.int .u32 x.cost,.int .u32 x.h.out,.int .u32 x.h.via,.bool x.h.vr] 154)).drew (.slice va l.length vc) l:=(re.keepN T).keepN T1
 obtain⟨v',w2,hrun,own2,grown2,-,hat⟩:=run_append_own_at (P:=Tryz.prog) ((wa.alloc (.cells #[.int .i64 x.node,.int .u32 x.cost,.int .u32 x.h.out,.int .u32 x.h.via,.bool x.h.vr] 154)).drew) B 147 147 154 i0 _ 5 24 Tryz.underlying147 hi0 hz0 hz1 hz2 rfl (by omega)
  (.slice va l.length vc) l.length (cellsG Sp.cs l) RW ⟨wa.heap.size,0,none⟩ 1 1 x.cs rfl (fun j u hj=>by
   rcases (by have:=(List.getElem?_eq_some_iff.1 hj).1;simp [Sp.cs] at this;omega:j=0∨j=1∨j=2∨j=3∨j=4) with rfl|rfl|rfl|rfl|rfl <;> (simp [Sp.cs] at hj;subst hj;simp [Addr.add,go_sem])) (fun u hu=>by simp [Sp.cs] at hu;rcases hu with rfl|rfl|rfl|rfl|rfl <;> rfl) (by unfold maxLen;omega) (by omega) (Nat.le_trans hB (Nat.le_trans T.size T1.size))
 obtain⟨ua,uc,rfl⟩:=Qm8 own2
 have t2:Touch (fun k=>Value.ownBlock (.slice va l.length vc)=some k) ((wa.alloc (.cells #[.int .i64 x.node,.int .u32 x.cost,.int .u32 x.h.out,.int .u32 x.h.via,.bool x.h.vr] 154)).drew) w2:=Touch.grown (Touch.refl _ _) grown2 (fun k hk=>Or.inl hk)
 have hbW:b<((wa.alloc (.cells #[.int .i64 x.node,.int .u32 x.cost,.int .u32 x.h.out,.int .u32 x.h.via,.bool x.h.vr] 154)).drew).heap.size:=Nat.lt_of_lt_of_le hbw T1.size
 have e0:=(t2.cell (p:=⟨b,0,none⟩) hbW bv).trans (T1.cellN d0)
 have e1:=(t2.frozen (p:=⟨b,0,none⟩) hbW bv).trans ((T1.frozen (p:=⟨b,0,none⟩) hbw (fun h=>h)).trans g0)
 have hb2:b<w2.heap.size:=Qaa e0
 have hlen1:(l++[x]).length=l.length+1:=by simp
 have hcel:cellsG Sp.cs (l++[x])=cellsG Sp.cs l++x.cs:=by rw [Qaq];simp [cellsG]
 have hvb:Value.ownBlock (.slice ua (l.length+1) uc)≠some b:=by
  rcases hat with e|e
  ·rw [e];exact bv
  ·rw [e];intro e';injection e' with e';omega
 have TT:Touch (fun k=>Value.ownBlock (.slice va l.length vc)=some k) w w2:=((T.trans T1).mono (fun _ _ h=>h.elim)).trans' t2 (fun _ _ h=>h)
 have ts:Touch (fun k=>k=b) w2 (w2.setCell ⟨b,0,none⟩ (.slice ua (l.length+1) uc)):=Touch.setCell (F:=fun k=>k=b) (p:=⟨b,0,none⟩) (Touch.refl _ _) (Or.inl rfl) _
 have FIN:Hid (PushP w b (.slice va l.length vc) B l x (.returned (.tuple #[])) (w2.setCell ⟨b,0,none⟩ (.slice ua (l.length+1) uc))):=by
  refine⟨rfl,⟨.slice ua (l.length+1) uc,⟨?_,?_,?_,hvb,by omega⟩,?_⟩,⟨?_,?_⟩⟩
  ·simp [go_sem,e0]
  ·simpa [go_sem] using e1
  ·unfold RS RG
   rw [hlen1,hcel]
   exact Qab own2 ts (fun k hk e=>hvb (by rw [hk,e]))
  ·rcases hat with e|e
   ·exact Or.inl e
   ·exact Or.inr ⟨_,e,by have:=T1.size;have:=T.size;omega⟩
  ·exact (TT.mono (fun _ _ h=>Or.inr h)).trans (ts.mono (fun _ _ e=>Or.inl e))
  ·intro o ho
   have h1:(w2.setCell ⟨b,0,none⟩ (.slice ua (l.length+1) uc)).cell? ⟨b,o,none⟩=w2.cell? ⟨b,o,none⟩:=by simp [go_sem]
   rw [h1]
   exact TT.cell (p:=⟨b,o,none⟩) hb bv
 clear TT ts t2 hcel hlen1 own2 grown2 hat RW re T1 T hi0 hz0 hz1 hz2 R0 hta hvb
 go_region_law (refine Qe5 rfl (.tmp 15) (.tmp 17) 147 rfl _ _ _ _ (by rfl) (by rfl) hrun ?_)
 all_goals go_wp2_with fail
 all_goals exact bodyPost_end (results_none rfl _ _ _) rfl FIN.out
structure PopP (w:World) (b:Nat) (v:Value) (B:Nat) (l:List Sp) (k:Nat) (e:Ending) (w':World):Prop where
 e:e=.returned (.iface 154 (gt l k).v)
 out:∃v',LS w' b v' B (l.take k)∧v'.ownBlock=v.ownBlock
 t:TouchB b (fun _=>False) w w'
theorem Qjz (w:World) (b:Nat) (v:Value) (B:Nat) (l:List Sp) (P:LS w b v B l) (k:Nat) (hk:l.length=k+1) :
  Calls Tryz.prog 271 #[.pointer (some ⟨b,0,none⟩)] w (PopP w b v B l k):=by
 obtain⟨c0,f0,re,bv,hl2⟩:=P
 have hb:=Qaa c0
 obtain⟨g,cap,rfl,hcap,hg,hBg⟩:=re.form (by omega)
 obtain⟨x0,x1,x2,x3,x4⟩:=RS.cells re (i:=k) (Qd5 (by omega))
 have RE0:Hid (RS B w (.slice (some ⟨g,0,none⟩) l.length cap) l):=re
 clear re
 have hbg:b≠g:=fun e=>bv (by subst e;rfl)
 have hLk:(l.length:Int)=(k:Int)+1:=by omega
 have k0:(0:Int)≤(k:Int):=by omega
 have k2:(k:Int)≤1099511627776:=by omega
 have kc:(k:Int)≤(cap:Int):=by omega
 have kL:(k:Int)<(l.length:Int):=by omega
 have hc:cap≠k:=by omega
 have FIN:Hid (∀cs T,PopP w b (.slice (some ⟨g,0,none⟩) l.length cap) B l k (.returned (.iface 154 (gt l k).v)) ((w.setCell ⟨b,0,none⟩ (.slice (some ⟨g,0,none⟩) k cap)).alloc (.cells cs T))):=by
  intro cs T
  have ts:Touch (fun k=>k=b) w ((w.setCell ⟨b,0,none⟩ (.slice (some ⟨g,0,none⟩) k cap)).alloc (.cells cs T)):=((Touch.refl (fun k=>k=b) w).setCell (p:=⟨b,0,none⟩) (Or.inl rfl) _).alloc _
  refine⟨rfl,⟨.slice (some ⟨g,0,none⟩) k cap,⟨by simp [go_sem,c0,hb],by simpa [go_sem,hb] using f0,?_,bv,by simp;omega⟩,rfl⟩,ts.mono (fun _ _ e=>Or.inl e),?_⟩
  ·exact (RG.cut Sp.len RE0.out (m:=k) (by omega)).keep ts (fun j hj e=>by cases hj;exact hbg e.symm)
  ·intro o ho
   simp [go_sem,hb]
 have HK:Hid (l.length=k+1):=hk
 have HC:Hid (l.length≤cap):=hcap
 generalize gt l k=x at *
 obtain⟨xn,xc,xo,xv,xr⟩:=x
 simp only at x0 x1 x2 x3 x4
 clear hk hcap
 go_enter Tryz.func271,Tryz.ntmps271
 go_wp2_with fail
 go_ret
 exact FIN.out _ _
theorem Qub (w:World) (b:Nat) (v:Value) (B:Nat) (l:List Sp) (P:LS w b v B l) (N:Nat) (hN:N≤l.length) (i0:Nat) (x y:Int) (hx:x=(i0:Int)) (hy:y=(N:Int)) (hi:i0<N) (F:FixI N (gt l) i0) :
  Calls Tryz.prog 155 #[.iface 211 (.pointer (some ⟨b,0,none⟩)),.int .i64 x,.int .i64 y] w (DnP w b v B l N i0):=by
 subst hx;subst hy
 exact Qpt w b v B l P N hN i0 hi F
theorem Qq5 (w:World) (x:Value):Calls Tryz.prog 155 #[x,.int .i64 0,.int .i64 0] w fun e w'=>e=.returned (.bool false)∧w=w':=by
 go_enter Tryz.func155,Tryz.ntmps155
 go_wp2_with fail
 go_loopw [7] (fun s7 wx=>s7=.int .i64 0∧wx=w) (fun _ _=>0)
 case atStart=>exact⟨rfl,rfl⟩
 case round =>
  obtain⟨rfl,rfl⟩:=hrel
  go_wp2_with fail
  go_ret
  exact⟨rfl,rfl⟩
theorem Qji (w:World) (b:Nat) (v:Value) (B:Nat) (l:List Sp) (P:LS w b v B l) :
  Calls Tryz.prog 61 #[v] w fun e w'=>e=.returned (.int .i64 l.length)∧w=w':=by
 obtain⟨a,c,rfl⟩:=P.re.shape
 exact Qqk w a l.length c
structure Heaped (w:World) (b:Nat) (v:Value) (B:Nat) (L:List Sp) (w':World):Prop where
 out:∃v' l',LS w' b v' B l'∧l'.Perm L∧HP l'.length (gt l')∧(v'.ownBlock=v.ownBlock∨∃g,v'.ownBlock=some g∧w.heap.size≤g)
 t:TouchB b (fun k=>v.ownBlock=some k) w w'
theorem Laid.touchB {w:World} {b:Nat} {v:Value} {B:Nat} {l:List Sp} {N:Nat} {w':World} {l':List Sp} (h:Laid w b v B l N w' l') (hb:b<w.heap.size):TouchB b (fun k=>v.ownBlock=some k) w w':=TouchB.of h.t hb h.ps.bv
theorem Qng (w:World) (b:Nat) (v:Value) (B:Nat) (l:List Sp) (P:LS w b v B l) (hh:HP l.length (gt l)) (x:Sp) (hB:B≤w.heap.size) (hl:l.length+1≤1099511627776) :
  Calls Tryz.prog 154 #[.iface 211 (.pointer (some ⟨b,0,none⟩)),.iface 154 (.agg #[.int .i64 x.node,.int .u32 x.cost,.int .u32 x.h.out,.int .u32 x.h.via,.bool x.h.vr])] w fun e w'=>e=.returned (.tuple #[])∧Heaped w b v B (l++[x]) w':=by
 have hb:=P.lt
 have HP0:Hid _:=P
 have HH:Hid _:=hh
 have HBB:Hid _:=hB
 clear P hh hB
 go_enter Tryz.func154,Tryz.ntmps154
 go_wp2_with fail
 refine Calls.mono (Qn7 w b v B l HP0.out x HBB.out hl) ?_
 rintro e w1 p1
 have e1:=p1.e
 subst e1
 obtain⟨-,⟨v1,P1,hv⟩,T1⟩:=p1
 have m1:=Qjq b v1 w1 P1.c0
 have HP1:Hid _:=P1
 have HT1:Hid _:=T1
 have HV:Hid _:=hv
 clear P1 T1 hv
 go_wp2_with fail
 refine Calls.mono (Qji w1 b v1 B _ HP1.out) ?_
 rintro e w2 ⟨rfl,rfl⟩
 have hl2:(l++[x]).length=l.length+1:=by simp
 have hl3:((l++[x]).length:Int)≤1099511627776:=by omega
 have hl4:(1:Int)≤((l++[x]).length:Int):=by omega
 have HL2:Hid _:=hl2
 clear hl2 m1
 go_wp2_with fail
 refine Calls.mono (Qwg w1 b v1 B _ HP1.out (l.length+1) (Nat.le_of_eq HL2.out.symm) l.length _ (by have:=HL2.out;omega) (by omega) (HP.up HH.out (fun k hk=>by
  by_cases h:k<l.length
  ·rw [Qfl h]
  ·simp [gt,List.getElem?_eq_none (show l.length≤k by omega),List.getElem?_eq_none (show (l++[x]).length≤k by simp;omega)]))) ?_
 rintro e w3 ⟨rfl,l',L,H⟩
 have HLL:Hid _:=L
 have HHH:Hid _:=H
 clear L H
 go_wp2_with fail
 refine bodyPost_end (results_none rfl _ _ _) rfl ?_
 have hb1:=HP1.out.lt
 have hlen:=HLL.out.len
 have hl2:=HL2.out
 refine⟨rfl,⟨v1,l',HLL.out.ps,HLL.out.perm,?_,HV.out⟩,?_⟩
 ·rw [hlen,hl2];exact HHH.out
 ·refine HT1.out.trans (HLL.out.touchB hb1) (fun i hi e=>?_)
  rcases HV.out with e2|⟨g,e2,hg⟩
  ·rw [←e2];exact e
  ·rw [e2] at e;injection e with e;omega
structure TakenP (w:World) (b:Nat) (v:Value) (B:Nat) (l:List Sp) (e:Ending) (w':World):Prop where
 out:∃s v' l',e=.returned (.iface 154 s.v)∧LS w' b v' B l'∧l.Perm (l' ++ [s])∧HP l'.length (gt l')∧(∀y∈l,s.le y)∧v'.ownBlock=v.ownBlock
 t:TouchB b (fun k=>v.ownBlock=some k) w w'
theorem Qlk {l l1 l2:List Sp} {n:Nat} (hn:l.length=n+1) (h1:l1=sw l 0 n) (hp:l2.Perm l1) (far:∀k,n≤k→gt l2 k=gt l1 k) (hh:HP l.length (gt l)) (h2:HP n (gt l2)) :
  gt l2 n=gt l 0∧l.Perm (l2.take n++[gt l 0])∧HP (l2.take n).length (gt (l2.take n))∧∀y∈l,(gt l 0).le y:=by
 subst h1
 have hp1:(sw l 0 n).Perm l:=Qns (by omega) (by omega)
 have hl2:l2.length=n+1:=by rw [(hp.trans hp1).length_eq,hn]
 have e1:gt l2 n=gt l 0:=by rw [far n (Nat.le_refl _),Qjd (by omega) (by omega),if_pos rfl]
 have e2:l2=l2.take n++[gt l 0]:=by
  have h:=List.take_append_drop n l2
  have h3:l2.drop n=[gt l 0]:=by
   rw [←e1]
   apply List.ext_getElem?
   intro j
   rw [List.getElem?_drop]
   rcases j with _|j
   ·rw [Nat.add_zero,Qd5 (by omega)];rfl
   ·rw [List.getElem?_eq_none (by omega)];simp
  rw [h3] at h
  exact h.symm
 refine⟨e1,?_,?_,?_⟩
 ·rw [←e2];exact (hp.trans hp1).symm
 ·have hl:(l2.take n).length=n:=by simp;omega
  rw [hl]
  exact h2.mono (Nat.le_refl _) (fun k hk=>Quw hk)
 ·intro y hy
  obtain⟨i,hi,rfl⟩:=Qvq hy
  exact hh.first i hi
theorem Qpd (w:World) (b:Nat) (v:Value) (B:Nat) (l:List Sp) (P:LS w b v B l) (hh:HP l.length (gt l)) (hl:0<l.length) :
  Calls Tryz.prog 111 #[.iface 211 (.pointer (some ⟨b,0,none⟩))] w (TakenP w b v B l):=by
 have hb:=P.lt
 have hl2:=P.hl
 have m1:=Qjq b v w P.c0
 have m2:=Qcu b v w P.c0
 have HP0:Hid _:=P
 have HH:Hid _:=hh
 clear P hh
 obtain⟨n,hn⟩:∃n,l.length=n+1:=⟨l.length-1,by omega⟩
 have HN:Hid (l.length=n+1):=hn
 have hl3:(l.length:Int)≤1099511627776:=by omega
 have hl4:(1:Int)≤(l.length:Int):=by omega
 have hln:(l.length:Int)-1=(n:Int):=by omega
 clear hn hl hl2
 go_enter Tryz.func111,Tryz.ntmps111
 go_wp2_with ((go_at_call 61;refine Calls.mono (Qji w b v B l HP0.out) ?_;rintro e wx ⟨rfl,rfl⟩))
 refine Calls.mono (Qdv w b v B l HP0.out 0 n _ _ rfl (by omega) (by have:=HN.out;omega) (by have:=HN.out;omega)) ?_
 rintro e w1 s1
 have e1:=s1.e
 subst e1
 obtain⟨-,P1,T1⟩:=s1
 have HP1:Hid _:=P1
 have HT1:Hid _:=T1
 have hls:(sw l 0 n).length=n+1:=by rw [Qid];exact HN.out
 have HLS:Hid _:=hls
 clear P1 T1 m1 m2 hls
 have hb1:b<w1.heap.size:=HP1.out.lt
 have HDN:Hid (∀w2 l2,Laid w1 b v B (sw l 0 n) n w2 l2→HP n (gt l2)→∀e w3,PopP w2 b v B l2 n e w3→TakenP w b v B l e w3):=by
  intro w2 l2 L2 H2 e w3 p3
  obtain⟨a1,a2,a3,a4⟩:=Qlk HN.out rfl L2.perm L2.far HH.out H2
  obtain⟨e3,⟨v3,P3,hv3⟩,T3⟩:=p3
  rw [a1] at e3
  refine⟨⟨gt l 0,v3,_,e3,P3,a2,a3,a4,hv3⟩,?_⟩
  exact ((TouchB.of HT1.out hb HP0.out.bv).trans (L2.touchB hb1) (fun _ _ h=>h)).trans T3 (fun _ _ h=>h.elim)
 by_cases h0:n=0
 ·have HD0:=HDN.out w1 _ (Laid.start HP1.out n) (fun c _ h=>by omega)
  have HD:Hid _:=HD0
  clear HD0 HDN
  have hn0:(n:Int)=0:=by omega
  go_wp2_with ((go_at_call 155;refine Calls.mono (Qq5 w1 _) ?_;rintro e wx ⟨rfl,rfl⟩))
  refine Calls.mono (Qjz w1 b v B _ HP1.out n (by rw [HLS.out])) ?_
  rintro e w3 p3
  have hz:=HD.out _ _ p3
  have e3:=p3.e
  clear p3
  generalize (gt (sw l 0 n) n).v=G at e3
  subst e3
  have HZ:Hid _:=hz
  clear hz
  go_wp2_with fail
  go_ret
  exact HZ.out
 ·have F0:FixI n (gt (sw l 0 n)) 0:=by
   have h1:HP n (gt l):=HP.mono HH.out (by have:=HN.out;omega) (fun _ _=>rfl)
   have h2:∀k,k<n→k≠0→gt (sw l 0 n) k=gt l k:=fun k hk hk0=>by
    rw [Qjd (by have:=HN.out;omega) (by have:=HN.out;omega),if_neg (by omega),if_neg hk0]
   exact⟨fun c c0 cn ce pe=>by rw [h2 _ cn ce,h2 _ (by omega) pe];exact h1 c c0 cn,fun c c0 cn pe i0=>by omega⟩
  have HF:Hid _:=F0
  have H0:Hid (n≠0):=h0
  clear F0 h0
  go_wp2_with fail
  refine Calls.mono (Qub w1 b v B _ HP1.out n (by rw [HLS.out];omega) 0 _ _ (by omega) (by omega) (by have:=H0.out;omega) HF.out) ?_
  rintro e w2 ⟨l2,z,rfl,L2,H2⟩
  have H3:HP n (gt l2):=by
   rcases H2 with⟨_,H2⟩|⟨_,rfl,U2⟩
   ·exact H2
   ·exact Qou U2 (Or.inl rfl)
  have hl2:l2.length=n+1:=by rw [L2.len,HLS.out]
  have HD:=HDN.out w2 l2 L2 H3
  have HDD:Hid _:=HD
  have HL2:Hid _:=L2
  have HLL:Hid _:=hl2
  clear HD L2 H2 H3 hl2 HDN
  go_wp2_with fail
  refine Calls.mono (Qjz w2 b v B _ HL2.out.ps n HLL.out) ?_
  rintro e w3 p3
  have hz:=HDD.out _ _ p3
  have e3:=p3.e
  clear p3
  generalize (gt l2 n).v=G at e3
  subst e3
  have HZ:Hid _:=hz
  clear hz
  go_wp2_with fail
  go_ret
  exact HZ.out
end Go.Proofs.YtddbffoiadmffaaGreat
