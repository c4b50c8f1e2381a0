import Derived.Test.YtddbffoiadmffaaGreatStaOut
import Derived.RangeFuncNested
import Derived.RangeFuncBound
import Derived.RangeFuncCalls
import Derived.RangeFuncLeaves
import Derived.Shelf.Abstract
import Derived.Shelf.RegionOpen
import Derived.WalkKit
import Derived.OwnWalkIn
import Derived.TacticsInMore
import Derived.LoopNIn
import Derived.LoopIn
namespace Go.Proofs.YtddbffoiadmffaaGreat
set_option maxHeartbeats 8000000
open Go.RowKit
set_option linter.unusedVariables false
set_option maxRecDepth 100000
theorem lawX:WideMaps.KeyLaw Tryz.prog 42:=Go.deep_law (m:=2) (by omega) (by kernel_rfl) (by kernel_rfl) (by kernel_rfl)
theorem kindX:MK 42 64 164 (.agg #[.int .u32 0,.slice none 0 0]):=⟨lawX,Tryz.underlying64,fun _=>rfl⟩
theorem Qsw (p:PX) (ok:p.Ok):∃l,Go.keyOf Tryz.prog 42 p.v=some l:=by
 obtain⟨A,B⟩:=p
 obtain⟨⟨a0,a1⟩,b0,b1⟩:=ok
 simp only at a0 a1 b0 b1
 unfold PX.v
 have h1:(Lit.int .u32 A).wf=true:=by simp [Lit.wf,IntKind.min,IntKind.max,IntKind.bits,IntKind.signed];omega
 have h3:(Lit.int .u8 B).wf=true:=by simp [Lit.wf,IntKind.min,IntKind.max,IntKind.bits,IntKind.signed];omega
 have hc3:Tryz.prog.cellsOf 42=2:=by kernel_rfl
 have c8:Tryz.prog.cellsOf 5=1:=by kernel_rfl
 have c32:Tryz.prog.cellsOf 23=1:=by kernel_rfl
 have hkt:Tryz.prog.keyType 42=true:=by kernel_rfl
 have hpos:0<Tryz.prog.types.size:=of_decide_eq_true (by kernel_rfl)
 obtain⟨d,hd⟩:∃d,Tryz.prog.types.size=d+1:=⟨Tryz.prog.types.size-1,by omega⟩
 have hf:(Value.agg #[.int .u32 A,.int .u8 B]).formed Tryz.prog 42=true:=by simp [Value.formed,Tryz.underlying42,hc3]
 have hL:∃L,Tryz.prog.keyLits (d+1+1) 42 [.int .u32 A,.int .u8 B]=some L:=by
  simp [Program.keyLits,Tryz.underlying42,hc3,c8,c32,Tryz.underlying23,Tryz.underlying5,h1,h3]
 obtain⟨L,hL⟩:=hL
 refine⟨.string (keyBytes L),?_⟩
 unfold Go.keyOf
 simp only [Tryz.underlying42,hkt,hf,Bool.and_self,if_true,hd]
 rw [show (Value.agg #[.int .u32 A,.int .u8 B]).cells.toList=[.int .u32 A,.int .u8 B] from rfl,hL]
 rfl
structure MQ where
 e:ME
 lv:Value
def MQ.kv (q:MQ):Value×Value:=(q.e.p.v,.agg #[.int .u32 q.e.cost,q.lv])
abbrev LsB (n:Nat) (w:World) (v:Value) (hs:List HL):Prop:=w.ownsRow n 43 1 v hs.length (hs.map Prod.fst)
def ApQ (Q:List MQ):Prop:=∀(i j:Nat) (a b:MQ) (g:Nat),i≠j→Q[i]?=some a→Q[j]?=some b→a.lv.ownBlock=some g→b.lv.ownBlock≠some g
structure MSQ (n:Nat) (w:World) (m:Nat) (Q:List MQ):Prop where
 am:AM w 42 m (Q.map MQ.kv)
 row:∀q∈Q,LsB n w q.lv q.e.hs
 ap:ApQ Q
 ok:∀q∈Q,q.e.p.Ok
theorem Qce {w:World} {n m:Nat} {T:TypeId} {k:Nat} {v:Value} {c:Nat} {xs:List Value} {K:TypeId} {l:List (Value×Value)} (h:w.ownsRow n T k v c xs) (a:AM w K m l):v.ownBlock≠some m:=by
 intro e
 obtain⟨es,cc,h1,-⟩:=a.out
 rcases h.2 with⟨rfl,-⟩|⟨g,cap,cur,rfl,-,h2,-⟩
 ·cases e
 ·have:g=m:=by simpa [Value.ownBlock] using e
  subst this
  rw [h2] at h1
  cases h1
theorem MSQ.keep {n:Nat} {w w':World} {m:Nat} {Q:List MQ} (h:MSQ n w m Q) (t:Touch (fun _=>False) w w'):MSQ n w' m Q:=⟨h.am.keepN t,fun q hq=>Qab (h.row q hq) t (fun _ _ h=>h),h.ap,h.ok⟩
structure MSG (w0:World) (G:Nat→Prop) (w:World) (m:Nat) (Q:List MQ):Prop where
 q:MSQ w0.heap.size w m Q
 t:Touch (fun _=>False) w0 w
 lo:w0.heap.size≤m
 av:∀x∈Q,∀g,x.lv.ownBlock=some g→¬G g
 gm:¬G m
 gl:∀k,G k→k<w.heap.size
theorem MSG.keep {w0 w w':World} {G:Nat→Prop} {m:Nat} {Q:List MQ} (h:MSG w0 G w m Q) (t:Touch (fun _=>False) w w'):MSG w0 G w' m Q :=
 ⟨h.q.keep t,h.t.trans t,h.lo,h.av,h.gm,fun k hk=>Nat.lt_of_lt_of_le (h.gl k hk) t.size⟩
theorem MSG.more {w0 w w':World} {G G':Nat→Prop} {m:Nat} {Q:List MQ} (h:MSG w0 G w m Q) (t:Touch (fun _=>False) w w') (hG:∀k,G' k→G k∨w.heap.size≤k) (hl:∀k,G' k→k<w'.heap.size):MSG w0 G' w' m Q:=by
 have k:=h.keep t
 refine⟨k.q,k.t,k.lo,fun x hx g hg hG'=>?_,fun hG'=>?_,hl⟩
 ·rcases hG g hG' with h1|h1
  ·exact h.av x hx g hg h1
  ·have:=((h.q.row x hx).lt g hg).2
   omega
 ·rcases hG m hG' with h1|h1
  ·exact h.gm h1
  ·have:=h.q.am.lt
   omega
structure MS (w0:World) (G:Nat→Prop) (w:World) (m:Nat) (L:List ME):Prop where
 out:∃Q:List MQ,Q.map (·.e)=L∧MSG w0 G w m Q
theorem MS.keep {w0 w w':World} {G:Nat→Prop} {m:Nat} {L:List ME} (h:MS w0 G w m L) (t:Touch (fun _=>False) w w'):MS w0 G w' m L:=by
 obtain⟨Q,h1,h2⟩:=h.out
 exact⟨Q,h1,h2.keep t⟩
theorem MS.more {w0 w w':World} {G G':Nat→Prop} {m:Nat} {L:List ME} (h:MS w0 G w m L) (t:Touch (fun _=>False) w w') (hG:∀k,G' k→G k∨w.heap.size≤k) (hl:∀k,G' k→k<w'.heap.size):MS w0 G' w' m L:=by
 obtain⟨Q,h1,h2⟩:=h.out
 exact⟨Q,h1,h2.more t hG hl⟩
theorem MS.t {w0 w:World} {G:Nat→Prop} {m:Nat} {L:List ME} (h:MS w0 G w m L):Touch (fun _=>False) w0 w:=by
 obtain⟨Q,h1,h2⟩:=h.out
 exact h2.t
theorem MS.keepF {F:Nat→Prop} {w0 w w':World} {G:Nat→Prop} {m:Nat} {L:List ME} (h:MS w0 G w m L) (t:Touch F w w') (hF:∀k,F k→G k∧w0.heap.size≤k):MS w0 G w' m L:=by
 obtain⟨Q,h1,h2⟩:=h.out
 refine⟨Q,h1,⟨h2.q.am.keep t (fun h=>h2.gm (hF _ h).1),fun q hq=>Qab (h2.q.row q hq) t (fun k hk h=>h2.av q hq k hk (hF _ h).1),h2.q.ap,h2.q.ok⟩,h2.t.trans' t (fun i hi h=>by have:=(hF i h).2;omega),h2.lo,h2.av,h2.gm,fun k hk=>Nat.lt_of_lt_of_le (h2.gl k hk) t.size⟩
theorem MS.less {w0 w:World} {G G':Nat→Prop} {m:Nat} {L:List ME} (h:MS w0 G w m L) (hG:∀k,G' k→G k):MS w0 G' w m L:=by
 obtain⟨Q,h1,h2⟩:=h.out
 exact⟨Q,h1,⟨h2.q,h2.t,h2.lo,fun x hx g hg h=>h2.av x hx g hg (hG _ h),fun h=>h2.gm (hG _ h),fun k hk=>h2.gl k (hG _ hk)⟩⟩
theorem MS.grow {F G':Nat→Prop} {w0 w w':World} {G:Nat→Prop} {m:Nat} {L:List ME} (h:MS w0 G w m L) (t:Touch F w w') (hF:∀k,F k→G k∧w0.heap.size≤k) (hG:∀k,G' k→G k∨w.heap.size≤k) (hl:∀k,G' k→k<w'.heap.size):MS w0 G' w' m L:=by
 obtain⟨Q,h1,h2⟩:=h.out
 obtain⟨Q',e',k⟩:=(h.keepF t hF).out
 refine⟨Q,h1,⟨h2.q.am.keep t (fun h=>h2.gm (hF _ h).1),fun q hq=>Qab (h2.q.row q hq) t (fun k hk h=>h2.av q hq k hk (hF _ h).1),h2.q.ap,h2.q.ok⟩,h2.t.trans' t (fun i hi h=>by have:=(hF i h).2;omega),h2.lo,fun x hx g hg h=>?_,fun h=>?_,hl⟩
 ·rcases hG g h with h|h
  ·exact h2.av x hx g hg h
  ·have:=((h2.q.row x hx).lt g hg).2
   omega
 ·rcases hG m h with h|h
  ·exact h2.gm h
  ·have:=h2.q.am.lt
   omega
theorem MS.made2 {w w2:World} {G:Nat→Prop} (t:Touch (fun _=>False) (w.alloc (.map #[] 0)) w2) (hm:¬G w.heap.size) (hl:∀k,G k→k<w2.heap.size):MS w G w2 w.heap.size [] :=
 ⟨[],rfl,⟨(AM.made w _ 0).keepN t,by simp,fun i j a b g _ h _ _=>by simp at h,by simp⟩,Touch.trans (b:=w.alloc (.map #[] 0)) ((Touch.refl _ _).alloc _) t,Nat.le_refl _,by simp,hm,hl⟩
theorem MSQ.put {n:Nat} {w w2 w3:World} {m j:Nat} {Q:List MQ} (X:MSQ n w m Q) {q:MQ} (hq:Q[j]?=some q) {lx v':Value} (hl:lx.ownBlock=q.lv.ownBlock) (e':ME) (hp:e'.p=q.e.p)
  (tg:Touch (fun k=>lx.ownBlock=some k) w w2) (own:LsB n w2 v' e'.hs) (hor:v'.ownBlock=lx.ownBlock∨∃g,v'.ownBlock=some g∧w.heap.size≤g) (tm:Touch (fun k=>k=m) w2 w3)
  (A3:AM w3 42 m ((Q.map MQ.kv).set j (MQ.kv ⟨e',v'⟩))):MSQ n w3 m (Q.set j ⟨e',v'⟩):=by
 have hj:j<Q.length:=(List.getElem?_eq_some_iff.1 hq).1
 have hmq:q∈Q:=List.mem_of_getElem? hq
 have A2:AM w2 42 m (Q.map MQ.kv):=X.am.keep tg (by rw [hl];exact Qce (X.row q hmq) X.am)
 have old:∀i a,i≠j→Q[i]?=some a→LsB n w3 a.lv a.e.hs∧∀k,a.lv.ownBlock=some k→k<w.heap.size:=by
  intro i a hij ha
  have hm:=List.mem_of_getElem? ha
  have r2:LsB n w2 a.lv a.e.hs:=Qab (X.row a hm) tg (fun k hk hk'=>by rw [hl] at hk';exact X.ap i j a q k hij ha hq hk hk')
  exact⟨Qab r2 tm (fun k hk e=>by subst e;exact Qce r2 A2 hk),fun k hk=>((X.row a hm).lt k hk).2⟩
 have new:LsB n w3 v' e'.hs:=Qab own tm (fun k hk e=>by subst e;exact Qce own A2 hk)
 have get:∀i a,(Q.set j ⟨e',v'⟩)[i]?=some a→(i=j∧a=⟨e',v'⟩)∨(i≠j∧Q[i]?=some a):=by
  intro i a h
  rw [List.getElem?_set] at h
  split at h
  ·rename_i hij
   injection h with h
   exact Or.inl ⟨hij.symm,h.symm⟩
  ·rename_i hij
   exact Or.inr ⟨fun e=>hij e.symm,h⟩
 have no:∀(i:Nat) (a:MQ) (g:Nat),i≠j→Q[i]?=some a→a.lv.ownBlock=some g→v'.ownBlock≠some g:=by
  intro i a g hij ha hg e
  rcases hor with h|⟨b,h,hb⟩
  ·rw [h,hl] at e
   exact X.ap i j a q g hij ha hq hg e
  ·rw [h] at e
   injection e with e
   have:=(old i a hij ha).2 g hg
   omega
 refine⟨?_,fun a ha=>?_,fun i k a b g hik ha hb hg=>?_,fun a ha=>?_⟩
 ·rw [List.map_set]
  exact A3
 ·obtain⟨i,hi⟩:=List.mem_iff_getElem?.1 ha
  rcases get i a hi with⟨-,rfl⟩|⟨hij,h⟩
  ·exact new
  ·exact (old i a hij h).1
 ·rcases get i a ha with⟨rfl,rfl⟩|⟨hij,h⟩
  ·rcases get k b hb with⟨rfl,rfl⟩|⟨hkj,h'⟩
   ·exact (hik rfl).elim
   ·intro e
    exact no k b g hkj h' e hg
  ·rcases get k b hb with⟨rfl,rfl⟩|⟨hkj,h'⟩
   ·exact no i a g hij h hg
   ·exact X.ap i k a b g hik h h' hg
 ·obtain⟨i,hi⟩:=List.mem_iff_getElem?.1 ha
  rcases get i a hi with⟨-,rfl⟩|⟨hij,h⟩
  ·show e'.p.Ok
   rw [hp]
   exact X.ok q hmq
  ·exact X.ok a (List.mem_of_getElem? h)
theorem MSQ.add {n:Nat} {w w2 w3:World} {m:Nat} {Q:List MQ} (X:MSQ n w m Q) {v':Value} (e':ME) (hp:e'.p.Ok)
  (tg:Touch (fun _=>False) w w2) (own:LsB n w2 v' e'.hs) (hor:∃g,v'.ownBlock=some g∧w.heap.size≤g) (tm:Touch (fun k=>k=m) w2 w3)
  (A3:AM w3 42 m (Q.map MQ.kv++[MQ.kv ⟨e',v'⟩])):MSQ n w3 m (Q++[⟨e',v'⟩]):=by
 have X2:=X.keep tg
 have old:∀a∈Q,LsB n w3 a.lv a.e.hs∧∀k,a.lv.ownBlock=some k→k<w.heap.size:=by
  intro a hm
  exact⟨Qab (X2.row a hm) tm (fun k hk e=>by subst e;exact Qce (X2.row a hm) X2.am hk),fun k hk=>((X.row a hm).lt k hk).2⟩
 have new:LsB n w3 v' e'.hs:=Qab own tm (fun k hk e=>by subst e;exact Qce own X2.am hk)
 have get:∀i a,(Q++[(⟨e',v'⟩:MQ)])[i]?=some a→(i=Q.length∧a=⟨e',v'⟩)∨(i<Q.length∧Q[i]?=some a):=by
  intro i a h
  rcases Nat.lt_or_ge i Q.length with hi|hi
  ·rw [List.getElem?_append_left hi] at h
   exact Or.inr ⟨hi,h⟩
  ·rw [List.getElem?_append_right hi] at h
   rcases Nat.eq_zero_or_pos (i-Q.length) with h0|h0
   ·rw [h0] at h
    injection h with h
    exact Or.inl ⟨by omega,h.symm⟩
   ·rw [List.getElem?_eq_none (by simp;omega)] at h
    cases h
 have no:∀(i:Nat) (a:MQ) (g:Nat),Q[i]?=some a→a.lv.ownBlock=some g→v'.ownBlock≠some g:=by
  intro i a g ha hg e
  obtain⟨b,h,hb⟩:=hor
  rw [h] at e
  injection e with e
  have:=(old a (List.mem_of_getElem? ha)).2 g hg
  omega
 refine⟨?_,fun a ha=>?_,fun i k a b g hik ha hb hg=>?_,fun a ha=>?_⟩
 ·rw [List.map_append]
  exact A3
 ·rcases List.mem_append.1 ha with h|h
  ·exact (old a h).1
  ·obtain rfl:a=⟨e',v'⟩:=by simpa using h
   exact new
 ·rcases get i a ha with⟨rfl,rfl⟩|⟨hij,h⟩
  ·rcases get k b hb with⟨rfl,rfl⟩|⟨hkj,h'⟩
   ·exact (hik rfl).elim
   ·intro e
    exact no k b g h' e hg
  ·rcases get k b hb with⟨rfl,rfl⟩|⟨hkj,h'⟩
   ·exact no i a g h hg
   ·exact X.ap i k a b g hik h h' hg
 ·rcases List.mem_append.1 ha with h|h
  ·exact X.ok a h
  ·obtain rfl:a=⟨e',v'⟩:=by simpa using h
   exact hp
structure AddP (w0:World) (G:Nat→Prop) (w:World) (m:Nat) (L:List ME) (e:Ending) (w':World):Prop where
 ret:e=.returned (.tuple #[])
 ms:MS w0 G w' m L
 t:Touch (fun k=>¬G k) w w'
def PutTo (w0:World) (G:Nat→Prop) (w w2:World) (m:Nat) (L:List ME) (p:PX) (c:Int) (v:Value):Prop :=
 ∃w3,(Instr.mapUpdate 64 (.map (some m)) (.agg #[.int .u32 p.addr,.int .u8 p.bits]) (.agg #[.int .u32 c,v])).run Tryz.prog w2=.ok () w3∧AddP w0 G w m L (.returned (.tuple #[])) w3∧Touch (fun k=>k=m) w2 w3
theorem Qmn {w0 w w2:World} {G:Nat→Prop} {m j:Nat} {L:List ME} {Q:List MQ} (hQ:Q.map (·.e)=L) (M:MSG w0 G w m Q) {q:MQ} (hq:Q[j]?=some q) {lx v':Value} (hl:lx.ownBlock=q.lv.ownBlock) (e':ME) (hp:e'.p=q.e.p)
  (tg:Touch (fun k=>lx.ownBlock=some k) w w2) (own:LsB w0.heap.size w2 v' e'.hs) (hor:v'.ownBlock=lx.ownBlock∨∃g,v'.ownBlock=some g∧w.heap.size≤g):PutTo w0 G w w2 m (L.set j e') e'.p e'.cost v':=by
 have X:=M.q
 have hmq:q∈Q:=List.mem_of_getElem? hq
 have A2:AM w2 42 m (Q.map MQ.kv):=X.am.keep tg (by rw [hl];exact Qce (X.row q hmq) X.am)
 have hk:(Q.map MQ.kv)[j]?=some (e'.p.v,.agg #[.int .u32 q.e.cost,q.lv]):=by rw [List.getElem?_map,hq,hp];rfl
 obtain⟨w3,h1,A3,tm⟩:=A2.putOld kindX (.agg #[.int .u32 e'.cost,v']) hk
 have hm:=M.lo
 have hlow:∀k,lx.ownBlock=some k→w0.heap.size≤k:=fun k hk=>by rw [hl] at hk;exact ((X.row q hmq).lt k hk).1
 have hng:∀k,lx.ownBlock=some k→¬G k:=fun k hk=>by rw [hl] at hk;exact M.av q hmq k hk
 have t0:Touch (fun k=>w0.heap.size≤k) w w3:=(tg.mono (fun k _ h=>hlow k h)).trans (tm.mono (fun k _ h=>by omega))
 have t2:Touch (fun k=>¬G k) w w3:=(tg.mono (fun k _ h=>hng k h)).trans (tm.mono (fun k _ h=>by subst h;exact M.gm))
 refine⟨w3,h1,⟨rfl,⟨_,?_,X.put hq hl e' hp tg own hor tm A3,M.t.trans' t0 (fun i hi h=>by omega),hm,fun x hx g hg=>?_,M.gm,fun k hk=>Nat.lt_of_lt_of_le (M.gl k hk) t2.size⟩,t2⟩,tm⟩
 ·rw [List.map_set,hQ]
 ·rcases List.mem_or_eq_of_mem_set hx with h|rfl
  ·exact M.av x h g hg
  ·rcases hor with e|⟨b,e,hb⟩
   ·rw [e] at hg
    exact hng g hg
   ·rw [e] at hg
    injection hg with hg
    subst hg
    intro hG
    have:=M.gl b hG
    omega
theorem Que {w0 w w2:World} {G:Nat→Prop} {m:Nat} {L:List ME} {Q:List MQ} (hQ:Q.map (·.e)=L) (M:MSG w0 G w m Q) {v':Value} (e':ME) (hp:e'.p.Ok) (hn:∀q∈Q,q.e.p≠e'.p)
  (tg:Touch (fun _=>False) w w2) (own:LsB w0.heap.size w2 v' e'.hs) (hor:∃g,v'.ownBlock=some g∧w.heap.size≤g):PutTo w0 G w w2 m (L++[e']) e'.p e'.cost v':=by
 have X:=M.q
 have hm:=M.lo
 have A2:=X.am.keepN tg
 obtain⟨kq,hkq⟩:=Qsw e'.p hp
 obtain⟨w3,h1,A3,tm⟩:=A2.putNew kindX (.agg #[.int .u32 e'.cost,v']) hkq (fun x hx=>by
  obtain⟨q,hq,rfl⟩:=List.mem_map.1 hx
  exact fun e=>hn q hq (PX.v_inj e))
 have t0:Touch (fun k=>w0.heap.size≤k) w w3:=(tg.mono (fun k _ h=>h.elim)).trans (tm.mono (fun k _ h=>by omega))
 have t2:Touch (fun k=>¬G k) w w3:=(tg.mono (fun k _ h=>h.elim)).trans (tm.mono (fun k _ h=>by subst h;exact M.gm))
 refine⟨w3,h1,⟨rfl,⟨_,?_,X.add e' hp tg own hor tm A3,M.t.trans' t0 (fun i hi h=>by omega),hm,fun x hx g hg=>?_,M.gm,fun k hk=>Nat.lt_of_lt_of_le (M.gl k hk) t2.size⟩,t2⟩,tm⟩
 ·rw [List.map_append,hQ]
  rfl
 ·rcases List.mem_append.1 hx with h|h
  ·exact M.av x h g hg
  ·obtain rfl:x=⟨e',v'⟩:=by simpa using h
   obtain⟨b,e,hb⟩:=hor
   have e2:v'.ownBlock=some g:=hg
   rw [e] at e2
   injection e2 with e2
   subst e2
   intro hG
   have:=M.gl b hG
   omega
open Go.RowKit Go.Shelf
open Go.ChangeMaps (setBlock)
open Go.MapKept
attribute [local go_sem] Oper.semAt_some
theorem Qkw {w w':World} (t:Touch (fun _=>False) w w'):w.grownBy w' none:=⟨t.os,t.tape,t.output,t.size,fun k hk _=>t.block k hk (fun h=>h)⟩
theorem Qoo {w w':World} {r:Nat} (t:Touch (fun k=>k=r) w w'):w.grownBy w' (some r):=⟨t.os,t.tape,t.output,t.size,fun k hk hn=>t.block k hk (fun h=>hn (by rw [h]))⟩
def lfE (es:Array MapEntry) (seen:Array Nat):List MapEntry:=(leftOf es seen).toList
theorem Qg7 (es:Array MapEntry) (seen:Array Nat):lfE es seen=es.toList.filter (fun p=>!seen.contains p.born):=by
 unfold lfE leftOf
 rw [Array.toList_filter]
theorem Qg5 {α:Type} (g:α→Nat):∀{X:List α},(X.map g).Nodup→∀{a:α},a∈X→X.Perm (a::X.filter (fun p=>!(g p==g a)))
 | [],_,a,h=>by simp at h
 | x::X,nd,a,h=>by
  rw [List.map_cons,List.nodup_cons] at nd
  rcases List.mem_cons.1 h with rfl|h
  ·rw [List.filter_cons_of_neg (by simp)]
   have e:X.filter (fun p=>!(g p==g a))=X:=List.filter_eq_self.2 (fun p hp=>by
    simp only [Bool.not_eq_true',beq_eq_false_iff_ne]
    intro e
    exact nd.1 (e ▸ List.mem_map.2 ⟨p,hp,rfl⟩))
   rw [e]
  ·have hne:¬g x=g a:=fun e=>nd.1 (e ▸ List.mem_map.2 ⟨a,h,rfl⟩)
   rw [List.filter_cons_of_pos (by simpa using hne)]
   exact ((Qg5 g nd.2 h).cons x).trans (List.Perm.swap a x _)
theorem Qru (s:Array Nat) (b c:Nat):(s.push b).contains c=(s.contains c || c==b):=by
 rw [Bool.eq_iff_iff]
 simp
theorem Qql {es:Array MapEntry} {seen:Array Nat} (nd:(es.toList.map (·.born)).Nodup) {p:MapEntry} (hp:p∈lfE es seen):(lfE es seen).Perm (p::lfE es (seen.push p.born)):=by
 have e:lfE es (seen.push p.born)=(lfE es seen).filter (fun q=>!(q.born==p.born)):=by
  rw [Qg7,Qg7,List.filter_filter]
  apply List.filter_congr
  intro q _
  rw [Qru]
  cases seen.contains q.born <;> cases h:(q.born==p.born) <;> simp
 rw [e]
 rw [Qg7] at hp ⊢
 exact Qg5 (fun q=>q.born) ((List.Sublist.map _ List.filter_sublist).nodup nd) hp
theorem Qta (es:Array MapEntry):lfE es #[]=es.toList:=by
 rw [Qg7]
 exact List.filter_eq_self.2 (fun p _=>by simp)
structure KpM (m:Nat) (A B:World):Prop where
 m:∀o,A.heap[m]?=some o→B.heap[m]?=some o
 it:∀(k:Nat) (o:Obj),A.heap[k]?=some o→o.isWalk=true→B.heap[k]?=some o
theorem KpM.trans {m:Nat} {A B C:World} (h:KpM m A B) (k:KpM m B C):KpM m A C:=⟨fun o ho=>k.m o (h.m o ho),fun i o ho hw=>k.it i o (h.it i o ho hw) hw⟩
theorem KpM.put {m n:Nat} (hm:m<n) (W:World) (l:Nat) (o o':Obj) (hl:n≤l) (h:W.heap[l]?=some o) (hc:o.isCells=false) (hw:o.isWalk=false):KpM m W (W.putObj l o'):=by
 refine⟨fun q hq=>?_,fun k q hq hk=>?_⟩
 ·exact (World.putObj_heap_other (by omega)).trans hq
 ·refine (World.putObj_heap_other (fun e=>?_)).trans hq
  subst e
  rw [h] at hq
  cases hq
  rw [hw] at hk
  cases hk
theorem KpM.touch {m:Nat} {F:Nat→Prop} {A B:World} (t:Touch F A B) (hm:¬F m) (hF:∀(k:Nat) (o:Obj),F k→A.heap[k]?=some o→o.isWalk=true→False):KpM m A B :=
 ⟨fun o ho=>(t.block m (Qat ho) hm).trans ho,fun k o ho hw=>(t.block k (Qat ho) (fun h=>hF k o h ho hw)).trans ho⟩
def itLeft (es:Array MapEntry) (w:World) (r:Nat):Nat :=
 match w.heap[r]? with
 | some (.mapIter _ _ seen _)=>(lfE es seen).length
 | _=>0
theorem Qg3 {es:Array MapEntry} {w:World} {r:Nat} {b:Option Nat} {s c:Nat} {seen:Array Nat} (h:w.heap[r]?=some (.mapIter b s seen c)):itLeft es w r=(lfE es seen).length:=by
 unfold itLeft
 rw [h]
abbrev encQ (p:PX):Array Value:=#[p.v]
def keyP (e:MapEntry):PX :=
 match e.key with
 | .agg #[.int _ a,.int _ b]=>⟨a,b⟩
 | _=>⟨0,0⟩
theorem Ql8 (n:Nat) (hn:1≤n) (b m:Nat) (es:Array MapEntry) (c:Nat) (w:World) (hb:w.cell? ⟨b,0,none⟩=some (.map (some m))) (hm:w.heap[m]?=some (.map es c)) (nd:(es.toList.map (·.born)).Nodup) (hc:∀e∈es.toList,e.born<c) (hk:∀e∈es.toList,e.key=(keyP e).v) :
  SeqStopsK Fence.wide n Tryz.prog 114 #[.pointer (some ⟨b,0,none⟩)] encQ (KpM m) (fun xs=>xs.Perm (es.toList.map keyP)) (fun _=>True) es.size w:=fun l J Jx W hW hJ hJx hY hz=>by
 have HE:Hid ((es.toList.map (·.born)).Nodup∧(∀e∈es.toList,e.born<c)∧∀e∈es.toList,e.key=(keyP e).v):=⟨nd,hc,hk⟩
 have HY:Hid (∀(pre:List PX) (x:PX) (W1:World),J pre W1→pre.length<es.size→YieldAt Fence.wide (n-1) Tryz.prog l (encQ x) W1 fun e W'=>(e=.returned (.bool true)∧J (pre++[x]) W'∧KpM m W1 W')∨(e=.returned (.bool false)∧Jx (pre++[x]) W')):=hY
 have HJ:Hid (AbidesFrom W.heap.size J):=hJ
 have hmW:W.heap[m]?=some (.map es c):=(hW.block m (Qat hm)).trans hm
 have d0:W.cell? ⟨b,0,none⟩=some (.map (some m)):=(hW.cell (p:=⟨b,0,none⟩) (Qaa hb)).trans hb
 have hrg:=run_range_map (P:=Tryz.prog) W 64 _ _ m es c Tryz.underlying64 hmW
 have HJ0:Hid (J [] (W.alloc (.mapIter (some m) c #[] c))):=HJ.out _ _ _ none hz (World.grownBy_alloc _ _ _) (fun r e=>by cases e)
 have HIT:Hid ((W.alloc (.mapIter (some m) c #[] c)).heap[W.heap.size]?=some (.mapIter (some m) c #[] c)):=by show (W.heap.push _)[W.heap.size]?=_;simp
 have HMA:Hid ((W.alloc (.mapIter (some m) c #[] c)).heap[m]?=some (.map es c)):=(Touch.alloc (F:=fun _=>False) (Touch.refl _ W) _).heapN hmW
 have HR:Hid (m≠W.heap.size):=by have:=Qat hmW;show _≠_;omega
 clear hY hJ hJx hb hm nd hc hk hz hW hmW
 refine callsIn_of_wp Tryz.func114 rfl trivial ?_ rfl
 simp only [Tryz.ntmps114,List.size_toArray,List.length_cons,List.length_nil,Nat.reduceAdd,Nat.reduceSub,Array.replicate_succ,Array.replicate_zero,List.push_toArray,List.append_toArray,List.nil_append,List.cons_append]
 gi_wp2
 clear d0 hrg
 generalize W.alloc (.mapIter (some m) c #[] c)=W0 at *
 generalize hr:W.heap.size=r at *
 clear hr
 gi_loopw [3] (fun _ wr=>∃(seen:Array Nat) (pre:List PX) (c0:Nat),wr.heap[r]?=some (.mapIter (some m) c seen c0)∧c≤c0∧wr.heap[m]?=some (.map es c)∧(pre++(lfE es seen).map keyP).Perm (es.toList.map keyP)∧J pre wr)
  (fun _ wr=>itLeft es wr r)
 case atStart=>exact⟨#[],[],c,HIT.out,Nat.le_refl _,HMA.out,by rw [Qta,List.nil_append],HJ0.out⟩
 case round =>
  clear HIT HMA HJ0
  obtain⟨seen,pre,c0,hir,hc0,hmw,hp,hJs⟩:=hrel
  have HP:Hid ((pre++(lfE es seen).map keyP).Perm (es.toList.map keyP)):=hp
  have HJS:Hid (J pre wr):=hJs
  have HL0:Hid (itLeft es wr r=(lfE es seen).length):=Qg3 hir
  rcases run_next_at (P:=Tryz.prog) wr 0 r m c c0 seen es c hir hmw HE.out.2.1 hc0 with⟨h0,hrun⟩|⟨e,hel,w1',hal,hrun⟩
  ·have hz:lfE es seen=[]:=List.length_eq_zero_iff.1 (by unfold lfE;simpa using h0)
   rw [hz,List.map_nil,List.append_nil] at hp
   have HPP:Hid (pre.Perm (es.toList.map keyP)):=hp
   clear hir hc0 hmw hp h0 hz hJs HP HL0
   gi_wp2
   go_end0
   exact⟨⟨_,rfl⟩,.inl ⟨pre,HPP.out,HJS.out⟩⟩
  ·have hel':e∈lfE es seen:=hel
   have hes:e∈es.toList:=by rw [Qg7] at hel';exact (List.mem_filter.1 hel').1
   obtain⟨p,hpe⟩:∃p,keyP e=p:=⟨_,rfl⟩
   have hkp:=HE.out.2.2 e hes
   rw [hpe] at hkp
   have HPU:=Qql HE.out.1 hel'
   have hw1:w1'.heap=wr.heap:=by rcases hal with rfl|rfl <;> rfl
   obtain⟨w3,hw3⟩:∃u,u=setBlock w1' r (.mapIter (some m) c (seen.push e.born) c):=⟨_,rfl⟩
   rw [←hw3] at hrun
   have hir':w1'.heap[r]?=some (.mapIter (some m) c seen c0):=by rw [hw1];exact hir
   have hir3:w3.heap[r]?=some (.mapIter (some m) c (seen.push e.born) c):=by rw [hw3];exact Qh3 hir'
   have t3:Touch (fun k=>k=r) wr w3:=by
    rw [hw3]
    refine Touch.trans (b:=w1') ?_ (Qdq hir')
    rcases hal with rfl|rfl
    ·exact Touch.refl _ _
    ·exact (Touch.refl _ _).drew
   have hm3:w3.heap[m]?=some (.map es c):=(t3.block m (Qat hmw) HR.out).trans hmw
   have hent:=run_entry_at (P:=Tryz.prog) w3 r m c seen es c e hir3 hm3 hes HE.out.1
   have J3:J pre w3:=HJ.out _ _ _ (some r) hJs (Qoo t3) (fun q e=>by cases e;exact⟨Nat.le_refl _,_,hir,rfl⟩)
   have TA:Touch (fun _=>False) w3 (w3.alloc (.cells #[.int .u32 p.addr,.int .u8 p.bits] 42)):=(Touch.refl _ _).alloc _
   have J4:J pre (w3.alloc (.cells #[.int .u32 p.addr,.int .u8 p.bits] 42)):=HJ.out _ _ _ none J3 (Qkw TA) (fun q e=>by cases e)
   have HI4:Hid ((w3.alloc (.cells #[.int .u32 p.addr,.int .u8 p.bits] 42)).heap[r]?=some (.mapIter (some m) c (seen.push e.born) c)):=TA.heapN hir3
   have HM4:Hid ((w3.alloc (.cells #[.int .u32 p.addr,.int .u8 p.bits] 42)).heap[m]?=some (.map es c)):=TA.heapN hm3
   have HLL:Hid ((lfE es seen).length=(lfE es (seen.push e.born)).length+1):=HPU.length_eq.trans (by simp)
   have HPN:Hid ((pre++[p]++(lfE es (seen.push e.born)).map keyP).Perm (es.toList.map keyP)):=by
    refine List.Perm.trans ?_ HP.out
    rw [List.append_assoc]
    have h2:=HPU.map keyP
    rw [List.map_cons,hpe] at h2
    exact (List.Perm.append_left pre h2).symm
   have hlen:pre.length<es.size:=by
    have h1:=HPN.out.length_eq
    simp only [List.length_append,List.length_singleton,List.length_map,Array.length_toList] at h1
    omega
   have hYY:=HY.out pre p _ J4 hlen
   obtain⟨ek,ev,eb⟩:=e
   have hkp':ek=p.v:=hkp
   subst hkp'
   unfold encQ at hYY
   unfold PX.v at hrun hent hYY
   dsimp only at hrun hent
   clear hir hc0 hmw hp hJs HP hpe hel hel' hes HPU hw1 hw3 hir' hir3 t3 hm3 J3 TA J4 hkp hal
   obtain⟨fn,tmps,assign,body,hy,hR⟩:=hYY
   gi_wp2
   refine hR.mono ?_
   rintro e W3 (⟨rfl,hJ3,hk3⟩|⟨rfl,hJx3⟩)
   ·have hi5:=hk3.it _ _ HI4.out rfl
    have hm5:=hk3.m _ HM4.out
    clear hk3
    gi_wp2
    go_roundw
    case rel=>exact⟨_,_,c,hi5,Nat.le_refl _,hm5,HPN.out,hJ3⟩
    case measure=>rw [HL0.out,Qg3 hi5,HLL.out];exact Nat.lt_succ_self _
   ·gi_wp2
    refine bodyPost_ret (results_none rfl _ _ _) rfl ?_
    exact⟨⟨_,rfl⟩,.inr ⟨_,trivial,hJx3⟩⟩
end Go.Proofs.YtddbffoiadmffaaGreat
