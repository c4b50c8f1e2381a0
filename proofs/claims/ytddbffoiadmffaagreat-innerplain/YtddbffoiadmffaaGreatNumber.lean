import Derived.Test.YtddbffoiadmffaaGreatStaOut
import Derived.Lib.SliceRun
namespace Go.Proofs.YtddbffoiadmffaaGreat
set_option maxHeartbeats 8000000
open Go.RowKit
set_option linter.unusedVariables false
set_option maxRecDepth 100000
theorem lawX:WideMaps.KeyLaw Tryz.prog 42:=Go.deep_law (m:=2) (by omega) (by kernel_rfl) (by kernel_rfl) (by kernel_rfl)
theorem kindX:MK 42 64 164 (.agg #[.int .u32 0,.slice none 0 0]):=⟨lawX,Tryz.underlying64,fun _=>rfl⟩
theorem Qrq (p:PX) (ok:p.Ok):∃l,Go.keyOf Tryz.prog 42 p.v=some l:=by
 obtain⟨A,B⟩:=p
 obtain⟨⟨a0,a1⟩,b0,b1⟩:=ok
 simp only at a0 a1 b0 b1
 unfold PX.v
 have h1:(Lit.int .u32 A).wf=true:=by simp [Lit.wf,IntKind.min,IntKind.max,IntKind.bits,IntKind.signed];omega
 have h3:(Lit.int .u8 B).wf=true:=by simp [Lit.wf,IntKind.min,IntKind.max,IntKind.bits,IntKind.signed];omega
 have hc3:Tryz.prog.cellsOf 42=2:=by kernel_rfl
 have c8:Tryz.prog.cellsOf 5=1:=by kernel_rfl
 have c32:Tryz.prog.cellsOf 23=1:=by kernel_rfl
 have hkt:Tryz.prog.keyType 42=true:=by kernel_rfl
 have hpos:0<Tryz.prog.types.size:=of_decide_eq_true (by kernel_rfl)
 obtain⟨d,hd⟩:∃d,Tryz.prog.types.size=d+1:=⟨Tryz.prog.types.size-1,by omega⟩
 have hf:(Value.agg #[.int .u32 A,.int .u8 B]).formed Tryz.prog 42=true:=by simp [Value.formed,Tryz.underlying42,hc3]
 have hL:∃L,Tryz.prog.keyLits (d+1+1) 42 [.int .u32 A,.int .u8 B]=some L:=by
  simp [Program.keyLits,Tryz.underlying42,hc3,c8,c32,Tryz.underlying23,Tryz.underlying5,h1,h3]
 obtain⟨L,hL⟩:=hL
 refine⟨.string (keyBytes L),?_⟩
 unfold Go.keyOf
 simp only [Tryz.underlying42,hkt,hf,Bool.and_self,if_true,hd]
 rw [show (Value.agg #[.int .u32 A,.int .u8 B]).cells.toList=[.int .u32 A,.int .u8 B] from rfl,hL]
 rfl
structure MQ where
 e:ME
 lv:Value
def MQ.kv (q:MQ):Value×Value:=(q.e.p.v,.agg #[.int .u32 q.e.cost,q.lv])
abbrev LsB (n:Nat) (w:World) (v:Value) (hs:List HL):Prop:=w.ownsRow n 43 1 v hs.length (hs.map Prod.fst)
def ApQ (Q:List MQ):Prop:=∀(i j:Nat) (a b:MQ) (g:Nat),i≠j→Q[i]?=some a→Q[j]?=some b→a.lv.ownBlock=some g→b.lv.ownBlock≠some g
structure MSQ (n:Nat) (w:World) (m:Nat) (Q:List MQ):Prop where
 am:AM w 42 m (Q.map MQ.kv)
 row:∀q∈Q,LsB n w q.lv q.e.hs
 ap:ApQ Q
 ok:∀q∈Q,q.e.p.Ok
theorem Qb7 {w:World} {n m:Nat} {T:TypeId} {k:Nat} {v:Value} {c:Nat} {xs:List Value} {K:TypeId} {l:List (Value×Value)} (h:w.ownsRow n T k v c xs) (a:AM w K m l):v.ownBlock≠some m:=by
 intro e
 obtain⟨es,cc,h1,-⟩:=a.out
 rcases h.2 with⟨rfl,-⟩|⟨g,cap,cur,rfl,-,h2,-⟩
 ·cases e
 ·have:g=m:=by simpa [Value.ownBlock] using e
  subst this
  rw [h2] at h1
  cases h1
theorem MSQ.keep {n:Nat} {w w':World} {m:Nat} {Q:List MQ} (h:MSQ n w m Q) (t:Touch (fun _=>False) w w'):MSQ n w' m Q:=⟨h.am.keepN t,fun q hq=>Qab (h.row q hq) t (fun _ _ h=>h),h.ap,h.ok⟩
structure MSG (w0:World) (G:Nat→Prop) (w:World) (m:Nat) (Q:List MQ):Prop where
 q:MSQ w0.heap.size w m Q
 t:Touch (fun _=>False) w0 w
 lo:w0.heap.size≤m
 av:∀x∈Q,∀g,x.lv.ownBlock=some g→¬G g
 gm:¬G m
 gl:∀k,G k→k<w.heap.size
theorem MSG.keep {w0 w w':World} {G:Nat→Prop} {m:Nat} {Q:List MQ} (h:MSG w0 G w m Q) (t:Touch (fun _=>False) w w'):MSG w0 G w' m Q :=
 ⟨h.q.keep t,h.t.trans t,h.lo,h.av,h.gm,fun k hk=>Nat.lt_of_lt_of_le (h.gl k hk) t.size⟩
theorem MSG.more {w0 w w':World} {G G':Nat→Prop} {m:Nat} {Q:List MQ} (h:MSG w0 G w m Q) (t:Touch (fun _=>False) w w') (hG:∀k,G' k→G k∨w.heap.size≤k) (hl:∀k,G' k→k<w'.heap.size):MSG w0 G' w' m Q:=by
 have k:=h.keep t
 refine⟨k.q,k.t,k.lo,fun x hx g hg hG'=>?_,fun hG'=>?_,hl⟩
 ·rcases hG g hG' with h1|h1
  ·exact h.av x hx g hg h1
  ·have:=((h.q.row x hx).lt g hg).2
   omega
 ·rcases hG m hG' with h1|h1
  ·exact h.gm h1
  ·have:=h.q.am.lt
   omega
structure MS (w0:World) (G:Nat→Prop) (w:World) (m:Nat) (L:List ME):Prop where
 out:∃Q:List MQ,Q.map (·.e)=L∧MSG w0 G w m Q
theorem MS.keep {w0 w w':World} {G:Nat→Prop} {m:Nat} {L:List ME} (h:MS w0 G w m L) (t:Touch (fun _=>False) w w'):MS w0 G w' m L:=by
 obtain⟨Q,h1,h2⟩:=h.out
 exact⟨Q,h1,h2.keep t⟩
theorem MS.more {w0 w w':World} {G G':Nat→Prop} {m:Nat} {L:List ME} (h:MS w0 G w m L) (t:Touch (fun _=>False) w w') (hG:∀k,G' k→G k∨w.heap.size≤k) (hl:∀k,G' k→k<w'.heap.size):MS w0 G' w' m L:=by
 obtain⟨Q,h1,h2⟩:=h.out
 exact⟨Q,h1,h2.more t hG hl⟩
theorem MS.t {w0 w:World} {G:Nat→Prop} {m:Nat} {L:List ME} (h:MS w0 G w m L):Touch (fun _=>False) w0 w:=by
 obtain⟨Q,h1,h2⟩:=h.out
 exact h2.t
theorem MS.keepF {F:Nat→Prop} {w0 w w':World} {G:Nat→Prop} {m:Nat} {L:List ME} (h:MS w0 G w m L) (t:Touch F w w') (hF:∀k,F k→G k∧w0.heap.size≤k):MS w0 G w' m L:=by
 obtain⟨Q,h1,h2⟩:=h.out
 refine⟨Q,h1,⟨h2.q.am.keep t (fun h=>h2.gm (hF _ h).1),fun q hq=>Qab (h2.q.row q hq) t (fun k hk h=>h2.av q hq k hk (hF _ h).1),h2.q.ap,h2.q.ok⟩,h2.t.trans' t (fun i hi h=>by have:=(hF i h).2;omega),h2.lo,h2.av,h2.gm,fun k hk=>Nat.lt_of_lt_of_le (h2.gl k hk) t.size⟩
theorem MS.less {w0 w:World} {G G':Nat→Prop} {m:Nat} {L:List ME} (h:MS w0 G w m L) (hG:∀k,G' k→G k):MS w0 G' w m L:=by
 obtain⟨Q,h1,h2⟩:=h.out
 exact⟨Q,h1,⟨h2.q,h2.t,h2.lo,fun x hx g hg h=>h2.av x hx g hg (hG _ h),fun h=>h2.gm (hG _ h),fun k hk=>h2.gl k (hG _ hk)⟩⟩
theorem MS.grow {F G':Nat→Prop} {w0 w w':World} {G:Nat→Prop} {m:Nat} {L:List ME} (h:MS w0 G w m L) (t:Touch F w w') (hF:∀k,F k→G k∧w0.heap.size≤k) (hG:∀k,G' k→G k∨w.heap.size≤k) (hl:∀k,G' k→k<w'.heap.size):MS w0 G' w' m L:=by
 obtain⟨Q,h1,h2⟩:=h.out
 obtain⟨Q',e',k⟩:=(h.keepF t hF).out
 refine⟨Q,h1,⟨h2.q.am.keep t (fun h=>h2.gm (hF _ h).1),fun q hq=>Qab (h2.q.row q hq) t (fun k hk h=>h2.av q hq k hk (hF _ h).1),h2.q.ap,h2.q.ok⟩,h2.t.trans' t (fun i hi h=>by have:=(hF i h).2;omega),h2.lo,fun x hx g hg h=>?_,fun h=>?_,hl⟩
 ·rcases hG g h with h|h
  ·exact h2.av x hx g hg h
  ·have:=((h2.q.row x hx).lt g hg).2
   omega
 ·rcases hG m h with h|h
  ·exact h2.gm h
  ·have:=h2.q.am.lt
   omega
theorem MS.made2 {w w2:World} {G:Nat→Prop} (t:Touch (fun _=>False) (w.alloc (.map #[] 0)) w2) (hm:¬G w.heap.size) (hl:∀k,G k→k<w2.heap.size):MS w G w2 w.heap.size [] :=
 ⟨[],rfl,⟨(AM.made w _ 0).keepN t,by simp,fun i j a b g _ h _ _=>by simp at h,by simp⟩,Touch.trans (b:=w.alloc (.map #[] 0)) ((Touch.refl _ _).alloc _) t,Nat.le_refl _,by simp,hm,hl⟩
theorem MSQ.put {n:Nat} {w w2 w3:World} {m j:Nat} {Q:List MQ} (X:MSQ n w m Q) {q:MQ} (hq:Q[j]?=some q) {lx v':Value} (hl:lx.ownBlock=q.lv.ownBlock) (e':ME) (hp:e'.p=q.e.p)
  (tg:Touch (fun k=>lx.ownBlock=some k) w w2) (own:LsB n w2 v' e'.hs) (hor:v'.ownBlock=lx.ownBlock∨∃g,v'.ownBlock=some g∧w.heap.size≤g) (tm:Touch (fun k=>k=m) w2 w3)
  (A3:AM w3 42 m ((Q.map MQ.kv).set j (MQ.kv ⟨e',v'⟩))):MSQ n w3 m (Q.set j ⟨e',v'⟩):=by
 have hj:j<Q.length:=(List.getElem?_eq_some_iff.1 hq).1
 have hmq:q∈Q:=List.mem_of_getElem? hq
 have A2:AM w2 42 m (Q.map MQ.kv):=X.am.keep tg (by rw [hl];exact Qb7 (X.row q hmq) X.am)
 have old:∀i a,i≠j→Q[i]?=some a→LsB n w3 a.lv a.e.hs∧∀k,a.lv.ownBlock=some k→k<w.heap.size:=by
  intro i a hij ha
  have hm:=List.mem_of_getElem? ha
  have r2:LsB n w2 a.lv a.e.hs:=Qab (X.row a hm) tg (fun k hk hk'=>by rw [hl] at hk';exact X.ap i j a q k hij ha hq hk hk')
  exact⟨Qab r2 tm (fun k hk e=>by subst e;exact Qb7 r2 A2 hk),fun k hk=>((X.row a hm).lt k hk).2⟩
 have new:LsB n w3 v' e'.hs:=Qab own tm (fun k hk e=>by subst e;exact Qb7 own A2 hk)
 have get:∀i a,(Q.set j ⟨e',v'⟩)[i]?=some a→(i=j∧a=⟨e',v'⟩)∨(i≠j∧Q[i]?=some a):=by
  intro i a h
  rw [List.getElem?_set] at h
  split at h
  ·rename_i hij
   injection h with h
   exact Or.inl ⟨hij.symm,h.symm⟩
  ·rename_i hij
   exact Or.inr ⟨fun e=>hij e.symm,h⟩
 have no:∀(i:Nat) (a:MQ) (g:Nat),i≠j→Q[i]?=some a→a.lv.ownBlock=some g→v'.ownBlock≠some g:=by
  intro i a g hij ha hg e
  rcases hor with h|⟨b,h,hb⟩
  ·rw [h,hl] at e
   exact X.ap i j a q g hij ha hq hg e
  ·rw [h] at e
   injection e with e
   have:=(old i a hij ha).2 g hg
   omega
 refine⟨?_,fun a ha=>?_,fun i k a b g hik ha hb hg=>?_,fun a ha=>?_⟩
 ·rw [List.map_set]
  exact A3
 ·obtain⟨i,hi⟩:=List.mem_iff_getElem?.1 ha
  rcases get i a hi with⟨-,rfl⟩|⟨hij,h⟩
  ·exact new
  ·exact (old i a hij h).1
 ·rcases get i a ha with⟨rfl,rfl⟩|⟨hij,h⟩
  ·rcases get k b hb with⟨rfl,rfl⟩|⟨hkj,h'⟩
   ·exact (hik rfl).elim
   ·intro e
    exact no k b g hkj h' e hg
  ·rcases get k b hb with⟨rfl,rfl⟩|⟨hkj,h'⟩
   ·exact no i a g hij h hg
   ·exact X.ap i k a b g hik h h' hg
 ·obtain⟨i,hi⟩:=List.mem_iff_getElem?.1 ha
  rcases get i a hi with⟨-,rfl⟩|⟨hij,h⟩
  ·show e'.p.Ok
   rw [hp]
   exact X.ok q hmq
  ·exact X.ok a (List.mem_of_getElem? h)
theorem MSQ.add {n:Nat} {w w2 w3:World} {m:Nat} {Q:List MQ} (X:MSQ n w m Q) {v':Value} (e':ME) (hp:e'.p.Ok)
  (tg:Touch (fun _=>False) w w2) (own:LsB n w2 v' e'.hs) (hor:∃g,v'.ownBlock=some g∧w.heap.size≤g) (tm:Touch (fun k=>k=m) w2 w3)
  (A3:AM w3 42 m (Q.map MQ.kv++[MQ.kv ⟨e',v'⟩])):MSQ n w3 m (Q++[⟨e',v'⟩]):=by
 have X2:=X.keep tg
 have old:∀a∈Q,LsB n w3 a.lv a.e.hs∧∀k,a.lv.ownBlock=some k→k<w.heap.size:=by
  intro a hm
  exact⟨Qab (X2.row a hm) tm (fun k hk e=>by subst e;exact Qb7 (X2.row a hm) X2.am hk),fun k hk=>((X.row a hm).lt k hk).2⟩
 have new:LsB n w3 v' e'.hs:=Qab own tm (fun k hk e=>by subst e;exact Qb7 own X2.am hk)
 have get:∀i a,(Q++[(⟨e',v'⟩:MQ)])[i]?=some a→(i=Q.length∧a=⟨e',v'⟩)∨(i<Q.length∧Q[i]?=some a):=by
  intro i a h
  rcases Nat.lt_or_ge i Q.length with hi|hi
  ·rw [List.getElem?_append_left hi] at h
   exact Or.inr ⟨hi,h⟩
  ·rw [List.getElem?_append_right hi] at h
   rcases Nat.eq_zero_or_pos (i-Q.length) with h0|h0
   ·rw [h0] at h
    injection h with h
    exact Or.inl ⟨by omega,h.symm⟩
   ·rw [List.getElem?_eq_none (by simp;omega)] at h
    cases h
 have no:∀(i:Nat) (a:MQ) (g:Nat),Q[i]?=some a→a.lv.ownBlock=some g→v'.ownBlock≠some g:=by
  intro i a g ha hg e
  obtain⟨b,h,hb⟩:=hor
  rw [h] at e
  injection e with e
  have:=(old a (List.mem_of_getElem? ha)).2 g hg
  omega
 refine⟨?_,fun a ha=>?_,fun i k a b g hik ha hb hg=>?_,fun a ha=>?_⟩
 ·rw [List.map_append]
  exact A3
 ·rcases List.mem_append.1 ha with h|h
  ·exact (old a h).1
  ·obtain rfl:a=⟨e',v'⟩:=by simpa using h
   exact new
 ·rcases get i a ha with⟨rfl,rfl⟩|⟨hij,h⟩
  ·rcases get k b hb with⟨rfl,rfl⟩|⟨hkj,h'⟩
   ·exact (hik rfl).elim
   ·intro e
    exact no k b g h' e hg
  ·rcases get k b hb with⟨rfl,rfl⟩|⟨hkj,h'⟩
   ·exact no i a g h hg
   ·exact X.ap i k a b g hik h h' hg
 ·rcases List.mem_append.1 ha with h|h
  ·exact X.ok a h
  ·obtain rfl:a=⟨e',v'⟩:=by simpa using h
   exact hp
structure AddP (w0:World) (G:Nat→Prop) (w:World) (m:Nat) (L:List ME) (e:Ending) (w':World):Prop where
 ret:e=.returned (.tuple #[])
 ms:MS w0 G w' m L
 t:Touch (fun k=>¬G k) w w'
def PutTo (w0:World) (G:Nat→Prop) (w w2:World) (m:Nat) (L:List ME) (p:PX) (c:Int) (v:Value):Prop :=
 ∃w3,(Instr.mapUpdate 64 (.map (some m)) (.agg #[.int .u32 p.addr,.int .u8 p.bits]) (.agg #[.int .u32 c,v])).run Tryz.prog w2=.ok () w3∧AddP w0 G w m L (.returned (.tuple #[])) w3∧Touch (fun k=>k=m) w2 w3
theorem Qm9 {w0 w w2:World} {G:Nat→Prop} {m j:Nat} {L:List ME} {Q:List MQ} (hQ:Q.map (·.e)=L) (M:MSG w0 G w m Q) {q:MQ} (hq:Q[j]?=some q) {lx v':Value} (hl:lx.ownBlock=q.lv.ownBlock) (e':ME) (hp:e'.p=q.e.p)
  (tg:Touch (fun k=>lx.ownBlock=some k) w w2) (own:LsB w0.heap.size w2 v' e'.hs) (hor:v'.ownBlock=lx.ownBlock∨∃g,v'.ownBlock=some g∧w.heap.size≤g):PutTo w0 G w w2 m (L.set j e') e'.p e'.cost v':=by
 have X:=M.q
 have hmq:q∈Q:=List.mem_of_getElem? hq
 have A2:AM w2 42 m (Q.map MQ.kv):=X.am.keep tg (by rw [hl];exact Qb7 (X.row q hmq) X.am)
 have hk:(Q.map MQ.kv)[j]?=some (e'.p.v,.agg #[.int .u32 q.e.cost,q.lv]):=by rw [List.getElem?_map,hq,hp];rfl
 obtain⟨w3,h1,A3,tm⟩:=A2.putOld kindX (.agg #[.int .u32 e'.cost,v']) hk
 have hm:=M.lo
 have hlow:∀k,lx.ownBlock=some k→w0.heap.size≤k:=fun k hk=>by rw [hl] at hk;exact ((X.row q hmq).lt k hk).1
 have hng:∀k,lx.ownBlock=some k→¬G k:=fun k hk=>by rw [hl] at hk;exact M.av q hmq k hk
 have t0:Touch (fun k=>w0.heap.size≤k) w w3:=(tg.mono (fun k _ h=>hlow k h)).trans (tm.mono (fun k _ h=>by omega))
 have t2:Touch (fun k=>¬G k) w w3:=(tg.mono (fun k _ h=>hng k h)).trans (tm.mono (fun k _ h=>by subst h;exact M.gm))
 refine⟨w3,h1,⟨rfl,⟨_,?_,X.put hq hl e' hp tg own hor tm A3,M.t.trans' t0 (fun i hi h=>by omega),hm,fun x hx g hg=>?_,M.gm,fun k hk=>Nat.lt_of_lt_of_le (M.gl k hk) t2.size⟩,t2⟩,tm⟩
 ·rw [List.map_set,hQ]
 ·rcases List.mem_or_eq_of_mem_set hx with h|rfl
  ·exact M.av x h g hg
  ·rcases hor with e|⟨b,e,hb⟩
   ·rw [e] at hg
    exact hng g hg
   ·rw [e] at hg
    injection hg with hg
    subst hg
    intro hG
    have:=M.gl b hG
    omega
theorem Qs7 {w0 w w2:World} {G:Nat→Prop} {m:Nat} {L:List ME} {Q:List MQ} (hQ:Q.map (·.e)=L) (M:MSG w0 G w m Q) {v':Value} (e':ME) (hp:e'.p.Ok) (hn:∀q∈Q,q.e.p≠e'.p)
  (tg:Touch (fun _=>False) w w2) (own:LsB w0.heap.size w2 v' e'.hs) (hor:∃g,v'.ownBlock=some g∧w.heap.size≤g):PutTo w0 G w w2 m (L++[e']) e'.p e'.cost v':=by
 have X:=M.q
 have hm:=M.lo
 have A2:=X.am.keepN tg
 obtain⟨kq,hkq⟩:=Qrq e'.p hp
 obtain⟨w3,h1,A3,tm⟩:=A2.putNew kindX (.agg #[.int .u32 e'.cost,v']) hkq (fun x hx=>by
  obtain⟨q,hq,rfl⟩:=List.mem_map.1 hx
  exact fun e=>hn q hq (PX.v_inj e))
 have t0:Touch (fun k=>w0.heap.size≤k) w w3:=(tg.mono (fun k _ h=>h.elim)).trans (tm.mono (fun k _ h=>by omega))
 have t2:Touch (fun k=>¬G k) w w3:=(tg.mono (fun k _ h=>h.elim)).trans (tm.mono (fun k _ h=>by subst h;exact M.gm))
 refine⟨w3,h1,⟨rfl,⟨_,?_,X.add e' hp tg own hor tm A3,M.t.trans' t0 (fun i hi h=>by omega),hm,fun x hx g hg=>?_,M.gm,fun k hk=>Nat.lt_of_lt_of_le (M.gl k hk) t2.size⟩,t2⟩,tm⟩
 ·rw [List.map_append,hQ]
  rfl
 ·rcases List.mem_append.1 hx with h|h
  ·exact M.av x h g hg
  ·obtain rfl:x=⟨e',v'⟩:=by simpa using h
   obtain⟨b,e,hb⟩:=hor
   have e2:v'.ownBlock=some g:=hg
   rw [e] at e2
   injection e2 with e2
   subst e2
   intro hG
   have:=M.gl b hG
   omega
theorem Qb0 {w:World} {b:Nat}:∀(l:List Value) (o:Nat) (w':World),Touch (fun k=>k=b) w w'→Touch (fun k=>k=b) w (w'.setCells b o l)
 | [],_,_,t=>t
 | v::l,o,w',t=>Qb0 l (o+1) _ (t.setCell (p:=⟨b,o,none⟩) (Or.inl rfl) v)
theorem Qea {T:TypeId} {b:Nat}:∀(l:List Value) (o:Nat) (w:World) (xs:List Value),Row w b T xs→∃ys,Row (w.setCells b o l) b T ys∧ys.length=xs.length∧ys.take o=xs.take o
 | [],_,w,xs,h=>⟨xs,h,rfl,rfl⟩
 | v::l,o,w,xs,h=>by
  obtain⟨ys,h2,h3,h4⟩:=Qea l (o+1) _ _ (h.set o v)
  refine⟨ys,h2,h3.trans (by simp),?_⟩
  have:=congrArg (List.take o) h4
  rw [List.take_take,List.take_take] at this
  simpa [Nat.min_eq_left (Nat.le_succ o),List.take_set_of_le (Nat.le_refl o)] using this
theorem Qi7 {w:World} {base e k g c:Nat} {xs:List Value} (hb:base≤g) (h:Row w g e xs) (hc:c≤maxLen) (hs:xs.length=c*k):w.ownsRow base e k (.slice (some ⟨g,0,none⟩) 0 c) 0 [] :=
 ⟨by simp,Or.inr ⟨g,c,xs.toArray,rfl,hb,h,Nat.zero_le _,hc,by simpa using hs,by simp⟩⟩
theorem Qfu (a:Option Addr) (c:Nat) (ty:TypeId) (w:World):(Builtin.clear_ #[99] ty #[.slice a 0 c]).run Tryz.prog w=.ok (.tuple #[]) w:=by
 cases a <;> simp [Builtin.clear_,run_underlying Tryz.underlying99]
theorem Qnf (n:Nat) (w:World) (v:Value) (hs:List HL) (h:LsB n w v hs) :
  Calls Tryz.prog 39 #[v] w fun e w'=>∃v',e=.returned v'∧LsB n w' v' []∧v'.ownBlock=v.ownBlock∧Touch (fun k=>v.ownBlock=some k) w w':=by
 rcases h.2 with⟨rfl,h0⟩|⟨g,cap,cur,rfl,hb,hh,h1,h2,h3,h4⟩
 ·have hcz:=Qfu none 0
  go_enter Tryz.func39,Tryz.ntmps39
  go_wp2_with fail
  go_ret
  exact⟨_,rfl,World.ownsRow_nil _ _ _ _,rfl,Touch.refl _ _⟩
 ·have hR:Row w g 43 cur.toList:=hh
  have hcl:cur.toList.length=cap*1:=by simpa using h3
  by_cases hz:hs.length=0
  ·have HF:Hid (LsB n w (.slice (some ⟨g,0,none⟩) 0 cap) []):=Qi7 hb hR h2 hcl
   rw [hz]
   clear h h1 h2 h3 h4 hh hR hcl hb
   have hcz:=Qfu (some ⟨g,0,none⟩) cap
   go_enter Tryz.func39,Tryz.ntmps39
   go_wp2_with fail
   go_ret
   exact⟨_,rfl,HF.out,rfl,Touch.refl _ _⟩
  ·have hrun:=fun ty=>Lib.run_clear_slice (P:=Tryz.prog) w 99 43 ty (.slice none 0 0) Tryz.underlying99 (fun _=>rfl) rfl rfl g 0 hs.length cap (by omega) (fun j hj=>by
    rw [Nat.zero_add,hR.cell j]
    have:j<cur.toList.length:=by omega
    rw [List.getElem?_eq_getElem this]
    rfl) (fun j hj=>hR.frozen _)
   obtain⟨ys,r1,r2,r3⟩:=Qea (List.replicate hs.length (.slice none 0 0)) 0 w _ hR
   have HT:Hid (Touch (fun k=>(Value.slice (some ⟨g,0,none⟩) hs.length cap).ownBlock=some k) w (w.setCells g 0 (List.replicate hs.length (.slice none 0 0)))):=(Qb0 (w:=w) (List.replicate hs.length (.slice none 0 0)) 0 w (Touch.refl _ _)).mono (fun k _ e=>by subst e;rfl)
   have HF:Hid (LsB n (w.setCells g 0 (List.replicate hs.length (.slice none 0 0))) (.slice (some ⟨g,0,none⟩) 0 cap) []):=Qi7 hb r1 h2 (r2.trans hcl)
   have hc0:(0:Int)≤(cap:Int):=by omega
   have hc1:hs.length≤cap:=h1
   clear h h1 h2 h3 h4 hh hR hcl hb r1 r2 r3
   generalize w.setCells g 0 (List.replicate hs.length (.slice none 0 0))=w1 at *
   generalize hs.length=N at *
   go_enter Tryz.func39,Tryz.ntmps39
   go_wp2_with fail
   go_ret
   exact⟨_,rfl,HF.out,rfl,HT.out⟩
theorem Tryz.info5r:(Tryz.prog.info? 5).map (fun i=>(i.zero,i.size,i.bytes))=some (some (.int .u8 0),1,1):=by kernel_rfl
theorem Qff (ad:Addr) (c:Nat) (ns:List Int) (w:World) (hs:∀j u,(bytesOf ns)[j]?=some u→w.cell? (ad.add j)=some u) (hcap:ns.length≤1099511627776) :
  Calls Tryz.prog 201 #[.slice (some ad) ns.length c] w fun e w'=>∃v,e=.returned v∧w'.ownsRow w.heap.size 5 1 v ns.length (bytesOf ns)∧Touch (fun _=>False) w w'∧v.ownBlock≠none:=by
 obtain⟨i0,hi,hz0,hz1,hz2⟩:=info_parts Tryz.info5r
 have hq:=fun (w:World) (a:Option Addr) (n c n' c':Nat)=>Lib.run_eql_slice_nil (P:=Tryz.prog) w 55 5 a n c n' c' Tryz.underlying55
 go_enter Tryz.func201,Tryz.ntmps201
 go_wp2_with (at_builtin;refine wpList_append_own_at _ rfl (.tmp 5) (.tmp 6) 55 rfl w.heap.size 5 i0 (.int .u8 0) 1 1 Tryz.underlying55 hi hz0 hz1 hz2 rfl (by decide) (.slice (some ⟨w.heap.size,0,none⟩) 0 0) 0 [] rfl ?c0 ad ns.length c (bytesOf ns) rfl ?c6 ?c1 ?c2 ?c3 ?c4 ?c5 ?_)
 case c0=>exact World.ownsRow_lit w #[] 0 (Nat.le_refl _) (by simp [maxLen]) (by simp)
 case c6=>simp [Qbm]
 case c1=>exact fun j u hj=>((Touch.refl _ w).alloc _).cellN (hs j u hj)
 case c2=>exact Qbl ns
 case c3=>unfold maxLen;omega
 case c4=>omega
 case c5=>simp
 intro v' w1 hown' hgrow _ hat
 have t1:Touch (fun _=>False) w w1:=((Touch.refl _ w).alloc _).grown hgrow (fun k hk=>Or.inr (by simp [Value.ownBlock] at hk;omega))
 have hne:v'.ownBlock≠none:=by rcases hat with h|h <;> rw [h] <;> simp [Value.ownBlock]
 clear hgrow hat
 go_wp2
 go_ret
 exact⟨v',rfl,by simpa using hown',t1,hne⟩
theorem Qgo (w:World) :
  Calls Tryz.prog 201 #[.slice none 0 0] w fun e w'=>e=.returned (.slice none 0 0)∧w=w':=by
 have hq:=fun (w:World) (a:Option Addr) (n c n' c':Nat)=>Lib.run_eql_slice_nil (P:=Tryz.prog) w 55 5 a n c n' c' Tryz.underlying55
 go_enter Tryz.func201,Tryz.ntmps201
 go_wp2
 go_ret
 exact⟨rfl,rfl⟩
theorem Qlz (most:Int) (w:World) (hm:0≤most) :
  Calls Tryz.prog 172 #[.int .i64 most] w fun e w'=>e=.returned (.pointer (some ⟨w.heap.size,0,none⟩))∧WrS w' w.heap.size (.slice none 0 0) [] most 0∧Touch (fun _=>False) w w':=by
 go_enter Tryz.func172,Tryz.ntmps172
 go_wp2
 go_ret
 refine⟨rfl,⟨by simp,by simp,by simp [Int.max_eq_left hm],by simp,by simp,by simp,World.ownsRow_nil _ _ _ _⟩,(Touch.refl _ w).alloc _⟩
theorem Qia (b:Nat) (err:Int) (w:World) (h0:w.cell? ⟨b,0,none⟩=some (.bool true)) (h3:w.cell? ⟨b,3,none⟩=some (.int .i64 err)) :
  Calls Tryz.prog 178 #[.pointer (some ⟨b,0,none⟩)] w fun e w'=>e=.returned (.int .i64 err)∧w=w':=by
 go_enter Tryz.func178,Tryz.ntmps178
 go_wp2
 go_ret
 exact⟨rfl,rfl⟩
theorem Qa7 (b:Nat) (err:Int) (w:World) (h0:w.cell? ⟨b,0,none⟩=some (.bool true)) (h3:w.cell? ⟨b,3,none⟩=some (.int .i64 err)) :
  Calls Tryz.prog 214 #[.pointer (some ⟨b,0,none⟩)] w fun e w'=>e=.returned (.bool (err==0))∧w=w':=by
 go_enter Tryz.func214,Tryz.ntmps214
 go_wp2_with (go_at_call 178;refine (Qia _ err _ (by assumption) (by assumption)).mono ?_;rintro e w' ⟨rfl,rfl⟩)
 go_ret
 exact⟨rfl,rfl⟩
theorem Qe5 (b p:Nat) (rv:Value) (rs:List Int) (w:World) (h:RdS w b rv rs p 0) :
  Calls Tryz.prog 179 #[.pointer (some ⟨b,0,none⟩)] w fun e w'=>e=.returned (.int .i64 ((rs.length:Int)-p))∧∃n,w'=w.drewN n:=by
 obtain⟨a,c,rfl,hm⟩:=Qfq h.rowAt
 unfold maxLen at hm
 have h0:=h.made
 have h1:=h.row
 have h2:=h.pos
 have h3:=h.err
 have hp:=h.ple
 go_enter Tryz.func179,Tryz.ntmps179
 go_wp2_with (go_at_call 214;refine (Qa7 _ 0 _ (by assumption) (by assumption)).mono ?_;rintro e w' ⟨rfl,rfl⟩)
 go_quiet (fail)
 go_wp2
 go_ret
 exact⟨rfl,_,rfl⟩
theorem Qgz (b:Nat) (err:Int) (w:World) (h0:w.cell? ⟨b,0,none⟩=some (.bool true)) (h3:w.cell? ⟨b,3,none⟩=some (.int .i64 err)) (he:(err==0)=false) :
  Calls Tryz.prog 179 #[.pointer (some ⟨b,0,none⟩)] w fun e w'=>e=.returned (.int .i64 0)∧w=w':=by
 go_enter Tryz.func179,Tryz.ntmps179
 go_wp2_with (go_at_call 214;refine (Qa7 _ err _ (by assumption) (by assumption)).mono ?_;rintro e w' ⟨rfl,rfl⟩)
 go_ret
 exact⟨rfl,rfl⟩
theorem Qmf (b:Nat) (q:Int) (w:World) (h0:w.cell? ⟨b,0,none⟩=some (.bool true)) (h3:w.cell? ⟨b,3,none⟩=some (.int .i64 0)) (hf:w.frozen? ⟨b,3,none⟩=false) :
  Calls Tryz.prog 249 #[.pointer (some ⟨b,0,none⟩),.int .i64 q] w fun e w'=>e=.returned (.tuple #[])∧w.setCell ⟨b,3,none⟩ (.int .i64 q)=w':=by
 go_enter Tryz.func249,Tryz.ntmps249
 go_wp2_with (go_at_call 214;refine (Qa7 _ 0 _ (by assumption) (by assumption)).mono ?_;rintro e w' ⟨rfl,rfl⟩)
 go_end0
 exact⟨rfl,rfl⟩
theorem Qcf (b:Nat) (q err:Int) (w:World) (h0:w.cell? ⟨b,0,none⟩=some (.bool true)) (h3:w.cell? ⟨b,3,none⟩=some (.int .i64 err)) (he:(err==0)=false) :
  Calls Tryz.prog 249 #[.pointer (some ⟨b,0,none⟩),.int .i64 q] w fun e w'=>e=.returned (.tuple #[])∧w=w':=by
 go_enter Tryz.func249,Tryz.ntmps249
 go_wp2_with (go_at_call 214;refine (Qa7 _ err _ (by assumption) (by assumption)).mono ?_;rintro e w' ⟨rfl,rfl⟩)
 go_end0
 exact⟨rfl,rfl⟩
theorem Qtl {w:World} {g off:Nat} {rs:List Int} (hc:∀j u,(bytesOf rs)[j]?=some u→w.cell? ⟨g,off+j,none⟩=some u) (p m:Nat) (hm:p+m≤rs.length) (hcm:rs.length≤maxLen) :
  RowAt w (.slice (some ⟨g,off+p,none⟩) m m) ((rs.drop p).take m):=by
 have hl:((rs.drop p).take m).length=m:=by simp;omega
 refine Or.inr ⟨g,off+p,m,by rw [hl],by omega,by omega,?_⟩
 intro j u hj
 have:(bytesOf rs)[p+j]?=some u:=by
  simp only [bytesOf,List.map_take,List.map_drop,List.getElem?_take,List.getElem?_drop] at hj ⊢
  split at hj
  ·exact hj
  ·simp at hj
 have:=hc _ _ this
 rwa [←Nat.add_assoc] at this
theorem Qrb (w:World) (g off:Nat):RowAt w (.slice (some ⟨g,off,none⟩) 0 0) [] :=
 Or.inr ⟨g,off,0,by simp,by simp,by simp [maxLen],by intro j u hj;simp [bytesOf] at hj⟩
theorem Quq (b p m:Nat) (rv:Value) (rs:List Int) (w:World) (h:RdS w b rv rs p 0) (hm:p+m≤rs.length) :
  Calls Tryz.prog 250 #[.pointer (some ⟨b,0,none⟩),.int .i64 m] w fun e w'=>∃sv,e=.returned sv∧RowAt w' sv ((rs.drop p).take m)∧(sv.ownBlock=none∨sv.ownBlock=rv.ownBlock) ∧
   RdS w' b rv rs (p+m) 0∧Touch (fun k=>k=b) w w'∧w'.heap.size=w.heap.size:=by
 have h0:=h.made
 have h1:=h.row
 have h2:=h.pos
 have h3:=h.err
 have hf2:=h.f2
 have hlt:=Qaa h0
 have HW:∀n,RdS (w.drewN n) b rv rs p 0:=fun n=>h.drewN n
 rcases h.rowAt with⟨rfl,rfl⟩|⟨g,off,c,rfl,hlc,hcm,hcells⟩
 ·obtain rfl:p=0:=by simpa using h.ple
  obtain rfl:m=0:=by simpa using hm
  go_enter Tryz.func250,Tryz.ntmps250
  go_wp2_with (first|(go_at_call 179;refine (Qe5 _ 0 _ [] _ h).mono ?_;rintro e w' ⟨rfl,nl,rfl⟩)|(go_at_call 214;refine (Qa7 _ 0 _ (HW _).made (HW _).err).mono ?_;rintro e w' ⟨rfl,rfl⟩))
  go_quiet (fail)
  have HB:Hid (RdS ((w.drewN nl).setCell ⟨b,2,none⟩ (.int .i64 ((0:Nat):Int))) b (.slice none 0 0) [] 0 0):=(h.drewN nl).setPos 0 (by simp)
  have HT:Hid (Touch (fun k=>k=b) w ((w.drewN nl).setCell ⟨b,2,none⟩ (.int .i64 ((0:Nat):Int)))):=Touch.setCell (F:=fun k=>k=b) (p:=⟨b,2,none⟩) ((Touch.refl _ w).drewN nl) (Or.inl rfl) _
  clear h0 h1 h2 h3 hf2 HW h
  go_wp2
  go_ret
  exact⟨_,rfl,Or.inl ⟨rfl,rfl⟩,Or.inl rfl,HB.out.drewN _,HT.out.drewN _,by simp [World.setCell,World.drewN]⟩
 ·unfold maxLen at hcm
  by_cases hm0:m=0
  ·subst hm0
   go_enter Tryz.func250,Tryz.ntmps250
   go_wp2_with (first|(go_at_call 179;refine (Qe5 _ p _ rs _ h).mono ?_;rintro e w' ⟨rfl,nl,rfl⟩)|(go_at_call 214;refine (Qa7 _ 0 _ (HW _).made (HW _).err).mono ?_;rintro e w' ⟨rfl,rfl⟩))
   go_quiet (fail)
   have HB:Hid (RdS ((w.drewN nl).setCell ⟨b,2,none⟩ (.int .i64 ((p:Nat):Int))) b (.slice (some ⟨g,off,none⟩) rs.length c) rs p 0):=(h.drewN nl).setPos p hm
   have HT:Hid (Touch (fun k=>k=b) w ((w.drewN nl).setCell ⟨b,2,none⟩ (.int .i64 ((p:Nat):Int)))):=Touch.setCell (F:=fun k=>k=b) (p:=⟨b,2,none⟩) ((Touch.refl _ w).drewN nl) (Or.inl rfl) _
   clear h0 h1 h2 h3 hf2 HW h
   go_wp2
   go_ret
   exact⟨.slice (some ⟨g,off,none⟩) 0 0,rfl,Qrb _ _ _,Or.inr rfl,HB.out.drewN _,HT.out.drewN _,by simp [World.setCell,World.drewN]⟩
  ·have hpm:¬p+m=p:=by omega
   have hpp:p+m-p=m:=by omega
   go_enter Tryz.func250,Tryz.ntmps250
   go_wp2_with (first|(go_at_call 179;refine (Qe5 _ p _ rs _ h).mono ?_;rintro e w' ⟨rfl,nl,rfl⟩)|(go_at_call 214;refine (Qa7 _ 0 _ (HW _).made (HW _).err).mono ?_;rintro e w' ⟨rfl,rfl⟩))
   go_quiet (fail)
   have HB:Hid (RdS ((w.drewN nl).setCell ⟨b,2,none⟩ (.int .i64 ((p:Int)+(m:Int)))) b (.slice (some ⟨g,off,none⟩) rs.length c) rs (p+m) 0):=(h.drewN nl).setPos (p+m) hm
   have HT:Hid (Touch (fun k=>k=b) w ((w.drewN nl).setCell ⟨b,2,none⟩ (.int .i64 ((p:Int)+(m:Int))))):=Touch.setCell (F:=fun k=>k=b) (p:=⟨b,2,none⟩) ((Touch.refl _ w).drewN nl) (Or.inl rfl) _
   clear h0 h1 h2 h3 hf2 HW h
   go_wp2
   go_ret
   refine⟨.slice (some ⟨g,off+p,none⟩) (p+m-p) (p+m-p),rfl,?_,Or.inr rfl,HB.out.drewN _,HT.out.drewN _,by simp [World.setCell,World.drewN]⟩
   rw [hpp]
   refine Qtl (fun j u hj=>?_) p m hm (by unfold maxLen;omega)
   exact ((HT.out.drewN _).cell (p:=⟨g,off+j,none⟩) (Qaa (hcells j u hj)) (by have:=HB.out.ne;simpa [Value.ownBlock] using this)).trans (hcells j u hj)
theorem Qmy (b p:Nat) (m:Int) (rv:Value) (rs:List Int) (w:World) (h:RdS w b rv rs p 0) (hm:(rs.length:Int)<p+m) (hmm:m≤9223372036854775807) :
  Calls Tryz.prog 250 #[.pointer (some ⟨b,0,none⟩),.int .i64 m] w fun e w'=>e=.returned (.slice none 0 0)∧RdS w' b rv rs p 10∧Touch (fun k=>k=b) w w'∧w'.heap.size=w.heap.size:=by
 have hple:=h.ple
 have hm1:(rs.length:Int)-p<m:=by omega
 have hm2:¬m<0:=by omega
 have HW:∀n,RdS (w.drewN n) b rv rs p 0:=fun n=>h.drewN n
 have hlt:=Qaa h.made
 clear hm
 go_enter Tryz.func250,Tryz.ntmps250
 go_wp2_with (first|(go_at_call 179;refine (Qe5 _ p _ rs _ h).mono ?_;rintro e w' ⟨rfl,nl,rfl⟩)|(go_at_call 249;refine (Qmf _ 10 _ (HW _).made (HW _).err (HW _).f3).mono ?_;rintro e w' ⟨rfl,rfl⟩)|(go_at_call 214;refine (Qa7 _ 10 _ ((HW _).setErr 10).made ((HW _).setErr 10).err).mono ?_;rintro e w' ⟨rfl,rfl⟩))
 go_ret
 exact⟨rfl,(HW _).setErr 10,Touch.setCell (F:=fun k=>k=b) (p:=⟨b,3,none⟩) ((Touch.refl _ w).drewN _) (Or.inl rfl) _,by simp [World.setCell,World.drewN]⟩
def numVal (l:List Int):Int:=l.foldl (fun a x=>a*256+x) 0
theorem Qh0 (l:List Int) (x:Int):numVal (l++[x])=numVal l*256+x:=by simp [numVal]
theorem Qe8 (l:List Int) (k:Nat) (h:k<l.length):numVal (l.take (k+1))=numVal (l.take k)*256+l.getD k 0:=by
 rw [List.take_succ_eq_append_getElem h,Qh0];simp [List.getD,h]
theorem Qm1 (l:List Int) (hb:∀x∈l,0≤x∧x<256) (k:Nat):0≤numVal (l.take k)∧numVal (l.take k)<256 ^ k:=by
 induction k with
 | zero=>simp [numVal]
 | succ k ih =>
  by_cases h:k<l.length
  ·rw [Qe8 l k h]
   have hx:=hb (l.getD k 0) (by simp [List.getD,h])
   have e:(256:Int) ^ (k+1)=256 ^ k*256:=Int.pow_succ _ _
   omega
  ·rw [List.take_of_length_le (by omega)] at ih ⊢
   have e:(256:Int) ^ (k+1)=256 ^ k*256:=Int.pow_succ _ _
   have:(0:Int)<256 ^ k:=Int.pow_pos (by decide)
   omega
theorem Qwi (k:Nat) (h:k≤3):(256:Int) ^ k≤16777216:=by
 rcases (by omega:k=0∨k=1∨k=2∨k=3) with rfl|rfl|rfl|rfl <;> decide
theorem Qvv (x y:Int) (hx:0≤x) (hx1:x<16777216) (hy:0≤y) (hy1:y<256):bits .or .u32 (x*256) y=x*256+y:=by
 rw [u32_or _ _ (by omega) (by omega) (by omega) (by omega)]
 have e1:(x*256).toNat=x.toNat <<< 8:=by rw [Nat.shiftLeft_eq];omega
 rw [e1,←Nat.shiftLeft_add_eq_or_of_lt (by omega),Nat.shiftLeft_eq]
 omega
theorem Qnc {rs:List Int} (hb:∀x∈rs,0≤x∧x<256) (p m:Nat):∀x∈(rs.drop p).take m,0≤x∧x<256 :=
 fun x hx=>hb x (List.mem_of_mem_drop (List.mem_of_mem_take hx))
theorem Qt4 (b p m:Nat) (rv:Value) (rs:List Int) (w:World) (h:RdS w b rv rs p 0) (hm1:1≤m) (hm:p+m≤rs.length) :
  Calls Tryz.prog 250 #[.pointer (some ⟨b,0,none⟩),.int .i64 m] w fun e w'=>∃(g off c:Nat) (zs:List Int),e=.returned (.slice (some ⟨g,off,none⟩) m c)∧Hid (zs=(rs.drop p).take m)∧zs.length=m ∧
   (∀j,j<m→w'.cell? ⟨g,off+j,none⟩=some (.int .u8 (zs.getD j 0)))∧Hid (∀x∈zs,0≤x∧x<256)∧Hid (RdS w' b rv rs (p+m) 0∧Touch (fun k=>k=b) w w'∧w'.heap.size=w.heap.size):=by
 refine (Quq b p m rv rs w h hm).mono ?_
 rintro e w' ⟨sv,rfl,hrow,hown,hrd,ht,hsz⟩
 have hl:((rs.drop p).take m).length=m:=by simp;omega
 rcases hrow with⟨_,e⟩|⟨g,off,c,rfl,h1,h2,h3⟩
 ·rw [e] at hl;simp at hl;omega
 ·refine⟨g,off,c,_,by rw [hl],rfl,hl,fun j hj=>h3 j _ ?_,Qnc h.byte p m,hrd,ht,hsz⟩
  simp only [bytesOf,List.getElem?_map]
  rw [List.getElem?_eq_getElem (by omega)]
  simp [List.getD,hl,hj]
theorem Qki (b p m:Nat) (rv:Value) (rs:List Int) (w:World) (h:RdS w b rv rs p 0) (hm1:1≤m) (hm4:m≤4) (hm:p+m≤rs.length) :
  Calls Tryz.prog 234 #[.pointer (some ⟨b,0,none⟩),.int .i64 m] w fun e w'=>e=.returned (.int .u32 (numVal ((rs.drop p).take m))) ∧
   RdS w' b rv rs (p+m) 0∧Touch (fun k=>k=b) w w'∧w'.heap.size=w.heap.size:=by
 have hd1:decide ((m:Int)<1)=false:=by simp;omega
 have hd2:decide ((4:Int)<m)=false:=by simp;omega
 go_enter Tryz.func234,Tryz.ntmps234
 go_wp2_with (go_at_call 250;refine (Qt4 _ p m _ rs _ h hm1 hm).mono ?_;rintro e w' ⟨g,off,c,zs,rfl,hzs,hzl,hcell,hby,hrest⟩)
 go_loop [5,20] (fun v i=>∃k:Nat,k≤m∧i=.int .i64 k∧v=.int .u32 (numVal (zs.take k))) (fun _ i=>m-(intOf i).toNat)
 case atStart=>exact⟨0,Nat.zero_le _,rfl,rfl⟩
 case round =>
  obtain⟨k,hk,rfl,rfl⟩:=hrel
  by_cases hlt:k<m
  ·have hc:=hcell k hlt
   obtain⟨z,hz⟩:∃z,z=zs.getD k 0:=⟨_,rfl⟩
   rw [←hz] at hc
   have hx:=hby.out z (by rw [hz];simp [List.getD,show k<zs.length by omega])
   obtain⟨hx0,hx1⟩:=hx
   obtain⟨V,hV⟩:∃V,V=numVal (zs.take k):=⟨_,rfl⟩
   have hb:=Qm1 zs hby.out k
   have hb3:=Qwi k (by omega)
   have HS:Hid (numVal (zs.take (k+1))=V*256+z):=by show _=_;rw [Qe8 zs k (by omega),hV,hz]
   rw [←hV] at hb ⊢
   have hV1:V<16777216:=by omega
   have hV0:0≤V:=hb.1
   have hor:=Qvv V z hV0 hV1 hx0 hx1
   clear hb hb3 hV hz hcell
   go_wp2
   go_round
   case rel=>exact⟨k+1,by omega,by go_num,by rw [HS.out]⟩
   case measure=>simp [intOf];omega
  ·go_wp2
   go_ret
   obtain rfl:k=m:=by omega
   obtain⟨a,b',c'⟩:=hrest.out
   exact⟨Qat (by rw [←hzs.out,List.take_of_length_le (by omega)]),a,b',c'⟩
end Go.Proofs.YtddbffoiadmffaaGreat
