import Derived.DeepKeys3
import Derived.WideKeyEntry
import Derived.Maps.RangeRun
import Derived.Deep.Slices
import Derived.SizedLaws
import Derived.OpenShut
import Derived.Laws.AppendOwnNone
import Derived.Test.YtddbffoiadmffaaGreatInMath
import Derived.Lib.AppendZerosOnto
import Derived.Lib.Walk
namespace Go.Proofs.YtddbffoiadmffaaGreat
set_option maxHeartbeats 8000000
open Go.RowKit
open Go.ChangeMaps (setBlock)
open Go.MapKept
set_option linter.unusedVariables false
set_option maxRecDepth 100000
structure MK (K M E:TypeId) (z:Value):Prop where
 law:WideMaps.KeyLaw Tryz.prog K
 und:Tryz.prog.underlying M=some (.map K E)
 zero:∀w,(zeroValue E).run Tryz.prog w=.ok z w
structure AM (w:World) (K:TypeId) (m:Nat) (l:List (Value×Value)):Prop where
 out:∃es c,w.heap[m]?=some (.map es c)∧es.toList.map (fun e=>(e.key,e.val))=l∧(es.toList.map (·.born)).Nodup∧(∀e∈es.toList,e.born<c)
 keys:∀p∈l,∃q,Go.keyOf Tryz.prog K p.1=some q
 nd:(l.map Prod.fst).Nodup
theorem AM.lt {w:World} {K:TypeId} {m:Nat} {l:List (Value×Value)} (h:AM w K m l):m<w.heap.size:=by
 obtain⟨es,c,h1,-⟩:=h.out
 exact Qat h1
theorem AM.keep {F:Nat→Prop} {w w':World} {K:TypeId} {m:Nat} {l:List (Value×Value)} (h:AM w K m l) (t:Touch F w w') (hm:¬F m):AM w' K m l:=by
 have hl:=h.lt
 obtain⟨⟨es,c,h1,h2⟩,h3,h4⟩:=h
 exact⟨⟨es,c,(t.block m hl hm).trans h1,h2⟩,h3,h4⟩
theorem AM.keepN {w w':World} {K:TypeId} {m:Nat} {l:List (Value×Value)} (h:AM w K m l) (t:Touch (fun _=>False) w w'):AM w' K m l:=h.keep t (fun h=>h)
theorem AM.made (w:World) (K:TypeId) (c:Nat):AM (w.alloc (.map #[] c)) K w.heap.size [] :=
 ⟨⟨#[],c,by show (w.heap.push _)[w.heap.size]?=_;simp,rfl,by simp,by simp⟩,by simp,by simp⟩
theorem Qdq {w:World} {m:Nat} {o o':Obj} (h:w.heap[m]?=some o):Touch (fun k=>k=m) w (setBlock w m o'):=by
 refine⟨rfl,rfl,rfl,by simp [setBlock],fun k hk hn=>?_⟩
 show (w.heap.setIfInBounds m o')[k]?=_
 rw [Array.getElem?_setIfInBounds,if_neg (fun e=>hn e.symm)]
theorem Qh3 {w:World} {m:Nat} {o o':Obj} (h:w.heap[m]?=some o):(setBlock w m o').heap[m]?=some o':=by
 show (w.heap.setIfInBounds m o')[m]?=_
 rw [Array.getElem?_setIfInBounds,if_pos rfl,if_pos (Qat h)]
theorem Qcz {K:TypeId} {es:Array MapEntry} {l:List (Value×Value)} (h2:es.toList.map (fun e=>(e.key,e.val))=l) (ok:∀p∈l,∃q,Go.keyOf Tryz.prog K p.1=some q):∀e∈es.toList,∃q,Go.keyOf Tryz.prog K e.key=some q:=by
 intro e he
 exact ok (e.key,e.val) (by rw [←h2];exact List.mem_map.2 ⟨e,he,rfl⟩)
theorem Qdn {es:Array MapEntry} {l:List (Value×Value)} (h2:es.toList.map (fun e=>(e.key,e.val))=l) {j:Nat} {e:MapEntry} (hj:es.toList[j]?=some e):l[j]?=some (e.key,e.val):=by
 rw [←h2,List.getElem?_map,hj];rfl
theorem AM.len {w:World} {K:TypeId} {m:Nat} {l:List (Value×Value)} (h:AM w K m l) {M:TypeId} (hu:Tryz.prog.underlying M=some (.map (Tryz.prog.mapKeyOf M) (Tryz.prog.mapElemOf M))) (ty:TypeId):(Builtin.len_ #[M] ty #[.map (some m)]).run Tryz.prog w=.ok (.int .i64 l.length) w:=by
 obtain⟨⟨es,c,h1,h2,-⟩,-⟩:=h
 rw [run_len_map w _ ty m es c hu h1]
 have:es.size=l.length:=by rw [←h2];simp
 rw [this]
 rfl
theorem AM.miss {K M E:TypeId} {z:Value} (kt:MK K M E z) {w:World} {m:Nat} {l:List (Value×Value)} (h:AM w K m l) {k:Value} {q:Lit} (hk:Go.keyOf Tryz.prog K k=some q) (hn:∀p∈l,p.1≠k) :
  (Instr.lookup M (.map (some m)) k true).run Tryz.prog w=.ok (.tuple #[z,.bool false]) w:=by
 obtain⟨⟨es,c,h1,h2,-⟩,ok,nd⟩:=h
 rcases kt.law.find w hk es.toList (Qcz h2 ok) with⟨g1,-⟩|⟨j,e,g1,g2,g3⟩
 ·simp [Instr.lookup,run_underlying kt.und,MapKept.run_getObj_map h1,kt.law.check w es.isEmpty hk,g1,kt.zero w,Result.andThen]
 ·exact absurd g3 (hn _ (List.mem_of_getElem? (Qdn h2 g2)))
theorem Qkv {l:List (Value×Value)} (nd:(l.map Prod.fst).Nodup) {i j:Nat} {k v v':Value} (h1:l[i]?=some (k,v)) (h2:l[j]?=some (k,v')):i=j:=by
 have a1:(l.map Prod.fst)[i]?=some k:=by rw [List.getElem?_map,h1];rfl
 have a2:(l.map Prod.fst)[j]?=some k:=by rw [List.getElem?_map,h2];rfl
 exact (List.getElem?_inj (List.getElem?_eq_some_iff.1 a1).1 nd).1 (a1.trans a2.symm)
theorem AM.hit {K M E:TypeId} {z:Value} (kt:MK K M E z) {w:World} {m:Nat} {l:List (Value×Value)} (h:AM w K m l) {k v:Value} {j:Nat} (hj:l[j]?=some (k,v)) :
  (Instr.lookup M (.map (some m)) k true).run Tryz.prog w=.ok (.tuple #[v,.bool true]) w:=by
 obtain⟨⟨es,c,h1,h2,-⟩,ok,nd⟩:=h
 obtain⟨q,hk⟩:∃q,Go.keyOf Tryz.prog K k=some q:=ok _ (List.mem_of_getElem? hj)
 rcases kt.law.find w hk es.toList (Qcz h2 ok) with⟨-,g2⟩|⟨i,e,g1,g2,g3⟩
 ·exfalso
  have:(k,v)∈es.toList.map (fun e=>(e.key,e.val)):=by rw [h2];exact List.mem_of_getElem? hj
  obtain⟨e,he,e1⟩:=List.mem_map.1 this
  exact g2 e he (congrArg Prod.fst e1)
 ·have g4:=Qdn h2 g2
  rw [g3] at g4
  have hij:=Qkv nd g4 hj
  subst hij
  have e2:e.val=v:=by rw [g4] at hj;injection hj with hj;exact congrArg Prod.snd hj
  have g2':es[i]?=.some e:=by simpa using g2
  simp [Instr.lookup,run_underlying kt.und,MapKept.run_getObj_map h1,kt.law.check w es.isEmpty hk,g1,Result.andThen,e2]
theorem AM.putNew {K M E:TypeId} {z:Value} (kt:MK K M E z) {w:World} {m:Nat} {l:List (Value×Value)} (h:AM w K m l) {k:Value} {q:Lit} (v:Value) (hk:Go.keyOf Tryz.prog K k=some q) (hn:∀p∈l,p.1≠k) :
  ∃w',(Instr.mapUpdate M (.map (some m)) k v).run Tryz.prog w=.ok () w'∧AM w' K m (l++[(k,v)])∧Touch (fun k=>k=m) w w':=by
 obtain⟨⟨es,n,h1,h2,h3,h4⟩,ok,nd⟩:=h
 rcases kt.law.find w hk es.toList (Qcz h2 ok) with⟨g1,-⟩|⟨j,e,g1,g2,g3⟩
 ·refine⟨setBlock w m (.map (es.push ⟨k,v,n⟩) (n+1)),?_,⟨⟨_,_,Qh3 h1,?_,?_,?_⟩,?_,?_⟩,Qdq h1⟩
  ·simp [Instr.mapUpdate,run_underlying kt.und,MapKept.run_getObj_map h1,kt.law.check w false hk,g1,MapKept.run_setObj_map _ h1,Result.andThen,setBlock]
  ·simp [h2]
  ·rw [Array.toList_push,List.map_append,List.nodup_append]
   refine⟨h3,by simp,fun a ha b hb=>?_⟩
   obtain⟨e,he,rfl⟩:=List.mem_map.1 ha
   obtain rfl:b=n:=by simpa using hb
   have:=h4 e he
   omega
  ·intro e he
   rw [Array.toList_push] at he
   rcases List.mem_append.1 he with he|he
   ·have:=h4 e he;omega
   ·obtain rfl:e=⟨k,v,n⟩:=by simpa using he
    exact Nat.lt_succ_self _
  ·intro p hp
   rcases List.mem_append.1 hp with hp|hp
   ·exact ok p hp
   ·obtain rfl:p=(k,v):=by simpa using hp
    exact⟨q,hk⟩
  ·rw [List.map_append,List.nodup_append]
   refine⟨nd,by simp,fun a ha b hb=>?_⟩
   obtain⟨p,hp,rfl⟩:=List.mem_map.1 ha
   obtain rfl:b=k:=by simpa using hb
   exact hn p hp
 ·exact absurd g3 (hn _ (List.mem_of_getElem? (Qdn h2 g2)))
theorem AM.putOld {K M E:TypeId} {z:Value} (kt:MK K M E z) {w:World} {m:Nat} {l:List (Value×Value)} (h:AM w K m l) {k v0:Value} (v:Value) {j:Nat} (hj:l[j]?=some (k,v0)) :
  ∃w',(Instr.mapUpdate M (.map (some m)) k v).run Tryz.prog w=.ok () w'∧AM w' K m (l.set j (k,v))∧Touch (fun k=>k=m) w w':=by
 obtain⟨⟨es,n,h1,h2,h3,h4⟩,ok,nd⟩:=h
 obtain⟨q,hk⟩:∃q,Go.keyOf Tryz.prog K k=some q:=ok _ (List.mem_of_getElem? hj)
 rcases kt.law.find w hk es.toList (Qcz h2 ok) with⟨-,g2⟩|⟨i,e,g1,g2,g3⟩
 ·exfalso
  have:(k,v0)∈es.toList.map (fun e=>(e.key,e.val)):=by rw [h2];exact List.mem_of_getElem? hj
  obtain⟨e,he,e1⟩:=List.mem_map.1 this
  exact g2 e he (congrArg Prod.fst e1)
 ·have g4:=Qdn h2 g2
  rw [g3] at g4
  have hij:=Qkv nd g4 hj
  subst hij
  have g2':es[i]?=.some e:=by simpa using g2
  have hm:(es.modify i (fun e'=>{ e' with key:=k,val:=v })).toList=es.toList.set i { e with key:=k,val:=v }:=by
   rw [Array.toList_modify,ChangeMaps.modify_eq_set _ _ _ _ g2]
  refine⟨setBlock w m (.map (es.modify i (fun e'=>{ e' with key:=k,val:=v })) n),?_,⟨⟨_,_,Qh3 h1,?_,?_,?_⟩,?_,?_⟩,Qdq h1⟩
  ·simp [Instr.mapUpdate,run_underlying kt.und,MapKept.run_getObj_map h1,kt.law.check w false hk,g1,g2',g3,kt.law.stays w hk,MapKept.run_setObj_map _ h1,Result.andThen,setBlock]
  ·rw [hm,List.map_set,h2]
  ·rw [hm,List.map_set]
   have e5:(es.toList.map (·.born)).set i e.born=es.toList.map (·.born):=by
    apply List.ext_getElem?
    intro x
    rw [List.getElem?_set]
    split
    ·rename_i hx
     subst hx
     rw [List.getElem?_map,g2]
     have:=(List.getElem?_eq_some_iff.1 g2).1
     simpa using this
    ·rfl
   rw [e5]
   exact h3
  ·intro e' he
   rw [hm] at he
   rcases List.mem_or_eq_of_mem_set he with he|rfl
   ·exact h4 e' he
   ·exact h4 e (List.mem_of_getElem? g2)
  ·intro p hp
   rcases List.mem_or_eq_of_mem_set hp with hp|rfl
   ·exact ok p hp
   ·exact⟨q,hk⟩
  ·rw [List.map_set]
   have e5:(l.map Prod.fst).set i k=l.map Prod.fst:=by
    apply List.ext_getElem?
    intro x
    rw [List.getElem?_set]
    split
    ·rename_i hx
     subst hx
     rw [List.getElem?_map,hj]
     simp [(List.getElem?_eq_some_iff.1 hj).1]
    ·rfl
   show ((l.map Prod.fst).set i k).Nodup
   rw [e5]
   exact nd
open Go.RowKit Go.ChangeShapes Go.WideShapes Go.ChangeAt
def ArgAt (w:World) (v:Value) (rs:List Int):Prop :=
 (v=.slice none 0 0∧rs=[])∨∃ad c,v=.slice (some ad) rs.length c∧rs.length≤c∧c≤maxLen∧∀j u,(bytesOf rs)[j]?=some u→w.cell? (ad.add j)=some u
theorem RowAt.arg {w:World} {v:Value} {rs:List Int} (h:RowAt w v rs):ArgAt w v rs:=by
 rcases h with h|⟨g,off,c,rfl,h1,h2,h3⟩
 ·exact Or.inl h
 ·exact Or.inr ⟨_,c,rfl,h1,h2,fun j u hj=>by rw [Qae];exact h3 j u hj⟩
theorem ArgAt.form {w:World} {v:Value} {rs:List Int} (h:ArgAt w v rs):∃a c,v=.slice a rs.length c∧rs.length≤maxLen:=by
 rcases h with⟨rfl,rfl⟩|⟨ad,c,rfl,h1,h2,h3⟩
 ·exact⟨_,_,rfl,Nat.zero_le _⟩
 ·exact⟨_,_,rfl,Nat.le_trans h1 h2⟩
theorem ArgAt.row {w:World} {v:Value} {rs:List Int} (h:ArgAt w v rs) (hp:0<rs.length):RowAt w v rs:=by
 rcases h with⟨rfl,rfl⟩|⟨ad,c,rfl,h1,h2,h3⟩
 ·exact Or.inl ⟨rfl,rfl⟩
 ·obtain⟨g,off,spot⟩:=ad
  have hc:=h3 0 (.int .u8 rs[0]) (by simp [bytesOf,hp])
  have hspot:spot=none:=by simpa [Addr.add] using World.cell?_spot hc
  subst hspot
  exact Or.inr ⟨g,off,c,rfl,h1,h2,fun j u hj=>by have:=h3 j u hj;rwa [Qae] at this⟩
theorem ArgAt.keep {F:Nat→Prop} {w w':World} {v:Value} {rs:List Int} (h:ArgAt w v rs) (t:Touch F w w') (hF:∀k,k<w.heap.size→¬F k):ArgAt w' v rs:=by
 rcases h with h|⟨ad,c,rfl,h1,h2,h3⟩
 ·exact Or.inl h
 ·refine Or.inr ⟨ad,c,rfl,h1,h2,fun j u hj=>?_⟩
  have hc:=h3 j u hj
  exact (t.cell (Qcp hc) (hF _ (Qcp hc))).trans hc
section
variable {H:Type} {enc:TypeId×Value→H} {w:World} {base:Nat} {held:Bool}
end
theorem Qfs {w:World} {g off c n:Nat} {rs:List Int} (h:RowAt w (.slice (some ⟨g,off,none⟩) n c) rs) (j:Nat) (hj:j<rs.length):w.cell? ⟨g,off+j,none⟩=some (.int .u8 (rs.getD j 0)):=by
 rcases h with⟨h,_⟩|⟨g',off',c',h,_,_,h3⟩
 ·simp at h
 ·simp at h
  obtain⟨⟨rfl,rfl⟩,_,_⟩:=h
  exact h3 j _ (by simp [bytesOf,List.getElem?_eq_getElem hj,List.getD])
theorem Qd9 {w:World} {a:Option Addr} {n c:Nat} {rs:List Int} (h:RowAt w (.slice a n c) rs) (hn:0<n):∃g off,a=some ⟨g,off,none⟩:=by
 rcases h with⟨h,_⟩|⟨g',off',c',h,_⟩
 ·simp at h;omega
 ·simp at h;exact⟨g',off',h.1⟩
theorem Tryz.info5w:(Tryz.prog.info? 5).map (fun i=>(i.zero,i.size,i.bytes))=some (some (.int .u8 0),1,1):=by kernel_rfl
structure Buf (w0 w:World) (v:Value) (l:List Int):Prop where
 own:w.ownsRow w0.heap.size 5 1 v l.length (bytesOf l)
 t:Touch (fun _=>False) w0 w
theorem Buf.keep {w0 w w':World} {v:Value} {l:List Int} (h:Buf w0 w v l) (t:Touch (fun _=>False) w w'):Buf w0 w' v l:=⟨Qab h.own t (fun _ _ h=>h),h.t.trans t⟩
theorem Buf.back {w0 w w':World} {v:Value} {l:List Int} (h:Buf w w' v l) (t:Touch (fun _=>False) w0 w):Buf w0 w' v l:=by
 refine⟨⟨h.own.1,?_⟩,t.trans h.t⟩
 rcases h.own.2 with h2|⟨g,cap,cur,hv,hb,hr⟩
 ·exact Or.inl h2
 ·exact Or.inr ⟨g,cap,cur,hv,Nat.le_trans t.size hb,hr⟩
theorem Buf.nil {w0 w:World} (t:Touch (fun _=>False) w0 w):Buf w0 w (.slice none 0 0) []:=⟨World.ownsRow_nil _ _ _ _,t⟩
theorem Buf.form {w0 w:World} {v:Value} {l:List Int} (h:Buf w0 w v l):∃a c,v=.slice a l.length c:=by
 rcases h.own.2 with⟨rfl,e⟩|⟨g,cap,cur,rfl,_⟩
 ·exact⟨none,0,by rw [e]⟩
 ·exact⟨_,cap,rfl⟩
theorem Buf.arg {w0 w:World} {v:Value} {l:List Int} (h:Buf w0 w v l):ArgAt w v l:=(Qcw h.own).arg
theorem Buf.appended {w0 w w':World} {v v':Value} {l r:List Int} (h:Buf w0 w v l) (hown:w'.ownsRow w0.heap.size 5 1 v' (l.length+r.length) (bytesOf l++bytesOf r)) (hg:w.grownBy w' v.ownBlock):Buf w0 w' v' (l++r):=by
 refine⟨?_,h.t.grown hg (fun k hk=>Or.inr (h.own.lt k hk).1)⟩
 rw [List.length_append,Qc6]
 exact hown
section
variable {ops:Array Oper} {rest:List Oper} {o:Oper} {a:Act} {Q:Exit→Act→World→Prop} {w:World}
theorem Qar (hgd:o.guard=none) (s x:Operand) (ho:o.op=.call { callee:=.builtin .append,args:=#[s,x],argTypes:=#[55,55] })
  (w0:World) (v:Value) (l:List Int) (hs:a.eval s=v) (hb:Buf w0 w v l) (vx:Value) (r:List Int) (hx:a.eval x=vx) (hr:ArgAt w vx r) (hl:l.length+r.length≤1099511627776)
  (h:∀v' w',Buf w0 w' v' (l++r)→wpList Tryz.prog ops Q rest (a.put o.dst v') w'):wpList Tryz.prog ops Q (o::rest) a w:=by
 obtain⟨i0,hi,hz0,hz1,hz2⟩:=info_parts Tryz.info5w
 rcases hr with⟨rfl,rfl⟩|⟨ad,c,rfl,h1,h2,h3⟩
 ·refine wpList_append_own_none hgd s x 55 ho w0.heap.size 5 i0 1 Tryz.underlying55 hi v l.length (bytesOf l) hs hb.own hx ?_
  exact h v w (by rw [List.append_nil];exact hb)
 ·refine wpList_append_own_at w hgd s x 55 ho w0.heap.size 5 i0 (.int .u8 0) 1 1 Tryz.underlying55 hi hz0 hz1 hz2 rfl (by decide) v l.length (bytesOf l) hs hb.own ad r.length c (bytesOf r) hx (by simp [Qbr]) h3 (Qbn r) (by unfold maxLen;omega) (by omega) hb.t.size ?_
  intro v' w' hown hg _ _
  exact h v' w' (hb.appended hown hg)
theorem Qd2 (hgd:o.guard=none) (s x:Operand) (ho:o.op=.call { callee:=.builtin .append,args:=#[s,x],argTypes:=#[55,55] })
  (w0:World) (v:Value) (l:List Int) (hs:a.eval s=v) (hb:Buf w0 w v l) (z:Int) (hx:a.eval x=.slice (some ⟨w.heap.size,0,none⟩) 1 1) (hl:l.length<1099511627776)
  (h:∀v' w',Buf w0 w' v' (l++[z])→wpList Tryz.prog ops Q rest (a.put o.dst v') w'):wpList Tryz.prog ops Q (o::rest) a (w.alloc (.cells #[.int .u8 z] 5)) :=
 Qar hgd s x ho w0 v l hs (hb.keep ((Touch.refl _ w).alloc _)) _ [z] hx (Or.inr ⟨_,1,rfl,by simp,by simp [maxLen],cell_one_new w _ _⟩) (by simp;omega) h
end
def ValsAt (w:World) (k:Nat) (v:Value) (n:Nat) (xs:List Value):Prop :=
 xs.length=n*k∧((v=.slice none 0 0∧n=0)∨∃ad c,v=.slice (some ad) n c∧n≤c∧c≤maxLen∧∀j u,xs[j]?=some u→w.cell? (ad.add j)=some u)
theorem ValsAt.form {w:World} {k:Nat} {v:Value} {n:Nat} {xs:List Value} (h:ValsAt w k v n xs):∃a c,v=.slice a n c∧n≤maxLen:=by
 rcases h.2 with⟨rfl,rfl⟩|⟨ad,c,rfl,h1,h2,_⟩
 ·exact⟨_,_,rfl,Nat.zero_le _⟩
 ·exact⟨_,_,rfl,Nat.le_trans h1 h2⟩
theorem ValsAt.keep {w w':World} {k:Nat} {v:Value} {n:Nat} {xs:List Value} (h:ValsAt w k v n xs) (t:Touch (fun _=>False) w w'):ValsAt w' k v n xs:=by
 refine⟨h.1,?_⟩
 rcases h.2 with h|⟨ad,c,rfl,h1,h2,h3⟩
 ·exact Or.inl h
 ·exact Or.inr ⟨ad,c,rfl,h1,h2,fun j u hj=>t.cellN (h3 j u hj)⟩
theorem ValsAt.cells {w:World} {k:Nat} {v:Value} {n:Nat} {xs:List Value} (h:ValsAt w k v n xs) (hn:0<n) (hk:0<k) :
  ∃g off c,v=.slice (some ⟨g,off,none⟩) n c∧n≤c∧c≤maxLen∧∀j u,xs[j]?=some u→w.cell? ⟨g,off+j,none⟩=some u:=by
 obtain⟨hl,h⟩:=h
 rcases h with⟨_,rfl⟩|⟨ad,c,rfl,h1,h2,h3⟩
 ·omega
 ·have hp:0<xs.length:=by rw [hl];exact Nat.mul_pos hn hk
  obtain⟨g,off,spot⟩:=ad
  have hc:=h3 0 xs[0] (by simp [hp])
  have hspot:spot=none:=by simpa [Addr.add] using World.cell?_spot hc
  subst hspot
  exact⟨g,off,c,rfl,h1,h2,fun j u hj=>by have:=h3 j u hj;rwa [Qae] at this⟩
structure VBuf (e k:Nat) (w0 w:World) (v:Value) (n:Nat) (xs:List Value):Prop where
 own:w.ownsRow w0.heap.size e k v n xs
 t:Touch (fun _=>False) w0 w
theorem VBuf.keep {e k:Nat} {w0 w w':World} {v:Value} {n:Nat} {xs:List Value} (h:VBuf e k w0 w v n xs) (t:Touch (fun _=>False) w w'):VBuf e k w0 w' v n xs:=⟨Qab h.own t (fun _ _ h=>h),h.t.trans t⟩
theorem VBuf.back {e k:Nat} {w0 w w':World} {v:Value} {n:Nat} {xs:List Value} (h:VBuf e k w w' v n xs) (t:Touch (fun _=>False) w0 w):VBuf e k w0 w' v n xs:=by
 refine⟨⟨h.own.1,?_⟩,t.trans h.t⟩
 rcases h.own.2 with h2|⟨g,cap,cur,hv,hb,hr⟩
 ·exact Or.inl h2
 ·exact Or.inr ⟨g,cap,cur,hv,Nat.le_trans t.size hb,hr⟩
theorem VBuf.nil (e k:Nat) {w0 w:World} (t:Touch (fun _=>False) w0 w):VBuf e k w0 w (.slice none 0 0) 0 []:=⟨World.ownsRow_nil _ _ _ _,t⟩
theorem VBuf.form {e k:Nat} {w0 w:World} {v:Value} {n:Nat} {xs:List Value} (h:VBuf e k w0 w v n xs):∃a c,v=.slice a n c:=by
 rcases h.own.2 with⟨rfl,e⟩|⟨g,cap,cur,rfl,_⟩
 ·exact⟨none,0,by rw [e]⟩
 ·exact⟨_,cap,rfl⟩
theorem VBuf.vals {e k:Nat} {w0 w:World} {v:Value} {n:Nat} {xs:List Value} (h:VBuf e k w0 w v n xs):ValsAt w k v n xs:=by
 refine⟨h.own.1,?_⟩
 rcases h.own.2 with h2|⟨g,cap,cur,hv,hb,hh,h1,h2,h3,h4⟩
 ·exact Or.inl h2
 ·refine Or.inr ⟨_,cap,hv,h1,h2,fun j u hj=>?_⟩
  have hjl:=(List.getElem?_eq_some_iff.mp hj).1
  have hl:=h.own.1
  rw [Qae,Nat.zero_add]
  rw [←h4,List.getElem?_take,if_pos (by omega)] at hj
  simp [World.cell?,hh]
  simpa using hj
section
variable {ops:Array Oper} {rest:List Oper} {o:Oper} {a:Act} {Q:Exit→Act→World→Prop} {w:World}
theorem Qbp (hgd:o.guard=none) (s x:Operand) (t:TypeId) (ho:o.op=.call { callee:=.builtin .append,args:=#[s,x],argTypes:=#[t,t] })
  (e k bytes:Nat) (z:Value) (ht:Tryz.prog.underlying t=some (.slice e)) (hi:(Tryz.prog.info? e).map (fun i=>(i.zero,i.size,i.bytes))=some (some z,k,bytes)) (hzs:z.cells.size=k) (hk:0<k) (hby:bytes≤64)
  (w0:World) (v:Value) (n:Nat) (xs:List Value) (hs:a.eval s=v) (hb:VBuf e k w0 w v n xs) (vx:Value) (m:Nat) (news:List Value) (hx:a.eval x=vx) (hr:ValsAt w k vx m news) (h1:∀u∈news,u.oneCell'=true) (hl:n+m≤1099511627776)
  (h:∀v' w',VBuf e k w0 w' v' (n+m) (xs++news)→wpList Tryz.prog ops Q rest (a.put o.dst v') w'):wpList Tryz.prog ops Q (o::rest) a w:=by
 obtain⟨i0,hi,hz0,hz1,hz2⟩:=info_parts hi
 obtain⟨hnl,hr⟩:=hr
 rcases hr with⟨rfl,rfl⟩|⟨ad,c,rfl,h2,h3,h4⟩
 ·have hn0:news=[]:=List.length_eq_zero_iff.1 (by omega)
  subst hn0
  refine wpList_append_own_none hgd s x t ho w0.heap.size e i0 k ht hi v n xs hs hb.own hx ?_
  exact h v w (by rw [List.append_nil];exact hb)
 ·have hmul:(n+m)*bytes≤1099511627776*64:=Nat.mul_le_mul hl hby
  refine wpList_append_own_at w hgd s x t ho w0.heap.size e i0 z k bytes ht hi hz0 hz1 hz2 hzs hk v n xs hs hb.own ad m c news hx hnl h4 h1 (by unfold maxLen;omega) (by omega) hb.t.size ?_
  intro v' w' hown hg _ _
  exact h v' w' ⟨hown,hb.t.grown hg (fun k hk=>Or.inr (hb.own.lt k hk).1)⟩
end
abbrev HpB (w0 w:World) (v:Value) (l:List HK):Prop:=VBuf 48 3 w0 w v l.length (cellsG HK.cs l)
theorem HpB.more {w0 w:World} {v:Value} {l l':List HK} {n:Nat} (hn:n=l.length+l'.length) (h:VBuf 48 3 w0 w v n (cellsG HK.cs l++cellsG HK.cs l')):HpB w0 w v (l++l'):=by
 unfold HpB
 rw [List.length_append,Qaq,←hn]
 exact h
theorem oneCellH (l:List HK):∀u∈cellsG HK.cs l,u.oneCell'=true:=by
 intro u hu
 obtain⟨x,-,hx⟩:=List.mem_flatMap.1 hu
 simp [HK.cs] at hx
 rcases hx with rfl|rfl|rfl <;> rfl
abbrev HV3 (w:World) (v:Value) (l:List HK):Prop:=ValsAt w 3 v l.length (cellsG HK.cs l)
theorem Qgs (n:Nat) (w:World) (hn:n≤1099511627776):Calls Tryz.prog 85 #[.slice none 0 0,.int .i64 (n:Int)] w fun e w'=>∃v',e=.returned v'∧HpB w w' v' []:=by
 obtain⟨i0,hi,hz0,hz1,hz2⟩:=infoParts infoHop
 by_cases h0:n=0
 ·subst h0
  go_enter Tryz.func85,Tryz.ntmps85
  go_wp2
  go_ret
  exact⟨_,rfl,VBuf.nil _ _ (Touch.refl _ w)⟩
 ·have h1:¬((n:Int)<0):=by omega
  have h4:(n:Int) > 0:=by omega
  have hold:(Builtin.firstCells i0.size 0 (.slice none 0 0)).run Tryz.prog w.drew=.ok ([]:List Value).toArray w.drew:=by
   simp [Builtin.firstCells]
  have hrz:=fun ty=>Lib.run_append_grow_zeros (P:=Tryz.prog) w 43 3 ty 48 i0 (.agg #[.int .u32 0,.int .u32 0,.bool false]) .i64 .i64 Tryz.underlying43 Tryz.underlying3 hi hz0 none 0 0 [] hold n (by omega) (by omega) (by omega) (by omega) (by rw [hz2];omega) (growslice_fits (by omega) (by rw [hz2];omega))
  have hGn:n≤grownCap w n 0 48:=grownCap_ge w _ _ _
  have hGm:grownCap w n 0 48≤maxLen:=grownCap_le_maxLen w n 0 _ (by unfold maxLen;omega)
  simp only [Nat.zero_add] at hrz
  generalize grownCap w n 0 48=G at hrz hGn hGm
  have hG63:G≤9223372036854775807:=by unfold maxLen at hGm;omega
  have HBB:Hid (HpB w (w.drew.alloc (Obj.cells (([]:List Value).toArray++Builtin.zeroCells (Value.agg #[.int .u32 0,.int .u32 0,.bool false]).cells n++Builtin.zeroCells (Value.agg #[.int .u32 0,.int .u32 0,.bool false]).cells (G-n)) 48)) (.slice (some ⟨w.heap.size,0,none⟩) 0 G) []):=by
   refine⟨⟨rfl,Or.inr ⟨w.heap.size,G,_,rfl,Nat.le_refl _,heap_alloc_new w.drew _,Nat.zero_le _,hGm,?_,by simp [cellsG]⟩⟩,((Touch.refl _ w).drew).alloc _⟩
   simp only [Array.size_append,size_zeroCells]
   simp [Value.cells]
   omega
  generalize hw:(w.drew.alloc (Obj.cells (([]:List Value).toArray++Builtin.zeroCells (Value.agg #[.int .u32 0,.int .u32 0,.bool false]).cells n++Builtin.zeroCells (Value.agg #[.int .u32 0,.int .u32 0,.bool false]).cells (G-n)) 48))=wz at hrz HBB
  clear hold hw hi hz0 hz1 hz2 hGm
  go_enter Tryz.func85,Tryz.ntmps85
  go_wp2_with (at_builtin;refine Lib.wpList_append_run _ rfl _ _ _ _ rfl _ _ rfl rfl _ _ (hrz _) ?_)
  all_goals (go_ret;exact⟨_,rfl,HBB.out⟩)
def CcA (n1 n2:Nat) (s i:Value):Prop:=∃k:Nat,k≤2∧i=.int .i64 (k:Int)∧s=.int .i64 ((if k=0 then 0 else if k=1 then n1 else n1+n2:Nat):Int)
def CcB (w0:World) (r1 r2:List HK) (p i:Value) (wr:World):Prop:=∃k:Nat,k≤2∧i=.int .i64 (k:Int)∧HpB w0 wr p (if k=0 then [] else if k=1 then r1 else r1++r2)
theorem Qlq (gp:Nat) (v1 v2:Value) (r1 r2:List HK) (w:World) (c1:w.cell? ⟨gp,0,none⟩=some v1) (c2:w.cell? ⟨gp,1,none⟩=some v2) (h1:HV3 w v1 r1) (h2:HV3 w v2 r2) (hl1:r1.length≤274877906944) (hl2:r2.length≤274877906944) :
  Calls Tryz.prog 46 #[.slice (some ⟨gp,0,none⟩) 2 2] w fun e w'=>∃v',e=.returned v'∧HpB w w' v' (r1++r2):=by
 obtain⟨a1,k1,rfl,_⟩:=h1.form
 obtain⟨a2,k2,rfl,_⟩:=h2.form
 have H1:Hid (HV3 w (.slice a1 r1.length k1) r1):=h1
 have H2:Hid (HV3 w (.slice a2 r2.length k2) r2):=h2
 clear h1 h2
 go_enter Tryz.func46,Tryz.ntmps46
 go_wp2_with fail
 go_loop [3,11] (fun s i=>CcA r1.length r2.length s i) (fun _ i=>2-(intOf i).toNat)
 case atStart=>exact⟨0,by omega,rfl,rfl⟩
 case round =>
  obtain⟨k,hk,rfl,rfl⟩:=hrel
  match k,hk with
  | 0,_ =>
   simp only [reduceIte]
   go_wp2_with fail
   go_round
   case rel=>exact⟨1,by omega,rfl,by simp⟩
   case measure=>simp [intOf]
  | 1,_ =>
   simp only [reduceIte,Nat.reduceEqDiff]
   go_wp2_with fail
   go_round
   case rel=>exact⟨2,by omega,rfl,by simp⟩
   case measure=>simp [intOf]
  | 2,_ =>
   simp only [reduceIte,Nat.reduceEqDiff]
   have HG:=Qgs (r1.length+r2.length) w (by omega)
   go_wp2_with (first|refine HG.mono ?_;rintro e w1 ⟨p,rfl,hb⟩)
   have HB0:Hid (CcB w r1 r2 p (.int .i64 ((0:Nat):Int)) w1):=⟨0,by omega,rfl,hb⟩
   clear hb HG
   go_wp2_with fail
   go_loopw [6,27] (fun p i wr=>CcB w r1 r2 p i wr) (fun _ i _=>2-(intOf i).toNat)
   case atStart=>exact HB0.out
   case round =>
    clear HB0
    obtain⟨k,hk,rfl,hb⟩:=hrel
    have HT:Hid (Touch (fun _=>False) w wr):=hb.t
    match k,hk with
    | 0,_ =>
     simp only [reduceIte] at hb
     have d1:=HT.out.cellN c1
     go_wp2_with (at_builtin;refine Qbp rfl (.tmp 31) (.tmp 32) 43 rfl 48 3 12 _ Tryz.underlying43 infoHop rfl (by omega) (by omega) w _ 0 (cellsG HK.cs []) rfl hb _ r1.length (cellsG HK.cs r1) rfl (H1.out.keep HT.out) (oneCellH _) (by omega) ?_;intro v' w' hb';replace hb':=HpB.more (l:=[]) (l':=r1) rfl hb';simp only [List.nil_append] at hb')
     go_roundw
     case rel=>exact⟨1,by omega,rfl,hb'⟩
     case measure=>simp [intOf]
    | 1,_ =>
     simp only [reduceIte,Nat.reduceEqDiff] at hb
     have d1:=HT.out.cellN c2
     go_wp2_with (at_builtin;refine Qbp rfl (.tmp 31) (.tmp 32) 43 rfl 48 3 12 _ Tryz.underlying43 infoHop rfl (by omega) (by omega) w _ r1.length (cellsG HK.cs r1) rfl hb _ r2.length (cellsG HK.cs r2) rfl (H2.out.keep HT.out) (oneCellH _) (by omega) ?_;intro v' w' hb';replace hb':=HpB.more (l:=r1) (l':=r2) rfl hb')
     go_roundw
     case rel=>exact⟨2,by omega,rfl,hb'⟩
     case measure=>simp [intOf]
    | 2,_ =>
     simp only [reduceIte,Nat.reduceEqDiff] at hb
     go_wp2_with fail
     go_ret
     exact⟨_,rfl,hb⟩
    | n+3,h=>omega
  | n+3,h=>omega
end Go.Proofs.YtddbffoiadmffaaGreat
