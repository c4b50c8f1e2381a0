import Derived.Test.YtddbffoiadmffaaGreatTrFrom
import Derived.SizedLaws
import Derived.ProofKit
import Derived.OpenShut
import Derived.ChangeOld
import Derived.Deep.Slices
import Derived.Deep.Matrix
import Derived.Deep.RegionLaw
import Derived.DeepKeys3
import Derived.WideKeyEntry
import Derived.Maps.RangeRun
import Derived.WalkKit
namespace Go.Proofs.YtddbffoiadmffaaGreat
open Go.RowKit
set_option linter.unusedVariables false
set_option maxRecDepth 100000
theorem Inv.opt {g:List TN} {M:Int} {E:Nat} (G:GOk g M E) {root x i:Nat} {cur:Sp} {R:Nat→RV} {Z:Nat→Sp} (I:Inv g M root x i cur [] R Z) (hf:(gn g x).edges.length≤i) (hM:M*(g.length:Int)≤4294967295) {v:Nat} {c:Int} (W:Wk g root v c):(R v).is=true∧(R v).cost≤c∧St root R v:=by
 have st:∀v,v<g.length→(R v).is=true→St root R v:=by
  intro v hv h
  by_cases e:v=root
  ·exact Or.inl e
  ·rcases I.wt v hv e h with h|⟨s,h,_⟩
   ·exact Or.inr h
   ·cases h
 have hcn:M*(cnt g root R:Int)≤M*(g.length:Int):=Int.mul_le_mul_of_nonneg_left (by have:=Qum g root R;omega) G.m0
 induction W with
 | nil hu=>rw [I.rr];exact⟨rfl,Int.le_refl _,Or.inl rfl⟩
 | @snoc v y c e W he hd hy ih =>
  obtain⟨h1,h2,h3⟩:=ih
  have hv:v<g.length:=by
   rcases Nat.lt_or_ge v g.length with h|h
   ·exact h
   ·unfold gn at he
    rw [List.getD_eq_getElem?_getD,List.getElem?_eq_none h] at he
    simp [TN0] at he
  have hE:=G.ed _ (Qbw hv) e he
  have hb:=I.bs v hv h3
  obtain⟨j,hj,hje⟩:=List.mem_iff_getElem.1 he
  have hje':(gn g v).edges[j]?=some e:=by rw [List.getElem?_eq_getElem hj,hje]
  obtain⟨a1,a2⟩:=I.cl v hv h3 j e hje' (fun hvx=>by subst hvx;omega) y hd hy (by omega)
  exact⟨a1,by omega,st y hy a1⟩
theorem Inv.hopsN {g:List TN} {M:Int} {root x i:Nat} {cur:Sp} {R:Nat→RV} {Z:Nat→Sp} (I:Inv g M root x i cur [] R Z) {v:Nat} (hv:v<g.length) (h:(R v).is=true) (hr:v≠root):(R v).hops≠[]:=by
 rcases I.wt v hv hr h with h|⟨s,h,_⟩
 ·exact h
 ·cases h
theorem Qtc {l:List HK} {k:HK} (hp:l.Pairwise HK.lt) (hn:l≠[]) (h:∀x∈l,x=k):l=[k]:=by
 match l,hp,hn,h with
 | [],_,hn,_=>exact (hn rfl).elim
 | [a],_,_,h=>rw [h a (by simp)]
 | a::b::t,hp,_,h =>
  have h1:=(List.pairwise_cons.1 hp).1 b (by simp)
  rw [h a (by simp),h b (by simp)] at h1
  exact (HK.lt_irrefl _ h1).elim
open Go.ChangeShapes Go.WideShapes Go.ChangeAt Go.RowKit
section
variable {H:Type} {enc:TypeId×Value→H} {w:World} {base:Nat} {held:Bool}
theorem Qbv {sp:Nat→Bool} {fuel:Nat} {t:TypeId} {fs:Array Field} {cs:List Value} {x:DataW H×List MemPlace} (ht:Tryz.prog.underlying t=some (.struct fs)) (h:DataW.trod enc Tryz.prog w base sp held fuel t cs=some x)
  (i:Nat) (f:Field) (hf:fs[i]?=some f) (o:Nat) (ho:f.offset=o) (k:IntKind) (hk:Tryz.prog.underlying f.type=some (.int k)) (hc:Tryz.prog.cellsOf f.type=1):∃n,(cs.drop o).take 1=[.int k n]∧(Lit.int k n).wf=true:=by
 obtain⟨xs,m,_,_,_,hlen,hall⟩:=DataW.trod_struct ht h
 have hi:i<xs.length:=by
  have:=(Array.getElem?_eq_some_iff.mp hf).1
  omega
 have:=hall i f hf
 rw [ho,hc,List.getElem?_eq_getElem hi] at this
 obtain⟨n,e,_,wf⟩:=DataW.trod_int hk this
 exact⟨n,e,wf⟩
theorem Qr9 {sp:Nat→Bool} {fuel:Nat} {t:TypeId} {fs:Array Field} {cs:List Value} {x:DataW H×List MemPlace} (ht:Tryz.prog.underlying t=some (.struct fs)) (h:DataW.trod enc Tryz.prog w base sp held fuel t cs=some x):cs.length=Tryz.prog.cellsOf t:=by
 obtain⟨xs,m,_,_,hl,_⟩:=DataW.trod_struct ht h
 exact hl
def LightG (t:TypeId) (d:DataW H):Prop:=∀n∈d.weights Tryz.prog t,n≤140737488355328
theorem Qcu {sp:Nat→Bool} {fuel:Nat} {t:TypeId} {fs:Array Field} {cs:List Value} {x:DataW H×List MemPlace} (ht:Tryz.prog.underlying t=some (.struct fs)) (h:DataW.trod enc Tryz.prog w base sp held fuel t cs=some x) (hL:LightG t x.1)
  (i:Nat) (f:Field) (hf:fs[i]?=some f) (o n:Nat) (ho:f.offset=o) (hc:Tryz.prog.cellsOf f.type=n):∃m y,DataW.trod enc Tryz.prog w base sp held m f.type ((cs.drop o).take n)=some y∧LightG f.type y.1:=by
 obtain⟨xs,m,_,hx,_,hlen,hall⟩:=DataW.trod_struct ht h
 have hi:i<xs.length:=by
  have:=(Array.getElem?_eq_some_iff.mp hf).1
  omega
 have h1:=hall i f hf
 rw [ho,hc,List.getElem?_eq_getElem hi] at h1
 refine⟨m,_,h1,fun n hn=>hL n ?_⟩
 rw [hx]
 simp only [DataW.weights,ht]
 exact DataW.weights_mem_each (j:=i) (t:=f.type) (d:=xs[i].1) (by simp [hf]) (by simp [hi]) n hn
theorem Qha {t e:TypeId} {fuel:Nat} {cs:List Value} {x:DataW H×List MemPlace} (ht:Tryz.prog.underlying t=some (.slice e)) (he:0<Tryz.prog.bytesOf e) (h:DataW.trod enc Tryz.prog w base (fun _=>true) held fuel t cs=some x) (hL:LightG t x.1) :
  ∀a len cap,cs=[.slice a len cap]→len≤140737488355328:=by
 intro a len cap hcs
 rcases Deep.open_slice ht h with⟨h0,_⟩|⟨ad,l,c,m,n,D,Pl,h0,_,hl,hm,hmm,hx,hel⟩
 ·rw [hcs] at h0
  simp at h0
  omega
 ·rw [hcs] at h0
  simp at h0
  obtain⟨-,rfl,-⟩:=h0
  have:=hL ((len+(m-len))*Tryz.prog.bytesOf e) (by rw [hx];simp [DataW.weights,ht])
  have h2:len*1≤(len+(m-len))*Tryz.prog.bytesOf e:=Nat.mul_le_mul (by omega) he
  omega
theorem Qig {t e:TypeId} {l k:Nat} {D:Nat→DataW H} {x:DataW H×List MemPlace} {q:List (DataW H)} {p:List MemPlace} (ht:Tryz.prog.underlying t=some (.slice e)) (hx:x=(.slice ((List.range l).map D) q,p)) (hL:LightG t x.1) (i:Nat) (hi:i<l):LightG e (D i):=by
 intro n hn
 refine hL n ?_
 rw [hx]
 simp only [DataW.weights,ht,List.mem_cons,List.mem_append]
 refine Or.inr (Or.inl ?_)
 have G:∀(ds:List (DataW H)) (d:DataW H),d∈ds→n∈d.weights Tryz.prog e→n∈DataW.weightsAll Tryz.prog e ds:=by
  intro ds
  induction ds with
  | nil=>intro d hd;cases hd
  | cons a r ih =>
   intro d hd hn
   simp only [DataW.weightsAll,List.mem_append]
   rcases List.mem_cons.mp hd with rfl|hd
   ·exact Or.inl hn
   ·exact Or.inr (ih d hd hn)
 exact G _ (D i) (by simp only [List.mem_map,List.mem_range];exact⟨i,hi,rfl⟩) hn
def RwAt {α:Type} (cs:α→List Value) (k:Nat) (w:World) (a:Option Addr) (l:List α):Prop:=l=[]∨∃g o,a=some ⟨g,o,none⟩∧∀i x,l[i]?=some x→∀d u,(cs x)[d]?=some u→w.cell? ⟨g,o+i*k+d,none⟩=some u
theorem Qj7 {α:Type} [Inhabited α] {cs:α→List Value} {k:Nat} (hk0:0<k) (hk:∀x,(cs x).length=k) {P:α→Prop} {t e:TypeId} (ht:Tryz.prog.underlying t=some (.slice e)) (he:0<Tryz.prog.bytesOf e) (hcl:Tryz.prog.cellsOf e=k)
  (each:∀{fuel:Nat} {c:List Value} {x:DataW H×List MemPlace},DataW.trod enc Tryz.prog w base (fun _=>true) held fuel e c=some x→LightG e x.1→∃y:α,c=cs y∧P y)
  {fuel:Nat} {c:List Value} {x:DataW H×List MemPlace} (h:DataW.trod enc Tryz.prog w base (fun _=>true) held fuel t c=some x) (hL:LightG t x.1) :
  ∃a cap l,c=[.slice a (List.length l) cap]∧RwAt cs k w a l∧(∀y∈l,P y)∧l.length≤140737488355328:=by
 have hz:=Qha ht he h hL
 rcases Deep.open_slice ht h with⟨hcs,_⟩|⟨ad,l,cp,m,n,D,Pl,hcs,_,hl,hm,hmm,hx,hel⟩
 ·exact⟨none,0,[],hcs,Or.inl rfl,by simp,by simp⟩
 ·simp at hmm
  subst hmm
  have each':∀i,i<l→∃s:α,P s∧∀r u,(cs s)[r]?=some u→w.cell? (ad.add (i*k+r))=some u:=by
   intro i hi
   obtain⟨cs',h1,h2⟩:=hel i (by omega)
   rw [hcl] at h1
   obtain⟨_,hlen,hcell⟩:=World.cells?_some h1
   obtain⟨s,rfl,ok⟩:=each h2 (Qig (k:=0) ht hx hL i hi)
   refine⟨s,ok,fun r u hu=>?_⟩
   have hr:r<k:=by rw [←hk s];exact (List.getElem?_eq_some_iff.mp hu).1
   have q:=hcell r (by rw [←hcl] at hr;omega)
   rw [Deep.add_add] at q
   rw [q]
   exact hu
  obtain⟨f,hf⟩:=Deep.choose_lt each'
  have hln:((List.range l).map f).length=l:=by simp
  refine⟨some ad,_,(List.range l).map f,by rw [hln];exact hcs,?_,fun y hy=>?_,by rw [hln];exact hz _ _ _ hcs⟩
  ·rcases Nat.eq_zero_or_pos l with h0|h0
   ·subst h0;exact Or.inl rfl
   ·obtain⟨g,off,spot⟩:=ad
    obtain⟨u0,hu0⟩:∃u,(cs (f 0))[0]?=some u:=⟨_,List.getElem?_eq_getElem (by rw [hk];exact hk0)⟩
    have hc:=(hf 0 h0).2 0 u0 hu0
    have hspot:spot=none:=by simpa [Addr.add] using World.cell?_spot hc
    subst hspot
    refine Or.inr ⟨g,off,rfl,fun i x hx d u hd=>?_⟩
    have hi:i<l:=by have:=(List.getElem?_eq_some_iff.mp hx).1;simpa using this
    have e1:x=f i:=by simpa [hi] using hx.symm
    subst e1
    have:=(hf i hi).2 d u hd
    rw [Qaf] at this
    rw [Nat.add_assoc]
    exact this
  ·simp only [List.mem_map,List.mem_range] at hy
   obtain⟨i,hi,rfl⟩:=hy
   exact (hf i hi).1
end
structure RA (w:World) (v:Value) (l:List HK):Prop where
 out:∃a c,v=.slice a l.length c∧RwAt HK.cs 3 w a l
theorem RA.keep {w w':World} {v:Value} {l:List HK} (h:RA w v l) (t:Touch (fun _=>False) w w'):RA w' v l:=by
 obtain⟨a,c,rfl,h|⟨g,o,rfl,hc⟩⟩:=h.out
 ·exact⟨_,_,rfl,Or.inl h⟩
 ·exact⟨_,_,rfl,Or.inr ⟨g,o,rfl,fun i x hx d u hd=>t.cellN (hc i x hx d u hd)⟩⟩
theorem HV3.ra {w:World} {v:Value} {l:List HK} (h:HV3 w v l):RA w v l:=by
 rcases Nat.eq_zero_or_pos l.length with h0|h0
 ·obtain⟨a,c,rfl,-⟩:=h.form
  exact⟨a,c,rfl,Or.inl (List.length_eq_zero_iff.1 h0)⟩
 ·obtain⟨g,o,c,rfl,-,-,hc⟩:=h.cells h0 (by omega)
  refine⟨_,c,rfl,Or.inr ⟨g,o,rfl,fun i x hx d u hd=>?_⟩⟩
  have hd3:d<3:=(List.getElem?_eq_some_iff.1 hd).1
  have:=hc (i*3+d) u (by rw [Qaz HK.len _ _ _ hd3,hx];exact hd)
  rw [Nat.add_assoc]
  exact this
theorem Qu0 {l:List HK} {i:Nat} {x:HK} (h:l[i]?=some x):l.take (i+1)=l.take i++[x]:=by rw [List.take_add_one,h];rfl
open Go.ChangeMaps (setBlock)
open Go.MapKept
structure MK (K M E:TypeId) (z:Value):Prop where
 law:WideMaps.KeyLaw Tryz.prog K
 und:Tryz.prog.underlying M=some (.map K E)
 zero:∀w,(zeroValue E).run Tryz.prog w=.ok z w
structure AM (w:World) (K:TypeId) (m:Nat) (l:List (Value×Value)):Prop where
 out:∃es c,w.heap[m]?=some (.map es c)∧es.toList.map (fun e=>(e.key,e.val))=l∧(es.toList.map (·.born)).Nodup∧(∀e∈es.toList,e.born<c)
 keys:∀p∈l,∃q,Go.keyOf Tryz.prog K p.1=some q
 nd:(l.map Prod.fst).Nodup
theorem AM.lt {w:World} {K:TypeId} {m:Nat} {l:List (Value×Value)} (h:AM w K m l):m<w.heap.size:=by
 obtain⟨es,c,h1,-⟩:=h.out
 exact Qaq h1
theorem AM.keep {F:Nat→Prop} {w w':World} {K:TypeId} {m:Nat} {l:List (Value×Value)} (h:AM w K m l) (t:Touch F w w') (hm:¬F m):AM w' K m l:=by
 have hl:=h.lt
 obtain⟨⟨es,c,h1,h2⟩,h3,h4⟩:=h
 exact⟨⟨es,c,(t.block m hl hm).trans h1,h2⟩,h3,h4⟩
theorem AM.keepN {w w':World} {K:TypeId} {m:Nat} {l:List (Value×Value)} (h:AM w K m l) (t:Touch (fun _=>False) w w'):AM w' K m l:=h.keep t (fun h=>h)
theorem AM.made (w:World) (K:TypeId) (c:Nat):AM (w.alloc (.map #[] c)) K w.heap.size [] :=
 ⟨⟨#[],c,by show (w.heap.push _)[w.heap.size]?=_;simp,rfl,by simp,by simp⟩,by simp,by simp⟩
theorem Qda {w:World} {m:Nat} {o o':Obj} (h:w.heap[m]?=some o):Touch (fun k=>k=m) w (setBlock w m o'):=by
 refine⟨rfl,rfl,rfl,by simp [setBlock],fun k hk hn=>?_⟩
 show (w.heap.setIfInBounds m o')[k]?=_
 rw [Array.getElem?_setIfInBounds,if_neg (fun e=>hn e.symm)]
theorem Qhf {w:World} {m:Nat} {o o':Obj} (h:w.heap[m]?=some o):(setBlock w m o').heap[m]?=some o':=by
 show (w.heap.setIfInBounds m o')[m]?=_
 rw [Array.getElem?_setIfInBounds,if_pos rfl,if_pos (Qaq h)]
theorem Qcr {K:TypeId} {es:Array MapEntry} {l:List (Value×Value)} (h2:es.toList.map (fun e=>(e.key,e.val))=l) (ok:∀p∈l,∃q,Go.keyOf Tryz.prog K p.1=some q):∀e∈es.toList,∃q,Go.keyOf Tryz.prog K e.key=some q:=by
 intro e he
 exact ok (e.key,e.val) (by rw [←h2];exact List.mem_map.2 ⟨e,he,rfl⟩)
theorem Qdb {es:Array MapEntry} {l:List (Value×Value)} (h2:es.toList.map (fun e=>(e.key,e.val))=l) {j:Nat} {e:MapEntry} (hj:es.toList[j]?=some e):l[j]?=some (e.key,e.val):=by
 rw [←h2,List.getElem?_map,hj];rfl
theorem AM.len {w:World} {K:TypeId} {m:Nat} {l:List (Value×Value)} (h:AM w K m l) {M:TypeId} (hu:Tryz.prog.underlying M=some (.map (Tryz.prog.mapKeyOf M) (Tryz.prog.mapElemOf M))) (ty:TypeId):(Builtin.len_ #[M] ty #[.map (some m)]).run Tryz.prog w=.ok (.int .i64 l.length) w:=by
 obtain⟨⟨es,c,h1,h2,-⟩,-⟩:=h
 rw [run_len_map w _ ty m es c hu h1]
 have:es.size=l.length:=by rw [←h2];simp
 rw [this]
 rfl
theorem AM.miss {K M E:TypeId} {z:Value} (kt:MK K M E z) {w:World} {m:Nat} {l:List (Value×Value)} (h:AM w K m l) {k:Value} {q:Lit} (hk:Go.keyOf Tryz.prog K k=some q) (hn:∀p∈l,p.1≠k) :
  (Instr.lookup M (.map (some m)) k true).run Tryz.prog w=.ok (.tuple #[z,.bool false]) w:=by
 obtain⟨⟨es,c,h1,h2,-⟩,ok,nd⟩:=h
 rcases kt.law.find w hk es.toList (Qcr h2 ok) with⟨g1,-⟩|⟨j,e,g1,g2,g3⟩
 ·simp [Instr.lookup,run_underlying kt.und,MapKept.run_getObj_map h1,kt.law.check w es.isEmpty hk,g1,kt.zero w,Result.andThen]
 ·exact absurd g3 (hn _ (List.mem_of_getElem? (Qdb h2 g2)))
theorem Qjx {l:List (Value×Value)} (nd:(l.map Prod.fst).Nodup) {i j:Nat} {k v v':Value} (h1:l[i]?=some (k,v)) (h2:l[j]?=some (k,v')):i=j:=by
 have a1:(l.map Prod.fst)[i]?=some k:=by rw [List.getElem?_map,h1];rfl
 have a2:(l.map Prod.fst)[j]?=some k:=by rw [List.getElem?_map,h2];rfl
 exact (List.getElem?_inj (List.getElem?_eq_some_iff.1 a1).1 nd).1 (a1.trans a2.symm)
theorem AM.hit {K M E:TypeId} {z:Value} (kt:MK K M E z) {w:World} {m:Nat} {l:List (Value×Value)} (h:AM w K m l) {k v:Value} {j:Nat} (hj:l[j]?=some (k,v)) :
  (Instr.lookup M (.map (some m)) k true).run Tryz.prog w=.ok (.tuple #[v,.bool true]) w:=by
 obtain⟨⟨es,c,h1,h2,-⟩,ok,nd⟩:=h
 obtain⟨q,hk⟩:∃q,Go.keyOf Tryz.prog K k=some q:=ok _ (List.mem_of_getElem? hj)
 rcases kt.law.find w hk es.toList (Qcr h2 ok) with⟨-,g2⟩|⟨i,e,g1,g2,g3⟩
 ·exfalso
  have:(k,v)∈es.toList.map (fun e=>(e.key,e.val)):=by rw [h2];exact List.mem_of_getElem? hj
  obtain⟨e,he,e1⟩:=List.mem_map.1 this
  exact g2 e he (congrArg Prod.fst e1)
 ·have g4:=Qdb h2 g2
  rw [g3] at g4
  have hij:=Qjx nd g4 hj
  subst hij
  have e2:e.val=v:=by rw [g4] at hj;injection hj with hj;exact congrArg Prod.snd hj
  have g2':es[i]?=.some e:=by simpa using g2
  simp [Instr.lookup,run_underlying kt.und,MapKept.run_getObj_map h1,kt.law.check w es.isEmpty hk,g1,Result.andThen,e2]
theorem AM.putNew {K M E:TypeId} {z:Value} (kt:MK K M E z) {w:World} {m:Nat} {l:List (Value×Value)} (h:AM w K m l) {k:Value} {q:Lit} (v:Value) (hk:Go.keyOf Tryz.prog K k=some q) (hn:∀p∈l,p.1≠k) :
  ∃w',(Instr.mapUpdate M (.map (some m)) k v).run Tryz.prog w=.ok () w'∧AM w' K m (l++[(k,v)])∧Touch (fun k=>k=m) w w':=by
 obtain⟨⟨es,n,h1,h2,h3,h4⟩,ok,nd⟩:=h
 rcases kt.law.find w hk es.toList (Qcr h2 ok) with⟨g1,-⟩|⟨j,e,g1,g2,g3⟩
 ·refine⟨setBlock w m (.map (es.push ⟨k,v,n⟩) (n+1)),?_,⟨⟨_,_,Qhf h1,?_,?_,?_⟩,?_,?_⟩,Qda h1⟩
  ·simp [Instr.mapUpdate,run_underlying kt.und,MapKept.run_getObj_map h1,kt.law.check w false hk,g1,MapKept.run_setObj_map _ h1,Result.andThen,setBlock]
  ·simp [h2]
  ·rw [Array.toList_push,List.map_append,List.nodup_append]
   refine⟨h3,by simp,fun a ha b hb=>?_⟩
   obtain⟨e,he,rfl⟩:=List.mem_map.1 ha
   obtain rfl:b=n:=by simpa using hb
   have:=h4 e he
   omega
  ·intro e he
   rw [Array.toList_push] at he
   rcases List.mem_append.1 he with he|he
   ·have:=h4 e he;omega
   ·obtain rfl:e=⟨k,v,n⟩:=by simpa using he
    exact Nat.lt_succ_self _
  ·intro p hp
   rcases List.mem_append.1 hp with hp|hp
   ·exact ok p hp
   ·obtain rfl:p=(k,v):=by simpa using hp
    exact⟨q,hk⟩
  ·rw [List.map_append,List.nodup_append]
   refine⟨nd,by simp,fun a ha b hb=>?_⟩
   obtain⟨p,hp,rfl⟩:=List.mem_map.1 ha
   obtain rfl:b=k:=by simpa using hb
   exact hn p hp
 ·exact absurd g3 (hn _ (List.mem_of_getElem? (Qdb h2 g2)))
theorem AM.putOld {K M E:TypeId} {z:Value} (kt:MK K M E z) {w:World} {m:Nat} {l:List (Value×Value)} (h:AM w K m l) {k v0:Value} (v:Value) {j:Nat} (hj:l[j]?=some (k,v0)) :
  ∃w',(Instr.mapUpdate M (.map (some m)) k v).run Tryz.prog w=.ok () w'∧AM w' K m (l.set j (k,v))∧Touch (fun k=>k=m) w w':=by
 obtain⟨⟨es,n,h1,h2,h3,h4⟩,ok,nd⟩:=h
 obtain⟨q,hk⟩:∃q,Go.keyOf Tryz.prog K k=some q:=ok _ (List.mem_of_getElem? hj)
 rcases kt.law.find w hk es.toList (Qcr h2 ok) with⟨-,g2⟩|⟨i,e,g1,g2,g3⟩
 ·exfalso
  have:(k,v0)∈es.toList.map (fun e=>(e.key,e.val)):=by rw [h2];exact List.mem_of_getElem? hj
  obtain⟨e,he,e1⟩:=List.mem_map.1 this
  exact g2 e he (congrArg Prod.fst e1)
 ·have g4:=Qdb h2 g2
  rw [g3] at g4
  have hij:=Qjx nd g4 hj
  subst hij
  have g2':es[i]?=.some e:=by simpa using g2
  have hm:(es.modify i (fun e'=>{ e' with key:=k,val:=v })).toList=es.toList.set i { e with key:=k,val:=v }:=by
   rw [Array.toList_modify,ChangeMaps.modify_eq_set _ _ _ _ g2]
  refine⟨setBlock w m (.map (es.modify i (fun e'=>{ e' with key:=k,val:=v })) n),?_,⟨⟨_,_,Qhf h1,?_,?_,?_⟩,?_,?_⟩,Qda h1⟩
  ·simp [Instr.mapUpdate,run_underlying kt.und,MapKept.run_getObj_map h1,kt.law.check w false hk,g1,g2',g3,kt.law.stays w hk,MapKept.run_setObj_map _ h1,Result.andThen,setBlock]
  ·rw [hm,List.map_set,h2]
  ·rw [hm,List.map_set]
   have e5:(es.toList.map (·.born)).set i e.born=es.toList.map (·.born):=by
    apply List.ext_getElem?
    intro x
    rw [List.getElem?_set]
    split
    ·rename_i hx
     subst hx
     rw [List.getElem?_map,g2]
     have:=(List.getElem?_eq_some_iff.1 g2).1
     simpa using this
    ·rfl
   rw [e5]
   exact h3
  ·intro e' he
   rw [hm] at he
   rcases List.mem_or_eq_of_mem_set he with he|rfl
   ·exact h4 e' he
   ·exact h4 e (List.mem_of_getElem? g2)
  ·intro p hp
   rcases List.mem_or_eq_of_mem_set hp with hp|rfl
   ·exact ok p hp
   ·exact⟨q,hk⟩
  ·rw [List.map_set]
   have e5:(l.map Prod.fst).set i k=l.map Prod.fst:=by
    apply List.ext_getElem?
    intro x
    rw [List.getElem?_set]
    split
    ·rename_i hx
     subst hx
     rw [List.getElem?_map,hj]
     simp [(List.getElem?_eq_some_iff.1 hj).1]
    ·rfl
   show ((l.map Prod.fst).set i k).Nodup
   rw [e5]
   exact nd
def numBytes (n:Nat) (x:Int):List Int:=[x/16777216%256,x/65536%256,x/256%256,x%256].drop (4-n)
theorem Qal {n:Nat} (h:n≤4) (x:Int):(numBytes n x).length=n:=by simp [numBytes];omega
theorem Qam (n:Nat) (x:Int):∀z∈numBytes n x,0≤z∧z<256:=by
 intro z hz
 have:=List.mem_of_mem_drop hz
 simp at this
 omega
theorem numBytes2 (x:Int):numBytes 2 x=[x/256%256,x%256]:=rfl
theorem numBytes4 (x:Int):numBytes 4 x=[x/16777216%256,x/65536%256,x/256%256,x%256]:=rfl
theorem numBytes3 (x:Int):numBytes 3 x=[x/65536%256,x/256%256,x%256]:=rfl
def numOf (l:List Int):Int:=l.foldl (fun v z=>256*v+z) 0
theorem Qk0 (l:List Int) (z:Int):numOf (l++[z])=256*numOf l+z:=by simp [numOf]
theorem Qik (l:List Int) (h:∀z∈l,0≤z∧z<256):∀v:Int,0≤v→0≤l.foldl (fun v z=>256*v+z) v∧l.foldl (fun v z=>256*v+z) v<(v+1)*256 ^ l.length:=by
 induction l with
 | nil=>intro v hv;simp;omega
 | cons z r ih =>
  intro v hv
  have hz:=h z (by simp)
  have:=ih (fun z hz=>h z (by simp [hz])) (256*v+z) (by omega)
  refine⟨this.1,Int.lt_of_lt_of_le this.2 ?_⟩
  rw [List.length_cons,Int.pow_succ,Int.mul_comm (256 ^ r.length) 256,←Int.mul_assoc]
  exact Int.mul_le_mul_of_nonneg_right (by omega) (Int.pow_nonneg (by omega))
theorem Qe7 (l:List Int) (h:∀z∈l,0≤z∧z<256):0≤numOf l∧numOf l<256 ^ l.length:=by
 have:=Qik l h 0 (by omega)
 rw [show (0:Int)+1=1 by omega,Int.one_mul] at this
 exact this
theorem Qhl (x:Int) (h0:0≤x) (h:x<65536):numOf (numBytes 2 x)=x:=by simp [numOf,numBytes2];omega
theorem Qi6 (x:Int) (h0:0≤x) (h:x<16777216):numOf (numBytes 3 x)=x:=by simp [numOf,numBytes3];omega
theorem Qbb (x:Int) (h0:0≤x) (h:x<4294967296):numOf (numBytes 4 x)=x:=by simp [numOf,numBytes4];omega
theorem Qd8 (a b:Int) (ha:0≤a∧a<256) (hb:0≤b∧b<256):numBytes 2 (numOf [a,b])=[a,b]:=by simp [numOf,numBytes2];omega
theorem Qdk (a b c d:Int) (ha:0≤a∧a<256) (hb:0≤b∧b<256) (hc:0≤c∧c<256) (hd:0≤d∧d<256):numBytes 4 (numOf [a,b,c,d])=[a,b,c,d]:=by
 simp [numOf,numBytes4];omega
def psz (n:Int):Int:=2 ^ (32-n).toNat
def pmask (n:Int):Int:=if n≤32 then 4294967296-psz n else 0
def pcut (a n:Int):Int:=a-a%psz n
theorem Qc6 (n:Int):psz n=((2 ^ (32-n).toNat:Nat):Int):=by unfold psz;exact (Int.natCast_pow 2 _).symm
theorem Qh5 (n:Int):0<psz n:=by rw [Qc6];exact Int.ofNat_lt.2 (Nat.two_pow_pos _)
theorem Qr7 {n:Int} (h:0≤n):psz n≤4294967296:=by
 rw [Qc6]
 have:2 ^ (32-n).toNat≤2 ^ 32:=Nat.pow_le_pow_right (by omega) (by omega)
 have e:(2:Nat) ^ 32=4294967296:=by decide
 omega
theorem Qr4 {n m:Int} (h1:n<m) (h2:m≤32):psz m<psz n:=by
 rw [Qc6,Qc6]
 exact Int.ofNat_lt.2 (Nat.pow_lt_pow_right (by omega) (by omega))
theorem Qhn (a k:Nat) (ha:a<2 ^ 32) (hk:k≤32):a &&& (2 ^ 32-2 ^ k)=a-a%2 ^ k:=by
 have e:a-a%2 ^ k=2 ^ k*(a/2 ^ k):=by have:=Nat.div_add_mod a (2 ^ k);omega
 have hp:0<2 ^ k:=Nat.two_pow_pos k
 have e2:2 ^ 32-2 ^ k=2 ^ 32-((2 ^ k-1)+1):=by omega
 have hlt:2 ^ k-1<2 ^ 32:=by have:=Nat.pow_le_pow_right (n:=2) (by omega) hk;omega
 rw [e]
 refine Nat.eq_of_testBit_eq fun i=>?_
 rw [Nat.testBit_and,e2,Nat.testBit_two_pow_sub_succ hlt,Nat.testBit_two_pow_sub_one,Nat.testBit_two_pow_mul]
 by_cases hi:k≤i
 ·rw [Nat.testBit_div_two_pow,Nat.sub_add_cancel hi]
  by_cases h32:i<32
  ·simp [hi,h32]
  ·have:a.testBit i=false:=Nat.testBit_lt_two_pow (Nat.lt_of_lt_of_le ha (Nat.pow_le_pow_right (by omega) (by omega)))
   simp [this]
 ·simp [hi];intros;omega
theorem Qqy {n:Int} (h:0≤n):0≤pmask n∧pmask n<4294967296:=by
 unfold pmask
 have:=Qh5 n;have:=Qr7 h
 split <;> omega
theorem Qca {n:Int} (h:n≤32):pmask n=4294967296-psz n:=by rw [pmask,if_pos h]
theorem Qjs {n:Int} (h:32<n):pmask n=0:=by rw [pmask,if_neg (by omega)]
theorem Qt5 {a n:Int} (h0:0≤a) (h1:a<4294967296):0≤pcut a n∧pcut a n<4294967296:=by
 unfold pcut
 have:=Qh5 n
 have h2:=Int.emod_nonneg a (show psz n≠0 by omega)
 have h3:a%psz n≤a:=by
  rcases Int.lt_or_le a (psz n) with h|h
  ·rw [Int.emod_eq_of_lt h0 h];omega
  ·have:=Int.emod_lt_of_pos a (show 0<psz n by omega);omega
 omega
theorem Qow {a n:Int} (h0:0≤a) (h1:a<4294967296) (hn0:0≤n) (hn:n≤32):bits .and .u32 a (pmask n)=pcut a n:=by
 have hb:=Qqy hn0
 rw [u32_and a _ h0 h1 hb.1 hb.2,Qca hn]
 obtain⟨A,rfl⟩:∃A:Nat,a=A:=⟨a.toNat,by omega⟩
 unfold pcut
 rw [Qc6]
 have hp:2 ^ (32-n).toNat≤2 ^ 32:=Nat.pow_le_pow_right (by omega) (by omega)
 have e:(4294967296-((2 ^ (32-n).toNat:Nat):Int)).toNat=2 ^ 32-2 ^ (32-n).toNat:=by omega
 rw [e,Int.toNat_natCast,Qhn A _ (by omega) (by omega)]
 have:=Nat.mod_le A (2 ^ (32-n).toNat)
 omega
def pfind (a:Int):Option Nat:=(List.range 33).find? fun n=>pmask n==a
def pbn (a:Int):Int:=(((pfind a).getD 0:Nat):Int)
def pbok (a:Int):Bool:=(pfind a).isSome
theorem Qlq {j k:Nat} (hj:j≤32) (hk:k≤32) (h:pmask j=pmask k):j=k:=by
 rw [Qca (by omega),Qca (by omega)] at h
 rcases Nat.lt_trichotomy j k with h' | h' | h'
 ·have:=Qr4 (n:=j) (m:=k) (by omega) (by omega);omega
 ·exact h'
 ·have:=Qr4 (n:=k) (m:=j) (by omega) (by omega);omega
theorem Qf1 {a:Int} {k:Nat} (hk:k≤32) (h:pmask k=a):pfind a=some k:=by
 unfold pfind
 rw [List.find?_range_eq_some]
 refine⟨by simp [h],by simp;omega,fun j hj=>?_⟩
 simp
 intro e
 have:=Qlq (j:=j) (k:=k) (by omega) hk (by rw [e,h])
 omega
theorem Qfk {a:Int} (h:∀k:Nat,k≤32→pmask k≠a):pfind a=none:=by
 unfold pfind
 rw [List.find?_eq_none]
 intro k hk
 simp at hk ⊢
 exact h k (by omega)
theorem Qsk (a:Int) (k:Nat):a*2 ^ k%4294967296*2%4294967296=a*2 ^ (k+1)%4294967296:=by
 rw [Int.pow_succ,←Int.mul_assoc]
 omega
theorem Qvn (a:Int):a*2 ^ 32%4294967296=0:=by
 have e:(2:Int) ^ 32=4294967296:=by decide
 rw [e];omega
theorem Qes {j k:Nat} (hj:j≤32):pmask j*2 ^ k%4294967296=0↔j≤k:=by
 rw [Qca (by omega),Int.sub_mul]
 have e:psz j*2 ^ k=2 ^ (32-j+k):=by
  unfold psz
  rw [←Int.pow_add]
  congr 1;omega
 rw [e]
 constructor
 ·intro h
  rcases Nat.lt_or_ge k j with h' | h'
  ·have h1:(2:Int) ^ (32-j+k)=((2 ^ (32-j+k):Nat):Int):=(Int.natCast_pow 2 _).symm
   have h2:2 ^ (32-j+k)<2 ^ 32:=Nat.pow_lt_pow_right (by omega) (by omega)
   have h3:0<2 ^ (32-j+k):=Nat.two_pow_pos _
   have h4:(2:Nat) ^ 32=4294967296:=by decide
   rw [h1] at h
   omega
  ·exact h'
 ·intro h
  have h1:(2:Int) ^ (32-j+k)=4294967296*2 ^ (k-j):=by
   have e:(4294967296:Int)=2 ^ 32:=by decide
   rw [e,←Int.pow_add];congr 1;omega
  rw [h1,←Int.mul_sub]
  exact Int.mul_emod_right _ _
theorem Qsz {a:Int} {k:Nat} (hk:k≤32) (h0:a*2 ^ k%4294967296=0) (hl:∀j:Nat,j<k→a*2 ^ j%4294967296≠0):pfind a=if pmask k=a then some k else none:=by
 split
 ·rename_i h;exact Qf1 hk h
 ·rename_i h
  refine Qfk fun j hj e=>h ?_
  have h1:j≤k:=(Qes hj).1 (by rw [e];exact h0)
  rcases Nat.lt_or_ge j k with h2|h2
  ·exact absurd ((Qes (k:=j) hj).2 (Nat.le_refl _)) (by rw [e];exact hl j h2)
  ·obtain rfl:j=k:=by omega
   exact e
theorem Qgx {p:Nat→Prop} {k:Nat} (h:∀j:Nat,j<k→¬p j) (hk:¬p k):∀j:Nat,j<k+1→¬p j:=by
 intro j hj
 rcases Nat.lt_or_ge j k with h' | h'
 ·exact h j h'
 ·obtain rfl:j=k:=by omega
  exact hk
theorem Qsa {a:Int} {k:Nat} (h:pfind a=some k):pbn a=k∧pbok a=true:=by simp [pbn,pbok,h]
theorem Qvd {a:Int} (h:pfind a=none):pbn a=0∧pbok a=false:=by simp [pbn,pbok,h]
structure HV where
 age:Int
 opts:Int
 typ:Int
 id:Int
 adv:Int
 seq:Int
 sum:Int
 len:Int
def HV.v (h:HV):Value:=.agg #[.int .u16 h.age,.int .u8 h.opts,.int .u8 h.typ,.int .u32 h.id,.int .u32 h.adv,.int .i32 h.seq,.int .u16 h.sum,.int .u16 h.len]
structure Hd (w:World) (g:Nat) (h:HV):Prop where
 c0:w.cell? ⟨g,0,none⟩=some (.int .u16 h.age)
 c1:w.cell? ⟨g,1,none⟩=some (.int .u8 h.opts)
 c2:w.cell? ⟨g,2,none⟩=some (.int .u8 h.typ)
 c3:w.cell? ⟨g,3,none⟩=some (.int .u32 h.id)
 c4:w.cell? ⟨g,4,none⟩=some (.int .u32 h.adv)
 c5:w.cell? ⟨g,5,none⟩=some (.int .i32 h.seq)
 c6:w.cell? ⟨g,6,none⟩=some (.int .u16 h.sum)
 c7:w.cell? ⟨g,7,none⟩=some (.int .u16 h.len)
theorem Hd.keep {w w':World} {g:Nat} {h:HV} (k:Hd w g h) (t:Touch (fun _=>False) w w'):Hd w' g h :=
 ⟨t.cellN k.c0,t.cellN k.c1,t.cellN k.c2,t.cellN k.c3,t.cellN k.c4,t.cellN k.c5,t.cellN k.c6,t.cellN k.c7⟩
theorem Hd.new (w:World) (h:HV) (t:TypeId) :
  Hd (w.alloc (.cells #[.int .u16 h.age,.int .u8 h.opts,.int .u8 h.typ,.int .u32 h.id,.int .u32 h.adv,.int .i32 h.seq,.int .u16 h.sum,.int .u16 h.len] t)) w.heap.size h :=
 ⟨by simp [go_sem],by simp [go_sem],by simp [go_sem],by simp [go_sem],by simp [go_sem],by simp [go_sem],by simp [go_sem],by simp [go_sem]⟩
def S0:List Int→Int
 | []=>0
 | x::r=>x+S0 r
def C1:Int→List Int→Int
 | _,[]=>0
 | n,x::r=>n*x+C1 (n-1) r
def S1 (l:List Int):Int:=C1 l.length l
theorem Qeo (a b:List Int):S0 (a++b)=S0 a+S0 b:=by
 induction a with
 | nil=>simp [S0]
 | cons x r ih=>simp only [List.cons_append,S0,ih];omega
theorem Qeu (n:Int) (a b:List Int):C1 n (a++b)=C1 n a+C1 (n-a.length) b:=by
 induction a generalizing n with
 | nil=>simp [C1]
 | cons x r ih =>
  simp only [List.cons_append,C1,ih,List.length_cons]
  rw [show n-1-(r.length:Int)=n-((r.length+1:Nat):Int) by omega]
  omega
theorem Qol (n d:Int) (l:List Int):C1 (n+d) l=C1 n l+d*S0 l:=by
 induction l generalizing n with
 | nil=>simp [C1,S0]
 | cons x r ih =>
  simp only [C1,S0]
  rw [show n+d-1=n-1+d by omega,ih]
  grind
theorem Qty (l:List Int) (x:Int):S1 (l++[x])=S1 l+S0 l+x:=by
 unfold S1
 rw [Qeu,List.length_append,show ((l.length+[x].length:Nat):Int)=(l.length:Int)+1 by simp,Qol]
 simp only [C1]
 rw [show (l.length:Int)+1-l.length=1 by omega]
 omega
structure Run (l:List Int) (a b:Int):Prop where
 c0:a%255=S0 l%255
 c1:b%255=S1 l%255
theorem Run.zero:Run [] 0 0:=⟨rfl,rfl⟩
theorem Run.snoc {l:List Int} {a b:Int} (h:Run l a b) (x:Int):Run (l++[x]) (a+x) (b+(a+x)):=by
 obtain⟨h0,h1⟩:=h
 refine⟨?_,?_⟩
 ·rw [Qeo];simp only [S0];omega
 ·rw [Qty];omega
theorem Run.mod {l:List Int} {a b:Int} (h:Run l a b):Run l (a%255) (b%255):=by
 obtain⟨h0,h1⟩:=h
 exact⟨by omega,by omega⟩
def W:Bool→List Int→Int
 | _,[]=>0
 | true,x::r=>256*x+W false r
 | false,x::r=>x+W true r
def laid (l:List Int) (at':Nat) (x y:Int):List Int:=(l.set at' x).set (at'+1) y
theorem Qi1 (l:List Int) (a:Nat) (x y:Int):(laid l a x y).length=l.length:=by simp [laid]
theorem Qwa (l:List Int) (a:Nat) (x y:Int) (h:a+2≤l.length):laid l a x y=l.take a++(x::y::l.drop (a+2)):=by
 unfold laid
 rw [List.set_eq_take_append_cons_drop,if_pos (by simp;omega),List.take_set,List.drop_set]
 rw [if_pos (by omega),List.set_eq_take_append_cons_drop,if_pos (by simp;omega)]
 rw [List.take_take,Nat.min_eq_left (by omega),List.append_assoc]
 simp
theorem Qju (l:List Int) (i:Nat) (x:Int) (h:i<l.length):S0 (l.set i x)=S0 l+(x-l.getD i 0):=by
 induction l generalizing i with
 | nil=>simp at h
 | cons y r ih =>
  cases i with
  | zero=>simp [S0];omega
  | succ i =>
   have:=ih i (by simpa using h)
   simp only [Qwl,S0,this,List.getD_cons_succ]
   omega
theorem Qv3 (n:Int) (l:List Int) (i:Nat) (x:Int) (h:i<l.length):C1 n (l.set i x)=C1 n l+(n-i)*(x-l.getD i 0):=by
 induction l generalizing i n with
 | nil=>simp at h
 | cons y r ih =>
  cases i with
  | zero=>simp only [Qwk,C1,List.getD_cons_zero];grind
  | succ i =>
   have:=ih (n-1) i (by simpa using h)
   simp only [Qwl,C1,this,List.getD_cons_succ]
   rw [show n-1-(i:Int)=n-((i+1:Nat):Int) by omega]
   omega
theorem Qjk (l:List Int) (i:Nat) (x:Int) (h:i<l.length):S1 (l.set i x)=S1 l+((l.length:Int)-i)*(x-l.getD i 0):=by
 unfold S1
 rw [List.length_set,Qv3 _ _ _ _ h]
theorem Qbh (l:List Int) (i j:Nat) (x:Int) (h:i≠j):(l.set i x).getD j 0=l.getD j 0:=by simp [List.getD,h]
theorem Qen (l:List Int) (i:Nat) (x:Int) (h:i<l.length):(l.set i x).getD i 0=x:=by simp [List.getD,h]
theorem Qtq (l:List Int) (a:Nat) (x y:Int) (h:a+2≤l.length):S0 (laid l a x y)=S0 (laid l a 0 0)+x+y:=by
 unfold laid
 rw [Qju _ _ _ (by simp;omega),Qju _ _ _ (by omega),Qju _ _ _ (by simp;omega),Qju _ _ _ (by omega),Qbh _ _ _ _ (by omega),Qbh _ _ _ _ (by omega)]
 omega
theorem Qte (l:List Int) (a:Nat) (x y:Int) (h:a+2≤l.length):S1 (laid l a x y)=S1 (laid l a 0 0)+((l.length:Int)-a)*x+((l.length:Int)-a-1)*y:=by
 unfold laid
 rw [Qjk _ _ _ (by simp;omega),Qjk _ _ _ (by omega),Qjk _ _ _ (by simp;omega),Qjk _ _ _ (by omega),Qbh _ _ _ _ (by omega),Qbh _ _ _ _ (by omega)]
 simp only [List.length_set]
 rw [show ((a+1:Nat):Int)=(a:Int)+1 by omega]
 grind
def fx (t c0 c1:Int):Int:=(t*c0+255-c1+254)%255+1
def fy (c0 x:Int):Int:=(510-c0-x+254)%255+1
theorem Qor (t c0 c1:Int):1≤fx t c0 c1∧fx t c0 c1≤255:=by unfold fx;omega
theorem Qq5 (c0 x:Int):1≤fy c0 x∧fy c0 x≤255:=by unfold fy;omega
theorem Qg3 {c0 c1 n t x y:Int} (ht:t=(n+254)%255) (hx:1≤x∧x≤255) (hy:1≤y∧y≤255) :
  ((c0+x+y)%255=0∧(c1+n*x+t*y)%255=0)↔x=fx t c0 c1∧y=fy c0 (fx t c0 c1):=by
 obtain⟨q,hq⟩:∃q,n=t+1+255*q:=⟨(n+254)/255-1,by omega⟩
 constructor
 ·rintro ⟨h1,h2⟩
  obtain⟨m,hm⟩:∃m,y=255*m-c0-x:=⟨(c0+x+y)/255,by omega⟩
  have e:c1+n*x+t*y=c1+x-t*c0+255*(q*x+t*m):=by rw [hq,hm];grind
  rw [e] at h2
  have hxx:x=fx t c0 c1:=by
   unfold fx
   generalize t*c0=P at *
   generalize q*x+t*m=R at *
   omega
  refine⟨hxx,?_⟩
  rw [←hxx]
  unfold fy
  omega
 ·rintro ⟨h1,h2⟩
  rw [←h1] at h2
  have k1:(c0+x+y)%255=0:=by rw [h2];unfold fy;omega
  refine⟨k1,?_⟩
  obtain⟨m,hm⟩:∃m,y=255*m-c0-x:=⟨(c0+x+y)/255,by omega⟩
  have e:c1+n*x+t*y=c1+x-t*c0+255*(q*x+t*m):=by rw [hq,hm];grind
  rw [e]
  unfold fx at h1
  generalize t*c0=P at *
  generalize q*x+t*m=R at *
  omega
def tms (l:List Int) (a:Nat):Int:=((l.length:Int)-a-1)%255
def flx (l:List Int) (a:Nat):Int:=fx (tms l a) (S0 (laid l a 0 0)%255) (S1 (laid l a 0 0)%255)
def fly (l:List Int) (a:Nat):Int:=fy (S0 (laid l a 0 0)%255) (flx l a)
theorem Qdd (l:List Int) (a:Nat):1≤flx l a∧flx l a≤255:=Qor _ _ _
theorem Qdr (l:List Int) (a:Nat):1≤fly l a∧fly l a≤255:=Qq5 _ _
def whole (l:List Int):Bool:=(S0 l%255==0)&&(S1 l%255==0)
theorem Qdm (l:List Int):whole l=true↔S0 l%255=0∧S1 l%255=0:=by simp [whole]
theorem Qk7 (l:List Int) (a:Nat) (h:a+2≤l.length):whole (laid l a (flx l a) (fly l a))=true:=by
 rw [Qdm,Qtq _ _ _ _ h,Qte _ _ _ _ h]
 have k:=(Qg3 (c0:=S0 (laid l a 0 0)%255) (c1:=S1 (laid l a 0 0)%255) (n:=(l.length:Int)-a) (t:=((l.length:Int)-a+254)%255) rfl (Qdd l a) (Qdr l a)).2
 have ht:tms l a=((l.length:Int)-a+254)%255:=by unfold tms;omega
 have k:=k ⟨by rw [←ht];rfl,by rw [←ht];rfl⟩
 obtain⟨k1,k2⟩:=k
 refine⟨by omega,?_⟩
 obtain⟨q,hq⟩:∃q,(l.length:Int)-a-1=((l.length:Int)-a+254)%255+255*q:=⟨((l.length:Int)-a-1)/255,by omega⟩
 rw [hq]
 have e:(((l.length:Int)-a+254)%255+255*q)*fly l a=((l.length:Int)-a+254)%255*fly l a+255*(q*fly l a):=by grind
 rw [e]
 generalize ((l.length:Int)-a+254)%255*fly l a=P at *
 generalize q*fly l a=Q at *
 generalize ((l.length:Int)-a)*flx l a=R at *
 omega
end Go.Proofs.YtddbffoiadmffaaGreat
