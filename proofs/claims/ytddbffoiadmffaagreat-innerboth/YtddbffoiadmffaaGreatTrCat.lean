import Derived.Test.YtddbffoiadmffaaGreatTrJoin
import Derived.Test.YtddbffoiadmffaaGreatParts
import Derived.Test.YtddbffoiadmffaaGreatTrUp
import Derived.DeepKeys3
import Derived.WideKeyEntry
import Derived.Maps.RangeRun
import Derived.Test.YtddbffoiadmffaaGreatStaVal
import Derived.Lib.AppendZerosOnto
import Derived.Lib.Walk
import Derived.Laws.AppendOwnNone
namespace Go.Proofs.YtddbffoiadmffaaGreat
set_option linter.unusedVariables false
theorem last_mem {l:List HK} {h:HK} (e:l.getLast?=some h):h∈l:=List.mem_of_getLast? e
theorem mem_jn (l m:List HK) (x:HK):x∈jn l m↔x∈l∨x∈m:=by
 induction m generalizing l with
 | nil=>simp [jn]
 | cons h t ih =>
  simp only [jn]
  split
  ·rename_i e
   rw [ih]
   constructor
   ·rintro (h1 | h1)
    ·exact Or.inl h1
    ·exact Or.inr (List.mem_cons_of_mem _ h1)
   ·rintro (h1 | h1)
    ·exact Or.inl h1
    ·rcases List.mem_cons.1 h1 with rfl | h1
     ·exact Or.inl (last_mem e)
     ·exact Or.inr h1
  ·rw [ih]
   simp [or_assoc]
theorem jn_rises (l m:List HK) (hl:l.Pairwise HK.lt) (hm:m.Pairwise HK.le) (hc:∀ x∈l,∀ y∈m,x.le y):(jn l m).Pairwise HK.lt:=by
 induction m generalizing l with
 | nil=>simpa [jn] using hl
 | cons h t ih =>
  have hm':=List.pairwise_cons.1 hm
  simp only [jn]
  split
  ·exact ih l hl hm'.2 (fun x hx y hy=>hc x hx y (List.mem_cons_of_mem _ hy))
  ·rename_i e
   refine ih _ (pair_snoc hl (fun k hk=>hc k hk h (by simp)) e) hm'.2 (fun x hx y hy=>?_)
   rcases List.mem_append.1 hx with hx | hx
   ·exact hc x hx y (List.mem_cons_of_mem _ hy)
   ·simp at hx; subst hx; exact hm'.1 y hy
theorem rises_eq {l m:List HK} (hl:l.Pairwise HK.lt) (hm:m.Pairwise HK.lt) (h:∀ x,x∈l↔x∈m):l=m:=by
 induction l generalizing m with
 | nil =>
  cases m with
  | nil=>rfl
  | cons a t=>have:=(h a).2 (by simp); cases this
 | cons a l ih =>
  cases m with
  | nil=>have:=(h a).1 (by simp); cases this
  | cons b m =>
   have hl':=List.pairwise_cons.1 hl
   have hm':=List.pairwise_cons.1 hm
   have hab:a=b:=by
    rcases List.mem_cons.1 ((h a).1 (by simp)) with e | e
    ·exact e
    ·rcases List.mem_cons.1 ((h b).2 (by simp)) with e2 | e2
     ·exact e2.symm
     ·exact (HK.lt_irrefl a (HK.lt_trans (hl'.1 b e2) (hm'.1 a e))).elim
   subst hab
   rw [ih hl'.2 hm'.2 (fun x=>?_)]
   have hx:=h x
   constructor
   ·intro h1
    rcases List.mem_cons.1 (hx.1 (List.mem_cons_of_mem _ h1)) with e | e
    ·subst e; exact (HK.lt_irrefl _ (hl'.1 _ h1)).elim
    ·exact e
   ·intro h1
    rcases List.mem_cons.1 (hx.2 (List.mem_cons_of_mem _ h1)) with e | e
    ·subst e; exact (HK.lt_irrefl _ (hm'.1 _ h1)).elim
    ·exact e
def plc (h:HK):List HK→Nat
 | []=>0
 | x :: t=>if cH x h<0 then plc h t+1 else 0
def pt (h:HK):List HK→List HK
 | []=>[h]
 | x :: t=>if cH x h<0 then x :: pt h t else if x=h then x :: t else h :: x :: t
theorem mem_pt (h:HK) (l:List HK) (x:HK):x∈pt h l↔x∈l∨x=h:=by
 induction l with
 | nil=>simp [pt]
 | cons y t ih =>
  simp only [pt]
  split
  ·simp only [List.mem_cons,ih,or_assoc]
  ·split
   ·rename_i e
    subst e
    simp only [List.mem_cons]
    constructor
    ·exact Or.inl
    ·rintro (h1 | h1)
     ·exact h1
     ·exact Or.inl h1
   ·simp only [List.mem_cons]
    constructor
    ·rintro (h1 | h1)
     ·exact Or.inr h1
     ·exact Or.inl h1
    ·rintro (h1 | h1)
     ·exact Or.inr h1
     ·exact Or.inl h1
theorem pt_rises (h:HK) (l:List HK) (hl:l.Pairwise HK.lt):(pt h l).Pairwise HK.lt:=by
 induction l with
 | nil=>simp [pt]
 | cons y t ih =>
  have hl':=List.pairwise_cons.1 hl
  simp only [pt]
  split
  ·rename_i e
   refine List.pairwise_cons.2 ⟨fun x hx=>?_,ih hl'.2⟩
   rcases (mem_pt h t x).1 hx with hx | hx
   ·exact hl'.1 x hx
   ·subst hx; exact (cH_neg y x).1 e
  ·rename_i e
   split
   ·exact hl
   ·rename_i n
    have hy:h.lt y:=HK.lt_of_le_ne (fun h1=>e ((cH_neg y h).2 h1)) (fun e=>n e.symm)
    refine List.pairwise_cons.2 ⟨fun x hx=>?_,hl⟩
    rcases List.mem_cons.1 hx with rfl | hx
    ·exact hy
    ·exact HK.lt_trans hy (hl'.1 x hx)
open Go.RowKit
set_option maxRecDepth 100000
structure PX where
 addr:Int
 bits:Int
deriving DecidableEq
def PX.v (p:PX):Value:=.agg #[.int .u32 p.addr,.int .u8 p.bits]
theorem PX.v_inj {p q:PX} (h:p.v=q.v):p=q:=by
 cases p; cases q
 simp [PX.v] at h
 simp [h]
structure PX.Ok (p:PX):Prop where
 a:0≤p.addr∧p.addr<4294967296
 b:0≤p.bits∧p.bits<256
def PX.lt (x y:PX):Prop:=x.addr<y.addr∨x.addr=y.addr∧x.bits<y.bits
theorem PX.lt_irr (x:PX):¬ x.lt x:=by unfold PX.lt; omega
theorem PX.lt_trans {x y z:PX} (h:x.lt y) (h':y.lt z):x.lt z:=by unfold PX.lt at *; omega
theorem PX.lt_tri {x y:PX} (h:x≠y):x.lt y∨y.lt x:=by
 by_cases h1:x.addr=y.addr
 ·by_cases h2:x.bits=y.bits
  ·exact (h (by cases x; cases y; simp_all)).elim
  ·unfold PX.lt; omega
 ·unfold PX.lt; omega
abbrev HL:=Value×List HK
structure ME where
 p:PX
 cost:Int
 hs:List HL
def plM (L:List ME) (p:PX):Option Nat:=L.findIdx? (fun e=>e.p == p)
theorem plM_some {L:List ME} {p:PX} {j:Nat} (h:plM L p=some j):∃ e,L[j]?=some e∧e.p=p:=by
 unfold plM at h
 rw [List.findIdx?_eq_some_iff_getElem] at h
 obtain ⟨h1,h2,-⟩:=h
 exact ⟨L[j],by simp [h1],by simpa using h2⟩
theorem plM_none {L:List ME} {p:PX} (h:plM L p=none):∀ e∈L,e.p≠p:=by
 unfold plM at h
 rw [List.findIdx?_eq_none_iff] at h
 intro e he e1
 have:=h e he
 simp [e1] at this
def upM (e:ME) (c:Int) (h:HL):ME:=if e.cost<c then e else if c<e.cost then ⟨e.p,c,[h]⟩ else ⟨e.p,c,e.hs ++ [h]⟩
def putM (L:List ME) (p:PX) (c:Int) (h:HL):List ME :=
 match plM L p with
 | none=>L ++ [⟨p,c,[h]⟩]
 | some j=>match L[j]? with
  | some e=>L.set j (upM e c h)
  | none=>L
theorem putM_new {L:List ME} {p:PX} {c:Int} {h:HL} (e:plM L p=none):putM L p c h=L ++ [⟨p,c,[h]⟩]:=by
 unfold putM; rw [e]
theorem putM_old {L:List ME} {p:PX} {c:Int} {h:HL} {j:Nat} {x:ME} (e:plM L p=some j) (hx:L[j]?=some x):putM L p c h=L.set j (upM x c h):=by
 unfold putM; rw [e]; simp only [hx]
structure CW where
 p:PX
 cost:Int
 h:HL
def metM (l:List CW):List ME:=l.foldl (fun L x=>putM L x.p x.cost x.h) []
structure MetI (l:List CW) (L:List ME):Prop where
 nd:(L.map (·.p)).Nodup
 has:∀ x∈l,∃ e∈L,e.p=x.p∧e.cost≤x.cost∧(e.cost=x.cost→x.h∈e.hs)
 of:∀ e∈L,e.hs≠[]∧∀ h∈e.hs,∃ x∈l,x.p=e.p∧x.cost=e.cost∧x.h=h
theorem upM_p (e:ME) (c:Int) (h:HL):(upM e c h).p=e.p:=by unfold upM; split <;> (try split) <;> rfl
theorem MetI.step {l:List CW} {L:List ME} (I:MetI l L) (x:CW):MetI (l ++ [x]) (putM L x.p x.cost x.h):=by
 cases hp:plM L x.p with
 | none =>
  rw [putM_new hp]
  have hn:=plM_none hp
  refine ⟨?_,fun y hy=>?_,fun e he=>?_⟩
  ·rw [List.map_append,List.nodup_append]
   refine ⟨I.nd,by simp,fun a ha b hb=>?_⟩
   obtain ⟨e,he,rfl⟩:=List.mem_map.1 ha
   obtain rfl:b=x.p:=by simpa using hb
   exact hn e he
  ·rcases List.mem_append.1 hy with hy | hy
   ·obtain ⟨e,he,h⟩:=I.has y hy
    exact ⟨e,List.mem_append_left _ he,h⟩
   ·obtain rfl:y=x:=by simpa using hy
    exact ⟨_,List.mem_append_right _ (List.mem_singleton.2 rfl),rfl,Int.le_refl _,fun _=>by simp⟩
  ·rcases List.mem_append.1 he with he | he
   ·obtain ⟨h1,h2⟩:=I.of e he
    exact ⟨h1,fun h hh=>by obtain ⟨y,hy,h3⟩:=h2 h hh; exact ⟨y,List.mem_append_left _ hy,h3⟩⟩
   ·obtain rfl:e=⟨x.p,x.cost,[x.h]⟩:=by simpa using he
    exact ⟨by simp,fun h hh=>⟨x,List.mem_append_right _ (List.mem_singleton.2 rfl),rfl,rfl,(List.mem_singleton.1 hh).symm⟩⟩
 | some j =>
  obtain ⟨e0,he0,hp0⟩:=plM_some hp
  rw [putM_old hp he0]
  have hj:j<L.length:=(List.getElem?_eq_some_iff.1 he0).1
  have hm0:e0∈L:=List.mem_of_getElem? he0
  have hset:∀ e,e∈L.set j (upM e0 x.cost x.h)→e=upM e0 x.cost x.h∨(e∈L∧e.p≠x.p):=by
   intro e he
   obtain ⟨i,hi,hie⟩:=List.mem_iff_getElem.1 he
   by_cases hij:i=j
   ·subst hij
    rw [List.getElem_set_self] at hie
    exact Or.inl hie.symm
   ·rw [List.getElem_set_ne (Ne.symm hij)] at hie
    have hi':i<L.length:=by simpa using hi
    refine Or.inr ⟨hie ▸ List.getElem_mem hi',fun hpe=>hij ?_⟩
    have a1:(L.map (·.p))[i]?=some x.p:=by rw [List.getElem?_map,List.getElem?_eq_getElem hi',hie]; simp [hpe]
    have a2:(L.map (·.p))[j]?=some x.p:=by rw [List.getElem?_map,he0]; simp [hp0]
    exact (List.getElem?_inj (List.getElem?_eq_some_iff.1 a1).1 I.nd).1 (a1.trans a2.symm)
  have hnew:upM e0 x.cost x.h∈L.set j (upM e0 x.cost x.h):=List.mem_iff_getElem.2 ⟨j,by simpa using hj,by simp⟩
  have hold:∀ e∈L,e.p≠x.p→e∈L.set j (upM e0 x.cost x.h):=by
   intro e he hne
   obtain ⟨i,hi,hie⟩:=List.mem_iff_getElem.1 he
   refine List.mem_iff_getElem.2 ⟨i,by simpa using hi,?_⟩
   rw [List.getElem_set_ne]
   ·exact hie
   ·rintro rfl
    rw [List.getElem?_eq_getElem hi] at he0
    injection he0 with he0
    exact hne (by rw [← hie,he0,hp0])
  refine ⟨?_,fun y hy=>?_,fun e he=>?_⟩
  ·rw [List.map_set,upM_p]
   have:(L.map (·.p)).set j e0.p=L.map (·.p):=by
    apply List.ext_getElem?
    intro i
    rw [List.getElem?_set]
    split
    ·rename_i hij
     subst hij
     rw [List.getElem?_map,he0]
     simp [hj]
    ·rfl
   rw [this]
   exact I.nd
  ·by_cases hyp:y.p=x.p
   ·refine ⟨_,hnew,by rw [upM_p,hp0,hyp],?_⟩
    rcases List.mem_append.1 hy with hy | hy
    ·obtain ⟨e,he,h1,h2,h3⟩:=I.has y hy
     have:e=e0:=by
      obtain ⟨i,hi,hie⟩:=List.mem_iff_getElem.1 he
      have a1:(L.map (·.p))[i]?=some x.p:=by rw [List.getElem?_map,List.getElem?_eq_getElem hi,hie]; simp [h1,hyp]
      have a2:(L.map (·.p))[j]?=some x.p:=by rw [List.getElem?_map,he0]; simp [hp0]
      have hij:=(List.getElem?_inj (List.getElem?_eq_some_iff.1 a1).1 I.nd).1 (a1.trans a2.symm)
      subst hij
      rw [List.getElem?_eq_getElem hi] at he0
      injection he0 with he0
      rw [← hie,he0]
     subst this
     unfold upM
     split
     ·exact ⟨h2,h3⟩
     ·split
      ·exact ⟨by show x.cost≤y.cost; omega,fun h=>by have:x.cost=y.cost:=h; omega⟩
      ·have hc:e.cost=x.cost:=by omega
       exact ⟨by show x.cost≤y.cost; omega,fun h=>List.mem_append_left _ (h3 (by have:x.cost=y.cost:=h; omega))⟩
    ·obtain rfl:y=x:=by simpa using hy
     unfold upM
     split
     ·exact ⟨by omega,fun h=>by omega⟩
     ·split
      ·exact ⟨Int.le_refl _,fun _=>by simp⟩
      ·exact ⟨Int.le_refl _,fun _=>by simp⟩
   ·rcases List.mem_append.1 hy with hy | hy
    ·obtain ⟨e,he,h1,h2⟩:=I.has y hy
     exact ⟨e,hold e he (by rw [h1]; exact hyp),h1,h2⟩
    ·obtain rfl:y=x:=by simpa using hy
     exact (hyp rfl).elim
  ·rcases hset e he with rfl | ⟨he,-⟩
   ·obtain ⟨h1,h2⟩:=I.of e0 hm0
    have hx:x∈l ++ [x]:=List.mem_append_right _ (List.mem_singleton.2 rfl)
    have h2':∀ h∈e0.hs,∃ y∈l ++ [x],y.p=e0.p∧y.cost=e0.cost∧y.h=h:=fun h hh=>by
     obtain ⟨y,hy,h3⟩:=h2 h hh
     exact ⟨y,List.mem_append_left _ hy,h3⟩
    unfold upM
    split
    ·exact ⟨h1,h2'⟩
    ·split
     ·exact ⟨by simp,fun h hh=>⟨x,hx,hp0.symm,rfl,(List.mem_singleton.1 hh).symm⟩⟩
     ·have hc:e0.cost=x.cost:=by omega
      refine ⟨by simp,fun h hh=>?_⟩
      rcases List.mem_append.1 hh with hh | hh
      ·obtain ⟨y,hy,h3,h4,h5⟩:=h2' h hh
       exact ⟨y,hy,h3,h4.trans hc,h5⟩
      ·exact ⟨x,hx,hp0.symm,rfl,(List.mem_singleton.1 hh).symm⟩
   ·obtain ⟨h1,h2⟩:=I.of e he
    exact ⟨h1,fun h hh=>by obtain ⟨y,hy,h3⟩:=h2 h hh; exact ⟨y,List.mem_append_left _ hy,h3⟩⟩
theorem metM_i (l:List CW):MetI l (metM l):=by
 have:∀ (r l:List CW) (L:List ME),MetI l L→MetI (l ++ r) (r.foldl (fun L x=>putM L x.p x.cost x.h) L):=by
  intro r
  induction r with
  | nil=>intro l L h; simpa using h
  | cons x r ih =>
   intro l L h
   have:=ih (l ++ [x]) _ (h.step x)
   simpa using this
 have h:=this l [] [] ⟨by simp,by simp,by simp⟩
 simpa [metM] using h
theorem putM_len (L:List ME) (p:PX) (c:Int) (h:HL):(putM L p c h).length≤L.length+1:=by
 unfold putM
 split
 ·simp
 ·split
  ·simp
  ·omega
open Go.ChangeMaps (setBlock)
open Go.MapKept
structure MK (K M E:TypeId) (z:Value):Prop where
 law:WideMaps.KeyLaw Tryz.prog K
 und:Tryz.prog.underlying M=some (.map K E)
 zero:∀ w,(zeroValue E).run Tryz.prog w=.ok z w
structure AM (w:World) (K:TypeId) (m:Nat) (l:List (Value×Value)):Prop where
 out:∃ es c,w.heap[m]?=some (.map es c)∧es.toList.map (fun e=>(e.key,e.val))=l∧(es.toList.map (·.born)).Nodup∧(∀ e∈es.toList,e.born<c)
 keys:∀ p∈l,∃ q,Go.keyOf Tryz.prog K p.1=some q
 nd:(l.map Prod.fst).Nodup
theorem AM.lt {w:World} {K:TypeId} {m:Nat} {l:List (Value×Value)} (h:AM w K m l):m<w.heap.size:=by
 obtain ⟨es,c,h1,-⟩:=h.out
 exact lt_of_heap h1
theorem AM.keep {F:Nat→Prop} {w w':World} {K:TypeId} {m:Nat} {l:List (Value×Value)} (h:AM w K m l) (t:Touch F w w') (hm:¬ F m):AM w' K m l:=by
 have hl:=h.lt
 obtain ⟨⟨es,c,h1,h2⟩,h3,h4⟩:=h
 exact ⟨⟨es,c,(t.block m hl hm).trans h1,h2⟩,h3,h4⟩
theorem AM.keepN {w w':World} {K:TypeId} {m:Nat} {l:List (Value×Value)} (h:AM w K m l) (t:Touch (fun _=>False) w w'):AM w' K m l:=h.keep t (fun h=>h)
theorem AM.made (w:World) (K:TypeId) (c:Nat):AM (w.alloc (.map #[] c)) K w.heap.size [] :=
 ⟨⟨#[],c,by show (w.heap.push _)[w.heap.size]?=_; simp,rfl,by simp,by simp⟩,by simp,by simp⟩
theorem am_touch {w:World} {m:Nat} {o o':Obj} (h:w.heap[m]?=some o):Touch (fun k=>k=m) w (setBlock w m o'):=by
 refine ⟨rfl,rfl,rfl,by simp [setBlock],fun k hk hn=>?_⟩
 show (w.heap.setIfInBounds m o')[k]?=_
 rw [Array.getElem?_setIfInBounds,if_neg (fun e=>hn e.symm)]
theorem am_set {w:World} {m:Nat} {o o':Obj} (h:w.heap[m]?=some o):(setBlock w m o').heap[m]?=some o':=by
 show (w.heap.setIfInBounds m o')[m]?=_
 rw [Array.getElem?_setIfInBounds,if_pos rfl,if_pos (lt_of_heap h)]
theorem am_keys {K:TypeId} {es:Array MapEntry} {l:List (Value×Value)} (h2:es.toList.map (fun e=>(e.key,e.val))=l) (ok:∀ p∈l,∃ q,Go.keyOf Tryz.prog K p.1=some q):∀ e∈es.toList,∃ q,Go.keyOf Tryz.prog K e.key=some q:=by
 intro e he
 exact ok (e.key,e.val) (by rw [← h2]; exact List.mem_map.2 ⟨e,he,rfl⟩)
theorem am_get {es:Array MapEntry} {l:List (Value×Value)} (h2:es.toList.map (fun e=>(e.key,e.val))=l) {j:Nat} {e:MapEntry} (hj:es.toList[j]?=some e):l[j]?=some (e.key,e.val):=by
 rw [← h2,List.getElem?_map,hj]; rfl
theorem AM.len {w:World} {K:TypeId} {m:Nat} {l:List (Value×Value)} (h:AM w K m l) {M:TypeId} (hu:Tryz.prog.underlying M=some (.map (Tryz.prog.mapKeyOf M) (Tryz.prog.mapElemOf M))) (ty:TypeId):(Builtin.len_ #[M] ty #[.map (some m)]).run Tryz.prog w=.ok (.int .i64 l.length) w:=by
 obtain ⟨⟨es,c,h1,h2,-⟩,-⟩:=h
 rw [run_len_map w _ ty m es c hu h1]
 have:es.size=l.length:=by rw [← h2]; simp
 rw [this]
 rfl
theorem AM.miss {K M E:TypeId} {z:Value} (kt:MK K M E z) {w:World} {m:Nat} {l:List (Value×Value)} (h:AM w K m l) {k:Value} {q:Lit} (hk:Go.keyOf Tryz.prog K k=some q) (hn:∀ p∈l,p.1≠k) :
  (Instr.lookup M (.map (some m)) k true).run Tryz.prog w=.ok (.tuple #[z,.bool false]) w:=by
 obtain ⟨⟨es,c,h1,h2,-⟩,ok,nd⟩:=h
 rcases kt.law.find w hk es.toList (am_keys h2 ok) with ⟨g1,-⟩ | ⟨j,e,g1,g2,g3⟩
 ·simp [Instr.lookup,run_underlying kt.und,MapKept.run_getObj_map h1,kt.law.check w es.isEmpty hk,g1,kt.zero w,Result.andThen]
 ·exact absurd g3 (hn _ (List.mem_of_getElem? (am_get h2 g2)))
theorem am_idx {l:List (Value×Value)} (nd:(l.map Prod.fst).Nodup) {i j:Nat} {k v v':Value} (h1:l[i]?=some (k,v)) (h2:l[j]?=some (k,v')):i=j:=by
 have a1:(l.map Prod.fst)[i]?=some k:=by rw [List.getElem?_map,h1]; rfl
 have a2:(l.map Prod.fst)[j]?=some k:=by rw [List.getElem?_map,h2]; rfl
 exact (List.getElem?_inj (List.getElem?_eq_some_iff.1 a1).1 nd).1 (a1.trans a2.symm)
theorem AM.hit {K M E:TypeId} {z:Value} (kt:MK K M E z) {w:World} {m:Nat} {l:List (Value×Value)} (h:AM w K m l) {k v:Value} {j:Nat} (hj:l[j]?=some (k,v)) :
  (Instr.lookup M (.map (some m)) k true).run Tryz.prog w=.ok (.tuple #[v,.bool true]) w:=by
 obtain ⟨⟨es,c,h1,h2,-⟩,ok,nd⟩:=h
 obtain ⟨q,hk⟩:∃ q,Go.keyOf Tryz.prog K k=some q:=ok _ (List.mem_of_getElem? hj)
 rcases kt.law.find w hk es.toList (am_keys h2 ok) with ⟨-,g2⟩ | ⟨i,e,g1,g2,g3⟩
 ·exfalso
  have:(k,v)∈es.toList.map (fun e=>(e.key,e.val)):=by rw [h2]; exact List.mem_of_getElem? hj
  obtain ⟨e,he,e1⟩:=List.mem_map.1 this
  exact g2 e he (congrArg Prod.fst e1)
 ·have g4:=am_get h2 g2
  rw [g3] at g4
  have hij:=am_idx nd g4 hj
  subst hij
  have e2:e.val=v:=by rw [g4] at hj; injection hj with hj; exact congrArg Prod.snd hj
  have g2':es[i]?=.some e:=by simpa using g2
  simp [Instr.lookup,run_underlying kt.und,MapKept.run_getObj_map h1,kt.law.check w es.isEmpty hk,g1,Result.andThen,e2]
theorem AM.putNew {K M E:TypeId} {z:Value} (kt:MK K M E z) {w:World} {m:Nat} {l:List (Value×Value)} (h:AM w K m l) {k:Value} {q:Lit} (v:Value) (hk:Go.keyOf Tryz.prog K k=some q) (hn:∀ p∈l,p.1≠k) :
  ∃ w',(Instr.mapUpdate M (.map (some m)) k v).run Tryz.prog w=.ok () w'∧AM w' K m (l ++ [(k,v)])∧Touch (fun k=>k=m) w w':=by
 obtain ⟨⟨es,n,h1,h2,h3,h4⟩,ok,nd⟩:=h
 rcases kt.law.find w hk es.toList (am_keys h2 ok) with ⟨g1,-⟩ | ⟨j,e,g1,g2,g3⟩
 ·refine ⟨setBlock w m (.map (es.push ⟨k,v,n⟩) (n+1)),?_,⟨⟨_,_,am_set h1,?_,?_,?_⟩,?_,?_⟩,am_touch h1⟩
  ·simp [Instr.mapUpdate,run_underlying kt.und,MapKept.run_getObj_map h1,kt.law.check w false hk,g1,MapKept.run_setObj_map _ h1,Result.andThen,setBlock]
  ·simp [h2]
  ·rw [Array.toList_push,List.map_append,List.nodup_append]
   refine ⟨h3,by simp,fun a ha b hb=>?_⟩
   obtain ⟨e,he,rfl⟩:=List.mem_map.1 ha
   obtain rfl:b=n:=by simpa using hb
   have:=h4 e he
   omega
  ·intro e he
   rw [Array.toList_push] at he
   rcases List.mem_append.1 he with he | he
   ·have:=h4 e he; omega
   ·obtain rfl:e=⟨k,v,n⟩:=by simpa using he
    exact Nat.lt_succ_self _
  ·intro p hp
   rcases List.mem_append.1 hp with hp | hp
   ·exact ok p hp
   ·obtain rfl:p=(k,v):=by simpa using hp
    exact ⟨q,hk⟩
  ·rw [List.map_append,List.nodup_append]
   refine ⟨nd,by simp,fun a ha b hb=>?_⟩
   obtain ⟨p,hp,rfl⟩:=List.mem_map.1 ha
   obtain rfl:b=k:=by simpa using hb
   exact hn p hp
 ·exact absurd g3 (hn _ (List.mem_of_getElem? (am_get h2 g2)))
theorem AM.putOld {K M E:TypeId} {z:Value} (kt:MK K M E z) {w:World} {m:Nat} {l:List (Value×Value)} (h:AM w K m l) {k v0:Value} (v:Value) {j:Nat} (hj:l[j]?=some (k,v0)) :
  ∃ w',(Instr.mapUpdate M (.map (some m)) k v).run Tryz.prog w=.ok () w'∧AM w' K m (l.set j (k,v))∧Touch (fun k=>k=m) w w':=by
 obtain ⟨⟨es,n,h1,h2,h3,h4⟩,ok,nd⟩:=h
 obtain ⟨q,hk⟩:∃ q,Go.keyOf Tryz.prog K k=some q:=ok _ (List.mem_of_getElem? hj)
 rcases kt.law.find w hk es.toList (am_keys h2 ok) with ⟨-,g2⟩ | ⟨i,e,g1,g2,g3⟩
 ·exfalso
  have:(k,v0)∈es.toList.map (fun e=>(e.key,e.val)):=by rw [h2]; exact List.mem_of_getElem? hj
  obtain ⟨e,he,e1⟩:=List.mem_map.1 this
  exact g2 e he (congrArg Prod.fst e1)
 ·have g4:=am_get h2 g2
  rw [g3] at g4
  have hij:=am_idx nd g4 hj
  subst hij
  have g2':es[i]?=.some e:=by simpa using g2
  have hm:(es.modify i (fun e'=>{ e' with key:=k,val:=v })).toList=es.toList.set i { e with key:=k,val:=v }:=by
   rw [Array.toList_modify,ChangeMaps.modify_eq_set _ _ _ _ g2]
  refine ⟨setBlock w m (.map (es.modify i (fun e'=>{ e' with key:=k,val:=v })) n),?_,⟨⟨_,_,am_set h1,?_,?_,?_⟩,?_,?_⟩,am_touch h1⟩
  ·simp [Instr.mapUpdate,run_underlying kt.und,MapKept.run_getObj_map h1,kt.law.check w false hk,g1,g2',g3,kt.law.stays w hk,MapKept.run_setObj_map _ h1,Result.andThen,setBlock]
  ·rw [hm,List.map_set,h2]
  ·rw [hm,List.map_set]
   have e5:(es.toList.map (·.born)).set i e.born=es.toList.map (·.born):=by
    apply List.ext_getElem?
    intro x
    rw [List.getElem?_set]
    split
    ·rename_i hx
     subst hx
     rw [List.getElem?_map,g2]
     have:=(List.getElem?_eq_some_iff.1 g2).1
     simpa using this
    ·rfl
   rw [e5]
   exact h3
  ·intro e' he
   rw [hm] at he
   rcases List.mem_or_eq_of_mem_set he with he | rfl
   ·exact h4 e' he
   ·exact h4 e (List.mem_of_getElem? g2)
  ·intro p hp
   rcases List.mem_or_eq_of_mem_set hp with hp | rfl
   ·exact ok p hp
   ·exact ⟨q,hk⟩
  ·rw [List.map_set]
   have e5:(l.map Prod.fst).set i k=l.map Prod.fst:=by
    apply List.ext_getElem?
    intro x
    rw [List.getElem?_set]
    split
    ·rename_i hx
     subst hx
     rw [List.getElem?_map,hj]
     simp [(List.getElem?_eq_some_iff.1 hj).1]
    ·rfl
   show ((l.map Prod.fst).set i k).Nodup
   rw [e5]
   exact nd
abbrev HpB (w0 w:World) (v:Value) (l:List HK):Prop:=VBuf 48 3 w0 w v l.length (cellsG HK.cs l)
theorem HpB.more {w0 w:World} {v:Value} {l l':List HK} {n:Nat} (hn:n=l.length+l'.length) (h:VBuf 48 3 w0 w v n (cellsG HK.cs l ++ cellsG HK.cs l')):HpB w0 w v (l ++ l'):=by
 unfold HpB
 rw [List.length_append,cellsG_append,← hn]
 exact h
theorem oneCellH (l:List HK):∀ u∈cellsG HK.cs l,u.oneCell'=true:=by
 intro u hu
 obtain ⟨x,-,hx⟩:=List.mem_flatMap.1 hu
 simp [HK.cs] at hx
 rcases hx with rfl | rfl | rfl <;> rfl
abbrev HV3 (w:World) (v:Value) (l:List HK):Prop:=ValsAt w 3 v l.length (cellsG HK.cs l)
set_option maxHeartbeats 1000000 in
theorem grow_any (n:Nat) (w:World) (hn:n≤1099511627776):Calls Tryz.prog 85 #[.slice none 0 0,.int .i64 (n:Int)] w fun e w'=>∃ v',e=.returned v'∧HpB w w' v' []:=by
 obtain ⟨i0,hi,hz0,hz1,hz2⟩:=infoParts infoHop
 by_cases h0:n=0
 ·subst h0
  go_enter Tryz.func85,Tryz.ntmps85
  go_wp2
  go_ret
  exact ⟨_,rfl,VBuf.nil _ _ (Touch.refl _ w)⟩
 ·have h1:¬ ((n:Int)<0):=by omega
  have h4:(n:Int) > 0:=by omega
  have hold:(Builtin.firstCells i0.size 0 (.slice none 0 0)).run Tryz.prog w.drew=.ok ([]:List Value).toArray w.drew:=by
   simp [Builtin.firstCells]
  have hrz:=fun ty=>Lib.run_append_grow_zeros (P:=Tryz.prog) w 43 3 ty 48 i0 (.agg #[.int .u32 0,.int .u32 0,.bool false]) .i64 .i64 Tryz.underlying43 Tryz.underlying3 hi hz0 none 0 0 [] hold n (by omega) (by omega) (by omega) (by omega) (by rw [hz2]; omega) (growslice_fits (by omega) (by rw [hz2]; omega))
  have hGn:n≤grownCap w n 0 48:=grownCap_ge w _ _ _
  have hGm:grownCap w n 0 48≤maxLen:=grownCap_le_maxLen w n 0 _ (by unfold maxLen; omega)
  simp only [Nat.zero_add] at hrz
  generalize grownCap w n 0 48=G at hrz hGn hGm
  have hG63:G≤9223372036854775807:=by unfold maxLen at hGm; omega
  have HBB:Hid (HpB w (w.drew.alloc (Obj.cells (([]:List Value).toArray ++ Builtin.zeroCells (Value.agg #[.int .u32 0,.int .u32 0,.bool false]).cells n ++ Builtin.zeroCells (Value.agg #[.int .u32 0,.int .u32 0,.bool false]).cells (G - n)) 48)) (.slice (some ⟨w.heap.size,0,none⟩) 0 G) []):=by
   refine ⟨⟨rfl,Or.inr ⟨w.heap.size,G,_,rfl,Nat.le_refl _,heap_alloc_new w.drew _,Nat.zero_le _,hGm,?_,by simp [cellsG]⟩⟩,((Touch.refl _ w).drew).alloc _⟩
   simp only [Array.size_append,size_zeroCells]
   simp [Value.cells]
   omega
  generalize hw:(w.drew.alloc (Obj.cells (([]:List Value).toArray ++ Builtin.zeroCells (Value.agg #[.int .u32 0,.int .u32 0,.bool false]).cells n ++ Builtin.zeroCells (Value.agg #[.int .u32 0,.int .u32 0,.bool false]).cells (G - n)) 48))=wz at hrz HBB
  clear hold hw hi hz0 hz1 hz2 hGm
  go_enter Tryz.func85,Tryz.ntmps85
  go_wp2_with (at_builtin; refine Lib.wpList_append_run _ rfl _ _ _ _ rfl _ _ rfl rfl _ _ (hrz _) ?_)
  all_goals (go_ret; exact ⟨_,rfl,HBB.out⟩)
def CcA (n1 n2:Nat) (s i:Value):Prop:=∃ k:Nat,k≤2∧i=.int .i64 (k:Int)∧s=.int .i64 ((if k=0 then 0 else if k=1 then n1 else n1+n2:Nat):Int)
def CcB (w0:World) (r1 r2:List HK) (p i:Value) (wr:World):Prop:=∃ k:Nat,k≤2∧i=.int .i64 (k:Int)∧HpB w0 wr p (if k=0 then [] else if k=1 then r1 else r1 ++ r2)
set_option maxHeartbeats 1000000 in
theorem concat_any (gp:Nat) (v1 v2:Value) (r1 r2:List HK) (w:World) (c1:w.cell? ⟨gp,0,none⟩=some v1) (c2:w.cell? ⟨gp,1,none⟩=some v2) (h1:HV3 w v1 r1) (h2:HV3 w v2 r2) (hl1:r1.length≤274877906944) (hl2:r2.length≤274877906944) :
  Calls Tryz.prog 46 #[.slice (some ⟨gp,0,none⟩) 2 2] w fun e w'=>∃ v',e=.returned v'∧HpB w w' v' (r1 ++ r2):=by
 obtain ⟨a1,k1,rfl,_⟩:=h1.form
 obtain ⟨a2,k2,rfl,_⟩:=h2.form
 have H1:Hid (HV3 w (.slice a1 r1.length k1) r1):=h1
 have H2:Hid (HV3 w (.slice a2 r2.length k2) r2):=h2
 clear h1 h2
 go_enter Tryz.func46,Tryz.ntmps46
 go_wp2_with fail
 go_loop [3,11] (fun s i=>CcA r1.length r2.length s i) (fun _ i=>2 - (intOf i).toNat)
 case atStart=>exact ⟨0,by omega,rfl,rfl⟩
 case round =>
  obtain ⟨k,hk,rfl,rfl⟩:=hrel
  match k,hk with
  | 0,_ =>
   simp only [reduceIte]
   go_wp2_with fail
   go_round
   case rel=>exact ⟨1,by omega,rfl,by simp⟩
   case measure=>simp [intOf]
  | 1,_ =>
   simp only [reduceIte,Nat.reduceEqDiff]
   go_wp2_with fail
   go_round
   case rel=>exact ⟨2,by omega,rfl,by simp⟩
   case measure=>simp [intOf]
  | 2,_ =>
   simp only [reduceIte,Nat.reduceEqDiff]
   have HG:=grow_any (r1.length+r2.length) w (by omega)
   go_wp2_with (first | refine HG.mono ?_; rintro e w1 ⟨p,rfl,hb⟩)
   have HB0:Hid (CcB w r1 r2 p (.int .i64 ((0:Nat):Int)) w1):=⟨0,by omega,rfl,hb⟩
   clear hb HG
   go_wp2_with fail
   go_loopw [6,27] (fun p i wr=>CcB w r1 r2 p i wr) (fun _ i _=>2 - (intOf i).toNat)
   case atStart=>exact HB0.out
   case round =>
    clear HB0
    obtain ⟨k,hk,rfl,hb⟩:=hrel
    have HT:Hid (Touch (fun _=>False) w wr):=hb.t
    match k,hk with
    | 0,_ =>
     simp only [reduceIte] at hb
     have d1:=HT.out.cellN c1
     go_wp2_with (at_builtin; refine vapp_arg rfl (.tmp 31) (.tmp 32) 43 rfl 48 3 12 _ Tryz.underlying43 infoHop rfl (by omega) (by omega) w _ 0 (cellsG HK.cs []) rfl hb _ r1.length (cellsG HK.cs r1) rfl (H1.out.keep HT.out) (oneCellH _) (by omega) ?_; intro v' w' hb'; replace hb':=HpB.more (l:=[]) (l':=r1) rfl hb'; simp only [List.nil_append] at hb')
     go_roundw
     case rel=>exact ⟨1,by omega,rfl,hb'⟩
     case measure=>simp [intOf]
    | 1,_ =>
     simp only [reduceIte,Nat.reduceEqDiff] at hb
     have d1:=HT.out.cellN c2
     go_wp2_with (at_builtin; refine vapp_arg rfl (.tmp 31) (.tmp 32) 43 rfl 48 3 12 _ Tryz.underlying43 infoHop rfl (by omega) (by omega) w _ r1.length (cellsG HK.cs r1) rfl hb _ r2.length (cellsG HK.cs r2) rfl (H2.out.keep HT.out) (oneCellH _) (by omega) ?_; intro v' w' hb'; replace hb':=HpB.more (l:=r1) (l':=r2) rfl hb')
     go_roundw
     case rel=>exact ⟨2,by omega,rfl,hb'⟩
     case measure=>simp [intOf]
    | 2,_ =>
     simp only [reduceIte,Nat.reduceEqDiff] at hb
     go_wp2_with fail
     go_ret
     exact ⟨_,rfl,hb⟩
    | n+3,h=>omega
  | n+3,h=>omega
end Go.Proofs.YtddbffoiadmffaaGreat
