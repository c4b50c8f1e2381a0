import Derived.Test.YtldmkoogghemhaaGreatTrJoin
import Derived.DeepKeys3
import Derived.WideKeyEntry
import Derived.Maps.RangeRun
import Derived.Deep.Slices
import Derived.SizedLaws
import Derived.OpenShut
import Derived.Laws.AppendOwnNone
namespace Go.Proofs.YtldmkoogghemhaaGreat
set_option linter.unusedVariables false
theorem Qlf {l:List HK} {h:HK} (e:l.getLast?=some h):h∈l:=List.mem_of_getLast? e
theorem Qou (l m:List HK) (x:HK):x∈jn l m↔x∈l∨x∈m:=by
 induction m generalizing l with
 | nil=>simp [jn]
 | cons h t ih =>
  simp only [jn]
  split
  ·rename_i e
   rw [ih]
   constructor
   ·rintro (h1|h1)
    ·exact Or.inl h1
    ·exact Or.inr (List.mem_cons_of_mem _ h1)
   ·rintro (h1|h1)
    ·exact Or.inl h1
    ·rcases List.mem_cons.1 h1 with rfl|h1
     ·exact Or.inl (Qlf e)
     ·exact Or.inr h1
  ·rw [ih]
   simp [or_assoc]
theorem Qk4 (l m:List HK) (hl:l.Pairwise HK.lt) (hm:m.Pairwise HK.le) (hc:∀x∈l,∀y∈m,x.le y):(jn l m).Pairwise HK.lt:=by
 induction m generalizing l with
 | nil=>simpa [jn] using hl
 | cons h t ih =>
  have hm':=List.pairwise_cons.1 hm
  simp only [jn]
  split
  ·exact ih l hl hm'.2 (fun x hx y hy=>hc x hx y (List.mem_cons_of_mem _ hy))
  ·rename_i e
   refine ih _ (Qi2 hl (fun k hk=>hc k hk h (by simp)) e) hm'.2 (fun x hx y hy=>?_)
   rcases List.mem_append.1 hx with hx|hx
   ·exact hc x hx y (List.mem_cons_of_mem _ hy)
   ·simp at hx;subst hx;exact hm'.1 y hy
theorem Qky {l m:List HK} (hl:l.Pairwise HK.lt) (hm:m.Pairwise HK.lt) (h:∀x,x∈l↔x∈m):l=m:=by
 induction l generalizing m with
 | nil =>
  cases m with
  | nil=>rfl
  | cons a t=>have:=(h a).2 (by simp);cases this
 | cons a l ih =>
  cases m with
  | nil=>have:=(h a).1 (by simp);cases this
  | cons b m =>
   have hl':=List.pairwise_cons.1 hl
   have hm':=List.pairwise_cons.1 hm
   have hab:a=b:=by
    rcases List.mem_cons.1 ((h a).1 (by simp)) with e|e
    ·exact e
    ·rcases List.mem_cons.1 ((h b).2 (by simp)) with e2|e2
     ·exact e2.symm
     ·exact (HK.lt_irrefl a (HK.lt_trans (hl'.1 b e2) (hm'.1 a e))).elim
   subst hab
   rw [ih hl'.2 hm'.2 (fun x=>?_)]
   have hx:=h x
   constructor
   ·intro h1
    rcases List.mem_cons.1 (hx.1 (List.mem_cons_of_mem _ h1)) with e|e
    ·subst e;exact (HK.lt_irrefl _ (hl'.1 _ h1)).elim
    ·exact e
   ·intro h1
    rcases List.mem_cons.1 (hx.2 (List.mem_cons_of_mem _ h1)) with e|e
    ·subst e;exact (HK.lt_irrefl _ (hm'.1 _ h1)).elim
    ·exact e
def plc (h:HK):List HK→Nat
 | []=>0
 | x::t=>if cH x h<0 then plc h t+1 else 0
def pt (h:HK):List HK→List HK
 | []=>[h]
 | x::t=>if cH x h<0 then x::pt h t else if x=h then x::t else h::x::t
theorem Qmc (h:HK) (l:List HK) (x:HK):x∈pt h l↔x∈l∨x=h:=by
 induction l with
 | nil=>simp [pt]
 | cons y t ih =>
  simp only [pt]
  split
  ·simp only [List.mem_cons,ih,or_assoc]
  ·split
   ·rename_i e
    subst e
    simp only [List.mem_cons]
    constructor
    ·exact Or.inl
    ·rintro (h1|h1)
     ·exact h1
     ·exact Or.inl h1
   ·simp only [List.mem_cons]
    constructor
    ·rintro (h1|h1)
     ·exact Or.inr h1
     ·exact Or.inl h1
    ·rintro (h1|h1)
     ·exact Or.inr h1
     ·exact Or.inl h1
theorem Ql1 (h:HK) (l:List HK) (hl:l.Pairwise HK.lt):(pt h l).Pairwise HK.lt:=by
 induction l with
 | nil=>simp [pt]
 | cons y t ih =>
  have hl':=List.pairwise_cons.1 hl
  simp only [pt]
  split
  ·rename_i e
   refine List.pairwise_cons.2 ⟨fun x hx=>?_,ih hl'.2⟩
   rcases (Qmc h t x).1 hx with hx|hx
   ·exact hl'.1 x hx
   ·subst hx;exact (Qjc y x).1 e
  ·rename_i e
   split
   ·exact hl
   ·rename_i n
    have hy:h.lt y:=HK.lt_of_le_ne (fun h1=>e ((Qjc y h).2 h1)) (fun e=>n e.symm)
    refine List.pairwise_cons.2 ⟨fun x hx=>?_,hl⟩
    rcases List.mem_cons.1 hx with rfl|hx
    ·exact hy
    ·exact HK.lt_trans hy (hl'.1 x hx)
theorem Qiz (h:HK) (l:List HK):(pt h l).length≤l.length+1:=by
 induction l with
 | nil=>simp [pt]
 | cons y t ih =>
  simp only [pt]
  split
  ·simp;exact ih
  ·split <;> simp
def pts (l m:List HK):List HK:=m.foldl (fun l h=>pt h l) l
theorem Qd9 (l m:List HK) (x:HK):x∈pts l m↔x∈l∨x∈m:=by
 induction m generalizing l with
 | nil=>simp [pts]
 | cons h t ih =>
  have e:pts l (h::t)=pts (pt h l) t:=rfl
  rw [e,ih,Qmc,List.mem_cons,or_assoc]
theorem Qcn (l m:List HK) (hl:l.Pairwise HK.lt):(pts l m).Pairwise HK.lt:=by
 induction m generalizing l with
 | nil=>exact hl
 | cons h t ih=>exact ih _ (Ql1 h l hl)
theorem Qhp (l m:List HK):(pts l m).length≤l.length+m.length:=by
 induction m generalizing l with
 | nil=>simp [pts]
 | cons h t ih =>
  have e:pts l (h::t)=pts (pt h l) t:=rfl
  have h1:=Qiz h l
  have h2:=ih (pt h l)
  rw [e]
  simp only [List.length_cons]
  omega
def rj (a b:List HK):List HK:=pts (pts [] a) b
theorem Qn9 (a b:List HK) (x:HK):x∈rj a b↔x∈a∨x∈b:=by
 rw [rj,Qd9,Qd9]
 simp
open Go.RowKit
set_option maxRecDepth 100000
structure PX where
 addr:Int
 bits:Int
deriving DecidableEq
abbrev HL:=Value×List HK
open Go.ChangeMaps (setBlock)
open Go.MapKept
structure MK (K M E:TypeId) (z:Value):Prop where
 law:WideMaps.KeyLaw Tryz.prog K
 und:Tryz.prog.underlying M=some (.map K E)
 zero:∀w,(zeroValue E).run Tryz.prog w=.ok z w
structure AM (w:World) (K:TypeId) (m:Nat) (l:List (Value×Value)):Prop where
 out:∃es c,w.heap[m]?=some (.map es c)∧es.toList.map (fun e=>(e.key,e.val))=l∧(es.toList.map (·.born)).Nodup∧(∀e∈es.toList,e.born<c)
 keys:∀p∈l,∃q,Go.keyOf Tryz.prog K p.1=some q
 nd:(l.map Prod.fst).Nodup
theorem AM.lt {w:World} {K:TypeId} {m:Nat} {l:List (Value×Value)} (h:AM w K m l):m<w.heap.size:=by
 obtain⟨es,c,h1,-⟩:=h.out
 exact Qa7 h1
theorem AM.keep {F:Nat→Prop} {w w':World} {K:TypeId} {m:Nat} {l:List (Value×Value)} (h:AM w K m l) (t:Touch F w w') (hm:¬F m):AM w' K m l:=by
 have hl:=h.lt
 obtain⟨⟨es,c,h1,h2⟩,h3,h4⟩:=h
 exact⟨⟨es,c,(t.block m hl hm).trans h1,h2⟩,h3,h4⟩
theorem AM.keepN {w w':World} {K:TypeId} {m:Nat} {l:List (Value×Value)} (h:AM w K m l) (t:Touch (fun _=>False) w w'):AM w' K m l:=h.keep t (fun h=>h)
theorem AM.made (w:World) (K:TypeId) (c:Nat):AM (w.alloc (.map #[] c)) K w.heap.size [] :=
 ⟨⟨#[],c,by show (w.heap.push _)[w.heap.size]?=_;simp,rfl,by simp,by simp⟩,by simp,by simp⟩
theorem Qkr {w:World} {m:Nat} {o o':Obj} (h:w.heap[m]?=some o):Touch (fun k=>k=m) w (setBlock w m o'):=by
 refine⟨rfl,rfl,rfl,by simp [setBlock],fun k hk hn=>?_⟩
 show (w.heap.setIfInBounds m o')[k]?=_
 rw [Array.getElem?_setIfInBounds,if_neg (fun e=>hn e.symm)]
theorem Qnw {w:World} {m:Nat} {o o':Obj} (h:w.heap[m]?=some o):(setBlock w m o').heap[m]?=some o':=by
 show (w.heap.setIfInBounds m o')[m]?=_
 rw [Array.getElem?_setIfInBounds,if_pos rfl,if_pos (Qa7 h)]
theorem Qgj {K:TypeId} {es:Array MapEntry} {l:List (Value×Value)} (h2:es.toList.map (fun e=>(e.key,e.val))=l) (ok:∀p∈l,∃q,Go.keyOf Tryz.prog K p.1=some q):∀e∈es.toList,∃q,Go.keyOf Tryz.prog K e.key=some q:=by
 intro e he
 exact ok (e.key,e.val) (by rw [←h2];exact List.mem_map.2 ⟨e,he,rfl⟩)
theorem Qjg {es:Array MapEntry} {l:List (Value×Value)} (h2:es.toList.map (fun e=>(e.key,e.val))=l) {j:Nat} {e:MapEntry} (hj:es.toList[j]?=some e):l[j]?=some (e.key,e.val):=by
 rw [←h2,List.getElem?_map,hj];rfl
theorem Qoi {l:List (Value×Value)} (nd:(l.map Prod.fst).Nodup) {i j:Nat} {k v v':Value} (h1:l[i]?=some (k,v)) (h2:l[j]?=some (k,v')):i=j:=by
 have a1:(l.map Prod.fst)[i]?=some k:=by rw [List.getElem?_map,h1];rfl
 have a2:(l.map Prod.fst)[j]?=some k:=by rw [List.getElem?_map,h2];rfl
 exact (List.getElem?_inj (List.getElem?_eq_some_iff.1 a1).1 nd).1 (a1.trans a2.symm)
open Go.RowKit Go.ChangeShapes Go.WideShapes Go.ChangeAt
def ArgAt (w:World) (v:Value) (rs:List Int):Prop :=
 (v=.slice none 0 0∧rs=[])∨∃ad c,v=.slice (some ad) rs.length c∧rs.length≤c∧c≤maxLen∧∀j u,(bytesOf rs)[j]?=some u→w.cell? (ad.add j)=some u
theorem RowAt.arg {w:World} {v:Value} {rs:List Int} (h:RowAt w v rs):ArgAt w v rs:=by
 rcases h with h|⟨g,off,c,rfl,h1,h2,h3⟩
 ·exact Or.inl h
 ·exact Or.inr ⟨_,c,rfl,h1,h2,fun j u hj=>by rw [Qah];exact h3 j u hj⟩
theorem ArgAt.form {w:World} {v:Value} {rs:List Int} (h:ArgAt w v rs):∃a c,v=.slice a rs.length c∧rs.length≤maxLen:=by
 rcases h with⟨rfl,rfl⟩|⟨ad,c,rfl,h1,h2,h3⟩
 ·exact⟨_,_,rfl,Nat.zero_le _⟩
 ·exact⟨_,_,rfl,Nat.le_trans h1 h2⟩
theorem ArgAt.row {w:World} {v:Value} {rs:List Int} (h:ArgAt w v rs) (hp:0<rs.length):RowAt w v rs:=by
 rcases h with⟨rfl,rfl⟩|⟨ad,c,rfl,h1,h2,h3⟩
 ·exact Or.inl ⟨rfl,rfl⟩
 ·obtain⟨g,off,spot⟩:=ad
  have hc:=h3 0 (.int .u8 rs[0]) (by simp [bytesOf,hp])
  have hspot:spot=none:=by simpa [Addr.add] using World.cell?_spot hc
  subst hspot
  exact Or.inr ⟨g,off,c,rfl,h1,h2,fun j u hj=>by have:=h3 j u hj;rwa [Qah] at this⟩
theorem ArgAt.keep {F:Nat→Prop} {w w':World} {v:Value} {rs:List Int} (h:ArgAt w v rs) (t:Touch F w w') (hF:∀k,k<w.heap.size→¬F k):ArgAt w' v rs:=by
 rcases h with h|⟨ad,c,rfl,h1,h2,h3⟩
 ·exact Or.inl h
 ·refine Or.inr ⟨ad,c,rfl,h1,h2,fun j u hj=>?_⟩
  have hc:=h3 j u hj
  exact (t.cell (Qbu hc) (hF _ (Qbu hc))).trans hc
section
variable {H:Type} {enc:TypeId×Value→H} {w:World} {base:Nat} {held:Bool}
theorem Qie {fuel:Nat} {a:Option Addr} {len cap:Nat} {x:DataW H×List MemPlace} (h:DataW.trod enc Tryz.prog w base (fun _=>true) held fuel 57 [.slice a len cap]=some x) :
  ∃rs:List Int,rs.length=len∧ArgAt w (.slice a len cap) rs∧(∀z∈rs,0≤z∧z<256)∧(x.1=.nil∧len=0∨∃el sp,x.1=.slice el sp∧el.length=len):=by
 rcases open_ints Tryz.underlying57 Tryz.underlying5 (by kernel_rfl) h with⟨hcs,hx⟩|⟨ad,l,c,zs,hcs,_,hl,hm,hz,hx,hcell,hwz⟩
 ·simp at hcs
  obtain⟨rfl,rfl,rfl⟩:=hcs
  exact⟨[],rfl,Or.inl ⟨rfl,rfl⟩,by simp,Or.inl ⟨by rw [hx],rfl⟩⟩
 ·simp at hcs
  obtain⟨rfl,rfl,rfl⟩:=hcs
  have hz':zs.length=cap:=by simpa using hz
  have hlen:(zs.take len).length=len:=by simp;omega
  refine⟨zs.take len,hlen,Or.inr ⟨ad,cap,by rw [hlen],by omega,hm,fun j u hj=>?_⟩,fun z hzm=>?_,Or.inr ⟨_,_,by rw [hx],by simp [lits];omega⟩⟩
  ·have hjl:j<len:=by
    have:=(List.getElem?_eq_some_iff.mp hj).1
    simp [bytesOf] at this
    omega
   have:=hcell j (by omega)
   rw [this]
   simp only [bytesOf,List.getElem?_map,List.getElem?_take,if_pos hjl] at hj
   rw [List.getElem?_eq_getElem (by omega)] at hj
   rw [←hj]
   simp [List.getD,show j<zs.length by omega]
  ·have:=bounds_u8 (hwz z (List.mem_of_mem_take hzm))
   omega
end
theorem Qd2 {w:World} {g off c n:Nat} {rs:List Int} (h:RowAt w (.slice (some ⟨g,off,none⟩) n c) rs) (j:Nat) (hj:j<rs.length):w.cell? ⟨g,off+j,none⟩=some (.int .u8 (rs.getD j 0)):=by
 rcases h with⟨h,_⟩|⟨g',off',c',h,_,_,h3⟩
 ·simp at h
 ·simp at h
  obtain⟨⟨rfl,rfl⟩,_,_⟩:=h
  exact h3 j _ (by simp [bytesOf,List.getElem?_eq_getElem hj,List.getD])
theorem Qcv {w:World} {a:Option Addr} {n c:Nat} {rs:List Int} (h:RowAt w (.slice a n c) rs) (hn:0<n):∃g off,a=some ⟨g,off,none⟩:=by
 rcases h with⟨h,_⟩|⟨g',off',c',h,_⟩
 ·simp at h;omega
 ·simp at h;exact⟨g',off',h.1⟩
theorem Tryz.info5w:(Tryz.prog.info? 5).map (fun i=>(i.zero,i.size,i.bytes))=some (some (.int .u8 0),1,1):=by kernel_rfl
structure Buf (w0 w:World) (v:Value) (l:List Int):Prop where
 own:w.ownsRow w0.heap.size 5 1 v l.length (bytesOf l)
 t:Touch (fun _=>False) w0 w
theorem Buf.keep {w0 w w':World} {v:Value} {l:List Int} (h:Buf w0 w v l) (t:Touch (fun _=>False) w w'):Buf w0 w' v l:=⟨Qab h.own t (fun _ _ h=>h),h.t.trans t⟩
theorem Buf.back {w0 w w':World} {v:Value} {l:List Int} (h:Buf w w' v l) (t:Touch (fun _=>False) w0 w):Buf w0 w' v l:=by
 refine⟨⟨h.own.1,?_⟩,t.trans h.t⟩
 rcases h.own.2 with h2|⟨g,cap,cur,hv,hb,hr⟩
 ·exact Or.inl h2
 ·exact Or.inr ⟨g,cap,cur,hv,Nat.le_trans t.size hb,hr⟩
theorem Buf.nil {w0 w:World} (t:Touch (fun _=>False) w0 w):Buf w0 w (.slice none 0 0) []:=⟨World.ownsRow_nil _ _ _ _,t⟩
theorem Buf.form {w0 w:World} {v:Value} {l:List Int} (h:Buf w0 w v l):∃a c,v=.slice a l.length c:=by
 rcases h.own.2 with⟨rfl,e⟩|⟨g,cap,cur,rfl,_⟩
 ·exact⟨none,0,by rw [e]⟩
 ·exact⟨_,cap,rfl⟩
theorem Buf.arg {w0 w:World} {v:Value} {l:List Int} (h:Buf w0 w v l):ArgAt w v l:=(Qb0 h.own).arg
theorem Buf.appended {w0 w w':World} {v v':Value} {l r:List Int} (h:Buf w0 w v l) (hown:w'.ownsRow w0.heap.size 5 1 v' (l.length+r.length) (bytesOf l++bytesOf r)) (hg:w.grownBy w' v.ownBlock):Buf w0 w' v' (l++r):=by
 refine⟨?_,h.t.grown hg (fun k hk=>Or.inr (h.own.lt k hk).1)⟩
 rw [List.length_append,Qca]
 exact hown
section
variable {ops:Array Oper} {rest:List Oper} {o:Oper} {a:Act} {Q:Exit→Act→World→Prop} {w:World}
theorem Qaj (hgd:o.guard=none) (s x:Operand) (ho:o.op=.call { callee:=.builtin .append,args:=#[s,x],argTypes:=#[57,57] })
  (w0:World) (v:Value) (l:List Int) (hs:a.eval s=v) (hb:Buf w0 w v l) (vx:Value) (r:List Int) (hx:a.eval x=vx) (hr:ArgAt w vx r) (hl:l.length+r.length≤1099511627776)
  (h:∀v' w',Buf w0 w' v' (l++r)→wpList Tryz.prog ops Q rest (a.put o.dst v') w'):wpList Tryz.prog ops Q (o::rest) a w:=by
 obtain⟨i0,hi,hz0,hz1,hz2⟩:=info_parts Tryz.info5w
 rcases hr with⟨rfl,rfl⟩|⟨ad,c,rfl,h1,h2,h3⟩
 ·refine wpList_append_own_none hgd s x 57 ho w0.heap.size 5 i0 1 Tryz.underlying57 hi v l.length (bytesOf l) hs hb.own hx ?_
  exact h v w (by rw [List.append_nil];exact hb)
 ·refine wpList_append_own_at w hgd s x 57 ho w0.heap.size 5 i0 (.int .u8 0) 1 1 Tryz.underlying57 hi hz0 hz1 hz2 rfl (by decide) v l.length (bytesOf l) hs hb.own ad r.length c (bytesOf r) hx (by simp [Qba]) h3 (Qa5 r) (by unfold maxLen;omega) (by omega) hb.t.size ?_
  intro v' w' hown hg _ _
  exact h v' w' (hb.appended hown hg)
theorem Qct (hgd:o.guard=none) (s x:Operand) (ho:o.op=.call { callee:=.builtin .append,args:=#[s,x],argTypes:=#[57,57] })
  (w0:World) (v:Value) (l:List Int) (hs:a.eval s=v) (hb:Buf w0 w v l) (z:Int) (hx:a.eval x=.slice (some ⟨w.heap.size,0,none⟩) 1 1) (hl:l.length<1099511627776)
  (h:∀v' w',Buf w0 w' v' (l++[z])→wpList Tryz.prog ops Q rest (a.put o.dst v') w'):wpList Tryz.prog ops Q (o::rest) a (w.alloc (.cells #[.int .u8 z] 5)) :=
 Qaj hgd s x ho w0 v l hs (hb.keep ((Touch.refl _ w).alloc _)) _ [z] hx (Or.inr ⟨_,1,rfl,by simp,by simp [maxLen],cell_one_new w _ _⟩) (by simp;omega) h
end
end Go.Proofs.YtldmkoogghemhaaGreat
