import Derived.Test.YtldmkoogghemhaaGreatInWays
namespace Go.Proofs.YtldmkoogghemhaaGreat
set_option linter.unusedVariables false
set_option maxRecDepth 100000
def endC (x y:WP):Int:=fstI (fstI (cmpI x.p.addr y.p.addr) (cmpI x.p.bits y.p.bits)) (cmpI x.router y.router)
def cW (x y:WP):Int:=fstI (endC x y) (cmpI x.cost y.cost)
def WP.eq (x y:WP):Prop:=x.p.addr=y.p.addr∧x.p.bits=y.p.bits∧x.router=y.router
def WP.elt (x y:WP):Prop:=x.p.addr<y.p.addr∨x.p.addr=y.p.addr∧(x.p.bits<y.p.bits∨x.p.bits=y.p.bits∧x.router<y.router)
def WP.wlt (x y:WP):Prop:=x.elt y∨x.eq y∧x.cost<y.cost
def WP.wle (x y:WP):Prop:=¬y.wlt x
theorem Qb2 (a b:Int):cmpI a b=0↔a=b:=by unfold cmpI;split <;> (try split) <;> omega
theorem Qc1 (a b:Int):cmpI a b<0↔a<b:=by unfold cmpI;split <;> (try split) <;> omega
theorem Qdo (a b:Int):fstI a b=0↔a=0∧b=0:=by unfold fstI;split <;> omega
theorem Qen (a b:Int):fstI a b<0↔a<0∨a=0∧b<0:=by unfold fstI;split <;> omega
theorem Qbc (x y:WP):endC x y=0↔x.eq y:=by
 unfold endC WP.eq
 rw [Qdo,Qdo,Qb2,Qb2,Qb2,and_assoc]
theorem Qc6 (x y:WP):endC x y<0↔x.elt y:=by
 unfold endC WP.elt
 rw [Qen,Qen,Qdo,Qc1,Qc1,Qc1,Qb2,Qb2]
 omega
theorem Qn0 (x y:WP):cW x y<0↔x.wlt y:=by
 unfold cW WP.wlt
 rw [Qen,Qc6,Qbc,Qc1]
theorem WP.wlt_irr (x:WP):¬x.wlt x:=by unfold WP.wlt WP.elt WP.eq;omega
theorem WP.wlt_trans {x y z:WP} (h:x.wlt y) (h':y.wlt z):x.wlt z:=by unfold WP.wlt WP.elt WP.eq at *;omega
theorem WP.wlt_n {x y z:WP} (h:¬x.wlt y) (h':¬y.wlt z):¬x.wlt z:=by unfold WP.wlt WP.elt WP.eq at *;omega
theorem WP.eq_refl (x:WP):x.eq x:=⟨rfl,rfl,rfl⟩
theorem WP.eq_symm {x y:WP} (h:x.eq y):y.eq x:=⟨h.1.symm,h.2.1.symm,h.2.2.symm⟩
theorem WP.eq_trans {x y z:WP} (h:x.eq y) (h':y.eq z):x.eq z:=⟨h.1.trans h'.1,h.2.1.trans h'.2.1,h.2.2.trans h'.2.2⟩
theorem WP.elt_irr (x:WP):¬x.elt x:=by unfold WP.elt;omega
theorem WP.elt_trans {x y z:WP} (h:x.elt y) (h':y.elt z):x.elt z:=by unfold WP.elt at *;omega
theorem WP.elt_eq {x y z:WP} (h:x.elt y) (h':y.eq z):x.elt z:=by unfold WP.elt WP.eq at *;omega
theorem WP.elt_ne {x y:WP} (h:x.elt y):¬x.eq y:=by unfold WP.elt WP.eq at *;omega
theorem WP.elt_tri {x y:WP} (h:¬x.eq y):x.elt y∨y.elt x:=by unfold WP.elt WP.eq at *;omega
def kp1 (K:List WP) (x:WP):List WP :=
 match K.getLast? with
 | none=>[x]
 | some y=>if endC y x≠0 then K++[x] else if y.cost=x.cost then K.dropLast++[{ y with hs:=y.hs++x.hs }] else K
def kpP (L:List WP):List WP:=L.foldl kp1 []
def srtW (z:WP):WP:={ z with hs:=pts [] z.hs }
def bestP (L:List WP):List WP:=(kpP L).map srtW
theorem Qc5 (L:List WP) (x:WP):kpP (L++[x])=kp1 (kpP L) x:=by simp [kpP]
theorem Qgh (x:WP):kp1 [] x=[x]:=rfl
theorem Qec {K:List WP} {y x:WP} (h:endC y x≠0):kp1 (K++[y]) x=K++[y]++[x]:=by simp [kp1,h]
theorem Qcz {K:List WP} {y x:WP} (h:endC y x=0) (h2:y.cost=x.cost):kp1 (K++[y]) x=K++[{ y with hs:=y.hs++x.hs }]:=by simp [kp1,h,h2]
theorem Qc4 {K:List WP} {y x:WP} (h:endC y x=0) (h2:y.cost≠x.cost):kp1 (K++[y]) x=K++[y]:=by simp [kp1,h,h2]
structure IsK (A K:List WP):Prop where
 up:K.Pairwise WP.elt
 fr:∀z∈K,∃x∈A,z={ x with hs:=z.hs }
 all:∀x∈A,∃z∈K,z.eq x∧z.cost≤x.cost
 hs:∀z∈K,∀h,h∈z.hs↔∃x∈A,z.eq x∧z.cost=x.cost∧h∈x.hs
theorem Qea {α:Type} {P:List α→Prop} (h0:P []) (h1:∀l x,P l→P (l++[x])) (l:List α):P l:=by
 have:∀m:List α,P m.reverse:=fun m=>by
  induction m with
  | nil=>exact h0
  | cons x t ih=>rw [List.reverse_cons];exact h1 _ _ ih
 have h:=this l.reverse
 rwa [List.reverse_reverse] at h
theorem Qmy:IsK [] []:=⟨List.Pairwise.nil,fun z h=>absurd h (by simp),fun x h=>absurd h (by simp),fun z h=>absurd h (by simp)⟩
theorem Qks {A K:List WP} {x:WP} (h:IsK A K) (hx:∀a∈A,a.wle x):IsK (A++[x]) (kp1 K x):=by
 obtain⟨up,fr,all,hs⟩:=h
 rcases List.eq_nil_or_concat K with rfl|⟨K',y,rfl⟩
 ·have hA:A=[]:=by
   cases A with
   | nil=>rfl
   | cons a t=>obtain⟨z,hz,-⟩:=all a (by simp);cases hz
  subst hA
  rw [Qgh]
  refine⟨by simp,fun z hz=>?_,fun z hz=>?_,fun z hz h=>?_⟩
  ·obtain rfl:=List.mem_singleton.1 hz
   exact⟨_,by simp,rfl⟩
  ·obtain rfl:z=x:=by simpa using hz
   exact⟨z,by simp,WP.eq_refl _,Int.le_refl _⟩
  ·obtain rfl:=List.mem_singleton.1 hz
   constructor
   ·exact fun hh=>⟨z,by simp,WP.eq_refl _,rfl,hh⟩
   ·rintro ⟨a,ha,-,-,hh⟩
    obtain rfl:a=z:=by simpa using ha
    exact hh
 ·rw [List.concat_eq_append] at up fr all hs ⊢
  have hyl:∀z∈K',z.elt y:=fun z hz=>(List.pairwise_append.1 up).2.2 z hz y (by simp)
  have hym:y∈K' ++ [y]:=by simp
  obtain⟨b,hb,eb⟩:=fr y hym
  have hby:y.eq b∧y.cost=b.cost:=by rw [eb];exact⟨WP.eq_refl _,rfl⟩
  have hyx:¬x.wlt y:=by
   have:=hx b hb
   obtain⟨e1,e2⟩:=hby
   unfold WP.wle WP.wlt WP.elt WP.eq at *
   omega
  have hK:∀z∈K' ++ [y],z.eq x→z=y:=fun z hz e=>by
   rcases List.mem_append.1 hz with h|h
   ·exfalso
    have h1:=hyl z h
    unfold WP.wlt WP.elt WP.eq at *
    omega
   ·simpa using h
  by_cases he:endC y x=0
  ·have hye:=(Qbc _ _).1 he
   by_cases hc:y.cost=x.cost
   ·rw [Qcz he hc]
    have hold:∀z∈K' ++ [y],∃z'∈K' ++ [{ y with hs:=y.hs++x.hs }],z'.eq z∧z'.cost=z.cost:=fun z hz=>by
     rcases List.mem_append.1 hz with h|h
     ·exact⟨z,by simp [h],WP.eq_refl _,rfl⟩
     ·obtain rfl:z=y:=by simpa using h
      exact⟨_,List.mem_append.2 (Or.inr (List.mem_singleton.2 rfl)),⟨rfl,rfl,rfl⟩,rfl⟩
    refine⟨?_,fun z hz=>?_,fun a ha=>?_,fun z hz h=>?_⟩
    ·refine List.pairwise_append.2 ⟨(List.pairwise_append.1 up).1,by simp,fun z hz y' hy'=>?_⟩
     obtain rfl:=List.mem_singleton.1 hy'
     exact hyl z hz
    ·rcases List.mem_append.1 hz with h|h
     ·obtain⟨a,ha,e⟩:=fr z (by simp [h])
      exact⟨a,by simp [ha],e⟩
     ·obtain rfl:=List.mem_singleton.1 h
      refine⟨b,by simp [hb],?_⟩
      conv=>lhs;rw [eb]
    ·rcases List.mem_append.1 ha with h|h
     ·obtain⟨z,hz,e1,e2⟩:=all a h
      obtain⟨z',hz',e3,e4⟩:=hold z hz
      exact⟨z',hz',WP.eq_trans e3 e1,by omega⟩
     ·obtain rfl:a=x:=by simpa using h
      exact⟨_,List.mem_append.2 (Or.inr (List.mem_singleton.2 rfl)),hye,Int.le_of_eq hc⟩
    ·rcases List.mem_append.1 hz with hz' | hz'
     ·have hne:¬z.eq x:=fun e=>by
       have:=hK z (by simp [hz']) e
       subst this
       exact WP.elt_irr _ (hyl z hz')
      rw [hs z (by simp [hz'])]
      constructor
      ·rintro ⟨a,ha,e⟩;exact⟨a,by simp [ha],e⟩
      ·rintro ⟨a,ha,e1,e2⟩
       rcases List.mem_append.1 ha with ha|ha
       ·exact⟨a,ha,e1,e2⟩
       ·obtain rfl:a=x:=by simpa using ha
        exact absurd e1 hne
     ·obtain rfl:=List.mem_singleton.1 hz'
      show h∈y.hs++x.hs↔∃a∈A++[x],y.eq a∧y.cost=a.cost∧h∈a.hs
      rw [List.mem_append,hs y hym]
      constructor
      ·rintro (⟨a,ha,e⟩|hh)
       ·exact⟨a,by simp [ha],e⟩
       ·exact⟨x,by simp,hye,hc,hh⟩
      ·rintro ⟨a,ha,e1,e2,hh⟩
       rcases List.mem_append.1 ha with ha|ha
       ·exact Or.inl ⟨a,ha,e1,e2,hh⟩
       ·obtain rfl:a=x:=by simpa using ha
        exact Or.inr hh
   ·rw [Qc4 he hc]
    have hlt:y.cost<x.cost:=by
     unfold WP.wlt WP.elt WP.eq at *
     omega
    refine⟨up,fun z hz=>?_,fun a ha=>?_,fun z hz h=>?_⟩
    ·obtain⟨a,ha,e⟩:=fr z hz
     exact⟨a,by simp [ha],e⟩
    ·rcases List.mem_append.1 ha with h|h
     ·exact all a h
     ·obtain rfl:a=x:=by simpa using h
      exact⟨y,hym,hye,by omega⟩
    ·rw [hs z hz]
     constructor
     ·rintro ⟨a,ha,e⟩;exact⟨a,by simp [ha],e⟩
     ·rintro ⟨a,ha,e1,e2,hh⟩
      rcases List.mem_append.1 ha with ha|ha
      ·exact⟨a,ha,e1,e2,hh⟩
      ·obtain rfl:a=x:=by simpa using ha
       obtain rfl:=hK z hz e1
       omega
  ·have hne:¬y.eq x:=fun e=>he ((Qbc _ _).2 e)
   have hlt:y.elt x:=by
    rcases WP.elt_tri hne with h|h
    ·exact h
    ·exact absurd (Or.inl h) hyx
   have hall:∀z∈K' ++ [y],z.elt x:=fun z hz=>by
    rcases List.mem_append.1 hz with h|h
    ·exact WP.elt_trans (hyl z h) hlt
    ·obtain rfl:z=y:=by simpa using h
     exact hlt
   rw [Qec he]
   refine⟨?_,fun z hz=>?_,fun a ha=>?_,fun z hz h=>?_⟩
   ·refine List.pairwise_append.2 ⟨up,by simp,fun z hz y' hy'=>?_⟩
    obtain rfl:=List.mem_singleton.1 hy'
    exact hall z hz
   ·rcases List.mem_append.1 hz with h|h
    ·obtain⟨a,ha,e⟩:=fr z h
     exact⟨a,by simp [ha],e⟩
    ·obtain rfl:z=x:=by simpa using h
     exact⟨z,by simp,rfl⟩
   ·rcases List.mem_append.1 ha with h|h
    ·obtain⟨z,hz,e⟩:=all a h
     exact⟨z,List.mem_append.2 (Or.inl hz),e⟩
    ·obtain rfl:a=x:=by simpa using h
     exact⟨a,by simp,WP.eq_refl _,Int.le_refl _⟩
   ·rcases List.mem_append.1 hz with hz' | hz'
    ·rw [hs z hz']
     constructor
     ·rintro ⟨a,ha,e⟩;exact⟨a,by simp [ha],e⟩
     ·rintro ⟨a,ha,e1,e2,hh⟩
      rcases List.mem_append.1 ha with ha|ha
      ·exact⟨a,ha,e1,e2,hh⟩
      ·obtain rfl:a=x:=by simpa using ha
       exact absurd e1 (WP.elt_ne (hall z hz'))
    ·obtain rfl:z=x:=by simpa using hz'
     constructor
     ·exact fun hh=>⟨z,by simp,WP.eq_refl _,rfl,hh⟩
     ·rintro ⟨a,ha,e1,e2,hh⟩
      rcases List.mem_append.1 ha with ha|ha
      ·obtain⟨y',hy',e3,e4⟩:=all a ha
       exact absurd (WP.eq_trans e3 (WP.eq_symm e1)) (WP.elt_ne (hall y' hy'))
      ·obtain rfl:a=z:=by simpa using ha
       exact hh
theorem Qn1 (L:List WP) (hL:L.Pairwise WP.wle):IsK L (kpP L):=by
 revert hL
 refine Qea (P:=fun L=>L.Pairwise WP.wle→IsK L (kpP L)) (fun _=>Qmy) (fun L x ih hL=>?_) L
 rw [Qc5]
 obtain⟨h1,-,h3⟩:=List.pairwise_append.1 hL
 exact Qks (ih h1) (fun a ha=>h3 a ha x (by simp))
structure IsB (A K:List WP):Prop where
 up:K.Pairwise WP.elt
 fr:∀z∈K,∃x∈A,z={ x with hs:=z.hs }
 all:∀x∈A,∃z∈K,z.eq x∧z.cost≤x.cost
 hu:∀z∈K,z.hs.Pairwise HK.lt
 hs:∀z∈K,∀h,h∈z.hs↔∃x∈A,z.eq x∧z.cost=x.cost∧h∈x.hs
theorem Qnq {A L:List WP} (hp:L.Perm A) (hL:L.Pairwise WP.wle):IsB A (bestP L):=by
 obtain⟨up,fr,all,hs⟩:=Qn1 L hL
 unfold bestP
 refine⟨?_,fun z hz=>?_,fun x hx=>?_,fun z hz=>?_,fun z hz h=>?_⟩
 ·rw [List.pairwise_map]
  exact up
 ·obtain⟨y,hy,rfl⟩:=List.mem_map.1 hz
  obtain⟨x,hx,e⟩:=fr y hy
  refine⟨x,hp.mem_iff.1 hx,?_⟩
  unfold srtW
  conv=>lhs;rw [e]
 ·obtain⟨z,hz,e1,e2⟩:=all x (hp.mem_iff.2 hx)
  exact⟨srtW z,List.mem_map.2 ⟨z,hz,rfl⟩,e1,e2⟩
 ·obtain⟨y,hy,rfl⟩:=List.mem_map.1 hz
  exact Qcn [] _ List.Pairwise.nil
 ·obtain⟨y,hy,rfl⟩:=List.mem_map.1 hz
  show h∈pts [] y.hs↔∃x∈A,y.eq x∧y.cost=x.cost∧h∈x.hs
  rw [Qd9]
  simp only [List.not_mem_nil,false_or]
  rw [hs y hy]
  constructor
  ·rintro ⟨a,ha,e⟩;exact⟨a,hp.mem_iff.1 ha,e⟩
  ·rintro ⟨a,ha,e⟩;exact⟨a,hp.mem_iff.2 ha,e⟩
theorem Qmf {K:List WP} {x:WP} {n:Nat} (h:∀z∈K,z.hs.length≤n):∀z∈kp1 K x,z.hs.length≤n+x.hs.length:=by
 rcases List.eq_nil_or_concat K with rfl|⟨K',y,rfl⟩
 ·intro z hz
  obtain rfl:=List.mem_singleton.1 (by simpa [Qgh] using hz)
  omega
 ·rw [List.concat_eq_append] at h ⊢
  intro z hz
  have hy:=h y (by simp)
  by_cases he:endC y x=0
  ·by_cases hc:y.cost=x.cost
   ·rw [Qcz he hc] at hz
    rcases List.mem_append.1 hz with hz|hz
    ·have:=h z (by simp [hz]);omega
    ·obtain rfl:=List.mem_singleton.1 hz
     simp only [List.length_append]
     omega
   ·rw [Qc4 he hc] at hz
    have:=h z hz;omega
  ·rw [Qec he] at hz
   rcases List.mem_append.1 hz with hz|hz
   ·have:=h z hz;omega
   ·obtain rfl:=List.mem_singleton.1 hz
    omega
theorem Qgd (L:List WP) (m:Nat) (h:∀x∈L,x.hs.length≤m):∀z∈kpP L,z.hs.length≤L.length*m:=by
 revert h
 refine Qea (P:=fun L=>(∀x∈L,x.hs.length≤m)→∀z∈kpP L,z.hs.length≤L.length*m) (fun _ z hz=>by cases hz) (fun L x ih h z hz=>?_) L
 rw [Qc5] at hz
 have:=Qmf (ih (fun y hy=>h y (by simp [hy]))) z hz
 have hx:=h x (by simp)
 rw [List.length_append,List.length_singleton,Nat.add_mul]
 omega
theorem Qod (K:List WP) (x:WP):(kp1 K x).length≤K.length+1:=by
 rcases List.eq_nil_or_concat K with rfl|⟨K',y,rfl⟩
 ·simp [Qgh]
 ·rw [List.concat_eq_append]
  by_cases he:endC y x=0
  ·by_cases hc:y.cost=x.cost
   ·rw [Qcz he hc];simp
   ·rw [Qc4 he hc];simp
  ·rw [Qec he];simp
theorem Ql7 (L:List WP):(kpP L).length≤L.length:=by
 refine Qea (P:=fun L=>(kpP L).length≤L.length) (Nat.le_refl _) (fun L x ih=>?_) L
 rw [Qc5,List.length_append,List.length_singleton]
 exact Nat.le_trans (Qod _ _) (by omega)
def cntS (self:Int) (s:SE):Bool:=decide ((s.h.typ=3∨s.h.typ=4)∧s.h.adv≠self∧¬yrs s.h.age=3600∧chkE s.h s.rs=0)
def ledW (s:SE) (b:WP):Option WP :=
 if 16777215≤((decB s.h.typ s.rs).getD BV.zero).metric∨4294967295<((decB s.h.typ s.rs).getD BV.zero).metric+b.cost then none
 else if s.h.typ=4 then (if s.h.id=0 then none else some ⟨⟨0,0⟩,s.h.id,0,0,0,b.cost+((decB s.h.typ s.rs).getD BV.zero).metric,0,0,b.hs⟩)
 else some ⟨⟨pcut s.h.id (pbn ((decB s.h.typ s.rs).getD BV.zero).mask),pbn ((decB s.h.typ s.rs).getD BV.zero).mask⟩,0,0,0,0,b.cost+((decB s.h.typ s.rs).getD BV.zero).metric,0,0,b.hs⟩
end Go.Proofs.YtldmkoogghemhaaGreat
