import Derived.Test.YtldmkoogghemhaaGreatInWArg
import Derived.ProofKit
import Derived.OpenShut
import Derived.ChangeOld
import Derived.Deep.Slices
import Derived.Deep.Matrix
namespace Go.Proofs.YtldmkoogghemhaaGreat
open Go.ChangeShapes Go.WideShapes Go.ChangeAt Go.RowKit
set_option linter.unusedVariables false
set_option maxRecDepth 100000
section
variable {H:Type} {enc:TypeId×Value→H} {w:World} {base:Nat} {held:Bool}
theorem Qbb {sp:Nat→Bool} {fuel:Nat} {t:TypeId} {fs:Array Field} {cs:List Value} {x:DataW H×List MemPlace} (ht:Tryz.prog.underlying t=some (.struct fs)) (h:DataW.trod enc Tryz.prog w base sp held fuel t cs=some x)
  (i:Nat) (f:Field) (hf:fs[i]?=some f) (ho:f.offset=i) (k:IntKind) (hk:Tryz.prog.underlying f.type=some (.int k)) (hc:Tryz.prog.cellsOf f.type=1):∃n,(cs.drop i).take 1=[.int k n]∧(Lit.int k n).wf=true:=by
 obtain⟨xs,m,_,_,_,hlen,hall⟩:=DataW.trod_struct ht h
 have hi:i<xs.length:=by
  have:=(Array.getElem?_eq_some_iff.mp hf).1
  omega
 have:=hall i f hf
 rw [ho,hc,List.getElem?_eq_getElem hi] at this
 obtain⟨n,e,_,wf⟩:=DataW.trod_int hk this
 exact⟨n,e,wf⟩
theorem Qeq {fuel:Nat} {cs:List Value} {x:DataW H×List MemPlace} (h:DataW.trod enc Tryz.prog w base (fun _=>true) held fuel 57 cs=some x) :
  ∃a len cap rs,cs=[.slice a len cap]∧rs.length=len∧ArgAt w (.slice a len cap) rs∧∀z∈rs,0≤z∧z<256:=by
 have hs:∃a len cap,cs=[.slice a len cap]:=by
  rcases open_ints Tryz.underlying57 Tryz.underlying5 (by kernel_rfl) h with⟨hcs,_⟩|⟨ad,l,c,zs,hcs,_⟩
  ·exact⟨_,_,_,hcs⟩
  ·exact⟨_,_,_,hcs⟩
 obtain⟨a,len,cap,rfl⟩:=hs
 obtain⟨rs,h1,h2,h3,_⟩:=Qie h
 exact⟨a,len,cap,rs,rfl,h1,h2,h3⟩
theorem Qgr {sp:Nat→Bool} {fuel:Nat} {t:TypeId} {fs:Array Field} {cs:List Value} {x:DataW H×List MemPlace} (ht:Tryz.prog.underlying t=some (.struct fs)) (h:DataW.trod enc Tryz.prog w base sp held fuel t cs=some x)
  (i:Nat) (f:Field) (hf:fs[i]?=some f) (o n:Nat) (ho:f.offset=o) (hc:Tryz.prog.cellsOf f.type=n):∃m y,DataW.trod enc Tryz.prog w base sp held m f.type ((cs.drop o).take n)=some y:=by
 obtain⟨xs,m,_,_,_,hlen,hall⟩:=DataW.trod_struct ht h
 have hi:i<xs.length:=by
  have:=(Array.getElem?_eq_some_iff.mp hf).1
  omega
 have:=hall i f hf
 rw [ho,hc,List.getElem?_eq_getElem hi] at this
 exact⟨m,_,this⟩
theorem Qe6 {fuel:Nat} {cs:List Value} {x:DataW H×List MemPlace} (h:DataW.trod enc Tryz.prog w base (fun _=>true) held fuel 59 cs=some x):∃s:SE,cs=s.cells∧s.Ok w:=by
 have hl:=Qgp Tryz.underlying59 h
 have hc:Tryz.prog.cellsOf 59=9:=by kernel_rfl
 rw [hc] at hl
 obtain⟨m0,y0,a0⟩:=Qgr Tryz.underlying59 h 0 _ rfl 0 8 rfl (by kernel_rfl)
 obtain⟨m1,y1,a1⟩:=Qgr Tryz.underlying59 h 1 _ rfl 8 1 rfl (by kernel_rfl)
 obtain⟨ba,bl,bc,rs,eb,hrl,harg,hby⟩:=Qeq a1
 obtain⟨n0,e0,w0⟩:=Qbb Tryz.underlying56 a0 0 _ rfl rfl .u16 Tryz.underlying54 (by kernel_rfl)
 obtain⟨n1,e1,w1⟩:=Qbb Tryz.underlying56 a0 1 _ rfl rfl .u8 Tryz.underlying5 (by kernel_rfl)
 obtain⟨n2,e2,w2⟩:=Qbb Tryz.underlying56 a0 2 _ rfl rfl .u8 Tryz.underlying5 (by kernel_rfl)
 obtain⟨n3,e3,w3⟩:=Qbb Tryz.underlying56 a0 3 _ rfl rfl .u32 Tryz.underlying23 (by kernel_rfl)
 obtain⟨n4,e4,w4⟩:=Qbb Tryz.underlying56 a0 4 _ rfl rfl .u32 Tryz.underlying23 (by kernel_rfl)
 obtain⟨n5,e5,w5⟩:=Qbb Tryz.underlying56 a0 5 _ rfl rfl .i32 Tryz.underlying21 (by kernel_rfl)
 obtain⟨n6,e6,w6⟩:=Qbb Tryz.underlying56 a0 6 _ rfl rfl .u16 Tryz.underlying54 (by kernel_rfl)
 obtain⟨n7,e7,w7⟩:=Qbb Tryz.underlying56 a0 7 _ rfl rfl .u16 Tryz.underlying54 (by kernel_rfl)
 match cs,hl with
 | [c0,c1,c2,c3,c4,c5,c6,c7,c8],_ =>
  simp only [List.drop,List.take,List.cons.injEq,and_true] at e0 e1 e2 e3 e4 e5 e6 e7 eb
  subst e0 e1 e2 e3 e4 e5 e6 e7 eb
  have b0:=bounds_u16 w0
  have b1:=bounds_u8 w1
  have b2:=bounds_u8 w2
  have b3:=bounds_u32 w3
  have b4:=bounds_u32 w4
  have b5:=bounds_i32 w5
  have b6:=bounds_u16 w6
  have b7:=bounds_u16 w7
  refine⟨⟨⟨n0,n1,n2,n3,n4,n5,n6,n7⟩,.slice ba bl bc,rs⟩,rfl,⟨⟨?_,?_,?_,?_,?_,?_,?_,?_⟩,harg,hby⟩⟩ <;> (dsimp only;omega)
theorem Qf0 {fuel:Nat} {cs:List Value} {x:DataW H×List MemPlace} (h:DataW.trod enc Tryz.prog w base (fun _=>true) held fuel 59 cs=some x) (hL:LightG 59 x.1):∃s:SE,cs=s.cells∧s.Ok w∧s.rs.length≤140737488355328:=by
 obtain⟨s,e,ok⟩:=Qe6 h
 obtain⟨m1,y1,a1,l1⟩:=Qa3 Tryz.underlying59 h hL 1 _ rfl 8 1 rfl (by kernel_rfl)
 obtain⟨a,c,ev,-⟩:=ok.arg.form
 refine⟨s,e,ok,Qb3 Tryz.underlying57 (of_decide_eq_true (by kernel_rfl)) a1 l1 a _ c ?_⟩
 rw [e,←ev]
 rfl
theorem Qev {fuel:Nat} {cs:List Value} {x:DataW H×List MemPlace} (h:DataW.trod enc Tryz.prog w base (fun _=>true) held fuel 22 cs=some x) (hL:LightG 22 x.1) :
  ∃a len cap ls,cs=[.slice a len cap]∧List.length ls=len∧StatesAt w (.slice a len cap) ls∧(∀y∈ls,SE.Ok w y∧y.rs.length≤140737488355328)∧len≤140737488355328:=by
 have hcl:Tryz.prog.cellsOf 59=9:=by kernel_rfl
 have hz:=Qb3 Tryz.underlying22 (of_decide_eq_true (by kernel_rfl)) h hL
 rcases Deep.open_slice Tryz.underlying22 h with⟨hcs,_⟩|⟨ad,l,c,m,n,D,Pl,hcs,_,hl,hm,hmm,hx,hel⟩
 ·exact⟨none,0,0,[],hcs,rfl,⟨⟨rfl,Or.inl ⟨rfl,rfl⟩⟩,by simp⟩,(by simp),by omega⟩
 ·simp at hmm
  subst hmm
  have each:∀i,i<l→∃s:SE,(s.Ok w∧s.rs.length≤140737488355328)∧∀r u,s.cells[r]?=some u→w.cell? (ad.add (i*9+r))=some u:=by
   intro i hi
   obtain⟨cs',h1,h2⟩:=hel i (by omega)
   rw [hcl] at h1
   obtain⟨_,hlen,hcell⟩:=World.cells?_some h1
   obtain⟨s,rfl,ok,sl⟩:=Qf0 h2 (Qdc (k:=0) Tryz.underlying22 hx hL i hi)
   refine⟨s,⟨ok,sl⟩,fun r u hu=>?_⟩
   have hr:r<9:=(List.getElem?_eq_some_iff.mp hu).1
   have q:=hcell r (by omega)
   rw [Deep.add_add] at q
   rw [q]
   exact hu
  haveI:Inhabited SE:=⟨⟨HV.zero,.slice none 0 0,[]⟩⟩
  obtain⟨f,hf⟩:=Deep.choose_lt each
  have hok:∀y∈(List.range l).map f,SE.Ok w y∧y.rs.length≤140737488355328:=by
   intro x hx
   simp only [List.mem_map,List.mem_range] at hx
   obtain⟨i,hi,rfl⟩:=hx
   exact (hf i hi).1
  refine⟨some ad,l,_,(List.range l).map f,hcs,by simp,⟨⟨by simp [Qb9],Or.inr ⟨ad,_,by rw [List.length_map,List.length_range],by rw [List.length_map,List.length_range];exact hl,hm,fun j u hj=>?_⟩⟩,fun x hx=>(hok x hx).1⟩,hok,hz _ _ _ hcs⟩
  have hjl:=(List.getElem?_eq_some_iff.mp hj).1
  rw [Qb9,List.length_map,List.length_range] at hjl
  have hi:j/9<l:=by omega
  have e:=Qdr ((List.range l).map f) (j/9) (j%9) (f (j/9)) (by simp [hi]) (Nat.mod_lt _ (by omega))
  have hdm:j/9*9+j%9=j:=by omega
  rw [hdm] at e
  rw [e] at hj
  have:=(hf (j/9) hi).2 (j%9) u hj
  rwa [hdm] at this
theorem Qhm {fuel:Nat} {cs:List Value} {x:DataW H×List MemPlace} (h:DataW.trod enc Tryz.prog w base (fun _=>true) held fuel 26 cs=some x) (hL:LightG 26 x.1) :
  ∃(va vb:Value) (S:List SE) (T:List WY) (area me:Int),cs=[va,.int .u32 area,.int .u32 me,vb]∧StatesAt w va S∧S.length≤140737488355328∧(∀y∈S,y.rs.length≤140737488355328)∧WsAt w vb T∧T.length≤140737488355328∧(0≤me∧me<4294967296):=by
 haveI:Inhabited WY:=⟨⟨⟨⟨0,0⟩,0,0,0,0,0,0,0,[]⟩,.slice none 0 0⟩⟩
 have hl:=Qgp Tryz.underlying26 h
 have hc:Tryz.prog.cellsOf 26=4:=by kernel_rfl
 rw [hc] at hl
 obtain⟨m0,y0,a0,l0⟩:=Qa3 Tryz.underlying26 h hL 0 _ rfl 0 1 rfl (by kernel_rfl)
 obtain⟨n1,e1,w1⟩:=Qa8 Tryz.underlying26 h 1 _ rfl 1 rfl .u32 Tryz.underlying23 (by kernel_rfl)
 obtain⟨n2,e2,w2⟩:=Qa8 Tryz.underlying26 h 2 _ rfl 2 rfl .u32 Tryz.underlying23 (by kernel_rfl)
 obtain⟨m3,y3,a3,l3⟩:=Qa3 Tryz.underlying26 h hL 3 _ rfl 3 1 rfl (by kernel_rfl)
 obtain⟨sa,sn,sc,ls,e0,q1,q2,q3,q4⟩:=Qev a0 l0
 obtain⟨wa,wc,ns,e3,r,ok,hn⟩:=Qgs (cs:=WY.cs) (k:=10) (by omega) (fun _=>rfl) (P:=WIn w) Tryz.underlying24 (of_decide_eq_true (by kernel_rfl)) (by kernel_rfl) (fun h hL=>Qkf h hL) a3 l3
 have b2:=bounds_u32 w2
 match cs,hl with
 | [c0,c1,c2,c3],_ =>
  simp only [List.drop,List.take,List.cons.injEq,and_true] at e0 e1 e2 e3
  subst e0 e1 e2 e3
  exact⟨_,_,ls,ns,n1,n2,rfl,q2,by omega,fun y hy=>(q3 y hy).2,⟨⟨_,_,rfl,r⟩,ok⟩,hn,by omega⟩
theorem Qgg {r:Reach} {b0:Nat} {v:Value} {d:DataW H} {ps:List MemPlace} (hval:Value.okWide Tryz.prog w r b0 26 v) (hd:DataW.Trod enc Tryz.prog w base (fun _=>true) held 26 v d ps) (hL:LightG 26 d) :
  ∃(va vb:Value) (S:List SE) (T:List WY) (area me:Int),v=.agg #[va,.int .u32 area,.int .u32 me,vb]∧StatesAt w va S∧S.length≤140737488355328∧(∀y∈S,y.rs.length≤140737488355328)∧WsAt w vb T∧T.length≤140737488355328∧(0≤me∧me<4294967296):=by
 obtain⟨cs,rfl,_⟩:=okWide_struct Tryz.underlying26 hval
 obtain⟨fuel,hf⟩:=hd
 obtain⟨va,vb,S,T,area,me,e,q⟩:=Qhm hf hL
 simp only [Value.cells] at e
 obtain⟨cs⟩:=cs
 simp only at e
 subst e
 exact⟨va,vb,S,T,area,me,rfl,q⟩
end
end Go.Proofs.YtldmkoogghemhaaGreat
