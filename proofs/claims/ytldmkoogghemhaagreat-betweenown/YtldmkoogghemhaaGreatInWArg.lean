import Derived.Deep.MidRow
import Derived.SizedLaws
import Derived.ProofKit
import Derived.OpenShut
import Derived.ChangeOld
import Derived.Deep.Slices
import Derived.Deep.Matrix
import Derived.Deep.RegionLaw
import Derived.RowKit
import Derived.Test.YtldmkoogghemhaaGreatInWays
import Derived.Deep.LoopGhost
namespace Go.Proofs.YtldmkoogghemhaaGreat
set_option maxHeartbeats 8000000
open Go.RowKit
set_option linter.unusedVariables false
set_option maxRecDepth 100000
structure WB where
 nv:Value
 N:Nat
 root:Nat
 wb:Nat
 rb:Nat
 zb:Nat
section
variable {w0:World} {p:WB} {w w':World} {v v':Value} {L L':List Sp} {R:Nat→RV} {H:Nat→Value} {Z:Nat→Sp}
end
open Go.ChangeShapes Go.WideShapes Go.ChangeAt Go.RowKit
section
variable {H:Type} {enc:TypeId×Value→H} {w:World} {base:Nat} {held:Bool}
theorem Qa8 {sp:Nat→Bool} {fuel:Nat} {t:TypeId} {fs:Array Field} {cs:List Value} {x:DataW H×List MemPlace} (ht:Tryz.prog.underlying t=some (.struct fs)) (h:DataW.trod enc Tryz.prog w base sp held fuel t cs=some x)
  (i:Nat) (f:Field) (hf:fs[i]?=some f) (o:Nat) (ho:f.offset=o) (k:IntKind) (hk:Tryz.prog.underlying f.type=some (.int k)) (hc:Tryz.prog.cellsOf f.type=1):∃n,(cs.drop o).take 1=[.int k n]∧(Lit.int k n).wf=true:=by
 obtain⟨xs,m,_,_,_,hlen,hall⟩:=DataW.trod_struct ht h
 have hi:i<xs.length:=by
  have:=(Array.getElem?_eq_some_iff.mp hf).1
  omega
 have:=hall i f hf
 rw [ho,hc,List.getElem?_eq_getElem hi] at this
 obtain⟨n,e,_,wf⟩:=DataW.trod_int hk this
 exact⟨n,e,wf⟩
theorem Qgp {sp:Nat→Bool} {fuel:Nat} {t:TypeId} {fs:Array Field} {cs:List Value} {x:DataW H×List MemPlace} (ht:Tryz.prog.underlying t=some (.struct fs)) (h:DataW.trod enc Tryz.prog w base sp held fuel t cs=some x):cs.length=Tryz.prog.cellsOf t:=by
 obtain⟨xs,m,_,_,hl,_⟩:=DataW.trod_struct ht h
 exact hl
def LightG (t:TypeId) (d:DataW H):Prop:=∀n∈d.weights Tryz.prog t,n≤140737488355328
theorem Qa3 {sp:Nat→Bool} {fuel:Nat} {t:TypeId} {fs:Array Field} {cs:List Value} {x:DataW H×List MemPlace} (ht:Tryz.prog.underlying t=some (.struct fs)) (h:DataW.trod enc Tryz.prog w base sp held fuel t cs=some x) (hL:LightG t x.1)
  (i:Nat) (f:Field) (hf:fs[i]?=some f) (o n:Nat) (ho:f.offset=o) (hc:Tryz.prog.cellsOf f.type=n):∃m y,DataW.trod enc Tryz.prog w base sp held m f.type ((cs.drop o).take n)=some y∧LightG f.type y.1:=by
 obtain⟨xs,m,_,hx,_,hlen,hall⟩:=DataW.trod_struct ht h
 have hi:i<xs.length:=by
  have:=(Array.getElem?_eq_some_iff.mp hf).1
  omega
 have h1:=hall i f hf
 rw [ho,hc,List.getElem?_eq_getElem hi] at h1
 refine⟨m,_,h1,fun n hn=>hL n ?_⟩
 rw [hx]
 simp only [DataW.weights,ht]
 exact DataW.weights_mem_each (j:=i) (t:=f.type) (d:=xs[i].1) (by simp [hf]) (by simp [hi]) n hn
theorem Qb3 {t e:TypeId} {fuel:Nat} {cs:List Value} {x:DataW H×List MemPlace} (ht:Tryz.prog.underlying t=some (.slice e)) (he:0<Tryz.prog.bytesOf e) (h:DataW.trod enc Tryz.prog w base (fun _=>true) held fuel t cs=some x) (hL:LightG t x.1) :
  ∀a len cap,cs=[.slice a len cap]→len≤140737488355328:=by
 intro a len cap hcs
 rcases Deep.open_slice ht h with⟨h0,_⟩|⟨ad,l,c,m,n,D,Pl,h0,_,hl,hm,hmm,hx,hel⟩
 ·rw [hcs] at h0
  simp at h0
  omega
 ·rw [hcs] at h0
  simp at h0
  obtain⟨-,rfl,-⟩:=h0
  have:=hL ((len+(m-len))*Tryz.prog.bytesOf e) (by rw [hx];simp [DataW.weights,ht])
  have h2:len*1≤(len+(m-len))*Tryz.prog.bytesOf e:=Nat.mul_le_mul (by omega) he
  omega
theorem Qdc {t e:TypeId} {l k:Nat} {D:Nat→DataW H} {x:DataW H×List MemPlace} {q:List (DataW H)} {p:List MemPlace} (ht:Tryz.prog.underlying t=some (.slice e)) (hx:x=(.slice ((List.range l).map D) q,p)) (hL:LightG t x.1) (i:Nat) (hi:i<l):LightG e (D i):=by
 intro n hn
 refine hL n ?_
 rw [hx]
 simp only [DataW.weights,ht,List.mem_cons,List.mem_append]
 refine Or.inr (Or.inl ?_)
 have G:∀(ds:List (DataW H)) (d:DataW H),d∈ds→n∈d.weights Tryz.prog e→n∈DataW.weightsAll Tryz.prog e ds:=by
  intro ds
  induction ds with
  | nil=>intro d hd;cases hd
  | cons a r ih =>
   intro d hd hn
   simp only [DataW.weightsAll,List.mem_append]
   rcases List.mem_cons.mp hd with rfl|hd
   ·exact Or.inl hn
   ·exact Or.inr (ih d hd hn)
 exact G _ (D i) (by simp only [List.mem_map,List.mem_range];exact⟨i,hi,rfl⟩) hn
def RwAt {α:Type} (cs:α→List Value) (k:Nat) (w:World) (a:Option Addr) (l:List α):Prop:=l=[]∨∃g o,a=some ⟨g,o,none⟩∧∀i x,l[i]?=some x→∀d u,(cs x)[d]?=some u→w.cell? ⟨g,o+i*k+d,none⟩=some u
theorem Qgs {α:Type} [Inhabited α] {cs:α→List Value} {k:Nat} (hk0:0<k) (hk:∀x,(cs x).length=k) {P:α→Prop} {t e:TypeId} (ht:Tryz.prog.underlying t=some (.slice e)) (he:0<Tryz.prog.bytesOf e) (hcl:Tryz.prog.cellsOf e=k)
  (each:∀{fuel:Nat} {c:List Value} {x:DataW H×List MemPlace},DataW.trod enc Tryz.prog w base (fun _=>true) held fuel e c=some x→LightG e x.1→∃y:α,c=cs y∧P y)
  {fuel:Nat} {c:List Value} {x:DataW H×List MemPlace} (h:DataW.trod enc Tryz.prog w base (fun _=>true) held fuel t c=some x) (hL:LightG t x.1) :
  ∃a cap l,c=[.slice a (List.length l) cap]∧RwAt cs k w a l∧(∀y∈l,P y)∧l.length≤140737488355328:=by
 have hz:=Qb3 ht he h hL
 rcases Deep.open_slice ht h with⟨hcs,_⟩|⟨ad,l,cp,m,n,D,Pl,hcs,_,hl,hm,hmm,hx,hel⟩
 ·exact⟨none,0,[],hcs,Or.inl rfl,by simp,by simp⟩
 ·simp at hmm
  subst hmm
  have each':∀i,i<l→∃s:α,P s∧∀r u,(cs s)[r]?=some u→w.cell? (ad.add (i*k+r))=some u:=by
   intro i hi
   obtain⟨cs',h1,h2⟩:=hel i (by omega)
   rw [hcl] at h1
   obtain⟨_,hlen,hcell⟩:=World.cells?_some h1
   obtain⟨s,rfl,ok⟩:=each h2 (Qdc (k:=0) ht hx hL i hi)
   refine⟨s,ok,fun r u hu=>?_⟩
   have hr:r<k:=by rw [←hk s];exact (List.getElem?_eq_some_iff.mp hu).1
   have q:=hcell r (by rw [←hcl] at hr;omega)
   rw [Deep.add_add] at q
   rw [q]
   exact hu
  obtain⟨f,hf⟩:=Deep.choose_lt each'
  have hln:((List.range l).map f).length=l:=by simp
  refine⟨some ad,_,(List.range l).map f,by rw [hln];exact hcs,?_,fun y hy=>?_,by rw [hln];exact hz _ _ _ hcs⟩
  ·rcases Nat.eq_zero_or_pos l with h0|h0
   ·subst h0;exact Or.inl rfl
   ·obtain⟨g,off,spot⟩:=ad
    obtain⟨u0,hu0⟩:∃u,(cs (f 0))[0]?=some u:=⟨_,List.getElem?_eq_getElem (by rw [hk];exact hk0)⟩
    have hc:=(hf 0 h0).2 0 u0 hu0
    have hspot:spot=none:=by simpa [Addr.add] using World.cell?_spot hc
    subst hspot
    refine Or.inr ⟨g,off,rfl,fun i x hx d u hd=>?_⟩
    have hi:i<l:=by have:=(List.getElem?_eq_some_iff.mp hx).1;simpa using this
    have e1:x=f i:=by simpa [hi] using hx.symm
    subst e1
    have:=(hf i hi).2 d u hd
    rw [Qah] at this
    rw [Nat.add_assoc]
    exact this
  ·simp only [List.mem_map,List.mem_range] at hy
   obtain⟨i,hi,rfl⟩:=hy
   exact (hf i hi).1
end
structure RA (w:World) (v:Value) (l:List HK):Prop where
 out:∃a c,v=.slice a l.length c∧RwAt HK.cs 3 w a l
theorem RA.keep {w w':World} {v:Value} {l:List HK} (h:RA w v l) (t:Touch (fun _=>False) w w'):RA w' v l:=by
 obtain⟨a,c,rfl,h|⟨g,o,rfl,hc⟩⟩:=h.out
 ·exact⟨_,_,rfl,Or.inl h⟩
 ·exact⟨_,_,rfl,Or.inr ⟨g,o,rfl,fun i x hx d u hd=>t.cellN (hc i x hx d u hd)⟩⟩
theorem Qnr {l:List HK} {i:Nat} {x:HK} (h:l[i]?=some x):l.take (i+1)=l.take i++[x]:=by rw [List.take_add_one,h];rfl
theorem Qbl {k n:Nat} (h:k<n):(k:Int)<(n:Int):=Int.ofNat_lt.2 h
theorem Qju {k n:Nat} (h:¬k<n):¬(k:Int)<(n:Int):=fun e=>h (Int.ofNat_lt.1 e)
theorem Qa6 (k:Nat):(0:Int)≤(k:Int):=Int.natCast_nonneg k
theorem Qam {k:Nat} {z:Int} (h:z=(k:Int)+1):Value.int .i64 z=.int .i64 ((k+1:Nat):Int):=by subst h;simp
theorem Qco {α:Type} {l:List α} {n k:Nat} (hn:l.length=n) (h:k<n):∃x,l[k]?=some x:=⟨l[k]'(by omega),by simp⟩
theorem Qbz {i n g:Nat} (h:i<n) (hg:n-i≤g):n-(i+1)<g:=by omega
theorem Qes {k:Nat} (h:k≤1000000000000):wrap64 ((k:Int)+1)=(k:Int)+1:=by unfold wrap64;omega
def plainL (l:List HK):List HK:=l.filter (fun h=>!h.vr)
section
variable {α:Type} {cs:α→List Value} {k T B:Nat}
end
theorem Qcs (v:Value) (l:List HK) (w:World) (V:HV3 w v l) (hl:l.length≤1000000):Calls Tryz.prog 39 #[v] w fun e w'=>∃v',e=.returned v'∧HpB w w' v' l:=by
 have HV:Hid (HV3 w v l):=V
 have HL:Hid (l.length≤1000000):=hl
 obtain⟨va,vc,rfl,-⟩:=V.form
 have hq:=fun (w:World) (a:Option Addr) (n c n' c':Nat)=>Lib.run_eql_slice_nil (P:=Tryz.prog) w 45 53 a n c n' c' Tryz.underlying45
 cases va with
 | none =>
  have h0:l=[]:=by
   rcases V.2 with⟨e,h⟩|⟨ad,c,e,-⟩
   ·exact List.eq_nil_of_length_eq_zero h
   ·cases e
  subst h0
  clear V hl
  go_enter Tryz.func39,Tryz.ntmps39
  go_wp2
  go_ret
  exact⟨_,rfl,VBuf.nil _ _ (Touch.refl _ _)⟩
 | some ad =>
  have T1:Touch (fun _=>False) w (w.alloc (.cells #[] 53)):=(Touch.refl _ _).alloc _
  have H0:Hid (HpB w (w.alloc (.cells #[] 53)) (.slice (some ⟨w.heap.size,0,none⟩) 0 0) []):=⟨World.ownsRow_lit w #[] 0 (Nat.le_refl _) (by simp [maxLen]) (by simp),T1⟩
  have HV1:Hid (HV3 (w.alloc (.cells #[] 53)) (.slice (some ad) l.length vc) l):=V.keep T1
  clear V hl T1
  generalize hn:l.length=n at *
  have HN:Hid (l.length=n):=hn
  go_enter Tryz.func39,Tryz.ntmps39
  go_wp2_with (at_builtin;refine Qc2 rfl (.tmp 5) (.tmp 6) 45 rfl 53 3 12 _ Tryz.underlying45 infoHop rfl (by omega) (by omega) w _ 0 [] rfl H0.out _ n (cellsG HK.cs l) rfl (by have:=HV1.out;unfold HV3 at this;rw [HN.out] at this;exact this) (oneCellH _) (by have:=HL.out;have:=HN.out;omega) ?_)
  intro v' w' hb'
  have HB':Hid (HpB w w' v' l):=by
   have:=HpB.more (l:=[]) (l':=l) (by rw [HN.out];simp) hb'
   rw [List.nil_append] at this
   exact this
  clear hb' hn
  go_wp2
  go_ret
  exact⟨_,rfl,HB'.out⟩
open Go.ChangeShapes Go.WideShapes Go.ChangeAt Go.RowKit
structure WNk (x:WP):Prop where
 ad:0≤x.p.addr∧x.p.addr≤4294967295
 bi:0≤x.p.bits∧x.p.bits≤255
 rt:0≤x.router∧x.router≤4294967295
 fl:0≤x.flags∧x.flags≤255
 ki:0≤x.kind∧x.kind≤255
 ar:0≤x.area∧x.area≤4294967295
 co:0≤x.cost∧x.cost≤4294967295
 di:0≤x.dist∧x.dist≤4294967295
 tg:0≤x.tag∧x.tag≤4294967295
structure WIn (w:World) (y:WY):Prop where
 nk:WNk y.x
 ra:RA w y.hv y.x.hs
 ln:y.x.hs.length≤140737488355328
 vi:∀h∈y.x.hs,0≤h.via∧h.via≤4294967295
theorem WIn.keep {w w':World} {y:WY} (h:WIn w y) (t:Touch (fun _=>False) w w'):WIn w' y:=⟨h.nk,h.ra.keep t,h.ln,h.vi⟩
structure WsAt (w:World) (v:Value) (l:List WY):Prop where
 sh:∃a c,v=.slice a l.length c∧RwAt WY.cs 10 w a l
 ok:∀y∈l,WIn w y
theorem WsAt.keep {w w':World} {v:Value} {l:List WY} (h:WsAt w v l) (t:Touch (fun _=>False) w w'):WsAt w' v l:=by
 refine⟨?_,fun y hy=>(h.ok y hy).keep t⟩
 obtain⟨a,c,rfl,e|⟨g,o,rfl,hc⟩⟩:=h.sh
 ·exact⟨_,_,rfl,Or.inl e⟩
 ·exact⟨_,_,rfl,Or.inr ⟨g,o,rfl,fun i x hx d u hd=>t.cellN (hc i x hx d u hd)⟩⟩
section
variable {H:Type} {enc:TypeId×Value→H} {w:World} {base:Nat} {held:Bool}
theorem Qj8 {fuel:Nat} {cs:List Value} {x:DataW H×List MemPlace} (h:DataW.trod enc Tryz.prog w base (fun _=>true) held fuel 52 cs=some x) (hL:LightG 52 x.1):∃e:HK,cs=e.cs∧(0≤e.via∧e.via≤4294967295):=by
 have hl:=Qgp Tryz.underlying52 h
 have hc:Tryz.prog.cellsOf 52=3:=by kernel_rfl
 rw [hc] at hl
 obtain⟨n0,e0,w0⟩:=Qa8 Tryz.underlying52 h 0 _ rfl 0 rfl .u32 Tryz.underlying23 (by kernel_rfl)
 obtain⟨n1,e1,w1⟩:=Qa8 Tryz.underlying52 h 1 _ rfl 1 rfl .u32 Tryz.underlying23 (by kernel_rfl)
 obtain⟨m2,y2,a2,-⟩:=Qa3 Tryz.underlying52 h hL 2 _ rfl 2 1 rfl (by kernel_rfl)
 obtain⟨n2,e2,_⟩:=DataW.trod_bool Tryz.underlying4 a2
 match cs,hl with
 | [c0,c1,c2],_ =>
  simp only [List.drop,List.take,List.cons.injEq,and_true] at e0 e1 e2
  subst e0 e1 e2
  exact⟨⟨n0,n1,n2⟩,rfl,bounds_u32 w1⟩
theorem Qkf {fuel:Nat} {cs:List Value} {x:DataW H×List MemPlace} (h:DataW.trod enc Tryz.prog w base (fun _=>true) held fuel 50 cs=some x) (hL:LightG 50 x.1):∃y:WY,cs=y.cs∧WIn w y:=by
 haveI:Inhabited HK:=⟨HK0⟩
 have hl:=Qgp Tryz.underlying50 h
 have hc:Tryz.prog.cellsOf 50=10:=by kernel_rfl
 rw [hc] at hl
 obtain⟨m0,y0,a0,-⟩:=Qa3 Tryz.underlying50 h hL 0 _ rfl 0 2 rfl (by kernel_rfl)
 obtain⟨n0,e0,w0⟩:=Qa8 Tryz.underlying44 a0 0 _ rfl 0 rfl .u32 Tryz.underlying23 (by kernel_rfl)
 obtain⟨n1,e1,w1⟩:=Qa8 Tryz.underlying44 a0 1 _ rfl 1 rfl .u8 Tryz.underlying5 (by kernel_rfl)
 obtain⟨n2,e2,w2⟩:=Qa8 Tryz.underlying50 h 1 _ rfl 2 rfl .u32 Tryz.underlying23 (by kernel_rfl)
 obtain⟨n3,e3,w3⟩:=Qa8 Tryz.underlying50 h 2 _ rfl 3 rfl .u8 Tryz.underlying5 (by kernel_rfl)
 obtain⟨n4,e4,w4⟩:=Qa8 Tryz.underlying50 h 3 _ rfl 4 rfl .u8 Tryz.underlying5 (by kernel_rfl)
 obtain⟨n5,e5,w5⟩:=Qa8 Tryz.underlying50 h 4 _ rfl 5 rfl .u32 Tryz.underlying23 (by kernel_rfl)
 obtain⟨n6,e6,w6⟩:=Qa8 Tryz.underlying50 h 5 _ rfl 6 rfl .u32 Tryz.underlying23 (by kernel_rfl)
 obtain⟨n7,e7,w7⟩:=Qa8 Tryz.underlying50 h 6 _ rfl 7 rfl .u32 Tryz.underlying23 (by kernel_rfl)
 obtain⟨n8,e8,w8⟩:=Qa8 Tryz.underlying50 h 7 _ rfl 8 rfl .u32 Tryz.underlying23 (by kernel_rfl)
 obtain⟨m9,y9,a9,l9⟩:=Qa3 Tryz.underlying50 h hL 8 _ rfl 9 1 rfl (by kernel_rfl)
 obtain⟨ha,hcp,hs,e9,r9,ok9,hn9⟩:=Qgs (cs:=HK.cs) (k:=3) (by omega) (fun _=>rfl) (P:=fun e=>0≤e.via∧e.via≤4294967295) Tryz.underlying48 (of_decide_eq_true (by kernel_rfl)) (by kernel_rfl) (fun h hL=>Qj8 h hL) a9 l9
 match cs,hl with
 | [c0,c1,c2,c3,c4,c5,c6,c7,c8,c9],_ =>
  simp only [List.drop,List.take,List.cons.injEq,and_true] at e0 e1 e2 e3 e4 e5 e6 e7 e8 e9
  subst e0 e1 e2 e3 e4 e5 e6 e7 e8 e9
  exact⟨⟨⟨⟨n0,n1⟩,n2,n3,n4,n5,n6,n7,n8,hs⟩,.slice ha hs.length hcp⟩,rfl,⟨bounds_u32 w0,bounds_u8 w1,bounds_u32 w2,bounds_u8 w3,bounds_u8 w4,bounds_u32 w5,bounds_u32 w6,bounds_u32 w7,bounds_u32 w8⟩,⟨_,_,rfl,r9⟩,hn9,ok9⟩
end
end Go.Proofs.YtldmkoogghemhaaGreat
