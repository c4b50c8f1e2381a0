import Derived.Test.YtddbffoiadmffaaGreatGrNode
namespace Go.Proofs.YtddbffoiadmffaaGreat
open Go.RowKit
set_option linter.unusedVariables false
set_option maxRecDepth 100000
theorem Qbc {P:Program} {w:World} {ops:Array Oper} {o:Oper} {a:Act} {K:Act→World→Prop} {Q:Exit→Act→World→Prop} {E:Prop} (hgd:o.guard=none) (s x:Operand) (t:TypeId)
  (ho:o.op=.call { callee:=.builtin .append,args:=#[s,x],argTypes:=#[t,t] })
  (base:Nat) (e:TypeId) (i:TypeInfo) (z:Value) (size bytes:Nat) (ht:P.underlying t=some (.slice e)) (hi:P.info? e=some i) (hz:i.zero=some z)
  (hsize:i.size=size) (hby:i.bytes=bytes) (hzs:z.cells.size=size) (hsz:0<size)
  (v:Value) (n:Nat) (xs:List Value) (hs:a.eval s=v) (hown:w.ownsRow base e size v n xs)
  (ad:Addr) (m c:Nat) (news:List Value) (hx:a.eval x=.slice (some ad) m c) (hl:news.length=m*size) (hnews:∀j u,news[j]?=some u→w.cell? (ad.add j)=some u) (h1:∀u∈news,u.oneCell'=true)
  (h63:n+m≤maxLen) (hbytes:(n+m)*bytes≤140737488355328) (hbase:base≤w.heap.size)
  (h:∀v' w',w'.ownsRow base e size v' (n+m) (xs++news)→w.grownBy w' v.ownBlock→(v'.ownBlock=v.ownBlock∨v'.ownBlock=some w.heap.size)→K (a.put o.dst v') w') :
  if Region.wanted o (yielded ops a.tmps)=true then Oper.wp P o a w K Q else E:=by
 have hw:Region.wanted o (yielded ops a.tmps)=true:=by simp [Region.wanted,hgd]
 rw [if_pos hw]
 obtain⟨v',w',hrun,h2,h3,-,h4⟩:=run_append_own_at (P:=P) w base t o.type e i z size bytes ht hi hz hsize hby hzs hsz v n xs hown ad m c news hl hnews h1 h63 hbytes hbase
 unfold Oper.wp execOp
 simp only [ho,resolve,invoke,builtin,Sem.run_bind,Sem.run_pure,Result.andThen_ok,List.map_toArray,List.map_cons,List.map_nil,hs,hx,hrun]
 exact h v' w' h2 h3 h4
def tieV (a b:Nat) (kd:Int):Value:=.agg #[.int .i64 (a:Int),.int .i64 (b:Int),.int .u8 kd]
theorem lawT:WideMaps.KeyLaw Tryz.prog 139:=Go.deep_law (m:=2) (by omega) (by kernel_rfl) (by kernel_rfl) (by kernel_rfl)
theorem kindT:MK 139 130 137 (.agg #[]):=⟨lawT,Tryz.underlying130,fun _=>rfl⟩
theorem Qnu (a b:Nat) (kd:Int) (ha:a≤1000000) (hb:b≤1000000) (hk:0≤kd∧kd<256):∃l,Go.keyOf Tryz.prog 139 (tieV a b kd)=some l:=by
 unfold tieV
 have h1:(Lit.int .i64 (a:Int)).wf=true:=by simp [Lit.wf,IntKind.min,IntKind.max,IntKind.bits,IntKind.signed];omega
 have h2:(Lit.int .i64 (b:Int)).wf=true:=by simp [Lit.wf,IntKind.min,IntKind.max,IntKind.bits,IntKind.signed];omega
 have h3:(Lit.int .u8 kd).wf=true:=by simp [Lit.wf,IntKind.min,IntKind.max,IntKind.bits,IntKind.signed];omega
 have hc3:Tryz.prog.cellsOf 139=3:=by kernel_rfl
 have c8:Tryz.prog.cellsOf 5=1:=by kernel_rfl
 have c64:Tryz.prog.cellsOf 3=1:=by kernel_rfl
 have hkt:Tryz.prog.keyType 139=true:=by kernel_rfl
 have hpos:0<Tryz.prog.types.size:=of_decide_eq_true (by kernel_rfl)
 obtain⟨d,hd⟩:∃d,Tryz.prog.types.size=d+1:=⟨Tryz.prog.types.size-1,by omega⟩
 generalize (a:Int)=A at *
 generalize (b:Int)=B at *
 have hf:(Value.agg #[.int .i64 A,.int .i64 B,.int .u8 kd]).formed Tryz.prog 139=true:=by simp [Value.formed,Tryz.underlying139,hc3]
 have hL:∃L,Tryz.prog.keyLits (d+1+1) 139 [.int .i64 A,.int .i64 B,.int .u8 kd]=some L:=by
  simp [Program.keyLits,Tryz.underlying139,hc3,c8,c64,Tryz.underlying3,Tryz.underlying5,h1,h2,h3]
 obtain⟨L,hL⟩:=hL
 refine⟨.string (keyBytes L),?_⟩
 unfold Go.keyOf
 simp only [Tryz.underlying139,hkt,hf,Bool.and_self,if_true,hd]
 rw [show (Value.agg #[.int .i64 A,.int .i64 B,.int .u8 kd]).cells.toList=[.int .i64 A,.int .i64 B,.int .u8 kd] from rfl,hL]
 rfl
theorem Qqc {a b c d:Nat} {k q:Int} (h:tieV a b k=tieV c d q):a=c∧b=d∧k=q:=by
 simp [tieV] at h
 omega
structure TS (w:World) (mt:Nat) (T:Nat→Nat→Int→Prop):Prop where
 out:∃l,AM w 139 mt l∧(∀p∈l,p.2=.agg #[])∧∀a b kd,tieV a b kd∈l.map Prod.fst↔T a b kd
theorem TS.keep {F:Nat→Prop} {w w':World} {mt:Nat} {T:Nat→Nat→Int→Prop} (h:TS w mt T) (t:Touch F w w') (hm:¬F mt):TS w' mt T:=by
 obtain⟨l,h1,h2⟩:=h.out
 exact⟨l,h1.keep t hm,h2⟩
theorem TS.lt {w:World} {mt:Nat} {T:Nat→Nat→Int→Prop} (h:TS w mt T):mt<w.heap.size:=by
 obtain⟨l,h1,-⟩:=h.out
 exact h1.lt
theorem TS.made (w:World):TS (w.alloc (.map #[] 0)) w.heap.size (fun _ _ _=>False):=⟨[],AM.made w _ 0,by simp,by simp⟩
theorem TS.put {w:World} {mt:Nat} {T:Nat→Nat→Int→Prop} (h:TS w mt T) (a b:Nat) (kd:Int) (ha:a≤1000000) (hb:b≤1000000) (hk:0≤kd∧kd<256) :
  ∃w',(Instr.mapUpdate 130 (.map (some mt)) (tieV a b kd) (.agg #[])).run Tryz.prog w=.ok () w'∧TS w' mt (fun x y z=>T x y z∨(x=a∧y=b∧z=kd))∧Touch (fun k=>k=mt) w w':=by
 obtain⟨l,h1,h2,h3⟩:=h.out
 obtain⟨q,hq⟩:=Qnu a b kd ha hb hk
 by_cases hin:tieV a b kd∈l.map Prod.fst
 ·obtain⟨p,hp,e⟩:=List.mem_map.1 hin
  obtain⟨j,hj⟩:=List.mem_iff_getElem?.1 hp
  have hj':l[j]?=some (tieV a b kd,.agg #[]):=by rw [hj,←e,←h2 p hp]
  obtain⟨w',r1,r2,r3⟩:=AM.putOld kindT h1 (.agg #[]) hj'
  have es:l.set j (tieV a b kd,.agg #[])=l:=by
   apply List.ext_getElem?
   intro i
   rw [List.getElem?_set]
   split
   ·rename_i hi
    subst hi
    rw [hj']
    simp [(List.getElem?_eq_some_iff.1 hj').1]
   ·rfl
  rw [es] at r2
  refine⟨w',r1,⟨l,r2,h2,fun x y z=>?_⟩,r3⟩
  rw [h3]
  constructor
  ·exact Or.inl
  ·rintro (h|⟨rfl,rfl,rfl⟩)
   ·exact h
   ·exact (h3 _ _ _).1 hin
 ·obtain⟨w',r1,r2,r3⟩:=AM.putNew kindT h1 (.agg #[]) hq (fun p hp e=>hin (by rw [←e];exact List.mem_map.2 ⟨p,hp,rfl⟩))
  refine⟨w',r1,⟨_,r2,fun p hp=>?_,fun x y z=>?_⟩,r3⟩
  ·rcases List.mem_append.1 hp with hp|hp
   ·exact h2 p hp
   ·obtain rfl:p=_:=by simpa using hp
    rfl
  ·rw [List.map_append,List.mem_append,h3]
   constructor
   ·rintro (h|h)
    ·exact Or.inl h
    ·right
     have:tieV x y z=tieV a b kd:=by simpa using h
     exact Qqc this
   ·rintro (h|⟨rfl,rfl,rfl⟩)
    ·exact Or.inl h
    ·right;simp
theorem TS.look {w:World} {mt:Nat} {T:Nat→Nat→Int→Prop} (h:TS w mt T) (a b:Nat) (kd:Int) (ha:a≤1000000) (hb:b≤1000000) (hk:0≤kd∧kd<256) (r:Bool) (hr:r=true↔T a b kd) :
  (Instr.lookup 130 (.map (some mt)) (tieV a b kd) true).run Tryz.prog w=.ok (.tuple #[.agg #[],.bool r]) w:=by
 obtain⟨l,h1,h2,h3⟩:=h.out
 by_cases hT:T a b kd
 ·rw [hr.2 hT]
  obtain⟨p,hp,e⟩:=List.mem_map.1 ((h3 a b kd).2 hT)
  obtain⟨j,hj⟩:=List.mem_iff_getElem?.1 hp
  exact AM.hit kindT h1 (j:=j) (by rw [hj,←e,←h2 p hp])
 ·obtain⟨q,hq⟩:=Qnu a b kd ha hb hk
  have:r=false:=by
   cases r with
   | false=>rfl
   | true=>exact absurd (hr.1 rfl) hT
  rw [this]
  exact AM.miss kindT h1 hq (fun p hp e=>hT ((h3 a b kd).1 (by rw [←e];exact List.mem_map.2 ⟨p,hp,rfl⟩)))
def tiesK (P:List SV) (k:Nat) (C:List CV) (a b:Nat) (kd:Int):Prop:=(a<k∧∃x,P[a]?=some x∧∃c∈clms P x,c.e.dst=b∧c.kind=kd)∨(a=k∧∃c∈C,c.e.dst=b∧c.kind=kd)
theorem Qk4 (P:List SV):∀a b kd,tiesK P 0 [] a b kd↔False:=fun a b kd=>by simp [tiesK]
theorem Ql7 (P:List SV) (k:Nat) (C:List CV) (c:CV) (a b:Nat) (kd:Int):(tiesK P k C a b kd∨(a=k∧b=c.e.dst∧kd=c.kind))↔tiesK P k (C++[c]) a b kd:=by
 unfold tiesK
 constructor
 ·rintro ((h|⟨h1,d,hd,h2⟩)|⟨rfl,rfl,rfl⟩)
  ·exact Or.inl h
  ·exact Or.inr ⟨h1,d,by simp [hd],h2⟩
  ·exact Or.inr ⟨rfl,c,by simp,rfl,rfl⟩
 ·rintro (h|⟨h1,d,hd,h2⟩)
  ·exact Or.inl (Or.inl h)
  ·rcases List.mem_append.1 hd with hd|hd
   ·exact Or.inl (Or.inr ⟨h1,d,hd,h2⟩)
   ·obtain rfl:d=c:=by simpa using hd
    exact Or.inr ⟨h1,h2.1.symm,h2.2.symm⟩
theorem Ql0 (P:List SV) (k:Nat) {x:SV} (hx:P[k]?=some x) (a b:Nat) (kd:Int):tiesK P k (clms P x) a b kd↔tiesK P (k+1) [] a b kd:=by
 unfold tiesK
 constructor
 ·rintro (⟨h1,h2⟩|⟨rfl,h2⟩)
  ·exact Or.inl ⟨by omega,h2⟩
  ·exact Or.inl ⟨by omega,x,hx,h2⟩
 ·rintro (⟨h1,y,hy,h2⟩|⟨h1,d,hd,-⟩)
  ·rcases Nat.lt_or_ge a k with h|h
   ·exact Or.inl ⟨h,y,hy,h2⟩
   ·obtain rfl:a=k:=by omega
    rw [hx] at hy
    cases hy
    exact Or.inr ⟨rfl,h2⟩
  ·simp at hd
theorem TS.iff {w:World} {mt:Nat} {T T':Nat→Nat→Int→Prop} (h:TS w mt T) (e:∀a b kd,T a b kd↔T' a b kd):TS w mt T':=by
 obtain⟨l,h1,h2,h3⟩:=h.out
 exact⟨l,h1,h2,fun a b kd=>(h3 a b kd).trans (e a b kd)⟩
theorem Qph (P:List SV) (i:Nat) (c:CV) (hd:c.e.dst<P.length):backB P i c=true↔tiesK P P.length [] c.e.dst i c.kind:=by
 unfold backB tiesK
 rw [List.getElem?_eq_getElem hd]
 constructor
 ·intro h
  obtain⟨d,h1,h2⟩:=List.any_eq_true.1 h
  have h3:d.e.dst=i∧d.kind=c.kind:=by simpa using h2
  exact Or.inl ⟨hd,P[c.e.dst],rfl,d,h1,h3⟩
 ·rintro (⟨-,x,hx,d,h1,h2,h3⟩|⟨-,d,hd',-⟩)
  ·injection hx with hx
   subst hx
   exact List.any_eq_true.2 ⟨d,h1,by simp [h2,h3]⟩
  ·simp at hd'
def EV.cells (e:EV):List Value:=[.int .i64 (e.dst:Int),.int .u32 e.cost,.int .u32 e.data,.bool e.virt]
def edgeC (l:List EV):List Value:=l.flatMap EV.cells
theorem Qh8 (a b:List EV):edgeC (a++b)=edgeC a++edgeC b:=by simp [edgeC]
theorem Qpx (l:List EV) (j i:Nat) (x:EV) (hj:l[j]?=some x) (hi:i<4):(edgeC l)[j*4+i]?=x.cells[i]?:=by
 induction l generalizing j with
 | nil=>simp at hj
 | cons y r ih =>
  have e:edgeC (y::r)=y.cells++edgeC r:=by simp [edgeC]
  have hl:y.cells.length=4:=rfl
  rw [e]
  cases j with
  | zero =>
   obtain rfl:y=x:=by simpa using hj
   rw [List.getElem?_append_left (by omega),Nat.zero_mul,Nat.zero_add]
  | succ j =>
   rw [List.getElem?_append_right (by omega),hl,show (j+1)*4+i-4=j*4+i by omega]
   exact ih j (by simpa using hj)
theorem infoEdge:(Tryz.prog.info? 134).map (fun i=>(i.zero,i.size,i.bytes))=some (some (.agg #[.int .i64 0,.int .u32 0,.int .u32 0,.bool false]),4,24):=by kernel_rfl
theorem infoClms:(Tryz.prog.info? 131).map (fun i=>(i.zero,i.size,i.bytes))=some (some (.slice none 0 0),1,24):=by kernel_rfl
theorem infoNode:(Tryz.prog.info? 73).map (fun i=>(i.zero,i.size,i.bytes))=some (some (.agg #[.bool false,.int .u32 0,.int .u32 0,.int .u8 0,.int .u8 0,.slice none 0 0,.slice none 0 0]),7,72):=by kernel_rfl
structure ND where
 n:NV
 ve:Value
 vs:Value
def ND.cells (d:ND):List Value:=d.n.cells d.ve d.vs
def nodeC (l:List ND):List Value:=l.flatMap ND.cells
theorem Qbl (l:List ND):(nodeC l).length=l.length*7:=by
 induction l with
 | nil=>rfl
 | cons x r ih=>unfold nodeC at *;rw [List.flatMap_cons,List.length_append,ih,List.length_cons];simp [ND.cells,NV.cells];omega
theorem Qb4 (a b:List ND):nodeC (a++b)=nodeC a++nodeC b:=by simp [nodeC]
theorem Qc1 (l:List ND) (j i:Nat) (x:ND) (hj:l[j]?=some x) (hi:i<7):(nodeC l)[j*7+i]?=x.cells[i]?:=by
 induction l generalizing j with
 | nil=>simp at hj
 | cons y r ih =>
  have e:nodeC (y::r)=y.cells++nodeC r:=by simp [nodeC]
  have hl:y.cells.length=7:=rfl
  rw [e]
  cases j with
  | zero =>
   obtain rfl:y=x:=by simpa using hj
   rw [List.getElem?_append_left (by omega),Nat.zero_mul,Nat.zero_add]
  | succ j =>
   rw [List.getElem?_append_right (by omega),hl,show (j+1)*7+i-7=j*7+i by omega]
   exact ih j (by simpa using hj)
structure ND.Ok (base:Nat) (w:World) (d:ND):Prop where
 e:w.ownsRow base 134 4 d.ve d.n.edges.length (edgeC d.n.edges)
 s:w.ownsRow base 157 3 d.vs d.n.stubs.length (stubC d.n.stubs)
theorem ND.Ok.touch {F:Nat→Prop} {base:Nat} {w w':World} {d:ND} (h:d.Ok base w) (t:Touch F w w') (hF:∀k,base≤k→¬F k):d.Ok base w':=⟨Qab h.e t (fun k hk=>hF k (h.e.lt k hk).1),Qab h.s t (fun k hk=>hF k (h.s.lt k hk).1)⟩
def ndZ:ND:=⟨⟨false,0,0,0,0,[],[]⟩,.slice none 0 0,.slice none 0 0⟩
theorem Qky (n:Nat):(madeCells #[Value.bool false,.int .u32 0,.int .u32 0,.int .u8 0,.int .u8 0,.slice none 0 0,.slice none 0 0] (n*7)).toList=nodeC (List.replicate n ndZ):=by
 apply List.ext_getElem?
 intro j
 by_cases hj:j<n*7
 ·have h1:=Qc1 (List.replicate n ndZ) (j/7) (j%7) ndZ (by rw [List.getElem?_replicate,if_pos (by omega)]) (by omega)
  rw [show j/7*7+j%7=j from by omega] at h1
  rw [h1]
  have hm:j%7<7:=by omega
  have e:#[Value.bool false,.int .u32 0,.int .u32 0,.int .u8 0,.int .u8 0,.slice none 0 0,.slice none 0 0]=ndZ.cells.toArray:=rfl
  rw [e]
  have hs:ndZ.cells.toArray.size=7:=rfl
  simp only [madeCells,hs,Array.toList_map,List.getElem?_map,Array.getElem?_toList,Array.getElem?_range,hj,if_true,Option.map_some]
  have hl:j%7<ndZ.cells.length:=by show _<7;omega
  rw [List.getElem?_eq_getElem hl,getElem!_pos ndZ.cells.toArray (j%7) (by simpa using hl)]
  simp
 ·rw [List.getElem?_eq_none (by simp [madeCells];omega),List.getElem?_eq_none (by rw [Qbl];simp;omega)]
theorem Qm4 (n:Nat):(madeCells #[Value.slice none 0 0] n).toList=List.replicate n (.slice none 0 0):=by
 exact toList_madeCells_one _ _
theorem set7 (A B:List Value) (o:Nat) (hA:A.length=o) (z0 z1 z2 z3 z4 z5 z6 c0 c1 c2 c3 c4 c5 c6:Value) :
  (((((((A++(z0::z1::z2::z3::z4::z5::z6::B)).set o c0).set (o+1) c1).set (o+2) c2).set (o+3) c3).set (o+4) c4).set (o+5) c5).set (o+6) c6=A++(c0::c1::c2::c3::c4::c5::c6::B):=by
 subst hA
 rw [List.set_append_right _ _ (by omega)]
 rw [List.set_append_right _ _ (by omega)]
 rw [List.set_append_right _ _ (by omega)]
 rw [List.set_append_right _ _ (by omega)]
 rw [List.set_append_right _ _ (by omega)]
 rw [List.set_append_right _ _ (by omega)]
 rw [List.set_append_right _ _ (by omega)]
 simp only [Nat.sub_self,Nat.add_sub_cancel_left,Qw3,Qw4]
theorem Qsd (D R:List ND) (d d':ND) (j:Nat) (hD:D.length=j) (c0 c1 c2 c3 c4 c5 c6:Value) (hc:d'.cells=[c0,c1,c2,c3,c4,c5,c6]) :
  (((((((nodeC (D++d::R)).set (j*7) c0).set (j*7+1) c1).set (j*7+2) c2).set (j*7+3) c3).set (j*7+4) c4).set (j*7+5) c5).set (j*7+6) c6=nodeC (D++d' :: R):=by
 have e1:nodeC (D++d::R)=nodeC D++(.bool d.n.net :: .int .u32 d.n.id :: .int .u32 d.n.addr :: .int .u8 d.n.bits :: .int .u8 d.n.flags::d.ve::d.vs::nodeC R):=by rw [Qb4];rfl
 have e2:nodeC (D++d' :: R)=nodeC D++(c0::c1::c2::c3::c4::c5::c6::nodeC R):=by
  rw [Qb4]
  show nodeC D++(d'.cells++nodeC R)=_
  rw [hc]
  rfl
 rw [e1,e2]
 exact set7 _ _ _ (by rw [Qbl,hD]) _ _ _ _ _ _ _ _ _ _ _ _ _ _
theorem Qnp (D R:List ND) (d d':ND) (j:Nat) (hD:D.length=j) (hc:d'.cells=d.cells.set 5 d'.ve):(nodeC (D++d::R)).set (j*7+5) d'.ve=nodeC (D++d' :: R):=by
 have e1:nodeC (D++d::R)=nodeC D++(d.cells++nodeC R):=by rw [Qb4];rfl
 have e2:nodeC (D++d' :: R)=nodeC D++(d'.cells++nodeC R):=by rw [Qb4];rfl
 rw [e1,e2,List.set_append_right _ _ (by rw [Qbl,hD];omega),Qbl,hD,Nat.add_sub_cancel_left,List.set_append_left _ _ (by show 5<7;omega),hc]
end Go.Proofs.YtddbffoiadmffaaGreat
