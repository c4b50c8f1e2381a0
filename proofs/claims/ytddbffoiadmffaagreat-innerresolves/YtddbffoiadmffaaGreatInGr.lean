import Derived.Test.YtddbffoiadmffaaGreatGrFind
import Derived.Test.YtddbffoiadmffaaGreatInWArg
import Derived.Test.YtddbffoiadmffaaGreatInReach
namespace Go.Proofs.YtddbffoiadmffaaGreat
open Go.RowKit
set_option linter.unusedVariables false
set_option maxRecDepth 100000
def teOf (e:EV):TE:=⟨(e.dst:Int),e.cost,e.data,e.virt⟩
def tnOf (n:NV):TN:=⟨n.net,n.id,n.edges.map teOf⟩
def slA:Value→Option Addr
 | .slice a _ _=>a
 | _=>none
def slN:Value→Nat
 | .slice _ n _=>n
 | _=>0
def slC:Value→Nat
 | .slice _ _ c=>c
 | _=>0
def nmOf (d:ND):NM:={ t:=tnOf d.n,addr:=d.n.addr,bits:=d.n.bits,flags:=d.n.flags,ea:=slA d.ve,ec:=slC d.ve,sa:=slA d.vs,sn:=slN d.vs,sc:=slC d.vs }
theorem Qwu {w:World} {d:ND} (h:d.Ok 0 w):(nmOf d).cs=d.cells:=by
 obtain⟨⟨nn,ni,na,nb,nf,es,S⟩,ve,vs⟩:=d
 obtain⟨a,c,e1⟩:=Qah h.e
 obtain⟨a',c',e2⟩:=Qah h.s
 simp only at e1 e2
 subst e1 e2
 simp [NM.cs,nmOf,tnOf,ND.cells,NV.cells,slA,slN,slC]
theorem Qwz (e:EV):(teOf e).cs=e.cells:=rfl
theorem Qui {w:World} {v:Value} {D:List ND} (hv:ValsAt w 7 v D.length (nodeC D)) (hk:∀d∈D,d.Ok 0 w) (hz:∃g n,v=.slice (some ⟨g,0,none⟩) n n):GrAt w v (D.map nmOf):=by
 obtain⟨g,n,rfl⟩:=hz
 refine⟨?_,?_⟩
 ·obtain⟨a,c,e,-⟩:=hv.form
  injection e with e1 e2 e3
  subst e2
  refine⟨_,_,by rw [List.length_map],Or.inr ⟨g,rfl,fun i x hx d u hu=>?_⟩⟩
  rw [List.getElem?_map] at hx
  cases hd:D[i]? with
  | none=>rw [hd] at hx;cases hx
  | some y =>
   rw [hd] at hx
   injection hx with hx
   subst hx
   rw [Qwu (hk y (List.mem_of_getElem? hd))] at hu
   have hd7:d<7:=by have:=(List.getElem?_eq_some_iff.1 hu).1;simpa [ND.cells,NV.cells] using this
   rcases hv.2 with⟨h1,-⟩|⟨ad,c',e,-,-,hc⟩
   ·cases h1
   ·injection e with e1 e2 e3
    injection e1 with e1
    subst e1
    have:=hc (i*7+d) u (by rw [Qc1 D i d y hd hd7];exact hu)
    rwa [Qae,Nat.zero_add] at this
 ·intro x hx
  obtain⟨d,hd,rfl⟩:=List.mem_map.1 hx
  have ho:=(hk d hd).e
  rcases ho.2 with⟨-,h0⟩|⟨g,cap,cur,e,-,hh,h1,h2,h3,h4⟩
  ·exact Or.inl (by show d.n.edges.map teOf=[];rw [List.length_eq_zero_iff.1 h0];rfl)
  ·refine Or.inr ⟨g,by show slA d.ve=_;rw [e];rfl,fun j te hj dd u hu=>?_⟩
   have hj':(d.n.edges.map teOf)[j]?=some te:=hj
   rw [List.getElem?_map] at hj'
   cases hy:d.n.edges[j]? with
   | none=>rw [hy] at hj';cases hj'
   | some ev =>
    rw [hy] at hj'
    injection hj' with hj'
    subst hj'
    rw [Qwz] at hu
    have hd4:dd<4:=by have:=(List.getElem?_eq_some_iff.1 hu).1;simpa [EV.cells] using this
    have R:Row w g 134 cur.toList:=hh
    refine (R.cell _).trans ?_
    have e5:=Qpx d.n.edges j dd ev hy hd4
    rw [←h4,List.getElem?_take] at e5
    have hk:=(List.getElem?_eq_some_iff.1 hy).1
    rw [if_pos (by omega)] at e5
    rw [e5]
    exact hu
structure SVK (B:Nat) (x:SV):Prop where
 id:0≤x.h.id∧x.h.id<4294967296
 rt:x.h.typ=1→x.h.id≠0
 rg:x.b.Rg
 deg:4*(x.b.links.length+x.b.routers.length)≤B
theorem Qtg {l:List SE} {P:List SV} (h:IsN l P) {B:Nat} (hB:B≤65536) (ok:∀s∈l,s.h.All∧(∀z∈s.rs,0≤z∧z<256)∧s.rs.length≤B):∀x∈P,SVK B x:=by
 intro x hx
 have F:=h.fine x hx
 obtain⟨s,hs,rfl⟩:=List.mem_map.1 (h.perm.mem_iff.1 hx)
 obtain⟨hsl,hc⟩:=(Qdg l).all s hs
 obtain⟨h1,h2,h3,h4⟩:=Qdj hc
 obtain⟨b,hb,hlen,-⟩:=Qih h4
 obtain⟨o1,o2,o3⟩:=ok s hsl
 have hsv:s.sv.b=b:=by show (decB s.h.typ s.rs).getD BV.zero=b;rw [hb];rfl
 have hrg:=Qsk (by omega) h1 o2 hb
 have hl:=Qbh s.h.typ b
 rw [(Qb2 hb).2.2] at hl
 have hm:=(Qb2 hb).2.1
 refine⟨o1.i,fun e=>(h3 e).2,by rw [hsv];exact hrg,?_⟩
 rw [hsv]
 unfold sizeB at hl
 rcases h1 with e|e
 ·rw [e] at hl hm
  rw [if_pos rfl] at hl
  have:=hm.a2
  omega
 ·rw [e] at hl hm
  rw [if_neg (by omega),if_pos rfl] at hl
  have:=hm.a1
  omega
theorem Qtp (P:List SV) (x:SV):(clms P x).length≤x.b.links.length+x.b.routers.length:=by
 unfold clms
 rw [List.length_append]
 have h1:=Qco (clmL P x) (Qdm P x) x.b.links
 have h2:=Qco (fun r=>clm P x (false,r) rtr) (fun r=>Qd3 P x (false,r) rtr) x.b.routers
 omega
theorem Qum {P:List SV} {x:SV} (hl:∀k∈x.b.links,k.Ok) {d:CV} (h:d∈clms P x):0≤d.e.cost∧d.e.cost<65536∧0≤d.e.data∧d.e.data<4294967296:=by
 have key:∀p c,d∈clm P x p c→d.e.cost=c.e.cost∧d.e.data=c.e.data:=by
  intro p c hd
  unfold clm at hd
  split at hd
  ·split at hd
   ·cases hd
   ·obtain rfl:=List.mem_singleton.1 hd
    exact⟨rfl,rfl⟩
  ·cases hd
 unfold clms at h
 rcases List.mem_append.1 h with h|h
 ·obtain⟨k,hk,h⟩:=List.mem_flatMap.1 h
  have ok:=hl k hk
  have:d.e.cost=k.cost∧d.e.data=k.data:=by
   unfold clmL at h
   split at h
   ·exact key _ _ h
   ·split at h
    ·exact key _ _ h
    ·cases h
  rw [this.1,this.2]
  have:=ok.c;have:=ok.d
  omega
 ·obtain⟨r,hr,h⟩:=List.mem_flatMap.1 h
  have:=key _ _ h
  rw [this.1,this.2]
  simp [rtr]
theorem Qio {P:List SV} {n:NV} (h:n∈grB P):∃i x,P[i]?=some x∧n=nodeE P i x:=by
 unfold grB at h
 obtain⟨i,hi⟩:=List.mem_iff_getElem?.1 h
 rw [List.getElem?_mapIdx] at hi
 cases hx:P[i]? with
 | none=>rw [hx] at hi;cases hi
 | some x=>rw [hx] at hi;injection hi with hi;exact⟨i,x,hx,hi.symm⟩
theorem Qu7 {l:List SE} {P:List SV} (h:IsN l P) {B:Nat} (hk:∀x∈P,SVK B x):GOk ((grB P).map tnOf) 65535 (B/4):=by
 have hm:∀t∈(grB P).map tnOf,∃i x,P[i]?=some x∧t=tnOf (nodeE P i x):=by
  intro t ht
  obtain⟨n,hn,rfl⟩:=List.mem_map.1 ht
  obtain⟨i,x,hx,rfl⟩:=Qio hn
  exact⟨i,x,hx,rfl⟩
 refine⟨fun t ht=>?_,fun t ht hn=>?_,fun t ht e he=>?_,fun t ht=>?_,by omega⟩
 ·obtain⟨i,x,hx,rfl⟩:=hm t ht
  have:=(hk x (List.mem_of_getElem? hx)).id
  show 0≤x.h.id∧x.h.id≤4294967295
  omega
 ·obtain⟨i,x,hx,rfl⟩:=hm t ht
  have hxm:=List.mem_of_getElem? hx
  refine (hk x hxm).rt ?_
  have hn':(x.h.typ==2)=false:=hn
  rcases (h.fine x hxm).typ with e|e
  ·exact e
  ·rw [e] at hn';cases hn'
 ·obtain⟨i,x,hx,rfl⟩:=hm t ht
  obtain⟨ev,hev,rfl⟩:=List.mem_map.1 (show e∈(edgs P i x).map teOf from he)
  obtain⟨c,hc,rfl⟩:=List.mem_map.1 hev
  have:=Qum (hk x (List.mem_of_getElem? hx)).rg.l (List.mem_filter.1 hc).1
  show 0≤c.e.cost∧c.e.cost≤65535∧c.e.cost≤4294967295∧0≤c.e.data∧c.e.data≤4294967295
  omega
 ·obtain⟨i,x,hx,rfl⟩:=hm t ht
  show ((edgs P i x).map teOf).length≤B/4
  have h1:=Qtp P x
  have h2:=(hk x (List.mem_of_getElem? hx)).deg
  unfold edgs
  rw [List.length_map,List.length_map]
  have h3:=List.length_filter_le (backB P i) (clms P x)
  omega
theorem Qwy {D:List ND} {P:List SV} (h:D.map ND.n=grB P):(D.map nmOf).map (·.t)=(grB P).map tnOf:=by
 rw [←h,List.map_map,List.map_map]
 rfl
theorem Qvu {B:Nat} {P:List SV} {i:Nat} {x:SV} (hk:SVK B x):(nodeE P i x).OkP:=by
 have bd:∀a m:Int,0≤a∧a<4294967296→(⟨pcut a (pbn m),pbn m⟩:PX).Ok:=by
  intro a m ha
  have h1:=Qss m
  exact⟨Qur ha.1 ha.2,by show 0≤pbn m∧pbn m<256;omega⟩
 refine⟨?_,fun s hs=>?_⟩
 ·show (⟨netA x,netB x⟩:PX).Ok
  unfold netA netB
  split
  ·exact bd _ _ hk.id
  ·exact⟨by simp,by simp⟩
 ·obtain⟨k,hkl,hs⟩:=List.mem_flatMap.1 (show s∈x.b.links.flatMap stubL from hs)
  have ok:=hk.rg.l k hkl
  unfold stubL at hs
  split at hs
  ·obtain rfl:=List.mem_singleton.1 hs
   refine⟨bd _ _ ok.i,?_⟩
   have:=ok.c
   show 0≤k.cost∧k.cost≤4294967295
   omega
  ·cases hs
end Go.Proofs.YtddbffoiadmffaaGreat
