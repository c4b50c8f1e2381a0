import Derived.Test.YtddbffoiadmffaaGreatTrMath
namespace Go.Proofs.YtddbffoiadmffaaGreat
set_option linter.unusedVariables false
structure TE where
 dst:Int
 cost:Int
 data:Int
 vr:Bool
structure TN where
 net:Bool
 id:Int
 edges:List TE
def TN0:TN:=⟨false,0,[]⟩
def gn (g:List TN) (i:Nat):TN:=g.getD i TN0
theorem Qbx {g:List TN} {i:Nat} (h:i<g.length):gn g i∈g:=by
 unfold gn
 rw [List.getD_eq_getElem?_getD,List.getElem?_eq_getElem h]
 simp
structure RV where
 is:Bool
 cost:Int
 hops:List HK
def RV0:RV:=⟨false,0,[]⟩
def intoH (h:HK) (t:TN):HK:=if h.via≠0 then h else if t.net=true then ⟨h.out,0,false⟩ else ⟨h.out,t.id,h.vr⟩
def upf {α:Type} (f:Nat→α) (i:Nat) (x:α):Nat→α:=fun j=>if j=i then x else f j
theorem Qag {α:Type} (f:Nat→α) (i:Nat) (x:α):upf f i x i=x:=by simp [upf]
theorem Qaf {α:Type} (f:Nat→α) {i j:Nat} (x:α) (h:j≠i):upf f i x j=f j:=by simp [upf,h]
inductive Wk (g:List TN):Nat→Nat→Int→Prop
 | nil (u:Nat):u<g.length→Wk g u u 0
 | snoc {u v x:Nat} {c:Int} {e:TE}:Wk g u v c→e∈(gn g v).edges→e.dst=(x:Int)→x<g.length→Wk g u x (c+e.cost)
structure GOk (g:List TN) (M:Int) (E:Nat):Prop where
 id0:∀t∈g,0≤t.id∧t.id≤4294967295
 rt:∀t∈g,t.net=false→t.id≠0
 ed:∀t∈g,∀e∈t.edges,0≤e.cost∧e.cost≤M∧e.cost≤4294967295∧0≤e.data∧e.data≤4294967295
 deg:∀t∈g,t.edges.length≤E
 m0:0≤M
structure HopW (g:List TN) (root v:Nat) (c:Int) (h:HK):Prop where
 out:∃e∈(gn g root).edges,∃t:Nat,e.dst=(t:Int)∧t<g.length∧t≠root∧(∃c',Wk g t v c'∧c=e.cost+c')∧h.out=e.data∧((gn g t).net=false→h=⟨e.data,(gn g t).id,e.vr⟩)
 via:h.via=0∨∃t∈g,h.via=t.id
 vr:h.via=0→h.vr=false
theorem HopW.snoc {g:List TN} {M:Int} {E:Nat} (G:GOk g M E) {root v x:Nat} {c:Int} {h:HK} (H:HopW g root v c h) {e:TE} (he:e∈(gn g v).edges) (hd:e.dst=(x:Int)) (hx:x<g.length):HopW g root x (c+e.cost) (intoH h (gn g x)):=by
 obtain⟨⟨e0,h0,t,h1,h2,h3,⟨c',h4,h5⟩,h6,h7⟩,hv,hr⟩:=H
 have hW:∃c'',Wk g t x c''∧c+e.cost=e0.cost+c'':=⟨c'+e.cost,h4.snoc he hd hx,by omega⟩
 unfold intoH
 by_cases hz:h.via≠0
 ·rw [if_pos hz]
  exact⟨⟨e0,h0,t,h1,h2,h3,hW,h6,h7⟩,hv,hr⟩
 ·rw [if_neg hz]
  have hz':h.via=0:=by omega
  have no:(gn g t).net=false→False:=fun k=>by
   have:=h7 k
   rw [this] at hz'
   exact G.rt _ (Qbx h2) k hz'
  by_cases hn:(gn g x).net=true
  ·rw [if_pos hn]
   exact⟨⟨e0,h0,t,h1,h2,h3,hW,h6,fun k=>(no k).elim⟩,Or.inl rfl,fun _=>rfl⟩
  ·rw [if_neg hn]
   refine⟨⟨e0,h0,t,h1,h2,h3,hW,h6,fun k=>(no k).elim⟩,Or.inr ⟨_,Qbx hx,rfl⟩,fun k=>?_⟩
   exact (G.rt _ (Qbx hx) (by simpa using hn) k).elim
theorem HopW.first {g:List TN} {M:Int} {E:Nat} (G:GOk g M E) {root t:Nat} {e:TE} (he:e∈(gn g root).edges) (hd:e.dst=(t:Int)) (ht:t<g.length) (hr:t≠root):HopW g root t e.cost (intoH ⟨e.data,0,e.vr⟩ (gn g t)):=by
 unfold intoH
 rw [if_neg (by simp)]
 have hW:∃c',Wk g t t c'∧e.cost=e.cost+c':=⟨0,Wk.nil t ht,by omega⟩
 by_cases hn:(gn g t).net=true
 ·rw [if_pos hn]
  exact⟨⟨e,he,t,hd,ht,hr,hW,rfl,fun k=>by rw [k] at hn;cases hn⟩,Or.inl rfl,fun _=>rfl⟩
 ·rw [if_neg hn]
  refine⟨⟨e,he,t,hd,ht,hr,hW,rfl,fun k=>rfl⟩,Or.inr ⟨_,Qbx ht,rfl⟩,fun k=>?_⟩
  exact (G.rt _ (Qbx ht) (by simpa using hn) k).elim
theorem Qt9 {g:List TN} {M:Int} {E:Nat} (G:GOk g M E) {root v x:Nat} {c:Int} {h:HK} (H:HopW g root v c h) (hx:x<g.length):h.le (intoH h (gn g x)):=by
 unfold intoH
 by_cases hz:h.via≠0
 ·rw [if_pos hz];exact HK.le_refl _
 ·rw [if_neg hz]
  have hz':h.via=0:=by omega
  have hr:=H.vr hz'
  by_cases hn:(gn g x).net=true
  ·rw [if_pos hn]
   have:(⟨h.out,0,false⟩:HK)=h:=HK.ext' rfl hz'.symm (by rw [hr])
   rw [this];exact HK.le_refl _
  ·rw [if_neg hn]
   have h1:=(G.id0 _ (Qbx hx)).1
   have h2:=G.rt _ (Qbx hx) (by simpa using hn)
   unfold HK.le HK.lt
   simp only
   omega
def sumN:Nat→(Nat→Nat)→Nat
 | 0,_=>0
 | n+1,f=>sumN n f+f n
theorem Qb8 {n:Nat} {f f':Nat→Nat} (h:∀v,v<n→f' v=f v):sumN n f'=sumN n f:=by
 induction n with
 | zero=>rfl
 | succ n ih=>simp only [sumN];rw [ih (fun v hv=>h v (by omega)),h n (by omega)]
theorem Qge {n:Nat} {f f':Nat→Nat} {v d:Nat} (hv:v<n) (h:f' v=f v+d) (ho:∀u,u≠v→f' u=f u):sumN n f'=sumN n f+d:=by
 induction n with
 | zero=>omega
 | succ n ih =>
  simp only [sumN]
  by_cases e:v=n
  ·subst e
   rw [Qb8 (fun u hu=>ho u (by omega)),h]
   omega
  ·rw [ih (by omega),ho n (fun k=>e k.symm)]
   omega
theorem Qi1 {n B:Nat} {f:Nat→Nat} (h:∀v,v<n→f v≤B):sumN n f≤n*B:=by
 induction n with
 | zero=>simp [sumN]
 | succ n ih =>
  simp only [sumN]
  have h1:=ih (fun v hv=>h v (by omega))
  have h2:=h n (by omega)
  have:(n+1)*B=n*B+B:=by rw [Nat.add_mul,Nat.one_mul]
  omega
def St (root:Nat) (R:Nat→RV) (v:Nat):Prop:=v=root∨(R v).hops≠[]
def stN (root:Nat) (R:Nat→RV) (v:Nat):Nat:=if v=root then 1 else if (R v).hops.isEmpty then 0 else 1
def cnt (g:List TN) (root:Nat) (R:Nat→RV):Nat:=sumN g.length (stN root R)
def tot (g:List TN) (R:Nat→RV):Nat:=sumN g.length (fun v=>(R v).hops.length)
theorem Qve (g:List TN) (root:Nat) (R:Nat→RV):cnt g root R≤g.length:=by
 have:=Qi1 (n:=g.length) (B:=1) (f:=stN root R) (fun v _=>by unfold stN;split <;> (try split) <;> omega)
 unfold cnt
 omega
structure Inv (g:List TN) (M:Int) (root x i:Nat) (cur:Sp) (L:List Sp) (R:Nat→RV) (Z:Nat→Sp):Prop where
 rr:R root=⟨true,0,[]⟩
 st:∀s∈L,∃v:Nat,s.node=(v:Int)∧v<g.length∧v≠root∧(R v).is=true∧(R v).cost≤s.cost∧s.cost≤4294967295∧HopW g root v s.cost s.h
 cu:∀s∈L,cur.le s
 rc:∀v,0≤(R v).cost∧(R v).cost≤4294967295
 wt:∀v,v<g.length→v≠root→(R v).is=true→(R v).hops≠[]∨∃s∈L,s.node=(v:Int)∧s.cost=(R v).cost
 hs:∀v,(R v).hops≠[]→v<g.length∧v≠root∧(R v).is=true
 hc:∀v,∀h∈(R v).hops,HopW g root v (R v).cost h∧(⟨0,(R v).cost,h⟩:Sp).le cur
 so:∀v,(R v).hops.Pairwise HK.lt
 zc:∀v,v<g.length→v≠root→(R v).is=true→(Z v).cost=(R v).cost
 cl:∀v,v<g.length→St root R v→∀j e,(gn g v).edges[j]?=some e→(v=x→j<i)→∀t:Nat,e.dst=(t:Int)→t<g.length→(R v).cost+e.cost≤4294967295→(R t).is=true∧(R t).cost≤(R v).cost+e.cost
 tg:∀v,v<g.length→v≠root→(R v).is=true→∃u,u<g.length∧St root R u∧∃e∈(gn g u).edges,e.dst=(v:Int)∧(R v).cost=(R u).cost+e.cost
 wk:∀v,v<g.length→(R v).is=true→Wk g root v (R v).cost
 bs:∀v,v<g.length→St root R v→(R v).cost+M≤M*cnt g root R
 bl:∀s∈L,s.cost≤M*cnt g root R
theorem Inv.perm {g:List TN} {M:Int} {root x i:Nat} {cur:Sp} {L L':List Sp} {R:Nat→RV} {Z:Nat→Sp} (I:Inv g M root x i cur L R Z) (hp:L'.Perm L):Inv g M root x i cur L' R Z :=
 ⟨I.rr,fun s hs=>I.st s (hp.mem_iff.1 hs),fun s hs=>I.cu s (hp.mem_iff.1 hs),I.rc,fun v a b c=>(I.wt v a b c).imp id (fun ⟨s,h1,h2⟩=>⟨s,hp.mem_iff.2 h1,h2⟩),I.hs,I.hc,I.so,I.zc,I.cl,I.tg,I.wk,I.bs,fun s hs=>I.bl s (hp.mem_iff.1 hs)⟩
theorem Inv.skip {g:List TN} {M:Int} {root x i:Nat} {cur:Sp} {L:List Sp} {R:Nat→RV} {Z:Nat→Sp} (I:Inv g M root x i cur L R Z) {e:TE} (he:(gn g x).edges[i]?=some e)
  (h:∀t:Nat,e.dst=(t:Int)→t<g.length→t≠root→(R x).cost+e.cost≤4294967295→(R t).is=true∧(R t).cost≤(R x).cost+e.cost) (h0:0≤e.cost):Inv g M root x (i+1) cur L R Z:=by
 refine⟨I.rr,I.st,I.cu,I.rc,I.wt,I.hs,I.hc,I.so,I.zc,fun v a b k e' he' hv t h1 h2 h3=>?_,I.tg,I.wk,I.bs,I.bl⟩
 by_cases hk:v=x∧k=i
 ·obtain⟨rfl,rfl⟩:=hk
  rw [he] at he'
  cases he'
  by_cases ht:t=root
  ·subst ht
   rw [I.rr]
   have:=(I.rc v).1
   exact⟨rfl,by simp only;omega⟩
  ·exact h t h1 h2 ht h3
 ·refine I.cl v a b k e' he' (fun hvx=>?_) t h1 h2 h3
  have:=hv hvx
  have:k≠i:=fun hk'=>hk ⟨hvx,hk'⟩
  omega
theorem Qu2 {x y:Sp} (h:x.le y):x.cost≤y.cost:=by unfold Sp.le Sp.lt at h;omega
theorem Qqv {g:List TN} {root:Nat} {R R':Nat→RV} (h:∀v,(R' v).hops=(R v).hops):cnt g root R'=cnt g root R:=Qb8 (fun v _=>by unfold stN;rw [h v])
theorem Inv.wait {g:List TN} {M:Int} {E:Nat} (G:GOk g M E) {root x i:Nat} {cur:Sp} {L:List Sp} {R:Nat→RV} {Z:Nat→Sp} (I:Inv g M root x i cur L R Z) (hx:x<g.length) (sx:St root R x) {e:TE} (he:(gn g x).edges[i]?=some e)
  {t:Nat} (hd:e.dst=(t:Int)) (ht:t<g.length) (hr:t≠root) (hm:(R x).cost+e.cost≤4294967295) (hno:(R t).is=true→(R x).cost+e.cost≤(R t).cost) {k:HK} (H:HopW g root t ((R x).cost+e.cost) k) (hcur:cur.le ⟨(t:Int),(R x).cost+e.cost,k⟩) :
  Inv g M root x (i+1) cur (L++[⟨(t:Int),(R x).cost+e.cost,k⟩]) (upf R t ⟨true,(R x).cost+e.cost,(R t).hops⟩) (upf Z t ⟨(t:Int),(R x).cost+e.cost,k⟩):=by
 have hem:e∈(gn g x).edges:=List.mem_of_getElem? he
 have hE:=G.ed _ (Qbx hx) e hem
 have hcx:=I.rc x
 have hbx:=I.bs x hx sx
 have hwx:Wk g root x (R x).cost:=by
  rcases sx with rfl|sx
  ·exact I.wk x hx (by rw [I.rr])
  ·exact I.wk x hx (I.hs x sx).2.2
 generalize hc:(R x).cost+e.cost=c at *
 -- the cost of a node that is done stays
 have keep:∀v,St root R v→(upf R t ⟨true,c,(R t).hops⟩ v).cost=(R v).cost:=by
  intro v sv
  by_cases hv:v=t
  ·subst hv
   rw [Qag]
   rcases sv with sv|sv
   ·exact (hr sv).elim
   ·obtain⟨h1,h2,h3⟩:=I.hs v sv
    cases hh:(R v).hops with
    | nil=>exact (sv hh).elim
    | cons a l =>
     have h4:=(I.hc v a (by rw [hh];simp)).2
     have h5:=Qu2 (Qa8 h4 hcur)
     have h6:=hno h3
     simp only at h5 ⊢
     omega
  ·rw [Qaf _ _ hv]
 have hops:∀v,(upf R t ⟨true,c,(R t).hops⟩ v).hops=(R v).hops:=by
  intro v
  by_cases hv:v=t
  ·subst hv;rw [Qag]
  ·rw [Qaf _ _ hv]
 have is:∀v,(R v).is=true→(upf R t ⟨true,c,(R t).hops⟩ v).is=true:=by
  intro v h
  by_cases hv:v=t
  ·subst hv;rw [Qag]
  ·rw [Qaf _ _ hv];exact h
 have less:∀v,(R v).is=true→(upf R t ⟨true,c,(R t).hops⟩ v).cost≤(R v).cost:=by
  intro v h
  by_cases hv:v=t
  ·subst hv;rw [Qag];exact hno h
  ·rw [Qaf _ _ hv];exact Int.le_refl _
 have sts:∀v,St root (upf R t ⟨true,c,(R t).hops⟩) v↔St root R v:=by
  intro v;unfold St;rw [hops]
 have hcnt:cnt g root (upf R t ⟨true,c,(R t).hops⟩)=cnt g root R:=Qqv hops
 refine⟨?_,?_,?_,?_,?_,?_,?_,?_,?_,?_,?_,?_,?_,?_⟩
 ·rw [Qaf _ _ (Ne.symm hr)];exact I.rr
 ·intro s hs
  rcases List.mem_append.1 hs with hs|hs
  ·obtain⟨v,h1,h2,h3,h4,h5,h6,h7⟩:=I.st s hs
   exact⟨v,h1,h2,h3,is v h4,Int.le_trans (less v h4) h5,h6,h7⟩
  ·simp at hs
   subst hs
   exact⟨t,rfl,ht,hr,by rw [Qag],by rw [Qag];exact Int.le_refl _,hm,H⟩
 ·intro s hs
  rcases List.mem_append.1 hs with hs|hs
  ·exact I.cu s hs
  ·simp at hs;subst hs;exact hcur
 ·intro v
  by_cases hv:v=t
  ·subst hv;rw [Qag];simp only;omega
  ·rw [Qaf _ _ hv];exact I.rc v
 ·intro v h1 h2 h3
  by_cases hv:v=t
  ·subst hv
   exact Or.inr ⟨⟨(v:Int),c,k⟩,List.mem_append.2 (Or.inr (List.mem_singleton.2 rfl)),rfl,by rw [Qag]⟩
  ·rw [Qaf _ _ hv] at h3 ⊢
   exact (I.wt v h1 h2 h3).imp id (fun ⟨s,a,b⟩=>⟨s,List.mem_append.2 (Or.inl a),b⟩)
 ·intro v hv
  rw [hops] at hv
  obtain⟨h1,h2,h3⟩:=I.hs v hv
  exact⟨h1,h2,is v h3⟩
 ·intro v h hh
  rw [hops] at hh
  rw [keep v (Or.inr (fun k=>by rw [k] at hh;cases hh))]
  exact I.hc v h hh
 ·intro v;rw [hops];exact I.so v
 ·intro v h1 h2 h3
  by_cases hv:v=t
  ·subst hv;rw [Qag,Qag]
  ·rw [Qaf _ _ hv] at h3 ⊢
   rw [Qaf _ _ hv]
   exact I.zc v h1 h2 h3
 ·intro v a b j e' he' hv t' h1 h2 h3
  have b':=(sts v).1 b
  rw [keep v b'] at h3 ⊢
  by_cases hk:v=x∧j=i
  ·obtain⟨rfl,rfl⟩:=hk
   rw [he] at he'
   cases he'
   have:t'=t:=by rw [hd] at h1;omega
   subst this
   rw [Qag]
   exact⟨rfl,by simp only;omega⟩
  ·obtain⟨h4,h5⟩:=I.cl v a b' j e' he' (fun hvx=>by
    have:=hv hvx
    have:j≠i:=fun hk'=>hk ⟨hvx,hk'⟩
    omega) t' h1 h2 h3
   exact⟨is t' h4,Int.le_trans (less t' h4) h5⟩
 ·intro v h1 h2 h3
  by_cases hv:v=t
  ·subst hv
   refine⟨x,hx,(sts x).2 sx,e,hem,hd,?_⟩
   rw [keep x sx,Qag]
   simp only;omega
  ·rw [Qaf _ _ hv] at h3 ⊢
   obtain⟨u,h4,h5,e',h6,h7,h8⟩:=I.tg v h1 h2 h3
   exact⟨u,h4,(sts u).2 h5,e',h6,h7,by rw [keep u h5];exact h8⟩
 ·intro v h1 h2
  by_cases hv:v=t
  ·subst hv
   rw [Qag]
   simp only
   rw [←hc]
   exact hwx.snoc hem hd ht
  ·rw [Qaf _ _ hv] at h2 ⊢
   exact I.wk v h1 h2
 ·intro v h1 h2
  have b':=(sts v).1 h2
  rw [keep v b',hcnt]
  exact I.bs v h1 b'
 ·intro s hs
  rw [hcnt]
  rcases List.mem_append.1 hs with hs|hs
  ·exact I.bl s hs
  ·simp at hs
   subst hs
   simp only
   omega
theorem Inv.pop {g:List TN} {M:Int} {root x i:Nat} {cur s:Sp} {L L':List Sp} {R:Nat→RV} {Z:Nat→Sp} (I:Inv g M root x i cur L R Z) (hp:L.Perm (L' ++ [s])) (hmin:∀y∈L,s.le y) (v:Nat) (hv:s.node=(v:Int)) (h:(R v).cost<s.cost∨(R v).hops≠[]):Inv g M root x i s L' R Z:=by
 have hsL:s∈L:=hp.mem_iff.2 (by simp)
 have sub:∀y∈L',y∈L:=fun y hy=>hp.mem_iff.2 (List.mem_append.2 (Or.inl hy))
 have hcs:=I.cu s hsL
 refine⟨I.rr,fun y hy=>I.st y (sub y hy),fun y hy=>hmin y (sub y hy),I.rc,fun u h1 h2 h3=>?_,I.hs,fun u k hk=>⟨(I.hc u k hk).1,Qa8 (I.hc u k hk).2 hcs⟩,I.so,I.zc,I.cl,I.tg,I.wk,I.bs,fun y hy=>I.bl y (sub y hy)⟩
 rcases I.wt u h1 h2 h3 with h4|⟨y,h4,h5,h6⟩
 ·exact Or.inl h4
 ·rcases List.mem_append.1 (hp.mem_iff.1 h4) with h7|h7
  ·exact Or.inr ⟨y,h7,h5,h6⟩
  ·simp at h7
   subst h7
   have:u=v:=by omega
   subst this
   rcases h with h|h
   ·omega
   ·exact Or.inl h
theorem Qib {l:List HK} {h:HK} (hp:l.Pairwise HK.lt) (hle:∀k∈l,k.le h) (hl:l.getLast?≠some h):(l++[h]).Pairwise HK.lt:=by
 refine List.pairwise_append.2 ⟨hp,by simp,fun a ha b hb=>?_⟩
 simp at hb
 subst hb
 refine HK.lt_of_le_ne (hle a ha) (fun e=>hl ?_)
 subst e
 -- what stands last is not less than a,and a stands there
 cases hq:l.getLast? with
 | none=>rw [List.getLast?_eq_none_iff] at hq;subst hq;cases ha
 | some z =>
  obtain⟨l1,rfl⟩:∃l1,l=l1++[z]:=by
   obtain⟨ys,hy⟩:=List.getLast?_eq_some_iff.1 hq
   exact⟨ys,hy⟩
  rcases List.mem_append.1 ha with h1|h1
  ·have h2:=(List.pairwise_append.1 hp).2.2 a h1 z (by simp)
   have h3:=hle z (by simp)
   exact (HK.lt_irrefl a (HK.lt_of_lt_of_le h2 h3)).elim
  ·simp at h1;rw [h1]
theorem Inv.take {g:List TN} {M:Int} {E:Nat} (G:GOk g M E) {root:Nat} (hroot:root<g.length) {x i:Nat} {cur s:Sp} {L L':List Sp} {R:Nat→RV} {Z:Nat→Sp} (I:Inv g M root x i cur L R Z) (hfull:(gn g x).edges.length≤i) (hp:L.Perm (L' ++ [s])) (hmin:∀y∈L,s.le y) (v:Nat) (hv:s.node=(v:Int)) (hc:s.cost=(R v).cost) (hl:(R v).hops.getLast?≠some s.h) :
  Inv g M root v 0 s L' (upf R v ⟨(R v).is,(R v).cost,(R v).hops++[s.h]⟩) Z∧St root (upf R v ⟨(R v).is,(R v).cost,(R v).hops++[s.h]⟩) v∧HopW g root v (R v).cost s.h:=by
 have hsL:s∈L:=hp.mem_iff.2 (by simp)
 have sub:∀y∈L',y∈L:=fun y hy=>hp.mem_iff.2 (List.mem_append.2 (Or.inl hy))
 have hcs:=I.cu s hsL
 obtain⟨v',e1,h2,h3,h4,h5,h6,h7⟩:=I.st s hsL
 have e2:v'=v:=by omega
 rw [e2] at e1 h2 h3 h4 h5 h7
 have cost:∀u,(upf R v ⟨(R v).is,(R v).cost,(R v).hops++[s.h]⟩ u).cost=(R u).cost:=by
  intro u
  by_cases hu:u=v
  ·subst hu;rw [Qag]
  ·rw [Qaf _ _ hu]
 have is:∀u,(upf R v ⟨(R v).is,(R v).cost,(R v).hops++[s.h]⟩ u).is=(R u).is:=by
  intro u
  by_cases hu:u=v
  ·subst hu;rw [Qag]
  ·rw [Qaf _ _ hu]
 have sts:∀u,u≠v→(St root (upf R v ⟨(R v).is,(R v).cost,(R v).hops++[s.h]⟩) u↔St root R u):=by
  intro u hu;unfold St;rw [Qaf _ _ hu]
 have stm:∀u,St root R u→St root (upf R v ⟨(R v).is,(R v).cost,(R v).hops++[s.h]⟩) u:=by
  intro u hu
  by_cases e:u=v
  ·subst e;exact Or.inr (by rw [Qag];simp)
  ·exact (sts u e).2 hu
 have hcnt:(cnt g root (upf R v ⟨(R v).is,(R v).cost,(R v).hops++[s.h]⟩)=cnt g root R∧St root R v)∨(cnt g root (upf R v ⟨(R v).is,(R v).cost,(R v).hops++[s.h]⟩)=cnt g root R+1):=by
  by_cases hh:(R v).hops=[]
  ·refine Or.inr (Qge h2 ?_ (fun u hu=>?_))
   ·simp [stN,h3,hh,Qag]
   ·unfold stN;rw [Qaf _ _ hu]
  ·refine Or.inl ⟨Qb8 (fun u _=>?_),Or.inr hh⟩
   by_cases hu:u=v
   ·subst hu
    simp [stN,h3,hh,Qag]
   ·unfold stN;rw [Qaf _ _ hu]
 have hm:=G.m0
 have hmul:M*(cnt g root R:Int)≤M*(cnt g root (upf R v ⟨(R v).is,(R v).cost,(R v).hops++[s.h]⟩):Int):=by
  refine Int.mul_le_mul_of_nonneg_left ?_ hm
  rcases hcnt with⟨e,_⟩|e <;> omega
 have hbv:(R v).cost+M≤M*(cnt g root (upf R v ⟨(R v).is,(R v).cost,(R v).hops++[s.h]⟩):Int):=by
  rcases hcnt with⟨e,hs⟩|e
  ·rw [e];exact I.bs v h2 hs
  ·have hb:=I.bl s hsL
   rw [e]
   have:M*((cnt g root R+1:Nat):Int)=M*(cnt g root R:Int)+M:=by push_cast;rw [Int.mul_add,Int.mul_one]
   rw [this]
   omega
 have hle:∀k∈(R v).hops,k.le s.h:=by
  intro k hk
  have:=Qa8 (I.hc v k hk).2 hcs
  unfold Sp.le Sp.lt at this
  simp only at this
  intro hlt
  exact this (Or.inr ⟨hc,hlt⟩)
 refine⟨⟨?_,?_,?_,?_,?_,?_,?_,?_,?_,?_,?_,?_,?_,?_⟩,Or.inr (by rw [Qag];simp),by rw [←hc];exact h7⟩
 ·rw [Qaf _ _ (Ne.symm h3)];exact I.rr
 ·intro y hy
  obtain⟨u,a1,a2,a3,a4,a5,a6⟩:=I.st y (sub y hy)
  exact⟨u,a1,a2,a3,by rw [is];exact a4,by rw [cost];exact a5,a6⟩
 ·exact fun y hy=>hmin y (sub y hy)
 ·intro u;rw [cost];exact I.rc u
 ·intro u a1 a2 a3
  by_cases hu:u=v
  ·subst hu;exact Or.inl (by rw [Qag];simp)
  ·rw [Qaf _ _ hu] at a3 ⊢
   rcases I.wt u a1 a2 a3 with b|⟨y,b1,b2,b3⟩
   ·exact Or.inl b
   ·rcases List.mem_append.1 (hp.mem_iff.1 b1) with b4|b4
    ·exact Or.inr ⟨y,b4,b2,b3⟩
    ·simp at b4;subst b4;omega
 ·intro u hu
  rw [is]
  by_cases e:u=v
  ·subst e;exact⟨h2,h3,h4⟩
  ·rw [Qaf _ _ e] at hu;exact I.hs u hu
 ·intro u k hk
  rw [cost]
  by_cases e:u=v
  ·subst e
   rw [Qag] at hk
   rcases List.mem_append.1 hk with hk|hk
   ·exact⟨(I.hc u k hk).1,Qa8 (I.hc u k hk).2 hcs⟩
   ·simp at hk
    subst hk
    refine⟨by rw [←hc];exact h7,?_⟩
    rw [←hc]
    unfold Sp.le Sp.lt
    simp only
    rintro (q|⟨_,q⟩)
    ·omega
    ·exact HK.lt_irrefl _ q
  ·rw [Qaf _ _ e] at hk
   exact⟨(I.hc u k hk).1,Qa8 (I.hc u k hk).2 hcs⟩
 ·intro u
  by_cases e:u=v
  ·subst e;rw [Qag];exact Qib (I.so u) hle hl
  ·rw [Qaf _ _ e];exact I.so u
 ·intro u a1 a2 a3
  rw [is] at a3
  rw [cost]
  exact I.zc u a1 a2 a3
 ·intro u a b j e he hj t t1 t2 t3
  have hu:u≠v:=fun k=>by have:=hj k;omega
  rw [cost] at t3 ⊢
  rw [is,cost]
  exact I.cl u a ((sts u hu).1 b) j e he (fun k=>by subst k;have:=(List.getElem?_eq_some_iff.1 he).1;omega) t t1 t2 t3
 ·intro u a1 a2 a3
  rw [is] at a3
  obtain⟨y,b1,b2,e,b3,b4,b5⟩:=I.tg u a1 a2 a3
  exact⟨y,b1,stm y b2,e,b3,b4,by rw [cost,cost];exact b5⟩
 ·intro u a1 a2
  rw [is] at a2
  rw [cost]
  exact I.wk u a1 a2
 ·intro u a1 a2
  rw [cost]
  by_cases e:u=v
  ·subst e;exact hbv
  ·have:=I.bs u a1 ((sts u e).1 a2)
   omega
 ·intro y hy
  have:=I.bl y (sub y hy)
  omega
theorem Inv.start (g:List TN) {M:Int} (hM:0≤M) (root:Nat) (hr:root<g.length) (R:Nat→RV) (Z:Nat→Sp) (h1:R root=⟨true,0,[]⟩) (h2:∀v,v≠root→R v=RV0):Inv g M root root 0 Sp0 [] R Z:=by
 have hz:∀v,(R v).hops=[]∧(R v).cost=0:=by
  intro v
  by_cases e:v=root
  ·subst e;rw [h1];exact⟨rfl,rfl⟩
  ·rw [h2 v e];exact⟨rfl,rfl⟩
 have hi:∀v,(R v).is=true→v=root:=by
  intro v h
  by_cases e:v=root
  ·exact e
  ·rw [h2 v e] at h;cases h
 have hst:∀v,St root R v→v=root:=fun v h=>h.elim id (fun h=>(h (hz v).1).elim)
 have hc:1≤cnt g root R:=by
  unfold cnt
  have:=Qge (n:=g.length) (f:=fun _=>0) (f':=fun v=>if v=root then 1 else 0) (v:=root) (d:=1) hr (by simp) (fun u hu=>by simp [hu])
  have h0:sumN g.length (stN root R)=sumN g.length (fun v=>if v=root then 1 else 0):=Qb8 (fun v _=>by unfold stN;rw [(hz v).1];simp)
  omega
 have hMc:M≤M*(cnt g root R:Int):=by
  have:=Int.mul_le_mul_of_nonneg_left (show (1:Int)≤(cnt g root R:Int) by omega) hM
  rw [Int.mul_one] at this
  exact this
 refine⟨h1,by simp,by simp,fun v=>(by rw [(hz v).2];omega),fun v _ h3 h4=>(h3 (hi v h4)).elim,fun v h=>(h (hz v).1).elim,fun v h hh=>(by rw [(hz v).1] at hh;cases hh),fun v=>(by rw [(hz v).1];exact List.Pairwise.nil),fun v _ h3 h4=>(h3 (hi v h4)).elim,fun v a b j e he hj=>?_,fun v _ h3 h4=>(h3 (hi v h4)).elim,fun v h3 h4=>?_,fun v _ _=>(by rw [(hz v).2];omega),by simp⟩
 ·have:=hj (hst v b);omega
 ·have:=hi v h4
  subst this
  rw [(hz v).2]
  exact Wk.nil v hr
def allH (g:List TN) (root:Nat):List HK:=(gn g root).edges.flatMap (fun e=>(0::g.map (·.id)).flatMap (fun i=>[⟨e.data,i,false⟩,⟨e.data,i,true⟩]))
theorem Qhj {α β:Type} (l:List α) (f:α→List β) (k:Nat) (h:∀x∈l,(f x).length=k):(l.flatMap f).length=l.length*k:=by
 induction l with
 | nil=>simp
 | cons a l ih=>rw [List.flatMap_cons,List.length_append,ih (fun x hx=>h x (by simp [hx])),h a (by simp)];simp [Nat.add_mul];omega
theorem Qit (g:List TN) (root:Nat):(allH g root).length=(gn g root).edges.length*((g.length+1)*2):=by
 unfold allH
 rw [Qhj _ _ ((g.length+1)*2) (fun e _=>by rw [Qhj _ _ 2 (fun _ _=>rfl)];simp)]
theorem HopW.mem {g:List TN} {root v:Nat} {c:Int} {h:HK} (H:HopW g root v c h):h∈allH g root:=by
 obtain⟨⟨e,h0,t,h1,h2,h3,_,h6,h7⟩,hv,hr⟩:=H
 unfold allH
 refine List.mem_flatMap.2 ⟨e,h0,List.mem_flatMap.2 ⟨h.via,?_,?_⟩⟩
 ·rcases hv with hv|⟨t,ht,hv⟩
  ·simp [hv]
  ·exact List.mem_cons_of_mem _ (List.mem_map.2 ⟨t,ht,hv.symm⟩)
 ·cases hb:h.vr with
  | false=>simp;exact Or.inl (HK.ext' h6 rfl (by rw [hb]))
  | true=>simp;exact Or.inr (HK.ext' h6 rfl (by rw [hb]))
theorem Qp9 {α:Type} [DecidableEq α] {l m:List α} (hn:l.Nodup) (h:∀x∈l,x∈m):l.length≤m.length:=by
 induction l generalizing m with
 | nil=>simp
 | cons a l ih =>
  have ha:=h a (by simp)
  have hn':=List.nodup_cons.1 hn
  have:=ih (m:=m.erase a) hn'.2 (fun x hx=>(List.mem_erase_of_ne (fun e=>hn'.1 (by rw [←e];exact hx))).2 (h x (by simp [hx])))
  rw [List.length_erase_of_mem ha] at this
  have:=List.length_pos_of_mem ha
  simp
  omega
theorem Inv.few {g:List TN} {M:Int} {E:Nat} (G:GOk g M E) {root:Nat} (hroot:root<g.length) {x i:Nat} {cur:Sp} {L:List Sp} {R:Nat→RV} {Z:Nat→Sp} (I:Inv g M root x i cur L R Z) (v:Nat):(R v).hops.length≤E*((g.length+1)*2):=by
 have h1:(R v).hops.Nodup:=(I.so v).imp (fun {a b} h=>fun e=>by subst e;exact HK.lt_irrefl _ h)
 have h2:=Qp9 h1 (m:=allH g root) (fun h hh=>(I.hc v h hh).1.mem)
 rw [Qit] at h2
 exact Nat.le_trans h2 (Nat.mul_le_mul_right _ (G.deg _ (Qbx hroot)))
theorem Inv.tot_le {g:List TN} {M:Int} {E:Nat} (G:GOk g M E) {root:Nat} (hroot:root<g.length) {x i:Nat} {cur:Sp} {L:List Sp} {R:Nat→RV} {Z:Nat→Sp} (I:Inv g M root x i cur L R Z):tot g R≤g.length*(E*((g.length+1)*2)):=Qi1 (fun v _=>I.few G hroot v)
theorem Qkr {g:List TN} {R R':Nat→RV} (h:∀v,(R' v).hops=(R v).hops):tot g R'=tot g R:=Qb8 (fun v _=>by rw [h v])
theorem Qtn {g:List TN} {R:Nat→RV} {v:Nat} (hv:v<g.length) (b:Bool) (c:Int) (h:HK):tot g (upf R v ⟨b,c,(R v).hops++[h]⟩)=tot g R+1:=Qge hv (by rw [Qag];simp) (fun u hu=>by rw [Qaf _ _ hu])
end Go.Proofs.YtddbffoiadmffaaGreat
