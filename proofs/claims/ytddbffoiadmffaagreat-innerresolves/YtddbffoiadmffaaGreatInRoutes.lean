import Derived.Test.YtddbffoiadmffaaGreatInGr
namespace Go.Proofs.YtddbffoiadmffaaGreat
set_option maxHeartbeats 8000000
open Go.RowKit Go.Shelf
set_option linter.unusedVariables false
set_option maxRecDepth 100000
def netsK (g:List NV) (R:Nat→RV) (H:Nat→Value) (k:Nat):List CW :=
 (List.range k).flatMap (fun i=>match g[i]? with
  | some nd=>if (R i).is=true then waysN nd (R i).cost (H i,(R i).hops) else []
  | none=>[])
def rtrE (area:Int) (nd:NV) (r:RV):WP:=⟨⟨0,0⟩,nd.id,nd.flags,1,area,r.cost,0,0,r.hops⟩
def rtrsK (g:List NV) (R:Nat→RV) (area z:Int) (k:Nat):List WP :=
 (List.range k).flatMap (fun i=>match g[i]? with
  | some nd=>if (R i).is=true∧nd.net=false∧(i:Int)≠z then [rtrE area nd (R i)] else []
  | none=>[])
theorem Qc2 {g:List NV} {R:Nat→RV} {H:Nat→Value} {k:Nat} {nd:NV} (h:g[k]?=some nd):netsK g R H (k+1)=netsK g R H k++(if (R k).is=true then waysN nd (R k).cost (H k,(R k).hops) else []):=by
 unfold netsK
 rw [List.range_succ,List.flatMap_append]
 simp [h]
theorem Qc4 {g:List NV} {R:Nat→RV} {area z:Int} {k:Nat} {nd:NV} (h:g[k]?=some nd):rtrsK g R area z (k+1)=rtrsK g R area z k++(if (R k).is=true∧nd.net=false∧(k:Int)≠z then [rtrE area nd (R k)] else []):=by
 unfold rtrsK
 rw [List.range_succ,List.flatMap_append]
 simp [h]
theorem Qfk {g:List NV} {R:Nat→RV} {H:Nat→Value} {S:Nat} (hS:∀nd∈g,nd.stubs.length≤S):∀k,(netsK g R H k).length≤k*(S+1)
 | 0=>by simp [netsK]
 | k+1=>by
  have ih:=Qfk (R:=R) (H:=H) hS k
  cases h:g[k]? with
  | none =>
   have:netsK g R H (k+1)=netsK g R H k:=by unfold netsK;rw [List.range_succ,List.flatMap_append];simp [h]
   rw [this,Nat.add_mul]
   omega
  | some nd =>
   rw [Qc2 h,List.length_append,Nat.add_mul]
   have h1:=hS nd (List.mem_of_getElem? h)
   have h2:(if (R k).is=true then waysN nd (R k).cost (H k,(R k).hops) else []).length≤S+1:=by
    split
    ·unfold waysN
     rw [List.length_append]
     have h3:=Qco (stubW (R k).cost (H k,(R k).hops)) (Qe9 _ _) nd.stubs
     have h4:(netW nd (R k).cost (H k,(R k).hops)).length≤1:=by unfold netW;split <;> simp
     omega
    ·simp
   omega
theorem Qh0 {g:List NV} {R:Nat→RV} {area z:Int}:∀k,(rtrsK g R area z k).length≤k
 | 0=>by simp [rtrsK]
 | k+1=>by
  have ih:=Qh0 (g:=g) (R:=R) (area:=area) (z:=z) k
  cases h:g[k]? with
  | none =>
   have:rtrsK g R area z (k+1)=rtrsK g R area z k:=by unfold rtrsK;rw [List.range_succ,List.flatMap_append];simp [h]
   rw [this]
   omega
  | some nd =>
   rw [Qc4 h,List.length_append]
   split
   ·simp;omega
   ·simp;omega
theorem Qt8 {g:List NV} {R:Nat→RV} {H:Nat→Value} {k:Nat} {x:CW} (hx:x∈netsK g R H k):∃j,j<k∧x.h=(H j,(R j).hops):=by
 obtain⟨i,hi,hx⟩:=List.mem_flatMap.1 hx
 refine⟨i,List.mem_range.1 hi,?_⟩
 split at hx
 ·split at hx
  ·rename_i nd _ _
   unfold waysN at hx
   rcases List.mem_append.1 hx with hx|hx
   ·unfold netW at hx
    split at hx
    ·obtain rfl:=List.mem_singleton.1 hx;rfl
    ·cases hx
   ·obtain⟨s,-,hx⟩:=List.mem_flatMap.1 hx
    unfold stubW at hx
    split at hx
    ·obtain rfl:=List.mem_singleton.1 hx;rfl
    ·cases hx
  ·cases hx
 ·cases hx
theorem Qip (G:List NV) (b:Bool) (i:Int):findI G b i = -1∨∃(k:Nat) (n:NV),findI G b i=(k:Int)∧G[k]?=some n∧n.net=b∧n.id=i:=by
 induction G with
 | nil=>exact Or.inl rfl
 | cons x r ih =>
  unfold findI
  by_cases h:(x.net==b&&x.id==i)=true
  ·rw [if_pos h]
   simp only [Bool.and_eq_true,beq_iff_eq] at h
   exact Or.inr ⟨0,x,rfl,rfl,h.1,h.2⟩
  ·rw [if_neg h]
   rcases ih with ih|⟨k,n,h1,h2,h3⟩
   ·rw [ih]
    exact Or.inl rfl
   ·rw [h1,if_neg (by omega)]
    exact Or.inr ⟨k+1,n,by omega,h2,h3⟩
theorem Qrm (w:World) (a:Option Addr) (n c:Nat):Calls Tryz.prog 28 #[.slice a n c,.int .i64 (-1)] w fun e w'=>e=.returned (.slice none 0 0)∧w=w':=by
 go_enter Tryz.func28,Tryz.ntmps28
 go_wp2_with fail
 go_ret
 exact⟨rfl,rfl⟩
theorem Quy (w:World):(Instr.makeMap 64 none).run Tryz.prog w=.ok (.map (some w.heap.size)) (w.alloc (.map #[] 0)):=by
 simp [Instr.makeMap]
structure FrK (P:List SV) (root:Int) (n:Nat) (z:Int) (R:Nat→RV):Prop where
 out:(n=0∧findI (grB P) false root = -1)∨(n=P.length∧∃(k:Nat) (nd:NV),z=(k:Int)∧findI (grB P) false root=(k:Int)∧(grB P)[k]?=some nd∧nd.net=false∧nd.id=root∧∃x i s Z,Inv ((grB P).map tnOf) 65535 k x i s [] R Z∧(gn ((grB P).map tnOf) x).edges.length≤i)
structure RouP (w:World) (l:List SE) (area root:Int) (e:Ending) (w':World):Prop where
 out:∃(P:List SV) (n:Nat) (z:Int) (R:Nat→RV) (H:Nat→Value) (v1 v2:Value) (N1 N2:List WY) (Ls:List ME),e=.returned (.tuple #[v1,v2])∧IsN l P∧FrK P root n z R∧WB1 w w' v1 N1∧WB1 w w' v2 N2∧Ls.Perm (metW [] (netsK (grB P) R H n))∧(Ls.map ME.p).Pairwise PX.lt∧N1.map (·.x)=Ls.map (wayE area)∧N2.map (·.x)=rtrsK (grB P) R area z n
structure RoR (w2 w4:World) (m:Nat) (g:List NV) (R:Nat→RV) (H:Nat→Value) (area z:Int) (k:Nat) (v:Value) (NN:List WY) (w:World):Prop where
 ms:MS w2 (fun j=>(j<w4.heap.size∧j≠m)∨v.ownBlock=some j) w m (metW [] (netsK g R H k))
 own:w.ownsRow w4.heap.size 45 10 v NN.length (cellsG WY.cs NN)
 h:∀y∈NN,HO w4 y.hv y.x.hs
 x:NN.map (·.x)=rtrsK g R area z k
 t4:Touch (fun j=>¬(j<w4.heap.size∧j≠m)) w4 w
theorem RoR.keep {w2 w4:World} {m:Nat} {g:List NV} {R:Nat→RV} {H:Nat→Value} {area z:Int} {k:Nat} {v:Value} {NN:List WY} {w w':World} (h:RoR w2 w4 m g R H area z k v NN w) (t:Touch (fun _=>False) w w'):RoR w2 w4 m g R H area z k v NN w' :=
 ⟨h.ms.keep t,Qab h.own t (fun _ _ h=>h),h.h,h.x,h.t4.trans (t.mono (fun _ _ h=>h.elim))⟩
theorem RoR.same {w2 w4:World} {m:Nat} {g:List NV} {R:Nat→RV} {H:Nat→Value} {area z:Int} {k:Nat} {v:Value} {NN:List WY} {w w':World} (h:RoR w2 w4 m g R H area z k v NN w) (t:Touch (fun _=>False) w w') (e1:netsK g R H (k+1)=netsK g R H k) (e2:rtrsK g R area z (k+1)=rtrsK g R area z k):RoR w2 w4 m g R H area z (k+1) v NN w':=by
 have h':=h.keep t
 exact⟨by rw [e1];exact h'.ms,h'.own,h'.h,by rw [e2];exact h'.x,h'.t4⟩
theorem Qey {K:Nat}:∀(hs:List HL),(∀h∈hs,h.2.length≤K)→(flatH hs).length≤hs.length*K
 | [],_=>by simp [flatH]
 | h::hs,hk=>by
  have ih:=Qey hs (fun x hx=>hk x (List.mem_cons_of_mem _ hx))
  have h1:=hk h (List.mem_cons_self)
  have:flatH (h::hs)=h.2++flatH hs:=by simp [flatH]
  rw [this,List.length_append,List.length_cons,Nat.add_mul]
  omega
theorem Qo5 {w4 wr:World} {m base e k c:Nat} {v:Value} {xs:List Value} (h:w4.ownsRow base e k v c xs) (t:Touch (fun j=>¬(j<w4.heap.size∧j≠m)) w4 wr) {o:Obj} (hm:w4.heap[m]?=some o) (ho:o.isCells=false):wr.ownsRow base e k v c xs :=
 Qab h t (fun j hj hn=>hn ⟨(h.lt j hj).2,fun e=>by subst e;exact Qie h hm ho hj⟩)
theorem RoR.next {w2 w4:World} {m:Nat} {g:List NV} {R:Nat→RV} {H:Nat→Value} {area z:Int} {k:Nat} {v:Value} {NN:List WY} {w w':World} {G1:Nat→Prop} (h:RoR w2 w4 m g R H area z k v NN w) (ms:MS w2 G1 w' m (metW [] (netsK g R H (k+1)))) (hG:∀j,((j<w4.heap.size∧j≠m)∨v.ownBlock=some j)→G1 j) (t:Touch (fun j=>¬G1 j) w w') (e2:rtrsK g R area z (k+1)=rtrsK g R area z k):RoR w2 w4 m g R H area z (k+1) v NN w' :=
 ⟨ms.less hG,Qab h.own t (fun j hj hn=>hn (hG j (Or.inr hj))),h.h,by rw [e2];exact h.x,h.t4.trans (t.mono (fun j _ hn h0=>hn (hG j (Or.inl h0))))⟩
theorem RoR.app {w2 w4:World} {m:Nat} {g:List NV} {R:Nat→RV} {H:Nat→Value} {area z:Int} {k:Nat} {v v':Value} {NN:List WY} {w w9 wa w':World} {G1:Nat→Prop} (h:RoR w2 w4 m g R H area z k v NN w) (ms:MS w2 G1 w9 m (metW [] (netsK g R H (k+1)))) (hG:∀j,((j<w4.heap.size∧j≠m)∨v.ownBlock=some j)→G1 j) (t:Touch (fun j=>¬G1 j) w w9)
  (ta:Touch (fun _=>False) w9 wa) (tg:Touch (fun j=>v.ownBlock=some j) wa w') (y:WY) (own:w'.ownsRow w4.heap.size 45 10 v' (NN.length+1) (cellsG WY.cs NN++y.cs)) (hor:v'.ownBlock=v.ownBlock∨v'.ownBlock=some wa.heap.size) (hy:HO w4 y.hv y.x.hs) (h24:w2.heap.size≤w4.heap.size)
  (e2:rtrsK g R area z (k+1)=rtrsK g R area z k++[y.x]):RoR w2 w4 m g R H area z (k+1) v' (NN++[y]) w':=by
 have o9:w9.ownsRow w4.heap.size 45 10 v NN.length (cellsG WY.cs NN):=Qab h.own t (fun j hj hn=>hn (hG j (Or.inr hj)))
 have t9:Touch (fun j=>v.ownBlock=some j) w9 w':=(ta.mono (fun _ _ h=>h.elim)).trans tg
 have h49:Touch (fun j=>¬(j<w4.heap.size∧j≠m)) w4 w9:=h.t4.trans (t.mono (fun j _ hn h0=>hn (hG j (Or.inl h0))))
 refine⟨ms.grow t9 (fun j hj=>⟨hG j (Or.inr hj),by have:=(o9.lt j hj).1;omega⟩) (fun j hj=>?_) (fun j hj=>?_),?_,fun x hx=>?_,?_,?_⟩
 ·rcases hj with hj|hj
  ·exact Or.inl (hG j (Or.inl hj))
  ·rcases hor with e|e
   ·exact Or.inl (hG j (Or.inr (e ▸ hj)))
   ·rw [e] at hj
    injection hj with hj
    have:=ta.size
    exact Or.inr (by omega)
 ·rcases hj with hj|hj
  ·have:=h49.size
   have:=t9.size
   omega
  ·exact (own.lt j hj).2
 ·rw [List.length_append,Qaq]
  have e:cellsG WY.cs [y]=y.cs:=by simp [cellsG]
  rw [e]
  exact own
 ·rcases List.mem_append.1 hx with hx|hx
  ·exact h.h x hx
  ·obtain rfl:=List.mem_singleton.1 hx
   exact hy
 ·rw [List.map_append,h.x,e2]
  rfl
 ·exact h49.trans (t9.mono (fun j _ hj hn=>by have:=(o9.lt j hj).1;omega))
theorem Qnz {w w2 w4 wr:World} {m n:Nat} {P:List SV} {l:List SE} {area root z:Int} {R:Nat→RV} {H:Nat→Value} {v:Value} {NN:List WY} (hN:IsN l P) (fk:FrK P root n z R) (hr:RoR w2 w4 m (grB P) R H area z n v NN wr) (T:Touch (fun _=>False) w w4) (hm:w.heap.size≤m) {o:Obj} (hm4:w4.heap[m]?=some o) (ho:o.isCells=false)
  (hH:∀j,j<n→HO w4 (H j) (R j).hops) (hR:∀j,(R j).hops.length≤167936) (hS:∀nd∈grB P,nd.stubs.length≤2048) (hn:n≤40) :
  Calls Tryz.prog 30 #[.map (some m),.int .u32 area] wr (WaysP wr area (metW [] (netsK (grB P) R H n))) ∧
  (∀(w9:World) (v9:Value) (N1:List WY) (Ls:List ME),WB1 wr w9 v9 N1→Ls.Perm (metW [] (netsK (grB P) R H n))→(Ls.map ME.p).Pairwise PX.lt→N1.map (·.x)=Ls.map (wayE area)→RouP w l area root (.returned (.tuple #[v9,v])) w9):=by
 have TW:Touch (fun _=>False) w wr:=T.trans' hr.t4 (fun i hi h=>h ⟨by have:=T.size;omega,by omega⟩)
 have hlen:=Qfk (R:=R) (H:=H) hS n
 have hlen2:(netsK (grB P) R H n).length≤81960:=by
  have:n*(2048+1)≤40*2049:=Nat.mul_le_mul hn (Nat.le_refl _)
  omega
 have MI:=Qvl (netsK (grB P) R H n)
 have hin:∀e∈metW [] (netsK (grB P) R H n),∀h∈e.hs,∃j,j<n∧h=(H j,(R j).hops):=fun e he h hh=>by
  obtain⟨x,hx,-,-,hxh⟩:=(MI.of e he).2 h hh
  obtain⟨j,hj,e1⟩:=Qt8 hx
  exact⟨j,hj,by rw [←hxh,e1]⟩
 refine⟨Qqo w2 wr _ m _ area hr.ms (fun e he h hh=>?_) ?_ (fun e he=>?_),fun w9 v9 N1 Ls hwb hpe hpl hmp=>?_⟩
 ·obtain⟨j,hj,rfl⟩:=hin e he h hh
  exact Qbd (Qo5 (hH j hj) hr.t4 hm4 ho)
 ·have:∀(r:List CW) (L:List ME),(metW L r).length≤L.length+r.length:=by
   intro r
   induction r with
   | nil=>intro L;simp [metW]
   | cons x r ih =>
    intro L
    have h1:=ih (putM L x.p x.cost x.h)
    have h2:=Qry L x.p x.cost x.h
    show (metW (putM L x.p x.cost x.h) r).length≤_
    rw [List.length_cons]
    omega
  have:=this (netsK (grB P) R H n) []
  simp at this
  omega
 ·have h1:=Qcr (L:=[]) (B:=0) (by simp) (netsK (grB P) R H n) e he
  have h2:=Qey (K:=167936) e.hs (fun h hh=>by obtain⟨j,-,rfl⟩:=hin e he h hh;exact hR j)
  have h3:e.hs.length*167936≤81960*167936:=Nat.mul_le_mul (by omega) (Nat.le_refl _)
  exact⟨by omega,by omega⟩
 ·refine⟨P,n,z,R,H,v9,v,N1,NN,Ls,rfl,hN,fk,⟨hwb.b.back TW,hwb.h⟩,⟨⟨?_,TW.trans hwb.b.t⟩,fun y hy=>Qab (Qo5 (hr.h y hy) hr.t4 hm4 ho) hwb.b.t (fun _ _ h=>h)⟩,hpe,hpl,hmp,hr.x⟩
  exact Qab (Qam hr.own T.size) hwb.b.t (fun _ _ h=>h)
theorem Qin (v:Value) (l:List SE) (area root:Int) (w:World) (hv:StatesAt w v l) (hl:l.length≤40) (hb:∀x∈l,x.rs.length≤8192∧RdOk x.h.typ) :
  Calls Tryz.prog 11 #[v,.int .u32 area,.int .u32 root] w (RouP w l area root):=by
 have HB:=Ql6 v l w hv (by omega) (fun x hx=>⟨by have:=(hb x hx).1;omega,(hb x hx).2⟩)
 have HSE:Hid (∀s∈l,s.h.All∧(∀z∈s.rs,0≤z∧z<256)∧s.rs.length≤8192):=fun s hs=>⟨(hv.ok s hs).all,(hv.ok s hs).byte,(hb s hs).1⟩
 have HPL:Hid (∀(P:List SV) (D:List ND),IsN l P→D.map ND.n=grB P→D.length≤40∧D.length=P.length):=fun P D h hd=>by
  have h1:=h.perm.length_eq
  rw [List.length_map] at h1
  have h2:=Qe8 l
  have h3:=congrArg List.length hd
  rw [List.length_map] at h3
  have h4:(grB P).length=P.length:=by unfold grB;simp
  omega
 obtain⟨va,vc,rfl,-⟩:=hv.vals.form
 clear hv hb hl
 generalize hln:l.length=ln at HB ⊢
 clear hln
 have hmk:=Quy
 go_enter Tryz.func11,Tryz.ntmps11
 go_upto_region 4 with (first
  | (go_at_call 26;refine HB.mono ?_;rintro e1 w1 ⟨P,u,rfl,hN,hG⟩;have HNP:Hid (IsN l P):=hN;obtain⟨⟨D,hD,hDn,hDk⟩,t1,hz⟩:=hG;obtain⟨g,n0,rfl⟩:=hz;have HT1:Hid (Touch (fun _=>False) w w1):=t1;have HV1:Hid (ValsAt w1 7 (.slice (some ⟨g,0,none⟩) n0 n0) D.length (nodeC D)):=hD;have HK1:Hid (∀d∈D,d.Ok 0 w1):=hDk;have HDN0:Hid (D.map ND.n=grB P):=hDn;clear hN hD hDk hDn t1 HB)
  | (go_at_call 27;refine (Qrn _ D false root w1 HV1.out HK1.out (by have:=HPL.out _ _ HNP.out HDN0.out;omega)).mono ?_;rintro e2 w2 ⟨rfl,t2⟩;have HT2:Hid (Touch (fun _=>False) w1 w2):=t2;clear t2;generalize hfx:findI (D.map ND.n) false root=fx at *;have HFX:Hid (findI (D.map ND.n) false root=fx):=hfx;clear hfx))
 obtain⟨hnl,hDP⟩:=HPL.out _ _ HNP.out HDN0.out
 obtain⟨a0,c0,e0,-⟩:=HV1.out.form
 injection e0 with e1 e2 e3
 have hn0:D.length=n0:=e2.symm
 clear e1 e3 e2 HPL
 have HSK:=Qtg HNP.out (B:=8192) (by omega) HSE.out
 have HOKP:Hid (∀d∈D,d.n.OkP):=fun d hd=>by
  have:d.n∈grB P:=by rw [←HDN0.out];exact List.mem_map.2 ⟨d,hd,rfl⟩
  obtain⟨i,x,hx,e⟩:=Qio this
  rw [e]
  exact Qvu (HSK x (List.mem_of_getElem? hx))
 have HSB:Hid (∀nd∈grB P,nd.stubs.length≤2048):=fun nd h=>by
  obtain⟨i,x,hx,rfl⟩:=Qio h
  have h1:=(HSK x (List.mem_of_getElem? hx)).deg
  have h2:=Qco stubL (fun k=>by unfold stubL;split <;> simp) x.b.links
  show (x.b.links.flatMap stubL).length≤2048
  omega
 have HGK:=Qu7 HNP.out HSK
 have HTM:Touch (fun _=>False) w2 (w2.alloc (.map #[] 0)):=(Touch.refl _ _).alloc _
 have HW3:Hid (Touch (fun _=>False) w1 (w2.alloc (.map #[] 0))):=HT2.out.trans HTM
 have hmap:(w2.alloc (.map #[] 0)).heap[w2.heap.size]?=some (.map #[] 0):=by show (w2.heap.push _)[w2.heap.size]?=_;simp
 have HSZ:Hid (w.heap.size≤w2.heap.size):=(HT1.out.trans HT2.out).size
 rcases Qip (grB P) false root with hf|⟨k0,nd0,hf,hk0,hk1,hk2⟩
 ·rw [HDN0.out,hf] at HFX
  have hfx:fx = -1:=HFX.out.symm
  subst hfx
  obtain⟨R,hRe⟩:∃R:Nat→RV,R=fun _=>RV0:=⟨_,rfl⟩
  obtain⟨H,hHe⟩:∃H:Nat→Value,H=fun _=>.slice none 0 0:=⟨_,rfl⟩
  obtain⟨z,hze⟩:∃z:Int,z = -1:=⟨_,rfl⟩
  have hFR:FrK P root 0 z R:=⟨Or.inl ⟨rfl,hf⟩⟩
  have HF0:=Qrm (w2.alloc (.map #[] 0)) (some ⟨g,0,none⟩) n0 n0
  obtain⟨n,hnz⟩:∃n:Nat,n=0:=⟨_,rfl⟩
  have HN0:Hid (n=0):=hnz
  have hz:(Value.slice none 0 0)=.slice none n 0:=by rw [hnz]
  rw [hz] at HF0
  have HR0:Hid (RoR w2 (w2.alloc (.map #[] 0)) w2.heap.size (grB P) R H area z 0 (.slice none 0 0) [] (w2.alloc (.map #[] 0))):=by
   refine⟨MS.made2 (Touch.refl _ _) (fun h=>?_) (fun k hk=>?_),World.ownsRow_nil _ _ _ _,by simp,rfl,Touch.refl _ _⟩
   ·rcases h with h|h
    ·exact h.2 rfl
    ·cases h
   ·rcases hk with h|h
    ·exact h.1
    ·cases h
  have HFIN:Hid (∀(wr:World) (v:Value) (NN:List WY),RoR w2 (w2.alloc (.map #[] 0)) w2.heap.size (grB P) R H area z n v NN wr→Calls Tryz.prog 30 #[.map (some w2.heap.size),.int .u32 area] wr (WaysP wr area (metW [] (netsK (grB P) R H n)))∧(∀(w9:World) (v9:Value) (N1:List WY) (Ls:List ME),WB1 wr w9 v9 N1→Ls.Perm (metW [] (netsK (grB P) R H n))→(Ls.map ME.p).Pairwise PX.lt→N1.map (·.x)=Ls.map (wayE area)→RouP w l area root (.returned (.tuple #[v9,v])) w9)):=fun wr v NN hr =>
   Qnz (w:=w) (n:=n) (o:=.map #[] 0) HNP.out (by rw [hnz];exact hFR) hr (HT1.out.trans HW3.out) HSZ.out hmap rfl (fun j hj=>by omega) (fun j=>by rw [hRe];simp [RV0]) HSB.out (by omega)
  clear hFR hz hnz hf HGK HTM hmap HSK hRe hHe hze
  generalize w2.alloc (.map #[] 0)=w4 at *
  generalize w2.heap.size=m at *
  go_wp2_with (first|(go_at_call 28;refine HF0.mono ?_;rintro e4 w5 ⟨rfl,rfl⟩))
  go_loopw [7,23] (fun s i wr=>∃(k:Nat) (aa:Option Addr) (ac:Nat) (NN:List WY),k≤n∧s=.slice aa NN.length ac∧i=.int .i64 k∧RoR w2 w4 m (grB P) R H area z k (.slice aa NN.length ac) NN wr) (fun _ i _=>n-(intOf i).toNat)
  case atStart=>exact⟨0,none,0,[],Nat.zero_le _,rfl,rfl,HR0.out⟩
  case round =>
   as_aux_lemma =>
   obtain⟨k,aa,ac,NN,hk',rfl,rfl,hr⟩:=hrel
   by_cases hlt:k<n
   ·exact absurd hlt (by have:=HN0.out;omega)
   ·have hlt':¬(k:Int)<(n:Int):=by omega
    obtain rfl:k=n:=by omega
    have HFN:=HFIN.out wr _ NN hr
    clear hr HR0
    generalize NN.length=NL at *
    go_wp2_with (first|(go_at_call 30;refine HFN.1.mono ?_;rintro e9 w9 ⟨v9,N1,Ls,rfl,hwb,hpe,hpl,hmp⟩;have HX:=HFN.2 w9 v9 N1 Ls hwb hpe hpl hmp;clear hwb))
    exact bodyPost_ret (v:=.tuple #[v9,.slice aa NL ac]) (by simp [results,Tryz.results11,go_sem]) rfl HX
 ·rw [HDN0.out,hf] at HFX
  have hfx:fx=(k0:Int):=HFX.out.symm
  subst hfx
  clear HFX
  have GA:=Qui (HV1.out.keep HW3.out) (fun d hd=>(HK1.out d hd).touch HW3.out (fun _ _ h=>h)) ⟨g,n0,rfl⟩
  have hns:(D.map nmOf).map (·.t)=(grB P).map tnOf:=Qwy HDN0.out
  have hgl:(grB P).length=D.length:=by rw [←HDN0.out,List.length_map]
  have hkl:k0<D.length:=by have:=(List.getElem?_eq_some_iff.1 hk0).1;omega
  have hbig:2048*((D.map nmOf).length*(2048*(((D.map nmOf).length+1)*2))+1)+1≤1099511627776:=by
   rw [List.length_map]
   have h1:D.length*(2048*((D.length+1)*2))≤40*(2048*82):=Nat.mul_le_mul hnl (by omega)
   omega
  have HF0:=Qpz _ _ (D.map nmOf) GA k0 (by rw [List.length_map];exact hkl) 65535 2048 (by rw [hns];exact HGK) (by rw [List.length_map];omega) hbig
  have HF:Calls Tryz.prog 28 #[.slice (some ⟨g,0,none⟩) n0 n0,.int .i64 (k0:Int)] (w2.alloc (.map #[] 0)) fun e w4=>∃(rb:Nat) (R:Nat→RV) (H:Nat→Value),e=.returned (.slice (some ⟨rb,0,none⟩) n0 n0)∧Touch (fun _=>False) (w2.alloc (.map #[] 0)) w4∧RR (w2.alloc (.map #[] 0)).heap.size w4 (.slice (some ⟨rb,0,none⟩) n0 n0) (tab n0 (fun j=>(R j,H j)))∧(∀j,j<n0→HO w4 (H j) (R j).hops)∧FrK P root n0 (k0:Int) R∧(∀j,0≤(R j).cost∧(R j).cost≤4294967295)∧∀j,(R j).hops.length≤167936:=by
   refine Calls.mono HF0 ?_
   rintro e w4 ⟨⟨rb,R,H,Z,x,i,s,rfl,h1,h2,h3,h4⟩,t⟩
   rw [List.length_map,hn0] at h1 h2
   rw [List.length_map,hn0]
   rw [hns] at h3 h4
   refine⟨rb,R,H,rfl,t,h1,fun j hj=>Qam (h2 j hj) (Nat.zero_le _),⟨Or.inr ⟨by omega,k0,nd0,rfl,hf,hk0,hk1,hk2,x,i,s,Z,h3,h4⟩⟩,h3.rc,fun j=>?_⟩
   have h5:=h3.few HGK (by rw [List.length_map];omega) j
   rw [List.length_map] at h5
   have h6:8192/4*(((grB P).length+1)*2)≤2048*82:=Nat.mul_le_mul (by omega) (by omega)
   omega
  clear HF0 GA hns hbig HGK hf hk1 hk2 hk0
  go_wp2_with (first|(go_at_call 28;refine HF.mono ?_;rintro e4 w4 ⟨rb,R,H,rfl,t4,hrr,hho,hfk,hcost,hhops⟩;have HX4:Hid (Touch (fun _=>False) (w2.alloc (.map #[] 0)) w4∧RR (w2.alloc (.map #[] 0)).heap.size w4 (.slice (some ⟨rb,0,none⟩) n0 n0) (tab n0 (fun j=>(R j,H j)))∧(∀j,j<n0→HO w4 (H j) (R j).hops)∧FrK P root n0 (k0:Int) R∧(∀j,0≤(R j).cost∧(R j).cost≤4294967295)∧∀j,(R j).hops.length≤167936):=⟨t4,hrr,hho,hfk,hcost,hhops⟩;clear t4 hrr hho hfk hcost hhops HF))
  obtain⟨t4,hrr,hho,hfk,hcost,hhops⟩:=HX4.out
  have hm4:=t4.heapN hmap
  have hg2:g<w2.heap.size:=by
   obtain⟨g',off,c',e,-,-,hc⟩:=HV1.out.cells (by omega) (by omega)
   injection e with e1
   injection e1 with e1
   injection e1 with e1
   subst e1
   have hne:0<(nodeC D).length:=by rw [Qbl];omega
   have:=Qaa (hc 0 (nodeC D)[0] (by simp))
   have:=HT2.out.size
   omega
  have T14:Touch (fun _=>False) w1 w4:=HW3.out.trans t4
  have s24:w2.heap.size<w4.heap.size:=by
   have h1:=t4.size
   have h2:(w2.alloc (.map #[] 0)).heap.size=w2.heap.size+1:=by simp
   omega
  have HGB:Hid (g<w4.heap.size∧g≠w2.heap.size):=⟨by omega,by omega⟩
  have H24:Hid (w2.heap.size≤w4.heap.size):=Nat.le_of_lt s24
  have HNR:Hid (∀(k:Nat) (d:ND),D[k]?=some d→∀w',Touch (fun k=>¬(k<w4.heap.size∧k≠w2.heap.size)) w4 w'→w'.rangeAt g (k*7) [.bool d.n.net,.int .u32 d.n.id,.int .u32 d.n.addr,.int .u8 d.n.bits,.int .u8 d.n.flags,d.ve,d.vs]):=fun k d hd w' t j u hj=>by
   have hj7:j<7:=by have:=(List.getElem?_eq_some_iff.1 hj).1;simpa using this
   rcases HV1.out.2 with⟨h1,-⟩|⟨ad,c',e,-,-,hc⟩
   ·cases h1
   ·injection e with e1 e2 e3
    injection e1 with e1
    subst e1
    have h5:=hc (k*7+j) u (by rw [Qc1 D k j d hd hj7];exact hj)
    rw [Qae,Nat.zero_add] at h5
    exact (t.cell (p:=⟨g,k*7+j,none⟩) HGB.out.1 (fun h=>h ⟨HGB.out.1,HGB.out.2⟩)).trans (T14.cellN h5)
  have HNO:Hid (∀d∈D,d.Ok 0 w2∧d.n.OkP):=fun d hd=>⟨(HK1.out d hd).touch HT2.out (fun _ _ h=>h),HOKP.out d hd⟩
  have HRR:Hid (∀k,k<n0→∀wr,Touch (fun j=>¬(j<w4.heap.size∧j≠w2.heap.size)) w4 wr→wr.cell? ⟨rb,k*3,none⟩=some (.bool (R k).is)∧wr.cell? ⟨rb,k*3+1,none⟩=some (.int .u32 (R k).cost)∧wr.cell? ⟨rb,k*3+2,none⟩=some (H k)):=fun k hk wr t=>by
   have hb:(w2.alloc (.map #[] 0)).heap.size≤rb∧rb<w4.heap.size:=⟨RG.ge hrr rfl,RG.lt hrr rfl⟩
   have hb1:(w2.alloc (.map #[] 0)).heap.size=w2.heap.size+1:=by simp
   have key:∀i u,(rcs (R k,H k))[i]?=some u→wr.cell? ⟨rb,k*3+i,none⟩=some u:=fun i u hu =>
    (t.cell (p:=⟨rb,k*3+i,none⟩) hb.2 (fun h=>h ⟨hb.2,by show rb≠_;omega⟩)).trans (RG.cell Qbt hrr (Qbe _ hk) hu)
   exact⟨key 0 _ rfl,key 1 _ rfl,key 2 _ rfl⟩
  have HHO:Hid (∀j,j<n0→HO w4 (H j) (R j).hops):=hho
  have HCB:Hid (∀j,0≤(R j).cost∧(R j).cost≤4294967295):=hcost
  have HN:Hid (n0≤40∧D.length=n0):=⟨by omega,hn0⟩
  have HDN:Hid (D.map ND.n=grB P∧True):=⟨HDN0.out,trivial⟩
  obtain⟨z,hz⟩:∃z:Int,z=(k0:Int):=⟨_,rfl⟩
  have HZZ:Hid (z=(k0:Int)):=hz
  have HR0:Hid (RoR w2 w4 w2.heap.size (grB P) R H area z 0 (.slice none 0 0) [] w4):=by
   refine⟨MS.made2 t4 (fun h=>?_) (fun k hk=>?_),World.ownsRow_nil _ _ _ _,by simp,rfl,Touch.refl _ _⟩
   ·rcases h with h|h
    ·exact h.2 rfl
    ·cases h
   ·rcases hk with h|h
    ·exact h.1
    ·cases h
  have HFIN:Hid (∀(wr:World) (v:Value) (NN:List WY),RoR w2 w4 w2.heap.size (grB P) R H area z n0 v NN wr→Calls Tryz.prog 30 #[.map (some w2.heap.size),.int .u32 area] wr (WaysP wr area (metW [] (netsK (grB P) R H n0)))∧(∀(w9:World) (v9:Value) (N1:List WY) (Ls:List ME),WB1 wr w9 v9 N1→Ls.Perm (metW [] (netsK (grB P) R H n0))→(Ls.map ME.p).Pairwise PX.lt→N1.map (·.x)=Ls.map (wayE area)→RouP w l area root (.returned (.tuple #[v9,v])) w9)):=fun wr v NN hr =>
   Qnz (w:=w) (n:=n0) (o:=.map #[] 0) HNP.out (by rw [hz];exact hfk) hr (HT1.out.trans T14) HSZ.out hm4 rfl hho hhops HSB.out (by omega)
  clear t4 hrr hho hfk hcost hhops HX4 hm4 hg2 T14 s24 hz HOKP HSK HTM hmap HV1 HK1 HW3 hnl hDP hgl hkl hn0 HDN0 HT1 HT2 HSZ HNP HSE
  generalize hm2:w2.heap.size=m at *
  have HM2:Hid (w2.heap.size=m):=hm2
  clear hm2
  generalize n0=n at *
  generalize hk11:k0=k1 at *
  clear hk11
  go_loopw [7,23] (fun s i wr=>∃(k:Nat) (aa:Option Addr) (ac:Nat) (NN:List WY),k≤n∧s=.slice aa NN.length ac∧i=.int .i64 k∧RoR w2 w4 m (grB P) R H area z k (.slice aa NN.length ac) NN wr) (fun _ i _=>n-(intOf i).toNat)
  case atStart=>exact⟨0,none,0,[],Nat.zero_le _,rfl,rfl,HR0.out⟩
  case round =>
   as_aux_lemma =>
   obtain⟨k,aa,ac,NN,hk',rfl,rfl,hr⟩:=hrel
   by_cases hlt:k<n
   ·obtain⟨d,hd⟩:∃d,D[k]?=some d:=⟨D[k]'(by have:=HN.out;omega),by simp⟩
    have hnd:(grB P)[k]?=some d.n:=by rw [←HDN.out.1,List.getElem?_map,hd];rfl
    have HST:Hid (netsK (grB P) R H (k+1)=netsK (grB P) R H k++(if (R k).is=true then waysN d.n (R k).cost (H k,(R k).hops) else [])):=Qc2 hnd
    have HRT:Hid (rtrsK (grB P) R area z (k+1)=rtrsK (grB P) R area z k++(if (R k).is=true∧d.n.net=false∧(k:Int)≠z then [rtrE area d.n (R k)] else [])):=Qc4 hnd
    obtain⟨x0,x1,x2⟩:=HRR.out k hlt wr hr.t4
    have hho:=HHO.out k hlt
    have hlt':(k:Int)<(n:Int):=by omega
    have hk00:(0:Int)≤(k:Int):=by omega
    have hkw:wrap64 ((k:Int)+1)=(k:Int)+1:=by have:=HN.out;unfold wrap64;omega
    have lx:=Qaa x0
    obtain⟨ha,hc,ehk⟩:=Qah hho
    have hcb:=HCB.out k
    have HKH:Hid (HO w4 (H k) (R k).hops):=hho
    have HRk:Hid (RoR w2 w4 m (grB P) R H area z k (.slice aa NN.length ac) NN wr):=hr
    have hr0:=hr
    generalize hRk:R k=rk at *
    obtain⟨is,rc,hops⟩:=rk
    simp only at x0 x1 x2 ehk hcb
    rw [ehk] at x2
    have HRK:Hid (R k=⟨is,rc,hops⟩):=hRk
    have HHK:Hid (H k=.slice ha hops.length hc):=ehk
    clear hRk ehk hr hho hnd
    have HLB:Hid (NN.length≤1000000):=by
     have h1:=congrArg List.length hr0.x
     rw [List.length_map] at h1
     have h2:=Qh0 (g:=grB P) (R:=R) (area:=area) (z:=z) k
     have h3:=HN.out
     show _≤_
     omega
    clear hr0
    generalize hhl:hops.length=hl at *
    have HHL:Hid (hops.length=hl):=hhl
    clear hhl
    generalize hNL:NN.length=NL at *
    have HNL:Hid (NN.length=NL):=hNL
    clear hNL
    cases is with
    | false =>
     have HNX:Hid (RoR w2 w4 m (grB P) R H area z (k+1) (.slice aa NL ac) NN (wr.alloc (.cells #[.bool false,.int .u32 rc,.slice ha hl hc] 68))):=by
      have e1:netsK (grB P) R H (k+1)=netsK (grB P) R H k:=by rw [HST.out,if_neg (by simp),List.append_nil]
      have e2:rtrsK (grB P) R area z (k+1)=rtrsK (grB P) R area z k:=by rw [HRT.out,if_neg (by simp),List.append_nil]
      exact HRk.out.same ((Touch.refl _ _).alloc _) e1 e2
     clear HST HRT HKH HRk
     go_wp2_with fail
     go_roundw
     case rel=>exact⟨k+1,aa,ac,NN,by omega,by rw [HNL.out],by go_num,by rw [HNL.out];exact HNX.out⟩
     case measure=>exact Qa5 hlt hkw
    | true =>
     have HST1:Hid (netsK (grB P) R H (k+1)=netsK (grB P) R H k++waysN d.n rc (.slice ha hl hc,hops)):=by show _=_;rw [HST.out,if_pos rfl,HHK.out]
     have HDK:=HNO.out d (List.mem_of_getElem? hd)
     obtain⟨ea,ec,ede⟩:=Qah HDK.1.e
     obtain⟨sa,sc,eds⟩:=Qah HDK.1.s
     have HNG:Hid (∀w',Touch (fun k=>¬(k<w4.heap.size∧k≠m)) w4 w'→w'.rangeAt g (k*7) [.bool d.n.net,.int .u32 d.n.id,.int .u32 d.n.addr,.int .u8 d.n.bits,.int .u8 d.n.flags,d.ve,d.vs]):=fun w' t=>HNR.out k d hd w' t
     have HL1:Hid (∀e∈metW [] (netsK (grB P) R H k),e.hs.length≤(netsK (grB P) R H k).length):=fun e he=>by have:=Qcr (L:=[]) (B:=0) (by simp) (netsK (grB P) R H k) e he;omega
     have HL2:Hid ((netsK (grB P) R H k).length+1+d.n.stubs.length≤1000000):=by
      have h1:=Qfk (R:=R) (H:=H) HSB.out k
      have h2:=HSB.out d.n (List.mem_of_getElem? (by rw [←HDN.out.1,List.getElem?_map,hd];rfl:(grB P)[k]?=some d.n))
      have h3:=HN.out
      have h4:k*(2048+1)≤40*2049:=Nat.mul_le_mul (by omega) (Nat.le_refl _)
      show _≤_
      omega
     obtain⟨w8,hw8⟩:∃u,u=wr.alloc (.cells #[.bool true,.int .u32 rc,.slice ha hl hc] 68):=⟨_,rfl⟩
     have T8:Touch (fun _=>False) wr w8:=by rw [hw8];exact (Touch.refl _ wr).alloc _
     have R12:Row w8 wr.heap.size 68 [.bool true,.int .u32 rc,.slice ha hl hc]:=by rw [hw8];exact Qac wr _ _
     have RK8:=HRk.out.keep T8
     obtain⟨G1,hG1⟩:∃G1:Nat→Prop,G1=fun j=>((j<w4.heap.size∧j≠m)∨(Value.slice aa NL ac).ownBlock=some j)∨j=wr.heap.size:=⟨_,rfl⟩
     have MS8:MS w2 G1 w8.drew m (metW [] (netsK (grB P) R H k)):=by
      have t8:Touch (fun _=>False) wr w8.drew:=T8.drew
      have h0:=HRk.out.ms
      refine h0.more t8 (fun j hj=>?_) (fun j hj=>?_)
      ·rw [hG1] at hj
       rcases hj with hj|hj
       ·exact Or.inl hj
       ·exact Or.inr (by omega)
      ·rw [hG1] at hj
       obtain⟨Q,-,GM⟩:=h0.out
       rcases hj with hj|hj
       ·exact Nat.lt_of_lt_of_le (GM.gl j hj) t8.size
       ·rw [hj];exact R12.lt
     have HREA:=Qmv w2 w8.drew G1 m _ MS8 d true rc (.slice ha hl hc) hops hcb ⟨ha,hc,by rw [HHL.out]⟩ HDK.1 HDK.2 _ HL1.out HL2.out
     rw [ede,eds] at HREA
     have HNG8:=HNG.out w8.drew (HRk.out.t4.trans ((T8.drew).mono (fun _ _ h=>h.elim)))
     have HG1:Hid (G1=fun j=>((j<w4.heap.size∧j≠m)∨(Value.slice aa NL ac).ownBlock=some j)∨j=wr.heap.size):=hG1
     have HHW:Hid (Touch (fun k=>¬(k<w4.heap.size∧k≠m)) w4 w8.drew):=HRk.out.t4.trans ((T8.drew).mono (fun _ _ h=>h.elim))
     have HNC:Hid (d.ve=.slice ea d.n.edges.length ec∧d.vs=.slice sa d.n.stubs.length sc):=⟨ede,eds⟩
     rw [ede,eds] at HNG8
     have HW8:Hid (w8.drew.heap.size=w8.heap.size∧wr.heap.size<w8.heap.size):=⟨rfl,R12.lt⟩
     obtain⟨⟨nn,ni,na,nb,nf,es,SS⟩,ve,vs⟩:=d
     simp only at HREA HNG8 HNC HST1 HRT
     generalize hen:es.length=en at *
     generalize hsn:SS.length=sn at *
     have HGA:Hid (g<w4.heap.size∧g≠m):=HGB.out
     clear hen hsn ede eds hG1 HDK HL1 HL2 RK8 hd HST
     go_upto_region 8 with fail
     rw [←hw8]
     clear hw8 x0 x1 x2 lx
     generalize hb12:wr.heap.size=b12 at *
     clear hb12
     refine wp_region_held_drew (S:=fun w'=>w'.rangeAt g (k*7) [.bool nn,.int .u32 ni,.int .u32 na,.int .u8 nb,.int .u8 nf,.slice ea en ec,.slice sa sn sc]∧Row w' b12 68 [.bool true,.int .u32 rc,.slice ha hl hc]) (by kernel_rfl) ⟨HNG8,R12.keep ((Touch.refl _ _).drew)⟩ (fun hHeld=>?_)
     refine wpAnyH_take (i:=0) (oi:=⟨some 31,_,_,_,_,_⟩) (v:=.map (some m)) rfl (by kernel_rfl) (by kernel_rfl) (by kernel_rfl) (fun _ _ _ h=>h) (Or.inl ⟨by rfl,fun w hw=>by go_simp⟩) (by assumption) ?_
     simp only [Act.put,Qw2,Qw3,Qw4]
     refine wpAnyH_take (i:=1) (oi:=⟨some 32,_,_,_,_,_⟩) (v:=.slice (some ⟨g,0,none⟩) n n) rfl (by kernel_rfl) (by kernel_rfl) (by kernel_rfl) (fun _ _ _ h=>h) (Or.inl ⟨by rfl,fun w hw=>by go_simp⟩) (by assumption) ?_
     simp only [Act.put,Qw2,Qw3,Qw4]
     refine wpAnyH_take (i:=2) (oi:=⟨some 33,_,_,_,_,_⟩) (v:=.int .i64 (k:Int)) rfl (by kernel_rfl) (by kernel_rfl) (by kernel_rfl) (fun _ _ _ h=>h) (Or.inl ⟨by rfl,fun w hw=>by go_simp⟩) (by assumption) ?_
     simp only [Act.put,Qw2,Qw3,Qw4]
     refine wpAnyH_take (i:=3) (oi:=⟨some 34,_,_,_,_,_⟩) (v:=.pointer (some ⟨g,k*7,none⟩)) rfl (by kernel_rfl) (by kernel_rfl) (by kernel_rfl) (fun _ _ _ h=>h) (Or.inl ⟨by rfl,fun w hw=>by go_simp⟩) (by assumption) ?_
     simp only [Act.put,Qw2,Qw3,Qw4]
     refine wpAnyH_take (i:=4) (oi:=⟨some 35,_,_,_,_,_⟩) (v:=.agg #[.bool nn,.int .u32 ni,.int .u32 na,.int .u8 nb,.int .u8 nf,.slice ea en ec,.slice sa sn sc]) rfl (by kernel_rfl) (by kernel_rfl) (by kernel_rfl) (fun _ _ _ h=>h) (yieldsIf_load_mid (by rfl) _ _ rfl _ _ rfl [.bool nn,.int .u32 ni,.int .u32 na,.int .u8 nb,.int .u8 nf,.slice ea en ec,.slice sa sn sc] _ (fun w h=>h.1) Tryz.underlying73 rfl (by kernel_rfl)) (by assumption) ?_
     simp only [Act.put,Qw2,Qw3,Qw4]
     refine wpAnyH_take (i:=5) (oi:=⟨some 36,_,_,_,_,_⟩) (v:=.agg #[.bool true,.int .u32 rc,.slice ha hl hc]) rfl (by kernel_rfl) (by kernel_rfl) (by kernel_rfl) (fun _ _ _ h=>h) (yieldsIf_load_mid (by rfl) _ _ rfl _ _ rfl [.bool true,.int .u32 rc,.slice ha hl hc] _ (fun w h=>Qba h.2) Tryz.underlying68 rfl (by kernel_rfl)) (by assumption) ?_
     simp only [Act.put,Qw2,Qw3,Qw4]
     refine wpAnyH_ready (rs:=[6]) (by kernel_rfl) (by simp) ?_
     refine AllReadyH.cons (o:=⟨some 37,_,_,_,_,_⟩) rfl (fun K hK=>?_) AllReadyH.nil
     go_simp
     refine Calls.mono HREA ?_
     rintro e9 w9 ⟨rfl,ms9,t9⟩
     have T49:Touch (fun k=>¬(k<w4.heap.size∧k≠m)) w4 w9:=HHW.out.trans (t9.mono (fun j _ h hG=>h (by rw [HG1.out];exact Or.inl (Or.inl hG))))
     have R129:Row w9 b12 68 [.bool true,.int .u32 rc,.slice ha hl hc]:=Qad (R12.keep ((Touch.refl _ _).drew)) t9 (fun h=>h (by rw [HG1.out];exact Or.inr rfl))
     have N9:=HNG.out w9 T49
     rw [HNC.out.1,HNC.out.2] at N9
     refine hK.out _ _ ⟨N9,R129⟩ (fun hHeld=>?_)
     clear hK K
     refine wpAnyH_done (by kernel_rfl) ?_ _
     have HMS9:Hid (MS w2 G1 w9 m (metW [] (netsK (grB P) R H (k+1)))):=by show MS _ _ _ _ _;rw [HST1.out,Qck];exact ms9
     have HT9:Hid (Touch (fun j=>¬G1 j) wr w9):=(T8.drew.mono (fun _ _ h=>h.elim)).trans t9
     have HGG:Hid (∀j,((j<w4.heap.size∧j≠m)∨(Value.slice aa NL ac).ownBlock=some j)→G1 j):=fun j hj=>by rw [HG1.out];exact Or.inl hj
     have c0:w9.cell? ⟨g,k*7,none⟩=some (.bool nn):=N9 0 _ rfl
     have c1:w9.cell? ⟨g,k*7+1,none⟩=some (.int .u32 ni):=N9 1 _ rfl
     have c4:w9.cell? ⟨g,k*7+4,none⟩=some (.int .u8 nf):=N9 4 _ rfl
     have lc:=Qaa c0
     have HRW:Hid (RoR w2 w4 m (grB P) R H area z k (.slice aa NL ac) NN wr):=HRk.out
     clear ms9 t9 T49 N9 HREA HNG8 MS8 T8 R12 HNG HRk HHW HNC HG1 HW8 HST1
     by_cases hrt:nn=false∧(k:Int)≠z
     ·obtain⟨rfl,hkz⟩:=hrt
      have HR2:Hid (rtrsK (grB P) R area z (k+1)=rtrsK (grB P) R area z k++[⟨⟨0,0⟩,ni,nf,1,area,rc,0,0,hops⟩]):=by show _=_;rw [HRT.out,if_pos ⟨trivial,rfl,hkz⟩];rfl
      have hkz1:((k:Int)==z)=false:=by simpa using hkz
      have hzz:=HZZ.out
      subst hzz
      clear HRT
      obtain⟨i0,hi,hz0,hz1,hz2⟩:=info_parts infoWay
      go_upto_region 10 with fail
      refine wp_region_held_drew (S:=fun w'=>(w'.cell? ⟨g,k*7+1,none⟩=some (.int .u32 ni)∧w'.cell? ⟨g,k*7+4,none⟩=some (.int .u8 nf))∧Row w' b12 68 [.bool true,.int .u32 rc,.slice ha hl hc]) (by kernel_rfl) ⟨⟨((Touch.refl (fun _=>False) w9).drew).cellN c1,((Touch.refl (fun _=>False) w9).drew).cellN c4⟩,R129.keep ((Touch.refl _ _).drew)⟩ (fun hHeld=>?_)
      refine wpAnyH_take (i:=0) (oi:=⟨some 49,_,_,_,_,_⟩) (v:=.slice aa NL ac) rfl (by kernel_rfl) (by kernel_rfl) (by kernel_rfl) (fun _ _ _ h=>h) (Or.inl ⟨by rfl,fun w hw=>by go_simp⟩) (by assumption) ?_
      simp only [Act.put,Qw2,Qw3,Qw4]
      refine wpAnyH_take (i:=1) (oi:=⟨some 50,_,_,_,_,_⟩) (v:=.slice (some ⟨g,0,none⟩) n n) rfl (by kernel_rfl) (by kernel_rfl) (by kernel_rfl) (fun _ _ _ h=>h) (Or.inl ⟨by rfl,fun w hw=>by go_simp⟩) (by assumption) ?_
      simp only [Act.put,Qw2,Qw3,Qw4]
      refine wpAnyH_take (i:=2) (oi:=⟨some 51,_,_,_,_,_⟩) (v:=.int .i64 (k:Int)) rfl (by kernel_rfl) (by kernel_rfl) (by kernel_rfl) (fun _ _ _ h=>h) (Or.inl ⟨by rfl,fun w hw=>by go_simp⟩) (by assumption) ?_
      simp only [Act.put,Qw2,Qw3,Qw4]
      refine wpAnyH_take (i:=3) (oi:=⟨some 52,_,_,_,_,_⟩) (v:=.pointer (some ⟨g,k*7,none⟩)) rfl (by kernel_rfl) (by kernel_rfl) (by kernel_rfl) (fun _ _ _ h=>h) (Or.inl ⟨by rfl,fun w hw=>by go_simp⟩) (by assumption) ?_
      simp only [Act.put,Qw2,Qw3,Qw4]
      refine wpAnyH_take (i:=4) (oi:=⟨some 53,_,_,_,_,_⟩) (v:=.pointer (some ⟨g,k*7+1,none⟩)) rfl (by kernel_rfl) (by kernel_rfl) (by kernel_rfl) (fun _ _ _ h=>h) (Or.inl ⟨by rfl,fun w hw=>by go_simp⟩) (by assumption) ?_
      simp only [Act.put,Qw2,Qw3,Qw4]
      refine wpAnyH_take (i:=5) (oi:=⟨some 54,_,_,_,_,_⟩) (v:=.int .u32 ni) rfl (by kernel_rfl) (by kernel_rfl) (by kernel_rfl) (fun _ _ _ h=>h) (Or.inl ⟨by rfl,fun w hw=>by have q1:=hw.1.1;have q2:=hw.1.2;have q3:w.cell? ⟨b12,1,none⟩=some (.int .u32 rc):=hw.2.cell 1;have q4:w.cell? ⟨b12,2,none⟩=some (.slice ha hl hc):=hw.2.cell 2;go_simp⟩) (by assumption) ?_
      simp only [Act.put,Qw2,Qw3,Qw4]
      refine wpAnyH_take (i:=6) (oi:=⟨some 55,_,_,_,_,_⟩) (v:=.slice (some ⟨g,0,none⟩) n n) rfl (by kernel_rfl) (by kernel_rfl) (by kernel_rfl) (fun _ _ _ h=>h) (Or.inl ⟨by rfl,fun w hw=>by go_simp⟩) (by assumption) ?_
      simp only [Act.put,Qw2,Qw3,Qw4]
      refine wpAnyH_take (i:=7) (oi:=⟨some 56,_,_,_,_,_⟩) (v:=.int .i64 (k:Int)) rfl (by kernel_rfl) (by kernel_rfl) (by kernel_rfl) (fun _ _ _ h=>h) (Or.inl ⟨by rfl,fun w hw=>by go_simp⟩) (by assumption) ?_
      simp only [Act.put,Qw2,Qw3,Qw4]
      refine wpAnyH_take (i:=8) (oi:=⟨some 57,_,_,_,_,_⟩) (v:=.pointer (some ⟨g,k*7,none⟩)) rfl (by kernel_rfl) (by kernel_rfl) (by kernel_rfl) (fun _ _ _ h=>h) (Or.inl ⟨by rfl,fun w hw=>by go_simp⟩) (by assumption) ?_
      simp only [Act.put,Qw2,Qw3,Qw4]
      refine wpAnyH_take (i:=9) (oi:=⟨some 58,_,_,_,_,_⟩) (v:=.pointer (some ⟨g,k*7+4,none⟩)) rfl (by kernel_rfl) (by kernel_rfl) (by kernel_rfl) (fun _ _ _ h=>h) (Or.inl ⟨by rfl,fun w hw=>by go_simp⟩) (by assumption) ?_
      simp only [Act.put,Qw2,Qw3,Qw4]
      refine wpAnyH_take (i:=10) (oi:=⟨some 59,_,_,_,_,_⟩) (v:=.int .u8 nf) rfl (by kernel_rfl) (by kernel_rfl) (by kernel_rfl) (fun _ _ _ h=>h) (Or.inl ⟨by rfl,fun w hw=>by have q1:=hw.1.1;have q2:=hw.1.2;have q3:w.cell? ⟨b12,1,none⟩=some (.int .u32 rc):=hw.2.cell 1;have q4:w.cell? ⟨b12,2,none⟩=some (.slice ha hl hc):=hw.2.cell 2;go_simp⟩) (by assumption) ?_
      simp only [Act.put,Qw2,Qw3,Qw4]
      refine wpAnyH_take (i:=11) (oi:=⟨some 60,_,_,_,_,_⟩) (v:=.int .u32 area) rfl (by kernel_rfl) (by kernel_rfl) (by kernel_rfl) (fun _ _ _ h=>h) (Or.inl ⟨by rfl,fun w hw=>by go_simp⟩) (by assumption) ?_
      simp only [Act.put,Qw2,Qw3,Qw4]
      refine wpAnyH_take (i:=12) (oi:=⟨some 61,_,_,_,_,_⟩) (v:=.pointer (some ⟨b12,1,none⟩)) rfl (by kernel_rfl) (by kernel_rfl) (by kernel_rfl) (fun _ _ _ h=>h) (Or.inl ⟨by rfl,fun w hw=>by go_simp⟩) (by assumption) ?_
      simp only [Act.put,Qw2,Qw3,Qw4]
      refine wpAnyH_take (i:=13) (oi:=⟨some 62,_,_,_,_,_⟩) (v:=.int .u32 rc) rfl (by kernel_rfl) (by kernel_rfl) (by kernel_rfl) (fun _ _ _ h=>h) (Or.inl ⟨by rfl,fun w hw=>by have q1:=hw.1.1;have q2:=hw.1.2;have q3:w.cell? ⟨b12,1,none⟩=some (.int .u32 rc):=hw.2.cell 1;have q4:w.cell? ⟨b12,2,none⟩=some (.slice ha hl hc):=hw.2.cell 2;go_simp⟩) (by assumption) ?_
      simp only [Act.put,Qw2,Qw3,Qw4]
      refine wpAnyH_take (i:=14) (oi:=⟨some 63,_,_,_,_,_⟩) (v:=.pointer (some ⟨b12,2,none⟩)) rfl (by kernel_rfl) (by kernel_rfl) (by kernel_rfl) (fun _ _ _ h=>h) (Or.inl ⟨by rfl,fun w hw=>by go_simp⟩) (by assumption) ?_
      simp only [Act.put,Qw2,Qw3,Qw4]
      refine wpAnyH_take (i:=15) (oi:=⟨some 64,_,_,_,_,_⟩) (v:=.slice ha hl hc) rfl (by kernel_rfl) (by kernel_rfl) (by kernel_rfl) (fun _ _ _ h=>h) (Or.inl ⟨by rfl,fun w hw=>by have q1:=hw.1.1;have q2:=hw.1.2;have q3:w.cell? ⟨b12,1,none⟩=some (.int .u32 rc):=hw.2.cell 1;have q4:w.cell? ⟨b12,2,none⟩=some (.slice ha hl hc):=hw.2.cell 2;go_simp⟩) (by assumption) ?_
      simp only [Act.put,Qw2,Qw3,Qw4]
      have hbld:∀w',(Instr.build 45 #[(1,.int .u32 ni),(2,.int .u8 nf),(3,.int .u8 1),(4,.int .u32 area),(5,.int .u32 rc),(8,.slice ha hl hc)]).run Tryz.prog w'=.ok (.agg #[.int .u32 0,.int .u8 0,.int .u32 ni,.int .u8 nf,.int .u8 1,.int .u32 area,.int .u32 rc,.int .u32 0,.int .u32 0,.slice ha hl hc]) w':=fun w'=>run_build w' _ _ _ (by kernel_rfl)
      refine wpAnyH_take (i:=16) (oi:=⟨some 65,_,_,_,_,_⟩) (v:=.agg #[.int .u32 0,.int .u8 0,.int .u32 ni,.int .u8 nf,.int .u8 1,.int .u32 area,.int .u32 rc,.int .u32 0,.int .u32 0,.slice ha hl hc]) rfl (by kernel_rfl) (by kernel_rfl) (by kernel_rfl) (fun _ _ _ h=>h) (Or.inl ⟨by rfl,fun w hw=>by simp only [execOp,Sem.run_bind,List.map_toArray,List.map_cons,List.map_nil];exact Eq.trans (congrArg (fun r=>Result.andThen r (fun a w'=>Sem.run Tryz.prog (pure (Next.value a)) w')) (hbld w)) rfl⟩) (by assumption) ?_
      simp only [Act.put,Qw2,Qw3,Qw4]
      refine wpAnyH_ready (rs:=[17]) (by kernel_rfl) (by simp) ?_
      refine AllReadyH.cons (o:=⟨some 66,_,_,_,_,_⟩) rfl (fun K hK=>?_) AllReadyH.nil
      have RA:Row (w9.drew.alloc (.cells #[.int .u32 0,.int .u8 0,.int .u32 ni,.int .u8 nf,.int .u8 1,.int .u32 area,.int .u32 rc,.int .u32 0,.int .u32 0,.slice ha hl hc] 45)) w9.heap.size 45 [.int .u32 0,.int .u8 0,.int .u32 ni,.int .u8 nf,.int .u8 1,.int .u32 area,.int .u32 rc,.int .u32 0,.int .u32 0,.slice ha hl hc]:=Qac w9.drew _ _
      have T10:Touch (fun _=>False) w9 (w9.drew.alloc (.cells #[.int .u32 0,.int .u8 0,.int .u32 ni,.int .u8 nf,.int .u8 1,.int .u32 area,.int .u32 rc,.int .u32 0,.int .u32 0,.slice ha hl hc] 45)):=((Touch.refl _ _).drew).alloc _
      have HO9:Hid (w9.ownsRow w4.heap.size 45 10 (.slice aa NL ac) NL (cellsG WY.cs NN)):=by have:=HRW.out.own;rw [HNL.out] at this;exact Qab this HT9.out (fun j hj hn=>hn (HGG.out j (Or.inr hj)))
      have HOA:Hid ((w9.drew.alloc (.cells #[.int .u32 0,.int .u8 0,.int .u32 ni,.int .u8 nf,.int .u8 1,.int .u32 area,.int .u32 rc,.int .u32 0,.int .u32 0,.slice ha hl hc] 45)).ownsRow w4.heap.size 45 10 (.slice aa NL ac) NL (cellsG WY.cs NN)):=Qab HO9.out T10 (fun _ _ h=>h)
      have HNA:Hid (∀(j:Nat) u,([.int .u32 0,.int .u8 0,.int .u32 ni,.int .u8 nf,.int .u8 1,.int .u32 area,.int .u32 rc,.int .u32 0,.int .u32 0,.slice ha hl hc]:List Value)[j]?=some u→(w9.drew.alloc (.cells #[.int .u32 0,.int .u8 0,.int .u32 ni,.int .u8 nf,.int .u8 1,.int .u32 area,.int .u32 rc,.int .u32 0,.int .u32 0,.slice ha hl hc] 45)).cell? ((⟨w9.heap.size,0,none⟩:Addr).add j)=some u):=fun j u hj=>by rw [Qae,Nat.zero_add,RA.cell j];exact hj
      clear RA
      refine Qdp (by rfl) 27 1 [(0,.tmp 65)] (by rfl) _ [(0,.agg #[.int .u32 0,.int .u8 0,.int .u32 ni,.int .u8 nf,.int .u8 1,.int .u32 area,.int .u32 rc,.int .u32 0,.int .u32 0,.slice ha hl hc])] (by rfl) (Qsm 0 0 ni nf 1 area rc 0 0 ha hl hc w9.drew) ?_
      simp only [Act.put,Qw2,Qw3,Qw4]
      refine hK.out _ _ ⟨⟨T10.cellN c1,T10.cellN c4⟩,R129.keep T10⟩ (fun hHeld=>?_)
      clear hK K
      refine wpAnyH_ready (rs:=[18]) (by kernel_rfl) (by simp) ?_
      refine AllReadyH.cons (o:=⟨some 67,_,_,_,_,_⟩) rfl (fun K hK=>?_) AllReadyH.nil
      refine Qbc (by rfl) (.tmp 49) (.tmp 66) 27 (by rfl) w4.heap.size 45 i0 (.agg #[.int .u32 0,.int .u8 0,.int .u32 0,.int .u8 0,.int .u8 0,.int .u32 0,.int .u32 0,.int .u32 0,.int .u32 0,.slice none 0 0]) 10 56 Tryz.underlying27 hi hz0 hz1 hz2 rfl (by omega) (.slice aa NL ac) NL (cellsG WY.cs NN) (by rfl) HOA.out ⟨w9.heap.size,0,none⟩ 1 1 [.int .u32 0,.int .u8 0,.int .u32 ni,.int .u8 nf,.int .u8 1,.int .u32 area,.int .u32 rc,.int .u32 0,.int .u32 0,.slice ha hl hc] (by rfl) rfl HNA.out (by intro u hu;simp at hu;rcases hu with rfl|rfl|rfl|rfl|rfl|rfl|rfl|rfl|rfl|rfl <;> rfl) (by have:=HLB.out;unfold maxLen;omega) (by have:=HLB.out;omega) (by have:=(HRW.out.t4.trans (HT9.out.mono (fun j _ hn h0=>hn (HGG.out j (Or.inl h0))))).size;have:=T10.size;omega) ?_
      intro v' w' hown hgr hor
      simp only [Act.put,Qw2,Qw3,Qw4]
      have TG:Touch (fun k=>(Value.slice aa NL ac).ownBlock=some k) (w9.drew.alloc (.cells #[.int .u32 0,.int .u8 0,.int .u32 ni,.int .u8 nf,.int .u8 1,.int .u32 area,.int .u32 rc,.int .u32 0,.int .u32 0,.slice ha hl hc] 45)) w':=(Touch.refl _ _).grown hgr (fun k hk=>Or.inl hk)
      have ng:¬(Value.slice aa NL ac).ownBlock=some g:=fun e=>by have:=(HOA.out.lt g e).1;have:=HGA.out;omega
      have n12:¬(Value.slice aa NL ac).ownBlock=some b12:=Qb5 HOA.out (R129.keep T10) (by decide)
      have lc10:=Nat.lt_of_lt_of_le lc T10.size
      refine hK.out _ _ ⟨⟨(TG.cell (p:=⟨g,k*7+1,none⟩) lc10 ng).trans (T10.cellN c1),(TG.cell (p:=⟨g,k*7+4,none⟩) lc10 ng).trans (T10.cellN c4)⟩,Qad (R129.keep T10) TG n12⟩ (fun hHeld=>?_)
      clear hK K
      obtain⟨f1,f2,rfl⟩:=Qah hown
      have HNX:Hid (RoR w2 w4 m (grB P) R H area (k1:Int) (k+1) (.slice f1 (NL+1) f2) (NN++[⟨⟨⟨0,0⟩,ni,nf,1,area,rc,0,0,hops⟩,.slice ha hl hc⟩]) w'):=by
       have o':w'.ownsRow w4.heap.size 45 10 (.slice f1 (NL+1) f2) (NN.length+1) (cellsG WY.cs NN++(⟨⟨⟨0,0⟩,ni,nf,1,area,rc,0,0,hops⟩,.slice ha hl hc⟩:WY).cs):=by rw [HNL.out];exact hown
       refine HRW.out.app HMS9.out HGG.out HT9.out T10 TG ⟨⟨⟨0,0⟩,ni,nf,1,area,rc,0,0,hops⟩,.slice ha hl hc⟩ o' hor ?_ (by rw [HM2.out];exact H24.out) HR2.out
       have:=HKH.out
       rw [HHK.out] at this
       show HO w4 (.slice ha hl hc) hops
       exact this
      clear HO9 HOA HNA hown hgr hor TG ng n12 R129 T10 hi hz0 hz1 hz2 HMS9 HT9 HR2 HRW c0 c1 c4 lc lc10 hbld
      refine wpAnyH_take (i:=19) (oi:=⟨some 7,_,_,_,_,_⟩) (v:=.slice f1 (NL+1) f2) rfl (by kernel_rfl) (by kernel_rfl) (by kernel_rfl) (fun _ _ _ h=>h) (Or.inl ⟨by rfl,fun w hw=>by go_simp⟩) (by assumption) ?_
      simp only [Act.put,Qw2,Qw3,Qw4]
      refine wpAnyH_done (by kernel_rfl) ?_ _
      go_wp2_with fail
      go_roundw
      case rel=>exact⟨k+1,f1,f2,NN++[⟨⟨⟨0,0⟩,ni,nf,1,area,rc,0,0,hops⟩,.slice ha hl hc⟩],by omega,by rw [List.length_append,HNL.out];rfl,by go_num,by rw [List.length_append,HNL.out];exact HNX.out⟩
      case measure=>exact Qa5 hlt hkw
     ·have HR2:Hid (rtrsK (grB P) R area z (k+1)=rtrsK (grB P) R area z k):=by show _=_;rw [HRT.out,if_neg (fun h=>hrt h.2),List.append_nil]
      have HNX:Hid (RoR w2 w4 m (grB P) R H area z (k+1) (.slice aa NL ac) NN w9):=HRW.out.next HMS9.out HGG.out HT9.out HR2.out
      clear HRT HMS9 HT9 HR2 HRW c1 c4
      have HREL:Hid (∃(k':Nat) (aa':Option Addr) (ac':Nat) (NN':List WY),k'≤n∧(Value.slice aa NL ac)=.slice aa' NN'.length ac'∧(Value.int .i64 (wrap64 ((k:Int)+1)))=.int .i64 k'∧RoR w2 w4 m (grB P) R H area z k' (.slice aa' NN'.length ac') NN' w9):=⟨k+1,aa,ac,NN,by omega,by rw [HNL.out],by rw [hkw];rfl,by rw [HNL.out];exact HNX.out⟩
      cases nn with
      | true =>
       go_wp2_with fail
       go_roundw
       case rel=>exact HREL.out
       case measure=>exact Qa5 hlt hkw
      | false =>
       have hkz:(k:Int)=z:=by
        rcases Int.lt_trichotomy (k:Int) z with h|h|h
        ·exact (hrt ⟨rfl,by omega⟩).elim
        ·exact h
        ·exact (hrt ⟨rfl,by omega⟩).elim
       have hk1:(k:Int)=(k1:Int):=hkz.trans HZZ.out
       have hkk:k=k1:=by omega
       subst hkk
       clear hkz hk1 hrt
       have hkz1:((k:Int)==(k:Int))=true:=by simp
       go_wp2_with fail
       go_roundw
       case rel=>exact HREL.out
       case measure=>exact Qa5 hlt hkw
   ·have hlt':¬(k:Int)<(n:Int):=by omega
    obtain rfl:k=n:=by omega
    have HFN:=HFIN.out wr _ NN hr
    clear hr HR0
    generalize NN.length=NL at *
    go_wp2_with (first|(go_at_call 30;refine HFN.1.mono ?_;rintro e9 w9 ⟨v9,N1,Ls,rfl,hwb,hpe,hpl,hmp⟩;have HX:=HFN.2 w9 v9 N1 Ls hwb hpe hpl hmp;clear hwb))
    exact bodyPost_ret (v:=.tuple #[v9,.slice aa NL ac]) (by simp [results,Tryz.results11,go_sem]) rfl HX
end Go.Proofs.YtddbffoiadmffaaGreat
