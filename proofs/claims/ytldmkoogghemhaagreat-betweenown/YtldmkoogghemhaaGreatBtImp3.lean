import Derived.Test.YtldmkoogghemhaaGreatBtImp2
namespace Go.Proofs.YtldmkoogghemhaaGreat
set_option maxHeartbeats 8000000
open Go.RowKit
set_option linter.unusedVariables false
set_option maxRecDepth 100000
def lsts:List Value→Nat→List Value→List Value
 | xs,_,[]=>xs
 | xs,o,v::r=>lsts (xs.set o v) (o+1) r
theorem Qgy:∀(vs xs:List Value) (o j:Nat),o+vs.length≤xs.length→(lsts xs o vs)[j]?=if o≤j∧j<o+vs.length then vs[j-o]? else xs[j]?
 | [],xs,o,j,h=>by
  unfold lsts
  rw [if_neg (by simp)]
 | v::r,xs,o,j,h=>by
  unfold lsts
  rw [List.length_cons] at h
  rw [Qgy r (xs.set o v) (o+1) j (by rw [List.length_set];omega),List.length_cons]
  by_cases h1:j=o
  ·subst h1
   rw [if_neg (by omega),if_pos (by omega),List.getElem?_set,if_pos rfl,if_pos (by omega),Nat.sub_self]
   rfl
  ·by_cases h2:o+1≤j∧j<o+1+r.length
   ·rw [if_pos h2,if_pos (by omega),show j-o=(j-(o+1))+1 by omega,List.getElem?_cons_succ]
   ·rw [if_neg h2,if_neg (by omega),List.getElem?_set,if_neg (fun e=>h1 e.symm)]
theorem Qg0 {base e k n cap g:Nat}:∀(vs:List Value) (o:Nat) (w:World) (xs:List Value),w.ownsRow base e k (.slice (some ⟨g,0,none⟩) n cap) n xs→(w.setCells g o vs).ownsRow base e k (.slice (some ⟨g,0,none⟩) n cap) n (lsts xs o vs)
 | [],o,w,xs,h=>h
 | v::r,o,w,xs,h=>Qg0 r (o+1) _ _ (h.stored o v).1
theorem Qgo {N:List WY} {i:Nat} (hi:i<N.length) (y:WY):lsts (cellsG WY.cs N) (i*10) y.cs=cellsG WY.cs (N.set i y):=by
 apply List.ext_getElem?
 intro j
 have hl:(cellsG WY.cs N).length=N.length*10:=Qat WY.len N
 have hyl:y.cs.length=10:=rfl
 rw [Qgy _ _ _ _ (by rw [hl,hyl];omega),hyl]
 have e:=Qan WY.len N (j/10) (j%10) (Nat.mod_lt _ (by omega))
 have e2:=Qan WY.len (N.set i y) (j/10) (j%10) (Nat.mod_lt _ (by omega))
 rw [show j/10*10+j%10=j by omega] at e e2
 rw [e,e2,List.getElem?_set]
 by_cases h:j/10=i
 ·rw [if_pos (by omega),if_pos h.symm,if_pos hi]
  show _=y.cs[j%10]?
  congr 1
  omega
 ·rw [if_neg (by omega),if_neg (fun e=>h e.symm)]
theorem Qiu {w:World} {base g n cap:Nat} {N:List WY} (h:w.ownsRow base 47 10 (.slice (some ⟨g,0,none⟩) n cap) n (cellsG WY.cs N)) {i:Nat} {y:WY} (hi:N[i]?=some y):w.there g (i*10) 10:=fun j hj=>by
 refine⟨?_,Qdj h _⟩
 rcases h.2 with⟨e,-⟩|⟨g',cap',cur,e,-,hh,-,-,hs,ht⟩
 ·cases e
 ·injection e with e1
  injection e1 with e1
  injection e1 with e1
  subst e1
  have e4:=Qan WY.len N i j hj
  rw [hi] at e4
  have hlt:j<y.cs.length:=hj
  rw [show (some y).bind (fun e=>e.cs[j]?)=y.cs[j]? from rfl,List.getElem?_eq_getElem hlt,←ht,List.getElem?_take] at e4
  split at e4
  ·rw [Array.getElem?_toList] at e4
   rw [cell_of_row w g (i*10+j) cur 47 _ hh,e4]
   rfl
  ·cases e4
theorem Qiy {P:Program} {ops:Array Oper} {o:Oper} {a:Act} {w:World} {K:Act→World→Prop} {Q:Exit→Act→World→Prop} {E:Prop} (hgd:o.guard=none) (ty:TypeId) (x y:Operand) (ho:o.op=.store ty x y)
  (b off:Nat) (cells:List Value) (hx:a.eval x=.pointer (some ⟨b,off,none⟩)) (hy:a.eval y=.agg cells.toArray) (ht:w.there b off cells.length) (hi:(P.info? ty).map (·.size)=some cells.length) (h1:∀v∈cells,v.oneCell'=true)
  (h:K (a.put o.dst undef) (w.setCells b off cells)):if Region.wanted o (yielded ops a.tmps)=true then Oper.wp P o a w K Q else E:=by
 have hw:Region.wanted o (yielded ops a.tmps)=true:=by simp [Region.wanted,hgd]
 rw [if_pos hw]
 exact wp_store_mid ty x y ho b off cells.toArray hx hy (by simpa using ht) (by rw [hi];simp) (all_oneCell_toArray h1) (by simpa using h)
def impW (K:List WP) (z:WP):WP :=
 match K.find? (fun q=>endC q z==0) with
 | some q=>if mayW z=true then shP z q else z
 | none=>z
theorem Qg5 {K:List WP} (hup:K.Pairwise WP.elt) {i:Nat} {q z:WP} (hi:K[i]?=some q) (he:q.eq z):impW K z=if mayW z=true then shP z q else z:=by
 have hf:K.find? (fun q=>endC q z==0)=some q:=by
  cases h:K.find? (fun q=>endC q z==0) with
  | none=>exact absurd ((Qbc _ _).2 he) (by simpa using List.find?_eq_none.1 h q (List.mem_of_getElem? hi))
  | some p =>
   have h1:p.eq z:=(Qbc _ _).1 (by simpa using List.find?_some h)
   obtain⟨j,hj⟩:=List.mem_iff_getElem?.1 (List.mem_of_find?_eq_some h)
   have hpq:p.eq q:=WP.eq_trans h1 (WP.eq_symm he)
   obtain⟨hil,ei⟩:=List.getElem?_eq_some_iff.1 hi
   obtain⟨hjl,ej⟩:=List.getElem?_eq_some_iff.1 hj
   rcases Nat.lt_trichotomy i j with h2|h2|h2
   ·have:=List.pairwise_iff_getElem.1 hup i j hil hjl h2
    rw [ei,ej] at this
    exact absurd (WP.eq_symm hpq) (WP.elt_ne this)
   ·subst h2
    rw [hi] at hj
    exact hj.symm
   ·have:=List.pairwise_iff_getElem.1 hup j i hjl hil h2
    rw [ei,ej] at this
    exact absurd hpq (WP.elt_ne this)
 unfold impW
 rw [hf]
theorem Qmq {K:List WP} {z:WP} (h:∀q∈K,¬q.eq z):impW K z=z:=by
 have hf:K.find? (fun q=>endC q z==0)=none:=List.find?_eq_none.2 (fun q hq=>by
  have:=h q hq
  simpa using fun e=>this ((Qbc _ _).1 e))
 unfold impW
 rw [hf]
theorem Qni {F:WP→WP} {X:List WP} {N:List WY} {i:Nat} {z q:WY} (hN:N.map (·.x)=(X.take i).map F++X.drop i) (hz:N[i]?=some z) (hq:q.x=F z.x):(N.set i q).map (·.x)=(X.take (i+1)).map F++X.drop (i+1):=by
 have hi:i<N.length:=(List.getElem?_eq_some_iff.1 hz).1
 have hl:N.length=X.length:=by
  have e:=congrArg List.length hN
  simp only [List.length_map,List.length_append,List.length_take,List.length_drop] at e
  omega
 have hA:((X.take i).map F).length=i:=by rw [List.length_map,List.length_take];omega
 have hx:X[i]?=some z.x:=by
  have e:(N.map (·.x))[i]?=some z.x:=by rw [List.getElem?_map,hz];rfl
  rw [hN,List.getElem?_append_right (by omega),hA,Nat.sub_self,List.getElem?_drop,Nat.add_zero] at e
  exact e
 have hd:X.drop i=z.x::X.drop (i+1):=by
  rw [List.drop_eq_getElem_cons (by omega)]
  congr 1
  have:=List.getElem?_eq_getElem (l:=X) (i:=i) (by omega)
  rw [hx] at this
  exact (Option.some.inj this).symm
 rw [List.map_set,hN,hd,List.set_append_right _ _ (by omega),hA,Nat.sub_self,Qo5,hq,List.take_add_one,hx,List.map_append,List.append_assoc]
 rfl
structure ImR (wb:World) (W:List WY) (F:WP→WP) (n:Nat) (a:Option Addr) (c:Nat) (i:Nat) (N:List WY) (wr:World):Prop where
 b:WsB wb wr (.slice a n c) N
 l:N.length=n
 x:N.map (·.x)=((W.map (·.x)).take i).map F++(W.map (·.x)).drop i
 ho:∀(j:Nat) (y:WY),j<i→N[j]?=some y→HO wr y.hv y.x.hs
 rest:∀j,i≤j→N[j]?=W[j]?
theorem ImR.keep {wb:World} {W:List WY} {F:WP→WP} {n:Nat} {a:Option Addr} {c i:Nat} {N:List WY} {wr w':World} (h:ImR wb W F n a c i N wr) (t:Touch (fun _=>False) wr w'):ImR wb W F n a c i N w' :=
 ⟨h.b.keep t,h.l,h.x,fun j y hj hy=>Qab (h.ho j y hj hy) t (fun _ _ h=>h),h.rest⟩
theorem ImR.step {wb:World} {W:List WY} {F:WP→WP} {n g c i:Nat} {N:List WY} {w1 wz:World} {z q:WY} (h:ImR wb W F n (some ⟨g,0,none⟩) c i N w1) (hz:N[i]?=some z) (hq:q.x=F z.x) (ho:HO w1 q.hv q.x.hs)
  (own:wz.ownsRow wb.heap.size 47 10 (.slice (some ⟨g,0,none⟩) n c) n (cellsG WY.cs (N.set i q))) (t:Touch (fun k=>k=g) w1 wz):ImR wb W F n (some ⟨g,0,none⟩) c (i+1) (N.set i q) wz:=by
 have hi:i<N.length:=(List.getElem?_eq_some_iff.1 hz).1
 have hng:∀{v:Value} {l:List HK},HO w1 v l→∀j,v.ownBlock=some j→¬j=g:=fun ho j hj e=>Qa1 ho h.b.own (by decide) j hj (by rw [e];rfl)
 refine⟨⟨by rw [List.length_set,h.l];exact own,h.b.t.trans' t (fun k hk e=>by have:=(h.b.own.lt g rfl).1;omega)⟩,by rw [List.length_set];exact h.l,Qni h.x hz hq,fun j y hj hy=>?_,fun j hj=>?_⟩
 ·rw [List.getElem?_set] at hy
  by_cases e:i=j
  ·rw [if_pos e,if_pos hi] at hy
   cases hy
   exact Qab ho t (hng ho)
  ·rw [if_neg e] at hy
   have:=h.ho j y (by omega) hy
   exact Qab this t (hng this)
 ·rw [List.getElem?_set,if_neg (by omega)]
  exact h.rest j (by omega)
structure ImpP (w:World) (W T:List WY) (me:Int) (S:List SE) (e:Ending) (w':World):Prop where
 out:∃(v:Value) (N L:List WY),e=.returned v∧WB1 w w' v N∧L.Perm (leadsY T me S)∧(L.map (·.x)).Pairwise WP.wle∧N.map (·.x)=(W.map (·.x)).map (impW (bestP (L.map (·.x))))
theorem Qeb (vw:Value) (W:List WY) (va:Option Addr) (vc:Nat) (S:List SE) (vb:Value) (T:List WY) (me:Int) (w:World) (V:WV w vw W) (VH:∀y∈W,HV3 w y.hv y.x.hs) (VL:∀y∈W,y.x.hs.length≤50000) (hw:W.length≤60) (A:StatesAt w (.slice va S.length vc) S) (Cc:WRd w vb T) (hf:∀y∈T,0≤y.x.flags∧y.x.flags≤255) (hco:∀y∈T,0≤y.x.cost∧y.x.cost≤4294967295) (hl:S.length≤60) (ht:T.length≤60) (hS:∀x∈S,x.rs.length≤1000000) :
  Calls Tryz.prog 18 #[vw,.slice va S.length vc,.int .u32 me,vb] w (ImpP w W T me S):=by
 have HBE:=Qg3 va vc S vb T me w A Cc hf hco hl ht hS
 obtain⟨ba,bc,rfl,-⟩:=Cc.sh
 have HLE:Hid (∀L:List WY,L.Perm (leadsY T me S)→L.length≤60∧∀y∈L,y.x.hs.length≤400):=fun L hp=>by
  have h:=Qb6 T me S S.length
  rw [List.take_of_length_le (Nat.le_refl _)] at h
  refine⟨by rw [hp.length_eq];exact Nat.le_trans h hl,fun y hy=>?_⟩
  obtain⟨b,hb,x,-,-,h2,-⟩:=Qdv (hp.mem_iff.1 hy)
  rw [h2]
  exact Cc.ln b hb
 have HSW:∀y∈W,∃a n c,y.hv=.slice a n c:=fun y hy=>by obtain⟨a,c,e,-⟩:=ValsAt.form (VH y hy);exact⟨_,_,_,e⟩
 have HVH:Hid (∀w',Touch (fun _=>False) w w'→∀y∈W,HV3 w' y.hv y.x.hs):=fun w' t y hy=>ValsAt.keep (VH y hy) t
 have HVL:Hid (∀y∈W,y.x.hs.length≤50000):=VL
 have HNB:Hid (W.length≤60):=hw
 have HCW:Hid (∀w',Touch (fun _=>False) w w'→Calls Tryz.prog 34 #[vw] w' fun e w''=>∃v',e=.returned v'∧WsB w' w'' v' W):=fun w' t=>Qmv vw W w' HSW (ValsAt.keep V t) (Nat.le_trans hw (by decide))
 obtain⟨wa0,wc0,rfl,-⟩:=ValsAt.form V
 clear A Cc hf hco ht hS V VH VL HSW
 generalize S.length=sl at *
 generalize T.length=tl at *
 clear hl hw
 generalize hn:W.length=n at *
 have HN:Hid (W.length=n):=hn
 clear hn
 have hn60:(n:Int)≤60:=by have:=HNB.out;omega
 go_enter Tryz.func18,Tryz.ntmps18
 go_wp2_with (first
  | (go_at_call 28;refine HBE.mono ?_;rintro e wb hP;obtain⟨v,M,L,rfl,hM,hp,hs,hx⟩:=hP.out;obtain⟨fa,fc,rfl⟩:=Qal hM.b.own;have HM:Hid (WB1 w wb (.slice fa M.length fc) M):=hM;have HLP:Hid (L.Perm (leadsY T me S)):=hp;have HLS:Hid ((L.map (·.x)).Pairwise WP.wle):=hs;have HMX:Hid (M.map (·.x)=bestP (L.map (·.x))):=hx;clear hM hp hs hx hP)
  | (go_at_call 34;refine (HCW.out _ HM.out.b.t).mono ?_;rintro e wc ⟨v',rfl,hcl⟩;have HWN0:Hid (WsB wb wc v' W):=hcl;have HFM:Hid (∃a c,v'=.slice a n c):=by { obtain⟨a,c,e⟩:=Qal hcl.own;rw [HN.out] at e;exact⟨a,c,e⟩ };obtain⟨a10,c10,rfl⟩:=HFM.out;clear hcl))
 clear HBE
 have HUP:Hid ((M.map (·.x)).Pairwise WP.elt):=by show List.Pairwise _ _;rw [HMX.out];exact (Qnq (List.Perm.refl _) HLS.out).up
 have HMB:Hid (M.length≤60):=by
  have e:=congrArg List.length HMX.out
  unfold bestP at e
  simp only [List.length_map] at e
  have h1:=Ql7 (L.map (·.x))
  rw [List.length_map] at h1
  have h2:=(HLE.out L HLP.out).1
  show _≤_
  omega
 have HML:Hid (∀q∈M,q.x.hs.length≤24000):=fun q hq=>by
  have h1:q.x∈bestP (L.map (·.x)):=by rw [←HMX.out];exact List.mem_map.2 ⟨q,hq,rfl⟩
  obtain⟨z,hz,e⟩:=List.mem_map.1 h1
  have h2:=Qgd _ 400 (fun x hx=>by obtain⟨y,hy,rfl⟩:=List.mem_map.1 hx;exact (HLE.out L HLP.out).2 y hy) z hz
  have h3:=Qhp [] z.hs
  have h4:=(HLE.out L HLP.out).1
  rw [List.length_map] at h2
  have h5:L.length*400≤60*400:=Nat.mul_le_mul_right _ h4
  rw [←e]
  show (pts [] z.hs).length≤_
  simp only [List.length_nil] at h3
  omega
 have H0:Hid (ImR wb W (impW (bestP (L.map (·.x)))) n a10 c10 0 W wc):=⟨HWN0.out,HN.out,by simp,fun j y h=>by omega,fun j _=>rfl⟩
 clear HWN0 HFM
 generalize hF:impW (bestP (L.map (·.x)))=F at *
 have HF:Hid (impW (bestP (L.map (·.x)))=F):=hF
 clear hF
 generalize hkn:M.length=kn at *
 have HKN:Hid (M.length=kn):=hkn
 clear hkn
 go_loopg [23] n (fun gg s23 wr=>∃(i:Nat) (N:List WY),i≤n∧n-i≤gg∧s23=.int .i64 (i:Int)∧ImR wb W F n a10 c10 i N wr)
 case atStart=>exact⟨0,W,Nat.zero_le _,Nat.le_refl _,rfl,H0.out⟩
 case round =>
  clear H0
  obtain⟨i,N,hi,hgi,rfl,hr⟩:=hrel
  have HR:Hid (ImR wb W F n a10 c10 i N wr):=hr
  clear hr
  by_cases hli:i<n
  ·skip
   have hli':(i:Int)<(n:Int):=Qbl hli
   have hi00:(0:Int)≤(i:Int):=Qa6 _
   have hiw:wrap64 ((i:Int)+1)=(i:Int)+1:=Qes (Nat.le_trans (Nat.le_trans (Nat.le_of_lt hli) HNB.out) (by decide))
   have HGI:Hid (i<n∧n-i≤gk):=⟨hli,hgi⟩
   obtain⟨z,hz⟩:=Qco HR.out.l hli
   have HZI:Hid (N[i]?=some z):=hz
   have HZW:Hid (z∈W):=by have h:=HR.out.rest i (Nat.le_refl _);rw [hz] at h;exact List.mem_of_getElem? h.symm
   have HZL:Hid (z.x.hs.length≤50000):=HVL.out z HZW.out
   obtain⟨g10,e10⟩:∃g,a10=some ⟨g,0,none⟩:=by
    rcases HR.out.b.own.2 with⟨h,-⟩|⟨g,cap,cur,h,-⟩
    ·injection h with h1 h2;omega
    ·injection h with h1;exact⟨g,h1⟩
   subst e10
   have HTW:Hid (Touch (fun _=>False) w wr):=HM.out.b.t.trans HR.out.b.t
   obtain⟨za,zc,ezv,-⟩:=ValsAt.form (HVH.out wr HTW.out z HZW.out)
   have EZV:Hid (z.hv=.slice za z.x.hs.length zc):=ezv
   have HZ10:Hid (∀w',Touch (fun _=>False) wr w'→W10 w' g10 (i*10) z):=fun w' t=>by
    obtain⟨g,o,e,h⟩:=Qbq (Qfj (VBuf.vals (HR.out.b.keep t)) HR.out.l) HZI.out
    injection e with e
    injection e with e1 e2
    subst e1
    rw [←e2,Nat.zero_add] at h
    exact h
   obtain⟨e0,e1,e2,e3,e4,e5,e6,e7,e8,e9⟩:=HZ10.out wr (Touch.refl _ _)
   rw [EZV.out] at e9
   have lg:=Qaa e0
   have HTA:Hid (Touch (fun _=>False) wr (wr.alloc (.cells #[.int .u32 z.x.p.addr,.int .u8 z.x.p.bits,.int .u32 z.x.router,.int .u8 z.x.flags,.int .u8 z.x.kind,.int .u32 z.x.area,.int .u32 z.x.cost,.int .u32 z.x.dist,.int .u32 z.x.tag,.slice za z.x.hs.length zc] 47))):=(Touch.refl _ _).alloc _
   obtain⟨bx,hbx⟩:∃b,b=wr.heap.size:=⟨_,rfl⟩
   have HBX:Hid (bx=wr.heap.size):=hbx
   have HRX:Hid (Row (wr.alloc (.cells #[.int .u32 z.x.p.addr,.int .u8 z.x.p.bits,.int .u32 z.x.router,.int .u8 z.x.flags,.int .u8 z.x.kind,.int .u32 z.x.area,.int .u32 z.x.cost,.int .u32 z.x.dist,.int .u32 z.x.tag,.slice za z.x.hs.length zc] 47)) bx 47 [.int .u32 z.x.p.addr,.int .u8 z.x.p.bits,.int .u32 z.x.router,.int .u8 z.x.flags,.int .u8 z.x.kind,.int .u32 z.x.area,.int .u32 z.x.cost,.int .u32 z.x.dist,.int .u32 z.x.tag,.slice za z.x.hs.length zc]):=by rw [hbx];exact Qac _ _ _
   clear hz ezv
   go_upto_region 6 with fail
   rw [←hbx]
   clear e0 e1 e2 e3 e4 e5 e6 e7 e8 e9 lg hbx
   generalize wr.alloc (.cells #[.int .u32 z.x.p.addr,.int .u8 z.x.p.bits,.int .u32 z.x.router,.int .u8 z.x.flags,.int .u8 z.x.kind,.int .u32 z.x.area,.int .u32 z.x.cost,.int .u32 z.x.dist,.int .u32 z.x.tag,.slice za z.x.hs.length zc] 47)=wa at *
   have HMa:Hid (WB1 w wa (.slice fa kn fc) M):=HM.out.keep (HR.out.b.t.trans HTA.out)
   have HBS:=Qgl (.slice fa kn fc) M z.x za z.x.hs.length zc wa (VBuf.vals HMa.out.b) (fun q hq=>by obtain⟨a,c,e⟩:=Qal (HMa.out.h q hq);exact⟨_,_,_,e⟩) HUP.out (by rw [HKN.out];exact HMB.out)
   unfold WY.sv at HBS
   dsimp only at HBS
   have x0:=HRX.out.cell 0
   have x1:=HRX.out.cell 1
   have x2:=HRX.out.cell 2
   have x3:=HRX.out.cell 3
   have x4:=HRX.out.cell 4
   have x5:=HRX.out.cell 5
   have x6:=HRX.out.cell 6
   have x7:=HRX.out.cell 7
   have x8:=HRX.out.cell 8
   have x9:=HRX.out.cell 9
   have lx:=HRX.out.lt
   simp only [List.getElem?_cons_succ,List.getElem?_cons_zero] at x0 x1 x2 x3 x4 x5 x6 x7 x8 x9
   go_upto_region 7 with (go_at_call 35;refine HBS.mono ?_;rintro e ws hP;obtain⟨i0,b,rfl,ts,hile,hyes,hno⟩:=hP.out;have HTS:Hid (Touch (fun _=>False) wa ws):=ts;have HYES:Hid (b=true→∃q,M[i0]?=some q∧q.x.eq z.x):=hyes;have HNO:Hid (b=false→∀q∈M,¬q.x.eq z.x):=hno;clear hP ts hile hyes hno)
   clear x0 x1 x2 x3 x4 x5 x6 x7 x8 x9 lx HBS
   cases b with
   | false =>
    have HFZ:Hid (z.x=F z.x):=by show _=_;rw [←HF.out,Qmq (fun p hp=>by rw [←HMX.out] at hp;obtain⟨q,hq,rfl⟩:=List.mem_map.1 hp;exact HNO.out rfl q hq)]
    have HRs:Hid (ImR wb W F n (some ⟨g10,0,none⟩) c10 i N ws):=HR.out.keep (HTA.out.trans HTS.out)
    have HXs:Hid (Row ws bx 47 [.int .u32 z.x.p.addr,.int .u8 z.x.p.bits,.int .u32 z.x.router,.int .u8 z.x.flags,.int .u8 z.x.kind,.int .u32 z.x.area,.int .u32 z.x.cost,.int .u32 z.x.dist,.int .u32 z.x.tag,.slice za z.x.hs.length zc]):=HRX.out.keep HTS.out
    have HTWs:Hid (Touch (fun _=>False) w ws):=HTW.out.trans (HTA.out.trans HTS.out)
    have HTM:Hid (Touch (fun _=>False) ws ws):=Touch.refl _ _
    have x9:=HXs.out.cell 9
    have lx:=HXs.out.lt
    simp only [List.getElem?_cons_succ,List.getElem?_cons_zero] at x9
    have HCL:=Qcs (.slice za z.x.hs.length zc) z.x.hs ws (by rw [←EZV.out];exact HVH.out _ HTWs.out z HZW.out) (Nat.le_trans HZL.out (by decide))
    go_upto_region 10 with (go_at_call 39;refine HCL.mono ?_;rintro e wj ⟨r,rfl,hr⟩;have HRO:Hid (HO wj r z.x.hs):=Qak hr.own (Nat.zero_le _);have HRj:Hid (ImR wb W F n (some ⟨g10,0,none⟩) c10 i N wj):=HRs.out.keep hr.t;have z9:wj.cell? ⟨g10,i*10+9,none⟩=some (.slice za z.x.hs.length zc):=by { rw [←EZV.out];exact (HZ10.out wj ((HTA.out.trans HTS.out).trans (HTM.out.trans hr.t))).e9 };have f9:=Qdj HRj.out.b.own (i*10+9);have l9:=Qaa z9;obtain⟨ra,rc,rfl⟩:=Qal hr.own;clear hr)
    clear HCL x9 lx z9 f9 l9
    have HNX:Hid (ImR wb W F n (some ⟨g10,0,none⟩) c10 (i+1) (N.set i ⟨z.x,(.slice ra z.x.hs.length rc)⟩) (wj.setCell ⟨g10,i*10+9,none⟩ (.slice ra z.x.hs.length rc))):=by
     refine HRj.out.step HZI.out HFZ.out HRO.out ?_ (Touch.setCell (F:=fun k=>k=g10) (p:=⟨g10,i*10+9,none⟩) (Touch.refl _ _) (Or.inl rfl) _)
     have h0:=HRj.out.b.own
     rw [HRj.out.l] at h0
     have h:=(h0.stored (i*10+9) (.slice ra z.x.hs.length rc)).1
     rw [Qbt WY.len N i 9 (by omega) z ⟨z.x,(.slice ra z.x.hs.length rc)⟩ HZI.out (.slice ra z.x.hs.length rc) rfl]
     exact h
    clear HRO HRj
    go_wp2_with fail
    go_roundg (n-(i+1))
    case measure=>exact Qbz HGI.out.1 HGI.out.2
    case rel=>exact⟨i+1,_,HGI.out.1,Nat.le_refl _,by first|exact Qam hiw|exact Qam rfl,HNX.out⟩
   | true =>
    obtain⟨q,hq,hqe⟩:=HYES.out rfl
    have HQI:Hid (M[i0]?=some q):=hq
    have HQM:Hid (q∈M):=List.mem_of_getElem? hq
    have HIM:Hid (F z.x=if mayW z.x=true then shP z.x q.x else z.x):=by show _=_;rw [←HF.out];exact Qg5 (by rw [←HMX.out];exact HUP.out) (i:=i0) (by rw [←HMX.out,List.getElem?_map,hq];rfl) hqe
    have HXs0:Hid (Row ws bx 47 [.int .u32 z.x.p.addr,.int .u8 z.x.p.bits,.int .u32 z.x.router,.int .u8 z.x.flags,.int .u8 z.x.kind,.int .u32 z.x.area,.int .u32 z.x.cost,.int .u32 z.x.dist,.int .u32 z.x.tag,.slice za z.x.hs.length zc]):=HRX.out.keep HTS.out
    have HMI:=Qdq z.x za z.x.hs.length zc ws
    unfold WY.sv at HMI
    dsimp only at HMI
    clear hq hqe
    have x0:=HXs0.out.cell 0
    have x1:=HXs0.out.cell 1
    have x2:=HXs0.out.cell 2
    have x3:=HXs0.out.cell 3
    have x4:=HXs0.out.cell 4
    have x5:=HXs0.out.cell 5
    have x6:=HXs0.out.cell 6
    have x7:=HXs0.out.cell 7
    have x8:=HXs0.out.cell 8
    have x9:=HXs0.out.cell 9
    have lx:=HXs0.out.lt
    simp only [List.getElem?_cons_succ,List.getElem?_cons_zero] at x0 x1 x2 x3 x4 x5 x6 x7 x8 x9
    cases hmw:mayW z.x with
    | false =>
     rw [hmw] at HMI
     have HFZ:Hid (z.x=F z.x):=by show _=_;rw [HIM.out,hmw];rfl
     go_upto_region 9 with (go_at_call 37;refine HMI.mono ?_;rintro e wt ⟨rfl,tm⟩;have HTM:Hid (Touch (fun _=>False) ws wt):=tm;clear tm)
     clear x0 x1 x2 x3 x4 x5 x6 x7 x8 x9 lx HMI
     have HRs:Hid (ImR wb W F n (some ⟨g10,0,none⟩) c10 i N wt):=HR.out.keep (HTA.out.trans (HTS.out.trans HTM.out))
     have HXs:Hid (Row wt bx 47 [.int .u32 z.x.p.addr,.int .u8 z.x.p.bits,.int .u32 z.x.router,.int .u8 z.x.flags,.int .u8 z.x.kind,.int .u32 z.x.area,.int .u32 z.x.cost,.int .u32 z.x.dist,.int .u32 z.x.tag,.slice za z.x.hs.length zc]):=HXs0.out.keep HTM.out
     have HTWs:Hid (Touch (fun _=>False) w wt):=HTW.out.trans (HTA.out.trans (HTS.out.trans HTM.out))
     have x9:=HXs.out.cell 9
     have lx:=HXs.out.lt
     simp only [List.getElem?_cons_succ,List.getElem?_cons_zero] at x9
     have HCL:=Qcs (.slice za z.x.hs.length zc) z.x.hs wt (by rw [←EZV.out];exact HVH.out _ HTWs.out z HZW.out) (Nat.le_trans HZL.out (by decide))
     go_upto_region 10 with (go_at_call 39;refine HCL.mono ?_;rintro e wj ⟨r,rfl,hr⟩;have HRO:Hid (HO wj r z.x.hs):=Qak hr.own (Nat.zero_le _);have HRj:Hid (ImR wb W F n (some ⟨g10,0,none⟩) c10 i N wj):=HRs.out.keep hr.t;have z9:wj.cell? ⟨g10,i*10+9,none⟩=some (.slice za z.x.hs.length zc):=by { rw [←EZV.out];exact (HZ10.out wj ((HTA.out.trans HTS.out).trans (HTM.out.trans hr.t))).e9 };have f9:=Qdj HRj.out.b.own (i*10+9);have l9:=Qaa z9;obtain⟨ra,rc,rfl⟩:=Qal hr.own;clear hr)
     clear HCL x9 lx z9 f9 l9
     have HNX:Hid (ImR wb W F n (some ⟨g10,0,none⟩) c10 (i+1) (N.set i ⟨z.x,(.slice ra z.x.hs.length rc)⟩) (wj.setCell ⟨g10,i*10+9,none⟩ (.slice ra z.x.hs.length rc))):=by
      refine HRj.out.step HZI.out HFZ.out HRO.out ?_ (Touch.setCell (F:=fun k=>k=g10) (p:=⟨g10,i*10+9,none⟩) (Touch.refl _ _) (Or.inl rfl) _)
      have h0:=HRj.out.b.own
      rw [HRj.out.l] at h0
      have h:=(h0.stored (i*10+9) (.slice ra z.x.hs.length rc)).1
      rw [Qbt WY.len N i 9 (by omega) z ⟨z.x,(.slice ra z.x.hs.length rc)⟩ HZI.out (.slice ra z.x.hs.length rc) rfl]
      exact h
     clear HRO HRj
     go_wp2_with fail
     go_roundg (n-(i+1))
     case measure=>exact Qbz HGI.out.1 HGI.out.2
     case rel=>exact⟨i+1,_,HGI.out.1,Nat.le_refl _,by first|exact Qam hiw|exact Qam rfl,HNX.out⟩
    | true =>
     rw [hmw] at HMI
     have HFZ:Hid (shP z.x q.x=F z.x):=by show _=_;rw [HIM.out,hmw];rfl
     go_upto_region 8 with (go_at_call 37;refine HMI.mono ?_;rintro e wt ⟨rfl,tm⟩;have HTM:Hid (Touch (fun _=>False) ws wt):=tm;clear tm)
     clear x0 x1 x2 x3 x4 x5 x6 x7 x8 x9 lx HMI
     have HRs:Hid (ImR wb W F n (some ⟨g10,0,none⟩) c10 i N wt):=HR.out.keep (HTA.out.trans (HTS.out.trans HTM.out))
     have HXs:Hid (Row wt bx 47 [.int .u32 z.x.p.addr,.int .u8 z.x.p.bits,.int .u32 z.x.router,.int .u8 z.x.flags,.int .u8 z.x.kind,.int .u32 z.x.area,.int .u32 z.x.cost,.int .u32 z.x.dist,.int .u32 z.x.tag,.slice za z.x.hs.length zc]):=HXs0.out.keep HTM.out
     have HTWs:Hid (Touch (fun _=>False) w wt):=HTW.out.trans (HTA.out.trans (HTS.out.trans HTM.out))
     have HGL:Hid (wb.heap.size≤g10∧g10<bx):=⟨(HR.out.b.own.lt g10 rfl).1,by rw [HBX.out];exact (HR.out.b.own.lt g10 rfl).2⟩
     have HTB:Hid (∀w',Touch (fun k=>k=g10) wt w'→Touch (fun _=>False) wb w'):=fun w' t=>HRs.out.b.t.trans' t (fun k hk e=>by have:=HGL.out.1;omega)
     obtain⟨qa,qc,eqv⟩:=Qal (HM.out.h q HQM.out)
     have EQV:Hid (q.hv=.slice qa q.x.hs.length qc):=eqv
     obtain⟨gf,of,efa,-⟩:=Qbq (Qfj (VBuf.vals HM.out.b) HKN.out) HQI.out
     subst efa
     have hz0:(0:Int)≤(i0:Int):=Qa6 _
     have hz1:(i0:Int)<(kn:Int):=Qbl (by rw [←HKN.out];exact (List.getElem?_eq_some_iff.1 HQI.out).1)
     have HQR:∀w',Touch (fun k=>k=g10) wt w'→w'.rangeAt gf (of+i0*10) [.int .u32 q.x.p.addr,.int .u8 q.x.p.bits,.int .u32 q.x.router,.int .u8 q.x.flags,.int .u8 q.x.kind,.int .u32 q.x.area,.int .u32 q.x.cost,.int .u32 q.x.dist,.int .u32 q.x.tag,.slice qa q.x.hs.length qc]:=fun w' t j v hj=>by
      obtain⟨g',o',e,q0,q1,q2,q3,q4,q5,q6,q7,q8,q9⟩:=Qbq (Qfj (VBuf.vals (HM.out.keep (HTB.out w' t)).b) HKN.out) HQI.out
      injection e with e
      injection e with e1 e2
      subst e1 e2
      rw [EQV.out] at q9
      match j,hj with
      | 0,hj=>cases hj;exact q0
      | 1,hj=>cases hj;exact q1
      | 2,hj=>cases hj;exact q2
      | 3,hj=>cases hj;exact q3
      | 4,hj=>cases hj;exact q4
      | 5,hj=>cases hj;exact q5
      | 6,hj=>cases hj;exact q6
      | 7,hj=>cases hj;exact q7
      | 8,hj=>cases hj;exact q8
      | 9,hj=>cases hj;exact q9
      | j+10,hj=>simp at hj
     have HXR:∀w',Touch (fun k=>k=g10) wt w'→Row w' bx 47 [.int .u32 z.x.p.addr,.int .u8 z.x.p.bits,.int .u32 z.x.router,.int .u8 z.x.flags,.int .u8 z.x.kind,.int .u32 z.x.area,.int .u32 z.x.cost,.int .u32 z.x.dist,.int .u32 z.x.tag,.slice za z.x.hs.length zc]:=fun w' t=>Qay HXs.out t (by have:=HGL.out.2;omega)
     have T0:Touch (fun _=>False) wt wt.drew:=(Touch.refl _ _).drew
     have s0:Touch (fun k=>k=g10) wt wt.drew:=(Touch.refl _ _).drew
     have HSH:=Qfv z.x q.x (.slice za z.x.hs.length zc) (.slice qa q.x.hs.length qc) wt.drew (by rw [←EZV.out];exact HVH.out _ (HTWs.out.trans T0) z HZW.out) (by rw [←EQV.out];exact Qcg ((HM.out.keep (HTB.out _ s0)).h q HQM.out)) (Nat.le_trans HZL.out (by decide)) (Nat.le_trans (HML.out q HQM.out) (by decide))
     unfold WY.sv at HSH
     dsimp only at HSH
     have HSP:Hid (∀e w',ShoP z.x q.x wt.drew e w'→∃r,e=.returned (⟨shP z.x q.x,r⟩:WY).sv∧HO w' r (shP z.x q.x).hs∧Touch (fun _=>False) wt.drew w'):=fun e w' h=>h.out
     generalize ShoP z.x q.x wt.drew=SQ at *
     generalize shP z.x q.x=sp at *
     clear eqv hmw
     refine wp_region_held_drew (S:=fun w'=>Touch (fun k=>k=g10) wt w') (by kernel_rfl) s0 (fun hHeld=>?_)
     refine wpAnyH_take (i:=0) (oi:=⟨some 39,_,_,_,_,_⟩) (v:=.slice (some ⟨g10,0,none⟩) n c10) rfl (by kernel_rfl) (by kernel_rfl) (by kernel_rfl) (fun _ _ _ h=>h) (Or.inl ⟨by rfl,fun w hw=>by go_simp⟩) (by assumption) ?_
     simp only [Act.put,Qo4,Qo5,Qo6]
     refine wpAnyH_take (i:=1) (oi:=⟨some 40,_,_,_,_,_⟩) (v:=.int .i64 (i:Int)) rfl (by kernel_rfl) (by kernel_rfl) (by kernel_rfl) (fun _ _ _ h=>h) (Or.inl ⟨by rfl,fun w hw=>by go_simp⟩) (by assumption) ?_
     simp only [Act.put,Qo4,Qo5,Qo6]
     refine wpAnyH_take (i:=2) (oi:=⟨some 41,_,_,_,_,_⟩) (v:=.agg #[.int .u32 z.x.p.addr,.int .u8 z.x.p.bits,.int .u32 z.x.router,.int .u8 z.x.flags,.int .u8 z.x.kind,.int .u32 z.x.area,.int .u32 z.x.cost,.int .u32 z.x.dist,.int .u32 z.x.tag,.slice za z.x.hs.length zc]) rfl (by kernel_rfl) (by kernel_rfl) (by kernel_rfl) (fun _ _ _ h=>h) (yieldsIf_load_mid (by rfl) _ _ rfl _ _ rfl [.int .u32 z.x.p.addr,.int .u8 z.x.p.bits,.int .u32 z.x.router,.int .u8 z.x.flags,.int .u8 z.x.kind,.int .u32 z.x.area,.int .u32 z.x.cost,.int .u32 z.x.dist,.int .u32 z.x.tag,.slice za z.x.hs.length zc] _ (fun w h=>Qbk (HXR w h)) Tryz.underlying47 rfl (by kernel_rfl)) (by assumption) ?_
     simp only [Act.put,Qo4,Qo5,Qo6]
     refine wpAnyH_take (i:=3) (oi:=⟨some 42,_,_,_,_,_⟩) (v:=.slice (some ⟨gf,of,none⟩) kn fc) rfl (by kernel_rfl) (by kernel_rfl) (by kernel_rfl) (fun _ _ _ h=>h) (Or.inl ⟨by rfl,fun w hw=>by go_simp⟩) (by assumption) ?_
     simp only [Act.put,Qo4,Qo5,Qo6]
     refine wpAnyH_take (i:=4) (oi:=⟨some 43,_,_,_,_,_⟩) (v:=.int .i64 (i0:Int)) rfl (by kernel_rfl) (by kernel_rfl) (by kernel_rfl) (fun _ _ _ h=>h) (Or.inl ⟨by rfl,fun w hw=>by go_simp⟩) (by assumption) ?_
     simp only [Act.put,Qo4,Qo5,Qo6]
     refine wpAnyH_take (i:=5) (oi:=⟨some 44,_,_,_,_,_⟩) (v:=.pointer (some ⟨gf,of+i0*10,none⟩)) rfl (by kernel_rfl) (by kernel_rfl) (by kernel_rfl) (fun _ _ _ h=>h) (Or.inl ⟨by rfl,fun w hw=>by go_simp⟩) (by assumption) ?_
     simp only [Act.put,Qo4,Qo5,Qo6]
     refine wpAnyH_take (i:=6) (oi:=⟨some 45,_,_,_,_,_⟩) (v:=.agg #[.int .u32 q.x.p.addr,.int .u8 q.x.p.bits,.int .u32 q.x.router,.int .u8 q.x.flags,.int .u8 q.x.kind,.int .u32 q.x.area,.int .u32 q.x.cost,.int .u32 q.x.dist,.int .u32 q.x.tag,.slice qa q.x.hs.length qc]) rfl (by kernel_rfl) (by kernel_rfl) (by kernel_rfl) (fun _ _ _ h=>h) (yieldsIf_load_mid (by rfl) _ _ rfl _ _ rfl [.int .u32 q.x.p.addr,.int .u8 q.x.p.bits,.int .u32 q.x.router,.int .u8 q.x.flags,.int .u8 q.x.kind,.int .u32 q.x.area,.int .u32 q.x.cost,.int .u32 q.x.dist,.int .u32 q.x.tag,.slice qa q.x.hs.length qc] _ (fun w h=>HQR w h) Tryz.underlying47 rfl (by kernel_rfl)) (by assumption) ?_
     simp only [Act.put,Qo4,Qo5,Qo6]
     refine wpAnyH_ready (rs:=[7]) (by kernel_rfl) (by simp) ?_
     refine AllReadyH.cons (o:=⟨some 46,_,_,_,_,_⟩) rfl (fun K hK=>?_) AllReadyH.nil
     go_simp
     refine Calls.mono HSH ?_
     intro e w5 hP5
     obtain⟨r,rfl,ho,t5⟩:=HSP.out e w5 hP5
     obtain⟨ra,rc,rfl⟩:=Qal ho
     unfold WY.sv
     dsimp only
     have s5:Touch (fun k=>k=g10) wt w5:=s0.trans (t5.mono (fun _ _ h=>h.elim))
     have HO5:Hid (HO w5 (.slice ra sp.hs.length rc) sp.hs):=ho
     have HR5:Hid (ImR wb W F n (some ⟨g10,0,none⟩) c10 i N w5):=HRs.out.keep (T0.trans t5)
     have hth:=Qiu (by have h:=HR5.out.b.own;rw [HR5.out.l] at h;exact h) HZI.out
     clear ho t5 hP5
     refine hK.out _ _ (by assumption) (fun hHeld=>?_)
     clear hK K
     refine wpAnyH_take (i:=8) (oi:=⟨some 47,_,_,_,_,_⟩) (v:=.pointer (some ⟨g10,i*10,none⟩)) rfl (by kernel_rfl) (by kernel_rfl) (by kernel_rfl) (fun _ _ _ h=>h) (Or.inl ⟨by rfl,fun w hw=>by go_simp⟩) (by assumption) ?_
     simp only [Act.put,Qo4,Qo5,Qo6]
     refine wpAnyH_ready (rs:=[9]) (by kernel_rfl) (by simp) ?_
     refine AllReadyH.cons (o:=⟨none,_,_,_,_,_⟩) rfl (fun K hK=>?_) AllReadyH.nil
     refine Qiy rfl 47 (.tmp 47) (.tmp 46) rfl g10 (i*10) [.int .u32 sp.p.addr,.int .u8 sp.p.bits,.int .u32 sp.router,.int .u8 sp.flags,.int .u8 sp.kind,.int .u32 sp.area,.int .u32 sp.cost,.int .u32 sp.dist,.int .u32 sp.tag,.slice ra sp.hs.length rc] rfl rfl hth (by kernel_rfl) (Qbw _ _ _ _ _ _ _ _ _ _ _ _) ?_
     simp only [Act.put]
     have s6:Touch (fun k=>k=g10) wt (w5.setCells g10 (i*10) [.int .u32 sp.p.addr,.int .u8 sp.p.bits,.int .u32 sp.router,.int .u8 sp.flags,.int .u8 sp.kind,.int .u32 sp.area,.int .u32 sp.cost,.int .u32 sp.dist,.int .u32 sp.tag,.slice ra sp.hs.length rc]):=Qbm _ _ _ s5
     have HNX:Hid (ImR wb W F n (some ⟨g10,0,none⟩) c10 (i+1) (N.set i ⟨sp,.slice ra sp.hs.length rc⟩) (w5.setCells g10 (i*10) [.int .u32 sp.p.addr,.int .u8 sp.p.bits,.int .u32 sp.router,.int .u8 sp.flags,.int .u8 sp.kind,.int .u32 sp.area,.int .u32 sp.cost,.int .u32 sp.dist,.int .u32 sp.tag,.slice ra sp.hs.length rc])):=by
      refine HR5.out.step HZI.out HFZ.out HO5.out ?_ (Qbm _ _ _ (Touch.refl _ _))
      have h0:=HR5.out.b.own
      rw [HR5.out.l] at h0
      have h:=Qg0 (⟨sp,.slice ra sp.hs.length rc⟩:WY).cs (i*10) w5 _ h0
      rw [Qgo (by rw [HR5.out.l];exact HGI.out.1)] at h
      exact h
     generalize w5.setCells g10 (i*10) [.int .u32 sp.p.addr,.int .u8 sp.p.bits,.int .u32 sp.router,.int .u8 sp.flags,.int .u8 sp.kind,.int .u32 sp.area,.int .u32 sp.cost,.int .u32 sp.dist,.int .u32 sp.tag,.slice ra sp.hs.length rc]=w6 at *
     refine hK.out _ _ (by assumption) (fun hHeld=>?_)
     clear hK K
     refine wpAnyH_done (by kernel_rfl) ?_ _
     clear HQR HXR T0 s0 s5 s6 hth HSH hHeld
     go_wp2_with fail
     go_roundg (n-(i+1))
     case measure=>exact Qbz HGI.out.1 HGI.out.2
     case rel=>exact⟨i+1,_,HGI.out.1,Nat.le_refl _,by first|exact Qam hiw|exact Qam rfl,HNX.out⟩
  ·skip
   obtain rfl:i=n:=Nat.le_antisymm hi (Nat.le_of_not_lt hli)
   have hli':¬(i:Int)<(i:Int):=Int.lt_irrefl _
   have HNE:Hid (N.map (·.x)=(W.map (·.x)).map F):=by have h:=HR.out.x;rw [List.take_of_length_le (by rw [List.length_map,HN.out];exact Nat.le_refl _),List.drop_of_length_le (by rw [List.length_map,HN.out];exact Nat.le_refl _),List.append_nil] at h;exact h
   have HWB:Hid (WB1 w wr (.slice a10 i c10) N):=⟨by have h:=HR.out.b.back HM.out.b.t;exact h,fun y hy=>by obtain⟨j,hj⟩:=List.mem_iff_getElem?.1 hy;exact HR.out.ho j y (by have h1:=(List.getElem?_eq_some_iff.1 hj).1;have h2:=HR.out.l;omega) hj⟩
   go_wp2_with fail
   go_ret
   exact⟨_,N,L,rfl,HWB.out,HLP.out,HLS.out,by rw [HF.out];exact HNE.out⟩
end Go.Proofs.YtldmkoogghemhaaGreat
