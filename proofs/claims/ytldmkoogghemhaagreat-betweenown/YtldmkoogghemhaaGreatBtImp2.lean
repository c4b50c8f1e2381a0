import Derived.Test.YtldmkoogghemhaaGreatBtImp1
namespace Go.Proofs.YtldmkoogghemhaaGreat
set_option maxHeartbeats 8000000
open Go.RowKit
set_option linter.unusedVariables false
set_option maxRecDepth 100000
structure BsP (K:List WY) (x:WP) (w:World) (e:Ending) (w':World):Prop where
 out:∃(i:Nat) (b:Bool),e=.returned (.tuple #[.int .i64 (i:Int),.bool b])∧Touch (fun _=>False) w w'∧i≤K.length∧(b=true→∃q,K[i]?=some q∧q.x.eq x)∧(b=false→∀q∈K,¬q.x.eq x)
theorem Qgl (v:Value) (K:List WY) (x:WP) (xa:Option Addr) (xn xc:Nat) (w:World) (A:WV w v K) (hsl:∀q∈K,∃a n c,q.hv=.slice a n c) (hup:(K.map (·.x)).Pairwise WP.elt) (hn:K.length≤60) :
  Calls Tryz.prog 35 #[v,(⟨x,.slice xa xn xc⟩:WY).sv,.func (.func 36) #[] #[]] w (BsP K x w):=by
 obtain⟨a,c,rfl,hA⟩:=Qnb A
 have HA:Hid (∀w',Touch (fun _=>False) w w'→RwAt WY.cs 10 w' a K):=fun w' t=>Qch hA t
 have HSL:Hid (∀q∈K,∃a n c,q.hv=.slice a n c):=hsl
 have HUP:Hid (∀(i j:Nat) (p q:WY),i<j→K[i]?=some p→K[j]?=some q→p.x.elt q.x):=fun i j p q hij hp hq=>by
  have h:=List.pairwise_iff_getElem.1 hup i j (by rw [List.length_map];exact (List.getElem?_eq_some_iff.1 hp).1) (by rw [List.length_map];exact (List.getElem?_eq_some_iff.1 hq).1) hij
  rw [List.getElem_map,List.getElem_map,(List.getElem?_eq_some_iff.1 hp).2,(List.getElem?_eq_some_iff.1 hq).2] at h
  exact h
 have HNB:Hid (K.length≤60):=hn
 have HP:Hid (∀e w',(∃(i:Nat) (b:Bool),e=.returned (.tuple #[.int .i64 (i:Int),.bool b])∧Touch (fun _=>False) w w'∧i≤K.length∧(b=true→∃q,K[i]?=some q∧q.x.eq x)∧(b=false→∀q∈K,¬q.x.eq x))→BsP K x w e w'):=fun e w' h=>⟨h⟩
 generalize BsP K x w=Q at *
 have HEN:=fun (q:WY) (w:World)=>Qej q ⟨x,.slice xa xn xc⟩ w
 clear A hsl hup hn hA
 generalize hN:K.length=n at *
 have HN:Hid (K.length=n):=hN
 clear hN
 have hn60:(n:Int)≤60:=by have:=HNB.out;omega
 have hn00:(0:Int)≤(n:Int):=Qa6 _
 unfold WY.sv
 dsimp only at *
 obtain⟨w0,hw0⟩:∃u,u=w.alloc (.cells #[.int .u32 x.p.addr,.int .u8 x.p.bits,.int .u32 x.router,.int .u8 x.flags,.int .u8 x.kind,.int .u32 x.area,.int .u32 x.cost,.int .u32 x.dist,.int .u32 x.tag,.slice xa xn xc] 47):=⟨_,rfl⟩
 have HT0:Hid (Touch (fun _=>False) w w0):=by rw [hw0];exact (Touch.refl _ _).alloc _
 have HR0:Hid (Row w0 w.heap.size 47 [.int .u32 x.p.addr,.int .u8 x.p.bits,.int .u32 x.router,.int .u8 x.flags,.int .u8 x.kind,.int .u32 x.area,.int .u32 x.cost,.int .u32 x.dist,.int .u32 x.tag,.slice xa xn xc]):=by rw [hw0];exact Qac _ _ _
 obtain⟨g0,hg0⟩:∃g,g=w.heap.size:=⟨_,rfl⟩
 rw [←hg0] at HR0
 go_enter Tryz.func35,Tryz.ntmps35
 go_upto_region 1 with fail
 rw [←hw0,←hg0]
 clear hw0 hg0
 go_wp2_with fail
 go_loopg [9,10] n (fun gg s9 s10 wr=>∃lo hi:Nat,s9=.int .i64 (lo:Int)∧s10=.int .i64 (hi:Int)∧lo≤hi∧hi≤n∧hi-lo≤gg∧(∀(j:Nat) (q:WY),j<lo→K[j]?=some q→q.x.elt x)∧(∀(j:Nat) (q:WY),hi≤j→K[j]?=some q→¬q.x.elt x)∧Touch (fun _=>False) w0 wr)
 case atStart=>exact⟨0,n,rfl,rfl,Nat.zero_le _,Nat.le_refl _,Nat.le_refl _,fun j q h=>by omega,fun j q h hq=>by have h1:=(List.getElem?_eq_some_iff.1 hq).1;have h2:=HN.out;omega,Touch.refl _ _⟩
 case round =>
  obtain⟨lo,hi,rfl,rfl,h1,h2,hgg,hlo,hhi,htr⟩:=hrel
  have HLO:Hid (∀(j:Nat) (q:WY),j<lo→K[j]?=some q→q.x.elt x):=hlo
  have HHI:Hid (∀(j:Nat) (q:WY),hi≤j→K[j]?=some q→¬q.x.elt x):=hhi
  have HTR:Hid (Touch (fun _=>False) w0 wr):=htr
  have HB:Hid (lo≤hi∧hi≤n∧hi-lo≤gk):=⟨h1,h2,hgg⟩
  clear hlo hhi htr hgg
  by_cases hlt:lo<hi
  ·have hlt':(lo:Int)<(hi:Int):=Qbl hlt
   have l00:(0:Int)≤(lo:Int):=Qa6 _
   have h00:(0:Int)≤(hi:Int):=Qa6 _
   obtain⟨mid,hmid⟩:∃m,m=(lo+hi)/2:=⟨_,rfl⟩
   have HMID:Hid (lo≤mid∧mid<hi):=by constructor <;> omega
   have HMM:Hid (((lo:Int)+(hi:Int))/2=(mid:Int)):=(by omega:((lo:Int)+(hi:Int))/2=(mid:Int))
   have hm0:(0:Int)≤(mid:Int):=Qa6 _
   have hm1:(mid:Int)<(n:Int):=by have h1:=HMID.out;have h2:=HB.out;omega
   have hm2:wrap64 ((mid:Int)+1)=(mid:Int)+1:=Qes (by have h1:=HMID.out;have h2:=HB.out;have h3:=HNB.out;omega)
   obtain⟨q,hq⟩:=Qco HN.out (Nat.lt_of_lt_of_le HMID.out.2 HB.out.2.1)
   have HQ:Hid (K[mid]?=some q):=hq
   obtain⟨qa,qn,qc,eqv⟩:=HSL.out q (List.mem_of_getElem? hq)
   obtain⟨g,oo,rfl,-⟩:=Qbq (HA.out wr (HT0.out.trans HTR.out)) hq
   have EQV:Hid (q.hv=.slice qa qn qc):=eqv
   have HQR:∀w',Touch (fun _=>False) wr w'→w'.rangeAt g (oo+mid*10) [.int .u32 q.x.p.addr,.int .u8 q.x.p.bits,.int .u32 q.x.router,.int .u8 q.x.flags,.int .u8 q.x.kind,.int .u32 q.x.area,.int .u32 q.x.cost,.int .u32 q.x.dist,.int .u32 q.x.tag,.slice qa qn qc]:=fun w' t j v hj=>by
    obtain⟨g',o',e,q0,q1,q2,q3,q4,q5,q6,q7,q8,q9⟩:=Qbq (HA.out w' ((HT0.out.trans HTR.out).trans t)) HQ.out
    injection e with e
    injection e with e1 e2
    subst e1 e2
    rw [EQV.out] at q9
    match j,hj with
    | 0,hj=>cases hj;exact q0
    | 1,hj=>cases hj;exact q1
    | 2,hj=>cases hj;exact q2
    | 3,hj=>cases hj;exact q3
    | 4,hj=>cases hj;exact q4
    | 5,hj=>cases hj;exact q5
    | 6,hj=>cases hj;exact q6
    | 7,hj=>cases hj;exact q7
    | 8,hj=>cases hj;exact q8
    | 9,hj=>cases hj;exact q9
    | j+10,hj=>simp at hj
   have HXR:∀w',Touch (fun _=>False) wr w'→Row w' g0 47 [.int .u32 x.p.addr,.int .u8 x.p.bits,.int .u32 x.router,.int .u8 x.flags,.int .u8 x.kind,.int .u32 x.area,.int .u32 x.cost,.int .u32 x.dist,.int .u32 x.tag,.slice xa xn xc]:=fun w' t=>HR0.out.keep (HTR.out.trans t)
   have HEQ:=HEN q
   rw [eqv] at HEQ
   clear hq eqv
   go_upto_region 5 with fail
   rw [HMM.out]
   clear hmid
   have s0:Touch (fun _=>False) wr wr.drew:=(Touch.refl _ _).drew
   refine wp_region_held_drew (S:=fun w'=>Touch (fun _=>False) wr w') (by kernel_rfl) s0 (fun hHeld=>?_)
   refine wpAnyH_take (i:=0) (oi:=⟨some 24,_,_,_,_,_⟩) (v:=.func (.func 36) #[] #[]) rfl (by kernel_rfl) (by kernel_rfl) (by kernel_rfl) (fun _ _ _ h=>h) (Or.inl ⟨by rfl,fun w hw=>by go_simp⟩) (by assumption) ?_
   simp only [Act.put,Qo4,Qo5,Qo6]
   refine wpAnyH_take (i:=1) (oi:=⟨some 25,_,_,_,_,_⟩) (v:=.slice (some ⟨g,oo,none⟩) n c) rfl (by kernel_rfl) (by kernel_rfl) (by kernel_rfl) (fun _ _ _ h=>h) (Or.inl ⟨by rfl,fun w hw=>by go_simp⟩) (by assumption) ?_
   simp only [Act.put,Qo4,Qo5,Qo6]
   refine wpAnyH_take (i:=2) (oi:=⟨some 26,_,_,_,_,_⟩) (v:=.int .i64 (mid:Int)) rfl (by kernel_rfl) (by kernel_rfl) (by kernel_rfl) (fun _ _ _ h=>h) (Or.inl ⟨by rfl,fun w hw=>by go_simp⟩) (by assumption) ?_
   simp only [Act.put,Qo4,Qo5,Qo6]
   refine wpAnyH_take (i:=3) (oi:=⟨some 27,_,_,_,_,_⟩) (v:=.pointer (some ⟨g,oo+mid*10,none⟩)) rfl (by kernel_rfl) (by kernel_rfl) (by kernel_rfl) (fun _ _ _ h=>h) (Or.inl ⟨by rfl,fun w hw=>by go_simp⟩) (by assumption) ?_
   simp only [Act.put,Qo4,Qo5,Qo6]
   refine wpAnyH_take (i:=4) (oi:=⟨some 28,_,_,_,_,_⟩) (v:=.agg #[.int .u32 q.x.p.addr,.int .u8 q.x.p.bits,.int .u32 q.x.router,.int .u8 q.x.flags,.int .u8 q.x.kind,.int .u32 q.x.area,.int .u32 q.x.cost,.int .u32 q.x.dist,.int .u32 q.x.tag,.slice qa qn qc]) rfl (by kernel_rfl) (by kernel_rfl) (by kernel_rfl) (fun _ _ _ h=>h) (yieldsIf_load_mid (by rfl) _ _ rfl _ _ rfl [.int .u32 q.x.p.addr,.int .u8 q.x.p.bits,.int .u32 q.x.router,.int .u8 q.x.flags,.int .u8 q.x.kind,.int .u32 q.x.area,.int .u32 q.x.cost,.int .u32 q.x.dist,.int .u32 q.x.tag,.slice qa qn qc] _ (fun w h=>HQR w h) Tryz.underlying47 rfl (by kernel_rfl)) (by assumption) ?_
   simp only [Act.put,Qo4,Qo5,Qo6]
   refine wpAnyH_take (i:=5) (oi:=⟨some 29,_,_,_,_,_⟩) (v:=.agg #[.int .u32 x.p.addr,.int .u8 x.p.bits,.int .u32 x.router,.int .u8 x.flags,.int .u8 x.kind,.int .u32 x.area,.int .u32 x.cost,.int .u32 x.dist,.int .u32 x.tag,.slice xa xn xc]) rfl (by kernel_rfl) (by kernel_rfl) (by kernel_rfl) (fun _ _ _ h=>h) (yieldsIf_load_mid (by rfl) _ _ rfl _ _ rfl [.int .u32 x.p.addr,.int .u8 x.p.bits,.int .u32 x.router,.int .u8 x.flags,.int .u8 x.kind,.int .u32 x.area,.int .u32 x.cost,.int .u32 x.dist,.int .u32 x.tag,.slice xa xn xc] _ (fun w h=>Qbk (HXR w h)) Tryz.underlying47 rfl (by kernel_rfl)) (by assumption) ?_
   simp only [Act.put,Qo4,Qo5,Qo6]
   refine wpAnyH_ready (rs:=[6]) (by kernel_rfl) (by simp) ?_
   refine AllReadyH.cons (o:=⟨some 30,_,_,_,_,_⟩) rfl (fun K hK=>?_) AllReadyH.nil
   go_simp
   refine Calls.mono (HEQ _) ?_
   rintro e y1 ⟨rfl,u1⟩
   have s1:Touch (fun _=>False) wr y1:=s0.trans u1.t
   refine hK.out _ _ (by assumption) (fun hHeld=>?_)
   clear hK K
   refine wpAnyH_take (i:=7) (oi:=⟨some 31,_,_,_,_,_⟩) (v:=.bool (decide (endC q.x x<0))) rfl (by kernel_rfl) (by kernel_rfl) (by kernel_rfl) (fun _ _ _ h=>h) (Or.inl ⟨by rfl,fun w hw=>by go_simp⟩) (by assumption) ?_
   simp only [Act.put,Qo4,Qo5,Qo6]
   refine wpAnyH_done (by kernel_rfl) ?_ _
   have HT1:Hid (Touch (fun _=>False) w0 y1):=HTR.out.trans s1
   clear HQR HXR HEQ s0 s1 u1 hHeld
   by_cases he:endC q.x x<0
   ·have hd:decide (endC q.x x<0)=true:=decide_eq_true he
    rw [hd]
    have HLO2:Hid (∀(j:Nat) (p:WY),j<mid+1→K[j]?=some p→p.x.elt x):=fun j p hj hp=>by
     have hqx:=(Qc6 _ _).1 he
     rcases Nat.lt_or_ge j mid with h|h
     ·exact WP.elt_trans (HUP.out j mid p q h hp HQ.out) hqx
     ·obtain rfl:j=mid:=by omega
      rw [HQ.out] at hp;cases hp;exact hqx
    clear hd he
    go_wp2_with fail
    go_roundg (hi-(mid+1))
    case measure=>have h1:=HMID.out;have h2:=HB.out;omega
    case rel=>exact⟨mid+1,hi,by first|exact Qam hm2|exact Qam rfl,rfl,HMID.out.2,HB.out.2.1,Nat.le_refl _,HLO2.out,HHI.out,HT1.out⟩
   ·have hd:decide (endC q.x x<0)=false:=decide_eq_false he
    rw [hd]
    have HHI2:Hid (∀(j:Nat) (p:WY),mid≤j→K[j]?=some p→¬p.x.elt x):=fun j p hj hp hpx=>by
     rcases Nat.lt_or_ge mid j with h|h
     ·exact he ((Qc6 _ _).2 (WP.elt_trans (HUP.out mid j q p h HQ.out hp) hpx))
     ·obtain rfl:j=mid:=by omega
      rw [HQ.out] at hp;cases hp;exact he ((Qc6 _ _).2 hpx)
    clear hd he
    go_wp2_with fail
    go_roundg (mid-lo)
    case measure=>have h1:=HMID.out;have h2:=HB.out;omega
    case rel=>exact⟨lo,mid,rfl,rfl,HMID.out.1,Nat.le_of_lt (Nat.lt_of_lt_of_le HMID.out.2 HB.out.2.1),Nat.le_refl _,HLO.out,HHI2.out,HT1.out⟩
  ·skip
   obtain rfl:lo=hi:=Nat.le_antisymm h1 (Nat.le_of_not_lt hlt)
   have hlt':¬(lo:Int)<(lo:Int):=Int.lt_irrefl _
   have l00:(0:Int)≤(lo:Int):=Qa6 _
   by_cases hln:lo<n
   ·have hln':(lo:Int)<(n:Int):=Qbl hln
    obtain⟨q,hq⟩:=Qco HN.out hln
    have HQ:Hid (K[lo]?=some q):=hq
    obtain⟨qa,qn,qc,eqv⟩:=HSL.out q (List.mem_of_getElem? hq)
    obtain⟨g,oo,rfl,-⟩:=Qbq (HA.out wr (HT0.out.trans HTR.out)) hq
    have EQV:Hid (q.hv=.slice qa qn qc):=eqv
    have HQR:∀w',Touch (fun _=>False) wr w'→w'.rangeAt g (oo+lo*10) [.int .u32 q.x.p.addr,.int .u8 q.x.p.bits,.int .u32 q.x.router,.int .u8 q.x.flags,.int .u8 q.x.kind,.int .u32 q.x.area,.int .u32 q.x.cost,.int .u32 q.x.dist,.int .u32 q.x.tag,.slice qa qn qc]:=fun w' t j v hj=>by
     obtain⟨g',o',e,q0,q1,q2,q3,q4,q5,q6,q7,q8,q9⟩:=Qbq (HA.out w' ((HT0.out.trans HTR.out).trans t)) HQ.out
     injection e with e
     injection e with e1 e2
     subst e1 e2
     rw [EQV.out] at q9
     match j,hj with
     | 0,hj=>cases hj;exact q0
     | 1,hj=>cases hj;exact q1
     | 2,hj=>cases hj;exact q2
     | 3,hj=>cases hj;exact q3
     | 4,hj=>cases hj;exact q4
     | 5,hj=>cases hj;exact q5
     | 6,hj=>cases hj;exact q6
     | 7,hj=>cases hj;exact q7
     | 8,hj=>cases hj;exact q8
     | 9,hj=>cases hj;exact q9
     | j+10,hj=>simp at hj
    have HXR:∀w',Touch (fun _=>False) wr w'→Row w' g0 47 [.int .u32 x.p.addr,.int .u8 x.p.bits,.int .u32 x.router,.int .u8 x.flags,.int .u8 x.kind,.int .u32 x.area,.int .u32 x.cost,.int .u32 x.dist,.int .u32 x.tag,.slice xa xn xc]:=fun w' t=>HR0.out.keep (HTR.out.trans t)
    have HEQ:=HEN q
    rw [eqv] at HEQ
    clear hq eqv
    clear h1 h2 hlt
    go_upto_region 8 with fail
    have s0:Touch (fun _=>False) wr wr.drew:=(Touch.refl _ _).drew
    refine wp_region_held_drew (S:=fun w'=>Touch (fun _=>False) wr w') (by kernel_rfl) s0 (fun hHeld=>?_)
    refine wpAnyH_take (i:=0) (oi:=⟨some 35,_,_,_,_,_⟩) (v:=.int .i64 (lo:Int)) rfl (by kernel_rfl) (by kernel_rfl) (by kernel_rfl) (fun _ _ _ h=>h) (Or.inl ⟨by rfl,fun w hw=>by go_simp⟩) (by assumption) ?_
    simp only [Act.put,Qo4,Qo5,Qo6]
    refine wpAnyH_take (i:=1) (oi:=⟨some 36,_,_,_,_,_⟩) (v:=.int .i64 (lo:Int)) rfl (by kernel_rfl) (by kernel_rfl) (by kernel_rfl) (fun _ _ _ h=>h) (Or.inl ⟨by rfl,fun w hw=>by go_simp⟩) (by assumption) ?_
    simp only [Act.put,Qo4,Qo5,Qo6]
    refine wpAnyH_take (i:=2) (oi:=⟨some 37,_,_,_,_,_⟩) (v:=.int .i64 (n:Int)) rfl (by kernel_rfl) (by kernel_rfl) (by kernel_rfl) (fun _ _ _ h=>h) (Or.inl ⟨by rfl,fun w hw=>by go_simp⟩) (by assumption) ?_
    simp only [Act.put,Qo4,Qo5,Qo6]
    refine wpAnyH_take (i:=3) (oi:=⟨some 38,_,_,_,_,_⟩) (v:=.bool true) rfl (by kernel_rfl) (by kernel_rfl) (by kernel_rfl) (fun _ _ _ h=>h) (Or.inl ⟨by rfl,fun w hw=>by go_simp⟩) (by assumption) ?_
    simp only [Act.put,Qo4,Qo5,Qo6]
    refine wpAnyH_take (i:=4) (oi:=⟨some 39,_,_,_,_,_⟩) (v:=.bool true) rfl (by kernel_rfl) (by kernel_rfl) (by kernel_rfl) (fun _ _ _ h=>h) (Or.inl ⟨by rfl,fun w hw=>by go_simp⟩) (by assumption) ?_
    simp only [Act.put,Qo4,Qo5,Qo6]
    refine wpAnyH_take (i:=5) (oi:=⟨some 40,_,_,_,_,_⟩) (v:=.func (.func 36) #[] #[]) rfl (by kernel_rfl) (by kernel_rfl) (by kernel_rfl) (fun _ _ _ h=>h) (Or.inl ⟨by rfl,fun w hw=>by go_simp⟩) (by assumption) ?_
    simp only [Act.put,Qo4,Qo5,Qo6]
    refine wpAnyH_take (i:=6) (oi:=⟨some 41,_,_,_,_,_⟩) (v:=.slice (some ⟨g,oo,none⟩) n c) rfl (by kernel_rfl) (by kernel_rfl) (by kernel_rfl) (fun _ _ _ h=>h) (Or.inl ⟨by rfl,fun w hw=>by go_simp⟩) (by assumption) ?_
    simp only [Act.put,Qo4,Qo5,Qo6]
    refine wpAnyH_take (i:=7) (oi:=⟨some 42,_,_,_,_,_⟩) (v:=.int .i64 (lo:Int)) rfl (by kernel_rfl) (by kernel_rfl) (by kernel_rfl) (fun _ _ _ h=>h) (Or.inl ⟨by rfl,fun w hw=>by go_simp⟩) (by assumption) ?_
    simp only [Act.put,Qo4,Qo5,Qo6]
    refine wpAnyH_take (i:=8) (oi:=⟨some 43,_,_,_,_,_⟩) (v:=.pointer (some ⟨g,oo+lo*10,none⟩)) rfl (by kernel_rfl) (by kernel_rfl) (by kernel_rfl) (fun _ _ _ h=>h) (Or.inl ⟨by rfl,fun w hw=>by go_simp⟩) (by assumption) ?_
    simp only [Act.put,Qo4,Qo5,Qo6]
    refine wpAnyH_take (i:=9) (oi:=⟨some 44,_,_,_,_,_⟩) (v:=.agg #[.int .u32 q.x.p.addr,.int .u8 q.x.p.bits,.int .u32 q.x.router,.int .u8 q.x.flags,.int .u8 q.x.kind,.int .u32 q.x.area,.int .u32 q.x.cost,.int .u32 q.x.dist,.int .u32 q.x.tag,.slice qa qn qc]) rfl (by kernel_rfl) (by kernel_rfl) (by kernel_rfl) (fun _ _ _ h=>h) (yieldsIf_load_mid (by rfl) _ _ rfl _ _ rfl [.int .u32 q.x.p.addr,.int .u8 q.x.p.bits,.int .u32 q.x.router,.int .u8 q.x.flags,.int .u8 q.x.kind,.int .u32 q.x.area,.int .u32 q.x.cost,.int .u32 q.x.dist,.int .u32 q.x.tag,.slice qa qn qc] _ (fun w h=>HQR w h) Tryz.underlying47 rfl (by kernel_rfl)) (by assumption) ?_
    simp only [Act.put,Qo4,Qo5,Qo6]
    refine wpAnyH_take (i:=10) (oi:=⟨some 45,_,_,_,_,_⟩) (v:=.agg #[.int .u32 x.p.addr,.int .u8 x.p.bits,.int .u32 x.router,.int .u8 x.flags,.int .u8 x.kind,.int .u32 x.area,.int .u32 x.cost,.int .u32 x.dist,.int .u32 x.tag,.slice xa xn xc]) rfl (by kernel_rfl) (by kernel_rfl) (by kernel_rfl) (fun _ _ _ h=>h) (yieldsIf_load_mid (by rfl) _ _ rfl _ _ rfl [.int .u32 x.p.addr,.int .u8 x.p.bits,.int .u32 x.router,.int .u8 x.flags,.int .u8 x.kind,.int .u32 x.area,.int .u32 x.cost,.int .u32 x.dist,.int .u32 x.tag,.slice xa xn xc] _ (fun w h=>Qbk (HXR w h)) Tryz.underlying47 rfl (by kernel_rfl)) (by assumption) ?_
    simp only [Act.put,Qo4,Qo5,Qo6]
    refine wpAnyH_ready (rs:=[11]) (by kernel_rfl) (by simp) ?_
    refine AllReadyH.cons (o:=⟨some 46,_,_,_,_,_⟩) rfl (fun K hK=>?_) AllReadyH.nil
    go_simp
    refine Calls.mono (HEQ _) ?_
    rintro e y1 ⟨rfl,u1⟩
    have s1:Touch (fun _=>False) wr y1:=s0.trans u1.t
    refine hK.out _ _ (by assumption) (fun hHeld=>?_)
    clear hK K
    refine wpAnyH_take (i:=12) (oi:=⟨some 47,_,_,_,_,_⟩) (v:=.bool (endC q.x x==0)) rfl (by kernel_rfl) (by kernel_rfl) (by kernel_rfl) (fun _ _ _ h=>h) (Or.inl ⟨by rfl,fun w hw=>by go_simp⟩) (by assumption) ?_
    simp only [Act.put,Qo4,Qo5,Qo6]
    refine wpAnyH_take (i:=13) (oi:=⟨some 48,_,_,_,_,_⟩) (v:=.bool (endC q.x x==0)) rfl (by kernel_rfl) (by kernel_rfl) (by kernel_rfl) (fun _ _ _ h=>h) (Or.inl ⟨by rfl,fun w hw=>by go_simp⟩) (by assumption) ?_
    simp only [Act.put,Qo4,Qo5,Qo6]
    refine wpAnyH_take (i:=14) (oi:=⟨some 6,_,_,_,_,_⟩) (v:=.int .i64 (lo:Int)) rfl (by kernel_rfl) (by kernel_rfl) (by kernel_rfl) (fun _ _ _ h=>h) (Or.inl ⟨by rfl,fun w hw=>by go_simp⟩) (by assumption) ?_
    simp only [Act.put,Qo4,Qo5,Qo6]
    refine wpAnyH_take (i:=15) (oi:=⟨some 7,_,_,_,_,_⟩) (v:=.bool (endC q.x x==0)) rfl (by kernel_rfl) (by kernel_rfl) (by kernel_rfl) (fun _ _ _ h=>h) (Or.inl ⟨by rfl,fun w hw=>by go_simp⟩) (by assumption) ?_
    simp only [Act.put,Qo4,Qo5,Qo6]
    refine wpAnyH_done (by kernel_rfl) ?_ _
    have HT1:Hid (Touch (fun _=>False) w0 y1):=HTR.out.trans s1
    clear HQR HXR HEQ s0 s1 u1 hHeld
    have HNO:Hid (¬q.x.eq x→∀p∈K,¬p.x.eq x):=fun hne p hp hpe=>by
     obtain⟨j,hj⟩:=List.mem_iff_getElem?.1 hp
     rcases Nat.lt_trichotomy j lo with h|h|h
     ·exact WP.elt_ne (HLO.out j p h hj) hpe
     ·subst h;rw [HQ.out] at hj;cases hj;exact hne hpe
     ·exact HHI.out lo q (Nat.le_refl _) HQ.out (WP.elt_eq (HUP.out lo j q p h HQ.out hj) hpe)
    go_wp2_with fail
    exact HP.out _ _ ⟨lo,endC q.x x==0,rfl,HT0.out.trans HT1.out,HB.out.2.1,fun h=>⟨q,HQ.out,(Qbc _ _).1 (by simpa using h)⟩,fun h=>HNO.out (fun he=>by have:=(Qbc _ _).2 he;simp [this] at h)⟩
   ·have hln':¬(lo:Int)<(n:Int):=Qju hln
    have HNN:Hid (n≤lo):=Nat.le_of_not_lt hln
    clear h1 h2 hlt hln
    go_upto_region 8 with fail
    have s0:Touch (fun _=>False) wr wr.drew:=(Touch.refl _ _).drew
    refine wp_region_held_drew (S:=fun w'=>Touch (fun _=>False) wr w') (by kernel_rfl) s0 (fun hHeld=>?_)
    refine wpAnyH_take (i:=0) (oi:=⟨some 35,_,_,_,_,_⟩) (v:=.int .i64 (lo:Int)) rfl (by kernel_rfl) (by kernel_rfl) (by kernel_rfl) (fun _ _ _ h=>h) (Or.inl ⟨by rfl,fun w hw=>by go_simp⟩) (by assumption) ?_
    simp only [Act.put,Qo4,Qo5,Qo6]
    refine wpAnyH_take (i:=1) (oi:=⟨some 36,_,_,_,_,_⟩) (v:=.int .i64 (lo:Int)) rfl (by kernel_rfl) (by kernel_rfl) (by kernel_rfl) (fun _ _ _ h=>h) (Or.inl ⟨by rfl,fun w hw=>by go_simp⟩) (by assumption) ?_
    simp only [Act.put,Qo4,Qo5,Qo6]
    refine wpAnyH_take (i:=2) (oi:=⟨some 37,_,_,_,_,_⟩) (v:=.int .i64 (n:Int)) rfl (by kernel_rfl) (by kernel_rfl) (by kernel_rfl) (fun _ _ _ h=>h) (Or.inl ⟨by rfl,fun w hw=>by go_simp⟩) (by assumption) ?_
    simp only [Act.put,Qo4,Qo5,Qo6]
    refine wpAnyH_take (i:=3) (oi:=⟨some 38,_,_,_,_,_⟩) (v:=.bool false) rfl (by kernel_rfl) (by kernel_rfl) (by kernel_rfl) (fun _ _ _ h=>h) (Or.inl ⟨by rfl,fun w hw=>by go_simp⟩) (by assumption) ?_
    simp only [Act.put,Qo4,Qo5,Qo6]
    refine wpAnyH_take (i:=4) (oi:=⟨some 39,_,_,_,_,_⟩) (v:=.bool false) rfl (by kernel_rfl) (by kernel_rfl) (by kernel_rfl) (fun _ _ _ h=>h) (Or.inl ⟨by rfl,fun w hw=>by go_simp⟩) (by assumption) ?_
    simp only [Act.put,Qo4,Qo5,Qo6]
    refine wpAnyH_take (i:=5) (oi:=⟨some 40,_,_,_,_,_⟩) (v:=undef) rfl (by kernel_rfl) (by kernel_rfl) (by kernel_rfl) (fun _ _ _ h=>h) (Or.inr ⟨by rfl,rfl⟩) (by assumption) ?_
    simp only [Act.put,Qo4,Qo5,Qo6]
    refine wpAnyH_take (i:=6) (oi:=⟨some 41,_,_,_,_,_⟩) (v:=undef) rfl (by kernel_rfl) (by kernel_rfl) (by kernel_rfl) (fun _ _ _ h=>h) (Or.inr ⟨by rfl,rfl⟩) (by assumption) ?_
    simp only [Act.put,Qo4,Qo5,Qo6]
    refine wpAnyH_take (i:=7) (oi:=⟨some 42,_,_,_,_,_⟩) (v:=undef) rfl (by kernel_rfl) (by kernel_rfl) (by kernel_rfl) (fun _ _ _ h=>h) (Or.inr ⟨by rfl,rfl⟩) (by assumption) ?_
    simp only [Act.put,Qo4,Qo5,Qo6]
    refine wpAnyH_take (i:=8) (oi:=⟨some 43,_,_,_,_,_⟩) (v:=undef) rfl (by kernel_rfl) (by kernel_rfl) (by kernel_rfl) (fun _ _ _ h=>h) (Or.inr ⟨by rfl,rfl⟩) (by assumption) ?_
    simp only [Act.put,Qo4,Qo5,Qo6]
    refine wpAnyH_take (i:=9) (oi:=⟨some 44,_,_,_,_,_⟩) (v:=undef) rfl (by kernel_rfl) (by kernel_rfl) (by kernel_rfl) (fun _ _ _ h=>h) (Or.inr ⟨by rfl,rfl⟩) (by assumption) ?_
    simp only [Act.put,Qo4,Qo5,Qo6]
    refine wpAnyH_take (i:=10) (oi:=⟨some 45,_,_,_,_,_⟩) (v:=undef) rfl (by kernel_rfl) (by kernel_rfl) (by kernel_rfl) (fun _ _ _ h=>h) (Or.inr ⟨by rfl,rfl⟩) (by assumption) ?_
    simp only [Act.put,Qo4,Qo5,Qo6]
    refine wpAnyH_take (i:=11) (oi:=⟨some 46,_,_,_,_,_⟩) (v:=undef) rfl (by kernel_rfl) (by kernel_rfl) (by kernel_rfl) (fun _ _ _ h=>h) (Or.inr ⟨by rfl,rfl⟩) (by assumption) ?_
    simp only [Act.put,Qo4,Qo5,Qo6]
    refine wpAnyH_take (i:=12) (oi:=⟨some 47,_,_,_,_,_⟩) (v:=undef) rfl (by kernel_rfl) (by kernel_rfl) (by kernel_rfl) (fun _ _ _ h=>h) (Or.inr ⟨by rfl,rfl⟩) (by assumption) ?_
    simp only [Act.put,Qo4,Qo5,Qo6]
    refine wpAnyH_take (i:=13) (oi:=⟨some 48,_,_,_,_,_⟩) (v:=.bool false) rfl (by kernel_rfl) (by kernel_rfl) (by kernel_rfl) (fun _ _ _ h=>h) (Or.inl ⟨by rfl,fun w hw=>by go_simp⟩) (by assumption) ?_
    simp only [Act.put,Qo4,Qo5,Qo6]
    refine wpAnyH_take (i:=14) (oi:=⟨some 6,_,_,_,_,_⟩) (v:=.int .i64 (lo:Int)) rfl (by kernel_rfl) (by kernel_rfl) (by kernel_rfl) (fun _ _ _ h=>h) (Or.inl ⟨by rfl,fun w hw=>by go_simp⟩) (by assumption) ?_
    simp only [Act.put,Qo4,Qo5,Qo6]
    refine wpAnyH_take (i:=15) (oi:=⟨some 7,_,_,_,_,_⟩) (v:=.bool false) rfl (by kernel_rfl) (by kernel_rfl) (by kernel_rfl) (fun _ _ _ h=>h) (Or.inl ⟨by rfl,fun w hw=>by go_simp⟩) (by assumption) ?_
    simp only [Act.put,Qo4,Qo5,Qo6]
    refine wpAnyH_done (by kernel_rfl) ?_ _
    have HT1:Hid (Touch (fun _=>False) w0 wr.drew):=HTR.out.trans s0
    clear s0 hHeld
    have HNO:Hid (∀p∈K,¬p.x.eq x):=fun p hp hpe=>by
     obtain⟨j,hj⟩:=List.mem_iff_getElem?.1 hp
     have h1:=(List.getElem?_eq_some_iff.1 hj).1
     have h2:=HN.out
     have h3:=HNN.out
     exact WP.elt_ne (HLO.out j p (by omega) hj) hpe
    go_wp2_with fail
    exact HP.out _ _ ⟨lo,false,rfl,HT0.out.trans HT1.out,HB.out.2.1,(fun h=>absurd h (by decide)),fun _=>HNO.out⟩
end Go.Proofs.YtldmkoogghemhaaGreat
