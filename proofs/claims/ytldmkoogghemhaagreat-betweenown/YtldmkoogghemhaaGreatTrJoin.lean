import Derived.Test.YtldmkoogghemhaaGreatTrInv
import Derived.BigQuiet
namespace Go.Proofs.YtldmkoogghemhaaGreat
set_option maxHeartbeats 8000000
open Go.RowKit
set_option linter.unusedVariables false
set_option maxRecDepth 100000
def jn:List HK→List HK→List HK
 | l,[]=>l
 | l,h::t=>if l.getLast?=some h then jn l t else jn (l++[h]) t
theorem Ql2 (l:List HK) (h:HK):jn l [h]=if l.getLast?=some h then l else l++[h]:=by
 simp only [jn]
theorem Qjj (l m:List HK):(jn l m).length≤l.length+m.length:=by
 induction m generalizing l with
 | nil=>simp [jn]
 | cons h t ih =>
  simp only [jn]
  split
  ·have:=ih l;simp;omega
  ·have:=ih (l++[h]);simp at this ⊢;omega
theorem Qmi (l m:List HK) (i:Nat) (h:HK) (hi:m[i]?=some h):jn l (m.take (i+1))=jn (jn l (m.take i)) [h]:=by
 have e:m.take (i+1)=m.take i++[h]:=by
  have hl:=(List.getElem?_eq_some_iff.1 hi).1
  rw [List.take_add_one,hi];rfl
 rw [e]
 generalize m.take i=p
 induction p generalizing l with
 | nil=>rfl
 | cons a p ih =>
  simp only [List.cons_append,jn]
  split
  ·exact ih l
  ·exact ih _
theorem Qmt (l:List HK) (hl:0<l.length):l.getLast?=l[l.length-1]?:=List.getLast?_eq_getElem? ..
theorem infoHop:(Tryz.prog.info? 53).map (fun i=>(i.zero,i.size,i.bytes))=some (some (.agg #[.int .u32 0,.int .u32 0,.bool false]),3,12):=by kernel_rfl
def HopsAt (w:World) (v:Value) (m:List HK):Prop:=∃a c,v=.slice a m.length c∧(m=[]∨∃g,a=some ⟨g,0,none⟩∧∀i x,m[i]?=some x→∀d u,x.cs[d]?=some u→w.cell? ⟨g,i*3+d,none⟩=some u)
structure JoinP (w:World) (B:Nat) (v:Value) (l':List HK) (e:Ending) (w':World):Prop where
 out:∃v',e=.returned v'∧RH B w' v' l'∧(v'.ownBlock=v.ownBlock∨∃g,v'.ownBlock=some g∧w.heap.size≤g)
 t:Touch (fun k=>v.ownBlock=some k) w w'
structure JnR (w:World) (B:Nat) (v:Value) (l m:List HK) (i:Nat) (v':Value) (w':World):Prop where
 re:RH B w' v' (jn l (m.take i))
 ow:v'.ownBlock=v.ownBlock∨∃g,v'.ownBlock=some g∧w.heap.size≤g
 t:Touch (fun k=>v.ownBlock=some k) w w'
theorem JnR.keep {w w' w2:World} {B:Nat} {v v':Value} {l m:List HK} {i:Nat} (X:JnR w B v l m i v' w') (t:Touch (fun _=>False) w' w2) (h:jn l (m.take (i+1))=jn l (m.take i)):JnR w B v l m (i+1) v' w2 :=
 ⟨by rw [h];exact X.re.keepN t,X.ow,X.t.trans (t.mono (fun _ _ h=>h.elim))⟩
theorem JnR.app {w w' w2 w3:World} {B:Nat} {v v' v3:Value} {l m:List HK} {i:Nat} {x:HK} (X:JnR w B v l m i v' w') (t:Touch (fun _=>False) w' w2) (h:jn l (m.take (i+1))=jn l (m.take i)++[x])
  (own:w3.ownsRow B 53 3 v3 ((jn l (m.take i)).length+1) (cellsG HK.cs (jn l (m.take i))++x.cs)) (gr:w2.grownBy w3 v'.ownBlock) (hat:v3.ownBlock=v'.ownBlock∨v3.ownBlock=some w2.heap.size):JnR w B v l m (i+1) v3 w3:=by
 refine⟨?_,?_,?_⟩
 ·rw [h]
  unfold RH RG
  rw [List.length_append,Qap]
  simpa [cellsG] using own
 ·rcases hat with e|e
  ·rw [e];exact X.ow
  ·exact Or.inr ⟨_,e,Nat.le_trans X.t.size t.size⟩
 ·refine Touch.grown (X.t.trans (t.mono (fun _ _ h=>h.elim))) gr (fun k hk=>?_)
  rcases X.ow with e|⟨g,e,hg⟩
  ·exact Or.inl (by rw [←e];exact hk)
  ·rw [e] at hk;injection hk with hk;exact Or.inr (by omega)
theorem eqHop (x y:HK) (w:World):(Op.equalIn 10000 53 (.agg #[.int .u32 x.out,.int .u32 x.via,.bool x.vr]) (.agg #[.int .u32 y.out,.int .u32 y.via,.bool y.vr])).run Tryz.prog w=.ok (decide (x=y)) w:=by
 have hS:Tryz.prog.underlying 53=some (.struct (Tryz.prog.fieldsOf 53)):=by kernel_rfl
 rw [show (10000:Nat)=9999+1 from rfl,run_equalIn_agg w 9999 53 _ _ hS (by kernel_rfl)]
 simp only [Program.fieldsOf,Tryz.underlying53]
 go_simp
 obtain⟨a,b,c⟩:=x
 obtain⟨a',b',c'⟩:=y
 by_cases h1:a=a' <;> by_cases h2:b=b' <;> by_cases h3:c=c' <;> simp [h1,h2,h3]
theorem Qlv (w:World) (B:Nat) (v mv:Value) (l m:List HK) (L:RH B w v l) (M:HopsAt w mv m) (hn:∀k,v.ownBlock=some k→mv.ownBlock≠some k) (hB:B≤w.heap.size) (hl:l.length+m.length≤1099511627776) :
  Calls Tryz.prog 77 #[v,mv] w (JoinP w B v (jn l m)):=by
 obtain⟨a,c,rfl,hm⟩:=M
 have R0:JnR w B v l m 0 v w:=⟨L,Or.inl rfl,Touch.refl _ _⟩
 have HR0:Hid _:=R0
 have HN:Hid _:=hn
 have HBB:Hid _:=hB
 have HM:Hid _:=hm
 have HL:Hid (l.length+m.length≤1099511627776):=hl
 have hml:(m.length:Int)≤1099511627776:=by omega
 generalize hmm:m.length=M at *
 have HMM:Hid _:=hmm
 clear hmm R0 hn hB hm hl L
 obtain⟨i0,hi0,hz0,hz1,hz2⟩:=infoParts infoHop
 go_enter Tryz.func77,Tryz.ntmps77
 go_wp2_with fail
 go_loopw [0,9] (fun s0 s9 wx=>∃i:Nat,s9=.int .i64 i∧i≤M∧JnR w B v l m i s0 wx) (fun _ s9 _=>M-(intOf s9).toNat)
 case atStart=>exact⟨0,rfl,Nat.zero_le _,HR0.out⟩
 case round =>
  clear HR0
  obtain⟨i,rfl,hi,X⟩:=hrel
  obtain⟨ua,uc,rfl⟩:=X.re.shape
  have HX:Hid _:=X
  by_cases hiM:i<M
  ·obtain⟨x,hx⟩:∃x,m[i]?=some x:=⟨_,List.getElem?_eq_getElem (by have:=HMM.out;omega)⟩
   rcases HM.out with e|⟨g,rfl,hc⟩
   ·rw [e] at hx;cases hx
   have hgv:v.ownBlock≠some g:=fun e=>HN.out g e rfl
   have q:∀d u,x.cs[d]?=some u→wr.cell? ⟨g,i*3+d,none⟩=some u:=fun d u hd=>(X.t.cell (p:=⟨g,i*3+d,none⟩) (Qaa (hc i x hx d u hd)) (fun e=>hgv e)).trans (hc i x hx d u hd)
   have q0:wr.cell? ⟨g,i*3,none⟩=some (.int .u32 x.out):=q 0 _ rfl
   have q1:wr.cell? ⟨g,i*3+1,none⟩=some (.int .u32 x.via):=q 1 _ rfl
   have q2:wr.cell? ⟨g,i*3+2,none⟩=some (.bool x.vr):=q 2 _ rfl
   have HS:Hid (jn l (m.take (i+1))=jn (jn l (m.take i)) [x]):=Qmi l m i x hx
   have HW:Hid (B≤wr.heap.size):=Nat.le_trans HBB.out X.t.size
   have HLN:Hid ((jn l (m.take i)).length+1≤1099511627776):=by
    have h1:=Qjj l (m.take i)
    have h2:=HL.out
    have h3:(m.take i).length=i:=by simp;have:=HMM.out;omega
    show _≤_
    omega
   have i1:(i:Int)<(M:Int):=by omega
   have i0':(0:Int)≤(i:Int):=by omega
   have HRE:Hid (RH B wr (.slice ua (jn l (m.take i)).length uc) (jn l (m.take i))):=X.re
   have HAPP:Hid (∀w2 w3 v3,Touch (fun _=>False) wr w2→(jn l (m.take i)).getLast?≠some x→w3.ownsRow B 53 3 v3 ((jn l (m.take i)).length+1) (cellsG HK.cs (jn l (m.take i))++x.cs)→w2.grownBy w3 (Value.ownBlock (.slice ua (jn l (m.take i)).length uc))→(v3.ownBlock=Value.ownBlock (.slice ua (jn l (m.take i)).length uc)∨v3.ownBlock=some w2.heap.size)→JnR w B v l m (i+1) v3 w3):=by
    intro w2 w3 v3 t hq own gr hat
    exact HX.out.app t (by rw [HS.out,Ql2,if_neg hq]) own gr hat
   have HKP:Hid (∀w2,Touch (fun _=>False) wr w2→(jn l (m.take i)).getLast?=some x→JnR w B v l m (i+1) (.slice ua (jn l (m.take i)).length uc) w2):=by
    intro w2 t hq
    exact HX.out.keep t (by rw [HS.out,Ql2,if_pos hq])
   clear X HX HS q hc hx
   generalize jn l (m.take i)=lc at *
   rcases Nat.eq_zero_or_pos lc.length with h0|h0
   ·have e:lc=[]:=List.length_eq_zero_iff.1 h0
    subst e
    have HQ:Hid (([]:List HK).getLast?≠some x):=by show _≠_;simp
    clear h0
    simp only [List.length_nil] at *
    go_wp2_with fail
    go_quiet (fail)
    go_wp2_with (at_builtin;refine wpList_append_own_at _ rfl (.tmp 26) (.tmp 28) 45 rfl B 53 i0 _ 3 12 Tryz.underlying45 hi0 hz0 hz1 hz2 rfl (by omega) (.slice ua 0 uc) 0 (cellsG HK.cs []) rfl ?c1 ⟨wr.heap.size+1,0,none⟩ 1 1 x.cs rfl rfl ?c2 ?c3 (by have:=HLN.out;unfold maxLen;omega) (by have:=HLN.out;omega) ?c4 ?_)
    case c1=>exact RG.keepN HRE.out ((((Touch.refl _ wr).alloc _).alloc _).drewN _)
    case c2=>exact (fun j u hj=>by
     rcases (by have:=(List.getElem?_eq_some_iff.1 hj).1;simp [HK.cs] at this;omega:j=0∨j=1∨j=2) with rfl|rfl|rfl <;> (simp [HK.cs] at hj;subst hj;simp [Addr.add,go_sem]))
    case c3=>exact (fun u hu=>by simp [HK.cs] at hu;rcases hu with rfl|rfl|rfl <;> rfl)
    case c4=>exact Nat.le_trans HW.out (Touch.size ((((Touch.refl (fun _=>False) wr).alloc _).alloc _).drewN _))
    intro v3 w3 own3 gr3 _ hat3
    have XN:Hid _:=HAPP.out _ w3 v3 (by exact (((Touch.refl (fun _=>False) wr).alloc _).alloc _).drewN _) HQ.out own3 gr3 (by simpa using hat3)
    clear own3 gr3 hat3
    go_wp2_with fail
    go_roundw
    case rel=>exact⟨i+1,by go_num,by omega,XN.out⟩
    case measure=>simp [intOf];omega
   ·obtain⟨k,hk⟩:∃k,lc.length=k+1:=⟨lc.length-1,by omega⟩
    obtain⟨y,hy⟩:∃y,lc[k]?=some y:=⟨_,List.getElem?_eq_getElem (by omega)⟩
    have hlast:lc.getLast?=some y:=by rw [Qmt lc h0,hk];exact hy
    obtain⟨gl,cap,hua,hcap,hgl,-⟩:=HRE.out.form h0
    injection hua with e1 e2 e3
    subst e1
    subst e3
    have y0:wr.cell? ⟨gl,k*3,none⟩=some (.int .u32 y.out):=RG.cell (d:=0) HK.len HRE.out hy rfl
    have y1:wr.cell? ⟨gl,k*3+1,none⟩=some (.int .u32 y.via):=RG.cell (d:=1) HK.len HRE.out hy rfl
    have y2:wr.cell? ⟨gl,k*3+2,none⟩=some (.bool y.vr):=RG.cell (d:=2) HK.len HRE.out hy rfl
    have HK1:Hid (lc.length=k+1):=hk
    have hLk:(lc.length:Int)=(k:Int)+1:=by omega
    have k0:(0:Int)≤(k:Int):=by omega
    have k2:(k:Int)≤1099511627776:=by have:=HLN.out;omega
    generalize hLL:lc.length=LL at *
    have hLk0:((LL:Int)==0)=false:=by simp;omega
    have hkL:(k:Int)<(LL:Int):=by omega
    have hsub:IntKind.i64.wrap ((LL:Int)-1)=(k:Int):=by rw [hLk,Int.add_sub_cancel];exact IntWalk.i64_in _ (by omega)
    have HLL:Hid (lc.length=LL):=hLL
    clear hLL hk hcap h0 hy hLk
    have HE:=eqHop y x
    by_cases hq:y=x
    ·have HKX:Hid _:=fun w2 t=>HKP.out w2 t (by rw [hlast,hq])
     subst hq
     have HEE:∀w,(Op.equalIn 10000 53 (.agg #[.int .u32 y.out,.int .u32 y.via,.bool y.vr]) (.agg #[.int .u32 y.out,.int .u32 y.via,.bool y.vr])).run Tryz.prog w=.ok true w:=fun w=>by rw [eqHop];simp
     clear HE hlast
     go_wp2_with fail
     go_quiet (fail)
     go_wp2_with fail
     go_roundw
     case rel=>exact⟨i+1,by go_num,by omega,HKX.out _ (((Touch.refl (fun _=>False) wr).alloc _).drewN _)⟩
     case measure=>simp [intOf];omega
    ·have HEE:∀w,(Op.equalIn 10000 53 (.agg #[.int .u32 y.out,.int .u32 y.via,.bool y.vr]) (.agg #[.int .u32 x.out,.int .u32 x.via,.bool x.vr])).run Tryz.prog w=.ok false w:=fun w=>by rw [eqHop];simp [hq]
     have HQ:Hid (lc.getLast?≠some x):=by show _≠_;rw [hlast];intro e;injection e with e;exact hq e
     clear HE hlast hq
     go_wp2_with fail
     go_quiet (fail)
     go_wp2_with (at_builtin;refine wpList_append_own_at _ rfl (.tmp 26) (.tmp 28) 45 rfl B 53 i0 _ 3 12 Tryz.underlying45 hi0 hz0 hz1 hz2 rfl (by omega) (.slice (some ⟨gl,0,none⟩) LL uc) LL (cellsG HK.cs lc) rfl ?c1 ⟨wr.heap.size+1,0,none⟩ 1 1 x.cs rfl rfl ?c2 ?c3 (by have:=HLN.out;unfold maxLen;omega) (by have:=HLN.out;omega) ?c4 ?_)
     case c1=>have h:=HRE.out;unfold RH RG at h;rw [HLL.out] at h;exact Qab h ((((Touch.refl (fun _=>False) wr).alloc _).alloc _).drewN _) (fun _ _ h=>h)
     case c2=>exact (fun j u hj=>by
      rcases (by have:=(List.getElem?_eq_some_iff.1 hj).1;simp [HK.cs] at this;omega:j=0∨j=1∨j=2) with rfl|rfl|rfl <;> (simp [HK.cs] at hj;subst hj;simp [Addr.add,go_sem]))
     case c3=>exact (fun u hu=>by simp [HK.cs] at hu;rcases hu with rfl|rfl|rfl <;> rfl)
     case c4=>exact Nat.le_trans HW.out (Touch.size ((((Touch.refl (fun _=>False) wr).alloc _).alloc _).drewN _))
     intro v3 w3 own3 gr3 _ hat3
     have XN:Hid _:=HAPP.out _ w3 v3 (by exact (((Touch.refl (fun _=>False) wr).alloc _).alloc _).drewN _) HQ.out own3 gr3 (by simpa using hat3)
     clear own3 gr3 hat3
     go_wp2_with fail
     go_roundw
     case rel=>exact⟨i+1,by go_num,by omega,XN.out⟩
     case measure=>simp [intOf];omega
  ·have hi2:i=M:=by omega
   subst hi2
   have HZ:Hid (JoinP w B v (jn l m) (.returned (.slice ua (jn l (m.take i)).length uc)) wr):=by
    have e:m.take i=m:=List.take_of_length_le (by have:=HMM.out;omega)
    have h:=HX.out.re
    rw [e] at h ⊢
    exact⟨⟨_,rfl,h,by have:=HX.out.ow;rw [e] at this;exact this⟩,HX.out.t⟩
   clear X HX
   generalize (jn l (m.take i)).length=LL at *
   go_wp2_with fail
   go_ret
   exact HZ.out
end Go.Proofs.YtldmkoogghemhaaGreat
