import Derived.Test.YtddbffoiadmffaaGreatTrPop
import Derived.Test.YtddbffoiadmffaaGreatTrInv
import Derived.BigQuiet
namespace Go.Proofs.YtddbffoiadmffaaGreat
set_option maxHeartbeats 8000000
open Go.RowKit
set_option linter.unusedVariables false
set_option maxRecDepth 100000
theorem Qq0 (w:World) (b:Nat) (v:Value) (B:Nat) (l:List Sp) (P:LS w b v B l) (hh:HP l.length (gt l)) (x:Sp) (hB:B≤w.heap.size) (hl:l.length+1≤1099511627776) :
  Calls Tryz.prog 110 #[.pointer (some ⟨b,0,none⟩),.agg #[.int .i64 x.node,.int .u32 x.cost,.int .u32 x.h.out,.int .u32 x.h.via,.bool x.h.vr]] w fun e w'=>e=.returned (.tuple #[])∧Heaped w b v B (l++[x]) w':=by
 have hb:=P.lt
 have HP0:Hid _:=P
 have HH:Hid _:=hh
 have HBB:Hid _:=hB
 clear P hh hB
 go_enter Tryz.func110,Tryz.ntmps110
 go_wp2_with fail
 have T:Touch (fun _=>False) w (w.alloc (.cells #[.int .i64 x.node,.int .u32 x.cost,.int .u32 x.h.out,.int .u32 x.h.via,.bool x.h.vr] 154)):=(Touch.refl _ _).alloc _
 refine Calls.mono (Qng _ b v B l (HP0.out.keep T) HH.out x (Nat.le_trans HBB.out T.size) hl) ?_
 rintro e w1 ⟨rfl,H⟩
 have HR:Hid _:=H
 have HT:Hid _:=T
 clear H T
 go_wp2_with fail
 refine bodyPost_end (results_none rfl _ _ _) rfl ⟨rfl,?_⟩
 obtain⟨⟨v',l',P1,pe,h1,hv⟩,t1⟩:=HR.out
 have ts:=HT.out.size
 refine⟨⟨v',l',P1,pe,h1,?_⟩,?_⟩
 ·rcases hv with h|⟨g,h,hg⟩
  ·exact Or.inl h
  ·exact Or.inr ⟨g,h,Nat.le_trans ts hg⟩
 ·exact ((⟨(TouchB.of HT.out hb (fun h=>h)).t.mono (fun _ _ e=>e.elim Or.inl (fun h=>h.elim)),(TouchB.of HT.out hb (fun h=>h)).rest⟩:TouchB b (fun k=>v.ownBlock=some k) w _)).trans t1 (fun _ _ h=>h)
structure NextP (w:World) (b:Nat) (v:Value) (B:Nat) (l:List Sp) (e:Ending) (w':World):Prop where
 out:∃s v' l',e=.returned s.v∧LS w' b v' B l'∧l.Perm (l' ++ [s])∧HP l'.length (gt l')∧(∀y∈l,s.le y)∧v'.ownBlock=v.ownBlock
 t:TouchB b (fun k=>v.ownBlock=some k) w w'
theorem Qrs (w:World) (b:Nat) (v:Value) (B:Nat) (l:List Sp) (P:LS w b v B l) (hh:HP l.length (gt l)) (hl:0<l.length) :
  Calls Tryz.prog 63 #[.pointer (some ⟨b,0,none⟩)] w (NextP w b v B l):=by
 have hb:=P.lt
 have HP0:Hid _:=P
 have HH:Hid _:=hh
 clear P hh
 go_enter Tryz.func63,Tryz.ntmps63
 go_wp2_with fail
 have T:Touch (fun _=>False) w (w.alloc (.cells #[.int .i64 0,.int .u32 0,.int .u32 0,.int .u32 0,.bool false] 154)):=(Touch.refl _ _).alloc _
 have R0:Row (w.alloc (.cells #[.int .i64 0,.int .u32 0,.int .u32 0,.int .u32 0,.bool false] 154)) w.heap.size 154 [.int .i64 0,.int .u32 0,.int .u32 0,.int .u32 0,.bool false]:=Qac w _ _
 generalize w.alloc (.cells #[.int .i64 0,.int .u32 0,.int .u32 0,.int .u32 0,.bool false] 154)=wa at T R0 ⊢
 refine Calls.mono (Qpd wa b v B l (HP0.out.keep T) HH.out hl) ?_
 rintro e w1 ⟨⟨⟨sn,sc,so,sv,sr⟩,v1,l1,rfl,P1,pe,h1,mn,hv⟩,t1⟩
 have hta:=Qfh ⟨sn,sc,so,sv,sr⟩
 simp only [Sp.v]
 simp only at hta
 have hH:w.heap.size<wa.heap.size:=R0.lt
 have hbH:¬w.heap.size=b:=by omega
 have R1:Row w1 w.heap.size 154 [.int .i64 0,.int .u32 0,.int .u32 0,.int .u32 0,.bool false]:=(t1.t.block _ hH (fun e=>e.elim hbH (fun e=>by have:=(HP0.out.re.lt e);omega))).trans R0
 have r0:w1.cell? ⟨w.heap.size,0,none⟩=some (.int .i64 0):=R1.cell 0
 have r1:w1.cell? ⟨w.heap.size,1,none⟩=some (.int .u32 0):=R1.cell 1
 have r2:w1.cell? ⟨w.heap.size,2,none⟩=some (.int .u32 0):=R1.cell 2
 have r3:w1.cell? ⟨w.heap.size,3,none⟩=some (.int .u32 0):=R1.cell 3
 have r4:w1.cell? ⟨w.heap.size,4,none⟩=some (.bool false):=R1.cell 4
 have rf:=R1.frozen
 have hH1:=R1.lt
 have FIN:Hid (∀w',Touch (fun k=>k=w.heap.size) w1 w'→NextP w b v B l (.returned (Sp.v ⟨sn,sc,so,sv,sr⟩)) w'):=by
  intro w' t
  have hb1:=P1.lt
  have hn:∀j,v1.ownBlock=some j→¬j=w.heap.size:=fun j hj e=>by
   rw [hv] at hj
   have:=HP0.out.re.lt hj
   omega
  refine⟨⟨⟨sn,sc,so,sv,sr⟩,v1,l1,rfl,⟨(t.cell (p:=⟨b,0,none⟩) hb1 (fun e=>hbH e.symm)).trans P1.c0,(t.frozen (p:=⟨b,0,none⟩) hb1 (fun e=>hbH e.symm)).trans P1.f0,P1.re.keep t hn,P1.bv,P1.hl⟩,pe,h1,mn,hv⟩,?_⟩
  have q0:TouchB b (fun k=>v.ownBlock=some k) w wa:=⟨(TouchB.of T hb (fun h=>h)).t.mono (fun _ _ e=>e.elim Or.inl (fun h=>h.elim)),(TouchB.of T hb (fun h=>h)).rest⟩
  exact (q0.trans t1 (fun _ _ h=>h)).trans (TouchB.of t hb1 (fun e=>hbH e.symm)) (fun i hi e=>by omega)
 clear T R0 P1 pe h1 mn t1 R1
 go_wp2_with fail
 have ts:Touch (fun k=>k=w.heap.size) w1 ((((((w1.setCell ⟨w.heap.size,0,none⟩ (.int .i64 sn)).setCell ⟨w.heap.size,1,none⟩ (.int .u32 sc)).setCell ⟨w.heap.size,2,none⟩ (.int .u32 so)).setCell ⟨w.heap.size,3,none⟩ (.int .u32 sv)).setCell ⟨w.heap.size,4,none⟩ (.bool sr)).alloc (.cells #[.int .i64 sn,.int .u32 sc,.int .u32 so,.int .u32 sv,.bool sr] 154)):=by
  refine Touch.alloc ?_ _
  exact tset1 (tset1 (tset1 (tset1 (tset1 (Touch.refl _ _) _ _) _ _) _ _) _ _) _ _
 refine bodyPost_ret (v:=.agg #[.int .i64 sn,.int .u32 sc,.int .u32 so,.int .u32 sv,.bool sr]) ?_ (by rfl) ?_
 case refine_2=>exact FIN.out _ ts
 simp [results,Tryz.results63,go_sem,r0,r1,r2,r3,r4,hH1]
structure NM where
 t:TN
 addr:Int
 bits:Int
 flags:Int
 ea:Option Addr
 ec:Nat
 sa:Option Addr
 sn:Nat
 sc:Nat
def NM.cs (x:NM):List Value:=[.bool x.t.net,.int .u32 x.t.id,.int .u32 x.addr,.int .u8 x.bits,.int .u8 x.flags,.slice x.ea x.t.edges.length x.ec,.slice x.sa x.sn x.sc]
theorem Qp2 (w:World) (h:HK) (x:NM):Calls Tryz.prog 109 #[.agg #[.int .u32 h.out,.int .u32 h.via,.bool h.vr],.agg #[.bool x.t.net,.int .u32 x.t.id,.int .u32 x.addr,.int .u8 x.bits,.int .u8 x.flags,.slice x.ea x.t.edges.length x.ec,.slice x.sa x.sn x.sc]] w fun e w'=>e=.returned (intoH h x.t).v∧Touch (fun _=>False) w w':=by
 obtain⟨⟨net,id,es⟩,a,b,f,ea,ec,sa,sn,sc⟩:=x
 obtain⟨ho,hv,hr⟩:=h
 simp only
 generalize es.length=en
 by_cases h0:hv=0
 ·have HZ:intoH ⟨ho,hv,hr⟩ ⟨net,id,es⟩=if net=true then ⟨ho,0,false⟩ else ⟨ho,id,hr⟩:=by simp [intoH,h0]
  cases net
  ·have HZ2:Hid (intoH ⟨ho,hv,hr⟩ ⟨false,id,es⟩=⟨ho,id,hr⟩):=by rw [HZ];rfl
   clear HZ
   go_enter Tryz.func109,Tryz.ntmps109
   go_wp2_with fail
   refine bodyPost_ret (v:=.agg #[.int .u32 ho,.int .u32 id,.bool hr]) ?_ rfl ⟨by rw [HZ2.out];rfl,(((Touch.refl _ _).alloc _).alloc _).alloc _⟩
   simp [results,Tryz.results109,go_sem]
  ·have HZ2:Hid (intoH ⟨ho,hv,hr⟩ ⟨true,id,es⟩=⟨ho,0,false⟩):=by rw [HZ];rfl
   clear HZ
   go_enter Tryz.func109,Tryz.ntmps109
   go_wp2_with fail
   refine bodyPost_ret (v:=.agg #[.int .u32 ho,.int .u32 0,.bool false]) ?_ rfl ⟨by rw [HZ2.out];rfl,(((Touch.refl _ _).alloc _).alloc _).alloc _⟩
   simp [results,Tryz.results109,go_sem]
 ·have HZ2:Hid (intoH ⟨ho,hv,hr⟩ ⟨net,id,es⟩=⟨ho,hv,hr⟩):=(if_pos h0:intoH ⟨ho,hv,hr⟩ ⟨net,id,es⟩=⟨ho,hv,hr⟩)
  go_enter Tryz.func109,Tryz.ntmps109
  go_wp2_with fail
  refine bodyPost_ret (v:=.agg #[.int .u32 ho,.int .u32 hv,.bool hr]) ?_ rfl ⟨by rw [HZ2.out];rfl,(((Touch.refl _ _).alloc _).alloc _).alloc _⟩
  simp [results,Tryz.results109,go_sem]
def jn:List HK→List HK→List HK
 | l,[]=>l
 | l,h::t=>if l.getLast?=some h then jn l t else jn (l++[h]) t
theorem Qki (l:List HK) (h:HK):jn l [h]=if l.getLast?=some h then l else l++[h]:=by
 simp only [jn]
theorem Qmi (l m:List HK):(jn l m).length≤l.length+m.length:=by
 induction m generalizing l with
 | nil=>simp [jn]
 | cons h t ih =>
  simp only [jn]
  split
  ·have:=ih l;simp;omega
  ·have:=ih (l++[h]);simp at this ⊢;omega
theorem Qs5 (l m:List HK) (i:Nat) (h:HK) (hi:m[i]?=some h):jn l (m.take (i+1))=jn (jn l (m.take i)) [h]:=by
 have e:m.take (i+1)=m.take i++[h]:=by
  have hl:=(List.getElem?_eq_some_iff.1 hi).1
  rw [List.take_add_one,hi];rfl
 rw [e]
 generalize m.take i=p
 induction p generalizing l with
 | nil=>rfl
 | cons a p ih =>
  simp only [List.cons_append,jn]
  split
  ·exact ih l
  ·exact ih _
theorem Quo (l:List HK) (hl:0<l.length):l.getLast?=l[l.length-1]?:=List.getLast?_eq_getElem? ..
theorem infoHop:(Tryz.prog.info? 48).map (fun i=>(i.zero,i.size,i.bytes))=some (some (.agg #[.int .u32 0,.int .u32 0,.bool false]),3,12):=by kernel_rfl
def HopsAt (w:World) (v:Value) (m:List HK):Prop:=∃a c,v=.slice a m.length c∧(m=[]∨∃g,a=some ⟨g,0,none⟩∧∀i x,m[i]?=some x→∀d u,x.cs[d]?=some u→w.cell? ⟨g,i*3+d,none⟩=some u)
structure JoinP (w:World) (B:Nat) (v:Value) (l':List HK) (e:Ending) (w':World):Prop where
 out:∃v',e=.returned v'∧RH B w' v' l'∧(v'.ownBlock=v.ownBlock∨∃g,v'.ownBlock=some g∧w.heap.size≤g)
 t:Touch (fun k=>v.ownBlock=some k) w w'
structure JnR (w:World) (B:Nat) (v:Value) (l m:List HK) (i:Nat) (v':Value) (w':World):Prop where
 re:RH B w' v' (jn l (m.take i))
 ow:v'.ownBlock=v.ownBlock∨∃g,v'.ownBlock=some g∧w.heap.size≤g
 t:Touch (fun k=>v.ownBlock=some k) w w'
theorem JnR.keep {w w' w2:World} {B:Nat} {v v':Value} {l m:List HK} {i:Nat} (X:JnR w B v l m i v' w') (t:Touch (fun _=>False) w' w2) (h:jn l (m.take (i+1))=jn l (m.take i)):JnR w B v l m (i+1) v' w2 :=
 ⟨by rw [h];exact X.re.keepN t,X.ow,X.t.trans (t.mono (fun _ _ h=>h.elim))⟩
theorem JnR.app {w w' w2 w3:World} {B:Nat} {v v' v3:Value} {l m:List HK} {i:Nat} {x:HK} (X:JnR w B v l m i v' w') (t:Touch (fun _=>False) w' w2) (h:jn l (m.take (i+1))=jn l (m.take i)++[x])
  (own:w3.ownsRow B 48 3 v3 ((jn l (m.take i)).length+1) (cellsG HK.cs (jn l (m.take i))++x.cs)) (gr:w2.grownBy w3 v'.ownBlock) (hat:v3.ownBlock=v'.ownBlock∨v3.ownBlock=some w2.heap.size):JnR w B v l m (i+1) v3 w3:=by
 refine⟨?_,?_,?_⟩
 ·rw [h]
  unfold RH RG
  rw [List.length_append,Qaq]
  simpa [cellsG] using own
 ·rcases hat with e|e
  ·rw [e];exact X.ow
  ·exact Or.inr ⟨_,e,Nat.le_trans X.t.size t.size⟩
 ·refine Touch.grown (X.t.trans (t.mono (fun _ _ h=>h.elim))) gr (fun k hk=>?_)
  rcases X.ow with e|⟨g,e,hg⟩
  ·exact Or.inl (by rw [←e];exact hk)
  ·rw [e] at hk;injection hk with hk;exact Or.inr (by omega)
theorem eqHop (x y:HK) (w:World):(Op.equalIn 10000 48 (.agg #[.int .u32 x.out,.int .u32 x.via,.bool x.vr]) (.agg #[.int .u32 y.out,.int .u32 y.via,.bool y.vr])).run Tryz.prog w=.ok (decide (x=y)) w:=by
 have hS:Tryz.prog.underlying 48=some (.struct (Tryz.prog.fieldsOf 48)):=by kernel_rfl
 rw [show (10000:Nat)=9999+1 from rfl,run_equalIn_agg w 9999 48 _ _ hS (by kernel_rfl)]
 simp only [Program.fieldsOf,Tryz.underlying48]
 go_simp
 obtain⟨a,b,c⟩:=x
 obtain⟨a',b',c'⟩:=y
 by_cases h1:a=a' <;> by_cases h2:b=b' <;> by_cases h3:c=c' <;> simp [h1,h2,h3]
theorem Qkf (w:World) (B:Nat) (v mv:Value) (l m:List HK) (L:RH B w v l) (M:HopsAt w mv m) (hn:∀k,v.ownBlock=some k→mv.ownBlock≠some k) (hB:B≤w.heap.size) (hl:l.length+m.length≤1099511627776) :
  Calls Tryz.prog 49 #[v,mv] w (JoinP w B v (jn l m)):=by
 obtain⟨a,c,rfl,hm⟩:=M
 have R0:JnR w B v l m 0 v w:=⟨L,Or.inl rfl,Touch.refl _ _⟩
 have HR0:Hid _:=R0
 have HN:Hid _:=hn
 have HBB:Hid _:=hB
 have HM:Hid _:=hm
 have HL:Hid (l.length+m.length≤1099511627776):=hl
 have hml:(m.length:Int)≤1099511627776:=by omega
 generalize hmm:m.length=M at *
 have HMM:Hid _:=hmm
 clear hmm R0 hn hB hm hl L
 obtain⟨i0,hi0,hz0,hz1,hz2⟩:=infoParts infoHop
 go_enter Tryz.func49,Tryz.ntmps49
 go_wp2_with fail
 go_loopw [0,9] (fun s0 s9 wx=>∃i:Nat,s9=.int .i64 i∧i≤M∧JnR w B v l m i s0 wx) (fun _ s9 _=>M-(intOf s9).toNat)
 case atStart=>exact⟨0,rfl,Nat.zero_le _,HR0.out⟩
 case round =>
  clear HR0
  obtain⟨i,rfl,hi,X⟩:=hrel
  obtain⟨ua,uc,rfl⟩:=X.re.shape
  have HX:Hid _:=X
  by_cases hiM:i<M
  ·obtain⟨x,hx⟩:∃x,m[i]?=some x:=⟨_,List.getElem?_eq_getElem (by have:=HMM.out;omega)⟩
   rcases HM.out with e|⟨g,rfl,hc⟩
   ·rw [e] at hx;cases hx
   have hgv:v.ownBlock≠some g:=fun e=>HN.out g e rfl
   have q:∀d u,x.cs[d]?=some u→wr.cell? ⟨g,i*3+d,none⟩=some u:=fun d u hd=>(X.t.cell (p:=⟨g,i*3+d,none⟩) (Qaa (hc i x hx d u hd)) (fun e=>hgv e)).trans (hc i x hx d u hd)
   have q0:wr.cell? ⟨g,i*3,none⟩=some (.int .u32 x.out):=q 0 _ rfl
   have q1:wr.cell? ⟨g,i*3+1,none⟩=some (.int .u32 x.via):=q 1 _ rfl
   have q2:wr.cell? ⟨g,i*3+2,none⟩=some (.bool x.vr):=q 2 _ rfl
   have HS:Hid (jn l (m.take (i+1))=jn (jn l (m.take i)) [x]):=Qs5 l m i x hx
   have HW:Hid (B≤wr.heap.size):=Nat.le_trans HBB.out X.t.size
   have HLN:Hid ((jn l (m.take i)).length+1≤1099511627776):=by
    have h1:=Qmi l (m.take i)
    have h2:=HL.out
    have h3:(m.take i).length=i:=by simp;have:=HMM.out;omega
    show _≤_
    omega
   have i1:(i:Int)<(M:Int):=by omega
   have i0':(0:Int)≤(i:Int):=by omega
   have HRE:Hid (RH B wr (.slice ua (jn l (m.take i)).length uc) (jn l (m.take i))):=X.re
   have HAPP:Hid (∀w2 w3 v3,Touch (fun _=>False) wr w2→(jn l (m.take i)).getLast?≠some x→w3.ownsRow B 48 3 v3 ((jn l (m.take i)).length+1) (cellsG HK.cs (jn l (m.take i))++x.cs)→w2.grownBy w3 (Value.ownBlock (.slice ua (jn l (m.take i)).length uc))→(v3.ownBlock=Value.ownBlock (.slice ua (jn l (m.take i)).length uc)∨v3.ownBlock=some w2.heap.size)→JnR w B v l m (i+1) v3 w3):=by
    intro w2 w3 v3 t hq own gr hat
    exact HX.out.app t (by rw [HS.out,Qki,if_neg hq]) own gr hat
   have HKP:Hid (∀w2,Touch (fun _=>False) wr w2→(jn l (m.take i)).getLast?=some x→JnR w B v l m (i+1) (.slice ua (jn l (m.take i)).length uc) w2):=by
    intro w2 t hq
    exact HX.out.keep t (by rw [HS.out,Qki,if_pos hq])
   clear X HX HS q hc hx
   generalize jn l (m.take i)=lc at *
   rcases Nat.eq_zero_or_pos lc.length with h0|h0
   ·have e:lc=[]:=List.length_eq_zero_iff.1 h0
    subst e
    have HQ:Hid (([]:List HK).getLast?≠some x):=by show _≠_;simp
    clear h0
    simp only [List.length_nil] at *
    go_wp2_with fail
    go_quiet (fail)
    go_wp2_with (at_builtin;refine wpList_append_own_at _ rfl (.tmp 26) (.tmp 28) 43 rfl B 48 i0 _ 3 12 Tryz.underlying43 hi0 hz0 hz1 hz2 rfl (by omega) (.slice ua 0 uc) 0 (cellsG HK.cs []) rfl ?c1 ⟨wr.heap.size+1,0,none⟩ 1 1 x.cs rfl rfl ?c2 ?c3 (by have:=HLN.out;unfold maxLen;omega) (by have:=HLN.out;omega) ?c4 ?_)
    case c1=>exact RG.keepN HRE.out ((((Touch.refl _ wr).alloc _).alloc _).drewN _)
    case c2=>exact (fun j u hj=>by
     rcases (by have:=(List.getElem?_eq_some_iff.1 hj).1;simp [HK.cs] at this;omega:j=0∨j=1∨j=2) with rfl|rfl|rfl <;> (simp [HK.cs] at hj;subst hj;simp [Addr.add,go_sem]))
    case c3=>exact (fun u hu=>by simp [HK.cs] at hu;rcases hu with rfl|rfl|rfl <;> rfl)
    case c4=>exact Nat.le_trans HW.out (Touch.size ((((Touch.refl (fun _=>False) wr).alloc _).alloc _).drewN _))
    intro v3 w3 own3 gr3 _ hat3
    have XN:Hid _:=HAPP.out _ w3 v3 (by exact (((Touch.refl (fun _=>False) wr).alloc _).alloc _).drewN _) HQ.out own3 gr3 (by simpa using hat3)
    clear own3 gr3 hat3
    go_wp2_with fail
    go_roundw
    case rel=>exact⟨i+1,by go_num,by omega,XN.out⟩
    case measure=>simp [intOf];omega
   ·obtain⟨k,hk⟩:∃k,lc.length=k+1:=⟨lc.length-1,by omega⟩
    obtain⟨y,hy⟩:∃y,lc[k]?=some y:=⟨_,List.getElem?_eq_getElem (by omega)⟩
    have hlast:lc.getLast?=some y:=by rw [Quo lc h0,hk];exact hy
    obtain⟨gl,cap,hua,hcap,hgl,-⟩:=HRE.out.form h0
    injection hua with e1 e2 e3
    subst e1
    subst e3
    have y0:wr.cell? ⟨gl,k*3,none⟩=some (.int .u32 y.out):=RG.cell (d:=0) HK.len HRE.out hy rfl
    have y1:wr.cell? ⟨gl,k*3+1,none⟩=some (.int .u32 y.via):=RG.cell (d:=1) HK.len HRE.out hy rfl
    have y2:wr.cell? ⟨gl,k*3+2,none⟩=some (.bool y.vr):=RG.cell (d:=2) HK.len HRE.out hy rfl
    have HK1:Hid (lc.length=k+1):=hk
    have hLk:(lc.length:Int)=(k:Int)+1:=by omega
    have k0:(0:Int)≤(k:Int):=by omega
    have k2:(k:Int)≤1099511627776:=by have:=HLN.out;omega
    generalize hLL:lc.length=LL at *
    have hLk0:((LL:Int)==0)=false:=by simp;omega
    have hkL:(k:Int)<(LL:Int):=by omega
    have hsub:IntKind.i64.wrap ((LL:Int)-1)=(k:Int):=by rw [hLk,Int.add_sub_cancel];exact IntWalk.i64_in _ (by omega)
    have HLL:Hid (lc.length=LL):=hLL
    clear hLL hk hcap h0 hy hLk
    have HE:=eqHop y x
    by_cases hq:y=x
    ·have HKX:Hid _:=fun w2 t=>HKP.out w2 t (by rw [hlast,hq])
     subst hq
     have HEE:∀w,(Op.equalIn 10000 48 (.agg #[.int .u32 y.out,.int .u32 y.via,.bool y.vr]) (.agg #[.int .u32 y.out,.int .u32 y.via,.bool y.vr])).run Tryz.prog w=.ok true w:=fun w=>by rw [eqHop];simp
     clear HE hlast
     go_wp2_with fail
     go_quiet (fail)
     go_wp2_with fail
     go_roundw
     case rel=>exact⟨i+1,by go_num,by omega,HKX.out _ (((Touch.refl (fun _=>False) wr).alloc _).drewN _)⟩
     case measure=>simp [intOf];omega
    ·have HEE:∀w,(Op.equalIn 10000 48 (.agg #[.int .u32 y.out,.int .u32 y.via,.bool y.vr]) (.agg #[.int .u32 x.out,.int .u32 x.via,.bool x.vr])).run Tryz.prog w=.ok false w:=fun w=>by rw [eqHop];simp [hq]
     have HQ:Hid (lc.getLast?≠some x):=by show _≠_;rw [hlast];intro e;injection e with e;exact hq e
     clear HE hlast hq
     go_wp2_with fail
     go_quiet (fail)
     go_wp2_with (at_builtin;refine wpList_append_own_at _ rfl (.tmp 26) (.tmp 28) 43 rfl B 48 i0 _ 3 12 Tryz.underlying43 hi0 hz0 hz1 hz2 rfl (by omega) (.slice (some ⟨gl,0,none⟩) LL uc) LL (cellsG HK.cs lc) rfl ?c1 ⟨wr.heap.size+1,0,none⟩ 1 1 x.cs rfl rfl ?c2 ?c3 (by have:=HLN.out;unfold maxLen;omega) (by have:=HLN.out;omega) ?c4 ?_)
     case c1=>have h:=HRE.out;unfold RH RG at h;rw [HLL.out] at h;exact Qab h ((((Touch.refl (fun _=>False) wr).alloc _).alloc _).drewN _) (fun _ _ h=>h)
     case c2=>exact (fun j u hj=>by
      rcases (by have:=(List.getElem?_eq_some_iff.1 hj).1;simp [HK.cs] at this;omega:j=0∨j=1∨j=2) with rfl|rfl|rfl <;> (simp [HK.cs] at hj;subst hj;simp [Addr.add,go_sem]))
     case c3=>exact (fun u hu=>by simp [HK.cs] at hu;rcases hu with rfl|rfl|rfl <;> rfl)
     case c4=>exact Nat.le_trans HW.out (Touch.size ((((Touch.refl (fun _=>False) wr).alloc _).alloc _).drewN _))
     intro v3 w3 own3 gr3 _ hat3
     have XN:Hid _:=HAPP.out _ w3 v3 (by exact (((Touch.refl (fun _=>False) wr).alloc _).alloc _).drewN _) HQ.out own3 gr3 (by simpa using hat3)
     clear own3 gr3 hat3
     go_wp2_with fail
     go_roundw
     case rel=>exact⟨i+1,by go_num,by omega,XN.out⟩
     case measure=>simp [intOf];omega
  ·have hi2:i=M:=by omega
   subst hi2
   have HZ:Hid (JoinP w B v (jn l m) (.returned (.slice ua (jn l (m.take i)).length uc)) wr):=by
    have e:m.take i=m:=List.take_of_length_le (by have:=HMM.out;omega)
    have h:=HX.out.re
    rw [e] at h ⊢
    exact⟨⟨_,rfl,h,by have:=HX.out.ow;rw [e] at this;exact this⟩,HX.out.t⟩
   clear X HX
   generalize (jn l (m.take i)).length=LL at *
   go_wp2_with fail
   go_ret
   exact HZ.out
theorem Qsi {l:List HK} {h:HK} (e:l.getLast?=some h):h∈l:=List.mem_of_getLast? e
theorem Qvr (l m:List HK) (x:HK):x∈jn l m↔x∈l∨x∈m:=by
 induction m generalizing l with
 | nil=>simp [jn]
 | cons h t ih =>
  simp only [jn]
  split
  ·rename_i e
   rw [ih]
   constructor
   ·rintro (h1|h1)
    ·exact Or.inl h1
    ·exact Or.inr (List.mem_cons_of_mem _ h1)
   ·rintro (h1|h1)
    ·exact Or.inl h1
    ·rcases List.mem_cons.1 h1 with rfl|h1
     ·exact Or.inl (Qsi e)
     ·exact Or.inr h1
  ·rw [ih]
   simp [or_assoc]
theorem Qqm (l m:List HK) (hl:l.Pairwise HK.lt) (hm:m.Pairwise HK.le) (hc:∀x∈l,∀y∈m,x.le y):(jn l m).Pairwise HK.lt:=by
 induction m generalizing l with
 | nil=>simpa [jn] using hl
 | cons h t ih =>
  have hm':=List.pairwise_cons.1 hm
  simp only [jn]
  split
  ·exact ih l hl hm'.2 (fun x hx y hy=>hc x hx y (List.mem_cons_of_mem _ hy))
  ·rename_i e
   refine ih _ (Qib hl (fun k hk=>hc k hk h (by simp)) e) hm'.2 (fun x hx y hy=>?_)
   rcases List.mem_append.1 hx with hx|hx
   ·exact hc x hx y (List.mem_cons_of_mem _ hy)
   ·simp at hx;subst hx;exact hm'.1 y hy
theorem Qkq {l m:List HK} (hl:l.Pairwise HK.lt) (hm:m.Pairwise HK.lt) (h:∀x,x∈l↔x∈m):l=m:=by
 induction l generalizing m with
 | nil =>
  cases m with
  | nil=>rfl
  | cons a t=>have:=(h a).2 (by simp);cases this
 | cons a l ih =>
  cases m with
  | nil=>have:=(h a).1 (by simp);cases this
  | cons b m =>
   have hl':=List.pairwise_cons.1 hl
   have hm':=List.pairwise_cons.1 hm
   have hab:a=b:=by
    rcases List.mem_cons.1 ((h a).1 (by simp)) with e|e
    ·exact e
    ·rcases List.mem_cons.1 ((h b).2 (by simp)) with e2|e2
     ·exact e2.symm
     ·exact (HK.lt_irrefl a (HK.lt_trans (hl'.1 b e2) (hm'.1 a e))).elim
   subst hab
   rw [ih hl'.2 hm'.2 (fun x=>?_)]
   have hx:=h x
   constructor
   ·intro h1
    rcases List.mem_cons.1 (hx.1 (List.mem_cons_of_mem _ h1)) with e|e
    ·subst e;exact (HK.lt_irrefl _ (hl'.1 _ h1)).elim
    ·exact e
   ·intro h1
    rcases List.mem_cons.1 (hx.2 (List.mem_cons_of_mem _ h1)) with e|e
    ·subst e;exact (HK.lt_irrefl _ (hm'.1 _ h1)).elim
    ·exact e
def plc (h:HK):List HK→Nat
 | []=>0
 | x::t=>if cH x h<0 then plc h t+1 else 0
def pt (h:HK):List HK→List HK
 | []=>[h]
 | x::t=>if cH x h<0 then x::pt h t else if x=h then x::t else h::x::t
theorem Qso (h:HK) (l:List HK) (j:Nat) (hj:j≤l.length) (hb:∀k y,k<j→l[k]?=some y→cH y h<0) (ha:∀y,l[j]?=some y→¬cH y h<0):plc h l=j:=by
 induction l generalizing j with
 | nil=>simp at hj;subst hj;rfl
 | cons x t ih =>
  simp only [plc]
  cases j with
  | zero=>rw [if_neg (ha x rfl)]
  | succ j =>
   rw [if_pos (hb 0 x (by omega) rfl)]
   rw [ih j (by simpa using hj) (fun k y hk hy=>hb (k+1) y (by omega) hy) (fun y hy=>ha y hy)]
theorem Qwo (h:HK) (l:List HK):pt h l=if l[plc h l]?=some h then l else l.take (plc h l)++h::l.drop (plc h l):=by
 induction l with
 | nil=>simp [pt,plc]
 | cons x t ih =>
  simp only [pt,plc]
  split
  ·simp only [List.getElem?_cons_succ,List.take_succ_cons,List.drop_succ_cons,List.cons_append]
   rw [ih]
   split <;> rfl
  ·simp only [List.getElem?_cons_zero,Option.some.injEq,List.take_zero,List.drop_zero,List.nil_append]
theorem Qke (h:HK) (l:List HK) (x:HK):x∈pt h l↔x∈l∨x=h:=by
 induction l with
 | nil=>simp [pt]
 | cons y t ih =>
  simp only [pt]
  split
  ·simp only [List.mem_cons,ih,or_assoc]
  ·split
   ·rename_i e
    subst e
    simp only [List.mem_cons]
    constructor
    ·exact Or.inl
    ·rintro (h1|h1)
     ·exact h1
     ·exact Or.inl h1
   ·simp only [List.mem_cons]
    constructor
    ·rintro (h1|h1)
     ·exact Or.inr h1
     ·exact Or.inl h1
    ·rintro (h1|h1)
     ·exact Or.inr h1
     ·exact Or.inl h1
theorem Qgl (h:HK) (l:List HK) (hl:l.Pairwise HK.lt):(pt h l).Pairwise HK.lt:=by
 induction l with
 | nil=>simp [pt]
 | cons y t ih =>
  have hl':=List.pairwise_cons.1 hl
  simp only [pt]
  split
  ·rename_i e
   refine List.pairwise_cons.2 ⟨fun x hx=>?_,ih hl'.2⟩
   rcases (Qke h t x).1 hx with hx|hx
   ·exact hl'.1 x hx
   ·subst hx;exact (Qf2 y x).1 e
  ·rename_i e
   split
   ·exact hl
   ·rename_i n
    have hy:h.lt y:=HK.lt_of_le_ne (fun h1=>e ((Qf2 y h).2 h1)) (fun e=>n e.symm)
    refine List.pairwise_cons.2 ⟨fun x hx=>?_,hl⟩
    rcases List.mem_cons.1 hx with rfl|hx
    ·exact hy
    ·exact HK.lt_trans hy (hl'.1 x hx)
theorem Qg6 (h:HK) (l:List HK):(pt h l).length≤l.length+1:=by
 induction l with
 | nil=>simp [pt]
 | cons y t ih =>
  simp only [pt]
  split
  ·simp;exact ih
  ·split <;> simp
def pts (l m:List HK):List HK:=m.foldl (fun l h=>pt h l) l
theorem Qkb (l m:List HK) (i:Nat) (h:HK) (hi:m[i]?=some h):pts l (m.take (i+1))=pt h (pts l (m.take i)):=by
 have e:m.take (i+1)=m.take i++[h]:=by rw [List.take_add_one,hi];rfl
 rw [e]
 simp [pts]
theorem Qot (l m:List HK) (x:HK):x∈pts l m↔x∈l∨x∈m:=by
 induction m generalizing l with
 | nil=>simp [pts]
 | cons h t ih =>
  have e:pts l (h::t)=pts (pt h l) t:=rfl
  rw [e,ih,Qke,List.mem_cons,or_assoc]
theorem Qg1 (l m:List HK) (hl:l.Pairwise HK.lt):(pts l m).Pairwise HK.lt:=by
 induction m generalizing l with
 | nil=>exact hl
 | cons h t ih=>exact ih _ (Qgl h l hl)
theorem Qcc (l m:List HK):(pts l m).length≤l.length+m.length:=by
 induction m generalizing l with
 | nil=>simp [pts]
 | cons h t ih =>
  have e:pts l (h::t)=pts (pt h l) t:=rfl
  have h1:=Qg6 h l
  have h2:=ih (pt h l)
  rw [e]
  simp only [List.length_cons]
  omega
def rj (a b:List HK):List HK:=pts (pts [] a) b
theorem Qmx (a b:List HK):(rj a b).length≤a.length+b.length:=by
 have h1:=Qcc [] a
 have h2:=Qcc (pts [] a) b
 unfold rj
 simp at h1
 omega
theorem Qv2 (a b:List HK) (x:HK):x∈rj a b↔x∈a∨x∈b:=by
 rw [rj,Qot,Qot]
 simp
structure PX where
 addr:Int
 bits:Int
deriving DecidableEq
def PX.v (p:PX):Value:=.agg #[.int .u32 p.addr,.int .u8 p.bits]
theorem PX.v_inj {p q:PX} (h:p.v=q.v):p=q:=by
 cases p;cases q
 simp [PX.v] at h
 simp [h]
structure PX.Ok (p:PX):Prop where
 a:0≤p.addr∧p.addr<4294967296
 b:0≤p.bits∧p.bits<256
def PX.lt (x y:PX):Prop:=x.addr<y.addr∨x.addr=y.addr∧x.bits<y.bits
theorem PX.lt_irr (x:PX):¬x.lt x:=by unfold PX.lt;omega
theorem PX.lt_trans {x y z:PX} (h:x.lt y) (h':y.lt z):x.lt z:=by unfold PX.lt at *;omega
theorem PX.lt_tri {x y:PX} (h:x≠y):x.lt y∨y.lt x:=by
 by_cases h1:x.addr=y.addr
 ·by_cases h2:x.bits=y.bits
  ·exact (h (by cases x;cases y;simp_all)).elim
  ·unfold PX.lt;omega
 ·unfold PX.lt;omega
abbrev HL:=Value×List HK
structure ME where
 p:PX
 cost:Int
 hs:List HL
def plM (L:List ME) (p:PX):Option Nat:=L.findIdx? (fun e=>e.p==p)
theorem Qkj {L:List ME} {p:PX} {j:Nat} (h:plM L p=some j):∃e,L[j]?=some e∧e.p=p:=by
 unfold plM at h
 rw [List.findIdx?_eq_some_iff_getElem] at h
 obtain⟨h1,h2,-⟩:=h
 exact⟨L[j],by simp [h1],by simpa using h2⟩
theorem Qkp {L:List ME} {p:PX} (h:plM L p=none):∀e∈L,e.p≠p:=by
 unfold plM at h
 rw [List.findIdx?_eq_none_iff] at h
 intro e he e1
 have:=h e he
 simp [e1] at this
def upM (e:ME) (c:Int) (h:HL):ME:=if e.cost<c then e else if c<e.cost then ⟨e.p,c,[h]⟩ else ⟨e.p,c,e.hs++[h]⟩
def putM (L:List ME) (p:PX) (c:Int) (h:HL):List ME :=
 match plM L p with
 | none=>L++[⟨p,c,[h]⟩]
 | some j=>match L[j]? with
  | some e=>L.set j (upM e c h)
  | none=>L
theorem Qj7 {L:List ME} {p:PX} {c:Int} {h:HL} (e:plM L p=none):putM L p c h=L++[⟨p,c,[h]⟩]:=by
 unfold putM;rw [e]
theorem Qks {L:List ME} {p:PX} {c:Int} {h:HL} {j:Nat} {x:ME} (e:plM L p=some j) (hx:L[j]?=some x):putM L p c h=L.set j (upM x c h):=by
 unfold putM;rw [e];simp only [hx]
structure CW where
 p:PX
 cost:Int
 h:HL
def metM (l:List CW):List ME:=l.foldl (fun L x=>putM L x.p x.cost x.h) []
structure MetI (l:List CW) (L:List ME):Prop where
 nd:(L.map (·.p)).Nodup
 has:∀x∈l,∃e∈L,e.p=x.p∧e.cost≤x.cost∧(e.cost=x.cost→x.h∈e.hs)
 of:∀e∈L,e.hs≠[]∧∀h∈e.hs,∃x∈l,x.p=e.p∧x.cost=e.cost∧x.h=h
theorem Qva (e:ME) (c:Int) (h:HL):(upM e c h).p=e.p:=by unfold upM;split <;> (try split) <;> rfl
theorem MetI.step {l:List CW} {L:List ME} (I:MetI l L) (x:CW):MetI (l++[x]) (putM L x.p x.cost x.h):=by
 cases hp:plM L x.p with
 | none =>
  rw [Qj7 hp]
  have hn:=Qkp hp
  refine⟨?_,fun y hy=>?_,fun e he=>?_⟩
  ·rw [List.map_append,List.nodup_append]
   refine⟨I.nd,by simp,fun a ha b hb=>?_⟩
   obtain⟨e,he,rfl⟩:=List.mem_map.1 ha
   obtain rfl:b=x.p:=by simpa using hb
   exact hn e he
  ·rcases List.mem_append.1 hy with hy|hy
   ·obtain⟨e,he,h⟩:=I.has y hy
    exact⟨e,List.mem_append_left _ he,h⟩
   ·obtain rfl:y=x:=by simpa using hy
    exact⟨_,List.mem_append_right _ (List.mem_singleton.2 rfl),rfl,Int.le_refl _,fun _=>by simp⟩
  ·rcases List.mem_append.1 he with he|he
   ·obtain⟨h1,h2⟩:=I.of e he
    exact⟨h1,fun h hh=>by obtain⟨y,hy,h3⟩:=h2 h hh;exact⟨y,List.mem_append_left _ hy,h3⟩⟩
   ·obtain rfl:e=⟨x.p,x.cost,[x.h]⟩:=by simpa using he
    exact⟨by simp,fun h hh=>⟨x,List.mem_append_right _ (List.mem_singleton.2 rfl),rfl,rfl,(List.mem_singleton.1 hh).symm⟩⟩
 | some j =>
  obtain⟨e0,he0,hp0⟩:=Qkj hp
  rw [Qks hp he0]
  have hj:j<L.length:=(List.getElem?_eq_some_iff.1 he0).1
  have hm0:e0∈L:=List.mem_of_getElem? he0
  have hset:∀e,e∈L.set j (upM e0 x.cost x.h)→e=upM e0 x.cost x.h∨(e∈L∧e.p≠x.p):=by
   intro e he
   obtain⟨i,hi,hie⟩:=List.mem_iff_getElem.1 he
   by_cases hij:i=j
   ·subst hij
    rw [List.getElem_set_self] at hie
    exact Or.inl hie.symm
   ·rw [List.getElem_set_ne (Ne.symm hij)] at hie
    have hi':i<L.length:=by simpa using hi
    refine Or.inr ⟨hie ▸ List.getElem_mem hi',fun hpe=>hij ?_⟩
    have a1:(L.map (·.p))[i]?=some x.p:=by rw [List.getElem?_map,List.getElem?_eq_getElem hi',hie];simp [hpe]
    have a2:(L.map (·.p))[j]?=some x.p:=by rw [List.getElem?_map,he0];simp [hp0]
    exact (List.getElem?_inj (List.getElem?_eq_some_iff.1 a1).1 I.nd).1 (a1.trans a2.symm)
  have hnew:upM e0 x.cost x.h∈L.set j (upM e0 x.cost x.h):=List.mem_iff_getElem.2 ⟨j,by simpa using hj,by simp⟩
  have hold:∀e∈L,e.p≠x.p→e∈L.set j (upM e0 x.cost x.h):=by
   intro e he hne
   obtain⟨i,hi,hie⟩:=List.mem_iff_getElem.1 he
   refine List.mem_iff_getElem.2 ⟨i,by simpa using hi,?_⟩
   rw [List.getElem_set_ne]
   ·exact hie
   ·rintro rfl
    rw [List.getElem?_eq_getElem hi] at he0
    injection he0 with he0
    exact hne (by rw [←hie,he0,hp0])
  refine⟨?_,fun y hy=>?_,fun e he=>?_⟩
  ·rw [List.map_set,Qva]
   have:(L.map (·.p)).set j e0.p=L.map (·.p):=by
    apply List.ext_getElem?
    intro i
    rw [List.getElem?_set]
    split
    ·rename_i hij
     subst hij
     rw [List.getElem?_map,he0]
     simp [hj]
    ·rfl
   rw [this]
   exact I.nd
  ·by_cases hyp:y.p=x.p
   ·refine⟨_,hnew,by rw [Qva,hp0,hyp],?_⟩
    rcases List.mem_append.1 hy with hy|hy
    ·obtain⟨e,he,h1,h2,h3⟩:=I.has y hy
     have:e=e0:=by
      obtain⟨i,hi,hie⟩:=List.mem_iff_getElem.1 he
      have a1:(L.map (·.p))[i]?=some x.p:=by rw [List.getElem?_map,List.getElem?_eq_getElem hi,hie];simp [h1,hyp]
      have a2:(L.map (·.p))[j]?=some x.p:=by rw [List.getElem?_map,he0];simp [hp0]
      have hij:=(List.getElem?_inj (List.getElem?_eq_some_iff.1 a1).1 I.nd).1 (a1.trans a2.symm)
      subst hij
      rw [List.getElem?_eq_getElem hi] at he0
      injection he0 with he0
      rw [←hie,he0]
     subst this
     unfold upM
     split
     ·exact⟨h2,h3⟩
     ·split
      ·exact⟨by show x.cost≤y.cost;omega,fun h=>by have:x.cost=y.cost:=h;omega⟩
      ·have hc:e.cost=x.cost:=by omega
       exact⟨by show x.cost≤y.cost;omega,fun h=>List.mem_append_left _ (h3 (by have:x.cost=y.cost:=h;omega))⟩
    ·obtain rfl:y=x:=by simpa using hy
     unfold upM
     split
     ·exact⟨by omega,fun h=>by omega⟩
     ·split
      ·exact⟨Int.le_refl _,fun _=>by simp⟩
      ·exact⟨Int.le_refl _,fun _=>by simp⟩
   ·rcases List.mem_append.1 hy with hy|hy
    ·obtain⟨e,he,h1,h2⟩:=I.has y hy
     exact⟨e,hold e he (by rw [h1];exact hyp),h1,h2⟩
    ·obtain rfl:y=x:=by simpa using hy
     exact (hyp rfl).elim
  ·rcases hset e he with rfl|⟨he,-⟩
   ·obtain⟨h1,h2⟩:=I.of e0 hm0
    have hx:x∈l++[x]:=List.mem_append_right _ (List.mem_singleton.2 rfl)
    have h2':∀h∈e0.hs,∃y∈l++[x],y.p=e0.p∧y.cost=e0.cost∧y.h=h:=fun h hh=>by
     obtain⟨y,hy,h3⟩:=h2 h hh
     exact⟨y,List.mem_append_left _ hy,h3⟩
    unfold upM
    split
    ·exact⟨h1,h2'⟩
    ·split
     ·exact⟨by simp,fun h hh=>⟨x,hx,hp0.symm,rfl,(List.mem_singleton.1 hh).symm⟩⟩
     ·have hc:e0.cost=x.cost:=by omega
      refine⟨by simp,fun h hh=>?_⟩
      rcases List.mem_append.1 hh with hh|hh
      ·obtain⟨y,hy,h3,h4,h5⟩:=h2' h hh
       exact⟨y,hy,h3,h4.trans hc,h5⟩
      ·exact⟨x,hx,hp0.symm,rfl,(List.mem_singleton.1 hh).symm⟩
   ·obtain⟨h1,h2⟩:=I.of e he
    exact⟨h1,fun h hh=>by obtain⟨y,hy,h3⟩:=h2 h hh;exact⟨y,List.mem_append_left _ hy,h3⟩⟩
theorem Qvl (l:List CW):MetI l (metM l):=by
 have:∀(r l:List CW) (L:List ME),MetI l L→MetI (l++r) (r.foldl (fun L x=>putM L x.p x.cost x.h) L):=by
  intro r
  induction r with
  | nil=>intro l L h;simpa using h
  | cons x r ih =>
   intro l L h
   have:=ih (l++[x]) _ (h.step x)
   simpa using this
 have h:=this l [] [] ⟨by simp,by simp,by simp⟩
 simpa [metM] using h
theorem Qry (L:List ME) (p:PX) (c:Int) (h:HL):(putM L p c h).length≤L.length+1:=by
 unfold putM
 split
 ·simp
 ·split
  ·simp
  ·omega
end Go.Proofs.YtddbffoiadmffaaGreat
