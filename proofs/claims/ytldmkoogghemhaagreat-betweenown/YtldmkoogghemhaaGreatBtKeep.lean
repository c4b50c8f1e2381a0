import Derived.Test.YtldmkoogghemhaaGreatBtCode2
import Derived.Test.YtldmkoogghemhaaGreatInRes1
import Derived.Sort.Grow
import Derived.Laws.AppendOwnNone
namespace Go.Proofs.YtldmkoogghemhaaGreat
set_option maxHeartbeats 8000000
open Go.RowKit Go.Shelf Go.Lib Go.Sort
set_option linter.unusedVariables false
set_option maxRecDepth 100000
def WY0:WY:=⟨⟨⟨0,0⟩,0,0,0,0,0,0,0,[]⟩,.slice none 0 0⟩
abbrev WsB (w0 w:World) (v:Value) (N:List WY):Prop:=VBuf 47 10 w0 w v N.length (cellsG WY.cs N)
abbrev WV (w:World) (v:Value) (N:List WY):Prop:=ValsAt w 10 v N.length (cellsG WY.cs N)
def ofW (L:List WY) (i:Nat):WY:=(L[i]?).getD WY0
def encW (L:List WY) (i:Nat):List Value:=(ofW L i).cs
def cfW (L:List WY) (i j:Nat):Int:=cW (ofW L i).x (ofW L j).x
theorem Ql9 (L:List WY) (i j:Nat):ltOf (cfW L) i j=true↔(ofW L i).x.wlt (ofW L j).x:=by
 unfold ltOf
 rw [decide_eq_true_iff]
 exact Qn0 _ _
theorem Qf1 (L:List WY) (i j:Nat):ltOf (cfW L) i j=false↔¬(ofW L i).x.wlt (ofW L j).x:=by
 rw [←Ql9]
 simp
theorem Qm5 (L:List WY):SWO (ltOf (cfW L)) where
 irrefl x:=(Qf1 L x x).2 (WP.wlt_irr _)
 trans x y z h1 h2:=by rw [Ql9] at *;exact WP.wlt_trans h1 h2
 ntrans x y z h1 h2:=by rw [Qf1] at *;exact WP.wlt_n h1 h2
theorem Qhi {w:World} {g cap base:Nat} {L:List WY} (h:w.ownsRow base 47 10 (.slice (some ⟨g,0,none⟩) L.length cap) L.length (cellsG WY.cs L)):HoldsK (encW L) 10 w g 0 (List.range L.length).toArray:=by
 intro j hj
 rw [size_flatK] at hj
 have hj':j<L.length*10:=by simpa using hj
 have hi:j/10<L.length:=by omega
 have hm:j%10<10:=by omega
 rcases h.2 with⟨h1,-⟩|⟨g',cap',cur,hv,-,hb,-,-,hs,ht⟩
 ·cases h1
 ·injection hv with hv1 hv2 hv3
  injection hv1 with hv1
  injection hv1 with hv1
  subst hv1
  subst hv3
  rw [get_flatK _ _ _ _ hj,Nat.zero_add]
  have e1:((List.range L.length).toArray)[j/10]! = j/10:=by
   rw [getElem!_pos _ _ (by simpa using hi)]
   simp
  have e2:ofW L (j/10)=L[j/10]:=by unfold ofW;simp [hi]
  refine⟨?_,frozen_of_row w g j cur 47 hb⟩
  rw [cell_of_row w g j cur 47 _ hb,e1]
  have e3:cur[j]?=(cellsG WY.cs L)[j]?:=by
   rw [←ht,List.getElem?_take,if_pos hj']
   simp
  have e4:(cellsG WY.cs L)[j]?=(L[j/10]).cs[j%10]?:=by
   have:=Qan WY.len L (j/10) (j%10) hm
   rwa [show j/10*10+j%10=j from by omega,List.getElem?_eq_getElem hi] at this
  have hcl:j%10<(L[j/10]).cs.length:=by simp [WY.cs];omega
  rw [e3,e4]
  show _=some ((encW L (j/10))[j%10]!)
  unfold encW
  rw [e2,List.getElem?_eq_getElem hcl,getElem!_pos (L[j/10]).cs (j%10) hcl]
theorem Qfw {w:World} {g cap:Nat} {L:List WY} {d:Array Nat} (h:HoldsK (encW L) 10 w g 0 d) (h1:d.size≤cap) (h2:cap≤maxLen):ValsAt w 10 (.slice (some ⟨g,0,none⟩) d.size cap) d.size (cellsG WY.cs (d.toList.map (ofW L))):=by
 refine⟨by rw [Qat WY.len];simp,Or.inr ⟨_,_,rfl,h1,h2,fun j u hj=>?_⟩⟩
 have hjl:=(List.getElem?_eq_some_iff.1 hj).1
 rw [Qat WY.len,List.length_map,Array.length_toList] at hjl
 have hi:j/10<d.size:=by omega
 have hm:j%10<10:=by omega
 rw [Qah]
 have hh:=(h j (by rw [size_flatK];exact hjl)).1
 rw [get_flatK _ _ _ _ hjl] at hh
 rw [hh]
 have e4:=Qan WY.len (d.toList.map (ofW L)) (j/10) (j%10) hm
 rw [show (d.toList.map (ofW L))[j/10]?=some (ofW L d[j/10]) from by simp [hi]] at e4
 rw [show j/10*10+j%10=j from by omega,hj] at e4
 change some u=(ofW L d[j/10]).cs[j%10]? at e4
 have hcl:j%10<(ofW L d[j/10]).cs.length:=by simp [WY.cs];omega
 rw [getElem!_pos d _ hi]
 show some ((encW L d[j/10])[j%10]!)=_
 unfold encW
 rw [e4,List.getElem?_eq_getElem hcl,getElem!_pos (ofW L d[j/10]).cs (j%10) hcl]
theorem Qh2 (L:List WY) (w:World) (m blk off:Nat) (d:Array Nat):Touch (fun k=>k=blk) w (putRowK (encW L) 10 (Sort.ahead w m) blk off d):=by
 unfold putRowK putRow mapBlock
 exact⟨rfl,rfl,rfl,by simp [Sort.ahead],fun k hk hn=>by simp [Sort.ahead,Array.getElem?_modify,Ne.symm hn]⟩
theorem Qiq (base:Nat) (w':World) (g c:Nat) (L:List WY) (hsl:∀y∈L,∃a n c,y.hv=.slice a n c) (X:w'.ownsRow base 47 10 (.slice (some ⟨g,0,none⟩) L.length c) L.length (cellsG WY.cs L)) (hc:c≤maxLen) (hlc:L.length≤c) (hn:L.length≤100000000000) :
  Calls Tryz.prog 48 #[.slice (some ⟨g,0,none⟩) L.length c,.func (.func 49) #[] #[]] w' fun e w''=>e=.returned (.tuple #[])∧∃S,S.Perm L∧S.Pairwise (fun a b=>a.x.wle b.x)∧WV w'' (.slice (some ⟨g,0,none⟩) L.length c) S∧Touch (fun k=>k=g) w' w'':=by
 have eg:∀args w,(callFunc 49 args).run Tryz.prog w=.ok (.enter 49 args) w:=enters_of Tryz.func49 (by kernel_rfl) rfl
 have hH:=Qhi X
 have hgl:g<w'.heap.size:=(X.lt g rfl).2
 have hone:∀i,∀v∈encW L i,v.oneCell'=true:=by
  intro i v hv
  have hs:∃a n c,(ofW L i).hv=.slice a n c:=by
   unfold ofW
   cases h:L[i]? with
   | none=>exact⟨none,0,0,rfl⟩
   | some y=>exact hsl y (List.mem_of_getElem? h)
  obtain⟨a1,n1,c1,e1⟩:=hs
  simp only [encW,WY.cs,e1] at hv
  exact Qbw _ _ _ _ _ _ _ _ _ _ _ _ v hv
 have hsz:(List.range L.length).toArray.size=L.length:=by simp
 have hcon:=AnyQ.slices_SortFunc sortWd 10 Tryz.isAgg47 Tryz.sizeOf47 (encW L) (fun _=>rfl) hone (cfW L) (Qm5 L) 49 #[] g 0 c (List.range L.length).toArray w' eg (fun _ _ _ _ x y=>Qk1 (ofW L x) (ofW L y) _) hH hgl (by rw [hsz];omega)
 rw [hsz] at hcon
 refine Calls.mono hcon ?_
 rintro e w'' ⟨rfl,d',n,os,hpp,hs,rfl⟩
 obtain⟨hp1,-,hp3⟩:=hpp
 have e2:d'.size=L.length:=by rw [hp1];simp
 have p:d'.toList.Perm (List.range L.length):=by
  have h5:d'.extract 0 L.length=d':=by rw [←e2];simp
  rw [h5] at hp3
  have h4:d'.toList.Perm (List.take L.length (List.range L.length)):=by simpa using hp3
  rwa [List.take_of_length_le (by simp)] at h4
 have hmap:(List.range L.length).map (ofW L)=L:=by
  apply List.ext_getElem?
  intro i
  rw [List.getElem?_map]
  rcases Nat.lt_or_ge i L.length with h|h
  ·simp [h,ofW]
  ·rw [List.getElem?_eq_none (by simpa using h),List.getElem?_eq_none h];rfl
 have q:(d'.toList.map (ofW L)).Perm L:=by
  have:=p.map (ofW L)
  rwa [hmap] at this
 have T2:Touch (fun k=>k=g) w' (sortWorldK (encW L) 10 w' g 0 n d' os):=(Qh2 L w' n g 0 d').trans ((Qdh _ os).mono (fun _ _ h=>h.elim))
 refine⟨rfl,d'.toList.map (ofW L),q,?_,?_,?_⟩
 ·rw [List.pairwise_map,List.pairwise_iff_getElem]
  intro i j hi hj hij
  have hj':j<d'.size:=by simpa using hj
  have hi':i<d'.size:=by simpa using hi
  have:=(Qf1 L _ _).1 (hs i j (Nat.zero_le _) hij (by omega))
  rw [getElem!_pos d' j hj',getElem!_pos d' i hi'] at this
  show ¬WP.wlt _ _
  simpa using this
 ·have h1:=holdsK_putRowK (encW L) 10 (Sort.ahead w' n) g 0 (List.range L.length).toArray d' hH (by rw [e2];simp)
  have h2:=holdsK_grow (encW L) 10 _ os g 0 d' (by unfold putRowK putRow mapBlock;simpa [Sort.ahead] using hgl) h1
  have h3:=Qfw (cap:=c) h2 (by omega) hc
  rw [e2] at h3
  have hl3:(d'.toList.map (ofW L)).length=L.length:=by simp [e2]
  show ValsAt _ 10 _ (d'.toList.map (ofW L)).length _
  rw [hl3]
  exact h3
 ·exact T2
theorem Qjz (base:Nat) (w1:World) (p:Value) (L:List WY) (hsl:∀y∈L,∃a n c,y.hv=.slice a n c) (X:w1.ownsRow base 47 10 p L.length (cellsG WY.cs L)) (hn:L.length≤100000000000) :
  Calls Tryz.prog 48 #[p,.func (.func 49) #[] #[]] w1 fun e w2=>e=.returned (.tuple #[])∧∃S,S.Perm L∧S.Pairwise (fun a b=>a.x.wle b.x)∧WV w2 p S∧Touch (fun k=>p.ownBlock=some k) w1 w2:=by
 rcases X.2 with⟨rfl,h0⟩|⟨g,cap,cur,rfl,hb,hh,h1,h2,h3,h4⟩
 ·have e:L=[]:=List.length_eq_zero_iff.1 h0
  subst e
  refine Calls.mono (AnyF.slices_SortFunc_none sortWd none 0 (.func (.func 49) #[] #[]) w1) ?_
  rintro e w2 ⟨rfl,rfl⟩
  exact⟨rfl,[],List.Perm.refl _,List.Pairwise.nil,⟨rfl,Or.inl ⟨rfl,rfl⟩⟩,Touch.refl _ _⟩
 ·refine Calls.mono (Qiq base w1 g cap L hsl X h2 h1 hn) ?_
  rintro e w2 ⟨rfl,S,hp,hs,hv,t⟩
  exact⟨rfl,S,hp,hs,hv,t.mono (fun k _ e=>by rw [e];rfl)⟩
open Go.RowKit Go.Shelf
theorem Qhz (w:World) (mv:Value) (S c:List HK) (M:HopsAt w mv S) (hl:S.length≤100000000000) (hc:jn [] S=c) :
  Calls Tryz.prog 77 #[.slice none 0 0,mv] w fun e w'=>∃r,e=.returned r∧HpB w w' r c:=by
 refine (Qlv w w.heap.size (.slice none 0 0) mv [] S (World.ownsRow_nil _ _ _ _) M (fun k h=>by cases h) (Nat.le_refl _) (by simp;omega)).mono (fun e w' X=>?_)
 obtain⟨⟨v',h1,h2,-⟩,t⟩:=X
 have t':Touch (fun _=>False) w w':=t.mono (fun _ _ h=>by cases h)
 rw [hc] at h2
 exact⟨v',h1,⟨h2,t'⟩⟩
theorem Qdu (w:World) (u v:Value) (a b c:List HK) (A:HV3 w u a) (B:HV3 w v b) (hl:a.length+b.length≤100000000000) (hr:c.Pairwise HK.lt) (hm:∀x,x∈c↔x∈a∨x∈b) :
  Calls Tryz.prog 52 #[u,v] w fun e w'=>∃r,e=.returned r∧HpB w w' r c:=by
 have HA:Hid (HV3 w u a):=A
 have HVB:Hid (HV3 w v b):=B
 have HL:Hid (a.length+b.length≤100000000000):=hl
 have HC:Hid (∀S:List HK,S.Perm (a++b)→S.Pairwise HK.le→jn [] S=c):=fun S hp hs=>by
  refine Qky (Qk4 [] S List.Pairwise.nil hs (fun x hx=>by cases hx)) hr (fun x=>?_)
  rw [Qou,hm,hp.mem_iff]
  simp
 have HCC:Hid (∀w1,Touch (fun _=>False) w w1→w1.cell? ⟨w.heap.size,0,none⟩=some u→w1.cell? ⟨w.heap.size,1,none⟩=some v→Calls Tryz.prog 74 #[.slice (some ⟨w.heap.size,0,none⟩) 2 2] w1 fun e w'=>∃v',e=.returned v'∧HpB w1 w' v' (a++b)):=fun w1 t c1 c2=>Qh8 _ u v a b w1 c1 c2 (HA.out.keep t) (HVB.out.keep t) (by have:=HL.out;omega) (by have:=HL.out;omega)
 clear A B hl hr hm
 obtain⟨ua,uc,rfl,-⟩:=HA.out.form
 obtain⟨vaa,vc,rfl,-⟩:=HVB.out.form
 have HLN:Hid ((a++b).length≤100000000000):=by show _≤_;rw [List.length_append];exact HL.out
 generalize hN:a.length=N at *
 generalize hM:b.length=M at *
 clear hN hM
 go_enter Tryz.func52,Tryz.ntmps52
 go_wp2_with (first
  | (go_at_call 74;refine (HCC.out _ (by first|exact (Touch.refl _ _).alloc _|exact ((Touch.refl _ _).alloc _).drew) (by simp [go_sem]) (by simp [go_sem])).mono ?_;rintro e w1 ⟨p,rfl,h1⟩)
  | (go_at_call 75;refine (Qla _ w1 p (a++b) h1 HLN.out).mono ?_;rintro e w2 ⟨rfl,S,hp,hs,hh,t⟩;have HT:Hid (Touch (fun _=>False) w w2):=((Touch.refl _ _).alloc _).trans t;clear t h1)
  | (go_at_call 77;go_loud (refine (Qhz w2 p S c hh (by rw [hp.length_eq];exact HLN.out) (HC.out S hp hs)).mono ?_);rintro e w3 ⟨r,rfl,h3⟩))
 go_ret
 exact⟨r,rfl,h3.back HT.out⟩
open Go.RowKit
abbrev HOw (base:Nat) (w:World) (v:Value) (l:List HK):Prop:=w.ownsRow base 53 3 v l.length (cellsG HK.cs l)
def Apt (a b:WY):Prop:=∀k,b.hv.ownBlock=some k→a.hv.ownBlock≠some k
structure KpR (w wr:World) (s:Value) (K:List WY):Prop where
 b:WsB w wr s K
 h:∀y∈K,HOw w.heap.size wr y.hv y.x.hs
 ap:K.Pairwise Apt
theorem KpR.nil {w wr:World} (t:Touch (fun _=>False) w wr):KpR w wr (.slice none 0 0) []:=⟨VBuf.nil _ _ t,by simp,List.Pairwise.nil⟩
theorem KpR.keep {w wr w':World} {s:Value} {K:List WY} (h:KpR w wr s K) (t:Touch (fun _=>False) wr w'):KpR w w' s K:=⟨h.b.keep t,fun y hy=>Qab (h.h y hy) t (fun _ _ h=>h),h.ap⟩
theorem KpR.wb {w wr:World} {s:Value} {K:List WY} (h:KpR w wr s K):WB1 w wr s K:=⟨h.b,fun y hy=>Qak (h.h y hy) (Nat.zero_le _)⟩
theorem KpR.fresh {w wr w':World} {s:Value} {K:List WY} (h:KpR w wr s K) {g:Nat} (hg:wr.heap.size≤g) (t:Touch (fun k=>k=g) wr w'):KpR w w' s K:=by
 have hb:∀{e k n:Nat} {v:Value} {xs:List Value},wr.ownsRow w.heap.size e k v n xs→∀j,v.ownBlock=some j→¬j=g:=fun ho j hj e=>by
  have:=(ho.lt j hj).2
  omega
 exact⟨⟨Qab h.b.own t (hb h.b.own),h.b.t.trans' t (fun i hi e=>by have:=h.b.t.size;omega)⟩,fun y hy=>Qab (h.h y hy) t (hb (h.h y hy)),h.ap⟩
theorem KpR.app {w wr w1 w2:World} {s s':Value} {K:List WY} (h:KpR w wr s K) (h1:KpR w w1 s K) (hs:wr.heap.size≤w1.heap.size) {y:WY} (ho:HOw wr.heap.size w1 y.hv y.x.hs)
  (own:w2.ownsRow w.heap.size 47 10 s' (K.length+1) (cellsG WY.cs K++y.cs)) (t:Touch (fun j=>s.ownBlock=some j) w1 w2):KpR w w2 s' (K++[y]):=by
 refine⟨⟨?_,h1.b.t.trans' t (fun i hi e=>by have:=(h1.b.own.lt i e).1;omega)⟩,fun z hz=>?_,?_⟩
 ·rw [List.length_append,Qap]
  have e:cellsG WY.cs [y]=y.cs:=by simp [cellsG]
  rw [e]
  exact own
 ·rcases List.mem_append.1 hz with hz|hz
  ·exact Qab (h1.h z hz) t (fun j hj e=>Qa1 (h1.h z hz) h1.b.own (by decide) j hj e)
  ·obtain rfl:=List.mem_singleton.1 hz
   exact Qab (Qak ho (Nat.le_trans h.b.t.size (Nat.le_refl _))) t (fun j hj e=>Qa1 ho h1.b.own (by decide) j hj e)
 ·refine List.pairwise_append.2 ⟨h1.ap,by simp,fun a ha b hb k hk e=>?_⟩
  obtain rfl:=List.mem_singleton.1 hb
  have e1:=(ho.lt k hk).1
  have e2:=((h.h a ha).lt k e).2
  omega
theorem KpR.more {w w1 w2:World} {g c:Nat} {K:List WY} {y:WY} {v':Value} {l:List HK} (h:KpR w w1 (.slice (some ⟨g,0,none⟩) (K.length+1) c) (K++[y])) (own:HOw w.heap.size w2 v' l) (t:Touch (fun j=>y.hv.ownBlock=some j) w1 w2) (hv:v'.ownBlock=y.hv.ownBlock∨∀k,v'.ownBlock=some k→w1.heap.size≤k) :
  KpR w (w2.setCell ⟨g,K.length*10+9,none⟩ v') (.slice (some ⟨g,0,none⟩) (K.length+1) c) (K++[⟨{ y.x with hs:=l },v'⟩]):=by
 have hym:y∈K++[y]:=by simp
 have hap:=(List.pairwise_append.1 h.ap).2.2
 have tg:Touch (fun k=>k=g) w2 (w2.setCell ⟨g,K.length*10+9,none⟩ v'):=Touch.setCell (F:=fun k=>k=g) (p:=⟨g,K.length*10+9,none⟩) (Touch.refl _ _) (Or.inl rfl) _
 have hb1:w2.ownsRow w.heap.size 47 10 (.slice (some ⟨g,0,none⟩) (K.length+1) c) (K.length+1) (cellsG WY.cs (K++[y])):=by
  have:=Qab h.b.own t (fun j hj e=>Qa1 h.b.own (h.h y hym) (by decide) j hj e)
  simpa using this
 have hng:∀{v:Value} {l:List HK},HOw w.heap.size w2 v l→∀j,v.ownBlock=some j→¬j=g:=fun ho j hj e=>Qa1 ho hb1 (by decide) j hj (by rw [e];rfl)
 have hK:∀z∈K,HOw w.heap.size w2 z.hv z.x.hs:=fun z hz=>Qab (h.h z (by simp [hz])) t (fun j hj e=>hap z hz y (by simp) j e hj)
 refine⟨⟨?_,?_⟩,fun z hz=>?_,?_⟩
 ·have e1:=(hb1.stored (K.length*10+9) v').1
  have e2:(cellsG WY.cs (K++[y])).set (K.length*10+9) v'=cellsG WY.cs (K++[⟨{ y.x with hs:=l },v'⟩]):=by
   have:=Qbt WY.len (K++[y]) K.length 9 (by omega) y ⟨{ y.x with hs:=l },v'⟩ (by simp) v' rfl
   rw [←this]
   congr 1
   simp
  rw [e2] at e1
  simpa using e1
 ·refine (h.b.t.trans' t (fun i hi e=>?_)).trans' tg (fun i hi e=>?_)
  ·have:=((h.h y hym).lt i e).1;omega
  ·have:=(hb1.lt g rfl).1;omega
 ·rcases List.mem_append.1 hz with hz|hz
  ·exact Qab (hK z hz) tg (hng (hK z hz))
  ·obtain rfl:=List.mem_singleton.1 hz
   exact Qab own tg (hng own)
 ·refine List.pairwise_append.2 ⟨(List.pairwise_append.1 h.ap).1,by simp,fun a ha b hb k hk e=>?_⟩
  obtain rfl:=List.mem_singleton.1 hb
  rcases hv with hv|hv
  ·exact hap a ha y (by simp) k (by rw [←hv];exact hk) e
  ·have e1:=hv k hk
   have e2:=((h.h a (by simp [ha])).lt k e).2
   omega
theorem WB1.set9 {w w1:World} {g c i:Nat} {N:List WY} {y:WY} (h:WB1 w w1 (.slice (some ⟨g,0,none⟩) N.length c) N) (hi:N[i]?=some y) {r:Value} {l:List HK} (ho:HO w1 r l) :
  WB1 w (w1.setCell ⟨g,i*10+9,none⟩ r) (.slice (some ⟨g,0,none⟩) N.length c) (N.set i ⟨{ y.x with hs:=l },r⟩):=by
 have tg:Touch (fun k=>k=g) w1 (w1.setCell ⟨g,i*10+9,none⟩ r):=Touch.setCell (F:=fun k=>k=g) (p:=⟨g,i*10+9,none⟩) (Touch.refl _ _) (Or.inl rfl) _
 have hng:∀{v:Value} {l:List HK},HO w1 v l→∀j,v.ownBlock=some j→¬j=g:=fun ho j hj e=>Qa1 ho h.b.own (by decide) j hj (by rw [e];rfl)
 refine⟨⟨?_,h.b.t.trans' tg (fun i hi e=>by have:=(h.b.own.lt g rfl).1;omega)⟩,fun z hz=>?_⟩
 ·have e1:=(h.b.own.stored (i*10+9) r).1
  rw [←Qbt WY.len N i 9 (by omega) y ⟨{ y.x with hs:=l },r⟩ hi r rfl] at e1
  rw [List.length_set]
  exact e1
 ·rcases List.mem_or_eq_of_mem_set hz with hz|rfl
  ·exact Qab (h.h z hz) tg (hng (h.h z hz))
  ·exact Qab ho tg (hng ho)
end Go.Proofs.YtldmkoogghemhaaGreat
