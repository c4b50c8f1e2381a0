import Derived.Shelf.SlSortCmp.WholeK
import Derived.Shelf.SlGeneric
import Derived.Ground.SlsfProg
import Derived.Shelf.SlSortCmp.NoneTotal
import Derived.Test.YtddbffoiadmffaaGreatRows
import Derived.Sort.Grow
import Derived.Test.YtddbffoiadmffaaGreatInCat
namespace Go.Proofs.YtddbffoiadmffaaGreat
set_option maxHeartbeats 8000000
open Go.Shelf
def sortHd_ren:Go.Shelf.Ren:=⟨fun|6=>47|15=>87|14=>86|28=>129|29=>130|20=>121|21=>122|22=>123|23=>124|24=>125|25=>126|26=>127|27=>128|46=>161|47=>162|48=>163|49=>164|50=>165|57=>194|n=>n,fun|22=>43|24=>48|25=>109|3=>3|39=>188|0=>0|53=>23|55=>46|4=>4|46=>228|45=>227|50=>97|5=>5|9=>9|66=>270|70=>274|76=>309|77=>277|n=>n,fun|n=>n⟩
theorem sortHd:Go.Proofs.SlLaysF0.n6 Tryz.prog sortHd_ren:={
 mixed:=by kernel_rfl
 f6:=⟨Tryz.f47.name,by decide,Tryz.func47.trans (congrArg some (by kernel_rfl))⟩
 f14:=⟨Tryz.f86.name,by decide,Tryz.func86.trans (congrArg some (by kernel_rfl))⟩
 f15:=Tryz.func87.trans (congrArg some (by kernel_rfl))
 f20:=⟨Tryz.f121.name,by decide,Tryz.func121.trans (congrArg some (by kernel_rfl))⟩
 f21:=⟨Tryz.f122.name,by decide,Tryz.func122.trans (congrArg some (by kernel_rfl))⟩
 f22:=⟨Tryz.f123.name,by decide,Tryz.func123.trans (congrArg some (by kernel_rfl))⟩
 f23:=⟨Tryz.f124.name,by decide,Tryz.func124.trans (congrArg some (by kernel_rfl))⟩
 f24:=⟨Tryz.f125.name,by decide,Tryz.func125.trans (congrArg some (by kernel_rfl))⟩
 f25:=⟨Tryz.f126.name,by decide,Tryz.func126.trans (congrArg some (by kernel_rfl))⟩
 f26:=⟨Tryz.f127.name,by decide,Tryz.func127.trans (congrArg some (by kernel_rfl))⟩
 f27:=⟨Tryz.f128.name,by decide,Tryz.func128.trans (congrArg some (by kernel_rfl))⟩
 f28:=Tryz.func129.trans (congrArg some (by kernel_rfl))
 f29:=Tryz.func130.trans (congrArg some (by kernel_rfl))
 f46:=⟨Tryz.f161.name,by decide,Tryz.func161.trans (congrArg some (by kernel_rfl))⟩
 f47:=Tryz.func162.trans (congrArg some (by kernel_rfl))
 f48:=Tryz.func163.trans (congrArg some (by kernel_rfl))
 f49:=⟨Tryz.f164.name,by decide,Tryz.func164.trans (congrArg some (by kernel_rfl))⟩
 f50:=⟨Tryz.f165.name,by decide,Tryz.func165.trans (congrArg some (by kernel_rfl))⟩
 f57:=⟨Tryz.f194.name,by decide,Tryz.func194.trans (congrArg some (by kernel_rfl))⟩
 t0:=Tryz.underlying0
 a0:=Tryz.isAgg0
 z0:=Tryz.sizeOf0
 v0:=Tryz.zeroValue0
 t3:=Tryz.underlying3
 a3:=Tryz.isAgg3
 z3:=Tryz.sizeOf3
 v3:=Tryz.zeroValue3
 t4:=Tryz.underlying4
 a4:=Tryz.isAgg4
 z4:=Tryz.sizeOf4
 v4:=Tryz.zeroValue4
 t5:=Tryz.underlying5
 a5:=Tryz.isAgg5
 z5:=Tryz.sizeOf5
 v5:=Tryz.zeroValue5
 t9:=Tryz.underlying9
 a9:=Tryz.isAgg9
 z9:=Tryz.sizeOf9
 v9:=Tryz.zeroValue9
 t22:=Tryz.underlying43
 a22:=Tryz.isAgg43
 z22:=Tryz.sizeOf43
 v22:=Tryz.zeroValue43
 t25:=Tryz.underlying109
 a25:=Tryz.isAgg109
 z25:=Tryz.sizeOf109
 v25:=Tryz.zeroValue109
 t39:=Tryz.underlying188
 a39:=Tryz.isAgg188
 z39:=Tryz.sizeOf188
 v39:=Tryz.zeroValue188
 t45:=Tryz.underlying227
 a45:=Tryz.isAgg227
 z45:=Tryz.sizeOf227
 v45:=Tryz.zeroValue227
 t46:=Tryz.underlying228
 a46:=Tryz.isAgg228
 z46:=Tryz.sizeOf228
 v46:=Tryz.zeroValue228
 t50:=Tryz.underlying97
 a50:=Tryz.isAgg97
 z50:=Tryz.sizeOf97
 v50:=Tryz.zeroValue97
 t53:=Tryz.underlying23
 a53:=Tryz.isAgg23
 z53:=Tryz.sizeOf23
 v53:=Tryz.zeroValue23
 t55:=Tryz.underlying46
 a55:=Tryz.isAgg46
 z55:=Tryz.sizeOf46
 v55:=Tryz.zeroValue46
 t66:=Tryz.underlying270
 a66:=Tryz.isAgg270
 z66:=Tryz.sizeOf270
 v66:=Tryz.zeroValue270
 t70:=Tryz.underlying274
 a70:=Tryz.isAgg274
 z70:=Tryz.sizeOf274
 v70:=Tryz.zeroValue274
 t76:=Tryz.underlying309
 a76:=Tryz.isAgg309
 z76:=Tryz.sizeOf309
 v76:=Tryz.zeroValue309
 t77:=Tryz.underlying277
 a77:=Tryz.isAgg277
 z77:=Tryz.sizeOf277
 v77:=Tryz.zeroValue277 }
open Go.RowKit Go.Shelf Go.Lib Go.Sort
set_option linter.unusedVariables false
set_option maxRecDepth 100000
theorem Qqn (x y:HK) (w:World):Calls Tryz.prog 48 #[.agg #[.int .u32 x.out,.int .u32 x.via,.bool x.vr],.agg #[.int .u32 y.out,.int .u32 y.via,.bool y.vr]] w fun e w'=>e=.returned (.int .i64 (cH x y))∧∃q os',w'=grow (w.drewN q) os':=by
 have HE:Hid (cH x y=fstI (cmpI x.out y.out) (fstI (cmpI x.via y.via) (bz x.vr-bz y.vr))):=rfl
 generalize cH x y=z at HE ⊢
 obtain⟨x0,x1,x2⟩:=x
 obtain⟨y0,y1,y2⟩:=y
 have b1:=Qcl x2
 have b2:=Qcl y2
 simp only at HE b1 b2
 have H1:Hid _:=Qdx x2
 have H2:Hid _:=Qdx y2
 generalize hbx:bz x2=p at *
 generalize hby:bz y2=q at *
 have HX:Hid _:=hbx
 have HY:Hid _:=hby
 clear hbx hby
 obtain⟨b10,b11⟩:=b1
 obtain⟨b20,b21⟩:=b2
 have hw:IntKind.i64.wrap (p-q)=p-q:=by
  rcases (by omega:p=0∨p=1) with rfl|rfl <;> rcases (by omega:q=0∨q=1) with rfl|rfl <;> rfl
 go_enter Tryz.func48,Tryz.ntmps48
 go_wp2_with fail
 go_region_held3 (fun w'=>w'.cell? ⟨w.heap.size,0,none⟩=some (.int .u32 x0)∧w'.cell? ⟨w.heap.size,1,none⟩=some (.int .u32 x1)∧w'.cell? ⟨w.heap.size,2,none⟩=some (.bool x2)∧w'.cell? ⟨w.heap.size+1,0,none⟩=some (.int .u32 y0)∧w'.cell? ⟨w.heap.size+1,1,none⟩=some (.int .u32 y1)∧w'.cell? ⟨w.heap.size+1,2,none⟩=some (.bool y2)) (go_keep) (first
  | (go_at_call 89;refine (Qd6 _ _ _).mono ?_;rintro e w1 ⟨rfl,rfl⟩)
  | (go_at_call 90;refine (H1.out _).mono ?_;rintro e w1 ⟨rfl,rfl⟩)
  | (go_at_call 90;refine (H2.out _).mono ?_;rintro e w1 ⟨rfl,rfl⟩)
  | (go_at_call 88;refine (Qjr _ _ _ _ _ z HE.out _ (by simp [go_sem]) (by simp [go_sem]) (by simp [go_sem])).mono ?_;rintro e w5 ⟨rfl,rfl⟩))
 go_wp2_with fail
 go_ret
 exact⟨rfl,(((((Grs.refl w).alloc _).alloc _).alloc _).drew).out⟩
def ofH (L:List HK) (i:Nat):HK:=(L[i]?).getD HK0
def encH (L:List HK) (i:Nat):List Value:=(ofH L i).cs
def cfH (L:List HK) (i j:Nat):Int:=cH (ofH L i) (ofH L j)
theorem Qsl (L:List HK) (i j:Nat):ltOf (cfH L) i j=true↔(ofH L i).lt (ofH L j):=by
 unfold ltOf
 rw [decide_eq_true_iff]
 exact Qf2 _ _
theorem Qjj (L:List HK) (i j:Nat):ltOf (cfH L) i j=false↔¬(ofH L i).lt (ofH L j):=by
 rw [←Qsl]
 simp
theorem Qu1 (L:List HK):SWO (ltOf (cfH L)) where
 irrefl x:=(Qjj L x x).2 (HK.lt_irrefl _)
 trans x y z h1 h2:=by rw [Qsl] at *;exact HK.lt_trans h1 h2
 ntrans x y z h1 h2:=by rw [Qjj] at *;unfold HK.lt at *;omega
theorem Qlh {w:World} {g cap base:Nat} {L:List HK} (h:w.ownsRow base 48 3 (.slice (some ⟨g,0,none⟩) L.length cap) L.length (cellsG HK.cs L)):HoldsK (encH L) 3 w g 0 (List.range L.length).toArray:=by
 intro j hj
 rw [size_flatK] at hj
 have hj':j<L.length*3:=by simpa using hj
 have hi:j/3<L.length:=by omega
 have hm:j%3<3:=by omega
 rcases h.2 with⟨h1,-⟩|⟨g',cap',cur,hv,-,hb,-,-,hs,ht⟩
 ·cases h1
 ·injection hv with hv1 hv2 hv3
  injection hv1 with hv1
  injection hv1 with hv1
  subst hv1
  subst hv3
  rw [get_flatK _ _ _ _ hj,Nat.zero_add]
  have e1:((List.range L.length).toArray)[j/3]! = j/3:=by
   rw [getElem!_pos _ _ (by simpa using hi)]
   simp
  have e2:ofH L (j/3)=L[j/3]:=by unfold ofH;simp [hi]
  refine⟨?_,frozen_of_row w g j cur 48 hb⟩
  rw [cell_of_row w g j cur 48 _ hb,e1]
  have e3:cur[j]?=(cellsG HK.cs L)[j]?:=by
   rw [←ht,List.getElem?_take,if_pos hj']
   simp
  have e4:(cellsG HK.cs L)[j]?=(L[j/3]).cs[j%3]?:=by
   have:=Qa0 HK.len L (j/3) (j%3) hm
   rwa [show j/3*3+j%3=j from by omega,List.getElem?_eq_getElem hi] at this
  have hcl:j%3<(L[j/3]).cs.length:=by simp [HK.cs];omega
  rw [e3,e4]
  show _=some ((encH L (j/3))[j%3]!)
  unfold encH
  rw [e2,List.getElem?_eq_getElem hcl,getElem!_pos (L[j/3]).cs (j%3) hcl]
theorem Qi5 {w:World} {g cap:Nat} {L:List HK} {d:Array Nat} (h:HoldsK (encH L) 3 w g 0 d) (h1:d.size≤cap) (h2:cap≤maxLen):ValsAt w 3 (.slice (some ⟨g,0,none⟩) d.size cap) d.size (cellsG HK.cs (d.toList.map (ofH L))):=by
 refine⟨by rw [Qai HK.len];simp,Or.inr ⟨_,_,rfl,h1,h2,fun j u hj=>?_⟩⟩
 have hjl:=(List.getElem?_eq_some_iff.1 hj).1
 rw [Qai HK.len,List.length_map,Array.length_toList] at hjl
 have hi:j/3<d.size:=by omega
 have hm:j%3<3:=by omega
 rw [Qae]
 have hh:=(h j (by rw [size_flatK];exact hjl)).1
 rw [get_flatK _ _ _ _ hjl] at hh
 rw [hh]
 have e4:=Qa0 HK.len (d.toList.map (ofH L)) (j/3) (j%3) hm
 rw [show (d.toList.map (ofH L))[j/3]?=some (ofH L d[j/3]) from by simp [hi]] at e4
 rw [show j/3*3+j%3=j from by omega,hj] at e4
 change some u=(ofH L d[j/3]).cs[j%3]? at e4
 have hcl:j%3<(ofH L d[j/3]).cs.length:=by simp [HK.cs];omega
 rw [getElem!_pos d _ hi]
 show some ((encH L d[j/3])[j%3]!)=_
 unfold encH
 rw [e4,List.getElem?_eq_getElem hcl,getElem!_pos (ofH L d[j/3]).cs (j%3) hcl]
theorem Qlx (L:List HK) (w:World) (m blk off:Nat) (d:Array Nat):Touch (fun k=>k=blk) w (putRowK (encH L) 3 (Sort.ahead w m) blk off d):=by
 unfold putRowK putRow mapBlock
 exact⟨rfl,rfl,rfl,by simp [Sort.ahead],fun k hk hn=>by simp [Sort.ahead,Array.getElem?_modify,Ne.symm hn]⟩
theorem Qnv (w w':World) (g c:Nat) (L:List HK) (X:HpB w w' (.slice (some ⟨g,0,none⟩) L.length c) L) (hc:c≤maxLen) (hlc:L.length≤c) (hn:L.length≤100000000000) :
  Calls Tryz.prog 47 #[.slice (some ⟨g,0,none⟩) L.length c,.func (.func 48) #[] #[]] w' fun e w''=>e=.returned (.tuple #[])∧∃S,S.Perm L∧S.Pairwise HK.le∧HV3 w'' (.slice (some ⟨g,0,none⟩) L.length c) S∧Touch (fun _=>False) w w'':=by
 have eg:∀args w,(callFunc 48 args).run Tryz.prog w=.ok (.enter 48 args) w:=enters_of Tryz.func48 (by kernel_rfl) rfl
 have hH:=Qlh X.own
 have hgl:g<w'.heap.size:=(X.own.lt g rfl).2
 have hgw:w.heap.size≤g:=(X.own.lt g rfl).1
 have hone:∀i,∀v∈encH L i,v.oneCell'=true:=by
  intro i v hv
  simp [encH,HK.cs] at hv
  rcases hv with rfl|rfl|rfl <;> rfl
 have hsz:(List.range L.length).toArray.size=L.length:=by simp
 have hcon:=AnyQ.slices_SortFunc sortHd 3 Tryz.isAgg48 Tryz.sizeOf48 (encH L) (fun _=>rfl) hone (cfH L) (Qu1 L) 48 #[] g 0 c (List.range L.length).toArray w' eg (fun _ _ _ _ x y=>Qqn (ofH L x) (ofH L y) _) hH hgl (by rw [hsz];omega)
 rw [hsz] at hcon
 refine Calls.mono hcon ?_
 rintro e w'' ⟨rfl,d',n,os,hpp,hs,rfl⟩
 obtain⟨hp1,-,hp3⟩:=hpp
 have e2:d'.size=L.length:=by rw [hp1];simp
 have p:d'.toList.Perm (List.range L.length):=by
  have h5:d'.extract 0 L.length=d':=by rw [←e2];simp
  rw [h5] at hp3
  have h4:d'.toList.Perm (List.take L.length (List.range L.length)):=by simpa using hp3
  rwa [List.take_of_length_le (by simp)] at h4
 have hmap:(List.range L.length).map (ofH L)=L:=by
  apply List.ext_getElem?
  intro i
  rw [List.getElem?_map]
  rcases Nat.lt_or_ge i L.length with h|h
  ·simp [h,ofH]
  ·rw [List.getElem?_eq_none (by simpa using h),List.getElem?_eq_none h];rfl
 have q:(d'.toList.map (ofH L)).Perm L:=by
  have:=p.map (ofH L)
  rwa [hmap] at this
 have T2:Touch (fun k=>k=g) w' (sortWorldK (encH L) 3 w' g 0 n d' os):=(Qlx L w' n g 0 d').trans ((Qc8 _ os).mono (fun _ _ h=>h.elim))
 refine⟨rfl,d'.toList.map (ofH L),q,?_,?_,?_⟩
 ·rw [List.pairwise_map,List.pairwise_iff_getElem]
  intro i j hi hj hij
  have hj':j<d'.size:=by simpa using hj
  have hi':i<d'.size:=by simpa using hi
  have:=(Qjj L _ _).1 (hs i j (Nat.zero_le _) hij (by omega))
  rw [getElem!_pos d' j hj',getElem!_pos d' i hi'] at this
  show ¬HK.lt _ _
  simpa using this
 ·have h1:=holdsK_putRowK (encH L) 3 (Sort.ahead w' n) g 0 (List.range L.length).toArray d' hH (by rw [e2];simp)
  have h2:=holdsK_grow (encH L) 3 _ os g 0 d' (by unfold putRowK putRow mapBlock;simpa [Sort.ahead] using hgl) h1
  have h3:=Qi5 (cap:=c) h2 (by omega) hc
  rw [e2] at h3
  have hl3:(d'.toList.map (ofH L)).length=L.length:=by simp [e2]
  show ValsAt _ 3 _ (d'.toList.map (ofH L)).length _
  rw [hl3]
  exact h3
 ·exact X.t.trans' T2 (fun i hi e=>by omega)
open Go.RowKit Go.Shelf
theorem Qtz {w:World} {g c:Nat} {n:Nat} {S:List HK} (hn:n=S.length) (h:HV3 w (.slice (some ⟨g,0,none⟩) n c) S):HopsAt w (.slice (some ⟨g,0,none⟩) n c) S:=by
 subst hn
 refine⟨_,c,rfl,Or.inr ⟨g,rfl,fun i x hx d u hd=>?_⟩⟩
 rcases h.2 with⟨h1,-⟩|⟨ad,c',e,-,-,hc⟩
 ·cases h1
 ·injection e with e1 e2 e3
  injection e1 with e1
  subst e1
  have hd3:d<3:=(List.getElem?_eq_some_iff.1 hd).1
  have:=hc (i*3+d) u (by rw [Qa0 HK.len _ _ _ hd3,hx];exact hd)
  rwa [Qae,Nat.zero_add] at this
theorem Qre (w w1:World) (p:Value) (L:List HK) (X:HpB w w1 p L) (hn:L.length≤100000000000) :
  Calls Tryz.prog 47 #[p,.func (.func 48) #[] #[]] w1 fun e w2=>e=.returned (.tuple #[])∧∃S,S.Perm L∧S.Pairwise HK.le∧HopsAt w2 p S∧Touch (fun _=>False) w w2:=by
 rcases X.own.2 with⟨rfl,h0⟩|⟨g,cap,cur,rfl,hb,hh,h1,h2,h3,h4⟩
 ·have e:L=[]:=List.length_eq_zero_iff.1 h0
  subst e
  refine Calls.mono (AnyF.slices_SortFunc_none sortHd none 0 (.func (.func 48) #[] #[]) w1) ?_
  rintro e w2 ⟨rfl,rfl⟩
  exact⟨rfl,[],List.Perm.refl _,List.Pairwise.nil,⟨none,0,rfl,Or.inl rfl⟩,X.t⟩
 ·refine Calls.mono (Qnv w w1 g cap L X h2 h1 hn) ?_
  rintro e w2 ⟨rfl,S,hp,hs,hv,t⟩
  exact⟨rfl,S,hp,hs,Qtz hp.length_eq.symm hv,t⟩
open Go.RowKit Go.Shelf
def jnL (hs:List HL):List HK:=(flatH hs).foldr pt []
theorem Qen (l:List HK):(l.foldr pt []).Pairwise HK.lt∧∀x,x∈l.foldr pt []↔x∈l:=by
 induction l with
 | nil=>simp
 | cons h l ih =>
  rw [List.foldr_cons]
  refine⟨Qgl h _ ih.1,fun x=>?_⟩
  rw [Qke,ih.2,List.mem_cons,or_comm]
theorem Qmg (w:World) (mv:Value) (S c:List HK) (M:HopsAt w mv S) (hl:S.length≤100000000000) (hc:jn [] S=c) :
  Calls Tryz.prog 49 #[.slice none 0 0,mv] w fun e w'=>∃r,e=.returned r∧HpB w w' r c∧Touch (fun _=>False) w w':=by
 refine (Qkf w w.heap.size (.slice none 0 0) mv [] S (World.ownsRow_nil _ _ _ _) M (fun k h=>by cases h) (Nat.le_refl _) (by simp;omega)).mono (fun e w' X=>?_)
 obtain⟨⟨v',h1,h2,-⟩,t⟩:=X
 have t':Touch (fun _=>False) w w':=t.mono (fun _ _ h=>by cases h)
 rw [hc] at h2
 exact⟨v',h1,⟨h2,t'⟩,t'⟩
theorem Qmp (w:World) (u v:Value) (a b c:List HK) (A:HV3 w u a) (B:HV3 w v b) (hl:a.length+b.length≤100000000000) (hr:c.Pairwise HK.lt) (hm:∀x,x∈c↔x∈a∨x∈b) :
  Calls Tryz.prog 21 #[u,v] w fun e w'=>∃r,e=.returned r∧HpB w w' r c∧Touch (fun _=>False) w w':=by
 have HA:Hid (HV3 w u a):=A
 have HVB:Hid (HV3 w v b):=B
 have HL:Hid (a.length+b.length≤100000000000):=hl
 have HC:Hid (∀S:List HK,S.Perm (a++b)→S.Pairwise HK.le→jn [] S=c):=fun S hp hs=>by
  refine Qkq (Qqm [] S List.Pairwise.nil hs (fun x hx=>by cases hx)) hr (fun x=>?_)
  rw [Qvr,hm,hp.mem_iff]
  simp
 have HCC:Hid (∀w1,Touch (fun _=>False) w w1→w1.cell? ⟨w.heap.size,0,none⟩=some u→w1.cell? ⟨w.heap.size,1,none⟩=some v→Calls Tryz.prog 46 #[.slice (some ⟨w.heap.size,0,none⟩) 2 2] w1 fun e w'=>∃v',e=.returned v'∧HpB w1 w' v' (a++b)):=fun w1 t c1 c2=>Qlq _ u v a b w1 c1 c2 (HA.out.keep t) (HVB.out.keep t) (by have:=HL.out;omega) (by have:=HL.out;omega)
 clear A B hl hr hm
 obtain⟨ua,uc,rfl,-⟩:=HA.out.form
 obtain⟨vaa,vc,rfl,-⟩:=HVB.out.form
 have HLN:Hid ((a++b).length≤100000000000):=by show _≤_;rw [List.length_append];exact HL.out
 generalize hN:a.length=N at *
 generalize hM:b.length=M at *
 clear hN hM
 go_enter Tryz.func21,Tryz.ntmps21
 go_wp2_with (first
  | (go_at_call 46;refine (HCC.out _ (by first|exact (Touch.refl _ _).alloc _|exact ((Touch.refl _ _).alloc _).drew) (by simp [go_sem]) (by simp [go_sem])).mono ?_;rintro e w1 ⟨p,rfl,h1⟩)
  | (go_at_call 47;refine (Qre _ w1 p (a++b) h1 HLN.out).mono ?_;rintro e w2 ⟨rfl,S,hp,hs,hh,t⟩;have HT:Hid (Touch (fun _=>False) w w2):=((Touch.refl _ _).alloc _).trans t;clear t h1)
  | (go_at_call 49;go_loud (refine (Qmg w2 p S c hh (by rw [hp.length_eq];exact HLN.out) (HC.out S hp hs)).mono ?_);rintro e w3 ⟨r,rfl,h3,t3⟩))
 go_ret
 exact⟨r,rfl,VBuf.back h3 HT.out,HT.out.trans t3⟩
theorem Qf8 (w:World) (v:Value) (hs:List HL) (V:ValsAt w 1 v hs.length (hs.map Prod.fst)) (hh:∀h∈hs,HV3 w h.1 h.2) (hn:hs.length≤1000000) (hl:(flatH hs).length≤100000000000) :
  Calls Tryz.prog 41 #[v] w fun e w'=>∃r,e=.returned r∧HpB w w' r (jnL hs)∧Touch (fun _=>False) w w':=by
 have HC:=Qn0 w v hs V hh hn hl
 have HJ:Hid (∀w1 v',HpB w w1 v' (flatH hs)→Calls Tryz.prog 21 #[v',.slice none 0 0] w1 fun e w'=>∃r,e=.returned r∧HpB w1 w' r (jnL hs)∧Touch (fun _=>False) w1 w'):=fun w1 v' hb =>
  Qmp w1 v' (.slice none 0 0) (flatH hs) [] (jnL hs) hb.vals ⟨rfl,Or.inl ⟨rfl,rfl⟩⟩ (by simpa using hl) (Qen _).1 (fun x=>by unfold jnL;rw [(Qen _).2];simp)
 obtain⟨va,vc,rfl,-⟩:=V.form
 clear V hh hn hl
 generalize hs.length=N at *
 go_enter Tryz.func41,Tryz.ntmps41
 go_wp2_with (first
  | (go_at_call 46;refine HC.mono ?_;rintro e w1 ⟨p,rfl,hb⟩;have HB1:Hid (HpB w w1 p (flatH hs)):=hb;clear hb)
  | (go_at_call 21;refine (HJ.out w1 p HB1.out).mono ?_;rintro e w2 ⟨r,rfl,h2,t2⟩))
 go_ret
 exact⟨r,rfl,VBuf.back h2 HB1.out.t,HB1.out.t.trans t2⟩
end Go.Proofs.YtddbffoiadmffaaGreat
