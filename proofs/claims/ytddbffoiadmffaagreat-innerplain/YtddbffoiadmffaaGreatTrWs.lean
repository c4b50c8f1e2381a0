import Derived.Sort.Grow
import Derived.Shelf.SlSortCmp.WholeK
import Derived.Shelf.SlGeneric
import Derived.Ground.SlsfProg
import Derived.Shelf.SlSortCmp.NoneTotal
import Derived.Test.YtddbffoiadmffaaGreatRows
import Derived.Test.YtddbffoiadmffaaGreatInCat
import Derived.Deep.MidRow
import Derived.Deep.RegionHeld3
import Derived.Deep.DeepCutAuto
namespace Go.Proofs.YtddbffoiadmffaaGreat
set_option maxHeartbeats 8000000
open Go.RowKit Go.Sort
set_option linter.unusedVariables false
set_option maxRecDepth 100000
structure Grs (x w:World):Prop where
 out:∃q os,w=grow (x.drewN q) os
theorem Qko (w:World) (q:Nat) (os:Array Obj):Touch (fun _=>False) w (grow (w.drewN q) os) :=
 ⟨rfl,rfl,rfl,by simp [grow,World.drewN],fun k hk _=>by simp only [grow,World.drewN];rw [Array.getElem?_append_left hk]⟩
theorem Grs.t {x w:World} (h:Grs x w):Touch (fun _=>False) x w:=by
 obtain⟨q,os,rfl⟩:=h.out
 exact Qko x q os
theorem Grs.trans {x w w':World} (h:Grs x w) (k:Grs w w'):Grs x w':=by
 obtain⟨q,os,rfl⟩:=h.out
 obtain⟨q',os',rfl⟩:=k.out
 exact⟨q+q',os++os',by show grow (grow ((x.drewN q).drewN q') os) os'=_;rw [grow_grow,World.drewN_drewN]⟩
theorem Grs.refl (w:World):Grs w w:=⟨0,#[],by rw [grow_empty];rfl⟩
theorem Grs.alloc {x w:World} (h:Grs x w) (o:Obj):Grs x (w.alloc o):=h.trans ⟨0,#[o],by rw [alloc_eq_grow];rfl⟩
theorem Grs.drew {x w:World} (h:Grs x w):Grs x w.drew:=h.trans ⟨1,#[],by rw [grow_empty];rfl⟩
theorem Qc3 (w:World) (os:Array Obj):Touch (fun _=>False) w (grow w os) :=
 ⟨rfl,rfl,rfl,by simp [grow],fun k hk _=>by simp [grow,Array.getElem?_append_left hk]⟩
open Go.Shelf
def sortHd_ren:Go.Shelf.Ren:=⟨fun|6=>47|15=>87|14=>86|28=>129|29=>130|20=>121|21=>122|22=>123|23=>124|24=>125|25=>126|26=>127|27=>128|46=>161|47=>162|48=>163|49=>164|50=>165|57=>194|n=>n,fun|22=>43|24=>48|25=>109|3=>3|39=>188|0=>0|53=>23|55=>46|4=>4|46=>228|45=>227|50=>97|5=>5|9=>9|66=>270|70=>274|76=>309|77=>277|n=>n,fun|n=>n⟩
theorem sortHd:Go.Proofs.SlLaysF0.n6 Tryz.prog sortHd_ren:={
 mixed:=by kernel_rfl
 f6:=⟨Tryz.f47.name,by decide,Tryz.func47.trans (congrArg some (by kernel_rfl))⟩
 f14:=⟨Tryz.f86.name,by decide,Tryz.func86.trans (congrArg some (by kernel_rfl))⟩
 f15:=Tryz.func87.trans (congrArg some (by kernel_rfl))
 f20:=⟨Tryz.f121.name,by decide,Tryz.func121.trans (congrArg some (by kernel_rfl))⟩
 f21:=⟨Tryz.f122.name,by decide,Tryz.func122.trans (congrArg some (by kernel_rfl))⟩
 f22:=⟨Tryz.f123.name,by decide,Tryz.func123.trans (congrArg some (by kernel_rfl))⟩
 f23:=⟨Tryz.f124.name,by decide,Tryz.func124.trans (congrArg some (by kernel_rfl))⟩
 f24:=⟨Tryz.f125.name,by decide,Tryz.func125.trans (congrArg some (by kernel_rfl))⟩
 f25:=⟨Tryz.f126.name,by decide,Tryz.func126.trans (congrArg some (by kernel_rfl))⟩
 f26:=⟨Tryz.f127.name,by decide,Tryz.func127.trans (congrArg some (by kernel_rfl))⟩
 f27:=⟨Tryz.f128.name,by decide,Tryz.func128.trans (congrArg some (by kernel_rfl))⟩
 f28:=Tryz.func129.trans (congrArg some (by kernel_rfl))
 f29:=Tryz.func130.trans (congrArg some (by kernel_rfl))
 f46:=⟨Tryz.f161.name,by decide,Tryz.func161.trans (congrArg some (by kernel_rfl))⟩
 f47:=Tryz.func162.trans (congrArg some (by kernel_rfl))
 f48:=Tryz.func163.trans (congrArg some (by kernel_rfl))
 f49:=⟨Tryz.f164.name,by decide,Tryz.func164.trans (congrArg some (by kernel_rfl))⟩
 f50:=⟨Tryz.f165.name,by decide,Tryz.func165.trans (congrArg some (by kernel_rfl))⟩
 f57:=⟨Tryz.f194.name,by decide,Tryz.func194.trans (congrArg some (by kernel_rfl))⟩
 t0:=Tryz.underlying0
 a0:=Tryz.isAgg0
 z0:=Tryz.sizeOf0
 v0:=Tryz.zeroValue0
 t3:=Tryz.underlying3
 a3:=Tryz.isAgg3
 z3:=Tryz.sizeOf3
 v3:=Tryz.zeroValue3
 t4:=Tryz.underlying4
 a4:=Tryz.isAgg4
 z4:=Tryz.sizeOf4
 v4:=Tryz.zeroValue4
 t5:=Tryz.underlying5
 a5:=Tryz.isAgg5
 z5:=Tryz.sizeOf5
 v5:=Tryz.zeroValue5
 t9:=Tryz.underlying9
 a9:=Tryz.isAgg9
 z9:=Tryz.sizeOf9
 v9:=Tryz.zeroValue9
 t22:=Tryz.underlying43
 a22:=Tryz.isAgg43
 z22:=Tryz.sizeOf43
 v22:=Tryz.zeroValue43
 t25:=Tryz.underlying109
 a25:=Tryz.isAgg109
 z25:=Tryz.sizeOf109
 v25:=Tryz.zeroValue109
 t39:=Tryz.underlying188
 a39:=Tryz.isAgg188
 z39:=Tryz.sizeOf188
 v39:=Tryz.zeroValue188
 t45:=Tryz.underlying227
 a45:=Tryz.isAgg227
 z45:=Tryz.sizeOf227
 v45:=Tryz.zeroValue227
 t46:=Tryz.underlying228
 a46:=Tryz.isAgg228
 z46:=Tryz.sizeOf228
 v46:=Tryz.zeroValue228
 t50:=Tryz.underlying97
 a50:=Tryz.isAgg97
 z50:=Tryz.sizeOf97
 v50:=Tryz.zeroValue97
 t53:=Tryz.underlying23
 a53:=Tryz.isAgg23
 z53:=Tryz.sizeOf23
 v53:=Tryz.zeroValue23
 t55:=Tryz.underlying46
 a55:=Tryz.isAgg46
 z55:=Tryz.sizeOf46
 v55:=Tryz.zeroValue46
 t66:=Tryz.underlying270
 a66:=Tryz.isAgg270
 z66:=Tryz.sizeOf270
 v66:=Tryz.zeroValue270
 t70:=Tryz.underlying274
 a70:=Tryz.isAgg274
 z70:=Tryz.sizeOf274
 v70:=Tryz.zeroValue274
 t76:=Tryz.underlying309
 a76:=Tryz.isAgg309
 z76:=Tryz.sizeOf309
 v76:=Tryz.zeroValue309
 t77:=Tryz.underlying277
 a77:=Tryz.isAgg277
 z77:=Tryz.sizeOf277
 v77:=Tryz.zeroValue277 }
open Go.RowKit Go.Shelf Go.Lib Go.Sort
theorem Qpl (x y:HK) (w:World):Calls Tryz.prog 48 #[.agg #[.int .u32 x.out,.int .u32 x.via,.bool x.vr],.agg #[.int .u32 y.out,.int .u32 y.via,.bool y.vr]] w fun e w'=>e=.returned (.int .i64 (cH x y))∧∃q os',w'=grow (w.drewN q) os':=by
 have HE:Hid (cH x y=fstI (cmpI x.out y.out) (fstI (cmpI x.via y.via) (bz x.vr-bz y.vr))):=rfl
 generalize cH x y=z at HE ⊢
 obtain⟨x0,x1,x2⟩:=x
 obtain⟨y0,y1,y2⟩:=y
 have b1:=Qcg x2
 have b2:=Qcg y2
 simp only at HE b1 b2
 have H1:Hid _:=Qdj x2
 have H2:Hid _:=Qdj y2
 generalize hbx:bz x2=p at *
 generalize hby:bz y2=q at *
 have HX:Hid _:=hbx
 have HY:Hid _:=hby
 clear hbx hby
 obtain⟨b10,b11⟩:=b1
 obtain⟨b20,b21⟩:=b2
 have hw:IntKind.i64.wrap (p-q)=p-q:=by
  rcases (by omega:p=0∨p=1) with rfl|rfl <;> rcases (by omega:q=0∨q=1) with rfl|rfl <;> rfl
 go_enter Tryz.func48,Tryz.ntmps48
 go_wp2_with fail
 go_region_held3 (fun w'=>w'.cell? ⟨w.heap.size,0,none⟩=some (.int .u32 x0)∧w'.cell? ⟨w.heap.size,1,none⟩=some (.int .u32 x1)∧w'.cell? ⟨w.heap.size,2,none⟩=some (.bool x2)∧w'.cell? ⟨w.heap.size+1,0,none⟩=some (.int .u32 y0)∧w'.cell? ⟨w.heap.size+1,1,none⟩=some (.int .u32 y1)∧w'.cell? ⟨w.heap.size+1,2,none⟩=some (.bool y2)) (go_keep) (first
  | (go_at_call 89;refine (Qd2 _ _ _).mono ?_;rintro e w1 ⟨rfl,rfl⟩)
  | (go_at_call 90;refine (H1.out _).mono ?_;rintro e w1 ⟨rfl,rfl⟩)
  | (go_at_call 90;refine (H2.out _).mono ?_;rintro e w1 ⟨rfl,rfl⟩)
  | (go_at_call 88;refine (Qjq _ _ _ _ _ z HE.out _ (by simp [go_sem]) (by simp [go_sem]) (by simp [go_sem])).mono ?_;rintro e w5 ⟨rfl,rfl⟩))
 go_wp2_with fail
 go_ret
 exact⟨rfl,(((((Grs.refl w).alloc _).alloc _).alloc _).drew).out⟩
def ofH (L:List HK) (i:Nat):HK:=(L[i]?).getD HK0
def encH (L:List HK) (i:Nat):List Value:=(ofH L i).cs
def cfH (L:List HK) (i j:Nat):Int:=cH (ofH L i) (ofH L j)
theorem Qr5 (L:List HK) (i j:Nat):ltOf (cfH L) i j=true↔(ofH L i).lt (ofH L j):=by
 unfold ltOf
 rw [decide_eq_true_iff]
 exact Qho _ _
theorem Qis (L:List HK) (i j:Nat):ltOf (cfH L) i j=false↔¬(ofH L i).lt (ofH L j):=by
 rw [←Qr5]
 simp
theorem Qtu (L:List HK):SWO (ltOf (cfH L)) where
 irrefl x:=(Qis L x x).2 (HK.lt_irrefl _)
 trans x y z h1 h2:=by rw [Qr5] at *;exact HK.lt_trans h1 h2
 ntrans x y z h1 h2:=by rw [Qis] at *;unfold HK.lt at *;omega
theorem Qle {w:World} {g cap base:Nat} {L:List HK} (h:w.ownsRow base 48 3 (.slice (some ⟨g,0,none⟩) L.length cap) L.length (cellsG HK.cs L)):HoldsK (encH L) 3 w g 0 (List.range L.length).toArray:=by
 intro j hj
 rw [size_flatK] at hj
 have hj':j<L.length*3:=by simpa using hj
 have hi:j/3<L.length:=by omega
 have hm:j%3<3:=by omega
 rcases h.2 with⟨h1,-⟩|⟨g',cap',cur,hv,-,hb,-,-,hs,ht⟩
 ·cases h1
 ·injection hv with hv1 hv2 hv3
  injection hv1 with hv1
  injection hv1 with hv1
  subst hv1
  subst hv3
  rw [get_flatK _ _ _ _ hj,Nat.zero_add]
  have e1:((List.range L.length).toArray)[j/3]! = j/3:=by
   rw [getElem!_pos _ _ (by simpa using hi)]
   simp
  have e2:ofH L (j/3)=L[j/3]:=by unfold ofH;simp [hi]
  refine⟨?_,frozen_of_row w g j cur 48 hb⟩
  rw [cell_of_row w g j cur 48 _ hb,e1]
  have e3:cur[j]?=(cellsG HK.cs L)[j]?:=by
   rw [←ht,List.getElem?_take,if_pos hj']
   simp
  have e4:(cellsG HK.cs L)[j]?=(L[j/3]).cs[j%3]?:=by
   have:=Qaz HK.len L (j/3) (j%3) hm
   rwa [show j/3*3+j%3=j from by omega,List.getElem?_eq_getElem hi] at this
  have hcl:j%3<(L[j/3]).cs.length:=by simp [HK.cs];omega
  rw [e3,e4]
  show _=some ((encH L (j/3))[j%3]!)
  unfold encH
  rw [e2,List.getElem?_eq_getElem hcl,getElem!_pos (L[j/3]).cs (j%3) hcl]
theorem Qij {w:World} {g cap:Nat} {L:List HK} {d:Array Nat} (h:HoldsK (encH L) 3 w g 0 d) (h1:d.size≤cap) (h2:cap≤maxLen):ValsAt w 3 (.slice (some ⟨g,0,none⟩) d.size cap) d.size (cellsG HK.cs (d.toList.map (ofH L))):=by
 refine⟨by rw [Qai HK.len];simp,Or.inr ⟨_,_,rfl,h1,h2,fun j u hj=>?_⟩⟩
 have hjl:=(List.getElem?_eq_some_iff.1 hj).1
 rw [Qai HK.len,List.length_map,Array.length_toList] at hjl
 have hi:j/3<d.size:=by omega
 have hm:j%3<3:=by omega
 rw [Qaf]
 have hh:=(h j (by rw [size_flatK];exact hjl)).1
 rw [get_flatK _ _ _ _ hjl] at hh
 rw [hh]
 have e4:=Qaz HK.len (d.toList.map (ofH L)) (j/3) (j%3) hm
 rw [show (d.toList.map (ofH L))[j/3]?=some (ofH L d[j/3]) from by simp [hi]] at e4
 rw [show j/3*3+j%3=j from by omega,hj] at e4
 change some u=(ofH L d[j/3]).cs[j%3]? at e4
 have hcl:j%3<(ofH L d[j/3]).cs.length:=by simp [HK.cs];omega
 rw [getElem!_pos d _ hi]
 show some ((encH L d[j/3])[j%3]!)=_
 unfold encH
 rw [e4,List.getElem?_eq_getElem hcl,getElem!_pos (ofH L d[j/3]).cs (j%3) hcl]
theorem Qk1 (L:List HK) (w:World) (m blk off:Nat) (d:Array Nat):Touch (fun k=>k=blk) w (putRowK (encH L) 3 (Sort.ahead w m) blk off d):=by
 unfold putRowK putRow mapBlock
 exact⟨rfl,rfl,rfl,by simp [Sort.ahead],fun k hk hn=>by simp [Sort.ahead,Array.getElem?_modify,Ne.symm hn]⟩
theorem Qlt (w w':World) (g c:Nat) (L:List HK) (X:HpB w w' (.slice (some ⟨g,0,none⟩) L.length c) L) (hc:c≤maxLen) (hlc:L.length≤c) (hn:L.length≤100000000000) :
  Calls Tryz.prog 47 #[.slice (some ⟨g,0,none⟩) L.length c,.func (.func 48) #[] #[]] w' fun e w''=>e=.returned (.tuple #[])∧∃S,S.Perm L∧S.Pairwise HK.le∧HV3 w'' (.slice (some ⟨g,0,none⟩) L.length c) S∧Touch (fun _=>False) w w'':=by
 have eg:∀args w,(callFunc 48 args).run Tryz.prog w=.ok (.enter 48 args) w:=enters_of Tryz.func48 (by kernel_rfl) rfl
 have hH:=Qle X.own
 have hgl:g<w'.heap.size:=(X.own.lt g rfl).2
 have hgw:w.heap.size≤g:=(X.own.lt g rfl).1
 have hone:∀i,∀v∈encH L i,v.oneCell'=true:=by
  intro i v hv
  simp [encH,HK.cs] at hv
  rcases hv with rfl|rfl|rfl <;> rfl
 have hsz:(List.range L.length).toArray.size=L.length:=by simp
 have hcon:=AnyQ.slices_SortFunc sortHd 3 Tryz.isAgg48 Tryz.sizeOf48 (encH L) (fun _=>rfl) hone (cfH L) (Qtu L) 48 #[] g 0 c (List.range L.length).toArray w' eg (fun _ _ _ _ x y=>Qpl (ofH L x) (ofH L y) _) hH hgl (by rw [hsz];omega)
 rw [hsz] at hcon
 refine Calls.mono hcon ?_
 rintro e w'' ⟨rfl,d',n,os,hpp,hs,rfl⟩
 obtain⟨hp1,-,hp3⟩:=hpp
 have e2:d'.size=L.length:=by rw [hp1];simp
 have p:d'.toList.Perm (List.range L.length):=by
  have h5:d'.extract 0 L.length=d':=by rw [←e2];simp
  rw [h5] at hp3
  have h4:d'.toList.Perm (List.take L.length (List.range L.length)):=by simpa using hp3
  rwa [List.take_of_length_le (by simp)] at h4
 have hmap:(List.range L.length).map (ofH L)=L:=by
  apply List.ext_getElem?
  intro i
  rw [List.getElem?_map]
  rcases Nat.lt_or_ge i L.length with h|h
  ·simp [h,ofH]
  ·rw [List.getElem?_eq_none (by simpa using h),List.getElem?_eq_none h];rfl
 have q:(d'.toList.map (ofH L)).Perm L:=by
  have:=p.map (ofH L)
  rwa [hmap] at this
 have T2:Touch (fun k=>k=g) w' (sortWorldK (encH L) 3 w' g 0 n d' os):=(Qk1 L w' n g 0 d').trans ((Qc3 _ os).mono (fun _ _ h=>h.elim))
 refine⟨rfl,d'.toList.map (ofH L),q,?_,?_,?_⟩
 ·rw [List.pairwise_map,List.pairwise_iff_getElem]
  intro i j hi hj hij
  have hj':j<d'.size:=by simpa using hj
  have hi':i<d'.size:=by simpa using hi
  have:=(Qis L _ _).1 (hs i j (Nat.zero_le _) hij (by omega))
  rw [getElem!_pos d' j hj',getElem!_pos d' i hi'] at this
  show ¬HK.lt _ _
  simpa using this
 ·have h1:=holdsK_putRowK (encH L) 3 (Sort.ahead w' n) g 0 (List.range L.length).toArray d' hH (by rw [e2];simp)
  have h2:=holdsK_grow (encH L) 3 _ os g 0 d' (by unfold putRowK putRow mapBlock;simpa [Sort.ahead] using hgl) h1
  have h3:=Qij (cap:=c) h2 (by omega) hc
  rw [e2] at h3
  have hl3:(d'.toList.map (ofH L)).length=L.length:=by simp [e2]
  show ValsAt _ 3 _ (d'.toList.map (ofH L)).length _
  rw [hl3]
  exact h3
 ·exact X.t.trans' T2 (fun i hi e=>by omega)
open Go.RowKit Go.Shelf
theorem Qsy {w:World} {g c:Nat} {n:Nat} {S:List HK} (hn:n=S.length) (h:HV3 w (.slice (some ⟨g,0,none⟩) n c) S):HopsAt w (.slice (some ⟨g,0,none⟩) n c) S:=by
 subst hn
 refine⟨_,c,rfl,Or.inr ⟨g,rfl,fun i x hx d u hd=>?_⟩⟩
 rcases h.2 with⟨h1,-⟩|⟨ad,c',e,-,-,hc⟩
 ·cases h1
 ·injection e with e1 e2 e3
  injection e1 with e1
  subst e1
  have hd3:d<3:=(List.getElem?_eq_some_iff.1 hd).1
  have:=hc (i*3+d) u (by rw [Qaz HK.len _ _ _ hd3,hx];exact hd)
  rwa [Qaf,Nat.zero_add] at this
theorem Qqu (w w1:World) (p:Value) (L:List HK) (X:HpB w w1 p L) (hn:L.length≤100000000000) :
  Calls Tryz.prog 47 #[p,.func (.func 48) #[] #[]] w1 fun e w2=>e=.returned (.tuple #[])∧∃S,S.Perm L∧S.Pairwise HK.le∧HopsAt w2 p S∧Touch (fun _=>False) w w2:=by
 rcases X.own.2 with⟨rfl,h0⟩|⟨g,cap,cur,rfl,hb,hh,h1,h2,h3,h4⟩
 ·have e:L=[]:=List.length_eq_zero_iff.1 h0
  subst e
  refine Calls.mono (AnyF.slices_SortFunc_none sortHd none 0 (.func (.func 48) #[] #[]) w1) ?_
  rintro e w2 ⟨rfl,rfl⟩
  exact⟨rfl,[],List.Perm.refl _,List.Pairwise.nil,⟨none,0,rfl,Or.inl rfl⟩,X.t⟩
 ·refine Calls.mono (Qlt w w1 g cap L X h2 h1 hn) ?_
  rintro e w2 ⟨rfl,S,hp,hs,hv,t⟩
  exact⟨rfl,S,hp,hs,Qsy hp.length_eq.symm hv,t⟩
open Go.RowKit Go.Shelf
def jnL (hs:List HL):List HK:=(flatH hs).foldr pt []
theorem Qcz (l:List HK):(l.foldr pt []).Pairwise HK.lt∧∀x,x∈l.foldr pt []↔x∈l:=by
 induction l with
 | nil=>simp
 | cons h l ih =>
  rw [List.foldr_cons]
  refine⟨Qp0 h _ ih.1,fun x=>?_⟩
  rw [Qr0,ih.2,List.mem_cons,or_comm]
theorem Qln (w:World) (mv:Value) (S c:List HK) (M:HopsAt w mv S) (hl:S.length≤100000000000) (hc:jn [] S=c) :
  Calls Tryz.prog 49 #[.slice none 0 0,mv] w fun e w'=>∃r,e=.returned r∧HpB w w' r c∧Touch (fun _=>False) w w':=by
 refine (Qjr w w.heap.size (.slice none 0 0) mv [] S (World.ownsRow_nil _ _ _ _) M (fun k h=>by cases h) (Nat.le_refl _) (by simp;omega)).mono (fun e w' X=>?_)
 obtain⟨⟨v',h1,h2,-⟩,t⟩:=X
 have t':Touch (fun _=>False) w w':=t.mono (fun _ _ h=>by cases h)
 rw [hc] at h2
 exact⟨v',h1,⟨h2,t'⟩,t'⟩
theorem Qg5 (w:World) (u v:Value) (a b c:List HK) (A:HV3 w u a) (B:HV3 w v b) (hl:a.length+b.length≤100000000000) (hr:c.Pairwise HK.lt) (hm:∀x,x∈c↔x∈a∨x∈b) :
  Calls Tryz.prog 21 #[u,v] w fun e w'=>∃r,e=.returned r∧HpB w w' r c∧Touch (fun _=>False) w w':=by
 have HA:Hid (HV3 w u a):=A
 have HVB:Hid (HV3 w v b):=B
 have HL:Hid (a.length+b.length≤100000000000):=hl
 have HC:Hid (∀S:List HK,S.Perm (a++b)→S.Pairwise HK.le→jn [] S=c):=fun S hp hs=>by
  refine Qjc (Qqz [] S List.Pairwise.nil hs (fun x hx=>by cases hx)) hr (fun x=>?_)
  rw [Qvs,hm,hp.mem_iff]
  simp
 have HCC:Hid (∀w1,Touch (fun _=>False) w w1→w1.cell? ⟨w.heap.size,0,none⟩=some u→w1.cell? ⟨w.heap.size,1,none⟩=some v→Calls Tryz.prog 46 #[.slice (some ⟨w.heap.size,0,none⟩) 2 2] w1 fun e w'=>∃v',e=.returned v'∧HpB w1 w' v' (a++b)):=fun w1 t c1 c2=>Qkj _ u v a b w1 c1 c2 (HA.out.keep t) (HVB.out.keep t) (by have:=HL.out;omega) (by have:=HL.out;omega)
 clear A B hl hr hm
 obtain⟨ua,uc,rfl,-⟩:=HA.out.form
 obtain⟨vaa,vc,rfl,-⟩:=HVB.out.form
 have HLN:Hid ((a++b).length≤100000000000):=by show _≤_;rw [List.length_append];exact HL.out
 generalize hN:a.length=N at *
 generalize hM:b.length=M at *
 clear hN hM
 go_enter Tryz.func21,Tryz.ntmps21
 go_wp2_with (first
  | (go_at_call 46;refine (HCC.out _ (by first|exact (Touch.refl _ _).alloc _|exact ((Touch.refl _ _).alloc _).drew) (by simp [go_sem]) (by simp [go_sem])).mono ?_;rintro e w1 ⟨p,rfl,h1⟩)
  | (go_at_call 47;refine (Qqu _ w1 p (a++b) h1 HLN.out).mono ?_;rintro e w2 ⟨rfl,S,hp,hs,hh,t⟩;have HT:Hid (Touch (fun _=>False) w w2):=((Touch.refl _ _).alloc _).trans t;clear t h1)
  | (go_at_call 49;go_loud (refine (Qln w2 p S c hh (by rw [hp.length_eq];exact HLN.out) (HC.out S hp hs)).mono ?_);rintro e w3 ⟨r,rfl,h3,t3⟩))
 go_ret
 exact⟨r,rfl,VBuf.back h3 HT.out,HT.out.trans t3⟩
theorem Qf0 (w:World) (v:Value) (hs:List HL) (V:ValsAt w 1 v hs.length (hs.map Prod.fst)) (hh:∀h∈hs,HV3 w h.1 h.2) (hn:hs.length≤1000000) (hl:(flatH hs).length≤100000000000) :
  Calls Tryz.prog 41 #[v] w fun e w'=>∃r,e=.returned r∧HpB w w' r (jnL hs)∧Touch (fun _=>False) w w':=by
 have HC:=Qog w v hs V hh hn hl
 have HJ:Hid (∀w1 v',HpB w w1 v' (flatH hs)→Calls Tryz.prog 21 #[v',.slice none 0 0] w1 fun e w'=>∃r,e=.returned r∧HpB w1 w' r (jnL hs)∧Touch (fun _=>False) w1 w'):=fun w1 v' hb =>
  Qg5 w1 v' (.slice none 0 0) (flatH hs) [] (jnL hs) hb.vals ⟨rfl,Or.inl ⟨rfl,rfl⟩⟩ (by simpa using hl) (Qcz _).1 (fun x=>by unfold jnL;rw [(Qcz _).2];simp)
 obtain⟨va,vc,rfl,-⟩:=V.form
 clear V hh hn hl
 generalize hs.length=N at *
 go_enter Tryz.func41,Tryz.ntmps41
 go_wp2_with (first
  | (go_at_call 46;refine HC.mono ?_;rintro e w1 ⟨p,rfl,hb⟩;have HB1:Hid (HpB w w1 p (flatH hs)):=hb;clear hb)
  | (go_at_call 21;refine (HJ.out w1 p HB1.out).mono ?_;rintro e w2 ⟨r,rfl,h2,t2⟩))
 go_ret
 exact⟨r,rfl,VBuf.back h2 HB1.out.t,HB1.out.t.trans t2⟩
open Go.RowKit
structure Since (x w:World):Prop where
 t:Touch (fun _=>False) x w
theorem Since.trans {x w w':World} (h:Since x w) (t:Touch (fun _=>False) w w'):Since x w':=⟨h.t.trans t⟩
theorem Since.start (x:World):Since x x.drew:=⟨(Touch.refl _ _).drew⟩
theorem Qfw {x:World} {p:Addr} {v:Value} (h:x.cell? p=some v):∀w,Since x w→w.cell? p=some v:=fun w s=>s.t.cellN h
theorem Qad {F:Nat→Prop} {w w':World} {g:Nat} {T:TypeId} {xs:List Value} (h:Row w g T xs) (t:Touch F w w') (hg:¬F g):Row w' g T xs:=(t.block g h.lt hg).trans h
theorem Qba {w:World} {g:Nat} {T:TypeId} {xs:List Value} (h:Row w g T xs):w.rangeAt g 0 xs:=fun j v hj=>by
 rw [Nat.zero_add,h.cell j]
 exact hj
theorem Qs5 {w:World} {g:Nat} {T:TypeId} {pre xs ys:List Value} (h:Row w g T (pre++(xs++ys))):w.rangeAt g pre.length xs:=fun j v hj=>by
 rw [h.cell (pre.length+j),List.getElem?_append_right (by omega),Nat.add_sub_cancel_left]
 rw [List.getElem?_append_left (List.getElem?_eq_some_iff.1 hj).1]
 exact hj
theorem Qdc {w:World} {g:Nat} {T:TypeId} {xs ys:List Value} (h:Row w g T (xs++ys)):w.rangeAt g 0 xs:=Qs5 (pre:=[]) h
theorem Qdw {P:Program} {ops:Array Oper} {o:Oper} {a:Act} {w:World} {K:Act→World→Prop} {Q:Exit→Act→World→Prop} {E:Prop} (hgd:o.guard=none) (ty:TypeId) (x y:Operand) (ho:o.op=.store ty x y)
  (g:Nat) (cells:List Value) (hx:a.eval x=.pointer (some ⟨g,0,none⟩)) (hy:a.eval y=.agg cells.toArray) (T:TypeId) (old:List Value) (hg:Row w g T old) (hi:(P.info? ty).map (·.size)=some cells.length) (hold:old.length=cells.length) (h1:∀v∈cells,v.oneCell'=true)
  (h:K (a.put o.dst undef) (w.setRow g cells.toArray)):if Region.wanted o (yielded ops a.tmps)=true then Oper.wp P o a w K Q else E:=by
 have hw:Region.wanted o (yielded ops a.tmps)=true:=by simp [Region.wanted,hgd]
 rw [if_pos hw]
 exact wp_store_row ty x y ho g cells.toArray hx hy T old.toArray hg (by rw [hi];simp) (by simpa using hold) (Qhz h1) h
theorem Qb6 {w:World} {g:Nat} {T:TypeId} {old:List Value} (h:Row w g T old) (cs:List Value):Row (w.setRow g cs.toArray) g T cs:=h.setRow cs.toArray
def tab {α:Type} (n:Nat) (f:Nat→α):List α:=(List.range n).map f
theorem Qas {α:Type} (n:Nat) (f:Nat→α):(tab n f).length=n:=by simp [tab]
theorem Qbg {α:Type} {n i:Nat} (f:Nat→α) (h:i<n):(tab n f)[i]?=some (f i):=by simp [tab,h]
theorem Qfb {α:Type} (n:Nat) (f:Nat→α) (i:Nat) (x:α):(tab n f).set i x=tab n (upf f i x):=by
 apply List.ext_getElem?
 intro j
 rw [List.getElem?_set]
 simp only [Qas]
 by_cases h:i=j
 ·subst h
  rw [if_pos rfl]
  by_cases hi:i<n
  ·rw [if_pos hi,Qbg _ hi,Qag]
  ·rw [if_neg hi,List.getElem?_eq_none (by rw [Qas];omega)]
 ·rw [if_neg h]
  by_cases hj:j<n
  ·rw [Qbg _ hj,Qbg _ hj,Qae _ _ (Ne.symm h)]
  ·rw [List.getElem?_eq_none (by rw [Qas];omega),List.getElem?_eq_none (by rw [Qas];omega)]
theorem Qnw {α:Type} {n:Nat} {f f':Nat→α} (h:∀i,i<n→f i=f' i):tab n f=tab n f':=by
 apply List.ext_getElem?
 intro j
 by_cases hj:j<n
 ·rw [Qbg _ hj,Qbg _ hj,h j hj]
 ·rw [List.getElem?_eq_none (by rw [Qas];omega),List.getElem?_eq_none (by rw [Qas];omega)]
def TE.cs (e:TE):List Value:=[.int .i64 e.dst,.int .u32 e.cost,.int .u32 e.data,.bool e.vr]
structure GrAt (w:World) (nv:Value) (ns:List NM):Prop where
 sh:∃a c,nv=.slice a ns.length c∧(ns=[]∨∃g,a=some ⟨g,0,none⟩∧∀i x,ns[i]?=some x→∀d u,x.cs[d]?=some u→w.cell? ⟨g,i*7+d,none⟩=some u)
 ed:∀x∈ns,x.t.edges=[]∨∃g,x.ea=some ⟨g,0,none⟩∧∀j e,x.t.edges[j]?=some e→∀d u,e.cs[d]?=some u→w.cell? ⟨g,j*4+d,none⟩=some u
def rcs (x:RV×Value):List Value:=[.bool x.1.is,.int .u32 x.1.cost,x.2]
theorem Qbp (x:RV×Value):(rcs x).length=3:=rfl
abbrev RR (B:Nat) (w:World) (v:Value) (l:List (RV×Value)):Prop:=RG rcs 3 68 B w v l
structure WB where
 nv:Value
 N:Nat
 root:Nat
 wb:Nat
 rb:Nat
 zb:Nat
structure WS (w0:World) (p:WB) (w:World) (v:Value) (L:List Sp) (R:Nat→RV) (H:Nat→Value) (Z:Nat→Sp):Prop where
 t:Touch (fun _=>False) w0 w
 ls:LS w p.wb v w0.heap.size L
 hp:HP L.length (gt L)
 c1:w.cell? ⟨p.wb,1,none⟩=some p.nv
 c2:w.cell? ⟨p.wb,2,none⟩=some (.int .i64 p.root)
 c3:w.cell? ⟨p.wb,3,none⟩=some (.slice (some ⟨p.rb,0,none⟩) p.N p.N)
 c4:w.cell? ⟨p.wb,4,none⟩=some (.slice (some ⟨p.zb,0,none⟩) p.N p.N)
 wB:w0.heap.size≤p.wb
 rr:RR w0.heap.size w (.slice (some ⟨p.rb,0,none⟩) p.N p.N) (tab p.N (fun i=>(R i,H i)))
 zz:RS w0.heap.size w (.slice (some ⟨p.zb,0,none⟩) p.N p.N) (tab p.N Z)
 hh:∀i,i<p.N→RH w0.heap.size w (H i) (R i).hops
 d1:p.wb≠p.rb
 d2:p.wb≠p.zb
 d3:p.rb≠p.zb
 e1:v.ownBlock≠some p.rb
 e2:v.ownBlock≠some p.zb
 h1:∀i g,i<p.N→(H i).ownBlock=some g→g≠p.wb∧g≠p.rb∧g≠p.zb∧v.ownBlock≠some g
 h2:∀i j g,i<p.N→j<p.N→i≠j→(H i).ownBlock=some g→(H j).ownBlock≠some g
def WBl (p:WB) (v:Value):Nat→Prop:=fun k=>k=p.wb∨k=p.rb∨k=p.zb∨v.ownBlock=some k
section
variable {w0:World} {p:WB} {w w':World} {v v':Value} {L L':List Sp} {R:Nat→RV} {H:Nat→Value} {Z:Nat→Sp}
theorem WS.rlt (X:WS w0 p w v L R H Z):p.rb<w.heap.size:=RG.lt X.rr rfl
theorem WS.zlt (X:WS w0 p w v L R H Z):p.zb<w.heap.size:=RG.lt X.zz rfl
theorem WS.rge (X:WS w0 p w v L R H Z):w0.heap.size≤p.rb:=RG.ge X.rr rfl
theorem WS.zge (X:WS w0 p w v L R H Z):w0.heap.size≤p.zb:=RG.ge X.zz rfl
theorem WS.vge (X:WS w0 p w v L R H Z) {g:Nat} (h:v.ownBlock=some g):w0.heap.size≤g:=RG.ge X.ls.re h
theorem WS.vlt (X:WS w0 p w v L R H Z) {g:Nat} (h:v.ownBlock=some g):g<w.heap.size:=RG.lt X.ls.re h
theorem WS.keep (X:WS w0 p w v L R H Z) (t:Touch (fun _=>False) w w'):WS w0 p w' v L R H Z :=
 ⟨X.t.trans t,X.ls.keep t,X.hp,t.cellN X.c1,t.cellN X.c2,t.cellN X.c3,t.cellN X.c4,X.wB,X.rr.keepN t,X.zz.keepN t,fun i hi=>(X.hh i hi).keepN t,X.d1,X.d2,X.d3,X.e1,X.e2,X.h1,X.h2⟩
theorem WS.old {F:Nat→Prop} (X:WS w0 p w v L R H Z) (t:Touch F w w') (h:∀k,F k→w0.heap.size≤k):Touch (fun _=>False) w0 w':=X.t.trans' t (fun k hk f=>by have:=h k f;omega)
theorem WS.line (X:WS w0 p w v L R H Z) (ls:LS w' p.wb v' w0.heap.size L') (hp:HP L'.length (gt L')) (hv:v'.ownBlock=v.ownBlock∨∃g,v'.ownBlock=some g∧w.heap.size≤g) (t:TouchB p.wb (fun k=>v.ownBlock=some k) w w'):WS w0 p w' v' L' R H Z:=by
 have hge:∀k,(k=p.wb∨v.ownBlock=some k)→w0.heap.size≤k:=fun k h=>h.elim (fun e=>by rw [e];exact X.wB) (fun e=>X.vge e)
 refine⟨X.old t.t hge,ls,hp,(t.rest 1 (by omega)).trans X.c1,(t.rest 2 (by omega)).trans X.c2,(t.rest 3 (by omega)).trans X.c3,(t.rest 4 (by omega)).trans X.c4,X.wB,RG.keep X.rr t.t ?_,RG.keep X.zz t.t ?_,fun i hi=>RG.keep (X.hh i hi) t.t ?_,X.d1,X.d2,X.d3,?_,?_,fun i g hi hg=>?_,X.h2⟩
 ·intro j hj e
  injection hj with hj
  subst hj
  exact e.elim (fun e=>X.d1 e.symm) X.e1
 ·intro j hj e
  injection hj with hj
  subst hj
  exact e.elim (fun e=>X.d2 e.symm) X.e2
 ·intro j hj e
  obtain⟨a1,a2,a3,a4⟩:=X.h1 i j hi hj
  exact e.elim a1 a4
 ·rcases hv with e|⟨g,e,hg⟩
  ·rw [e];exact X.e1
  ·rw [e];intro h;injection h with h;have:=X.rlt;omega
 ·rcases hv with e|⟨g,e,hg⟩
  ·rw [e];exact X.e2
  ·rw [e];intro h;injection h with h;have:=X.zlt;omega
 ·obtain⟨a1,a2,a3,a4⟩:=X.h1 i g hi hg
  refine⟨a1,a2,a3,?_⟩
  rcases hv with e|⟨g',e,hg'⟩
  ·rw [e];exact a4
  ·rw [e];intro h;injection h with h;have:=RG.lt (X.hh i hi) hg;omega
theorem WS.reach (X:WS w0 p w v L R H Z) {i:Nat} (hi:i<p.N) (b:Bool) (c:Int):WS w0 p ((w.setCell ⟨p.rb,i*3,none⟩ (.bool b)).setCell ⟨p.rb,i*3+1,none⟩ (.int .u32 c)) v L (upf R i ⟨b,c,(R i).hops⟩) H Z:=by
 have t:Touch (fun k=>k=p.rb) w ((w.setCell ⟨p.rb,i*3,none⟩ (.bool b)).setCell ⟨p.rb,i*3+1,none⟩ (.int .u32 c)):=tset1 (tset1 (Touch.refl _ _) _ _) _ _
 have r1:=RG.set1 Qbp X.rr (i:=i) (d:=0) (x:=(R i,H i)) (y:=(⟨b,(R i).cost,(R i).hops⟩,H i)) (by omega) (Qbg _ hi) (u:=.bool b) rfl
 rw [Qfb] at r1
 have r2:=RG.set1 Qbp r1 (i:=i) (d:=1) (x:=(⟨b,(R i).cost,(R i).hops⟩,H i)) (y:=(⟨b,c,(R i).hops⟩,H i)) (by omega) (by rw [Qbg _ hi,Qag]) (u:=.int .u32 c) rfl
 rw [Qfb] at r2
 have e:upf (upf (fun i=>(R i,H i)) i (⟨b,(R i).cost,(R i).hops⟩,H i)) i (⟨b,c,(R i).hops⟩,H i)=fun j=>(upf R i ⟨b,c,(R i).hops⟩ j,H j):=by
  funext j
  by_cases h:j=i
  ·subst h;simp only [Qag]
  ·simp only [Qae _ _ h]
 rw [e] at r2
 have hw:p.wb<w.heap.size:=X.ls.lt
 have cw:∀o,((w.setCell ⟨p.rb,i*3,none⟩ (.bool b)).setCell ⟨p.rb,i*3+1,none⟩ (.int .u32 c)).cell? ⟨p.wb,o,none⟩=w.cell? ⟨p.wb,o,none⟩:=fun o=>t.cell (p:=⟨p.wb,o,none⟩) hw X.d1
 refine⟨X.old t (fun k e=>by rw [e];exact X.rge),⟨(cw 0).trans X.ls.c0,(t.frozen (p:=⟨p.wb,0,none⟩) hw X.d1).trans X.ls.f0,RG.keep X.ls.re t (fun j hj e=>X.e1 (by rw [hj,e])),X.ls.bv,X.ls.hl⟩,X.hp,(cw 1).trans X.c1,(cw 2).trans X.c2,(cw 3).trans X.c3,(cw 4).trans X.c4,X.wB,r2,RG.keep X.zz t (fun j hj e=>by cases hj;exact X.d3 e.symm),fun j hj=>?_,X.d1,X.d2,X.d3,X.e1,X.e2,X.h1,X.h2⟩
 have hq:(upf R i ⟨b,c,(R i).hops⟩ j).hops=(R j).hops:=by
  by_cases h:j=i
  ·subst h;simp only [Qag]
  ·simp only [Qae _ _ h]
 rw [hq]
 exact RG.keep (X.hh j hj) t (fun g hg e=>(X.h1 j g hj hg).2.1 e)
theorem WS.last (X:WS w0 p w v L R H Z) {i:Nat} (hi:i<p.N) (s:Sp):WS w0 p (((((w.setCell ⟨p.zb,i*5,none⟩ (.int .i64 s.node)).setCell ⟨p.zb,i*5+1,none⟩ (.int .u32 s.cost)).setCell ⟨p.zb,i*5+2,none⟩ (.int .u32 s.h.out)).setCell ⟨p.zb,i*5+3,none⟩ (.int .u32 s.h.via)).setCell ⟨p.zb,i*5+4,none⟩ (.bool s.h.vr)) v L R H (upf Z i s):=by
 have t:=tset5 (Touch.refl (fun k=>k=p.zb) w) i s
 have r1:=RS.set X.zz (i:=i) (by rw [Qas];exact hi) s
 rw [Qfb] at r1
 generalize (((((w.setCell ⟨p.zb,i*5,none⟩ (.int .i64 s.node)).setCell ⟨p.zb,i*5+1,none⟩ (.int .u32 s.cost)).setCell ⟨p.zb,i*5+2,none⟩ (.int .u32 s.h.out)).setCell ⟨p.zb,i*5+3,none⟩ (.int .u32 s.h.via)).setCell ⟨p.zb,i*5+4,none⟩ (.bool s.h.vr))=w2 at t r1 ⊢
 have hw:p.wb<w.heap.size:=X.ls.lt
 have cw:∀o,w2.cell? ⟨p.wb,o,none⟩=w.cell? ⟨p.wb,o,none⟩:=fun o=>t.cell (p:=⟨p.wb,o,none⟩) hw X.d2
 exact⟨X.old t (fun k e=>by rw [e];exact X.zge),⟨(cw 0).trans X.ls.c0,(t.frozen (p:=⟨p.wb,0,none⟩) hw X.d2).trans X.ls.f0,RG.keep X.ls.re t (fun j hj e=>X.e2 (by rw [hj,e])),X.ls.bv,X.ls.hl⟩,X.hp,(cw 1).trans X.c1,(cw 2).trans X.c2,(cw 3).trans X.c3,(cw 4).trans X.c4,X.wB,RG.keep X.rr t (fun j hj e=>by cases hj;exact X.d3 e),r1,fun j hj=>RG.keep (X.hh j hj) t (fun g hg e=>(X.h1 j g hj hg).2.2.1 e),X.d1,X.d2,X.d3,X.e1,X.e2,X.h1,X.h2⟩
theorem WS.hops (X:WS w0 p w v L R H Z) {i:Nat} (hi:i<p.N) {w1:World} {hv:Value} {hs:List HK} (re:RH w0.heap.size w1 hv hs) (ow:hv.ownBlock=(H i).ownBlock∨∃g,hv.ownBlock=some g∧w.heap.size≤g) (t1:Touch (fun k=>(H i).ownBlock=some k) w w1) :
  WS w0 p (w1.setCell ⟨p.rb,i*3+2,none⟩ hv) v L (upf R i ⟨(R i).is,(R i).cost,hs⟩) (upf H i hv) Z:=by
 have hio:=X.h1 i
 have fw:¬((H i).ownBlock=some p.wb):=fun e=>(hio _ hi e).1 rfl
 have fr:¬((H i).ownBlock=some p.rb):=fun e=>(hio _ hi e).2.1 rfl
 have fz:¬((H i).ownBlock=some p.zb):=fun e=>(hio _ hi e).2.2.1 rfl
 have fv:∀g,v.ownBlock=some g→¬((H i).ownBlock=some g):=fun g hg e=>(hio _ hi e).2.2.2 hg
 have hw:p.wb<w.heap.size:=X.ls.lt
 have hw1:p.wb<w1.heap.size:=Nat.lt_of_lt_of_le hw t1.size
 have rr1:RR w0.heap.size w1 (.slice (some ⟨p.rb,0,none⟩) p.N p.N) (tab p.N (fun i=>(R i,H i))):=RG.keep X.rr t1 (fun j hj e=>by injection hj with hj;subst hj;exact fr e)
 have zz1:RS w0.heap.size w1 (.slice (some ⟨p.zb,0,none⟩) p.N p.N) (tab p.N Z):=RG.keep X.zz t1 (fun j hj e=>by injection hj with hj;subst hj;exact fz e)
 have t:Touch (fun k=>k=p.rb) w1 (w1.setCell ⟨p.rb,i*3+2,none⟩ hv):=tset1 (Touch.refl _ _) _ _
 have r1:=RG.set1 Qbp rr1 (i:=i) (d:=2) (x:=(R i,H i)) (y:=(R i,hv)) (by omega) (Qbg _ hi) (u:=hv) rfl
 rw [Qfb] at r1
 have e:tab p.N (upf (fun i=>(R i,H i)) i (R i,hv))=tab p.N (fun j=>(R j,upf H i hv j)):=Qnw (fun j _=>by
  by_cases h:j=i
  ·subst h;simp only [Qag]
  ·simp only [Qae _ _ h])
 rw [e] at r1
 have r2:RR w0.heap.size (w1.setCell ⟨p.rb,i*3+2,none⟩ hv) (.slice (some ⟨p.rb,0,none⟩) p.N p.N) (tab p.N (fun j=>(upf R i ⟨(R i).is,(R i).cost,hs⟩ j,upf H i hv j))):=by
  have e2:cellsG rcs (tab p.N (fun j=>(upf R i ⟨(R i).is,(R i).cost,hs⟩ j,upf H i hv j)))=cellsG rcs (tab p.N (fun j=>(R j,upf H i hv j))):=by
   unfold cellsG tab
   rw [List.flatMap_map,List.flatMap_map]
   refine congrArg (fun f=>List.flatMap f (List.range p.N)) (funext fun j=>?_)
   by_cases h:j=i
   ·subst h;simp only [rcs,Qag]
   ·simp only [rcs,Qae _ _ h]
  show RG rcs 3 _ _ _ _ _
  unfold RG at r1 ⊢
  rw [Qas] at r1 ⊢
  rw [e2]
  exact r1
 have hge:∀k,(H i).ownBlock=some k→w0.heap.size≤k:=fun k e=>RG.ge (X.hh i hi) e
 have T1:=X.old t1 hge
 have c:∀o,(w1.setCell ⟨p.rb,i*3+2,none⟩ hv).cell? ⟨p.wb,o,none⟩=w.cell? ⟨p.wb,o,none⟩:=fun o=>(t.cell (p:=⟨p.wb,o,none⟩) hw1 X.d1).trans (t1.cell (p:=⟨p.wb,o,none⟩) hw fw)
 have own:∀g,hv.ownBlock=some g→g≠p.wb∧g≠p.rb∧g≠p.zb∧v.ownBlock≠some g:=by
  intro g hg
  rcases ow with e|⟨g',e,hg'⟩
  ·rw [e] at hg;exact hio g hi hg
  ·rw [e] at hg
   injection hg with hg
   have:=X.rlt
   have:=X.zlt
   exact⟨by omega,by omega,by omega,fun e=>by have:=X.vlt e;omega⟩
 have far:∀j g,j<p.N→j≠i→(H j).ownBlock=some g→hv.ownBlock≠some g:=by
  intro j g hj hji hg
  rcases ow with e|⟨g',e,hg'⟩
  ·rw [e];exact X.h2 j i g hj hi hji hg
  ·rw [e];intro h;injection h with h;have:=RG.lt (X.hh j hj) hg;omega
 refine⟨T1.trans' t (fun k hk e=>by have:=X.rge;omega),⟨(c 0).trans X.ls.c0,(t.frozen (p:=⟨p.wb,0,none⟩) hw1 X.d1).trans ((t1.frozen (p:=⟨p.wb,0,none⟩) hw fw).trans X.ls.f0),RG.keep (RG.keep X.ls.re t1 (fun g hg=>fv g hg)) t (fun g hg e=>X.e1 (by rw [hg,e])),X.ls.bv,X.ls.hl⟩,X.hp,(c 1).trans X.c1,(c 2).trans X.c2,(c 3).trans X.c3,(c 4).trans X.c4,X.wB,r2,RG.keep zz1 t (fun g hg e=>by cases hg;exact X.d3 e.symm),fun j hj=>?_,X.d1,X.d2,X.d3,X.e1,X.e2,fun j g hj hg=>?_,fun j k g hj hk hjk hg=>?_⟩
 ·by_cases h:j=i
  ·subst h
   rw [Qag,Qag]
   exact RG.keep re t (fun g hg e=>(own g hg).2.1 e)
  ·rw [Qae _ _ h,Qae _ _ h]
   exact RG.keep (RG.keep (X.hh j hj) t1 (fun g hg e=>X.h2 j i g hj hi h hg e)) t (fun g hg e=>(X.h1 j g hj hg).2.1 e)
 ·by_cases h:j=i
  ·subst h;rw [Qag] at hg;exact own g hg
  ·rw [Qae _ _ h] at hg;exact X.h1 j g hj hg
 ·by_cases h:j=i
  ·subst h
   rw [Qag] at hg
   rw [Qae _ _ (Ne.symm hjk)]
   intro e
   exact far k g hk (Ne.symm hjk) e hg
  ·rw [Qae _ _ h] at hg
   by_cases h':k=i
   ·subst h';rw [Qag];exact far j g hj h hg
   ·rw [Qae _ _ h'];exact X.h2 j k g hj hk hjk hg
theorem WS.rcell (X:WS w0 p w v L R H Z) {i:Nat} (hi:i<p.N):w.cell? ⟨p.rb,i*3,none⟩=some (.bool (R i).is)∧w.cell? ⟨p.rb,i*3+1,none⟩=some (.int .u32 (R i).cost)∧w.cell? ⟨p.rb,i*3+2,none⟩=some (H i) :=
 ⟨RG.cell (d:=0) Qbp X.rr (Qbg _ hi) rfl,RG.cell (d:=1) Qbp X.rr (Qbg _ hi) rfl,RG.cell (d:=2) Qbp X.rr (Qbg _ hi) rfl⟩
theorem WS.zcell (X:WS w0 p w v L R H Z) {i:Nat} (hi:i<p.N):w.cell? ⟨p.zb,i*5,none⟩=some (.int .i64 (Z i).node)∧w.cell? ⟨p.zb,i*5+1,none⟩=some (.int .u32 (Z i).cost)∧w.cell? ⟨p.zb,i*5+2,none⟩=some (.int .u32 (Z i).h.out)∧w.cell? ⟨p.zb,i*5+3,none⟩=some (.int .u32 (Z i).h.via)∧w.cell? ⟨p.zb,i*5+4,none⟩=some (.bool (Z i).h.vr):=RS.cells X.zz (Qbg _ hi)
theorem WS.rfz (X:WS w0 p w v L R H Z) (o:Nat):w.frozen? ⟨p.rb,o,none⟩=false:=RG.fz X.rr o
theorem WS.zfz (X:WS w0 p w v L R H Z) (o:Nat):w.frozen? ⟨p.zb,o,none⟩=false:=RG.fz X.zz o
end
end Go.Proofs.YtddbffoiadmffaaGreat
