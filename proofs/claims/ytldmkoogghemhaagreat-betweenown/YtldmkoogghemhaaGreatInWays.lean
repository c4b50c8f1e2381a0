import Derived.Test.YtldmkoogghemhaaGreatRows
import Derived.Shelf.SlSortCmp.WholeK
import Derived.Shelf.SlGeneric
import Derived.Ground.SlsfProg
import Derived.Shelf.SlSortCmp.NoneTotal
import Derived.Test.YtldmkoogghemhaaGreatGrCnt
import Derived.Deep.LoopGhost
import Derived.Deep.RegionHeld3
import Derived.Sort.Grow
import Derived.Maps.RangeRun
import Derived.OwnWalk
import Derived.Great.BuildSlice
namespace Go.Proofs.YtldmkoogghemhaaGreat
set_option maxHeartbeats 8000000
open Go.RowKit
set_option linter.unusedVariables false
set_option maxRecDepth 100000
theorem Qfl {P:Program} {w:World} {ops:Array Oper} {o:Oper} {a:Act} {K:Act→World→Prop} {Q:Exit→Act→World→Prop} {E:Prop} (hgd:o.guard=none) (s x:Operand) (t:TypeId)
  (ho:o.op=.call { callee:=.builtin .append,args:=#[s,x],argTypes:=#[t,t] })
  (base:Nat) (e:TypeId) (i:TypeInfo) (z:Value) (size bytes:Nat) (ht:P.underlying t=some (.slice e)) (hi:P.info? e=some i) (hz:i.zero=some z)
  (hsize:i.size=size) (hby:i.bytes=bytes) (hzs:z.cells.size=size) (hsz:0<size)
  (v:Value) (n:Nat) (xs:List Value) (hs:a.eval s=v) (hown:w.ownsRow base e size v n xs)
  (ad:Addr) (m c:Nat) (news:List Value) (hx:a.eval x=.slice (some ad) m c) (hl:news.length=m*size) (hnews:∀j u,news[j]?=some u→w.cell? (ad.add j)=some u) (h1:∀u∈news,u.oneCell'=true)
  (h63:n+m≤maxLen) (hbytes:(n+m)*bytes≤140737488355328) (hbase:base≤w.heap.size)
  (h:∀v' w',w'.ownsRow base e size v' (n+m) (xs++news)→w.grownBy w' v.ownBlock→(v'.ownBlock=v.ownBlock∨v'.ownBlock=some w.heap.size)→K (a.put o.dst v') w') :
  if Region.wanted o (yielded ops a.tmps)=true then Oper.wp P o a w K Q else E:=by
 have hw:Region.wanted o (yielded ops a.tmps)=true:=by simp [Region.wanted,hgd]
 rw [if_pos hw]
 obtain⟨v',w',hrun,h2,h3,-,h4⟩:=run_append_own_at (P:=P) w base t o.type e i z size bytes ht hi hz hsize hby hzs hsz v n xs hown ad m c news hl hnews h1 h63 hbytes hbase
 unfold Oper.wp execOp
 simp only [ho,resolve,invoke,builtin,Sem.run_bind,Sem.run_pure,Result.andThen_ok,List.map_toArray,List.map_cons,List.map_nil,hs,hx,hrun]
 exact h v' w' h2 h3 h4
theorem set7 (A B:List Value) (o:Nat) (hA:A.length=o) (z0 z1 z2 z3 z4 z5 z6 c0 c1 c2 c3 c4 c5 c6:Value) :
  (((((((A++(z0::z1::z2::z3::z4::z5::z6::B)).set o c0).set (o+1) c1).set (o+2) c2).set (o+3) c3).set (o+4) c4).set (o+5) c5).set (o+6) c6=A++(c0::c1::c2::c3::c4::c5::c6::B):=by
 subst hA
 rw [List.set_append_right _ _ (by omega)]
 rw [List.set_append_right _ _ (by omega)]
 rw [List.set_append_right _ _ (by omega)]
 rw [List.set_append_right _ _ (by omega)]
 rw [List.set_append_right _ _ (by omega)]
 rw [List.set_append_right _ _ (by omega)]
 rw [List.set_append_right _ _ (by omega)]
 simp only [Nat.sub_self,Nat.add_sub_cancel_left,Qo5,Qo6]
open Go.RowKit Go.Shelf
attribute [local go_sem] Oper.semAt_some
theorem Qex {w:World} {base e k n:Nat} {v:Value} {xs:List Value} (h:w.ownsRow base e k v n xs) {r:Nat} {o:Obj} (ho:w.heap[r]?=some o) (hc:o.isCells=false):v.ownBlock≠some r:=by
 intro he
 rcases h.2 with⟨rfl,-⟩|⟨g,cap,cur,rfl,-,hh,-⟩
 ·cases he
 ·have:g=r:=by simpa [Value.ownBlock] using he
  subst this
  rw [ho] at hh
  cases hh
  cases hc
theorem Qiv {w:World} {base e k n:Nat} {v:Value} {xs:List Value} (h:w.ownsRow base e k v n xs) {r:Nat} {o:Obj} (hr:v.ownBlock=some r) (ho:w.heap[r]?=some o):o.isCells=true:=by
 cases hc:o.isCells with
 | true=>rfl
 | false=>exact (Qex h ho hc hr).elim
theorem Qbo {w:World} {base e k n:Nat} {v:Value} {xs:List Value} (h:w.ownsRow base e k v n xs) {B T:Nat} {ys:List Value} (hr:Row w B T ys) (hT:e≠T):v.ownBlock≠some B:=by
 intro he
 rcases h.2 with⟨rfl,-⟩|⟨g,cap,cur,rfl,-,hh,-⟩
 ·cases he
 ·have:g=B:=by simpa [Value.ownBlock] using he
  subst this
  rw [show w.heap[g]?=_ from hr] at hh
  injection hh with hh
  injection hh with h1 h2 h3
  exact hT h2.symm
theorem Qf8 {F:Nat→Prop} {W W':World} (B:Nat) (t:Touch F W W') (hF:∀(k:Nat) (o:Obj),F k→W.heap[k]?=some o→o.isCells=true):KeepsFrom B W W' :=
 ⟨t.size,fun k o _ hk hc=>(t.block k (Qa7 hk) (fun h=>by have:=hF k o h hk;rw [hc] at this;cases this)).trans hk⟩
theorem Qax {n k:Nat} {z:Int} (h:k<n) (hz:z=(k:Int)+1):n-(intOf (.int .i64 z)).toNat<n-(intOf (.int .i64 (k:Int))).toNat:=by
 subst hz
 simp [intOf]
 omega
open Go.Shelf
def sortHd_ren:Go.Shelf.Ren:=⟨fun|6=>75|15=>72|14=>102|28=>99|29=>100|20=>125|21=>126|22=>127|23=>128|24=>129|25=>130|26=>131|27=>132|46=>145|47=>121|48=>122|49=>146|50=>147|57=>168|n=>n,fun|22=>45|24=>53|25=>128|3=>3|39=>108|0=>0|53=>23|55=>103|4=>4|46=>146|45=>145|50=>76|5=>5|9=>9|66=>170|70=>174|76=>202|77=>112|n=>n,fun|n=>n⟩
theorem sortHd:Go.Proofs.SlLaysF0.n6 Tryz.prog sortHd_ren:={
 mixed:=by kernel_rfl
 f6:=⟨Tryz.f75.name,by decide,Tryz.func75.trans (congrArg some (by kernel_rfl))⟩
 f14:=⟨Tryz.f102.name,by decide,Tryz.func102.trans (congrArg some (by kernel_rfl))⟩
 f15:=Tryz.func72.trans (congrArg some (by kernel_rfl))
 f20:=⟨Tryz.f125.name,by decide,Tryz.func125.trans (congrArg some (by kernel_rfl))⟩
 f21:=⟨Tryz.f126.name,by decide,Tryz.func126.trans (congrArg some (by kernel_rfl))⟩
 f22:=⟨Tryz.f127.name,by decide,Tryz.func127.trans (congrArg some (by kernel_rfl))⟩
 f23:=⟨Tryz.f128.name,by decide,Tryz.func128.trans (congrArg some (by kernel_rfl))⟩
 f24:=⟨Tryz.f129.name,by decide,Tryz.func129.trans (congrArg some (by kernel_rfl))⟩
 f25:=⟨Tryz.f130.name,by decide,Tryz.func130.trans (congrArg some (by kernel_rfl))⟩
 f26:=⟨Tryz.f131.name,by decide,Tryz.func131.trans (congrArg some (by kernel_rfl))⟩
 f27:=⟨Tryz.f132.name,by decide,Tryz.func132.trans (congrArg some (by kernel_rfl))⟩
 f28:=Tryz.func99.trans (congrArg some (by kernel_rfl))
 f29:=Tryz.func100.trans (congrArg some (by kernel_rfl))
 f46:=⟨Tryz.f145.name,by decide,Tryz.func145.trans (congrArg some (by kernel_rfl))⟩
 f47:=Tryz.func121.trans (congrArg some (by kernel_rfl))
 f48:=Tryz.func122.trans (congrArg some (by kernel_rfl))
 f49:=⟨Tryz.f146.name,by decide,Tryz.func146.trans (congrArg some (by kernel_rfl))⟩
 f50:=⟨Tryz.f147.name,by decide,Tryz.func147.trans (congrArg some (by kernel_rfl))⟩
 f57:=⟨Tryz.f168.name,by decide,Tryz.func168.trans (congrArg some (by kernel_rfl))⟩
 t0:=Tryz.underlying0
 a0:=Tryz.isAgg0
 z0:=Tryz.sizeOf0
 v0:=Tryz.zeroValue0
 t3:=Tryz.underlying3
 a3:=Tryz.isAgg3
 z3:=Tryz.sizeOf3
 v3:=Tryz.zeroValue3
 t4:=Tryz.underlying4
 a4:=Tryz.isAgg4
 z4:=Tryz.sizeOf4
 v4:=Tryz.zeroValue4
 t5:=Tryz.underlying5
 a5:=Tryz.isAgg5
 z5:=Tryz.sizeOf5
 v5:=Tryz.zeroValue5
 t9:=Tryz.underlying9
 a9:=Tryz.isAgg9
 z9:=Tryz.sizeOf9
 v9:=Tryz.zeroValue9
 t22:=Tryz.underlying45
 a22:=Tryz.isAgg45
 z22:=Tryz.sizeOf45
 v22:=Tryz.zeroValue45
 t25:=Tryz.underlying128
 a25:=Tryz.isAgg128
 z25:=Tryz.sizeOf128
 v25:=Tryz.zeroValue128
 t39:=Tryz.underlying108
 a39:=Tryz.isAgg108
 z39:=Tryz.sizeOf108
 v39:=Tryz.zeroValue108
 t45:=Tryz.underlying145
 a45:=Tryz.isAgg145
 z45:=Tryz.sizeOf145
 v45:=Tryz.zeroValue145
 t46:=Tryz.underlying146
 a46:=Tryz.isAgg146
 z46:=Tryz.sizeOf146
 v46:=Tryz.zeroValue146
 t50:=Tryz.underlying76
 a50:=Tryz.isAgg76
 z50:=Tryz.sizeOf76
 v50:=Tryz.zeroValue76
 t53:=Tryz.underlying23
 a53:=Tryz.isAgg23
 z53:=Tryz.sizeOf23
 v53:=Tryz.zeroValue23
 t55:=Tryz.underlying103
 a55:=Tryz.isAgg103
 z55:=Tryz.sizeOf103
 v55:=Tryz.zeroValue103
 t66:=Tryz.underlying170
 a66:=Tryz.isAgg170
 z66:=Tryz.sizeOf170
 v66:=Tryz.zeroValue170
 t70:=Tryz.underlying174
 a70:=Tryz.isAgg174
 z70:=Tryz.sizeOf174
 v70:=Tryz.zeroValue174
 t76:=Tryz.underlying202
 a76:=Tryz.isAgg202
 z76:=Tryz.sizeOf202
 v76:=Tryz.zeroValue202
 t77:=Tryz.underlying112
 a77:=Tryz.isAgg112
 z77:=Tryz.sizeOf112
 v77:=Tryz.zeroValue112 }
open Go.RowKit Go.Shelf Go.Lib Go.Sort
theorem Qkm (x y:HK) (w:World):Calls Tryz.prog 76 #[.agg #[.int .u32 x.out,.int .u32 x.via,.bool x.vr],.agg #[.int .u32 y.out,.int .u32 y.via,.bool y.vr]] w fun e w'=>e=.returned (.int .i64 (cH x y))∧∃q os',w'=grow (w.drewN q) os':=by
 have HE:Hid (cH x y=fstI (cmpI x.out y.out) (fstI (cmpI x.via y.via) (bz x.vr-bz y.vr))):=rfl
 generalize cH x y=z at HE ⊢
 obtain⟨x0,x1,x2⟩:=x
 obtain⟨y0,y1,y2⟩:=y
 have b1:=Qc0 x2
 have b2:=Qc0 y2
 simp only at HE b1 b2
 have H1:Hid _:=Qe8 x2
 have H2:Hid _:=Qe8 y2
 generalize hbx:bz x2=p at *
 generalize hby:bz y2=q at *
 have HX:Hid _:=hbx
 have HY:Hid _:=hby
 clear hbx hby
 obtain⟨b10,b11⟩:=b1
 obtain⟨b20,b21⟩:=b2
 have hw:IntKind.i64.wrap (p-q)=p-q:=by
  rcases (by omega:p=0∨p=1) with rfl|rfl <;> rcases (by omega:q=0∨q=1) with rfl|rfl <;> rfl
 go_enter Tryz.func76,Tryz.ntmps76
 go_wp2_with fail
 go_region_held3 (fun w'=>w'.cell? ⟨w.heap.size,0,none⟩=some (.int .u32 x0)∧w'.cell? ⟨w.heap.size,1,none⟩=some (.int .u32 x1)∧w'.cell? ⟨w.heap.size,2,none⟩=some (.bool x2)∧w'.cell? ⟨w.heap.size+1,0,none⟩=some (.int .u32 y0)∧w'.cell? ⟨w.heap.size+1,1,none⟩=some (.int .u32 y1)∧w'.cell? ⟨w.heap.size+1,2,none⟩=some (.bool y2)) (go_keep) (first
  | (go_at_call 51;refine (Qbp _ _ _).mono ?_;rintro e w1 ⟨rfl,rfl⟩)
  | (go_at_call 103;refine (H1.out _).mono ?_;rintro e w1 ⟨rfl,rfl⟩)
  | (go_at_call 103;refine (H2.out _).mono ?_;rintro e w1 ⟨rfl,rfl⟩)
  | (go_at_call 50;refine (Qld _ _ _ _ _ z HE.out _ (by simp [go_sem]) (by simp [go_sem]) (by simp [go_sem])).mono ?_;rintro e w5 ⟨rfl,rfl⟩))
 go_wp2_with fail
 go_ret
 exact⟨rfl,(((((Grs.refl w).alloc _).alloc _).alloc _).drew).out⟩
def ofH (L:List HK) (i:Nat):HK:=(L[i]?).getD HK0
def encH (L:List HK) (i:Nat):List Value:=(ofH L i).cs
def cfH (L:List HK) (i j:Nat):Int:=cH (ofH L i) (ofH L j)
theorem Ql3 (L:List HK) (i j:Nat):ltOf (cfH L) i j=true↔(ofH L i).lt (ofH L j):=by
 unfold ltOf
 rw [decide_eq_true_iff]
 exact Qjc _ _
theorem Qf5 (L:List HK) (i j:Nat):ltOf (cfH L) i j=false↔¬(ofH L i).lt (ofH L j):=by
 rw [←Ql3]
 simp
theorem Qmz (L:List HK):SWO (ltOf (cfH L)) where
 irrefl x:=(Qf5 L x x).2 (HK.lt_irrefl _)
 trans x y z h1 h2:=by rw [Ql3] at *;exact HK.lt_trans h1 h2
 ntrans x y z h1 h2:=by rw [Qf5] at *;unfold HK.lt at *;omega
theorem Qh4 {w:World} {g cap base:Nat} {L:List HK} (h:w.ownsRow base 53 3 (.slice (some ⟨g,0,none⟩) L.length cap) L.length (cellsG HK.cs L)):HoldsK (encH L) 3 w g 0 (List.range L.length).toArray:=by
 intro j hj
 rw [size_flatK] at hj
 have hj':j<L.length*3:=by simpa using hj
 have hi:j/3<L.length:=by omega
 have hm:j%3<3:=by omega
 rcases h.2 with⟨h1,-⟩|⟨g',cap',cur,hv,-,hb,-,-,hs,ht⟩
 ·cases h1
 ·injection hv with hv1 hv2 hv3
  injection hv1 with hv1
  injection hv1 with hv1
  subst hv1
  subst hv3
  rw [get_flatK _ _ _ _ hj,Nat.zero_add]
  have e1:((List.range L.length).toArray)[j/3]! = j/3:=by
   rw [getElem!_pos _ _ (by simpa using hi)]
   simp
  have e2:ofH L (j/3)=L[j/3]:=by unfold ofH;simp [hi]
  refine⟨?_,frozen_of_row w g j cur 53 hb⟩
  rw [cell_of_row w g j cur 53 _ hb,e1]
  have e3:cur[j]?=(cellsG HK.cs L)[j]?:=by
   rw [←ht,List.getElem?_take,if_pos hj']
   simp
  have e4:(cellsG HK.cs L)[j]?=(L[j/3]).cs[j%3]?:=by
   have:=Qan HK.len L (j/3) (j%3) hm
   rwa [show j/3*3+j%3=j from by omega,List.getElem?_eq_getElem hi] at this
  have hcl:j%3<(L[j/3]).cs.length:=by simp [HK.cs];omega
  rw [e3,e4]
  show _=some ((encH L (j/3))[j%3]!)
  unfold encH
  rw [e2,List.getElem?_eq_getElem hcl,getElem!_pos (L[j/3]).cs (j%3) hcl]
theorem Qgf {w:World} {g cap:Nat} {L:List HK} {d:Array Nat} (h:HoldsK (encH L) 3 w g 0 d) (h1:d.size≤cap) (h2:cap≤maxLen):ValsAt w 3 (.slice (some ⟨g,0,none⟩) d.size cap) d.size (cellsG HK.cs (d.toList.map (ofH L))):=by
 refine⟨by rw [Qat HK.len];simp,Or.inr ⟨_,_,rfl,h1,h2,fun j u hj=>?_⟩⟩
 have hjl:=(List.getElem?_eq_some_iff.1 hj).1
 rw [Qat HK.len,List.length_map,Array.length_toList] at hjl
 have hi:j/3<d.size:=by omega
 have hm:j%3<3:=by omega
 rw [Qah]
 have hh:=(h j (by rw [size_flatK];exact hjl)).1
 rw [get_flatK _ _ _ _ hjl] at hh
 rw [hh]
 have e4:=Qan HK.len (d.toList.map (ofH L)) (j/3) (j%3) hm
 rw [show (d.toList.map (ofH L))[j/3]?=some (ofH L d[j/3]) from by simp [hi]] at e4
 rw [show j/3*3+j%3=j from by omega,hj] at e4
 change some u=(ofH L d[j/3]).cs[j%3]? at e4
 have hcl:j%3<(ofH L d[j/3]).cs.length:=by simp [HK.cs];omega
 rw [getElem!_pos d _ hi]
 show some ((encH L d[j/3])[j%3]!)=_
 unfold encH
 rw [e4,List.getElem?_eq_getElem hcl,getElem!_pos (ofH L d[j/3]).cs (j%3) hcl]
theorem Qhd (L:List HK) (w:World) (m blk off:Nat) (d:Array Nat):Touch (fun k=>k=blk) w (putRowK (encH L) 3 (Sort.ahead w m) blk off d):=by
 unfold putRowK putRow mapBlock
 exact⟨rfl,rfl,rfl,by simp [Sort.ahead],fun k hk hn=>by simp [Sort.ahead,Array.getElem?_modify,Ne.symm hn]⟩
theorem Qig (w w':World) (g c:Nat) (L:List HK) (X:HpB w w' (.slice (some ⟨g,0,none⟩) L.length c) L) (hc:c≤maxLen) (hlc:L.length≤c) (hn:L.length≤100000000000) :
  Calls Tryz.prog 75 #[.slice (some ⟨g,0,none⟩) L.length c,.func (.func 76) #[] #[]] w' fun e w''=>e=.returned (.tuple #[])∧∃S,S.Perm L∧S.Pairwise HK.le∧HV3 w'' (.slice (some ⟨g,0,none⟩) L.length c) S∧Touch (fun _=>False) w w'':=by
 have eg:∀args w,(callFunc 76 args).run Tryz.prog w=.ok (.enter 76 args) w:=enters_of Tryz.func76 (by kernel_rfl) rfl
 have hH:=Qh4 X.own
 have hgl:g<w'.heap.size:=(X.own.lt g rfl).2
 have hgw:w.heap.size≤g:=(X.own.lt g rfl).1
 have hone:∀i,∀v∈encH L i,v.oneCell'=true:=by
  intro i v hv
  simp [encH,HK.cs] at hv
  rcases hv with rfl|rfl|rfl <;> rfl
 have hsz:(List.range L.length).toArray.size=L.length:=by simp
 have hcon:=AnyQ.slices_SortFunc sortHd 3 Tryz.isAgg53 Tryz.sizeOf53 (encH L) (fun _=>rfl) hone (cfH L) (Qmz L) 76 #[] g 0 c (List.range L.length).toArray w' eg (fun _ _ _ _ x y=>Qkm (ofH L x) (ofH L y) _) hH hgl (by rw [hsz];omega)
 rw [hsz] at hcon
 refine Calls.mono hcon ?_
 rintro e w'' ⟨rfl,d',n,os,hpp,hs,rfl⟩
 obtain⟨hp1,-,hp3⟩:=hpp
 have e2:d'.size=L.length:=by rw [hp1];simp
 have p:d'.toList.Perm (List.range L.length):=by
  have h5:d'.extract 0 L.length=d':=by rw [←e2];simp
  rw [h5] at hp3
  have h4:d'.toList.Perm (List.take L.length (List.range L.length)):=by simpa using hp3
  rwa [List.take_of_length_le (by simp)] at h4
 have hmap:(List.range L.length).map (ofH L)=L:=by
  apply List.ext_getElem?
  intro i
  rw [List.getElem?_map]
  rcases Nat.lt_or_ge i L.length with h|h
  ·simp [h,ofH]
  ·rw [List.getElem?_eq_none (by simpa using h),List.getElem?_eq_none h];rfl
 have q:(d'.toList.map (ofH L)).Perm L:=by
  have:=p.map (ofH L)
  rwa [hmap] at this
 have T2:Touch (fun k=>k=g) w' (sortWorldK (encH L) 3 w' g 0 n d' os):=(Qhd L w' n g 0 d').trans ((Qdh _ os).mono (fun _ _ h=>h.elim))
 refine⟨rfl,d'.toList.map (ofH L),q,?_,?_,?_⟩
 ·rw [List.pairwise_map,List.pairwise_iff_getElem]
  intro i j hi hj hij
  have hj':j<d'.size:=by simpa using hj
  have hi':i<d'.size:=by simpa using hi
  have:=(Qf5 L _ _).1 (hs i j (Nat.zero_le _) hij (by omega))
  rw [getElem!_pos d' j hj',getElem!_pos d' i hi'] at this
  show ¬HK.lt _ _
  simpa using this
 ·have h1:=holdsK_putRowK (encH L) 3 (Sort.ahead w' n) g 0 (List.range L.length).toArray d' hH (by rw [e2];simp)
  have h2:=holdsK_grow (encH L) 3 _ os g 0 d' (by unfold putRowK putRow mapBlock;simpa [Sort.ahead] using hgl) h1
  have h3:=Qgf (cap:=c) h2 (by omega) hc
  rw [e2] at h3
  have hl3:(d'.toList.map (ofH L)).length=L.length:=by simp [e2]
  show ValsAt _ 3 _ (d'.toList.map (ofH L)).length _
  rw [hl3]
  exact h3
 ·exact X.t.trans' T2 (fun i hi e=>by omega)
open Go.RowKit Go.Shelf
theorem Qmn {w:World} {g c:Nat} {n:Nat} {S:List HK} (hn:n=S.length) (h:HV3 w (.slice (some ⟨g,0,none⟩) n c) S):HopsAt w (.slice (some ⟨g,0,none⟩) n c) S:=by
 subst hn
 refine⟨_,c,rfl,Or.inr ⟨g,rfl,fun i x hx d u hd=>?_⟩⟩
 rcases h.2 with⟨h1,-⟩|⟨ad,c',e,-,-,hc⟩
 ·cases h1
 ·injection e with e1 e2 e3
  injection e1 with e1
  subst e1
  have hd3:d<3:=(List.getElem?_eq_some_iff.1 hd).1
  have:=hc (i*3+d) u (by rw [Qan HK.len _ _ _ hd3,hx];exact hd)
  rwa [Qah,Nat.zero_add] at this
theorem Qla (w w1:World) (p:Value) (L:List HK) (X:HpB w w1 p L) (hn:L.length≤100000000000) :
  Calls Tryz.prog 75 #[p,.func (.func 76) #[] #[]] w1 fun e w2=>e=.returned (.tuple #[])∧∃S,S.Perm L∧S.Pairwise HK.le∧HopsAt w2 p S∧Touch (fun _=>False) w w2:=by
 rcases X.own.2 with⟨rfl,h0⟩|⟨g,cap,cur,rfl,hb,hh,h1,h2,h3,h4⟩
 ·have e:L=[]:=List.length_eq_zero_iff.1 h0
  subst e
  refine Calls.mono (AnyF.slices_SortFunc_none sortHd none 0 (.func (.func 76) #[] #[]) w1) ?_
  rintro e w2 ⟨rfl,rfl⟩
  exact⟨rfl,[],List.Perm.refl _,List.Pairwise.nil,⟨none,0,rfl,Or.inl rfl⟩,X.t⟩
 ·refine Calls.mono (Qig w w1 g cap L X h2 h1 hn) ?_
  rintro e w2 ⟨rfl,S,hp,hs,hv,t⟩
  exact⟨rfl,S,hp,hs,Qmn hp.length_eq.symm hv,t⟩
open Go.RowKit Go.Shelf
structure WP where
 p:PX
 router:Int
 flags:Int
 kind:Int
 area:Int
 cost:Int
 dist:Int
 tag:Int
 hs:List HK
structure WY where
 x:WP
 hv:Value
def WY.cs (y:WY):List Value:=[.int .u32 y.x.p.addr,.int .u8 y.x.p.bits,.int .u32 y.x.router,.int .u8 y.x.flags,.int .u8 y.x.kind,.int .u32 y.x.area,.int .u32 y.x.cost,.int .u32 y.x.dist,.int .u32 y.x.tag,y.hv]
theorem WY.len (y:WY):y.cs.length=10:=rfl
abbrev HO (w:World) (v:Value) (l:List HK):Prop:=w.ownsRow 0 53 3 v l.length (cellsG HK.cs l)
theorem Qa1 {w:World} {b1 b2 e1 e2 k1 k2 n1 n2:Nat} {v1 v2:Value} {x1 x2:List Value} (h:w.ownsRow b1 e1 k1 v1 n1 x1) (o:w.ownsRow b2 e2 k2 v2 n2 x2) (hT:e1≠e2):∀k,v1.ownBlock=some k→v2.ownBlock≠some k:=by
 intro k hk
 rcases h.2 with⟨rfl,-⟩|⟨g,cap,cur,rfl,-,hh,-⟩
 ·cases hk
 ·have:g=k:=by simpa [Value.ownBlock] using hk
  subst this
  refine Qbo o (B:=g) (T:=e1) (ys:=cur.toList) ?_ (fun e=>hT e.symm)
  exact hh
structure WB1 (w0 w:World) (v:Value) (N:List WY):Prop where
 b:VBuf 47 10 w0 w v N.length (cellsG WY.cs N)
 h:∀y∈N,HO w y.hv y.x.hs
theorem WB1.keep {w0 w w':World} {v:Value} {N:List WY} (h:WB1 w0 w v N) (t:Touch (fun _=>False) w w'):WB1 w0 w' v N:=⟨h.b.keep t,fun y hy=>Qab (h.h y hy) t (fun _ _ h=>h)⟩
theorem WB1.nil {w0 w:World} (t:Touch (fun _=>False) w0 w):WB1 w0 w (.slice none 0 0) []:=⟨VBuf.nil _ _ t,by simp⟩
theorem infoWay:(Tryz.prog.info? 47).map (fun i=>(i.zero,i.size,i.bytes))=some (some (.agg #[.int .u32 0,.int .u8 0,.int .u32 0,.int .u8 0,.int .u8 0,.int .u32 0,.int .u32 0,.int .u32 0,.int .u32 0,.slice none 0 0]),10,56):=by kernel_rfl
theorem Qfd {P:Program} {w w':World} {ops:Array Oper} {o:Oper} {a:Act} {K:Act→World→Prop} {Q:Exit→Act→World→Prop} {E:Prop} (hgd:o.guard=none) (t:TypeId) (len:Nat) (parts:List (Nat×Operand)) (ho:o.op=.buildSlice t len parts.toArray) (v:Value) (vs:List (Nat×Value)) (hv:parts.map (fun x=>(x.1,a.eval x.2))=vs)
  (hrun:(Instr.buildSlice t len vs.toArray).run P w=.ok v w') (h:K (a.put o.dst v) w'):if Region.wanted o (yielded ops a.tmps)=true then Oper.wp P o a w K Q else E:=by
 have hw:Region.wanted o (yielded ops a.tmps)=true:=by simp [Region.wanted,hgd]
 rw [if_pos hw]
 subst hv
 unfold Oper.wp execOp
 simp only [ho,List.map_toArray,Sem.run_bind,hrun,Result.andThen_ok,Sem.run_pure]
 exact h
end Go.Proofs.YtldmkoogghemhaaGreat
