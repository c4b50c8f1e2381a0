import Derived.Test.YtddbffoiadmffaaGreatInAdd
namespace Go.Proofs.YtddbffoiadmffaaGreat
set_option maxHeartbeats 8000000
open Go.RowKit Go.Shelf
set_option linter.unusedVariables false
set_option maxRecDepth 100000
attribute [local go_sem] Oper.semAt_some
def PX.cs (p:PX):List Value:=[.int .u32 p.addr,.int .u8 p.bits]
theorem PX.len (p:PX):p.cs.length=2:=rfl
theorem infoPx:(Tryz.prog.info? 42).map (fun i=>(i.zero,i.size,i.bytes))=some (some (.agg #[.int .u32 0,.int .u8 0]),2,8):=by kernel_rfl
abbrev PxB (n:Nat) (w:World) (v:Value) (l:List PX):Prop:=w.ownsRow n 42 2 v l.length (cellsG PX.cs l)
theorem Qie {w:World} {base e k n:Nat} {v:Value} {xs:List Value} (h:w.ownsRow base e k v n xs) {r:Nat} {o:Obj} (ho:w.heap[r]?=some o) (hc:o.isCells=false):v.ownBlock≠some r:=by
 intro he
 rcases h.2 with⟨rfl,-⟩|⟨g,cap,cur,rfl,-,hh,-⟩
 ·cases he
 ·have:g=r:=by simpa [Value.ownBlock] using he
  subst this
  rw [ho] at hh
  cases hh
  cases hc
theorem Qo6 {w:World} {base e k n:Nat} {v:Value} {xs:List Value} (h:w.ownsRow base e k v n xs) {r:Nat} {o:Obj} (hr:v.ownBlock=some r) (ho:w.heap[r]?=some o):o.isCells=true:=by
 cases hc:o.isCells with
 | true=>rfl
 | false=>exact (Qie h ho hc hr).elim
theorem Qb5 {w:World} {base e k n:Nat} {v:Value} {xs:List Value} (h:w.ownsRow base e k v n xs) {B T:Nat} {ys:List Value} (hr:Row w B T ys) (hT:e≠T):v.ownBlock≠some B:=by
 intro he
 rcases h.2 with⟨rfl,-⟩|⟨g,cap,cur,rfl,-,hh,-⟩
 ·cases he
 ·have:g=B:=by simpa [Value.ownBlock] using he
  subst this
  rw [show w.heap[g]?=_ from hr] at hh
  injection hh with hh
  injection hh with h1 h2 h3
  exact hT h2.symm
structure ApI (w:World) (B:Nat) (pre:List PX) (W:World):Prop where
 t:Touch (fun _=>False) w W
 box:∃v,Row W B 158 [v]∧PxB w.heap.size W v pre
theorem ApI.own (w:World) (B n:Nat) (hn:w.heap.size≤n):OwnFrom n (ApI w B):=by
 intro pre W W' row h hg hr
 obtain⟨t,v,hb,ho⟩:=h
 refine⟨t.grown hg (fun k hk=>Or.inr (by have:=(hr k hk).1;omega)),v,?_,?_⟩
 ·refine (hg.block B hb.lt (fun e=>?_)).trans hb
  obtain⟨-,o,h1,h2⟩:=hr B e.symm
  rw [show W.heap[B]?=_ from hb] at h1
  cases h1
  cases h2
 ·exact Qab ho ((Touch.refl (fun k=>row=some k) W).grown hg (fun k hk=>Or.inl hk)) (fun k hk e=>by
   obtain⟨-,o,h1,h2⟩:=hr k e
   exact Qie ho h1 h2 hk)
theorem Qi7 {F:Nat→Prop} {W W':World} (B:Nat) (t:Touch F W W') (hF:∀(k:Nat) (o:Obj),F k→W.heap[k]?=some o→o.isCells=true):KeepsFrom B W W' :=
 ⟨t.size,fun k o _ hk hc=>(t.block k (Qat hk) (fun h=>by have:=hF k o h hk;rw [hc] at this;cases this)).trans hk⟩
theorem Qt3 {β:Type} (g T:Nat) (xs:List Value) (n:Nat):OwnFrom n (fun (_:β) W=>Row W g T xs):=by
 intro s X Y row hs hg hr
 refine (hg.block g hs.lt (fun e=>?_)).trans hs
 obtain⟨-,o,h1,h2⟩:=hr g e.symm
 rw [show X.heap[g]?=_ from hs] at h1
 cases h1
 cases h2
theorem Qls (w:World) (b m:Nat) (es:Array MapEntry) (c:Nat) (hb:w.cell? ⟨b,0,none⟩=some (.map (some m))) (hm:w.heap[m]?=some (.map es c)) (nd:(es.toList.map (·.born)).Nodup) (hc:∀e∈es.toList,e.born<c) (hk:∀e∈es.toList,e.key=(keyP e).v) (hl:es.size≤1000000) :
  Calls Tryz.prog 156 #[.slice none 0 0,.func (.func 114) #[] #[.pointer (some ⟨b,0,none⟩)]] w fun e w'=>∃v xs,e=.returned v∧xs.Perm (es.toList.map keyP)∧PxB w.heap.size w' v xs∧Touch (fun _=>False) w w':=by
 obtain⟨i0,hi,hz0,hz1,hz2⟩:=info_parts infoPx
 have TW:Touch (fun _=>False) w (w.alloc (.cells #[.slice none 0 0] 158)):=(Touch.refl _ _).alloc _
 have HM:Hid (m<w.heap.size):=Qat hm
 have HSEQ:=Ql8 5 (by omega) b m es c (w.alloc (.cells #[.slice none 0 0] 158)) (TW.cellN hb) (TW.heapN hm) nd hc hk
 have R0:Row (w.alloc (.cells #[.slice none 0 0] 158)) w.heap.size 158 [.slice none 0 0]:=Qac w _ _
 have H0:Hid (ApI w w.heap.size [] (w.alloc (.cells #[.slice none 0 0] 158))):=⟨TW,_,R0,World.ownsRow_nil _ _ _ _⟩
 have HW1:Hid (w.heap.size<(w.alloc (.cells #[.slice none 0 0] 158)).heap.size):=by show _<_;simp
 clear TW hb hm nd hc hk R0
 refine (callsIn_wide (n:=6)).1 ?_
 refine callsIn_of_wp_marks Tryz.func156 rfl trivial ?_ rfl
 simp only [Tryz.ntmps156,List.size_toArray,List.length_cons,List.length_nil,Nat.reduceAdd,Nat.reduceSub,Array.replicate_succ,Array.replicate_zero,List.push_toArray,List.append_toArray,List.nil_append,List.cons_append]
 gi_wp2_with fail
 generalize w.alloc (.cells #[.slice none 0 0] 158)=w1 at *
 generalize hB:w.heap.size=B at *
 have HB:Hid (w.heap.size=B):=hB
 refine wpIn_rangeFunc_ownH rfl (by omega) (gf:=114) (lb:=#[.pointer (some ⟨b,0,none⟩)]) rfl trivial (enters_of Tryz.func114 (by kernel_rfl) rfl)
  HSEQ (fun h k=>h.trans k) (fun W l o o' hl h h1 h2=>KpM.put (n:=w1.heap.size) (by have:=HM.out;have:=HW1.out;omega) W l o o' hl h h1 h2) (Below.refl _ _) (fun _=>rfl)
  (ApI w B) (fun _ _ _=>False) (ApI.own w B _ (by have:=HW1.out;have:=HB.out;omega)) (fun _ _ _ _ _ hs _ _=>hs) H0.out
  (fun p a' W=>∃Bx,Row W Bx 42 [.int .u32 p.addr,.int .u8 p.bits]∧a'={ tmps:=#[.slice none 0 0,.func (.func 114) #[] #[.pointer (some ⟨b,0,none⟩)],.pointer (some ⟨B,0,none⟩),undef,.slice none 0 0,.pointer (some ⟨Bx,0,none⟩),.func (.func 114) #[] #[.pointer (some ⟨b,0,none⟩)],.agg #[.int .u32 p.addr,.int .u8 p.bits],undef,undef,undef,undef,undef],defers:=[] })
  (fun x a' s X Y row hs hg hr=>by obtain⟨Bx,h2,h3⟩:=hs;exact⟨Bx,Qt3 (β:=Unit) _ _ _ _ () X Y row h2 hg hr,h3⟩)
  ?assign ?body ?done ?stop
 case assign =>
  rintro l pre x W K hI hK
  unfold encQ PX.v
  gi_wp2
  have ta:Touch (fun _=>False) W (W.alloc (.cells #[.int .u32 x.addr,.int .u8 x.bits] 42)):=(Touch.refl _ _).alloc _
  refine hK _ _ ((KeepsOthers.alloc _ _).from _) (KpM.touch ta (fun h=>h) (fun _ _ h=>h.elim)) ?_ ⟨W.heap.size,Qac W _ _,rfl⟩
  ·obtain⟨t,v,h1,h2⟩:=hI
   exact⟨t.trans ta,v,h1.keep ta,Qab h2 ta (fun _ _ h=>h)⟩
 case body =>
  rintro l pre x a' W hll ⟨r,hr⟩ hI ⟨Bx,hX,rfl⟩ hlt
  obtain⟨t,v,h1,h2⟩:=hI
  obtain⟨va,vc,rfl⟩:=Qah h2
  have hb0:W.cell? ⟨B,0,none⟩=some (.slice va pre.length vc):=h1.cell 0
  have x0:W.cell? ⟨Bx,0,none⟩=some (.int .u32 x.addr):=hX.cell 0
  have x1:W.cell? ⟨Bx,1,none⟩=some (.int .u8 x.bits):=hX.cell 1
  have lx:=hX.lt
  have lb:=h1.lt
  have HP:Hid (ApI w B pre W):=⟨t,_,h1,h2⟩
  have HH1:Hid (Row W B 158 [.slice va pre.length vc]):=h1
  have HLT:Hid (pre.length<es.size∧es.size≤1000000∧w.heap.size≤W.heap.size∧w.heap.size=B∧m<w.heap.size):=⟨hlt,hl,t.size,HB.out,by have:=HM.out;have:=HB.out;omega⟩
  obtain⟨W1,hW1⟩:∃u,u=W.alloc (.cells #[.int .u32 x.addr,.int .u8 x.bits] 42):=⟨_,rfl⟩
  have T1:Touch (fun _=>False) W W1:=by rw [hW1];exact (Touch.refl _ _).alloc _
  have RA:Row W1 W.heap.size 42 [.int .u32 x.addr,.int .u8 x.bits]:=by rw [hW1];exact Qac W _ _
  have HOA:Hid (W1.ownsRow w.heap.size 42 2 (.slice va pre.length vc) pre.length (cellsG PX.cs pre)):=Qab h2 T1 (fun _ _ h=>h)
  have HNA:Hid (∀(j:Nat) u,([.int .u32 x.addr,.int .u8 x.bits]:List Value)[j]?=some u→W1.cell? ((⟨W.heap.size,0,none⟩:Addr).add j)=some u):=fun j u hj=>by rw [Qae,Nat.zero_add,RA.cell j];exact hj
  have HSZ:Hid (w.heap.size≤W1.heap.size):=Nat.le_trans t.size T1.size
  have HT1:Hid (Touch (fun _=>False) W W1):=T1
  rw [hW1] at HOA HNA HSZ
  have HNB:Hid ((Value.slice va pre.length vc).ownBlock≠some B):=Qb5 h2 h1 (by decide)
  have HOC:Hid (∀(k:Nat) (o:Obj),(k=B∨(Value.slice va pre.length vc).ownBlock=some k)→W.heap[k]?=some o→o.isCells=true):=fun k o hk ho=>by
   rcases hk with rfl|hk
   ·rw [show W.heap[k]?=_ from h1] at ho;cases ho;rfl
   ·exact Qo6 h2 hk ho
  have HOB:Hid (∀k,(Value.slice va pre.length vc).ownBlock=some k→w.heap.size≤k):=fun k hk=>(h2.lt k hk).1
  clear h1 h2 hX t T1 RA hr
  gi_wp2_with (gi_at_builtin;refine wpListIn_append_own _ rfl _ _ 158 rfl w.heap.size 42 i0 (.agg #[.int .u32 0,.int .u8 0]) 2 8 Tryz.underlying158 hi hz0 hz1 hz2 rfl (by decide) _ _ _ rfl HOA.out ⟨W.heap.size,0,none⟩ 1 1 [.int .u32 x.addr,.int .u8 x.bits] rfl rfl HNA.out (by intro u hu;simp at hu;rcases hu with rfl|rfl <;> rfl) (by have:=HLT.out;unfold maxLen;omega) (by have:=HLT.out;omega) HSZ.out ?_;intro v' w' hown hg hnil;rw [←hW1] at hg;have TG:Touch (fun k=>(Value.slice va pre.length vc).ownBlock=some k) W1 w':=(Touch.refl _ _).grown hg (fun k hk=>Or.inl hk);have hnb:=HNB.out;have RB:Row w' B 158 [.slice va pre.length vc]:=Qad (HH1.out.keep HT1.out) TG hnb;have cB:w'.cell? ⟨B,0,none⟩=some (.slice va pre.length vc):=RB.cell 0;have fB:=RB.frozen 0;have lB:=RB.lt;obtain⟨f1,f2,rfl⟩:=Qah hown;have HRB:Hid (Row w' B 158 [.slice va pre.length vc]):=RB;have HOW:Hid (w'.ownsRow w.heap.size 42 2 (.slice f1 (pre.length+1) f2) (pre.length+1) (cellsG PX.cs pre++[.int .u32 x.addr,.int .u8 x.bits])):=hown;have HTG:Hid (Touch (fun k=>(Value.slice va pre.length vc).ownBlock=some k) W1 w'):=TG;clear RB hown hg hnil TG hnb)
  have TF:Touch (fun k=>k=B∨(Value.slice va pre.length vc).ownBlock=some k) W (w'.setCell ⟨B,0,none⟩ (.slice f1 (pre.length+1) f2)) :=
   Touch.setCell (F:=fun k=>k=B∨(Value.slice va pre.length vc).ownBlock=some k) (p:=⟨B,0,none⟩) ((HT1.out.mono (fun _ _ h=>h.elim)).trans (HTG.out.mono (fun k _ h=>Or.inr h))) (Or.inl (Or.inl rfl)) _
  have TB:Touch (fun k=>k=B) w' (w'.setCell ⟨B,0,none⟩ (.slice f1 (pre.length+1) f2)):=Touch.setCell (F:=fun k=>k=B) (p:=⟨B,0,none⟩) (Touch.refl _ _) (Or.inl rfl) _
  refine⟨Qi7 _ TF HOC.out,KpM.touch TF (fun h=>?_) (fun k o hk ho hw=>?_),?_,_,HRB.out.set 0 _,?_⟩
  ·have:=HLT.out
   rcases h with h|h
   ·omega
   ·have:=HOB.out _ h;omega
  ·have:=HOC.out k o hk ho
   rw [Obj.not_cells_of_walk hw] at this
   cases this
  ·refine HP.out.t.trans' TF (fun i hi h=>?_)
   have:=HLT.out
   rcases h with h|h
   ·omega
   ·have:=HOB.out _ h;omega
  ·have ho:=Qab HOW.out TB (fun k hk e=>by subst e;exact Qb5 HOW.out HRB.out (by decide) hk)
   show (w'.setCell ⟨B,0,none⟩ (.slice f1 (pre.length+1) f2)).ownsRow _ _ _ _ (pre++[x]).length (cellsG PX.cs (pre++[x]))
   rw [List.length_append,Qaq]
   exact ho
 case done =>
  intro D xs W hD hS hI hd
  obtain⟨t,v,h1,h2⟩:=hI
  obtain⟨va,vc,rfl⟩:=Qah h2
  have hb0:W.cell? ⟨B,0,none⟩=some (.slice va xs.length vc):=h1.cell 0
  have lb:=h1.lt
  have HF:Hid (xs.Perm (es.toList.map keyP)∧PxB w.heap.size W (.slice va xs.length vc) xs∧Touch (fun _=>False) w W):=⟨hS,h2,t⟩
  clear h1 h2 t hS
  gi_wp2
  refine⟨by simp,.inl ⟨_,_,rfl,run_takeDeferred hd,?_⟩⟩
  refine⟨_,results_tmp rfl _ _ _,?_⟩
  have tp:Touch (fun k=>k=D) W (W.putObj D (.deferred none)):=(Touch.refl _ _).grown (grownBy_putObj' W D _) (fun k hk=>by cases hk;exact Or.inl rfl)
  refine⟨_,xs,rfl,HF.out.1,Qab HF.out.2.1 tp (fun k hk e=>by subst e;exact Qie HF.out.2.1 hd rfl hk),HF.out.2.2.trans' tp (fun i hi e=>by have:=HW1.out;have:=HB.out;omega)⟩
 case stop=>exact fun _ _ _ _ _ _ h _=>h.elim
open Go.RowKit Go.Shelf Go.Lib Go.Sort
def PX0:PX:=⟨0,0⟩
def PX.le (x y:PX):Prop:=¬PX.lt y x
abbrev PxV (w0 w:World) (v:Value) (l:List PX):Prop:=VBuf 42 2 w0 w v l.length (cellsG PX.cs l)
abbrev XV2 (w:World) (v:Value) (l:List PX):Prop:=ValsAt w 2 v l.length (cellsG PX.cs l)
def cX (x y:PX):Int:=fstI (cmpI x.addr y.addr) (cmpI x.bits y.bits)
theorem Qvp (x y:PX):cX x y<0↔x.lt y:=by
 unfold cX fstI cmpI PX.lt
 split
 ·split
  ·omega
  ·split <;> omega
 ·split
  ·omega
  ·split <;> omega
def OrR2 (x y:Int) (k:Nat):Prop:=k≤2∧(1≤k→x=0)∧(2≤k→y=0)
theorem Qwc (x y:Int) (g c:Nat) (v:Int) (hv:v=fstI x y) (w:World) (h0:w.cell? ⟨g,0,none⟩=some (.int .i64 x)) (h1:w.cell? ⟨g,1,none⟩=some (.int .i64 y)) :
  Calls Tryz.prog 88 #[.slice (some ⟨g,0,none⟩) 2 c] w fun e w'=>e=.returned (.int .i64 v)∧w=w':=by
 have HV:Hid _:=hv
 clear hv
 go_enter Tryz.func88,Tryz.ntmps88
 go_wp2
 go_loop [8] (fun i=>∃k:Nat,i=.int .i64 k∧OrR2 x y k) (fun i=>2-(intOf i).toNat)
 case atStart=>exact⟨0,rfl,by unfold OrR2;omega⟩
 case round =>
  obtain⟨k,rfl,hr⟩:=hrel
  have HR:Hid _:=hr
  obtain⟨hk,k1,k2⟩:=hr
  rcases (by omega:k=0∨k=1∨k=2) with rfl|rfl|rfl
  ·clear k1 k2 hk
   by_cases hx:x=0
   ·subst hx
    go_wp2
    go_round
    case rel=>exact⟨1,rfl,by unfold OrR2;omega⟩
    case measure=>simp [intOf]
   ·go_wp2
    go_ret
    exact⟨Qav (by rw [HV.out];exact (Qjf _ hx).symm),rfl⟩
  ·have ex:=k1 (by omega)
   subst ex
   clear k1 k2 hk
   by_cases hy:y=0
   ·subst hy
    go_wp2
    go_round
    case rel=>exact⟨2,rfl,by unfold OrR2;omega⟩
    case measure=>simp [intOf]
   ·go_wp2
    go_ret
    exact⟨Qav (by rw [HV.out];simp [fstI]),rfl⟩
  ·have ex:=k1 (by omega)
   have ey:=k2 (by omega)
   subst ex
   subst ey
   clear k1 k2 hk
   go_wp2
   go_ret
   exact⟨Qav (by rw [HV.out];rfl),rfl⟩
theorem Qpk (x y:PX) (w:World):Calls Tryz.prog 67 #[.agg #[.int .u32 x.addr,.int .u8 x.bits],.agg #[.int .u32 y.addr,.int .u8 y.bits]] w fun e w'=>e=.returned (.int .i64 (cX x y))∧∃q os',w'=grow (w.drewN q) os':=by
 have HE:Hid (cX x y=fstI (cmpI x.addr y.addr) (cmpI x.bits y.bits)):=rfl
 generalize cX x y=z at HE ⊢
 obtain⟨x0,x1⟩:=x
 obtain⟨y0,y1⟩:=y
 simp only at HE
 go_enter Tryz.func67,Tryz.ntmps67
 go_wp2_with fail
 go_region_held3 (fun w'=>w'.cell? ⟨w.heap.size,0,none⟩=some (.int .u32 x0)∧w'.cell? ⟨w.heap.size,1,none⟩=some (.int .u8 x1)∧w'.cell? ⟨w.heap.size+1,0,none⟩=some (.int .u32 y0)∧w'.cell? ⟨w.heap.size+1,1,none⟩=some (.int .u8 y1)) (go_keep) (first
  | (go_at_call 89;refine (Qd6 _ _ _).mono ?_;rintro e w1 ⟨rfl,rfl⟩)
  | (go_at_call 115;refine (Qel _ _ _).mono ?_;rintro e w1 ⟨rfl,rfl⟩)
  | (go_at_call 88;refine (Qwc _ _ _ _ z HE.out _ (by simp [go_sem]) (by simp [go_sem])).mono ?_;rintro e w5 ⟨rfl,rfl⟩))
 go_wp2_with fail
 go_ret
 exact⟨rfl,(((((Grs.refl w).alloc _).alloc _).alloc _).drew).out⟩
def ofX (L:List PX) (i:Nat):PX:=(L[i]?).getD PX0
def encX (L:List PX) (i:Nat):List Value:=(ofX L i).cs
def cfX (L:List PX) (i j:Nat):Int:=cX (ofX L i) (ofX L j)
theorem Qsy (L:List PX) (i j:Nat):ltOf (cfX L) i j=true↔(ofX L i).lt (ofX L j):=by
 unfold ltOf
 rw [decide_eq_true_iff]
 exact Qvp _ _
theorem Qjc (L:List PX) (i j:Nat):ltOf (cfX L) i j=false↔¬(ofX L i).lt (ofX L j):=by
 rw [←Qsy]
 simp
theorem Qts (L:List PX):SWO (ltOf (cfX L)) where
 irrefl x:=(Qjc L x x).2 (PX.lt_irr _)
 trans x y z h1 h2:=by rw [Qsy] at *;exact PX.lt_trans h1 h2
 ntrans x y z h1 h2:=by rw [Qjc] at *;unfold PX.lt at *;omega
theorem Qlt {w:World} {g cap base:Nat} {L:List PX} (h:w.ownsRow base 42 2 (.slice (some ⟨g,0,none⟩) L.length cap) L.length (cellsG PX.cs L)):HoldsK (encX L) 2 w g 0 (List.range L.length).toArray:=by
 intro j hj
 rw [size_flatK] at hj
 have hj':j<L.length*2:=by simpa using hj
 have hi:j/2<L.length:=by omega
 have hm:j%2<2:=by omega
 rcases h.2 with⟨h1,-⟩|⟨g',cap',cur,hv,-,hb,-,-,hs,ht⟩
 ·cases h1
 ·injection hv with hv1 hv2 hv3
  injection hv1 with hv1
  injection hv1 with hv1
  subst hv1
  subst hv3
  rw [get_flatK _ _ _ _ hj,Nat.zero_add]
  have e1:((List.range L.length).toArray)[j/2]! = j/2:=by
   rw [getElem!_pos _ _ (by simpa using hi)]
   simp
  have e2:ofX L (j/2)=L[j/2]:=by unfold ofX;simp [hi]
  refine⟨?_,frozen_of_row w g j cur 42 hb⟩
  rw [cell_of_row w g j cur 42 _ hb,e1]
  have e3:cur[j]?=(cellsG PX.cs L)[j]?:=by
   rw [←ht,List.getElem?_take,if_pos hj']
   simp
  have e4:(cellsG PX.cs L)[j]?=(L[j/2]).cs[j%2]?:=by
   have:=Qa0 PX.len L (j/2) (j%2) hm
   rwa [show j/2*2+j%2=j from by omega,List.getElem?_eq_getElem hi] at this
  have hcl:j%2<(L[j/2]).cs.length:=by simp [PX.cs];omega
  rw [e3,e4]
  show _=some ((encX L (j/2))[j%2]!)
  unfold encX
  rw [e2,List.getElem?_eq_getElem hcl,getElem!_pos (L[j/2]).cs (j%2) hcl]
theorem Qir {w:World} {g cap:Nat} {L:List PX} {d:Array Nat} (h:HoldsK (encX L) 2 w g 0 d) (h1:d.size≤cap) (h2:cap≤maxLen):ValsAt w 2 (.slice (some ⟨g,0,none⟩) d.size cap) d.size (cellsG PX.cs (d.toList.map (ofX L))):=by
 refine⟨by rw [Qai PX.len];simp,Or.inr ⟨_,_,rfl,h1,h2,fun j u hj=>?_⟩⟩
 have hjl:=(List.getElem?_eq_some_iff.1 hj).1
 rw [Qai PX.len,List.length_map,Array.length_toList] at hjl
 have hi:j/2<d.size:=by omega
 have hm:j%2<2:=by omega
 rw [Qae]
 have hh:=(h j (by rw [size_flatK];exact hjl)).1
 rw [get_flatK _ _ _ _ hjl] at hh
 rw [hh]
 have e4:=Qa0 PX.len (d.toList.map (ofX L)) (j/2) (j%2) hm
 rw [show (d.toList.map (ofX L))[j/2]?=some (ofX L d[j/2]) from by simp [hi]] at e4
 rw [show j/2*2+j%2=j from by omega,hj] at e4
 change some u=(ofX L d[j/2]).cs[j%2]? at e4
 have hcl:j%2<(ofX L d[j/2]).cs.length:=by simp [PX.cs];omega
 rw [getElem!_pos d _ hi]
 show some ((encX L d[j/2])[j%2]!)=_
 unfold encX
 rw [e4,List.getElem?_eq_getElem hcl,getElem!_pos (ofX L d[j/2]).cs (j%2) hcl]
theorem Qln (L:List PX) (w:World) (m blk off:Nat) (d:Array Nat):Touch (fun k=>k=blk) w (putRowK (encX L) 2 (Sort.ahead w m) blk off d):=by
 unfold putRowK putRow mapBlock
 exact⟨rfl,rfl,rfl,by simp [Sort.ahead],fun k hk hn=>by simp [Sort.ahead,Array.getElem?_modify,Ne.symm hn]⟩
theorem Qof (w w':World) (g c:Nat) (L:List PX) (X:PxV w w' (.slice (some ⟨g,0,none⟩) L.length c) L) (hc:c≤maxLen) (hlc:L.length≤c) (hn:L.length≤1000000) :
  Calls Tryz.prog 113 #[.slice (some ⟨g,0,none⟩) L.length c,.func (.func 67) #[] #[]] w' fun e w''=>e=.returned (.tuple #[])∧∃S,S.Perm L∧S.Pairwise PX.le∧XV2 w'' (.slice (some ⟨g,0,none⟩) L.length c) S∧Touch (fun _=>False) w w'':=by
 have eg:∀args w,(callFunc 67 args).run Tryz.prog w=.ok (.enter 67 args) w:=enters_of Tryz.func67 (by kernel_rfl) rfl
 have hH:=Qlt X.own
 have hgl:g<w'.heap.size:=(X.own.lt g rfl).2
 have hgw:w.heap.size≤g:=(X.own.lt g rfl).1
 have hone:∀i,∀v∈encX L i,v.oneCell'=true:=by
  intro i v hv
  simp [encX,PX.cs] at hv
  rcases hv with rfl|rfl <;> rfl
 have hsz:(List.range L.length).toArray.size=L.length:=by simp
 have hcon:=AnyQ.slices_SortFunc sortPd 2 Tryz.isAgg42 Tryz.sizeOf42 (encX L) (fun _=>rfl) hone (cfX L) (Qts L) 67 #[] g 0 c (List.range L.length).toArray w' eg (fun _ _ _ _ x y=>Qpk (ofX L x) (ofX L y) _) hH hgl (by rw [hsz];omega)
 rw [hsz] at hcon
 refine Calls.mono hcon ?_
 rintro e w'' ⟨rfl,d',n,os,hpp,hs,rfl⟩
 obtain⟨hp1,-,hp3⟩:=hpp
 have e2:d'.size=L.length:=by rw [hp1];simp
 have p:d'.toList.Perm (List.range L.length):=by
  have h5:d'.extract 0 L.length=d':=by rw [←e2];simp
  rw [h5] at hp3
  have h4:d'.toList.Perm (List.take L.length (List.range L.length)):=by simpa using hp3
  rwa [List.take_of_length_le (by simp)] at h4
 have hmap:(List.range L.length).map (ofX L)=L:=by
  apply List.ext_getElem?
  intro i
  rw [List.getElem?_map]
  rcases Nat.lt_or_ge i L.length with h|h
  ·simp [h,ofX]
  ·rw [List.getElem?_eq_none (by simpa using h),List.getElem?_eq_none h];rfl
 have q:(d'.toList.map (ofX L)).Perm L:=by
  have:=p.map (ofX L)
  rwa [hmap] at this
 have T2:Touch (fun k=>k=g) w' (sortWorldK (encX L) 2 w' g 0 n d' os):=(Qln L w' n g 0 d').trans ((Qc8 _ os).mono (fun _ _ h=>h.elim))
 refine⟨rfl,d'.toList.map (ofX L),q,?_,?_,?_⟩
 ·rw [List.pairwise_map,List.pairwise_iff_getElem]
  intro i j hi hj hij
  have hj':j<d'.size:=by simpa using hj
  have hi':i<d'.size:=by simpa using hi
  have:=(Qjc L _ _).1 (hs i j (Nat.zero_le _) hij (by omega))
  rw [getElem!_pos d' j hj',getElem!_pos d' i hi'] at this
  show ¬PX.lt _ _
  simpa using this
 ·have h1:=holdsK_putRowK (encX L) 2 (Sort.ahead w' n) g 0 (List.range L.length).toArray d' hH (by rw [e2];simp)
  have h2:=holdsK_grow (encX L) 2 _ os g 0 d' (by unfold putRowK putRow mapBlock;simpa [Sort.ahead] using hgl) h1
  have h3:=Qir (cap:=c) h2 (by omega) hc
  rw [e2] at h3
  have hl3:(d'.toList.map (ofX L)).length=L.length:=by simp [e2]
  show ValsAt _ 2 _ (d'.toList.map (ofX L)).length _
  rw [hl3]
  exact h3
 ·exact X.t.trans' T2 (fun i hi e=>by omega)
theorem Qo1 (w w1:World) (p:Value) (L:List PX) (X:PxV w w1 p L) (hn:L.length≤1000000) :
  Calls Tryz.prog 113 #[p,.func (.func 67) #[] #[]] w1 fun e w2=>e=.returned (.tuple #[])∧∃S,S.Perm L∧S.Pairwise PX.le∧XV2 w2 p S∧Touch (fun _=>False) w w2:=by
 rcases X.own.2 with⟨rfl,h0⟩|⟨g,cap,cur,rfl,hb,hh,h1,h2,h3,h4⟩
 ·have e:L=[]:=List.length_eq_zero_iff.1 h0
  subst e
  refine Calls.mono (AnyF.slices_SortFunc_none sortPd none 0 (.func (.func 67) #[] #[]) w1) ?_
  rintro e w2 ⟨rfl,rfl⟩
  exact⟨rfl,[],List.Perm.refl _,List.Pairwise.nil,⟨rfl,Or.inl ⟨rfl,rfl⟩⟩,X.t⟩
 ·refine Calls.mono (Qof w w1 g cap L X h2 h1 hn) ?_
  rintro e w2 ⟨rfl,S,hp,hs,hv,t⟩
  exact⟨rfl,S,hp,hs,hv,t⟩
theorem Qlw (w:World) (b m:Nat) (es:Array MapEntry) (c:Nat) (hb:w.cell? ⟨b,0,none⟩=some (.map (some m))) (hm:w.heap[m]?=some (.map es c)) (nd:(es.toList.map (·.born)).Nodup) (hc:∀e∈es.toList,e.born<c) (hk:∀e∈es.toList,e.key=(keyP e).v) (hl:es.size≤1000000) :
  Calls Tryz.prog 65 #[.func (.func 114) #[] #[.pointer (some ⟨b,0,none⟩)],.func (.func 67) #[] #[]] w fun e w'=>∃v S,e=.returned v∧S.Perm (es.toList.map keyP)∧S.Pairwise PX.le∧XV2 w' v S∧Touch (fun _=>False) w w':=by
 have HA:=Qls w b m es c hb hm nd hc hk hl
 have HC:Calls Tryz.prog 112 #[.func (.func 114) #[] #[.pointer (some ⟨b,0,none⟩)]] w fun e w'=>∃v xs,e=.returned v∧xs.Perm (es.toList.map keyP)∧PxB w.heap.size w' v xs∧Touch (fun _=>False) w w':=by
  clear hb hm nd hc hk hl
  go_enter Tryz.func112,Tryz.ntmps112
  go_wp2_with (first|refine HA.mono ?_;rintro e w1 ⟨v,xs,rfl,h1,h2,h3⟩)
  go_ret
  exact⟨v,xs,rfl,h1,h2,h3⟩
 clear HA hb hm nd hc hk
 have HL:Hid (es.size≤1000000):=hl
 clear hl
 go_enter Tryz.func65,Tryz.ntmps65
 go_wp2_with (first
  | (go_at_call 112;refine HC.mono ?_;rintro e w1 ⟨v,xs,rfl,h1,h2,h3⟩;have HB:Hid (PxV w w1 v xs):=⟨h2,h3⟩;have HP:Hid (xs.Perm (es.toList.map keyP)):=h1;clear h1 h2 h3)
  | (go_at_call 113;refine (Qo1 w w1 v xs HB.out (by rw [HP.out.length_eq];simpa using HL.out)).mono ?_;rintro e w2 ⟨rfl,S,p1,p2,p3,p4⟩))
 go_ret
 exact⟨v,S,rfl,p1.trans HP.out,p2,p3,p4⟩
open Go.RowKit
def flatH (hs:List HL):List HK:=hs.flatMap Prod.snd
theorem Qlz (hs:List HL) (h:HL):flatH (hs++[h])=flatH hs++h.2:=by simp [flatH]
theorem Qfo {hs:List HL} {k:Nat} {h:HL} (hk:hs[k]?=some h):flatH (hs.take (k+1))=flatH (hs.take k)++h.2:=by
 rw [List.take_add_one,hk]
 exact Qlz _ _
theorem Qjy (hs:List HL) (k:Nat):(flatH (hs.take k)).length≤(flatH hs).length:=by
 have:flatH hs=flatH (hs.take k)++flatH (hs.drop k):=by
  unfold flatH
  rw [←List.flatMap_append,List.take_append_drop]
 rw [this,List.length_append]
 omega
theorem Qa5 {n k:Nat} {z:Int} (h:k<n) (hz:z=(k:Int)+1):n-(intOf (.int .i64 z)).toNat<n-(intOf (.int .i64 (k:Int))).toNat:=by
 subst hz
 simp [intOf]
 omega
def CnA (hs:List HL) (s i:Value):Prop:=∃k:Nat,k≤hs.length∧i=.int .i64 (k:Int)∧s=.int .i64 ((flatH (hs.take k)).length:Int)
def CnB (w0:World) (hs:List HL) (p i:Value) (wr:World):Prop:=∃k:Nat,k≤hs.length∧i=.int .i64 (k:Int)∧HpB w0 wr p (flatH (hs.take k))
theorem Qn0 (w:World) (v:Value) (hs:List HL) (V:ValsAt w 1 v hs.length (hs.map Prod.fst)) (hh:∀h∈hs,HV3 w h.1 h.2) (hn:hs.length≤1000000) (hl:(flatH hs).length≤100000000000) :
  Calls Tryz.prog 46 #[v] w fun e w'=>∃v',e=.returned v'∧HpB w w' v' (flatH hs):=by
 have HH:Hid (∀h∈hs,HV3 w h.1 h.2):=hh
 have HL:Hid (hs.length≤1000000∧(flatH hs).length≤100000000000):=⟨hn,hl⟩
 by_cases h0:hs.length=0
 ·as_aux_lemma =>
  obtain⟨a,c,rfl,-⟩:=V.form
  obtain⟨n,hnn⟩:∃n,n=hs.length:=⟨_,rfl⟩
  have HN0:Hid (n=0):=hnn.trans h0
  have HN:Hid (n=hs.length):=hnn
  rw [←hnn]
  clear V hh hn hl h0 hnn
  go_enter Tryz.func46,Tryz.ntmps46
  go_wp2_with fail
  go_loop [3,11] (fun s i=>CnA hs s i) (fun _ i=>n-(intOf i).toNat)
  case atStart=>exact⟨0,by omega,rfl,by simp [flatH]⟩
  case round =>
   as_aux_lemma =>
   obtain⟨k,hk,rfl,rfl⟩:=hrel
   have hkn:k≤n:=by have:=HN.out;omega
   clear hk
   by_cases hlt:k<n
   ·exact absurd hlt (by have:=HN0.out;omega)
   ·have hlt':¬(k:Int)<(n:Int):=by omega
    have hk2:k=hs.length:=by have:=HN.out;omega
    have hft:flatH (hs.take k)=flatH hs:=by rw [hk2,List.take_length]
    rw [hft]
    have HG:=Qgs (flatH hs).length w (by have:=HL.out.2;omega)
    clear hft hk2
    generalize hFL:(flatH hs).length=FL at *
    have HFL:Hid ((flatH hs).length=FL):=hFL
    go_wp2_with (first|refine HG.mono ?_;rintro e w1 ⟨p,rfl,hb⟩)
    have HB0:Hid (CnB w hs p (.int .i64 ((0:Nat):Int)) w1):=⟨0,by omega,rfl,by simpa [flatH] using hb⟩
    clear hb HG hFL
    go_wp2_with fail
    go_loopw [6,27] (fun p i wr=>CnB w hs p i wr) (fun _ i _=>n-(intOf i).toNat)
    case atStart=>exact HB0.out
    case round =>
     as_aux_lemma =>
     clear HB0 hlt' hlt hkn
     obtain⟨k,hk,rfl,hb⟩:=hrel
     have hkn:k≤n:=by have:=HN.out;omega
     clear hk
     by_cases hlt:k<n
     ·exact absurd hlt (by have:=HN0.out;omega)
     ·have hlt':¬(k:Int)<(n:Int):=by omega
      have hk2:k=hs.length:=by have:=HN.out;omega
      have hft:flatH (hs.take k)=flatH hs:=by rw [hk2,List.take_length]
      rw [hft] at hb
      go_wp2_with fail
      go_ret
      exact⟨_,rfl,hb⟩
 ·as_aux_lemma =>
  obtain⟨g,off,c,rfl,hc1,hc2,hcc⟩:=V.cells (by omega) (by omega)
  have HC:Hid (∀w',Touch (fun _=>False) w w'→∀k h,hs[k]?=some h→w'.cell? ⟨g,off+k,none⟩=some h.1):=fun w' t k h hk=>t.cellN (hcc k h.1 (by rw [List.getElem?_map,hk];rfl))
  obtain⟨n,hnn⟩:∃n,n=hs.length:=⟨_,rfl⟩
  have HN:Hid (n=hs.length):=hnn
  rw [←hnn] at hc1 ⊢
  clear V hh hn hl h0 hcc hnn
  go_enter Tryz.func46,Tryz.ntmps46
  go_wp2_with fail
  go_loop [3,11] (fun s i=>CnA hs s i) (fun _ i=>n-(intOf i).toNat)
  case atStart=>exact⟨0,by omega,rfl,by simp [flatH]⟩
  case round =>
   as_aux_lemma =>
   obtain⟨k,hk,rfl,rfl⟩:=hrel
   have hkn:k≤n:=by have:=HN.out;omega
   clear hk
   by_cases hlt:k<n
   ·obtain⟨⟨hv,hl⟩,hx⟩:∃x,hs[k]?=some x:=⟨hs[k]'(by have:=HN.out;omega),by simp⟩
    obtain⟨xa,xc,exx,-⟩:=(HH.out _ (List.mem_of_getElem? hx)).form
    have exx':hv=.slice xa hl.length xc:=exx
    clear exx
    subst exx'
    have hcell:=HC.out w (Touch.refl _ _) k _ hx
    have hlt':(k:Int)<(n:Int):=by omega
    have hk00:(0:Int)≤(k:Int):=by omega
    have hkw:wrap64 ((k:Int)+1)=(k:Int)+1:=by have:=HL.out.1;have:=HN.out;unfold wrap64;omega
    have hft:flatH (hs.take (k+1))=flatH (hs.take k)++hl:=Qfo hx
    have hfl:=Qjy hs (k+1)
    rw [hft,List.length_append] at hfl
    have HFT:Hid (((flatH (hs.take (k+1))).length:Int)=((flatH (hs.take k)).length:Int)+(hl.length:Int)):=by show _=_;rw [hft,List.length_append];exact Int.natCast_add _ _
    have hfl':((flatH (hs.take k)).length:Int)+(hl.length:Int)≤100000000000:=by have:=HL.out.2;omega
    have hsw:wrap64 (((flatH (hs.take k)).length:Int)+(hl.length:Int))=((flatH (hs.take k)).length:Int)+(hl.length:Int):=by unfold wrap64;omega
    have hs0:¬(((flatH (hs.take k)).length:Int)+(hl.length:Int)<0):=by omega
    clear hft hfl hx hfl'
    generalize ((flatH (hs.take k)).length:Int)=A at *
    generalize hB:(hl.length:Nat)=B at *
    clear hB
    go_wp2_with fail
    go_round
    case rel=>exact⟨k+1,by have:=HN.out;omega,by go_num,by rw [HFT.out,hsw]⟩
    case measure=>exact Qa5 hlt hkw
   ·have hlt':¬(k:Int)<(n:Int):=by omega
    have hk2:k=hs.length:=by have:=HN.out;omega
    have hft:flatH (hs.take k)=flatH hs:=by rw [hk2,List.take_length]
    rw [hft]
    have HG:=Qgs (flatH hs).length w (by have:=HL.out.2;omega)
    clear hft hk2
    generalize hFL:(flatH hs).length=FL at *
    have HFL:Hid ((flatH hs).length=FL):=hFL
    go_wp2_with (first|refine HG.mono ?_;rintro e w1 ⟨p,rfl,hb⟩)
    have HB0:Hid (CnB w hs p (.int .i64 ((0:Nat):Int)) w1):=⟨0,by omega,rfl,by simpa [flatH] using hb⟩
    clear hb HG hFL
    go_wp2_with fail
    go_loopw [6,27] (fun p i wr=>CnB w hs p i wr) (fun _ i _=>n-(intOf i).toNat)
    case atStart=>exact HB0.out
    case round =>
     as_aux_lemma =>
     clear HB0 hlt' hlt hkn
     obtain⟨k,hk,rfl,hb⟩:=hrel
     have hkn:k≤n:=by have:=HN.out;omega
     clear hk
     by_cases hlt:k<n
     ·obtain⟨⟨hv,hl⟩,hx⟩:∃x,hs[k]?=some x:=⟨hs[k]'(by have:=HN.out;omega),by simp⟩
      have HV:=HH.out _ (List.mem_of_getElem? hx)
      obtain⟨xa,xc,exx,-⟩:=HV.form
      have exx':hv=.slice xa hl.length xc:=exx
      clear exx
      subst exx'
      have HT:=hb.t
      have hcell:=HC.out wr HT k _ hx
      have hlt':(k:Int)<(n:Int):=by omega
      have hk00:(0:Int)≤(k:Int):=by omega
      have hkw:wrap64 ((k:Int)+1)=(k:Int)+1:=by have:=HL.out.1;have:=HN.out;unfold wrap64;omega
      have hft:flatH (hs.take (k+1))=flatH (hs.take k)++hl:=Qfo hx
      have hfl:=Qjy hs (k+1)
      rw [hft,List.length_append] at hfl
      have HFT:Hid (flatH (hs.take (k+1))=flatH (hs.take k)++hl):=hft
      have HLL:Hid ((flatH (hs.take k)).length+hl.length≤100000000000):=by show _≤_;have:=HFL.out;have:=HL.out.2;omega
      have HVK:Hid (HV3 wr (.slice xa hl.length xc) hl):=HV.keep HT
      have HBB:Hid (HpB w wr _ (flatH (hs.take k))):=hb
      clear hft hfl hx HV hb
      generalize hF:flatH (hs.take k)=F at *
      clear hF
      generalize hB:hl.length=B at *
      have HB0:Hid (B=hl.length):=hB.symm
      clear hB HT
      go_wp2_with (at_builtin;refine Qbp rfl (.tmp 31) (.tmp 32) 43 rfl 48 3 12 _ Tryz.underlying43 infoHop rfl (by omega) (by omega) w _ F.length (cellsG HK.cs F) rfl HBB.out _ B (cellsG HK.cs hl) rfl (by have:=HVK.out;unfold HV3 at this;rw [←HB0.out] at this;exact this) (oneCellH _) (by have:=HLL.out;omega) ?_;intro v' w' hb';replace hb':=HpB.more (l:=F) (l':=hl) (by rw [HB0.out]) hb')
      go_roundw
      case rel=>exact⟨k+1,by have:=HN.out;omega,by go_num,by rw [HFT.out];exact hb'⟩
      case measure=>exact Qa5 hlt hkw
     ·have hlt':¬(k:Int)<(n:Int):=by omega
      have hk2:k=hs.length:=by have:=HN.out;omega
      have hft:flatH (hs.take k)=flatH hs:=by rw [hk2,List.take_length]
      rw [hft] at hb
      go_wp2_with fail
      go_ret
      exact⟨_,rfl,hb⟩
end Go.Proofs.YtddbffoiadmffaaGreat
