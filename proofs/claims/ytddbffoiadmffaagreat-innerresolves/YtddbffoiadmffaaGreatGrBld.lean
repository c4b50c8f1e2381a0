import Derived.Test.YtddbffoiadmffaaGreatGrBld0
namespace Go.Proofs.YtddbffoiadmffaaGreat
set_option maxHeartbeats 8000000
open Go.RowKit
set_option linter.unusedVariables false
set_option maxRecDepth 100000
theorem SaidsAt.one {w:World} {v:Value} {L:List SD} (h:SaidsAt w v L) {j:Nat} {x:SD} (hj:L[j]?=some x):x.Ok w∧∃g off c,v=.slice (some ⟨g,off,none⟩) L.length c∧∀i u,x.cells[i]?=some u→w.cell? ⟨g,off+(j*17+i),none⟩=some u:=by
 have hlt:=(List.getElem?_eq_some_iff.mp hj).1
 obtain⟨g,off,c,e,_,_,hc⟩:=h.vals.cells (by omega) (by omega)
 refine⟨h.ok x (List.mem_of_getElem? hj),g,off,c,e,fun i u hu=>hc _ _ ?_⟩
 have hi:i<17:=(List.getElem?_eq_some_iff.mp hu).1
 rw [Qgw L j i x hj hi]
 exact hu
theorem SD.Ok.forms {w:World} {x:SD} (h:x.Ok w):∃a1 q1 a3 q3 a8 q8,x.vl=.slice a1 x.b.links.length q1∧x.vr=.slice a3 x.b.routers.length q3∧x.vd=.slice a8 x.b.data.length q8:=by
 obtain⟨a1,q1,e1,-⟩:=ValsAt.form h.arg.l
 obtain⟨a3,q3,e3,-⟩:=ValsAt.form h.arg.r
 obtain⟨a8,q8,e8,-⟩:=h.arg.d.form
 exact⟨a1,q1,a3,q3,a8,q8,e1,e3,e8⟩
theorem Qr5 {P:List SV} {k:Nat} {x:SV} (h:P[k]?=some x):atL (P.take (k+1))=atL (P.take k)++[(plV x.pl,.int .i64 (k:Int))]:=by
 have hk:=(List.getElem?_eq_some_iff.1 h).1
 unfold atL
 rw [List.take_add_one,h,List.mapIdx_append]
 simp [Nat.min_eq_left (Nat.le_of_lt hk)]
theorem Qvw {w:World} {m k:Nat} {P:List SV} {x:SV} (h:AM w 127 m (atL (P.take k))) (nd:(P.map SV.pl).Nodup) (hx:P[k]?=some x) (hr:0≤x.pl.2∧x.pl.2<4294967296) :
  ∃w',(Instr.mapUpdate 123 (.map (some m)) (plV x.pl) (.int .i64 (k:Int))).run Tryz.prog w=.ok () w'∧AM w' 127 m (atL (P.take (k+1)))∧Touch (fun k=>k=m) w w':=by
 obtain⟨q,hq⟩:=Qft x.pl hr.1 hr.2
 rw [Qr5 hx]
 refine AM.putNew kindA h _ hq (fun p hp e=>?_)
 obtain⟨j,hj⟩:=List.mem_iff_getElem?.1 hp
 unfold atL at hj
 rw [List.getElem?_mapIdx] at hj
 cases hy:(P.take k)[j]? with
 | none=>rw [hy] at hj;cases hj
 | some y =>
  rw [hy] at hj
  simp at hj
  rw [←hj] at e
  have hjk:j<k:=by have:=(List.getElem?_eq_some_iff.1 hy).1;simp at this;omega
  have hy':P[j]?=some y:=by rw [List.getElem?_take,if_pos hjk] at hy;exact hy
  have a1:(P.map SV.pl)[j]?=some x.pl:=by rw [List.getElem?_map,hy'];simp [Qe3 e]
  have a2:(P.map SV.pl)[k]?=some x.pl:=by rw [List.getElem?_map,hx];rfl
  have:=(List.getElem?_inj (List.getElem?_eq_some_iff.1 a1).1 nd).1 (a1.trans a2.symm)
  omega
structure GrP (w:World) (P:List SV) (v:Value) (w':World):Prop where
 out:∃D:List ND,ValsAt w' 7 v D.length (nodeC D)∧D.map ND.n=grB P∧(∀d∈D,d.Ok 0 w')
 t:Touch (fun _=>False) w w'
 z:∃g n,v=.slice (some ⟨g,0,none⟩) n n
structure CR2 (wr:World) (gc mt:Nat) (P:List SV) (k:Nat) (vs:List Value):Prop where
 row:Row wr gc 131 vs
 len:vs.length=P.length
 own:∀i x v,i<k→P[i]?=some x→vs[i]?=some v→wr.ownsRow (mt+1) 136 5 v (clms P x).length (claimC (clms P x))
theorem Qmu {w:World} {base e k n g:Nat} {xs:List Value} (h:w.ownsRow base e k (.slice (some ⟨g,0,none⟩) n n) n xs):Row w g e xs:=by
 rcases h.2 with⟨h1,-⟩|⟨g',cap,cur,hv,-,hb,-,-,hs,ht⟩
 ·cases h1
 ·injection hv with hv1 hv2 hv3
  injection hv1 with hv1
  injection hv1 with hv1
  subst hv1
  subst hv3
  unfold Row
  rw [hb,←ht]
  have:cur.toList.take (n*k)=cur.toList:=List.take_of_length_le (by simp [hs])
  rw [this]
theorem Qho {P:List SV} {x:SV} (hr:x.b.Rg) {c:CV} (h:c∈clms P x):0≤c.kind∧c.kind<256:=by
 unfold clms at h
 rcases List.mem_append.1 h with h|h
 ·obtain⟨k,hk,h⟩:=List.mem_flatMap.1 h
  have ok:=hr.l k hk
  unfold clmL at h
  split at h
  ·obtain⟨_,_,_,_,e,_⟩:=Qd7 h
   rw [e]
   exact ok.t
  ·split at h
   ·obtain⟨_,_,_,_,e,_⟩:=Qd7 h
    rw [e]
    exact ok.t
   ·simp at h
 ·obtain⟨r,hr',h⟩:=List.mem_flatMap.1 h
  obtain⟨_,_,_,_,e,_⟩:=Qd7 h
  rw [e]
  simp [rtr]
theorem Qju {P:List SV} {x:SV} {c:CV} (h:c∈clms P x):c.e.dst<P.length:=by
 obtain⟨y,h1,-⟩:=(Qqt h).out
 exact (List.getElem?_eq_some_iff.1 h1).1
structure B2 (w1 wr:World) (ma gc mt:Nat) (P:List SV) (k:Nat) (C:List CV) (vs:List Value):Prop where
 t:Touch (fun _=>False) w1 wr
 am:AM wr 127 ma (atL P)
 cr:CR2 wr gc mt P k vs
structure B4 (w1 wr:World) (gc mt gn:Nat) (P:List SV) (vs:List Value):Prop where
 t:Touch (fun _=>False) w1 wr
 cr:CR2 wr gc mt P P.length vs
 ts:TS wr mt (tiesK P P.length [])
 up:∀(i:Nat) (v:Value) (k:Nat),i<P.length→vs[i]?=some v→v.ownBlock=some k→k<gn
 lt:gc<gn∧mt<gn∧w1.heap.size≤gn
structure B5 (w1 wr:World) (gc mt gn:Nat) (P:List SV) (vs:List Value) (D R:List ND):Prop where
 b:B4 w1 wr gc mt gn P vs
 row:Row wr gn 73 (nodeC (D++R))
 ok:∀d∈D,d.Ok (gn+1) wr
theorem CR2.touch {F:Nat→Prop} {w w':World} {gc mt k:Nat} {P:List SV} {vs:List Value} (h:CR2 w gc mt P k vs) (t:Touch F w w') (h1:¬F gc) (h2:∀k,mt+1≤k→¬F k):CR2 w' gc mt P k vs :=
 ⟨Qad h.row t h1,h.len,fun i x v hi hx hv=>Qab (h.own i x v hi hx hv) t (fun k hk=>h2 k ((h.own i x v hi hx hv).lt k hk).1)⟩
theorem CR2.keep {w w':World} {gc mt k:Nat} {P:List SV} {vs:List Value} (h:CR2 w gc mt P k vs) (t:Touch (fun _=>False) w w'):CR2 w' gc mt P k vs:=h.touch t (fun h=>h) (fun _ _ h=>h)
theorem B4.touch {F:Nat→Prop} {w1 wr w':World} {gc mt gn:Nat} {P:List SV} {vs:List Value} (h:B4 w1 wr gc mt gn P vs) (t:Touch F wr w') (hF:∀k,F k→gn≤k):B4 w1 w' gc mt gn P vs:=by
 have hl:=h.lt
 have hn:∀k,k<gn→¬F k:=fun k hk e=>by have:=hF k e;omega
 refine⟨h.t.trans' t (fun i hi e=>hn i (by omega) e),⟨Qad h.cr.row t (hn _ hl.1),h.cr.len,fun i x v hi hx hv=>Qab (h.cr.own i x v hi hx hv) t (fun k hk=>hn k (h.up i v k hi hv hk))⟩,h.ts.keep t (hn _ hl.2.1),h.up,hl⟩
theorem B5.keep {w1 wr w':World} {gc mt gn:Nat} {P:List SV} {vs:List Value} {D R:List ND} (h:B5 w1 wr gc mt gn P vs D R) (t:Touch (fun _=>False) wr w'):B5 w1 w' gc mt gn P vs D R :=
 ⟨h.b.touch t (fun _ h=>h.elim),h.row.keep t,fun d hd=>(h.ok d hd).touch t (fun _ _ h=>h)⟩
def OwE (w:World) (base:Nat) (v:Value) (l:List EV):Prop:=w.ownsRow base 134 4 v l.length (edgeC l)
def OwS (w:World) (base:Nat) (v:Value) (l:List TV):Prop:=w.ownsRow base 157 3 v l.length (stubC l)
def curN (P:List SV) (j:Nat) (x:SV) (C:List CV) (q:Nat) (ve vs:Value):ND:=⟨{ nodeV x with edges:=((C.take q).filter (backB P j)).map (·.e) },ve,vs⟩
theorem Quv {P:List SV} {j q:Nat} {x:SV} {C:List CV} {c:CV} {ve vs:Value} (hc:C[q]?=some c) (hb:backB P j c=false):curN P j x C (q+1) ve vs=curN P j x C q ve vs:=by
 unfold curN
 rw [List.take_add_one,hc,List.filter_append]
 simp [hb]
theorem Qrx {P:List SV} {j q:Nat} {C:List CV} {c:CV} (hc:C[q]?=some c) (hb:backB P j c=true):((C.take (q+1)).filter (backB P j)).map (·.e)=((C.take q).filter (backB P j)).map (·.e)++[c.e]:=by
 rw [List.take_add_one,hc,List.filter_append]
 simp [hb]
theorem Qpw {w:World} {g n T:Nat} {xs:List Value} (h:Row w g T xs) (hl:xs.length=n*7) (hn:n≤1000000):ValsAt w 7 (.slice (some ⟨g,0,none⟩) n n) n xs :=
 ⟨hl,Or.inr ⟨_,_,rfl,Nat.le_refl _,by unfold maxLen;omega,fun j u hj=>by rw [Qae,Nat.zero_add,h.cell j];exact hj⟩⟩
theorem Qp5 {P:List SV} {j:Nat} {x:SV} (h:P[j]?=some x):(grB P).take (j+1)=(grB P).take j++[nodeE P j x]:=by
 rw [List.take_add_one]
 unfold grB
 rw [List.getElem?_mapIdx,h]
 rfl
theorem Ql6 (v:Value) (l:List SE) (w:World) (hv:StatesAt w v l) (hl:l.length≤1000000) (hb:∀x∈l,x.rs.length≤1000000∧RdOk x.h.typ) :
  Calls Tryz.prog 26 #[v] w fun e w'=>∃P u,e=.returned u∧IsN l P∧GrP w P u w':=by
 have HC:=Qhu v l w hv hl hb
 have HLn:Hid (∀P,IsN l P→P.length≤1000000):=fun P h=>by
  have h1:=h.perm.length_eq
  rw [List.length_map] at h1
  have:=Qe8 l
  omega
 have hmm:=@run_makeMap Tryz.prog
 clear hv hl hb
 go_enter Tryz.func26,Tryz.ntmps26
 go_wp2_with fail
 refine HC.mono ?_
 rintro e w1 ⟨u,rfl,P,hN,hS⟩
 obtain⟨⟨L,hL,hLP⟩,tw⟩:=hS
 have hPn:=HLn.out P hN
 have hlen:L.length=P.length:=by rw [←hLP];simp
 have hnP:(L.length:Int)≤1000000:=by omega
 have HND:Hid ((P.map SV.pl).Nodup):=hN.nodup
 obtain⟨ua,uc,rfl,-⟩:=ValsAt.form hL.vals
 have HL:Hid (SaidsAt w1 (.slice ua L.length uc) L):=hL
 have HN:Hid (IsN l P∧L.map SD.sv=P∧L.length=P.length):=⟨hN,hLP,hlen⟩
 have HTW:Hid (Touch (fun _=>False) w w1):=tw
 have HPx:Hid (∀(j:Nat) (x:SD),L[j]?=some x→P[j]?=some x.sv):=fun j x h=>by rw [←hLP,List.getElem?_map,h];rfl
 have A0:Hid (Touch (fun _=>False) w1 (w1.alloc (.map #[] 0))∧AM (w1.alloc (.map #[] 0)) 127 w1.heap.size (atL (P.take 0))):=⟨(Touch.refl _ _).alloc _,AM.made w1 _ 0⟩
 clear hL hLP hN tw HC HLn hPn hlen
 go_upto_region 3 with fail
 generalize hw2:w1.alloc (.map #[] 0)=w2 at *
 generalize hma:w1.heap.size=ma at *
 have HMA:Hid (w1.heap.size=ma):=hma
 clear hw2 hma
 go_wp2_with fail
 go_loopw [25] (fun i wr=>∃k:Nat,k≤L.length∧i=.int .i64 k∧Touch (fun _=>False) w1 wr∧AM wr 127 ma (atL (P.take k))) (fun i _=>L.length-(intOf i).toNat)
 case atStart=>exact⟨0,Nat.zero_le _,rfl,A0.out.1,A0.out.2⟩
 case round =>
  obtain⟨j,hk,rfl,t,am⟩:=hrel
  have HT:Hid (Touch (fun _=>False) w1 wr):=t
  have HAM:Hid (AM wr 127 ma (atL (P.take j))):=am
  clear A0 t am
  by_cases hlt:j<L.length
  ·have hlt':(j:Int)<(L.length:Int):=by omega
   obtain⟨x,hx⟩:∃x,L[j]?=some x:=⟨L[j],by simp [hlt]⟩
   obtain⟨ok,g,off,c,eg,hc⟩:=(HL.out.keep HT.out).one hx
   simp only [Value.slice.injEq] at eg
   obtain⟨rfl,-,rfl⟩:=eg
   obtain⟨a1,q1,a3,q3,a8,q8,e1,e3,e8⟩:=ok.forms
   have HRX:wr.rangeAt g (off+j*17) [.int .u16 x.h.age,.int .u8 x.h.opts,.int .u8 x.h.typ,.int .u32 x.h.id,.int .u32 x.h.adv,.int .i32 x.h.seq,.int .u16 x.h.sum,.int .u16 x.h.len,.int .u8 x.b.flags,.slice a1 x.b.links.length q1,.int .u32 x.b.mask,.slice a3 x.b.routers.length q3,.int .u32 x.b.metric,.bool x.b.type2,.int .u32 x.b.fwd,.int .u32 x.b.tag,.slice a8 x.b.data.length q8]:=fun i v hi=>by
    have:=hc i v (by unfold SD.cells;rw [e1,e3,e8];exact hi)
    rw [Nat.add_assoc]
    exact this
   have RZ:Row (wr.alloc (.cells #[.int .u16 0,.int .u8 0,.int .u8 0,.int .u32 0,.int .u32 0,.int .i32 0,.int .u16 0,.int .u16 0,.int .u8 0,.slice none 0 0,.int .u32 0,.slice none 0 0,.int .u32 0,.bool false,.int .u32 0,.int .u32 0,.slice none 0 0] 125)) wr.heap.size 125 [.int .u16 0,.int .u8 0,.int .u8 0,.int .u32 0,.int .u32 0,.int .i32 0,.int .u16 0,.int .u16 0,.int .u8 0,.slice none 0 0,.int .u32 0,.slice none 0 0,.int .u32 0,.bool false,.int .u32 0,.int .u32 0,.slice none 0 0]:=Qac _ _ _
   obtain⟨wx,hwx⟩:∃u,u=(wr.alloc (.cells #[.int .u16 0,.int .u8 0,.int .u8 0,.int .u32 0,.int .u32 0,.int .i32 0,.int .u16 0,.int .u16 0,.int .u8 0,.slice none 0 0,.int .u32 0,.slice none 0 0,.int .u32 0,.bool false,.int .u32 0,.int .u32 0,.slice none 0 0] 125)).setRow wr.heap.size #[.int .u16 x.h.age,.int .u8 x.h.opts,.int .u8 x.h.typ,.int .u32 x.h.id,.int .u32 x.h.adv,.int .i32 x.h.seq,.int .u16 x.h.sum,.int .u16 x.h.len,.int .u8 x.b.flags,.slice a1 x.b.links.length q1,.int .u32 x.b.mask,.slice a3 x.b.routers.length q3,.int .u32 x.b.metric,.bool x.b.type2,.int .u32 x.b.fwd,.int .u32 x.b.tag,.slice a8 x.b.data.length q8]:=⟨_,rfl⟩
   have RX:Row wx wr.heap.size 125 [.int .u16 x.h.age,.int .u8 x.h.opts,.int .u8 x.h.typ,.int .u32 x.h.id,.int .u32 x.h.adv,.int .i32 x.h.seq,.int .u16 x.h.sum,.int .u16 x.h.len,.int .u8 x.b.flags,.slice a1 x.b.links.length q1,.int .u32 x.b.mask,.slice a3 x.b.routers.length q3,.int .u32 x.b.metric,.bool x.b.type2,.int .u32 x.b.fwd,.int .u32 x.b.tag,.slice a8 x.b.data.length q8]:=by rw [hwx];exact RZ.setRow #[.int .u16 x.h.age,.int .u8 x.h.opts,.int .u8 x.h.typ,.int .u32 x.h.id,.int .u32 x.h.adv,.int .i32 x.h.seq,.int .u16 x.h.sum,.int .u16 x.h.len,.int .u8 x.b.flags,.slice a1 x.b.links.length q1,.int .u32 x.b.mask,.slice a3 x.b.routers.length q3,.int .u32 x.b.metric,.bool x.b.type2,.int .u32 x.b.fwd,.int .u32 x.b.tag,.slice a8 x.b.data.length q8]
   have TX:Touch (fun _=>False) wr wx:=by rw [hwx];exact Touch.setRow ((Touch.refl _ _).alloc _) (Or.inr (Nat.le_refl _)) _
   go_upto_region 6 with (first|refine wpList_load_mid rfl 125 (.tmp 28) rfl g (off+j*17) rfl [.int .u16 x.h.age,.int .u8 x.h.opts,.int .u8 x.h.typ,.int .u32 x.h.id,.int .u32 x.h.adv,.int .i32 x.h.seq,.int .u16 x.h.sum,.int .u16 x.h.len,.int .u8 x.b.flags,.slice a1 x.b.links.length q1,.int .u32 x.b.mask,.slice a3 x.b.routers.length q3,.int .u32 x.b.metric,.bool x.b.type2,.int .u32 x.b.fwd,.int .u32 x.b.tag,.slice a8 x.b.data.length q8] _ HRX Tryz.underlying125 rfl (by kernel_rfl) ?_|(refine wpList_store_row rfl 125 (.tmp 6) (.tmp 29) rfl wr.heap.size #[.int .u16 x.h.age,.int .u8 x.h.opts,.int .u8 x.h.typ,.int .u32 x.h.id,.int .u32 x.h.adv,.int .i32 x.h.seq,.int .u16 x.h.sum,.int .u16 x.h.len,.int .u8 x.b.flags,.slice a1 x.b.links.length q1,.int .u32 x.b.mask,.slice a3 x.b.routers.length q3,.int .u32 x.b.metric,.bool x.b.type2,.int .u32 x.b.fwd,.int .u32 x.b.tag,.slice a8 x.b.data.length q8] rfl rfl 125 _ RZ (by kernel_rfl) rfl (by simp [Value.oneCell']) ?_;simp only [Act.put]))
   rw [←hwx]
   clear hwx RZ HRX hc
   have HPU:Hid (∀w',AM w' 127 ma (atL (P.take j))→∃w'',(Instr.mapUpdate 123 (.map (some ma)) (plV x.h.pl) (.int .i64 (j:Int))).run Tryz.prog w'=.ok () w''∧AM w'' 127 ma (atL (P.take (j+1)))∧Touch (fun k=>k=ma) w' w''):=fun w' h=>Qvw h HND.out (HPx.out j x hx) ok.kn.all.i
   have HRH:=Qdc (xs:=[.int .u16 x.h.age,.int .u8 x.h.opts,.int .u8 x.h.typ,.int .u32 x.h.id,.int .u32 x.h.adv,.int .i32 x.h.seq,.int .u16 x.h.sum,.int .u16 x.h.len]) RX
   have HP:=fun w=>Qb9 x.h w
   have HTX:Hid (Touch (fun _=>False) wr wx):=TX
   clear RX TX ok e1 e3 e8 hx HL
   go_wp2_with (refine wpList_load_mid rfl 54 (.tmp 31) rfl wr.heap.size 0 rfl [.int .u16 x.h.age,.int .u8 x.h.opts,.int .u8 x.h.typ,.int .u32 x.h.id,.int .u32 x.h.adv,.int .i32 x.h.seq,.int .u16 x.h.sum,.int .u16 x.h.len] _ HRH Tryz.underlying54 rfl (by kernel_rfl) ?_)
   refine (HP _).mono ?_
   rintro e y1 ⟨rfl,u1⟩
   obtain⟨wm,hput,am',tm⟩:=HPU.out y1 ((HAM.out.keepN HTX.out).keepN u1)
   unfold plV at hput ⊢
   have HF:Hid (Touch (fun _=>False) w1 wm∧AM wm 127 ma (atL (P.take (j+1)))):=⟨((HT.out.trans HTX.out).trans u1).trans' tm (fun i hi e=>by have:=HMA.out;omega),am'⟩
   clear am' tm u1 HP HRH HPU HAM
   go_wp2_with fail
   go_roundw
   case rel=>exact⟨j+1,by omega,by go_num,HF.out⟩
   case measure=>simp [intOf];omega
  ·have hlt':¬(j:Int)<(L.length:Int):=by omega
   obtain rfl:j=L.length:=by omega
   have HAT:Hid (AM wr 127 ma (atL P)):=by have:=HAM.out;rw [HN.out.2.2,List.take_length] at this;exact this
   clear HAM
   obtain⟨i0,hi,hz0,hz1,hz2⟩:=info_parts infoClms
   go_wp2_with (at_make;refine wpList_make_full _ rfl (.tmp 37) (.tmp 37) 129 rfl wr.heap.size 131 i0 (.slice none 0 0) 1 Tryz.underlying129 hi hz0 hz1 .i64 .i64 _ _ L.length rfl rfl ?c1 ?c2 ?c3 ?c4 ?c5 ?_)
   any_goals (first|omega|(rw [hz2];omega)|(unfold maxLen;omega))
   intro w3 o3 gr3
   have t3:Touch (fun _=>False) wr w3:=(Touch.refl _ wr).grown gr3 (by simp)
   rw [Qm4] at o3
   have R3:=Qmu o3
   have l3:wr.heap.size<w3.heap.size:=R3.lt
   have B0:Hid (B2 w1 (w3.alloc (.map #[] 0)) ma wr.heap.size w3.heap.size P 0 [] (List.replicate L.length (.slice none 0 0))∧TS (w3.alloc (.map #[] 0)) w3.heap.size (tiesK P 0 [])):=by
    have ta:Touch (fun _=>False) w3 (w3.alloc (.map #[] 0)):=(Touch.refl _ _).alloc _
    refine⟨⟨(HT.out.trans t3).trans ta,(HAT.out.keepN t3).keepN ta,⟨R3.keep ta,by simp [HN.out.2.2],fun i x v hi=>by omega⟩⟩,(TS.made w3).iff (fun a b kd=>(Qk4 P a b kd).symm)⟩
   have HZ:Hid (ma<wr.heap.size∧wr.heap.size<w3.heap.size):=⟨HAT.out.lt,l3⟩
   clear o3 gr3 t3 R3 l3 hi hz0 hz1 hz2 HAT HT
   go_upto_region 10 with fail
   generalize hw4:w3.alloc (.map #[] 0)=w4 at *
   generalize hgc:wr.heap.size=gc at *
   generalize hmt:w3.heap.size=mt at *
   clear hw4 hgc hmt
   go_wp2_with fail
   go_loopw [42] (fun i wr=>∃k:Nat,k≤L.length∧i=.int .i64 k∧(∃vs,B2 w1 wr ma gc mt P k [] vs)∧TS wr mt (tiesK P k [])) (fun i _=>L.length-(intOf i).toNat)
   case atStart=>exact⟨0,Nat.zero_le _,rfl,⟨_,B0.out.1⟩,B0.out.2⟩
   case round =>
    obtain⟨j,hk,rfl,⟨vs,b2⟩,ts⟩:=hrel
    have HB:Hid (B2 w1 wr ma gc mt P j [] vs):=b2
    have HTS:Hid (TS wr mt (tiesK P j [])):=ts
    have HT:Hid (Touch (fun _=>False) w1 wr):=b2.t
    clear B0 b2 ts
    by_cases hlt:j<L.length
    ·have hlt':(j:Int)<(L.length:Int):=by omega
     obtain⟨x,hx⟩:∃x,L[j]?=some x:=⟨L[j],by simp [hlt]⟩
     obtain⟨ok,g,off,c,eg,hc⟩:=(HL.out.keep HT.out).one hx
     simp only [Value.slice.injEq] at eg
     obtain⟨rfl,-,rfl⟩:=eg
     obtain⟨a1,q1,a3,q3,a8,q8,e1,e3,e8⟩:=ok.forms
     have HRX:wr.rangeAt g (off+j*17) [.int .u16 x.h.age,.int .u8 x.h.opts,.int .u8 x.h.typ,.int .u32 x.h.id,.int .u32 x.h.adv,.int .i32 x.h.seq,.int .u16 x.h.sum,.int .u16 x.h.len,.int .u8 x.b.flags,.slice a1 x.b.links.length q1,.int .u32 x.b.mask,.slice a3 x.b.routers.length q3,.int .u32 x.b.metric,.bool x.b.type2,.int .u32 x.b.fwd,.int .u32 x.b.tag,.slice a8 x.b.data.length q8]:=fun i v hi=>by
      have:=hc i v (by unfold SD.cells;rw [e1,e3,e8];exact hi)
      rw [Nat.add_assoc]
      exact this
     have RZ:Row (wr.alloc (.cells #[.int .u16 0,.int .u8 0,.int .u8 0,.int .u32 0,.int .u32 0,.int .i32 0,.int .u16 0,.int .u16 0,.int .u8 0,.slice none 0 0,.int .u32 0,.slice none 0 0,.int .u32 0,.bool false,.int .u32 0,.int .u32 0,.slice none 0 0] 125)) wr.heap.size 125 [.int .u16 0,.int .u8 0,.int .u8 0,.int .u32 0,.int .u32 0,.int .i32 0,.int .u16 0,.int .u16 0,.int .u8 0,.slice none 0 0,.int .u32 0,.slice none 0 0,.int .u32 0,.bool false,.int .u32 0,.int .u32 0,.slice none 0 0]:=Qac _ _ _
     obtain⟨wx,hwx⟩:∃u,u=(wr.alloc (.cells #[.int .u16 0,.int .u8 0,.int .u8 0,.int .u32 0,.int .u32 0,.int .i32 0,.int .u16 0,.int .u16 0,.int .u8 0,.slice none 0 0,.int .u32 0,.slice none 0 0,.int .u32 0,.bool false,.int .u32 0,.int .u32 0,.slice none 0 0] 125)).setRow wr.heap.size #[.int .u16 x.h.age,.int .u8 x.h.opts,.int .u8 x.h.typ,.int .u32 x.h.id,.int .u32 x.h.adv,.int .i32 x.h.seq,.int .u16 x.h.sum,.int .u16 x.h.len,.int .u8 x.b.flags,.slice a1 x.b.links.length q1,.int .u32 x.b.mask,.slice a3 x.b.routers.length q3,.int .u32 x.b.metric,.bool x.b.type2,.int .u32 x.b.fwd,.int .u32 x.b.tag,.slice a8 x.b.data.length q8]:=⟨_,rfl⟩
     have RX:Row wx wr.heap.size 125 [.int .u16 x.h.age,.int .u8 x.h.opts,.int .u8 x.h.typ,.int .u32 x.h.id,.int .u32 x.h.adv,.int .i32 x.h.seq,.int .u16 x.h.sum,.int .u16 x.h.len,.int .u8 x.b.flags,.slice a1 x.b.links.length q1,.int .u32 x.b.mask,.slice a3 x.b.routers.length q3,.int .u32 x.b.metric,.bool x.b.type2,.int .u32 x.b.fwd,.int .u32 x.b.tag,.slice a8 x.b.data.length q8]:=by rw [hwx];exact RZ.setRow #[.int .u16 x.h.age,.int .u8 x.h.opts,.int .u8 x.h.typ,.int .u32 x.h.id,.int .u32 x.h.adv,.int .i32 x.h.seq,.int .u16 x.h.sum,.int .u16 x.h.len,.int .u8 x.b.flags,.slice a1 x.b.links.length q1,.int .u32 x.b.mask,.slice a3 x.b.routers.length q3,.int .u32 x.b.metric,.bool x.b.type2,.int .u32 x.b.fwd,.int .u32 x.b.tag,.slice a8 x.b.data.length q8]
     have TX:Touch (fun _=>False) wr wx:=by rw [hwx];exact Touch.setRow ((Touch.refl _ _).alloc _) (Or.inr (Nat.le_refl _)) _
     go_upto_region 13 with (first|refine wpList_load_mid rfl 125 (.tmp 45) rfl g (off+j*17) rfl [.int .u16 x.h.age,.int .u8 x.h.opts,.int .u8 x.h.typ,.int .u32 x.h.id,.int .u32 x.h.adv,.int .i32 x.h.seq,.int .u16 x.h.sum,.int .u16 x.h.len,.int .u8 x.b.flags,.slice a1 x.b.links.length q1,.int .u32 x.b.mask,.slice a3 x.b.routers.length q3,.int .u32 x.b.metric,.bool x.b.type2,.int .u32 x.b.fwd,.int .u32 x.b.tag,.slice a8 x.b.data.length q8] _ HRX Tryz.underlying125 rfl (by kernel_rfl) ?_|(refine wpList_store_row rfl 125 (.tmp 10) (.tmp 46) rfl wr.heap.size #[.int .u16 x.h.age,.int .u8 x.h.opts,.int .u8 x.h.typ,.int .u32 x.h.id,.int .u32 x.h.adv,.int .i32 x.h.seq,.int .u16 x.h.sum,.int .u16 x.h.len,.int .u8 x.b.flags,.slice a1 x.b.links.length q1,.int .u32 x.b.mask,.slice a3 x.b.routers.length q3,.int .u32 x.b.metric,.bool x.b.type2,.int .u32 x.b.fwd,.int .u32 x.b.tag,.slice a8 x.b.data.length q8] rfl rfl 125 _ RZ (by kernel_rfl) rfl (by simp [Value.oneCell']) ?_;simp only [Act.put]))
     rw [←hwx]
     clear hwx RZ HRX hc
     have HPj:Hid (P[j]?=some x.sv):=HPx.out j x hx
     have HCL:=fun w' (t:Touch (fun _=>False) wr w')=>Qlj w' ma P x (ok.keep t) (HB.out.am.keepN t) a1 a3 a8 q1 q3 q8 e1 e3 e8
     have HRg:Hid x.b.Rg:=ok.kn.rg
     have HRL:=Qba RX
     have HTX:Hid (Touch (fun _=>False) wr wx):=TX
     clear RX TX ok e1 e3 e8 hx HL
     go_wp2_with (refine wpList_load_mid rfl 125 (.tmp 10) rfl wr.heap.size 0 rfl [.int .u16 x.h.age,.int .u8 x.h.opts,.int .u8 x.h.typ,.int .u32 x.h.id,.int .u32 x.h.adv,.int .i32 x.h.seq,.int .u16 x.h.sum,.int .u16 x.h.len,.int .u8 x.b.flags,.slice a1 x.b.links.length q1,.int .u32 x.b.mask,.slice a3 x.b.routers.length q3,.int .u32 x.b.metric,.bool x.b.type2,.int .u32 x.b.fwd,.int .u32 x.b.tag,.slice a8 x.b.data.length q8] _ HRL Tryz.underlying125 rfl (by kernel_rfl) ?_)
     refine (HCL _ HTX.out).mono ?_
     rintro e y1 ⟨⟨cv,rfl,ow⟩,u1⟩
     clear HCL HRL
     have TY:Touch (fun _=>False) wr y1:=HTX.out.trans u1
     have C1:=HB.out.cr.keep TY
     have hvl:j<vs.length:=by rw [C1.len,←HN.out.2.2];exact hlt
     obtain⟨vo,hvo⟩:∃vo,vs[j]?=some vo:=⟨vs[j],by simp [hvl]⟩
     have cj:y1.cell? ⟨gc,j,none⟩=some vo:=(C1.row.cell j).trans hvo
     have fj:=C1.row.frozen j
     have lj:=C1.row.lt
     have hZ:=HZ.out
     have hmtw:mt<wr.heap.size:=HTS.out.lt
     obtain⟨y2,hy2⟩:∃u,u=y1.setCell ⟨gc,j,none⟩ cv:=⟨_,rfl⟩
     have T2:Touch (fun k=>k=gc) y1 y2:=by rw [hy2];exact Touch.setCell (F:=fun k=>k=gc) (p:=⟨gc,j,none⟩) (Touch.refl _ _) (Or.inl rfl) _
     have R2:Row y2 gc 131 (vs.set j cv):=by rw [hy2];exact C1.row.set j cv
     have ow2:y2.ownsRow (mt+1) 136 5 cv (clms P x.sv).length (claimC (clms P x.sv)):=Qab (Qam ow (by have:=HTX.out.size;omega)) T2 (fun k hk e=>by have:=(ow.lt k hk).1;have:=HTX.out.size;omega)
     have CR3:Hid (CR2 y2 gc mt P (j+1) (vs.set j cv)):=by
      refine⟨R2,by simp [C1.len],fun i z v hi hz hv=>?_⟩
      rw [List.getElem?_set] at hv
      split at hv
      ·rename_i hij
       subst hij
       rw [HPj.out] at hz
       simp at hv
       cases hz
       rw [←hv]
       exact ow2
      ·rename_i hij
       have:=C1.own i z v (by omega) hz hv
       exact Qab this T2 (fun k hk e=>by have:=(this.lt k hk).1;omega)
     have HB3:Hid (Touch (fun _=>False) w1 y2∧AM y2 127 ma (atL P)∧TS y2 mt (tiesK P j [])):=⟨(HT.out.trans TY).trans' T2 (fun i hi e=>by have:=HMA.out;omega),(HB.out.am.keepN TY).keep T2 (by omega),(HTS.out.keep TY (fun h=>h)).keep T2 (by omega)⟩
     obtain⟨va,vq,rfl⟩:=Qah ow
     have c2:y2.cell? ⟨gc,j,none⟩=some (.slice va (clms P x.sv).length vq):=by rw [R2.cell j,List.getElem?_set];simp [hvl]
     have l2:=R2.lt
     have hbC:((clms P x.sv).length:Int)≤200000:=by
      have h1:=Qbv _ (Qdm P x.sv) x.sv.b.links
      have h2:=Qbv _ (fun r=>Qd3 P x.sv (false,r) rtr) x.sv.b.routers
      have h3:=HRg.out.nl
      have h4:=HRg.out.nr
      have h5:(clms P x.sv).length=(x.sv.b.links.flatMap (clmL P x.sv)).length+(x.sv.b.routers.flatMap (fun r=>clm P x.sv (false,r) rtr)).length:=by unfold clms;rw [List.length_append]
      have h6:x.sv.b=x.b:=rfl
      rw [h6] at h1 h2 h5
      omega
     have HCk:Hid (∀(q:Nat) (c:CV),(clms P x.sv)[q]?=some c→c∈clms P x.sv):=fun q c h=>List.mem_of_getElem? h
     clear T2 R2 ow ow2 C1 u1 TY HTS HB HT
     go_upto_region 14 with fail
     rw [←hy2]
     clear hy2 cj fj lj
     generalize hCC:clms P x.sv=CC at *
     have HCC:Hid (clms P x.sv=CC):=hCC
     generalize hnC:CC.length=nC at *
     have HnC:Hid (CC.length=nC):=hnC
     clear hCC hnC
     go_wp2_with fail
     have S0:Hid (TS y2 mt (tiesK P j (CC.take 0))):=HB3.out.2.2
     go_loopw [58] (fun i wr=>∃q:Nat,q≤nC∧i=.int .i64 q∧(Touch (fun _=>False) w1 wr∧AM wr 127 ma (atL P)∧CR2 wr gc mt P (j+1) (vs.set j (.slice va nC vq)))∧TS wr mt (tiesK P j (CC.take q))) (fun i _=>nC-(intOf i).toNat)
     case atStart=>exact⟨0,Nat.zero_le _,rfl,⟨HB3.out.1,HB3.out.2.1,CR3.out⟩,S0.out⟩
     case round =>
      obtain⟨q,hq,rfl,b3,ts⟩:=hrel
      have HB4:Hid _:=b3
      have HTS:Hid (TS wr mt (tiesK P j (CC.take q))):=ts
      clear b3 ts S0 CR3 HB3 c2 l2
      by_cases hql:q<nC
      ·have hql':(q:Int)<(nC:Int):=by omega
       obtain⟨cc,hcc⟩:∃cc,CC[q]?=some cc:=⟨CC[q]'(by rw [HnC.out];exact hql),by simp⟩
       have hcm:=HCk.out q cc hcc
       have hown:=HB4.out.2.2.own j x.sv (.slice va nC vq) (by omega) HPj.out (by rw [List.getElem?_set];simp [hvl])
       rw [HCC.out,HnC.out] at hown
       obtain⟨gv,offv,vc',ev,-,-,hvc⟩:=ValsAt.cells (Qbd hown) (by omega) (by omega)
       simp only [Value.slice.injEq] at ev
       obtain⟨rfl,-,rfl⟩:=ev
       have pa:∀i u,i<5→cc.cells[i]?=some u→wr.cell? ⟨gv,offv+(q*5+i),none⟩=some u:=fun i u hi hu=>hvc (q*5+i) u (by rw [Qia CC q i cc hcc hi];exact hu)
       have p0:wr.cell? ⟨gv,offv+q*5,none⟩=some (.int .i64 (cc.e.dst:Int)):=pa 0 _ (by omega) rfl
       have p1:wr.cell? ⟨gv,offv+q*5+1,none⟩=some (.int .u32 cc.e.cost):=by rw [Nat.add_assoc];exact pa 1 _ (by omega) rfl
       have p2:wr.cell? ⟨gv,offv+q*5+2,none⟩=some (.int .u32 cc.e.data):=by rw [Nat.add_assoc];exact pa 2 _ (by omega) rfl
       have p3:wr.cell? ⟨gv,offv+q*5+3,none⟩=some (.bool cc.e.virt):=by rw [Nat.add_assoc];exact pa 3 _ (by omega) rfl
       have p4:wr.cell? ⟨gv,offv+q*5+4,none⟩=some (.int .u8 cc.kind):=by rw [Nat.add_assoc];exact pa 4 _ (by omega) rfl
       have lp:=Qaa p0
       have hdst:cc.e.dst<P.length:=by have:=Qju (P:=P) (x:=x.sv) (c:=cc);rw [HCC.out] at this;exact this hcm
       have hkd:=Qho (P:=P) (x:=x.sv) (c:=cc) HRg.out (by rw [HCC.out];exact hcm)
       have hPl:=HN.out.2.2
       have TA:Touch (fun _=>False) wr (wr.alloc (.cells #[.int .i64 (cc.e.dst:Int),.int .u32 cc.e.cost,.int .u32 cc.e.data,.bool cc.e.virt,.int .u8 cc.kind] 136)):=(Touch.refl _ _).alloc _
       obtain⟨wm,hput,ts',tm⟩:=(HTS.out.keep TA (fun h=>h)).put j cc.e.dst cc.kind (by omega) (by omega) hkd
       unfold tieV at hput
       have hZ:=HZ.out
       have HF:Hid ((Touch (fun _=>False) w1 wm∧AM wm 127 ma (atL P)∧CR2 wm gc mt P (j+1) (vs.set j (.slice (some ⟨gv,offv,none⟩) nC vq)))∧TS wm mt (tiesK P j (CC.take (q+1)))):=by
        refine⟨⟨(HB4.out.1.trans TA).trans' tm (fun i hi e=>by have:=HMA.out;omega),(HB4.out.2.1.keepN TA).keep tm (by omega),(HB4.out.2.2.keep TA).touch tm (by omega) (fun k hk e=>by omega)⟩,ts'.iff (fun a b kd=>?_)⟩
        rw [List.take_add_one,hcc]
        exact Ql7 P j (CC.take q) cc a b kd
       clear hown hvc pa hdst hkd hPl TA ts' tm HTS hcm hcc
       go_wp2_with fail
       go_roundw
       case rel=>exact⟨q+1,by omega,by go_num,HF.out⟩
       case measure=>simp [intOf];omega
      ·have hql':¬(q:Int)<(nC:Int):=by omega
       obtain rfl:q=nC:=by omega
       have HF:Hid (TS wr mt (tiesK P (j+1) [])):=HTS.out.iff (fun a b kd=>by rw [List.take_of_length_le (by rw [HnC.out];exact Nat.le_refl _),←HCC.out];exact Ql0 P j HPj.out a b kd)
       go_wp2_with fail
       go_roundw
       case rel=>exact⟨j+1,by omega,by go_num,⟨_,HB4.out.1,HB4.out.2.1,HB4.out.2.2⟩,HF.out⟩
       case measure=>simp [intOf];omega
    ·have hlt':¬(j:Int)<(L.length:Int):=by omega
     obtain rfl:j=L.length:=by omega
     obtain⟨i0,hi,hz0,hz1,hz2⟩:=info_parts infoNode
     have HB5:Hid (CR2 wr gc mt P P.length vs∧TS wr mt (tiesK P P.length [])):=⟨by have:=HB.out.cr;rw [HN.out.2.2] at this;exact this,by have:=HTS.out;rw [HN.out.2.2] at this;exact this⟩
     clear HB HTS
     go_wp2_with (at_make;refine wpList_make_full _ rfl (.tmp 74) (.tmp 74) 60 rfl wr.heap.size 73 i0 (.agg #[.bool false,.int .u32 0,.int .u32 0,.int .u8 0,.int .u8 0,.slice none 0 0,.slice none 0 0]) 7 Tryz.underlying60 hi hz0 hz1 .i64 .i64 _ _ L.length rfl rfl ?d1 ?d2 ?d3 ?d4 ?d5 ?_)
     any_goals (first|omega|(rw [hz2];omega)|(unfold maxLen;omega))
     intro w5 o5 gr5
     have t5:Touch (fun _=>False) wr w5:=(Touch.refl _ wr).grown gr5 (by simp)
     rw [Qky] at o5
     have R5:=Qmu o5
     have HS5:Hid (B5 w1 w5 gc mt wr.heap.size P vs [] (List.replicate (L.length-0) ndZ)):=by
      refine⟨⟨HT.out.trans t5,HB5.out.1.keep t5,HB5.out.2.keep t5 (fun h=>h),fun i v k hi hv hk=>?_,by have:=HZ.out;have:=HB5.out.2.lt;omega,HB5.out.2.lt,HT.out.size⟩,R5,by simp⟩
      obtain⟨x,hx⟩:∃x,P[i]?=some x:=⟨P[i],by simp [hi]⟩
      exact ((HB5.out.1.own i x v hi hx hv).lt k hk).2
     clear o5 gr5 t5 R5 hi hz0 hz1 hz2 HB5 HT
     generalize hgn:wr.heap.size=gn at *
     clear hgn
     go_wp2_with fail
     go_loopw [78] (fun i wr=>∃k:Nat,k≤L.length∧i=.int .i64 k∧∃D:List ND,D.length=k∧D.map ND.n=(grB P).take k∧B5 w1 wr gc mt gn P vs D (List.replicate (L.length-k) ndZ)) (fun i _=>L.length-(intOf i).toNat)
     case atStart=>exact⟨0,Nat.zero_le _,rfl,[],rfl,by simp,HS5.out⟩
     case round =>
      obtain⟨j,hk,rfl,D,hDl,hDn,b4⟩:=hrel
      have HB:Hid (B5 w1 wr gc mt gn P vs D (List.replicate (L.length-j) ndZ)):=b4
      have HD:Hid (D.length=j∧D.map ND.n=(grB P).take j):=⟨hDl,hDn⟩
      have HT:Hid (Touch (fun _=>False) w1 wr):=b4.b.t
      clear HS5 b4 hDl hDn
      by_cases hlt:j<L.length
      ·have hlt':(j:Int)<(L.length:Int):=by omega
       obtain⟨x,hx⟩:∃x,L[j]?=some x:=⟨L[j],by simp [hlt]⟩
       obtain⟨ok,g,off,c,eg,hc⟩:=(HL.out.keep HT.out).one hx
       simp only [Value.slice.injEq] at eg
       obtain⟨rfl,-,rfl⟩:=eg
       obtain⟨a1,q1,a3,q3,a8,q8,e1,e3,e8⟩:=ok.forms
       have HRX:wr.rangeAt g (off+j*17) [.int .u16 x.h.age,.int .u8 x.h.opts,.int .u8 x.h.typ,.int .u32 x.h.id,.int .u32 x.h.adv,.int .i32 x.h.seq,.int .u16 x.h.sum,.int .u16 x.h.len,.int .u8 x.b.flags,.slice a1 x.b.links.length q1,.int .u32 x.b.mask,.slice a3 x.b.routers.length q3,.int .u32 x.b.metric,.bool x.b.type2,.int .u32 x.b.fwd,.int .u32 x.b.tag,.slice a8 x.b.data.length q8]:=fun i v hi=>by
        have:=hc i v (by unfold SD.cells;rw [e1,e3,e8];exact hi)
        rw [Nat.add_assoc]
        exact this
       have RZ:Row (wr.alloc (.cells #[.int .u16 0,.int .u8 0,.int .u8 0,.int .u32 0,.int .u32 0,.int .i32 0,.int .u16 0,.int .u16 0,.int .u8 0,.slice none 0 0,.int .u32 0,.slice none 0 0,.int .u32 0,.bool false,.int .u32 0,.int .u32 0,.slice none 0 0] 125)) wr.heap.size 125 [.int .u16 0,.int .u8 0,.int .u8 0,.int .u32 0,.int .u32 0,.int .i32 0,.int .u16 0,.int .u16 0,.int .u8 0,.slice none 0 0,.int .u32 0,.slice none 0 0,.int .u32 0,.bool false,.int .u32 0,.int .u32 0,.slice none 0 0]:=Qac _ _ _
       obtain⟨wx,hwx⟩:∃u,u=(wr.alloc (.cells #[.int .u16 0,.int .u8 0,.int .u8 0,.int .u32 0,.int .u32 0,.int .i32 0,.int .u16 0,.int .u16 0,.int .u8 0,.slice none 0 0,.int .u32 0,.slice none 0 0,.int .u32 0,.bool false,.int .u32 0,.int .u32 0,.slice none 0 0] 125)).setRow wr.heap.size #[.int .u16 x.h.age,.int .u8 x.h.opts,.int .u8 x.h.typ,.int .u32 x.h.id,.int .u32 x.h.adv,.int .i32 x.h.seq,.int .u16 x.h.sum,.int .u16 x.h.len,.int .u8 x.b.flags,.slice a1 x.b.links.length q1,.int .u32 x.b.mask,.slice a3 x.b.routers.length q3,.int .u32 x.b.metric,.bool x.b.type2,.int .u32 x.b.fwd,.int .u32 x.b.tag,.slice a8 x.b.data.length q8]:=⟨_,rfl⟩
       have RX:Row wx wr.heap.size 125 [.int .u16 x.h.age,.int .u8 x.h.opts,.int .u8 x.h.typ,.int .u32 x.h.id,.int .u32 x.h.adv,.int .i32 x.h.seq,.int .u16 x.h.sum,.int .u16 x.h.len,.int .u8 x.b.flags,.slice a1 x.b.links.length q1,.int .u32 x.b.mask,.slice a3 x.b.routers.length q3,.int .u32 x.b.metric,.bool x.b.type2,.int .u32 x.b.fwd,.int .u32 x.b.tag,.slice a8 x.b.data.length q8]:=by rw [hwx];exact RZ.setRow #[.int .u16 x.h.age,.int .u8 x.h.opts,.int .u8 x.h.typ,.int .u32 x.h.id,.int .u32 x.h.adv,.int .i32 x.h.seq,.int .u16 x.h.sum,.int .u16 x.h.len,.int .u8 x.b.flags,.slice a1 x.b.links.length q1,.int .u32 x.b.mask,.slice a3 x.b.routers.length q3,.int .u32 x.b.metric,.bool x.b.type2,.int .u32 x.b.fwd,.int .u32 x.b.tag,.slice a8 x.b.data.length q8]
       have TX:Touch (fun _=>False) wr wx:=by rw [hwx];exact Touch.setRow ((Touch.refl _ _).alloc _) (Or.inr (Nat.le_refl _)) _
       go_upto_region 24 with (first|refine wpList_load_mid rfl 125 (.tmp 81) rfl g (off+j*17) rfl [.int .u16 x.h.age,.int .u8 x.h.opts,.int .u8 x.h.typ,.int .u32 x.h.id,.int .u32 x.h.adv,.int .i32 x.h.seq,.int .u16 x.h.sum,.int .u16 x.h.len,.int .u8 x.b.flags,.slice a1 x.b.links.length q1,.int .u32 x.b.mask,.slice a3 x.b.routers.length q3,.int .u32 x.b.metric,.bool x.b.type2,.int .u32 x.b.fwd,.int .u32 x.b.tag,.slice a8 x.b.data.length q8] _ HRX Tryz.underlying125 rfl (by kernel_rfl) ?_|(refine wpList_store_row rfl 125 (.tmp 15) (.tmp 82) rfl wr.heap.size #[.int .u16 x.h.age,.int .u8 x.h.opts,.int .u8 x.h.typ,.int .u32 x.h.id,.int .u32 x.h.adv,.int .i32 x.h.seq,.int .u16 x.h.sum,.int .u16 x.h.len,.int .u8 x.b.flags,.slice a1 x.b.links.length q1,.int .u32 x.b.mask,.slice a3 x.b.routers.length q3,.int .u32 x.b.metric,.bool x.b.type2,.int .u32 x.b.fwd,.int .u32 x.b.tag,.slice a8 x.b.data.length q8] rfl rfl 125 _ RZ (by kernel_rfl) rfl (by simp [Value.oneCell']) ?_;simp only [Act.put]))
       rw [←hwx]
       clear hwx RZ HRX hc
       have HPj:Hid (P[j]?=some x.sv):=HPx.out j x hx
       have HNo:=fun w' (t:Touch (fun _=>False) wr w')=>Qqx w' x (ok.keep t) a1 a3 a8 q1 q3 q8 e1
       have HRg:Hid x.b.Rg:=ok.kn.rg
       have HRL:=Qba RX
       have HTX:Hid (Touch (fun _=>False) wr wx):=TX
       clear RX TX ok e1 e3 e8 hx HL
       go_wp2_with (refine wpList_load_mid rfl 125 (.tmp 15) rfl wr.heap.size 0 rfl [.int .u16 x.h.age,.int .u8 x.h.opts,.int .u8 x.h.typ,.int .u32 x.h.id,.int .u32 x.h.adv,.int .i32 x.h.seq,.int .u16 x.h.sum,.int .u16 x.h.len,.int .u8 x.b.flags,.slice a1 x.b.links.length q1,.int .u32 x.b.mask,.slice a3 x.b.routers.length q3,.int .u32 x.b.metric,.bool x.b.type2,.int .u32 x.b.fwd,.int .u32 x.b.tag,.slice a8 x.b.data.length q8] _ HRL Tryz.underlying125 rfl (by kernel_rfl) ?_)
       refine (HNo _ HTX.out).mono ?_
       rintro e y1 ⟨⟨sv,rfl,ow⟩,u1⟩
       clear HNo HRL
       have TY:Touch (fun _=>False) wr y1:=HTX.out.trans u1
       have B1:=HB.out.keep TY
       have hrep:List.replicate (L.length-j) ndZ=ndZ::List.replicate (L.length-(j+1)) ndZ:=by rw [show L.length-j=(L.length-(j+1))+1 from by omega,List.replicate_succ]
       have B1r:=B1.row
       rw [hrep] at B1r
       have hgj:(D++ndZ::List.replicate (L.length-(j+1)) ndZ)[j]?=some ndZ:=by rw [←HD.out.1];simp
       have nc:∀i u,i<7→ndZ.cells[i]?=some u→y1.cell? ⟨gn,j*7+i,none⟩=some u:=fun i u hi hu=>by rw [B1r.cell (j*7+i),Qc1 _ j i ndZ hgj hi];exact hu
       have n0:y1.cell? ⟨gn,j*7,none⟩=some (.bool false):=nc 0 _ (by omega) rfl
       have n1:y1.cell? ⟨gn,j*7+1,none⟩=some (.int .u32 0):=nc 1 _ (by omega) rfl
       have n2:y1.cell? ⟨gn,j*7+2,none⟩=some (.int .u32 0):=nc 2 _ (by omega) rfl
       have n3:y1.cell? ⟨gn,j*7+3,none⟩=some (.int .u8 0):=nc 3 _ (by omega) rfl
       have n4:y1.cell? ⟨gn,j*7+4,none⟩=some (.int .u8 0):=nc 4 _ (by omega) rfl
       have n5:y1.cell? ⟨gn,j*7+5,none⟩=some (.slice none 0 0):=nc 5 _ (by omega) rfl
       have n6:y1.cell? ⟨gn,j*7+6,none⟩=some (.slice none 0 0):=nc 6 _ (by omega) rfl
       have nf:=B1r.frozen
       have nl:=B1r.lt
       obtain⟨va,vq,rfl⟩:=Qah ow
       obtain⟨y2,hy2⟩:∃u,u=((((((y1.setCell ⟨gn,j*7,none⟩ (.bool (nodeV x.sv).net)).setCell ⟨gn,j*7+1,none⟩ (.int .u32 (nodeV x.sv).id)).setCell ⟨gn,j*7+2,none⟩ (.int .u32 (nodeV x.sv).addr)).setCell ⟨gn,j*7+3,none⟩ (.int .u8 (nodeV x.sv).bits)).setCell ⟨gn,j*7+4,none⟩ (.int .u8 (nodeV x.sv).flags)).setCell ⟨gn,j*7+5,none⟩ (.slice none 0 0)).setCell ⟨gn,j*7+6,none⟩ (.slice va (stubs x.sv).length vq):=⟨_,rfl⟩
       have T2:Touch (fun k=>k=gn) y1 y2:=by
        rw [hy2]
        refine Touch.setCell (F:=fun k=>k=gn) (p:=⟨gn,j*7+6,none⟩) ?_ (Or.inl rfl) _
        refine Touch.setCell (F:=fun k=>k=gn) (p:=⟨gn,j*7+5,none⟩) ?_ (Or.inl rfl) _
        refine Touch.setCell (F:=fun k=>k=gn) (p:=⟨gn,j*7+4,none⟩) ?_ (Or.inl rfl) _
        refine Touch.setCell (F:=fun k=>k=gn) (p:=⟨gn,j*7+3,none⟩) ?_ (Or.inl rfl) _
        refine Touch.setCell (F:=fun k=>k=gn) (p:=⟨gn,j*7+2,none⟩) ?_ (Or.inl rfl) _
        refine Touch.setCell (F:=fun k=>k=gn) (p:=⟨gn,j*7+1,none⟩) ?_ (Or.inl rfl) _
        exact Touch.setCell (F:=fun k=>k=gn) (p:=⟨gn,j*7,none⟩) (Touch.refl _ _) (Or.inl rfl) _
       have R2:Row y2 gn 73 (nodeC (D++curN P j x.sv (clms P x.sv) 0 (.slice none 0 0) (.slice va (stubs x.sv).length vq)::List.replicate (L.length-(j+1)) ndZ)):=by
        rw [hy2]
        have h7:=((((((B1r.set (j*7) (.bool (nodeV x.sv).net)).set (j*7+1) (.int .u32 (nodeV x.sv).id)).set (j*7+2) (.int .u32 (nodeV x.sv).addr)).set (j*7+3) (.int .u8 (nodeV x.sv).bits)).set (j*7+4) (.int .u8 (nodeV x.sv).flags)).set (j*7+5) (.slice none 0 0)).set (j*7+6) (.slice va (stubs x.sv).length vq)
        rw [Qsd D (List.replicate (L.length-(j+1)) ndZ) ndZ (curN P j x.sv (clms P x.sv) 0 (.slice none 0 0) (.slice va (stubs x.sv).length vq)) j HD.out.1 (.bool (nodeV x.sv).net) (.int .u32 (nodeV x.sv).id) (.int .u32 (nodeV x.sv).addr) (.int .u8 (nodeV x.sv).bits) (.int .u8 (nodeV x.sv).flags) (.slice none 0 0) (.slice va (stubs x.sv).length vq) rfl] at h7
        exact h7
       have S1:Hid ((B5 w1 y2 gc mt gn P vs D (curN P j x.sv (clms P x.sv) 0 (.slice none 0 0) (.slice va (stubs x.sv).length vq)::List.replicate (L.length-(j+1)) ndZ))∧(curN P j x.sv (clms P x.sv) 0 (.slice none 0 0) (.slice va (stubs x.sv).length vq)).Ok (gn+1) y2):=by
        refine⟨⟨B1.b.touch T2 (fun k e=>by omega),R2,fun d hd=>(B1.ok d hd).touch T2 (fun k hk e=>by omega)⟩,World.ownsRow_nil _ _ _ _,?_⟩
        exact Qab (Qam ow (by have:=HTX.out.size;have:=HB.out.row.lt;omega)) T2 (fun k hk e=>by have:=(ow.lt k hk).1;have:=HTX.out.size;have:=HB.out.row.lt;omega)
       obtain⟨cv,hcv⟩:∃cv,vs[j]?=some cv:=⟨vs[j]'(by rw [B1.b.cr.len,←HN.out.2.2];exact hlt),by simp⟩
       have hcj:y2.cell? ⟨gc,j,none⟩=some cv:=(S1.out.1.b.cr.row.cell j).trans hcv
       have hjP:Hid (j<P.length):=by show j<P.length;rw [←HN.out.2.2];exact hlt
       have HCo:Hid (∀w',B4 w1 w' gc mt gn P vs→w'.ownsRow (mt+1) 136 5 cv (clms P x.sv).length (claimC (clms P x.sv))):=fun w' h=>h.cr.own j x.sv cv hjP.out HPj.out hcv
       obtain⟨ca,cq,rfl⟩:=Qah (HCo.out _ S1.out.1.b)
       have lcj:=Qaa hcj
       have hbC:((clms P x.sv).length:Int)≤200000:=by
        have h1:=Qbv _ (Qdm P x.sv) x.sv.b.links
        have h2:=Qbv _ (fun r=>Qd3 P x.sv (false,r) rtr) x.sv.b.routers
        have h3:=HRg.out.nl
        have h4:=HRg.out.nr
        have h5:(clms P x.sv).length=(x.sv.b.links.flatMap (clmL P x.sv)).length+(x.sv.b.routers.flatMap (fun r=>clm P x.sv (false,r) rtr)).length:=by unfold clms;rw [List.length_append]
        have h6:x.sv.b=x.b:=rfl
        rw [h6] at h1 h2 h5
        omega
       clear T2 R2 ow B1 B1r u1 TY HB HT hrep hgj nc hcv
       generalize hstl:(stubs x.sv).length=nst at *
       generalize hnv:nodeV x.sv=nv at *
       go_upto_region 25 with fail
       rw [←hy2]
       clear hy2 n0 n1 n2 n3 n4 n5 n6 nf nl
       generalize hCC:clms P x.sv=CC at *
       have HCC:Hid (clms P x.sv=CC):=hCC
       generalize hnC:CC.length=nC at *
       have HnC:Hid (CC.length=nC):=hnC
       have HNV:Hid (nodeV x.sv=nv):=hnv
       have HST:Hid ((stubs x.sv).length=nst):=hstl
       have hbj:y2.heap.size=y2.heap.size:=rfl
       generalize hbjj:y2.heap.size=bj at hbj
       have HBJ:Hid (y2.heap.size=bj):=hbjj
       have HUD:Hid ((∀d∈D,∀k,(d.ve.ownBlock=some k∨d.vs.ownBlock=some k)→k<bj)∧(∀k,(Value.slice va nst vq).ownBlock=some k→k<bj)∧gn+1≤bj):=by
        refine⟨fun d hd k hk=>?_,fun k hk=>?_,?_⟩
        ·rw [←HBJ.out]
         rcases hk with hk|hk
         ·exact ((S1.out.1.ok d hd).e.lt k hk).2
         ·exact ((S1.out.1.ok d hd).s.lt k hk).2
        ·rw [←HBJ.out]
         exact (S1.out.2.s.lt k hk).2
        ·rw [←HBJ.out]
         exact S1.out.1.row.lt
       have S2:Hid (B5 w1 y2 gc mt gn P vs D (curN P j x.sv CC 0 (.slice none 0 0) (.slice va nst vq)::List.replicate (L.length-(j+1)) ndZ)∧OwE y2 bj (.slice none 0 0) (((CC.take 0).filter (backB P j)).map (·.e))∧OwS y2 (gn+1) (.slice va nst vq) (stubs x.sv)∧bj≤y2.heap.size):=⟨S1.out.1,World.ownsRow_nil _ _ _ _,S1.out.2.s,by rw [HBJ.out];exact Nat.le_refl _⟩
       clear hCC hnC hnv hstl hbj hbjj S1
       go_wp2_with fail
       go_loopw [93] (fun i wr=>∃q:Nat,q≤nC∧i=.int .i64 q∧∃ve,B5 w1 wr gc mt gn P vs D (curN P j x.sv CC q ve (.slice va nst vq)::List.replicate (L.length-(j+1)) ndZ)∧OwE wr bj ve (((CC.take q).filter (backB P j)).map (·.e))∧OwS wr (gn+1) (.slice va nst vq) (stubs x.sv)∧bj≤wr.heap.size) (fun i _=>nC-(intOf i).toNat)
       case atStart=>exact⟨0,Nat.zero_le _,rfl,_,S2.out⟩
       case round =>
        obtain⟨q,hq,rfl,ve,b5,owe,ows,bjl⟩:=hrel
        have HBL:Hid (bj≤wr.heap.size):=bjl
        have HB:Hid (B5 w1 wr gc mt gn P vs D (curN P j x.sv CC q ve (.slice va nst vq)::List.replicate (L.length-(j+1)) ndZ)):=b5
        have HOE:Hid (OwE wr bj ve (((CC.take q).filter (backB P j)).map (·.e))):=owe
        have HOS:Hid (OwS wr (gn+1) (.slice va nst vq) (stubs x.sv)):=ows
        clear S2 b5 owe ows bjl hcj lcj
        by_cases hql:q<nC
        ·have hql':(q:Int)<(nC:Int):=by omega
         obtain⟨cc,hcc⟩:∃cc,CC[q]?=some cc:=⟨CC[q]'(by rw [HnC.out];exact hql),by simp⟩
         have hcm:cc∈clms P x.sv:=by rw [HCC.out];exact List.mem_of_getElem? hcc
         have hown:=HCo.out wr HB.out.b
         obtain⟨gv,offv,vc',ev,-,-,hvc⟩:=ValsAt.cells (Qbd hown) (by omega) (by omega)
         simp only [Value.slice.injEq] at ev
         obtain⟨rfl,-,rfl⟩:=ev
         have pa:∀i u,i<5→cc.cells[i]?=some u→wr.cell? ⟨gv,offv+(q*5+i),none⟩=some u:=fun i u hi hu=>hvc (q*5+i) u (by rw [Qia CC q i cc hcc hi];exact hu)
         have p0:wr.cell? ⟨gv,offv+q*5,none⟩=some (.int .i64 (cc.e.dst:Int)):=pa 0 _ (by omega) rfl
         have p1:wr.cell? ⟨gv,offv+q*5+1,none⟩=some (.int .u32 cc.e.cost):=by rw [Nat.add_assoc];exact pa 1 _ (by omega) rfl
         have p2:wr.cell? ⟨gv,offv+q*5+2,none⟩=some (.int .u32 cc.e.data):=by rw [Nat.add_assoc];exact pa 2 _ (by omega) rfl
         have p3:wr.cell? ⟨gv,offv+q*5+3,none⟩=some (.bool cc.e.virt):=by rw [Nat.add_assoc];exact pa 3 _ (by omega) rfl
         have p4:wr.cell? ⟨gv,offv+q*5+4,none⟩=some (.int .u8 cc.kind):=by rw [Nat.add_assoc];exact pa 4 _ (by omega) rfl
         have lp:=Qaa p0
         have hdst:cc.e.dst<P.length:=Qju hcm
         have hkd:=Qho HRg.out hcm
         have hPl:=HN.out.2.2
         have TA:Touch (fun _=>False) wr (wr.alloc (.cells #[.int .i64 (cc.e.dst:Int),.int .u32 cc.e.cost,.int .u32 cc.e.data,.bool cc.e.virt,.int .u8 cc.kind] 136)):=(Touch.refl _ _).alloc _
         have hlook:=(HB.out.b.ts.keep TA (fun h=>h)).look cc.e.dst j cc.kind (by omega) (by omega) hkd (backB P j cc) (Qph P j cc hdst)
         unfold tieV at hlook
         have TB:Touch (fun _=>False) wr ((wr.alloc (.cells #[.int .i64 (cc.e.dst:Int),.int .u32 cc.e.cost,.int .u32 cc.e.data,.bool cc.e.virt,.int .u8 cc.kind] 136)).alloc (.cells #[] 137)):=TA.alloc _
         have HTB:Hid (Touch (fun _=>False) wr ((wr.alloc (.cells #[.int .i64 (cc.e.dst:Int),.int .u32 cc.e.cost,.int .u32 cc.e.data,.bool cc.e.virt,.int .u8 cc.kind] 136)).alloc (.cells #[] 137))):=TB
         have HRC:Hid (Row ((wr.alloc (.cells #[.int .i64 (cc.e.dst:Int),.int .u32 cc.e.cost,.int .u32 cc.e.data,.bool cc.e.virt,.int .u8 cc.kind] 136)).alloc (.cells #[] 137)) wr.heap.size 136 [.int .i64 (cc.e.dst:Int),.int .u32 cc.e.cost,.int .u32 cc.e.data,.bool cc.e.virt,.int .u8 cc.kind]):=Row.keep (Qac wr _ _) ((Touch.refl _ _).alloc _)
         clear hown hvc pa hdst hkd hPl TA TB hcm
         cases hback:backB P j cc with
         | false =>
          have HF:Hid (curN P j x.sv CC (q+1) ve (.slice va nst vq)=curN P j x.sv CC q ve (.slice va nst vq)):=Quv hcc hback
          rw [hback] at hlook
          clear hback hcc
          go_wp2_with fail
          go_roundw
          case rel=>exact⟨q+1,by omega,by go_num,ve,by rw [HF.out];exact HB.out.keep HTB.out,by have h1:((CC.take (q+1)).filter (backB P j)).map (·.e)=((CC.take q).filter (backB P j)).map (·.e):=congrArg (fun d:ND=>d.n.edges) HF.out;unfold OwE;rw [h1];exact Qab HOE.out HTB.out (fun _ _ h=>h),Qab HOS.out HTB.out (fun _ _ h=>h),Nat.le_trans HBL.out HTB.out.size⟩
          case measure=>simp [intOf];omega
         | true =>
          have HYS:Hid _:=Qrx hcc hback
          rw [hback] at hlook
          clear hback hcc
          have hEl:(((CC.take q).filter (backB P j)).map (·.e)).length≤200000:=by
           rw [List.length_map]
           have h1:=List.length_filter_le (backB P j) (CC.take q)
           have h2:=List.length_take_le q CC
           have h3:=HnC.out
           omega
          obtain⟨wB,hwB⟩:∃u,u=(wr.alloc (.cells #[.int .i64 (cc.e.dst:Int),.int .u32 cc.e.cost,.int .u32 cc.e.data,.bool cc.e.virt,.int .u8 cc.kind] 136)).alloc (.cells #[] 137):=⟨_,rfl⟩
          rw [←hwB] at HTB HRC
          have BB:=HB.out.keep HTB.out
          have hrow:=BB.row
          have hgj:(D++curN P j x.sv CC q ve (.slice va nst vq)::List.replicate (L.length-(j+1)) ndZ)[j]?=some (curN P j x.sv CC q ve (.slice va nst vq)):=by rw [←HD.out.1];simp
          have hcE:wB.cell? ⟨gn,j*7+5,none⟩=some ve:=by rw [hrow.cell (j*7+5),Qc1 _ j 5 _ hgj (by omega)];rfl
          have HOB:Hid (∀k,ve.ownBlock=some k→k<wr.heap.size):=fun k hk=>(HOE.out.lt k hk).2
          have hlG:=hrow.lt
          have hoE:wB.ownsRow bj 134 4 ve (((CC.take q).filter (backB P j)).map (·.e)).length (edgeC (((CC.take q).filter (backB P j)).map (·.e))):=Qab HOE.out HTB.out (fun _ _ h=>h)
          have hoS:wB.ownsRow (gn+1) 157 3 (.slice va nst vq) (stubs x.sv).length (stubC (stubs x.sv)):=Qab HOS.out HTB.out (fun _ _ h=>h)
          have HEE:Hid (∀ve',(curN P j x.sv CC q ve' (.slice va nst vq)).n.edges=((CC.take q).filter (backB P j)).map (·.e)):=fun _=>rfl
          have HLB:Hid (bj≤wB.heap.size∧wr.heap.size<wB.heap.size∧gn<wr.heap.size∧gn<bj):=⟨Nat.le_trans HBL.out HTB.out.size,HRC.out.lt,HB.out.row.lt,by have:=HUD.out.2.2;omega⟩
          obtain⟨ea,eq,rfl⟩:=Qah hoE
          have HFIN:Hid (∀f1 f2 w',w'.ownsRow bj 134 4 (.slice f1 ((((CC.take q).filter (backB P j)).map (·.e)).length+1) f2) ((((CC.take q).filter (backB P j)).map (·.e)).length+1) (edgeC (((CC.take q).filter (backB P j)).map (·.e))++[.int .i64 (cc.e.dst:Int),.int .u32 cc.e.cost,.int .u32 cc.e.data,.bool cc.e.virt])→Touch (fun k=>(Value.slice ea (((CC.take q).filter (backB P j)).map (·.e)).length eq).ownBlock=some k) (wB.drew.alloc (.cells #[.int .i64 (cc.e.dst:Int),.int .u32 cc.e.cost,.int .u32 cc.e.data,.bool cc.e.virt] 134)) w' →
            ∃ve',B5 w1 (w'.setCell ⟨gn,j*7+5,none⟩ (.slice f1 ((((CC.take q).filter (backB P j)).map (·.e)).length+1) f2)) gc mt gn P vs D (curN P j x.sv CC (q+1) ve' (.slice va nst vq)::List.replicate (L.length-(j+1)) ndZ)∧OwE (w'.setCell ⟨gn,j*7+5,none⟩ (.slice f1 ((((CC.take q).filter (backB P j)).map (·.e)).length+1) f2)) bj ve' (((CC.take (q+1)).filter (backB P j)).map (·.e))∧OwS (w'.setCell ⟨gn,j*7+5,none⟩ (.slice f1 ((((CC.take q).filter (backB P j)).map (·.e)).length+1) f2)) (gn+1) (.slice va nst vq) (stubs x.sv)∧bj≤(w'.setCell ⟨gn,j*7+5,none⟩ (.slice f1 ((((CC.take q).filter (backB P j)).map (·.e)).length+1) f2)).heap.size):=by
           intro f1 f2 w' hown TG
           have T0:Touch (fun _=>False) wB (wB.drew.alloc (.cells #[.int .i64 (cc.e.dst:Int),.int .u32 cc.e.cost,.int .u32 cc.e.data,.bool cc.e.virt] 134)):=((Touch.refl _ _).drew).alloc _
           have TS3:Touch (fun k=>k=gn) w' (w'.setCell ⟨gn,j*7+5,none⟩ (.slice f1 ((((CC.take q).filter (backB P j)).map (·.e)).length+1) f2)):=Touch.setCell (F:=fun k=>k=gn) (p:=⟨gn,j*7+5,none⟩) (Touch.refl _ _) (Or.inl rfl) _
           have hF:∀k,(Value.slice ea (((CC.take q).filter (backB P j)).map (·.e)).length eq).ownBlock=some k→bj≤k:=fun k hk=>(hoE.lt k hk).1
           have hL:=HLB.out
           have B6:=BB.keep T0
           have RW:=Qad B6.row TG (fun e=>by have:=hF gn e;omega)
           refine⟨.slice f1 ((((CC.take q).filter (backB P j)).map (·.e)).length+1) f2,⟨(B6.b.touch TG (fun k e=>by have:=hF k e;omega)).touch TS3 (fun k e=>by omega),?_,fun d hd=>?_⟩,?_,?_,Nat.le_trans (Nat.le_trans hL.1 T0.size) (Nat.le_trans TG.size TS3.size)⟩
           ·have:=RW.set (j*7+5) (.slice f1 ((((CC.take q).filter (backB P j)).map (·.e)).length+1) f2)
            have e9:(nodeC (D++(curN P j x.sv CC q (.slice ea (((CC.take q).filter (backB P j)).map (·.e)).length eq) (.slice va nst vq))::List.replicate (L.length-(j+1)) ndZ)).set (j*7+5) (.slice f1 ((((CC.take q).filter (backB P j)).map (·.e)).length+1) f2)=nodeC (D++(curN P j x.sv CC (q+1) (.slice f1 ((((CC.take q).filter (backB P j)).map (·.e)).length+1) f2) (.slice va nst vq))::List.replicate (L.length-(j+1)) ndZ):=Qnp D (List.replicate (L.length-(j+1)) ndZ) (curN P j x.sv CC q (.slice ea (((CC.take q).filter (backB P j)).map (·.e)).length eq) (.slice va nst vq)) (curN P j x.sv CC (q+1) (.slice f1 ((((CC.take q).filter (backB P j)).map (·.e)).length+1) f2) (.slice va nst vq)) j HD.out.1 rfl
            rw [e9] at this
            exact this
           ·have o1:=B6.ok d hd
            have hu:=HUD.out.1 d hd
            have o2:d.Ok (gn+1) w':=⟨Qab o1.e TG (fun k hk e=>by have:=hF k e;have:=hu k (Or.inl hk);omega),Qab o1.s TG (fun k hk e=>by have:=hF k e;have:=hu k (Or.inr hk);omega)⟩
            exact o2.touch TS3 (fun k hk e=>by omega)
           ·unfold OwE
            rw [HYS.out,List.length_append,Qh8]
            exact Qbf hown (by show gn<bj;omega) _
           ·unfold OwS
            exact Qbf (Qab (Qab hoS T0 (fun _ _ h=>h)) TG (fun k hk e=>by have:=hF k e;have:=HUD.out.2.1 k hk;omega)) (by show gn<gn+1;omega) _
          generalize hEE:((CC.take q).filter (backB P j)).map (·.e)=EE at *
          generalize hnE:EE.length=nE at *
          have T0:Touch (fun _=>False) wB (wB.drew.alloc (.cells #[.int .i64 (cc.e.dst:Int),.int .u32 cc.e.cost,.int .u32 cc.e.data,.bool cc.e.virt] 134)):=((Touch.refl _ _).drew).alloc _
          have HCA:Hid ((wB.drew.alloc (.cells #[.int .i64 (cc.e.dst:Int),.int .u32 cc.e.cost,.int .u32 cc.e.data,.bool cc.e.virt] 134)).cell? ⟨gn,j*7+5,none⟩=some (.slice ea nE eq)):=T0.cellN hcE
          have HOA:Hid ((wB.drew.alloc (.cells #[.int .i64 (cc.e.dst:Int),.int .u32 cc.e.cost,.int .u32 cc.e.data,.bool cc.e.virt] 134)).ownsRow bj 134 4 (.slice ea nE eq) nE (edgeC EE)):=Qab hoE T0 (fun _ _ h=>h)
          have RNE:Row (wB.drew.alloc (.cells #[.int .i64 (cc.e.dst:Int),.int .u32 cc.e.cost,.int .u32 cc.e.data,.bool cc.e.virt] 134)) wB.heap.size 134 [.int .i64 (cc.e.dst:Int),.int .u32 cc.e.cost,.int .u32 cc.e.data,.bool cc.e.virt]:=Qac wB.drew _ _
          have HNA:Hid (∀(j:Nat) u,([.int .i64 (cc.e.dst:Int),.int .u32 cc.e.cost,.int .u32 cc.e.data,.bool cc.e.virt]:List Value)[j]?=some u→(wB.drew.alloc (.cells #[.int .i64 (cc.e.dst:Int),.int .u32 cc.e.cost,.int .u32 cc.e.data,.bool cc.e.virt] 134)).cell? ((⟨wB.heap.size,0,none⟩:Addr).add j)=some u):=fun j u hj=>by rw [Qae,Nat.zero_add,RNE.cell j];exact hj
          have HRG:Hid _:=hrow.keep T0
          have RSd:Row wB.drew wr.heap.size 136 [.int .i64 (cc.e.dst:Int),.int .u32 cc.e.cost,.int .u32 cc.e.data,.bool cc.e.virt,.int .u8 cc.kind]:=HRC.out.keep ((Touch.refl _ _).drew)
          have m0:wB.cell? ⟨wr.heap.size,0,none⟩=some (.int .i64 (cc.e.dst:Int)):=HRC.out.cell 0
          clear hrow hgj BB hoE hoS RNE T0 HB HOE HOS HEE HRC
          go_upto_region 30 with fail
          rw [←hwB]
          clear hwB p0 p1 p2 p3 p4 lp hlook HTB
          generalize hbc:wr.heap.size=bc at *
          refine wp_region_held_drew (S:=fun w'=>Row w' bc 136 [.int .i64 (cc.e.dst:Int),.int .u32 cc.e.cost,.int .u32 cc.e.data,.bool cc.e.virt,.int .u8 cc.kind]) (by kernel_rfl) RSd (fun hHeld=>?_)
          refine wpAnyH_take (i:=0) (oi:=⟨some 110,_,_,_,_,_⟩) (v:=.slice (some ⟨gn,0,none⟩) L.length L.length) rfl (by kernel_rfl) (by kernel_rfl) (by kernel_rfl) (fun _ _ _ h=>h) (Or.inl ⟨by rfl,fun w hw=>by go_simp⟩) (by assumption) ?_
          simp only [Act.put,Qw2,Qw3,Qw4]
          refine wpAnyH_take (i:=1) (oi:=⟨some 111,_,_,_,_,_⟩) (v:=.int .i64 (j:Int)) rfl (by kernel_rfl) (by kernel_rfl) (by kernel_rfl) (fun _ _ _ h=>h) (Or.inl ⟨by rfl,fun w hw=>by go_simp⟩) (by assumption) ?_
          simp only [Act.put,Qw2,Qw3,Qw4]
          refine wpAnyH_take (i:=2) (oi:=⟨some 112,_,_,_,_,_⟩) (v:=.slice (some ⟨gn,0,none⟩) L.length L.length) rfl (by kernel_rfl) (by kernel_rfl) (by kernel_rfl) (fun _ _ _ h=>h) (Or.inl ⟨by rfl,fun w hw=>by go_simp⟩) (by assumption) ?_
          simp only [Act.put,Qw2,Qw3,Qw4]
          refine wpAnyH_take (i:=3) (oi:=⟨some 113,_,_,_,_,_⟩) (v:=.int .i64 (j:Int)) rfl (by kernel_rfl) (by kernel_rfl) (by kernel_rfl) (fun _ _ _ h=>h) (Or.inl ⟨by rfl,fun w hw=>by go_simp⟩) (by assumption) ?_
          simp only [Act.put,Qw2,Qw3,Qw4]
          refine wpAnyH_take (i:=4) (oi:=⟨some 114,_,_,_,_,_⟩) (v:=.pointer (some ⟨gn,j*7,none⟩)) rfl (by kernel_rfl) (by kernel_rfl) (by kernel_rfl) (fun _ _ _ h=>h) (Or.inl ⟨by rfl,fun w hw=>by go_simp⟩) (by assumption) ?_
          simp only [Act.put,Qw2,Qw3,Qw4]
          refine wpAnyH_take (i:=5) (oi:=⟨some 115,_,_,_,_,_⟩) (v:=.pointer (some ⟨gn,j*7+5,none⟩)) rfl (by kernel_rfl) (by kernel_rfl) (by kernel_rfl) (fun _ _ _ h=>h) (Or.inl ⟨by rfl,fun w hw=>by go_simp⟩) (by assumption) ?_
          simp only [Act.put,Qw2,Qw3,Qw4]
          refine wpAnyH_take (i:=7) (oi:=⟨some 117,_,_,_,_,_⟩) (v:=.pointer (some ⟨bc,0,none⟩)) rfl (by kernel_rfl) (by kernel_rfl) (by kernel_rfl) (fun _ _ _ h=>h) (Or.inl ⟨by rfl,fun w hw=>by go_simp⟩) (by assumption) ?_
          simp only [Act.put,Qw2,Qw3,Qw4]
          refine wpAnyH_take (i:=8) (oi:=⟨some 118,_,_,_,_,_⟩) (v:=.agg #[.int .i64 (cc.e.dst:Int),.int .u32 cc.e.cost,.int .u32 cc.e.data,.bool cc.e.virt]) rfl (by kernel_rfl) (by kernel_rfl) (by kernel_rfl) (fun _ _ _ h=>h) (yieldsIf_load_mid (by rfl) _ _ rfl _ _ rfl [.int .i64 (cc.e.dst:Int),.int .u32 cc.e.cost,.int .u32 cc.e.data,.bool cc.e.virt] _ (fun w h=>Qdc (xs:=[.int .i64 (cc.e.dst:Int),.int .u32 cc.e.cost,.int .u32 cc.e.data,.bool cc.e.virt]) h) Tryz.underlying134 rfl (by kernel_rfl)) (by assumption) ?_
          simp only [Act.put,Qw2,Qw3,Qw4]
          refine wpAnyH_ready (rs:=[6,9]) (by kernel_rfl) (by simp) ?_
          refine AllReadyH.cons (o:=⟨some 116,_,_,_,_,_⟩) rfl (fun K hK=>?_) (AllReadyH.cons (o:=⟨some 119,_,_,_,_,_⟩) rfl (fun K hK=>?_) AllReadyH.nil)
          ·go_simp
           refine hK.out _ _ RSd (fun hHeld=>?_)
           clear hK K
           refine wpAnyH_ready (rs:=[9]) (by kernel_rfl) (by simp) ?_
           refine AllReadyH.cons (o:=⟨some 119,_,_,_,_,_⟩) rfl (fun K hK=>?_) AllReadyH.nil
           go_simp
           refine hK.out _ _ (RSd.keep ((Touch.refl _ _).alloc _)) (fun hHeld=>?_)
           clear hK K
           obtain⟨i0,hi,hz0,hz1,hz2⟩:=info_parts infoEdge
           refine wpAnyH_ready (rs:=[10]) (by kernel_rfl) (by simp) ?_
           refine AllReadyH.cons (o:=⟨some 120,_,_,_,_,_⟩) rfl (fun K hK=>?_) AllReadyH.nil
           refine Qbc (by rfl) (.tmp 116) (.tmp 119) 70 (by rfl) bj 134 i0 (.agg #[.int .i64 0,.int .u32 0,.int .u32 0,.bool false]) 4 24 Tryz.underlying70 hi hz0 hz1 hz2 rfl (by omega) (.slice ea nE eq) nE (edgeC EE) (by rfl) HOA.out ⟨wB.heap.size,0,none⟩ 1 1 [.int .i64 (cc.e.dst:Int),.int .u32 cc.e.cost,.int .u32 cc.e.data,.bool cc.e.virt] (by rfl) rfl HNA.out (by intro u hu;simp at hu;rcases hu with rfl|rfl|rfl|rfl <;> rfl) (by unfold maxLen;omega) (by omega) (by have:=HLB.out;simp;omega) ?_
           intro v' w' hown hgr hor
           simp only [Act.put,Qw2,Qw3,Qw4]
           have TG:Touch (fun k=>(Value.slice ea nE eq).ownBlock=some k) (wB.drew.alloc (.cells #[.int .i64 (cc.e.dst:Int),.int .u32 cc.e.cost,.int .u32 cc.e.data,.bool cc.e.virt] 134)) w':=(Touch.refl _ _).grown hgr (fun k hk=>Or.inl hk)
           have hobc:¬(Value.slice ea nE eq).ownBlock=some bc:=fun e=>by have:=(HOA.out.lt bc e).2;have:=HOB.out bc e;omega
           have hobg:¬(Value.slice ea nE eq).ownBlock=some gn:=fun e=>by have:=(HOA.out.lt gn e).1;have:=HUD.out.2.2;omega
           have RS2:Row w' bc 136 [.int .i64 (cc.e.dst:Int),.int .u32 cc.e.cost,.int .u32 cc.e.data,.bool cc.e.virt,.int .u8 cc.kind]:=Qad (RSd.keep ((Touch.refl _ _).alloc _)) TG hobc
           refine hK.out _ _ RS2 (fun hHeld=>?_)
           clear hK K
           have cE2:w'.cell? ⟨gn,j*7+5,none⟩=some (.slice ea nE eq):=(TG.cell (Qaa HCA.out) hobg).trans HCA.out
           have RG:=Qad HRG.out TG hobg
           have fE2:=RG.frozen (j*7+5)
           have lE2:=RG.lt
           obtain⟨f1,f2,rfl⟩:=Qah hown
           refine wpAnyH_take (i:=11) (oi:=⟨some 121,_,_,_,_,_⟩) (v:=.pointer (some ⟨gn,j*7,none⟩)) rfl (by kernel_rfl) (by kernel_rfl) (by kernel_rfl) (fun _ _ _ h=>h) (Or.inl ⟨by rfl,fun w hw=>by go_simp⟩) (by assumption) ?_
           simp only [Act.put,Qw2,Qw3,Qw4]
           refine wpAnyH_take (i:=12) (oi:=⟨some 122,_,_,_,_,_⟩) (v:=.pointer (some ⟨gn,j*7+5,none⟩)) rfl (by kernel_rfl) (by kernel_rfl) (by kernel_rfl) (fun _ _ _ h=>h) (Or.inl ⟨by rfl,fun w hw=>by go_simp⟩) (by assumption) ?_
           simp only [Act.put,Qw2,Qw3,Qw4]
           refine wpAnyH_ready (rs:=[13]) (by kernel_rfl) (by simp) ?_
           refine AllReadyH.cons rfl (fun K hK=>?_) AllReadyH.nil
           go_simp
           have HFN:=HFIN.out f1 f2 w' hown TG
           refine hK.out _ _ (RS2.other (p:=⟨gn,j*7+5,none⟩) (by show ¬bc=gn;have:=HLB.out;omega) _) (fun hHeld=>?_)
           clear hK K
           refine wpAnyH_done (by kernel_rfl) ?_ _
           have HFH:Hid _:=HFN
           clear HFN RG RS2 TG hown hgr hor hi hz0 hz1 hz2 cE2 fE2 lE2
           go_wp2_with fail
           go_roundw
           case rel=>exact⟨q+1,by omega,by go_num,HFH.out⟩
           case measure=>simp [intOf];omega
          ·go_simp
           refine hK.out _ _ (RSd.keep ((Touch.refl _ _).alloc _)) (fun hHeld=>?_)
           clear hK K
           refine wpAnyH_ready (rs:=[6]) (by kernel_rfl) (by simp) ?_
           refine AllReadyH.cons (o:=⟨some 116,_,_,_,_,_⟩) rfl (fun K hK=>?_) AllReadyH.nil
           have hca:=HCA.out
           go_simp
           refine hK.out _ _ (RSd.keep ((Touch.refl _ _).alloc _)) (fun hHeld=>?_)
           clear hK K hca
           obtain⟨i0,hi,hz0,hz1,hz2⟩:=info_parts infoEdge
           refine wpAnyH_ready (rs:=[10]) (by kernel_rfl) (by simp) ?_
           refine AllReadyH.cons (o:=⟨some 120,_,_,_,_,_⟩) rfl (fun K hK=>?_) AllReadyH.nil
           refine Qbc (by rfl) (.tmp 116) (.tmp 119) 70 (by rfl) bj 134 i0 (.agg #[.int .i64 0,.int .u32 0,.int .u32 0,.bool false]) 4 24 Tryz.underlying70 hi hz0 hz1 hz2 rfl (by omega) (.slice ea nE eq) nE (edgeC EE) (by rfl) HOA.out ⟨wB.heap.size,0,none⟩ 1 1 [.int .i64 (cc.e.dst:Int),.int .u32 cc.e.cost,.int .u32 cc.e.data,.bool cc.e.virt] (by rfl) rfl HNA.out (by intro u hu;simp at hu;rcases hu with rfl|rfl|rfl|rfl <;> rfl) (by unfold maxLen;omega) (by omega) (by have:=HLB.out;simp;omega) ?_
           intro v' w' hown hgr hor
           simp only [Act.put,Qw2,Qw3,Qw4]
           have TG:Touch (fun k=>(Value.slice ea nE eq).ownBlock=some k) (wB.drew.alloc (.cells #[.int .i64 (cc.e.dst:Int),.int .u32 cc.e.cost,.int .u32 cc.e.data,.bool cc.e.virt] 134)) w':=(Touch.refl _ _).grown hgr (fun k hk=>Or.inl hk)
           have hobc:¬(Value.slice ea nE eq).ownBlock=some bc:=fun e=>by have:=(HOA.out.lt bc e).2;have:=HOB.out bc e;omega
           have hobg:¬(Value.slice ea nE eq).ownBlock=some gn:=fun e=>by have:=(HOA.out.lt gn e).1;have:=HUD.out.2.2;omega
           have RS2:Row w' bc 136 [.int .i64 (cc.e.dst:Int),.int .u32 cc.e.cost,.int .u32 cc.e.data,.bool cc.e.virt,.int .u8 cc.kind]:=Qad (RSd.keep ((Touch.refl _ _).alloc _)) TG hobc
           refine hK.out _ _ RS2 (fun hHeld=>?_)
           clear hK K
           have cE2:w'.cell? ⟨gn,j*7+5,none⟩=some (.slice ea nE eq):=(TG.cell (Qaa HCA.out) hobg).trans HCA.out
           have RG:=Qad HRG.out TG hobg
           have fE2:=RG.frozen (j*7+5)
           have lE2:=RG.lt
           obtain⟨f1,f2,rfl⟩:=Qah hown
           refine wpAnyH_take (i:=11) (oi:=⟨some 121,_,_,_,_,_⟩) (v:=.pointer (some ⟨gn,j*7,none⟩)) rfl (by kernel_rfl) (by kernel_rfl) (by kernel_rfl) (fun _ _ _ h=>h) (Or.inl ⟨by rfl,fun w hw=>by go_simp⟩) (by assumption) ?_
           simp only [Act.put,Qw2,Qw3,Qw4]
           refine wpAnyH_take (i:=12) (oi:=⟨some 122,_,_,_,_,_⟩) (v:=.pointer (some ⟨gn,j*7+5,none⟩)) rfl (by kernel_rfl) (by kernel_rfl) (by kernel_rfl) (fun _ _ _ h=>h) (Or.inl ⟨by rfl,fun w hw=>by go_simp⟩) (by assumption) ?_
           simp only [Act.put,Qw2,Qw3,Qw4]
           refine wpAnyH_ready (rs:=[13]) (by kernel_rfl) (by simp) ?_
           refine AllReadyH.cons rfl (fun K hK=>?_) AllReadyH.nil
           go_simp
           have HFN:=HFIN.out f1 f2 w' hown TG
           refine hK.out _ _ (RS2.other (p:=⟨gn,j*7+5,none⟩) (by show ¬bc=gn;have:=HLB.out;omega) _) (fun hHeld=>?_)
           clear hK K
           refine wpAnyH_done (by kernel_rfl) ?_ _
           have HFH:Hid _:=HFN
           clear HFN RG RS2 TG hown hgr hor hi hz0 hz1 hz2 cE2 fE2 lE2
           go_wp2_with fail
           go_roundw
           case rel=>exact⟨q+1,by omega,by go_num,HFH.out⟩
           case measure=>simp [intOf];omega
        ·have hql':¬(q:Int)<(nC:Int):=by omega
         obtain rfl:q=nC:=by omega
         have HFD:Hid (∃D':List ND,D'.length=j+1∧D'.map ND.n=(grB P).take (j+1)∧B5 w1 wr gc mt gn P vs D' (List.replicate (L.length-(j+1)) ndZ)):=by
          have hU:=HUD.out
          refine⟨D++[curN P j x.sv CC q ve (.slice va nst vq)],by simp [HD.out.1],?_,HB.out.b,by rw [List.append_assoc];exact HB.out.row,fun d hd=>?_⟩
          ·rw [List.map_append,HD.out.2,Qp5 HPj.out]
           have e9:(curN P j x.sv CC q ve (.slice va nst vq)).n=nodeE P j x.sv:=by
            unfold curN nodeE edgs
            rw [List.take_of_length_le (by rw [HnC.out];exact Nat.le_refl _),←HCC.out]
           simp [e9]
          ·rcases List.mem_append.1 hd with hd|hd
           ·exact HB.out.ok d hd
           ·obtain rfl:d=_:=by simpa using hd
            exact⟨Qam HOE.out hU.2.2,HOS.out⟩
         clear HB HOE HOS
         go_wp2_with fail
         go_roundw
         case rel=>exact⟨j+1,by omega,by go_num,HFD.out⟩
         case measure=>simp [intOf];omega
      ·have hlt':¬(j:Int)<(L.length:Int):=by omega
       obtain rfl:j=L.length:=by omega
       have HF:Hid (GrP w P (.slice (some ⟨gn,0,none⟩) L.length L.length) wr):=by
        have hb5:=HB.out
        have hr:=hb5.row
        rw [Nat.sub_self,List.replicate_zero,List.append_nil] at hr
        refine⟨⟨D,?_,?_,fun d hd=>⟨Qam (hb5.ok d hd).e (Nat.zero_le _),Qam (hb5.ok d hd).s (Nat.zero_le _)⟩⟩,HTW.out.trans hb5.b.t,_,_,rfl⟩
        ·rw [HD.out.1]
         exact Qpw hr (by rw [Qbl,HD.out.1]) (by omega)
        ·rw [HD.out.2,HN.out.2.2]
         have:(grB P).length=P.length:=by unfold grB;simp
         rw [←this,List.take_length]
       clear HB
       go_wp2_with fail
       go_ret
       exact⟨P,_,rfl,HN.out.1,HF.out⟩
end Go.Proofs.YtddbffoiadmffaaGreat
