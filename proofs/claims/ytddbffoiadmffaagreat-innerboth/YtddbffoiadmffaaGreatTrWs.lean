import Derived.Test.YtddbffoiadmffaaGreatGrBld
import Derived.Test.YtddbffoiadmffaaGreatTrJoin
namespace Go.Proofs.YtddbffoiadmffaaGreat
open Go.RowKit
set_option linter.unusedVariables false
set_option maxRecDepth 100000
def findI (G:List NV) (b:Bool) (i:Int):Int :=
 match G with
 | [] => -1
 | n :: r=>if n.net == b && n.id == i then 0 else (if findI r b i<0 then -1 else findI r b i+1)
theorem findI_hit {G:List NV} {b:Bool} {i:Int} {k:Nat} {n:NV} (hk:G[k]?=some n) (hn:(n.net == b && n.id == i)=true) (ha:∀ j m,j<k→G[j]?=some m→(m.net == b && m.id == i)=false):findI G b i=k:=by
 induction G generalizing k with
 | nil=>simp at hk
 | cons x r ih =>
  cases k with
  | zero =>
   obtain rfl:x=n:=by simpa using hk
   unfold findI
   rw [if_pos hn]
   rfl
  | succ k =>
   have h0:=ha 0 x (by omega) rfl
   have:=ih (k:=k) (by simpa using hk) (fun j m hj hm=>ha (j+1) m (by omega) (by simpa using hm))
   unfold findI
   rw [h0,this,if_neg (by simp),if_neg (by omega)]
   omega
theorem findI_miss {G:List NV} {b:Bool} {i:Int} (ha:∀ m∈G,(m.net == b && m.id == i)=false):findI G b i = -1:=by
 induction G with
 | nil=>rfl
 | cons x r ih =>
  have:=ih (fun m hm=>ha m (by simp [hm]))
  unfold findI
  rw [ha x (by simp),this]
  rfl
theorem nodes_one {w:World} {v:Value} {D:List ND} (h:ValsAt w 7 v D.length (nodeC D)) {j:Nat} {d:ND} (hj:D[j]?=some d):∃ g off c,v=.slice (some ⟨g,off,none⟩) D.length c∧∀ i u,d.cells[i]?=some u→w.cell? ⟨g,off+(j * 7+i),none⟩=some u:=by
 have hlt:=(List.getElem?_eq_some_iff.mp hj).1
 obtain ⟨g,off,c,e,_,_,hc⟩:=ValsAt.cells h (by omega) (by omega)
 refine ⟨g,off,c,e,fun i u hu=>hc _ _ ?_⟩
 have hi:i<7:=(List.getElem?_eq_some_iff.mp hu).1
 rw [nodeC_at D j i d hj hi]
 exact hu
set_option maxHeartbeats 1000000 in
theorem fnd1_any (d:ND) (ea:Option Addr) (en ec:Nat) (sa:Option Addr) (sn sc:Nat) (he:d.ve=.slice ea en ec) (hs:d.vs=.slice sa sn sc) (b1 b2:Nat) (b:Bool) (i:Int) (w:World) (c1:w.cell? ⟨b1,0,none⟩=some (.bool b)) (c2:w.cell? ⟨b2,0,none⟩=some (.int .u32 i)) :
  Calls Tryz.prog 57 #[.agg #[.bool d.n.net,.int .u32 d.n.id,.int .u32 d.n.addr,.int .u8 d.n.bits,.int .u8 d.n.flags,.slice ea en ec,.slice sa sn sc],.pointer (some ⟨b1,0,none⟩),.pointer (some ⟨b2,0,none⟩)] w fun e w'=>e=.returned (.bool (d.n.net == b && d.n.id == i))∧Touch (fun _=>False) w w':=by
 have l1:=lt_of_cell c1
 have l2:=lt_of_cell c2
 cases hb:(d.n.net == b) with
 | true =>
  rw [Bool.true_and]
  go_enter Tryz.func57,Tryz.ntmps57
  go_wp2
  go_ret
  exact ⟨ret_bool rfl,(Touch.refl _ _).alloc _⟩
 | false =>
  rw [Bool.false_and]
  go_enter Tryz.func57,Tryz.ntmps57
  go_wp2
  go_ret
  exact ⟨ret_bool rfl,(Touch.refl _ _).alloc _⟩
theorem ND.Ok.forms {base:Nat} {w:World} {d:ND} (h:d.Ok base w):∃ ea ec sa sc,d.ve=.slice ea d.n.edges.length ec∧d.vs=.slice sa d.n.stubs.length sc:=by
 obtain ⟨ea,ec,e1⟩:=own_fm h.e
 obtain ⟨sa,sc,e2⟩:=own_fm h.s
 exact ⟨ea,ec,sa,sc,e1,e2⟩
set_option maxHeartbeats 2000000 in
theorem fndx_any (v:Value) (D:List ND) (b1 b2:Nat) (b:Bool) (i:Int) (w:World) (hv:ValsAt w 7 v D.length (nodeC D)) (hk:∀ d∈D,d.Ok 0 w) (hn:D.length≤1000000) (c1:w.cell? ⟨b1,0,none⟩=some (.bool b)) (c2:w.cell? ⟨b2,0,none⟩=some (.int .u32 i)) :
  Calls Tryz.prog 56 #[v,.func (.func 57) #[] #[.pointer (some ⟨b1,0,none⟩),.pointer (some ⟨b2,0,none⟩)]] w fun e w'=>e=.returned (.int .i64 (findI (D.map ND.n) b i))∧Touch (fun _=>False) w w':=by
 obtain ⟨va,vc,rfl,-⟩:=ValsAt.form hv
 have HV:Hid (ValsAt w 7 (.slice va D.length vc) D.length (nodeC D)):=hv
 have HK:Hid (∀ d∈D,d.Ok 0 w):=hk
 have HC:Hid (w.cell? ⟨b1,0,none⟩=some (.bool b)∧w.cell? ⟨b2,0,none⟩=some (.int .u32 i)):=⟨c1,c2⟩
 have hn':(D.length:Int)≤1000000:=by omega
 have HI:Hid (∀ (k:Nat) (n:NV),(D.map ND.n)[k]?=some n→(n.net == b && n.id == i)=true→(∀ (j:Nat) (m:NV),j<k→(D.map ND.n)[j]?=some m→(m.net == b && m.id == i)=false)→findI (D.map ND.n) b i=k):=fun k n h1 h2 h3=>findI_hit h1 h2 h3
 have HM:Hid ((∀ m∈D.map ND.n,(m.net == b && m.id == i)=false)→findI (D.map ND.n) b i = -1):=findI_miss
 clear hv hk c1 c2
 generalize findI (D.map ND.n) b i=z at *
 go_enter Tryz.func56,Tryz.ntmps56
 go_wp2
 go_loopg [5,8] D.length (fun gg _ s8 wr=>∃ kk:Nat,kk≤D.length∧D.length - kk≤gg∧s8=.int .i64 kk∧Hid (∀ (j:Nat) (m:NV),j<kk→(D.map ND.n)[j]?=some m→(m.net == b && m.id == i)=false)∧Touch (fun _=>False) w wr)
 case atStart=>exact ⟨0,Nat.zero_le _,by omega,rfl,fun j m hj=>absurd hj (by omega),Touch.refl _ _⟩
 case round =>
  obtain ⟨kk,hkk,hg,rfl,HA,t⟩:=hrel
  have HT:Hid (Touch (fun _=>False) w wr):=t
  rcases Nat.lt_or_ge kk D.length with h | h
  ·have hlt:(kk:Int)<(D.length:Int):=by omega
   obtain ⟨d,hd⟩:∃ d,D[kk]?=some d:=⟨D[kk],by simp [h]⟩
   obtain ⟨g,off,c,eg,hc⟩:=nodes_one (ValsAt.keep HV.out t) hd
   simp only [Value.slice.injEq] at eg
   obtain ⟨rfl,-,rfl⟩:=eg
   obtain ⟨ea,ec,sa,sc,e1,e2⟩:=(HK.out d (List.mem_of_getElem? hd)).forms
   have z0:wr.cell? ⟨g,off+kk * 7,none⟩=some (.bool d.n.net):=hc 0 _ rfl
   have z1:wr.cell? ⟨g,off+kk * 7+1,none⟩=some (.int .u32 d.n.id):=by rw [Nat.add_assoc]; exact hc 1 _ rfl
   have z2:wr.cell? ⟨g,off+kk * 7+2,none⟩=some (.int .u32 d.n.addr):=by rw [Nat.add_assoc]; exact hc 2 _ rfl
   have z3:wr.cell? ⟨g,off+kk * 7+3,none⟩=some (.int .u8 d.n.bits):=by rw [Nat.add_assoc]; exact hc 3 _ rfl
   have z4:wr.cell? ⟨g,off+kk * 7+4,none⟩=some (.int .u8 d.n.flags):=by rw [Nat.add_assoc]; exact hc 4 _ rfl
   have z5:wr.cell? ⟨g,off+kk * 7+5,none⟩=some (.slice ea d.n.edges.length ec):=by rw [← e1,Nat.add_assoc]; exact hc 5 _ rfl
   have z6:wr.cell? ⟨g,off+kk * 7+6,none⟩=some (.slice sa d.n.stubs.length sc):=by rw [← e2,Nat.add_assoc]; exact hc 6 _ rfl
   have HF:=fnd1_any d ea d.n.edges.length ec sa d.n.stubs.length sc e1 e2 b1 b2 b i wr (t.cellN HC.out.1) (t.cellN HC.out.2)
   have hmd:(D.map ND.n)[kk]?=some d.n:=by rw [List.getElem?_map,hd]; rfl
   cases hb:(d.n.net == b && d.n.id == i) with
   | false =>
    rw [hb] at HF
    have HN:Hid (∀ (j:Nat) (m:NV),j<kk+1→(D.map ND.n)[j]?=some m→(m.net == b && m.id == i)=false):=fun j m hj hm=>by
     rcases Nat.lt_or_ge j kk with h' | h'
     ·exact HA.out j m h' hm
     ·obtain rfl:j=kk:=by omega
      rw [hmd] at hm
      cases hm
      exact hb
    clear t hd hmd HA HV HK HI HM hc e1 e2 hb
    go_wp2_with fail
    refine HF.mono ?_
    rintro e w1 ⟨rfl,t1⟩
    have T1:Hid _:=t1
    clear t1 HF z0 z1 z2 z3 z4 z5 z6
    go_wp2
    go_roundg (D.length - (kk+1))
    case measure=>omega
    case rel=>exact ⟨kk+1,by omega,by omega,by go_num,HN,HT.out.trans T1.out⟩
   | true =>
    rw [hb] at HF
    have HZ:Hid (z=kk):=HI.out kk d.n hmd hb HA.out
    clear t hd hmd HA HV HK HI HM hc e1 e2 hb
    go_wp2_with fail
    refine HF.mono ?_
    rintro e w1 ⟨rfl,t1⟩
    have T1:Hid _:=t1
    clear t1 HF z0 z1 z2 z3 z4 z5 z6
    go_wp2
    go_ret
    exact ⟨ret_int HZ.out.symm,HT.out.trans T1.out⟩
  ·have hlt:¬ (kk:Int)<(D.length:Int):=by omega
   have HZ:Hid (z = -1):=HM.out (fun m hm=>by
    obtain ⟨j,hj⟩:=List.mem_iff_getElem?.1 hm
    exact HA.out j m (by have:=(List.getElem?_eq_some_iff.1 hj).1; simp at this; omega) hj)
   clear t HA HV HK HI HM
   go_wp2
   go_ret
   exact ⟨ret_int HZ.out.symm,HT.out⟩
set_option maxHeartbeats 1000000 in
theorem find_any (v:Value) (D:List ND) (b:Bool) (i:Int) (w:World) (hv:ValsAt w 7 v D.length (nodeC D)) (hk:∀ d∈D,d.Ok 0 w) (hn:D.length≤1000000) :
  Calls Tryz.prog 27 #[v,.bool b,.int .u32 i] w fun e w'=>e=.returned (.int .i64 (findI (D.map ND.n) b i))∧Touch (fun _=>False) w w':=by
 have T0:Touch (fun _=>False) w ((w.alloc (.cells #[.bool b] 4)).alloc (.cells #[.int .u32 i] 23)):=((Touch.refl _ _).alloc _).alloc _
 have HF:=fndx_any v D w.heap.size (w.heap.size+1) b i _ (ValsAt.keep hv T0) (fun d hd=>(hk d hd).touch T0 (fun _ _ h=>h)) hn (by simp [go_sem]) (by simp [go_sem])
 have HT:Hid _:=T0
 obtain ⟨va,vc,rfl,-⟩:=ValsAt.form hv
 clear hv hk T0
 generalize findI (D.map ND.n) b i=z at *
 generalize D.length=n at *
 go_enter Tryz.func27,Tryz.ntmps27
 go_wp2_with fail
 refine HF.mono ?_
 rintro e w1 ⟨rfl,t1⟩
 have T1:Hid _:=t1
 clear t1 HF
 go_wp2
 go_ret
 exact ⟨rfl,HT.out.trans T1.out⟩
def tab {α:Type} (n:Nat) (f:Nat→α):List α:=(List.range n).map f
theorem tab_length {α:Type} (n:Nat) (f:Nat→α):(tab n f).length=n:=by simp [tab]
theorem tab_get {α:Type} {n i:Nat} (f:Nat→α) (h:i<n):(tab n f)[i]?=some (f i):=by simp [tab,h]
theorem tab_set {α:Type} (n:Nat) (f:Nat→α) (i:Nat) (x:α):(tab n f).set i x=tab n (upf f i x):=by
 apply List.ext_getElem?
 intro j
 rw [List.getElem?_set]
 simp only [tab_length]
 by_cases h:i=j
 ·subst h
  rw [if_pos rfl]
  by_cases hi:i<n
  ·rw [if_pos hi,tab_get _ hi,upf_same]
  ·rw [if_neg hi,List.getElem?_eq_none (by rw [tab_length]; omega)]
 ·rw [if_neg h]
  by_cases hj:j<n
  ·rw [tab_get _ hj,tab_get _ hj,upf_other _ _ (Ne.symm h)]
  ·rw [List.getElem?_eq_none (by rw [tab_length]; omega),List.getElem?_eq_none (by rw [tab_length]; omega)]
theorem tab_congr {α:Type} {n:Nat} {f f':Nat→α} (h:∀ i,i<n→f i=f' i):tab n f=tab n f':=by
 apply List.ext_getElem?
 intro j
 by_cases hj:j<n
 ·rw [tab_get _ hj,tab_get _ hj,h j hj]
 ·rw [List.getElem?_eq_none (by rw [tab_length]; omega),List.getElem?_eq_none (by rw [tab_length]; omega)]
def TE.cs (e:TE):List Value:=[.int .i64 e.dst,.int .u32 e.cost,.int .u32 e.data,.bool e.vr]
structure GrAt (w:World) (nv:Value) (ns:List NM):Prop where
 sh:∃ a c,nv=.slice a ns.length c∧(ns=[]∨∃ g,a=some ⟨g,0,none⟩∧∀ i x,ns[i]?=some x→∀ d u,x.cs[d]?=some u→w.cell? ⟨g,i * 7+d,none⟩=some u)
 ed:∀ x∈ns,x.t.edges=[]∨∃ g,x.ea=some ⟨g,0,none⟩∧∀ j e,x.t.edges[j]?=some e→∀ d u,e.cs[d]?=some u→w.cell? ⟨g,j * 4+d,none⟩=some u
def rcs (x:RV×Value):List Value:=[.bool x.1.is,.int .u32 x.1.cost,x.2]
theorem rcs_len (x:RV×Value):(rcs x).length=3:=rfl
abbrev RR (B:Nat) (w:World) (v:Value) (l:List (RV×Value)):Prop:=RG rcs 3 68 B w v l
structure WB where
 nv:Value
 N:Nat
 root:Nat
 wb:Nat
 rb:Nat
 zb:Nat
structure WS (w0:World) (p:WB) (w:World) (v:Value) (L:List Sp) (R:Nat→RV) (H:Nat→Value) (Z:Nat→Sp):Prop where
 t:Touch (fun _=>False) w0 w
 ls:LS w p.wb v w0.heap.size L
 hp:HP L.length (gt L)
 c1:w.cell? ⟨p.wb,1,none⟩=some p.nv
 c2:w.cell? ⟨p.wb,2,none⟩=some (.int .i64 p.root)
 c3:w.cell? ⟨p.wb,3,none⟩=some (.slice (some ⟨p.rb,0,none⟩) p.N p.N)
 c4:w.cell? ⟨p.wb,4,none⟩=some (.slice (some ⟨p.zb,0,none⟩) p.N p.N)
 wB:w0.heap.size≤p.wb
 rr:RR w0.heap.size w (.slice (some ⟨p.rb,0,none⟩) p.N p.N) (tab p.N (fun i=>(R i,H i)))
 zz:RS w0.heap.size w (.slice (some ⟨p.zb,0,none⟩) p.N p.N) (tab p.N Z)
 hh:∀ i,i<p.N→RH w0.heap.size w (H i) (R i).hops
 d1:p.wb≠p.rb
 d2:p.wb≠p.zb
 d3:p.rb≠p.zb
 e1:v.ownBlock≠some p.rb
 e2:v.ownBlock≠some p.zb
 h1:∀ i g,i<p.N→(H i).ownBlock=some g→g≠p.wb∧g≠p.rb∧g≠p.zb∧v.ownBlock≠some g
 h2:∀ i j g,i<p.N→j<p.N→i≠j→(H i).ownBlock=some g→(H j).ownBlock≠some g
def WBl (p:WB) (v:Value):Nat→Prop:=fun k=>k=p.wb∨k=p.rb∨k=p.zb∨v.ownBlock=some k
section
variable {w0:World} {p:WB} {w w':World} {v v':Value} {L L':List Sp} {R:Nat→RV} {H:Nat→Value} {Z:Nat→Sp}
theorem WS.rlt (X:WS w0 p w v L R H Z):p.rb<w.heap.size:=RG.lt X.rr rfl
theorem WS.zlt (X:WS w0 p w v L R H Z):p.zb<w.heap.size:=RG.lt X.zz rfl
theorem WS.rge (X:WS w0 p w v L R H Z):w0.heap.size≤p.rb:=RG.ge X.rr rfl
theorem WS.zge (X:WS w0 p w v L R H Z):w0.heap.size≤p.zb:=RG.ge X.zz rfl
theorem WS.vge (X:WS w0 p w v L R H Z) {g:Nat} (h:v.ownBlock=some g):w0.heap.size≤g:=RG.ge X.ls.re h
theorem WS.vlt (X:WS w0 p w v L R H Z) {g:Nat} (h:v.ownBlock=some g):g<w.heap.size:=RG.lt X.ls.re h
theorem WS.keep (X:WS w0 p w v L R H Z) (t:Touch (fun _=>False) w w'):WS w0 p w' v L R H Z :=
 ⟨X.t.trans t,X.ls.keep t,X.hp,t.cellN X.c1,t.cellN X.c2,t.cellN X.c3,t.cellN X.c4,X.wB,X.rr.keepN t,X.zz.keepN t,fun i hi=>(X.hh i hi).keepN t,X.d1,X.d2,X.d3,X.e1,X.e2,X.h1,X.h2⟩
theorem WS.old {F:Nat→Prop} (X:WS w0 p w v L R H Z) (t:Touch F w w') (h:∀ k,F k→w0.heap.size≤k):Touch (fun _=>False) w0 w':=X.t.trans' t (fun k hk f=>by have:=h k f; omega)
theorem WS.line (X:WS w0 p w v L R H Z) (ls:LS w' p.wb v' w0.heap.size L') (hp:HP L'.length (gt L')) (hv:v'.ownBlock=v.ownBlock∨∃ g,v'.ownBlock=some g∧w.heap.size≤g) (t:TouchB p.wb (fun k=>v.ownBlock=some k) w w'):WS w0 p w' v' L' R H Z:=by
 have hge:∀ k,(k=p.wb∨v.ownBlock=some k)→w0.heap.size≤k:=fun k h=>h.elim (fun e=>by rw [e]; exact X.wB) (fun e=>X.vge e)
 refine ⟨X.old t.t hge,ls,hp,(t.rest 1 (by omega)).trans X.c1,(t.rest 2 (by omega)).trans X.c2,(t.rest 3 (by omega)).trans X.c3,(t.rest 4 (by omega)).trans X.c4,X.wB,RG.keep X.rr t.t ?_,RG.keep X.zz t.t ?_,fun i hi=>RG.keep (X.hh i hi) t.t ?_,X.d1,X.d2,X.d3,?_,?_,fun i g hi hg=>?_,X.h2⟩
 ·intro j hj e
  injection hj with hj
  subst hj
  exact e.elim (fun e=>X.d1 e.symm) X.e1
 ·intro j hj e
  injection hj with hj
  subst hj
  exact e.elim (fun e=>X.d2 e.symm) X.e2
 ·intro j hj e
  obtain ⟨a1,a2,a3,a4⟩:=X.h1 i j hi hj
  exact e.elim a1 a4
 ·rcases hv with e | ⟨g,e,hg⟩
  ·rw [e]; exact X.e1
  ·rw [e]; intro h; injection h with h; have:=X.rlt; omega
 ·rcases hv with e | ⟨g,e,hg⟩
  ·rw [e]; exact X.e2
  ·rw [e]; intro h; injection h with h; have:=X.zlt; omega
 ·obtain ⟨a1,a2,a3,a4⟩:=X.h1 i g hi hg
  refine ⟨a1,a2,a3,?_⟩
  rcases hv with e | ⟨g',e,hg'⟩
  ·rw [e]; exact a4
  ·rw [e]; intro h; injection h with h; have:=RG.lt (X.hh i hi) hg; omega
theorem WS.reach (X:WS w0 p w v L R H Z) {i:Nat} (hi:i<p.N) (b:Bool) (c:Int):WS w0 p ((w.setCell ⟨p.rb,i * 3,none⟩ (.bool b)).setCell ⟨p.rb,i * 3+1,none⟩ (.int .u32 c)) v L (upf R i ⟨b,c,(R i).hops⟩) H Z:=by
 have t:Touch (fun k=>k=p.rb) w ((w.setCell ⟨p.rb,i * 3,none⟩ (.bool b)).setCell ⟨p.rb,i * 3+1,none⟩ (.int .u32 c)):=tset1 (tset1 (Touch.refl _ _) _ _) _ _
 have r1:=RG.set1 rcs_len X.rr (i:=i) (d:=0) (x:=(R i,H i)) (y:=(⟨b,(R i).cost,(R i).hops⟩,H i)) (by omega) (tab_get _ hi) (u:=.bool b) rfl
 rw [tab_set] at r1
 have r2:=RG.set1 rcs_len r1 (i:=i) (d:=1) (x:=(⟨b,(R i).cost,(R i).hops⟩,H i)) (y:=(⟨b,c,(R i).hops⟩,H i)) (by omega) (by rw [tab_get _ hi,upf_same]) (u:=.int .u32 c) rfl
 rw [tab_set] at r2
 have e:upf (upf (fun i=>(R i,H i)) i (⟨b,(R i).cost,(R i).hops⟩,H i)) i (⟨b,c,(R i).hops⟩,H i)=fun j=>(upf R i ⟨b,c,(R i).hops⟩ j,H j):=by
  funext j
  by_cases h:j=i
  ·subst h; simp only [upf_same]
  ·simp only [upf_other _ _ h]
 rw [e] at r2
 have hw:p.wb<w.heap.size:=X.ls.lt
 have cw:∀ o,((w.setCell ⟨p.rb,i * 3,none⟩ (.bool b)).setCell ⟨p.rb,i * 3+1,none⟩ (.int .u32 c)).cell? ⟨p.wb,o,none⟩=w.cell? ⟨p.wb,o,none⟩:=fun o=>t.cell (p:=⟨p.wb,o,none⟩) hw X.d1
 refine ⟨X.old t (fun k e=>by rw [e]; exact X.rge),⟨(cw 0).trans X.ls.c0,(t.frozen (p:=⟨p.wb,0,none⟩) hw X.d1).trans X.ls.f0,RG.keep X.ls.re t (fun j hj e=>X.e1 (by rw [hj,e])),X.ls.bv,X.ls.hl⟩,X.hp,(cw 1).trans X.c1,(cw 2).trans X.c2,(cw 3).trans X.c3,(cw 4).trans X.c4,X.wB,r2,RG.keep X.zz t (fun j hj e=>by cases hj; exact X.d3 e.symm),fun j hj=>?_,X.d1,X.d2,X.d3,X.e1,X.e2,X.h1,X.h2⟩
 have hq:(upf R i ⟨b,c,(R i).hops⟩ j).hops=(R j).hops:=by
  by_cases h:j=i
  ·subst h; simp only [upf_same]
  ·simp only [upf_other _ _ h]
 rw [hq]
 exact RG.keep (X.hh j hj) t (fun g hg e=>(X.h1 j g hj hg).2.1 e)
theorem WS.last (X:WS w0 p w v L R H Z) {i:Nat} (hi:i<p.N) (s:Sp):WS w0 p (((((w.setCell ⟨p.zb,i * 5,none⟩ (.int .i64 s.node)).setCell ⟨p.zb,i * 5+1,none⟩ (.int .u32 s.cost)).setCell ⟨p.zb,i * 5+2,none⟩ (.int .u32 s.h.out)).setCell ⟨p.zb,i * 5+3,none⟩ (.int .u32 s.h.via)).setCell ⟨p.zb,i * 5+4,none⟩ (.bool s.h.vr)) v L R H (upf Z i s):=by
 have t:=tset5 (Touch.refl (fun k=>k=p.zb) w) i s
 have r1:=RS.set X.zz (i:=i) (by rw [tab_length]; exact hi) s
 rw [tab_set] at r1
 generalize (((((w.setCell ⟨p.zb,i * 5,none⟩ (.int .i64 s.node)).setCell ⟨p.zb,i * 5+1,none⟩ (.int .u32 s.cost)).setCell ⟨p.zb,i * 5+2,none⟩ (.int .u32 s.h.out)).setCell ⟨p.zb,i * 5+3,none⟩ (.int .u32 s.h.via)).setCell ⟨p.zb,i * 5+4,none⟩ (.bool s.h.vr))=w2 at t r1 ⊢
 have hw:p.wb<w.heap.size:=X.ls.lt
 have cw:∀ o,w2.cell? ⟨p.wb,o,none⟩=w.cell? ⟨p.wb,o,none⟩:=fun o=>t.cell (p:=⟨p.wb,o,none⟩) hw X.d2
 exact ⟨X.old t (fun k e=>by rw [e]; exact X.zge),⟨(cw 0).trans X.ls.c0,(t.frozen (p:=⟨p.wb,0,none⟩) hw X.d2).trans X.ls.f0,RG.keep X.ls.re t (fun j hj e=>X.e2 (by rw [hj,e])),X.ls.bv,X.ls.hl⟩,X.hp,(cw 1).trans X.c1,(cw 2).trans X.c2,(cw 3).trans X.c3,(cw 4).trans X.c4,X.wB,RG.keep X.rr t (fun j hj e=>by cases hj; exact X.d3 e),r1,fun j hj=>RG.keep (X.hh j hj) t (fun g hg e=>(X.h1 j g hj hg).2.2.1 e),X.d1,X.d2,X.d3,X.e1,X.e2,X.h1,X.h2⟩
theorem WS.hops (X:WS w0 p w v L R H Z) {i:Nat} (hi:i<p.N) {w1:World} {hv:Value} {hs:List HK} (re:RH w0.heap.size w1 hv hs) (ow:hv.ownBlock=(H i).ownBlock∨∃ g,hv.ownBlock=some g∧w.heap.size≤g) (t1:Touch (fun k=>(H i).ownBlock=some k) w w1) :
  WS w0 p (w1.setCell ⟨p.rb,i * 3+2,none⟩ hv) v L (upf R i ⟨(R i).is,(R i).cost,hs⟩) (upf H i hv) Z:=by
 have hio:=X.h1 i
 have fw:¬ ((H i).ownBlock=some p.wb):=fun e=>(hio _ hi e).1 rfl
 have fr:¬ ((H i).ownBlock=some p.rb):=fun e=>(hio _ hi e).2.1 rfl
 have fz:¬ ((H i).ownBlock=some p.zb):=fun e=>(hio _ hi e).2.2.1 rfl
 have fv:∀ g,v.ownBlock=some g→¬ ((H i).ownBlock=some g):=fun g hg e=>(hio _ hi e).2.2.2 hg
 have hw:p.wb<w.heap.size:=X.ls.lt
 have hw1:p.wb<w1.heap.size:=Nat.lt_of_lt_of_le hw t1.size
 have rr1:RR w0.heap.size w1 (.slice (some ⟨p.rb,0,none⟩) p.N p.N) (tab p.N (fun i=>(R i,H i))):=RG.keep X.rr t1 (fun j hj e=>by injection hj with hj; subst hj; exact fr e)
 have zz1:RS w0.heap.size w1 (.slice (some ⟨p.zb,0,none⟩) p.N p.N) (tab p.N Z):=RG.keep X.zz t1 (fun j hj e=>by injection hj with hj; subst hj; exact fz e)
 have t:Touch (fun k=>k=p.rb) w1 (w1.setCell ⟨p.rb,i * 3+2,none⟩ hv):=tset1 (Touch.refl _ _) _ _
 have r1:=RG.set1 rcs_len rr1 (i:=i) (d:=2) (x:=(R i,H i)) (y:=(R i,hv)) (by omega) (tab_get _ hi) (u:=hv) rfl
 rw [tab_set] at r1
 have e:tab p.N (upf (fun i=>(R i,H i)) i (R i,hv))=tab p.N (fun j=>(R j,upf H i hv j)):=tab_congr (fun j _=>by
  by_cases h:j=i
  ·subst h; simp only [upf_same]
  ·simp only [upf_other _ _ h])
 rw [e] at r1
 have r2:RR w0.heap.size (w1.setCell ⟨p.rb,i * 3+2,none⟩ hv) (.slice (some ⟨p.rb,0,none⟩) p.N p.N) (tab p.N (fun j=>(upf R i ⟨(R i).is,(R i).cost,hs⟩ j,upf H i hv j))):=by
  have e2:cellsG rcs (tab p.N (fun j=>(upf R i ⟨(R i).is,(R i).cost,hs⟩ j,upf H i hv j)))=cellsG rcs (tab p.N (fun j=>(R j,upf H i hv j))):=by
   unfold cellsG tab
   rw [List.flatMap_map,List.flatMap_map]
   refine congrArg (fun f=>List.flatMap f (List.range p.N)) (funext fun j=>?_)
   by_cases h:j=i
   ·subst h; simp only [rcs,upf_same]
   ·simp only [rcs,upf_other _ _ h]
  show RG rcs 3 _ _ _ _ _
  unfold RG at r1 ⊢
  rw [tab_length] at r1 ⊢
  rw [e2]
  exact r1
 have hge:∀ k,(H i).ownBlock=some k→w0.heap.size≤k:=fun k e=>RG.ge (X.hh i hi) e
 have T1:=X.old t1 hge
 have c:∀ o,(w1.setCell ⟨p.rb,i * 3+2,none⟩ hv).cell? ⟨p.wb,o,none⟩=w.cell? ⟨p.wb,o,none⟩:=fun o=>(t.cell (p:=⟨p.wb,o,none⟩) hw1 X.d1).trans (t1.cell (p:=⟨p.wb,o,none⟩) hw fw)
 have own:∀ g,hv.ownBlock=some g→g≠p.wb∧g≠p.rb∧g≠p.zb∧v.ownBlock≠some g:=by
  intro g hg
  rcases ow with e | ⟨g',e,hg'⟩
  ·rw [e] at hg; exact hio g hi hg
  ·rw [e] at hg
   injection hg with hg
   have:=X.rlt
   have:=X.zlt
   exact ⟨by omega,by omega,by omega,fun e=>by have:=X.vlt e; omega⟩
 have far:∀ j g,j<p.N→j≠i→(H j).ownBlock=some g→hv.ownBlock≠some g:=by
  intro j g hj hji hg
  rcases ow with e | ⟨g',e,hg'⟩
  ·rw [e]; exact X.h2 j i g hj hi hji hg
  ·rw [e]; intro h; injection h with h; have:=RG.lt (X.hh j hj) hg; omega
 refine ⟨T1.trans' t (fun k hk e=>by have:=X.rge; omega),⟨(c 0).trans X.ls.c0,(t.frozen (p:=⟨p.wb,0,none⟩) hw1 X.d1).trans ((t1.frozen (p:=⟨p.wb,0,none⟩) hw fw).trans X.ls.f0),RG.keep (RG.keep X.ls.re t1 (fun g hg=>fv g hg)) t (fun g hg e=>X.e1 (by rw [hg,e])),X.ls.bv,X.ls.hl⟩,X.hp,(c 1).trans X.c1,(c 2).trans X.c2,(c 3).trans X.c3,(c 4).trans X.c4,X.wB,r2,RG.keep zz1 t (fun g hg e=>by cases hg; exact X.d3 e.symm),fun j hj=>?_,X.d1,X.d2,X.d3,X.e1,X.e2,fun j g hj hg=>?_,fun j k g hj hk hjk hg=>?_⟩
 ·by_cases h:j=i
  ·subst h
   rw [upf_same,upf_same]
   exact RG.keep re t (fun g hg e=>(own g hg).2.1 e)
  ·rw [upf_other _ _ h,upf_other _ _ h]
   exact RG.keep (RG.keep (X.hh j hj) t1 (fun g hg e=>X.h2 j i g hj hi h hg e)) t (fun g hg e=>(X.h1 j g hj hg).2.1 e)
 ·by_cases h:j=i
  ·subst h; rw [upf_same] at hg; exact own g hg
  ·rw [upf_other _ _ h] at hg; exact X.h1 j g hj hg
 ·by_cases h:j=i
  ·subst h
   rw [upf_same] at hg
   rw [upf_other _ _ (Ne.symm hjk)]
   intro e
   exact far k g hk (Ne.symm hjk) e hg
  ·rw [upf_other _ _ h] at hg
   by_cases h':k=i
   ·subst h'; rw [upf_same]; exact far j g hj h hg
   ·rw [upf_other _ _ h']; exact X.h2 j k g hj hk hjk hg
theorem WS.rcell (X:WS w0 p w v L R H Z) {i:Nat} (hi:i<p.N):w.cell? ⟨p.rb,i * 3,none⟩=some (.bool (R i).is)∧w.cell? ⟨p.rb,i * 3+1,none⟩=some (.int .u32 (R i).cost)∧w.cell? ⟨p.rb,i * 3+2,none⟩=some (H i) :=
 ⟨RG.cell (d:=0) rcs_len X.rr (tab_get _ hi) rfl,RG.cell (d:=1) rcs_len X.rr (tab_get _ hi) rfl,RG.cell (d:=2) rcs_len X.rr (tab_get _ hi) rfl⟩
theorem WS.zcell (X:WS w0 p w v L R H Z) {i:Nat} (hi:i<p.N):w.cell? ⟨p.zb,i * 5,none⟩=some (.int .i64 (Z i).node)∧w.cell? ⟨p.zb,i * 5+1,none⟩=some (.int .u32 (Z i).cost)∧w.cell? ⟨p.zb,i * 5+2,none⟩=some (.int .u32 (Z i).h.out)∧w.cell? ⟨p.zb,i * 5+3,none⟩=some (.int .u32 (Z i).h.via)∧w.cell? ⟨p.zb,i * 5+4,none⟩=some (.bool (Z i).h.vr):=RS.cells X.zz (tab_get _ hi)
theorem WS.rfz (X:WS w0 p w v L R H Z) (o:Nat):w.frozen? ⟨p.rb,o,none⟩=false:=RG.fz X.rr o
theorem WS.zfz (X:WS w0 p w v L R H Z) (o:Nat):w.frozen? ⟨p.zb,o,none⟩=false:=RG.fz X.zz o
end
end Go.Proofs.YtddbffoiadmffaaGreat
