import Derived.Test.YtddbffoiadmffaaGreatGrBld
namespace Go.Proofs.YtddbffoiadmffaaGreat
set_option maxHeartbeats 8000000
open Go.RowKit
set_option linter.unusedVariables false
set_option maxRecDepth 100000
def findI (G:List NV) (b:Bool) (i:Int):Int :=
 match G with
 | [] => -1
 | n::r=>if n.net==b&&n.id==i then 0 else (if findI r b i<0 then -1 else findI r b i+1)
theorem Qmd {G:List NV} {b:Bool} {i:Int} {k:Nat} {n:NV} (hk:G[k]?=some n) (hn:(n.net==b&&n.id==i)=true) (ha:∀j m,j<k→G[j]?=some m→(m.net==b&&m.id==i)=false):findI G b i=k:=by
 induction G generalizing k with
 | nil=>simp at hk
 | cons x r ih =>
  cases k with
  | zero =>
   obtain rfl:x=n:=by simpa using hk
   unfold findI
   rw [if_pos hn]
   rfl
  | succ k =>
   have h0:=ha 0 x (by omega) rfl
   have:=ih (k:=k) (by simpa using hk) (fun j m hj hm=>ha (j+1) m (by omega) (by simpa using hm))
   unfold findI
   rw [h0,this,if_neg (by simp),if_neg (by omega)]
   omega
theorem Qkz {G:List NV} {b:Bool} {i:Int} (ha:∀m∈G,(m.net==b&&m.id==i)=false):findI G b i = -1:=by
 induction G with
 | nil=>rfl
 | cons x r ih =>
  have:=ih (fun m hm=>ha m (by simp [hm]))
  unfold findI
  rw [ha x (by simp),this]
  rfl
theorem Qoc {w:World} {v:Value} {D:List ND} (h:ValsAt w 7 v D.length (nodeC D)) {j:Nat} {d:ND} (hj:D[j]?=some d):∃g off c,v=.slice (some ⟨g,off,none⟩) D.length c∧∀i u,d.cells[i]?=some u→w.cell? ⟨g,off+(j*7+i),none⟩=some u:=by
 have hlt:=(List.getElem?_eq_some_iff.mp hj).1
 obtain⟨g,off,c,e,_,_,hc⟩:=ValsAt.cells h (by omega) (by omega)
 refine⟨g,off,c,e,fun i u hu=>hc _ _ ?_⟩
 have hi:i<7:=(List.getElem?_eq_some_iff.mp hu).1
 rw [Qc1 D j i d hj hi]
 exact hu
theorem Qrb (d:ND) (ea:Option Addr) (en ec:Nat) (sa:Option Addr) (sn sc:Nat) (he:d.ve=.slice ea en ec) (hs:d.vs=.slice sa sn sc) (b1 b2:Nat) (b:Bool) (i:Int) (w:World) (c1:w.cell? ⟨b1,0,none⟩=some (.bool b)) (c2:w.cell? ⟨b2,0,none⟩=some (.int .u32 i)) :
  Calls Tryz.prog 57 #[.agg #[.bool d.n.net,.int .u32 d.n.id,.int .u32 d.n.addr,.int .u8 d.n.bits,.int .u8 d.n.flags,.slice ea en ec,.slice sa sn sc],.pointer (some ⟨b1,0,none⟩),.pointer (some ⟨b2,0,none⟩)] w fun e w'=>e=.returned (.bool (d.n.net==b&&d.n.id==i))∧Touch (fun _=>False) w w':=by
 have l1:=Qaa c1
 have l2:=Qaa c2
 cases hb:(d.n.net==b) with
 | true =>
  rw [Bool.true_and]
  go_enter Tryz.func57,Tryz.ntmps57
  go_wp2
  go_ret
  exact⟨Qaj rfl,(Touch.refl _ _).alloc _⟩
 | false =>
  rw [Bool.false_and]
  go_enter Tryz.func57,Tryz.ntmps57
  go_wp2
  go_ret
  exact⟨Qaj rfl,(Touch.refl _ _).alloc _⟩
theorem ND.Ok.forms {base:Nat} {w:World} {d:ND} (h:d.Ok base w):∃ea ec sa sc,d.ve=.slice ea d.n.edges.length ec∧d.vs=.slice sa d.n.stubs.length sc:=by
 obtain⟨ea,ec,e1⟩:=Qah h.e
 obtain⟨sa,sc,e2⟩:=Qah h.s
 exact⟨ea,ec,sa,sc,e1,e2⟩
theorem Qp8 (v:Value) (D:List ND) (b1 b2:Nat) (b:Bool) (i:Int) (w:World) (hv:ValsAt w 7 v D.length (nodeC D)) (hk:∀d∈D,d.Ok 0 w) (hn:D.length≤1000000) (c1:w.cell? ⟨b1,0,none⟩=some (.bool b)) (c2:w.cell? ⟨b2,0,none⟩=some (.int .u32 i)) :
  Calls Tryz.prog 56 #[v,.func (.func 57) #[] #[.pointer (some ⟨b1,0,none⟩),.pointer (some ⟨b2,0,none⟩)]] w fun e w'=>e=.returned (.int .i64 (findI (D.map ND.n) b i))∧Touch (fun _=>False) w w':=by
 obtain⟨va,vc,rfl,-⟩:=ValsAt.form hv
 have HV:Hid (ValsAt w 7 (.slice va D.length vc) D.length (nodeC D)):=hv
 have HK:Hid (∀d∈D,d.Ok 0 w):=hk
 have HC:Hid (w.cell? ⟨b1,0,none⟩=some (.bool b)∧w.cell? ⟨b2,0,none⟩=some (.int .u32 i)):=⟨c1,c2⟩
 have hn':(D.length:Int)≤1000000:=by omega
 have HI:Hid (∀(k:Nat) (n:NV),(D.map ND.n)[k]?=some n→(n.net==b&&n.id==i)=true→(∀(j:Nat) (m:NV),j<k→(D.map ND.n)[j]?=some m→(m.net==b&&m.id==i)=false)→findI (D.map ND.n) b i=k):=fun k n h1 h2 h3=>Qmd h1 h2 h3
 have HM:Hid ((∀m∈D.map ND.n,(m.net==b&&m.id==i)=false)→findI (D.map ND.n) b i = -1):=Qkz
 clear hv hk c1 c2
 generalize findI (D.map ND.n) b i=z at *
 go_enter Tryz.func56,Tryz.ntmps56
 go_wp2
 go_loopg [5,8] D.length (fun gg _ s8 wr=>∃kk:Nat,kk≤D.length∧D.length-kk≤gg∧s8=.int .i64 kk∧Hid (∀(j:Nat) (m:NV),j<kk→(D.map ND.n)[j]?=some m→(m.net==b&&m.id==i)=false)∧Touch (fun _=>False) w wr)
 case atStart=>exact⟨0,Nat.zero_le _,by omega,rfl,fun j m hj=>absurd hj (by omega),Touch.refl _ _⟩
 case round =>
  obtain⟨kk,hkk,hg,rfl,HA,t⟩:=hrel
  have HT:Hid (Touch (fun _=>False) w wr):=t
  rcases Nat.lt_or_ge kk D.length with h|h
  ·have hlt:(kk:Int)<(D.length:Int):=by omega
   obtain⟨d,hd⟩:∃d,D[kk]?=some d:=⟨D[kk],by simp [h]⟩
   obtain⟨g,off,c,eg,hc⟩:=Qoc (ValsAt.keep HV.out t) hd
   simp only [Value.slice.injEq] at eg
   obtain⟨rfl,-,rfl⟩:=eg
   obtain⟨ea,ec,sa,sc,e1,e2⟩:=(HK.out d (List.mem_of_getElem? hd)).forms
   have z0:wr.cell? ⟨g,off+kk*7,none⟩=some (.bool d.n.net):=hc 0 _ rfl
   have z1:wr.cell? ⟨g,off+kk*7+1,none⟩=some (.int .u32 d.n.id):=by rw [Nat.add_assoc];exact hc 1 _ rfl
   have z2:wr.cell? ⟨g,off+kk*7+2,none⟩=some (.int .u32 d.n.addr):=by rw [Nat.add_assoc];exact hc 2 _ rfl
   have z3:wr.cell? ⟨g,off+kk*7+3,none⟩=some (.int .u8 d.n.bits):=by rw [Nat.add_assoc];exact hc 3 _ rfl
   have z4:wr.cell? ⟨g,off+kk*7+4,none⟩=some (.int .u8 d.n.flags):=by rw [Nat.add_assoc];exact hc 4 _ rfl
   have z5:wr.cell? ⟨g,off+kk*7+5,none⟩=some (.slice ea d.n.edges.length ec):=by rw [←e1,Nat.add_assoc];exact hc 5 _ rfl
   have z6:wr.cell? ⟨g,off+kk*7+6,none⟩=some (.slice sa d.n.stubs.length sc):=by rw [←e2,Nat.add_assoc];exact hc 6 _ rfl
   have HF:=Qrb d ea d.n.edges.length ec sa d.n.stubs.length sc e1 e2 b1 b2 b i wr (t.cellN HC.out.1) (t.cellN HC.out.2)
   have hmd:(D.map ND.n)[kk]?=some d.n:=by rw [List.getElem?_map,hd];rfl
   cases hb:(d.n.net==b&&d.n.id==i) with
   | false =>
    rw [hb] at HF
    have HN:Hid (∀(j:Nat) (m:NV),j<kk+1→(D.map ND.n)[j]?=some m→(m.net==b&&m.id==i)=false):=fun j m hj hm=>by
     rcases Nat.lt_or_ge j kk with h' | h'
     ·exact HA.out j m h' hm
     ·obtain rfl:j=kk:=by omega
      rw [hmd] at hm
      cases hm
      exact hb
    clear t hd hmd HA HV HK HI HM hc e1 e2 hb
    go_wp2_with fail
    refine HF.mono ?_
    rintro e w1 ⟨rfl,t1⟩
    have T1:Hid _:=t1
    clear t1 HF z0 z1 z2 z3 z4 z5 z6
    go_wp2
    go_roundg (D.length-(kk+1))
    case measure=>omega
    case rel=>exact⟨kk+1,by omega,by omega,by go_num,HN,HT.out.trans T1.out⟩
   | true =>
    rw [hb] at HF
    have HZ:Hid (z=kk):=HI.out kk d.n hmd hb HA.out
    clear t hd hmd HA HV HK HI HM hc e1 e2 hb
    go_wp2_with fail
    refine HF.mono ?_
    rintro e w1 ⟨rfl,t1⟩
    have T1:Hid _:=t1
    clear t1 HF z0 z1 z2 z3 z4 z5 z6
    go_wp2
    go_ret
    exact⟨Qav HZ.out.symm,HT.out.trans T1.out⟩
  ·have hlt:¬(kk:Int)<(D.length:Int):=by omega
   have HZ:Hid (z = -1):=HM.out (fun m hm=>by
    obtain⟨j,hj⟩:=List.mem_iff_getElem?.1 hm
    exact HA.out j m (by have:=(List.getElem?_eq_some_iff.1 hj).1;simp at this;omega) hj)
   clear t HA HV HK HI HM
   go_wp2
   go_ret
   exact⟨Qav HZ.out.symm,HT.out⟩
theorem Qrn (v:Value) (D:List ND) (b:Bool) (i:Int) (w:World) (hv:ValsAt w 7 v D.length (nodeC D)) (hk:∀d∈D,d.Ok 0 w) (hn:D.length≤1000000) :
  Calls Tryz.prog 27 #[v,.bool b,.int .u32 i] w fun e w'=>e=.returned (.int .i64 (findI (D.map ND.n) b i))∧Touch (fun _=>False) w w':=by
 have T0:Touch (fun _=>False) w ((w.alloc (.cells #[.bool b] 4)).alloc (.cells #[.int .u32 i] 23)):=((Touch.refl _ _).alloc _).alloc _
 have HF:=Qp8 v D w.heap.size (w.heap.size+1) b i _ (ValsAt.keep hv T0) (fun d hd=>(hk d hd).touch T0 (fun _ _ h=>h)) hn (by simp [go_sem]) (by simp [go_sem])
 have HT:Hid _:=T0
 obtain⟨va,vc,rfl,-⟩:=ValsAt.form hv
 clear hv hk T0
 generalize findI (D.map ND.n) b i=z at *
 generalize D.length=n at *
 go_enter Tryz.func27,Tryz.ntmps27
 go_wp2_with fail
 refine HF.mono ?_
 rintro e w1 ⟨rfl,t1⟩
 have T1:Hid _:=t1
 clear t1 HF
 go_wp2
 go_ret
 exact⟨rfl,HT.out.trans T1.out⟩
end Go.Proofs.YtddbffoiadmffaaGreat
