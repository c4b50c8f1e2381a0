import Derived.Test.YtldmkoogghemhaaGreatStaMath
import Derived.Test.YtldmkoogghemhaaGreatTrCat
namespace Go.Proofs.YtldmkoogghemhaaGreat
set_option maxHeartbeats 8000000
open Go.RowKit
set_option linter.unusedVariables false
set_option maxRecDepth 100000
theorem ArgAt.vals {w:World} {v:Value} {rs:List Int} (h:ArgAt w v rs):ValsAt w 1 v rs.length (bytesOf rs):=by
 refine⟨by simp [bytesOf],?_⟩
 rcases h with⟨rfl,rfl⟩|h
 ·exact Or.inl ⟨rfl,rfl⟩
 ·exact Or.inr h
theorem Qio (x:Int) (w:World) (hx0:0≤x) (hx:x<4294967296) :
  Calls Tryz.prog 108 #[.int .u32 x,.int .i64 2] w fun e w'=>∃v,e=.returned v∧Buf w w' v (numBytes 2 x):=by
 go_enter Tryz.func108,Tryz.ntmps108
 go_wp2
 go_loopw [5,6] (fun l i wr=>∃k:Nat,k≤2∧i=.int .i64 (1-k)∧Buf w wr l ((numBytes 2 x).take k)) (fun _ i _=>(intOf i+1).toNat)
 case atStart=>exact⟨0,Nat.zero_le _,by simp,Buf.nil (Touch.refl _ _)⟩
 case round =>
  obtain⟨k,hk,rfl,hf⟩:=hrel
  rcases (by omega:k=0∨k=1∨k=2) with rfl|rfl|rfl
  ·obtain⟨la,lc,rfl⟩:=hf.form
   have HF:Hid (Buf w wr _ ((numBytes 2 x).take 0)):=hf
   clear hf
   go_wp2_with (at_builtin;refine Qct rfl (.tmp 13) (.tmp 19) rfl w _ _ rfl HF.out (x/256%256) rfl (by simp [numBytes]) ?_)
   intro v' w1 hb
   have HN:Hid (Buf w w1 v' ((numBytes 2 x).take 1)):=by
    show Buf _ _ _ _
    have e:(numBytes 2 x).take 0++[x/256%256]=(numBytes 2 x).take 1:=by simp [numBytes]
    rw [←e];exact hb
   clear hb HF
   go_wp2
   go_roundw
   case rel=>exact⟨1,by omega,by simp,HN.out⟩
   case measure=>simp [intOf]
  ·obtain⟨la,lc,rfl⟩:=hf.form
   have HF:Hid (Buf w wr _ ((numBytes 2 x).take 1)):=hf
   clear hf
   go_wp2_with (at_builtin;refine Qct rfl (.tmp 13) (.tmp 19) rfl w _ _ rfl HF.out (x%256) rfl (by simp [numBytes]) ?_)
   intro v' w1 hb
   have HN:Hid (Buf w w1 v' ((numBytes 2 x).take 2)):=by
    show Buf _ _ _ _
    have e:(numBytes 2 x).take 1++[x%256]=(numBytes 2 x).take 2:=by simp [numBytes]
    rw [←e];exact hb
   clear hb HF
   go_wp2
   go_roundw
   case rel=>exact⟨2,by omega,by simp,HN.out⟩
   case measure=>simp [intOf]
  ·have HF:Hid (Buf w wr _ (numBytes 2 x)):=hf
   go_wp2
   go_ret
   exact⟨_,rfl,HF.out⟩
theorem Qjh (x:Int) (w:World) (hx0:0≤x) (hx:x<4294967296) :
  Calls Tryz.prog 108 #[.int .u32 x,.int .i64 4] w fun e w'=>∃v,e=.returned v∧Buf w w' v (numBytes 4 x):=by
 go_enter Tryz.func108,Tryz.ntmps108
 go_wp2
 go_loopw [5,6] (fun l i wr=>∃k:Nat,k≤4∧i=.int .i64 (3-k)∧Buf w wr l ((numBytes 4 x).take k)) (fun _ i _=>(intOf i+1).toNat)
 case atStart=>exact⟨0,Nat.zero_le _,by simp,Buf.nil (Touch.refl _ _)⟩
 case round =>
  obtain⟨k,hk,rfl,hf⟩:=hrel
  rcases (by omega:k=0∨k=1∨k=2∨k=3∨k=4) with rfl|rfl|rfl|rfl|rfl
  ·obtain⟨la,lc,rfl⟩:=hf.form
   have HF:Hid (Buf w wr _ ((numBytes 4 x).take 0)):=hf
   clear hf
   go_wp2_with (at_builtin;refine Qct rfl (.tmp 13) (.tmp 19) rfl w _ _ rfl HF.out (x/16777216) rfl (by simp [numBytes]) ?_)
   intro v' w1 hb
   have HN:Hid (Buf w w1 v' ((numBytes 4 x).take 1)):=by
    show Buf _ _ _ _
    have e:(numBytes 4 x).take 0++[x/16777216]=(numBytes 4 x).take 1:=by simp [numBytes];omega
    rw [←e];exact hb
   clear hb HF
   go_wp2
   go_roundw
   case rel=>exact⟨1,by omega,by simp,HN.out⟩
   case measure=>simp [intOf]
  ·obtain⟨la,lc,rfl⟩:=hf.form
   have HF:Hid (Buf w wr _ ((numBytes 4 x).take 1)):=hf
   clear hf
   go_wp2_with (at_builtin;refine Qct rfl (.tmp 13) (.tmp 19) rfl w _ _ rfl HF.out (x/65536%256) rfl (by simp [numBytes]) ?_)
   intro v' w1 hb
   have HN:Hid (Buf w w1 v' ((numBytes 4 x).take 2)):=by
    show Buf _ _ _ _
    have e:(numBytes 4 x).take 1++[x/65536%256]=(numBytes 4 x).take 2:=by simp [numBytes]
    rw [←e];exact hb
   clear hb HF
   go_wp2
   go_roundw
   case rel=>exact⟨2,by omega,by simp,HN.out⟩
   case measure=>simp [intOf]
  ·obtain⟨la,lc,rfl⟩:=hf.form
   have HF:Hid (Buf w wr _ ((numBytes 4 x).take 2)):=hf
   clear hf
   go_wp2_with (at_builtin;refine Qct rfl (.tmp 13) (.tmp 19) rfl w _ _ rfl HF.out (x/256%256) rfl (by simp [numBytes]) ?_)
   intro v' w1 hb
   have HN:Hid (Buf w w1 v' ((numBytes 4 x).take 3)):=by
    show Buf _ _ _ _
    have e:(numBytes 4 x).take 2++[x/256%256]=(numBytes 4 x).take 3:=by simp [numBytes]
    rw [←e];exact hb
   clear hb HF
   go_wp2
   go_roundw
   case rel=>exact⟨3,by omega,by simp,HN.out⟩
   case measure=>simp [intOf]
  ·obtain⟨la,lc,rfl⟩:=hf.form
   have HF:Hid (Buf w wr _ ((numBytes 4 x).take 3)):=hf
   clear hf
   go_wp2_with (at_builtin;refine Qct rfl (.tmp 13) (.tmp 19) rfl w _ _ rfl HF.out (x%256) rfl (by simp [numBytes]) ?_)
   intro v' w1 hb
   have HN:Hid (Buf w w1 v' ((numBytes 4 x).take 4)):=by
    show Buf _ _ _ _
    have e:(numBytes 4 x).take 3++[x%256]=(numBytes 4 x).take 4:=by simp [numBytes]
    rw [←e];exact hb
   clear hb HF
   go_wp2
   go_roundw
   case rel=>exact⟨4,by omega,by simp,HN.out⟩
   case measure=>simp [intOf]
  ·have HF:Hid (Buf w wr _ (numBytes 4 x)):=hf
   go_wp2
   go_ret
   exact⟨_,rfl,HF.out⟩
theorem Qcq (x:Int) (w:World) (hx0:0≤x) (hx:x<65536) :
  Calls Tryz.prog 83 #[.int .u16 x] w fun e w'=>∃v,e=.returned v∧Buf w w' v (numBytes 2 x):=by
 go_enter Tryz.func83,Tryz.ntmps83
 go_wp2_with fail
 refine (Qio x _ hx0 (by omega)).mono ?_
 rintro e w1 ⟨v,rfl,hb⟩
 go_wp2
 go_ret
 exact⟨v,rfl,hb⟩
theorem Qae (x:Int) (w:World) (hx0:0≤x) (hx:x<4294967296) :
  Calls Tryz.prog 84 #[.int .u32 x] w fun e w'=>∃v,e=.returned v∧Buf w w' v (numBytes 4 x):=by
 go_enter Tryz.func84,Tryz.ntmps84
 go_wp2_with fail
 refine (Qjh x _ hx0 hx).mono ?_
 rintro e w1 ⟨v,rfl,hb⟩
 go_wp2
 go_ret
 exact⟨v,rfl,hb⟩
theorem Qhr {l:List Int} {j:Nat} (h:j<l.length):l.take (j+1)=l.take j++[l.getD j 0]:=by
 rw [List.take_add_one,List.getElem?_eq_getElem h]
 simp [List.getD,h]
theorem pow256 {k:Nat} (h:k≤3):(256:Int) ^ k≤16777216:=by
 rcases (by omega:k=0∨k=1∨k=2∨k=3) with rfl|rfl|rfl|rfl <;> decide
theorem Qm6 (v:Value) (rs:List Int) (w:World) (hv:ArgAt w v rs) (hby:∀x∈rs,0≤x∧x<256) (hl:rs.length≤4) :
  Calls Tryz.prog 105 #[v] w fun e w'=>e=.returned (.int .u32 (numOf rs))∧w=w':=by
 obtain⟨va,vc,rfl,hm⟩:=hv.form
 have HV:Hid (ArgAt w (.slice va rs.length vc) rs):=hv
 clear hv
 go_enter Tryz.func105,Tryz.ntmps105
 go_wp2
 go_loopw [3,4] (fun s i wr=>∃(j:Nat) (n:Int),j≤rs.length∧i=.int .i64 (j:Int)∧s=.int .u32 n∧Hid (n=numOf (rs.take j))∧wr=w) (fun _ i _=>rs.length-(intOf i).toNat)
 case atStart=>exact⟨0,0,Nat.zero_le _,rfl,rfl,rfl,rfl⟩
 case round =>
  obtain⟨j,n,hj,rfl,rfl,HN,rfl⟩:=hrel
  have hnb:=Qdd (rs.take j) (fun z hz=>hby z (List.mem_of_mem_take hz))
  rw [←HN.out] at hnb
  rcases Nat.lt_or_ge j rs.length with hlt|hge
  ·have hlt':(j:Int)<(rs.length:Int):=by omega
   obtain⟨g,off,c,e,h1,h2,h3⟩:=HV.out.vals.cells (by omega) (by decide)
   obtain⟨rfl,_,rfl⟩:va=some ⟨g,off,none⟩∧True∧vc=c:=by cases e;exact⟨rfl,trivial,rfl⟩
   have hc:wr.cell? ⟨g,off+j,none⟩=some (.int .u8 (rs.getD j 0)):=h3 j _ (by simp [bytesOf,List.getD,hlt])
   have hz:=hby (rs.getD j 0) (by simp [List.getD,hlt])
   have hs:Hid (256*n+rs.getD j 0=numOf (rs.take (j+1))):=by show _=_;rw [Qhr hlt,Qia,HN.out]
   have hp:=pow256 (k:=(rs.take j).length) (by simp;omega)
   have hn1:n<16777216:=by omega
   obtain⟨hn0,-⟩:=hnb
   generalize rs.getD j 0=z at hc hz hs
   obtain⟨hz0,hz1⟩:=hz
   clear h3 e HN hp
   go_wp2
   go_roundw
   case rel=>exact⟨j+1,_,by omega,by go_num,rfl,hs,trivial⟩
   case measure=>simp [intOf];omega
  ·obtain rfl:j=rs.length:=by omega
   have hlt':¬(rs.length:Int)<(rs.length:Int):=by omega
   have HE:Hid (n=numOf rs):=by show _=_;rw [HN.out,List.take_length]
   clear hnb HN
   go_wp2
   go_ret
   rw [←HE.out]
   exact⟨rfl,rfl⟩
theorem Qib (t:Int) (h0:0≤t) (w:World):Calls Tryz.prog 63 #[.int .u8 t] w fun e w'=>e=.returned (.bool (knownB t))∧w=w':=by
 have HKn:Hid (knownB t=((decide (1≤t)&&decide (t≤5)) || decide (t=7) || (decide (9≤t)&&decide (t≤11)))):=rfl
 generalize knownB t=k at HKn ⊢
 go_enter Tryz.func63,Tryz.ntmps63
 go_wp2
 all_goals go_ret
 all_goals refine⟨Qad ?_,rfl⟩
 all_goals (rw [HKn.out,Bool.eq_iff_iff];simp;omega)
section
variable {ops:Array Oper} {rest:List Oper} {o:Oper} {a:Act} {Q:Exit→Act→World→Prop} {w:World}
theorem Qjx (hgd:o.guard=none) (s x:Operand) (ho:o.op=.call { callee:=.builtin .append,args:=#[s,x],argTypes:=#[57,57] })
  (w0:World) (v:Value) (l:List Int) (hs:a.eval s=v) (hb:Buf w0 w v l) (y z:Int) (hx:a.eval x=.slice (some ⟨w.heap.size,0,none⟩) 2 2) (hl:l.length+2≤1099511627776)
  (h:∀v' w',Buf w0 w' v' (l++[y,z])→wpList Tryz.prog ops Q rest (a.put o.dst v') w'):wpList Tryz.prog ops Q (o::rest) a (w.alloc (.cells #[.int .u8 y,.int .u8 z] 5)) :=
 Qaj hgd s x ho w0 v l hs (hb.keep ((Touch.refl _ w).alloc _)) _ [y,z] hx (Or.inr ⟨_,2,rfl,by simp,by simp [maxLen],fun j u hj=>by
  match j,hj with
  | 0,hj=>simp [bytesOf] at hj;subst hj;simp [go_sem,Addr.add]
  | 1,hj=>simp [bytesOf] at hj;subst hj;simp [go_sem,Addr.add]⟩) (by simp;omega) h
end
theorem Qhj (h:HV) (ok:h.All) (w:World):Calls Tryz.prog 61 #[h.v] w fun e w'=>∃v,e=.returned v∧Buf w w' v (headB h):=by
 have OK:Hid h.All:=ok
 clear ok
 show Calls Tryz.prog 61 #[.agg #[.int .u16 h.age,.int .u8 h.opts,.int .u8 h.typ,.int .u32 h.id,.int .u32 h.adv,.int .i32 h.seq,.int .u16 h.sum,.int .u16 h.len]] w _
 go_enter Tryz.func61,Tryz.ntmps61
 go_wp2_with fail
 have K0:Hid (Hd (w.alloc (.cells #[.int .u16 h.age,.int .u8 h.opts,.int .u8 h.typ,.int .u32 h.id,.int .u32 h.adv,.int .i32 h.seq,.int .u16 h.sum,.int .u16 h.len] 56)) w.heap.size h):=Hd.new w h _
 have T0:Hid (Touch (fun _=>False) w (w.alloc (.cells #[.int .u16 h.age,.int .u8 h.opts,.int .u8 h.typ,.int .u32 h.id,.int .u32 h.adv,.int .i32 h.seq,.int .u16 h.sum,.int .u16 h.len] 56))):=(Touch.refl _ w).alloc _
 generalize w.alloc (.cells #[.int .u16 h.age,.int .u8 h.opts,.int .u8 h.typ,.int .u32 h.id,.int .u32 h.adv,.int .i32 h.seq,.int .u16 h.sum,.int .u16 h.len] 56)=wa at K0 T0 ⊢
 generalize w.heap.size=g at K0 ⊢
 refine Calls.mono (Qcq h.age _ OK.out.a.1 OK.out.a.2) ?_
 rintro e w1 ⟨v1,rfl,b1⟩
 have B1:Hid (Buf wa w1 v1 (numBytes 2 h.age)):=b1
 obtain⟨c0,c1,c2,c3,c4,c5,c6,c7⟩:=K0.out.keep b1.t
 clear b1
 go_wp2_with (at_builtin;refine Qjx rfl (.tmp 7) (.tmp 12) rfl wa _ _ rfl B1.out _ _ rfl (by simp [numBytes]) ?_)
 intro v2 w2 b2
 clear c0 c1 c2 c3 c4 c5 c6 c7 B1
 have B2:Hid (Buf wa w2 v2 (numBytes 2 h.age++[h.opts,h.typ])):=b2
 obtain⟨c0,c1,c2,c3,c4,c5,c6,c7⟩:=K0.out.keep b2.t
 clear b2
 go_wp2_with fail
 refine Calls.mono (Qae h.id _ OK.out.i.1 OK.out.i.2) ?_
 rintro e y2 ⟨u2v,rfl,d2⟩
 clear c0 c1 c2 c3 c4 c5 c6 c7
 have D2:Hid (ArgAt y2 u2v (numBytes 4 h.id)):=d2.arg
 have E2:Hid (Buf wa y2 v2 (numBytes 2 h.age++[h.opts,h.typ])):=B2.out.keep d2.t
 clear d2 B2
 go_wp2_with (at_builtin;refine Qaj rfl (.tmp 14) (.tmp 17) rfl wa _ _ rfl E2.out _ _ rfl D2.out (by simp [numBytes]) ?_)
 intro v3 w3 b3
 clear D2 E2
 have B3:Hid (Buf wa w3 v3 (numBytes 2 h.age++[h.opts,h.typ]++numBytes 4 h.id)):=b3
 obtain⟨c0,c1,c2,c3,c4,c5,c6,c7⟩:=K0.out.keep b3.t
 clear b3
 go_wp2_with fail
 refine Calls.mono (Qae h.adv _ OK.out.v.1 OK.out.v.2) ?_
 rintro e y3 ⟨u3v,rfl,d3⟩
 clear c0 c1 c2 c3 c4 c5 c6 c7
 have D3:Hid (ArgAt y3 u3v (numBytes 4 h.adv)):=d3.arg
 have E3:Hid (Buf wa y3 v3 (numBytes 2 h.age++[h.opts,h.typ]++numBytes 4 h.id)):=B3.out.keep d3.t
 clear d3 B3
 go_wp2_with (at_builtin;refine Qaj rfl (.tmp 19) (.tmp 22) rfl wa _ _ rfl E3.out _ _ rfl D3.out (by simp [numBytes]) ?_)
 intro v4 w4 b4
 clear D3 E3
 have B4:Hid (Buf wa w4 v4 (numBytes 2 h.age++[h.opts,h.typ]++numBytes 4 h.id++numBytes 4 h.adv)):=b4
 obtain⟨c0,c1,c2,c3,c4,c5,c6,c7⟩:=K0.out.keep b4.t
 clear b4
 go_wp2_with fail
 refine Calls.mono (Qae (h.seq%4294967296) _ (by omega) (by omega)) ?_
 rintro e y4 ⟨u4v,rfl,d4⟩
 clear c0 c1 c2 c3 c4 c5 c6 c7
 have D4:Hid (ArgAt y4 u4v (numBytes 4 (h.seq%4294967296))):=d4.arg
 have E4:Hid (Buf wa y4 v4 (numBytes 2 h.age++[h.opts,h.typ]++numBytes 4 h.id++numBytes 4 h.adv)):=B4.out.keep d4.t
 clear d4 B4
 go_wp2_with (at_builtin;refine Qaj rfl (.tmp 24) (.tmp 28) rfl wa _ _ rfl E4.out _ _ rfl D4.out (by simp [numBytes]) ?_)
 intro v5 w5 b5
 clear D4 E4
 have B5:Hid (Buf wa w5 v5 (numBytes 2 h.age++[h.opts,h.typ]++numBytes 4 h.id++numBytes 4 h.adv++numBytes 4 (h.seq%4294967296))):=b5
 obtain⟨c0,c1,c2,c3,c4,c5,c6,c7⟩:=K0.out.keep b5.t
 clear b5
 go_wp2_with fail
 refine Calls.mono (Qcq h.sum _ OK.out.m.1 OK.out.m.2) ?_
 rintro e y5 ⟨u5v,rfl,d5⟩
 clear c0 c1 c2 c3 c4 c5 c6 c7
 have D5:Hid (ArgAt y5 u5v (numBytes 2 h.sum)):=d5.arg
 have E5:Hid (Buf wa y5 v5 (numBytes 2 h.age++[h.opts,h.typ]++numBytes 4 h.id++numBytes 4 h.adv++numBytes 4 (h.seq%4294967296))):=B5.out.keep d5.t
 clear d5 B5
 go_wp2_with (at_builtin;refine Qaj rfl (.tmp 30) (.tmp 33) rfl wa _ _ rfl E5.out _ _ rfl D5.out (by simp [numBytes]) ?_)
 intro v6 w6 b6
 clear D5 E5
 have B6:Hid (Buf wa w6 v6 (numBytes 2 h.age++[h.opts,h.typ]++numBytes 4 h.id++numBytes 4 h.adv++numBytes 4 (h.seq%4294967296)++numBytes 2 h.sum)):=b6
 obtain⟨c0,c1,c2,c3,c4,c5,c6,c7⟩:=K0.out.keep b6.t
 clear b6
 go_wp2_with fail
 refine Calls.mono (Qcq h.len _ OK.out.l.1 OK.out.l.2) ?_
 rintro e y6 ⟨u6v,rfl,d6⟩
 clear c0 c1 c2 c3 c4 c5 c6 c7
 have D6:Hid (ArgAt y6 u6v (numBytes 2 h.len)):=d6.arg
 have E6:Hid (Buf wa y6 v6 (numBytes 2 h.age++[h.opts,h.typ]++numBytes 4 h.id++numBytes 4 h.adv++numBytes 4 (h.seq%4294967296)++numBytes 2 h.sum)):=B6.out.keep d6.t
 clear d6 B6
 go_wp2_with (at_builtin;refine Qaj rfl (.tmp 35) (.tmp 38) rfl wa _ _ rfl E6.out _ _ rfl D6.out (by simp [numBytes]) ?_)
 intro v7 w7 b7
 clear D6 E6
 have B:Hid (Buf wa w7 v7 (headB h)):=b7
 clear b7
 go_wp2_with fail
 go_ret
 exact⟨_,rfl,B.out.back T0.out⟩
end Go.Proofs.YtldmkoogghemhaaGreat
