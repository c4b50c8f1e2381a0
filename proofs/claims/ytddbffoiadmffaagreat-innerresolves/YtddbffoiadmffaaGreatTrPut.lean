import Derived.Test.YtddbffoiadmffaaGreatTrBef
import Derived.OwnWalk
namespace Go.Proofs.YtddbffoiadmffaaGreat
set_option maxHeartbeats 8000000
open Go.RowKit
set_option linter.unusedVariables false
set_option maxRecDepth 100000
theorem Qor {w:World} {base n:Nat} {v:Value} {xs:List Value} (h:w.ownsRow base 103 3 v n xs) (j:Nat) (hj:j≤n) (hn:n≤1000000) :
  ∃u,(∀w,Sem.run Tryz.prog (Instr.slice 80 v none (some (.int .i64 (j:Int))) none) w=.ok u w)∧ValsAt w 3 u j (xs.take (j*3)):=by
 have hlen:(xs.take (j*3)).length=j*3:=by rw [List.length_take,h.1];have:j*3≤n*3:=Nat.mul_le_mul_right _ hj;omega
 rcases h.2 with⟨rfl,rfl⟩|⟨g,cap,cur,rfl,hb,hh,h1,h2,h3,h4⟩
 ·obtain rfl:j=0:=by omega
  refine⟨.slice none 0 0,fun w=>?_,hlen,Or.inl ⟨rfl,rfl⟩⟩
  simp [Instr.slice,Instr.sliceBounds,Instr.sliceBound,go_sem]
 ·have h2':(cap:Int)≤9223372036854775807:=by unfold maxLen at h2;omega
  have h0:(0:Int)≤(j:Int):=by omega
  have h5:(j:Int)≤(cap:Int):=by omega
  refine⟨.slice (some ⟨g,0,none⟩) j cap,fun w=>?_,hlen,Or.inr ⟨_,_,rfl,by omega,h2,fun q u hq=>?_⟩⟩
  ·simp [Instr.slice,Instr.sliceBounds,Instr.sliceBound,go_sem,h0]
   first|done|omega|(intro hh;omega)
  ·have hq':=(List.getElem?_eq_some_iff.1 hq).1
   rw [hlen] at hq'
   rw [List.getElem?_take,if_pos hq',←h4,List.getElem?_take] at hq
   split at hq
   ·rw [Qae,Nat.zero_add]
    simp [World.cell?,hh]
    simpa using hq
   ·cases hq
theorem Qhn {w:World} {base n:Nat} {v:Value} {xs:List Value} (h:w.ownsRow base 103 3 v n xs) (j:Nat) (hj:j≤n) (hn:n≤1000000) :
  ∃u,(∀w,Sem.run Tryz.prog (Instr.slice 80 v (some (.int .i64 (j:Int))) none none) w=.ok u w)∧ValsAt w 3 u (n-j) (xs.drop (j*3)):=by
 have hlen:(xs.drop (j*3)).length=(n-j)*3:=by rw [List.length_drop,h.1,Nat.sub_mul]
 rcases h.2 with⟨rfl,rfl⟩|⟨g,cap,cur,rfl,hb,hh,h1,h2,h3,h4⟩
 ·obtain rfl:j=0:=by omega
  refine⟨.slice none 0 0,fun w=>?_,hlen,Or.inl ⟨rfl,rfl⟩⟩
  simp [Instr.slice,Instr.sliceBounds,Instr.sliceBound,go_sem]
 ·have h2':(cap:Int)≤9223372036854775807:=by unfold maxLen at h2;omega
  have h0:(0:Int)≤(j:Int):=by omega
  have h5:(j:Int)≤(n:Int):=by omega
  have h6:(n:Int)≤(cap:Int):=by omega
  have cell:∀q u,(xs.drop (j*3))[q]?=some u→w.cell? ⟨g,j*3+q,none⟩=some u:=fun q u hq=>by
   rw [List.getElem?_drop,←h4,List.getElem?_take] at hq
   split at hq
   ·simp [World.cell?,hh]
    simpa using hq
   ·cases hq
  by_cases hz:cap=j
  ·refine⟨.slice (some ⟨g,0,none⟩) (n-j) (cap-j),fun w=>?_,hlen,Or.inr ⟨_,_,rfl,by omega,by unfold maxLen at *;omega,fun q u hq=>?_⟩⟩
   ·simp [Instr.slice,Instr.sliceBounds,Instr.sliceBound,go_sem,h0,hz]
    first|done|omega|(intro hh;omega)
   ·have:=(List.getElem?_eq_some_iff.1 hq).1
    rw [hlen] at this
    have e:n-j=0:=by omega
    rw [e] at this
    omega
  ·refine⟨.slice (some ⟨g,j*3,none⟩) (n-j) (cap-j),fun w=>?_,hlen,Or.inr ⟨_,_,rfl,by omega,by unfold maxLen at *;omega,fun q u hq=>by rw [Qae];exact cell q u hq⟩⟩
   simp [Instr.slice,Instr.sliceBounds,Instr.sliceBound,go_sem,h0,hz]
   first|done|omega|(intro hh;omega)
theorem Qjh {α:Type} {cs:α→List Value} {k:Nat} (hk:∀x,(cs x).length=k) (l:List α) (n:Nat):cellsG cs (l.drop n)=(cellsG cs l).drop (n*k):=by
 rcases Nat.lt_or_ge l.length n with h|h
 ·rw [List.drop_of_length_le (by omega),List.drop_of_length_le (by rw [Qai hk];exact Nat.mul_le_mul_right k (by omega))]
  rfl
 ·have e:=congrArg (cellsG cs) (List.take_append_drop n l)
  rw [Qaq] at e
  rw [←e]
  exact (List.drop_left' (by rw [Qai hk];simp [Nat.min_eq_left h])).symm
theorem Qs2 {h:HK} {l:List HK} {i:Nat} (hp:plc h l=i) (hn:l[i]?≠some h):pt h l=l.take i++h::l.drop i:=by
 rw [Qwo,hp,if_neg hn]
theorem Qjo {w w':World} {v:Value} {h:HK} {l:List HK} {i N:Nat} (hp:pt h l=l.take i++h::l.drop i) (hN:l.length=N) (hi:i≤N) (b:VBuf 103 3 w w' v (0+i+1+(N-i)) (cellsG HK.cs []++(cellsG HK.cs l).take (i*3)++h.cs++(cellsG HK.cs l).drop (i*3))):HD w w' v (pt h l):=by
 have e1:(pt h l).length=0+i+1+(N-i):=by rw [hp];simp;omega
 have e2:cellsG HK.cs (pt h l)=cellsG HK.cs []++(cellsG HK.cs l).take (i*3)++h.cs++(cellsG HK.cs l).drop (i*3):=by
  rw [hp,←Qe7 HK.len,←Qjh HK.len]
  simp [cellsG]
 unfold HD
 rw [e1,e2]
 exact b
theorem Qjn (w:World) (h:HK) (T:TypeId):ValsAt (w.alloc (.cells #[.int .u32 h.out,.int .u32 h.via,.bool h.vr] T)) 3 (.slice (some ⟨w.heap.size,0,none⟩) 1 1) 1 h.cs:=by
 refine⟨rfl,Or.inr ⟨_,1,rfl,Nat.le_refl _,by unfold maxLen;omega,fun j u hj=>?_⟩⟩
 rcases (by have:=(List.getElem?_eq_some_iff.1 hj).1;simp [HK.cs] at this;omega:j=0∨j=1∨j=2) with rfl|rfl|rfl <;> (simp [HK.cs] at hj;subst hj;simp [Addr.add,go_sem])
theorem Qj5 (w0 w:World) (v:Value) (l:List HK) (h:HK) (X:HD w0 w v l) (hl:l.length≤1000000) :
  Calls Tryz.prog 42 #[v,.agg #[.int .u32 h.out,.int .u32 h.via,.bool h.vr]] w fun e w'=>∃v',e=.returned v'∧HD w0 w' v' (pt h l)∧Touch (fun _=>False) w w':=by
 obtain⟨ua,uc,rfl⟩:=X.form
 have hra:RwAt HK.cs 3 w ua l:=by
  obtain⟨a',c',e,h3⟩:=(HV3.ra X.vals).out
  injection e with e1 e2 e3
  subst e1
  exact h3
 have T0:Touch (fun _=>False) w (w.alloc (.cells #[.int .u32 h.out,.int .u32 h.via,.bool h.vr] 103)):=(Touch.refl _ _).alloc _
 have RB:Row (w.alloc (.cells #[.int .u32 h.out,.int .u32 h.via,.bool h.vr] 103)) w.heap.size 103 [.int .u32 h.out,.int .u32 h.via,.bool h.vr]:=Qac w 103 #[.int .u32 h.out,.int .u32 h.via,.bool h.vr]
 have HX:Hid _:=X
 have HRA:Hid _:=hra
 have HLN:Hid (l.length≤1000000):=hl
 have hl1:(l.length:Int)≤1000000:=by omega
 generalize hN:l.length=N at *
 have HN:Hid _:=hN
 clear X hra hl hN
 go_enter Tryz.func42,Tryz.ntmps42
 go_wp2_with fail
 generalize w.alloc (.cells #[.int .u32 h.out,.int .u32 h.via,.bool h.vr] 103)=wa at *
 generalize w.heap.size=hb at *
 have T0:Hid _:=T0
 have HRB:Hid (Row wa hb 103 [.int .u32 h.out,.int .u32 h.via,.bool h.vr]):=RB
 clear RB
 go_loopw [5] (fun s5 wx=>∃i:Nat,s5=.int .i64 i∧i≤N∧Touch (fun _=>False) wa wx∧Hid (∀k y,k<i→l[k]?=some y→cH y h<0)) (fun s5 _=>N-(intOf s5).toNat)
 case atStart=>exact⟨0,rfl,Nat.zero_le _,Touch.refl _ _,fun k y h=>by omega⟩
 case round =>
  obtain⟨i,rfl,hi,tw,HpB⟩:=hrel
  have TW:Hid _:=tw
  clear tw
  by_cases hiN:i<N
  ·obtain⟨x,hx⟩:∃x,l[i]?=some x:=⟨_,List.getElem?_eq_getElem (by have:=HN.out;omega)⟩
   have HXI:Hid _:=hx
   rcases HRA.out with e|⟨g,o,rfl,hc⟩
   ·rw [e] at hx;cases hx
   have q:=fun d u hd=>TW.out.cellN (T0.out.cellN (hc i x hx d u hd))
   have q0:wr.cell? ⟨g,o+i*3,none⟩=some (.int .u32 x.out):=q 0 _ rfl
   have q1:wr.cell? ⟨g,o+i*3+1,none⟩=some (.int .u32 x.via):=q 1 _ rfl
   have q2:wr.cell? ⟨g,o+i*3+2,none⟩=some (.bool x.vr):=q 2 _ rfl
   have b0:wr.cell? ⟨hb,0,none⟩=some (.int .u32 h.out):=TW.out.cellN (HRB.out.cell 0)
   have b1:wr.cell? ⟨hb,1,none⟩=some (.int .u32 h.via):=TW.out.cellN (HRB.out.cell 1)
   have b2:wr.cell? ⟨hb,2,none⟩=some (.bool h.vr):=TW.out.cellN (HRB.out.cell 2)
   have hi0:(0:Int)≤(i:Int):=by omega
   have hi1:(i:Int)<(N:Int):=by omega
   have st:=SnX.start wr
   have z0:=Qay q0
   have z1:=Qay q1
   have z2:=Qay q2
   have y0:=Qay b0
   have y1:=Qay b1
   have y2:=Qay b2
   clear q hc hx q0 q1 q2 b0 b1 b2
   by_cases hq:cH x h<0
   ·have HC:Hid (∀w,Calls Tryz.prog 83 #[.agg #[.int .u32 x.out,.int .u32 x.via,.bool x.vr],.agg #[.int .u32 h.out,.int .u32 h.via,.bool h.vr]] w fun e w'=>e=.returned (.bool true)∧Touch (fun _=>False) w w'):=fun w=>by have:=Qfq x h w;rwa [decide_eq_true hq] at this
    have HB2:Hid (∀k y,k<i+1→l[k]?=some y→cH y h<0):=by
     intro k y hk hy
     rcases Nat.lt_or_ge k i with h1|h1
     ·exact HpB.out k y h1 hy
     ·have:k=i:=by omega
      subst this
      rw [HXI.out] at hy
      injection hy with hy
      rw [←hy];exact hq
    clear hq
    go_upto_region 2 with fail
    go_region_held3 (fun w'=>SnX wr w') (with_reducible assumption) ((go_at_call 83;refine Calls.mono (HC.out _) ?_;rintro e wx ⟨rfl,tu⟩;have stx:SnX wr wx:=SnX.trans (by with_reducible assumption) tu))
    go_wp2_with fail
    go_roundw
    case rel=>exact⟨i+1,by go_num,by omega,TW.out.trans stx.t,HB2⟩
    case measure=>simp [intOf];omega
   ·have HC:Hid (∀w,Calls Tryz.prog 83 #[.agg #[.int .u32 x.out,.int .u32 x.via,.bool x.vr],.agg #[.int .u32 h.out,.int .u32 h.via,.bool h.vr]] w fun e w'=>e=.returned (.bool false)∧Touch (fun _=>False) w w'):=fun w=>by have:=Qfq x h w;rwa [decide_eq_false hq] at this
    have hpl:plc h l=i:=Qso h l i (by have:=HN.out;omega) HpB.out (fun y hy=>by rw [HXI.out] at hy;injection hy with hy;rw [←hy];exact hq)
    have HPL:Hid _:=hpl
    clear hq hpl
    go_upto_region 2 with fail
    go_region_held3 (fun w'=>SnX wr w') (with_reducible assumption) ((go_at_call 83;refine Calls.mono (HC.out _) ?_;rintro e wx ⟨rfl,tu⟩;have stx:SnX wr wx:=SnX.trans (by with_reducible assumption) tu))
    go_wp2_with fail
    have q0:=z0 _ stx
    have q1:=z1 _ stx
    have q2:=z2 _ stx
    have b0:=y0 _ stx
    have b1:=y1 _ stx
    have b2:=y2 _ stx
    clear z0 z1 z2 y0 y1 y2
    have HE:=eqHop6 x h
    by_cases hxh:x=h
    ·subst hxh
     have HEE:∀w,(Op.equalIn 10000 103 (.agg #[.int .u32 x.out,.int .u32 x.via,.bool x.vr]) (.agg #[.int .u32 x.out,.int .u32 x.via,.bool x.vr])).run Tryz.prog w=.ok true w:=fun w=>by rw [eqHop6];simp
     clear HE
     have HZ:Hid (∀w',Touch (fun _=>False) wr w'→HD w0 w' (.slice (some ⟨g,o,none⟩) N uc) (pt x l)∧Touch (fun _=>False) w w'):=by
      intro w' t
      refine⟨?_,(T0.out.trans TW.out).trans t⟩
      have e:pt x l=l:=by rw [Qwo,HPL.out,if_pos HXI.out]
      rw [e]
      have h:=HX.out
      have:=VBuf.keep h ((T0.out.trans TW.out).trans t)
      unfold HD
      rw [HN.out]
      exact this
     go_quiet (fail)
     go_wp2_with fail
     go_ret
     exact⟨_,rfl,HZ.out _ (by first|exact stx.t|exact stx.t.drewN _|exact stx.t.drew)⟩
    ·have HEE:∀w,(Op.equalIn 10000 103 (.agg #[.int .u32 x.out,.int .u32 x.via,.bool x.vr]) (.agg #[.int .u32 h.out,.int .u32 h.via,.bool h.vr])).run Tryz.prog w=.ok false w:=fun w=>by rw [eqHop6];simp [hxh]
     have HPT:Hid (pt h l=l.take i++h::l.drop i):=Qs2 HPL.out (by rw [HXI.out];intro e;injection e with e;exact hxh e)
     clear HE hxh
     go_quiet (fail)
     obtain⟨uT,hsT,avT⟩:=Qor HX.out.own i hi (by have:=HLN.out;omega)
     obtain⟨uF,hsF,avF⟩:=Qhn HX.out.own i hi (by have:=HLN.out;omega)
     have HAT:Hid (ValsAt w 3 uT _ _):=avT
     have HAF:Hid (ValsAt w 3 uF _ _):=avF
     clear avT avF
     have TWW:Hid (∀w',Touch (fun _=>False) wr w'→Touch (fun _=>False) w w'):=fun w' t=>(T0.out.trans TW.out).trans t
     go_wp2_with (first
      | (at_builtin;refine Qbp rfl (.tmp 34) (.tmp 37) 80 rfl 103 3 12 _ Tryz.underlying80 infoHop6 rfl (by omega) (by omega) wa _ 0 (cellsG HK.cs []) rfl (VBuf.nil _ _ (TW.out.trans (by first|exact Touch.refl _ _|exact (Touch.refl _ _).drew|exact (Touch.refl _ _).drewN _|exact stx.t|exact stx.t.drewN _|exact stx.t.drew))) _ i ((cellsG HK.cs l).take (i*3)) rfl (HAT.out.keep (TWW.out _ (by first|exact Touch.refl _ _|exact (Touch.refl _ _).drew|exact (Touch.refl _ _).drewN _|exact stx.t|exact stx.t.drewN _|exact stx.t.drew))) (fun u hu=>oneCellH l u (List.mem_of_mem_take hu)) (by have:=HLN.out;omega) ?_;intro v1 w1 b1;have B1:Hid (VBuf 103 3 wa w1 v1 _ _):=b1;have d0:w1.cell? ⟨hb,0,none⟩=some (.int .u32 h.out):=b1.t.cellN (HRB.out.cell 0);have d1:w1.cell? ⟨hb,1,none⟩=some (.int .u32 h.via):=b1.t.cellN (HRB.out.cell 1);have d2:w1.cell? ⟨hb,2,none⟩=some (.bool h.vr):=b1.t.cellN (HRB.out.cell 2);clear b1)
      | (at_builtin;refine Qbp rfl (.tmp 39) (.tmp 41) 80 rfl 103 3 12 _ Tryz.underlying80 infoHop6 rfl (by omega) (by omega) wa _ _ _ rfl (B1.out.keep ((Touch.refl _ _).alloc _)) _ 1 h.cs rfl (Qjn _ _ _) (fun u hu=>by simp [HK.cs] at hu;rcases hu with rfl|rfl|rfl <;> rfl) (by have:=HLN.out;omega) ?_;intro v2 w2 b2;have B2:Hid (VBuf 103 3 wa w2 v2 _ _):=b2;clear b2 d0 d1 d2)
      | (at_builtin;refine Qbp rfl (.tmp 43) (.tmp 46) 80 rfl 103 3 12 _ Tryz.underlying80 infoHop6 rfl (by omega) (by omega) wa _ _ _ rfl B2.out _ (N-i) ((cellsG HK.cs l).drop (i*3)) rfl (HAF.out.keep (T0.out.trans B2.out.t)) (fun u hu=>oneCellH l u (List.mem_of_mem_drop hu)) (by have:=HLN.out;omega) ?_;intro v3 w3 b3;have B3:Hid (HD w0 w3 v3 (pt h l)∧Touch (fun _=>False) _ w3):=⟨(Qjo HPT.out HN.out hi b3).back (HX.out.t.trans T0.out),T0.out.trans (Qjo HPT.out HN.out hi b3).t⟩;clear b3))
     go_ret
     exact⟨_,rfl,B3.out.1,B3.out.2⟩
  ·have hii:i=N:=by omega
   subst hii
   have hd:decide ((i:Int)<(i:Int))=false:=by simp
   have hpl:plc h l=i:=Qso h l i (by have:=HN.out;omega) HpB.out (fun y hy=>by rw [List.getElem?_eq_none (by have:=HN.out;omega)] at hy;cases hy)
   have HPT:Hid (pt h l=l.take i++h::l.drop i):=Qs2 hpl (by rw [List.getElem?_eq_none (by have:=HN.out;omega)];simp)
   clear hpl
   go_upto_region 2 with fail
   go_quiet (fail)
   go_wp2_with fail
   go_quiet (fail)
   obtain⟨uT,hsT,avT⟩:=Qor HX.out.own i hi (by have:=HLN.out;omega)
   obtain⟨uF,hsF,avF⟩:=Qhn HX.out.own i hi (by have:=HLN.out;omega)
   have HAT:Hid (ValsAt w 3 uT _ _):=avT
   have HAF:Hid (ValsAt w 3 uF _ _):=avF
   clear avT avF
   have TWW:Hid (∀w',Touch (fun _=>False) wr w'→Touch (fun _=>False) w w'):=fun w' t=>(T0.out.trans TW.out).trans t
   go_wp2_with (first
    | (at_builtin;refine Qbp rfl (.tmp 34) (.tmp 37) 80 rfl 103 3 12 _ Tryz.underlying80 infoHop6 rfl (by omega) (by omega) wa _ 0 (cellsG HK.cs []) rfl (VBuf.nil _ _ (TW.out.trans (by first|exact Touch.refl _ _|exact (Touch.refl _ _).drew|exact (Touch.refl _ _).drewN _|exact ((Touch.refl _ _).drewN _).drewN _))) _ i ((cellsG HK.cs l).take (i*3)) rfl (HAT.out.keep (TWW.out _ (by first|exact Touch.refl _ _|exact (Touch.refl _ _).drew|exact (Touch.refl _ _).drewN _|exact ((Touch.refl _ _).drewN _).drewN _))) (fun u hu=>oneCellH l u (List.mem_of_mem_take hu)) (by have:=HLN.out;omega) ?_;intro v1 w1 b1;have B1:Hid (VBuf 103 3 wa w1 v1 _ _):=b1;have d0:w1.cell? ⟨hb,0,none⟩=some (.int .u32 h.out):=b1.t.cellN (HRB.out.cell 0);have d1:w1.cell? ⟨hb,1,none⟩=some (.int .u32 h.via):=b1.t.cellN (HRB.out.cell 1);have d2:w1.cell? ⟨hb,2,none⟩=some (.bool h.vr):=b1.t.cellN (HRB.out.cell 2);clear b1)
    | (at_builtin;refine Qbp rfl (.tmp 39) (.tmp 41) 80 rfl 103 3 12 _ Tryz.underlying80 infoHop6 rfl (by omega) (by omega) wa _ _ _ rfl (B1.out.keep ((Touch.refl _ _).alloc _)) _ 1 h.cs rfl (Qjn _ _ _) (fun u hu=>by simp [HK.cs] at hu;rcases hu with rfl|rfl|rfl <;> rfl) (by have:=HLN.out;omega) ?_;intro v2 w2 b2;have B2:Hid (VBuf 103 3 wa w2 v2 _ _):=b2;clear b2 d0 d1 d2)
    | (at_builtin;refine Qbp rfl (.tmp 43) (.tmp 46) 80 rfl 103 3 12 _ Tryz.underlying80 infoHop6 rfl (by omega) (by omega) wa _ _ _ rfl B2.out _ (i-i) ((cellsG HK.cs l).drop (i*3)) rfl (HAF.out.keep (T0.out.trans B2.out.t)) (fun u hu=>oneCellH l u (List.mem_of_mem_drop hu)) (by have:=HLN.out;omega) ?_;intro v3 w3 b3;have B3:Hid (HD w0 w3 v3 (pt h l)∧Touch (fun _=>False) _ w3):=⟨(Qjo HPT.out HN.out hi b3).back (HX.out.t.trans T0.out),T0.out.trans (Qjo HPT.out HN.out hi b3).t⟩;clear b3))
   go_ret
   exact⟨_,rfl,B3.out.1,B3.out.2⟩
theorem Qno (w0 w:World) (v:Value) (l:List HK) (h:HK) (X:HD w0 w v l) (hl:l.length≤1000000) :
  Calls Tryz.prog 42 #[v,.agg #[.int .u32 h.out,.int .u32 h.via,.bool h.vr]] w fun e w'=>∃v',e=.returned v'∧HD w0 w' v' (pt h l) :=
 (Qj5 w0 w v l h X hl).mono (fun e w' ⟨v',h1,h2,_⟩=>⟨v',h1,h2⟩)
end Go.Proofs.YtddbffoiadmffaaGreat
