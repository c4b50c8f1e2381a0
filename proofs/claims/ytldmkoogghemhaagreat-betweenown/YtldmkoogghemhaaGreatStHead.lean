import Derived.Test.YtldmkoogghemhaaGreatStWr
namespace Go.Proofs.YtldmkoogghemhaaGreat
set_option maxHeartbeats 8000000
open Go.RowKit
set_option linter.unusedVariables false
set_option maxRecDepth 100000
theorem Qor {w:World} {g off c n:Nat} {rs:List Int} (h:RowAt w (.slice (some ⟨g,off,none⟩) n c) rs):n=rs.length∧n≤c∧c≤maxLen:=by
 rcases h with⟨h,_⟩|⟨g',off',c',h,h1,h2,_⟩
 ·cases h
 ·cases h;exact⟨rfl,h1,h2⟩
theorem Qki {w:World} {g off c n:Nat} {rs:List Int} (h:RowAt w (.slice (some ⟨g,off,none⟩) n c) rs) (m:Nat) (hm:m≤n):RowAt w (.slice (some ⟨g,off+m,none⟩) (n-m) (c-m)) (rs.drop m):=by
 rcases h with⟨h,_⟩|⟨g',off',c',h,h1,h2,h3⟩
 ·cases h
 ·cases h
  refine Or.inr ⟨g,off+m,c-m,by simp,by simp;omega,by omega,fun j u hj=>?_⟩
  rw [Nat.add_assoc]
  refine h3 (m+j) u ?_
  simpa [bytesOf,List.getElem?_drop] using hj
theorem Qi0 (w:World) (ad:Addr) (c:Nat) (hc:c≤maxLen):ArgAt w (.slice (some ad) 0 c) []:=Or.inr ⟨ad,c,rfl,Nat.zero_le _,hc,fun j u hj=>by simp [bytesOf] at hj⟩
theorem Qb7 {w:World} {va:Option Addr} {vc n:Nat} {rs:List Int} (h:ArgAt w (.slice va n vc) rs) (hn:n=rs.length) (hp:0<n) (i:Nat) (hi:i≤n) :
  ∃v,(∀w,Sem.run Tryz.prog (Instr.slice 57 (.slice va n vc) (some (.int .i64 (i:Int))) none none) w=.ok v w)∧ArgAt w v (rs.drop i):=by
 subst hn
 have hr:=h.row hp
 obtain⟨ga,oa,rfl⟩:=Qcv hr hp
 obtain⟨-,hc1,hc2⟩:=Qor hr
 have hc2':(vc:Int)≤9223372036854775807:=by unfold maxLen at hc2;omega
 have h0:(0:Int)≤(i:Int):=by omega
 have h2:(i:Int)≤(rs.length:Int):=by omega
 have h3:(rs.length:Int)≤(vc:Int):=by omega
 by_cases hz:vc=i
 ·refine⟨.slice (some ⟨ga,oa,none⟩) (rs.length-i) (vc-i),fun w=>?_,?_⟩
  ·simp [Instr.slice,Instr.sliceBounds,Instr.sliceBound,go_sem,h0,hz]
   omega
  ·have:rs.length-i=0:=by omega
   rw [this,List.drop_eq_nil_of_le (by omega)]
   exact Qi0 w _ _ (by unfold maxLen;omega)
 ·refine⟨.slice (some ⟨ga,oa+i,none⟩) (rs.length-i) (vc-i),fun w=>?_,(Qki hr i hi).arg⟩
  simp [Instr.slice,Instr.sliceBounds,Instr.sliceBound,go_sem,h0,hz]
  omega
theorem Qcl {x:Int} (h0:0≤x) (h1:x<4294967296):IntKind.u32.wrap x=x:=by simp [IntKind.wrap,IntKind.bits,IntKind.signed];omega
theorem Qjr (x:Int):IntKind.u32.wrap x=x%4294967296:=by simp [IntKind.wrap,IntKind.bits,IntKind.signed]
def numTop (n:Int):Int:=if n=1 then 256 else if n=2 then 65536 else if n=3 then 16777216 else 4294967296
theorem Qeg (n:Int) (hn:n=1∨n=2∨n=3∨n=4) (X:Nat→Prop) (b:Nat) (L:List Int) (most:Int) (x:Int) (w:World) (h:Wr X w b L most) (hm:most≤1048576) (h0:0≤x) (hx:x<numTop n) :
  Calls Tryz.prog 150 #[.pointer (some ⟨b,0,none⟩),.int .u32 x,.int .i64 n] w fun e w'=>e=.returned (.pointer (some ⟨b,0,none⟩))∧Wr X w' b (L++numBytes n.toNat x) most∧Kept X w w':=by
 rcases hn with rfl|rfl|rfl|rfl
 ·exact Qjl X b L most x w h hm ⟨h0,by simpa [numTop] using hx⟩
 ·exact Qip X b L most x w h hm ⟨h0,by simpa [numTop] using hx⟩
 ·exact Qjt X b L most x w h hm ⟨h0,by simpa [numTop] using hx⟩
 ·exact Qjk X b L most x w h hm ⟨h0,by simpa [numTop] using hx⟩
theorem Qjs (X:Nat→Prop) (b:Nat) (L:List Int) (most:Int) (h:HV) (ok:h.All) (w:World) (hw:Wr X w b L most) (hm:most≤1048576) :
  Calls Tryz.prog 137 #[.agg #[.pointer (some ⟨b,0,none⟩)],h.v] w fun e w'=>e=.returned (.tuple #[])∧Wr X w' b (L++headB h) most∧Kept X w w':=by
 obtain⟨⟨oa0,oa1⟩,⟨oo0,oo1⟩,⟨ot0,ot1⟩,⟨oi0,oi1⟩,⟨ov0,ov1⟩,⟨os0,os1⟩,⟨om0,om1⟩,⟨ol0,ol1⟩⟩:=ok
 show Calls Tryz.prog 137 #[.agg #[.pointer (some ⟨b,0,none⟩)],.agg #[.int .u16 h.age,.int .u8 h.opts,.int .u8 h.typ,.int .u32 h.id,.int .u32 h.adv,.int .i32 h.seq,.int .u16 h.sum,.int .u16 h.len]] w _
 go_enter Tryz.func137,Tryz.ntmps137
 have q0:=Qcl oa0 (by omega)
 have q1:=Qcl oo0 (by omega)
 have q2:=Qcl ot0 (by omega)
 have q5:=Qjr h.seq
 have q6:=Qcl om0 (by omega)
 have q7:=Qcl ol0 (by omega)
 go_upto_region 1 with fail
 obtain⟨X1,hX1⟩:∃X1:Nat→Prop,X1=fun k=>X k∨k=w.heap.size∨k=w.heap.size+1:=⟨_,rfl⟩
 have hW:Wr X1 ((w.alloc (.cells #[.pointer (some ⟨b,0,none⟩)] 189)).alloc (.cells #[.int .u16 h.age,.int .u8 h.opts,.int .u8 h.typ,.int .u32 h.id,.int .u32 h.adv,.int .i32 h.seq,.int .u16 h.sum,.int .u16 h.len] 56)) b L most:=hw.more (((Touch.refl _ w).alloc _).alloc _) (fun k hk=>by rw [hX1] at hk;rcases hk with hk|hk|hk;exact Or.inl hk;exact Or.inr ⟨by omega,by simp;omega⟩;exact Or.inr ⟨by omega,by simp;omega⟩)
 have c0:((w.alloc (.cells #[.pointer (some ⟨b,0,none⟩)] 189)).alloc (.cells #[.int .u16 h.age,.int .u8 h.opts,.int .u8 h.typ,.int .u32 h.id,.int .u32 h.adv,.int .i32 h.seq,.int .u16 h.sum,.int .u16 h.len] 56)).cell? ⟨w.heap.size,0,none⟩=some (.pointer (some ⟨b,0,none⟩)):=by simp [go_sem]
 have HH:=Hd.new (w.alloc (.cells #[.pointer (some ⟨b,0,none⟩)] 189)) h 56
 have T1:Hid (Touch (fun _=>False) w ((w.alloc (.cells #[.pointer (some ⟨b,0,none⟩)] 189)).alloc (.cells #[.int .u16 h.age,.int .u8 h.opts,.int .u8 h.typ,.int .u32 h.id,.int .u32 h.adv,.int .i32 h.seq,.int .u16 h.sum,.int .u16 h.len] 56))):=((Touch.refl _ w).alloc _).alloc _
 have XM:Hid (X1 w.heap.size):=by show X1 _;rw [hX1];exact Or.inr (Or.inl rfl)
 have XN:Hid (X1 (w.alloc (.cells #[.pointer (some ⟨b,0,none⟩)] 189)).heap.size):=by show X1 _;rw [hX1];exact Or.inr (Or.inr (by simp))
 have XX:Hid (∀k,X k→X1 k):=by show ∀k,_;rw [hX1];exact fun k hk=>Or.inl hk
 simp only [World.size_alloc] at XN HH ⊢
 generalize w.heap.size+1=g2 at *
 generalize (w.alloc (.cells #[.pointer (some ⟨b,0,none⟩)] 189)).alloc (.cells #[.int .u16 h.age,.int .u8 h.opts,.int .u8 h.typ,.int .u32 h.id,.int .u32 h.adv,.int .i32 h.seq,.int .u16 h.sum,.int .u16 h.len] 56)=w1 at *
 obtain⟨d0,d1,d2,d3,d4,d5,d6,d7⟩:=HH
 clear hX1 hw
 generalize w.heap.size=g1 at *
 have HD:Hid (∀w',Kept X1 w1 w'→w'.cell? ⟨g1,0,none⟩=some (.pointer (some ⟨b,0,none⟩))∧Hd w' g2 h):=fun w' k=>⟨k.cell c0 XM.out,⟨k.cell d0 XN.out,k.cell d1 XN.out,k.cell d2 XN.out,k.cell d3 XN.out,k.cell d4 XN.out,k.cell d5 XN.out,k.cell d6 XN.out,k.cell d7 XN.out⟩⟩
 have HK0:Hid (Kept X1 w1 w1.drew):=Kept.of ((Touch.refl _ _).drew)
 have hWd:Wr X1 w1.drew b _ most:=hW.keep ((Touch.refl _ _).drew)
 have e0:w1.drew.cell? ⟨g1,0,none⟩=_:=c0
 have e1:w1.drew.cell? ⟨g2,0,none⟩=_:=d0
 have e2:w1.drew.cell? ⟨g2,1,none⟩=_:=d1
 have e3:w1.drew.cell? ⟨g2,2,none⟩=_:=d2
 clear hW c0 d0 d1 d2 d3 d4 d5 d6 d7
 go_region_held3 (fun w'=>w'.cell? ⟨g1,0,none⟩=some (.pointer (some ⟨b,0,none⟩))∧w'.cell? ⟨g2,0,none⟩=some (.int .u16 h.age)∧w'.cell? ⟨g2,1,none⟩=some (.int .u8 h.opts)∧w'.cell? ⟨g2,2,none⟩=some (.int .u8 h.typ)) (go_keep) (first
  | (go_at_call 150;refine Calls.mono (Qeg _ (by omega) X1 b _ most _ _ (by assumption) hm (by omega) (by simp [numTop];omega)) ?_;rintro e w2 ⟨rfl,hw2,hkx⟩;have y0:=hkx.cell (p:=⟨g1,0,none⟩) (v:=.pointer (some ⟨b,0,none⟩)) (by assumption) XM.out;have y1:=hkx.cell (p:=⟨g2,0,none⟩) (v:=.int .u16 h.age) (by assumption) XN.out;have y2:=hkx.cell (p:=⟨g2,1,none⟩) (v:=.int .u8 h.opts) (by assumption) XN.out;have y3:=hkx.cell (p:=⟨g2,2,none⟩) (v:=.int .u8 h.typ) (by assumption) XN.out;have HK2:Hid (Kept X1 w1 w2):=Kept.trans (Hid.out (by assumption)) hkx;clear hkx))
 obtain⟨c0,⟨d0,d1,d2,d3,d4,d5,d6,d7⟩⟩:=HD.out _ HK2.out
 have HK2d:Hid (Kept X1 w1 w2.drew):=HK2.out.trans (Kept.of ((Touch.refl _ _).drew))
 clear y0 y1 y2 y3 e0 e1 e2 e3 hWd
 have hWd:Wr X1 w2.drew b _ most:=hw2.keep ((Touch.refl _ _).drew)
 have e0:w2.drew.cell? ⟨g1,0,none⟩=_:=c0
 have e1:w2.drew.cell? ⟨g2,3,none⟩=_:=d3
 have e2:w2.drew.cell? ⟨g2,4,none⟩=_:=d4
 have e3:w2.drew.cell? ⟨g2,5,none⟩=_:=d5
 clear c0 d0 d1 d2 d3 d4 d5 d6 d7
 go_upto_region 2 with fail
 go_region_held3 (fun w'=>w'.cell? ⟨g1,0,none⟩=some (.pointer (some ⟨b,0,none⟩))∧w'.cell? ⟨g2,3,none⟩=some (.int .u32 h.id)∧w'.cell? ⟨g2,4,none⟩=some (.int .u32 h.adv)∧w'.cell? ⟨g2,5,none⟩=some (.int .i32 h.seq)) (go_keep) (first
  | (go_at_call 150;refine Calls.mono (Qeg _ (by omega) X1 b _ most _ _ (by assumption) hm (by omega) (by simp [numTop];omega)) ?_;rintro e w3 ⟨rfl,hw3,hkx⟩;have y0:=hkx.cell (p:=⟨g1,0,none⟩) (v:=.pointer (some ⟨b,0,none⟩)) (by assumption) XM.out;have y1:=hkx.cell (p:=⟨g2,3,none⟩) (v:=.int .u32 h.id) (by assumption) XN.out;have y2:=hkx.cell (p:=⟨g2,4,none⟩) (v:=.int .u32 h.adv) (by assumption) XN.out;have y3:=hkx.cell (p:=⟨g2,5,none⟩) (v:=.int .i32 h.seq) (by assumption) XN.out;have HK3:Hid (Kept X1 w1 w3):=Kept.trans (Hid.out (by assumption)) hkx;clear hkx))
 obtain⟨c0,⟨d0,d1,d2,d3,d4,d5,d6,d7⟩⟩:=HD.out _ HK3.out
 have HK3d:Hid (Kept X1 w1 w3.drew):=HK3.out.trans (Kept.of ((Touch.refl _ _).drew))
 clear y0 y1 y2 y3 e0 e1 e2 e3 hWd
 have hWd:Wr X1 w3.drew b _ most:=hw3.keep ((Touch.refl _ _).drew)
 have e0:w3.drew.cell? ⟨g1,0,none⟩=_:=c0
 have e1:w3.drew.cell? ⟨g2,6,none⟩=_:=d6
 have e2:w3.drew.cell? ⟨g2,7,none⟩=_:=d7
 clear c0 d0 d1 d2 d3 d4 d5 d6 d7
 go_upto_region 3 with fail
 go_region_held3 (fun w'=>w'.cell? ⟨g1,0,none⟩=some (.pointer (some ⟨b,0,none⟩))∧w'.cell? ⟨g2,6,none⟩=some (.int .u16 h.sum)∧w'.cell? ⟨g2,7,none⟩=some (.int .u16 h.len)) (go_keep) (first
  | (go_at_call 150;refine Calls.mono (Qeg _ (by omega) X1 b _ most _ _ (by assumption) hm (by omega) (by simp [numTop];omega)) ?_;rintro e w4 ⟨rfl,hw4,hkx⟩;have y0:=hkx.cell (p:=⟨g1,0,none⟩) (v:=.pointer (some ⟨b,0,none⟩)) (by assumption) XM.out;have y1:=hkx.cell (p:=⟨g2,6,none⟩) (v:=.int .u16 h.sum) (by assumption) XN.out;have y2:=hkx.cell (p:=⟨g2,7,none⟩) (v:=.int .u16 h.len) (by assumption) XN.out;have HK4:Hid (Kept X1 w1 w4):=Kept.trans (Hid.out (by assumption)) hkx;clear hkx))
 clear y0 y1 y2 e0 e1 e2 hWd
 go_wp2
 go_end0
 refine⟨rfl,?_,?_⟩
 ·have:=hw4.less XX.out
  simpa [headB,numBytes,List.append_assoc,Int.emod_eq_of_lt oo0 oo1,Int.emod_eq_of_lt ot0 ot1] using this
 ·exact (Kept.of T1.out).trans (HK4.out.less (fun k _ hk=>XX.out k hk))
theorem Hd.kept {X:Nat→Prop} {w w':World} {g:Nat} {h:HV} (k:Hd w g h) (t:Kept X w w') (hx:X g):Hd w' g h:=⟨t.cell k.c0 hx,t.cell k.c1 hx,t.cell k.c2 hx,t.cell k.c3 hx,t.cell k.c4 hx,t.cell k.c5 hx,t.cell k.c6 hx,t.cell k.c7 hx⟩
theorem Sd.kept {X:Nat→Prop} {w w':World} {g:Nat} {h:HV} {v:Value} (k:Sd w g h v) (t:Kept X w w') (hx:X g):Sd w' g h v:=⟨k.hd.kept t hx,t.cell k.c8 hx⟩
theorem Kept.sd {X:Nat→Prop} {w w':World} {g:Nat} {h:HV} {v:Value} (t:Kept X w w') (k:Sd w g h v) (hx:X g):Sd w' g h v:=k.kept t hx
theorem Qbg (h:HV) (ok:h.All) (v:Value) (l:List Int) (w:World) (hv:ArgAt w v l) (hl:l.length≤1000000) :
  Calls Tryz.prog 115 #[h.sv v] w fun e w'=>∃u,e=.returned u∧Buf w w' u (headB h++l):=by
 obtain⟨va,vc,rfl,hm⟩:=hv.form
 have OK:Hid h.All:=ok
 have HV':Hid (ArgAt w (.slice va l.length vc) l):=hv
 have HZ:=fun w=>Qgx h va l.length vc w (by omega)
 show Calls Tryz.prog 115 #[.agg #[.int .u16 h.age,.int .u8 h.opts,.int .u8 h.typ,.int .u32 h.id,.int .u32 h.adv,.int .i32 h.seq,.int .u16 h.sum,.int .u16 h.len,.slice va l.length vc]] w _
 go_enter Tryz.func115,Tryz.ntmps115
 go_wp2_with fail
 refine Calls.mono (HZ _) ?_
 rintro e w1 ⟨rfl,t1⟩
 have S1:=(Sd.new w h (.slice va l.length vc) 59).keep t1
 have T1:=((Touch.refl (fun _=>False) w).alloc _).trans t1
 clear t1 HZ
 go_wp2_with fail
 refine Calls.mono (Qnm (20+(l.length:Int)) w1 (by omega)) ?_
 rintro e w2 ⟨rfl,hw2,t2⟩
 have S2:=S1.keep t2
 have T2:=T1.trans t2
 have hg:w.heap.size<w1.heap.size:=Qaa S1.hd.c0
 have hb:w1.heap.size<w2.heap.size:=hw2.lt
 have hgg:w.heap.size<w2.heap.size:=by omega
 have hn1:¬w.heap.size=w2.heap.size:=by omega
 have hn2:¬w2.heap.size=w.heap.size:=by omega
 have HW2:Hid (Wr (fun k=>k<w1.heap.size) w2 w1.heap.size [] (20+(l.length:Int))):=hw2
 have HS2:Hid (Sd w2 w.heap.size h (.slice va l.length vc)):=S2
 have HT2:Hid (Touch (fun _=>False) w w2):=T2
 obtain⟨⟨s0,s1,s2,s3,s4,s5,s6,s7⟩,s8⟩:=S2
 clear S1 T1 t2 hw2 T2
 go_wp2_with fail
 have TT:∀(o:Obj),Touch (fun _=>False) w2 (w2.alloc o):=fun o=>(Touch.refl _ w2).alloc o
 have TS:∀(o:Obj),w2.heap.size<(w2.alloc o).heap.size:=fun o=>by simp
 refine Calls.mono (Qjs (fun k=>k<w1.heap.size∨k=w2.heap.size) w1.heap.size [] (20+(l.length:Int)) h OK.out _ ?hw (by omega)) ?_
 case hw=>exact HW2.out.more (TT _) (fun k hk=>by rcases hk with hk|hk;exact Or.inl hk;exact Or.inr ⟨by omega,by rw [hk];exact TS _⟩)
 rintro e w4 ⟨rfl,hw4,k4⟩
 have S4:=Kept.sd k4 (HS2.out.keep (TT _)) (Or.inl hg)
 have c4:=k4.cell (p:=⟨w2.heap.size,0,none⟩) (v:=.pointer (some ⟨w1.heap.size,0,none⟩)) (by simp [go_sem]) (Or.inr rfl)
 have T4:Touch (fun _=>False) w w4:=Kept.after k4 (HT2.out.trans (TT _)) (fun i hi=>Or.inl (by omega))
 have HW4:Hid (Wr (fun k=>k<w1.heap.size∨k=w2.heap.size) w4 w1.heap.size ([]++headB h) (20+(l.length:Int))):=hw4
 have HT4:Hid (Touch (fun _=>False) w w4):=T4
 obtain⟨-,s8'⟩:=S4
 clear k4 s0 s1 s2 s3 s4 s5 s6 s7 s8 TT TS hw4 T4
 go_wp2_with fail
 refine Calls.mono (Qmk (fun k=>k<w1.heap.size∨k=w2.heap.size) w1.heap.size ([]++headB h) (20+(l.length:Int)) _ l _ HW4.out (by omega) (HV'.out.keep HT4.out (fun _ _ h=>h)) (by omega)) ?_
 rintro e w5 ⟨rfl,hw5,k5⟩
 have c5:=k5.cell c4 (Or.inr rfl)
 have T5:Touch (fun _=>False) w w5:=Kept.after k5 HT4.out (fun i hi=>Or.inl (by omega))
 have HW5:Hid (Wr (fun k=>k<w1.heap.size∨k=w2.heap.size) w5 w1.heap.size ([]++headB h++l) (20+(l.length:Int))):=hw5
 have HT5:Hid (Touch (fun _=>False) w w5):=T5
 clear k5 c4 s8' hw5 T5
 go_wp2_with fail
 refine Calls.mono (Qoy _ w1.heap.size ([]++headB h++l) (20+(l.length:Int)) _ HW5.out (by rw [List.nil_append,List.length_append,Qaq];push_cast;omega) (by omega)) ?_
 rintro e w6 ⟨u,rfl,b6⟩
 obtain⟨ua,uc,rfl⟩:=b6.form
 have B6:Hid (Buf w5 w6 _ ([]++headB h++l)):=b6
 clear b6 c5
 go_wp2
 go_ret
 refine⟨_,rfl,?_⟩
 have:=B6.out.back HT5.out
 simpa using this
end Go.Proofs.YtldmkoogghemhaaGreat
