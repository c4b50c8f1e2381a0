import Derived.Test.YtddbffoiadmffaaGreatStWr
import Derived.Laws.BitsAllLaws
import Derived.Deep.LoopGhost
import Derived.Deep.RegionWith
import Derived.Deep.DeepCutAuto
namespace Go.Proofs.YtddbffoiadmffaaGreat
set_option maxHeartbeats 8000000
open Go.RowKit
set_option linter.unusedVariables false
set_option maxRecDepth 100000
theorem Qwp {w:World} {g off c n:Nat} {rs:List Int} (h:RowAt w (.slice (some ⟨g,off,none⟩) n c) rs):n=rs.length∧n≤c∧c≤maxLen:=by
 rcases h with⟨h,_⟩|⟨g',off',c',h,h1,h2,_⟩
 ·cases h
 ·cases h;exact⟨rfl,h1,h2⟩
theorem Qqf {w:World} {g off c n:Nat} {rs:List Int} (h:RowAt w (.slice (some ⟨g,off,none⟩) n c) rs) (m:Nat) (hm:m≤n):RowAt w (.slice (some ⟨g,off+m,none⟩) (n-m) (c-m)) (rs.drop m):=by
 rcases h with⟨h,_⟩|⟨g',off',c',h,h1,h2,h3⟩
 ·cases h
 ·cases h
  refine Or.inr ⟨g,off+m,c-m,by simp,by simp;omega,by omega,fun j u hj=>?_⟩
  rw [Nat.add_assoc]
  refine h3 (m+j) u ?_
  simpa [bytesOf,List.getElem?_drop] using hj
theorem Qmw (w:World) (ad:Addr) (c:Nat) (hc:c≤maxLen):ArgAt w (.slice (some ad) 0 c) []:=Or.inr ⟨ad,c,rfl,Nat.zero_le _,hc,fun j u hj=>by simp [bytesOf] at hj⟩
theorem Qc3 {w:World} {va:Option Addr} {vc n:Nat} {rs:List Int} (h:ArgAt w (.slice va n vc) rs) (hn:n=rs.length) (hp:0<n) (i:Nat) (hi:i≤n) :
  ∃v,(∀w,Sem.run Tryz.prog (Instr.slice 55 (.slice va n vc) (some (.int .i64 (i:Int))) none none) w=.ok v w)∧ArgAt w v (rs.drop i):=by
 subst hn
 have hr:=h.row hp
 obtain⟨ga,oa,rfl⟩:=Qd9 hr hp
 obtain⟨-,hc1,hc2⟩:=Qwp hr
 have hc2':(vc:Int)≤9223372036854775807:=by unfold maxLen at hc2;omega
 have h0:(0:Int)≤(i:Int):=by omega
 have h2:(i:Int)≤(rs.length:Int):=by omega
 have h3:(rs.length:Int)≤(vc:Int):=by omega
 by_cases hz:vc=i
 ·refine⟨.slice (some ⟨ga,oa,none⟩) (rs.length-i) (vc-i),fun w=>?_,?_⟩
  ·simp [Instr.slice,Instr.sliceBounds,Instr.sliceBound,go_sem,h0,hz]
   omega
  ·have:rs.length-i=0:=by omega
   rw [this,List.drop_eq_nil_of_le (by omega)]
   exact Qmw w _ _ (by unfold maxLen;omega)
 ·refine⟨.slice (some ⟨ga,oa+i,none⟩) (rs.length-i) (vc-i),fun w=>?_,(Qqf hr i hi).arg⟩
  simp [Instr.slice,Instr.sliceBounds,Instr.sliceBound,go_sem,h0,hz]
  omega
theorem Qdf {x:Int} (h0:0≤x) (h1:x<4294967296):IntKind.u32.wrap x=x:=by simp [IntKind.wrap,IntKind.bits,IntKind.signed];omega
theorem Qo7 (x:Int):IntKind.u32.wrap x=x%4294967296:=by simp [IntKind.wrap,IntKind.bits,IntKind.signed]
def numTop (n:Int):Int:=if n=1 then 256 else if n=2 then 65536 else if n=3 then 16777216 else 4294967296
theorem Qgc (n:Int) (hn:n=1∨n=2∨n=3∨n=4) (X:Nat→Prop) (b:Nat) (L:List Int) (most:Int) (x:Int) (w:World) (h:Wr X w b L most) (hm:most≤1048576) (h0:0≤x) (hx:x<numTop n) :
  Calls Tryz.prog 197 #[.pointer (some ⟨b,0,none⟩),.int .u32 x,.int .i64 n] w fun e w'=>e=.returned (.pointer (some ⟨b,0,none⟩))∧Wr X w' b (L++numBytes n.toNat x) most∧Kept X w w':=by
 rcases hn with rfl|rfl|rfl|rfl
 ·exact Qn2 X b L most x w h hm ⟨h0,by simpa [numTop] using hx⟩
 ·exact Qol X b L most x w h hm ⟨h0,by simpa [numTop] using hx⟩
 ·exact Qni X b L most x w h hm ⟨h0,by simpa [numTop] using hx⟩
 ·exact Qn4 X b L most x w h hm ⟨h0,by simpa [numTop] using hx⟩
theorem Qm7 (X:Nat→Prop) (b:Nat) (L:List Int) (most:Int) (h:HV) (ok:h.All) (w:World) (hw:Wr X w b L most) (hm:most≤1048576) :
  Calls Tryz.prog 173 #[.agg #[.pointer (some ⟨b,0,none⟩)],h.v] w fun e w'=>e=.returned (.tuple #[])∧Wr X w' b (L++headB h) most∧Kept X w w':=by
 obtain⟨⟨oa0,oa1⟩,⟨oo0,oo1⟩,⟨ot0,ot1⟩,⟨oi0,oi1⟩,⟨ov0,ov1⟩,⟨os0,os1⟩,⟨om0,om1⟩,⟨ol0,ol1⟩⟩:=ok
 show Calls Tryz.prog 173 #[.agg #[.pointer (some ⟨b,0,none⟩)],.agg #[.int .u16 h.age,.int .u8 h.opts,.int .u8 h.typ,.int .u32 h.id,.int .u32 h.adv,.int .i32 h.seq,.int .u16 h.sum,.int .u16 h.len]] w _
 go_enter Tryz.func173,Tryz.ntmps173
 have q0:=Qdf oa0 (by omega)
 have q1:=Qdf oo0 (by omega)
 have q2:=Qdf ot0 (by omega)
 have q5:=Qo7 h.seq
 have q6:=Qdf om0 (by omega)
 have q7:=Qdf ol0 (by omega)
 go_upto_region 1 with fail
 obtain⟨X1,hX1⟩:∃X1:Nat→Prop,X1=fun k=>X k∨k=w.heap.size∨k=w.heap.size+1:=⟨_,rfl⟩
 have hW:Wr X1 ((w.alloc (.cells #[.pointer (some ⟨b,0,none⟩)] 288)).alloc (.cells #[.int .u16 h.age,.int .u8 h.opts,.int .u8 h.typ,.int .u32 h.id,.int .u32 h.adv,.int .i32 h.seq,.int .u16 h.sum,.int .u16 h.len] 54)) b L most:=hw.more (((Touch.refl _ w).alloc _).alloc _) (fun k hk=>by rw [hX1] at hk;rcases hk with hk|hk|hk;exact Or.inl hk;exact Or.inr ⟨by omega,by simp;omega⟩;exact Or.inr ⟨by omega,by simp;omega⟩)
 have c0:((w.alloc (.cells #[.pointer (some ⟨b,0,none⟩)] 288)).alloc (.cells #[.int .u16 h.age,.int .u8 h.opts,.int .u8 h.typ,.int .u32 h.id,.int .u32 h.adv,.int .i32 h.seq,.int .u16 h.sum,.int .u16 h.len] 54)).cell? ⟨w.heap.size,0,none⟩=some (.pointer (some ⟨b,0,none⟩)):=by simp [go_sem]
 have HH:=Hd.new (w.alloc (.cells #[.pointer (some ⟨b,0,none⟩)] 288)) h 54
 have T1:Hid (Touch (fun _=>False) w ((w.alloc (.cells #[.pointer (some ⟨b,0,none⟩)] 288)).alloc (.cells #[.int .u16 h.age,.int .u8 h.opts,.int .u8 h.typ,.int .u32 h.id,.int .u32 h.adv,.int .i32 h.seq,.int .u16 h.sum,.int .u16 h.len] 54))):=((Touch.refl _ w).alloc _).alloc _
 have XM:Hid (X1 w.heap.size):=by show X1 _;rw [hX1];exact Or.inr (Or.inl rfl)
 have XN:Hid (X1 (w.alloc (.cells #[.pointer (some ⟨b,0,none⟩)] 288)).heap.size):=by show X1 _;rw [hX1];exact Or.inr (Or.inr (by simp))
 have XX:Hid (∀k,X k→X1 k):=by show ∀k,_;rw [hX1];exact fun k hk=>Or.inl hk
 simp only [World.size_alloc] at XN HH ⊢
 generalize w.heap.size+1=g2 at *
 generalize (w.alloc (.cells #[.pointer (some ⟨b,0,none⟩)] 288)).alloc (.cells #[.int .u16 h.age,.int .u8 h.opts,.int .u8 h.typ,.int .u32 h.id,.int .u32 h.adv,.int .i32 h.seq,.int .u16 h.sum,.int .u16 h.len] 54)=w1 at *
 obtain⟨d0,d1,d2,d3,d4,d5,d6,d7⟩:=HH
 clear hX1 hw
 generalize w.heap.size=g1 at *
 have HD:Hid (∀w',Kept X1 w1 w'→w'.cell? ⟨g1,0,none⟩=some (.pointer (some ⟨b,0,none⟩))∧Hd w' g2 h):=fun w' k=>⟨k.cell c0 XM.out,⟨k.cell d0 XN.out,k.cell d1 XN.out,k.cell d2 XN.out,k.cell d3 XN.out,k.cell d4 XN.out,k.cell d5 XN.out,k.cell d6 XN.out,k.cell d7 XN.out⟩⟩
 have HK0:Hid (Kept X1 w1 w1.drew):=Kept.of ((Touch.refl _ _).drew)
 have hWd:Wr X1 w1.drew b _ most:=hW.keep ((Touch.refl _ _).drew)
 have e0:w1.drew.cell? ⟨g1,0,none⟩=_:=c0
 have e1:w1.drew.cell? ⟨g2,0,none⟩=_:=d0
 have e2:w1.drew.cell? ⟨g2,1,none⟩=_:=d1
 have e3:w1.drew.cell? ⟨g2,2,none⟩=_:=d2
 clear hW c0 d0 d1 d2 d3 d4 d5 d6 d7
 go_region_held3 (fun w'=>w'.cell? ⟨g1,0,none⟩=some (.pointer (some ⟨b,0,none⟩))∧w'.cell? ⟨g2,0,none⟩=some (.int .u16 h.age)∧w'.cell? ⟨g2,1,none⟩=some (.int .u8 h.opts)∧w'.cell? ⟨g2,2,none⟩=some (.int .u8 h.typ)) (go_keep) (first
  | (go_at_call 197;refine Calls.mono (Qgc _ (by omega) X1 b _ most _ _ (by assumption) hm (by omega) (by simp [numTop];omega)) ?_;rintro e w2 ⟨rfl,hw2,hkx⟩;have y0:=hkx.cell (p:=⟨g1,0,none⟩) (v:=.pointer (some ⟨b,0,none⟩)) (by assumption) XM.out;have y1:=hkx.cell (p:=⟨g2,0,none⟩) (v:=.int .u16 h.age) (by assumption) XN.out;have y2:=hkx.cell (p:=⟨g2,1,none⟩) (v:=.int .u8 h.opts) (by assumption) XN.out;have y3:=hkx.cell (p:=⟨g2,2,none⟩) (v:=.int .u8 h.typ) (by assumption) XN.out;have HK2:Hid (Kept X1 w1 w2):=Kept.trans (Hid.out (by assumption)) hkx;clear hkx))
 obtain⟨c0,⟨d0,d1,d2,d3,d4,d5,d6,d7⟩⟩:=HD.out _ HK2.out
 have HK2d:Hid (Kept X1 w1 w2.drew):=HK2.out.trans (Kept.of ((Touch.refl _ _).drew))
 clear y0 y1 y2 y3 e0 e1 e2 e3 hWd
 have hWd:Wr X1 w2.drew b _ most:=hw2.keep ((Touch.refl _ _).drew)
 have e0:w2.drew.cell? ⟨g1,0,none⟩=_:=c0
 have e1:w2.drew.cell? ⟨g2,3,none⟩=_:=d3
 have e2:w2.drew.cell? ⟨g2,4,none⟩=_:=d4
 have e3:w2.drew.cell? ⟨g2,5,none⟩=_:=d5
 clear c0 d0 d1 d2 d3 d4 d5 d6 d7
 go_upto_region 2 with fail
 go_region_held3 (fun w'=>w'.cell? ⟨g1,0,none⟩=some (.pointer (some ⟨b,0,none⟩))∧w'.cell? ⟨g2,3,none⟩=some (.int .u32 h.id)∧w'.cell? ⟨g2,4,none⟩=some (.int .u32 h.adv)∧w'.cell? ⟨g2,5,none⟩=some (.int .i32 h.seq)) (go_keep) (first
  | (go_at_call 197;refine Calls.mono (Qgc _ (by omega) X1 b _ most _ _ (by assumption) hm (by omega) (by simp [numTop];omega)) ?_;rintro e w3 ⟨rfl,hw3,hkx⟩;have y0:=hkx.cell (p:=⟨g1,0,none⟩) (v:=.pointer (some ⟨b,0,none⟩)) (by assumption) XM.out;have y1:=hkx.cell (p:=⟨g2,3,none⟩) (v:=.int .u32 h.id) (by assumption) XN.out;have y2:=hkx.cell (p:=⟨g2,4,none⟩) (v:=.int .u32 h.adv) (by assumption) XN.out;have y3:=hkx.cell (p:=⟨g2,5,none⟩) (v:=.int .i32 h.seq) (by assumption) XN.out;have HK3:Hid (Kept X1 w1 w3):=Kept.trans (Hid.out (by assumption)) hkx;clear hkx))
 obtain⟨c0,⟨d0,d1,d2,d3,d4,d5,d6,d7⟩⟩:=HD.out _ HK3.out
 have HK3d:Hid (Kept X1 w1 w3.drew):=HK3.out.trans (Kept.of ((Touch.refl _ _).drew))
 clear y0 y1 y2 y3 e0 e1 e2 e3 hWd
 have hWd:Wr X1 w3.drew b _ most:=hw3.keep ((Touch.refl _ _).drew)
 have e0:w3.drew.cell? ⟨g1,0,none⟩=_:=c0
 have e1:w3.drew.cell? ⟨g2,6,none⟩=_:=d6
 have e2:w3.drew.cell? ⟨g2,7,none⟩=_:=d7
 clear c0 d0 d1 d2 d3 d4 d5 d6 d7
 go_upto_region 3 with fail
 go_region_held3 (fun w'=>w'.cell? ⟨g1,0,none⟩=some (.pointer (some ⟨b,0,none⟩))∧w'.cell? ⟨g2,6,none⟩=some (.int .u16 h.sum)∧w'.cell? ⟨g2,7,none⟩=some (.int .u16 h.len)) (go_keep) (first
  | (go_at_call 197;refine Calls.mono (Qgc _ (by omega) X1 b _ most _ _ (by assumption) hm (by omega) (by simp [numTop];omega)) ?_;rintro e w4 ⟨rfl,hw4,hkx⟩;have y0:=hkx.cell (p:=⟨g1,0,none⟩) (v:=.pointer (some ⟨b,0,none⟩)) (by assumption) XM.out;have y1:=hkx.cell (p:=⟨g2,6,none⟩) (v:=.int .u16 h.sum) (by assumption) XN.out;have y2:=hkx.cell (p:=⟨g2,7,none⟩) (v:=.int .u16 h.len) (by assumption) XN.out;have HK4:Hid (Kept X1 w1 w4):=Kept.trans (Hid.out (by assumption)) hkx;clear hkx))
 clear y0 y1 y2 e0 e1 e2 hWd
 go_wp2
 go_end0
 refine⟨rfl,?_,?_⟩
 ·have:=hw4.less XX.out
  simpa [headB,numBytes,List.append_assoc,Int.emod_eq_of_lt oo0 oo1,Int.emod_eq_of_lt ot0 ot1] using this
 ·exact (Kept.of T1.out).trans (HK4.out.less (fun k _ hk=>XX.out k hk))
theorem Hd.kept {X:Nat→Prop} {w w':World} {g:Nat} {h:HV} (k:Hd w g h) (t:Kept X w w') (hx:X g):Hd w' g h:=⟨t.cell k.c0 hx,t.cell k.c1 hx,t.cell k.c2 hx,t.cell k.c3 hx,t.cell k.c4 hx,t.cell k.c5 hx,t.cell k.c6 hx,t.cell k.c7 hx⟩
theorem Sd.kept {X:Nat→Prop} {w w':World} {g:Nat} {h:HV} {v:Value} (k:Sd w g h v) (t:Kept X w w') (hx:X g):Sd w' g h v:=⟨k.hd.kept t hx,t.cell k.c8 hx⟩
theorem Kept.sd {X:Nat→Prop} {w w':World} {g:Nat} {h:HV} {v:Value} (t:Kept X w w') (k:Sd w g h v) (hx:X g):Sd w' g h v:=k.kept t hx
theorem Qb1 (h:HV) (ok:h.All) (v:Value) (l:List Int) (w:World) (hv:ArgAt w v l) (hl:l.length≤1000000) :
  Calls Tryz.prog 143 #[h.sv v] w fun e w'=>∃u,e=.returned u∧Buf w w' u (headB h++l):=by
 obtain⟨va,vc,rfl,hm⟩:=hv.form
 have OK:Hid h.All:=ok
 have HV':Hid (ArgAt w (.slice va l.length vc) l):=hv
 have HZ:=fun w=>Qkl h va l.length vc w (by omega)
 show Calls Tryz.prog 143 #[.agg #[.int .u16 h.age,.int .u8 h.opts,.int .u8 h.typ,.int .u32 h.id,.int .u32 h.adv,.int .i32 h.seq,.int .u16 h.sum,.int .u16 h.len,.slice va l.length vc]] w _
 go_enter Tryz.func143,Tryz.ntmps143
 go_wp2_with fail
 refine Calls.mono (HZ _) ?_
 rintro e w1 ⟨rfl,t1⟩
 have S1:=(Sd.new w h (.slice va l.length vc) 57).keep t1
 have T1:=((Touch.refl (fun _=>False) w).alloc _).trans t1
 clear t1 HZ
 go_wp2_with fail
 refine Calls.mono (Qtd (20+(l.length:Int)) w1 (by omega)) ?_
 rintro e w2 ⟨rfl,hw2,t2⟩
 have S2:=S1.keep t2
 have T2:=T1.trans t2
 have hg:w.heap.size<w1.heap.size:=Qaa S1.hd.c0
 have hb:w1.heap.size<w2.heap.size:=hw2.lt
 have hgg:w.heap.size<w2.heap.size:=by omega
 have hn1:¬w.heap.size=w2.heap.size:=by omega
 have hn2:¬w2.heap.size=w.heap.size:=by omega
 have HW2:Hid (Wr (fun k=>k<w1.heap.size) w2 w1.heap.size [] (20+(l.length:Int))):=hw2
 have HS2:Hid (Sd w2 w.heap.size h (.slice va l.length vc)):=S2
 have HT2:Hid (Touch (fun _=>False) w w2):=T2
 obtain⟨⟨s0,s1,s2,s3,s4,s5,s6,s7⟩,s8⟩:=S2
 clear S1 T1 t2 hw2 T2
 go_wp2_with fail
 have TT:∀(o:Obj),Touch (fun _=>False) w2 (w2.alloc o):=fun o=>(Touch.refl _ w2).alloc o
 have TS:∀(o:Obj),w2.heap.size<(w2.alloc o).heap.size:=fun o=>by simp
 refine Calls.mono (Qm7 (fun k=>k<w1.heap.size∨k=w2.heap.size) w1.heap.size [] (20+(l.length:Int)) h OK.out _ ?hw (by omega)) ?_
 case hw=>exact HW2.out.more (TT _) (fun k hk=>by rcases hk with hk|hk;exact Or.inl hk;exact Or.inr ⟨by omega,by rw [hk];exact TS _⟩)
 rintro e w4 ⟨rfl,hw4,k4⟩
 have S4:=Kept.sd k4 (HS2.out.keep (TT _)) (Or.inl hg)
 have c4:=k4.cell (p:=⟨w2.heap.size,0,none⟩) (v:=.pointer (some ⟨w1.heap.size,0,none⟩)) (by simp [go_sem]) (Or.inr rfl)
 have T4:Touch (fun _=>False) w w4:=Kept.after k4 (HT2.out.trans (TT _)) (fun i hi=>Or.inl (by omega))
 have HW4:Hid (Wr (fun k=>k<w1.heap.size∨k=w2.heap.size) w4 w1.heap.size ([]++headB h) (20+(l.length:Int))):=hw4
 have HT4:Hid (Touch (fun _=>False) w w4):=T4
 obtain⟨-,s8'⟩:=S4
 clear k4 s0 s1 s2 s3 s4 s5 s6 s7 s8 TT TS hw4 T4
 go_wp2_with fail
 refine Calls.mono (Quk (fun k=>k<w1.heap.size∨k=w2.heap.size) w1.heap.size ([]++headB h) (20+(l.length:Int)) _ l _ HW4.out (by omega) (HV'.out.keep HT4.out (fun _ _ h=>h)) (by omega)) ?_
 rintro e w5 ⟨rfl,hw5,k5⟩
 have c5:=k5.cell c4 (Or.inr rfl)
 have T5:Touch (fun _=>False) w w5:=Kept.after k5 HT4.out (fun i hi=>Or.inl (by omega))
 have HW5:Hid (Wr (fun k=>k<w1.heap.size∨k=w2.heap.size) w5 w1.heap.size ([]++headB h++l) (20+(l.length:Int))):=hw5
 have HT5:Hid (Touch (fun _=>False) w w5):=T5
 clear k5 c4 s8' hw5 T5
 go_wp2_with fail
 refine Calls.mono (Qvb _ w1.heap.size ([]++headB h++l) (20+(l.length:Int)) _ HW5.out (by rw [List.nil_append,List.length_append,Qa3];push_cast;omega) (by omega)) ?_
 rintro e w6 ⟨u,rfl,b6⟩
 obtain⟨ua,uc,rfl⟩:=b6.form
 have B6:Hid (Buf w5 w6 _ ([]++headB h++l)):=b6
 clear b6 c5
 go_wp2
 go_ret
 refine⟨_,rfl,?_⟩
 have:=B6.out.back HT5.out
 simpa using this
structure Two (w:World) (b:Nat) (x y:Int):Prop where
 c0:w.cell? ⟨b,0,none⟩=some (.int .u32 x)
 c1:w.cell? ⟨b,1,none⟩=some (.int .u32 y)
 f0:w.frozen? ⟨b,0,none⟩=false
 f1:w.frozen? ⟨b,1,none⟩=false
theorem Two.lt {w:World} {b:Nat} {x y:Int} (h:Two w b x y):b<w.heap.size:=Qaa h.c0
theorem Two.keep {w w':World} {b:Nat} {x y:Int} (h:Two w b x y) (t:Touch (fun _=>False) w w'):Two w' b x y :=
 ⟨t.cellN h.c0,t.cellN h.c1,(t.frozen h.lt (fun h=>h)).trans h.f0,(t.frozen h.lt (fun h=>h)).trans h.f1⟩
theorem Two.drew {w:World} {b:Nat} {x y:Int} (h:Two w b x y):Two w.drew b x y:=h.keep ((Touch.refl _ _).drew)
theorem Two.set0 {w:World} {b:Nat} {x y:Int} (h:Two w b x y) (z:Int):Two (w.setCell ⟨b,0,none⟩ (.int .u32 z)) b z y:=by
 obtain⟨h0,h1,h2,h3⟩:=h
 exact⟨by simp [h0,go_sem],by simp [h1,go_sem],by simp [h2,go_sem],by simp [h3,go_sem]⟩
theorem Two.set1 {w:World} {b:Nat} {x y:Int} (h:Two w b x y) (z:Int):Two (w.setCell ⟨b,1,none⟩ (.int .u32 z)) b x z:=by
 obtain⟨h0,h1,h2,h3⟩:=h
 exact⟨by simp [h0,go_sem],by simp [h1,go_sem],by simp [h2,go_sem],by simp [h3,go_sem]⟩
theorem Touch.new {w0 w:World} (t:Touch (fun _=>False) w0 w) {p:Addr} (h:w0.heap.size≤p.block) (u:Value):Touch (fun _=>False) w0 (w.setCell p u):=t.setCell (Or.inr h) u
theorem Qox {w:World} {g off c:Nat} {rs:List Int} (h:RowAt w (.slice (some ⟨g,off,none⟩) rs.length c) rs):rs.length≤c:=by
 rcases h with⟨h,_⟩|⟨g',off',c',h,h1,_⟩
 ·cases h
 ·cases h;exact h1
theorem Qk9 {w:World} {g off c:Nat} {rs:List Int} (h:RowAt w (.slice (some ⟨g,off,none⟩) rs.length c) rs) (n:Nat) (hn:n≤rs.length):RowAt w (.slice (some ⟨g,off+n,none⟩) (rs.length-n) (c-n)) (rs.drop n):=by
 rcases h with⟨h,_⟩|⟨g',off',c',h,h1,h2,h3⟩
 ·cases h
 ·cases h
  refine Or.inr ⟨g,off+n,c-n,by simp,by simp;omega,by omega,fun j u hj=>?_⟩
  rw [Nat.add_assoc]
  refine h3 (n+j) u ?_
  simpa [bytesOf,List.getElem?_drop] using hj
def modv (a b i:Int):Int:=(if i=0 then a else b)%255
theorem Qla (a b i:Int) (w:World) (hi:i=0∨i=1) (h0:0≤a) (h1:a<4294967296) (k0:0≤b) (k1:b<4294967296) :
  Calls Tryz.prog 196 #[.agg #[.int .u32 a,.int .u32 b],.int .i64 i] w fun e w'=>e=.returned (.int .u32 (modv a b i))∧w'=w.alloc (.cells #[.int .u32 a,.int .u32 b] 313):=by
 rcases hi with rfl|rfl
 all_goals
  go_enter Tryz.func196,Tryz.ntmps196
  go_wp2
  go_ret
  exact⟨rfl,rfl⟩
def SOut (w0:World) (b:Nat) (l rs:List Int) (g:Nat) (s:Value) (wr:World):Prop :=
 ∃(pre rest:List Int) (h k:Int),rest.length≤g∧pre++rest=rs∧ArgAt w0 s rest∧Two wr b h k∧Run (l++pre) h k∧0≤h∧0≤k∧h<4294967296∧k<4294967296∧Touch (fun _=>False) w0 wr
def SIn (w0:World) (b:Nat) (l pre rest:List Int) (g:Nat) (i:Value) (wr:World):Prop :=
 ∃(j:Nat) (h k:Int),j+g=rest.length∧j≤4096∧i=.int .i64 (j:Int)∧Two wr b h k∧Run ((l++pre)++rest.take j) h k∧0≤h∧0≤k∧h≤254+255*(j:Int)∧k≤254+1044734*(j:Int)∧Touch (fun _=>False) w0 wr
theorem Qp7 (w0:World) (b:Nat) (v:Value) (l rs:List Int) (h k:Int) (w:World) (hv:ArgAt w0 v rs) (hby:∀x∈rs,0≤x∧x<256) (hc:Two w b h k) (hr:Run l h k) (h0:0≤h) (k0:0≤k) (h1:h<4294967296) (k1:k<4294967296)
  (hb0:w0.heap.size≤b) (t:Touch (fun _=>False) w0 w) :
  Calls Tryz.prog 195 #[.pointer (some ⟨b,0,none⟩),v] w fun e w'=>e=.returned (.tuple #[])∧(∃h k,Two w' b h k∧Run (l++rs) h k∧0≤h∧0≤k∧h<4294967296∧k<4294967296)∧Touch (fun _=>False) w0 w':=by
 have HBy:Hid (∀x∈rs,0≤x∧x<256):=hby
 have hW:SOut w0 b l rs rs.length v w:=⟨[],rs,h,k,Nat.le_refl _,rfl,hv,hc,by simpa using hr,h0,k0,h1,k1,t⟩
 clear hv hby hc hr h0 k0 h1 k1 t
 go_enter Tryz.func195,Tryz.ntmps195
 go_wp2
 go_step3
 go_wp2
 go_step3
 go_wp2
 go_loopg [1] rs.length (fun g s wx=>SOut w0 b l rs g s wx)
 case atStart=>exact hW
 case round =>
  obtain⟨pre,rest,h,k,hg,hrs,hs,hc,hr,h0,k0,h1,k1,t⟩:=hrel
  have HR:Hid (pre++rest=rs):=hrs
  have HRU:Hid (Run (l++pre) h k):=hr
  have HC:Hid (Two wr b h k):=hc
  have HT:Hid (Touch (fun _=>False) w0 wr):=t
  obtain⟨c0,c1,f0,f1⟩:=hc
  have hbl:=Qaa c0
  obtain⟨sa,sc,rfl,hm⟩:=hs.form
  unfold maxLen at hm
  have HS:Hid (ArgAt w0 (.slice sa rest.length sc) rest):=hs
  have hm0:modv h k 0=h%255:=rfl
  have hm1:modv h k 1=k%255:=rfl
  clear hW hrs hr t hs
  go_wp2_with fail
  go_region_with (go_at_call 196;refine (Qla h k _ _ (by decide) h0 h1 k0 k1).mono ?_;rintro e w2 ⟨rfl,rfl⟩)
  all_goals
   have hc1:Two (((((wr.setCell ⟨b,0,none⟩ (.int .u32 (h%255))).setCell ⟨b,1,none⟩ (.int .u32 (k%255))).alloc (.cells #[.int .u32 h,.int .u32 k] 313)).alloc (.cells #[.int .u32 h,.int .u32 k] 313)).drew) b (h%255) (k%255):=((HC.out.set0 _).set1 _).keep ((((Touch.refl _ _).alloc _).alloc _).drew)
   have t1:Touch (fun _=>False) w0 (((((wr.setCell ⟨b,0,none⟩ (.int .u32 (h%255))).setCell ⟨b,1,none⟩ (.int .u32 (k%255))).alloc (.cells #[.int .u32 h,.int .u32 k] 313)).alloc (.cells #[.int .u32 h,.int .u32 k] 313)).drew):=((((HT.out.new (p:=⟨b,0,none⟩) hb0 _).new (p:=⟨b,1,none⟩) hb0 _).alloc _).alloc _).drew
   revert hc1 t1
   generalize ((((wr.setCell ⟨b,0,none⟩ (.int .u32 (h%255))).setCell ⟨b,1,none⟩ (.int .u32 (k%255))).alloc (.cells #[.int .u32 h,.int .u32 k] 313)).alloc (.cells #[.int .u32 h,.int .u32 k] 313)).drew=wc
   intro hc1 t1
   have hI:SIn w0 b l pre rest rest.length (.int .i64 ((0:Nat):Int)) wc:=⟨0,_,_,by omega,by omega,rfl,hc1,by simpa using HRU.out.mod,by omega,by omega,by omega,by omega,t1⟩
   clear hc1 t1 HC HT hm0 hm1 c0 c1 f0 f1 hbl
   go_wp2_with fail
   go_loopg [1,22] rest.length (fun g s i wx=>s=.slice sa rest.length sc∧SIn w0 b l pre rest g i wx)
   case atStart=>exact⟨rfl,hI⟩
   case round =>
    obtain⟨rfl,j,h,k,hj,hj1,rfl,hc,hr,h0,k0,hh,hk,t⟩:=hrel
    have HT:Hid (Touch (fun _=>False) w0 wr):=t
    have HC:Hid (Two wr b h k):=hc
    obtain⟨c0,c1,f0,f1⟩:=hc
    have HW:Hid (Run ((l++pre)++rest.take j) h k):=hr
    clear hI hr t
    by_cases hlt:j<rest.length
    ·have hs:=HS.out.row (by omega)
     obtain⟨ga,oa,rfl⟩:=Qd9 hs (by omega)
     have hcx:=HT.out.cellN (Qfs hs j hlt)
     have HZ:Hid (rest.take (j+1)=rest.take j++[rest.getD j 0]):=by
      show _=_
      rw [List.take_add_one,List.getElem?_eq_getElem hlt]
      simp [List.getD,hlt]
     have hz:0≤rest.getD j 0∧rest.getD j 0<256:=HBy.out _ (by rw [←HR.out];exact List.mem_append_right _ (by simp [List.getD,hlt]))
     revert hcx HZ hz
     generalize rest.getD j 0=z
     intro hcx HZ hz
     obtain⟨hz0,hz1⟩:=hz
     by_cases hq:j=4096
     ·subst hq
      have hcap:=Qox hs
      have HN:Hid (SOut w0 b l rs (rest.length-4096) (.slice (some ⟨ga,oa+4096,none⟩) (rest.length-4096) (sc-4096)) wr) :=
       ⟨pre++rest.take 4096,rest.drop 4096,h,k,by simp,by rw [List.append_assoc,List.take_append_drop];exact HR.out,(Qk9 hs 4096 (by omega)).arg,HC.out,by rw [←List.append_assoc];exact HW.out,h0,k0,by omega,by omega,HT.out⟩
      have hlt':(4096:Int)<(rest.length:Int):=by omega
      have hcap':(rest.length:Int)≤(sc:Int):=by omega
      clear hs
      go_wp2_with fail
      go_roundg (rest.length-4096)
      case measure=>omega
      case rel=>exact HN.out
     ·clear hs
      have hq':((j:Int)==4096)=false:=by simp;omega
      have HN:Hid (SIn w0 b l pre rest (rest.length-(j+1)) (.int .i64 ((j:Int)+1)) (((wr.setCell ⟨b,0,none⟩ (.int .u32 (h+z))).setCell ⟨b,1,none⟩ (.int .u32 (k+(h+z)))).drew.drew)) :=
       ⟨j+1,h+z,k+(h+z),by omega,by omega,by rw [Int.natCast_add];rfl,((HC.out.set0 _).set1 _).drew.drew,by rw [HZ.out,←List.append_assoc];exact HW.out.snoc z,by omega,by omega,by omega,by omega,(((HT.out.new (p:=⟨b,0,none⟩) hb0 _).new (p:=⟨b,1,none⟩) hb0 _).drew).drew⟩
      clear hq
      go_wp2_with fail
      go_region
      go_wp2_with fail
      go_region
      go_wp2
      go_roundg (rest.length-(j+1))
      case measure=>omega
      case rel=>exact⟨rfl,HN.out⟩
    ·obtain rfl:j=rest.length:=by omega
     have HE:Hid (Run (l++rs) h k):=by
      have:=HW.out
      rw [List.take_length,List.append_assoc,HR.out] at this
      exact this
     go_wp2_with fail
     rw [Exit.noGoto_ret]
     refine bodyPost_ret (results_none rfl _ _ _) rfl ?_
     exact⟨rfl,⟨h,k,HC.out,HE.out,h0,k0,by omega,by omega⟩,HT.out⟩
structure SFun (v:Value) (rs:List Int):Prop where
 ex:∃h k:Int,v=.func (.func 196) #[.agg #[.int .u32 h,.int .u32 k]] #[]∧Run rs h k∧0≤h∧0≤k∧h<4294967296∧k<4294967296
structure PartAt (w:World) (pg i:Nat) (p:Value×List Int):Prop where
 cell:w.cell? ⟨pg,i,none⟩=some p.1
 arg:ArgAt w p.1 p.2
 byte:∀x∈p.2,0≤x∧x<256
def PR (w:World) (b:Nat) (ps:List (Value×List Int)) (g:Nat) (i:Value) (wr:World):Prop :=
 ∃(j:Nat) (h k:Int),j+g=ps.length∧i=.int .i64 (j:Int)∧Two wr b h k∧Run ((ps.take j).map Prod.snd).flatten h k∧0≤h∧0≤k∧h<4294967296∧k<4294967296∧Touch (fun _=>False) w wr
theorem Qhi (pg:Nat) (ps:List (Value×List Int)) (w:World) (hn:ps.length≤1000) (hp:∀i p,ps[i]?=some p→PartAt w pg i p) :
  Calls Tryz.prog 171 #[.slice (some ⟨pg,0,none⟩) ps.length ps.length] w fun e w'=>(∃f,e=.returned f∧SFun f (ps.map Prod.snd).flatten)∧Touch (fun _=>False) w w':=by
 have hmf:∀(fn:Fn) (first cap:Array Value) (w:World),(Instr.makeFunc fn first cap).run Tryz.prog w=.ok (.func fn first cap) w:=fun _ _ _ _=>rfl
 have HP:Hid (∀i p,ps[i]?=some p→PartAt w pg i p):=hp
 clear hp
 go_enter Tryz.func171,Tryz.ntmps171
 go_wp2
 go_loopg [8] ps.length (fun g i wx=>PR w w.heap.size ps g i wx)
 case atStart=>exact⟨0,0,0,by omega,rfl,⟨by simp,by simp,by simp,by simp⟩,Run.zero,by omega,by omega,by omega,by omega,(Touch.refl _ w).alloc _⟩
 case round =>
  obtain⟨j,h,k,hj,rfl,hc,hr,h0,k0,h1,k1,t⟩:=hrel
  by_cases hlt:j<ps.length
  ·obtain⟨⟨pv,pl⟩,hpj⟩:∃p,ps[j]?=some p:=⟨_,List.getElem?_eq_getElem hlt⟩
   obtain⟨pc,pa,pb⟩:=HP.out j _ hpj
   have HTk:Hid ((ps.take (j+1)).map Prod.snd=(ps.take j).map Prod.snd++[pl]):=by
    show _=_
    rw [List.take_add_one,hpj]
    simp
   have hcx:wr.cell? ⟨pg,j,none⟩=some pv:=t.cellN pc
   have HS:=Qp7 w w.heap.size pv _ pl h k wr pa pb hc hr h0 k0 h1 k1 (Nat.le_refl _) t
   clear hpj pc pa pb hc hr t
   go_wp2_with fail
   refine HS.mono ?_
   rintro e w2 ⟨rfl,⟨h',k',hc',hr',h0',k0',h1',k1'⟩,t'⟩
   have HN:Hid (PR w w.heap.size ps (ps.length-(j+1)) (.int .i64 ((j:Int)+1)) w2):=⟨j+1,h',k',by omega,by rw [Int.natCast_add];rfl,hc',by rw [HTk.out,List.flatten_append];simpa using hr',h0',k0',h1',k1',t'⟩
   clear HS hc' hr' t'
   go_wp2_with fail
   go_roundg (ps.length-(j+1))
   case measure=>omega
   case rel=>exact HN.out
  ·obtain rfl:j=ps.length:=by omega
   rw [List.take_length] at hr
   have HR:Hid (Run (ps.map Prod.snd).flatten h k):=hr
   have HT:Hid (Touch (fun _=>False) w wr):=t
   obtain⟨c0,c1,f0,f1⟩:=hc
   clear hr t
   go_wp2
   go_ret
   exact⟨⟨_,rfl,⟨h,k,rfl,HR.out,h0,k0,h1,k1⟩⟩,HT.out⟩
theorem add1 (pg:Nat) (v:Value) (l:List Int) (w:World) (c:w.cell? ⟨pg,0,none⟩=some v) (a:ArgAt w v l) (hb:∀x∈l,0≤x∧x<256) :
  Calls Tryz.prog 171 #[.slice (some ⟨pg,0,none⟩) 1 1] w fun e w'=>(∃f,e=.returned f∧SFun f l)∧Touch (fun _=>False) w w':=by
 have:=Qhi pg [(v,l)] w (by simp) (fun i p h=>by
  match i,h with
  | 0,h=>simp at h;subst h;exact⟨c,a,hb⟩
  | i+1,h=>simp at h)
 simpa using this
theorem Qca (v:Value) (rs:List Int) (w:World) (hv:ArgAt w v rs) (hby:∀x∈rs,0≤x∧x<256) :
  Calls Tryz.prog 142 #[v] w fun e w'=>e=.returned (.bool (whole rs))∧Touch (fun _=>False) w w':=by
 obtain⟨B,hB⟩:∃B,whole rs=B:=⟨_,rfl⟩
 have HB:Hid (whole rs=B):=hB
 rw [hB]
 clear hB
 obtain⟨va,vc,rfl,hm⟩:=hv.form
 go_enter Tryz.func142,Tryz.ntmps142
 go_wp2_with fail
 refine (add1 _ (.slice va rs.length vc) rs _ ?pcell ?parg hby).mono ?_
 case pcell=>simp
 case parg=>exact hv.keep ((Touch.refl (fun _=>False) w).alloc _) (fun _ _ h=>h)
 rintro e w1 ⟨⟨f,rfl,⟨h,k,rfl,hr,h0,k0,h1,k1⟩⟩,t1⟩
 have HT:Hid (Touch (fun _=>False) w w1):=((Touch.refl _ w).alloc _).trans t1
 have hr0:=hr.c0
 have hr1:=hr.c1
 have hm0:modv h k 0=h%255:=rfl
 have hm1:modv h k 1=k%255:=rfl
 clear hv hby t1 hr
 by_cases e0:h%255=0
 ·by_cases e1:k%255=0
  ·have HBt:Hid (B=true):=by show _=_;rw [←HB.out,Qdb];exact⟨by omega,by omega⟩
   clear hr0 hr1
   go_wp2_with fail
   refine (Qla h k 0 _ (Or.inl rfl) h0 h1 k0 k1).mono ?_
   rintro e w2 ⟨rfl,rfl⟩
   go_wp2_with fail
   refine (Qla h k 1 _ (Or.inr rfl) h0 h1 k0 k1).mono ?_
   rintro e w2 ⟨rfl,rfl⟩
   go_wp2
   go_ret
   rw [HBt.out]
   exact⟨rfl,(HT.out.alloc _).alloc _⟩
  ·have e1':(k%255==0)=false:=by simpa using e1
   have HBt:Hid (B=false):=by show _=_;rw [←HB.out,←Bool.not_eq_true,Qdb];rintro ⟨_,q⟩;omega
   clear hr0 hr1
   go_wp2_with fail
   refine (Qla h k 0 _ (Or.inl rfl) h0 h1 k0 k1).mono ?_
   rintro e w2 ⟨rfl,rfl⟩
   go_wp2_with fail
   refine (Qla h k 1 _ (Or.inr rfl) h0 h1 k0 k1).mono ?_
   rintro e w2 ⟨rfl,rfl⟩
   go_wp2
   go_ret
   rw [HBt.out]
   exact⟨rfl,(HT.out.alloc _).alloc _⟩
 ·have e0':(h%255==0)=false:=by simpa using e0
  have HBt:Hid (B=false):=by show _=_;rw [←HB.out,←Bool.not_eq_true,Qdb];rintro ⟨q,_⟩;omega
  clear hr0 hr1
  go_wp2_with fail
  refine (Qla h k 0 _ (Or.inl rfl) h0 h1 k0 k1).mono ?_
  rintro e w2 ⟨rfl,rfl⟩
  go_wp2
  go_ret
  rw [HBt.out]
  exact⟨rfl,HT.out.alloc _⟩
end Go.Proofs.YtddbffoiadmffaaGreat
