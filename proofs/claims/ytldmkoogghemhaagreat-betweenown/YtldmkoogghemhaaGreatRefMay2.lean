import Derived.Test.YtldmkoogghemhaaGreatRefMask
import Derived.Deep.LoopGhost
namespace Go.Proofs.YtldmkoogghemhaaGreat
set_option maxHeartbeats 8000000
open Go.RowKit
set_option linter.unusedVariables false
set_option maxRecDepth 100000
theorem Qh1 (t:Int) (hk:knownB t=true) (b:BV) (vl vr vd:Value) (w:World) (ha:BArg w b vl vr vd) (hb1:b.links.length≤8192) (hb2:b.routers.length≤32768) (hb3:b.data.length≤131072) :
  Calls Tryz.prog 85 #[.int .u8 t,b.v vl vr vd] w fun e w'=>e=.returned (.bool (aloneB t b))∧Touch (fun _=>False) w w':=by
 obtain⟨al,cl,rfl,-⟩:=ValsAt.form ha.l
 obtain⟨ar,cr,rfl,-⟩:=ValsAt.form ha.r
 obtain⟨ad,cd,rfl,-⟩:=ArgAt.form ha.d
 have ht:t=1∨t=2∨t=3∨t=4∨t=5∨t=7∨9≤t:=by
  simp [knownB] at hk;omega
 unfold BV.v
 cases h2:b.type2
 all_goals rcases ht with rfl|rfl|rfl|rfl|rfl|rfl|h9
 ·exact Qn4 b.flags b.mask b.metric b.fwd b.tag _ _ _ _ _ _ _ _ _ _ w hb1 hb2 hb3 (by show _↔_;rw [Qao];simp [h2])
 ·exact Qn8 b.flags b.mask b.metric b.fwd b.tag _ _ _ _ _ _ _ _ _ _ w hb1 hb2 hb3 (by show _↔_;rw [Qao];simp [h2])
 ·exact Qow b.flags b.mask b.metric b.fwd b.tag _ _ _ _ _ _ _ _ _ _ w hb1 hb2 hb3 (by show _↔_;rw [Qao];simp [h2])
 ·exact Qnz b.flags b.mask b.metric b.fwd b.tag _ _ _ _ _ _ _ _ _ _ w hb1 hb2 hb3 (by show _↔_;rw [Qao];simp [h2])
 ·exact Qo0 b.flags b.mask b.metric b.fwd b.tag _ _ _ _ _ _ _ _ _ _ w hb1 hb2 hb3 (by show _↔_;rw [Qao];simp [h2])
 ·exact Qn3 b.flags b.mask b.metric b.fwd b.tag _ _ _ _ _ _ _ _ _ _ w hb1 hb2 hb3 (by show _↔_;rw [Qao];simp [h2])
 ·exact Qot t h9 b.flags b.mask b.metric b.fwd b.tag _ _ _ _ _ _ _ _ _ _ w hb1 hb2 hb3 (by show _↔_;rw [Qao];simp [h2,h9,show ¬t=1 by omega,show ¬t=2 by omega,show ¬t=3 by omega,show ¬t=4 by omega,show ¬t=5 by omega,show ¬t=7 by omega])
 ·exact Qoh b.flags b.mask b.metric b.fwd b.tag _ _ _ _ _ _ _ _ _ _ w hb1 hb2 hb3 (by show _↔_;rw [Qao];simp [h2])
 ·exact Qoa b.flags b.mask b.metric b.fwd b.tag _ _ _ _ _ _ _ _ _ _ w hb1 hb2 hb3 (by show _↔_;rw [Qao];simp [h2])
 ·exact Qoc b.flags b.mask b.metric b.fwd b.tag _ _ _ _ _ _ _ _ _ _ w hb1 hb2 hb3 (by show _↔_;rw [Qao];simp [h2])
 ·exact Qob b.flags b.mask b.metric b.fwd b.tag _ _ _ _ _ _ _ _ _ _ w hb1 hb2 hb3 (by show _↔_;rw [Qao];simp [h2])
 ·exact Qnp b.flags b.mask b.metric b.fwd b.tag _ _ _ _ _ _ _ _ _ _ w hb1 hb2 hb3 (by show _↔_;rw [Qao];simp [h2])
 ·exact Qoj b.flags b.mask b.metric b.fwd b.tag _ _ _ _ _ _ _ _ _ _ w hb1 hb2 hb3 (by show _↔_;rw [Qao];simp [h2])
 ·exact Qoq t h9 b.flags b.mask b.metric b.fwd b.tag _ _ _ _ _ _ _ _ _ _ w hb1 hb2 hb3 (by show _↔_;rw [Qao];simp [h2,h9,show ¬t=1 by omega,show ¬t=2 by omega,show ¬t=3 by omega,show ¬t=4 by omega,show ¬t=5 by omega,show ¬t=7 by omega])
theorem Qnt (t:Int) (b:BV) (al ar ad:Option Addr) (cl cr cd nr nd:Nat) (A M:Bool) (w:World) (HL:Hid (LinksAt w (.slice al b.links.length cl) b.links)) (hb1:b.links.length≤8192) (hb2:nr≤32768) (hb3:nd≤131072)
  (HB:∀w,Calls Tryz.prog 80 #[.int .u32 b.mask] w fun e w'=>e=.returned (.tuple #[.int .u8 (pbn b.mask),.bool M])∧w=w')
  (HAl:∀w',Touch (fun _=>False) w w'→Calls Tryz.prog 85 #[.int .u8 t,.agg #[.int .u8 b.flags,.slice al b.links.length cl,.int .u32 b.mask,.slice ar nr cr,.int .u32 b.metric,.bool b.type2,.int .u32 b.fwd,.int .u32 b.tag,.slice ad nd cd]] w' fun e w''=>e=.returned (.bool A)∧Touch (fun _=>False) w' w'')
  (hA:A=false) :
  Calls Tryz.prog 64 #[.int .u8 t,.agg #[.int .u8 b.flags,.slice al b.links.length cl,.int .u32 b.mask,.slice ar nr cr,.int .u32 b.metric,.bool b.type2,.int .u32 b.fwd,.int .u32 b.tag,.slice ad nd cd]] w fun e w'=>e=.returned (.bool false)∧Touch (fun _=>False) w w':=by
 subst hA
 go_enter Tryz.func64,Tryz.ntmps64
 go_wp2_with fail
 refine Calls.mono (HB _) ?_
 rintro e w1 ⟨rfl,rfl⟩
 go_wp2_with fail
 refine Calls.mono (HAl _ ((Touch.refl _ w).alloc _)) ?_
 rintro e w2 ⟨rfl,t2⟩
 have T2:Hid (Touch (fun _=>False) w w2):=((Touch.refl _ w).alloc _).trans t2
 obtain⟨g,hg⟩:∃g,w.heap.size=g:=⟨_,rfl⟩
 have KB:Hid (∀nr' nd':Nat,nr'=nr→nd'=nd→True):=fun _ _ _ _=>trivial
 have L2:Hid (LinksAt w2 (.slice al b.links.length cl) b.links):=HL.out.keep T2.out
 have c0:w2.cell? ⟨w.heap.size,0,none⟩=some (.int .u8 b.flags):=t2.cellN (by simp [go_sem])
 have c1:w2.cell? ⟨w.heap.size,1,none⟩=some (.slice al b.links.length cl):=t2.cellN (by simp [go_sem])
 have c3:w2.cell? ⟨w.heap.size,3,none⟩=some (.slice ar nr cr):=t2.cellN (by simp [go_sem])
 have c4:w2.cell? ⟨w.heap.size,4,none⟩=some (.int .u32 b.metric):=t2.cellN (by simp [go_sem])
 have c8:w2.cell? ⟨w.heap.size,8,none⟩=some (.slice ad nd cd):=t2.cellN (by simp [go_sem])
 rw [hg] at c0 c1 c3 c4 c8 ⊢
 clear t2 HB HAl HL hg KB
 go_wp2_with fail
 go_ret
 exact⟨rfl,T2.out⟩
theorem Qnx (t:Int) (b:BV) (al ar ad:Option Addr) (cl cr cd nr nd:Nat) (A M:Bool) (w:World) (HL:Hid (LinksAt w (.slice al b.links.length cl) b.links)) (hb1:b.links.length≤8192) (hb2:nr≤32768) (hb3:nd≤131072)
  (HB:∀w,Calls Tryz.prog 80 #[.int .u32 b.mask] w fun e w'=>e=.returned (.tuple #[.int .u8 (pbn b.mask),.bool M])∧w=w')
  (HAl:∀w',Touch (fun _=>False) w w'→Calls Tryz.prog 85 #[.int .u8 t,.agg #[.int .u8 b.flags,.slice al b.links.length cl,.int .u32 b.mask,.slice ar nr cr,.int .u32 b.metric,.bool b.type2,.int .u32 b.fwd,.int .u32 b.tag,.slice ad nd cd]] w' fun e w''=>e=.returned (.bool A)∧Touch (fun _=>False) w' w'')
  (hA:A=true) (hM:M=false) :
  Calls Tryz.prog 64 #[.int .u8 t,.agg #[.int .u8 b.flags,.slice al b.links.length cl,.int .u32 b.mask,.slice ar nr cr,.int .u32 b.metric,.bool b.type2,.int .u32 b.fwd,.int .u32 b.tag,.slice ad nd cd]] w fun e w'=>e=.returned (.bool false)∧Touch (fun _=>False) w w':=by
 subst hA hM
 go_enter Tryz.func64,Tryz.ntmps64
 go_wp2_with fail
 refine Calls.mono (HB _) ?_
 rintro e w1 ⟨rfl,rfl⟩
 go_wp2_with fail
 refine Calls.mono (HAl _ ((Touch.refl _ w).alloc _)) ?_
 rintro e w2 ⟨rfl,t2⟩
 have T2:Hid (Touch (fun _=>False) w w2):=((Touch.refl _ w).alloc _).trans t2
 obtain⟨g,hg⟩:∃g,w.heap.size=g:=⟨_,rfl⟩
 have KB:Hid (∀nr' nd':Nat,nr'=nr→nd'=nd→True):=fun _ _ _ _=>trivial
 have L2:Hid (LinksAt w2 (.slice al b.links.length cl) b.links):=HL.out.keep T2.out
 have c0:w2.cell? ⟨w.heap.size,0,none⟩=some (.int .u8 b.flags):=t2.cellN (by simp [go_sem])
 have c1:w2.cell? ⟨w.heap.size,1,none⟩=some (.slice al b.links.length cl):=t2.cellN (by simp [go_sem])
 have c3:w2.cell? ⟨w.heap.size,3,none⟩=some (.slice ar nr cr):=t2.cellN (by simp [go_sem])
 have c4:w2.cell? ⟨w.heap.size,4,none⟩=some (.int .u32 b.metric):=t2.cellN (by simp [go_sem])
 have c8:w2.cell? ⟨w.heap.size,8,none⟩=some (.slice ad nd cd):=t2.cellN (by simp [go_sem])
 rw [hg] at c0 c1 c3 c4 c8 ⊢
 clear t2 HB HAl HL hg KB
 go_wp2_with fail
 go_ret
 exact⟨rfl,T2.out⟩
theorem Qoe (t:Int) (b:BV) (al ar ad:Option Addr) (cl cr cd nr nd:Nat) (A M:Bool) (w:World) (HL:Hid (LinksAt w (.slice al b.links.length cl) b.links)) (hb1:b.links.length≤8192) (hb2:nr≤32768) (hb3:nd≤131072)
  (HB:∀w,Calls Tryz.prog 80 #[.int .u32 b.mask] w fun e w'=>e=.returned (.tuple #[.int .u8 (pbn b.mask),.bool M])∧w=w')
  (HAl:∀w',Touch (fun _=>False) w w'→Calls Tryz.prog 85 #[.int .u8 t,.agg #[.int .u8 b.flags,.slice al b.links.length cl,.int .u32 b.mask,.slice ar nr cr,.int .u32 b.metric,.bool b.type2,.int .u32 b.fwd,.int .u32 b.tag,.slice ad nd cd]] w' fun e w''=>e=.returned (.bool A)∧Touch (fun _=>False) w' w'')
  (hA:A=true) (hM:M=true) (h3:16777215<b.metric) :
  Calls Tryz.prog 64 #[.int .u8 t,.agg #[.int .u8 b.flags,.slice al b.links.length cl,.int .u32 b.mask,.slice ar nr cr,.int .u32 b.metric,.bool b.type2,.int .u32 b.fwd,.int .u32 b.tag,.slice ad nd cd]] w fun e w'=>e=.returned (.bool false)∧Touch (fun _=>False) w w':=by
 subst hA hM
 go_enter Tryz.func64,Tryz.ntmps64
 go_wp2_with fail
 refine Calls.mono (HB _) ?_
 rintro e w1 ⟨rfl,rfl⟩
 go_wp2_with fail
 refine Calls.mono (HAl _ ((Touch.refl _ w).alloc _)) ?_
 rintro e w2 ⟨rfl,t2⟩
 have T2:Hid (Touch (fun _=>False) w w2):=((Touch.refl _ w).alloc _).trans t2
 obtain⟨g,hg⟩:∃g,w.heap.size=g:=⟨_,rfl⟩
 have KB:Hid (∀nr' nd':Nat,nr'=nr→nd'=nd→True):=fun _ _ _ _=>trivial
 have L2:Hid (LinksAt w2 (.slice al b.links.length cl) b.links):=HL.out.keep T2.out
 have c0:w2.cell? ⟨w.heap.size,0,none⟩=some (.int .u8 b.flags):=t2.cellN (by simp [go_sem])
 have c1:w2.cell? ⟨w.heap.size,1,none⟩=some (.slice al b.links.length cl):=t2.cellN (by simp [go_sem])
 have c3:w2.cell? ⟨w.heap.size,3,none⟩=some (.slice ar nr cr):=t2.cellN (by simp [go_sem])
 have c4:w2.cell? ⟨w.heap.size,4,none⟩=some (.int .u32 b.metric):=t2.cellN (by simp [go_sem])
 have c8:w2.cell? ⟨w.heap.size,8,none⟩=some (.slice ad nd cd):=t2.cellN (by simp [go_sem])
 rw [hg] at c0 c1 c3 c4 c8 ⊢
 clear t2 HB HAl HL hg KB
 go_wp2_with fail
 go_ret
 exact⟨rfl,T2.out⟩
theorem Qon (t:Int) (b:BV) (al ar ad:Option Addr) (cl cr cd nr nd:Nat) (A M:Bool) (w:World) (HL:Hid (LinksAt w (.slice al b.links.length cl) b.links)) (hb1:b.links.length≤8192) (hb2:nr≤32768) (hb3:nd≤131072)
  (HB:∀w,Calls Tryz.prog 80 #[.int .u32 b.mask] w fun e w'=>e=.returned (.tuple #[.int .u8 (pbn b.mask),.bool M])∧w=w')
  (HAl:∀w',Touch (fun _=>False) w w'→Calls Tryz.prog 85 #[.int .u8 t,.agg #[.int .u8 b.flags,.slice al b.links.length cl,.int .u32 b.mask,.slice ar nr cr,.int .u32 b.metric,.bool b.type2,.int .u32 b.fwd,.int .u32 b.tag,.slice ad nd cd]] w' fun e w''=>e=.returned (.bool A)∧Touch (fun _=>False) w' w'')
  (hA:A=true) (hM:M=true) (h3:¬16777215<b.metric) (r:Nat) (h4:(nd:Int)%4=(r:Int)) (h5:¬(r:Int)=0) :
  Calls Tryz.prog 64 #[.int .u8 t,.agg #[.int .u8 b.flags,.slice al b.links.length cl,.int .u32 b.mask,.slice ar nr cr,.int .u32 b.metric,.bool b.type2,.int .u32 b.fwd,.int .u32 b.tag,.slice ad nd cd]] w fun e w'=>e=.returned (.bool false)∧Touch (fun _=>False) w w':=by
 subst hA hM
 go_enter Tryz.func64,Tryz.ntmps64
 go_wp2_with fail
 refine Calls.mono (HB _) ?_
 rintro e w1 ⟨rfl,rfl⟩
 go_wp2_with fail
 refine Calls.mono (HAl _ ((Touch.refl _ w).alloc _)) ?_
 rintro e w2 ⟨rfl,t2⟩
 have T2:Hid (Touch (fun _=>False) w w2):=((Touch.refl _ w).alloc _).trans t2
 obtain⟨g,hg⟩:∃g,w.heap.size=g:=⟨_,rfl⟩
 have KB:Hid (∀nr' nd':Nat,nr'=nr→nd'=nd→True):=fun _ _ _ _=>trivial
 have L2:Hid (LinksAt w2 (.slice al b.links.length cl) b.links):=HL.out.keep T2.out
 have c0:w2.cell? ⟨w.heap.size,0,none⟩=some (.int .u8 b.flags):=t2.cellN (by simp [go_sem])
 have c1:w2.cell? ⟨w.heap.size,1,none⟩=some (.slice al b.links.length cl):=t2.cellN (by simp [go_sem])
 have c3:w2.cell? ⟨w.heap.size,3,none⟩=some (.slice ar nr cr):=t2.cellN (by simp [go_sem])
 have c4:w2.cell? ⟨w.heap.size,4,none⟩=some (.int .u32 b.metric):=t2.cellN (by simp [go_sem])
 have c8:w2.cell? ⟨w.heap.size,8,none⟩=some (.slice ad nd cd):=t2.cellN (by simp [go_sem])
 rw [hg] at c0 c1 c3 c4 c8 ⊢
 clear t2 HB HAl HL hg KB
 go_wp2_with fail
 go_ret
 exact⟨rfl,T2.out⟩
theorem Qns (t:Int) (b:BV) (al ar ad:Option Addr) (cl cr cd nr nd:Nat) (A M:Bool) (w:World) (HL:Hid (LinksAt w (.slice al b.links.length cl) b.links)) (hb1:b.links.length≤8192) (hb2:nr≤32768) (hb3:nd≤131072)
  (HB:∀w,Calls Tryz.prog 80 #[.int .u32 b.mask] w fun e w'=>e=.returned (.tuple #[.int .u8 (pbn b.mask),.bool M])∧w=w')
  (HAl:∀w',Touch (fun _=>False) w w'→Calls Tryz.prog 85 #[.int .u8 t,.agg #[.int .u8 b.flags,.slice al b.links.length cl,.int .u32 b.mask,.slice ar nr cr,.int .u32 b.metric,.bool b.type2,.int .u32 b.fwd,.int .u32 b.tag,.slice ad nd cd]] w' fun e w''=>e=.returned (.bool A)∧Touch (fun _=>False) w' w'')
  (hA:A=true) (hM:M=true) (h3:¬16777215<b.metric) (h4:(nd:Int)%4=0) (ht:t=2) (h6:nr=0) :
  Calls Tryz.prog 64 #[.int .u8 t,.agg #[.int .u8 b.flags,.slice al b.links.length cl,.int .u32 b.mask,.slice ar nr cr,.int .u32 b.metric,.bool b.type2,.int .u32 b.fwd,.int .u32 b.tag,.slice ad nd cd]] w fun e w'=>e=.returned (.bool false)∧Touch (fun _=>False) w w':=by
 subst hA hM ht
 subst h6
 go_enter Tryz.func64,Tryz.ntmps64
 go_wp2_with fail
 refine Calls.mono (HB _) ?_
 rintro e w1 ⟨rfl,rfl⟩
 go_wp2_with fail
 refine Calls.mono (HAl _ ((Touch.refl _ w).alloc _)) ?_
 rintro e w2 ⟨rfl,t2⟩
 have T2:Hid (Touch (fun _=>False) w w2):=((Touch.refl _ w).alloc _).trans t2
 obtain⟨g,hg⟩:∃g,w.heap.size=g:=⟨_,rfl⟩
 have KB:Hid (True):=trivial
 have L2:Hid (LinksAt w2 (.slice al b.links.length cl) b.links):=HL.out.keep T2.out
 have c0:w2.cell? ⟨w.heap.size,0,none⟩=some (.int .u8 b.flags):=t2.cellN (by simp [go_sem])
 have c1:w2.cell? ⟨w.heap.size,1,none⟩=some (.slice al b.links.length cl):=t2.cellN (by simp [go_sem])
 have c3:w2.cell? ⟨w.heap.size,3,none⟩=some (.slice ar 0 cr):=t2.cellN (by simp [go_sem])
 have c4:w2.cell? ⟨w.heap.size,4,none⟩=some (.int .u32 b.metric):=t2.cellN (by simp [go_sem])
 have c8:w2.cell? ⟨w.heap.size,8,none⟩=some (.slice ad nd cd):=t2.cellN (by simp [go_sem])
 rw [hg] at c0 c1 c3 c4 c8 ⊢
 clear t2 HB HAl HL hg KB
 go_wp2_with fail
 go_ret
 exact⟨rfl,T2.out⟩
theorem Qok (t:Int) (b:BV) (al ar ad:Option Addr) (cl cr cd nr nd:Nat) (A M:Bool) (w:World) (HL:Hid (LinksAt w (.slice al b.links.length cl) b.links)) (hb1:b.links.length≤8192) (hb2:nr≤32768) (hb3:nd≤131072)
  (HB:∀w,Calls Tryz.prog 80 #[.int .u32 b.mask] w fun e w'=>e=.returned (.tuple #[.int .u8 (pbn b.mask),.bool M])∧w=w')
  (HAl:∀w',Touch (fun _=>False) w w'→Calls Tryz.prog 85 #[.int .u8 t,.agg #[.int .u8 b.flags,.slice al b.links.length cl,.int .u32 b.mask,.slice ar nr cr,.int .u32 b.metric,.bool b.type2,.int .u32 b.fwd,.int .u32 b.tag,.slice ad nd cd]] w' fun e w''=>e=.returned (.bool A)∧Touch (fun _=>False) w' w'')
  (hA:A=true) (hM:M=true) (h3:¬16777215<b.metric) (h4:(nd:Int)%4=0) (ht:¬t=2) (R:Bool) (HR:Hid (R=b.links.all (fun x=>decide (1≤x.typ∧x.typ≤4)))) :
  Calls Tryz.prog 64 #[.int .u8 t,.agg #[.int .u8 b.flags,.slice al b.links.length cl,.int .u32 b.mask,.slice ar nr cr,.int .u32 b.metric,.bool b.type2,.int .u32 b.fwd,.int .u32 b.tag,.slice ad nd cd]] w fun e w'=>e=.returned (.bool R)∧Touch (fun _=>False) w w':=by
 subst hA hM
 go_enter Tryz.func64,Tryz.ntmps64
 go_wp2_with fail
 refine Calls.mono (HB _) ?_
 rintro e w1 ⟨rfl,rfl⟩
 go_wp2_with fail
 refine Calls.mono (HAl _ ((Touch.refl _ w).alloc _)) ?_
 rintro e w2 ⟨rfl,t2⟩
 have T2:Hid (Touch (fun _=>False) w w2):=((Touch.refl _ w).alloc _).trans t2
 obtain⟨g,hg⟩:∃g,w.heap.size=g:=⟨_,rfl⟩
 have KB:Hid (∀nr' nd':Nat,nr'=nr→nd'=nd→True):=fun _ _ _ _=>trivial
 have L2:Hid (LinksAt w2 (.slice al b.links.length cl) b.links):=HL.out.keep T2.out
 have c0:w2.cell? ⟨w.heap.size,0,none⟩=some (.int .u8 b.flags):=t2.cellN (by simp [go_sem])
 have c1:w2.cell? ⟨w.heap.size,1,none⟩=some (.slice al b.links.length cl):=t2.cellN (by simp [go_sem])
 have c3:w2.cell? ⟨w.heap.size,3,none⟩=some (.slice ar nr cr):=t2.cellN (by simp [go_sem])
 have c4:w2.cell? ⟨w.heap.size,4,none⟩=some (.int .u32 b.metric):=t2.cellN (by simp [go_sem])
 have c8:w2.cell? ⟨w.heap.size,8,none⟩=some (.slice ad nd cd):=t2.cellN (by simp [go_sem])
 rw [hg] at c0 c1 c3 c4 c8 ⊢
 clear t2 HB HAl HL hg KB
 go_wp2_with fail
 go_loopg [7] b.links.length (fun gg i wr=>∃j:Nat,j≤b.links.length∧b.links.length-j≤gg∧i=.int .i64 (j:Int)∧Hid (wr=w2)∧Hid (∀x∈b.links.take j,1≤x.typ∧x.typ≤4))
 case atStart=>exact⟨0,Nat.zero_le _,by omega,rfl,rfl,fun x hx=>by simp at hx⟩
 case round =>
  obtain⟨j,hj,hg,rfl,HW,HJ⟩:=hrel
  have hw:=HW.out
  clear HW
  subst hw
  rcases Nat.lt_or_ge j b.links.length with hlt|hge
  ·have hlt':(j:Int)<(b.links.length:Int):=by omega
   obtain⟨gr,off,cc,e,h1,h2,h3'⟩:=ValsAt.cells L2.out (by omega) (by decide)
   obtain⟨rfl,rfl⟩:al=some ⟨gr,off,none⟩∧cl=cc:=by cases e;exact⟨rfl,rfl⟩
   obtain⟨x,hx⟩:∃x,b.links[j]?=some x:=⟨_,List.getElem?_eq_getElem hlt⟩
   have HX:Hid (b.links[j]?=some x):=hx
   have d2:wr.cell? ⟨gr,off+j*4+2,none⟩=some (.int .u8 x.typ):=h3' (j*4+2) (.int .u8 x.typ) (by rw [Qbn _ _ _ _ hx (by omega)];rfl)
   clear h3' e hx
   by_cases hlo:x.typ<1
   ·have HF:Hid (R=false):=by
     show _=_
     rw [HR.out,List.all_eq_false]
     exact⟨x,List.mem_of_getElem? HX.out,by simp;omega⟩
    go_wp2_with fail
    go_ret
    exact⟨Qad HF.out.symm,T2.out⟩
   ·by_cases hhi:4<x.typ
    ·have HF:Hid (R=false):=by
      show _=_
      rw [HR.out,List.all_eq_false]
      exact⟨x,List.mem_of_getElem? HX.out,by simp;omega⟩
     go_wp2_with fail
     go_ret
     exact⟨Qad HF.out.symm,T2.out⟩
    ·have HN:Hid (∀y∈b.links.take (j+1),1≤y.typ∧y.typ≤4):=by
      intro y hy
      rw [Qci HX.out] at hy
      rcases List.mem_append.1 hy with hy|hy
      ·exact HJ.out y hy
      ·obtain rfl:=List.mem_singleton.1 hy
       omega
     clear HJ
     go_wp2_with fail
     go_roundg (b.links.length-(j+1))
     case measure=>omega
     case rel=>exact⟨j+1,by omega,by omega,by go_num,rfl,HN⟩
  ·obtain rfl:j=b.links.length:=by omega
   have hlt':¬(b.links.length:Int)<(b.links.length:Int):=by omega
   have HF:Hid (R=true):=by
    show _=_
    rw [HR.out,List.all_eq_true]
    intro x hx
    have:=HJ.out x (by rw [List.take_length];exact hx)
    simp;omega
   clear HJ
   go_wp2_with fail
   go_ret
   exact⟨Qad HF.out.symm,T2.out⟩
theorem Qmw (t:Int) (b:BV) (al ar ad:Option Addr) (cl cr cd nr nd:Nat) (A M:Bool) (w:World) (HL:Hid (LinksAt w (.slice al b.links.length cl) b.links)) (hb1:b.links.length≤8192) (hb2:nr≤32768) (hb3:nd≤131072)
  (HB:∀w,Calls Tryz.prog 80 #[.int .u32 b.mask] w fun e w'=>e=.returned (.tuple #[.int .u8 (pbn b.mask),.bool M])∧w=w')
  (HAl:∀w',Touch (fun _=>False) w w'→Calls Tryz.prog 85 #[.int .u8 t,.agg #[.int .u8 b.flags,.slice al b.links.length cl,.int .u32 b.mask,.slice ar nr cr,.int .u32 b.metric,.bool b.type2,.int .u32 b.fwd,.int .u32 b.tag,.slice ad nd cd]] w' fun e w''=>e=.returned (.bool A)∧Touch (fun _=>False) w' w'')
  (hA:A=true) (hM:M=true) (h3:¬16777215<b.metric) (h4:(nd:Int)%4=0) (ht:t=2) (h6:((nr:Int)==0)=false) (R:Bool) (HR:Hid (R=b.links.all (fun x=>decide (1≤x.typ∧x.typ≤4)))) :
  Calls Tryz.prog 64 #[.int .u8 t,.agg #[.int .u8 b.flags,.slice al b.links.length cl,.int .u32 b.mask,.slice ar nr cr,.int .u32 b.metric,.bool b.type2,.int .u32 b.fwd,.int .u32 b.tag,.slice ad nd cd]] w fun e w'=>e=.returned (.bool R)∧Touch (fun _=>False) w w':=by
 subst hA hM
 subst ht
 go_enter Tryz.func64,Tryz.ntmps64
 go_wp2_with fail
 refine Calls.mono (HB _) ?_
 rintro e w1 ⟨rfl,rfl⟩
 go_wp2_with fail
 refine Calls.mono (HAl _ ((Touch.refl _ w).alloc _)) ?_
 rintro e w2 ⟨rfl,t2⟩
 have T2:Hid (Touch (fun _=>False) w w2):=((Touch.refl _ w).alloc _).trans t2
 obtain⟨g,hg⟩:∃g,w.heap.size=g:=⟨_,rfl⟩
 have KB:Hid (∀nr' nd':Nat,nr'=nr→nd'=nd→True):=fun _ _ _ _=>trivial
 have L2:Hid (LinksAt w2 (.slice al b.links.length cl) b.links):=HL.out.keep T2.out
 have c0:w2.cell? ⟨w.heap.size,0,none⟩=some (.int .u8 b.flags):=t2.cellN (by simp [go_sem])
 have c1:w2.cell? ⟨w.heap.size,1,none⟩=some (.slice al b.links.length cl):=t2.cellN (by simp [go_sem])
 have c3:w2.cell? ⟨w.heap.size,3,none⟩=some (.slice ar nr cr):=t2.cellN (by simp [go_sem])
 have c4:w2.cell? ⟨w.heap.size,4,none⟩=some (.int .u32 b.metric):=t2.cellN (by simp [go_sem])
 have c8:w2.cell? ⟨w.heap.size,8,none⟩=some (.slice ad nd cd):=t2.cellN (by simp [go_sem])
 rw [hg] at c0 c1 c3 c4 c8 ⊢
 clear t2 HB HAl HL hg KB
 go_wp2_with fail
 go_loopg [7] b.links.length (fun gg i wr=>∃j:Nat,j≤b.links.length∧b.links.length-j≤gg∧i=.int .i64 (j:Int)∧Hid (wr=w2)∧Hid (∀x∈b.links.take j,1≤x.typ∧x.typ≤4))
 case atStart=>exact⟨0,Nat.zero_le _,by omega,rfl,rfl,fun x hx=>by simp at hx⟩
 case round =>
  obtain⟨j,hj,hg,rfl,HW,HJ⟩:=hrel
  have hw:=HW.out
  clear HW
  subst hw
  rcases Nat.lt_or_ge j b.links.length with hlt|hge
  ·have hlt':(j:Int)<(b.links.length:Int):=by omega
   obtain⟨gr,off,cc,e,h1,h2,h3'⟩:=ValsAt.cells L2.out (by omega) (by decide)
   obtain⟨rfl,rfl⟩:al=some ⟨gr,off,none⟩∧cl=cc:=by cases e;exact⟨rfl,rfl⟩
   obtain⟨x,hx⟩:∃x,b.links[j]?=some x:=⟨_,List.getElem?_eq_getElem hlt⟩
   have HX:Hid (b.links[j]?=some x):=hx
   have d2:wr.cell? ⟨gr,off+j*4+2,none⟩=some (.int .u8 x.typ):=h3' (j*4+2) (.int .u8 x.typ) (by rw [Qbn _ _ _ _ hx (by omega)];rfl)
   clear h3' e hx
   by_cases hlo:x.typ<1
   ·have HF:Hid (R=false):=by
     show _=_
     rw [HR.out,List.all_eq_false]
     exact⟨x,List.mem_of_getElem? HX.out,by simp;omega⟩
    go_wp2_with fail
    go_ret
    exact⟨Qad HF.out.symm,T2.out⟩
   ·by_cases hhi:4<x.typ
    ·have HF:Hid (R=false):=by
      show _=_
      rw [HR.out,List.all_eq_false]
      exact⟨x,List.mem_of_getElem? HX.out,by simp;omega⟩
     go_wp2_with fail
     go_ret
     exact⟨Qad HF.out.symm,T2.out⟩
    ·have HN:Hid (∀y∈b.links.take (j+1),1≤y.typ∧y.typ≤4):=by
      intro y hy
      rw [Qci HX.out] at hy
      rcases List.mem_append.1 hy with hy|hy
      ·exact HJ.out y hy
      ·obtain rfl:=List.mem_singleton.1 hy
       omega
     clear HJ
     go_wp2_with fail
     go_roundg (b.links.length-(j+1))
     case measure=>omega
     case rel=>exact⟨j+1,by omega,by omega,by go_num,rfl,HN⟩
  ·obtain rfl:j=b.links.length:=by omega
   have hlt':¬(b.links.length:Int)<(b.links.length:Int):=by omega
   have HF:Hid (R=true):=by
    show _=_
    rw [HR.out,List.all_eq_true]
    intro x hx
    have:=HJ.out x (by rw [List.take_length];exact hx)
    simp;omega
   clear HJ
   go_wp2_with fail
   go_ret
   exact⟨Qad HF.out.symm,T2.out⟩
end Go.Proofs.YtldmkoogghemhaaGreat
