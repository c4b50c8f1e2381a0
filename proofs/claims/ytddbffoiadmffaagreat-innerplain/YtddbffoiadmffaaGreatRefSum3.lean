import Derived.Test.YtddbffoiadmffaaGreatRefMask
import Derived.Deep.LoopGhost
import Derived.Laws.BitsAllLaws
namespace Go.Proofs.YtddbffoiadmffaaGreat
set_option maxHeartbeats 8000000
open Go.RowKit
set_option linter.unusedVariables false
set_option maxRecDepth 100000
theorem Qkx (t:Int) (hk:knownB t=true) (b:BV) (vl vr vd:Value) (w:World) (ha:BArg w b vl vr vd) (hb1:b.links.length≤8192) (hb2:b.routers.length≤32768) (hb3:b.data.length≤131072) :
  Calls Tryz.prog 132 #[.int .u8 t,b.v vl vr vd] w fun e w'=>e=.returned (.bool (aloneB t b))∧Touch (fun _=>False) w w':=by
 obtain⟨al,cl,rfl,-⟩:=ValsAt.form ha.l
 obtain⟨ar,cr,rfl,-⟩:=ValsAt.form ha.r
 obtain⟨ad,cd,rfl,-⟩:=ArgAt.form ha.d
 have ht:t=1∨t=2∨t=3∨t=4∨t=5∨t=7∨9≤t:=by
  simp [knownB] at hk;omega
 unfold BV.v
 cases h2:b.type2
 all_goals rcases ht with rfl|rfl|rfl|rfl|rfl|rfl|h9
 ·exact Quv b.flags b.mask b.metric b.fwd b.tag _ _ _ _ _ _ _ _ _ _ w hb1 hb2 hb3 (by show _↔_;rw [Qav];simp [h2])
 ·exact Qu6 b.flags b.mask b.metric b.fwd b.tag _ _ _ _ _ _ _ _ _ _ w hb1 hb2 hb3 (by show _↔_;rw [Qav];simp [h2])
 ·exact Qv9 b.flags b.mask b.metric b.fwd b.tag _ _ _ _ _ _ _ _ _ _ w hb1 hb2 hb3 (by show _↔_;rw [Qav];simp [h2])
 ·exact Qux b.flags b.mask b.metric b.fwd b.tag _ _ _ _ _ _ _ _ _ _ w hb1 hb2 hb3 (by show _↔_;rw [Qav];simp [h2])
 ·exact Qu7 b.flags b.mask b.metric b.fwd b.tag _ _ _ _ _ _ _ _ _ _ w hb1 hb2 hb3 (by show _↔_;rw [Qav];simp [h2])
 ·exact Qul b.flags b.mask b.metric b.fwd b.tag _ _ _ _ _ _ _ _ _ _ w hb1 hb2 hb3 (by show _↔_;rw [Qav];simp [h2])
 ·exact Qvj t h9 b.flags b.mask b.metric b.fwd b.tag _ _ _ _ _ _ _ _ _ _ w hb1 hb2 hb3 (by show _↔_;rw [Qav];simp [h2,h9,show ¬t=1 by omega,show ¬t=2 by omega,show ¬t=3 by omega,show ¬t=4 by omega,show ¬t=5 by omega,show ¬t=7 by omega])
 ·exact Quk b.flags b.mask b.metric b.fwd b.tag _ _ _ _ _ _ _ _ _ _ w hb1 hb2 hb3 (by show _↔_;rw [Qav];simp [h2])
 ·exact Qun b.flags b.mask b.metric b.fwd b.tag _ _ _ _ _ _ _ _ _ _ w hb1 hb2 hb3 (by show _↔_;rw [Qav];simp [h2])
 ·exact Quw b.flags b.mask b.metric b.fwd b.tag _ _ _ _ _ _ _ _ _ _ w hb1 hb2 hb3 (by show _↔_;rw [Qav];simp [h2])
 ·exact Qur b.flags b.mask b.metric b.fwd b.tag _ _ _ _ _ _ _ _ _ _ w hb1 hb2 hb3 (by show _↔_;rw [Qav];simp [h2])
 ·exact Qvz b.flags b.mask b.metric b.fwd b.tag _ _ _ _ _ _ _ _ _ _ w hb1 hb2 hb3 (by show _↔_;rw [Qav];simp [h2])
 ·exact Qvm b.flags b.mask b.metric b.fwd b.tag _ _ _ _ _ _ _ _ _ _ w hb1 hb2 hb3 (by show _↔_;rw [Qav];simp [h2])
 ·exact Quu t h9 b.flags b.mask b.metric b.fwd b.tag _ _ _ _ _ _ _ _ _ _ w hb1 hb2 hb3 (by show _↔_;rw [Qav];simp [h2,h9,show ¬t=1 by omega,show ¬t=2 by omega,show ¬t=3 by omega,show ¬t=4 by omega,show ¬t=5 by omega,show ¬t=7 by omega])
theorem Qu4 (t:Int) (b:BV) (al ar ad:Option Addr) (cl cr cd nr nd:Nat) (A M:Bool) (w:World) (HL:Hid (LinksAt w (.slice al b.links.length cl) b.links)) (hb1:b.links.length≤8192) (hb2:nr≤32768) (hb3:nd≤131072)
  (HB:∀w,Calls Tryz.prog 72 #[.int .u32 b.mask] w fun e w'=>e=.returned (.tuple #[.int .u8 (pbn b.mask),.bool M])∧w=w')
  (HAl:∀w',Touch (fun _=>False) w w'→Calls Tryz.prog 132 #[.int .u8 t,.agg #[.int .u8 b.flags,.slice al b.links.length cl,.int .u32 b.mask,.slice ar nr cr,.int .u32 b.metric,.bool b.type2,.int .u32 b.fwd,.int .u32 b.tag,.slice ad nd cd]] w' fun e w''=>e=.returned (.bool A)∧Touch (fun _=>False) w' w'')
  (hA:A=false) :
  Calls Tryz.prog 92 #[.int .u8 t,.agg #[.int .u8 b.flags,.slice al b.links.length cl,.int .u32 b.mask,.slice ar nr cr,.int .u32 b.metric,.bool b.type2,.int .u32 b.fwd,.int .u32 b.tag,.slice ad nd cd]] w fun e w'=>e=.returned (.bool false)∧Touch (fun _=>False) w w':=by
 subst hA
 go_enter Tryz.func92,Tryz.ntmps92
 go_wp2_with fail
 refine Calls.mono (HB _) ?_
 rintro e w1 ⟨rfl,rfl⟩
 go_wp2_with fail
 refine Calls.mono (HAl _ ((Touch.refl _ w).alloc _)) ?_
 rintro e w2 ⟨rfl,t2⟩
 have T2:Hid (Touch (fun _=>False) w w2):=((Touch.refl _ w).alloc _).trans t2
 obtain⟨g,hg⟩:∃g,w.heap.size=g:=⟨_,rfl⟩
 have KB:Hid (∀nr' nd':Nat,nr'=nr→nd'=nd→True):=fun _ _ _ _=>trivial
 have L2:Hid (LinksAt w2 (.slice al b.links.length cl) b.links):=HL.out.keep T2.out
 have c0:w2.cell? ⟨w.heap.size,0,none⟩=some (.int .u8 b.flags):=t2.cellN (by simp [go_sem])
 have c1:w2.cell? ⟨w.heap.size,1,none⟩=some (.slice al b.links.length cl):=t2.cellN (by simp [go_sem])
 have c3:w2.cell? ⟨w.heap.size,3,none⟩=some (.slice ar nr cr):=t2.cellN (by simp [go_sem])
 have c4:w2.cell? ⟨w.heap.size,4,none⟩=some (.int .u32 b.metric):=t2.cellN (by simp [go_sem])
 have c8:w2.cell? ⟨w.heap.size,8,none⟩=some (.slice ad nd cd):=t2.cellN (by simp [go_sem])
 rw [hg] at c0 c1 c3 c4 c8 ⊢
 clear t2 HB HAl HL hg KB
 go_wp2_with fail
 go_ret
 exact⟨rfl,T2.out⟩
theorem Qu3 (t:Int) (b:BV) (al ar ad:Option Addr) (cl cr cd nr nd:Nat) (A M:Bool) (w:World) (HL:Hid (LinksAt w (.slice al b.links.length cl) b.links)) (hb1:b.links.length≤8192) (hb2:nr≤32768) (hb3:nd≤131072)
  (HB:∀w,Calls Tryz.prog 72 #[.int .u32 b.mask] w fun e w'=>e=.returned (.tuple #[.int .u8 (pbn b.mask),.bool M])∧w=w')
  (HAl:∀w',Touch (fun _=>False) w w'→Calls Tryz.prog 132 #[.int .u8 t,.agg #[.int .u8 b.flags,.slice al b.links.length cl,.int .u32 b.mask,.slice ar nr cr,.int .u32 b.metric,.bool b.type2,.int .u32 b.fwd,.int .u32 b.tag,.slice ad nd cd]] w' fun e w''=>e=.returned (.bool A)∧Touch (fun _=>False) w' w'')
  (hA:A=true) (hM:M=false) :
  Calls Tryz.prog 92 #[.int .u8 t,.agg #[.int .u8 b.flags,.slice al b.links.length cl,.int .u32 b.mask,.slice ar nr cr,.int .u32 b.metric,.bool b.type2,.int .u32 b.fwd,.int .u32 b.tag,.slice ad nd cd]] w fun e w'=>e=.returned (.bool false)∧Touch (fun _=>False) w w':=by
 subst hA hM
 go_enter Tryz.func92,Tryz.ntmps92
 go_wp2_with fail
 refine Calls.mono (HB _) ?_
 rintro e w1 ⟨rfl,rfl⟩
 go_wp2_with fail
 refine Calls.mono (HAl _ ((Touch.refl _ w).alloc _)) ?_
 rintro e w2 ⟨rfl,t2⟩
 have T2:Hid (Touch (fun _=>False) w w2):=((Touch.refl _ w).alloc _).trans t2
 obtain⟨g,hg⟩:∃g,w.heap.size=g:=⟨_,rfl⟩
 have KB:Hid (∀nr' nd':Nat,nr'=nr→nd'=nd→True):=fun _ _ _ _=>trivial
 have L2:Hid (LinksAt w2 (.slice al b.links.length cl) b.links):=HL.out.keep T2.out
 have c0:w2.cell? ⟨w.heap.size,0,none⟩=some (.int .u8 b.flags):=t2.cellN (by simp [go_sem])
 have c1:w2.cell? ⟨w.heap.size,1,none⟩=some (.slice al b.links.length cl):=t2.cellN (by simp [go_sem])
 have c3:w2.cell? ⟨w.heap.size,3,none⟩=some (.slice ar nr cr):=t2.cellN (by simp [go_sem])
 have c4:w2.cell? ⟨w.heap.size,4,none⟩=some (.int .u32 b.metric):=t2.cellN (by simp [go_sem])
 have c8:w2.cell? ⟨w.heap.size,8,none⟩=some (.slice ad nd cd):=t2.cellN (by simp [go_sem])
 rw [hg] at c0 c1 c3 c4 c8 ⊢
 clear t2 HB HAl HL hg KB
 go_wp2_with fail
 go_ret
 exact⟨rfl,T2.out⟩
theorem Quz (t:Int) (b:BV) (al ar ad:Option Addr) (cl cr cd nr nd:Nat) (A M:Bool) (w:World) (HL:Hid (LinksAt w (.slice al b.links.length cl) b.links)) (hb1:b.links.length≤8192) (hb2:nr≤32768) (hb3:nd≤131072)
  (HB:∀w,Calls Tryz.prog 72 #[.int .u32 b.mask] w fun e w'=>e=.returned (.tuple #[.int .u8 (pbn b.mask),.bool M])∧w=w')
  (HAl:∀w',Touch (fun _=>False) w w'→Calls Tryz.prog 132 #[.int .u8 t,.agg #[.int .u8 b.flags,.slice al b.links.length cl,.int .u32 b.mask,.slice ar nr cr,.int .u32 b.metric,.bool b.type2,.int .u32 b.fwd,.int .u32 b.tag,.slice ad nd cd]] w' fun e w''=>e=.returned (.bool A)∧Touch (fun _=>False) w' w'')
  (hA:A=true) (hM:M=true) (h3:16777215<b.metric) :
  Calls Tryz.prog 92 #[.int .u8 t,.agg #[.int .u8 b.flags,.slice al b.links.length cl,.int .u32 b.mask,.slice ar nr cr,.int .u32 b.metric,.bool b.type2,.int .u32 b.fwd,.int .u32 b.tag,.slice ad nd cd]] w fun e w'=>e=.returned (.bool false)∧Touch (fun _=>False) w w':=by
 subst hA hM
 go_enter Tryz.func92,Tryz.ntmps92
 go_wp2_with fail
 refine Calls.mono (HB _) ?_
 rintro e w1 ⟨rfl,rfl⟩
 go_wp2_with fail
 refine Calls.mono (HAl _ ((Touch.refl _ w).alloc _)) ?_
 rintro e w2 ⟨rfl,t2⟩
 have T2:Hid (Touch (fun _=>False) w w2):=((Touch.refl _ w).alloc _).trans t2
 obtain⟨g,hg⟩:∃g,w.heap.size=g:=⟨_,rfl⟩
 have KB:Hid (∀nr' nd':Nat,nr'=nr→nd'=nd→True):=fun _ _ _ _=>trivial
 have L2:Hid (LinksAt w2 (.slice al b.links.length cl) b.links):=HL.out.keep T2.out
 have c0:w2.cell? ⟨w.heap.size,0,none⟩=some (.int .u8 b.flags):=t2.cellN (by simp [go_sem])
 have c1:w2.cell? ⟨w.heap.size,1,none⟩=some (.slice al b.links.length cl):=t2.cellN (by simp [go_sem])
 have c3:w2.cell? ⟨w.heap.size,3,none⟩=some (.slice ar nr cr):=t2.cellN (by simp [go_sem])
 have c4:w2.cell? ⟨w.heap.size,4,none⟩=some (.int .u32 b.metric):=t2.cellN (by simp [go_sem])
 have c8:w2.cell? ⟨w.heap.size,8,none⟩=some (.slice ad nd cd):=t2.cellN (by simp [go_sem])
 rw [hg] at c0 c1 c3 c4 c8 ⊢
 clear t2 HB HAl HL hg KB
 go_wp2_with fail
 go_ret
 exact⟨rfl,T2.out⟩
theorem Qvp (t:Int) (b:BV) (al ar ad:Option Addr) (cl cr cd nr nd:Nat) (A M:Bool) (w:World) (HL:Hid (LinksAt w (.slice al b.links.length cl) b.links)) (hb1:b.links.length≤8192) (hb2:nr≤32768) (hb3:nd≤131072)
  (HB:∀w,Calls Tryz.prog 72 #[.int .u32 b.mask] w fun e w'=>e=.returned (.tuple #[.int .u8 (pbn b.mask),.bool M])∧w=w')
  (HAl:∀w',Touch (fun _=>False) w w'→Calls Tryz.prog 132 #[.int .u8 t,.agg #[.int .u8 b.flags,.slice al b.links.length cl,.int .u32 b.mask,.slice ar nr cr,.int .u32 b.metric,.bool b.type2,.int .u32 b.fwd,.int .u32 b.tag,.slice ad nd cd]] w' fun e w''=>e=.returned (.bool A)∧Touch (fun _=>False) w' w'')
  (hA:A=true) (hM:M=true) (h3:¬16777215<b.metric) (r:Nat) (h4:(nd:Int)%4=(r:Int)) (h5:¬(r:Int)=0) :
  Calls Tryz.prog 92 #[.int .u8 t,.agg #[.int .u8 b.flags,.slice al b.links.length cl,.int .u32 b.mask,.slice ar nr cr,.int .u32 b.metric,.bool b.type2,.int .u32 b.fwd,.int .u32 b.tag,.slice ad nd cd]] w fun e w'=>e=.returned (.bool false)∧Touch (fun _=>False) w w':=by
 subst hA hM
 go_enter Tryz.func92,Tryz.ntmps92
 go_wp2_with fail
 refine Calls.mono (HB _) ?_
 rintro e w1 ⟨rfl,rfl⟩
 go_wp2_with fail
 refine Calls.mono (HAl _ ((Touch.refl _ w).alloc _)) ?_
 rintro e w2 ⟨rfl,t2⟩
 have T2:Hid (Touch (fun _=>False) w w2):=((Touch.refl _ w).alloc _).trans t2
 obtain⟨g,hg⟩:∃g,w.heap.size=g:=⟨_,rfl⟩
 have KB:Hid (∀nr' nd':Nat,nr'=nr→nd'=nd→True):=fun _ _ _ _=>trivial
 have L2:Hid (LinksAt w2 (.slice al b.links.length cl) b.links):=HL.out.keep T2.out
 have c0:w2.cell? ⟨w.heap.size,0,none⟩=some (.int .u8 b.flags):=t2.cellN (by simp [go_sem])
 have c1:w2.cell? ⟨w.heap.size,1,none⟩=some (.slice al b.links.length cl):=t2.cellN (by simp [go_sem])
 have c3:w2.cell? ⟨w.heap.size,3,none⟩=some (.slice ar nr cr):=t2.cellN (by simp [go_sem])
 have c4:w2.cell? ⟨w.heap.size,4,none⟩=some (.int .u32 b.metric):=t2.cellN (by simp [go_sem])
 have c8:w2.cell? ⟨w.heap.size,8,none⟩=some (.slice ad nd cd):=t2.cellN (by simp [go_sem])
 rw [hg] at c0 c1 c3 c4 c8 ⊢
 clear t2 HB HAl HL hg KB
 go_wp2_with fail
 go_ret
 exact⟨rfl,T2.out⟩
theorem Qvb (t:Int) (b:BV) (al ar ad:Option Addr) (cl cr cd nr nd:Nat) (A M:Bool) (w:World) (HL:Hid (LinksAt w (.slice al b.links.length cl) b.links)) (hb1:b.links.length≤8192) (hb2:nr≤32768) (hb3:nd≤131072)
  (HB:∀w,Calls Tryz.prog 72 #[.int .u32 b.mask] w fun e w'=>e=.returned (.tuple #[.int .u8 (pbn b.mask),.bool M])∧w=w')
  (HAl:∀w',Touch (fun _=>False) w w'→Calls Tryz.prog 132 #[.int .u8 t,.agg #[.int .u8 b.flags,.slice al b.links.length cl,.int .u32 b.mask,.slice ar nr cr,.int .u32 b.metric,.bool b.type2,.int .u32 b.fwd,.int .u32 b.tag,.slice ad nd cd]] w' fun e w''=>e=.returned (.bool A)∧Touch (fun _=>False) w' w'')
  (hA:A=true) (hM:M=true) (h3:¬16777215<b.metric) (h4:(nd:Int)%4=0) (ht:t=2) (h6:nr=0) :
  Calls Tryz.prog 92 #[.int .u8 t,.agg #[.int .u8 b.flags,.slice al b.links.length cl,.int .u32 b.mask,.slice ar nr cr,.int .u32 b.metric,.bool b.type2,.int .u32 b.fwd,.int .u32 b.tag,.slice ad nd cd]] w fun e w'=>e=.returned (.bool false)∧Touch (fun _=>False) w w':=by
 subst hA hM ht
 subst h6
 go_enter Tryz.func92,Tryz.ntmps92
 go_wp2_with fail
 refine Calls.mono (HB _) ?_
 rintro e w1 ⟨rfl,rfl⟩
 go_wp2_with fail
 refine Calls.mono (HAl _ ((Touch.refl _ w).alloc _)) ?_
 rintro e w2 ⟨rfl,t2⟩
 have T2:Hid (Touch (fun _=>False) w w2):=((Touch.refl _ w).alloc _).trans t2
 obtain⟨g,hg⟩:∃g,w.heap.size=g:=⟨_,rfl⟩
 have KB:Hid (True):=trivial
 have L2:Hid (LinksAt w2 (.slice al b.links.length cl) b.links):=HL.out.keep T2.out
 have c0:w2.cell? ⟨w.heap.size,0,none⟩=some (.int .u8 b.flags):=t2.cellN (by simp [go_sem])
 have c1:w2.cell? ⟨w.heap.size,1,none⟩=some (.slice al b.links.length cl):=t2.cellN (by simp [go_sem])
 have c3:w2.cell? ⟨w.heap.size,3,none⟩=some (.slice ar 0 cr):=t2.cellN (by simp [go_sem])
 have c4:w2.cell? ⟨w.heap.size,4,none⟩=some (.int .u32 b.metric):=t2.cellN (by simp [go_sem])
 have c8:w2.cell? ⟨w.heap.size,8,none⟩=some (.slice ad nd cd):=t2.cellN (by simp [go_sem])
 rw [hg] at c0 c1 c3 c4 c8 ⊢
 clear t2 HB HAl HL hg KB
 go_wp2_with fail
 go_ret
 exact⟨rfl,T2.out⟩
theorem Qu1 (t:Int) (b:BV) (al ar ad:Option Addr) (cl cr cd nr nd:Nat) (A M:Bool) (w:World) (HL:Hid (LinksAt w (.slice al b.links.length cl) b.links)) (hb1:b.links.length≤8192) (hb2:nr≤32768) (hb3:nd≤131072)
  (HB:∀w,Calls Tryz.prog 72 #[.int .u32 b.mask] w fun e w'=>e=.returned (.tuple #[.int .u8 (pbn b.mask),.bool M])∧w=w')
  (HAl:∀w',Touch (fun _=>False) w w'→Calls Tryz.prog 132 #[.int .u8 t,.agg #[.int .u8 b.flags,.slice al b.links.length cl,.int .u32 b.mask,.slice ar nr cr,.int .u32 b.metric,.bool b.type2,.int .u32 b.fwd,.int .u32 b.tag,.slice ad nd cd]] w' fun e w''=>e=.returned (.bool A)∧Touch (fun _=>False) w' w'')
  (hA:A=true) (hM:M=true) (h3:¬16777215<b.metric) (h4:(nd:Int)%4=0) (ht:¬t=2) (R:Bool) (HR:Hid (R=b.links.all (fun x=>decide (1≤x.typ∧x.typ≤4)))) :
  Calls Tryz.prog 92 #[.int .u8 t,.agg #[.int .u8 b.flags,.slice al b.links.length cl,.int .u32 b.mask,.slice ar nr cr,.int .u32 b.metric,.bool b.type2,.int .u32 b.fwd,.int .u32 b.tag,.slice ad nd cd]] w fun e w'=>e=.returned (.bool R)∧Touch (fun _=>False) w w':=by
 subst hA hM
 go_enter Tryz.func92,Tryz.ntmps92
 go_wp2_with fail
 refine Calls.mono (HB _) ?_
 rintro e w1 ⟨rfl,rfl⟩
 go_wp2_with fail
 refine Calls.mono (HAl _ ((Touch.refl _ w).alloc _)) ?_
 rintro e w2 ⟨rfl,t2⟩
 have T2:Hid (Touch (fun _=>False) w w2):=((Touch.refl _ w).alloc _).trans t2
 obtain⟨g,hg⟩:∃g,w.heap.size=g:=⟨_,rfl⟩
 have KB:Hid (∀nr' nd':Nat,nr'=nr→nd'=nd→True):=fun _ _ _ _=>trivial
 have L2:Hid (LinksAt w2 (.slice al b.links.length cl) b.links):=HL.out.keep T2.out
 have c0:w2.cell? ⟨w.heap.size,0,none⟩=some (.int .u8 b.flags):=t2.cellN (by simp [go_sem])
 have c1:w2.cell? ⟨w.heap.size,1,none⟩=some (.slice al b.links.length cl):=t2.cellN (by simp [go_sem])
 have c3:w2.cell? ⟨w.heap.size,3,none⟩=some (.slice ar nr cr):=t2.cellN (by simp [go_sem])
 have c4:w2.cell? ⟨w.heap.size,4,none⟩=some (.int .u32 b.metric):=t2.cellN (by simp [go_sem])
 have c8:w2.cell? ⟨w.heap.size,8,none⟩=some (.slice ad nd cd):=t2.cellN (by simp [go_sem])
 rw [hg] at c0 c1 c3 c4 c8 ⊢
 clear t2 HB HAl HL hg KB
 go_wp2_with fail
 go_loopg [7] b.links.length (fun gg i wr=>∃j:Nat,j≤b.links.length∧b.links.length-j≤gg∧i=.int .i64 (j:Int)∧Hid (wr=w2)∧Hid (∀x∈b.links.take j,1≤x.typ∧x.typ≤4))
 case atStart=>exact⟨0,Nat.zero_le _,by omega,rfl,rfl,fun x hx=>by simp at hx⟩
 case round =>
  obtain⟨j,hj,hg,rfl,HW,HJ⟩:=hrel
  have hw:=HW.out
  clear HW
  subst hw
  rcases Nat.lt_or_ge j b.links.length with hlt|hge
  ·have hlt':(j:Int)<(b.links.length:Int):=by omega
   obtain⟨gr,off,cc,e,h1,h2,h3'⟩:=ValsAt.cells L2.out (by omega) (by decide)
   obtain⟨rfl,rfl⟩:al=some ⟨gr,off,none⟩∧cl=cc:=by cases e;exact⟨rfl,rfl⟩
   obtain⟨x,hx⟩:∃x,b.links[j]?=some x:=⟨_,List.getElem?_eq_getElem hlt⟩
   have HX:Hid (b.links[j]?=some x):=hx
   have d2:wr.cell? ⟨gr,off+j*4+2,none⟩=some (.int .u8 x.typ):=h3' (j*4+2) (.int .u8 x.typ) (by rw [Qbo _ _ _ _ hx (by omega)];rfl)
   clear h3' e hx
   by_cases hlo:x.typ<1
   ·have HF:Hid (R=false):=by
     show _=_
     rw [HR.out,List.all_eq_false]
     exact⟨x,List.mem_of_getElem? HX.out,by simp;omega⟩
    go_wp2_with fail
    go_ret
    exact⟨Qaj HF.out.symm,T2.out⟩
   ·by_cases hhi:4<x.typ
    ·have HF:Hid (R=false):=by
      show _=_
      rw [HR.out,List.all_eq_false]
      exact⟨x,List.mem_of_getElem? HX.out,by simp;omega⟩
     go_wp2_with fail
     go_ret
     exact⟨Qaj HF.out.symm,T2.out⟩
    ·have HN:Hid (∀y∈b.links.take (j+1),1≤y.typ∧y.typ≤4):=by
      intro y hy
      rw [Qdh HX.out] at hy
      rcases List.mem_append.1 hy with hy|hy
      ·exact HJ.out y hy
      ·obtain rfl:=List.mem_singleton.1 hy
       omega
     clear HJ
     go_wp2_with fail
     go_roundg (b.links.length-(j+1))
     case measure=>omega
     case rel=>exact⟨j+1,by omega,by omega,by go_num,rfl,HN⟩
  ·obtain rfl:j=b.links.length:=by omega
   have hlt':¬(b.links.length:Int)<(b.links.length:Int):=by omega
   have HF:Hid (R=true):=by
    show _=_
    rw [HR.out,List.all_eq_true]
    intro x hx
    have:=HJ.out x (by rw [List.take_length];exact hx)
    simp;omega
   clear HJ
   go_wp2_with fail
   go_ret
   exact⟨Qaj HF.out.symm,T2.out⟩
theorem Qsx (t:Int) (b:BV) (al ar ad:Option Addr) (cl cr cd nr nd:Nat) (A M:Bool) (w:World) (HL:Hid (LinksAt w (.slice al b.links.length cl) b.links)) (hb1:b.links.length≤8192) (hb2:nr≤32768) (hb3:nd≤131072)
  (HB:∀w,Calls Tryz.prog 72 #[.int .u32 b.mask] w fun e w'=>e=.returned (.tuple #[.int .u8 (pbn b.mask),.bool M])∧w=w')
  (HAl:∀w',Touch (fun _=>False) w w'→Calls Tryz.prog 132 #[.int .u8 t,.agg #[.int .u8 b.flags,.slice al b.links.length cl,.int .u32 b.mask,.slice ar nr cr,.int .u32 b.metric,.bool b.type2,.int .u32 b.fwd,.int .u32 b.tag,.slice ad nd cd]] w' fun e w''=>e=.returned (.bool A)∧Touch (fun _=>False) w' w'')
  (hA:A=true) (hM:M=true) (h3:¬16777215<b.metric) (h4:(nd:Int)%4=0) (ht:t=2) (h6:((nr:Int)==0)=false) (R:Bool) (HR:Hid (R=b.links.all (fun x=>decide (1≤x.typ∧x.typ≤4)))) :
  Calls Tryz.prog 92 #[.int .u8 t,.agg #[.int .u8 b.flags,.slice al b.links.length cl,.int .u32 b.mask,.slice ar nr cr,.int .u32 b.metric,.bool b.type2,.int .u32 b.fwd,.int .u32 b.tag,.slice ad nd cd]] w fun e w'=>e=.returned (.bool R)∧Touch (fun _=>False) w w':=by
 subst hA hM
 subst ht
 go_enter Tryz.func92,Tryz.ntmps92
 go_wp2_with fail
 refine Calls.mono (HB _) ?_
 rintro e w1 ⟨rfl,rfl⟩
 go_wp2_with fail
 refine Calls.mono (HAl _ ((Touch.refl _ w).alloc _)) ?_
 rintro e w2 ⟨rfl,t2⟩
 have T2:Hid (Touch (fun _=>False) w w2):=((Touch.refl _ w).alloc _).trans t2
 obtain⟨g,hg⟩:∃g,w.heap.size=g:=⟨_,rfl⟩
 have KB:Hid (∀nr' nd':Nat,nr'=nr→nd'=nd→True):=fun _ _ _ _=>trivial
 have L2:Hid (LinksAt w2 (.slice al b.links.length cl) b.links):=HL.out.keep T2.out
 have c0:w2.cell? ⟨w.heap.size,0,none⟩=some (.int .u8 b.flags):=t2.cellN (by simp [go_sem])
 have c1:w2.cell? ⟨w.heap.size,1,none⟩=some (.slice al b.links.length cl):=t2.cellN (by simp [go_sem])
 have c3:w2.cell? ⟨w.heap.size,3,none⟩=some (.slice ar nr cr):=t2.cellN (by simp [go_sem])
 have c4:w2.cell? ⟨w.heap.size,4,none⟩=some (.int .u32 b.metric):=t2.cellN (by simp [go_sem])
 have c8:w2.cell? ⟨w.heap.size,8,none⟩=some (.slice ad nd cd):=t2.cellN (by simp [go_sem])
 rw [hg] at c0 c1 c3 c4 c8 ⊢
 clear t2 HB HAl HL hg KB
 go_wp2_with fail
 go_loopg [7] b.links.length (fun gg i wr=>∃j:Nat,j≤b.links.length∧b.links.length-j≤gg∧i=.int .i64 (j:Int)∧Hid (wr=w2)∧Hid (∀x∈b.links.take j,1≤x.typ∧x.typ≤4))
 case atStart=>exact⟨0,Nat.zero_le _,by omega,rfl,rfl,fun x hx=>by simp at hx⟩
 case round =>
  obtain⟨j,hj,hg,rfl,HW,HJ⟩:=hrel
  have hw:=HW.out
  clear HW
  subst hw
  rcases Nat.lt_or_ge j b.links.length with hlt|hge
  ·have hlt':(j:Int)<(b.links.length:Int):=by omega
   obtain⟨gr,off,cc,e,h1,h2,h3'⟩:=ValsAt.cells L2.out (by omega) (by decide)
   obtain⟨rfl,rfl⟩:al=some ⟨gr,off,none⟩∧cl=cc:=by cases e;exact⟨rfl,rfl⟩
   obtain⟨x,hx⟩:∃x,b.links[j]?=some x:=⟨_,List.getElem?_eq_getElem hlt⟩
   have HX:Hid (b.links[j]?=some x):=hx
   have d2:wr.cell? ⟨gr,off+j*4+2,none⟩=some (.int .u8 x.typ):=h3' (j*4+2) (.int .u8 x.typ) (by rw [Qbo _ _ _ _ hx (by omega)];rfl)
   clear h3' e hx
   by_cases hlo:x.typ<1
   ·have HF:Hid (R=false):=by
     show _=_
     rw [HR.out,List.all_eq_false]
     exact⟨x,List.mem_of_getElem? HX.out,by simp;omega⟩
    go_wp2_with fail
    go_ret
    exact⟨Qaj HF.out.symm,T2.out⟩
   ·by_cases hhi:4<x.typ
    ·have HF:Hid (R=false):=by
      show _=_
      rw [HR.out,List.all_eq_false]
      exact⟨x,List.mem_of_getElem? HX.out,by simp;omega⟩
     go_wp2_with fail
     go_ret
     exact⟨Qaj HF.out.symm,T2.out⟩
    ·have HN:Hid (∀y∈b.links.take (j+1),1≤y.typ∧y.typ≤4):=by
      intro y hy
      rw [Qdh HX.out] at hy
      rcases List.mem_append.1 hy with hy|hy
      ·exact HJ.out y hy
      ·obtain rfl:=List.mem_singleton.1 hy
       omega
     clear HJ
     go_wp2_with fail
     go_roundg (b.links.length-(j+1))
     case measure=>omega
     case rel=>exact⟨j+1,by omega,by omega,by go_num,rfl,HN⟩
  ·obtain rfl:j=b.links.length:=by omega
   have hlt':¬(b.links.length:Int)<(b.links.length:Int):=by omega
   have HF:Hid (R=true):=by
    show _=_
    rw [HR.out,List.all_eq_true]
    intro x hx
    have:=HJ.out x (by rw [List.take_length];exact hx)
    simp;omega
   clear HJ
   go_wp2_with fail
   go_ret
   exact⟨Qaj HF.out.symm,T2.out⟩
theorem Qom (t:Int) (hk:knownB t=true) (b:BV) (vl vr vd:Value) (w:World) (ha:BArg w b vl vr vd) (hb1:b.links.length≤8192) (hb2:b.routers.length≤32768) (hb3:b.data.length≤131072) :
  Calls Tryz.prog 92 #[.int .u8 t,b.v vl vr vd] w fun e w'=>e=.returned (.bool (mayB t b))∧Touch (fun _=>False) w w':=by
 obtain⟨al,cl,rfl,-⟩:=ValsAt.form ha.l
 obtain⟨ar,cr,rfl,-⟩:=ValsAt.form ha.r
 obtain⟨ad,cd,rfl,-⟩:=ArgAt.form ha.d
 have HB:=fun w=>Qm4 b.mask w
 have HAl:=fun w' (t':Touch (fun _=>False) w w')=>Qkx t hk b _ _ _ w' (ha.keep t') hb1 hb2 hb3
 cases hA:aloneB t b with
 | false =>
  rw [show mayB t b=false by simp [mayB,hA]]
  exact Qu4 t b al ar ad cl cr cd b.routers.length b.data.length _ _ w ha.l hb1 hb2 hb3 HB HAl hA
 | true =>
  cases hM:pbok b.mask with
  | false =>
   rw [show mayB t b=false by simp [mayB,hM]]
   exact Qu3 t b al ar ad cl cr cd b.routers.length b.data.length _ _ w ha.l hb1 hb2 hb3 HB HAl hA hM
  | true =>
   by_cases h3:16777215<b.metric
   ·rw [show mayB t b=false by unfold mayB;rw [decide_eq_false (show ¬b.metric≤16777215 by omega)];simp]
    exact Quz t b al ar ad cl cr cd b.routers.length b.data.length _ _ w ha.l hb1 hb2 hb3 HB HAl hA hM h3
   ·by_cases h4:b.data.length%4=0
    ·have h4':((b.data.length:Nat):Int)%4=0:=by omega
     by_cases ht:t=2
     ·by_cases h6:b.routers.length=0
      ·rw [show mayB t b=false by unfold mayB;rw [decide_eq_false (show ¬(t=2→0<b.routers.length) from fun h=>by have:=h ht;omega)];simp]
       exact Qvb t b al ar ad cl cr cd b.routers.length b.data.length _ _ w ha.l hb1 hb2 hb3 HB HAl hA hM h3 h4' ht h6
      ·refine Qsx t b al ar ad cl cr cd b.routers.length b.data.length _ _ w ha.l hb1 hb2 hb3 HB HAl hA hM h3 h4' ht (beq_eq_false_iff_ne.mpr (by omega)) _ ?_
       show _=_
       unfold mayB
       rw [hA,hM,decide_eq_true (show b.metric≤16777215 by omega),decide_eq_true h4,decide_eq_true (show t=2→0<b.routers.length from fun _=>by omega)]
       simp
     ·refine Qu1 t b al ar ad cl cr cd b.routers.length b.data.length _ _ w ha.l hb1 hb2 hb3 HB HAl hA hM h3 h4' ht _ ?_
      show _=_
      unfold mayB
      rw [hA,hM,decide_eq_true (show b.metric≤16777215 by omega),decide_eq_true h4,decide_eq_true (show t=2→0<b.routers.length from fun h=>absurd h ht)]
      simp
    ·rw [show mayB t b=false by unfold mayB;rw [decide_eq_false h4];simp]
     exact Qvp t b al ar ad cl cr cd b.routers.length b.data.length _ _ w ha.l hb1 hb2 hb3 HB HAl hA hM h3 (b.data.length%4) (by omega) (by omega)
theorem Qok (t:Int) (hk:knownB t=true) (b:BV) (ok:b.Ok) (vl vr vd:Value) (w:World) (ha:BArg w b vl vr vd) (hb1:b.links.length≤8192) (hb2:b.routers.length≤32768) (hb3:b.data.length≤131072) :
  Calls Tryz.prog 95 #[.int .u8 t,b.v vl vr vd] w fun e w'=>∃v,e=.returned v∧Buf w w' v (layB t b):=by
 unfold layB
 by_cases h1:t=1
 ·rw [if_pos h1];exact Qoy t h1 b ok vl vr vd w ha hb1 hb2 hb3
 ·rw [if_neg h1]
  by_cases h2:t=2
  ·rw [if_pos h2];exact Qo0 t h2 b ok vl vr vd w ha hb1 hb2 hb3
  ·rw [if_neg h2]
   by_cases h3:t=3
   ·rw [if_pos (Or.inl h3)];exact Qlg t h3 b ok vl vr vd w ha hb1 hb2 hb3
   ·by_cases h4:t=4
    ·rw [if_pos (Or.inr h4)];exact Qm2 t h4 b ok vl vr vd w ha hb1 hb2 hb3
    ·rw [if_neg (by omega)]
     by_cases h5:t=5
     ·rw [if_pos (Or.inl h5)];exact Qly t h5 b ok vl vr vd w ha hb1 hb2 hb3
     ·by_cases h7:t=7
      ·rw [if_pos (Or.inr h7)];exact Qke t h7 b ok vl vr vd w ha hb1 hb2 hb3
      ·rw [if_neg (by omega)];exact Qm7 t h1 h2 h3 h4 h5 h7 b ok vl vr vd w ha hb1 hb2 hb3
theorem Qhh {l:List Int} {j:Nat} (h:j<l.length):l.take (j+1)=l.take j++[l.getD j 0]:=by
 rw [List.take_add_one,List.getElem?_eq_getElem h]
 simp [List.getD,h]
theorem Qmm {l:List Int} (h:∀x∈l,0≤x∧x<256) (j:Nat) (hj:j<l.length):0≤l.getD j 0∧l.getD j 0<256:=h _ (by simp [List.getD,hj])
theorem Qcn {x y:Int} (hx:0≤x∧x≤254) (hy:0≤y∧y≤255):0≤x*y∧x*y≤64770:=by
 refine⟨Int.mul_nonneg hx.1 hy.1,?_⟩
 have h1:x*y≤254*y:=Int.mul_le_mul_of_nonneg_right hx.2 hy.1
 omega
structure ZAt (rs Z:List Int) (a:Int):Prop where
 len:Z.length=rs.length
 out:∀j:Nat,j<rs.length→0≤a→((j:Int)=a∨(j:Int)=a+1)→Z.getD j 0=0
 same:∀j:Nat,j<rs.length→(0≤a→(j:Int)≠a∧(j:Int)≠a+1)→Z.getD j 0=rs.getD j 0
theorem ZAt.all (rs:List Int):ZAt rs rs (-1):=⟨rfl,fun _ _ h=>by omega,fun _ _ _=>rfl⟩
theorem ZAt.laid (rs:List Int) (a:Nat) (h:a+2≤rs.length):ZAt rs (laid rs a 0 0) a:=by
 refine⟨Qi1 _ _ _ _,fun j hj h0 e=>?_,fun j hj e=>?_⟩
 ·unfold YtddbffoiadmffaaGreat.laid
  rcases e with e|e
  ·obtain rfl:j=a:=by omega
   rw [Qbh _ _ _ _ (by omega),Qen _ _ _ (by omega)]
  ·obtain rfl:j=a+1:=by omega
   rw [Qen _ _ _ (by simp;omega)]
 ·have e:=e (by omega)
  unfold YtddbffoiadmffaaGreat.laid
  rw [Qbh _ _ _ _ (by omega),Qbh _ _ _ _ (by omega)]
def SmR (Z:List Int) (n:Nat) (c0 c1 i:Value):Prop :=
 ∃(j:Nat) (x y:Int),j≤n∧i=.int .i64 (j:Int)∧c0=.int .i64 x∧c1=.int .i64 y∧0≤x∧x≤254∧0≤y∧y≤254∧Hid (x=S0 (Z.take j)%255)∧Hid (y=C1 (n:Int) (Z.take j)%255)
theorem Qsh {Z:List Int} {n j:Nat} {x y:Int} (hn:Z.length=n) (hj:j<n) (hz:Z.getD j 0=0) (hx:x=S0 (Z.take j)%255) (hy:y=C1 (n:Int) (Z.take j)%255):x=S0 (Z.take (j+1))%255∧y=C1 (n:Int) (Z.take (j+1))%255:=by
 rw [Qhh (by omega),Qeo,Qeu,hz]
 simp only [S0,C1,Int.mul_zero,Int.add_zero]
 exact⟨hx,hy⟩
theorem Qtw {Z:List Int} {n j:Nat} {x y:Int} (hn:Z.length=n) (hj:j<n) (hx:x=S0 (Z.take j)%255) (hy:y=C1 (n:Int) (Z.take j)%255) :
  (x+Z.getD j 0)%255=S0 (Z.take (j+1))%255∧(y+((n:Int)-j)%255*Z.getD j 0)%255=C1 (n:Int) (Z.take (j+1))%255:=by
 rw [Qhh (by omega),Qeo,Qeu]
 simp only [S0,C1,Int.add_zero]
 have hl:((Z.take j).length:Int)=j:=by simp;omega
 rw [hl]
 generalize Z.getD j 0=z
 refine⟨by omega,?_⟩
 obtain⟨q,hq⟩:∃q,(n:Int)-j=((n:Int)-j)%255+255*q:=⟨((n:Int)-j)/255,by omega⟩
 have e:((n:Int)-j)*z=((n:Int)-j)%255*z+255*(q*z):=by
  rw [hq]
  have:(((n:Int)-j)%255+255*q)%255=((n:Int)-j)%255:=by omega
  rw [this]
  grind
 rw [e]
 generalize ((n:Int)-j)%255*z=P
 generalize q*z=Q
 omega
theorem Qg9 (v:Value) (rs Z:List Int) (a:Int) (w:World) (hv:ArgAt w v rs) (hby:∀x∈rs,0≤x∧x<256) (hl:rs.length≤65536) (hZ:ZAt rs Z a) (ha:a≤65536) (ha' : -1≤a) :
  Calls Tryz.prog 167 #[v,.int .i64 a] w fun e w'=>e=.returned (.tuple #[.int .i64 (S0 Z%255),.int .i64 (S1 Z%255)])∧w=w':=by
 obtain⟨A,hA⟩:∃A,S0 Z%255=A:=⟨_,rfl⟩
 obtain⟨B,hB⟩:∃B,S1 Z%255=B:=⟨_,rfl⟩
 have HA:Hid (S0 Z%255=A):=hA
 have HB:Hid (S1 Z%255=B):=hB
 rw [hA,hB]
 clear hA hB
 have HBy:Hid (∀x∈rs,0≤x∧x<256):=hby
 have HZ:Hid (ZAt rs Z a):=hZ
 obtain⟨va,vc,rfl,hm⟩:=hv.form
 unfold maxLen at hm
 have HV:Hid (ArgAt w (.slice va rs.length vc) rs):=hv
 have hl':(rs.length:Int)≤65536:=by omega
 clear hv hby hZ
 go_enter Tryz.func167,Tryz.ntmps167
 go_wp2
 go_loop [6,7,8] (fun c0 c1 i=>SmR Z rs.length c0 c1 i) (fun _ _ i=>rs.length-(intOf i).toNat)
 case atStart=>exact⟨0,0,0,Nat.zero_le _,rfl,rfl,rfl,by omega,by omega,by omega,by omega,rfl,rfl⟩
 case round =>
  obtain⟨j,x,y,hj,rfl,rfl,rfl,hx0,hx1,hy0,hy1,HX,HY⟩:=hrel
  by_cases hlt:j<rs.length
  ·have hlt':(j:Int)<(rs.length:Int):=by omega
   by_cases hat:0≤a∧((j:Int)=a∨(j:Int)=a+1)
   ·obtain⟨hat0,hat1⟩:=hat
    have hst:=Qsh HZ.out.len hlt (HZ.out.out j hlt hat0 hat1) HX.out HY.out
    have HN:Hid (SmR Z rs.length (.int .i64 x) (.int .i64 y) (.int .i64 ((j:Int)+1))):=⟨j+1,x,y,by omega,by rw [Int.natCast_add];rfl,rfl,rfl,hx0,hx1,hy0,hy1,hst.1,hst.2⟩
    clear hst
    rcases hat1 with hat1|hat1
    ·have hat2:((j:Int)==a)=true:=by simp [hat1]
     clear hat1
     go_wp2
     go_round
     case rel=>exact HN.out
     case measure=>simp [intOf];omega
    ·have hat2:((j:Int)==a)=false:=by simp;omega
     have hat3:((j:Int)==a+1)=true:=by simp [hat1]
     clear hat1
     go_wp2
     go_round
     case rel=>exact HN.out
     case measure=>simp [intOf];omega
   ·have hr:=HV.out.row (by omega)
    obtain⟨ga,oa,rfl⟩:=Qdz hr (by omega)
    have hcx:=Qfo hr j hlt
    obtain⟨hz0,hz1⟩:=Qmm HBy.out j hlt
    have hst:=Qtw HZ.out.len hlt HX.out HY.out
    rw [HZ.out.same j hlt (fun h0=>by omega)] at hst
    revert hcx hz0 hz1 hst
    generalize rs.getD j 0=z
    intro hcx hz0 hz1 hst
    obtain⟨hp0,hp1⟩:=Qcn (x:=((rs.length:Int)-j)%255) (y:=z) (by omega) (by omega)
    have HN:Hid (SmR Z rs.length (.int .i64 ((x+z)%255)) (.int .i64 ((y+((rs.length:Int)-j)%255*z)%255)) (.int .i64 ((j:Int)+1))):=⟨j+1,_,_,by omega,by rw [Int.natCast_add];rfl,rfl,rfl,by omega,by omega,by omega,by omega,hst.1,hst.2⟩
    clear hst hr
    by_cases h0:0≤a
    ·have hat2:((j:Int)==a)=false:=by simp;omega
     have hat3:((j:Int)==a+1)=false:=by simp;omega
     clear hat
     go_wp2
     go_round
     case rel=>exact HN.out
     case measure=>simp [intOf];omega
    ·have h0':decide (0≤a)=false:=by simpa using h0
     clear hat
     go_wp2
     go_round
     case rel=>exact HN.out
     case measure=>simp [intOf];omega
  ·obtain rfl:j=rs.length:=by omega
   have hq:¬(rs.length:Int)<(rs.length:Int):=by omega
   have hlen:=HZ.out.len
   have HXA:Hid (x=A):=by show _=_;rw [HX.out,←HA.out,List.take_of_length_le (by omega)]
   have HYB:Hid (y=B):=by show _=_;rw [HY.out,←HB.out,List.take_of_length_le (by omega),←hlen];rfl
   clear hlen
   go_wp2
   go_ret2
   rw [HXA.out,HYB.out]
   exact⟨rfl,rfl⟩
theorem Quj (v:Value) (rs:List Int) (w:World) (hv:ArgAt w v rs) (hby:∀x∈rs,0≤x∧x<256) (hl:rs.length≤65536) :
  Calls Tryz.prog 193 #[v] w fun e w'=>e=.returned (.bool (whole rs))∧w=w':=by
 have HC:=Qg9 v rs rs (-1) w hv hby hl (ZAt.all rs) (by omega) (by omega)
 unfold whole
 revert HC
 generalize S0 rs%255=x
 generalize S1 rs%255=y
 intro HC
 clear hv hby
 by_cases hx:x=0
 ·subst hx
  go_enter Tryz.func193,Tryz.ntmps193
  go_wp2_with fail
  refine HC.mono ?_
  rintro e w1 ⟨rfl,rfl⟩
  go_wp2
  go_ret
  exact⟨by simp,rfl⟩
 ·have hx':(x==0)=false:=by simpa using hx
  go_enter Tryz.func193,Tryz.ntmps193
  go_wp2_with fail
  refine HC.mono ?_
  rintro e w1 ⟨rfl,rfl⟩
  go_wp2
  go_ret
  exact⟨by simp [hx'],rfl⟩
def XR (X:Int) (x:Value):Prop:=∃n:Int,x=.int .i64 n∧1≤n∧n≤X
def YR (X Y n:Int) (y:Value):Prop:=∃m:Int,y=.int .i64 m∧1≤m∧m≤256∧Hid (n=X→m≤Y)
theorem Qf4 (v:Value) (rs:List Int) (a:Nat) (w:World) (hv:ArgAt w v rs) (hby:∀x∈rs,0≤x∧x<256) (hl:rs.length≤65536) (h:a+2≤rs.length) :
  Calls Tryz.prog 134 #[v,.int .i64 (a:Int)] w fun e w'=>e=.returned (.tuple #[.int .u16 (256*flx rs a+fly rs a),.int .i64 0])∧w=w':=by
 have HC:=Qg9 v rs (laid rs a 0 0) (a:Int) w hv hby hl (ZAt.laid rs a h) (by omega) (by omega)
 obtain⟨N,hN⟩:∃N,((rs.length:Int)-(a:Int))%255=N:=⟨_,rfl⟩
 obtain⟨T,hT⟩:∃T,(N+254)%255=T:=⟨_,rfl⟩
 have hTt:tms rs a=T:=by unfold tms;omega
 have hX:flx rs a=fx T (S0 (laid rs a 0 0)%255) (S1 (laid rs a 0 0)%255):=by unfold flx;rw [hTt]
 have hY:fly rs a=fy (S0 (laid rs a 0 0)%255) (flx rs a):=rfl
 have hXb:=Qdd rs a
 have hYb:=Qdr rs a
 have hC0:0≤S0 (laid rs a 0 0)%255∧S0 (laid rs a 0 0)%255≤254:=by omega
 have hC1:0≤S1 (laid rs a 0 0)%255∧S1 (laid rs a 0 0)%255≤254:=by omega
 revert HC hX hY hXb hYb hC0 hC1
 generalize S0 (laid rs a 0 0)%255=C0
 generalize S1 (laid rs a 0 0)%255=C1
 generalize flx rs a=X
 generalize fly rs a=Y
 intro HC hX hY hXb hYb hC0 hC1
 have HPair:Hid (∀x y:Int,1≤x∧x≤255→1≤y∧y≤255→(((C0+x+y)%255=0∧(C1+N*x+T*y)%255=0)↔x=X∧y=Y)):=by
  intro x y hx hy
  rw [hY,hX]
  exact Qg3 hT.symm hx hy
 obtain⟨hX0,hX1⟩:=hXb
 obtain⟨hY0,hY1⟩:=hYb
 obtain⟨hC00,hC01⟩:=hC0
 obtain⟨hC10,hC11⟩:=hC1
 have hN0:0≤N:=by omega
 have hN1:N≤254:=by omega
 have hT0:0≤T:=by omega
 have hT1:T≤254:=by omega
 obtain⟨va,vc,rfl,hm⟩:=hv.form
 have h0:¬(a:Int)<0:=by omega
 have h1:¬(rs.length:Int)-1≤(a:Int):=by omega
 have h2:(a:Int)+2≤(rs.length:Int):=by omega
 have h3:(rs.length:Int)≤65536:=by omega
 clear hv hby hTt hX hY hm
 have HT:Hid ((N+254)%255=T):=hT
 clear hT
 go_enter Tryz.func134,Tryz.ntmps134
 go_wp2_with fail
 refine HC.mono ?_
 rintro e w1 ⟨rfl,rfl⟩
 clear HC
 go_wp2_with fail
 rw [hN]
 go_loop [9] (fun x=>XR X x) (fun x=>(256-intOf x).toNat)
 case atStart=>exact⟨1,rfl,by omega,by omega⟩
 case round =>
  obtain⟨x,rfl,hx0,hx1⟩:=hrel
  have hT:=HT.out
  clear hN
  go_wp2_with fail
  go_loop [10] (fun y=>YR X Y x y) (fun y=>(257-intOf y).toNat)
  case atStart=>exact⟨1,rfl,by omega,by omega,fun _=>by omega⟩
  case round =>
   obtain⟨y,rfl,hy0,hy1,HY⟩:=hrel
   by_cases hle:y≤255
   ·obtain⟨hp0,hp1⟩:=Qcn (x:=N) (y:=x) ⟨hN0,hN1⟩ ⟨by omega,by omega⟩
    obtain⟨hq0,hq1⟩:=Qcn (x:=T) (y:=y) ⟨hT0,hT1⟩ ⟨by omega,by omega⟩
    have hpr:=HPair.out x y ⟨by omega,by omega⟩ ⟨by omega,by omega⟩
    by_cases e1:(C0+x+y)%255=0
    ·by_cases e2:(C1+N*x+T*y)%255=0
     ·obtain⟨rfl,rfl⟩:=hpr.1 ⟨e1,e2⟩
      clear hpr
      go_wp2
      go_ret2
      exact⟨rfl,rfl⟩
     ·have e2':((C1+N*x+T*y)%255==0)=false:=by simpa using e2
      have HN:Hid (YR X Y x (.int .i64 (y+1))):=⟨y+1,rfl,by omega,by omega,fun e=>by
       have:=HY.out e
       rcases Int.lt_or_eq_of_le this with q|q
       ·omega
       ·exact absurd (hpr.2 ⟨e,q⟩).2 e2⟩
      clear hpr
      go_wp2
      go_round
      case rel=>exact HN.out
      case measure=>simp [intOf];omega
    ·have e1':((C0+x+y)%255==0)=false:=by simpa using e1
     have HN:Hid (YR X Y x (.int .i64 (y+1))):=⟨y+1,rfl,by omega,by omega,fun e=>by
      have:=HY.out e
      rcases Int.lt_or_eq_of_le this with q|q
      ·omega
      ·exact absurd (hpr.2 ⟨e,q⟩).1 e1⟩
     clear hpr
     go_wp2
     go_round
     case rel=>exact HN.out
     case measure=>simp [intOf];omega
   ·have hxx:x<X:=by
     rcases Int.lt_or_eq_of_le hx1 with q|q
     ·exact q
     ·have:=HY.out q;omega
    go_wp2
    go_round
    case rel=>exact⟨x+1,rfl,by omega,by omega⟩
    case measure=>simp [intOf];omega
end Go.Proofs.YtddbffoiadmffaaGreat
