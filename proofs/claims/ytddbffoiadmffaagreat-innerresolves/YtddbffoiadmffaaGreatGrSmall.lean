import Derived.Test.YtddbffoiadmffaaGreatOrdNewer
import Derived.Sort.Grow
namespace Go.Proofs.YtddbffoiadmffaaGreat
set_option maxHeartbeats 8000000
open Go.RowKit Go.Sort
set_option linter.unusedVariables false
set_option maxRecDepth 100000
structure SD where
 h:HV
 b:BV
 vl:Value
 vr:Value
 vd:Value
def SD.sv (x:SD):SV:=⟨x.h,x.b⟩
def SD.cells (x:SD):List Value:=[.int .u16 x.h.age,.int .u8 x.h.opts,.int .u8 x.h.typ,.int .u32 x.h.id,.int .u32 x.h.adv,.int .i32 x.h.seq,.int .u16 x.h.sum,.int .u16 x.h.len,.int .u8 x.b.flags,x.vl,.int .u32 x.b.mask,x.vr,.int .u32 x.b.metric,.bool x.b.type2,.int .u32 x.b.fwd,.int .u32 x.b.tag,x.vd]
def saidC (l:List SD):List Value:=l.flatMap SD.cells
theorem Qec (l:List SD):(saidC l).length=l.length*17:=by
 induction l with
 | nil=>rfl
 | cons x r ih=>unfold saidC at *;rw [List.flatMap_cons,List.length_append,ih,List.length_cons];simp [SD.cells];omega
theorem Qgw (l:List SD) (j i:Nat) (x:SD) (hj:l[j]?=some x) (hi:i<17):(saidC l)[j*17+i]?=x.cells[i]?:=by
 induction l generalizing j with
 | nil=>simp at hj
 | cons y r ih =>
  have e:saidC (y::r)=y.cells++saidC r:=by simp [saidC]
  have hl:y.cells.length=17:=rfl
  rw [e]
  cases j with
  | zero =>
   obtain rfl:y=x:=by simpa using hj
   rw [List.getElem?_append_left (by omega),Nat.zero_mul,Nat.zero_add]
  | succ j =>
   rw [List.getElem?_append_right (by omega),hl,show (j+1)*17+i-17=j*17+i by omega]
   exact ih j (by simpa using hj)
theorem Qkt (w:World) (x:HV):Calls Tryz.prog 151 #[.agg #[.int .u16 x.age,.int .u8 x.opts,.int .u8 x.typ,.int .u32 x.id,.int .u32 x.adv,.int .i32 x.seq,.int .u16 x.sum,.int .u16 x.len]] w fun e w'=>e=.returned (.agg #[.int .u8 x.typ,.int .u32 x.id,.int .u32 x.adv])∧Grs w w':=by
 go_enter Tryz.func151,Tryz.ntmps151
 go_wp2_with fail
 refine bodyPost_ret (v:=.agg #[.int .u8 x.typ,.int .u32 x.id,.int .u32 x.adv]) (by simp [results,Tryz.results151,go_sem]) rfl ⟨rfl,?_⟩
 exact ((Grs.refl _).alloc _).alloc _
theorem Qlf (a0 a1 a2 b0 b1 b2:Int) (hn:¬a0=b0) (w:World) :
  Calls Tryz.prog 150 #[.agg #[.int .u8 a0,.int .u32 a1,.int .u32 a2],.agg #[.int .u8 b0,.int .u32 b1,.int .u32 b2]] w fun e w'=>e=.returned (.int .i64 (keyI a0 a1 a2 b0 b1 b2))∧Grs w w':=by
 have HE:Hid (keyI a0 a1 a2 b0 b1 b2=fstI (cmpI a0 b0) (fstI (cmpI a1 b1) (cmpI a2 b2))):=rfl
 generalize keyI a0 a1 a2 b0 b1 b2=z at HE ⊢
 go_enter Tryz.func150,Tryz.ntmps150
 go_wp2_with fail
 go_region_held3 (fun w'=>w'.cell? ⟨w.heap.size,0,none⟩=some (.int .u8 a0)∧w'.cell? ⟨w.heap.size,1,none⟩=some (.int .u32 a1)∧w'.cell? ⟨w.heap.size,2,none⟩=some (.int .u32 a2)∧w'.cell? ⟨w.heap.size+1,0,none⟩=some (.int .u8 b0)∧w'.cell? ⟨w.heap.size+1,1,none⟩=some (.int .u32 b1)∧w'.cell? ⟨w.heap.size+1,2,none⟩=some (.int .u32 b2)) (go_keep) (first
  | (go_at_call 115;refine (Qel _ _ _).mono ?_;rintro e w1 ⟨rfl,rfl⟩)
  | (go_at_call 89;refine (Qeq _ _ _).mono ?_;rintro e w2 ⟨rfl,rfl⟩)
  | (go_at_call 182;refine (Qc7 _ _ _ z HE.out _ _ _ (by simp [go_sem]) (by simp [go_sem]) (by simp [go_sem])).mono ?_;rintro e w5 ⟨rfl,rfl⟩))
 go_wp2_with fail
 go_ret
 exact⟨rfl,(((((Grs.refl w).alloc _).alloc _).alloc _).drew)⟩
theorem Qrh (a0 a1 a2 b1 b2:Int) (hn:¬a1=b1) (w:World) :
  Calls Tryz.prog 150 #[.agg #[.int .u8 a0,.int .u32 a1,.int .u32 a2],.agg #[.int .u8 a0,.int .u32 b1,.int .u32 b2]] w fun e w'=>e=.returned (.int .i64 (keyI a0 a1 a2 a0 b1 b2))∧Grs w w':=by
 have HE:Hid (keyI a0 a1 a2 a0 b1 b2=fstI (cmpI a0 a0) (fstI (cmpI a1 b1) (cmpI a2 b2))):=rfl
 generalize keyI a0 a1 a2 a0 b1 b2=z at HE ⊢
 go_enter Tryz.func150,Tryz.ntmps150
 go_wp2_with fail
 go_region_held3 (fun w'=>w'.cell? ⟨w.heap.size,0,none⟩=some (.int .u8 a0)∧w'.cell? ⟨w.heap.size,1,none⟩=some (.int .u32 a1)∧w'.cell? ⟨w.heap.size,2,none⟩=some (.int .u32 a2)∧w'.cell? ⟨w.heap.size+1,0,none⟩=some (.int .u8 a0)∧w'.cell? ⟨w.heap.size+1,1,none⟩=some (.int .u32 b1)∧w'.cell? ⟨w.heap.size+1,2,none⟩=some (.int .u32 b2)) (go_keep) (first
  | (go_at_call 115;refine (Qel _ _ _).mono ?_;rintro e w1 ⟨rfl,rfl⟩)
  | (go_at_call 89;refine (Qeq _ _ _).mono ?_;rintro e w2 ⟨rfl,rfl⟩)
  | (go_at_call 182;refine (Qc7 _ _ _ z HE.out _ _ _ (by simp [go_sem]) (by simp [go_sem]) (by simp [go_sem])).mono ?_;rintro e w5 ⟨rfl,rfl⟩))
 go_wp2_with fail
 go_ret
 exact⟨rfl,(((((Grs.refl w).alloc _).alloc _).alloc _).drew)⟩
theorem Qnn (a0 a1 a2 b2:Int) (hn:¬a2=b2) (w:World) :
  Calls Tryz.prog 150 #[.agg #[.int .u8 a0,.int .u32 a1,.int .u32 a2],.agg #[.int .u8 a0,.int .u32 a1,.int .u32 b2]] w fun e w'=>e=.returned (.int .i64 (keyI a0 a1 a2 a0 a1 b2))∧Grs w w':=by
 have HE:Hid (keyI a0 a1 a2 a0 a1 b2=fstI (cmpI a0 a0) (fstI (cmpI a1 a1) (cmpI a2 b2))):=rfl
 generalize keyI a0 a1 a2 a0 a1 b2=z at HE ⊢
 go_enter Tryz.func150,Tryz.ntmps150
 go_wp2_with fail
 go_region_held3 (fun w'=>w'.cell? ⟨w.heap.size,0,none⟩=some (.int .u8 a0)∧w'.cell? ⟨w.heap.size,1,none⟩=some (.int .u32 a1)∧w'.cell? ⟨w.heap.size,2,none⟩=some (.int .u32 a2)∧w'.cell? ⟨w.heap.size+1,0,none⟩=some (.int .u8 a0)∧w'.cell? ⟨w.heap.size+1,1,none⟩=some (.int .u32 a1)∧w'.cell? ⟨w.heap.size+1,2,none⟩=some (.int .u32 b2)) (go_keep) (first
  | (go_at_call 115;refine (Qel _ _ _).mono ?_;rintro e w1 ⟨rfl,rfl⟩)
  | (go_at_call 89;refine (Qeq _ _ _).mono ?_;rintro e w2 ⟨rfl,rfl⟩)
  | (go_at_call 182;refine (Qc7 _ _ _ z HE.out _ _ _ (by simp [go_sem]) (by simp [go_sem]) (by simp [go_sem])).mono ?_;rintro e w5 ⟨rfl,rfl⟩))
 go_wp2_with fail
 go_ret
 exact⟨rfl,(((((Grs.refl w).alloc _).alloc _).alloc _).drew)⟩
theorem Qkx (a0 a1 a2:Int) (w:World) :
  Calls Tryz.prog 150 #[.agg #[.int .u8 a0,.int .u32 a1,.int .u32 a2],.agg #[.int .u8 a0,.int .u32 a1,.int .u32 a2]] w fun e w'=>e=.returned (.int .i64 0)∧Grs w w':=by
 go_enter Tryz.func150,Tryz.ntmps150
 go_wp2
 go_ret
 exact⟨rfl,(((Grs.refl w).alloc _).alloc _)⟩
theorem Qm6 (a0 a1 a2 b0 b1 b2:Int) (w:World) :
  Calls Tryz.prog 150 #[.agg #[.int .u8 a0,.int .u32 a1,.int .u32 a2],.agg #[.int .u8 b0,.int .u32 b1,.int .u32 b2]] w fun e w'=>e=.returned (.int .i64 (keyI a0 a1 a2 b0 b1 b2))∧Grs w w':=by
 by_cases h:a0=b0∧a1=b1∧a2=b2
 ·obtain⟨rfl,rfl,rfl⟩:=h
  have e:keyI a0 a1 a2 a0 a1 a2=0:=by unfold keyI;rw [Qd1,Qd1,Qd1];rfl
  rw [e]
  exact Qkx a0 a1 a2 w
 ·by_cases h0:a0=b0
  ·subst h0
   by_cases h1:a1=b1
   ·subst h1
    exact Qnn a0 a1 a2 b2 (fun e=>h ⟨rfl,rfl,e⟩) w
   ·exact Qrh a0 a1 a2 b1 b2 h1 w
  ·exact Qlf a0 a1 a2 b0 b1 b2 h0 w
def keyS (x y:SD):Int:=keyI x.h.typ x.h.id x.h.adv y.h.typ y.h.id y.h.adv
theorem Qqb (x y:SD) (w:World) :
  Calls Tryz.prog 149 #[.agg x.cells.toArray,.agg y.cells.toArray] w fun e w'=>e=.returned (.int .i64 (keyS x y))∧∃q os',w'=grow (w.drewN q) os':=by
 have HK:=fun w=>Qm6 x.h.typ x.h.id x.h.adv y.h.typ y.h.id y.h.adv w
 have H1:=fun w=>Qkt w x.h
 have H2:=fun w=>Qkt w y.h
 show Calls Tryz.prog 149 #[.agg #[.int .u16 x.h.age,.int .u8 x.h.opts,.int .u8 x.h.typ,.int .u32 x.h.id,.int .u32 x.h.adv,.int .i32 x.h.seq,.int .u16 x.h.sum,.int .u16 x.h.len,.int .u8 x.b.flags,x.vl,.int .u32 x.b.mask,x.vr,.int .u32 x.b.metric,.bool x.b.type2,.int .u32 x.b.fwd,.int .u32 x.b.tag,x.vd],.agg #[.int .u16 y.h.age,.int .u8 y.h.opts,.int .u8 y.h.typ,.int .u32 y.h.id,.int .u32 y.h.adv,.int .i32 y.h.seq,.int .u16 y.h.sum,.int .u16 y.h.len,.int .u8 y.b.flags,y.vl,.int .u32 y.b.mask,y.vr,.int .u32 y.b.metric,.bool y.b.type2,.int .u32 y.b.fwd,.int .u32 y.b.tag,y.vd]] w _
 unfold keyS
 generalize keyI x.h.typ x.h.id x.h.adv y.h.typ y.h.id y.h.adv=z at *
 obtain⟨w0,hw0⟩:∃u,u=(w.alloc (.cells #[.int .u16 x.h.age,.int .u8 x.h.opts,.int .u8 x.h.typ,.int .u32 x.h.id,.int .u32 x.h.adv,.int .i32 x.h.seq,.int .u16 x.h.sum,.int .u16 x.h.len,.int .u8 x.b.flags,x.vl,.int .u32 x.b.mask,x.vr,.int .u32 x.b.metric,.bool x.b.type2,.int .u32 x.b.fwd,.int .u32 x.b.tag,x.vd] 125)).alloc (.cells #[.int .u16 y.h.age,.int .u8 y.h.opts,.int .u8 y.h.typ,.int .u32 y.h.id,.int .u32 y.h.adv,.int .i32 y.h.seq,.int .u16 y.h.sum,.int .u16 y.h.len,.int .u8 y.b.flags,y.vl,.int .u32 y.b.mask,y.vr,.int .u32 y.b.metric,.bool y.b.type2,.int .u32 y.b.fwd,.int .u32 y.b.tag,y.vd] 125):=⟨_,rfl⟩
 have G0:Hid (Grs w w0):=by rw [hw0];exact ((Grs.refl _).alloc _).alloc _
 have RX:∀w',Grs w0 w'→Row w' w.heap.size 125 [.int .u16 x.h.age,.int .u8 x.h.opts,.int .u8 x.h.typ,.int .u32 x.h.id,.int .u32 x.h.adv,.int .i32 x.h.seq,.int .u16 x.h.sum,.int .u16 x.h.len,.int .u8 x.b.flags,x.vl,.int .u32 x.b.mask,x.vr,.int .u32 x.b.metric,.bool x.b.type2,.int .u32 x.b.fwd,.int .u32 x.b.tag,x.vd]:=fun w' s=>by
  have:Row w0 w.heap.size 125 [.int .u16 x.h.age,.int .u8 x.h.opts,.int .u8 x.h.typ,.int .u32 x.h.id,.int .u32 x.h.adv,.int .i32 x.h.seq,.int .u16 x.h.sum,.int .u16 x.h.len,.int .u8 x.b.flags,x.vl,.int .u32 x.b.mask,x.vr,.int .u32 x.b.metric,.bool x.b.type2,.int .u32 x.b.fwd,.int .u32 x.b.tag,x.vd]:=by rw [hw0];exact (Qac w _ _).keep ((Touch.refl _ _).alloc _)
  exact this.keep s.t
 have RY:∀w',Grs w0 w'→Row w' (w.heap.size+1) 125 [.int .u16 y.h.age,.int .u8 y.h.opts,.int .u8 y.h.typ,.int .u32 y.h.id,.int .u32 y.h.adv,.int .i32 y.h.seq,.int .u16 y.h.sum,.int .u16 y.h.len,.int .u8 y.b.flags,y.vl,.int .u32 y.b.mask,y.vr,.int .u32 y.b.metric,.bool y.b.type2,.int .u32 y.b.fwd,.int .u32 y.b.tag,y.vd]:=fun w' s=>by
  have:Row w0 (w.heap.size+1) 125 [.int .u16 y.h.age,.int .u8 y.h.opts,.int .u8 y.h.typ,.int .u32 y.h.id,.int .u32 y.h.adv,.int .i32 y.h.seq,.int .u16 y.h.sum,.int .u16 y.h.len,.int .u8 y.b.flags,y.vl,.int .u32 y.b.mask,y.vr,.int .u32 y.b.metric,.bool y.b.type2,.int .u32 y.b.fwd,.int .u32 y.b.tag,y.vd]:=by rw [hw0];have:=Qac (w.alloc (.cells #[.int .u16 x.h.age,.int .u8 x.h.opts,.int .u8 x.h.typ,.int .u32 x.h.id,.int .u32 x.h.adv,.int .i32 x.h.seq,.int .u16 x.h.sum,.int .u16 x.h.len,.int .u8 x.b.flags,x.vl,.int .u32 x.b.mask,x.vr,.int .u32 x.b.metric,.bool x.b.type2,.int .u32 x.b.fwd,.int .u32 x.b.tag,x.vd] 125)) 125 #[.int .u16 y.h.age,.int .u8 y.h.opts,.int .u8 y.h.typ,.int .u32 y.h.id,.int .u32 y.h.adv,.int .i32 y.h.seq,.int .u16 y.h.sum,.int .u16 y.h.len,.int .u8 y.b.flags,y.vl,.int .u32 y.b.mask,y.vr,.int .u32 y.b.metric,.bool y.b.type2,.int .u32 y.b.fwd,.int .u32 y.b.tag,y.vd];rw [World.size_alloc] at this;exact this
  exact this.keep s.t
 go_enter Tryz.func149,Tryz.ntmps149
 go_upto_region 1 with fail
 rw [←hw0]
 clear hw0
 generalize w.heap.size+1=g1 at *
 generalize w.heap.size=g0 at *
 refine wp_region_held_drew (S:=fun w'=>Grs w0 w') (by kernel_rfl) ((Grs.refl w0).drew) (fun hHeld=>?_)
 refine wpAnyH_take (i:=0) (oi:=⟨some 5,_,_,_,_,_⟩) (v:=.pointer (some ⟨g0,0,none⟩)) rfl (by kernel_rfl) (by kernel_rfl) (by kernel_rfl) (fun _ _ _ h=>h) (Or.inl ⟨by rfl,fun w hw=>by go_simp⟩) (by assumption) ?_
 simp only [Act.put,Qw2,Qw3,Qw4]
 refine wpAnyH_take (i:=1) (oi:=⟨some 6,_,_,_,_,_⟩) (v:=.agg #[.int .u16 x.h.age,.int .u8 x.h.opts,.int .u8 x.h.typ,.int .u32 x.h.id,.int .u32 x.h.adv,.int .i32 x.h.seq,.int .u16 x.h.sum,.int .u16 x.h.len]) rfl (by kernel_rfl) (by kernel_rfl) (by kernel_rfl) (fun _ _ _ h=>h) (yieldsIf_load_mid (by rfl) _ _ rfl _ _ rfl [.int .u16 x.h.age,.int .u8 x.h.opts,.int .u8 x.h.typ,.int .u32 x.h.id,.int .u32 x.h.adv,.int .i32 x.h.seq,.int .u16 x.h.sum,.int .u16 x.h.len] _ (fun w h=>Qdc (RX w h)) Tryz.underlying54 rfl (by kernel_rfl)) (by assumption) ?_
 simp only [Act.put,Qw2,Qw3,Qw4]
 refine wpAnyH_take (i:=3) (oi:=⟨some 8,_,_,_,_,_⟩) (v:=.pointer (some ⟨g1,0,none⟩)) rfl (by kernel_rfl) (by kernel_rfl) (by kernel_rfl) (fun _ _ _ h=>h) (Or.inl ⟨by rfl,fun w hw=>by go_simp⟩) (by assumption) ?_
 simp only [Act.put,Qw2,Qw3,Qw4]
 refine wpAnyH_take (i:=4) (oi:=⟨some 9,_,_,_,_,_⟩) (v:=.agg #[.int .u16 y.h.age,.int .u8 y.h.opts,.int .u8 y.h.typ,.int .u32 y.h.id,.int .u32 y.h.adv,.int .i32 y.h.seq,.int .u16 y.h.sum,.int .u16 y.h.len]) rfl (by kernel_rfl) (by kernel_rfl) (by kernel_rfl) (fun _ _ _ h=>h) (yieldsIf_load_mid (by rfl) _ _ rfl _ _ rfl [.int .u16 y.h.age,.int .u8 y.h.opts,.int .u8 y.h.typ,.int .u32 y.h.id,.int .u32 y.h.adv,.int .i32 y.h.seq,.int .u16 y.h.sum,.int .u16 y.h.len] _ (fun w h=>Qdc (RY w h)) Tryz.underlying54 rfl (by kernel_rfl)) (by assumption) ?_
 simp only [Act.put,Qw2,Qw3,Qw4]
 refine wpAnyH_ready (rs:=[2]) (by kernel_rfl) (by simp) ?_
 refine AllReadyH.cons (o:=⟨some 7,_,_,_,_,_⟩) rfl (fun K hK=>?_) AllReadyH.nil
 go_simp
 refine Calls.mono (H1 _) ?_
 rintro e y1 ⟨rfl,u1⟩
 have s1:Grs w0 y1:=((Grs.refl w0).drew).trans u1
 refine hK.out _ _ (by assumption) (fun hHeld=>?_)
 clear hK K
 refine wpAnyH_ready (rs:=[5]) (by kernel_rfl) (by simp) ?_
 refine AllReadyH.cons (o:=⟨some 10,_,_,_,_,_⟩) rfl (fun K hK=>?_) AllReadyH.nil
 go_simp
 refine Calls.mono (H2 _) ?_
 rintro e y2 ⟨rfl,u2⟩
 have s2:Grs w0 y2:=s1.trans u2
 refine hK.out _ _ (by assumption) (fun hHeld=>?_)
 clear hK K
 refine wpAnyH_ready (rs:=[6]) (by kernel_rfl) (by simp) ?_
 refine AllReadyH.cons (o:=⟨some 11,_,_,_,_,_⟩) rfl (fun K hK=>?_) AllReadyH.nil
 go_simp
 refine Calls.mono (HK _) ?_
 rintro e y3 ⟨rfl,u3⟩
 have s3:Grs w0 y3:=s2.trans u3
 refine hK.out _ _ (by assumption) (fun hHeld=>?_)
 clear hK K
 refine wpAnyH_take (i:=7) (oi:=⟨some 4,_,_,_,_,_⟩) (v:=.int .i64 z) rfl (by kernel_rfl) (by kernel_rfl) (by kernel_rfl) (fun _ _ _ h=>h) (Or.inl ⟨by rfl,fun w hw=>by go_simp⟩) (by assumption) ?_
 simp only [Act.put,Qw2,Qw3,Qw4]
 refine wpAnyH_done (by kernel_rfl) ?_ _
 clear RX RY H1 H2 HK
 go_wp2_with fail
 go_ret
 exact⟨rfl,(G0.out.trans s3).out⟩
open Go.RowKit
def plV (p:Bool×Int):Value:=.agg #[.bool p.1,.int .u32 p.2]
theorem Qb9 (h:HV) (w:World):Calls Tryz.prog 53 #[.agg #[.int .u16 h.age,.int .u8 h.opts,.int .u8 h.typ,.int .u32 h.id,.int .u32 h.adv,.int .i32 h.seq,.int .u16 h.sum,.int .u16 h.len]] w fun e w'=>e=.returned (plV h.pl)∧Touch (fun _=>False) w w':=by
 go_enter Tryz.func53,Tryz.ntmps53
 go_wp2_with fail
 refine bodyPost_ret (v:=.agg #[.bool (h.typ==2),.int .u32 h.id]) (by simp [results,Tryz.results53,go_sem]) rfl ⟨rfl,?_⟩
 exact ((Touch.refl _ w).alloc _).alloc _
def q1 (h:HV):Bool:=decide (h.typ=1∨h.typ=2)
def q2 (h:HV):Bool:=!decide (yrs h.age=3600)
def q3 (h:HV):Bool:=decide (h.typ=1→h.id=h.adv∧h.id≠0)
theorem Qp3 (h:HV) (a:Option Addr) (n c:Nat) (w:World):Calls Tryz.prog 96 #[h.sv (.slice a n c)] w fun e w'=>e=.returned (.bool (q1 h))∧Touch (fun _=>False) w w':=by
 have HB:Hid (q1 h=decide (h.typ=1∨h.typ=2)):=rfl
 generalize q1 h=r at HB ⊢
 unfold HV.sv
 by_cases h1:h.typ=1
 ·have hb:(h.typ==1)=true:=by simpa using h1
  obtain rfl:r=true:=by rw [HB.out];simp [h1]
  clear HB h1
  go_enter Tryz.func96,Tryz.ntmps96
  go_wp2
  go_ret
  exact⟨rfl,(Touch.refl _ _).alloc _⟩
 ·have hb:(h.typ==1)=false:=by simpa using h1
  have hr:Hid (r=(h.typ==2)):=by rw [Hid,HB.out,Bool.eq_iff_iff];simp [h1]
  clear HB h1
  go_enter Tryz.func96,Tryz.ntmps96
  go_wp2
  go_ret
  exact⟨Qaj hr.out.symm,(Touch.refl _ _).alloc _⟩
theorem Qpc (h:HV) (ok:h.All) (a:Option Addr) (n c:Nat) (w:World):Calls Tryz.prog 97 #[h.sv (.slice a n c)] w fun e w'=>e=.returned (.bool (q2 h))∧Touch (fun _=>False) w w':=by
 have HO:=fun w=>Qs8 h.age ok.a.1 ok.a.2 w
 unfold HV.sv q2
 clear ok
 generalize decide (yrs h.age=3600)=z at *
 go_enter Tryz.func97,Tryz.ntmps97
 go_wp2_with (go_at_call 98;refine (HO _).mono ?_;rintro e w' ⟨rfl,rfl⟩)
 go_ret
 exact⟨rfl,(Touch.refl _ _).alloc _⟩
theorem Qpe (h:HV) (w:World):Calls Tryz.prog 100 #[.agg #[.int .u16 h.age,.int .u8 h.opts,.int .u8 h.typ,.int .u32 h.id,.int .u32 h.adv,.int .i32 h.seq,.int .u16 h.sum,.int .u16 h.len]] w fun e w'=>e=.returned (.bool (decide (h.id=h.adv∧h.id≠0)))∧Touch (fun _=>False) w w':=by
 have HB:Hid (decide (h.id=h.adv∧h.id≠0)=decide (h.id=h.adv∧h.id≠0)):=rfl
 generalize hr:decide (h.id=h.adv∧h.id≠0)=r at HB ⊢
 have HR:Hid (decide (h.id=h.adv∧h.id≠0)=r):=hr
 clear HB hr
 by_cases h1:h.id=h.adv
 ·have hb:(h.id==h.adv)=true:=by simpa using h1
  have hr:Hid (r=(h.id != 0)):=by rw [Hid,←HR.out,Bool.eq_iff_iff];simp [h1]
  clear HR h1
  go_enter Tryz.func100,Tryz.ntmps100
  go_wp2
  go_ret
  exact⟨Qaj hr.out.symm,(Touch.refl _ _).alloc _⟩
 ·have hb:(h.id==h.adv)=false:=by simpa using h1
  obtain rfl:r=false:=by rw [←HR.out];simp [h1]
  clear HR h1
  go_enter Tryz.func100,Tryz.ntmps100
  go_wp2
  go_ret
  exact⟨rfl,(Touch.refl _ _).alloc _⟩
theorem Qpj (h:HV) (a:Option Addr) (n c:Nat) (w:World):Calls Tryz.prog 99 #[h.sv (.slice a n c)] w fun e w'=>e=.returned (.bool (q3 h))∧Touch (fun _=>False) w w':=by
 have HB:Hid (q3 h=decide (h.typ=1→h.id=h.adv∧h.id≠0)):=rfl
 generalize q3 h=r at HB ⊢
 have HS:=Qpe h
 unfold HV.sv
 by_cases h1:h.typ=1
 ·have hb:(h.typ != 1)=false:=by simpa using h1
  have hr:Hid (r=decide (h.id=h.adv∧h.id≠0)):=by rw [Hid,HB.out];simp [h1]
  clear HB h1
  generalize decide (h.id=h.adv∧h.id≠0)=z at *
  go_enter Tryz.func99,Tryz.ntmps99
  go_wp2_with fail
  refine (HS _).mono ?_
  rintro e w1 ⟨rfl,t1⟩
  have T1:Hid _:=t1
  clear t1
  go_wp2
  go_ret
  exact⟨Qaj hr.out.symm,((Touch.refl _ _).alloc _).trans T1.out⟩
 ·have hb:(h.typ != 1)=true:=by simpa using h1
  obtain rfl:r=true:=by rw [HB.out];simp [h1]
  clear HB h1
  go_enter Tryz.func99,Tryz.ntmps99
  go_wp2
  go_ret
  exact⟨rfl,(Touch.refl _ _).alloc _⟩
theorem Qsa (h:HV) (ok:h.All) (hr:RdOk h.typ) (v:Value) (rs:List Int) (w:World) (hv:ArgAt w v rs) (hby:∀z∈rs,0≤z∧z<256) (hn:rs.length≤1000000):Calls Tryz.prog 102 #[h.sv v] w fun e w'=>e=.returned (.bool (chkE h rs==0))∧Touch (fun _=>False) w w':=by
 have HC:=fun w' (t:Touch (fun _=>False) w w')=>Ql2 h ok hr v rs w' (hv.keepN t) hby hn
 obtain⟨a,c,rfl,hm⟩:=hv.form
 clear hv
 unfold HV.sv at *
 generalize chkE h rs=z at *
 go_enter Tryz.func102,Tryz.ntmps102
 go_wp2_with fail
 refine (HC _ ((Touch.refl _ _).alloc _)).mono ?_
 rintro e w1 ⟨rfl,t1⟩
 have T1:Hid _:=t1
 clear t1 HC
 go_wp2
 go_ret
 exact⟨rfl,((Touch.refl _ _).alloc _).trans T1.out⟩
theorem Qtf (a n:Int) (w:World) (h0:0≤n) (h1:n≤32) (ha0:0≤a) (ha1:a<4294967296) :
  Calls Tryz.prog 153 #[.int .u32 a,.int .u8 n] w fun e w'=>e=.returned (.tuple #[.agg #[.int .u32 (pcut a n),.int .u8 n],.int .i64 0])∧Touch (fun _=>False) w w':=by
 have H:Hid (bits .and .u32 a (pmask n)=pcut a n):=Qpi ha0 ha1 h0 h1
 go_enter Tryz.func153,Tryz.ntmps153
 go_wp2_with (go_at_call 183;refine (Qgh _ _ h0).mono ?_;rintro e w' ⟨rfl,rfl⟩)
 refine bodyPost_ret (v:=.tuple #[.agg #[.int .u32 (bits .and .u32 a (pmask n)),.int .u8 n],.int .i64 0]) (by simp [results,Tryz.results153,go_sem]) rfl ⟨by rw [H.out],?_⟩
 exact (Touch.refl _ _).alloc _
def inA (a m:Int):Int:=if pbok m=true then pcut a (pbn m) else 0
theorem Qss (m:Int):0≤pbn m∧pbn m≤32:=by
 unfold pbn
 cases h:pfind m with
 | none=>simp
 | some k =>
  have hk:=List.mem_of_find?_eq_some h
  simp at hk
  simp
  omega
theorem Qvt {m:Int} (h:pbok m=false):pbn m=0:=by
 unfold pbok at h
 unfold pbn
 cases e:pfind m with
 | none=>rfl
 | some k=>rw [e] at h;simp at h
theorem Qfu (a m:Int) (w:World) (ha0:0≤a) (ha1:a<4294967296) (hm0:0≤m) (hm1:m<4294967296) :
  Calls Tryz.prog 108 #[.int .u32 a,.int .u32 m] w fun e w'=>e=.returned (.tuple #[.agg #[.int .u32 (inA a m),.int .u8 (pbn m)],.bool (pbok m)])∧Touch (fun _=>False) w w':=by
 have HB:=fun w=>Qqj m w hm0 hm1
 cases hb:pbok m with
 | false =>
  have e1:inA a m=0:=by unfold inA;rw [if_neg (by simp [hb])]
  have e2:=Qvt hb
  rw [e1,e2]
  rw [e2,hb] at HB
  clear e1 e2 hb hm0 hm1 ha0 ha1
  go_enter Tryz.func108,Tryz.ntmps108
  go_wp2_with (go_at_call 152;refine (HB _).mono ?_;rintro e w' ⟨rfl,rfl⟩)
  refine bodyPost_ret (v:=.tuple #[.agg #[.int .u32 0,.int .u8 0],.bool false]) (by simp [results,Tryz.results108,go_sem]) rfl ⟨rfl,?_⟩
  exact (Touch.refl _ _).alloc _
 | true =>
  have e1:inA a m=pcut a (pbn m):=by unfold inA;rw [if_pos hb]
  rw [e1]
  rw [hb] at HB
  obtain⟨b0,b1⟩:=Qss m
  have HM:=fun w=>Qtf a (pbn m) w b0 b1 ha0 ha1
  clear e1 hb hm0 hm1 ha0 ha1
  generalize pcut a (pbn m)=x at *
  generalize pbn m=n at *
  go_enter Tryz.func108,Tryz.ntmps108
  go_wp2_with (go_at_call 152;refine (HB _).mono ?_;rintro e w' ⟨rfl,rfl⟩)
  refine (HM _).mono ?_
  rintro e w1 ⟨rfl,t1⟩
  have hz:w.heap.size<w1.heap.size:=by have:=t1.size;simp at this;omega
  have hc0:w1.cell? ⟨w.heap.size,0,none⟩=some (.int .u32 0):=t1.cellN (by simp [go_sem])
  have hc1:w1.cell? ⟨w.heap.size,1,none⟩=some (.int .u8 0):=t1.cellN (by simp [go_sem])
  have hf:∀j,w1.frozen? ⟨w.heap.size,j,none⟩=false:=fun j=>by rw [t1.frozen (p:=⟨w.heap.size,j,none⟩) (by simp) (fun h=>h)];simp [go_sem]
  have T1:Hid _:=t1
  clear t1 HM HB
  go_wp2_with fail
  refine bodyPost_ret (v:=.tuple #[.agg #[.int .u32 x,.int .u8 n],.bool true]) (by simp [results,Tryz.results108,go_sem,hz,hc0,hc1]) rfl ⟨rfl,?_⟩
  have T2:Touch (fun _=>False) w w1:=((Touch.refl _ _).alloc _).trans T1.out
  first|exact Touch.setCell (p:=⟨w.heap.size,1,none⟩) (Touch.setCell (p:=⟨w.heap.size,0,none⟩) (T2.alloc _) (Or.inr (Nat.le_refl _)) _) (Or.inr (Nat.le_refl _)) _|exact (Touch.setCell (p:=⟨w.heap.size,1,none⟩) (Touch.setCell (p:=⟨w.heap.size,0,none⟩) T2 (Or.inr (Nat.le_refl _)) _) (Or.inr (Nat.le_refl _)) _).alloc _
end Go.Proofs.YtddbffoiadmffaaGreat
