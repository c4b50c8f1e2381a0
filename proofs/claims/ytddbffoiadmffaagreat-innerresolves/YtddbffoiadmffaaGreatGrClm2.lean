import Derived.Test.YtddbffoiadmffaaGreatGrSort
namespace Go.Proofs.YtddbffoiadmffaaGreat
set_option maxHeartbeats 8000000
open Go.RowKit
set_option linter.unusedVariables false
set_option maxRecDepth 100000
theorem Qv4 (w0:World) (p q:Bool×Int) (h0:0≤p.2∧p.2<4294967296) (h1:0≤q.2∧q.2<4294967296):∀w,(binOp .neq 127 (plV p) (plV q)).run Tryz.prog w=.ok (.bool (decide (p≠q))) w:=by
 intro w
 obtain⟨lx,hx⟩:=Qft p h0.1 h0.2
 obtain⟨ly,hy⟩:=Qft q h1.1 h1.2
 obtain⟨r,h2,h3⟩:=run_equal_deep (P:=Tryz.prog) (m:=2) w (by omega) (k:=127) (by kernel_rfl) (by kernel_rfl) hx hy
 have e:(!r)=decide (p≠q):=by
  by_cases e:p=q
  ·subst e
   have:r=true:=h3.2 (Option.some.inj (hx.symm.trans hy))
   simp [this]
  ·have:r=false:=by
    cases hr:r with
    | false=>rfl
    | true=>exact absurd (Qe3 (lawP.inj hx (by rw [h3.1 hr];exact hy))) e
   simp [this,e]
 unfold plV at h2 ⊢
 simp [binOp,h2,go_sem,e]
def CV.cells (c:CV):List Value:=[.int .i64 (c.e.dst:Int),.int .u32 c.e.cost,.int .u32 c.e.data,.bool c.e.virt,.int .u8 c.kind]
def claimC (l:List CV):List Value:=l.flatMap CV.cells
theorem Qgu (a b:List CV):claimC (a++b)=claimC a++claimC b:=by simp [claimC]
theorem Qia (l:List CV) (j i:Nat) (x:CV) (hj:l[j]?=some x) (hi:i<5):(claimC l)[j*5+i]?=x.cells[i]?:=by
 induction l generalizing j with
 | nil=>simp at hj
 | cons y r ih =>
  have e:claimC (y::r)=y.cells++claimC r:=by simp [claimC]
  have hl:y.cells.length=5:=rfl
  rw [e]
  cases j with
  | zero =>
   obtain rfl:y=x:=by simpa using hj
   rw [List.getElem?_append_left (by omega),Nat.zero_mul,Nat.zero_add]
  | succ j =>
   rw [List.getElem?_append_right (by omega),hl,show (j+1)*5+i-5=j*5+i by omega]
   exact ih j (by simpa using hj)
theorem kindA:MK 127 123 3 (.int .i64 0):=⟨lawP,Tryz.underlying123,fun _=>rfl⟩
def atL (P:List SV):List (Value×Value):=P.mapIdx (fun i x=>(plV x.pl,.int .i64 (i:Int)))
theorem Qtr {P:List SV} {i:Nat} {x:SV} (h:P[i]?=some x):(atL P)[i]?=some (plV x.pl,.int .i64 (i:Int)):=by
 unfold atL
 rw [List.getElem?_mapIdx,h]
 rfl
theorem Qsq {w:World} {m i:Nat} {P:List SV} {p:Bool×Int} (h:AM w 127 m (atL P)) (hp:atP P p=some i) :
  (Instr.lookup 123 (.map (some m)) (plV p) true).run Tryz.prog w=.ok (.tuple #[.int .i64 (i:Int),.bool true]) w:=by
 obtain⟨y,hy,hpl,-⟩:=Qkk hp
 exact AM.hit kindA h (j:=i) (by rw [←hpl];exact Qtr hy)
theorem Qtw {w:World} {m:Nat} {P:List SV} {p:Bool×Int} (h:AM w 127 m (atL P)) (h0:0≤p.2) (h1:p.2<4294967296) (hp:atP P p=none) :
  (Instr.lookup 123 (.map (some m)) (plV p) true).run Tryz.prog w=.ok (.tuple #[.int .i64 0,.bool false]) w:=by
 obtain⟨q,hq⟩:=Qft p h0 h1
 refine AM.miss kindA h hq (fun e he=>?_)
 obtain⟨j,hj⟩:=List.mem_iff_getElem?.1 he
 unfold atL at hj
 rw [List.getElem?_mapIdx] at hj
 cases hy:P[j]? with
 | none=>rw [hy] at hj;cases hj
 | some y =>
  rw [hy] at hj
  simp at hj
  rw [←hj]
  intro e
  unfold atP at hp
  rw [List.findIdx?_eq_none_iff] at hp
  have:=hp y (List.mem_of_getElem? hy)
  simp [Qe3 e] at this
theorem infoClm:(Tryz.prog.info? 136).map (fun i=>(i.zero,i.size,i.bytes))=some (some (.agg #[.int .i64 0,.int .u32 0,.int .u32 0,.bool false,.int .u8 0]),5,32):=by kernel_rfl
structure CE (w:World) (bs bm bl ma:Nat) (P:List SV) (xs:List Value):Prop where
 row:Row w bs 125 xs
 box:w.cell? ⟨bm,0,none⟩=some (.map (some ma))
 map:AM w 127 ma (atL P)
 ne:bs≠bl∧bm≠bl∧ma≠bl
theorem CE.touch {F:Nat→Prop} {w w':World} {bs bm bl ma:Nat} {P:List SV} {xs:List Value} (h:CE w bs bm bl ma P xs) (t:Touch F w w') (h1:¬F bs) (h2:¬F bm) (h3:¬F ma):CE w' bs bm bl ma P xs :=
 ⟨Qad h.row t h1,(t.cell (Qaa h.box) h2).trans h.box,h.map.keep t h3,h.ne⟩
theorem CE.keep {w w':World} {bs bm bl ma:Nat} {P:List SV} {xs:List Value} (h:CE w bs bm bl ma P xs) (t:Touch (fun _=>False) w w'):CE w' bs bm bl ma P xs:=h.touch t (fun h=>h) (fun h=>h) (fun h=>h)
structure CS (wb w:World) (bl:Nat) (C:List CV):Prop where
 out:∃v,Row w bl 131 [v]∧w.ownsRow wb.heap.size 136 5 v C.length (claimC C)
 t:Touch (fun k=>k=bl) wb w
 lt:bl<wb.heap.size
theorem CS.keep {wb w w':World} {bl:Nat} {C:List CV} (h:CS wb w bl C) (t:Touch (fun _=>False) w w'):CS wb w' bl C:=by
 obtain⟨⟨v,h1,h2⟩,h3,h4⟩:=h
 exact⟨⟨v,h1.keep t,Qab h2 t (fun _ _ h=>h)⟩,h3.trans (t.mono (fun _ _ h=>h.elim)),h4⟩
theorem CE.later {wb w:World} {bs bm bl ma:Nat} {P:List SV} {xs:List Value} (h:CE wb bs bm bl ma P xs) (t:Touch (fun k=>k=bl) wb w):CE w bs bm bl ma P xs:=h.touch t h.ne.1 h.ne.2.1 h.ne.2.2
theorem Qqd (w wb:World) (bs bm bl ma:Nat) (P:List SV) (x:SD) (p:Bool×Int) (c:CV) (C:List CV) (a1 a3 a8:Option Addr) (n1 q1 n3 q3 n8 q8:Nat) (E:CE wb bs bm bl ma P [.int .u16 x.h.age,.int .u8 x.h.opts,.int .u8 x.h.typ,.int .u32 x.h.id,.int .u32 x.h.adv,.int .i32 x.h.seq,.int .u16 x.h.sum,.int .u16 x.h.len,.int .u8 x.b.flags,.slice a1 n1 q1,.int .u32 x.b.mask,.slice a3 n3 q3,.int .u32 x.b.metric,.bool x.b.type2,.int .u32 x.b.fwd,.int .u32 x.b.tag,.slice a8 n8 q8]) (S:CS wb w bl C) (hr:0≤p.2∧p.2<4294967296) (hid:0≤x.h.id∧x.h.id<4294967296) (hl:C.length≤4000000) (hp:atP P p=none) :
  Calls Tryz.prog 107 #[.agg #[.bool p.1,.int .u32 p.2],.agg #[.int .i64 0,.int .u32 c.e.cost,.int .u32 c.e.data,.bool c.e.virt,.int .u8 c.kind],.pointer (some ⟨bm,0,none⟩),.pointer (some ⟨bs,0,none⟩),.pointer (some ⟨bl,0,none⟩)] w fun e w'=>e=.returned (.tuple #[])∧CS wb w' bl (C):=by
 obtain⟨w0,hw0⟩:∃u,u=(w.alloc (.cells #[.bool p.1,.int .u32 p.2] 127)).alloc (.cells #[.int .i64 0,.int .u32 c.e.cost,.int .u32 c.e.data,.bool c.e.virt,.int .u8 c.kind] 136):=⟨_,rfl⟩
 have t0:Touch (fun _=>False) w w0:=by rw [hw0];exact ((Touch.refl _ _).alloc _).alloc _
 have RPl:Row w0 w.heap.size 127 [.bool p.1,.int .u32 p.2]:=by rw [hw0];exact (Qac w _ _).keep ((Touch.refl _ _).alloc _)
 have RC:Row w0 (w.heap.size+1) 136 [.int .i64 0,.int .u32 c.e.cost,.int .u32 c.e.data,.bool c.e.virt,.int .u8 c.kind]:=by rw [hw0];have:=Qac (w.alloc (.cells #[.bool p.1,.int .u32 p.2] 127)) 136 #[.int .i64 0,.int .u32 c.e.cost,.int .u32 c.e.data,.bool c.e.virt,.int .u8 c.kind];rw [World.size_alloc] at this;exact this
 have HT0:Hid (Touch (fun _=>False) w w0):=t0
 have E0:=E.later S.t
 have EW:=E0.keep t0
 have S0:=S.keep t0
 have cb:=EW.box
 have p0:w0.cell? ⟨w.heap.size,0,none⟩=some (.bool p.1):=RPl.cell 0
 have p1:w0.cell? ⟨w.heap.size,1,none⟩=some (.int .u32 p.2):=RPl.cell 1
 have lb:=Qaa cb
 have lp:=Qaa p0
 have HL:=Qtw EW.map hr.1 hr.2 hp
 unfold plV at HL
 have HS0:Hid _:=S0
 clear hp E S t0 EW E0 RPl RC S0
 go_enter Tryz.func107,Tryz.ntmps107
 go_upto_region 1 with fail
 rw [←hw0]
 clear hw0
 generalize w.heap.size+1=g1 at *
 generalize w.heap.size=g0 at *
 go_wp2_with fail
 go_region
 go_wp2_with fail
 refine bodyPost_end (results_none rfl _ _ _) rfl ?_
 exact⟨rfl,HS0.out.keep ((Touch.refl _ _).drew)⟩
theorem Qqh (w wb:World) (bs bm bl ma:Nat) (P:List SV) (x:SD) (p:Bool×Int) (c:CV) (C:List CV) (a1 a3 a8:Option Addr) (n1 q1 n3 q3 n8 q8:Nat) (E:CE wb bs bm bl ma P [.int .u16 x.h.age,.int .u8 x.h.opts,.int .u8 x.h.typ,.int .u32 x.h.id,.int .u32 x.h.adv,.int .i32 x.h.seq,.int .u16 x.h.sum,.int .u16 x.h.len,.int .u8 x.b.flags,.slice a1 n1 q1,.int .u32 x.b.mask,.slice a3 n3 q3,.int .u32 x.b.metric,.bool x.b.type2,.int .u32 x.b.fwd,.int .u32 x.b.tag,.slice a8 n8 q8]) (S:CS wb w bl C) (hr:0≤p.2∧p.2<4294967296) (hid:0≤x.h.id∧x.h.id<4294967296) (hl:C.length≤4000000) (i:Nat) (hp:atP P p=some i) (hs:p=x.h.pl) :
  Calls Tryz.prog 107 #[.agg #[.bool p.1,.int .u32 p.2],.agg #[.int .i64 0,.int .u32 c.e.cost,.int .u32 c.e.data,.bool c.e.virt,.int .u8 c.kind],.pointer (some ⟨bm,0,none⟩),.pointer (some ⟨bs,0,none⟩),.pointer (some ⟨bl,0,none⟩)] w fun e w'=>e=.returned (.tuple #[])∧CS wb w' bl (C):=by
 obtain⟨w0,hw0⟩:∃u,u=(w.alloc (.cells #[.bool p.1,.int .u32 p.2] 127)).alloc (.cells #[.int .i64 0,.int .u32 c.e.cost,.int .u32 c.e.data,.bool c.e.virt,.int .u8 c.kind] 136):=⟨_,rfl⟩
 have t0:Touch (fun _=>False) w w0:=by rw [hw0];exact ((Touch.refl _ _).alloc _).alloc _
 have RPl:Row w0 w.heap.size 127 [.bool p.1,.int .u32 p.2]:=by rw [hw0];exact (Qac w _ _).keep ((Touch.refl _ _).alloc _)
 have RC:Row w0 (w.heap.size+1) 136 [.int .i64 0,.int .u32 c.e.cost,.int .u32 c.e.data,.bool c.e.virt,.int .u8 c.kind]:=by rw [hw0];have:=Qac (w.alloc (.cells #[.bool p.1,.int .u32 p.2] 127)) 136 #[.int .i64 0,.int .u32 c.e.cost,.int .u32 c.e.data,.bool c.e.virt,.int .u8 c.kind];rw [World.size_alloc] at this;exact this
 have HT0:Hid (Touch (fun _=>False) w w0):=t0
 have E0:=E.later S.t
 have S0w:=S.t.size
 have EW:=E0.keep t0
 have S0:=S.keep t0
 have cb:=EW.box
 have p0:w0.cell? ⟨w.heap.size,0,none⟩=some (.bool p.1):=RPl.cell 0
 have p1:w0.cell? ⟨w.heap.size,1,none⟩=some (.int .u32 p.2):=RPl.cell 1
 have lb:=Qaa cb
 have lp:=Qaa p0
 have HL:=Qsq EW.map hp
 have HP:=fun w=>Qb9 x.h w
 have HN:=Qv4 w p x.h.pl hr hid
 unfold plV at HL HP HN
 have hd:decide (p≠x.h.pl)=false:=by simp [hs]
 rw [hd] at HN
 clear hd hs hp E S t0 E0
 go_enter Tryz.func107,Tryz.ntmps107
 go_upto_region 1 with fail
 rw [←hw0]
 clear hw0
 have hg0:Hid (wb.heap.size≤w.heap.size∧w.heap.size+1<w0.heap.size∧w.heap.size<w.heap.size+1):=⟨S0w,RC.lt,by omega⟩
 generalize w.heap.size+1=g1 at *
 generalize w.heap.size=g0 at *
 go_wp2_with fail
 refine wp_region_held_drew (S:=fun w'=>Since w0 w') (by kernel_rfl) (Since.start w0) (fun hHeld=>?_)
 refine wpAnyH_take (i:=0) (oi:=⟨some 15,_,_,_,_,_⟩) (v:=.bool true) rfl (by kernel_rfl) (by kernel_rfl) (by kernel_rfl) (fun _ _ _ h=>h) (Or.inl ⟨by rfl,fun w hw=>by go_simp⟩) (by assumption) ?_
 simp only [Act.put,Qw2,Qw3,Qw4]
 refine wpAnyH_take (i:=1) (oi:=⟨some 16,_,_,_,_,_⟩) (v:=.bool true) rfl (by kernel_rfl) (by kernel_rfl) (by kernel_rfl) (fun _ _ _ h=>h) (Or.inl ⟨by rfl,fun w hw=>by go_simp⟩) (by assumption) ?_
 simp only [Act.put,Qw2,Qw3,Qw4]
 refine wpAnyH_take (i:=2) (oi:=⟨some 17,_,_,_,_,_⟩) (v:=.agg #[.bool p.1,.int .u32 p.2]) rfl (by kernel_rfl) (by kernel_rfl) (by kernel_rfl) (fun _ _ _ h=>h) (yieldsIf_load_mid (by rfl) _ _ rfl _ _ rfl [.bool p.1,.int .u32 p.2] _ (fun w h=>Qba (RPl.keep h.t)) Tryz.underlying127 rfl (by kernel_rfl)) (by assumption) ?_
 simp only [Act.put,Qw2,Qw3,Qw4]
 refine wpAnyH_take (i:=3) (oi:=⟨some 18,_,_,_,_,_⟩) (v:=.pointer (some ⟨bs,0,none⟩)) rfl (by kernel_rfl) (by kernel_rfl) (by kernel_rfl) (fun _ _ _ h=>h) (Or.inl ⟨by rfl,fun w hw=>by go_simp⟩) (by assumption) ?_
 simp only [Act.put,Qw2,Qw3,Qw4]
 refine wpAnyH_take (i:=4) (oi:=⟨some 19,_,_,_,_,_⟩) (v:=.agg #[.int .u16 x.h.age,.int .u8 x.h.opts,.int .u8 x.h.typ,.int .u32 x.h.id,.int .u32 x.h.adv,.int .i32 x.h.seq,.int .u16 x.h.sum,.int .u16 x.h.len]) rfl (by kernel_rfl) (by kernel_rfl) (by kernel_rfl) (fun _ _ _ h=>h) (yieldsIf_load_mid (by rfl) _ _ rfl _ _ rfl [.int .u16 x.h.age,.int .u8 x.h.opts,.int .u8 x.h.typ,.int .u32 x.h.id,.int .u32 x.h.adv,.int .i32 x.h.seq,.int .u16 x.h.sum,.int .u16 x.h.len] _ (fun w h=>Qdc (EW.row.keep h.t)) Tryz.underlying54 rfl (by kernel_rfl)) (by assumption) ?_
 simp only [Act.put,Qw2,Qw3,Qw4]
 refine wpAnyH_ready (rs:=[5]) (by kernel_rfl) (by simp) ?_
 refine AllReadyH.cons (o:=⟨some 20,_,_,_,_,_⟩) rfl (fun K hK=>?_) AllReadyH.nil
 go_simp
 refine Calls.mono (HP _) ?_
 rintro e y1 ⟨rfl,u1⟩
 have s1:Since w0 y1:=Since.trans (Since.start w0) u1
 refine hK.out _ _ (by assumption) (fun hHeld=>?_)
 clear hK K
 refine wpAnyH_take (i:=6) (oi:=⟨some 21,_,_,_,_,_⟩) (v:=.bool false) rfl (by kernel_rfl) (by kernel_rfl) (by kernel_rfl) (fun _ _ _ h=>h) (Or.inl ⟨by rfl,fun w hw=>by go_simp⟩) (by assumption) ?_
 simp only [Act.put,Qw2,Qw3,Qw4]
 refine wpAnyH_take (i:=7) (oi:=⟨some 22,_,_,_,_,_⟩) (v:=.bool false) rfl (by kernel_rfl) (by kernel_rfl) (by kernel_rfl) (fun _ _ _ h=>h) (Or.inl ⟨by rfl,fun w hw=>by go_simp⟩) (by assumption) ?_
 simp only [Act.put,Qw2,Qw3,Qw4]
 refine wpAnyH_done (by kernel_rfl) ?_ _
 have HS0:Hid _:=S0.keep s1.t
 clear RPl RC HN HP HL EW S0
 go_wp2_with fail
 refine bodyPost_end (results_none rfl _ _ _) rfl ?_
 exact⟨rfl,HS0.out⟩
theorem Qun (w wb:World) (bs bm bl ma:Nat) (P:List SV) (x:SD) (p:Bool×Int) (c:CV) (C:List CV) (a1 a3 a8:Option Addr) (n1 q1 n3 q3 n8 q8:Nat) (E:CE wb bs bm bl ma P [.int .u16 x.h.age,.int .u8 x.h.opts,.int .u8 x.h.typ,.int .u32 x.h.id,.int .u32 x.h.adv,.int .i32 x.h.seq,.int .u16 x.h.sum,.int .u16 x.h.len,.int .u8 x.b.flags,.slice a1 n1 q1,.int .u32 x.b.mask,.slice a3 n3 q3,.int .u32 x.b.metric,.bool x.b.type2,.int .u32 x.b.fwd,.int .u32 x.b.tag,.slice a8 n8 q8]) (S:CS wb w bl C) (hr:0≤p.2∧p.2<4294967296) (hid:0≤x.h.id∧x.h.id<4294967296) (hl:C.length≤4000000) (i:Nat) (hp:atP P p=some i) (hs:p≠x.h.pl) :
  Calls Tryz.prog 107 #[.agg #[.bool p.1,.int .u32 p.2],.agg #[.int .i64 0,.int .u32 c.e.cost,.int .u32 c.e.data,.bool c.e.virt,.int .u8 c.kind],.pointer (some ⟨bm,0,none⟩),.pointer (some ⟨bs,0,none⟩),.pointer (some ⟨bl,0,none⟩)] w fun e w'=>e=.returned (.tuple #[])∧CS wb w' bl (C++[⟨{ c.e with dst:=i },c.kind⟩]):=by
 obtain⟨w0,hw0⟩:∃u,u=(w.alloc (.cells #[.bool p.1,.int .u32 p.2] 127)).alloc (.cells #[.int .i64 0,.int .u32 c.e.cost,.int .u32 c.e.data,.bool c.e.virt,.int .u8 c.kind] 136):=⟨_,rfl⟩
 have t0:Touch (fun _=>False) w w0:=by rw [hw0];exact ((Touch.refl _ _).alloc _).alloc _
 have RPl:Row w0 w.heap.size 127 [.bool p.1,.int .u32 p.2]:=by rw [hw0];exact (Qac w _ _).keep ((Touch.refl _ _).alloc _)
 have RC:Row w0 (w.heap.size+1) 136 [.int .i64 0,.int .u32 c.e.cost,.int .u32 c.e.data,.bool c.e.virt,.int .u8 c.kind]:=by rw [hw0];have:=Qac (w.alloc (.cells #[.bool p.1,.int .u32 p.2] 127)) 136 #[.int .i64 0,.int .u32 c.e.cost,.int .u32 c.e.data,.bool c.e.virt,.int .u8 c.kind];rw [World.size_alloc] at this;exact this
 have HT0:Hid (Touch (fun _=>False) w w0):=t0
 have E0:=E.later S.t
 have S0w:=S.t.size
 have EW:=E0.keep t0
 have S0:=S.keep t0
 obtain⟨⟨v,s1v,s2v⟩,s3v,s4v⟩:=S
 have HVW:Hid (Row w bl 131 [v]∧w.ownsRow wb.heap.size 136 5 v C.length (claimC C)∧Touch (fun k=>k=bl) wb w∧bl<wb.heap.size∧∀k,v.ownBlock=some k→k<w.heap.size):=⟨s1v,s2v,s3v,s4v,fun k hk=>(s2v.lt k hk).2⟩
 clear s1v s2v s3v s4v
 have cb:=EW.box
 have p0:w0.cell? ⟨w.heap.size,0,none⟩=some (.bool p.1):=RPl.cell 0
 have p1:w0.cell? ⟨w.heap.size,1,none⟩=some (.int .u32 p.2):=RPl.cell 1
 have lb:=Qaa cb
 have lp:=Qaa p0
 have HL:=Qsq EW.map hp
 have HP:=fun w=>Qb9 x.h w
 have HN:=Qv4 w p x.h.pl hr hid
 unfold plV at HL HP HN
 have hd:decide (p≠x.h.pl)=true:=by simp [hs]
 rw [hd] at HN
 clear hd hs hp E t0 E0
 go_enter Tryz.func107,Tryz.ntmps107
 go_upto_region 1 with fail
 rw [←hw0]
 clear hw0
 have hg0:Hid (wb.heap.size≤w.heap.size∧w.heap.size+1<w0.heap.size∧w.heap.size<w.heap.size+1):=⟨S0w,RC.lt,by omega⟩
 generalize w.heap.size+1=g1 at *
 generalize w.heap.size=g0 at *
 go_wp2_with fail
 refine wp_region_held_drew (S:=fun w'=>Since w0 w') (by kernel_rfl) (Since.start w0) (fun hHeld=>?_)
 refine wpAnyH_take (i:=0) (oi:=⟨some 15,_,_,_,_,_⟩) (v:=.bool true) rfl (by kernel_rfl) (by kernel_rfl) (by kernel_rfl) (fun _ _ _ h=>h) (Or.inl ⟨by rfl,fun w hw=>by go_simp⟩) (by assumption) ?_
 simp only [Act.put,Qw2,Qw3,Qw4]
 refine wpAnyH_take (i:=1) (oi:=⟨some 16,_,_,_,_,_⟩) (v:=.bool true) rfl (by kernel_rfl) (by kernel_rfl) (by kernel_rfl) (fun _ _ _ h=>h) (Or.inl ⟨by rfl,fun w hw=>by go_simp⟩) (by assumption) ?_
 simp only [Act.put,Qw2,Qw3,Qw4]
 refine wpAnyH_take (i:=2) (oi:=⟨some 17,_,_,_,_,_⟩) (v:=.agg #[.bool p.1,.int .u32 p.2]) rfl (by kernel_rfl) (by kernel_rfl) (by kernel_rfl) (fun _ _ _ h=>h) (yieldsIf_load_mid (by rfl) _ _ rfl _ _ rfl [.bool p.1,.int .u32 p.2] _ (fun w h=>Qba (RPl.keep h.t)) Tryz.underlying127 rfl (by kernel_rfl)) (by assumption) ?_
 simp only [Act.put,Qw2,Qw3,Qw4]
 refine wpAnyH_take (i:=3) (oi:=⟨some 18,_,_,_,_,_⟩) (v:=.pointer (some ⟨bs,0,none⟩)) rfl (by kernel_rfl) (by kernel_rfl) (by kernel_rfl) (fun _ _ _ h=>h) (Or.inl ⟨by rfl,fun w hw=>by go_simp⟩) (by assumption) ?_
 simp only [Act.put,Qw2,Qw3,Qw4]
 refine wpAnyH_take (i:=4) (oi:=⟨some 19,_,_,_,_,_⟩) (v:=.agg #[.int .u16 x.h.age,.int .u8 x.h.opts,.int .u8 x.h.typ,.int .u32 x.h.id,.int .u32 x.h.adv,.int .i32 x.h.seq,.int .u16 x.h.sum,.int .u16 x.h.len]) rfl (by kernel_rfl) (by kernel_rfl) (by kernel_rfl) (fun _ _ _ h=>h) (yieldsIf_load_mid (by rfl) _ _ rfl _ _ rfl [.int .u16 x.h.age,.int .u8 x.h.opts,.int .u8 x.h.typ,.int .u32 x.h.id,.int .u32 x.h.adv,.int .i32 x.h.seq,.int .u16 x.h.sum,.int .u16 x.h.len] _ (fun w h=>Qdc (EW.row.keep h.t)) Tryz.underlying54 rfl (by kernel_rfl)) (by assumption) ?_
 simp only [Act.put,Qw2,Qw3,Qw4]
 refine wpAnyH_ready (rs:=[5]) (by kernel_rfl) (by simp) ?_
 refine AllReadyH.cons (o:=⟨some 20,_,_,_,_,_⟩) rfl (fun K hK=>?_) AllReadyH.nil
 go_simp
 refine Calls.mono (HP _) ?_
 rintro e y1 ⟨rfl,u1⟩
 have s1:Since w0 y1:=Since.trans (Since.start w0) u1
 refine hK.out _ _ (by assumption) (fun hHeld=>?_)
 clear hK K
 refine wpAnyH_take (i:=6) (oi:=⟨some 21,_,_,_,_,_⟩) (v:=.bool true) rfl (by kernel_rfl) (by kernel_rfl) (by kernel_rfl) (fun _ _ _ h=>h) (Or.inl ⟨by rfl,fun w hw=>by go_simp⟩) (by assumption) ?_
 simp only [Act.put,Qw2,Qw3,Qw4]
 refine wpAnyH_take (i:=7) (oi:=⟨some 22,_,_,_,_,_⟩) (v:=.bool true) rfl (by kernel_rfl) (by kernel_rfl) (by kernel_rfl) (fun _ _ _ h=>h) (Or.inl ⟨by rfl,fun w hw=>by go_simp⟩) (by assumption) ?_
 simp only [Act.put,Qw2,Qw3,Qw4]
 refine wpAnyH_done (by kernel_rfl) ?_ _
 have TY:Touch (fun _=>False) w y1:=HT0.out.trans s1.t
 have hv1:=HVW.out.1.keep TY
 have hv2:=Qab HVW.out.2.1 TY (fun _ _ h=>h)
 have hv3:=HVW.out.2.2.1.trans (TY.mono (fun _ _ h=>h.elim))
 have hv4:=HVW.out.2.2.2.1
 have R1:=RC.keep s1.t
 have hfa:=hv1.frozen 0
 have hfr:=R1.frozen
 have d0:y1.cell? ⟨g1,0,none⟩=some (.int .i64 0):=R1.cell 0
 have d1:y1.cell? ⟨g1,1,none⟩=some (.int .u32 c.e.cost):=R1.cell 1
 have d2:y1.cell? ⟨g1,2,none⟩=some (.int .u32 c.e.data):=R1.cell 2
 have d3:y1.cell? ⟨g1,3,none⟩=some (.bool c.e.virt):=R1.cell 3
 have d4:y1.cell? ⟨g1,4,none⟩=some (.int .u8 c.kind):=R1.cell 4
 have f0:y1.cell? ⟨bl,0,none⟩=some v:=hv1.cell 0
 obtain⟨va,vq,rfl⟩:=Qah hv2
 have ng:¬g1=bl:=by have:=hg0.out;omega
 have ng':¬bl=g1:=fun e=>ng e.symm
 have lg:g1<y1.heap.size:=R1.lt
 have lbl:bl<y1.heap.size:=hv1.lt
 have TS:Touch (fun k=>k=g1) y1 (y1.setCell ⟨g1,0,none⟩ (.int .i64 (i:Int))):=Touch.setCell (F:=fun k=>k=g1) (p:=⟨g1,0,none⟩) (Touch.refl _ _) (Or.inl rfl) _
 have R2:Row (y1.setCell ⟨g1,0,none⟩ (.int .i64 (i:Int))) g1 136 [.int .i64 (i:Int),.int .u32 c.e.cost,.int .u32 c.e.data,.bool c.e.virt,.int .u8 c.kind]:=R1.set 0 _
 obtain⟨y2,hy2⟩:∃u,u=y1.setCell ⟨g1,0,none⟩ (.int .i64 (i:Int)):=⟨_,rfl⟩
 rw [←hy2] at TS R2
 have HV:Hid (Row y2 bl 131 [.slice va C.length vq]∧y2.ownsRow wb.heap.size 136 5 (.slice va C.length vq) C.length (claimC C)∧Touch (fun k=>k=bl) wb y2):=by
  refine⟨Qad hv1 TS ng',?_,hv3.trans' TS (fun j hj e=>by have:=hg0.out;omega)⟩
  have hne:∀k,(Value.slice va C.length vq).ownBlock=some k→¬k=g1:=fun k hk e=>by have:=HVW.out.2.2.2.2 k hk;have:=hg0.out;omega
  exact Qab hv2 TS hne
 clear hv1 hv2 hv3 RPl RC HN HP HL EW S0 hfa f0
 go_upto_region 4 with fail
 rw [←hy2]
 clear hy2 d0 d1 d2 d3 d4 hfr
 have d0:y2.cell? ⟨g1,0,none⟩=some (.int .i64 (i:Int)):=R2.cell 0
 have d1:y2.cell? ⟨g1,1,none⟩=some (.int .u32 c.e.cost):=R2.cell 1
 have d2:y2.cell? ⟨g1,2,none⟩=some (.int .u32 c.e.data):=R2.cell 2
 have d3:y2.cell? ⟨g1,3,none⟩=some (.bool c.e.virt):=R2.cell 3
 have d4:y2.cell? ⟨g1,4,none⟩=some (.int .u8 c.kind):=R2.cell 4
 have f0:y2.cell? ⟨bl,0,none⟩=some (.slice va C.length vq):=HV.out.1.cell 0
 have lg2:g1<y2.heap.size:=R2.lt
 have lb2:bl<y2.heap.size:=HV.out.1.lt
 obtain⟨i0,hi,hz0,hz1,hz2⟩:=info_parts infoClm
 have RN:Row (y2.alloc (.cells #[.int .i64 (i:Int),.int .u32 c.e.cost,.int .u32 c.e.data,.bool c.e.virt,.int .u8 c.kind] 136)) y2.heap.size 136 [.int .i64 (i:Int),.int .u32 c.e.cost,.int .u32 c.e.data,.bool c.e.virt,.int .u8 c.kind]:=Qac _ _ _
 have HRN:Hid (∀(j:Nat) u,([.int .i64 (i:Int),.int .u32 c.e.cost,.int .u32 c.e.data,.bool c.e.virt,.int .u8 c.kind]:List Value)[j]?=some u→(y2.alloc (.cells #[.int .i64 (i:Int),.int .u32 c.e.cost,.int .u32 c.e.data,.bool c.e.virt,.int .u8 c.kind] 136)).cell? ((⟨y2.heap.size,0,none⟩:Addr).add j)=some u):=fun j u hj=>by
  rw [Qae,Nat.zero_add,RN.cell j]
  exact hj
 have TN:Touch (fun _=>False) y2 (y2.alloc (.cells #[.int .i64 (i:Int),.int .u32 c.e.cost,.int .u32 c.e.data,.bool c.e.virt,.int .u8 c.kind] 136)):=(Touch.refl _ _).alloc _
 have HON:Hid ((y2.alloc (.cells #[.int .i64 (i:Int),.int .u32 c.e.cost,.int .u32 c.e.data,.bool c.e.virt,.int .u8 c.kind] 136)).ownsRow wb.heap.size 136 5 (.slice va C.length vq) C.length (claimC C)):=Qab HV.out.2.1 TN (fun _ _ h=>h)
 have HB:Hid (Row (y2.alloc (.cells #[.int .i64 (i:Int),.int .u32 c.e.cost,.int .u32 c.e.data,.bool c.e.virt,.int .u8 c.kind] 136)) bl 131 [.slice va C.length vq]∧Touch (fun k=>k=bl) wb (y2.alloc (.cells #[.int .i64 (i:Int),.int .u32 c.e.cost,.int .u32 c.e.data,.bool c.e.virt,.int .u8 c.kind] 136))∧wb.heap.size≤(y2.alloc (.cells #[.int .i64 (i:Int),.int .u32 c.e.cost,.int .u32 c.e.data,.bool c.e.virt,.int .u8 c.kind] 136)).heap.size∧bl<wb.heap.size):=⟨HV.out.1.keep TN,HV.out.2.2.trans (TN.mono (fun _ _ h=>h.elim)),(HV.out.2.2.trans (TN.mono (fun _ _ h=>h.elim))).size,hv4⟩
 clear HV R2 RN TN hv4 TS TY s1 lg lbl
 go_wp2_with (at_builtin;refine wpList_append_own_at _ rfl _ _ 131 rfl wb.heap.size 136 i0 (.agg #[.int .i64 0,.int .u32 0,.int .u32 0,.bool false,.int .u8 0]) 5 32 Tryz.underlying131 hi hz0 hz1 hz2 rfl (by omega) (.slice va C.length vq) C.length (claimC C) rfl HON.out ⟨y2.heap.size,0,none⟩ 1 1 [.int .i64 (i:Int),.int .u32 c.e.cost,.int .u32 c.e.data,.bool c.e.virt,.int .u8 c.kind] rfl rfl HRN.out ?o1 ?o2 ?o3 ?o4 ?_)
 case o1=>intro u hu;simp at hu;rcases hu with rfl|rfl|rfl|rfl|rfl <;> rfl
 case o2=>unfold maxLen;omega
 case o3=>omega
 case o4=>exact HB.out.2.2.1
 intro v' w' hown hgr _ _
 have TG:Touch (fun k=>(Value.slice va C.length vq).ownBlock=some k) (y2.alloc (.cells #[.int .i64 (i:Int),.int .u32 c.e.cost,.int .u32 c.e.data,.bool c.e.virt,.int .u8 c.kind] 136)) w':=(Touch.refl _ _).grown hgr (fun k hk=>Or.inl hk)
 have hobl:¬(Value.slice va C.length vq).ownBlock=some bl:=fun e=>by have:=(HON.out.lt bl e).1;have:=HB.out.2.2.2;omega
 have RB:=Qad HB.out.1 TG hobl
 have f1:w'.cell? ⟨bl,0,none⟩=some (.slice va C.length vq):=RB.cell 0
 have hff:=RB.frozen 0
 have lbw:=RB.lt
 have HF:Hid (CS wb (w'.setCell ⟨bl,0,none⟩ v') bl (C++[⟨{ c.e with dst:=i },c.kind⟩])):=by
  refine⟨⟨v',RB.set 0 v',?_⟩,?_,HB.out.2.2.2⟩
  ·rw [List.length_append,Qgu]
   exact Qbf hown HB.out.2.2.2 v'
  ·refine Touch.setCell (F:=fun k=>k=bl) (p:=⟨bl,0,none⟩) ?_ (Or.inl rfl) v'
   exact HB.out.2.1.trans' TG (fun k hk e=>by have:=(HON.out.lt k e).1;omega)
 obtain⟨v1,v2,rfl⟩:=Qah hown
 clear RB TG hown hgr HB HON HRN hi hz0 hz1 hz2 d0 d1 d2 d3 d4 f0 lg2 lb2
 go_wp2_with fail
 refine bodyPost_end (results_none rfl _ _ _) rfl ?_
 exact⟨rfl,HF.out⟩
theorem Qnq (w wb:World) (bs bm bl ma:Nat) (P:List SV) (x:SD) (p:Bool×Int) (c:CV) (C:List CV) (a1 a3 a8:Option Addr) (n1 q1 n3 q3 n8 q8:Nat) (E:CE wb bs bm bl ma P [.int .u16 x.h.age,.int .u8 x.h.opts,.int .u8 x.h.typ,.int .u32 x.h.id,.int .u32 x.h.adv,.int .i32 x.h.seq,.int .u16 x.h.sum,.int .u16 x.h.len,.int .u8 x.b.flags,.slice a1 n1 q1,.int .u32 x.b.mask,.slice a3 n3 q3,.int .u32 x.b.metric,.bool x.b.type2,.int .u32 x.b.fwd,.int .u32 x.b.tag,.slice a8 n8 q8]) (S:CS wb w bl C) (hr:0≤p.2∧p.2<4294967296) (hid:0≤x.h.id∧x.h.id<4294967296) (hl:C.length≤4000000) :
  Calls Tryz.prog 107 #[.agg #[.bool p.1,.int .u32 p.2],.agg #[.int .i64 0,.int .u32 c.e.cost,.int .u32 c.e.data,.bool c.e.virt,.int .u8 c.kind],.pointer (some ⟨bm,0,none⟩),.pointer (some ⟨bs,0,none⟩),.pointer (some ⟨bl,0,none⟩)] w fun e w'=>e=.returned (.tuple #[])∧CS wb w' bl (C++clm P x.sv p c):=by
 unfold clm
 cases hp:atP P p with
 | none =>
  dsimp only
  rw [List.append_nil]
  exact Qqd w wb bs bm bl ma P x p c C a1 a3 a8 n1 q1 n3 q3 n8 q8 E S hr hid hl hp
 | some i =>
  dsimp only
  by_cases hs:p=x.sv.pl
  ·rw [if_pos hs,List.append_nil]
   exact Qqh w wb bs bm bl ma P x p c C a1 a3 a8 n1 q1 n3 q3 n8 q8 E S hr hid hl i hp hs
  ·rw [if_neg hs]
   exact Qun w wb bs bm bl ma P x p c C a1 a3 a8 n1 q1 n3 q3 n8 q8 E S hr hid hl i hp hs
theorem Qd3 (P:List SV) (x:SV) (p:Bool×Int) (c:CV):(clm P x p c).length≤1:=by
 unfold clm
 split
 ·split <;> simp
 ·simp
theorem Qdm (P:List SV) (x:SV) (k:LV):(clmL P x k).length≤1:=by
 unfold clmL
 split
 ·exact Qd3 _ _ _ _
 ·split
  ·exact Qd3 _ _ _ _
  ·simp
theorem Qbv {α β:Type} (f:α→List β) (h:∀a,(f a).length≤1):∀l:List α,(l.flatMap f).length≤l.length
 | []=>by simp
 | a::l=>by
  have h1:=h a
  have h2:=Qbv f h l
  rw [List.flatMap_cons,List.length_append,List.length_cons]
  omega
theorem Qez {α β:Type} (f:α→List β) {l:List α} {k:Nat} {a:α} (h:l[k]?=some a):(l.take (k+1)).flatMap f=(l.take k).flatMap f++f a:=by
 rw [List.take_add_one,h,List.flatMap_append]
 simp
theorem Qoz (P:List SV) (x:SV) {l:List LV} {k:Nat} {y:LV} (h:l[k]?=some y):(l.take (k+1)).flatMap (clmL P x)=(l.take k).flatMap (clmL P x)++clmL P x y:=Qez _ h
theorem Qvf (P:List SV) (x:SV) (id data cost:Int):clmL P x ⟨id,data,1,cost⟩=clm P x (false,id) ⟨⟨0,cost,data,false⟩,1⟩:=by unfold clmL;rw [if_pos (Or.inl rfl)];rfl
theorem Qwl (P:List SV) (x:SV) (id data cost:Int):clmL P x ⟨id,data,4,cost⟩=clm P x (false,id) ⟨⟨0,cost,data,true⟩,4⟩:=by unfold clmL;rw [if_pos (Or.inr rfl)];rfl
theorem Qvh (P:List SV) (x:SV) (id data cost:Int):clmL P x ⟨id,data,2,cost⟩=clm P x (true,id) ⟨⟨0,cost,data,false⟩,2⟩:=by unfold clmL;rw [if_neg (by simp),if_pos rfl];rfl
theorem Qvm (P:List SV) (x:SV) (id data typ cost:Int) (h1:¬typ=1) (h4:¬typ=4) (h2:¬typ=2):clmL P x ⟨id,data,typ,cost⟩=[]:=by unfold clmL;rw [if_neg (by simp [h1,h4]),if_neg h2]
structure ClP (w:World) (P:List SV) (x:SV) (e:Ending) (w':World):Prop where
 out:∃v,e=.returned v∧w'.ownsRow w.heap.size 136 5 v (clms P x).length (claimC (clms P x))
 t:Touch (fun _=>False) w w'
theorem Qlj (w:World) (ma:Nat) (P:List SV) (x:SD) (ok:x.Ok w) (hm:AM w 127 ma (atL P)) (a1 a3 a8:Option Addr) (q1 q3 q8:Nat) (e1:x.vl=.slice a1 x.b.links.length q1) (e3:x.vr=.slice a3 x.b.routers.length q3) (e8:x.vd=.slice a8 x.b.data.length q8) :
  Calls Tryz.prog 54 #[.agg #[.int .u16 x.h.age,.int .u8 x.h.opts,.int .u8 x.h.typ,.int .u32 x.h.id,.int .u32 x.h.adv,.int .i32 x.h.seq,.int .u16 x.h.sum,.int .u16 x.h.len,.int .u8 x.b.flags,.slice a1 x.b.links.length q1,.int .u32 x.b.mask,.slice a3 x.b.routers.length q3,.int .u32 x.b.metric,.bool x.b.type2,.int .u32 x.b.fwd,.int .u32 x.b.tag,.slice a8 x.b.data.length q8],.map (some ma)] w (ClP w P x.sv):=by
 obtain⟨wb,hwb⟩:∃u,u=((w.alloc (.cells #[.int .u16 x.h.age,.int .u8 x.h.opts,.int .u8 x.h.typ,.int .u32 x.h.id,.int .u32 x.h.adv,.int .i32 x.h.seq,.int .u16 x.h.sum,.int .u16 x.h.len,.int .u8 x.b.flags,.slice a1 x.b.links.length q1,.int .u32 x.b.mask,.slice a3 x.b.routers.length q3,.int .u32 x.b.metric,.bool x.b.type2,.int .u32 x.b.fwd,.int .u32 x.b.tag,.slice a8 x.b.data.length q8] 125)).alloc (.cells #[.map (some ma)] 123)).alloc (.cells #[.slice none 0 0] 131):=⟨_,rfl⟩
 have tb:Touch (fun _=>False) w wb:=by rw [hwb];exact (((Touch.refl _ _).alloc _).alloc _).alloc _
 have zb:wb.heap.size=w.heap.size+3:=by rw [hwb];simp
 have RS:Row wb w.heap.size 125 [.int .u16 x.h.age,.int .u8 x.h.opts,.int .u8 x.h.typ,.int .u32 x.h.id,.int .u32 x.h.adv,.int .i32 x.h.seq,.int .u16 x.h.sum,.int .u16 x.h.len,.int .u8 x.b.flags,.slice a1 x.b.links.length q1,.int .u32 x.b.mask,.slice a3 x.b.routers.length q3,.int .u32 x.b.metric,.bool x.b.type2,.int .u32 x.b.fwd,.int .u32 x.b.tag,.slice a8 x.b.data.length q8]:=by rw [hwb];exact ((Qac w _ _).keep ((Touch.refl _ _).alloc _)).keep ((Touch.refl _ _).alloc _)
 have BX:wb.cell? ⟨w.heap.size+1,0,none⟩=some (.map (some ma)):=by rw [hwb];simp [go_sem]
 have RL:Row wb (w.heap.size+2) 131 [.slice none 0 0]:=by
  rw [hwb]
  have:=Qac ((w.alloc (.cells #[.int .u16 x.h.age,.int .u8 x.h.opts,.int .u8 x.h.typ,.int .u32 x.h.id,.int .u32 x.h.adv,.int .i32 x.h.seq,.int .u16 x.h.sum,.int .u16 x.h.len,.int .u8 x.b.flags,.slice a1 x.b.links.length q1,.int .u32 x.b.mask,.slice a3 x.b.routers.length q3,.int .u32 x.b.metric,.bool x.b.type2,.int .u32 x.b.fwd,.int .u32 x.b.tag,.slice a8 x.b.data.length q8] 125)).alloc (.cells #[.map (some ma)] 123)) 131 #[.slice none 0 0]
  simpa using this
 have hml:=hm.lt
 have E:CE wb w.heap.size (w.heap.size+1) (w.heap.size+2) ma P [.int .u16 x.h.age,.int .u8 x.h.opts,.int .u8 x.h.typ,.int .u32 x.h.id,.int .u32 x.h.adv,.int .i32 x.h.seq,.int .u16 x.h.sum,.int .u16 x.h.len,.int .u8 x.b.flags,.slice a1 x.b.links.length q1,.int .u32 x.b.mask,.slice a3 x.b.routers.length q3,.int .u32 x.b.metric,.bool x.b.type2,.int .u32 x.b.fwd,.int .u32 x.b.tag,.slice a8 x.b.data.length q8]:=⟨RS,BX,hm.keepN tb,by omega,by omega,by omega⟩
 have HE:Hid (CE wb w.heap.size (w.heap.size+1) (w.heap.size+2) ma P [.int .u16 x.h.age,.int .u8 x.h.opts,.int .u8 x.h.typ,.int .u32 x.h.id,.int .u32 x.h.adv,.int .i32 x.h.seq,.int .u16 x.h.sum,.int .u16 x.h.len,.int .u8 x.b.flags,.slice a1 x.b.links.length q1,.int .u32 x.b.mask,.slice a3 x.b.routers.length q3,.int .u32 x.b.metric,.bool x.b.type2,.int .u32 x.b.fwd,.int .u32 x.b.tag,.slice a8 x.b.data.length q8]):=E
 have S0:Hid (CS wb wb (w.heap.size+2) ((x.b.links.take 0).flatMap (clmL P x.sv))):=⟨⟨_,RL,World.ownsRow_nil _ _ _ _⟩,Touch.refl _ _,by omega⟩
 have HLk:Hid (∀w',Touch (fun k=>k=w.heap.size+2) wb w'→LinksAt w' (.slice a1 x.b.links.length q1) x.b.links∧WordsAt w' (.slice a3 x.b.routers.length q3) x.b.routers):=fun w' t=>by
  have tw:Touch (fun _=>False) w w':=tb.trans' t (fun i hi e=>by omega)
  have h1:=ok.arg.l.keep tw
  have h3:=ok.arg.r.keep tw
  rw [e1] at h1
  rw [e3] at h3
  exact⟨h1,h3⟩
 have HRg:Hid (x.b.Rg):=ok.kn.rg
 have hid:Hid (0≤x.h.id∧x.h.id<4294967296):=ok.kn.all.i
 have HTb:Hid (Touch (fun _=>False) w wb):=tb
 have hnl:(x.b.links.length:Int)≤65536:=by have:=ok.kn.rg.nl;omega
 have hnr:(x.b.routers.length:Int)≤65536:=by have:=ok.kn.rg.nr;omega
 have c9:wb.cell? ⟨w.heap.size,9,none⟩=some (.slice a1 x.b.links.length q1):=RS.cell 9
 have ls:=RS.lt
 clear ok hm RS BX RL tb zb e1 e3 e8 E
 go_enter Tryz.func54,Tryz.ntmps54
 go_upto_region 3 with fail
 rw [←hwb]
 clear hwb
 have HZ:Hid (w.heap.size≤w.heap.size∧w.heap.size<w.heap.size+2∧w.heap.size+1<w.heap.size+2):=⟨Nat.le_refl _,by omega,by omega⟩
 generalize hbl:w.heap.size+2=bl at *
 generalize hbm:w.heap.size+1=bm at *
 generalize hbs:w.heap.size=bs at *
 have HW:Hid (w.heap.size=bs):=hbs
 clear hbl hbm hbs
 go_wp2_with fail
 go_loopw [17] (fun i wr=>∃k:Nat,k≤x.b.links.length∧i=.int .i64 k∧CS wb wr bl ((x.b.links.take k).flatMap (clmL P x.sv))) (fun i _=>x.b.links.length-(intOf i).toNat)
 case atStart=>exact⟨0,Nat.zero_le _,rfl,S0.out⟩
 case round =>
  obtain⟨j,hk,rfl,cs⟩:=hrel
  have HC:Hid (CS wb wr bl ((x.b.links.take j).flatMap (clmL P x.sv))):=cs
  have hlC:Hid (((x.b.links.take j).flatMap (clmL P x.sv)).length≤4000000):=by have:=Qbv _ (Qdm P x.sv) (x.b.links.take j);have:=List.length_take_le j x.b.links;show _≤4000000;omega
  clear cs S0 c9
  by_cases hlt:j<x.b.links.length
  ·have hlt':(j:Int)<(x.b.links.length:Int):=by omega
   obtain⟨y,hy⟩:∃y,x.b.links[j]?=some y:=⟨x.b.links[j],by simp [hlt]⟩
   have HS:=Qoz P x.sv hy
   have HST:Hid _:=HS
   have yk:=HRg.out.l y (List.mem_of_getElem? hy)
   obtain⟨g,off,qc,eg,-,-,hc⟩:=ValsAt.cells (HLk.out wr HC.out.t).1 (by omega) (by omega)
   simp only [Value.slice.injEq] at eg
   obtain⟨rfl,-,rfl⟩:=eg
   have hcc:∀i u,i<4→y.cells[i]?=some u→wr.cell? ⟨g,off+(j*4+i),none⟩=some u:=fun i u hi hu=>hc (j*4+i) u (by rw [Qbs x.b.links j i y hy hi];exact hu)
   obtain⟨yi,yd,yt,yc⟩:=y
   obtain⟨⟨i0,i1⟩,⟨d0,d1⟩,⟨t0,t1⟩,⟨c0,c1⟩⟩:=yk
   dsimp only at i0 i1 d0 d1 t0 t1 c0 c1
   have z0:wr.cell? ⟨g,off+j*4,none⟩=some (.int .u32 yi):=hcc 0 _ (by omega) rfl
   have z1:wr.cell? ⟨g,off+j*4+1,none⟩=some (.int .u32 yd):=by rw [Nat.add_assoc];exact hcc 1 _ (by omega) rfl
   have z2:wr.cell? ⟨g,off+j*4+2,none⟩=some (.int .u8 yt):=by rw [Nat.add_assoc];exact hcc 2 _ (by omega) rfl
   have z3:wr.cell? ⟨g,off+j*4+3,none⟩=some (.int .u16 yc):=by rw [Nat.add_assoc];exact hcc 3 _ (by omega) rfl
   have hlw:=Qaa z0
   clear hc hcc HS hy HLk
   have HADD:Hid (∀(q:Bool) (v:Bool) (kd:Int) w',Touch (fun _=>False) wr w'→Calls Tryz.prog 107 #[.agg #[.bool q,.int .u32 yi],.agg #[.int .i64 0,.int .u32 yc,.int .u32 yd,.bool v,.int .u8 kd],.pointer (some ⟨bm,0,none⟩),.pointer (some ⟨bs,0,none⟩),.pointer (some ⟨bl,0,none⟩)] w' fun e w''=>e=.returned (.tuple #[])∧CS wb w'' bl ((x.b.links.take j).flatMap (clmL P x.sv)++clm P x.sv (q,yi) ⟨⟨0,yc,yd,v⟩,kd⟩)):=fun q v kd w' t=>Qnq w' wb bs bm bl ma P x (q,yi) ⟨⟨0,yc,yd,v⟩,kd⟩ _ _ _ _ _ _ _ _ _ _ HE.out (HC.out.keep t) ⟨i0,i1⟩ hid.out hlC.out
   rcases (by omega:yt=1∨yt=4∨yt=2∨(¬yt=1∧¬yt=4∧¬yt=2)) with ht|ht|ht|⟨ht1,ht4,ht2⟩
   ·subst ht
    have HA:=HADD.out false false 1 _ ((((Touch.refl _ wr).alloc (.cells #[.int .u32 yi,.int .u32 yd,.int .u8 1,.int .u16 yc] 115)).alloc (.cells #[.int .i64 0,.int .u32 yc,.int .u32 yd,.bool false,.int .u8 1] 136)))
    rw [Qvf] at HST
    clear HADD hlC HC
    go_wp2_with fail
    refine HA.mono ?_
    rintro e w1 ⟨rfl,cs1⟩
    have HC1:Hid _:=cs1
    clear cs1 HA z0 z1 z2 z3 hlw
    go_wp2_with fail
    go_roundw
    case rel=>exact⟨j+1,by omega,by go_num,by rw [HST.out];exact HC1.out⟩
    case measure=>simp [intOf];omega
   ·subst ht
    have HA:=HADD.out false true 4 _ ((((Touch.refl _ wr).alloc (.cells #[.int .u32 yi,.int .u32 yd,.int .u8 4,.int .u16 yc] 115)).alloc (.cells #[.int .i64 0,.int .u32 yc,.int .u32 yd,.bool true,.int .u8 4] 136)))
    rw [Qwl] at HST
    clear HADD hlC HC
    go_wp2_with fail
    refine HA.mono ?_
    rintro e w1 ⟨rfl,cs1⟩
    have HC1:Hid _:=cs1
    clear cs1 HA z0 z1 z2 z3 hlw
    go_wp2_with fail
    go_roundw
    case rel=>exact⟨j+1,by omega,by go_num,by rw [HST.out];exact HC1.out⟩
    case measure=>simp [intOf];omega
   ·subst ht
    have HA:=HADD.out true false 2 _ ((((Touch.refl _ wr).alloc (.cells #[.int .u32 yi,.int .u32 yd,.int .u8 2,.int .u16 yc] 115)).alloc (.cells #[.int .i64 0,.int .u32 yc,.int .u32 yd,.bool false,.int .u8 2] 136)))
    rw [Qvh] at HST
    clear HADD hlC HC
    go_wp2_with fail
    refine HA.mono ?_
    rintro e w1 ⟨rfl,cs1⟩
    have HC1:Hid _:=cs1
    clear cs1 HA z0 z1 z2 z3 hlw
    go_wp2_with fail
    go_roundw
    case rel=>exact⟨j+1,by omega,by go_num,by rw [HST.out];exact HC1.out⟩
    case measure=>simp [intOf];omega
   ·rw [Qvm _ _ _ _ _ _ ht1 ht4 ht2,List.append_nil] at HST
    have b1:(yt==1)=false:=by simpa using ht1
    have b4:(yt==4)=false:=by simpa using ht4
    have b2:(yt==2)=false:=by simpa using ht2
    have HC1:Hid (CS wb ((wr.alloc (.cells #[.int .u32 yi,.int .u32 yd,.int .u8 yt,.int .u16 yc] 115)).alloc (.cells #[.int .i64 0,.int .u32 yc,.int .u32 yd,.bool false,.int .u8 yt] 136)) bl ((x.b.links.take j).flatMap (clmL P x.sv))):=HC.out.keep (((Touch.refl _ wr).alloc _).alloc _)
    clear HADD hlC HC
    go_wp2_with fail
    go_roundw
    case rel=>exact⟨j+1,by omega,by go_num,by rw [HST.out];exact HC1.out⟩
    case measure=>simp [intOf];omega
  ·have hlt':¬(j:Int)<(x.b.links.length:Int):=by omega
   obtain rfl:j=x.b.links.length:=by omega
   have c11:wr.cell? ⟨bs,11,none⟩=some (.slice a3 x.b.routers.length q3):=(HE.out.later HC.out.t).row.cell 11
   have lsr:=Qaa c11
   have S1:Hid (CS wb wr bl (x.b.links.flatMap (clmL P x.sv)++(x.b.routers.take 0).flatMap (fun r=>clm P x.sv (false,r) rtr))):=by have:=HC.out;rw [List.take_length] at this;show CS wb wr bl _;simpa using this
   clear HC hlC
   go_wp2_with fail
   go_loopw [57] (fun i wr=>∃k:Nat,k≤x.b.routers.length∧i=.int .i64 k∧CS wb wr bl (x.b.links.flatMap (clmL P x.sv)++(x.b.routers.take k).flatMap (fun r=>clm P x.sv (false,r) rtr))) (fun i _=>x.b.routers.length-(intOf i).toNat)
   case atStart=>exact⟨0,Nat.zero_le _,rfl,S1.out⟩
   case round =>
    obtain⟨j,hk,rfl,cs⟩:=hrel
    have HC:Hid (CS wb wr bl (x.b.links.flatMap (clmL P x.sv)++(x.b.routers.take j).flatMap (fun r=>clm P x.sv (false,r) rtr))):=cs
    have hlC:Hid ((x.b.links.flatMap (clmL P x.sv)++(x.b.routers.take j).flatMap (fun r=>clm P x.sv (false,r) rtr)).length≤4000000):=by
     have h1:=Qbv _ (Qdm P x.sv) x.b.links
     have h2:=Qbv _ (fun r=>Qd3 P x.sv (false,r) rtr) (x.b.routers.take j)
     have h3:=List.length_take_le j x.b.routers
     show _≤4000000
     rw [List.length_append]
     omega
    clear cs S1 c11
    by_cases hlt:j<x.b.routers.length
    ·have hlt':(j:Int)<(x.b.routers.length:Int):=by omega
     obtain⟨y,hy⟩:∃y,x.b.routers[j]?=some y:=⟨x.b.routers[j],by simp [hlt]⟩
     have HST:Hid _:=Qez (fun r=>clm P x.sv (false,r) rtr) hy
     have yk:=HRg.out.r y (List.mem_of_getElem? hy)
     obtain⟨g,off,qc,eg,-,-,hc⟩:=ValsAt.cells (HLk.out wr HC.out.t).2 (by omega) (by omega)
     simp only [Value.slice.injEq] at eg
     obtain⟨rfl,-,rfl⟩:=eg
     have z0:wr.cell? ⟨g,off+j,none⟩=some (.int .u32 y):=hc j _ (by simp [wordsC,hy])
     have hlw:=Qaa z0
     have HADD:=Qnq wr wb bs bm bl ma P x (false,y) rtr _ _ _ _ _ _ _ _ _ _ HE.out HC.out yk hid.out hlC.out
     clear hc hy HLk hlC
     unfold rtr at HADD
     go_wp2_with fail
     refine HADD.mono ?_
     rintro e w1 ⟨rfl,cs1⟩
     have HC1:Hid _:=cs1
     clear cs1 HADD z0 hlw
     go_wp2_with fail
     go_roundw
     case rel=>exact⟨j+1,by omega,by go_num,by rw [HST.out,←List.append_assoc];exact HC1.out⟩
     case measure=>simp [intOf];omega
    ·have hlt':¬(j:Int)<(x.b.routers.length:Int):=by omega
     obtain rfl:j=x.b.routers.length:=by omega
     have cs:=HC.out
     rw [List.take_length] at cs
     obtain⟨⟨v,h1,h2⟩,h3,h4⟩:=cs
     have f0:wr.cell? ⟨bl,0,none⟩=some v:=h1.cell 0
     have lbw:=h1.lt
     have hZ:=HZ.out
     have hW:=HW.out
     have HF:Hid (ClP w P x.sv (.returned v) wr):=⟨⟨v,rfl,Qam h2 HTb.out.size⟩,HTb.out.trans' h3 (fun i hi e=>by omega)⟩
     obtain⟨v1,v2,rfl⟩:=Qah h2
     clear h1 h2 h3 h4 HC hlC
     generalize (x.b.links.flatMap (clmL P x.sv)++x.b.routers.flatMap (fun r=>clm P x.sv (false,r) rtr)).length=nn at f0 HF
     go_wp2_with fail
     go_ret
     exact HF.out
end Go.Proofs.YtddbffoiadmffaaGreat
