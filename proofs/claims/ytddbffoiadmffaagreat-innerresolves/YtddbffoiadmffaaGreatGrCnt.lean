import Derived.Test.YtddbffoiadmffaaGreatGrSmall
import Derived.Deep.LoopGhost
namespace Go.Proofs.YtddbffoiadmffaaGreat
set_option maxHeartbeats 8000000
open Go.RowKit
set_option linter.unusedVariables false
set_option maxRecDepth 100000
def stZ:Value:=.agg #[.int .u16 0,.int .u8 0,.int .u8 0,.int .u32 0,.int .u32 0,.int .i32 0,.int .u16 0,.int .u16 0,.slice none 0 0]
theorem lawP:WideMaps.KeyLaw Tryz.prog 127:=Go.deep_law (m:=2) (by omega) (by kernel_rfl) (by kernel_rfl) (by kernel_rfl)
theorem kindB:MK 127 197 57 stZ:=⟨lawP,Tryz.underlying197,fun _=>rfl⟩
theorem Qft (p:Bool×Int) (h0:0≤p.2) (h1:p.2<4294967296):∃l,Go.keyOf Tryz.prog 127 (plV p)=some l:=by
 obtain⟨a,b⟩:=p
 dsimp only at h0 h1
 unfold plV
 dsimp only
 have h2:(Lit.int .u32 b).wf=true:=by simp [Lit.wf,IntKind.min,IntKind.max,IntKind.bits,IntKind.signed];omega
 have hc3:Tryz.prog.cellsOf 127=2:=by kernel_rfl
 have c8:Tryz.prog.cellsOf 4=1:=by kernel_rfl
 have c32:Tryz.prog.cellsOf 23=1:=by kernel_rfl
 have hkt:Tryz.prog.keyType 127=true:=by kernel_rfl
 have hpos:0<Tryz.prog.types.size:=of_decide_eq_true (by kernel_rfl)
 obtain⟨d,hd⟩:∃d,Tryz.prog.types.size=d+1:=⟨Tryz.prog.types.size-1,by omega⟩
 have hf:(Value.agg #[.bool a,.int .u32 b]).formed Tryz.prog 127=true:=by simp [Value.formed,Tryz.underlying127,hc3]
 have hL:∃L,Tryz.prog.keyLits (d+1+1) 127 [.bool a,.int .u32 b]=some L:=by
  simp [Program.keyLits,Tryz.underlying127,hc3,c8,c32,Tryz.underlying4,Tryz.underlying23,h2]
 obtain⟨L,hL⟩:=hL
 refine⟨.string (keyBytes L),?_⟩
 unfold Go.keyOf
 simp only [Tryz.underlying127,hkt,hf,Bool.and_self,if_true,hd]
 rw [show (Value.agg #[.bool a,.int .u32 b]).cells.toList=[.bool a,.int .u32 b] from rfl,hL]
 rfl
theorem Qe3 {p q:Bool×Int} (h:plV p=plV q):p=q:=by
 obtain⟨a,b⟩:=p
 obtain⟨c,d⟩:=q
 simp [plV] at h
 exact Prod.ext h.1 h.2
def bestL (B:List SE):List (Value×Value):=B.map (fun y=>(plV y.h.pl,y.h.sv y.v))
def q4 (B:List SE) (h:HV):Bool :=
 match plAt B h.pl with
 | some j=>B[j]?.any (fun y=>decide (y.h.adv<h.adv))
 | none=>true
theorem Qow {w:World} {m:Nat} {B:List SE} {p:Bool×Int} (h:AM w 127 m (bestL B)) (h0:0≤p.2) (h1:p.2<4294967296) (hp:plAt B p=none) :
  (Instr.lookup 197 (.map (some m)) (plV p) true).run Tryz.prog w=.ok (.tuple #[stZ,.bool false]) w:=by
 obtain⟨q,hq⟩:=Qft p h0 h1
 refine AM.miss kindB h hq (fun e he=>?_)
 obtain⟨y,hy,rfl⟩:=List.mem_map.1 he
 exact fun e=>Qfc hp y hy (Qe3 e)
theorem Qr6 {w:World} {m:Nat} {B:List SE} {p:Bool×Int} {j:Nat} {y:SE} (h:AM w 127 m (bestL B)) (hj:B[j]?=some y) (hp:y.h.pl=p) :
  (Instr.lookup 197 (.map (some m)) (plV p) true).run Tryz.prog w=.ok (.tuple #[y.h.sv y.v,.bool true]) w :=
 AM.hit kindB h (j:=j) (by unfold bestL;rw [List.getElem?_map,hj];subst hp;rfl)
theorem Qtu (h:HV) (ok:h.All) (a:Option Addr) (n c:Nat) (w:World) (bb m:Nat) (B:List SE) (hp:plAt B h.pl=none) (hb:w.cell? ⟨bb,0,none⟩=some (.map (some m))) (hm:AM w 127 m (bestL B)):Calls Tryz.prog 101 #[h.sv (.slice a n c),.pointer (some ⟨bb,0,none⟩)] w fun e w'=>e=.returned (.bool true)∧Touch (fun _=>False) w w':=by
 have HP:=fun w=>Qb9 h w
 unfold HV.sv at *
 obtain⟨w0,hw0⟩:∃x,x=w.alloc (.cells #[.int .u16 h.age,.int .u8 h.opts,.int .u8 h.typ,.int .u32 h.id,.int .u32 h.adv,.int .i32 h.seq,.int .u16 h.sum,.int .u16 h.len,.slice a n c] 57):=⟨_,rfl⟩
 have t0:Touch (fun _=>False) w w0:=by rw [hw0];exact (Touch.refl _ _).alloc _
 have T0:Hid (Touch (fun _=>False) w w0):=t0
 have R0:Row w0 w.heap.size 57 [.int .u16 h.age,.int .u8 h.opts,.int .u8 h.typ,.int .u32 h.id,.int .u32 h.adv,.int .i32 h.seq,.int .u16 h.sum,.int .u16 h.len,.slice a n c]:=by rw [hw0];exact Qac _ _ _
 have c0:=Qf4 (t0.cellN hb)
 have HR:∀w',Since w0 w'→Row w' w.heap.size 57 [.int .u16 h.age,.int .u8 h.opts,.int .u8 h.typ,.int .u32 h.id,.int .u32 h.adv,.int .i32 h.seq,.int .u16 h.sum,.int .u16 h.len,.slice a n c]:=fun w' s=>R0.keep s.t
 have HL:∀w',Since w0 w'→(Instr.lookup 197 (.map (some m)) (plV h.pl) true).run Tryz.prog w'=.ok (.tuple #[.agg #[.int .u16 0,.int .u8 0,.int .u8 0,.int .u32 0,.int .u32 0,.int .i32 0,.int .u16 0,.int .u16 0,.slice none 0 0],.bool false]) w':=fun w' s=>Qow (hm.keepN (t0.trans s.t)) ok.i.1 ok.i.2 hp
 have hz:Hid (w.heap.size<w0.heap.size):=R0.lt
 unfold plV at HL HP
 clear hb hm t0 ok R0
 go_enter Tryz.func101,Tryz.ntmps101
 go_upto_region 1 with fail
 rw [←hw0]
 clear hw0
 have HG:Hid (∀k,w.heap.size≤k→w.heap.size≤k):=fun _ h=>h
 generalize w.heap.size=g0 at *
 refine wp_region_held_drew (S:=fun w'=>Since w0 w') (by kernel_rfl) (Since.start w0) (fun hHeld=>?_)
 refine wpAnyH_take (i:=0) (oi:=⟨some 7,_,_,_,_,_⟩) (v:=.map (some m)) rfl (by kernel_rfl) (by kernel_rfl) (by kernel_rfl) (fun _ _ _ h=>h) (Or.inl ⟨by rfl,fun w hw=>by go_simp⟩) (by assumption) ?_
 simp only [Act.put,Qw2,Qw3,Qw4]
 refine wpAnyH_take (i:=1) (oi:=⟨some 8,_,_,_,_,_⟩) (v:=.pointer (some ⟨g0,0,none⟩)) rfl (by kernel_rfl) (by kernel_rfl) (by kernel_rfl) (fun _ _ _ h=>h) (Or.inl ⟨by rfl,fun w hw=>by go_simp⟩) (by assumption) ?_
 simp only [Act.put,Qw2,Qw3,Qw4]
 refine wpAnyH_take (i:=2) (oi:=⟨some 9,_,_,_,_,_⟩) (v:=.agg #[.int .u16 h.age,.int .u8 h.opts,.int .u8 h.typ,.int .u32 h.id,.int .u32 h.adv,.int .i32 h.seq,.int .u16 h.sum,.int .u16 h.len]) rfl (by kernel_rfl) (by kernel_rfl) (by kernel_rfl) (fun _ _ _ h=>h) (yieldsIf_load_mid (by rfl) _ _ rfl _ _ rfl [.int .u16 h.age,.int .u8 h.opts,.int .u8 h.typ,.int .u32 h.id,.int .u32 h.adv,.int .i32 h.seq,.int .u16 h.sum,.int .u16 h.len] _ (fun w h=>Qdc (HR w h)) Tryz.underlying54 rfl (by kernel_rfl)) (by assumption) ?_
 simp only [Act.put,Qw2,Qw3,Qw4]
 refine wpAnyH_ready (rs:=[3,8]) (by kernel_rfl) (by simp) ?_
 refine AllReadyH.cons (o:=⟨some 10,_,_,_,_,_⟩) rfl (fun K hK=>?_) (AllReadyH.cons (o:=⟨some 4,_,_,_,_,_⟩) rfl (fun K hK=>?_) AllReadyH.nil)
 ·skip
  go_simp
  refine Calls.mono (HP _) ?_
  rintro e y1 ⟨rfl,u1⟩
  have s1:Since w0 y1:=Since.trans (Since.start w0) u1
  refine hK.out _ _ (by assumption) (fun hHeld=>?_)
  clear hK K
  refine wpAnyH_take (i:=4) (oi:=⟨some 11,_,_,_,_,_⟩) (v:=.tuple #[.agg #[.int .u16 0,.int .u8 0,.int .u8 0,.int .u32 0,.int .u32 0,.int .i32 0,.int .u16 0,.int .u16 0,.slice none 0 0],.bool false]) rfl (by kernel_rfl) (by kernel_rfl) (by kernel_rfl) (fun _ _ _ h=>h) (Or.inl ⟨by rfl,fun w hw=>by go_simp⟩) (by assumption) ?_
  simp only [Act.put,Qw2,Qw3,Qw4]
  refine wpAnyH_take (i:=5) (oi:=⟨some 6,_,_,_,_,_⟩) (v:=.tuple #[.agg #[.int .u16 0,.int .u8 0,.int .u8 0,.int .u32 0,.int .u32 0,.int .i32 0,.int .u16 0,.int .u16 0,.slice none 0 0],.bool false]) rfl (by kernel_rfl) (by kernel_rfl) (by kernel_rfl) (fun _ _ _ h=>h) (Or.inl ⟨by rfl,fun w hw=>by go_simp⟩) (by assumption) ?_
  simp only [Act.put,Qw2,Qw3,Qw4]
  refine wpAnyH_take (i:=6) (oi:=⟨some 12,_,_,_,_,_⟩) (v:=.agg #[.int .u16 0,.int .u8 0,.int .u8 0,.int .u32 0,.int .u32 0,.int .i32 0,.int .u16 0,.int .u16 0,.slice none 0 0]) rfl (by kernel_rfl) (by kernel_rfl) (by kernel_rfl) (fun _ _ _ h=>h) (Or.inl ⟨by rfl,fun w hw=>by go_simp⟩) (by assumption) ?_
  simp only [Act.put,Qw2,Qw3,Qw4]
  refine wpAnyH_take (i:=7) (oi:=⟨some 13,_,_,_,_,_⟩) (v:=.bool false) rfl (by kernel_rfl) (by kernel_rfl) (by kernel_rfl) (fun _ _ _ h=>h) (Or.inl ⟨by rfl,fun w hw=>by go_simp⟩) (by assumption) ?_
  simp only [Act.put,Qw2,Qw3,Qw4]
  refine wpAnyH_ready (rs:=[8]) (by kernel_rfl) (by simp) ?_
  refine AllReadyH.cons (o:=⟨some 4,_,_,_,_,_⟩) rfl (fun K hK=>?_) AllReadyH.nil
  go_simp
  have sa:Since w0 (y1.alloc (.cells #[.int .u16 0,.int .u8 0,.int .u8 0,.int .u32 0,.int .u32 0,.int .i32 0,.int .u16 0,.int .u16 0,.slice none 0 0] 57)):=Since.trans s1 ((Touch.refl _ _).alloc _)
  refine hK.out _ _ (by assumption) (fun hHeld=>?_)
  clear hK K
  have RA:=Qac y1 57 #[.int .u16 0,.int .u8 0,.int .u8 0,.int .u32 0,.int .u32 0,.int .i32 0,.int .u16 0,.int .u16 0,.slice none 0 0]
  have hle:w0.heap.size≤y1.heap.size:=s1.t.size
  refine wpAnyH_ready (rs:=[9]) (by kernel_rfl) (by simp) ?_
  refine AllReadyH.cons (o:=⟨none,_,_,_,_,_⟩) rfl (fun K hK=>?_) AllReadyH.nil
  refine Qdy (by rfl) 57 (.tmp 4) (.tmp 12) (by rfl) y1.heap.size [.int .u16 0,.int .u8 0,.int .u8 0,.int .u32 0,.int .u32 0,.int .i32 0,.int .u16 0,.int .u16 0,.slice none 0 0] (by rfl) (by rfl) 57 _ RA (by kernel_rfl) rfl (by intro v hv;simp at hv;rcases hv with rfl|rfl|rfl|rfl|rfl|rfl|rfl|rfl|rfl <;> rfl) ?_
  simp only [Act.put]
  have RZ:=Qcb RA [.int .u16 0,.int .u8 0,.int .u8 0,.int .u32 0,.int .u32 0,.int .i32 0,.int .u16 0,.int .u16 0,.slice none 0 0]
  have sz:Since w0 _:=⟨Touch.setRow sa.t (Or.inr hle) (List.toArray [.int .u16 0,.int .u8 0,.int .u8 0,.int .u32 0,.int .u32 0,.int .i32 0,.int .u16 0,.int .u16 0,.slice none 0 0])⟩
  generalize World.setRow _ _ _=yz at RZ sz ⊢
  refine hK.out _ _ (by assumption) (fun hHeld=>?_)
  clear hK K
  refine wpAnyH_take (i:=10) (oi:=⟨some 5,_,_,_,_,_⟩) (v:=.bool false) rfl (by kernel_rfl) (by kernel_rfl) (by kernel_rfl) (fun _ _ _ h=>h) (Or.inl ⟨by rfl,fun w hw=>by go_simp⟩) (by assumption) ?_
  simp only [Act.put,Qw2,Qw3,Qw4]
  refine wpAnyH_done (by kernel_rfl) ?_ _
  clear HR HL HP c0
  go_wp2
  go_ret
  exact⟨rfl,T0.out.trans sz.t⟩
 ·skip
  go_simp
  have s0:Since w0 (w0.drew.alloc (.cells #[.int .u16 0,.int .u8 0,.int .u8 0,.int .u32 0,.int .u32 0,.int .i32 0,.int .u16 0,.int .u16 0,.slice none 0 0] 57)):=Since.trans (Since.start w0) ((Touch.refl _ _).alloc _)
  refine hK.out _ _ (by assumption) (fun hHeld=>?_)
  clear hK K
  have RB:Row (w0.drew.alloc (.cells #[.int .u16 0,.int .u8 0,.int .u8 0,.int .u32 0,.int .u32 0,.int .i32 0,.int .u16 0,.int .u16 0,.slice none 0 0] 57)) w0.heap.size 57 [.int .u16 0,.int .u8 0,.int .u8 0,.int .u32 0,.int .u32 0,.int .i32 0,.int .u16 0,.int .u16 0,.slice none 0 0]:=Qac w0.drew 57 #[.int .u16 0,.int .u8 0,.int .u8 0,.int .u32 0,.int .u32 0,.int .i32 0,.int .u16 0,.int .u16 0,.slice none 0 0]
  refine wpAnyH_ready (rs:=[3]) (by kernel_rfl) (by simp) ?_
  refine AllReadyH.cons (o:=⟨some 10,_,_,_,_,_⟩) rfl (fun K hK=>?_) AllReadyH.nil
  go_simp
  refine Calls.mono (HP _) ?_
  rintro e y1 ⟨rfl,u1⟩
  have sa:Since w0 y1:=Since.trans s0 u1
  have RA:=RB.keep u1
  refine hK.out _ _ (by assumption) (fun hHeld=>?_)
  clear hK K
  refine wpAnyH_take (i:=4) (oi:=⟨some 11,_,_,_,_,_⟩) (v:=.tuple #[.agg #[.int .u16 0,.int .u8 0,.int .u8 0,.int .u32 0,.int .u32 0,.int .i32 0,.int .u16 0,.int .u16 0,.slice none 0 0],.bool false]) rfl (by kernel_rfl) (by kernel_rfl) (by kernel_rfl) (fun _ _ _ h=>h) (Or.inl ⟨by rfl,fun w hw=>by go_simp⟩) (by assumption) ?_
  simp only [Act.put,Qw2,Qw3,Qw4]
  refine wpAnyH_take (i:=5) (oi:=⟨some 6,_,_,_,_,_⟩) (v:=.tuple #[.agg #[.int .u16 0,.int .u8 0,.int .u8 0,.int .u32 0,.int .u32 0,.int .i32 0,.int .u16 0,.int .u16 0,.slice none 0 0],.bool false]) rfl (by kernel_rfl) (by kernel_rfl) (by kernel_rfl) (fun _ _ _ h=>h) (Or.inl ⟨by rfl,fun w hw=>by go_simp⟩) (by assumption) ?_
  simp only [Act.put,Qw2,Qw3,Qw4]
  refine wpAnyH_take (i:=6) (oi:=⟨some 12,_,_,_,_,_⟩) (v:=.agg #[.int .u16 0,.int .u8 0,.int .u8 0,.int .u32 0,.int .u32 0,.int .i32 0,.int .u16 0,.int .u16 0,.slice none 0 0]) rfl (by kernel_rfl) (by kernel_rfl) (by kernel_rfl) (fun _ _ _ h=>h) (Or.inl ⟨by rfl,fun w hw=>by go_simp⟩) (by assumption) ?_
  simp only [Act.put,Qw2,Qw3,Qw4]
  refine wpAnyH_take (i:=7) (oi:=⟨some 13,_,_,_,_,_⟩) (v:=.bool false) rfl (by kernel_rfl) (by kernel_rfl) (by kernel_rfl) (fun _ _ _ h=>h) (Or.inl ⟨by rfl,fun w hw=>by go_simp⟩) (by assumption) ?_
  simp only [Act.put,Qw2,Qw3,Qw4]
  have hle:w0.heap.size≤w0.heap.size:=Nat.le_refl _
  refine wpAnyH_ready (rs:=[9]) (by kernel_rfl) (by simp) ?_
  refine AllReadyH.cons (o:=⟨none,_,_,_,_,_⟩) rfl (fun K hK=>?_) AllReadyH.nil
  refine Qdy (by rfl) 57 (.tmp 4) (.tmp 12) (by rfl) w0.heap.size [.int .u16 0,.int .u8 0,.int .u8 0,.int .u32 0,.int .u32 0,.int .i32 0,.int .u16 0,.int .u16 0,.slice none 0 0] (by rfl) (by rfl) 57 _ RA (by kernel_rfl) rfl (by intro v hv;simp at hv;rcases hv with rfl|rfl|rfl|rfl|rfl|rfl|rfl|rfl|rfl <;> rfl) ?_
  simp only [Act.put]
  have RZ:=Qcb RA [.int .u16 0,.int .u8 0,.int .u8 0,.int .u32 0,.int .u32 0,.int .i32 0,.int .u16 0,.int .u16 0,.slice none 0 0]
  have sz:Since w0 _:=⟨Touch.setRow sa.t (Or.inr hle) (List.toArray [.int .u16 0,.int .u8 0,.int .u8 0,.int .u32 0,.int .u32 0,.int .i32 0,.int .u16 0,.int .u16 0,.slice none 0 0])⟩
  generalize World.setRow _ _ _=yz at RZ sz ⊢
  refine hK.out _ _ (by assumption) (fun hHeld=>?_)
  clear hK K
  refine wpAnyH_take (i:=10) (oi:=⟨some 5,_,_,_,_,_⟩) (v:=.bool false) rfl (by kernel_rfl) (by kernel_rfl) (by kernel_rfl) (fun _ _ _ h=>h) (Or.inl ⟨by rfl,fun w hw=>by go_simp⟩) (by assumption) ?_
  simp only [Act.put,Qw2,Qw3,Qw4]
  refine wpAnyH_done (by kernel_rfl) ?_ _
  clear HR HL HP c0
  go_wp2
  go_ret
  exact⟨rfl,T0.out.trans sz.t⟩
theorem Qpo (h:HV) (ok:h.All) (a:Option Addr) (n c:Nat) (w:World) (bb m:Nat) (B:List SE) (y:SE) (j:Nat) (hj:B[j]?=some y) (hpl:y.h.pl=h.pl) (ya:Option Addr) (yn yc:Nat) (hyv:y.v=.slice ya yn yc) (hb:w.cell? ⟨bb,0,none⟩=some (.map (some m))) (hm:AM w 127 m (bestL B)):Calls Tryz.prog 101 #[h.sv (.slice a n c),.pointer (some ⟨bb,0,none⟩)] w fun e w'=>e=.returned (.bool (decide (y.h.adv<h.adv)))∧Touch (fun _=>False) w w':=by
 have HP:=fun w=>Qb9 h w
 unfold HV.sv at *
 obtain⟨w0,hw0⟩:∃x,x=w.alloc (.cells #[.int .u16 h.age,.int .u8 h.opts,.int .u8 h.typ,.int .u32 h.id,.int .u32 h.adv,.int .i32 h.seq,.int .u16 h.sum,.int .u16 h.len,.slice a n c] 57):=⟨_,rfl⟩
 have t0:Touch (fun _=>False) w w0:=by rw [hw0];exact (Touch.refl _ _).alloc _
 have T0:Hid (Touch (fun _=>False) w w0):=t0
 have R0:Row w0 w.heap.size 57 [.int .u16 h.age,.int .u8 h.opts,.int .u8 h.typ,.int .u32 h.id,.int .u32 h.adv,.int .i32 h.seq,.int .u16 h.sum,.int .u16 h.len,.slice a n c]:=by rw [hw0];exact Qac _ _ _
 have c0:=Qf4 (t0.cellN hb)
 have HR:∀w',Since w0 w'→Row w' w.heap.size 57 [.int .u16 h.age,.int .u8 h.opts,.int .u8 h.typ,.int .u32 h.id,.int .u32 h.adv,.int .i32 h.seq,.int .u16 h.sum,.int .u16 h.len,.slice a n c]:=fun w' s=>R0.keep s.t
 have HL:∀w',Since w0 w'→(Instr.lookup 197 (.map (some m)) (plV h.pl) true).run Tryz.prog w'=.ok (.tuple #[.agg #[.int .u16 y.h.age,.int .u8 y.h.opts,.int .u8 y.h.typ,.int .u32 y.h.id,.int .u32 y.h.adv,.int .i32 y.h.seq,.int .u16 y.h.sum,.int .u16 y.h.len,.slice ya yn yc],.bool true]) w':=fun w' s=>by have:=Qr6 (hm.keepN (t0.trans s.t)) hj hpl;rw [hyv] at this;exact this
 have hz:Hid (w.heap.size<w0.heap.size):=R0.lt
 unfold plV at HL HP
 clear hb hm t0 ok R0
 go_enter Tryz.func101,Tryz.ntmps101
 go_upto_region 1 with fail
 rw [←hw0]
 clear hw0
 have HG:Hid (∀k,w.heap.size≤k→w.heap.size≤k):=fun _ h=>h
 generalize w.heap.size=g0 at *
 refine wp_region_held_drew (S:=fun w'=>Since w0 w') (by kernel_rfl) (Since.start w0) (fun hHeld=>?_)
 refine wpAnyH_take (i:=0) (oi:=⟨some 7,_,_,_,_,_⟩) (v:=.map (some m)) rfl (by kernel_rfl) (by kernel_rfl) (by kernel_rfl) (fun _ _ _ h=>h) (Or.inl ⟨by rfl,fun w hw=>by go_simp⟩) (by assumption) ?_
 simp only [Act.put,Qw2,Qw3,Qw4]
 refine wpAnyH_take (i:=1) (oi:=⟨some 8,_,_,_,_,_⟩) (v:=.pointer (some ⟨g0,0,none⟩)) rfl (by kernel_rfl) (by kernel_rfl) (by kernel_rfl) (fun _ _ _ h=>h) (Or.inl ⟨by rfl,fun w hw=>by go_simp⟩) (by assumption) ?_
 simp only [Act.put,Qw2,Qw3,Qw4]
 refine wpAnyH_take (i:=2) (oi:=⟨some 9,_,_,_,_,_⟩) (v:=.agg #[.int .u16 h.age,.int .u8 h.opts,.int .u8 h.typ,.int .u32 h.id,.int .u32 h.adv,.int .i32 h.seq,.int .u16 h.sum,.int .u16 h.len]) rfl (by kernel_rfl) (by kernel_rfl) (by kernel_rfl) (fun _ _ _ h=>h) (yieldsIf_load_mid (by rfl) _ _ rfl _ _ rfl [.int .u16 h.age,.int .u8 h.opts,.int .u8 h.typ,.int .u32 h.id,.int .u32 h.adv,.int .i32 h.seq,.int .u16 h.sum,.int .u16 h.len] _ (fun w h=>Qdc (HR w h)) Tryz.underlying54 rfl (by kernel_rfl)) (by assumption) ?_
 simp only [Act.put,Qw2,Qw3,Qw4]
 refine wpAnyH_ready (rs:=[3,8]) (by kernel_rfl) (by simp) ?_
 refine AllReadyH.cons (o:=⟨some 10,_,_,_,_,_⟩) rfl (fun K hK=>?_) (AllReadyH.cons (o:=⟨some 4,_,_,_,_,_⟩) rfl (fun K hK=>?_) AllReadyH.nil)
 ·skip
  go_simp
  refine Calls.mono (HP _) ?_
  rintro e y1 ⟨rfl,u1⟩
  have s1:Since w0 y1:=Since.trans (Since.start w0) u1
  refine hK.out _ _ (by assumption) (fun hHeld=>?_)
  clear hK K
  refine wpAnyH_take (i:=4) (oi:=⟨some 11,_,_,_,_,_⟩) (v:=.tuple #[.agg #[.int .u16 y.h.age,.int .u8 y.h.opts,.int .u8 y.h.typ,.int .u32 y.h.id,.int .u32 y.h.adv,.int .i32 y.h.seq,.int .u16 y.h.sum,.int .u16 y.h.len,.slice ya yn yc],.bool true]) rfl (by kernel_rfl) (by kernel_rfl) (by kernel_rfl) (fun _ _ _ h=>h) (Or.inl ⟨by rfl,fun w hw=>by go_simp⟩) (by assumption) ?_
  simp only [Act.put,Qw2,Qw3,Qw4]
  refine wpAnyH_take (i:=5) (oi:=⟨some 6,_,_,_,_,_⟩) (v:=.tuple #[.agg #[.int .u16 y.h.age,.int .u8 y.h.opts,.int .u8 y.h.typ,.int .u32 y.h.id,.int .u32 y.h.adv,.int .i32 y.h.seq,.int .u16 y.h.sum,.int .u16 y.h.len,.slice ya yn yc],.bool true]) rfl (by kernel_rfl) (by kernel_rfl) (by kernel_rfl) (fun _ _ _ h=>h) (Or.inl ⟨by rfl,fun w hw=>by go_simp⟩) (by assumption) ?_
  simp only [Act.put,Qw2,Qw3,Qw4]
  refine wpAnyH_take (i:=6) (oi:=⟨some 12,_,_,_,_,_⟩) (v:=.agg #[.int .u16 y.h.age,.int .u8 y.h.opts,.int .u8 y.h.typ,.int .u32 y.h.id,.int .u32 y.h.adv,.int .i32 y.h.seq,.int .u16 y.h.sum,.int .u16 y.h.len,.slice ya yn yc]) rfl (by kernel_rfl) (by kernel_rfl) (by kernel_rfl) (fun _ _ _ h=>h) (Or.inl ⟨by rfl,fun w hw=>by go_simp⟩) (by assumption) ?_
  simp only [Act.put,Qw2,Qw3,Qw4]
  refine wpAnyH_take (i:=7) (oi:=⟨some 13,_,_,_,_,_⟩) (v:=.bool true) rfl (by kernel_rfl) (by kernel_rfl) (by kernel_rfl) (fun _ _ _ h=>h) (Or.inl ⟨by rfl,fun w hw=>by go_simp⟩) (by assumption) ?_
  simp only [Act.put,Qw2,Qw3,Qw4]
  refine wpAnyH_ready (rs:=[8]) (by kernel_rfl) (by simp) ?_
  refine AllReadyH.cons (o:=⟨some 4,_,_,_,_,_⟩) rfl (fun K hK=>?_) AllReadyH.nil
  go_simp
  have sa:Since w0 (y1.alloc (.cells #[.int .u16 0,.int .u8 0,.int .u8 0,.int .u32 0,.int .u32 0,.int .i32 0,.int .u16 0,.int .u16 0,.slice none 0 0] 57)):=Since.trans s1 ((Touch.refl _ _).alloc _)
  refine hK.out _ _ (by assumption) (fun hHeld=>?_)
  clear hK K
  have RA:=Qac y1 57 #[.int .u16 0,.int .u8 0,.int .u8 0,.int .u32 0,.int .u32 0,.int .i32 0,.int .u16 0,.int .u16 0,.slice none 0 0]
  have hle:w0.heap.size≤y1.heap.size:=s1.t.size
  refine wpAnyH_ready (rs:=[9]) (by kernel_rfl) (by simp) ?_
  refine AllReadyH.cons (o:=⟨none,_,_,_,_,_⟩) rfl (fun K hK=>?_) AllReadyH.nil
  refine Qdy (by rfl) 57 (.tmp 4) (.tmp 12) (by rfl) y1.heap.size [.int .u16 y.h.age,.int .u8 y.h.opts,.int .u8 y.h.typ,.int .u32 y.h.id,.int .u32 y.h.adv,.int .i32 y.h.seq,.int .u16 y.h.sum,.int .u16 y.h.len,.slice ya yn yc] (by rfl) (by rfl) 57 _ RA (by kernel_rfl) rfl (by intro v hv;simp at hv;rcases hv with rfl|rfl|rfl|rfl|rfl|rfl|rfl|rfl|rfl <;> rfl) ?_
  simp only [Act.put]
  have RZ:=Qcb RA [.int .u16 y.h.age,.int .u8 y.h.opts,.int .u8 y.h.typ,.int .u32 y.h.id,.int .u32 y.h.adv,.int .i32 y.h.seq,.int .u16 y.h.sum,.int .u16 y.h.len,.slice ya yn yc]
  have sz:Since w0 _:=⟨Touch.setRow sa.t (Or.inr hle) (List.toArray [.int .u16 y.h.age,.int .u8 y.h.opts,.int .u8 y.h.typ,.int .u32 y.h.id,.int .u32 y.h.adv,.int .i32 y.h.seq,.int .u16 y.h.sum,.int .u16 y.h.len,.slice ya yn yc])⟩
  generalize World.setRow _ _ _=yz at RZ sz ⊢
  refine hK.out _ _ (by assumption) (fun hHeld=>?_)
  clear hK K
  refine wpAnyH_take (i:=10) (oi:=⟨some 5,_,_,_,_,_⟩) (v:=.bool true) rfl (by kernel_rfl) (by kernel_rfl) (by kernel_rfl) (fun _ _ _ h=>h) (Or.inl ⟨by rfl,fun w hw=>by go_simp⟩) (by assumption) ?_
  simp only [Act.put,Qw2,Qw3,Qw4]
  refine wpAnyH_done (by kernel_rfl) ?_ _
  have e1:yz.cell? ⟨g0,4,none⟩=some (.int .u32 h.adv):=(HR yz sz).cell 4
  have e2:=RZ.cell 4
  simp only [List.getElem?_cons_succ,List.getElem?_cons_zero] at e2
  clear HR HL HP c0 hyv hj hpl
  go_wp2
  go_ret
  exact⟨Qaj rfl,T0.out.trans sz.t⟩
 ·skip
  go_simp
  have s0:Since w0 (w0.drew.alloc (.cells #[.int .u16 0,.int .u8 0,.int .u8 0,.int .u32 0,.int .u32 0,.int .i32 0,.int .u16 0,.int .u16 0,.slice none 0 0] 57)):=Since.trans (Since.start w0) ((Touch.refl _ _).alloc _)
  refine hK.out _ _ (by assumption) (fun hHeld=>?_)
  clear hK K
  have RB:Row (w0.drew.alloc (.cells #[.int .u16 0,.int .u8 0,.int .u8 0,.int .u32 0,.int .u32 0,.int .i32 0,.int .u16 0,.int .u16 0,.slice none 0 0] 57)) w0.heap.size 57 [.int .u16 0,.int .u8 0,.int .u8 0,.int .u32 0,.int .u32 0,.int .i32 0,.int .u16 0,.int .u16 0,.slice none 0 0]:=Qac w0.drew 57 #[.int .u16 0,.int .u8 0,.int .u8 0,.int .u32 0,.int .u32 0,.int .i32 0,.int .u16 0,.int .u16 0,.slice none 0 0]
  refine wpAnyH_ready (rs:=[3]) (by kernel_rfl) (by simp) ?_
  refine AllReadyH.cons (o:=⟨some 10,_,_,_,_,_⟩) rfl (fun K hK=>?_) AllReadyH.nil
  go_simp
  refine Calls.mono (HP _) ?_
  rintro e y1 ⟨rfl,u1⟩
  have sa:Since w0 y1:=Since.trans s0 u1
  have RA:=RB.keep u1
  refine hK.out _ _ (by assumption) (fun hHeld=>?_)
  clear hK K
  refine wpAnyH_take (i:=4) (oi:=⟨some 11,_,_,_,_,_⟩) (v:=.tuple #[.agg #[.int .u16 y.h.age,.int .u8 y.h.opts,.int .u8 y.h.typ,.int .u32 y.h.id,.int .u32 y.h.adv,.int .i32 y.h.seq,.int .u16 y.h.sum,.int .u16 y.h.len,.slice ya yn yc],.bool true]) rfl (by kernel_rfl) (by kernel_rfl) (by kernel_rfl) (fun _ _ _ h=>h) (Or.inl ⟨by rfl,fun w hw=>by go_simp⟩) (by assumption) ?_
  simp only [Act.put,Qw2,Qw3,Qw4]
  refine wpAnyH_take (i:=5) (oi:=⟨some 6,_,_,_,_,_⟩) (v:=.tuple #[.agg #[.int .u16 y.h.age,.int .u8 y.h.opts,.int .u8 y.h.typ,.int .u32 y.h.id,.int .u32 y.h.adv,.int .i32 y.h.seq,.int .u16 y.h.sum,.int .u16 y.h.len,.slice ya yn yc],.bool true]) rfl (by kernel_rfl) (by kernel_rfl) (by kernel_rfl) (fun _ _ _ h=>h) (Or.inl ⟨by rfl,fun w hw=>by go_simp⟩) (by assumption) ?_
  simp only [Act.put,Qw2,Qw3,Qw4]
  refine wpAnyH_take (i:=6) (oi:=⟨some 12,_,_,_,_,_⟩) (v:=.agg #[.int .u16 y.h.age,.int .u8 y.h.opts,.int .u8 y.h.typ,.int .u32 y.h.id,.int .u32 y.h.adv,.int .i32 y.h.seq,.int .u16 y.h.sum,.int .u16 y.h.len,.slice ya yn yc]) rfl (by kernel_rfl) (by kernel_rfl) (by kernel_rfl) (fun _ _ _ h=>h) (Or.inl ⟨by rfl,fun w hw=>by go_simp⟩) (by assumption) ?_
  simp only [Act.put,Qw2,Qw3,Qw4]
  refine wpAnyH_take (i:=7) (oi:=⟨some 13,_,_,_,_,_⟩) (v:=.bool true) rfl (by kernel_rfl) (by kernel_rfl) (by kernel_rfl) (fun _ _ _ h=>h) (Or.inl ⟨by rfl,fun w hw=>by go_simp⟩) (by assumption) ?_
  simp only [Act.put,Qw2,Qw3,Qw4]
  have hle:w0.heap.size≤w0.heap.size:=Nat.le_refl _
  refine wpAnyH_ready (rs:=[9]) (by kernel_rfl) (by simp) ?_
  refine AllReadyH.cons (o:=⟨none,_,_,_,_,_⟩) rfl (fun K hK=>?_) AllReadyH.nil
  refine Qdy (by rfl) 57 (.tmp 4) (.tmp 12) (by rfl) w0.heap.size [.int .u16 y.h.age,.int .u8 y.h.opts,.int .u8 y.h.typ,.int .u32 y.h.id,.int .u32 y.h.adv,.int .i32 y.h.seq,.int .u16 y.h.sum,.int .u16 y.h.len,.slice ya yn yc] (by rfl) (by rfl) 57 _ RA (by kernel_rfl) rfl (by intro v hv;simp at hv;rcases hv with rfl|rfl|rfl|rfl|rfl|rfl|rfl|rfl|rfl <;> rfl) ?_
  simp only [Act.put]
  have RZ:=Qcb RA [.int .u16 y.h.age,.int .u8 y.h.opts,.int .u8 y.h.typ,.int .u32 y.h.id,.int .u32 y.h.adv,.int .i32 y.h.seq,.int .u16 y.h.sum,.int .u16 y.h.len,.slice ya yn yc]
  have sz:Since w0 _:=⟨Touch.setRow sa.t (Or.inr hle) (List.toArray [.int .u16 y.h.age,.int .u8 y.h.opts,.int .u8 y.h.typ,.int .u32 y.h.id,.int .u32 y.h.adv,.int .i32 y.h.seq,.int .u16 y.h.sum,.int .u16 y.h.len,.slice ya yn yc])⟩
  generalize World.setRow _ _ _=yz at RZ sz ⊢
  refine hK.out _ _ (by assumption) (fun hHeld=>?_)
  clear hK K
  refine wpAnyH_take (i:=10) (oi:=⟨some 5,_,_,_,_,_⟩) (v:=.bool true) rfl (by kernel_rfl) (by kernel_rfl) (by kernel_rfl) (fun _ _ _ h=>h) (Or.inl ⟨by rfl,fun w hw=>by go_simp⟩) (by assumption) ?_
  simp only [Act.put,Qw2,Qw3,Qw4]
  refine wpAnyH_done (by kernel_rfl) ?_ _
  have e1:yz.cell? ⟨g0,4,none⟩=some (.int .u32 h.adv):=(HR yz sz).cell 4
  have e2:=RZ.cell 4
  simp only [List.getElem?_cons_succ,List.getElem?_cons_zero] at e2
  clear HR HL HP c0 hyv hj hpl
  go_wp2
  go_ret
  exact⟨Qaj rfl,T0.out.trans sz.t⟩
theorem Qpg (h:HV) (ok:h.All) (a:Option Addr) (n c:Nat) (w:World) (bb m:Nat) (B:List SE) (hB:∀y∈B,∃ya yn yc,y.v=.slice ya yn yc) (hb:w.cell? ⟨bb,0,none⟩=some (.map (some m))) (hm:AM w 127 m (bestL B)):Calls Tryz.prog 101 #[h.sv (.slice a n c),.pointer (some ⟨bb,0,none⟩)] w fun e w'=>e=.returned (.bool (q4 B h))∧Touch (fun _=>False) w w':=by
 cases hp:plAt B h.pl with
 | none =>
  have e:q4 B h=true:=by unfold q4;rw [hp]
  rw [e]
  exact Qtu h ok a n c w bb m B hp hb hm
 | some j =>
  obtain⟨y,hy,hpl,hj⟩:=Qff hp
  have e:q4 B h=decide (y.h.adv<h.adv):=by unfold q4;rw [hp];simp [hy]
  rw [e]
  obtain⟨ya,yn,yc,hv⟩:=hB y (List.mem_of_getElem? hy)
  exact Qpo h ok a n c w bb m B y j hy hpl ya yn yc hv hb hm
end Go.Proofs.YtddbffoiadmffaaGreat
