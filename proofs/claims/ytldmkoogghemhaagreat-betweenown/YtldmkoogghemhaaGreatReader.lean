import Derived.Test.YtldmkoogghemhaaGreatStaMath
import Derived.Test.YtldmkoogghemhaaGreatTrCat
import Derived.RangeFuncNested
import Derived.RangeFuncBound
import Derived.RangeFuncCalls
import Derived.RangeFuncLeaves
import Derived.Shelf.Abstract
import Derived.Shelf.RegionOpen
import Derived.WalkKit
import Derived.OwnWalkIn
import Derived.TacticsInMore
import Derived.LoopNIn
import Derived.LoopIn
import Derived.Lib.SliceRun
namespace Go.Proofs.YtldmkoogghemhaaGreat
open Go.RowKit
set_option linter.unusedVariables false
set_option maxRecDepth 100000
def LV.cells (x:LV):List Value:=[.int .u32 x.id,.int .u32 x.data,.int .u8 x.typ,.int .u16 x.cost]
def linksC (l:List LV):List Value:=l.flatMap LV.cells
def wordsC (l:List Int):List Value:=l.map (Value.int .u32)
theorem Qbn (l:List LV) (j i:Nat) (x:LV) (hj:l[j]?=some x) (hi:i<4):(linksC l)[j*4+i]?=x.cells[i]?:=by
 induction l generalizing j with
 | nil=>simp at hj
 | cons y r ih =>
  have e:linksC (y::r)=y.cells++linksC r:=by simp [linksC]
  have hl:y.cells.length=4:=rfl
  rw [e]
  cases j with
  | zero =>
   obtain rfl:y=x:=by simpa using hj
   rw [List.getElem?_append_left (by omega),Nat.zero_mul,Nat.zero_add]
  | succ j =>
   rw [List.getElem?_append_right (by omega),hl,show (j+1)*4+i-4=j*4+i by omega]
   exact ih j (by simpa using hj)
def LinksAt (w:World) (v:Value) (l:List LV):Prop:=ValsAt w 4 v l.length (linksC l)
def WordsAt (w:World) (v:Value) (l:List Int):Prop:=ValsAt w 1 v l.length (wordsC l)
theorem LinksAt.keep {w w':World} {v:Value} {l:List LV} (h:LinksAt w v l) (t:Touch (fun _=>False) w w'):LinksAt w' v l:=ValsAt.keep h t
theorem WordsAt.keep {w w':World} {v:Value} {l:List Int} (h:WordsAt w v l) (t:Touch (fun _=>False) w w'):WordsAt w' v l:=ValsAt.keep h t
theorem ArgAt.keepN {w w':World} {v:Value} {l:List Int} (h:ArgAt w v l) (t:Touch (fun _=>False) w w'):ArgAt w' v l:=h.keep t (fun _ _ h=>h)
def BV.v (b:BV) (vl vr vd:Value):Value:=.agg #[.int .u8 b.flags,vl,.int .u32 b.mask,vr,.int .u32 b.metric,.bool b.type2,.int .u32 b.fwd,.int .u32 b.tag,vd]
structure BArg (w:World) (b:BV) (vl vr vd:Value):Prop where
 l:LinksAt w vl b.links
 r:WordsAt w vr b.routers
 d:ArgAt w vd b.data
theorem BArg.keep {w w':World} {b:BV} {vl vr vd:Value} (h:BArg w b vl vr vd) (t:Touch (fun _=>False) w w'):BArg w' b vl vr vd:=⟨h.l.keep t,h.r.keep t,h.d.keepN t⟩
structure Bd (w:World) (g:Nat) (b:BV) (vl vr vd:Value):Prop where
 c0:w.cell? ⟨g,0,none⟩=some (.int .u8 b.flags)
 c1:w.cell? ⟨g,1,none⟩=some vl
 c2:w.cell? ⟨g,2,none⟩=some (.int .u32 b.mask)
 c3:w.cell? ⟨g,3,none⟩=some vr
 c4:w.cell? ⟨g,4,none⟩=some (.int .u32 b.metric)
 c5:w.cell? ⟨g,5,none⟩=some (.bool b.type2)
 c6:w.cell? ⟨g,6,none⟩=some (.int .u32 b.fwd)
 c7:w.cell? ⟨g,7,none⟩=some (.int .u32 b.tag)
 c8:w.cell? ⟨g,8,none⟩=some vd
theorem Bd.keep {w w':World} {g:Nat} {b:BV} {vl vr vd:Value} (k:Bd w g b vl vr vd) (t:Touch (fun _=>False) w w'):Bd w' g b vl vr vd :=
 ⟨t.cellN k.c0,t.cellN k.c1,t.cellN k.c2,t.cellN k.c3,t.cellN k.c4,t.cellN k.c5,t.cellN k.c6,t.cellN k.c7,t.cellN k.c8⟩
theorem Bd.new (w:World) (b:BV) (vl vr vd:Value) (t:TypeId) :
  Bd (w.alloc (.cells #[.int .u8 b.flags,vl,.int .u32 b.mask,vr,.int .u32 b.metric,.bool b.type2,.int .u32 b.fwd,.int .u32 b.tag,vd] t)) w.heap.size b vl vr vd :=
 ⟨by simp [go_sem],by simp [go_sem],by simp [go_sem],by simp [go_sem],by simp [go_sem],by simp [go_sem],by simp [go_sem],by simp [go_sem],by simp [go_sem]⟩
def HV.sv (h:HV) (v:Value):Value:=.agg #[.int .u16 h.age,.int .u8 h.opts,.int .u8 h.typ,.int .u32 h.id,.int .u32 h.adv,.int .i32 h.seq,.int .u16 h.sum,.int .u16 h.len,v]
def HV.zero:HV:=⟨0,0,0,0,0,0,0,0⟩
structure Sd (w:World) (g:Nat) (h:HV) (v:Value):Prop where
 hd:Hd w g h
 c8:w.cell? ⟨g,8,none⟩=some v
theorem Sd.keep {w w':World} {g:Nat} {h:HV} {v:Value} (k:Sd w g h v) (t:Touch (fun _=>False) w w'):Sd w' g h v:=⟨k.hd.keep t,t.cellN k.c8⟩
theorem Sd.new (w:World) (h:HV) (v:Value) (t:TypeId) :
  Sd (w.alloc (.cells #[.int .u16 h.age,.int .u8 h.opts,.int .u8 h.typ,.int .u32 h.id,.int .u32 h.adv,.int .i32 h.seq,.int .u16 h.sum,.int .u16 h.len,v] t)) w.heap.size h v :=
 ⟨⟨by simp [go_sem],by simp [go_sem],by simp [go_sem],by simp [go_sem],by simp [go_sem],by simp [go_sem],by simp [go_sem],by simp [go_sem]⟩,by simp [go_sem]⟩
structure Out (w:World) (g:Nat) (h:HV) (v:Value):Prop where
 sd:Sd w g h v
 fz:∀i,i<9→w.frozen? ⟨g,i,none⟩=false
theorem Out.lt {w:World} {g:Nat} {h:HV} {v:Value} (k:Out w g h v):g<w.heap.size:=Qaa k.sd.hd.c0
theorem Out.keep {w w':World} {g:Nat} {h:HV} {v:Value} (k:Out w g h v) (t:Touch (fun _=>False) w w'):Out w' g h v :=
 ⟨k.sd.keep t,fun i hi=>(t.frozen (p:=⟨g,i,none⟩) k.lt (fun h=>h)).trans (k.fz i hi)⟩
theorem Out.new (w:World) (h:HV) (v:Value) (t:TypeId) :
  Out (w.alloc (.cells #[.int .u16 h.age,.int .u8 h.opts,.int .u8 h.typ,.int .u32 h.id,.int .u32 h.adv,.int .i32 h.seq,.int .u16 h.sum,.int .u16 h.len,v] t)) w.heap.size h v :=
 ⟨Sd.new w h v t,fun i hi=>by simp [go_sem]⟩
theorem Out.set6 {w:World} {g:Nat} {h:HV} {v:Value} (k:Out w g h v) (x:Int):Out (w.setCell ⟨g,6,none⟩ (.int .u16 x)) g { h with sum:=x } v:=by
 obtain⟨⟨⟨c0,c1,c2,c3,c4,c5,c6,c7⟩,c8⟩,fz⟩:=k
 exact⟨⟨⟨by simp [c0,go_sem],by simp [c1,go_sem],by simp [c2,go_sem],by simp [c3,go_sem],by simp [c4,go_sem],by simp [c5,go_sem],by simp [c6,go_sem],by simp [c7,go_sem]⟩,by simp [c8,go_sem]⟩,fun i hi=>by simp [fz i hi,go_sem]⟩
theorem Out.set7 {w:World} {g:Nat} {h:HV} {v:Value} (k:Out w g h v) (x:Int):Out (w.setCell ⟨g,7,none⟩ (.int .u16 x)) g { h with len:=x } v:=by
 obtain⟨⟨⟨c0,c1,c2,c3,c4,c5,c6,c7⟩,c8⟩,fz⟩:=k
 exact⟨⟨⟨by simp [c0,go_sem],by simp [c1,go_sem],by simp [c2,go_sem],by simp [c3,go_sem],by simp [c4,go_sem],by simp [c5,go_sem],by simp [c6,go_sem],by simp [c7,go_sem]⟩,by simp [c8,go_sem]⟩,fun i hi=>by simp [fz i hi,go_sem]⟩
theorem Out.set8 {w:World} {g:Nat} {h:HV} {v:Value} (k:Out w g h v) (u:Value):Out (w.setCell ⟨g,8,none⟩ u) g h u:=by
 obtain⟨⟨⟨c0,c1,c2,c3,c4,c5,c6,c7⟩,c8⟩,fz⟩:=k
 exact⟨⟨⟨by simp [c0,go_sem],by simp [c1,go_sem],by simp [c2,go_sem],by simp [c3,go_sem],by simp [c4,go_sem],by simp [c5,go_sem],by simp [c6,go_sem],by simp [c7,go_sem]⟩,by simp [c8,go_sem]⟩,fun i hi=>by simp [fz i hi,go_sem]⟩
theorem Out.other {w:World} {g:Nat} {h:HV} {v:Value} (k:Out w g h v) {p:Addr} (hp:p.block≠g) (u:Value):Out (w.setCell p u) g h v:=by
 have t:Touch (fun k=>k=p.block) w (w.setCell p u):=Touch.setCell (F:=fun k=>k=p.block) (Touch.refl _ w) (p:=p) (Or.inl rfl) u
 have hl:=k.lt
 have ce:∀i,(w.setCell p u).cell? ⟨g,i,none⟩=w.cell? ⟨g,i,none⟩:=fun i=>t.cell (p:=⟨g,i,none⟩) hl (fun e=>hp e.symm)
 obtain⟨⟨⟨c0,c1,c2,c3,c4,c5,c6,c7⟩,c8⟩,fz⟩:=k
 exact⟨⟨⟨(ce 0).trans c0,(ce 1).trans c1,(ce 2).trans c2,(ce 3).trans c3,(ce 4).trans c4,(ce 5).trans c5,(ce 6).trans c6,(ce 7).trans c7⟩,(ce 8).trans c8⟩,
  fun i hi=>(t.frozen (p:=⟨g,i,none⟩) hl (fun e=>hp e.symm)).trans (fz i hi)⟩
theorem Qau {w:World} {base e k n:Nat} {v:Value} {xs:List Value} (h:w.ownsRow base e k v n xs) {p:Addr} (hp:p.block<base) (u:Value):(w.setCell p u).ownsRow base e k v n xs :=
 Qab h (Touch.setCell (F:=fun k=>k=p.block) (Touch.refl _ w) (p:=p) (Or.inl rfl) u) (fun j hj e=>by have:=(h.lt j hj).1;omega)
theorem Qak {w:World} {base base' e k n:Nat} {v:Value} {xs:List Value} (h:w.ownsRow base e k v n xs) (hb:base'≤base):w.ownsRow base' e k v n xs:=by
 refine⟨h.1,?_⟩
 rcases h.2 with h2|⟨g,cap,cur,hv,hg,r⟩
 ·exact Or.inl h2
 ·exact Or.inr ⟨g,cap,cur,hv,by omega,r⟩
abbrev LsB (n:Nat) (w:World) (v:Value) (hs:List HL):Prop:=w.ownsRow n 45 1 v hs.length (hs.map Prod.fst)
open Go.RowKit Go.Shelf
open Go.ChangeMaps (setBlock)
open Go.MapKept
attribute [local go_sem] Oper.semAt_some
theorem Qbm {w:World} {b:Nat}:∀(l:List Value) (o:Nat) (w':World),Touch (fun k=>k=b) w w'→Touch (fun k=>k=b) w (w'.setCells b o l)
 | [],_,_,t=>t
 | v::l,o,w',t=>Qbm l (o+1) _ (t.setCell (p:=⟨b,o,none⟩) (Or.inl rfl) v)
theorem Tryz.info5r:(Tryz.prog.info? 5).map (fun i=>(i.zero,i.size,i.bytes))=some (some (.int .u8 0),1,1):=by kernel_rfl
theorem Qd0 (ad:Addr) (c:Nat) (ns:List Int) (w:World) (hs:∀j u,(bytesOf ns)[j]?=some u→w.cell? (ad.add j)=some u) (hcap:ns.length≤1099511627776) :
  Calls Tryz.prog 154 #[.slice (some ad) ns.length c] w fun e w'=>∃v,e=.returned v∧w'.ownsRow w.heap.size 5 1 v ns.length (bytesOf ns)∧Touch (fun _=>False) w w'∧v.ownBlock≠none:=by
 obtain⟨i0,hi,hz0,hz1,hz2⟩:=info_parts Tryz.info5r
 have hq:=fun (w:World) (a:Option Addr) (n c n' c':Nat)=>Lib.run_eql_slice_nil (P:=Tryz.prog) w 57 5 a n c n' c' Tryz.underlying57
 go_enter Tryz.func154,Tryz.ntmps154
 go_wp2_with (at_builtin;refine wpList_append_own_at _ rfl (.tmp 5) (.tmp 6) 57 rfl w.heap.size 5 i0 (.int .u8 0) 1 1 Tryz.underlying57 hi hz0 hz1 hz2 rfl (by decide) (.slice (some ⟨w.heap.size,0,none⟩) 0 0) 0 [] rfl ?c0 ad ns.length c (bytesOf ns) rfl ?c6 ?c1 ?c2 ?c3 ?c4 ?c5 ?_)
 case c0=>exact World.ownsRow_lit w #[] 0 (Nat.le_refl _) (by simp [maxLen]) (by simp)
 case c6=>simp [Qba]
 case c1=>exact fun j u hj=>((Touch.refl _ w).alloc _).cellN (hs j u hj)
 case c2=>exact Qa5 ns
 case c3=>unfold maxLen;omega
 case c4=>omega
 case c5=>simp
 intro v' w1 hown' hgrow _ hat
 have t1:Touch (fun _=>False) w w1:=((Touch.refl _ w).alloc _).grown hgrow (fun k hk=>Or.inr (by simp [Value.ownBlock] at hk;omega))
 have hne:v'.ownBlock≠none:=by rcases hat with h|h <;> rw [h] <;> simp [Value.ownBlock]
 clear hgrow hat
 go_wp2
 go_ret
 exact⟨v',rfl,by simpa using hown',t1,hne⟩
theorem Qey (w:World) :
  Calls Tryz.prog 154 #[.slice none 0 0] w fun e w'=>e=.returned (.slice none 0 0)∧w=w':=by
 have hq:=fun (w:World) (a:Option Addr) (n c n' c':Nat)=>Lib.run_eql_slice_nil (P:=Tryz.prog) w 57 5 a n c n' c' Tryz.underlying57
 go_enter Tryz.func154,Tryz.ntmps154
 go_wp2
 go_ret
 exact⟨rfl,rfl⟩
theorem Qim (most:Int) (w:World) (hm:0≤most) :
  Calls Tryz.prog 136 #[.int .i64 most] w fun e w'=>e=.returned (.pointer (some ⟨w.heap.size,0,none⟩))∧WrS w' w.heap.size (.slice none 0 0) [] most 0∧Touch (fun _=>False) w w':=by
 go_enter Tryz.func136,Tryz.ntmps136
 go_wp2
 go_ret
 refine⟨rfl,⟨by simp,by simp,by simp [Int.max_eq_left hm],by simp,by simp,by simp,World.ownsRow_nil _ _ _ _⟩,(Touch.refl _ w).alloc _⟩
theorem Qf4 (b:Nat) (err:Int) (w:World) (h0:w.cell? ⟨b,0,none⟩=some (.bool true)) (h3:w.cell? ⟨b,3,none⟩=some (.int .i64 err)) :
  Calls Tryz.prog 142 #[.pointer (some ⟨b,0,none⟩)] w fun e w'=>e=.returned (.int .i64 err)∧w=w':=by
 go_enter Tryz.func142,Tryz.ntmps142
 go_wp2
 go_ret
 exact⟨rfl,rfl⟩
theorem Qaw (b:Nat) (err:Int) (w:World) (h0:w.cell? ⟨b,0,none⟩=some (.bool true)) (h3:w.cell? ⟨b,3,none⟩=some (.int .i64 err)) :
  Calls Tryz.prog 167 #[.pointer (some ⟨b,0,none⟩)] w fun e w'=>e=.returned (.bool (err==0))∧w=w':=by
 go_enter Tryz.func167,Tryz.ntmps167
 go_wp2_with (go_at_call 142;refine (Qf4 _ err _ (by assumption) (by assumption)).mono ?_;rintro e w' ⟨rfl,rfl⟩)
 go_ret
 exact⟨rfl,rfl⟩
theorem Qdg (b p:Nat) (rv:Value) (rs:List Int) (w:World) (h:RdS w b rv rs p 0) :
  Calls Tryz.prog 143 #[.pointer (some ⟨b,0,none⟩)] w fun e w'=>e=.returned (.int .i64 ((rs.length:Int)-p))∧∃n,w'=w.drewN n:=by
 obtain⟨a,c,rfl,hm⟩:=Qdy h.rowAt
 unfold maxLen at hm
 have h0:=h.made
 have h1:=h.row
 have h2:=h.pos
 have h3:=h.err
 have hp:=h.ple
 go_enter Tryz.func143,Tryz.ntmps143
 go_wp2_with (go_at_call 167;refine (Qaw _ 0 _ (by assumption) (by assumption)).mono ?_;rintro e w' ⟨rfl,rfl⟩)
 go_quiet (fail)
 go_wp2
 go_ret
 exact⟨rfl,_,rfl⟩
theorem Qfe (b:Nat) (err:Int) (w:World) (h0:w.cell? ⟨b,0,none⟩=some (.bool true)) (h3:w.cell? ⟨b,3,none⟩=some (.int .i64 err)) (he:(err==0)=false) :
  Calls Tryz.prog 143 #[.pointer (some ⟨b,0,none⟩)] w fun e w'=>e=.returned (.int .i64 0)∧w=w':=by
 go_enter Tryz.func143,Tryz.ntmps143
 go_wp2_with (go_at_call 167;refine (Qaw _ err _ (by assumption) (by assumption)).mono ?_;rintro e w' ⟨rfl,rfl⟩)
 go_ret
 exact⟨rfl,rfl⟩
theorem Qj1 (b:Nat) (q:Int) (w:World) (h0:w.cell? ⟨b,0,none⟩=some (.bool true)) (h3:w.cell? ⟨b,3,none⟩=some (.int .i64 0)) (hf:w.frozen? ⟨b,3,none⟩=false) :
  Calls Tryz.prog 186 #[.pointer (some ⟨b,0,none⟩),.int .i64 q] w fun e w'=>e=.returned (.tuple #[])∧w.setCell ⟨b,3,none⟩ (.int .i64 q)=w':=by
 go_enter Tryz.func186,Tryz.ntmps186
 go_wp2_with (go_at_call 167;refine (Qaw _ 0 _ (by assumption) (by assumption)).mono ?_;rintro e w' ⟨rfl,rfl⟩)
 go_end0
 exact⟨rfl,rfl⟩
theorem Qbs (b:Nat) (q err:Int) (w:World) (h0:w.cell? ⟨b,0,none⟩=some (.bool true)) (h3:w.cell? ⟨b,3,none⟩=some (.int .i64 err)) (he:(err==0)=false) :
  Calls Tryz.prog 186 #[.pointer (some ⟨b,0,none⟩),.int .i64 q] w fun e w'=>e=.returned (.tuple #[])∧w=w':=by
 go_enter Tryz.func186,Tryz.ntmps186
 go_wp2_with (go_at_call 167;refine (Qaw _ err _ (by assumption) (by assumption)).mono ?_;rintro e w' ⟨rfl,rfl⟩)
 go_end0
 exact⟨rfl,rfl⟩
end Go.Proofs.YtldmkoogghemhaaGreat
