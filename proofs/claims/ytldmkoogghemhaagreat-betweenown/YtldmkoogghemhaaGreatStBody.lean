import Derived.Test.YtldmkoogghemhaaGreatStHead
import Derived.Test.YtldmkoogghemhaaGreatSumBytes2
import Derived.Test.YtldmkoogghemhaaGreatStaRd
import Derived.Deep.RegionHeld3
import Derived.Deep.RegionHeld2
namespace Go.Proofs.YtldmkoogghemhaaGreat
open Go.RowKit
set_option linter.unusedVariables false
set_option maxRecDepth 100000
def Room (w:World) (g n:Nat):Prop:=∀i,i<n→∃v,w.cell? ⟨g,i,none⟩=some v∧w.frozen? ⟨g,i,none⟩=false
theorem Room.keep {w w':World} {g n:Nat} (h:Room w g n) (t:Touch (fun _=>False) w w'):Room w' g n:=fun i hi=>by
 obtain⟨v,hc,hf⟩:=h i hi
 exact⟨v,t.cellN hc,(t.frozen (p:=⟨g,i,none⟩) (Qaa hc) (fun h=>h)).trans hf⟩
theorem Room.touch {F:Nat→Prop} {w w':World} {g n:Nat} (h:Room w g n) (t:Touch F w w') (hF:¬F g):Room w' g n:=fun i hi=>by
 obtain⟨v,hc,hf⟩:=h i hi
 exact⟨v,(t.cell (p:=⟨g,i,none⟩) (Qaa hc) hF).trans hc,(t.frozen (p:=⟨g,i,none⟩) (Qaa hc) hF).trans hf⟩
theorem Room.new (w:World) (C:Array Value) (t:TypeId):Room (w.alloc (.cells C t)) w.heap.size C.size:=fun i hi=>⟨C[i],by simp [go_sem,hi],by simp [go_sem]⟩
theorem Out.fits {w:World} {g:Nat} {h:HV} {v:Value} (k:Out w g h v):Sd w g h v∧(w.frozen? ⟨g,6,none⟩=false∧w.frozen? ⟨g,7,none⟩=false∧w.frozen? ⟨g,8,none⟩=false):=⟨k.sd,k.fz 6 (by omega),k.fz 7 (by omega),k.fz 8 (by omega)⟩
structure OutB (w:World) (g:Nat) (b:BV) (vl vr vd:Value):Prop where
 bd:Bd w g b vl vr vd
 fz:∀i,i<9→w.frozen? ⟨g,i,none⟩=false
theorem OutB.lt {w:World} {g:Nat} {b:BV} {vl vr vd:Value} (k:OutB w g b vl vr vd):g<w.heap.size:=Qaa k.bd.c0
theorem OutB.keep {w w':World} {g:Nat} {b:BV} {vl vr vd:Value} (k:OutB w g b vl vr vd) (t:Touch (fun _=>False) w w'):OutB w' g b vl vr vd :=
 ⟨k.bd.keep t,fun i hi=>(t.frozen (p:=⟨g,i,none⟩) k.lt (fun h=>h)).trans (k.fz i hi)⟩
theorem OutB.kept {X:Nat→Prop} {w w':World} {g:Nat} {b:BV} {vl vr vd:Value} (k:OutB w g b vl vr vd) (t:Kept X w w') (hx:X g):OutB w' g b vl vr vd :=
 ⟨⟨t.cell k.bd.c0 hx,t.cell k.bd.c1 hx,t.cell k.bd.c2 hx,t.cell k.bd.c3 hx,t.cell k.bd.c4 hx,t.cell k.bd.c5 hx,t.cell k.bd.c6 hx,t.cell k.bd.c7 hx,t.cell k.bd.c8 hx⟩,fun i hi=>(Touch.frozen t (p:=⟨g,i,none⟩) k.lt (fun n=>n hx)).trans (k.fz i hi)⟩
theorem OutB.new (w:World) (b:BV) (vl vr vd:Value) (t:TypeId) :
  OutB (w.alloc (.cells #[.int .u8 b.flags,vl,.int .u32 b.mask,vr,.int .u32 b.metric,.bool b.type2,.int .u32 b.fwd,.int .u32 b.tag,vd] t)) w.heap.size b vl vr vd:=⟨Bd.new w b vl vr vd t,fun i hi=>by simp [go_sem]⟩
theorem Qlx (N b:Nat) (rs:List Int) (q:Option Nat) (w:World) (h:Rdr N w b rs q) (hm:pbok (numAt rs q 4)=true) :
  Calls Tryz.prog 174 #[.agg #[.pointer (some ⟨b,0,none⟩)]] w fun e w'=>e=.returned (.int .u32 (numAt rs q 4))∧Rdr N w' b rs (nextAt rs q 4)∧Touch (fun k=>k=b) w w':=by
 have hb:=Qbx h.byte q 4
 have HN:=fun w (h:Rdr N w b rs q)=>rnum4 N b rs q w h
 generalize numAt rs q 4=x at hm hb HN ⊢
 go_enter Tryz.func174,Tryz.ntmps174
 go_wp2_with fail
 refine Calls.mono (HN _ (h.keep ((Touch.refl _ _).alloc _))) ?_
 rintro e w1 ⟨rfl,h1,t1⟩
 have T1:Hid (Touch (fun k=>k=b) w w1):=((Touch.refl _ w).alloc _).trans t1
 have H1:Hid (Rdr N w1 b rs (nextAt rs q 4)):=h1
 clear t1 h1 HN h
 go_wp2_with fail
 refine Calls.mono (Qdx x _ hb.1 hb.2) ?_
 rintro e w2 ⟨rfl,rfl⟩
 go_wp2_with fail
 refine Calls.mono (Qbd _ 28 _ (by first|rfl|exact hm)) ?_
 rintro e w2 ⟨rfl,rfl⟩
 go_wp2
 go_ret
 exact⟨rfl,H1.out,T1.out⟩
theorem Ql0 (N b:Nat) (rs:List Int) (q:Option Nat) (w:World) (h:Rdr N w b rs q) (hm:pbok (numAt rs q 4)=false) :
  Calls Tryz.prog 174 #[.agg #[.pointer (some ⟨b,0,none⟩)]] w fun e w'=>e=.panicked (flawC 28)∧Touch (fun k=>k=b) w w':=by
 have hb:=Qbx h.byte q 4
 have HN:=fun w (h:Rdr N w b rs q)=>rnum4 N b rs q w h
 generalize numAt rs q 4=x at hm hb HN ⊢
 go_enter Tryz.func174,Tryz.ntmps174
 go_wp2_with fail
 refine Calls.mono (HN _ (h.keep ((Touch.refl _ _).alloc _))) ?_
 rintro e w1 ⟨rfl,h1,t1⟩
 have T1:Hid (Touch (fun k=>k=b) w w1):=((Touch.refl _ w).alloc _).trans t1
 clear t1 h1 HN h
 go_wp2_with fail
 refine Calls.mono (Qdx x _ hb.1 hb.2) ?_
 rintro e w2 ⟨rfl,rfl⟩
 go_wp2_with fail
 refine Calls.mono (Qb4 _ 28 _ (by first|rfl|exact hm)) ?_
 rintro e w2 ⟨rfl,rfl⟩
 exact⟨rfl,rfl,T1.out⟩
theorem Qdk (N b:Nat) (rs:List Int) (q:Option Nat) (w:World) (h:Rdr N w b rs q) :
  Calls Tryz.prog 176 #[.agg #[.pointer (some ⟨b,0,none⟩)]] w fun e w'=>e=.returned (.int .u32 (numAt rs q 3))∧Rdr N w' b rs (nextAt rs q 3)∧Touch (fun k=>k=b) w w':=by
 have HN:=fun w (h:Rdr N w b rs q)=>rnum3 N b rs q w h
 generalize numAt rs q 3=x at HN ⊢
 go_enter Tryz.func176,Tryz.ntmps176
 go_wp2_with fail
 refine Calls.mono (HN _ (h.keep ((Touch.refl _ _).alloc _))) ?_
 rintro e w1 ⟨rfl,h1,t1⟩
 have T1:Hid (Touch (fun k=>k=b) w w1):=((Touch.refl _ w).alloc _).trans t1
 have H1:Hid (Rdr N w1 b rs (nextAt rs q 3)):=h1
 clear t1 h1 HN h
 go_wp2
 go_ret
 exact⟨rfl,H1.out,T1.out⟩
theorem Ql4 (N b:Nat) (n:Int) (hn:n=1∨n=2∨n=3∨n=4) (rs:List Int) (q:Option Nat) (w:World) (h:Rdr N w b rs q) :
  Calls Tryz.prog 175 #[.pointer (some ⟨b,0,none⟩),.int .i64 n] w fun e w'=>e=.returned (.int .u32 (numAt rs q n.toNat))∧Rdr N w' b rs (nextAt rs q n.toNat)∧Touch (fun k=>k=b) w w':=by
 rcases hn with rfl|rfl|rfl|rfl
 ·exact rnum1 N b rs q w h
 ·exact rnum2 N b rs q w h
 ·exact rnum3 N b rs q w h
 ·exact rnum4 N b rs q w h
theorem Qkc (N b:Nat) (n:Int) (hn:n=1∨n=2∨n=3∨n=4) (rs:List Int) (q:Option Nat) (w:World) (h:Rdr N w b rs q) (hz:numAt rs q n.toNat=0) :
  Calls Tryz.prog 182 #[.agg #[.pointer (some ⟨b,0,none⟩)],.int .i64 n] w fun e w'=>e=.returned (.tuple #[])∧Rdr N w' b rs (nextAt rs q n.toNat)∧Touch (fun k=>k=b) w w':=by
 have HN:=fun w (h:Rdr N w b rs q)=>Ql4 N b n hn rs q w h
 rw [hz] at HN
 go_enter Tryz.func182,Tryz.ntmps182
 go_wp2_with fail
 refine Calls.mono (HN _ (h.keep ((Touch.refl _ _).alloc _))) ?_
 rintro e w1 ⟨rfl,h1,t1⟩
 have T1:Hid (Touch (fun k=>k=b) w w1):=((Touch.refl _ w).alloc _).trans t1
 have H1:Hid (Rdr N w1 b rs (nextAt rs q n.toNat)):=h1
 clear t1 h1 HN h
 go_wp2_with fail
 refine Calls.mono (Qbd _ 28 _ rfl) ?_
 rintro e w2 ⟨rfl,rfl⟩
 go_wp2
 go_end0
 exact⟨rfl,H1.out,T1.out⟩
theorem Qi3 (N b:Nat) (n:Int) (hn:n=1∨n=2∨n=3∨n=4) (rs:List Int) (q:Option Nat) (w:World) (h:Rdr N w b rs q) (hz:¬numAt rs q n.toNat=0) :
  Calls Tryz.prog 182 #[.agg #[.pointer (some ⟨b,0,none⟩)],.int .i64 n] w fun e w'=>e=.panicked (flawC 28)∧Touch (fun k=>k=b) w w':=by
 have HN:=fun w (h:Rdr N w b rs q)=>Ql4 N b n hn rs q w h
 generalize numAt rs q n.toNat=x at HN hz
 have hzb:(x==0)=false:=by simpa using hz
 go_enter Tryz.func182,Tryz.ntmps182
 go_wp2_with fail
 refine Calls.mono (HN _ (h.keep ((Touch.refl _ _).alloc _))) ?_
 rintro e w1 ⟨rfl,h1,t1⟩
 have T1:Hid (Touch (fun k=>k=b) w w1):=((Touch.refl _ w).alloc _).trans t1
 clear t1 h1 HN h
 go_wp2_with fail
 refine Calls.mono (Qb4 _ 28 _ (by first|rfl|exact hzb)) ?_
 rintro e w2 ⟨rfl,rfl⟩
 exact⟨rfl,rfl,T1.out⟩
theorem Qg9 (N b:Nat) (rs:List Int) (p:Nat) (w:World) (h:Rdr N w b rs (some p)):Calls Tryz.prog 142 #[.pointer (some ⟨b,0,none⟩)] w fun e w'=>e=.returned (.int .i64 0)∧w=w':=Qn7 N b rs (some p) w h
theorem Qlz (N b:Nat) (rs:List Int) (w:World) (h:Rdr N w b rs none):Calls Tryz.prog 142 #[.pointer (some ⟨b,0,none⟩)] w fun e w'=>e=.returned (.int .i64 10)∧w=w':=Qn7 N b rs none w h
theorem Qbf {w:World} {g g':Nat} (hne:g≠g') (i j:Nat) (u:Value):(w.setCell ⟨g',j,none⟩ u).cell? ⟨g,i,none⟩=w.cell? ⟨g,i,none⟩ :=
 World.cell?_of_block (w:=w) (a:=⟨g,i,none⟩) (Below.heap_setCell _ _ _ _ (fun e=>hne e))
theorem Qfn {w:World} {g g':Nat} (hne:g≠g') (i:Nat) (u0 u1 u2 u3 u4 u5 u6 u7 u8:Value):((((((((((w.setCell ⟨g',0,none⟩ u0).setCell ⟨g',1,none⟩ u1).setCell ⟨g',2,none⟩ u2).setCell ⟨g',3,none⟩ u3).setCell ⟨g',4,none⟩ u4).setCell ⟨g',5,none⟩ u5).setCell ⟨g',6,none⟩ u6).setCell ⟨g',7,none⟩ u7).setCell ⟨g',8,none⟩ u8)).cell? ⟨g,i,none⟩=w.cell? ⟨g,i,none⟩:=by
 rw [Qbf hne,Qbf hne,Qbf hne,Qbf hne,Qbf hne,Qbf hne,Qbf hne,Qbf hne,Qbf hne]
structure BOwn (base:Nat) (w:World) (B:BV) (vl vr vd:Value):Prop where
 l:w.ownsRow base 140 4 vl B.links.length (linksC B.links)
 r:w.ownsRow base 23 1 vr B.routers.length (wordsC B.routers)
 d:w.ownsRow base 5 1 vd B.data.length (bytesOf B.data)
theorem BOwn.touch {F:Nat→Prop} {base:Nat} {w w':World} {B:BV} {vl vr vd:Value} (h:BOwn base w B vl vr vd) (t:Touch F w w') (hF:∀k,base≤k→¬F k):BOwn base w' B vl vr vd :=
 ⟨Qab h.l t (fun k hk=>hF k (h.l.lt k hk).1),Qab h.r t (fun k hk=>hF k (h.r.lt k hk).1),Qab h.d t (fun k hk=>hF k (h.d.lt k hk).1)⟩
theorem BOwn.keep {base:Nat} {w w':World} {B:BV} {vl vr vd:Value} (h:BOwn base w B vl vr vd) (t:Touch (fun _=>False) w w'):BOwn base w' B vl vr vd:=h.touch t (fun _ _ h=>h)
theorem BOwn.lower {base base':Nat} {w:World} {B:BV} {vl vr vd:Value} (h:BOwn base w B vl vr vd) (hb:base'≤base):BOwn base' w B vl vr vd:=⟨Qak h.l hb,Qak h.r hb,Qak h.d hb⟩
theorem Qal {w:World} {base e k n:Nat} {v:Value} {xs:List Value} (h:w.ownsRow base e k v n xs):∃a c,v=.slice a n c:=by
 rcases h.2 with⟨rfl,e⟩|⟨g,cap,cur,rfl,_⟩
 ·exact⟨none,0,by rw [e]⟩
 ·exact⟨_,cap,rfl⟩
theorem BOwn.form {base:Nat} {w:World} {B:BV} {vl vr vd:Value} (h:BOwn base w B vl vr vd):∃a1 q1 a3 q3 a8 q8,vl=.slice a1 B.links.length q1∧vr=.slice a3 B.routers.length q3∧vd=.slice a8 B.data.length q8:=by
 obtain⟨a1,q1,e1⟩:=Qal h.l
 obtain⟨a3,q3,e3⟩:=Qal h.r
 obtain⟨a8,q8,e8⟩:=Qal h.d
 exact⟨a1,q1,a3,q3,a8,q8,e1,e3,e8⟩
theorem BOwn.flat (base:Nat) (w:World) (x0 x2 x4 x6 x7:Int) (x5:Bool):BOwn base w ⟨x0,[],x2,[],x4,x5,x6,x7,[]⟩ (.slice none 0 0) (.slice none 0 0) (.slice none 0 0) :=
 ⟨World.ownsRow_nil _ _ _ _,World.ownsRow_nil _ _ _ _,World.ownsRow_nil _ _ _ _⟩
theorem Qcg {w:World} {base e k n:Nat} {v:Value} {xs:List Value} (h:w.ownsRow base e k v n xs):ValsAt w k v n xs:=by
 refine⟨h.1,?_⟩
 rcases h.2 with h2|⟨g,cap,cur,hv,hb,hh,h1,h2,h3,h4⟩
 ·exact Or.inl h2
 ·refine Or.inr ⟨_,cap,hv,h1,h2,fun j u hj=>?_⟩
  have hjl:=(List.getElem?_eq_some_iff.mp hj).1
  have hl:=h.1
  rw [Qah,Nat.zero_add]
  rw [←h4,List.getElem?_take,if_pos (by omega)] at hj
  simp [World.cell?,hh]
  simpa using hj
def RdPost (t:Int) (N b:Nat) (rs:List Int) (w:World):Ending→World→Prop:=fun e w' =>
 (∃B vl vr vd q,e=.returned (B.v vl vr vd)∧Rdr N w' b rs q∧BOwn w.heap.size w' B vl vr vd∧Touch (fun k=>k=b) w w'∧decB t rs=(if q=some rs.length then some B else none)) ∨
 (e=.panicked (flawC 28)∧Touch (fun k=>k=b) w w'∧decB t rs=none)
end Go.Proofs.YtldmkoogghemhaaGreat
