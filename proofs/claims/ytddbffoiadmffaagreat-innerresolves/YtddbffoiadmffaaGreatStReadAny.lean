import Derived.Test.YtddbffoiadmffaaGreatSumBytes2
import Derived.Deep.RegionHeld3
import Derived.Deep.RegionHeld2
namespace Go.Proofs.YtddbffoiadmffaaGreat
set_option maxHeartbeats 8000000
open Go.RowKit
set_option linter.unusedVariables false
set_option maxRecDepth 100000
def Room (w:World) (g n:Nat):Prop:=∀i,i<n→∃v,w.cell? ⟨g,i,none⟩=some v∧w.frozen? ⟨g,i,none⟩=false
theorem Room.keep {w w':World} {g n:Nat} (h:Room w g n) (t:Touch (fun _=>False) w w'):Room w' g n:=fun i hi=>by
 obtain⟨v,hc,hf⟩:=h i hi
 exact⟨v,t.cellN hc,(t.frozen (p:=⟨g,i,none⟩) (Qaa hc) (fun h=>h)).trans hf⟩
theorem Room.touch {F:Nat→Prop} {w w':World} {g n:Nat} (h:Room w g n) (t:Touch F w w') (hF:¬F g):Room w' g n:=fun i hi=>by
 obtain⟨v,hc,hf⟩:=h i hi
 exact⟨v,(t.cell (p:=⟨g,i,none⟩) (Qaa hc) hF).trans hc,(t.frozen (p:=⟨g,i,none⟩) (Qaa hc) hF).trans hf⟩
theorem Room.new (w:World) (C:Array Value) (t:TypeId):Room (w.alloc (.cells C t)) w.heap.size C.size:=fun i hi=>⟨C[i],by simp [go_sem,hi],by simp [go_sem]⟩
structure OutB (w:World) (g:Nat) (b:BV) (vl vr vd:Value):Prop where
 bd:Bd w g b vl vr vd
 fz:∀i,i<9→w.frozen? ⟨g,i,none⟩=false
theorem OutB.lt {w:World} {g:Nat} {b:BV} {vl vr vd:Value} (k:OutB w g b vl vr vd):g<w.heap.size:=Qaa k.bd.c0
theorem OutB.keep {w w':World} {g:Nat} {b:BV} {vl vr vd:Value} (k:OutB w g b vl vr vd) (t:Touch (fun _=>False) w w'):OutB w' g b vl vr vd :=
 ⟨k.bd.keep t,fun i hi=>(t.frozen (p:=⟨g,i,none⟩) k.lt (fun h=>h)).trans (k.fz i hi)⟩
theorem OutB.kept {X:Nat→Prop} {w w':World} {g:Nat} {b:BV} {vl vr vd:Value} (k:OutB w g b vl vr vd) (t:Kept X w w') (hx:X g):OutB w' g b vl vr vd :=
 ⟨⟨t.cell k.bd.c0 hx,t.cell k.bd.c1 hx,t.cell k.bd.c2 hx,t.cell k.bd.c3 hx,t.cell k.bd.c4 hx,t.cell k.bd.c5 hx,t.cell k.bd.c6 hx,t.cell k.bd.c7 hx,t.cell k.bd.c8 hx⟩,fun i hi=>(Touch.frozen t (p:=⟨g,i,none⟩) k.lt (fun n=>n hx)).trans (k.fz i hi)⟩
theorem OutB.new (w:World) (b:BV) (vl vr vd:Value) (t:TypeId) :
  OutB (w.alloc (.cells #[.int .u8 b.flags,vl,.int .u32 b.mask,vr,.int .u32 b.metric,.bool b.type2,.int .u32 b.fwd,.int .u32 b.tag,vd] t)) w.heap.size b vl vr vd:=⟨Bd.new w b vl vr vd t,fun i hi=>by simp [go_sem]⟩
theorem Qsj (N b:Nat) (n:Int) (hn:n=1∨n=2∨n=3∨n=4) (rs:List Int) (q:Option Nat) (w:World) (h:Rdr N w b rs q) :
  Calls Tryz.prog 234 #[.pointer (some ⟨b,0,none⟩),.int .i64 n] w fun e w'=>e=.returned (.int .u32 (numAt rs q n.toNat))∧Rdr N w' b rs (nextAt rs q n.toNat)∧Touch (fun k=>k=b) w w':=by
 rcases hn with rfl|rfl|rfl|rfl
 ·exact rnum1 N b rs q w h
 ·exact rnum2 N b rs q w h
 ·exact rnum3 N b rs q w h
 ·exact rnum4 N b rs q w h
theorem Qm5 (N b:Nat) (n:Int) (hn:n=1∨n=2∨n=3∨n=4) (rs:List Int) (q:Option Nat) (w:World) (h:Rdr N w b rs q) (hz:numAt rs q n.toNat=0) :
  Calls Tryz.prog 241 #[.agg #[.pointer (some ⟨b,0,none⟩)],.int .i64 n] w fun e w'=>e=.returned (.tuple #[])∧Rdr N w' b rs (nextAt rs q n.toNat)∧Touch (fun k=>k=b) w w':=by
 have HN:=fun w (h:Rdr N w b rs q)=>Qsj N b n hn rs q w h
 rw [hz] at HN
 go_enter Tryz.func241,Tryz.ntmps241
 go_wp2_with fail
 refine Calls.mono (HN _ (h.keep ((Touch.refl _ _).alloc _))) ?_
 rintro e w1 ⟨rfl,h1,t1⟩
 have T1:Hid (Touch (fun k=>k=b) w w1):=((Touch.refl _ w).alloc _).trans t1
 have H1:Hid (Rdr N w1 b rs (nextAt rs q n.toNat)):=h1
 clear t1 h1 HN h
 go_wp2_with fail
 refine Calls.mono (Qbm _ 28 _ rfl) ?_
 rintro e w2 ⟨rfl,rfl⟩
 go_wp2
 go_end0
 exact⟨rfl,H1.out,T1.out⟩
theorem Qnt (N b:Nat) (n:Int) (hn:n=1∨n=2∨n=3∨n=4) (rs:List Int) (q:Option Nat) (w:World) (h:Rdr N w b rs q) (hz:¬numAt rs q n.toNat=0) :
  Calls Tryz.prog 241 #[.agg #[.pointer (some ⟨b,0,none⟩)],.int .i64 n] w fun e w'=>e=.panicked (flawC 28)∧Touch (fun k=>k=b) w w':=by
 have HN:=fun w (h:Rdr N w b rs q)=>Qsj N b n hn rs q w h
 generalize numAt rs q n.toNat=x at HN hz
 have hzb:(x==0)=false:=by simpa using hz
 go_enter Tryz.func241,Tryz.ntmps241
 go_wp2_with fail
 refine Calls.mono (HN _ (h.keep ((Touch.refl _ _).alloc _))) ?_
 rintro e w1 ⟨rfl,h1,t1⟩
 have T1:Hid (Touch (fun k=>k=b) w w1):=((Touch.refl _ w).alloc _).trans t1
 clear t1 h1 HN h
 go_wp2_with fail
 refine Calls.mono (Qcd _ 28 _ (by first|rfl|exact hzb)) ?_
 rintro e w2 ⟨rfl,rfl⟩
 exact⟨rfl,rfl,T1.out⟩
def R8 (w:World) (g:Nat) (u0 u1 u2 u3 u4 u5 u6 u7:Value):Prop:=w.cell? ⟨g,0,none⟩=some u0∧w.frozen? ⟨g,0,none⟩=false∧w.cell? ⟨g,1,none⟩=some u1∧w.frozen? ⟨g,1,none⟩=false∧w.cell? ⟨g,2,none⟩=some u2∧w.frozen? ⟨g,2,none⟩=false∧w.cell? ⟨g,3,none⟩=some u3∧w.frozen? ⟨g,3,none⟩=false∧w.cell? ⟨g,4,none⟩=some u4∧w.frozen? ⟨g,4,none⟩=false∧w.cell? ⟨g,5,none⟩=some u5∧w.frozen? ⟨g,5,none⟩=false∧w.cell? ⟨g,6,none⟩=some u6∧w.frozen? ⟨g,6,none⟩=false∧w.cell? ⟨g,7,none⟩=some u7∧w.frozen? ⟨g,7,none⟩=false
theorem Qj3 (N b:Nat) (rs:List Int) (p:Nat) (w:World) (h:Rdr N w b rs (some p)):Calls Tryz.prog 178 #[.pointer (some ⟨b,0,none⟩)] w fun e w'=>e=.returned (.int .i64 0)∧w=w':=Qvj N b rs (some p) w h
theorem Qpb (N b:Nat) (rs:List Int) (w:World) (h:Rdr N w b rs none):Calls Tryz.prog 178 #[.pointer (some ⟨b,0,none⟩)] w fun e w'=>e=.returned (.int .i64 10)∧w=w':=Qvj N b rs none w h
theorem Qaz {w:World} {g g':Nat} (hne:g≠g') (i j:Nat) (u:Value):(w.setCell ⟨g',j,none⟩ u).cell? ⟨g,i,none⟩=w.cell? ⟨g,i,none⟩ :=
 World.cell?_of_block (w:=w) (a:=⟨g,i,none⟩) (Below.heap_setCell _ _ _ _ (fun e=>hne e))
theorem Qds {w:World} {g g':Nat} (hne:g≠g') (i:Nat) (u0 u1 u2 u3 u4 u5 u6 u7 u8:Value):((((((((((w.setCell ⟨g',0,none⟩ u0).setCell ⟨g',1,none⟩ u1).setCell ⟨g',2,none⟩ u2).setCell ⟨g',3,none⟩ u3).setCell ⟨g',4,none⟩ u4).setCell ⟨g',5,none⟩ u5).setCell ⟨g',6,none⟩ u6).setCell ⟨g',7,none⟩ u7).setCell ⟨g',8,none⟩ u8)).cell? ⟨g,i,none⟩=w.cell? ⟨g,i,none⟩:=by
 rw [Qaz hne,Qaz hne,Qaz hne,Qaz hne,Qaz hne,Qaz hne,Qaz hne,Qaz hne,Qaz hne]
structure BOwn (base:Nat) (w:World) (B:BV) (vl vr vd:Value):Prop where
 l:w.ownsRow base 115 4 vl B.links.length (linksC B.links)
 r:w.ownsRow base 23 1 vr B.routers.length (wordsC B.routers)
 d:w.ownsRow base 5 1 vd B.data.length (bytesOf B.data)
theorem BOwn.touch {F:Nat→Prop} {base:Nat} {w w':World} {B:BV} {vl vr vd:Value} (h:BOwn base w B vl vr vd) (t:Touch F w w') (hF:∀k,base≤k→¬F k):BOwn base w' B vl vr vd :=
 ⟨Qab h.l t (fun k hk=>hF k (h.l.lt k hk).1),Qab h.r t (fun k hk=>hF k (h.r.lt k hk).1),Qab h.d t (fun k hk=>hF k (h.d.lt k hk).1)⟩
theorem BOwn.keep {base:Nat} {w w':World} {B:BV} {vl vr vd:Value} (h:BOwn base w B vl vr vd) (t:Touch (fun _=>False) w w'):BOwn base w' B vl vr vd:=h.touch t (fun _ _ h=>h)
theorem BOwn.lower {base base':Nat} {w:World} {B:BV} {vl vr vd:Value} (h:BOwn base w B vl vr vd) (hb:base'≤base):BOwn base' w B vl vr vd:=⟨Qam h.l hb,Qam h.r hb,Qam h.d hb⟩
theorem Qah {w:World} {base e k n:Nat} {v:Value} {xs:List Value} (h:w.ownsRow base e k v n xs):∃a c,v=.slice a n c:=by
 rcases h.2 with⟨rfl,e⟩|⟨g,cap,cur,rfl,_⟩
 ·exact⟨none,0,by rw [e]⟩
 ·exact⟨_,cap,rfl⟩
theorem BOwn.form {base:Nat} {w:World} {B:BV} {vl vr vd:Value} (h:BOwn base w B vl vr vd):∃a1 q1 a3 q3 a8 q8,vl=.slice a1 B.links.length q1∧vr=.slice a3 B.routers.length q3∧vd=.slice a8 B.data.length q8:=by
 obtain⟨a1,q1,e1⟩:=Qah h.l
 obtain⟨a3,q3,e3⟩:=Qah h.r
 obtain⟨a8,q8,e8⟩:=Qah h.d
 exact⟨a1,q1,a3,q3,a8,q8,e1,e3,e8⟩
theorem Qbd {w:World} {base e k n:Nat} {v:Value} {xs:List Value} (h:w.ownsRow base e k v n xs):ValsAt w k v n xs:=by
 refine⟨h.1,?_⟩
 rcases h.2 with h2|⟨g,cap,cur,hv,hb,hh,h1,h2,h3,h4⟩
 ·exact Or.inl h2
 ·refine Or.inr ⟨_,cap,hv,h1,h2,fun j u hj=>?_⟩
  have hjl:=(List.getElem?_eq_some_iff.mp hj).1
  have hl:=h.1
  rw [Qae,Nat.zero_add]
  rw [←h4,List.getElem?_take,if_pos (by omega)] at hj
  simp [World.cell?,hh]
  simpa using hj
theorem BOwn.arg {base:Nat} {w:World} {B:BV} {vl vr vd:Value} (h:BOwn base w B vl vr vd):BArg w B vl vr vd :=
 ⟨Qbd h.l,Qbd h.r,(Qcw h.d).arg⟩
theorem OutB.row1 {w:World} {g:Nat} {b:BV} {vl vr vd:Value} (k:OutB w g b vl vr vd) (l:List LV) (u:Value):OutB (w.setCell ⟨g,1,none⟩ u) g { b with links:=l } u vr vd:=by
 obtain⟨⟨c0,c1,c2,c3,c4,c5,c6,c7,c8⟩,fz⟩:=k
 exact⟨⟨by simp [c0,go_sem],by simp [c1,go_sem],by simp [c2,go_sem],by simp [c3,go_sem],by simp [c4,go_sem],by simp [c5,go_sem],by simp [c6,go_sem],by simp [c7,go_sem],by simp [c8,go_sem]⟩,fun i hi=>by simp [fz i hi,go_sem]⟩
def RdPost (t:Int) (N b:Nat) (rs:List Int) (w:World):Ending→World→Prop:=fun e w' =>
 (∃B vl vr vd q,e=.returned (B.v vl vr vd)∧Rdr N w' b rs q∧BOwn w.heap.size w' B vl vr vd∧Touch (fun k=>k=b) w w'∧decB t rs=(if q=some rs.length then some B else none)) ∨
 (e=.panicked (flawC 28)∧Touch (fun k=>k=b) w w'∧decB t rs=none)
def RdAns (t:Int) (rs:List Int) (w:World):Ending→World→Prop:=fun e w' =>
 (∃B vl vr vd,e=.returned (B.v vl vr vd)∧decB t rs=some B∧BOwn w.heap.size w' B vl vr vd∧Touch (fun _=>False) w w')∨(e=.panicked (flawC 28)∧decB t rs=none∧Touch (fun _=>False) w w')
theorem Qoa (N b:Nat) (rs:List Int) (w:World) (h:Rdr N w b rs none):Calls Tryz.prog 179 #[.pointer (some ⟨b,0,none⟩)] w fun e w'=>e=.returned (.int .i64 0)∧∃n,w'=w.drewN n:=Qs4 N b rs none w h
theorem Qdo (N b p:Nat) (rs:List Int) (w:World) (h:Rdr N w b rs (some p)):Calls Tryz.prog 179 #[.pointer (some ⟨b,0,none⟩)] w fun e w'=>e=.returned (.int .i64 ((rs.length:Int)-p))∧∃n,w'=w.drewN n:=Qs4 N b rs (some p) w h
theorem Qsh (G1 G2:Nat) (hG:∀(x:Array Value) w,(callFunc G2 x).run Tryz.prog w=.ok (.enter G2 x) w) (t:Int) (v:Value) (rs:List Int) (w:World) (hv:ArgAt w v rs) (hby:∀z∈rs,0≤z∧z<256) (hl:rs.length≤1000000)
  (HR:∀(N b:Nat) (w:World),Rdr N w b rs (some 0)→N≤w.heap.size→Calls Tryz.prog G2 #[.agg #[.pointer (some ⟨b,0,none⟩)]] w (RdPost t N b rs w)) :
  Calls Tryz.prog 145 #[.agg #[.func (.func G1) #[] #[],.func (.func G2) #[] #[]],v] w (RdAns t rs w):=by
 have hsf:∀(w:World) (a:Addr) (f:Fn) (x y:Array Value) (m:Mode),(store a (.func f x y) m).run Tryz.prog w=stored Tryz.prog w a (.func f x y) m:=fun w a f x y m=>run_store Tryz.prog w a _ m rfl
 have HVA:Hid (ArgAt w v rs):=hv
 have HBy:Hid (∀z∈rs,0≤z∧z<256):=hby
 have HRs:Hid (∀(N b:Nat) (w:World),Rdr N w b rs (some 0)→N≤w.heap.size→Calls Tryz.prog G2 #[.agg #[.pointer (some ⟨b,0,none⟩)]] w (RdPost t N b rs w)):=HR
 clear hv hby HR
 go_enter Tryz.func145,Tryz.ntmps145
 go_wp2_with fail
 refine Calls.mono (Qwi v rs _ (HVA.out.keepN (((Touch.refl _ _).alloc _).alloc _)) HBy.out (by omega)) ?_
 rintro e w1 ⟨b,rfl,hb,hr,t1⟩
 have R1:Hid (Room w1 (w.heap.size+1) 9):=by
  have:=(Room.new (w.alloc (.cells #[.func (.func G1) #[] #[],.func (.func G2) #[] #[]] 248)) #[.int .u8 0,.slice none 0 0,.int .u32 0,.slice none 0 0,.int .u32 0,.bool false,.int .u32 0,.int .u32 0,.slice none 0 0] 119).keep t1
  show Room _ _ _
  simpa using this
 have c0:w1.cell? ⟨w.heap.size,0,none⟩=some (.func (.func G1) #[] #[]):=t1.cellN (by simp [go_sem])
 have c1:w1.cell? ⟨w.heap.size,1,none⟩=some (.func (.func G2) #[] #[]):=t1.cellN (by simp [go_sem])
 have T1:Hid (Touch (fun _=>False) w w1):=(((Touch.refl _ w).alloc _).alloc _).trans t1
 have hbw:w.heap.size+1<b:=by simp at hb;omega
 have hs1:w.heap.size+1<w1.heap.size:=by have:=t1.size;simp at this;omega
 have hlt:w.heap.size<w1.heap.size:=by omega
 have hbl:b<w1.heap.size:=hr.low
 have hn1:¬w.heap.size=w1.heap.size:=by omega
 have HR:Hid (Rdr w1.heap.size w1 b rs (some 0)):=hr
 clear t1 hb hr
 go_wp2_with fail
 refine Calls.mono (HRs.out w1.heap.size b _ (HR.out.keep ((Touch.refl _ _).alloc _)) (by simp)) ?_
 rintro e w2 (⟨B,vl,vr,vd,q,rfl,h2,o2,t2,hd⟩|⟨rfl,t2,hd⟩)
 rotate_left
 ·exact⟨rfl,Or.inr ⟨rfl,hd,(T1.out.alloc _).trans' t2 (fun i hi e=>by omega)⟩⟩
 have c2:w2.cell? ⟨w1.heap.size,0,none⟩=some (.pointer (some ⟨b,0,none⟩)):=(t2.cell (p:=⟨w1.heap.size,0,none⟩) (by simp) (by show ¬w1.heap.size=b;omega)).trans (by simp [go_sem])
 have R2:Hid (Room w2 (w.heap.size+1) 9):=(R1.out.keep ((Touch.refl _ _).alloc _)).touch t2 (by show ¬w.heap.size+1=b;omega)
 have T2:Hid (Touch (fun _=>False) w w2):=(T1.out.alloc _).trans' t2 (fun i hi e=>by omega)
 have hs2:w1.heap.size<w2.heap.size:=by have:=t2.size;simp at this;omega
 have H2:Hid (Rdr w1.heap.size w2 b rs q):=h2
 have hn3:¬w1.heap.size=w2.heap.size:=by omega
 have O2:Hid (BOwn (w1.heap.size+1) w2 B vl vr vd):=by show BOwn _ _ _ _ _ _;simpa using o2
 have HD:Hid (decB t rs=(if q=some rs.length then some B else none)):=hd
 obtain⟨a1,q1,a3,q3,a8,q8,rfl,rfl,rfl⟩:=o2.form
 clear t2 h2 HRs HR R1 T1 c0 c1 hsf o2 hd hG
 unfold BV.v
 have TB:Hid (Touch (fun _=>False) w (w2.alloc (.cells #[.int .u8 B.flags,.slice a1 B.links.length q1,.int .u32 B.mask,.slice a3 B.routers.length q3,.int .u32 B.metric,.bool B.type2,.int .u32 B.fwd,.int .u32 B.tag,.slice a8 B.data.length q8] 119))):=T2.out.alloc _
 cases q with
 | none =>
  go_wp2_with (first|(go_at_call 178;refine Calls.mono (Qpb _ b rs _ (H2.out.keep ((Touch.refl _ _).alloc _))) ?_;rintro e wx ⟨rfl,rfl⟩)|(go_at_call 140;refine Calls.mono (Qcd _ 28 _ rfl) ?_;rintro e wx ⟨rfl,rfl⟩))
  exact⟨rfl,Or.inr ⟨rfl,by rw [HD.out,if_neg (by simp)],TB.out⟩⟩
 | some p =>
  have hpl:p≤rs.length:=H2.out.ple
  by_cases hp:p=rs.length
  ·subst hp
   have HDD:Hid (decB t rs=some B):=by show _=_;rw [HD.out,if_pos rfl]
   have hzz:((rs.length:Int)-(rs.length:Int))=0:=by omega
   have HLF:∀(N b:Nat) (w:World),Rdr N w b rs (some rs.length)→Calls Tryz.prog 179 #[.pointer (some ⟨b,0,none⟩)] w fun e w'=>e=.returned (.int .i64 0)∧∃n,w'=w.drewN n:=fun N b w h=>by
    have:=Qdo N b rs.length rs w h
    rwa [hzz] at this
   clear hzz hpl HD
   go_upto_region 4 with (first|(go_at_call 178;refine Calls.mono (Qj3 _ b rs rs.length _ (H2.out.keep ((Touch.refl _ _).alloc _))) ?_;rintro e wx ⟨rfl,rfl⟩)|(go_at_call 179;refine Calls.mono (HLF _ b _ (H2.out.keep ((Touch.refl _ _).alloc _))) ?_;rintro e wx ⟨rfl,nl,rfl⟩)|(go_at_call 140;refine Calls.mono (Qbm _ 28 _ rfl) ?_;rintro e wx ⟨rfl,rfl⟩))
   have O3:OutB ((w2.alloc (.cells #[.int .u8 B.flags,.slice a1 B.links.length q1,.int .u32 B.mask,.slice a3 B.routers.length q3,.int .u32 B.metric,.bool B.type2,.int .u32 B.fwd,.int .u32 B.tag,.slice a8 B.data.length q8] 119)).drewN nl) w2.heap.size B (.slice a1 B.links.length q1) (.slice a3 B.routers.length q3) (.slice a8 B.data.length q8):=(OutB.new w2 B (.slice a1 B.links.length q1) (.slice a3 B.routers.length q3) (.slice a8 B.data.length q8) 119).keep ((Touch.refl _ _).drewN nl)
   have R3:Hid (Room ((w2.alloc (.cells #[.int .u8 B.flags,.slice a1 B.links.length q1,.int .u32 B.mask,.slice a3 B.routers.length q3,.int .u32 B.metric,.bool B.type2,.int .u32 B.fwd,.int .u32 B.tag,.slice a8 B.data.length q8] 119)).drewN nl) (w.heap.size+1) 9):=R2.out.keep (((Touch.refl _ _).alloc _).drewN nl)
   have T3:Hid (Touch (fun _=>False) w ((w2.alloc (.cells #[.int .u8 B.flags,.slice a1 B.links.length q1,.int .u32 B.mask,.slice a3 B.routers.length q3,.int .u32 B.metric,.bool B.type2,.int .u32 B.fwd,.int .u32 B.tag,.slice a8 B.data.length q8] 119)).drewN nl)):=(T2.out.alloc _).drewN nl
   have P3:Hid (BOwn (w1.heap.size+1) ((w2.alloc (.cells #[.int .u8 B.flags,.slice a1 B.links.length q1,.int .u32 B.mask,.slice a3 B.routers.length q3,.int .u32 B.metric,.bool B.type2,.int .u32 B.fwd,.int .u32 B.tag,.slice a8 B.data.length q8] 119)).drewN nl) B (.slice a1 B.links.length q1) (.slice a3 B.routers.length q3) (.slice a8 B.data.length q8)):=O2.out.keep (((Touch.refl _ _).alloc _).drewN nl)
   clear R2 T2 H2 HLF c2 TB O2
   generalize (w2.alloc (.cells #[.int .u8 B.flags,.slice a1 B.links.length q1,.int .u32 B.mask,.slice a3 B.routers.length q3,.int .u32 B.metric,.bool B.type2,.int .u32 B.fwd,.int .u32 B.tag,.slice a8 B.data.length q8] 119)).drewN nl=w3 at *
   obtain⟨⟨d0,d1,d2,d3,d4,d5,d6,d7,d8⟩,-⟩:=O3
   have hm1:¬w.heap.size+1=w2.heap.size:=by omega
   have hm2:¬w2.heap.size=w.heap.size+1:=by omega
   generalize hg:w.heap.size+1=g at *
   have HG:Hid (w.heap.size+1=g):=hg
   have HS1:Hid (g<w1.heap.size):=hs1
   clear hg
   obtain⟨zz0,zc0,zf0⟩:=R3.out 0 (by omega)
   obtain⟨zz1,zc1,zf1⟩:=R3.out 1 (by omega)
   obtain⟨zz2,zc2,zf2⟩:=R3.out 2 (by omega)
   obtain⟨zz3,zc3,zf3⟩:=R3.out 3 (by omega)
   obtain⟨zz4,zc4,zf4⟩:=R3.out 4 (by omega)
   obtain⟨zz5,zc5,zf5⟩:=R3.out 5 (by omega)
   obtain⟨zz6,zc6,zf6⟩:=R3.out 6 (by omega)
   obtain⟨zz7,zc7,zf7⟩:=R3.out 7 (by omega)
   obtain⟨zz8,zc8,zf8⟩:=R3.out 8 (by omega)
   obtain⟨wz,hwz⟩:∃wz,wz=(((((((((w3.setCell ⟨g,0,none⟩ (.int .u8 B.flags)).setCell ⟨g,1,none⟩ (.slice a1 B.links.length q1)).setCell ⟨g,2,none⟩ (.int .u32 B.mask)).setCell ⟨g,3,none⟩ (.slice a3 B.routers.length q3)).setCell ⟨g,4,none⟩ (.int .u32 B.metric)).setCell ⟨g,5,none⟩ (.bool B.type2)).setCell ⟨g,6,none⟩ (.int .u32 B.fwd)).setCell ⟨g,7,none⟩ (.int .u32 B.tag)).setCell ⟨g,8,none⟩ (.slice a8 B.data.length q8)):=⟨_,rfl⟩
   have zd0:wz.cell? ⟨g,0,none⟩=some (.int .u8 B.flags):=by rw [hwz];simp [zc0,go_sem]
   have zd1:wz.cell? ⟨g,1,none⟩=some (.slice a1 B.links.length q1):=by rw [hwz];simp [zc1,go_sem]
   have zd2:wz.cell? ⟨g,2,none⟩=some (.int .u32 B.mask):=by rw [hwz];simp [zc2,go_sem]
   have zd3:wz.cell? ⟨g,3,none⟩=some (.slice a3 B.routers.length q3):=by rw [hwz];simp [zc3,go_sem]
   have zd4:wz.cell? ⟨g,4,none⟩=some (.int .u32 B.metric):=by rw [hwz];simp [zc4,go_sem]
   have zd5:wz.cell? ⟨g,5,none⟩=some (.bool B.type2):=by rw [hwz];simp [zc5,go_sem]
   have zd6:wz.cell? ⟨g,6,none⟩=some (.int .u32 B.fwd):=by rw [hwz];simp [zc6,go_sem]
   have zd7:wz.cell? ⟨g,7,none⟩=some (.int .u32 B.tag):=by rw [hwz];simp [zc7,go_sem]
   have zd8:wz.cell? ⟨g,8,none⟩=some (.slice a8 B.data.length q8):=by rw [hwz];simp [zc8,go_sem]
   have HUz:Hid (Touch (fun k=>k=g) w3 wz):=by show Touch _ _ _;rw [hwz];refine Touch.setCell (F:=fun k=>k=g) (p:=⟨g,8,none⟩) ?_ (Or.inl rfl) _;refine Touch.setCell (F:=fun k=>k=g) (p:=⟨g,7,none⟩) ?_ (Or.inl rfl) _;refine Touch.setCell (F:=fun k=>k=g) (p:=⟨g,6,none⟩) ?_ (Or.inl rfl) _;refine Touch.setCell (F:=fun k=>k=g) (p:=⟨g,5,none⟩) ?_ (Or.inl rfl) _;refine Touch.setCell (F:=fun k=>k=g) (p:=⟨g,4,none⟩) ?_ (Or.inl rfl) _;refine Touch.setCell (F:=fun k=>k=g) (p:=⟨g,3,none⟩) ?_ (Or.inl rfl) _;refine Touch.setCell (F:=fun k=>k=g) (p:=⟨g,2,none⟩) ?_ (Or.inl rfl) _;refine Touch.setCell (F:=fun k=>k=g) (p:=⟨g,1,none⟩) ?_ (Or.inl rfl) _;refine Touch.setCell (F:=fun k=>k=g) (p:=⟨g,0,none⟩) ?_ (Or.inl rfl) _;exact Touch.refl _ _
   have HWz:Hid (wz=(((((((((w3.setCell ⟨g,0,none⟩ (.int .u8 B.flags)).setCell ⟨g,1,none⟩ (.slice a1 B.links.length q1)).setCell ⟨g,2,none⟩ (.int .u32 B.mask)).setCell ⟨g,3,none⟩ (.slice a3 B.routers.length q3)).setCell ⟨g,4,none⟩ (.int .u32 B.metric)).setCell ⟨g,5,none⟩ (.bool B.type2)).setCell ⟨g,6,none⟩ (.int .u32 B.fwd)).setCell ⟨g,7,none⟩ (.int .u32 B.tag)).setCell ⟨g,8,none⟩ (.slice a8 B.data.length q8))):=hwz
   clear hwz
   go_wp2_with fail
   rw [←HWz.out]
   clear HWz zc0 zf0 zc1 zf1 zc2 zf2 zc3 zf3 zc4 zf4 zc5 zf5 zc6 zf6 zc7 zf7 zc8 zf8
   refine bodyPost_ret (v:=.agg #[.int .u8 B.flags,.slice a1 B.links.length q1,.int .u32 B.mask,.slice a3 B.routers.length q3,.int .u32 B.metric,.bool B.type2,.int .u32 B.fwd,.int .u32 B.tag,.slice a8 B.data.length q8]) (by simp [results,Tryz.results145,go_sem,zd0,zd1,zd2,zd3,zd4,zd5,zd6,zd7,zd8]) rfl ?_
   refine Or.inl ⟨B,_,_,_,rfl,HDD.out,(P3.out.touch HUz.out (fun k hk e=>by have:=HS1.out;omega)).lower (by have:=HS1.out;have:=HG.out;omega),T3.out.trans' HUz.out (fun i hi e=>by have:=HG.out;omega)⟩
  ·have hzz:(((rs.length:Int)-(p:Int))==0)=false:=by simp;omega
   have HDD:Hid (decB t rs=none):=by show _=_;rw [HD.out,if_neg (by simpa using hp)]
   have HLF:=fun w h=>Qdo w1.heap.size b p rs w h
   generalize (rs.length:Int)-(p:Int)=lf at hzz HLF
   clear HD hp hpl
   go_wp2_with (first|(go_at_call 178;refine Calls.mono (Qj3 _ b rs p _ (H2.out.keep ((Touch.refl _ _).alloc _))) ?_;rintro e wx ⟨rfl,rfl⟩)|(go_at_call 179;refine Calls.mono (HLF _ (H2.out.keep ((Touch.refl _ _).alloc _))) ?_;rintro e wx ⟨rfl,nl,rfl⟩)|(go_at_call 140;refine Calls.mono (Qcd _ 28 _ (by first|rfl|exact hzz)) ?_;rintro e wx ⟨rfl,rfl⟩))
   exact⟨rfl,Or.inr ⟨rfl,HDD.out,TB.out.drewN nl⟩⟩
end Go.Proofs.YtddbffoiadmffaaGreat
