import Derived.Test.YtddbffoiadmffaaGreatStHead
import Derived.Test.YtddbffoiadmffaaGreatRdAll2
import Derived.Test.YtddbffoiadmffaaGreatStaRd
import Derived.Test.YtddbffoiadmffaaGreatOwnUn
import Derived.Test.YtddbffoiadmffaaGreatWrAll2
import Derived.Deep.LoopGhost
import Derived.Shelf.SlSortCmp.WholeK
import Derived.Shelf.SlGeneric
import Derived.Ground.SlsfProg
import Derived.Shelf.SlSortCmp.NoneTotal
import Derived.Test.YtddbffoiadmffaaGreatRows
import Derived.Test.YtddbffoiadmffaaGreatParts
import Derived.Sort.Grow
namespace Go.Proofs.YtddbffoiadmffaaGreat
open Go.RowKit
set_option linter.unusedVariables false
set_option maxRecDepth 100000
structure OutB (w:World) (g:Nat) (b:BV) (vl vr vd:Value):Prop where
 bd:Bd w g b vl vr vd
 fz:∀ i,i<9→w.frozen? ⟨g,i,none⟩=false
theorem OutB.lt {w:World} {g:Nat} {b:BV} {vl vr vd:Value} (k:OutB w g b vl vr vd):g<w.heap.size:=lt_of_cell k.bd.c0
theorem OutB.keep {w w':World} {g:Nat} {b:BV} {vl vr vd:Value} (k:OutB w g b vl vr vd) (t:Touch (fun _=>False) w w'):OutB w' g b vl vr vd :=
 ⟨k.bd.keep t,fun i hi=>(t.frozen (p:=⟨g,i,none⟩) k.lt (fun h=>h)).trans (k.fz i hi)⟩
theorem OutB.kept {X:Nat→Prop} {w w':World} {g:Nat} {b:BV} {vl vr vd:Value} (k:OutB w g b vl vr vd) (t:Kept X w w') (hx:X g):OutB w' g b vl vr vd :=
 ⟨⟨t.cell k.bd.c0 hx,t.cell k.bd.c1 hx,t.cell k.bd.c2 hx,t.cell k.bd.c3 hx,t.cell k.bd.c4 hx,t.cell k.bd.c5 hx,t.cell k.bd.c6 hx,t.cell k.bd.c7 hx,t.cell k.bd.c8 hx⟩,fun i hi=>(Touch.frozen t (p:=⟨g,i,none⟩) k.lt (fun n=>n hx)).trans (k.fz i hi)⟩
theorem OutB.new (w:World) (b:BV) (vl vr vd:Value) (t:TypeId) :
  OutB (w.alloc (.cells #[.int .u8 b.flags,vl,.int .u32 b.mask,vr,.int .u32 b.metric,.bool b.type2,.int .u32 b.fwd,.int .u32 b.tag,vd] t)) w.heap.size b vl vr vd:=⟨Bd.new w b vl vr vd t,fun i hi=>by simp [go_sem]⟩
structure BOwn (base:Nat) (w:World) (B:BV) (vl vr vd:Value):Prop where
 l:w.ownsRow base 115 4 vl B.links.length (linksC B.links)
 r:w.ownsRow base 23 1 vr B.routers.length (wordsC B.routers)
 d:w.ownsRow base 5 1 vd B.data.length (bytesOf B.data)
theorem BOwn.touch {F:Nat→Prop} {base:Nat} {w w':World} {B:BV} {vl vr vd:Value} (h:BOwn base w B vl vr vd) (t:Touch F w w') (hF:∀ k,base≤k→¬ F k):BOwn base w' B vl vr vd :=
 ⟨own_touch h.l t (fun k hk=>hF k (h.l.lt k hk).1),own_touch h.r t (fun k hk=>hF k (h.r.lt k hk).1),own_touch h.d t (fun k hk=>hF k (h.d.lt k hk).1)⟩
theorem BOwn.keep {base:Nat} {w w':World} {B:BV} {vl vr vd:Value} (h:BOwn base w B vl vr vd) (t:Touch (fun _=>False) w w'):BOwn base w' B vl vr vd:=h.touch t (fun _ _ h=>h)
theorem BOwn.lower {base base':Nat} {w:World} {B:BV} {vl vr vd:Value} (h:BOwn base w B vl vr vd) (hb:base'≤base):BOwn base' w B vl vr vd:=⟨own_lower h.l hb,own_lower h.r hb,own_lower h.d hb⟩
theorem own_fm {w:World} {base e k n:Nat} {v:Value} {xs:List Value} (h:w.ownsRow base e k v n xs):∃ a c,v=.slice a n c:=by
 rcases h.2 with ⟨rfl,e⟩ | ⟨g,cap,cur,rfl,_⟩
 ·exact ⟨none,0,by rw [e]⟩
 ·exact ⟨_,cap,rfl⟩
theorem BOwn.form {base:Nat} {w:World} {B:BV} {vl vr vd:Value} (h:BOwn base w B vl vr vd):∃ a1 q1 a3 q3 a8 q8,vl=.slice a1 B.links.length q1∧vr=.slice a3 B.routers.length q3∧vd=.slice a8 B.data.length q8:=by
 obtain ⟨a1,q1,e1⟩:=own_fm h.l
 obtain ⟨a3,q3,e3⟩:=own_fm h.r
 obtain ⟨a8,q8,e8⟩:=own_fm h.d
 exact ⟨a1,q1,a3,q3,a8,q8,e1,e3,e8⟩
theorem BOwn.flat (base:Nat) (w:World) (x0 x2 x4 x6 x7:Int) (x5:Bool):BOwn base w ⟨x0,[],x2,[],x4,x5,x6,x7,[]⟩ (.slice none 0 0) (.slice none 0 0) (.slice none 0 0) :=
 ⟨World.ownsRow_nil _ _ _ _,World.ownsRow_nil _ _ _ _,World.ownsRow_nil _ _ _ _⟩
theorem own_vals {w:World} {base e k n:Nat} {v:Value} {xs:List Value} (h:w.ownsRow base e k v n xs):ValsAt w k v n xs:=by
 refine ⟨h.1,?_⟩
 rcases h.2 with h2 | ⟨g,cap,cur,hv,hb,hh,h1,h2,h3,h4⟩
 ·exact Or.inl h2
 ·refine Or.inr ⟨_,cap,hv,h1,h2,fun j u hj=>?_⟩
  have hjl:=(List.getElem?_eq_some_iff.mp hj).1
  have hl:=h.1
  rw [add_plain,Nat.zero_add]
  rw [← h4,List.getElem?_take,if_pos (by omega)] at hj
  simp [World.cell?,hh]
  simpa using hj
theorem BOwn.arg {base:Nat} {w:World} {B:BV} {vl vr vd:Value} (h:BOwn base w B vl vr vd):BArg w B vl vr vd :=
 ⟨own_vals h.l,own_vals h.r,(own_rowAt h.d).arg⟩
theorem OutB.row3 {w:World} {g:Nat} {b:BV} {vl vr vd:Value} (k:OutB w g b vl vr vd) (l:List Int) (u:Value):OutB (w.setCell ⟨g,3,none⟩ u) g { b with routers:=l } vl u vd:=by
 obtain ⟨⟨c0,c1,c2,c3,c4,c5,c6,c7,c8⟩,fz⟩:=k
 exact ⟨⟨by simp [c0,go_sem],by simp [c1,go_sem],by simp [c2,go_sem],by simp [c3,go_sem],by simp [c4,go_sem],by simp [c5,go_sem],by simp [c6,go_sem],by simp [c7,go_sem],by simp [c8,go_sem]⟩,fun i hi=>by simp [fz i hi,go_sem]⟩
theorem OutB.row1 {w:World} {g:Nat} {b:BV} {vl vr vd:Value} (k:OutB w g b vl vr vd) (l:List LV) (u:Value):OutB (w.setCell ⟨g,1,none⟩ u) g { b with links:=l } u vr vd:=by
 obtain ⟨⟨c0,c1,c2,c3,c4,c5,c6,c7,c8⟩,fz⟩:=k
 exact ⟨⟨by simp [c0,go_sem],by simp [c1,go_sem],by simp [c2,go_sem],by simp [c3,go_sem],by simp [c4,go_sem],by simp [c5,go_sem],by simp [c6,go_sem],by simp [c7,go_sem],by simp [c8,go_sem]⟩,fun i hi=>by simp [fz i hi,go_sem]⟩
def RdPost (t:Int) (N b:Nat) (rs:List Int) (w:World):Ending→World→Prop:=fun e w' =>
 (∃ B vl vr vd q,e=.returned (B.v vl vr vd)∧Rdr N w' b rs q∧BOwn w.heap.size w' B vl vr vd∧Touch (fun k=>k=b) w w'∧decB t rs=(if q=some rs.length then some B else none)) ∨
 (e=.panicked (flawC 28)∧Touch (fun k=>k=b) w w'∧decB t rs=none)
abbrev STp:=HV×List Int
def SE.pr (x:SE):STp:=(x.h,x.rs)
theorem infoS9g:(Tryz.prog.info? 57).map (fun i=>(i.zero,i.size,i.bytes))=some (some (.agg #[.int .u16 0,.int .u8 0,.int .u8 0,.int .u32 0,.int .u32 0,.int .i32 0,.int .u16 0,.int .u16 0,.slice none 0 0]),9,48):=by kernel_rfl
section
variable {ops:Array Oper} {rest:List Oper} {o:Oper} {a:Act} {Q:Exit→Act→World→Prop} {w:World}
theorem gapp_own2 (hgd:o.guard=none) (s x:Operand) (t:TypeId) (ho:o.op=.call { callee:=.builtin .append,args:=#[s,x],argTypes:=#[t,t] })
  (e k bytes:Nat) (z:Value) (ht:Tryz.prog.underlying t=some (.slice e)) (hi:(Tryz.prog.info? e).map (fun i=>(i.zero,i.size,i.bytes))=some (some z,k,bytes)) (hzs:z.cells.size=k) (hk:0<k) (hby:bytes≤64)
  (base:Nat) (v:Value) (n:Nat) (xs:List Value) (hs:a.eval s=v) (hb:w.ownsRow base e k v n xs) (hbase:base≤w.heap.size) (ad:Addr) (m c:Nat) (news:List Value) (hx:a.eval x=.slice (some ad) m c) (hnl:news.length=m * k) (hr:∀ j u,news[j]?=some u→w.cell? (ad.add j)=some u) (h1:∀ u∈news,u.oneCell'=true) (hl:n+m≤1099511627776)
  (h:∀ v' w',w'.ownsRow base e k v' (n+m) (xs ++ news)→Touch (fun j=>v.ownBlock=some j) w w'→wpList Tryz.prog ops Q rest (a.put o.dst v') w'):wpList Tryz.prog ops Q (o :: rest) a w:=by
 obtain ⟨i0,hi,hz0,hz1,hz2⟩:=info_parts hi
 have hmul:(n+m) * bytes≤1099511627776 * 64:=Nat.mul_le_mul hl hby
 refine wpList_append_own_at w hgd s x t ho base e i0 z k bytes ht hi hz0 hz1 hz2 hzs hk v n xs hs hb ad m c news hx hnl hr h1 (by unfold maxLen; omega) (by omega) hbase ?_
 intro v' w' hown hg _ _
 exact h v' w' hown ((Touch.refl _ _).grown hg (fun k hk=>Or.inl hk))
end
structure GCsR (ks:List SE) (w:World) (gg:Nat) (s3 s4:Value) (wr:World):Prop where
 out:∃ (j:Nat) (l:List SE) (sa:Option Addr) (sc:Nat),j≤ks.length∧gg=ks.length - j∧s4=.int .i64 (j:Int)∧s3=.slice sa j sc∧l.map SE.pr=(ks.take j).map SE.pr∧l.length=j∧wr.ownsRow w.heap.size 57 9 (.slice sa j sc) j (statesC l)∧(∀ x∈l,wr.ownsRow w.heap.size 5 1 x.v x.rs.length (bytesOf x.rs))∧Touch (fun _=>False) w wr
set_option maxHeartbeats 2000000 in
theorem gcstates (v:Value) (ks:List SE) (w:World) (hv:StatesAt w v ks) (hn:ks.length≤1000000) (hr:∀ x∈ks,x.rs.length≤1000000) :
  Calls Tryz.prog 20 #[v] w fun e w'=>∃ u,e=.returned u∧Touch (fun _=>False) w w'∧∃ l:List SE,l.map SE.pr=ks.map SE.pr∧w'.ownsRow w.heap.size 57 9 u l.length (statesC l)∧∀ x∈l,w'.ownsRow w.heap.size 5 1 x.v x.rs.length (bytesOf x.rs):=by
 obtain ⟨va,vc,rfl,hmx⟩:=ValsAt.form hv.vals
 have HV':Hid (∀ w',Touch (fun _=>False) w w'→StatesAt w' (.slice va ks.length vc) ks):=fun w' t=>hv.keep t
 have HR:Hid (∀ x∈ks,x.rs.length≤1000000):=hr
 have hmx':(ks.length:Int)≤1000000:=by omega
 clear hv hr hmx hn
 go_enter Tryz.func20,Tryz.ntmps20
 go_wp2_with fail
 go_loopg [3,4] ks.length (fun gg s3 s4 wr=>GCsR ks w gg s3 s4 wr)
 case atStart=>exact ⟨0,[],none,0,by omega,by omega,rfl,rfl,rfl,rfl,World.ownsRow_nil _ _ _ _,(fun x hx=>by cases hx),Touch.refl _ _⟩
 case round =>
  obtain ⟨j,l,sa,sc,hj,hgg,rfl,rfl,hlm,hll,ow,ob,tw⟩:=hrel.out
  have OW:Hid (wr.ownsRow w.heap.size 57 9 (.slice sa j sc) j (statesC l)):=ow
  have OB:Hid (∀ x∈l,wr.ownsRow w.heap.size 5 1 x.v x.rs.length (bytesOf x.rs)):=ob
  have TW:Hid (Touch (fun _=>False) w wr):=tw
  have HLM:Hid (l.map SE.pr=(ks.take j).map SE.pr∧l.length=j):=⟨hlm,hll⟩
  clear hrel ow ob tw hlm hll
  by_cases hlt:j<ks.length
  ·have hlt':(j:Int)<(ks.length:Int):=by omega
   have hk00:(0:Int)≤(j:Int):=by omega
   obtain ⟨x,hx⟩:∃ x,ks[j]?=some x:=⟨ks[j],by simp [hlt]⟩
   obtain ⟨ox,gR,off,cR,eR,hcell⟩:=StatesAt.one (HV'.out wr TW.out) hx
   obtain ⟨xa,xc,ex,-⟩:=ox.arg.form
   cases eR
   have e0:wr.cell? ⟨gR,off+j * 9,none⟩=some (.int .u16 x.h.age):=by exact hcell 0 _ rfl
   have e1:wr.cell? ⟨gR,off+j * 9+1,none⟩=some (.int .u8 x.h.opts):=by rw [Nat.add_assoc]; exact hcell 1 _ rfl
   have e2:wr.cell? ⟨gR,off+j * 9+2,none⟩=some (.int .u8 x.h.typ):=by rw [Nat.add_assoc]; exact hcell 2 _ rfl
   have e3:wr.cell? ⟨gR,off+j * 9+3,none⟩=some (.int .u32 x.h.id):=by rw [Nat.add_assoc]; exact hcell 3 _ rfl
   have e4:wr.cell? ⟨gR,off+j * 9+4,none⟩=some (.int .u32 x.h.adv):=by rw [Nat.add_assoc]; exact hcell 4 _ rfl
   have e5:wr.cell? ⟨gR,off+j * 9+5,none⟩=some (.int .i32 x.h.seq):=by rw [Nat.add_assoc]; exact hcell 5 _ rfl
   have e6:wr.cell? ⟨gR,off+j * 9+6,none⟩=some (.int .u16 x.h.sum):=by rw [Nat.add_assoc]; exact hcell 6 _ rfl
   have e7:wr.cell? ⟨gR,off+j * 9+7,none⟩=some (.int .u16 x.h.len):=by rw [Nat.add_assoc]; exact hcell 7 _ rfl
   have e8:wr.cell? ⟨gR,off+j * 9+8,none⟩=some (.slice xa x.rs.length xc):=by rw [← ex]; rw [Nat.add_assoc]; exact hcell 8 _ rfl
   have hkw:wrap64 ((j:Int)+1)=(j:Int)+1:=by unfold wrap64; omega
   have HX:Hid ((ks.take (j+1)).map SE.pr=(ks.take j).map SE.pr ++ [x.pr]):=by show _=_; rw [List.take_add_one,hx,List.map_append]; rfl
   have HM:Calls Tryz.prog 45 #[.agg #[.int .u16 x.h.age,.int .u8 x.h.opts,.int .u8 x.h.typ,.int .u32 x.h.id,.int .u32 x.h.adv,.int .i32 x.h.seq,.int .u16 x.h.sum,.int .u16 x.h.len,.slice xa x.rs.length xc]] wr fun e w'=>∃ u,e=.returned (x.h.sv u)∧Buf wr w' u x.rs:=cstate_any x.h (.slice xa x.rs.length xc) x.rs wr (by rw [← ex]; exact ox.arg) (HR.out x (List.mem_of_getElem? hx))
   clear hcell hx ox ex
   unfold HV.sv at HM
   go_wp2_with fail
   refine Calls.mono HM ?_
   rintro e w2 ⟨u2,rfl,b2⟩
   obtain ⟨ua,uc,rfl⟩:=b2.form
   have O2:Hid (w2.ownsRow w.heap.size 57 9 (.slice sa j sc) j (statesC l)):=own_touch OW.out b2.t (fun _ _ f=>f)
   have OWL:Hid (∀ k,(Value.slice sa j sc).ownBlock=some k→k<wr.heap.size):=fun k hk=>(OW.out.lt k hk).2
   have OB2:Hid (∀ x∈l,w2.ownsRow w.heap.size 5 1 x.v x.rs.length (bytesOf x.rs)):=fun x hx=>own_touch (OB.out x hx) b2.t (fun _ _ f=>f)
   have U2:Hid (w2.ownsRow wr.heap.size 5 1 (.slice ua x.rs.length uc) x.rs.length (bytesOf x.rs)):=b2.own
   have T2:Hid (Touch (fun _=>False) w w2):=TW.out.trans b2.t
   have ZZ:Hid (w.heap.size≤wr.heap.size∧wr.heap.size≤w2.heap.size):=⟨TW.out.size,b2.t.size⟩
   clear HM e0 e1 e2 e3 e4 e5 e6 e7 e8 b2 OW OB TW
   go_wp2_with (at_builtin; refine gapp_own2 rfl (.tmp 11) (.tmp 17) 22 rfl 57 9 48 (.agg #[.int .u16 0,.int .u8 0,.int .u8 0,.int .u32 0,.int .u32 0,.int .i32 0,.int .u16 0,.int .u16 0,.slice none 0 0]) Tryz.underlying22 infoS9g rfl (by decide) (by decide) w.heap.size (.slice sa j sc) j _ rfl (O2.out.alloc _) (by have:=ZZ.out; simp; omega) ⟨w2.heap.size,0,none⟩ 1 1 [.int .u16 x.h.age,.int .u8 x.h.opts,.int .u8 x.h.typ,.int .u32 x.h.id,.int .u32 x.h.adv,.int .i32 x.h.seq,.int .u16 x.h.sum,.int .u16 x.h.len,.slice ua x.rs.length uc] rfl rfl ?c1 ?c2 ?c3 ?_)
   case c1 =>
    intro i u hi
    rw [add_plain]
    match i,hi with
    | 0,hi=>cases hi; simp [go_sem]
    | 1,hi=>cases hi; simp [go_sem]
    | 2,hi=>cases hi; simp [go_sem]
    | 3,hi=>cases hi; simp [go_sem]
    | 4,hi=>cases hi; simp [go_sem]
    | 5,hi=>cases hi; simp [go_sem]
    | 6,hi=>cases hi; simp [go_sem]
    | 7,hi=>cases hi; simp [go_sem]
    | 8,hi=>cases hi; simp [go_sem]
    | i+9,hi=>simp at hi
   case c2=>intro u hu; simp at hu; rcases hu with rfl | rfl | rfl | rfl | rfl | rfl | rfl | rfl | rfl <;> rfl
   case c3=>omega
   intro v4 w4 o4 t4
   obtain ⟨sa4,sc4,ev⟩:=own_form o4
   subst ev
   have ta:Touch (fun _=>False) w2 (w2.alloc (.cells #[.int .u16 x.h.age,.int .u8 x.h.opts,.int .u8 x.h.typ,.int .u32 x.h.id,.int .u32 x.h.adv,.int .i32 x.h.seq,.int .u16 x.h.sum,.int .u16 x.h.len,.slice ua x.rs.length uc] 57)):=(Touch.refl _ _).alloc _
   have REL:Hid (GCsR ks w (ks.length - (j+1)) (.slice sa4 (j+1) sc4) (.int .i64 ((j+1:Nat):Int)) w4):=by
    have O4:w4.ownsRow w.heap.size 57 9 (.slice sa4 (j+1) sc4) (j+1) (statesC (l ++ [⟨x.h,.slice ua x.rs.length uc,x.rs⟩])):=by
     have e:statesC (l ++ [⟨x.h,.slice ua x.rs.length uc,x.rs⟩])=statesC l ++ [.int .u16 x.h.age,.int .u8 x.h.opts,.int .u8 x.h.typ,.int .u32 x.h.id,.int .u32 x.h.adv,.int .i32 x.h.seq,.int .u16 x.h.sum,.int .u16 x.h.len,.slice ua x.rs.length uc]:=by simp [statesC,SE.cells]
     rw [e]
     exact o4
    refine ⟨j+1,l ++ [⟨x.h,.slice ua x.rs.length uc,x.rs⟩],sa4,sc4,by omega,rfl,rfl,rfl,?_,by rw [List.length_append,HLM.out.2]; rfl,O4,?_,(T2.out.trans ta).trans' t4 (fun i hi e=>by have:=(O2.out.lt i e).1; omega)⟩
    ·rw [HX.out,List.map_append,HLM.out.1]; rfl
    ·intro y hy
     rcases List.mem_append.1 hy with hy | hy
     ·exact own_touch (own_touch (OB2.out y hy) ta (fun _ _ f=>f)) t4 (fun k hk e=>own_unlike O2.out (OB2.out y hy) (by decide) e hk)
     ·obtain rfl:=List.mem_singleton.1 hy
      exact own_lower (own_touch (own_touch U2.out ta (fun _ _ f=>f)) t4 (fun k hk e=>by have h1:=(U2.out.lt k hk).1; have h2:=OWL.out k e; omega)) ZZ.out.1
   clear o4 t4 O2 OB2 U2 T2 ta
   go_wp2_with fail
   go_roundg (ks.length - (j+1))
   case measure=>omega
   case rel=>exact REL.out
  ·obtain rfl:j=ks.length:=by omega
   have FIN:Hid (∃ u,(Ending.returned (.slice sa ks.length sc))=.returned u∧Touch (fun _=>False) w wr∧∃ l:List SE,l.map SE.pr=ks.map SE.pr∧wr.ownsRow w.heap.size 57 9 u l.length (statesC l)∧∀ x∈l,wr.ownsRow w.heap.size 5 1 x.v x.rs.length (bytesOf x.rs)):=⟨_,rfl,TW.out,l,by rw [HLM.out.1,List.take_length],by rw [HLM.out.2]; exact OW.out,OB.out⟩
   have hlt':¬ (ks.length:Int)<(ks.length:Int):=by omega
   go_wp2_with fail
   go_ret
   exact FIN.out
structure GSzR (l:List SE) (gg:Nat) (s3 s4:Value) (w wr:World):Prop where
 out:∃ k N:Nat,k≤l.length∧gg=l.length - k∧s3=.int .i64 (N:Int)∧s4=.int .i64 (k:Int)∧N≤3000000000000000∧20 * l.length≤N∧(∀ i x,i<k→l[i]?=some x→x.rs.length≤N)∧wr=w
set_option maxHeartbeats 2000000 in
theorem gsstates (v:Value) (l:List SE) (w:World) (hv:StatesAt w v l) (hs:l.length≤140737488355328) (hb:∀ x∈l,x.rs.length≤140737488355328) :
  Calls Tryz.prog 22 #[v] w fun e w'=>∃ N:Nat,e=.returned (.int .i64 (N:Int))∧N≤3000000000000000∧(N≤262144→20 * l.length≤N∧∀ x∈l,x.rs.length≤N)∧w'=w:=by
 obtain ⟨va,vc,rfl,-⟩:=ValsAt.form hv.vals
 have HV:Hid (StatesAt w (.slice va l.length vc) l):=hv
 have HB:Hid (∀ x∈l,x.rs.length≤140737488355328):=hb
 have h20:wrap64 (20 * (l.length:Int))=((20 * l.length:Nat):Int):=by unfold wrap64; omega
 have REL:Hid (GSzR l l.length (.int .i64 ((20 * l.length:Nat):Int)) (.int .i64 0) w w):=⟨0,20 * l.length,by omega,by omega,rfl,rfl,by omega,by omega,by omega,rfl⟩
 clear hv hb
 go_enter Tryz.func22,Tryz.ntmps22
 go_wp2_with fail
 go_loopg [3,4] l.length (fun gg s3 s4 wr=>GSzR l gg s3 s4 w wr)
 case atStart=>exact REL.out
 case round =>
  obtain ⟨k,N,hk,hgg,rfl,rfl,hN,hlo,hall,rfl⟩:=hrel.out
  have HA:Hid (∀ i x,i<k→l[i]?=some x→x.rs.length≤N):=hall
  have HL:Hid (20 * l.length≤N):=hlo
  clear REL hrel h20 hall hlo
  by_cases hlt:k<l.length
  ·have hlt':(k:Int)<(l.length:Int):=by omega
   by_cases hn:N≤2147483647
   ·have hn':(N:Int)≤2147483647:=by omega
    have hk00:(0:Int)≤(k:Int):=by omega
    obtain ⟨x,hx⟩:∃ x,l[k]?=some x:=⟨l[k],List.getElem?_eq_getElem _⟩
    obtain ⟨ox,g,o,c,eg,hc⟩:=StatesAt.one HV.out hx
    obtain ⟨xa,xc,ex,-⟩:=ox.arg.form
    simp only [Value.slice.injEq] at eg
    obtain ⟨rfl,-,rfl⟩:=eg
    have xl:=HB.out x (List.mem_of_getElem? hx)
    have x8:wr.cell? ⟨g,o+k * 9+8,none⟩=some (.slice xa x.rs.length xc):=by rw [← ex]; rw [Nat.add_assoc]; exact hc 8 _ rfl
    have HN:Hid (GSzR l (l.length - (k+1)) (.int .i64 ((N+x.rs.length:Nat):Int)) (.int .i64 ((k+1:Nat):Int)) wr wr):=by
     refine ⟨k+1,N+x.rs.length,by omega,rfl,rfl,rfl,by omega,by have:=HL.out; omega,fun i y hi hy=>?_,rfl⟩
     rcases Nat.lt_or_ge i k with h | h
     ·have:=HA.out i y h hy; omega
     ·obtain rfl:i=k:=by omega
      rw [hx] at hy
      obtain rfl:=Option.some.inj hy
      omega
    have hkw:wrap64 ((k:Int)+1)=((k+1:Nat):Int):=by unfold wrap64; omega
    clear ox hc ex hx HV HB HA HL
    generalize x.rs.length=L at *
    have hnw:wrap64 ((N:Int)+(L:Int))=((N+L:Nat):Int):=by unfold wrap64; omega
    go_wp2_with fail
    go_roundg (l.length - (k+1))
    case measure=>omega
    case rel=>exact HN.out
   ·have hn':¬ (N:Int)≤2147483647:=by omega
    go_wp2_with fail
    go_ret
    exact ⟨N,rfl,hN,fun h=>by omega,rfl⟩
  ·obtain rfl:k=l.length:=by omega
   have hlt':¬ (l.length:Int)<(l.length:Int):=by omega
   go_wp2_with fail
   go_ret
   exact ⟨N,rfl,hN,fun h=>⟨HL.out,fun x hx=>by obtain ⟨i,hi,e⟩:=List.mem_iff_getElem.mp hx; exact HA.out i x hi (by rw [← e]; exact List.getElem?_eq_getElem hi)⟩,rfl⟩
theorem copied_at {w w':World} {u:Value} {ks l:List SE} (hk:∀ x∈ks,x.Ok w) (hp:l.map SE.pr=ks.map SE.pr) (ho:w'.ownsRow w.heap.size 57 9 u l.length (statesC l)) (hb:∀ x∈l,w'.ownsRow w.heap.size 5 1 x.v x.rs.length (bytesOf x.rs)):StatesAt w' u l:=by
 refine ⟨own_vals ho,fun x hx=>?_⟩
 have:x.pr∈ks.map SE.pr:=by rw [← hp]; exact List.mem_map.2 ⟨x,hx,rfl⟩
 obtain ⟨y,hy,e⟩:=List.mem_map.1 this
 have e1:y.h=x.h:=congrArg Prod.fst e
 have e2:y.rs=x.rs:=congrArg Prod.snd e
 refine ⟨by rw [← e1]; exact (hk y hy).all,?_,by rw [← e2]; exact (hk y hy).byte⟩
 exact (own_rowAt (hb x hx)).arg
theorem heavy18 (v:Value) (l:List SE) (w:World) (hv:StatesAt w v l) (hmx:l.length≤140737488355328) (hbx:∀ x∈l,x.rs.length≤140737488355328):Calls Tryz.prog 8 #[v] w fun e w'=>∃ b:Bool,e=.returned (.bool b)∧(b=false→l.length≤40∧∀ x∈l,x.rs.length≤8192)∧w=w':=by
 have HB:Hid (∀ x∈l,x.rs.length≤140737488355328):=hbx
 clear hbx
 by_cases hl:l.length≤40
 ·have HS:=gsstates v l w hv (by omega) HB.out
  obtain ⟨va,vc,rfl,-⟩:=ValsAt.form hv.vals
  have hl':¬ (40:Int)<(l.length:Int):=by omega
  have HL:Hid (l.length≤40):=hl
  clear hv
  generalize hn:l.length=n at *
  clear hn
  go_enter Tryz.func8,Tryz.ntmps8
  go_wp2_with fail
  refine HS.mono ?_
  rintro e w1 ⟨N,rfl,h1,h2,rfl⟩
  have H2:Hid _:=h2
  clear h2 HS
  go_wp2_with fail
  go_ret
  refine ⟨_,rfl,fun hb=>?_,rfl⟩
  have hb':¬ (8192:Int)<(N:Int):=by simpa using hb
  exact ⟨HL.out,fun x hx=>Nat.le_trans ((H2.out (by omega)).2 x hx) (by omega)⟩
 ·obtain ⟨va,vc,rfl,-⟩:=ValsAt.form hv.vals
  have hl':(40:Int)<(l.length:Int):=by omega
  clear hv HB
  generalize l.length=n at *
  go_enter Tryz.func8,Tryz.ntmps8
  go_wp2_with fail
  go_ret
  exact ⟨_,rfl,fun hb=>by simp at hb,rfl⟩
open Go.Shelf
def sortPd_ren:Go.Shelf.Ren:=⟨fun | 6=>113 | 15=>87 | 14=>157 | 28=>129 | 29=>130 | 20=>185 | 21=>186 | 22=>187 | 23=>188 | 24=>189 | 25=>190 | 26=>191 | 27=>192 | 46=>225 | 47=>162 | 48=>163 | 49=>226 | 50=>227 | 57=>247 | n=>n,fun | 22=>158 | 24=>42 | 25=>165 | 3=>3 | 39=>188 | 0=>0 | 53=>23 | 55=>46 | 4=>4 | 46=>228 | 45=>227 | 50=>97 | 5=>5 | 9=>9 | 66=>270 | 70=>274 | 76=>309 | 77=>277 | n=>n,fun | n=>n⟩
theorem sortPd:Go.Proofs.SlLaysF0.n6 Tryz.prog sortPd_ren:={
 mixed:=by kernel_rfl
 f6:=⟨Tryz.f113.name,by decide,Tryz.func113.trans (congrArg some (by kernel_rfl))⟩
 f14:=⟨Tryz.f157.name,by decide,Tryz.func157.trans (congrArg some (by kernel_rfl))⟩
 f15:=Tryz.func87.trans (congrArg some (by kernel_rfl))
 f20:=⟨Tryz.f185.name,by decide,Tryz.func185.trans (congrArg some (by kernel_rfl))⟩
 f21:=⟨Tryz.f186.name,by decide,Tryz.func186.trans (congrArg some (by kernel_rfl))⟩
 f22:=⟨Tryz.f187.name,by decide,Tryz.func187.trans (congrArg some (by kernel_rfl))⟩
 f23:=⟨Tryz.f188.name,by decide,Tryz.func188.trans (congrArg some (by kernel_rfl))⟩
 f24:=⟨Tryz.f189.name,by decide,Tryz.func189.trans (congrArg some (by kernel_rfl))⟩
 f25:=⟨Tryz.f190.name,by decide,Tryz.func190.trans (congrArg some (by kernel_rfl))⟩
 f26:=⟨Tryz.f191.name,by decide,Tryz.func191.trans (congrArg some (by kernel_rfl))⟩
 f27:=⟨Tryz.f192.name,by decide,Tryz.func192.trans (congrArg some (by kernel_rfl))⟩
 f28:=Tryz.func129.trans (congrArg some (by kernel_rfl))
 f29:=Tryz.func130.trans (congrArg some (by kernel_rfl))
 f46:=⟨Tryz.f225.name,by decide,Tryz.func225.trans (congrArg some (by kernel_rfl))⟩
 f47:=Tryz.func162.trans (congrArg some (by kernel_rfl))
 f48:=Tryz.func163.trans (congrArg some (by kernel_rfl))
 f49:=⟨Tryz.f226.name,by decide,Tryz.func226.trans (congrArg some (by kernel_rfl))⟩
 f50:=⟨Tryz.f227.name,by decide,Tryz.func227.trans (congrArg some (by kernel_rfl))⟩
 f57:=⟨Tryz.f247.name,by decide,Tryz.func247.trans (congrArg some (by kernel_rfl))⟩
 t0:=Tryz.underlying0
 a0:=Tryz.isAgg0
 z0:=Tryz.sizeOf0
 v0:=Tryz.zeroValue0
 t3:=Tryz.underlying3
 a3:=Tryz.isAgg3
 z3:=Tryz.sizeOf3
 v3:=Tryz.zeroValue3
 t4:=Tryz.underlying4
 a4:=Tryz.isAgg4
 z4:=Tryz.sizeOf4
 v4:=Tryz.zeroValue4
 t5:=Tryz.underlying5
 a5:=Tryz.isAgg5
 z5:=Tryz.sizeOf5
 v5:=Tryz.zeroValue5
 t9:=Tryz.underlying9
 a9:=Tryz.isAgg9
 z9:=Tryz.sizeOf9
 v9:=Tryz.zeroValue9
 t22:=Tryz.underlying158
 a22:=Tryz.isAgg158
 z22:=Tryz.sizeOf158
 v22:=Tryz.zeroValue158
 t25:=Tryz.underlying165
 a25:=Tryz.isAgg165
 z25:=Tryz.sizeOf165
 v25:=Tryz.zeroValue165
 t39:=Tryz.underlying188
 a39:=Tryz.isAgg188
 z39:=Tryz.sizeOf188
 v39:=Tryz.zeroValue188
 t45:=Tryz.underlying227
 a45:=Tryz.isAgg227
 z45:=Tryz.sizeOf227
 v45:=Tryz.zeroValue227
 t46:=Tryz.underlying228
 a46:=Tryz.isAgg228
 z46:=Tryz.sizeOf228
 v46:=Tryz.zeroValue228
 t50:=Tryz.underlying97
 a50:=Tryz.isAgg97
 z50:=Tryz.sizeOf97
 v50:=Tryz.zeroValue97
 t53:=Tryz.underlying23
 a53:=Tryz.isAgg23
 z53:=Tryz.sizeOf23
 v53:=Tryz.zeroValue23
 t55:=Tryz.underlying46
 a55:=Tryz.isAgg46
 z55:=Tryz.sizeOf46
 v55:=Tryz.zeroValue46
 t66:=Tryz.underlying270
 a66:=Tryz.isAgg270
 z66:=Tryz.sizeOf270
 v66:=Tryz.zeroValue270
 t70:=Tryz.underlying274
 a70:=Tryz.isAgg274
 z70:=Tryz.sizeOf274
 v70:=Tryz.zeroValue274
 t76:=Tryz.underlying309
 a76:=Tryz.isAgg309
 z76:=Tryz.sizeOf309
 v76:=Tryz.zeroValue309
 t77:=Tryz.underlying277
 a77:=Tryz.isAgg277
 z77:=Tryz.sizeOf277
 v77:=Tryz.zeroValue277 }
open Go.RowKit Go.Sort
structure Grs (x w:World):Prop where
 out:∃ q os,w=grow (x.drewN q) os
theorem grow_touch (w:World) (q:Nat) (os:Array Obj):Touch (fun _=>False) w (grow (w.drewN q) os) :=
 ⟨rfl,rfl,rfl,by simp [grow,World.drewN],fun k hk _=>by simp only [grow,World.drewN]; rw [Array.getElem?_append_left hk]⟩
theorem Grs.t {x w:World} (h:Grs x w):Touch (fun _=>False) x w:=by
 obtain ⟨q,os,rfl⟩:=h.out
 exact grow_touch x q os
theorem Grs.trans {x w w':World} (h:Grs x w) (k:Grs w w'):Grs x w':=by
 obtain ⟨q,os,rfl⟩:=h.out
 obtain ⟨q',os',rfl⟩:=k.out
 exact ⟨q+q',os ++ os',by show grow (grow ((x.drewN q).drewN q') os) os'=_; rw [grow_grow,World.drewN_drewN]⟩
theorem Grs.refl (w:World):Grs w w:=⟨0,#[],by rw [grow_empty]; rfl⟩
theorem Grs.alloc {x w:World} (h:Grs x w) (o:Obj):Grs x (w.alloc o):=h.trans ⟨0,#[o],by rw [alloc_eq_grow]; rfl⟩
theorem Grs.drew {x w:World} (h:Grs x w):Grs x w.drew:=h.trans ⟨1,#[],by rw [grow_empty]; rfl⟩
theorem grow_touch0 (w:World) (os:Array Obj):Touch (fun _=>False) w (grow w os) :=
 ⟨rfl,rfl,rfl,by simp [grow],fun k hk _=>by simp [grow,Array.getElem?_append_left hk]⟩
structure HK where
 out:Int
 via:Int
 vr:Bool
deriving DecidableEq
def HK0:HK:=⟨0,0,false⟩
def bz (b:Bool):Int:=if b then 1 else 0
theorem bz_inj {a b:Bool} (h:bz a=bz b):a=b:=by cases a <;> cases b <;> simp_all [bz]
theorem bz_range (a:Bool):0≤bz a∧bz a≤1:=by cases a <;> simp [bz]
def HK.lt (x y:HK):Prop:=x.out<y.out∨x.out=y.out∧(x.via<y.via∨x.via=y.via∧bz x.vr<bz y.vr)
def HK.le (x y:HK):Prop:=¬ HK.lt y x
theorem HK.ext' {x y:HK} (h1:x.out=y.out) (h2:x.via=y.via) (h3:bz x.vr=bz y.vr):x=y:=by
 have:=bz_inj h3
 cases x; cases y; simp_all
theorem HK.le_refl (x:HK):x.le x:=by unfold HK.le HK.lt; omega
theorem HK.lt_of_le_ne {x y:HK} (h:x.le y) (h':x≠y):x.lt y:=by
 by_cases e:x.lt y
 ·exact e
 ·exfalso
  unfold HK.le HK.lt at *
  exact h' (HK.ext' (by omega) (by omega) (by omega))
theorem HK.lt_irrefl (x:HK):¬ x.lt x:=by unfold HK.lt; omega
theorem HK.lt_trans {x y z:HK} (h:x.lt y) (h':y.lt z):x.lt z:=by unfold HK.lt at *; omega
theorem HK.lt_of_lt_of_le {x y z:HK} (h:x.lt y) (h':y.le z):x.lt z:=by unfold HK.le at h'; unfold HK.lt at *; omega
structure Sp where
 node:Int
 cost:Int
 h:HK
deriving DecidableEq
def Sp0:Sp:=⟨0,0,HK0⟩
def Sp.lt (x y:Sp):Prop:=x.cost<y.cost∨x.cost=y.cost∧x.h.lt y.h
def Sp.le (x y:Sp):Prop:=¬ Sp.lt y x
theorem le_refl' (x:Sp):x.le x:=by unfold Sp.le Sp.lt HK.lt; omega
theorem le_trans' {x y z:Sp} (h:x.le y) (h':y.le z):x.le z:=by unfold Sp.le Sp.lt HK.lt at *; omega
theorem le_of_lt' {x y:Sp} (h:x.lt y):x.le y:=by unfold Sp.le; unfold Sp.lt HK.lt at *; omega
def gt (l:List Sp) (i:Nat):Sp:=l.getD i Sp0
theorem gt_some {l:List Sp} {i:Nat} (h:i<l.length):l[i]?=some (gt l i):=by simp [gt,List.getElem?_eq_getElem h]
theorem mem_gt {l:List Sp} {e:Sp} (h:e∈l):∃ i,i<l.length∧gt l i=e:=by
 obtain ⟨i,hi,e1⟩:=List.mem_iff_getElem.1 h
 exact ⟨i,hi,by simp [gt,List.getElem?_eq_getElem hi,e1]⟩
theorem gt_append_left {l l':List Sp} {i:Nat} (h:i<l.length):gt (l ++ l') i=gt l i:=by simp [gt,List.getElem?_append_left h]
theorem gt_take {l:List Sp} {n i:Nat} (h:i<n):gt (l.take n) i=gt l i:=by simp [gt,List.getElem?_take_of_lt h]
theorem gt_set {l:List Sp} {i:Nat} (hi:i<l.length) (e:Sp) (k:Nat):gt (l.set i e) k=if k=i then e else gt l k:=by
 by_cases h:k=i
 ·subst h; simp [gt,hi]
 ·simp [gt,h,List.getElem?_set_ne (Ne.symm h)]
def sw (l:List Sp) (i j:Nat):List Sp:=(l.set i (gt l j)).set j (gt l i)
theorem sw_length (l:List Sp) (i j:Nat):(sw l i j).length=l.length:=by simp [sw]
theorem gt_sw {l:List Sp} {i j:Nat} (hi:i<l.length) (hj:j<l.length) (k:Nat):gt (sw l i j) k=if k=j then gt l i else if k=i then gt l j else gt l k:=by
 unfold sw
 rw [gt_set (by simpa using hj),gt_set hi]
theorem sw_perm {l:List Sp} {i j:Nat} (hi:i<l.length) (hj:j<l.length):(sw l i j).Perm l:=by
 have h:=Array.swap_perm (xs:=l.toArray) (i:=i) (j:=j) (by simpa using hi) (by simpa using hj)
 have e:(l.toArray.swap i j (by simpa using hi) (by simpa using hj)).toList=sw l i j:=by
  simp [Array.swap_def,sw,gt,List.getElem?_eq_getElem hi,List.getElem?_eq_getElem hj]
 have:=Array.perm_iff_toList_perm.1 h
 rw [e] at this
 simpa using this
def HP (n:Nat) (g:Nat→Sp):Prop:=∀ c,0<c→c<n→(g ((c - 1) / 2)).le (g c)
def UpI (n:Nat) (g:Nat→Sp) (j:Nat):Prop:=(∀ c,0<c→c<n→c≠j→(g ((c - 1) / 2)).le (g c))∧(∀ c,0<c→c<n→(c - 1) / 2=j→0<j→(g ((j - 1) / 2)).le (g c))
def FixI (n:Nat) (g:Nat→Sp) (i:Nat):Prop:=(∀ c,0<c→c<n→c≠i→(c - 1) / 2≠i→(g ((c - 1) / 2)).le (g c))∧(∀ c,0<c→c<n→(c - 1) / 2=i→0<i→(g ((i - 1) / 2)).le (g c))
def DnI (n:Nat) (g:Nat→Sp) (i:Nat):Prop:=(∀ c,0<c→c<n→(c - 1) / 2≠i→(g ((c - 1) / 2)).le (g c))∧(∀ c,0<c→c<n→(c - 1) / 2=i→0<i→(g ((i - 1) / 2)).le (g c))
theorem HP.first {n:Nat} {g:Nat→Sp} (h:HP n g):∀ c,c<n→(g 0).le (g c):=by
 intro c
 induction c using Nat.strongRecOn with
 | ind c ih =>
  intro hc
  by_cases h0:c=0
  ·subst h0; exact le_refl' _
  ·exact le_trans' (ih ((c - 1) / 2) (by omega) (by omega)) (h c (by omega) hc)
theorem up_end {n:Nat} {g:Nat→Sp} {j:Nat} (h:UpI n g j) (h':j=0∨(g ((j - 1) / 2)).le (g j)):HP n g:=by
 intro c h0 hc
 by_cases e:c=j
 ·subst e
  rcases h' with h' | h'
  ·omega
  ·exact h'
 ·exact h.1 c h0 hc e
theorem up_step {n:Nat} {g g':Nat→Sp} {j:Nat} (h:UpI n g j) (hj:j<n) (h0:0<j) (hlt:(g j).lt (g ((j - 1) / 2)))
  (hg:∀ k,g' k=if k=j then g ((j - 1) / 2) else if k=(j - 1) / 2 then g j else g k):UpI n g' ((j - 1) / 2):=by
 have hp:(j - 1) / 2<j:=by omega
 have gj:g' j=g ((j - 1) / 2):=by rw [hg,if_pos rfl]
 have gp:g' ((j - 1) / 2)=g j:=by rw [hg,if_neg (by omega),if_pos rfl]
 have go:∀ k,k≠j→k≠(j - 1) / 2→g' k=g k:=fun k h1 h2=>by rw [hg,if_neg h1,if_neg h2]
 have hle:=le_of_lt' hlt
 constructor
 ·intro c c0 cn ce
  by_cases e1:c=j
  ·subst e1
   rw [gj,gp]; exact hle
  ·rw [go c e1 ce]
   by_cases e2:(c - 1) / 2=j
   ·rw [e2,gj]
    exact h.2 c c0 cn e2 h0
   ·by_cases e3:(c - 1) / 2=(j - 1) / 2
    ·rw [e3,gp]
     have:=h.1 c c0 cn e1
     rw [e3] at this
     exact le_trans' hle this
    ·rw [go _ e2 e3]
     exact h.1 c c0 cn e1
 ·intro c c0 cn ce p0
  have e4:((j - 1) / 2 - 1) / 2≠j∧((j - 1) / 2 - 1) / 2≠(j - 1) / 2:=by omega
  rw [go _ e4.1 e4.2]
  have hpp:=h.1 ((j - 1) / 2) p0 (by omega) (by omega)
  by_cases e1:c=j
  ·subst e1; rw [gj]; exact hpp
  ·rw [go c e1 (by omega)]
   have:=h.1 c c0 cn e1
   rw [ce] at this
   exact le_trans' hpp this
theorem fix_up {n:Nat} {g:Nat→Sp} {i:Nat} (h:FixI n g i) (hc:∀ c,0<c→c<n→(c - 1) / 2=i→(g i).le (g c)):UpI n g i :=
 ⟨fun c c0 cn ce=>by
  by_cases e:(c - 1) / 2=i
  ·rw [e]; exact hc c c0 cn e
  ·exact h.1 c c0 cn ce e,h.2⟩
theorem dn_end {n:Nat} {g:Nat→Sp} {i:Nat} (h:DnI n g i) (hc:∀ c,0<c→c<n→(c - 1) / 2=i→(g i).le (g c)):HP n g:=by
 intro c c0 cn
 by_cases e:(c - 1) / 2=i
 ·rw [e]; exact hc c c0 cn e
 ·exact h.1 c c0 cn e
theorem dn_step {n:Nat} {g g':Nat→Sp} {i j:Nat} (h:FixI n g i) (hj:(j - 1) / 2=i) (j0:0<j) (hjn:j<n) (hlt:(g j).lt (g i)) (hmin:∀ c,0<c→c<n→(c - 1) / 2=i→(g j).le (g c))
  (hg:∀ k,g' k=if k=j then g i else if k=i then g j else g k):DnI n g' j:=by
 have hij:i≠j:=by omega
 have gj:g' j=g i:=by rw [hg,if_pos rfl]
 have gi:g' i=g j:=by rw [hg,if_neg hij,if_pos rfl]
 have go:∀ k,k≠j→k≠i→g' k=g k:=fun k h1 h2=>by rw [hg,if_neg h1,if_neg h2]
 constructor
 ·intro c c0 cn ce
  by_cases e1:c=j
  ·subst e1; rw [gj,hj,gi]; exact le_of_lt' hlt
  ·by_cases e2:c=i
   ·subst e2
    rw [gi,go _ (by omega) (by omega)]
    exact h.2 j j0 hjn hj c0
   ·rw [go c e1 e2]
    by_cases e3:(c - 1) / 2=i
    ·rw [e3,gi]; exact hmin c c0 cn e3
    ·rw [go _ ce e3]; exact h.1 c c0 cn e2 e3
 ·intro c c0 cn ce _
  rw [hj,gi,go c (by omega) (by omega)]
  have:=h.1 c c0 cn (by omega) (by omega)
  rw [ce] at this
  exact this
theorem DnI.fix {n:Nat} {g:Nat→Sp} {i:Nat} (h:DnI n g i):FixI n g i:=⟨fun c a b _ d=>h.1 c a b d,h.2⟩
theorem HP.up {n:Nat} {g g':Nat→Sp} (h:HP n g) (hg:∀ k,k≠n→g' k=g k):UpI (n+1) g' n :=
 ⟨fun c c0 cn ce=>by rw [hg _ (by omega),hg _ ce]; exact h c c0 (by omega),fun c c0 cn pe _=>by omega⟩
theorem HP.mono {n m:Nat} {g g':Nat→Sp} (h:HP n g) (hm:m≤n) (hg:∀ k,k<m→g' k=g k):HP m g':=by
 intro c c0 cm
 rw [hg _ (by omega),hg _ cm]
 exact h c c0 (by omega)
end Go.Proofs.YtddbffoiadmffaaGreat
