import Derived.Deep.Slices
import Derived.SizedLaws
import Derived.OpenShut
import Derived.Laws.AppendOwnNone
import Derived.Test.YtddbffoiadmffaaGreatInMath
import Derived.Lib.AppendZerosOnto
import Derived.Lib.Walk
namespace Go.Proofs.YtddbffoiadmffaaGreat
set_option maxHeartbeats 8000000
open Go.RowKit Go.ChangeShapes Go.WideShapes Go.ChangeAt
set_option linter.unusedVariables false
set_option maxRecDepth 100000
def ArgAt (w:World) (v:Value) (rs:List Int):Prop :=
 (v=.slice none 0 0∧rs=[])∨∃ad c,v=.slice (some ad) rs.length c∧rs.length≤c∧c≤maxLen∧∀j u,(bytesOf rs)[j]?=some u→w.cell? (ad.add j)=some u
theorem RowAt.arg {w:World} {v:Value} {rs:List Int} (h:RowAt w v rs):ArgAt w v rs:=by
 rcases h with h|⟨g,off,c,rfl,h1,h2,h3⟩
 ·exact Or.inl h
 ·exact Or.inr ⟨_,c,rfl,h1,h2,fun j u hj=>by rw [Qaf];exact h3 j u hj⟩
theorem ArgAt.form {w:World} {v:Value} {rs:List Int} (h:ArgAt w v rs):∃a c,v=.slice a rs.length c∧rs.length≤maxLen:=by
 rcases h with⟨rfl,rfl⟩|⟨ad,c,rfl,h1,h2,h3⟩
 ·exact⟨_,_,rfl,Nat.zero_le _⟩
 ·exact⟨_,_,rfl,Nat.le_trans h1 h2⟩
theorem ArgAt.row {w:World} {v:Value} {rs:List Int} (h:ArgAt w v rs) (hp:0<rs.length):RowAt w v rs:=by
 rcases h with⟨rfl,rfl⟩|⟨ad,c,rfl,h1,h2,h3⟩
 ·exact Or.inl ⟨rfl,rfl⟩
 ·obtain⟨g,off,spot⟩:=ad
  have hc:=h3 0 (.int .u8 rs[0]) (by simp [bytesOf,hp])
  have hspot:spot=none:=by simpa [Addr.add] using World.cell?_spot hc
  subst hspot
  exact Or.inr ⟨g,off,c,rfl,h1,h2,fun j u hj=>by have:=h3 j u hj;rwa [Qaf] at this⟩
theorem ArgAt.keep {F:Nat→Prop} {w w':World} {v:Value} {rs:List Int} (h:ArgAt w v rs) (t:Touch F w w') (hF:∀k,k<w.heap.size→¬F k):ArgAt w' v rs:=by
 rcases h with h|⟨ad,c,rfl,h1,h2,h3⟩
 ·exact Or.inl h
 ·refine Or.inr ⟨ad,c,rfl,h1,h2,fun j u hj=>?_⟩
  have hc:=h3 j u hj
  exact (t.cell (Qci hc) (hF _ (Qci hc))).trans hc
section
variable {H:Type} {enc:TypeId×Value→H} {w:World} {base:Nat} {held:Bool}
end
open Go.RowKit
theorem Qfo {w:World} {g off c n:Nat} {rs:List Int} (h:RowAt w (.slice (some ⟨g,off,none⟩) n c) rs) (j:Nat) (hj:j<rs.length):w.cell? ⟨g,off+j,none⟩=some (.int .u8 (rs.getD j 0)):=by
 rcases h with⟨h,_⟩|⟨g',off',c',h,_,_,h3⟩
 ·simp at h
 ·simp at h
  obtain⟨⟨rfl,rfl⟩,_,_⟩:=h
  exact h3 j _ (by simp [bytesOf,List.getElem?_eq_getElem hj,List.getD])
theorem Qdz {w:World} {a:Option Addr} {n c:Nat} {rs:List Int} (h:RowAt w (.slice a n c) rs) (hn:0<n):∃g off,a=some ⟨g,off,none⟩:=by
 rcases h with⟨h,_⟩|⟨g',off',c',h,_⟩
 ·simp at h;omega
 ·simp at h;exact⟨g',off',h.1⟩
theorem Tryz.info5w:(Tryz.prog.info? 5).map (fun i=>(i.zero,i.size,i.bytes))=some (some (.int .u8 0),1,1):=by kernel_rfl
structure Buf (w0 w:World) (v:Value) (l:List Int):Prop where
 own:w.ownsRow w0.heap.size 5 1 v l.length (bytesOf l)
 t:Touch (fun _=>False) w0 w
theorem Buf.keep {w0 w w':World} {v:Value} {l:List Int} (h:Buf w0 w v l) (t:Touch (fun _=>False) w w'):Buf w0 w' v l:=⟨Qab h.own t (fun _ _ h=>h),h.t.trans t⟩
theorem Buf.back {w0 w w':World} {v:Value} {l:List Int} (h:Buf w w' v l) (t:Touch (fun _=>False) w0 w):Buf w0 w' v l:=by
 refine⟨⟨h.own.1,?_⟩,t.trans h.t⟩
 rcases h.own.2 with h2|⟨g,cap,cur,hv,hb,hr⟩
 ·exact Or.inl h2
 ·exact Or.inr ⟨g,cap,cur,hv,Nat.le_trans t.size hb,hr⟩
theorem Buf.nil {w0 w:World} (t:Touch (fun _=>False) w0 w):Buf w0 w (.slice none 0 0) []:=⟨World.ownsRow_nil _ _ _ _,t⟩
theorem Buf.form {w0 w:World} {v:Value} {l:List Int} (h:Buf w0 w v l):∃a c,v=.slice a l.length c:=by
 rcases h.own.2 with⟨rfl,e⟩|⟨g,cap,cur,rfl,_⟩
 ·exact⟨none,0,by rw [e]⟩
 ·exact⟨_,cap,rfl⟩
theorem Buf.arg {w0 w:World} {v:Value} {l:List Int} (h:Buf w0 w v l):ArgAt w v l:=(Qcv h.own).arg
theorem Buf.appended {w0 w w':World} {v v':Value} {l r:List Int} (h:Buf w0 w v l) (hown:w'.ownsRow w0.heap.size 5 1 v' (l.length+r.length) (bytesOf l++bytesOf r)) (hg:w.grownBy w' v.ownBlock):Buf w0 w' v' (l++r):=by
 refine⟨?_,h.t.grown hg (fun k hk=>Or.inr (h.own.lt k hk).1)⟩
 rw [List.length_append,Qc2]
 exact hown
section
variable {ops:Array Oper} {rest:List Oper} {o:Oper} {a:Act} {Q:Exit→Act→World→Prop} {w:World}
theorem Qap (hgd:o.guard=none) (s x:Operand) (ho:o.op=.call { callee:=.builtin .append,args:=#[s,x],argTypes:=#[55,55] })
  (w0:World) (v:Value) (l:List Int) (hs:a.eval s=v) (hb:Buf w0 w v l) (vx:Value) (r:List Int) (hx:a.eval x=vx) (hr:ArgAt w vx r) (hl:l.length+r.length≤1099511627776)
  (h:∀v' w',Buf w0 w' v' (l++r)→wpList Tryz.prog ops Q rest (a.put o.dst v') w'):wpList Tryz.prog ops Q (o::rest) a w:=by
 obtain⟨i0,hi,hz0,hz1,hz2⟩:=info_parts Tryz.info5w
 rcases hr with⟨rfl,rfl⟩|⟨ad,c,rfl,h1,h2,h3⟩
 ·refine wpList_append_own_none hgd s x 55 ho w0.heap.size 5 i0 1 Tryz.underlying55 hi v l.length (bytesOf l) hs hb.own hx ?_
  exact h v w (by rw [List.append_nil];exact hb)
 ·refine wpList_append_own_at w hgd s x 55 ho w0.heap.size 5 i0 (.int .u8 0) 1 1 Tryz.underlying55 hi hz0 hz1 hz2 rfl (by decide) v l.length (bytesOf l) hs hb.own ad r.length c (bytesOf r) hx (by simp [Qbm]) h3 (Qbl r) (by unfold maxLen;omega) (by omega) hb.t.size ?_
  intro v' w' hown hg _ _
  exact h v' w' (hb.appended hown hg)
theorem Qdy (hgd:o.guard=none) (s x:Operand) (ho:o.op=.call { callee:=.builtin .append,args:=#[s,x],argTypes:=#[55,55] })
  (w0:World) (v:Value) (l:List Int) (hs:a.eval s=v) (hb:Buf w0 w v l) (z:Int) (hx:a.eval x=.slice (some ⟨w.heap.size,0,none⟩) 1 1) (hl:l.length<1099511627776)
  (h:∀v' w',Buf w0 w' v' (l++[z])→wpList Tryz.prog ops Q rest (a.put o.dst v') w'):wpList Tryz.prog ops Q (o::rest) a (w.alloc (.cells #[.int .u8 z] 5)) :=
 Qap hgd s x ho w0 v l hs (hb.keep ((Touch.refl _ w).alloc _)) _ [z] hx (Or.inr ⟨_,1,rfl,by simp,by simp [maxLen],cell_one_new w _ _⟩) (by simp;omega) h
end
def ValsAt (w:World) (k:Nat) (v:Value) (n:Nat) (xs:List Value):Prop :=
 xs.length=n*k∧((v=.slice none 0 0∧n=0)∨∃ad c,v=.slice (some ad) n c∧n≤c∧c≤maxLen∧∀j u,xs[j]?=some u→w.cell? (ad.add j)=some u)
theorem ValsAt.form {w:World} {k:Nat} {v:Value} {n:Nat} {xs:List Value} (h:ValsAt w k v n xs):∃a c,v=.slice a n c∧n≤maxLen:=by
 rcases h.2 with⟨rfl,rfl⟩|⟨ad,c,rfl,h1,h2,_⟩
 ·exact⟨_,_,rfl,Nat.zero_le _⟩
 ·exact⟨_,_,rfl,Nat.le_trans h1 h2⟩
theorem ValsAt.keep {w w':World} {k:Nat} {v:Value} {n:Nat} {xs:List Value} (h:ValsAt w k v n xs) (t:Touch (fun _=>False) w w'):ValsAt w' k v n xs:=by
 refine⟨h.1,?_⟩
 rcases h.2 with h|⟨ad,c,rfl,h1,h2,h3⟩
 ·exact Or.inl h
 ·exact Or.inr ⟨ad,c,rfl,h1,h2,fun j u hj=>t.cellN (h3 j u hj)⟩
theorem ValsAt.cells {w:World} {k:Nat} {v:Value} {n:Nat} {xs:List Value} (h:ValsAt w k v n xs) (hn:0<n) (hk:0<k) :
  ∃g off c,v=.slice (some ⟨g,off,none⟩) n c∧n≤c∧c≤maxLen∧∀j u,xs[j]?=some u→w.cell? ⟨g,off+j,none⟩=some u:=by
 obtain⟨hl,h⟩:=h
 rcases h with⟨_,rfl⟩|⟨ad,c,rfl,h1,h2,h3⟩
 ·omega
 ·have hp:0<xs.length:=by rw [hl];exact Nat.mul_pos hn hk
  obtain⟨g,off,spot⟩:=ad
  have hc:=h3 0 xs[0] (by simp [hp])
  have hspot:spot=none:=by simpa [Addr.add] using World.cell?_spot hc
  subst hspot
  exact⟨g,off,c,rfl,h1,h2,fun j u hj=>by have:=h3 j u hj;rwa [Qaf] at this⟩
structure VBuf (e k:Nat) (w0 w:World) (v:Value) (n:Nat) (xs:List Value):Prop where
 own:w.ownsRow w0.heap.size e k v n xs
 t:Touch (fun _=>False) w0 w
theorem VBuf.keep {e k:Nat} {w0 w w':World} {v:Value} {n:Nat} {xs:List Value} (h:VBuf e k w0 w v n xs) (t:Touch (fun _=>False) w w'):VBuf e k w0 w' v n xs:=⟨Qab h.own t (fun _ _ h=>h),h.t.trans t⟩
theorem VBuf.back {e k:Nat} {w0 w w':World} {v:Value} {n:Nat} {xs:List Value} (h:VBuf e k w w' v n xs) (t:Touch (fun _=>False) w0 w):VBuf e k w0 w' v n xs:=by
 refine⟨⟨h.own.1,?_⟩,t.trans h.t⟩
 rcases h.own.2 with h2|⟨g,cap,cur,hv,hb,hr⟩
 ·exact Or.inl h2
 ·exact Or.inr ⟨g,cap,cur,hv,Nat.le_trans t.size hb,hr⟩
theorem VBuf.nil (e k:Nat) {w0 w:World} (t:Touch (fun _=>False) w0 w):VBuf e k w0 w (.slice none 0 0) 0 []:=⟨World.ownsRow_nil _ _ _ _,t⟩
theorem VBuf.form {e k:Nat} {w0 w:World} {v:Value} {n:Nat} {xs:List Value} (h:VBuf e k w0 w v n xs):∃a c,v=.slice a n c:=by
 rcases h.own.2 with⟨rfl,e⟩|⟨g,cap,cur,rfl,_⟩
 ·exact⟨none,0,by rw [e]⟩
 ·exact⟨_,cap,rfl⟩
theorem VBuf.vals {e k:Nat} {w0 w:World} {v:Value} {n:Nat} {xs:List Value} (h:VBuf e k w0 w v n xs):ValsAt w k v n xs:=by
 refine⟨h.own.1,?_⟩
 rcases h.own.2 with h2|⟨g,cap,cur,hv,hb,hh,h1,h2,h3,h4⟩
 ·exact Or.inl h2
 ·refine Or.inr ⟨_,cap,hv,h1,h2,fun j u hj=>?_⟩
  have hjl:=(List.getElem?_eq_some_iff.mp hj).1
  have hl:=h.own.1
  rw [Qaf,Nat.zero_add]
  rw [←h4,List.getElem?_take,if_pos (by omega)] at hj
  simp [World.cell?,hh]
  simpa using hj
section
variable {ops:Array Oper} {rest:List Oper} {o:Oper} {a:Act} {Q:Exit→Act→World→Prop} {w:World}
theorem Qeh (hgd:o.guard=none) (s x:Operand) (t:TypeId) (ho:o.op=.call { callee:=.builtin .append,args:=#[s,x],argTypes:=#[t,t] })
  (e k bytes:Nat) (z:Value) (ht:Tryz.prog.underlying t=some (.slice e)) (hi:(Tryz.prog.info? e).map (fun i=>(i.zero,i.size,i.bytes))=some (some z,k,bytes)) (hzs:z.cells.size=k) (hk:0<k) (hby:bytes≤64)
  (w0:World) (v:Value) (n:Nat) (xs:List Value) (hs:a.eval s=v) (hb:VBuf e k w0 w v n xs) (vx:Value) (m:Nat) (news:List Value) (hx:a.eval x=vx) (hr:ValsAt w k vx m news) (h1:∀u∈news,u.oneCell'=true) (hl:n+m≤1099511627776)
  (h:∀v' w',VBuf e k w0 w' v' (n+m) (xs++news)→wpList Tryz.prog ops Q rest (a.put o.dst v') w'):wpList Tryz.prog ops Q (o::rest) a w:=by
 obtain⟨i0,hi,hz0,hz1,hz2⟩:=info_parts hi
 obtain⟨hnl,hr⟩:=hr
 rcases hr with⟨rfl,rfl⟩|⟨ad,c,rfl,h2,h3,h4⟩
 ·have hn0:news=[]:=List.length_eq_zero_iff.1 (by omega)
  subst hn0
  refine wpList_append_own_none hgd s x t ho w0.heap.size e i0 k ht hi v n xs hs hb.own hx ?_
  exact h v w (by rw [List.append_nil];exact hb)
 ·have hmul:(n+m)*bytes≤1099511627776*64:=Nat.mul_le_mul hl hby
  refine wpList_append_own_at w hgd s x t ho w0.heap.size e i0 z k bytes ht hi hz0 hz1 hz2 hzs hk v n xs hs hb.own ad m c news hx hnl h4 h1 (by unfold maxLen;omega) (by omega) hb.t.size ?_
  intro v' w' hown hg _ _
  exact h v' w' ⟨hown,hb.t.grown hg (fun k hk=>Or.inr (hb.own.lt k hk).1)⟩
end
abbrev HpB (w0 w:World) (v:Value) (l:List HK):Prop:=VBuf 48 3 w0 w v l.length (cellsG HK.cs l)
theorem HpB.more {w0 w:World} {v:Value} {l l':List HK} {n:Nat} (hn:n=l.length+l'.length) (h:VBuf 48 3 w0 w v n (cellsG HK.cs l++cellsG HK.cs l')):HpB w0 w v (l++l'):=by
 unfold HpB
 rw [List.length_append,Qau,←hn]
 exact h
theorem oneCellH (l:List HK):∀u∈cellsG HK.cs l,u.oneCell'=true:=by
 intro u hu
 obtain⟨x,-,hx⟩:=List.mem_flatMap.1 hu
 simp [HK.cs] at hx
 rcases hx with rfl|rfl|rfl <;> rfl
abbrev HV3 (w:World) (v:Value) (l:List HK):Prop:=ValsAt w 3 v l.length (cellsG HK.cs l)
theorem Qf9 (n:Nat) (w:World) (hn:n≤1099511627776):Calls Tryz.prog 85 #[.slice none 0 0,.int .i64 (n:Int)] w fun e w'=>∃v',e=.returned v'∧HpB w w' v' []:=by
 obtain⟨i0,hi,hz0,hz1,hz2⟩:=infoParts infoHop
 by_cases h0:n=0
 ·subst h0
  go_enter Tryz.func85,Tryz.ntmps85
  go_wp2
  go_ret
  exact⟨_,rfl,VBuf.nil _ _ (Touch.refl _ w)⟩
 ·have h1:¬((n:Int)<0):=by omega
  have h4:(n:Int) > 0:=by omega
  have hold:(Builtin.firstCells i0.size 0 (.slice none 0 0)).run Tryz.prog w.drew=.ok ([]:List Value).toArray w.drew:=by
   simp [Builtin.firstCells]
  have hrz:=fun ty=>Lib.run_append_grow_zeros (P:=Tryz.prog) w 43 3 ty 48 i0 (.agg #[.int .u32 0,.int .u32 0,.bool false]) .i64 .i64 Tryz.underlying43 Tryz.underlying3 hi hz0 none 0 0 [] hold n (by omega) (by omega) (by omega) (by omega) (by rw [hz2];omega) (growslice_fits (by omega) (by rw [hz2];omega))
  have hGn:n≤grownCap w n 0 48:=grownCap_ge w _ _ _
  have hGm:grownCap w n 0 48≤maxLen:=grownCap_le_maxLen w n 0 _ (by unfold maxLen;omega)
  simp only [Nat.zero_add] at hrz
  generalize grownCap w n 0 48=G at hrz hGn hGm
  have hG63:G≤9223372036854775807:=by unfold maxLen at hGm;omega
  have HBB:Hid (HpB w (w.drew.alloc (Obj.cells (([]:List Value).toArray++Builtin.zeroCells (Value.agg #[.int .u32 0,.int .u32 0,.bool false]).cells n++Builtin.zeroCells (Value.agg #[.int .u32 0,.int .u32 0,.bool false]).cells (G-n)) 48)) (.slice (some ⟨w.heap.size,0,none⟩) 0 G) []):=by
   refine⟨⟨rfl,Or.inr ⟨w.heap.size,G,_,rfl,Nat.le_refl _,heap_alloc_new w.drew _,Nat.zero_le _,hGm,?_,by simp [cellsG]⟩⟩,((Touch.refl _ w).drew).alloc _⟩
   simp only [Array.size_append,size_zeroCells]
   simp [Value.cells]
   omega
  generalize hw:(w.drew.alloc (Obj.cells (([]:List Value).toArray++Builtin.zeroCells (Value.agg #[.int .u32 0,.int .u32 0,.bool false]).cells n++Builtin.zeroCells (Value.agg #[.int .u32 0,.int .u32 0,.bool false]).cells (G-n)) 48))=wz at hrz HBB
  clear hold hw hi hz0 hz1 hz2 hGm
  go_enter Tryz.func85,Tryz.ntmps85
  go_wp2_with (at_builtin;refine Lib.wpList_append_run _ rfl _ _ _ _ rfl _ _ rfl rfl _ _ (hrz _) ?_)
  all_goals (go_ret;exact⟨_,rfl,HBB.out⟩)
def CcA (n1 n2:Nat) (s i:Value):Prop:=∃k:Nat,k≤2∧i=.int .i64 (k:Int)∧s=.int .i64 ((if k=0 then 0 else if k=1 then n1 else n1+n2:Nat):Int)
def CcB (w0:World) (r1 r2:List HK) (p i:Value) (wr:World):Prop:=∃k:Nat,k≤2∧i=.int .i64 (k:Int)∧HpB w0 wr p (if k=0 then [] else if k=1 then r1 else r1++r2)
theorem Qkj (gp:Nat) (v1 v2:Value) (r1 r2:List HK) (w:World) (c1:w.cell? ⟨gp,0,none⟩=some v1) (c2:w.cell? ⟨gp,1,none⟩=some v2) (h1:HV3 w v1 r1) (h2:HV3 w v2 r2) (hl1:r1.length≤274877906944) (hl2:r2.length≤274877906944) :
  Calls Tryz.prog 46 #[.slice (some ⟨gp,0,none⟩) 2 2] w fun e w'=>∃v',e=.returned v'∧HpB w w' v' (r1++r2):=by
 obtain⟨a1,k1,rfl,_⟩:=h1.form
 obtain⟨a2,k2,rfl,_⟩:=h2.form
 have H1:Hid (HV3 w (.slice a1 r1.length k1) r1):=h1
 have H2:Hid (HV3 w (.slice a2 r2.length k2) r2):=h2
 clear h1 h2
 go_enter Tryz.func46,Tryz.ntmps46
 go_wp2_with fail
 go_loop [3,11] (fun s i=>CcA r1.length r2.length s i) (fun _ i=>2-(intOf i).toNat)
 case atStart=>exact⟨0,by omega,rfl,rfl⟩
 case round =>
  obtain⟨k,hk,rfl,rfl⟩:=hrel
  match k,hk with
  | 0,_ =>
   simp only [reduceIte]
   go_wp2_with fail
   go_round
   case rel=>exact⟨1,by omega,rfl,by simp⟩
   case measure=>simp [intOf]
  | 1,_ =>
   simp only [reduceIte,Nat.reduceEqDiff]
   go_wp2_with fail
   go_round
   case rel=>exact⟨2,by omega,rfl,by simp⟩
   case measure=>simp [intOf]
  | 2,_ =>
   simp only [reduceIte,Nat.reduceEqDiff]
   have HG:=Qf9 (r1.length+r2.length) w (by omega)
   go_wp2_with (first|refine HG.mono ?_;rintro e w1 ⟨p,rfl,hb⟩)
   have HB0:Hid (CcB w r1 r2 p (.int .i64 ((0:Nat):Int)) w1):=⟨0,by omega,rfl,hb⟩
   clear hb HG
   go_wp2_with fail
   go_loopw [6,27] (fun p i wr=>CcB w r1 r2 p i wr) (fun _ i _=>2-(intOf i).toNat)
   case atStart=>exact HB0.out
   case round =>
    clear HB0
    obtain⟨k,hk,rfl,hb⟩:=hrel
    have HT:Hid (Touch (fun _=>False) w wr):=hb.t
    match k,hk with
    | 0,_ =>
     simp only [reduceIte] at hb
     have d1:=HT.out.cellN c1
     go_wp2_with (at_builtin;refine Qeh rfl (.tmp 31) (.tmp 32) 43 rfl 48 3 12 _ Tryz.underlying43 infoHop rfl (by omega) (by omega) w _ 0 (cellsG HK.cs []) rfl hb _ r1.length (cellsG HK.cs r1) rfl (H1.out.keep HT.out) (oneCellH _) (by omega) ?_;intro v' w' hb';replace hb':=HpB.more (l:=[]) (l':=r1) rfl hb';simp only [List.nil_append] at hb')
     go_roundw
     case rel=>exact⟨1,by omega,rfl,hb'⟩
     case measure=>simp [intOf]
    | 1,_ =>
     simp only [reduceIte,Nat.reduceEqDiff] at hb
     have d1:=HT.out.cellN c2
     go_wp2_with (at_builtin;refine Qeh rfl (.tmp 31) (.tmp 32) 43 rfl 48 3 12 _ Tryz.underlying43 infoHop rfl (by omega) (by omega) w _ r1.length (cellsG HK.cs r1) rfl hb _ r2.length (cellsG HK.cs r2) rfl (H2.out.keep HT.out) (oneCellH _) (by omega) ?_;intro v' w' hb';replace hb':=HpB.more (l:=r1) (l':=r2) rfl hb')
     go_roundw
     case rel=>exact⟨2,by omega,rfl,hb'⟩
     case measure=>simp [intOf]
    | 2,_ =>
     simp only [reduceIte,Nat.reduceEqDiff] at hb
     go_wp2_with fail
     go_ret
     exact⟨_,rfl,hb⟩
    | n+3,h=>omega
  | n+3,h=>omega
def flatH (hs:List HL):List HK:=hs.flatMap Prod.snd
theorem Qld (hs:List HL) (h:HL):flatH (hs++[h])=flatH hs++h.2:=by simp [flatH]
theorem Qfm {hs:List HL} {k:Nat} {h:HL} (hk:hs[k]?=some h):flatH (hs.take (k+1))=flatH (hs.take k)++h.2:=by
 rw [List.take_add_one,hk]
 exact Qld _ _
theorem Qjm (hs:List HL) (k:Nat):(flatH (hs.take k)).length≤(flatH hs).length:=by
 have:flatH hs=flatH (hs.take k)++flatH (hs.drop k):=by
  unfold flatH
  rw [←List.flatMap_append,List.take_append_drop]
 rw [this,List.length_append]
 omega
theorem Qa4 {n k:Nat} {z:Int} (h:k<n) (hz:z=(k:Int)+1):n-(intOf (.int .i64 z)).toNat<n-(intOf (.int .i64 (k:Int))).toNat:=by
 subst hz
 simp [intOf]
 omega
def CnA (hs:List HL) (s i:Value):Prop:=∃k:Nat,k≤hs.length∧i=.int .i64 (k:Int)∧s=.int .i64 ((flatH (hs.take k)).length:Int)
def CnB (w0:World) (hs:List HL) (p i:Value) (wr:World):Prop:=∃k:Nat,k≤hs.length∧i=.int .i64 (k:Int)∧HpB w0 wr p (flatH (hs.take k))
theorem Qog (w:World) (v:Value) (hs:List HL) (V:ValsAt w 1 v hs.length (hs.map Prod.fst)) (hh:∀h∈hs,HV3 w h.1 h.2) (hn:hs.length≤1000000) (hl:(flatH hs).length≤100000000000) :
  Calls Tryz.prog 46 #[v] w fun e w'=>∃v',e=.returned v'∧HpB w w' v' (flatH hs):=by
 have HH:Hid (∀h∈hs,HV3 w h.1 h.2):=hh
 have HL:Hid (hs.length≤1000000∧(flatH hs).length≤100000000000):=⟨hn,hl⟩
 by_cases h0:hs.length=0
 ·as_aux_lemma =>
  obtain⟨a,c,rfl,-⟩:=V.form
  obtain⟨n,hnn⟩:∃n,n=hs.length:=⟨_,rfl⟩
  have HN0:Hid (n=0):=hnn.trans h0
  have HN:Hid (n=hs.length):=hnn
  rw [←hnn]
  clear V hh hn hl h0 hnn
  go_enter Tryz.func46,Tryz.ntmps46
  go_wp2_with fail
  go_loop [3,11] (fun s i=>CnA hs s i) (fun _ i=>n-(intOf i).toNat)
  case atStart=>exact⟨0,by omega,rfl,by simp [flatH]⟩
  case round =>
   as_aux_lemma =>
   obtain⟨k,hk,rfl,rfl⟩:=hrel
   have hkn:k≤n:=by have:=HN.out;omega
   clear hk
   by_cases hlt:k<n
   ·exact absurd hlt (by have:=HN0.out;omega)
   ·have hlt':¬(k:Int)<(n:Int):=by omega
    have hk2:k=hs.length:=by have:=HN.out;omega
    have hft:flatH (hs.take k)=flatH hs:=by rw [hk2,List.take_length]
    rw [hft]
    have HG:=Qf9 (flatH hs).length w (by have:=HL.out.2;omega)
    clear hft hk2
    generalize hFL:(flatH hs).length=FL at *
    have HFL:Hid ((flatH hs).length=FL):=hFL
    go_wp2_with (first|refine HG.mono ?_;rintro e w1 ⟨p,rfl,hb⟩)
    have HB0:Hid (CnB w hs p (.int .i64 ((0:Nat):Int)) w1):=⟨0,by omega,rfl,by simpa [flatH] using hb⟩
    clear hb HG hFL
    go_wp2_with fail
    go_loopw [6,27] (fun p i wr=>CnB w hs p i wr) (fun _ i _=>n-(intOf i).toNat)
    case atStart=>exact HB0.out
    case round =>
     as_aux_lemma =>
     clear HB0 hlt' hlt hkn
     obtain⟨k,hk,rfl,hb⟩:=hrel
     have hkn:k≤n:=by have:=HN.out;omega
     clear hk
     by_cases hlt:k<n
     ·exact absurd hlt (by have:=HN0.out;omega)
     ·have hlt':¬(k:Int)<(n:Int):=by omega
      have hk2:k=hs.length:=by have:=HN.out;omega
      have hft:flatH (hs.take k)=flatH hs:=by rw [hk2,List.take_length]
      rw [hft] at hb
      go_wp2_with fail
      go_ret
      exact⟨_,rfl,hb⟩
 ·as_aux_lemma =>
  obtain⟨g,off,c,rfl,hc1,hc2,hcc⟩:=V.cells (by omega) (by omega)
  have HC:Hid (∀w',Touch (fun _=>False) w w'→∀k h,hs[k]?=some h→w'.cell? ⟨g,off+k,none⟩=some h.1):=fun w' t k h hk=>t.cellN (hcc k h.1 (by rw [List.getElem?_map,hk];rfl))
  obtain⟨n,hnn⟩:∃n,n=hs.length:=⟨_,rfl⟩
  have HN:Hid (n=hs.length):=hnn
  rw [←hnn] at hc1 ⊢
  clear V hh hn hl h0 hcc hnn
  go_enter Tryz.func46,Tryz.ntmps46
  go_wp2_with fail
  go_loop [3,11] (fun s i=>CnA hs s i) (fun _ i=>n-(intOf i).toNat)
  case atStart=>exact⟨0,by omega,rfl,by simp [flatH]⟩
  case round =>
   as_aux_lemma =>
   obtain⟨k,hk,rfl,rfl⟩:=hrel
   have hkn:k≤n:=by have:=HN.out;omega
   clear hk
   by_cases hlt:k<n
   ·obtain⟨⟨hv,hl⟩,hx⟩:∃x,hs[k]?=some x:=⟨hs[k]'(by have:=HN.out;omega),by simp⟩
    obtain⟨xa,xc,exx,-⟩:=(HH.out _ (List.mem_of_getElem? hx)).form
    have exx':hv=.slice xa hl.length xc:=exx
    clear exx
    subst exx'
    have hcell:=HC.out w (Touch.refl _ _) k _ hx
    have hlt':(k:Int)<(n:Int):=by omega
    have hk00:(0:Int)≤(k:Int):=by omega
    have hkw:wrap64 ((k:Int)+1)=(k:Int)+1:=by have:=HL.out.1;have:=HN.out;unfold wrap64;omega
    have hft:flatH (hs.take (k+1))=flatH (hs.take k)++hl:=Qfm hx
    have hfl:=Qjm hs (k+1)
    rw [hft,List.length_append] at hfl
    have HFT:Hid (((flatH (hs.take (k+1))).length:Int)=((flatH (hs.take k)).length:Int)+(hl.length:Int)):=by show _=_;rw [hft,List.length_append];exact Int.natCast_add _ _
    have hfl':((flatH (hs.take k)).length:Int)+(hl.length:Int)≤100000000000:=by have:=HL.out.2;omega
    have hsw:wrap64 (((flatH (hs.take k)).length:Int)+(hl.length:Int))=((flatH (hs.take k)).length:Int)+(hl.length:Int):=by unfold wrap64;omega
    have hs0:¬(((flatH (hs.take k)).length:Int)+(hl.length:Int)<0):=by omega
    clear hft hfl hx hfl'
    generalize ((flatH (hs.take k)).length:Int)=A at *
    generalize hB:(hl.length:Nat)=B at *
    clear hB
    go_wp2_with fail
    go_round
    case rel=>exact⟨k+1,by have:=HN.out;omega,by go_num,by rw [HFT.out,hsw]⟩
    case measure=>exact Qa4 hlt hkw
   ·have hlt':¬(k:Int)<(n:Int):=by omega
    have hk2:k=hs.length:=by have:=HN.out;omega
    have hft:flatH (hs.take k)=flatH hs:=by rw [hk2,List.take_length]
    rw [hft]
    have HG:=Qf9 (flatH hs).length w (by have:=HL.out.2;omega)
    clear hft hk2
    generalize hFL:(flatH hs).length=FL at *
    have HFL:Hid ((flatH hs).length=FL):=hFL
    go_wp2_with (first|refine HG.mono ?_;rintro e w1 ⟨p,rfl,hb⟩)
    have HB0:Hid (CnB w hs p (.int .i64 ((0:Nat):Int)) w1):=⟨0,by omega,rfl,by simpa [flatH] using hb⟩
    clear hb HG hFL
    go_wp2_with fail
    go_loopw [6,27] (fun p i wr=>CnB w hs p i wr) (fun _ i _=>n-(intOf i).toNat)
    case atStart=>exact HB0.out
    case round =>
     as_aux_lemma =>
     clear HB0 hlt' hlt hkn
     obtain⟨k,hk,rfl,hb⟩:=hrel
     have hkn:k≤n:=by have:=HN.out;omega
     clear hk
     by_cases hlt:k<n
     ·obtain⟨⟨hv,hl⟩,hx⟩:∃x,hs[k]?=some x:=⟨hs[k]'(by have:=HN.out;omega),by simp⟩
      have HV:=HH.out _ (List.mem_of_getElem? hx)
      obtain⟨xa,xc,exx,-⟩:=HV.form
      have exx':hv=.slice xa hl.length xc:=exx
      clear exx
      subst exx'
      have HT:=hb.t
      have hcell:=HC.out wr HT k _ hx
      have hlt':(k:Int)<(n:Int):=by omega
      have hk00:(0:Int)≤(k:Int):=by omega
      have hkw:wrap64 ((k:Int)+1)=(k:Int)+1:=by have:=HL.out.1;have:=HN.out;unfold wrap64;omega
      have hft:flatH (hs.take (k+1))=flatH (hs.take k)++hl:=Qfm hx
      have hfl:=Qjm hs (k+1)
      rw [hft,List.length_append] at hfl
      have HFT:Hid (flatH (hs.take (k+1))=flatH (hs.take k)++hl):=hft
      have HLL:Hid ((flatH (hs.take k)).length+hl.length≤100000000000):=by show _≤_;have:=HFL.out;have:=HL.out.2;omega
      have HVK:Hid (HV3 wr (.slice xa hl.length xc) hl):=HV.keep HT
      have HBB:Hid (HpB w wr _ (flatH (hs.take k))):=hb
      clear hft hfl hx HV hb
      generalize hF:flatH (hs.take k)=F at *
      clear hF
      generalize hB:hl.length=B at *
      have HB0:Hid (B=hl.length):=hB.symm
      clear hB HT
      go_wp2_with (at_builtin;refine Qeh rfl (.tmp 31) (.tmp 32) 43 rfl 48 3 12 _ Tryz.underlying43 infoHop rfl (by omega) (by omega) w _ F.length (cellsG HK.cs F) rfl HBB.out _ B (cellsG HK.cs hl) rfl (by have:=HVK.out;unfold HV3 at this;rw [←HB0.out] at this;exact this) (oneCellH _) (by have:=HLL.out;omega) ?_;intro v' w' hb';replace hb':=HpB.more (l:=F) (l':=hl) (by rw [HB0.out]) hb')
      go_roundw
      case rel=>exact⟨k+1,by have:=HN.out;omega,by go_num,by rw [HFT.out];exact hb'⟩
      case measure=>exact Qa4 hlt hkw
     ·have hlt':¬(k:Int)<(n:Int):=by omega
      have hk2:k=hs.length:=by have:=HN.out;omega
      have hft:flatH (hs.take k)=flatH hs:=by rw [hk2,List.take_length]
      rw [hft] at hb
      go_wp2_with fail
      go_ret
      exact⟨_,rfl,hb⟩
end Go.Proofs.YtddbffoiadmffaaGreat
