import Derived.Test.YtldmkoogghemhaaGreatDigBuf
import Derived.Lib.AppendZerosOnto
import Derived.Lib.Walk
import Derived.Laws.AppendOwnNone
namespace Go.Proofs.YtldmkoogghemhaaGreat
set_option maxHeartbeats 8000000
open Go.RowKit
set_option linter.unusedVariables false
set_option maxRecDepth 100000
def ValsAt (w:World) (k:Nat) (v:Value) (n:Nat) (xs:List Value):Prop :=
 xs.length=n*k∧((v=.slice none 0 0∧n=0)∨∃ad c,v=.slice (some ad) n c∧n≤c∧c≤maxLen∧∀j u,xs[j]?=some u→w.cell? (ad.add j)=some u)
theorem ValsAt.form {w:World} {k:Nat} {v:Value} {n:Nat} {xs:List Value} (h:ValsAt w k v n xs):∃a c,v=.slice a n c∧n≤maxLen:=by
 rcases h.2 with⟨rfl,rfl⟩|⟨ad,c,rfl,h1,h2,_⟩
 ·exact⟨_,_,rfl,Nat.zero_le _⟩
 ·exact⟨_,_,rfl,Nat.le_trans h1 h2⟩
theorem ValsAt.keep {w w':World} {k:Nat} {v:Value} {n:Nat} {xs:List Value} (h:ValsAt w k v n xs) (t:Touch (fun _=>False) w w'):ValsAt w' k v n xs:=by
 refine⟨h.1,?_⟩
 rcases h.2 with h|⟨ad,c,rfl,h1,h2,h3⟩
 ·exact Or.inl h
 ·exact Or.inr ⟨ad,c,rfl,h1,h2,fun j u hj=>t.cellN (h3 j u hj)⟩
theorem ValsAt.cells {w:World} {k:Nat} {v:Value} {n:Nat} {xs:List Value} (h:ValsAt w k v n xs) (hn:0<n) (hk:0<k) :
  ∃g off c,v=.slice (some ⟨g,off,none⟩) n c∧n≤c∧c≤maxLen∧∀j u,xs[j]?=some u→w.cell? ⟨g,off+j,none⟩=some u:=by
 obtain⟨hl,h⟩:=h
 rcases h with⟨_,rfl⟩|⟨ad,c,rfl,h1,h2,h3⟩
 ·omega
 ·have hp:0<xs.length:=by rw [hl];exact Nat.mul_pos hn hk
  obtain⟨g,off,spot⟩:=ad
  have hc:=h3 0 xs[0] (by simp [hp])
  have hspot:spot=none:=by simpa [Addr.add] using World.cell?_spot hc
  subst hspot
  exact⟨g,off,c,rfl,h1,h2,fun j u hj=>by have:=h3 j u hj;rwa [Qah] at this⟩
structure VBuf (e k:Nat) (w0 w:World) (v:Value) (n:Nat) (xs:List Value):Prop where
 own:w.ownsRow w0.heap.size e k v n xs
 t:Touch (fun _=>False) w0 w
theorem VBuf.keep {e k:Nat} {w0 w w':World} {v:Value} {n:Nat} {xs:List Value} (h:VBuf e k w0 w v n xs) (t:Touch (fun _=>False) w w'):VBuf e k w0 w' v n xs:=⟨Qab h.own t (fun _ _ h=>h),h.t.trans t⟩
theorem VBuf.back {e k:Nat} {w0 w w':World} {v:Value} {n:Nat} {xs:List Value} (h:VBuf e k w w' v n xs) (t:Touch (fun _=>False) w0 w):VBuf e k w0 w' v n xs:=by
 refine⟨⟨h.own.1,?_⟩,t.trans h.t⟩
 rcases h.own.2 with h2|⟨g,cap,cur,hv,hb,hr⟩
 ·exact Or.inl h2
 ·exact Or.inr ⟨g,cap,cur,hv,Nat.le_trans t.size hb,hr⟩
theorem VBuf.nil (e k:Nat) {w0 w:World} (t:Touch (fun _=>False) w0 w):VBuf e k w0 w (.slice none 0 0) 0 []:=⟨World.ownsRow_nil _ _ _ _,t⟩
theorem VBuf.vals {e k:Nat} {w0 w:World} {v:Value} {n:Nat} {xs:List Value} (h:VBuf e k w0 w v n xs):ValsAt w k v n xs:=by
 refine⟨h.own.1,?_⟩
 rcases h.own.2 with h2|⟨g,cap,cur,hv,hb,hh,h1,h2,h3,h4⟩
 ·exact Or.inl h2
 ·refine Or.inr ⟨_,cap,hv,h1,h2,fun j u hj=>?_⟩
  have hjl:=(List.getElem?_eq_some_iff.mp hj).1
  have hl:=h.own.1
  rw [Qah,Nat.zero_add]
  rw [←h4,List.getElem?_take,if_pos (by omega)] at hj
  simp [World.cell?,hh]
  simpa using hj
section
variable {ops:Array Oper} {rest:List Oper} {o:Oper} {a:Act} {Q:Exit→Act→World→Prop} {w:World}
theorem Qc2 (hgd:o.guard=none) (s x:Operand) (t:TypeId) (ho:o.op=.call { callee:=.builtin .append,args:=#[s,x],argTypes:=#[t,t] })
  (e k bytes:Nat) (z:Value) (ht:Tryz.prog.underlying t=some (.slice e)) (hi:(Tryz.prog.info? e).map (fun i=>(i.zero,i.size,i.bytes))=some (some z,k,bytes)) (hzs:z.cells.size=k) (hk:0<k) (hby:bytes≤64)
  (w0:World) (v:Value) (n:Nat) (xs:List Value) (hs:a.eval s=v) (hb:VBuf e k w0 w v n xs) (vx:Value) (m:Nat) (news:List Value) (hx:a.eval x=vx) (hr:ValsAt w k vx m news) (h1:∀u∈news,u.oneCell'=true) (hl:n+m≤1099511627776)
  (h:∀v' w',VBuf e k w0 w' v' (n+m) (xs++news)→wpList Tryz.prog ops Q rest (a.put o.dst v') w'):wpList Tryz.prog ops Q (o::rest) a w:=by
 obtain⟨i0,hi,hz0,hz1,hz2⟩:=info_parts hi
 obtain⟨hnl,hr⟩:=hr
 rcases hr with⟨rfl,rfl⟩|⟨ad,c,rfl,h2,h3,h4⟩
 ·have hn0:news=[]:=List.length_eq_zero_iff.1 (by omega)
  subst hn0
  refine wpList_append_own_none hgd s x t ho w0.heap.size e i0 k ht hi v n xs hs hb.own hx ?_
  exact h v w (by rw [List.append_nil];exact hb)
 ·have hmul:(n+m)*bytes≤1099511627776*64:=Nat.mul_le_mul hl hby
  refine wpList_append_own_at w hgd s x t ho w0.heap.size e i0 z k bytes ht hi hz0 hz1 hz2 hzs hk v n xs hs hb.own ad m c news hx hnl h4 h1 (by unfold maxLen;omega) (by omega) hb.t.size ?_
  intro v' w' hown hg _ _
  exact h v' w' ⟨hown,hb.t.grown hg (fun k hk=>Or.inr (hb.own.lt k hk).1)⟩
end
abbrev HpB (w0 w:World) (v:Value) (l:List HK):Prop:=VBuf 53 3 w0 w v l.length (cellsG HK.cs l)
theorem HpB.more {w0 w:World} {v:Value} {l l':List HK} {n:Nat} (hn:n=l.length+l'.length) (h:VBuf 53 3 w0 w v n (cellsG HK.cs l++cellsG HK.cs l')):HpB w0 w v (l++l'):=by
 unfold HpB
 rw [List.length_append,Qap,←hn]
 exact h
theorem oneCellH (l:List HK):∀u∈cellsG HK.cs l,u.oneCell'=true:=by
 intro u hu
 obtain⟨x,-,hx⟩:=List.mem_flatMap.1 hu
 simp [HK.cs] at hx
 rcases hx with rfl|rfl|rfl <;> rfl
abbrev HV3 (w:World) (v:Value) (l:List HK):Prop:=ValsAt w 3 v l.length (cellsG HK.cs l)
theorem Qkh (n:Nat) (w:World) (hn:n≤1099511627776):Calls Tryz.prog 101 #[.slice none 0 0,.int .i64 (n:Int)] w fun e w'=>∃v',e=.returned v'∧HpB w w' v' []:=by
 obtain⟨i0,hi,hz0,hz1,hz2⟩:=infoParts infoHop
 by_cases h0:n=0
 ·subst h0
  go_enter Tryz.func101,Tryz.ntmps101
  go_wp2
  go_ret
  exact⟨_,rfl,VBuf.nil _ _ (Touch.refl _ w)⟩
 ·have h1:¬((n:Int)<0):=by omega
  have h4:(n:Int) > 0:=by omega
  have hold:(Builtin.firstCells i0.size 0 (.slice none 0 0)).run Tryz.prog w.drew=.ok ([]:List Value).toArray w.drew:=by
   simp [Builtin.firstCells]
  have hrz:=fun ty=>Lib.run_append_grow_zeros (P:=Tryz.prog) w 45 3 ty 53 i0 (.agg #[.int .u32 0,.int .u32 0,.bool false]) .i64 .i64 Tryz.underlying45 Tryz.underlying3 hi hz0 none 0 0 [] hold n (by omega) (by omega) (by omega) (by omega) (by rw [hz2];omega) (growslice_fits (by omega) (by rw [hz2];omega))
  have hGn:n≤grownCap w n 0 53:=grownCap_ge w _ _ _
  have hGm:grownCap w n 0 53≤maxLen:=grownCap_le_maxLen w n 0 _ (by unfold maxLen;omega)
  simp only [Nat.zero_add] at hrz
  generalize grownCap w n 0 53=G at hrz hGn hGm
  have hG63:G≤9223372036854775807:=by unfold maxLen at hGm;omega
  have HBB:Hid (HpB w (w.drew.alloc (Obj.cells (([]:List Value).toArray++Builtin.zeroCells (Value.agg #[.int .u32 0,.int .u32 0,.bool false]).cells n++Builtin.zeroCells (Value.agg #[.int .u32 0,.int .u32 0,.bool false]).cells (G-n)) 53)) (.slice (some ⟨w.heap.size,0,none⟩) 0 G) []):=by
   refine⟨⟨rfl,Or.inr ⟨w.heap.size,G,_,rfl,Nat.le_refl _,heap_alloc_new w.drew _,Nat.zero_le _,hGm,?_,by simp [cellsG]⟩⟩,((Touch.refl _ w).drew).alloc _⟩
   simp only [Array.size_append,size_zeroCells]
   simp [Value.cells]
   omega
  generalize hw:(w.drew.alloc (Obj.cells (([]:List Value).toArray++Builtin.zeroCells (Value.agg #[.int .u32 0,.int .u32 0,.bool false]).cells n++Builtin.zeroCells (Value.agg #[.int .u32 0,.int .u32 0,.bool false]).cells (G-n)) 53))=wz at hrz HBB
  clear hold hw hi hz0 hz1 hz2 hGm
  go_enter Tryz.func101,Tryz.ntmps101
  go_wp2_with (at_builtin;refine Lib.wpList_append_run _ rfl _ _ _ _ rfl _ _ rfl rfl _ _ (hrz _) ?_)
  all_goals (go_ret;exact⟨_,rfl,HBB.out⟩)
def CcA (n1 n2:Nat) (s i:Value):Prop:=∃k:Nat,k≤2∧i=.int .i64 (k:Int)∧s=.int .i64 ((if k=0 then 0 else if k=1 then n1 else n1+n2:Nat):Int)
def CcB (w0:World) (r1 r2:List HK) (p i:Value) (wr:World):Prop:=∃k:Nat,k≤2∧i=.int .i64 (k:Int)∧HpB w0 wr p (if k=0 then [] else if k=1 then r1 else r1++r2)
theorem Qh8 (gp:Nat) (v1 v2:Value) (r1 r2:List HK) (w:World) (c1:w.cell? ⟨gp,0,none⟩=some v1) (c2:w.cell? ⟨gp,1,none⟩=some v2) (h1:HV3 w v1 r1) (h2:HV3 w v2 r2) (hl1:r1.length≤274877906944) (hl2:r2.length≤274877906944) :
  Calls Tryz.prog 74 #[.slice (some ⟨gp,0,none⟩) 2 2] w fun e w'=>∃v',e=.returned v'∧HpB w w' v' (r1++r2):=by
 obtain⟨a1,k1,rfl,_⟩:=h1.form
 obtain⟨a2,k2,rfl,_⟩:=h2.form
 have H1:Hid (HV3 w (.slice a1 r1.length k1) r1):=h1
 have H2:Hid (HV3 w (.slice a2 r2.length k2) r2):=h2
 clear h1 h2
 go_enter Tryz.func74,Tryz.ntmps74
 go_wp2_with fail
 go_loop [3,11] (fun s i=>CcA r1.length r2.length s i) (fun _ i=>2-(intOf i).toNat)
 case atStart=>exact⟨0,by omega,rfl,rfl⟩
 case round =>
  obtain⟨k,hk,rfl,rfl⟩:=hrel
  match k,hk with
  | 0,_ =>
   simp only [reduceIte]
   go_wp2_with fail
   go_round
   case rel=>exact⟨1,by omega,rfl,by simp⟩
   case measure=>simp [intOf]
  | 1,_ =>
   simp only [reduceIte,Nat.reduceEqDiff]
   go_wp2_with fail
   go_round
   case rel=>exact⟨2,by omega,rfl,by simp⟩
   case measure=>simp [intOf]
  | 2,_ =>
   simp only [reduceIte,Nat.reduceEqDiff]
   have HG:=Qkh (r1.length+r2.length) w (by omega)
   go_wp2_with (first|refine HG.mono ?_;rintro e w1 ⟨p,rfl,hb⟩)
   have HB0:Hid (CcB w r1 r2 p (.int .i64 ((0:Nat):Int)) w1):=⟨0,by omega,rfl,hb⟩
   clear hb HG
   go_wp2_with fail
   go_loopw [6,27] (fun p i wr=>CcB w r1 r2 p i wr) (fun _ i _=>2-(intOf i).toNat)
   case atStart=>exact HB0.out
   case round =>
    clear HB0
    obtain⟨k,hk,rfl,hb⟩:=hrel
    have HT:Hid (Touch (fun _=>False) w wr):=hb.t
    match k,hk with
    | 0,_ =>
     simp only [reduceIte] at hb
     have d1:=HT.out.cellN c1
     go_wp2_with (at_builtin;refine Qc2 rfl (.tmp 31) (.tmp 32) 45 rfl 53 3 12 _ Tryz.underlying45 infoHop rfl (by omega) (by omega) w _ 0 (cellsG HK.cs []) rfl hb _ r1.length (cellsG HK.cs r1) rfl (H1.out.keep HT.out) (oneCellH _) (by omega) ?_;intro v' w' hb';replace hb':=HpB.more (l:=[]) (l':=r1) rfl hb';simp only [List.nil_append] at hb')
     go_roundw
     case rel=>exact⟨1,by omega,rfl,hb'⟩
     case measure=>simp [intOf]
    | 1,_ =>
     simp only [reduceIte,Nat.reduceEqDiff] at hb
     have d1:=HT.out.cellN c2
     go_wp2_with (at_builtin;refine Qc2 rfl (.tmp 31) (.tmp 32) 45 rfl 53 3 12 _ Tryz.underlying45 infoHop rfl (by omega) (by omega) w _ r1.length (cellsG HK.cs r1) rfl hb _ r2.length (cellsG HK.cs r2) rfl (H2.out.keep HT.out) (oneCellH _) (by omega) ?_;intro v' w' hb';replace hb':=HpB.more (l:=r1) (l':=r2) rfl hb')
     go_roundw
     case rel=>exact⟨2,by omega,rfl,hb'⟩
     case measure=>simp [intOf]
    | 2,_ =>
     simp only [reduceIte,Nat.reduceEqDiff] at hb
     go_wp2_with fail
     go_ret
     exact⟨_,rfl,hb⟩
    | n+3,h=>omega
  | n+3,h=>omega
end Go.Proofs.YtldmkoogghemhaaGreat
