import Derived.Laws.CopyOwn
import Derived.Test.YtddbffoiadmffaaGreatNumber
import Derived.Recover
import Derived.Defers
import Derived.Deep.RegionHeld3
import Derived.Deep.DeepCutAuto
namespace Go.Proofs.YtddbffoiadmffaaGreat
set_option maxHeartbeats 8000000
open Go.RowKit
set_option linter.unusedVariables false
set_option maxRecDepth 100000
theorem Tryz.info5:(Tryz.prog.info? 5).map (fun i=>(i.zero,i.size,i.bytes))=some (some (.int .u8 0),1,1):=by kernel_rfl
theorem Qn3 (b:Nat) (err:Int) (w:World) (h0:w.cell? ⟨b,0,none⟩=some (.bool true)) (h3:w.cell? ⟨b,3,none⟩=some (.int .i64 err)) :
  Calls Tryz.prog 200 #[.pointer (some ⟨b,0,none⟩)] w fun e w'=>e=.returned (.int .i64 err)∧w=w':=by
 go_enter Tryz.func200,Tryz.ntmps200
 go_wp2
 go_ret
 exact⟨rfl,rfl⟩
theorem Qa9 (b:Nat) (err:Int) (w:World) (h0:w.cell? ⟨b,0,none⟩=some (.bool true)) (h3:w.cell? ⟨b,3,none⟩=some (.int .i64 err)) :
  Calls Tryz.prog 198 #[.pointer (some ⟨b,0,none⟩)] w fun e w'=>e=.returned (.bool (err==0))∧w=w':=by
 go_enter Tryz.func198,Tryz.ntmps198
 go_wp2_with (go_at_call 200;refine (Qn3 _ err _ (by assumption) (by assumption)).mono ?_;rintro e w' ⟨rfl,rfl⟩)
 go_ret
 exact⟨rfl,rfl⟩
theorem Qu4 (b:Nat) (v:Value) (bs:List Int) (most:Int) (ad:Addr) (c:Nat) (ns:List Int) (w:World) (h:WrS w b v bs most 0)
  (hs:∀j u,(bytesOf ns)[j]?=some u→w.cell? (ad.add j)=some u) (hfit:(bs.length+ns.length:Int)≤most) (hcap:bs.length+ns.length≤1099511627776) :
  Calls Tryz.prog 174 #[.pointer (some ⟨b,0,none⟩),.slice (some ad) ns.length c] w fun e w'=>e=.returned (.pointer (some ⟨b,0,none⟩)) ∧
   ∃v',WrS w' b v' (bs++ns) most 0∧Touch (wrF b v) w w'∧(v'.ownBlock=v.ownBlock∨∃g,v'.ownBlock=some g∧w.heap.size≤g):=by
 obtain⟨i0,hi,hz0,hz1,hz2⟩:=info_parts Tryz.info5
 obtain⟨h0,h1,h2,h3,hf1,hf3,hown⟩:=h
 have hlt:=Qaa h0
 obtain⟨va,vl,vc,hv,hvl⟩:∃va vl vc,v=.slice va vl vc∧vl=bs.length:=by
  rcases hown.2 with⟨rfl,e⟩|⟨g,cap,cur,rfl,_⟩
  ·exact⟨_,_,_,rfl,e.symm⟩
  ·exact⟨_,_,_,rfl,rfl⟩
 subst hv
 subst hvl
 go_enter Tryz.func174,Tryz.ntmps174
 go_wp2_with (go_at_call 198;refine (Qa9 _ 0 _ (by assumption) (by assumption)).mono ?_;rintro e w' ⟨rfl,rfl⟩)
 go_quiet (fail)
 go_wp2_with (at_builtin;(refine wpList_append_own_at _ rfl (.tmp 28) (.tmp 29) 55 rfl (b+1) 5 i0 (.int .u8 0) 1 1 Tryz.underlying55 hi hz0 hz1 hz2 rfl (by decide) (.slice va bs.length vc) bs.length (bytesOf bs) rfl ?c0 ad ns.length c (bytesOf ns) rfl ?c6 ?c1 ?c2 ?c3 ?c4 ?c5 ?_))
 case c0=>exact (WrS.drewN ⟨h0,h1,h2,h3,hf1,hf3,hown⟩ nq).own
 case c6=>simp [Qbr]
 case c1=>exact hs
 case c2=>exact Qbn ns
 case c3=>unfold maxLen;omega
 case c4=>omega
 case c5=>show b+1≤w.heap.size;omega
 intro v' w1 hown' hgrow _ hat
 have R:=Qex (bs':=bs++ns) (WrS.drewN ⟨h0,h1,h2,h3,hf1,hf3,hown⟩ nq) hgrow (by rw [Qc6,List.length_append];exact hown')
 have hne:¬(Value.slice va bs.length vc).ownBlock=some b:=Qs3 hown (Nat.lt_succ_self b)
 have hc1:w1.cell? ⟨b,1,none⟩=some (.slice va bs.length vc):=(World.cell?_of_block (w:=w) (hgrow.block b hlt (fun e=>hne e.symm))).trans h1
 have hf1':w1.frozen? ⟨b,1,none⟩=false:=(World.frozen?_of_block (w:=w) (hgrow.block b hlt (fun e=>hne e.symm))).trans hf1
 obtain⟨va',vl',vc',hv'⟩:∃va' vl' vc',v'=.slice va' vl' vc':=by
  rcases hown'.2 with⟨rfl,e⟩|⟨g,cap,cur,rfl,_⟩
  ·exact⟨_,_,_,rfl⟩
  ·exact⟨_,_,_,rfl⟩
 subst hv'
 have HR:Hid (WrS (w1.setCell ⟨b,1,none⟩ (.slice va' vl' vc')) b (.slice va' vl' vc') (bs++ns) most 0∧Touch (wrF b (.slice va bs.length vc)) (w.drewN nq) (w1.setCell ⟨b,1,none⟩ (.slice va' vl' vc'))):=R
 have HA:Hid ((Value.slice va' vl' vc').ownBlock=(Value.slice va bs.length vc).ownBlock∨(Value.slice va' vl' vc').ownBlock=some w.heap.size):=hat
 clear R hown' hgrow hat hown hne hs h0 h1 h2 h3 hf1 hf3
 go_wp2
 go_ret
 refine⟨rfl,_,HR.out.1,((Touch.refl _ _).drewN nq).trans HR.out.2,?_⟩
 rcases HA.out with h|h
 ·exact Or.inl h
 ·exact Or.inr ⟨_,h,Nat.le_refl _⟩
theorem Qgn (b p m:Nat) (rv:Value) (rs:List Int) (w:World) (h:RdS w b rv rs p 0) (hm1:1≤m) (hm4:m≤4) (hm:rs.length<p+m) :
  Calls Tryz.prog 234 #[.pointer (some ⟨b,0,none⟩),.int .i64 m] w fun e w'=>e=.returned (.int .u32 0) ∧
   RdS w' b rv rs p 10∧Touch (fun k=>k=b) w w'∧w'.heap.size=w.heap.size:=by
 have hd1:decide ((m:Int)<1)=false:=by simp;omega
 have hd2:decide ((4:Int)<m)=false:=by simp;omega
 go_enter Tryz.func234,Tryz.ntmps234
 go_wp2_with (go_at_call 250;refine (Qoe _ p m _ rs _ h (by omega) (by omega)).mono ?_;rintro e w' ⟨rfl,hrest⟩)
 go_rounds 1
 go_ret
 exact⟨rfl,hrest⟩
theorem Quj (b:Nat) (v:Value) (bs:List Int) (most:Int) (w:World) (h:WrS w b v bs most 0) (hcap:bs.length≤1099511627776) :
  Calls Tryz.prog 175 #[.pointer (some ⟨b,0,none⟩)] w fun e w'=>∃v',e=.returned (.tuple #[v',.int .i64 0])∧w'.ownsRow w.heap.size 5 1 v' bs.length (bytesOf bs)∧Touch (fun _=>False) w w':=by
 have h0:=h.made
 have h1:=h.row
 have h3:=h.err
 rcases h.own.2 with⟨rfl,e⟩|⟨g,cap,cur,rfl,hbg,hg,hnc,hcm,hcs,htake⟩
 ·obtain rfl:bs=[]:=List.eq_nil_of_length_eq_zero e
  go_enter Tryz.func175,Tryz.ntmps175
  go_wp2_with (first|(go_at_call 198;refine (Qa9 _ 0 _ (by assumption) (by assumption)).mono ?_;rintro e w' ⟨rfl,rfl⟩)|(go_at_call 201;refine (Qhh _).mono ?_;rintro e w' ⟨rfl,rfl⟩))
  go_ret2
  exact⟨_,rfl,World.ownsRow_nil _ _ _ _,Touch.refl _ _⟩
 ·have hs:∀j u,(bytesOf bs)[j]?=some u→w.cell? ((⟨g,0,none⟩:Addr).add j)=some u:=h.own.cells (g:=g) rfl
  go_enter Tryz.func175,Tryz.ntmps175
  go_wp2_with (first|(go_at_call 198;refine (Qa9 _ 0 _ (by assumption) (by assumption)).mono ?_;rintro e w' ⟨rfl,rfl⟩)|(go_at_call 201;refine (Qfp _ _ bs _ hs hcap).mono ?_;rintro e w' ⟨v',rfl,hown,ht,hne⟩))
  go_ret2
  exact⟨_,rfl,hown,ht⟩
theorem Qq7 (b p:Nat) (n err:Int) (rv:Value) (rs:List Int) (w:World) (h:RdS w b rv rs p err) (he:¬err=0) :
  Calls Tryz.prog 250 #[.pointer (some ⟨b,0,none⟩),.int .i64 n] w fun e w'=>e=.returned (.slice none 0 0)∧w=w':=by
 have h0:=h.made
 have h3:=h.err
 have he':(err==0)=false:=by simpa using he
 by_cases hn:n<0
 ·go_enter Tryz.func250,Tryz.ntmps250
  go_wp2_with (first|(go_at_call 249;refine (Qcn _ _ _ _ h0 h3 he').mono ?_;rintro e w' ⟨rfl,rfl⟩)|(go_at_call 214;refine (Qa6 _ _ _ h0 h3).mono ?_;rintro e w' ⟨rfl,rfl⟩))
  go_ret
  exact⟨rfl,rfl⟩
 ·by_cases hp:0<n
  all_goals
   go_enter Tryz.func250,Tryz.ntmps250
   go_wp2_with (first|(go_at_call 179;refine (Qhf _ _ _ h0 h3 he').mono ?_;rintro e w' ⟨rfl,rfl⟩)|(go_at_call 249;refine (Qcn _ _ _ _ h0 h3 he').mono ?_;rintro e w' ⟨rfl,rfl⟩)|(go_at_call 214;refine (Qa6 _ _ _ h0 h3).mono ?_;rintro e w' ⟨rfl,rfl⟩))
   go_ret
   exact⟨rfl,rfl⟩
theorem Qhl (b p:Nat) (n err:Int) (rv:Value) (rs:List Int) (w:World) (h:RdS w b rv rs p err) (he:¬err=0) :
  Calls Tryz.prog 234 #[.pointer (some ⟨b,0,none⟩),.int .i64 n] w fun e w'=>e=.returned (.int .u32 0)∧w=w':=by
 have g0:=h.made
 have g3:=h.err
 have he':(err==0)=false:=by simpa using he
 by_cases h1:n<1
 ·go_enter Tryz.func234,Tryz.ntmps234
  go_wp2_with (go_at_call 249;refine (Qcn _ _ _ _ g0 g3 he').mono ?_;rintro e w' ⟨rfl,rfl⟩)
  go_ret
  exact⟨rfl,rfl⟩
 ·have h1':decide (n<1)=false:=by simpa using h1
  by_cases h4:4<n
  ·go_enter Tryz.func234,Tryz.ntmps234
   go_wp2_with (go_at_call 249;refine (Qcn _ _ _ _ g0 g3 he').mono ?_;rintro e w' ⟨rfl,rfl⟩)
   go_ret
   exact⟨rfl,rfl⟩
  ·have h4':decide (4<n)=false:=by simpa using h4
   go_enter Tryz.func234,Tryz.ntmps234
   go_wp2_with (go_at_call 250;refine (Qq7 _ _ _ _ _ _ _ h he).mono ?_;rintro e w' ⟨rfl,rfl⟩)
   go_rounds 1
   go_ret
   exact⟨rfl,rfl⟩
theorem Qh5 (l:List Int):numVal l=numOf l:=by
 unfold numVal numOf
 congr 1
 funext a x
 rw [Int.mul_comm]
structure Rdr (N:Nat) (w:World) (b:Nat) (rs:List Int) (q:Option Nat):Prop where
 out:∃rv p err,RdS w b rv rs p err∧b<N∧(∀k,rv.ownBlock=some k→k<N)∧((q=some p∧err=0)∨(q=none∧err=10))
theorem Rdr.touch {F:Nat→Prop} {N:Nat} {w w':World} {b:Nat} {rs:List Int} {q:Option Nat} (h:Rdr N w b rs q) (t:Touch F w w') (hF:∀k,k<N→¬F k):Rdr N w' b rs q:=by
 obtain⟨rv,p,err,h,hb,ho,hq⟩:=h
 exact⟨rv,p,err,h.touch t (hF b hb) (fun k hk=>hF k (ho k hk)),hb,ho,hq⟩
theorem Rdr.keep {N:Nat} {w w':World} {b:Nat} {rs:List Int} {q:Option Nat} (h:Rdr N w b rs q) (t:Touch (fun _=>False) w w'):Rdr N w' b rs q:=h.touch t (fun _ _ h=>h)
theorem Rdr.low {N:Nat} {w:World} {b:Nat} {rs:List Int} {q:Option Nat} (h:Rdr N w b rs q):b<N:=by obtain⟨_,_,_,_,hb,_⟩:=h;exact hb
theorem Rdr.lt {N:Nat} {w:World} {b:Nat} {rs:List Int} {q:Option Nat} (h:Rdr N w b rs q):b<w.heap.size:=by obtain⟨_,_,_,h,_⟩:=h;exact Qaa h.made
theorem Rdr.byte {N:Nat} {w:World} {b:Nat} {rs:List Int} {q:Option Nat} (h:Rdr N w b rs q):∀x∈rs,0≤x∧x<256:=by obtain⟨_,_,_,h,_⟩:=h;exact h.byte
theorem Rdr.ple {N:Nat} {w:World} {b:Nat} {rs:List Int} {p:Nat} (h:Rdr N w b rs (some p)):p≤rs.length:=by
 obtain⟨_,_,_,h,_,_,⟨e,_⟩|⟨e,_⟩⟩:=h
 ·cases e;exact h.ple
 ·cases e
def numAt (rs:List Int) (q:Option Nat) (n:Nat):Int:=match q with
 | some p=>if p+n≤rs.length then numOf ((rs.drop p).take n) else 0
 | none=>0
def nextAt (rs:List Int) (q:Option Nat) (n:Nat):Option Nat:=match q with
 | some p=>if p+n≤rs.length then some (p+n) else none
 | none=>none
def leftAt (rs:List Int) (q:Option Nat):Int:=match q with
 | some p=>(rs.length:Int)-p
 | none=>0
theorem Qcm {rs:List Int} (hb:∀x∈rs,0≤x∧x<256) (q:Option Nat) (n:Nat):0≤numAt rs q n∧numAt rs q n<256 ^ n:=by
 have hp:(0:Int)<256 ^ n:=Int.pow_pos (by decide)
 unfold numAt
 split
 ·split
  ·rename_i p h
   have:=Qe0 ((rs.drop p).take n) (fun z hz=>hb z (List.mem_of_mem_drop (List.mem_of_mem_take hz)))
   rw [show ((rs.drop p).take n).length=n by simp;omega] at this
   exact this
  ·omega
 ·omega
theorem Qko (N b n:Nat) (rs:List Int) (q:Option Nat) (w:World) (h:Rdr N w b rs q) (h1:1≤n) (h4:n≤4) :
  Calls Tryz.prog 234 #[.pointer (some ⟨b,0,none⟩),.int .i64 n] w fun e w'=>e=.returned (.int .u32 (numAt rs q n))∧Rdr N w' b rs (nextAt rs q n)∧Touch (fun k=>k=b) w w':=by
 obtain⟨rv,p,err,h,hb,ho,⟨rfl,rfl⟩|⟨rfl,rfl⟩⟩:=h
 ·by_cases hp:p+n≤rs.length
  ·refine (Qlu b p n rv rs w h (by omega) (by omega) (by omega)).mono ?_
   rintro e w' ⟨rfl,hr,t,_⟩
   refine⟨?_,⟨rv,_,_,hr,hb,ho,Or.inl ⟨?_,rfl⟩⟩,t⟩
   ·simp only [numAt,if_pos hp,Qh5]
   ·simp only [nextAt,if_pos hp]
  ·refine (Qgn b p n rv rs w h (by omega) (by omega) (by omega)).mono ?_
   rintro e w' ⟨rfl,hr,t,_⟩
   refine⟨?_,⟨rv,_,_,hr,hb,ho,Or.inr ⟨?_,rfl⟩⟩,t⟩
   ·simp only [numAt,if_neg hp]
   ·simp only [nextAt,if_neg hp]
 ·refine (Qhl b p n 10 rv rs w h (by omega)).mono ?_
  rintro e w' ⟨rfl,rfl⟩
  exact⟨rfl,⟨rv,p,10,h,hb,ho,Or.inr ⟨rfl,rfl⟩⟩,Touch.refl _ _⟩
theorem rnum1 (N b:Nat) (rs:List Int) (q:Option Nat) (w:World) (h:Rdr N w b rs q) :
  Calls Tryz.prog 234 #[.pointer (some ⟨b,0,none⟩),.int .i64 1] w fun e w'=>e=.returned (.int .u32 (numAt rs q 1))∧Rdr N w' b rs (nextAt rs q 1)∧Touch (fun k=>k=b) w w':=Qko N b 1 rs q w h (by omega) (by omega)
theorem rnum2 (N b:Nat) (rs:List Int) (q:Option Nat) (w:World) (h:Rdr N w b rs q) :
  Calls Tryz.prog 234 #[.pointer (some ⟨b,0,none⟩),.int .i64 2] w fun e w'=>e=.returned (.int .u32 (numAt rs q 2))∧Rdr N w' b rs (nextAt rs q 2)∧Touch (fun k=>k=b) w w':=Qko N b 2 rs q w h (by omega) (by omega)
theorem rnum3 (N b:Nat) (rs:List Int) (q:Option Nat) (w:World) (h:Rdr N w b rs q) :
  Calls Tryz.prog 234 #[.pointer (some ⟨b,0,none⟩),.int .i64 3] w fun e w'=>e=.returned (.int .u32 (numAt rs q 3))∧Rdr N w' b rs (nextAt rs q 3)∧Touch (fun k=>k=b) w w':=Qko N b 3 rs q w h (by omega) (by omega)
theorem rnum4 (N b:Nat) (rs:List Int) (q:Option Nat) (w:World) (h:Rdr N w b rs q) :
  Calls Tryz.prog 234 #[.pointer (some ⟨b,0,none⟩),.int .i64 4] w fun e w'=>e=.returned (.int .u32 (numAt rs q 4))∧Rdr N w' b rs (nextAt rs q 4)∧Touch (fun k=>k=b) w w':=Qko N b 4 rs q w h (by omega) (by omega)
theorem Qs4 (N b:Nat) (rs:List Int) (q:Option Nat) (w:World) (h:Rdr N w b rs q) :
  Calls Tryz.prog 179 #[.pointer (some ⟨b,0,none⟩)] w fun e w'=>e=.returned (.int .i64 (leftAt rs q))∧∃n,w'=w.drewN n:=by
 obtain⟨rv,p,err,h,hb,ho,⟨rfl,rfl⟩|⟨rfl,rfl⟩⟩:=h
 ·exact Qfb b p rv rs w h
 ·refine (Qhf b 10 w h.made h.err (by decide)).mono ?_
  rintro e w' ⟨rfl,rfl⟩
  exact⟨rfl,0,rfl⟩
theorem Qvj (N b:Nat) (rs:List Int) (q:Option Nat) (w:World) (h:Rdr N w b rs q) :
  Calls Tryz.prog 178 #[.pointer (some ⟨b,0,none⟩)] w fun e w'=>e=.returned (.int .i64 (if q=none then 10 else 0))∧w=w':=by
 obtain⟨rv,p,err,h,hb,ho,⟨rfl,rfl⟩|⟨rfl,rfl⟩⟩:=h
 ·exact Qiv b 0 w h.made h.err
 ·exact Qiv b 10 w h.made h.err
theorem Qwi (v:Value) (bs:List Int) (w:World) (h:ArgAt w v bs) (hby:∀x∈bs,0≤x∧x<256) (hcap:bs.length≤1099511627776) :
  Calls Tryz.prog 177 #[v] w fun e w'=>∃b,e=.returned (.pointer (some ⟨b,0,none⟩))∧w.heap.size≤b∧Rdr w'.heap.size w' b bs (some 0)∧Touch (fun _=>False) w w':=by
 have fin:∀(b:Nat) (rv:Value) (w':World),w.heap.size≤b→RdS w' b rv bs 0 0→Touch (fun _=>False) w w' →
   ∃b',(Ending.returned (.pointer (some ⟨b,0,none⟩)))=.returned (.pointer (some ⟨b',0,none⟩))∧w.heap.size≤b'∧Rdr w'.heap.size w' b' bs (some 0)∧Touch (fun _=>False) w w' :=
  fun b rv w' hb hr t=>⟨b,rfl,hb,⟨rv,0,0,hr,Qaa hr.made,hr.blk,Or.inl ⟨rfl,rfl⟩⟩,t⟩
 rcases h with⟨rfl,rfl⟩|⟨ad,c,rfl,hlc,hcm,hs⟩
 ·go_enter Tryz.func177,Tryz.ntmps177
  go_wp2_with (go_at_call 201;refine (Qhh _).mono ?_;rintro e w' ⟨rfl,rfl⟩)
  go_ret
  exact fin _ _ _ (Nat.le_refl _) ⟨by simp,by simp,by simp,by simp,by simp,by simp,by simp,Or.inl ⟨rfl,rfl⟩,by simp [Value.ownBlock],by simp,by simp [Value.ownBlock]⟩ ((Touch.refl _ _).alloc _)
 ·go_enter Tryz.func177,Tryz.ntmps177
  go_wp2_with (go_at_call 201;refine (Qfp _ _ bs _ hs hcap).mono ?_;rintro e w' ⟨v',rfl,hown,ht,hne⟩;obtain⟨va,vc,rfl,_⟩:=Qf1 (Qcw hown))
  go_ret
  refine fin _ (.slice va bs.length vc) _ ht.size ⟨by simp,by simp,by simp,by simp,by simp,by simp,by simp,?_,?_,hby,fun k hk=>by have:=(hown.lt k hk).2;simp;omega⟩ (ht.alloc _)
  ·exact (Qcw hown).touch ((Touch.refl (fun _=>False) _).alloc _) (fun _ _ h=>h)
  ·intro hk;have:=(hown.lt _ hk).2;omega
theorem Qog:pbok 0=true:=by decide +kernel
theorem Qas (rs:List Int) (q:Option Nat) (m n:Nat):nextAt rs (nextAt rs q m) n=nextAt rs q (m+n):=by
 cases q with
 | none=>rfl
 | some p =>
  unfold nextAt
  by_cases h:p+(m+n)≤rs.length
  ·simp only [if_pos h,if_pos (show p+m≤rs.length by omega),if_pos (show p+m+n≤rs.length by omega)]
   congr 1
   omega
  ·simp only [if_neg h]
   by_cases h2:p+m≤rs.length
   ·simp only [if_pos h2,if_neg (show ¬p+m+n≤rs.length by omega)]
   ·simp only [if_neg h2]
theorem Qa4 {rs:List Int} {p n:Nat} (h:p+n≤rs.length):nextAt rs (some p) n=some (p+n):=by simp [nextAt,h]
theorem Qev {rs:List Int} {p n:Nat} (h:¬p+n≤rs.length):nextAt rs (some p) n=none:=by simp [nextAt,h]
theorem Qa7 {rs:List Int} {p n:Nat} (h:p+n≤rs.length):numAt rs (some p) n=numOf ((rs.drop p).take n):=by simp [numAt,h]
theorem numOf1 (a:Int):numOf [a]=a:=by simp [numOf]
theorem numOf2 (a b:Int):numOf [a,b]=256*a+b:=by simp [numOf]
theorem numOf4 (a b c d:Int):numOf [a,b,c,d]=16777216*a+65536*b+256*c+d:=by simp [numOf];omega
def takeLink:List Int→Option LV
 | a::b::c::d::e::f::g::h::i::j::k::l::_=>if j=0∧1≤i∧i≤4 then some ⟨numOf [a,b,c,d],numOf [e,f,g,h],i,numOf [k,l]⟩ else none
 | _=>none
def parseLinks:List Int→Option (List LV)
 | []=>some []
 | a::b::c::d::e::f::g::h::i::j::k::l::r=>if j=0∧1≤i∧i≤4 then (parseLinks r).map (fun t=>⟨numOf [a,b,c,d],numOf [e,f,g,h],i,numOf [k,l]⟩::t) else none
 | _=>none
theorem list12 {l:List Int} (h:12≤l.length):∃a b c d e f g i j k m n r,l=a::b::c::d::e::f::g::i::j::k::m::n::r:=by
 match l,h with
 | a::b::c::d::e::f::g::i::j::k::m::n::r,_=>exact⟨a,b,c,d,e,f,g,i,j,k,m,n,r,rfl⟩
theorem Qd8 {l:List Int} (h:12≤l.length):parseLinks l=match takeLink l with|some x=>(parseLinks (l.drop 12)).map (x :: ·)|none=>none:=by
 obtain⟨a,b,c,d,e,f,g,i,j,k,m,n,r,rfl⟩:=list12 h
 by_cases hc:k=0∧1≤j∧j≤4
 ·simp only [parseLinks,takeLink,if_pos hc,List.drop]
 ·simp only [parseLinks,takeLink,if_neg hc]
theorem Qc9 {l:List Int} (h0:0<l.length) (h:l.length<12):parseLinks l=none:=by
 match l,h0,h with
 | [_],_,_=>rfl
 | [_,_],_,_=>rfl
 | [_,_,_],_,_=>rfl
 | [_,_,_,_],_,_=>rfl
 | [_,_,_,_,_],_,_=>rfl
 | [_,_,_,_,_,_],_,_=>rfl
 | [_,_,_,_,_,_,_],_,_=>rfl
 | [_,_,_,_,_,_,_,_],_,_=>rfl
 | [_,_,_,_,_,_,_,_,_],_,_=>rfl
 | [_,_,_,_,_,_,_,_,_,_],_,_=>rfl
 | [_,_,_,_,_,_,_,_,_,_,_],_,_=>rfl
theorem Qmo {a b:Int} (ha:0≤a∧a<256) (hb:0≤b∧b<256):0≤numOf [a,b]∧numOf [a,b]<65536:=by rw [numOf2];omega
theorem Qd0 {a b c d:Int} (ha:0≤a∧a<256) (hb:0≤b∧b<256) (hc:0≤c∧c<256) (hd:0≤d∧d<256):0≤numOf [a,b,c,d]∧numOf [a,b,c,d]<4294967296:=by rw [numOf4];omega
theorem Qkd:∀{l:List Int} {ls:List LV},(∀z∈l,0≤z∧z<256)→parseLinks l=some ls→linksB ls=l∧∀x∈ls,x.Ok∧1≤x.typ∧x.typ≤4
 | l,ls,hb,h=>by
  by_cases h12:12≤l.length
  ·rw [Qd8 h12] at h
   obtain⟨a,b,c,d,e,f,g,i,j,k,m,n,r,rfl⟩:=list12 h12
   simp only [takeLink,List.drop] at h
   by_cases hc:k=0∧1≤j∧j≤4
   ·rw [if_pos hc] at h
    simp only [Option.map_eq_some_iff] at h
    obtain⟨t,ht,rfl⟩:=h
    obtain⟨hl,hx⟩:=Qkd (fun z hz=>hb z (by simp [hz])) ht
    have q:∀z∈[a,b,c,d,e,f,g,i,j,k,m,n],0≤z∧z<256:=fun z hz=>hb z (by simp at hz ⊢;grind)
    simp only [List.mem_cons,List.not_mem_nil,or_false,forall_eq_or_imp,forall_eq] at q
    obtain⟨qa,qb,qc,qd,qe,qf,qg,qi,qj,qk,qm,qn⟩:=q
    refine⟨?_,?_⟩
    ·have e1:linksB (⟨numOf [a,b,c,d],numOf [e,f,g,i],j,numOf [m,n]⟩::t)=linkB ⟨numOf [a,b,c,d],numOf [e,f,g,i],j,numOf [m,n]⟩++linksB t:=by simp [linksB]
     rw [e1,hl,linkB,Qdi a b c d qa qb qc qd,Qdi e f g i qe qf qg qi,Qeb m n qm qn,hc.1]
     rfl
    ·intro x hxm
     rcases List.mem_cons.1 hxm with rfl|hxm
     ·exact⟨⟨Qd0 qa qb qc qd,Qd0 qe qf qg qi,qj,Qmo qm qn⟩,hc.2⟩
     ·exact hx x hxm
   ·rw [if_neg hc] at h
    cases h
  ·by_cases h0:0<l.length
   ·rw [Qc9 h0 (by omega)] at h
    cases h
   ·obtain rfl:l=[]:=List.length_eq_zero_iff.1 (by omega)
    simp only [parseLinks,Option.some.injEq] at h
    subst h
    exact⟨rfl,by simp⟩
 termination_by l=>l.length
theorem Qhy (ls:List LV) (h:∀x∈ls,x.Ok) (ht:∀x∈ls,1≤x.typ∧x.typ≤4):parseLinks (linksB ls)=some ls:=by
 induction ls with
 | nil=>rfl
 | cons x r ih =>
  have hx:=h x (by simp)
  have hr:=ih (fun y hy=>h y (by simp [hy])) (fun y hy=>ht y (by simp [hy]))
  have hxt:=ht x (by simp)
  have e:linksB (x::r)=linkB x++linksB r:=by simp [linksB]
  rw [e]
  obtain⟨i,d,t,c⟩:=x
  obtain⟨⟨i0,i1⟩,⟨d0,d1⟩,⟨t0,t1⟩,⟨c0,c1⟩⟩:=hx
  dsimp only at i0 i1 d0 d1 t0 t1 c0 c1 hxt
  have e1:=Qbb i i0 i1
  have e2:=Qbb d d0 d1
  have e3:=Qh9 c c0 c1
  rw [numBytes4] at e1 e2
  rw [numBytes2] at e3
  simp only [linkB,numBytes4,numBytes2,List.cons_append,List.nil_append,parseLinks,hr]
  rw [if_pos ⟨trivial,hxt⟩,e1,e2,e3]
  rfl
theorem Qcv:∀(l:List Int),(∀z∈l,0≤z∧z<256)→∀x∈readLinks l,x.Ok
 | l,hb=>by
  by_cases h12:12≤l.length
  ·obtain⟨a,b,c,d,e,f,g,i,j,k,m,n,r,rfl⟩:=list12 h12
   have ih:=Qcv r (fun z hz=>hb z (by simp [hz]))
   have q:∀z∈[a,b,c,d,e,f,g,i,j,k,m,n],0≤z∧z<256:=fun z hz=>hb z (by simp at hz ⊢;grind)
   simp only [List.mem_cons,List.not_mem_nil,or_false,forall_eq_or_imp,forall_eq] at q
   obtain⟨qa,qb,qc,qd,qe,qf,qg,qi,qj,qk,qm,qn⟩:=q
   intro x hx
   rw [readLinks] at hx
   rcases List.mem_cons.1 hx with rfl|hx
   ·exact⟨Qd0 qa qb qc qd,Qd0 qe qf qg qi,qj,Qmo qm qn⟩
   ·exact ih x hx
  ·match l,h12 with
   | [],_=>simp [readLinks]
   | [_],_=>simp [readLinks]
   | [_,_],_=>simp [readLinks]
   | [_,_,_],_=>simp [readLinks]
   | [_,_,_,_],_=>simp [readLinks]
   | [_,_,_,_,_],_=>simp [readLinks]
   | [_,_,_,_,_,_],_=>simp [readLinks]
   | [_,_,_,_,_,_,_],_=>simp [readLinks]
   | [_,_,_,_,_,_,_,_],_=>simp [readLinks]
   | [_,_,_,_,_,_,_,_,_],_=>simp [readLinks]
   | [_,_,_,_,_,_,_,_,_,_],_=>simp [readLinks]
   | [_,_,_,_,_,_,_,_,_,_,_],_=>simp [readLinks]
   | _::_::_::_::_::_::_::_::_::_::_::_::_,h=>simp at h
 termination_by l=>l.length
theorem Qp1 {f c1 c2:Int} {r:List Int} {ls:List LV} (hb:∀z∈f::0::c1::c2::r,0≤z∧z<256) (hp:parseLinks r=some ls) (hl:(ls.length:Int)=numOf [c1,c2]) :
  decB 1 (f::0::c1::c2::r)=some ⟨f,ls,0,[],0,false,0,0,[]⟩:=by
 obtain⟨h1,h2⟩:=Qkd (fun z hz=>hb z (by simp [hz])) hp
 have q1:=hb c1 (by simp)
 have q2:=hb c2 (by simp)
 have e:layB 1 ⟨f,ls,0,[],0,false,0,0,[]⟩=f::0::c1::c2::r:=by
  unfold layB
  rw [if_pos rfl]
  dsimp only
  have:=Qmo q1 q2
  rw [hl,Int.emod_eq_of_lt this.1 this.2,Qeb c1 c2 q1 q2,h1]
  rfl
 rw [←e]
 exact Qfg ⟨hb f (by simp),fun x hx=>(h2 x hx).1,by simp,by simp,by simp,by simp,by simp,by simp⟩ ⟨Or.inl rfl,by simp,by simp,by simp,by simp,by simp,Qog,by simp,by simp,by simp,fun x hx=>(h2 x hx).2⟩
theorem Qej {rs:List Int} {B:BV} (hb:∀z∈rs,0≤z∧z<256) (hl:rs.length<65536) (h:decB 1 rs=some B):∃f c1 c2 r ls,rs=f::0::c1::c2::r∧parseLinks r=some ls∧(ls.length:Int)=numOf [c1,c2]:=by
 obtain⟨h1,h2,h3⟩:=Qb2 h
 simp only [readB,if_true] at h1
 split at h1
 ·cases h1
 ·simp only [Option.some.injEq] at h1
  have hok:=Qcv (rs.drop 4) (fun z hz=>hb z (List.mem_of_mem_drop hz))
  obtain⟨fl,ls,ma,rr,me,t2,fw,tg,da⟩:=B
  simp only [BV.mk.injEq] at h1
  obtain⟨h1f,h1l,-⟩:=h1
  have hll:ls.length<65536:=by
   have:=congrArg List.length h3
   unfold layB at this
   rw [if_pos rfl] at this
   simp [Qci,numBytes] at this
   omega
  refine⟨fl,(ls.length:Int)/256%256,(ls.length:Int)%256,linksB ls,ls,?_,Qhy ls (by rw [←h1l];exact hok) h2.lin,?_⟩
  ·rw [←h3]
   unfold layB
   rw [if_pos rfl]
   dsimp only
   rw [show (ls.length:Int)%65536=(ls.length:Int) by omega,numBytes2]
   rfl
  ·rw [numOf2];omega
theorem list4 {l:List Int} (h:4≤l.length):∃a b c d r,l=a::b::c::d::r:=by
 match l,h with
 | a::b::c::d::r,_=>exact⟨a,b,c,d,r,rfl⟩
def flawC (e:Int):List PanicEntry:=[{ v:=.iface 280 (.int .i64 e),recovered:=false }]
theorem Qtj (e:Int) (w:World):Calls Tryz.prog 140 #[.bool true,.int .i64 e] w fun x w'=>x=.returned (.tuple #[])∧w=w':=by
 go_enter Tryz.func140,Tryz.ntmps140
 go_wp2
 go_end0
 exact⟨rfl,rfl⟩
theorem Qti (e:Int) (w:World):Calls Tryz.prog 140 #[.bool false,.int .i64 e] w fun x w'=>x=.panicked (flawC e)∧w=w':=by
 go_enter Tryz.func140,Tryz.ntmps140
 go_wp2
 exact⟨rfl,rfl,rfl⟩
theorem Qbm (t:Bool) (e:Int) (w:World) (ht:t=true):Calls Tryz.prog 140 #[.bool t,.int .i64 e] w fun x w'=>x=.returned (.tuple #[])∧w=w':=by subst ht;exact Qtj e w
theorem Qcd (t:Bool) (e:Int) (w:World) (ht:t=false):Calls Tryz.prog 140 #[.bool t,.int .i64 e] w fun x w'=>x=.panicked (flawC e)∧w=w':=by subst ht;exact Qti e w
theorem Qt7 (e:Int) (w:World):(Instr.typeAssert (.iface 280 (.int .i64 e)) 20 280 true).run Tryz.prog w=.ok (.tuple #[.int .i64 e,.bool true]) w:=by kernel_rfl
theorem Qvg (w:World):(Instr.typeAssert .nilIface 20 280 true).run Tryz.prog w=.ok (.tuple #[.int .i64 0,.bool false]) w:=by kernel_rfl
theorem Qup {n:Int} (h0:0≤n) (h1:n≤32):4294967295*2 ^ (32-n).toNat%4294967296=pmask n:=by
 rw [Qcj h1]
 show 4294967295*psz n%4294967296=_
 have:=Qi2 n;have:=Qsu h0
 omega
theorem Qgh (n:Int) (w:World) (h0:0≤n) :
  Calls Tryz.prog 183 #[.int .u8 n] w fun e w'=>e=.returned (.int .u32 (pmask n))∧w=w':=by
 by_cases h1:n≤32
 ·have hm:=Qup h0 h1
  have H:Hid (4294967295*2 ^ (32-n).toNat%4294967296=pmask n):=hm
  clear hm
  go_enter Tryz.func183,Tryz.ntmps183
  go_wp2
  go_ret
  exact⟨Qav H.out,rfl⟩
 ·have h2:32<n:=by omega
  have H:Hid (pmask n=0):=Qku h2
  clear h1
  go_enter Tryz.func183,Tryz.ntmps183
  go_wp2
  go_ret
  exact⟨Qav H.out.symm,rfl⟩
theorem Qqj (a:Int) (w:World) (h0:0≤a) (h1:a<4294967296) :
  Calls Tryz.prog 152 #[.int .u32 a] w fun e w'=>e=.returned (.tuple #[.int .u8 (pbn a),.bool (pbok a)])∧w=w':=by
 go_enter Tryz.func152,Tryz.ntmps152
 go_wp2
 go_loop [4,5] (fun n r=>∃k:Nat,∃x:Int,k≤32∧n=.int .u8 k∧r=.int .u32 x∧0≤x∧x<4294967296∧Hid (x=a*2 ^ k%4294967296)∧Hid (∀j:Nat,j<k→a*2 ^ j%4294967296≠0)) (fun n _=>32-(intOf n).toNat)
 case atStart=>exact⟨0,a,by omega,rfl,rfl,h0,h1,(by show a=_;rw [Int.pow_zero];omega),fun j hj=>absurd hj (by omega)⟩
 case round =>
  obtain⟨k,x,hk,rfl,rfl,hx0,hx1,HX,HL⟩:=hrel
  by_cases hx:x=0
  ·subst hx
   have hp:=Qte hk HX.out.symm HL.out
   by_cases hm:pmask k=a
   ·rw [if_pos hm] at hp
    have H:=Qsz hp
    have HH:Hid (pbn a=k∧pbok a=true):=H
    have HM:Hid (pmask k=a):=hm
    clear hp H hm
    go_wp2_with (go_at_call 183;refine (Qgh _ _ (by omega)).mono ?_;rintro e w' ⟨rfl,rfl⟩;rw [HM.out])
    go_ret2
    exact⟨Qek HH.out.1.symm HH.out.2.symm,rfl⟩
   ·rw [if_neg hm] at hp
    have H:=Qwm hp
    have HH:Hid (pbn a=0∧pbok a=false):=H
    clear hp H
    go_wp2_with (go_at_call 183;refine (Qgh _ _ (by omega)).mono ?_;rintro e w' ⟨rfl,rfl⟩)
    go_ret2
    exact⟨Qek HH.out.1.symm HH.out.2.symm,rfl⟩
  ·have hk2:k<32:=by
    rcases Nat.lt_or_ge k 32 with h|h
    ·exact h
    ·exfalso;obtain rfl:k=32:=by omega
     exact hx (HX.out.trans (Qwd a))
   go_wp2
   go_round
   case rel=>exact⟨k+1,x*2%4294967296,by omega,by go_num,rfl,by omega,by omega,(by show _=_;rw [HX.out,Qus]),Qg4 HL.out (fun e=>hx (HX.out.trans e))⟩
   case measure=>simp [intOf];omega
structure Aft (w0:World) where
 w:World
 gr:Touch (fun _=>False) w0 w
theorem Qgv {P:Program} {id:Nat} {Q:Exit→Act→World→Prop} {a:Act} {w:World} {l:List Oper} (hm:P.follows .mixedOrders=true) (hB:Region.lexB .any l.toArray=true)
  (h:wpQuiet P l.toArray (fun w'=>∃u:Aft w,w'=u.w) (fun a'=>∀w',(∃u:Aft w,w'=u.w)→Q .normal a' w') l a):(Code.region id l.toArray true).wp P Q a w :=
 wp_region_quiet (C:=fun w'=>∃u:Aft w,w'=u.w) hm hB ⟨⟨_,(Touch.refl _ w).drew⟩,rfl⟩ (by simpa using h)
theorem Aft.call {P:Program} {f:FuncId} {args:Array Value} {w:World} {u:Aft w} {v:Value} (h:Calls P f args u.w fun e w'=>e=.returned v∧Touch (fun _=>False) u.w w') :
  Calls P f args u.w fun e w''=>e=.returned v∧∃u':Aft w,w''=u'.w :=
 h.mono fun _ w'' ⟨he,hg⟩=>⟨he,⟨w'',u.gr.trans hg⟩,rfl⟩
theorem Qbw {w:World} {p:Addr} {v:Value} (h:w.cell? p=some v):∀u:Aft w,u.w.cell? p=some v :=
 fun u=>u.gr.cellN h
theorem Qk3 (x:LV) (w:World):Calls Tryz.prog 251 #[.agg #[.int .u32 x.id,.int .u32 x.data,.int .u8 x.typ,.int .u16 x.cost]] w fun e w'=>e=.returned (.bool (decide (1≤x.typ)&&decide (x.typ≤4)))∧Touch (fun _=>False) w w':=by
 by_cases h1:1≤x.typ
 ·have h1':decide (1≤x.typ)=true:=by simpa using h1
  go_enter Tryz.func251,Tryz.ntmps251
  go_wp2
  go_ret
  exact⟨Qaj (by simp_all),(Touch.refl _ w).alloc _⟩
 ·have h1':decide (1≤x.typ)=false:=by simpa using h1
  go_enter Tryz.func251,Tryz.ntmps251
  go_wp2
  go_ret
  exact⟨Qaj (by simp_all),(Touch.refl _ w).alloc _⟩
theorem Qkl (h:HV) (a:Option Addr) (n c:Nat) (w:World) (hn:n≤140737488355328):Calls Tryz.prog 170 #[h.sv (.slice a n c)] w fun e w'=>e=.returned (.int .i64 (20+(n:Int)))∧Touch (fun _=>False) w w':=by
 have hw:wrap64 (20+(n:Int))=20+(n:Int):=by unfold wrap64;omega
 unfold HV.sv
 go_enter Tryz.func170,Tryz.ntmps170
 go_wp2
 go_ret
 exact⟨rfl,(Touch.refl _ w).alloc _⟩
theorem Qax (h:HV) (a:Option Addr) (n c:Nat) (w:World) (hn:n≤140737488355328) (hl:0≤h.len∧h.len<65536):Calls Tryz.prog 141 #[h.sv (.slice a n c)] w fun e w'=>e=.returned (.bool (h.len==20+(n:Int)))∧Touch (fun _=>False) w w':=by
 obtain⟨hl0,hl1⟩:=hl
 have HC:∀w,Calls Tryz.prog 170 #[.agg #[.int .u16 h.age,.int .u8 h.opts,.int .u8 h.typ,.int .u32 h.id,.int .u32 h.adv,.int .i32 h.seq,.int .u16 h.sum,.int .u16 h.len,.slice a n c]] w fun e w'=>e=.returned (.int .i64 (20+(n:Int)))∧Touch (fun _=>False) w w':=fun w=>Qkl h a n c w hn
 show Calls Tryz.prog 141 #[.agg #[.int .u16 h.age,.int .u8 h.opts,.int .u8 h.typ,.int .u32 h.id,.int .u32 h.adv,.int .i32 h.seq,.int .u16 h.sum,.int .u16 h.len,.slice a n c]] w _
 have HB:=Sd.new w h (.slice a n c) 57
 have p0:=Qbw HB.hd.c0
 have p1:=Qbw HB.hd.c1
 have p2:=Qbw HB.hd.c2
 have p3:=Qbw HB.hd.c3
 have p4:=Qbw HB.hd.c4
 have p5:=Qbw HB.hd.c5
 have p6:=Qbw HB.hd.c6
 have p7:=Qbw HB.hd.c7
 have p8:=Qbw HB.c8
 clear HB
 go_enter Tryz.func141,Tryz.ntmps141
 go_upto_region 1 with fail
 refine Qgv (by kernel_rfl) (by kernel_rfl) ?_
 repeat (first|go_big_quiet_skip|(go_big_quiet_want;go_big_quiet_op;first|go_big_quiet_on|(refine Exists.intro _ ⟨fun _=>rfl,?_⟩;go_big_quiet_on)))
 go_big_quiet_want;go_big_quiet_op;refine Exists.intro _ ⟨fun u=>Aft.call (HC _),?_⟩;go_big_quiet_on
 repeat (first|go_big_quiet_skip|(go_big_quiet_want;go_big_quiet_op;first|go_big_quiet_on|(refine Exists.intro _ ⟨fun _=>rfl,?_⟩;go_big_quiet_on)))
 refine wpQuiet_nil ?_
 rintro wq ⟨⟨_,hgq⟩,rfl⟩
 clear p0 p1 p2 p3 p4 p5 p6 p7 p8
 go_wp2
 go_ret
 exact⟨rfl,((Touch.refl _ w).alloc _).trans hgq⟩
theorem Qqa {w:World} {base:Nat} {e:TypeId} {size:Nat} {v:Value} {n:Nat} {xs:List Value} (h:w.ownsRow base e size v n xs):∃a c,v=.slice a n c:=by
 rcases h.2 with⟨rfl,rfl⟩|⟨g,cap,cur,rfl,_⟩
 ·exact⟨_,_,rfl⟩
 ·exact⟨_,_,rfl⟩
end Go.Proofs.YtddbffoiadmffaaGreat
