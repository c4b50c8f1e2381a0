import Derived.Test.YtddbffoiadmffaaGreatRdAll2
import Derived.Test.YtddbffoiadmffaaGreatParts
import Derived.Test.YtddbffoiadmffaaGreatStaVal
import Derived.Test.YtddbffoiadmffaaGreatNumber
import Derived.Deep.RegionHeld3
import Derived.Deep.RegionHeld2
import Derived.Test.YtddbffoiadmffaaGreatStHead
namespace Go.Proofs.YtddbffoiadmffaaGreat
open Go.RowKit
set_option linter.unusedVariables false
set_option maxRecDepth 100000
theorem numVal_numOf (l:List Int):numVal l=numOf l:=by
 unfold numVal numOf
 congr 1
 funext a x
 rw [Int.mul_comm]
structure Rdr (N:Nat) (w:World) (b:Nat) (rs:List Int) (q:Option Nat):Prop where
 out:∃ rv p err,RdS w b rv rs p err∧b<N∧(∀ k,rv.ownBlock=some k→k<N)∧((q=some p∧err=0)∨(q=none∧err=10))
theorem Rdr.touch {F:Nat→Prop} {N:Nat} {w w':World} {b:Nat} {rs:List Int} {q:Option Nat} (h:Rdr N w b rs q) (t:Touch F w w') (hF:∀ k,k<N→¬ F k):Rdr N w' b rs q:=by
 obtain ⟨rv,p,err,h,hb,ho,hq⟩:=h
 exact ⟨rv,p,err,h.touch t (hF b hb) (fun k hk=>hF k (ho k hk)),hb,ho,hq⟩
theorem Rdr.keep {N:Nat} {w w':World} {b:Nat} {rs:List Int} {q:Option Nat} (h:Rdr N w b rs q) (t:Touch (fun _=>False) w w'):Rdr N w' b rs q:=h.touch t (fun _ _ h=>h)
theorem Rdr.low {N:Nat} {w:World} {b:Nat} {rs:List Int} {q:Option Nat} (h:Rdr N w b rs q):b<N:=by obtain ⟨_,_,_,_,hb,_⟩:=h; exact hb
theorem Rdr.lt {N:Nat} {w:World} {b:Nat} {rs:List Int} {q:Option Nat} (h:Rdr N w b rs q):b<w.heap.size:=by obtain ⟨_,_,_,h,_⟩:=h; exact lt_of_cell h.made
theorem Rdr.byte {N:Nat} {w:World} {b:Nat} {rs:List Int} {q:Option Nat} (h:Rdr N w b rs q):∀ x∈rs,0≤x∧x<256:=by obtain ⟨_,_,_,h,_⟩:=h; exact h.byte
theorem Rdr.ple {N:Nat} {w:World} {b:Nat} {rs:List Int} {p:Nat} (h:Rdr N w b rs (some p)):p≤rs.length:=by
 obtain ⟨_,_,_,h,_,_,⟨e,_⟩ | ⟨e,_⟩⟩:=h
 ·cases e; exact h.ple
 ·cases e
def numAt (rs:List Int) (q:Option Nat) (n:Nat):Int:=match q with
 | some p=>if p+n≤rs.length then numOf ((rs.drop p).take n) else 0
 | none=>0
def nextAt (rs:List Int) (q:Option Nat) (n:Nat):Option Nat:=match q with
 | some p=>if p+n≤rs.length then some (p+n) else none
 | none=>none
def leftAt (rs:List Int) (q:Option Nat):Int:=match q with
 | some p=>(rs.length:Int) - p
 | none=>0
theorem numAt_bound {rs:List Int} (hb:∀ x∈rs,0≤x∧x<256) (q:Option Nat) (n:Nat):0≤numAt rs q n∧numAt rs q n<256 ^ n:=by
 have hp:(0:Int)<256 ^ n:=Int.pow_pos (by decide)
 unfold numAt
 split
 ·split
  ·rename_i p h
   have:=numOf_bound ((rs.drop p).take n) (fun z hz=>hb z (List.mem_of_mem_drop (List.mem_of_mem_take hz)))
   rw [show ((rs.drop p).take n).length=n by simp; omega] at this
   exact this
  ·omega
 ·omega
theorem rnum_r (N b n:Nat) (rs:List Int) (q:Option Nat) (w:World) (h:Rdr N w b rs q) (h1:1≤n) (h4:n≤4) :
  Calls Tryz.prog 234 #[.pointer (some ⟨b,0,none⟩),.int .i64 n] w fun e w'=>e=.returned (.int .u32 (numAt rs q n))∧Rdr N w' b rs (nextAt rs q n)∧Touch (fun k=>k=b) w w':=by
 obtain ⟨rv,p,err,h,hb,ho,⟨rfl,rfl⟩ | ⟨rfl,rfl⟩⟩:=h
 ·by_cases hp:p+n≤rs.length
  ·refine (rnumber_ok b p n rv rs w h (by omega) (by omega) (by omega)).mono ?_
   rintro e w' ⟨rfl,hr,t,_⟩
   refine ⟨?_,⟨rv,_,_,hr,hb,ho,Or.inl ⟨?_,rfl⟩⟩,t⟩
   ·simp only [numAt,if_pos hp,numVal_numOf]
   ·simp only [nextAt,if_pos hp]
  ·refine (rnumber_short b p n rv rs w h (by omega) (by omega) (by omega)).mono ?_
   rintro e w' ⟨rfl,hr,t,_⟩
   refine ⟨?_,⟨rv,_,_,hr,hb,ho,Or.inr ⟨?_,rfl⟩⟩,t⟩
   ·simp only [numAt,if_neg hp]
   ·simp only [nextAt,if_neg hp]
 ·refine (rnumber_dead b p n 10 rv rs w h (by omega)).mono ?_
  rintro e w' ⟨rfl,rfl⟩
  exact ⟨rfl,⟨rv,p,10,h,hb,ho,Or.inr ⟨rfl,rfl⟩⟩,Touch.refl _ _⟩
theorem rnum1 (N b:Nat) (rs:List Int) (q:Option Nat) (w:World) (h:Rdr N w b rs q) :
  Calls Tryz.prog 234 #[.pointer (some ⟨b,0,none⟩),.int .i64 1] w fun e w'=>e=.returned (.int .u32 (numAt rs q 1))∧Rdr N w' b rs (nextAt rs q 1)∧Touch (fun k=>k=b) w w':=rnum_r N b 1 rs q w h (by omega) (by omega)
theorem rnum2 (N b:Nat) (rs:List Int) (q:Option Nat) (w:World) (h:Rdr N w b rs q) :
  Calls Tryz.prog 234 #[.pointer (some ⟨b,0,none⟩),.int .i64 2] w fun e w'=>e=.returned (.int .u32 (numAt rs q 2))∧Rdr N w' b rs (nextAt rs q 2)∧Touch (fun k=>k=b) w w':=rnum_r N b 2 rs q w h (by omega) (by omega)
theorem rnum3 (N b:Nat) (rs:List Int) (q:Option Nat) (w:World) (h:Rdr N w b rs q) :
  Calls Tryz.prog 234 #[.pointer (some ⟨b,0,none⟩),.int .i64 3] w fun e w'=>e=.returned (.int .u32 (numAt rs q 3))∧Rdr N w' b rs (nextAt rs q 3)∧Touch (fun k=>k=b) w w':=rnum_r N b 3 rs q w h (by omega) (by omega)
theorem rnum4 (N b:Nat) (rs:List Int) (q:Option Nat) (w:World) (h:Rdr N w b rs q) :
  Calls Tryz.prog 234 #[.pointer (some ⟨b,0,none⟩),.int .i64 4] w fun e w'=>e=.returned (.int .u32 (numAt rs q 4))∧Rdr N w' b rs (nextAt rs q 4)∧Touch (fun k=>k=b) w w':=rnum_r N b 4 rs q w h (by omega) (by omega)
theorem left_r (N b:Nat) (rs:List Int) (q:Option Nat) (w:World) (h:Rdr N w b rs q) :
  Calls Tryz.prog 179 #[.pointer (some ⟨b,0,none⟩)] w fun e w'=>e=.returned (.int .i64 (leftAt rs q))∧∃ n,w'=w.drewN n:=by
 obtain ⟨rv,p,err,h,hb,ho,⟨rfl,rfl⟩ | ⟨rfl,rfl⟩⟩:=h
 ·exact left_ok b p rv rs w h
 ·refine (left_dead b 10 w h.made h.err (by decide)).mono ?_
  rintro e w' ⟨rfl,rfl⟩
  exact ⟨rfl,0,rfl⟩
theorem err_r (N b:Nat) (rs:List Int) (q:Option Nat) (w:World) (h:Rdr N w b rs q) :
  Calls Tryz.prog 178 #[.pointer (some ⟨b,0,none⟩)] w fun e w'=>e=.returned (.int .i64 (if q=none then 10 else 0))∧w=w':=by
 obtain ⟨rv,p,err,h,hb,ho,⟨rfl,rfl⟩ | ⟨rfl,rfl⟩⟩:=h
 ·exact err_any b 0 w h.made h.err
 ·exact err_any b 10 w h.made h.err
theorem rbytes_r (N b p:Nat) (rs:List Int) (w:World) (h:Rdr N w b rs (some p)) (hc:rs.length≤1099511627776) :
  Calls Tryz.prog 237 #[.pointer (some ⟨b,0,none⟩),.int .i64 ((rs.length:Int) - p)] w fun e w'=>∃ v,e=.returned v∧w'.ownsRow w.heap.size 5 1 v (rs.length - p) (bytesOf (rs.drop p))∧Rdr N w' b rs (some rs.length)∧Touch (fun k=>k=b) w w':=by
 obtain ⟨rv,p',err,h,hb,ho,⟨e,rfl⟩ | ⟨e,rfl⟩⟩:=h
 ·cases e
  have hp:=h.ple
  have hs:stepR rs.length p 0 ((rs.length:Int) - p)=(rs.length,0,true):=by
   rw [stepR_ok _ _ _ (by omega) (by omega)]
   simp
   try omega
  refine (rbytes_all b p _ 0 rv rs w h (by omega) hc).mono ?_
  rintro e w' ⟨v,rfl,hown,hr,t⟩
  have hg:gotR rs p 0 ((rs.length:Int) - p)=rs.drop p:=by
   simp only [gotR,hs,if_true]
   rw [List.take_of_length_le (by simp <;> omega)]
  rw [hg,List.length_drop] at hown
  rw [hs] at hr
  exact ⟨v,rfl,hown,⟨rv,_,_,hr,hb,ho,Or.inl ⟨rfl,rfl⟩⟩,t⟩
 ·cases e
theorem read_r (v:Value) (bs:List Int) (w:World) (h:ArgAt w v bs) (hby:∀ x∈bs,0≤x∧x<256) (hcap:bs.length≤1099511627776) :
  Calls Tryz.prog 177 #[v] w fun e w'=>∃ b,e=.returned (.pointer (some ⟨b,0,none⟩))∧w.heap.size≤b∧Rdr w'.heap.size w' b bs (some 0)∧Touch (fun _=>False) w w':=by
 have fin:∀ (b:Nat) (rv:Value) (w':World),w.heap.size≤b→RdS w' b rv bs 0 0→Touch (fun _=>False) w w' →
   ∃ b',(Ending.returned (.pointer (some ⟨b,0,none⟩)))=.returned (.pointer (some ⟨b',0,none⟩))∧w.heap.size≤b'∧Rdr w'.heap.size w' b' bs (some 0)∧Touch (fun _=>False) w w' :=
  fun b rv w' hb hr t=>⟨b,rfl,hb,⟨rv,0,0,hr,lt_of_cell hr.made,hr.blk,Or.inl ⟨rfl,rfl⟩⟩,t⟩
 rcases h with ⟨rfl,rfl⟩ | ⟨ad,c,rfl,hlc,hcm,hs⟩
 ·go_enter Tryz.func177,Tryz.ntmps177
  go_wp2_with (go_at_call 201; refine (clone_nil _).mono ?_; rintro e w' ⟨rfl,rfl⟩)
  go_ret
  exact fin _ _ _ (Nat.le_refl _) ⟨by simp,by simp,by simp,by simp,by simp,by simp,by simp,Or.inl ⟨rfl,rfl⟩,by simp [Value.ownBlock],by simp,by simp [Value.ownBlock]⟩ ((Touch.refl _ _).alloc _)
 ·go_enter Tryz.func177,Tryz.ntmps177
  go_wp2_with (go_at_call 201; refine (clone_some _ _ bs _ hs hcap).mono ?_; rintro e w' ⟨v',rfl,hown,ht,hne⟩; obtain ⟨va,vc,rfl,_⟩:=rowAt_form (own_rowAt hown))
  go_ret
  refine fin _ (.slice va bs.length vc) _ ht.size ⟨by simp,by simp,by simp,by simp,by simp,by simp,by simp,?_,?_,hby,fun k hk=>by have:=(hown.lt k hk).2; simp; omega⟩ (ht.alloc _)
  ·exact (own_rowAt hown).touch ((Touch.refl (fun _=>False) _).alloc _) (fun _ _ h=>h)
  ·intro hk; have:=(hown.lt _ hk).2; omega
theorem rmask_ok (N b:Nat) (rs:List Int) (q:Option Nat) (w:World) (h:Rdr N w b rs q) (hm:pbok (numAt rs q 4)=true) :
  Calls Tryz.prog 233 #[.agg #[.pointer (some ⟨b,0,none⟩)]] w fun e w'=>e=.returned (.int .u32 (numAt rs q 4))∧Rdr N w' b rs (nextAt rs q 4)∧Touch (fun k=>k=b) w w':=by
 have hb:=numAt_bound h.byte q 4
 have HN:=fun w (h:Rdr N w b rs q)=>rnum4 N b rs q w h
 generalize numAt rs q 4=x at hm hb HN ⊢
 go_enter Tryz.func233,Tryz.ntmps233
 go_wp2_with fail
 refine Calls.mono (HN _ (h.keep ((Touch.refl _ _).alloc _))) ?_
 rintro e w1 ⟨rfl,h1,t1⟩
 have T1:Hid (Touch (fun k=>k=b) w w1):=((Touch.refl _ w).alloc _).trans t1
 have H1:Hid (Rdr N w1 b rs (nextAt rs q 4)):=h1
 clear t1 h1 HN h
 go_wp2_with fail
 refine Calls.mono (isMask_any x _ hb.1 hb.2) ?_
 rintro e w2 ⟨rfl,rfl⟩
 go_wp2_with fail
 refine Calls.mono (need_t _ 28 _ (by first | rfl | exact hm)) ?_
 rintro e w2 ⟨rfl,rfl⟩
 go_wp2
 go_ret
 exact ⟨rfl,H1.out,T1.out⟩
theorem rmask_no (N b:Nat) (rs:List Int) (q:Option Nat) (w:World) (h:Rdr N w b rs q) (hm:pbok (numAt rs q 4)=false) :
  Calls Tryz.prog 233 #[.agg #[.pointer (some ⟨b,0,none⟩)]] w fun e w'=>e=.panicked (flawC 28)∧Touch (fun k=>k=b) w w':=by
 have hb:=numAt_bound h.byte q 4
 have HN:=fun w (h:Rdr N w b rs q)=>rnum4 N b rs q w h
 generalize numAt rs q 4=x at hm hb HN ⊢
 go_enter Tryz.func233,Tryz.ntmps233
 go_wp2_with fail
 refine Calls.mono (HN _ (h.keep ((Touch.refl _ _).alloc _))) ?_
 rintro e w1 ⟨rfl,h1,t1⟩
 have T1:Hid (Touch (fun k=>k=b) w w1):=((Touch.refl _ w).alloc _).trans t1
 clear t1 h1 HN h
 go_wp2_with fail
 refine Calls.mono (isMask_any x _ hb.1 hb.2) ?_
 rintro e w2 ⟨rfl,rfl⟩
 go_wp2_with fail
 refine Calls.mono (need_f _ 28 _ (by first | rfl | exact hm)) ?_
 rintro e w2 ⟨rfl,rfl⟩
 exact ⟨rfl,rfl,T1.out⟩
theorem rmetric_any (N b:Nat) (rs:List Int) (q:Option Nat) (w:World) (h:Rdr N w b rs q) :
  Calls Tryz.prog 235 #[.agg #[.pointer (some ⟨b,0,none⟩)]] w fun e w'=>e=.returned (.int .u32 (numAt rs q 3))∧Rdr N w' b rs (nextAt rs q 3)∧Touch (fun k=>k=b) w w':=by
 have HN:=fun w (h:Rdr N w b rs q)=>rnum3 N b rs q w h
 generalize numAt rs q 3=x at HN ⊢
 go_enter Tryz.func235,Tryz.ntmps235
 go_wp2_with fail
 refine Calls.mono (HN _ (h.keep ((Touch.refl _ _).alloc _))) ?_
 rintro e w1 ⟨rfl,h1,t1⟩
 have T1:Hid (Touch (fun k=>k=b) w w1):=((Touch.refl _ w).alloc _).trans t1
 have H1:Hid (Rdr N w1 b rs (nextAt rs q 3)):=h1
 clear t1 h1 HN h
 go_wp2
 go_ret
 exact ⟨rfl,H1.out,T1.out⟩
theorem rnum_i (N b:Nat) (n:Int) (hn:n=1∨n=2∨n=3∨n=4) (rs:List Int) (q:Option Nat) (w:World) (h:Rdr N w b rs q) :
  Calls Tryz.prog 234 #[.pointer (some ⟨b,0,none⟩),.int .i64 n] w fun e w'=>e=.returned (.int .u32 (numAt rs q n.toNat))∧Rdr N w' b rs (nextAt rs q n.toNat)∧Touch (fun k=>k=b) w w':=by
 rcases hn with rfl | rfl | rfl | rfl
 ·exact rnum1 N b rs q w h
 ·exact rnum2 N b rs q w h
 ·exact rnum3 N b rs q w h
 ·exact rnum4 N b rs q w h
theorem nought_ok (N b:Nat) (n:Int) (hn:n=1∨n=2∨n=3∨n=4) (rs:List Int) (q:Option Nat) (w:World) (h:Rdr N w b rs q) (hz:numAt rs q n.toNat=0) :
  Calls Tryz.prog 241 #[.agg #[.pointer (some ⟨b,0,none⟩)],.int .i64 n] w fun e w'=>e=.returned (.tuple #[])∧Rdr N w' b rs (nextAt rs q n.toNat)∧Touch (fun k=>k=b) w w':=by
 have HN:=fun w (h:Rdr N w b rs q)=>rnum_i N b n hn rs q w h
 rw [hz] at HN
 go_enter Tryz.func241,Tryz.ntmps241
 go_wp2_with fail
 refine Calls.mono (HN _ (h.keep ((Touch.refl _ _).alloc _))) ?_
 rintro e w1 ⟨rfl,h1,t1⟩
 have T1:Hid (Touch (fun k=>k=b) w w1):=((Touch.refl _ w).alloc _).trans t1
 have H1:Hid (Rdr N w1 b rs (nextAt rs q n.toNat)):=h1
 clear t1 h1 HN h
 go_wp2_with fail
 refine Calls.mono (need_t _ 28 _ rfl) ?_
 rintro e w2 ⟨rfl,rfl⟩
 go_wp2
 go_end0
 exact ⟨rfl,H1.out,T1.out⟩
theorem nought_no (N b:Nat) (n:Int) (hn:n=1∨n=2∨n=3∨n=4) (rs:List Int) (q:Option Nat) (w:World) (h:Rdr N w b rs q) (hz:¬ numAt rs q n.toNat=0) :
  Calls Tryz.prog 241 #[.agg #[.pointer (some ⟨b,0,none⟩)],.int .i64 n] w fun e w'=>e=.panicked (flawC 28)∧Touch (fun k=>k=b) w w':=by
 have HN:=fun w (h:Rdr N w b rs q)=>rnum_i N b n hn rs q w h
 generalize numAt rs q n.toNat=x at HN hz
 have hzb:(x == 0)=false:=by simpa using hz
 go_enter Tryz.func241,Tryz.ntmps241
 go_wp2_with fail
 refine Calls.mono (HN _ (h.keep ((Touch.refl _ _).alloc _))) ?_
 rintro e w1 ⟨rfl,h1,t1⟩
 have T1:Hid (Touch (fun k=>k=b) w w1):=((Touch.refl _ w).alloc _).trans t1
 clear t1 h1 HN h
 go_wp2_with fail
 refine Calls.mono (need_f _ 28 _ (by first | rfl | exact hzb)) ?_
 rintro e w2 ⟨rfl,rfl⟩
 exact ⟨rfl,rfl,T1.out⟩
def R8 (w:World) (g:Nat) (u0 u1 u2 u3 u4 u5 u6 u7:Value):Prop:=w.cell? ⟨g,0,none⟩=some u0∧w.frozen? ⟨g,0,none⟩=false∧w.cell? ⟨g,1,none⟩=some u1∧w.frozen? ⟨g,1,none⟩=false∧w.cell? ⟨g,2,none⟩=some u2∧w.frozen? ⟨g,2,none⟩=false∧w.cell? ⟨g,3,none⟩=some u3∧w.frozen? ⟨g,3,none⟩=false∧w.cell? ⟨g,4,none⟩=some u4∧w.frozen? ⟨g,4,none⟩=false∧w.cell? ⟨g,5,none⟩=some u5∧w.frozen? ⟨g,5,none⟩=false∧w.cell? ⟨g,6,none⟩=some u6∧w.frozen? ⟨g,6,none⟩=false∧w.cell? ⟨g,7,none⟩=some u7∧w.frozen? ⟨g,7,none⟩=false
theorem err_some (N b:Nat) (rs:List Int) (p:Nat) (w:World) (h:Rdr N w b rs (some p)):Calls Tryz.prog 178 #[.pointer (some ⟨b,0,none⟩)] w fun e w'=>e=.returned (.int .i64 0)∧w=w':=err_r N b rs (some p) w h
theorem err_none (N b:Nat) (rs:List Int) (w:World) (h:Rdr N w b rs none):Calls Tryz.prog 178 #[.pointer (some ⟨b,0,none⟩)] w fun e w'=>e=.returned (.int .i64 10)∧w=w':=err_r N b rs none w h
theorem cell_far {w:World} {g g':Nat} (hne:g≠g') (i j:Nat) (u:Value):(w.setCell ⟨g',j,none⟩ u).cell? ⟨g,i,none⟩=w.cell? ⟨g,i,none⟩ :=
 World.cell?_of_block (w:=w) (a:=⟨g,i,none⟩) (Below.heap_setCell _ _ _ _ (fun e=>hne e))
theorem cell_far9 {w:World} {g g':Nat} (hne:g≠g') (i:Nat) (u0 u1 u2 u3 u4 u5 u6 u7 u8:Value):((((((((((w.setCell ⟨g',0,none⟩ u0).setCell ⟨g',1,none⟩ u1).setCell ⟨g',2,none⟩ u2).setCell ⟨g',3,none⟩ u3).setCell ⟨g',4,none⟩ u4).setCell ⟨g',5,none⟩ u5).setCell ⟨g',6,none⟩ u6).setCell ⟨g',7,none⟩ u7).setCell ⟨g',8,none⟩ u8)).cell? ⟨g,i,none⟩=w.cell? ⟨g,i,none⟩:=by
 rw [cell_far hne,cell_far hne,cell_far hne,cell_far hne,cell_far hne,cell_far hne,cell_far hne,cell_far hne,cell_far hne]
theorem cbytes_any (v:Value) (l:List Int) (w:World) (hv:ArgAt w v l) (hl:l.length≤1000000):Calls Tryz.prog 84 #[v] w fun e w'=>∃ u,e=.returned u∧Buf w w' u l:=by
 have HV':Hid (ArgAt w v l):=hv
 clear hv
 go_enter Tryz.func84,Tryz.ntmps84
 go_wp2_with (at_builtin; refine app_arg rfl (.tmp 4) (.tmp 5) rfl w (.slice none 0 0) [] rfl (Buf.nil (Touch.refl _ _)) v l rfl HV'.out (by simp; omega) ?_)
 intro v' w' b
 obtain ⟨xa,xc,rfl⟩:=b.form
 have B:Hid (Buf w w' (.slice xa ([] ++ l).length xc) ([] ++ l)):=b
 clear b
 go_wp2
 go_ret
 exact ⟨_,rfl,by simpa using B.out⟩
set_option maxHeartbeats 1000000 in
theorem cstate_any (h:HV) (v:Value) (rs:List Int) (w:World) (hv:ArgAt w v rs) (hl:rs.length≤1000000):Calls Tryz.prog 45 #[h.sv v] w fun e w'=>∃ u,e=.returned (h.sv u)∧Buf w w' u rs:=by
 obtain ⟨a,c,rfl,hm⟩:=hv.form
 have HC:=fun w h=>cbytes_any (.slice a rs.length c) rs w h hl
 have HV':Hid (ArgAt w (.slice a rs.length c) rs):=hv
 clear hv
 show Calls Tryz.prog 45 #[.agg #[.int .u16 h.age,.int .u8 h.opts,.int .u8 h.typ,.int .u32 h.id,.int .u32 h.adv,.int .i32 h.seq,.int .u16 h.sum,.int .u16 h.len,.slice a rs.length c]] w _
 go_enter Tryz.func45,Tryz.ntmps45
 go_wp2_with fail
 refine Calls.mono (HC _ (HV'.out.keepN (((Touch.refl _ _).alloc _).alloc _))) ?_
 rintro e w1 ⟨u,rfl,b1⟩
 obtain ⟨xa,xc,rfl⟩:=b1.form
 have O1:Out w1 w.heap.size h (.slice a rs.length c):=((Out.new w h (.slice a rs.length c) 57).keep ((Touch.refl _ _).alloc _)).keep b1.t
 have O2:Hid (Out (w1.setCell ⟨w.heap.size,8,none⟩ (.slice xa rs.length xc)) w.heap.size h (.slice xa rs.length xc)):=O1.set8 _
 have R1:Room w1 (w.heap.size+1) 9:=by
  have:=(Room.new (w.alloc (.cells #[.int .u16 h.age,.int .u8 h.opts,.int .u8 h.typ,.int .u32 h.id,.int .u32 h.adv,.int .i32 h.seq,.int .u16 h.sum,.int .u16 h.len,.slice a rs.length c] 57)) #[.int .u16 0,.int .u8 0,.int .u8 0,.int .u32 0,.int .u32 0,.int .i32 0,.int .u16 0,.int .u16 0,.slice none 0 0] 57).keep b1.t
  simpa using this
 have U2:Touch (fun k=>k=w.heap.size) w1 (w1.setCell ⟨w.heap.size,8,none⟩ (.slice xa rs.length xc)):=Touch.setCell (F:=fun k=>k=w.heap.size) (p:=⟨w.heap.size,8,none⟩) (Touch.refl _ _) (Or.inl rfl) _
 have R2:Hid (Room (w1.setCell ⟨w.heap.size,8,none⟩ (.slice xa rs.length xc)) (w.heap.size+1) 9):=R1.touch U2 (by show ¬ w.heap.size+1=w.heap.size; omega)
 have hgb:Hid (∀ k,(Value.slice xa rs.length xc).ownBlock=some k→w.heap.size+1<k):=fun k hk=>by have:=(b1.own.lt k hk).1; simp at this; omega
 have B2:Hid ((w1.setCell ⟨w.heap.size,8,none⟩ (.slice xa rs.length xc)).ownsRow w.heap.size 5 1 (.slice xa rs.length xc) rs.length (bytesOf rs)):=own_lower (own_touch b1.own U2 (fun k hk e=>by have:=hgb.out k hk; omega)) (by simp; omega)
 have T2:Hid (Touch (fun _=>False) w (w1.setCell ⟨w.heap.size,8,none⟩ (.slice xa rs.length xc))):=((((Touch.refl _ w).alloc _).alloc _).trans b1.t).setCell (Or.inr (Nat.le_refl _)) _
 obtain ⟨⟨⟨s0,s1,s2,s3,s4,s5,s6,s7⟩,s8⟩,f6,f7,f8⟩:=O1.fits
 clear b1 O1 R1 U2 HC
 go_upto_region 2 with fail
 clear s0 s1 s2 s3 s4 s5 s6 s7 s8 f6 f7 f8
 have hne:¬ w.heap.size=w.heap.size+1:=by omega
 have hne':¬ w.heap.size+1=w.heap.size:=by omega
 generalize w1.setCell ⟨w.heap.size,8,none⟩ (.slice xa rs.length xc)=w2 at *
 obtain ⟨⟨⟨s0,s1,s2,s3,s4,s5,s6,s7⟩,s8⟩,-⟩:=O2.out.fits
 generalize hg:w.heap.size+1=g at *
 have HG:Hid (w.heap.size+1=g):=hg
 clear hg
 obtain ⟨zz0,zc0,zf0⟩:=R2.out 0 (by omega)
 obtain ⟨zz1,zc1,zf1⟩:=R2.out 1 (by omega)
 obtain ⟨zz2,zc2,zf2⟩:=R2.out 2 (by omega)
 obtain ⟨zz3,zc3,zf3⟩:=R2.out 3 (by omega)
 obtain ⟨zz4,zc4,zf4⟩:=R2.out 4 (by omega)
 obtain ⟨zz5,zc5,zf5⟩:=R2.out 5 (by omega)
 obtain ⟨zz6,zc6,zf6⟩:=R2.out 6 (by omega)
 obtain ⟨zz7,zc7,zf7⟩:=R2.out 7 (by omega)
 obtain ⟨zz8,zc8,zf8⟩:=R2.out 8 (by omega)
 obtain ⟨wz,hwz⟩:∃ wz,wz=(((((((((w2.setCell ⟨g,0,none⟩ (.int .u16 h.age)).setCell ⟨g,1,none⟩ (.int .u8 h.opts)).setCell ⟨g,2,none⟩ (.int .u8 h.typ)).setCell ⟨g,3,none⟩ (.int .u32 h.id)).setCell ⟨g,4,none⟩ (.int .u32 h.adv)).setCell ⟨g,5,none⟩ (.int .i32 h.seq)).setCell ⟨g,6,none⟩ (.int .u16 h.sum)).setCell ⟨g,7,none⟩ (.int .u16 h.len)).setCell ⟨g,8,none⟩ (.slice xa rs.length xc)):=⟨_,rfl⟩
 have zd0:wz.cell? ⟨g,0,none⟩=some (.int .u16 h.age):=by rw [hwz]; simp [zc0,go_sem]
 have zd1:wz.cell? ⟨g,1,none⟩=some (.int .u8 h.opts):=by rw [hwz]; simp [zc1,go_sem]
 have zd2:wz.cell? ⟨g,2,none⟩=some (.int .u8 h.typ):=by rw [hwz]; simp [zc2,go_sem]
 have zd3:wz.cell? ⟨g,3,none⟩=some (.int .u32 h.id):=by rw [hwz]; simp [zc3,go_sem]
 have zd4:wz.cell? ⟨g,4,none⟩=some (.int .u32 h.adv):=by rw [hwz]; simp [zc4,go_sem]
 have zd5:wz.cell? ⟨g,5,none⟩=some (.int .i32 h.seq):=by rw [hwz]; simp [zc5,go_sem]
 have zd6:wz.cell? ⟨g,6,none⟩=some (.int .u16 h.sum):=by rw [hwz]; simp [zc6,go_sem]
 have zd7:wz.cell? ⟨g,7,none⟩=some (.int .u16 h.len):=by rw [hwz]; simp [zc7,go_sem]
 have zd8:wz.cell? ⟨g,8,none⟩=some (.slice xa rs.length xc):=by rw [hwz]; simp [zc8,go_sem]
 have HUz:Hid (Touch (fun k=>k=g) w2 wz):=by show Touch _ _ _; rw [hwz]; refine Touch.setCell (F:=fun k=>k=g) (p:=⟨g,8,none⟩) ?_ (Or.inl rfl) _; refine Touch.setCell (F:=fun k=>k=g) (p:=⟨g,7,none⟩) ?_ (Or.inl rfl) _; refine Touch.setCell (F:=fun k=>k=g) (p:=⟨g,6,none⟩) ?_ (Or.inl rfl) _; refine Touch.setCell (F:=fun k=>k=g) (p:=⟨g,5,none⟩) ?_ (Or.inl rfl) _; refine Touch.setCell (F:=fun k=>k=g) (p:=⟨g,4,none⟩) ?_ (Or.inl rfl) _; refine Touch.setCell (F:=fun k=>k=g) (p:=⟨g,3,none⟩) ?_ (Or.inl rfl) _; refine Touch.setCell (F:=fun k=>k=g) (p:=⟨g,2,none⟩) ?_ (Or.inl rfl) _; refine Touch.setCell (F:=fun k=>k=g) (p:=⟨g,1,none⟩) ?_ (Or.inl rfl) _; refine Touch.setCell (F:=fun k=>k=g) (p:=⟨g,0,none⟩) ?_ (Or.inl rfl) _; exact Touch.refl _ _
 have HWz:Hid (wz=(((((((((w2.setCell ⟨g,0,none⟩ (.int .u16 h.age)).setCell ⟨g,1,none⟩ (.int .u8 h.opts)).setCell ⟨g,2,none⟩ (.int .u8 h.typ)).setCell ⟨g,3,none⟩ (.int .u32 h.id)).setCell ⟨g,4,none⟩ (.int .u32 h.adv)).setCell ⟨g,5,none⟩ (.int .i32 h.seq)).setCell ⟨g,6,none⟩ (.int .u16 h.sum)).setCell ⟨g,7,none⟩ (.int .u16 h.len)).setCell ⟨g,8,none⟩ (.slice xa rs.length xc))):=hwz
 clear hwz
 go_wp2_with fail
 rw [← HWz.out]
 clear HWz zc0 zf0 zc1 zf1 zc2 zf2 zc3 zf3 zc4 zf4 zc5 zf5 zc6 zf6 zc7 zf7 zc8 zf8
 refine bodyPost_ret (v:=.agg #[.int .u16 h.age,.int .u8 h.opts,.int .u8 h.typ,.int .u32 h.id,.int .u32 h.adv,.int .i32 h.seq,.int .u16 h.sum,.int .u16 h.len,.slice xa rs.length xc]) (by simp [results,Tryz.results45,go_sem,zd0,zd1,zd2,zd3,zd4,zd5,zd6,zd7,zd8]) rfl ?_
 exact ⟨_,rfl,⟨own_touch B2.out HUz.out (fun k hk e=>by have:=hgb.out k hk; omega),T2.out.trans' HUz.out (fun i hi e=>by have:=HG.out; omega)⟩⟩
structure SE where
 h:HV
 v:Value
 rs:List Int
def SE.cells (x:SE):List Value:=[.int .u16 x.h.age,.int .u8 x.h.opts,.int .u8 x.h.typ,.int .u32 x.h.id,.int .u32 x.h.adv,.int .i32 x.h.seq,.int .u16 x.h.sum,.int .u16 x.h.len,x.v]
def statesC (l:List SE):List Value:=l.flatMap SE.cells
theorem length_statesC (l:List SE):(statesC l).length=l.length * 9:=by
 induction l with
 | nil=>rfl
 | cons x r ih=>unfold statesC at *; rw [List.flatMap_cons,List.length_append,ih,List.length_cons]; simp [SE.cells]; omega
theorem statesC_at (l:List SE) (j i:Nat) (x:SE) (hj:l[j]?=some x) (hi:i<9):(statesC l)[j * 9+i]?=x.cells[i]?:=by
 induction l generalizing j with
 | nil=>simp at hj
 | cons y r ih =>
  have e:statesC (y :: r)=y.cells ++ statesC r:=by simp [statesC]
  have hl:y.cells.length=9:=rfl
  rw [e]
  cases j with
  | zero =>
   obtain rfl:y=x:=by simpa using hj
   rw [List.getElem?_append_left (by omega),Nat.zero_mul,Nat.zero_add]
  | succ j =>
   rw [List.getElem?_append_right (by omega),hl,show (j+1) * 9+i - 9=j * 9+i by omega]
   exact ih j (by simpa using hj)
structure SE.Ok (w:World) (x:SE):Prop where
 all:x.h.All
 arg:ArgAt w x.v x.rs
 byte:∀ z∈x.rs,0≤z∧z<256
structure StatesAt (w:World) (v:Value) (l:List SE):Prop where
 vals:ValsAt w 9 v l.length (statesC l)
 ok:∀ x∈l,x.Ok w
theorem SE.Ok.keep {w w':World} {x:SE} (h:x.Ok w) (t:Touch (fun _=>False) w w'):x.Ok w':=⟨h.all,h.arg.keepN t,h.byte⟩
theorem StatesAt.keep {w w':World} {v:Value} {l:List SE} (h:StatesAt w v l) (t:Touch (fun _=>False) w w'):StatesAt w' v l:=⟨h.vals.keep t,fun x hx=>(h.ok x hx).keep t⟩
theorem StatesAt.one {w:World} {v:Value} {l:List SE} (h:StatesAt w v l) {j:Nat} {x:SE} (hj:l[j]?=some x):x.Ok w∧∃ g off c,v=.slice (some ⟨g,off,none⟩) l.length c∧∀ i u,x.cells[i]?=some u→w.cell? ⟨g,off+(j * 9+i),none⟩=some u:=by
 have hlt:=(List.getElem?_eq_some_iff.mp hj).1
 obtain ⟨g,off,c,e,_,_,hc⟩:=h.vals.cells (by omega) (by omega)
 refine ⟨h.ok x (List.mem_of_getElem? hj),g,off,c,e,fun i u hu=>hc _ _ ?_⟩
 have hi:i<9:=(List.getElem?_eq_some_iff.mp hu).1
 rw [statesC_at l j i x hj hi]
 exact hu
theorem own_unlike {w:World} {base base' e e' k k' n n' g:Nat} {v v':Value} {xs xs':List Value} (h:w.ownsRow base e k v n xs) (h':w.ownsRow base' e' k' v' n' xs') (hne:e≠e') (hg:v.ownBlock=some g):v'.ownBlock≠some g:=by
 intro hg'
 rcases h.2 with ⟨rfl,_⟩ | ⟨g1,c1,cur1,rfl,_,hh1,_⟩
 ·simp [Value.ownBlock] at hg
 ·rcases h'.2 with ⟨rfl,_⟩ | ⟨g2,c2,cur2,rfl,_,hh2,_⟩
  ·simp [Value.ownBlock] at hg'
  ·simp only [Value.ownBlock,Option.some.injEq] at hg hg'
   have e1:g1=g2:=by
    have a1:some g1=some g:=by simpa [Value.ownBlock] using hg
    have a2:some g2=some g:=by simpa [Value.ownBlock] using hg'
    rw [Option.some.inj a1,Option.some.inj a2]
   subst e1
   rw [hh1] at hh2
   simp only [Option.some.injEq,Obj.cells.injEq] at hh2
   exact hne hh2.2.1
end Go.Proofs.YtddbffoiadmffaaGreat
