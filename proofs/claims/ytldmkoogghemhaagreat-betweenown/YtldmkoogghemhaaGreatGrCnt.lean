import Derived.Test.YtldmkoogghemhaaGreatStRd4
import Derived.Deep.RegionHeld3
import Derived.Deep.RegionLaw
import Derived.Deep.DrawnRows
import Derived.Test.YtldmkoogghemhaaGreatStChkAny
import Derived.Test.YtldmkoogghemhaaGreatStPairs
import Derived.Deep.RegionHeld2
import Derived.Deep.MidRow
import Derived.Deep.DeepCutAuto
import Derived.Deep.LoopGhost
namespace Go.Proofs.YtldmkoogghemhaaGreat
set_option maxHeartbeats 8000000
open Go.RowKit
set_option linter.unusedVariables false
set_option maxRecDepth 100000
attribute [local go_sem ↓] Go.wp_at_zero Go.wp_at_succ
attribute [local go_sem ↓] Go.wp_at_zero Go.wp_at_succ
structure TypeRd (t:Int) (G1 G2:Nat):Prop where
 p:∀w,Calls Tryz.prog 116 #[.int .u8 t] w fun e w'=>e=.returned (.agg #[.func (.func G1) #[] #[],.func (.func G2) #[] #[]])∧Touch (fun _=>False) w w'
 r:∀(v:Value) (rs:List Int) (w:World),ArgAt w v rs→(∀z∈rs,0≤z∧z<256)→rs.length<65536→Calls Tryz.prog 117 #[.agg #[.func (.func G1) #[] #[],.func (.func G2) #[] #[]],v] w (RdAns t rs w)
theorem Qel {t:Int} (h0:0≤t) (h:knownB t=false):t=0∨t=6∨t=8∨12≤t:=by
 simp [knownB] at h
 omega
theorem Qkx:TypeRd 3 163 164 :=
 ⟨Qln,fun v rs w hv hby hl=>Qg7 _ _ (fun _ _=>rfl) 3 v rs w hv hby (by omega) (fun N b w h hN=>Qk9 N b rs w h hN)⟩
theorem Qk8:TypeRd 4 165 166 :=
 ⟨Qk2,fun v rs w hv hby hl=>Qg7 _ _ (fun _ _=>rfl) 4 v rs w hv hby (by omega) (fun N b w h hN=>Qf6 N b rs w h hN)⟩
def RdOk (t:Int):Prop:=knownB t=true→∃G1 G2,TypeRd t G1 G2
theorem typeNone {t:Int} (h0:0≤t) (h1:t<256) (h:knownB t=false) (w:World):Calls Tryz.prog 116 #[.int .u8 t] w fun e w'=>e=.panicked (flawC 21)∧Touch (fun _=>False) w w':=by
 rcases Qel h0 h with rfl|rfl|rfl|h
 ·exact Qly w
 ·exact Qk3 w
 ·exact Qkp w
 ·exact Qgi t h h1 w
theorem Qet (h:HV) (ok:h.All) (hr:RdOk h.typ) (v:Value) (rs:List Int) (w:World) (B:BV) (hv:ArgAt w v rs) (hby:∀z∈rs,0≤z∧z<256) (hlen:h.len=20+(rs.length:Int)) (hk:knownB h.typ=true) (hB:decB h.typ rs=some B) :
  Calls Tryz.prog 88 #[h.sv v] w fun e w'=>∃vl vr vd,e=.returned (.tuple #[B.v vl vr vd,.int .i64 0])∧BOwn w.heap.size w' B vl vr vd∧Touch (fun _=>False) w w':=by
 obtain⟨G1,G2,T⟩:=hr hk
 obtain⟨a,c,rfl,hm⟩:=hv.form
 have hl:=ok.l
 exact Qh9 h a rs.length c rs w B hB (fun w' t S=>Qk0 w.heap.size h a rs.length c G1 G2 rs w' S ok.l (by omega) hlen T.p (fun w'' t'=>T.r _ rs w'' ((hv.keepN t).keepN t') hby (by omega)))
def chkE (h:HV) (rs:List Int):Int :=
 if h.len≠20+(rs.length:Int) then 22 else if h.sum=0∨whole ((headB h++rs).drop 2)=false then 23 else if knownB h.typ=false then 21
 else if h.seq = -2147483648∨¬bits BinOp.andNot .u16 h.age 32768≤3600 then 24 else if decB h.typ rs=none then 28 else 0
theorem Qh7 (h:HV) (ok:h.All) (hr:RdOk h.typ) (v:Value) (rs:List Int) (w:World) (hv:ArgAt w v rs) (hby:∀z∈rs,0≤z∧z<256) (hn:rs.length≤1000000) :
  Calls Tryz.prog 87 #[h.sv v] w fun e w'=>e=.returned (.int .i64 (chkE h rs))∧Touch (fun _=>False) w w':=by
 obtain⟨a,c,rfl,hm⟩:=hv.form
 have hl:=ok.l
 by_cases h1:h.len=20+(rs.length:Int)
 ·by_cases h2:h.sum=0
  ·have e:chkE h rs=23:=by simp [chkE,h1,h2]
   rw [e]
   exact Qbv h a rs.length c 23 w (fun w' t S=>Qj3 w.heap.size h ok _ rs w' S (hv.keepN t) hby hn h1 h2)
  ·cases h3:whole ((headB h++rs).drop 2) with
   | false =>
    have e:chkE h rs=23:=by simp [chkE,h1,h3]
    rw [e]
    exact Qbv h a rs.length c 23 w (fun w' t S=>Qhe w.heap.size h ok _ rs w' S (hv.keepN t) hby hn h1 h2 h3)
   | true =>
    cases hk:knownB h.typ with
    | false =>
     have e:chkE h rs=21:=by simp [chkE,h1,h2,h3,hk]
     rw [e]
     exact Qbv h a rs.length c 21 w (fun w' t S=>Qlt w.heap.size h ok _ rs w' S (hv.keepN t) hby hn h1 h2 h3 (fun w=>typeNone ok.t.1 ok.t.2 hk w))
    | true =>
     obtain⟨G1,G2,T⟩:=hr hk
     by_cases h4:h.seq = -2147483648
     ·have e:chkE h rs=24:=by simp [chkE,h1,h2,h3,hk,h4]
      rw [e]
      exact Qbv h a rs.length c 24 w (fun w' t S=>Qkl w.heap.size h ok _ rs G1 G2 w' S (hv.keepN t) hby hn h1 h2 h3 h4 T.p)
     ·by_cases h5:bits BinOp.andNot .u16 h.age 32768≤3600
      ·have HA:∀w',Touch (fun _=>False) w w'→Sd w' w.heap.size h (.slice a rs.length c)→Calls Tryz.prog 111 #[.pointer (some ⟨w.heap.size,0,none⟩)] w' (RdAns h.typ rs w'):=fun w' t S=>Qkz w.heap.size h ok _ rs G1 G2 w' S (hv.keepN t) hby hn h1 h2 h3 h4 h5 T.p (fun w'' t'=>T.r _ rs w'' ((hv.keepN t).keepN t') hby (by omega))
       cases hd:decB h.typ rs with
       | some B =>
        have e:chkE h rs=0:=by simp [chkE,h1,h2,h3,hk,h4,h5,hd]
        rw [e]
        exact Qj0 h a rs.length c rs w B hd HA
       | none =>
        have e:chkE h rs=28:=by simp [chkE,h1,h2,h3,hk,h4,h5,hd]
        rw [e]
        refine Qbv h a rs.length c 28 w (fun w' t S=>(HA w' t S).mono ?_)
        rintro e w'' (⟨B,vl,vr,vd,rfl,hd',-⟩|⟨rfl,-,t'⟩)
        ·rw [hd] at hd'
         cases hd'
        ·exact⟨rfl,t'⟩
      ·have e:chkE h rs=24:=by simp [chkE,h1,h2,h3,hk,h4,h5]
       rw [e]
       exact Qbv h a rs.length c 24 w (fun w' t S=>Qke w.heap.size h ok _ rs G1 G2 w' S (hv.keepN t) hby hn h1 h2 h3 h4 h5 T.p)
 ·have e:chkE h rs=22:=by simp [chkE,h1]
  rw [e]
  exact Qbv h a rs.length c 22 w (fun w' t S=>Qlg w.heap.size h ok _ rs w' S (hv.keepN t) hby hn h1)
structure SE where
 h:HV
 v:Value
 rs:List Int
def SE.cells (x:SE):List Value:=[.int .u16 x.h.age,.int .u8 x.h.opts,.int .u8 x.h.typ,.int .u32 x.h.id,.int .u32 x.h.adv,.int .i32 x.h.seq,.int .u16 x.h.sum,.int .u16 x.h.len,x.v]
def statesC (l:List SE):List Value:=l.flatMap SE.cells
theorem Qb9 (l:List SE):(statesC l).length=l.length*9:=by
 induction l with
 | nil=>rfl
 | cons x r ih=>unfold statesC at *;rw [List.flatMap_cons,List.length_append,ih,List.length_cons];simp [SE.cells];omega
theorem Qdr (l:List SE) (j i:Nat) (x:SE) (hj:l[j]?=some x) (hi:i<9):(statesC l)[j*9+i]?=x.cells[i]?:=by
 induction l generalizing j with
 | nil=>simp at hj
 | cons y r ih =>
  have e:statesC (y::r)=y.cells++statesC r:=by simp [statesC]
  have hl:y.cells.length=9:=rfl
  rw [e]
  cases j with
  | zero =>
   obtain rfl:y=x:=by simpa using hj
   rw [List.getElem?_append_left (by omega),Nat.zero_mul,Nat.zero_add]
  | succ j =>
   rw [List.getElem?_append_right (by omega),hl,show (j+1)*9+i-9=j*9+i by omega]
   exact ih j (by simpa using hj)
structure SE.Ok (w:World) (x:SE):Prop where
 all:x.h.All
 arg:ArgAt w x.v x.rs
 byte:∀z∈x.rs,0≤z∧z<256
structure StatesAt (w:World) (v:Value) (l:List SE):Prop where
 vals:ValsAt w 9 v l.length (statesC l)
 ok:∀x∈l,x.Ok w
theorem SE.Ok.keep {w w':World} {x:SE} (h:x.Ok w) (t:Touch (fun _=>False) w w'):x.Ok w':=⟨h.all,h.arg.keepN t,h.byte⟩
theorem StatesAt.keep {w w':World} {v:Value} {l:List SE} (h:StatesAt w v l) (t:Touch (fun _=>False) w w'):StatesAt w' v l:=⟨h.vals.keep t,fun x hx=>(h.ok x hx).keep t⟩
theorem StatesAt.one {w:World} {v:Value} {l:List SE} (h:StatesAt w v l) {j:Nat} {x:SE} (hj:l[j]?=some x):x.Ok w∧∃g off c,v=.slice (some ⟨g,off,none⟩) l.length c∧∀i u,x.cells[i]?=some u→w.cell? ⟨g,off+(j*9+i),none⟩=some u:=by
 have hlt:=(List.getElem?_eq_some_iff.mp hj).1
 obtain⟨g,off,c,e,_,_,hc⟩:=h.vals.cells (by omega) (by omega)
 refine⟨h.ok x (List.mem_of_getElem? hj),g,off,c,e,fun i u hu=>hc _ _ ?_⟩
 have hi:i<9:=(List.getElem?_eq_some_iff.mp hu).1
 rw [Qdr l j i x hj hi]
 exact hu
theorem Qay {F:Nat→Prop} {w w':World} {g:Nat} {T:TypeId} {xs:List Value} (h:Row w g T xs) (t:Touch F w w') (hg:¬F g):Row w' g T xs:=(t.block g h.lt hg).trans h
theorem Qbk {w:World} {g:Nat} {T:TypeId} {xs:List Value} (h:Row w g T xs):w.rangeAt g 0 xs:=fun j v hj=>by
 rw [Nat.zero_add,h.cell j]
 exact hj
theorem Qnc {w:World} {g:Nat} {T:TypeId} {pre xs ys:List Value} (h:Row w g T (pre++(xs++ys))):w.rangeAt g pre.length xs:=fun j v hj=>by
 rw [h.cell (pre.length+j),List.getElem?_append_right (by omega),Nat.add_sub_cancel_left]
 rw [List.getElem?_append_left (List.getElem?_eq_some_iff.1 hj).1]
 exact hj
theorem Ql6 {w:World} {g:Nat} {T:TypeId} {xs ys:List Value} (h:Row w g T (xs++ys)):w.rangeAt g 0 xs:=Qnc (pre:=[]) h
theorem Qnf {P:Program} {ops:Array Oper} {o:Oper} {a:Act} {w:World} {K:Act→World→Prop} {Q:Exit→Act→World→Prop} {E:Prop} (hgd:o.guard=none) (ty:TypeId) (x y:Operand) (ho:o.op=.store ty x y)
  (g:Nat) (cells:List Value) (hx:a.eval x=.pointer (some ⟨g,0,none⟩)) (hy:a.eval y=.agg cells.toArray) (T:TypeId) (old:List Value) (hg:Row w g T old) (hi:(P.info? ty).map (·.size)=some cells.length) (hold:old.length=cells.length) (h1:∀v∈cells,v.oneCell'=true)
  (h:K (a.put o.dst undef) (w.setRow g cells.toArray)):if Region.wanted o (yielded ops a.tmps)=true then Oper.wp P o a w K Q else E:=by
 have hw:Region.wanted o (yielded ops a.tmps)=true:=by simp [Region.wanted,hgd]
 rw [if_pos hw]
 exact wp_store_row ty x y ho g cells.toArray hx hy T old.toArray hg (by rw [hi];simp) (by simpa using hold) (Qgc h1) h
theorem Qih {w:World} {g:Nat} {T:TypeId} {old:List Value} (h:Row w g T old) (cs:List Value):Row (w.setRow g cs.toArray) g T cs:=h.setRow cs.toArray
theorem and15 {n:Int} (h0:0≤n) (h:n<65536):bits .andNot .u16 n 32768=n%32768:=by
 rw [u16_andNot n _ h0 h (by omega) (by omega),show 65535-(32768:Int).toNat=2 ^ 15-1 from rfl,Nat.and_two_pow_sub_one_eq_mod]
 omega
theorem Qlq (x y:Int) (w:World):Calls Tryz.prog 81 #[.int .u8 x,.int .u8 y] w fun e w'=>e=.returned (.int .i64 (cmpI x y))∧w=w':=by
 rcases Int.lt_trichotomy x y with h|h|h
 ·have H:Hid _:=Qin h
  go_enter Tryz.func81,Tryz.ntmps81
  go_wp2
  go_ret
  exact⟨Qas H.out.symm,rfl⟩
 ·subst h
  have H:Hid _:=Qjd x
  have h1:¬x<x:=by omega
  go_enter Tryz.func81,Tryz.ntmps81
  go_wp2
  go_ret
  exact⟨Qas H.out.symm,rfl⟩
 ·have H:Hid _:=Qkb h
  have h1:¬x<y:=by omega
  go_enter Tryz.func81,Tryz.ntmps81
  go_wp2
  go_ret
  exact⟨Qas H.out.symm,rfl⟩
theorem Qji (a:Int) (h0:0≤a) (h:a<65536) (w:World):Calls Tryz.prog 109 #[.int .u16 a] w fun e w'=>e=.returned (.int .u16 (yrs a))∧w=w':=by
 have e1:=and15 h0 h
 have e2:Hid (yrs a=if a%32768<3600 then a%32768 else 3600):=rfl
 have hb:0≤a%32768∧a%32768<32768:=by omega
 generalize yrs a=y at e2 ⊢
 generalize a%32768=m at e1 e2 hb
 obtain⟨hb0,hb1⟩:=hb
 by_cases hm:m≤3600
 ·have H:Hid (y=m):=by show _=_;have:=e2.out;split at this <;> omega
  clear e2
  go_enter Tryz.func109,Tryz.ntmps109
  go_wp2
  go_ret
  exact⟨Qas (by have:=H.out;omega),rfl⟩
 ·have H:Hid (y=3600):=by show _=_;have:=e2.out;split at this <;> omega
  clear e2
  go_enter Tryz.func109,Tryz.ntmps109
  go_wp2
  go_ret
  exact⟨Qas (by have:=H.out;omega),rfl⟩
theorem Qmo (a:Int) (h0:0≤a) (h:a<65536) (w:World):Calls Tryz.prog 86 #[.int .u16 a] w fun e w'=>e=.returned (.bool (decide (yrs a=3600)))∧w=w':=by
 have HY:=fun w=>Qji a h0 h w
 generalize yrs a=y at HY ⊢
 by_cases hy:y=3600
 ·subst hy
  go_enter Tryz.func86,Tryz.ntmps86
  go_wp2_with fail
  refine (HY _).mono ?_
  rintro e w1 ⟨rfl,rfl⟩
  go_wp2
  go_ret
  exact⟨rfl,rfl⟩
 ·have H:Hid (decide (y=3600)=false):=decide_eq_false hy
  generalize decide (y=3600)=d at H ⊢
  go_enter Tryz.func86,Tryz.ntmps86
  go_wp2_with fail
  refine (HY _).mono ?_
  rintro e w1 ⟨rfl,rfl⟩
  go_wp2
  go_ret
  exact⟨Qad (by rw [H.out];exact beq_eq_false_iff_ne.mpr hy),rfl⟩
theorem Qm0 (a n:Int) (w:World) (h0:0≤n) (h1:n≤32) (ha0:0≤a) (ha1:a<4294967296) :
  Calls Tryz.prog 90 #[.int .u32 a,.int .u8 n] w fun e w'=>e=.returned (.tuple #[.agg #[.int .u32 (pcut a n),.int .u8 n],.int .i64 0])∧Touch (fun _=>False) w w':=by
 have H:Hid (bits .and .u32 a (pmask n)=pcut a n):=Qk6 ha0 ha1 h0 h1
 go_enter Tryz.func90,Tryz.ntmps90
 go_wp2_with (go_at_call 119;refine (Qef _ _ h0).mono ?_;rintro e w' ⟨rfl,rfl⟩)
 refine bodyPost_ret (v:=.tuple #[.agg #[.int .u32 (bits .and .u32 a (pmask n)),.int .u8 n],.int .i64 0]) (by simp [results,Tryz.results90,go_sem]) rfl ⟨by rw [H.out],?_⟩
 exact (Touch.refl _ _).alloc _
theorem Qoz (m:Int):0≤pbn m∧pbn m≤32:=by
 unfold pbn
 cases h:pfind m with
 | none=>simp
 | some k =>
  have hk:=List.mem_of_find?_eq_some h
  simp at hk
  simp
  omega
end Go.Proofs.YtldmkoogghemhaaGreat
