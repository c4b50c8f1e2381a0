import Derived.Test.YtddbffoiadmffaaGreatInCast
import Derived.Deep.LoopGhost
import Derived.Shelf.SlSortCmp.WholeK
import Derived.Shelf.SlGeneric
import Derived.Ground.SlsfProg
import Derived.Shelf.SlSortCmp.NoneTotal
import Derived.Test.YtddbffoiadmffaaGreatRows
import Derived.RangeFuncNested
import Derived.RangeFuncBound
import Derived.RangeFuncCalls
import Derived.RangeFuncLeaves
import Derived.Shelf.Abstract
import Derived.Shelf.RegionOpen
import Derived.WalkKit
import Derived.OwnWalkIn
import Derived.TacticsInMore
import Derived.LoopNIn
import Derived.LoopIn
namespace Go.Proofs.YtddbffoiadmffaaGreat
set_option maxHeartbeats 8000000
open Go.RowKit
set_option linter.unusedVariables false
set_option maxRecDepth 100000
def plainL (l:List HK):List HK:=l.filter (fun h=>!h.vr)
theorem Qc5 {l:List HK} (h:∀x∈l,x.vr=false):plainL l=l:=List.filter_eq_self.2 (fun x hx=>by simp [h x hx])
theorem Qcb {l:List HK} {k:Nat} {x:HK} (h:l[k]?=some x):plainL (l.take (k+1))=plainL (l.take k)++(if x.vr then [] else [x]):=by
 unfold plainL
 rw [List.take_add_one,h,List.filter_append]
 cases hx:x.vr <;> simp [hx]
theorem Qfn (l:List HK):(plainL l).length≤l.length:=List.length_filter_le _ _
theorem RH.set {B:Nat} {w:World} {g c n:Nat} {l:List HK} (h:RH B w (.slice (some ⟨g,0,none⟩) n c) l) {i:Nat} (hi:i<l.length) (e:HK) :
  RH B (((w.setCell ⟨g,i*3,none⟩ (.int .u32 e.out)).setCell ⟨g,i*3+1,none⟩ (.int .u32 e.via)).setCell ⟨g,i*3+2,none⟩ (.bool e.vr)) (.slice (some ⟨g,0,none⟩) n c) (l.set i e):=by
 obtain⟨x,hx⟩:∃x,l[i]?=some x:=⟨_,List.getElem?_eq_getElem hi⟩
 obtain⟨x0,x1,x2⟩:=x
 obtain⟨e0,e1,e2⟩:=e
 have h0:=RG.set1 HK.len h (d:=0) (y:=⟨e0,x1,x2⟩) (by omega) hx (u:=.int .u32 e0) rfl
 have h1:=RG.set1 HK.len h0 (d:=1) (y:=⟨e0,e1,x2⟩) (by omega) (Qfv hi _) (u:=.int .u32 e1) rfl
 rw [List.set_set] at h1
 have h2:=RG.set1 HK.len h1 (d:=2) (y:=⟨e0,e1,e2⟩) (by omega) (Qfv hi _) (u:=.bool e2) rfl
 rw [List.set_set] at h2
 exact h2
section
variable {α:Type} {cs:α→List Value} {k T B:Nat}
theorem RG.setFar (hk:∀x,(cs x).length=k) {w:World} {l:List α} {g c n:Nat} (h:RG cs k T B w (.slice (some ⟨g,0,none⟩) n c) l) {o:Nat} (ho:l.length*k≤o) (u:Value):RG cs k T B (w.setCell ⟨g,o,none⟩ u) (.slice (some ⟨g,0,none⟩) n c) l:=by
 obtain⟨h1,⟨h2,h3⟩|⟨g',cap,cur,hv,hg,hh,hn,hm,hs,hx⟩⟩:=h
 ·cases h2
 ·have R:Row w g' T cur.toList:=by unfold Row;simpa using hh
  cases hv
  have R1:=R.set o u
  refine⟨h1,Or.inr ⟨g,c,_,rfl,hg,R1,hn,hm,by simpa using hs,?_⟩⟩
  rw [←hx]
  exact List.take_set_of_le ho
theorem RG.setsFar (hk:∀x,(cs x).length=k) {l:List α} {g c n:Nat}:∀(us:List Value) (o:Nat) (w:World),RG cs k T B w (.slice (some ⟨g,0,none⟩) n c) l→l.length*k≤o→RG cs k T B (w.setCells g o us) (.slice (some ⟨g,0,none⟩) n c) l
 | [],_,_,h,_=>h
 | u::us,o,w,h,ho=>RG.setsFar hk us (o+1) _ (h.setFar hk ho u) (by omega)
end
theorem infoHop3:(Tryz.prog.info? 48).map (·.size)=some 3:=by kernel_rfl
theorem one3 (a b:Int) (c:Bool):(#[.int .u32 a,.int .u32 b,.bool c]:Array Value).all (·.oneCell')=true:=by simp [Value.oneCell']
theorem Qfd (w:World) (ty:TypeId) (b o n c:Nat) (hn:0<n) (hc:∀j,j<n*3→(w.cell? ⟨b,o+j,none⟩).isSome=true) (hf:∀j,j<n*3→w.frozen? ⟨b,o+j,none⟩=false) :
  (Builtin.clear_ #[43] ty #[.slice (some ⟨b,o,none⟩) n c]).run Tryz.prog w=.ok (.tuple #[]) (w.setCells b o (Builtin.zeroCells #[.int .u32 0,.int .u32 0,.bool false] n).toList):=by
 have hz:∀w,(zeroValue 48).run Tryz.prog w=.ok (.agg #[.int .u32 0,.int .u32 0,.bool false]) w:=fun w=>by kernel_rfl
 have hsz:(Builtin.zeroCells #[.int .u32 0,.int .u32 0,.bool false] n).toList.length=n*3:=by
  simp [size_zeroCells]
 have h1:∀v∈(Builtin.zeroCells #[.int .u32 0,.int .u32 0,.bool false] n).toList,v.oneCell'=true:=by
  intro v hv
  simp only [Builtin.zeroCells,Array.toList_map,List.mem_map] at hv
  obtain⟨i,-,rfl⟩:=hv
  have hs:(#[.int .u32 0,.int .u32 0,.bool false]:Array Value).size=3:=rfl
  rw [hs]
  rcases (by omega:i%3=0∨i%3=1∨i%3=2) with e|e|e <;> rw [e] <;> rfl
 have hst:=run_storeCells_cells (P:=Tryz.prog) b o (Builtin.zeroCells #[.int .u32 0,.int .u32 0,.bool false] n).toList 0 w (by rw [hsz];simpa using hc) (by rw [hsz];simpa using hf) h1
 simp only [Nat.add_zero] at hst
 obtain⟨m,rfl⟩:∃m,n=m+1:=⟨n-1,by omega⟩
 have hcl:(Value.agg #[.int .u32 0,.int .u32 0,.bool false]).cells=#[.int .u32 0,.int .u32 0,.bool false]:=rfl
 simp [Builtin.clear_,run_underlying Tryz.underlying43,hz,hcl,hst]
theorem Qsp (v:Value) (l:List HK) (w:World) (V:HV3 w v l) (hl:l.length≤1000000):Calls Tryz.prog 81 #[v] w fun e w'=>∃v',e=.returned v'∧HpB w w' v' l:=by
 have HV:Hid (HV3 w v l):=V
 have HL:Hid (l.length≤1000000):=hl
 obtain⟨va,vc,rfl,-⟩:=V.form
 have hq:=fun (w:World) (a:Option Addr) (n c n' c':Nat)=>Lib.run_eql_slice_nil (P:=Tryz.prog) w 43 48 a n c n' c' Tryz.underlying43
 cases va with
 | none =>
  have h0:l=[]:=by
   rcases V.2 with⟨e,h⟩|⟨ad,c,e,-⟩
   ·exact List.eq_nil_of_length_eq_zero h
   ·cases e
  subst h0
  clear V hl
  go_enter Tryz.func81,Tryz.ntmps81
  go_wp2
  go_ret
  exact⟨_,rfl,VBuf.nil _ _ (Touch.refl _ _)⟩
 | some ad =>
  have T1:Touch (fun _=>False) w (w.alloc (.cells #[] 48)):=(Touch.refl _ _).alloc _
  have H0:Hid (HpB w (w.alloc (.cells #[] 48)) (.slice (some ⟨w.heap.size,0,none⟩) 0 0) []):=⟨World.ownsRow_lit w #[] 0 (Nat.le_refl _) (by simp [maxLen]) (by simp),T1⟩
  have HV1:Hid (HV3 (w.alloc (.cells #[] 48)) (.slice (some ad) l.length vc) l):=V.keep T1
  clear V hl T1
  generalize hn:l.length=n at *
  have HN:Hid (l.length=n):=hn
  go_enter Tryz.func81,Tryz.ntmps81
  go_wp2_with (at_builtin;refine Qeh rfl (.tmp 5) (.tmp 6) 43 rfl 48 3 12 _ Tryz.underlying43 infoHop rfl (by omega) (by omega) w _ 0 [] rfl H0.out _ n (cellsG HK.cs l) rfl (by have:=HV1.out;unfold HV3 at this;rw [HN.out] at this;exact this) (oneCellH _) (by have:=HL.out;have:=HN.out;omega) ?_)
  intro v' w' hb'
  have HB':Hid (HpB w w' v' l):=by
   have:=HpB.more (l:=[]) (l':=l) (by rw [HN.out];simp) hb'
   rw [List.nil_append] at this
   exact this
  clear hb' hn
  go_wp2
  go_ret
  exact⟨_,rfl,HB'.out⟩
theorem Qj1 (h:HK) (w:World):Calls Tryz.prog 82 #[.agg #[.int .u32 h.out,.int .u32 h.via,.bool h.vr]] w fun e w'=>e=.returned (.bool h.vr)∧Touch (fun _=>False) w w':=by
 go_enter Tryz.func82,Tryz.ntmps82
 go_wp2
 go_ret
 exact⟨rfl,(Touch.refl _ _).alloc _⟩
structure IdxV (l:List HK) (z:Int):Prop where
 out:(z = -1∧∀x∈l,x.vr=false)∨∃(k:Nat) (x:HK),z=(k:Int)∧l[k]?=some x∧x.vr=true∧∀y∈l.take k,y.vr=false
theorem Qqw (v:Value) (l:List HK) (w:World) (V:HV3 w v l) (hl:l.length≤1000000) :
  Calls Tryz.prog 120 #[v,.func (.func 82) #[] #[]] w fun e w'=>∃z,e=.returned (.int .i64 z)∧IdxV l z∧Touch (fun _=>False) w w':=by
 obtain⟨va,vc,rfl,-⟩:=V.form
 have HV:Hid (∀w',Touch (fun _=>False) w w'→RA w' (.slice va l.length vc) l):=fun w' t=>HV3.ra (ValsAt.keep V t)
 generalize hn:l.length=n at *
 have HN:Hid (l.length=n):=hn
 have hn':(n:Int)≤1000000:=by omega
 clear V hn
 go_enter Tryz.func120,Tryz.ntmps120
 go_wp2
 go_loopg [5,8] n (fun gg _ s8 wr=>∃kk:Nat,kk≤n∧n-kk≤gg∧s8=.int .i64 kk∧Hid (∀y∈l.take kk,y.vr=false)∧Touch (fun _=>False) w wr)
 case atStart=>exact⟨0,Nat.zero_le _,by omega,rfl,fun y hy=>by simp at hy,Touch.refl _ _⟩
 case round =>
  obtain⟨kk,hkk,hg,rfl,HA,t⟩:=hrel
  have HT:Hid (Touch (fun _=>False) w wr):=t
  rcases Nat.lt_or_ge kk n with h|h
  ·have hlt:(kk:Int)<(n:Int):=by omega
   have hkw:wrap64 ((kk:Int)+1)=(kk:Int)+1:=by unfold wrap64;omega
   obtain⟨x,hx⟩:∃x,l[kk]?=some x:=⟨l[kk]'(by have:=HN.out;omega),by simp⟩
   obtain⟨a',c',ea,hsh⟩:=(HV.out wr t).out
   simp only [Value.slice.injEq] at ea
   obtain⟨rfl,-,rfl⟩:=ea
   rcases hsh with e|⟨g,o,rfl,hc⟩
   ·rw [e] at hx;cases hx
   have q0:wr.cell? ⟨g,o+kk*3,none⟩=some (.int .u32 x.out):=hc kk x hx 0 _ rfl
   have q1:wr.cell? ⟨g,o+kk*3+1,none⟩=some (.int .u32 x.via):=hc kk x hx 1 _ rfl
   have q2:wr.cell? ⟨g,o+kk*3+2,none⟩=some (.bool x.vr):=hc kk x hx 2 _ rfl
   have HF:=Qj1 x wr
   have HX:Hid (l[kk]?=some x):=hx
   clear t hx hc HV
   cases hb:x.vr with
   | false =>
    rw [hb] at HF q2
    have HN2:Hid (∀y∈l.take (kk+1),y.vr=false):=fun y hy=>by
     rw [List.take_add_one,HX.out] at hy
     rcases List.mem_append.1 hy with hy|hy
     ·exact HA.out y hy
     ·obtain rfl:y=x:=by simpa using hy
      exact hb
    clear hb HA HX
    go_wp2_with fail
    refine HF.mono ?_
    rintro e w1 ⟨rfl,t1⟩
    have T1:Hid _:=t1
    clear t1 HF q0 q1 q2
    go_wp2
    go_roundg (n-(kk+1))
    case measure=>omega
    case rel=>exact⟨kk+1,by omega,by omega,by go_num,HN2,HT.out.trans T1.out⟩
   | true =>
    rw [hb] at HF q2
    have HZ:Hid (IdxV l kk):=⟨Or.inr ⟨kk,x,rfl,HX.out,hb,HA.out⟩⟩
    clear hb HA HX
    go_wp2_with fail
    refine HF.mono ?_
    rintro e w1 ⟨rfl,t1⟩
    have T1:Hid _:=t1
    clear t1 HF q0 q1 q2
    go_wp2
    go_ret
    exact⟨_,rfl,HZ.out,HT.out.trans T1.out⟩
  ·have hlt:¬(kk:Int)<(n:Int):=by omega
   have HZ:Hid (IdxV l (-1)):=⟨Or.inl ⟨rfl,fun x hx=>HA.out x (by rw [List.take_of_length_le (by have:=HN.out;omega)];exact hx)⟩⟩
   clear t HA HV
   go_wp2
   go_ret
   exact⟨_,rfl,HZ.out,HT.out⟩
structure DelR (w:World) (B g c n:Nat) (l:List HK) (i j:Nat) (wr:World):Prop where
 row:∃L,RH B wr (.slice (some ⟨g,0,none⟩) n c) L∧L.length=n∧L.take i=plainL (l.take j)∧L.drop j=l.drop j
 ij:i<j
 ip:i=(plainL (l.take j)).length
 jn:j≤n
 t:Touch (fun k=>k=g) w wr
theorem DelR.keep {w wr w':World} {B g c n i j:Nat} {l:List HK} (h:DelR w B g c n l i j wr) (t:Touch (fun _=>False) wr w'):DelR w B g c n l i j w':=by
 obtain⟨⟨L,h1,h2⟩,h3,h4,h5,h6⟩:=h
 exact⟨⟨L,RG.keepN h1 t,h2⟩,h3,h4,h5,h6.trans (t.mono (fun _ _ h=>h.elim))⟩
theorem DelR.skip {w wr w':World} {B g c n i j:Nat} {l:List HK} (h:DelR w B g c n l i j wr) {x:HK} (hx:l[j]?=some x) (hb:x.vr=true) (hj:j<n) (t:Touch (fun _=>False) wr w'):DelR w B g c n l i (j+1) w':=by
 obtain⟨⟨L,r,hLn,hLi,hLj⟩,hij,hip,hjn,tw⟩:=h
 have hps':plainL (l.take (j+1))=plainL (l.take j):=by rw [Qcb hx,hb];simp
 refine⟨⟨L,RG.keepN r t,hLn,by rw [hps',hLi],?_⟩,by omega,by rw [hps',hip],by omega,tw.trans (t.mono (fun _ _ h=>h.elim))⟩
 rw [←List.drop_drop,←List.drop_drop,hLj]
theorem DelR.put {w wr w':World} {B g c n i j:Nat} {l:List HK} (h:DelR w B g c n l i j wr) {x:HK} (hx:l[j]?=some x) (hb:x.vr=false) (hj:j<n) (t:Touch (fun _=>False) wr w') :
  DelR w B g c n l (i+1) (j+1) (((w'.setCell ⟨g,i*3,none⟩ (.int .u32 x.out)).setCell ⟨g,i*3+1,none⟩ (.int .u32 x.via)).setCell ⟨g,i*3+2,none⟩ (.bool x.vr)):=by
 obtain⟨⟨L,r,hLn,hLi,hLj⟩,hij,hip,hjn,tw⟩:=h
 have hps':plainL (l.take (j+1))=plainL (l.take j)++[x]:=by rw [Qcb hx,hb];simp
 refine⟨⟨L.set i x,RH.set (RG.keepN r t) (by omega) x,by rw [List.length_set,hLn],?_,?_⟩,by omega,by rw [hps',List.length_append,←hip];rfl,by omega,?_⟩
 ·rw [hps',List.take_add_one,List.take_set_of_le (Nat.le_refl i),hLi]
  have:i<L.length:=by omega
  simp [this]
 ·rw [List.drop_set_of_lt (by omega),←List.drop_drop,←List.drop_drop,hLj]
 ·exact Touch.setCell (p:=⟨g,i*3+2,none⟩) (Touch.setCell (p:=⟨g,i*3+1,none⟩) (Touch.setCell (p:=⟨g,i*3,none⟩) (tw.trans (t.mono (fun _ _ h=>h.elim))) (Or.inl rfl) _) (Or.inl rfl) _) (Or.inl rfl) _
structure DelC (w:World) (g i j:Nat) (x:HK):Prop where
 x0:w.cell? ⟨g,j*3,none⟩=some (.int .u32 x.out)
 x1:w.cell? ⟨g,j*3+1,none⟩=some (.int .u32 x.via)
 x2:w.cell? ⟨g,j*3+2,none⟩=some (.bool x.vr)
 y:∃y:HK,w.cell? ⟨g,i*3,none⟩=some (.int .u32 y.out)∧w.cell? ⟨g,i*3+1,none⟩=some (.int .u32 y.via)∧w.cell? ⟨g,i*3+2,none⟩=some (.bool y.vr)
 fz:∀j,w.frozen? ⟨g,j,none⟩=false
 lt:g<w.heap.size
theorem DelR.cells {w wr:World} {B g c n i j:Nat} {l:List HK} (h:DelR w B g c n l i j wr) {x:HK} (hx:l[j]?=some x) (hj:j<n):DelC wr g i j x:=by
 obtain⟨⟨L,r,hLn,hLi,hLj⟩,hij,hip,hjn,tw⟩:=h
 have hxL:L[j]?=some x:=by
  have e1:=congrArg (·[0]?) hLj
  simp only [List.getElem?_drop,Nat.add_zero] at e1
  rw [e1,hx]
 obtain⟨y,hy⟩:∃y,L[i]?=some y:=⟨L[i]'(by omega),by simp⟩
 exact⟨RG.cell (i:=j) (d:=0) HK.len r hxL rfl,RG.cell (i:=j) (d:=1) HK.len r hxL rfl,RG.cell (i:=j) (d:=2) HK.len r hxL rfl,⟨y,RG.cell (i:=i) (d:=0) HK.len r hy rfl,RG.cell (i:=i) (d:=1) HK.len r hy rfl,RG.cell (i:=i) (d:=2) HK.len r hy rfl⟩,RG.fz r,RG.lt r rfl⟩
theorem DelC.there {w:World} {g i j:Nat} {x:HK} (h:DelC w g i j x):w.there g (i*3) 3:=fun q hq=>by
 obtain⟨y,y0,y1,y2⟩:=h.y
 rcases (by omega:q=0∨q=1∨q=2) with rfl|rfl|rfl
 ·exact⟨by rw [Nat.add_zero,y0];rfl,h.fz _⟩
 ·exact⟨by rw [y1];rfl,h.fz _⟩
 ·exact⟨by rw [y2];rfl,h.fz _⟩
theorem DelR.start {w:World} {B g c n k:Nat} {l:List HK} {x:HK} (h:RH B w (.slice (some ⟨g,0,none⟩) n c) l) (hn:l.length=n) (hx:l[k]?=some x) (hv:x.vr=true) (ha:∀y∈l.take k,y.vr=false):DelR w B g c n l k (k+1) w:=by
 have hk:k<n:=Qrv hn hx
 have hp0:plainL (l.take k)=l.take k:=Qc5 ha
 refine⟨⟨l,h,hn,?_,rfl⟩,Nat.lt_succ_self _,?_,by omega,Touch.refl _ _⟩
 ·rw [Qcb hx,hv,hp0]
  simp
 ·rw [Qcb hx,hv,hp0]
  simp
  omega
theorem DelR.done {w wr:World} {B g c n i:Nat} {l:List HK} (h:DelR w B g c n l i n wr) (hn:l.length=n) :
  (∀ty,(Builtin.clear_ #[43] ty #[.slice (some ⟨g,i*3,none⟩) (n-i) (c-i)]).run Tryz.prog wr=.ok (.tuple #[]) (wr.setCells g (i*3) (Builtin.zeroCells #[.int .u32 0,.int .u32 0,.bool false] (n-i)).toList)) ∧
  RH B (wr.setCells g (i*3) (Builtin.zeroCells #[.int .u32 0,.int .u32 0,.bool false] (n-i)).toList) (.slice (some ⟨g,0,none⟩) i c) (plainL l)∧Touch (fun k=>k=g) w (wr.setCells g (i*3) (Builtin.zeroCells #[.int .u32 0,.int .u32 0,.bool false] (n-i)).toList)∧n≤c:=by
 obtain⟨⟨L,r,hLn,hLi,-⟩,hij,hip,-,tw⟩:=h
 have htk:l.take n=l:=List.take_of_length_le (by omega)
 rw [htk] at hLi hip
 have hlv:n≤c:=by
  obtain⟨_,_,e,h,-⟩:=RG.form r (by omega)
  simp only [Value.slice.injEq] at e
  omega
 refine⟨fun ty=>Qfd wr ty g (i*3) (n-i) (c-i) (by omega) (fun q hq=>?_) (fun q hq=>RG.fz r _),?_,tw.trans (Qb0 _ _ _ (Touch.refl _ _)),hlv⟩
 ·have h3:(i*3+q)/3<L.length:=by omega
  have hh:=RG.cell (i:=(i*3+q)/3) (d:=(i*3+q)%3) (w:=wr) (x:=L[(i*3+q)/3]) (u:=(HK.cs L[(i*3+q)/3])[(i*3+q)%3]'(by rw [HK.len];omega)) HK.len r (by simp) (by simp)
  have e:(i*3+q)/3*3+(i*3+q)%3=i*3+q:=by omega
  rw [e] at hh
  rw [hh]
  rfl
 ·have h1:=RG.cut HK.len r (m:=i) (by omega)
  rw [hLi] at h1
  exact RG.setsFar HK.len _ _ _ h1 (by rw [←hip];exact Nat.le_refl _)
theorem Qox (B:Nat) (v:Value) (l:List HK) (w:World) (V:RH B w v l) (hl:l.length≤1000000) :
  Calls Tryz.prog 80 #[v,.func (.func 82) #[] #[]] w fun e w'=>∃v',e=.returned v'∧RH B w' v' (plainL l)∧v'.ownBlock=v.ownBlock∧Touch (fun k=>v.ownBlock=some k) w w':=by
 have HI:=Qqw v l w (Qa5 V) hl
 have HV:Hid (RH B w v l):=V
 have HL:Hid (l.length≤1000000):=hl
 obtain⟨va,vc,rfl⟩:=RG.shape V
 clear V hl
 generalize hn:l.length=n at *
 have HN:Hid (l.length=n):=hn
 have hn':(n:Int)≤1000000:=by have:=HL.out;omega
 clear hn
 go_enter Tryz.func80,Tryz.ntmps80
 go_wp2_with fail
 refine HI.mono ?_
 rintro e w1 ⟨z,rfl,hz,t1⟩
 have HT1:Hid (Touch (fun _=>False) w w1):=t1
 have HV1:Hid (RH B w1 (.slice va n vc) l):=RG.keepN HV.out t1
 clear HI t1 HV
 rcases hz.out with⟨rfl,h0⟩|⟨k0,x0,rfl,hx0,hxv,ha⟩
 ·as_aux_lemma =>
  have HP:Hid (plainL l=l):=Qc5 h0
  clear hz h0
  go_wp2
  go_ret
  refine⟨_,rfl,by rw [HP.out];exact HV1.out,rfl,HT1.out.mono (fun _ _ h=>h.elim)⟩
 ·as_aux_lemma =>
  have hk0:k0<n:=Qrv HN.out hx0
  obtain⟨g,c,ev,-,lg,hBg⟩:=RG.form HV1.out (Qsv HN.out hk0)
  rw [HN.out] at ev
  simp only [Value.slice.injEq,true_and] at ev
  obtain⟨rfl,rfl⟩:=ev
  have HR0:Hid (DelR w1 B g vc n l k0 (k0+1) w1):=DelR.start HV1.out HN.out hx0 hxv ha
  have hk1:((k0:Int) == -1)=false:=Qwc _
  have hkw0:wrap64 ((k0:Int)+1)=(k0:Int)+1:=by unfold wrap64;omega
  clear hz hx0 hxv ha
  go_wp2_with fail
  go_loopg [5,6,7] n (fun gg s5 s6 _ wr=>∃i j:Nat,n-j≤gg∧s5=.int .i64 i∧s6=.int .i64 j∧DelR w1 B g vc n l i j wr)
  case atStart=>exact⟨k0,k0+1,Nat.sub_le _ _,rfl,by first|exact Qay hkw0|exact Qay rfl,HR0.out⟩
  case round =>
   obtain⟨i,j,hg,rfl,rfl,hd⟩:=hrel
   have HD:Hid (DelR w1 B g vc n l i j wr):=hd
   have hij:=hd.ij
   have hjn:=hd.jn
   clear HR0 hk1 hkw0 hd
   by_cases h:j<n
   ·have hlt:(j:Int)<(n:Int):=Qbr h
    have hj0:(0:Int)≤(j:Int):=Qbq _
    have hi0:(0:Int)≤(i:Int):=Qbq _
    have hil:(i:Int)<(n:Int):=Qbr (Nat.lt_trans hij h)
    have hnM:n≤1000000000000:=Nat.le_trans HL.out (by decide)
    have hjw:wrap64 ((j:Int)+1)=(j:Int)+1:=Qhq (Nat.le_trans hjn hnM)
    have hiw:wrap64 ((i:Int)+1)=(i:Int)+1:=Qhq (Nat.le_trans (Nat.le_of_lt (Nat.lt_of_lt_of_le hij hjn)) hnM)
    obtain⟨x,hx⟩:=Qdq HN.out h
    have HX:Hid (l[j]?=some x):=hx
    obtain⟨q0,q1,q2,-,-,lgw⟩:=HD.out.cells hx h
    obtain⟨wa,hwa⟩:∃u,u=wr.alloc (.cells #[.int .u32 x.out,.int .u32 x.via,.bool x.vr] 48):=⟨_,rfl⟩
    have ta:Touch (fun _=>False) wr wa:=by rw [hwa];exact (Touch.refl _ _).alloc _
    have RX:Row wa wr.heap.size 48 [.int .u32 x.out,.int .u32 x.via,.bool x.vr]:=by rw [hwa];exact Qac _ _ _
    have u0:wa.cell? ⟨wr.heap.size,0,none⟩=some (.int .u32 x.out):=RX.cell 0
    have u1:wa.cell? ⟨wr.heap.size,1,none⟩=some (.int .u32 x.via):=RX.cell 1
    have u2:wa.cell? ⟨wr.heap.size,2,none⟩=some (.bool x.vr):=RX.cell 2
    have HF:=Qj1 x wa
    have HRX:Hid (Row wa wr.heap.size 48 [.int .u32 x.out,.int .u32 x.via,.bool x.vr]):=RX
    have HTA:Hid (Touch (fun _=>False) wr wa):=ta
    clear hx RX ta
    go_upto_region 8 with fail
    rw [←hwa]
    clear hwa q0 q1 q2
    go_wp2_with fail
    refine HF.mono ?_
    rintro e w2 ⟨rfl,t2⟩
    have HT2:Hid (Touch (fun _=>False) wr w2):=HTA.out.trans t2
    have R2:=HRX.out.keep t2
    have v0:w2.cell? ⟨wr.heap.size,0,none⟩=some (.int .u32 x.out):=R2.cell 0
    have v1:w2.cell? ⟨wr.heap.size,1,none⟩=some (.int .u32 x.via):=R2.cell 1
    have v2:w2.cell? ⟨wr.heap.size,2,none⟩=some (.bool x.vr):=R2.cell 2
    have lv:=R2.lt
    clear HF u0 u1 u2 R2 t2 HRX HTA lgw
    by_cases hb:x.vr=true
    ·as_aux_lemma =>
     have HD2:Hid (DelR w1 B g vc n l i (j+1) w2):=HD.out.skip HX.out hb h HT2.out
     rw [hb] at v2 ⊢
     clear hb v0 v1 v2 lv
     go_wp2_with fail
     go_roundg (n-(j+1))
     case measure=>exact Qcl h hg
     case rel=>exact⟨i,j+1,Nat.le_refl _,rfl,by first|exact Qay hjw|exact Qay rfl,HD2.out⟩
    ·as_aux_lemma =>
     have hb':x.vr=false:=by simpa using hb
     have HD2:Hid (DelR w1 B g vc n l (i+1) (j+1) (w2.setCells g (i*3) (#[.int .u32 x.out,.int .u32 x.via,.bool x.vr]:Array Value).toList)):=HD.out.put HX.out hb' h HT2.out
     have HTH:Hid (w2.there g (i*3) 3):=((HD.out.keep HT2.out).cells HX.out h).there
     rw [hb'] at v2 HD2 ⊢
     have HH:Hid (j<n∧n-j≤gk):=⟨h,hg⟩
     clear hb hb' hnM hij hjn h hg hn' hk0 HD
     go_wp2_with (refine wpList_store_mid rfl 48 (.tmp 33) (.tmp 32) rfl g (i*3) #[.int .u32 x.out,.int .u32 x.via,.bool false] rfl rfl HTH.out infoHop3 (one3 _ _ _) ?_;generalize w2.setCells g (i*3) _=w5 at HD2 ⊢;clear v0 v1 v2 lv HTH)
     go_roundg (n-(j+1))
     case measure=>exact Qcl HH.out.1 HH.out.2
     case rel=>exact⟨i+1,j+1,Nat.le_refl _,by first|exact Qay hiw|exact Qay rfl,by first|exact Qay hjw|exact Qay rfl,HD2.out⟩
   ·as_aux_lemma =>
    have hlt:¬(j:Int)<(n:Int):=Qch h
    obtain rfl:j=n:=Nat.le_antisymm hjn (Nat.le_of_not_lt h)
    have hi0:(0:Int)≤(i:Int):=Qbq _
    have hil:(i:Int)≤(j:Int):=Int.le_of_lt (Qbr hij)
    have hiln:i≤j:=Nat.le_of_lt hij
    obtain⟨hrun,d1,d2,hjc⟩:=HD.out.done HN.out
    have hic:i≤vc:=Nat.le_trans hiln hjc
    have hicI:(i:Int)≤(vc:Int):=Int.ofNat_le.2 hic
    have HF:Hid (RH B (wr.setCells g (i*3) (Builtin.zeroCells #[.int .u32 0,.int .u32 0,.bool false] (j-i)).toList) (.slice (some ⟨g,0,none⟩) i vc) (plainL l)∧Touch (fun k=>(Value.slice (some ⟨g,0,none⟩) j vc).ownBlock=some k) w (wr.setCells g (i*3) (Builtin.zeroCells #[.int .u32 0,.int .u32 0,.bool false] (j-i)).toList)) :=
     ⟨d1,(HT1.out.mono (fun _ _ h=>h.elim)).trans (d2.mono (fun k _ e=>by subst e;rfl))⟩
    clear d1 d2 HD HV1 h
    generalize wr.setCells g (i*3) (Builtin.zeroCells #[.int .u32 0,.int .u32 0,.bool false] (j-i)).toList=wf at *
    go_wp2_with fail
    go_ret
    exact⟨_,rfl,HF.out.1,rfl,HF.out.2⟩
theorem Qgy (v:Value) (l:List HK) (w:World) (V:HV3 w v l) (hl:l.length≤1000000):Calls Tryz.prog 40 #[v] w fun e w'=>∃v',e=.returned v'∧HpB w w' v' (plainL l):=by
 have HC:=Qsp v l w V hl
 obtain⟨va,vc,rfl,-⟩:=V.form
 have HDD:Hid (∀v1 w1,RH w.heap.size w1 v1 l→Calls Tryz.prog 80 #[v1,.func (.func 82) #[] #[]] w1 fun e w'=>∃v',e=.returned v'∧RH w.heap.size w' v' (plainL l)∧v'.ownBlock=v1.ownBlock∧Touch (fun k=>v1.ownBlock=some k) w1 w'):=fun v1 w1 h=>Qox w.heap.size v1 l w1 h hl
 clear V hl
 go_enter Tryz.func40,Tryz.ntmps40
 go_wp2_with fail
 refine HC.mono ?_
 rintro e w1 ⟨v1,rfl,b1⟩
 have HD:=HDD.out v1 w1 b1.own
 obtain⟨xa,xc,rfl⟩:=b1.form
 have HB1:Hid (HpB w w1 (.slice xa l.length xc) l):=b1
 clear b1 HC
 go_wp2_with fail
 refine HD.mono ?_
 rintro e w2 ⟨v2,rfl,r2,-,t2⟩
 have HF:Hid (HpB w w2 v2 (plainL l)):=⟨r2,HB1.out.t.trans' t2 (fun k hk e=>by have:=(HB1.out.own.lt k e).1;omega)⟩
 obtain⟨ya,yc,rfl⟩:=RG.shape r2
 clear HD r2 t2
 generalize (plainL l).length=q at *
 go_wp2_with fail
 go_ret
 exact⟨_,rfl,HF.out⟩
open Go.Shelf
def sortPd_ren:Go.Shelf.Ren:=⟨fun|6=>113|15=>87|14=>157|28=>129|29=>130|20=>185|21=>186|22=>187|23=>188|24=>189|25=>190|26=>191|27=>192|46=>225|47=>162|48=>163|49=>226|50=>227|57=>247|n=>n,fun|22=>158|24=>42|25=>165|3=>3|39=>188|0=>0|53=>23|55=>46|4=>4|46=>228|45=>227|50=>97|5=>5|9=>9|66=>270|70=>274|76=>309|77=>277|n=>n,fun|n=>n⟩
theorem sortPd:Go.Proofs.SlLaysF0.n6 Tryz.prog sortPd_ren:={
 mixed:=by kernel_rfl
 f6:=⟨Tryz.f113.name,by decide,Tryz.func113.trans (congrArg some (by kernel_rfl))⟩
 f14:=⟨Tryz.f157.name,by decide,Tryz.func157.trans (congrArg some (by kernel_rfl))⟩
 f15:=Tryz.func87.trans (congrArg some (by kernel_rfl))
 f20:=⟨Tryz.f185.name,by decide,Tryz.func185.trans (congrArg some (by kernel_rfl))⟩
 f21:=⟨Tryz.f186.name,by decide,Tryz.func186.trans (congrArg some (by kernel_rfl))⟩
 f22:=⟨Tryz.f187.name,by decide,Tryz.func187.trans (congrArg some (by kernel_rfl))⟩
 f23:=⟨Tryz.f188.name,by decide,Tryz.func188.trans (congrArg some (by kernel_rfl))⟩
 f24:=⟨Tryz.f189.name,by decide,Tryz.func189.trans (congrArg some (by kernel_rfl))⟩
 f25:=⟨Tryz.f190.name,by decide,Tryz.func190.trans (congrArg some (by kernel_rfl))⟩
 f26:=⟨Tryz.f191.name,by decide,Tryz.func191.trans (congrArg some (by kernel_rfl))⟩
 f27:=⟨Tryz.f192.name,by decide,Tryz.func192.trans (congrArg some (by kernel_rfl))⟩
 f28:=Tryz.func129.trans (congrArg some (by kernel_rfl))
 f29:=Tryz.func130.trans (congrArg some (by kernel_rfl))
 f46:=⟨Tryz.f225.name,by decide,Tryz.func225.trans (congrArg some (by kernel_rfl))⟩
 f47:=Tryz.func162.trans (congrArg some (by kernel_rfl))
 f48:=Tryz.func163.trans (congrArg some (by kernel_rfl))
 f49:=⟨Tryz.f226.name,by decide,Tryz.func226.trans (congrArg some (by kernel_rfl))⟩
 f50:=⟨Tryz.f227.name,by decide,Tryz.func227.trans (congrArg some (by kernel_rfl))⟩
 f57:=⟨Tryz.f247.name,by decide,Tryz.func247.trans (congrArg some (by kernel_rfl))⟩
 t0:=Tryz.underlying0
 a0:=Tryz.isAgg0
 z0:=Tryz.sizeOf0
 v0:=Tryz.zeroValue0
 t3:=Tryz.underlying3
 a3:=Tryz.isAgg3
 z3:=Tryz.sizeOf3
 v3:=Tryz.zeroValue3
 t4:=Tryz.underlying4
 a4:=Tryz.isAgg4
 z4:=Tryz.sizeOf4
 v4:=Tryz.zeroValue4
 t5:=Tryz.underlying5
 a5:=Tryz.isAgg5
 z5:=Tryz.sizeOf5
 v5:=Tryz.zeroValue5
 t9:=Tryz.underlying9
 a9:=Tryz.isAgg9
 z9:=Tryz.sizeOf9
 v9:=Tryz.zeroValue9
 t22:=Tryz.underlying158
 a22:=Tryz.isAgg158
 z22:=Tryz.sizeOf158
 v22:=Tryz.zeroValue158
 t25:=Tryz.underlying165
 a25:=Tryz.isAgg165
 z25:=Tryz.sizeOf165
 v25:=Tryz.zeroValue165
 t39:=Tryz.underlying188
 a39:=Tryz.isAgg188
 z39:=Tryz.sizeOf188
 v39:=Tryz.zeroValue188
 t45:=Tryz.underlying227
 a45:=Tryz.isAgg227
 z45:=Tryz.sizeOf227
 v45:=Tryz.zeroValue227
 t46:=Tryz.underlying228
 a46:=Tryz.isAgg228
 z46:=Tryz.sizeOf228
 v46:=Tryz.zeroValue228
 t50:=Tryz.underlying97
 a50:=Tryz.isAgg97
 z50:=Tryz.sizeOf97
 v50:=Tryz.zeroValue97
 t53:=Tryz.underlying23
 a53:=Tryz.isAgg23
 z53:=Tryz.sizeOf23
 v53:=Tryz.zeroValue23
 t55:=Tryz.underlying46
 a55:=Tryz.isAgg46
 z55:=Tryz.sizeOf46
 v55:=Tryz.zeroValue46
 t66:=Tryz.underlying270
 a66:=Tryz.isAgg270
 z66:=Tryz.sizeOf270
 v66:=Tryz.zeroValue270
 t70:=Tryz.underlying274
 a70:=Tryz.isAgg274
 z70:=Tryz.sizeOf274
 v70:=Tryz.zeroValue274
 t76:=Tryz.underlying309
 a76:=Tryz.isAgg309
 z76:=Tryz.sizeOf309
 v76:=Tryz.zeroValue309
 t77:=Tryz.underlying277
 a77:=Tryz.isAgg277
 z77:=Tryz.sizeOf277
 v77:=Tryz.zeroValue277 }
open Go.RowKit Go.Shelf
open Go.ChangeMaps (setBlock)
open Go.MapKept
attribute [local go_sem] Oper.semAt_some
theorem Qkv {w w':World} (t:Touch (fun _=>False) w w'):w.grownBy w' none:=⟨t.os,t.tape,t.output,t.size,fun k hk _=>t.block k hk (fun h=>h)⟩
theorem Qmn {w w':World} {r:Nat} (t:Touch (fun k=>k=r) w w'):w.grownBy w' (some r):=⟨t.os,t.tape,t.output,t.size,fun k hk hn=>t.block k hk (fun h=>hn (by rw [h]))⟩
def lfE (es:Array MapEntry) (seen:Array Nat):List MapEntry:=(leftOf es seen).toList
theorem Qg1 (es:Array MapEntry) (seen:Array Nat):lfE es seen=es.toList.filter (fun p=>!seen.contains p.born):=by
 unfold lfE leftOf
 rw [Array.toList_filter]
theorem Qg2 {α:Type} (g:α→Nat):∀{X:List α},(X.map g).Nodup→∀{a:α},a∈X→X.Perm (a::X.filter (fun p=>!(g p==g a)))
 | [],_,a,h=>by simp at h
 | x::X,nd,a,h=>by
  rw [List.map_cons,List.nodup_cons] at nd
  rcases List.mem_cons.1 h with rfl|h
  ·rw [List.filter_cons_of_neg (by simp)]
   have e:X.filter (fun p=>!(g p==g a))=X:=List.filter_eq_self.2 (fun p hp=>by
    simp only [Bool.not_eq_true',beq_eq_false_iff_ne]
    intro e
    exact nd.1 (e ▸ List.mem_map.2 ⟨p,hp,rfl⟩))
   rw [e]
  ·have hne:¬g x=g a:=fun e=>nd.1 (e ▸ List.mem_map.2 ⟨a,h,rfl⟩)
   rw [List.filter_cons_of_pos (by simpa using hne)]
   exact ((Qg2 g nd.2 h).cons x).trans (List.Perm.swap a x _)
theorem Qph (s:Array Nat) (b c:Nat):(s.push b).contains c=(s.contains c || c==b):=by
 rw [Bool.eq_iff_iff]
 simp
theorem Qrg {es:Array MapEntry} {seen:Array Nat} (nd:(es.toList.map (·.born)).Nodup) {p:MapEntry} (hp:p∈lfE es seen):(lfE es seen).Perm (p::lfE es (seen.push p.born)):=by
 have e:lfE es (seen.push p.born)=(lfE es seen).filter (fun q=>!(q.born==p.born)):=by
  rw [Qg1,Qg1,List.filter_filter]
  apply List.filter_congr
  intro q _
  rw [Qph]
  cases seen.contains q.born <;> cases h:(q.born==p.born) <;> simp
 rw [e]
 rw [Qg1] at hp ⊢
 exact Qg2 (fun q=>q.born) ((List.Sublist.map _ List.filter_sublist).nodup nd) hp
theorem Qt8 (es:Array MapEntry):lfE es #[]=es.toList:=by
 rw [Qg1]
 exact List.filter_eq_self.2 (fun p _=>by simp)
structure KpM (m:Nat) (A B:World):Prop where
 m:∀o,A.heap[m]?=some o→B.heap[m]?=some o
 it:∀(k:Nat) (o:Obj),A.heap[k]?=some o→o.isWalk=true→B.heap[k]?=some o
theorem KpM.trans {m:Nat} {A B C:World} (h:KpM m A B) (k:KpM m B C):KpM m A C:=⟨fun o ho=>k.m o (h.m o ho),fun i o ho hw=>k.it i o (h.it i o ho hw) hw⟩
theorem KpM.put {m n:Nat} (hm:m<n) (W:World) (l:Nat) (o o':Obj) (hl:n≤l) (h:W.heap[l]?=some o) (hc:o.isCells=false) (hw:o.isWalk=false):KpM m W (W.putObj l o'):=by
 refine⟨fun q hq=>?_,fun k q hq hk=>?_⟩
 ·exact (World.putObj_heap_other (by omega)).trans hq
 ·refine (World.putObj_heap_other (fun e=>?_)).trans hq
  subst e
  rw [h] at hq
  cases hq
  rw [hw] at hk
  cases hk
theorem KpM.touch {m:Nat} {F:Nat→Prop} {A B:World} (t:Touch F A B) (hm:¬F m) (hF:∀(k:Nat) (o:Obj),F k→A.heap[k]?=some o→o.isWalk=true→False):KpM m A B :=
 ⟨fun o ho=>(t.block m (Qaq ho) hm).trans ho,fun k o ho hw=>(t.block k (Qaq ho) (fun h=>hF k o h ho hw)).trans ho⟩
def itLeft (es:Array MapEntry) (w:World) (r:Nat):Nat :=
 match w.heap[r]? with
 | some (.mapIter _ _ seen _)=>(lfE es seen).length
 | _=>0
theorem Qht {es:Array MapEntry} {w:World} {r:Nat} {b:Option Nat} {s c:Nat} {seen:Array Nat} (h:w.heap[r]?=some (.mapIter b s seen c)):itLeft es w r=(lfE es seen).length:=by
 unfold itLeft
 rw [h]
abbrev encQ (p:PX):Array Value:=#[p.v]
def keyP (e:MapEntry):PX :=
 match e.key with
 | .agg #[.int _ a,.int _ b]=>⟨a,b⟩
 | _=>⟨0,0⟩
theorem Qkh (n:Nat) (hn:1≤n) (b m:Nat) (es:Array MapEntry) (c:Nat) (w:World) (hb:w.cell? ⟨b,0,none⟩=some (.map (some m))) (hm:w.heap[m]?=some (.map es c)) (nd:(es.toList.map (·.born)).Nodup) (hc:∀e∈es.toList,e.born<c) (hk:∀e∈es.toList,e.key=(keyP e).v) :
  SeqStopsK Fence.wide n Tryz.prog 114 #[.pointer (some ⟨b,0,none⟩)] encQ (KpM m) (fun xs=>xs.Perm (es.toList.map keyP)) (fun _=>True) es.size w:=fun l J Jx W hW hJ hJx hY hz=>by
 have HE:Hid ((es.toList.map (·.born)).Nodup∧(∀e∈es.toList,e.born<c)∧∀e∈es.toList,e.key=(keyP e).v):=⟨nd,hc,hk⟩
 have HY:Hid (∀(pre:List PX) (x:PX) (W1:World),J pre W1→pre.length<es.size→YieldAt Fence.wide (n-1) Tryz.prog l (encQ x) W1 fun e W'=>(e=.returned (.bool true)∧J (pre++[x]) W'∧KpM m W1 W')∨(e=.returned (.bool false)∧Jx (pre++[x]) W')):=hY
 have HJ:Hid (AbidesFrom W.heap.size J):=hJ
 have hmW:W.heap[m]?=some (.map es c):=(hW.block m (Qaq hm)).trans hm
 have d0:W.cell? ⟨b,0,none⟩=some (.map (some m)):=(hW.cell (p:=⟨b,0,none⟩) (Qaa hb)).trans hb
 have hrg:=run_range_map (P:=Tryz.prog) W 64 _ _ m es c Tryz.underlying64 hmW
 have HJ0:Hid (J [] (W.alloc (.mapIter (some m) c #[] c))):=HJ.out _ _ _ none hz (World.grownBy_alloc _ _ _) (fun r e=>by cases e)
 have HIT:Hid ((W.alloc (.mapIter (some m) c #[] c)).heap[W.heap.size]?=some (.mapIter (some m) c #[] c)):=by show (W.heap.push _)[W.heap.size]?=_;simp
 have HMA:Hid ((W.alloc (.mapIter (some m) c #[] c)).heap[m]?=some (.map es c)):=(Touch.alloc (F:=fun _=>False) (Touch.refl _ W) _).heapN hmW
 have HR:Hid (m≠W.heap.size):=by have:=Qaq hmW;show _≠_;omega
 clear hY hJ hJx hb hm nd hc hk hz hW hmW
 refine callsIn_of_wp Tryz.func114 rfl trivial ?_ rfl
 simp only [Tryz.ntmps114,List.size_toArray,List.length_cons,List.length_nil,Nat.reduceAdd,Nat.reduceSub,Array.replicate_succ,Array.replicate_zero,List.push_toArray,List.append_toArray,List.nil_append,List.cons_append]
 gi_wp2
 clear d0 hrg
 generalize W.alloc (.mapIter (some m) c #[] c)=W0 at *
 generalize hr:W.heap.size=r at *
 clear hr
 gi_loopw [3] (fun _ wr=>∃(seen:Array Nat) (pre:List PX) (c0:Nat),wr.heap[r]?=some (.mapIter (some m) c seen c0)∧c≤c0∧wr.heap[m]?=some (.map es c)∧(pre++(lfE es seen).map keyP).Perm (es.toList.map keyP)∧J pre wr)
  (fun _ wr=>itLeft es wr r)
 case atStart=>exact⟨#[],[],c,HIT.out,Nat.le_refl _,HMA.out,by rw [Qt8,List.nil_append],HJ0.out⟩
 case round =>
  clear HIT HMA HJ0
  obtain⟨seen,pre,c0,hir,hc0,hmw,hp,hJs⟩:=hrel
  have HP:Hid ((pre++(lfE es seen).map keyP).Perm (es.toList.map keyP)):=hp
  have HJS:Hid (J pre wr):=hJs
  have HL0:Hid (itLeft es wr r=(lfE es seen).length):=Qht hir
  rcases run_next_at (P:=Tryz.prog) wr 0 r m c c0 seen es c hir hmw HE.out.2.1 hc0 with⟨h0,hrun⟩|⟨e,hel,w1',hal,hrun⟩
  ·have hz:lfE es seen=[]:=List.length_eq_zero_iff.1 (by unfold lfE;simpa using h0)
   rw [hz,List.map_nil,List.append_nil] at hp
   have HPP:Hid (pre.Perm (es.toList.map keyP)):=hp
   clear hir hc0 hmw hp h0 hz hJs HP HL0
   gi_wp2
   go_end0
   exact⟨⟨_,rfl⟩,.inl ⟨pre,HPP.out,HJS.out⟩⟩
  ·have hel':e∈lfE es seen:=hel
   have hes:e∈es.toList:=by rw [Qg1] at hel';exact (List.mem_filter.1 hel').1
   obtain⟨p,hpe⟩:∃p,keyP e=p:=⟨_,rfl⟩
   have hkp:=HE.out.2.2 e hes
   rw [hpe] at hkp
   have HPU:=Qrg HE.out.1 hel'
   have hw1:w1'.heap=wr.heap:=by rcases hal with rfl|rfl <;> rfl
   obtain⟨w3,hw3⟩:∃u,u=setBlock w1' r (.mapIter (some m) c (seen.push e.born) c):=⟨_,rfl⟩
   rw [←hw3] at hrun
   have hir':w1'.heap[r]?=some (.mapIter (some m) c seen c0):=by rw [hw1];exact hir
   have hir3:w3.heap[r]?=some (.mapIter (some m) c (seen.push e.born) c):=by rw [hw3];exact Qhf hir'
   have t3:Touch (fun k=>k=r) wr w3:=by
    rw [hw3]
    refine Touch.trans (b:=w1') ?_ (Qda hir')
    rcases hal with rfl|rfl
    ·exact Touch.refl _ _
    ·exact (Touch.refl _ _).drew
   have hm3:w3.heap[m]?=some (.map es c):=(t3.block m (Qaq hmw) HR.out).trans hmw
   have hent:=run_entry_at (P:=Tryz.prog) w3 r m c seen es c e hir3 hm3 hes HE.out.1
   have J3:J pre w3:=HJ.out _ _ _ (some r) hJs (Qmn t3) (fun q e=>by cases e;exact⟨Nat.le_refl _,_,hir,rfl⟩)
   have TA:Touch (fun _=>False) w3 (w3.alloc (.cells #[.int .u32 p.addr,.int .u8 p.bits] 42)):=(Touch.refl _ _).alloc _
   have J4:J pre (w3.alloc (.cells #[.int .u32 p.addr,.int .u8 p.bits] 42)):=HJ.out _ _ _ none J3 (Qkv TA) (fun q e=>by cases e)
   have HI4:Hid ((w3.alloc (.cells #[.int .u32 p.addr,.int .u8 p.bits] 42)).heap[r]?=some (.mapIter (some m) c (seen.push e.born) c)):=TA.heapN hir3
   have HM4:Hid ((w3.alloc (.cells #[.int .u32 p.addr,.int .u8 p.bits] 42)).heap[m]?=some (.map es c)):=TA.heapN hm3
   have HLL:Hid ((lfE es seen).length=(lfE es (seen.push e.born)).length+1):=HPU.length_eq.trans (by simp)
   have HPN:Hid ((pre++[p]++(lfE es (seen.push e.born)).map keyP).Perm (es.toList.map keyP)):=by
    refine List.Perm.trans ?_ HP.out
    rw [List.append_assoc]
    have h2:=HPU.map keyP
    rw [List.map_cons,hpe] at h2
    exact (List.Perm.append_left pre h2).symm
   have hlen:pre.length<es.size:=by
    have h1:=HPN.out.length_eq
    simp only [List.length_append,List.length_singleton,List.length_map,Array.length_toList] at h1
    omega
   have hYY:=HY.out pre p _ J4 hlen
   obtain⟨ek,ev,eb⟩:=e
   have hkp':ek=p.v:=hkp
   subst hkp'
   unfold encQ at hYY
   unfold PX.v at hrun hent hYY
   dsimp only at hrun hent
   clear hir hc0 hmw hp hJs HP hpe hel hel' hes HPU hw1 hw3 hir' hir3 t3 hm3 J3 TA J4 hkp hal
   obtain⟨fn,tmps,assign,body,hy,hR⟩:=hYY
   gi_wp2
   refine hR.mono ?_
   rintro e W3 (⟨rfl,hJ3,hk3⟩|⟨rfl,hJx3⟩)
   ·have hi5:=hk3.it _ _ HI4.out rfl
    have hm5:=hk3.m _ HM4.out
    clear hk3
    gi_wp2
    go_roundw
    case rel=>exact⟨_,_,c,hi5,Nat.le_refl _,hm5,HPN.out,hJ3⟩
    case measure=>rw [HL0.out,Qht hi5,HLL.out];exact Nat.lt_succ_self _
   ·gi_wp2
    refine bodyPost_ret (results_none rfl _ _ _) rfl ?_
    exact⟨⟨_,rfl⟩,.inr ⟨_,trivial,hJx3⟩⟩
end Go.Proofs.YtddbffoiadmffaaGreat
