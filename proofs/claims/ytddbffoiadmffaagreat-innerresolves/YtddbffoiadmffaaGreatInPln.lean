import Derived.RowKit
import Derived.Test.YtddbffoiadmffaaGreatInWArg
import Derived.Deep.LoopGhost
namespace Go.Proofs.YtddbffoiadmffaaGreat
set_option maxHeartbeats 8000000
open Go.RowKit
set_option linter.unusedVariables false
theorem Qbi {k n:Nat} (h:k<n):(k:Int)<(n:Int):=Int.ofNat_lt.2 h
theorem Qbu {k n:Nat} (h:¬k<n):¬(k:Int)<(n:Int):=fun e=>h (Int.ofNat_lt.1 e)
theorem Qbj (k:Nat):(0:Int)≤(k:Int):=Int.natCast_nonneg k
theorem Qap {k:Nat} {z:Int} (h:z=(k:Int)+1):Value.int .i64 z=.int .i64 ((k+1:Nat):Int):=by subst h;simp
theorem Qcq {α:Type} {l:List α} {n k:Nat} (hn:l.length=n) (h:k<n):∃x,l[k]?=some x:=⟨l[k]'(by omega),by simp⟩
theorem Qux {α:Type} {l:List α} {n k:Nat} (hn:l.length=n) (h:k<n):0<l.length:=by omega
theorem Qsp {α:Type} {l:List α} {n k:Nat} {x:α} (hn:l.length=n) (h:l[k]?=some x):k<n:=by rw [←hn];exact (List.getElem?_eq_some_iff.1 h).1
theorem Qgd {α:Type} {l:List α} {n k:Nat} (hn:l.length=n) (h:¬k<n):l.take k=l:=List.take_of_length_le (by omega)
theorem Qbo {i n g:Nat} (h:i<n) (hg:n-i≤g):n-(i+1)<g:=by omega
theorem Qe6 {k:Nat} (h:k≤1000000000000):wrap64 ((k:Int)+1)=(k:Int)+1:=by unfold wrap64;omega
theorem Qwx (k:Nat):((k:Int) == -1)=false:=by rw [beq_eq_false_iff_ne];omega
set_option maxRecDepth 100000
def plainL (l:List HK):List HK:=l.filter (fun h=>!h.vr)
theorem Qer {l:List HK} (h:∀x∈l,x.vr=false):plainL l=l:=List.filter_eq_self.2 (fun x hx=>by simp [h x hx])
theorem Qbz {l:List HK} {k:Nat} {x:HK} (h:l[k]?=some x):plainL (l.take (k+1))=plainL (l.take k)++(if x.vr then [] else [x]):=by
 unfold plainL
 rw [List.take_add_one,h,List.filter_append]
 cases hx:x.vr <;> simp [hx]
theorem Qb7 (l:List HK):(plainL l).length≤l.length:=List.length_filter_le _ _
theorem RH.set {B:Nat} {w:World} {g c n:Nat} {l:List HK} (h:RH B w (.slice (some ⟨g,0,none⟩) n c) l) {i:Nat} (hi:i<l.length) (e:HK) :
  RH B (((w.setCell ⟨g,i*3,none⟩ (.int .u32 e.out)).setCell ⟨g,i*3+1,none⟩ (.int .u32 e.via)).setCell ⟨g,i*3+2,none⟩ (.bool e.vr)) (.slice (some ⟨g,0,none⟩) n c) (l.set i e):=by
 obtain⟨x,hx⟩:∃x,l[i]?=some x:=⟨_,List.getElem?_eq_getElem hi⟩
 obtain⟨x0,x1,x2⟩:=x
 obtain⟨e0,e1,e2⟩:=e
 have h0:=RG.set1 HK.len h (d:=0) (y:=⟨e0,x1,x2⟩) (by omega) hx (u:=.int .u32 e0) rfl
 have h1:=RG.set1 HK.len h0 (d:=1) (y:=⟨e0,e1,x2⟩) (by omega) (Qf5 hi _) (u:=.int .u32 e1) rfl
 rw [List.set_set] at h1
 have h2:=RG.set1 HK.len h1 (d:=2) (y:=⟨e0,e1,e2⟩) (by omega) (Qf5 hi _) (u:=.bool e2) rfl
 rw [List.set_set] at h2
 exact h2
section
variable {α:Type} {cs:α→List Value} {k T B:Nat}
theorem RG.setFar (hk:∀x,(cs x).length=k) {w:World} {l:List α} {g c n:Nat} (h:RG cs k T B w (.slice (some ⟨g,0,none⟩) n c) l) {o:Nat} (ho:l.length*k≤o) (u:Value):RG cs k T B (w.setCell ⟨g,o,none⟩ u) (.slice (some ⟨g,0,none⟩) n c) l:=by
 obtain⟨h1,⟨h2,h3⟩|⟨g',cap,cur,hv,hg,hh,hn,hm,hs,hx⟩⟩:=h
 ·cases h2
 ·have R:Row w g' T cur.toList:=by unfold Row;simpa using hh
  cases hv
  have R1:=R.set o u
  refine⟨h1,Or.inr ⟨g,c,_,rfl,hg,R1,hn,hm,by simpa using hs,?_⟩⟩
  rw [←hx]
  exact List.take_set_of_le ho
theorem RG.setsFar (hk:∀x,(cs x).length=k) {l:List α} {g c n:Nat}:∀(us:List Value) (o:Nat) (w:World),RG cs k T B w (.slice (some ⟨g,0,none⟩) n c) l→l.length*k≤o→RG cs k T B (w.setCells g o us) (.slice (some ⟨g,0,none⟩) n c) l
 | [],_,_,h,_=>h
 | u::us,o,w,h,ho=>RG.setsFar hk us (o+1) _ (h.setFar hk ho u) (by omega)
end
theorem infoHop3:(Tryz.prog.info? 48).map (·.size)=some 3:=by kernel_rfl
theorem one3 (a b:Int) (c:Bool):(#[.int .u32 a,.int .u32 b,.bool c]:Array Value).all (·.oneCell')=true:=by simp [Value.oneCell']
theorem Qfm (w:World) (ty:TypeId) (b o n c:Nat) (hn:0<n) (hc:∀j,j<n*3→(w.cell? ⟨b,o+j,none⟩).isSome=true) (hf:∀j,j<n*3→w.frozen? ⟨b,o+j,none⟩=false) :
  (Builtin.clear_ #[43] ty #[.slice (some ⟨b,o,none⟩) n c]).run Tryz.prog w=.ok (.tuple #[]) (w.setCells b o (Builtin.zeroCells #[.int .u32 0,.int .u32 0,.bool false] n).toList):=by
 have hz:∀w,(zeroValue 48).run Tryz.prog w=.ok (.agg #[.int .u32 0,.int .u32 0,.bool false]) w:=fun w=>by kernel_rfl
 have hsz:(Builtin.zeroCells #[.int .u32 0,.int .u32 0,.bool false] n).toList.length=n*3:=by
  simp [size_zeroCells]
 have h1:∀v∈(Builtin.zeroCells #[.int .u32 0,.int .u32 0,.bool false] n).toList,v.oneCell'=true:=by
  intro v hv
  simp only [Builtin.zeroCells,Array.toList_map,List.mem_map] at hv
  obtain⟨i,-,rfl⟩:=hv
  have hs:(#[.int .u32 0,.int .u32 0,.bool false]:Array Value).size=3:=rfl
  rw [hs]
  rcases (by omega:i%3=0∨i%3=1∨i%3=2) with e|e|e <;> rw [e] <;> rfl
 have hst:=run_storeCells_cells (P:=Tryz.prog) b o (Builtin.zeroCells #[.int .u32 0,.int .u32 0,.bool false] n).toList 0 w (by rw [hsz];simpa using hc) (by rw [hsz];simpa using hf) h1
 simp only [Nat.add_zero] at hst
 obtain⟨m,rfl⟩:∃m,n=m+1:=⟨n-1,by omega⟩
 have hcl:(Value.agg #[.int .u32 0,.int .u32 0,.bool false]).cells=#[.int .u32 0,.int .u32 0,.bool false]:=rfl
 simp [Builtin.clear_,run_underlying Tryz.underlying43,hz,hcl,hst]
theorem Qtk (v:Value) (l:List HK) (w:World) (V:HV3 w v l) (hl:l.length≤1000000):Calls Tryz.prog 81 #[v] w fun e w'=>∃v',e=.returned v'∧HpB w w' v' l:=by
 have HV:Hid (HV3 w v l):=V
 have HL:Hid (l.length≤1000000):=hl
 obtain⟨va,vc,rfl,-⟩:=V.form
 have hq:=fun (w:World) (a:Option Addr) (n c n' c':Nat)=>Lib.run_eql_slice_nil (P:=Tryz.prog) w 43 48 a n c n' c' Tryz.underlying43
 cases va with
 | none =>
  have h0:l=[]:=by
   rcases V.2 with⟨e,h⟩|⟨ad,c,e,-⟩
   ·exact List.eq_nil_of_length_eq_zero h
   ·cases e
  subst h0
  clear V hl
  go_enter Tryz.func81,Tryz.ntmps81
  go_wp2
  go_ret
  exact⟨_,rfl,VBuf.nil _ _ (Touch.refl _ _)⟩
 | some ad =>
  have T1:Touch (fun _=>False) w (w.alloc (.cells #[] 48)):=(Touch.refl _ _).alloc _
  have H0:Hid (HpB w (w.alloc (.cells #[] 48)) (.slice (some ⟨w.heap.size,0,none⟩) 0 0) []):=⟨World.ownsRow_lit w #[] 0 (Nat.le_refl _) (by simp [maxLen]) (by simp),T1⟩
  have HV1:Hid (HV3 (w.alloc (.cells #[] 48)) (.slice (some ad) l.length vc) l):=V.keep T1
  clear V hl T1
  generalize hn:l.length=n at *
  have HN:Hid (l.length=n):=hn
  go_enter Tryz.func81,Tryz.ntmps81
  go_wp2_with (at_builtin;refine Qbp rfl (.tmp 5) (.tmp 6) 43 rfl 48 3 12 _ Tryz.underlying43 infoHop rfl (by omega) (by omega) w _ 0 [] rfl H0.out _ n (cellsG HK.cs l) rfl (by have:=HV1.out;unfold HV3 at this;rw [HN.out] at this;exact this) (oneCellH _) (by have:=HL.out;have:=HN.out;omega) ?_)
  intro v' w' hb'
  have HB':Hid (HpB w w' v' l):=by
   have:=HpB.more (l:=[]) (l':=l) (by rw [HN.out];simp) hb'
   rw [List.nil_append] at this
   exact this
  clear hb' hn
  go_wp2
  go_ret
  exact⟨_,rfl,HB'.out⟩
theorem Qj9 (h:HK) (w:World):Calls Tryz.prog 82 #[.agg #[.int .u32 h.out,.int .u32 h.via,.bool h.vr]] w fun e w'=>e=.returned (.bool h.vr)∧Touch (fun _=>False) w w':=by
 go_enter Tryz.func82,Tryz.ntmps82
 go_wp2
 go_ret
 exact⟨rfl,(Touch.refl _ _).alloc _⟩
structure IdxV (l:List HK) (z:Int):Prop where
 out:(z = -1∧∀x∈l,x.vr=false)∨∃(k:Nat) (x:HK),z=(k:Int)∧l[k]?=some x∧x.vr=true∧∀y∈l.take k,y.vr=false
theorem Qqg (v:Value) (l:List HK) (w:World) (V:HV3 w v l) (hl:l.length≤1000000) :
  Calls Tryz.prog 120 #[v,.func (.func 82) #[] #[]] w fun e w'=>∃z,e=.returned (.int .i64 z)∧IdxV l z∧Touch (fun _=>False) w w':=by
 obtain⟨va,vc,rfl,-⟩:=V.form
 have HV:Hid (∀w',Touch (fun _=>False) w w'→RA w' (.slice va l.length vc) l):=fun w' t=>HV3.ra (ValsAt.keep V t)
 generalize hn:l.length=n at *
 have HN:Hid (l.length=n):=hn
 have hn':(n:Int)≤1000000:=by omega
 clear V hn
 go_enter Tryz.func120,Tryz.ntmps120
 go_wp2
 go_loopg [5,8] n (fun gg _ s8 wr=>∃kk:Nat,kk≤n∧n-kk≤gg∧s8=.int .i64 kk∧Hid (∀y∈l.take kk,y.vr=false)∧Touch (fun _=>False) w wr)
 case atStart=>exact⟨0,Nat.zero_le _,by omega,rfl,fun y hy=>by simp at hy,Touch.refl _ _⟩
 case round =>
  obtain⟨kk,hkk,hg,rfl,HA,t⟩:=hrel
  have HT:Hid (Touch (fun _=>False) w wr):=t
  rcases Nat.lt_or_ge kk n with h|h
  ·have hlt:(kk:Int)<(n:Int):=by omega
   have hkw:wrap64 ((kk:Int)+1)=(kk:Int)+1:=by unfold wrap64;omega
   obtain⟨x,hx⟩:∃x,l[kk]?=some x:=⟨l[kk]'(by have:=HN.out;omega),by simp⟩
   obtain⟨a',c',ea,hsh⟩:=(HV.out wr t).out
   simp only [Value.slice.injEq] at ea
   obtain⟨rfl,-,rfl⟩:=ea
   rcases hsh with e|⟨g,o,rfl,hc⟩
   ·rw [e] at hx;cases hx
   have q0:wr.cell? ⟨g,o+kk*3,none⟩=some (.int .u32 x.out):=hc kk x hx 0 _ rfl
   have q1:wr.cell? ⟨g,o+kk*3+1,none⟩=some (.int .u32 x.via):=hc kk x hx 1 _ rfl
   have q2:wr.cell? ⟨g,o+kk*3+2,none⟩=some (.bool x.vr):=hc kk x hx 2 _ rfl
   have HF:=Qj9 x wr
   have HX:Hid (l[kk]?=some x):=hx
   clear t hx hc HV
   cases hb:x.vr with
   | false =>
    rw [hb] at HF q2
    have HN2:Hid (∀y∈l.take (kk+1),y.vr=false):=fun y hy=>by
     rw [List.take_add_one,HX.out] at hy
     rcases List.mem_append.1 hy with hy|hy
     ·exact HA.out y hy
     ·obtain rfl:y=x:=by simpa using hy
      exact hb
    clear hb HA HX
    go_wp2_with fail
    refine HF.mono ?_
    rintro e w1 ⟨rfl,t1⟩
    have T1:Hid _:=t1
    clear t1 HF q0 q1 q2
    go_wp2
    go_roundg (n-(kk+1))
    case measure=>omega
    case rel=>exact⟨kk+1,by omega,by omega,by go_num,HN2,HT.out.trans T1.out⟩
   | true =>
    rw [hb] at HF q2
    have HZ:Hid (IdxV l kk):=⟨Or.inr ⟨kk,x,rfl,HX.out,hb,HA.out⟩⟩
    clear hb HA HX
    go_wp2_with fail
    refine HF.mono ?_
    rintro e w1 ⟨rfl,t1⟩
    have T1:Hid _:=t1
    clear t1 HF q0 q1 q2
    go_wp2
    go_ret
    exact⟨_,rfl,HZ.out,HT.out.trans T1.out⟩
  ·have hlt:¬(kk:Int)<(n:Int):=by omega
   have HZ:Hid (IdxV l (-1)):=⟨Or.inl ⟨rfl,fun x hx=>HA.out x (by rw [List.take_of_length_le (by have:=HN.out;omega)];exact hx)⟩⟩
   clear t HA HV
   go_wp2
   go_ret
   exact⟨_,rfl,HZ.out,HT.out⟩
structure DelR (w:World) (B g c n:Nat) (l:List HK) (i j:Nat) (wr:World):Prop where
 row:∃L,RH B wr (.slice (some ⟨g,0,none⟩) n c) L∧L.length=n∧L.take i=plainL (l.take j)∧L.drop j=l.drop j
 ij:i<j
 ip:i=(plainL (l.take j)).length
 jn:j≤n
 t:Touch (fun k=>k=g) w wr
theorem DelR.keep {w wr w':World} {B g c n i j:Nat} {l:List HK} (h:DelR w B g c n l i j wr) (t:Touch (fun _=>False) wr w'):DelR w B g c n l i j w':=by
 obtain⟨⟨L,h1,h2⟩,h3,h4,h5,h6⟩:=h
 exact⟨⟨L,RG.keepN h1 t,h2⟩,h3,h4,h5,h6.trans (t.mono (fun _ _ h=>h.elim))⟩
theorem DelR.skip {w wr w':World} {B g c n i j:Nat} {l:List HK} (h:DelR w B g c n l i j wr) {x:HK} (hx:l[j]?=some x) (hb:x.vr=true) (hj:j<n) (t:Touch (fun _=>False) wr w'):DelR w B g c n l i (j+1) w':=by
 obtain⟨⟨L,r,hLn,hLi,hLj⟩,hij,hip,hjn,tw⟩:=h
 have hps':plainL (l.take (j+1))=plainL (l.take j):=by rw [Qbz hx,hb];simp
 refine⟨⟨L,RG.keepN r t,hLn,by rw [hps',hLi],?_⟩,by omega,by rw [hps',hip],by omega,tw.trans (t.mono (fun _ _ h=>h.elim))⟩
 rw [←List.drop_drop,←List.drop_drop,hLj]
theorem DelR.put {w wr w':World} {B g c n i j:Nat} {l:List HK} (h:DelR w B g c n l i j wr) {x:HK} (hx:l[j]?=some x) (hb:x.vr=false) (hj:j<n) (t:Touch (fun _=>False) wr w') :
  DelR w B g c n l (i+1) (j+1) (((w'.setCell ⟨g,i*3,none⟩ (.int .u32 x.out)).setCell ⟨g,i*3+1,none⟩ (.int .u32 x.via)).setCell ⟨g,i*3+2,none⟩ (.bool x.vr)):=by
 obtain⟨⟨L,r,hLn,hLi,hLj⟩,hij,hip,hjn,tw⟩:=h
 have hps':plainL (l.take (j+1))=plainL (l.take j)++[x]:=by rw [Qbz hx,hb];simp
 refine⟨⟨L.set i x,RH.set (RG.keepN r t) (by omega) x,by rw [List.length_set,hLn],?_,?_⟩,by omega,by rw [hps',List.length_append,←hip];rfl,by omega,?_⟩
 ·rw [hps',List.take_add_one,List.take_set_of_le (Nat.le_refl i),hLi]
  have:i<L.length:=by omega
  simp [this]
 ·rw [List.drop_set_of_lt (by omega),←List.drop_drop,←List.drop_drop,hLj]
 ·exact Touch.setCell (p:=⟨g,i*3+2,none⟩) (Touch.setCell (p:=⟨g,i*3+1,none⟩) (Touch.setCell (p:=⟨g,i*3,none⟩) (tw.trans (t.mono (fun _ _ h=>h.elim))) (Or.inl rfl) _) (Or.inl rfl) _) (Or.inl rfl) _
structure DelC (w:World) (g i j:Nat) (x:HK):Prop where
 x0:w.cell? ⟨g,j*3,none⟩=some (.int .u32 x.out)
 x1:w.cell? ⟨g,j*3+1,none⟩=some (.int .u32 x.via)
 x2:w.cell? ⟨g,j*3+2,none⟩=some (.bool x.vr)
 y:∃y:HK,w.cell? ⟨g,i*3,none⟩=some (.int .u32 y.out)∧w.cell? ⟨g,i*3+1,none⟩=some (.int .u32 y.via)∧w.cell? ⟨g,i*3+2,none⟩=some (.bool y.vr)
 fz:∀j,w.frozen? ⟨g,j,none⟩=false
 lt:g<w.heap.size
theorem DelR.cells {w wr:World} {B g c n i j:Nat} {l:List HK} (h:DelR w B g c n l i j wr) {x:HK} (hx:l[j]?=some x) (hj:j<n):DelC wr g i j x:=by
 obtain⟨⟨L,r,hLn,hLi,hLj⟩,hij,hip,hjn,tw⟩:=h
 have hxL:L[j]?=some x:=by
  have e1:=congrArg (·[0]?) hLj
  simp only [List.getElem?_drop,Nat.add_zero] at e1
  rw [e1,hx]
 obtain⟨y,hy⟩:∃y,L[i]?=some y:=⟨L[i]'(by omega),by simp⟩
 exact⟨RG.cell (i:=j) (d:=0) HK.len r hxL rfl,RG.cell (i:=j) (d:=1) HK.len r hxL rfl,RG.cell (i:=j) (d:=2) HK.len r hxL rfl,⟨y,RG.cell (i:=i) (d:=0) HK.len r hy rfl,RG.cell (i:=i) (d:=1) HK.len r hy rfl,RG.cell (i:=i) (d:=2) HK.len r hy rfl⟩,RG.fz r,RG.lt r rfl⟩
theorem DelC.there {w:World} {g i j:Nat} {x:HK} (h:DelC w g i j x):w.there g (i*3) 3:=fun q hq=>by
 obtain⟨y,y0,y1,y2⟩:=h.y
 rcases (by omega:q=0∨q=1∨q=2) with rfl|rfl|rfl
 ·exact⟨by rw [Nat.add_zero,y0];rfl,h.fz _⟩
 ·exact⟨by rw [y1];rfl,h.fz _⟩
 ·exact⟨by rw [y2];rfl,h.fz _⟩
theorem DelR.start {w:World} {B g c n k:Nat} {l:List HK} {x:HK} (h:RH B w (.slice (some ⟨g,0,none⟩) n c) l) (hn:l.length=n) (hx:l[k]?=some x) (hv:x.vr=true) (ha:∀y∈l.take k,y.vr=false):DelR w B g c n l k (k+1) w:=by
 have hk:k<n:=Qsp hn hx
 have hp0:plainL (l.take k)=l.take k:=Qer ha
 refine⟨⟨l,h,hn,?_,rfl⟩,Nat.lt_succ_self _,?_,by omega,Touch.refl _ _⟩
 ·rw [Qbz hx,hv,hp0]
  simp
 ·rw [Qbz hx,hv,hp0]
  simp
  omega
theorem DelR.done {w wr:World} {B g c n i:Nat} {l:List HK} (h:DelR w B g c n l i n wr) (hn:l.length=n) :
  (∀ty,(Builtin.clear_ #[43] ty #[.slice (some ⟨g,i*3,none⟩) (n-i) (c-i)]).run Tryz.prog wr=.ok (.tuple #[]) (wr.setCells g (i*3) (Builtin.zeroCells #[.int .u32 0,.int .u32 0,.bool false] (n-i)).toList)) ∧
  RH B (wr.setCells g (i*3) (Builtin.zeroCells #[.int .u32 0,.int .u32 0,.bool false] (n-i)).toList) (.slice (some ⟨g,0,none⟩) i c) (plainL l)∧Touch (fun k=>k=g) w (wr.setCells g (i*3) (Builtin.zeroCells #[.int .u32 0,.int .u32 0,.bool false] (n-i)).toList)∧n≤c:=by
 obtain⟨⟨L,r,hLn,hLi,-⟩,hij,hip,-,tw⟩:=h
 have htk:l.take n=l:=List.take_of_length_le (by omega)
 rw [htk] at hLi hip
 have hlv:n≤c:=by
  obtain⟨_,_,e,h,-⟩:=RG.form r (by omega)
  simp only [Value.slice.injEq] at e
  omega
 refine⟨fun ty=>Qfm wr ty g (i*3) (n-i) (c-i) (by omega) (fun q hq=>?_) (fun q hq=>RG.fz r _),?_,tw.trans (Qb6 _ _ _ (Touch.refl _ _)),hlv⟩
 ·have h3:(i*3+q)/3<L.length:=by omega
  have hh:=RG.cell (i:=(i*3+q)/3) (d:=(i*3+q)%3) (w:=wr) (x:=L[(i*3+q)/3]) (u:=(HK.cs L[(i*3+q)/3])[(i*3+q)%3]'(by rw [HK.len];omega)) HK.len r (by simp) (by simp)
  have e:(i*3+q)/3*3+(i*3+q)%3=i*3+q:=by omega
  rw [e] at hh
  rw [hh]
  rfl
 ·have h1:=RG.cut HK.len r (m:=i) (by omega)
  rw [hLi] at h1
  exact RG.setsFar HK.len _ _ _ h1 (by rw [←hip];exact Nat.le_refl _)
theorem Qrr (B:Nat) (v:Value) (l:List HK) (w:World) (V:RH B w v l) (hl:l.length≤1000000) :
  Calls Tryz.prog 80 #[v,.func (.func 82) #[] #[]] w fun e w'=>∃v',e=.returned v'∧RH B w' v' (plainL l)∧v'.ownBlock=v.ownBlock∧Touch (fun k=>v.ownBlock=some k) w w':=by
 have HI:=Qqg v l w (Qbd V) hl
 have HV:Hid (RH B w v l):=V
 have HL:Hid (l.length≤1000000):=hl
 obtain⟨va,vc,rfl⟩:=RG.shape V
 clear V hl
 generalize hn:l.length=n at *
 have HN:Hid (l.length=n):=hn
 have hn':(n:Int)≤1000000:=by have:=HL.out;omega
 clear hn
 go_enter Tryz.func80,Tryz.ntmps80
 go_wp2_with fail
 refine HI.mono ?_
 rintro e w1 ⟨z,rfl,hz,t1⟩
 have HT1:Hid (Touch (fun _=>False) w w1):=t1
 have HV1:Hid (RH B w1 (.slice va n vc) l):=RG.keepN HV.out t1
 clear HI t1 HV
 rcases hz.out with⟨rfl,h0⟩|⟨k0,x0,rfl,hx0,hxv,ha⟩
 ·as_aux_lemma =>
  have HP:Hid (plainL l=l):=Qer h0
  clear hz h0
  go_wp2
  go_ret
  refine⟨_,rfl,by rw [HP.out];exact HV1.out,rfl,HT1.out.mono (fun _ _ h=>h.elim)⟩
 ·as_aux_lemma =>
  have hk0:k0<n:=Qsp HN.out hx0
  obtain⟨g,c,ev,-,lg,hBg⟩:=RG.form HV1.out (Qux HN.out hk0)
  rw [HN.out] at ev
  simp only [Value.slice.injEq,true_and] at ev
  obtain⟨rfl,rfl⟩:=ev
  have HR0:Hid (DelR w1 B g vc n l k0 (k0+1) w1):=DelR.start HV1.out HN.out hx0 hxv ha
  have hk1:((k0:Int) == -1)=false:=Qwx _
  have hkw0:wrap64 ((k0:Int)+1)=(k0:Int)+1:=by unfold wrap64;omega
  clear hz hx0 hxv ha
  go_wp2_with fail
  go_loopg [5,6,7] n (fun gg s5 s6 _ wr=>∃i j:Nat,n-j≤gg∧s5=.int .i64 i∧s6=.int .i64 j∧DelR w1 B g vc n l i j wr)
  case atStart=>exact⟨k0,k0+1,Nat.sub_le _ _,rfl,by first|exact Qap hkw0|exact Qap rfl,HR0.out⟩
  case round =>
   obtain⟨i,j,hg,rfl,rfl,hd⟩:=hrel
   have HD:Hid (DelR w1 B g vc n l i j wr):=hd
   have hij:=hd.ij
   have hjn:=hd.jn
   clear HR0 hk1 hkw0 hd
   by_cases h:j<n
   ·have hlt:(j:Int)<(n:Int):=Qbi h
    have hj0:(0:Int)≤(j:Int):=Qbj _
    have hi0:(0:Int)≤(i:Int):=Qbj _
    have hil:(i:Int)<(n:Int):=Qbi (Nat.lt_trans hij h)
    have hnM:n≤1000000000000:=Nat.le_trans HL.out (by decide)
    have hjw:wrap64 ((j:Int)+1)=(j:Int)+1:=Qe6 (Nat.le_trans hjn hnM)
    have hiw:wrap64 ((i:Int)+1)=(i:Int)+1:=Qe6 (Nat.le_trans (Nat.le_of_lt (Nat.lt_of_lt_of_le hij hjn)) hnM)
    obtain⟨x,hx⟩:=Qcq HN.out h
    have HX:Hid (l[j]?=some x):=hx
    obtain⟨q0,q1,q2,-,-,lgw⟩:=HD.out.cells hx h
    obtain⟨wa,hwa⟩:∃u,u=wr.alloc (.cells #[.int .u32 x.out,.int .u32 x.via,.bool x.vr] 48):=⟨_,rfl⟩
    have ta:Touch (fun _=>False) wr wa:=by rw [hwa];exact (Touch.refl _ _).alloc _
    have RX:Row wa wr.heap.size 48 [.int .u32 x.out,.int .u32 x.via,.bool x.vr]:=by rw [hwa];exact Qac _ _ _
    have u0:wa.cell? ⟨wr.heap.size,0,none⟩=some (.int .u32 x.out):=RX.cell 0
    have u1:wa.cell? ⟨wr.heap.size,1,none⟩=some (.int .u32 x.via):=RX.cell 1
    have u2:wa.cell? ⟨wr.heap.size,2,none⟩=some (.bool x.vr):=RX.cell 2
    have HF:=Qj9 x wa
    have HRX:Hid (Row wa wr.heap.size 48 [.int .u32 x.out,.int .u32 x.via,.bool x.vr]):=RX
    have HTA:Hid (Touch (fun _=>False) wr wa):=ta
    clear hx RX ta
    go_upto_region 8 with fail
    rw [←hwa]
    clear hwa q0 q1 q2
    go_wp2_with fail
    refine HF.mono ?_
    rintro e w2 ⟨rfl,t2⟩
    have HT2:Hid (Touch (fun _=>False) wr w2):=HTA.out.trans t2
    have R2:=HRX.out.keep t2
    have v0:w2.cell? ⟨wr.heap.size,0,none⟩=some (.int .u32 x.out):=R2.cell 0
    have v1:w2.cell? ⟨wr.heap.size,1,none⟩=some (.int .u32 x.via):=R2.cell 1
    have v2:w2.cell? ⟨wr.heap.size,2,none⟩=some (.bool x.vr):=R2.cell 2
    have lv:=R2.lt
    clear HF u0 u1 u2 R2 t2 HRX HTA lgw
    by_cases hb:x.vr=true
    ·as_aux_lemma =>
     have HD2:Hid (DelR w1 B g vc n l i (j+1) w2):=HD.out.skip HX.out hb h HT2.out
     rw [hb] at v2 ⊢
     clear hb v0 v1 v2 lv
     go_wp2_with fail
     go_roundg (n-(j+1))
     case measure=>exact Qbo h hg
     case rel=>exact⟨i,j+1,Nat.le_refl _,rfl,by first|exact Qap hjw|exact Qap rfl,HD2.out⟩
    ·as_aux_lemma =>
     have hb':x.vr=false:=by simpa using hb
     have HD2:Hid (DelR w1 B g vc n l (i+1) (j+1) (w2.setCells g (i*3) (#[.int .u32 x.out,.int .u32 x.via,.bool x.vr]:Array Value).toList)):=HD.out.put HX.out hb' h HT2.out
     have HTH:Hid (w2.there g (i*3) 3):=((HD.out.keep HT2.out).cells HX.out h).there
     rw [hb'] at v2 HD2 ⊢
     have HH:Hid (j<n∧n-j≤gk):=⟨h,hg⟩
     clear hb hb' hnM hij hjn h hg hn' hk0 HD
     go_wp2_with (refine wpList_store_mid rfl 48 (.tmp 33) (.tmp 32) rfl g (i*3) #[.int .u32 x.out,.int .u32 x.via,.bool false] rfl rfl HTH.out infoHop3 (one3 _ _ _) ?_;generalize w2.setCells g (i*3) _=w5 at HD2 ⊢;clear v0 v1 v2 lv HTH)
     go_roundg (n-(j+1))
     case measure=>exact Qbo HH.out.1 HH.out.2
     case rel=>exact⟨i+1,j+1,Nat.le_refl _,by first|exact Qap hiw|exact Qap rfl,by first|exact Qap hjw|exact Qap rfl,HD2.out⟩
   ·as_aux_lemma =>
    have hlt:¬(j:Int)<(n:Int):=Qbu h
    obtain rfl:j=n:=Nat.le_antisymm hjn (Nat.le_of_not_lt h)
    have hi0:(0:Int)≤(i:Int):=Qbj _
    have hil:(i:Int)≤(j:Int):=Int.le_of_lt (Qbi hij)
    have hiln:i≤j:=Nat.le_of_lt hij
    obtain⟨hrun,d1,d2,hjc⟩:=HD.out.done HN.out
    have hic:i≤vc:=Nat.le_trans hiln hjc
    have hicI:(i:Int)≤(vc:Int):=Int.ofNat_le.2 hic
    have HF:Hid (RH B (wr.setCells g (i*3) (Builtin.zeroCells #[.int .u32 0,.int .u32 0,.bool false] (j-i)).toList) (.slice (some ⟨g,0,none⟩) i vc) (plainL l)∧Touch (fun k=>(Value.slice (some ⟨g,0,none⟩) j vc).ownBlock=some k) w (wr.setCells g (i*3) (Builtin.zeroCells #[.int .u32 0,.int .u32 0,.bool false] (j-i)).toList)) :=
     ⟨d1,(HT1.out.mono (fun _ _ h=>h.elim)).trans (d2.mono (fun k _ e=>by subst e;rfl))⟩
    clear d1 d2 HD HV1 h
    generalize wr.setCells g (i*3) (Builtin.zeroCells #[.int .u32 0,.int .u32 0,.bool false] (j-i)).toList=wf at *
    go_wp2_with fail
    go_ret
    exact⟨_,rfl,HF.out.1,rfl,HF.out.2⟩
theorem Qh1 (v:Value) (l:List HK) (w:World) (V:HV3 w v l) (hl:l.length≤1000000):Calls Tryz.prog 40 #[v] w fun e w'=>∃v',e=.returned v'∧HpB w w' v' (plainL l):=by
 have HC:=Qtk v l w V hl
 obtain⟨va,vc,rfl,-⟩:=V.form
 have HDD:Hid (∀v1 w1,RH w.heap.size w1 v1 l→Calls Tryz.prog 80 #[v1,.func (.func 82) #[] #[]] w1 fun e w'=>∃v',e=.returned v'∧RH w.heap.size w' v' (plainL l)∧v'.ownBlock=v1.ownBlock∧Touch (fun k=>v1.ownBlock=some k) w1 w'):=fun v1 w1 h=>Qrr w.heap.size v1 l w1 h hl
 clear V hl
 go_enter Tryz.func40,Tryz.ntmps40
 go_wp2_with fail
 refine HC.mono ?_
 rintro e w1 ⟨v1,rfl,b1⟩
 have HD:=HDD.out v1 w1 b1.own
 obtain⟨xa,xc,rfl⟩:=b1.form
 have HB1:Hid (HpB w w1 (.slice xa l.length xc) l):=b1
 clear b1 HC
 go_wp2_with fail
 refine HD.mono ?_
 rintro e w2 ⟨v2,rfl,r2,-,t2⟩
 have HF:Hid (HpB w w2 v2 (plainL l)):=⟨r2,HB1.out.t.trans' t2 (fun k hk e=>by have:=(HB1.out.own.lt k e).1;omega)⟩
 obtain⟨ya,yc,rfl⟩:=RG.shape r2
 clear HD r2 t2
 generalize (plainL l).length=q at *
 go_wp2_with fail
 go_ret
 exact⟨_,rfl,HF.out⟩
end Go.Proofs.YtddbffoiadmffaaGreat
