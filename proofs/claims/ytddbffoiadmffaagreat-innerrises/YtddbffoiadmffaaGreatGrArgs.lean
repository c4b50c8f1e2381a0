import Derived.Test.YtddbffoiadmffaaGreatTrMath
import Derived.Test.YtddbffoiadmffaaGreatInRiseP
import Derived.Deep.QuietTactic
import Derived.BigQuiet
import Derived.Test.YtddbffoiadmffaaGreatOwnUn
import Derived.ProofKit
import Derived.OpenShut
import Derived.ChangeOld
import Derived.Deep.Slices
import Derived.Deep.Matrix
import Derived.SizedLaws
namespace Go.Proofs.YtddbffoiadmffaaGreat
open Go.RowKit
set_option linter.unusedVariables false
set_option maxRecDepth 100000
set_option maxHeartbeats 8000000 in
theorem rises18 (v:Value) (area root:Int) (l:List SE) (w:World) (hv:StatesAt w v l) (hb:∀ x∈l,x.rs.length≤140737488355328) (hl:l.length≤140737488355328) :
  Calls Tryz.prog 5 #[v,.int .u32 area,.int .u32 root] w fun e w'=>e=.returned (.bool true)∧Touch (fun _=>False) w w':=by
 have HH:=heavy18 v l w hv hl hb
 have HW:=works18
 have HV:Hid (StatesAt w v l):=hv
 obtain ⟨va,vc,rfl,-⟩:=ValsAt.form hv.vals
 clear hv hb hl
 go_enter Tryz.func5,Tryz.ntmps5
 go_wp2_with fail
 refine HH.mono ?_
 rintro e w1 ⟨b,rfl,hbb,rfl⟩
 cases b with
 | true =>
  clear HH hbb
  go_wp2_with fail
  refine (HW _).mono ?_
  rintro e w1 ⟨rfl,t1⟩
  have T1:Hid _:=t1
  clear t1 HW
  go_wp2_with fail
  go_ret
  exact ⟨rfl,T1.out⟩
 | false =>
  obtain ⟨hl40,hb8⟩:=hbb rfl
  have HC:=gcstates (.slice va l.length vc) l w HV.out (by omega) (fun x hx=>Nat.le_trans (hb8 x hx) (by omega))
  have HB8:Hid (∀ x∈l,x.rs.length≤8192):=hb8
  have HL40:Hid (l.length≤40):=hl40
  clear HH hbb hb8 hl40
  go_wp2_with fail
  refine HC.mono ?_
  rintro e w1 ⟨u,rfl,t1,l',hp,ho,hbo⟩
  have hA:=copied_at HV.out.ok hp ho hbo
  have hln:l'.length=l.length:=by have:=congrArg List.length hp; simpa using this
  have hb':∀ x∈l',x.rs.length≤8192:=fun x hx=>by
   have:x.pr∈l.map SE.pr:=by rw [← hp]; exact List.mem_map.2 ⟨x,hx,rfl⟩
   obtain ⟨y,hy,e⟩:=List.mem_map.1 this
   have e2:y.rs=x.rs:=congrArg Prod.snd e
   rw [← e2]
   exact HB8.out y hy
  have HB:=routes_any u l' area root w1 hA (by have:=HL40.out; omega) hb'
  have HSK:Hid (∀ P,IsN l' P→∀ x∈P,SVK 8192 x):=fun P h=>isN_svk h (by omega) (fun s hs=>⟨(hA.ok s hs).all,(hA.ok s hs).byte,hb' s hs⟩)
  obtain ⟨ua,uc,rfl,-⟩:=ValsAt.form hA.vals
  have HT1:Hid (Touch (fun _=>False) w w1):=t1
  clear hA hp ho hbo t1 HC hb'
  generalize l'.length=n' at *
  clear hln
  go_wp2_with fail
  refine HB.mono ?_
  rintro e w2 ⟨P,n,z,R,H,v1,v2,N1,N2,Ls,rfl,hN,fk,hw1,hw2,-,hpl,hm1,hm2⟩
  have HNR:Hid (NRise area N1):=nrise hpl hm1
  have HRR:Hid (RRise area root N2):=rrise hN (HSK.out P hN) fk hm2
  have HT2:Hid (Touch (fun _=>False) w1 w2):=hw1.b.t
  have Q1:Hid (RG WY.cs 10 45 w1.heap.size w2 v1 N1):=hw1.b.1
  have Q2:Hid (RG WY.cs 10 45 w1.heap.size w2 v2 N2):=hw2.b.1
  have HHO:Hid (∀ y∈N2,HO w2 y.hv y.x.hs):=hw2.h
  have HM1:Hid (N1.length≤maxLen):=by obtain ⟨_,_,_,h⟩:=ValsAt.form (own_vals Q1.out); exact h
  have HM2:Hid (N2.length≤maxLen):=by obtain ⟨_,_,_,h⟩:=ValsAt.form (own_vals Q2.out); exact h
  obtain ⟨va1,vc1,rfl⟩:=RG.shape Q1.out
  obtain ⟨va2,vc2,rfl⟩:=RG.shape Q2.out
  clear hw1 hw2 hpl hm1 hm2 hN fk HB HSK
  generalize hn1:N1.length=n1 at *
  have HN1:Hid (N1.length=n1):=hn1
  generalize hn2:N2.length=n2 at *
  have HN2:Hid (N2.length=n2):=hn2
  clear hn1 hn2
  go_wp2_with fail
  go_loopw [9] (fun s wr=>∃ k:Nat,k≤n1∧s=.int .i64 k∧Touch (fun _=>False) w2 wr) (fun s _=>n1 - (intOf s).toNat)
  case atStart=>exact ⟨0,Nat.zero_le _,rfl,Touch.refl _ _⟩
  case round =>
   as_aux_lemma =>
   obtain ⟨k,hk',rfl,tk⟩:=hrel
   have HTk:Hid (Touch (fun _=>False) w2 wr):=tk
   have Q1k:Hid (RG WY.cs 10 45 w1.heap.size wr _ N1):=RG.keepN Q1.out tk
   clear tk
   by_cases hlt:k<n1
   ·have hlt':(k:Int)<(n1:Int):=by omega
    have hk00:(0:Int)≤(k:Int):=by omega
    have hkw:wrap64 ((k:Int)+1)=(k:Int)+1:=wrap_up hlt HM1.out
    obtain ⟨y,hy⟩:∃ y,N1[k]?=some y:=⟨N1[k]'(by have:=HN1.out; omega),by simp⟩
    obtain ⟨g1,c1,eg,-,lg,-⟩:=RG.form Q1k.out (by have:=HN1.out; omega)
    rw [HN1.out] at eg
    simp only [Value.slice.injEq,true_and] at eg
    obtain ⟨rfl,rfl⟩:=eg
    obtain ⟨f1,f2,f3⟩:=HNR.out.one k y hy
    have c4:wr.cell? ⟨g1,k * 10+4,none⟩=some (.int .u8 1):=by rw [← f1]; exact RG.cell (i:=k) (d:=4) WY.len Q1k.out hy rfl
    have c5:wr.cell? ⟨g1,k * 10+5,none⟩=some (.int .u32 area):=by rw [← f2]; exact RG.cell (i:=k) (d:=5) WY.len Q1k.out hy rfl
    have c2:wr.cell? ⟨g1,k * 10+2,none⟩=some (.int .u32 0):=by rw [← f3]; exact RG.cell (i:=k) (d:=2) WY.len Q1k.out hy rfl
    have c0:wr.cell? ⟨g1,k * 10,none⟩=some (.int .u32 y.x.p.addr):=RG.cell (i:=k) (d:=0) WY.len Q1k.out hy rfl
    have c1':wr.cell? ⟨g1,k * 10+1,none⟩=some (.int .u8 y.x.p.bits):=RG.cell (i:=k) (d:=1) WY.len Q1k.out hy rfl
    clear f1 f2 f3
    rcases Nat.eq_zero_or_pos k with hz | hp
    ·as_aux_lemma =>
     have hp':decide ((0:Int)<(k:Int))=false:=decide_eq_false (by omega)
     have hpn:decide (0<k)=false:=decide_eq_false (by omega)
     clear hy c0 c1' hz
     have haa:(area != area)=false:=by simp
     go_wp2_with fail
     simp only [List.append_eq,List.cons_append,List.nil_append]
     go_big_quiet (fail)
     go_wp2_with fail
     go_roundw
     case rel=>exact ⟨k+1,by omega,by go_num,HTk.out.drewN _⟩
     case measure=>exact meas_up hlt hkw
    ·obtain ⟨j,hj⟩:∃ j,k=j+1:=⟨k - 1,by omega⟩
     obtain ⟨y0,hy0⟩:∃ y,N1[j]?=some y:=⟨N1[j]'(by have:=HN1.out; omega),by simp⟩
     have hlt0:y0.x.p.lt y.x.p:=HNR.out.two j y0 y hy0 (by rw [← hj]; exact hy)
     have hp':decide ((0:Int)<(k:Int))=true:=decide_eq_true (by omega)
     have haa:(area != area)=false:=by simp
     have hj0:(0:Int)≤(j:Int):=by omega
     have hjl:(j:Int)<(n1:Int):=by omega
     have hjw:wrap64 ((k:Int) - 1)=(j:Int):=wrap_dn hj hlt HM1.out
     have hjw2:IntKind.i64.wrap ((k:Int) - 1)=(j:Int):=wrap_dni hj hlt HM1.out
     have d0:wr.cell? ⟨g1,j * 10,none⟩=some (.int .u32 y0.x.p.addr):=RG.cell (i:=j) (d:=0) WY.len Q1k.out hy0 rfl
     have d1:wr.cell? ⟨g1,j * 10+1,none⟩=some (.int .u8 y0.x.p.bits):=RG.cell (i:=j) (d:=1) WY.len Q1k.out hy0 rfl
     have HJ:Hid (k=j+1):=hj
     unfold PX.lt at hlt0
     generalize y.x.p=p at *
     generalize y0.x.p=p0 at *
     obtain ⟨pa,pb⟩:=p
     obtain ⟨qa,qb⟩:=p0
     simp only at hlt0 c0 c1' d0 d1
     clear hy hy0 hj
     by_cases hq:qa<pa
     ·as_aux_lemma =>
      clear hlt0
      have hqd:decide (qa<pa)=true:=decide_eq_true hq
      go_wp2_with fail
      simp only [List.append_eq,List.cons_append,List.nil_append]
      go_big_quiet (fail)
      go_wp2_with fail
      go_roundw
      case rel=>exact ⟨k+1,by omega,by go_num,HTk.out.drewN _⟩
      case measure=>exact meas_up hlt hkw
     ·as_aux_lemma =>
      obtain ⟨rfl,hbq⟩:qa=pa∧qb<pb:=by omega
      clear hlt0 hq
      have hirr:decide (qa<qa)=false:=by simp
      have hee:(qa == qa)=true:=by simp
      have hbd:decide (qb<pb)=true:=decide_eq_true hbq
      go_wp2_with fail
      simp only [List.append_eq,List.cons_append,List.nil_append]
      go_big_quiet (fail)
      go_wp2_with fail
      go_roundw
      case rel=>exact ⟨k+1,by omega,by go_num,HTk.out.drewN _⟩
      case measure=>exact meas_up hlt hkw
   ·have hlt':¬ (k:Int)<(n1:Int):=by omega
    clear HNR Q1 Q1k
    generalize wr=w3 at *
    as_aux_lemma =>
    go_wp2_with fail
    have hEP:∀ w,(Op.equalIn 10000 42 (.agg #[.int .u32 0,.int .u8 0]) (.agg #[.int .u32 0,.int .u8 0])).run Tryz.prog w=.ok true w:=fun w=>by kernel_rfl
    have hbz:∀ w,(Instr.build 42 #[]).run Tryz.prog w=.ok (.agg #[.int .u32 0,.int .u8 0]) w:=fun w=>run_build w 42 _ _ (by kernel_rfl)
    go_loopw [10] (fun s wr=>∃ k:Nat,k≤n2∧s=.int .i64 k∧Touch (fun _=>False) w3 wr) (fun s _=>n2 - (intOf s).toNat)
    case atStart=>exact ⟨0,Nat.zero_le _,rfl,Touch.refl _ _⟩
    case round =>
     as_aux_lemma =>
     obtain ⟨q,hq',rfl,tk⟩:=hrel
     have HTq:Hid (Touch (fun _=>False) w2 wr):=HTk.out.trans tk
     have HTr:Hid (Touch (fun _=>False) w3 wr):=tk
     have Q2k:Hid (RG WY.cs 10 45 w1.heap.size wr _ N2):=RG.keepN (RG.keepN Q2.out HTk.out) tk
     clear tk
     by_cases hlq:q<n2
     ·have hlt'':(q:Int)<(n2:Int):=by omega
      have hk00:(0:Int)≤(q:Int):=by omega
      have hkw:wrap64 ((q:Int)+1)=(q:Int)+1:=wrap_up hlq HM2.out
      obtain ⟨y,hy⟩:∃ y,N2[q]?=some y:=⟨N2[q]'(by have:=HN2.out; omega),by simp⟩
      obtain ⟨g2,c2,eg,-,lg,-⟩:=RG.form Q2k.out (by have:=HN2.out; omega)
      rw [HN2.out] at eg
      simp only [Value.slice.injEq,true_and] at eg
      obtain ⟨rfl,rfl⟩:=eg
      have F:=HRR.out.one q y hy
      have hho:=own_touch (HHO.out y (List.mem_of_getElem? hy)) HTq.out (fun _ _ h=>h)
      obtain ⟨ha,hc,ehv⟩:=own_fm hho
      have hl0:¬ y.x.hs.length=0:=fun e=>F.hs (List.eq_nil_of_length_eq_zero e)
      have c4:wr.cell? ⟨g2,q * 10+4,none⟩=some (.int .u8 1):=by rw [← F.kind]; exact RG.cell (i:=q) (d:=4) WY.len Q2k.out hy rfl
      have c5:wr.cell? ⟨g2,q * 10+5,none⟩=some (.int .u32 area):=by rw [← F.area]; exact RG.cell (i:=q) (d:=5) WY.len Q2k.out hy rfl
      have c2':wr.cell? ⟨g2,q * 10+2,none⟩=some (.int .u32 y.x.router):=RG.cell (i:=q) (d:=2) WY.len Q2k.out hy rfl
      have c0:wr.cell? ⟨g2,q * 10,none⟩=some (.int .u32 0):=by
       have h:=RG.cell (i:=q) (d:=0) WY.len Q2k.out hy rfl
       rw [F.p] at h
       exact h
      have c1':wr.cell? ⟨g2,q * 10+1,none⟩=some (.int .u8 0):=by
       have h:=RG.cell (i:=q) (d:=1) WY.len Q2k.out hy rfl
       rw [F.p] at h
       exact h
      have c9:wr.cell? ⟨g2,q * 10+9,none⟩=some (.slice ha y.x.hs.length hc):=by rw [← ehv]; exact RG.cell (i:=q) (d:=9) WY.len Q2k.out hy rfl
      have hr1:=F.nr
      have hr2:=F.n0
      have hTWO:Hid (∀ (j:Nat) (z:WY),q=j+1→N2[j]?=some z→z.x.router<y.x.router):=fun j z e hz=>HRR.out.two j z y hz (by rw [← e]; exact hy)
      clear F hho ehv hy
      generalize y.x.router=r at *
      generalize y.x.hs.length=hl at *
      have hl1:((hl:Int) == 0)=false:=by rw [beq_eq_false_iff_ne]; omega
      have haa:(area != area)=false:=by simp
      have hrr:(r == root)=false:=by rw [beq_eq_false_iff_ne]; exact hr1
      have hrz:(r == 0)=false:=by rw [beq_eq_false_iff_ne]; exact hr2
      rcases Nat.eq_zero_or_pos q with hz | hp
      ·as_aux_lemma =>
       have hp':decide ((0:Int)<(q:Int))=false:=decide_eq_false (by omega)
       have hpn:decide (0<q)=false:=decide_eq_false (by omega)
       clear hz
       go_wp2_with fail
       go_big_quiet (fail)
       go_wp2_with fail
       go_roundw
       case rel=>exact ⟨q+1,by omega,by go_num,HTr.out.drewN _⟩
       case measure=>exact meas_up hlq hkw
      ·obtain ⟨j,hj⟩:∃ j,q=j+1:=⟨q - 1,by omega⟩
       obtain ⟨y0,hy0⟩:∃ y,N2[j]?=some y:=⟨N2[j]'(by have:=HN2.out; omega),by simp⟩
       have hlt0:=hTWO.out j y0 hj hy0
       have hp':decide ((0:Int)<(q:Int))=true:=decide_eq_true (by omega)
       have hj0:(0:Int)≤(j:Int):=by omega
       have hjl:(j:Int)<(n2:Int):=by omega
       have hjw:wrap64 ((q:Int) - 1)=(j:Int):=wrap_dn hj hlq HM2.out
       have d2:wr.cell? ⟨g2,j * 10+2,none⟩=some (.int .u32 y0.x.router):=RG.cell (i:=j) (d:=2) WY.len Q2k.out hy0 rfl
       have HJ:Hid (q=j+1):=hj
       generalize y0.x.router=r0 at *
       clear hy0 hj
       have hge:decide (r≤r0)=false:=decide_eq_false (by omega)
       go_wp2_with fail
       go_big_quiet (fail)
       go_wp2_with fail
       go_roundw
       case rel=>exact ⟨q+1,by omega,by go_num,HTr.out.drewN _⟩
       case measure=>exact meas_up hlq hkw
     ·have hlt'':¬ (q:Int)<(n2:Int):=by omega
      clear HRR Q2 HHO
      go_wp2_with fail
      refine (HW _).mono ?_
      rintro e w4 ⟨rfl,t3⟩
      have T3:Hid _:=t3
      clear t3 HW
      go_wp2_with fail
      go_ret
      exact ⟨rfl,((HT1.out.trans HT2.out).trans HTq.out).trans T3.out⟩
open Go.ChangeShapes Go.WideShapes Go.ChangeAt Go.RowKit
section
variable {H:Type} {enc:TypeId×Value→H} {w:World} {base:Nat} {held:Bool}
theorem flat_cell {sp:Nat→Bool} {fuel:Nat} {t:TypeId} {fs:Array Field} {cs:List Value} {x:DataW H×List MemPlace} (ht:Tryz.prog.underlying t=some (.struct fs)) (h:DataW.trod enc Tryz.prog w base sp held fuel t cs=some x)
  (i:Nat) (f:Field) (hf:fs[i]?=some f) (ho:f.offset=i) (k:IntKind) (hk:Tryz.prog.underlying f.type=some (.int k)) (hc:Tryz.prog.cellsOf f.type=1):∃ n,(cs.drop i).take 1=[.int k n]∧(Lit.int k n).wf=true:=by
 obtain ⟨xs,m,_,_,_,hlen,hall⟩:=DataW.trod_struct ht h
 have hi:i<xs.length:=by
  have:=(Array.getElem?_eq_some_iff.mp hf).1
  omega
 have:=hall i f hf
 rw [ho,hc,List.getElem?_eq_getElem hi] at this
 obtain ⟨n,e,_,wf⟩:=DataW.trod_int hk this
 exact ⟨n,e,wf⟩
theorem open_bytes_c {fuel:Nat} {cs:List Value} {x:DataW H×List MemPlace} (h:DataW.trod enc Tryz.prog w base (fun _=>true) held fuel 55 cs=some x) :
  ∃ a len cap rs,cs=[.slice a len cap]∧rs.length=len∧ArgAt w (.slice a len cap) rs∧∀ z∈rs,0≤z∧z<256:=by
 have hs:∃ a len cap,cs=[.slice a len cap]:=by
  rcases open_ints Tryz.underlying55 Tryz.underlying5 (by kernel_rfl) h with ⟨hcs,_⟩ | ⟨ad,l,c,zs,hcs,_⟩
  ·exact ⟨_,_,_,hcs⟩
  ·exact ⟨_,_,_,hcs⟩
 obtain ⟨a,len,cap,rfl⟩:=hs
 obtain ⟨rs,h1,h2,h3,_⟩:=open_bytes h
 exact ⟨a,len,cap,rs,rfl,h1,h2,h3⟩
theorem field_at {sp:Nat→Bool} {fuel:Nat} {t:TypeId} {fs:Array Field} {cs:List Value} {x:DataW H×List MemPlace} (ht:Tryz.prog.underlying t=some (.struct fs)) (h:DataW.trod enc Tryz.prog w base sp held fuel t cs=some x)
  (i:Nat) (f:Field) (hf:fs[i]?=some f) (o n:Nat) (ho:f.offset=o) (hc:Tryz.prog.cellsOf f.type=n):∃ m y,DataW.trod enc Tryz.prog w base sp held m f.type ((cs.drop o).take n)=some y:=by
 obtain ⟨xs,m,_,_,_,hlen,hall⟩:=DataW.trod_struct ht h
 have hi:i<xs.length:=by
  have:=(Array.getElem?_eq_some_iff.mp hf).1
  omega
 have:=hall i f hf
 rw [ho,hc,List.getElem?_eq_getElem hi] at this
 exact ⟨m,_,this⟩
theorem len_of {sp:Nat→Bool} {fuel:Nat} {t:TypeId} {fs:Array Field} {cs:List Value} {x:DataW H×List MemPlace} (ht:Tryz.prog.underlying t=some (.struct fs)) (h:DataW.trod enc Tryz.prog w base sp held fuel t cs=some x):cs.length=Tryz.prog.cellsOf t:=by
 obtain ⟨xs,m,_,_,hl,_⟩:=DataW.trod_struct ht h
 exact hl
theorem open_state_c {fuel:Nat} {cs:List Value} {x:DataW H×List MemPlace} (h:DataW.trod enc Tryz.prog w base (fun _=>true) held fuel 57 cs=some x):∃ s:SE,cs=s.cells∧s.Ok w:=by
 have hl:=len_of Tryz.underlying57 h
 have hc:Tryz.prog.cellsOf 57=9:=by kernel_rfl
 rw [hc] at hl
 obtain ⟨m0,y0,a0⟩:=field_at Tryz.underlying57 h 0 _ rfl 0 8 rfl (by kernel_rfl)
 obtain ⟨m1,y1,a1⟩:=field_at Tryz.underlying57 h 1 _ rfl 8 1 rfl (by kernel_rfl)
 obtain ⟨ba,bl,bc,rs,eb,hrl,harg,hby⟩:=open_bytes_c a1
 obtain ⟨n0,e0,w0⟩:=flat_cell Tryz.underlying54 a0 0 _ rfl rfl .u16 Tryz.underlying52 (by kernel_rfl)
 obtain ⟨n1,e1,w1⟩:=flat_cell Tryz.underlying54 a0 1 _ rfl rfl .u8 Tryz.underlying5 (by kernel_rfl)
 obtain ⟨n2,e2,w2⟩:=flat_cell Tryz.underlying54 a0 2 _ rfl rfl .u8 Tryz.underlying5 (by kernel_rfl)
 obtain ⟨n3,e3,w3⟩:=flat_cell Tryz.underlying54 a0 3 _ rfl rfl .u32 Tryz.underlying23 (by kernel_rfl)
 obtain ⟨n4,e4,w4⟩:=flat_cell Tryz.underlying54 a0 4 _ rfl rfl .u32 Tryz.underlying23 (by kernel_rfl)
 obtain ⟨n5,e5,w5⟩:=flat_cell Tryz.underlying54 a0 5 _ rfl rfl .i32 Tryz.underlying21 (by kernel_rfl)
 obtain ⟨n6,e6,w6⟩:=flat_cell Tryz.underlying54 a0 6 _ rfl rfl .u16 Tryz.underlying52 (by kernel_rfl)
 obtain ⟨n7,e7,w7⟩:=flat_cell Tryz.underlying54 a0 7 _ rfl rfl .u16 Tryz.underlying52 (by kernel_rfl)
 match cs,hl with
 | [c0,c1,c2,c3,c4,c5,c6,c7,c8],_ =>
  simp only [List.drop,List.take,List.cons.injEq,and_true] at e0 e1 e2 e3 e4 e5 e6 e7 eb
  subst e0 e1 e2 e3 e4 e5 e6 e7 eb
  have b0:=bounds_u16 w0
  have b1:=bounds_u8 w1
  have b2:=bounds_u8 w2
  have b3:=bounds_u32 w3
  have b4:=bounds_u32 w4
  have b5:=bounds_i32 w5
  have b6:=bounds_u16 w6
  have b7:=bounds_u16 w7
  refine ⟨⟨⟨n0,n1,n2,n3,n4,n5,n6,n7⟩,.slice ba bl bc,rs⟩,rfl,⟨⟨?_,?_,?_,?_,?_,?_,?_,?_⟩,harg,hby⟩⟩ <;> (dsimp only; omega)
end
open Go.ChangeShapes Go.WideShapes Go.ChangeAt Go.RowKit
section
variable {H:Type} {enc:TypeId×Value→H} {w:World} {base:Nat} {held:Bool}
def LightG (t:TypeId) (d:DataW H):Prop:=∀ n∈d.weights Tryz.prog t,n≤140737488355328
theorem field_lightG {sp:Nat→Bool} {fuel:Nat} {t:TypeId} {fs:Array Field} {cs:List Value} {x:DataW H×List MemPlace} (ht:Tryz.prog.underlying t=some (.struct fs)) (h:DataW.trod enc Tryz.prog w base sp held fuel t cs=some x) (hL:LightG t x.1)
  (i:Nat) (f:Field) (hf:fs[i]?=some f) (o n:Nat) (ho:f.offset=o) (hc:Tryz.prog.cellsOf f.type=n):∃ m y,DataW.trod enc Tryz.prog w base sp held m f.type ((cs.drop o).take n)=some y∧LightG f.type y.1:=by
 obtain ⟨xs,m,_,hx,_,hlen,hall⟩:=DataW.trod_struct ht h
 have hi:i<xs.length:=by
  have:=(Array.getElem?_eq_some_iff.mp hf).1
  omega
 have h1:=hall i f hf
 rw [ho,hc,List.getElem?_eq_getElem hi] at h1
 refine ⟨m,_,h1,fun n hn=>hL n ?_⟩
 rw [hx]
 simp only [DataW.weights,ht]
 exact DataW.weights_mem_each (j:=i) (t:=f.type) (d:=xs[i].1) (by simp [hf]) (by simp [hi]) n hn
theorem slice_lightG {t e:TypeId} {fuel:Nat} {cs:List Value} {x:DataW H×List MemPlace} (ht:Tryz.prog.underlying t=some (.slice e)) (he:0<Tryz.prog.bytesOf e) (h:DataW.trod enc Tryz.prog w base (fun _=>true) held fuel t cs=some x) (hL:LightG t x.1) :
  ∀ a len cap,cs=[.slice a len cap]→len≤140737488355328:=by
 intro a len cap hcs
 rcases Deep.open_slice ht h with ⟨h0,_⟩ | ⟨ad,l,c,m,n,D,Pl,h0,_,hl,hm,hmm,hx,hel⟩
 ·rw [hcs] at h0
  simp at h0
  omega
 ·rw [hcs] at h0
  simp at h0
  obtain ⟨-,rfl,-⟩:=h0
  have:=hL ((len+(m - len)) * Tryz.prog.bytesOf e) (by rw [hx]; simp [DataW.weights,ht])
  have h2:len * 1≤(len+(m - len)) * Tryz.prog.bytesOf e:=Nat.mul_le_mul (by omega) he
  omega
theorem elem_lightG {t e:TypeId} {l k:Nat} {D:Nat→DataW H} {x:DataW H×List MemPlace} {q:List (DataW H)} {p:List MemPlace} (ht:Tryz.prog.underlying t=some (.slice e)) (hx:x=(.slice ((List.range l).map D) q,p)) (hL:LightG t x.1) (i:Nat) (hi:i<l):LightG e (D i):=by
 intro n hn
 refine hL n ?_
 rw [hx]
 simp only [DataW.weights,ht,List.mem_cons,List.mem_append]
 refine Or.inr (Or.inl ?_)
 have G:∀ (ds:List (DataW H)) (d:DataW H),d∈ds→n∈d.weights Tryz.prog e→n∈DataW.weightsAll Tryz.prog e ds:=by
  intro ds
  induction ds with
  | nil=>intro d hd; cases hd
  | cons a r ih =>
   intro d hd hn
   simp only [DataW.weightsAll,List.mem_append]
   rcases List.mem_cons.mp hd with rfl | hd
   ·exact Or.inl hn
   ·exact Or.inr (ih d hd hn)
 exact G _ (D i) (by simp only [List.mem_map,List.mem_range]; exact ⟨i,hi,rfl⟩) hn
theorem open_stateL {fuel:Nat} {cs:List Value} {x:DataW H×List MemPlace} (h:DataW.trod enc Tryz.prog w base (fun _=>true) held fuel 57 cs=some x) (hL:LightG 57 x.1):∃ s:SE,cs=s.cells∧s.Ok w∧s.rs.length≤140737488355328:=by
 obtain ⟨s,e,ok⟩:=open_state_c h
 obtain ⟨m1,y1,a1,l1⟩:=field_lightG Tryz.underlying57 h hL 1 _ rfl 8 1 rfl (by kernel_rfl)
 obtain ⟨a,c,ev,-⟩:=ok.arg.form
 refine ⟨s,e,ok,slice_lightG Tryz.underlying55 (of_decide_eq_true (by kernel_rfl)) a1 l1 a _ c ?_⟩
 rw [e,← ev]
 rfl
theorem open_statesL {fuel:Nat} {cs:List Value} {x:DataW H×List MemPlace} (h:DataW.trod enc Tryz.prog w base (fun _=>true) held fuel 22 cs=some x) (hL:LightG 22 x.1) :
  ∃ a len cap ls,cs=[.slice a len cap]∧List.length ls=len∧StatesAt w (.slice a len cap) ls∧(∀ y∈ls,SE.Ok w y∧y.rs.length≤140737488355328)∧len≤140737488355328:=by
 have hcl:Tryz.prog.cellsOf 57=9:=by kernel_rfl
 have hz:=slice_lightG Tryz.underlying22 (of_decide_eq_true (by kernel_rfl)) h hL
 rcases Deep.open_slice Tryz.underlying22 h with ⟨hcs,_⟩ | ⟨ad,l,c,m,n,D,Pl,hcs,_,hl,hm,hmm,hx,hel⟩
 ·exact ⟨none,0,0,[],hcs,rfl,⟨⟨rfl,Or.inl ⟨rfl,rfl⟩⟩,by simp⟩,(by simp),by omega⟩
 ·simp at hmm
  subst hmm
  have each:∀ i,i<l→∃ s:SE,(s.Ok w∧s.rs.length≤140737488355328)∧∀ r u,s.cells[r]?=some u→w.cell? (ad.add (i * 9+r))=some u:=by
   intro i hi
   obtain ⟨cs',h1,h2⟩:=hel i (by omega)
   rw [hcl] at h1
   obtain ⟨_,hlen,hcell⟩:=World.cells?_some h1
   obtain ⟨s,rfl,ok,sl⟩:=open_stateL h2 (elem_lightG (k:=0) Tryz.underlying22 hx hL i hi)
   refine ⟨s,⟨ok,sl⟩,fun r u hu=>?_⟩
   have hr:r<9:=(List.getElem?_eq_some_iff.mp hu).1
   have q:=hcell r (by omega)
   rw [Deep.add_add] at q
   rw [q]
   exact hu
  haveI:Inhabited SE:=⟨⟨HV.zero,.slice none 0 0,[]⟩⟩
  obtain ⟨f,hf⟩:=Deep.choose_lt each
  have hok:∀ y∈(List.range l).map f,SE.Ok w y∧y.rs.length≤140737488355328:=by
   intro x hx
   simp only [List.mem_map,List.mem_range] at hx
   obtain ⟨i,hi,rfl⟩:=hx
   exact (hf i hi).1
  refine ⟨some ad,l,_,(List.range l).map f,hcs,by simp,⟨⟨by simp [length_statesC],Or.inr ⟨ad,_,by rw [List.length_map,List.length_range],by rw [List.length_map,List.length_range]; exact hl,hm,fun j u hj=>?_⟩⟩,fun x hx=>(hok x hx).1⟩,hok,hz _ _ _ hcs⟩
  have hjl:=(List.getElem?_eq_some_iff.mp hj).1
  rw [length_statesC,List.length_map,List.length_range] at hjl
  have hi:j / 9<l:=by omega
  have e:=statesC_at ((List.range l).map f) (j / 9) (j % 9) (f (j / 9)) (by simp [hi]) (Nat.mod_lt _ (by omega))
  have hdm:j / 9 * 9+j % 9=j:=by omega
  rw [hdm] at e
  rw [e] at hj
  have:=(hf (j / 9) hi).2 (j % 9) u hj
  rwa [hdm] at this
theorem open_statesG {a:Option Addr} {len cap:Nat} {d:DataW H} {p:List MemPlace} (hd:DataW.Trod enc Tryz.prog w base (fun _=>true) held 22 (.slice a len cap) d p) (hL:LightG 22 d) :
  ∃ ls:List SE,StatesAt w (.slice a len cap) ls∧(∀ y∈ls,y.rs.length≤140737488355328)∧ls.length≤140737488355328:=by
 obtain ⟨fuel,hf⟩:=hd
 have h:DataW.trod enc Tryz.prog w base (fun _=>true) held fuel 22 [.slice a len cap]=some (d,p):=by simpa [Value.cells] using hf
 obtain ⟨a',len',cap',ls,e,h1,h2,h3,h4⟩:=open_statesL h hL
 simp at e
 obtain ⟨rfl,rfl,rfl⟩:=e
 exact ⟨ls,h2,fun y hy=>(h3 y hy).2,by omega⟩
end
end Go.Proofs.YtddbffoiadmffaaGreat
