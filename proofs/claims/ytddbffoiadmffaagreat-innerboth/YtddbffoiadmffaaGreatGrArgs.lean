import Derived.Test.YtddbffoiadmffaaGreatTrMath
import Derived.Test.YtddbffoiadmffaaGreatInCast
import Derived.Deep.QuietTactic
import Derived.BigQuiet
import Derived.Test.YtddbffoiadmffaaGreatOwnUn
import Derived.ProofKit
import Derived.OpenShut
import Derived.ChangeOld
import Derived.Deep.Slices
import Derived.Deep.Matrix
import Derived.SizedLaws
namespace Go.Proofs.YtddbffoiadmffaaGreat
open Go.RowKit
set_option linter.unusedVariables false
set_option maxRecDepth 100000
structure RtK (l:List SE) (root area:Int) (N:List WY):Prop where
 out:∃ (P:List SV) (z:Int) (n:Nat) (R:Nat→RV),IsN l P∧(∀ x∈P,SVK 8192 x)∧FrK P root n z R∧N.map (·.x)=rtrsK (grB P) R area z n
structure RtP (w:World) (l:List SE) (root area:Int) (e:Ending) (w':World):Prop where
 out:∃ (v1 v2:Value) (N:List WY),e=.returned (.tuple #[v1,v2])∧Touch (fun _=>False) w w'∧RG WY.cs 10 45 w.heap.size w' v2 N∧RtK l root area N
theorem rt_one (v:Value) (l:List SE) (area root:Int) (w:World) (hv:StatesAt w v l) (hl:l.length≤40) (hb:∀ x∈l,x.rs.length≤8192) :
  Calls Tryz.prog 11 #[v,.int .u32 area,.int .u32 root] w (RtP w l root area):=by
 have HSK:∀ P,IsN l P→∀ x∈P,SVK 8192 x:=fun P h=>isN_svk h (by omega) (fun s hs=>⟨(hv.ok s hs).all,(hv.ok s hs).byte,hb s hs⟩)
 refine (routes_any v l area root w hv hl hb).mono ?_
 rintro e w2 ⟨P,n,z,R,H,v1,v2,N1,N2,Ls,rfl,hN,fk,hw1,hw2,-,hpl,hm1,hm2⟩
 exact ⟨v1,v2,N2,rfl,hw2.b.t,hw2.b.1,⟨P,z,n,R,hN,HSK P hN,fk,hm2⟩⟩
structure CpP (w:World) (l:List SE) (e:Ending) (w':World):Prop where
 out:∃ (u:Value) (l':List SE),e=.returned u∧Touch (fun _=>False) w w'∧l'.map SE.pr=l.map SE.pr∧StatesAt w' u l'∧l'.length≤40∧∀ x∈l',x.rs.length≤8192
theorem cp_one (v:Value) (l:List SE) (w:World) (hv:StatesAt w v l) (hl:l.length≤40) (hb:∀ x∈l,x.rs.length≤8192):Calls Tryz.prog 20 #[v] w (CpP w l):=by
 refine (gcstates v l w hv (by omega) (fun x hx=>Nat.le_trans (hb x hx) (by omega))).mono ?_
 rintro e w1 ⟨u,rfl,t1,l',hp,ho,hbo⟩
 have hA:=copied_at hv.ok hp ho hbo
 have hln:l'.length=l.length:=by have:=congrArg List.length hp; simpa using this
 refine ⟨u,l',rfl,t1,hp,hA,by omega,fun x hx=>?_⟩
 have:x.pr∈l.map SE.pr:=by rw [← hp]; exact List.mem_map.2 ⟨x,hx,rfl⟩
 obtain ⟨y,hy,e⟩:=List.mem_map.1 this
 have e2:y.rs=x.rs:=congrArg Prod.snd e
 rw [← e2]
 exact hb y hy
theorem both_k {l l':List SE} (h:l.map SE.pr=l'.map SE.pr) (hl:l.length≤40) {a b:Int} {A B:List WY} (ha:RtK l a 0 A) (hb:RtK l' b 0 B):Both a b A B:=by
 obtain ⟨P,z1,n1,R1,hN,hk,fa,hA⟩:=ha.out
 obtain ⟨P',z2,n2,R2,hN',hk',fb,hB⟩:=hb.out
 obtain rfl:=isN_same h hN hN'
 exact both_of hN hl hk fa fb hA hB
structure AtK (A:List WY) (b:Int) (s:Value):Prop where
 out:s=.int .i64 (-1)∨∃ (t:Nat) (x:WY),A[t]?=some x∧x.x.router=b∧s=.int .i64 t
theorem gt_no {x y z:Int} (h:z≤x+y):decide (x+y<z)=false:=decide_eq_false (by omega)
theorem u64_one {x:Int} (h:0≤x∧x≤4294967295):IntKind.u64.wrap x=x:=IntWalk.u64_in _ (by omega)
theorem u64_two {x y:Int} (h:0≤x∧x≤4294967295) (h':0≤y∧y≤4294967295):IntKind.u64.wrap (x+y)=x+y:=IntWalk.u64_in _ (by omega)
theorem any_step2 {α:Type} (f:α→Bool) {l:List α} {k:Nat} {a:α} (h:l[k]?=some a):(l.take (k+1)).any f=((l.take k).any f || f a):=by
 rw [List.take_add_one,h,List.any_append]
 simp
set_option maxHeartbeats 8000000 in
theorem both18 (v:Value) (a b:Int) (l:List SE) (w:World) (hv:StatesAt w v l) (hb:∀ x∈l,x.rs.length≤140737488355328) (hl:l.length≤140737488355328) :
  Calls Tryz.prog 6 #[v,.int .u32 a,.int .u32 b] w fun e w'=>e=.returned (.bool true)∧Touch (fun _=>False) w w':=by
 have HH:=heavy18 v l w hv hl hb
 have HW:=works18
 have HV:Hid (StatesAt w v l):=hv
 obtain ⟨va,vc,rfl,-⟩:=ValsAt.form hv.vals
 clear hv hb hl
 go_enter Tryz.func6,Tryz.ntmps6
 go_wp2_with fail
 refine HH.mono ?_
 rintro e w1 ⟨bb,rfl,hbb,rfl⟩
 cases bb with
 | true =>
  clear HH hbb
  go_wp2_with fail
  refine (HW _).mono ?_
  rintro e w1 ⟨rfl,t1⟩
  have T1:Hid _:=t1
  clear t1 HW
  go_wp2_with fail
  go_ret
  exact ⟨rfl,T1.out⟩
 | false =>
  obtain ⟨hl40,hb8⟩:=hbb rfl
  have HC2:Hid (∀ w',Touch (fun _=>False) w w'→Calls Tryz.prog 20 #[.slice va l.length vc] w' (CpP w' l)):=fun w' t=>cp_one _ l w' (HV.out.keep t) hl40 hb8
  have HL40:Hid (l.length≤40):=hl40
  have HC:=HC2.out w (Touch.refl _ _)
  clear HH hbb hb8 hl40
  go_wp2_with fail
  refine HC.mono ?_
  rintro e w1 ⟨u,l1,rfl,t1,hp1,hs1,hn1,hb1⟩
  have HB:=rt_one u l1 0 a w1 hs1 hn1 hb1
  obtain ⟨ua,uc,rfl,-⟩:=ValsAt.form hs1.vals
  have HT1:Hid (Touch (fun _=>False) w w1):=t1
  have HP1:Hid (l1.map SE.pr=l.map SE.pr):=hp1
  have HN1:Hid (l1.length≤40):=hn1
  clear hs1 hn1 hb1 t1 hp1 HC
  generalize l1.length=n' at *
  go_wp2_with fail
  refine HB.mono ?_
  rintro e w2 ⟨x1,x2,A,rfl,t2,qa,ka⟩
  have HT2:Hid (Touch (fun _=>False) w w2):=HT1.out.trans t2
  have HC:=HC2.out w2 HT2.out
  have QA:Hid (RG WY.cs 10 45 w1.heap.size w2 x2 A):=qa
  have HMA:Hid (A.length≤maxLen):=by obtain ⟨_,_,_,h⟩:=ValsAt.form (own_vals qa); exact h
  have KA:Hid (RtK l1 a 0 A):=ka
  obtain ⟨aa,ac,rfl⟩:=RG.shape qa
  clear t2 HB ka qa
  generalize hnA:A.length=n1 at *
  have HNA:Hid (A.length=n1):=hnA
  clear hnA
  go_wp2_with fail
  refine HC.mono ?_
  rintro e w3 ⟨u2,l2,rfl,t3,hp2,hs2,hn2,hb2⟩
  have HB:=rt_one u2 l2 0 b w3 hs2 hn2 hb2
  obtain ⟨ub,ud,rfl,-⟩:=ValsAt.form hs2.vals
  have HT3:Hid (Touch (fun _=>False) w2 w3):=t3
  have HP2:Hid (l2.map SE.pr=l.map SE.pr):=hp2
  clear hs2 hn2 hb2 t3 hp2 HC HC2 HV
  generalize l2.length=n'' at *
  go_wp2_with fail
  refine HB.mono ?_
  rintro e w4 ⟨y1,y2,B,rfl,t4,qb,kb⟩
  have HBO:Hid (Both a b A B):=both_k (HP1.out.trans HP2.out.symm) (by have:=congrArg List.length HP1.out; have:=HL40.out; simp only [List.length_map] at *; omega) KA.out kb
  have HT4:Hid (Touch (fun _=>False) w w4):=HT2.out.trans (HT3.out.trans t4)
  have QA4:Hid (RG WY.cs 10 45 w1.heap.size w4 (.slice aa n1 ac) A):=RG.keepN QA.out (HT3.out.trans t4)
  have QB4:Hid (RG WY.cs 10 45 w3.heap.size w4 y2 B):=qb
  have HMB:Hid (B.length≤maxLen):=by obtain ⟨_,_,_,h⟩:=ValsAt.form (own_vals qb); exact h
  obtain ⟨ba,bc,rfl⟩:=RG.shape qb
  clear t4 HB kb qb QA KA HP1 HP2 HL40 HT3
  generalize hnB:B.length=n2 at *
  have HNB:Hid (B.length=n2):=hnB
  clear hnB
  go_wp2_with fail
  go_loopw [11,12] (fun s11 s12 wr=>∃ k:Nat,k≤n1∧s12=.int .i64 k∧AtK A b s11∧wr=w4) (fun _ s12 _=>n1 - (intOf s12).toNat)
  case atStart=>exact ⟨0,Nat.zero_le _,rfl,⟨Or.inl rfl⟩,rfl⟩
  case round =>
   obtain ⟨k,hk',rfl,hat,rfl⟩:=hrel
   by_cases hlt:k<n1
   ·as_aux_lemma =>
    have HAT:Hid _:=hat
    have hlt':(k:Int)<(n1:Int):=lt_cast hlt
    have hk00:(0:Int)≤(k:Int):=nn_cast _
    have hkw:wrap64 ((k:Int)+1)=(k:Int)+1:=wrap_up hlt HMA.out
    obtain ⟨x,hx⟩:∃ x,A[k]?=some x:=get_lt HNA.out hlt
    obtain ⟨g1,c1,eg,-,lg,-⟩:=RG.form QA4.out (pos_len HNA.out hlt)
    rw [HNA.out] at eg
    simp only [Value.slice.injEq,true_and] at eg
    obtain ⟨rfl,rfl⟩:=eg
    have c2:wr.cell? ⟨g1,k * 10+2,none⟩=some (.int .u32 x.x.router):=RG.cell (i:=k) (d:=2) WY.len QA4.out hx rfl
    have HX:Hid (A[k]?=some x):=hx
    clear hx hat
    by_cases hr:x.x.router=b
    ·have hrb:(x.x.router == b)=true:=by rw [beq_iff_eq]; exact hr
     have HR:Hid (x.x.router=b):=hr
     clear hr
     go_wp2_with fail
     go_roundw
     case rel=>exact ⟨k+1,hlt,by first | exact num_up hkw | exact num_up rfl,⟨Or.inr ⟨k,x,HX.out,HR.out,rfl⟩⟩,by first | rfl | trivial⟩
     case measure=>exact meas_up hlt hkw
    ·have hrb:(x.x.router == b)=false:=by rw [beq_eq_false_iff_ne]; exact hr
     clear hr
     go_wp2_with fail
     go_roundw
     case rel=>exact ⟨k+1,hlt,by first | exact num_up hkw | exact num_up rfl,HAT.out,by first | rfl | trivial⟩
     case measure=>exact meas_up hlt hkw
   ·have hlt':¬ (k:Int)<(n1:Int):=ge_cast hlt
    rcases hat.out with rfl | ⟨t,x,hx,hxb,rfl⟩
    ·as_aux_lemma =>
     clear hat
     go_wp2_with fail
     refine (HW _).mono ?_
     rintro e w5 ⟨rfl,t5⟩
     have T5:Hid _:=t5
     clear t5 HW
     go_wp2_with fail
     go_ret
     exact ⟨rfl,HT4.out.trans T5.out⟩
    ·as_aux_lemma =>
     have htn:t<n1:=lt_len HNA.out hx
     have ht0:¬ ((t:Int)<0):=nl_cast _
     have ht00:(0:Int)≤(t:Int):=nn_cast _
     have htl:(t:Int)<(n1:Int):=lt_cast htn
     have HX:Hid (A[t]?=some x):=hx
     have HXB:Hid (x.x.router=b):=hxb
     clear hat hx hxb hlt hk'
     generalize wr=w4 at *
     go_wp2_with fail
     go_loopg [13,14,15] n2 (fun gg s13 _ _ wr=>∃ i:Nat,i≤n2∧n2 - i≤gg∧s13=.int .i64 i∧Touch (fun _=>False) w4 wr)
     case atStart=>exact ⟨0,Nat.zero_le _,Nat.le_refl _,rfl,Touch.refl _ _⟩
     case round =>
      obtain ⟨i,hi,hg,rfl,ti⟩:=hrel
      have HTi:Hid (Touch (fun _=>False) w4 wr):=ti
      clear ti
      by_cases hli:i<n2
      ·have hli':(i:Int)<(n2:Int):=lt_cast hli
       have hi00:(0:Int)≤(i:Int):=nn_cast _
       have hiw:wrap64 ((i:Int)+1)=(i:Int)+1:=wrap_up hli HMB.out
       obtain ⟨y,hy⟩:∃ y,B[i]?=some y:=get_lt HNB.out hli
       obtain ⟨g2,c2,eg,-,lg,-⟩:=RG.form QB4.out (pos_len HNB.out hli)
       rw [HNB.out] at eg
       simp only [Value.slice.injEq,true_and] at eg
       obtain ⟨rfl,rfl⟩:=eg
       have HY2:Hid (∀ w',Touch (fun _=>False) w4 w'→w'.cell? ⟨g2,i * 10+2,none⟩=some (.int .u32 y.x.router)∧w'.cell? ⟨g2,i * 10+6,none⟩=some (.int .u32 y.x.cost)):=fun w' t=>⟨RG.cell (i:=i) (d:=2) WY.len (RG.keepN QB4.out t) hy rfl,RG.cell (i:=i) (d:=6) WY.len (RG.keepN QB4.out t) hy rfl⟩
       have b2:=(HY2.out wr HTi.out).1
       have HY:Hid (B[i]?=some y):=hy
       clear hy
       by_cases hya:y.x.router=a
       ·as_aux_lemma =>
        have hyb:(y.x.router == a)=true:=by rw [beq_iff_eq]; exact hya
        clear hya
        go_wp2_with fail
        go_roundg (n2 - (i+1))
        case measure=>exact meas_g hli hg
        case rel=>exact ⟨i+1,hli,Nat.le_refl _,by first | exact num_up hiw | exact num_up rfl,HTi.out⟩
       ·have hyb:(y.x.router == a)=false:=by rw [beq_eq_false_iff_ne]; exact hya
        have HO:=HBO.out.out t x HX.out HXB.out i y HY.out hya
        have HLE:Hid (∀ (k:Nat) (z:WY),A[k]?=some z→z.x.router=y.x.router→z.x.cost≤x.x.cost+y.x.cost):=HO.1
        have HEX:Hid (A.any (fun z=>z.x.router == y.x.router)=true):=by
         obtain ⟨k,z,hz,e⟩:=HO.2
         exact List.any_eq_true.2 ⟨z,List.mem_of_getElem? hz,by rw [beq_iff_eq]; exact e⟩
        have cy:=HBO.out.cb i y HY.out
        have cx:=HBO.out.ca t x HX.out
        obtain ⟨g1,c1,eg,-,lg1,-⟩:=RG.form QA4.out (pos_len HNA.out htn)
        rw [HNA.out] at eg
        simp only [Value.slice.injEq,true_and] at eg
        obtain ⟨rfl,rfl⟩:=eg
        have HXC:Hid (∀ w',Touch (fun _=>False) w4 w'→w'.cell? ⟨g1,t * 10+6,none⟩=some (.int .u32 x.x.cost)):=fun w' tt=>RG.cell (i:=t) (d:=6) WY.len (RG.keepN QA4.out tt) HX.out rfl
        have hadd:IntKind.u64.wrap (x.x.cost+y.x.cost)=x.x.cost+y.x.cost:=u64_two cx cy
        have cx0:IntKind.u64.wrap x.x.cost=x.x.cost:=u64_one cx
        have cy0:IntKind.u64.wrap y.x.cost=y.x.cost:=u64_one cy
        clear hya HO HY HX HXB
        generalize y.x.router=yr at *
        generalize y.x.cost=yc at *
        generalize x.x.cost=xc at *
        go_wp2_with fail
        go_loopw [14,15] (fun s14 s15 wr=>∃ k:Nat,k≤n1∧s15=.int .i64 k∧s14=.bool ((A.take k).any (fun z=>z.x.router == yr))∧Touch (fun _=>False) w4 wr) (fun _ s15 _=>n1 - (intOf s15).toNat)
        case atStart=>exact ⟨0,Nat.zero_le _,rfl,rfl,HTi.out⟩
        case round =>
         obtain ⟨k,hk,rfl,rfl,tk⟩:=hrel
         have HTk:Hid (Touch (fun _=>False) w4 wr):=tk
         by_cases hlk:k<n1
         ·have hlk':(k:Int)<(n1:Int):=lt_cast hlk
          have hk00:(0:Int)≤(k:Int):=nn_cast _
          have hkw:wrap64 ((k:Int)+1)=(k:Int)+1:=wrap_up hlk HMA.out
          obtain ⟨z,hz⟩:∃ z,A[k]?=some z:=get_lt HNA.out hlk
          have z2:wr.cell? ⟨g1,k * 10+2,none⟩=some (.int .u32 z.x.router):=RG.cell (i:=k) (d:=2) WY.len (RG.keepN QA4.out tk) hz rfl
          have z6:wr.cell? ⟨g1,k * 10+6,none⟩=some (.int .u32 z.x.cost):=RG.cell (i:=k) (d:=6) WY.len (RG.keepN QA4.out tk) hz rfl
          have x6:=HXC.out wr tk
          obtain ⟨y2,y6⟩:=HY2.out wr tk
          have hany:=any_step2 (fun z:WY=>z.x.router == yr) hz
          have cz:=HBO.out.ca k z hz
          have cz0:IntKind.u64.wrap z.x.cost=z.x.cost:=u64_one cz
          by_cases hzr:z.x.router=yr
          ·as_aux_lemma =>
           have hle:=HLE.out k z hz hzr
           have hzb:(z.x.router == yr)=true:=by rw [beq_iff_eq]; exact hzr
           have HAN:Hid ((A.take (k+1)).any (fun z=>z.x.router == yr)=true):=by show _=_; rw [hany]; simp [hzb]
           have hgt:decide (xc+yc<z.x.cost)=false:=gt_no hle
           clear hany hle hz tk
           generalize (A.take k).any (fun z=>z.x.router == yr)=F0 at *
           go_wp2_with fail
           go_big_quiet (fail)
           go_wp2_with fail
           go_big_quiet (fail)
           go_wp2_with fail
           go_roundw
           case rel=>exact ⟨k+1,hlk,by first | exact num_up hkw | exact num_up rfl,by rw [HAN.out],HTk.out.drewN _⟩
           case measure=>exact meas_up hlk hkw
          ·as_aux_lemma =>
           have hzb:(z.x.router == yr)=false:=by rw [beq_eq_false_iff_ne]; exact hzr
           have HAN:Hid ((A.take (k+1)).any (fun z=>z.x.router == yr)=(A.take k).any (fun z=>z.x.router == yr)):=by show _=_; rw [hany]; simp [hzb]
           clear hany hz tk
           generalize (A.take k).any (fun z=>z.x.router == yr)=F0 at *
           go_wp2_with fail
           go_big_quiet (fail)
           go_wp2_with fail
           go_roundw
           case rel=>exact ⟨k+1,hlk,by first | exact num_up hkw | exact num_up rfl,by rw [HAN.out],HTk.out.drewN _⟩
           case measure=>exact meas_up hlk hkw
         ·have hlk':¬ (k:Int)<(n1:Int):=ge_cast hlk
          have hfn:(A.take k).any (fun z=>z.x.router == yr)=true:=by
           rw [take_all HNA.out hlk]
           exact HEX.out
          rw [hfn]
          clear tk
          as_aux_lemma =>
          go_wp2_with fail
          go_big_quiet (fail)
          go_wp2_with fail
          go_roundg (n2 - (i+1))
          case measure=>exact meas_g hli hg
          case rel=>exact ⟨i+1,hli,Nat.le_refl _,by first | exact num_up hiw | exact num_up rfl,HTk.out.drewN _⟩
      ·have hli':¬ (i:Int)<(n2:Int):=ge_cast hli
       as_aux_lemma =>
       go_wp2_with fail
       refine (HW _).mono ?_
       rintro e w5 ⟨rfl,t5⟩
       have T5:Hid _:=t5
       clear t5 HW
       go_wp2_with fail
       go_ret
       exact ⟨rfl,HT4.out.trans (HTi.out.trans T5.out)⟩
open Go.ChangeShapes Go.WideShapes Go.ChangeAt Go.RowKit
section
variable {H:Type} {enc:TypeId×Value→H} {w:World} {base:Nat} {held:Bool}
theorem flat_cell {sp:Nat→Bool} {fuel:Nat} {t:TypeId} {fs:Array Field} {cs:List Value} {x:DataW H×List MemPlace} (ht:Tryz.prog.underlying t=some (.struct fs)) (h:DataW.trod enc Tryz.prog w base sp held fuel t cs=some x)
  (i:Nat) (f:Field) (hf:fs[i]?=some f) (ho:f.offset=i) (k:IntKind) (hk:Tryz.prog.underlying f.type=some (.int k)) (hc:Tryz.prog.cellsOf f.type=1):∃ n,(cs.drop i).take 1=[.int k n]∧(Lit.int k n).wf=true:=by
 obtain ⟨xs,m,_,_,_,hlen,hall⟩:=DataW.trod_struct ht h
 have hi:i<xs.length:=by
  have:=(Array.getElem?_eq_some_iff.mp hf).1
  omega
 have:=hall i f hf
 rw [ho,hc,List.getElem?_eq_getElem hi] at this
 obtain ⟨n,e,_,wf⟩:=DataW.trod_int hk this
 exact ⟨n,e,wf⟩
theorem open_bytes_c {fuel:Nat} {cs:List Value} {x:DataW H×List MemPlace} (h:DataW.trod enc Tryz.prog w base (fun _=>true) held fuel 55 cs=some x) :
  ∃ a len cap rs,cs=[.slice a len cap]∧rs.length=len∧ArgAt w (.slice a len cap) rs∧∀ z∈rs,0≤z∧z<256:=by
 have hs:∃ a len cap,cs=[.slice a len cap]:=by
  rcases open_ints Tryz.underlying55 Tryz.underlying5 (by kernel_rfl) h with ⟨hcs,_⟩ | ⟨ad,l,c,zs,hcs,_⟩
  ·exact ⟨_,_,_,hcs⟩
  ·exact ⟨_,_,_,hcs⟩
 obtain ⟨a,len,cap,rfl⟩:=hs
 obtain ⟨rs,h1,h2,h3,_⟩:=open_bytes h
 exact ⟨a,len,cap,rs,rfl,h1,h2,h3⟩
theorem field_at {sp:Nat→Bool} {fuel:Nat} {t:TypeId} {fs:Array Field} {cs:List Value} {x:DataW H×List MemPlace} (ht:Tryz.prog.underlying t=some (.struct fs)) (h:DataW.trod enc Tryz.prog w base sp held fuel t cs=some x)
  (i:Nat) (f:Field) (hf:fs[i]?=some f) (o n:Nat) (ho:f.offset=o) (hc:Tryz.prog.cellsOf f.type=n):∃ m y,DataW.trod enc Tryz.prog w base sp held m f.type ((cs.drop o).take n)=some y:=by
 obtain ⟨xs,m,_,_,_,hlen,hall⟩:=DataW.trod_struct ht h
 have hi:i<xs.length:=by
  have:=(Array.getElem?_eq_some_iff.mp hf).1
  omega
 have:=hall i f hf
 rw [ho,hc,List.getElem?_eq_getElem hi] at this
 exact ⟨m,_,this⟩
theorem len_of {sp:Nat→Bool} {fuel:Nat} {t:TypeId} {fs:Array Field} {cs:List Value} {x:DataW H×List MemPlace} (ht:Tryz.prog.underlying t=some (.struct fs)) (h:DataW.trod enc Tryz.prog w base sp held fuel t cs=some x):cs.length=Tryz.prog.cellsOf t:=by
 obtain ⟨xs,m,_,_,hl,_⟩:=DataW.trod_struct ht h
 exact hl
theorem open_state_c {fuel:Nat} {cs:List Value} {x:DataW H×List MemPlace} (h:DataW.trod enc Tryz.prog w base (fun _=>true) held fuel 57 cs=some x):∃ s:SE,cs=s.cells∧s.Ok w:=by
 have hl:=len_of Tryz.underlying57 h
 have hc:Tryz.prog.cellsOf 57=9:=by kernel_rfl
 rw [hc] at hl
 obtain ⟨m0,y0,a0⟩:=field_at Tryz.underlying57 h 0 _ rfl 0 8 rfl (by kernel_rfl)
 obtain ⟨m1,y1,a1⟩:=field_at Tryz.underlying57 h 1 _ rfl 8 1 rfl (by kernel_rfl)
 obtain ⟨ba,bl,bc,rs,eb,hrl,harg,hby⟩:=open_bytes_c a1
 obtain ⟨n0,e0,w0⟩:=flat_cell Tryz.underlying54 a0 0 _ rfl rfl .u16 Tryz.underlying52 (by kernel_rfl)
 obtain ⟨n1,e1,w1⟩:=flat_cell Tryz.underlying54 a0 1 _ rfl rfl .u8 Tryz.underlying5 (by kernel_rfl)
 obtain ⟨n2,e2,w2⟩:=flat_cell Tryz.underlying54 a0 2 _ rfl rfl .u8 Tryz.underlying5 (by kernel_rfl)
 obtain ⟨n3,e3,w3⟩:=flat_cell Tryz.underlying54 a0 3 _ rfl rfl .u32 Tryz.underlying23 (by kernel_rfl)
 obtain ⟨n4,e4,w4⟩:=flat_cell Tryz.underlying54 a0 4 _ rfl rfl .u32 Tryz.underlying23 (by kernel_rfl)
 obtain ⟨n5,e5,w5⟩:=flat_cell Tryz.underlying54 a0 5 _ rfl rfl .i32 Tryz.underlying21 (by kernel_rfl)
 obtain ⟨n6,e6,w6⟩:=flat_cell Tryz.underlying54 a0 6 _ rfl rfl .u16 Tryz.underlying52 (by kernel_rfl)
 obtain ⟨n7,e7,w7⟩:=flat_cell Tryz.underlying54 a0 7 _ rfl rfl .u16 Tryz.underlying52 (by kernel_rfl)
 match cs,hl with
 | [c0,c1,c2,c3,c4,c5,c6,c7,c8],_ =>
  simp only [List.drop,List.take,List.cons.injEq,and_true] at e0 e1 e2 e3 e4 e5 e6 e7 eb
  subst e0 e1 e2 e3 e4 e5 e6 e7 eb
  have b0:=bounds_u16 w0
  have b1:=bounds_u8 w1
  have b2:=bounds_u8 w2
  have b3:=bounds_u32 w3
  have b4:=bounds_u32 w4
  have b5:=bounds_i32 w5
  have b6:=bounds_u16 w6
  have b7:=bounds_u16 w7
  refine ⟨⟨⟨n0,n1,n2,n3,n4,n5,n6,n7⟩,.slice ba bl bc,rs⟩,rfl,⟨⟨?_,?_,?_,?_,?_,?_,?_,?_⟩,harg,hby⟩⟩ <;> (dsimp only; omega)
end
open Go.ChangeShapes Go.WideShapes Go.ChangeAt Go.RowKit
section
variable {H:Type} {enc:TypeId×Value→H} {w:World} {base:Nat} {held:Bool}
def LightG (t:TypeId) (d:DataW H):Prop:=∀ n∈d.weights Tryz.prog t,n≤140737488355328
theorem field_lightG {sp:Nat→Bool} {fuel:Nat} {t:TypeId} {fs:Array Field} {cs:List Value} {x:DataW H×List MemPlace} (ht:Tryz.prog.underlying t=some (.struct fs)) (h:DataW.trod enc Tryz.prog w base sp held fuel t cs=some x) (hL:LightG t x.1)
  (i:Nat) (f:Field) (hf:fs[i]?=some f) (o n:Nat) (ho:f.offset=o) (hc:Tryz.prog.cellsOf f.type=n):∃ m y,DataW.trod enc Tryz.prog w base sp held m f.type ((cs.drop o).take n)=some y∧LightG f.type y.1:=by
 obtain ⟨xs,m,_,hx,_,hlen,hall⟩:=DataW.trod_struct ht h
 have hi:i<xs.length:=by
  have:=(Array.getElem?_eq_some_iff.mp hf).1
  omega
 have h1:=hall i f hf
 rw [ho,hc,List.getElem?_eq_getElem hi] at h1
 refine ⟨m,_,h1,fun n hn=>hL n ?_⟩
 rw [hx]
 simp only [DataW.weights,ht]
 exact DataW.weights_mem_each (j:=i) (t:=f.type) (d:=xs[i].1) (by simp [hf]) (by simp [hi]) n hn
theorem slice_lightG {t e:TypeId} {fuel:Nat} {cs:List Value} {x:DataW H×List MemPlace} (ht:Tryz.prog.underlying t=some (.slice e)) (he:0<Tryz.prog.bytesOf e) (h:DataW.trod enc Tryz.prog w base (fun _=>true) held fuel t cs=some x) (hL:LightG t x.1) :
  ∀ a len cap,cs=[.slice a len cap]→len≤140737488355328:=by
 intro a len cap hcs
 rcases Deep.open_slice ht h with ⟨h0,_⟩ | ⟨ad,l,c,m,n,D,Pl,h0,_,hl,hm,hmm,hx,hel⟩
 ·rw [hcs] at h0
  simp at h0
  omega
 ·rw [hcs] at h0
  simp at h0
  obtain ⟨-,rfl,-⟩:=h0
  have:=hL ((len+(m - len)) * Tryz.prog.bytesOf e) (by rw [hx]; simp [DataW.weights,ht])
  have h2:len * 1≤(len+(m - len)) * Tryz.prog.bytesOf e:=Nat.mul_le_mul (by omega) he
  omega
theorem elem_lightG {t e:TypeId} {l k:Nat} {D:Nat→DataW H} {x:DataW H×List MemPlace} {q:List (DataW H)} {p:List MemPlace} (ht:Tryz.prog.underlying t=some (.slice e)) (hx:x=(.slice ((List.range l).map D) q,p)) (hL:LightG t x.1) (i:Nat) (hi:i<l):LightG e (D i):=by
 intro n hn
 refine hL n ?_
 rw [hx]
 simp only [DataW.weights,ht,List.mem_cons,List.mem_append]
 refine Or.inr (Or.inl ?_)
 have G:∀ (ds:List (DataW H)) (d:DataW H),d∈ds→n∈d.weights Tryz.prog e→n∈DataW.weightsAll Tryz.prog e ds:=by
  intro ds
  induction ds with
  | nil=>intro d hd; cases hd
  | cons a r ih =>
   intro d hd hn
   simp only [DataW.weightsAll,List.mem_append]
   rcases List.mem_cons.mp hd with rfl | hd
   ·exact Or.inl hn
   ·exact Or.inr (ih d hd hn)
 exact G _ (D i) (by simp only [List.mem_map,List.mem_range]; exact ⟨i,hi,rfl⟩) hn
theorem open_stateL {fuel:Nat} {cs:List Value} {x:DataW H×List MemPlace} (h:DataW.trod enc Tryz.prog w base (fun _=>true) held fuel 57 cs=some x) (hL:LightG 57 x.1):∃ s:SE,cs=s.cells∧s.Ok w∧s.rs.length≤140737488355328:=by
 obtain ⟨s,e,ok⟩:=open_state_c h
 obtain ⟨m1,y1,a1,l1⟩:=field_lightG Tryz.underlying57 h hL 1 _ rfl 8 1 rfl (by kernel_rfl)
 obtain ⟨a,c,ev,-⟩:=ok.arg.form
 refine ⟨s,e,ok,slice_lightG Tryz.underlying55 (of_decide_eq_true (by kernel_rfl)) a1 l1 a _ c ?_⟩
 rw [e,← ev]
 rfl
theorem open_statesL {fuel:Nat} {cs:List Value} {x:DataW H×List MemPlace} (h:DataW.trod enc Tryz.prog w base (fun _=>true) held fuel 22 cs=some x) (hL:LightG 22 x.1) :
  ∃ a len cap ls,cs=[.slice a len cap]∧List.length ls=len∧StatesAt w (.slice a len cap) ls∧(∀ y∈ls,SE.Ok w y∧y.rs.length≤140737488355328)∧len≤140737488355328:=by
 have hcl:Tryz.prog.cellsOf 57=9:=by kernel_rfl
 have hz:=slice_lightG Tryz.underlying22 (of_decide_eq_true (by kernel_rfl)) h hL
 rcases Deep.open_slice Tryz.underlying22 h with ⟨hcs,_⟩ | ⟨ad,l,c,m,n,D,Pl,hcs,_,hl,hm,hmm,hx,hel⟩
 ·exact ⟨none,0,0,[],hcs,rfl,⟨⟨rfl,Or.inl ⟨rfl,rfl⟩⟩,by simp⟩,(by simp),by omega⟩
 ·simp at hmm
  subst hmm
  have each:∀ i,i<l→∃ s:SE,(s.Ok w∧s.rs.length≤140737488355328)∧∀ r u,s.cells[r]?=some u→w.cell? (ad.add (i * 9+r))=some u:=by
   intro i hi
   obtain ⟨cs',h1,h2⟩:=hel i (by omega)
   rw [hcl] at h1
   obtain ⟨_,hlen,hcell⟩:=World.cells?_some h1
   obtain ⟨s,rfl,ok,sl⟩:=open_stateL h2 (elem_lightG (k:=0) Tryz.underlying22 hx hL i hi)
   refine ⟨s,⟨ok,sl⟩,fun r u hu=>?_⟩
   have hr:r<9:=(List.getElem?_eq_some_iff.mp hu).1
   have q:=hcell r (by omega)
   rw [Deep.add_add] at q
   rw [q]
   exact hu
  haveI:Inhabited SE:=⟨⟨HV.zero,.slice none 0 0,[]⟩⟩
  obtain ⟨f,hf⟩:=Deep.choose_lt each
  have hok:∀ y∈(List.range l).map f,SE.Ok w y∧y.rs.length≤140737488355328:=by
   intro x hx
   simp only [List.mem_map,List.mem_range] at hx
   obtain ⟨i,hi,rfl⟩:=hx
   exact (hf i hi).1
  refine ⟨some ad,l,_,(List.range l).map f,hcs,by simp,⟨⟨by simp [length_statesC],Or.inr ⟨ad,_,by rw [List.length_map,List.length_range],by rw [List.length_map,List.length_range]; exact hl,hm,fun j u hj=>?_⟩⟩,fun x hx=>(hok x hx).1⟩,hok,hz _ _ _ hcs⟩
  have hjl:=(List.getElem?_eq_some_iff.mp hj).1
  rw [length_statesC,List.length_map,List.length_range] at hjl
  have hi:j / 9<l:=by omega
  have e:=statesC_at ((List.range l).map f) (j / 9) (j % 9) (f (j / 9)) (by simp [hi]) (Nat.mod_lt _ (by omega))
  have hdm:j / 9 * 9+j % 9=j:=by omega
  rw [hdm] at e
  rw [e] at hj
  have:=(hf (j / 9) hi).2 (j % 9) u hj
  rwa [hdm] at this
theorem open_statesG {a:Option Addr} {len cap:Nat} {d:DataW H} {p:List MemPlace} (hd:DataW.Trod enc Tryz.prog w base (fun _=>true) held 22 (.slice a len cap) d p) (hL:LightG 22 d) :
  ∃ ls:List SE,StatesAt w (.slice a len cap) ls∧(∀ y∈ls,y.rs.length≤140737488355328)∧ls.length≤140737488355328:=by
 obtain ⟨fuel,hf⟩:=hd
 have h:DataW.trod enc Tryz.prog w base (fun _=>true) held fuel 22 [.slice a len cap]=some (d,p):=by simpa [Value.cells] using hf
 obtain ⟨a',len',cap',ls,e,h1,h2,h3,h4⟩:=open_statesL h hL
 simp at e
 obtain ⟨rfl,rfl,rfl⟩:=e
 exact ⟨ls,h2,fun y hy=>(h3 y hy).2,by omega⟩
end
end Go.Proofs.YtddbffoiadmffaaGreat
