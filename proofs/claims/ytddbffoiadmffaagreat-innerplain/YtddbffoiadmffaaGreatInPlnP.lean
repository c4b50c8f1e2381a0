import Derived.Test.YtddbffoiadmffaaGreatInWay
import Derived.Test.YtddbffoiadmffaaGreatInRes
namespace Go.Proofs.YtddbffoiadmffaaGreat
set_option maxHeartbeats 8000000
open Go.RowKit
set_option linter.unusedVariables false
set_option maxRecDepth 100000
structure WsR (l:List WY) (w:World) (k:Nat) (s:Value) (w':World):Prop where
 out:∃N:List WY,N.map (·.x)=(l.take k).map (·.x)∧WB1 w w' s N
structure WsP (w:World) (l:List WY) (e:Ending) (w':World):Prop where
 out:∃(v:Value) (N:List WY),e=.returned v∧WB1 w w' v N∧N.map (·.x)=l.map (·.x)
theorem Qfs (v:Value) (l:List WY) (w:World) (A:WsAt w v l) (hn:l.length≤60) (hb:∀y∈l,y.x.hs.length≤400) :
  Calls Tryz.prog 17 #[v] w (WsP w l):=by
 obtain⟨va,vc,rfl,hsh⟩:=A.sh
 have HA:Hid (∀w',Touch (fun _=>False) w w'→WsAt w' (.slice va l.length vc) l):=fun w' t=>A.keep t
 have HB:Hid (∀y∈l,y.x.hs.length≤400):=hb
 generalize hN:l.length=n at *
 have HN:Hid (l.length=n):=hN
 have hn':(n:Int)≤60:=by omega
 clear A hsh hb hN
 go_enter Tryz.func17,Tryz.ntmps17
 go_wp2_with fail
 go_loopw [3,4] (fun s3 s4 wr=>∃k:Nat,k≤n∧s4=.int .i64 k∧WsR l w k s3 wr) (fun _ s4 _=>n-(intOf s4).toNat)
 case atStart=>exact⟨0,Nat.zero_le _,rfl,[],rfl,WB1.nil (Touch.refl _ _)⟩
 case round =>
  obtain⟨k,hk,rfl,L,hLx,hW⟩:=hrel
  have HLX:Hid (L.map (·.x)=(l.take k).map (·.x)):=hLx
  have HWB:Hid (WB1 w wr _ L):=hW
  have hLk:L.length=k:=by
   have:=congrArg List.length hLx
   simp only [List.length_map,List.length_take] at this
   have:=HN.out
   omega
  have HLK:Hid (L.length=k):=hLk
  obtain⟨pa0,pc0,rfl⟩:=Qah hW.b.own
  rw [hLk] at HWB ⊢
  clear hLx hW hLk
  by_cases hlt:k<n
  ·have hlt':(k:Int)<(n:Int):=by omega
   have hk00:(0:Int)≤(k:Int):=by omega
   have hkw:wrap64 ((k:Int)+1)=(k:Int)+1:=by unfold wrap64;omega
   obtain⟨y,hy⟩:∃y,l[k]?=some y:=⟨l[k]'(by have:=HN.out;omega),by simp⟩
   have at1:=HA.out wr HWB.out.b.t
   obtain⟨a',c',ea,hsh⟩:=at1.sh
   simp only [Value.slice.injEq] at ea
   obtain⟨rfl,-,rfl⟩:=ea
   have yin:=at1.ok y (List.mem_of_getElem? hy)
   obtain⟨ha,hcp,eh,-⟩:=yin.ra.out
   rcases hsh with e|⟨g,oo,rfl,hc⟩
   ·rw [e] at hy;cases hy
   have e0:wr.cell? ⟨g,oo+k*10,none⟩=some (.int .u32 y.x.p.addr):=hc k y hy 0 _ rfl
   have e1:wr.cell? ⟨g,oo+k*10+1,none⟩=some (.int .u8 y.x.p.bits):=hc k y hy 1 _ rfl
   have e2:wr.cell? ⟨g,oo+k*10+2,none⟩=some (.int .u32 y.x.router):=hc k y hy 2 _ rfl
   have e3:wr.cell? ⟨g,oo+k*10+3,none⟩=some (.int .u8 y.x.flags):=hc k y hy 3 _ rfl
   have e4:wr.cell? ⟨g,oo+k*10+4,none⟩=some (.int .u8 y.x.kind):=hc k y hy 4 _ rfl
   have e5:wr.cell? ⟨g,oo+k*10+5,none⟩=some (.int .u32 y.x.area):=hc k y hy 5 _ rfl
   have e6:wr.cell? ⟨g,oo+k*10+6,none⟩=some (.int .u32 y.x.cost):=hc k y hy 6 _ rfl
   have e7:wr.cell? ⟨g,oo+k*10+7,none⟩=some (.int .u32 y.x.dist):=hc k y hy 7 _ rfl
   have e8:wr.cell? ⟨g,oo+k*10+8,none⟩=some (.int .u32 y.x.tag):=hc k y hy 8 _ rfl
   have e9:wr.cell? ⟨g,oo+k*10+9,none⟩=some (.slice ha y.x.hs.length hcp):=by rw [←eh];exact hc k y hy 9 _ rfl
   have le:=Qaa e0
   have HM:=Qs4 y.x.p.addr y.x.p.bits y.x.router y.x.flags y.x.kind y.x.area y.x.cost y.x.dist y.x.tag ha y.x.hs.length hcp y.x.hs wr (by rw [←eh];exact yin.ra) (by have:=HB.out y (List.mem_of_getElem? hy);omega)
   have HTK:Hid ((l.take (k+1)).map (·.x)=(l.take k).map (·.x)++[y.x]):=by show _=_;rw [List.take_add_one,hy,List.map_append];rfl
   have HYX:Hid (y.x=⟨⟨y.x.p.addr,y.x.p.bits⟩,y.x.router,y.x.flags,y.x.kind,y.x.area,y.x.cost,y.x.dist,y.x.tag,y.x.hs⟩):=rfl
   clear hc hy yin eh at1
   generalize hy0:y.x.hs=hs0 at *
   generalize y.x=x0 at *
   clear hy0
   generalize x0.p.addr=pa at *
   generalize x0.p.bits=pb at *
   generalize x0.router=rt at *
   generalize x0.flags=fl at *
   generalize x0.kind=ki at *
   generalize x0.area=ar at *
   generalize x0.cost=co at *
   generalize x0.dist=di at *
   generalize x0.tag=tg at *
   generalize hs0.length=hl0 at *
   go_wp2_with fail
   refine HM.mono ?_
   rintro e w2 ⟨⟨v2,rfl,own2⟩,t2⟩
   obtain⟨ua,uc,rfl⟩:=Qah own2
   have HO2:Hid _:=own2
   have HT2:Hid (Touch (fun _=>False) wr w2):=t2
   have HW2:Hid (WB1 w w2 (.slice pa0 k pc0) L):=HWB.out.keep t2
   have RA:=Qac w2 45 #[.int .u32 pa,.int .u8 pb,.int .u32 rt,.int .u8 fl,.int .u8 ki,.int .u32 ar,.int .u32 co,.int .u32 di,.int .u32 tg,.slice ua hs0.length uc]
   have TA:Touch (fun _=>False) w2 (w2.alloc (.cells #[.int .u32 pa,.int .u8 pb,.int .u32 rt,.int .u8 fl,.int .u8 ki,.int .u32 ar,.int .u32 co,.int .u32 di,.int .u32 tg,.slice ua hs0.length uc] 45)):=(Touch.refl _ _).alloc _
   have HTA:Hid _:=TA
   have HOA:Hid ((w2.alloc (.cells #[.int .u32 pa,.int .u8 pb,.int .u32 rt,.int .u8 fl,.int .u8 ki,.int .u32 ar,.int .u32 co,.int .u32 di,.int .u32 tg,.slice ua hs0.length uc] 45)).ownsRow w.heap.size 45 10 (.slice pa0 k pc0) k (cellsG WY.cs L)):=by have:=HW2.out.b.own;rw [HLK.out] at this;exact Qab this TA (fun _ _ h=>h)
   have HNA:Hid (∀(j:Nat) u,([.int .u32 pa,.int .u8 pb,.int .u32 rt,.int .u8 fl,.int .u8 ki,.int .u32 ar,.int .u32 co,.int .u32 di,.int .u32 tg,.slice ua hs0.length uc]:List Value)[j]?=some u→(w2.alloc (.cells #[.int .u32 pa,.int .u8 pb,.int .u32 rt,.int .u8 fl,.int .u8 ki,.int .u32 ar,.int .u32 co,.int .u32 di,.int .u32 tg,.slice ua hs0.length uc] 45)).cell? ((⟨w2.heap.size,0,none⟩:Addr).add j)=some u):=fun j u hj=>by rw [Qaf,Nat.zero_add,RA.cell j];exact hj
   have HSZ:Hid (w.heap.size≤(w2.alloc (.cells #[.int .u32 pa,.int .u8 pb,.int .u32 rt,.int .u8 fl,.int .u8 ki,.int .u32 ar,.int .u32 co,.int .u32 di,.int .u32 tg,.slice ua hs0.length uc] 45)).heap.size):=(HW2.out.b.t.trans TA).size
   clear own2 t2 HM RA TA e0 e1 e2 e3 e4 e5 e6 e7 e8 e9
   generalize hl2e:hs0.length=hl2 at *
   have HL2E:Hid (hs0.length=hl2):=hl2e
   clear hl2e
   go_wp2_with (at_builtin;refine Qdf rfl (.tmp 11) (.tmp 17) 27 rfl 45 10 56 (.agg #[.int .u32 0,.int .u8 0,.int .u32 0,.int .u8 0,.int .u8 0,.int .u32 0,.int .u32 0,.int .u32 0,.int .u32 0,.slice none 0 0]) Tryz.underlying27 infoWay rfl (by decide) (by decide) w.heap.size (.slice pa0 k pc0) k _ rfl HOA.out HSZ.out ⟨w2.heap.size,0,none⟩ 1 1 [.int .u32 pa,.int .u8 pb,.int .u32 rt,.int .u8 fl,.int .u8 ki,.int .u32 ar,.int .u32 co,.int .u32 di,.int .u32 tg,.slice ua hl2 uc] rfl rfl HNA.out ?c2 (by omega) ?_)
   case c2=>intro u hu;simp at hu;rcases hu with rfl|rfl|rfl|rfl|rfl|rfl|rfl|rfl|rfl|rfl <;> rfl
   intro v' w' hown TG
   have HWN:Hid (WsR l w (k+1) v' w'):=by
    refine⟨L++[⟨⟨⟨pa,pb⟩,rt,fl,ki,ar,co,di,tg,hs0⟩,.slice ua hl2 uc⟩],?_,⟨⟨?_,?_⟩,fun z hz=>?_⟩⟩
    ·rw [List.map_append,HLX.out,HTK.out,HYX.out]
     rfl
    ·rw [List.length_append,Qau,HLK.out]
     exact hown
    ·exact (HW2.out.b.t.trans HTA.out).trans' TG (fun i hi h=>by have:=(HOA.out.lt i h).1;omega)
    ·have kh:∀v l,HO w2 v l→HO w' v l:=fun v l hv=>Qab (Qab hv HTA.out (fun _ _ h=>h)) TG (Qa3 (Qab hv HTA.out (fun _ _ h=>h)) HOA.out (by decide))
     rcases List.mem_append.1 hz with hz|hz
     ·exact kh _ _ (HW2.out.h z hz)
     ·obtain rfl:z=⟨⟨⟨pa,pb⟩,rt,fl,ki,ar,co,di,tg,hs0⟩,.slice ua hl2 uc⟩:=by simpa using hz
      refine kh _ _ ?_
      have h2:=HO2.out
      rw [←HL2E.out] at h2 ⊢
      exact Qao h2 (Nat.zero_le _)
   obtain⟨f1,f2,rfl⟩:=Qah hown
   clear hown TG HOA HNA HW2 HO2
   go_wp2_with fail
   go_roundw
   case rel=>exact⟨k+1,by omega,by go_num,HWN.out⟩
   case measure=>first|exact Qa4 hlt hkw|exact Qa4 hlt rfl
  ·have hlt':¬(k:Int)<(n:Int):=by omega
   have HF:Hid (WB1 w wr (.slice pa0 k pc0) L∧L.map (·.x)=l.map (·.x)):=⟨HWB.out,by rw [HLX.out,List.take_of_length_le (by have:=HN.out;omega)]⟩
   go_wp2_with fail
   go_ret
   exact⟨_,L,rfl,HF.out.1,HF.out.2⟩
def hopsN (l:List WY) (k:Nat):Nat:=((l.take k).map (fun y=>y.x.hs.length)).sum
theorem Qfp {l:List WY} {k:Nat} {y:WY} (h:l[k]?=some y):hopsN l (k+1)=hopsN l k+y.x.hs.length:=by
 unfold hopsN
 rw [List.take_add_one,h,List.map_append,List.sum_append]
 simp
theorem Qf2 {l:List WY} {M:Nat} (hM:∀y∈l,y.x.hs.length≤M):∀k,hopsN l k≤k*M
 | 0=>by simp [hopsN]
 | k+1=>by
  cases h:l[k]? with
  | none =>
   have e:l.take (k+1)=l.take k:=by rw [List.take_add_one,h];simp
   have:=Qf2 hM k
   unfold hopsN at *
   rw [e,Nat.add_mul]
   omega
  | some y =>
   rw [Qfp h,Nat.add_mul]
   have:=Qf2 hM k
   have:=hM y (List.mem_of_getElem? h)
   omega
theorem Qqf {l:List WY} (h:∀y∈l,y.x.hs.length≤140737488355328) {k:Nat} (hk:k≤60):hopsN l k≤8444249301319680:=by
 have h1:=Qf2 h k
 generalize hopsN l k=a at *
 omega
theorem Qlr {a:Nat}:∀{l:List Nat},a∈l→a≤l.sum
 | [],h=>by cases h
 | b::l,h=>by
  rw [List.sum_cons]
  rcases List.mem_cons.1 h with rfl|h
  ·omega
  ·have:=Qlr h
   omega
theorem Qmg {l:List WY} {y:WY} (hy:y∈l):y.x.hs.length≤hopsN l l.length:=by
 unfold hopsN
 rw [List.take_length]
 exact Qlr (List.mem_map.2 ⟨y,hy,rfl⟩)
structure BigP (l:List WY) (w:World) (e:Ending) (w':World):Prop where
 out:∃b:Bool,e=.returned (.bool b)∧(b=false→l.length≤60∧∀y∈l,y.x.hs.length≤400)∧w=w'
theorem Qjv (v:Value) (l:List WY) (w:World) (A:WsAt w v l) (hl:l.length≤140737488355328):Calls Tryz.prog 16 #[v] w (BigP l w):=by
 obtain⟨va,vc,rfl,hsh⟩:=A.sh
 have HOK:Hid (∀y∈l,WIn w y):=A.ok
 have HSH:Hid (RwAt WY.cs 10 w va l):=hsh
 generalize hN:l.length=n at *
 have HN:Hid (l.length=n):=hN
 clear A hsh hN
 go_enter Tryz.func16,Tryz.ntmps16
 go_wp2_with fail
 go_loopw [3,4] (fun s3 s4 wr=>∃(k:Nat) (m:Int),k≤n∧s4=.int .i64 k∧s3=.int .i64 m∧(n≤60→m=(hopsN l k:Int))∧wr=w) (fun _ s4 _=>n-(intOf s4).toNat)
 case atStart=>exact⟨0,0,Nat.zero_le _,rfl,rfl,fun _=>by simp [hopsN],rfl⟩
 case round =>
  obtain⟨k,m,hk,rfl,rfl,hm,rfl⟩:=hrel
  have HM:Hid (n≤60→m=(hopsN l k:Int)):=hm
  clear hm
  by_cases hlt:k<n
  ·have hlt':(k:Int)<(n:Int):=by omega
   have hk00:(0:Int)≤(k:Int):=by omega
   have hkw:wrap64 ((k:Int)+1)=(k:Int)+1:=by unfold wrap64;omega
   obtain⟨y,hy⟩:∃y,l[k]?=some y:=⟨l[k]'(by have:=HN.out;omega),by simp⟩
   have yin:=HOK.out y (List.mem_of_getElem? hy)
   obtain⟨ha,hcp,eh,-⟩:=yin.ra.out
   rcases HSH.out with e|⟨g,oo,rfl,hc⟩
   ·rw [e] at hy;cases hy
   have e9:wr.cell? ⟨g,oo+k*10+9,none⟩=some (.slice ha y.x.hs.length hcp):=by rw [←eh];exact hc k y hy 9 _ rfl
   have le:=Qaa e9
   have HS:Hid (n≤60→hopsN l (k+1)=hopsN l k+y.x.hs.length∧hopsN l (k+1)≤8444249301319680):=fun h60=>⟨Qfp hy,Qqf (fun z hz=>(HOK.out z hz).ln) (by omega)⟩
   clear hc hy yin eh
   generalize y.x.hs.length=hl0 at *
   go_wp2_with fail
   go_roundw
   case rel=>exact⟨k+1,_,by omega,by go_num,rfl,fun h60=>by
    have h1:=HM.out h60
    obtain⟨h2,h3⟩:=HS.out h60
    rw [h2] at h3 ⊢
    subst h1
    first|(unfold wrap64;omega)|(rw [IntWalk.i64_in _ (by omega)];omega),by first|rfl|trivial⟩
   case measure=>first|exact Qa4 hlt hkw|exact Qa4 hlt rfl
  ·have hlt':¬(k:Int)<(n:Int):=by omega
   obtain rfl:k=n:=by omega
   by_cases h60:k≤60
   ·have hm:=HM.out h60
    subst hm
    have h60':¬(60:Int)<(k:Int):=by omega
    have HF:Hid (hopsN l k≤400→k≤60∧∀y∈l,y.x.hs.length≤400):=fun h=>⟨h60,fun y hy=>by
     have:=Qmg hy
     rw [HN.out] at this
     omega⟩
    generalize hopsN l k=hh at *
    go_wp2_with fail
    go_ret
    refine⟨_,rfl,fun hb=>?_,rfl⟩
    rw [HN.out]
    exact HF.out (by have h4:(hh:Int)≤400:=(by simpa using hb);omega)
   ·have h60':(60:Int)<(k:Int):=by omega
    go_wp2_with fail
    go_ret
    exact⟨_,rfl,fun hb=>by simp at hb,rfl⟩
def unv (h:HK):HK:={ h with vr:=false }
def plF (hs:List HK):List HK:=(hs.map unv).foldr pt []
theorem Qjd (hs:List HK):(plF hs).Pairwise HK.lt:=(Qcz _).1
theorem Qgl (hs:List HK) (x:HK):x∈plF hs↔x∈hs.map unv:=(Qcz _).2 x
theorem Qqs {hs:List HK} {k:Nat} {h:HK} (hk:hs[k]?=some h) (x:HK):x∈plF (hs.take (k+1))↔x∈plF (hs.take k)∨x∈[unv h]:=by
 rw [Qgl,Qgl,List.take_add_one,hk,List.map_append,List.mem_append]
 simp
theorem Qsd {hs:List HK} {x:HK} (h:x∈plF hs):x.vr=false:=by
 rw [Qgl] at h
 obtain⟨y,-,rfl⟩:=List.mem_map.1 h
 rfl
theorem Qs3 {hs:List HK} (hv:∀h∈hs,0≤h.via∧h.via≤4294967295):∀h∈plF hs,0≤h.via∧h.via≤4294967295:=by
 intro h hh
 rw [Qgl] at hh
 obtain⟨y,hy,rfl⟩:=List.mem_map.1 hh
 exact hv y hy
theorem Qr8 (h:HK):∀l:List HK,(pt h l).length≤l.length+1
 | []=>by simp [pt]
 | x::t=>by
  have:=Qr8 h t
  unfold pt
  split
  ·simp only [List.length_cons];omega
  ·split <;> simp only [List.length_cons] <;> omega
theorem Qft:∀l:List HK,(l.foldr pt []).length≤l.length
 | []=>by simp
 | h::l=>by
  have h1:=Qft l
  have h2:=Qr8 h (l.foldr pt [])
  rw [List.foldr_cons,List.length_cons]
  omega
theorem Ql8 (hs:List HK):(plF hs).length≤hs.length:=by
 have:=Qft (hs.map unv)
 rw [List.length_map] at this
 exact this
def prW (x:WP):WP:={ x with hs:=plF x.hs }
theorem Qsi (T:List WP) (hs:List HK):resH T (plF hs)=plF hs:=by
 have h1:plainL (plF hs)=plF hs:=Qc5 (fun x hx=>Qsd hx)
 have h2:∀l:List HK,(∀x∈l,x.vr=false)→trsH T l=[]:=fun l=>by
  induction l with
  | nil=>intro _;rfl
  | cons a l ih =>
   intro hl
   have e:trsH T (a::l)=viaH T a++trsH T l:=rfl
   rw [e,Qnn (hl a (by simp)),ih (fun x hx=>hl x (by simp [hx]))]
   rfl
 unfold resH resL
 rw [h1,h2 _ (fun x hx=>Qsd hx)]
 simp only [List.flatten_cons,List.flatten_nil,List.append_nil]
 exact Qjc (Qcz _).1 (Qjd hs) (fun x=>(Qcz _).2 x)
theorem Qtk (T:List WP) (x:WP):resW T (prW x)=some (prW x):=by
 have h:(prW x).hs=plF x.hs:=rfl
 have e:resH T (prW x).hs=(prW x).hs:=by rw [h,Qsi]
 by_cases h0:(prW x).hs=[]
 ·rw [Qdi (Or.inl h0),e]
 ·rw [Qdi (Or.inr (by rw [e];exact h0)),e]
theorem Qmd (T N:List WP):(N.map prW).filterMap (resW T)=N.map prW:=by
 induction N with
 | nil=>rfl
 | cons x N ih=>rw [List.map_cons,List.filterMap_cons,Qtk,ih]
theorem eqPxx (a b:Int) (w:World):(Op.equalIn 10000 42 (.agg #[.int .u32 a,.int .u8 b]) (.agg #[.int .u32 a,.int .u8 b])).run Tryz.prog w=.ok true w:=by
 have hS:Tryz.prog.underlying 42=some (.struct (Tryz.prog.fieldsOf 42)):=by kernel_rfl
 rw [show (10000:Nat)=9999+1 from rfl,run_equalIn_agg w 9999 42 _ _ hS (by kernel_rfl)]
 simp only [Program.fieldsOf,Tryz.underlying42]
 go_simp
structure PlA (w:World) (v:Value) (N:List WP) (i:Nat) (wr:World):Prop where
 out:∃L:List WY,WB1 w wr v L∧L.map (·.x)=(N.take i).map prW++N.drop i
theorem PlA.keep {w wr w':World} {v:Value} {N:List WP} {i:Nat} (h:PlA w v N i wr) (t:Touch (fun _=>False) wr w'):PlA w v N i w':=by
 obtain⟨L,h1,h2⟩:=h.out
 exact⟨L,h1.keep t,h2⟩
structure PlC (w wr:World) (g:Nat) (i:Nat) (x:WP) (hv:Value):Prop where
 c9:wr.cell? ⟨g,i*10+9,none⟩=some hv
 ho:HO wr hv x.hs
 fz:∀j,wr.frozen? ⟨g,j,none⟩=false
 lt:g<wr.heap.size
theorem Qv5 {N:List WP} {i:Nat} {x:WP} (hx:N[i]?=some x):((N.take i).map prW++N.drop i)[i]?=some x:=by
 have hl:=(List.getElem?_eq_some_iff.1 hx).1
 rw [List.getElem?_append_right (by rw [List.length_map,List.length_take];omega),List.getElem?_drop]
 have e:i+(i-((N.take i).map prW).length)=i:=by rw [List.length_map,List.length_take];omega
 rw [e,hx]
theorem Qvr {N:List WP} {i:Nat} {x:WP} (hx:N[i]?=some x):((N.take i).map prW++N.drop i).set i (prW x)=(N.take (i+1)).map prW++N.drop (i+1):=by
 have hl:=(List.getElem?_eq_some_iff.1 hx).1
 have hll:((N.take i).map prW).length=i:=by rw [List.length_map,List.length_take];omega
 rw [List.set_append_right i _ (by omega),hll,Nat.sub_self,List.take_add_one,hx,List.map_append]
 simp only [Option.toList_some,List.map_cons,List.map_nil,List.append_assoc,List.cons_append,List.nil_append]
 rw [List.drop_eq_getElem_cons hl]
 rfl
theorem PlA.at {w wr:World} {g c n:Nat} {N:List WP} {i:Nat} (h:PlA w (.slice (some ⟨g,0,none⟩) n c) N i wr) {x:WP} (hx:N[i]?=some x):∃hv,PlC w wr g i x hv:=by
 obtain⟨L,h1,h2⟩:=h.out
 have h3:=Qv5 hx
 rw [←h2,List.getElem?_map] at h3
 cases hy:L[i]? with
 | none=>rw [hy] at h3;cases h3
 | some y =>
  rw [hy] at h3
  obtain rfl:y.x=x:=Option.some.inj h3
  have r:RG WY.cs 10 45 w.heap.size wr (.slice (some ⟨g,0,none⟩) n c) L:=h1.b.own
  exact⟨y.hv,RG.cell (i:=i) (d:=9) WY.len r hy rfl,h1.h y (List.mem_of_getElem? hy),RG.fz r,RG.lt r rfl⟩
theorem PlA.put {w wr:World} {g c n:Nat} {N:List WP} {i:Nat} (h:PlA w (.slice (some ⟨g,0,none⟩) n c) N i wr) {x:WP} (hx:N[i]?=some x) {r:Value} (hr:HO wr r (plF x.hs)):PlA w (.slice (some ⟨g,0,none⟩) n c) N (i+1) (wr.setCell ⟨g,i*10+9,none⟩ r):=by
 obtain⟨L,h1,h2⟩:=h.out
 have h3:=Qv5 hx
 rw [←h2,List.getElem?_map] at h3
 cases hy:L[i]? with
 | none=>rw [hy] at h3;cases h3
 | some y =>
  rw [hy] at h3
  obtain rfl:y.x=x:=Option.some.inj h3
  have rr:RG WY.cs 10 45 w.heap.size wr (.slice (some ⟨g,0,none⟩) n c) L:=h1.b.own
  have hn:n=L.length:=by
   obtain⟨a,c',e⟩:=Qah h1.b.own
   simp only [Value.slice.injEq] at e
   exact e.2.1
  have tt:Touch (fun k=>k=g) wr (wr.setCell ⟨g,i*10+9,none⟩ r):=Touch.setCell (F:=fun k=>k=g) (p:=⟨g,i*10+9,none⟩) (Touch.refl _ _) (Or.inl rfl) _
  have hg:w.heap.size≤g:=(h1.b.own.lt g rfl).1
  have hap:∀(v:Value) (l:List HK),HO wr v l→∀k,v.ownBlock=some k→¬k=g:=fun v l hv k hk e=>Qa3 hv h1.b.own (by decide) k hk (by rw [e];rfl)
  refine⟨L.set i ⟨prW y.x,r⟩,⟨⟨?_,h1.b.t.trans' tt (fun k hk e=>by omega)⟩,fun z hz=>?_⟩,?_⟩
  ·have:=RG.set1 WY.len rr (d:=9) (y:=⟨prW y.x,r⟩) (by omega) hy (u:=r) rfl
   exact this
  ·rcases List.mem_or_eq_of_mem_set hz with hz|rfl
   ·exact Qab (h1.h z hz) tt (hap _ _ (h1.h z hz))
   ·exact Qab hr tt (hap _ _ hr)
  ·rw [List.map_set,h2]
   exact Qvr hx
end Go.Proofs.YtddbffoiadmffaaGreat
