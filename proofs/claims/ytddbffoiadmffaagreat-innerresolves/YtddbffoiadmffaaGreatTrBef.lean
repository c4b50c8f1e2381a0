import Derived.Test.YtddbffoiadmffaaGreatInWay
import Derived.Test.YtddbffoiadmffaaGreatInRes
import Derived.Deep.QuietTactic
import Derived.BigQuiet
import Derived.Deep.RegionHeld2
import Derived.Deep.LoopGhost
namespace Go.Proofs.YtddbffoiadmffaaGreat
set_option maxHeartbeats 8000000
open Go.RowKit
set_option linter.unusedVariables false
set_option maxRecDepth 100000
structure WsR (l:List WY) (w:World) (k:Nat) (s:Value) (w':World):Prop where
 out:∃N:List WY,N.map (·.x)=(l.take k).map (·.x)∧WB1 w w' s N
structure WsP (w:World) (l:List WY) (e:Ending) (w':World):Prop where
 out:∃(v:Value) (N:List WY),e=.returned v∧WB1 w w' v N∧N.map (·.x)=l.map (·.x)
theorem Qfz (v:Value) (l:List WY) (w:World) (A:WsAt w v l) (hn:l.length≤60) (hb:∀y∈l,y.x.hs.length≤400) :
  Calls Tryz.prog 17 #[v] w (WsP w l):=by
 obtain⟨va,vc,rfl,hsh⟩:=A.sh
 have HA:Hid (∀w',Touch (fun _=>False) w w'→WsAt w' (.slice va l.length vc) l):=fun w' t=>A.keep t
 have HB:Hid (∀y∈l,y.x.hs.length≤400):=hb
 generalize hN:l.length=n at *
 have HN:Hid (l.length=n):=hN
 have hn':(n:Int)≤60:=by omega
 clear A hsh hb hN
 go_enter Tryz.func17,Tryz.ntmps17
 go_wp2_with fail
 go_loopw [3,4] (fun s3 s4 wr=>∃k:Nat,k≤n∧s4=.int .i64 k∧WsR l w k s3 wr) (fun _ s4 _=>n-(intOf s4).toNat)
 case atStart=>exact⟨0,Nat.zero_le _,rfl,[],rfl,WB1.nil (Touch.refl _ _)⟩
 case round =>
  obtain⟨k,hk,rfl,L,hLx,hW⟩:=hrel
  have HLX:Hid (L.map (·.x)=(l.take k).map (·.x)):=hLx
  have HWB:Hid (WB1 w wr _ L):=hW
  have hLk:L.length=k:=by
   have:=congrArg List.length hLx
   simp only [List.length_map,List.length_take] at this
   have:=HN.out
   omega
  have HLK:Hid (L.length=k):=hLk
  obtain⟨pa0,pc0,rfl⟩:=Qah hW.b.own
  rw [hLk] at HWB ⊢
  clear hLx hW hLk
  by_cases hlt:k<n
  ·have hlt':(k:Int)<(n:Int):=by omega
   have hk00:(0:Int)≤(k:Int):=by omega
   have hkw:wrap64 ((k:Int)+1)=(k:Int)+1:=by unfold wrap64;omega
   obtain⟨y,hy⟩:∃y,l[k]?=some y:=⟨l[k]'(by have:=HN.out;omega),by simp⟩
   have at1:=HA.out wr HWB.out.b.t
   obtain⟨a',c',ea,hsh⟩:=at1.sh
   simp only [Value.slice.injEq] at ea
   obtain⟨rfl,-,rfl⟩:=ea
   have yin:=at1.ok y (List.mem_of_getElem? hy)
   obtain⟨ha,hcp,eh,-⟩:=yin.ra.out
   rcases hsh with e|⟨g,oo,rfl,hc⟩
   ·rw [e] at hy;cases hy
   have e0:wr.cell? ⟨g,oo+k*10,none⟩=some (.int .u32 y.x.p.addr):=hc k y hy 0 _ rfl
   have e1:wr.cell? ⟨g,oo+k*10+1,none⟩=some (.int .u8 y.x.p.bits):=hc k y hy 1 _ rfl
   have e2:wr.cell? ⟨g,oo+k*10+2,none⟩=some (.int .u32 y.x.router):=hc k y hy 2 _ rfl
   have e3:wr.cell? ⟨g,oo+k*10+3,none⟩=some (.int .u8 y.x.flags):=hc k y hy 3 _ rfl
   have e4:wr.cell? ⟨g,oo+k*10+4,none⟩=some (.int .u8 y.x.kind):=hc k y hy 4 _ rfl
   have e5:wr.cell? ⟨g,oo+k*10+5,none⟩=some (.int .u32 y.x.area):=hc k y hy 5 _ rfl
   have e6:wr.cell? ⟨g,oo+k*10+6,none⟩=some (.int .u32 y.x.cost):=hc k y hy 6 _ rfl
   have e7:wr.cell? ⟨g,oo+k*10+7,none⟩=some (.int .u32 y.x.dist):=hc k y hy 7 _ rfl
   have e8:wr.cell? ⟨g,oo+k*10+8,none⟩=some (.int .u32 y.x.tag):=hc k y hy 8 _ rfl
   have e9:wr.cell? ⟨g,oo+k*10+9,none⟩=some (.slice ha y.x.hs.length hcp):=by rw [←eh];exact hc k y hy 9 _ rfl
   have le:=Qaa e0
   have HM:=Qmk y.x.p.addr y.x.p.bits y.x.router y.x.flags y.x.kind y.x.area y.x.cost y.x.dist y.x.tag ha y.x.hs.length hcp y.x.hs wr (by rw [←eh];exact yin.ra) (by have:=HB.out y (List.mem_of_getElem? hy);omega)
   have HTK:Hid ((l.take (k+1)).map (·.x)=(l.take k).map (·.x)++[y.x]):=by show _=_;rw [List.take_add_one,hy,List.map_append];rfl
   have HYX:Hid (y.x=⟨⟨y.x.p.addr,y.x.p.bits⟩,y.x.router,y.x.flags,y.x.kind,y.x.area,y.x.cost,y.x.dist,y.x.tag,y.x.hs⟩):=rfl
   clear hc hy yin eh at1
   generalize hy0:y.x.hs=hs0 at *
   generalize y.x=x0 at *
   clear hy0
   generalize x0.p.addr=pa at *
   generalize x0.p.bits=pb at *
   generalize x0.router=rt at *
   generalize x0.flags=fl at *
   generalize x0.kind=ki at *
   generalize x0.area=ar at *
   generalize x0.cost=co at *
   generalize x0.dist=di at *
   generalize x0.tag=tg at *
   generalize hs0.length=hl0 at *
   go_wp2_with fail
   refine HM.mono ?_
   rintro e w2 ⟨⟨v2,rfl,own2⟩,t2⟩
   obtain⟨ua,uc,rfl⟩:=Qah own2
   have HO2:Hid _:=own2
   have HT2:Hid (Touch (fun _=>False) wr w2):=t2
   have HW2:Hid (WB1 w w2 (.slice pa0 k pc0) L):=HWB.out.keep t2
   have RA:=Qac w2 45 #[.int .u32 pa,.int .u8 pb,.int .u32 rt,.int .u8 fl,.int .u8 ki,.int .u32 ar,.int .u32 co,.int .u32 di,.int .u32 tg,.slice ua hs0.length uc]
   have TA:Touch (fun _=>False) w2 (w2.alloc (.cells #[.int .u32 pa,.int .u8 pb,.int .u32 rt,.int .u8 fl,.int .u8 ki,.int .u32 ar,.int .u32 co,.int .u32 di,.int .u32 tg,.slice ua hs0.length uc] 45)):=(Touch.refl _ _).alloc _
   have HTA:Hid _:=TA
   have HOA:Hid ((w2.alloc (.cells #[.int .u32 pa,.int .u8 pb,.int .u32 rt,.int .u8 fl,.int .u8 ki,.int .u32 ar,.int .u32 co,.int .u32 di,.int .u32 tg,.slice ua hs0.length uc] 45)).ownsRow w.heap.size 45 10 (.slice pa0 k pc0) k (cellsG WY.cs L)):=by have:=HW2.out.b.own;rw [HLK.out] at this;exact Qab this TA (fun _ _ h=>h)
   have HNA:Hid (∀(j:Nat) u,([.int .u32 pa,.int .u8 pb,.int .u32 rt,.int .u8 fl,.int .u8 ki,.int .u32 ar,.int .u32 co,.int .u32 di,.int .u32 tg,.slice ua hs0.length uc]:List Value)[j]?=some u→(w2.alloc (.cells #[.int .u32 pa,.int .u8 pb,.int .u32 rt,.int .u8 fl,.int .u8 ki,.int .u32 ar,.int .u32 co,.int .u32 di,.int .u32 tg,.slice ua hs0.length uc] 45)).cell? ((⟨w2.heap.size,0,none⟩:Addr).add j)=some u):=fun j u hj=>by rw [Qae,Nat.zero_add,RA.cell j];exact hj
   have HSZ:Hid (w.heap.size≤(w2.alloc (.cells #[.int .u32 pa,.int .u8 pb,.int .u32 rt,.int .u8 fl,.int .u8 ki,.int .u32 ar,.int .u32 co,.int .u32 di,.int .u32 tg,.slice ua hs0.length uc] 45)).heap.size):=(HW2.out.b.t.trans TA).size
   clear own2 t2 HM RA TA e0 e1 e2 e3 e4 e5 e6 e7 e8 e9
   generalize hl2e:hs0.length=hl2 at *
   have HL2E:Hid (hs0.length=hl2):=hl2e
   clear hl2e
   go_wp2_with (at_builtin;refine Qby rfl (.tmp 11) (.tmp 17) 27 rfl 45 10 56 (.agg #[.int .u32 0,.int .u8 0,.int .u32 0,.int .u8 0,.int .u8 0,.int .u32 0,.int .u32 0,.int .u32 0,.int .u32 0,.slice none 0 0]) Tryz.underlying27 infoWay rfl (by decide) (by decide) w.heap.size (.slice pa0 k pc0) k _ rfl HOA.out HSZ.out ⟨w2.heap.size,0,none⟩ 1 1 [.int .u32 pa,.int .u8 pb,.int .u32 rt,.int .u8 fl,.int .u8 ki,.int .u32 ar,.int .u32 co,.int .u32 di,.int .u32 tg,.slice ua hl2 uc] rfl rfl HNA.out ?c2 (by omega) ?_)
   case c2=>intro u hu;simp at hu;rcases hu with rfl|rfl|rfl|rfl|rfl|rfl|rfl|rfl|rfl|rfl <;> rfl
   intro v' w' hown TG
   have HWN:Hid (WsR l w (k+1) v' w'):=by
    refine⟨L++[⟨⟨⟨pa,pb⟩,rt,fl,ki,ar,co,di,tg,hs0⟩,.slice ua hl2 uc⟩],?_,⟨⟨?_,?_⟩,fun z hz=>?_⟩⟩
    ·rw [List.map_append,HLX.out,HTK.out,HYX.out]
     rfl
    ·rw [List.length_append,Qaq,HLK.out]
     exact hown
    ·exact (HW2.out.b.t.trans HTA.out).trans' TG (fun i hi h=>by have:=(HOA.out.lt i h).1;omega)
    ·have kh:∀v l,HO w2 v l→HO w' v l:=fun v l hv=>Qab (Qab hv HTA.out (fun _ _ h=>h)) TG (Qa2 (Qab hv HTA.out (fun _ _ h=>h)) HOA.out (by decide))
     rcases List.mem_append.1 hz with hz|hz
     ·exact kh _ _ (HW2.out.h z hz)
     ·obtain rfl:z=⟨⟨⟨pa,pb⟩,rt,fl,ki,ar,co,di,tg,hs0⟩,.slice ua hl2 uc⟩:=by simpa using hz
      refine kh _ _ ?_
      have h2:=HO2.out
      rw [←HL2E.out] at h2 ⊢
      exact Qam h2 (Nat.zero_le _)
   obtain⟨f1,f2,rfl⟩:=Qah hown
   clear hown TG HOA HNA HW2 HO2
   go_wp2_with fail
   go_roundw
   case rel=>exact⟨k+1,by omega,by go_num,HWN.out⟩
   case measure=>first|exact Qa5 hlt hkw|exact Qa5 hlt rfl
  ·have hlt':¬(k:Int)<(n:Int):=by omega
   have HF:Hid (WB1 w wr (.slice pa0 k pc0) L∧L.map (·.x)=l.map (·.x)):=⟨HWB.out,by rw [HLX.out,List.take_of_length_le (by have:=HN.out;omega)]⟩
   go_wp2_with fail
   go_ret
   exact⟨_,L,rfl,HF.out.1,HF.out.2⟩
def hopsN (l:List WY) (k:Nat):Nat:=((l.take k).map (fun y=>y.x.hs.length)).sum
theorem Qf3 {l:List WY} {k:Nat} {y:WY} (h:l[k]?=some y):hopsN l (k+1)=hopsN l k+y.x.hs.length:=by
 unfold hopsN
 rw [List.take_add_one,h,List.map_append,List.sum_append]
 simp
theorem Qgp {l:List WY} {M:Nat} (hM:∀y∈l,y.x.hs.length≤M):∀k,hopsN l k≤k*M
 | 0=>by simp [hopsN]
 | k+1=>by
  cases h:l[k]? with
  | none =>
   have e:l.take (k+1)=l.take k:=by rw [List.take_add_one,h];simp
   have:=Qgp hM k
   unfold hopsN at *
   rw [e,Nat.add_mul]
   omega
  | some y =>
   rw [Qf3 h,Nat.add_mul]
   have:=Qgp hM k
   have:=hM y (List.mem_of_getElem? h)
   omega
theorem Qq6 {l:List WY} (h:∀y∈l,y.x.hs.length≤140737488355328) {k:Nat} (hk:k≤60):hopsN l k≤8444249301319680:=by
 have h1:=Qgp h k
 generalize hopsN l k=a at *
 omega
theorem Qnr {a:Nat}:∀{l:List Nat},a∈l→a≤l.sum
 | [],h=>by cases h
 | b::l,h=>by
  rw [List.sum_cons]
  rcases List.mem_cons.1 h with rfl|h
  ·omega
  ·have:=Qnr h
   omega
theorem Qoh {l:List WY} {y:WY} (hy:y∈l):y.x.hs.length≤hopsN l l.length:=by
 unfold hopsN
 rw [List.take_length]
 exact Qnr (List.mem_map.2 ⟨y,hy,rfl⟩)
structure BigP (l:List WY) (w:World) (e:Ending) (w':World):Prop where
 out:∃b:Bool,e=.returned (.bool b)∧(b=false→l.length≤60∧∀y∈l,y.x.hs.length≤400)∧w=w'
theorem Qjx (v:Value) (l:List WY) (w:World) (A:WsAt w v l) (hl:l.length≤140737488355328):Calls Tryz.prog 16 #[v] w (BigP l w):=by
 obtain⟨va,vc,rfl,hsh⟩:=A.sh
 have HOK:Hid (∀y∈l,WIn w y):=A.ok
 have HSH:Hid (RwAt WY.cs 10 w va l):=hsh
 generalize hN:l.length=n at *
 have HN:Hid (l.length=n):=hN
 clear A hsh hN
 go_enter Tryz.func16,Tryz.ntmps16
 go_wp2_with fail
 go_loopw [3,4] (fun s3 s4 wr=>∃(k:Nat) (m:Int),k≤n∧s4=.int .i64 k∧s3=.int .i64 m∧(n≤60→m=(hopsN l k:Int))∧wr=w) (fun _ s4 _=>n-(intOf s4).toNat)
 case atStart=>exact⟨0,0,Nat.zero_le _,rfl,rfl,fun _=>by simp [hopsN],rfl⟩
 case round =>
  obtain⟨k,m,hk,rfl,rfl,hm,rfl⟩:=hrel
  have HM:Hid (n≤60→m=(hopsN l k:Int)):=hm
  clear hm
  by_cases hlt:k<n
  ·have hlt':(k:Int)<(n:Int):=by omega
   have hk00:(0:Int)≤(k:Int):=by omega
   have hkw:wrap64 ((k:Int)+1)=(k:Int)+1:=by unfold wrap64;omega
   obtain⟨y,hy⟩:∃y,l[k]?=some y:=⟨l[k]'(by have:=HN.out;omega),by simp⟩
   have yin:=HOK.out y (List.mem_of_getElem? hy)
   obtain⟨ha,hcp,eh,-⟩:=yin.ra.out
   rcases HSH.out with e|⟨g,oo,rfl,hc⟩
   ·rw [e] at hy;cases hy
   have e9:wr.cell? ⟨g,oo+k*10+9,none⟩=some (.slice ha y.x.hs.length hcp):=by rw [←eh];exact hc k y hy 9 _ rfl
   have le:=Qaa e9
   have HS:Hid (n≤60→hopsN l (k+1)=hopsN l k+y.x.hs.length∧hopsN l (k+1)≤8444249301319680):=fun h60=>⟨Qf3 hy,Qq6 (fun z hz=>(HOK.out z hz).ln) (by omega)⟩
   clear hc hy yin eh
   generalize y.x.hs.length=hl0 at *
   go_wp2_with fail
   go_roundw
   case rel=>exact⟨k+1,_,by omega,by go_num,rfl,fun h60=>by
    have h1:=HM.out h60
    obtain⟨h2,h3⟩:=HS.out h60
    rw [h2] at h3 ⊢
    subst h1
    first|(unfold wrap64;omega)|(rw [IntWalk.i64_in _ (by omega)];omega),by first|rfl|trivial⟩
   case measure=>first|exact Qa5 hlt hkw|exact Qa5 hlt rfl
  ·have hlt':¬(k:Int)<(n:Int):=by omega
   obtain rfl:k=n:=by omega
   by_cases h60:k≤60
   ·have hm:=HM.out h60
    subst hm
    have h60':¬(60:Int)<(k:Int):=by omega
    have HF:Hid (hopsN l k≤400→k≤60∧∀y∈l,y.x.hs.length≤400):=fun h=>⟨h60,fun y hy=>by
     have:=Qoh hy
     rw [HN.out] at this
     omega⟩
    generalize hopsN l k=hh at *
    go_wp2_with fail
    go_ret
    refine⟨_,rfl,fun hb=>?_,rfl⟩
    rw [HN.out]
    exact HF.out (by have h4:(hh:Int)≤400:=(by simpa using hb);omega)
   ·have h60':(60:Int)<(k:Int):=by omega
    go_wp2_with fail
    go_ret
    exact⟨_,rfl,fun hb=>by simp at hb,rfl⟩
theorem eqPxx (a b:Int) (w:World):(Op.equalIn 10000 42 (.agg #[.int .u32 a,.int .u8 b]) (.agg #[.int .u32 a,.int .u8 b])).run Tryz.prog w=.ok true w:=by
 have hS:Tryz.prog.underlying 42=some (.struct (Tryz.prog.fieldsOf 42)):=by kernel_rfl
 rw [show (10000:Nat)=9999+1 from rfl,run_equalIn_agg w 9999 42 _ _ hS (by kernel_rfl)]
 simp only [Program.fieldsOf,Tryz.underlying42]
 go_simp
theorem Qne (pa pb rt fl ki ar co di tg:Int) (a1 a2:Option Addr) (n1 c1 c2:Nat) (l:List HK) (w:World) (R1:RA w (.slice a1 n1 c1) l) (R2:RA w (.slice a2 n1 c2) l) (hl:l.length≤1000000) :
  Calls Tryz.prog 35 #[.agg #[.int .u32 pa,.int .u8 pb,.int .u32 rt,.int .u8 fl,.int .u8 ki,.int .u32 ar,.int .u32 co,.int .u32 di,.int .u32 tg,.slice a1 n1 c1],.agg #[.int .u32 pa,.int .u8 pb,.int .u32 rt,.int .u8 fl,.int .u8 ki,.int .u32 ar,.int .u32 co,.int .u32 di,.int .u32 tg,.slice a2 n1 c2]] w fun e w'=>e=.returned (.bool true)∧Touch (fun _=>False) w w':=by
 obtain⟨w2,hw2⟩:∃u,u=(w.alloc (.cells #[.int .u32 pa,.int .u8 pb,.int .u32 rt,.int .u8 fl,.int .u8 ki,.int .u32 ar,.int .u32 co,.int .u32 di,.int .u32 tg,.slice a1 n1 c1] 45)).alloc (.cells #[.int .u32 pa,.int .u8 pb,.int .u32 rt,.int .u8 fl,.int .u8 ki,.int .u32 ar,.int .u32 co,.int .u32 di,.int .u32 tg,.slice a2 n1 c2] 84):=⟨_,rfl⟩
 have t2:Touch (fun _=>False) w w2:=by rw [hw2];exact ((Touch.refl _ _).alloc _).alloc _
 have RA1:Row w2 w.heap.size 45 [.int .u32 pa,.int .u8 pb,.int .u32 rt,.int .u8 fl,.int .u8 ki,.int .u32 ar,.int .u32 co,.int .u32 di,.int .u32 tg,.slice a1 n1 c1]:=by rw [hw2];exact (Qac w _ _).keep ((Touch.refl _ _).alloc _)
 have RA2:Row w2 (w.heap.size+1) 84 [.int .u32 pa,.int .u8 pb,.int .u32 rt,.int .u8 fl,.int .u8 ki,.int .u32 ar,.int .u32 co,.int .u32 di,.int .u32 tg,.slice a2 n1 c2]:=by
  rw [hw2]
  have:=Qac (w.alloc (.cells #[.int .u32 pa,.int .u8 pb,.int .u32 rt,.int .u8 fl,.int .u8 ki,.int .u32 ar,.int .u32 co,.int .u32 di,.int .u32 tg,.slice a1 n1 c1] 45)) 84 #[.int .u32 pa,.int .u8 pb,.int .u32 rt,.int .u8 fl,.int .u8 ki,.int .u32 ar,.int .u32 co,.int .u32 di,.int .u32 tg,.slice a2 n1 c2]
  rw [World.size_alloc] at this
  exact this
 have hn1:n1=l.length:=by
  obtain⟨a,c,e,-⟩:=R1.out
  simp only [Value.slice.injEq] at e
  exact e.2.1
 have HN1:Hid (l.length=n1):=hn1.symm
 have HN6:Hid (n1≤1000000):=by show _≤_;omega
 have HM:=Qmk pa pb rt fl ki ar co di tg a2 n1 c2 l w2 (R2.keep t2) hl
 have HR1:Hid (∀w',Touch (fun _=>False) w w'→RA w' (.slice a1 n1 c1) l):=fun w' t=>R1.keep t
 have HT2:Hid (Touch (fun _=>False) w w2):=t2
 have HRA1:Hid (Row w2 w.heap.size 45 [.int .u32 pa,.int .u8 pb,.int .u32 rt,.int .u8 fl,.int .u8 ki,.int .u32 ar,.int .u32 co,.int .u32 di,.int .u32 tg,.slice a1 n1 c1]):=RA1
 have e0:w2.cell? ⟨w.heap.size+1,0,none⟩=some (.int .u32 pa):=RA2.cell 0
 have e1:w2.cell? ⟨w.heap.size+1,1,none⟩=some (.int .u8 pb):=RA2.cell 1
 have e2:w2.cell? ⟨w.heap.size+1,2,none⟩=some (.int .u32 rt):=RA2.cell 2
 have e3:w2.cell? ⟨w.heap.size+1,3,none⟩=some (.int .u8 fl):=RA2.cell 3
 have e4:w2.cell? ⟨w.heap.size+1,4,none⟩=some (.int .u8 ki):=RA2.cell 4
 have e5:w2.cell? ⟨w.heap.size+1,5,none⟩=some (.int .u32 ar):=RA2.cell 5
 have e6:w2.cell? ⟨w.heap.size+1,6,none⟩=some (.int .u32 co):=RA2.cell 6
 have e7:w2.cell? ⟨w.heap.size+1,7,none⟩=some (.int .u32 di):=RA2.cell 7
 have e8:w2.cell? ⟨w.heap.size+1,8,none⟩=some (.int .u32 tg):=RA2.cell 8
 have e9:w2.cell? ⟨w.heap.size+1,9,none⟩=some (.slice a2 n1 c2):=RA2.cell 9
 have le:=RA2.lt
 have hn6:(n1:Int)≤1000000:=by omega
 clear R1 R2 RA1 RA2 t2 hl hn1
 go_enter Tryz.func35,Tryz.ntmps35
 go_upto_region 1 with fail
 rw [←hw2]
 clear hw2
 generalize hb1:w.heap.size=b1 at *
 generalize b1+1=b2 at *
 go_wp2_with fail
 refine HM.mono ?_
 rintro e w3 ⟨⟨v,rfl,own⟩,t3⟩
 obtain⟨ua,uc,rfl⟩:=Qah own
 rw [HN1.out] at own ⊢
 have HOV:Hid (HO w3 (.slice ua n1 uc) l):=by show World.ownsRow _ _ _ _ _ _ _;rw [HN1.out];exact Qam own (Nat.zero_le _)
 obtain⟨w4,hw4⟩:∃u,u=w3.alloc (.cells #[.int .u32 pa,.int .u8 pb,.int .u32 rt,.int .u8 fl,.int .u8 ki,.int .u32 ar,.int .u32 co,.int .u32 di,.int .u32 tg,.slice ua n1 uc] 45):=⟨_,rfl⟩
 have t4:Touch (fun _=>False) w3 w4:=by rw [hw4];exact (Touch.refl _ _).alloc _
 have RB1:Row w4 b1 45 [.int .u32 pa,.int .u8 pb,.int .u32 rt,.int .u8 fl,.int .u8 ki,.int .u32 ar,.int .u32 co,.int .u32 di,.int .u32 tg,.slice a1 n1 c1]:=(HRA1.out.keep t3).keep t4
 have RB5:Row w4 w3.heap.size 45 [.int .u32 pa,.int .u8 pb,.int .u32 rt,.int .u8 fl,.int .u8 ki,.int .u32 ar,.int .u32 co,.int .u32 di,.int .u32 tg,.slice ua n1 uc]:=by rw [hw4];exact Qac _ _ _
 have HT4:Hid (Touch (fun _=>False) w w4):=(HT2.out.trans t3).trans t4
 have HOV4:Hid (HO w4 (.slice ua n1 uc) l):=Qab HOV.out t4 (fun _ _ h=>h)
 generalize hb5:w3.heap.size=b5 at *
 have f0:w4.cell? ⟨b1,0,none⟩=some (.int .u32 pa):=RB1.cell 0
 have f1:w4.cell? ⟨b1,1,none⟩=some (.int .u8 pb):=RB1.cell 1
 have f2:w4.cell? ⟨b1,2,none⟩=some (.int .u32 rt):=RB1.cell 2
 have f3:w4.cell? ⟨b1,3,none⟩=some (.int .u8 fl):=RB1.cell 3
 have f4:w4.cell? ⟨b1,4,none⟩=some (.int .u8 ki):=RB1.cell 4
 have f5:w4.cell? ⟨b1,5,none⟩=some (.int .u32 ar):=RB1.cell 5
 have f6:w4.cell? ⟨b1,6,none⟩=some (.int .u32 co):=RB1.cell 6
 have f7:w4.cell? ⟨b1,7,none⟩=some (.int .u32 di):=RB1.cell 7
 have f8:w4.cell? ⟨b1,8,none⟩=some (.int .u32 tg):=RB1.cell 8
 have f9:w4.cell? ⟨b1,9,none⟩=some (.slice a1 n1 c1):=RB1.cell 9
 have d0:w4.cell? ⟨b5,0,none⟩=some (.int .u32 pa):=RB5.cell 0
 have d1:w4.cell? ⟨b5,1,none⟩=some (.int .u8 pb):=RB5.cell 1
 have d2:w4.cell? ⟨b5,2,none⟩=some (.int .u32 rt):=RB5.cell 2
 have d3:w4.cell? ⟨b5,3,none⟩=some (.int .u8 fl):=RB5.cell 3
 have d4:w4.cell? ⟨b5,4,none⟩=some (.int .u8 ki):=RB5.cell 4
 have d5:w4.cell? ⟨b5,5,none⟩=some (.int .u32 ar):=RB5.cell 5
 have d6:w4.cell? ⟨b5,6,none⟩=some (.int .u32 co):=RB5.cell 6
 have d7:w4.cell? ⟨b5,7,none⟩=some (.int .u32 di):=RB5.cell 7
 have d8:w4.cell? ⟨b5,8,none⟩=some (.int .u32 tg):=RB5.cell 8
 have d9:w4.cell? ⟨b5,9,none⟩=some (.slice ua n1 uc):=RB5.cell 9
 have lc:=RB1.lt
 have ld:=RB5.lt
 have hEP:=eqPxx pa pb
 clear own t3 t4 HM RB1 RB5 e0 e1 e2 e3 e4 e5 e6 e7 e8 e9 le HOV hb1
 go_upto_region 2 with fail
 rw [←hw4]
 clear hw4 hb5
 have h00:∀z:Int,(z != z)=false:=fun z=>by simp
 go_wp2_with fail
 go_loopg [6] n1 (fun gg s6 wr=>∃k:Nat,k≤n1∧n1-k≤gg∧s6=.int .i64 k∧Touch (fun _=>False) w4 wr)
 case atStart=>exact⟨0,Nat.zero_le _,Nat.le_refl _,rfl,by first|exact Touch.refl _ _|exact (Touch.refl _ _).drewN _⟩
 case round =>
  obtain⟨k,hk,hg,rfl,ht⟩:=hrel
  have HTk:Hid (Touch (fun _=>False) w4 wr):=ht
  have k9:wr.cell? ⟨b1,9,none⟩=some (.slice a1 n1 c1):=ht.cellN f9
  have j9:wr.cell? ⟨b5,9,none⟩=some (.slice ua n1 uc):=ht.cellN d9
  have lk:=Qaa k9
  have lj:=Qaa j9
  clear f0 f1 f2 f3 f4 f5 f6 f7 f8 f9 d0 d1 d2 d3 d4 d5 d6 d7 d8 d9 lc ld ht hEP
  by_cases hlk:k<n1
  ·as_aux_lemma =>
   have hlk':(k:Int)<(n1:Int):=Qbi hlk
   have hk00:(0:Int)≤(k:Int):=Qbj _
   have hkw:wrap64 ((k:Int)+1)=(k:Int)+1:=Qe6 (Nat.le_trans (Nat.le_trans (Nat.le_of_lt hlk) HN6.out) (by decide))
   have HGK:Hid (k<n1∧n1-k≤gk):=⟨hlk,hg⟩
   obtain⟨h,hh⟩:=Qcq HN1.out hlk
   obtain⟨a3,q3,ea3,hs3⟩:=(HR1.out wr (HT4.out.trans HTk.out)).out
   simp only [Value.slice.injEq] at ea3
   obtain⟨rfl,-,rfl⟩:=ea3
   obtain⟨a4,q4,ea4,hs4⟩:=(HV3.ra (Qbd (Qab HOV4.out HTk.out (fun _ _ h=>h)))).out
   simp only [Value.slice.injEq] at ea4
   obtain⟨rfl,-,rfl⟩:=ea4
   rcases hs3 with e|⟨g3,o3,rfl,hc3⟩
   ·rw [e] at hh;cases hh
   rcases hs4 with e|⟨g4,o4,rfl,hc4⟩
   ·rw [e] at hh;cases hh
   have q0:wr.cell? ⟨g3,o3+k*3,none⟩=some (.int .u32 h.out):=hc3 k h hh 0 _ rfl
   have q1:wr.cell? ⟨g3,o3+k*3+1,none⟩=some (.int .u32 h.via):=hc3 k h hh 1 _ rfl
   have q2:wr.cell? ⟨g3,o3+k*3+2,none⟩=some (.bool h.vr):=hc3 k h hh 2 _ rfl
   have r0:wr.cell? ⟨g4,o4+k*3,none⟩=some (.int .u32 h.out):=hc4 k h hh 0 _ rfl
   have r1:wr.cell? ⟨g4,o4+k*3+1,none⟩=some (.int .u32 h.via):=hc4 k h hh 1 _ rfl
   have r2:wr.cell? ⟨g4,o4+k*3+2,none⟩=some (.bool h.vr):=hc4 k h hh 2 _ rfl
   have hEH:∀w,(Op.equalIn 10000 48 (.agg #[.int .u32 h.out,.int .u32 h.via,.bool h.vr]) (.agg #[.int .u32 h.out,.int .u32 h.via,.bool h.vr])).run Tryz.prog w=.ok true w:=fun w=>by have:=eqHop h h w;simpa using this
   clear hc3 hc4 hh hlk hg hk h00
   go_wp2_with fail
   go_big_quiet (fail)
   go_wp2_with fail
   go_roundg (n1-(k+1))
   case measure=>exact Qbo HGK.out.1 HGK.out.2
   case rel=>exact⟨k+1,HGK.out.1,Nat.le_refl _,by first|exact Qap hkw|exact Qap rfl,HTk.out.drewN _⟩
  ·as_aux_lemma =>
   have hlk':¬(k:Int)<(n1:Int):=Qbu hlk
   clear hlk hg hk h00
   go_wp2_with fail
   go_ret
   exact⟨rfl,HT4.out.trans HTk.out⟩
structure WVs (w:World) (v:Value) (N:List WY):Prop where
 sh:∃a c,v=.slice a N.length c∧RwAt WY.cs 10 w a N
 ra:∀y∈N,RA w y.hv y.x.hs
theorem WVs.keep {w w':World} {v:Value} {N:List WY} (h:WVs w v N) (t:Touch (fun _=>False) w w'):WVs w' v N:=by
 obtain⟨⟨a,c,e,hr⟩,h1⟩:=h
 refine⟨⟨a,c,e,?_⟩,fun y hy=>(h1 y hy).keep t⟩
 rcases hr with e|⟨g,o,rfl,hc⟩
 ·exact Or.inl e
 ·exact Or.inr ⟨g,o,rfl,fun i x hx d u hd=>t.cellN (hc i x hx d u hd)⟩
theorem WsAt.vs {w:World} {v:Value} {N:List WY} (h:WsAt w v N):WVs w v N:=⟨h.sh,fun y hy=>(h.ok y hy).ra⟩
structure WPr (w:World) (g1 o1 g2 o2:Nat) (y:WY) (hv:Value):Prop where
 a:w.rangeAt g1 o1 y.cs
 b:w.rangeAt g2 o2 (⟨y.x,hv⟩:WY).cs
theorem WPr.keep {w w':World} {g1 o1 g2 o2:Nat} {y:WY} {hv:Value} (h:WPr w g1 o1 g2 o2 y hv) (t:Touch (fun _=>False) w w'):WPr w' g1 o1 g2 o2 y hv:=⟨fun j v hj=>t.cellN (h.a j v hj),fun j v hj=>t.cellN (h.b j v hj)⟩
theorem Qd4 (va vb:Value) (N M:List WY) (w:World) (A:WVs w va N) (B:WVs w vb M) (he:M.map (·.x)=N.map (·.x)) (hn:N.length≤100000) (hl:∀y∈N,y.x.hs.length≤1000000) :
  Calls Tryz.prog 13 #[va,vb] w fun e w'=>e=.returned (.bool true)∧Touch (fun _=>False) w w':=by
 obtain⟨aa,ac,rfl,-⟩:=A.sh
 obtain⟨ba,bc,rfl,-⟩:=B.sh
 have hlen:M.length=N.length:=by have:=congrArg List.length he;simpa using this
 rw [hlen] at B ⊢
 have HA:Hid (∀w',Touch (fun _=>False) w w'→WVs w' (.slice aa N.length ac) N):=fun w' t=>A.keep t
 have HB:Hid (∀w',Touch (fun _=>False) w w'→WVs w' (.slice ba N.length bc) M):=fun w' t=>B.keep t
 have HL:Hid (∀y∈N,y.x.hs.length≤1000000):=hl
 have HE:Hid (∀(k:Nat) (y z:WY),N[k]?=some y→M[k]?=some z→z.x=y.x):=fun k y z h1 h2=>by
  have h3:=congrArg (fun l=>l[k]?) he
  simp only [List.getElem?_map,h1,h2,Option.map_some,Option.some.injEq] at h3
  exact h3
 generalize hN:N.length=n at *
 have HN:Hid (N.length=n):=hN
 have HM:Hid (M.length=n):=hlen
 have hn':(n:Int)≤100000:=by omega
 have HNB:Hid (n≤100000):=hn
 clear A B he hn hl hlen hN
 go_enter Tryz.func13,Tryz.ntmps13
 go_wp2_with fail
 go_loopg [5] n (fun gg s5 wr=>∃k:Nat,k≤n∧n-k≤gg∧s5=.int .i64 k∧Touch (fun _=>False) w wr)
 case atStart=>exact⟨0,Nat.zero_le _,Nat.le_refl _,rfl,Touch.refl _ _⟩
 case round =>
  obtain⟨k,hk,hg,rfl,ht⟩:=hrel
  have HT:Hid (Touch (fun _=>False) w wr):=ht
  clear ht
  by_cases hlt:k<n
  ·skip
   have hlt':(k:Int)<(n:Int):=Qbi hlt
   have hk00:(0:Int)≤(k:Int):=Qbj _
   have hkw:wrap64 ((k:Int)+1)=(k:Int)+1:=Qe6 (Nat.le_trans (Nat.le_trans (Nat.le_of_lt hlt) HNB.out) (by decide))
   have HGK:Hid (k<n∧n-k≤gk):=⟨hlt,hg⟩
   obtain⟨y,hy⟩:=Qcq HN.out hlt
   obtain⟨z,hz⟩:=Qcq HM.out hlt
   have hzx:=HE.out k y z hy hz
   have hA:=HA.out wr HT.out
   have hB:=HB.out wr HT.out
   have r1:=hA.ra y (List.mem_of_getElem? hy)
   have r2:=hB.ra z (List.mem_of_getElem? hz)
   rw [hzx] at r2
   obtain⟨a1,c1,e1,-⟩:=r1.out
   obtain⟨a2,c2,e2,-⟩:=r2.out
   obtain⟨a',c',ea,hra⟩:=hA.sh
   simp only [Value.slice.injEq] at ea
   obtain⟨rfl,-,rfl⟩:=ea
   obtain⟨b',d',eb,hrb⟩:=hB.sh
   simp only [Value.slice.injEq] at eb
   obtain⟨rfl,-,rfl⟩:=eb
   rcases hra with e|⟨g1,o1,rfl,hc1⟩
   ·rw [e] at hy;cases hy
   rcases hrb with e|⟨g2,o2,rfl,hc2⟩
   ·rw [e] at hz;cases hz
   have hzc:(⟨y.x,z.hv⟩:WY).cs=z.cs:=by unfold WY.cs;rw [hzx]
   have HW:Hid (WPr wr g1 (o1+k*10) g2 (o2+k*10) y z.hv):=⟨fun j v hj=>hc1 k y hy j v hj,fun j v hj=>hc2 k z hz j v (by rw [←hzc];exact hj)⟩
   have HQ:Hid (∀w',Touch (fun _=>False) wr w'→Calls Tryz.prog 35 #[.agg #[.int .u32 y.x.p.addr,.int .u8 y.x.p.bits,.int .u32 y.x.router,.int .u8 y.x.flags,.int .u8 y.x.kind,.int .u32 y.x.area,.int .u32 y.x.cost,.int .u32 y.x.dist,.int .u32 y.x.tag,.slice a1 y.x.hs.length c1],.agg #[.int .u32 y.x.p.addr,.int .u8 y.x.p.bits,.int .u32 y.x.router,.int .u8 y.x.flags,.int .u8 y.x.kind,.int .u32 y.x.area,.int .u32 y.x.cost,.int .u32 y.x.dist,.int .u32 y.x.tag,.slice a2 y.x.hs.length c2]] w' fun e w2=>e=.returned (.bool true)∧Touch (fun _=>False) w' w2):=fun w' t=>by
    have q1:=r1.keep t
    have q2:=r2.keep t
    rw [e1] at q1
    rw [e2] at q2
    exact Qne _ _ _ _ _ _ _ _ _ a1 a2 _ c1 c2 y.x.hs w' q1 q2 (HL.out y (List.mem_of_getElem? hy))
   have W1:Hid (∀w',WPr w' g1 (o1+k*10) g2 (o2+k*10) y z.hv→w'.rangeAt g1 (o1+k*10) [.int .u32 y.x.p.addr,.int .u8 y.x.p.bits,.int .u32 y.x.router,.int .u8 y.x.flags,.int .u8 y.x.kind,.int .u32 y.x.area,.int .u32 y.x.cost,.int .u32 y.x.dist,.int .u32 y.x.tag,.slice a1 y.x.hs.length c1]):=fun w' h=>by have:=h.a;unfold WY.cs at this;rw [e1] at this;exact this
   have W2:Hid (∀w',WPr w' g1 (o1+k*10) g2 (o2+k*10) y z.hv→w'.rangeAt g2 (o2+k*10) [.int .u32 y.x.p.addr,.int .u8 y.x.p.bits,.int .u32 y.x.router,.int .u8 y.x.flags,.int .u8 y.x.kind,.int .u32 y.x.area,.int .u32 y.x.cost,.int .u32 y.x.dist,.int .u32 y.x.tag,.slice a2 y.x.hs.length c2]):=fun w' h=>by have:=h.b;unfold WY.cs at this;rw [e2] at this;exact this
   generalize y.x.hs.length=hl at *
   clear hy hz hzc hzx hA hB r1 r2 e1 e2 hc1 hc2 hlt hg hk
   go_upto_region 6 with fail
   refine wp_region_held_drew (S:=fun w'=>WPr w' g1 (o1+k*10) g2 (o2+k*10) y z.hv) (by kernel_rfl) (HW.out.keep ((Touch.refl _ _).drew)) (fun hHeld=>?_)
   refine wpAnyH_take (i:=0) (oi:=⟨some 17,_,_,_,_,_⟩) (v:=.slice (some ⟨g1,o1,none⟩) n ac) rfl (by kernel_rfl) (by kernel_rfl) (by kernel_rfl) (fun _ _ _ h=>h) (Or.inl ⟨by rfl,fun w hw=>by go_simp⟩) (by assumption) ?_
   simp only [Act.put,Qw2,Qw3,Qw4]
   refine wpAnyH_take (i:=1) (oi:=⟨some 18,_,_,_,_,_⟩) (v:=.int .i64 k) rfl (by kernel_rfl) (by kernel_rfl) (by kernel_rfl) (fun _ _ _ h=>h) (Or.inl ⟨by rfl,fun w hw=>by go_simp⟩) (by assumption) ?_
   simp only [Act.put,Qw2,Qw3,Qw4]
   refine wpAnyH_take (i:=2) (oi:=⟨some 19,_,_,_,_,_⟩) (v:=.pointer (some ⟨g1,o1+k*10,none⟩)) rfl (by kernel_rfl) (by kernel_rfl) (by kernel_rfl) (fun _ _ _ h=>h) (Or.inl ⟨by rfl,fun w hw=>by go_simp⟩) (by assumption) ?_
   simp only [Act.put,Qw2,Qw3,Qw4]
   refine wpAnyH_take (i:=3) (oi:=⟨some 20,_,_,_,_,_⟩) (v:=.agg #[.int .u32 y.x.p.addr,.int .u8 y.x.p.bits,.int .u32 y.x.router,.int .u8 y.x.flags,.int .u8 y.x.kind,.int .u32 y.x.area,.int .u32 y.x.cost,.int .u32 y.x.dist,.int .u32 y.x.tag,.slice a1 hl c1]) rfl (by kernel_rfl) (by kernel_rfl) (by kernel_rfl) (fun _ _ _ h=>h) (yieldsIf_load_mid (by rfl) _ _ rfl _ _ rfl [.int .u32 y.x.p.addr,.int .u8 y.x.p.bits,.int .u32 y.x.router,.int .u8 y.x.flags,.int .u8 y.x.kind,.int .u32 y.x.area,.int .u32 y.x.cost,.int .u32 y.x.dist,.int .u32 y.x.tag,.slice a1 hl c1] _ (fun w h=>W1.out w h) Tryz.underlying45 rfl (by kernel_rfl)) (by assumption) ?_
   simp only [Act.put,Qw2,Qw3,Qw4]
   refine wpAnyH_take (i:=4) (oi:=⟨some 21,_,_,_,_,_⟩) (v:=.slice (some ⟨g2,o2,none⟩) n bc) rfl (by kernel_rfl) (by kernel_rfl) (by kernel_rfl) (fun _ _ _ h=>h) (Or.inl ⟨by rfl,fun w hw=>by go_simp⟩) (by assumption) ?_
   simp only [Act.put,Qw2,Qw3,Qw4]
   refine wpAnyH_take (i:=5) (oi:=⟨some 22,_,_,_,_,_⟩) (v:=.int .i64 k) rfl (by kernel_rfl) (by kernel_rfl) (by kernel_rfl) (fun _ _ _ h=>h) (Or.inl ⟨by rfl,fun w hw=>by go_simp⟩) (by assumption) ?_
   simp only [Act.put,Qw2,Qw3,Qw4]
   refine wpAnyH_take (i:=6) (oi:=⟨some 23,_,_,_,_,_⟩) (v:=.pointer (some ⟨g2,o2+k*10,none⟩)) rfl (by kernel_rfl) (by kernel_rfl) (by kernel_rfl) (fun _ _ _ h=>h) (Or.inl ⟨by rfl,fun w hw=>by go_simp⟩) (by assumption) ?_
   simp only [Act.put,Qw2,Qw3,Qw4]
   refine wpAnyH_take (i:=7) (oi:=⟨some 24,_,_,_,_,_⟩) (v:=.agg #[.int .u32 y.x.p.addr,.int .u8 y.x.p.bits,.int .u32 y.x.router,.int .u8 y.x.flags,.int .u8 y.x.kind,.int .u32 y.x.area,.int .u32 y.x.cost,.int .u32 y.x.dist,.int .u32 y.x.tag,.slice a2 hl c2]) rfl (by kernel_rfl) (by kernel_rfl) (by kernel_rfl) (fun _ _ _ h=>h) (yieldsIf_load_mid (by rfl) _ _ rfl _ _ rfl [.int .u32 y.x.p.addr,.int .u8 y.x.p.bits,.int .u32 y.x.router,.int .u8 y.x.flags,.int .u8 y.x.kind,.int .u32 y.x.area,.int .u32 y.x.cost,.int .u32 y.x.dist,.int .u32 y.x.tag,.slice a2 hl c2] _ (fun w h=>W2.out w h) Tryz.underlying84 rfl (by kernel_rfl)) (by assumption) ?_
   simp only [Act.put,Qw2,Qw3,Qw4]
   refine wpAnyH_ready (rs:=[8]) (by kernel_rfl) (by simp) ?_
   refine AllReadyH.cons (o:=⟨some 25,_,_,_,_,_⟩) rfl (fun K hK=>?_) AllReadyH.nil
   go_simp
   refine Calls.mono (HQ.out wr.drew ((Touch.refl _ _).drew)) ?_
   rintro e w2 ⟨rfl,t2⟩
   have T2:Touch (fun _=>False) wr w2:=((Touch.refl _ _).drew).trans t2
   have HT2:Hid (Touch (fun _=>False) w w2):=HT.out.trans T2
   refine hK.out _ _ (HW.out.keep T2) (fun hHeld=>?_)
   clear hK K t2 T2
   refine wpAnyH_take (i:=9) (oi:=⟨some 26,_,_,_,_,_⟩) (v:=.bool false) rfl (by kernel_rfl) (by kernel_rfl) (by kernel_rfl) (fun _ _ _ h=>h) (Or.inl ⟨by rfl,fun w hw=>by go_simp⟩) (by assumption) ?_
   simp only [Act.put,Qw2,Qw3,Qw4]
   refine wpAnyH_done (by kernel_rfl) ?_ _
   go_wp2_with fail
   go_roundg (n-(k+1))
   case measure=>exact Qbo HGK.out.1 HGK.out.2
   case rel=>exact⟨k+1,HGK.out.1,Nat.le_refl _,by first|exact Qap hkw|exact Qap rfl,HT2.out⟩
  ·have hlt':¬(k:Int)<(n:Int):=Qbu hlt
   clear hlt hg hk
   go_wp2_with fail
   go_ret
   exact⟨rfl,HT.out⟩
theorem infoHop6:(Tryz.prog.info? 103).map (fun i=>(i.zero,i.size,i.bytes))=some (some (.agg #[.int .u32 0,.int .u32 0,.bool false]),3,12):=by kernel_rfl
abbrev HD (w0 w:World) (v:Value) (l:List HK):Prop:=VBuf 103 3 w0 w v l.length (cellsG HK.cs l)
theorem HD.more {w0 w:World} {v:Value} {l l':List HK} {n:Nat} (hn:n=l.length+l'.length) (h:VBuf 103 3 w0 w v n (cellsG HK.cs l++cellsG HK.cs l')):HD w0 w v (l++l'):=by
 unfold HD
 rw [List.length_append,Qaq,←hn]
 exact h
theorem eqHop6 (x y:HK) (w:World):(Op.equalIn 10000 103 (.agg #[.int .u32 x.out,.int .u32 x.via,.bool x.vr]) (.agg #[.int .u32 y.out,.int .u32 y.via,.bool y.vr])).run Tryz.prog w=.ok (decide (x=y)) w:=by
 have hS:Tryz.prog.underlying 103=some (.struct (Tryz.prog.fieldsOf 103)):=by kernel_rfl
 rw [show (10000:Nat)=9999+1 from rfl,run_equalIn_agg w 9999 103 _ _ hS (by kernel_rfl)]
 simp only [Program.fieldsOf,Tryz.underlying103]
 go_simp
 obtain⟨a,b,c⟩:=x
 obtain⟨a',b',c'⟩:=y
 by_cases h1:a=a' <;> by_cases h2:b=b' <;> by_cases h3:c=c' <;> simp [h1,h2,h3]
theorem Qfq (x y:HK) (w:World):Calls Tryz.prog 83 #[.agg #[.int .u32 x.out,.int .u32 x.via,.bool x.vr],.agg #[.int .u32 y.out,.int .u32 y.via,.bool y.vr]] w fun e w'=>e=.returned (.bool (decide (cH x y<0)))∧Touch (fun _=>False) w w':=by
 have HE:Hid (decide (cH x y<0)=decide (x.out<y.out∨x.out=y.out∧(x.via<y.via∨x.via=y.via∧bz x.vr<bz y.vr))):=decide_eq_decide.2 (Qf2 x y)
 generalize decide (cH x y<0)=b at *
 obtain⟨x0,x1,x2⟩:=x
 obtain⟨y0,y1,y2⟩:=y
 have HL:Hid (b=decide (x0<y0∨x0=y0∧(x1<y1∨x1=y1∧bz x2<bz y2))):=HE.out
 clear HE
 by_cases h0:x0=y0
 ·subst h0
  by_cases h1:x1=y1
  ·subst h1
   have hb:b=(!x2&&y2):=by
    rw [HL.out]
    cases x2 <;> cases y2 <;> simp [bz]
   subst hb
   clear HL
   cases x2 <;> cases y2
   all_goals (go_enter Tryz.func83,Tryz.ntmps83;go_wp2_with fail;go_ret;exact⟨rfl,((Touch.refl _ _).alloc _).alloc _⟩)
  ·have hb:b=decide (x1<y1):=by
    rw [HL.out]
    exact decide_eq_decide.2 (by omega)
   subst hb
   have hne:(x1==y1)=false:=by simpa using h1
   clear HL
   go_enter Tryz.func83,Tryz.ntmps83
   go_wp2_with fail
   go_ret
   exact⟨rfl,((Touch.refl _ _).alloc _).alloc _⟩
 ·have hb:b=decide (x0<y0):=by
   rw [HL.out]
   exact decide_eq_decide.2 (by omega)
  subst hb
  have hne:(x0==y0)=false:=by simpa using h0
  clear HL
  go_enter Tryz.func83,Tryz.ntmps83
  go_wp2_with fail
  go_ret
  exact⟨rfl,((Touch.refl _ _).alloc _).alloc _⟩
end Go.Proofs.YtddbffoiadmffaaGreat
