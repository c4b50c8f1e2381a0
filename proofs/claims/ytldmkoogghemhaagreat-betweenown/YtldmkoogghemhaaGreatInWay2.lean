import Derived.Test.YtldmkoogghemhaaGreatInWay
import Derived.Test.YtldmkoogghemhaaGreatInRes1
namespace Go.Proofs.YtldmkoogghemhaaGreat
set_option maxHeartbeats 8000000
open Go.RowKit
set_option linter.unusedVariables false
set_option maxRecDepth 100000
structure WsR (l:List WY) (w:World) (k:Nat) (s:Value) (w':World):Prop where
 out:∃N:List WY,N.map (·.x)=(l.take k).map (·.x)∧WB1 w w' s N
structure WsP (w:World) (l:List WY) (e:Ending) (w':World):Prop where
 out:∃(v:Value) (N:List WY),e=.returned v∧WB1 w w' v N∧N.map (·.x)=l.map (·.x)
theorem Qhw (v:Value) (l:List WY) (w:World) (A:WsAt w v l) (hn:l.length≤60) (hb:∀y∈l,y.x.hs.length≤400) :
  Calls Tryz.prog 12 #[v] w (WsP w l):=by
 obtain⟨va,vc,rfl,hsh⟩:=A.sh
 have HA:Hid (∀w',Touch (fun _=>False) w w'→WsAt w' (.slice va l.length vc) l):=fun w' t=>A.keep t
 have HB:Hid (∀y∈l,y.x.hs.length≤400):=hb
 generalize hN:l.length=n at *
 have HN:Hid (l.length=n):=hN
 have hn':(n:Int)≤60:=by omega
 clear A hsh hb hN
 go_enter Tryz.func12,Tryz.ntmps12
 go_wp2_with fail
 go_loopw [3,4] (fun s3 s4 wr=>∃k:Nat,k≤n∧s4=.int .i64 k∧WsR l w k s3 wr) (fun _ s4 _=>n-(intOf s4).toNat)
 case atStart=>exact⟨0,Nat.zero_le _,rfl,[],rfl,WB1.nil (Touch.refl _ _)⟩
 case round =>
  obtain⟨k,hk,rfl,L,hLx,hW⟩:=hrel
  have HLX:Hid (L.map (·.x)=(l.take k).map (·.x)):=hLx
  have HWB:Hid (WB1 w wr _ L):=hW
  have hLk:L.length=k:=by
   have:=congrArg List.length hLx
   simp only [List.length_map,List.length_take] at this
   have:=HN.out
   omega
  have HLK:Hid (L.length=k):=hLk
  obtain⟨pa0,pc0,rfl⟩:=Qal hW.b.own
  rw [hLk] at HWB ⊢
  clear hLx hW hLk
  by_cases hlt:k<n
  ·have hlt':(k:Int)<(n:Int):=by omega
   have hk00:(0:Int)≤(k:Int):=by omega
   have hkw:wrap64 ((k:Int)+1)=(k:Int)+1:=by unfold wrap64;omega
   obtain⟨y,hy⟩:∃y,l[k]?=some y:=⟨l[k]'(by have:=HN.out;omega),by simp⟩
   have at1:=HA.out wr HWB.out.b.t
   obtain⟨a',c',ea,hsh⟩:=at1.sh
   simp only [Value.slice.injEq] at ea
   obtain⟨rfl,-,rfl⟩:=ea
   have yin:=at1.ok y (List.mem_of_getElem? hy)
   obtain⟨ha,hcp,eh,-⟩:=yin.ra.out
   rcases hsh with e|⟨g,oo,rfl,hc⟩
   ·rw [e] at hy;cases hy
   have e0:wr.cell? ⟨g,oo+k*10,none⟩=some (.int .u32 y.x.p.addr):=hc k y hy 0 _ rfl
   have e1:wr.cell? ⟨g,oo+k*10+1,none⟩=some (.int .u8 y.x.p.bits):=hc k y hy 1 _ rfl
   have e2:wr.cell? ⟨g,oo+k*10+2,none⟩=some (.int .u32 y.x.router):=hc k y hy 2 _ rfl
   have e3:wr.cell? ⟨g,oo+k*10+3,none⟩=some (.int .u8 y.x.flags):=hc k y hy 3 _ rfl
   have e4:wr.cell? ⟨g,oo+k*10+4,none⟩=some (.int .u8 y.x.kind):=hc k y hy 4 _ rfl
   have e5:wr.cell? ⟨g,oo+k*10+5,none⟩=some (.int .u32 y.x.area):=hc k y hy 5 _ rfl
   have e6:wr.cell? ⟨g,oo+k*10+6,none⟩=some (.int .u32 y.x.cost):=hc k y hy 6 _ rfl
   have e7:wr.cell? ⟨g,oo+k*10+7,none⟩=some (.int .u32 y.x.dist):=hc k y hy 7 _ rfl
   have e8:wr.cell? ⟨g,oo+k*10+8,none⟩=some (.int .u32 y.x.tag):=hc k y hy 8 _ rfl
   have e9:wr.cell? ⟨g,oo+k*10+9,none⟩=some (.slice ha y.x.hs.length hcp):=by rw [←eh];exact hc k y hy 9 _ rfl
   have le:=Qaa e0
   have HM:=Qmm y.x.p.addr y.x.p.bits y.x.router y.x.flags y.x.kind y.x.area y.x.cost y.x.dist y.x.tag ha y.x.hs.length hcp y.x.hs wr (by rw [←eh];exact yin.ra) (by have:=HB.out y (List.mem_of_getElem? hy);omega)
   have HTK:Hid ((l.take (k+1)).map (·.x)=(l.take k).map (·.x)++[y.x]):=by show _=_;rw [List.take_add_one,hy,List.map_append];rfl
   have HYX:Hid (y.x=⟨⟨y.x.p.addr,y.x.p.bits⟩,y.x.router,y.x.flags,y.x.kind,y.x.area,y.x.cost,y.x.dist,y.x.tag,y.x.hs⟩):=rfl
   clear hc hy yin eh at1
   generalize hy0:y.x.hs=hs0 at *
   generalize y.x=x0 at *
   clear hy0
   generalize x0.p.addr=pa at *
   generalize x0.p.bits=pb at *
   generalize x0.router=rt at *
   generalize x0.flags=fl at *
   generalize x0.kind=ki at *
   generalize x0.area=ar at *
   generalize x0.cost=co at *
   generalize x0.dist=di at *
   generalize x0.tag=tg at *
   generalize hs0.length=hl0 at *
   go_wp2_with fail
   refine HM.mono ?_
   rintro e w2 ⟨⟨v2,rfl,own2⟩,t2⟩
   obtain⟨ua,uc,rfl⟩:=Qal own2
   have HO2:Hid _:=own2
   have HT2:Hid (Touch (fun _=>False) wr w2):=t2
   have HW2:Hid (WB1 w w2 (.slice pa0 k pc0) L):=HWB.out.keep t2
   have RA:=Qac w2 47 #[.int .u32 pa,.int .u8 pb,.int .u32 rt,.int .u8 fl,.int .u8 ki,.int .u32 ar,.int .u32 co,.int .u32 di,.int .u32 tg,.slice ua hs0.length uc]
   have TA:Touch (fun _=>False) w2 (w2.alloc (.cells #[.int .u32 pa,.int .u8 pb,.int .u32 rt,.int .u8 fl,.int .u8 ki,.int .u32 ar,.int .u32 co,.int .u32 di,.int .u32 tg,.slice ua hs0.length uc] 47)):=(Touch.refl _ _).alloc _
   have HTA:Hid _:=TA
   have HOA:Hid ((w2.alloc (.cells #[.int .u32 pa,.int .u8 pb,.int .u32 rt,.int .u8 fl,.int .u8 ki,.int .u32 ar,.int .u32 co,.int .u32 di,.int .u32 tg,.slice ua hs0.length uc] 47)).ownsRow w.heap.size 47 10 (.slice pa0 k pc0) k (cellsG WY.cs L)):=by have:=HW2.out.b.own;rw [HLK.out] at this;exact Qab this TA (fun _ _ h=>h)
   have HNA:Hid (∀(j:Nat) u,([.int .u32 pa,.int .u8 pb,.int .u32 rt,.int .u8 fl,.int .u8 ki,.int .u32 ar,.int .u32 co,.int .u32 di,.int .u32 tg,.slice ua hs0.length uc]:List Value)[j]?=some u→(w2.alloc (.cells #[.int .u32 pa,.int .u8 pb,.int .u32 rt,.int .u8 fl,.int .u8 ki,.int .u32 ar,.int .u32 co,.int .u32 di,.int .u32 tg,.slice ua hs0.length uc] 47)).cell? ((⟨w2.heap.size,0,none⟩:Addr).add j)=some u):=fun j u hj=>by rw [Qah,Nat.zero_add,RA.cell j];exact hj
   have HSZ:Hid (w.heap.size≤(w2.alloc (.cells #[.int .u32 pa,.int .u8 pb,.int .u32 rt,.int .u8 fl,.int .u8 ki,.int .u32 ar,.int .u32 co,.int .u32 di,.int .u32 tg,.slice ua hs0.length uc] 47)).heap.size):=(HW2.out.b.t.trans TA).size
   clear own2 t2 HM RA TA e0 e1 e2 e3 e4 e5 e6 e7 e8 e9
   generalize hl2e:hs0.length=hl2 at *
   have HL2E:Hid (hs0.length=hl2):=hl2e
   clear hl2e
   go_wp2_with (at_builtin;refine Qce rfl (.tmp 11) (.tmp 17) 31 rfl 47 10 56 (.agg #[.int .u32 0,.int .u8 0,.int .u32 0,.int .u8 0,.int .u8 0,.int .u32 0,.int .u32 0,.int .u32 0,.int .u32 0,.slice none 0 0]) Tryz.underlying31 infoWay rfl (by decide) (by decide) w.heap.size (.slice pa0 k pc0) k _ rfl HOA.out HSZ.out ⟨w2.heap.size,0,none⟩ 1 1 [.int .u32 pa,.int .u8 pb,.int .u32 rt,.int .u8 fl,.int .u8 ki,.int .u32 ar,.int .u32 co,.int .u32 di,.int .u32 tg,.slice ua hl2 uc] rfl rfl HNA.out ?c2 (by omega) ?_)
   case c2=>intro u hu;simp at hu;rcases hu with rfl|rfl|rfl|rfl|rfl|rfl|rfl|rfl|rfl|rfl <;> rfl
   intro v' w' hown TG
   have HWN:Hid (WsR l w (k+1) v' w'):=by
    refine⟨L++[⟨⟨⟨pa,pb⟩,rt,fl,ki,ar,co,di,tg,hs0⟩,.slice ua hl2 uc⟩],?_,⟨⟨?_,?_⟩,fun z hz=>?_⟩⟩
    ·rw [List.map_append,HLX.out,HTK.out,HYX.out]
     rfl
    ·rw [List.length_append,Qap,HLK.out]
     exact hown
    ·exact (HW2.out.b.t.trans HTA.out).trans' TG (fun i hi h=>by have:=(HOA.out.lt i h).1;omega)
    ·have kh:∀v l,HO w2 v l→HO w' v l:=fun v l hv=>Qab (Qab hv HTA.out (fun _ _ h=>h)) TG (Qa1 (Qab hv HTA.out (fun _ _ h=>h)) HOA.out (by decide))
     rcases List.mem_append.1 hz with hz|hz
     ·exact kh _ _ (HW2.out.h z hz)
     ·obtain rfl:z=⟨⟨⟨pa,pb⟩,rt,fl,ki,ar,co,di,tg,hs0⟩,.slice ua hl2 uc⟩:=by simpa using hz
      refine kh _ _ ?_
      have h2:=HO2.out
      rw [←HL2E.out] at h2 ⊢
      exact Qak h2 (Nat.zero_le _)
   obtain⟨f1,f2,rfl⟩:=Qal hown
   clear hown TG HOA HNA HW2 HO2
   go_wp2_with fail
   go_roundw
   case rel=>exact⟨k+1,by omega,by go_num,HWN.out⟩
   case measure=>first|exact Qax hlt hkw|exact Qax hlt rfl
  ·have hlt':¬(k:Int)<(n:Int):=by omega
   have HF:Hid (WB1 w wr (.slice pa0 k pc0) L∧L.map (·.x)=l.map (·.x)):=⟨HWB.out,by rw [HLX.out,List.take_of_length_le (by have:=HN.out;omega)]⟩
   go_wp2_with fail
   go_ret
   exact⟨_,L,rfl,HF.out.1,HF.out.2⟩
end Go.Proofs.YtldmkoogghemhaaGreat
