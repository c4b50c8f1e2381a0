import Derived.Shelf.SlSortCmp.WholeK
import Derived.Shelf.SlGeneric
import Derived.Ground.SlsfProg
import Derived.Shelf.SlSortCmp.NoneTotal
import Derived.Test.YtddbffoiadmffaaGreatRows
import Derived.Test.YtddbffoiadmffaaGreatInCast
import Derived.Deep.RegionHeld2
namespace Go.Proofs.YtddbffoiadmffaaGreat
set_option maxHeartbeats 8000000
open Go.Shelf
def sortSd_ren:Go.Shelf.Ren:=⟨fun|6=>148|15=>87|14=>181|28=>129|29=>130|20=>215|21=>216|22=>217|23=>218|24=>219|25=>220|26=>221|27=>222|46=>244|47=>162|48=>163|49=>245|50=>246|57=>252|n=>n,fun|22=>121|24=>125|25=>258|3=>3|39=>188|0=>0|53=>23|55=>46|4=>4|46=>228|45=>227|50=>97|5=>5|9=>9|66=>270|70=>274|76=>309|77=>277|n=>n,fun|n=>n⟩
theorem sortSd:Go.Proofs.SlLaysF0.n6 Tryz.prog sortSd_ren:={
 mixed:=by kernel_rfl
 f6:=⟨Tryz.f148.name,by decide,Tryz.func148.trans (congrArg some (by kernel_rfl))⟩
 f14:=⟨Tryz.f181.name,by decide,Tryz.func181.trans (congrArg some (by kernel_rfl))⟩
 f15:=Tryz.func87.trans (congrArg some (by kernel_rfl))
 f20:=⟨Tryz.f215.name,by decide,Tryz.func215.trans (congrArg some (by kernel_rfl))⟩
 f21:=⟨Tryz.f216.name,by decide,Tryz.func216.trans (congrArg some (by kernel_rfl))⟩
 f22:=⟨Tryz.f217.name,by decide,Tryz.func217.trans (congrArg some (by kernel_rfl))⟩
 f23:=⟨Tryz.f218.name,by decide,Tryz.func218.trans (congrArg some (by kernel_rfl))⟩
 f24:=⟨Tryz.f219.name,by decide,Tryz.func219.trans (congrArg some (by kernel_rfl))⟩
 f25:=⟨Tryz.f220.name,by decide,Tryz.func220.trans (congrArg some (by kernel_rfl))⟩
 f26:=⟨Tryz.f221.name,by decide,Tryz.func221.trans (congrArg some (by kernel_rfl))⟩
 f27:=⟨Tryz.f222.name,by decide,Tryz.func222.trans (congrArg some (by kernel_rfl))⟩
 f28:=Tryz.func129.trans (congrArg some (by kernel_rfl))
 f29:=Tryz.func130.trans (congrArg some (by kernel_rfl))
 f46:=⟨Tryz.f244.name,by decide,Tryz.func244.trans (congrArg some (by kernel_rfl))⟩
 f47:=Tryz.func162.trans (congrArg some (by kernel_rfl))
 f48:=Tryz.func163.trans (congrArg some (by kernel_rfl))
 f49:=⟨Tryz.f245.name,by decide,Tryz.func245.trans (congrArg some (by kernel_rfl))⟩
 f50:=⟨Tryz.f246.name,by decide,Tryz.func246.trans (congrArg some (by kernel_rfl))⟩
 f57:=⟨Tryz.f252.name,by decide,Tryz.func252.trans (congrArg some (by kernel_rfl))⟩
 t0:=Tryz.underlying0
 a0:=Tryz.isAgg0
 z0:=Tryz.sizeOf0
 v0:=Tryz.zeroValue0
 t3:=Tryz.underlying3
 a3:=Tryz.isAgg3
 z3:=Tryz.sizeOf3
 v3:=Tryz.zeroValue3
 t4:=Tryz.underlying4
 a4:=Tryz.isAgg4
 z4:=Tryz.sizeOf4
 v4:=Tryz.zeroValue4
 t5:=Tryz.underlying5
 a5:=Tryz.isAgg5
 z5:=Tryz.sizeOf5
 v5:=Tryz.zeroValue5
 t9:=Tryz.underlying9
 a9:=Tryz.isAgg9
 z9:=Tryz.sizeOf9
 v9:=Tryz.zeroValue9
 t22:=Tryz.underlying121
 a22:=Tryz.isAgg121
 z22:=Tryz.sizeOf121
 v22:=Tryz.zeroValue121
 t25:=Tryz.underlying258
 a25:=Tryz.isAgg258
 z25:=Tryz.sizeOf258
 v25:=Tryz.zeroValue258
 t39:=Tryz.underlying188
 a39:=Tryz.isAgg188
 z39:=Tryz.sizeOf188
 v39:=Tryz.zeroValue188
 t45:=Tryz.underlying227
 a45:=Tryz.isAgg227
 z45:=Tryz.sizeOf227
 v45:=Tryz.zeroValue227
 t46:=Tryz.underlying228
 a46:=Tryz.isAgg228
 z46:=Tryz.sizeOf228
 v46:=Tryz.zeroValue228
 t50:=Tryz.underlying97
 a50:=Tryz.isAgg97
 z50:=Tryz.sizeOf97
 v50:=Tryz.zeroValue97
 t53:=Tryz.underlying23
 a53:=Tryz.isAgg23
 z53:=Tryz.sizeOf23
 v53:=Tryz.zeroValue23
 t55:=Tryz.underlying46
 a55:=Tryz.isAgg46
 z55:=Tryz.sizeOf46
 v55:=Tryz.zeroValue46
 t66:=Tryz.underlying270
 a66:=Tryz.isAgg270
 z66:=Tryz.sizeOf270
 v66:=Tryz.zeroValue270
 t70:=Tryz.underlying274
 a70:=Tryz.isAgg274
 z70:=Tryz.sizeOf274
 v70:=Tryz.zeroValue274
 t76:=Tryz.underlying309
 a76:=Tryz.isAgg309
 z76:=Tryz.sizeOf309
 v76:=Tryz.zeroValue309
 t77:=Tryz.underlying277
 a77:=Tryz.isAgg277
 z77:=Tryz.sizeOf277
 v77:=Tryz.zeroValue277 }
open Go.RowKit
set_option linter.unusedVariables false
set_option maxRecDepth 100000
def RdAns (t:Int) (rs:List Int) (w:World):Ending→World→Prop:=fun e w' =>
 (∃B vl vr vd,e=.returned (B.v vl vr vd)∧decB t rs=some B∧BOwn w.heap.size w' B vl vr vd∧Touch (fun _=>False) w w')∨(e=.panicked (flawC 28)∧decB t rs=none∧Touch (fun _=>False) w w')
theorem Qms (N b:Nat) (rs:List Int) (w:World) (h:Rdr N w b rs none):Calls Tryz.prog 179 #[.pointer (some ⟨b,0,none⟩)] w fun e w'=>e=.returned (.int .i64 0)∧∃n,w'=w.drewN n:=Qrr N b rs none w h
theorem Qdt (N b p:Nat) (rs:List Int) (w:World) (h:Rdr N w b rs (some p)):Calls Tryz.prog 179 #[.pointer (some ⟨b,0,none⟩)] w fun e w'=>e=.returned (.int .i64 ((rs.length:Int)-p))∧∃n,w'=w.drewN n:=Qrr N b rs (some p) w h
theorem Qpi (G1 G2:Nat) (hG:∀(x:Array Value) w,(callFunc G2 x).run Tryz.prog w=.ok (.enter G2 x) w) (t:Int) (v:Value) (rs:List Int) (w:World) (hv:ArgAt w v rs) (hby:∀z∈rs,0≤z∧z<256) (hl:rs.length≤1000000)
  (HR:∀(N b:Nat) (w:World),Rdr N w b rs (some 0)→N≤w.heap.size→Calls Tryz.prog G2 #[.agg #[.pointer (some ⟨b,0,none⟩)]] w (RdPost t N b rs w)) :
  Calls Tryz.prog 145 #[.agg #[.func (.func G1) #[] #[],.func (.func G2) #[] #[]],v] w (RdAns t rs w):=by
 have hsf:∀(w:World) (a:Addr) (f:Fn) (x y:Array Value) (m:Mode),(store a (.func f x y) m).run Tryz.prog w=stored Tryz.prog w a (.func f x y) m:=fun w a f x y m=>run_store Tryz.prog w a _ m rfl
 have HVA:Hid (ArgAt w v rs):=hv
 have HBy:Hid (∀z∈rs,0≤z∧z<256):=hby
 have HRs:Hid (∀(N b:Nat) (w:World),Rdr N w b rs (some 0)→N≤w.heap.size→Calls Tryz.prog G2 #[.agg #[.pointer (some ⟨b,0,none⟩)]] w (RdPost t N b rs w)):=HR
 clear hv hby HR
 go_enter Tryz.func145,Tryz.ntmps145
 go_wp2_with fail
 refine Calls.mono (Qu9 v rs _ (HVA.out.keepN (((Touch.refl _ _).alloc _).alloc _)) HBy.out (by omega)) ?_
 rintro e w1 ⟨b,rfl,hb,hr,t1⟩
 have R1:Hid (Room w1 (w.heap.size+1) 9):=by
  have:=(Room.new (w.alloc (.cells #[.func (.func G1) #[] #[],.func (.func G2) #[] #[]] 248)) #[.int .u8 0,.slice none 0 0,.int .u32 0,.slice none 0 0,.int .u32 0,.bool false,.int .u32 0,.int .u32 0,.slice none 0 0] 119).keep t1
  show Room _ _ _
  simpa using this
 have c0:w1.cell? ⟨w.heap.size,0,none⟩=some (.func (.func G1) #[] #[]):=t1.cellN (by simp [go_sem])
 have c1:w1.cell? ⟨w.heap.size,1,none⟩=some (.func (.func G2) #[] #[]):=t1.cellN (by simp [go_sem])
 have T1:Hid (Touch (fun _=>False) w w1):=(((Touch.refl _ w).alloc _).alloc _).trans t1
 have hbw:w.heap.size+1<b:=by simp at hb;omega
 have hs1:w.heap.size+1<w1.heap.size:=by have:=t1.size;simp at this;omega
 have hlt:w.heap.size<w1.heap.size:=by omega
 have hbl:b<w1.heap.size:=hr.low
 have hn1:¬w.heap.size=w1.heap.size:=by omega
 have HR:Hid (Rdr w1.heap.size w1 b rs (some 0)):=hr
 clear t1 hb hr
 go_wp2_with fail
 refine Calls.mono (HRs.out w1.heap.size b _ (HR.out.keep ((Touch.refl _ _).alloc _)) (by simp)) ?_
 rintro e w2 (⟨B,vl,vr,vd,q,rfl,h2,o2,t2,hd⟩|⟨rfl,t2,hd⟩)
 rotate_left
 ·exact⟨rfl,Or.inr ⟨rfl,hd,(T1.out.alloc _).trans' t2 (fun i hi e=>by omega)⟩⟩
 have c2:w2.cell? ⟨w1.heap.size,0,none⟩=some (.pointer (some ⟨b,0,none⟩)):=(t2.cell (p:=⟨w1.heap.size,0,none⟩) (by simp) (by show ¬w1.heap.size=b;omega)).trans (by simp [go_sem])
 have R2:Hid (Room w2 (w.heap.size+1) 9):=(R1.out.keep ((Touch.refl _ _).alloc _)).touch t2 (by show ¬w.heap.size+1=b;omega)
 have T2:Hid (Touch (fun _=>False) w w2):=(T1.out.alloc _).trans' t2 (fun i hi e=>by omega)
 have hs2:w1.heap.size<w2.heap.size:=by have:=t2.size;simp at this;omega
 have H2:Hid (Rdr w1.heap.size w2 b rs q):=h2
 have hn3:¬w1.heap.size=w2.heap.size:=by omega
 have O2:Hid (BOwn (w1.heap.size+1) w2 B vl vr vd):=by show BOwn _ _ _ _ _ _;simpa using o2
 have HD:Hid (decB t rs=(if q=some rs.length then some B else none)):=hd
 obtain⟨a1,q1,a3,q3,a8,q8,rfl,rfl,rfl⟩:=o2.form
 clear t2 h2 HRs HR R1 T1 c0 c1 hsf o2 hd hG
 unfold BV.v
 have TB:Hid (Touch (fun _=>False) w (w2.alloc (.cells #[.int .u8 B.flags,.slice a1 B.links.length q1,.int .u32 B.mask,.slice a3 B.routers.length q3,.int .u32 B.metric,.bool B.type2,.int .u32 B.fwd,.int .u32 B.tag,.slice a8 B.data.length q8] 119))):=T2.out.alloc _
 cases q with
 | none =>
  go_wp2_with (first|(go_at_call 178;refine Calls.mono (Qq6 _ b rs _ (H2.out.keep ((Touch.refl _ _).alloc _))) ?_;rintro e wx ⟨rfl,rfl⟩)|(go_at_call 140;refine Calls.mono (Qb1 _ 28 _ rfl) ?_;rintro e wx ⟨rfl,rfl⟩))
  exact⟨rfl,Or.inr ⟨rfl,by rw [HD.out,if_neg (by simp)],TB.out⟩⟩
 | some p =>
  have hpl:p≤rs.length:=H2.out.ple
  by_cases hp:p=rs.length
  ·subst hp
   have HDD:Hid (decB t rs=some B):=by show _=_;rw [HD.out,if_pos rfl]
   have hzz:((rs.length:Int)-(rs.length:Int))=0:=by omega
   have HLF:∀(N b:Nat) (w:World),Rdr N w b rs (some rs.length)→Calls Tryz.prog 179 #[.pointer (some ⟨b,0,none⟩)] w fun e w'=>e=.returned (.int .i64 0)∧∃n,w'=w.drewN n:=fun N b w h=>by
    have:=Qdt N b rs.length rs w h
    rwa [hzz] at this
   clear hzz hpl HD
   go_upto_region 4 with (first|(go_at_call 178;refine Calls.mono (Qjh _ b rs rs.length _ (H2.out.keep ((Touch.refl _ _).alloc _))) ?_;rintro e wx ⟨rfl,rfl⟩)|(go_at_call 179;refine Calls.mono (HLF _ b _ (H2.out.keep ((Touch.refl _ _).alloc _))) ?_;rintro e wx ⟨rfl,nl,rfl⟩)|(go_at_call 140;refine Calls.mono (Qbk _ 28 _ rfl) ?_;rintro e wx ⟨rfl,rfl⟩))
   have O3:OutB ((w2.alloc (.cells #[.int .u8 B.flags,.slice a1 B.links.length q1,.int .u32 B.mask,.slice a3 B.routers.length q3,.int .u32 B.metric,.bool B.type2,.int .u32 B.fwd,.int .u32 B.tag,.slice a8 B.data.length q8] 119)).drewN nl) w2.heap.size B (.slice a1 B.links.length q1) (.slice a3 B.routers.length q3) (.slice a8 B.data.length q8):=(OutB.new w2 B (.slice a1 B.links.length q1) (.slice a3 B.routers.length q3) (.slice a8 B.data.length q8) 119).keep ((Touch.refl _ _).drewN nl)
   have R3:Hid (Room ((w2.alloc (.cells #[.int .u8 B.flags,.slice a1 B.links.length q1,.int .u32 B.mask,.slice a3 B.routers.length q3,.int .u32 B.metric,.bool B.type2,.int .u32 B.fwd,.int .u32 B.tag,.slice a8 B.data.length q8] 119)).drewN nl) (w.heap.size+1) 9):=R2.out.keep (((Touch.refl _ _).alloc _).drewN nl)
   have T3:Hid (Touch (fun _=>False) w ((w2.alloc (.cells #[.int .u8 B.flags,.slice a1 B.links.length q1,.int .u32 B.mask,.slice a3 B.routers.length q3,.int .u32 B.metric,.bool B.type2,.int .u32 B.fwd,.int .u32 B.tag,.slice a8 B.data.length q8] 119)).drewN nl)):=(T2.out.alloc _).drewN nl
   have P3:Hid (BOwn (w1.heap.size+1) ((w2.alloc (.cells #[.int .u8 B.flags,.slice a1 B.links.length q1,.int .u32 B.mask,.slice a3 B.routers.length q3,.int .u32 B.metric,.bool B.type2,.int .u32 B.fwd,.int .u32 B.tag,.slice a8 B.data.length q8] 119)).drewN nl) B (.slice a1 B.links.length q1) (.slice a3 B.routers.length q3) (.slice a8 B.data.length q8)):=O2.out.keep (((Touch.refl _ _).alloc _).drewN nl)
   clear R2 T2 H2 HLF c2 TB O2
   generalize (w2.alloc (.cells #[.int .u8 B.flags,.slice a1 B.links.length q1,.int .u32 B.mask,.slice a3 B.routers.length q3,.int .u32 B.metric,.bool B.type2,.int .u32 B.fwd,.int .u32 B.tag,.slice a8 B.data.length q8] 119)).drewN nl=w3 at *
   obtain⟨⟨d0,d1,d2,d3,d4,d5,d6,d7,d8⟩,-⟩:=O3
   have hm1:¬w.heap.size+1=w2.heap.size:=by omega
   have hm2:¬w2.heap.size=w.heap.size+1:=by omega
   generalize hg:w.heap.size+1=g at *
   have HG:Hid (w.heap.size+1=g):=hg
   have HS1:Hid (g<w1.heap.size):=hs1
   clear hg
   obtain⟨zz0,zc0,zf0⟩:=R3.out 0 (by omega)
   obtain⟨zz1,zc1,zf1⟩:=R3.out 1 (by omega)
   obtain⟨zz2,zc2,zf2⟩:=R3.out 2 (by omega)
   obtain⟨zz3,zc3,zf3⟩:=R3.out 3 (by omega)
   obtain⟨zz4,zc4,zf4⟩:=R3.out 4 (by omega)
   obtain⟨zz5,zc5,zf5⟩:=R3.out 5 (by omega)
   obtain⟨zz6,zc6,zf6⟩:=R3.out 6 (by omega)
   obtain⟨zz7,zc7,zf7⟩:=R3.out 7 (by omega)
   obtain⟨zz8,zc8,zf8⟩:=R3.out 8 (by omega)
   obtain⟨wz,hwz⟩:∃wz,wz=(((((((((w3.setCell ⟨g,0,none⟩ (.int .u8 B.flags)).setCell ⟨g,1,none⟩ (.slice a1 B.links.length q1)).setCell ⟨g,2,none⟩ (.int .u32 B.mask)).setCell ⟨g,3,none⟩ (.slice a3 B.routers.length q3)).setCell ⟨g,4,none⟩ (.int .u32 B.metric)).setCell ⟨g,5,none⟩ (.bool B.type2)).setCell ⟨g,6,none⟩ (.int .u32 B.fwd)).setCell ⟨g,7,none⟩ (.int .u32 B.tag)).setCell ⟨g,8,none⟩ (.slice a8 B.data.length q8)):=⟨_,rfl⟩
   have zd0:wz.cell? ⟨g,0,none⟩=some (.int .u8 B.flags):=by rw [hwz];simp [zc0,go_sem]
   have zd1:wz.cell? ⟨g,1,none⟩=some (.slice a1 B.links.length q1):=by rw [hwz];simp [zc1,go_sem]
   have zd2:wz.cell? ⟨g,2,none⟩=some (.int .u32 B.mask):=by rw [hwz];simp [zc2,go_sem]
   have zd3:wz.cell? ⟨g,3,none⟩=some (.slice a3 B.routers.length q3):=by rw [hwz];simp [zc3,go_sem]
   have zd4:wz.cell? ⟨g,4,none⟩=some (.int .u32 B.metric):=by rw [hwz];simp [zc4,go_sem]
   have zd5:wz.cell? ⟨g,5,none⟩=some (.bool B.type2):=by rw [hwz];simp [zc5,go_sem]
   have zd6:wz.cell? ⟨g,6,none⟩=some (.int .u32 B.fwd):=by rw [hwz];simp [zc6,go_sem]
   have zd7:wz.cell? ⟨g,7,none⟩=some (.int .u32 B.tag):=by rw [hwz];simp [zc7,go_sem]
   have zd8:wz.cell? ⟨g,8,none⟩=some (.slice a8 B.data.length q8):=by rw [hwz];simp [zc8,go_sem]
   have HUz:Hid (Touch (fun k=>k=g) w3 wz):=by show Touch _ _ _;rw [hwz];refine Touch.setCell (F:=fun k=>k=g) (p:=⟨g,8,none⟩) ?_ (Or.inl rfl) _;refine Touch.setCell (F:=fun k=>k=g) (p:=⟨g,7,none⟩) ?_ (Or.inl rfl) _;refine Touch.setCell (F:=fun k=>k=g) (p:=⟨g,6,none⟩) ?_ (Or.inl rfl) _;refine Touch.setCell (F:=fun k=>k=g) (p:=⟨g,5,none⟩) ?_ (Or.inl rfl) _;refine Touch.setCell (F:=fun k=>k=g) (p:=⟨g,4,none⟩) ?_ (Or.inl rfl) _;refine Touch.setCell (F:=fun k=>k=g) (p:=⟨g,3,none⟩) ?_ (Or.inl rfl) _;refine Touch.setCell (F:=fun k=>k=g) (p:=⟨g,2,none⟩) ?_ (Or.inl rfl) _;refine Touch.setCell (F:=fun k=>k=g) (p:=⟨g,1,none⟩) ?_ (Or.inl rfl) _;refine Touch.setCell (F:=fun k=>k=g) (p:=⟨g,0,none⟩) ?_ (Or.inl rfl) _;exact Touch.refl _ _
   have HWz:Hid (wz=(((((((((w3.setCell ⟨g,0,none⟩ (.int .u8 B.flags)).setCell ⟨g,1,none⟩ (.slice a1 B.links.length q1)).setCell ⟨g,2,none⟩ (.int .u32 B.mask)).setCell ⟨g,3,none⟩ (.slice a3 B.routers.length q3)).setCell ⟨g,4,none⟩ (.int .u32 B.metric)).setCell ⟨g,5,none⟩ (.bool B.type2)).setCell ⟨g,6,none⟩ (.int .u32 B.fwd)).setCell ⟨g,7,none⟩ (.int .u32 B.tag)).setCell ⟨g,8,none⟩ (.slice a8 B.data.length q8))):=hwz
   clear hwz
   go_wp2_with fail
   rw [←HWz.out]
   clear HWz zc0 zf0 zc1 zf1 zc2 zf2 zc3 zf3 zc4 zf4 zc5 zf5 zc6 zf6 zc7 zf7 zc8 zf8
   refine bodyPost_ret (v:=.agg #[.int .u8 B.flags,.slice a1 B.links.length q1,.int .u32 B.mask,.slice a3 B.routers.length q3,.int .u32 B.metric,.bool B.type2,.int .u32 B.fwd,.int .u32 B.tag,.slice a8 B.data.length q8]) (by simp [results,Tryz.results145,go_sem,zd0,zd1,zd2,zd3,zd4,zd5,zd6,zd7,zd8]) rfl ?_
   refine Or.inl ⟨B,_,_,_,rfl,HDD.out,(P3.out.touch HUz.out (fun k hk e=>by have:=HS1.out;omega)).lower (by have:=HS1.out;have:=HG.out;omega),T3.out.trans' HUz.out (fun i hi e=>by have:=HG.out;omega)⟩
  ·have hzz:(((rs.length:Int)-(p:Int))==0)=false:=by simp;omega
   have HDD:Hid (decB t rs=none):=by show _=_;rw [HD.out,if_neg (by simpa using hp)]
   have HLF:=fun w h=>Qdt w1.heap.size b p rs w h
   generalize (rs.length:Int)-(p:Int)=lf at hzz HLF
   clear HD hp hpl
   go_wp2_with (first|(go_at_call 178;refine Calls.mono (Qjh _ b rs p _ (H2.out.keep ((Touch.refl _ _).alloc _))) ?_;rintro e wx ⟨rfl,rfl⟩)|(go_at_call 179;refine Calls.mono (HLF _ (H2.out.keep ((Touch.refl _ _).alloc _))) ?_;rintro e wx ⟨rfl,nl,rfl⟩)|(go_at_call 140;refine Calls.mono (Qb1 _ 28 _ (by first|rfl|exact hzz)) ?_;rintro e wx ⟨rfl,rfl⟩))
   exact⟨rfl,Or.inr ⟨rfl,HDD.out,TB.out.drewN nl⟩⟩
theorem Qin (b:Nat) (x e:Int) (w:World) (hc:w.cell? ⟨b,0,none⟩=some (.int .i64 x)) (hz:w.frozen? ⟨b,0,none⟩=false) :
  CallsD Tryz.prog 169 #[.pointer (some ⟨b,0,none⟩)] (.panicking (flawC e)) w fun r u' w' =>
   r=.returned (.tuple #[])∧u'=.panicking [{ v:=.iface 280 (.int .i64 e),recovered:=true }]∧w'=w.setCell ⟨b,0,none⟩ (.int .i64 e):=by
 refine callsD_of_wpS Tryz.func169 rfl fun c₀ cs hu=>?_
 apply wpS_seq
 apply wpS_region
 simp [wpOpsS,go_sem,recoverD,hu,flawC,Qtz,Tryz.ntmps169,Exit.thenS]
 apply wpS_seq
 apply wpS_region
 simp [wpOpsS,go_sem,Exit.thenS]
 refine wpS_cond (t:=true) (by simp [Act.eval,Array.replicate]) ?_
 simp only [if_true]
 apply wpS_region
 simp [wpOpsS,go_sem,hc,hz,bodyPostS,results,Tryz.results169]
theorem Qiy (b:Nat) (w:World) :
  CallsD Tryz.prog 169 #[.pointer (some ⟨b,0,none⟩)] .returning w fun r u' w'=>r=.returned (.tuple #[])∧u'=.returning∧w'=w:=by
 refine callsD_of_wpS Tryz.func169 rfl fun c₀ cs hu=>?_
 apply wpS_seq
 apply wpS_region
 simp [wpOpsS,go_sem,recoverD,hu,Qv8,Tryz.ntmps169,Exit.thenS]
 apply wpS_seq
 apply wpS_region
 simp [wpOpsS,go_sem,Exit.thenS]
 refine wpS_cond (t:=false) (by simp [Act.eval,Array.replicate]) ?_
 simp only [Bool.false_eq_true,if_false]
 refine wpS_of_wp (wp_skip ?_)
 cases c₀
 simp_all [bodyPostS,results,Tryz.results169]
theorem Qjj (G:Nat) (cap:Array Value) (hG:∀w,(callFunc G cap).run Tryz.prog w=.ok (.enter G cap) w) (w:World) (x0 x2 x4 x6 x7:Int) (x5:Bool) (K:Value→Value→Value→World→Prop)
  (h:Calls Tryz.prog G cap ((w.alloc (.cells #[.int .u8 0,.slice none 0 0,.int .u32 0,.slice none 0 0,.int .u32 0,.bool false,.int .u32 0,.int .u32 0,.slice none 0 0] 119)).alloc (.cells #[.int .i64 0] 111)) fun e w'=>∃a1 n1 q1 a3 n3 q3 a8 n8 q8,e=.returned (.agg #[.int .u8 x0,.slice a1 n1 q1,.int .u32 x2,.slice a3 n3 q3,.int .u32 x4,.bool x5,.int .u32 x6,.int .u32 x7,.slice a8 n8 q8])∧Touch (fun _=>False) ((w.alloc (.cells #[.int .u8 0,.slice none 0 0,.int .u32 0,.slice none 0 0,.int .u32 0,.bool false,.int .u32 0,.int .u32 0,.slice none 0 0] 119)).alloc (.cells #[.int .i64 0] 111)) w'∧K (.slice a1 n1 q1) (.slice a3 n3 q3) (.slice a8 n8 q8) w')
  (hK:∀a1 n1 q1 a3 n3 q3 a8 n8 q8 w1 w2,K (.slice a1 n1 q1) (.slice a3 n3 q3) (.slice a8 n8 q8) w1→Touch (fun _=>False) ((w.alloc (.cells #[.int .u8 0,.slice none 0 0,.int .u32 0,.slice none 0 0,.int .u32 0,.bool false,.int .u32 0,.int .u32 0,.slice none 0 0] 119)).alloc (.cells #[.int .i64 0] 111)) w1→Touch (fun k=>k=w.heap.size∨k=w.heap.size+1) w1 w2→K (.slice a1 n1 q1) (.slice a3 n3 q3) (.slice a8 n8 q8) w2) :
  Calls Tryz.prog 138 #[.func (.func G) #[] cap] w fun e w'=>∃a1 n1 q1 a3 n3 q3 a8 n8 q8,e=.returned (.tuple #[.agg #[.int .u8 x0,.slice a1 n1 q1,.int .u32 x2,.slice a3 n3 q3,.int .u32 x4,.bool x5,.int .u32 x6,.int .u32 x7,.slice a8 n8 q8],.int .i64 0])∧Touch (fun _=>False) w w'∧K (.slice a1 n1 q1) (.slice a3 n3 q3) (.slice a8 n8 q8) w':=by
 have hmf:∀(fn:Fn) (first cap:Array Value) (w:World),(Instr.makeFunc fn first cap).run Tryz.prog w=.ok (.func fn first cap) w:=fun _ _ _ _=>rfl
 go_enter_defers Tryz.func138,Tryz.ntmps138
 go_wp2_with fail
 refine h.mono ?_
 rintro e w1 ⟨a1,n1,q1,a3,n3,q3,a8,n8,q8,rfl,t1,k1⟩
 have t0:=(((Touch.refl (fun _=>False) w).alloc _).alloc _).trans t1
 have FZ:Hid (∀i,i<9→w1.frozen? ⟨w.heap.size,i,none⟩=false):=fun i hi=>(t1.frozen (p:=⟨w.heap.size,i,none⟩) (by simp;omega) (fun h=>h)).trans (by simp [go_sem])
 have fz1:w1.frozen? ⟨w.heap.size+1,0,none⟩=false:=(t1.frozen (p:=⟨w.heap.size+1,0,none⟩) (by simp) (fun h=>h)).trans (by simp [go_sem])
 have ce1:w1.cell? ⟨w.heap.size+1,0,none⟩=some (.int .i64 0):=t1.cellN (by simp [go_sem])
 have c0:w1.cell? ⟨w.heap.size,0,none⟩=some (.int .u8 0):=t1.cellN (by simp [go_sem])
 have z0:=FZ.out 0 (by omega)
 have c1:w1.cell? ⟨w.heap.size,1,none⟩=some (.slice none 0 0):=t1.cellN (by simp [go_sem])
 have z1:=FZ.out 1 (by omega)
 have c2:w1.cell? ⟨w.heap.size,2,none⟩=some (.int .u32 0):=t1.cellN (by simp [go_sem])
 have z2:=FZ.out 2 (by omega)
 have c3:w1.cell? ⟨w.heap.size,3,none⟩=some (.slice none 0 0):=t1.cellN (by simp [go_sem])
 have z3:=FZ.out 3 (by omega)
 have c4:w1.cell? ⟨w.heap.size,4,none⟩=some (.int .u32 0):=t1.cellN (by simp [go_sem])
 have z4:=FZ.out 4 (by omega)
 have c5:w1.cell? ⟨w.heap.size,5,none⟩=some (.bool false):=t1.cellN (by simp [go_sem])
 have z5:=FZ.out 5 (by omega)
 have c6:w1.cell? ⟨w.heap.size,6,none⟩=some (.int .u32 0):=t1.cellN (by simp [go_sem])
 have z6:=FZ.out 6 (by omega)
 have c7:w1.cell? ⟨w.heap.size,7,none⟩=some (.int .u32 0):=t1.cellN (by simp [go_sem])
 have z7:=FZ.out 7 (by omega)
 have c8:w1.cell? ⟨w.heap.size,8,none⟩=some (.slice none 0 0):=t1.cellN (by simp [go_sem])
 have z8:=FZ.out 8 (by omega)
 clear FZ
 have HT:Hid (Touch (fun _=>False) w w1):=t0
 have HK:Hid (K (.slice a1 n1 q1) (.slice a3 n3 q3) (.slice a8 n8 q8) w1):=k1
 have HT1:Hid (Touch (fun _=>False) ((w.alloc (.cells #[.int .u8 0,.slice none 0 0,.int .u32 0,.slice none 0 0,.int .u32 0,.bool false,.int .u32 0,.int .u32 0,.slice none 0 0] 119)).alloc (.cells #[.int .i64 0] 111)) w1):=t1
 obtain⟨w2,hw2⟩:∃w2,w2=(((((((((w1.setCell ⟨w.heap.size,0,none⟩ (.int .u8 x0)).setCell ⟨w.heap.size,1,none⟩ (.slice a1 n1 q1)).setCell ⟨w.heap.size,2,none⟩ (.int .u32 x2)).setCell ⟨w.heap.size,3,none⟩ (.slice a3 n3 q3)).setCell ⟨w.heap.size,4,none⟩ (.int .u32 x4)).setCell ⟨w.heap.size,5,none⟩ (.bool x5)).setCell ⟨w.heap.size,6,none⟩ (.int .u32 x6)).setCell ⟨w.heap.size,7,none⟩ (.int .u32 x7)).setCell ⟨w.heap.size,8,none⟩ (.slice a8 n8 q8)).setCell ⟨w.heap.size+1,0,none⟩ (.int .i64 0):=⟨_,rfl⟩
 have d0:w2.cell? ⟨w.heap.size,0,none⟩=some (.int .u8 x0):=by rw [hw2];simp [c0,go_sem]
 have d1:w2.cell? ⟨w.heap.size,1,none⟩=some (.slice a1 n1 q1):=by rw [hw2];simp [c1,go_sem]
 have d2:w2.cell? ⟨w.heap.size,2,none⟩=some (.int .u32 x2):=by rw [hw2];simp [c2,go_sem]
 have d3:w2.cell? ⟨w.heap.size,3,none⟩=some (.slice a3 n3 q3):=by rw [hw2];simp [c3,go_sem]
 have d4:w2.cell? ⟨w.heap.size,4,none⟩=some (.int .u32 x4):=by rw [hw2];simp [c4,go_sem]
 have d5:w2.cell? ⟨w.heap.size,5,none⟩=some (.bool x5):=by rw [hw2];simp [c5,go_sem]
 have d6:w2.cell? ⟨w.heap.size,6,none⟩=some (.int .u32 x6):=by rw [hw2];simp [c6,go_sem]
 have d7:w2.cell? ⟨w.heap.size,7,none⟩=some (.int .u32 x7):=by rw [hw2];simp [c7,go_sem]
 have d8:w2.cell? ⟨w.heap.size,8,none⟩=some (.slice a8 n8 q8):=by rw [hw2];simp [c8,go_sem]
 have de:w2.cell? ⟨w.heap.size+1,0,none⟩=some (.int .i64 0):=by rw [hw2];simp [ce1,go_sem]
 have HU:Hid (Touch (fun k=>k=w.heap.size∨k=w.heap.size+1) w1 w2):=by
  show Touch _ _ _
  rw [hw2]
  exact Touch.setCell (Touch.setCell (Touch.setCell (Touch.setCell (Touch.setCell (Touch.setCell (Touch.setCell (Touch.setCell (Touch.setCell (Touch.setCell (Touch.refl _ _) (Or.inl (Or.inl rfl)) _) (Or.inl (Or.inl rfl)) _) (Or.inl (Or.inl rfl)) _) (Or.inl (Or.inl rfl)) _) (Or.inl (Or.inl rfl)) _) (Or.inl (Or.inl rfl)) _) (Or.inl (Or.inl rfl)) _) (Or.inl (Or.inl rfl)) _) (Or.inl (Or.inl rfl)) _) (Or.inl (Or.inr rfl)) _
 have HW:Hid (w2=(((((((((w1.setCell ⟨w.heap.size,0,none⟩ (.int .u8 x0)).setCell ⟨w.heap.size,1,none⟩ (.slice a1 n1 q1)).setCell ⟨w.heap.size,2,none⟩ (.int .u32 x2)).setCell ⟨w.heap.size,3,none⟩ (.slice a3 n3 q3)).setCell ⟨w.heap.size,4,none⟩ (.int .u32 x4)).setCell ⟨w.heap.size,5,none⟩ (.bool x5)).setCell ⟨w.heap.size,6,none⟩ (.int .u32 x6)).setCell ⟨w.heap.size,7,none⟩ (.int .u32 x7)).setCell ⟨w.heap.size,8,none⟩ (.slice a8 n8 q8)).setCell ⟨w.heap.size+1,0,none⟩ (.int .i64 0)):=hw2
 clear t0 t1 k1 h hw2
 go_wp2_with fail
 rw [←HW.out]
 clear HW c0 z0 c1 z1 c2 z2 c3 z3 c4 z4 c5 z5 c6 z6 c7 z7 c8 z8 fz1 ce1
 refine leaves_cons (f:=169) (args:=#[.pointer (some ⟨w.heap.size+1,0,none⟩)]) (by simp) (by simp [go_sem]) ?_
 refine (Qiy (w.heap.size+1) _).mono ?_
 rintro e u' w'' ⟨rfl,rfl,rfl⟩
 refine⟨.tuple #[.agg #[.int .u8 x0,.slice a1 n1 q1,.int .u32 x2,.slice a3 n3 q3,.int .u32 x4,.bool x5,.int .u32 x6,.int .u32 x7,.slice a8 n8 q8],.int .i64 0],by simp [results,Tryz.results138,go_sem,d0,d1,d2,d3,d4,d5,d6,d7,d8,de],a1,n1,q1,a3,n3,q3,a8,n8,q8,rfl,?_,hK _ _ _ _ _ _ _ _ _ _ _ HK.out HT1.out HU.out⟩
 exact HT.out.trans' HU.out (fun i hi hf=>by omega)
theorem Qp4 (G:Nat) (cap:Array Value) (hG:∀w,(callFunc G cap).run Tryz.prog w=.ok (.enter G cap) w) (w:World) (err:Int)
  (h:Calls Tryz.prog G cap ((w.alloc (.cells #[.int .u8 0,.slice none 0 0,.int .u32 0,.slice none 0 0,.int .u32 0,.bool false,.int .u32 0,.int .u32 0,.slice none 0 0] 119)).alloc (.cells #[.int .i64 0] 111)) fun e w'=>e=.panicked (flawC err)∧Touch (fun _=>False) ((w.alloc (.cells #[.int .u8 0,.slice none 0 0,.int .u32 0,.slice none 0 0,.int .u32 0,.bool false,.int .u32 0,.int .u32 0,.slice none 0 0] 119)).alloc (.cells #[.int .i64 0] 111)) w') :
  Calls Tryz.prog 138 #[.func (.func G) #[] cap] w fun e w'=>e=.returned (.tuple #[.agg #[.int .u8 0,.slice none 0 0,.int .u32 0,.slice none 0 0,.int .u32 0,.bool false,.int .u32 0,.int .u32 0,.slice none 0 0],.int .i64 err])∧Touch (fun _=>False) w w':=by
 have hmf:∀(fn:Fn) (first cap:Array Value) (w:World),(Instr.makeFunc fn first cap).run Tryz.prog w=.ok (.func fn first cap) w:=fun _ _ _ _=>rfl
 go_enter_defers Tryz.func138,Tryz.ntmps138
 go_wp2_with fail
 refine h.mono ?_
 rintro e w1 ⟨rfl,t1⟩
 have t0:=(((Touch.refl (fun _=>False) w).alloc _).alloc _).trans t1
 have fz1:w1.frozen? ⟨w.heap.size+1,0,none⟩=false:=(t1.frozen (p:=⟨w.heap.size+1,0,none⟩) (by simp) (fun h=>h)).trans (by simp [go_sem])
 have ce1:w1.cell? ⟨w.heap.size+1,0,none⟩=some (.int .i64 0):=t1.cellN (by simp [go_sem])
 have c0:w1.cell? ⟨w.heap.size,0,none⟩=some (.int .u8 0):=t1.cellN (by simp [go_sem])
 have c1:w1.cell? ⟨w.heap.size,1,none⟩=some (.slice none 0 0):=t1.cellN (by simp [go_sem])
 have c2:w1.cell? ⟨w.heap.size,2,none⟩=some (.int .u32 0):=t1.cellN (by simp [go_sem])
 have c3:w1.cell? ⟨w.heap.size,3,none⟩=some (.slice none 0 0):=t1.cellN (by simp [go_sem])
 have c4:w1.cell? ⟨w.heap.size,4,none⟩=some (.int .u32 0):=t1.cellN (by simp [go_sem])
 have c5:w1.cell? ⟨w.heap.size,5,none⟩=some (.bool false):=t1.cellN (by simp [go_sem])
 have c6:w1.cell? ⟨w.heap.size,6,none⟩=some (.int .u32 0):=t1.cellN (by simp [go_sem])
 have c7:w1.cell? ⟨w.heap.size,7,none⟩=some (.int .u32 0):=t1.cellN (by simp [go_sem])
 have c8:w1.cell? ⟨w.heap.size,8,none⟩=some (.slice none 0 0):=t1.cellN (by simp [go_sem])
 refine leaves_cons (f:=169) (args:=#[.pointer (some ⟨w.heap.size+1,0,none⟩)]) (by simp) (by simp [go_sem]) ?_
 refine (Qin (w.heap.size+1) 0 err _ ce1 fz1).mono ?_
 rintro e u' w'' ⟨rfl,rfl,rfl⟩
 refine⟨.tuple #[.agg #[.int .u8 0,.slice none 0 0,.int .u32 0,.slice none 0 0,.int .u32 0,.bool false,.int .u32 0,.int .u32 0,.slice none 0 0],.int .i64 err],by simp [results,Tryz.results138,go_sem,c0,c1,c2,c3,c4,c5,c6,c7,c8,ce1],rfl,?_⟩
 exact Touch.setCell t0 (Or.inr (by simp)) _
structure Never:Prop where
 out:False
theorem Calls.never {P:Program} {f:FuncId} {args:Array Value} {w:World} {c:List PanicEntry} {R:World→Prop} (v:Value) (h:Calls P f args w fun e w'=>e=.panicked c∧R w') :
  Calls P f args w fun e w'=>(e=.panicked c∧R w')∨(Never∧e=.returned v):=h.mono (fun _ _ h=>Or.inl h)
end Go.Proofs.YtddbffoiadmffaaGreat
