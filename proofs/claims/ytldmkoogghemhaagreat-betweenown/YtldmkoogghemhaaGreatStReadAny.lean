import Derived.Test.YtldmkoogghemhaaGreatStBody
namespace Go.Proofs.YtldmkoogghemhaaGreat
set_option maxHeartbeats 8000000
open Go.RowKit
set_option linter.unusedVariables false
set_option maxRecDepth 100000
def RdAns (t:Int) (rs:List Int) (w:World):Ending→World→Prop:=fun e w' =>
 (∃B vl vr vd,e=.returned (B.v vl vr vd)∧decB t rs=some B∧BOwn w.heap.size w' B vl vr vd∧Touch (fun _=>False) w w')∨(e=.panicked (flawC 28)∧decB t rs=none∧Touch (fun _=>False) w w')
theorem Qe3 (N b p:Nat) (rs:List Int) (w:World) (h:Rdr N w b rs (some p)):Calls Tryz.prog 143 #[.pointer (some ⟨b,0,none⟩)] w fun e w'=>e=.returned (.int .i64 ((rs.length:Int)-p))∧∃n,w'=w.drewN n:=Qny N b rs (some p) w h
theorem Qg7 (G1 G2:Nat) (hG:∀(x:Array Value) w,(callFunc G2 x).run Tryz.prog w=.ok (.enter G2 x) w) (t:Int) (v:Value) (rs:List Int) (w:World) (hv:ArgAt w v rs) (hby:∀z∈rs,0≤z∧z<256) (hl:rs.length≤1000000)
  (HR:∀(N b:Nat) (w:World),Rdr N w b rs (some 0)→N≤w.heap.size→Calls Tryz.prog G2 #[.agg #[.pointer (some ⟨b,0,none⟩)]] w (RdPost t N b rs w)) :
  Calls Tryz.prog 117 #[.agg #[.func (.func G1) #[] #[],.func (.func G2) #[] #[]],v] w (RdAns t rs w):=by
 have hsf:∀(w:World) (a:Addr) (f:Fn) (x y:Array Value) (m:Mode),(store a (.func f x y) m).run Tryz.prog w=stored Tryz.prog w a (.func f x y) m:=fun w a f x y m=>run_store Tryz.prog w a _ m rfl
 have HVA:Hid (ArgAt w v rs):=hv
 have HBy:Hid (∀z∈rs,0≤z∧z<256):=hby
 have HRs:Hid (∀(N b:Nat) (w:World),Rdr N w b rs (some 0)→N≤w.heap.size→Calls Tryz.prog G2 #[.agg #[.pointer (some ⟨b,0,none⟩)]] w (RdPost t N b rs w)):=HR
 clear hv hby HR
 go_enter Tryz.func117,Tryz.ntmps117
 go_wp2_with fail
 refine Calls.mono (Qof v rs _ (HVA.out.keepN (((Touch.refl _ _).alloc _).alloc _)) HBy.out (by omega)) ?_
 rintro e w1 ⟨b,rfl,hb,hr,t1⟩
 have R1:Hid (Room w1 (w.heap.size+1) 9):=by
  have:=(Room.new (w.alloc (.cells #[.func (.func G1) #[] #[],.func (.func G2) #[] #[]] 166)) #[.int .u8 0,.slice none 0 0,.int .u32 0,.slice none 0 0,.int .u32 0,.bool false,.int .u32 0,.int .u32 0,.slice none 0 0] 92).keep t1
  show Room _ _ _
  simpa using this
 have c0:w1.cell? ⟨w.heap.size,0,none⟩=some (.func (.func G1) #[] #[]):=t1.cellN (by simp [go_sem])
 have c1:w1.cell? ⟨w.heap.size,1,none⟩=some (.func (.func G2) #[] #[]):=t1.cellN (by simp [go_sem])
 have T1:Hid (Touch (fun _=>False) w w1):=(((Touch.refl _ w).alloc _).alloc _).trans t1
 have hbw:w.heap.size+1<b:=by simp at hb;omega
 have hs1:w.heap.size+1<w1.heap.size:=by have:=t1.size;simp at this;omega
 have hlt:w.heap.size<w1.heap.size:=by omega
 have hbl:b<w1.heap.size:=hr.low
 have hn1:¬w.heap.size=w1.heap.size:=by omega
 have HR:Hid (Rdr w1.heap.size w1 b rs (some 0)):=hr
 clear t1 hb hr
 go_wp2_with fail
 refine Calls.mono (HRs.out w1.heap.size b _ (HR.out.keep ((Touch.refl _ _).alloc _)) (by simp)) ?_
 rintro e w2 (⟨B,vl,vr,vd,q,rfl,h2,o2,t2,hd⟩|⟨rfl,t2,hd⟩)
 rotate_left
 ·exact⟨rfl,Or.inr ⟨rfl,hd,(T1.out.alloc _).trans' t2 (fun i hi e=>by omega)⟩⟩
 have c2:w2.cell? ⟨w1.heap.size,0,none⟩=some (.pointer (some ⟨b,0,none⟩)):=(t2.cell (p:=⟨w1.heap.size,0,none⟩) (by simp) (by show ¬w1.heap.size=b;omega)).trans (by simp [go_sem])
 have R2:Hid (Room w2 (w.heap.size+1) 9):=(R1.out.keep ((Touch.refl _ _).alloc _)).touch t2 (by show ¬w.heap.size+1=b;omega)
 have T2:Hid (Touch (fun _=>False) w w2):=(T1.out.alloc _).trans' t2 (fun i hi e=>by omega)
 have hs2:w1.heap.size<w2.heap.size:=by have:=t2.size;simp at this;omega
 have H2:Hid (Rdr w1.heap.size w2 b rs q):=h2
 have hn3:¬w1.heap.size=w2.heap.size:=by omega
 have O2:Hid (BOwn (w1.heap.size+1) w2 B vl vr vd):=by show BOwn _ _ _ _ _ _;simpa using o2
 have HD:Hid (decB t rs=(if q=some rs.length then some B else none)):=hd
 obtain⟨a1,q1,a3,q3,a8,q8,rfl,rfl,rfl⟩:=o2.form
 clear t2 h2 HRs HR R1 T1 c0 c1 hsf o2 hd hG
 unfold BV.v
 have TB:Hid (Touch (fun _=>False) w (w2.alloc (.cells #[.int .u8 B.flags,.slice a1 B.links.length q1,.int .u32 B.mask,.slice a3 B.routers.length q3,.int .u32 B.metric,.bool B.type2,.int .u32 B.fwd,.int .u32 B.tag,.slice a8 B.data.length q8] 92))):=T2.out.alloc _
 cases q with
 | none =>
  go_wp2_with (first|(go_at_call 142;refine Calls.mono (Qlz _ b rs _ (H2.out.keep ((Touch.refl _ _).alloc _))) ?_;rintro e wx ⟨rfl,rfl⟩)|(go_at_call 112;refine Calls.mono (Qb4 _ 28 _ rfl) ?_;rintro e wx ⟨rfl,rfl⟩))
  exact⟨rfl,Or.inr ⟨rfl,by rw [HD.out,if_neg (by simp)],TB.out⟩⟩
 | some p =>
  have hpl:p≤rs.length:=H2.out.ple
  by_cases hp:p=rs.length
  ·subst hp
   have HDD:Hid (decB t rs=some B):=by show _=_;rw [HD.out,if_pos rfl]
   have hzz:((rs.length:Int)-(rs.length:Int))=0:=by omega
   have HLF:∀(N b:Nat) (w:World),Rdr N w b rs (some rs.length)→Calls Tryz.prog 143 #[.pointer (some ⟨b,0,none⟩)] w fun e w'=>e=.returned (.int .i64 0)∧∃n,w'=w.drewN n:=fun N b w h=>by
    have:=Qe3 N b rs.length rs w h
    rwa [hzz] at this
   clear hzz hpl HD
   go_upto_region 4 with (first|(go_at_call 142;refine Calls.mono (Qg9 _ b rs rs.length _ (H2.out.keep ((Touch.refl _ _).alloc _))) ?_;rintro e wx ⟨rfl,rfl⟩)|(go_at_call 143;refine Calls.mono (HLF _ b _ (H2.out.keep ((Touch.refl _ _).alloc _))) ?_;rintro e wx ⟨rfl,nl,rfl⟩)|(go_at_call 112;refine Calls.mono (Qbd _ 28 _ rfl) ?_;rintro e wx ⟨rfl,rfl⟩))
   have O3:OutB ((w2.alloc (.cells #[.int .u8 B.flags,.slice a1 B.links.length q1,.int .u32 B.mask,.slice a3 B.routers.length q3,.int .u32 B.metric,.bool B.type2,.int .u32 B.fwd,.int .u32 B.tag,.slice a8 B.data.length q8] 92)).drewN nl) w2.heap.size B (.slice a1 B.links.length q1) (.slice a3 B.routers.length q3) (.slice a8 B.data.length q8):=(OutB.new w2 B (.slice a1 B.links.length q1) (.slice a3 B.routers.length q3) (.slice a8 B.data.length q8) 92).keep ((Touch.refl _ _).drewN nl)
   have R3:Hid (Room ((w2.alloc (.cells #[.int .u8 B.flags,.slice a1 B.links.length q1,.int .u32 B.mask,.slice a3 B.routers.length q3,.int .u32 B.metric,.bool B.type2,.int .u32 B.fwd,.int .u32 B.tag,.slice a8 B.data.length q8] 92)).drewN nl) (w.heap.size+1) 9):=R2.out.keep (((Touch.refl _ _).alloc _).drewN nl)
   have T3:Hid (Touch (fun _=>False) w ((w2.alloc (.cells #[.int .u8 B.flags,.slice a1 B.links.length q1,.int .u32 B.mask,.slice a3 B.routers.length q3,.int .u32 B.metric,.bool B.type2,.int .u32 B.fwd,.int .u32 B.tag,.slice a8 B.data.length q8] 92)).drewN nl)):=(T2.out.alloc _).drewN nl
   have P3:Hid (BOwn (w1.heap.size+1) ((w2.alloc (.cells #[.int .u8 B.flags,.slice a1 B.links.length q1,.int .u32 B.mask,.slice a3 B.routers.length q3,.int .u32 B.metric,.bool B.type2,.int .u32 B.fwd,.int .u32 B.tag,.slice a8 B.data.length q8] 92)).drewN nl) B (.slice a1 B.links.length q1) (.slice a3 B.routers.length q3) (.slice a8 B.data.length q8)):=O2.out.keep (((Touch.refl _ _).alloc _).drewN nl)
   clear R2 T2 H2 HLF c2 TB O2
   generalize (w2.alloc (.cells #[.int .u8 B.flags,.slice a1 B.links.length q1,.int .u32 B.mask,.slice a3 B.routers.length q3,.int .u32 B.metric,.bool B.type2,.int .u32 B.fwd,.int .u32 B.tag,.slice a8 B.data.length q8] 92)).drewN nl=w3 at *
   obtain⟨⟨d0,d1,d2,d3,d4,d5,d6,d7,d8⟩,-⟩:=O3
   have hm1:¬w.heap.size+1=w2.heap.size:=by omega
   have hm2:¬w2.heap.size=w.heap.size+1:=by omega
   generalize hg:w.heap.size+1=g at *
   have HG:Hid (w.heap.size+1=g):=hg
   have HS1:Hid (g<w1.heap.size):=hs1
   clear hg
   obtain⟨zz0,zc0,zf0⟩:=R3.out 0 (by omega)
   obtain⟨zz1,zc1,zf1⟩:=R3.out 1 (by omega)
   obtain⟨zz2,zc2,zf2⟩:=R3.out 2 (by omega)
   obtain⟨zz3,zc3,zf3⟩:=R3.out 3 (by omega)
   obtain⟨zz4,zc4,zf4⟩:=R3.out 4 (by omega)
   obtain⟨zz5,zc5,zf5⟩:=R3.out 5 (by omega)
   obtain⟨zz6,zc6,zf6⟩:=R3.out 6 (by omega)
   obtain⟨zz7,zc7,zf7⟩:=R3.out 7 (by omega)
   obtain⟨zz8,zc8,zf8⟩:=R3.out 8 (by omega)
   obtain⟨wz,hwz⟩:∃wz,wz=(((((((((w3.setCell ⟨g,0,none⟩ (.int .u8 B.flags)).setCell ⟨g,1,none⟩ (.slice a1 B.links.length q1)).setCell ⟨g,2,none⟩ (.int .u32 B.mask)).setCell ⟨g,3,none⟩ (.slice a3 B.routers.length q3)).setCell ⟨g,4,none⟩ (.int .u32 B.metric)).setCell ⟨g,5,none⟩ (.bool B.type2)).setCell ⟨g,6,none⟩ (.int .u32 B.fwd)).setCell ⟨g,7,none⟩ (.int .u32 B.tag)).setCell ⟨g,8,none⟩ (.slice a8 B.data.length q8)):=⟨_,rfl⟩
   have zd0:wz.cell? ⟨g,0,none⟩=some (.int .u8 B.flags):=by rw [hwz];simp [zc0,go_sem]
   have zd1:wz.cell? ⟨g,1,none⟩=some (.slice a1 B.links.length q1):=by rw [hwz];simp [zc1,go_sem]
   have zd2:wz.cell? ⟨g,2,none⟩=some (.int .u32 B.mask):=by rw [hwz];simp [zc2,go_sem]
   have zd3:wz.cell? ⟨g,3,none⟩=some (.slice a3 B.routers.length q3):=by rw [hwz];simp [zc3,go_sem]
   have zd4:wz.cell? ⟨g,4,none⟩=some (.int .u32 B.metric):=by rw [hwz];simp [zc4,go_sem]
   have zd5:wz.cell? ⟨g,5,none⟩=some (.bool B.type2):=by rw [hwz];simp [zc5,go_sem]
   have zd6:wz.cell? ⟨g,6,none⟩=some (.int .u32 B.fwd):=by rw [hwz];simp [zc6,go_sem]
   have zd7:wz.cell? ⟨g,7,none⟩=some (.int .u32 B.tag):=by rw [hwz];simp [zc7,go_sem]
   have zd8:wz.cell? ⟨g,8,none⟩=some (.slice a8 B.data.length q8):=by rw [hwz];simp [zc8,go_sem]
   have HUz:Hid (Touch (fun k=>k=g) w3 wz):=by show Touch _ _ _;rw [hwz];refine Touch.setCell (F:=fun k=>k=g) (p:=⟨g,8,none⟩) ?_ (Or.inl rfl) _;refine Touch.setCell (F:=fun k=>k=g) (p:=⟨g,7,none⟩) ?_ (Or.inl rfl) _;refine Touch.setCell (F:=fun k=>k=g) (p:=⟨g,6,none⟩) ?_ (Or.inl rfl) _;refine Touch.setCell (F:=fun k=>k=g) (p:=⟨g,5,none⟩) ?_ (Or.inl rfl) _;refine Touch.setCell (F:=fun k=>k=g) (p:=⟨g,4,none⟩) ?_ (Or.inl rfl) _;refine Touch.setCell (F:=fun k=>k=g) (p:=⟨g,3,none⟩) ?_ (Or.inl rfl) _;refine Touch.setCell (F:=fun k=>k=g) (p:=⟨g,2,none⟩) ?_ (Or.inl rfl) _;refine Touch.setCell (F:=fun k=>k=g) (p:=⟨g,1,none⟩) ?_ (Or.inl rfl) _;refine Touch.setCell (F:=fun k=>k=g) (p:=⟨g,0,none⟩) ?_ (Or.inl rfl) _;exact Touch.refl _ _
   have HWz:Hid (wz=(((((((((w3.setCell ⟨g,0,none⟩ (.int .u8 B.flags)).setCell ⟨g,1,none⟩ (.slice a1 B.links.length q1)).setCell ⟨g,2,none⟩ (.int .u32 B.mask)).setCell ⟨g,3,none⟩ (.slice a3 B.routers.length q3)).setCell ⟨g,4,none⟩ (.int .u32 B.metric)).setCell ⟨g,5,none⟩ (.bool B.type2)).setCell ⟨g,6,none⟩ (.int .u32 B.fwd)).setCell ⟨g,7,none⟩ (.int .u32 B.tag)).setCell ⟨g,8,none⟩ (.slice a8 B.data.length q8))):=hwz
   clear hwz
   go_wp2_with fail
   rw [←HWz.out]
   clear HWz zc0 zf0 zc1 zf1 zc2 zf2 zc3 zf3 zc4 zf4 zc5 zf5 zc6 zf6 zc7 zf7 zc8 zf8
   refine bodyPost_ret (v:=.agg #[.int .u8 B.flags,.slice a1 B.links.length q1,.int .u32 B.mask,.slice a3 B.routers.length q3,.int .u32 B.metric,.bool B.type2,.int .u32 B.fwd,.int .u32 B.tag,.slice a8 B.data.length q8]) (by simp [results,Tryz.results117,go_sem,zd0,zd1,zd2,zd3,zd4,zd5,zd6,zd7,zd8]) rfl ?_
   refine Or.inl ⟨B,_,_,_,rfl,HDD.out,(P3.out.touch HUz.out (fun k hk e=>by have:=HS1.out;omega)).lower (by have:=HS1.out;have:=HG.out;omega),T3.out.trans' HUz.out (fun i hi e=>by have:=HG.out;omega)⟩
  ·have hzz:(((rs.length:Int)-(p:Int))==0)=false:=by simp;omega
   have HDD:Hid (decB t rs=none):=by show _=_;rw [HD.out,if_neg (by simpa using hp)]
   have HLF:=fun w h=>Qe3 w1.heap.size b p rs w h
   generalize (rs.length:Int)-(p:Int)=lf at hzz HLF
   clear HD hp hpl
   go_wp2_with (first|(go_at_call 142;refine Calls.mono (Qg9 _ b rs p _ (H2.out.keep ((Touch.refl _ _).alloc _))) ?_;rintro e wx ⟨rfl,rfl⟩)|(go_at_call 143;refine Calls.mono (HLF _ (H2.out.keep ((Touch.refl _ _).alloc _))) ?_;rintro e wx ⟨rfl,nl,rfl⟩)|(go_at_call 112;refine Calls.mono (Qb4 _ 28 _ (by first|rfl|exact hzz)) ?_;rintro e wx ⟨rfl,rfl⟩))
   exact⟨rfl,Or.inr ⟨rfl,HDD.out,TB.out.drewN nl⟩⟩
end Go.Proofs.YtldmkoogghemhaaGreat
