import Derived.Test.YtldmkoogghemhaaGreatStReadAny
import Derived.Test.YtldmkoogghemhaaGreatStFaceB
import Derived.Deep.RegionHeld2
namespace Go.Proofs.YtldmkoogghemhaaGreat
set_option maxHeartbeats 8000000
open Go.RowKit
set_option linter.unusedVariables false
set_option maxRecDepth 100000
theorem Qk0 (g:Nat) (h:HV) (a:Option Addr) (n c:Nat) (G1 G2:Nat) (rs:List Int) (w:World) (hS:Sd w g h (.slice a n c)) (hl0:0≤h.len∧h.len<65536) (hn:n≤140737488355328) (hlen:h.len=20+(n:Int))
  (HP:∀w,Calls Tryz.prog 116 #[.int .u8 h.typ] w fun e w'=>e=.returned (.agg #[.func (.func G1) #[] #[],.func (.func G2) #[] #[]])∧Touch (fun _=>False) w w')
  (HR:∀w',Touch (fun _=>False) w w'→Calls Tryz.prog 117 #[.agg #[.func (.func G1) #[] #[],.func (.func G2) #[] #[]],.slice a n c] w' (RdAns h.typ rs w')) :
  Calls Tryz.prog 118 #[.pointer (some ⟨g,0,none⟩)] w (RdAns h.typ rs w):=by
 have HPh:Hid (∀w,Calls Tryz.prog 116 #[.int .u8 h.typ] w fun e w'=>e=.returned (.agg #[.func (.func G1) #[] #[],.func (.func G2) #[] #[]])∧Touch (fun _=>False) w w'):=HP
 have HRh:Hid (∀w',Touch (fun _=>False) w w'→Calls Tryz.prog 117 #[.agg #[.func (.func G1) #[] #[],.func (.func G2) #[] #[]],.slice a n c] w' (RdAns h.typ rs w')):=HR
 have HLn:∀w,Calls Tryz.prog 113 #[.agg #[.int .u16 h.age,.int .u8 h.opts,.int .u8 h.typ,.int .u32 h.id,.int .u32 h.adv,.int .i32 h.seq,.int .u16 h.sum,.int .u16 h.len,.slice a n c]] w fun e w'=>e=.returned (.bool true)∧Touch (fun _=>False) w w':=fun w=>by
  have:=Qar h a n c w hn hl0
  rwa [show (h.len==20+(n:Int))=true by rw [hlen];simp] at this
 have hgl:=Qaa hS.hd.c0
 have HS:Hid (Sd w g h (.slice a n c)):=hS
 obtain⟨⟨s0,s1,s2,s3,s4,s5,s6,s7⟩,s8⟩:=hS.keep ((Touch.refl (fun _=>False) w).alloc (.cells #[.int .u8 0,.slice none 0 0,.int .u32 0,.slice none 0 0,.int .u32 0,.bool false,.int .u32 0,.int .u32 0,.slice none 0 0] 92))
 clear HP HR hlen hl0 hn hS
 go_enter Tryz.func118,Tryz.ntmps118
 go_wp2_with fail
 refine Calls.mono (HLn _) ?_
 rintro e w1 ⟨rfl,t1⟩
 have R1:Hid (Room w1.drew w.heap.size 9):=((Room.new w #[.int .u8 0,.slice none 0 0,.int .u32 0,.slice none 0 0,.int .u32 0,.bool false,.int .u32 0,.int .u32 0,.slice none 0 0] 92).keep t1).keep ((Touch.refl _ _).drew)
 have T1:Hid (Touch (fun _=>False) w w1.drew):=(((Touch.refl _ w).alloc _).trans t1).drew
 have HSZ:Hid (w.heap.size<w1.heap.size):=by have:=t1.size;show _<_;simp at this;omega
 have S1:=HS.out.keep T1.out
 have e2:=S1.hd.c2
 have e8:=S1.c8
 have hr:g≠w.heap.size:=by omega
 clear t1 HLn s0 s1 s2 s3 s4 s5 s6 s7 s8 S1 hgl
 go_upto_region 2 with (go_at_call 112;refine Calls.mono (Qbd _ 22 _ rfl) ?_;rintro e wx ⟨rfl,rfl⟩)
 generalize hG:w.heap.size=gr at *
 have HG:Hid (w.heap.size=gr):=hG
 clear hG
 go_region_held2 (fun w'=>w'.cell? ⟨g,2,none⟩=some (.int .u8 h.typ)∧w'.cell? ⟨g,8,none⟩=some (.slice a n c)) (first|with_reducible exact⟨e2,e8⟩|with_reducible exact⟨y2,y8⟩|with_reducible exact⟨u2,u8⟩|with_reducible exact⟨(Qfn hr 2 _ _ _ _ _ _ _ _ _).trans u2,(Qfn hr 8 _ _ _ _ _ _ _ _ _).trans u8⟩) (first
  | (go_at_call 116;refine Calls.mono (HPh.out _) ?_;rintro e w2 ⟨rfl,t2⟩;have y2:=t2.cellN e2;have y8:=t2.cellN e8;have T2:Hid (Touch (fun _=>False) w w2):=T1.out.trans t2;have R2:Hid (Room w2 gr 9):=R1.out.keep t2;have HS2:Hid (gr<w2.heap.size):=Nat.lt_of_lt_of_le HSZ.out t2.size;clear t2)
  | (go_at_call 117;refine Calls.mono (HRh.out _ T2.out) ?_;rintro e w3 (⟨B,vl,vr,vd,rfl,hd,o3,t3⟩|⟨rfl,hd,t3⟩);rotate_left;exact⟨rfl,Or.inr ⟨rfl,hd,T2.out.trans t3⟩⟩;have HD:Hid (decB h.typ rs=some B):=hd;have O3:Hid (BOwn w2.heap.size w3 B vl vr vd):=o3;obtain⟨a1,q1,a3,q3,a8,q8,rfl,rfl,rfl⟩:=o3.form;unfold BV.v;have u2:=t3.cellN y2;have u8:=t3.cellN y8;have T3:Hid (Touch (fun _=>False) w w3):=T2.out.trans t3;have R5:=R2.out.keep t3;clear t3 hd o3;obtain⟨zz0,zc0,zf0⟩:=R5 0 (by omega);obtain⟨zz1,zc1,zf1⟩:=R5 1 (by omega);obtain⟨zz2,zc2,zf2⟩:=R5 2 (by omega);obtain⟨zz3,zc3,zf3⟩:=R5 3 (by omega);obtain⟨zz4,zc4,zf4⟩:=R5 4 (by omega);obtain⟨zz5,zc5,zf5⟩:=R5 5 (by omega);obtain⟨zz6,zc6,zf6⟩:=R5 6 (by omega);obtain⟨zz7,zc7,zf7⟩:=R5 7 (by omega);obtain⟨zz8,zc8,zf8⟩:=R5 8 (by omega);clear R5))
 clear e2 e8 y2 y8 u2 u8
 obtain⟨wz,hwz⟩:∃wz,wz=(((((((((w3.setCell ⟨gr,0,none⟩ (.int .u8 B.flags)).setCell ⟨gr,1,none⟩ (.slice a1 B.links.length q1)).setCell ⟨gr,2,none⟩ (.int .u32 B.mask)).setCell ⟨gr,3,none⟩ (.slice a3 B.routers.length q3)).setCell ⟨gr,4,none⟩ (.int .u32 B.metric)).setCell ⟨gr,5,none⟩ (.bool B.type2)).setCell ⟨gr,6,none⟩ (.int .u32 B.fwd)).setCell ⟨gr,7,none⟩ (.int .u32 B.tag)).setCell ⟨gr,8,none⟩ (.slice a8 B.data.length q8)):=⟨_,rfl⟩
 have zd0:wz.cell? ⟨gr,0,none⟩=some (.int .u8 B.flags):=by rw [hwz];simp [zc0,go_sem]
 have zd1:wz.cell? ⟨gr,1,none⟩=some (.slice a1 B.links.length q1):=by rw [hwz];simp [zc1,go_sem]
 have zd2:wz.cell? ⟨gr,2,none⟩=some (.int .u32 B.mask):=by rw [hwz];simp [zc2,go_sem]
 have zd3:wz.cell? ⟨gr,3,none⟩=some (.slice a3 B.routers.length q3):=by rw [hwz];simp [zc3,go_sem]
 have zd4:wz.cell? ⟨gr,4,none⟩=some (.int .u32 B.metric):=by rw [hwz];simp [zc4,go_sem]
 have zd5:wz.cell? ⟨gr,5,none⟩=some (.bool B.type2):=by rw [hwz];simp [zc5,go_sem]
 have zd6:wz.cell? ⟨gr,6,none⟩=some (.int .u32 B.fwd):=by rw [hwz];simp [zc6,go_sem]
 have zd7:wz.cell? ⟨gr,7,none⟩=some (.int .u32 B.tag):=by rw [hwz];simp [zc7,go_sem]
 have zd8:wz.cell? ⟨gr,8,none⟩=some (.slice a8 B.data.length q8):=by rw [hwz];simp [zc8,go_sem]
 have HUz:Hid (Touch (fun k=>k=gr) w3 wz):=by show Touch _ _ _;rw [hwz];refine Touch.setCell (F:=fun k=>k=gr) (p:=⟨gr,8,none⟩) ?_ (Or.inl rfl) _;refine Touch.setCell (F:=fun k=>k=gr) (p:=⟨gr,7,none⟩) ?_ (Or.inl rfl) _;refine Touch.setCell (F:=fun k=>k=gr) (p:=⟨gr,6,none⟩) ?_ (Or.inl rfl) _;refine Touch.setCell (F:=fun k=>k=gr) (p:=⟨gr,5,none⟩) ?_ (Or.inl rfl) _;refine Touch.setCell (F:=fun k=>k=gr) (p:=⟨gr,4,none⟩) ?_ (Or.inl rfl) _;refine Touch.setCell (F:=fun k=>k=gr) (p:=⟨gr,3,none⟩) ?_ (Or.inl rfl) _;refine Touch.setCell (F:=fun k=>k=gr) (p:=⟨gr,2,none⟩) ?_ (Or.inl rfl) _;refine Touch.setCell (F:=fun k=>k=gr) (p:=⟨gr,1,none⟩) ?_ (Or.inl rfl) _;refine Touch.setCell (F:=fun k=>k=gr) (p:=⟨gr,0,none⟩) ?_ (Or.inl rfl) _;exact Touch.refl _ _
 rw [←hwz]
 clear hwz zc0 zf0 zc1 zf1 zc2 zf2 zc3 zf3 zc4 zf4 zc5 zf5 zc6 zf6 zc7 zf7 zc8 zf8
 go_wp2_with fail
 refine bodyPost_ret (v:=.agg #[.int .u8 B.flags,.slice a1 B.links.length q1,.int .u32 B.mask,.slice a3 B.routers.length q3,.int .u32 B.metric,.bool B.type2,.int .u32 B.fwd,.int .u32 B.tag,.slice a8 B.data.length q8]) (by simp [results,Tryz.results118,go_sem,zd0,zd1,zd2,zd3,zd4,zd5,zd6,zd7,zd8]) rfl ?_
 exact Or.inl ⟨B,_,_,_,rfl,HD.out,(O3.out.touch HUz.out (fun k hk e=>by have:=HS2.out;omega)).lower (by have:=HS2.out;have:=HG.out;omega),T3.out.trans' HUz.out (fun i hi e=>by have:=HG.out;omega)⟩
theorem Qh9 (h:HV) (a:Option Addr) (n c:Nat) (rs:List Int) (w:World) (B:BV) (hB:decB h.typ rs=some B)
  (HC:∀w',Touch (fun _=>False) w w'→Sd w' w.heap.size h (.slice a n c)→Calls Tryz.prog 118 #[.pointer (some ⟨w.heap.size,0,none⟩)] w' (RdAns h.typ rs w')) :
  Calls Tryz.prog 88 #[h.sv (.slice a n c)] w fun e w'=>∃vl vr vd,e=.returned (.tuple #[B.v vl vr vd,.int .i64 0])∧BOwn w.heap.size w' B vl vr vd∧Touch (fun _=>False) w w':=by
 have hmf:∀(fn:Fn) (first cap:Array Value) (w:World),(Instr.makeFunc fn first cap).run Tryz.prog w=.ok (.func fn first cap) w:=fun _ _ _ _=>rfl
 have HC4:=HC ((((w.alloc (.cells #[.int .u16 h.age,.int .u8 h.opts,.int .u8 h.typ,.int .u32 h.id,.int .u32 h.adv,.int .i32 h.seq,.int .u16 h.sum,.int .u16 h.len,.slice a n c] 59)).alloc (.cells #[.int .u8 0,.slice none 0 0,.int .u32 0,.slice none 0 0,.int .u32 0,.bool false,.int .u32 0,.int .u32 0,.slice none 0 0] 92)).alloc (.cells #[.int .u8 0,.slice none 0 0,.int .u32 0,.slice none 0 0,.int .u32 0,.bool false,.int .u32 0,.int .u32 0,.slice none 0 0] 92)).alloc (.cells #[.int .i64 0] 61)) ((((Touch.refl _ w).alloc _).alloc _).alloc _ |>.alloc _) ((Sd.new w h (.slice a n c) 59).keep ((((Touch.refl _ _).alloc _).alloc _).alloc _))
 have HF:=Qg1 118 #[.pointer (some ⟨w.heap.size,0,none⟩)] (fun _=>rfl) ((w.alloc (.cells #[.int .u16 h.age,.int .u8 h.opts,.int .u8 h.typ,.int .u32 h.id,.int .u32 h.adv,.int .i32 h.seq,.int .u16 h.sum,.int .u16 h.len,.slice a n c] 59)).alloc (.cells #[.int .u8 0,.slice none 0 0,.int .u32 0,.slice none 0 0,.int .u32 0,.bool false,.int .u32 0,.int .u32 0,.slice none 0 0] 92)) B.flags B.mask B.metric B.fwd B.tag B.type2 (fun s1 s3 s8 w'=>BOwn (w.heap.size+4) w' B s1 s3 s8) (HC4.mono (by
  rintro e w' (⟨B',vl,vr,vd,rfl,hd,o,t⟩|⟨rfl,hd,t⟩)
  ·rw [hB] at hd
   cases hd
   obtain⟨a1,q1,a3,q3,a8,q8,rfl,rfl,rfl⟩:=o.form
   exact⟨a1,_,q1,a3,_,q3,a8,_,q8,rfl,t,by have:=o;simpa using this⟩
  ·rw [hB] at hd
   cases hd)) (by
  intro a1 n1 q1 a3 n3 q3 a8 n8 q8 w1 w2 hk _ t
  simp only [World.size_alloc] at t
  exact hk.touch t (fun k hkk e=>by omega))
 clear HC HC4 hB
 show Calls Tryz.prog 88 #[.agg #[.int .u16 h.age,.int .u8 h.opts,.int .u8 h.typ,.int .u32 h.id,.int .u32 h.adv,.int .i32 h.seq,.int .u16 h.sum,.int .u16 h.len,.slice a n c]] w _
 go_enter Tryz.func88,Tryz.ntmps88
 go_wp2_with fail
 refine Calls.mono HF ?_
 rintro e w1 ⟨a1,n1,q1,a3,n3,q3,a8,n8,q8,rfl,t1,k1⟩
 have R1:Hid (Room w1 (w.heap.size+1) 9):=by
  have:=(Room.new (w.alloc (.cells #[.int .u16 h.age,.int .u8 h.opts,.int .u8 h.typ,.int .u32 h.id,.int .u32 h.adv,.int .i32 h.seq,.int .u16 h.sum,.int .u16 h.len,.slice a n c] 59)) #[.int .u8 0,.slice none 0 0,.int .u32 0,.slice none 0 0,.int .u32 0,.bool false,.int .u32 0,.int .u32 0,.slice none 0 0] 92).keep t1
  show Room _ _ _
  simpa using this
 have HT:Hid (Touch (fun _=>False) w w1):=(((Touch.refl _ w).alloc _).alloc _).trans t1
 have HO:Hid (BOwn (w.heap.size+4) w1 B (.slice a1 n1 q1) (.slice a3 n3 q3) (.slice a8 n8 q8)):=k1
 clear HF t1 hmf k1
 generalize hg:w.heap.size+1=g at *
 have HG:Hid (w.heap.size+1=g):=hg
 clear hg
 obtain⟨zz0,zc0,zf0⟩:=R1.out 0 (by omega)
 obtain⟨zz1,zc1,zf1⟩:=R1.out 1 (by omega)
 obtain⟨zz2,zc2,zf2⟩:=R1.out 2 (by omega)
 obtain⟨zz3,zc3,zf3⟩:=R1.out 3 (by omega)
 obtain⟨zz4,zc4,zf4⟩:=R1.out 4 (by omega)
 obtain⟨zz5,zc5,zf5⟩:=R1.out 5 (by omega)
 obtain⟨zz6,zc6,zf6⟩:=R1.out 6 (by omega)
 obtain⟨zz7,zc7,zf7⟩:=R1.out 7 (by omega)
 obtain⟨zz8,zc8,zf8⟩:=R1.out 8 (by omega)
 obtain⟨wz,hwz⟩:∃wz,wz=(((((((((w1.setCell ⟨g,0,none⟩ (.int .u8 B.flags)).setCell ⟨g,1,none⟩ (.slice a1 n1 q1)).setCell ⟨g,2,none⟩ (.int .u32 B.mask)).setCell ⟨g,3,none⟩ (.slice a3 n3 q3)).setCell ⟨g,4,none⟩ (.int .u32 B.metric)).setCell ⟨g,5,none⟩ (.bool B.type2)).setCell ⟨g,6,none⟩ (.int .u32 B.fwd)).setCell ⟨g,7,none⟩ (.int .u32 B.tag)).setCell ⟨g,8,none⟩ (.slice a8 n8 q8)):=⟨_,rfl⟩
 have zd0:wz.cell? ⟨g,0,none⟩=some (.int .u8 B.flags):=by rw [hwz];simp [zc0,go_sem]
 have zd1:wz.cell? ⟨g,1,none⟩=some (.slice a1 n1 q1):=by rw [hwz];simp [zc1,go_sem]
 have zd2:wz.cell? ⟨g,2,none⟩=some (.int .u32 B.mask):=by rw [hwz];simp [zc2,go_sem]
 have zd3:wz.cell? ⟨g,3,none⟩=some (.slice a3 n3 q3):=by rw [hwz];simp [zc3,go_sem]
 have zd4:wz.cell? ⟨g,4,none⟩=some (.int .u32 B.metric):=by rw [hwz];simp [zc4,go_sem]
 have zd5:wz.cell? ⟨g,5,none⟩=some (.bool B.type2):=by rw [hwz];simp [zc5,go_sem]
 have zd6:wz.cell? ⟨g,6,none⟩=some (.int .u32 B.fwd):=by rw [hwz];simp [zc6,go_sem]
 have zd7:wz.cell? ⟨g,7,none⟩=some (.int .u32 B.tag):=by rw [hwz];simp [zc7,go_sem]
 have zd8:wz.cell? ⟨g,8,none⟩=some (.slice a8 n8 q8):=by rw [hwz];simp [zc8,go_sem]
 have HUz:Hid (Touch (fun k=>k=g) w1 wz):=by show Touch _ _ _;rw [hwz];refine Touch.setCell (F:=fun k=>k=g) (p:=⟨g,8,none⟩) ?_ (Or.inl rfl) _;refine Touch.setCell (F:=fun k=>k=g) (p:=⟨g,7,none⟩) ?_ (Or.inl rfl) _;refine Touch.setCell (F:=fun k=>k=g) (p:=⟨g,6,none⟩) ?_ (Or.inl rfl) _;refine Touch.setCell (F:=fun k=>k=g) (p:=⟨g,5,none⟩) ?_ (Or.inl rfl) _;refine Touch.setCell (F:=fun k=>k=g) (p:=⟨g,4,none⟩) ?_ (Or.inl rfl) _;refine Touch.setCell (F:=fun k=>k=g) (p:=⟨g,3,none⟩) ?_ (Or.inl rfl) _;refine Touch.setCell (F:=fun k=>k=g) (p:=⟨g,2,none⟩) ?_ (Or.inl rfl) _;refine Touch.setCell (F:=fun k=>k=g) (p:=⟨g,1,none⟩) ?_ (Or.inl rfl) _;refine Touch.setCell (F:=fun k=>k=g) (p:=⟨g,0,none⟩) ?_ (Or.inl rfl) _;exact Touch.refl _ _
 have HWz:Hid (wz=(((((((((w1.setCell ⟨g,0,none⟩ (.int .u8 B.flags)).setCell ⟨g,1,none⟩ (.slice a1 n1 q1)).setCell ⟨g,2,none⟩ (.int .u32 B.mask)).setCell ⟨g,3,none⟩ (.slice a3 n3 q3)).setCell ⟨g,4,none⟩ (.int .u32 B.metric)).setCell ⟨g,5,none⟩ (.bool B.type2)).setCell ⟨g,6,none⟩ (.int .u32 B.fwd)).setCell ⟨g,7,none⟩ (.int .u32 B.tag)).setCell ⟨g,8,none⟩ (.slice a8 n8 q8))):=hwz
 clear hwz
 go_wp2_with fail
 rw [←HWz.out]
 clear HWz zc0 zf0 zc1 zf1 zc2 zf2 zc3 zf3 zc4 zf4 zc5 zf5 zc6 zf6 zc7 zf7 zc8 zf8
 refine bodyPost_ret (v:=.tuple #[.agg #[.int .u8 B.flags,.slice a1 n1 q1,.int .u32 B.mask,.slice a3 n3 q3,.int .u32 B.metric,.bool B.type2,.int .u32 B.fwd,.int .u32 B.tag,.slice a8 n8 q8],.int .i64 0]) (by simp [results,Tryz.results88,go_sem,zd0,zd1,zd2,zd3,zd4,zd5,zd6,zd7,zd8]) rfl ?_
 exact⟨_,_,_,rfl,(HO.out.touch HUz.out (fun k hk e=>by have:=HG.out;omega)).lower (by omega),HT.out.trans' HUz.out (fun i hi e=>by have:=HG.out;omega)⟩
end Go.Proofs.YtldmkoogghemhaaGreat
