import Derived.Test.YtddbffoiadmffaaGreatTrWs
import Derived.Deep.MidRow
namespace Go.Proofs.YtddbffoiadmffaaGreat
set_option maxHeartbeats 8000000
open Go.RowKit
set_option linter.unusedVariables false
set_option maxRecDepth 100000
theorem eqStep (x y:Sp) (w:World):(Op.equalIn 10000 154 (.agg #[.int .i64 x.node,.int .u32 x.cost,.int .u32 x.h.out,.int .u32 x.h.via,.bool x.h.vr]) (.agg #[.int .i64 y.node,.int .u32 y.cost,.int .u32 y.h.out,.int .u32 y.h.via,.bool y.h.vr])).run Tryz.prog w=.ok (decide (x=y)) w:=by
 have hS:Tryz.prog.underlying 154=some (.struct (Tryz.prog.fieldsOf 154)):=by kernel_rfl
 have hH:Tryz.prog.underlying 48=some (.struct (Tryz.prog.fieldsOf 48)):=by kernel_rfl
 have HE:∀w,(Op.equalIn 9999 48 (.agg #[.int .u32 x.h.out,.int .u32 x.h.via,.bool x.h.vr]) (.agg #[.int .u32 y.h.out,.int .u32 y.h.via,.bool y.h.vr])).run Tryz.prog w=.ok (decide (x.h=y.h)) w:=by
  intro w
  rw [show (9999:Nat)=9998+1 from rfl,run_equalIn_agg w 9998 48 _ _ hH (by kernel_rfl)]
  simp only [Program.fieldsOf,Tryz.underlying48]
  go_simp
  obtain⟨x1,x2,a,b,c⟩:=x
  obtain⟨y1,y2,a',b',c'⟩:=y
  by_cases h1:a=a' <;> by_cases h2:b=b' <;> by_cases h3:c=c' <;> simp [h1,h2,h3]
 rw [show (10000:Nat)=9999+1 from rfl,run_equalIn_agg w 9999 154 _ _ hS (by kernel_rfl)]
 simp only [Program.fieldsOf,Tryz.underlying154]
 go_simp
 obtain⟨x1,x2,xh⟩:=x
 obtain⟨y1,y2,yh⟩:=y
 by_cases h1:x1=y1 <;> by_cases h2:x2=y2 <;> by_cases h3:xh=yh <;> simp [h1,h2,h3]
theorem Qq3 {w:World} {g:Nat} {T:TypeId} {xs:List Value} (h:Row w g T xs):w.rangeAt g 0 xs:=fun j v hj=>by
 rw [Nat.zero_add,Row.cell h j]
 exact hj
structure SnX (x w:World):Prop where
 t:Touch (fun _=>False) x w
theorem SnX.start (x:World):SnX x x.drew:=⟨(Touch.refl _ _).drew⟩
theorem SnX.trans {x w w':World} (h:SnX x w) (t:Touch (fun _=>False) w w'):SnX x w':=⟨h.t.trans t⟩
theorem SnX.alloc {x w:World} (h:SnX x w) (o:Obj):SnX x (w.alloc o):=⟨h.t.alloc o⟩
theorem SnX.setRow {x w:World} (h:SnX x w) {g:Nat} (hg:x.heap.size≤g) (R:Array Value):SnX x (w.setRow g R):=⟨h.t.setRow (Or.inr hg) R⟩
theorem Qay {x:World} {p:Addr} {v:Value} (h:x.cell? p=some v):∀w,SnX x w→w.cell? p=some v:=fun w s=>s.t.cellN h
structure TryP (w0:World) (p:WB) (ns:List NM) (e:TE) (c:Int) (h:HK) (w:World) (v:Value) (L:List Sp) (R:Nat→RV) (H:Nat→Value) (Z:Nat→Sp) (e':Ending) (w':World):Prop where
 ed:e'=.returned (.tuple #[])
 out:(WS w0 p w' v L R H Z∧∀t:Nat,e.dst=(t:Int)→t<ns.length→t≠p.root→c+e.cost≤4294967295→(R t).is=true∧((R t).cost<c+e.cost∨Z t=⟨(t:Int),c+e.cost,intoH h (gn (ns.map (·.t)) t)⟩)) ∨
  (∃(t:Nat) (v':Value) (L':List Sp),e.dst=(t:Int)∧t<ns.length∧t≠p.root∧c+e.cost≤4294967295∧((R t).is=true→c+e.cost≤(R t).cost)∧L'.Perm (L++[⟨(t:Int),c+e.cost,intoH h (gn (ns.map (·.t)) t)⟩]) ∧
   (v'.ownBlock=v.ownBlock∨∃g,v'.ownBlock=some g∧w.heap.size≤g)∧WS w0 p w' v' L' (upf R t ⟨true,c+e.cost,(R t).hops⟩) H (upf Z t ⟨(t:Int),c+e.cost,intoH h (gn (ns.map (·.t)) t)⟩))
 tt:Touch (WBl p v) w w'
theorem Qo9 (w0:World) (p:WB) (ns:List NM) (GA:GrAt w0 p.nv ns) (hN:p.N=ns.length) (hNm:ns.length≤1000000) (hroot:p.root<p.N) (w:World) (v:Value) (L:List Sp) (R:Nat→RV) (H:Nat→Value) (Z:Nat→Sp) (X:WS w0 p w v L R H Z)
  (e:TE) (c:Int) (h:HK) (hc:0≤c∧c≤4294967295) (he:0≤e.cost∧e.cost≤4294967295) (hl:L.length+1≤1099511627776) :
  Calls Tryz.prog 60 #[.pointer (some ⟨p.wb,0,none⟩),.agg #[.int .i64 e.dst,.int .u32 e.cost,.int .u32 e.data,.bool e.vr],.int .u32 c,.agg #[.int .u32 h.out,.int .u32 h.via,.bool h.vr]] w (TryP w0 p ns e c h w v L R H Z):=by
 obtain⟨⟨a,cp,hnv,hsh⟩,hed⟩:=GA
 have T0:Touch (fun _=>False) w ((w.alloc (.cells #[.int .i64 e.dst,.int .u32 e.cost,.int .u32 e.data,.bool e.vr] 134)).alloc (.cells #[.int .u32 h.out,.int .u32 h.via,.bool h.vr] 48)):=((Touch.refl _ _).alloc _).alloc _
 have RE:Row ((w.alloc (.cells #[.int .i64 e.dst,.int .u32 e.cost,.int .u32 e.data,.bool e.vr] 134)).alloc (.cells #[.int .u32 h.out,.int .u32 h.via,.bool h.vr] 48)) w.heap.size 134 [.int .i64 e.dst,.int .u32 e.cost,.int .u32 e.data,.bool e.vr]:=(Qac w _ _).keep ((Touch.refl _ _).alloc _)
 have RHp:Row ((w.alloc (.cells #[.int .i64 e.dst,.int .u32 e.cost,.int .u32 e.data,.bool e.vr] 134)).alloc (.cells #[.int .u32 h.out,.int .u32 h.via,.bool h.vr] 48)) (w.heap.size+1) 48 [.int .u32 h.out,.int .u32 h.via,.bool h.vr]:=by
  have:=Qac (w.alloc (.cells #[.int .i64 e.dst,.int .u32 e.cost,.int .u32 e.data,.bool e.vr] 134)) 48 #[.int .u32 h.out,.int .u32 h.via,.bool h.vr]
  simpa using this
 have SK:Hid (∀w',Touch (fun _=>False) w w'→(∀t:Nat,e.dst=(t:Int)→t<ns.length→t≠p.root→c+e.cost≤4294967295→(R t).is=true∧((R t).cost<c+e.cost∨Z t=⟨(t:Int),c+e.cost,intoH h (gn (ns.map (·.t)) t)⟩))→TryP w0 p ns e c h w v L R H Z (.returned (.tuple #[])) w'):=fun w' t q=>⟨rfl,Or.inl ⟨X.keep t,q⟩,t.mono (fun _ _ h=>h.elim)⟩
 have HX:Hid _:=X
 have HSH:Hid _:=hsh
 obtain⟨dst,ec,edt,evr⟩:=e
 simp only at he SK T0 RE RHp ⊢
 go_enter Tryz.func60,Tryz.ntmps60
 go_wp2_with fail
 generalize (w.alloc (.cells #[.int .i64 dst,.int .u32 ec,.int .u32 edt,.bool evr] 134)).alloc (.cells #[.int .u32 h.out,.int .u32 h.via,.bool h.vr] 48)=wa at *
 have HEB:Hid (p.rb<w.heap.size∧p.zb<w.heap.size):=⟨X.rlt,X.zlt⟩
 generalize w.heap.size=eb at *
 have X1:=HX.out.keep T0
 have b0:wa.cell? ⟨eb,0,none⟩=some (.int .i64 dst):=RE.cell 0
 have b1:wa.cell? ⟨eb,1,none⟩=some (.int .u32 ec):=RE.cell 1
 have c1:wa.cell? ⟨p.wb,1,none⟩=some (.slice a ns.length cp):=by rw [←hnv];exact X1.c1
 have c2:=X1.c2
 have HT0:Hid _:=T0
 have HX1:Hid _:=X1
 have HRE:Hid _:=RE
 have HRH:Hid _:=RHp
 have HNV:Hid _:=hnv
 clear X T0 X1 RE RHp hsh hnv hed
 by_cases hA:dst<0
 ·have hd1:decide (dst<0)=true:=decide_eq_true hA
  go_quiet (fail)
  go_wp2_with fail
  refine bodyPost_end (results_none rfl _ _ _) rfl (SK.out _ (HT0.out.drewN _) (fun t h1=>by omega))
 ·have hd1:decide (dst<0)=false:=decide_eq_false hA
  by_cases hB:(ns.length:Int)≤dst
  ·have hd2:decide ((ns.length:Int)≤dst)=true:=decide_eq_true hB
   go_quiet (fail)
   go_wp2_with fail
   refine bodyPost_end (results_none rfl _ _ _) rfl (SK.out _ (HT0.out.drewN _) (fun t h1=>by omega))
  ·have hd2:decide ((ns.length:Int)≤dst)=false:=decide_eq_false hB
   obtain⟨t,HTD⟩:∃t:Nat,Hid (dst=(t:Int)):=⟨dst.toNat,by show _=_;omega⟩
   have htN:Hid (t<ns.length):=by show _<_;have:=HTD.out;omega
   by_cases hC:t=p.root
   ·have hd3:(dst==(p.root:Int))=true:=by have:=HTD.out;simp;omega
    have HC:Hid _:=hC
    clear hC
    go_quiet (fail)
    go_wp2_with fail
    refine bodyPost_end (results_none rfl _ _ _) rfl (SK.out _ (HT0.out.drewN _) (fun t' h1 _ h3=>by have:=HTD.out;have:=HC.out;omega))
   ·have hd3:(dst==(p.root:Int))=false:=by have:=HTD.out;simp;omega
    have HC:Hid (¬t=p.root):=hC
    clear hC
    have hws:IntKind.u32.wrap (4294967295-c)=4294967295-c:=IntWalk.u32_in _ (by omega)
    by_cases hD:4294967295-c<ec
    ·have hd4:decide (4294967295-c<ec)=true:=decide_eq_true hD
     go_quiet (fail)
     go_wp2_with fail
     refine bodyPost_end (results_none rfl _ _ _) rfl (SK.out _ (HT0.out.drewN _) (fun t' h1 _ h3 h4=>by omega))
    ·have hd4:decide (4294967295-c<ec)=false:=decide_eq_false hD
     go_quiet (fail)
     have hD':c+ec≤4294967295:=by omega
     have ht:=HTD.out
     subst ht
     have HTT:Hid (Touch (fun _=>False) w (wa.drewN nq)):=HT0.out.drewN nq
     have X2:=HX1.out.keep ((Touch.refl (fun _=>False) wa).drewN nq)
     have HRE2:Hid (Row (wa.drewN nq) eb 134 [.int .i64 (t:Int),.int .u32 ec,.int .u32 edt,.bool evr]):=Row.keep HRE.out ((Touch.refl (fun _=>False) wa).drewN nq)
     have HRH2:Hid (Row (wa.drewN nq) (eb+1) 48 [.int .u32 h.out,.int .u32 h.via,.bool h.vr]):=Row.keep HRH.out ((Touch.refl (fun _=>False) wa).drewN nq)
     generalize wa.drewN nq=w2 at *
     have hnt:decide ((t:Int)<0)=false:=hd1
     clear hd1 hd2 hd3 hd4 hws b0 b1 c1 c2 HX1 HRE HRH HT0 hB hD hA
     obtain⟨x,hx⟩:∃x,ns[t]?=some x:=⟨_,List.getElem?_eq_getElem htN.out⟩
     have hxt:x.t=gn (ns.map (·.t)) t:=by unfold gn;rw [List.getD_eq_getElem?_getD,List.getElem?_map,hx];rfl
     rcases HSH.out with e|⟨ng,rfl,hcs⟩
     ·rw [e] at hx;cases hx
     have hq:=fun d u hd=>X2.t.cellN (hcs t x hx d u hd)
     have q0:w2.cell? ⟨ng,t*7,none⟩=some (.bool x.t.net):=hq 0 _ rfl
     have q1:w2.cell? ⟨ng,t*7+1,none⟩=some (.int .u32 x.t.id):=hq 1 _ rfl
     have q2:w2.cell? ⟨ng,t*7+2,none⟩=some (.int .u32 x.addr):=hq 2 _ rfl
     have q3:w2.cell? ⟨ng,t*7+3,none⟩=some (.int .u8 x.bits):=hq 3 _ rfl
     have q4:w2.cell? ⟨ng,t*7+4,none⟩=some (.int .u8 x.flags):=hq 4 _ rfl
     have q5:w2.cell? ⟨ng,t*7+5,none⟩=some (.slice x.ea x.t.edges.length x.ec):=hq 5 _ rfl
     have q6:w2.cell? ⟨ng,t*7+6,none⟩=some (.slice x.sa x.sn x.sc):=hq 6 _ rfl
     have c1:w2.cell? ⟨p.wb,1,none⟩=some (.slice (some ⟨ng,0,none⟩) ns.length cp):=by rw [←HNV.out];exact X2.c1
     have b0:w2.cell? ⟨eb,0,none⟩=some (.int .i64 (t:Int)):=Row.cell HRE2.out 0
     have b1:w2.cell? ⟨eb,1,none⟩=some (.int .u32 ec):=Row.cell HRE2.out 1
     have b2:w2.cell? ⟨eb+1,0,none⟩=some (.int .u32 h.out):=Row.cell HRH2.out 0
     have b3:w2.cell? ⟨eb+1,1,none⟩=some (.int .u32 h.via):=Row.cell HRH2.out 1
     have b4:w2.cell? ⟨eb+1,2,none⟩=some (.bool h.vr):=Row.cell HRH2.out 2
     have HIN:Hid (∀wx,Calls Tryz.prog 109 #[.agg #[.int .u32 h.out,.int .u32 h.via,.bool h.vr],.agg #[.bool x.t.net,.int .u32 x.t.id,.int .u32 x.addr,.int .u8 x.bits,.int .u8 x.flags,.slice x.ea x.t.edges.length x.ec,.slice x.sa x.sn x.sc]] wx fun e w'=>e=.returned (intoH h (gn (ns.map (·.t)) t)).v∧Touch (fun _=>False) wx w'):=fun wx=>by rw [←hxt];exact Qp2 wx h x
     have HX2:Hid _:=X2
     have HX2B:Hid (p.wb<w2.heap.size∧p.rb<w2.heap.size∧p.zb<w2.heap.size):=⟨X2.ls.lt,X2.rlt,X2.zlt⟩
     clear X2 hq hcs hx hxt
     generalize hkk:intoH h (gn (ns.map (·.t)) t)=k at *
     obtain⟨ko,kv,kr⟩:=k
     have HKK:Hid _:=hkk
     clear hkk
     simp only [HK.v] at HIN
     have hws:IntKind.u32.wrap (c+ec)=c+ec:=IntWalk.u32_in _ (by omega)
     have ht0:(0:Int)≤(t:Int):=by omega
     have htl:(t:Int)<(ns.length:Int):=by have:=htN.out;omega
     have hbld:∀w,(Instr.build 154 #[(0,.int .i64 (t:Int)),(1,.int .u32 (c+ec)),(2,.agg #[.int .u32 ko,.int .u32 kv,.bool kr])]).run Tryz.prog w=.ok (.agg #[.int .i64 (t:Int),.int .u32 (c+ec),.int .u32 ko,.int .u32 kv,.bool kr]) w:=fun w=>run_build w 154 _ _ (by kernel_rfl)
     have st:=SnX.start w2
     have x0:=Qay q0
     have x1:=Qay q1
     have x2:=Qay q2
     have x3:=Qay q3
     have x4:=Qay q4
     have x5:=Qay q5
     have x6:=Qay q6
     have y0:=Qay c1
     have y1:=Qay b0
     have y2:=Qay b1
     have y3:=Qay b2
     have y4:=Qay b3
     have y5:=Qay b4
     have HNR:Hid (∀w,SnX w2 w→w.rangeAt ng (t*7) [.bool x.t.net,.int .u32 x.t.id,.int .u32 x.addr,.int .u8 x.bits,.int .u8 x.flags,.slice x.ea x.t.edges.length x.ec,.slice x.sa x.sn x.sc]):=by
      intro w sw j v hj
      rcases (by have:=(List.getElem?_eq_some_iff.1 hj).1;simp at this;omega:j=0∨j=1∨j=2∨j=3∨j=4∨j=5∨j=6) with rfl|rfl|rfl|rfl|rfl|rfl|rfl <;> (simp at hj;subst hj)
      ·exact x0 w sw
      ·exact x1 w sw
      ·exact x2 w sw
      ·exact x3 w sw
      ·exact x4 w sw
      ·exact x5 w sw
      ·exact x6 w sw
     clear q0 q1 q2 q3 q4 q5 q6 c1 b0 b1 b2 b3 b4
     go_upto_region 2 with fail
     go_cut [8] (fun s8 wx=>∃q,s8=.pointer (some ⟨q,0,none⟩)∧Row wx q 154 [.int .i64 (t:Int),.int .u32 (c+ec),.int .u32 ko,.int .u32 kv,.bool kr]∧SnX w2 wx∧w2.heap.size≤q)
     case first =>
      refine wp_region_held_drew (S:=fun w'=>SnX w2 w') (by kernel_rfl) (SnX.start w2) (fun hHeld=>?_)
      refine wpAnyH_take (i:=0) (oi:=⟨some 39,_,_,_,_,_⟩) (v:=.pointer (some ⟨eb,0,none⟩)) rfl (by kernel_rfl) (by kernel_rfl) (by kernel_rfl) (fun _ _ _ h=>h) (Or.inl ⟨by rfl,fun w hw=>by go_simp⟩) (by assumption) ?_
      simp only [Act.put,Qw2,Qw3,Qw4]
      refine wpAnyH_take (i:=1) (oi:=⟨some 40,_,_,_,_,_⟩) (v:=.int .i64 (t:Int)) rfl (by kernel_rfl) (by kernel_rfl) (by kernel_rfl) (fun _ _ _ h=>h) (Or.inl ⟨by rfl,fun w hw=>by go_simp⟩) (by assumption) ?_
      simp only [Act.put,Qw2,Qw3,Qw4]
      refine wpAnyH_take (i:=2) (oi:=⟨some 41,_,_,_,_,_⟩) (v:=.int .u32 c) rfl (by kernel_rfl) (by kernel_rfl) (by kernel_rfl) (fun _ _ _ h=>h) (Or.inl ⟨by rfl,fun w hw=>by go_simp⟩) (by assumption) ?_
      simp only [Act.put,Qw2,Qw3,Qw4]
      refine wpAnyH_take (i:=3) (oi:=⟨some 42,_,_,_,_,_⟩) (v:=.pointer (some ⟨eb,1,none⟩)) rfl (by kernel_rfl) (by kernel_rfl) (by kernel_rfl) (fun _ _ _ h=>h) (Or.inl ⟨by rfl,fun w hw=>by go_simp⟩) (by assumption) ?_
      simp only [Act.put,Qw2,Qw3,Qw4]
      refine wpAnyH_take (i:=4) (oi:=⟨some 43,_,_,_,_,_⟩) (v:=.int .u32 ec) rfl (by kernel_rfl) (by kernel_rfl) (by kernel_rfl) (fun _ _ _ h=>h) (Or.inl ⟨by rfl,fun w hw=>by go_simp⟩) (by assumption) ?_
      simp only [Act.put,Qw2,Qw3,Qw4]
      refine wpAnyH_take (i:=5) (oi:=⟨some 44,_,_,_,_,_⟩) (v:=.int .u32 (c+ec)) rfl (by kernel_rfl) (by kernel_rfl) (by kernel_rfl) (fun _ _ _ h=>h) (Or.inl ⟨by rfl,fun w hw=>by go_simp⟩) (by assumption) ?_
      simp only [Act.put,Qw2,Qw3,Qw4]
      refine wpAnyH_take (i:=6) (oi:=⟨some 45,_,_,_,_,_⟩) (v:=.agg #[.int .u32 h.out,.int .u32 h.via,.bool h.vr]) rfl (by kernel_rfl) (by kernel_rfl) (by kernel_rfl) (fun _ _ _ h=>h) (yieldsIf_load_mid (by rfl) _ _ rfl _ _ rfl [.int .u32 h.out,.int .u32 h.via,.bool h.vr] _ (fun w hw=>Qq3 (Row.keep HRH2.out hw.t)) Tryz.underlying48 rfl (by kernel_rfl)) (by assumption) ?_
      simp only [Act.put,Qw2,Qw3,Qw4]
      refine wpAnyH_take (i:=7) (oi:=⟨some 46,_,_,_,_,_⟩) (v:=.pointer (some ⟨p.wb,0,none⟩)) rfl (by kernel_rfl) (by kernel_rfl) (by kernel_rfl) (fun _ _ _ h=>h) (Or.inl ⟨by rfl,fun w hw=>by go_simp⟩) (by assumption) ?_
      simp only [Act.put,Qw2,Qw3,Qw4]
      refine wpAnyH_take (i:=8) (oi:=⟨some 47,_,_,_,_,_⟩) (v:=.pointer (some ⟨p.wb,0,none⟩)) rfl (by kernel_rfl) (by kernel_rfl) (by kernel_rfl) (fun _ _ _ h=>h) (Or.inl ⟨by rfl,fun w hw=>by go_simp⟩) (by assumption) ?_
      simp only [Act.put,Qw2,Qw3,Qw4]
      refine wpAnyH_take (i:=9) (oi:=⟨some 48,_,_,_,_,_⟩) (v:=.pointer (some ⟨p.wb,1,none⟩)) rfl (by kernel_rfl) (by kernel_rfl) (by kernel_rfl) (fun _ _ _ h=>h) (Or.inl ⟨by rfl,fun w hw=>by go_simp⟩) (by assumption) ?_
      simp only [Act.put,Qw2,Qw3,Qw4]
      refine wpAnyH_take (i:=10) (oi:=⟨some 49,_,_,_,_,_⟩) (v:=.slice (some ⟨ng,0,none⟩) ns.length cp) rfl (by kernel_rfl) (by kernel_rfl) (by kernel_rfl) (fun _ _ _ h=>h) (Or.inl ⟨by rfl,fun w hw=>by go_simp⟩) (by assumption) ?_
      simp only [Act.put,Qw2,Qw3,Qw4]
      refine wpAnyH_take (i:=11) (oi:=⟨some 50,_,_,_,_,_⟩) (v:=.pointer (some ⟨eb,0,none⟩)) rfl (by kernel_rfl) (by kernel_rfl) (by kernel_rfl) (fun _ _ _ h=>h) (Or.inl ⟨by rfl,fun w hw=>by go_simp⟩) (by assumption) ?_
      simp only [Act.put,Qw2,Qw3,Qw4]
      refine wpAnyH_take (i:=12) (oi:=⟨some 51,_,_,_,_,_⟩) (v:=.int .i64 (t:Int)) rfl (by kernel_rfl) (by kernel_rfl) (by kernel_rfl) (fun _ _ _ h=>h) (Or.inl ⟨by rfl,fun w hw=>by go_simp⟩) (by assumption) ?_
      simp only [Act.put,Qw2,Qw3,Qw4]
      refine wpAnyH_take (i:=13) (oi:=⟨some 52,_,_,_,_,_⟩) (v:=.pointer (some ⟨ng,t*7,none⟩)) rfl (by kernel_rfl) (by kernel_rfl) (by kernel_rfl) (fun _ _ _ h=>h) (Or.inl ⟨by rfl,fun w hw=>by go_simp⟩) (by assumption) ?_
      simp only [Act.put,Qw2,Qw3,Qw4]
      refine wpAnyH_take (i:=14) (oi:=⟨some 53,_,_,_,_,_⟩) (v:=.agg #[.bool x.t.net,.int .u32 x.t.id,.int .u32 x.addr,.int .u8 x.bits,.int .u8 x.flags,.slice x.ea x.t.edges.length x.ec,.slice x.sa x.sn x.sc]) rfl (by kernel_rfl) (by kernel_rfl) (by kernel_rfl) (fun _ _ _ h=>h) (yieldsIf_load_mid (by rfl) _ _ rfl _ _ rfl [.bool x.t.net,.int .u32 x.t.id,.int .u32 x.addr,.int .u8 x.bits,.int .u8 x.flags,.slice x.ea x.t.edges.length x.ec,.slice x.sa x.sn x.sc] _ (fun w hw=>HNR.out w hw) Tryz.underlying73 rfl (by kernel_rfl)) (by assumption) ?_
      simp only [Act.put,Qw2,Qw3,Qw4]
      refine wpAnyH_ready (rs:=[15,17]) (by kernel_rfl) (by simp) ?_
      refine AllReadyH.cons (o:=⟨some 54,_,_,_,_,_⟩) rfl (fun K hK=>?_) (AllReadyH.cons (o:=⟨some 8,_,_,_,_,_⟩) rfl (fun K hK=>?_) AllReadyH.nil)
      ·go_simp
       refine Calls.mono (HIN.out _) ?_
       rintro e y1 ⟨rfl,u1⟩
       have s1:SnX w2 y1:=SnX.trans st u1
       refine hK.out _ _ (by assumption) (fun hHeld=>?_)
       clear hK K
       refine wpAnyH_take (i:=16) (oi:=⟨some 55,_,_,_,_,_⟩) (v:=.agg #[.int .i64 (t:Int),.int .u32 (c+ec),.int .u32 ko,.int .u32 kv,.bool kr]) rfl (by kernel_rfl) (by kernel_rfl) (by kernel_rfl) (fun _ _ _ h=>h) (Or.inl ⟨by rfl,fun w hw=>by go_simp⟩) (by assumption) ?_
       simp only [Act.put,Qw2,Qw3,Qw4]
       refine wpAnyH_ready (rs:=[17]) (by kernel_rfl) (by simp) ?_
       refine AllReadyH.cons (o:=⟨some 8,_,_,_,_,_⟩) rfl (fun K hK=>?_) AllReadyH.nil
       go_simp
       have s2:SnX w2 (y1.alloc (.cells #[.int .i64 0,.int .u32 0,.int .u32 0,.int .u32 0,.bool false] 154)):=s1.alloc _
       refine hK.out _ _ (by assumption) (fun hHeld=>?_)
       clear hK K
       have RA:=Qac y1 154 #[.int .i64 0,.int .u32 0,.int .u32 0,.int .u32 0,.bool false]
       have hle:w2.heap.size≤y1.heap.size:=s1.t.size
       refine wpAnyH_ready (rs:=[18]) (by kernel_rfl) (by simp) ?_
       refine AllReadyH.cons (o:=⟨none,_,_,_,_,_⟩) rfl (fun K hK=>?_) AllReadyH.nil
       refine Qdy (by rfl) 154 (.tmp 8) (.tmp 55) (by rfl) y1.heap.size [.int .i64 (t:Int),.int .u32 (c+ec),.int .u32 ko,.int .u32 kv,.bool kr] (by rfl) (by rfl) 154 _ RA (by kernel_rfl) rfl (by intro v hv;simp at hv;rcases hv with rfl|rfl|rfl|rfl|rfl <;> rfl) ?_
       simp only [Act.put]
       have RZ:=Qcb RA [.int .i64 (t:Int),.int .u32 (c+ec),.int .u32 ko,.int .u32 kv,.bool kr]
       have sz:SnX w2 _:=SnX.setRow s2 hle (List.toArray [.int .i64 (t:Int),.int .u32 (c+ec),.int .u32 ko,.int .u32 kv,.bool kr])
       generalize World.setRow _ _ _=yz at RZ sz ⊢
       refine hK.out _ _ (by assumption) (fun hHeld=>?_)
       clear hK K
       refine wpAnyH_done (by kernel_rfl) ?_ _
       go_wp2_with fail
       go_meet
       exact⟨_,rfl,RZ,sz,hle⟩
      ·go_simp
       have s2:SnX w2 (w2.drew.alloc (.cells #[.int .i64 0,.int .u32 0,.int .u32 0,.int .u32 0,.bool false] 154)):=st.alloc _
       refine hK.out _ _ (by assumption) (fun hHeld=>?_)
       clear hK K
       have RA:Row (w2.drew.alloc (.cells #[.int .i64 0,.int .u32 0,.int .u32 0,.int .u32 0,.bool false] 154)) w2.heap.size 154 [.int .i64 0,.int .u32 0,.int .u32 0,.int .u32 0,.bool false]:=Qac w2.drew _ _
       refine wpAnyH_ready (rs:=[15]) (by kernel_rfl) (by simp) ?_
       refine AllReadyH.cons (o:=⟨some 54,_,_,_,_,_⟩) rfl (fun K hK=>?_) AllReadyH.nil
       go_simp
       refine Calls.mono (HIN.out _) ?_
       rintro e y1 ⟨rfl,u1⟩
       have s3:SnX w2 y1:=SnX.trans s2 u1
       have RB:=Row.keep RA u1
       refine hK.out _ _ (by assumption) (fun hHeld=>?_)
       clear hK K
       refine wpAnyH_take (i:=16) (oi:=⟨some 55,_,_,_,_,_⟩) (v:=.agg #[.int .i64 (t:Int),.int .u32 (c+ec),.int .u32 ko,.int .u32 kv,.bool kr]) rfl (by kernel_rfl) (by kernel_rfl) (by kernel_rfl) (fun _ _ _ h=>h) (Or.inl ⟨by rfl,fun w hw=>by go_simp⟩) (by assumption) ?_
       simp only [Act.put,Qw2,Qw3,Qw4]
       have hle:w2.heap.size≤w2.heap.size:=Nat.le_refl _
       refine wpAnyH_ready (rs:=[18]) (by kernel_rfl) (by simp) ?_
       refine AllReadyH.cons (o:=⟨none,_,_,_,_,_⟩) rfl (fun K hK=>?_) AllReadyH.nil
       refine Qdy (by rfl) 154 (.tmp 8) (.tmp 55) (by rfl) w2.heap.size [.int .i64 (t:Int),.int .u32 (c+ec),.int .u32 ko,.int .u32 kv,.bool kr] (by rfl) (by rfl) 154 _ RB (by kernel_rfl) rfl (by intro v hv;simp at hv;rcases hv with rfl|rfl|rfl|rfl|rfl <;> rfl) ?_
       simp only [Act.put]
       have RZ:=Qcb RB [.int .i64 (t:Int),.int .u32 (c+ec),.int .u32 ko,.int .u32 kv,.bool kr]
       have sz:SnX w2 _:=SnX.setRow s3 hle (List.toArray [.int .i64 (t:Int),.int .u32 (c+ec),.int .u32 ko,.int .u32 kv,.bool kr])
       generalize World.setRow _ _ _=yz at RZ sz ⊢
       refine hK.out _ _ (by assumption) (fun hHeld=>?_)
       clear hK K
       refine wpAnyH_done (by kernel_rfl) ?_ _
       go_wp2_with fail
       go_meet
       exact⟨_,rfl,RZ,sz,hle⟩
     case rest =>
      obtain⟨q,rfl,RQ,sx,hle⟩:=hcut
      generalize wc=w3 at *
      have TX:=sx.t
      have HTX:Hid (Touch (fun _=>False) w w3):=HTT.out.trans TX
      have X3:=HX2.out.keep TX
      have c3:=X3.c3
      have c4:=X3.c4
      have b0:w3.cell? ⟨eb,0,none⟩=some (.int .i64 (t:Int)):=Row.cell (Row.keep HRE2.out TX) 0
      have k0:w3.cell? ⟨q,0,none⟩=some (.int .i64 (t:Int)):=RQ.cell 0
      have k1:w3.cell? ⟨q,1,none⟩=some (.int .u32 (c+ec)):=RQ.cell 1
      have k2:w3.cell? ⟨q,2,none⟩=some (.int .u32 ko):=RQ.cell 2
      have k3:w3.cell? ⟨q,3,none⟩=some (.int .u32 kv):=RQ.cell 3
      have k4:w3.cell? ⟨q,4,none⟩=some (.bool kr):=RQ.cell 4
      have htp:t<p.N:=by rw [hN];exact htN.out
      obtain⟨r0,r1,-⟩:=X3.rcell htp
      obtain⟨z0,z1,z2,z3,z4⟩:=X3.zcell htp
      have hpN:(t:Int)<(p.N:Int):=by omega
      have HX3:Hid _:=X3
      have HSX:Hid _:=sx
      have HRQ:Hid _:=RQ
      have HHTP:Hid _:=htp
      clear HX2 HRE2 HRH2 HIN HNR x0 x1 x2 x3 x4 x5 x6 y0 y1 y2 y3 y4 y5 st hbld hws TX X3 sx RQ htp HX HTT
      generalize hrv:R t=rv at *
      generalize hzv:Z t=zv at *
      have HRV:Hid _:=hrv
      have HZV:Hid _:=hzv
      clear hrv hzv
      go_wp2_with fail
      go_quiet (fail)
      go_upto_region 4 with fail
      go_cut [87] (fun s87 wx=>s87=.bool (decide (rv.is=true∧(rv.cost<c+ec∨zv=⟨(t:Int),c+ec,⟨ko,kv,kr⟩⟩)))∧Touch (fun _=>False) w3 wx)
      case first =>
       have HT9:Hid (∀a b,Touch (fun _=>False) w3 ((w3.drewN a).drewN b)):=fun a b=>((Touch.refl _ _).drewN a).drewN b
       by_cases hI:rv.is=true
       ·by_cases hL:rv.cost<c+ec
        ·have hd5:decide (rv.cost<c+ec)=true:=decide_eq_true hL
         have HF:Hid (true=decide (rv.is=true∧(rv.cost<c+ec∨zv=⟨(t:Int),c+ec,⟨ko,kv,kr⟩⟩))):=(decide_eq_true ⟨hI,Or.inl hL⟩).symm
         go_quiet (fail)
         go_wp2_with fail
         go_meet
         exact⟨congrArg Value.bool HF.out,by first|exact HT9.out _ _|exact (Touch.refl _ _).drewN _⟩
        ·have hd5:decide (rv.cost<c+ec)=false:=decide_eq_false hL
         by_cases hZ:zv=⟨(t:Int),c+ec,⟨ko,kv,kr⟩⟩
         ·have hEQ:∀w,(Op.equalIn 10000 154 (.agg #[.int .i64 zv.node,.int .u32 zv.cost,.int .u32 zv.h.out,.int .u32 zv.h.via,.bool zv.h.vr]) (.agg #[.int .i64 (t:Int),.int .u32 (c+ec),.int .u32 ko,.int .u32 kv,.bool kr])).run Tryz.prog w=.ok true w:=fun w=>by have:=eqStep zv ⟨(t:Int),c+ec,⟨ko,kv,kr⟩⟩ w;rw [decide_eq_true hZ] at this;exact this
          have HF:Hid (true=decide (rv.is=true∧(rv.cost<c+ec∨zv=⟨(t:Int),c+ec,⟨ko,kv,kr⟩⟩))):=(decide_eq_true ⟨hI,Or.inr hZ⟩).symm
          clear hZ
          go_quiet (fail)
          go_wp2_with fail
          go_meet
          exact⟨congrArg Value.bool HF.out,by first|exact HT9.out _ _|exact (Touch.refl _ _).drewN _⟩
         ·have hEQ:∀w,(Op.equalIn 10000 154 (.agg #[.int .i64 zv.node,.int .u32 zv.cost,.int .u32 zv.h.out,.int .u32 zv.h.via,.bool zv.h.vr]) (.agg #[.int .i64 (t:Int),.int .u32 (c+ec),.int .u32 ko,.int .u32 kv,.bool kr])).run Tryz.prog w=.ok false w:=fun w=>by have:=eqStep zv ⟨(t:Int),c+ec,⟨ko,kv,kr⟩⟩ w;rw [decide_eq_false hZ] at this;exact this
          have HF:Hid (false=decide (rv.is=true∧(rv.cost<c+ec∨zv=⟨(t:Int),c+ec,⟨ko,kv,kr⟩⟩))):=(decide_eq_false (fun h=>h.2.elim hL hZ)).symm
          clear hZ
          go_quiet (fail)
          go_wp2_with fail
          go_meet
          exact⟨congrArg Value.bool HF.out,by first|exact HT9.out _ _|exact (Touch.refl _ _).drewN _⟩
       ·have hI':rv.is=false:=by simpa using hI
        have HF:Hid (false=decide (rv.is=true∧(rv.cost<c+ec∨zv=⟨(t:Int),c+ec,⟨ko,kv,kr⟩⟩))):=(decide_eq_false (fun h=>hI h.1)).symm
        clear hI
        go_quiet (fail)
        go_wp2_with fail
        go_meet
        exact⟨congrArg Value.bool HF.out,by first|exact HT9.out _ _|exact (Touch.refl _ _).drewN _⟩
      case rest =>
       obtain⟨hs8,T5⟩:=hcut
       generalize wc=w4 at *
       generalize hbb:decide (rv.is=true∧(rv.cost<c+ec∨zv=⟨(t:Int),c+ec,⟨ko,kv,kr⟩⟩))=bb at hs8
       subst hs8
       have HBB:Hid _:=hbb
       have HT4:Hid (Touch (fun _=>False) w w4):=HTX.out.trans T5
       have X4:=HX3.out.keep T5
       have RQ4:=Row.keep HRQ.out T5
       have k1':w4.cell? ⟨q,1,none⟩=some (.int .u32 (c+ec)):=RQ4.cell 1
       have r0':=(X4.rcell HHTP.out).1
       have r1':=(X4.rcell HHTP.out).2.1
       have rf':=X4.rfz
       have hqr:¬q=p.rb:=fun e=>by have:=HX2B.out;omega
       have hqz:¬q=p.zb:=fun e=>by have:=HX2B.out;omega
       have hqw:¬q=p.wb:=fun e=>by have:=HX2B.out;omega
       have HX4:Hid _:=X4
       have HRQ4:Hid (Row w4 q 154 [.int .i64 (t:Int),.int .u32 (c+ec),.int .u32 ko,.int .u32 kv,.bool kr]):=RQ4
       have HB4:Hid (w4.cell? ⟨eb,0,none⟩=some (.int .i64 (t:Int))):=T5.cellN b0
       clear k0 k1 k2 k3 k4 r0 r1 z0 z1 z2 z3 z4 b0 c3 c4 X4 RQ4 T5 HX3 HRQ HTX hbb
       cases bb
       ·have hno:(R t).is=true→c+ec≤(R t).cost:=fun hi=>by
         have h1:=of_decide_eq_false HBB.out
         rw [HRV.out] at hi ⊢
         exact Int.not_lt.1 (fun h2=>h1 ⟨hi,Or.inl h2⟩)
        have HNO:Hid _:=hno
        have X5:=HX4.out.reach HHTP.out true (c+ec)
        clear hno
        go_upto_region 5 with fail
        go_cut [] (fun wx=>wx=((w4.setCell ⟨p.rb,t*3,none⟩ (.bool true)).setCell ⟨p.rb,t*3+1,none⟩ (.int .u32 (c+ec))).drew)
        case first =>
         go_region
         all_goals go_wp2_with fail
         all_goals go_meet
         all_goals rfl
        case rest =>
         have hcut2:=hcut
         clear hcut
         generalize wc=w5 at *
         have T45:Touch (fun k=>k=p.rb) w4 w5:=by
          rw [hcut2]
          exact (tset1 (tset1 (Touch.refl _ _) _ _) _ _).drew
         have X5d:WS w0 p w5 v L (upf R t ⟨true,c+ec,(R t).hops⟩) H Z:=by
          rw [hcut2]
          exact X5.keep ((Touch.refl _ _).drew)
         have RQ5:Row w5 q 154 [.int .i64 (t:Int),.int .u32 (c+ec),.int .u32 ko,.int .u32 kv,.bool kr]:=(T45.block q (Row.lt HRQ4.out) hqr).trans HRQ4.out
         have b0:w5.cell? ⟨eb,0,none⟩=some (.int .i64 (t:Int)):=(T45.cell (p:=⟨eb,0,none⟩) (Qaa HB4.out) (by show ¬eb=p.rb;have:=HEB.out;omega)).trans HB4.out
         have k0:w5.cell? ⟨q,0,none⟩=some (.int .i64 (t:Int)):=RQ5.cell 0
         have k1:w5.cell? ⟨q,1,none⟩=some (.int .u32 (c+ec)):=RQ5.cell 1
         have k2:w5.cell? ⟨q,2,none⟩=some (.int .u32 ko):=RQ5.cell 2
         have k3:w5.cell? ⟨q,3,none⟩=some (.int .u32 kv):=RQ5.cell 3
         have k4:w5.cell? ⟨q,4,none⟩=some (.bool kr):=RQ5.cell 4
         have c4:=X5d.c4
         obtain⟨z0,z1,z2,z3,z4⟩:=X5d.zcell HHTP.out
         have zf:=X5d.zfz
         have HX5:Hid _:=X5d
         have HT45:Hid (Touch (fun k=>k=p.rb) w4 w5):=T45
         have HRQ5:Hid (Row w5 q 154 [.int .i64 (t:Int),.int .u32 (c+ec),.int .u32 ko,.int .u32 kv,.bool kr]):=RQ5
         clear X5d T45 RQ5 X5 hcut2 r0' r1' rf' k1'
         generalize Z t=zv2 at z0 z1 z2 z3 z4
         go_upto_region 6 with fail
         go_cut [] (fun wx=>wx=(((((w5.setCell ⟨p.zb,t*5,none⟩ (.int .i64 (t:Int))).setCell ⟨p.zb,t*5+1,none⟩ (.int .u32 (c+ec))).setCell ⟨p.zb,t*5+2,none⟩ (.int .u32 ko)).setCell ⟨p.zb,t*5+3,none⟩ (.int .u32 kv)).setCell ⟨p.zb,t*5+4,none⟩ (.bool kr)).drew)
         case first =>
          go_region
          all_goals go_wp2_with fail
          all_goals go_meet
          all_goals rfl
         case rest =>
          have hcut2:=hcut
          clear hcut k0 k1 k2 k3 k4 c4 z0 z1 z2 z3 z4 zf b0
          generalize wc=w6 at *
          have T56:Touch (fun k=>k=p.zb) w5 w6:=by
           rw [hcut2]
           exact (tset1 (tset1 (tset1 (tset1 (tset1 (Touch.refl _ _) _ _) _ _) _ _) _ _) _ _).drew
          have X6:WS w0 p w6 v L (upf R t ⟨true,c+ec,(R t).hops⟩) H (upf Z t ⟨(t:Int),c+ec,⟨ko,kv,kr⟩⟩):=by
           rw [hcut2]
           exact (HX5.out.last HHTP.out ⟨(t:Int),c+ec,⟨ko,kv,kr⟩⟩).keep ((Touch.refl _ _).drew)
          have RQ6:Row w6 q 154 [.int .i64 (t:Int),.int .u32 (c+ec),.int .u32 ko,.int .u32 kv,.bool kr]:=(T56.block q (Row.lt HRQ5.out) hqz).trans HRQ5.out
          have k0:w6.cell? ⟨q,0,none⟩=some (.int .i64 (t:Int)):=RQ6.cell 0
          have k1:w6.cell? ⟨q,1,none⟩=some (.int .u32 (c+ec)):=RQ6.cell 1
          have k2:w6.cell? ⟨q,2,none⟩=some (.int .u32 ko):=RQ6.cell 2
          have k3:w6.cell? ⟨q,3,none⟩=some (.int .u32 kv):=RQ6.cell 3
          have k4:w6.cell? ⟨q,4,none⟩=some (.bool kr):=RQ6.cell 4
          have T46:Touch (WBl p v) w4 w6:=(HT45.out.mono (fun k _ e=>Or.inr (Or.inl e))).trans (T56.mono (fun k _ e=>Or.inr (Or.inr (Or.inl e))))
          have FIN:Hid (∀w7,Heaped w6.drew p.wb v w0.heap.size (L++[⟨(t:Int),c+ec,⟨ko,kv,kr⟩⟩]) w7→TryP w0 p ns ⟨(t:Int),ec,edt,evr⟩ c h w v L R H Z (.returned (.tuple #[])) w7):=by
           intro w7 HH
           obtain⟨⟨v',l',P7,pe,h7,hv7⟩,t7⟩:=HH
           have X7:=(X6.keep ((Touch.refl _ _).drew)).line P7 h7 hv7 t7
           have T6d:Touch (WBl p v) w6 w6.drew:=(Touch.refl _ _).drew
           have TW:Touch (WBl p v) w w6.drew:=(HT4.out.mono (fun _ _ f=>f.elim)).trans (T46.trans T6d)
           refine⟨rfl,Or.inr ⟨t,v',l',rfl,htN.out,HC.out,hD',HNO.out,by rw [HKK.out];exact pe,?_,by rw [HKK.out];exact X7⟩,TW.trans (t7.t.mono (fun k _ e=>e.elim Or.inl (fun e=>Or.inr (Or.inr (Or.inr e)))))⟩
           rcases hv7 with e|⟨g,e,hg⟩
           ·exact Or.inl e
           ·exact Or.inr ⟨g,e,Nat.le_trans TW.size hg⟩
          have HWT:Hid (Calls Tryz.prog 110 #[.pointer (some ⟨p.wb,0,none⟩),.agg #[.int .i64 (t:Int),.int .u32 (c+ec),.int .u32 ko,.int .u32 kv,.bool kr]] w6.drew fun e w'=>e=.returned (.tuple #[])∧Heaped w6.drew p.wb v w0.heap.size (L++[⟨(t:Int),c+ec,⟨ko,kv,kr⟩⟩]) w'):=Qq0 w6.drew p.wb v w0.heap.size L (X6.ls.keep ((Touch.refl _ _).drew)) X6.hp ⟨(t:Int),c+ec,⟨ko,kv,kr⟩⟩ X6.t.size hl
          clear X6 RQ6 T46 T56 hcut2 HX5 HT45 HRQ5
          go_wp2_with fail
          go_region_with ((go_at_call 110;refine Calls.mono HWT.out ?_;rintro e w7 ⟨rfl,HH⟩;have HF:Hid _:=FIN.out w7 HH;clear HH))
          all_goals go_wp2_with fail
          all_goals exact bodyPost_end (results_none rfl _ _ _) rfl HF.out
       ·have hsk:=of_decide_eq_true HBB.out
        have HSK:=hsk
        clear hsk
        go_wp2_with fail
        refine bodyPost_end (results_none rfl _ _ _) rfl (SK.out _ HT4.out (fun t' h1 _ h3 h4=>?_))
        have et:t'=t:=by omega
        subst et
        rw [HRV.out,HZV.out,HKK.out]
        exact HSK
end Go.Proofs.YtddbffoiadmffaaGreat
