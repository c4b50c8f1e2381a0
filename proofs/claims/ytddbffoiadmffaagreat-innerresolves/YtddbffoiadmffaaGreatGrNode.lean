import Derived.Test.YtddbffoiadmffaaGreatGrClm2
namespace Go.Proofs.YtddbffoiadmffaaGreat
set_option maxHeartbeats 8000000
open Go.RowKit
set_option linter.unusedVariables false
set_option maxRecDepth 100000
def TV.cells (t:TV):List Value:=[.int .u32 t.addr,.int .u8 t.bits,.int .u32 t.cost]
def stubC (l:List TV):List Value:=l.flatMap TV.cells
theorem Qhr (a b:List TV):stubC (a++b)=stubC a++stubC b:=by simp [stubC]
theorem Qsg (l:List TV) (j i:Nat) (x:TV) (hj:l[j]?=some x) (hi:i<3):(stubC l)[j*3+i]?=x.cells[i]?:=by
 induction l generalizing j with
 | nil=>simp at hj
 | cons y r ih =>
  have e:stubC (y::r)=y.cells++stubC r:=by simp [stubC]
  have hl:y.cells.length=3:=rfl
  rw [e]
  cases j with
  | zero =>
   obtain rfl:y=x:=by simpa using hj
   rw [List.getElem?_append_left (by omega),Nat.zero_mul,Nat.zero_add]
  | succ j =>
   rw [List.getElem?_append_right (by omega),hl,show (j+1)*3+i-3=j*3+i by omega]
   exact ih j (by simpa using hj)
theorem infoStub:(Tryz.prog.info? 157).map (fun i=>(i.zero,i.size,i.bytes))=some (some (.agg #[.int .u32 0,.int .u8 0,.int .u32 0]),3,12):=by kernel_rfl
theorem Qnk (k:LV):(stubL k).length≤1:=by unfold stubL;split <;> simp
def NV.cells (n:NV) (ve vs:Value):List Value:=[.bool n.net,.int .u32 n.id,.int .u32 n.addr,.int .u8 n.bits,.int .u8 n.flags,ve,vs]
structure NS (wb w:World) (nb:Nat) (n:NV) (T:List TV):Prop where
 out:∃v,Row w nb 73 (n.cells (.slice none 0 0) v)∧w.ownsRow wb.heap.size 157 3 v T.length (stubC T)
 t:Touch (fun k=>k=nb) wb w
 lt:nb<wb.heap.size
theorem NS.keep {wb w w':World} {nb:Nat} {n:NV} {T:List TV} (h:NS wb w nb n T) (t:Touch (fun _=>False) w w'):NS wb w' nb n T:=by
 obtain⟨⟨v,h1,h2⟩,h3,h4⟩:=h
 exact⟨⟨v,h1.keep t,Qab h2 t (fun _ _ h=>h)⟩,h3.trans (t.mono (fun _ _ h=>h.elim)),h4⟩
structure NdP (w:World) (x:SV) (e:Ending) (w':World):Prop where
 out:∃v,e=.returned (.agg #[.bool (nodeV x).net,.int .u32 (nodeV x).id,.int .u32 (nodeV x).addr,.int .u8 (nodeV x).bits,.int .u8 (nodeV x).flags,.slice none 0 0,v])∧w'.ownsRow w.heap.size 157 3 v (stubs x).length (stubC (stubs x))
 t:Touch (fun _=>False) w w'
theorem Qmr {a m:Int} (h:pbok m=true):inA a m=pcut a (pbn m):=by unfold inA;rw [if_pos h]
theorem Qq1 (w:World) (x:SD) (ok:x.Ok w) (ht:x.h.typ=1) (a1 a3 a8:Option Addr) (q1 q3 q8:Nat) (e1:x.vl=.slice a1 x.b.links.length q1) :
  Calls Tryz.prog 55 #[.agg #[.int .u16 x.h.age,.int .u8 x.h.opts,.int .u8 x.h.typ,.int .u32 x.h.id,.int .u32 x.h.adv,.int .i32 x.h.seq,.int .u16 x.h.sum,.int .u16 x.h.len,.int .u8 x.b.flags,.slice a1 x.b.links.length q1,.int .u32 x.b.mask,.slice a3 x.b.routers.length q3,.int .u32 x.b.metric,.bool x.b.type2,.int .u32 x.b.fwd,.int .u32 x.b.tag,.slice a8 x.b.data.length q8]] w (NdP w x.sv):=by
 obtain⟨wa,hwa⟩:∃u,u=(w.alloc (.cells #[.int .u16 x.h.age,.int .u8 x.h.opts,.int .u8 x.h.typ,.int .u32 x.h.id,.int .u32 x.h.adv,.int .i32 x.h.seq,.int .u16 x.h.sum,.int .u16 x.h.len,.int .u8 x.b.flags,.slice a1 x.b.links.length q1,.int .u32 x.b.mask,.slice a3 x.b.routers.length q3,.int .u32 x.b.metric,.bool x.b.type2,.int .u32 x.b.fwd,.int .u32 x.b.tag,.slice a8 x.b.data.length q8] 125)).alloc (.cells #[.bool false,.int .u32 0,.int .u32 0,.int .u8 0,.int .u8 0,.slice none 0 0,.slice none 0 0] 73):=⟨_,rfl⟩
 have ta:Touch (fun _=>False) w wa:=by rw [hwa];exact ((Touch.refl _ _).alloc _).alloc _
 have za:wa.heap.size=w.heap.size+2:=by rw [hwa];simp
 have RS:Row wa w.heap.size 125 [.int .u16 x.h.age,.int .u8 x.h.opts,.int .u8 x.h.typ,.int .u32 x.h.id,.int .u32 x.h.adv,.int .i32 x.h.seq,.int .u16 x.h.sum,.int .u16 x.h.len,.int .u8 x.b.flags,.slice a1 x.b.links.length q1,.int .u32 x.b.mask,.slice a3 x.b.routers.length q3,.int .u32 x.b.metric,.bool x.b.type2,.int .u32 x.b.fwd,.int .u32 x.b.tag,.slice a8 x.b.data.length q8]:=by rw [hwa];exact (Qac w _ _).keep ((Touch.refl _ _).alloc _)
 have RR:Row wa (w.heap.size+1) 73 [.bool false,.int .u32 0,.int .u32 0,.int .u8 0,.int .u8 0,.slice none 0 0,.slice none 0 0]:=by
  rw [hwa]
  have:=Qac (w.alloc (.cells #[.int .u16 x.h.age,.int .u8 x.h.opts,.int .u8 x.h.typ,.int .u32 x.h.id,.int .u32 x.h.adv,.int .i32 x.h.seq,.int .u16 x.h.sum,.int .u16 x.h.len,.int .u8 x.b.flags,.slice a1 x.b.links.length q1,.int .u32 x.b.mask,.slice a3 x.b.routers.length q3,.int .u32 x.b.metric,.bool x.b.type2,.int .u32 x.b.fwd,.int .u32 x.b.tag,.slice a8 x.b.data.length q8] 125)) 73 #[.bool false,.int .u32 0,.int .u32 0,.int .u8 0,.int .u8 0,.slice none 0 0,.slice none 0 0]
  rw [World.size_alloc] at this
  exact this
 have hb:(x.h.typ==2)=false:=by rw [ht];rfl
 have eN:Hid (nodeV x.sv=⟨false,x.h.id,0,0,x.b.flags,[],stubs x.sv⟩):=by
  have e:x.sv.h.typ=1:=ht
  show nodeV x.sv=_
  unfold nodeV netA netB
  rw [e]
  rfl
 obtain⟨wb,hwb⟩:∃u,u=wa.alloc (.cells #[.bool false,.int .u32 x.h.id,.int .u32 0,.int .u8 0,.int .u8 x.b.flags,.slice none 0 0,.slice none 0 0] 73):=⟨_,rfl⟩
 have tb:Touch (fun _=>False) wa wb:=by rw [hwb];exact (Touch.refl _ _).alloc _
 have RN:Row wb (w.heap.size+2) 73 [.bool false,.int .u32 x.h.id,.int .u32 0,.int .u8 0,.int .u8 x.b.flags,.slice none 0 0,.slice none 0 0]:=by rw [hwb,←za];exact Qac wa _ _
 have zb:wb.heap.size=w.heap.size+3:=by rw [hwb,World.size_alloc,za]
 have S0:Hid (NS wb wb (w.heap.size+2) (nodeV x.sv) ((x.b.links.take 0).flatMap stubL)):=⟨⟨_,by rw [eN.out];exact RN,World.ownsRow_nil _ _ _ _⟩,Touch.refl _ _,by omega⟩
 have HRS:Hid (∀w',Touch (fun k=>k=w.heap.size+2) wb w'→Row w' w.heap.size 125 [.int .u16 x.h.age,.int .u8 x.h.opts,.int .u8 x.h.typ,.int .u32 x.h.id,.int .u32 x.h.adv,.int .i32 x.h.seq,.int .u16 x.h.sum,.int .u16 x.h.len,.int .u8 x.b.flags,.slice a1 x.b.links.length q1,.int .u32 x.b.mask,.slice a3 x.b.routers.length q3,.int .u32 x.b.metric,.bool x.b.type2,.int .u32 x.b.fwd,.int .u32 x.b.tag,.slice a8 x.b.data.length q8]∧Row w' (w.heap.size+1) 73 [.bool false,.int .u32 0,.int .u32 0,.int .u8 0,.int .u8 0,.slice none 0 0,.slice none 0 0]):=fun w' t=>⟨Qad (RS.keep tb) t (by omega),Qad (RR.keep tb) t (by omega)⟩
 have HLk:Hid (∀w',Touch (fun k=>k=w.heap.size+2) wb w'→LinksAt w' (.slice a1 x.b.links.length q1) x.b.links):=fun w' t=>by
  have tw:Touch (fun _=>False) w w':=(ta.trans tb).trans' t (fun i hi e=>by omega)
  have h1:=ok.arg.l.keep tw
  rw [e1] at h1
  exact h1
 have HRg:Hid (x.b.Rg):=ok.kn.rg
 have HTb:Hid (Touch (fun _=>False) w wb):=ta.trans tb
 have hnl:(x.b.links.length:Int)≤65536:=by have:=ok.kn.rg.nl;omega
 have s2:wa.cell? ⟨w.heap.size,2,none⟩=some (.int .u8 x.h.typ):=RS.cell 2
 have s3:wa.cell? ⟨w.heap.size,3,none⟩=some (.int .u32 x.h.id):=RS.cell 3
 have s8:wa.cell? ⟨w.heap.size,8,none⟩=some (.int .u8 x.b.flags):=RS.cell 8
 have s9:wa.cell? ⟨w.heap.size,9,none⟩=some (.slice a1 x.b.links.length q1):=RS.cell 9
 have ls:=RS.lt
 clear ok RS RR e1 RN ht ta tb
 go_enter Tryz.func55,Tryz.ntmps55
 go_upto_region 1 with fail
 rw [←hwa]
 clear hwa
 go_upto_region 5 with fail
 rw [←hwb]
 have b9:wb.cell? ⟨w.heap.size,9,none⟩=some (.slice a1 x.b.links.length q1):=(HRS.out wb (Touch.refl _ _)).1.cell 9
 have lb:w.heap.size<wb.heap.size:=by omega
 clear hwb s2 s3 s8 s9 ls za
 have HZ:Hid (w.heap.size<w.heap.size+2∧w.heap.size+1<w.heap.size+2∧w.heap.size+2<wb.heap.size∧w.heap.size≤w.heap.size+1):=⟨by omega,by omega,by omega,by omega⟩
 clear zb
 generalize hnb:w.heap.size+2=nb at *
 generalize hrb:w.heap.size+1=rb at *
 generalize hbs:w.heap.size=bs at *
 have HW:Hid (w.heap.size=bs):=hbs
 clear hnb hrb hbs
 go_wp2_with fail
 go_loopw [35] (fun i wr=>∃k:Nat,k≤x.b.links.length∧i=.int .i64 k∧NS wb wr nb (nodeV x.sv) ((x.b.links.take k).flatMap stubL)) (fun i _=>x.b.links.length-(intOf i).toNat)
 case atStart=>exact⟨0,Nat.zero_le _,rfl,S0.out⟩
 case round =>
  obtain⟨j,hk,rfl,cs⟩:=hrel
  have HC:Hid (NS wb wr nb (nodeV x.sv) ((x.b.links.take j).flatMap stubL)):=cs
  have hlC:Hid (((x.b.links.take j).flatMap stubL).length≤65536):=by have:=Qbv _ Qnk (x.b.links.take j);have:=List.length_take_le j x.b.links;show _≤65536;omega
  clear cs S0 b9
  by_cases hlt:j<x.b.links.length
  ·have hlt':(j:Int)<(x.b.links.length:Int):=by omega
   obtain⟨y,hy⟩:∃y,x.b.links[j]?=some y:=⟨x.b.links[j],by simp [hlt]⟩
   have HST:Hid _:=Qez stubL hy
   have yk:=HRg.out.l y (List.mem_of_getElem? hy)
   obtain⟨g,off,qc,eg,-,-,hc⟩:=ValsAt.cells (HLk.out wr HC.out.t) (by omega) (by omega)
   simp only [Value.slice.injEq] at eg
   obtain⟨rfl,-,rfl⟩:=eg
   have hcc:∀i u,i<4→y.cells[i]?=some u→wr.cell? ⟨g,off+(j*4+i),none⟩=some u:=fun i u hi hu=>hc (j*4+i) u (by rw [Qbs x.b.links j i y hy hi];exact hu)
   obtain⟨yi,yd,yt,yc⟩:=y
   obtain⟨⟨i0,i1⟩,⟨d0,d1⟩,⟨t0,t1⟩,⟨c0,c1⟩⟩:=yk
   dsimp only at i0 i1 d0 d1 t0 t1 c0 c1
   have z0:wr.cell? ⟨g,off+j*4,none⟩=some (.int .u32 yi):=hcc 0 _ (by omega) rfl
   have z1:wr.cell? ⟨g,off+j*4+1,none⟩=some (.int .u32 yd):=by rw [Nat.add_assoc];exact hcc 1 _ (by omega) rfl
   have z2:wr.cell? ⟨g,off+j*4+2,none⟩=some (.int .u8 yt):=by rw [Nat.add_assoc];exact hcc 2 _ (by omega) rfl
   have z3:wr.cell? ⟨g,off+j*4+3,none⟩=some (.int .u16 yc):=by rw [Nat.add_assoc];exact hcc 3 _ (by omega) rfl
   have hlw:=Qaa z0
   have HWi:=fun w=>Qfu yi yd w i0 i1 d0 d1
   clear hc hcc hy HLk HRg
   obtain⟨wl,hwl⟩:∃u,u=wr.alloc (.cells #[.int .u32 yi,.int .u32 yd,.int .u8 yt,.int .u16 yc] 115):=⟨_,rfl⟩
   have tl:Touch (fun _=>False) wr wl:=by rw [hwl];exact (Touch.refl _ _).alloc _
   have RL:Row wl wr.heap.size 115 [.int .u32 yi,.int .u32 yd,.int .u8 yt,.int .u16 yc]:=by rw [hwl];exact Qac _ _ _
   have l0:wl.cell? ⟨wr.heap.size,0,none⟩=some (.int .u32 yi):=RL.cell 0
   have l1:wl.cell? ⟨wr.heap.size,1,none⟩=some (.int .u32 yd):=RL.cell 1
   go_upto_region 8 with fail
   rw [←hwl]
   clear hwl z0 z1 z2 z3 hlw
   by_cases hin:yt=3∧pbok yd=true
   ·obtain⟨rfl,hok⟩:=hin
    have hSt:Hid (stubL ⟨yi,yd,3,yc⟩=[⟨inA yi yd,pbn yd,yc⟩]):=by show stubL _=_;unfold stubL;rw [if_pos ⟨rfl,hok⟩,Qmr hok]
    rw [hok] at HWi
    clear hok
    generalize inA yi yd=xa at *
    generalize pbn yd=xb at *
    go_wp2_with fail
    refine (HWi _).mono ?_
    rintro e w1 ⟨rfl,u1⟩
    obtain⟨w2,hw2⟩:∃u,u=w1.alloc (.cells #[.int .u32 xa,.int .u8 xb] 42):=⟨_,rfl⟩
    have u2:Touch (fun _=>False) w1 w2:=by rw [hw2];exact (Touch.refl _ _).alloc _
    have RP2:Row w2 w1.heap.size 42 [.int .u32 xa,.int .u8 xb]:=by rw [hw2];exact Qac _ _ _
    have RL2:=RL.keep (u1.trans u2)
    have m2:w2.cell? ⟨wr.heap.size,2,none⟩=some (.int .u8 3):=RL2.cell 2
    have m3:w2.cell? ⟨wr.heap.size,3,none⟩=some (.int .u16 yc):=RL2.cell 3
    have k0:w2.cell? ⟨w1.heap.size,0,none⟩=some (.int .u32 xa):=RP2.cell 0
    have k1:w2.cell? ⟨w1.heap.size,1,none⟩=some (.int .u8 xb):=RP2.cell 1
    have TW2:Touch (fun _=>False) wr w2:=(tl.trans u1).trans u2
    obtain⟨⟨v,h1,h2⟩,h3,h4⟩:=HC.out.keep TW2
    have f6:w2.cell? ⟨nb,6,none⟩=some v:=h1.cell 6
    have hfz:=h1.frozen
    obtain⟨va,vq,rfl⟩:=Qah h2
    have ln:nb<w2.heap.size:=h1.lt
    have lr:=RL2.lt
    have lp:=RP2.lt
    go_upto_region 9 with fail
    rw [←hw2]
    clear hw2 l0 l1 u1 u2 tl RL RL2 RP2 HWi
    obtain⟨i0',hi,hz0,hz1,hz2⟩:=info_parts infoStub
    have RN3:Row (w2.alloc (.cells #[.int .u32 xa,.int .u8 xb,.int .u32 yc] 157)) w2.heap.size 157 [.int .u32 xa,.int .u8 xb,.int .u32 yc]:=Qac _ _ _
    have HRN:Hid (∀(j:Nat) u,([.int .u32 xa,.int .u8 xb,.int .u32 yc]:List Value)[j]?=some u→(w2.alloc (.cells #[.int .u32 xa,.int .u8 xb,.int .u32 yc] 157)).cell? ((⟨w2.heap.size,0,none⟩:Addr).add j)=some u):=fun j u hj=>by
     rw [Qae,Nat.zero_add,RN3.cell j]
     exact hj
    have TN:Touch (fun _=>False) w2 (w2.alloc (.cells #[.int .u32 xa,.int .u8 xb,.int .u32 yc] 157)):=(Touch.refl _ _).alloc _
    have HON:Hid ((w2.alloc (.cells #[.int .u32 xa,.int .u8 xb,.int .u32 yc] 157)).ownsRow wb.heap.size 157 3 (.slice va ((x.b.links.take j).flatMap stubL).length vq) ((x.b.links.take j).flatMap stubL).length (stubC ((x.b.links.take j).flatMap stubL))):=Qab h2 TN (fun _ _ h=>h)
    have HB:Hid (Row (w2.alloc (.cells #[.int .u32 xa,.int .u8 xb,.int .u32 yc] 157)) nb 73 ((nodeV x.sv).cells (.slice none 0 0) (.slice va ((x.b.links.take j).flatMap stubL).length vq))∧Touch (fun k=>k=nb) wb (w2.alloc (.cells #[.int .u32 xa,.int .u8 xb,.int .u32 yc] 157))∧nb<wb.heap.size):=⟨h1.keep TN,h3.trans (TN.mono (fun _ _ h=>h.elim)),h4⟩
    have hlC':=hlC.out
    clear h1 h2 h3 h4 RN3 TN TW2 HC hlC
    generalize hTT:(x.b.links.take j).flatMap stubL=TT at *
    generalize hTn:TT.length=nT at *
    go_wp2_with (at_builtin;refine wpList_append_own_at _ rfl _ _ 71 rfl wb.heap.size 157 i0' (.agg #[.int .u32 0,.int .u8 0,.int .u32 0]) 3 12 Tryz.underlying71 hi hz0 hz1 hz2 rfl (by omega) (.slice va nT vq) nT (stubC TT) rfl HON.out ⟨w2.heap.size,0,none⟩ 1 1 [.int .u32 xa,.int .u8 xb,.int .u32 yc] rfl rfl HRN.out ?o1 ?o2 ?o3 ?o4 ?_)
    case o1=>intro u hu;simp at hu;rcases hu with rfl|rfl|rfl <;> rfl
    case o2=>unfold maxLen;omega
    case o3=>omega
    case o4=>exact HB.out.2.1.size
    intro v' w' hown hgr _ _
    have TG:Touch (fun k=>(Value.slice va nT vq).ownBlock=some k) (w2.alloc (.cells #[.int .u32 xa,.int .u8 xb,.int .u32 yc] 157)) w':=(Touch.refl _ _).grown hgr (fun k hk=>Or.inl hk)
    have hobl:¬(Value.slice va nT vq).ownBlock=some nb:=fun e=>by have:=(HON.out.lt nb e).1;have:=HB.out.2.2;omega
    have RB:=Qad HB.out.1 TG hobl
    have f1:w'.cell? ⟨nb,6,none⟩=some (.slice va nT vq):=RB.cell 6
    have hff:=RB.frozen 6
    have lbw:=RB.lt
    have HF:Hid (NS wb (w'.setCell ⟨nb,6,none⟩ v') nb (nodeV x.sv) (TT++[⟨xa,xb,yc⟩])):=by
     refine⟨⟨v',RB.set 6 v',?_⟩,?_,HB.out.2.2⟩
     ·rw [List.length_append,Qhr,hTn]
      exact Qbf hown HB.out.2.2 v'
     ·refine Touch.setCell (F:=fun k=>k=nb) (p:=⟨nb,6,none⟩) ?_ (Or.inl rfl) v'
      exact HB.out.2.1.trans' TG (fun k hk e=>by have:=(HON.out.lt k e).1;omega)
    obtain⟨v1,v2,rfl⟩:=Qah hown
    clear RB TG hown hgr HB HON HRN hi hz0 hz1 hz2 f6 m2 m3 k0 k1 hfz ln lr lp hTn
    go_wp2_with fail
    go_roundw
    case rel=>exact⟨j+1,by omega,by go_num,by rw [HST.out,hSt.out];exact HF.out⟩
    case measure=>simp [intOf];omega
   ·have hSt:Hid (stubL ⟨yi,yd,yt,yc⟩=[]):=by show stubL _=_;unfold stubL;rw [if_neg hin]
    go_wp2_with fail
    refine (HWi _).mono ?_
    rintro e w1 ⟨rfl,u1⟩
    have u2:Touch (fun _=>False) w1 (w1.alloc (.cells #[.int .u32 (inA yi yd),.int .u8 (pbn yd)] 42)):=(Touch.refl _ _).alloc _
    have RL2:=RL.keep (u1.trans u2)
    have RL1:=RL.keep u1
    have m2:w1.cell? ⟨wr.heap.size,2,none⟩=some (.int .u8 yt):=RL1.cell 2
    have lr:=RL1.lt
    have HF:Hid (NS wb (w1.alloc (.cells #[.int .u32 (inA yi yd),.int .u8 (pbn yd)] 42)) nb (nodeV x.sv) ((x.b.links.take j).flatMap stubL)):=HC.out.keep ((tl.trans u1).trans u2)
    clear l0 l1 u1 u2 tl RL RL2 RL1 HWi HC hlC
    generalize inA yi yd=xa at *
    generalize pbn yd=xb at *
    cases hok:pbok yd with
    | false =>
     clear hin
     go_wp2_with fail
     go_roundw
     case rel=>exact⟨j+1,by omega,by go_num,by rw [HST.out,hSt.out,List.append_nil];exact HF.out⟩
     case measure=>simp [intOf];omega
    | true =>
     have h3:¬yt=3:=fun e=>hin ⟨e,hok⟩
     have b3:(yt==3)=false:=by simpa using h3
     clear hin
     go_wp2_with fail
     go_roundw
     case rel=>exact⟨j+1,by omega,by go_num,by rw [HST.out,hSt.out,List.append_nil];exact HF.out⟩
     case measure=>simp [intOf];omega
  ·have hlt':¬(j:Int)<(x.b.links.length:Int):=by omega
   obtain rfl:j=x.b.links.length:=by omega
   have cs:=HC.out
   rw [List.take_length] at cs
   obtain⟨⟨v,h1,h2⟩,h3,h4⟩:=cs
   have RZ:=(HRS.out wr h3).2
   have hZ:=HZ.out
   have hW:=HW.out
   have h1':=h1
   rw [eN.out] at h1'
   obtain⟨v1,v2,hv⟩:=Qah h2
   have HF:Hid (∀cs,NdP w x.sv (.returned (.agg #[.bool (nodeV x.sv).net,.int .u32 (nodeV x.sv).id,.int .u32 (nodeV x.sv).addr,.int .u8 (nodeV x.sv).bits,.int .u8 (nodeV x.sv).flags,.slice none 0 0,v])) (wr.setRow rb cs)):=fun cs=>by
    refine⟨⟨v,rfl,Qam (Qab h2 (Touch.setRow (F:=fun k=>k=rb) (Touch.refl _ _) (Or.inl rfl) cs) (fun k hk e=>by have:=(h2.lt k hk).1;omega)) HTb.out.size⟩,?_⟩
    exact Touch.setRow (HTb.out.trans' h3 (fun i hi e=>by omega)) (Or.inr (by omega)) cs
   rw [eN.out] at HF
   have HR1:Hid (Row wr nb 73 [.bool false,.int .u32 x.h.id,.int .u32 0,.int .u8 0,.int .u8 x.b.flags,.slice none 0 0,v]):=h1'
   have HR2:Hid (Row wr rb 73 [.bool false,.int .u32 0,.int .u32 0,.int .u8 0,.int .u8 0,.slice none 0 0,.slice none 0 0]):=RZ
   have hnz:x.b.links.length=x.b.links.length:=rfl
   clear h1 h1' h2 h3 h4 HC hlC RZ HRS HLk
   subst hv
   generalize (x.b.links.flatMap stubL).length=nn at HR1 HF
   go_upto_region 12 with fail
   have HLD:=Qba HR1.out
   have HST2:=HR2.out
   go_wp2_with (first|refine wpList_load_mid rfl 73 (.tmp 3) rfl nb 0 rfl [.bool false,.int .u32 x.h.id,.int .u32 0,.int .u8 0,.int .u8 x.b.flags,.slice none 0 0,.slice v1 nn v2] _ HLD Tryz.underlying73 rfl (by kernel_rfl) ?_|refine wpList_store_row rfl 73 (.tmp 2) (.tmp 64) rfl rb #[.bool false,.int .u32 x.h.id,.int .u32 0,.int .u8 0,.int .u8 x.b.flags,.slice none 0 0,.slice v1 nn v2] rfl rfl 73 _ HST2 (by kernel_rfl) rfl (by simp [Value.oneCell']) ?_)
   refine bodyPost_ret (results_cell_row Tryz.results55 _ _ rb 73 #[.bool false,.int .u32 x.h.id,.int .u32 0,.int .u8 0,.int .u8 x.b.flags,.slice none 0 0,.slice v1 nn v2] (0,0) _ rfl (HR2.out.setRow #[.bool false,.int .u32 x.h.id,.int .u32 0,.int .u8 0,.int .u8 x.b.flags,.slice none 0 0,.slice v1 nn v2]) Tryz.underlying73 rfl (by kernel_rfl)) rfl ?_
   exact HF.out _
theorem Qp4 (w:World) (x:SD) (ok:x.Ok w) (ht:x.h.typ=2) (a1 a3 a8:Option Addr) (q1 q3 q8:Nat) (e1:x.vl=.slice a1 x.b.links.length q1) :
  Calls Tryz.prog 55 #[.agg #[.int .u16 x.h.age,.int .u8 x.h.opts,.int .u8 x.h.typ,.int .u32 x.h.id,.int .u32 x.h.adv,.int .i32 x.h.seq,.int .u16 x.h.sum,.int .u16 x.h.len,.int .u8 x.b.flags,.slice a1 x.b.links.length q1,.int .u32 x.b.mask,.slice a3 x.b.routers.length q3,.int .u32 x.b.metric,.bool x.b.type2,.int .u32 x.b.fwd,.int .u32 x.b.tag,.slice a8 x.b.data.length q8]] w (NdP w x.sv):=by
 obtain⟨wa,hwa⟩:∃u,u=(w.alloc (.cells #[.int .u16 x.h.age,.int .u8 x.h.opts,.int .u8 x.h.typ,.int .u32 x.h.id,.int .u32 x.h.adv,.int .i32 x.h.seq,.int .u16 x.h.sum,.int .u16 x.h.len,.int .u8 x.b.flags,.slice a1 x.b.links.length q1,.int .u32 x.b.mask,.slice a3 x.b.routers.length q3,.int .u32 x.b.metric,.bool x.b.type2,.int .u32 x.b.fwd,.int .u32 x.b.tag,.slice a8 x.b.data.length q8] 125)).alloc (.cells #[.bool false,.int .u32 0,.int .u32 0,.int .u8 0,.int .u8 0,.slice none 0 0,.slice none 0 0] 73):=⟨_,rfl⟩
 have ta:Touch (fun _=>False) w wa:=by rw [hwa];exact ((Touch.refl _ _).alloc _).alloc _
 have za:wa.heap.size=w.heap.size+2:=by rw [hwa];simp
 have RS:Row wa w.heap.size 125 [.int .u16 x.h.age,.int .u8 x.h.opts,.int .u8 x.h.typ,.int .u32 x.h.id,.int .u32 x.h.adv,.int .i32 x.h.seq,.int .u16 x.h.sum,.int .u16 x.h.len,.int .u8 x.b.flags,.slice a1 x.b.links.length q1,.int .u32 x.b.mask,.slice a3 x.b.routers.length q3,.int .u32 x.b.metric,.bool x.b.type2,.int .u32 x.b.fwd,.int .u32 x.b.tag,.slice a8 x.b.data.length q8]:=by rw [hwa];exact (Qac w _ _).keep ((Touch.refl _ _).alloc _)
 have RR:Row wa (w.heap.size+1) 73 [.bool false,.int .u32 0,.int .u32 0,.int .u8 0,.int .u8 0,.slice none 0 0,.slice none 0 0]:=by
  rw [hwa]
  have:=Qac (w.alloc (.cells #[.int .u16 x.h.age,.int .u8 x.h.opts,.int .u8 x.h.typ,.int .u32 x.h.id,.int .u32 x.h.adv,.int .i32 x.h.seq,.int .u16 x.h.sum,.int .u16 x.h.len,.int .u8 x.b.flags,.slice a1 x.b.links.length q1,.int .u32 x.b.mask,.slice a3 x.b.routers.length q3,.int .u32 x.b.metric,.bool x.b.type2,.int .u32 x.b.fwd,.int .u32 x.b.tag,.slice a8 x.b.data.length q8] 125)) 73 #[.bool false,.int .u32 0,.int .u32 0,.int .u8 0,.int .u8 0,.slice none 0 0,.slice none 0 0]
  rw [World.size_alloc] at this
  exact this
 have hb:(x.h.typ==2)=true:=by rw [ht];rfl
 have mk:pbok x.b.mask=true:=ok.kn.fine.may.mask
 have hl0:x.b.links=[]:=by have:=ok.kn.fine.may;rw [show x.sv.h.typ=2 from ht] at this;exact this.links2
 have eN:Hid (nodeV x.sv=⟨true,x.h.id,inA x.h.id x.b.mask,pbn x.b.mask,x.b.flags,[],[]⟩):=by
  have e:x.sv.h.typ=2:=ht
  show nodeV x.sv=_
  unfold nodeV netA netB stubs
  rw [e,Qmr mk]
  show (⟨_,_,_,_,_,_,(x.b.links).flatMap stubL⟩:NV)=_
  rw [hl0]
  rfl
 have eS:Hid (stubs x.sv=[]):=by show (x.b.links).flatMap stubL=[];rw [hl0];rfl
 obtain⟨wb,hwb⟩:∃u,u=wa.alloc (.cells #[.bool true,.int .u32 x.h.id,.int .u32 0,.int .u8 0,.int .u8 x.b.flags,.slice none 0 0,.slice none 0 0] 73):=⟨_,rfl⟩
 have tb:Touch (fun _=>False) wa wb:=by rw [hwb];exact (Touch.refl _ _).alloc _
 have RN:Row wb (w.heap.size+2) 73 [.bool true,.int .u32 x.h.id,.int .u32 0,.int .u8 0,.int .u8 x.b.flags,.slice none 0 0,.slice none 0 0]:=by rw [hwb,←za];exact Qac wa _ _
 have zb:wb.heap.size=w.heap.size+3:=by rw [hwb,World.size_alloc,za]
 have HWi:=fun w=>Qfu x.h.id x.b.mask w ok.kn.all.i.1 ok.kn.all.i.2 ok.kn.rg.m.1 ok.kn.rg.m.2
 rw [mk] at HWi
 have HLN:Hid (x.b.links.length=0):=by show x.b.links.length=0;rw [hl0];rfl
 have HTb:Hid (Touch (fun _=>False) w wb):=ta.trans tb
 have s2:wa.cell? ⟨w.heap.size,2,none⟩=some (.int .u8 x.h.typ):=RS.cell 2
 have s3:wa.cell? ⟨w.heap.size,3,none⟩=some (.int .u32 x.h.id):=RS.cell 3
 have s8:wa.cell? ⟨w.heap.size,8,none⟩=some (.int .u8 x.b.flags):=RS.cell 8
 have r3:wb.cell? ⟨w.heap.size,3,none⟩=some (.int .u32 x.h.id):=(RS.keep tb).cell 3
 have r10:wb.cell? ⟨w.heap.size,10,none⟩=some (.int .u32 x.b.mask):=(RS.keep tb).cell 10
 have ls:=RS.lt
 have lb:=(RS.keep tb).lt
 have HR3:Hid (Row wb w.heap.size 125 [.int .u16 x.h.age,.int .u8 x.h.opts,.int .u8 x.h.typ,.int .u32 x.h.id,.int .u32 x.h.adv,.int .i32 x.h.seq,.int .u16 x.h.sum,.int .u16 x.h.len,.int .u8 x.b.flags,.slice a1 x.b.links.length q1,.int .u32 x.b.mask,.slice a3 x.b.routers.length q3,.int .u32 x.b.metric,.bool x.b.type2,.int .u32 x.b.fwd,.int .u32 x.b.tag,.slice a8 x.b.data.length q8]∧Row wb (w.heap.size+1) 73 [.bool false,.int .u32 0,.int .u32 0,.int .u8 0,.int .u8 0,.slice none 0 0,.slice none 0 0]∧Row wb (w.heap.size+2) 73 [.bool true,.int .u32 x.h.id,.int .u32 0,.int .u8 0,.int .u8 x.b.flags,.slice none 0 0,.slice none 0 0]):=⟨RS.keep tb,RR.keep tb,RN⟩
 have HZ:Hid (w.heap.size<w.heap.size+1∧w.heap.size+1<w.heap.size+2∧w.heap.size+2<wb.heap.size):=⟨by omega,by omega,by omega⟩
 clear ok RS RR e1 RN ht ta tb mk hl0
 generalize inA x.h.id x.b.mask=xa at *
 generalize pbn x.b.mask=xb at *
 go_enter Tryz.func55,Tryz.ntmps55
 go_upto_region 1 with fail
 rw [←hwa]
 clear hwa
 go_upto_region 4 with fail
 rw [←hwb]
 clear hwb s2 s3 s8 ls za zb
 generalize hnb:w.heap.size+2=nb at *
 generalize hrb:w.heap.size+1=rb at *
 generalize hbs:w.heap.size=bs at *
 have HW:Hid (w.heap.size=bs):=hbs
 clear hnb hrb hbs
 go_wp2_with fail
 refine (HWi _).mono ?_
 rintro e w1 ⟨rfl,u1⟩
 have R1:=HR3.out.2.2.keep u1
 have k2:w1.cell? ⟨nb,2,none⟩=some (.int .u32 0):=R1.cell 2
 have k3:w1.cell? ⟨nb,3,none⟩=some (.int .u8 0):=R1.cell 3
 have hfz:=R1.frozen
 have ln:=R1.lt
 obtain⟨w2,hw2⟩:∃u,u=(w1.setCell ⟨nb,2,none⟩ (.int .u32 xa)).setCell ⟨nb,3,none⟩ (.int .u8 xb):=⟨_,rfl⟩
 have t2:Touch (fun k=>k=nb) w1 w2:=by rw [hw2];exact Touch.setCell (F:=fun k=>k=nb) (p:=⟨nb,3,none⟩) (Touch.setCell (F:=fun k=>k=nb) (p:=⟨nb,2,none⟩) (Touch.refl _ _) (Or.inl rfl) _) (Or.inl rfl) _
 have R2:Row w2 nb 73 [.bool true,.int .u32 x.h.id,.int .u32 xa,.int .u8 xb,.int .u8 x.b.flags,.slice none 0 0,.slice none 0 0]:=by rw [hw2];exact (R1.set 2 _).set 3 _
 have hZ:=HZ.out
 have RZ:Row w2 rb 73 [.bool false,.int .u32 0,.int .u32 0,.int .u8 0,.int .u8 0,.slice none 0 0,.slice none 0 0]:=Qad (HR3.out.2.1.keep u1) t2 (by omega)
 have RX:Row w2 bs 125 [.int .u16 x.h.age,.int .u8 x.h.opts,.int .u8 x.h.typ,.int .u32 x.h.id,.int .u32 x.h.adv,.int .i32 x.h.seq,.int .u16 x.h.sum,.int .u16 x.h.len,.int .u8 x.b.flags,.slice a1 x.b.links.length q1,.int .u32 x.b.mask,.slice a3 x.b.routers.length q3,.int .u32 x.b.metric,.bool x.b.type2,.int .u32 x.b.fwd,.int .u32 x.b.tag,.slice a8 x.b.data.length q8]:=Qad (HR3.out.1.keep u1) t2 (by omega)
 have HT2:Hid (Touch (fun _=>False) w w2):=(HTb.out.trans u1).trans' t2 (fun i hi e=>by have:=HW.out;omega)
 have x9:w2.cell? ⟨bs,9,none⟩=some (.slice a1 x.b.links.length q1):=RX.cell 9
 have lx:=RX.lt
 have HR1:Hid (Row w2 nb 73 [.bool true,.int .u32 x.h.id,.int .u32 xa,.int .u8 xb,.int .u8 x.b.flags,.slice none 0 0,.slice none 0 0]):=R2
 have HR2:Hid (Row w2 rb 73 [.bool false,.int .u32 0,.int .u32 0,.int .u8 0,.int .u8 0,.slice none 0 0,.slice none 0 0]):=RZ
 clear R1 R2 RZ RX t2 u1 HWi HR3 r3 r10 lb hZ
 go_upto_region 5 with fail
 rw [←hw2]
 clear hw2 k2 k3 hfz ln
 go_wp2_with fail
 go_loopw [35] (fun i wr=>i=.int .i64 0∧wr=w2) (fun i _=>0)
 case atStart=>exact⟨rfl,rfl⟩
 case round =>
  obtain⟨rfl,rfl⟩:=hrel
  have hlt':¬(0:Int)<(x.b.links.length:Int):=by have:=HLN.out;omega
  have hZ:=HZ.out
  have hW:=HW.out
  have HF:Hid (∀cs,NdP w x.sv (.returned (.agg #[.bool (nodeV x.sv).net,.int .u32 (nodeV x.sv).id,.int .u32 (nodeV x.sv).addr,.int .u8 (nodeV x.sv).bits,.int .u8 (nodeV x.sv).flags,.slice none 0 0,.slice none 0 0])) (wr.setRow rb cs)):=fun cs=>by
   refine⟨⟨.slice none 0 0,rfl,by rw [eS.out];exact World.ownsRow_nil _ _ _ _⟩,?_⟩
   exact Touch.setRow HT2.out (Or.inr (by omega)) cs
  rw [eN.out] at HF
  have HLD:=Qba HR1.out
  have HST2:=HR2.out
  clear eN eS x9 lx
  go_upto_region 12 with fail
  go_wp2_with (first|refine wpList_load_mid rfl 73 (.tmp 3) rfl nb 0 rfl [.bool true,.int .u32 x.h.id,.int .u32 xa,.int .u8 xb,.int .u8 x.b.flags,.slice none 0 0,.slice none 0 0] _ HLD Tryz.underlying73 rfl (by kernel_rfl) ?_|refine wpList_store_row rfl 73 (.tmp 2) (.tmp 64) rfl rb #[.bool true,.int .u32 x.h.id,.int .u32 xa,.int .u8 xb,.int .u8 x.b.flags,.slice none 0 0,.slice none 0 0] rfl rfl 73 _ HST2 (by kernel_rfl) rfl (by simp [Value.oneCell']) ?_)
  refine bodyPost_ret (results_cell_row Tryz.results55 _ _ rb 73 #[.bool true,.int .u32 x.h.id,.int .u32 xa,.int .u8 xb,.int .u8 x.b.flags,.slice none 0 0,.slice none 0 0] (0,0) _ rfl (HR2.out.setRow #[.bool true,.int .u32 x.h.id,.int .u32 xa,.int .u8 xb,.int .u8 x.b.flags,.slice none 0 0,.slice none 0 0]) Tryz.underlying73 rfl (by kernel_rfl)) rfl ?_
  exact HF.out _
theorem Qqx (w:World) (x:SD) (ok:x.Ok w) (a1 a3 a8:Option Addr) (q1 q3 q8:Nat) (e1:x.vl=.slice a1 x.b.links.length q1) :
  Calls Tryz.prog 55 #[.agg #[.int .u16 x.h.age,.int .u8 x.h.opts,.int .u8 x.h.typ,.int .u32 x.h.id,.int .u32 x.h.adv,.int .i32 x.h.seq,.int .u16 x.h.sum,.int .u16 x.h.len,.int .u8 x.b.flags,.slice a1 x.b.links.length q1,.int .u32 x.b.mask,.slice a3 x.b.routers.length q3,.int .u32 x.b.metric,.bool x.b.type2,.int .u32 x.b.fwd,.int .u32 x.b.tag,.slice a8 x.b.data.length q8]] w (NdP w x.sv):=by
 rcases ok.kn.fine.typ with h|h
 ·exact Qq1 w x ok h a1 a3 a8 q1 q3 q8 e1
 ·exact Qp4 w x ok h a1 a3 a8 q1 q3 q8 e1
end Go.Proofs.YtddbffoiadmffaaGreat
