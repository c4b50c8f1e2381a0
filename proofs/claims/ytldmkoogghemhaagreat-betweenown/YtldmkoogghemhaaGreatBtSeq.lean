import Derived.Test.YtldmkoogghemhaaGreatBtLed
namespace Go.Proofs.YtldmkoogghemhaaGreat
set_option maxHeartbeats 8000000
open Go.RowKit Go.Shelf
set_option linter.unusedVariables false
set_option maxRecDepth 100000
attribute [local go_sem] Oper.semAt_some
theorem Qfb {w w':World} (h:Below w.heap.size w w'):Touch (fun _=>False) w w':=⟨h.os,h.tape,h.output,h.size,fun k hk _=>h.block k hk⟩
theorem Qbh {w w':World} (t:Touch (fun _=>False) w w'):w.grownBy w' none:=⟨t.os,t.tape,t.output,t.size,fun k hk _=>t.block k hk (fun h=>h)⟩
def leadY (T:List WY) (self:Int) (x:SE):Option WY :=
 match T.find? (isBd x.h.adv) with
 | some b=>if cntS self x=true then (ledW x b.x).map (fun z=>⟨z,b.hv⟩) else none
 | none=>none
def leadsY (T:List WY) (self:Int) (S:List SE):List WY:=S.filterMap (leadY T self)
theorem Qdb {T:List WY} {self:Int} {S:List SE} {k:Nat} {x:SE} (hk:S[k]?=some x) (h:leadY T self x=none):leadsY T self (S.take (k+1))=leadsY T self (S.take k):=by
 unfold leadsY
 rw [List.take_add_one,hk,List.filterMap_append]
 simp [h]
theorem Qhx {T:List WY} {self:Int} {S:List SE} {k:Nat} {x:SE} {y:WY} (hk:S[k]?=some x) (h:leadY T self x=some y):leadsY T self (S.take (k+1))=leadsY T self (S.take k)++[y]:=by
 unfold leadsY
 rw [List.take_add_one,hk,List.filterMap_append]
 simp [h]
theorem Qb6 (T:List WY) (self:Int) (S:List SE) (k:Nat):(leadsY T self (S.take k)).length≤k:=by
 unfold leadsY
 have:=List.length_filterMap_le (leadY T self) (S.take k)
 have:=List.length_take_le k S
 omega
theorem Qhs {T:List WY} {self:Int} {x:SE} (h:T.find? (isBd x.h.adv)=none):leadY T self x=none:=by unfold leadY;rw [h]
theorem Qj7 {T:List WY} {self:Int} {x:SE} {b:WY} (h:T.find? (isBd x.h.adv)=some b) (hc:cntS self x=false):leadY T self x=none:=by unfold leadY;rw [h];simp [hc]
theorem Qfg {T:List WY} {self:Int} {x:SE} {b:WY} (h:T.find? (isBd x.h.adv)=some b) (hc:cntS self x=true):leadY T self x=(ledW x b.x).map (fun z=>⟨z,b.hv⟩):=by unfold leadY;rw [h];simp [hc]
structure LeadP (w:World) (T:List WY) (v:Value) (me:Int) (e:Ending) (w':World):Prop where
 out:∃b3 b7 b4 m:Nat,e=.returned (.func (.func 68) #[] #[.pointer (some ⟨b3,0,none⟩),.pointer (some ⟨b7,0,none⟩),.pointer (some ⟨b4,0,none⟩)])∧w'.cell? ⟨b3,0,none⟩=some v∧w'.cell? ⟨b7,0,none⟩=some (.map (some m))∧w'.cell? ⟨b4,0,none⟩=some (.int .u32 me)∧B1 w T m T.length w'∧w.heap.size≤b3∧w.heap.size≤b7∧w.heap.size≤b4
theorem Qft (va:Option Addr) (vn vc:Nat) (vb:Value) (T:List WY) (w:World) (self:Int) (Cc:WRd w vb T) (hf:∀y∈T,0≤y.x.flags∧y.x.flags≤255) (ht:T.length≤60) :
  Calls Tryz.prog 47 #[.slice va vn vc,.int .u32 self,vb] w (LeadP w T (.slice va vn vc) self):=by
 have HB:=fun w' (t:Touch (fun _=>False) w w')=>Qd8 vb T w' (Cc.keep t) hf ht
 obtain⟨ba,bc,rfl,-⟩:=Cc.sh
 clear Cc hf ht
 generalize T.length=t at *
 obtain⟨w0,hw0⟩:∃u,u=(w.alloc (.cells #[.slice va vn vc] 22)).alloc (.cells #[.int .u32 self] 23):=⟨_,rfl⟩
 have t0:Touch (fun _=>False) w w0:=by rw [hw0];exact ((Touch.refl _ _).alloc _).alloc _
 have R3:Row w0 w.heap.size 22 [.slice va vn vc]:=by rw [hw0];exact (Qac w _ _).keep ((Touch.refl _ _).alloc _)
 have R4:Row w0 (w.heap.size+1) 23 [.int .u32 self]:=by rw [hw0];have:=Qac (w.alloc (.cells #[.slice va vn vc] 22)) 23 #[.int .u32 self];rw [World.size_alloc] at this;exact this
 have HBw:=HB w0 t0
 have T0:Hid (Touch (fun _=>False) w w0):=t0
 clear HB t0
 go_enter Tryz.func47,Tryz.ntmps47
 go_upto_region 1 with fail
 rw [←hw0]
 clear hw0
 have HLO:Hid (w.heap.size≤w.heap.size∧w.heap.size≤w.heap.size+1):=⟨Nat.le_refl _,Nat.le_succ _⟩
 generalize w.heap.size+1=g1 at *
 obtain⟨g0,hg0⟩:∃g,g=w.heap.size:=⟨_,rfl⟩
 have HLO:Hid (w.heap.size≤g0∧w.heap.size≤g1):=⟨by rw [hg0];exact Nat.le_refl _,HLO.out.2⟩
 rw [←hg0] at R3 ⊢
 clear hg0
 go_wp2_with (go_at_call 67;refine HBw.mono ?_;rintro e w1 ⟨m,rfl,hb⟩;have HB1:Hid (B1 w0 T m T.length w1):=hb;have HR3:Hid (Row w1 g0 22 [.slice va vn vc]):=R3.keep hb.t;have HR4:Hid (Row w1 g1 23 [.int .u32 self]):=R4.keep hb.t;clear hb R3 R4)
 go_ret
 have tA:Touch (fun _=>False) w1 (w1.alloc (.cells #[.map (some m)] 118)):=(Touch.refl _ _).alloc _
 have RM:Row (w1.alloc (.cells #[.map (some m)] 118)) w1.heap.size 118 [.map (some m)]:=Qac w1 _ _
 refine⟨g0,w1.heap.size,g1,m,rfl,(HR3.out.keep tA).cell 0,RM.cell 0,(HR4.out.keep tA).cell 0,?_⟩
 have:=HB1.out.keep tA
 exact⟨⟨this.am,T0.out.trans this.t,Nat.le_trans T0.out.size this.lo⟩,HLO.out.1,Nat.le_trans T0.out.size HB1.out.t.size,HLO.out.2⟩
structure WZ where
 x:WP
 a:Option Addr
 n:Nat
 c:Nat
def WZ.y (z:WZ):WY:=⟨z.x,.slice z.a z.n z.c⟩
abbrev encZ (z:WZ):Array Value:=#[z.y.sv]
abbrev ysZ (l:List WZ):List WY:=l.map WZ.y
theorem Qhc (n:Nat) (hn:1≤n) (b3 b7 b4 m:Nat) (G:Nat→Prop) (va:Option Addr) (vc:Nat) (S:List SE) (T:List WY) (self:Int) (w:World) (hl:S.length≤60)
  (hv:∀w',Touch G w w'→StatesAt w' (.slice va S.length vc) S) (h3:∀w',Touch G w w'→w'.cell? ⟨b3,0,none⟩=some (.slice va S.length vc)) (h7:∀w',Touch G w w'→w'.cell? ⟨b7,0,none⟩=some (.map (some m))) (h4:∀w',Touch G w w'→w'.cell? ⟨b4,0,none⟩=some (.int .u32 self))
  (hm:∀w',Touch G w w'→AM w' 23 m ((bK T T.length).map bV)) (hT:∀y∈T,(∃a n c,y.hv=.slice a n c)∧0≤y.x.cost∧y.x.cost≤4294967295) (hS:∀x∈S,x.rs.length≤1000000) :
  SeqStopsK Fence.wide n Tryz.prog 68 #[.pointer (some ⟨b3,0,none⟩),.pointer (some ⟨b7,0,none⟩),.pointer (some ⟨b4,0,none⟩)] encZ (Touch G) (fun xs=>ysZ xs=leadsY T self S) (fun _=>True) S.length w:=fun l J Jx W hW hJ hJx hY hz=>by
 have TW:Hid (Touch G w W):=(Qfb hW).mono (fun _ _ h=>h.elim)
 have HV':Hid (∀w',Touch G w w'→StatesAt w' (.slice va S.length vc) S):=hv
 have H3:Hid (∀w',Touch G w w'→w'.cell? ⟨b3,0,none⟩=some (.slice va S.length vc)):=h3
 have H7:Hid (∀w',Touch G w w'→w'.cell? ⟨b7,0,none⟩=some (.map (some m))):=h7
 have H4:Hid (∀w',Touch G w w'→w'.cell? ⟨b4,0,none⟩=some (.int .u32 self)):=h4
 have HM:Hid (∀w',Touch G w w'→AM w' 23 m ((bK T T.length).map bV)):=hm
 have HT:Hid (∀y∈T,(∃a n c,y.hv=.slice a n c)∧0≤y.x.cost∧y.x.cost≤4294967295):=hT
 have HS:Hid (∀x∈S,x.rs.length≤1000000):=hS
 have HF:Hid (∀r,(bK T T.length).find? (fun z=>z.x.router==r)=T.find? (isBd r)):=fun r=>by rw [Qj4,List.take_of_length_le (Nat.le_refl _)]
 have hl':(S.length:Int)≤60:=by omega
 have HLB:Hid (S.length≤60):=hl
 have HY:Hid (∀(pre:List WZ) (x:WZ) (W1:World),J pre W1→pre.length<S.length→YieldAt Fence.wide (n-1) Tryz.prog l (encZ x) W1 fun e W'=>(e=.returned (.bool true)∧J (pre++[x]) W'∧Touch G W1 W')∨(e=.returned (.bool false)∧Jx (pre++[x]) W')):=hY
 have HJ:Hid (AbidesFrom W.heap.size J):=hJ
 have d0:=H3.out W TW.out
 have HZ:Hid (J [] W):=hz
 clear hv h3 h7 h4 hm hT hS hY hJ hJx hl hz hW
 generalize hSl:S.length=t at *
 have HSL:Hid (S.length=t):=hSl
 clear hSl
 refine callsIn_of_wp Tryz.func68 rfl trivial ?_ rfl
 simp only [Tryz.ntmps68,List.size_toArray,List.length_cons,List.length_nil,Nat.reduceAdd,Nat.reduceSub,Array.replicate_succ,Array.replicate_zero,List.push_toArray,List.append_toArray,List.nil_append,List.cons_append]
 gi_wp2
 clear d0
 gi_loopw [6,7,8,9,10,13] (fun _ _ _ _ _ i wr=>∃(k:Nat) (pre:List WZ),k≤t∧i=.int .i64 k∧ysZ pre=leadsY T self (S.take k)∧J pre wr∧Touch G w wr)
  (fun _ _ _ _ _ i _=>t-(intOf i).toNat)
 case atStart=>exact⟨0,[],Nat.zero_le _,rfl,rfl,HZ.out,TW.out⟩
 case round =>
  obtain⟨k,pre,hk,rfl,hpm,hJs,hnx⟩:=hrel
  have HPM:Hid (ysZ pre=leadsY T self (S.take k)):=hpm
  have HPL:Hid (pre.length≤k):=by have e:=congrArg List.length hpm;rw [List.length_map] at e;exact e ▸ Qb6 T self S k
  have TR:Hid (Touch G w wr):=hnx
  have HJS:Hid (J pre wr):=hJs
  clear HZ hJs hnx hpm
  by_cases hlt:k<t
  ·have hlt':(k:Int)<(t:Int):=Qbl hlt
   have hk00:(0:Int)≤(k:Int):=Qa6 _
   have hkw:wrap64 ((k:Int)+1)=(k:Int)+1:=Qes (Nat.le_trans (Nat.le_trans (Nat.le_of_lt hlt) HLB.out) (by decide))
   obtain⟨x,hx⟩:=Qco HSL.out hlt
   have HX:Hid (S[k]?=some x):=hx
   have HXS:Hid (x.rs.length≤1000000):=HS.out x (List.mem_of_getElem? hx)
   obtain⟨ox,gR,off,cR,eR,hcell⟩:=StatesAt.one (HV'.out wr TR.out) hx
   rw [HSL.out] at eR
   cases eR
   obtain⟨xa,xc,exv,-⟩:=ox.arg.form
   have HOX:Hid (x.Ok wr):=ox
   have e0:wr.cell? ⟨gR,off+k*9,none⟩=some (.int .u16 x.h.age):=by exact hcell 0 _ rfl
   have e1:wr.cell? ⟨gR,off+k*9+1,none⟩=some (.int .u8 x.h.opts):=by rw [Nat.add_assoc];exact hcell 1 _ rfl
   have e2:wr.cell? ⟨gR,off+k*9+2,none⟩=some (.int .u8 x.h.typ):=by rw [Nat.add_assoc];exact hcell 2 _ rfl
   have e3:wr.cell? ⟨gR,off+k*9+3,none⟩=some (.int .u32 x.h.id):=by rw [Nat.add_assoc];exact hcell 3 _ rfl
   have e4:wr.cell? ⟨gR,off+k*9+4,none⟩=some (.int .u32 x.h.adv):=by rw [Nat.add_assoc];exact hcell 4 _ rfl
   have e5:wr.cell? ⟨gR,off+k*9+5,none⟩=some (.int .i32 x.h.seq):=by rw [Nat.add_assoc];exact hcell 5 _ rfl
   have e6:wr.cell? ⟨gR,off+k*9+6,none⟩=some (.int .u16 x.h.sum):=by rw [Nat.add_assoc];exact hcell 6 _ rfl
   have e7:wr.cell? ⟨gR,off+k*9+7,none⟩=some (.int .u16 x.h.len):=by rw [Nat.add_assoc];exact hcell 7 _ rfl
   have e8:wr.cell? ⟨gR,off+k*9+8,none⟩=some (.slice xa x.rs.length xc):=by rw [←exv,Nat.add_assoc];exact hcell 8 _ rfl
   have EXV:Hid (x.v=.slice xa x.rs.length xc):=exv
   have f7:=H7.out wr TR.out
   have f4:=H4.out wr TR.out
   have l7:=Qaa f7
   have l4:=Qaa f4
   have tA:Touch (fun _=>False) wr (wr.alloc (.cells #[.int .u16 x.h.age,.int .u8 x.h.opts,.int .u8 x.h.typ,.int .u32 x.h.id,.int .u32 x.h.adv,.int .i32 x.h.seq,.int .u16 x.h.sum,.int .u16 x.h.len,.slice xa x.rs.length xc] 59)):=(Touch.refl _ _).alloc _
   have TA:Hid (Touch (fun _=>False) wr (wr.alloc (.cells #[.int .u16 x.h.age,.int .u8 x.h.opts,.int .u8 x.h.typ,.int .u32 x.h.id,.int .u32 x.h.adv,.int .i32 x.h.seq,.int .u16 x.h.sum,.int .u16 x.h.len,.slice xa x.rs.length xc] 59))):=tA
   have HRS:Hid (Row (wr.alloc (.cells #[.int .u16 x.h.age,.int .u8 x.h.opts,.int .u8 x.h.typ,.int .u32 x.h.id,.int .u32 x.h.adv,.int .i32 x.h.seq,.int .u16 x.h.sum,.int .u16 x.h.len,.slice xa x.rs.length xc] 59)) wr.heap.size 59 [.int .u16 x.h.age,.int .u8 x.h.opts,.int .u8 x.h.typ,.int .u32 x.h.id,.int .u32 x.h.adv,.int .i32 x.h.seq,.int .u16 x.h.sum,.int .u16 x.h.len,.slice xa x.rs.length xc]):=Qac wr _ _
   have hlook:=Qg6 (HM.out _ (TR.out.trans (TA.out.mono (fun _ _ h=>h.elim)))) (r:=x.h.adv) ⟨ox.all.v.1,by have:=ox.all.v.2;omega⟩
   rw [HF.out] at hlook
   clear hcell hx ox tA exv
   rcases hlook with⟨z,hf,-,hzm,hlk⟩|⟨hf,-,hlk⟩
   ·have hzT:=HT.out z (Qfc hzm)
    obtain⟨⟨za,zn,zc,ez⟩,hz0,hz1⟩:=hzT
    have HZC:Hid (0≤z.x.cost∧z.x.cost≤4294967295):=⟨hz0,hz1⟩
    have HEZ:Hid (z.hv=.slice za zn zc):=ez
    have HFF:Hid (T.find? (isBd x.h.adv)=some z):=hf
    unfold WY.sv at hlk
    rw [ez] at hlk
    clear hf hzm hz0 hz1 ez
    have HRZ:Hid (Row ((wr.alloc (.cells #[.int .u16 x.h.age,.int .u8 x.h.opts,.int .u8 x.h.typ,.int .u32 x.h.id,.int .u32 x.h.adv,.int .i32 x.h.seq,.int .u16 x.h.sum,.int .u16 x.h.len,.slice xa x.rs.length xc] 59)).alloc (.cells #[.int .u32 z.x.p.addr,.int .u8 z.x.p.bits,.int .u32 z.x.router,.int .u8 z.x.flags,.int .u8 z.x.kind,.int .u32 z.x.area,.int .u32 z.x.cost,.int .u32 z.x.dist,.int .u32 z.x.tag,.slice za zn zc] 47)) (wr.heap.size+1) 47 [.int .u32 z.x.p.addr,.int .u8 z.x.p.bits,.int .u32 z.x.router,.int .u8 z.x.flags,.int .u8 z.x.kind,.int .u32 z.x.area,.int .u32 z.x.cost,.int .u32 z.x.dist,.int .u32 z.x.tag,.slice za zn zc]):=by have:=Qac (wr.alloc (.cells #[.int .u16 x.h.age,.int .u8 x.h.opts,.int .u8 x.h.typ,.int .u32 x.h.id,.int .u32 x.h.adv,.int .i32 x.h.seq,.int .u16 x.h.sum,.int .u16 x.h.len,.slice xa x.rs.length xc] 59)) 47 #[.int .u32 z.x.p.addr,.int .u8 z.x.p.bits,.int .u32 z.x.router,.int .u8 z.x.flags,.int .u8 z.x.kind,.int .u32 z.x.area,.int .u32 z.x.cost,.int .u32 z.x.dist,.int .u32 z.x.tag,.slice za zn zc];rw [World.size_alloc] at this;exact this
    have HRS2:Hid (Row ((wr.alloc (.cells #[.int .u16 x.h.age,.int .u8 x.h.opts,.int .u8 x.h.typ,.int .u32 x.h.id,.int .u32 x.h.adv,.int .i32 x.h.seq,.int .u16 x.h.sum,.int .u16 x.h.len,.slice xa x.rs.length xc] 59)).alloc (.cells #[.int .u32 z.x.p.addr,.int .u8 z.x.p.bits,.int .u32 z.x.router,.int .u8 z.x.flags,.int .u8 z.x.kind,.int .u32 z.x.area,.int .u32 z.x.cost,.int .u32 z.x.dist,.int .u32 z.x.tag,.slice za zn zc] 47)) wr.heap.size 59 [.int .u16 x.h.age,.int .u8 x.h.opts,.int .u8 x.h.typ,.int .u32 x.h.id,.int .u32 x.h.adv,.int .i32 x.h.seq,.int .u16 x.h.sum,.int .u16 x.h.len,.slice xa x.rs.length xc]):=HRS.out.keep ((Touch.refl _ _).alloc _)
    have TB:Hid (Touch (fun _=>False) wr ((wr.alloc (.cells #[.int .u16 x.h.age,.int .u8 x.h.opts,.int .u8 x.h.typ,.int .u32 x.h.id,.int .u32 x.h.adv,.int .i32 x.h.seq,.int .u16 x.h.sum,.int .u16 x.h.len,.slice xa x.rs.length xc] 59)).alloc (.cells #[.int .u32 z.x.p.addr,.int .u8 z.x.p.bits,.int .u32 z.x.router,.int .u8 z.x.flags,.int .u8 z.x.kind,.int .u32 z.x.area,.int .u32 z.x.cost,.int .u32 z.x.dist,.int .u32 z.x.tag,.slice za zn zc] 47))):=TA.out.trans ((Touch.refl _ _).alloc _)
    clear HRS TA
    gi_wp2_with fail
    clear f7 l7 hlk e0 e1 e2 e3 e4 e5 e6 e7 e8
    have HG4:=H4.out
    generalize (wr.alloc (.cells #[.int .u16 x.h.age,.int .u8 x.h.opts,.int .u8 x.h.typ,.int .u32 x.h.id,.int .u32 x.h.adv,.int .i32 x.h.seq,.int .u16 x.h.sum,.int .u16 x.h.len,.slice xa x.rs.length xc] 59)).alloc (.cells #[.int .u32 z.x.p.addr,.int .u8 z.x.p.bits,.int .u32 z.x.router,.int .u8 z.x.flags,.int .u8 z.x.kind,.int .u32 z.x.area,.int .u32 z.x.cost,.int .u32 z.x.dist,.int .u32 z.x.tag,.slice za zn zc] 47)=wb at *
    generalize wr.heap.size+1=kb at *
    generalize wr.heap.size=ka at *
    refine⟨trivial,?_⟩
    have hcall:=Qe1 x wb (HOX.out.keep TB.out) HXS.out self
    unfold HV.sv at hcall
    rw [EXV.out] at hcall
    cases hcs:cntS self x with
    | false =>
     rw [hcs] at hcall
     have HS:Hid (leadsY T self (S.take (k+1))=leadsY T self (S.take k)):=Qdb HX.out (Qj7 HFF.out hcs)
     refine (callsIn_wide.2 hcall).mono ?_
     rintro e w1 ⟨rfl,t1⟩
     have T1:Hid (Touch (fun _=>False) wr w1):=TB.out.trans t1
     have hJ1:Hid (J pre w1):=HJ.out _ _ _ none HJS.out (Qbh T1.out) (fun r e=>by cases e)
     clear t1 TB HRZ HRS2 hcs
     gi_wp2
     go_roundw
     case rel=>exact⟨k+1,pre,hlt,by first|exact Qam hkw|exact Qam rfl,HPM.out.trans HS.out.symm,hJ1.out,TR.out.trans (T1.out.mono (fun _ _ h=>h.elim))⟩
     case measure=>first|exact Qax hlt hkw|exact Qax hlt rfl
    | true =>
     rw [hcs] at hcall
     have hcd:(x.h.typ=3∨x.h.typ=4)∧x.h.adv≠self∧¬yrs x.h.age=3600∧chkE x.h x.rs=0:=by unfold cntS at hcs;exact of_decide_eq_true hcs
     have HLY:Hid (leadY T self x=(ledW x z.x).map (fun y=>⟨y,z.hv⟩)):=Qfg HFF.out hcs
     refine (callsIn_wide.2 hcall).mono ?_
     rintro e w1 ⟨rfl,t1⟩
     have T1:Hid (Touch (fun _=>False) wr w1):=TB.out.trans t1
     have RS1:=HRS2.out.keep t1
     have RZ1:=HRZ.out.keep t1
     have s0:=RS1.cell 0
     have s1:=RS1.cell 1
     have s2:=RS1.cell 2
     have s3:=RS1.cell 3
     have s4:=RS1.cell 4
     have s5:=RS1.cell 5
     have s6:=RS1.cell 6
     have s7:=RS1.cell 7
     have s8:=RS1.cell 8
     have z0:=RZ1.cell 0
     have z1:=RZ1.cell 1
     have z2:=RZ1.cell 2
     have z3:=RZ1.cell 3
     have z4:=RZ1.cell 4
     have z5:=RZ1.cell 5
     have z6:=RZ1.cell 6
     have z7:=RZ1.cell 7
     have z8:=RZ1.cell 8
     have z9:=RZ1.cell 9
     simp only [List.getElem?_cons_succ,List.getElem?_cons_zero] at s0 s1 s2 s3 s4 s5 s6 s7 s8 z0 z1 z2 z3 z4 z5 z6 z7 z8 z9
     have la:=RS1.lt
     have lb:=RZ1.lt
     have hled:=Qm7 x z w1 (HOX.out.keep T1.out) hcd.1 hcd.2.2.2 HZC.out.1 HZC.out.2 ⟨za,zn,zc,HEZ.out⟩
     have hLP:Hid (∀e w',LedP x z w1 e w'→(ledW x z.x=none∧Touch (fun _=>False) w1 w'∧∃(q:WP) (a:Option Addr) (n c:Nat),e=.returned (.tuple #[(⟨q,.slice a n c⟩:WY).sv,.bool false]))∨(∃q,ledW x z.x=some q∧Touch (fun _=>False) w1 w'∧e=.returned (.tuple #[(⟨q,.slice za zn zc⟩:WY).sv,.bool true]))):=fun e w' h=>by
      cases hle:ledW x z.x with
      | none=>exact Or.inl ⟨rfl,h.t,h.no hle⟩
      | some q=>exact Or.inr ⟨q,rfl,h.t,by have:=h.yes q hle;rw [HEZ.out] at this;exact this⟩
     unfold HV.sv WY.sv at hled
     rw [EXV.out,HEZ.out] at hled
     generalize LedP x z w1=LQ at hLP hled
     clear t1 TB HRZ HRS2 hcs hcd RS1 RZ1
     gi_wp2_with fail
     clear s0 s1 s2 s3 s4 s5 s6 s7 s8 z0 z1 z2 z3 z4 z5 z6 z7 z8 z9 la lb
     refine⟨trivial,?_⟩
     refine (callsIn_wide.2 hled).mono ?_
     intro e w2 hq
     rcases hLP.out e w2 hq with⟨hle,t2,q,qa,qn,qc,rfl⟩|⟨q,hle,t2,rfl⟩
     ·have HS:Hid (leadsY T self (S.take (k+1))=leadsY T self (S.take k)):=Qdb HX.out (by rw [HLY.out,hle];rfl)
      have T3:Hid (Touch (fun _=>False) wr (w2.alloc (.cells #[.int .u32 q.p.addr,.int .u8 q.p.bits,.int .u32 q.router,.int .u8 q.flags,.int .u8 q.kind,.int .u32 q.area,.int .u32 q.cost,.int .u32 q.dist,.int .u32 q.tag,.slice qa qn qc] 47))):=(T1.out.trans t2).trans ((Touch.refl _ _).alloc _)
      have hJ1:Hid (J pre (w2.alloc (.cells #[.int .u32 q.p.addr,.int .u8 q.p.bits,.int .u32 q.router,.int .u8 q.flags,.int .u8 q.kind,.int .u32 q.area,.int .u32 q.cost,.int .u32 q.dist,.int .u32 q.tag,.slice qa qn qc] 47))):=HJ.out _ _ _ none HJS.out (Qbh T3.out) (fun r e=>by cases e)
      unfold WY.sv
      clear t2 hle hq hLP hled
      gi_wp2
      refine⟨fun _ h=>(by cases h),?_⟩
      gi_wp2
      go_roundw
      case rel=>exact⟨k+1,pre,hlt,by first|exact Qam hkw|exact Qam rfl,HPM.out.trans HS.out.symm,hJ1.out,TR.out.trans (T3.out.mono (fun _ _ h=>h.elim))⟩
      case measure=>first|exact Qax hlt hkw|exact Qax hlt rfl
     ·have HS:Hid (leadsY T self (S.take (k+1))=leadsY T self (S.take k)++[⟨q,.slice za zn zc⟩]):=Qhx HX.out (by rw [HLY.out,hle,HEZ.out];rfl)
      have T3:Hid (Touch (fun _=>False) wr (w2.alloc (.cells #[.int .u32 q.p.addr,.int .u8 q.p.bits,.int .u32 q.router,.int .u8 q.flags,.int .u8 q.kind,.int .u32 q.area,.int .u32 q.cost,.int .u32 q.dist,.int .u32 q.tag,.slice za zn zc] 47))):=(T1.out.trans t2).trans ((Touch.refl _ _).alloc _)
      have hJ1:J pre (w2.alloc (.cells #[.int .u32 q.p.addr,.int .u8 q.p.bits,.int .u32 q.router,.int .u8 q.flags,.int .u8 q.kind,.int .u32 q.area,.int .u32 q.cost,.int .u32 q.dist,.int .u32 q.tag,.slice za zn zc] 47)):=HJ.out _ _ _ none HJS.out (Qbh T3.out) (fun r e=>by cases e)
      have hYY:=HY.out pre ⟨q,za,zn,zc⟩ _ hJ1 (Nat.lt_of_le_of_lt HPL.out hlt)
      unfold encZ WZ.y WY.sv at hYY
      dsimp only at hYY
      unfold WY.sv
      clear t2 hle hq hLP hled hJ1
      obtain⟨fn,tmps,assign,body,hy,hR⟩:=hYY
      gi_wp2
      refine hR.mono ?_
      rintro e W3 (⟨rfl,hJ3,hk3⟩|⟨rfl,hJx3⟩)
      ·have T4:Hid (Touch G w W3):=(TR.out.trans (T3.out.mono (fun _ _ h=>h.elim))).trans hk3
       have hJ4:Hid (J (pre++[⟨q,za,zn,zc⟩]) W3):=hJ3
       clear hk3 hJ3
       gi_wp2
       go_roundw
       case rel=>exact⟨k+1,pre++[⟨q,za,zn,zc⟩],hlt,by first|exact Qam hkw|exact Qam rfl,by rw [HS.out,←HPM.out];exact List.map_append,hJ4.out,T4.out⟩
       case measure=>first|exact Qax hlt hkw|exact Qax hlt rfl
      ·gi_wp2
       refine bodyPost_ret (results_none rfl _ _ _) rfl ?_
       exact⟨⟨_,rfl⟩,.inr ⟨_,trivial,hJx3⟩⟩
   ·have HS:Hid (leadsY T self (S.take (k+1))=leadsY T self (S.take k)):=Qdb HX.out (Qhs hf)
    have TB:Hid (Touch (fun _=>False) wr ((wr.alloc (.cells #[.int .u16 x.h.age,.int .u8 x.h.opts,.int .u8 x.h.typ,.int .u32 x.h.id,.int .u32 x.h.adv,.int .i32 x.h.seq,.int .u16 x.h.sum,.int .u16 x.h.len,.slice xa x.rs.length xc] 59)).alloc (.cells #[.int .u32 0,.int .u8 0,.int .u32 0,.int .u8 0,.int .u8 0,.int .u32 0,.int .u32 0,.int .u32 0,.int .u32 0,.slice none 0 0] 47))):=TA.out.trans ((Touch.refl _ _).alloc _)
    have hJ1:Hid (J pre ((wr.alloc (.cells #[.int .u16 x.h.age,.int .u8 x.h.opts,.int .u8 x.h.typ,.int .u32 x.h.id,.int .u32 x.h.adv,.int .i32 x.h.seq,.int .u16 x.h.sum,.int .u16 x.h.len,.slice xa x.rs.length xc] 59)).alloc (.cells #[.int .u32 0,.int .u8 0,.int .u32 0,.int .u8 0,.int .u8 0,.int .u32 0,.int .u32 0,.int .u32 0,.int .u32 0,.slice none 0 0] 47))):=HJ.out _ _ _ none HJS.out (Qbh TB.out) (fun r e=>by cases e)
    clear hf TA HRS
    gi_wp2_with fail
    refine⟨trivial,?_⟩
    gi_wp2
    go_roundw
    case rel=>exact⟨k+1,pre,hlt,by first|exact Qam hkw|exact Qam rfl,HPM.out.trans HS.out.symm,hJ1.out,TR.out.trans (TB.out.mono (fun _ _ h=>h.elim))⟩
    case measure=>first|exact Qax hlt hkw|exact Qax hlt rfl
  ·obtain rfl:k=t:=Nat.le_antisymm hk (Nat.le_of_not_lt hlt)
   have HJE:Hid (∃xs,ysZ xs=leadsY T self S∧J xs wr):=⟨pre,by have h:=HPM.out;rw [List.take_of_length_le (by rw [HSL.out];exact Nat.le_refl _)] at h;exact h,HJS.out⟩
   have hlt':¬(k:Int)<(k:Int):=Int.lt_irrefl _
   clear HJS
   gi_wp2
   go_end0
   exact⟨⟨_,rfl⟩,.inl HJE.out⟩
end Go.Proofs.YtldmkoogghemhaaGreat
