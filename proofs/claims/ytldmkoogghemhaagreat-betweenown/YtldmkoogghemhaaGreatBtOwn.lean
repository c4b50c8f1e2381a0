import Derived.Test.YtldmkoogghemhaaGreatInBig
import Derived.Test.YtldmkoogghemhaaGreatInWay2
namespace Go.Proofs.YtldmkoogghemhaaGreat
set_option maxHeartbeats 8000000
open Go.RowKit
set_option linter.unusedVariables false
set_option maxRecDepth 100000
theorem Qhy {T:List WY} {me:Int} {S:List SE} (h:∀x∈S,x.h.adv=me):leadsY T me S=[]:=by
 unfold leadsY
 refine List.filterMap_eq_nil_iff.2 (fun x hx=>?_)
 have hc:cntS me x=false:=decide_eq_false (fun e=>e.2.1 (h x hx))
 unfold leadY
 split
 ·simp [hc]
 ·rfl
theorem Qos {w0 w:World} {v:Value} {N T:List WY} (h:WB1 w0 w v N) (hx:N.map (·.x)=T.map (·.x)) (hT:∀y∈T,WNk y.x∧(∀h∈y.x.hs,0≤h.via∧h.via≤4294967295)∧y.x.hs.length≤400) :
  WRd w v N∧(∀y∈N,0≤y.x.flags∧y.x.flags≤255)∧(∀y∈N,0≤y.x.cost∧y.x.cost≤4294967295):=by
 have hm:∀y∈N,∃t∈T,t.x=y.x:=fun y hy=>by
  have h1:y.x∈T.map (·.x):=by rw [←hx];exact List.mem_map.2 ⟨y,hy,rfl⟩
  exact List.mem_map.1 h1
 refine⟨⟨Qnb (VBuf.vals h.b),fun y hy=>Qcg (h.h y hy),fun y hy=>?_,fun y hy=>?_,fun y hy=>?_⟩,fun y hy=>?_,fun y hy=>?_⟩ <;> (obtain⟨t,ht,e⟩:=hm y hy;obtain⟨h1,h2,h3⟩:=hT t ht;rw [e] at h1 h2 h3)
 ·exact h1.rt
 ·exact h2
 ·exact h3
 ·exact h1.fl
 ·exact h1.co
structure OwS (n:Nat) (me:Int) (w:World) (gg:Nat) (s3 s4:Value) (wr:World):Prop where
 out:∃(j:Nat) (l:List SE) (sa:Option Addr) (sc:Nat),j≤n∧n-j≤gg∧s4=.int .i64 (j:Int)∧s3=.slice sa j sc∧l.length=j∧(∀x∈l,x.h.adv=me∧x.h.All∧(∀z∈x.rs,0≤z∧z<256)∧x.rs.length≤8192)∧wr.ownsRow w.heap.size 59 9 (.slice sa j sc) j (statesC l)∧(∀x∈l,wr.ownsRow w.heap.size 5 1 x.v x.rs.length (bytesOf x.rs))∧Touch (fun _=>False) w wr
theorem own19 (va vb:Value) (S:List SE) (T:List WY) (area me:Int) (w:World) (A:StatesAt w va S) (hmx:S.length≤140737488355328) (hbx:∀x∈S,x.rs.length≤140737488355328) (C:WsAt w vb T) (ht:T.length≤140737488355328) (hme:0≤me∧me<4294967296) :
  Calls Tryz.prog 7 #[.agg #[va,.int .u32 area,.int .u32 me,vb]] w fun e w'=>e=.returned (.bool true)∧Touch (fun _=>False) w w':=by
 obtain⟨aa,ac,rfl,-⟩:=ValsAt.form A.vals
 obtain⟨ba,bc,rfl,-⟩:=C.sh
 obtain⟨w0,hw0⟩:∃u,u=w.alloc (.cells #[.slice aa S.length ac,.int .u32 area,.int .u32 me,.slice ba T.length bc] 26):=⟨_,rfl⟩
 have t0:Touch (fun _=>False) w w0:=by rw [hw0];exact (Touch.refl _ _).alloc _
 obtain⟨b0,hb0⟩:∃b,b=w.heap.size:=⟨_,rfl⟩
 have HRB:Hid (Row w0 b0 26 [.slice aa S.length ac,.int .u32 area,.int .u32 me,.slice ba T.length bc]):=by rw [hw0,hb0];exact Qac _ _ _
 have HA:Hid (∀w',Touch (fun _=>False) w0 w'→StatesAt w' (.slice aa S.length ac) S):=fun w' t=>A.keep (t0.trans t)
 have HC:Hid (∀w',Touch (fun _=>False) w0 w'→WsAt w' (.slice ba T.length bc) T):=fun w' t=>C.keep (t0.trans t)
 have HT0:Hid (Touch (fun _=>False) w w0):=t0
 have HH:=heavy19 (.slice aa S.length ac) S w0 (A.keep t0) hmx hbx
 have HB:=Qlj (.slice ba T.length bc) T w0 (C.keep t0) ht
 have HW:=fun w=>Qf9 w
 have HME:Hid (0≤me∧me<4294967296):=hme
 clear A C hmx hbx ht t0 hme
 go_enter Tryz.func7,Tryz.ntmps7
 go_upto_region 1 with fail
 rw [←hw0,←hb0]
 clear hw0 hb0
 have cb0:=HRB.out.cell 0
 have cb1:=HRB.out.cell 1
 have cb2:=HRB.out.cell 2
 have cb3:=HRB.out.cell 3
 have lb:=HRB.out.lt
 simp only [List.getElem?_cons_succ,List.getElem?_cons_zero] at cb0 cb1 cb2 cb3
 go_wp2_with fail
 refine HH.mono ?_
 rintro e w1 ⟨b1,rfl,hb1,rfl⟩
 have HB1:Hid (b1=false→S.length≤60∧∀x∈S,x.rs.length≤8192):=hb1
 clear hb1 HH
 cases b1 with
 | true =>
  go_wp2_with (go_at_call 10;refine (HW _).mono ?_;rintro e w2 ⟨rfl,t2⟩;have T2:Hid _:=t2;clear t2)
  go_ret
  exact⟨rfl,HT0.out.trans T2.out⟩
 | false =>
  go_wp2_with fail
  refine HB.mono ?_
  rintro e w1 hq
  obtain⟨b2,rfl,hb2,rfl⟩:=hq.out
  have HB2:Hid (b2=false→T.length≤60∧∀y∈T,y.x.hs.length≤400):=hb2
  clear hb2 HB hq
  cases b2 with
  | true =>
   go_wp2_with (go_at_call 10;refine (HW _).mono ?_;rintro e w2 ⟨rfl,t2⟩;have T2:Hid _:=t2;clear t2)
   go_ret
   exact⟨rfl,HT0.out.trans T2.out⟩
  | false =>
   have HS60:Hid (S.length≤60∧∀x∈S,x.rs.length≤8192):=by show _∧_;have h:=HB1.out;simpa using h
   have HT60:Hid (T.length≤60∧∀y∈T,y.x.hs.length≤400):=by show _∧_;have h:=HB2.out;simpa using h
   clear HB1 HB2
   generalize hn:S.length=n at *
   have HN:Hid (S.length=n):=hn
   clear hn
   have hn60:(n:Int)≤60:=by have:=HS60.out.1;omega
   go_wp2_with fail
   clear cb0 cb1 cb2 cb3 lb
   go_loopg [3,4] n (fun gg s3 s4 wr=>OwS n me w0 gg s3 s4 wr)
   case atStart=>exact⟨0,[],none,0,Nat.zero_le _,Nat.le_refl _,rfl,rfl,rfl,(fun x hx=>by cases hx),World.ownsRow_nil _ _ _ _,(fun x hx=>by cases hx),Touch.refl _ _⟩
   case round =>
    obtain⟨j,l,sa,sc,hj,hgj,rfl,rfl,hll,hal,ow,ob,tw⟩:=hrel.out
    have OW:Hid (wr.ownsRow w0.heap.size 59 9 (.slice sa j sc) j (statesC l)):=ow
    have OB:Hid (∀x∈l,wr.ownsRow w0.heap.size 5 1 x.v x.rs.length (bytesOf x.rs)):=ob
    have TW:Hid (Touch (fun _=>False) w0 wr):=tw
    have HLL:Hid (l.length=j):=hll
    have HAL:Hid (∀x∈l,x.h.adv=me∧x.h.All∧(∀z∈x.rs,0≤z∧z<256)∧x.rs.length≤8192):=hal
    clear hrel ow ob tw hll hal
    have HRr:Hid (Row wr b0 26 [.slice aa n ac,.int .u32 area,.int .u32 me,.slice ba T.length bc]):=HRB.out.keep TW.out
    have cb0:=HRr.out.cell 0
    have cb2:=HRr.out.cell 2
    have lb:=HRr.out.lt
    simp only [List.getElem?_cons_succ,List.getElem?_cons_zero] at cb0 cb2
    by_cases hlt:j<n
    ·skip
     have hlt':(j:Int)<(n:Int):=Qbl hlt
     have hk00:(0:Int)≤(j:Int):=Qa6 _
     have hkw:wrap64 ((j:Int)+1)=(j:Int)+1:=Qes (Nat.le_trans (Nat.le_trans (Nat.le_of_lt hlt) HS60.out.1) (by decide))
     have HGJ:Hid (j<n∧n-j≤gk):=⟨hlt,hgj⟩
     obtain⟨x,hx⟩:=Qco HN.out hlt
     have HX8:Hid (x.rs.length≤8192):=HS60.out.2 x (List.mem_of_getElem? hx)
     obtain⟨ox,gR,off,cR,eR,hcell⟩:=StatesAt.one (HA.out wr TW.out) hx
     rw [HN.out] at eR
     obtain⟨xa,xc,ex,-⟩:=ox.arg.form
     cases eR
     have e0:wr.cell? ⟨gR,off+j*9,none⟩=some (.int .u16 x.h.age):=by exact hcell 0 _ rfl
     have e1:wr.cell? ⟨gR,off+j*9+1,none⟩=some (.int .u8 x.h.opts):=by rw [Nat.add_assoc];exact hcell 1 _ rfl
     have e2:wr.cell? ⟨gR,off+j*9+2,none⟩=some (.int .u8 x.h.typ):=by rw [Nat.add_assoc];exact hcell 2 _ rfl
     have e3:wr.cell? ⟨gR,off+j*9+3,none⟩=some (.int .u32 x.h.id):=by rw [Nat.add_assoc];exact hcell 3 _ rfl
     have e4:wr.cell? ⟨gR,off+j*9+4,none⟩=some (.int .u32 x.h.adv):=by rw [Nat.add_assoc];exact hcell 4 _ rfl
     have e5:wr.cell? ⟨gR,off+j*9+5,none⟩=some (.int .i32 x.h.seq):=by rw [Nat.add_assoc];exact hcell 5 _ rfl
     have e6:wr.cell? ⟨gR,off+j*9+6,none⟩=some (.int .u16 x.h.sum):=by rw [Nat.add_assoc];exact hcell 6 _ rfl
     have e7:wr.cell? ⟨gR,off+j*9+7,none⟩=some (.int .u16 x.h.len):=by rw [Nat.add_assoc];exact hcell 7 _ rfl
     have e8:wr.cell? ⟨gR,off+j*9+8,none⟩=some (.slice xa x.rs.length xc):=by rw [←ex];rw [Nat.add_assoc];exact hcell 8 _ rfl
     have HM:=Qic x.h (.slice xa x.rs.length xc) x.rs wr (by rw [←ex];exact ox.arg) (Nat.le_trans HX8.out (by decide))
     have HALL:Hid ({ x.h with adv:=me }:HV).All:=⟨ox.all.a,ox.all.o,ox.all.t,ox.all.i,HME.out,ox.all.s,ox.all.m,ox.all.l⟩
     have HBY:Hid (∀z∈x.rs,0≤z∧z<256):=ox.byte
     unfold HV.sv at HM
     clear hcell hx ox ex
     go_upto_region 9 with (go_at_call 21;refine HM.mono ?_;rintro e w2 ⟨u2,rfl,b2⟩;obtain⟨ua,uc,rfl⟩:=b2.form;have HU2:Hid (Buf wr w2 (.slice ua x.rs.length uc) x.rs):=b2;have HR2:Hid (Row w2 b0 26 [.slice (some ⟨gR,off,none⟩) n ac,.int .u32 area,.int .u32 me,.slice ba T.length bc]):=HRr.out.keep b2.t;have cb2':=HR2.out.cell 2;have lb':=HR2.out.lt;simp only [List.getElem?_cons_succ,List.getElem?_cons_zero] at cb2';clear b2 e0 e1 e2 e3 e4 e5 e6 e7 e8 cb0 cb2 lb)
     clear HM cb2' lb'
     have HT3:Hid (Touch (fun _=>False) w2 (w2.alloc (.cells #[.int .u16 x.h.age,.int .u8 x.h.opts,.int .u8 x.h.typ,.int .u32 x.h.id,.int .u32 me,.int .i32 x.h.seq,.int .u16 x.h.sum,.int .u16 x.h.len,.slice ua x.rs.length uc] 59))):=(Touch.refl _ _).alloc _
     obtain⟨bs,hbs⟩:∃b,b=w2.heap.size:=⟨_,rfl⟩
     have HRS:Hid (Row (w2.alloc (.cells #[.int .u16 x.h.age,.int .u8 x.h.opts,.int .u8 x.h.typ,.int .u32 x.h.id,.int .u32 me,.int .i32 x.h.seq,.int .u16 x.h.sum,.int .u16 x.h.len,.slice ua x.rs.length uc] 59)) bs 59 [.int .u16 x.h.age,.int .u8 x.h.opts,.int .u8 x.h.typ,.int .u32 x.h.id,.int .u32 me,.int .i32 x.h.seq,.int .u16 x.h.sum,.int .u16 x.h.len,.slice ua x.rs.length uc]):=by rw [hbs];exact Qac _ _ _
     have HBS:Hid (bs=w2.heap.size):=hbs
     have HSE:=Qg2 ({ x.h with adv:=me }:HV) HALL.out (.slice ua x.rs.length uc) x.rs (w2.alloc (.cells #[.int .u16 x.h.age,.int .u8 x.h.opts,.int .u8 x.h.typ,.int .u32 x.h.id,.int .u32 me,.int .i32 x.h.seq,.int .u16 x.h.sum,.int .u16 x.h.len,.slice ua x.rs.length uc] 59)) (ArgAt.keepN HU2.out.arg HT3.out) HBY.out (Nat.le_trans HX8.out (by decide))
     have HSA:Hid (sealH { x.h with adv:=me } x.rs).All:=Qg8 HALL.out (Nat.le_trans HX8.out (by decide))
     have HSD:Hid ((sealH { x.h with adv:=me } x.rs).adv=me):=rfl
     unfold HV.sv at HSE
     dsimp only at HSE
     generalize sealH { x.h with adv:=me } x.rs=sh at *
     rw [←hbs]
     clear hbs
     generalize w2.alloc (.cells #[.int .u16 x.h.age,.int .u8 x.h.opts,.int .u8 x.h.typ,.int .u32 x.h.id,.int .u32 me,.int .i32 x.h.seq,.int .u16 x.h.sum,.int .u16 x.h.len,.slice ua x.rs.length uc] 59)=w3 at *
     have s0:=HRS.out.cell 0
     have s1:=HRS.out.cell 1
     have s2:=HRS.out.cell 2
     have s3:=HRS.out.cell 3
     have s4:=HRS.out.cell 4
     have s5:=HRS.out.cell 5
     have s6:=HRS.out.cell 6
     have s7:=HRS.out.cell 7
     have s8:=HRS.out.cell 8
     have ls:=HRS.out.lt
     simp only [List.getElem?_cons_succ,List.getElem?_cons_zero] at s0 s1 s2 s3 s4 s5 s6 s7 s8
     go_upto_region 10 with (first|(go_at_call 22;refine HSE.mono ?_;rintro e w4 ⟨u4,rfl,b4⟩;obtain⟨qa,qc,rfl⟩:=b4.form;have HU4:Hid (Buf w3 w4 (.slice qa x.rs.length qc) x.rs):=b4;have HR4:Hid (Row w4 bs 59 [.int .u16 x.h.age,.int .u8 x.h.opts,.int .u8 x.h.typ,.int .u32 x.h.id,.int .u32 me,.int .i32 x.h.seq,.int .u16 x.h.sum,.int .u16 x.h.len,.slice ua x.rs.length uc]):=HRS.out.keep b4.t;clear b4 s0 s1 s2 s3 s4 s5 s6 s7 s8 ls)|(refine wpList_store_row rfl 59 (.tmp 5) (.tmp 37) rfl bs #[.int .u16 sh.age,.int .u8 sh.opts,.int .u8 sh.typ,.int .u32 sh.id,.int .u32 sh.adv,.int .i32 sh.seq,.int .u16 sh.sum,.int .u16 sh.len,.slice qa x.rs.length qc] rfl rfl 59 _ HR4.out (by kernel_rfl) rfl (by simp [Value.oneCell']) ?_))
     clear HSE
     have RS5:Row (World.setRow w4 bs #[.int .u16 sh.age,.int .u8 sh.opts,.int .u8 sh.typ,.int .u32 sh.id,.int .u32 sh.adv,.int .i32 sh.seq,.int .u16 sh.sum,.int .u16 sh.len,.slice qa x.rs.length qc]) bs 59 [.int .u16 sh.age,.int .u8 sh.opts,.int .u8 sh.typ,.int .u32 sh.id,.int .u32 sh.adv,.int .i32 sh.seq,.int .u16 sh.sum,.int .u16 sh.len,.slice qa x.rs.length qc]:=HR4.out.setRow _
     have t45:Touch (fun k=>k=bs) w4 (World.setRow w4 bs #[.int .u16 sh.age,.int .u8 sh.opts,.int .u8 sh.typ,.int .u32 sh.id,.int .u32 sh.adv,.int .i32 sh.seq,.int .u16 sh.sum,.int .u16 sh.len,.slice qa x.rs.length qc]):=Touch.setRow (F:=fun k=>k=bs) (Touch.refl _ _) (Or.inl rfl) _
     have HZR:Hid (w0.heap.size≤wr.heap.size∧wr.heap.size≤bs∧w0.heap.size≤w3.heap.size):=⟨TW.out.size,by rw [HBS.out];exact HU2.out.t.size,Nat.le_trans TW.out.size (Nat.le_trans HU2.out.t.size HT3.out.size)⟩
     have trA:Touch (fun k=>k=bs) wr (World.setRow w4 bs #[.int .u16 sh.age,.int .u8 sh.opts,.int .u8 sh.typ,.int .u32 sh.id,.int .u32 sh.adv,.int .i32 sh.seq,.int .u16 sh.sum,.int .u16 sh.len,.slice qa x.rs.length qc]):=((HU2.out.t.trans (HT3.out.trans HU4.out.t)).mono (fun _ _ h=>h.elim)).trans t45
     have HTZ:Hid (Touch (fun _=>False) w0 (World.setRow w4 bs #[.int .u16 sh.age,.int .u8 sh.opts,.int .u8 sh.typ,.int .u32 sh.id,.int .u32 sh.adv,.int .i32 sh.seq,.int .u16 sh.sum,.int .u16 sh.len,.slice qa x.rs.length qc])):=TW.out.trans' trA (fun k hk e=>by have:=HZR.out;omega)
     have HOW5:Hid ((World.setRow w4 bs #[.int .u16 sh.age,.int .u8 sh.opts,.int .u8 sh.typ,.int .u32 sh.id,.int .u32 sh.adv,.int .i32 sh.seq,.int .u16 sh.sum,.int .u16 sh.len,.slice qa x.rs.length qc]).ownsRow w0.heap.size 59 9 (.slice sa j sc) j (statesC l)):=Qab OW.out trA (fun k hk e=>by have:=(OW.out.lt k hk).2;have:=HZR.out;omega)
     have HOB5:Hid (∀y∈l,(World.setRow w4 bs #[.int .u16 sh.age,.int .u8 sh.opts,.int .u8 sh.typ,.int .u32 sh.id,.int .u32 sh.adv,.int .i32 sh.seq,.int .u16 sh.sum,.int .u16 sh.len,.slice qa x.rs.length qc]).ownsRow w0.heap.size 5 1 y.v y.rs.length (bytesOf y.rs)):=fun y hy=>Qab (OB.out y hy) trA (fun k hk e=>by have:=((OB.out y hy).lt k hk).2;have:=HZR.out;omega)
     have HOU5:Hid ((World.setRow w4 bs #[.int .u16 sh.age,.int .u8 sh.opts,.int .u8 sh.typ,.int .u32 sh.id,.int .u32 sh.adv,.int .i32 sh.seq,.int .u16 sh.sum,.int .u16 sh.len,.slice qa x.rs.length qc]).ownsRow w0.heap.size 5 1 (.slice qa x.rs.length qc) x.rs.length (bytesOf x.rs)):=Qab (Qak HU4.out.own HZR.out.2.2) t45 (fun k hk e=>by subst e;exact Qbo HU4.out.own HR4.out (by decide) hk)
     clear t45 trA HU2 HU4 HR4 OW OB HRS HT3
     generalize World.setRow w4 bs #[.int .u16 sh.age,.int .u8 sh.opts,.int .u8 sh.typ,.int .u32 sh.id,.int .u32 sh.adv,.int .i32 sh.seq,.int .u16 sh.sum,.int .u16 sh.len,.slice qa x.rs.length qc]=w5 at *
     have s0:=RS5.cell 0
     have s1:=RS5.cell 1
     have s2:=RS5.cell 2
     have s3:=RS5.cell 3
     have s4:=RS5.cell 4
     have s5:=RS5.cell 5
     have s6:=RS5.cell 6
     have s7:=RS5.cell 7
     have s8:=RS5.cell 8
     have ls:=RS5.lt
     simp only [List.getElem?_cons_succ,List.getElem?_cons_zero] at s0 s1 s2 s3 s4 s5 s6 s7 s8
     have RAw:=Qac w5 59 #[.int .u16 sh.age,.int .u8 sh.opts,.int .u8 sh.typ,.int .u32 sh.id,.int .u32 sh.adv,.int .i32 sh.seq,.int .u16 sh.sum,.int .u16 sh.len,.slice qa x.rs.length qc]
     have T8:Touch (fun _=>False) w5 (w5.alloc (.cells #[.int .u16 sh.age,.int .u8 sh.opts,.int .u8 sh.typ,.int .u32 sh.id,.int .u32 sh.adv,.int .i32 sh.seq,.int .u16 sh.sum,.int .u16 sh.len,.slice qa x.rs.length qc] 59)):=(Touch.refl _ _).alloc _
     have HT8:Hid (Touch (fun _=>False) w5 (w5.alloc (.cells #[.int .u16 sh.age,.int .u8 sh.opts,.int .u8 sh.typ,.int .u32 sh.id,.int .u32 sh.adv,.int .i32 sh.seq,.int .u16 sh.sum,.int .u16 sh.len,.slice qa x.rs.length qc] 59))):=T8
     have HNA:Hid (∀(i:Nat) u,([.int .u16 sh.age,.int .u8 sh.opts,.int .u8 sh.typ,.int .u32 sh.id,.int .u32 sh.adv,.int .i32 sh.seq,.int .u16 sh.sum,.int .u16 sh.len,.slice qa x.rs.length qc]:List Value)[i]?=some u→(w5.alloc (.cells #[.int .u16 sh.age,.int .u8 sh.opts,.int .u8 sh.typ,.int .u32 sh.id,.int .u32 sh.adv,.int .i32 sh.seq,.int .u16 sh.sum,.int .u16 sh.len,.slice qa x.rs.length qc] 59)).cell? ((⟨w5.heap.size,0,none⟩:Addr).add i)=some u):=fun i u hj=>by rw [Qah,Nat.zero_add,RAw.cell i];exact hj
     have HOW6:Hid ((w5.alloc (.cells #[.int .u16 sh.age,.int .u8 sh.opts,.int .u8 sh.typ,.int .u32 sh.id,.int .u32 sh.adv,.int .i32 sh.seq,.int .u16 sh.sum,.int .u16 sh.len,.slice qa x.rs.length qc] 59)).ownsRow w0.heap.size 59 9 (.slice sa j sc) j (statesC l)):=Qab HOW5.out T8 (fun _ _ h=>h)
     have HSZ:Hid (w0.heap.size≤(w5.alloc (.cells #[.int .u16 sh.age,.int .u8 sh.opts,.int .u8 sh.typ,.int .u32 sh.id,.int .u32 sh.adv,.int .i32 sh.seq,.int .u16 sh.sum,.int .u16 sh.len,.slice qa x.rs.length qc] 59)).heap.size):=Nat.le_trans HTZ.out.size T8.size
     have HLN:Hid (j+1≤1099511627776):=by have h1:=HGJ.out.1;have h2:=HS60.out.1;show _≤_;omega
     have H1C:Hid (∀u∈([.int .u16 sh.age,.int .u8 sh.opts,.int .u8 sh.typ,.int .u32 sh.id,.int .u32 sh.adv,.int .i32 sh.seq,.int .u16 sh.sum,.int .u16 sh.len,.slice qa x.rs.length qc]:List Value),u.oneCell'=true):=fun u hu=>by simp at hu;rcases hu with rfl|rfl|rfl|rfl|rfl|rfl|rfl|rfl|rfl <;> rfl
     clear RAw T8
     go_wp2_with (at_builtin;refine Qce rfl (.tmp 39) (.tmp 41) 22 rfl 59 9 48 (.agg #[.int .u16 0,.int .u8 0,.int .u8 0,.int .u32 0,.int .u32 0,.int .i32 0,.int .u16 0,.int .u16 0,.slice none 0 0]) Tryz.underlying22 infoS9g rfl (by decide) (by decide) w0.heap.size (.slice sa j sc) j _ rfl HOW6.out HSZ.out ⟨w5.heap.size,0,none⟩ 1 1 [.int .u16 sh.age,.int .u8 sh.opts,.int .u8 sh.typ,.int .u32 sh.id,.int .u32 sh.adv,.int .i32 sh.seq,.int .u16 sh.sum,.int .u16 sh.len,.slice qa x.rs.length qc] rfl rfl HNA.out H1C.out HLN.out ?_)
     intro v' wf hown TG
     clear s0 s1 s2 s3 s4 s5 s6 s7 s8 ls
     obtain⟨f1,f2,rfl⟩:=Qal hown
     have t5f:Touch (fun k=>(Value.slice sa j sc).ownBlock=some k) w5 wf:=(HT8.out.mono (fun _ _ h=>h.elim)).trans TG
     have HRF:Hid (OwS n me w0 (n-(j+1)) (.slice f1 (j+1) f2) (.int .i64 ((j+1:Nat):Int)) wf):=by
      refine⟨j+1,l++[⟨sh,.slice qa x.rs.length qc,x.rs⟩],f1,f2,HGJ.out.1,Nat.le_refl _,rfl,rfl,by rw [List.length_append,HLL.out];rfl,fun y hy=>?_,?_,fun y hy=>?_,HTZ.out.trans' t5f (fun k hk e=>by have:=(HOW5.out.lt k e).1;omega)⟩
      ·rcases List.mem_append.1 hy with hy|hy
       ·exact HAL.out y hy
       ·obtain rfl:=List.mem_singleton.1 hy
        exact⟨HSD.out,HSA.out,HBY.out,HX8.out⟩
      ·have e:statesC (l++[⟨sh,.slice qa x.rs.length qc,x.rs⟩])=statesC l++[.int .u16 sh.age,.int .u8 sh.opts,.int .u8 sh.typ,.int .u32 sh.id,.int .u32 sh.adv,.int .i32 sh.seq,.int .u16 sh.sum,.int .u16 sh.len,.slice qa x.rs.length qc]:=by simp [statesC,SE.cells]
       rw [e]
       exact hown
      ·rcases List.mem_append.1 hy with hy|hy
       ·exact Qab (HOB5.out y hy) t5f (fun k hk e=>Qa1 (HOB5.out y hy) HOW5.out (by decide) k hk e)
       ·obtain rfl:=List.mem_singleton.1 hy
        exact Qab HOU5.out t5f (fun k hk e=>Qa1 HOU5.out HOW5.out (by decide) k hk e)
     clear hown TG t5f HOW6 HNA HSZ HLN H1C HOW5 HOB5 HOU5 HTZ HT8 RS5
     go_wp2_with fail
     go_roundg (n-(j+1))
     case measure=>exact Qbz HGJ.out.1 HGJ.out.2
     case rel=>first|exact HRF.out|(simpa using HRF.out)
    ·skip
     obtain rfl:j=n:=Nat.le_antisymm hj (Nat.le_of_not_lt hlt)
     have hlt':¬(j:Int)<(j:Int):=Int.lt_irrefl _
     have cb1:=HRr.out.cell 1
     have cb3:=HRr.out.cell 3
     simp only [List.getElem?_cons_succ,List.getElem?_cons_zero] at cb1 cb3
     go_upto_region 11 with fail
     clear cb0 cb1 cb2 cb3 lb
     have s0:Touch (fun _=>False) wr wr.drew:=(Touch.refl _ _).drew
     have HRW:∀w',Touch (fun _=>False) wr w'→Row w' b0 26 [.slice aa j ac,.int .u32 area,.int .u32 me,.slice ba T.length bc]:=fun w' t=>HRr.out.keep t
     have d1:∀w',Touch (fun _=>False) wr w'→w'.cell? ⟨b0,1,none⟩=some (.int .u32 area):=fun w' t=>(HRW w' t).cell 1
     have d2:∀w',Touch (fun _=>False) wr w'→w'.cell? ⟨b0,2,none⟩=some (.int .u32 me):=fun w' t=>(HRW w' t).cell 2
     have d3:∀w',Touch (fun _=>False) wr w'→w'.cell? ⟨b0,3,none⟩=some (.slice ba T.length bc):=fun w' t=>(HRW w' t).cell 3
     have HWY:=Qhw (.slice ba T.length bc) T wr.drew (HC.out _ (TW.out.trans s0)) HT60.out.1 HT60.out.2
     have HTB:Hid (∀y∈T,WNk y.x∧(∀h∈y.x.hs,0≤h.via∧h.via≤4294967295)∧y.x.hs.length≤400):=fun y hy=>by have h:=(HC.out w0 (Touch.refl _ _)).ok y hy;exact⟨h.nk,h.vi,HT60.out.2 y hy⟩
     have HSA:Hid (∀w',Touch (fun _=>False) wr w'→StatesAt w' (.slice sa l.length sc) l):=fun w' t=>by
      have h:=OW.out
      rw [←HLL.out] at h
      exact⟨Qcg (Qab h t (fun _ _ h=>h)),fun x hx=>⟨(HAL.out x hx).2.1,(Qb0 (Qab (OB.out x hx) t (fun _ _ h=>h))).arg,(HAL.out x hx).2.2.1⟩⟩
     have HLS:Hid (l.length≤60∧∀x∈l,x.rs.length≤1000000):=⟨by rw [HLL.out];exact HS60.out.1,fun x hx=>Nat.le_trans (HAL.out x hx).2.2.2 (by decide)⟩
     have HLN:Hid (∀N:List WY,leadsY N me l=[]):=fun N=>Qhy (fun x hx=>(HAL.out x hx).1)
     refine wp_region_held_drew (S:=fun w'=>Touch (fun _=>False) wr w') (by kernel_rfl) s0 (fun hHeld=>?_)
     refine wpAnyH_take (i:=0) (oi:=⟨some 44,_,_,_,_,_⟩) (v:=.slice sa j sc) rfl (by kernel_rfl) (by kernel_rfl) (by kernel_rfl) (fun _ _ _ h=>h) (Or.inl ⟨by rfl,fun w hw=>by go_simp⟩) (by assumption) ?_
     simp only [Act.put,Qo4,Qo5,Qo6]
     refine wpAnyH_take (i:=1) (oi:=⟨some 45,_,_,_,_,_⟩) (v:=.pointer (some ⟨b0,1,none⟩)) rfl (by kernel_rfl) (by kernel_rfl) (by kernel_rfl) (fun _ _ _ h=>h) (Or.inl ⟨by rfl,fun w hw=>by go_simp⟩) (by assumption) ?_
     simp only [Act.put,Qo4,Qo5,Qo6]
     refine wpAnyH_take (i:=2) (oi:=⟨some 46,_,_,_,_,_⟩) (v:=.int .u32 area) rfl (by kernel_rfl) (by kernel_rfl) (by kernel_rfl) (fun _ _ _ h=>h) (Or.inl ⟨by rfl,fun w hw=>by go_simp⟩) (by assumption) ?_
     simp only [Act.put,Qo4,Qo5,Qo6]
     refine wpAnyH_take (i:=3) (oi:=⟨some 47,_,_,_,_,_⟩) (v:=.pointer (some ⟨b0,2,none⟩)) rfl (by kernel_rfl) (by kernel_rfl) (by kernel_rfl) (fun _ _ _ h=>h) (Or.inl ⟨by rfl,fun w hw=>by go_simp⟩) (by assumption) ?_
     simp only [Act.put,Qo4,Qo5,Qo6]
     refine wpAnyH_take (i:=4) (oi:=⟨some 48,_,_,_,_,_⟩) (v:=.int .u32 me) rfl (by kernel_rfl) (by kernel_rfl) (by kernel_rfl) (fun _ _ _ h=>h) (Or.inl ⟨by rfl,fun w hw=>by go_simp⟩) (by assumption) ?_
     simp only [Act.put,Qo4,Qo5,Qo6]
     refine wpAnyH_take (i:=5) (oi:=⟨some 49,_,_,_,_,_⟩) (v:=.pointer (some ⟨b0,3,none⟩)) rfl (by kernel_rfl) (by kernel_rfl) (by kernel_rfl) (fun _ _ _ h=>h) (Or.inl ⟨by rfl,fun w hw=>by go_simp⟩) (by assumption) ?_
     simp only [Act.put,Qo4,Qo5,Qo6]
     refine wpAnyH_take (i:=6) (oi:=⟨some 50,_,_,_,_,_⟩) (v:=.slice ba T.length bc) rfl (by kernel_rfl) (by kernel_rfl) (by kernel_rfl) (fun _ _ _ h=>h) (Or.inl ⟨by rfl,fun w hw=>by go_simp⟩) (by assumption) ?_
     simp only [Act.put,Qo4,Qo5,Qo6]
     refine wpAnyH_ready (rs:=[7]) (by kernel_rfl) (by simp) ?_
     refine AllReadyH.cons (o:=⟨some 51,_,_,_,_,_⟩) rfl (fun K hK=>?_) AllReadyH.nil
     go_simp
     refine Calls.mono (HWY) ?_
     rintro e y1 hq1
     obtain⟨vN,N,rfl,hN,hNx⟩:=hq1.out
     have s1:Touch (fun _=>False) wr y1:=s0.trans hN.b.t
     have HNR:=Qos hN hNx HTB.out
     have hNl:N.length≤60:=by have e:=congrArg List.length hNx;simp only [List.length_map] at e;have h:=HT60.out.1;omega
     have HRO:=Qcw sa sc l vN N me area y1 (HSA.out _ s1) HNR.1 HNR.2.1 HNR.2.2 HLS.out.1 hNl HLS.out.2
     rw [HLL.out] at HRO
     obtain⟨na,nc,rfl⟩:=Qal hN.b.own
     clear hN hNx HNR hNl hq1
     refine hK.out _ _ (by assumption) (fun hHeld=>?_)
     clear hK K
     refine wpAnyH_ready (rs:=[8]) (by kernel_rfl) (by simp) ?_
     refine AllReadyH.cons (o:=⟨some 52,_,_,_,_,_⟩) rfl (fun K hK=>?_) AllReadyH.nil
     go_simp
     refine Calls.mono (HRO) ?_
     rintro e y2 hq2
     obtain⟨n1,n2,N1,N2,L,rfl,h1,h2,hp,hs,hx1,hx2⟩:=hq2.out
     rw [HLN.out] at hp
     obtain rfl:=List.perm_nil.1 hp
     have s2:Touch (fun _=>False) wr y2:=s1.trans h1.b.t
     have HF1:Hid (∃a c,n1=.slice a 0 c):=Qda h1.b.own hx1
     have HF2:Hid (∃a c,n2=.slice a 0 c):=Qda h2.b.own hx2
     obtain⟨a1,c1,rfl⟩:=HF1.out
     obtain⟨a2,c2,rfl⟩:=HF2.out
     clear h1 h2 hp hs hx1 hx2 hq2 HF1 HF2
     refine hK.out _ _ (by assumption) (fun hHeld=>?_)
     clear hK K
     refine wpAnyH_take (i:=9) (oi:=⟨some 43,_,_,_,_,_⟩) (v:=.tuple #[.slice a1 0 c1,.slice a2 0 c2]) rfl (by kernel_rfl) (by kernel_rfl) (by kernel_rfl) (fun _ _ _ h=>h) (Or.inl ⟨by rfl,fun w hw=>by go_simp⟩) (by assumption) ?_
     simp only [Act.put,Qo4,Qo5,Qo6]
     refine wpAnyH_take (i:=10) (oi:=⟨some 53,_,_,_,_,_⟩) (v:=.slice a1 0 c1) rfl (by kernel_rfl) (by kernel_rfl) (by kernel_rfl) (fun _ _ _ h=>h) (Or.inl ⟨by rfl,fun w hw=>by go_simp⟩) (by assumption) ?_
     simp only [Act.put,Qo4,Qo5,Qo6]
     refine wpAnyH_take (i:=11) (oi:=⟨some 54,_,_,_,_,_⟩) (v:=.slice a2 0 c2) rfl (by kernel_rfl) (by kernel_rfl) (by kernel_rfl) (fun _ _ _ h=>h) (Or.inl ⟨by rfl,fun w hw=>by go_simp⟩) (by assumption) ?_
     simp only [Act.put,Qo4,Qo5,Qo6]
     refine wpAnyH_take (i:=12) (oi:=⟨some 6,_,_,_,_,_⟩) (v:=.slice a1 0 c1) rfl (by kernel_rfl) (by kernel_rfl) (by kernel_rfl) (fun _ _ _ h=>h) (Or.inl ⟨by rfl,fun w hw=>by go_simp⟩) (by assumption) ?_
     simp only [Act.put,Qo4,Qo5,Qo6]
     refine wpAnyH_take (i:=13) (oi:=⟨some 7,_,_,_,_,_⟩) (v:=.slice a2 0 c2) rfl (by kernel_rfl) (by kernel_rfl) (by kernel_rfl) (fun _ _ _ h=>h) (Or.inl ⟨by rfl,fun w hw=>by go_simp⟩) (by assumption) ?_
     simp only [Act.put,Qo4,Qo5,Qo6]
     refine wpAnyH_done (by kernel_rfl) ?_ _
     have HTT:Hid (Touch (fun _=>False) w y2):=HT0.out.trans (TW.out.trans s2)
     clear s0 s1 s2 hHeld d1 d2 d3 HRW HWY HRO
     go_wp2_with (go_at_call 10;refine (HW _).mono ?_;rintro e w2 ⟨rfl,t2⟩;have T2:Hid _:=t2;clear t2)
     go_ret
     exact⟨rfl,HTT.out.trans T2.out⟩
end Go.Proofs.YtldmkoogghemhaaGreat
