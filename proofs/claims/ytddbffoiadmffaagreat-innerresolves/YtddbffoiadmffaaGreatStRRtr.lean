import Derived.Test.YtddbffoiadmffaaGreatStRLink
namespace Go.Proofs.YtddbffoiadmffaaGreat
set_option maxHeartbeats 8000000
open Go.RowKit
set_option linter.unusedVariables false
set_option maxRecDepth 100000
attribute [local go_sem ↓] Go.wp_at_zero Go.wp_at_succ
theorem Tryz.infoL:(Tryz.prog.info? 115).map (fun i=>(i.zero,i.size,i.bytes))=some (some (.agg #[.int .u32 0,.int .u32 0,.int .u8 0,.int .u16 0]),4,12):=by kernel_rfl
structure RtrS (rs:List Int) (q:Option Nat) (ls:List LV) (k:Nat):Prop where
 out:(∃p,q=some p∧p=4+12*ls.length∧p≤rs.length∧parseLinks (rs.drop 4)=(parseLinks (rs.drop p)).map (ls ++ ·)∧k=rs.length-p+1)∨(q=none∧k=0∧decB 1 rs=none)
structure RtrR (N b g1 g2 g3:Nat) (rs:List Int) (FL:Int) (w0:World) (k:Nat) (wx:World):Prop where
 out:∃(q:Option Nat) (ls:List LV) (ra:Option Addr) (rc:Nat),Rdr N wx b rs q∧wx.cell? ⟨g1,0,none⟩=some (.pointer (some ⟨b,0,none⟩))∧OutB wx g3 ⟨FL,ls,0,[],0,false,0,0,[]⟩ (.slice ra ls.length rc) (.slice none 0 0) (.slice none 0 0)∧wx.ownsRow w0.heap.size 115 4 (.slice ra ls.length rc) ls.length (linksC ls)∧Touch (fun j=>j=b∨j=g3) w0 wx∧Room wx g2 9∧RtrS rs q ls k∧ls.length≤rs.length
theorem Qk1 {rs:List Int} (hb:∀z∈rs,0≤z∧z<256) (hl:rs.length<65536) (h:rs.length<4):decB 1 rs=none:=by
 cases hd:decB 1 rs with
 | none=>rfl
 | some B =>
  obtain⟨f,c1,c2,r,ls,rfl,-⟩:=Qej hb hl hd
  simp at h
  omega
theorem Qee {rs:List Int} (hb:∀z∈rs,0≤z∧z<256) (hl:rs.length<65536) (h:parseLinks (rs.drop 4)=none):decB 1 rs=none:=by
 cases hd:decB 1 rs with
 | none=>rfl
 | some B =>
  obtain⟨f,c1,c2,r,ls,rfl,h1,-⟩:=Qej hb hl hd
  simp only [List.drop] at h
  rw [h1] at h
  cases h
theorem Qgo {rs:List Int} (hb:∀z∈rs,0≤z∧z<256) (hl:rs.length<65536) (h:numAt rs (nextAt rs (some 0) 1) 1≠0):decB 1 rs=none:=by
 cases hd:decB 1 rs with
 | none=>rfl
 | some B =>
  obtain⟨f,c1,c2,r,ls,rfl,h1,-⟩:=Qej hb hl hd
  rw [Qa4 (by simp),Qa7 (by simp)] at h
  simp [numOf] at h
theorem Qgy {rs:List Int} {ls:List LV} (hb:∀z∈rs,0≤z∧z<256) (hl:rs.length<65536) (hp:parseLinks (rs.drop 4)=some ls) (h:(ls.length:Int)≠numAt rs (nextAt rs (nextAt rs (some 0) 1) 1) 2):decB 1 rs=none:=by
 cases hd:decB 1 rs with
 | none=>rfl
 | some B =>
  obtain⟨f,c1,c2,r,ls',rfl,h1,h2⟩:=Qej hb hl hd
  rw [Qas,Qa4 (by simp),Qa7 (by simp)] at h
  simp only [List.drop,List.take] at h hp
  rw [h1] at hp
  cases hp
  exact absurd h2 h
theorem Qp0 {rs:List Int} {ls:List LV} (hb:∀z∈rs,0≤z∧z<256) (h4:4≤rs.length) (hz:numAt rs (nextAt rs (some 0) 1) 1=0) (hp:parseLinks (rs.drop 4)=some ls) (h:(ls.length:Int)=numAt rs (nextAt rs (nextAt rs (some 0) 1) 1) 2) :
  decB 1 rs=some ⟨numAt rs (some 0) 1,ls,0,[],0,false,0,0,[]⟩:=by
 obtain⟨f,z,c1,c2,r,rfl⟩:=list4 h4
 rw [Qa4 (by simp),Qa7 (by simp)] at hz
 rw [Qas,Qa4 (by simp),Qa7 (by simp)] at h
 rw [Qa7 (by simp)]
 simp only [List.drop,List.take,numOf1] at h hp hz ⊢
 subst hz
 exact Qp1 hb hp h
theorem Qov {rs:List Int} (hb:∀z∈rs,0≤z∧z<256) (hl:rs.length<65536):∃k,RtrS rs (nextAt rs (nextAt rs (nextAt rs (some 0) 1) 1) 2) [] k:=by
 rw [Qas,Qas]
 by_cases h:4≤rs.length
 ·exact⟨_,⟨Or.inl ⟨4,Qa4 (by omega),rfl,h,by simp,rfl⟩⟩⟩
 ·exact⟨0,⟨Or.inr ⟨Qev (by omega),rfl,Qk1 hb hl (by omega)⟩⟩⟩
theorem Qqu {rs:List Int} {ls:List LV} {k p:Nat} {x:LV} (hb:∀z∈rs,0≤z∧z<256) (hl:rs.length<65536) (hp:p=4+12*ls.length) (hlt:p<rs.length) (hr:parseLinks (rs.drop 4)=(parseLinks (rs.drop p)).map (ls ++ ·)) (hk:k=rs.length-p+1)
  (hx:p+12≤rs.length→takeLink (rs.drop p)=some x):∃k',k'<k∧RtrS rs (nextAt rs (some p) 12) (ls++[x]) k':=by
 by_cases h:p+12≤rs.length
 ·refine⟨rs.length-(p+12)+1,by omega,⟨Or.inl ⟨p+12,Qa4 h,by simp;omega,h,?_,rfl⟩⟩⟩
  rw [hr,Qd8 (by rw [List.length_drop];omega),hx h,List.drop_drop]
  dsimp only
  rw [Option.map_map]
  congr 1
  funext t
  simp
 ·refine⟨0,by omega,⟨Or.inr ⟨Qev h,rfl,Qee hb hl ?_⟩⟩⟩
  rw [hr,Qc9 (by rw [List.length_drop];omega) (by rw [List.length_drop];omega)]
  rfl
theorem Qvk {rs:List Int} {ls:List LV} {p:Nat} (hb:∀z∈rs,0≤z∧z<256) (hl:rs.length<65536) (hlt:p<rs.length) (hr:parseLinks (rs.drop 4)=(parseLinks (rs.drop p)).map (ls ++ ·))
  (hx:p+12≤rs.length→takeLink (rs.drop p)=none):decB 1 rs=none:=by
 refine Qee hb hl ?_
 rw [hr]
 by_cases h:p+12≤rs.length
 ·rw [Qd8 (by rw [List.length_drop];omega),hx h]
  rfl
 ·rw [Qc9 (by rw [List.length_drop];omega) (by rw [List.length_drop];omega)]
  rfl
theorem Qtt {rs:List Int} {ls:List LV} (hr:parseLinks (rs.drop 4)=(parseLinks (rs.drop rs.length)).map (ls ++ ·)):parseLinks (rs.drop 4)=some ls:=by
 rw [hr,List.drop_length]
 simp [parseLinks]
theorem Qrt (N b:Nat) (rs:List Int) (w:World) (h:Rdr N w b rs (some 0)) (hN:N≤w.heap.size) (hc:rs.length<65536) :
  Calls Tryz.prog 207 #[.agg #[.pointer (some ⟨b,0,none⟩)]] w (RdPost 1 N b rs w):=by
 have hb:=h.low
 have HBy:Hid (∀z∈rs,0≤z∧z<256):=h.byte
 have hbF:=Qcm h.byte (some 0) 1
 have hbC:=Qcm h.byte (nextAt rs (nextAt rs (some 0) 1) 1) 2
 have HM:=fun w h=>rnum1 N b rs (some 0) w h
 have HZ:=fun w h=>Qj8 N b rs (nextAt rs (some 0) 1) w h
 have HC:=fun w h=>rnum2 N b rs (nextAt rs (nextAt rs (some 0) 1) 1) w h
 have NOZ:Hid (numAt rs (nextAt rs (some 0) 1) 1≠0→decB 1 rs=none):=Qgo h.byte hc
 have NOC:Hid (∀ls:List LV,parseLinks (rs.drop 4)=some ls→(ls.length:Int)≠numAt rs (nextAt rs (nextAt rs (some 0) 1) 1) 2→decB 1 rs=none):=fun ls h1 h2=>Qgy h.byte hc h1 h2
 have ALL:Hid (∀ls:List LV,4≤rs.length→numAt rs (nextAt rs (some 0) 1) 1=0→parseLinks (rs.drop 4)=some ls→(ls.length:Int)=numAt rs (nextAt rs (nextAt rs (some 0) 1) 1) 2→decB 1 rs=some ⟨numAt rs (some 0) 1,ls,0,[],0,false,0,0,[]⟩):=fun ls h1 h2 h3 h4=>Qp0 h.byte h1 h2 h3 h4
 obtain⟨k0,hk0⟩:=Qov (rs:=rs) h.byte hc
 have HK0:Hid (RtrS rs (nextAt rs (nextAt rs (nextAt rs (some 0) 1) 1) 2) [] k0):=hk0
 generalize numAt rs (some 0) 1=FL at *
 generalize nextAt rs (some 0) 1=q1 at *
 generalize numAt rs q1 1=Z at *
 generalize nextAt rs q1 1=q2 at *
 generalize numAt rs q2 2=CT at *
 generalize nextAt rs q2 2=q3 at *
 have hwF:IntKind.u8.wrap FL=FL:=by simp [IntKind.wrap,IntKind.bits,IntKind.signed];omega
 have hwC:IntKind.i64.wrap CT=CT:=by simp [IntKind.wrap,IntKind.bits,IntKind.signed];omega
 clear hk0 hbF hbC
 go_enter Tryz.func207,Tryz.ntmps207
 go_wp2_with fail
 refine Calls.mono (HM _ (h.keep (((Touch.refl _ _).alloc _).alloc _))) ?_
 rintro e w0 ⟨rfl,h0,t0⟩
 have R0:Hid (Room w0 (w.heap.size+1) 9):=by
  have:=(Room.new (w.alloc (.cells #[.pointer (some ⟨b,0,none⟩)] 298)) #[.int .u8 0,.slice none 0 0,.int .u32 0,.slice none 0 0,.int .u32 0,.bool false,.int .u32 0,.int .u32 0,.slice none 0 0] 119).touch t0 (by simp;omega)
  show Room _ _ _
  simpa using this
 have c0:w0.cell? ⟨w.heap.size,0,none⟩=some (.pointer (some ⟨b,0,none⟩)):=(t0.cell (p:=⟨w.heap.size,0,none⟩) (by simp;omega) (by show ¬w.heap.size=b;omega)).trans (by simp [go_sem])
 have T0:Hid (Touch (fun k=>k=b) w w0):=(((Touch.refl _ w).alloc _).alloc _).trans t0
 have hs0:w.heap.size+1<w0.heap.size:=by have:=t0.size;simp at this;omega
 have hlt0:w.heap.size<w0.heap.size:=by omega
 have hne0:¬w.heap.size=w0.heap.size:=by omega
 have hne0':¬w0.heap.size=w.heap.size:=by omega
 clear t0 HM h
 go_wp2_with fail
 refine Calls.mono (HZ _ (h0.keep ((Touch.refl _ _).alloc _))) ?_
 rintro e w1 (⟨rfl,hZ,h1,t1⟩|⟨rfl,hZ,t1⟩)
 rotate_left
 ·exact⟨rfl,Or.inr ⟨rfl,(T0.out.alloc _).trans t1,NOZ.out hZ⟩⟩
 have hbb:b<w0.heap.size:=h0.lt
 have O1:Hid (OutB w1 w0.heap.size ⟨FL,[],0,[],0,false,0,0,[]⟩ (.slice none 0 0) (.slice none 0 0) (.slice none 0 0)):=OutB.kept (X:=fun k=>k=w0.heap.size) (OutB.new w0 ⟨FL,[],0,[],0,false,0,0,[]⟩ (.slice none 0 0) (.slice none 0 0) (.slice none 0 0) 119) (Touch.mono t1 (fun i _ e hx=>by omega)) rfl
 have c1:w1.cell? ⟨w.heap.size,0,none⟩=some (.pointer (some ⟨b,0,none⟩)):=(t1.cell (p:=⟨w.heap.size,0,none⟩) (by simp;omega) (by show ¬w.heap.size=b;omega)).trans (((Touch.refl _ _).alloc _).cellN c0)
 have R1:Hid (Room w1 (w.heap.size+1) 9):=(R0.out.keep ((Touch.refl _ _).alloc _)).touch t1 (by show ¬w.heap.size+1=b;omega)
 have T1:Hid (Touch (fun k=>k=b) w w1):=(T0.out.alloc _).trans t1
 have HZ0:Hid (Z=0):=hZ
 clear t1 HZ h0 c0 R0 T0 hZ
 go_wp2_with fail
 refine Calls.mono (HC _ h1) ?_
 rintro e w2 ⟨rfl,h2,t2⟩
 have O2:OutB w2 w0.heap.size ⟨FL,[],0,[],0,false,0,0,[]⟩ (.slice none 0 0) (.slice none 0 0) (.slice none 0 0):=OutB.kept (X:=fun k=>k=w0.heap.size) O1.out (Touch.mono t2 (fun i _ e hx=>by omega)) rfl
 have c2:w2.cell? ⟨w.heap.size,0,none⟩=some (.pointer (some ⟨b,0,none⟩)):=(t2.cell (p:=⟨w.heap.size,0,none⟩) (Qaa c1) (by show ¬w.heap.size=b;omega)).trans c1
 have HW2:Hid (w0.heap.size<w2.heap.size):=O2.lt
 have REL:Hid (RtrR N b w.heap.size (w.heap.size+1) w0.heap.size rs FL w2 k0 w2) :=
  ⟨q3,[],none,0,h2,c2,O2,World.ownsRow_nil _ _ _ _,Touch.refl _ _,R1.out.touch t2 (by show ¬w.heap.size+1=b;omega),HK0.out,Nat.zero_le _⟩
 have T0:Hid (Touch (fun k=>k=b) w w2):=T1.out.trans t2
 clear h1 h2 c1 c2 R1 T1 O1 O2 HK0 t2 HC
 go_wp2_with fail
 generalize w0.heap.size=g3 at *
 have HG3:Hid (w.heap.size+1<g3):=hs0
 have HN:Hid (N≤w.heap.size):=hN
 have HB:Hid (b<N):=hb
 have hn1:Hid (¬w.heap.size=b):=by show ¬_;omega
 have hn2:Hid (¬w.heap.size+1=b):=by show ¬_;omega
 have hn3:Hid (¬g3=b):=by show ¬_;omega
 generalize hg2:w.heap.size+1=g2 at *
 have HG2:Hid (w.heap.size+1=g2):=hg2
 generalize hg1:w.heap.size=g1 at *
 have HG1:Hid (w.heap.size=g1):=hg1
 clear hg1 hg2 hs0 hlt0 hne0 hne0' hN hb hbb
 have hr13:g1≠g3:=by have:=HG3.out;have:=HG2.out;omega
 have hr23:g2≠g3:=by have:=HG3.out;have:=HG2.out;omega
 go_loopg [16] k0 (fun k _ wx=>RtrR N b g1 g2 g3 rs FL w2 k wx)
 case atStart=>exact REL.out
 case round =>
  clear REL
  obtain⟨q,ls,ra,rc,hrd,y0,oB,own,t2,rm,ns,wl⟩:=hrel.out
  have HRD:Hid (Rdr N wr b rs q):=hrd
  have HOB:Hid (OutB wr g3 ⟨FL,ls,0,[],0,false,0,0,[]⟩ (.slice ra ls.length rc) (.slice none 0 0) (.slice none 0 0)):=oB
  have HOW:Hid (wr.ownsRow w2.heap.size 115 4 (.slice ra ls.length rc) ls.length (linksC ls)):=own
  have HT2:Hid (Touch (fun j=>j=b∨j=g3) w2 wr):=t2
  have HRM:Hid (Room wr g2 9):=rm
  have HWL:Hid (ls.length≤rs.length):=wl
  clear hrd oB own t2 rm wl hrel
  rcases ns.out with⟨p,rfl,hp,hpl,hrr,hk⟩|⟨rfl,hk,hbad⟩
  ·by_cases hlt:p<rs.length
   ·have hpos:(0:Int)<(rs.length:Int)-(p:Int):=by omega
    have HLF:=fun w h=>Qdo N b p rs w h
    have HNX:Hid (∀x:LV,(p+12≤rs.length→takeLink (rs.drop p)=some x)→∃k',k'<gk∧RtrS rs (nextAt rs (some p) 12) (ls++[x]) k'):=fun x hx=>Qqu HBy.out hc hp hlt hrr hk hx
    have HNO:Hid ((p+12≤rs.length→takeLink (rs.drop p)=none)→decB 1 rs=none):=fun hx=>Qvk HBy.out hc hlt hrr hx
    generalize (rs.length:Int)-(p:Int)=lf at hpos HLF
    have HWX:Hid (ls.length<rs.length):=by show _<_;omega
    clear hp hpl hrr hk hlt ns
    go_upto_region 5 with (go_at_call 179;refine Calls.mono (HLF _ HRD.out) ?_;rintro e wl ⟨rfl,nl,hwl⟩;have tl:Touch (fun _=>False) wr wl:=hwl ▸ (Touch.refl _ _).drewN nl;clear hwl)
    have y1:wl.drew.cell? ⟨g1,0,none⟩=some (.pointer (some ⟨b,0,none⟩)):=tl.cellN y0
    have h1:Rdr N wl.drew b rs (some p):=(HRD.out.keep tl).keep ((Touch.refl _ _).drew)
    have O1:Hid (OutB wl.drew g3 ⟨FL,ls,0,[],0,false,0,0,[]⟩ (.slice ra ls.length rc) (.slice none 0 0) (.slice none 0 0)):=(HOB.out.keep tl).keep ((Touch.refl _ _).drew)
    have d1:wl.drew.cell? ⟨g3,1,none⟩=some (.slice ra ls.length rc):=O1.out.bd.c1
    have TL:Hid (Touch (fun _=>False) wr wl.drew):=tl.drew
    have hNl:N≤wl.drew.heap.size:=by have h1:=O1.out.lt;have:=HG3.out;have:=HG2.out;have:=HN.out;omega
    clear HLF hpos tl y0
    refine wp_region_held_drew (S:=fun w'=>w'.cell? ⟨g1,0,none⟩=some (.pointer (some ⟨b,0,none⟩))) (by kernel_rfl) y1 (fun hHeld=>?_)
    refine wpAnyH_take (i:=0) (oi:=⟨some 20,_,_,_,_,_⟩) (v:=.pointer (some ⟨g3,1,none⟩)) rfl (by kernel_rfl) (by kernel_rfl) (by kernel_rfl) (fun _ _ _ h=>h) (Or.inl ⟨by rfl,fun w hw=>by go_simp⟩) (by assumption) ?_
    simp only [Act.put,Qw2,Qw3,Qw4]
    refine wpAnyH_take (i:=2) (oi:=⟨some 22,_,_,_,_,_⟩) (v:=.agg #[.pointer (some ⟨b,0,none⟩)]) rfl (by kernel_rfl) (by kernel_rfl) (by kernel_rfl) (fun _ _ _ h=>h) (Or.inl ⟨by rfl,fun w hw=>by go_simp⟩) (by assumption) ?_
    simp only [Act.put,Qw2,Qw3,Qw4]
    refine wpAnyH_ready (rs:=[1,3]) (by kernel_rfl) (by simp) ?_
    refine AllReadyH.cons rfl (fun K hK=>?_) (AllReadyH.cons rfl (fun K hK=>?_) AllReadyH.nil)
    ·go_simp
     refine hK.out _ _ (y1) (fun hHeld=>?_)
     clear hK K
     refine wpAnyH_ready (rs:=[3]) (by kernel_rfl) (by simp) ?_
     refine AllReadyH.cons rfl (fun K hK=>?_) AllReadyH.nil
     go_simp
     refine Calls.mono (Qgz N b p rs _ h1 hNl) ?_
     rintro e wx (⟨x,rfl,hx,tx,hxx⟩|⟨rfl,tx,hxx⟩)
     rotate_left
     ·exact⟨rfl,Or.inr ⟨rfl,((T0.out.trans' HT2.out (fun i hi e=>by have:=HG3.out;have:=HG2.out;have:=HG1.out;omega)).trans (Touch.mono TL.out (fun _ _ h=>h.elim))).trans tx,HNO.out hxx⟩⟩
     have yx:=(tx.cell (p:=⟨g1,0,none⟩) (Qaa y1) hn1.out).trans y1
     have Ox:Hid (OutB wx g3 ⟨FL,ls,0,[],0,false,0,0,[]⟩ (.slice ra ls.length rc) (.slice none 0 0) (.slice none 0 0)):=OutB.kept (X:=fun k=>k=g3) O1.out (Touch.mono tx (fun i _ e hx=>by have:=hn3.out;omega)) rfl
     have dx:wx.cell? ⟨g3,1,none⟩=some (.slice ra ls.length rc):=Ox.out.bd.c1
     have Hx:Hid (Rdr N wx b rs (nextAt rs (some p) 12)):=hx
     have HNX2:Hid (∃k',k'<gk∧RtrS rs (nextAt rs (some p) 12) (ls++[x]) k'):=HNX.out x hxx
     have Tx:Hid (Touch (fun k=>k=b) wl.drew wx):=tx
     have yxa:(wx.alloc (.cells #[.int .u32 x.id,.int .u32 x.data,.int .u8 x.typ,.int .u16 x.cost] 115)).cell? ⟨g1,0,none⟩=some (.pointer (some ⟨b,0,none⟩)):=((Touch.refl _ _).alloc _).cellN yx
     have OWx:Hid ((wx.alloc (.cells #[.int .u32 x.id,.int .u32 x.data,.int .u8 x.typ,.int .u16 x.cost] 115)).ownsRow w2.heap.size 115 4 (.slice ra ls.length rc) ls.length (linksC ls)):=Qab (Qab (Qab HOW.out TL.out (fun _ _ h=>h)) tx (fun k hk e=>by have:=(HOW.out.lt k hk).1;have:=HW2.out;have:=HG3.out;have:=HG2.out;have:=HG1.out;have:=HN.out;have:=HB.out;omega)) ((Touch.refl (fun _=>False) wx).alloc _) (fun _ _ h=>h)
     have hbs:w2.heap.size≤wx.heap.size:=by have h1:=HT2.out.size;have h2:=TL.out.size;have h3:=tx.size;omega
     clear tx hx hxx
     refine hK.out _ _ (yx) (fun hHeld=>?_)
     clear hK K
     refine wpAnyH_ready (rs:=[4]) (by kernel_rfl) (by simp) ?_
     refine AllReadyH.cons rfl (fun K hK=>?_) AllReadyH.nil
     go_simp
     refine hK.out _ _ (yxa) (fun hHeld=>?_)
     clear hK K
     refine wpAnyH_ready (rs:=[5]) (by kernel_rfl) (by simp) ?_
     refine AllReadyH.cons rfl (fun K hK=>?_) AllReadyH.nil
     refine Qgb (by rfl) (.tmp 21) (.tmp 24) 116 (by rfl) w2.heap.size 115 (.agg #[.int .u32 0,.int .u32 0,.int .u8 0,.int .u16 0]) 4 12 Tryz.underlying116 Tryz.infoL rfl (by decide) (by decide) (.slice ra ls.length rc) ls.length (linksC ls) (by rfl) OWx.out ⟨wx.heap.size,0,none⟩ 1 1 [.int .u32 x.id,.int .u32 x.data,.int .u8 x.typ,.int .u16 x.cost] (by rfl) rfl (fun j u hj=>by rw [Qae];match j,hj with|0,hj=>(simp at hj;subst hj;simp [go_sem])|1,hj=>(simp at hj;subst hj;simp [go_sem])|2,hj=>(simp at hj;subst hj;simp [go_sem])|3,hj=>(simp at hj;subst hj;simp [go_sem])|j+4,hj=>simp at hj) (by simp [Value.oneCell']) (by have:=HWX.out;omega) (by simp;omega) ?_
     intro v' wv ov tv
     obtain⟨va,vc,rfl⟩:=Qah ov
     have yv:=(tv.cell (p:=⟨g1,0,none⟩) (Qaa yxa) (fun e=>by have h1:w2.heap.size≤g1:=(OWx.out.lt _ e).1;have:=HW2.out;have:=HG3.out;have:=HG2.out;omega)).trans yxa
     have hnb:∀k,k≤g3→¬(Value.slice ra ls.length rc).ownBlock=some k:=fun k hk e=>by have:=(OWx.out.lt _ e).1;have:=HW2.out;omega
     have Ov:OutB wv g3 ⟨FL,ls,0,[],0,false,0,0,[]⟩ (.slice ra ls.length rc) (.slice none 0 0) (.slice none 0 0):=OutB.kept (X:=fun k=>k=g3) (Ox.out.keep ((Touch.refl _ _).alloc _)) (Touch.mono tv (fun i _ e hx=>hnb i (by omega) e)) rfl
     have Hv:Hid (Rdr N wv b rs (nextAt rs (some p) 12)):=(Hx.out.keep ((Touch.refl _ _).alloc _)).touch tv (fun k hk=>hnb k (by have:=HG3.out;have:=HG2.out;have:=HG1.out;have:=HN.out;omega))
     have Rv:Hid (Room wv g2 9):=(((HRM.out.keep TL.out).touch Tx.out hn2.out).keep ((Touch.refl _ _).alloc _)).touch tv (hnb g2 (by have:=HG3.out;omega))
     have Tv:Hid (Touch (fun j=>j=b∨j=g3) w2 wv):=(((HT2.out.trans (Touch.mono TL.out (fun _ _ h=>h.elim))).trans (Touch.mono Tx.out (fun _ _ h=>Or.inl h))).alloc _).trans' tv (fun i hi e=>by have h1:w2.heap.size≤i:=(OWx.out.lt _ e).1;omega)
     have OV:Hid (OutB wv g3 ⟨FL,ls,0,[],0,false,0,0,[]⟩ (.slice ra ls.length rc) (.slice none 0 0) (.slice none 0 0)):=Ov
     have OWv:Hid (wv.ownsRow w2.heap.size 115 4 (.slice va (ls.length+1) vc) (ls.length+1) (linksC ls++[.int .u32 x.id,.int .u32 x.data,.int .u8 x.typ,.int .u16 x.cost])):=ov
     have d1v:wv.cell? ⟨g3,1,none⟩=some (.slice ra ls.length rc):=Ov.bd.c1
     have f1v:wv.frozen? ⟨g3,1,none⟩=false:=Ov.fz 1 (by omega)
     clear tv ov Ov Tx Hx OWx Ox hnb
     refine hK.out _ _ (yv) (fun hHeld=>?_)
     clear hK K
     refine wpAnyH_take (i:=6) (oi:=⟨some 26,_,_,_,_,_⟩) (v:=.pointer (some ⟨g3,1,none⟩)) rfl (by kernel_rfl) (by kernel_rfl) (by kernel_rfl) (fun _ _ _ h=>h) (Or.inl ⟨by rfl,fun w hw=>by go_simp⟩) (by assumption) ?_
     simp only [Act.put]
     refine wpAnyH_ready (rs:=[7]) (by kernel_rfl) (by simp) ?_
     refine AllReadyH.cons rfl (fun K hK=>?_) AllReadyH.nil
     go_simp
     refine hK.out _ _ ((Qaz hr13 0 1 _).trans yv) (fun hHeld=>?_)
     clear hK K
     refine wpAnyH_done (by kernel_rfl) ?_ _
     have YV:=(Qaz hr13 0 1 (.slice va (ls.length+1) vc)).trans yv
     clear d1v f1v yv yxa yx dx d1 y1 h1 O1
     go_wp2_with fail
     obtain⟨k',hk',ns'⟩:=HNX2.out
     go_roundg k'
     case measure=>exact hk'
     case rel =>
      have e1:(ls++[x]).length=ls.length+1:=by simp
      refine⟨_,ls++[x],va,vc,?_,YV,?_,?_,?_,?_,ns',?_⟩
      ·exact Hv.out.touch (Touch.setCell (F:=fun k=>k=g3) (p:=⟨g3,1,none⟩) (Touch.refl _ _) (Or.inl rfl) _) (fun k hk e=>by have:=HG3.out;have:=HG2.out;have:=HN.out;omega)
      ·rw [e1];exact OV.out.row1 (ls++[x]) _
      ·rw [e1,Qcg];exact Qa1 OWv.out HW2.out _
      ·exact Tv.out.setCell (Or.inl (Or.inr rfl)) _
      ·exact Rv.out.touch (Touch.setCell (F:=fun k=>k=g3) (p:=⟨g3,1,none⟩) (Touch.refl _ _) (Or.inl rfl) _) (fun e=>hr23 e)
      ·rw [e1];have:=HWX.out;omega
    ·go_simp
     refine Calls.mono (Qgz N b p rs _ h1 hNl) ?_
     rintro e wx (⟨x,rfl,hx,tx,hxx⟩|⟨rfl,tx,hxx⟩)
     rotate_left
     ·exact⟨rfl,Or.inr ⟨rfl,((T0.out.trans' HT2.out (fun i hi e=>by have:=HG3.out;have:=HG2.out;have:=HG1.out;omega)).trans (Touch.mono TL.out (fun _ _ h=>h.elim))).trans tx,HNO.out hxx⟩⟩
     have yx:=(tx.cell (p:=⟨g1,0,none⟩) (Qaa y1) hn1.out).trans y1
     have Ox:Hid (OutB wx g3 ⟨FL,ls,0,[],0,false,0,0,[]⟩ (.slice ra ls.length rc) (.slice none 0 0) (.slice none 0 0)):=OutB.kept (X:=fun k=>k=g3) O1.out (Touch.mono tx (fun i _ e hx=>by have:=hn3.out;omega)) rfl
     have dx:wx.cell? ⟨g3,1,none⟩=some (.slice ra ls.length rc):=Ox.out.bd.c1
     have Hx:Hid (Rdr N wx b rs (nextAt rs (some p) 12)):=hx
     have HNX2:Hid (∃k',k'<gk∧RtrS rs (nextAt rs (some p) 12) (ls++[x]) k'):=HNX.out x hxx
     have Tx:Hid (Touch (fun k=>k=b) wl.drew wx):=tx
     have yxa:(wx.alloc (.cells #[.int .u32 x.id,.int .u32 x.data,.int .u8 x.typ,.int .u16 x.cost] 115)).cell? ⟨g1,0,none⟩=some (.pointer (some ⟨b,0,none⟩)):=((Touch.refl _ _).alloc _).cellN yx
     have OWx:Hid ((wx.alloc (.cells #[.int .u32 x.id,.int .u32 x.data,.int .u8 x.typ,.int .u16 x.cost] 115)).ownsRow w2.heap.size 115 4 (.slice ra ls.length rc) ls.length (linksC ls)):=Qab (Qab (Qab HOW.out TL.out (fun _ _ h=>h)) tx (fun k hk e=>by have:=(HOW.out.lt k hk).1;have:=HW2.out;have:=HG3.out;have:=HG2.out;have:=HG1.out;have:=HN.out;have:=HB.out;omega)) ((Touch.refl (fun _=>False) wx).alloc _) (fun _ _ h=>h)
     have hbs:w2.heap.size≤wx.heap.size:=by have h1:=HT2.out.size;have h2:=TL.out.size;have h3:=tx.size;omega
     clear tx hx hxx
     refine hK.out _ _ (yx) (fun hHeld=>?_)
     clear hK K
     refine wpAnyH_ready (rs:=[1,4]) (by kernel_rfl) (by simp) ?_
     refine AllReadyH.cons rfl (fun K hK=>?_) (AllReadyH.cons rfl (fun K hK=>?_) AllReadyH.nil)
     ·go_simp
      refine hK.out _ _ (yx) (fun hHeld=>?_)
      clear hK K
      refine wpAnyH_ready (rs:=[4]) (by kernel_rfl) (by simp) ?_
      refine AllReadyH.cons rfl (fun K hK=>?_) AllReadyH.nil
      go_simp
      refine hK.out _ _ (yxa) (fun hHeld=>?_)
      clear hK K
      refine wpAnyH_ready (rs:=[5]) (by kernel_rfl) (by simp) ?_
      refine AllReadyH.cons rfl (fun K hK=>?_) AllReadyH.nil
      refine Qgb (by rfl) (.tmp 21) (.tmp 24) 116 (by rfl) w2.heap.size 115 (.agg #[.int .u32 0,.int .u32 0,.int .u8 0,.int .u16 0]) 4 12 Tryz.underlying116 Tryz.infoL rfl (by decide) (by decide) (.slice ra ls.length rc) ls.length (linksC ls) (by rfl) OWx.out ⟨wx.heap.size,0,none⟩ 1 1 [.int .u32 x.id,.int .u32 x.data,.int .u8 x.typ,.int .u16 x.cost] (by rfl) rfl (fun j u hj=>by rw [Qae];match j,hj with|0,hj=>(simp at hj;subst hj;simp [go_sem])|1,hj=>(simp at hj;subst hj;simp [go_sem])|2,hj=>(simp at hj;subst hj;simp [go_sem])|3,hj=>(simp at hj;subst hj;simp [go_sem])|j+4,hj=>simp at hj) (by simp [Value.oneCell']) (by have:=HWX.out;omega) (by simp;omega) ?_
      intro v' wv ov tv
      obtain⟨va,vc,rfl⟩:=Qah ov
      have yv:=(tv.cell (p:=⟨g1,0,none⟩) (Qaa yxa) (fun e=>by have h1:w2.heap.size≤g1:=(OWx.out.lt _ e).1;have:=HW2.out;have:=HG3.out;have:=HG2.out;omega)).trans yxa
      have hnb:∀k,k≤g3→¬(Value.slice ra ls.length rc).ownBlock=some k:=fun k hk e=>by have:=(OWx.out.lt _ e).1;have:=HW2.out;omega
      have Ov:OutB wv g3 ⟨FL,ls,0,[],0,false,0,0,[]⟩ (.slice ra ls.length rc) (.slice none 0 0) (.slice none 0 0):=OutB.kept (X:=fun k=>k=g3) (Ox.out.keep ((Touch.refl _ _).alloc _)) (Touch.mono tv (fun i _ e hx=>hnb i (by omega) e)) rfl
      have Hv:Hid (Rdr N wv b rs (nextAt rs (some p) 12)):=(Hx.out.keep ((Touch.refl _ _).alloc _)).touch tv (fun k hk=>hnb k (by have:=HG3.out;have:=HG2.out;have:=HG1.out;have:=HN.out;omega))
      have Rv:Hid (Room wv g2 9):=(((HRM.out.keep TL.out).touch Tx.out hn2.out).keep ((Touch.refl _ _).alloc _)).touch tv (hnb g2 (by have:=HG3.out;omega))
      have Tv:Hid (Touch (fun j=>j=b∨j=g3) w2 wv):=(((HT2.out.trans (Touch.mono TL.out (fun _ _ h=>h.elim))).trans (Touch.mono Tx.out (fun _ _ h=>Or.inl h))).alloc _).trans' tv (fun i hi e=>by have h1:w2.heap.size≤i:=(OWx.out.lt _ e).1;omega)
      have OV:Hid (OutB wv g3 ⟨FL,ls,0,[],0,false,0,0,[]⟩ (.slice ra ls.length rc) (.slice none 0 0) (.slice none 0 0)):=Ov
      have OWv:Hid (wv.ownsRow w2.heap.size 115 4 (.slice va (ls.length+1) vc) (ls.length+1) (linksC ls++[.int .u32 x.id,.int .u32 x.data,.int .u8 x.typ,.int .u16 x.cost])):=ov
      have d1v:wv.cell? ⟨g3,1,none⟩=some (.slice ra ls.length rc):=Ov.bd.c1
      have f1v:wv.frozen? ⟨g3,1,none⟩=false:=Ov.fz 1 (by omega)
      clear tv ov Ov Tx Hx OWx Ox hnb
      refine hK.out _ _ (yv) (fun hHeld=>?_)
      clear hK K
      refine wpAnyH_take (i:=6) (oi:=⟨some 26,_,_,_,_,_⟩) (v:=.pointer (some ⟨g3,1,none⟩)) rfl (by kernel_rfl) (by kernel_rfl) (by kernel_rfl) (fun _ _ _ h=>h) (Or.inl ⟨by rfl,fun w hw=>by go_simp⟩) (by assumption) ?_
      simp only [Act.put]
      refine wpAnyH_ready (rs:=[7]) (by kernel_rfl) (by simp) ?_
      refine AllReadyH.cons rfl (fun K hK=>?_) AllReadyH.nil
      go_simp
      refine hK.out _ _ ((Qaz hr13 0 1 _).trans yv) (fun hHeld=>?_)
      clear hK K
      refine wpAnyH_done (by kernel_rfl) ?_ _
      have YV:=(Qaz hr13 0 1 (.slice va (ls.length+1) vc)).trans yv
      clear d1v f1v yv yxa yx dx d1 y1 h1 O1
      go_wp2_with fail
      obtain⟨k',hk',ns'⟩:=HNX2.out
      go_roundg k'
      case measure=>exact hk'
      case rel =>
       have e1:(ls++[x]).length=ls.length+1:=by simp
       refine⟨_,ls++[x],va,vc,?_,YV,?_,?_,?_,?_,ns',?_⟩
       ·exact Hv.out.touch (Touch.setCell (F:=fun k=>k=g3) (p:=⟨g3,1,none⟩) (Touch.refl _ _) (Or.inl rfl) _) (fun k hk e=>by have:=HG3.out;have:=HG2.out;have:=HN.out;omega)
       ·rw [e1];exact OV.out.row1 (ls++[x]) _
       ·rw [e1,Qcg];exact Qa1 OWv.out HW2.out _
       ·exact Tv.out.setCell (Or.inl (Or.inr rfl)) _
       ·exact Rv.out.touch (Touch.setCell (F:=fun k=>k=g3) (p:=⟨g3,1,none⟩) (Touch.refl _ _) (Or.inl rfl) _) (fun e=>hr23 e)
       ·rw [e1];have:=HWX.out;omega
     ·go_simp
      refine hK.out _ _ (yxa) (fun hHeld=>?_)
      clear hK K
      refine wpAnyH_ready (rs:=[1]) (by kernel_rfl) (by simp) ?_
      refine AllReadyH.cons rfl (fun K hK=>?_) AllReadyH.nil
      have dxa:(wx.alloc (.cells #[.int .u32 x.id,.int .u32 x.data,.int .u8 x.typ,.int .u16 x.cost] 115)).cell? ⟨g3,1,none⟩=some (.slice ra ls.length rc):=((Touch.refl _ _).alloc _).cellN dx
      go_simp
      refine hK.out _ _ (yxa) (fun hHeld=>?_)
      clear hK K
      clear dxa
      refine wpAnyH_ready (rs:=[5]) (by kernel_rfl) (by simp) ?_
      refine AllReadyH.cons rfl (fun K hK=>?_) AllReadyH.nil
      refine Qgb (by rfl) (.tmp 21) (.tmp 24) 116 (by rfl) w2.heap.size 115 (.agg #[.int .u32 0,.int .u32 0,.int .u8 0,.int .u16 0]) 4 12 Tryz.underlying116 Tryz.infoL rfl (by decide) (by decide) (.slice ra ls.length rc) ls.length (linksC ls) (by rfl) OWx.out ⟨wx.heap.size,0,none⟩ 1 1 [.int .u32 x.id,.int .u32 x.data,.int .u8 x.typ,.int .u16 x.cost] (by rfl) rfl (fun j u hj=>by rw [Qae];match j,hj with|0,hj=>(simp at hj;subst hj;simp [go_sem])|1,hj=>(simp at hj;subst hj;simp [go_sem])|2,hj=>(simp at hj;subst hj;simp [go_sem])|3,hj=>(simp at hj;subst hj;simp [go_sem])|j+4,hj=>simp at hj) (by simp [Value.oneCell']) (by have:=HWX.out;omega) (by simp;omega) ?_
      intro v' wv ov tv
      obtain⟨va,vc,rfl⟩:=Qah ov
      have yv:=(tv.cell (p:=⟨g1,0,none⟩) (Qaa yxa) (fun e=>by have h1:w2.heap.size≤g1:=(OWx.out.lt _ e).1;have:=HW2.out;have:=HG3.out;have:=HG2.out;omega)).trans yxa
      have hnb:∀k,k≤g3→¬(Value.slice ra ls.length rc).ownBlock=some k:=fun k hk e=>by have:=(OWx.out.lt _ e).1;have:=HW2.out;omega
      have Ov:OutB wv g3 ⟨FL,ls,0,[],0,false,0,0,[]⟩ (.slice ra ls.length rc) (.slice none 0 0) (.slice none 0 0):=OutB.kept (X:=fun k=>k=g3) (Ox.out.keep ((Touch.refl _ _).alloc _)) (Touch.mono tv (fun i _ e hx=>hnb i (by omega) e)) rfl
      have Hv:Hid (Rdr N wv b rs (nextAt rs (some p) 12)):=(Hx.out.keep ((Touch.refl _ _).alloc _)).touch tv (fun k hk=>hnb k (by have:=HG3.out;have:=HG2.out;have:=HG1.out;have:=HN.out;omega))
      have Rv:Hid (Room wv g2 9):=(((HRM.out.keep TL.out).touch Tx.out hn2.out).keep ((Touch.refl _ _).alloc _)).touch tv (hnb g2 (by have:=HG3.out;omega))
      have Tv:Hid (Touch (fun j=>j=b∨j=g3) w2 wv):=(((HT2.out.trans (Touch.mono TL.out (fun _ _ h=>h.elim))).trans (Touch.mono Tx.out (fun _ _ h=>Or.inl h))).alloc _).trans' tv (fun i hi e=>by have h1:w2.heap.size≤i:=(OWx.out.lt _ e).1;omega)
      have OV:Hid (OutB wv g3 ⟨FL,ls,0,[],0,false,0,0,[]⟩ (.slice ra ls.length rc) (.slice none 0 0) (.slice none 0 0)):=Ov
      have OWv:Hid (wv.ownsRow w2.heap.size 115 4 (.slice va (ls.length+1) vc) (ls.length+1) (linksC ls++[.int .u32 x.id,.int .u32 x.data,.int .u8 x.typ,.int .u16 x.cost])):=ov
      have d1v:wv.cell? ⟨g3,1,none⟩=some (.slice ra ls.length rc):=Ov.bd.c1
      have f1v:wv.frozen? ⟨g3,1,none⟩=false:=Ov.fz 1 (by omega)
      clear tv ov Ov Tx Hx OWx Ox hnb
      refine hK.out _ _ (yv) (fun hHeld=>?_)
      clear hK K
      refine wpAnyH_take (i:=6) (oi:=⟨some 26,_,_,_,_,_⟩) (v:=.pointer (some ⟨g3,1,none⟩)) rfl (by kernel_rfl) (by kernel_rfl) (by kernel_rfl) (fun _ _ _ h=>h) (Or.inl ⟨by rfl,fun w hw=>by go_simp⟩) (by assumption) ?_
      simp only [Act.put]
      refine wpAnyH_ready (rs:=[7]) (by kernel_rfl) (by simp) ?_
      refine AllReadyH.cons rfl (fun K hK=>?_) AllReadyH.nil
      go_simp
      refine hK.out _ _ ((Qaz hr13 0 1 _).trans yv) (fun hHeld=>?_)
      clear hK K
      refine wpAnyH_done (by kernel_rfl) ?_ _
      have YV:=(Qaz hr13 0 1 (.slice va (ls.length+1) vc)).trans yv
      clear d1v f1v yv yxa yx dx d1 y1 h1 O1
      go_wp2_with fail
      obtain⟨k',hk',ns'⟩:=HNX2.out
      go_roundg k'
      case measure=>exact hk'
      case rel =>
       have e1:(ls++[x]).length=ls.length+1:=by simp
       refine⟨_,ls++[x],va,vc,?_,YV,?_,?_,?_,?_,ns',?_⟩
       ·exact Hv.out.touch (Touch.setCell (F:=fun k=>k=g3) (p:=⟨g3,1,none⟩) (Touch.refl _ _) (Or.inl rfl) _) (fun k hk e=>by have:=HG3.out;have:=HG2.out;have:=HN.out;omega)
       ·rw [e1];exact OV.out.row1 (ls++[x]) _
       ·rw [e1,Qcg];exact Qa1 OWv.out HW2.out _
       ·exact Tv.out.setCell (Or.inl (Or.inr rfl)) _
       ·exact Rv.out.touch (Touch.setCell (F:=fun k=>k=g3) (p:=⟨g3,1,none⟩) (Touch.refl _ _) (Or.inl rfl) _) (fun e=>hr23 e)
       ·rw [e1];have:=HWX.out;omega
   ·obtain rfl:p=rs.length:=by omega
    have hzz:((rs.length:Int)-(rs.length:Int))=0:=by omega
    have HLF:∀(w:World),Rdr N w b rs (some rs.length)→Calls Tryz.prog 179 #[.pointer (some ⟨b,0,none⟩)] w fun e w'=>e=.returned (.int .i64 0)∧∃n,w'=w.drewN n:=fun w h=>by
     have:=Qdo N b rs.length rs w h
     rwa [hzz] at this
    have HRR:Hid (parseLinks (rs.drop 4)=some ls):=Qtt hrr
    have HPL:Hid (rs.length=4+12*ls.length):=hp
    clear hzz hk hp hpl hrr hlt ns
    go_wp2_with fail
    refine Calls.mono (HLF _ HRD.out) ?_
    rintro e wl ⟨rfl,nl,hwl⟩
    have tl:Touch (fun _=>False) wr wl:=hwl ▸ (Touch.refl _ _).drewN nl
    clear hwl
    have O1:Hid (OutB wl g3 ⟨FL,ls,0,[],0,false,0,0,[]⟩ (.slice ra ls.length rc) (.slice none 0 0) (.slice none 0 0)):=HOB.out.keep tl
    have RD1:Hid (Rdr N wl b rs (some rs.length)):=HRD.out.keep tl
    have RM1:Hid (Room wl g2 9):=HRM.out.keep tl
    have OW1:Hid (wl.ownsRow w2.heap.size 115 4 (.slice ra ls.length rc) ls.length (linksC ls)):=Qab HOW.out tl (fun _ _ h=>h)
    have TT:Hid (Touch (fun k=>k=b) w wl):=(T0.out.trans' HT2.out (fun i hi e=>by have:=HG3.out;have:=HG2.out;have:=HG1.out;omega)).trans (Touch.mono tl (fun _ _ h=>h.elim))
    obtain⟨⟨d0,d1,d2,d3,d4,d5,d6,d7,d8⟩,-⟩:=O1.out
    dsimp only at d0 d1 d2 d3 d4 d5 d6 d7 d8
    clear tl y0 HOB HRD HRM HOW HT2 HLF
    have hwb:ls.length≤1000000:=by have:=HWL.out;omega
    by_cases h0:(ls.length:Int)=CT
    ·have h0':((ls.length:Int)==CT)=true:=by simpa using h0
     have H0:Hid ((ls.length:Int)=CT):=h0
     clear h0
     go_wp2_with fail
     refine Calls.mono (Qbm _ 28 _ (by first|rfl|exact h0')) ?_
     rintro e wn ⟨rfl,rfl⟩
     clear h0'
     obtain⟨zz0,zc0,zf0⟩:=RM1.out 0 (by omega)
     obtain⟨zz1,zc1,zf1⟩:=RM1.out 1 (by omega)
     obtain⟨zz2,zc2,zf2⟩:=RM1.out 2 (by omega)
     obtain⟨zz3,zc3,zf3⟩:=RM1.out 3 (by omega)
     obtain⟨zz4,zc4,zf4⟩:=RM1.out 4 (by omega)
     obtain⟨zz5,zc5,zf5⟩:=RM1.out 5 (by omega)
     obtain⟨zz6,zc6,zf6⟩:=RM1.out 6 (by omega)
     obtain⟨zz7,zc7,zf7⟩:=RM1.out 7 (by omega)
     obtain⟨zz8,zc8,zf8⟩:=RM1.out 8 (by omega)
     obtain⟨wz,hwz⟩:∃wz,wz=(((((((((wl.setCell ⟨g2,0,none⟩ (.int .u8 FL)).setCell ⟨g2,1,none⟩ (.slice ra ls.length rc)).setCell ⟨g2,2,none⟩ (.int .u32 0)).setCell ⟨g2,3,none⟩ (.slice none 0 0)).setCell ⟨g2,4,none⟩ (.int .u32 0)).setCell ⟨g2,5,none⟩ (.bool false)).setCell ⟨g2,6,none⟩ (.int .u32 0)).setCell ⟨g2,7,none⟩ (.int .u32 0)).setCell ⟨g2,8,none⟩ (.slice none 0 0)):=⟨_,rfl⟩
     have zd0:wz.cell? ⟨g2,0,none⟩=some (.int .u8 FL):=by rw [hwz];simp [zc0,go_sem]
     have zd1:wz.cell? ⟨g2,1,none⟩=some (.slice ra ls.length rc):=by rw [hwz];simp [zc1,go_sem]
     have zd2:wz.cell? ⟨g2,2,none⟩=some (.int .u32 0):=by rw [hwz];simp [zc2,go_sem]
     have zd3:wz.cell? ⟨g2,3,none⟩=some (.slice none 0 0):=by rw [hwz];simp [zc3,go_sem]
     have zd4:wz.cell? ⟨g2,4,none⟩=some (.int .u32 0):=by rw [hwz];simp [zc4,go_sem]
     have zd5:wz.cell? ⟨g2,5,none⟩=some (.bool false):=by rw [hwz];simp [zc5,go_sem]
     have zd6:wz.cell? ⟨g2,6,none⟩=some (.int .u32 0):=by rw [hwz];simp [zc6,go_sem]
     have zd7:wz.cell? ⟨g2,7,none⟩=some (.int .u32 0):=by rw [hwz];simp [zc7,go_sem]
     have zd8:wz.cell? ⟨g2,8,none⟩=some (.slice none 0 0):=by rw [hwz];simp [zc8,go_sem]
     have HUz:Hid (Touch (fun k=>k=g2) wl wz):=by show Touch _ _ _;rw [hwz];refine Touch.setCell (F:=fun k=>k=g2) (p:=⟨g2,8,none⟩) ?_ (Or.inl rfl) _;refine Touch.setCell (F:=fun k=>k=g2) (p:=⟨g2,7,none⟩) ?_ (Or.inl rfl) _;refine Touch.setCell (F:=fun k=>k=g2) (p:=⟨g2,6,none⟩) ?_ (Or.inl rfl) _;refine Touch.setCell (F:=fun k=>k=g2) (p:=⟨g2,5,none⟩) ?_ (Or.inl rfl) _;refine Touch.setCell (F:=fun k=>k=g2) (p:=⟨g2,4,none⟩) ?_ (Or.inl rfl) _;refine Touch.setCell (F:=fun k=>k=g2) (p:=⟨g2,3,none⟩) ?_ (Or.inl rfl) _;refine Touch.setCell (F:=fun k=>k=g2) (p:=⟨g2,2,none⟩) ?_ (Or.inl rfl) _;refine Touch.setCell (F:=fun k=>k=g2) (p:=⟨g2,1,none⟩) ?_ (Or.inl rfl) _;refine Touch.setCell (F:=fun k=>k=g2) (p:=⟨g2,0,none⟩) ?_ (Or.inl rfl) _;exact Touch.refl _ _
     have HWz:Hid (wz=(((((((((wl.setCell ⟨g2,0,none⟩ (.int .u8 FL)).setCell ⟨g2,1,none⟩ (.slice ra ls.length rc)).setCell ⟨g2,2,none⟩ (.int .u32 0)).setCell ⟨g2,3,none⟩ (.slice none 0 0)).setCell ⟨g2,4,none⟩ (.int .u32 0)).setCell ⟨g2,5,none⟩ (.bool false)).setCell ⟨g2,6,none⟩ (.int .u32 0)).setCell ⟨g2,7,none⟩ (.int .u32 0)).setCell ⟨g2,8,none⟩ (.slice none 0 0))):=hwz
     clear hwz
     go_wp2_with fail
     rw [←HWz.out]
     clear HWz zc0 zf0 zc1 zf1 zc2 zf2 zc3 zf3 zc4 zf4 zc5 zf5 zc6 zf6 zc7 zf7 zc8 zf8
     refine bodyPost_ret (v:=.agg #[.int .u8 FL,.slice ra ls.length rc,.int .u32 0,.slice none 0 0,.int .u32 0,.bool false,.int .u32 0,.int .u32 0,.slice none 0 0]) (by simp [results,Tryz.results207,go_sem,zd0,zd1,zd2,zd3,zd4,zd5,zd6,zd7,zd8]) rfl ?_
     refine Or.inl ⟨⟨FL,ls,0,[],0,false,0,0,[]⟩,_,_,_,some rs.length,rfl,RD1.out.touch HUz.out (fun k hk e=>by have:=HG2.out;have:=HG1.out;have:=HN.out;omega),⟨Qam (Qab OW1.out HUz.out (fun k hk e=>by have:=(OW1.out.lt k hk).1;have:=HW2.out;have:=HG3.out;omega)) (by have h1:=T0.out.size;have:=HG1.out;omega),World.ownsRow_nil _ _ _ _,World.ownsRow_nil _ _ _ _⟩,TT.out.trans' HUz.out (fun i hi e=>by have:=HG2.out;have:=HG1.out;omega),?_⟩
     rw [if_pos rfl];exact ALL.out ls (by have:=HPL.out;omega) HZ0.out HRR.out H0.out
    ·have h0':((ls.length:Int)==CT)=false:=by simpa using h0
     have H0:Hid (¬(ls.length:Int)=CT):=h0
     clear h0
     go_wp2_with fail
     refine Calls.mono (Qcd _ 28 _ (by first|rfl|exact h0')) ?_
     rintro e wn ⟨rfl,rfl⟩
     exact⟨rfl,Or.inr ⟨rfl,TT.out,NOC.out ls HRR.out H0.out⟩⟩
  ·have HLF:=fun w h=>Qoa N b rs w h
   have HBD:Hid (decB 1 rs=none):=hbad
   clear hk hbad ns
   go_wp2_with fail
   refine Calls.mono (HLF _ HRD.out) ?_
   rintro e wl ⟨rfl,nl,hwl⟩
   have tl:Touch (fun _=>False) wr wl:=hwl ▸ (Touch.refl _ _).drewN nl
   clear hwl
   have O1:Hid (OutB wl g3 ⟨FL,ls,0,[],0,false,0,0,[]⟩ (.slice ra ls.length rc) (.slice none 0 0) (.slice none 0 0)):=HOB.out.keep tl
   have RD1:Hid (Rdr N wl b rs (none)):=HRD.out.keep tl
   have RM1:Hid (Room wl g2 9):=HRM.out.keep tl
   have OW1:Hid (wl.ownsRow w2.heap.size 115 4 (.slice ra ls.length rc) ls.length (linksC ls)):=Qab HOW.out tl (fun _ _ h=>h)
   have TT:Hid (Touch (fun k=>k=b) w wl):=(T0.out.trans' HT2.out (fun i hi e=>by have:=HG3.out;have:=HG2.out;have:=HG1.out;omega)).trans (Touch.mono tl (fun _ _ h=>h.elim))
   obtain⟨⟨d0,d1,d2,d3,d4,d5,d6,d7,d8⟩,-⟩:=O1.out
   dsimp only at d0 d1 d2 d3 d4 d5 d6 d7 d8
   clear tl y0 HOB HRD HRM HOW HT2 HLF
   have hwb:ls.length≤1000000:=by have:=HWL.out;omega
   by_cases h0:(ls.length:Int)=CT
   ·have h0':((ls.length:Int)==CT)=true:=by simpa using h0
    have H0:Hid ((ls.length:Int)=CT):=h0
    clear h0
    go_wp2_with fail
    refine Calls.mono (Qbm _ 28 _ (by first|rfl|exact h0')) ?_
    rintro e wn ⟨rfl,rfl⟩
    clear h0'
    obtain⟨zz0,zc0,zf0⟩:=RM1.out 0 (by omega)
    obtain⟨zz1,zc1,zf1⟩:=RM1.out 1 (by omega)
    obtain⟨zz2,zc2,zf2⟩:=RM1.out 2 (by omega)
    obtain⟨zz3,zc3,zf3⟩:=RM1.out 3 (by omega)
    obtain⟨zz4,zc4,zf4⟩:=RM1.out 4 (by omega)
    obtain⟨zz5,zc5,zf5⟩:=RM1.out 5 (by omega)
    obtain⟨zz6,zc6,zf6⟩:=RM1.out 6 (by omega)
    obtain⟨zz7,zc7,zf7⟩:=RM1.out 7 (by omega)
    obtain⟨zz8,zc8,zf8⟩:=RM1.out 8 (by omega)
    obtain⟨wz,hwz⟩:∃wz,wz=(((((((((wl.setCell ⟨g2,0,none⟩ (.int .u8 FL)).setCell ⟨g2,1,none⟩ (.slice ra ls.length rc)).setCell ⟨g2,2,none⟩ (.int .u32 0)).setCell ⟨g2,3,none⟩ (.slice none 0 0)).setCell ⟨g2,4,none⟩ (.int .u32 0)).setCell ⟨g2,5,none⟩ (.bool false)).setCell ⟨g2,6,none⟩ (.int .u32 0)).setCell ⟨g2,7,none⟩ (.int .u32 0)).setCell ⟨g2,8,none⟩ (.slice none 0 0)):=⟨_,rfl⟩
    have zd0:wz.cell? ⟨g2,0,none⟩=some (.int .u8 FL):=by rw [hwz];simp [zc0,go_sem]
    have zd1:wz.cell? ⟨g2,1,none⟩=some (.slice ra ls.length rc):=by rw [hwz];simp [zc1,go_sem]
    have zd2:wz.cell? ⟨g2,2,none⟩=some (.int .u32 0):=by rw [hwz];simp [zc2,go_sem]
    have zd3:wz.cell? ⟨g2,3,none⟩=some (.slice none 0 0):=by rw [hwz];simp [zc3,go_sem]
    have zd4:wz.cell? ⟨g2,4,none⟩=some (.int .u32 0):=by rw [hwz];simp [zc4,go_sem]
    have zd5:wz.cell? ⟨g2,5,none⟩=some (.bool false):=by rw [hwz];simp [zc5,go_sem]
    have zd6:wz.cell? ⟨g2,6,none⟩=some (.int .u32 0):=by rw [hwz];simp [zc6,go_sem]
    have zd7:wz.cell? ⟨g2,7,none⟩=some (.int .u32 0):=by rw [hwz];simp [zc7,go_sem]
    have zd8:wz.cell? ⟨g2,8,none⟩=some (.slice none 0 0):=by rw [hwz];simp [zc8,go_sem]
    have HUz:Hid (Touch (fun k=>k=g2) wl wz):=by show Touch _ _ _;rw [hwz];refine Touch.setCell (F:=fun k=>k=g2) (p:=⟨g2,8,none⟩) ?_ (Or.inl rfl) _;refine Touch.setCell (F:=fun k=>k=g2) (p:=⟨g2,7,none⟩) ?_ (Or.inl rfl) _;refine Touch.setCell (F:=fun k=>k=g2) (p:=⟨g2,6,none⟩) ?_ (Or.inl rfl) _;refine Touch.setCell (F:=fun k=>k=g2) (p:=⟨g2,5,none⟩) ?_ (Or.inl rfl) _;refine Touch.setCell (F:=fun k=>k=g2) (p:=⟨g2,4,none⟩) ?_ (Or.inl rfl) _;refine Touch.setCell (F:=fun k=>k=g2) (p:=⟨g2,3,none⟩) ?_ (Or.inl rfl) _;refine Touch.setCell (F:=fun k=>k=g2) (p:=⟨g2,2,none⟩) ?_ (Or.inl rfl) _;refine Touch.setCell (F:=fun k=>k=g2) (p:=⟨g2,1,none⟩) ?_ (Or.inl rfl) _;refine Touch.setCell (F:=fun k=>k=g2) (p:=⟨g2,0,none⟩) ?_ (Or.inl rfl) _;exact Touch.refl _ _
    have HWz:Hid (wz=(((((((((wl.setCell ⟨g2,0,none⟩ (.int .u8 FL)).setCell ⟨g2,1,none⟩ (.slice ra ls.length rc)).setCell ⟨g2,2,none⟩ (.int .u32 0)).setCell ⟨g2,3,none⟩ (.slice none 0 0)).setCell ⟨g2,4,none⟩ (.int .u32 0)).setCell ⟨g2,5,none⟩ (.bool false)).setCell ⟨g2,6,none⟩ (.int .u32 0)).setCell ⟨g2,7,none⟩ (.int .u32 0)).setCell ⟨g2,8,none⟩ (.slice none 0 0))):=hwz
    clear hwz
    go_wp2_with fail
    rw [←HWz.out]
    clear HWz zc0 zf0 zc1 zf1 zc2 zf2 zc3 zf3 zc4 zf4 zc5 zf5 zc6 zf6 zc7 zf7 zc8 zf8
    refine bodyPost_ret (v:=.agg #[.int .u8 FL,.slice ra ls.length rc,.int .u32 0,.slice none 0 0,.int .u32 0,.bool false,.int .u32 0,.int .u32 0,.slice none 0 0]) (by simp [results,Tryz.results207,go_sem,zd0,zd1,zd2,zd3,zd4,zd5,zd6,zd7,zd8]) rfl ?_
    refine Or.inl ⟨⟨FL,ls,0,[],0,false,0,0,[]⟩,_,_,_,none,rfl,RD1.out.touch HUz.out (fun k hk e=>by have:=HG2.out;have:=HG1.out;have:=HN.out;omega),⟨Qam (Qab OW1.out HUz.out (fun k hk e=>by have:=(OW1.out.lt k hk).1;have:=HW2.out;have:=HG3.out;omega)) (by have h1:=T0.out.size;have:=HG1.out;omega),World.ownsRow_nil _ _ _ _,World.ownsRow_nil _ _ _ _⟩,TT.out.trans' HUz.out (fun i hi e=>by have:=HG2.out;have:=HG1.out;omega),?_⟩
    rw [if_neg (by simp)];exact HBD.out
   ·have h0':((ls.length:Int)==CT)=false:=by simpa using h0
    have H0:Hid (¬(ls.length:Int)=CT):=h0
    clear h0
    go_wp2_with fail
    refine Calls.mono (Qcd _ 28 _ (by first|rfl|exact h0')) ?_
    rintro e wn ⟨rfl,rfl⟩
    exact⟨rfl,Or.inr ⟨rfl,TT.out,HBD.out⟩⟩
end Go.Proofs.YtddbffoiadmffaaGreat
