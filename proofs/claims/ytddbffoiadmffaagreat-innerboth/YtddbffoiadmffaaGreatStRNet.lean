import Derived.Test.YtddbffoiadmffaaGreatStRd4
import Derived.Test.YtddbffoiadmffaaGreatStEnc1
import Derived.Deep.RegionHeld3
import Derived.Deep.RegionLaw
import Derived.Deep.DrawnRows
import Derived.Test.YtddbffoiadmffaaGreatOwnUn
namespace Go.Proofs.YtddbffoiadmffaaGreat
open Go.RowKit
set_option linter.unusedVariables false
set_option maxRecDepth 100000
attribute [local go_sem ↓] Go.wp_at_zero Go.wp_at_succ
theorem step_own {P:Program} {w:World} {ops:Array Oper} {o:Oper} {a:Act} {K:Act→World→Prop} {Q:Exit→Act→World→Prop} {E:Prop} (hgd:o.guard=none) (s x:Operand) (t:TypeId)
  (ho:o.op=.call { callee:=.builtin .append,args:=#[s,x],argTypes:=#[t,t] })
  (base:Nat) (e:TypeId) (z:Value) (size bytes:Nat) (ht:P.underlying t=some (.slice e)) (hi:(P.info? e).map (fun i=>(i.zero,i.size,i.bytes))=some (some z,size,bytes)) (hzs:z.cells.size=size) (hsz:0<size) (hb64:bytes≤64)
  (v:Value) (n:Nat) (xs:List Value) (hs:a.eval s=v) (hown:w.ownsRow base e size v n xs)
  (ad:Addr) (m c:Nat) (news:List Value) (hx:a.eval x=.slice (some ad) m c) (hl:news.length=m * size) (hnews:∀ j u,news[j]?=some u→w.cell? (ad.add j)=some u) (h1:∀ u∈news,u.oneCell'=true)
  (hlen:n+m≤1099511627776) (hbase:base≤w.heap.size)
  (h:∀ v' w',w'.ownsRow base e size v' (n+m) (xs ++ news)→Touch (fun j=>v.ownBlock=some j) w w'→K (a.put o.dst v') w') :
  if Region.wanted o (yielded ops a.tmps)=true then Oper.wp P o a w K Q else E:=by
 obtain ⟨i,hi,hz,hsize,hby⟩:=info_parts hi
 have hw:Region.wanted o (yielded ops a.tmps)=true:=by simp [Region.wanted,hgd]
 rw [if_pos hw]
 have hmul:(n+m) * bytes≤1099511627776 * 64:=Nat.mul_le_mul hlen hb64
 obtain ⟨v',w',hr,h2,h3,h4,h5⟩:=run_append_own_at (P:=P) w base t o.type e i z size bytes ht hi hz hsize hby hzs hsz v n xs hown ad m c news hl hnews h1 (by unfold maxLen; omega) (by omega) hbase
 unfold Oper.wp execOp
 simp only [ho,resolve,invoke,builtin,Sem.run_bind,Sem.run_pure,Result.andThen_ok,List.map_toArray,List.map_cons,List.map_nil,hs,hx,hr]
 exact h v' w' h2 ((Touch.refl _ _).grown h3 (fun k hk=>Or.inl hk))
theorem Tryz.infoU:(Tryz.prog.info? 23).map (fun i=>(i.zero,i.size,i.bytes))=some (some (.int .u32 0),1,4):=by kernel_rfl
structure NetS (rs:List Int) (q:Option Nat) (ws:List Int) (k:Nat):Prop where
 out:(∃ p,q=some p∧p=4+4 * ws.length∧p≤rs.length∧readRouters ((rs.drop 4).take (4 * ws.length))=ws∧k=rs.length - p+1)∨(q=none∧k=0∧(rs.length<4∨(rs.length - 4) % 4≠0))
structure NetR (N b g1 g2 g3:Nat) (rs:List Int) (M:Int) (w0:World) (k:Nat) (wx:World):Prop where
 out:∃ (q:Option Nat) (ws:List Int) (ra:Option Addr) (rc:Nat),Rdr N wx b rs q∧wx.cell? ⟨g1,0,none⟩=some (.pointer (some ⟨b,0,none⟩))∧OutB wx g3 ⟨0,[],M,ws,0,false,0,0,[]⟩ (.slice none 0 0) (.slice ra ws.length rc) (.slice none 0 0)∧wx.ownsRow (g3+1) 23 1 (.slice ra ws.length rc) ws.length (wordsC ws)∧Touch (fun j=>j=b∨j=g3) w0 wx∧Room wx g2 9∧NetS rs q ws k∧ws.length≤rs.length
theorem net_first {rs:List Int}:∃ k,NetS rs (nextAt rs (some 0) 4) [] k:=by
 by_cases h:4≤rs.length
 ·exact ⟨_,⟨Or.inl ⟨4,by rw [nextAt_some (by omega)],rfl,h,rfl,rfl⟩⟩⟩
 ·exact ⟨0,⟨Or.inr ⟨nextAt_none (by omega),rfl,Or.inl (by omega)⟩⟩⟩
theorem net_next {rs:List Int} {ws:List Int} {k p:Nat} (hp:p=4+4 * ws.length) (hl:p<rs.length) (hr:readRouters ((rs.drop 4).take (4 * ws.length))=ws) (hk:k=rs.length - p+1):∃ k',k'<k∧NetS rs (nextAt rs (some p) 4) (ws ++ [numAt rs (some p) 4]) k':=by
 by_cases h:p+4≤rs.length
 ·refine ⟨rs.length - (p+4)+1,by omega,⟨Or.inl ⟨p+4,nextAt_some h,by simp; omega,h,?_,rfl⟩⟩⟩
  rw [numAt_some h]
  obtain ⟨a,b,c,d,r,he⟩:=list4 (l:=rs.drop p) (by rw [List.length_drop]; omega)
  have hd:(rs.drop 4).drop (4 * ws.length)=rs.drop p:=by rw [List.drop_drop,hp]
  have e:(rs.drop 4).take (4 * (ws ++ [numOf ((rs.drop p).take 4)]).length)=(rs.drop 4).take (4 * ws.length) ++ [a,b,c,d]:=by
   rw [List.length_append,List.length_singleton,Nat.mul_add,Nat.mul_one,List.take_add,hd,he]
   rfl
  rw [e,readRouters_snoc _ _ _ _ _ (by rw [List.length_take,List.length_drop]; omega),hr,he]
  rfl
 ·exact ⟨0,by omega,⟨Or.inr ⟨nextAt_none h,rfl,Or.inr (by omega)⟩⟩⟩
theorem dec2_none {rs:List Int} (h:rs.length<4∨(rs.length - 4) % 4≠0):decB 2 rs=none:=by
 cases hd:decB 2 rs with
 | none=>rfl
 | some B =>
  obtain ⟨a,b,c,d,r,rfl,-,h1,h2⟩:=dec2_inv hd
  simp at h
  omega
theorem dec2_nomask {rs:List Int} (h:pbok (numAt rs (some 0) 4)=false):decB 2 rs=none:=by
 cases hd:decB 2 rs with
 | none=>rfl
 | some B =>
  obtain ⟨a,b,c,d,r,rfl,h1,-⟩:=dec2_inv hd
  rw [numAt_some (by simp)] at h
  simp only [List.drop,List.take] at h
  rw [h] at h1
  cases h1
theorem dec2_norouters {rs:List Int} (h:rs.length=4):decB 2 rs=none:=by
 cases hd:decB 2 rs with
 | none=>rfl
 | some B =>
  obtain ⟨a,b,c,d,r,rfl,-,h1,h2⟩:=dec2_inv hd
  simp at h
  subst h
  simp at h2
theorem dec2_all {rs:List Int} {ws:List Int} (hb:∀ z∈rs,0≤z∧z<256) (hm:pbok (numAt rs (some 0) 4)=true) (hl:4+4 * ws.length=rs.length) (h0:0<ws.length) (hr:readRouters ((rs.drop 4).take (4 * ws.length))=ws) :
  decB 2 rs=some ⟨0,[],numAt rs (some 0) 4,ws,0,false,0,0,[]⟩:=by
 obtain ⟨a,b,c,d,r,rfl⟩:=list4 (l:=rs) (by omega)
 rw [numAt_some (by simp)] at hm ⊢
 simp only [List.drop,List.take,List.length_cons] at hm hr hl ⊢
 rw [List.take_of_length_le (by omega)] at hr
 rw [dec2_yes hb hm (by omega) (by omega),hr]
set_option maxHeartbeats 4000000 in
theorem rnet_any (N b:Nat) (rs:List Int) (w:World) (h:Rdr N w b rs (some 0)) (hN:N≤w.heap.size) (hc:rs.length≤1000000) :
  Calls Tryz.prog 209 #[.agg #[.pointer (some ⟨b,0,none⟩)]] w (RdPost 2 N b rs w):=by
 have hb:=h.low
 have HBy:Hid (∀ z∈rs,0≤z∧z<256):=h.byte
 have HM:=fun w h=>rmask_any N b rs (some 0) w h
 have NOM:Hid (pbok (numAt rs (some 0) 4)=false→decB 2 rs=none):=dec2_nomask
 have ALL:Hid (∀ ws:List Int,pbok (numAt rs (some 0) 4)=true→4+4 * ws.length=rs.length→0<ws.length→readRouters ((rs.drop 4).take (4 * ws.length))=ws→decB 2 rs=some ⟨0,[],numAt rs (some 0) 4,ws,0,false,0,0,[]⟩):=fun ws h1 h2 h3 h4=>dec2_all h.byte h1 h2 h3 h4
 obtain ⟨k0,hk0⟩:=net_first (rs:=rs)
 have HK0:Hid (NetS rs (nextAt rs (some 0) 4) [] k0):=hk0
 generalize numAt rs (some 0) 4=M at *
 generalize nextAt rs (some 0) 4=q1 at *
 clear hk0
 go_enter Tryz.func209,Tryz.ntmps209
 go_wp2_with fail
 refine Calls.mono (HM _ (h.keep (((Touch.refl _ _).alloc _).alloc _))) ?_
 rintro e w1 (⟨rfl,hM,h1,t1⟩ | ⟨rfl,hM,t1⟩)
 rotate_left
 ·exact ⟨rfl,Or.inr ⟨rfl,(((Touch.refl _ w).alloc _).alloc _).trans t1,NOM.out hM⟩⟩
 have R1:Hid (Room w1 (w.heap.size+1) 9):=by
  have:=(Room.new (w.alloc (.cells #[.pointer (some ⟨b,0,none⟩)] 298)) #[.int .u8 0,.slice none 0 0,.int .u32 0,.slice none 0 0,.int .u32 0,.bool false,.int .u32 0,.int .u32 0,.slice none 0 0] 119).touch t1 (by simp; omega)
  show Room _ _ _
  simpa using this
 have c1:w1.cell? ⟨w.heap.size,0,none⟩=some (.pointer (some ⟨b,0,none⟩)):=(t1.cell (p:=⟨w.heap.size,0,none⟩) (by simp; omega) (by show ¬ w.heap.size=b; omega)).trans (by simp [go_sem])
 have T1:Hid (Touch (fun k=>k=b) w w1):=(((Touch.refl _ w).alloc _).alloc _).trans t1
 have hs1:w.heap.size+1<w1.heap.size:=by have:=t1.size; simp at this; omega
 have HMz:Hid (pbok M=true):=hM
 clear t1 HM h hM
 have REL:Hid (NetR N b w.heap.size (w.heap.size+1) w1.heap.size rs M (w1.alloc (.cells #[.int .u8 0,.slice none 0 0,.int .u32 M,.slice none 0 0,.int .u32 0,.bool false,.int .u32 0,.int .u32 0,.slice none 0 0] 119)) k0 (w1.alloc (.cells #[.int .u8 0,.slice none 0 0,.int .u32 M,.slice none 0 0,.int .u32 0,.bool false,.int .u32 0,.int .u32 0,.slice none 0 0] 119))) :=
  ⟨q1,[],none,0,h1.keep ((Touch.refl _ _).alloc _),((Touch.refl _ _).alloc _).cellN c1,OutB.new w1 ⟨0,[],M,[],0,false,0,0,[]⟩ (.slice none 0 0) (.slice none 0 0) (.slice none 0 0) 119,World.ownsRow_nil _ _ _ _,Touch.refl _ _,R1.out.keep ((Touch.refl _ _).alloc _),HK0.out,Nat.zero_le _⟩
 have T0:Hid (Touch (fun k=>k=b) w (w1.alloc (.cells #[.int .u8 0,.slice none 0 0,.int .u32 M,.slice none 0 0,.int .u32 0,.bool false,.int .u32 0,.int .u32 0,.slice none 0 0] 119))):=T1.out.alloc _
 have hlt:w.heap.size<w1.heap.size:=by omega
 have HW2:Hid ((w1.alloc (.cells #[.int .u8 0,.slice none 0 0,.int .u32 M,.slice none 0 0,.int .u32 0,.bool false,.int .u32 0,.int .u32 0,.slice none 0 0] 119)).heap.size=w1.heap.size+1):=by show _=_; simp
 clear h1 c1 R1 T1 HK0
 go_wp2_with fail
 generalize w1.alloc (.cells #[.int .u8 0,.slice none 0 0,.int .u32 M,.slice none 0 0,.int .u32 0,.bool false,.int .u32 0,.int .u32 0,.slice none 0 0] 119)=w2 at *
 generalize w1.heap.size=g3 at *
 have HG3:Hid (w.heap.size+1<g3):=hs1
 have HN:Hid (N≤w.heap.size):=hN
 have HB:Hid (b<N):=hb
 have hn1:Hid (¬ w.heap.size=b):=by show ¬ _; omega
 have hn2:Hid (¬ w.heap.size+1=b):=by show ¬ _; omega
 have hn3:Hid (¬ g3=b):=by show ¬ _; omega
 generalize hg2:w.heap.size+1=g2 at *
 have HG2:Hid (w.heap.size+1=g2):=hg2
 generalize hg1:w.heap.size=g1 at *
 have HG1:Hid (w.heap.size=g1):=hg1
 clear hg1 hg2 hs1 hlt hN hb
 have hr13:g1≠g3:=by have:=HG3.out; have:=HG2.out; omega
 have hr23:g2≠g3:=by have:=HG3.out; have:=HG2.out; omega
 go_loopg [7] k0 (fun k _ wx=>NetR N b g1 g2 g3 rs M w2 k wx)
 case atStart=>exact REL.out
 case round =>
  clear REL
  obtain ⟨q,ws,ra,rc,hrd,y0,oB,own,t2,rm,ns,wl⟩:=hrel.out
  have HRD:Hid (Rdr N wr b rs q):=hrd
  have HOB:Hid (OutB wr g3 ⟨0,[],M,ws,0,false,0,0,[]⟩ (.slice none 0 0) (.slice ra ws.length rc) (.slice none 0 0)):=oB
  have HOW:Hid (wr.ownsRow (g3+1) 23 1 (.slice ra ws.length rc) ws.length (wordsC ws)):=own
  have HT2:Hid (Touch (fun j=>j=b∨j=g3) w2 wr):=t2
  have HRM:Hid (Room wr g2 9):=rm
  have HWL:Hid (ws.length≤rs.length):=wl
  clear hrd oB own t2 rm wl hrel
  rcases ns.out with ⟨p,rfl,hp,hpl,hrr,hk⟩ | ⟨rfl,hk,hbad⟩
  ·by_cases hlt:p<rs.length
   ·have hpos:(0:Int)<(rs.length:Int) - (p:Int):=by omega
    have HLF:=fun w h=>left_some N b p rs w h
    have HNX:=net_next hp hlt hrr hk
    have HNM:=fun w h=>rnum4 N b rs (some p) w h
    generalize (rs.length:Int) - (p:Int)=lf at hpos HLF
    generalize numAt rs (some p) 4=X at HNX HNM
    generalize nextAt rs (some p) 4=qx at HNX HNM
    have HNXh:Hid (∃ k',k'<gk∧NetS rs qx (ws ++ [X]) k'):=HNX
    have HWX:Hid (ws.length<rs.length):=by show _<_; omega
    clear HNX hp hpl hrr hk hlt ns
    go_upto_region 3 with (go_at_call 179; refine Calls.mono (HLF _ HRD.out) ?_; rintro e wl ⟨rfl,nl,hwl⟩; have tl:Touch (fun _=>False) wr wl:=hwl ▸ (Touch.refl _ _).drewN nl; clear hwl)
    have y1:wl.drew.cell? ⟨g1,0,none⟩=some (.pointer (some ⟨b,0,none⟩)):=tl.cellN y0
    have h1:Rdr N wl.drew b rs (some p):=(HRD.out.keep tl).keep ((Touch.refl _ _).drew)
    have O1:Hid (OutB wl.drew g3 ⟨0,[],M,ws,0,false,0,0,[]⟩ (.slice none 0 0) (.slice ra ws.length rc) (.slice none 0 0)):=(HOB.out.keep tl).keep ((Touch.refl _ _).drew)
    have d3:wl.drew.cell? ⟨g3,3,none⟩=some (.slice ra ws.length rc):=O1.out.bd.c3
    have TL:Hid (Touch (fun _=>False) wr wl.drew):=tl.drew
    clear HLF hpos tl y0
    refine wp_region_held_drew (S:=fun w'=>w'.cell? ⟨g1,0,none⟩=some (.pointer (some ⟨b,0,none⟩))) (by kernel_rfl) y1 (fun hHeld=>?_)
    refine wpAnyH_take (i:=0) (oi:=⟨some 11,_,_,_,_,_⟩) (v:=.pointer (some ⟨g3,3,none⟩)) rfl (by kernel_rfl) (by kernel_rfl) (by kernel_rfl) (fun _ _ _ h=>h) (Or.inl ⟨by rfl,fun w hw=>by go_simp⟩) (by assumption) ?_
    simp only [Act.put,List.setIfInBounds_toArray,List.set_cons_zero,List.set_cons_succ]
    refine wpAnyH_take (i:=2) (oi:=⟨some 13,_,_,_,_,_⟩) (v:=.pointer (some ⟨g1,0,none⟩)) rfl (by kernel_rfl) (by kernel_rfl) (by kernel_rfl) (fun _ _ _ h=>h) (Or.inl ⟨by rfl,fun w hw=>by go_simp⟩) (by assumption) ?_
    simp only [Act.put,List.setIfInBounds_toArray,List.set_cons_zero,List.set_cons_succ]
    refine wpAnyH_take (i:=3) (oi:=⟨some 14,_,_,_,_,_⟩) (v:=.pointer (some ⟨b,0,none⟩)) rfl (by kernel_rfl) (by kernel_rfl) (by kernel_rfl) (fun _ _ _ h=>h) (Or.inl ⟨by rfl,fun w hw=>by go_simp⟩) (by assumption) ?_
    simp only [Act.put,List.setIfInBounds_toArray,List.set_cons_zero,List.set_cons_succ]
    refine wpAnyH_ready (rs:=[1,4]) (by kernel_rfl) (by simp) ?_
    refine AllReadyH.cons rfl (fun K hK=>?_) (AllReadyH.cons rfl (fun K hK=>?_) AllReadyH.nil)
    ·go_simp
     refine hK.out _ _ (y1) (fun hHeld=>?_)
     clear hK K
     refine wpAnyH_ready (rs:=[4]) (by kernel_rfl) (by simp) ?_
     refine AllReadyH.cons rfl (fun K hK=>?_) AllReadyH.nil
     go_simp
     refine Calls.mono (HNM _ h1) ?_
     rintro e wx ⟨rfl,hx,tx⟩
     have yx:=(tx.cell (p:=⟨g1,0,none⟩) (lt_of_cell y1) hn1.out).trans y1
     have Ox:Hid (OutB wx g3 ⟨0,[],M,ws,0,false,0,0,[]⟩ (.slice none 0 0) (.slice ra ws.length rc) (.slice none 0 0)):=OutB.kept (X:=fun k=>k=g3) O1.out (Touch.mono tx (fun i _ e hx=>by have:=hn3.out; omega)) rfl
     have dx:wx.cell? ⟨g3,3,none⟩=some (.slice ra ws.length rc):=Ox.out.bd.c3
     have Hx:Hid (Rdr N wx b rs qx):=hx
     have Tx:Hid (Touch (fun k=>k=b) wl.drew wx):=tx
     have yxa:(wx.alloc (.cells #[.int .u32 X] 23)).cell? ⟨g1,0,none⟩=some (.pointer (some ⟨b,0,none⟩)):=((Touch.refl _ _).alloc _).cellN yx
     have OWx:Hid ((wx.alloc (.cells #[.int .u32 X] 23)).ownsRow (g3+1) 23 1 (.slice ra ws.length rc) ws.length (wordsC ws)):=own_touch (own_touch (own_touch HOW.out TL.out (fun _ _ h=>h)) tx (fun k hk e=>by have:=(HOW.out.lt k hk).1; have:=HG3.out; have:=HG2.out; have:=HG1.out; have:=HN.out; have:=HB.out; omega)) ((Touch.refl (fun _=>False) wx).alloc _) (fun _ _ h=>h)
     have hbs:g3+1≤wx.heap.size:=by have:=Ox.out.lt; omega
     clear tx hx
     refine hK.out _ _ (yx) (fun hHeld=>?_)
     clear hK K
     refine wpAnyH_ready (rs:=[5]) (by kernel_rfl) (by simp) ?_
     refine AllReadyH.cons rfl (fun K hK=>?_) AllReadyH.nil
     go_simp
     refine hK.out _ _ (yxa) (fun hHeld=>?_)
     clear hK K
     refine wpAnyH_ready (rs:=[6]) (by kernel_rfl) (by simp) ?_
     refine AllReadyH.cons rfl (fun K hK=>?_) AllReadyH.nil
     refine step_own (by rfl) (.tmp 12) (.tmp 16) 117 (by rfl) (g3+1) 23 (.int .u32 0) 1 4 Tryz.underlying117 Tryz.infoU rfl (by decide) (by decide) (.slice ra ws.length rc) ws.length (wordsC ws) (by rfl) OWx.out ⟨wx.heap.size,0,none⟩ 1 1 [.int .u32 X] (by rfl) rfl (fun j u hj=>by rw [add_plain]; cases j with | zero=>(simp at hj; subst hj; simp [go_sem]) | succ j=>simp at hj) (by simp [Value.oneCell']) (by have:=HWX.out; omega) (by simp; omega) ?_
     intro v' wv ov tv
     obtain ⟨va,vc,rfl⟩:=own_fm ov
     have yv:=(tv.cell (p:=⟨g1,0,none⟩) (lt_of_cell yxa) (fun e=>by have h1:g3+1≤g1:=(OWx.out.lt _ e).1; have:=HG3.out; have:=HG2.out; omega)).trans yxa
     have hnb:∀ k,k≤g3→¬ (Value.slice ra ws.length rc).ownBlock=some k:=fun k hk e=>by have:=(OWx.out.lt _ e).1; omega
     have Ov:OutB wv g3 ⟨0,[],M,ws,0,false,0,0,[]⟩ (.slice none 0 0) (.slice ra ws.length rc) (.slice none 0 0):=OutB.kept (X:=fun k=>k=g3) (Ox.out.keep ((Touch.refl _ _).alloc _)) (Touch.mono tv (fun i _ e hx=>hnb i (by omega) e)) rfl
     have Hv:Hid (Rdr N wv b rs qx):=(Hx.out.keep ((Touch.refl _ _).alloc _)).touch tv (fun k hk=>hnb k (by have:=HG3.out; have:=HG2.out; have:=HG1.out; have:=HN.out; omega))
     have Rv:Hid (Room wv g2 9):=(((HRM.out.keep TL.out).touch Tx.out hn2.out).keep ((Touch.refl _ _).alloc _)).touch tv (hnb g2 (by have:=HG3.out; omega))
     have Tv:Hid (Touch (fun j=>j=b∨j=g3) w2 wv):=(((HT2.out.trans (Touch.mono TL.out (fun _ _ h=>h.elim))).trans (Touch.mono Tx.out (fun _ _ h=>Or.inl h))).alloc _).trans' tv (fun i hi e=>by have h1:g3+1≤i:=(OWx.out.lt _ e).1; have h2:=HW2.out; omega)
     have OV:Hid (OutB wv g3 ⟨0,[],M,ws,0,false,0,0,[]⟩ (.slice none 0 0) (.slice ra ws.length rc) (.slice none 0 0)):=Ov
     have OWv:Hid (wv.ownsRow (g3+1) 23 1 (.slice va (ws.length+1) vc) (ws.length+1) (wordsC ws ++ [.int .u32 X])):=ov
     have d3v:wv.cell? ⟨g3,3,none⟩=some (.slice ra ws.length rc):=Ov.bd.c3
     have f3v:wv.frozen? ⟨g3,3,none⟩=false:=Ov.fz 3 (by omega)
     clear tv ov Ov Tx Hx OWx Ox hnb
     refine hK.out _ _ (yv) (fun hHeld=>?_)
     clear hK K
     refine wpAnyH_take (i:=7) (oi:=⟨some 18,_,_,_,_,_⟩) (v:=.pointer (some ⟨g3,3,none⟩)) rfl (by kernel_rfl) (by kernel_rfl) (by kernel_rfl) (fun _ _ _ h=>h) (Or.inl ⟨by rfl,fun w hw=>by go_simp⟩) (by assumption) ?_
     simp only [Act.put]
     refine wpAnyH_ready (rs:=[8]) (by kernel_rfl) (by simp) ?_
     refine AllReadyH.cons rfl (fun K hK=>?_) AllReadyH.nil
     go_simp
     refine hK.out _ _ ((cell_far hr13 0 3 _).trans yv) (fun hHeld=>?_)
     clear hK K
     refine wpAnyH_done (by kernel_rfl) ?_ _
     have YV:=(cell_far hr13 0 3 (.slice va (ws.length+1) vc)).trans yv
     clear d3v f3v yv yxa yx dx d3 y1 h1 O1
     go_wp2_with fail
     obtain ⟨k',hk',ns'⟩:=HNXh.out
     go_roundg k'
     case measure=>exact hk'
     case rel =>
      have e1:(ws ++ [X]).length=ws.length+1:=by simp
      refine ⟨qx,ws ++ [X],va,vc,?_,YV,?_,?_,?_,?_,ns',?_⟩
      ·exact Hv.out.touch (Touch.setCell (F:=fun k=>k=g3) (p:=⟨g3,3,none⟩) (Touch.refl _ _) (Or.inl rfl) _) (fun k hk e=>by have:=HG3.out; have:=HG2.out; have:=HN.out; omega)
      ·rw [e1]; exact OV.out.row3 (ws ++ [X]) _
      ·rw [e1,wordsC_append]; exact own_store OWv.out (by show g3<g3+1; omega) _
      ·exact Tv.out.setCell (Or.inl (Or.inr rfl)) _
      ·exact Rv.out.touch (Touch.setCell (F:=fun k=>k=g3) (p:=⟨g3,3,none⟩) (Touch.refl _ _) (Or.inl rfl) _) (fun e=>hr23 e)
      ·rw [e1]; have:=HWX.out; omega
    ·go_simp
     refine Calls.mono (HNM _ h1) ?_
     rintro e wx ⟨rfl,hx,tx⟩
     have yx:=(tx.cell (p:=⟨g1,0,none⟩) (lt_of_cell y1) hn1.out).trans y1
     have Ox:Hid (OutB wx g3 ⟨0,[],M,ws,0,false,0,0,[]⟩ (.slice none 0 0) (.slice ra ws.length rc) (.slice none 0 0)):=OutB.kept (X:=fun k=>k=g3) O1.out (Touch.mono tx (fun i _ e hx=>by have:=hn3.out; omega)) rfl
     have dx:wx.cell? ⟨g3,3,none⟩=some (.slice ra ws.length rc):=Ox.out.bd.c3
     have Hx:Hid (Rdr N wx b rs qx):=hx
     have Tx:Hid (Touch (fun k=>k=b) wl.drew wx):=tx
     have yxa:(wx.alloc (.cells #[.int .u32 X] 23)).cell? ⟨g1,0,none⟩=some (.pointer (some ⟨b,0,none⟩)):=((Touch.refl _ _).alloc _).cellN yx
     have OWx:Hid ((wx.alloc (.cells #[.int .u32 X] 23)).ownsRow (g3+1) 23 1 (.slice ra ws.length rc) ws.length (wordsC ws)):=own_touch (own_touch (own_touch HOW.out TL.out (fun _ _ h=>h)) tx (fun k hk e=>by have:=(HOW.out.lt k hk).1; have:=HG3.out; have:=HG2.out; have:=HG1.out; have:=HN.out; have:=HB.out; omega)) ((Touch.refl (fun _=>False) wx).alloc _) (fun _ _ h=>h)
     have hbs:g3+1≤wx.heap.size:=by have:=Ox.out.lt; omega
     clear tx hx
     refine hK.out _ _ (yx) (fun hHeld=>?_)
     clear hK K
     refine wpAnyH_ready (rs:=[1,5]) (by kernel_rfl) (by simp) ?_
     refine AllReadyH.cons rfl (fun K hK=>?_) (AllReadyH.cons rfl (fun K hK=>?_) AllReadyH.nil)
     ·go_simp
      refine hK.out _ _ (yx) (fun hHeld=>?_)
      clear hK K
      refine wpAnyH_ready (rs:=[5]) (by kernel_rfl) (by simp) ?_
      refine AllReadyH.cons rfl (fun K hK=>?_) AllReadyH.nil
      go_simp
      refine hK.out _ _ (yxa) (fun hHeld=>?_)
      clear hK K
      refine wpAnyH_ready (rs:=[6]) (by kernel_rfl) (by simp) ?_
      refine AllReadyH.cons rfl (fun K hK=>?_) AllReadyH.nil
      refine step_own (by rfl) (.tmp 12) (.tmp 16) 117 (by rfl) (g3+1) 23 (.int .u32 0) 1 4 Tryz.underlying117 Tryz.infoU rfl (by decide) (by decide) (.slice ra ws.length rc) ws.length (wordsC ws) (by rfl) OWx.out ⟨wx.heap.size,0,none⟩ 1 1 [.int .u32 X] (by rfl) rfl (fun j u hj=>by rw [add_plain]; cases j with | zero=>(simp at hj; subst hj; simp [go_sem]) | succ j=>simp at hj) (by simp [Value.oneCell']) (by have:=HWX.out; omega) (by simp; omega) ?_
      intro v' wv ov tv
      obtain ⟨va,vc,rfl⟩:=own_fm ov
      have yv:=(tv.cell (p:=⟨g1,0,none⟩) (lt_of_cell yxa) (fun e=>by have h1:g3+1≤g1:=(OWx.out.lt _ e).1; have:=HG3.out; have:=HG2.out; omega)).trans yxa
      have hnb:∀ k,k≤g3→¬ (Value.slice ra ws.length rc).ownBlock=some k:=fun k hk e=>by have:=(OWx.out.lt _ e).1; omega
      have Ov:OutB wv g3 ⟨0,[],M,ws,0,false,0,0,[]⟩ (.slice none 0 0) (.slice ra ws.length rc) (.slice none 0 0):=OutB.kept (X:=fun k=>k=g3) (Ox.out.keep ((Touch.refl _ _).alloc _)) (Touch.mono tv (fun i _ e hx=>hnb i (by omega) e)) rfl
      have Hv:Hid (Rdr N wv b rs qx):=(Hx.out.keep ((Touch.refl _ _).alloc _)).touch tv (fun k hk=>hnb k (by have:=HG3.out; have:=HG2.out; have:=HG1.out; have:=HN.out; omega))
      have Rv:Hid (Room wv g2 9):=(((HRM.out.keep TL.out).touch Tx.out hn2.out).keep ((Touch.refl _ _).alloc _)).touch tv (hnb g2 (by have:=HG3.out; omega))
      have Tv:Hid (Touch (fun j=>j=b∨j=g3) w2 wv):=(((HT2.out.trans (Touch.mono TL.out (fun _ _ h=>h.elim))).trans (Touch.mono Tx.out (fun _ _ h=>Or.inl h))).alloc _).trans' tv (fun i hi e=>by have h1:g3+1≤i:=(OWx.out.lt _ e).1; have h2:=HW2.out; omega)
      have OV:Hid (OutB wv g3 ⟨0,[],M,ws,0,false,0,0,[]⟩ (.slice none 0 0) (.slice ra ws.length rc) (.slice none 0 0)):=Ov
      have OWv:Hid (wv.ownsRow (g3+1) 23 1 (.slice va (ws.length+1) vc) (ws.length+1) (wordsC ws ++ [.int .u32 X])):=ov
      have d3v:wv.cell? ⟨g3,3,none⟩=some (.slice ra ws.length rc):=Ov.bd.c3
      have f3v:wv.frozen? ⟨g3,3,none⟩=false:=Ov.fz 3 (by omega)
      clear tv ov Ov Tx Hx OWx Ox hnb
      refine hK.out _ _ (yv) (fun hHeld=>?_)
      clear hK K
      refine wpAnyH_take (i:=7) (oi:=⟨some 18,_,_,_,_,_⟩) (v:=.pointer (some ⟨g3,3,none⟩)) rfl (by kernel_rfl) (by kernel_rfl) (by kernel_rfl) (fun _ _ _ h=>h) (Or.inl ⟨by rfl,fun w hw=>by go_simp⟩) (by assumption) ?_
      simp only [Act.put]
      refine wpAnyH_ready (rs:=[8]) (by kernel_rfl) (by simp) ?_
      refine AllReadyH.cons rfl (fun K hK=>?_) AllReadyH.nil
      go_simp
      refine hK.out _ _ ((cell_far hr13 0 3 _).trans yv) (fun hHeld=>?_)
      clear hK K
      refine wpAnyH_done (by kernel_rfl) ?_ _
      have YV:=(cell_far hr13 0 3 (.slice va (ws.length+1) vc)).trans yv
      clear d3v f3v yv yxa yx dx d3 y1 h1 O1
      go_wp2_with fail
      obtain ⟨k',hk',ns'⟩:=HNXh.out
      go_roundg k'
      case measure=>exact hk'
      case rel =>
       have e1:(ws ++ [X]).length=ws.length+1:=by simp
       refine ⟨qx,ws ++ [X],va,vc,?_,YV,?_,?_,?_,?_,ns',?_⟩
       ·exact Hv.out.touch (Touch.setCell (F:=fun k=>k=g3) (p:=⟨g3,3,none⟩) (Touch.refl _ _) (Or.inl rfl) _) (fun k hk e=>by have:=HG3.out; have:=HG2.out; have:=HN.out; omega)
       ·rw [e1]; exact OV.out.row3 (ws ++ [X]) _
       ·rw [e1,wordsC_append]; exact own_store OWv.out (by show g3<g3+1; omega) _
       ·exact Tv.out.setCell (Or.inl (Or.inr rfl)) _
       ·exact Rv.out.touch (Touch.setCell (F:=fun k=>k=g3) (p:=⟨g3,3,none⟩) (Touch.refl _ _) (Or.inl rfl) _) (fun e=>hr23 e)
       ·rw [e1]; have:=HWX.out; omega
     ·go_simp
      refine hK.out _ _ (yxa) (fun hHeld=>?_)
      clear hK K
      refine wpAnyH_ready (rs:=[1]) (by kernel_rfl) (by simp) ?_
      refine AllReadyH.cons rfl (fun K hK=>?_) AllReadyH.nil
      have dxa:(wx.alloc (.cells #[.int .u32 X] 23)).cell? ⟨g3,3,none⟩=some (.slice ra ws.length rc):=((Touch.refl _ _).alloc _).cellN dx
      go_simp
      refine hK.out _ _ (yxa) (fun hHeld=>?_)
      clear hK K
      clear dxa
      refine wpAnyH_ready (rs:=[6]) (by kernel_rfl) (by simp) ?_
      refine AllReadyH.cons rfl (fun K hK=>?_) AllReadyH.nil
      refine step_own (by rfl) (.tmp 12) (.tmp 16) 117 (by rfl) (g3+1) 23 (.int .u32 0) 1 4 Tryz.underlying117 Tryz.infoU rfl (by decide) (by decide) (.slice ra ws.length rc) ws.length (wordsC ws) (by rfl) OWx.out ⟨wx.heap.size,0,none⟩ 1 1 [.int .u32 X] (by rfl) rfl (fun j u hj=>by rw [add_plain]; cases j with | zero=>(simp at hj; subst hj; simp [go_sem]) | succ j=>simp at hj) (by simp [Value.oneCell']) (by have:=HWX.out; omega) (by simp; omega) ?_
      intro v' wv ov tv
      obtain ⟨va,vc,rfl⟩:=own_fm ov
      have yv:=(tv.cell (p:=⟨g1,0,none⟩) (lt_of_cell yxa) (fun e=>by have h1:g3+1≤g1:=(OWx.out.lt _ e).1; have:=HG3.out; have:=HG2.out; omega)).trans yxa
      have hnb:∀ k,k≤g3→¬ (Value.slice ra ws.length rc).ownBlock=some k:=fun k hk e=>by have:=(OWx.out.lt _ e).1; omega
      have Ov:OutB wv g3 ⟨0,[],M,ws,0,false,0,0,[]⟩ (.slice none 0 0) (.slice ra ws.length rc) (.slice none 0 0):=OutB.kept (X:=fun k=>k=g3) (Ox.out.keep ((Touch.refl _ _).alloc _)) (Touch.mono tv (fun i _ e hx=>hnb i (by omega) e)) rfl
      have Hv:Hid (Rdr N wv b rs qx):=(Hx.out.keep ((Touch.refl _ _).alloc _)).touch tv (fun k hk=>hnb k (by have:=HG3.out; have:=HG2.out; have:=HG1.out; have:=HN.out; omega))
      have Rv:Hid (Room wv g2 9):=(((HRM.out.keep TL.out).touch Tx.out hn2.out).keep ((Touch.refl _ _).alloc _)).touch tv (hnb g2 (by have:=HG3.out; omega))
      have Tv:Hid (Touch (fun j=>j=b∨j=g3) w2 wv):=(((HT2.out.trans (Touch.mono TL.out (fun _ _ h=>h.elim))).trans (Touch.mono Tx.out (fun _ _ h=>Or.inl h))).alloc _).trans' tv (fun i hi e=>by have h1:g3+1≤i:=(OWx.out.lt _ e).1; have h2:=HW2.out; omega)
      have OV:Hid (OutB wv g3 ⟨0,[],M,ws,0,false,0,0,[]⟩ (.slice none 0 0) (.slice ra ws.length rc) (.slice none 0 0)):=Ov
      have OWv:Hid (wv.ownsRow (g3+1) 23 1 (.slice va (ws.length+1) vc) (ws.length+1) (wordsC ws ++ [.int .u32 X])):=ov
      have d3v:wv.cell? ⟨g3,3,none⟩=some (.slice ra ws.length rc):=Ov.bd.c3
      have f3v:wv.frozen? ⟨g3,3,none⟩=false:=Ov.fz 3 (by omega)
      clear tv ov Ov Tx Hx OWx Ox hnb
      refine hK.out _ _ (yv) (fun hHeld=>?_)
      clear hK K
      refine wpAnyH_take (i:=7) (oi:=⟨some 18,_,_,_,_,_⟩) (v:=.pointer (some ⟨g3,3,none⟩)) rfl (by kernel_rfl) (by kernel_rfl) (by kernel_rfl) (fun _ _ _ h=>h) (Or.inl ⟨by rfl,fun w hw=>by go_simp⟩) (by assumption) ?_
      simp only [Act.put]
      refine wpAnyH_ready (rs:=[8]) (by kernel_rfl) (by simp) ?_
      refine AllReadyH.cons rfl (fun K hK=>?_) AllReadyH.nil
      go_simp
      refine hK.out _ _ ((cell_far hr13 0 3 _).trans yv) (fun hHeld=>?_)
      clear hK K
      refine wpAnyH_done (by kernel_rfl) ?_ _
      have YV:=(cell_far hr13 0 3 (.slice va (ws.length+1) vc)).trans yv
      clear d3v f3v yv yxa yx dx d3 y1 h1 O1
      go_wp2_with fail
      obtain ⟨k',hk',ns'⟩:=HNXh.out
      go_roundg k'
      case measure=>exact hk'
      case rel =>
       have e1:(ws ++ [X]).length=ws.length+1:=by simp
       refine ⟨qx,ws ++ [X],va,vc,?_,YV,?_,?_,?_,?_,ns',?_⟩
       ·exact Hv.out.touch (Touch.setCell (F:=fun k=>k=g3) (p:=⟨g3,3,none⟩) (Touch.refl _ _) (Or.inl rfl) _) (fun k hk e=>by have:=HG3.out; have:=HG2.out; have:=HN.out; omega)
       ·rw [e1]; exact OV.out.row3 (ws ++ [X]) _
       ·rw [e1,wordsC_append]; exact own_store OWv.out (by show g3<g3+1; omega) _
       ·exact Tv.out.setCell (Or.inl (Or.inr rfl)) _
       ·exact Rv.out.touch (Touch.setCell (F:=fun k=>k=g3) (p:=⟨g3,3,none⟩) (Touch.refl _ _) (Or.inl rfl) _) (fun e=>hr23 e)
       ·rw [e1]; have:=HWX.out; omega
   ·obtain rfl:p=rs.length:=by omega
    have hzz:((rs.length:Int) - (rs.length:Int))=0:=by omega
    have HLF:∀ (w:World),Rdr N w b rs (some rs.length)→Calls Tryz.prog 179 #[.pointer (some ⟨b,0,none⟩)] w fun e w'=>e=.returned (.int .i64 0)∧∃ n,w'=w.drewN n:=fun w h=>by
     have:=left_some N b rs.length rs w h
     rwa [hzz] at this
    have HRR:Hid (readRouters ((rs.drop 4).take (4 * ws.length))=ws):=hrr
    have HPL:Hid (rs.length=4+4 * ws.length):=hp
    clear hzz hk hp hpl hrr hlt ns
    go_wp2_with fail
    refine Calls.mono (HLF _ HRD.out) ?_
    rintro e wl ⟨rfl,nl,hwl⟩
    have tl:Touch (fun _=>False) wr wl:=hwl ▸ (Touch.refl _ _).drewN nl
    clear hwl
    have O1:Hid (OutB wl g3 ⟨0,[],M,ws,0,false,0,0,[]⟩ (.slice none 0 0) (.slice ra ws.length rc) (.slice none 0 0)):=HOB.out.keep tl
    have RD1:Hid (Rdr N wl b rs (some rs.length)):=HRD.out.keep tl
    have RM1:Hid (Room wl g2 9):=HRM.out.keep tl
    have OW1:Hid (wl.ownsRow (g3+1) 23 1 (.slice ra ws.length rc) ws.length (wordsC ws)):=own_touch HOW.out tl (fun _ _ h=>h)
    have TT:Hid (Touch (fun k=>k=b) w wl):=(T0.out.trans' HT2.out (fun i hi e=>by have:=HG3.out; have:=HG2.out; have:=HG1.out; omega)).trans (Touch.mono tl (fun _ _ h=>h.elim))
    obtain ⟨⟨d0,d1,d2,d3,d4,d5,d6,d7,d8⟩,-⟩:=O1.out
    dsimp only at d0 d1 d2 d3 d4 d5 d6 d7 d8
    clear tl y0 HOB HRD HRM HOW HT2 HLF
    have hwb:ws.length≤1000000:=by have:=HWL.out; omega
    by_cases h0:0<ws.length
    ·have h0':(0:Int)<(ws.length:Int):=by omega
     have H0:Hid (0<ws.length):=h0
     clear h0
     go_wp2_with fail
     refine Calls.mono (need_t _ 28 _ (by first | rfl | exact decide_eq_true H0.out)) ?_
     rintro e wn ⟨rfl,rfl⟩
     clear h0'
     obtain ⟨zz0,zc0,zf0⟩:=RM1.out 0 (by omega)
     obtain ⟨zz1,zc1,zf1⟩:=RM1.out 1 (by omega)
     obtain ⟨zz2,zc2,zf2⟩:=RM1.out 2 (by omega)
     obtain ⟨zz3,zc3,zf3⟩:=RM1.out 3 (by omega)
     obtain ⟨zz4,zc4,zf4⟩:=RM1.out 4 (by omega)
     obtain ⟨zz5,zc5,zf5⟩:=RM1.out 5 (by omega)
     obtain ⟨zz6,zc6,zf6⟩:=RM1.out 6 (by omega)
     obtain ⟨zz7,zc7,zf7⟩:=RM1.out 7 (by omega)
     obtain ⟨zz8,zc8,zf8⟩:=RM1.out 8 (by omega)
     obtain ⟨wz,hwz⟩:∃ wz,wz=(((((((((wl.setCell ⟨g2,0,none⟩ (.int .u8 0)).setCell ⟨g2,1,none⟩ (.slice none 0 0)).setCell ⟨g2,2,none⟩ (.int .u32 M)).setCell ⟨g2,3,none⟩ (.slice ra ws.length rc)).setCell ⟨g2,4,none⟩ (.int .u32 0)).setCell ⟨g2,5,none⟩ (.bool false)).setCell ⟨g2,6,none⟩ (.int .u32 0)).setCell ⟨g2,7,none⟩ (.int .u32 0)).setCell ⟨g2,8,none⟩ (.slice none 0 0)):=⟨_,rfl⟩
     have zd0:wz.cell? ⟨g2,0,none⟩=some (.int .u8 0):=by rw [hwz]; simp [zc0,go_sem]
     have zd1:wz.cell? ⟨g2,1,none⟩=some (.slice none 0 0):=by rw [hwz]; simp [zc1,go_sem]
     have zd2:wz.cell? ⟨g2,2,none⟩=some (.int .u32 M):=by rw [hwz]; simp [zc2,go_sem]
     have zd3:wz.cell? ⟨g2,3,none⟩=some (.slice ra ws.length rc):=by rw [hwz]; simp [zc3,go_sem]
     have zd4:wz.cell? ⟨g2,4,none⟩=some (.int .u32 0):=by rw [hwz]; simp [zc4,go_sem]
     have zd5:wz.cell? ⟨g2,5,none⟩=some (.bool false):=by rw [hwz]; simp [zc5,go_sem]
     have zd6:wz.cell? ⟨g2,6,none⟩=some (.int .u32 0):=by rw [hwz]; simp [zc6,go_sem]
     have zd7:wz.cell? ⟨g2,7,none⟩=some (.int .u32 0):=by rw [hwz]; simp [zc7,go_sem]
     have zd8:wz.cell? ⟨g2,8,none⟩=some (.slice none 0 0):=by rw [hwz]; simp [zc8,go_sem]
     have HUz:Hid (Touch (fun k=>k=g2) wl wz):=by show Touch _ _ _; rw [hwz]; refine Touch.setCell (F:=fun k=>k=g2) (p:=⟨g2,8,none⟩) ?_ (Or.inl rfl) _; refine Touch.setCell (F:=fun k=>k=g2) (p:=⟨g2,7,none⟩) ?_ (Or.inl rfl) _; refine Touch.setCell (F:=fun k=>k=g2) (p:=⟨g2,6,none⟩) ?_ (Or.inl rfl) _; refine Touch.setCell (F:=fun k=>k=g2) (p:=⟨g2,5,none⟩) ?_ (Or.inl rfl) _; refine Touch.setCell (F:=fun k=>k=g2) (p:=⟨g2,4,none⟩) ?_ (Or.inl rfl) _; refine Touch.setCell (F:=fun k=>k=g2) (p:=⟨g2,3,none⟩) ?_ (Or.inl rfl) _; refine Touch.setCell (F:=fun k=>k=g2) (p:=⟨g2,2,none⟩) ?_ (Or.inl rfl) _; refine Touch.setCell (F:=fun k=>k=g2) (p:=⟨g2,1,none⟩) ?_ (Or.inl rfl) _; refine Touch.setCell (F:=fun k=>k=g2) (p:=⟨g2,0,none⟩) ?_ (Or.inl rfl) _; exact Touch.refl _ _
     have HWz:Hid (wz=(((((((((wl.setCell ⟨g2,0,none⟩ (.int .u8 0)).setCell ⟨g2,1,none⟩ (.slice none 0 0)).setCell ⟨g2,2,none⟩ (.int .u32 M)).setCell ⟨g2,3,none⟩ (.slice ra ws.length rc)).setCell ⟨g2,4,none⟩ (.int .u32 0)).setCell ⟨g2,5,none⟩ (.bool false)).setCell ⟨g2,6,none⟩ (.int .u32 0)).setCell ⟨g2,7,none⟩ (.int .u32 0)).setCell ⟨g2,8,none⟩ (.slice none 0 0))):=hwz
     clear hwz
     go_wp2_with fail
     rw [← HWz.out]
     clear HWz zc0 zf0 zc1 zf1 zc2 zf2 zc3 zf3 zc4 zf4 zc5 zf5 zc6 zf6 zc7 zf7 zc8 zf8
     refine bodyPost_ret (v:=.agg #[.int .u8 0,.slice none 0 0,.int .u32 M,.slice ra ws.length rc,.int .u32 0,.bool false,.int .u32 0,.int .u32 0,.slice none 0 0]) (by simp [results,Tryz.results209,go_sem,zd0,zd1,zd2,zd3,zd4,zd5,zd6,zd7,zd8]) rfl ?_
     refine Or.inl ⟨⟨0,[],M,ws,0,false,0,0,[]⟩,_,_,_,some rs.length,rfl,RD1.out.touch HUz.out (fun k hk e=>by have:=HG2.out; have:=HG1.out; have:=HN.out; omega),⟨World.ownsRow_nil _ _ _ _,own_lower (own_touch OW1.out HUz.out (fun k hk e=>by have:=(OW1.out.lt k hk).1; have:=HG3.out; omega)) (by have:=HG3.out; have:=HG2.out; have:=HG1.out; omega),World.ownsRow_nil _ _ _ _⟩,TT.out.trans' HUz.out (fun i hi e=>by have:=HG2.out; have:=HG1.out; omega),?_⟩
     rw [if_pos rfl]; exact ALL.out ws HMz.out HPL.out.symm H0.out HRR.out
    ·have h0':¬ (0:Int)<(ws.length:Int):=by omega
     have H0:Hid (¬ 0<ws.length):=h0
     clear h0
     go_wp2_with fail
     refine Calls.mono (need_f _ 28 _ (by first | rfl | exact decide_eq_false H0.out)) ?_
     rintro e wn ⟨rfl,rfl⟩
     exact ⟨rfl,Or.inr ⟨rfl,TT.out,dec2_norouters (by have:=HPL.out; have:=H0.out; omega)⟩⟩
  ·have HLF:=fun w h=>left_none N b rs w h
   have HBD:Hid (rs.length<4∨(rs.length - 4) % 4≠0):=hbad
   clear hk hbad ns
   go_wp2_with fail
   refine Calls.mono (HLF _ HRD.out) ?_
   rintro e wl ⟨rfl,nl,hwl⟩
   have tl:Touch (fun _=>False) wr wl:=hwl ▸ (Touch.refl _ _).drewN nl
   clear hwl
   have O1:Hid (OutB wl g3 ⟨0,[],M,ws,0,false,0,0,[]⟩ (.slice none 0 0) (.slice ra ws.length rc) (.slice none 0 0)):=HOB.out.keep tl
   have RD1:Hid (Rdr N wl b rs (none)):=HRD.out.keep tl
   have RM1:Hid (Room wl g2 9):=HRM.out.keep tl
   have OW1:Hid (wl.ownsRow (g3+1) 23 1 (.slice ra ws.length rc) ws.length (wordsC ws)):=own_touch HOW.out tl (fun _ _ h=>h)
   have TT:Hid (Touch (fun k=>k=b) w wl):=(T0.out.trans' HT2.out (fun i hi e=>by have:=HG3.out; have:=HG2.out; have:=HG1.out; omega)).trans (Touch.mono tl (fun _ _ h=>h.elim))
   obtain ⟨⟨d0,d1,d2,d3,d4,d5,d6,d7,d8⟩,-⟩:=O1.out
   dsimp only at d0 d1 d2 d3 d4 d5 d6 d7 d8
   clear tl y0 HOB HRD HRM HOW HT2 HLF
   have hwb:ws.length≤1000000:=by have:=HWL.out; omega
   by_cases h0:0<ws.length
   ·have h0':(0:Int)<(ws.length:Int):=by omega
    have H0:Hid (0<ws.length):=h0
    clear h0
    go_wp2_with fail
    refine Calls.mono (need_t _ 28 _ (by first | rfl | exact decide_eq_true H0.out)) ?_
    rintro e wn ⟨rfl,rfl⟩
    clear h0'
    obtain ⟨zz0,zc0,zf0⟩:=RM1.out 0 (by omega)
    obtain ⟨zz1,zc1,zf1⟩:=RM1.out 1 (by omega)
    obtain ⟨zz2,zc2,zf2⟩:=RM1.out 2 (by omega)
    obtain ⟨zz3,zc3,zf3⟩:=RM1.out 3 (by omega)
    obtain ⟨zz4,zc4,zf4⟩:=RM1.out 4 (by omega)
    obtain ⟨zz5,zc5,zf5⟩:=RM1.out 5 (by omega)
    obtain ⟨zz6,zc6,zf6⟩:=RM1.out 6 (by omega)
    obtain ⟨zz7,zc7,zf7⟩:=RM1.out 7 (by omega)
    obtain ⟨zz8,zc8,zf8⟩:=RM1.out 8 (by omega)
    obtain ⟨wz,hwz⟩:∃ wz,wz=(((((((((wl.setCell ⟨g2,0,none⟩ (.int .u8 0)).setCell ⟨g2,1,none⟩ (.slice none 0 0)).setCell ⟨g2,2,none⟩ (.int .u32 M)).setCell ⟨g2,3,none⟩ (.slice ra ws.length rc)).setCell ⟨g2,4,none⟩ (.int .u32 0)).setCell ⟨g2,5,none⟩ (.bool false)).setCell ⟨g2,6,none⟩ (.int .u32 0)).setCell ⟨g2,7,none⟩ (.int .u32 0)).setCell ⟨g2,8,none⟩ (.slice none 0 0)):=⟨_,rfl⟩
    have zd0:wz.cell? ⟨g2,0,none⟩=some (.int .u8 0):=by rw [hwz]; simp [zc0,go_sem]
    have zd1:wz.cell? ⟨g2,1,none⟩=some (.slice none 0 0):=by rw [hwz]; simp [zc1,go_sem]
    have zd2:wz.cell? ⟨g2,2,none⟩=some (.int .u32 M):=by rw [hwz]; simp [zc2,go_sem]
    have zd3:wz.cell? ⟨g2,3,none⟩=some (.slice ra ws.length rc):=by rw [hwz]; simp [zc3,go_sem]
    have zd4:wz.cell? ⟨g2,4,none⟩=some (.int .u32 0):=by rw [hwz]; simp [zc4,go_sem]
    have zd5:wz.cell? ⟨g2,5,none⟩=some (.bool false):=by rw [hwz]; simp [zc5,go_sem]
    have zd6:wz.cell? ⟨g2,6,none⟩=some (.int .u32 0):=by rw [hwz]; simp [zc6,go_sem]
    have zd7:wz.cell? ⟨g2,7,none⟩=some (.int .u32 0):=by rw [hwz]; simp [zc7,go_sem]
    have zd8:wz.cell? ⟨g2,8,none⟩=some (.slice none 0 0):=by rw [hwz]; simp [zc8,go_sem]
    have HUz:Hid (Touch (fun k=>k=g2) wl wz):=by show Touch _ _ _; rw [hwz]; refine Touch.setCell (F:=fun k=>k=g2) (p:=⟨g2,8,none⟩) ?_ (Or.inl rfl) _; refine Touch.setCell (F:=fun k=>k=g2) (p:=⟨g2,7,none⟩) ?_ (Or.inl rfl) _; refine Touch.setCell (F:=fun k=>k=g2) (p:=⟨g2,6,none⟩) ?_ (Or.inl rfl) _; refine Touch.setCell (F:=fun k=>k=g2) (p:=⟨g2,5,none⟩) ?_ (Or.inl rfl) _; refine Touch.setCell (F:=fun k=>k=g2) (p:=⟨g2,4,none⟩) ?_ (Or.inl rfl) _; refine Touch.setCell (F:=fun k=>k=g2) (p:=⟨g2,3,none⟩) ?_ (Or.inl rfl) _; refine Touch.setCell (F:=fun k=>k=g2) (p:=⟨g2,2,none⟩) ?_ (Or.inl rfl) _; refine Touch.setCell (F:=fun k=>k=g2) (p:=⟨g2,1,none⟩) ?_ (Or.inl rfl) _; refine Touch.setCell (F:=fun k=>k=g2) (p:=⟨g2,0,none⟩) ?_ (Or.inl rfl) _; exact Touch.refl _ _
    have HWz:Hid (wz=(((((((((wl.setCell ⟨g2,0,none⟩ (.int .u8 0)).setCell ⟨g2,1,none⟩ (.slice none 0 0)).setCell ⟨g2,2,none⟩ (.int .u32 M)).setCell ⟨g2,3,none⟩ (.slice ra ws.length rc)).setCell ⟨g2,4,none⟩ (.int .u32 0)).setCell ⟨g2,5,none⟩ (.bool false)).setCell ⟨g2,6,none⟩ (.int .u32 0)).setCell ⟨g2,7,none⟩ (.int .u32 0)).setCell ⟨g2,8,none⟩ (.slice none 0 0))):=hwz
    clear hwz
    go_wp2_with fail
    rw [← HWz.out]
    clear HWz zc0 zf0 zc1 zf1 zc2 zf2 zc3 zf3 zc4 zf4 zc5 zf5 zc6 zf6 zc7 zf7 zc8 zf8
    refine bodyPost_ret (v:=.agg #[.int .u8 0,.slice none 0 0,.int .u32 M,.slice ra ws.length rc,.int .u32 0,.bool false,.int .u32 0,.int .u32 0,.slice none 0 0]) (by simp [results,Tryz.results209,go_sem,zd0,zd1,zd2,zd3,zd4,zd5,zd6,zd7,zd8]) rfl ?_
    refine Or.inl ⟨⟨0,[],M,ws,0,false,0,0,[]⟩,_,_,_,none,rfl,RD1.out.touch HUz.out (fun k hk e=>by have:=HG2.out; have:=HG1.out; have:=HN.out; omega),⟨World.ownsRow_nil _ _ _ _,own_lower (own_touch OW1.out HUz.out (fun k hk e=>by have:=(OW1.out.lt k hk).1; have:=HG3.out; omega)) (by have:=HG3.out; have:=HG2.out; have:=HG1.out; omega),World.ownsRow_nil _ _ _ _⟩,TT.out.trans' HUz.out (fun i hi e=>by have:=HG2.out; have:=HG1.out; omega),?_⟩
    rw [if_neg (by simp)]; exact dec2_none HBD.out
   ·have h0':¬ (0:Int)<(ws.length:Int):=by omega
    have H0:Hid (¬ 0<ws.length):=h0
    clear h0
    go_wp2_with fail
    refine Calls.mono (need_f _ 28 _ (by first | rfl | exact decide_eq_false H0.out)) ?_
    rintro e wn ⟨rfl,rfl⟩
    exact ⟨rfl,Or.inr ⟨rfl,TT.out,dec2_none HBD.out⟩⟩
end Go.Proofs.YtddbffoiadmffaaGreat
