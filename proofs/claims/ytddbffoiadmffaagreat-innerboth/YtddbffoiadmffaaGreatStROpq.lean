import Derived.Test.YtddbffoiadmffaaGreatStRd4
import Derived.Deep.RegionHeld2
import Derived.Deep.RegionHeld3
import Derived.Test.YtddbffoiadmffaaGreatOwnUn
import Derived.Test.YtddbffoiadmffaaGreatStEnc1
namespace Go.Proofs.YtddbffoiadmffaaGreat
open Go.RowKit
set_option linter.unusedVariables false
set_option maxRecDepth 100000
theorem at16 {rs:List Int} (hl:rs.length=16):∃ a b c d e f g i j k m n o p q r,rs=[a,b,c,d,e,f,g,i,j,k,m,n,o,p,q,r]∧numAt rs (some 0) 4=numOf [a,b,c,d]∧numAt rs (nextAt rs (some 0) 4) 1=e∧numAt rs (nextAt rs (nextAt rs (some 0) 4) 1) 3=numOf [f,g,i]∧numAt rs (nextAt rs (nextAt rs (nextAt rs (some 0) 4) 1) 3) 4=numOf [j,k,m,n]∧numAt rs (nextAt rs (nextAt rs (nextAt rs (nextAt rs (some 0) 4) 1) 3) 4) 4=numOf [o,p,q,r]:=by
 obtain ⟨a,b,c,d,e,f,g,i,j,k,m,n,o,p,q,r,rfl⟩:=list16 hl
 refine ⟨a,b,c,d,e,f,g,i,j,k,m,n,o,p,q,r,rfl,?_,?_,?_,?_,?_⟩
 ·simp [numAt]
 ·simp [numAt,nextAt,numOf1]
 ·simp [numAt,nextAt]
 ·simp [numAt,nextAt]
 ·simp [numAt,nextAt]
theorem q16 (rs:List Int):nextAt rs (nextAt rs (nextAt rs (nextAt rs (nextAt rs (some 0) 4) 1) 3) 4) 4=nextAt rs (some 0) 16:=by rw [nextAt_add,nextAt_add,nextAt_add,nextAt_add]
theorem q16_len {rs:List Int}:nextAt rs (some 0) 16=some rs.length↔rs.length=16:=by
 unfold nextAt
 dsimp only
 split
 ·simp; omega
 ·simp; omega
theorem out_yes {t:Int} (ht:t=5∨t=7) {rs:List Int} (hb:∀ z∈rs,0≤z∧z<256) (hm:pbok (numAt rs (some 0) 4)=true) (hz:numAt rs (nextAt rs (some 0) 4) 1=0∨numAt rs (nextAt rs (some 0) 4) 1=128) :
  decB t rs=(if nextAt rs (nextAt rs (nextAt rs (nextAt rs (nextAt rs (some 0) 4) 1) 3) 4) 4=some rs.length then some ⟨0,[],numAt rs (some 0) 4,[],numAt rs (nextAt rs (nextAt rs (some 0) 4) 1) 3,numAt rs (nextAt rs (some 0) 4) 1 == 128,numAt rs (nextAt rs (nextAt rs (nextAt rs (some 0) 4) 1) 3) 4,numAt rs (nextAt rs (nextAt rs (nextAt rs (nextAt rs (some 0) 4) 1) 3) 4) 4,[]⟩ else none):=by
 by_cases h8:rs.length=16
 ·obtain ⟨a,b,c,d,e,f,g,i,j,k,m,n,o,p,q,r,hrs,e1,e2,e3,e4,e5⟩:=at16 h8
  rw [q16,if_pos (q16_len.2 h8),e1,e2,e3,e4,e5]
  rw [e1] at hm
  rw [e2] at hz
  rw [hrs] at hb ⊢
  rw [dec5_eq ht hb,if_pos ⟨hm,hz⟩]
 ·rw [q16,if_neg (fun h=>h8 (q16_len.1 h)),dec57_len ht h8]
theorem out_no {t:Int} (ht:t=5∨t=7) {rs:List Int} (hb:∀ z∈rs,0≤z∧z<256) (h:pbok (numAt rs (some 0) 4)=false∨¬ (numAt rs (nextAt rs (some 0) 4) 1=0∨numAt rs (nextAt rs (some 0) 4) 1=128)):decB t rs=none:=by
 by_cases h8:rs.length=16
 ·obtain ⟨a,b,c,d,e,f,g,i,j,k,m,n,o,p,q,r,hrs,e1,e2,e3,e4,e5⟩:=at16 h8
  rw [e1,e2] at h
  rw [hrs] at hb ⊢
  rw [dec5_eq ht hb,if_neg]
  rintro ⟨h1,h2⟩
  rcases h with h | h
  ·rw [h1] at h; cases h
  ·exact h h2
 ·exact dec57_len ht h8
set_option maxHeartbeats 4000000 in
theorem router_any (t:Int) (ht:t=5∨t=7) (N b:Nat) (rs:List Int) (w:World) (h:Rdr N w b rs (some 0)) (hN:N≤w.heap.size) :
  Calls Tryz.prog 203 #[.agg #[.pointer (some ⟨b,0,none⟩)]] w (RdPost t N b rs w):=by
 have hlow:=h.low
 have YES:Hid (_→_→_):=@out_yes t ht rs h.byte
 have NO:Hid (_→decB t rs=none):=@out_no t ht rs h.byte
 have H1:=fun w h=>rmask_any N b rs (some 0) w h
 have H2:=fun w h=>rnum1 N b rs (nextAt rs (some 0) 4) w h
 have H3:=fun w h=>rmetric_any N b rs (nextAt rs (nextAt rs (some 0) 4) 1) w h
 have H4:=fun w h=>rnum4 N b rs (nextAt rs (nextAt rs (nextAt rs (some 0) 4) 1) 3) w h
 have H5:=fun w h=>rnum4 N b rs (nextAt rs (nextAt rs (nextAt rs (nextAt rs (some 0) 4) 1) 3) 4) w h
 clear ht
 generalize numAt rs (some 0) 4=M at *
 generalize nextAt rs (some 0) 4=q1 at *
 generalize numAt rs q1 1=K at *
 generalize nextAt rs q1 1=q2 at *
 generalize numAt rs q2 3=C at *
 generalize nextAt rs q2 3=q3 at *
 generalize numAt rs q3 4=Fw at *
 generalize nextAt rs q3 4=q4 at *
 generalize numAt rs q4 4=Tg at *
 generalize nextAt rs q4 4=q5 at *
 go_enter Tryz.func203,Tryz.ntmps203
 go_upto_region 1 with fail
 have T1:Hid (Touch (fun k=>k=b) w (((w.alloc (.cells #[.pointer (some ⟨b,0,none⟩)] 298)).alloc (.cells #[.int .u8 0,.slice none 0 0,.int .u32 0,.slice none 0 0,.int .u32 0,.bool false,.int .u32 0,.int .u32 0,.slice none 0 0] 119))).drew):=(((Touch.refl _ w).alloc _).alloc _).drew
 have h1:Rdr N (((w.alloc (.cells #[.pointer (some ⟨b,0,none⟩)] 298)).alloc (.cells #[.int .u8 0,.slice none 0 0,.int .u32 0,.slice none 0 0,.int .u32 0,.bool false,.int .u32 0,.int .u32 0,.slice none 0 0] 119))).drew b rs (some 0):=h.keep ((((Touch.refl _ w).alloc _).alloc _).drew)
 have y0:(((w.alloc (.cells #[.pointer (some ⟨b,0,none⟩)] 298)).alloc (.cells #[.int .u8 0,.slice none 0 0,.int .u32 0,.slice none 0 0,.int .u32 0,.bool false,.int .u32 0,.int .u32 0,.slice none 0 0] 119))).drew.cell? ⟨w.heap.size,0,none⟩=some (.pointer (some ⟨b,0,none⟩)):=by simp [go_sem]
 have R1:Hid (Room (((w.alloc (.cells #[.pointer (some ⟨b,0,none⟩)] 298)).alloc (.cells #[.int .u8 0,.slice none 0 0,.int .u32 0,.slice none 0 0,.int .u32 0,.bool false,.int .u32 0,.int .u32 0,.slice none 0 0] 119))).drew (w.heap.size+1) 9):=by
  have:=(Room.new (w.alloc (.cells #[.pointer (some ⟨b,0,none⟩)] 298)) #[.int .u8 0,.slice none 0 0,.int .u32 0,.slice none 0 0,.int .u32 0,.bool false,.int .u32 0,.int .u32 0,.slice none 0 0] 119).keep ((Touch.refl _ _).drew)
  show Room _ _ _
  simpa using this
 have hn1:Hid (¬ w.heap.size=b):=by show ¬ _; omega
 have hn2:Hid (¬ w.heap.size+1=b):=by show ¬ _; omega
 have HN:Hid (N≤w.heap.size):=hN
 generalize hg2:w.heap.size+1=g2 at *
 generalize ((w.alloc (.cells #[.pointer (some ⟨b,0,none⟩)] 298)).alloc (.cells #[.int .u8 0,.slice none 0 0,.int .u32 0,.slice none 0 0,.int .u32 0,.bool false,.int .u32 0,.int .u32 0,.slice none 0 0] 119))=w1 at *
 clear h hN hlow
 generalize hg1:w.heap.size=g1 at *
 have HG1:Hid (w.heap.size=g1):=hg1
 have HG2:Hid (g1+1=g2):=hg2
 clear hg1 hg2
 have hr2:g1≠g2:=by have:=HG2.out; omega
 go_region_held2 (fun w'=>w'.cell? ⟨g1,0,none⟩=some (.pointer (some ⟨b,0,none⟩))) (first | with_reducible exact y0 | with_reducible exact yx | with_reducible exact yy) (first
  | (go_at_call 233; refine Calls.mono (H1 _ h1) ?_; rintro e wx (⟨rfl,hM,hx,tx⟩ | ⟨rfl,hM,tx⟩); rotate_left; exact ⟨rfl,Or.inr ⟨rfl,T1.out.trans tx,NO.out (Or.inl hM)⟩⟩; have yx:=(tx.cell (p:=⟨g1,0,none⟩) (lt_of_cell y0) hn1.out).trans y0; have Tx:Hid (Touch (fun k=>k=b) w wx):=T1.out.trans tx; have Rx:Hid (Room wx g2 9):=R1.out.touch tx hn2.out; have HMM:Hid (pbok M=true):=hM; clear tx hM)
  | (go_at_call 234; refine Calls.mono (H2 _ hx) ?_; rintro e wy ⟨rfl,hy,ty⟩; have yy:=(ty.cell (p:=⟨g1,0,none⟩) (lt_of_cell yx) hn1.out).trans yx; have Ty:Hid (Touch (fun k=>k=b) w wy):=Tx.out.trans ty; have Ry:Hid (Room wy g2 9):=Rx.out.touch ty hn2.out; clear ty))
 clear H1 H2 h1 hx y0 yx T1 Tx R1 Rx
 by_cases hk:K=0∨K=128
 ·have HK:Hid (K=0∨K=128):=hk
  have hkk:((K == 0)=true)∨((K == 0)=false∧(K == 128)=true):=by
   rcases hk with rfl | rfl
   ·exact Or.inl rfl
   ·exact Or.inr ⟨rfl,rfl⟩
  clear hk
  have h1:Rdr N wy.drew b rs q2:=hy.keep ((Touch.refl _ _).drew)
  have y0:wy.drew.cell? ⟨g1,0,none⟩=some (.pointer (some ⟨b,0,none⟩)):=yy
  have T1:Hid (Touch (fun k=>k=b) w wy.drew):=Ty.out.drew
  have R1:Hid (Room wy.drew g2 9):=Ry.out.keep ((Touch.refl _ _).drew)
  clear hy Ty Ry
  rcases hkk with hk0 | ⟨hk0,hk1⟩
  ·go_upto_region 3 with (go_at_call 140; refine Calls.mono (need_t _ 28 _ (by first | rfl | exact hk1)) ?_; rintro e wn ⟨rfl,rfl⟩)
   clear yy hk0
   go_region_held3 (fun w'=>w'.cell? ⟨g1,0,none⟩=some (.pointer (some ⟨b,0,none⟩))) (first | with_reducible exact y0 | with_reducible exact yx | with_reducible exact yv | with_reducible exact yz | with_reducible exact (cell_far9 hr2 0 _ _ _ _ _ _ _ _ _).trans yz) (first
    | (go_at_call 235; refine Calls.mono (H3 _ h1) ?_; rintro e wx ⟨rfl,hx,tx⟩; have yx:=(tx.cell (p:=⟨g1,0,none⟩) (lt_of_cell y0) hn1.out).trans y0; have Tx:Hid (Touch (fun k=>k=b) w wx):=T1.out.trans tx; have Rx:Hid (Room wx g2 9):=R1.out.touch tx hn2.out; clear tx)
    | (go_at_call 234; refine Calls.mono (H4 _ hx) ?_; rintro e wv ⟨rfl,hv,tv⟩; have yv:=(tv.cell (p:=⟨g1,0,none⟩) (lt_of_cell yx) hn1.out).trans yx; have Tv:Hid (Touch (fun k=>k=b) w wv):=Tx.out.trans tv; have Rv:Hid (Room wv g2 9):=Rx.out.touch tv hn2.out; clear tv)
    | (go_at_call 234; refine Calls.mono (H5 _ hv) ?_; rintro e w5 ⟨rfl,h5,t5⟩; have yz:=(t5.cell (p:=⟨g1,0,none⟩) (lt_of_cell yv) hn1.out).trans yv; have T5:Hid (Touch (fun k=>k=b) w w5):=Tv.out.trans t5; have R9:=Rv.out.touch t5 hn2.out; have HR5:Hid (Rdr N w5 b rs q5):=h5; clear t5 h5; obtain ⟨zz0,zc0,zf0⟩:=R9 0 (by omega); obtain ⟨zz1,zc1,zf1⟩:=R9 1 (by omega); obtain ⟨zz2,zc2,zf2⟩:=R9 2 (by omega); obtain ⟨zz3,zc3,zf3⟩:=R9 3 (by omega); obtain ⟨zz4,zc4,zf4⟩:=R9 4 (by omega); obtain ⟨zz5,zc5,zf5⟩:=R9 5 (by omega); obtain ⟨zz6,zc6,zf6⟩:=R9 6 (by omega); obtain ⟨zz7,zc7,zf7⟩:=R9 7 (by omega); obtain ⟨zz8,zc8,zf8⟩:=R9 8 (by omega); clear R9))
   clear H3 H4 H5 h1 hx hv y0 yx yv yz T1 Tx Tv R1 Rx Rv
   obtain ⟨wz,hwz⟩:∃ wz,wz=(((((((((w5.setCell ⟨g2,0,none⟩ (.int .u8 0)).setCell ⟨g2,1,none⟩ (.slice none 0 0)).setCell ⟨g2,2,none⟩ (.int .u32 M)).setCell ⟨g2,3,none⟩ (.slice none 0 0)).setCell ⟨g2,4,none⟩ (.int .u32 C)).setCell ⟨g2,5,none⟩ (.bool (K == 128))).setCell ⟨g2,6,none⟩ (.int .u32 Fw)).setCell ⟨g2,7,none⟩ (.int .u32 Tg)).setCell ⟨g2,8,none⟩ (.slice none 0 0)):=⟨_,rfl⟩
   have zd0:wz.cell? ⟨g2,0,none⟩=some (.int .u8 0):=by rw [hwz]; simp [zc0,go_sem]
   have zd1:wz.cell? ⟨g2,1,none⟩=some (.slice none 0 0):=by rw [hwz]; simp [zc1,go_sem]
   have zd2:wz.cell? ⟨g2,2,none⟩=some (.int .u32 M):=by rw [hwz]; simp [zc2,go_sem]
   have zd3:wz.cell? ⟨g2,3,none⟩=some (.slice none 0 0):=by rw [hwz]; simp [zc3,go_sem]
   have zd4:wz.cell? ⟨g2,4,none⟩=some (.int .u32 C):=by rw [hwz]; simp [zc4,go_sem]
   have zd5:wz.cell? ⟨g2,5,none⟩=some (.bool (K == 128)):=by rw [hwz]; simp [zc5,go_sem]
   have zd6:wz.cell? ⟨g2,6,none⟩=some (.int .u32 Fw):=by rw [hwz]; simp [zc6,go_sem]
   have zd7:wz.cell? ⟨g2,7,none⟩=some (.int .u32 Tg):=by rw [hwz]; simp [zc7,go_sem]
   have zd8:wz.cell? ⟨g2,8,none⟩=some (.slice none 0 0):=by rw [hwz]; simp [zc8,go_sem]
   have HUz:Hid (Touch (fun k=>k=g2) w5 wz):=by show Touch _ _ _; rw [hwz]; refine Touch.setCell (F:=fun k=>k=g2) (p:=⟨g2,8,none⟩) ?_ (Or.inl rfl) _; refine Touch.setCell (F:=fun k=>k=g2) (p:=⟨g2,7,none⟩) ?_ (Or.inl rfl) _; refine Touch.setCell (F:=fun k=>k=g2) (p:=⟨g2,6,none⟩) ?_ (Or.inl rfl) _; refine Touch.setCell (F:=fun k=>k=g2) (p:=⟨g2,5,none⟩) ?_ (Or.inl rfl) _; refine Touch.setCell (F:=fun k=>k=g2) (p:=⟨g2,4,none⟩) ?_ (Or.inl rfl) _; refine Touch.setCell (F:=fun k=>k=g2) (p:=⟨g2,3,none⟩) ?_ (Or.inl rfl) _; refine Touch.setCell (F:=fun k=>k=g2) (p:=⟨g2,2,none⟩) ?_ (Or.inl rfl) _; refine Touch.setCell (F:=fun k=>k=g2) (p:=⟨g2,1,none⟩) ?_ (Or.inl rfl) _; refine Touch.setCell (F:=fun k=>k=g2) (p:=⟨g2,0,none⟩) ?_ (Or.inl rfl) _; exact Touch.refl _ _
   rw [← hwz]
   clear hwz zc0 zf0 zc1 zf1 zc2 zf2 zc3 zf3 zc4 zf4 zc5 zf5 zc6 zf6 zc7 zf7 zc8 zf8
   go_wp2_with fail
   refine bodyPost_ret (v:=.agg #[.int .u8 0,.slice none 0 0,.int .u32 M,.slice none 0 0,.int .u32 C,.bool (K == 128),.int .u32 Fw,.int .u32 Tg,.slice none 0 0]) (by simp [results,Tryz.results203,go_sem,zd0,zd1,zd2,zd3,zd4,zd5,zd6,zd7,zd8]) rfl ?_
   exact Or.inl ⟨⟨0,[],M,[],C,K == 128,Fw,Tg,[]⟩,_,_,_,q5,rfl,HR5.out.touch HUz.out (fun k hk e=>by have:=HG2.out; have:=HG1.out; have:=HN.out; omega),BOwn.flat _ _ _ _ _ _ _ _,T5.out.trans' HUz.out (fun i hi e=>by have:=HG1.out; have:=HG2.out; omega),YES.out HMM.out HK.out⟩
  ·go_upto_region 3 with (go_at_call 140; refine Calls.mono (need_t _ 28 _ (by first | rfl | exact hk1)) ?_; rintro e wn ⟨rfl,rfl⟩)
   clear yy hk0 hk1
   go_region_held3 (fun w'=>w'.cell? ⟨g1,0,none⟩=some (.pointer (some ⟨b,0,none⟩))) (first | with_reducible exact y0 | with_reducible exact yx | with_reducible exact yv | with_reducible exact yz | with_reducible exact (cell_far9 hr2 0 _ _ _ _ _ _ _ _ _).trans yz) (first
    | (go_at_call 235; refine Calls.mono (H3 _ h1) ?_; rintro e wx ⟨rfl,hx,tx⟩; have yx:=(tx.cell (p:=⟨g1,0,none⟩) (lt_of_cell y0) hn1.out).trans y0; have Tx:Hid (Touch (fun k=>k=b) w wx):=T1.out.trans tx; have Rx:Hid (Room wx g2 9):=R1.out.touch tx hn2.out; clear tx)
    | (go_at_call 234; refine Calls.mono (H4 _ hx) ?_; rintro e wv ⟨rfl,hv,tv⟩; have yv:=(tv.cell (p:=⟨g1,0,none⟩) (lt_of_cell yx) hn1.out).trans yx; have Tv:Hid (Touch (fun k=>k=b) w wv):=Tx.out.trans tv; have Rv:Hid (Room wv g2 9):=Rx.out.touch tv hn2.out; clear tv)
    | (go_at_call 234; refine Calls.mono (H5 _ hv) ?_; rintro e w5 ⟨rfl,h5,t5⟩; have yz:=(t5.cell (p:=⟨g1,0,none⟩) (lt_of_cell yv) hn1.out).trans yv; have T5:Hid (Touch (fun k=>k=b) w w5):=Tv.out.trans t5; have R9:=Rv.out.touch t5 hn2.out; have HR5:Hid (Rdr N w5 b rs q5):=h5; clear t5 h5; obtain ⟨zz0,zc0,zf0⟩:=R9 0 (by omega); obtain ⟨zz1,zc1,zf1⟩:=R9 1 (by omega); obtain ⟨zz2,zc2,zf2⟩:=R9 2 (by omega); obtain ⟨zz3,zc3,zf3⟩:=R9 3 (by omega); obtain ⟨zz4,zc4,zf4⟩:=R9 4 (by omega); obtain ⟨zz5,zc5,zf5⟩:=R9 5 (by omega); obtain ⟨zz6,zc6,zf6⟩:=R9 6 (by omega); obtain ⟨zz7,zc7,zf7⟩:=R9 7 (by omega); obtain ⟨zz8,zc8,zf8⟩:=R9 8 (by omega); clear R9))
   clear H3 H4 H5 h1 hx hv y0 yx yv yz T1 Tx Tv R1 Rx Rv
   obtain ⟨wz,hwz⟩:∃ wz,wz=(((((((((w5.setCell ⟨g2,0,none⟩ (.int .u8 0)).setCell ⟨g2,1,none⟩ (.slice none 0 0)).setCell ⟨g2,2,none⟩ (.int .u32 M)).setCell ⟨g2,3,none⟩ (.slice none 0 0)).setCell ⟨g2,4,none⟩ (.int .u32 C)).setCell ⟨g2,5,none⟩ (.bool (K == 128))).setCell ⟨g2,6,none⟩ (.int .u32 Fw)).setCell ⟨g2,7,none⟩ (.int .u32 Tg)).setCell ⟨g2,8,none⟩ (.slice none 0 0)):=⟨_,rfl⟩
   have zd0:wz.cell? ⟨g2,0,none⟩=some (.int .u8 0):=by rw [hwz]; simp [zc0,go_sem]
   have zd1:wz.cell? ⟨g2,1,none⟩=some (.slice none 0 0):=by rw [hwz]; simp [zc1,go_sem]
   have zd2:wz.cell? ⟨g2,2,none⟩=some (.int .u32 M):=by rw [hwz]; simp [zc2,go_sem]
   have zd3:wz.cell? ⟨g2,3,none⟩=some (.slice none 0 0):=by rw [hwz]; simp [zc3,go_sem]
   have zd4:wz.cell? ⟨g2,4,none⟩=some (.int .u32 C):=by rw [hwz]; simp [zc4,go_sem]
   have zd5:wz.cell? ⟨g2,5,none⟩=some (.bool (K == 128)):=by rw [hwz]; simp [zc5,go_sem]
   have zd6:wz.cell? ⟨g2,6,none⟩=some (.int .u32 Fw):=by rw [hwz]; simp [zc6,go_sem]
   have zd7:wz.cell? ⟨g2,7,none⟩=some (.int .u32 Tg):=by rw [hwz]; simp [zc7,go_sem]
   have zd8:wz.cell? ⟨g2,8,none⟩=some (.slice none 0 0):=by rw [hwz]; simp [zc8,go_sem]
   have HUz:Hid (Touch (fun k=>k=g2) w5 wz):=by show Touch _ _ _; rw [hwz]; refine Touch.setCell (F:=fun k=>k=g2) (p:=⟨g2,8,none⟩) ?_ (Or.inl rfl) _; refine Touch.setCell (F:=fun k=>k=g2) (p:=⟨g2,7,none⟩) ?_ (Or.inl rfl) _; refine Touch.setCell (F:=fun k=>k=g2) (p:=⟨g2,6,none⟩) ?_ (Or.inl rfl) _; refine Touch.setCell (F:=fun k=>k=g2) (p:=⟨g2,5,none⟩) ?_ (Or.inl rfl) _; refine Touch.setCell (F:=fun k=>k=g2) (p:=⟨g2,4,none⟩) ?_ (Or.inl rfl) _; refine Touch.setCell (F:=fun k=>k=g2) (p:=⟨g2,3,none⟩) ?_ (Or.inl rfl) _; refine Touch.setCell (F:=fun k=>k=g2) (p:=⟨g2,2,none⟩) ?_ (Or.inl rfl) _; refine Touch.setCell (F:=fun k=>k=g2) (p:=⟨g2,1,none⟩) ?_ (Or.inl rfl) _; refine Touch.setCell (F:=fun k=>k=g2) (p:=⟨g2,0,none⟩) ?_ (Or.inl rfl) _; exact Touch.refl _ _
   rw [← hwz]
   clear hwz zc0 zf0 zc1 zf1 zc2 zf2 zc3 zf3 zc4 zf4 zc5 zf5 zc6 zf6 zc7 zf7 zc8 zf8
   go_wp2_with fail
   refine bodyPost_ret (v:=.agg #[.int .u8 0,.slice none 0 0,.int .u32 M,.slice none 0 0,.int .u32 C,.bool (K == 128),.int .u32 Fw,.int .u32 Tg,.slice none 0 0]) (by simp [results,Tryz.results203,go_sem,zd0,zd1,zd2,zd3,zd4,zd5,zd6,zd7,zd8]) rfl ?_
   exact Or.inl ⟨⟨0,[],M,[],C,K == 128,Fw,Tg,[]⟩,_,_,_,q5,rfl,HR5.out.touch HUz.out (fun k hk e=>by have:=HG2.out; have:=HG1.out; have:=HN.out; omega),BOwn.flat _ _ _ _ _ _ _ _,T5.out.trans' HUz.out (fun i hi e=>by have:=HG1.out; have:=HG2.out; omega),YES.out HMM.out HK.out⟩
 ·have hk0:(K == 0)=false:=by simpa using fun e=>hk (Or.inl e)
  have hk1:(K == 128)=false:=by simpa using fun e=>hk (Or.inr e)
  have HK:Hid (¬ (K=0∨K=128)):=hk
  clear hk
  go_wp2_with fail
  refine Calls.mono (need_f _ 28 _ (by first | rfl | exact hk1)) ?_
  rintro e wz ⟨rfl,rfl⟩
  exact ⟨rfl,Or.inr ⟨rfl,Ty.out,NO.out (Or.inr HK.out)⟩⟩
theorem left_0 (N b:Nat) (rs:List Int) (w:World) (h:Rdr N w b rs (some 0)):Calls Tryz.prog 179 #[.pointer (some ⟨b,0,none⟩)] w fun e w'=>e=.returned (.int .i64 (rs.length:Int))∧∃ n,w'=w.drewN n:=by
 have:=left_some N b 0 rs w h
 rwa [show (rs.length:Int) - ((0:Nat):Int)=(rs.length:Int) by omega] at this
theorem rbytes_0 (N b:Nat) (rs:List Int) (w:World) (h:Rdr N w b rs (some 0)) (hc:rs.length≤1099511627776) :
  Calls Tryz.prog 237 #[.pointer (some ⟨b,0,none⟩),.int .i64 (rs.length:Int)] w fun e w'=>∃ v,e=.returned v∧w'.ownsRow w.heap.size 5 1 v rs.length (bytesOf rs)∧Rdr N w' b rs (some rs.length)∧Touch (fun k=>k=b) w w':=by
 have:=rbytes_r N b 0 rs w h hc
 rwa [show (rs.length:Int) - ((0:Nat):Int)=(rs.length:Int) by omega,Nat.sub_zero,List.drop_zero] at this
set_option maxHeartbeats 2000000 in
theorem ropaque_any (t:Int) (ht:9≤t) (N b:Nat) (rs:List Int) (w:World) (h:Rdr N w b rs (some 0)) (hN:N≤w.heap.size) (hc:rs.length≤1000000) :
  Calls Tryz.prog 205 #[.agg #[.pointer (some ⟨b,0,none⟩)]] w (RdPost t N b rs w):=by
 have hlow:=h.low
 have DEC:Hid (decB t rs=_):=dec9_eq (t:=t) (rs:=rs) ht
 have HL:=fun w h=>left_0 N b rs w h
 have HB:=fun w h=>rbytes_0 N b rs w h (by omega)
 have hl0:(0:Int)≤(rs.length:Int):=by omega
 have hl1:(rs.length:Int)≤1000000:=by omega
 clear ht
 by_cases h4:rs.length % 4=0
 ·have h4':(((rs.length:Int) % 4) == 0)=true:=by simp; omega
  have HD:Hid (decB t rs=some ⟨0,[],0,[],0,false,0,0,rs⟩):=by show _=_; rw [DEC.out,if_pos h4]
  clear h4 DEC hc
  go_enter Tryz.func205,Tryz.ntmps205
  go_wp2_with fail
  refine Calls.mono (HL _ (h.keep (((Touch.refl _ _).alloc _).alloc _))) ?_
  rintro e wl ⟨rfl,nl,rfl⟩
  go_upto_region 2 with (go_at_call 140; refine Calls.mono (need_t _ 28 _ (by first | rfl | exact h4')) ?_; rintro e wn ⟨rfl,rfl⟩)
  clear h4'
  have T1:Hid (Touch (fun k=>k=b) w ((((w.alloc (.cells #[.pointer (some ⟨b,0,none⟩)] 298)).alloc (.cells #[.int .u8 0,.slice none 0 0,.int .u32 0,.slice none 0 0,.int .u32 0,.bool false,.int .u32 0,.int .u32 0,.slice none 0 0] 119))).drewN nl).drew):=((((Touch.refl _ w).alloc _).alloc _).drewN nl).drew
  have h1:Rdr N ((((w.alloc (.cells #[.pointer (some ⟨b,0,none⟩)] 298)).alloc (.cells #[.int .u8 0,.slice none 0 0,.int .u32 0,.slice none 0 0,.int .u32 0,.bool false,.int .u32 0,.int .u32 0,.slice none 0 0] 119))).drewN nl).drew b rs (some 0):=h.keep (((((Touch.refl _ w).alloc _).alloc _).drewN nl).drew)
  have y0:((((w.alloc (.cells #[.pointer (some ⟨b,0,none⟩)] 298)).alloc (.cells #[.int .u8 0,.slice none 0 0,.int .u32 0,.slice none 0 0,.int .u32 0,.bool false,.int .u32 0,.int .u32 0,.slice none 0 0] 119))).drewN nl).drew.cell? ⟨w.heap.size,0,none⟩=some (.pointer (some ⟨b,0,none⟩)):=by simp [go_sem]
  have R1:Hid (Room ((((w.alloc (.cells #[.pointer (some ⟨b,0,none⟩)] 298)).alloc (.cells #[.int .u8 0,.slice none 0 0,.int .u32 0,.slice none 0 0,.int .u32 0,.bool false,.int .u32 0,.int .u32 0,.slice none 0 0] 119))).drewN nl).drew (w.heap.size+1) 9):=by
   have:=(Room.new (w.alloc (.cells #[.pointer (some ⟨b,0,none⟩)] 298)) #[.int .u8 0,.slice none 0 0,.int .u32 0,.slice none 0 0,.int .u32 0,.bool false,.int .u32 0,.int .u32 0,.slice none 0 0] 119).keep (((Touch.refl _ _).drewN nl).drew)
   show Room _ _ _
   simpa using this
  have hn1:Hid (¬ w.heap.size=b):=by show ¬ _; omega
  have hn2:Hid (¬ w.heap.size+1=b):=by show ¬ _; omega
  have HN:Hid (N≤w.heap.size):=hN
  have HSZ:Hid (w.heap.size+1<((((w.alloc (.cells #[.pointer (some ⟨b,0,none⟩)] 298)).alloc (.cells #[.int .u8 0,.slice none 0 0,.int .u32 0,.slice none 0 0,.int .u32 0,.bool false,.int .u32 0,.int .u32 0,.slice none 0 0] 119))).drewN nl).heap.size):=by show _<_; show _<(((w.alloc (.cells #[.pointer (some ⟨b,0,none⟩)] 298)).alloc (.cells #[.int .u8 0,.slice none 0 0,.int .u32 0,.slice none 0 0,.int .u32 0,.bool false,.int .u32 0,.int .u32 0,.slice none 0 0] 119))).heap.size; simp
  generalize hg2:w.heap.size+1=g2 at *
  generalize (((w.alloc (.cells #[.pointer (some ⟨b,0,none⟩)] 298)).alloc (.cells #[.int .u8 0,.slice none 0 0,.int .u32 0,.slice none 0 0,.int .u32 0,.bool false,.int .u32 0,.int .u32 0,.slice none 0 0] 119))).drewN nl=w1 at *
  clear h hN hlow
  generalize hg1:w.heap.size=g1 at *
  have HG1:Hid (w.heap.size=g1):=hg1
  have HG2:Hid (g1+1=g2):=hg2
  clear hg1 hg2
  have hr2:g1≠g2:=by have:=HG2.out; omega
  go_region_held3 (fun w'=>w'.cell? ⟨g1,0,none⟩=some (.pointer (some ⟨b,0,none⟩))) (first | with_reducible exact y0 | with_reducible exact yx | with_reducible exact yz | with_reducible exact (cell_far9 hr2 0 _ _ _ _ _ _ _ _ _).trans yz) (first
   | (go_at_call 179; refine Calls.mono (HL _ h1) ?_; rintro e wx ⟨rfl,nx,hwx⟩; have tx:Touch (fun _=>False) w1.drew wx:=hwx ▸ (Touch.refl _ _).drewN nx; clear hwx; have hx:=h1.keep tx; have yx:=tx.cellN y0; have Tx:Hid (Touch (fun k=>k=b) w wx):=T1.out.trans (Touch.mono tx (fun _ _ h=>h.elim)); have Rx:Hid (Room wx g2 9):=R1.out.keep tx; have HSx:Hid (w1.heap.size≤wx.heap.size):=tx.size; clear tx)
   | (go_at_call 237; refine Calls.mono (HB _ hx) ?_; rintro e w5 ⟨v5,rfl,o5,h5,t5⟩; obtain ⟨xa,xc,rfl⟩:=own_fm o5; have yz:=(t5.cell (p:=⟨g1,0,none⟩) (lt_of_cell yx) hn1.out).trans yx; have T5:Hid (Touch (fun k=>k=b) w w5):=Tx.out.trans t5; have R9:=Rx.out.touch t5 hn2.out; have HR5:Hid (Rdr N w5 b rs (some rs.length)):=h5; have O5:Hid (w5.ownsRow wx.heap.size 5 1 (.slice xa rs.length xc) rs.length (bytesOf rs)):=o5; clear t5 h5 o5; obtain ⟨zz0,zc0,zf0⟩:=R9 0 (by omega); obtain ⟨zz1,zc1,zf1⟩:=R9 1 (by omega); obtain ⟨zz2,zc2,zf2⟩:=R9 2 (by omega); obtain ⟨zz3,zc3,zf3⟩:=R9 3 (by omega); obtain ⟨zz4,zc4,zf4⟩:=R9 4 (by omega); obtain ⟨zz5,zc5,zf5⟩:=R9 5 (by omega); obtain ⟨zz6,zc6,zf6⟩:=R9 6 (by omega); obtain ⟨zz7,zc7,zf7⟩:=R9 7 (by omega); obtain ⟨zz8,zc8,zf8⟩:=R9 8 (by omega); clear R9))
  clear HL HB h1 hx y0 yx yz T1 Tx R1 Rx
  obtain ⟨wz,hwz⟩:∃ wz,wz=(((((((((w5.setCell ⟨g2,0,none⟩ (.int .u8 0)).setCell ⟨g2,1,none⟩ (.slice none 0 0)).setCell ⟨g2,2,none⟩ (.int .u32 0)).setCell ⟨g2,3,none⟩ (.slice none 0 0)).setCell ⟨g2,4,none⟩ (.int .u32 0)).setCell ⟨g2,5,none⟩ (.bool false)).setCell ⟨g2,6,none⟩ (.int .u32 0)).setCell ⟨g2,7,none⟩ (.int .u32 0)).setCell ⟨g2,8,none⟩ (.slice xa rs.length xc)):=⟨_,rfl⟩
  have zd0:wz.cell? ⟨g2,0,none⟩=some (.int .u8 0):=by rw [hwz]; simp [zc0,go_sem]
  have zd1:wz.cell? ⟨g2,1,none⟩=some (.slice none 0 0):=by rw [hwz]; simp [zc1,go_sem]
  have zd2:wz.cell? ⟨g2,2,none⟩=some (.int .u32 0):=by rw [hwz]; simp [zc2,go_sem]
  have zd3:wz.cell? ⟨g2,3,none⟩=some (.slice none 0 0):=by rw [hwz]; simp [zc3,go_sem]
  have zd4:wz.cell? ⟨g2,4,none⟩=some (.int .u32 0):=by rw [hwz]; simp [zc4,go_sem]
  have zd5:wz.cell? ⟨g2,5,none⟩=some (.bool false):=by rw [hwz]; simp [zc5,go_sem]
  have zd6:wz.cell? ⟨g2,6,none⟩=some (.int .u32 0):=by rw [hwz]; simp [zc6,go_sem]
  have zd7:wz.cell? ⟨g2,7,none⟩=some (.int .u32 0):=by rw [hwz]; simp [zc7,go_sem]
  have zd8:wz.cell? ⟨g2,8,none⟩=some (.slice xa rs.length xc):=by rw [hwz]; simp [zc8,go_sem]
  have HUz:Hid (Touch (fun k=>k=g2) w5 wz):=by show Touch _ _ _; rw [hwz]; refine Touch.setCell (F:=fun k=>k=g2) (p:=⟨g2,8,none⟩) ?_ (Or.inl rfl) _; refine Touch.setCell (F:=fun k=>k=g2) (p:=⟨g2,7,none⟩) ?_ (Or.inl rfl) _; refine Touch.setCell (F:=fun k=>k=g2) (p:=⟨g2,6,none⟩) ?_ (Or.inl rfl) _; refine Touch.setCell (F:=fun k=>k=g2) (p:=⟨g2,5,none⟩) ?_ (Or.inl rfl) _; refine Touch.setCell (F:=fun k=>k=g2) (p:=⟨g2,4,none⟩) ?_ (Or.inl rfl) _; refine Touch.setCell (F:=fun k=>k=g2) (p:=⟨g2,3,none⟩) ?_ (Or.inl rfl) _; refine Touch.setCell (F:=fun k=>k=g2) (p:=⟨g2,2,none⟩) ?_ (Or.inl rfl) _; refine Touch.setCell (F:=fun k=>k=g2) (p:=⟨g2,1,none⟩) ?_ (Or.inl rfl) _; refine Touch.setCell (F:=fun k=>k=g2) (p:=⟨g2,0,none⟩) ?_ (Or.inl rfl) _; exact Touch.refl _ _
  rw [← hwz]
  clear hwz zc0 zf0 zc1 zf1 zc2 zf2 zc3 zf3 zc4 zf4 zc5 zf5 zc6 zf6 zc7 zf7 zc8 zf8
  go_wp2_with fail
  refine bodyPost_ret (v:=.agg #[.int .u8 0,.slice none 0 0,.int .u32 0,.slice none 0 0,.int .u32 0,.bool false,.int .u32 0,.int .u32 0,.slice xa rs.length xc]) (by simp [results,Tryz.results205,go_sem,zd0,zd1,zd2,zd3,zd4,zd5,zd6,zd7,zd8]) rfl ?_
  exact Or.inl ⟨⟨0,[],0,[],0,false,0,0,rs⟩,_,_,_,some rs.length,rfl,HR5.out.touch HUz.out (fun k hk e=>by have:=HG2.out; have:=HG1.out; have:=HN.out; omega),⟨World.ownsRow_nil _ _ _ _,World.ownsRow_nil _ _ _ _,own_lower (own_touch O5.out HUz.out (fun k hk e=>by have:=(O5.out.lt k hk).1; have:=HSZ.out; have:=HSx.out; omega)) (by have:=HSZ.out; have:=HSx.out; have:=HG1.out; have:=HG2.out; omega)⟩,T5.out.trans' HUz.out (fun i hi e=>by have:=HG1.out; have:=HG2.out; omega),by rw [HD.out,if_pos rfl]⟩
 ·have h4':(((rs.length:Int) % 4) == 0)=false:=by simp; omega
  have HD:Hid (decB t rs=none):=by show _=_; rw [DEC.out,if_neg h4]
  clear h4 DEC hc
  go_enter Tryz.func205,Tryz.ntmps205
  go_wp2_with fail
  refine Calls.mono (HL _ (h.keep (((Touch.refl _ _).alloc _).alloc _))) ?_
  rintro e wl ⟨rfl,nl,rfl⟩
  go_wp2_with fail
  refine Calls.mono (need_f _ 28 _ (by first | rfl | exact h4')) ?_
  rintro e wn ⟨rfl,rfl⟩
  exact ⟨rfl,Or.inr ⟨rfl,(((Touch.refl _ w).alloc _).alloc _).drewN nl,HD.out⟩⟩
end Go.Proofs.YtddbffoiadmffaaGreat
