import Derived.Test.YtldmkoogghemhaaGreatStBody
namespace Go.Proofs.YtldmkoogghemhaaGreat
set_option maxHeartbeats 8000000
open Go.RowKit
set_option linter.unusedVariables false
set_option maxRecDepth 100000
theorem Qi6 (N b:Nat) (rs:List Int) (q:Option Nat) (w:World) (h:Rdr N w b rs q) :
  Calls Tryz.prog 174 #[.agg #[.pointer (some ⟨b,0,none⟩)]] w fun e w'=>(e=.returned (.int .u32 (numAt rs q 4))∧pbok (numAt rs q 4)=true∧Rdr N w' b rs (nextAt rs q 4)∧Touch (fun k=>k=b) w w')∨(e=.panicked (flawC 28)∧pbok (numAt rs q 4)=false∧Touch (fun k=>k=b) w w'):=by
 cases hm:pbok (numAt rs q 4) with
 | true =>
  refine (Qlx N b rs q w h hm).mono ?_
  rintro e w' ⟨rfl,hr,t⟩
  exact Or.inl ⟨rfl,rfl,hr,t⟩
 | false =>
  refine (Ql0 N b rs q w h hm).mono ?_
  rintro e w' ⟨rfl,t⟩
  exact Or.inr ⟨rfl,rfl,t⟩
theorem Qdw (N b:Nat) (n:Int) (hn:n=1∨n=2∨n=3∨n=4) (rs:List Int) (q:Option Nat) (w:World) (h:Rdr N w b rs q) :
  Calls Tryz.prog 182 #[.agg #[.pointer (some ⟨b,0,none⟩)],.int .i64 n] w fun e w'=>(e=.returned (.tuple #[])∧numAt rs q n.toNat=0∧Rdr N w' b rs (nextAt rs q n.toNat)∧Touch (fun k=>k=b) w w')∨(e=.panicked (flawC 28)∧numAt rs q n.toNat≠0∧Touch (fun k=>k=b) w w'):=by
 by_cases hz:numAt rs q n.toNat=0
 ·refine (Qkc N b n hn rs q w h hz).mono ?_
  rintro e w' ⟨rfl,hr,t⟩
  exact Or.inl ⟨rfl,hz,hr,t⟩
 ·refine (Qi3 N b n hn rs q w h hz).mono ?_
  rintro e w' ⟨rfl,t⟩
  exact Or.inr ⟨rfl,hz,t⟩
theorem Qgq (N b:Nat) (rs:List Int) (q:Option Nat) (w:World) (h:Rdr N w b rs q) :
  Calls Tryz.prog 182 #[.agg #[.pointer (some ⟨b,0,none⟩)],.int .i64 1] w fun e w'=>(e=.returned (.tuple #[])∧numAt rs q 1=0∧Rdr N w' b rs (nextAt rs q 1)∧Touch (fun k=>k=b) w w')∨(e=.panicked (flawC 28)∧numAt rs q 1≠0∧Touch (fun k=>k=b) w w'):=Qdw N b 1 (by omega) rs q w h
theorem Qlo (N b:Nat) (rs:List Int) (q:Option Nat) (w:World) (h:Rdr N w b rs q) :
  Calls Tryz.prog 182 #[.agg #[.pointer (some ⟨b,0,none⟩)],.int .i64 4] w fun e w'=>(e=.returned (.tuple #[])∧numAt rs q 4=0∧Rdr N w' b rs (nextAt rs q 4)∧Touch (fun k=>k=b) w w')∨(e=.panicked (flawC 28)∧numAt rs q 4≠0∧Touch (fun k=>k=b) w w'):=Qdw N b 4 (by omega) rs q w h
theorem at8 {rs:List Int} (h:rs.length=8):∃a b c d e f g i,rs=[a,b,c,d,e,f,g,i]∧numAt rs (some 0) 4=numOf [a,b,c,d]∧numAt rs (nextAt rs (some 0) 4) 1=e∧numAt rs (nextAt rs (nextAt rs (some 0) 4) 1) 3=numOf [f,g,i]:=by
 obtain⟨a,b,c,d,e,f,g,i,rfl⟩:=list8 h
 refine⟨a,b,c,d,e,f,g,i,rfl,?_,?_,?_⟩
 ·simp [numAt]
 ·simp [numAt,nextAt,numOf1]
 ·simp [numAt,nextAt]
theorem q8 (rs:List Int):nextAt rs (nextAt rs (nextAt rs (some 0) 4) 1) 3=nextAt rs (some 0) 8:=by rw [Qds,Qds]
theorem Qo3 {rs:List Int}:nextAt rs (some 0) 8=some rs.length↔rs.length=8:=by
 unfold nextAt
 dsimp only
 split
 ·simp;omega
 ·simp;omega
theorem Qm8 {rs:List Int} (hb:∀z∈rs,0≤z∧z<256) (hm:pbok (numAt rs (some 0) 4)=true) (hz:numAt rs (nextAt rs (some 0) 4) 1=0) :
  decB 3 rs=(if nextAt rs (nextAt rs (nextAt rs (some 0) 4) 1) 3=some rs.length then some ⟨0,[],numAt rs (some 0) 4,[],numAt rs (nextAt rs (nextAt rs (some 0) 4) 1) 3,false,0,0,[]⟩ else none):=by
 by_cases h8:rs.length=8
 ·obtain⟨a,b,c,d,e,f,g,i,hrs,e1,e2,e3⟩:=at8 h8
  rw [q8,if_pos (Qo3.2 h8),e1,e3]
  rw [e1] at hm
  rw [e2] at hz
  rw [hrs] at hb ⊢
  rw [Qij hb,if_pos ⟨hm,hz⟩]
 ·rw [q8,if_neg (fun h=>h8 (Qo3.1 h)),Qcf (Or.inl rfl) h8]
theorem Qn2 {rs:List Int} (hb:∀z∈rs,0≤z∧z<256) (h:pbok (numAt rs (some 0) 4)=false∨numAt rs (nextAt rs (some 0) 4) 1≠0):decB 3 rs=none:=by
 by_cases h8:rs.length=8
 ·obtain⟨a,b,c,d,e,f,g,i,hrs,e1,e2,e3⟩:=at8 h8
  rw [e1,e2] at h
  rw [hrs] at hb ⊢
  rw [Qij hb,if_neg]
  rintro ⟨h1,h2⟩
  rcases h with h|h
  ·rw [h1] at h;cases h
  ·exact h h2
 ·exact Qcf (Or.inl rfl) h8
theorem Qmh {rs:List Int} (hb:∀z∈rs,0≤z∧z<256) (hm:numAt rs (some 0) 4=0) (hz:numAt rs (nextAt rs (some 0) 4) 1=0) :
  decB 4 rs=(if nextAt rs (nextAt rs (nextAt rs (some 0) 4) 1) 3=some rs.length then some ⟨0,[],0,[],numAt rs (nextAt rs (nextAt rs (some 0) 4) 1) 3,false,0,0,[]⟩ else none):=by
 by_cases h8:rs.length=8
 ·obtain⟨a,b,c,d,e,f,g,i,hrs,e1,e2,e3⟩:=at8 h8
  rw [q8,if_pos (Qo3.2 h8),e3]
  rw [e1] at hm
  rw [e2] at hz
  rw [hrs] at hb ⊢
  rw [Qis hb,if_pos ⟨hm,hz⟩]
 ·rw [q8,if_neg (fun h=>h8 (Qo3.1 h)),Qcf (Or.inr rfl) h8]
theorem Qov {rs:List Int} (hb:∀z∈rs,0≤z∧z<256) (h:numAt rs (some 0) 4≠0∨numAt rs (nextAt rs (some 0) 4) 1≠0):decB 4 rs=none:=by
 by_cases h8:rs.length=8
 ·obtain⟨a,b,c,d,e,f,g,i,hrs,e1,e2,e3⟩:=at8 h8
  rw [e1,e2] at h
  rw [hrs] at hb ⊢
  rw [Qis hb,if_neg]
  rintro ⟨h1,h2⟩
  rcases h with h|h
  ·exact h h1
  ·exact h h2
 ·exact Qcf (Or.inr rfl) h8
theorem Qf6 (N b:Nat) (rs:List Int) (w:World) (h:Rdr N w b rs (some 0)) (hN:N≤w.heap.size) :
  Calls Tryz.prog 166 #[.agg #[.pointer (some ⟨b,0,none⟩)]] w (RdPost 4 N b rs w):=by
 have hb:=h.low
 have HBy:Hid (∀z∈rs,0≤z∧z<256):=h.byte
 have HM:=fun w h=>Qlo N b rs (some 0) w h
 have HZ:=fun w h=>Qgq N b rs (nextAt rs (some 0) 4) w h
 have HC:=fun w h=>Qdk N b rs (nextAt rs (nextAt rs (some 0) 4) 1) w h
 have YES:Hid (numAt rs (some 0) 4=0→numAt rs (nextAt rs (some 0) 4) 1=0→_):=fun h1 h2=>Qmh h.byte h1 h2
 have NO:Hid (numAt rs (some 0) 4≠0∨numAt rs (nextAt rs (some 0) 4) 1≠0→decB 4 rs=none):=Qov h.byte
 generalize numAt rs (some 0) 4=M at *
 generalize nextAt rs (some 0) 4=q1 at *
 generalize numAt rs q1 1=Z at *
 generalize nextAt rs q1 1=q2 at *
 generalize numAt rs q2 3=C at *
 generalize nextAt rs q2 3=q3 at *
 go_enter Tryz.func166,Tryz.ntmps166
 go_wp2_with fail
 refine Calls.mono (HM _ (h.keep (((Touch.refl _ _).alloc _).alloc _))) ?_
 rintro e w1 (⟨rfl,hM,h1,t1⟩|⟨rfl,hM,t1⟩)
 rotate_left
 ·exact⟨rfl,Or.inr ⟨rfl,(((Touch.refl _ w).alloc _).alloc _).trans t1,NO.out (Or.inl hM)⟩⟩
 have R1:Hid (Room w1 (w.heap.size+1) 9):=by
  have:=(Room.new (w.alloc (.cells #[.pointer (some ⟨b,0,none⟩)] 199)) #[.int .u8 0,.slice none 0 0,.int .u32 0,.slice none 0 0,.int .u32 0,.bool false,.int .u32 0,.int .u32 0,.slice none 0 0] 92).touch t1 (by simp;omega)
  show Room _ _ _
  simpa using this
 have c1:w1.cell? ⟨w.heap.size,0,none⟩=some (.pointer (some ⟨b,0,none⟩)):=(t1.cell (p:=⟨w.heap.size,0,none⟩) (by simp;omega) (by show ¬w.heap.size=b;omega)).trans (by simp [go_sem])
 have T1:Hid (Touch (fun k=>k=b) w w1):=(((Touch.refl _ w).alloc _).alloc _).trans t1
 have hs1:w.heap.size+1<w1.heap.size:=by have:=t1.size;simp at this;omega
 have HMz:Hid (M=0):=hM
 clear t1 HM h hM
 go_wp2_with fail
 refine Calls.mono (HZ _ h1) ?_
 rintro e w2 (⟨rfl,hZ,h2,t2⟩|⟨rfl,hZ,t2⟩)
 rotate_left
 ·exact⟨rfl,Or.inr ⟨rfl,T1.out.trans t2,NO.out (Or.inr hZ)⟩⟩
 have c2:w2.cell? ⟨w.heap.size,0,none⟩=some (.pointer (some ⟨b,0,none⟩)):=(t2.cell (p:=⟨w.heap.size,0,none⟩) (by show w.heap.size<_;omega) (by show ¬w.heap.size=b;omega)).trans c1
 have R2:Hid (Room w2 (w.heap.size+1) 9):=R1.out.touch t2 (by show ¬w.heap.size+1=b;omega)
 have T2:Hid (Touch (fun k=>k=b) w w2):=T1.out.trans t2
 have hs2:w.heap.size+1<w2.heap.size:=by have:=t2.size;omega
 have HYtldmkoogghemhaaGreat:Hid (Z=0):=hZ
 clear t2 HZ h1 c1 R1 T1 hZ hs1
 go_wp2_with fail
 refine Calls.mono (HC _ h2) ?_
 rintro e w3 ⟨rfl,h3,t3⟩
 have R3:Hid (Room w3 (w.heap.size+1) 9):=R2.out.touch t3 (by show ¬w.heap.size+1=b;omega)
 have T3:Hid (Touch (fun k=>k=b) w w3):=T2.out.trans t3
 have H3:Hid (Rdr N w3 b rs q3):=h3
 clear t3 HC h2 h3 c2 R2 T2
 generalize hg:w.heap.size+1=g at *
 have HG:Hid (w.heap.size+1=g):=hg
 have HN:Hid (N≤w.heap.size):=hN
 clear hg hN
 obtain⟨zz0,zc0,zf0⟩:=R3.out 0 (by omega)
 obtain⟨zz1,zc1,zf1⟩:=R3.out 1 (by omega)
 obtain⟨zz2,zc2,zf2⟩:=R3.out 2 (by omega)
 obtain⟨zz3,zc3,zf3⟩:=R3.out 3 (by omega)
 obtain⟨zz4,zc4,zf4⟩:=R3.out 4 (by omega)
 obtain⟨zz5,zc5,zf5⟩:=R3.out 5 (by omega)
 obtain⟨zz6,zc6,zf6⟩:=R3.out 6 (by omega)
 obtain⟨zz7,zc7,zf7⟩:=R3.out 7 (by omega)
 obtain⟨zz8,zc8,zf8⟩:=R3.out 8 (by omega)
 obtain⟨wz,hwz⟩:∃wz,wz=(((((((((w3.setCell ⟨g,0,none⟩ (.int .u8 0)).setCell ⟨g,1,none⟩ (.slice none 0 0)).setCell ⟨g,2,none⟩ (.int .u32 0)).setCell ⟨g,3,none⟩ (.slice none 0 0)).setCell ⟨g,4,none⟩ (.int .u32 C)).setCell ⟨g,5,none⟩ (.bool false)).setCell ⟨g,6,none⟩ (.int .u32 0)).setCell ⟨g,7,none⟩ (.int .u32 0)).setCell ⟨g,8,none⟩ (.slice none 0 0)):=⟨_,rfl⟩
 have zd0:wz.cell? ⟨g,0,none⟩=some (.int .u8 0):=by rw [hwz];simp [zc0,go_sem]
 have zd1:wz.cell? ⟨g,1,none⟩=some (.slice none 0 0):=by rw [hwz];simp [zc1,go_sem]
 have zd2:wz.cell? ⟨g,2,none⟩=some (.int .u32 0):=by rw [hwz];simp [zc2,go_sem]
 have zd3:wz.cell? ⟨g,3,none⟩=some (.slice none 0 0):=by rw [hwz];simp [zc3,go_sem]
 have zd4:wz.cell? ⟨g,4,none⟩=some (.int .u32 C):=by rw [hwz];simp [zc4,go_sem]
 have zd5:wz.cell? ⟨g,5,none⟩=some (.bool false):=by rw [hwz];simp [zc5,go_sem]
 have zd6:wz.cell? ⟨g,6,none⟩=some (.int .u32 0):=by rw [hwz];simp [zc6,go_sem]
 have zd7:wz.cell? ⟨g,7,none⟩=some (.int .u32 0):=by rw [hwz];simp [zc7,go_sem]
 have zd8:wz.cell? ⟨g,8,none⟩=some (.slice none 0 0):=by rw [hwz];simp [zc8,go_sem]
 have HUz:Hid (Touch (fun k=>k=g) w3 wz):=by show Touch _ _ _;rw [hwz];refine Touch.setCell (F:=fun k=>k=g) (p:=⟨g,8,none⟩) ?_ (Or.inl rfl) _;refine Touch.setCell (F:=fun k=>k=g) (p:=⟨g,7,none⟩) ?_ (Or.inl rfl) _;refine Touch.setCell (F:=fun k=>k=g) (p:=⟨g,6,none⟩) ?_ (Or.inl rfl) _;refine Touch.setCell (F:=fun k=>k=g) (p:=⟨g,5,none⟩) ?_ (Or.inl rfl) _;refine Touch.setCell (F:=fun k=>k=g) (p:=⟨g,4,none⟩) ?_ (Or.inl rfl) _;refine Touch.setCell (F:=fun k=>k=g) (p:=⟨g,3,none⟩) ?_ (Or.inl rfl) _;refine Touch.setCell (F:=fun k=>k=g) (p:=⟨g,2,none⟩) ?_ (Or.inl rfl) _;refine Touch.setCell (F:=fun k=>k=g) (p:=⟨g,1,none⟩) ?_ (Or.inl rfl) _;refine Touch.setCell (F:=fun k=>k=g) (p:=⟨g,0,none⟩) ?_ (Or.inl rfl) _;exact Touch.refl _ _
 have HWz:Hid (wz=(((((((((w3.setCell ⟨g,0,none⟩ (.int .u8 0)).setCell ⟨g,1,none⟩ (.slice none 0 0)).setCell ⟨g,2,none⟩ (.int .u32 0)).setCell ⟨g,3,none⟩ (.slice none 0 0)).setCell ⟨g,4,none⟩ (.int .u32 C)).setCell ⟨g,5,none⟩ (.bool false)).setCell ⟨g,6,none⟩ (.int .u32 0)).setCell ⟨g,7,none⟩ (.int .u32 0)).setCell ⟨g,8,none⟩ (.slice none 0 0))):=hwz
 clear hwz
 go_wp2_with fail
 rw [←HWz.out]
 clear HWz zc0 zf0 zc1 zf1 zc2 zf2 zc3 zf3 zc4 zf4 zc5 zf5 zc6 zf6 zc7 zf7 zc8 zf8
 refine bodyPost_ret (v:=.agg #[.int .u8 0,.slice none 0 0,.int .u32 0,.slice none 0 0,.int .u32 C,.bool false,.int .u32 0,.int .u32 0,.slice none 0 0]) (by simp [results,Tryz.results166,go_sem,zd0,zd1,zd2,zd3,zd4,zd5,zd6,zd7,zd8]) rfl ?_
 exact Or.inl ⟨⟨0,[],0,[],C,false,0,0,[]⟩,_,_,_,q3,rfl,H3.out.touch HUz.out (fun k hk e=>by have:=HG.out;have:=HN.out;omega),BOwn.flat _ _ _ _ _ _ _ _,T3.out.trans' HUz.out (fun i hi e=>by have:=HG.out;omega),YES.out HMz.out HYtldmkoogghemhaaGreat.out⟩
theorem Qk9 (N b:Nat) (rs:List Int) (w:World) (h:Rdr N w b rs (some 0)) (hN:N≤w.heap.size) :
  Calls Tryz.prog 164 #[.agg #[.pointer (some ⟨b,0,none⟩)]] w (RdPost 3 N b rs w):=by
 have hb:=h.low
 have HM:=fun w h=>Qi6 N b rs (some 0) w h
 have HZ:=fun w h=>Qgq N b rs (nextAt rs (some 0) 4) w h
 have HC:=fun w h=>Qdk N b rs (nextAt rs (nextAt rs (some 0) 4) 1) w h
 have YES:Hid (pbok (numAt rs (some 0) 4)=true→numAt rs (nextAt rs (some 0) 4) 1=0→_):=fun h1 h2=>Qm8 h.byte h1 h2
 have NO:Hid (pbok (numAt rs (some 0) 4)=false∨numAt rs (nextAt rs (some 0) 4) 1≠0→decB 3 rs=none):=Qn2 h.byte
 generalize numAt rs (some 0) 4=M at *
 generalize nextAt rs (some 0) 4=q1 at *
 generalize numAt rs q1 1=Z at *
 generalize nextAt rs q1 1=q2 at *
 generalize numAt rs q2 3=C at *
 generalize nextAt rs q2 3=q3 at *
 go_enter Tryz.func164,Tryz.ntmps164
 go_wp2_with fail
 refine Calls.mono (HM _ (h.keep (((Touch.refl _ _).alloc _).alloc _))) ?_
 rintro e w1 (⟨rfl,hM,h1,t1⟩|⟨rfl,hM,t1⟩)
 rotate_left
 ·exact⟨rfl,Or.inr ⟨rfl,(((Touch.refl _ w).alloc _).alloc _).trans t1,NO.out (Or.inl hM)⟩⟩
 have R1:Hid (Room w1 (w.heap.size+1) 9):=by
  have:=(Room.new (w.alloc (.cells #[.pointer (some ⟨b,0,none⟩)] 199)) #[.int .u8 0,.slice none 0 0,.int .u32 0,.slice none 0 0,.int .u32 0,.bool false,.int .u32 0,.int .u32 0,.slice none 0 0] 92).touch t1 (by simp;omega)
  show Room _ _ _
  simpa using this
 have c1:w1.cell? ⟨w.heap.size,0,none⟩=some (.pointer (some ⟨b,0,none⟩)):=(t1.cell (p:=⟨w.heap.size,0,none⟩) (by simp;omega) (by show ¬w.heap.size=b;omega)).trans (by simp [go_sem])
 have T1:Hid (Touch (fun k=>k=b) w w1):=(((Touch.refl _ w).alloc _).alloc _).trans t1
 have hs1:w.heap.size+1<w1.heap.size:=by have:=t1.size;simp at this;omega
 have HMz:Hid (pbok M=true):=hM
 clear t1 HM h hM
 have hlt:w.heap.size<w1.heap.size:=by omega
 have hn1:¬w.heap.size=w1.heap.size:=by omega
 have hn2:¬w1.heap.size=w.heap.size:=by omega
 go_wp2_with fail
 refine Calls.mono (HZ _ (h1.keep ((Touch.refl _ _).alloc _))) ?_
 rintro e w2 (⟨rfl,hZ,h2,t2⟩|⟨rfl,hZ,t2⟩)
 rotate_left
 ·exact⟨rfl,Or.inr ⟨rfl,(T1.out.alloc _).trans t2,NO.out (Or.inr hZ)⟩⟩
 have HYtldmkoogghemhaaGreat:Hid (Z=0):=hZ
 have O2:OutB w2 w1.heap.size ⟨0,[],M,[],0,false,0,0,[]⟩ (.slice none 0 0) (.slice none 0 0) (.slice none 0 0):=by
  have k:=OutB.new w1 ⟨0,[],M,[],0,false,0,0,[]⟩ (.slice none 0 0) (.slice none 0 0) (.slice none 0 0) 92
  exact OutB.kept (X:=fun k=>k=w1.heap.size) k (Touch.mono t2 (fun i _ e hx=>by omega)) rfl
 have c2:w2.cell? ⟨w.heap.size,0,none⟩=some (.pointer (some ⟨b,0,none⟩)):=(t2.cell (p:=⟨w.heap.size,0,none⟩) (by simp;omega) (by show ¬w.heap.size=b;omega)).trans (((Touch.refl _ _).alloc _).cellN c1)
 have R2:Hid (Room w2 (w.heap.size+1) 9):=(R1.out.keep ((Touch.refl _ _).alloc _)).touch t2 (by show ¬w.heap.size+1=b;omega)
 have T2:Hid (Touch (fun k=>k=b) w w2):=(T1.out.alloc _).trans t2
 have hs2:w1.heap.size<w2.heap.size:=O2.lt
 have HO2:Hid (OutB w2 w1.heap.size ⟨0,[],M,[],0,false,0,0,[]⟩ (.slice none 0 0) (.slice none 0 0) (.slice none 0 0)):=O2
 clear t2 HZ h1 c1 R1 T1 O2 hZ
 go_wp2_with fail
 refine Calls.mono (HC _ h2) ?_
 rintro e w3 ⟨rfl,h3,t3⟩
 have HO3:Hid (OutB w3 w1.heap.size ⟨0,[],M,[],0,false,0,0,[]⟩ (.slice none 0 0) (.slice none 0 0) (.slice none 0 0)):=OutB.kept (X:=fun k=>k=w1.heap.size) HO2.out (Touch.mono t3 (fun i _ e hx=>by omega)) rfl
 have R3:Hid (Room (w3.setCell ⟨w1.heap.size,4,none⟩ (.int .u32 C)) (w.heap.size+1) 9):=(R2.out.touch t3 (by show ¬w.heap.size+1=b;omega)).touch (Touch.setCell (F:=fun k=>k=w1.heap.size) (p:=⟨w1.heap.size,4,none⟩) (Touch.refl _ _) (Or.inl rfl) _) (by show ¬w.heap.size+1=w1.heap.size;omega)
 have T3:Hid (Touch (fun k=>k=b) w (w3.setCell ⟨w1.heap.size,4,none⟩ (.int .u32 C))):=(T2.out.trans t3).setCell (Or.inr (by show w.heap.size≤w1.heap.size;omega)) _
 have H3:Hid (Rdr N (w3.setCell ⟨w1.heap.size,4,none⟩ (.int .u32 C)) b rs q3):=h3.touch (Touch.setCell (F:=fun k=>k=w1.heap.size) (p:=⟨w1.heap.size,4,none⟩) (Touch.refl _ _) (Or.inl rfl) _) (fun k hk e=>by omega)
 obtain⟨⟨d0,d1,d2,d3,d4,d5,d6,d7,d8⟩,fz⟩:=HO3.out
 dsimp only at d0 d1 d2 d3 d4 d5 d6 d7 d8
 have f4:=fz 4 (by omega)
 clear t3 HC h2 h3 c2 R2 T2 HO2 fz
 go_upto_region 4 with fail
 have E0:Hid (OutB (w3.setCell ⟨w1.heap.size,4,none⟩ (.int .u32 C)) w1.heap.size ⟨0,[],M,[],C,false,0,0,[]⟩ (.slice none 0 0) (.slice none 0 0) (.slice none 0 0)):=by
  obtain⟨⟨c0,c1,c2,c3,c4,c5,c6,c7,c8⟩,fz⟩:=HO3.out
  exact⟨⟨by simp [c0,go_sem],by simp [c1,go_sem],by simp [c2,go_sem],by simp [c3,go_sem],by simp [c4,go_sem],by simp [c5,go_sem],by simp [c6,go_sem],by simp [c7,go_sem],by simp [c8,go_sem]⟩,fun i hi=>by simp [fz i hi,go_sem]⟩
 clear d0 d1 d2 d3 d4 d5 d6 d7 d8 f4 HO3
 generalize w3.setCell ⟨w1.heap.size,4,none⟩ (.int .u32 C)=w4 at *
 obtain⟨⟨d0,d1,d2,d3,d4,d5,d6,d7,d8⟩,-⟩:=E0.out
 dsimp only at d0 d1 d2 d3 d4 d5 d6 d7 d8
 have hm1:¬w.heap.size+1=w1.heap.size:=by omega
 have hm2:¬w1.heap.size=w.heap.size+1:=by omega
 generalize hg:w.heap.size+1=g at *
 have HG:Hid (w.heap.size+1=g):=hg
 have HN:Hid (N≤w.heap.size):=hN
 clear hg hN
 obtain⟨zz0,zc0,zf0⟩:=R3.out 0 (by omega)
 obtain⟨zz1,zc1,zf1⟩:=R3.out 1 (by omega)
 obtain⟨zz2,zc2,zf2⟩:=R3.out 2 (by omega)
 obtain⟨zz3,zc3,zf3⟩:=R3.out 3 (by omega)
 obtain⟨zz4,zc4,zf4⟩:=R3.out 4 (by omega)
 obtain⟨zz5,zc5,zf5⟩:=R3.out 5 (by omega)
 obtain⟨zz6,zc6,zf6⟩:=R3.out 6 (by omega)
 obtain⟨zz7,zc7,zf7⟩:=R3.out 7 (by omega)
 obtain⟨zz8,zc8,zf8⟩:=R3.out 8 (by omega)
 obtain⟨wz,hwz⟩:∃wz,wz=(((((((((w4.setCell ⟨g,0,none⟩ (.int .u8 0)).setCell ⟨g,1,none⟩ (.slice none 0 0)).setCell ⟨g,2,none⟩ (.int .u32 M)).setCell ⟨g,3,none⟩ (.slice none 0 0)).setCell ⟨g,4,none⟩ (.int .u32 C)).setCell ⟨g,5,none⟩ (.bool false)).setCell ⟨g,6,none⟩ (.int .u32 0)).setCell ⟨g,7,none⟩ (.int .u32 0)).setCell ⟨g,8,none⟩ (.slice none 0 0)):=⟨_,rfl⟩
 have zd0:wz.cell? ⟨g,0,none⟩=some (.int .u8 0):=by rw [hwz];simp [zc0,go_sem]
 have zd1:wz.cell? ⟨g,1,none⟩=some (.slice none 0 0):=by rw [hwz];simp [zc1,go_sem]
 have zd2:wz.cell? ⟨g,2,none⟩=some (.int .u32 M):=by rw [hwz];simp [zc2,go_sem]
 have zd3:wz.cell? ⟨g,3,none⟩=some (.slice none 0 0):=by rw [hwz];simp [zc3,go_sem]
 have zd4:wz.cell? ⟨g,4,none⟩=some (.int .u32 C):=by rw [hwz];simp [zc4,go_sem]
 have zd5:wz.cell? ⟨g,5,none⟩=some (.bool false):=by rw [hwz];simp [zc5,go_sem]
 have zd6:wz.cell? ⟨g,6,none⟩=some (.int .u32 0):=by rw [hwz];simp [zc6,go_sem]
 have zd7:wz.cell? ⟨g,7,none⟩=some (.int .u32 0):=by rw [hwz];simp [zc7,go_sem]
 have zd8:wz.cell? ⟨g,8,none⟩=some (.slice none 0 0):=by rw [hwz];simp [zc8,go_sem]
 have HUz:Hid (Touch (fun k=>k=g) w4 wz):=by show Touch _ _ _;rw [hwz];refine Touch.setCell (F:=fun k=>k=g) (p:=⟨g,8,none⟩) ?_ (Or.inl rfl) _;refine Touch.setCell (F:=fun k=>k=g) (p:=⟨g,7,none⟩) ?_ (Or.inl rfl) _;refine Touch.setCell (F:=fun k=>k=g) (p:=⟨g,6,none⟩) ?_ (Or.inl rfl) _;refine Touch.setCell (F:=fun k=>k=g) (p:=⟨g,5,none⟩) ?_ (Or.inl rfl) _;refine Touch.setCell (F:=fun k=>k=g) (p:=⟨g,4,none⟩) ?_ (Or.inl rfl) _;refine Touch.setCell (F:=fun k=>k=g) (p:=⟨g,3,none⟩) ?_ (Or.inl rfl) _;refine Touch.setCell (F:=fun k=>k=g) (p:=⟨g,2,none⟩) ?_ (Or.inl rfl) _;refine Touch.setCell (F:=fun k=>k=g) (p:=⟨g,1,none⟩) ?_ (Or.inl rfl) _;refine Touch.setCell (F:=fun k=>k=g) (p:=⟨g,0,none⟩) ?_ (Or.inl rfl) _;exact Touch.refl _ _
 have HWz:Hid (wz=(((((((((w4.setCell ⟨g,0,none⟩ (.int .u8 0)).setCell ⟨g,1,none⟩ (.slice none 0 0)).setCell ⟨g,2,none⟩ (.int .u32 M)).setCell ⟨g,3,none⟩ (.slice none 0 0)).setCell ⟨g,4,none⟩ (.int .u32 C)).setCell ⟨g,5,none⟩ (.bool false)).setCell ⟨g,6,none⟩ (.int .u32 0)).setCell ⟨g,7,none⟩ (.int .u32 0)).setCell ⟨g,8,none⟩ (.slice none 0 0))):=hwz
 clear hwz
 go_wp2_with fail
 rw [←HWz.out]
 clear HWz zc0 zf0 zc1 zf1 zc2 zf2 zc3 zf3 zc4 zf4 zc5 zf5 zc6 zf6 zc7 zf7 zc8 zf8
 refine bodyPost_ret (v:=.agg #[.int .u8 0,.slice none 0 0,.int .u32 M,.slice none 0 0,.int .u32 C,.bool false,.int .u32 0,.int .u32 0,.slice none 0 0]) (by simp [results,Tryz.results164,go_sem,zd0,zd1,zd2,zd3,zd4,zd5,zd6,zd7,zd8]) rfl ?_
 exact Or.inl ⟨⟨0,[],M,[],C,false,0,0,[]⟩,_,_,_,q3,rfl,H3.out.touch HUz.out (fun k hk e=>by have:=HG.out;have:=HN.out;omega),BOwn.flat _ _ _ _ _ _ _ _,T3.out.trans' HUz.out (fun i hi e=>by have:=HG.out;omega),YES.out HMz.out HYtldmkoogghemhaaGreat.out⟩
end Go.Proofs.YtldmkoogghemhaaGreat
