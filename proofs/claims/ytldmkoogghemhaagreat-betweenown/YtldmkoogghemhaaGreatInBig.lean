import Derived.Test.YtldmkoogghemhaaGreatBtOne
namespace Go.Proofs.YtldmkoogghemhaaGreat
set_option maxHeartbeats 8000000
open Go.RowKit
set_option linter.unusedVariables false
set_option maxRecDepth 100000
def oneZ:WY:=⟨⟨⟨167903232,16⟩,0,0,2,0,9,0,0,[]⟩,.slice none 0 0⟩
theorem Qll:(impW [oneW] oneZ.x).cost=7:=by
 have h:impW [oneW] oneZ.x=if mayW oneZ.x=true then shP oneZ.x oneW else oneZ.x:=Qg5 (List.pairwise_singleton _ _) (i:=0) rfl ⟨rfl,rfl,rfl⟩
 rw [h,if_pos (by decide)]
 rfl
theorem Qha {w:World} {base:Nat} {v:Value} {N:List WY} {x:WP} (h:w.ownsRow base 47 10 v N.length (cellsG WY.cs N)) (hx:N.map (·.x)=[x]):∃(g c:Nat),v=.slice (some ⟨g,0,none⟩) 1 c∧w.cell? ⟨g,6,none⟩=some (.int .u32 x.cost)∧w.cell? ⟨g,4,none⟩=some (.int .u8 x.kind):=by
 match N,hx with
 | [y],hx =>
  have e:y.x=x:=by simpa using hx
  rcases h.2 with⟨-,h0⟩|⟨g,cap,cur,hv,-⟩
  ·simp at h0
  ·subst hv
   obtain⟨g',o,e1,q⟩:=Qbq (Qfj (Qcg h) rfl) (k:=0) (y:=y) rfl
   injection e1 with e1
   injection e1 with e1 e2
   subst e1
   subst e2
   refine⟨_,_,rfl,?_,?_⟩
   ·rw [←e];exact q.e6
   ·rw [←e];exact q.e4
theorem Qda {w:World} {base:Nat} {v:Value} {N:List WY} (h:w.ownsRow base 47 10 v N.length (cellsG WY.cs N)) (hx:N.map (·.x)=[]):∃(a:Option Addr) (c:Nat),v=.slice a 0 c:=by
 have:N=[]:=by simpa using hx
 subst this
 exact Qal h
theorem Qf9 (w:World):Calls Tryz.prog 10 #[] w fun e w'=>e=.returned (.bool true)∧Touch (fun _=>False) w w':=by
 obtain⟨g0,hg0⟩:∃g,g=w.heap.size:=⟨_,rfl⟩
 obtain⟨w0,hw0⟩:∃u,u=(w.alloc (.cells #[.int .u32 5,.int .u32 2,.bool false] 53)).alloc (.cells #[.int .u32 0,.int .u8 0,.int .u32 2,.int .u8 1,.int .u8 1,.int .u32 0,.int .u32 3,.int .u32 0,.int .u32 0,.slice (some ⟨g0,0,none⟩) 1 1] 47):=⟨_,rfl⟩
 have HT0:Hid (Touch (fun _=>False) w w0):=by rw [hw0];exact ((Touch.refl _ _).alloc _).alloc _
 have R0:Row w0 g0 53 [.int .u32 5,.int .u32 2,.bool false]:=by rw [hw0,hg0];exact (Qac w _ _).keep ((Touch.refl _ _).alloc _)
 have R1:Row w0 (g0+1) 47 [.int .u32 0,.int .u8 0,.int .u32 2,.int .u8 1,.int .u8 1,.int .u32 0,.int .u32 3,.int .u32 0,.int .u32 0,.slice (some ⟨g0,0,none⟩) 1 1]:=by
  rw [hw0]
  have:=Qac (w.alloc (.cells #[.int .u32 5,.int .u32 2,.bool false] 53)) 47 #[.int .u32 0,.int .u8 0,.int .u32 2,.int .u8 1,.int .u8 1,.int .u32 0,.int .u32 3,.int .u32 0,.int .u32 0,.slice (some ⟨g0,0,none⟩) 1 1]
  rw [World.size_alloc,←hg0] at this
  exact this
 have HRD:Hid (WRd w0 (.slice (some ⟨g0+1,0,none⟩) 1 1) [oneR (.slice (some ⟨g0,0,none⟩) 1 1)]):=by
  refine⟨⟨_,_,rfl,Or.inr ⟨_,_,rfl,fun i x hx d u hd=>?_⟩⟩,fun y hy=>?_,fun y hy=>?_,fun y hy h hh=>?_,fun y hy=>?_⟩
  ·match i,hx with
   | 0,hx =>
    cases hx
    have:=R1.cell d
    rw [Nat.zero_mul,Nat.add_zero,Nat.zero_add]
    rw [this]
    exact hd
   | i+1,hx=>simp at hx
  ·obtain rfl:=List.mem_singleton.1 hy
   refine⟨rfl,Or.inr ⟨_,_,rfl,Nat.le_refl _,by unfold maxLen;omega,fun j u hj=>?_⟩⟩
   rw [Qah,Nat.zero_add,R0.cell j]
   exact hj
  ·obtain rfl:=List.mem_singleton.1 hy
   exact⟨(by decide:(0:Int)≤2),(by decide:(2:Int)≤4294967295)⟩
  ·obtain rfl:=List.mem_singleton.1 hy
   obtain rfl:h=⟨5,2,false⟩:=by simpa [oneR] using hh
   exact⟨by decide,by decide⟩
  ·obtain rfl:=List.mem_singleton.1 hy
   show 1≤400
   decide
 have HFL:Hid ((∀y∈[oneR (.slice (some ⟨g0,0,none⟩) 1 1)],0≤y.x.flags∧y.x.flags≤255)∧∀y∈[oneR (.slice (some ⟨g0,0,none⟩) 1 1)],0≤y.x.cost∧y.x.cost≤4294967295):=⟨fun y hy=>by obtain rfl:=List.mem_singleton.1 hy;exact⟨(by decide:(0:Int)≤1),(by decide:(1:Int)≤255)⟩,fun y hy=>by obtain rfl:=List.mem_singleton.1 hy;exact⟨(by decide:(0:Int)≤3),(by decide:(3:Int)≤4294967295)⟩⟩
 clear R0 R1
 have HRO:Hid (∀(w':World) (a:Option Addr) (c:Nat) (v:Value),Touch (fun _=>False) w0 w'→StatesAt w' (.slice a 1 c) [oneS v]→Calls Tryz.prog 13 #[.slice a 1 c,.int .u32 0,.int .u32 1,.slice (some ⟨g0+1,0,none⟩) 1 1] w' (BRouP w' [oneR (.slice (some ⟨g0,0,none⟩) 1 1)] 1 0 [oneS v])):=fun w' a c v t A =>
  Qcw a c [oneS v] _ [oneR (.slice (some ⟨g0,0,none⟩) 1 1)] 1 0 w' A (HRD.out.keep t) HFL.out.1 HFL.out.2 (by simp) (by simp) (fun x hx=>by obtain rfl:=List.mem_singleton.1 hx;exact Nat.le_trans Qd7 (by decide))
 have HIM:Hid (∀(w':World) (vw:Value) (a:Option Addr) (c:Nat) (v:Value),Touch (fun _=>False) w0 w'→WV w' vw [oneZ]→StatesAt w' (.slice a 1 c) [oneS v]→Calls Tryz.prog 18 #[vw,.slice a 1 c,.int .u32 1,.slice (some ⟨g0+1,0,none⟩) 1 1] w' (ImpP w' [oneZ] [oneR (.slice (some ⟨g0,0,none⟩) 1 1)] 1 [oneS v])):=fun w' vw a c v t V A =>
  Qeb vw [oneZ] a c [oneS v] _ [oneR (.slice (some ⟨g0,0,none⟩) 1 1)] 1 w' V (fun y hy=>by obtain rfl:=List.mem_singleton.1 hy;exact⟨rfl,Or.inl ⟨rfl,rfl⟩⟩) (fun y hy=>by obtain rfl:=List.mem_singleton.1 hy;exact Nat.zero_le _) (by simp) A (HRD.out.keep t) HFL.out.1 HFL.out.2 (by simp) (by simp) (fun x hx=>by obtain rfl:=List.mem_singleton.1 hx;exact Nat.le_trans Qd7 (by decide))
 have HO1:=fun w=>Qmg w
 go_enter Tryz.func10,Tryz.ntmps10
 go_upto_region 2 with fail
 rw [←hg0,←hw0]
 clear hw0
 generalize g0+1=g1 at *
 clear hg0
 go_upto_region 3 with (first
  | (go_at_call 24;refine (HO1 _).mono ?_;rintro e w1 hp;obtain⟨a1,c1,v1,rfl,A1,t1⟩:=hp.out;have HA1:Hid (StatesAt w1 (.slice a1 1 c1) [oneS v1]):=A1;have HT1:Hid (Touch (fun _=>False) w0 w1):=t1;clear A1 t1 hp)
  | (go_at_call 13;refine (HRO.out _ _ _ _ HT1.out HA1.out).mono ?_;rintro e w2 hp;obtain⟨n1,n2,N1,N2,L,rfl,h1,h2,hp2,hs2,hx1,hx2⟩:=hp.out;rw [Qfh hp2] at hx1 hx2;have HT2:Hid (Touch (fun _=>False) w1 w2):=h1.b.t;have HR1:Hid (∃g c,n1=.slice (some ⟨g,0,none⟩) 1 c∧w2.cell? ⟨g,6,none⟩=some (.int .u32 7)∧w2.cell? ⟨g,4,none⟩=some (.int .u8 2)):=Qha h1.b.own hx1;have HR2:Hid (∃a c,n2=.slice a 0 c):=Qda h2.b.own hx2;obtain⟨gn,cn,rfl,hc6,hc4⟩:=HR1.out;obtain⟨ab,cb,rfl⟩:=HR2.out;have HC:Hid (w2.cell? ⟨gn,6,none⟩=some (.int .u32 7)∧w2.cell? ⟨gn,4,none⟩=some (.int .u8 2)):=⟨hc6,hc4⟩;clear h1 h2 hp2 hs2 hx1 hx2 hp HR1 HR2 hc6 hc4))
 have HTL:Hid (Touch (fun _=>False) w0 (w2.alloc (.cells #[.int .u32 167903232,.int .u8 16,.int .u32 0,.int .u8 0,.int .u8 2,.int .u32 0,.int .u32 9,.int .u32 0,.int .u32 0,.slice none 0 0] 47))):=(HT1.out.trans HT2.out).trans ((Touch.refl _ _).alloc _)
 have HTL2:Hid (Touch (fun _=>False) w2 (w2.alloc (.cells #[.int .u32 167903232,.int .u8 16,.int .u32 0,.int .u8 0,.int .u8 2,.int .u32 0,.int .u32 9,.int .u32 0,.int .u32 0,.slice none 0 0] 47))):=(Touch.refl _ _).alloc _
 have HWZ:Hid (∀w',Touch (fun _=>False) (w2.alloc (.cells #[.int .u32 167903232,.int .u8 16,.int .u32 0,.int .u8 0,.int .u8 2,.int .u32 0,.int .u32 9,.int .u32 0,.int .u32 0,.slice none 0 0] 47)) w'→WV w' (.slice (some ⟨w2.heap.size,0,none⟩) 1 1) [oneZ]):=fun w' t=>by
  have R:=(Qac w2 47 #[.int .u32 167903232,.int .u8 16,.int .u32 0,.int .u8 0,.int .u8 2,.int .u32 0,.int .u32 9,.int .u32 0,.int .u32 0,.slice none 0 0]).keep t
  refine⟨rfl,Or.inr ⟨_,1,rfl,Nat.le_refl _,by unfold maxLen;omega,fun j u hj=>?_⟩⟩
  rw [Qah,Nat.zero_add,R.cell j]
  exact hj
 have HXF:Hid (∀(L:List WY) (v:Value),L.Perm (leadsY [oneR (.slice (some ⟨g0,0,none⟩) 1 1)] 1 [oneS v])→[oneZ.x].map (impW (bestP (L.map (·.x))))=[impW [oneW] oneZ.x]):=fun L v hp=>by rw [Qfh hp];rfl
 clear HRO
 go_upto_region 4 with (first
  | (go_at_call 24;refine (HO1 _).mono ?_;rintro e w3 hp;obtain⟨a3,c3,v3,rfl,A3,t3⟩:=hp.out;have HA3:Hid (StatesAt w3 (.slice a3 1 c3) [oneS v3]):=A3;have HT3:Hid (Touch (fun _=>False) (w2.alloc (.cells #[.int .u32 167903232,.int .u8 16,.int .u32 0,.int .u8 0,.int .u8 2,.int .u32 0,.int .u32 9,.int .u32 0,.int .u32 0,.slice none 0 0] 47)) w3):=t3;clear A3 t3 hp)
  | (go_at_call 18;refine (HIM.out _ _ _ _ _ (HTL.out.trans HT3.out) (HWZ.out _ HT3.out) HA3.out).mono ?_;rintro e w4 hp;obtain⟨v4,N,L4,rfl,h4,hp4,hs4,hx4⟩:=hp.out;rw [show ([oneZ]:List WY).map (·.x)=[oneZ.x] from rfl,HXF.out _ _ hp4] at hx4;have HT4:Hid (Touch (fun _=>False) w3 w4):=h4.b.t;have HR4:Hid (∃g c,v4=.slice (some ⟨g,0,none⟩) 1 c∧w4.cell? ⟨g,6,none⟩=some (.int .u32 7)):=by { obtain⟨g,c,e1,e2,-⟩:=Qha h4.b.own hx4;rw [Qll] at e2;exact⟨g,c,e1,e2⟩ };obtain⟨gm,cm,rfl,hm6⟩:=HR4.out;have HM6:Hid (w4.cell? ⟨gm,6,none⟩=some (.int .u32 7)):=hm6;clear h4 hp4 hs4 hx4 hp HR4 hm6))
 have t24:Touch (fun _=>False) w2 w4:=HTL2.out.trans (HT3.out.trans HT4.out)
 have c6:=t24.cellN HC.out.1
 have c4:=t24.cellN HC.out.2
 have m6:=HM6.out
 have lc:=Qaa c6
 have lm:=Qaa m6
 have HFI:Hid (Touch (fun _=>False) w w4):=HT0.out.trans ((HT1.out.trans HT2.out).trans t24)
 clear t24 HO1
 go_wp2_with fail
 go_ret
 exact⟨rfl,HFI.out⟩
theorem heavy19 (v:Value) (l:List SE) (w:World) (hv:StatesAt w v l) (hmx:l.length≤140737488355328) (hbx:∀x∈l,x.rs.length≤140737488355328):Calls Tryz.prog 8 #[v] w fun e w'=>∃b:Bool,e=.returned (.bool b)∧(b=false→l.length≤60∧∀x∈l,x.rs.length≤8192)∧w=w':=by
 have HB:Hid (∀x∈l,x.rs.length≤140737488355328):=hbx
 clear hbx
 by_cases hl:l.length≤60
 ·have HS:=gsstates v l w hv (by omega) HB.out
  obtain⟨va,vc,rfl,-⟩:=ValsAt.form hv.vals
  have hl':¬(60:Int)<(l.length:Int):=by omega
  have HL:Hid (l.length≤60):=hl
  clear hv
  generalize hn:l.length=n at *
  clear hn
  go_enter Tryz.func8,Tryz.ntmps8
  go_wp2_with fail
  refine HS.mono ?_
  rintro e w1 ⟨N,rfl,h1,h2,rfl⟩
  have H2:Hid _:=h2
  clear h2 HS
  go_wp2_with fail
  go_ret
  refine⟨_,rfl,fun hb=>?_,rfl⟩
  have hb':¬(8192:Int)<(N:Int):=by simpa using hb
  exact⟨HL.out,fun x hx=>Nat.le_trans ((H2.out (by omega)).2 x hx) (by omega)⟩
 ·obtain⟨va,vc,rfl,-⟩:=ValsAt.form hv.vals
  have hl':(60:Int)<(l.length:Int):=by omega
  clear hv HB
  generalize l.length=n at *
  go_enter Tryz.func8,Tryz.ntmps8
  go_wp2_with fail
  go_ret
  exact⟨_,rfl,fun hb=>by simp at hb,rfl⟩
def hopsN (l:List WY) (k:Nat):Nat:=((l.take k).map (fun y=>y.x.hs.length)).sum
theorem Qd4 {l:List WY} {k:Nat} {y:WY} (h:l[k]?=some y):hopsN l (k+1)=hopsN l k+y.x.hs.length:=by
 unfold hopsN
 rw [List.take_add_one,h,List.map_append,List.sum_append]
 simp
theorem Qei {l:List WY} {M:Nat} (hM:∀y∈l,y.x.hs.length≤M):∀k,hopsN l k≤k*M
 | 0=>by simp [hopsN]
 | k+1=>by
  cases h:l[k]? with
  | none =>
   have e:l.take (k+1)=l.take k:=by rw [List.take_add_one,h];simp
   have:=Qei hM k
   unfold hopsN at *
   rw [e,Nat.add_mul]
   omega
  | some y =>
   rw [Qd4 h,Nat.add_mul]
   have:=Qei hM k
   have:=hM y (List.mem_of_getElem? h)
   omega
theorem Qkk {l:List WY} (h:∀y∈l,y.x.hs.length≤140737488355328) {k:Nat} (hk:k≤60):hopsN l k≤8444249301319680:=by
 have h1:=Qei h k
 generalize hopsN l k=a at *
 omega
theorem Qjv {a:Nat}:∀{l:List Nat},a∈l→a≤l.sum
 | [],h=>by cases h
 | b::l,h=>by
  rw [List.sum_cons]
  rcases List.mem_cons.1 h with rfl|h
  ·omega
  ·have:=Qjv h
   omega
theorem Qj9 {l:List WY} {y:WY} (hy:y∈l):y.x.hs.length≤hopsN l l.length:=by
 unfold hopsN
 rw [List.take_length]
 exact Qjv (List.mem_map.2 ⟨y,hy,rfl⟩)
structure BigP (l:List WY) (w:World) (e:Ending) (w':World):Prop where
 out:∃b:Bool,e=.returned (.bool b)∧(b=false→l.length≤60∧∀y∈l,y.x.hs.length≤400)∧w=w'
theorem Qlj (v:Value) (l:List WY) (w:World) (A:WsAt w v l) (hl:l.length≤140737488355328):Calls Tryz.prog 9 #[v] w (BigP l w):=by
 obtain⟨va,vc,rfl,hsh⟩:=A.sh
 have HOK:Hid (∀y∈l,WIn w y):=A.ok
 have HSH:Hid (RwAt WY.cs 10 w va l):=hsh
 generalize hN:l.length=n at *
 have HN:Hid (l.length=n):=hN
 clear A hsh hN
 go_enter Tryz.func9,Tryz.ntmps9
 go_wp2_with fail
 go_loopw [3,4] (fun s3 s4 wr=>∃(k:Nat) (m:Int),k≤n∧s4=.int .i64 k∧s3=.int .i64 m∧(n≤60→m=(hopsN l k:Int))∧wr=w) (fun _ s4 _=>n-(intOf s4).toNat)
 case atStart=>exact⟨0,0,Nat.zero_le _,rfl,rfl,fun _=>by simp [hopsN],rfl⟩
 case round =>
  obtain⟨k,m,hk,rfl,rfl,hm,rfl⟩:=hrel
  have HM:Hid (n≤60→m=(hopsN l k:Int)):=hm
  clear hm
  by_cases hlt:k<n
  ·have hlt':(k:Int)<(n:Int):=by omega
   have hk00:(0:Int)≤(k:Int):=by omega
   have hkw:wrap64 ((k:Int)+1)=(k:Int)+1:=by unfold wrap64;omega
   obtain⟨y,hy⟩:∃y,l[k]?=some y:=⟨l[k]'(by have:=HN.out;omega),by simp⟩
   have yin:=HOK.out y (List.mem_of_getElem? hy)
   obtain⟨ha,hcp,eh,-⟩:=yin.ra.out
   rcases HSH.out with e|⟨g,oo,rfl,hc⟩
   ·rw [e] at hy;cases hy
   have e9:wr.cell? ⟨g,oo+k*10+9,none⟩=some (.slice ha y.x.hs.length hcp):=by rw [←eh];exact hc k y hy 9 _ rfl
   have le:=Qaa e9
   have HS:Hid (n≤60→hopsN l (k+1)=hopsN l k+y.x.hs.length∧hopsN l (k+1)≤8444249301319680):=fun h60=>⟨Qd4 hy,Qkk (fun z hz=>(HOK.out z hz).ln) (by omega)⟩
   clear hc hy yin eh
   generalize y.x.hs.length=hl0 at *
   go_wp2_with fail
   go_roundw
   case rel=>exact⟨k+1,_,by omega,by go_num,rfl,fun h60=>by
    have h1:=HM.out h60
    obtain⟨h2,h3⟩:=HS.out h60
    rw [h2] at h3 ⊢
    subst h1
    first|(unfold wrap64;omega)|(rw [IntWalk.i64_in _ (by omega)];omega),by first|rfl|trivial⟩
   case measure=>first|exact Qax hlt hkw|exact Qax hlt rfl
  ·have hlt':¬(k:Int)<(n:Int):=by omega
   obtain rfl:k=n:=by omega
   by_cases h60:k≤60
   ·have hm:=HM.out h60
    subst hm
    have h60':¬(60:Int)<(k:Int):=by omega
    have HF:Hid (hopsN l k≤400→k≤60∧∀y∈l,y.x.hs.length≤400):=fun h=>⟨h60,fun y hy=>by
     have:=Qj9 hy
     rw [HN.out] at this
     omega⟩
    generalize hopsN l k=hh at *
    go_wp2_with fail
    go_ret
    refine⟨_,rfl,fun hb=>?_,rfl⟩
    rw [HN.out]
    exact HF.out (by have h4:(hh:Int)≤400:=(by simpa using hb);omega)
   ·have h60':(60:Int)<(k:Int):=by omega
    go_wp2_with fail
    go_ret
    exact⟨_,rfl,fun hb=>by simp at hb,rfl⟩
end Go.Proofs.YtldmkoogghemhaaGreat
