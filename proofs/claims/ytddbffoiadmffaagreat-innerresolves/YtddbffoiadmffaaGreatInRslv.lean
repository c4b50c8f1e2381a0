import Derived.Test.YtddbffoiadmffaaGreatInRing
import Derived.Deep.QuietTactic
import Derived.BigQuiet
import Derived.Test.YtddbffoiadmffaaGreatInRsR
namespace Go.Proofs.YtddbffoiadmffaaGreat
set_option maxHeartbeats 8000000
open Go.RowKit
set_option linter.unusedVariables false
set_option maxRecDepth 100000
def gR:List TN:=[⟨false,1,[⟨1,3,167772161,false⟩]⟩,⟨false,2,[⟨0,5,167772162,false⟩]⟩]
theorem Qwv:(grB P2r).map tnOf=gR:=by rw [Qm9];rfl
theorem Qww:GOk gR 65535 1:=by
 refine⟨?_,?_,?_,?_,by omega⟩ <;> (intro t ht;simp [gR] at ht;rcases ht with rfl|rfl <;> simp)
theorem walkR {u v:Nat} {c:Int} (W:Wk gR u v c):0≤c∧(u≠v→3≤c):=by
 induction W with
 | nil hu=>exact⟨Int.le_refl _,fun h=>(h rfl).elim⟩
 | @snoc v y c e W he hd hy ih =>
  have hc:3≤e.cost:=by
   rcases Nat.lt_or_ge v 2 with h|h
   ·rcases (by omega:v=0∨v=1) with rfl|rfl <;> (simp [gn,gR] at he;rw [he];simp)
   ·have hl:gR.length≤v:=h
    unfold gn at he
    rw [List.getD_eq_getElem?_getD,List.getElem?_eq_none hl] at he
    simp [TN0] at he
  have:=ih.1
  exact⟨by omega,fun _=>by omega⟩
theorem Qn5 {x i:Nat} {s:Sp} {R:Nat→RV} {Z:Nat→Sp} (I:Inv gR 65535 0 x i s [] R Z) (hf:(gn gR x).edges.length≤i):R 0=⟨true,0,[]⟩∧R 1=⟨true,3,[⟨167772161,2,false⟩]⟩:=by
 refine⟨I.rr,?_⟩
 have W:Wk gR 0 1 (0+3):=Wk.snoc (e:=⟨1,3,167772161,false⟩) (Wk.nil 0 (by decide)) (by simp [gn,gR]) rfl (by decide)
 obtain⟨h1,h2,h3⟩:=I.opt Qww hf (by decide) W
 have h4:=(walkR (I.wk 1 (by decide) h1)).2 (by omega)
 have hc:(R 1).cost=3:=by omega
 have hh:(R 1).hops=[⟨167772161,2,false⟩]:=by
  refine Quu (I.so 1) (I.hopsN (by decide) h1 (by omega)) (fun h hm=>?_)
  obtain⟨⟨e,he,t,hd,ht,hr,-,-,hk⟩,-,-⟩:=(I.hc 1 h hm).1
  simp [gn,gR] at he
  subst he
  have:t=1:=by simp at hd;omega
  subst this
  exact hk rfl
 cases hR:R 1 with
 | mk a b c=>rw [hR] at h1 hc hh;simp at h1 hc hh;rw [h1,hc,hh]
theorem Qpy {n:Nat} {z:Int} {R:Nat→RV} {H:Nat→Value} {N1 N2:List WY} {Ls:List ME} (fk:FrK P2r 1 n z R) (hp:Ls.Perm (metW [] (netsK (grB P2r) R H n))) (h1:N1.map (·.x)=Ls.map (wayE 7)) (h2:N2.map (·.x)=rtrsK (grB P2r) R 7 z n) :
  ∃y1 y2 l1,N1=[⟨⟨⟨167837696,16⟩,0,0,1,7,7,0,0,l1⟩,y1⟩]∧N2=[⟨⟨⟨0,0⟩,2,3,1,7,3,0,0,[⟨167772161,2,false⟩]⟩,y2⟩]:=by
 have hf0:findI (grB P2r) false 1=0:=by rw [Qm9];rfl
 rcases fk.out with⟨-,h⟩|⟨hn,k,nd,hz,hk,hg,-,-,x,i,s,Z,I,hfull⟩
 ·rw [hf0] at h
  omega
 ·rw [hf0] at hk
  have hk0:k=0:=by omega
  subst hk0
  have hn2:n=2:=hn
  subst hn2
  subst hz
  rw [Qwv] at I hfull
  obtain⟨r0,r1⟩:=Qn5 I hfull
  rw [Qm9] at hp h2
  have e1:netsK [n1r,n2r] R H 2=[⟨⟨167837696,16⟩,7,(H 1,[⟨167772161,2,false⟩])⟩]:=by
   rw [Qc2 (k:=1) (nd:=n2r) rfl,Qc2 (k:=0) (nd:=n1r) rfl,r0,r1]
   rfl
  have e2:rtrsK [n1r,n2r] R 7 ((0:Nat):Int) 2=[⟨⟨0,0⟩,2,3,1,7,3,0,0,[⟨167772161,2,false⟩]⟩]:=by
   rw [Qc4 (k:=1) (nd:=n2r) rfl,Qc4 (k:=0) (nd:=n1r) rfl,r0,r1]
   rfl
  rw [e1] at hp
  rw [e2] at h2
  have hL:Ls=[⟨⟨167837696,16⟩,7,[(H 1,[⟨167772161,2,false⟩])]⟩]:=List.perm_singleton.1 hp
  rw [hL] at h1
  obtain⟨y1,rfl,e3⟩:=List.map_eq_singleton_iff.1 h1
  obtain⟨y2,rfl,e4⟩:=List.map_eq_singleton_iff.1 h2
  obtain⟨x1,v1⟩:=y1
  obtain⟨x2,v2⟩:=y2
  simp only at e3 e4
  subst e3
  subst e4
  exact⟨v1,v2,_,rfl,rfl⟩
theorem eqPxR (w:World):(Op.equalIn 10000 42 (.agg #[.int .u32 167837696,.int .u8 16]) (.agg #[.int .u32 167837696,.int .u8 16])).run Tryz.prog w=.ok true w:=by kernel_rfl
theorem works18 (w:World):Calls Tryz.prog 9 #[] w fun e w'=>e=.returned (.bool true)∧Touch (fun _=>False) w w':=by
 have hEP:=eqPxR
 have hEQ:∀w,(Op.equalIn 10000 48 (.agg #[.int .u32 167772161,.int .u32 2,.bool false]) (.agg #[.int .u32 167772161,.int .u32 2,.bool false])).run Tryz.prog w=.ok true w:=fun w=>by have:=eqHop ⟨167772161,2,false⟩ ⟨167772161,2,false⟩ w;simpa using this
 have hb1:∀w,(Instr.build 42 #[(0,.int .u32 167837696),(1,.int .u8 16)]).run Tryz.prog w=.ok (.agg #[.int .u32 167837696,.int .u8 16]) w:=fun w=>run_build w 42 _ _ (by kernel_rfl)
 have hb4:∀w,(Instr.build 48 #[(0,.int .u32 167772161),(1,.int .u32 2)]).run Tryz.prog w=.ok (.agg #[.int .u32 167772161,.int .u32 2,.bool false]) w:=fun w=>run_build w 48 _ _ (by kernel_rfl)
 have H2:=Qpu w
 go_enter Tryz.func9,Tryz.ntmps9
 go_wp2_with fail
 refine H2.mono ?_
 rintro e w1 ⟨⟨u,va,vb,rfl,hs⟩,t1⟩
 have HR:=Qin u _ 7 1 w1 hs (by simp) (fun x hx=>by
  simp only [List.mem_cons,List.not_mem_nil,or_false] at hx
  have a1:=Qbh 1 rbA
  have a2:=Qbh 1 rbB
  have b1:sizeB 1 rbA≤8192:=by decide
  have b2:sizeB 1 rbB≤8192:=by decide
  rcases hx with rfl|rfl
  ·refine⟨?_,Qs0⟩
   show (layB 1 rbA).length≤8192
   omega
  ·refine⟨?_,Qs0⟩
   show (layB 1 rbB).length≤8192
   omega)
 obtain⟨ua,uc,eu,-⟩:=ValsAt.form hs.vals
 subst eu
 have HT1:Hid (Touch (fun _=>False) w w1):=t1
 clear hs t1 H2
 go_wp2_with fail
 refine HR.mono ?_
 rintro e w2 ⟨P,n,z,R,H,v1,v2,N1,N2,Ls,rfl,hN,fk,hw1,hw2,hp,hpl,hm1,hm2⟩
 obtain rfl:=Qug hN
 obtain⟨h1,h2,l1,rfl,rfl⟩:=Qpy fk hp hm1 hm2
 have HT2:Hid (Touch (fun _=>False) w1 w2):=hw1.b.t
 have q1:RG WY.cs 10 45 w1.heap.size w2 v1 _:=hw1.b.1
 have q2:RG WY.cs 10 45 w1.heap.size w2 v2 _:=hw2.b.1
 obtain⟨g1,c1,rfl,-,lg1,-⟩:=RG.form q1 (Nat.succ_pos _)
 obtain⟨g2,c2,rfl,-,lg2,-⟩:=RG.form q2 (Nat.succ_pos _)
 have q3:RG HK.cs 3 48 0 w2 h2 [⟨167772161,2,false⟩]:=hw2.h _ (List.mem_singleton.2 rfl)
 obtain⟨g3,c3,rfl,-,lg3,-⟩:=RG.form q3 (Nat.succ_pos _)
 have k0:w2.cell? ⟨g1,0,none⟩=some (.int .u32 167837696):=RG.cell (i:=0) (d:=0) WY.len q1 rfl rfl
 have k1:w2.cell? ⟨g1,1,none⟩=some (.int .u8 16):=RG.cell (i:=0) (d:=1) WY.len q1 rfl rfl
 have k5:w2.cell? ⟨g1,5,none⟩=some (.int .u32 7):=RG.cell (i:=0) (d:=5) WY.len q1 rfl rfl
 have k6:w2.cell? ⟨g1,6,none⟩=some (.int .u32 7):=RG.cell (i:=0) (d:=6) WY.len q1 rfl rfl
 have m2:w2.cell? ⟨g2,2,none⟩=some (.int .u32 2):=RG.cell (i:=0) (d:=2) WY.len q2 rfl rfl
 have m9:w2.cell? ⟨g2,9,none⟩=some (.slice (some ⟨g3,0,none⟩) 1 c3):=RG.cell (i:=0) (d:=9) WY.len q2 rfl rfl
 have p0:w2.cell? ⟨g3,0,none⟩=some (.int .u32 167772161):=RG.cell (i:=0) (d:=0) HK.len q3 rfl rfl
 have p1:w2.cell? ⟨g3,1,none⟩=some (.int .u32 2):=RG.cell (i:=0) (d:=1) HK.len q3 rfl rfl
 have p2:w2.cell? ⟨g3,2,none⟩=some (.bool false):=RG.cell (i:=0) (d:=2) HK.len q3 rfl rfl
 clear q1 q2 q3 hw1 hw2 hp hpl hm1 hm2 hN fk HR lg1 lg2 lg3
 simp only [List.length_cons,List.length_nil,Nat.zero_add]
 go_wp2_with fail
 go_ret
 exact⟨rfl,HT1.out.trans HT2.out⟩
theorem Qu6 {w wr:World} {v:Value} {L:List WY} (h:WB1 w wr v L) (h1:∀y∈L,0≤y.x.router∧y.x.router≤4294967295) (h2:∀y∈L,∀h∈y.x.hs,0≤h.via∧h.via≤4294967295) (h3:∀y∈L,y.x.hs.length≤400):WRd wr v L:=by
 refine⟨?_,fun y hy=>Qbd (h.h y hy),h1,h2,h3⟩
 have r:RG WY.cs 10 45 w.heap.size wr v L:=h.b.own
 by_cases h0:0<L.length
 ·obtain⟨g,c,rfl,-⟩:=RG.form r h0
  exact⟨_,c,rfl,Or.inr ⟨g,0,rfl,fun i x hx d u hd=>by rw [Nat.zero_add];exact RG.cell WY.len r hx hd⟩⟩
 ·obtain⟨a,c,rfl⟩:=RG.shape r
  exact⟨a,c,rfl,Or.inl (List.eq_nil_of_length_eq_zero (by omega))⟩
structure LkW (NX:List WP):Prop where
 rt:∀x∈NX,0≤x.router∧x.router≤4294967295
 vi:∀x∈NX,∀h∈x.hs,0≤h.via∧h.via≤4294967295
 ln:∀x∈NX,x.hs.length≤400
theorem LkW.of {w:World} {v:Value} {l:List WY} (h:WsAt w v l) (hb:∀y∈l,y.x.hs.length≤400):LkW (l.map (·.x)):=by
 refine⟨fun x hx=>?_,fun x hx=>?_,fun x hx=>?_⟩ <;> obtain⟨y,hy,rfl⟩:=List.mem_map.1 hx
 ·exact (h.ok y hy).nk.rt
 ·exact (h.ok y hy).vi
 ·exact hb y hy
theorem LkW.rd {w wr:World} {v:Value} {L:List WY} {N:List WP} (h:LkW N) (hL:L.map (·.x)=N) (hw:WB1 w wr v L):WRd wr v L:=by
 have m:∀y∈L,y.x∈N:=fun y hy=>by rw [←hL];exact List.mem_map.2 ⟨y,hy,rfl⟩
 exact Qu6 hw (fun y hy=>h.rt _ (m y hy)) (fun y hy=>h.vi _ (m y hy)) (fun y hy=>h.ln _ (m y hy))
theorem Qu5 {T base:Nat} {w:World} {v:Value} {L:List WY} (r:RG WY.cs 10 T base w v L):∃a c,v=.slice a L.length c∧RwAt WY.cs 10 w a L:=by
 by_cases h0:0<L.length
 ·obtain⟨g,c,rfl,-⟩:=RG.form r h0
  exact⟨_,c,rfl,Or.inr ⟨g,0,rfl,fun i x hx d u hd=>by rw [Nat.zero_add];exact RG.cell WY.len r hx hd⟩⟩
 ·obtain⟨a,c,rfl⟩:=RG.shape r
  exact⟨a,c,rfl,Or.inl (List.eq_nil_of_length_eq_zero (by omega))⟩
theorem WB1.vs {w wr:World} {v:Value} {L:List WY} (h:WB1 w wr v L):WVs wr v L:=⟨Qu5 (show RG WY.cs 10 45 w.heap.size wr v L from h.b.own),fun y hy=>HV3.ra (Qbd (h.h y hy))⟩
theorem DW.vs {w wr:World} {v:Value} {L:List WY} (h:DW w wr v L):WVs wr v L:=⟨Qu5 (show RG WY.cs 10 84 w.heap.size wr v L from h.b.own),fun y hy=>HV3.ra (Qbd (h.h y hy))⟩
theorem Qpr {T N:List WP} (hT:∀x∈T,x.hs.length≤400) (hN:∀x∈N,x.hs.length≤400) {M:List WY} (hM:M.map (·.x)=N.filterMap (resW T)):∀y∈M,y.x.hs.length≤1000000:=fun y hy=>by
 have h1:y.x∈N.filterMap (resW T):=by rw [←hM];exact List.mem_map.2 ⟨y,hy,rfl⟩
 obtain⟨x,hx,h2⟩:=List.mem_filterMap.1 h1
 unfold resW at h2
 split at h2
 ·rw [←Option.some.inj h2]
  show (resH T x.hs).length≤_
  rw [←Qrw]
  have h3:=Qew T 400 hT x.hs []
  have h4:=Nat.mul_le_mul_right 401 (hN x hx)
  simp only [List.length_nil] at h3
  unfold dH
  omega
 ·cases h2
theorem Qpn {T N:List WP} {M:List WY} (hM:M.map (·.x)=N.filterMap (resW T)) (hn:N.length≤60):M.length≤100000:=by
 have h1:=congrArg List.length hM
 have h2:=List.length_filterMap_le (resW T) N
 simp only [List.length_map] at h1
 omega
theorem resolves18 (vl vt:Value) (l T:List WY) (w:World) (A:WsAt w vl l) (C:WsAt w vt T) (hl:l.length≤140737488355328) (ht:T.length≤140737488355328) :
  Calls Tryz.prog 4 #[vl,vt] w fun e w'=>e=.returned (.bool true)∧Touch (fun _=>False) w w':=by
 have HB1:=Qjx vl l w A hl
 have HB2:=Qjx vt T w C ht
 have HW:=works18
 have HA:Hid (∀w',Touch (fun _=>False) w w'→WsAt w' vl l):=fun w' t=>A.keep t
 have HC:Hid (∀w',Touch (fun _=>False) w w'→WsAt w' vt T):=fun w' t=>C.keep t
 obtain⟨la,lc,rfl,-⟩:=A.sh
 obtain⟨ta,tc,rfl,-⟩:=C.sh
 clear A C hl ht
 go_enter Tryz.func4,Tryz.ntmps4
 go_wp2_with fail
 refine HB1.mono ?_
 rintro e w1 ⟨b1,rfl,h1,rfl⟩
 cases b1 with
 | true =>
  clear HB1 HB2 h1
  go_wp2_with fail
  refine (HW _).mono ?_
  rintro e w1 ⟨rfl,t1⟩
  have T1:Hid (Touch (fun _=>False) w w1):=t1
  clear t1 HW
  go_wp2_with fail
  go_ret
  exact⟨rfl,T1.out⟩
 | false =>
  have H1:Hid (l.length≤60∧∀y∈l,y.x.hs.length≤400):=h1 rfl
  clear h1 HB1
  go_wp2_with fail
  refine HB2.mono ?_
  rintro e w1 ⟨b2,rfl,h2,rfl⟩
  cases b2 with
  | true =>
   clear HB2 h2
   go_wp2_with fail
   refine (HW _).mono ?_
   rintro e w1 ⟨rfl,t1⟩
   have T1:Hid (Touch (fun _=>False) w w1):=t1
   clear t1 HW
   go_wp2_with fail
   go_ret
   exact⟨rfl,T1.out⟩
  | false =>
   have H2:Hid (T.length≤60∧∀y∈T,y.x.hs.length≤400):=h2 rfl
   clear h2 HB2
   have HM:=Qfz _ l w (HA.out w (Touch.refl _ _)) H1.out.1 H1.out.2
   have HM2:Hid (∀w',Touch (fun _=>False) w w'→Calls Tryz.prog 17 #[.slice ta T.length tc] w' (WsP w' T)):=fun w' t=>Qfz _ T w' (HC.out w' t) H2.out.1 H2.out.2
   have HLN:Hid (LkW (l.map (·.x))):=LkW.of (HA.out w (Touch.refl _ _)) H1.out.2
   have HLT:Hid (LkW (T.map (·.x))):=LkW.of (HC.out w (Touch.refl _ _)) H2.out.2
   have HRD:Hid (∀w',Touch (fun _=>False) w w'→Calls Tryz.prog 19 #[.slice la l.length lc,.slice ta T.length tc] w' (RsP w' (l.map (·.x)) (T.map (·.x)))):=fun w' t=>Qhm _ _ l T w' (HA.out w' t) (HC.out w' t) H1.out.1 H2.out.1 H1.out.2 H2.out.2
   have HVL:Hid (∀w',Touch (fun _=>False) w w'→WVs w' (.slice la l.length lc) l):=fun w' t=>(HA.out w' t).vs
   have HVT:Hid (∀w',Touch (fun _=>False) w w'→WVs w' (.slice ta T.length tc) T):=fun w' t=>(HC.out w' t).vs
   have HN1:Hid ((l.map (·.x)).length≤60):=by show _≤_;rw [List.length_map];exact H1.out.1
   have HN2:Hid ((T.map (·.x)).length≤60):=by show _≤_;rw [List.length_map];exact H2.out.1
   clear HA HC H1 H2
   generalize l.length=nl at *
   generalize T.length=nt at *
   go_wp2_with fail
   refine HM.mono ?_
   rintro e w1 ⟨v1,L0,rfl,hw1,hx1⟩
   have HX1:Hid (L0.map (·.x)=l.map (·.x)):=hx1
   have HW1:Hid (WB1 w w1 v1 L0):=hw1
   have HV1:Hid (∀w',Touch (fun _=>False) w1 w'→WVs w' v1 L0):=fun w' t=>(hw1.keep t).vs
   have HR1:Hid (∀w',Touch (fun _=>False) w1 w'→WRd w' v1 L0):=fun w' t=>HLN.out.rd hx1 (hw1.keep t)
   have HL1:Hid (L0.length≤60):=by have:=congrArg List.length hx1;have h2:=HN1.out;simp only [List.length_map] at this h2;show _≤_;omega
   have HT1:Hid (Touch (fun _=>False) w w1):=hw1.b.t
   have HM3:=HM2.out w1 hw1.b.t
   have hE1:Hid (∀w',Touch (fun _=>False) w1 w'→Calls Tryz.prog 13 #[v1,.slice la nl lc] w' fun e w2=>e=.returned (.bool true)∧Touch (fun _=>False) w' w2):=fun w' t=>Qd4 _ _ L0 l w' (HV1.out w' t) (HVL.out w' (HT1.out.trans t)) HX1.out.symm (Nat.le_trans HL1.out (by decide)) (fun y hy=>by
    have h3:=HLN.out.ln y.x (by rw [←HX1.out];exact List.mem_map.2 ⟨y,hy,rfl⟩)
    omega)
   obtain⟨a1,c1,rfl⟩:=Qah hw1.b.own
   clear hw1 hx1 HM HM2 HV1 HVL HW1
   generalize L0.length=n1 at HR1 HL1 hE1 ⊢
   go_wp2_with fail
   refine HM3.mono ?_
   rintro e w2 ⟨v2,T0,rfl,hw2,hx2⟩
   have HX2:Hid (T0.map (·.x)=T.map (·.x)):=hx2
   have HT2:Hid (Touch (fun _=>False) w1 w2):=hw2.b.t
   have HL2:Hid (T0.length≤60):=by have:=congrArg List.length hx2;have h2:=HN2.out;simp only [List.length_map] at this h2;show _≤_;omega
   have HRS:Hid (Calls Tryz.prog 18 #[.slice a1 n1 c1,v2] w2 (ResP w2 (l.map (·.x)) (T.map (·.x)))):=by
    have h3:=HR1.out w2 hw2.b.t
    obtain⟨_,_,e,_⟩:=h3.sh
    simp only [Value.slice.injEq] at e
    have h4:=Qii _ v2 L0 T0 w2 h3 (HLT.out.rd hx2 hw2) (by rw [←e.2.1];exact HL1.out) HL2.out
    rw [HX1.out,hx2] at h4
    exact h4
   have hE2:Hid (∀w',Touch (fun _=>False) w2 w'→Calls Tryz.prog 13 #[v2,.slice ta nt tc] w' fun e w3=>e=.returned (.bool true)∧Touch (fun _=>False) w' w3):=fun w' t=>Qd4 _ _ T0 T w' (hw2.keep t).vs (HVT.out w' ((HT1.out.trans HT2.out).trans t)) HX2.out.symm (Nat.le_trans HL2.out (by decide)) (fun y hy=>by
    have h3:=HLT.out.ln y.x (by rw [←HX2.out];exact List.mem_map.2 ⟨y,hy,rfl⟩)
    omega)
   obtain⟨a2,c2,rfl⟩:=Qah hw2.b.own
   clear hw2 hx2 HM3 HVT HR1 HX2
   generalize T0.length=n2 at HRS HL2 hE2 ⊢
   have HRS2:=HRS.out
   clear HRS
   go_wp2_with fail
   refine HRS2.mono ?_
   rintro e w3 ⟨v3,M,rfl,hw3,hx3⟩
   have HT3:Hid (Touch (fun _=>False) w2 w3):=hw3.b.t
   have HV3:Hid (∀w',Touch (fun _=>False) w3 w'→WVs w' v3 M):=fun w' t=>(hw3.keep t).vs
   have HX3:Hid (M.map (·.x)=(l.map (·.x)).filterMap (resW (T.map (·.x)))):=hx3
   obtain⟨a3,c3,rfl⟩:=Qah hw3.b.own
   have HRD2:=HRD.out w3 ((HT1.out.trans HT2.out).trans hw3.b.t)
   clear hw3 hx3 HRS2 HRD
   have HN3:Hid (M.length≤100000):=Qpn HX3.out HN1.out
   generalize hm3:M.length=n3 at HV3 HN3 ⊢
   have HM3:Hid (M.length=n3):=hm3
   clear hm3
   go_wp2_with fail
   refine HRD2.mono ?_
   rintro e w4 ⟨v4,M4,rfl,hw4,hx4⟩
   have HT4:Hid (Touch (fun _=>False) w3 w4):=hw4.b.t
   have hE3:=Qd4 _ v4 M M4 w4 (HV3.out w4 hw4.b.t) hw4.vs (by rw [HX3.out];exact hx4) (by rw [HM3.out];exact HN3.out) (Qpr HLT.out.ln HLN.out.ln HX3.out)
   obtain⟨a4,c4,rfl⟩:=Qah hw4.b.own
   clear hw4 hx4 HRD2 HV3 HX3
   generalize M4.length=n4 at hE3 ⊢
   go_wp2_with fail
   refine hE3.mono ?_
   rintro e w5 ⟨rfl,t5⟩
   have HT5:Hid (Touch (fun _=>False) w1 w5):=((HT2.out.trans HT3.out).trans HT4.out).trans t5
   have hE4:=hE1.out w5 HT5.out
   have HT52:Hid (Touch (fun _=>False) w2 w5):=(HT3.out.trans HT4.out).trans t5
   clear hE3 t5 hE1
   go_wp2_with fail
   refine hE4.mono ?_
   rintro e w6 ⟨rfl,t6⟩
   have HT6:Hid (Touch (fun _=>False) w1 w6):=HT5.out.trans t6
   have hE5:=hE2.out w6 (HT52.out.trans t6)
   clear hE4 t6 hE2
   go_wp2_with fail
   refine hE5.mono ?_
   rintro e w7 ⟨rfl,t7⟩
   have HT7:Hid (Touch (fun _=>False) w w7):=HT1.out.trans (HT6.out.trans t7)
   clear hE5 t7
   go_wp2_with fail
   refine (HW _).mono ?_
   rintro e w9 ⟨rfl,t9⟩
   have T9:Hid (Touch (fun _=>False) w7 w9):=t9
   clear t9 HW
   go_wp2_with fail
   go_ret
   exact⟨rfl,HT7.out.trans T9.out⟩
end Go.Proofs.YtddbffoiadmffaaGreat
