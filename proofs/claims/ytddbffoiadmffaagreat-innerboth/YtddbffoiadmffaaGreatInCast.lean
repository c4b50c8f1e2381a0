import Derived.Test.YtddbffoiadmffaaGreatInRing
import Derived.Test.YtddbffoiadmffaaGreatTrWorks
import Derived.Test.YtddbffoiadmffaaGreatInRoutes
import Derived.Test.YtddbffoiadmffaaGreatTrMath
import Derived.RowKit
namespace Go.Proofs.YtddbffoiadmffaaGreat
open Go.RowKit
set_option linter.unusedVariables false
set_option maxRecDepth 100000
def gR:List TN:=[⟨false,1,[⟨1,3,167772161,false⟩]⟩,⟨false,2,[⟨0,5,167772162,false⟩]⟩]
theorem gR_of:(grB P2r).map tnOf=gR:=by rw [gr_two]; rfl
theorem gR_ok:GOk gR 65535 1:=by
 refine ⟨?_,?_,?_,?_,by omega⟩ <;> (intro t ht; simp [gR] at ht; rcases ht with rfl | rfl <;> simp)
theorem walkR {u v:Nat} {c:Int} (W:Wk gR u v c):0≤c∧(u≠v→3≤c):=by
 induction W with
 | nil hu=>exact ⟨Int.le_refl _,fun h=>(h rfl).elim⟩
 | @snoc v y c e W he hd hy ih =>
  have hc:3≤e.cost:=by
   rcases Nat.lt_or_ge v 2 with h | h
   ·rcases (by omega:v=0∨v=1) with rfl | rfl <;> (simp [gn,gR] at he; rw [he]; simp)
   ·have hl:gR.length≤v:=h
    unfold gn at he
    rw [List.getD_eq_getElem?_getD,List.getElem?_eq_none hl] at he
    simp [TN0] at he
  have:=ih.1
  exact ⟨by omega,fun _=>by omega⟩
theorem ring_pure {x i:Nat} {s:Sp} {R:Nat→RV} {Z:Nat→Sp} (I:Inv gR 65535 0 x i s [] R Z) (hf:(gn gR x).edges.length≤i):R 0=⟨true,0,[]⟩∧R 1=⟨true,3,[⟨167772161,2,false⟩]⟩:=by
 refine ⟨I.rr,?_⟩
 have W:Wk gR 0 1 (0+3):=Wk.snoc (e:=⟨1,3,167772161,false⟩) (Wk.nil 0 (by decide)) (by simp [gn,gR]) rfl (by decide)
 obtain ⟨h1,h2,h3⟩:=I.opt gR_ok hf (by decide) W
 have h4:=(walkR (I.wk 1 (by decide) h1)).2 (by omega)
 have hc:(R 1).cost=3:=by omega
 have hh:(R 1).hops=[⟨167772161,2,false⟩]:=by
  refine one_all (I.so 1) (I.hopsN (by decide) h1 (by omega)) (fun h hm=>?_)
  obtain ⟨⟨e,he,t,hd,ht,hr,-,-,hk⟩,-,-⟩:=(I.hc 1 h hm).1
  simp [gn,gR] at he
  subst he
  have:t=1:=by simp at hd; omega
  subst this
  exact hk rfl
 cases hR:R 1 with
 | mk a b c=>rw [hR] at h1 hc hh; simp at h1 hc hh; rw [h1,hc,hh]
theorem ring_ans {n:Nat} {z:Int} {R:Nat→RV} {H:Nat→Value} {N1 N2:List WY} {Ls:List ME} (fk:FrK P2r 1 n z R) (hp:Ls.Perm (metW [] (netsK (grB P2r) R H n))) (h1:N1.map (·.x)=Ls.map (wayE 7)) (h2:N2.map (·.x)=rtrsK (grB P2r) R 7 z n) :
  ∃ y1 y2 l1,N1=[⟨⟨⟨167837696,16⟩,0,0,1,7,7,0,0,l1⟩,y1⟩]∧N2=[⟨⟨⟨0,0⟩,2,3,1,7,3,0,0,[⟨167772161,2,false⟩]⟩,y2⟩]:=by
 have hf0:findI (grB P2r) false 1=0:=by rw [gr_two]; rfl
 rcases fk.out with ⟨-,h⟩ | ⟨hn,k,nd,hz,hk,hg,-,-,x,i,s,Z,I,hfull⟩
 ·rw [hf0] at h
  omega
 ·rw [hf0] at hk
  have hk0:k=0:=by omega
  subst hk0
  have hn2:n=2:=hn
  subst hn2
  subst hz
  rw [gR_of] at I hfull
  obtain ⟨r0,r1⟩:=ring_pure I hfull
  rw [gr_two] at hp h2
  have e1:netsK [n1r,n2r] R H 2=[⟨⟨167837696,16⟩,7,(H 1,[⟨167772161,2,false⟩])⟩]:=by
   rw [netsK_step (k:=1) (nd:=n2r) rfl,netsK_step (k:=0) (nd:=n1r) rfl,r0,r1]
   rfl
  have e2:rtrsK [n1r,n2r] R 7 ((0:Nat):Int) 2=[⟨⟨0,0⟩,2,3,1,7,3,0,0,[⟨167772161,2,false⟩]⟩]:=by
   rw [rtrsK_step (k:=1) (nd:=n2r) rfl,rtrsK_step (k:=0) (nd:=n1r) rfl,r0,r1]
   rfl
  rw [e1] at hp
  rw [e2] at h2
  have hL:Ls=[⟨⟨167837696,16⟩,7,[(H 1,[⟨167772161,2,false⟩])]⟩]:=List.perm_singleton.1 hp
  rw [hL] at h1
  obtain ⟨y1,rfl,e3⟩:=List.map_eq_singleton_iff.1 h1
  obtain ⟨y2,rfl,e4⟩:=List.map_eq_singleton_iff.1 h2
  obtain ⟨x1,v1⟩:=y1
  obtain ⟨x2,v2⟩:=y2
  simp only at e3 e4
  subst e3
  subst e4
  exact ⟨v1,v2,_,rfl,rfl⟩
theorem eqPxR (w:World):(Op.equalIn 10000 42 (.agg #[.int .u32 167837696,.int .u8 16]) (.agg #[.int .u32 167837696,.int .u8 16])).run Tryz.prog w=.ok true w:=by kernel_rfl
set_option maxHeartbeats 4000000 in
theorem works18 (w:World):Calls Tryz.prog 9 #[] w fun e w'=>e=.returned (.bool true)∧Touch (fun _=>False) w w':=by
 have hEP:=eqPxR
 have hEQ:∀ w,(Op.equalIn 10000 48 (.agg #[.int .u32 167772161,.int .u32 2,.bool false]) (.agg #[.int .u32 167772161,.int .u32 2,.bool false])).run Tryz.prog w=.ok true w:=fun w=>by have:=eqHop ⟨167772161,2,false⟩ ⟨167772161,2,false⟩ w; simpa using this
 have hb1:∀ w,(Instr.build 42 #[(0,.int .u32 167837696),(1,.int .u8 16)]).run Tryz.prog w=.ok (.agg #[.int .u32 167837696,.int .u8 16]) w:=fun w=>run_build w 42 _ _ (by kernel_rfl)
 have hb4:∀ w,(Instr.build 48 #[(0,.int .u32 167772161),(1,.int .u32 2)]).run Tryz.prog w=.ok (.agg #[.int .u32 167772161,.int .u32 2,.bool false]) w:=fun w=>run_build w 48 _ _ (by kernel_rfl)
 have H2:=ring_any w
 go_enter Tryz.func9,Tryz.ntmps9
 go_wp2_with fail
 refine H2.mono ?_
 rintro e w1 ⟨⟨u,va,vb,rfl,hs⟩,t1⟩
 have HR:=routes_any u _ 7 1 w1 hs (by simp) (fun x hx=>by
  simp only [List.mem_cons,List.not_mem_nil,or_false] at hx
  have a1:=length_layB 1 rbA
  have a2:=length_layB 1 rbB
  have b1:sizeB 1 rbA≤8192:=by decide
  have b2:sizeB 1 rbB≤8192:=by decide
  rcases hx with rfl | rfl
  ·show (layB 1 rbA).length≤8192
   omega
  ·show (layB 1 rbB).length≤8192
   omega)
 obtain ⟨ua,uc,eu,-⟩:=ValsAt.form hs.vals
 subst eu
 have HT1:Hid (Touch (fun _=>False) w w1):=t1
 clear hs t1 H2
 go_wp2_with fail
 refine HR.mono ?_
 rintro e w2 ⟨P,n,z,R,H,v1,v2,N1,N2,Ls,rfl,hN,fk,hw1,hw2,hp,hpl,hm1,hm2⟩
 obtain rfl:=isN_two hN
 obtain ⟨h1,h2,l1,rfl,rfl⟩:=ring_ans fk hp hm1 hm2
 have HT2:Hid (Touch (fun _=>False) w1 w2):=hw1.b.t
 have q1:RG WY.cs 10 45 w1.heap.size w2 v1 _:=hw1.b.1
 have q2:RG WY.cs 10 45 w1.heap.size w2 v2 _:=hw2.b.1
 obtain ⟨g1,c1,rfl,-,lg1,-⟩:=RG.form q1 (Nat.succ_pos _)
 obtain ⟨g2,c2,rfl,-,lg2,-⟩:=RG.form q2 (Nat.succ_pos _)
 have q3:RG HK.cs 3 48 0 w2 h2 [⟨167772161,2,false⟩]:=hw2.h _ (List.mem_singleton.2 rfl)
 obtain ⟨g3,c3,rfl,-,lg3,-⟩:=RG.form q3 (Nat.succ_pos _)
 have k0:w2.cell? ⟨g1,0,none⟩=some (.int .u32 167837696):=RG.cell (i:=0) (d:=0) WY.len q1 rfl rfl
 have k1:w2.cell? ⟨g1,1,none⟩=some (.int .u8 16):=RG.cell (i:=0) (d:=1) WY.len q1 rfl rfl
 have k5:w2.cell? ⟨g1,5,none⟩=some (.int .u32 7):=RG.cell (i:=0) (d:=5) WY.len q1 rfl rfl
 have k6:w2.cell? ⟨g1,6,none⟩=some (.int .u32 7):=RG.cell (i:=0) (d:=6) WY.len q1 rfl rfl
 have m2:w2.cell? ⟨g2,2,none⟩=some (.int .u32 2):=RG.cell (i:=0) (d:=2) WY.len q2 rfl rfl
 have m9:w2.cell? ⟨g2,9,none⟩=some (.slice (some ⟨g3,0,none⟩) 1 c3):=RG.cell (i:=0) (d:=9) WY.len q2 rfl rfl
 have p0:w2.cell? ⟨g3,0,none⟩=some (.int .u32 167772161):=RG.cell (i:=0) (d:=0) HK.len q3 rfl rfl
 have p1:w2.cell? ⟨g3,1,none⟩=some (.int .u32 2):=RG.cell (i:=0) (d:=1) HK.len q3 rfl rfl
 have p2:w2.cell? ⟨g3,2,none⟩=some (.bool false):=RG.cell (i:=0) (d:=2) HK.len q3 rfl rfl
 clear q1 q2 q3 hw1 hw2 hp hpl hm1 hm2 hN fk HR lg1 lg2 lg3
 simp only [List.length_cons,List.length_nil,Nat.zero_add]
 go_wp2_with fail
 go_ret
 exact ⟨rfl,HT1.out.trans HT2.out⟩
theorem grB_at {P:List SV} {i:Nat} {nd:NV} (h:(grB P)[i]?=some nd):∃ x,P[i]?=some x∧nd=nodeE P i x:=by
 unfold grB at h
 rw [List.getElem?_mapIdx] at h
 cases hx:P[i]? with
 | none=>rw [hx] at h; cases h
 | some x=>rw [hx] at h; exact ⟨x,rfl,(Option.some.inj h).symm⟩
def rtr1 (g:List NV) (R:Nat→RV) (area z:Int) (i:Nat):List WP:=match g[i]? with
  | some nd=>if (R i).is=true∧nd.net=false∧(i:Int)≠z then [rtrE area nd (R i)] else []
  | none=>[]
theorem rtr1_mem {g:List NV} {R:Nat→RV} {area z:Int} {i:Nat} {x:WP} (hx:x∈rtr1 g R area z i):∃ nd,g[i]?=some nd∧(R i).is=true∧nd.net=false∧(i:Int)≠z∧x=rtrE area nd (R i):=by
 unfold rtr1 at hx
 split at hx
 ·rename_i nd hnd
  split at hx
  ·rename_i h
   obtain rfl:=List.mem_singleton.1 hx
   exact ⟨nd,hnd,h.1,h.2.1,h.2.2,rfl⟩
  ·cases hx
 ·cases hx
theorem rtrsK_mem {g:List NV} {R:Nat→RV} {area z:Int} {n:Nat} {x:WP} (hx:x∈rtrsK g R area z n):∃ i nd,i<n∧g[i]?=some nd∧(R i).is=true∧nd.net=false∧(i:Int)≠z∧x=rtrE area nd (R i):=by
 obtain ⟨i,hi,hx⟩:=List.mem_flatMap.1 hx
 obtain ⟨nd,h⟩:=rtr1_mem (show x∈rtr1 g R area z i from hx)
 exact ⟨i,nd,List.mem_range.1 hi,h⟩
theorem node_typ {l:List SE} {P:List SV} (hN:IsN l P) {i:Nat} {x:SV} (hx:P[i]?=some x) (h:(nodeE P i x).net=false):x.h.typ=1:=by
 have h1:(x.h.typ == 2)=false:=h
 rcases (hN.fine x (List.mem_of_getElem? hx)).typ with h2 | h2
 ·exact h2
 ·rw [h2] at h1
  simp at h1
theorem sv_sorted {l:List SE} {P:List SV} (hN:IsN l P) {i j:Nat} {x y:SV} (hij:i<j) (hx:P[i]?=some x) (hy:P[j]?=some y):x.lt y:=by
 obtain ⟨hi,rfl⟩:=List.getElem?_eq_some_iff.1 hx
 obtain ⟨hj,rfl⟩:=List.getElem?_eq_some_iff.1 hy
 exact List.pairwise_iff_getElem.1 hN.sort i j hi hj hij
theorem wrap_up {k n:Nat} (h:k<n) (hn:n≤maxLen):wrap64 ((k:Int)+1)=(k:Int)+1:=by
 unfold maxLen at hn
 unfold wrap64
 omega
theorem Wk.trans {g:List TN} {u v x:Nat} {c d:Int} (W:Wk g u v c) (W2:Wk g v x d):Wk g u x (c+d):=by
 induction W2 with
 | nil h=>rw [Int.add_zero]; exact W
 | snoc _ he hd hx ih=>rw [← Int.add_assoc]; exact ih.snoc he hd hx
theorem plAt_pr (l:List SE) (p:Bool×Int):plAt l p=(l.map SE.pr).findIdx? (fun q=>q.1.pl == p):=by
 unfold plAt
 rw [List.findIdx?_map]
 rfl
theorem any_pr {l l':List SE} (h:l.map SE.pr=l'.map SE.pr) (j:Nat) (c:Int):l[j]?.any (fun z=>decide (z.h.adv<c))=l'[j]?.any (fun z=>decide (z.h.adv<c)):=by
 have hg:l[j]?.map SE.pr=l'[j]?.map SE.pr:=by rw [← List.getElem?_map,← List.getElem?_map,h]
 cases ha:l[j]? with
 | none =>
  rw [ha] at hg
  cases hb:l'[j]? with
  | none=>rfl
  | some b=>rw [hb] at hg; cases hg
 | some a =>
  rw [ha] at hg
  cases hb:l'[j]? with
  | none=>rw [hb] at hg; cases hg
  | some b =>
   rw [hb] at hg
   have e:a.h=b.h:=congrArg Prod.fst (Option.some.inj hg)
   show decide (a.h.adv<c)=decide (b.h.adv<c)
   rw [e]
theorem putS_pr {l l':List SE} {x y:SE} (h:l.map SE.pr=l'.map SE.pr) (hx:x.pr=y.pr):(putS l x).map SE.pr=(putS l' y).map SE.pr:=by
 obtain ⟨e1,e2⟩:x.h=y.h∧x.rs=y.rs:=⟨congrArg Prod.fst hx,congrArg Prod.snd hx⟩
 unfold putS
 rw [plAt_pr l,plAt_pr l',h,e1,e2]
 split
 ·cases hj:(l'.map SE.pr).findIdx? (fun q=>q.1.pl == y.h.pl) with
  | none=>simp only [List.map_append,h,List.map_cons,List.map_nil,hx]
  | some j =>
   simp only
   rw [any_pr h]
   split
   ·rw [List.map_set,List.map_set,h,hx]
   ·exact h
 ·exact h
theorem fold_pr:∀ (l l' acc acc':List SE),l.map SE.pr=l'.map SE.pr→acc.map SE.pr=acc'.map SE.pr→(l.foldl putS acc).map SE.pr=(l'.foldl putS acc').map SE.pr
 | [],[],_,_,_,h=>h
 | [],_ :: _,_,_,h,_=>by cases h
 | _ :: _,[],_,_,h,_=>by cases h
 | x :: l,y :: l',acc,acc',h,h'=>by
  rw [List.map_cons,List.map_cons] at h
  injection h with h1 h2
  exact fold_pr l l' _ _ h2 (putS_pr h' h1)
theorem isN_same {l l':List SE} {P P':List SV} (h:l.map SE.pr=l'.map SE.pr) (hN:IsN l P) (hN':IsN l' P'):P=P':=by
 have e:(bests l).map SE.sv=(bests l').map SE.sv:=by
  have h1:(bests l).map SE.pr=(bests l').map SE.pr:=fold_pr l l' [] [] h rfl
  have h2:∀ r:List SE,r.map SE.sv=(r.map SE.pr).map (fun q=>(⟨q.1,(decB q.1.typ q.2).getD BV.zero⟩:SV)):=fun r=>by rw [List.map_map]; rfl
  rw [h2,h2,h1]
 exact sv_unique hN.sort hN'.sort (hN.perm.trans (by rw [e]; exact hN'.perm.symm))
theorem node_one {l:List SE} {P:List SV} (hN:IsN l P) {i j:Nat} {x y:NV} (hx:(grB P)[i]?=some x) (hy:(grB P)[j]?=some y) (nx:x.net=false) (ny:y.net=false) (e:x.id=y.id):i=j:=by
 obtain ⟨a,ha,rfl⟩:=grB_at hx
 obtain ⟨b,hb,rfl⟩:=grB_at hy
 have t1:=node_typ hN ha nx
 have t2:=node_typ hN hb ny
 have e':a.h.id=b.h.id:=e
 rcases Nat.lt_trichotomy i j with h | h | h
 ·have:=sv_sorted hN h ha hb
  unfold SV.lt at this
  omega
 ·exact h
 ·have:=sv_sorted hN h hb ha
  unfold SV.lt at this
  omega
theorem rtrsK_in {g:List NV} {R:Nat→RV} {area z:Int} {n i:Nat} {nd:NV} (hi:i<n) (hg:g[i]?=some nd) (his:(R i).is=true) (hn:nd.net=false) (hz:(i:Int)≠z):rtrE area nd (R i)∈rtrsK g R area z n:=by
 refine List.mem_flatMap.2 ⟨i,List.mem_range.2 hi,?_⟩
 rw [hg]
 show _∈(if (R i).is=true∧nd.net=false∧(i:Int)≠z then [rtrE area nd (R i)] else [])
 rw [if_pos ⟨his,hn,hz⟩]
 exact List.mem_singleton.2 rfl
structure Both (a b:Int) (A B:List WY):Prop where
 out:∀ (t:Nat) (x:WY),A[t]?=some x→x.x.router=b→∀ (i:Nat) (y:WY),B[i]?=some y→y.x.router≠a →
  (∀ (k:Nat) (z:WY),A[k]?=some z→z.x.router=y.x.router→z.x.cost≤x.x.cost+y.x.cost)∧(∃ (k:Nat) (z:WY),A[k]?=some z∧z.x.router=y.x.router)
 ca:∀ (k:Nat) (z:WY),A[k]?=some z→0≤z.x.cost∧z.x.cost≤4294967295
 cb:∀ (k:Nat) (z:WY),B[k]?=some z→0≤z.x.cost∧z.x.cost≤4294967295
theorem row_at {A:List WY} {L:List WP} (h:A.map (·.x)=L) {k:Nat} {z:WY} (hz:A[k]?=some z):z.x∈L:=by
 rw [← h]
 exact List.mem_map.2 ⟨z,List.mem_of_getElem? hz,rfl⟩
theorem row_in {A:List WY} {L:List WP} (h:A.map (·.x)=L) {p:WP} (hp:p∈L):∃ (k:Nat) (z:WY),A[k]?=some z∧z.x=p:=by
 rw [← h] at hp
 obtain ⟨z,hz,rfl⟩:=List.mem_map.1 hp
 obtain ⟨k,hk,rfl⟩:=List.mem_iff_getElem.1 hz
 exact ⟨k,A[k],by simp,rfl⟩
theorem fr_cost {P:List SV} {root z:Int} {n:Nat} {R:Nat→RV} (fk:FrK P root n z R) {A:List WY} (h:A.map (·.x)=rtrsK (grB P) R 0 z n) (k:Nat) (y:WY) (hy:A[k]?=some y):0≤y.x.cost∧y.x.cost≤4294967295:=by
 obtain ⟨i,nd,hi,hg,his,hn,hz,e⟩:=rtrsK_mem (row_at h hy)
 rcases fk.out with ⟨h0,-⟩ | ⟨q1,q2,q3,q4,q5,q6,q7,q8,q9,q10,q11,q12,I,q13⟩
 ·omega
 ·rw [e]
  exact I.rc i
theorem both_of {l:List SE} {P:List SV} {a b z1 z2:Int} {n1 n2:Nat} {R1 R2:Nat→RV} (hN:IsN l P) (hl:l.length≤40) (hk:∀ x∈P,SVK 8192 x) (fa:FrK P a n1 z1 R1) (fb:FrK P b n2 z2 R2) {A B:List WY} (hA:A.map (·.x)=rtrsK (grB P) R1 0 z1 n1) (hB:B.map (·.x)=rtrsK (grB P) R2 0 z2 n2):Both a b A B:=by
 refine ⟨?_,fr_cost fa hA,fr_cost fb hB⟩
 intro t x hx hxb i y hy hya
 obtain ⟨jx,ndx,hjx,hgx,hisx,hnx,hzx,ex⟩:=rtrsK_mem (row_at hA hx)
 obtain ⟨jy,ndy,hjy,hgy,hisy,hny,hzy,ey⟩:=rtrsK_mem (row_at hB hy)
 rcases fa.out with ⟨h0,-⟩ | ⟨hn1,k1,nd1,hz1,hf1,hg1,hnet1,hid1,x1,i1,s1,Z1,I1,hd1⟩
 ·omega
 rcases fb.out with ⟨h0,-⟩ | ⟨hn2,k2,nd2,hz2,hf2,hg2,hnet2,hid2,x2,i2,s2,Z2,I2,hd2⟩
 ·omega
 have ib:ndx.id=b:=by rw [ex] at hxb; exact hxb
 have hj:jx=k2:=node_one hN hgx hg2 hnx hnet2 (by rw [ib,hid2])
 subst hj
 have G:=gok_of hN hk
 have hlen:∀ {j:Nat} {nd:NV},(grB P)[j]?=some nd→j<((grB P).map tnOf).length:=fun {j nd} h=>by
  rw [List.length_map]
  exact (List.getElem?_eq_some_iff.1 h).1
 have W1:=I1.wk jx (hlen hgx) hisx
 have W2:=I2.wk jy (hlen hgy) hisy
 have hM:(65535:Int) * (((grB P).map tnOf).length:Int)≤4294967295:=by
  have h1:=hN.perm.length_eq
  rw [List.length_map] at h1
  have h2:=bests_len l
  have h3:((grB P).map tnOf).length=P.length:=by rw [List.length_map]; unfold grB; simp
  omega
 obtain ⟨o1,o2,-⟩:=I1.opt G hd1 hM (W1.trans W2)
 have cx:x.x.cost=(R1 jx).cost:=by rw [ex]; rfl
 have cy:y.x.cost=(R2 jy).cost:=by rw [ey]; rfl
 have ry:y.x.router=ndy.id:=by rw [ey]; rfl
 refine ⟨fun k z hz hzr=>?_,?_⟩
 ·obtain ⟨jz,ndz,hjz,hgz,hisz,hnz,hzz,ez⟩:=rtrsK_mem (row_at hA hz)
  have rz:z.x.router=ndz.id:=by rw [ez]; rfl
  have e:jz=jy:=node_one hN hgz hgy hnz hny (by rw [← rz,← ry,hzr])
  subst e
  have cz:z.x.cost=(R1 jz).cost:=by rw [ez]; rfl
  rw [cz,cx,cy]
  exact o2
 ·have hne:(jy:Int)≠z1:=fun e=>by
   have:jy=k1:=by omega
   subst this
   rw [hgy] at hg1
   obtain rfl:=Option.some.inj hg1
   exact hya (by rw [ry,hid1])
  have hlt:jy<n1:=by
   have:=hlen hgy
   have h3:((grB P).map tnOf).length=P.length:=by rw [List.length_map]; unfold grB; simp
   omega
  obtain ⟨k,z,hz,e⟩:=row_in hA (rtrsK_in (area:=0) hlt hgy o1 hny hne)
  exact ⟨k,z,hz,by rw [e,ry]; rfl⟩
theorem lt_cast {k n:Nat} (h:k<n):(k:Int)<(n:Int):=Int.ofNat_lt.2 h
theorem ge_cast {k n:Nat} (h:¬ k<n):¬ (k:Int)<(n:Int):=fun e=>h (Int.ofNat_lt.1 e)
theorem nn_cast (k:Nat):(0:Int)≤(k:Int):=Int.natCast_nonneg k
theorem nl_cast (k:Nat):¬ ((k:Int)<0):=by omega
theorem num_up {k:Nat} {z:Int} (h:z=(k:Int)+1):Value.int .i64 z=.int .i64 ((k+1:Nat):Int):=by subst h; simp
theorem get_lt {α:Type} {l:List α} {n k:Nat} (hn:l.length=n) (h:k<n):∃ x,l[k]?=some x:=⟨l[k]'(by omega),by simp⟩
theorem pos_len {α:Type} {l:List α} {n k:Nat} (hn:l.length=n) (h:k<n):0<l.length:=by omega
theorem lt_len {α:Type} {l:List α} {n k:Nat} {x:α} (hn:l.length=n) (h:l[k]?=some x):k<n:=by rw [← hn]; exact (List.getElem?_eq_some_iff.1 h).1
theorem take_all {α:Type} {l:List α} {n k:Nat} (hn:l.length=n) (h:¬ k<n):l.take k=l:=List.take_of_length_le (by omega)
theorem meas_g {i n g:Nat} (h:i<n) (hg:n - i≤g):n - (i+1)<g:=by omega
end Go.Proofs.YtddbffoiadmffaaGreat
