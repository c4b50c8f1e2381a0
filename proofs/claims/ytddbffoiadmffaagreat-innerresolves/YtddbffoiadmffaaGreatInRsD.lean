import Derived.Test.YtddbffoiadmffaaGreatTrPut
import Derived.Deep.LoopGhost
namespace Go.Proofs.YtddbffoiadmffaaGreat
set_option maxHeartbeats 8000000
open Go.RowKit
set_option linter.unusedVariables false
set_option maxRecDepth 100000
theorem Qh6 (w:World) (va vb:Value) (a b:List HK) (A:RA w va a) (B:RA w vb b) (hl:a.length+b.length≤1000000) :
  Calls Tryz.prog 43 #[va,vb] w fun e w'=>∃v',e=.returned v'∧HD w w' v' (rj a b):=by
 obtain⟨aa,ac,rfl,ha⟩:=A.out
 obtain⟨ba,bc,rfl,hb⟩:=B.out
 have HA:Hid (RwAt HK.cs 3 w aa a):=ha
 have HpB:Hid (RwAt HK.cs 3 w ba b):=hb
 have R0:Hid (HD w w (.slice none 0 0) (pts [] (a.take 0))):=VBuf.nil _ _ (Touch.refl _ _)
 have HL:Hid (a.length+b.length≤1000000):=hl
 have hl1:(a.length:Int)≤1000000:=by omega
 have hl2:(b.length:Int)≤1000000:=by omega
 generalize hN:a.length=N at *
 generalize hM:b.length=M at *
 have HN:Hid (a.length=N):=hN
 have HM:Hid (b.length=M):=hM
 clear ha hb hN hM hl A B
 go_enter Tryz.func43,Tryz.ntmps43
 go_wp2_with fail
 go_loopw [5,6] (fun s5 s6 wx=>∃i:Nat,s6=.int .i64 i∧i≤N∧HD w wx s5 (pts [] (a.take i))) (fun _ s6 _=>N-(intOf s6).toNat)
 case atStart=>exact⟨0,rfl,Nat.zero_le _,R0.out⟩
 case round =>
  clear R0
  obtain⟨i,rfl,hi,X⟩:=hrel
  have HX:Hid (HD w wr _ (pts [] (a.take i))):=X
  by_cases hiN:i<N
  ·obtain⟨x,hx⟩:∃x,a[i]?=some x:=⟨_,List.getElem?_eq_getElem (by have:=HN.out;omega)⟩
   rcases HA.out with e|⟨g,o,rfl,hc⟩
   ·rw [e] at hx;cases hx
   have q:=fun d u hd=>X.t.cellN (hc i x hx d u hd)
   have q0:wr.cell? ⟨g,o+i*3,none⟩=some (.int .u32 x.out):=q 0 _ rfl
   have q1:wr.cell? ⟨g,o+i*3+1,none⟩=some (.int .u32 x.via):=q 1 _ rfl
   have q2:wr.cell? ⟨g,o+i*3+2,none⟩=some (.bool x.vr):=q 2 _ rfl
   have hi0:(0:Int)≤(i:Int):=by omega
   have hi1:(i:Int)<(N:Int):=by omega
   have HS:Hid (pts [] (a.take (i+1))=pt x (pts [] (a.take i))):=Qkb _ _ _ _ hx
   have HLN:Hid ((pts [] (a.take i)).length≤1000000):=by
    have h1:=Qcc [] (a.take i)
    have h2:=HL.out
    have h3:=HN.out
    show _≤_
    simp at h1
    omega
   have HP:Hid _:=fun w' (t:Touch (fun _=>False) wr w')=>Qno w w' _ _ x (VBuf.keep HX.out t) HLN.out
   clear q hc hx X
   go_wp2_with (first|(go_at_call 42;go_loud (refine (HP.out _ (by first|exact Touch.refl _ _|exact (Touch.refl _ _).drew|exact (Touch.refl _ _).drewN _)).mono ?_);rintro e w1 ⟨v1,rfl,h1⟩;have H1:Hid (HD w w1 v1 (pt x (pts [] (a.take i)))):=h1;clear h1))
   go_roundw
   case rel=>exact⟨i+1,by go_num,by omega,by rw [HS.out];exact H1.out⟩
   case measure=>simp [intOf];omega
  ·have hii:i=N:=by omega
   subst hii
   have r1:=HX.out
   rw [List.take_of_length_le (by have:=HN.out;omega)] at r1
   have R1:Hid (HD w wr _ (pts (pts [] a) (b.take 0))):=r1
   clear r1
   clear X HX
   go_wp2_with fail
   go_loopw [5,7] (fun s5 s7 wx=>∃j:Nat,s7=.int .i64 j∧j≤M∧HD w wx s5 (pts (pts [] a) (b.take j))) (fun _ s7 _=>M-(intOf s7).toNat)
   case atStart=>exact⟨0,rfl,Nat.zero_le _,R1.out⟩
   case round =>
    clear R1
    obtain⟨j,rfl,hj,Y⟩:=hrel
    have HY:Hid (HD w wr _ (pts (pts [] a) (b.take j))):=Y
    by_cases hjM:j<M
    ·obtain⟨x,hx⟩:∃x,b[j]?=some x:=⟨_,List.getElem?_eq_getElem (by have:=HM.out;omega)⟩
     rcases HpB.out with e|⟨g,o,rfl,hc⟩
     ·rw [e] at hx;cases hx
     have q:=fun d u hd=>Y.t.cellN (hc j x hx d u hd)
     have q0:wr.cell? ⟨g,o+j*3,none⟩=some (.int .u32 x.out):=q 0 _ rfl
     have q1:wr.cell? ⟨g,o+j*3+1,none⟩=some (.int .u32 x.via):=q 1 _ rfl
     have q2:wr.cell? ⟨g,o+j*3+2,none⟩=some (.bool x.vr):=q 2 _ rfl
     have hj0:(0:Int)≤(j:Int):=by omega
     have hj1:(j:Int)<(M:Int):=by omega
     have HS:Hid (pts (pts [] a) (b.take (j+1))=pt x (pts (pts [] a) (b.take j))):=Qkb _ _ _ _ hx
     have HLN:Hid ((pts (pts [] a) (b.take j)).length≤1000000):=by
      have h1:=Qcc [] a
      have h4:=Qcc (pts [] a) (b.take j)
      have h2:=HL.out
      have h3:=HM.out
      have h5:=HN.out
      show _≤_
      simp at h1 h4
      omega
     have HP:Hid _:=fun w' (t:Touch (fun _=>False) wr w')=>Qno w w' _ _ x (VBuf.keep HY.out t) HLN.out
     clear q hc hx Y
     go_wp2_with (first|(go_at_call 42;go_loud (refine (HP.out _ (by first|exact Touch.refl _ _|exact (Touch.refl _ _).drew|exact (Touch.refl _ _).drewN _)).mono ?_);rintro e w1 ⟨v1,rfl,h1⟩;have H1:Hid (HD w w1 v1 (pt x (pts (pts [] a) (b.take j)))):=h1;clear h1))
     go_roundw
     case rel=>exact⟨j+1,by go_num,by omega,by rw [HS.out];exact H1.out⟩
     case measure=>simp [intOf];omega
    ·have hjj:j=M:=by omega
     subst hjj
     have rz:=HY.out
     rw [List.take_of_length_le (by have:=HM.out;omega)] at rz
     have RZ:Hid (HD w wr _ (rj a b)):=rz
     clear rz
     clear Y HY
     go_wp2_with fail
     go_ret
     exact⟨_,rfl,RZ.out⟩
def dpl (T:List WP) (r:Int):List HK:=match T.find? (fun x=>x.router==r) with|some x=>plainL x.hs|none=>[]
theorem Qnh {T:List WP} {r:Int} {i:Nat} {x:WP} (hx:T[i]?=some x) (hr:x.router=r) (ha:∀j y,j<i→T[j]?=some y→y.router≠r):dpl T r=plainL x.hs:=by
 have:T.find? (fun x=>x.router==r)=some x:=by
  rw [List.find?_eq_some_iff_getElem]
  obtain⟨hi,e⟩:=List.getElem?_eq_some_iff.1 hx
  refine⟨by rw [beq_iff_eq];exact hr,i,hi,e,fun j hj=>?_⟩
  have h:=ha j (T[j]) hj (by simp)
  simpa using h
 unfold dpl
 rw [this]
theorem Qkc {T:List WP} {r:Int} (ha:∀y∈T,y.router≠r):dpl T r=[]:=by
 have:T.find? (fun x=>x.router==r)=none:=List.find?_eq_none.2 (fun y hy=>by simpa using ha y hy)
 unfold dpl
 rw [this]
theorem Qlc (v:Value) (T:List WY) (r:Int) (w:World) (A:WsAt w v T) (hn:T.length≤60) (hb:∀y∈T,y.x.hs.length≤400) :
  Calls Tryz.prog 44 #[v,.int .u32 r] w fun e w'=>∃v',e=.returned v'∧HD w w' v' (dpl (T.map (·.x)) r):=by
 obtain⟨va,vc,rfl,-⟩:=A.sh
 have HA:Hid (∀w',Touch (fun _=>False) w w'→WsAt w' (.slice va T.length vc) T):=fun w' t=>A.keep t
 have HB:Hid (∀y∈T,y.x.hs.length≤400):=hb
 have HH:Hid (∀(i:Nat) (y:WY),T[i]?=some y→y.x.router=r→(∀(j:Nat) (z:WY),j<i→T[j]?=some z→z.x.router≠r)→dpl (T.map (·.x)) r=plainL y.x.hs):=fun i y hy hr ha=>Qnh (i:=i) (by rw [List.getElem?_map,hy];rfl) hr (fun j z hj hz=>by
  rw [List.getElem?_map] at hz
  cases h:T[j]? with
  | none=>rw [h] at hz;cases hz
  | some q=>rw [h] at hz;obtain rfl:=Option.some.inj hz;exact ha j q hj h)
 have HM:Hid ((∀(j:Nat) (z:WY),T[j]?=some z→z.x.router≠r)→dpl (T.map (·.x)) r=[]):=fun ha=>Qkc (fun z hz=>by
  obtain⟨y,hy,rfl⟩:=List.mem_map.1 hz
  obtain⟨j,hj⟩:=List.mem_iff_getElem?.1 hy
  exact ha j y hj)
 generalize hN:T.length=n at *
 have HN:Hid (T.length=n):=hN
 have hn':(n:Int)≤60:=by omega
 have HN60:Hid (n≤60):=hn
 generalize dpl (T.map (·.x)) r=D at *
 clear A hb hN hn
 go_enter Tryz.func44,Tryz.ntmps44
 go_wp2_with fail
 go_loopg [5,6] n (fun gg s5 s6 wr=>∃i:Nat,i≤n∧n-i≤gg∧s5=.slice none 0 0∧s6=.int .i64 i∧wr=w∧Hid (∀(j:Nat) (z:WY),j<i→T[j]?=some z→z.x.router≠r))
 case atStart=>exact⟨0,Nat.zero_le _,Nat.le_refl _,rfl,rfl,rfl,fun j z hj=>absurd hj (by omega)⟩
 case round =>
  obtain⟨i,hi,hg,rfl,rfl,rfl,HJ⟩:=hrel
  by_cases hlt:i<n
  ·skip
   have hlt':(i:Int)<(n:Int):=Qbi hlt
   have hi00:(0:Int)≤(i:Int):=Qbj _
   have hiw:wrap64 ((i:Int)+1)=(i:Int)+1:=Qe6 (Nat.le_trans (Nat.le_trans (Nat.le_of_lt hlt) HN60.out) (by decide))
   have HGI:Hid (i<n∧n-i≤gk):=⟨hlt,hg⟩
   obtain⟨y,hy⟩:=Qcq HN.out hlt
   have HY:Hid (T[i]?=some y):=hy
   obtain⟨a',c',ea,hsh⟩:=(HA.out wr (Touch.refl _ _)).sh
   simp only [Value.slice.injEq] at ea
   obtain⟨rfl,-,rfl⟩:=ea
   rcases hsh with e|⟨g,oo,rfl,hc⟩
   ·rw [e] at hy;cases hy
   have HC9:Hid (∀w',Touch (fun _=>False) wr w'→w'.cell? ⟨g,oo+i*10+9,none⟩=some y.hv):=fun w' t=>t.cellN (hc i y hy 9 _ rfl)
   have e2:wr.cell? ⟨g,oo+i*10+2,none⟩=some (.int .u32 y.x.router):=hc i y hy 2 _ rfl
   have l2:=Qaa e2
   clear hc hlt hg hi
   by_cases hr:y.x.router=r
   ·skip
    have hrb:(y.x.router != r)=false:=by simpa using hr
    have HD0:Hid (D=plainL y.x.hs):=HH.out i y HY.out hr HJ.out
    have HL4:Hid (y.x.hs.length≤400):=HB.out y (List.mem_of_getElem? HY.out)
    have HRA:Hid (∀w',Touch (fun _=>False) wr w'→RA w' y.hv y.x.hs):=fun w' t=>((HA.out w' t).ok y (List.mem_of_getElem? HY.out)).ra
    obtain⟨ha,hcp,ehv,-⟩:=(HRA.out wr (Touch.refl _ _)).out
    have EHV:Hid (y.hv=.slice ha y.x.hs.length hcp):=ehv
    generalize hhl:y.x.hs.length=hl at *
    have HHL:Hid (y.x.hs.length=hl):=hhl
    have hhl4:(hl:Int)≤400:=by have:=HL4.out;omega
    clear hr hhl ehv hy HJ HM HH
    go_wp2_with fail
    go_loopg [5,7] hl (fun gg s5 s7 wr2=>∃(k:Nat) (S5:Value),k≤hl∧hl-k≤gg∧s7=.int .i64 k∧S5=s5∧HD wr wr2 S5 (plainL (y.x.hs.take k)))
    case atStart=>exact⟨0,_,Nat.zero_le _,Nat.le_refl _,rfl,rfl,VBuf.nil _ _ (Touch.refl _ _)⟩
    case round =>
     obtain⟨k,S5,hk,hgk,rfl,rfl,hd⟩:=hrel
     have HDK:Hid (HD _ wr S5 (plainL (y.x.hs.take k))):=hd
     have k9:=HC9.out wr hd.t
     rw [EHV.out] at k9
     have l9:=Qaa k9
     obtain⟨sa,sc,rfl⟩:=hd.form
     clear hd e2 l2
     by_cases hlk:k<hl
     ·skip
      have hlk':(k:Int)<(hl:Int):=Qbi hlk
      have hk00:(0:Int)≤(k:Int):=Qbj _
      have hkw:wrap64 ((k:Int)+1)=(k:Int)+1:=Qe6 (Nat.le_trans (Nat.le_trans (Nat.le_of_lt hlk) HL4.out) (by decide))
      have HGK:Hid (k<hl∧hl-k≤gk):=⟨hlk,hgk⟩
      obtain⟨h,hh⟩:=Qcq HHL.out hlk
      have hra:=HRA.out wr HDK.out.t
      rw [EHV.out] at hra
      obtain⟨a2,c2,ea2,hs2⟩:=hra.out
      simp only [Value.slice.injEq] at ea2
      obtain⟨rfl,-,rfl⟩:=ea2
      rcases hs2 with e|⟨g2,o2,rfl,hc2⟩
      ·rw [e] at hh;cases hh
      have q0:wr.cell? ⟨g2,o2+k*3,none⟩=some (.int .u32 h.out):=hc2 k h hh 0 _ rfl
      have q1:wr.cell? ⟨g2,o2+k*3+1,none⟩=some (.int .u32 h.via):=hc2 k h hh 1 _ rfl
      have q2:wr.cell? ⟨g2,o2+k*3+2,none⟩=some (.bool h.vr):=hc2 k h hh 2 _ rfl
      have hps:=Qbz hh
      clear hc2 hra hh hlk hgk hk
      cases hvr:h.vr with
      | true =>
       have HP:Hid (plainL (y.x.hs.take (k+1))=plainL (y.x.hs.take k)):=by show _=_;rw [hps,hvr];simp
       rw [hvr] at q2
       clear hps hvr
       have HDN:Hid (∃S5:Value,S5=.slice sa (plainL (y.x.hs.take k)).length sc∧HD _ wr S5 (plainL (y.x.hs.take (k+1)))):=⟨_,rfl,by rw [HP.out];exact HDK.out⟩
       clear HDK HP
       generalize (plainL (y.x.hs.take k)).length=pn at *
       go_wp2_with fail
       obtain⟨S5,hS,hD⟩:=HDN.out
       go_roundg (hl-(k+1))
       case measure=>exact Qbo HGK.out.1 HGK.out.2
       case rel=>exact⟨k+1,S5,HGK.out.1,Nat.le_refl _,by first|exact Qap hkw|exact Qap rfl,hS,hD⟩
      | false =>
       have HP:Hid (plainL (y.x.hs.take (k+1))=plainL (y.x.hs.take k)++[h]):=by show _=_;rw [hps,hvr];simp
       rw [hvr] at q2
       have ehv:h.vr=false:=hvr
       have RA1:=Qac wr 103 #[.int .u32 h.out,.int .u32 h.via,.bool false]
       have TA:Touch (fun _=>False) wr (wr.alloc (.cells #[.int .u32 h.out,.int .u32 h.via,.bool false] 103)):=(Touch.refl _ _).alloc _
       have HNA:Hid (∀(j:Nat) u,([.int .u32 h.out,.int .u32 h.via,.bool false]:List Value)[j]?=some u→(wr.alloc (.cells #[.int .u32 h.out,.int .u32 h.via,.bool false] 103)).cell? ((⟨wr.heap.size,0,none⟩:Addr).add j)=some u):=fun j u hj=>by rw [Qae,Nat.zero_add,RA1.cell j];exact hj
       have HOA:=Qab HDK.out.own TA (fun _ _ h=>h)
       have HSZ:Hid (_≤(wr.alloc (.cells #[.int .u32 h.out,.int .u32 h.via,.bool false] 103)).heap.size):=(HDK.out.t.trans TA).size
       have hpl:(plainL (y.x.hs.take k)).length≤400:=Nat.le_trans (Qb7 _) (Nat.le_trans (List.length_take_le' k y.x.hs) (by rw [HHL.out];exact HL4.out))
       have HOA2:Hid _:=HOA
       have HDT:Hid _:=HDK.out.t
       clear hps hvr RA1 TA HOA
       have HFN:Hid (∀v' w',w'.ownsRow _ 103 3 v' ((plainL (y.x.hs.take k)).length+1) (cellsG HK.cs (plainL (y.x.hs.take k))++[.int .u32 h.out,.int .u32 h.via,.bool false])→Touch (fun j=>(Value.slice sa (plainL (y.x.hs.take k)).length sc).ownBlock=some j) (wr.alloc (.cells #[.int .u32 h.out,.int .u32 h.via,.bool false] 103)) w'→HD _ w' v' (plainL (y.x.hs.take (k+1)))):=fun v' w' ho ht=>by
        rw [HP.out]
        refine HD.more (l:=plainL (y.x.hs.take k)) (l':=[h]) rfl ⟨?_,?_⟩
        ·have e:cellsG HK.cs [h]=[.int .u32 h.out,.int .u32 h.via,.bool false]:=by simp [cellsG,HK.cs,ehv]
         rw [e]
         exact ho
        ·exact (HDT.out.trans ((Touch.refl _ _).alloc _)).trans' ht (fun j hj e=>by have:=(World.ownsRow.lt HOA2.out j e).1;omega)
       clear HDK HP ehv
       generalize (plainL (y.x.hs.take k)).length=pn at *
       go_wp2_with (at_builtin;refine Qby rfl (.tmp 41) (.tmp 50) 80 rfl 103 3 12 (.agg #[.int .u32 0,.int .u32 0,.bool false]) Tryz.underlying80 infoHop6 rfl (by decide) (by decide) _ (.slice sa pn sc) pn _ rfl HOA2.out HSZ.out ⟨wr.heap.size,0,none⟩ 1 1 [.int .u32 h.out,.int .u32 h.via,.bool false] rfl rfl HNA.out (by intro u hu;simp at hu;rcases hu with rfl|rfl|rfl <;> rfl) (Nat.le_trans (Nat.add_le_add_right hpl 1) (by decide)) ?_)
       intro v' w8 hown TG
       have HF:Hid _:=HFN.out v' w8 hown TG
       clear hown TG HFN HOA2 HNA HSZ HDT
       go_wp2_with fail
       go_roundg (hl-(k+1))
       case measure=>exact Qbo HGK.out.1 HGK.out.2
       case rel=>exact⟨k+1,_,HGK.out.1,Nat.le_refl _,by first|exact Qap hkw|exact Qap rfl,rfl,HF.out⟩
     ·have hlk':¬(k:Int)<(hl:Int):=Qbu hlk
      have HF:Hid (∃S5:Value,S5=.slice sa (plainL (y.x.hs.take k)).length sc∧HD _ wr S5 D):=⟨_,rfl,by rw [HD0.out];have h:=HDK.out;rw [Qgd HHL.out hlk] at h ⊢;exact h⟩
      clear HDK hlk hgk hk
      generalize (plainL (y.x.hs.take k)).length=pn at *
      go_wp2_with fail
      go_ret
      obtain⟨S5,rfl,hD⟩:=HF.out
      exact⟨_,rfl,hD⟩
   ·have hrb:(y.x.router != r)=true:=by simpa using hr
    have HJ2:Hid (∀(j:Nat) (z:WY),j<i+1→T[j]?=some z→z.x.router≠r):=fun j z hj hz=>by
     rcases Nat.lt_or_ge j i with h|h
     ·exact HJ.out j z h hz
     ·obtain rfl:j=i:=by omega
      rw [HY.out] at hz
      obtain rfl:=Option.some.inj hz
      exact hr
    clear hr HJ hy
    go_wp2_with fail
    go_roundg (n-(i+1))
    case measure=>exact Qbo HGI.out.1 HGI.out.2
    case rel=>exact⟨i+1,HGI.out.1,Nat.le_refl _,by first|rfl|trivial,by first|exact Qap hiw|exact Qap rfl,by first|rfl|trivial,HJ2⟩
  ·have hlt':¬(i:Int)<(n:Int):=Qbu hlt
   have HD0:Hid (D=[]):=HM.out (fun j z hz=>HJ.out j z (by have:=(List.getElem?_eq_some_iff.1 hz).1;have:=HN.out;omega) hz)
   clear HJ hlt hi hg
   go_wp2_with fail
   go_ret
   exact⟨_,rfl,by rw [HD0.out];exact VBuf.nil _ _ (Touch.refl _ _)⟩
theorem Qo2 {T:List WP} {r:Int}:∀k:Nat,(fK T k).any (fun p=>p.1==r)=true↔∃j x,j<k∧T[j]?=some x∧x.router=r
 | 0=>by simp [fK]
 | k+1=>by
  have ih:=Qo2 (T:=T) (r:=r) k
  cases hk:T[k]? with
  | none =>
   have e:fK T (k+1)=fK T k:=by rw [fK,hk]
   rw [e,ih]
   constructor
   ·rintro ⟨j,x,h1,h2,h3⟩
    exact⟨j,x,by omega,h2,h3⟩
   ·rintro ⟨j,x,h1,h2,h3⟩
    rcases Nat.lt_or_ge j k with h|h
    ·exact⟨j,x,h,h2,h3⟩
    ·obtain rfl:j=k:=by omega
     rw [hk] at h2
     cases h2
  | some y =>
   by_cases ha:(fK T k).any (fun p=>p.1==y.router)=true
   ·rw [Qo8 hk ha,ih]
    constructor
    ·rintro ⟨j,x,h1,h2,h3⟩
     exact⟨j,x,by omega,h2,h3⟩
    ·rintro ⟨j,x,h1,h2,h3⟩
     rcases Nat.lt_or_ge j k with h|h
     ·exact⟨j,x,h,h2,h3⟩
     ·obtain rfl:j=k:=by omega
      rw [hk] at h2
      obtain rfl:=Option.some.inj h2
      rw [h3] at ha
      exact ih.1 ha
   ·rw [Qnx hk (Bool.eq_false_iff.2 ha),List.any_append,Bool.or_eq_true,ih]
    constructor
    ·rintro (⟨j,x,h1,h2,h3⟩|h)
     ·exact⟨j,x,by omega,h2,h3⟩
     ·exact⟨k,y,by omega,hk,by simpa using h⟩
    ·rintro ⟨j,x,h1,h2,h3⟩
     rcases Nat.lt_or_ge j k with h|h
     ·exact Or.inl ⟨j,x,h,h2,h3⟩
     ·obtain rfl:j=k:=by omega
      rw [hk] at h2
      obtain rfl:=Option.some.inj h2
      exact Or.inr (by simpa using h3)
theorem Qep {T:List WP}:∀{k:Nat} {p:Int×Nat},p∈fK T k→∀j y,j<p.2→T[j]?=some y→y.router≠p.1
 | 0,p,h=>by cases h
 | k+1,p,h=>by
  cases hk:T[k]? with
  | none =>
   have e:fK T (k+1)=fK T k:=by rw [fK,hk]
   rw [e] at h
   exact Qep h
  | some x =>
   by_cases ha:(fK T k).any (fun p=>p.1==x.router)=true
   ·rw [Qo8 hk ha] at h
    exact Qep h
   ·rw [Qnx hk (Bool.eq_false_iff.2 ha)] at h
    rcases List.mem_append.1 h with h|h
    ·exact Qep h
    ·obtain rfl:p=(x.router,k):=by simpa using h
     intro j y hj hy e
     exact ha ((Qo2 k).2 ⟨j,y,hj,hy,e⟩)
theorem Qjw {T:List WP} {h:HK} (hv:h.vr=true) (x:HK):(∃l∈viaH T h,x∈l)↔x∈dpl T h.via:=by
 rcases Qmt (fK T T.length) h.via with⟨j,i,hj,hf⟩|⟨ha,hf⟩
 ·have hm:=List.mem_of_getElem? hj
  obtain⟨h1,y,h2,h3⟩:=Qic hm
  rw [Qjv hv hf h2,Qnh h2 h3 (fun q z hq hz=>Qep hm q z hq hz)]
  simp
 ·rw [Qg0 hf,Qkc (fun y hy e=>?_)]
  ·simp
  ·obtain⟨q,hq⟩:=List.mem_iff_getElem?.1 hy
   have:=(Qo2 (T:=T) (r:=h.via) T.length).2 ⟨q,y,(List.getElem?_eq_some_iff.1 hq).1,hq,e⟩
   rw [ha] at this
   cases this
def dStep (T:List WP) (acc:List HK) (h:HK):List HK:=if h.vr=true then rj acc (dpl T h.via) else pt h acc
def dH (T:List WP) (hs:List HK):List HK:=hs.foldl (dStep T) []
theorem rjR (a b:List HK):(rj a b).Pairwise HK.lt:=Qg1 _ _ (Qg1 _ _ List.Pairwise.nil)
theorem Qf7 (T:List WP):∀(hs acc:List HK),acc.Pairwise HK.lt→(hs.foldl (dStep T) acc).Pairwise HK.lt
 | [],_,h=>h
 | a::hs,acc,h=>by
  refine Qf7 T hs _ ?_
  unfold dStep
  split
  ·exact rjR _ _
  ·exact Qgl a acc h
theorem Qhw (T:List WP) (x:HK):∀(hs acc:List HK),x∈hs.foldl (dStep T) acc↔x∈acc∨x∈plainL hs∨∃h∈hs,h.vr=true∧x∈dpl T h.via
 | [],acc=>by simp [plainL]
 | a::hs,acc=>by
  rw [List.foldl_cons,Qhw T x hs]
  unfold dStep
  have hp:x∈plainL (a::hs)↔(x=a∧a.vr=false)∨x∈plainL hs:=by
   unfold plainL
   rw [List.filter_cons]
   cases ha:a.vr <;> simp
  rw [hp]
  cases ha:a.vr with
  | true =>
   rw [if_pos rfl,Qv2]
   simp only [List.mem_cons,exists_eq_or_imp,ha,true_and]
   constructor
   ·rintro ((h|h)|h|h)
    ·exact Or.inl h
    ·exact Or.inr (Or.inr (Or.inl h))
    ·exact Or.inr (Or.inl (Or.inr h))
    ·exact Or.inr (Or.inr (Or.inr h))
   ·rintro (h|(⟨_,h⟩|h)|h|h)
    ·exact Or.inl (Or.inl h)
    ·cases h
    ·exact Or.inr (Or.inl h)
    ·exact Or.inl (Or.inr h)
    ·exact Or.inr (Or.inr h)
  | false =>
   rw [if_neg (by simp),Qke]
   simp only [List.mem_cons,exists_eq_or_imp,ha]
   constructor
   ·rintro ((h|h)|h|h)
    ·exact Or.inl h
    ·exact Or.inr (Or.inl (Or.inl ⟨h,trivial⟩))
    ·exact Or.inr (Or.inl (Or.inr h))
    ·exact Or.inr (Or.inr (Or.inr h))
   ·rintro (h|(⟨h,_⟩|h)|⟨h,_⟩|h)
    ·exact Or.inl (Or.inl h)
    ·exact Or.inl (Or.inr h)
    ·exact Or.inr (Or.inl h)
    ·cases h
    ·exact Or.inr (Or.inr h)
theorem Qrw (T:List WP) (hs:List HK):dH T hs=resH T hs:=by
 refine Qkq (Qf7 T hs [] List.Pairwise.nil) (Qen _).1 (fun x=>?_)
 unfold dH resH
 rw [Qhw,(Qen _).2]
 unfold resL
 rw [List.flatten_cons,List.mem_append,List.mem_flatten]
 simp only [List.not_mem_nil,false_or]
 refine or_congr Iff.rfl ?_
 constructor
 ·rintro ⟨h,hh,hv,hx⟩
  obtain⟨l,hl,hxl⟩:=(Qjw hv x).2 hx
  exact⟨l,List.mem_flatMap.2 ⟨h,hh,hl⟩,hxl⟩
 ·rintro ⟨l,hl,hxl⟩
  obtain⟨h,hh,hl2⟩:=List.mem_flatMap.1 hl
  cases hv:h.vr with
  | true=>exact⟨h,hh,hv,(Qjw hv x).1 ⟨l,hl2,hxl⟩⟩
  | false=>rw [Qnf hv] at hl2;cases hl2
abbrev HOD (w:World) (v:Value) (l:List HK):Prop:=w.ownsRow 0 103 3 v l.length (cellsG HK.cs l)
structure DW (w0 w:World) (v:Value) (N:List WY):Prop where
 b:VBuf 84 10 w0 w v N.length (cellsG WY.cs N)
 h:∀y∈N,HOD w y.hv y.x.hs
theorem DW.keep {w0 w w':World} {v:Value} {N:List WY} (h:DW w0 w v N) (t:Touch (fun _=>False) w w'):DW w0 w' v N:=⟨h.b.keep t,fun y hy=>Qab (h.h y hy) t (fun _ _ h=>h)⟩
theorem DW.nil {w0 w:World} (t:Touch (fun _=>False) w0 w):DW w0 w (.slice none 0 0) []:=⟨VBuf.nil _ _ t,by simp⟩
theorem DW.keepS {w wr wx:World} {s:Value} {N:List WY} (h:DW w wr s N) {F:Nat→Prop} (t:Touch F wr wx) (h1:∀k,s.ownBlock=some k→¬F k) (h2:∀(v:Value) (l:List HK),HOD wr v l→∀k,v.ownBlock=some k→¬F k) (h3:∀k,F k→w.heap.size≤k):DW w wx s N :=
 ⟨⟨Qab h.b.own t h1,h.b.t.trans' t (fun i hi e=>by have:=h3 i e;omega)⟩,fun y hy=>Qab (h.h y hy) t (h2 _ _ (h.h y hy))⟩
structure D2 (w:World) (N T:List WP) (k:Nat) (s5:Value) (wr:World):Prop where
 all:∃M:List WY,DW w wr s5 M∧M.map (·.x)=(N.take k).filterMap (resW T)∧M.length≤k
theorem D2.t {w wr:World} {N T:List WP} {k:Nat} {s5:Value} (h:D2 w N T k s5 wr):Touch (fun _=>False) w wr:=by
 obtain⟨M,h1,-⟩:=h.all
 exact h1.b.t
structure D3 (w:World) (N T:List WP) (k b:Nat) (x:WP) (s5 hv:Value) (acc:List HK) (wx:World):Prop where
 box:Row wx b 84 (⟨x,hv⟩:WY).cs
 lb:w.heap.size≤b
 nb:s5.ownBlock≠some b
 hd:HD w wx hv acc
 all:∃M:List WY,DW w wx s5 M∧M.map (·.x)=(N.take k).filterMap (resW T)∧M.length≤k
theorem D3.keep {w wr w':World} {N T:List WP} {k b:Nat} {x:WP} {s5 hv:Value} {acc:List HK} (h:D3 w N T k b x s5 hv acc wr) (t:Touch (fun _=>False) wr w'):D3 w N T k b x s5 hv acc w':=by
 obtain⟨hb,hlb,hnb,hd,M,h3,h4⟩:=h
 exact⟨hb.keep t,hlb,hnb,hd.keep t,M,h3.keep t,h4⟩
theorem D2.start {w wr wa:World} {N T:List WP} {k b:Nat} {x:WP} {s5:Value} (h:D2 w N T k s5 wr) (hb:b=wr.heap.size) (ta:Touch (fun _=>False) wr wa) (rb:Row wa b 84 (⟨x,.slice none 0 0⟩:WY).cs):D3 w N T k b x s5 (.slice none 0 0) [] wa:=by
 obtain⟨M,h3,h4⟩:=h.all
 refine⟨rb,by rw [hb];exact h.t.size,fun e=>?_,VBuf.nil _ _ (h.t.trans ta),M,h3.keep ta,h4⟩
 have:=(h3.b.own.lt b e).2
 omega
theorem D3.store {w wx w2:World} {N T:List WP} {k b:Nat} {x:WP} {s5 hv:Value} {acc:List HK} (h:D3 w N T k b x s5 hv acc wx) (t:Touch (fun _=>False) wx w2) {r:Value} {acc':List HK} (hr:HD w w2 r acc'):D3 w N T k b x s5 r acc' (w2.setCell ⟨b,9,none⟩ r):=by
 obtain⟨hb,hlb,hnb,hd,M,h3,h5,h6⟩:=h.keep t
 have tt:Touch (fun k=>k=b) w2 (w2.setCell ⟨b,9,none⟩ r):=Touch.setCell (F:=fun k=>k=b) (p:=⟨b,9,none⟩) (Touch.refl _ _) (Or.inl rfl) _
 exact⟨hb.set 9 r,hlb,hnb,⟨Qab hr.own tt (fun q hq e=>Qb5 hr.own hb (by decide) (by rw [hq,e])),hr.t.trans' tt (fun i hi e=>by omega)⟩,M,h3.keepS tt (fun q hq e=>hnb (by rw [hq,e])) (fun v l hv q hq e=>Qb5 hv hb (by decide) (by rw [hq,e])) (fun q e=>by rw [e];exact hlb),h5,h6⟩
theorem D3.skip {w wx:World} {N T:List WP} {k b:Nat} {x:WP} {s5 hv:Value} {acc:List HK} (h:D3 w N T k b x s5 hv acc wx) {z:WP} (hz:N[k]?=some z) (hn:resW T z=none):D2 w N T (k+1) s5 wx:=by
 obtain⟨hb,hlb,hnb,hd,M,h3,h4,h6⟩:=h
 refine⟨M,h3,?_,by omega⟩
 rw [List.take_add_one,hz,List.filterMap_append,h4]
 simp [hn]
theorem D3.app {w wx w3 w4:World} {N T:List WP} {k b:Nat} {x:WP} {s5 hv v':Value} {acc:List HK} (h:D3 w N T k b x s5 hv acc wx) {z:WP} (hz:N[k]?=some z) (hn:resW T z=some { x with hs:=acc }) (t3:Touch (fun _=>False) wx w3)
  (own:∀M:List WY,DW w w3 s5 M→w4.ownsRow w.heap.size 84 10 v' (M.length+1) (cellsG WY.cs M++(⟨x,hv⟩:WY).cs)) (t4:Touch (fun j=>s5.ownBlock=some j) w3 w4):D2 w N T (k+1) v' w4:=by
 obtain⟨hb,hlb,hnb,hd,M,h3,h4,h6⟩:=h.keep t3
 have ho:HOD w3 hv acc:=Qam hd.own (Nat.zero_le _)
 refine⟨M++[⟨{ x with hs:=acc },hv⟩],⟨⟨?_,h3.b.t.trans' t4 (fun i hi e=>by have:=(h3.b.own.lt i e).1;omega)⟩,fun q hq=>?_⟩,?_,by rw [List.length_append];simp;omega⟩
 ·rw [List.length_append,Qaq]
  have e:cellsG WY.cs [(⟨{ x with hs:=acc },hv⟩:WY)]=(⟨x,hv⟩:WY).cs:=by simp [cellsG,WY.cs]
  rw [e]
  exact own M h3
 ·rcases List.mem_append.1 hq with hq|hq
  ·exact Qab (h3.h q hq) t4 (fun i hi e=>Qa2 (h3.h q hq) h3.b.own (by decide) i hi e)
  ·obtain rfl:=List.mem_singleton.1 hq
   exact Qab ho t4 (fun i hi e=>Qa2 ho h3.b.own (by decide) i hi e)
 ·rw [List.take_add_one,hz,List.filterMap_append,List.map_append,h4]
  simp [hn]
theorem Qew (T:List WP) (M:Nat) (hT:∀x∈T,x.hs.length≤M):∀(hs acc:List HK),(hs.foldl (dStep T) acc).length≤acc.length+hs.length*(M+1)
 | [],acc=>by simp
 | a::hs,acc=>by
  have ih:=Qew T M hT hs (dStep T acc a)
  have h1:(dStep T acc a).length≤acc.length+(M+1):=by
   unfold dStep
   split
   ·have:=Qmx acc (dpl T a.via)
    have h2:(dpl T a.via).length≤M:=by
     unfold dpl
     split
     ·rename_i x hx
      exact Nat.le_trans (Qb7 _) (hT x (List.mem_of_find?_eq_some hx))
     ·exact Nat.zero_le _
    omega
   ·have:=Qg6 a acc
    omega
  rw [List.foldl_cons,List.length_cons,Nat.add_mul]
  omega
end Go.Proofs.YtddbffoiadmffaaGreat
