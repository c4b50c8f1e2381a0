import Derived.Test.YtddbffoiadmffaaGreatInCat
namespace Go.Proofs.YtddbffoiadmffaaGreat
set_option maxHeartbeats 8000000
open Go.RowKit
set_option linter.unusedVariables false
set_option maxRecDepth 100000
def metW (L:List ME) (l:List CW):List ME:=l.foldl (fun L x=>putM L x.p x.cost x.h) L
theorem Qck (L:List ME) (a b:List CW):metW L (a++b)=metW (metW L a) b:=by simp [metW]
def stubW (c:Int) (h:HL) (s:TV):List CW:=if s.cost≤4294967295-c then [⟨⟨s.addr,s.bits⟩,c+s.cost,h⟩] else []
def netW (n:NV) (c:Int) (h:HL):List CW:=if n.net=true then [⟨⟨n.addr,n.bits⟩,c,h⟩] else []
def waysN (n:NV) (c:Int) (h:HL):List CW:=netW n c h++n.stubs.flatMap (stubW c h)
structure NV.OkP (n:NV):Prop where
 net:(⟨n.addr,n.bits⟩:PX).Ok
 st:∀s∈n.stubs,(⟨s.addr,s.bits⟩:PX).Ok∧0≤s.cost∧s.cost≤4294967295
theorem Quh {L:List ME} {B:Nat} (h:∀e∈L,e.hs.length≤B) (p:PX) (c:Int) (x:HL):∀e∈putM L p c x,e.hs.length≤B+1:=by
 intro e he
 unfold putM at he
 split at he
 ·rcases List.mem_append.1 he with he|he
  ·have:=h e he;omega
  ·obtain rfl:e=⟨p,c,[x]⟩:=by simpa using he
   simp
 ·split at he
  ·rename_i y hy
   rcases List.mem_or_eq_of_mem_set he with he|rfl
   ·have:=h e he;omega
   ·have:=h y (List.mem_of_getElem? hy)
    unfold upM
    split
    ·omega
    ·split
     ·simp
     ·simp;omega
  ·have:=h e he;omega
theorem Qcr {L:List ME} {B:Nat} (h:∀e∈L,e.hs.length≤B):∀(l:List CW),∀e∈metW L l,e.hs.length≤B+l.length:=by
 intro l
 induction l generalizing L B with
 | nil=>simpa [metW] using h
 | cons x l ih =>
  intro e he
  have:=ih (Quh h x.p x.cost x.h) e he
  rw [List.length_cons]
  omega
theorem Qe9 (c:Int) (h:HL) (s:TV):(stubW c h s).length≤1:=by unfold stubW;split <;> simp
theorem Qco {α β:Type} (f:α→List β) (hf:∀x,(f x).length≤1):∀l:List α,(l.flatMap f).length≤l.length
 | []=>by simp
 | x::l=>by
  have h1:=Qco f hf l
  have h2:=hf x
  rw [List.flatMap_cons,List.length_append,List.length_cons]
  omega
theorem Qfy {c:Int} {h:HL} {S:List TV} {k:Nat} {s:TV} (hk:S[k]?=some s):(S.take (k+1)).flatMap (stubW c h)=(S.take k).flatMap (stubW c h)++stubW c h s:=by
 rw [List.take_add_one,hk]
 simp
structure ReaP (w0:World) (G:Nat→Prop) (w:World) (m:Nat) (L:List ME) (e:Ending) (w':World):Prop where
 ret:e=.returned (.tuple #[])
 ms:MS w0 G w' m L
 t:Touch (fun k=>¬G k) w w'
theorem Qjb (w0 w:World) (G:Nat→Prop) (m:Nat) (L:List ME) (X:MS w0 G w m L) (ni na nb nf:Int) (ea:Option Addr) (en ec:Nat) (sa:Option Addr) (S:List TV) (sc:Nat) (is:Bool) (c:Int) (ha:Option Addr) (hn hc:Nat) (hk:List HK) (cb:0≤c∧c≤4294967295) (HV:hn=hk.length) (okn:(⟨na,nb⟩:PX).Ok) (oks:∀s∈S,(⟨s.addr,s.bits⟩:PX).Ok∧0≤s.cost∧s.cost≤4294967295) (B:Nat) (hB:∀e∈L,e.hs.length≤B) (hB2:B+1+S.length≤1000000) (hz:S.length=0) :
  Calls Tryz.prog 29 #[.map (some m),.agg #[.bool false,.int .u32 ni,.int .u32 na,.int .u8 nb,.int .u8 nf,.slice ea en ec,.slice sa S.length sc],.agg #[.bool is,.int .u32 c,.slice ha hn hc]] w (ReaP w0 G w m (metW L ((if (false:Bool)=true then [⟨⟨na,nb⟩,c,(.slice ha hn hc,hk)⟩] else [])++S.flatMap (stubW c (.slice ha hn hc,hk))))):=by
 have HOK:Hid _:=oks
 have HCB:Hid (0≤c∧c≤4294967295):=cb
 have HHV:Hid (hn=hk.length):=HV
 have HB2:Hid (B+1+S.length≤1000000):=hB2
 have HN0:Hid (S.length=0):=hz
 obtain⟨w1,hw1⟩:∃u,u=(w.alloc (.cells #[.bool false,.int .u32 ni,.int .u32 na,.int .u8 nb,.int .u8 nf,.slice ea en ec,.slice sa S.length sc] 73)).alloc (.cells #[.bool is,.int .u32 c,.slice ha hn hc] 68):=⟨_,rfl⟩
 have TW:Touch (fun _=>False) w w1:=by rw [hw1];exact ((Touch.refl _ w).alloc _).alloc _
 have R4:Row w1 w.heap.size 73 [.bool false,.int .u32 ni,.int .u32 na,.int .u8 nb,.int .u8 nf,.slice ea en ec,.slice sa S.length sc]:=by rw [hw1];exact Row.keep (Qac w 73 #[.bool false,.int .u32 ni,.int .u32 na,.int .u8 nb,.int .u8 nf,.slice ea en ec,.slice sa S.length sc]) ((Touch.refl _ _).alloc _)
 have R5:Row w1 (w.heap.size+1) 68 [.bool is,.int .u32 c,.slice ha hn hc]:=by
  rw [hw1]
  have:=Qac (w.alloc (.cells #[.bool false,.int .u32 ni,.int .u32 na,.int .u8 nb,.int .u8 nf,.slice ea en ec,.slice sa S.length sc] 73)) 68 #[.bool is,.int .u32 c,.slice ha hn hc]
  rw [World.size_alloc] at this
  exact this
 obtain⟨G1,hG1⟩:∃G1:Nat→Prop,G1=fun k=>G k∨k=w.heap.size∨k=w.heap.size+1:=⟨_,rfl⟩
 have X1:MS w0 G1 w1 m L:=by
  obtain⟨Q,hQ,GM⟩:=X.out
  refine X.more TW (fun k h=>?_) (fun k h=>?_)
  ·rw [hG1] at h
   rcases h with h|h|h
   ·exact Or.inl h
   ·exact Or.inr (by omega)
   ·exact Or.inr (by omega)
  ·rw [hG1] at h
   rcases h with h|h|h
   ·exact Nat.lt_of_lt_of_le (GM.gl k h) TW.size
   ·rw [h];exact R4.lt
   ·rw [h];exact R5.lt
 have HFIN:Hid (∀wr L',MS w0 G1 wr m L'→Touch (fun k=>¬G1 k) w1 wr→ReaP w0 G w m L' (.returned (.tuple #[])) wr):=fun wr L' ms t=>by
  obtain⟨Q,hQ,GM⟩:=ms.out
  obtain⟨Q0,hQ0,GM0⟩:=X.out
  refine⟨rfl,⟨Q,hQ,GM.q,GM.t,GM.lo,fun x hx g hg h=>GM.av x hx g hg (by rw [hG1];exact Or.inl h),fun h=>GM.gm (by rw [hG1];exact Or.inl h),fun k h=>GM.gl k (by rw [hG1];exact Or.inl h)⟩,?_⟩
  exact (TW.mono (fun _ _ h=>h.elim)).trans (t.mono (fun k _ h hk=>h (by rw [hG1];exact Or.inl hk)))
 obtain⟨b4,hb4⟩:∃b,b=w.heap.size:=⟨_,rfl⟩
 obtain⟨b5,hb5⟩:∃b,b=w.heap.size+1:=⟨_,rfl⟩
 have HR:Hid (Hid (∀wr,Touch (fun k=>¬G1 k) w1 wr→Row wr b4 73 [.bool false,.int .u32 ni,.int .u32 na,.int .u8 nb,.int .u8 nf,.slice ea en ec,.slice sa S.length sc])∧Hid (∀wr,Touch (fun k=>¬G1 k) w1 wr→Row wr b5 68 [.bool is,.int .u32 c,.slice ha hn hc])):=by
  refine⟨fun wr t=>?_,fun wr t=>?_⟩
  ·rw [hb4];exact Qad R4 t (fun h=>h (by rw [hG1];exact Or.inr (Or.inl rfl)))
  ·rw [hb5];exact Qad R5 t (fun h=>h (by rw [hG1];exact Or.inr (Or.inr rfl)))
 have HX1:Hid (MS w0 G1 w1 m L):=X1
 have HBL:Hid (∀e∈L,e.hs.length≤B):=hB
 have HON:Hid ((⟨na,nb⟩:PX).Ok):=okn
 clear X X1 TW hB okn oks cb HV hB2 R4 R5 hG1 hz
 go_enter Tryz.func29,Tryz.ntmps29
 go_upto_region 1 with fail
 rw [←hw1,←hb5,←hb4]
 clear hw1 hb4 hb5
 have R4:=HR.out.1.out w1 (Touch.refl _ _)
 have R5:=HR.out.2.out w1 (Touch.refl _ _)
 have n0:w1.cell? ⟨b4,0,none⟩=some (.bool false):=R4.cell 0
 have n2:w1.cell? ⟨b4,2,none⟩=some (.int .u32 na):=R4.cell 2
 have n3:w1.cell? ⟨b4,3,none⟩=some (.int .u8 nb):=R4.cell 3
 have n6:w1.cell? ⟨b4,6,none⟩=some (.slice sa S.length sc):=R4.cell 6
 have q1:w1.cell? ⟨b5,1,none⟩=some (.int .u32 c):=R5.cell 1
 have q2:w1.cell? ⟨b5,2,none⟩=some (.slice ha hn hc):=R5.cell 2
 have lq:=Qaa q1
 have ln:=Qaa n0
 clear R4 R5
 have HB1:Hid (∀e∈metW L (if (false:Bool)=true then [⟨⟨na,nb⟩,c,(.slice ha hn hc,hk)⟩] else []),e.hs.length≤B+1):=fun e he=>by
  have h1:=Qcr HBL.out _ e he
  have h2:(if (false:Bool)=true then [(⟨⟨na,nb⟩,c,(.slice ha hn hc,hk)⟩:CW)] else []).length≤1:=by split <;> simp
  omega
 have HF2:Hid (∀wr l,MS w0 G1 wr m (metW (metW L (if (false:Bool)=true then [⟨⟨na,nb⟩,c,(.slice ha hn hc,hk)⟩] else [])) l)→Touch (fun k=>¬G1 k) w1 wr→ReaP w0 G w m (metW L ((if (false:Bool)=true then [⟨⟨na,nb⟩,c,(.slice ha hn hc,hk)⟩] else [])++l)) (.returned (.tuple #[])) wr):=fun wr l ms t=>by
  rw [Qck]
  exact HFIN.out wr _ ms t
 have HLL:Hid ((if (false:Bool)=true then [(⟨⟨na,nb⟩,c,(.slice ha hn hc,hk)⟩:CW)] else [])=[]):=rfl
 generalize (if (false:Bool)=true then [(⟨⟨na,nb⟩,c,(.slice ha hn hc,hk)⟩:CW)] else [])=l1 at *
 obtain⟨n,hnn⟩:∃n,n=S.length:=⟨_,rfl⟩
 have HN:Hid (n=S.length):=hnn
 have HN0:Hid (n=0):=hnn.trans HN0.out
 rw [←hnn] at n6
 clear HFIN
 have HMC:Hid (MS w0 G1 w1 m (metW L l1)):=by rw [HLL.out];exact HX1.out
 have HTC:Hid (Touch (fun k=>¬G1 k) w1 w1):=Touch.refl _ _
 generalize metW L l1=L1 at *
 clear HX1 HBL HON HLL
 go_wp2_with fail
 clear n0 n2 n3 n6 q1 q2 lq ln
 go_loopw [21] (fun i wr=>∃k:Nat,k≤n∧i=.int .i64 k∧MS w0 G1 wr m (metW L1 ((S.take k).flatMap (stubW c (.slice ha hn hc,hk))))∧Touch (fun k=>¬G1 k) w1 wr) (fun i _=>n-(intOf i).toNat)
 case atStart=>exact⟨0,Nat.zero_le _,rfl,HMC.out,HTC.out⟩
 case round =>
  as_aux_lemma =>
  clear HMC HTC
  obtain⟨k,hk',rfl,hms,htw⟩:=hrel
  by_cases hlt:k<n
  ·exact absurd hlt (by have:=HN0.out;omega)
  ·have hlt':¬(k:Int)<(n:Int):=by omega
   have hk2:k=S.length:=by have:=HN.out;omega
   have hft:S.take k=S:=by rw [hk2,List.take_length]
   rw [hft] at hms
   have HFF:=HF2.out wr _ hms htw
   clear hft hk2 hms htw
   go_wp2_with fail
   exact bodyPost_end (results_none rfl _ _ _) rfl HFF
theorem Qiy (w0 w:World) (G:Nat→Prop) (m:Nat) (L:List ME) (X:MS w0 G w m L) (ni na nb nf:Int) (ea:Option Addr) (en ec:Nat) (sa:Option Addr) (S:List TV) (sc:Nat) (is:Bool) (c:Int) (ha:Option Addr) (hn hc:Nat) (hk:List HK) (cb:0≤c∧c≤4294967295) (HV:hn=hk.length) (okn:(⟨na,nb⟩:PX).Ok) (oks:∀s∈S,(⟨s.addr,s.bits⟩:PX).Ok∧0≤s.cost∧s.cost≤4294967295) (B:Nat) (hB:∀e∈L,e.hs.length≤B) (hB2:B+1+S.length≤1000000) (sg:Nat) (hsa:sa=some ⟨sg,0,none⟩) (HSC:∀w',Touch (fun _=>False) w0 w'→∀k s,S[k]?=some s→w'.cell? ⟨sg,k*3,none⟩=some (.int .u32 s.addr)∧w'.cell? ⟨sg,k*3+1,none⟩=some (.int .u8 s.bits)∧w'.cell? ⟨sg,k*3+2,none⟩=some (.int .u32 s.cost)) :
  Calls Tryz.prog 29 #[.map (some m),.agg #[.bool false,.int .u32 ni,.int .u32 na,.int .u8 nb,.int .u8 nf,.slice ea en ec,.slice sa S.length sc],.agg #[.bool is,.int .u32 c,.slice ha hn hc]] w (ReaP w0 G w m (metW L ((if (false:Bool)=true then [⟨⟨na,nb⟩,c,(.slice ha hn hc,hk)⟩] else [])++S.flatMap (stubW c (.slice ha hn hc,hk))))):=by
 subst hsa
 have HOK:Hid _:=oks
 have HCB:Hid (0≤c∧c≤4294967295):=cb
 have HHV:Hid (hn=hk.length):=HV
 have HB2:Hid (B+1+S.length≤1000000):=hB2
 have HS:Hid _:=HSC
 obtain⟨w1,hw1⟩:∃u,u=(w.alloc (.cells #[.bool false,.int .u32 ni,.int .u32 na,.int .u8 nb,.int .u8 nf,.slice ea en ec,.slice (some ⟨sg,0,none⟩) S.length sc] 73)).alloc (.cells #[.bool is,.int .u32 c,.slice ha hn hc] 68):=⟨_,rfl⟩
 have TW:Touch (fun _=>False) w w1:=by rw [hw1];exact ((Touch.refl _ w).alloc _).alloc _
 have R4:Row w1 w.heap.size 73 [.bool false,.int .u32 ni,.int .u32 na,.int .u8 nb,.int .u8 nf,.slice ea en ec,.slice (some ⟨sg,0,none⟩) S.length sc]:=by rw [hw1];exact Row.keep (Qac w 73 #[.bool false,.int .u32 ni,.int .u32 na,.int .u8 nb,.int .u8 nf,.slice ea en ec,.slice (some ⟨sg,0,none⟩) S.length sc]) ((Touch.refl _ _).alloc _)
 have R5:Row w1 (w.heap.size+1) 68 [.bool is,.int .u32 c,.slice ha hn hc]:=by
  rw [hw1]
  have:=Qac (w.alloc (.cells #[.bool false,.int .u32 ni,.int .u32 na,.int .u8 nb,.int .u8 nf,.slice ea en ec,.slice (some ⟨sg,0,none⟩) S.length sc] 73)) 68 #[.bool is,.int .u32 c,.slice ha hn hc]
  rw [World.size_alloc] at this
  exact this
 obtain⟨G1,hG1⟩:∃G1:Nat→Prop,G1=fun k=>G k∨k=w.heap.size∨k=w.heap.size+1:=⟨_,rfl⟩
 have X1:MS w0 G1 w1 m L:=by
  obtain⟨Q,hQ,GM⟩:=X.out
  refine X.more TW (fun k h=>?_) (fun k h=>?_)
  ·rw [hG1] at h
   rcases h with h|h|h
   ·exact Or.inl h
   ·exact Or.inr (by omega)
   ·exact Or.inr (by omega)
  ·rw [hG1] at h
   rcases h with h|h|h
   ·exact Nat.lt_of_lt_of_le (GM.gl k h) TW.size
   ·rw [h];exact R4.lt
   ·rw [h];exact R5.lt
 have HFIN:Hid (∀wr L',MS w0 G1 wr m L'→Touch (fun k=>¬G1 k) w1 wr→ReaP w0 G w m L' (.returned (.tuple #[])) wr):=fun wr L' ms t=>by
  obtain⟨Q,hQ,GM⟩:=ms.out
  obtain⟨Q0,hQ0,GM0⟩:=X.out
  refine⟨rfl,⟨Q,hQ,GM.q,GM.t,GM.lo,fun x hx g hg h=>GM.av x hx g hg (by rw [hG1];exact Or.inl h),fun h=>GM.gm (by rw [hG1];exact Or.inl h),fun k h=>GM.gl k (by rw [hG1];exact Or.inl h)⟩,?_⟩
  exact (TW.mono (fun _ _ h=>h.elim)).trans (t.mono (fun k _ h hk=>h (by rw [hG1];exact Or.inl hk)))
 obtain⟨b4,hb4⟩:∃b,b=w.heap.size:=⟨_,rfl⟩
 obtain⟨b5,hb5⟩:∃b,b=w.heap.size+1:=⟨_,rfl⟩
 have HR:Hid (Hid (∀wr,Touch (fun k=>¬G1 k) w1 wr→Row wr b4 73 [.bool false,.int .u32 ni,.int .u32 na,.int .u8 nb,.int .u8 nf,.slice ea en ec,.slice (some ⟨sg,0,none⟩) S.length sc])∧Hid (∀wr,Touch (fun k=>¬G1 k) w1 wr→Row wr b5 68 [.bool is,.int .u32 c,.slice ha hn hc])):=by
  refine⟨fun wr t=>?_,fun wr t=>?_⟩
  ·rw [hb4];exact Qad R4 t (fun h=>h (by rw [hG1];exact Or.inr (Or.inl rfl)))
  ·rw [hb5];exact Qad R5 t (fun h=>h (by rw [hG1];exact Or.inr (Or.inr rfl)))
 have HX1:Hid (MS w0 G1 w1 m L):=X1
 have HBL:Hid (∀e∈L,e.hs.length≤B):=hB
 have HON:Hid ((⟨na,nb⟩:PX).Ok):=okn
 clear X X1 TW hB okn oks cb HV hB2 R4 R5 hG1 HSC
 go_enter Tryz.func29,Tryz.ntmps29
 go_upto_region 1 with fail
 rw [←hw1,←hb5,←hb4]
 clear hw1 hb4 hb5
 have R4:=HR.out.1.out w1 (Touch.refl _ _)
 have R5:=HR.out.2.out w1 (Touch.refl _ _)
 have n0:w1.cell? ⟨b4,0,none⟩=some (.bool false):=R4.cell 0
 have n2:w1.cell? ⟨b4,2,none⟩=some (.int .u32 na):=R4.cell 2
 have n3:w1.cell? ⟨b4,3,none⟩=some (.int .u8 nb):=R4.cell 3
 have n6:w1.cell? ⟨b4,6,none⟩=some (.slice (some ⟨sg,0,none⟩) S.length sc):=R4.cell 6
 have q1:w1.cell? ⟨b5,1,none⟩=some (.int .u32 c):=R5.cell 1
 have q2:w1.cell? ⟨b5,2,none⟩=some (.slice ha hn hc):=R5.cell 2
 have lq:=Qaa q1
 have ln:=Qaa n0
 clear R4 R5
 have HB1:Hid (∀e∈metW L (if (false:Bool)=true then [⟨⟨na,nb⟩,c,(.slice ha hn hc,hk)⟩] else []),e.hs.length≤B+1):=fun e he=>by
  have h1:=Qcr HBL.out _ e he
  have h2:(if (false:Bool)=true then [(⟨⟨na,nb⟩,c,(.slice ha hn hc,hk)⟩:CW)] else []).length≤1:=by split <;> simp
  omega
 have HF2:Hid (∀wr l,MS w0 G1 wr m (metW (metW L (if (false:Bool)=true then [⟨⟨na,nb⟩,c,(.slice ha hn hc,hk)⟩] else [])) l)→Touch (fun k=>¬G1 k) w1 wr→ReaP w0 G w m (metW L ((if (false:Bool)=true then [⟨⟨na,nb⟩,c,(.slice ha hn hc,hk)⟩] else [])++l)) (.returned (.tuple #[])) wr):=fun wr l ms t=>by
  rw [Qck]
  exact HFIN.out wr _ ms t
 have HLL:Hid ((if (false:Bool)=true then [(⟨⟨na,nb⟩,c,(.slice ha hn hc,hk)⟩:CW)] else [])=[]):=rfl
 generalize (if (false:Bool)=true then [(⟨⟨na,nb⟩,c,(.slice ha hn hc,hk)⟩:CW)] else [])=l1 at *
 obtain⟨n,hnn⟩:∃n,n=S.length:=⟨_,rfl⟩
 have HN:Hid (n=S.length):=hnn
 rw [←hnn] at n6
 clear HFIN
 have HMC:Hid (MS w0 G1 w1 m (metW L l1)):=by rw [HLL.out];exact HX1.out
 have HTC:Hid (Touch (fun k=>¬G1 k) w1 w1):=Touch.refl _ _
 generalize metW L l1=L1 at *
 clear HX1 HBL HON HLL
 go_wp2_with fail
 clear n0 n2 n3 n6 q1 q2 lq ln
 go_loopw [21] (fun i wr=>∃k:Nat,k≤n∧i=.int .i64 k∧MS w0 G1 wr m (metW L1 ((S.take k).flatMap (stubW c (.slice ha hn hc,hk))))∧Touch (fun k=>¬G1 k) w1 wr) (fun i _=>n-(intOf i).toNat)
 case atStart=>exact⟨0,Nat.zero_le _,rfl,HMC.out,HTC.out⟩
 case round =>
  as_aux_lemma =>
  clear HMC HTC
  obtain⟨k,hk',rfl,hms,htw⟩:=hrel
  by_cases hlt:k<n
  ·obtain⟨s,hs⟩:∃s,S[k]?=some s:=⟨S[k]'(by have:=HN.out;omega),by simp⟩
   obtain⟨e0,e1,e2⟩:=HS.out wr hms.t k s hs
   obtain⟨okp,sc0,sc1⟩:=HOK.out s (List.mem_of_getElem? hs)
   have hlt':(k:Int)<(n:Int):=by omega
   have hk00:(0:Int)≤(k:Int):=by omega
   have hkw:wrap64 ((k:Int)+1)=(k:Int)+1:=by have:=HB2.out;have:=HN.out;unfold wrap64;omega
   have hws:IntKind.u32.wrap (4294967295-c)=4294967295-c:=IntWalk.u32_in _ (by have:=HCB.out;omega)
   have R4:=HR.out.1.out wr htw
   have R5:=HR.out.2.out wr htw
   have q1:wr.cell? ⟨b5,1,none⟩=some (.int .u32 c):=R5.cell 1
   have q2:wr.cell? ⟨b5,2,none⟩=some (.slice ha hn hc):=R5.cell 2
   have lq:=Qaa q1
   have le:=Qaa e0
   have HST:Hid ((S.take (k+1)).flatMap (stubW c (.slice ha hn hc,hk))=(S.take k).flatMap (stubW c (.slice ha hn hc,hk))++stubW c (.slice ha hn hc,hk) s):=Qfy hs
   have HMS:Hid (MS w0 G1 wr m (metW L1 ((S.take k).flatMap (stubW c (.slice ha hn hc,hk))))):=hms
   have HTW:Hid (Touch (fun k=>¬G1 k) w1 wr):=htw
   have HLB:Hid (∀e∈metW L1 ((S.take k).flatMap (stubW c (.slice ha hn hc,hk))),e.hs.length≤1000000):=fun e he=>by
    have h1:=Qcr HB1.out _ e he
    have h2:=Qco (stubW c (.slice ha hn hc,hk)) (Qe9 c _) (S.take k)
    have h3:=HB2.out
    rw [List.length_take] at h2
    have:=HN.out
    omega
   have TA:Touch (fun _=>False) wr (wr.alloc (.cells #[.int .u32 s.addr,.int .u8 s.bits,.int .u32 s.cost] 157)):=(Touch.refl _ _).alloc _
   obtain⟨sa1,sb1,sc⟩:=s
   simp only at e0 e1 e2 okp sc0 sc1
   by_cases hD:sc≤4294967295-c
   ·have hwa:IntKind.u32.wrap (c+sc)=c+sc:=IntWalk.u32_in _ (by have:=HCB.out;omega)
    have HAD:=Qeo w0 (wr.alloc (.cells #[.int .u32 sa1,.int .u8 sb1,.int .u32 sc] 157)) G1 m _ (HMS.out.keep TA) ⟨sa1,sb1⟩ okp (c+sc) (by have:=HCB.out;omega) (.slice ha hn hc) hk ⟨_,_,by rw [HHV.out]⟩ HLB.out
    have HSW:Hid (stubW c (.slice ha hn hc,hk) ⟨sa1,sb1,sc⟩=[⟨⟨sa1,sb1⟩,c+sc,(.slice ha hn hc,hk)⟩]):=if_pos hD
    unfold PX.v at HAD
    have HTA:Hid _:=TA
    clear R4 R5 TA hs okp hms htw
    go_wp2_with (first|refine HAD.mono ?_;rintro e w2 ⟨rfl,ms2,t2⟩)
    have HM2:Hid _:=ms2
    have HT2:Hid _:=t2
    clear ms2 t2 HAD
    go_wp2_with fail
    go_roundw
    case rel=>exact⟨k+1,by have:=HN.out;omega,by go_num,by rw [HST.out,Qck,HSW.out];exact HM2.out,HTW.out.trans ((HTA.out.mono (fun _ _ h=>h.elim)).trans HT2.out)⟩
    case measure=>exact Qa5 hlt hkw
   ·have HSW:Hid (stubW c (.slice ha hn hc,hk) ⟨sa1,sb1,sc⟩=[]):=if_neg hD
    have HTA:Hid _:=TA
    clear R4 R5 TA hs okp hms htw
    go_wp2_with fail
    go_roundw
    case rel=>exact⟨k+1,by have:=HN.out;omega,by go_num,by rw [HST.out,HSW.out,List.append_nil];exact HMS.out.keep HTA.out,HTW.out.trans (HTA.out.mono (fun _ _ h=>h.elim))⟩
    case measure=>exact Qa5 hlt hkw
  ·have hlt':¬(k:Int)<(n:Int):=by omega
   have hk2:k=S.length:=by have:=HN.out;omega
   have hft:S.take k=S:=by rw [hk2,List.take_length]
   rw [hft] at hms
   have HFF:=HF2.out wr _ hms htw
   clear hft hk2 hms htw
   go_wp2_with fail
   exact bodyPost_end (results_none rfl _ _ _) rfl HFF
theorem Qim (w0 w:World) (G:Nat→Prop) (m:Nat) (L:List ME) (X:MS w0 G w m L) (ni na nb nf:Int) (ea:Option Addr) (en ec:Nat) (sa:Option Addr) (S:List TV) (sc:Nat) (is:Bool) (c:Int) (ha:Option Addr) (hn hc:Nat) (hk:List HK) (cb:0≤c∧c≤4294967295) (HV:hn=hk.length) (okn:(⟨na,nb⟩:PX).Ok) (oks:∀s∈S,(⟨s.addr,s.bits⟩:PX).Ok∧0≤s.cost∧s.cost≤4294967295) (B:Nat) (hB:∀e∈L,e.hs.length≤B) (hB2:B+1+S.length≤1000000) (hz:S.length=0) :
  Calls Tryz.prog 29 #[.map (some m),.agg #[.bool true,.int .u32 ni,.int .u32 na,.int .u8 nb,.int .u8 nf,.slice ea en ec,.slice sa S.length sc],.agg #[.bool is,.int .u32 c,.slice ha hn hc]] w (ReaP w0 G w m (metW L ((if (true:Bool)=true then [⟨⟨na,nb⟩,c,(.slice ha hn hc,hk)⟩] else [])++S.flatMap (stubW c (.slice ha hn hc,hk))))):=by
 have HOK:Hid _:=oks
 have HCB:Hid (0≤c∧c≤4294967295):=cb
 have HHV:Hid (hn=hk.length):=HV
 have HB2:Hid (B+1+S.length≤1000000):=hB2
 have HN0:Hid (S.length=0):=hz
 obtain⟨w1,hw1⟩:∃u,u=(w.alloc (.cells #[.bool true,.int .u32 ni,.int .u32 na,.int .u8 nb,.int .u8 nf,.slice ea en ec,.slice sa S.length sc] 73)).alloc (.cells #[.bool is,.int .u32 c,.slice ha hn hc] 68):=⟨_,rfl⟩
 have TW:Touch (fun _=>False) w w1:=by rw [hw1];exact ((Touch.refl _ w).alloc _).alloc _
 have R4:Row w1 w.heap.size 73 [.bool true,.int .u32 ni,.int .u32 na,.int .u8 nb,.int .u8 nf,.slice ea en ec,.slice sa S.length sc]:=by rw [hw1];exact Row.keep (Qac w 73 #[.bool true,.int .u32 ni,.int .u32 na,.int .u8 nb,.int .u8 nf,.slice ea en ec,.slice sa S.length sc]) ((Touch.refl _ _).alloc _)
 have R5:Row w1 (w.heap.size+1) 68 [.bool is,.int .u32 c,.slice ha hn hc]:=by
  rw [hw1]
  have:=Qac (w.alloc (.cells #[.bool true,.int .u32 ni,.int .u32 na,.int .u8 nb,.int .u8 nf,.slice ea en ec,.slice sa S.length sc] 73)) 68 #[.bool is,.int .u32 c,.slice ha hn hc]
  rw [World.size_alloc] at this
  exact this
 obtain⟨G1,hG1⟩:∃G1:Nat→Prop,G1=fun k=>G k∨k=w.heap.size∨k=w.heap.size+1:=⟨_,rfl⟩
 have X1:MS w0 G1 w1 m L:=by
  obtain⟨Q,hQ,GM⟩:=X.out
  refine X.more TW (fun k h=>?_) (fun k h=>?_)
  ·rw [hG1] at h
   rcases h with h|h|h
   ·exact Or.inl h
   ·exact Or.inr (by omega)
   ·exact Or.inr (by omega)
  ·rw [hG1] at h
   rcases h with h|h|h
   ·exact Nat.lt_of_lt_of_le (GM.gl k h) TW.size
   ·rw [h];exact R4.lt
   ·rw [h];exact R5.lt
 have HFIN:Hid (∀wr L',MS w0 G1 wr m L'→Touch (fun k=>¬G1 k) w1 wr→ReaP w0 G w m L' (.returned (.tuple #[])) wr):=fun wr L' ms t=>by
  obtain⟨Q,hQ,GM⟩:=ms.out
  obtain⟨Q0,hQ0,GM0⟩:=X.out
  refine⟨rfl,⟨Q,hQ,GM.q,GM.t,GM.lo,fun x hx g hg h=>GM.av x hx g hg (by rw [hG1];exact Or.inl h),fun h=>GM.gm (by rw [hG1];exact Or.inl h),fun k h=>GM.gl k (by rw [hG1];exact Or.inl h)⟩,?_⟩
  exact (TW.mono (fun _ _ h=>h.elim)).trans (t.mono (fun k _ h hk=>h (by rw [hG1];exact Or.inl hk)))
 obtain⟨b4,hb4⟩:∃b,b=w.heap.size:=⟨_,rfl⟩
 obtain⟨b5,hb5⟩:∃b,b=w.heap.size+1:=⟨_,rfl⟩
 have HR:Hid (Hid (∀wr,Touch (fun k=>¬G1 k) w1 wr→Row wr b4 73 [.bool true,.int .u32 ni,.int .u32 na,.int .u8 nb,.int .u8 nf,.slice ea en ec,.slice sa S.length sc])∧Hid (∀wr,Touch (fun k=>¬G1 k) w1 wr→Row wr b5 68 [.bool is,.int .u32 c,.slice ha hn hc])):=by
  refine⟨fun wr t=>?_,fun wr t=>?_⟩
  ·rw [hb4];exact Qad R4 t (fun h=>h (by rw [hG1];exact Or.inr (Or.inl rfl)))
  ·rw [hb5];exact Qad R5 t (fun h=>h (by rw [hG1];exact Or.inr (Or.inr rfl)))
 have HX1:Hid (MS w0 G1 w1 m L):=X1
 have HBL:Hid (∀e∈L,e.hs.length≤B):=hB
 have HON:Hid ((⟨na,nb⟩:PX).Ok):=okn
 clear X X1 TW hB okn oks cb HV hB2 R4 R5 hG1 hz
 go_enter Tryz.func29,Tryz.ntmps29
 go_upto_region 1 with fail
 rw [←hw1,←hb5,←hb4]
 clear hw1 hb4 hb5
 have R4:=HR.out.1.out w1 (Touch.refl _ _)
 have R5:=HR.out.2.out w1 (Touch.refl _ _)
 have n0:w1.cell? ⟨b4,0,none⟩=some (.bool true):=R4.cell 0
 have n2:w1.cell? ⟨b4,2,none⟩=some (.int .u32 na):=R4.cell 2
 have n3:w1.cell? ⟨b4,3,none⟩=some (.int .u8 nb):=R4.cell 3
 have n6:w1.cell? ⟨b4,6,none⟩=some (.slice sa S.length sc):=R4.cell 6
 have q1:w1.cell? ⟨b5,1,none⟩=some (.int .u32 c):=R5.cell 1
 have q2:w1.cell? ⟨b5,2,none⟩=some (.slice ha hn hc):=R5.cell 2
 have lq:=Qaa q1
 have ln:=Qaa n0
 clear R4 R5
 have HB1:Hid (∀e∈metW L (if (true:Bool)=true then [⟨⟨na,nb⟩,c,(.slice ha hn hc,hk)⟩] else []),e.hs.length≤B+1):=fun e he=>by
  have h1:=Qcr HBL.out _ e he
  have h2:(if (true:Bool)=true then [(⟨⟨na,nb⟩,c,(.slice ha hn hc,hk)⟩:CW)] else []).length≤1:=by split <;> simp
  omega
 have HF2:Hid (∀wr l,MS w0 G1 wr m (metW (metW L (if (true:Bool)=true then [⟨⟨na,nb⟩,c,(.slice ha hn hc,hk)⟩] else [])) l)→Touch (fun k=>¬G1 k) w1 wr→ReaP w0 G w m (metW L ((if (true:Bool)=true then [⟨⟨na,nb⟩,c,(.slice ha hn hc,hk)⟩] else [])++l)) (.returned (.tuple #[])) wr):=fun wr l ms t=>by
  rw [Qck]
  exact HFIN.out wr _ ms t
 have HLL:Hid ((if (true:Bool)=true then [(⟨⟨na,nb⟩,c,(.slice ha hn hc,hk)⟩:CW)] else [])=[⟨⟨na,nb⟩,c,(.slice ha hn hc,hk)⟩]):=rfl
 generalize (if (true:Bool)=true then [(⟨⟨na,nb⟩,c,(.slice ha hn hc,hk)⟩:CW)] else [])=l1 at *
 obtain⟨n,hnn⟩:∃n,n=S.length:=⟨_,rfl⟩
 have HN:Hid (n=S.length):=hnn
 have HN0:Hid (n=0):=hnn.trans HN0.out
 rw [←hnn] at n6
 clear HFIN
 have HAD:=Qeo w0 w1 G1 m L HX1.out ⟨na,nb⟩ HON.out c HCB.out.1 (.slice ha hn hc) hk ⟨_,_,by rw [HHV.out]⟩ (fun e he=>by have:=HBL.out e he;have:=HB2.out;omega)
 unfold PX.v at HAD
 go_wp2_with (first|refine HAD.mono ?_;rintro e w2 ⟨rfl,ms2,t2⟩;have HM2:Hid (MS w0 G1 w2 m (metW L l1)):=(by rw [HLL.out];exact ms2);have HT2:Hid (Touch (fun k=>¬G1 k) w1 w2):=t2;have m6:w2.cell? ⟨b4,6,none⟩=some (.slice sa n sc):=(by have:=(HR.out.1.out w2 t2).cell 6;rw [hnn];exact this);have lm:=Qaa m6;clear ms2 t2 HAD n0 n2 n3 n6 q1 q2 lq ln)
 have HMC:=HM2
 have HTC:=HT2
 generalize metW L l1=L1 at *
 clear HX1 HBL HON HM2 HT2
 clear m6 lm
 go_loopw [21] (fun i wr=>∃k:Nat,k≤n∧i=.int .i64 k∧MS w0 G1 wr m (metW L1 ((S.take k).flatMap (stubW c (.slice ha hn hc,hk))))∧Touch (fun k=>¬G1 k) w1 wr) (fun i _=>n-(intOf i).toNat)
 case atStart=>exact⟨0,Nat.zero_le _,rfl,HMC.out,HTC.out⟩
 case round =>
  as_aux_lemma =>
  clear HMC HTC
  obtain⟨k,hk',rfl,hms,htw⟩:=hrel
  by_cases hlt:k<n
  ·exact absurd hlt (by have:=HN0.out;omega)
  ·have hlt':¬(k:Int)<(n:Int):=by omega
   have hk2:k=S.length:=by have:=HN.out;omega
   have hft:S.take k=S:=by rw [hk2,List.take_length]
   rw [hft] at hms
   have HFF:=HF2.out wr _ hms htw
   rw [HLL.out] at HFF
   simp only [List.cons_append,List.nil_append] at HFF
   clear hft hk2 hms htw
   go_wp2_with fail
   exact bodyPost_end (results_none rfl _ _ _) rfl HFF
theorem Qjm (w0 w:World) (G:Nat→Prop) (m:Nat) (L:List ME) (X:MS w0 G w m L) (ni na nb nf:Int) (ea:Option Addr) (en ec:Nat) (sa:Option Addr) (S:List TV) (sc:Nat) (is:Bool) (c:Int) (ha:Option Addr) (hn hc:Nat) (hk:List HK) (cb:0≤c∧c≤4294967295) (HV:hn=hk.length) (okn:(⟨na,nb⟩:PX).Ok) (oks:∀s∈S,(⟨s.addr,s.bits⟩:PX).Ok∧0≤s.cost∧s.cost≤4294967295) (B:Nat) (hB:∀e∈L,e.hs.length≤B) (hB2:B+1+S.length≤1000000) (sg:Nat) (hsa:sa=some ⟨sg,0,none⟩) (HSC:∀w',Touch (fun _=>False) w0 w'→∀k s,S[k]?=some s→w'.cell? ⟨sg,k*3,none⟩=some (.int .u32 s.addr)∧w'.cell? ⟨sg,k*3+1,none⟩=some (.int .u8 s.bits)∧w'.cell? ⟨sg,k*3+2,none⟩=some (.int .u32 s.cost)) :
  Calls Tryz.prog 29 #[.map (some m),.agg #[.bool true,.int .u32 ni,.int .u32 na,.int .u8 nb,.int .u8 nf,.slice ea en ec,.slice sa S.length sc],.agg #[.bool is,.int .u32 c,.slice ha hn hc]] w (ReaP w0 G w m (metW L ((if (true:Bool)=true then [⟨⟨na,nb⟩,c,(.slice ha hn hc,hk)⟩] else [])++S.flatMap (stubW c (.slice ha hn hc,hk))))):=by
 subst hsa
 have HOK:Hid _:=oks
 have HCB:Hid (0≤c∧c≤4294967295):=cb
 have HHV:Hid (hn=hk.length):=HV
 have HB2:Hid (B+1+S.length≤1000000):=hB2
 have HS:Hid _:=HSC
 obtain⟨w1,hw1⟩:∃u,u=(w.alloc (.cells #[.bool true,.int .u32 ni,.int .u32 na,.int .u8 nb,.int .u8 nf,.slice ea en ec,.slice (some ⟨sg,0,none⟩) S.length sc] 73)).alloc (.cells #[.bool is,.int .u32 c,.slice ha hn hc] 68):=⟨_,rfl⟩
 have TW:Touch (fun _=>False) w w1:=by rw [hw1];exact ((Touch.refl _ w).alloc _).alloc _
 have R4:Row w1 w.heap.size 73 [.bool true,.int .u32 ni,.int .u32 na,.int .u8 nb,.int .u8 nf,.slice ea en ec,.slice (some ⟨sg,0,none⟩) S.length sc]:=by rw [hw1];exact Row.keep (Qac w 73 #[.bool true,.int .u32 ni,.int .u32 na,.int .u8 nb,.int .u8 nf,.slice ea en ec,.slice (some ⟨sg,0,none⟩) S.length sc]) ((Touch.refl _ _).alloc _)
 have R5:Row w1 (w.heap.size+1) 68 [.bool is,.int .u32 c,.slice ha hn hc]:=by
  rw [hw1]
  have:=Qac (w.alloc (.cells #[.bool true,.int .u32 ni,.int .u32 na,.int .u8 nb,.int .u8 nf,.slice ea en ec,.slice (some ⟨sg,0,none⟩) S.length sc] 73)) 68 #[.bool is,.int .u32 c,.slice ha hn hc]
  rw [World.size_alloc] at this
  exact this
 obtain⟨G1,hG1⟩:∃G1:Nat→Prop,G1=fun k=>G k∨k=w.heap.size∨k=w.heap.size+1:=⟨_,rfl⟩
 have X1:MS w0 G1 w1 m L:=by
  obtain⟨Q,hQ,GM⟩:=X.out
  refine X.more TW (fun k h=>?_) (fun k h=>?_)
  ·rw [hG1] at h
   rcases h with h|h|h
   ·exact Or.inl h
   ·exact Or.inr (by omega)
   ·exact Or.inr (by omega)
  ·rw [hG1] at h
   rcases h with h|h|h
   ·exact Nat.lt_of_lt_of_le (GM.gl k h) TW.size
   ·rw [h];exact R4.lt
   ·rw [h];exact R5.lt
 have HFIN:Hid (∀wr L',MS w0 G1 wr m L'→Touch (fun k=>¬G1 k) w1 wr→ReaP w0 G w m L' (.returned (.tuple #[])) wr):=fun wr L' ms t=>by
  obtain⟨Q,hQ,GM⟩:=ms.out
  obtain⟨Q0,hQ0,GM0⟩:=X.out
  refine⟨rfl,⟨Q,hQ,GM.q,GM.t,GM.lo,fun x hx g hg h=>GM.av x hx g hg (by rw [hG1];exact Or.inl h),fun h=>GM.gm (by rw [hG1];exact Or.inl h),fun k h=>GM.gl k (by rw [hG1];exact Or.inl h)⟩,?_⟩
  exact (TW.mono (fun _ _ h=>h.elim)).trans (t.mono (fun k _ h hk=>h (by rw [hG1];exact Or.inl hk)))
 obtain⟨b4,hb4⟩:∃b,b=w.heap.size:=⟨_,rfl⟩
 obtain⟨b5,hb5⟩:∃b,b=w.heap.size+1:=⟨_,rfl⟩
 have HR:Hid (Hid (∀wr,Touch (fun k=>¬G1 k) w1 wr→Row wr b4 73 [.bool true,.int .u32 ni,.int .u32 na,.int .u8 nb,.int .u8 nf,.slice ea en ec,.slice (some ⟨sg,0,none⟩) S.length sc])∧Hid (∀wr,Touch (fun k=>¬G1 k) w1 wr→Row wr b5 68 [.bool is,.int .u32 c,.slice ha hn hc])):=by
  refine⟨fun wr t=>?_,fun wr t=>?_⟩
  ·rw [hb4];exact Qad R4 t (fun h=>h (by rw [hG1];exact Or.inr (Or.inl rfl)))
  ·rw [hb5];exact Qad R5 t (fun h=>h (by rw [hG1];exact Or.inr (Or.inr rfl)))
 have HX1:Hid (MS w0 G1 w1 m L):=X1
 have HBL:Hid (∀e∈L,e.hs.length≤B):=hB
 have HON:Hid ((⟨na,nb⟩:PX).Ok):=okn
 clear X X1 TW hB okn oks cb HV hB2 R4 R5 hG1 HSC
 go_enter Tryz.func29,Tryz.ntmps29
 go_upto_region 1 with fail
 rw [←hw1,←hb5,←hb4]
 clear hw1 hb4 hb5
 have R4:=HR.out.1.out w1 (Touch.refl _ _)
 have R5:=HR.out.2.out w1 (Touch.refl _ _)
 have n0:w1.cell? ⟨b4,0,none⟩=some (.bool true):=R4.cell 0
 have n2:w1.cell? ⟨b4,2,none⟩=some (.int .u32 na):=R4.cell 2
 have n3:w1.cell? ⟨b4,3,none⟩=some (.int .u8 nb):=R4.cell 3
 have n6:w1.cell? ⟨b4,6,none⟩=some (.slice (some ⟨sg,0,none⟩) S.length sc):=R4.cell 6
 have q1:w1.cell? ⟨b5,1,none⟩=some (.int .u32 c):=R5.cell 1
 have q2:w1.cell? ⟨b5,2,none⟩=some (.slice ha hn hc):=R5.cell 2
 have lq:=Qaa q1
 have ln:=Qaa n0
 clear R4 R5
 have HB1:Hid (∀e∈metW L (if (true:Bool)=true then [⟨⟨na,nb⟩,c,(.slice ha hn hc,hk)⟩] else []),e.hs.length≤B+1):=fun e he=>by
  have h1:=Qcr HBL.out _ e he
  have h2:(if (true:Bool)=true then [(⟨⟨na,nb⟩,c,(.slice ha hn hc,hk)⟩:CW)] else []).length≤1:=by split <;> simp
  omega
 have HF2:Hid (∀wr l,MS w0 G1 wr m (metW (metW L (if (true:Bool)=true then [⟨⟨na,nb⟩,c,(.slice ha hn hc,hk)⟩] else [])) l)→Touch (fun k=>¬G1 k) w1 wr→ReaP w0 G w m (metW L ((if (true:Bool)=true then [⟨⟨na,nb⟩,c,(.slice ha hn hc,hk)⟩] else [])++l)) (.returned (.tuple #[])) wr):=fun wr l ms t=>by
  rw [Qck]
  exact HFIN.out wr _ ms t
 have HLL:Hid ((if (true:Bool)=true then [(⟨⟨na,nb⟩,c,(.slice ha hn hc,hk)⟩:CW)] else [])=[⟨⟨na,nb⟩,c,(.slice ha hn hc,hk)⟩]):=rfl
 generalize (if (true:Bool)=true then [(⟨⟨na,nb⟩,c,(.slice ha hn hc,hk)⟩:CW)] else [])=l1 at *
 obtain⟨n,hnn⟩:∃n,n=S.length:=⟨_,rfl⟩
 have HN:Hid (n=S.length):=hnn
 rw [←hnn] at n6
 clear HFIN
 have HAD:=Qeo w0 w1 G1 m L HX1.out ⟨na,nb⟩ HON.out c HCB.out.1 (.slice ha hn hc) hk ⟨_,_,by rw [HHV.out]⟩ (fun e he=>by have:=HBL.out e he;have:=HB2.out;omega)
 unfold PX.v at HAD
 go_wp2_with (first|refine HAD.mono ?_;rintro e w2 ⟨rfl,ms2,t2⟩;have HM2:Hid (MS w0 G1 w2 m (metW L l1)):=(by rw [HLL.out];exact ms2);have HT2:Hid (Touch (fun k=>¬G1 k) w1 w2):=t2;have m6:w2.cell? ⟨b4,6,none⟩=some (.slice (some ⟨sg,0,none⟩) n sc):=(by have:=(HR.out.1.out w2 t2).cell 6;rw [hnn];exact this);have lm:=Qaa m6;clear ms2 t2 HAD n0 n2 n3 n6 q1 q2 lq ln)
 have HMC:=HM2
 have HTC:=HT2
 generalize metW L l1=L1 at *
 clear HX1 HBL HON HM2 HT2
 clear m6 lm
 go_loopw [21] (fun i wr=>∃k:Nat,k≤n∧i=.int .i64 k∧MS w0 G1 wr m (metW L1 ((S.take k).flatMap (stubW c (.slice ha hn hc,hk))))∧Touch (fun k=>¬G1 k) w1 wr) (fun i _=>n-(intOf i).toNat)
 case atStart=>exact⟨0,Nat.zero_le _,rfl,HMC.out,HTC.out⟩
 case round =>
  as_aux_lemma =>
  clear HMC HTC
  obtain⟨k,hk',rfl,hms,htw⟩:=hrel
  by_cases hlt:k<n
  ·obtain⟨s,hs⟩:∃s,S[k]?=some s:=⟨S[k]'(by have:=HN.out;omega),by simp⟩
   obtain⟨e0,e1,e2⟩:=HS.out wr hms.t k s hs
   obtain⟨okp,sc0,sc1⟩:=HOK.out s (List.mem_of_getElem? hs)
   have hlt':(k:Int)<(n:Int):=by omega
   have hk00:(0:Int)≤(k:Int):=by omega
   have hkw:wrap64 ((k:Int)+1)=(k:Int)+1:=by have:=HB2.out;have:=HN.out;unfold wrap64;omega
   have hws:IntKind.u32.wrap (4294967295-c)=4294967295-c:=IntWalk.u32_in _ (by have:=HCB.out;omega)
   have R4:=HR.out.1.out wr htw
   have R5:=HR.out.2.out wr htw
   have q1:wr.cell? ⟨b5,1,none⟩=some (.int .u32 c):=R5.cell 1
   have q2:wr.cell? ⟨b5,2,none⟩=some (.slice ha hn hc):=R5.cell 2
   have lq:=Qaa q1
   have le:=Qaa e0
   have HST:Hid ((S.take (k+1)).flatMap (stubW c (.slice ha hn hc,hk))=(S.take k).flatMap (stubW c (.slice ha hn hc,hk))++stubW c (.slice ha hn hc,hk) s):=Qfy hs
   have HMS:Hid (MS w0 G1 wr m (metW L1 ((S.take k).flatMap (stubW c (.slice ha hn hc,hk))))):=hms
   have HTW:Hid (Touch (fun k=>¬G1 k) w1 wr):=htw
   have HLB:Hid (∀e∈metW L1 ((S.take k).flatMap (stubW c (.slice ha hn hc,hk))),e.hs.length≤1000000):=fun e he=>by
    have h1:=Qcr HB1.out _ e he
    have h2:=Qco (stubW c (.slice ha hn hc,hk)) (Qe9 c _) (S.take k)
    have h3:=HB2.out
    rw [List.length_take] at h2
    have:=HN.out
    omega
   have TA:Touch (fun _=>False) wr (wr.alloc (.cells #[.int .u32 s.addr,.int .u8 s.bits,.int .u32 s.cost] 157)):=(Touch.refl _ _).alloc _
   obtain⟨sa1,sb1,sc⟩:=s
   simp only at e0 e1 e2 okp sc0 sc1
   by_cases hD:sc≤4294967295-c
   ·have hwa:IntKind.u32.wrap (c+sc)=c+sc:=IntWalk.u32_in _ (by have:=HCB.out;omega)
    have HAD:=Qeo w0 (wr.alloc (.cells #[.int .u32 sa1,.int .u8 sb1,.int .u32 sc] 157)) G1 m _ (HMS.out.keep TA) ⟨sa1,sb1⟩ okp (c+sc) (by have:=HCB.out;omega) (.slice ha hn hc) hk ⟨_,_,by rw [HHV.out]⟩ HLB.out
    have HSW:Hid (stubW c (.slice ha hn hc,hk) ⟨sa1,sb1,sc⟩=[⟨⟨sa1,sb1⟩,c+sc,(.slice ha hn hc,hk)⟩]):=if_pos hD
    unfold PX.v at HAD
    have HTA:Hid _:=TA
    clear R4 R5 TA hs okp hms htw
    go_wp2_with (first|refine HAD.mono ?_;rintro e w2 ⟨rfl,ms2,t2⟩)
    have HM2:Hid _:=ms2
    have HT2:Hid _:=t2
    clear ms2 t2 HAD
    go_wp2_with fail
    go_roundw
    case rel=>exact⟨k+1,by have:=HN.out;omega,by go_num,by rw [HST.out,Qck,HSW.out];exact HM2.out,HTW.out.trans ((HTA.out.mono (fun _ _ h=>h.elim)).trans HT2.out)⟩
    case measure=>exact Qa5 hlt hkw
   ·have HSW:Hid (stubW c (.slice ha hn hc,hk) ⟨sa1,sb1,sc⟩=[]):=if_neg hD
    have HTA:Hid _:=TA
    clear R4 R5 TA hs okp hms htw
    go_wp2_with fail
    go_roundw
    case rel=>exact⟨k+1,by have:=HN.out;omega,by go_num,by rw [HST.out,HSW.out,List.append_nil];exact HMS.out.keep HTA.out,HTW.out.trans (HTA.out.mono (fun _ _ h=>h.elim))⟩
    case measure=>exact Qa5 hlt hkw
  ·have hlt':¬(k:Int)<(n:Int):=by omega
   have hk2:k=S.length:=by have:=HN.out;omega
   have hft:S.take k=S:=by rw [hk2,List.take_length]
   rw [hft] at hms
   have HFF:=HF2.out wr _ hms htw
   rw [HLL.out] at HFF
   simp only [List.cons_append,List.nil_append] at HFF
   clear hft hk2 hms htw
   go_wp2_with fail
   exact bodyPost_end (results_none rfl _ _ _) rfl HFF
theorem Qmv (w0 w:World) (G:Nat→Prop) (m:Nat) (L:List ME) (X:MS w0 G w m L) (d:ND) (is:Bool) (c:Int) (hv:Value) (hk:List HK) (cb:0≤c∧c≤4294967295) (HV:∃a c,hv=.slice a hk.length c) (ok:d.Ok 0 w0) (okp:d.n.OkP) (B:Nat) (hB:∀e∈L,e.hs.length≤B) (hB2:B+1+d.n.stubs.length≤1000000) :
  Calls Tryz.prog 29 #[.map (some m),.agg #[.bool d.n.net,.int .u32 d.n.id,.int .u32 d.n.addr,.int .u8 d.n.bits,.int .u8 d.n.flags,d.ve,d.vs],.agg #[.bool is,.int .u32 c,hv]] w (ReaP w0 G w m (metW L (waysN d.n c (hv,hk)))):=by
 obtain⟨⟨nn,ni,na,nb,nf,es,S⟩,ve,vs⟩:=d
 obtain⟨o1,o2⟩:=ok
 obtain⟨p1,p2⟩:=okp
 simp only at o1 o2 p1 p2 hB2 ⊢
 obtain⟨ea,ec,rfl⟩:=Qah o1
 obtain⟨ha,hc,rfl⟩:=HV
 by_cases h0:S.length=0
 ·obtain⟨sa,sc,rfl⟩:=Qah o2
  cases nn
  ·exact Qjb w0 w G m L X ni na nb nf ea _ ec sa S sc is c ha _ hc hk cb rfl p1 p2 B hB hB2 h0
  ·exact Qim w0 w G m L X ni na nb nf ea _ ec sa S sc is c ha _ hc hk cb rfl p1 p2 B hB hB2 h0
 ·rcases o2.2 with⟨-,h1⟩|⟨g,cap,cur,rfl,-,hh,h1,h2,h3,h4⟩
  ·exact (h0 h1).elim
  ·have HSC:∀w',Touch (fun _=>False) w0 w'→∀k s,S[k]?=some s→w'.cell? ⟨g,k*3,none⟩=some (.int .u32 s.addr)∧w'.cell? ⟨g,k*3+1,none⟩=some (.int .u8 s.bits)∧w'.cell? ⟨g,k*3+2,none⟩=some (.int .u32 s.cost):=by
    intro w' t k s hs
    have key:∀i u,i<3→s.cells[i]?=some u→w'.cell? ⟨g,k*3+i,none⟩=some u:=fun i u hi hu=>by
     have R:Row w0 g 157 cur.toList:=hh
     refine t.cellN ((R.cell _).trans ?_)
     have e:=Qsg S k i s hs hi
     rw [←h4,List.getElem?_take] at e
     have hk:=(List.getElem?_eq_some_iff.1 hs).1
     rw [if_pos (by omega)] at e
     rw [e]
     exact hu
    exact⟨key 0 _ (by omega) rfl,key 1 _ (by omega) rfl,key 2 _ (by omega) rfl⟩
   cases nn
   ·exact Qiy w0 w G m L X ni na nb nf ea _ ec _ S cap is c ha _ hc hk cb rfl p1 p2 B hB hB2 g rfl HSC
   ·exact Qjm w0 w G m L X ni na nb nf ea _ ec _ S cap is c ha _ hc hk cb rfl p1 p2 B hB hB2 g rfl HSC
end Go.Proofs.YtddbffoiadmffaaGreat
