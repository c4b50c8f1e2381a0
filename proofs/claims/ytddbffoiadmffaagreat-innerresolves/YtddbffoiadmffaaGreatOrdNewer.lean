import Derived.Test.YtddbffoiadmffaaGreatStChkAny
import Derived.Test.YtddbffoiadmffaaGreatStRRtr
import Derived.Deep.RegionHeld2
import Derived.Deep.RegionHeld3
import Derived.Deep.MidRow
import Derived.Deep.DeepCutAuto
import Derived.Deep.LoopGhost
namespace Go.Proofs.YtddbffoiadmffaaGreat
set_option maxHeartbeats 8000000
open Go.RowKit
set_option linter.unusedVariables false
set_option maxRecDepth 100000
structure TypeRd (t:Int) (G1 G2:Nat):Prop where
 p:∀w,Calls Tryz.prog 144 #[.int .u8 t] w fun e w'=>e=.returned (.agg #[.func (.func G1) #[] #[],.func (.func G2) #[] #[]])∧Touch (fun _=>False) w w'
 r:∀(v:Value) (rs:List Int) (w:World),ArgAt w v rs→(∀z∈rs,0≤z∧z<256)→rs.length<65536→Calls Tryz.prog 145 #[.agg #[.func (.func G1) #[] #[],.func (.func G2) #[] #[]],v] w (RdAns t rs w)
theorem Qgi {t:Int} (h0:0≤t) (h:knownB t=false):t=0∨t=6∨t=8∨12≤t:=by
 simp [knownB] at h
 omega
theorem Qr8:TypeRd 1 206 207 :=
 ⟨Qq9,fun v rs w hv hby hl=>Qsh _ _ (fun _ _=>rfl) 1 v rs w hv hby (by omega) (fun N b w h hN=>Qrt N b rs w h hN (by omega))⟩
def RdOk (t:Int):Prop:=knownB t=true→∃G1 G2,TypeRd t G1 G2
theorem Qs0:RdOk 1:=fun _=>⟨_,_,Qr8⟩
theorem typeNone {t:Int} (h0:0≤t) (h1:t<256) (h:knownB t=false) (w:World):Calls Tryz.prog 144 #[.int .u8 t] w fun e w'=>e=.panicked (flawC 21)∧Touch (fun _=>False) w w':=by
 rcases Qgi h0 h with rfl|rfl|rfl|h
 ·exact Qr3 w
 ·exact Qq8 w
 ·exact Qr9 w
 ·exact Qjg t h h1 w
theorem Qhq (h:HV) (ok:h.All) (hr:RdOk h.typ) (v:Value) (rs:List Int) (w:World) (B:BV) (hv:ArgAt w v rs) (hby:∀z∈rs,0≤z∧z<256) (hlen:h.len=20+(rs.length:Int)) (hk:knownB h.typ=true) (hB:decB h.typ rs=some B) :
  Calls Tryz.prog 147 #[h.sv v] w fun e w'=>∃vl vr vd,e=.returned (.tuple #[B.v vl vr vd,.int .i64 0])∧BOwn w.heap.size w' B vl vr vd∧Touch (fun _=>False) w w':=by
 obtain⟨G1,G2,T⟩:=hr hk
 obtain⟨a,c,rfl,hm⟩:=hv.form
 have hl:=ok.l
 exact Qk7 h a rs.length c rs w B hB (fun w' t S=>Qps w.heap.size h a rs.length c G1 G2 rs w' S ok.l (by omega) hlen T.p (fun w'' t'=>T.r _ rs w'' ((hv.keepN t).keepN t') hby (by omega)))
def chkE (h:HV) (rs:List Int):Int :=
 if h.len≠20+(rs.length:Int) then 22 else if h.sum=0∨whole ((headB h++rs).drop 2)=false then 23 else if knownB h.typ=false then 21
 else if h.seq = -2147483648∨¬bits BinOp.andNot .u16 h.age 32768≤3600 then 24 else if decB h.typ rs=none then 28 else 0
theorem Ql2 (h:HV) (ok:h.All) (hr:RdOk h.typ) (v:Value) (rs:List Int) (w:World) (hv:ArgAt w v rs) (hby:∀z∈rs,0≤z∧z<256) (hn:rs.length≤1000000) :
  Calls Tryz.prog 103 #[h.sv v] w fun e w'=>e=.returned (.int .i64 (chkE h rs))∧Touch (fun _=>False) w w':=by
 obtain⟨a,c,rfl,hm⟩:=hv.form
 have hl:=ok.l
 by_cases h1:h.len=20+(rs.length:Int)
 ·by_cases h2:h.sum=0
  ·have e:chkE h rs=23:=by simp [chkE,h1,h2]
   rw [e]
   exact Qch h a rs.length c 23 w (fun w' t S=>Qm2 w.heap.size h ok _ rs w' S (hv.keepN t) hby hn h1 h2)
  ·cases h3:whole ((headB h++rs).drop 2) with
   | false =>
    have e:chkE h rs=23:=by simp [chkE,h1,h3]
    rw [e]
    exact Qch h a rs.length c 23 w (fun w' t S=>Ql4 w.heap.size h ok _ rs w' S (hv.keepN t) hby hn h1 h2 h3)
   | true =>
    cases hk:knownB h.typ with
    | false =>
     have e:chkE h rs=21:=by simp [chkE,h1,h2,h3,hk]
     rw [e]
     exact Qch h a rs.length c 21 w (fun w' t S=>Qqz w.heap.size h ok _ rs w' S (hv.keepN t) hby hn h1 h2 h3 (fun w=>typeNone ok.t.1 ok.t.2 hk w))
    | true =>
     obtain⟨G1,G2,T⟩:=hr hk
     by_cases h4:h.seq = -2147483648
     ·have e:chkE h rs=24:=by simp [chkE,h1,h2,h3,hk,h4]
      rw [e]
      exact Qch h a rs.length c 24 w (fun w' t S=>Qqp w.heap.size h ok _ rs G1 G2 w' S (hv.keepN t) hby hn h1 h2 h3 h4 T.p)
     ·by_cases h5:bits BinOp.andNot .u16 h.age 32768≤3600
      ·have HA:∀w',Touch (fun _=>False) w w'→Sd w' w.heap.size h (.slice a rs.length c)→Calls Tryz.prog 139 #[.pointer (some ⟨w.heap.size,0,none⟩)] w' (RdAns h.typ rs w'):=fun w' t S=>Qqw w.heap.size h ok _ rs G1 G2 w' S (hv.keepN t) hby hn h1 h2 h3 h4 h5 T.p (fun w'' t'=>T.r _ rs w'' ((hv.keepN t).keepN t') hby (by omega))
       cases hd:decB h.typ rs with
       | some B =>
        have e:chkE h rs=0:=by simp [chkE,h1,h2,h3,hk,h4,h5,hd]
        rw [e]
        exact Qo4 h a rs.length c rs w B hd HA
       | none =>
        have e:chkE h rs=28:=by simp [chkE,h1,h2,h3,hk,h4,h5,hd]
        rw [e]
        refine Qch h a rs.length c 28 w (fun w' t S=>(HA w' t S).mono ?_)
        rintro e w'' (⟨B,vl,vr,vd,rfl,hd',-⟩|⟨rfl,-,t'⟩)
        ·rw [hd] at hd'
         cases hd'
        ·exact⟨rfl,t'⟩
      ·have e:chkE h rs=24:=by simp [chkE,h1,h2,h3,hk,h4,h5]
       rw [e]
       exact Qch h a rs.length c 24 w (fun w' t S=>Qri w.heap.size h ok _ rs G1 G2 w' S (hv.keepN t) hby hn h1 h2 h3 h4 h5 T.p)
 ·have e:chkE h rs=22:=by simp [chkE,h1]
  rw [e]
  exact Qch h a rs.length c 22 w (fun w' t S=>Qsf w.heap.size h ok _ rs w' S (hv.keepN t) hby hn h1)
structure SE where
 h:HV
 v:Value
 rs:List Int
def SE.cells (x:SE):List Value:=[.int .u16 x.h.age,.int .u8 x.h.opts,.int .u8 x.h.typ,.int .u32 x.h.id,.int .u32 x.h.adv,.int .i32 x.h.seq,.int .u16 x.h.sum,.int .u16 x.h.len,x.v]
def statesC (l:List SE):List Value:=l.flatMap SE.cells
theorem Ql9 (l:List SE) (j i:Nat) (x:SE) (hj:l[j]?=some x) (hi:i<9):(statesC l)[j*9+i]?=x.cells[i]?:=by
 induction l generalizing j with
 | nil=>simp at hj
 | cons y r ih =>
  have e:statesC (y::r)=y.cells++statesC r:=by simp [statesC]
  have hl:y.cells.length=9:=rfl
  rw [e]
  cases j with
  | zero =>
   obtain rfl:y=x:=by simpa using hj
   rw [List.getElem?_append_left (by omega),Nat.zero_mul,Nat.zero_add]
  | succ j =>
   rw [List.getElem?_append_right (by omega),hl,show (j+1)*9+i-9=j*9+i by omega]
   exact ih j (by simpa using hj)
structure SE.Ok (w:World) (x:SE):Prop where
 all:x.h.All
 arg:ArgAt w x.v x.rs
 byte:∀z∈x.rs,0≤z∧z<256
structure StatesAt (w:World) (v:Value) (l:List SE):Prop where
 vals:ValsAt w 9 v l.length (statesC l)
 ok:∀x∈l,x.Ok w
theorem SE.Ok.keep {w w':World} {x:SE} (h:x.Ok w) (t:Touch (fun _=>False) w w'):x.Ok w':=⟨h.all,h.arg.keepN t,h.byte⟩
theorem StatesAt.keep {w w':World} {v:Value} {l:List SE} (h:StatesAt w v l) (t:Touch (fun _=>False) w w'):StatesAt w' v l:=⟨h.vals.keep t,fun x hx=>(h.ok x hx).keep t⟩
theorem StatesAt.one {w:World} {v:Value} {l:List SE} (h:StatesAt w v l) {j:Nat} {x:SE} (hj:l[j]?=some x):x.Ok w∧∃g off c,v=.slice (some ⟨g,off,none⟩) l.length c∧∀i u,x.cells[i]?=some u→w.cell? ⟨g,off+(j*9+i),none⟩=some u:=by
 have hlt:=(List.getElem?_eq_some_iff.mp hj).1
 obtain⟨g,off,c,e,_,_,hc⟩:=h.vals.cells (by omega) (by omega)
 refine⟨h.ok x (List.mem_of_getElem? hj),g,off,c,e,fun i u hu=>hc _ _ ?_⟩
 have hi:i<9:=(List.getElem?_eq_some_iff.mp hu).1
 rw [Ql9 l j i x hj hi]
 exact hu
structure EV where
 dst:Nat
 cost:Int
 data:Int
 virt:Bool
structure CV where
 e:EV
 kind:Int
structure TV where
 addr:Int
 bits:Int
 cost:Int
structure NV where
 net:Bool
 id:Int
 addr:Int
 bits:Int
 flags:Int
 edges:List EV
 stubs:List TV
structure SV where
 h:HV
 b:BV
def HV.pl (h:HV):Bool×Int:=(h.typ==2,h.id)
def SV.pl (x:SV):Bool×Int:=x.h.pl
def atP (P:List SV) (p:Bool×Int):Option Nat:=P.findIdx? (fun x=>x.pl==p)
def clm (P:List SV) (x:SV) (p:Bool×Int) (c:CV):List CV :=
 match atP P p with
 | some i=>if p=x.pl then [] else [⟨{ c.e with dst:=i },c.kind⟩]
 | none=>[]
def lnk (k:LV):CV:=⟨⟨0,k.cost,k.data,k.typ==4⟩,k.typ⟩
def rtr:CV:=⟨⟨0,0,0,false⟩,2⟩
def clmL (P:List SV) (x:SV) (k:LV):List CV :=
 if k.typ=1∨k.typ=4 then clm P x (false,k.id) (lnk k) else if k.typ=2 then clm P x (true,k.id) (lnk k) else []
def clms (P:List SV) (x:SV):List CV:=x.b.links.flatMap (clmL P x)++x.b.routers.flatMap (fun r=>clm P x (false,r) rtr)
def backB (P:List SV) (i:Nat) (c:CV):Bool :=
 match P[c.e.dst]? with
 | some y=>(clms P y).any (fun d=>d.e.dst==i&&d.kind==c.kind)
 | none=>false
def edgs (P:List SV) (i:Nat) (x:SV):List EV:=((clms P x).filter (backB P i)).map (·.e)
def stubL (k:LV):List TV:=if k.typ=3∧pbok k.data=true then [⟨pcut k.id (pbn k.data),pbn k.data,k.cost⟩] else []
def stubs (x:SV):List TV:=x.b.links.flatMap stubL
def netA (x:SV):Int:=if x.h.typ=2 then pcut x.h.id (pbn x.b.mask) else 0
def netB (x:SV):Int:=if x.h.typ=2 then pbn x.b.mask else 0
def nodeV (x:SV):NV:=⟨x.h.typ==2,x.h.id,netA x,netB x,x.b.flags,[],stubs x⟩
def nodeE (P:List SV) (i:Nat) (x:SV):NV:={ nodeV x with edges:=edgs P i x }
def grB (P:List SV):List NV:=P.mapIdx (nodeE P)
def cntB (h:HV) (rs:List Int):Bool:=decide ((h.typ=1∨h.typ=2)∧h.age%32768<3600∧(h.typ=1→h.id=h.adv∧h.id≠0)∧chkE h rs=0)
def plAt (l:List SE) (p:Bool×Int):Option Nat:=l.findIdx? (fun y=>y.h.pl==p)
def putS (l:List SE) (x:SE):List SE :=
 if cntB x.h x.rs then
  match plAt l x.h.pl with
  | some j=>if (l[j]?.any (fun y=>decide (y.h.adv<x.h.adv))) then l.set j x else l
  | none=>l++[x]
 else l
def bests (l:List SE):List SE:=l.foldl putS []
def SE.sv (s:SE):SV:=⟨s.h,(decB s.h.typ s.rs).getD BV.zero⟩
def SV.lt (x y:SV):Prop:=x.h.typ<y.h.typ∨x.h.typ=y.h.typ∧x.h.id<y.h.id
structure IsN (l:List SE) (P:List SV):Prop where
 perm:P.Perm ((bests l).map SE.sv)
 sort:P.Pairwise SV.lt
theorem Qih {h:HV} {rs:List Int} (hc:chkE h rs=0):∃b,decB h.typ rs=some b∧h.len=20+(rs.length:Int)∧knownB h.typ=true:=by
 unfold chkE at hc
 split at hc
 ·omega
 ·rename_i h1
  split at hc
  ·omega
  ·split at hc
   ·omega
   ·rename_i h3
    split at hc
    ·omega
    ·split at hc
     ·omega
     ·rename_i h5
      refine⟨(decB h.typ rs).get (by cases e:decB h.typ rs <;> simp_all),by simp,by omega,by simpa using h3⟩
theorem Qk6 (l:List SE) (x:SE):bests (l++[x])=putS (bests l) x:=by simp [bests]
theorem Qff {l:List SE} {p:Bool×Int} {j:Nat} (h:plAt l p=some j):∃y,l[j]?=some y∧y.h.pl=p∧j<l.length:=by
 unfold plAt at h
 rw [List.findIdx?_eq_some_iff_getElem] at h
 obtain⟨h1,h2,-⟩:=h
 exact⟨l[j],by simp [h1],by simpa using h2,h1⟩
theorem Qfc {l:List SE} {p:Bool×Int} (h:plAt l p=none):∀y∈l,y.h.pl≠p:=by
 unfold plAt at h
 rw [List.findIdx?_eq_none_iff] at h
 intro y hy e
 have:=h y hy
 simp [e] at this
structure AllS (Q:SE→Prop) (l:List SE):Prop where
 all:∀y∈l,Q y∧cntB y.h y.rs=true
 nd:(l.map (fun y=>y.h.pl)).Nodup
theorem Qqi {Q:SE→Prop} {l:List SE} (h:AllS Q l) {x:SE} (hx:Q x):AllS Q (putS l x):=by
 obtain⟨ih1,ih2⟩:=h
 unfold putS
 by_cases hc:cntB x.h x.rs=true
 ·rw [if_pos hc]
  cases hp:plAt l x.h.pl with
  | none =>
   refine⟨fun y hy=>?_,?_⟩
   ·rcases List.mem_append.1 hy with h|h
    ·exact ih1 y h
    ·obtain rfl:y=x:=by simpa using h
     exact⟨hx,hc⟩
   ·rw [List.map_append,List.nodup_append]
    refine⟨ih2,by simp,fun a ha b hb=>?_⟩
    obtain⟨y,hy,rfl⟩:=List.mem_map.1 ha
    obtain rfl:b=x.h.pl:=by simpa using hb
    exact Qfc hp y hy
  | some j =>
   obtain⟨y,hy,hpl,hj⟩:=Qff hp
   dsimp only
   split
   ·refine⟨fun z hz=>?_,?_⟩
    ·rcases List.mem_or_eq_of_mem_set hz with h|rfl
     ·exact ih1 z h
     ·exact⟨hx,hc⟩
    ·rw [List.map_set,←hpl]
     have e:(l.map (fun y=>y.h.pl)).set j y.h.pl=l.map (fun y=>y.h.pl):=by
      apply List.ext_getElem?
      intro i
      rw [List.getElem?_set]
      split
      ·rename_i hij
       subst hij
       rw [List.getElem?_map,hy]
       simp [hj]
      ·rfl
     rw [e]
     exact ih2
   ·exact⟨ih1,ih2⟩
 ·rw [if_neg hc]
  exact⟨ih1,ih2⟩
theorem Qjt {Q:SE→Prop}:∀(l acc:List SE),AllS Q acc→(∀x∈l,Q x)→AllS Q (l.foldl putS acc)
 | [],acc,h,_=>h
 | x::l,acc,h,hq=>Qjt l (putS acc x) (Qqi h (hq x (by simp))) (fun y hy=>hq y (by simp [hy]))
theorem Qdg (l:List SE):AllS (fun y=>y∈l) (bests l):=Qjt l [] ⟨by simp,by simp⟩ (fun x hx=>hx)
theorem Qr4 (l:List SE) (x:SE):(putS l x).length≤l.length+1:=by
 unfold putS
 split
 ·split
  ·split <;> simp
  ·simp
 ·omega
theorem Qka:∀(l acc:List SE),(l.foldl putS acc).length≤acc.length+l.length
 | [],acc=>by simp
 | x::l,acc=>by
  have h1:=Qka l (putS acc x)
  have h2:=Qr4 acc x
  rw [List.foldl_cons,List.length_cons]
  omega
theorem Qe8 (l:List SE):(bests l).length≤l.length:=by
 have:=Qka l []
 simpa [bests] using this
theorem Qdj {h:HV} {rs:List Int} (hc:cntB h rs=true):(h.typ=1∨h.typ=2)∧h.age%32768<3600∧(h.typ=1→h.id=h.adv∧h.id≠0)∧chkE h rs=0:=by
 unfold cntB at hc
 exact of_decide_eq_true hc
structure SV.Fine (x:SV):Prop where
 typ:x.h.typ=1∨x.h.typ=2
 may:May x.h.typ x.b
theorem IsN.fine {l:List SE} {P:List SV} (h:IsN l P):∀x∈P,x.Fine:=by
 intro x hx
 have hx':=h.perm.mem_iff.1 hx
 obtain⟨s,hs,rfl⟩:=List.mem_map.1 hx'
 obtain⟨h1,h2,h3,h4⟩:=Qdj ((Qdg l).all s hs).2
 obtain⟨b,hb,-,-⟩:=Qih h4
 refine⟨h1,?_⟩
 show May s.h.typ ((decB s.h.typ s.rs).getD BV.zero)
 rw [hb]
 exact (Qb2 hb).2.1
theorem SV.lt_pl {x y:SV} (hx:x.Fine) (hy:y.Fine) (h:x.lt y):x.pl≠y.pl:=by
 intro e
 simp only [SV.pl,HV.pl,Prod.mk.injEq] at e
 obtain⟨e1,e2⟩:=e
 rcases h with h|⟨-,h⟩
 ·rcases hx.typ with a|a <;> rcases hy.typ with b|b <;> simp_all
 ·omega
theorem IsN.nodup {l:List SE} {P:List SV} (h:IsN l P):(P.map SV.pl).Nodup:=by
 rw [List.Nodup,List.pairwise_map]
 exact h.sort.imp_of_mem (fun {a b} ha hb hab=>SV.lt_pl (h.fine a ha) (h.fine b hb) hab)
theorem Qkk {P:List SV} {p:Bool×Int} {j:Nat} (h:atP P p=some j):∃y,P[j]?=some y∧y.pl=p∧j<P.length:=by
 unfold atP at h
 rw [List.findIdx?_eq_some_iff_getElem] at h
 obtain⟨h1,h2,-⟩:=h
 exact⟨P[j],by simp [h1],by simpa using h2,h1⟩
theorem Qd7 {P:List SV} {x:SV} {p:Bool×Int} {c d:CV} (h:d∈clm P x p c):∃y,P[d.e.dst]?=some y∧y.pl=p∧p≠x.pl∧d.kind=c.kind∧d.e.cost=c.e.cost∧d.e.virt=c.e.virt:=by
 unfold clm at h
 split at h
 ·rename_i i hi
  split at h
  ·simp at h
  ·rename_i hne
   obtain rfl:d=⟨{ c.e with dst:=i },c.kind⟩:=by simpa using h
   obtain⟨y,h1,h2,-⟩:=Qkk hi
   exact⟨y,h1,h2,hne,rfl,rfl,rfl⟩
 ·simp at h
theorem May.links2 {b:BV} (m:May 2 b):b.links=[]:=by
 rcases m.a1 with h|⟨-,h⟩
 ·omega
 ·exact List.length_eq_zero_iff.1 h
structure ClmF (P:List SV) (x:SV) (d:CV):Prop where
 out:∃y,P[d.e.dst]?=some y∧y.pl≠x.pl∧d.e.virt=(d.kind==4)
 net:x.h.typ=2→May x.h.typ x.b→d.e.cost=0∧∃y,P[d.e.dst]?=some y∧y.pl.1=false
theorem Qqt {P:List SV} {x:SV} {d:CV} (h:d∈clms P x):ClmF P x d:=by
 unfold clms at h
 rcases List.mem_append.1 h with h|h
 ·obtain⟨k,hk,h⟩:=List.mem_flatMap.1 h
  unfold clmL at h
  have nn:x.h.typ=2→May x.h.typ x.b→False:=fun e m=>by
   rw [e] at m
   have hl:=(May.links2 m)
   rw [hl] at hk
   simp at hk
  split at h
  ·obtain⟨y,h1,h2,h3,h4,h5,h6⟩:=Qd7 h
   exact⟨⟨y,h1,h2 ▸ h3,by rw [h6,h4];rfl⟩,fun e m=>(nn e m).elim⟩
  ·split at h
   ·obtain⟨y,h1,h2,h3,h4,h5,h6⟩:=Qd7 h
    exact⟨⟨y,h1,h2 ▸ h3,by rw [h6,h4];rfl⟩,fun e m=>(nn e m).elim⟩
   ·simp at h
 ·obtain⟨r,hr,h⟩:=List.mem_flatMap.1 h
  obtain⟨y,h1,h2,h3,h4,h5,h6⟩:=Qd7 h
  exact⟨⟨y,h1,h2 ▸ h3,by rw [h6,h4];rfl⟩,fun e m=>⟨h5,y,h1,by rw [h2]⟩⟩
structure Since (x w:World):Prop where
 t:Touch (fun _=>False) x w
theorem Since.trans {x w w':World} (h:Since x w) (t:Touch (fun _=>False) w w'):Since x w':=⟨h.t.trans t⟩
theorem Since.start (x:World):Since x x.drew:=⟨(Touch.refl _ _).drew⟩
theorem Qf4 {x:World} {p:Addr} {v:Value} (h:x.cell? p=some v):∀w,Since x w→w.cell? p=some v:=fun w s=>s.t.cellN h
theorem Qad {F:Nat→Prop} {w w':World} {g:Nat} {T:TypeId} {xs:List Value} (h:Row w g T xs) (t:Touch F w w') (hg:¬F g):Row w' g T xs:=(t.block g h.lt hg).trans h
theorem Qba {w:World} {g:Nat} {T:TypeId} {xs:List Value} (h:Row w g T xs):w.rangeAt g 0 xs:=fun j v hj=>by
 rw [Nat.zero_add,h.cell j]
 exact hj
theorem Quq {w:World} {g:Nat} {T:TypeId} {pre xs ys:List Value} (h:Row w g T (pre++(xs++ys))):w.rangeAt g pre.length xs:=fun j v hj=>by
 rw [h.cell (pre.length+j),List.getElem?_append_right (by omega),Nat.add_sub_cancel_left]
 rw [List.getElem?_append_left (List.getElem?_eq_some_iff.1 hj).1]
 exact hj
theorem Qdc {w:World} {g:Nat} {T:TypeId} {xs ys:List Value} (h:Row w g T (xs++ys)):w.rangeAt g 0 xs:=Quq (pre:=[]) h
theorem Qdy {P:Program} {ops:Array Oper} {o:Oper} {a:Act} {w:World} {K:Act→World→Prop} {Q:Exit→Act→World→Prop} {E:Prop} (hgd:o.guard=none) (ty:TypeId) (x y:Operand) (ho:o.op=.store ty x y)
  (g:Nat) (cells:List Value) (hx:a.eval x=.pointer (some ⟨g,0,none⟩)) (hy:a.eval y=.agg cells.toArray) (T:TypeId) (old:List Value) (hg:Row w g T old) (hi:(P.info? ty).map (·.size)=some cells.length) (hold:old.length=cells.length) (h1:∀v∈cells,v.oneCell'=true)
  (h:K (a.put o.dst undef) (w.setRow g cells.toArray)):if Region.wanted o (yielded ops a.tmps)=true then Oper.wp P o a w K Q else E:=by
 have hw:Region.wanted o (yielded ops a.tmps)=true:=by simp [Region.wanted,hgd]
 rw [if_pos hw]
 exact wp_store_row ty x y ho g cells.toArray hx hy T old.toArray hg (by rw [hi];simp) (by simpa using hold) (Qiw h1) h
theorem Qcb {w:World} {g:Nat} {T:TypeId} {old:List Value} (h:Row w g T old) (cs:List Value):Row (w.setRow g cs.toArray) g T cs:=h.setRow cs.toArray
theorem and15 {n:Int} (h0:0≤n) (h:n<65536):bits .andNot .u16 n 32768=n%32768:=by
 rw [u16_andNot n _ h0 h (by omega) (by omega),show 65535-(32768:Int).toNat=2 ^ 15-1 from rfl,Nat.and_two_pow_sub_one_eq_mod]
 omega
theorem Qel (x y:Int) (w:World):Calls Tryz.prog 115 #[.int .u8 x,.int .u8 y] w fun e w'=>e=.returned (.int .i64 (cmpI x y))∧w=w':=by
 rcases Int.lt_trichotomy x y with h|h|h
 ·have H:Hid _:=Qi6 h
  go_enter Tryz.func115,Tryz.ntmps115
  go_wp2
  go_ret
  exact⟨Qav H.out.symm,rfl⟩
 ·subst h
  have H:Hid _:=Qd1 x
  have h1:¬x<x:=by omega
  go_enter Tryz.func115,Tryz.ntmps115
  go_wp2
  go_ret
  exact⟨Qav H.out.symm,rfl⟩
 ·have H:Hid _:=Qiz h
  have h1:¬x<y:=by omega
  go_enter Tryz.func115,Tryz.ntmps115
  go_wp2
  go_ret
  exact⟨Qav H.out.symm,rfl⟩
theorem Qeq (x y:Int) (w:World):Calls Tryz.prog 89 #[.int .u32 x,.int .u32 y] w fun e w'=>e=.returned (.int .i64 (cmpI x y))∧w=w':=by
 rcases Int.lt_trichotomy x y with h|h|h
 ·have H:Hid _:=Qi6 h
  go_enter Tryz.func89,Tryz.ntmps89
  go_wp2
  go_ret
  exact⟨Qav H.out.symm,rfl⟩
 ·subst h
  have H:Hid _:=Qd1 x
  have h1:¬x<x:=by omega
  go_enter Tryz.func89,Tryz.ntmps89
  go_wp2
  go_ret
  exact⟨Qav H.out.symm,rfl⟩
 ·have H:Hid _:=Qiz h
  have h1:¬x<y:=by omega
  go_enter Tryz.func89,Tryz.ntmps89
  go_wp2
  go_ret
  exact⟨Qav H.out.symm,rfl⟩
theorem Qn1 (a:Int) (h0:0≤a) (h:a<65536) (w:World):Calls Tryz.prog 137 #[.int .u16 a] w fun e w'=>e=.returned (.int .u16 (yrs a))∧w=w':=by
 have e1:=and15 h0 h
 have e2:Hid (yrs a=if a%32768<3600 then a%32768 else 3600):=rfl
 have hb:0≤a%32768∧a%32768<32768:=by omega
 generalize yrs a=y at e2 ⊢
 generalize a%32768=m at e1 e2 hb
 obtain⟨hb0,hb1⟩:=hb
 by_cases hm:m≤3600
 ·have H:Hid (y=m):=by show _=_;have:=e2.out;split at this <;> omega
  clear e2
  go_enter Tryz.func137,Tryz.ntmps137
  go_wp2
  go_ret
  exact⟨Qav (by have:=H.out;omega),rfl⟩
 ·have H:Hid (y=3600):=by show _=_;have:=e2.out;split at this <;> omega
  clear e2
  go_enter Tryz.func137,Tryz.ntmps137
  go_wp2
  go_ret
  exact⟨Qav (by have:=H.out;omega),rfl⟩
theorem Qs8 (a:Int) (h0:0≤a) (h:a<65536) (w:World):Calls Tryz.prog 98 #[.int .u16 a] w fun e w'=>e=.returned (.bool (decide (yrs a=3600)))∧w=w':=by
 have HY:=fun w=>Qn1 a h0 h w
 generalize yrs a=y at HY ⊢
 by_cases hy:y=3600
 ·subst hy
  go_enter Tryz.func98,Tryz.ntmps98
  go_wp2_with fail
  refine (HY _).mono ?_
  rintro e w1 ⟨rfl,rfl⟩
  go_wp2
  go_ret
  exact⟨rfl,rfl⟩
 ·have H:Hid (decide (y=3600)=false):=decide_eq_false hy
  generalize decide (y=3600)=d at H ⊢
  go_enter Tryz.func98,Tryz.ntmps98
  go_wp2_with fail
  refine (HY _).mono ?_
  rintro e w1 ⟨rfl,rfl⟩
  go_wp2
  go_ret
  exact⟨Qaj (by rw [H.out];exact beq_eq_false_iff_ne.mpr hy),rfl⟩
theorem Qj0 (x:Int) (w:World):Calls Tryz.prog 224 #[.int .i64 x] w fun e w'=>e=.returned (.bool (!(x==0)))∧w=w':=by
 go_enter Tryz.func224,Tryz.ntmps224
 go_wp2
 go_ret
 exact⟨rfl,rfl⟩
theorem Qt4 (xs:List Int) (g c k:Nat) (w:World) (hx:∀j x,xs[j]?=some x→w.cell? ⟨g,j,none⟩=some (.int .i64 x)) (hk:k<xs.length) (hs:xs.length<1000)
  (hz:∀j,j<k→xs[j]?=some 0) (y:Int) (hy:xs[k]?=some y) (hy0:y≠0) :
  Calls Tryz.prog 223 #[.slice (some ⟨g,0,none⟩) xs.length c,.func (.func 224) #[] #[]] w fun e w'=>e=.returned (.int .i64 k)∧w=w':=by
 have HN:=hx
 generalize hn:xs.length=n at hk hs ⊢
 have HZ:Hid (∀j,j<k→w.cell? ⟨g,j,none⟩=some (.int .i64 0)):=fun j hj=>HN j 0 (hz j hj)
 have HY:Hid (w.cell? ⟨g,k,none⟩=some (.int .i64 y)):=HN k y hy
 have HP:∀x w,Calls Tryz.prog 224 #[.int .i64 x] w fun e w'=>e=.returned (.bool (!(x==0)))∧w=w':=Qj0
 clear HN hn hx hz hy
 go_enter Tryz.func223,Tryz.ntmps223
 go_wp2
 go_loopg [5,8] n (fun gg _ s8 wr=>∃kk:Nat,kk≤k∧n-kk≤gg∧s8=.int .i64 kk∧wr=w)
 case atStart=>exact⟨0,Nat.zero_le _,by omega,rfl,rfl⟩
 case round =>
  obtain⟨kk,hkk,hg,rfl,rfl⟩:=hrel
  have hlt:(kk:Int)<(n:Int):=by omega
  rcases Nat.lt_or_ge kk k with h|h
  ·have hc:=HZ.out kk h
   go_wp2_with (go_at_call 224;refine (HP 0 _).mono ?_;rintro e w' ⟨rfl,rfl⟩)
   go_roundg (n-(kk+1))
   case measure=>omega
   case rel=>exact⟨kk+1,by omega,by omega,by go_num,rfl⟩
  ·obtain rfl:kk=k:=by omega
   have hc:=HY.out
   have hb:(y==0)=false:=beq_eq_false_iff_ne.mpr hy0
   go_wp2_with (go_at_call 224;refine (HP y _).mono ?_;rintro e w' ⟨rfl,rfl⟩)
   go_ret
   exact⟨rfl,rfl⟩
theorem Qpl (xs:List Int) (g c:Nat) (w:World) (hx:∀j x,xs[j]?=some x→w.cell? ⟨g,j,none⟩=some (.int .i64 x)) (hs:xs.length<1000)
  (hz:∀j,j<xs.length→xs[j]?=some 0) :
  Calls Tryz.prog 223 #[.slice (some ⟨g,0,none⟩) xs.length c,.func (.func 224) #[] #[]] w fun e w'=>e=.returned (.int .i64 (-1))∧w=w':=by
 have HN:=hx
 generalize hn:xs.length=n at hs hz ⊢
 have HZ:Hid (∀j,j<n→w.cell? ⟨g,j,none⟩=some (.int .i64 0)):=fun j hj=>HN j 0 (hz j hj)
 have HP:∀x w,Calls Tryz.prog 224 #[.int .i64 x] w fun e w'=>e=.returned (.bool (!(x==0)))∧w=w':=Qj0
 clear HN hn hx hz
 go_enter Tryz.func223,Tryz.ntmps223
 go_wp2
 go_loopg [5,8] n (fun gg _ s8 wr=>∃kk:Nat,kk≤n∧n-kk≤gg∧s8=.int .i64 kk∧wr=w)
 case atStart=>exact⟨0,Nat.zero_le _,by omega,rfl,rfl⟩
 case round =>
  obtain⟨kk,hkk,hg,rfl,rfl⟩:=hrel
  rcases Nat.lt_or_ge kk n with h|h
  ·have hlt:(kk:Int)<(n:Int):=by omega
   have hc:=HZ.out kk h
   go_wp2_with (go_at_call 224;refine (HP 0 _).mono ?_;rintro e w' ⟨rfl,rfl⟩)
   go_roundg (n-(kk+1))
   case measure=>omega
   case rel=>exact⟨kk+1,by omega,by omega,by go_num,rfl⟩
  ·have hlt:¬(kk:Int)<(n:Int):=by omega
   go_wp2
   go_ret
   exact⟨rfl,rfl⟩
def firstI:List Int→Int
 | []=>0
 | x::r=>fstI x (firstI r)
theorem Qed:∀xs:List Int,(firstI xs=0∧∀j,j<xs.length→xs[j]?=some 0)∨∃k,k<xs.length∧(∀j,j<k→xs[j]?=some 0)∧xs[k]?=some (firstI xs)∧firstI xs≠0
 | []=>Or.inl ⟨rfl,fun j h=>by cases h⟩
 | x::r=>by
  by_cases hx:x=0
  ·subst hx
   have e:firstI (0::r)=firstI r:=Qok _
   rw [e]
   rcases Qed r with⟨h1,h2⟩|⟨k,h1,h2,h3,h4⟩
   ·refine Or.inl ⟨h1,fun j hj=>?_⟩
    cases j with
    | zero=>rfl
    | succ j=>exact h2 j (by simpa using hj)
   ·refine Or.inr ⟨k+1,by simpa using h1,fun j hj=>?_,h3,h4⟩
    cases j with
    | zero=>rfl
    | succ j=>exact h2 j (by omega)
  ·have e:firstI (x::r)=x:=Qjf _ hx
   rw [e]
   exact Or.inr ⟨0,by simp,fun j hj=>by omega,rfl,hx⟩
theorem Qml (xs:List Int) (g c:Nat) (w:World) (hx:∀j x,xs[j]?=some x→w.cell? ⟨g,j,none⟩=some (.int .i64 x)) (hs:xs.length<1000) :
  Calls Tryz.prog 182 #[.slice (some ⟨g,0,none⟩) xs.length c] w fun e w'=>e=.returned (.int .i64 (firstI xs))∧w=w':=by
 rcases Qed xs with⟨h1,h2⟩|⟨k,h1,h2,h3,h4⟩
 ·rw [h1]
  have HI:=Qpl xs g c w hx hs h2
  clear h1 h2 hx
  generalize xs.length=n at HI ⊢
  go_enter Tryz.func182,Tryz.ntmps182
  go_wp2_with fail
  refine HI.mono ?_
  rintro e w1 ⟨rfl,rfl⟩
  go_wp2
  go_ret
  exact⟨rfl,rfl⟩
 ·have HI:=Qt4 xs g c k w hx h1 hs h2 _ h3 h4
  have hc:=hx k _ h3
  generalize firstI xs=z at h3 h4 hc ⊢
  clear h2 h3 h4 hx
  generalize xs.length=n at HI h1 hs ⊢
  have hk:¬(k:Int)<0:=by omega
  go_enter Tryz.func182,Tryz.ntmps182
  go_wp2_with fail
  refine HI.mono ?_
  rintro e w1 ⟨rfl,rfl⟩
  go_wp2
  go_ret
  exact⟨rfl,rfl⟩
theorem Qc7 (x y u z:Int) (hz:z=fstI x (fstI y u)) (g c:Nat) (w:World) (h0:w.cell? ⟨g,0,none⟩=some (.int .i64 x)) (h1:w.cell? ⟨g,1,none⟩=some (.int .i64 y))
  (h2:w.cell? ⟨g,2,none⟩=some (.int .i64 u)) :
  Calls Tryz.prog 182 #[.slice (some ⟨g,0,none⟩) 3 c] w fun e w'=>e=.returned (.int .i64 z)∧w=w':=by
 have e:z=firstI [x,y,u]:=by
  rw [hz];show _=fstI x (fstI y (fstI u 0))
  have:fstI u 0=u:=by unfold fstI;split <;> omega
  rw [this]
 rw [e]
 refine Qml [x,y,u] g c w (fun j a hj=>?_) (by simp)
 match j,hj with
 | 0,hj=>
  obtain rfl:x=a:=by simpa using hj
  exact h0
 | 1,hj=>
  obtain rfl:y=a:=by simpa using hj
  exact h1
 | 2,hj=>
  obtain rfl:u=a:=by simpa using hj
  exact h2
end Go.Proofs.YtddbffoiadmffaaGreat
