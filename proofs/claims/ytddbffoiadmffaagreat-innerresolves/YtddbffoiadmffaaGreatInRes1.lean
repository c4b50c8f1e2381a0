import Derived.Test.YtddbffoiadmffaaGreatInPln
import Derived.Maps.Keyed
import Derived.Deep.LoopGhost
namespace Go.Proofs.YtddbffoiadmffaaGreat
open Go.RowKit
open Go.ChangeMaps (setBlock)
open Go.MapKept
set_option linter.unusedVariables false
set_option maxRecDepth 100000
structure MI (K M E:TypeId) (z:Value):Prop where
 law:Go.Maps.Keyed Tryz.prog K
 und:Tryz.prog.underlying M=some (.map K E)
 zero:∀w,(zeroValue E).run Tryz.prog w=.ok z w
theorem AM.missI {K M E:TypeId} {z:Value} (kt:MI K M E z) {w:World} {m:Nat} {l:List (Value×Value)} (h:AM w K m l) {k:Value} {q:Lit} (hk:Go.keyOf Tryz.prog K k=some q) (hn:∀p∈l,p.1≠k) :
  (Instr.lookup M (.map (some m)) k true).run Tryz.prog w=.ok (.tuple #[z,.bool false]) w:=by
 obtain⟨⟨es,c,h1,h2,-⟩,ok,nd⟩:=h
 rcases kt.law.find w hk es.toList (Qcz h2 ok) with⟨g1,-⟩|⟨j,e,g1,g2,g3⟩
 ·simp [Instr.lookup,run_underlying kt.und,MapKept.run_getObj_map h1,kt.law.check w es.isEmpty hk,g1,kt.zero w,Result.andThen]
 ·exact absurd g3 (hn _ (List.mem_of_getElem? (Qdn h2 g2)))
theorem AM.hitI {K M E:TypeId} {z:Value} (kt:MI K M E z) {w:World} {m:Nat} {l:List (Value×Value)} (h:AM w K m l) {k v:Value} {j:Nat} (hj:l[j]?=some (k,v)) :
  (Instr.lookup M (.map (some m)) k true).run Tryz.prog w=.ok (.tuple #[v,.bool true]) w:=by
 obtain⟨⟨es,c,h1,h2,-⟩,ok,nd⟩:=h
 obtain⟨q,hk⟩:∃q,Go.keyOf Tryz.prog K k=some q:=ok _ (List.mem_of_getElem? hj)
 rcases kt.law.find w hk es.toList (Qcz h2 ok) with⟨-,g2⟩|⟨i,e,g1,g2,g3⟩
 ·exfalso
  have:(k,v)∈es.toList.map (fun e=>(e.key,e.val)):=by rw [h2];exact List.mem_of_getElem? hj
  obtain⟨e,he,e1⟩:=List.mem_map.1 this
  exact g2 e he (congrArg Prod.fst e1)
 ·have g4:=Qdn h2 g2
  rw [g3] at g4
  have hij:=Qkv nd g4 hj
  subst hij
  have e2:e.val=v:=by rw [g4] at hj;injection hj with hj;exact congrArg Prod.snd hj
  have g2':es[i]?=.some e:=by simpa using g2
  simp [Instr.lookup,run_underlying kt.und,MapKept.run_getObj_map h1,kt.law.check w es.isEmpty hk,g1,Result.andThen,e2]
theorem AM.putNewI {K M E:TypeId} {z:Value} (kt:MI K M E z) {w:World} {m:Nat} {l:List (Value×Value)} (h:AM w K m l) {k:Value} {q:Lit} (v:Value) (hk:Go.keyOf Tryz.prog K k=some q) (hn:∀p∈l,p.1≠k) :
  ∃w',(Instr.mapUpdate M (.map (some m)) k v).run Tryz.prog w=.ok () w'∧AM w' K m (l++[(k,v)])∧Touch (fun k=>k=m) w w':=by
 obtain⟨⟨es,n,h1,h2,h3,h4⟩,ok,nd⟩:=h
 rcases kt.law.find w hk es.toList (Qcz h2 ok) with⟨g1,-⟩|⟨j,e,g1,g2,g3⟩
 ·refine⟨setBlock w m (.map (es.push ⟨k,v,n⟩) (n+1)),?_,⟨⟨_,_,Qh3 h1,?_,?_,?_⟩,?_,?_⟩,Qdq h1⟩
  ·simp [Instr.mapUpdate,run_underlying kt.und,MapKept.run_getObj_map h1,kt.law.check w false hk,g1,MapKept.run_setObj_map _ h1,Result.andThen,setBlock]
  ·simp [h2]
  ·rw [Array.toList_push,List.map_append,List.nodup_append]
   refine⟨h3,by simp,fun a ha b hb=>?_⟩
   obtain⟨e,he,rfl⟩:=List.mem_map.1 ha
   obtain rfl:b=n:=by simpa using hb
   have:=h4 e he
   omega
  ·intro e he
   rw [Array.toList_push] at he
   rcases List.mem_append.1 he with he|he
   ·have:=h4 e he;omega
   ·obtain rfl:e=⟨k,v,n⟩:=by simpa using he
    exact Nat.lt_succ_self _
  ·intro p hp
   rcases List.mem_append.1 hp with hp|hp
   ·exact ok p hp
   ·obtain rfl:p=(k,v):=by simpa using hp
    exact⟨q,hk⟩
  ·rw [List.map_append,List.nodup_append]
   refine⟨nd,by simp,fun a ha b hb=>?_⟩
   obtain⟨p,hp,rfl⟩:=List.mem_map.1 ha
   obtain rfl:b=k:=by simpa using hb
   exact hn p hp
 ·exact absurd g3 (hn _ (List.mem_of_getElem? (Qdn h2 g2)))
theorem kindV:MI 23 96 3 (.int .i64 0):=⟨Go.Maps.int_keyed Tryz.underlying23,Tryz.underlying96,fun _=>rfl⟩
theorem Qop (r:Int) (h:0≤r∧r≤4294967295):∃l,Go.keyOf Tryz.prog 23 (.int .u32 r)=some l:=by
 have h1:(Lit.int .u32 r).wf=true:=by simp [Lit.wf,IntKind.min,IntKind.max,IntKind.bits,IntKind.signed];omega
 exact⟨_,Go.Maps.keyOf_int_mk Tryz.underlying23 h1⟩
def fK (T:List WP):Nat→List (Int×Nat)
 | 0=>[]
 | k+1=>match T[k]? with
  | some x=>if (fK T k).any (fun p=>p.1==x.router) then fK T k else fK T k++[(x.router,k)]
  | none=>fK T k
def fV (p:Int×Nat):Value×Value:=(.int .u32 p.1,.int .i64 (p.2:Int))
def firstT (T:List WP) (r:Int):Option Nat:=((fK T T.length).find? (fun p=>p.1==r)).map Prod.snd
theorem Qic {T:List WP}:∀{k:Nat} {p:Int×Nat},p∈fK T k→p.2<k∧∃x,T[p.2]?=some x∧x.router=p.1
 | 0,p,h=>by cases h
 | k+1,p,h=>by
  unfold fK at h
  cases hk:T[k]? with
  | none =>
   rw [hk] at h
   obtain⟨h1,h2⟩:=Qic h
   exact⟨by omega,h2⟩
  | some x =>
   rw [hk] at h
   simp only at h
   split at h
   ·obtain⟨h1,h2⟩:=Qic h
    exact⟨by omega,h2⟩
   ·rcases List.mem_append.1 h with h|h
    ·obtain⟨h1,h2⟩:=Qic h
     exact⟨by omega,h2⟩
    ·obtain rfl:p=(x.router,k):=by simpa using h
     exact⟨Nat.lt_succ_self _,x,hk,rfl⟩
theorem Qnx {T:List WP} {k:Nat} {x:WP} (hk:T[k]?=some x) (h:(fK T k).any (fun p=>p.1==x.router)=false):fK T (k+1)=fK T k++[(x.router,k)]:=by
 rw [fK,hk]
 simp only
 rw [h]
 rfl
theorem Qo8 {T:List WP} {k:Nat} {x:WP} (hk:T[k]?=some x) (h:(fK T k).any (fun p=>p.1==x.router)=true):fK T (k+1)=fK T k:=by
 rw [fK,hk]
 simp only
 rw [h]
 rfl
theorem Qsv {L:List (Int×Nat)} {r:Int} (h:L.any (fun p=>p.1==r)=false):∀p∈L.map fV,p.1≠.int .u32 r:=by
 intro p hp e
 obtain⟨q,hq,rfl⟩:=List.mem_map.1 hp
 have h2:=List.any_eq_false.1 h q hq
 unfold fV at e
 simp only [Value.int.injEq,true_and] at e
 exact h2 (by rw [beq_iff_eq];exact e)
theorem Qmt (L:List (Int×Nat)) (r:Int):(∃(j i:Nat),L[j]?=some (r,i)∧(L.find? (fun p=>p.1==r)).map Prod.snd=some i)∨(L.any (fun p=>p.1==r)=false∧(L.find? (fun p=>p.1==r)).map Prod.snd=none):=by
 cases h:L.find? (fun p=>p.1==r) with
 | none =>
  refine Or.inr ⟨List.any_eq_false.2 (fun p hp e=>?_),rfl⟩
  exact List.find?_eq_none.1 h p hp e
 | some p =>
  have h1:=List.find?_some h
  obtain⟨j,hj⟩:=List.mem_iff_getElem?.1 (List.mem_of_find?_eq_some h)
  obtain⟨a,i⟩:=p
  have e:a=r:=by simpa using h1
  subst e
  exact Or.inl ⟨j,i,hj,rfl⟩
def viaH (T:List WP) (h:HK):List (List HK) :=
 if h.vr=true then (match firstT T h.via with|some i=>(match T[i]? with|some x=>[plainL x.hs]|none=>[])|none=>[]) else []
def trsH (T:List WP) (hs:List HK):List (List HK):=hs.flatMap (viaH T)
def resL (T:List WP) (hs:List HK):List (List HK):=plainL hs::trsH T hs
def resH (T:List WP) (hs:List HK):List HK:=(resL T hs).flatten.foldr pt []
def resW (T:List WP) (x:WP):Option WP:=if x.hs=[]∨resH T x.hs≠[] then some { x with hs:=resH T x.hs } else none
theorem Qny {T:List WP} {hs:List HK} {k:Nat} {h:HK} (hk:hs[k]?=some h):trsH T (hs.take (k+1))=trsH T (hs.take k)++viaH T h:=by
 unfold trsH
 rw [List.take_add_one,hk,List.flatMap_append]
 simp
theorem Qrv (T:List WP) (h:HK):(viaH T h).length≤1:=by
 unfold viaH
 split
 ·split
  ·split <;> simp
  ·simp
 ·simp
theorem Qgf (T:List WP):∀hs:List HK,(trsH T hs).length≤hs.length
 | []=>by simp [trsH]
 | h::hs=>by
  have e:trsH T (h::hs)=viaH T h++trsH T hs:=rfl
  have h1:=Qrv T h
  have h2:=Qgf T hs
  rw [e,List.length_append,List.length_cons]
  omega
theorem Qoj {T:List WP} {hs l:List HK} {M:Nat} (hT:∀x∈T,x.hs.length≤M) (hl:l∈trsH T hs):l.length≤M:=by
 obtain⟨h,-,hl⟩:=List.mem_flatMap.1 hl
 unfold viaH at hl
 split at hl
 ·split at hl
  ·split at hl
   ·rename_i x hx
    obtain rfl:=List.mem_singleton.1 hl
    exact Nat.le_trans (Qb7 _) (hT x (List.mem_of_getElem? hx))
   ·cases hl
  ·cases hl
 ·cases hl
theorem Qsc (hs:List HL):flatH hs=(hs.map Prod.snd).flatten:=by
 unfold flatH
 rw [List.flatMap_def]
theorem Qtl {T:List WP} {x:List HK} {hs:List HL} (h:hs.map Prod.snd=resL T x):jnL hs=resH T x:=by
 unfold jnL resH
 rw [Qsc,h]
section
variable {ops:Array Oper} {rest:List Oper} {o:Oper} {a:Act} {Q:Exit→Act→World→Prop} {w:World}
theorem Qby (hgd:o.guard=none) (s x:Operand) (t:TypeId) (ho:o.op=.call { callee:=.builtin .append,args:=#[s,x],argTypes:=#[t,t] })
  (e k bytes:Nat) (z:Value) (ht:Tryz.prog.underlying t=some (.slice e)) (hi:(Tryz.prog.info? e).map (fun i=>(i.zero,i.size,i.bytes))=some (some z,k,bytes)) (hzs:z.cells.size=k) (hk:0<k) (hby:bytes≤64)
  (base:Nat) (v:Value) (n:Nat) (xs:List Value) (hs:a.eval s=v) (hb:w.ownsRow base e k v n xs) (hbase:base≤w.heap.size) (ad:Addr) (m c:Nat) (news:List Value) (hx:a.eval x=.slice (some ad) m c) (hnl:news.length=m*k) (hr:∀j u,news[j]?=some u→w.cell? (ad.add j)=some u) (h1:∀u∈news,u.oneCell'=true) (hl:n+m≤1099511627776)
  (h:∀v' w',w'.ownsRow base e k v' (n+m) (xs++news)→Touch (fun j=>v.ownBlock=some j) w w'→wpList Tryz.prog ops Q rest (a.put o.dst v') w'):wpList Tryz.prog ops Q (o::rest) a w:=by
 obtain⟨i0,hi,hz0,hz1,hz2⟩:=info_parts hi
 have hmul:(n+m)*bytes≤1099511627776*64:=Nat.mul_le_mul hl hby
 refine wpList_append_own_at w hgd s x t ho base e i0 z k bytes ht hi hz0 hz1 hz2 hzs hk v n xs hs hb ad m c news hx hnl hr h1 (by unfold maxLen;omega) (by omega) hbase ?_
 intro v' w' hown hg _ _
 exact h v' w' hown ((Touch.refl _ _).grown hg (fun k hk=>Or.inl hk))
end
theorem Qgx (a b c d e f g h i:Int) (x:Option Addr) (n q:Nat):∀u∈([.int .u32 a,.int .u8 b,.int .u32 c,.int .u8 d,.int .u8 e,.int .u32 f,.int .u32 g,.int .u32 h,.int .u32 i,.slice x n q]:List Value),u.oneCell'=true:=by
 intro u hu
 simp at hu
 rcases hu with rfl|rfl|rfl|rfl|rfl|rfl|rfl|rfl|rfl|rfl <;> rfl
structure WRd (w:World) (v:Value) (N:List WY):Prop where
 sh:∃a c,v=.slice a N.length c∧RwAt WY.cs 10 w a N
 hs:∀y∈N,HV3 w y.hv y.x.hs
 rt:∀y∈N,0≤y.x.router∧y.x.router≤4294967295
 vi:∀y∈N,∀h∈y.x.hs,0≤h.via∧h.via≤4294967295
 ln:∀y∈N,y.x.hs.length≤400
theorem Qdw {α:Type} {cs:α→List Value} {k:Nat} {w w':World} {a:Option Addr} {l:List α} (h:RwAt cs k w a l) (t:Touch (fun _=>False) w w'):RwAt cs k w' a l:=by
 rcases h with e|⟨g,o,rfl,hc⟩
 ·exact Or.inl e
 ·exact Or.inr ⟨g,o,rfl,fun i x hx d u hd=>t.cellN (hc i x hx d u hd)⟩
theorem WRd.keep {w w':World} {v:Value} {N:List WY} (h:WRd w v N) (t:Touch (fun _=>False) w w'):WRd w' v N:=by
 obtain⟨⟨a,c,e,hr⟩,h1,h2,h3,h4⟩:=h
 exact⟨⟨a,c,e,Qdw hr t⟩,fun y hy=>ValsAt.keep (h1 y hy) t,h2,h3,h4⟩
structure W10 (w:World) (g o:Nat) (y:WY):Prop where
 e0:w.cell? ⟨g,o,none⟩=some (.int .u32 y.x.p.addr)
 e1:w.cell? ⟨g,o+1,none⟩=some (.int .u8 y.x.p.bits)
 e2:w.cell? ⟨g,o+2,none⟩=some (.int .u32 y.x.router)
 e3:w.cell? ⟨g,o+3,none⟩=some (.int .u8 y.x.flags)
 e4:w.cell? ⟨g,o+4,none⟩=some (.int .u8 y.x.kind)
 e5:w.cell? ⟨g,o+5,none⟩=some (.int .u32 y.x.area)
 e6:w.cell? ⟨g,o+6,none⟩=some (.int .u32 y.x.cost)
 e7:w.cell? ⟨g,o+7,none⟩=some (.int .u32 y.x.dist)
 e8:w.cell? ⟨g,o+8,none⟩=some (.int .u32 y.x.tag)
 e9:w.cell? ⟨g,o+9,none⟩=some y.hv
theorem Qj4 {w:World} {a:Option Addr} {N:List WY} (h:RwAt WY.cs 10 w a N) {k:Nat} {y:WY} (hy:N[k]?=some y):∃g o,a=some ⟨g,o,none⟩∧W10 w g (o+k*10) y:=by
 rcases h with e|⟨g,o,rfl,hc⟩
 ·rw [e] at hy;cases hy
 ·exact⟨g,o,rfl,hc k y hy 0 _ rfl,hc k y hy 1 _ rfl,hc k y hy 2 _ rfl,hc k y hy 3 _ rfl,hc k y hy 4 _ rfl,hc k y hy 5 _ rfl,hc k y hy 6 _ rfl,hc k y hy 7 _ rfl,hc k y hy 8 _ rfl,hc k y hy 9 _ rfl⟩
structure R1 (w:World) (T:List WP) (m k:Nat) (wr:World):Prop where
 am:AM wr 23 m ((fK T k).map fV)
 t:Touch (fun _=>False) w wr
 lo:w.heap.size≤m
theorem R1.keep {w wr w':World} {T:List WP} {m k:Nat} (h:R1 w T m k wr) (t:Touch (fun _=>False) wr w'):R1 w T m k w':=⟨h.am.keepN t,h.t.trans t,h.lo⟩
theorem R1.look {w wr:World} {T:List WP} {m k:Nat} (h:R1 w T m k wr) {r:Int} (hr:0≤r∧r≤4294967295) :
  (∃i:Nat,((fK T k).find? (fun p=>p.1==r)).map Prod.snd=some i∧(fK T k).any (fun p=>p.1==r)=true∧(Instr.lookup 96 (.map (some m)) (.int .u32 r) true).run Tryz.prog wr=.ok (.tuple #[.int .i64 (i:Int),.bool true]) wr) ∨
  ((fK T k).any (fun p=>p.1==r)=false∧((fK T k).find? (fun p=>p.1==r)).map Prod.snd=none∧(Instr.lookup 96 (.map (some m)) (.int .u32 r) true).run Tryz.prog wr=.ok (.tuple #[.int .i64 0,.bool false]) wr):=by
 rcases Qmt (fK T k) r with⟨j,i,hj,hf⟩|⟨ha,hf⟩
 ·refine Or.inl ⟨i,hf,List.any_eq_true.2 ⟨(r,i),List.mem_of_getElem? hj,by simp⟩,AM.hitI kindV h.am (j:=j) ?_⟩
  rw [List.getElem?_map,hj]
  rfl
 ·obtain⟨q,hq⟩:=Qop r hr
  exact Or.inr ⟨ha,hf,AM.missI kindV h.am hq (Qsv ha)⟩
theorem R1.put {w wr:World} {T:List WP} {m k:Nat} (h:R1 w T m k wr) {x:WP} (hk:T[k]?=some x) (hr:0≤x.router∧x.router≤4294967295) (ha:(fK T k).any (fun p=>p.1==x.router)=false) :
  ∃w',(Instr.mapUpdate 96 (.map (some m)) (.int .u32 x.router) (.int .i64 (k:Int))).run Tryz.prog wr=.ok () w'∧R1 w T m (k+1) w':=by
 obtain⟨q,hq⟩:=Qop x.router hr
 obtain⟨w',h1,h2,h3⟩:=AM.putNewI kindV h.am (.int .i64 (k:Int)) hq (Qsv ha)
 refine⟨w',h1,?_,h.t.trans' h3 (fun i hi e=>by subst e;have:=h.lo;omega),h.lo⟩
 rw [Qnx hk ha,List.map_append]
 exact h2
theorem R1.old {w wr:World} {T:List WP} {m k:Nat} (h:R1 w T m k wr) {x:WP} (hk:T[k]?=some x) (ha:(fK T k).any (fun p=>p.1==x.router)=true):R1 w T m (k+1) wr :=
 ⟨by rw [Qo8 hk ha];exact h.am,h.t,h.lo⟩
theorem WB1.keepS {w wr wx:World} {s:Value} {N:List WY} (h:WB1 w wr s N) {F:Nat→Prop} (t:Touch F wr wx) (h1:∀k,s.ownBlock=some k→¬F k) (h2:∀(v:Value) (l:List HK),HO wr v l→∀k,v.ownBlock=some k→¬F k) (h3:∀k,F k→w.heap.size≤k):WB1 w wx s N :=
 ⟨⟨Qab h.b.own t h1,h.b.t.trans' t (fun i hi e=>by have:=h3 i e;omega)⟩,fun y hy=>Qab (h.h y hy) t (h2 _ _ (h.h y hy))⟩
theorem Qdd {w:World} {b1 b2 e k n1 n2:Nat} {v:Value} {xs ys:List Value} (h:w.ownsRow b1 e k v n1 xs) (h':w.ownsRow b2 e k v n2 ys) (hn:n1=n2):xs=ys:=by
 subst hn
 obtain⟨l1,c1|⟨g,cap,cur,e1,-,hh,-,-,-,hx⟩⟩:=h
 ·obtain⟨l2,-⟩:=h'
  rw [c1.2,Nat.zero_mul] at l1 l2
  rw [List.length_eq_zero_iff.1 l1,List.length_eq_zero_iff.1 l2]
 ·obtain⟨l2,c2|⟨g',cap',cur',e2,-,hh',-,-,-,hx'⟩⟩:=h'
  ·rw [c2.2,Nat.zero_mul] at l1 l2
   rw [List.length_eq_zero_iff.1 l1,List.length_eq_zero_iff.1 l2]
  ·rw [e1] at e2
   cases e2
   rw [hh] at hh'
   cases hh'
   rw [←hx,←hx']
structure R2 (w:World) (N T:List WP) (m k:Nat) (s10 s11:Value) (wr:World):Prop where
 am:AM wr 23 m ((fK T T.length).map fV)
 lo:w.heap.size≤m
 all:∃M:List WY,WB1 w wr s10 M∧M.map (·.x)=(N.take k).filterMap (resW T)∧M.length≤k
 ls:∃hs:List HL,LsB w.heap.size wr s11 hs
theorem R2.t {w wr:World} {N T:List WP} {m k:Nat} {s10 s11:Value} (h:R2 w N T m k s10 s11 wr):Touch (fun _=>False) w wr:=by
 obtain⟨M,h1,-⟩:=h.all
 exact h1.b.t
theorem R2.keep {w wr w':World} {N T:List WP} {m k:Nat} {s10 s11:Value} (h:R2 w N T m k s10 s11 wr) (t:Touch (fun _=>False) wr w'):R2 w N T m k s10 s11 w':=by
 obtain⟨h1,h2,⟨M,h3,h4⟩,hs,h5⟩:=h
 exact⟨h1.keepN t,h2,⟨M,h3.keep t,h4⟩,hs,Qab h5 t (fun _ _ h=>h)⟩
structure R3 (w:World) (N T:List WP) (m k b:Nat) (y:WY) (s10 s11:Value) (L:List (List HK)) (wx:World):Prop where
 am:AM wx 23 m ((fK T T.length).map fV)
 lo:w.heap.size≤m
 box:Row wx b 45 y.cs
 lb:w.heap.size≤b
 nb:s10.ownBlock≠some b
 all:∃M:List WY,WB1 w wx s10 M∧M.map (·.x)=(N.take k).filterMap (resW T)∧M.length≤k
 ls:∃hs:List HL,LsB w.heap.size wx s11 hs∧hs.map Prod.snd=L∧∀h∈hs,HO wx h.1 h.2
theorem R3.t {w wr:World} {N T:List WP} {m k b:Nat} {y:WY} {s10 s11:Value} {L:List (List HK)} (h:R3 w N T m k b y s10 s11 L wr):Touch (fun _=>False) w wr:=by
 obtain⟨M,h1,-⟩:=h.all
 exact h1.b.t
theorem R3.keep {w wr w':World} {N T:List WP} {m k b:Nat} {y:WY} {s10 s11:Value} {L:List (List HK)} (h:R3 w N T m k b y s10 s11 L wr) (t:Touch (fun _=>False) wr w'):R3 w N T m k b y s10 s11 L w':=by
 obtain⟨h1,h2,hb,hlb,hnb,⟨M,h3,h4⟩,hs,h5,h6,h7⟩:=h
 exact⟨h1.keepN t,h2,hb.keep t,hlb,hnb,⟨M,h3.keep t,h4⟩,hs,Qab h5 t (fun _ _ h=>h),h6,fun x hx=>Qab (h7 x hx) t (fun _ _ h=>h)⟩
theorem Qme {w:World} {m:Nat} {l:List (Value×Value)} (h:AM w 23 m l) {base e k n:Nat} {v:Value} {xs:List Value} (ho:w.ownsRow base e k v n xs):v.ownBlock≠some m:=by
 obtain⟨⟨es,c,h1,-⟩,-⟩:=h
 exact Qie ho h1 rfl
theorem R2.start {w wr wa w2 w4:World} {N T:List WP} {m k b:Nat} {y:WY} {s10 s11 e' v':Value} {pl:List HK} {p:Value} {h0:List HL} (h:R2 w N T m k s10 s11 wr) (h0w:LsB w.heap.size wr s11 h0) (hb:b=wr.heap.size) (ta:Touch (fun _=>False) wr wa) (rb:Row wa b 45 y.cs)
  (t2:Touch (fun j=>s11.ownBlock=some j) wa w2) (hp:HO w2 p pl) (he:e'.ownBlock=s11.ownBlock) (le:LsB w.heap.size w2 e' []) (w3:World) (t3:Touch (fun _=>False) w2 w3) (own:LsB w.heap.size w4 v' [(p,pl)]) (t4:Touch (fun j=>e'.ownBlock=some j) w3 w4):R3 w N T m k b y s10 v' [pl] w4:=by
 have ha:=h.keep ta
 have l0a:LsB w.heap.size wa s11 h0:=Qab h0w ta (fun _ _ h=>h)
 have t24:Touch (fun j=>s11.ownBlock=some j) w2 w4:=(t3.mono (fun _ _ h=>h.elim)).trans (by rw [he] at t4;exact t4)
 have ta4:Touch (fun j=>s11.ownBlock=some j) wa w4:=t2.trans t24
 have hbs:s11.ownBlock≠some b:=Qb5 l0a rb (by decide)
 obtain⟨M,h3,h4,h5⟩:=ha.all
 obtain⟨M0,g3,-⟩:=h.all
 have rb2:Row w2 b 45 y.cs:=Qad rb t2 hbs
 refine⟨ha.am.keep ta4 (Qme ha.am l0a),ha.lo,Qad rb ta4 hbs,by rw [hb];exact h.t.size,fun e=>?_,⟨M,h3.keepS ta4 (fun q hq e=>Qa2 h3.b.own l0a (by decide) q hq e) (fun v l hv q hq e=>Qa2 hv l0a (by decide) q hq e) (fun q e=>(l0a.lt q e).1),h4,h5⟩,[(p,pl)],own,rfl,fun z hz=>?_⟩
 ·have:=(g3.b.own.lt b e).2
  omega
 ·obtain rfl:=List.mem_singleton.1 hz
  exact Qab hp t24 (fun q hq e=>Qa2 hp le (by decide) q hq (he.trans e))
theorem R3.more {w wx w2 w3 w4:World} {N T:List WP} {m k b:Nat} {y:WY} {s10 s11 v':Value} {L:List (List HK)} {pl:List HK} {p:Value} (h:R3 w N T m k b y s10 s11 L wx) (t2:Touch (fun _=>False) wx w2) (hp:HO w2 p pl) (t3:Touch (fun _=>False) w2 w3)
  (own:∀hs:List HL,LsB w.heap.size w3 s11 hs→hs.map Prod.snd=L→LsB w.heap.size w4 v' (hs++[(p,pl)])) (t4:Touch (fun j=>s11.ownBlock=some j) w3 w4):R3 w N T m k b y s10 v' (L++[pl]) w4:=by
 obtain⟨h1,h2,hb,hlb,hnb,⟨M,h3,h5,h6⟩,hs,g1,g2,g3⟩:=h.keep (t2.trans t3)
 refine⟨h1.keep t4 (Qme h1 g1),h2,Qad hb t4 (Qb5 g1 hb (by decide)),hlb,hnb,⟨M,h3.keepS t4 (fun q hq e=>Qa2 h3.b.own g1 (by decide) q hq e) (fun v l hv q hq e=>Qa2 hv g1 (by decide) q hq e) (fun q e=>(g1.lt q e).1),h5,h6⟩,hs++[(p,pl)],own hs g1 g2,by rw [List.map_append,g2];rfl,fun z hz=>?_⟩
 have hp3:HO w3 p pl:=Qab hp t3 (fun _ _ h=>h)
 rcases List.mem_append.1 hz with hz|hz
 ·exact Qab (g3 z hz) t4 (fun q hq e=>Qa2 (g3 z hz) g1 (by decide) q hq e)
 ·obtain rfl:=List.mem_singleton.1 hz
  exact Qab hp3 t4 (fun q hq e=>Qa2 hp3 g1 (by decide) q hq e)
theorem R3.r1 {w wr:World} {N T:List WP} {m k b:Nat} {y:WY} {s10 s11:Value} {L:List (List HK)} (h:R3 w N T m k b y s10 s11 L wr):R1 w T m T.length wr:=⟨h.am,h.t,h.lo⟩
theorem Qnf {T:List WP} {h:HK} (hv:h.vr=false):viaH T h=[]:=by unfold viaH;rw [if_neg (by simp [hv])]
theorem Qg0 {T:List WP} {h:HK} (hf:((fK T T.length).find? (fun p=>p.1==h.via)).map Prod.snd=none):viaH T h=[]:=by
 unfold viaH firstT
 rw [hf]
 split <;> rfl
theorem Qjv {T:List WP} {h:HK} (hv:h.vr=true) {i:Nat} (hf:((fK T T.length).find? (fun p=>p.1==h.via)).map Prod.snd=some i) {x:WP} (hx:T[i]?=some x):viaH T h=[plainL x.hs]:=by
 unfold viaH firstT
 rw [if_pos hv,hf]
 simp only [hx]
theorem Qw0 {T:List WP} {r:Int} {i:Nat} (hf:((fK T T.length).find? (fun p=>p.1==r)).map Prod.snd=some i):i<T.length:=by
 cases h:(fK T T.length).find? (fun p=>p.1==r) with
 | none=>rw [h] at hf;cases hf
 | some p =>
  rw [h] at hf
  obtain rfl:p.2=i:=Option.some.inj hf
  exact (Qic (List.mem_of_find?_eq_some h)).1
theorem Qg8 {T:List WP} {x:WP} (h1:x.hs≠[]) (h2:resH T x.hs=[]):resW T x=none:=by
 unfold resW
 rw [if_neg (fun h=>h.elim h1 (fun h=>h h2))]
theorem Qdt {T:List WP} {x:WP} (h:x.hs=[]∨resH T x.hs≠[]):resW T x=some { x with hs:=resH T x.hs }:=if_pos h
theorem Qnc {M:Nat}:∀{hs:List HL},(∀h∈hs,h.2.length≤M)→(flatH hs).length≤hs.length*M
 | [],_=>by simp [flatH]
 | h::hs,hM=>by
  have e:flatH (h::hs)=h.2++flatH hs:=by simp [flatH]
  have h1:=hM h (by simp)
  have h2:=Qnc (hs:=hs) (fun x hx=>hM x (by simp [hx]))
  rw [e,List.length_append,List.length_cons,Nat.add_mul]
  omega
theorem R3.joined {w wx:World} {N T:List WP} {m k b:Nat} {y:WY} {s10 s11:Value} (h:R3 w N T m k b y s10 s11 (resL T y.x.hs) wx) (hy:y.x.hs.length≤400) (hT:∀x∈T,x.hs.length≤400) :
  Calls Tryz.prog 41 #[s11] wx fun e w'=>∃r,e=.returned r∧HO w' r (resH T y.x.hs)∧Touch (fun _=>False) wx w':=by
 obtain⟨hs,g1,g2,g3⟩:=h.ls
 have hl:hs.length≤401:=by
  have e:=congrArg List.length g2
  have:=Qgf T y.x.hs
  simp only [List.length_map,resL,List.length_cons] at e
  omega
 have hM:∀z∈hs,z.2.length≤400:=fun z hz=>by
  have:z.2∈resL T y.x.hs:=by rw [←g2];exact List.mem_map.2 ⟨z,hz,rfl⟩
  rcases List.mem_cons.1 this with e|e
  ·rw [e];exact Nat.le_trans (Qb7 _) hy
  ·exact Qoj hT e
 have hf:=Qnc hM
 have hf2:hs.length*400≤401*400:=Nat.mul_le_mul_right _ hl
 refine (Qf8 wx s11 hs (Qbd g1) (fun z hz=>Qbd (g3 z hz)) (by omega) (by omega)).mono ?_
 rintro e w' ⟨r,rfl,hb,t⟩
 refine⟨r,rfl,?_,t⟩
 rw [Qtl g2] at hb
 exact Qam hb.own (Nat.zero_le _)
structure R4 (w:World) (N T:List WP) (m k b:Nat) (x:WP) (r:Value) (s10 s11:Value) (wx:World):Prop where
 am:AM wx 23 m ((fK T T.length).map fV)
 lo:w.heap.size≤m
 box:Row wx b 45 (⟨x,r⟩:WY).cs
 ho:HO wx r x.hs
 nb:s10.ownBlock≠some b
 all:∃M:List WY,WB1 w wx s10 M∧M.map (·.x)=(N.take k).filterMap (resW T)∧M.length≤k
 ls:∃hs:List HL,LsB w.heap.size wx s11 hs
theorem R3.store {w wx w2:World} {N T:List WP} {m k b:Nat} {y:WY} {s10 s11:Value} {L:List (List HK)} (h:R3 w N T m k b y s10 s11 L wx) (t:Touch (fun _=>False) wx w2) {r:Value} {c:List HK} (hr:HO w2 r c):R4 w N T m k b { y.x with hs:=c } r s10 s11 (w2.setCell ⟨b,9,none⟩ r):=by
 obtain⟨h1,h2,hb,hlb,hnb,⟨M,h3,h5,h6⟩,hs,g1,g2,g3⟩:=h.keep t
 have tt:Touch (fun k=>k=b) w2 (w2.setCell ⟨b,9,none⟩ r):=Touch.setCell (F:=fun k=>k=b) (p:=⟨b,9,none⟩) (Touch.refl _ _) (Or.inl rfl) _
 refine⟨h1.keep tt (fun e=>?_),h2,?_,Qab hr tt (fun q hq e=>Qb5 hr hb (by decide) (by rw [hq,e])),hnb,⟨M,h3.keepS tt (fun q hq e=>hnb (by rw [hq,e])) (fun v l hv q hq e=>Qb5 hv hb (by decide) (by rw [hq,e])) (fun q e=>by rw [e];exact hlb),h5,h6⟩,hs,Qab g1 tt (fun q hq e=>Qb5 g1 hb (by decide) (by rw [hq,e]))⟩
 ·subst e
  obtain⟨⟨es,c,e1,-⟩,-⟩:=h1
  have e2:=hb
  unfold Row at e2
  rw [e1] at e2
  cases e2
 ·exact hb.set 9 r
theorem R4.keep {w wr w':World} {N T:List WP} {m k b:Nat} {x:WP} {r s10 s11:Value} (h:R4 w N T m k b x r s10 s11 wr) (t:Touch (fun _=>False) wr w'):R4 w N T m k b x r s10 s11 w':=by
 obtain⟨h1,h2,hb,ho,hnb,⟨M,h3,h4⟩,hs,h5⟩:=h
 exact⟨h1.keepN t,h2,hb.keep t,Qab ho t (fun _ _ h=>h),hnb,⟨M,h3.keep t,h4⟩,hs,Qab h5 t (fun _ _ h=>h)⟩
theorem R4.skip {w wx:World} {N T:List WP} {m k b:Nat} {x:WP} {r s10 s11:Value} (h:R4 w N T m k b x r s10 s11 wx) {z:WP} (hz:N[k]?=some z) (hn:resW T z=none):R2 w N T m (k+1) s10 s11 wx:=by
 obtain⟨h1,h2,hb,ho,hnb,⟨M,h3,h4,h6⟩,hs,h5⟩:=h
 refine⟨h1,h2,⟨M,h3,?_,by omega⟩,hs,h5⟩
 rw [List.take_add_one,hz,List.filterMap_append,h4]
 simp [hn]
theorem R4.app {w wx w3 w4:World} {N T:List WP} {m k b:Nat} {x:WP} {r s10 s11 v':Value} (h:R4 w N T m k b x r s10 s11 wx) {z:WP} (hz:N[k]?=some z) (hn:resW T z=some x) (t3:Touch (fun _=>False) wx w3)
  (own:∀M:List WY,WB1 w w3 s10 M→w4.ownsRow w.heap.size 45 10 v' (M.length+1) (cellsG WY.cs M++(⟨x,r⟩:WY).cs)) (t4:Touch (fun j=>s10.ownBlock=some j) w3 w4):R2 w N T m (k+1) v' s11 w4:=by
 obtain⟨h1,h2,hb,ho,hnb,⟨M,h3,h4,h6⟩,hs,h5⟩:=h.keep t3
 refine⟨h1.keep t4 (Qme h1 h3.b.own),h2,⟨M++[⟨x,r⟩],⟨⟨?_,h3.b.t.trans' t4 (fun i hi e=>by have:=(h3.b.own.lt i e).1;omega)⟩,fun q hq=>?_⟩,?_,by rw [List.length_append];simp;omega⟩,hs,Qab h5 t4 (fun q hq e=>Qa2 h5 h3.b.own (by decide) q hq e)⟩
 ·rw [List.length_append,Qaq]
  have e:cellsG WY.cs [(⟨x,r⟩:WY)]=(⟨x,r⟩:WY).cs:=by simp [cellsG]
  rw [e]
  exact own M h3
 ·rcases List.mem_append.1 hq with hq|hq
  ·exact Qab (h3.h q hq) t4 (fun i hi e=>Qa2 (h3.h q hq) h3.b.own (by decide) i hi e)
  ·obtain rfl:=List.mem_singleton.1 hq
   exact Qab ho t4 (fun i hi e=>Qa2 ho h3.b.own (by decide) i hi e)
 ·rw [List.take_add_one,hz,List.filterMap_append,List.map_append,h4]
  simp [hn]
end Go.Proofs.YtddbffoiadmffaaGreat
