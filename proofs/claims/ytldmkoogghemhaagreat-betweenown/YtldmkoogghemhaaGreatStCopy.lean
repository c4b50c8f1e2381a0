import Derived.Test.YtldmkoogghemhaaGreatInWArg
import Derived.Maps.Keyed
namespace Go.Proofs.YtldmkoogghemhaaGreat
set_option maxHeartbeats 8000000
open Go.RowKit
open Go.ChangeMaps (setBlock)
open Go.MapKept
set_option linter.unusedVariables false
set_option maxRecDepth 100000
structure MI (K M E:TypeId) (z:Value):Prop where
 law:Go.Maps.Keyed Tryz.prog K
 und:Tryz.prog.underlying M=some (.map K E)
 zero:∀w,(zeroValue E).run Tryz.prog w=.ok z w
theorem AM.missI {K M E:TypeId} {z:Value} (kt:MI K M E z) {w:World} {m:Nat} {l:List (Value×Value)} (h:AM w K m l) {k:Value} {q:Lit} (hk:Go.keyOf Tryz.prog K k=some q) (hn:∀p∈l,p.1≠k) :
  (Instr.lookup M (.map (some m)) k true).run Tryz.prog w=.ok (.tuple #[z,.bool false]) w:=by
 obtain⟨⟨es,c,h1,h2,-⟩,ok,nd⟩:=h
 rcases kt.law.find w hk es.toList (Qgj h2 ok) with⟨g1,-⟩|⟨j,e,g1,g2,g3⟩
 ·simp [Instr.lookup,run_underlying kt.und,MapKept.run_getObj_map h1,kt.law.check w es.isEmpty hk,g1,kt.zero w,Result.andThen]
 ·exact absurd g3 (hn _ (List.mem_of_getElem? (Qjg h2 g2)))
theorem AM.hitI {K M E:TypeId} {z:Value} (kt:MI K M E z) {w:World} {m:Nat} {l:List (Value×Value)} (h:AM w K m l) {k v:Value} {j:Nat} (hj:l[j]?=some (k,v)) :
  (Instr.lookup M (.map (some m)) k true).run Tryz.prog w=.ok (.tuple #[v,.bool true]) w:=by
 obtain⟨⟨es,c,h1,h2,-⟩,ok,nd⟩:=h
 obtain⟨q,hk⟩:∃q,Go.keyOf Tryz.prog K k=some q:=ok _ (List.mem_of_getElem? hj)
 rcases kt.law.find w hk es.toList (Qgj h2 ok) with⟨-,g2⟩|⟨i,e,g1,g2,g3⟩
 ·exfalso
  have:(k,v)∈es.toList.map (fun e=>(e.key,e.val)):=by rw [h2];exact List.mem_of_getElem? hj
  obtain⟨e,he,e1⟩:=List.mem_map.1 this
  exact g2 e he (congrArg Prod.fst e1)
 ·have g4:=Qjg h2 g2
  rw [g3] at g4
  have hij:=Qoi nd g4 hj
  subst hij
  have e2:e.val=v:=by rw [g4] at hj;injection hj with hj;exact congrArg Prod.snd hj
  have g2':es[i]?=.some e:=by simpa using g2
  simp [Instr.lookup,run_underlying kt.und,MapKept.run_getObj_map h1,kt.law.check w es.isEmpty hk,g1,Result.andThen,e2]
theorem AM.putNewI {K M E:TypeId} {z:Value} (kt:MI K M E z) {w:World} {m:Nat} {l:List (Value×Value)} (h:AM w K m l) {k:Value} {q:Lit} (v:Value) (hk:Go.keyOf Tryz.prog K k=some q) (hn:∀p∈l,p.1≠k) :
  ∃w',(Instr.mapUpdate M (.map (some m)) k v).run Tryz.prog w=.ok () w'∧AM w' K m (l++[(k,v)])∧Touch (fun k=>k=m) w w':=by
 obtain⟨⟨es,n,h1,h2,h3,h4⟩,ok,nd⟩:=h
 rcases kt.law.find w hk es.toList (Qgj h2 ok) with⟨g1,-⟩|⟨j,e,g1,g2,g3⟩
 ·refine⟨setBlock w m (.map (es.push ⟨k,v,n⟩) (n+1)),?_,⟨⟨_,_,Qnw h1,?_,?_,?_⟩,?_,?_⟩,Qkr h1⟩
  ·simp [Instr.mapUpdate,run_underlying kt.und,MapKept.run_getObj_map h1,kt.law.check w false hk,g1,MapKept.run_setObj_map _ h1,Result.andThen,setBlock]
  ·simp [h2]
  ·rw [Array.toList_push,List.map_append,List.nodup_append]
   refine⟨h3,by simp,fun a ha b hb=>?_⟩
   obtain⟨e,he,rfl⟩:=List.mem_map.1 ha
   obtain rfl:b=n:=by simpa using hb
   have:=h4 e he
   omega
  ·intro e he
   rw [Array.toList_push] at he
   rcases List.mem_append.1 he with he|he
   ·have:=h4 e he;omega
   ·obtain rfl:e=⟨k,v,n⟩:=by simpa using he
    exact Nat.lt_succ_self _
  ·intro p hp
   rcases List.mem_append.1 hp with hp|hp
   ·exact ok p hp
   ·obtain rfl:p=(k,v):=by simpa using hp
    exact⟨q,hk⟩
  ·rw [List.map_append,List.nodup_append]
   refine⟨nd,by simp,fun a ha b hb=>?_⟩
   obtain⟨p,hp,rfl⟩:=List.mem_map.1 ha
   obtain rfl:b=k:=by simpa using hb
   exact hn p hp
 ·exact absurd g3 (hn _ (List.mem_of_getElem? (Qjg h2 g2)))
theorem Qkd (r:Int) (h:0≤r∧r≤4294967295):∃l,Go.keyOf Tryz.prog 23 (.int .u32 r)=some l:=by
 have h1:(Lit.int .u32 r).wf=true:=by simp [Lit.wf,IntKind.min,IntKind.max,IntKind.bits,IntKind.signed];omega
 exact⟨_,Go.Maps.keyOf_int_mk Tryz.underlying23 h1⟩
def fK (T:List WP):Nat→List (Int×Nat)
 | 0=>[]
 | k+1=>match T[k]? with
  | some x=>if (fK T k).any (fun p=>p.1==x.router) then fK T k else fK T k++[(x.router,k)]
  | none=>fK T k
def fV (p:Int×Nat):Value×Value:=(.int .u32 p.1,.int .i64 (p.2:Int))
def firstT (T:List WP) (r:Int):Option Nat:=((fK T T.length).find? (fun p=>p.1==r)).map Prod.snd
def viaH (T:List WP) (h:HK):List (List HK) :=
 if h.vr=true then (match firstT T h.via with|some i=>(match T[i]? with|some x=>[plainL x.hs]|none=>[])|none=>[]) else []
def trsH (T:List WP) (hs:List HK):List (List HK):=hs.flatMap (viaH T)
def resL (T:List WP) (hs:List HK):List (List HK):=plainL hs::trsH T hs
def resH (T:List WP) (hs:List HK):List HK:=(resL T hs).flatten.foldr pt []
def resW (T:List WP) (x:WP):Option WP:=if x.hs=[]∨resH T x.hs≠[] then some { x with hs:=resH T x.hs } else none
theorem Qhn (v:Value) (l:List Int) (w:World) (hv:ArgAt w v l) (hl:l.length≤1000000):Calls Tryz.prog 42 #[v] w fun e w'=>∃u,e=.returned u∧Buf w w' u l:=by
 have HV':Hid (ArgAt w v l):=hv
 clear hv
 go_enter Tryz.func42,Tryz.ntmps42
 go_wp2_with (at_builtin;refine Qaj rfl (.tmp 4) (.tmp 5) rfl w (.slice none 0 0) [] rfl (Buf.nil (Touch.refl _ _)) v l rfl HV'.out (by simp;omega) ?_)
 intro v' w' b
 obtain⟨xa,xc,rfl⟩:=b.form
 have B:Hid (Buf w w' (.slice xa ([]++l).length xc) ([]++l)):=b
 clear b
 go_wp2
 go_ret
 exact⟨_,rfl,by simpa using B.out⟩
theorem Qic (h:HV) (v:Value) (rs:List Int) (w:World) (hv:ArgAt w v rs) (hl:rs.length≤1000000):Calls Tryz.prog 21 #[h.sv v] w fun e w'=>∃u,e=.returned (h.sv u)∧Buf w w' u rs:=by
 obtain⟨a,c,rfl,hm⟩:=hv.form
 have HC:=fun w h=>Qhn (.slice a rs.length c) rs w h hl
 have HV':Hid (ArgAt w (.slice a rs.length c) rs):=hv
 clear hv
 show Calls Tryz.prog 21 #[.agg #[.int .u16 h.age,.int .u8 h.opts,.int .u8 h.typ,.int .u32 h.id,.int .u32 h.adv,.int .i32 h.seq,.int .u16 h.sum,.int .u16 h.len,.slice a rs.length c]] w _
 go_enter Tryz.func21,Tryz.ntmps21
 go_wp2_with fail
 refine Calls.mono (HC _ (HV'.out.keepN (((Touch.refl _ _).alloc _).alloc _))) ?_
 rintro e w1 ⟨u,rfl,b1⟩
 obtain⟨xa,xc,rfl⟩:=b1.form
 have O1:Out w1 w.heap.size h (.slice a rs.length c):=((Out.new w h (.slice a rs.length c) 59).keep ((Touch.refl _ _).alloc _)).keep b1.t
 have O2:Hid (Out (w1.setCell ⟨w.heap.size,8,none⟩ (.slice xa rs.length xc)) w.heap.size h (.slice xa rs.length xc)):=O1.set8 _
 have R1:Room w1 (w.heap.size+1) 9:=by
  have:=(Room.new (w.alloc (.cells #[.int .u16 h.age,.int .u8 h.opts,.int .u8 h.typ,.int .u32 h.id,.int .u32 h.adv,.int .i32 h.seq,.int .u16 h.sum,.int .u16 h.len,.slice a rs.length c] 59)) #[.int .u16 0,.int .u8 0,.int .u8 0,.int .u32 0,.int .u32 0,.int .i32 0,.int .u16 0,.int .u16 0,.slice none 0 0] 59).keep b1.t
  simpa using this
 have U2:Touch (fun k=>k=w.heap.size) w1 (w1.setCell ⟨w.heap.size,8,none⟩ (.slice xa rs.length xc)):=Touch.setCell (F:=fun k=>k=w.heap.size) (p:=⟨w.heap.size,8,none⟩) (Touch.refl _ _) (Or.inl rfl) _
 have R2:Hid (Room (w1.setCell ⟨w.heap.size,8,none⟩ (.slice xa rs.length xc)) (w.heap.size+1) 9):=R1.touch U2 (by show ¬w.heap.size+1=w.heap.size;omega)
 have hgb:Hid (∀k,(Value.slice xa rs.length xc).ownBlock=some k→w.heap.size+1<k):=fun k hk=>by have:=(b1.own.lt k hk).1;simp at this;omega
 have B2:Hid ((w1.setCell ⟨w.heap.size,8,none⟩ (.slice xa rs.length xc)).ownsRow w.heap.size 5 1 (.slice xa rs.length xc) rs.length (bytesOf rs)):=Qak (Qab b1.own U2 (fun k hk e=>by have:=hgb.out k hk;omega)) (by simp;omega)
 have T2:Hid (Touch (fun _=>False) w (w1.setCell ⟨w.heap.size,8,none⟩ (.slice xa rs.length xc))):=((((Touch.refl _ w).alloc _).alloc _).trans b1.t).setCell (Or.inr (Nat.le_refl _)) _
 obtain⟨⟨⟨s0,s1,s2,s3,s4,s5,s6,s7⟩,s8⟩,f6,f7,f8⟩:=O1.fits
 clear b1 O1 R1 U2 HC
 go_upto_region 2 with fail
 clear s0 s1 s2 s3 s4 s5 s6 s7 s8 f6 f7 f8
 have hne:¬w.heap.size=w.heap.size+1:=by omega
 have hne':¬w.heap.size+1=w.heap.size:=by omega
 generalize w1.setCell ⟨w.heap.size,8,none⟩ (.slice xa rs.length xc)=w2 at *
 obtain⟨⟨⟨s0,s1,s2,s3,s4,s5,s6,s7⟩,s8⟩,-⟩:=O2.out.fits
 generalize hg:w.heap.size+1=g at *
 have HG:Hid (w.heap.size+1=g):=hg
 clear hg
 obtain⟨zz0,zc0,zf0⟩:=R2.out 0 (by omega)
 obtain⟨zz1,zc1,zf1⟩:=R2.out 1 (by omega)
 obtain⟨zz2,zc2,zf2⟩:=R2.out 2 (by omega)
 obtain⟨zz3,zc3,zf3⟩:=R2.out 3 (by omega)
 obtain⟨zz4,zc4,zf4⟩:=R2.out 4 (by omega)
 obtain⟨zz5,zc5,zf5⟩:=R2.out 5 (by omega)
 obtain⟨zz6,zc6,zf6⟩:=R2.out 6 (by omega)
 obtain⟨zz7,zc7,zf7⟩:=R2.out 7 (by omega)
 obtain⟨zz8,zc8,zf8⟩:=R2.out 8 (by omega)
 obtain⟨wz,hwz⟩:∃wz,wz=(((((((((w2.setCell ⟨g,0,none⟩ (.int .u16 h.age)).setCell ⟨g,1,none⟩ (.int .u8 h.opts)).setCell ⟨g,2,none⟩ (.int .u8 h.typ)).setCell ⟨g,3,none⟩ (.int .u32 h.id)).setCell ⟨g,4,none⟩ (.int .u32 h.adv)).setCell ⟨g,5,none⟩ (.int .i32 h.seq)).setCell ⟨g,6,none⟩ (.int .u16 h.sum)).setCell ⟨g,7,none⟩ (.int .u16 h.len)).setCell ⟨g,8,none⟩ (.slice xa rs.length xc)):=⟨_,rfl⟩
 have zd0:wz.cell? ⟨g,0,none⟩=some (.int .u16 h.age):=by rw [hwz];simp [zc0,go_sem]
 have zd1:wz.cell? ⟨g,1,none⟩=some (.int .u8 h.opts):=by rw [hwz];simp [zc1,go_sem]
 have zd2:wz.cell? ⟨g,2,none⟩=some (.int .u8 h.typ):=by rw [hwz];simp [zc2,go_sem]
 have zd3:wz.cell? ⟨g,3,none⟩=some (.int .u32 h.id):=by rw [hwz];simp [zc3,go_sem]
 have zd4:wz.cell? ⟨g,4,none⟩=some (.int .u32 h.adv):=by rw [hwz];simp [zc4,go_sem]
 have zd5:wz.cell? ⟨g,5,none⟩=some (.int .i32 h.seq):=by rw [hwz];simp [zc5,go_sem]
 have zd6:wz.cell? ⟨g,6,none⟩=some (.int .u16 h.sum):=by rw [hwz];simp [zc6,go_sem]
 have zd7:wz.cell? ⟨g,7,none⟩=some (.int .u16 h.len):=by rw [hwz];simp [zc7,go_sem]
 have zd8:wz.cell? ⟨g,8,none⟩=some (.slice xa rs.length xc):=by rw [hwz];simp [zc8,go_sem]
 have HUz:Hid (Touch (fun k=>k=g) w2 wz):=by show Touch _ _ _;rw [hwz];refine Touch.setCell (F:=fun k=>k=g) (p:=⟨g,8,none⟩) ?_ (Or.inl rfl) _;refine Touch.setCell (F:=fun k=>k=g) (p:=⟨g,7,none⟩) ?_ (Or.inl rfl) _;refine Touch.setCell (F:=fun k=>k=g) (p:=⟨g,6,none⟩) ?_ (Or.inl rfl) _;refine Touch.setCell (F:=fun k=>k=g) (p:=⟨g,5,none⟩) ?_ (Or.inl rfl) _;refine Touch.setCell (F:=fun k=>k=g) (p:=⟨g,4,none⟩) ?_ (Or.inl rfl) _;refine Touch.setCell (F:=fun k=>k=g) (p:=⟨g,3,none⟩) ?_ (Or.inl rfl) _;refine Touch.setCell (F:=fun k=>k=g) (p:=⟨g,2,none⟩) ?_ (Or.inl rfl) _;refine Touch.setCell (F:=fun k=>k=g) (p:=⟨g,1,none⟩) ?_ (Or.inl rfl) _;refine Touch.setCell (F:=fun k=>k=g) (p:=⟨g,0,none⟩) ?_ (Or.inl rfl) _;exact Touch.refl _ _
 have HWz:Hid (wz=(((((((((w2.setCell ⟨g,0,none⟩ (.int .u16 h.age)).setCell ⟨g,1,none⟩ (.int .u8 h.opts)).setCell ⟨g,2,none⟩ (.int .u8 h.typ)).setCell ⟨g,3,none⟩ (.int .u32 h.id)).setCell ⟨g,4,none⟩ (.int .u32 h.adv)).setCell ⟨g,5,none⟩ (.int .i32 h.seq)).setCell ⟨g,6,none⟩ (.int .u16 h.sum)).setCell ⟨g,7,none⟩ (.int .u16 h.len)).setCell ⟨g,8,none⟩ (.slice xa rs.length xc))):=hwz
 clear hwz
 go_wp2_with fail
 rw [←HWz.out]
 clear HWz zc0 zf0 zc1 zf1 zc2 zf2 zc3 zf3 zc4 zf4 zc5 zf5 zc6 zf6 zc7 zf7 zc8 zf8
 refine bodyPost_ret (v:=.agg #[.int .u16 h.age,.int .u8 h.opts,.int .u8 h.typ,.int .u32 h.id,.int .u32 h.adv,.int .i32 h.seq,.int .u16 h.sum,.int .u16 h.len,.slice xa rs.length xc]) (by simp [results,Tryz.results21,go_sem,zd0,zd1,zd2,zd3,zd4,zd5,zd6,zd7,zd8]) rfl ?_
 exact⟨_,rfl,⟨Qab B2.out HUz.out (fun k hk e=>by have:=hgb.out k hk;omega),T2.out.trans' HUz.out (fun i hi e=>by have:=HG.out;omega)⟩⟩
end Go.Proofs.YtldmkoogghemhaaGreat
