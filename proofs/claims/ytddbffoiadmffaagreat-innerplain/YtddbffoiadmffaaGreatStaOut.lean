import Derived.Test.YtddbffoiadmffaaGreatSumMath
namespace Go.Proofs.YtddbffoiadmffaaGreat
open Go.RowKit
set_option linter.unusedVariables false
set_option maxRecDepth 100000
structure LV where
 id:Int
 data:Int
 typ:Int
 cost:Int
structure BV where
 flags:Int
 links:List LV
 mask:Int
 routers:List Int
 metric:Int
 type2:Bool
 fwd:Int
 tag:Int
 data:List Int
def BV.zero:BV:=⟨0,[],0,[],0,false,0,0,[]⟩
structure LV.Ok (x:LV):Prop where
 i:0≤x.id∧x.id<4294967296
 d:0≤x.data∧x.data<4294967296
 t:0≤x.typ∧x.typ<256
 c:0≤x.cost∧x.cost<65536
structure BV.Ok (b:BV):Prop where
 f:0≤b.flags∧b.flags<256
 l:∀x∈b.links,x.Ok
 m:0≤b.mask∧b.mask<4294967296
 r:∀x∈b.routers,0≤x∧x<4294967296
 e:0≤b.metric∧b.metric<4294967296
 w:0≤b.fwd∧b.fwd<4294967296
 t:0≤b.tag∧b.tag<4294967296
 d:∀x∈b.data,0≤x∧x<256
structure HV.All (h:HV):Prop where
 a:0≤h.age∧h.age<65536
 o:0≤h.opts∧h.opts<256
 t:0≤h.typ∧h.typ<256
 i:0≤h.id∧h.id<4294967296
 v:0≤h.adv∧h.adv<4294967296
 s : -2147483648≤h.seq∧h.seq≤2147483647
 m:0≤h.sum∧h.sum<65536
 l:0≤h.len∧h.len<65536
def headB (h:HV):List Int:=numBytes 2 h.age++[h.opts,h.typ]++numBytes 4 h.id++numBytes 4 h.adv++numBytes 4 (h.seq%4294967296)++numBytes 2 h.sum++numBytes 2 h.len
theorem Qa1 (h:HV):(headB h).length=20:=by simp [headB,numBytes]
theorem Qbj {h:HV} (ok:h.All):∀z∈headB h,0≤z∧z<256:=by
 intro z hz
 simp only [headB,List.mem_append] at hz
 rcases hz with ((((((hz|hz)|hz)|hz)|hz)|hz)|hz)
 ·exact Qam _ _ z hz
 ·have h1:=ok.o
  have h2:=ok.t
  simp at hz
  rcases hz with rfl|rfl <;> omega
 ·exact Qam _ _ z hz
 ·exact Qam _ _ z hz
 ·exact Qam _ _ z hz
 ·exact Qam _ _ z hz
 ·exact Qam _ _ z hz
def linkB (x:LV):List Int:=numBytes 4 x.id++numBytes 4 x.data++[x.typ,0]++numBytes 2 x.cost
theorem Qgr (x:LV):(linkB x).length=12:=by simp [linkB,numBytes]
def linksB (l:List LV):List Int:=l.flatMap linkB
def routersB (l:List Int):List Int:=l.flatMap (numBytes 4)
theorem Qb8 (l:List LV):(linksB l).length=12*l.length:=by
 induction l with
 | nil=>rfl
 | cons x r ih=>unfold linksB at *;rw [List.flatMap_cons,List.length_append,ih,Qgr,List.length_cons];omega
theorem Qcm (l:List Int):(routersB l).length=4*l.length:=by
 induction l with
 | nil=>rfl
 | cons x r ih=>unfold routersB at *;rw [List.flatMap_cons,List.length_append,ih,Qal (by omega),List.length_cons];omega
theorem Qh9 (l:List LV) (x:LV):linksB (l++[x])=linksB l++linkB x:=by simp [linksB]
theorem Qgc (l:List Int) (x:Int):routersB (l++[x])=routersB l++numBytes 4 x:=by simp [routersB]
def metricN (b:BV):Int:=if b.type2 then (b.metric+2147483648)%4294967296 else b.metric
def layB (t:Int) (b:BV):List Int :=
 if t=1 then [b.flags,0]++numBytes 2 ((b.links.length:Int)%65536)++linksB b.links
 else if t=2 then numBytes 4 b.mask++routersB b.routers
 else if t=3∨t=4 then numBytes 4 b.mask++numBytes 4 b.metric
 else if t=5∨t=7 then numBytes 4 b.mask++numBytes 4 (metricN b)++numBytes 4 b.fwd++numBytes 4 b.tag
 else b.data
def sizeB (t:Int) (b:BV):Int :=
 if t=1 then 4+12*(b.links.length:Int) else if t=2 then 4+4*(b.routers.length:Int) else if t=3∨t=4 then 8 else if t=5∨t=7 then 16 else (b.data.length:Int)
theorem Qbe (t:Int) (b:BV):((layB t b).length:Int)=sizeB t b:=by
 unfold layB sizeB
 split
 ·simp [Qb8,numBytes];omega
 ·split
  ·simp [Qcm,numBytes];omega
  ·split
   ·simp [numBytes]
   ·split
    ·simp [numBytes]
    ·rfl
def knownB (t:Int):Bool:=(decide (1≤t)&&decide (t≤5)) || decide (t=7) || (decide (9≤t)&&decide (t≤11))
def aloneB (t:Int) (b:BV):Bool :=
 decide (t=1∨(b.flags=0∧b.links.length=0))&&decide (t=2∨b.routers.length=0)&&decide (t=2∨t=3∨t=5∨t=7∨b.mask=0)&&decide (t=3∨t=4∨t=5∨t=7∨b.metric=0)
  && decide (t=5∨t=7∨(b.type2=false∧b.fwd=0∧b.tag=0))&&decide (9≤t∨b.data.length=0)
def mayB (t:Int) (b:BV):Bool :=
 aloneB t b&&pbok b.mask&&decide (b.metric≤16777215)&&decide (b.data.length%4=0)&&decide (t=2→0<b.routers.length)&&b.links.all (fun x=>decide (1≤x.typ∧x.typ≤4))
structure May (t:Int) (b:BV):Prop where
 a1:t=1∨(b.flags=0∧b.links.length=0)
 a2:t=2∨b.routers.length=0
 a3:t=2∨t=3∨t=5∨t=7∨b.mask=0
 a4:t=3∨t=4∨t=5∨t=7∨b.metric=0
 a5:t=5∨t=7∨(b.type2=false∧b.fwd=0∧b.tag=0)
 a6:9≤t∨b.data.length=0
 mask:pbok b.mask=true
 met:b.metric≤16777215
 dat:b.data.length%4=0
 rou:t=2→0<b.routers.length
 lin:∀x∈b.links,1≤x.typ∧x.typ≤4
theorem Qef (t:Int) (b:BV):mayB t b=true↔May t b:=by
 unfold mayB aloneB
 simp only [Bool.and_eq_true,decide_eq_true_eq,List.all_eq_true]
 constructor
 ·rintro ⟨⟨⟨⟨⟨⟨⟨⟨⟨⟨h1,h2⟩,h3⟩,h4⟩,h5⟩,h6⟩,h7⟩,h8⟩,h9⟩,h10⟩,h11⟩
  exact⟨h1,h2,h3,h4,h5,h6,h7,h8,h9,h10,h11⟩
 ·rintro ⟨h1,h2,h3,h4,h5,h6,h7,h8,h9,h10,h11⟩
  exact⟨⟨⟨⟨⟨⟨⟨⟨⟨⟨h1,h2⟩,h3⟩,h4⟩,h5⟩,h6⟩,h7⟩,h8⟩,h9⟩,h10⟩,h11⟩
def readLinks:List Int→List LV
 | a::b::c::d::e::f::g::h::i::j::k::l::r=>⟨numOf [a,b,c,d],numOf [e,f,g,h],i,numOf [k,l]⟩::readLinks r
 | _=>[]
def readRouters:List Int→List Int
 | a::b::c::d::r=>numOf [a,b,c,d]::readRouters r
 | _=>[]
theorem Qec (ls:List LV) (h:∀x∈ls,x.Ok):readLinks (linksB ls)=ls:=by
 induction ls with
 | nil=>rfl
 | cons x r ih =>
  have hx:=h x (by simp)
  have hr:=ih (fun y hy=>h y (by simp [hy]))
  have e:linksB (x::r)=linkB x++linksB r:=by simp [linksB]
  rw [e]
  obtain⟨i,d,t,c⟩:=x
  obtain⟨⟨i0,i1⟩,⟨d0,d1⟩,⟨t0,t1⟩,⟨c0,c1⟩⟩:=hx
  dsimp only at i0 i1 d0 d1 t0 t1 c0 c1
  have e1:=Qbb i i0 i1
  have e2:=Qbb d d0 d1
  have e3:=Qhl c c0 c1
  rw [numBytes4] at e1 e2
  rw [numBytes2] at e3
  simp only [linkB,numBytes4,numBytes2,List.cons_append,List.nil_append,readLinks,hr]
  rw [e1,e2,e3]
theorem Qc1 (ls:List Int) (h:∀x∈ls,0≤x∧x<4294967296):readRouters (routersB ls)=ls:=by
 induction ls with
 | nil=>rfl
 | cons x r ih =>
  have hx:=h x (by simp)
  have hr:=ih (fun y hy=>h y (by simp [hy]))
  have e:routersB (x::r)=numBytes 4 x++routersB r:=by simp [routersB]
  rw [e]
  have e1:=Qbb x hx.1 hx.2
  rw [numBytes4] at e1
  simp only [numBytes4,List.cons_append,List.nil_append,readRouters,hr]
  rw [e1]
def readB (t:Int) (l:List Int):Option BV :=
 if t=1 then (if l.length<4 then none else some ⟨l.getD 0 0,readLinks (l.drop 4),0,[],0,false,0,0,[]⟩)
 else if t=2 then (if l.length<4 then none else some ⟨0,[],numOf (l.take 4),readRouters (l.drop 4),0,false,0,0,[]⟩)
 else if t=3∨t=4 then (if l.length≠8 then none else some ⟨0,[],numOf (l.take 4),[],numOf ((l.drop 4).take 4),false,0,0,[]⟩)
 else if t=5∨t=7 then (if l.length≠16 then none else some ⟨0,[],numOf (l.take 4),[],numOf ((l.drop 5).take 3),l.getD 4 0==128,numOf ((l.drop 8).take 4),numOf ((l.drop 12).take 4),[]⟩)
 else some ⟨0,[],0,[],0,false,0,0,l⟩
def decB (t:Int) (l:List Int):Option BV :=
 match readB t l with
 | none=>none
 | some b=>if mayB t b=true∧layB t b=l then some b else none
theorem Qbu {t:Int} {l:List Int} {b:BV} (h:decB t l=some b):readB t l=some b∧May t b∧layB t b=l:=by
 unfold decB at h
 split at h
 ·cases h
 ·rename_i c hc
  split at h
  ·rename_i hm
   cases h
   exact⟨hc,(Qef _ _).1 hm.1,hm.2⟩
  ·cases h
theorem Qkc {t:Int} {b:BV} (ok:b.Ok) (m:May t b):readB t (layB t b)=some b:=by
 obtain⟨fl,ls,ma,rs,me,t2,fw,tg,da⟩:=b
 obtain⟨⟨f0,f1⟩,okl,⟨m0,m1⟩,okr,⟨e0,e1⟩,⟨w0,w1⟩,⟨g0,g1⟩,okd⟩:=ok
 obtain⟨a1,a2,a3,a4,a5,a6,hm,hme,hda,hro,hli⟩:=m
 dsimp only at *
 unfold readB layB
 have n4:=Qbb ma m0 m1
 rw [numBytes4] at n4
 by_cases h1:t=1
 ·obtain rfl:da=[]:=List.length_eq_zero_iff.1 (by omega)
  obtain rfl:rs=[]:=List.length_eq_zero_iff.1 (by omega)
  obtain rfl:ma=0:=by omega
  obtain rfl:me=0:=by omega
  obtain⟨rfl,rfl,rfl⟩:t2=false∧fw=0∧tg=0:=by rcases a5 with h|h|h;omega;omega;exact h
  rw [if_pos h1,if_pos h1,numBytes2]
  simp only [List.cons_append,List.nil_append,List.length_cons]
  rw [if_neg (by omega)]
  simp [List.getD,Qec ls okl]
 ·have hb:fl=0∧ls.length=0:=by rcases a1 with h|h;exact absurd h h1;exact h
  obtain⟨rfl,hb⟩:=hb
  obtain rfl:ls=[]:=List.length_eq_zero_iff.1 hb
  rw [if_neg h1,if_neg h1]
  by_cases h2:t=2
  ·obtain rfl:da=[]:=List.length_eq_zero_iff.1 (by omega)
   obtain rfl:me=0:=by omega
   obtain⟨rfl,rfl,rfl⟩:t2=false∧fw=0∧tg=0:=by rcases a5 with h|h|h;omega;omega;exact h
   rw [if_pos h2,if_pos h2,numBytes4]
   simp only [List.cons_append,List.nil_append,List.length_cons]
   rw [if_neg (by omega)]
   simp only [List.take,List.drop,n4,Qc1 rs okr]
  ·obtain rfl:rs=[]:=List.length_eq_zero_iff.1 (by omega)
   rw [if_neg h2,if_neg h2]
   by_cases h3:t=3∨t=4
   ·obtain rfl:da=[]:=List.length_eq_zero_iff.1 (by omega)
    obtain⟨rfl,rfl,rfl⟩:t2=false∧fw=0∧tg=0:=by rcases a5 with h|h|h;omega;omega;exact h
    have n5:=Qbb me e0 e1
    rw [numBytes4] at n5
    rw [if_pos h3,if_pos h3,numBytes4,numBytes4]
    simp only [List.cons_append,List.nil_append,List.length_cons,List.length_nil]
    rw [if_neg (by omega)]
    simp only [List.take,List.drop,n4,n5]
   ·rw [if_neg h3,if_neg h3]
    by_cases h4:t=5∨t=7
    ·obtain rfl:da=[]:=List.length_eq_zero_iff.1 (by omega)
     rw [if_pos h4,if_pos h4,numBytes4,numBytes4,numBytes4,numBytes4]
     have n6:=Qbb fw w0 w1
     have n7:=Qbb tg g0 g1
     rw [numBytes4] at n6 n7
     have n8:=Qi6 me e0 (by omega)
     rw [numBytes3] at n8
     simp only [List.cons_append,List.nil_append,List.length_cons,List.length_nil]
     rw [if_neg (by omega)]
     cases t2 with
     | false =>
      simp only [metricN,Bool.false_eq_true,if_false,List.take,List.drop,List.getD,List.getElem?_cons_succ,List.getElem?_cons_zero,Option.getD,n4,n6,n7]
      rw [n8,show (me/16777216%256==128)=false by simp;omega]
     | true =>
      simp only [metricN,if_true,List.take,List.drop,List.getD,List.getElem?_cons_succ,List.getElem?_cons_zero,Option.getD,n4,n6,n7]
      rw [show (me+2147483648)%4294967296=me+2147483648 by omega]
      rw [show (me+2147483648)/65536%256=me/65536%256 by omega,show (me+2147483648)/256%256=me/256%256 by omega,show (me+2147483648)%256=me%256 by omega,n8,
       show ((me+2147483648)/16777216%256==128)=true by simp;omega]
    ·have hb:t2=false∧fw=0∧tg=0:=by rcases a5 with h|h|h;omega;omega;exact h
     obtain⟨rfl,rfl,rfl⟩:=hb
     obtain rfl:ma=0:=by omega
     obtain rfl:me=0:=by omega
     rw [if_neg h4,if_neg h4]
theorem Qev {t:Int} {b:BV} (ok:b.Ok) (m:May t b):decB t (layB t b)=some b:=by
 unfold decB
 rw [Qkc ok m]
 exact if_pos ⟨(Qef _ _).2 m,rfl⟩
def sealS (h:HV) (l:List Int):Int:=256*flx ((headB { h with len:=20+(l.length:Int) }++l).drop 2) 14+fly ((headB { h with len:=20+(l.length:Int) }++l).drop 2) 14
def sealH (h:HV) (l:List Int):HV:={ h with len:=20+(l.length:Int),sum:=sealS h l }
def LV.cells (x:LV):List Value:=[.int .u32 x.id,.int .u32 x.data,.int .u8 x.typ,.int .u16 x.cost]
def linksC (l:List LV):List Value:=l.flatMap LV.cells
def wordsC (l:List Int):List Value:=l.map (Value.int .u32)
theorem Qce (a b:List LV):linksC (a++b)=linksC a++linksC b:=by simp [linksC]
theorem Qbo (l:List LV) (j i:Nat) (x:LV) (hj:l[j]?=some x) (hi:i<4):(linksC l)[j*4+i]?=x.cells[i]?:=by
 induction l generalizing j with
 | nil=>simp at hj
 | cons y r ih =>
  have e:linksC (y::r)=y.cells++linksC r:=by simp [linksC]
  have hl:y.cells.length=4:=rfl
  rw [e]
  cases j with
  | zero =>
   obtain rfl:y=x:=by simpa using hj
   rw [List.getElem?_append_left (by omega),Nat.zero_mul,Nat.zero_add]
  | succ j =>
   rw [List.getElem?_append_right (by omega),hl,show (j+1)*4+i-4=j*4+i by omega]
   exact ih j (by simpa using hj)
def LinksAt (w:World) (v:Value) (l:List LV):Prop:=ValsAt w 4 v l.length (linksC l)
def WordsAt (w:World) (v:Value) (l:List Int):Prop:=ValsAt w 1 v l.length (wordsC l)
theorem LinksAt.keep {w w':World} {v:Value} {l:List LV} (h:LinksAt w v l) (t:Touch (fun _=>False) w w'):LinksAt w' v l:=ValsAt.keep h t
theorem WordsAt.keep {w w':World} {v:Value} {l:List Int} (h:WordsAt w v l) (t:Touch (fun _=>False) w w'):WordsAt w' v l:=ValsAt.keep h t
theorem ArgAt.keepN {w w':World} {v:Value} {l:List Int} (h:ArgAt w v l) (t:Touch (fun _=>False) w w'):ArgAt w' v l:=h.keep t (fun _ _ h=>h)
def BV.v (b:BV) (vl vr vd:Value):Value:=.agg #[.int .u8 b.flags,vl,.int .u32 b.mask,vr,.int .u32 b.metric,.bool b.type2,.int .u32 b.fwd,.int .u32 b.tag,vd]
structure BArg (w:World) (b:BV) (vl vr vd:Value):Prop where
 l:LinksAt w vl b.links
 r:WordsAt w vr b.routers
 d:ArgAt w vd b.data
theorem BArg.keep {w w':World} {b:BV} {vl vr vd:Value} (h:BArg w b vl vr vd) (t:Touch (fun _=>False) w w'):BArg w' b vl vr vd:=⟨h.l.keep t,h.r.keep t,h.d.keepN t⟩
structure Bd (w:World) (g:Nat) (b:BV) (vl vr vd:Value):Prop where
 c0:w.cell? ⟨g,0,none⟩=some (.int .u8 b.flags)
 c1:w.cell? ⟨g,1,none⟩=some vl
 c2:w.cell? ⟨g,2,none⟩=some (.int .u32 b.mask)
 c3:w.cell? ⟨g,3,none⟩=some vr
 c4:w.cell? ⟨g,4,none⟩=some (.int .u32 b.metric)
 c5:w.cell? ⟨g,5,none⟩=some (.bool b.type2)
 c6:w.cell? ⟨g,6,none⟩=some (.int .u32 b.fwd)
 c7:w.cell? ⟨g,7,none⟩=some (.int .u32 b.tag)
 c8:w.cell? ⟨g,8,none⟩=some vd
theorem Bd.keep {w w':World} {g:Nat} {b:BV} {vl vr vd:Value} (k:Bd w g b vl vr vd) (t:Touch (fun _=>False) w w'):Bd w' g b vl vr vd :=
 ⟨t.cellN k.c0,t.cellN k.c1,t.cellN k.c2,t.cellN k.c3,t.cellN k.c4,t.cellN k.c5,t.cellN k.c6,t.cellN k.c7,t.cellN k.c8⟩
theorem Bd.new (w:World) (b:BV) (vl vr vd:Value) (t:TypeId) :
  Bd (w.alloc (.cells #[.int .u8 b.flags,vl,.int .u32 b.mask,vr,.int .u32 b.metric,.bool b.type2,.int .u32 b.fwd,.int .u32 b.tag,vd] t)) w.heap.size b vl vr vd :=
 ⟨by simp [go_sem],by simp [go_sem],by simp [go_sem],by simp [go_sem],by simp [go_sem],by simp [go_sem],by simp [go_sem],by simp [go_sem],by simp [go_sem]⟩
def HV.sv (h:HV) (v:Value):Value:=.agg #[.int .u16 h.age,.int .u8 h.opts,.int .u8 h.typ,.int .u32 h.id,.int .u32 h.adv,.int .i32 h.seq,.int .u16 h.sum,.int .u16 h.len,v]
def HV.zero:HV:=⟨0,0,0,0,0,0,0,0⟩
structure Sd (w:World) (g:Nat) (h:HV) (v:Value):Prop where
 hd:Hd w g h
 c8:w.cell? ⟨g,8,none⟩=some v
theorem Sd.keep {w w':World} {g:Nat} {h:HV} {v:Value} (k:Sd w g h v) (t:Touch (fun _=>False) w w'):Sd w' g h v:=⟨k.hd.keep t,t.cellN k.c8⟩
theorem Sd.new (w:World) (h:HV) (v:Value) (t:TypeId) :
  Sd (w.alloc (.cells #[.int .u16 h.age,.int .u8 h.opts,.int .u8 h.typ,.int .u32 h.id,.int .u32 h.adv,.int .i32 h.seq,.int .u16 h.sum,.int .u16 h.len,v] t)) w.heap.size h v :=
 ⟨⟨by simp [go_sem],by simp [go_sem],by simp [go_sem],by simp [go_sem],by simp [go_sem],by simp [go_sem],by simp [go_sem],by simp [go_sem]⟩,by simp [go_sem]⟩
structure Out (w:World) (g:Nat) (h:HV) (v:Value):Prop where
 sd:Sd w g h v
 fz:∀i,i<9→w.frozen? ⟨g,i,none⟩=false
theorem Out.lt {w:World} {g:Nat} {h:HV} {v:Value} (k:Out w g h v):g<w.heap.size:=Qaa k.sd.hd.c0
theorem Out.keep {w w':World} {g:Nat} {h:HV} {v:Value} (k:Out w g h v) (t:Touch (fun _=>False) w w'):Out w' g h v :=
 ⟨k.sd.keep t,fun i hi=>(t.frozen (p:=⟨g,i,none⟩) k.lt (fun h=>h)).trans (k.fz i hi)⟩
theorem Out.new (w:World) (h:HV) (v:Value) (t:TypeId) :
  Out (w.alloc (.cells #[.int .u16 h.age,.int .u8 h.opts,.int .u8 h.typ,.int .u32 h.id,.int .u32 h.adv,.int .i32 h.seq,.int .u16 h.sum,.int .u16 h.len,v] t)) w.heap.size h v :=
 ⟨Sd.new w h v t,fun i hi=>by simp [go_sem]⟩
theorem Out.set6 {w:World} {g:Nat} {h:HV} {v:Value} (k:Out w g h v) (x:Int):Out (w.setCell ⟨g,6,none⟩ (.int .u16 x)) g { h with sum:=x } v:=by
 obtain⟨⟨⟨c0,c1,c2,c3,c4,c5,c6,c7⟩,c8⟩,fz⟩:=k
 exact⟨⟨⟨by simp [c0,go_sem],by simp [c1,go_sem],by simp [c2,go_sem],by simp [c3,go_sem],by simp [c4,go_sem],by simp [c5,go_sem],by simp [c6,go_sem],by simp [c7,go_sem]⟩,by simp [c8,go_sem]⟩,fun i hi=>by simp [fz i hi,go_sem]⟩
theorem Out.set7 {w:World} {g:Nat} {h:HV} {v:Value} (k:Out w g h v) (x:Int):Out (w.setCell ⟨g,7,none⟩ (.int .u16 x)) g { h with len:=x } v:=by
 obtain⟨⟨⟨c0,c1,c2,c3,c4,c5,c6,c7⟩,c8⟩,fz⟩:=k
 exact⟨⟨⟨by simp [c0,go_sem],by simp [c1,go_sem],by simp [c2,go_sem],by simp [c3,go_sem],by simp [c4,go_sem],by simp [c5,go_sem],by simp [c6,go_sem],by simp [c7,go_sem]⟩,by simp [c8,go_sem]⟩,fun i hi=>by simp [fz i hi,go_sem]⟩
theorem Out.set8 {w:World} {g:Nat} {h:HV} {v:Value} (k:Out w g h v) (u:Value):Out (w.setCell ⟨g,8,none⟩ u) g h u:=by
 obtain⟨⟨⟨c0,c1,c2,c3,c4,c5,c6,c7⟩,c8⟩,fz⟩:=k
 exact⟨⟨⟨by simp [c0,go_sem],by simp [c1,go_sem],by simp [c2,go_sem],by simp [c3,go_sem],by simp [c4,go_sem],by simp [c5,go_sem],by simp [c6,go_sem],by simp [c7,go_sem]⟩,by simp [c8,go_sem]⟩,fun i hi=>by simp [fz i hi,go_sem]⟩
theorem Out.other {w:World} {g:Nat} {h:HV} {v:Value} (k:Out w g h v) {p:Addr} (hp:p.block≠g) (u:Value):Out (w.setCell p u) g h v:=by
 have t:Touch (fun k=>k=p.block) w (w.setCell p u):=Touch.setCell (F:=fun k=>k=p.block) (Touch.refl _ w) (p:=p) (Or.inl rfl) u
 have hl:=k.lt
 have ce:∀i,(w.setCell p u).cell? ⟨g,i,none⟩=w.cell? ⟨g,i,none⟩:=fun i=>t.cell (p:=⟨g,i,none⟩) hl (fun e=>hp e.symm)
 obtain⟨⟨⟨c0,c1,c2,c3,c4,c5,c6,c7⟩,c8⟩,fz⟩:=k
 exact⟨⟨⟨(ce 0).trans c0,(ce 1).trans c1,(ce 2).trans c2,(ce 3).trans c3,(ce 4).trans c4,(ce 5).trans c5,(ce 6).trans c6,(ce 7).trans c7⟩,(ce 8).trans c8⟩,
  fun i hi=>(t.frozen (p:=⟨g,i,none⟩) hl (fun e=>hp e.symm)).trans (fz i hi)⟩
theorem Qa0 {w:World} {base e k n:Nat} {v:Value} {xs:List Value} (h:w.ownsRow base e k v n xs) {p:Addr} (hp:p.block<base) (u:Value):(w.setCell p u).ownsRow base e k v n xs :=
 Qab h (Touch.setCell (F:=fun k=>k=p.block) (Touch.refl _ w) (p:=p) (Or.inl rfl) u) (fun j hj e=>by have:=(h.lt j hj).1;omega)
theorem Qao {w:World} {base base' e k n:Nat} {v:Value} {xs:List Value} (h:w.ownsRow base e k v n xs) (hb:base'≤base):w.ownsRow base' e k v n xs:=by
 refine⟨h.1,?_⟩
 rcases h.2 with h2|⟨g,cap,cur,hv,hg,r⟩
 ·exact Or.inl h2
 ·exact Or.inr ⟨g,cap,cur,hv,by omega,r⟩
end Go.Proofs.YtddbffoiadmffaaGreat
