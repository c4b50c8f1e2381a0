import Derived.Test.YtldmkoogghemhaaGreatSumMath
namespace Go.Proofs.YtldmkoogghemhaaGreat
open Go.RowKit
set_option linter.unusedVariables false
set_option maxRecDepth 100000
structure LV where
 id:Int
 data:Int
 typ:Int
 cost:Int
structure BV where
 flags:Int
 links:List LV
 mask:Int
 routers:List Int
 metric:Int
 type2:Bool
 fwd:Int
 tag:Int
 data:List Int
def BV.zero:BV:=⟨0,[],0,[],0,false,0,0,[]⟩
structure LV.Ok (x:LV):Prop where
 i:0≤x.id∧x.id<4294967296
 d:0≤x.data∧x.data<4294967296
 t:0≤x.typ∧x.typ<256
 c:0≤x.cost∧x.cost<65536
structure BV.Ok (b:BV):Prop where
 f:0≤b.flags∧b.flags<256
 l:∀x∈b.links,x.Ok
 m:0≤b.mask∧b.mask<4294967296
 r:∀x∈b.routers,0≤x∧x<4294967296
 e:0≤b.metric∧b.metric<4294967296
 w:0≤b.fwd∧b.fwd<4294967296
 t:0≤b.tag∧b.tag<4294967296
 d:∀x∈b.data,0≤x∧x<256
structure HV.All (h:HV):Prop where
 a:0≤h.age∧h.age<65536
 o:0≤h.opts∧h.opts<256
 t:0≤h.typ∧h.typ<256
 i:0≤h.id∧h.id<4294967296
 v:0≤h.adv∧h.adv<4294967296
 s : -2147483648≤h.seq∧h.seq≤2147483647
 m:0≤h.sum∧h.sum<65536
 l:0≤h.len∧h.len<65536
def headB (h:HV):List Int:=numBytes 2 h.age++[h.opts,h.typ]++numBytes 4 h.id++numBytes 4 h.adv++numBytes 4 (h.seq%4294967296)++numBytes 2 h.sum++numBytes 2 h.len
theorem Qaq (h:HV):(headB h).length=20:=by simp [headB,numBytes]
theorem Qa4 {h:HV} (ok:h.All):∀z∈headB h,0≤z∧z<256:=by
 intro z hz
 simp only [headB,List.mem_append] at hz
 rcases hz with ((((((hz|hz)|hz)|hz)|hz)|hz)|hz)
 ·exact Qag _ _ z hz
 ·have h1:=ok.o
  have h2:=ok.t
  simp at hz
  rcases hz with rfl|rfl <;> omega
 ·exact Qag _ _ z hz
 ·exact Qag _ _ z hz
 ·exact Qag _ _ z hz
 ·exact Qag _ _ z hz
 ·exact Qag _ _ z hz
def linkB (x:LV):List Int:=numBytes 4 x.id++numBytes 4 x.data++[x.typ,0]++numBytes 2 x.cost
theorem Qez (x:LV):(linkB x).length=12:=by simp [linkB,numBytes]
def linksB (l:List LV):List Int:=l.flatMap linkB
def routersB (l:List Int):List Int:=l.flatMap (numBytes 4)
theorem Qcp (l:List LV):(linksB l).length=12*l.length:=by
 induction l with
 | nil=>rfl
 | cons x r ih=>unfold linksB at *;rw [List.flatMap_cons,List.length_append,ih,Qez,List.length_cons];omega
theorem Qb1 (l:List Int):(routersB l).length=4*l.length:=by
 induction l with
 | nil=>rfl
 | cons x r ih=>unfold routersB at *;rw [List.flatMap_cons,List.length_append,ih,Qaf (by omega),List.length_cons];omega
theorem Qgm (l:List LV) (x:LV):linksB (l++[x])=linksB l++linkB x:=by simp [linksB]
theorem Qd5 (l:List Int) (x:Int):routersB (l++[x])=routersB l++numBytes 4 x:=by simp [routersB]
def metricN (b:BV):Int:=if b.type2 then (b.metric+2147483648)%4294967296 else b.metric
def layB (t:Int) (b:BV):List Int :=
 if t=1 then [b.flags,0]++numBytes 2 ((b.links.length:Int)%65536)++linksB b.links
 else if t=2 then numBytes 4 b.mask++routersB b.routers
 else if t=3∨t=4 then numBytes 4 b.mask++numBytes 4 b.metric
 else if t=5∨t=7 then numBytes 4 b.mask++numBytes 4 (metricN b)++numBytes 4 b.fwd++numBytes 4 b.tag
 else b.data
def sizeB (t:Int) (b:BV):Int :=
 if t=1 then 4+12*(b.links.length:Int) else if t=2 then 4+4*(b.routers.length:Int) else if t=3∨t=4 then 8 else if t=5∨t=7 then 16 else (b.data.length:Int)
theorem Qc7 (t:Int) (b:BV):((layB t b).length:Int)=sizeB t b:=by
 unfold layB sizeB
 split
 ·simp [Qcp,numBytes];omega
 ·split
  ·simp [Qb1,numBytes];omega
  ·split
   ·simp [numBytes]
   ·split
    ·simp [numBytes]
    ·rfl
def knownB (t:Int):Bool:=(decide (1≤t)&&decide (t≤5)) || decide (t=7) || (decide (9≤t)&&decide (t≤11))
def aloneB (t:Int) (b:BV):Bool :=
 decide (t=1∨(b.flags=0∧b.links.length=0))&&decide (t=2∨b.routers.length=0)&&decide (t=2∨t=3∨t=5∨t=7∨b.mask=0)&&decide (t=3∨t=4∨t=5∨t=7∨b.metric=0)
  && decide (t=5∨t=7∨(b.type2=false∧b.fwd=0∧b.tag=0))&&decide (9≤t∨b.data.length=0)
def mayB (t:Int) (b:BV):Bool :=
 aloneB t b&&pbok b.mask&&decide (b.metric≤16777215)&&decide (b.data.length%4=0)&&decide (t=2→0<b.routers.length)&&b.links.all (fun x=>decide (1≤x.typ∧x.typ≤4))
structure May (t:Int) (b:BV):Prop where
 a1:t=1∨(b.flags=0∧b.links.length=0)
 a2:t=2∨b.routers.length=0
 a3:t=2∨t=3∨t=5∨t=7∨b.mask=0
 a4:t=3∨t=4∨t=5∨t=7∨b.metric=0
 a5:t=5∨t=7∨(b.type2=false∧b.fwd=0∧b.tag=0)
 a6:9≤t∨b.data.length=0
 mask:pbok b.mask=true
 met:b.metric≤16777215
 dat:b.data.length%4=0
 rou:t=2→0<b.routers.length
 lin:∀x∈b.links,1≤x.typ∧x.typ≤4
theorem Qbi (t:Int) (b:BV):mayB t b=true↔May t b:=by
 unfold mayB aloneB
 simp only [Bool.and_eq_true,decide_eq_true_eq,List.all_eq_true]
 constructor
 ·rintro ⟨⟨⟨⟨⟨⟨⟨⟨⟨⟨h1,h2⟩,h3⟩,h4⟩,h5⟩,h6⟩,h7⟩,h8⟩,h9⟩,h10⟩,h11⟩
  exact⟨h1,h2,h3,h4,h5,h6,h7,h8,h9,h10,h11⟩
 ·rintro ⟨h1,h2,h3,h4,h5,h6,h7,h8,h9,h10,h11⟩
  exact⟨⟨⟨⟨⟨⟨⟨⟨⟨⟨h1,h2⟩,h3⟩,h4⟩,h5⟩,h6⟩,h7⟩,h8⟩,h9⟩,h10⟩,h11⟩
def readLinks:List Int→List LV
 | a::b::c::d::e::f::g::h::i::j::k::l::r=>⟨numOf [a,b,c,d],numOf [e,f,g,h],i,numOf [k,l]⟩::readLinks r
 | _=>[]
def readRouters:List Int→List Int
 | a::b::c::d::r=>numOf [a,b,c,d]::readRouters r
 | _=>[]
theorem Qcx (ls:List LV) (h:∀x∈ls,x.Ok):readLinks (linksB ls)=ls:=by
 induction ls with
 | nil=>rfl
 | cons x r ih =>
  have hx:=h x (by simp)
  have hr:=ih (fun y hy=>h y (by simp [hy]))
  have e:linksB (x::r)=linkB x++linksB r:=by simp [linksB]
  rw [e]
  obtain⟨i,d,t,c⟩:=x
  obtain⟨⟨i0,i1⟩,⟨d0,d1⟩,⟨t0,t1⟩,⟨c0,c1⟩⟩:=hx
  dsimp only at i0 i1 d0 d1 t0 t1 c0 c1
  have e1:=Qa9 i i0 i1
  have e2:=Qa9 d d0 d1
  have e3:=Qif c c0 c1
  rw [numBytes4] at e1 e2
  rw [numBytes2] at e3
  simp only [linkB,numBytes4,numBytes2,List.cons_append,List.nil_append,readLinks,hr]
  rw [e1,e2,e3]
theorem Qb8 (ls:List Int) (h:∀x∈ls,0≤x∧x<4294967296):readRouters (routersB ls)=ls:=by
 induction ls with
 | nil=>rfl
 | cons x r ih =>
  have hx:=h x (by simp)
  have hr:=ih (fun y hy=>h y (by simp [hy]))
  have e:routersB (x::r)=numBytes 4 x++routersB r:=by simp [routersB]
  rw [e]
  have e1:=Qa9 x hx.1 hx.2
  rw [numBytes4] at e1
  simp only [numBytes4,List.cons_append,List.nil_append,readRouters,hr]
  rw [e1]
def readB (t:Int) (l:List Int):Option BV :=
 if t=1 then (if l.length<4 then none else some ⟨l.getD 0 0,readLinks (l.drop 4),0,[],0,false,0,0,[]⟩)
 else if t=2 then (if l.length<4 then none else some ⟨0,[],numOf (l.take 4),readRouters (l.drop 4),0,false,0,0,[]⟩)
 else if t=3∨t=4 then (if l.length≠8 then none else some ⟨0,[],numOf (l.take 4),[],numOf ((l.drop 4).take 4),false,0,0,[]⟩)
 else if t=5∨t=7 then (if l.length≠16 then none else some ⟨0,[],numOf (l.take 4),[],numOf ((l.drop 5).take 3),l.getD 4 0==128,numOf ((l.drop 8).take 4),numOf ((l.drop 12).take 4),[]⟩)
 else some ⟨0,[],0,[],0,false,0,0,l⟩
def decB (t:Int) (l:List Int):Option BV :=
 match readB t l with
 | none=>none
 | some b=>if mayB t b=true∧layB t b=l then some b else none
theorem Qj6 {t:Int} {l:List Int} {b:BV} (h:decB t l=some b):readB t l=some b∧May t b∧layB t b=l:=by
 unfold decB at h
 split at h
 ·cases h
 ·rename_i c hc
  split at h
  ·rename_i hm
   cases h
   exact⟨hc,(Qbi _ _).1 hm.1,hm.2⟩
  ·cases h
theorem Qh6 {t:Int} {b:BV} (ok:b.Ok) (m:May t b):readB t (layB t b)=some b:=by
 obtain⟨fl,ls,ma,rs,me,t2,fw,tg,da⟩:=b
 obtain⟨⟨f0,f1⟩,okl,⟨m0,m1⟩,okr,⟨e0,e1⟩,⟨w0,w1⟩,⟨g0,g1⟩,okd⟩:=ok
 obtain⟨a1,a2,a3,a4,a5,a6,hm,hme,hda,hro,hli⟩:=m
 dsimp only at *
 unfold readB layB
 have n4:=Qa9 ma m0 m1
 rw [numBytes4] at n4
 by_cases h1:t=1
 ·obtain rfl:da=[]:=List.length_eq_zero_iff.1 (by omega)
  obtain rfl:rs=[]:=List.length_eq_zero_iff.1 (by omega)
  obtain rfl:ma=0:=by omega
  obtain rfl:me=0:=by omega
  obtain⟨rfl,rfl,rfl⟩:t2=false∧fw=0∧tg=0:=by rcases a5 with h|h|h;omega;omega;exact h
  rw [if_pos h1,if_pos h1,numBytes2]
  simp only [List.cons_append,List.nil_append,List.length_cons]
  rw [if_neg (by omega)]
  simp [List.getD,Qcx ls okl]
 ·have hb:fl=0∧ls.length=0:=by rcases a1 with h|h;exact absurd h h1;exact h
  obtain⟨rfl,hb⟩:=hb
  obtain rfl:ls=[]:=List.length_eq_zero_iff.1 hb
  rw [if_neg h1,if_neg h1]
  by_cases h2:t=2
  ·obtain rfl:da=[]:=List.length_eq_zero_iff.1 (by omega)
   obtain rfl:me=0:=by omega
   obtain⟨rfl,rfl,rfl⟩:t2=false∧fw=0∧tg=0:=by rcases a5 with h|h|h;omega;omega;exact h
   rw [if_pos h2,if_pos h2,numBytes4]
   simp only [List.cons_append,List.nil_append,List.length_cons]
   rw [if_neg (by omega)]
   simp only [List.take,List.drop,n4,Qb8 rs okr]
  ·obtain rfl:rs=[]:=List.length_eq_zero_iff.1 (by omega)
   rw [if_neg h2,if_neg h2]
   by_cases h3:t=3∨t=4
   ·obtain rfl:da=[]:=List.length_eq_zero_iff.1 (by omega)
    obtain⟨rfl,rfl,rfl⟩:t2=false∧fw=0∧tg=0:=by rcases a5 with h|h|h;omega;omega;exact h
    have n5:=Qa9 me e0 e1
    rw [numBytes4] at n5
    rw [if_pos h3,if_pos h3,numBytes4,numBytes4]
    simp only [List.cons_append,List.nil_append,List.length_cons,List.length_nil]
    rw [if_neg (by omega)]
    simp only [List.take,List.drop,n4,n5]
   ·rw [if_neg h3,if_neg h3]
    by_cases h4:t=5∨t=7
    ·obtain rfl:da=[]:=List.length_eq_zero_iff.1 (by omega)
     rw [if_pos h4,if_pos h4,numBytes4,numBytes4,numBytes4,numBytes4]
     have n6:=Qa9 fw w0 w1
     have n7:=Qa9 tg g0 g1
     rw [numBytes4] at n6 n7
     have n8:=Qga me e0 (by omega)
     rw [numBytes3] at n8
     simp only [List.cons_append,List.nil_append,List.length_cons,List.length_nil]
     rw [if_neg (by omega)]
     cases t2 with
     | false =>
      simp only [metricN,Bool.false_eq_true,if_false,List.take,List.drop,List.getD,List.getElem?_cons_succ,List.getElem?_cons_zero,Option.getD,n4,n6,n7]
      rw [n8,show (me/16777216%256==128)=false by simp;omega]
     | true =>
      simp only [metricN,if_true,List.take,List.drop,List.getD,List.getElem?_cons_succ,List.getElem?_cons_zero,Option.getD,n4,n6,n7]
      rw [show (me+2147483648)%4294967296=me+2147483648 by omega]
      rw [show (me+2147483648)/65536%256=me/65536%256 by omega,show (me+2147483648)/256%256=me/256%256 by omega,show (me+2147483648)%256=me%256 by omega,n8,
       show ((me+2147483648)/16777216%256==128)=true by simp;omega]
    ·have hb:t2=false∧fw=0∧tg=0:=by rcases a5 with h|h|h;omega;omega;exact h
     obtain⟨rfl,rfl,rfl⟩:=hb
     obtain rfl:ma=0:=by omega
     obtain rfl:me=0:=by omega
     rw [if_neg h4,if_neg h4]
theorem Qeo {t:Int} {b:BV} (ok:b.Ok) (m:May t b):decB t (layB t b)=some b:=by
 unfold decB
 rw [Qh6 ok m]
 exact if_pos ⟨(Qbi _ _).2 m,rfl⟩
def sealS (h:HV) (l:List Int):Int:=256*flx ((headB { h with len:=20+(l.length:Int) }++l).drop 2) 14+fly ((headB { h with len:=20+(l.length:Int) }++l).drop 2) 14
def sealH (h:HV) (l:List Int):HV:={ h with len:=20+(l.length:Int),sum:=sealS h l }
end Go.Proofs.YtldmkoogghemhaaGreat
