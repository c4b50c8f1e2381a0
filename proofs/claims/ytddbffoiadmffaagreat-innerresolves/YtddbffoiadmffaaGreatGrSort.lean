import Derived.Test.YtddbffoiadmffaaGreatGrCnt3
import Derived.Maps.RangeRun
import Derived.OwnWalk
namespace Go.Proofs.YtddbffoiadmffaaGreat
set_option maxHeartbeats 8000000
open Go.RowKit Go.Sort
open Go.ChangeMaps (setBlock)
set_option linter.unusedVariables false
set_option maxRecDepth 100000
theorem Qfv:∀(l:List Int),(∀z∈l,0≤z∧z<256)→∀x∈readRouters l,0≤x∧x<4294967296
 | [],_,x,hx=>by simp [readRouters] at hx
 | [_],_,x,hx=>by simp [readRouters] at hx
 | [_,_],_,x,hx=>by simp [readRouters] at hx
 | [_,_,_],_,x,hx=>by simp [readRouters] at hx
 | a::b::c::d::r,h,x,hx=>by
  rw [readRouters] at hx
  rcases List.mem_cons.1 hx with rfl|hx
  ·exact Qd0 (h a (by simp)) (h b (by simp)) (h c (by simp)) (h d (by simp))
  ·exact Qfv r (fun z hz=>h z (by simp [hz])) x hx
structure BV.Rg (b:BV):Prop where
 l:∀x∈b.links,x.Ok
 m:0≤b.mask∧b.mask<4294967296
 r:∀x∈b.routers,0≤x∧x<4294967296
 nl:b.links.length≤65536
 nr:b.routers.length≤65536
theorem Qsk {t:Int} {rs:List Int} {b:BV} (hrl:rs.length≤65536) (ht:t=1∨t=2) (hby:∀z∈rs,0≤z∧z<256) (h:decB t rs=some b):b.Rg:=by
 have h1:=(Qb2 h).1
 have h2:=Qbh t b
 rw [(Qb2 h).2.2] at h2
 unfold readB at h1
 rcases ht with rfl|rfl
 ·rw [if_pos rfl] at h1
  split at h1
  ·cases h1
  ·cases h1
   exact⟨Qcv _ (fun z hz=>hby z (List.mem_of_mem_drop hz)),by simp,by simp,by simp [sizeB] at h2 ⊢;omega,by simp⟩
 ·rw [if_neg (by omega),if_pos rfl] at h1
  split at h1
  ·cases h1
  ·rename_i hl
   cases h1
   refine⟨by simp,?_,Qfv _ (fun z hz=>hby z (List.mem_of_mem_drop hz)),by simp,by simp [sizeB] at h2 ⊢;omega⟩
   obtain⟨a,b,c,d,e⟩:∃a b c d,rs.take 4=[a,b,c,d]:=by
    match rs,hl with
    | a::b::c::d::r,_=>exact⟨a,b,c,d,rfl⟩
    | [],h=>simp at h
    | [_],h=>simp at h
    | [_,_],h=>simp at h
    | [_,_,_],h=>simp at h
   have q:∀z∈[a,b,c,d],0≤z∧z<256:=fun z hz=>hby z (List.mem_of_mem_take (by rw [e];exact hz))
   show 0≤numOf (rs.take 4)∧numOf (rs.take 4)<4294967296
   rw [e]
   exact Qd0 (q a (by simp)) (q b (by simp)) (q c (by simp)) (q d (by simp))
structure SD.Kn (x:SD):Prop where
 all:x.h.All
 fine:x.sv.Fine
 rg:x.b.Rg
structure SD.Ok (w:World) (x:SD):Prop where
 kn:x.Kn
 arg:BArg w x.b x.vl x.vr x.vd
theorem SD.Ok.keep {w w':World} {x:SD} (h:x.Ok w) (t:Touch (fun _=>False) w w'):x.Ok w':=⟨h.kn,h.arg.keep t⟩
structure SaidsAt (w:World) (v:Value) (L:List SD):Prop where
 vals:ValsAt w 17 v L.length (saidC L)
 ok:∀x∈L,x.Ok w
theorem SaidsAt.keep {w w':World} {v:Value} {L:List SD} (h:SaidsAt w v L) (t:Touch (fun _=>False) w w'):SaidsAt w' v L:=⟨h.vals.keep t,fun x hx=>(h.ok x hx).keep t⟩
def lfZ (Z:List (MapEntry×SE)) (seen:Array Nat):List (MapEntry×SE):=Z.filter (fun p=>!seen.contains p.1.born)
theorem Qjp {α:Type} (g:α→Nat):∀{X:List α},(X.map g).Nodup→∀{a:α},a∈X→X.Perm (a::X.filter (fun p=>!(g p==g a)))
 | [],_,a,h=>by simp at h
 | x::X,nd,a,h=>by
  rw [List.map_cons,List.nodup_cons] at nd
  rcases List.mem_cons.1 h with rfl|h
  ·rw [List.filter_cons_of_neg (by simp)]
   have e:X.filter (fun p=>!(g p==g a))=X:=List.filter_eq_self.2 (fun p hp=>by
    simp only [Bool.not_eq_true',beq_eq_false_iff_ne]
    intro e
    exact nd.1 (e ▸ List.mem_map.2 ⟨p,hp,rfl⟩))
   rw [e]
  ·have hne:¬g x=g a:=fun e=>nd.1 (e ▸ List.mem_map.2 ⟨a,h,rfl⟩)
   rw [List.filter_cons_of_pos (by simpa using hne)]
   exact ((Qjp g nd.2 h).cons x).trans (List.Perm.swap a x _)
theorem Qgr (s:Array Nat) (b c:Nat):(s.push b).contains c=(s.contains c || c==b):=by
 rw [Bool.eq_iff_iff]
 simp
theorem Qrp {Z:List (MapEntry×SE)} {seen:Array Nat} (nd:(Z.map (fun p=>p.1.born)).Nodup) {p:MapEntry×SE} (hp:p∈lfZ Z seen):(lfZ Z seen).Perm (p::lfZ Z (seen.push p.1.born)):=by
 have e:lfZ Z (seen.push p.1.born)=(lfZ Z seen).filter (fun q=>!(q.1.born==p.1.born)):=by
  unfold lfZ
  rw [List.filter_filter]
  apply List.filter_congr
  intro q _
  rw [Qgr]
  cases seen.contains q.1.born <;> cases h:(q.1.born==p.1.born) <;> simp
 rw [e]
 exact Qjp (fun q=>q.1.born) ((List.Sublist.map _ List.filter_sublist).nodup nd) hp
theorem Qmf {es:Array MapEntry} {B:List SE} (hl:es.size=B.length) (seen:Array Nat):(lfZ (es.toList.zip B) seen).map Prod.fst=(leftOf es seen).toList:=by
 unfold lfZ leftOf
 rw [Array.toList_filter]
 conv=>rhs;rw [show es.toList=(es.toList.zip B).map Prod.fst from (List.map_fst_zip (by simp [hl])).symm]
 rw [List.filter_map]
 rfl
theorem Qqs {es:Array MapEntry} {B:List SE} (hl:es.size=B.length):(es.toList.zip B).map (fun p=>p.1.born)=es.toList.map (·.born):=by
 have:(es.toList.zip B).map (fun p=>p.1.born)=((es.toList.zip B).map Prod.fst).map (·.born):=by rw [List.map_map];rfl
 rw [this,List.map_fst_zip (by simp [hl])]
theorem Quz {es:Array MapEntry} {B:List SE} (he:es.toList.map (fun e=>(e.key,e.val))=bestL B) {p:MapEntry×SE} (hp:p∈es.toList.zip B):p.1.val=p.2.h.sv p.2.v∧p.2∈B∧p.1∈es.toList:=by
 obtain⟨i,hi⟩:=List.mem_iff_getElem?.1 hp
 rw [List.getElem?_zip_eq_some] at hi
 obtain⟨h1,h2⟩:=hi
 have h3:=Qdn he h1
 unfold bestL at h3
 rw [List.getElem?_map,h2] at h3
 injection h3 with h3
 exact⟨(congrArg Prod.snd h3).symm,List.mem_of_getElem? h2,List.mem_of_getElem? h1⟩
structure IR (w wr:World) (B:List SE) (es:Array MapEntry) (c g r m:Nat) (gg:Nat) (v3:Value):Prop where
 out:∃seen L c0,wr.heap[r]?=some (.mapIter (some m) c seen c0)∧c≤c0∧v3=.slice (some ⟨g,0,none⟩) L.length B.length∧wr.ownsRow g 125 17 (.slice (some ⟨g,0,none⟩) L.length B.length) L.length (saidC L) ∧
  (∀x∈L,x.Kn∧BOwn (r+1) wr x.b x.vl x.vr x.vd)∧(L.map SD.sv++(lfZ (es.toList.zip B) seen).map (fun p=>p.2.sv)).Perm (B.map SE.sv)∧(lfZ (es.toList.zip B) seen).length≤gg
 m:wr.heap[m]?=some (.map es c)
 t:Touch (fun k=>False) w wr
theorem Qlg (L:List SD) (x:SD):saidC (L++[x])=saidC L++x.cells:=by simp [saidC]
theorem Qcs (x:SD) (h:∃a1 n1 q1 a3 n3 q3 a8 n8 q8,x.vl=.slice a1 n1 q1∧x.vr=.slice a3 n3 q3∧x.vd=.slice a8 n8 q8):∀u∈x.cells,u.oneCell'=true:=by
 obtain⟨a1,n1,q1,a3,n3,q3,a8,n8,q8,e1,e2,e3⟩:=h
 intro u hu
 simp only [SD.cells,e1,e2,e3,List.mem_cons,List.not_mem_nil,or_false] at hu
 rcases hu with rfl|rfl|rfl|rfl|rfl|rfl|rfl|rfl|rfl|rfl|rfl|rfl|rfl|rfl|rfl|rfl|rfl <;> rfl
theorem Qon (Z:List (MapEntry×SE)):lfZ Z #[]=Z:=by
 unfold lfZ
 exact List.filter_eq_self.2 (fun p _=>by simp)
theorem infoSaid:(Tryz.prog.info? 125).map (fun i=>(i.zero,i.size,i.bytes))=some (some (.agg #[.int .u16 0,.int .u8 0,.int .u8 0,.int .u32 0,.int .u32 0,.int .i32 0,.int .u16 0,.int .u16 0,.int .u8 0,.slice none 0 0,.int .u32 0,.slice none 0 0,.int .u32 0,.bool false,.int .u32 0,.int .u32 0,.slice none 0 0]),17,128):=by kernel_rfl
theorem Qld (w:World) (m:Nat) (B:List SE) (hm:AM w 127 m (bestL B)) (hB:∀y∈B,y.Ok w∧cntB y.h y.rs=true∧RdOk y.h.typ) (hn:B.length≤1000000) (Q:Value→World→Prop)
  (HS:∀w' g L,w.heap.size≤g→Touch (fun _=>False) w w'→w'.ownsRow w.heap.size 125 17 (.slice (some ⟨g,0,none⟩) L.length B.length) L.length (saidC L)→(∀x∈L,x.Kn∧BOwn (g+1) w' x.b x.vl x.vr x.vd)→(L.map SD.sv).Perm (B.map SE.sv) →
   Calls Tryz.prog 148 #[.slice (some ⟨g,0,none⟩) L.length B.length,.func (.func 149) #[] #[]] w' fun e w''=>e=.returned (.tuple #[])∧Q (.slice (some ⟨g,0,none⟩) L.length B.length) w'') :
  Calls Tryz.prog 106 #[.map (some m)] w fun e w'=>∃u,e=.returned u∧Q u w':=by
 have HL:=fun ty=>hm.len (M:=197) (by kernel_rfl) ty
 have hlen:(bestL B).length=B.length:=by simp [bestL]
 rw [hlen] at HL
 obtain⟨es,c,hh,he,hnd,hbn⟩:=hm.out
 have hml:=hm.lt
 have hsz:es.size=B.length:=by
  have:=congrArg List.length he
  simpa [bestL] using this
 have HE:Hid (es.toList.map (fun e=>(e.key,e.val))=bestL B∧(es.toList.map (·.born)).Nodup∧(∀e∈es.toList,e.born<c)∧es.size=B.length):=⟨he,hnd,hbn,hsz⟩
 have HBa:Hid (∀y∈B,y.Ok w∧cntB y.h y.rs=true∧RdOk y.h.typ):=hB
 have HSo:Hid _:=HS
 have HHm:Hid (w.heap[m]?=some (.map es c)):=hh
 obtain⟨i0,hi,hz0,hz1,hz2⟩:=info_parts infoSaid
 have hn':(B.length:Int)≤1000000:=by omega
 clear hm hB HS he hnd hbn hsz hlen
 go_enter Tryz.func106,Tryz.ntmps106
 go_wp2_with (at_make;refine wpList_make_own _ rfl _ _ 121 rfl w.heap.size 125 i0 _ 17 Tryz.underlying121 hi hz0 hz1 .i64 .i64 _ B.length rfl rfl ?c1 ?c2 ?c3 ?c4 ?_)
 any_goals (first|omega|(rw [hz2];omega)|(unfold maxLen;omega))
 intro w1 o1 gr1
 have t1:Touch (fun _=>False) w w1:=(Touch.refl _ w).grown gr1 (by simp)
 have h1:w1.heap[m]?=some (.map es c):=t1.heapN hh
 have hrg:=run_range_map (P:=Tryz.prog) w1 197 _ _ m es c Tryz.underlying197 h1
 have hg:w.heap.size<w1.heap.size:=(o1.lt w.heap.size rfl).2
 have HR0:Hid (IR w (w1.alloc (.mapIter (some m) c #[] c)) B es c w.heap.size w1.heap.size m B.length (.slice (some ⟨w.heap.size,0,none⟩) 0 B.length)):=by
  have ta:Touch (fun _=>False) w1 (w1.alloc (.mapIter (some m) c #[] c)):=(Touch.refl _ _).alloc _
  have hzl:(es.toList.zip B).map Prod.snd=B:=List.map_snd_zip (by simp [HE.out.2.2.2])
  refine⟨⟨#[],[],c,?_,Nat.le_refl _,rfl,Qab o1 ta (fun _ _ h=>h),by simp,?_,?_⟩,ta.heapN h1,t1.trans ta⟩
  ·show (w1.heap.push _)[w1.heap.size]?=_
   simp
  ·rw [Qon]
   have:(es.toList.zip B).map (fun p=>p.2.sv)=B.map SE.sv:=by
    conv=>rhs;rw [←hzl]
    rw [List.map_map]
    rfl
   simp [this]
  ·rw [Qon]
   simp [HE.out.2.2.2]
 have HG:Hid (w.heap.size<w1.heap.size):=hg
 clear o1 gr1 h1 hh
 go_wp2_with fail
 clear hrg hz0 hi hz1 hz2 i0
 have HT1:Hid (Touch (fun _=>False) w w1):=t1
 clear t1 hg HL
 generalize w1.alloc (.mapIter (some m) c #[] c)=w2 at *
 generalize hr:w1.heap.size=r at *
 generalize hgz:w.heap.size=g at *
 have HW:Hid (w.heap.size=g∧m<w.heap.size∧g<r):=⟨hgz,by omega,HG.out⟩
 clear HT1 HG hr
 go_loopg [3] B.length (fun gg s3 wr=>IR w wr B es c g r m gg s3)
 case atStart=>exact HR0.out
 case round =>
  obtain⟨⟨seen,L,c0,hir,hc0,rfl,own,hx,hp,hle⟩,hmw,t⟩:=hrel
  clear HR0
  have HT:Hid (Touch (fun _=>False) w wr):=t
  have HO:Hid (wr.ownsRow g 125 17 (.slice (some ⟨g,0,none⟩) L.length B.length) L.length (saidC L)):=own
  have HX:Hid (∀x∈L,x.Kn∧BOwn (r+1) wr x.b x.vl x.vr x.vd):=hx
  have HP:Hid ((L.map SD.sv++(lfZ (es.toList.zip B) seen).map (fun p=>p.2.sv)).Perm (B.map SE.sv)):=hp
  rcases run_next_at (P:=Tryz.prog) wr 0 r m c c0 seen es c hir hmw HE.out.2.2.1 hc0 with⟨h0,hrun⟩|⟨e,hel,w1',hal,hrun⟩
  ·have hz:lfZ (es.toList.zip B) seen=[]:=by
    have h2:=Qmf (seen:=seen) HE.out.2.2.2
    have h3:(leftOf es seen).toList=[]:=List.length_eq_zero_iff.1 (by simpa using h0)
    rw [h3] at h2
    exact List.map_eq_nil_iff.1 h2
   have HC:=HSo.out wr g L (by have:=HW.out;omega) t own (fun x hx'=>⟨(hx x hx').1,(hx x hx').2.lower (by have:=HW.out;omega)⟩) (by rw [hz] at hp;simpa using hp)
   clear own hx hp hle hmw t hc0 hir h0 HSo HX HP HO
   go_wp2_with fail
   refine HC.mono ?_
   rintro e w3 ⟨rfl,hq⟩
   have HQ:Hid _:=hq
   clear hq HC
   go_wp2_with fail
   go_ret
   exact⟨_,rfl,HQ.out⟩
  ·obtain⟨p,hpm,rfl⟩:∃p∈lfZ (es.toList.zip B) seen,p.1=e:=by
    have h2:=Qmf (seen:=seen) HE.out.2.2.2
    rw [←h2] at hel
    exact List.mem_map.1 hel
   have hpz:p∈es.toList.zip B:=(List.mem_filter.1 hpm).1
   obtain⟨hev,hyB,hes⟩:=Quz HE.out.1 hpz
   have HPU:Hid ((lfZ (es.toList.zip B) seen).Perm (p::lfZ (es.toList.zip B) (seen.push p.1.born))):=Qrp (by rw [Qqs HE.out.2.2.2];exact HE.out.2.1) hpm
   obtain⟨yok,ycn,yrd⟩:=HBa.out p.2 hyB
   obtain⟨b,hb,hbl,hbk⟩:=Qih (Qdj ycn).2.2.2
   have hw1:w1'.heap=wr.heap:=by rcases hal with rfl|rfl <;> rfl
   obtain⟨w3,hw3⟩:∃u,u=setBlock w1' r (.mapIter (some m) c (seen.push p.1.born) c):=⟨_,rfl⟩
   rw [←hw3] at hrun
   have hir':w1'.heap[r]?=some (.mapIter (some m) c seen c0):=by rw [hw1];exact hir
   have hir3:w3.heap[r]?=some (.mapIter (some m) c (seen.push p.1.born) c):=by rw [hw3];exact Qh3 hir'
   have t3:Touch (fun k=>k=r) wr w3:=by
    rw [hw3]
    refine Touch.trans (b:=w1') ?_ (Qdq hir')
    rcases hal with rfl|rfl
    ·exact Touch.refl _ _
    ·exact (Touch.refl _ _).drew
   have hm3:w3.heap[m]?=some (.map es c):=(t3.block m (Qat hmw) (by have:=HW.out;omega)).trans hmw
   have hent:=run_entry_at (P:=Tryz.prog) w3 r m c seen es c p.1 hir3 hm3 hes HE.out.2.1
   have T3:Hid (Touch (fun k=>k=r) wr w3):=t3
   have HM3:Hid (w3.heap[r]?=some (.mapIter (some m) c (seen.push p.1.born) c)∧w3.heap[m]?=some (.map es c)):=⟨hir3,hm3⟩
   have HLE:Hid _:=hle
   have HY:Hid (cntB p.2.h p.2.rs=true∧decB p.2.h.typ p.2.rs=some b):=⟨ycn,hb⟩
   have TW:Touch (fun _=>False) w w3:=HT.out.trans' t3 (fun i hi e=>by have:=HW.out;omega)
   have HTW:Hid (Touch (fun _=>False) w w3):=TW
   obtain⟨ya,yc,hyv,-⟩:=yok.arg.form
   have HYO:Hid (p.2.Ok w):=yok
   have HYN:Hid (p.2.h.len=20+(p.2.rs.length:Int)):=hbl
   have HDc:=fun w' (t:Touch (fun _=>False) w w')=>Qhq p.2.h yok.all yrd p.2.v p.2.rs w' b ((yok.arg).keepN t) yok.byte hbl hbk hb
   rw [hev,hyv] at hrun hent
   rw [hyv] at HDc
   obtain⟨en,y⟩:=p
   dsimp only at *
   generalize en.key=kv at hrun hent
   have HYV:Hid (y.v=.slice ya y.rs.length yc):=hyv
   have hlt3:Hid (r<w3.heap.size):=Qat hir3
   clear hm3 hir3 hw3 hir' hw1 hal hpm hpz hev hyB hes yok ycn yrd hbl hbk hb t3 hmw hir hc0 hle own hx hp t hel TW hyv
   unfold HV.sv at hrun hent HDc
   have hyl:y.rs.length≤65536:=by have:=HYN.out;have:=HYO.out.all.l;omega
   generalize hN:y.rs.length=N at *
   have HN:Hid (y.rs.length=N∧N≤65536):=⟨hN,hyl⟩
   clear hN hyl
   go_wp2_with fail
   have TA:Touch (fun _=>False) w3 (w3.alloc (.cells #[.int .u16 y.h.age,.int .u8 y.h.opts,.int .u8 y.h.typ,.int .u32 y.h.id,.int .u32 y.h.adv,.int .i32 y.h.seq,.int .u16 y.h.sum,.int .u16 y.h.len,.slice ya N yc] 57)):=(Touch.refl _ _).alloc _
   refine Calls.mono (HDc _ (HTW.out.trans TA)) ?_
   rintro e w4 ⟨vl,vr,vd,rfl,bo,t4⟩
   obtain⟨a1,q1,a3,q3,a8,q8,rfl,rfl,rfl⟩:=bo.form
   have RY:Row w4 w3.heap.size 57 [.int .u16 y.h.age,.int .u8 y.h.opts,.int .u8 y.h.typ,.int .u32 y.h.id,.int .u32 y.h.adv,.int .i32 y.h.seq,.int .u16 y.h.sum,.int .u16 y.h.len,.slice ya N yc]:=Row.keep (Qac w3 57 #[.int .u16 y.h.age,.int .u8 y.h.opts,.int .u8 y.h.typ,.int .u32 y.h.id,.int .u32 y.h.adv,.int .i32 y.h.seq,.int .u16 y.h.sum,.int .u16 y.h.len,.slice ya N yc]) t4
   have y0:w4.cell? ⟨w3.heap.size,0,none⟩=some (.int .u16 y.h.age):=RY.cell 0
   have y1:w4.cell? ⟨w3.heap.size,1,none⟩=some (.int .u8 y.h.opts):=RY.cell 1
   have y2:w4.cell? ⟨w3.heap.size,2,none⟩=some (.int .u8 y.h.typ):=RY.cell 2
   have y3:w4.cell? ⟨w3.heap.size,3,none⟩=some (.int .u32 y.h.id):=RY.cell 3
   have y4:w4.cell? ⟨w3.heap.size,4,none⟩=some (.int .u32 y.h.adv):=RY.cell 4
   have y5:w4.cell? ⟨w3.heap.size,5,none⟩=some (.int .i32 y.h.seq):=RY.cell 5
   have y6:w4.cell? ⟨w3.heap.size,6,none⟩=some (.int .u16 y.h.sum):=RY.cell 6
   have y7:w4.cell? ⟨w3.heap.size,7,none⟩=some (.int .u16 y.h.len):=RY.cell 7
   have y8:w4.cell? ⟨w3.heap.size,8,none⟩=some (.slice ya N yc):=RY.cell 8
   have hl4:w3.heap.size<w4.heap.size:=RY.lt
   have HB4:Hid (BOwn (w3.heap.size+1) w4 b (.slice a1 b.links.length q1) (.slice a3 b.routers.length q3) (.slice a8 b.data.length q8)):=by rw [World.size_alloc] at bo;exact bo
   have HT4:Hid (Touch (fun _=>False) w3 w4):=TA.trans t4
   unfold BV.v
   clear bo t4 RY TA HDc hrun hent
   have HLn:Hid (L.length+1≤B.length):=by
    have h1:=HP.out.length_eq
    have h2:=HPU.out.length_eq
    simp at h1 h2
    show L.length+1≤B.length
    omega
   go_upto_region 6 with fail
   obtain⟨i0,hi,hz0,hz1,hz2⟩:=info_parts infoSaid
   have TB:Touch (fun _=>False) w4 ((w4.alloc (.cells #[.int .u8 b.flags,.slice a1 b.links.length q1,.int .u32 b.mask,.slice a3 b.routers.length q3,.int .u32 b.metric,.bool b.type2,.int .u32 b.fwd,.int .u32 b.tag,.slice a8 b.data.length q8] 119)).alloc (.cells #[.int .u16 y.h.age,.int .u8 y.h.opts,.int .u8 y.h.typ,.int .u32 y.h.id,.int .u32 y.h.adv,.int .i32 y.h.seq,.int .u16 y.h.sum,.int .u16 y.h.len,.int .u8 b.flags,.slice a1 b.links.length q1,.int .u32 b.mask,.slice a3 b.routers.length q3,.int .u32 b.metric,.bool b.type2,.int .u32 b.fwd,.int .u32 b.tag,.slice a8 b.data.length q8] 125)):=((Touch.refl _ _).alloc _).alloc _
   have HTB:Hid (Touch (fun _=>False) w3 ((w4.alloc (.cells #[.int .u8 b.flags,.slice a1 b.links.length q1,.int .u32 b.mask,.slice a3 b.routers.length q3,.int .u32 b.metric,.bool b.type2,.int .u32 b.fwd,.int .u32 b.tag,.slice a8 b.data.length q8] 119)).alloc (.cells #[.int .u16 y.h.age,.int .u8 y.h.opts,.int .u8 y.h.typ,.int .u32 y.h.id,.int .u32 y.h.adv,.int .i32 y.h.seq,.int .u16 y.h.sum,.int .u16 y.h.len,.int .u8 b.flags,.slice a1 b.links.length q1,.int .u32 b.mask,.slice a3 b.routers.length q3,.int .u32 b.metric,.bool b.type2,.int .u32 b.fwd,.int .u32 b.tag,.slice a8 b.data.length q8] 125))):=HT4.out.trans TB
   have RN:Row ((w4.alloc (.cells #[.int .u8 b.flags,.slice a1 b.links.length q1,.int .u32 b.mask,.slice a3 b.routers.length q3,.int .u32 b.metric,.bool b.type2,.int .u32 b.fwd,.int .u32 b.tag,.slice a8 b.data.length q8] 119)).alloc (.cells #[.int .u16 y.h.age,.int .u8 y.h.opts,.int .u8 y.h.typ,.int .u32 y.h.id,.int .u32 y.h.adv,.int .i32 y.h.seq,.int .u16 y.h.sum,.int .u16 y.h.len,.int .u8 b.flags,.slice a1 b.links.length q1,.int .u32 b.mask,.slice a3 b.routers.length q3,.int .u32 b.metric,.bool b.type2,.int .u32 b.fwd,.int .u32 b.tag,.slice a8 b.data.length q8] 125)) (w4.heap.size+1) 125 [.int .u16 y.h.age,.int .u8 y.h.opts,.int .u8 y.h.typ,.int .u32 y.h.id,.int .u32 y.h.adv,.int .i32 y.h.seq,.int .u16 y.h.sum,.int .u16 y.h.len,.int .u8 b.flags,.slice a1 b.links.length q1,.int .u32 b.mask,.slice a3 b.routers.length q3,.int .u32 b.metric,.bool b.type2,.int .u32 b.fwd,.int .u32 b.tag,.slice a8 b.data.length q8]:=by
    have:=Qac (w4.alloc (.cells #[.int .u8 b.flags,.slice a1 b.links.length q1,.int .u32 b.mask,.slice a3 b.routers.length q3,.int .u32 b.metric,.bool b.type2,.int .u32 b.fwd,.int .u32 b.tag,.slice a8 b.data.length q8] 119)) 125 #[.int .u16 y.h.age,.int .u8 y.h.opts,.int .u8 y.h.typ,.int .u32 y.h.id,.int .u32 y.h.adv,.int .i32 y.h.seq,.int .u16 y.h.sum,.int .u16 y.h.len,.int .u8 b.flags,.slice a1 b.links.length q1,.int .u32 b.mask,.slice a3 b.routers.length q3,.int .u32 b.metric,.bool b.type2,.int .u32 b.fwd,.int .u32 b.tag,.slice a8 b.data.length q8]
    rw [World.size_alloc] at this
    exact this
   have HRN:Hid (∀(j:Nat) u,([.int .u16 y.h.age,.int .u8 y.h.opts,.int .u8 y.h.typ,.int .u32 y.h.id,.int .u32 y.h.adv,.int .i32 y.h.seq,.int .u16 y.h.sum,.int .u16 y.h.len,.int .u8 b.flags,.slice a1 b.links.length q1,.int .u32 b.mask,.slice a3 b.routers.length q3,.int .u32 b.metric,.bool b.type2,.int .u32 b.fwd,.int .u32 b.tag,.slice a8 b.data.length q8]:List Value)[j]?=some u→((w4.alloc (.cells #[.int .u8 b.flags,.slice a1 b.links.length q1,.int .u32 b.mask,.slice a3 b.routers.length q3,.int .u32 b.metric,.bool b.type2,.int .u32 b.fwd,.int .u32 b.tag,.slice a8 b.data.length q8] 119)).alloc (.cells #[.int .u16 y.h.age,.int .u8 y.h.opts,.int .u8 y.h.typ,.int .u32 y.h.id,.int .u32 y.h.adv,.int .i32 y.h.seq,.int .u16 y.h.sum,.int .u16 y.h.len,.int .u8 b.flags,.slice a1 b.links.length q1,.int .u32 b.mask,.slice a3 b.routers.length q3,.int .u32 b.metric,.bool b.type2,.int .u32 b.fwd,.int .u32 b.tag,.slice a8 b.data.length q8] 125)).cell? ((⟨w4.heap.size+1,0,none⟩:Addr).add j)=some u):=fun j u hj=>by
    rw [Qae,Nat.zero_add,RN.cell j]
    exact hj
   have HON:Hid (((w4.alloc (.cells #[.int .u8 b.flags,.slice a1 b.links.length q1,.int .u32 b.mask,.slice a3 b.routers.length q3,.int .u32 b.metric,.bool b.type2,.int .u32 b.fwd,.int .u32 b.tag,.slice a8 b.data.length q8] 119)).alloc (.cells #[.int .u16 y.h.age,.int .u8 y.h.opts,.int .u8 y.h.typ,.int .u32 y.h.id,.int .u32 y.h.adv,.int .i32 y.h.seq,.int .u16 y.h.sum,.int .u16 y.h.len,.int .u8 b.flags,.slice a1 b.links.length q1,.int .u32 b.mask,.slice a3 b.routers.length q3,.int .u32 b.metric,.bool b.type2,.int .u32 b.fwd,.int .u32 b.tag,.slice a8 b.data.length q8] 125)).ownsRow g 125 17 (.slice (some ⟨g,0,none⟩) L.length B.length) L.length (saidC L)):=Qab (Qab HO.out T3.out (fun k hk=>by simp [Value.ownBlock] at hk;subst hk;have:=HW.out;omega)) HTB.out (fun _ _ h=>h)
   have HB5:Hid (BOwn (r+1) ((w4.alloc (.cells #[.int .u8 b.flags,.slice a1 b.links.length q1,.int .u32 b.mask,.slice a3 b.routers.length q3,.int .u32 b.metric,.bool b.type2,.int .u32 b.fwd,.int .u32 b.tag,.slice a8 b.data.length q8] 119)).alloc (.cells #[.int .u16 y.h.age,.int .u8 y.h.opts,.int .u8 y.h.typ,.int .u32 y.h.id,.int .u32 y.h.adv,.int .i32 y.h.seq,.int .u16 y.h.sum,.int .u16 y.h.len,.int .u8 b.flags,.slice a1 b.links.length q1,.int .u32 b.mask,.slice a3 b.routers.length q3,.int .u32 b.metric,.bool b.type2,.int .u32 b.fwd,.int .u32 b.tag,.slice a8 b.data.length q8] 125)) b (.slice a1 b.links.length q1) (.slice a3 b.routers.length q3) (.slice a8 b.data.length q8)):=(HB4.out.keep TB).lower (by have:=hlt3.out;omega)
   clear RN TB HB4 HT4 HO
   go_wp2_with (at_builtin;refine wpList_append_fits _ rfl _ _ 121 rfl g 125 i0 17 Tryz.underlying121 hi hz1 g L.length B.length (saidC L) rfl HON.out ⟨w4.heap.size+1,0,none⟩ 1 1 [.int .u16 y.h.age,.int .u8 y.h.opts,.int .u8 y.h.typ,.int .u32 y.h.id,.int .u32 y.h.adv,.int .i32 y.h.seq,.int .u16 y.h.sum,.int .u16 y.h.len,.int .u8 b.flags,.slice a1 b.links.length q1,.int .u32 b.mask,.slice a3 b.routers.length q3,.int .u32 b.metric,.bool b.type2,.int .u32 b.fwd,.int .u32 b.tag,.slice a8 b.data.length q8] rfl rfl HRN.out ?o1 HLn.out ?_)
   case o1=>exact Qcs ⟨y.h,b,.slice a1 b.links.length q1,.slice a3 b.routers.length q3,.slice a8 b.data.length q8⟩ ⟨_,_,_,_,_,_,_,_,_,rfl,rfl,rfl⟩
   intro w6 o6 g6
   have T6:Hid (Touch (fun k=>k=g) ((w4.alloc (.cells #[.int .u8 b.flags,.slice a1 b.links.length q1,.int .u32 b.mask,.slice a3 b.routers.length q3,.int .u32 b.metric,.bool b.type2,.int .u32 b.fwd,.int .u32 b.tag,.slice a8 b.data.length q8] 119)).alloc (.cells #[.int .u16 y.h.age,.int .u8 y.h.opts,.int .u8 y.h.typ,.int .u32 y.h.id,.int .u32 y.h.adv,.int .i32 y.h.seq,.int .u16 y.h.sum,.int .u16 y.h.len,.int .u8 b.flags,.slice a1 b.links.length q1,.int .u32 b.mask,.slice a3 b.routers.length q3,.int .u32 b.metric,.bool b.type2,.int .u32 b.fwd,.int .u32 b.tag,.slice a8 b.data.length q8] 125)) w6):=(Touch.refl _ _).grown g6 (fun k hk=>Or.inl (by injection hk with hk;exact hk.symm))
   have HO6:Hid _:=o6
   clear o6 g6 HON HRN hi hz0 hz1 hz2 y0 y1 y2 y3 y4 y5 y6 y7 y8
   go_wp2_with fail
   go_roundg ((lfZ (es.toList.zip B) (seen.push en.born)).length)
   case measure =>
    have h2:=HPU.out.length_eq
    have h3:=HLE.out
    simp at h2
    omega
   case rel =>
    have hW:=HW.out
    refine⟨⟨seen.push en.born,L++[⟨y.h,b,.slice a1 b.links.length q1,.slice a3 b.routers.length q3,.slice a8 b.data.length q8⟩],c,?_,Nat.le_refl _,?_,?_,?_,?_,Nat.le_refl _⟩,?_,?_⟩
    ·exact (T6.out.block r (Qat (HTB.out.heapN HM3.out.1)) (by omega)).trans (HTB.out.heapN HM3.out.1)
    ·simp
    ·rw [List.length_append,Qlg]
     exact HO6.out
    ·intro x hx
     rcases List.mem_append.1 hx with hx|hx
     ·obtain⟨k1,k2⟩:=HX.out x hx
      exact⟨k1,((k2.touch T3.out (fun k hk e=>by omega)).keep HTB.out).touch T6.out (fun k hk e=>by omega)⟩
     ·obtain rfl:x=_:=by simpa using hx
      obtain⟨c1,c2,c3,c4⟩:=Qdj HY.out.1
      exact⟨⟨HYO.out.all,⟨c1,(Qb2 HY.out.2).2.1⟩,Qsk (by have:=HN.out;omega) c1 HYO.out.byte HY.out.2⟩,HB5.out.touch T6.out (fun k hk e=>by omega)⟩
    ·have h1:=HP.out
     have h2:=HPU.out.map (fun p=>p.2.sv)
     rw [List.map_append,List.append_assoc]
     have e3:SE.sv y=(⟨y.h,b⟩:SV):=by unfold SE.sv;rw [HY.out.2];rfl
     simp only [List.map_cons,e3] at h2
     exact (List.Perm.append_left _ h2.symm).trans h1
    ·exact (T6.out.block m (Qat (HTB.out.heapN HM3.out.2)) (by omega)).trans (HTB.out.heapN HM3.out.2)
    ·exact (HTW.out.trans HTB.out).trans' T6.out (fun i hi e=>by omega)
open Go.RowKit Go.Shelf Go.Lib Go.Sort
def sd0:SD:=⟨⟨0,0,0,0,0,0,0,0⟩,BV.zero,.slice none 0 0,.slice none 0 0,.slice none 0 0⟩
def ofI (L:List SD) (i:Nat):SD:=(L[i]?).getD sd0
def encL (L:List SD) (i:Nat):List Value:=(ofI L i).cells
def cfL (L:List SD) (i j:Nat):Int:=keyS (ofI L i) (ofI L j)
def SD.ahead (x y:SD):Prop:=x.h.typ<y.h.typ∨x.h.typ=y.h.typ∧(x.h.id<y.h.id∨x.h.id=y.h.id∧x.h.adv<y.h.adv)
theorem Qpm (x y:SD):keyS x y<0↔x.ahead y:=by
 unfold keyS keyI SD.ahead fstI cmpI
 split <;> split <;> (try split) <;> (try split) <;> (try split) <;> (try split) <;> (try split) <;> omega
theorem Qst (L:List SD) (i j:Nat):ltOf (cfL L) i j=true↔(ofI L i).ahead (ofI L j):=by
 unfold ltOf
 rw [decide_eq_true_iff]
 exact Qpm _ _
theorem Qi3 (L:List SD) (i j:Nat):ltOf (cfL L) i j=false↔¬(ofI L i).ahead (ofI L j):=by
 rw [←Qst]
 simp
theorem Qto (L:List SD):SWO (ltOf (cfL L)) where
 irrefl x:=(Qi3 L x x).2 (by unfold SD.ahead;omega)
 trans x y z h1 h2:=by rw [Qst] at *;unfold SD.ahead at *;omega
 ntrans x y z h1 h2:=by rw [Qi3] at *;unfold SD.ahead at *;omega
theorem Qmm {w:World} {g cap base:Nat} {L:List SD} (h:w.ownsRow base 125 17 (.slice (some ⟨g,0,none⟩) L.length cap) L.length (saidC L)):HoldsK (encL L) 17 w g 0 (List.range L.length).toArray:=by
 intro j hj
 rw [size_flatK] at hj
 have hj':j<L.length*17:=by simpa using hj
 have hi:j/17<L.length:=by omega
 have hm:j%17<17:=by omega
 rcases h.2 with⟨h1,-⟩|⟨g',cap',cur,hv,-,hb,-,-,hs,ht⟩
 ·cases h1
 ·injection hv with hv1 hv2 hv3
  injection hv1 with hv1
  injection hv1 with hv1
  subst hv1
  subst hv3
  rw [get_flatK _ _ _ _ hj,Nat.zero_add]
  have e1:((List.range L.length).toArray)[j/17]! = j/17:=by
   rw [getElem!_pos _ _ (by simpa using hi)]
   simp
  have e2:ofI L (j/17)=L[j/17]:=by unfold ofI;simp [hi]
  refine⟨?_,frozen_of_row w g j cur 125 hb⟩
  rw [cell_of_row w g j cur 125 _ hb,e1]
  have e3:cur[j]?=(saidC L)[j]?:=by
   rw [←ht,List.getElem?_take,if_pos hj']
   simp
  have e4:(saidC L)[j]?=(L[j/17]).cells[j%17]?:=by
   have:=Qgw L (j/17) (j%17) L[j/17] (by simp [hi]) hm
   rwa [show j/17*17+j%17=j from by omega] at this
  have hcl:j%17<(L[j/17]).cells.length:=by simp [SD.cells];omega
  rw [e3,e4]
  show _=some ((encL L (j/17))[j%17]!)
  unfold encL
  rw [e2,List.getElem?_eq_getElem hcl,getElem!_pos (L[j/17]).cells (j%17) hcl]
theorem Qlr {w:World} {g cap:Nat} {L:List SD} {d:Array Nat} (h:HoldsK (encL L) 17 w g 0 d) (h1:d.size≤cap) (h2:cap≤maxLen):ValsAt w 17 (.slice (some ⟨g,0,none⟩) d.size cap) d.size (saidC (d.toList.map (ofI L))):=by
 refine⟨by rw [Qec];simp,Or.inr ⟨_,_,rfl,h1,h2,fun j u hj=>?_⟩⟩
 have hjl:=(List.getElem?_eq_some_iff.1 hj).1
 rw [Qec,List.length_map,Array.length_toList] at hjl
 have hi:j/17<d.size:=by omega
 have hm:j%17<17:=by omega
 rw [Qae]
 have hh:=(h j (by rw [size_flatK];exact hjl)).1
 rw [get_flatK _ _ _ _ hjl] at hh
 rw [hh]
 have e4:=Qgw (d.toList.map (ofI L)) (j/17) (j%17) (ofI L d[j/17]) (by simp [hi]) hm
 rw [show j/17*17+j%17=j from by omega,hj] at e4
 have hcl:j%17<(ofI L d[j/17]).cells.length:=by simp [SD.cells];omega
 rw [getElem!_pos d _ hi]
 show some ((encL L d[j/17])[j%17]!)=_
 unfold encL
 rw [e4,List.getElem?_eq_getElem hcl,getElem!_pos (ofI L d[j/17]).cells (j%17) hcl]
theorem Qnw (L:List SD) (w:World) (m blk off:Nat) (d:Array Nat):Touch (fun k=>k=blk) w (putRowK (encL L) 17 (Sort.ahead w m) blk off d):=by
 unfold putRowK putRow mapBlock
 exact⟨rfl,rfl,rfl,by simp [Sort.ahead],fun k hk hn=>by simp [Sort.ahead,Array.getElem?_modify,Ne.symm hn]⟩
theorem Qqq {x y:SD} (hn:¬y.ahead x) (hp:x.sv.pl≠y.sv.pl) (hx:x.sv.Fine) (hy:y.sv.Fine):x.sv.lt y.sv:=by
 unfold SD.ahead at hn
 unfold SV.lt
 show x.h.typ<y.h.typ∨x.h.typ=y.h.typ∧x.h.id<y.h.id
 have h3:¬(x.h.typ=y.h.typ∧x.h.id=y.h.id):=fun e=>hp (by
  show (x.h.typ==2,x.h.id)=(y.h.typ==2,y.h.id)
  rw [e.1,e.2])
 omega
structure SaidP (w:World) (P:List SV) (u:Value) (w':World):Prop where
 out:∃L,SaidsAt w' u L∧L.map SD.sv=P
 t:Touch (fun _=>False) w w'
theorem Qnm (w w':World) (g:Nat) (B:List SE) (L:List SD) (nd:(B.map (fun y=>y.h.pl)).Nodup) (hn:B.length≤1000000) (hg:w.heap.size≤g) (t:Touch (fun _=>False) w w') (own:w'.ownsRow w.heap.size 125 17 (.slice (some ⟨g,0,none⟩) L.length B.length) L.length (saidC L)) (hx:∀x∈L,x.Kn∧BOwn (g+1) w' x.b x.vl x.vr x.vd) (hp:(L.map SD.sv).Perm (B.map SE.sv)) :
  Calls Tryz.prog 148 #[.slice (some ⟨g,0,none⟩) L.length B.length,.func (.func 149) #[] #[]] w' fun e w''=>e=.returned (.tuple #[])∧∃P,(P.Perm (B.map SE.sv)∧P.Pairwise SV.lt)∧SaidP w P (.slice (some ⟨g,0,none⟩) L.length B.length) w'':=by
 have eg:∀args w,(callFunc 149 args).run Tryz.prog w=.ok (.enter 149 args) w:=enters_of Tryz.func149 (by kernel_rfl) rfl
 have hH:=Qmm own
 have hgl:g<w'.heap.size:=(own.lt g rfl).2
 have hone:∀i,∀v∈encL L i,v.oneCell'=true:=by
  intro i v hv
  unfold encL ofI at hv
  cases e:L[i]? with
  | none =>
   rw [e] at hv
   exact Qcs sd0 ⟨_,_,_,_,_,_,_,_,_,rfl,rfl,rfl⟩ v hv
  | some x =>
   rw [e] at hv
   obtain⟨a1,q1,a3,q3,a8,q8,e1,e2,e3⟩:=(hx x (List.mem_of_getElem? e)).2.form
   exact Qcs x ⟨_,_,_,_,_,_,_,_,_,e1,e2,e3⟩ v hv
 have hsz:(List.range L.length).toArray.size=L.length:=by simp
 have hlB:L.length=B.length:=by have:=hp.length_eq;simpa using this
 have hcon:=AnyQ.slices_SortFunc sortSd 17 Tryz.isAgg125 Tryz.sizeOf125 (encL L) (fun _=>rfl) hone (cfL L) (Qto L) 149 #[] g 0 B.length (List.range L.length).toArray w' eg (fun _ _ _ _ x y=>Qqb (ofI L x) (ofI L y) _) hH hgl (by rw [hsz];omega)
 rw [hsz] at hcon
 refine Calls.mono hcon ?_
 rintro e w'' ⟨rfl,d',n,os,hpp,hs,rfl⟩
 obtain⟨hp1,-,hp3⟩:=hpp
 have e2:d'.size=L.length:=by rw [hp1];simp
 have p:d'.toList.Perm (List.range L.length):=by
  have h5:d'.extract 0 L.length=d':=by rw [←e2];simp
  rw [h5] at hp3
  have h4:d'.toList.Perm (List.take L.length (List.range L.length)):=by simpa using hp3
  rwa [List.take_of_length_le (by simp)] at h4
 have hmap:(List.range L.length).map (ofI L)=L:=by
  apply List.ext_getElem?
  intro i
  rw [List.getElem?_map]
  rcases Nat.lt_or_ge i L.length with h|h
  ·simp [h,ofI]
  ·rw [List.getElem?_eq_none (by simpa using h),List.getElem?_eq_none h];rfl
 have q:(d'.toList.map (ofI L)).Perm L:=by
  have:=p.map (ofI L)
  rwa [hmap] at this
 have T2:Touch (fun k=>k=g) w' (sortWorldK (encL L) 17 w' g 0 n d' os):=(Qnw L w' n g 0 d').trans ((Qc8 _ os).mono (fun _ _ h=>h.elim))
 refine⟨rfl,(d'.toList.map (ofI L)).map SD.sv,⟨(q.map SD.sv).trans hp,?_⟩,⟨d'.toList.map (ofI L),⟨?_,?_⟩,rfl⟩,?_⟩
 ·have ndL:(L.map (fun x=>x.sv.pl)).Nodup:=by
   have h1:=hp.map SV.pl
   rw [List.map_map,List.map_map] at h1
   exact h1.symm.nodup nd
  have ndQ:((d'.toList.map (ofI L)).map (fun x=>x.sv.pl)).Nodup:=(q.map (fun x=>x.sv.pl)).symm.nodup ndL
  rw [List.pairwise_map]
  rw [List.Nodup,List.pairwise_map] at ndQ
  have so:(d'.toList.map (ofI L)).Pairwise (fun x y=>¬y.ahead x):=by
   rw [List.pairwise_map,List.pairwise_iff_getElem]
   intro i j hi hj hij
   have hj':j<d'.size:=by simpa using hj
   have hi':i<d'.size:=by simpa using hi
   have:=(Qi3 L _ _).1 (hs i j (Nat.zero_le _) hij (by omega))
   rw [getElem!_pos d' j hj',getElem!_pos d' i hi'] at this
   simpa using this
  exact (so.and ndQ).imp_of_mem (fun {a b} ha hb hab=>Qqq hab.1 hab.2 (hx a (q.mem_iff.1 ha)).1.fine (hx b (q.mem_iff.1 hb)).1.fine)
 ·have h1:=holdsK_putRowK (encL L) 17 (Sort.ahead w' n) g 0 (List.range L.length).toArray d' hH (by rw [e2];simp)
  have h2:=holdsK_grow (encL L) 17 _ os g 0 d' (by unfold putRowK putRow mapBlock;simpa [Sort.ahead] using hgl) h1
  have h3:=Qlr (cap:=B.length) h2 (by omega) (by unfold maxLen;omega)
  rw [e2] at h3
  have hl3:(d'.toList.map (ofI L)).length=L.length:=by simp [e2]
  show ValsAt _ 17 _ (d'.toList.map (ofI L)).length _
  rw [hl3]
  exact h3
 ·intro x hx'
  obtain⟨k1,k2⟩:=hx x (q.mem_iff.1 hx')
  exact⟨k1,(k2.touch T2 (fun k hk e=>by omega)).arg⟩
 ·exact t.trans' T2 (fun i hi e=>by omega)
theorem Qhu (v:Value) (l:List SE) (w:World) (hv:StatesAt w v l) (hl:l.length≤1000000) (hb:∀x∈l,x.rs.length≤1000000∧RdOk x.h.typ) :
  Calls Tryz.prog 52 #[v] w fun e w'=>∃u,e=.returned u∧∃P,IsN l P∧SaidP w P u w':=by
 have hA:=Qdg l
 have hlen:(bests l).length≤1000000:=Nat.le_trans (Qe8 l) hl
 refine Qij v l w hv hl hb (fun u w'=>∃P,IsN l P∧SaidP w P u w') (fun w1 m t1 hm=>?_)
 refine Qld w1 m (bests l) hm (fun y hy=>⟨(hv.ok y (hA.all y hy).1).keep t1,(hA.all y hy).2,(hb y (hA.all y hy).1).2⟩) hlen (fun u w'=>∃P,IsN l P∧SaidP w P u w') (fun w2 g L hg t2 own hx hp=>?_)
 refine Calls.mono (Qnm w1 w2 g (bests l) L hA.nd hlen hg t2 own hx hp) ?_
 rintro e w3 ⟨rfl,P,⟨h1,h2⟩,h3⟩
 exact⟨rfl,P,⟨h1,h2⟩,h3.out,t1.trans h3.t⟩
end Go.Proofs.YtddbffoiadmffaaGreat
