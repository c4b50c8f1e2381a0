import Derived.Test.YtddbffoiadmffaaGreatRefEnc2
import Derived.Test.YtddbffoiadmffaaGreatInRoutes
namespace Go.Proofs.YtddbffoiadmffaaGreat
set_option maxHeartbeats 8000000
open Go.RowKit
set_option linter.unusedVariables false
set_option maxRecDepth 100000
theorem Qiv {x y:Int} (hx:1≤x∧x≤255) (hy:1≤y∧y≤255):numBytes 2 (256*x+y)=[x,y]:=by
 rw [numBytes2]
 congr 1
 ·omega
 ·congr 1
  omega
theorem Qn4 (h:HV) (l:List Int) (s:Int) (x y:Int) (hs:numBytes 2 s=[x,y]):(headB { h with sum:=s }++l).drop 2=laid ((headB h++l).drop 2) 14 x y:=by
 simp only [headB,hs,numBytes2,numBytes4,List.cons_append,List.nil_append,List.drop,laid,List.set]
theorem Qq9 (h:HV) (l:List Int) (a:Int):(headB { h with age:=a }++l).drop 2=(headB h++l).drop 2:=by
 simp only [headB,numBytes2,numBytes4,List.cons_append,List.nil_append,List.drop]
theorem Qhy (h:HV) (l:List Int):((headB h++l).drop 2).length=18+l.length:=by
 rw [List.length_drop,List.length_append,Qa1];omega
theorem Qeq (h:HV) (l:List Int):257≤sealS h l∧sealS h l≤65535:=by
 have h1:=Qdd ((headB { h with len:=20+(l.length:Int) }++l).drop 2) 14
 have h2:=Qdr ((headB { h with len:=20+(l.length:Int) }++l).drop 2) 14
 unfold sealS
 omega
theorem Qn5 (h:HV) (l:List Int):numBytes 2 (sealS h l)=[flx ((headB { h with len:=20+(l.length:Int) }++l).drop 2) 14,fly ((headB { h with len:=20+(l.length:Int) }++l).drop 2) 14]:=Qiv (Qdd _ _) (Qdr _ _)
theorem Qkn (h:HV) (l:List Int):whole ((headB (sealH h l)++l).drop 2)=true:=by
 have e:sealH h l={ { h with len:=20+(l.length:Int) } with sum:=sealS h l }:=rfl
 rw [e,Qn4 _ l _ _ _ (Qn5 h l)]
 exact Qk7 _ 14 (by rw [Qhy];omega)
theorem Qjo {h:HV} (ok:h.All) {l:List Int} (hl:l.length≤65515):(sealH h l).All:=by
 obtain⟨a,o,t,i,v,s,m,n⟩:=ok
 have:=Qeq h l
 exact⟨a,o,t,i,v,s,⟨by show 0≤sealS h l;omega,by show sealS h l<65536;omega⟩,⟨by show 0≤20+(l.length:Int);omega,by show 20+(l.length:Int)<65536;omega⟩⟩
theorem Qso {h:HV} {B:BV} (ok:B.Ok) (he:EncOk h.typ B) (a:Int):chkE { sealH h (layB h.typ B) with age:=a } (layB h.typ B)=if h.seq = -2147483648∨¬bits BinOp.andNot .u16 a 32768≤3600 then 24 else 0:=by
 have hd:decB h.typ (layB h.typ B)=some B:=Qev ok ((Qef _ _).1 he.may)
 have hb:=Qeq h (layB h.typ B)
 have hw:=Qkn h (layB h.typ B)
 generalize layB h.typ B=l at *
 unfold chkE
 rw [Qq9,hw]
 have e1:(sealH h l).len=20+(l.length:Int):=rfl
 have e2:(sealH h l).sum=sealS h l:=rfl
 have e3:(sealH h l).typ=h.typ:=rfl
 have e4:(sealH h l).seq=h.seq:=rfl
 dsimp only
 rw [e1,e2,e3,e4,hd]
 rw [if_neg (by omega),if_neg (by rintro (q|q);omega;cases q),if_neg (by rw [he.known];decide)]
 split
 ·rfl
 ·rw [if_neg (by simp)]
def rhA:HV:=⟨0,0,1,1,1,1,0,0⟩
def rhB:HV:=⟨0,0,1,2,2,1,0,0⟩
def rbA:BV:=⟨0,[⟨2,167772161,1,3⟩],0,[],0,false,0,0,[]⟩
def rbB:BV:=⟨3,[⟨1,167772162,1,5⟩,⟨167837696,4294901760,3,4⟩],0,[],0,false,0,0,[]⟩
structure RgH (h:HV) (b:BV):Prop where
 oh:h.All
 ok:b.Ok
 kn:knownB h.typ=true
 may:mayB h.typ b=true
 size:sizeB h.typ b≤65515
 n1:b.links.length≤8192
 n2:b.routers.length≤32768
 n3:b.data.length≤131072
 typ:h.typ=1∨h.typ=2
 age:h.age=0
 seq:h.seq=1
 self:h.typ=1→h.id=h.adv∧h.id≠0
theorem rgA:∀x∈rbA.links,x.Ok:=by
 intro x hx
 simp [rbA] at hx
 subst hx
 exact⟨by decide,by decide,by decide,by decide⟩
theorem rgB:∀x∈rbB.links,x.Ok:=by
 intro x hx
 simp [rbB] at hx
 rcases hx with rfl|rfl
 ·exact⟨by decide,by decide,by decide,by decide⟩
 ·exact⟨by decide,by decide,by decide,by decide⟩
theorem rgHA:RgH rhA rbA:=⟨⟨by decide,by decide,by decide,by decide,by decide,by decide,by decide,by decide⟩,⟨by decide,rgA,by decide,by simp [rbA],by decide,by decide,by decide,by simp [rbA]⟩,rfl,by decide,by decide,by decide,by decide,by decide,Or.inl rfl,rfl,rfl,fun _=>by decide⟩
theorem rgHB:RgH rhB rbB:=⟨⟨by decide,by decide,by decide,by decide,by decide,by decide,by decide,by decide⟩,⟨by decide,rgB,by decide,by simp [rbB],by decide,by decide,by decide,by simp [rbB]⟩,rfl,by decide,by decide,by decide,by decide,by decide,Or.inl rfl,rfl,rfl,fun _=>by decide⟩
theorem RgH.chk {h:HV} {b:BV} (H:RgH h b):chkE (sealH h (layB h.typ b)) (layB h.typ b)=0:=by
 have hl:(layB h.typ b).length≤65515:=by have h1:=Qbe h.typ b;have h2:=H.size;omega
 have h1:=Qso H.ok ⟨H.kn,H.may,hl⟩ h.age
 rw [if_neg (by rw [H.age,H.seq];decide)] at h1
 exact h1
theorem RgH.cnt {h:HV} {b:BV} (H:RgH h b):cntB (sealH h (layB h.typ b)) (layB h.typ b)=true:=by
 unfold cntB
 refine decide_eq_true ⟨H.typ,?_,H.self,H.chk⟩
 show h.age%32768<3600
 rw [H.age]
 decide
theorem RgH.dec {h:HV} {b:BV} (H:RgH h b):decB h.typ (layB h.typ b)=some b:=Qev H.ok ((Qef _ _).1 H.may)
theorem RgH.bytes {h:HV} {b:BV} (H:RgH h b):(∀z∈layB h.typ b,0≤z∧z<256)∧(layB h.typ b).length≤65515:=⟨Qfy h.typ b H.ok,by have h1:=Qbe h.typ b;have h2:=H.size;omega⟩
def rsA (v:Value):SE:=⟨sealH rhA (layB 1 rbA),v,layB 1 rbA⟩
def rsB (v:Value):SE:=⟨sealH rhB (layB 1 rbB),v,layB 1 rbB⟩
def P2r:List SV:=[⟨sealH rhA (layB 1 rbA),rbA⟩,⟨sealH rhB (layB 1 rbB),rbB⟩]
theorem Qos {x y:SV} (h:x.lt y):¬y.lt x:=by unfold SV.lt at *;omega
theorem Qhc:∀{l l':List SV},l.Pairwise SV.lt→l'.Pairwise SV.lt→l.Perm l'→l=l'
 | [],l',_,_,p=>(List.nil_perm.1 p).symm
 | x::l,[],_,_,p=>by have:=p.length_eq;simp at this
 | x::l,y::l',h,h',p=>by
  rw [List.pairwise_cons] at h h'
  have e:x=y:=by
   rcases List.mem_cons.1 (p.mem_iff.1 (List.mem_cons_self)) with e|e
   ·exact e
   ·rcases List.mem_cons.1 (p.mem_iff.2 (List.mem_cons_self)) with e2|e2
    ·exact e2.symm
    ·exact absurd (h'.1 x e) (Qos (h.1 y e2))
  subst e
  rw [Qhc h.2 h'.2 ((List.perm_cons x).1 p)]
theorem Qmt (va vb:Value):bests [rsA va,rsB vb]=[rsA va,rsB vb]:=by
 have cB:cntB (rsB vb).h (rsB vb).rs=true:=rgHB.cnt
 have cA:cntB (rsA va).h (rsA va).rs=true:=rgHA.cnt
 have p1:plAt [] (rsA va).h.pl=none:=rfl
 have p2:plAt [rsA va] (rsB vb).h.pl=none:=rfl
 unfold bests
 rw [List.foldl_cons,List.foldl_cons,List.foldl_nil]
 have e1:putS [] (rsA va)=[rsA va]:=by unfold putS;rw [if_pos cA,p1,List.nil_append]
 rw [e1]
 unfold putS
 rw [if_pos cB,p2,List.cons_append,List.nil_append]
theorem Qs8 {va vb:Value} {P:List SV} (h:IsN [rsA va,rsB vb] P):P=P2r:=by
 have h1:=h.perm
 rw [Qmt] at h1
 refine Qhc h.sort ?_ (h1.trans ?_)
 ·unfold P2r
  refine List.Pairwise.cons ?_ (List.Pairwise.cons ?_ List.Pairwise.nil)
  ·intro y hy
   obtain rfl:y=_:=by simpa using hy
   exact Or.inr ⟨rfl,by decide⟩
  ·intro y hy
   simp at hy
 ·have eB:(rsB vb).sv=⟨sealH rhB (layB 1 rbB),rbB⟩:=by have:decB (rsB vb).h.typ (rsB vb).rs=some rbB:=rgHB.dec;unfold SE.sv;rw [this];rfl
  have eA:(rsA va).sv=⟨sealH rhA (layB 1 rbA),rbA⟩:=by have:decB (rsA va).h.typ (rsA va).rs=some rbA:=rgHA.dec;unfold SE.sv;rw [this];rfl
  show [(rsA va).sv,(rsB vb).sv].Perm P2r
  rw [eB,eA]
  exact List.Perm.refl _
def n1r:NV:=⟨false,1,0,0,0,[⟨1,3,167772161,false⟩],[]⟩
def n2r:NV:=⟨false,2,0,0,3,[⟨0,5,167772162,false⟩],[⟨167837696,16,4⟩]⟩
theorem Qnh:grB P2r=[n1r,n2r]:=by rfl
structure RingP (w:World) (e:Ending) (w':World):Prop where
 out:∃u va vb,e=.returned u∧StatesAt w' u [rsA va,rsB vb]
 t:Touch (fun _=>False) w w'
theorem Qqa (w:World):Calls Tryz.prog 23 #[] w (RingP w):=by
 have HA:=fun w u (ha:BArg w rbA u (.slice none 0 0) (.slice none 0 0))=>Qfx rhA rgHA.oh rbA rgHA.ok u (.slice none 0 0) (.slice none 0 0) w ha rgHA.n1 rgHA.n2 rgHA.n3 rgHA.kn rgHA.may rgHA.size
 have HB:=fun w u (ha:BArg w rbB u (.slice none 0 0) (.slice none 0 0))=>Qfx rhB rgHB.oh rbB rgHB.ok u (.slice none 0 0) (.slice none 0 0) w ha rgHB.n1 rgHB.n2 rgHB.n3 rgHB.kn rgHB.may rgHB.size
 have aA:∀w g,Row w g 115 [.int .u32 2,.int .u32 167772161,.int .u8 1,.int .u16 3]→BArg w rbA (.slice (some ⟨g,0,none⟩) 1 1) (.slice none 0 0) (.slice none 0 0):=fun w g r=>⟨⟨rfl,Or.inr ⟨_,_,rfl,Nat.le_refl _,by unfold maxLen;omega,fun j u hj=>by rw [Qaf,Nat.zero_add,r.cell j];exact hj⟩⟩,⟨rfl,Or.inl ⟨rfl,rfl⟩⟩,Or.inl ⟨rfl,rfl⟩⟩
 have aB:∀w g,Row w g 115 [.int .u32 1,.int .u32 167772162,.int .u8 1,.int .u16 5,.int .u32 167837696,.int .u32 4294901760,.int .u8 3,.int .u16 4]→BArg w rbB (.slice (some ⟨g,0,none⟩) 2 2) (.slice none 0 0) (.slice none 0 0):=fun w g r=>⟨⟨rfl,Or.inr ⟨_,_,rfl,Nat.le_refl _,by unfold maxLen;omega,fun j u hj=>by rw [Qaf,Nat.zero_add,r.cell j];exact hj⟩⟩,⟨rfl,Or.inl ⟨rfl,rfl⟩⟩,Or.inl ⟨rfl,rfl⟩⟩
 have fA:Hid (∀w' v,ArgAt w' v (layB 1 rbA)→(rsA v).Ok w'):=fun w' v h=>⟨Qjo rgHA.oh rgHA.bytes.2,h,rgHA.bytes.1⟩
 have fB:Hid (∀w' v,ArgAt w' v (layB 1 rbB)→(rsB v).Ok w'):=fun w' v h=>⟨Qjo rgHB.oh rgHB.bytes.2,h,rgHB.bytes.1⟩
 have gA:Hid (∀v,(rsA v).cells=[.int .u16 (sealH rhA (layB 1 rbA)).age,.int .u8 (sealH rhA (layB 1 rbA)).opts,.int .u8 (sealH rhA (layB 1 rbA)).typ,.int .u32 (sealH rhA (layB 1 rbA)).id,.int .u32 (sealH rhA (layB 1 rbA)).adv,.int .i32 (sealH rhA (layB 1 rbA)).seq,.int .u16 (sealH rhA (layB 1 rbA)).sum,.int .u16 (sealH rhA (layB 1 rbA)).len,v]):=fun _=>rfl
 have gB:Hid (∀v,(rsB v).cells=[.int .u16 (sealH rhB (layB 1 rbB)).age,.int .u8 (sealH rhB (layB 1 rbB)).opts,.int .u8 (sealH rhB (layB 1 rbB)).typ,.int .u32 (sealH rhB (layB 1 rbB)).id,.int .u32 (sealH rhB (layB 1 rbB)).adv,.int .i32 (sealH rhB (layB 1 rbB)).seq,.int .u16 (sealH rhB (layB 1 rbB)).sum,.int .u16 (sealH rhB (layB 1 rbB)).len,v]):=fun _=>rfl
 have tA:rhA.typ=1:=rfl
 have tB:rhB.typ=1:=rfl
 rw [tA] at HA
 rw [tB] at HB
 clear tA tB
 generalize hsA:sealH rhA (layB 1 rbA)=sA at *
 generalize hsB:sealH rhB (layB 1 rbB)=sB at *
 generalize hlA:layB 1 rbA=lA at *
 generalize hlB:layB 1 rbB=lB at *
 unfold rhA HV.v rbA BV.v HV.sv at HA
 unfold rhB HV.v rbB BV.v HV.sv at HB
 unfold rbA at aA
 unfold rbB at aB
 clear hsA hsB hlA hlB
 go_enter Tryz.func23,Tryz.ntmps23
 go_wp2_with fail
 refine (HA _ _ (aA _ _ (Qac w _ _))).mono ?_
 rintro e w1 ⟨uA,rfl,bA⟩
 obtain⟨xa,xc,rfl⟩:=bA.form
 have TA:Hid (Touch (fun _=>False) w w1):=((Touch.refl _ _).alloc _).trans bA.t
 have ARA:Hid (ArgAt w1 (.slice xa lA.length xc) lA):=bA.arg
 clear bA HA aA
 go_wp2_with fail
 have RA:Row (w1.alloc (.cells #[.int .u16 sA.age,.int .u8 sA.opts,.int .u8 sA.typ,.int .u32 sA.id,.int .u32 sA.adv,.int .i32 sA.seq,.int .u16 sA.sum,.int .u16 sA.len,.slice xa lA.length xc] 57)) w1.heap.size 57 [.int .u16 sA.age,.int .u8 sA.opts,.int .u8 sA.typ,.int .u32 sA.id,.int .u32 sA.adv,.int .i32 sA.seq,.int .u16 sA.sum,.int .u16 sA.len,.slice xa lA.length xc]:=Qac w1 _ _
 have t1:Touch (fun _=>False) w1 ((w1.alloc (.cells #[.int .u16 sA.age,.int .u8 sA.opts,.int .u8 sA.typ,.int .u32 sA.id,.int .u32 sA.adv,.int .i32 sA.seq,.int .u16 sA.sum,.int .u16 sA.len,.slice xa lA.length xc] 57)).alloc (.cells #[.int .u32 1,.int .u32 167772162,.int .u8 1,.int .u16 5,.int .u32 167837696,.int .u32 4294901760,.int .u8 3,.int .u16 4] 115)):=((Touch.refl _ _).alloc _).alloc _
 have RLB:Row ((w1.alloc (.cells #[.int .u16 sA.age,.int .u8 sA.opts,.int .u8 sA.typ,.int .u32 sA.id,.int .u32 sA.adv,.int .i32 sA.seq,.int .u16 sA.sum,.int .u16 sA.len,.slice xa lA.length xc] 57)).alloc (.cells #[.int .u32 1,.int .u32 167772162,.int .u8 1,.int .u16 5,.int .u32 167837696,.int .u32 4294901760,.int .u8 3,.int .u16 4] 115)) (w1.heap.size+1) 115 [.int .u32 1,.int .u32 167772162,.int .u8 1,.int .u16 5,.int .u32 167837696,.int .u32 4294901760,.int .u8 3,.int .u16 4]:=by
  have:=Qac (w1.alloc (.cells #[.int .u16 sA.age,.int .u8 sA.opts,.int .u8 sA.typ,.int .u32 sA.id,.int .u32 sA.adv,.int .i32 sA.seq,.int .u16 sA.sum,.int .u16 sA.len,.slice xa lA.length xc] 57)) 115 #[.int .u32 1,.int .u32 167772162,.int .u8 1,.int .u16 5,.int .u32 167837696,.int .u32 4294901760,.int .u8 3,.int .u16 4]
  rw [World.size_alloc] at this
  exact this
 refine (HB _ _ (aB _ _ RLB)).mono ?_
 rintro e w2 ⟨uB,rfl,bB⟩
 obtain⟨ya,yc,rfl⟩:=bB.form
 have T12:Hid (Touch (fun _=>False) w1 w2):=t1.trans bB.t
 have ra:=(RA.keep ((Touch.refl _ _).alloc _)).keep bB.t
 have ca0:w2.cell? ⟨w1.heap.size,0,none⟩=some (.int .u16 sA.age):=ra.cell 0
 have ca1:w2.cell? ⟨w1.heap.size,1,none⟩=some (.int .u8 sA.opts):=ra.cell 1
 have ca2:w2.cell? ⟨w1.heap.size,2,none⟩=some (.int .u8 sA.typ):=ra.cell 2
 have ca3:w2.cell? ⟨w1.heap.size,3,none⟩=some (.int .u32 sA.id):=ra.cell 3
 have ca4:w2.cell? ⟨w1.heap.size,4,none⟩=some (.int .u32 sA.adv):=ra.cell 4
 have ca5:w2.cell? ⟨w1.heap.size,5,none⟩=some (.int .i32 sA.seq):=ra.cell 5
 have ca6:w2.cell? ⟨w1.heap.size,6,none⟩=some (.int .u16 sA.sum):=ra.cell 6
 have ca7:w2.cell? ⟨w1.heap.size,7,none⟩=some (.int .u16 sA.len):=ra.cell 7
 have ca8:w2.cell? ⟨w1.heap.size,8,none⟩=some (.slice xa lA.length xc):=ra.cell 8
 have la:=ra.lt
 have ARB:Hid (ArgAt w2 (.slice ya lB.length yc) lB):=bB.arg
 clear bB HB aB RLB RA t1 ra
 go_wp2_with fail
 have TF:Touch (fun _=>False) w2 ((w2.alloc (.cells #[.int .u16 sB.age,.int .u8 sB.opts,.int .u8 sB.typ,.int .u32 sB.id,.int .u32 sB.adv,.int .i32 sB.seq,.int .u16 sB.sum,.int .u16 sB.len,.slice ya lB.length yc] 57)).alloc (.cells #[.int .u16 sA.age,.int .u8 sA.opts,.int .u8 sA.typ,.int .u32 sA.id,.int .u32 sA.adv,.int .i32 sA.seq,.int .u16 sA.sum,.int .u16 sA.len,.slice xa lA.length xc,.int .u16 sB.age,.int .u8 sB.opts,.int .u8 sB.typ,.int .u32 sB.id,.int .u32 sB.adv,.int .i32 sB.seq,.int .u16 sB.sum,.int .u16 sB.len,.slice ya lB.length yc] 57)):=((Touch.refl _ _).alloc _).alloc _
 have RF:Row ((w2.alloc (.cells #[.int .u16 sB.age,.int .u8 sB.opts,.int .u8 sB.typ,.int .u32 sB.id,.int .u32 sB.adv,.int .i32 sB.seq,.int .u16 sB.sum,.int .u16 sB.len,.slice ya lB.length yc] 57)).alloc (.cells #[.int .u16 sA.age,.int .u8 sA.opts,.int .u8 sA.typ,.int .u32 sA.id,.int .u32 sA.adv,.int .i32 sA.seq,.int .u16 sA.sum,.int .u16 sA.len,.slice xa lA.length xc,.int .u16 sB.age,.int .u8 sB.opts,.int .u8 sB.typ,.int .u32 sB.id,.int .u32 sB.adv,.int .i32 sB.seq,.int .u16 sB.sum,.int .u16 sB.len,.slice ya lB.length yc] 57)) (w2.heap.size+1) 57 [.int .u16 sA.age,.int .u8 sA.opts,.int .u8 sA.typ,.int .u32 sA.id,.int .u32 sA.adv,.int .i32 sA.seq,.int .u16 sA.sum,.int .u16 sA.len,.slice xa lA.length xc,.int .u16 sB.age,.int .u8 sB.opts,.int .u8 sB.typ,.int .u32 sB.id,.int .u32 sB.adv,.int .i32 sB.seq,.int .u16 sB.sum,.int .u16 sB.len,.slice ya lB.length yc]:=by
  have:=Qac (w2.alloc (.cells #[.int .u16 sB.age,.int .u8 sB.opts,.int .u8 sB.typ,.int .u32 sB.id,.int .u32 sB.adv,.int .i32 sB.seq,.int .u16 sB.sum,.int .u16 sB.len,.slice ya lB.length yc] 57)) 57 #[.int .u16 sA.age,.int .u8 sA.opts,.int .u8 sA.typ,.int .u32 sA.id,.int .u32 sA.adv,.int .i32 sA.seq,.int .u16 sA.sum,.int .u16 sA.len,.slice xa lA.length xc,.int .u16 sB.age,.int .u8 sB.opts,.int .u8 sB.typ,.int .u32 sB.id,.int .u32 sB.adv,.int .i32 sB.seq,.int .u16 sB.sum,.int .u16 sB.len,.slice ya lB.length yc]
  rw [World.size_alloc] at this
  exact this
 go_ret
 refine⟨⟨_,.slice xa lA.length xc,.slice ya lB.length yc,rfl,⟨⟨rfl,Or.inr ⟨_,_,rfl,Nat.le_refl _,by unfold maxLen;omega,fun j u hj=>?_⟩⟩,fun x hx=>?_⟩⟩,?_⟩
 ·rw [Qaf,Nat.zero_add,RF.cell j]
  have e:statesC [rsA (.slice xa lA.length xc),rsB (.slice ya lB.length yc)]=[.int .u16 sA.age,.int .u8 sA.opts,.int .u8 sA.typ,.int .u32 sA.id,.int .u32 sA.adv,.int .i32 sA.seq,.int .u16 sA.sum,.int .u16 sA.len,.slice xa lA.length xc,.int .u16 sB.age,.int .u8 sB.opts,.int .u8 sB.typ,.int .u32 sB.id,.int .u32 sB.adv,.int .i32 sB.seq,.int .u16 sB.sum,.int .u16 sB.len,.slice ya lB.length yc]:=by
   show (rsA _).cells++((rsB _).cells++[])=_
   rw [gB.out,gA.out]
   rfl
  rw [←e]
  exact hj
 ·simp only [List.mem_cons,List.not_mem_nil,or_false] at hx
  rcases hx with rfl|rfl
  ·exact fA.out _ _ ((ARA.out.keepN T12.out).keepN TF)
  ·exact fB.out _ _ (ARB.out.keepN TF)
 ·exact (TA.out.trans T12.out).trans TF
def gR:List TN:=[⟨false,1,[⟨1,3,167772161,false⟩]⟩,⟨false,2,[⟨0,5,167772162,false⟩]⟩]
theorem Qwb:(grB P2r).map tnOf=gR:=by rw [Qnh];rfl
theorem Qwf:GOk gR 65535 1:=by
 refine⟨?_,?_,?_,?_,by omega⟩ <;> (intro t ht;simp [gR] at ht;rcases ht with rfl|rfl <;> simp)
theorem walkR {u v:Nat} {c:Int} (W:Wk gR u v c):0≤c∧(u≠v→3≤c):=by
 induction W with
 | nil hu=>exact⟨Int.le_refl _,fun h=>(h rfl).elim⟩
 | @snoc v y c e W he hd hy ih =>
  have hc:3≤e.cost:=by
   rcases Nat.lt_or_ge v 2 with h|h
   ·rcases (by omega:v=0∨v=1) with rfl|rfl <;> (simp [gn,gR] at he;rw [he];simp)
   ·have hl:gR.length≤v:=h
    unfold gn at he
    rw [List.getD_eq_getElem?_getD,List.getElem?_eq_none hl] at he
    simp [TN0] at he
  have:=ih.1
  exact⟨by omega,fun _=>by omega⟩
theorem Qni {x i:Nat} {s:Sp} {R:Nat→RV} {Z:Nat→Sp} (I:Inv gR 65535 0 x i s [] R Z) (hf:(gn gR x).edges.length≤i):R 0=⟨true,0,[]⟩∧R 1=⟨true,3,[⟨167772161,2,false⟩]⟩:=by
 refine⟨I.rr,?_⟩
 have W:Wk gR 0 1 (0+3):=Wk.snoc (e:=⟨1,3,167772161,false⟩) (Wk.nil 0 (by decide)) (by simp [gn,gR]) rfl (by decide)
 obtain⟨h1,h2,h3⟩:=I.opt Qwf hf (by decide) W
 have h4:=(walkR (I.wk 1 (by decide) h1)).2 (by omega)
 have hc:(R 1).cost=3:=by omega
 have hh:(R 1).hops=[⟨167772161,2,false⟩]:=by
  refine Qtc (I.so 1) (I.hopsN (by decide) h1 (by omega)) (fun h hm=>?_)
  obtain⟨⟨e,he,t,hd,ht,hr,-,-,hk⟩,-,-⟩:=(I.hc 1 h hm).1
  simp [gn,gR] at he
  subst he
  have:t=1:=by simp at hd;omega
  subst this
  exact hk rfl
 cases hR:R 1 with
 | mk a b c=>rw [hR] at h1 hc hh;simp at h1 hc hh;rw [h1,hc,hh]
theorem Qo3 {n:Nat} {z:Int} {R:Nat→RV} {H:Nat→Value} {N1 N2:List WY} {Ls:List ME} (fk:FrK P2r 1 n z R) (hp:Ls.Perm (metW [] (netsK (grB P2r) R H n))) (h1:N1.map (·.x)=Ls.map (wayE 7)) (h2:N2.map (·.x)=rtrsK (grB P2r) R 7 z n) :
  ∃y1 y2 l1,N1=[⟨⟨⟨167837696,16⟩,0,0,1,7,7,0,0,l1⟩,y1⟩]∧N2=[⟨⟨⟨0,0⟩,2,3,1,7,3,0,0,[⟨167772161,2,false⟩]⟩,y2⟩]:=by
 have hf0:findI (grB P2r) false 1=0:=by rw [Qnh];rfl
 rcases fk.out with⟨-,h⟩|⟨hn,k,nd,hz,hk,hg,-,-,x,i,s,Z,I,hfull⟩
 ·rw [hf0] at h
  omega
 ·rw [hf0] at hk
  have hk0:k=0:=by omega
  subst hk0
  have hn2:n=2:=hn
  subst hn2
  subst hz
  rw [Qwb] at I hfull
  obtain⟨r0,r1⟩:=Qni I hfull
  rw [Qnh] at hp h2
  have e1:netsK [n1r,n2r] R H 2=[⟨⟨167837696,16⟩,7,(H 1,[⟨167772161,2,false⟩])⟩]:=by
   rw [Qcx (k:=1) (nd:=n2r) rfl,Qcx (k:=0) (nd:=n1r) rfl,r0,r1]
   rfl
  have e2:rtrsK [n1r,n2r] R 7 ((0:Nat):Int) 2=[⟨⟨0,0⟩,2,3,1,7,3,0,0,[⟨167772161,2,false⟩]⟩]:=by
   rw [Qcw (k:=1) (nd:=n2r) rfl,Qcw (k:=0) (nd:=n1r) rfl,r0,r1]
   rfl
  rw [e1] at hp
  rw [e2] at h2
  have hL:Ls=[⟨⟨167837696,16⟩,7,[(H 1,[⟨167772161,2,false⟩])]⟩]:=List.perm_singleton.1 hp
  rw [hL] at h1
  obtain⟨y1,rfl,e3⟩:=List.map_eq_singleton_iff.1 h1
  obtain⟨y2,rfl,e4⟩:=List.map_eq_singleton_iff.1 h2
  obtain⟨x1,v1⟩:=y1
  obtain⟨x2,v2⟩:=y2
  simp only at e3 e4
  subst e3
  subst e4
  exact⟨v1,v2,_,rfl,rfl⟩
theorem eqPxR (w:World):(Op.equalIn 10000 42 (.agg #[.int .u32 167837696,.int .u8 16]) (.agg #[.int .u32 167837696,.int .u8 16])).run Tryz.prog w=.ok true w:=by kernel_rfl
theorem works18 (w:World):Calls Tryz.prog 9 #[] w fun e w'=>e=.returned (.bool true)∧Touch (fun _=>False) w w':=by
 have hEP:=eqPxR
 have hEQ:∀w,(Op.equalIn 10000 48 (.agg #[.int .u32 167772161,.int .u32 2,.bool false]) (.agg #[.int .u32 167772161,.int .u32 2,.bool false])).run Tryz.prog w=.ok true w:=fun w=>by have:=eqHop ⟨167772161,2,false⟩ ⟨167772161,2,false⟩ w;simpa using this
 have hb1:∀w,(Instr.build 42 #[(0,.int .u32 167837696),(1,.int .u8 16)]).run Tryz.prog w=.ok (.agg #[.int .u32 167837696,.int .u8 16]) w:=fun w=>run_build w 42 _ _ (by kernel_rfl)
 have hb4:∀w,(Instr.build 48 #[(0,.int .u32 167772161),(1,.int .u32 2)]).run Tryz.prog w=.ok (.agg #[.int .u32 167772161,.int .u32 2,.bool false]) w:=fun w=>run_build w 48 _ _ (by kernel_rfl)
 have H2:=Qqa w
 go_enter Tryz.func9,Tryz.ntmps9
 go_wp2_with fail
 refine H2.mono ?_
 rintro e w1 ⟨⟨u,va,vb,rfl,hs⟩,t1⟩
 have HR:=Qim u _ 7 1 w1 hs (by simp) (fun x hx=>by
  simp only [List.mem_cons,List.not_mem_nil,or_false] at hx
  have a1:=Qbe 1 rbA
  have a2:=Qbe 1 rbB
  have b1:sizeB 1 rbA≤8192:=by decide
  have b2:sizeB 1 rbB≤8192:=by decide
  rcases hx with rfl|rfl
  ·refine⟨?_,Qrz⟩
   show (layB 1 rbA).length≤8192
   omega
  ·refine⟨?_,Qrz⟩
   show (layB 1 rbB).length≤8192
   omega)
 obtain⟨ua,uc,eu,-⟩:=ValsAt.form hs.vals
 subst eu
 have HT1:Hid (Touch (fun _=>False) w w1):=t1
 clear hs t1 H2
 go_wp2_with fail
 refine HR.mono ?_
 rintro e w2 ⟨P,n,z,R,H,v1,v2,N1,N2,Ls,rfl,hN,fk,hw1,hw2,hp,hpl,hm1,hm2⟩
 obtain rfl:=Qs8 hN
 obtain⟨h1,h2,l1,rfl,rfl⟩:=Qo3 fk hp hm1 hm2
 have HT2:Hid (Touch (fun _=>False) w1 w2):=hw1.b.t
 have q1:RG WY.cs 10 45 w1.heap.size w2 v1 _:=hw1.b.1
 have q2:RG WY.cs 10 45 w1.heap.size w2 v2 _:=hw2.b.1
 obtain⟨g1,c1,rfl,-,lg1,-⟩:=RG.form q1 (Nat.succ_pos _)
 obtain⟨g2,c2,rfl,-,lg2,-⟩:=RG.form q2 (Nat.succ_pos _)
 have q3:RG HK.cs 3 48 0 w2 h2 [⟨167772161,2,false⟩]:=hw2.h _ (List.mem_singleton.2 rfl)
 obtain⟨g3,c3,rfl,-,lg3,-⟩:=RG.form q3 (Nat.succ_pos _)
 have k0:w2.cell? ⟨g1,0,none⟩=some (.int .u32 167837696):=RG.cell (i:=0) (d:=0) WY.len q1 rfl rfl
 have k1:w2.cell? ⟨g1,1,none⟩=some (.int .u8 16):=RG.cell (i:=0) (d:=1) WY.len q1 rfl rfl
 have k5:w2.cell? ⟨g1,5,none⟩=some (.int .u32 7):=RG.cell (i:=0) (d:=5) WY.len q1 rfl rfl
 have k6:w2.cell? ⟨g1,6,none⟩=some (.int .u32 7):=RG.cell (i:=0) (d:=6) WY.len q1 rfl rfl
 have m2:w2.cell? ⟨g2,2,none⟩=some (.int .u32 2):=RG.cell (i:=0) (d:=2) WY.len q2 rfl rfl
 have m9:w2.cell? ⟨g2,9,none⟩=some (.slice (some ⟨g3,0,none⟩) 1 c3):=RG.cell (i:=0) (d:=9) WY.len q2 rfl rfl
 have p0:w2.cell? ⟨g3,0,none⟩=some (.int .u32 167772161):=RG.cell (i:=0) (d:=0) HK.len q3 rfl rfl
 have p1:w2.cell? ⟨g3,1,none⟩=some (.int .u32 2):=RG.cell (i:=0) (d:=1) HK.len q3 rfl rfl
 have p2:w2.cell? ⟨g3,2,none⟩=some (.bool false):=RG.cell (i:=0) (d:=2) HK.len q3 rfl rfl
 clear q1 q2 q3 hw1 hw2 hp hpl hm1 hm2 hN fk HR lg1 lg2 lg3
 simp only [List.length_cons,List.length_nil,Nat.zero_add]
 go_wp2_with fail
 go_ret
 exact⟨rfl,HT1.out.trans HT2.out⟩
theorem Qtn {k n:Nat} (h:k<n) (hn:n≤maxLen):wrap64 ((k:Int)+1)=(k:Int)+1:=by
 unfold maxLen at hn
 unfold wrap64
 omega
end Go.Proofs.YtddbffoiadmffaaGreat
