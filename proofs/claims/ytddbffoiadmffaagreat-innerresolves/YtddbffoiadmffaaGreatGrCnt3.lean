import Derived.Test.YtddbffoiadmffaaGreatGrCnt
namespace Go.Proofs.YtddbffoiadmffaaGreat
set_option maxHeartbeats 8000000
open Go.RowKit
set_option linter.unusedVariables false
set_option maxRecDepth 100000
def FB (w:World) (bs:Nat) (fv:Value) (b:Bool):Prop:=∀w',Since w w'→Calls Tryz.prog 104 #[fv,.pointer (some ⟨bs,0,none⟩)] w' fun e w''=>e=.returned (.bool (!b))∧Touch (fun _=>False) w' w''
theorem Qt6 (h:HV) (a:Option Addr) (n c:Nat) (w:World) (bs bb:Nat) (b:Bool) (R:Row w bs 57 [.int .u16 h.age,.int .u8 h.opts,.int .u8 h.typ,.int .u32 h.id,.int .u32 h.adv,.int .i32 h.seq,.int .u16 h.sum,.int .u16 h.len,.slice a n c]) (HF:∀w',Since w w'→Calls Tryz.prog 96 #[h.sv (.slice a n c)] w' fun e w''=>e=.returned (.bool b)∧Touch (fun _=>False) w' w''):FB w bs (.func (.func 96) #[] #[]) b:=by
 intro w' s
 have HG:=HF w' s
 have R':=R.keep s.t
 have c0:w'.cell? ⟨bs,0,none⟩=some (.int .u16 h.age):=R'.cell 0
 have c1:w'.cell? ⟨bs,1,none⟩=some (.int .u8 h.opts):=R'.cell 1
 have c2:w'.cell? ⟨bs,2,none⟩=some (.int .u8 h.typ):=R'.cell 2
 have c3:w'.cell? ⟨bs,3,none⟩=some (.int .u32 h.id):=R'.cell 3
 have c4:w'.cell? ⟨bs,4,none⟩=some (.int .u32 h.adv):=R'.cell 4
 have c5:w'.cell? ⟨bs,5,none⟩=some (.int .i32 h.seq):=R'.cell 5
 have c6:w'.cell? ⟨bs,6,none⟩=some (.int .u16 h.sum):=R'.cell 6
 have c7:w'.cell? ⟨bs,7,none⟩=some (.int .u16 h.len):=R'.cell 7
 have c8:w'.cell? ⟨bs,8,none⟩=some (.slice a n c):=R'.cell 8
 unfold HV.sv at HG
 clear R R' HF s
 go_enter Tryz.func104,Tryz.ntmps104
 go_wp2_with fail
 refine HG.mono ?_
 rintro e w1 ⟨rfl,t1⟩
 have T1:Hid _:=t1
 clear t1 HG
 go_wp2
 go_ret
 exact⟨rfl,T1.out⟩
theorem Qud (h:HV) (a:Option Addr) (n c:Nat) (w:World) (bs bb:Nat) (b:Bool) (R:Row w bs 57 [.int .u16 h.age,.int .u8 h.opts,.int .u8 h.typ,.int .u32 h.id,.int .u32 h.adv,.int .i32 h.seq,.int .u16 h.sum,.int .u16 h.len,.slice a n c]) (HF:∀w',Since w w'→Calls Tryz.prog 97 #[h.sv (.slice a n c)] w' fun e w''=>e=.returned (.bool b)∧Touch (fun _=>False) w' w''):FB w bs (.func (.func 97) #[] #[]) b:=by
 intro w' s
 have HG:=HF w' s
 have R':=R.keep s.t
 have c0:w'.cell? ⟨bs,0,none⟩=some (.int .u16 h.age):=R'.cell 0
 have c1:w'.cell? ⟨bs,1,none⟩=some (.int .u8 h.opts):=R'.cell 1
 have c2:w'.cell? ⟨bs,2,none⟩=some (.int .u8 h.typ):=R'.cell 2
 have c3:w'.cell? ⟨bs,3,none⟩=some (.int .u32 h.id):=R'.cell 3
 have c4:w'.cell? ⟨bs,4,none⟩=some (.int .u32 h.adv):=R'.cell 4
 have c5:w'.cell? ⟨bs,5,none⟩=some (.int .i32 h.seq):=R'.cell 5
 have c6:w'.cell? ⟨bs,6,none⟩=some (.int .u16 h.sum):=R'.cell 6
 have c7:w'.cell? ⟨bs,7,none⟩=some (.int .u16 h.len):=R'.cell 7
 have c8:w'.cell? ⟨bs,8,none⟩=some (.slice a n c):=R'.cell 8
 unfold HV.sv at HG
 clear R R' HF s
 go_enter Tryz.func104,Tryz.ntmps104
 go_wp2_with fail
 refine HG.mono ?_
 rintro e w1 ⟨rfl,t1⟩
 have T1:Hid _:=t1
 clear t1 HG
 go_wp2
 go_ret
 exact⟨rfl,T1.out⟩
theorem Qtc (h:HV) (a:Option Addr) (n c:Nat) (w:World) (bs bb:Nat) (b:Bool) (R:Row w bs 57 [.int .u16 h.age,.int .u8 h.opts,.int .u8 h.typ,.int .u32 h.id,.int .u32 h.adv,.int .i32 h.seq,.int .u16 h.sum,.int .u16 h.len,.slice a n c]) (HF:∀w',Since w w'→Calls Tryz.prog 99 #[h.sv (.slice a n c)] w' fun e w''=>e=.returned (.bool b)∧Touch (fun _=>False) w' w''):FB w bs (.func (.func 99) #[] #[]) b:=by
 intro w' s
 have HG:=HF w' s
 have R':=R.keep s.t
 have c0:w'.cell? ⟨bs,0,none⟩=some (.int .u16 h.age):=R'.cell 0
 have c1:w'.cell? ⟨bs,1,none⟩=some (.int .u8 h.opts):=R'.cell 1
 have c2:w'.cell? ⟨bs,2,none⟩=some (.int .u8 h.typ):=R'.cell 2
 have c3:w'.cell? ⟨bs,3,none⟩=some (.int .u32 h.id):=R'.cell 3
 have c4:w'.cell? ⟨bs,4,none⟩=some (.int .u32 h.adv):=R'.cell 4
 have c5:w'.cell? ⟨bs,5,none⟩=some (.int .i32 h.seq):=R'.cell 5
 have c6:w'.cell? ⟨bs,6,none⟩=some (.int .u16 h.sum):=R'.cell 6
 have c7:w'.cell? ⟨bs,7,none⟩=some (.int .u16 h.len):=R'.cell 7
 have c8:w'.cell? ⟨bs,8,none⟩=some (.slice a n c):=R'.cell 8
 unfold HV.sv at HG
 clear R R' HF s
 go_enter Tryz.func104,Tryz.ntmps104
 go_wp2_with fail
 refine HG.mono ?_
 rintro e w1 ⟨rfl,t1⟩
 have T1:Hid _:=t1
 clear t1 HG
 go_wp2
 go_ret
 exact⟨rfl,T1.out⟩
theorem Qs6 (h:HV) (a:Option Addr) (n c:Nat) (w:World) (bs bb:Nat) (b:Bool) (R:Row w bs 57 [.int .u16 h.age,.int .u8 h.opts,.int .u8 h.typ,.int .u32 h.id,.int .u32 h.adv,.int .i32 h.seq,.int .u16 h.sum,.int .u16 h.len,.slice a n c]) (HF:∀w',Since w w'→Calls Tryz.prog 101 #[h.sv (.slice a n c),.pointer (some ⟨bb,0,none⟩)] w' fun e w''=>e=.returned (.bool b)∧Touch (fun _=>False) w' w''):FB w bs (.func (.func 101) #[] #[.pointer (some ⟨bb,0,none⟩)]) b:=by
 intro w' s
 have HG:=HF w' s
 have R':=R.keep s.t
 have c0:w'.cell? ⟨bs,0,none⟩=some (.int .u16 h.age):=R'.cell 0
 have c1:w'.cell? ⟨bs,1,none⟩=some (.int .u8 h.opts):=R'.cell 1
 have c2:w'.cell? ⟨bs,2,none⟩=some (.int .u8 h.typ):=R'.cell 2
 have c3:w'.cell? ⟨bs,3,none⟩=some (.int .u32 h.id):=R'.cell 3
 have c4:w'.cell? ⟨bs,4,none⟩=some (.int .u32 h.adv):=R'.cell 4
 have c5:w'.cell? ⟨bs,5,none⟩=some (.int .i32 h.seq):=R'.cell 5
 have c6:w'.cell? ⟨bs,6,none⟩=some (.int .u16 h.sum):=R'.cell 6
 have c7:w'.cell? ⟨bs,7,none⟩=some (.int .u16 h.len):=R'.cell 7
 have c8:w'.cell? ⟨bs,8,none⟩=some (.slice a n c):=R'.cell 8
 unfold HV.sv at HG
 clear R R' HF s
 go_enter Tryz.func104,Tryz.ntmps104
 go_wp2_with fail
 refine HG.mono ?_
 rintro e w1 ⟨rfl,t1⟩
 have T1:Hid _:=t1
 clear t1 HG
 go_wp2
 go_ret
 exact⟨rfl,T1.out⟩
theorem Qua (h:HV) (a:Option Addr) (n c:Nat) (w:World) (bs bb:Nat) (b:Bool) (R:Row w bs 57 [.int .u16 h.age,.int .u8 h.opts,.int .u8 h.typ,.int .u32 h.id,.int .u32 h.adv,.int .i32 h.seq,.int .u16 h.sum,.int .u16 h.len,.slice a n c]) (HF:∀w',Since w w'→Calls Tryz.prog 102 #[h.sv (.slice a n c)] w' fun e w''=>e=.returned (.bool b)∧Touch (fun _=>False) w' w''):FB w bs (.func (.func 102) #[] #[]) b:=by
 intro w' s
 have HG:=HF w' s
 have R':=R.keep s.t
 have c0:w'.cell? ⟨bs,0,none⟩=some (.int .u16 h.age):=R'.cell 0
 have c1:w'.cell? ⟨bs,1,none⟩=some (.int .u8 h.opts):=R'.cell 1
 have c2:w'.cell? ⟨bs,2,none⟩=some (.int .u8 h.typ):=R'.cell 2
 have c3:w'.cell? ⟨bs,3,none⟩=some (.int .u32 h.id):=R'.cell 3
 have c4:w'.cell? ⟨bs,4,none⟩=some (.int .u32 h.adv):=R'.cell 4
 have c5:w'.cell? ⟨bs,5,none⟩=some (.int .i32 h.seq):=R'.cell 5
 have c6:w'.cell? ⟨bs,6,none⟩=some (.int .u16 h.sum):=R'.cell 6
 have c7:w'.cell? ⟨bs,7,none⟩=some (.int .u16 h.len):=R'.cell 7
 have c8:w'.cell? ⟨bs,8,none⟩=some (.slice a n c):=R'.cell 8
 unfold HV.sv at HG
 clear R R' HF s
 go_enter Tryz.func104,Tryz.ntmps104
 go_wp2_with fail
 refine HG.mono ?_
 rintro e w1 ⟨rfl,t1⟩
 have T1:Hid _:=t1
 clear t1 HG
 go_wp2
 go_ret
 exact⟨rfl,T1.out⟩
def fIdx:List Bool→Int
 | [] => -1
 | b::r=>if b then (if fIdx r<0 then -1 else fIdx r+1) else 0
theorem Qnl:∀l:List Bool,-1≤fIdx l
 | []=>by simp [fIdx]
 | b::r=>by
  have:=Qnl r
  unfold fIdx
  split <;> (try split) <;> omega
theorem Qrd {l:List Bool} {k:Nat} (hk:l[k]?=some false) (ha:∀j,j<k→l[j]?=some true):fIdx l=k:=by
 induction l generalizing k with
 | nil=>simp at hk
 | cons b r ih =>
  cases k with
  | zero =>
   obtain rfl:b=false:=by simpa using hk
   rfl
  | succ k =>
   obtain rfl:b=true:=by simpa using ha 0 (by omega)
   have:=ih (k:=k) (by simpa using hk) (fun j hj=>by simpa using ha (j+1) (by omega))
   unfold fIdx
   rw [this,if_pos rfl,if_neg (by omega)]
   omega
theorem Qom {l:List Bool} (ha:∀j,j<l.length→l[j]?=some true):fIdx l = -1:=by
 induction l with
 | nil=>rfl
 | cons b r ih =>
  obtain rfl:b=true:=by simpa using ha 0 (by simp)
  have:=ih (fun j hj=>by simpa using ha (j+1) (by simpa using hj))
  unfold fIdx
  rw [this]
  rfl
theorem Qjs:∀l:List Bool,decide (fIdx l ≥ 0)=!(l.all id)
 | []=>by simp [fIdx]
 | b::r=>by
  have:=Qjs r
  unfold fIdx
  cases b with
  | false=>simp
  | true =>
   simp only [if_true,List.all_cons,id,Bool.true_and]
   rw [←this]
   by_cases h:fIdx r<0
   ·rw [if_pos h];simp;omega
   ·rw [if_neg h];simp;omega
theorem Qro (g c bs:Nat) (fvs:List Value) (bl:List Bool) (w:World) (hl:fvs.length=bl.length) (hs:bl.length<1000) (R:Row w g 94 fvs) (HF:∀(j:Nat) (fv:Value) (b:Bool),fvs[j]?=some fv→bl[j]?=some b→FB w bs fv b) :
  Calls Tryz.prog 146 #[.slice (some ⟨g,0,none⟩) bl.length c,.func (.func 104) #[] #[.pointer (some ⟨bs,0,none⟩)]] w fun e w'=>e=.returned (.int .i64 (fIdx bl))∧Touch (fun _=>False) w w':=by
 have HR:Hid (Row w g 94 fvs):=R
 have HH:Hid (∀(j:Nat) (fv:Value) (b:Bool),fvs[j]?=some fv→bl[j]?=some b→FB w bs fv b):=HF
 have HI:Hid (∀k:Nat,bl[k]?=some false→(∀j,j<k→bl[j]?=some true)→fIdx bl=k):=fun k h1 h2=>Qrd h1 h2
 have HM:Hid ((∀j,j<bl.length→bl[j]?=some true)→fIdx bl = -1):=Qom
 have HLn:Hid (fvs.length=bl.length):=hl
 clear R HF hl
 generalize fIdx bl=z at *
 generalize hn:bl.length=n at *
 have Hn:Hid (bl.length=n):=hn
 clear hn
 go_enter Tryz.func146,Tryz.ntmps146
 go_wp2
 go_loopg [5,8] n (fun gg _ s8 wr=>∃kk:Nat,kk≤n∧n-kk≤gg∧s8=.int .i64 kk∧Hid (∀j,j<kk→bl[j]?=some true)∧Touch (fun _=>False) w wr)
 case atStart=>exact⟨0,Nat.zero_le _,by omega,rfl,fun j hj=>absurd hj (by omega),Touch.refl _ _⟩
 case round =>
  obtain⟨kk,hkk,hg,rfl,HA,t⟩:=hrel
  have HT:Hid (Touch (fun _=>False) w wr):=t
  rcases Nat.lt_or_ge kk n with h|h
  ·have hlt:(kk:Int)<(n:Int):=by omega
   obtain⟨b,hb⟩:∃b,bl[kk]?=some b:=⟨bl[kk]'(by rw [Hn.out];exact h),by simp⟩
   obtain⟨fv,hfv⟩:∃fv,fvs[kk]?=some fv:=⟨fvs[kk]'(by rw [HLn.out];exact h),by simp⟩
   have hc:wr.cell? ⟨g,kk,none⟩=some fv:=((HR.out.keep t).cell kk).trans hfv
   have HC:=(HH.out kk fv b hfv hb) wr ⟨t⟩
   cases b with
   | true =>
    have HN:Hid (∀j,j<kk+1→bl[j]?=some true):=fun j hj=>by
     rcases Nat.lt_or_ge j kk with h' | h'
     ·exact HA.out j h'
     ·obtain rfl:j=kk:=by omega
      exact hb
    clear t hfv hb HA HR HH HI HM HLn Hn
    go_wp2_with fail
    refine HC.mono ?_
    rintro e w1 ⟨rfl,t1⟩
    have T1:Hid _:=t1
    clear t1 HC hc
    go_wp2
    go_roundg (n-(kk+1))
    case measure=>omega
    case rel=>exact⟨kk+1,by omega,by omega,by go_num,HN,HT.out.trans T1.out⟩
   | false =>
    have HZ:Hid (z=kk):=HI.out kk hb HA.out
    clear t hfv hb HA HR HH HI HM HLn Hn
    go_wp2_with fail
    refine HC.mono ?_
    rintro e w1 ⟨rfl,t1⟩
    have T1:Hid _:=t1
    clear t1 HC hc
    go_wp2
    go_ret
    exact⟨Qav HZ.out.symm,HT.out.trans T1.out⟩
  ·have hlt:¬(kk:Int)<(n:Int):=by omega
   have HZ:Hid (z = -1):=HM.out (fun j hj=>HA.out j (by omega))
   clear t HA HR HH HI HM HLn Hn
   go_wp2
   go_ret
   exact⟨Qav HZ.out.symm,HT.out⟩
theorem Qms (g c bs:Nat) (fvs:List Value) (bl:List Bool) (w:World) (hl:fvs.length=bl.length) (hs:bl.length<1000) (R:Row w g 94 fvs) (HF:∀(j:Nat) (fv:Value) (b:Bool),fvs[j]?=some fv→bl[j]?=some b→FB w bs fv b) :
  Calls Tryz.prog 105 #[.slice (some ⟨g,0,none⟩) bl.length c,.func (.func 104) #[] #[.pointer (some ⟨bs,0,none⟩)]] w fun e w'=>e=.returned (.bool (!(bl.all id)))∧Touch (fun _=>False) w w':=by
 have HI:=Qro g c bs fvs bl w hl hs R HF
 have HB:Hid (decide (fIdx bl ≥ 0)=!(bl.all id)):=Qjs bl
 have hbd:=Qnl bl
 clear hl R HF hs
 generalize bl.all id=z at *
 generalize fIdx bl=i at *
 generalize bl.length=n at *
 go_enter Tryz.func105,Tryz.ntmps105
 go_wp2_with fail
 refine HI.mono ?_
 rintro e w1 ⟨rfl,t1⟩
 have T1:Hid _:=t1
 clear t1 HI
 go_wp2
 go_ret
 exact⟨Qaj HB.out,T1.out⟩
theorem all5 (B:List SE) (h:HV) (rs:List Int):[q1 h,q2 h,q3 h,q4 B h,chkE h rs==0].all id=(cntB h rs&&q4 B h):=by
 have hy:yrs h.age=3600↔¬h.age%32768<3600:=by unfold yrs;split <;> omega
 rw [Bool.eq_iff_iff]
 simp only [List.all_cons,List.all_nil,id,Bool.and_true,Bool.and_eq_true,beq_iff_eq,q1,q2,q3,cntB,decide_eq_true_eq,Bool.not_eq_true',decide_eq_false_iff_not,hy,Classical.not_not]
 constructor
 ·rintro ⟨a,b,c,d,e⟩;exact⟨⟨a,b,c,e⟩,d⟩
 ·rintro ⟨⟨a,b,c,e⟩,d⟩;exact⟨a,b,c,d,e⟩
theorem Qt5 {B:List SE} {x:SE} (h:(cntB x.h x.rs&&q4 B x.h)=false):putS B x=B:=by
 unfold putS
 by_cases hc:cntB x.h x.rs=true
 ·rw [if_pos hc]
  rw [hc,Bool.true_and] at h
  unfold q4 at h
  split at h
  ·rename_i j hj
   rw [hj]
   dsimp only
   rw [if_neg (by rw [h];simp)]
  ·cases h
 ·rw [if_neg hc]
theorem Qrg {B:List SE} {x:SE} (h:(cntB x.h x.rs&&q4 B x.h)=true) (hp:plAt B x.h.pl=none):putS B x=B++[x]:=by
 unfold putS
 rw [Bool.and_eq_true] at h
 rw [if_pos h.1,hp]
theorem Qrz {B:List SE} {x:SE} {j:Nat} (h:(cntB x.h x.rs&&q4 B x.h)=true) (hp:plAt B x.h.pl=some j):putS B x=B.set j x:=by
 unfold putS
 rw [Bool.and_eq_true] at h
 have h4:=h.2
 unfold q4 at h4
 rw [hp] at h4
 dsimp only at h4
 rw [if_pos h.1,hp]
 dsimp only
 rw [if_pos h4]
theorem Qq2 {w:World} {m:Nat} {B:List SE} {x:SE} (hm:AM w 127 m (bestL B)) (ok:x.h.All) (h:(cntB x.h x.rs&&q4 B x.h)=true) :
  ∃w',(Instr.mapUpdate 197 (.map (some m)) (plV x.h.pl) (x.h.sv x.v)).run Tryz.prog w=.ok () w'∧AM w' 127 m (bestL (putS B x))∧Touch (fun k=>k=m) w w':=by
 cases hp:plAt B x.h.pl with
 | none =>
  rw [Qrg h hp]
  obtain⟨q,hq⟩:=Qft x.h.pl ok.i.1 ok.i.2
  obtain⟨w',h1,h2,h3⟩:=AM.putNew kindB hm (x.h.sv x.v) hq (fun e he=>by
   obtain⟨y,hy,rfl⟩:=List.mem_map.1 he
   exact fun e=>Qfc hp y hy (Qe3 e))
  exact⟨w',h1,by unfold bestL;rw [List.map_append];exact h2,h3⟩
 | some j =>
  rw [Qrz h hp]
  obtain⟨y,hy,hpl,hj⟩:=Qff hp
  have hg:(bestL B)[j]?=some (plV x.h.pl,y.h.sv y.v):=by unfold bestL;rw [List.getElem?_map,hy,←hpl];rfl
  obtain⟨w',h1,h2,h3⟩:=AM.putOld kindB hm (x.h.sv x.v) hg
  exact⟨w',h1,by unfold bestL;rw [List.map_set];exact h2,h3⟩
def fvsL (b0:Nat):List Value:=[.func (.func 96) #[] #[],.func (.func 97) #[] #[],.func (.func 99) #[] #[],.func (.func 101) #[] #[.pointer (some ⟨b0,0,none⟩)],.func (.func 102) #[] #[]]
structure CR (w wr:World) (l:List SE) (k m0 b0 f0:Nat):Prop where
 t:Touch (fun _=>False) w wr
 m:AM wr 127 m0 (bestL (bests (l.take k)))
 b:wr.cell? ⟨b0,0,none⟩=some (.map (some m0))
 f:Row wr f0 94 (fvsL b0)
structure KpS (w:World) (bs b0 m0:Nat) (xs:List Value):Prop where
 row:Row w bs 57 xs
 box:w.cell? ⟨b0,0,none⟩=some (.map (some m0))
theorem KpS.touch {F:Nat→Prop} {w w':World} {bs b0 m0:Nat} {xs:List Value} (h:KpS w bs b0 m0 xs) (t:Touch F w w') (h1:¬F bs) (h2:¬F b0):KpS w' bs b0 m0 xs:=⟨Qad h.row t h1,(t.cell (Qaa h.box) h2).trans h.box⟩
theorem ask5 (w:World) (bs b0 f0 m0 cf:Nat) (x:SE) (B:List SE) (xa:Option Addr) (xc:Nat) (hv:x.v=.slice xa x.rs.length xc) (ok:x.Ok w) (hn:x.rs.length≤1000000∧RdOk x.h.typ) (hB:∀y∈B,∃ya yn yc,y.v=.slice ya yn yc)
  (R:Row w bs 57 [.int .u16 x.h.age,.int .u8 x.h.opts,.int .u8 x.h.typ,.int .u32 x.h.id,.int .u32 x.h.adv,.int .i32 x.h.seq,.int .u16 x.h.sum,.int .u16 x.h.len,.slice xa x.rs.length xc]) (hb:w.cell? ⟨b0,0,none⟩=some (.map (some m0))) (hm:AM w 127 m0 (bestL B)) (hf:Row w f0 94 (fvsL b0)) :
  Calls Tryz.prog 105 #[.slice (some ⟨f0,0,none⟩) 5 cf,.func (.func 104) #[] #[.pointer (some ⟨bs,0,none⟩)]] w fun e w'=>e=.returned (.bool (!(cntB x.h x.rs&&q4 B x.h)))∧Touch (fun _=>False) w w':=by
 have h1:FB w bs (.func (.func 96) #[] #[]) (q1 x.h):=Qt6 x.h xa x.rs.length xc w bs 0 _ R (fun w' s=>Qp3 _ _ _ _ _)
 have h2:FB w bs (.func (.func 97) #[] #[]) (q2 x.h):=Qud x.h xa x.rs.length xc w bs 0 _ R (fun w' s=>Qpc _ ok.all _ _ _ _)
 have h3:FB w bs (.func (.func 99) #[] #[]) (q3 x.h):=Qtc x.h xa x.rs.length xc w bs 0 _ R (fun w' s=>Qpj _ _ _ _ _)
 have h4:FB w bs (.func (.func 101) #[] #[.pointer (some ⟨b0,0,none⟩)]) (q4 B x.h):=Qs6 x.h xa x.rs.length xc w bs b0 _ R (fun w' s=>Qpg _ ok.all _ _ _ _ b0 m0 B hB (s.t.cellN hb) (hm.keepN s.t))
 have h5:FB w bs (.func (.func 102) #[] #[]) (chkE x.h x.rs==0):=Qua x.h xa x.rs.length xc w bs 0 _ R (fun w' s=>by rw [←hv];exact Qsa _ ok.all hn.2 _ _ _ (ok.arg.keepN s.t) ok.byte hn.1)
 have hc:=Qms f0 cf bs (fvsL b0) [q1 x.h,q2 x.h,q3 x.h,q4 B x.h,chkE x.h x.rs==0] w rfl (by simp) hf (fun j fv b hj hb'=>by
  match j,hj,hb' with
  | 0,hj,hb'=>simp [fvsL] at hj hb';subst hj;subst hb';exact h1
  | 1,hj,hb'=>simp [fvsL] at hj hb';subst hj;subst hb';exact h2
  | 2,hj,hb'=>simp [fvsL] at hj hb';subst hj;subst hb';exact h3
  | 3,hj,hb'=>simp [fvsL] at hj hb';subst hj;subst hb';exact h4
  | 4,hj,hb'=>simp [fvsL] at hj hb';subst hj;rw [←hb'];exact h5
  | j+5,hj,hb'=>simp [fvsL] at hj)
 rw [all5] at hc
 exact hc
theorem Qoy {w:World} {l:List SE} {k:Nat} (h:∀x∈l,x.Ok w):∀y∈bests (l.take k),∃ya yn yc,y.v=.slice ya yn yc:=by
 intro y hy
 have:=((Qdg (l.take k)).all y hy).1
 obtain⟨a,c,e,-⟩:=(h y (List.mem_of_mem_take this)).arg.form
 exact⟨a,_,c,e⟩
theorem Qlv {l:List SE} {k:Nat} {x:SE} (hx:l[k]?=some x):bests (l.take (k+1))=putS (bests (l.take k)) x:=by
 rw [List.take_add_one,hx]
 exact Qk6 _ _
theorem Qij (v:Value) (l:List SE) (w:World) (hv:StatesAt w v l) (hl:l.length≤1000000) (hb:∀x∈l,x.rs.length≤1000000∧RdOk x.h.typ) (Q:Value→World→Prop)
  (HI:∀w' m,Touch (fun _=>False) w w'→AM w' 127 m (bestL (bests l))→Calls Tryz.prog 106 #[.map (some m)] w' fun e w''=>∃u,e=.returned u∧Q u w'') :
  Calls Tryz.prog 52 #[v] w fun e w'=>∃u,e=.returned u∧Q u w':=by
 obtain⟨aa,ca,rfl,hm⟩:=ValsAt.form hv.vals
 have HA:Hid (StatesAt w (.slice aa l.length ca) l):=hv
 have HBd:Hid (∀x∈l,x.rs.length≤1000000∧RdOk x.h.typ):=hb
 have HIo:Hid (∀w' m,Touch (fun _=>False) w w'→AM w' 127 m (bestL (bests l))→Calls Tryz.prog 106 #[.map (some m)] w' fun e w''=>∃u,e=.returned u∧Q u w''):=HI
 clear hv hm hb HI
 have hmm:=@run_makeMap Tryz.prog
 have hS0:Hid (CR w (((w.alloc (.map #[] 0)).alloc (.cells #[.map (some w.heap.size)] 197)).alloc (.cells #[.func (.func 96) #[] #[],.func (.func 97) #[] #[],.func (.func 99) #[] #[],.func (.func 101) #[] #[.pointer (some ⟨w.heap.size+1,0,none⟩)],.func (.func 102) #[] #[]] 94)) l 0 w.heap.size (w.heap.size+1) (w.heap.size+2)):=by
  refine⟨(((Touch.refl _ _).alloc _).alloc _).alloc _,?_,?_,?_⟩
  ·exact ((AM.made w _ 0).keepN ((Touch.refl _ _).alloc _)).keepN ((Touch.refl _ _).alloc _)
  ·simp [go_sem]
  ·have:=Qac ((w.alloc (.map #[] 0)).alloc (.cells #[.map (some w.heap.size)] 197)) 94 #[.func (.func 96) #[] #[],.func (.func 97) #[] #[],.func (.func 99) #[] #[],.func (.func 101) #[] #[.pointer (some ⟨w.heap.size+1,0,none⟩)],.func (.func 102) #[] #[]]
   simpa [fvsL] using this
 go_enter Tryz.func52,Tryz.ntmps52
 go_upto_region 3 with fail
 generalize ((w.alloc (.map #[] 0)).alloc (.cells #[.map (some w.heap.size)] 197)).alloc (.cells #[.func (.func 96) #[] #[],.func (.func 97) #[] #[],.func (.func 99) #[] #[],.func (.func 101) #[] #[.pointer (some ⟨w.heap.size+1,0,none⟩)],.func (.func 102) #[] #[]] 94)=w0 at *
 have hz0:Hid (w.heap.size≤w.heap.size):=Nat.le_refl _
 have hz1:Hid (w.heap.size<w.heap.size+1∧w.heap.size+1<w.heap.size+2):=⟨by omega,by omega⟩
 generalize hf0:w.heap.size+2=f0 at *
 generalize hb0:w.heap.size+1=b0 at *
 generalize hm0:w.heap.size=m0 at *
 have HM0:Hid (w.heap.size=m0):=hm0
 clear hf0 hb0 hm0 hz0 hmm
 go_wp2_with fail
 go_loopw [13] (fun i wr=>∃k:Nat,k≤l.length∧i=.int .i64 k∧CR w wr l k m0 b0 f0) (fun i _=>l.length-(intOf i).toNat)
 case atStart=>exact⟨0,Nat.zero_le _,rfl,hS0.out⟩
 case round =>
  obtain⟨j,hk,rfl,cr⟩:=hrel
  have HC:Hid (CR w wr l j m0 b0 f0):=cr
  clear cr hS0
  by_cases hlt:j<l.length
  ·have hlt':(j:Int)<(l.length:Int):=by omega
   obtain⟨x,hx⟩:∃x,l[j]?=some x:=⟨l[j],by simp [hlt]⟩
   have hA:=HA.out.keep HC.out.t
   obtain⟨ok,g,o,c,eg,hc⟩:=hA.one hx
   simp only [Value.slice.injEq] at eg
   obtain⟨rfl,-,rfl⟩:=eg
   obtain⟨xa,xc,hxv,-⟩:=ok.arg.form
   have z0:wr.cell? ⟨g,o+j*9,none⟩=some (.int .u16 x.h.age):=hc 0 _ rfl
   have z1:wr.cell? ⟨g,o+j*9+1,none⟩=some (.int .u8 x.h.opts):=by rw [Nat.add_assoc];exact hc 1 _ rfl
   have z2:wr.cell? ⟨g,o+j*9+2,none⟩=some (.int .u8 x.h.typ):=by rw [Nat.add_assoc];exact hc 2 _ rfl
   have z3:wr.cell? ⟨g,o+j*9+3,none⟩=some (.int .u32 x.h.id):=by rw [Nat.add_assoc];exact hc 3 _ rfl
   have z4:wr.cell? ⟨g,o+j*9+4,none⟩=some (.int .u32 x.h.adv):=by rw [Nat.add_assoc];exact hc 4 _ rfl
   have z5:wr.cell? ⟨g,o+j*9+5,none⟩=some (.int .i32 x.h.seq):=by rw [Nat.add_assoc];exact hc 5 _ rfl
   have z6:wr.cell? ⟨g,o+j*9+6,none⟩=some (.int .u16 x.h.sum):=by rw [Nat.add_assoc];exact hc 6 _ rfl
   have z7:wr.cell? ⟨g,o+j*9+7,none⟩=some (.int .u16 x.h.len):=by rw [Nat.add_assoc];exact hc 7 _ rfl
   have z8:wr.cell? ⟨g,o+j*9+8,none⟩=some (.slice xa x.rs.length xc):=by rw [←hxv,Nat.add_assoc];exact hc 8 _ rfl
   have hn:=HBd.out x (List.mem_of_getElem? hx)
   have bl:=Qaa z0
   have tA:Touch (fun _=>False) wr (wr.alloc (.cells #[.int .u16 x.h.age,.int .u8 x.h.opts,.int .u8 x.h.typ,.int .u32 x.h.id,.int .u32 x.h.adv,.int .i32 x.h.seq,.int .u16 x.h.sum,.int .u16 x.h.len,.slice xa x.rs.length xc] 57)):=(Touch.refl _ _).alloc _
   have RA:Row (wr.alloc (.cells #[.int .u16 x.h.age,.int .u8 x.h.opts,.int .u8 x.h.typ,.int .u32 x.h.id,.int .u32 x.h.adv,.int .i32 x.h.seq,.int .u16 x.h.sum,.int .u16 x.h.len,.slice xa x.rs.length xc] 57)) wr.heap.size 57 [.int .u16 x.h.age,.int .u8 x.h.opts,.int .u8 x.h.typ,.int .u32 x.h.id,.int .u32 x.h.adv,.int .i32 x.h.seq,.int .u16 x.h.sum,.int .u16 x.h.len,.slice xa x.rs.length xc]:=Qac _ _ _
   have HK:=ask5 (wr.alloc (.cells #[.int .u16 x.h.age,.int .u8 x.h.opts,.int .u8 x.h.typ,.int .u32 x.h.id,.int .u32 x.h.adv,.int .i32 x.h.seq,.int .u16 x.h.sum,.int .u16 x.h.len,.slice xa x.rs.length xc] 57)) wr.heap.size b0 f0 m0 5 x (bests (l.take j)) xa xc hxv (ok.keep tA) hn (Qoy HA.out.ok) RA (tA.cellN HC.out.b) (HC.out.m.keepN tA) (HC.out.f.keep tA)
   have HRA:Hid (Touch (fun _=>False) wr (wr.alloc (.cells #[.int .u16 x.h.age,.int .u8 x.h.opts,.int .u8 x.h.typ,.int .u32 x.h.id,.int .u32 x.h.adv,.int .i32 x.h.seq,.int .u16 x.h.sum,.int .u16 x.h.len,.slice xa x.rs.length xc] 57))∧Row (wr.alloc (.cells #[.int .u16 x.h.age,.int .u8 x.h.opts,.int .u8 x.h.typ,.int .u32 x.h.id,.int .u32 x.h.adv,.int .i32 x.h.seq,.int .u16 x.h.sum,.int .u16 x.h.len,.slice xa x.rs.length xc] 57)) wr.heap.size 57 [.int .u16 x.h.age,.int .u8 x.h.opts,.int .u8 x.h.typ,.int .u32 x.h.id,.int .u32 x.h.adv,.int .i32 x.h.seq,.int .u16 x.h.sum,.int .u16 x.h.len,.slice xa x.rs.length xc]):=⟨tA,RA⟩
   have HST:Hid (bests (l.take (j+1))=putS (bests (l.take j)) x):=Qlv hx
   have HOK:Hid (x.h.All):=ok.all
   have HXV:Hid (x.v=.slice xa x.rs.length xc):=hxv
   have hbz:Hid (b0<wr.heap.size∧m0<wr.heap.size):=⟨Qaa HC.out.b,HC.out.m.lt⟩
   have HP:=fun w=>Qb9 x.h w
   clear hA ok hc hxv hx hn tA RA HA HBd HIo
   cases hall:(cntB x.h x.rs&&q4 (bests (l.take j)) x.h) with
   | false =>
    have HNX:Hid (bests (l.take (j+1))=bests (l.take j)):=by rw [Hid,HST.out,Qt5 hall]
    rw [hall] at HK
    clear hall HST HP hbz
    go_wp2_with fail
    refine HK.mono ?_
    rintro e w1 ⟨rfl,t1⟩
    have HT1:Hid (Touch (fun _=>False) wr w1):=HRA.out.1.trans t1
    clear t1 HK HRA z0 z1 z2 z3 z4 z5 z6 z7 z8
    go_wp2_with fail
    go_roundw
    case rel=>exact⟨j+1,by omega,by go_num,⟨HC.out.t.trans HT1.out,by rw [HNX.out];exact HC.out.m.keepN HT1.out,HT1.out.cellN HC.out.b,HC.out.f.keep HT1.out⟩⟩
    case measure=>simp [intOf];omega
   | true =>
    have HAL:Hid ((cntB x.h x.rs&&q4 (bests (l.take j)) x.h)=true):=hall
    rw [hall] at HK
    clear hall
    go_wp2_with fail
    refine HK.mono ?_
    rintro e w1 ⟨rfl,t1⟩
    have HT1:Hid (Touch (fun _=>False) wr w1):=HRA.out.1.trans t1
    have KS:KpS w1 wr.heap.size b0 m0 [.int .u16 x.h.age,.int .u8 x.h.opts,.int .u8 x.h.typ,.int .u32 x.h.id,.int .u32 x.h.adv,.int .i32 x.h.seq,.int .u16 x.h.sum,.int .u16 x.h.len,.slice xa x.rs.length xc]:=⟨HRA.out.2.keep t1,HT1.out.cellN HC.out.b⟩
    clear t1 HK HRA z0 z1 z2 z3 z4 z5 z6 z7 z8
    unfold plV at HP
    generalize hbs:wr.heap.size=bs at *
    go_wp2_with fail
    have KD:KpS w1.drew bs b0 m0 [.int .u16 x.h.age,.int .u8 x.h.opts,.int .u8 x.h.typ,.int .u32 x.h.id,.int .u32 x.h.adv,.int .i32 x.h.seq,.int .u16 x.h.sum,.int .u16 x.h.len,.slice xa x.rs.length xc]:=KS.touch (F:=fun _=>False) ((Touch.refl _ _).drew) (fun h=>h) (fun h=>h)
    refine wp_region_held_drew (S:=fun w'=>KpS w' bs b0 m0 [.int .u16 x.h.age,.int .u8 x.h.opts,.int .u8 x.h.typ,.int .u32 x.h.id,.int .u32 x.h.adv,.int .i32 x.h.seq,.int .u16 x.h.sum,.int .u16 x.h.len,.slice xa x.rs.length xc]) (by kernel_rfl) KD (fun hHeld=>?_)
    refine wpAnyH_take (i:=0) (oi:=⟨some 22,_,_,_,_,_⟩) (v:=.map (some m0)) rfl (by kernel_rfl) (by kernel_rfl) (by kernel_rfl) (fun _ _ _ h=>h) (Or.inl ⟨by rfl,fun w hw=>by have hwb:=hw.box;go_simp⟩) (by assumption) ?_
    simp only [Act.put,Qw2,Qw3,Qw4]
    refine wpAnyH_take (i:=1) (oi:=⟨some 23,_,_,_,_,_⟩) (v:=.pointer (some ⟨bs,0,none⟩)) rfl (by kernel_rfl) (by kernel_rfl) (by kernel_rfl) (fun _ _ _ h=>h) (Or.inl ⟨by rfl,fun w hw=>by go_simp⟩) (by assumption) ?_
    simp only [Act.put,Qw2,Qw3,Qw4]
    refine wpAnyH_take (i:=2) (oi:=⟨some 24,_,_,_,_,_⟩) (v:=.agg #[.int .u16 x.h.age,.int .u8 x.h.opts,.int .u8 x.h.typ,.int .u32 x.h.id,.int .u32 x.h.adv,.int .i32 x.h.seq,.int .u16 x.h.sum,.int .u16 x.h.len]) rfl (by kernel_rfl) (by kernel_rfl) (by kernel_rfl) (fun _ _ _ h=>h) (yieldsIf_load_mid (by rfl) _ _ rfl _ _ rfl [.int .u16 x.h.age,.int .u8 x.h.opts,.int .u8 x.h.typ,.int .u32 x.h.id,.int .u32 x.h.adv,.int .i32 x.h.seq,.int .u16 x.h.sum,.int .u16 x.h.len] _ (fun w h=>Qdc h.row) Tryz.underlying54 rfl (by kernel_rfl)) (by assumption) ?_
    simp only [Act.put,Qw2,Qw3,Qw4]
    refine wpAnyH_take (i:=4) (oi:=⟨some 26,_,_,_,_,_⟩) (v:=.agg #[.int .u16 x.h.age,.int .u8 x.h.opts,.int .u8 x.h.typ,.int .u32 x.h.id,.int .u32 x.h.adv,.int .i32 x.h.seq,.int .u16 x.h.sum,.int .u16 x.h.len,.slice xa x.rs.length xc]) rfl (by kernel_rfl) (by kernel_rfl) (by kernel_rfl) (fun _ _ _ h=>h) (yieldsIf_load_mid (by rfl) _ _ rfl _ _ rfl [.int .u16 x.h.age,.int .u8 x.h.opts,.int .u8 x.h.typ,.int .u32 x.h.id,.int .u32 x.h.adv,.int .i32 x.h.seq,.int .u16 x.h.sum,.int .u16 x.h.len,.slice xa x.rs.length xc] _ (fun w h=>Qba h.row) Tryz.underlying57 rfl (by kernel_rfl)) (by assumption) ?_
    simp only [Act.put,Qw2,Qw3,Qw4]
    refine wpAnyH_ready (rs:=[3]) (by kernel_rfl) (by simp) ?_
    refine AllReadyH.cons (o:=⟨some 25,_,_,_,_,_⟩) rfl (fun K hK=>?_) AllReadyH.nil
    go_simp
    refine Calls.mono (HP _) ?_
    rintro e y1 ⟨rfl,u1⟩
    have K1:KpS y1 bs b0 m0 [.int .u16 x.h.age,.int .u8 x.h.opts,.int .u8 x.h.typ,.int .u32 x.h.id,.int .u32 x.h.adv,.int .i32 x.h.seq,.int .u16 x.h.sum,.int .u16 x.h.len,.slice xa x.rs.length xc]:=KD.touch (F:=fun _=>False) u1 (fun h=>h) (fun h=>h)
    have TY:Touch (fun _=>False) wr y1:=(HT1.out.trans ((Touch.refl _ _).drew)).trans u1
    refine hK.out _ _ K1 (fun hHeld=>?_)
    clear hK K u1
    refine wpAnyH_ready (rs:=[5]) (by kernel_rfl) (by simp) ?_
    refine AllReadyH.cons rfl (fun K hK=>?_) AllReadyH.nil
    obtain⟨wm,hput,mk,tm⟩:=Qq2 (HC.out.m.keepN TY) HOK.out HAL.out
    have HMK:Hid _:=mk
    have HTM:Hid _:=tm
    clear mk tm
    rw [HXV.out] at hput
    unfold plV HV.sv at hput
    go_simp
    have hbz':=hbz.out
    have hz1':=hz1.out
    refine hK.out _ _ (K1.touch HTM.out (by omega) (by omega)) (fun hHeld=>?_)
    clear hK K hput
    refine wpAnyH_done (by kernel_rfl) ?_ _
    go_wp2_with fail
    go_roundw
    case rel=>exact⟨j+1,by omega,by go_num,⟨(HC.out.t.trans TY).trans' HTM.out (fun i hi e=>by have:=HM0.out;omega),by rw [HST.out];exact HMK.out,(HTM.out.cell (Qaa K1.box) (by show ¬b0=m0;omega)).trans K1.box,Qad (HC.out.f.keep TY) HTM.out (by omega)⟩⟩
    case measure=>simp [intOf];omega
  ·have hlt':¬(j:Int)<(l.length:Int):=by omega
   obtain rfl:j=l.length:=by omega
   have cb:=HC.out.b
   have HM:Hid (AM wr 127 m0 (bestL (bests l))):=by have:=HC.out.m;rw [List.take_length] at this;exact this
   have bl:=Qaa cb
   go_wp2_with fail
   refine Calls.mono (HIo.out _ _ HC.out.t HM.out) ?_
   rintro e w1 ⟨u,rfl,hq⟩
   have HQ:Hid _:=hq
   clear hq
   go_wp2_with fail
   go_ret
   exact⟨_,rfl,HQ.out⟩
end Go.Proofs.YtddbffoiadmffaaGreat
