import Derived.Test.YtldmkoogghemhaaGreatBtImp3
import Derived.Test.YtldmkoogghemhaaGreatBtRou
import Derived.Test.YtldmkoogghemhaaGreatRefEnc2
namespace Go.Proofs.YtldmkoogghemhaaGreat
set_option maxHeartbeats 8000000
open Go.RowKit
set_option linter.unusedVariables false
set_option maxRecDepth 100000
theorem Qf3 {x y:Int} (hx:1≤x∧x≤255) (hy:1≤y∧y≤255):numBytes 2 (256*x+y)=[x,y]:=by
 rw [numBytes2]
 congr 1
 ·omega
 ·congr 1
  omega
theorem Qi9 (h:HV) (l:List Int) (s:Int) (x y:Int) (hs:numBytes 2 s=[x,y]):(headB { h with sum:=s }++l).drop 2=laid ((headB h++l).drop 2) 14 x y:=by
 simp only [headB,hs,numBytes2,numBytes4,List.cons_append,List.nil_append,List.drop,laid,List.set]
theorem Qku (h:HV) (l:List Int) (a:Int):(headB { h with age:=a }++l).drop 2=(headB h++l).drop 2:=by
 simp only [headB,numBytes2,numBytes4,List.cons_append,List.nil_append,List.drop]
theorem Qe7 (h:HV) (l:List Int):((headB h++l).drop 2).length=18+l.length:=by
 rw [List.length_drop,List.length_append,Qaq];omega
theorem Qdm (h:HV) (l:List Int):257≤sealS h l∧sealS h l≤65535:=by
 have h1:=Qcd ((headB { h with len:=20+(l.length:Int) }++l).drop 2) 14
 have h2:=Qcm ((headB { h with len:=20+(l.length:Int) }++l).drop 2) 14
 unfold sealS
 omega
theorem Qjm (h:HV) (l:List Int):numBytes 2 (sealS h l)=[flx ((headB { h with len:=20+(l.length:Int) }++l).drop 2) 14,fly ((headB { h with len:=20+(l.length:Int) }++l).drop 2) 14]:=Qf3 (Qcd _ _) (Qcm _ _)
theorem Qhu (h:HV) (l:List Int):whole ((headB (sealH h l)++l).drop 2)=true:=by
 have e:sealH h l={ { h with len:=20+(l.length:Int) } with sum:=sealS h l }:=rfl
 rw [e,Qi9 _ l _ _ _ (Qjm h l)]
 exact Qhk _ 14 (by rw [Qe7];omega)
theorem Qg8 {h:HV} (ok:h.All) {l:List Int} (hl:l.length≤65515):(sealH h l).All:=by
 obtain⟨a,o,t,i,v,s,m,n⟩:=ok
 have:=Qdm h l
 exact⟨a,o,t,i,v,s,⟨by show 0≤sealS h l;omega,by show sealS h l<65536;omega⟩,⟨by show 0≤20+(l.length:Int);omega,by show 20+(l.length:Int)<65536;omega⟩⟩
theorem Qnk {h:HV} {B:BV} (ok:B.Ok) (he:EncOk h.typ B) (a:Int):chkE { sealH h (layB h.typ B) with age:=a } (layB h.typ B)=if h.seq = -2147483648∨¬bits BinOp.andNot .u16 a 32768≤3600 then 24 else 0:=by
 have hd:decB h.typ (layB h.typ B)=some B:=Qeo ok ((Qbi _ _).1 he.may)
 have hb:=Qdm h (layB h.typ B)
 have hw:=Qhu h (layB h.typ B)
 generalize layB h.typ B=l at *
 unfold chkE
 rw [Qku,hw]
 have e1:(sealH h l).len=20+(l.length:Int):=rfl
 have e2:(sealH h l).sum=sealS h l:=rfl
 have e3:(sealH h l).typ=h.typ:=rfl
 have e4:(sealH h l).seq=h.seq:=rfl
 dsimp only
 rw [e1,e2,e3,e4,hd]
 rw [if_neg (by omega),if_neg (by rintro (q|q);omega;cases q),if_neg (by rw [he.known];decide)]
 split
 ·rfl
 ·rw [if_neg (by simp)]
def ohS:HV:=⟨0,0,3,167903232,2,1,0,0⟩
def obS:BV:=⟨0,[],4294901760,[],4,false,0,0,[]⟩
theorem Qj2:ohS.All:=⟨by decide,by decide,by decide,by decide,by decide,by decide,by decide,by decide⟩
theorem Qhb:obS.Ok:=⟨by decide,by simp [obS],by decide,by simp [obS],by decide,by decide,by decide,by simp [obS]⟩
theorem Qf7:mayB 3 obS=true:=by decide
theorem Qd7:(layB 3 obS).length≤65515:=by
 have h1:=Qc7 3 obS
 have h2:sizeB 3 obS≤65515:=by decide
 omega
theorem Qm4:chkE (sealH ohS (layB 3 obS)) (layB 3 obS)=0:=by
 have h1:=Qnk (h:=ohS) Qhb ⟨rfl,Qf7,Qd7⟩ 0
 rw [if_neg (by decide)] at h1
 exact h1
theorem Qm3:decB 3 (layB 3 obS)=some obS:=Qeo Qhb ((Qbi _ _).1 Qf7)
theorem Qjf:∀z∈layB 3 obS,0≤z∧z<256:=Qd3 3 obS Qhb
def oneS (v:Value):SE:=⟨sealH ohS (layB 3 obS),v,layB 3 obS⟩
def oneR (hv:Value):WY:=⟨⟨⟨0,0⟩,2,1,1,0,3,0,0,[⟨5,2,false⟩]⟩,hv⟩
def oneW:WP:=⟨⟨167903232,16⟩,0,0,0,0,7,0,0,[⟨5,2,false⟩]⟩
theorem Qh3 (v hv:Value):leadsY [oneR hv] 1 [oneS v]=[⟨oneW,hv⟩]:=by
 have hc:cntS 1 (oneS v)=true:=decide_eq_true ⟨Or.inl rfl,(by decide:(2:Int)≠1),(by decide:¬yrs 0=3600),Qm4⟩
 have hf:[oneR hv].find? (isBd (oneS v).h.adv)=some (oneR hv):=by
  show [oneR hv].find? (isBd 2)=_
  simp [isBd,oneR]
 have hl:ledW (oneS v) (oneR hv).x=some oneW:=by
  have hd:decB (oneS v).h.typ (oneS v).rs=some obS:=Qm3
  unfold ledW
  rw [hd]
  have h1:pbn obS.mask=16:=by decide
  have h2:pcut 167903232 16=167903232:=by decide
  rw [if_neg (by show ¬((16777215:Int)≤4∨(4294967295:Int)<4+3);decide),if_neg (by show ¬((3:Int)=4);decide)]
  show some _=some _
  rw [show (Option.getD (some obS) BV.zero)=obS from rfl,h1]
  show some (WP.mk ⟨pcut 167903232 16,16⟩ 0 0 0 0 (3+4) 0 0 [⟨5,2,false⟩])=some oneW
  rw [h2]
  rfl
 have hy:leadY [oneR hv] 1 (oneS v)=some ⟨oneW,hv⟩:=by
  rw [Qfg hf hc,hl]
  rfl
 unfold leadsY
 simp [hy]
theorem Qfh {v hv:Value} {L:List WY} (h:L.Perm (leadsY [oneR hv] 1 [oneS v])):bestP (L.map (·.x))=[oneW]:=by
 rw [Qh3] at h
 rw [List.perm_singleton.1 h]
 rfl
structure OneP (w:World) (e:Ending) (w':World):Prop where
 out:∃(a:Option Addr) (c:Nat) (v:Value),e=.returned (.slice a 1 c)∧StatesAt w' (.slice a 1 c) [oneS v]∧Touch (fun _=>False) w w'
theorem Qmg (w:World):Calls Tryz.prog 24 #[] w (OneP w):=by
 have HA:=fun w=>Qh0 ohS Qj2 obS Qhb (.slice none 0 0) (.slice none 0 0) (.slice none 0 0) w ⟨⟨rfl,Or.inl ⟨rfl,rfl⟩⟩,⟨rfl,Or.inl ⟨rfl,rfl⟩⟩,Or.inl ⟨rfl,rfl⟩⟩ (by decide) (by decide) (by decide) rfl Qf7 (by decide)
 have fA:Hid (∀w' v,ArgAt w' v (layB 3 obS)→(oneS v).Ok w'):=fun w' v h=>⟨Qg8 Qj2 Qd7,h,Qjf⟩
 have gA:Hid (∀v,(oneS v).cells=[.int .u16 (sealH ohS (layB 3 obS)).age,.int .u8 (sealH ohS (layB 3 obS)).opts,.int .u8 (sealH ohS (layB 3 obS)).typ,.int .u32 (sealH ohS (layB 3 obS)).id,.int .u32 (sealH ohS (layB 3 obS)).adv,.int .i32 (sealH ohS (layB 3 obS)).seq,.int .u16 (sealH ohS (layB 3 obS)).sum,.int .u16 (sealH ohS (layB 3 obS)).len,v]):=fun _=>rfl
 have tA:ohS.typ=3:=rfl
 rw [tA] at HA
 clear tA
 generalize hsA:sealH ohS (layB 3 obS)=sA at *
 generalize hlA:layB 3 obS=lA at *
 unfold ohS HV.v obS BV.v HV.sv at HA
 clear hsA hlA
 go_enter Tryz.func24,Tryz.ntmps24
 go_wp2_with fail
 refine (HA _).mono ?_
 rintro e w1 ⟨uA,rfl,bA⟩
 obtain⟨xa,xc,rfl⟩:=bA.form
 have TA:Hid (Touch (fun _=>False) w w1):=bA.t
 have ARA:Hid (ArgAt w1 (.slice xa lA.length xc) lA):=bA.arg
 clear bA HA
 go_wp2_with fail
 go_ret
 have tz:Touch (fun _=>False) w1 ((w1.alloc (.cells #[.int .u16 sA.age,.int .u8 sA.opts,.int .u8 sA.typ,.int .u32 sA.id,.int .u32 sA.adv,.int .i32 sA.seq,.int .u16 sA.sum,.int .u16 sA.len,.slice xa lA.length xc] 59)).alloc (.cells #[.int .u16 sA.age,.int .u8 sA.opts,.int .u8 sA.typ,.int .u32 sA.id,.int .u32 sA.adv,.int .i32 sA.seq,.int .u16 sA.sum,.int .u16 sA.len,.slice xa lA.length xc] 59)):=((Touch.refl _ _).alloc _).alloc _
 have RZ:Row ((w1.alloc (.cells #[.int .u16 sA.age,.int .u8 sA.opts,.int .u8 sA.typ,.int .u32 sA.id,.int .u32 sA.adv,.int .i32 sA.seq,.int .u16 sA.sum,.int .u16 sA.len,.slice xa lA.length xc] 59)).alloc (.cells #[.int .u16 sA.age,.int .u8 sA.opts,.int .u8 sA.typ,.int .u32 sA.id,.int .u32 sA.adv,.int .i32 sA.seq,.int .u16 sA.sum,.int .u16 sA.len,.slice xa lA.length xc] 59)) (w1.heap.size+1) 59 [.int .u16 sA.age,.int .u8 sA.opts,.int .u8 sA.typ,.int .u32 sA.id,.int .u32 sA.adv,.int .i32 sA.seq,.int .u16 sA.sum,.int .u16 sA.len,.slice xa lA.length xc]:=by
  have:=Qac (w1.alloc (.cells #[.int .u16 sA.age,.int .u8 sA.opts,.int .u8 sA.typ,.int .u32 sA.id,.int .u32 sA.adv,.int .i32 sA.seq,.int .u16 sA.sum,.int .u16 sA.len,.slice xa lA.length xc] 59)) 59 #[.int .u16 sA.age,.int .u8 sA.opts,.int .u8 sA.typ,.int .u32 sA.id,.int .u32 sA.adv,.int .i32 sA.seq,.int .u16 sA.sum,.int .u16 sA.len,.slice xa lA.length xc]
  rw [World.size_alloc] at this
  exact this
 refine⟨some ⟨w1.heap.size+1,0,none⟩,1,.slice xa lA.length xc,rfl,⟨⟨rfl,Or.inr ⟨_,1,rfl,Nat.le_refl _,by unfold maxLen;omega,fun j u hj=>?_⟩⟩,fun x hx=>?_⟩,TA.out.trans tz⟩
 ·rw [Qah,Nat.zero_add,RZ.cell j,←gA.out]
  have e:statesC [oneS (.slice xa lA.length xc)]=(oneS (.slice xa lA.length xc)).cells:=by simp [statesC]
  rw [←e]
  exact hj
 ·obtain rfl:=List.mem_singleton.1 hx
  exact fA.out _ _ (ARA.out.keepN tz)
end Go.Proofs.YtldmkoogghemhaaGreat
