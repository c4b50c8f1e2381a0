import Derived.Test.YtddbffoiadmffaaGreatInKeys
import Derived.Lib.SliceRun
import Derived.Shelf.SlSortCmp.WholeK
import Derived.Shelf.SlGeneric
import Derived.Ground.SlsfProg
import Derived.Shelf.SlSortCmp.NoneTotal
import Derived.Test.YtddbffoiadmffaaGreatRows
namespace Go.Proofs.YtddbffoiadmffaaGreat
set_option maxHeartbeats 8000000
open Go.RowKit
set_option linter.unusedVariables false
set_option maxRecDepth 100000
theorem Qb6 {w:World} {b:Nat}:∀(l:List Value) (o:Nat) (w':World),Touch (fun k=>k=b) w w'→Touch (fun k=>k=b) w (w'.setCells b o l)
 | [],_,_,t=>t
 | v::l,o,w',t=>Qb6 l (o+1) _ (t.setCell (p:=⟨b,o,none⟩) (Or.inl rfl) v)
theorem Qef {T:TypeId} {b:Nat}:∀(l:List Value) (o:Nat) (w:World) (xs:List Value),Row w b T xs→∃ys,Row (w.setCells b o l) b T ys∧ys.length=xs.length∧ys.take o=xs.take o
 | [],_,w,xs,h=>⟨xs,h,rfl,rfl⟩
 | v::l,o,w,xs,h=>by
  obtain⟨ys,h2,h3,h4⟩:=Qef l (o+1) _ _ (h.set o v)
  refine⟨ys,h2,h3.trans (by simp),?_⟩
  have:=congrArg (List.take o) h4
  rw [List.take_take,List.take_take] at this
  simpa [Nat.min_eq_left (Nat.le_succ o),List.take_set_of_le (Nat.le_refl o)] using this
theorem Qkg {w:World} {base e k g c:Nat} {xs:List Value} (hb:base≤g) (h:Row w g e xs) (hc:c≤maxLen) (hs:xs.length=c*k):w.ownsRow base e k (.slice (some ⟨g,0,none⟩) 0 c) 0 [] :=
 ⟨by simp,Or.inr ⟨g,c,xs.toArray,rfl,hb,h,Nat.zero_le _,hc,by simpa using hs,by simp⟩⟩
theorem Qfw (a:Option Addr) (c:Nat) (ty:TypeId) (w:World):(Builtin.clear_ #[99] ty #[.slice a 0 c]).run Tryz.prog w=.ok (.tuple #[]) w:=by
 cases a <;> simp [Builtin.clear_,run_underlying Tryz.underlying99]
theorem Qm1 (n:Nat) (w:World) (v:Value) (hs:List HL) (h:LsB n w v hs) :
  Calls Tryz.prog 39 #[v] w fun e w'=>∃v',e=.returned v'∧LsB n w' v' []∧v'.ownBlock=v.ownBlock∧Touch (fun k=>v.ownBlock=some k) w w':=by
 rcases h.2 with⟨rfl,h0⟩|⟨g,cap,cur,rfl,hb,hh,h1,h2,h3,h4⟩
 ·have hcz:=Qfw none 0
  go_enter Tryz.func39,Tryz.ntmps39
  go_wp2_with fail
  go_ret
  exact⟨_,rfl,World.ownsRow_nil _ _ _ _,rfl,Touch.refl _ _⟩
 ·have hR:Row w g 43 cur.toList:=hh
  have hcl:cur.toList.length=cap*1:=by simpa using h3
  by_cases hz:hs.length=0
  ·have HF:Hid (LsB n w (.slice (some ⟨g,0,none⟩) 0 cap) []):=Qkg hb hR h2 hcl
   rw [hz]
   clear h h1 h2 h3 h4 hh hR hcl hb
   have hcz:=Qfw (some ⟨g,0,none⟩) cap
   go_enter Tryz.func39,Tryz.ntmps39
   go_wp2_with fail
   go_ret
   exact⟨_,rfl,HF.out,rfl,Touch.refl _ _⟩
  ·have hrun:=fun ty=>Lib.run_clear_slice (P:=Tryz.prog) w 99 43 ty (.slice none 0 0) Tryz.underlying99 (fun _=>rfl) rfl rfl g 0 hs.length cap (by omega) (fun j hj=>by
    rw [Nat.zero_add,hR.cell j]
    have:j<cur.toList.length:=by omega
    rw [List.getElem?_eq_getElem this]
    rfl) (fun j hj=>hR.frozen _)
   obtain⟨ys,r1,r2,r3⟩:=Qef (List.replicate hs.length (.slice none 0 0)) 0 w _ hR
   have HT:Hid (Touch (fun k=>(Value.slice (some ⟨g,0,none⟩) hs.length cap).ownBlock=some k) w (w.setCells g 0 (List.replicate hs.length (.slice none 0 0)))):=(Qb6 (w:=w) (List.replicate hs.length (.slice none 0 0)) 0 w (Touch.refl _ _)).mono (fun k _ e=>by subst e;rfl)
   have HF:Hid (LsB n (w.setCells g 0 (List.replicate hs.length (.slice none 0 0))) (.slice (some ⟨g,0,none⟩) 0 cap) []):=Qkg hb r1 h2 (r2.trans hcl)
   have hc0:(0:Int)≤(cap:Int):=by omega
   have hc1:hs.length≤cap:=h1
   clear h h1 h2 h3 h4 hh hR hcl hb r1 r2 r3
   generalize w.setCells g 0 (List.replicate hs.length (.slice none 0 0))=w1 at *
   generalize hs.length=N at *
   go_enter Tryz.func39,Tryz.ntmps39
   go_wp2_with fail
   go_ret
   exact⟨_,rfl,HF.out,rfl,HT.out⟩
open Go.Shelf
def sortSd_ren:Go.Shelf.Ren:=⟨fun|6=>148|15=>87|14=>181|28=>129|29=>130|20=>215|21=>216|22=>217|23=>218|24=>219|25=>220|26=>221|27=>222|46=>244|47=>162|48=>163|49=>245|50=>246|57=>252|n=>n,fun|22=>121|24=>125|25=>258|3=>3|39=>188|0=>0|53=>23|55=>46|4=>4|46=>228|45=>227|50=>97|5=>5|9=>9|66=>270|70=>274|76=>309|77=>277|n=>n,fun|n=>n⟩
theorem sortSd:Go.Proofs.SlLaysF0.n6 Tryz.prog sortSd_ren:={
 mixed:=by kernel_rfl
 f6:=⟨Tryz.f148.name,by decide,Tryz.func148.trans (congrArg some (by kernel_rfl))⟩
 f14:=⟨Tryz.f181.name,by decide,Tryz.func181.trans (congrArg some (by kernel_rfl))⟩
 f15:=Tryz.func87.trans (congrArg some (by kernel_rfl))
 f20:=⟨Tryz.f215.name,by decide,Tryz.func215.trans (congrArg some (by kernel_rfl))⟩
 f21:=⟨Tryz.f216.name,by decide,Tryz.func216.trans (congrArg some (by kernel_rfl))⟩
 f22:=⟨Tryz.f217.name,by decide,Tryz.func217.trans (congrArg some (by kernel_rfl))⟩
 f23:=⟨Tryz.f218.name,by decide,Tryz.func218.trans (congrArg some (by kernel_rfl))⟩
 f24:=⟨Tryz.f219.name,by decide,Tryz.func219.trans (congrArg some (by kernel_rfl))⟩
 f25:=⟨Tryz.f220.name,by decide,Tryz.func220.trans (congrArg some (by kernel_rfl))⟩
 f26:=⟨Tryz.f221.name,by decide,Tryz.func221.trans (congrArg some (by kernel_rfl))⟩
 f27:=⟨Tryz.f222.name,by decide,Tryz.func222.trans (congrArg some (by kernel_rfl))⟩
 f28:=Tryz.func129.trans (congrArg some (by kernel_rfl))
 f29:=Tryz.func130.trans (congrArg some (by kernel_rfl))
 f46:=⟨Tryz.f244.name,by decide,Tryz.func244.trans (congrArg some (by kernel_rfl))⟩
 f47:=Tryz.func162.trans (congrArg some (by kernel_rfl))
 f48:=Tryz.func163.trans (congrArg some (by kernel_rfl))
 f49:=⟨Tryz.f245.name,by decide,Tryz.func245.trans (congrArg some (by kernel_rfl))⟩
 f50:=⟨Tryz.f246.name,by decide,Tryz.func246.trans (congrArg some (by kernel_rfl))⟩
 f57:=⟨Tryz.f252.name,by decide,Tryz.func252.trans (congrArg some (by kernel_rfl))⟩
 t0:=Tryz.underlying0
 a0:=Tryz.isAgg0
 z0:=Tryz.sizeOf0
 v0:=Tryz.zeroValue0
 t3:=Tryz.underlying3
 a3:=Tryz.isAgg3
 z3:=Tryz.sizeOf3
 v3:=Tryz.zeroValue3
 t4:=Tryz.underlying4
 a4:=Tryz.isAgg4
 z4:=Tryz.sizeOf4
 v4:=Tryz.zeroValue4
 t5:=Tryz.underlying5
 a5:=Tryz.isAgg5
 z5:=Tryz.sizeOf5
 v5:=Tryz.zeroValue5
 t9:=Tryz.underlying9
 a9:=Tryz.isAgg9
 z9:=Tryz.sizeOf9
 v9:=Tryz.zeroValue9
 t22:=Tryz.underlying121
 a22:=Tryz.isAgg121
 z22:=Tryz.sizeOf121
 v22:=Tryz.zeroValue121
 t25:=Tryz.underlying258
 a25:=Tryz.isAgg258
 z25:=Tryz.sizeOf258
 v25:=Tryz.zeroValue258
 t39:=Tryz.underlying188
 a39:=Tryz.isAgg188
 z39:=Tryz.sizeOf188
 v39:=Tryz.zeroValue188
 t45:=Tryz.underlying227
 a45:=Tryz.isAgg227
 z45:=Tryz.sizeOf227
 v45:=Tryz.zeroValue227
 t46:=Tryz.underlying228
 a46:=Tryz.isAgg228
 z46:=Tryz.sizeOf228
 v46:=Tryz.zeroValue228
 t50:=Tryz.underlying97
 a50:=Tryz.isAgg97
 z50:=Tryz.sizeOf97
 v50:=Tryz.zeroValue97
 t53:=Tryz.underlying23
 a53:=Tryz.isAgg23
 z53:=Tryz.sizeOf23
 v53:=Tryz.zeroValue23
 t55:=Tryz.underlying46
 a55:=Tryz.isAgg46
 z55:=Tryz.sizeOf46
 v55:=Tryz.zeroValue46
 t66:=Tryz.underlying270
 a66:=Tryz.isAgg270
 z66:=Tryz.sizeOf270
 v66:=Tryz.zeroValue270
 t70:=Tryz.underlying274
 a70:=Tryz.isAgg274
 z70:=Tryz.sizeOf274
 v70:=Tryz.zeroValue274
 t76:=Tryz.underlying309
 a76:=Tryz.isAgg309
 z76:=Tryz.sizeOf309
 v76:=Tryz.zeroValue309
 t77:=Tryz.underlying277
 a77:=Tryz.isAgg277
 z77:=Tryz.sizeOf277
 v77:=Tryz.zeroValue277 }
theorem Tryz.info5r:(Tryz.prog.info? 5).map (fun i=>(i.zero,i.size,i.bytes))=some (some (.int .u8 0),1,1):=by kernel_rfl
theorem Qfp (ad:Addr) (c:Nat) (ns:List Int) (w:World) (hs:∀j u,(bytesOf ns)[j]?=some u→w.cell? (ad.add j)=some u) (hcap:ns.length≤1099511627776) :
  Calls Tryz.prog 201 #[.slice (some ad) ns.length c] w fun e w'=>∃v,e=.returned v∧w'.ownsRow w.heap.size 5 1 v ns.length (bytesOf ns)∧Touch (fun _=>False) w w'∧v.ownBlock≠none:=by
 obtain⟨i0,hi,hz0,hz1,hz2⟩:=info_parts Tryz.info5r
 have hq:=fun (w:World) (a:Option Addr) (n c n' c':Nat)=>Lib.run_eql_slice_nil (P:=Tryz.prog) w 55 5 a n c n' c' Tryz.underlying55
 go_enter Tryz.func201,Tryz.ntmps201
 go_wp2_with (at_builtin;refine wpList_append_own_at _ rfl (.tmp 5) (.tmp 6) 55 rfl w.heap.size 5 i0 (.int .u8 0) 1 1 Tryz.underlying55 hi hz0 hz1 hz2 rfl (by decide) (.slice (some ⟨w.heap.size,0,none⟩) 0 0) 0 [] rfl ?c0 ad ns.length c (bytesOf ns) rfl ?c6 ?c1 ?c2 ?c3 ?c4 ?c5 ?_)
 case c0=>exact World.ownsRow_lit w #[] 0 (Nat.le_refl _) (by simp [maxLen]) (by simp)
 case c6=>simp [Qbr]
 case c1=>exact fun j u hj=>((Touch.refl _ w).alloc _).cellN (hs j u hj)
 case c2=>exact Qbn ns
 case c3=>unfold maxLen;omega
 case c4=>omega
 case c5=>simp
 intro v' w1 hown' hgrow _ hat
 have t1:Touch (fun _=>False) w w1:=((Touch.refl _ w).alloc _).grown hgrow (fun k hk=>Or.inr (by simp [Value.ownBlock] at hk;omega))
 have hne:v'.ownBlock≠none:=by rcases hat with h|h <;> rw [h] <;> simp [Value.ownBlock]
 clear hgrow hat
 go_wp2
 go_ret
 exact⟨v',rfl,by simpa using hown',t1,hne⟩
theorem Qhh (w:World) :
  Calls Tryz.prog 201 #[.slice none 0 0] w fun e w'=>e=.returned (.slice none 0 0)∧w=w':=by
 have hq:=fun (w:World) (a:Option Addr) (n c n' c':Nat)=>Lib.run_eql_slice_nil (P:=Tryz.prog) w 55 5 a n c n' c' Tryz.underlying55
 go_enter Tryz.func201,Tryz.ntmps201
 go_wp2
 go_ret
 exact⟨rfl,rfl⟩
theorem Qmc (most:Int) (w:World) (hm:0≤most) :
  Calls Tryz.prog 172 #[.int .i64 most] w fun e w'=>e=.returned (.pointer (some ⟨w.heap.size,0,none⟩))∧WrS w' w.heap.size (.slice none 0 0) [] most 0∧Touch (fun _=>False) w w':=by
 go_enter Tryz.func172,Tryz.ntmps172
 go_wp2
 go_ret
 refine⟨rfl,⟨by simp,by simp,by simp [Int.max_eq_left hm],by simp,by simp,by simp,World.ownsRow_nil _ _ _ _⟩,(Touch.refl _ w).alloc _⟩
theorem Qiv (b:Nat) (err:Int) (w:World) (h0:w.cell? ⟨b,0,none⟩=some (.bool true)) (h3:w.cell? ⟨b,3,none⟩=some (.int .i64 err)) :
  Calls Tryz.prog 178 #[.pointer (some ⟨b,0,none⟩)] w fun e w'=>e=.returned (.int .i64 err)∧w=w':=by
 go_enter Tryz.func178,Tryz.ntmps178
 go_wp2
 go_ret
 exact⟨rfl,rfl⟩
theorem Qa6 (b:Nat) (err:Int) (w:World) (h0:w.cell? ⟨b,0,none⟩=some (.bool true)) (h3:w.cell? ⟨b,3,none⟩=some (.int .i64 err)) :
  Calls Tryz.prog 214 #[.pointer (some ⟨b,0,none⟩)] w fun e w'=>e=.returned (.bool (err==0))∧w=w':=by
 go_enter Tryz.func214,Tryz.ntmps214
 go_wp2_with (go_at_call 178;refine (Qiv _ err _ (by assumption) (by assumption)).mono ?_;rintro e w' ⟨rfl,rfl⟩)
 go_ret
 exact⟨rfl,rfl⟩
theorem Qfb (b p:Nat) (rv:Value) (rs:List Int) (w:World) (h:RdS w b rv rs p 0) :
  Calls Tryz.prog 179 #[.pointer (some ⟨b,0,none⟩)] w fun e w'=>e=.returned (.int .i64 ((rs.length:Int)-p))∧∃n,w'=w.drewN n:=by
 obtain⟨a,c,rfl,hm⟩:=Qf1 h.rowAt
 unfold maxLen at hm
 have h0:=h.made
 have h1:=h.row
 have h2:=h.pos
 have h3:=h.err
 have hp:=h.ple
 go_enter Tryz.func179,Tryz.ntmps179
 go_wp2_with (go_at_call 214;refine (Qa6 _ 0 _ (by assumption) (by assumption)).mono ?_;rintro e w' ⟨rfl,rfl⟩)
 go_quiet (fail)
 go_wp2
 go_ret
 exact⟨rfl,_,rfl⟩
theorem Qhf (b:Nat) (err:Int) (w:World) (h0:w.cell? ⟨b,0,none⟩=some (.bool true)) (h3:w.cell? ⟨b,3,none⟩=some (.int .i64 err)) (he:(err==0)=false) :
  Calls Tryz.prog 179 #[.pointer (some ⟨b,0,none⟩)] w fun e w'=>e=.returned (.int .i64 0)∧w=w':=by
 go_enter Tryz.func179,Tryz.ntmps179
 go_wp2_with (go_at_call 214;refine (Qa6 _ err _ (by assumption) (by assumption)).mono ?_;rintro e w' ⟨rfl,rfl⟩)
 go_ret
 exact⟨rfl,rfl⟩
theorem Qmh (b:Nat) (q:Int) (w:World) (h0:w.cell? ⟨b,0,none⟩=some (.bool true)) (h3:w.cell? ⟨b,3,none⟩=some (.int .i64 0)) (hf:w.frozen? ⟨b,3,none⟩=false) :
  Calls Tryz.prog 249 #[.pointer (some ⟨b,0,none⟩),.int .i64 q] w fun e w'=>e=.returned (.tuple #[])∧w.setCell ⟨b,3,none⟩ (.int .i64 q)=w':=by
 go_enter Tryz.func249,Tryz.ntmps249
 go_wp2_with (go_at_call 214;refine (Qa6 _ 0 _ (by assumption) (by assumption)).mono ?_;rintro e w' ⟨rfl,rfl⟩)
 go_end0
 exact⟨rfl,rfl⟩
theorem Qcn (b:Nat) (q err:Int) (w:World) (h0:w.cell? ⟨b,0,none⟩=some (.bool true)) (h3:w.cell? ⟨b,3,none⟩=some (.int .i64 err)) (he:(err==0)=false) :
  Calls Tryz.prog 249 #[.pointer (some ⟨b,0,none⟩),.int .i64 q] w fun e w'=>e=.returned (.tuple #[])∧w=w':=by
 go_enter Tryz.func249,Tryz.ntmps249
 go_wp2_with (go_at_call 214;refine (Qa6 _ err _ (by assumption) (by assumption)).mono ?_;rintro e w' ⟨rfl,rfl⟩)
 go_end0
 exact⟨rfl,rfl⟩
theorem Qu0 {w:World} {g off:Nat} {rs:List Int} (hc:∀j u,(bytesOf rs)[j]?=some u→w.cell? ⟨g,off+j,none⟩=some u) (p m:Nat) (hm:p+m≤rs.length) (hcm:rs.length≤maxLen) :
  RowAt w (.slice (some ⟨g,off+p,none⟩) m m) ((rs.drop p).take m):=by
 have hl:((rs.drop p).take m).length=m:=by simp;omega
 refine Or.inr ⟨g,off+p,m,by rw [hl],by omega,by omega,?_⟩
 intro j u hj
 have:(bytesOf rs)[p+j]?=some u:=by
  simp only [bytesOf,List.map_take,List.map_drop,List.getElem?_take,List.getElem?_drop] at hj ⊢
  split at hj
  ·exact hj
  ·simp at hj
 have:=hc _ _ this
 rwa [←Nat.add_assoc] at this
theorem Qpv (w:World) (g off:Nat):RowAt w (.slice (some ⟨g,off,none⟩) 0 0) [] :=
 Or.inr ⟨g,off,0,by simp,by simp,by simp [maxLen],by intro j u hj;simp [bytesOf] at hj⟩
theorem Qwa (b p m:Nat) (rv:Value) (rs:List Int) (w:World) (h:RdS w b rv rs p 0) (hm:p+m≤rs.length) :
  Calls Tryz.prog 250 #[.pointer (some ⟨b,0,none⟩),.int .i64 m] w fun e w'=>∃sv,e=.returned sv∧RowAt w' sv ((rs.drop p).take m)∧(sv.ownBlock=none∨sv.ownBlock=rv.ownBlock) ∧
   RdS w' b rv rs (p+m) 0∧Touch (fun k=>k=b) w w'∧w'.heap.size=w.heap.size:=by
 have h0:=h.made
 have h1:=h.row
 have h2:=h.pos
 have h3:=h.err
 have hf2:=h.f2
 have hlt:=Qaa h0
 have HW:∀n,RdS (w.drewN n) b rv rs p 0:=fun n=>h.drewN n
 rcases h.rowAt with⟨rfl,rfl⟩|⟨g,off,c,rfl,hlc,hcm,hcells⟩
 ·obtain rfl:p=0:=by simpa using h.ple
  obtain rfl:m=0:=by simpa using hm
  go_enter Tryz.func250,Tryz.ntmps250
  go_wp2_with (first|(go_at_call 179;refine (Qfb _ 0 _ [] _ h).mono ?_;rintro e w' ⟨rfl,nl,rfl⟩)|(go_at_call 214;refine (Qa6 _ 0 _ (HW _).made (HW _).err).mono ?_;rintro e w' ⟨rfl,rfl⟩))
  go_quiet (fail)
  have HB:Hid (RdS ((w.drewN nl).setCell ⟨b,2,none⟩ (.int .i64 ((0:Nat):Int))) b (.slice none 0 0) [] 0 0):=(h.drewN nl).setPos 0 (by simp)
  have HT:Hid (Touch (fun k=>k=b) w ((w.drewN nl).setCell ⟨b,2,none⟩ (.int .i64 ((0:Nat):Int)))):=Touch.setCell (F:=fun k=>k=b) (p:=⟨b,2,none⟩) ((Touch.refl _ w).drewN nl) (Or.inl rfl) _
  clear h0 h1 h2 h3 hf2 HW h
  go_wp2
  go_ret
  exact⟨_,rfl,Or.inl ⟨rfl,rfl⟩,Or.inl rfl,HB.out.drewN _,HT.out.drewN _,by simp [World.setCell,World.drewN]⟩
 ·unfold maxLen at hcm
  by_cases hm0:m=0
  ·subst hm0
   go_enter Tryz.func250,Tryz.ntmps250
   go_wp2_with (first|(go_at_call 179;refine (Qfb _ p _ rs _ h).mono ?_;rintro e w' ⟨rfl,nl,rfl⟩)|(go_at_call 214;refine (Qa6 _ 0 _ (HW _).made (HW _).err).mono ?_;rintro e w' ⟨rfl,rfl⟩))
   go_quiet (fail)
   have HB:Hid (RdS ((w.drewN nl).setCell ⟨b,2,none⟩ (.int .i64 ((p:Nat):Int))) b (.slice (some ⟨g,off,none⟩) rs.length c) rs p 0):=(h.drewN nl).setPos p hm
   have HT:Hid (Touch (fun k=>k=b) w ((w.drewN nl).setCell ⟨b,2,none⟩ (.int .i64 ((p:Nat):Int)))):=Touch.setCell (F:=fun k=>k=b) (p:=⟨b,2,none⟩) ((Touch.refl _ w).drewN nl) (Or.inl rfl) _
   clear h0 h1 h2 h3 hf2 HW h
   go_wp2
   go_ret
   exact⟨.slice (some ⟨g,off,none⟩) 0 0,rfl,Qpv _ _ _,Or.inr rfl,HB.out.drewN _,HT.out.drewN _,by simp [World.setCell,World.drewN]⟩
  ·have hpm:¬p+m=p:=by omega
   have hpp:p+m-p=m:=by omega
   go_enter Tryz.func250,Tryz.ntmps250
   go_wp2_with (first|(go_at_call 179;refine (Qfb _ p _ rs _ h).mono ?_;rintro e w' ⟨rfl,nl,rfl⟩)|(go_at_call 214;refine (Qa6 _ 0 _ (HW _).made (HW _).err).mono ?_;rintro e w' ⟨rfl,rfl⟩))
   go_quiet (fail)
   have HB:Hid (RdS ((w.drewN nl).setCell ⟨b,2,none⟩ (.int .i64 ((p:Int)+(m:Int)))) b (.slice (some ⟨g,off,none⟩) rs.length c) rs (p+m) 0):=(h.drewN nl).setPos (p+m) hm
   have HT:Hid (Touch (fun k=>k=b) w ((w.drewN nl).setCell ⟨b,2,none⟩ (.int .i64 ((p:Int)+(m:Int))))):=Touch.setCell (F:=fun k=>k=b) (p:=⟨b,2,none⟩) ((Touch.refl _ w).drewN nl) (Or.inl rfl) _
   clear h0 h1 h2 h3 hf2 HW h
   go_wp2
   go_ret
   refine⟨.slice (some ⟨g,off+p,none⟩) (p+m-p) (p+m-p),rfl,?_,Or.inr rfl,HB.out.drewN _,HT.out.drewN _,by simp [World.setCell,World.drewN]⟩
   rw [hpp]
   refine Qu0 (fun j u hj=>?_) p m hm (by unfold maxLen;omega)
   exact ((HT.out.drewN _).cell (p:=⟨g,off+j,none⟩) (Qaa (hcells j u hj)) (by have:=HB.out.ne;simpa [Value.ownBlock] using this)).trans (hcells j u hj)
theorem Qoe (b p:Nat) (m:Int) (rv:Value) (rs:List Int) (w:World) (h:RdS w b rv rs p 0) (hm:(rs.length:Int)<p+m) (hmm:m≤9223372036854775807) :
  Calls Tryz.prog 250 #[.pointer (some ⟨b,0,none⟩),.int .i64 m] w fun e w'=>e=.returned (.slice none 0 0)∧RdS w' b rv rs p 10∧Touch (fun k=>k=b) w w'∧w'.heap.size=w.heap.size:=by
 have hple:=h.ple
 have hm1:(rs.length:Int)-p<m:=by omega
 have hm2:¬m<0:=by omega
 have HW:∀n,RdS (w.drewN n) b rv rs p 0:=fun n=>h.drewN n
 have hlt:=Qaa h.made
 clear hm
 go_enter Tryz.func250,Tryz.ntmps250
 go_wp2_with (first|(go_at_call 179;refine (Qfb _ p _ rs _ h).mono ?_;rintro e w' ⟨rfl,nl,rfl⟩)|(go_at_call 249;refine (Qmh _ 10 _ (HW _).made (HW _).err (HW _).f3).mono ?_;rintro e w' ⟨rfl,rfl⟩)|(go_at_call 214;refine (Qa6 _ 10 _ ((HW _).setErr 10).made ((HW _).setErr 10).err).mono ?_;rintro e w' ⟨rfl,rfl⟩))
 go_ret
 exact⟨rfl,(HW _).setErr 10,Touch.setCell (F:=fun k=>k=b) (p:=⟨b,3,none⟩) ((Touch.refl _ w).drewN _) (Or.inl rfl) _,by simp [World.setCell,World.drewN]⟩
def numVal (l:List Int):Int:=l.foldl (fun a x=>a*256+x) 0
theorem Qja (l:List Int) (x:Int):numVal (l++[x])=numVal l*256+x:=by simp [numVal]
theorem Qfd (l:List Int) (k:Nat) (h:k<l.length):numVal (l.take (k+1))=numVal (l.take k)*256+l.getD k 0:=by
 rw [List.take_succ_eq_append_getElem h,Qja];simp [List.getD,h]
theorem Qob (l:List Int) (hb:∀x∈l,0≤x∧x<256) (k:Nat):0≤numVal (l.take k)∧numVal (l.take k)<256 ^ k:=by
 induction k with
 | zero=>simp [numVal]
 | succ k ih =>
  by_cases h:k<l.length
  ·rw [Qfd l k h]
   have hx:=hb (l.getD k 0) (by simp [List.getD,h])
   have e:(256:Int) ^ (k+1)=256 ^ k*256:=Int.pow_succ _ _
   omega
  ·rw [List.take_of_length_le (by omega)] at ih ⊢
   have e:(256:Int) ^ (k+1)=256 ^ k*256:=Int.pow_succ _ _
   have:(0:Int)<256 ^ k:=Int.pow_pos (by decide)
   omega
theorem Qw1 (k:Nat) (h:k≤3):(256:Int) ^ k≤16777216:=by
 rcases (by omega:k=0∨k=1∨k=2∨k=3) with rfl|rfl|rfl|rfl <;> decide
theorem Qu9 (x y:Int) (hx:0≤x) (hx1:x<16777216) (hy:0≤y) (hy1:y<256):bits .or .u32 (x*256) y=x*256+y:=by
 rw [u32_or _ _ (by omega) (by omega) (by omega) (by omega)]
 have e1:(x*256).toNat=x.toNat <<< 8:=by rw [Nat.shiftLeft_eq];omega
 rw [e1,←Nat.shiftLeft_add_eq_or_of_lt (by omega),Nat.shiftLeft_eq]
 omega
theorem Qmb {rs:List Int} (hb:∀x∈rs,0≤x∧x<256) (p m:Nat):∀x∈(rs.drop p).take m,0≤x∧x<256 :=
 fun x hx=>hb x (List.mem_of_mem_drop (List.mem_of_mem_take hx))
theorem Qt1 (b p m:Nat) (rv:Value) (rs:List Int) (w:World) (h:RdS w b rv rs p 0) (hm1:1≤m) (hm:p+m≤rs.length) :
  Calls Tryz.prog 250 #[.pointer (some ⟨b,0,none⟩),.int .i64 m] w fun e w'=>∃(g off c:Nat) (zs:List Int),e=.returned (.slice (some ⟨g,off,none⟩) m c)∧Hid (zs=(rs.drop p).take m)∧zs.length=m ∧
   (∀j,j<m→w'.cell? ⟨g,off+j,none⟩=some (.int .u8 (zs.getD j 0)))∧Hid (∀x∈zs,0≤x∧x<256)∧Hid (RdS w' b rv rs (p+m) 0∧Touch (fun k=>k=b) w w'∧w'.heap.size=w.heap.size):=by
 refine (Qwa b p m rv rs w h hm).mono ?_
 rintro e w' ⟨sv,rfl,hrow,hown,hrd,ht,hsz⟩
 have hl:((rs.drop p).take m).length=m:=by simp;omega
 rcases hrow with⟨_,e⟩|⟨g,off,c,rfl,h1,h2,h3⟩
 ·rw [e] at hl;simp at hl;omega
 ·refine⟨g,off,c,_,by rw [hl],rfl,hl,fun j hj=>h3 j _ ?_,Qmb h.byte p m,hrd,ht,hsz⟩
  simp only [bytesOf,List.getElem?_map]
  rw [List.getElem?_eq_getElem (by omega)]
  simp [List.getD,hl,hj]
theorem Qlu (b p m:Nat) (rv:Value) (rs:List Int) (w:World) (h:RdS w b rv rs p 0) (hm1:1≤m) (hm4:m≤4) (hm:p+m≤rs.length) :
  Calls Tryz.prog 234 #[.pointer (some ⟨b,0,none⟩),.int .i64 m] w fun e w'=>e=.returned (.int .u32 (numVal ((rs.drop p).take m))) ∧
   RdS w' b rv rs (p+m) 0∧Touch (fun k=>k=b) w w'∧w'.heap.size=w.heap.size:=by
 have hd1:decide ((m:Int)<1)=false:=by simp;omega
 have hd2:decide ((4:Int)<m)=false:=by simp;omega
 go_enter Tryz.func234,Tryz.ntmps234
 go_wp2_with (go_at_call 250;refine (Qt1 _ p m _ rs _ h hm1 hm).mono ?_;rintro e w' ⟨g,off,c,zs,rfl,hzs,hzl,hcell,hby,hrest⟩)
 go_loop [5,20] (fun v i=>∃k:Nat,k≤m∧i=.int .i64 k∧v=.int .u32 (numVal (zs.take k))) (fun _ i=>m-(intOf i).toNat)
 case atStart=>exact⟨0,Nat.zero_le _,rfl,rfl⟩
 case round =>
  obtain⟨k,hk,rfl,rfl⟩:=hrel
  by_cases hlt:k<m
  ·have hc:=hcell k hlt
   obtain⟨z,hz⟩:∃z,z=zs.getD k 0:=⟨_,rfl⟩
   rw [←hz] at hc
   have hx:=hby.out z (by rw [hz];simp [List.getD,show k<zs.length by omega])
   obtain⟨hx0,hx1⟩:=hx
   obtain⟨V,hV⟩:∃V,V=numVal (zs.take k):=⟨_,rfl⟩
   have hb:=Qob zs hby.out k
   have hb3:=Qw1 k (by omega)
   have HS:Hid (numVal (zs.take (k+1))=V*256+z):=by show _=_;rw [Qfd zs k (by omega),hV,hz]
   rw [←hV] at hb ⊢
   have hV1:V<16777216:=by omega
   have hV0:0≤V:=hb.1
   have hor:=Qu9 V z hV0 hV1 hx0 hx1
   clear hb hb3 hV hz hcell
   go_wp2
   go_round
   case rel=>exact⟨k+1,by omega,by go_num,by rw [HS.out]⟩
   case measure=>simp [intOf];omega
  ·go_wp2
   go_ret
   obtain rfl:k=m:=by omega
   obtain⟨a,b',c'⟩:=hrest.out
   exact⟨Qav (by rw [←hzs.out,List.take_of_length_le (by omega)]),a,b',c'⟩
end Go.Proofs.YtddbffoiadmffaaGreat
