import Derived.Recover
import Derived.Defers
import Derived.Deep.RegionHeld3
import Derived.Deep.DeepCutAuto
import Derived.Test.YtldmkoogghemhaaGreatRdAll2
namespace Go.Proofs.YtldmkoogghemhaaGreat
set_option maxHeartbeats 8000000
open Go.RowKit
set_option linter.unusedVariables false
set_option maxRecDepth 100000
def flawC (e:Int):List PanicEntry:=[{ v:=.iface 181 (.int .i64 e),recovered:=false }]
theorem Qnh (e:Int) (w:World):Calls Tryz.prog 112 #[.bool true,.int .i64 e] w fun x w'=>x=.returned (.tuple #[])∧w=w':=by
 go_enter Tryz.func112,Tryz.ntmps112
 go_wp2
 go_end0
 exact⟨rfl,rfl⟩
theorem Qm2 (e:Int) (w:World):Calls Tryz.prog 112 #[.bool false,.int .i64 e] w fun x w'=>x=.panicked (flawC e)∧w=w':=by
 go_enter Tryz.func112,Tryz.ntmps112
 go_wp2
 exact⟨rfl,rfl,rfl⟩
theorem Qbd (t:Bool) (e:Int) (w:World) (ht:t=true):Calls Tryz.prog 112 #[.bool t,.int .i64 e] w fun x w'=>x=.returned (.tuple #[])∧w=w':=by subst ht;exact Qnh e w
theorem Qb4 (t:Bool) (e:Int) (w:World) (ht:t=false):Calls Tryz.prog 112 #[.bool t,.int .i64 e] w fun x w'=>x=.panicked (flawC e)∧w=w':=by subst ht;exact Qm2 e w
theorem Qnd (e:Int) (w:World):(Instr.typeAssert (.iface 181 (.int .i64 e)) 20 181 true).run Tryz.prog w=.ok (.tuple #[.int .i64 e,.bool true]) w:=by kernel_rfl
theorem Qnv (w:World):(Instr.typeAssert .nilIface 20 181 true).run Tryz.prog w=.ok (.tuple #[.int .i64 0,.bool false]) w:=by kernel_rfl
theorem Qms {n:Int} (h0:0≤n) (h1:n≤32):4294967295*2 ^ (32-n).toNat%4294967296=pmask n:=by
 rw [Qby h1]
 show 4294967295*psz n%4294967296=_
 have:=Qi1 n;have:=Ql8 h0
 omega
theorem Qef (n:Int) (w:World) (h0:0≤n) :
  Calls Tryz.prog 119 #[.int .u8 n] w fun e w'=>e=.returned (.int .u32 (pmask n))∧w=w':=by
 by_cases h1:n≤32
 ·have hm:=Qms h0 h1
  have H:Hid (4294967295*2 ^ (32-n).toNat%4294967296=pmask n):=hm
  clear hm
  go_enter Tryz.func119,Tryz.ntmps119
  go_wp2
  go_ret
  exact⟨Qas H.out,rfl⟩
 ·have h2:32<n:=by omega
  have H:Hid (pmask n=0):=Qgu h2
  clear h1
  go_enter Tryz.func119,Tryz.ntmps119
  go_wp2
  go_ret
  exact⟨Qas H.out.symm,rfl⟩
theorem Qgz (a:Int) (w:World) (h0:0≤a) (h1:a<4294967296) :
  Calls Tryz.prog 89 #[.int .u32 a] w fun e w'=>e=.returned (.tuple #[.int .u8 (pbn a),.bool (pbok a)])∧w=w':=by
 go_enter Tryz.func89,Tryz.ntmps89
 go_wp2
 go_loop [4,5] (fun n r=>∃k:Nat,∃x:Int,k≤32∧n=.int .u8 k∧r=.int .u32 x∧0≤x∧x<4294967296∧Hid (x=a*2 ^ k%4294967296)∧Hid (∀j:Nat,j<k→a*2 ^ j%4294967296≠0)) (fun n _=>32-(intOf n).toNat)
 case atStart=>exact⟨0,a,by omega,rfl,rfl,h0,h1,(by show a=_;rw [Int.pow_zero];omega),fun j hj=>absurd hj (by omega)⟩
 case round =>
  obtain⟨k,x,hk,rfl,rfl,hx0,hx1,HX,HL⟩:=hrel
  by_cases hx:x=0
  ·subst hx
   have hp:=Qmr hk HX.out.symm HL.out
   by_cases hm:pmask k=a
   ·rw [if_pos hm] at hp
    have H:=Qmb hp
    have HH:Hid (pbn a=k∧pbok a=true):=H
    have HM:Hid (pmask k=a):=hm
    clear hp H hm
    go_wp2_with (go_at_call 119;refine (Qef _ _ (by omega)).mono ?_;rintro e w' ⟨rfl,rfl⟩;rw [HM.out])
    go_ret2
    exact⟨Qcy HH.out.1.symm HH.out.2.symm,rfl⟩
   ·rw [if_neg hm] at hp
    have H:=Qop hp
    have HH:Hid (pbn a=0∧pbok a=false):=H
    clear hp H
    go_wp2_with (go_at_call 119;refine (Qef _ _ (by omega)).mono ?_;rintro e w' ⟨rfl,rfl⟩)
    go_ret2
    exact⟨Qcy HH.out.1.symm HH.out.2.symm,rfl⟩
  ·have hk2:k<32:=by
    rcases Nat.lt_or_ge k 32 with h|h
    ·exact h
    ·exfalso;obtain rfl:k=32:=by omega
     exact hx (HX.out.trans (Qog a))
   go_wp2
   go_round
   case rel=>exact⟨k+1,x*2%4294967296,by omega,by go_num,rfl,by omega,by omega,(by show _=_;rw [HX.out,Qmx]),Qfk HL.out (fun e=>hx (HX.out.trans e))⟩
   case measure=>simp [intOf];omega
structure Aft (w0:World) where
 w:World
 gr:Touch (fun _=>False) w0 w
theorem Qem {P:Program} {id:Nat} {Q:Exit→Act→World→Prop} {a:Act} {w:World} {l:List Oper} (hm:P.follows .mixedOrders=true) (hB:Region.lexB .any l.toArray=true)
  (h:wpQuiet P l.toArray (fun w'=>∃u:Aft w,w'=u.w) (fun a'=>∀w',(∃u:Aft w,w'=u.w)→Q .normal a' w') l a):(Code.region id l.toArray true).wp P Q a w :=
 wp_region_quiet (C:=fun w'=>∃u:Aft w,w'=u.w) hm hB ⟨⟨_,(Touch.refl _ w).drew⟩,rfl⟩ (by simpa using h)
theorem Aft.call {P:Program} {f:FuncId} {args:Array Value} {w:World} {u:Aft w} {v:Value} (h:Calls P f args u.w fun e w'=>e=.returned v∧Touch (fun _=>False) u.w w') :
  Calls P f args u.w fun e w''=>e=.returned v∧∃u':Aft w,w''=u'.w :=
 h.mono fun _ w'' ⟨he,hg⟩=>⟨he,⟨w'',u.gr.trans hg⟩,rfl⟩
theorem Qbe {w:World} {p:Addr} {v:Value} (h:w.cell? p=some v):∀u:Aft w,u.w.cell? p=some v :=
 fun u=>u.gr.cellN h
theorem Qdx (a:Int) (w:World) (h0:0≤a) (h1:a<4294967296):Calls Tryz.prog 185 #[.int .u32 a] w fun e w'=>e=.returned (.bool (pbok a))∧w=w':=by
 go_enter Tryz.func185,Tryz.ntmps185
 go_wp2_with (go_at_call 89;refine (Qgz a _ h0 h1).mono ?_;rintro e w' ⟨rfl,rfl⟩)
 go_ret
 exact⟨rfl,rfl⟩
theorem Qgx (h:HV) (a:Option Addr) (n c:Nat) (w:World) (hn:n≤140737488355328):Calls Tryz.prog 134 #[h.sv (.slice a n c)] w fun e w'=>e=.returned (.int .i64 (20+(n:Int)))∧Touch (fun _=>False) w w':=by
 have hw:wrap64 (20+(n:Int))=20+(n:Int):=by unfold wrap64;omega
 unfold HV.sv
 go_enter Tryz.func134,Tryz.ntmps134
 go_wp2
 go_ret
 exact⟨rfl,(Touch.refl _ w).alloc _⟩
theorem Qar (h:HV) (a:Option Addr) (n c:Nat) (w:World) (hn:n≤140737488355328) (hl:0≤h.len∧h.len<65536):Calls Tryz.prog 113 #[h.sv (.slice a n c)] w fun e w'=>e=.returned (.bool (h.len==20+(n:Int)))∧Touch (fun _=>False) w w':=by
 obtain⟨hl0,hl1⟩:=hl
 have HC:∀w,Calls Tryz.prog 134 #[.agg #[.int .u16 h.age,.int .u8 h.opts,.int .u8 h.typ,.int .u32 h.id,.int .u32 h.adv,.int .i32 h.seq,.int .u16 h.sum,.int .u16 h.len,.slice a n c]] w fun e w'=>e=.returned (.int .i64 (20+(n:Int)))∧Touch (fun _=>False) w w':=fun w=>Qgx h a n c w hn
 show Calls Tryz.prog 113 #[.agg #[.int .u16 h.age,.int .u8 h.opts,.int .u8 h.typ,.int .u32 h.id,.int .u32 h.adv,.int .i32 h.seq,.int .u16 h.sum,.int .u16 h.len,.slice a n c]] w _
 have HB:=Sd.new w h (.slice a n c) 59
 have p0:=Qbe HB.hd.c0
 have p1:=Qbe HB.hd.c1
 have p2:=Qbe HB.hd.c2
 have p3:=Qbe HB.hd.c3
 have p4:=Qbe HB.hd.c4
 have p5:=Qbe HB.hd.c5
 have p6:=Qbe HB.hd.c6
 have p7:=Qbe HB.hd.c7
 have p8:=Qbe HB.c8
 clear HB
 go_enter Tryz.func113,Tryz.ntmps113
 go_upto_region 1 with fail
 refine Qem (by kernel_rfl) (by kernel_rfl) ?_
 repeat (first|go_big_quiet_skip|(go_big_quiet_want;go_big_quiet_op;first|go_big_quiet_on|(refine Exists.intro _ ⟨fun _=>rfl,?_⟩;go_big_quiet_on)))
 go_big_quiet_want;go_big_quiet_op;refine Exists.intro _ ⟨fun u=>Aft.call (HC _),?_⟩;go_big_quiet_on
 repeat (first|go_big_quiet_skip|(go_big_quiet_want;go_big_quiet_op;first|go_big_quiet_on|(refine Exists.intro _ ⟨fun _=>rfl,?_⟩;go_big_quiet_on)))
 refine wpQuiet_nil ?_
 rintro wq ⟨⟨_,hgq⟩,rfl⟩
 clear p0 p1 p2 p3 p4 p5 p6 p7 p8
 go_wp2
 go_ret
 exact⟨rfl,((Touch.refl _ w).alloc _).trans hgq⟩
theorem Qls {w:World} {base:Nat} {e:TypeId} {size:Nat} {v:Value} {n:Nat} {xs:List Value} (h:w.ownsRow base e size v n xs):∃a c,v=.slice a n c:=by
 rcases h.2 with⟨rfl,rfl⟩|⟨g,cap,cur,rfl,_⟩
 ·exact⟨_,_,rfl⟩
 ·exact⟨_,_,rfl⟩
def putB (bs:List Int) (most err:Int) (ns:List Int):List Int:=if err=0∧(bs.length:Int)+ns.length≤most then bs++ns else bs
def putE (bs:List Int) (most err:Int) (ns:List Int):Int:=if err=0 then (if (bs.length:Int)+ns.length≤most then 0 else 11) else err
def Moved (w:World) (v v':Value):Prop:=v'.ownBlock=v.ownBlock∨∃g,v'.ownBlock=some g∧w.heap.size≤g
theorem WrS.setErr {w:World} {b:Nat} {v:Value} {bs:List Int} {most err:Int} (h:WrS w b v bs most err) (q:Int):WrS (w.setCell ⟨b,3,none⟩ (.int .i64 q)) b v bs most q:=by
 exact⟨by simp [h.made,go_sem],by simp [h.row,go_sem],by simp [h.most,go_sem],by simp [h.err,go_sem],by simp [h.f1,go_sem],by simp [h.f3,go_sem],Qcb h.own (Nat.lt_succ_self b) _⟩
theorem WrS.touchErr {w:World} {b:Nat} {v:Value} (q:Value):Touch (wrF b v) w (w.setCell ⟨b,3,none⟩ q):=Touch.setCell (F:=wrF b v) (p:=⟨b,3,none⟩) (Touch.refl _ w) (Or.inl (Or.inl rfl)) _
theorem Qf2 (b:Nat) (q err:Int) (w:World) (h3:w.cell? ⟨b,3,none⟩=some (.int .i64 err)) (hf:w.frozen? ⟨b,3,none⟩=false) :
  Calls Tryz.prog 152 #[.pointer (some ⟨b,0,none⟩),.int .i64 q] w fun e w'=>e=.returned (.pointer (some ⟨b,0,none⟩))∧w.setCell ⟨b,3,none⟩ (.int .i64 q)=w':=by
 go_enter Tryz.func152,Tryz.ntmps152
 go_wp2
 go_ret
 exact⟨rfl,rfl⟩
theorem Qd6 (b:Nat) (v:Value) (bs:List Int) (most err:Int) (s:Value) (w:World) (h:WrS w b v bs most err) (he:¬err=0) :
  Calls Tryz.prog 138 #[.pointer (some ⟨b,0,none⟩),s] w fun e w'=>e=.returned (.pointer (some ⟨b,0,none⟩))∧w=w':=by
 have h0:=h.made
 have h3:=h.err
 have he':(err==0)=false:=by simpa using he
 go_enter Tryz.func138,Tryz.ntmps138
 go_wp2_with (go_at_call 151;refine (Qaz _ err _ h0 h3).mono ?_;rintro e w' ⟨rfl,rfl⟩)
 go_ret
 exact⟨rfl,rfl⟩
theorem Qk5 (b:Nat) (v:Value) (bs:List Int) (most:Int) (a:Option Addr) (m c:Nat) (w:World) (h:WrS w b v bs most 0) (hfit:most<(bs.length:Int)+m) (hcap:bs.length+m≤1099511627776) :
  Calls Tryz.prog 138 #[.pointer (some ⟨b,0,none⟩),.slice a m c] w fun e w'=>e=.returned (.pointer (some ⟨b,0,none⟩))∧∃n,(w.drewN n).setCell ⟨b,3,none⟩ (.int .i64 11)=w':=by
 have h0:=h.made
 have h1:=h.row
 have h2:=h.most
 have h3:=h.err
 have hf:=h.f3
 have hlt:=Qaa h0
 obtain⟨va,vc,rfl⟩:=Qls h.own
 clear h
 go_enter Tryz.func138,Tryz.ntmps138
 go_wp2_with (go_at_call 151;refine (Qaz _ 0 _ h0 h3).mono ?_;rintro e w' ⟨rfl,rfl⟩)
 go_quiet (fail)
 go_wp2_with (go_at_call 152;refine (Qf2 _ _ 0 _ (by simpa using h3) (by simpa using hf)).mono ?_;rintro e w' ⟨rfl,rfl⟩)
 go_ret
 exact⟨rfl,_,rfl⟩
theorem Qc9 (b:Nat) (v:Value) (bs:List Int) (most err:Int) (ad:Addr) (c:Nat) (ns:List Int) (w:World) (h:WrS w b v bs most err) (hs:∀j u,(bytesOf ns)[j]?=some u→w.cell? (ad.add j)=some u) (hcap:bs.length+ns.length≤1099511627776) :
  Calls Tryz.prog 138 #[.pointer (some ⟨b,0,none⟩),.slice (some ad) ns.length c] w fun e w'=>e=.returned (.pointer (some ⟨b,0,none⟩)) ∧
   ∃v',WrS w' b v' (putB bs most err ns) most (putE bs most err ns)∧Touch (wrF b v) w w'∧Moved w v v':=by
 by_cases he:err=0
 ·subst he
  by_cases hfit:(bs.length:Int)+ns.length≤most
  ·refine (Qox b v bs most ad c ns w h hs hfit hcap).mono ?_
   rintro e w' ⟨rfl,v',h1,h2,h3⟩
   exact⟨rfl,v',by simpa [putB,putE,hfit] using h1,h2,h3⟩
  ·refine (Qk5 b v bs most (some ad) ns.length c w h (by omega) hcap).mono ?_
   rintro e w' ⟨rfl,n,rfl⟩
   refine⟨rfl,v,?_,?_,Or.inl rfl⟩
   ·simpa [putB,putE,hfit] using (h.drewN n).setErr 11
   ·exact ((Touch.refl _ w).drewN n).trans (WrS.touchErr _)
 ·refine (Qd6 b v bs most err _ w h he).mono ?_
  rintro e w' ⟨rfl,rfl⟩
  exact⟨rfl,v,by simpa [putB,putE,he] using h,Touch.refl _ _,Or.inl rfl⟩
theorem Qhq (b:Nat) (x n err:Int) (f:Value) (w:World) (h0:w.cell? ⟨b,0,none⟩=some (.bool true)) (h3:w.cell? ⟨b,3,none⟩=some (.int .i64 err)) (he:(err==0)=false) :
  Calls Tryz.prog 169 #[.pointer (some ⟨b,0,none⟩),.int .u32 x,.int .i64 n,f] w fun e w'=>e=.returned (.pointer (some ⟨b,0,none⟩))∧w=w':=by
 go_enter Tryz.func169,Tryz.ntmps169
 go_wp2_with (go_at_call 151;refine (Qaz _ err _ h0 h3).mono ?_;rintro e w' ⟨rfl,rfl⟩)
 go_ret
 exact⟨rfl,rfl⟩
theorem Qfm (b:Nat) (v:Value) (bs:List Int) (most err:Int) (x n:Int) (w:World) (h:WrS w b v bs most err) (he:¬err=0) :
  Calls Tryz.prog 150 #[.pointer (some ⟨b,0,none⟩),.int .u32 x,.int .i64 n] w fun e w'=>e=.returned (.pointer (some ⟨b,0,none⟩))∧w=w':=by
 have hmf:∀(fn:Fn) (first cap:Array Value) (w:World),(Instr.makeFunc fn first cap).run Tryz.prog w=.ok (.func fn first cap) w:=fun _ _ _ _=>rfl
 go_enter Tryz.func150,Tryz.ntmps150
 go_wp2_with (go_at_call 169;refine (Qhq _ _ _ err _ _ h.made h.err (by simpa using he)).mono ?_;rintro e w' ⟨rfl,rfl⟩)
 go_ret
 exact⟨rfl,rfl⟩
theorem Qfa (b:Nat) (v:Value) (bs:List Int) (most:Int) (x:Int) (w:World) (h:WrS w b v bs most 0) (hx:0≤x∧x<256) (hcap:bs.length≤1048576) :
  Calls Tryz.prog 150 #[.pointer (some ⟨b,0,none⟩),.int .u32 x,.int .i64 1] w fun e w'=>e=.returned (.pointer (some ⟨b,0,none⟩)) ∧
   ∃v',WrS w' b v' (putB bs most 0 (numBytes 1 x)) most (putE bs most 0 (numBytes 1 x))∧Touch (wrF b v) w w'∧Moved w v v':=by
 obtain⟨hx0,hx1⟩:=hx
 have hmf:∀(fn:Fn) (first cap:Array Value) (w:World),(Instr.makeFunc fn first cap).run Tryz.prog w=.ok (.func fn first cap) w:=fun _ _ _ _=>rfl
 have h0:=h.made
 have h3:=h.err
 have HN:Hid (numBytes 1 x=[x]):=by show _=_;simp [numBytes];omega
 go_enter Tryz.func150,Tryz.ntmps150
 go_wp2_with (first|(go_at_call 151;refine (Qaz _ 0 _ (by assumption) (by assumption)).mono ?_;rintro e w' ⟨rfl,rfl⟩)|(go_at_call 169;go_in))
 refine (Qc9 b v bs most 0 ⟨w.heap.size,3,none⟩ 1 [x] _ (h.alloc _) (Qek _ _ _ _ _ (by simp [bytesOf])) (by simp;omega)).mono ?_
 rintro e w' ⟨rfl,v',hw,ht,ha⟩
 clear hmf h0 h3
 go_wp2
 go_ret
 rw [HN.out]
 refine⟨rfl,v',hw,((Touch.refl _ _).alloc _).trans ht,?_⟩
 rcases ha with ha|⟨g,hg,hl⟩
 ·exact Or.inl ha
 ·exact Or.inr ⟨g,hg,by simp at hl;omega⟩
theorem Qeu (b:Nat) (v:Value) (bs:List Int) (most:Int) (x:Int) (w:World) (h:WrS w b v bs most 0) (hx:0≤x∧x<65536) (hcap:bs.length≤1048576) :
  Calls Tryz.prog 150 #[.pointer (some ⟨b,0,none⟩),.int .u32 x,.int .i64 2] w fun e w'=>e=.returned (.pointer (some ⟨b,0,none⟩)) ∧
   ∃v',WrS w' b v' (putB bs most 0 (numBytes 2 x)) most (putE bs most 0 (numBytes 2 x))∧Touch (wrF b v) w w'∧Moved w v v':=by
 obtain⟨hx0,hx1⟩:=hx
 have hmf:∀(fn:Fn) (first cap:Array Value) (w:World),(Instr.makeFunc fn first cap).run Tryz.prog w=.ok (.func fn first cap) w:=fun _ _ _ _=>rfl
 have h0:=h.made
 have h3:=h.err
 have HN:Hid (numBytes 2 x=[x/256,x%256]):=by show _=_;simp [numBytes];omega
 go_enter Tryz.func150,Tryz.ntmps150
 go_wp2_with (first|(go_at_call 151;refine (Qaz _ 0 _ (by assumption) (by assumption)).mono ?_;rintro e w' ⟨rfl,rfl⟩)|(go_at_call 169;go_in))
 refine (Qc9 b v bs most 0 ⟨w.heap.size,2,none⟩ 2 [x/256,x%256] _ (h.alloc _) (Qek _ _ _ _ _ (by simp [bytesOf])) (by simp;omega)).mono ?_
 rintro e w' ⟨rfl,v',hw,ht,ha⟩
 clear hmf h0 h3
 go_wp2
 go_ret
 rw [HN.out]
 refine⟨rfl,v',hw,((Touch.refl _ _).alloc _).trans ht,?_⟩
 rcases ha with ha|⟨g,hg,hl⟩
 ·exact Or.inl ha
 ·exact Or.inr ⟨g,hg,by simp at hl;omega⟩
theorem Qfi (b:Nat) (v:Value) (bs:List Int) (most:Int) (x:Int) (w:World) (h:WrS w b v bs most 0) (hx:0≤x∧x<16777216) (hcap:bs.length≤1048576) :
  Calls Tryz.prog 150 #[.pointer (some ⟨b,0,none⟩),.int .u32 x,.int .i64 3] w fun e w'=>e=.returned (.pointer (some ⟨b,0,none⟩)) ∧
   ∃v',WrS w' b v' (putB bs most 0 (numBytes 3 x)) most (putE bs most 0 (numBytes 3 x))∧Touch (wrF b v) w w'∧Moved w v v':=by
 obtain⟨hx0,hx1⟩:=hx
 have hmf:∀(fn:Fn) (first cap:Array Value) (w:World),(Instr.makeFunc fn first cap).run Tryz.prog w=.ok (.func fn first cap) w:=fun _ _ _ _=>rfl
 have h0:=h.made
 have h3:=h.err
 have HN:Hid (numBytes 3 x=[x/65536,x/256%256,x%256]):=by show _=_;simp [numBytes];omega
 go_enter Tryz.func150,Tryz.ntmps150
 go_wp2_with (first|(go_at_call 151;refine (Qaz _ 0 _ (by assumption) (by assumption)).mono ?_;rintro e w' ⟨rfl,rfl⟩)|(go_at_call 169;go_in))
 refine (Qc9 b v bs most 0 ⟨w.heap.size,1,none⟩ 3 [x/65536,x/256%256,x%256] _ (h.alloc _) (Qek _ _ _ _ _ (by simp [bytesOf])) (by simp;omega)).mono ?_
 rintro e w' ⟨rfl,v',hw,ht,ha⟩
 clear hmf h0 h3
 go_wp2
 go_ret
 rw [HN.out]
 refine⟨rfl,v',hw,((Touch.refl _ _).alloc _).trans ht,?_⟩
 rcases ha with ha|⟨g,hg,hl⟩
 ·exact Or.inl ha
 ·exact Or.inr ⟨g,hg,by simp at hl;omega⟩
theorem Qer (b:Nat) (v:Value) (bs:List Int) (most:Int) (x:Int) (w:World) (h:WrS w b v bs most 0) (hx:0≤x∧x<4294967296) (hcap:bs.length≤1048576) :
  Calls Tryz.prog 150 #[.pointer (some ⟨b,0,none⟩),.int .u32 x,.int .i64 4] w fun e w'=>e=.returned (.pointer (some ⟨b,0,none⟩)) ∧
   ∃v',WrS w' b v' (putB bs most 0 (numBytes 4 x)) most (putE bs most 0 (numBytes 4 x))∧Touch (wrF b v) w w'∧Moved w v v':=by
 obtain⟨hx0,hx1⟩:=hx
 have hmf:∀(fn:Fn) (first cap:Array Value) (w:World),(Instr.makeFunc fn first cap).run Tryz.prog w=.ok (.func fn first cap) w:=fun _ _ _ _=>rfl
 have h0:=h.made
 have h3:=h.err
 have HN:Hid (numBytes 4 x=[x/16777216,x/65536%256,x/256%256,x%256]):=by show _=_;simp [numBytes];omega
 go_enter Tryz.func150,Tryz.ntmps150
 go_wp2_with (first|(go_at_call 151;refine (Qaz _ 0 _ (by assumption) (by assumption)).mono ?_;rintro e w' ⟨rfl,rfl⟩)|(go_at_call 169;go_in))
 refine (Qc9 b v bs most 0 ⟨w.heap.size,0,none⟩ 4 [x/16777216,x/65536%256,x/256%256,x%256] _ (h.alloc _) (Qek _ _ _ _ _ (by simp [bytesOf])) (by simp;omega)).mono ?_
 rintro e w' ⟨rfl,v',hw,ht,ha⟩
 clear hmf h0 h3
 go_wp2
 go_ret
 rw [HN.out]
 refine⟨rfl,v',hw,((Touch.refl _ _).alloc _).trans ht,?_⟩
 rcases ha with ha|⟨g,hg,hl⟩
 ·exact Or.inl ha
 ·exact Or.inr ⟨g,hg,by simp at hl;omega⟩
end Go.Proofs.YtldmkoogghemhaaGreat
