import Derived.Test.YtddbffoiadmffaaGreatStaVal
import Derived.Recover
import Derived.Defers
import Derived.Test.YtddbffoiadmffaaGreatParts
import Derived.Deep.RegionHeld3
import Derived.Deep.DeepCutAuto
import Derived.Lib.SliceRun
namespace Go.Proofs.YtddbffoiadmffaaGreat
open Go.RowKit
set_option linter.unusedVariables false
set_option maxRecDepth 100000
structure Out (w:World) (g:Nat) (h:HV) (v:Value):Prop where
 sd:Sd w g h v
 fz:∀ i,i<9→w.frozen? ⟨g,i,none⟩=false
theorem Out.lt {w:World} {g:Nat} {h:HV} {v:Value} (k:Out w g h v):g<w.heap.size:=lt_of_cell k.sd.hd.c0
theorem Out.keep {w w':World} {g:Nat} {h:HV} {v:Value} (k:Out w g h v) (t:Touch (fun _=>False) w w'):Out w' g h v :=
 ⟨k.sd.keep t,fun i hi=>(t.frozen (p:=⟨g,i,none⟩) k.lt (fun h=>h)).trans (k.fz i hi)⟩
theorem Out.new (w:World) (h:HV) (v:Value) (t:TypeId) :
  Out (w.alloc (.cells #[.int .u16 h.age,.int .u8 h.opts,.int .u8 h.typ,.int .u32 h.id,.int .u32 h.adv,.int .i32 h.seq,.int .u16 h.sum,.int .u16 h.len,v] t)) w.heap.size h v :=
 ⟨Sd.new w h v t,fun i hi=>by simp [go_sem]⟩
theorem Out.set6 {w:World} {g:Nat} {h:HV} {v:Value} (k:Out w g h v) (x:Int):Out (w.setCell ⟨g,6,none⟩ (.int .u16 x)) g { h with sum:=x } v:=by
 obtain ⟨⟨⟨c0,c1,c2,c3,c4,c5,c6,c7⟩,c8⟩,fz⟩:=k
 exact ⟨⟨⟨by simp [c0,go_sem],by simp [c1,go_sem],by simp [c2,go_sem],by simp [c3,go_sem],by simp [c4,go_sem],by simp [c5,go_sem],by simp [c6,go_sem],by simp [c7,go_sem]⟩,by simp [c8,go_sem]⟩,fun i hi=>by simp [fz i hi,go_sem]⟩
theorem Out.set7 {w:World} {g:Nat} {h:HV} {v:Value} (k:Out w g h v) (x:Int):Out (w.setCell ⟨g,7,none⟩ (.int .u16 x)) g { h with len:=x } v:=by
 obtain ⟨⟨⟨c0,c1,c2,c3,c4,c5,c6,c7⟩,c8⟩,fz⟩:=k
 exact ⟨⟨⟨by simp [c0,go_sem],by simp [c1,go_sem],by simp [c2,go_sem],by simp [c3,go_sem],by simp [c4,go_sem],by simp [c5,go_sem],by simp [c6,go_sem],by simp [c7,go_sem]⟩,by simp [c8,go_sem]⟩,fun i hi=>by simp [fz i hi,go_sem]⟩
theorem Out.set8 {w:World} {g:Nat} {h:HV} {v:Value} (k:Out w g h v) (u:Value):Out (w.setCell ⟨g,8,none⟩ u) g h u:=by
 obtain ⟨⟨⟨c0,c1,c2,c3,c4,c5,c6,c7⟩,c8⟩,fz⟩:=k
 exact ⟨⟨⟨by simp [c0,go_sem],by simp [c1,go_sem],by simp [c2,go_sem],by simp [c3,go_sem],by simp [c4,go_sem],by simp [c5,go_sem],by simp [c6,go_sem],by simp [c7,go_sem]⟩,by simp [c8,go_sem]⟩,fun i hi=>by simp [fz i hi,go_sem]⟩
theorem Out.other {w:World} {g:Nat} {h:HV} {v:Value} (k:Out w g h v) {p:Addr} (hp:p.block≠g) (u:Value):Out (w.setCell p u) g h v:=by
 have t:Touch (fun k=>k=p.block) w (w.setCell p u):=Touch.setCell (F:=fun k=>k=p.block) (Touch.refl _ w) (p:=p) (Or.inl rfl) u
 have hl:=k.lt
 have ce:∀ i,(w.setCell p u).cell? ⟨g,i,none⟩=w.cell? ⟨g,i,none⟩:=fun i=>t.cell (p:=⟨g,i,none⟩) hl (fun e=>hp e.symm)
 obtain ⟨⟨⟨c0,c1,c2,c3,c4,c5,c6,c7⟩,c8⟩,fz⟩:=k
 exact ⟨⟨⟨(ce 0).trans c0,(ce 1).trans c1,(ce 2).trans c2,(ce 3).trans c3,(ce 4).trans c4,(ce 5).trans c5,(ce 6).trans c6,(ce 7).trans c7⟩,(ce 8).trans c8⟩,
  fun i hi=>(t.frozen (p:=⟨g,i,none⟩) hl (fun e=>hp e.symm)).trans (fz i hi)⟩
theorem own_store {w:World} {base e k n:Nat} {v:Value} {xs:List Value} (h:w.ownsRow base e k v n xs) {p:Addr} (hp:p.block<base) (u:Value):(w.setCell p u).ownsRow base e k v n xs :=
 own_touch h (Touch.setCell (F:=fun k=>k=p.block) (Touch.refl _ w) (p:=p) (Or.inl rfl) u) (fun j hj e=>by have:=(h.lt j hj).1; omega)
theorem own_lower {w:World} {base base' e k n:Nat} {v:Value} {xs:List Value} (h:w.ownsRow base e k v n xs) (hb:base'≤base):w.ownsRow base' e k v n xs:=by
 refine ⟨h.1,?_⟩
 rcases h.2 with h2 | ⟨g,cap,cur,hv,hg,r⟩
 ·exact Or.inl h2
 ·exact Or.inr ⟨g,cap,cur,hv,by omega,r⟩
def flawC (e:Int):List PanicEntry:=[{ v:=.iface 280 (.int .i64 e),recovered:=false }]
theorem need_ok (e:Int) (w:World):Calls Tryz.prog 140 #[.bool true,.int .i64 e] w fun x w'=>x=.returned (.tuple #[])∧w=w':=by
 go_enter Tryz.func140,Tryz.ntmps140
 go_wp2
 go_end0
 exact ⟨rfl,rfl⟩
theorem need_no (e:Int) (w:World):Calls Tryz.prog 140 #[.bool false,.int .i64 e] w fun x w'=>x=.panicked (flawC e)∧w=w':=by
 go_enter Tryz.func140,Tryz.ntmps140
 go_wp2
 exact ⟨rfl,rfl,rfl⟩
theorem need_t (t:Bool) (e:Int) (w:World) (ht:t=true):Calls Tryz.prog 140 #[.bool t,.int .i64 e] w fun x w'=>x=.returned (.tuple #[])∧w=w':=by subst ht; exact need_ok e w
theorem need_f (t:Bool) (e:Int) (w:World) (ht:t=false):Calls Tryz.prog 140 #[.bool t,.int .i64 e] w fun x w'=>x=.panicked (flawC e)∧w=w':=by subst ht; exact need_no e w
theorem ta_flaw (e:Int) (w:World):(Instr.typeAssert (.iface 280 (.int .i64 e)) 20 280 true).run Tryz.prog w=.ok (.tuple #[.int .i64 e,.bool true]) w:=by kernel_rfl
theorem ta_nil (w:World):(Instr.typeAssert .nilIface 20 280 true).run Tryz.prog w=.ok (.tuple #[.int .i64 0,.bool false]) w:=by kernel_rfl
theorem mask_eq {n:Int} (h0:0≤n) (h1:n≤32):4294967295 * 2 ^ (32 - n).toNat % 4294967296=pmask n:=by
 rw [pmask_le h1]
 show 4294967295 * psz n % 4294967296=_
 have:=psz_pos n; have:=psz_le h0
 omega
set_option maxHeartbeats 400000 in
theorem mask_any (n:Int) (w:World) (h0:0≤n) :
  Calls Tryz.prog 183 #[.int .u8 n] w fun e w'=>e=.returned (.int .u32 (pmask n))∧w=w':=by
 by_cases h1:n≤32
 ·have hm:=mask_eq h0 h1
  have H:Hid (4294967295 * 2 ^ (32 - n).toNat % 4294967296=pmask n):=hm
  clear hm
  go_enter Tryz.func183,Tryz.ntmps183
  go_wp2
  go_ret
  exact ⟨ret_int H.out,rfl⟩
 ·have h2:32<n:=by omega
  have H:Hid (pmask n=0):=pmask_gt h2
  clear h1
  go_enter Tryz.func183,Tryz.ntmps183
  go_wp2
  go_ret
  exact ⟨ret_int H.out.symm,rfl⟩
set_option maxHeartbeats 400000 in
theorem bits_any (a:Int) (w:World) (h0:0≤a) (h1:a<4294967296) :
  Calls Tryz.prog 152 #[.int .u32 a] w fun e w'=>e=.returned (.tuple #[.int .u8 (pbn a),.bool (pbok a)])∧w=w':=by
 go_enter Tryz.func152,Tryz.ntmps152
 go_wp2
 go_loop [4,5] (fun n r=>∃ k:Nat,∃ x:Int,k≤32∧n=.int .u8 k∧r=.int .u32 x∧0≤x∧x<4294967296∧Hid (x=a * 2 ^ k % 4294967296)∧Hid (∀ j:Nat,j<k→a * 2 ^ j % 4294967296≠0)) (fun n _=>32 - (intOf n).toNat)
 case atStart=>exact ⟨0,a,by omega,rfl,rfl,h0,h1,(by show a=_; rw [Int.pow_zero]; omega),fun j hj=>absurd hj (by omega)⟩
 case round =>
  obtain ⟨k,x,hk,rfl,rfl,hx0,hx1,HX,HL⟩:=hrel
  by_cases hx:x=0
  ·subst hx
   have hp:=bits_at hk HX.out.symm HL.out
   by_cases hm:pmask k=a
   ·rw [if_pos hm] at hp
    have H:=pb_yes hp
    have HH:Hid (pbn a=k∧pbok a=true):=H
    have HM:Hid (pmask k=a):=hm
    clear hp H hm
    go_wp2_with (go_at_call 183; refine (mask_any _ _ (by omega)).mono ?_; rintro e w' ⟨rfl,rfl⟩; rw [HM.out])
    go_ret2
    exact ⟨ret_bits HH.out.1.symm HH.out.2.symm,rfl⟩
   ·rw [if_neg hm] at hp
    have H:=pb_no hp
    have HH:Hid (pbn a=0∧pbok a=false):=H
    clear hp H
    go_wp2_with (go_at_call 183; refine (mask_any _ _ (by omega)).mono ?_; rintro e w' ⟨rfl,rfl⟩)
    go_ret2
    exact ⟨ret_bits HH.out.1.symm HH.out.2.symm,rfl⟩
  ·have hk2:k<32:=by
    rcases Nat.lt_or_ge k 32 with h | h
    ·exact h
    ·exfalso; obtain rfl:k=32:=by omega
     exact hx (HX.out.trans (shl_32 a))
   go_wp2
   go_round
   case rel=>exact ⟨k+1,x * 2 % 4294967296,by omega,by go_num,rfl,by omega,by omega,(by show _=_; rw [HX.out,shl_one]),none_next HL.out (fun e=>hx (HX.out.trans e))⟩
   case measure=>simp [intOf]; omega
structure Aft (w0:World) where
 w:World
 gr:Touch (fun _=>False) w0 w
theorem wp_region_aft {P:Program} {id:Nat} {Q:Exit→Act→World→Prop} {a:Act} {w:World} {l:List Oper} (hm:P.follows .mixedOrders=true) (hB:Region.lexB .any l.toArray=true)
  (h:wpQuiet P l.toArray (fun w'=>∃ u:Aft w,w'=u.w) (fun a'=>∀ w',(∃ u:Aft w,w'=u.w)→Q .normal a' w') l a):(Code.region id l.toArray true).wp P Q a w :=
 wp_region_quiet (C:=fun w'=>∃ u:Aft w,w'=u.w) hm hB ⟨⟨_,(Touch.refl _ w).drew⟩,rfl⟩ (by simpa using h)
theorem Aft.call {P:Program} {f:FuncId} {args:Array Value} {w:World} {u:Aft w} {v:Value} (h:Calls P f args u.w fun e w'=>e=.returned v∧Touch (fun _=>False) u.w w') :
  Calls P f args u.w fun e w''=>e=.returned v∧∃ u':Aft w,w''=u'.w :=
 h.mono fun _ w'' ⟨he,hg⟩=>⟨he,⟨w'',u.gr.trans hg⟩,rfl⟩
theorem aft_cell {w:World} {p:Addr} {v:Value} (h:w.cell? p=some v):∀ u:Aft w,u.w.cell? p=some v :=
 fun u=>u.gr.cellN h
theorem isMask_any (a:Int) (w:World) (h0:0≤a) (h1:a<4294967296):Calls Tryz.prog 248 #[.int .u32 a] w fun e w'=>e=.returned (.bool (pbok a))∧w=w':=by
 go_enter Tryz.func248,Tryz.ntmps248
 go_wp2_with (go_at_call 152; refine (bits_any a _ h0 h1).mono ?_; rintro e w' ⟨rfl,rfl⟩)
 go_ret
 exact ⟨rfl,rfl⟩
theorem isLink_any (x:LV) (w:World):Calls Tryz.prog 251 #[.agg #[.int .u32 x.id,.int .u32 x.data,.int .u8 x.typ,.int .u16 x.cost]] w fun e w'=>e=.returned (.bool (decide (1≤x.typ) && decide (x.typ≤4)))∧Touch (fun _=>False) w w':=by
 by_cases h1:1≤x.typ
 ·have h1':decide (1≤x.typ)=true:=by simpa using h1
  go_enter Tryz.func251,Tryz.ntmps251
  go_wp2
  go_ret
  exact ⟨ret_bool (by simp_all),(Touch.refl _ w).alloc _⟩
 ·have h1':decide (1≤x.typ)=false:=by simpa using h1
  go_enter Tryz.func251,Tryz.ntmps251
  go_wp2
  go_ret
  exact ⟨ret_bool (by simp_all),(Touch.refl _ w).alloc _⟩
theorem size_any (h:HV) (a:Option Addr) (n c:Nat) (w:World) (hn:n≤140737488355328):Calls Tryz.prog 170 #[h.sv (.slice a n c)] w fun e w'=>e=.returned (.int .i64 (20+(n:Int)))∧Touch (fun _=>False) w w':=by
 have hw:wrap64 (20+(n:Int))=20+(n:Int):=by unfold wrap64; omega
 unfold HV.sv
 go_enter Tryz.func170,Tryz.ntmps170
 go_wp2
 go_ret
 exact ⟨rfl,(Touch.refl _ w).alloc _⟩
theorem hasLength_any (h:HV) (a:Option Addr) (n c:Nat) (w:World) (hn:n≤140737488355328) (hl:0≤h.len∧h.len<65536):Calls Tryz.prog 141 #[h.sv (.slice a n c)] w fun e w'=>e=.returned (.bool (h.len == 20+(n:Int)))∧Touch (fun _=>False) w w':=by
 obtain ⟨hl0,hl1⟩:=hl
 have HC:∀ w,Calls Tryz.prog 170 #[.agg #[.int .u16 h.age,.int .u8 h.opts,.int .u8 h.typ,.int .u32 h.id,.int .u32 h.adv,.int .i32 h.seq,.int .u16 h.sum,.int .u16 h.len,.slice a n c]] w fun e w'=>e=.returned (.int .i64 (20+(n:Int)))∧Touch (fun _=>False) w w':=fun w=>size_any h a n c w hn
 show Calls Tryz.prog 141 #[.agg #[.int .u16 h.age,.int .u8 h.opts,.int .u8 h.typ,.int .u32 h.id,.int .u32 h.adv,.int .i32 h.seq,.int .u16 h.sum,.int .u16 h.len,.slice a n c]] w _
 have HB:=Sd.new w h (.slice a n c) 57
 have p0:=aft_cell HB.hd.c0
 have p1:=aft_cell HB.hd.c1
 have p2:=aft_cell HB.hd.c2
 have p3:=aft_cell HB.hd.c3
 have p4:=aft_cell HB.hd.c4
 have p5:=aft_cell HB.hd.c5
 have p6:=aft_cell HB.hd.c6
 have p7:=aft_cell HB.hd.c7
 have p8:=aft_cell HB.c8
 clear HB
 go_enter Tryz.func141,Tryz.ntmps141
 go_upto_region 1 with fail
 refine wp_region_aft (by kernel_rfl) (by kernel_rfl) ?_
 repeat (first | go_big_quiet_skip | (go_big_quiet_want; go_big_quiet_op; first | go_big_quiet_on | (refine Exists.intro _ ⟨fun _=>rfl,?_⟩; go_big_quiet_on)))
 go_big_quiet_want; go_big_quiet_op; refine Exists.intro _ ⟨fun u=>Aft.call (HC _),?_⟩; go_big_quiet_on
 repeat (first | go_big_quiet_skip | (go_big_quiet_want; go_big_quiet_op; first | go_big_quiet_on | (refine Exists.intro _ ⟨fun _=>rfl,?_⟩; go_big_quiet_on)))
 refine wpQuiet_nil ?_
 rintro wq ⟨⟨_,hgq⟩,rfl⟩
 clear p0 p1 p2 p3 p4 p5 p6 p7 p8
 go_wp2
 go_ret
 exact ⟨rfl,((Touch.refl _ w).alloc _).trans hgq⟩
theorem Tryz.info5r:(Tryz.prog.info? 5).map (fun i=>(i.zero,i.size,i.bytes))=some (some (.int .u8 0),1,1):=by kernel_rfl
theorem clone_some (ad:Addr) (c:Nat) (ns:List Int) (w:World) (hs:∀ j u,(bytesOf ns)[j]?=some u→w.cell? (ad.add j)=some u) (hcap:ns.length≤1099511627776) :
  Calls Tryz.prog 201 #[.slice (some ad) ns.length c] w fun e w'=>∃ v,e=.returned v∧w'.ownsRow w.heap.size 5 1 v ns.length (bytesOf ns)∧Touch (fun _=>False) w w'∧v.ownBlock≠none:=by
 obtain ⟨i0,hi,hz0,hz1,hz2⟩:=info_parts Tryz.info5r
 have hq:=fun (w:World) (a:Option Addr) (n c n' c':Nat)=>Lib.run_eql_slice_nil (P:=Tryz.prog) w 55 5 a n c n' c' Tryz.underlying55
 go_enter Tryz.func201,Tryz.ntmps201
 go_wp2_with (at_builtin; refine wpList_append_own_at _ rfl (.tmp 5) (.tmp 6) 55 rfl w.heap.size 5 i0 (.int .u8 0) 1 1 Tryz.underlying55 hi hz0 hz1 hz2 rfl (by decide) (.slice (some ⟨w.heap.size,0,none⟩) 0 0) 0 [] rfl ?c0 ad ns.length c (bytesOf ns) rfl ?c6 ?c1 ?c2 ?c3 ?c4 ?c5 ?_)
 case c0=>exact World.ownsRow_lit w #[] 0 (Nat.le_refl _) (by simp [maxLen]) (by simp)
 case c6=>simp [length_bytesOf]
 case c1=>exact fun j u hj=>((Touch.refl _ w).alloc _).cellN (hs j u hj)
 case c2=>exact oneCell_bytesOf ns
 case c3=>unfold maxLen; omega
 case c4=>omega
 case c5=>simp
 intro v' w1 hown' hgrow _ hat
 have t1:Touch (fun _=>False) w w1:=((Touch.refl _ w).alloc _).grown hgrow (fun k hk=>Or.inr (by simp [Value.ownBlock] at hk; omega))
 have hne:v'.ownBlock≠none:=by rcases hat with h | h <;> rw [h] <;> simp [Value.ownBlock]
 clear hgrow hat
 go_wp2
 go_ret
 exact ⟨v',rfl,by simpa using hown',t1,hne⟩
theorem clone_nil (w:World) :
  Calls Tryz.prog 201 #[.slice none 0 0] w fun e w'=>e=.returned (.slice none 0 0)∧w=w':=by
 have hq:=fun (w:World) (a:Option Addr) (n c n' c':Nat)=>Lib.run_eql_slice_nil (P:=Tryz.prog) w 55 5 a n c n' c' Tryz.underlying55
 go_enter Tryz.func201,Tryz.ntmps201
 go_wp2
 go_ret
 exact ⟨rfl,rfl⟩
theorem write_any (most:Int) (w:World) (hm:0≤most) :
  Calls Tryz.prog 172 #[.int .i64 most] w fun e w'=>e=.returned (.pointer (some ⟨w.heap.size,0,none⟩))∧WrS w' w.heap.size (.slice none 0 0) [] most 0∧Touch (fun _=>False) w w':=by
 go_enter Tryz.func172,Tryz.ntmps172
 go_wp2
 go_ret
 refine ⟨rfl,⟨by simp,by simp,by simp,by simp,by simp,by simp,World.ownsRow_nil _ _ _ _⟩,(Touch.refl _ w).alloc _⟩
theorem err_any (b:Nat) (err:Int) (w:World) (h0:w.cell? ⟨b,0,none⟩=some (.bool true)) (h3:w.cell? ⟨b,3,none⟩=some (.int .i64 err)) :
  Calls Tryz.prog 178 #[.pointer (some ⟨b,0,none⟩)] w fun e w'=>e=.returned (.int .i64 err)∧w=w':=by
 go_enter Tryz.func178,Tryz.ntmps178
 go_wp2
 go_ret
 exact ⟨rfl,rfl⟩
theorem rwhole_any (b:Nat) (err:Int) (w:World) (h0:w.cell? ⟨b,0,none⟩=some (.bool true)) (h3:w.cell? ⟨b,3,none⟩=some (.int .i64 err)) :
  Calls Tryz.prog 214 #[.pointer (some ⟨b,0,none⟩)] w fun e w'=>e=.returned (.bool (err == 0))∧w=w':=by
 go_enter Tryz.func214,Tryz.ntmps214
 go_wp2_with (go_at_call 178; refine (err_any _ err _ (by assumption) (by assumption)).mono ?_; rintro e w' ⟨rfl,rfl⟩)
 go_ret
 exact ⟨rfl,rfl⟩
theorem left_ok (b p:Nat) (rv:Value) (rs:List Int) (w:World) (h:RdS w b rv rs p 0) :
  Calls Tryz.prog 179 #[.pointer (some ⟨b,0,none⟩)] w fun e w'=>e=.returned (.int .i64 ((rs.length:Int) - p))∧∃ n,w'=w.drewN n:=by
 obtain ⟨a,c,rfl,hm⟩:=rowAt_form h.rowAt
 unfold maxLen at hm
 have h0:=h.made
 have h1:=h.row
 have h2:=h.pos
 have h3:=h.err
 have hp:=h.ple
 go_enter Tryz.func179,Tryz.ntmps179
 go_wp2_with (go_at_call 214; refine (rwhole_any _ 0 _ (by assumption) (by assumption)).mono ?_; rintro e w' ⟨rfl,rfl⟩)
 go_quiet (fail)
 go_wp2
 go_ret
 exact ⟨rfl,_,rfl⟩
theorem left_dead (b:Nat) (err:Int) (w:World) (h0:w.cell? ⟨b,0,none⟩=some (.bool true)) (h3:w.cell? ⟨b,3,none⟩=some (.int .i64 err)) (he:(err == 0)=false) :
  Calls Tryz.prog 179 #[.pointer (some ⟨b,0,none⟩)] w fun e w'=>e=.returned (.int .i64 0)∧w=w':=by
 go_enter Tryz.func179,Tryz.ntmps179
 go_wp2_with (go_at_call 214; refine (rwhole_any _ err _ (by assumption) (by assumption)).mono ?_; rintro e w' ⟨rfl,rfl⟩)
 go_ret
 exact ⟨rfl,rfl⟩
theorem refuse_ok (b:Nat) (q:Int) (w:World) (h0:w.cell? ⟨b,0,none⟩=some (.bool true)) (h3:w.cell? ⟨b,3,none⟩=some (.int .i64 0)) (hf:w.frozen? ⟨b,3,none⟩=false) :
  Calls Tryz.prog 249 #[.pointer (some ⟨b,0,none⟩),.int .i64 q] w fun e w'=>e=.returned (.tuple #[])∧w.setCell ⟨b,3,none⟩ (.int .i64 q)=w':=by
 go_enter Tryz.func249,Tryz.ntmps249
 go_wp2_with (go_at_call 214; refine (rwhole_any _ 0 _ (by assumption) (by assumption)).mono ?_; rintro e w' ⟨rfl,rfl⟩)
 go_end0
 exact ⟨rfl,rfl⟩
theorem refuse_dead (b:Nat) (q err:Int) (w:World) (h0:w.cell? ⟨b,0,none⟩=some (.bool true)) (h3:w.cell? ⟨b,3,none⟩=some (.int .i64 err)) (he:(err == 0)=false) :
  Calls Tryz.prog 249 #[.pointer (some ⟨b,0,none⟩),.int .i64 q] w fun e w'=>e=.returned (.tuple #[])∧w=w':=by
 go_enter Tryz.func249,Tryz.ntmps249
 go_wp2_with (go_at_call 214; refine (rwhole_any _ err _ (by assumption) (by assumption)).mono ?_; rintro e w' ⟨rfl,rfl⟩)
 go_end0
 exact ⟨rfl,rfl⟩
theorem row_sub {w:World} {g off:Nat} {rs:List Int} (hc:∀ j u,(bytesOf rs)[j]?=some u→w.cell? ⟨g,off+j,none⟩=some u) (p m:Nat) (hm:p+m≤rs.length) (hcm:rs.length≤maxLen) :
  RowAt w (.slice (some ⟨g,off+p,none⟩) m m) ((rs.drop p).take m):=by
 have hl:((rs.drop p).take m).length=m:=by simp; omega
 refine Or.inr ⟨g,off+p,m,by rw [hl],by omega,by omega,?_⟩
 intro j u hj
 have:(bytesOf rs)[p+j]?=some u:=by
  simp only [bytesOf,List.map_take,List.map_drop,List.getElem?_take,List.getElem?_drop] at hj ⊢
  split at hj
  ·exact hj
  ·simp at hj
 have:=hc _ _ this
 rwa [← Nat.add_assoc] at this
theorem row_none (w:World) (g off:Nat):RowAt w (.slice (some ⟨g,off,none⟩) 0 0) [] :=
 Or.inr ⟨g,off,0,by simp,by simp,by simp [maxLen],by intro j u hj; simp [bytesOf] at hj⟩
theorem cut_ok (b p m:Nat) (rv:Value) (rs:List Int) (w:World) (h:RdS w b rv rs p 0) (hm:p+m≤rs.length) :
  Calls Tryz.prog 250 #[.pointer (some ⟨b,0,none⟩),.int .i64 m] w fun e w'=>∃ sv,e=.returned sv∧RowAt w' sv ((rs.drop p).take m)∧(sv.ownBlock=none∨sv.ownBlock=rv.ownBlock) ∧
   RdS w' b rv rs (p+m) 0∧Touch (fun k=>k=b) w w'∧w'.heap.size=w.heap.size:=by
 have h0:=h.made
 have h1:=h.row
 have h2:=h.pos
 have h3:=h.err
 have hf2:=h.f2
 have hlt:=lt_of_cell h0
 have HW:∀ n,RdS (w.drewN n) b rv rs p 0:=fun n=>h.drewN n
 rcases h.rowAt with ⟨rfl,rfl⟩ | ⟨g,off,c,rfl,hlc,hcm,hcells⟩
 ·obtain rfl:p=0:=by simpa using h.ple
  obtain rfl:m=0:=by simpa using hm
  go_enter Tryz.func250,Tryz.ntmps250
  go_wp2_with (first | (go_at_call 179; refine (left_ok _ 0 _ [] _ h).mono ?_; rintro e w' ⟨rfl,nl,rfl⟩) | (go_at_call 214; refine (rwhole_any _ 0 _ (HW _).made (HW _).err).mono ?_; rintro e w' ⟨rfl,rfl⟩))
  go_quiet (fail)
  have HB:Hid (RdS ((w.drewN nl).setCell ⟨b,2,none⟩ (.int .i64 ((0:Nat):Int))) b (.slice none 0 0) [] 0 0):=(h.drewN nl).setPos 0 (by simp)
  have HT:Hid (Touch (fun k=>k=b) w ((w.drewN nl).setCell ⟨b,2,none⟩ (.int .i64 ((0:Nat):Int)))):=Touch.setCell (F:=fun k=>k=b) (p:=⟨b,2,none⟩) ((Touch.refl _ w).drewN nl) (Or.inl rfl) _
  clear h0 h1 h2 h3 hf2 HW h
  go_wp2
  go_ret
  exact ⟨_,rfl,Or.inl ⟨rfl,rfl⟩,Or.inl rfl,HB.out.drewN _,HT.out.drewN _,by simp [World.setCell,World.drewN]⟩
 ·unfold maxLen at hcm
  by_cases hm0:m=0
  ·subst hm0
   go_enter Tryz.func250,Tryz.ntmps250
   go_wp2_with (first | (go_at_call 179; refine (left_ok _ p _ rs _ h).mono ?_; rintro e w' ⟨rfl,nl,rfl⟩) | (go_at_call 214; refine (rwhole_any _ 0 _ (HW _).made (HW _).err).mono ?_; rintro e w' ⟨rfl,rfl⟩))
   go_quiet (fail)
   have HB:Hid (RdS ((w.drewN nl).setCell ⟨b,2,none⟩ (.int .i64 ((p:Nat):Int))) b (.slice (some ⟨g,off,none⟩) rs.length c) rs p 0):=(h.drewN nl).setPos p hm
   have HT:Hid (Touch (fun k=>k=b) w ((w.drewN nl).setCell ⟨b,2,none⟩ (.int .i64 ((p:Nat):Int)))):=Touch.setCell (F:=fun k=>k=b) (p:=⟨b,2,none⟩) ((Touch.refl _ w).drewN nl) (Or.inl rfl) _
   clear h0 h1 h2 h3 hf2 HW h
   go_wp2
   go_ret
   exact ⟨.slice (some ⟨g,off,none⟩) 0 0,rfl,row_none _ _ _,Or.inr rfl,HB.out.drewN _,HT.out.drewN _,by simp [World.setCell,World.drewN]⟩
  ·have hpm:¬ p+m=p:=by omega
   have hpp:p+m - p=m:=by omega
   go_enter Tryz.func250,Tryz.ntmps250
   go_wp2_with (first | (go_at_call 179; refine (left_ok _ p _ rs _ h).mono ?_; rintro e w' ⟨rfl,nl,rfl⟩) | (go_at_call 214; refine (rwhole_any _ 0 _ (HW _).made (HW _).err).mono ?_; rintro e w' ⟨rfl,rfl⟩))
   go_quiet (fail)
   have HB:Hid (RdS ((w.drewN nl).setCell ⟨b,2,none⟩ (.int .i64 ((p:Int)+(m:Int)))) b (.slice (some ⟨g,off,none⟩) rs.length c) rs (p+m) 0):=(h.drewN nl).setPos (p+m) hm
   have HT:Hid (Touch (fun k=>k=b) w ((w.drewN nl).setCell ⟨b,2,none⟩ (.int .i64 ((p:Int)+(m:Int))))):=Touch.setCell (F:=fun k=>k=b) (p:=⟨b,2,none⟩) ((Touch.refl _ w).drewN nl) (Or.inl rfl) _
   clear h0 h1 h2 h3 hf2 HW h
   go_wp2
   go_ret
   refine ⟨.slice (some ⟨g,off+p,none⟩) (p+m - p) (p+m - p),rfl,?_,Or.inr rfl,HB.out.drewN _,HT.out.drewN _,by simp [World.setCell,World.drewN]⟩
   rw [hpp]
   refine row_sub (fun j u hj=>?_) p m hm (by unfold maxLen; omega)
   exact ((HT.out.drewN _).cell (p:=⟨g,off+j,none⟩) (lt_of_cell (hcells j u hj)) (by have:=HB.out.ne; simpa [Value.ownBlock] using this)).trans (hcells j u hj)
theorem cut_short (b p:Nat) (m:Int) (rv:Value) (rs:List Int) (w:World) (h:RdS w b rv rs p 0) (hm:(rs.length:Int)<p+m) (hmm:m≤9223372036854775807) :
  Calls Tryz.prog 250 #[.pointer (some ⟨b,0,none⟩),.int .i64 m] w fun e w'=>e=.returned (.slice none 0 0)∧RdS w' b rv rs p 10∧Touch (fun k=>k=b) w w'∧w'.heap.size=w.heap.size:=by
 have hple:=h.ple
 have hm1:(rs.length:Int) - p<m:=by omega
 have hm2:¬ m<0:=by omega
 have HW:∀ n,RdS (w.drewN n) b rv rs p 0:=fun n=>h.drewN n
 have hlt:=lt_of_cell h.made
 clear hm
 go_enter Tryz.func250,Tryz.ntmps250
 go_wp2_with (first | (go_at_call 179; refine (left_ok _ p _ rs _ h).mono ?_; rintro e w' ⟨rfl,nl,rfl⟩) | (go_at_call 249; refine (refuse_ok _ 10 _ (HW _).made (HW _).err (HW _).f3).mono ?_; rintro e w' ⟨rfl,rfl⟩) | (go_at_call 214; refine (rwhole_any _ 10 _ ((HW _).setErr 10).made ((HW _).setErr 10).err).mono ?_; rintro e w' ⟨rfl,rfl⟩))
 go_ret
 exact ⟨rfl,(HW _).setErr 10,Touch.setCell (F:=fun k=>k=b) (p:=⟨b,3,none⟩) ((Touch.refl _ w).drewN _) (Or.inl rfl) _,by simp [World.setCell,World.drewN]⟩
def numVal (l:List Int):Int:=l.foldl (fun a x=>a * 256+x) 0
theorem numVal_snoc (l:List Int) (x:Int):numVal (l ++ [x])=numVal l * 256+x:=by simp [numVal]
theorem numVal_take (l:List Int) (k:Nat) (h:k<l.length):numVal (l.take (k+1))=numVal (l.take k) * 256+l.getD k 0:=by
 rw [List.take_succ_eq_append_getElem h,numVal_snoc]; simp [List.getD,h]
theorem numVal_bd (l:List Int) (hb:∀ x∈l,0≤x∧x<256) (k:Nat):0≤numVal (l.take k)∧numVal (l.take k)<256 ^ k:=by
 induction k with
 | zero=>simp [numVal]
 | succ k ih =>
  by_cases h:k<l.length
  ·rw [numVal_take l k h]
   have hx:=hb (l.getD k 0) (by simp [List.getD,h])
   have e:(256:Int) ^ (k+1)=256 ^ k * 256:=Int.pow_succ _ _
   omega
  ·rw [List.take_of_length_le (by omega)] at ih ⊢
   have e:(256:Int) ^ (k+1)=256 ^ k * 256:=Int.pow_succ _ _
   have:(0:Int)<256 ^ k:=Int.pow_pos (by decide)
   omega
theorem pow_3 (k:Nat) (h:k≤3):(256:Int) ^ k≤16777216:=by
 rcases (by omega:k=0∨k=1∨k=2∨k=3) with rfl | rfl | rfl | rfl <;> decide
theorem or_low (x y:Int) (hx:0≤x) (hx1:x<16777216) (hy:0≤y) (hy1:y<256):bits .or .u32 (x * 256) y=x * 256+y:=by
 rw [u32_or _ _ (by omega) (by omega) (by omega) (by omega)]
 have e1:(x * 256).toNat=x.toNat <<< 8:=by rw [Nat.shiftLeft_eq]; omega
 rw [e1,← Nat.shiftLeft_add_eq_or_of_lt (by omega),Nat.shiftLeft_eq]
 omega
theorem bytes_sub {rs:List Int} (hb:∀ x∈rs,0≤x∧x<256) (p m:Nat):∀ x∈(rs.drop p).take m,0≤x∧x<256 :=
 fun x hx=>hb x (List.mem_of_mem_drop (List.mem_of_mem_take hx))
theorem cut_num (b p m:Nat) (rv:Value) (rs:List Int) (w:World) (h:RdS w b rv rs p 0) (hm1:1≤m) (hm:p+m≤rs.length) :
  Calls Tryz.prog 250 #[.pointer (some ⟨b,0,none⟩),.int .i64 m] w fun e w'=>∃ (g off c:Nat) (zs:List Int),e=.returned (.slice (some ⟨g,off,none⟩) m c)∧Hid (zs=(rs.drop p).take m)∧zs.length=m ∧
   (∀ j,j<m→w'.cell? ⟨g,off+j,none⟩=some (.int .u8 (zs.getD j 0)))∧Hid (∀ x∈zs,0≤x∧x<256)∧Hid (RdS w' b rv rs (p+m) 0∧Touch (fun k=>k=b) w w'∧w'.heap.size=w.heap.size):=by
 refine (cut_ok b p m rv rs w h hm).mono ?_
 rintro e w' ⟨sv,rfl,hrow,hown,hrd,ht,hsz⟩
 have hl:((rs.drop p).take m).length=m:=by simp; omega
 rcases hrow with ⟨_,e⟩ | ⟨g,off,c,rfl,h1,h2,h3⟩
 ·rw [e] at hl; simp at hl; omega
 ·refine ⟨g,off,c,_,by rw [hl],rfl,hl,fun j hj=>h3 j _ ?_,bytes_sub h.byte p m,hrd,ht,hsz⟩
  simp only [bytesOf,List.getElem?_map]
  rw [List.getElem?_eq_getElem (by omega)]
  simp [List.getD,hl,hj]
theorem rnumber_ok (b p m:Nat) (rv:Value) (rs:List Int) (w:World) (h:RdS w b rv rs p 0) (hm1:1≤m) (hm4:m≤4) (hm:p+m≤rs.length) :
  Calls Tryz.prog 234 #[.pointer (some ⟨b,0,none⟩),.int .i64 m] w fun e w'=>e=.returned (.int .u32 (numVal ((rs.drop p).take m))) ∧
   RdS w' b rv rs (p+m) 0∧Touch (fun k=>k=b) w w'∧w'.heap.size=w.heap.size:=by
 have hd1:decide ((m:Int)<1)=false:=by simp; omega
 have hd2:decide ((4:Int)<m)=false:=by simp; omega
 go_enter Tryz.func234,Tryz.ntmps234
 go_wp2_with (go_at_call 250; refine (cut_num _ p m _ rs _ h hm1 hm).mono ?_; rintro e w' ⟨g,off,c,zs,rfl,hzs,hzl,hcell,hby,hrest⟩)
 go_loop [5,20] (fun v i=>∃ k:Nat,k≤m∧i=.int .i64 k∧v=.int .u32 (numVal (zs.take k))) (fun _ i=>m - (intOf i).toNat)
 case atStart=>exact ⟨0,Nat.zero_le _,rfl,rfl⟩
 case round =>
  obtain ⟨k,hk,rfl,rfl⟩:=hrel
  by_cases hlt:k<m
  ·have hc:=hcell k hlt
   obtain ⟨z,hz⟩:∃ z,z=zs.getD k 0:=⟨_,rfl⟩
   rw [← hz] at hc
   have hx:=hby.out z (by rw [hz]; simp [List.getD,show k<zs.length by omega])
   obtain ⟨hx0,hx1⟩:=hx
   obtain ⟨V,hV⟩:∃ V,V=numVal (zs.take k):=⟨_,rfl⟩
   have hb:=numVal_bd zs hby.out k
   have hb3:=pow_3 k (by omega)
   have HS:Hid (numVal (zs.take (k+1))=V * 256+z):=by show _=_; rw [numVal_take zs k (by omega),hV,hz]
   rw [← hV] at hb ⊢
   have hV1:V<16777216:=by omega
   have hV0:0≤V:=hb.1
   have hor:=or_low V z hV0 hV1 hx0 hx1
   clear hb hb3 hV hz hcell
   go_wp2
   go_round
   case rel=>exact ⟨k+1,by omega,by go_num,by rw [HS.out]⟩
   case measure=>simp [intOf]; omega
  ·go_wp2
   go_ret
   obtain rfl:k=m:=by omega
   obtain ⟨a,b',c'⟩:=hrest.out
   exact ⟨ret_int (by rw [← hzs.out,List.take_of_length_le (by omega)]),a,b',c'⟩
end Go.Proofs.YtddbffoiadmffaaGreat
