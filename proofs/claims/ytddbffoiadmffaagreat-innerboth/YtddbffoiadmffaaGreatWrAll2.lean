import Derived.Test.YtddbffoiadmffaaGreatParts
import Derived.Laws.CopyOwn
import Derived.Test.YtddbffoiadmffaaGreatNumber
namespace Go.Proofs.YtddbffoiadmffaaGreat
open Go.RowKit
set_option linter.unusedVariables false
set_option maxRecDepth 100000
theorem Tryz.info5:(Tryz.prog.info? 5).map (fun i=>(i.zero,i.size,i.bytes))=some (some (.int .u8 0),1,1):=by kernel_rfl
theorem fault_any (b:Nat) (err:Int) (w:World) (h0:w.cell? ⟨b,0,none⟩=some (.bool true)) (h3:w.cell? ⟨b,3,none⟩=some (.int .i64 err)) :
  Calls Tryz.prog 200 #[.pointer (some ⟨b,0,none⟩)] w fun e w'=>e=.returned (.int .i64 err)∧w=w':=by
 go_enter Tryz.func200,Tryz.ntmps200
 go_wp2
 go_ret
 exact ⟨rfl,rfl⟩
theorem whole_any (b:Nat) (err:Int) (w:World) (h0:w.cell? ⟨b,0,none⟩=some (.bool true)) (h3:w.cell? ⟨b,3,none⟩=some (.int .i64 err)) :
  Calls Tryz.prog 198 #[.pointer (some ⟨b,0,none⟩)] w fun e w'=>e=.returned (.bool (err == 0))∧w=w':=by
 go_enter Tryz.func198,Tryz.ntmps198
 go_wp2_with (go_at_call 200; refine (fault_any _ err _ (by assumption) (by assumption)).mono ?_; rintro e w' ⟨rfl,rfl⟩)
 go_ret
 exact ⟨rfl,rfl⟩
theorem put_ok (b:Nat) (v:Value) (bs:List Int) (most:Int) (ad:Addr) (c:Nat) (ns:List Int) (w:World) (h:WrS w b v bs most 0)
  (hs:∀ j u,(bytesOf ns)[j]?=some u→w.cell? (ad.add j)=some u) (hfit:(bs.length+ns.length:Int)≤most) (hcap:bs.length+ns.length≤1099511627776) :
  Calls Tryz.prog 174 #[.pointer (some ⟨b,0,none⟩),.slice (some ad) ns.length c] w fun e w'=>e=.returned (.pointer (some ⟨b,0,none⟩)) ∧
   ∃ v',WrS w' b v' (bs ++ ns) most 0∧Touch (wrF b v) w w'∧(v'.ownBlock=v.ownBlock∨∃ g,v'.ownBlock=some g∧w.heap.size≤g):=by
 obtain ⟨i0,hi,hz0,hz1,hz2⟩:=info_parts Tryz.info5
 obtain ⟨h0,h1,h2,h3,hf1,hf3,hown⟩:=h
 have hlt:=lt_of_cell h0
 obtain ⟨va,vl,vc,hv,hvl⟩:∃ va vl vc,v=.slice va vl vc∧vl=bs.length:=by
  rcases hown.2 with ⟨rfl,e⟩ | ⟨g,cap,cur,rfl,_⟩
  ·exact ⟨_,_,_,rfl,e.symm⟩
  ·exact ⟨_,_,_,rfl,rfl⟩
 subst hv
 subst hvl
 go_enter Tryz.func174,Tryz.ntmps174
 go_wp2_with (go_at_call 198; refine (whole_any _ 0 _ (by assumption) (by assumption)).mono ?_; rintro e w' ⟨rfl,rfl⟩)
 go_quiet (fail)
 go_wp2_with (at_builtin; (refine wpList_append_own_at _ rfl (.tmp 28) (.tmp 29) 55 rfl (b+1) 5 i0 (.int .u8 0) 1 1 Tryz.underlying55 hi hz0 hz1 hz2 rfl (by decide) (.slice va bs.length vc) bs.length (bytesOf bs) rfl ?c0 ad ns.length c (bytesOf ns) rfl ?c6 ?c1 ?c2 ?c3 ?c4 ?c5 ?_))
 case c0=>exact (WrS.drewN ⟨h0,h1,h2,h3,hf1,hf3,hown⟩ nq).own
 case c6=>simp [length_bytesOf]
 case c1=>exact hs
 case c2=>exact oneCell_bytesOf ns
 case c3=>unfold maxLen; omega
 case c4=>omega
 case c5=>show b+1≤w.heap.size; omega
 intro v' w1 hown' hgrow _ hat
 have R:=wr_appended (bs':=bs ++ ns) (WrS.drewN ⟨h0,h1,h2,h3,hf1,hf3,hown⟩ nq) hgrow (by rw [bytesOf_append,List.length_append]; exact hown')
 have hne:¬ (Value.slice va bs.length vc).ownBlock=some b:=own_ne hown (Nat.lt_succ_self b)
 have hc1:w1.cell? ⟨b,1,none⟩=some (.slice va bs.length vc):=(World.cell?_of_block (w:=w) (hgrow.block b hlt (fun e=>hne e.symm))).trans h1
 have hf1':w1.frozen? ⟨b,1,none⟩=false:=(World.frozen?_of_block (w:=w) (hgrow.block b hlt (fun e=>hne e.symm))).trans hf1
 obtain ⟨va',vl',vc',hv'⟩:∃ va' vl' vc',v'=.slice va' vl' vc':=by
  rcases hown'.2 with ⟨rfl,e⟩ | ⟨g,cap,cur,rfl,_⟩
  ·exact ⟨_,_,_,rfl⟩
  ·exact ⟨_,_,_,rfl⟩
 subst hv'
 have HR:Hid (WrS (w1.setCell ⟨b,1,none⟩ (.slice va' vl' vc')) b (.slice va' vl' vc') (bs ++ ns) most 0∧Touch (wrF b (.slice va bs.length vc)) (w.drewN nq) (w1.setCell ⟨b,1,none⟩ (.slice va' vl' vc'))):=R
 have HA:Hid ((Value.slice va' vl' vc').ownBlock=(Value.slice va bs.length vc).ownBlock∨(Value.slice va' vl' vc').ownBlock=some w.heap.size):=hat
 clear R hown' hgrow hat hown hne hs h0 h1 h2 h3 hf1 hf3
 go_wp2
 go_ret
 refine ⟨rfl,_,HR.out.1,((Touch.refl _ _).drewN nq).trans HR.out.2,?_⟩
 rcases HA.out with h | h
 ·exact Or.inl h
 ·exact Or.inr ⟨_,h,Nat.le_refl _⟩
theorem rnumber_short (b p m:Nat) (rv:Value) (rs:List Int) (w:World) (h:RdS w b rv rs p 0) (hm1:1≤m) (hm4:m≤4) (hm:rs.length<p+m) :
  Calls Tryz.prog 234 #[.pointer (some ⟨b,0,none⟩),.int .i64 m] w fun e w'=>e=.returned (.int .u32 0) ∧
   RdS w' b rv rs p 10∧Touch (fun k=>k=b) w w'∧w'.heap.size=w.heap.size:=by
 have hd1:decide ((m:Int)<1)=false:=by simp; omega
 have hd2:decide ((4:Int)<m)=false:=by simp; omega
 go_enter Tryz.func234,Tryz.ntmps234
 go_wp2_with (go_at_call 250; refine (cut_short _ p m _ rs _ h (by omega) (by omega)).mono ?_; rintro e w' ⟨rfl,hrest⟩)
 go_rounds 1
 go_ret
 exact ⟨rfl,hrest⟩
theorem done_ok (b:Nat) (v:Value) (bs:List Int) (most:Int) (w:World) (h:WrS w b v bs most 0) (hcap:bs.length≤1099511627776) :
  Calls Tryz.prog 175 #[.pointer (some ⟨b,0,none⟩)] w fun e w'=>∃ v',e=.returned (.tuple #[v',.int .i64 0])∧w'.ownsRow w.heap.size 5 1 v' bs.length (bytesOf bs)∧Touch (fun _=>False) w w':=by
 have h0:=h.made
 have h1:=h.row
 have h3:=h.err
 rcases h.own.2 with ⟨rfl,e⟩ | ⟨g,cap,cur,rfl,hbg,hg,hnc,hcm,hcs,htake⟩
 ·obtain rfl:bs=[]:=List.eq_nil_of_length_eq_zero e
  go_enter Tryz.func175,Tryz.ntmps175
  go_wp2_with (first | (go_at_call 198; refine (whole_any _ 0 _ (by assumption) (by assumption)).mono ?_; rintro e w' ⟨rfl,rfl⟩) | (go_at_call 201; refine (clone_nil _).mono ?_; rintro e w' ⟨rfl,rfl⟩))
  go_ret2
  exact ⟨_,rfl,World.ownsRow_nil _ _ _ _,Touch.refl _ _⟩
 ·have hs:∀ j u,(bytesOf bs)[j]?=some u→w.cell? ((⟨g,0,none⟩:Addr).add j)=some u:=h.own.cells (g:=g) rfl
  go_enter Tryz.func175,Tryz.ntmps175
  go_wp2_with (first | (go_at_call 198; refine (whole_any _ 0 _ (by assumption) (by assumption)).mono ?_; rintro e w' ⟨rfl,rfl⟩) | (go_at_call 201; refine (clone_some _ _ bs _ hs hcap).mono ?_; rintro e w' ⟨v',rfl,hown,ht,hne⟩))
  go_ret2
  exact ⟨_,rfl,hown,ht⟩
theorem own_form {w:World} {base:Nat} {e:TypeId} {size:Nat} {v:Value} {n:Nat} {xs:List Value} (h:w.ownsRow base e size v n xs):∃ a c,v=.slice a n c:=by
 rcases h.2 with ⟨rfl,rfl⟩ | ⟨g,cap,cur,rfl,_⟩
 ·exact ⟨_,_,rfl⟩
 ·exact ⟨_,_,rfl⟩
def putB (bs:List Int) (most err:Int) (ns:List Int):List Int:=if err=0∧(bs.length:Int)+ns.length≤most then bs ++ ns else bs
def putE (bs:List Int) (most err:Int) (ns:List Int):Int:=if err=0 then (if (bs.length:Int)+ns.length≤most then 0 else 11) else err
def Moved (w:World) (v v':Value):Prop:=v'.ownBlock=v.ownBlock∨∃ g,v'.ownBlock=some g∧w.heap.size≤g
theorem WrS.setErr {w:World} {b:Nat} {v:Value} {bs:List Int} {most err:Int} (h:WrS w b v bs most err) (q:Int):WrS (w.setCell ⟨b,3,none⟩ (.int .i64 q)) b v bs most q:=by
 exact ⟨by simp [h.made,go_sem],by simp [h.row,go_sem],by simp [h.most,go_sem],by simp [h.err,go_sem],by simp [h.f1,go_sem],by simp [h.f3,go_sem],own_setCell h.own (Nat.lt_succ_self b) _⟩
theorem WrS.touchErr {w:World} {b:Nat} {v:Value} (q:Value):Touch (wrF b v) w (w.setCell ⟨b,3,none⟩ q):=Touch.setCell (F:=wrF b v) (p:=⟨b,3,none⟩) (Touch.refl _ w) (Or.inl (Or.inl rfl)) _
theorem wrefuse_any (b:Nat) (q err:Int) (w:World) (h3:w.cell? ⟨b,3,none⟩=some (.int .i64 err)) (hf:w.frozen? ⟨b,3,none⟩=false) :
  Calls Tryz.prog 199 #[.pointer (some ⟨b,0,none⟩),.int .i64 q] w fun e w'=>e=.returned (.pointer (some ⟨b,0,none⟩))∧w.setCell ⟨b,3,none⟩ (.int .i64 q)=w':=by
 go_enter Tryz.func199,Tryz.ntmps199
 go_wp2
 go_ret
 exact ⟨rfl,rfl⟩
theorem put_dead (b:Nat) (v:Value) (bs:List Int) (most err:Int) (s:Value) (w:World) (h:WrS w b v bs most err) (he:¬ err=0) :
  Calls Tryz.prog 174 #[.pointer (some ⟨b,0,none⟩),s] w fun e w'=>e=.returned (.pointer (some ⟨b,0,none⟩))∧w=w':=by
 have h0:=h.made
 have h3:=h.err
 have he':(err == 0)=false:=by simpa using he
 go_enter Tryz.func174,Tryz.ntmps174
 go_wp2_with (go_at_call 198; refine (whole_any _ err _ h0 h3).mono ?_; rintro e w' ⟨rfl,rfl⟩)
 go_ret
 exact ⟨rfl,rfl⟩
theorem put_long (b:Nat) (v:Value) (bs:List Int) (most:Int) (a:Option Addr) (m c:Nat) (w:World) (h:WrS w b v bs most 0) (hfit:most<(bs.length:Int)+m) (hcap:bs.length+m≤1099511627776) :
  Calls Tryz.prog 174 #[.pointer (some ⟨b,0,none⟩),.slice a m c] w fun e w'=>e=.returned (.pointer (some ⟨b,0,none⟩))∧∃ n,(w.drewN n).setCell ⟨b,3,none⟩ (.int .i64 11)=w':=by
 have h0:=h.made
 have h1:=h.row
 have h2:=h.most
 have h3:=h.err
 have hf:=h.f3
 have hlt:=lt_of_cell h0
 obtain ⟨va,vc,rfl⟩:=own_form h.own
 clear h
 go_enter Tryz.func174,Tryz.ntmps174
 go_wp2_with (go_at_call 198; refine (whole_any _ 0 _ h0 h3).mono ?_; rintro e w' ⟨rfl,rfl⟩)
 go_quiet (fail)
 go_wp2_with (go_at_call 199; refine (wrefuse_any _ _ 0 _ (by simpa using h3) (by simpa using hf)).mono ?_; rintro e w' ⟨rfl,rfl⟩)
 go_ret
 exact ⟨rfl,_,rfl⟩
theorem put_all (b:Nat) (v:Value) (bs:List Int) (most err:Int) (ad:Addr) (c:Nat) (ns:List Int) (w:World) (h:WrS w b v bs most err) (hs:∀ j u,(bytesOf ns)[j]?=some u→w.cell? (ad.add j)=some u) (hcap:bs.length+ns.length≤1099511627776) :
  Calls Tryz.prog 174 #[.pointer (some ⟨b,0,none⟩),.slice (some ad) ns.length c] w fun e w'=>e=.returned (.pointer (some ⟨b,0,none⟩)) ∧
   ∃ v',WrS w' b v' (putB bs most err ns) most (putE bs most err ns)∧Touch (wrF b v) w w'∧Moved w v v':=by
 by_cases he:err=0
 ·subst he
  by_cases hfit:(bs.length:Int)+ns.length≤most
  ·refine (put_ok b v bs most ad c ns w h hs hfit hcap).mono ?_
   rintro e w' ⟨rfl,v',h1,h2,h3⟩
   exact ⟨rfl,v',by simpa [putB,putE,hfit] using h1,h2,h3⟩
  ·refine (put_long b v bs most (some ad) ns.length c w h (by omega) hcap).mono ?_
   rintro e w' ⟨rfl,n,rfl⟩
   refine ⟨rfl,v,?_,?_,Or.inl rfl⟩
   ·simpa [putB,putE,hfit] using (h.drewN n).setErr 11
   ·exact ((Touch.refl _ w).drewN n).trans (WrS.touchErr _)
 ·refine (put_dead b v bs most err _ w h he).mono ?_
  rintro e w' ⟨rfl,rfl⟩
  exact ⟨rfl,v,by simpa [putB,putE,he] using h,Touch.refl _ _,Or.inl rfl⟩
theorem spell_dead (b:Nat) (x n err:Int) (f:Value) (w:World) (h0:w.cell? ⟨b,0,none⟩=some (.bool true)) (h3:w.cell? ⟨b,3,none⟩=some (.int .i64 err)) (he:(err == 0)=false) :
  Calls Tryz.prog 228 #[.pointer (some ⟨b,0,none⟩),.int .u32 x,.int .i64 n,f] w fun e w'=>e=.returned (.pointer (some ⟨b,0,none⟩))∧w=w':=by
 go_enter Tryz.func228,Tryz.ntmps228
 go_wp2_with (go_at_call 198; refine (whole_any _ err _ h0 h3).mono ?_; rintro e w' ⟨rfl,rfl⟩)
 go_ret
 exact ⟨rfl,rfl⟩
theorem wnumber_dead (b:Nat) (v:Value) (bs:List Int) (most err:Int) (x n:Int) (w:World) (h:WrS w b v bs most err) (he:¬ err=0) :
  Calls Tryz.prog 197 #[.pointer (some ⟨b,0,none⟩),.int .u32 x,.int .i64 n] w fun e w'=>e=.returned (.pointer (some ⟨b,0,none⟩))∧w=w':=by
 have hmf:∀ (fn:Fn) (first cap:Array Value) (w:World),(Instr.makeFunc fn first cap).run Tryz.prog w=.ok (.func fn first cap) w:=fun _ _ _ _=>rfl
 go_enter Tryz.func197,Tryz.ntmps197
 go_wp2_with (go_at_call 228; refine (spell_dead _ _ _ err _ _ h.made h.err (by simpa using he)).mono ?_; rintro e w' ⟨rfl,rfl⟩)
 go_ret
 exact ⟨rfl,rfl⟩
theorem wnumber_put1 (b:Nat) (v:Value) (bs:List Int) (most:Int) (x:Int) (w:World) (h:WrS w b v bs most 0) (hx:0≤x∧x<256) (hcap:bs.length≤1048576) :
  Calls Tryz.prog 197 #[.pointer (some ⟨b,0,none⟩),.int .u32 x,.int .i64 1] w fun e w'=>e=.returned (.pointer (some ⟨b,0,none⟩)) ∧
   ∃ v',WrS w' b v' (putB bs most 0 (numBytes 1 x)) most (putE bs most 0 (numBytes 1 x))∧Touch (wrF b v) w w'∧Moved w v v':=by
 obtain ⟨hx0,hx1⟩:=hx
 have hmf:∀ (fn:Fn) (first cap:Array Value) (w:World),(Instr.makeFunc fn first cap).run Tryz.prog w=.ok (.func fn first cap) w:=fun _ _ _ _=>rfl
 have h0:=h.made
 have h3:=h.err
 have HN:Hid (numBytes 1 x=[x]):=by show _=_; simp [numBytes]; omega
 go_enter Tryz.func197,Tryz.ntmps197
 go_wp2_with (first | (go_at_call 198; refine (whole_any _ 0 _ (by assumption) (by assumption)).mono ?_; rintro e w' ⟨rfl,rfl⟩) | (go_at_call 228; go_in))
 refine (put_all b v bs most 0 ⟨w.heap.size,3,none⟩ 1 [x] _ (h.alloc _) (src_new _ _ _ _ _ (by simp [bytesOf])) (by simp; omega)).mono ?_
 rintro e w' ⟨rfl,v',hw,ht,ha⟩
 clear hmf h0 h3
 go_wp2
 go_ret
 rw [HN.out]
 refine ⟨rfl,v',hw,((Touch.refl _ _).alloc _).trans ht,?_⟩
 rcases ha with ha | ⟨g,hg,hl⟩
 ·exact Or.inl ha
 ·exact Or.inr ⟨g,hg,by simp at hl; omega⟩
theorem wnumber_put2 (b:Nat) (v:Value) (bs:List Int) (most:Int) (x:Int) (w:World) (h:WrS w b v bs most 0) (hx:0≤x∧x<65536) (hcap:bs.length≤1048576) :
  Calls Tryz.prog 197 #[.pointer (some ⟨b,0,none⟩),.int .u32 x,.int .i64 2] w fun e w'=>e=.returned (.pointer (some ⟨b,0,none⟩)) ∧
   ∃ v',WrS w' b v' (putB bs most 0 (numBytes 2 x)) most (putE bs most 0 (numBytes 2 x))∧Touch (wrF b v) w w'∧Moved w v v':=by
 obtain ⟨hx0,hx1⟩:=hx
 have hmf:∀ (fn:Fn) (first cap:Array Value) (w:World),(Instr.makeFunc fn first cap).run Tryz.prog w=.ok (.func fn first cap) w:=fun _ _ _ _=>rfl
 have h0:=h.made
 have h3:=h.err
 have HN:Hid (numBytes 2 x=[x / 256,x % 256]):=by show _=_; simp [numBytes]; omega
 go_enter Tryz.func197,Tryz.ntmps197
 go_wp2_with (first | (go_at_call 198; refine (whole_any _ 0 _ (by assumption) (by assumption)).mono ?_; rintro e w' ⟨rfl,rfl⟩) | (go_at_call 228; go_in))
 refine (put_all b v bs most 0 ⟨w.heap.size,2,none⟩ 2 [x / 256,x % 256] _ (h.alloc _) (src_new _ _ _ _ _ (by simp [bytesOf])) (by simp; omega)).mono ?_
 rintro e w' ⟨rfl,v',hw,ht,ha⟩
 clear hmf h0 h3
 go_wp2
 go_ret
 rw [HN.out]
 refine ⟨rfl,v',hw,((Touch.refl _ _).alloc _).trans ht,?_⟩
 rcases ha with ha | ⟨g,hg,hl⟩
 ·exact Or.inl ha
 ·exact Or.inr ⟨g,hg,by simp at hl; omega⟩
theorem wnumber_put3 (b:Nat) (v:Value) (bs:List Int) (most:Int) (x:Int) (w:World) (h:WrS w b v bs most 0) (hx:0≤x∧x<16777216) (hcap:bs.length≤1048576) :
  Calls Tryz.prog 197 #[.pointer (some ⟨b,0,none⟩),.int .u32 x,.int .i64 3] w fun e w'=>e=.returned (.pointer (some ⟨b,0,none⟩)) ∧
   ∃ v',WrS w' b v' (putB bs most 0 (numBytes 3 x)) most (putE bs most 0 (numBytes 3 x))∧Touch (wrF b v) w w'∧Moved w v v':=by
 obtain ⟨hx0,hx1⟩:=hx
 have hmf:∀ (fn:Fn) (first cap:Array Value) (w:World),(Instr.makeFunc fn first cap).run Tryz.prog w=.ok (.func fn first cap) w:=fun _ _ _ _=>rfl
 have h0:=h.made
 have h3:=h.err
 have HN:Hid (numBytes 3 x=[x / 65536,x / 256 % 256,x % 256]):=by show _=_; simp [numBytes]; omega
 go_enter Tryz.func197,Tryz.ntmps197
 go_wp2_with (first | (go_at_call 198; refine (whole_any _ 0 _ (by assumption) (by assumption)).mono ?_; rintro e w' ⟨rfl,rfl⟩) | (go_at_call 228; go_in))
 refine (put_all b v bs most 0 ⟨w.heap.size,1,none⟩ 3 [x / 65536,x / 256 % 256,x % 256] _ (h.alloc _) (src_new _ _ _ _ _ (by simp [bytesOf])) (by simp; omega)).mono ?_
 rintro e w' ⟨rfl,v',hw,ht,ha⟩
 clear hmf h0 h3
 go_wp2
 go_ret
 rw [HN.out]
 refine ⟨rfl,v',hw,((Touch.refl _ _).alloc _).trans ht,?_⟩
 rcases ha with ha | ⟨g,hg,hl⟩
 ·exact Or.inl ha
 ·exact Or.inr ⟨g,hg,by simp at hl; omega⟩
theorem wnumber_put4 (b:Nat) (v:Value) (bs:List Int) (most:Int) (x:Int) (w:World) (h:WrS w b v bs most 0) (hx:0≤x∧x<4294967296) (hcap:bs.length≤1048576) :
  Calls Tryz.prog 197 #[.pointer (some ⟨b,0,none⟩),.int .u32 x,.int .i64 4] w fun e w'=>e=.returned (.pointer (some ⟨b,0,none⟩)) ∧
   ∃ v',WrS w' b v' (putB bs most 0 (numBytes 4 x)) most (putE bs most 0 (numBytes 4 x))∧Touch (wrF b v) w w'∧Moved w v v':=by
 obtain ⟨hx0,hx1⟩:=hx
 have hmf:∀ (fn:Fn) (first cap:Array Value) (w:World),(Instr.makeFunc fn first cap).run Tryz.prog w=.ok (.func fn first cap) w:=fun _ _ _ _=>rfl
 have h0:=h.made
 have h3:=h.err
 have HN:Hid (numBytes 4 x=[x / 16777216,x / 65536 % 256,x / 256 % 256,x % 256]):=by show _=_; simp [numBytes]; omega
 go_enter Tryz.func197,Tryz.ntmps197
 go_wp2_with (first | (go_at_call 198; refine (whole_any _ 0 _ (by assumption) (by assumption)).mono ?_; rintro e w' ⟨rfl,rfl⟩) | (go_at_call 228; go_in))
 refine (put_all b v bs most 0 ⟨w.heap.size,0,none⟩ 4 [x / 16777216,x / 65536 % 256,x / 256 % 256,x % 256] _ (h.alloc _) (src_new _ _ _ _ _ (by simp [bytesOf])) (by simp; omega)).mono ?_
 rintro e w' ⟨rfl,v',hw,ht,ha⟩
 clear hmf h0 h3
 go_wp2
 go_ret
 rw [HN.out]
 refine ⟨rfl,v',hw,((Touch.refl _ _).alloc _).trans ht,?_⟩
 rcases ha with ha | ⟨g,hg,hl⟩
 ·exact Or.inl ha
 ·exact Or.inr ⟨g,hg,by simp at hl; omega⟩
end Go.Proofs.YtddbffoiadmffaaGreat
