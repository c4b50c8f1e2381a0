import Derived.Test.YtddbffoiadmffaaGreatKeep
namespace Go.Proofs.YtddbffoiadmffaaGreat
set_option maxHeartbeats 8000000
open Go.RowKit
set_option linter.unusedVariables false
set_option maxRecDepth 100000
def putB (bs:List Int) (most err:Int) (ns:List Int):List Int:=if err=0∧(bs.length:Int)+ns.length≤most then bs++ns else bs
def putE (bs:List Int) (most err:Int) (ns:List Int):Int:=if err=0 then (if (bs.length:Int)+ns.length≤most then 0 else 11) else err
def Moved (w:World) (v v':Value):Prop:=v'.ownBlock=v.ownBlock∨∃g,v'.ownBlock=some g∧w.heap.size≤g
theorem WrS.setErr {w:World} {b:Nat} {v:Value} {bs:List Int} {most err:Int} (h:WrS w b v bs most err) (q:Int):WrS (w.setCell ⟨b,3,none⟩ (.int .i64 q)) b v bs most q:=by
 exact⟨by simp [h.made,go_sem],by simp [h.row,go_sem],by simp [h.most,go_sem],by simp [h.err,go_sem],by simp [h.f1,go_sem],by simp [h.f3,go_sem],Qbf h.own (Nat.lt_succ_self b) _⟩
theorem WrS.touchErr {w:World} {b:Nat} {v:Value} (q:Value):Touch (wrF b v) w (w.setCell ⟨b,3,none⟩ q):=Touch.setCell (F:=wrF b v) (p:=⟨b,3,none⟩) (Touch.refl _ w) (Or.inl (Or.inl rfl)) _
theorem Qi2 (b:Nat) (q err:Int) (w:World) (h3:w.cell? ⟨b,3,none⟩=some (.int .i64 err)) (hf:w.frozen? ⟨b,3,none⟩=false) :
  Calls Tryz.prog 199 #[.pointer (some ⟨b,0,none⟩),.int .i64 q] w fun e w'=>e=.returned (.pointer (some ⟨b,0,none⟩))∧w.setCell ⟨b,3,none⟩ (.int .i64 q)=w':=by
 go_enter Tryz.func199,Tryz.ntmps199
 go_wp2
 go_ret
 exact⟨rfl,rfl⟩
theorem Qgj (b:Nat) (v:Value) (bs:List Int) (most err:Int) (s:Value) (w:World) (h:WrS w b v bs most err) (he:¬err=0) :
  Calls Tryz.prog 174 #[.pointer (some ⟨b,0,none⟩),s] w fun e w'=>e=.returned (.pointer (some ⟨b,0,none⟩))∧w=w':=by
 have h0:=h.made
 have h3:=h.err
 have he':(err==0)=false:=by simpa using he
 go_enter Tryz.func174,Tryz.ntmps174
 go_wp2_with (go_at_call 198;refine (Qa8 _ err _ h0 h3).mono ?_;rintro e w' ⟨rfl,rfl⟩)
 go_ret
 exact⟨rfl,rfl⟩
theorem Qpe (b:Nat) (v:Value) (bs:List Int) (most:Int) (a:Option Addr) (m c:Nat) (w:World) (h:WrS w b v bs most 0) (hfit:most<(bs.length:Int)+m) (hcap:bs.length+m≤1099511627776) :
  Calls Tryz.prog 174 #[.pointer (some ⟨b,0,none⟩),.slice a m c] w fun e w'=>e=.returned (.pointer (some ⟨b,0,none⟩))∧∃n,(w.drewN n).setCell ⟨b,3,none⟩ (.int .i64 11)=w':=by
 have h0:=h.made
 have h1:=h.row
 have h2:=h.most
 have h3:=h.err
 have hf:=h.f3
 have hlt:=Qaa h0
 obtain⟨va,vc,rfl⟩:=Qop h.own
 clear h
 go_enter Tryz.func174,Tryz.ntmps174
 go_wp2_with (go_at_call 198;refine (Qa8 _ 0 _ h0 h3).mono ?_;rintro e w' ⟨rfl,rfl⟩)
 go_quiet (fail)
 go_wp2_with (go_at_call 199;refine (Qi2 _ _ 0 _ (by simpa using h3) (by simpa using hf)).mono ?_;rintro e w' ⟨rfl,rfl⟩)
 go_ret
 exact⟨rfl,_,rfl⟩
theorem Qer (b:Nat) (v:Value) (bs:List Int) (most err:Int) (ad:Addr) (c:Nat) (ns:List Int) (w:World) (h:WrS w b v bs most err) (hs:∀j u,(bytesOf ns)[j]?=some u→w.cell? (ad.add j)=some u) (hcap:bs.length+ns.length≤1099511627776) :
  Calls Tryz.prog 174 #[.pointer (some ⟨b,0,none⟩),.slice (some ad) ns.length c] w fun e w'=>e=.returned (.pointer (some ⟨b,0,none⟩)) ∧
   ∃v',WrS w' b v' (putB bs most err ns) most (putE bs most err ns)∧Touch (wrF b v) w w'∧Moved w v v':=by
 by_cases he:err=0
 ·subst he
  by_cases hfit:(bs.length:Int)+ns.length≤most
  ·refine (Qvu b v bs most ad c ns w h hs hfit hcap).mono ?_
   rintro e w' ⟨rfl,v',h1,h2,h3⟩
   exact⟨rfl,v',by simpa [putB,putE,hfit] using h1,h2,h3⟩
  ·refine (Qpe b v bs most (some ad) ns.length c w h (by omega) hcap).mono ?_
   rintro e w' ⟨rfl,n,rfl⟩
   refine⟨rfl,v,?_,?_,Or.inl rfl⟩
   ·simpa [putB,putE,hfit] using (h.drewN n).setErr 11
   ·exact ((Touch.refl _ w).drewN n).trans (WrS.touchErr _)
 ·refine (Qgj b v bs most err _ w h he).mono ?_
  rintro e w' ⟨rfl,rfl⟩
  exact⟨rfl,v,by simpa [putB,putE,he] using h,Touch.refl _ _,Or.inl rfl⟩
theorem Qlm (b:Nat) (x n err:Int) (f:Value) (w:World) (h0:w.cell? ⟨b,0,none⟩=some (.bool true)) (h3:w.cell? ⟨b,3,none⟩=some (.int .i64 err)) (he:(err==0)=false) :
  Calls Tryz.prog 228 #[.pointer (some ⟨b,0,none⟩),.int .u32 x,.int .i64 n,f] w fun e w'=>e=.returned (.pointer (some ⟨b,0,none⟩))∧w=w':=by
 go_enter Tryz.func228,Tryz.ntmps228
 go_wp2_with (go_at_call 198;refine (Qa8 _ err _ h0 h3).mono ?_;rintro e w' ⟨rfl,rfl⟩)
 go_ret
 exact⟨rfl,rfl⟩
theorem Qgu (b:Nat) (v:Value) (bs:List Int) (most err:Int) (x n:Int) (w:World) (h:WrS w b v bs most err) (he:¬err=0) :
  Calls Tryz.prog 197 #[.pointer (some ⟨b,0,none⟩),.int .u32 x,.int .i64 n] w fun e w'=>e=.returned (.pointer (some ⟨b,0,none⟩))∧w=w':=by
 have hmf:∀(fn:Fn) (first cap:Array Value) (w:World),(Instr.makeFunc fn first cap).run Tryz.prog w=.ok (.func fn first cap) w:=fun _ _ _ _=>rfl
 go_enter Tryz.func197,Tryz.ntmps197
 go_wp2_with (go_at_call 228;refine (Qlm _ _ _ err _ _ h.made h.err (by simpa using he)).mono ?_;rintro e w' ⟨rfl,rfl⟩)
 go_ret
 exact⟨rfl,rfl⟩
theorem Qg0 (b:Nat) (v:Value) (bs:List Int) (most:Int) (x:Int) (w:World) (h:WrS w b v bs most 0) (hx:0≤x∧x<256) (hcap:bs.length≤1048576) :
  Calls Tryz.prog 197 #[.pointer (some ⟨b,0,none⟩),.int .u32 x,.int .i64 1] w fun e w'=>e=.returned (.pointer (some ⟨b,0,none⟩)) ∧
   ∃v',WrS w' b v' (putB bs most 0 (numBytes 1 x)) most (putE bs most 0 (numBytes 1 x))∧Touch (wrF b v) w w'∧Moved w v v':=by
 obtain⟨hx0,hx1⟩:=hx
 have hmf:∀(fn:Fn) (first cap:Array Value) (w:World),(Instr.makeFunc fn first cap).run Tryz.prog w=.ok (.func fn first cap) w:=fun _ _ _ _=>rfl
 have h0:=h.made
 have h3:=h.err
 have HN:Hid (numBytes 1 x=[x]):=by show _=_;simp [numBytes];omega
 go_enter Tryz.func197,Tryz.ntmps197
 go_wp2_with (first|(go_at_call 198;refine (Qa8 _ 0 _ (by assumption) (by assumption)).mono ?_;rintro e w' ⟨rfl,rfl⟩)|(go_at_call 228;go_in))
 refine (Qer b v bs most 0 ⟨w.heap.size,3,none⟩ 1 [x] _ (h.alloc _) (Qgk _ _ _ _ _ (by simp [bytesOf])) (by simp;omega)).mono ?_
 rintro e w' ⟨rfl,v',hw,ht,ha⟩
 clear hmf h0 h3
 go_wp2
 go_ret
 rw [HN.out]
 refine⟨rfl,v',hw,((Touch.refl _ _).alloc _).trans ht,?_⟩
 rcases ha with ha|⟨g,hg,hl⟩
 ·exact Or.inl ha
 ·exact Or.inr ⟨g,hg,by simp at hl;omega⟩
theorem Qhi (b:Nat) (v:Value) (bs:List Int) (most:Int) (x:Int) (w:World) (h:WrS w b v bs most 0) (hx:0≤x∧x<65536) (hcap:bs.length≤1048576) :
  Calls Tryz.prog 197 #[.pointer (some ⟨b,0,none⟩),.int .u32 x,.int .i64 2] w fun e w'=>e=.returned (.pointer (some ⟨b,0,none⟩)) ∧
   ∃v',WrS w' b v' (putB bs most 0 (numBytes 2 x)) most (putE bs most 0 (numBytes 2 x))∧Touch (wrF b v) w w'∧Moved w v v':=by
 obtain⟨hx0,hx1⟩:=hx
 have hmf:∀(fn:Fn) (first cap:Array Value) (w:World),(Instr.makeFunc fn first cap).run Tryz.prog w=.ok (.func fn first cap) w:=fun _ _ _ _=>rfl
 have h0:=h.made
 have h3:=h.err
 have HN:Hid (numBytes 2 x=[x/256,x%256]):=by show _=_;simp [numBytes];omega
 go_enter Tryz.func197,Tryz.ntmps197
 go_wp2_with (first|(go_at_call 198;refine (Qa8 _ 0 _ (by assumption) (by assumption)).mono ?_;rintro e w' ⟨rfl,rfl⟩)|(go_at_call 228;go_in))
 refine (Qer b v bs most 0 ⟨w.heap.size,2,none⟩ 2 [x/256,x%256] _ (h.alloc _) (Qgk _ _ _ _ _ (by simp [bytesOf])) (by simp;omega)).mono ?_
 rintro e w' ⟨rfl,v',hw,ht,ha⟩
 clear hmf h0 h3
 go_wp2
 go_ret
 rw [HN.out]
 refine⟨rfl,v',hw,((Touch.refl _ _).alloc _).trans ht,?_⟩
 rcases ha with ha|⟨g,hg,hl⟩
 ·exact Or.inl ha
 ·exact Or.inr ⟨g,hg,by simp at hl;omega⟩
theorem Qgp (b:Nat) (v:Value) (bs:List Int) (most:Int) (x:Int) (w:World) (h:WrS w b v bs most 0) (hx:0≤x∧x<16777216) (hcap:bs.length≤1048576) :
  Calls Tryz.prog 197 #[.pointer (some ⟨b,0,none⟩),.int .u32 x,.int .i64 3] w fun e w'=>e=.returned (.pointer (some ⟨b,0,none⟩)) ∧
   ∃v',WrS w' b v' (putB bs most 0 (numBytes 3 x)) most (putE bs most 0 (numBytes 3 x))∧Touch (wrF b v) w w'∧Moved w v v':=by
 obtain⟨hx0,hx1⟩:=hx
 have hmf:∀(fn:Fn) (first cap:Array Value) (w:World),(Instr.makeFunc fn first cap).run Tryz.prog w=.ok (.func fn first cap) w:=fun _ _ _ _=>rfl
 have h0:=h.made
 have h3:=h.err
 have HN:Hid (numBytes 3 x=[x/65536,x/256%256,x%256]):=by show _=_;simp [numBytes];omega
 go_enter Tryz.func197,Tryz.ntmps197
 go_wp2_with (first|(go_at_call 198;refine (Qa8 _ 0 _ (by assumption) (by assumption)).mono ?_;rintro e w' ⟨rfl,rfl⟩)|(go_at_call 228;go_in))
 refine (Qer b v bs most 0 ⟨w.heap.size,1,none⟩ 3 [x/65536,x/256%256,x%256] _ (h.alloc _) (Qgk _ _ _ _ _ (by simp [bytesOf])) (by simp;omega)).mono ?_
 rintro e w' ⟨rfl,v',hw,ht,ha⟩
 clear hmf h0 h3
 go_wp2
 go_ret
 rw [HN.out]
 refine⟨rfl,v',hw,((Touch.refl _ _).alloc _).trans ht,?_⟩
 rcases ha with ha|⟨g,hg,hl⟩
 ·exact Or.inl ha
 ·exact Or.inr ⟨g,hg,by simp at hl;omega⟩
theorem Qhm (b:Nat) (v:Value) (bs:List Int) (most:Int) (x:Int) (w:World) (h:WrS w b v bs most 0) (hx:0≤x∧x<4294967296) (hcap:bs.length≤1048576) :
  Calls Tryz.prog 197 #[.pointer (some ⟨b,0,none⟩),.int .u32 x,.int .i64 4] w fun e w'=>e=.returned (.pointer (some ⟨b,0,none⟩)) ∧
   ∃v',WrS w' b v' (putB bs most 0 (numBytes 4 x)) most (putE bs most 0 (numBytes 4 x))∧Touch (wrF b v) w w'∧Moved w v v':=by
 obtain⟨hx0,hx1⟩:=hx
 have hmf:∀(fn:Fn) (first cap:Array Value) (w:World),(Instr.makeFunc fn first cap).run Tryz.prog w=.ok (.func fn first cap) w:=fun _ _ _ _=>rfl
 have h0:=h.made
 have h3:=h.err
 have HN:Hid (numBytes 4 x=[x/16777216,x/65536%256,x/256%256,x%256]):=by show _=_;simp [numBytes];omega
 go_enter Tryz.func197,Tryz.ntmps197
 go_wp2_with (first|(go_at_call 198;refine (Qa8 _ 0 _ (by assumption) (by assumption)).mono ?_;rintro e w' ⟨rfl,rfl⟩)|(go_at_call 228;go_in))
 refine (Qer b v bs most 0 ⟨w.heap.size,0,none⟩ 4 [x/16777216,x/65536%256,x/256%256,x%256] _ (h.alloc _) (Qgk _ _ _ _ _ (by simp [bytesOf])) (by simp;omega)).mono ?_
 rintro e w' ⟨rfl,v',hw,ht,ha⟩
 clear hmf h0 h3
 go_wp2
 go_ret
 rw [HN.out]
 refine⟨rfl,v',hw,((Touch.refl _ _).alloc _).trans ht,?_⟩
 rcases ha with ha|⟨g,hg,hl⟩
 ·exact Or.inl ha
 ·exact Or.inr ⟨g,hg,by simp at hl;omega⟩
def Kept (X:Nat→Prop) (w w':World):Prop:=Touch (fun k=>¬X k) w w'
theorem Kept.refl (X:Nat→Prop) (w:World):Kept X w w:=Touch.refl _ w
theorem Kept.trans {X:Nat→Prop} {a b c:World} (h:Kept X a b) (k:Kept X b c):Kept X a c:=Touch.trans h k
theorem Kept.less {X Y:Nat→Prop} {a b:World} (h:Kept X a b) (hY:∀k,k<a.heap.size→Y k→X k):Kept Y a b:=Touch.mono h (fun k hk hx hy=>hx (hY k hk hy))
theorem Kept.of {X:Nat→Prop} {a b:World} (t:Touch (fun _=>False) a b):Kept X a b:=Touch.mono t (fun _ _ h=>h.elim)
theorem Kept.cell {X:Nat→Prop} {a b:World} (h:Kept X a b) {p:Addr} {v:Value} (hc:a.cell? p=some v) (hx:X p.block):b.cell? p=some v:=(Touch.cell h (Qci hc) (fun n=>n hx)).trans hc
theorem Kept.after {X:Nat→Prop} {a b c:World} (k:Kept X b c) (t:Touch (fun _=>False) a b) (h:∀i,i<a.heap.size→X i):Touch (fun _=>False) a c:=Touch.trans' t k (fun i hi hf=>hf (h i hi))
structure Wr (X:Nat→Prop) (w:World) (b:Nat) (L:List Int) (most:Int):Prop where
 out:∃v,(((L.length:Int)≤most∧WrS w b v L most 0)∨(most<(L.length:Int)∧∃bs,WrS w b v bs most 11))∧¬X b∧(∀k,v.ownBlock=some k→¬X k)∧(∀k,X k→k<w.heap.size)
theorem Wr.lt {X:Nat→Prop} {w:World} {b:Nat} {L:List Int} {most:Int} (h:Wr X w b L most):b<w.heap.size:=by
 obtain⟨v,⟨_,h⟩|⟨_,bs,h⟩,_⟩:=h
 ·exact Qaa h.made
 ·exact Qaa h.made
theorem WrS.own_lt {w:World} {b:Nat} {v:Value} {bs:List Int} {most err:Int} (h:WrS w b v bs most err) {k:Nat} (hk:v.ownBlock=some k):k<w.heap.size:=(h.own.lt k hk).2
theorem Wr.touch {X F:Nat→Prop} {w w':World} {b:Nat} {L:List Int} {most:Int} (h:Wr X w b L most) (t:Touch F w w') (hF:∀k,F k→X k):Wr X w' b L most:=by
 obtain⟨v,h,hb,ho,hX⟩:=h
 refine⟨v,?_,hb,ho,fun k hk=>Nat.lt_of_lt_of_le (hX k hk) t.size⟩
 rcases h with⟨hl,h⟩|⟨hl,bs,h⟩
 ·exact Or.inl ⟨hl,h.touch t (fun f=>hb (hF b f)) (fun k hk f=>ho k hk (hF k f))⟩
 ·exact Or.inr ⟨hl,bs,h.touch t (fun f=>hb (hF b f)) (fun k hk f=>ho k hk (hF k f))⟩
theorem Wr.keep {X:Nat→Prop} {w w':World} {b:Nat} {L:List Int} {most:Int} (h:Wr X w b L most) (t:Touch (fun _=>False) w w'):Wr X w' b L most:=h.touch t (fun _ h=>h.elim)
theorem Wr.more {X Y:Nat→Prop} {w w':World} {b:Nat} {L:List Int} {most:Int} (h:Wr X w b L most) (t:Touch (fun _=>False) w w') (hY:∀k,Y k→X k∨(w.heap.size≤k∧k<w'.heap.size)):Wr Y w' b L most:=by
 have hl:=h.lt
 obtain⟨v,h,hb,ho,hX⟩:=h
 have hs:=t.size
 refine⟨v,?_,fun hy=>?_,fun k hk hy=>?_,fun k hk=>?_⟩
 ·rcases h with⟨hl,h⟩|⟨hl,bs,h⟩
  ·exact Or.inl ⟨hl,h.touch t (fun f=>f) (fun k hk f=>f)⟩
  ·exact Or.inr ⟨hl,bs,h.touch t (fun f=>f) (fun k hk f=>f)⟩
 ·rcases hY b hy with h' | h'
  ·exact hb h'
  ·omega
 ·rcases hY k hy with h' | h'
  ·exact ho k hk h'
  ·have hk':k<w.heap.size:=by
    rcases h with⟨_,h⟩|⟨_,bs,h⟩
    ·exact h.own_lt hk
    ·exact h.own_lt hk
   omega
 ·rcases hY k hk with h' | h'
  ·have:=hX k h';omega
  ·exact h'.2
theorem Wr.less {X Y:Nat→Prop} {w:World} {b:Nat} {L:List Int} {most:Int} (h:Wr X w b L most) (hY:∀k,Y k→X k):Wr Y w b L most :=
 h.more (Touch.refl _ _) (fun k hk=>Or.inl (hY k hk))
theorem Qd1 {X:Nat→Prop} {w w':World} {b:Nat} {v v':Value} {bs L':List Int} {most err:Int} (h:WrS w b v bs most err) (hb:¬X b) (ho:∀k,v.ownBlock=some k→¬X k) (hX:∀k,X k→k<w.heap.size)
  (t:Touch (wrF b v) w w') (m:Moved w v v') (h':((L'.length:Int)≤most∧WrS w' b v' L' most 0)∨(most<(L'.length:Int)∧∃bs,WrS w' b v' bs most 11)):Wr X w' b L' most∧Kept X w w':=by
 refine⟨⟨v',h',hb,fun k hk hx=>?_,fun k hk=>Nat.lt_of_lt_of_le (hX k hk) t.size⟩,t.mono (fun i _ hi hx=>?_)⟩
 ·rcases m with m|⟨g,hg,hl⟩
  ·exact ho k (m ▸ hk) hx
  ·rw [hg] at hk
   cases hk
   have:=hX _ hx
   omega
 ·rcases hi with hi|hi
  ·exact hb (hi ▸ hx)
  ·exact ho i hi hx
theorem Qih {X:Nat→Prop} {w:World} {b:Nat} {v:Value} {L':List Int} {most:Int} (hb:¬X b) (ho:∀k,v.ownBlock=some k→¬X k) (hX:∀k,X k→k<w.heap.size)
  (h':((L'.length:Int)≤most∧WrS w b v L' most 0)∨(most<(L'.length:Int)∧∃bs,WrS w b v bs most 11)):Wr X w b L' most∧Kept X w w:=⟨⟨v,h',hb,ho,hX⟩,Kept.refl _ _⟩
theorem Qdu {w':World} {b:Nat} {v':Value} {L ns:List Int} {most:Int} (hl:(L.length:Int)≤most) (h':WrS w' b v' (putB L most 0 ns) most (putE L most 0 ns)) :
  (((L++ns).length:Int)≤most∧WrS w' b v' (L++ns) most 0)∨(most<((L++ns).length:Int)∧∃bs,WrS w' b v' bs most 11):=by
 simp only [putB,putE,true_and,if_true] at h'
 rw [List.length_append]
 by_cases hf:(L.length:Int)+ns.length≤most
 ·rw [if_pos hf,if_pos hf] at h'
  exact Or.inl ⟨by push_cast;omega,h'⟩
 ·rw [if_neg hf,if_neg hf] at h'
  exact Or.inr ⟨by push_cast;omega,_,h'⟩
theorem Qsj (most:Int) (w:World) (hm:0≤most) :
  Calls Tryz.prog 172 #[.int .i64 most] w fun e w'=>e=.returned (.pointer (some ⟨w.heap.size,0,none⟩))∧Wr (fun k=>k<w.heap.size) w' w.heap.size [] most∧Touch (fun _=>False) w w':=by
 refine (Qlz most w hm).mono ?_
 rintro e w' ⟨rfl,h,t⟩
 exact⟨rfl,⟨_,Or.inl ⟨by simpa using hm,h⟩,Nat.lt_irrefl _,by simp [Value.ownBlock],fun k hk=>Nat.lt_of_lt_of_le hk t.size⟩,t⟩
theorem Qpr (X:Nat→Prop) (b:Nat) (L:List Int) (most:Int) (ad:Addr) (c:Nat) (ns:List Int) (w:World) (h:Wr X w b L most) (hm:most≤1048576)
  (hs:∀j u,(bytesOf ns)[j]?=some u→w.cell? (ad.add j)=some u) (hn:ns.length≤68719476736) :
  Calls Tryz.prog 174 #[.pointer (some ⟨b,0,none⟩),.slice (some ad) ns.length c] w fun e w'=>e=.returned (.pointer (some ⟨b,0,none⟩))∧Wr X w' b (L++ns) most∧Kept X w w':=by
 obtain⟨v,h,hb,ho,hX⟩:=h
 rcases h with⟨hl,h⟩|⟨hl,bs,h⟩
 ·refine (Qer b v L most 0 ad c ns w h hs (by omega)).mono ?_
  rintro e w' ⟨rfl,v',h',t,m⟩
  exact⟨rfl,Qd1 h hb ho hX t m (Qdu hl h')⟩
 ·refine (Qgj b v bs most 11 _ w h (by omega)).mono ?_
  rintro e w' ⟨rfl,rfl⟩
  exact⟨rfl,Qih hb ho hX (Or.inr ⟨by rw [List.length_append];push_cast;omega,bs,h⟩)⟩
theorem Qpz (X:Nat→Prop) (b:Nat) (L:List Int) (most:Int) (w:World) (h:Wr X w b L most) (hm:most≤1048576) :
  Calls Tryz.prog 174 #[.pointer (some ⟨b,0,none⟩),.slice none 0 0] w fun e w'=>e=.returned (.pointer (some ⟨b,0,none⟩))∧Wr X w' b L most∧Kept X w w':=by
 obtain⟨v,h,hb,ho,hX⟩:=h
 rcases h with⟨hl,h⟩|⟨hl,bs,h⟩
 ·obtain⟨i0,hi,hz0,hz1,hz2⟩:=info_parts Tryz.info5
  have H:=h
  obtain⟨h0,h1,h2,h3,hf1,hf3,hown⟩:=h
  have hlt:=Qaa h0
  obtain⟨va,vc,rfl⟩:∃va vc,v=.slice va L.length vc:=by
   rcases hown.2 with⟨rfl,e⟩|⟨g,cap,cur,rfl,_⟩
   ·exact⟨none,0,by rw [e]⟩
   ·exact⟨_,_,rfl⟩
  have HW:Hid (WrS w b (.slice va L.length vc) L most 0):=H
  have HO:Hid (∀k,(Value.slice va L.length vc).ownBlock=some k→¬X k):=ho
  have HS:∀n,Hid (WrS (w.drewN n) b (.slice va L.length vc) L most 0):=fun n=>H.drewN n
  clear ho
  go_enter Tryz.func174,Tryz.ntmps174
  go_wp2_with (go_at_call 198;refine (Qa8 _ 0 _ (by assumption) (by assumption)).mono ?_;rintro e w' ⟨rfl,rfl⟩)
  go_quiet (fail)
  go_wp2_with (at_builtin;(refine wpList_append_own_none rfl (.tmp 28) (.tmp 29) 55 rfl (b+1) 5 i0 1 Tryz.underlying55 hi (.slice va L.length vc) L.length (bytesOf L) rfl (HS _).out.own rfl ?_))
  have HT:Hid (WrS ((w.drewN nq).setCell ⟨b,1,none⟩ (.slice va L.length vc)) b (.slice va L.length vc) L most 0∧Touch (wrF b (.slice va L.length vc)) (w.drewN nq) ((w.drewN nq).setCell ⟨b,1,none⟩ (.slice va L.length vc))):=Qep (bs':=L) (HS nq).out (World.grownBy.refl _ _) (HS nq).out.own
  clear hown H HS
  go_wp2
  go_ret
  exact⟨rfl,Qd1 HW.out hb HO.out hX (((Touch.refl _ _).drewN nq).trans HT.out.2) (Or.inl rfl) (Or.inl ⟨hl,HT.out.1⟩)⟩
 ·refine (Qgj b v bs most 11 _ w h (by omega)).mono ?_
  rintro e w' ⟨rfl,rfl⟩
  exact⟨rfl,Qih hb ho hX (Or.inr ⟨hl,bs,h⟩)⟩
theorem Qtx (X:Nat→Prop) (b:Nat) (L:List Int) (most:Int) (s:Value) (ns:List Int) (w:World) (h:Wr X w b L most) (hm:most≤1048576) (hs:ArgAt w s ns) (hn:ns.length≤68719476736) :
  Calls Tryz.prog 174 #[.pointer (some ⟨b,0,none⟩),s] w fun e w'=>e=.returned (.pointer (some ⟨b,0,none⟩))∧Wr X w' b (L++ns) most∧Kept X w w':=by
 rcases hs with⟨rfl,rfl⟩|⟨ad,c,rfl,h1,h2,h3⟩
 ·rw [List.append_nil];exact Qpz X b L most w h hm
 ·exact Qpr X b L most ad c ns w h hm h3 hn
theorem Qeg (n:Nat) (hn:n=1∨n=2∨n=3∨n=4) (X:Nat→Prop) (b:Nat) (L:List Int) (most:Int) (x:Int) (w:World) (h:Wr X w b L most) (hm:most≤1048576) (hx:0≤x∧x<256 ^ n) :
  Calls Tryz.prog 197 #[.pointer (some ⟨b,0,none⟩),.int .u32 x,.int .i64 n] w fun e w'=>e=.returned (.pointer (some ⟨b,0,none⟩))∧Wr X w' b (L++numBytes n x) most∧Kept X w w':=by
 obtain⟨v,h,hb,ho,hX⟩:=h
 rcases h with⟨hl,h⟩|⟨hl,bs,h⟩
 ·rcases hn with rfl|rfl|rfl|rfl
  ·refine (Qg0 b v L most x w h (by omega) (by omega)).mono ?_
   rintro e w' ⟨rfl,v',h',t,m⟩
   exact⟨rfl,Qd1 h hb ho hX t m (Qdu hl h')⟩
  ·refine (Qhi b v L most x w h (by omega) (by omega)).mono ?_
   rintro e w' ⟨rfl,v',h',t,m⟩
   exact⟨rfl,Qd1 h hb ho hX t m (Qdu hl h')⟩
  ·refine (Qgp b v L most x w h (by omega) (by omega)).mono ?_
   rintro e w' ⟨rfl,v',h',t,m⟩
   exact⟨rfl,Qd1 h hb ho hX t m (Qdu hl h')⟩
  ·refine (Qhm b v L most x w h (by omega) (by omega)).mono ?_
   rintro e w' ⟨rfl,v',h',t,m⟩
   exact⟨rfl,Qd1 h hb ho hX t m (Qdu hl h')⟩
 ·refine (Qgu b v bs most 11 x n w h (by omega)).mono ?_
  rintro e w' ⟨rfl,rfl⟩
  exact⟨rfl,Qih hb ho hX (Or.inr ⟨by rw [List.length_append];push_cast;omega,bs,h⟩)⟩
theorem Qnx (X:Nat→Prop) (b:Nat) (L:List Int) (most:Int) (x:Int) (w:World) (h:Wr X w b L most) (hm:most≤1048576) (hx:0≤x∧x<256) :
  Calls Tryz.prog 197 #[.pointer (some ⟨b,0,none⟩),.int .u32 x,.int .i64 1] w fun e w'=>e=.returned (.pointer (some ⟨b,0,none⟩))∧Wr X w' b (L++numBytes 1 x) most∧Kept X w w' :=
 Qeg 1 (by omega) X b L most x w h hm (by omega)
theorem Qoe (X:Nat→Prop) (b:Nat) (L:List Int) (most:Int) (x:Int) (w:World) (h:Wr X w b L most) (hm:most≤1048576) (hx:0≤x∧x<65536) :
  Calls Tryz.prog 197 #[.pointer (some ⟨b,0,none⟩),.int .u32 x,.int .i64 2] w fun e w'=>e=.returned (.pointer (some ⟨b,0,none⟩))∧Wr X w' b (L++numBytes 2 x) most∧Kept X w w' :=
 Qeg 2 (by omega) X b L most x w h hm (by omega)
theorem Qmh (X:Nat→Prop) (b:Nat) (L:List Int) (most:Int) (x:Int) (w:World) (h:Wr X w b L most) (hm:most≤1048576) (hx:0≤x∧x<16777216) :
  Calls Tryz.prog 197 #[.pointer (some ⟨b,0,none⟩),.int .u32 x,.int .i64 3] w fun e w'=>e=.returned (.pointer (some ⟨b,0,none⟩))∧Wr X w' b (L++numBytes 3 x) most∧Kept X w w' :=
 Qeg 3 (by omega) X b L most x w h hm (by omega)
theorem Qm5 (X:Nat→Prop) (b:Nat) (L:List Int) (most:Int) (x:Int) (w:World) (h:Wr X w b L most) (hm:most≤1048576) (hx:0≤x∧x<4294967296) :
  Calls Tryz.prog 197 #[.pointer (some ⟨b,0,none⟩),.int .u32 x,.int .i64 4] w fun e w'=>e=.returned (.pointer (some ⟨b,0,none⟩))∧Wr X w' b (L++numBytes 4 x) most∧Kept X w w' :=
 Qeg 4 (by omega) X b L most x w h hm (by omega)
theorem Qu8 (X:Nat→Prop) (b:Nat) (L:List Int) (most:Int) (w:World) (h:Wr X w b L most) (hl:(L.length:Int)≤most) (hm:most≤1048576) :
  Calls Tryz.prog 175 #[.pointer (some ⟨b,0,none⟩)] w fun e w'=>∃v',e=.returned (.tuple #[v',.int .i64 0])∧Buf w w' v' L:=by
 obtain⟨v,⟨_,h⟩|⟨hl',_⟩,_⟩:=h
 ·refine (Quc b v L most w h (by omega)).mono ?_
  rintro e w' ⟨v',rfl,hown,t⟩
  exact⟨v',rfl,⟨hown,t⟩⟩
 ·omega
theorem Qu5 {w:World} {g off c n:Nat} {rs:List Int} (h:RowAt w (.slice (some ⟨g,off,none⟩) n c) rs):n=rs.length∧n≤c∧c≤maxLen:=by
 rcases h with⟨h,_⟩|⟨g',off',c',h,h1,h2,_⟩
 ·cases h
 ·cases h;exact⟨rfl,h1,h2⟩
theorem Qpy {w:World} {g off c n:Nat} {rs:List Int} (h:RowAt w (.slice (some ⟨g,off,none⟩) n c) rs) (m:Nat) (hm:m≤n):RowAt w (.slice (some ⟨g,off+m,none⟩) (n-m) (c-m)) (rs.drop m):=by
 rcases h with⟨h,_⟩|⟨g',off',c',h,h1,h2,h3⟩
 ·cases h
 ·cases h
  refine Or.inr ⟨g,off+m,c-m,by simp,by simp;omega,by omega,fun j u hj=>?_⟩
  rw [Nat.add_assoc]
  refine h3 (m+j) u ?_
  simpa [bytesOf,List.getElem?_drop] using hj
theorem Qlu (w:World) (ad:Addr) (c:Nat) (hc:c≤maxLen):ArgAt w (.slice (some ad) 0 c) []:=Or.inr ⟨ad,c,rfl,Nat.zero_le _,hc,fun j u hj=>by simp [bytesOf] at hj⟩
theorem Qc0 {w:World} {va:Option Addr} {vc n:Nat} {rs:List Int} (h:ArgAt w (.slice va n vc) rs) (hn:n=rs.length) (hp:0<n) (i:Nat) (hi:i≤n) :
  ∃v,(∀w,Sem.run Tryz.prog (Instr.slice 55 (.slice va n vc) (some (.int .i64 (i:Int))) none none) w=.ok v w)∧ArgAt w v (rs.drop i):=by
 subst hn
 have hr:=h.row hp
 obtain⟨ga,oa,rfl⟩:=Qdz hr hp
 obtain⟨-,hc1,hc2⟩:=Qu5 hr
 have hc2':(vc:Int)≤9223372036854775807:=by unfold maxLen at hc2;omega
 have h0:(0:Int)≤(i:Int):=by omega
 have h2:(i:Int)≤(rs.length:Int):=by omega
 have h3:(rs.length:Int)≤(vc:Int):=by omega
 by_cases hz:vc=i
 ·refine⟨.slice (some ⟨ga,oa,none⟩) (rs.length-i) (vc-i),fun w=>?_,?_⟩
  ·simp [Instr.slice,Instr.sliceBounds,Instr.sliceBound,go_sem,h0,hz]
   omega
  ·have:rs.length-i=0:=by omega
   rw [this,List.drop_eq_nil_of_le (by omega)]
   exact Qlu w _ _ (by unfold maxLen;omega)
 ·refine⟨.slice (some ⟨ga,oa+i,none⟩) (rs.length-i) (vc-i),fun w=>?_,(Qpy hr i hi).arg⟩
  simp [Instr.slice,Instr.sliceBounds,Instr.sliceBound,go_sem,h0,hz]
  omega
theorem Qc8 {x:Int} (h0:0≤x) (h1:x<4294967296):IntKind.u32.wrap x=x:=by simp [IntKind.wrap,IntKind.bits,IntKind.signed];omega
theorem Ql3 (x:Int):IntKind.u32.wrap x=x%4294967296:=by simp [IntKind.wrap,IntKind.bits,IntKind.signed]
def numTop (n:Int):Int:=if n=1 then 256 else if n=2 then 65536 else if n=3 then 16777216 else 4294967296
theorem Qgh (n:Int) (hn:n=1∨n=2∨n=3∨n=4) (X:Nat→Prop) (b:Nat) (L:List Int) (most:Int) (x:Int) (w:World) (h:Wr X w b L most) (hm:most≤1048576) (h0:0≤x) (hx:x<numTop n) :
  Calls Tryz.prog 197 #[.pointer (some ⟨b,0,none⟩),.int .u32 x,.int .i64 n] w fun e w'=>e=.returned (.pointer (some ⟨b,0,none⟩))∧Wr X w' b (L++numBytes n.toNat x) most∧Kept X w w':=by
 rcases hn with rfl|rfl|rfl|rfl
 ·exact Qnx X b L most x w h hm ⟨h0,by simpa [numTop] using hx⟩
 ·exact Qoe X b L most x w h hm ⟨h0,by simpa [numTop] using hx⟩
 ·exact Qmh X b L most x w h hm ⟨h0,by simpa [numTop] using hx⟩
 ·exact Qm5 X b L most x w h hm ⟨h0,by simpa [numTop] using hx⟩
theorem Qnq (X:Nat→Prop) (b:Nat) (L:List Int) (most:Int) (h:HV) (ok:h.All) (w:World) (hw:Wr X w b L most) (hm:most≤1048576) :
  Calls Tryz.prog 173 #[.agg #[.pointer (some ⟨b,0,none⟩)],h.v] w fun e w'=>e=.returned (.tuple #[])∧Wr X w' b (L++headB h) most∧Kept X w w':=by
 obtain⟨⟨oa0,oa1⟩,⟨oo0,oo1⟩,⟨ot0,ot1⟩,⟨oi0,oi1⟩,⟨ov0,ov1⟩,⟨os0,os1⟩,⟨om0,om1⟩,⟨ol0,ol1⟩⟩:=ok
 show Calls Tryz.prog 173 #[.agg #[.pointer (some ⟨b,0,none⟩)],.agg #[.int .u16 h.age,.int .u8 h.opts,.int .u8 h.typ,.int .u32 h.id,.int .u32 h.adv,.int .i32 h.seq,.int .u16 h.sum,.int .u16 h.len]] w _
 go_enter Tryz.func173,Tryz.ntmps173
 have q0:=Qc8 oa0 (by omega)
 have q1:=Qc8 oo0 (by omega)
 have q2:=Qc8 ot0 (by omega)
 have q5:=Ql3 h.seq
 have q6:=Qc8 om0 (by omega)
 have q7:=Qc8 ol0 (by omega)
 go_upto_region 1 with fail
 obtain⟨X1,hX1⟩:∃X1:Nat→Prop,X1=fun k=>X k∨k=w.heap.size∨k=w.heap.size+1:=⟨_,rfl⟩
 have hW:Wr X1 ((w.alloc (.cells #[.pointer (some ⟨b,0,none⟩)] 288)).alloc (.cells #[.int .u16 h.age,.int .u8 h.opts,.int .u8 h.typ,.int .u32 h.id,.int .u32 h.adv,.int .i32 h.seq,.int .u16 h.sum,.int .u16 h.len] 54)) b L most:=hw.more (((Touch.refl _ w).alloc _).alloc _) (fun k hk=>by rw [hX1] at hk;rcases hk with hk|hk|hk;exact Or.inl hk;exact Or.inr ⟨by omega,by simp;omega⟩;exact Or.inr ⟨by omega,by simp;omega⟩)
 have c0:((w.alloc (.cells #[.pointer (some ⟨b,0,none⟩)] 288)).alloc (.cells #[.int .u16 h.age,.int .u8 h.opts,.int .u8 h.typ,.int .u32 h.id,.int .u32 h.adv,.int .i32 h.seq,.int .u16 h.sum,.int .u16 h.len] 54)).cell? ⟨w.heap.size,0,none⟩=some (.pointer (some ⟨b,0,none⟩)):=by simp [go_sem]
 have HH:=Hd.new (w.alloc (.cells #[.pointer (some ⟨b,0,none⟩)] 288)) h 54
 have T1:Hid (Touch (fun _=>False) w ((w.alloc (.cells #[.pointer (some ⟨b,0,none⟩)] 288)).alloc (.cells #[.int .u16 h.age,.int .u8 h.opts,.int .u8 h.typ,.int .u32 h.id,.int .u32 h.adv,.int .i32 h.seq,.int .u16 h.sum,.int .u16 h.len] 54))):=((Touch.refl _ w).alloc _).alloc _
 have XM:Hid (X1 w.heap.size):=by show X1 _;rw [hX1];exact Or.inr (Or.inl rfl)
 have XN:Hid (X1 (w.alloc (.cells #[.pointer (some ⟨b,0,none⟩)] 288)).heap.size):=by show X1 _;rw [hX1];exact Or.inr (Or.inr (by simp))
 have XX:Hid (∀k,X k→X1 k):=by show ∀k,_;rw [hX1];exact fun k hk=>Or.inl hk
 simp only [World.size_alloc] at XN HH ⊢
 generalize w.heap.size+1=g2 at *
 generalize (w.alloc (.cells #[.pointer (some ⟨b,0,none⟩)] 288)).alloc (.cells #[.int .u16 h.age,.int .u8 h.opts,.int .u8 h.typ,.int .u32 h.id,.int .u32 h.adv,.int .i32 h.seq,.int .u16 h.sum,.int .u16 h.len] 54)=w1 at *
 obtain⟨d0,d1,d2,d3,d4,d5,d6,d7⟩:=HH
 clear hX1 hw
 generalize w.heap.size=g1 at *
 have HD:Hid (∀w',Kept X1 w1 w'→w'.cell? ⟨g1,0,none⟩=some (.pointer (some ⟨b,0,none⟩))∧Hd w' g2 h):=fun w' k=>⟨k.cell c0 XM.out,⟨k.cell d0 XN.out,k.cell d1 XN.out,k.cell d2 XN.out,k.cell d3 XN.out,k.cell d4 XN.out,k.cell d5 XN.out,k.cell d6 XN.out,k.cell d7 XN.out⟩⟩
 have HK0:Hid (Kept X1 w1 w1.drew):=Kept.of ((Touch.refl _ _).drew)
 have hWd:Wr X1 w1.drew b _ most:=hW.keep ((Touch.refl _ _).drew)
 have e0:w1.drew.cell? ⟨g1,0,none⟩=_:=c0
 have e1:w1.drew.cell? ⟨g2,0,none⟩=_:=d0
 have e2:w1.drew.cell? ⟨g2,1,none⟩=_:=d1
 have e3:w1.drew.cell? ⟨g2,2,none⟩=_:=d2
 clear hW c0 d0 d1 d2 d3 d4 d5 d6 d7
 go_region_held3 (fun w'=>w'.cell? ⟨g1,0,none⟩=some (.pointer (some ⟨b,0,none⟩))∧w'.cell? ⟨g2,0,none⟩=some (.int .u16 h.age)∧w'.cell? ⟨g2,1,none⟩=some (.int .u8 h.opts)∧w'.cell? ⟨g2,2,none⟩=some (.int .u8 h.typ)) (go_keep) (first
  | (go_at_call 197;refine Calls.mono (Qgh _ (by omega) X1 b _ most _ _ (by assumption) hm (by omega) (by simp [numTop];omega)) ?_;rintro e w2 ⟨rfl,hw2,hkx⟩;have y0:=hkx.cell (p:=⟨g1,0,none⟩) (v:=.pointer (some ⟨b,0,none⟩)) (by assumption) XM.out;have y1:=hkx.cell (p:=⟨g2,0,none⟩) (v:=.int .u16 h.age) (by assumption) XN.out;have y2:=hkx.cell (p:=⟨g2,1,none⟩) (v:=.int .u8 h.opts) (by assumption) XN.out;have y3:=hkx.cell (p:=⟨g2,2,none⟩) (v:=.int .u8 h.typ) (by assumption) XN.out;have HK2:Hid (Kept X1 w1 w2):=Kept.trans (Hid.out (by assumption)) hkx;clear hkx))
 obtain⟨c0,⟨d0,d1,d2,d3,d4,d5,d6,d7⟩⟩:=HD.out _ HK2.out
 have HK2d:Hid (Kept X1 w1 w2.drew):=HK2.out.trans (Kept.of ((Touch.refl _ _).drew))
 clear y0 y1 y2 y3 e0 e1 e2 e3 hWd
 have hWd:Wr X1 w2.drew b _ most:=hw2.keep ((Touch.refl _ _).drew)
 have e0:w2.drew.cell? ⟨g1,0,none⟩=_:=c0
 have e1:w2.drew.cell? ⟨g2,3,none⟩=_:=d3
 have e2:w2.drew.cell? ⟨g2,4,none⟩=_:=d4
 have e3:w2.drew.cell? ⟨g2,5,none⟩=_:=d5
 clear c0 d0 d1 d2 d3 d4 d5 d6 d7
 go_upto_region 2 with fail
 go_region_held3 (fun w'=>w'.cell? ⟨g1,0,none⟩=some (.pointer (some ⟨b,0,none⟩))∧w'.cell? ⟨g2,3,none⟩=some (.int .u32 h.id)∧w'.cell? ⟨g2,4,none⟩=some (.int .u32 h.adv)∧w'.cell? ⟨g2,5,none⟩=some (.int .i32 h.seq)) (go_keep) (first
  | (go_at_call 197;refine Calls.mono (Qgh _ (by omega) X1 b _ most _ _ (by assumption) hm (by omega) (by simp [numTop];omega)) ?_;rintro e w3 ⟨rfl,hw3,hkx⟩;have y0:=hkx.cell (p:=⟨g1,0,none⟩) (v:=.pointer (some ⟨b,0,none⟩)) (by assumption) XM.out;have y1:=hkx.cell (p:=⟨g2,3,none⟩) (v:=.int .u32 h.id) (by assumption) XN.out;have y2:=hkx.cell (p:=⟨g2,4,none⟩) (v:=.int .u32 h.adv) (by assumption) XN.out;have y3:=hkx.cell (p:=⟨g2,5,none⟩) (v:=.int .i32 h.seq) (by assumption) XN.out;have HK3:Hid (Kept X1 w1 w3):=Kept.trans (Hid.out (by assumption)) hkx;clear hkx))
 obtain⟨c0,⟨d0,d1,d2,d3,d4,d5,d6,d7⟩⟩:=HD.out _ HK3.out
 have HK3d:Hid (Kept X1 w1 w3.drew):=HK3.out.trans (Kept.of ((Touch.refl _ _).drew))
 clear y0 y1 y2 y3 e0 e1 e2 e3 hWd
 have hWd:Wr X1 w3.drew b _ most:=hw3.keep ((Touch.refl _ _).drew)
 have e0:w3.drew.cell? ⟨g1,0,none⟩=_:=c0
 have e1:w3.drew.cell? ⟨g2,6,none⟩=_:=d6
 have e2:w3.drew.cell? ⟨g2,7,none⟩=_:=d7
 clear c0 d0 d1 d2 d3 d4 d5 d6 d7
 go_upto_region 3 with fail
 go_region_held3 (fun w'=>w'.cell? ⟨g1,0,none⟩=some (.pointer (some ⟨b,0,none⟩))∧w'.cell? ⟨g2,6,none⟩=some (.int .u16 h.sum)∧w'.cell? ⟨g2,7,none⟩=some (.int .u16 h.len)) (go_keep) (first
  | (go_at_call 197;refine Calls.mono (Qgh _ (by omega) X1 b _ most _ _ (by assumption) hm (by omega) (by simp [numTop];omega)) ?_;rintro e w4 ⟨rfl,hw4,hkx⟩;have y0:=hkx.cell (p:=⟨g1,0,none⟩) (v:=.pointer (some ⟨b,0,none⟩)) (by assumption) XM.out;have y1:=hkx.cell (p:=⟨g2,6,none⟩) (v:=.int .u16 h.sum) (by assumption) XN.out;have y2:=hkx.cell (p:=⟨g2,7,none⟩) (v:=.int .u16 h.len) (by assumption) XN.out;have HK4:Hid (Kept X1 w1 w4):=Kept.trans (Hid.out (by assumption)) hkx;clear hkx))
 clear y0 y1 y2 e0 e1 e2 hWd
 go_wp2
 go_end0
 refine⟨rfl,?_,?_⟩
 ·have:=hw4.less XX.out
  simpa [headB,numBytes,List.append_assoc,Int.emod_eq_of_lt oo0 oo1,Int.emod_eq_of_lt ot0 ot1] using this
 ·exact (Kept.of T1.out).trans (HK4.out.less (fun k _ hk=>XX.out k hk))
theorem Hd.kept {X:Nat→Prop} {w w':World} {g:Nat} {h:HV} (k:Hd w g h) (t:Kept X w w') (hx:X g):Hd w' g h:=⟨t.cell k.c0 hx,t.cell k.c1 hx,t.cell k.c2 hx,t.cell k.c3 hx,t.cell k.c4 hx,t.cell k.c5 hx,t.cell k.c6 hx,t.cell k.c7 hx⟩
theorem Sd.kept {X:Nat→Prop} {w w':World} {g:Nat} {h:HV} {v:Value} (k:Sd w g h v) (t:Kept X w w') (hx:X g):Sd w' g h v:=⟨k.hd.kept t hx,t.cell k.c8 hx⟩
theorem Kept.sd {X:Nat→Prop} {w w':World} {g:Nat} {h:HV} {v:Value} (t:Kept X w w') (k:Sd w g h v) (hx:X g):Sd w' g h v:=k.kept t hx
theorem Qbx (h:HV) (ok:h.All) (v:Value) (l:List Int) (w:World) (hv:ArgAt w v l) (hl:l.length≤1000000) :
  Calls Tryz.prog 143 #[h.sv v] w fun e w'=>∃u,e=.returned u∧Buf w w' u (headB h++l):=by
 obtain⟨va,vc,rfl,hm⟩:=hv.form
 have OK:Hid h.All:=ok
 have HV':Hid (ArgAt w (.slice va l.length vc) l):=hv
 have HZ:=fun w=>Qjb h va l.length vc w (by omega)
 show Calls Tryz.prog 143 #[.agg #[.int .u16 h.age,.int .u8 h.opts,.int .u8 h.typ,.int .u32 h.id,.int .u32 h.adv,.int .i32 h.seq,.int .u16 h.sum,.int .u16 h.len,.slice va l.length vc]] w _
 go_enter Tryz.func143,Tryz.ntmps143
 go_wp2_with fail
 refine Calls.mono (HZ _) ?_
 rintro e w1 ⟨rfl,t1⟩
 have S1:=(Sd.new w h (.slice va l.length vc) 57).keep t1
 have T1:=((Touch.refl (fun _=>False) w).alloc _).trans t1
 clear t1 HZ
 go_wp2_with fail
 refine Calls.mono (Qsj (20+(l.length:Int)) w1 (by omega)) ?_
 rintro e w2 ⟨rfl,hw2,t2⟩
 have S2:=S1.keep t2
 have T2:=T1.trans t2
 have hg:w.heap.size<w1.heap.size:=Qaa S1.hd.c0
 have hb:w1.heap.size<w2.heap.size:=hw2.lt
 have hgg:w.heap.size<w2.heap.size:=by omega
 have hn1:¬w.heap.size=w2.heap.size:=by omega
 have hn2:¬w2.heap.size=w.heap.size:=by omega
 have HW2:Hid (Wr (fun k=>k<w1.heap.size) w2 w1.heap.size [] (20+(l.length:Int))):=hw2
 have HS2:Hid (Sd w2 w.heap.size h (.slice va l.length vc)):=S2
 have HT2:Hid (Touch (fun _=>False) w w2):=T2
 obtain⟨⟨s0,s1,s2,s3,s4,s5,s6,s7⟩,s8⟩:=S2
 clear S1 T1 t2 hw2 T2
 go_wp2_with fail
 have TT:∀(o:Obj),Touch (fun _=>False) w2 (w2.alloc o):=fun o=>(Touch.refl _ w2).alloc o
 have TS:∀(o:Obj),w2.heap.size<(w2.alloc o).heap.size:=fun o=>by simp
 refine Calls.mono (Qnq (fun k=>k<w1.heap.size∨k=w2.heap.size) w1.heap.size [] (20+(l.length:Int)) h OK.out _ ?hw (by omega)) ?_
 case hw=>exact HW2.out.more (TT _) (fun k hk=>by rcases hk with hk|hk;exact Or.inl hk;exact Or.inr ⟨by omega,by rw [hk];exact TS _⟩)
 rintro e w4 ⟨rfl,hw4,k4⟩
 have S4:=Kept.sd k4 (HS2.out.keep (TT _)) (Or.inl hg)
 have c4:=k4.cell (p:=⟨w2.heap.size,0,none⟩) (v:=.pointer (some ⟨w1.heap.size,0,none⟩)) (by simp [go_sem]) (Or.inr rfl)
 have T4:Touch (fun _=>False) w w4:=Kept.after k4 (HT2.out.trans (TT _)) (fun i hi=>Or.inl (by omega))
 have HW4:Hid (Wr (fun k=>k<w1.heap.size∨k=w2.heap.size) w4 w1.heap.size ([]++headB h) (20+(l.length:Int))):=hw4
 have HT4:Hid (Touch (fun _=>False) w w4):=T4
 obtain⟨-,s8'⟩:=S4
 clear k4 s0 s1 s2 s3 s4 s5 s6 s7 s8 TT TS hw4 T4
 go_wp2_with fail
 refine Calls.mono (Qtx (fun k=>k<w1.heap.size∨k=w2.heap.size) w1.heap.size ([]++headB h) (20+(l.length:Int)) _ l _ HW4.out (by omega) (HV'.out.keep HT4.out (fun _ _ h=>h)) (by omega)) ?_
 rintro e w5 ⟨rfl,hw5,k5⟩
 have c5:=k5.cell c4 (Or.inr rfl)
 have T5:Touch (fun _=>False) w w5:=Kept.after k5 HT4.out (fun i hi=>Or.inl (by omega))
 have HW5:Hid (Wr (fun k=>k<w1.heap.size∨k=w2.heap.size) w5 w1.heap.size ([]++headB h++l) (20+(l.length:Int))):=hw5
 have HT5:Hid (Touch (fun _=>False) w w5):=T5
 clear k5 c4 s8' hw5 T5
 go_wp2_with fail
 refine Calls.mono (Qu8 _ w1.heap.size ([]++headB h++l) (20+(l.length:Int)) _ HW5.out (by rw [List.nil_append,List.length_append,Qa1];push_cast;omega) (by omega)) ?_
 rintro e w6 ⟨u,rfl,b6⟩
 obtain⟨ua,uc,rfl⟩:=b6.form
 have B6:Hid (Buf w5 w6 _ ([]++headB h++l)):=b6
 clear b6 c5
 go_wp2
 go_ret
 refine⟨_,rfl,?_⟩
 have:=B6.out.back HT5.out
 simpa using this
end Go.Proofs.YtddbffoiadmffaaGreat
