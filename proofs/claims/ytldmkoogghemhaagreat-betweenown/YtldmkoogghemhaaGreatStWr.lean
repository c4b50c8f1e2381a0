import Derived.Test.YtldmkoogghemhaaGreatWrAll2
namespace Go.Proofs.YtldmkoogghemhaaGreat
open Go.RowKit
set_option linter.unusedVariables false
set_option maxRecDepth 100000
def Kept (X:Nat→Prop) (w w':World):Prop:=Touch (fun k=>¬X k) w w'
theorem Kept.refl (X:Nat→Prop) (w:World):Kept X w w:=Touch.refl _ w
theorem Kept.trans {X:Nat→Prop} {a b c:World} (h:Kept X a b) (k:Kept X b c):Kept X a c:=Touch.trans h k
theorem Kept.less {X Y:Nat→Prop} {a b:World} (h:Kept X a b) (hY:∀k,k<a.heap.size→Y k→X k):Kept Y a b:=Touch.mono h (fun k hk hx hy=>hx (hY k hk hy))
theorem Kept.of {X:Nat→Prop} {a b:World} (t:Touch (fun _=>False) a b):Kept X a b:=Touch.mono t (fun _ _ h=>h.elim)
theorem Kept.cell {X:Nat→Prop} {a b:World} (h:Kept X a b) {p:Addr} {v:Value} (hc:a.cell? p=some v) (hx:X p.block):b.cell? p=some v:=(Touch.cell h (Qbu hc) (fun n=>n hx)).trans hc
theorem Kept.after {X:Nat→Prop} {a b c:World} (k:Kept X b c) (t:Touch (fun _=>False) a b) (h:∀i,i<a.heap.size→X i):Touch (fun _=>False) a c:=Touch.trans' t k (fun i hi hf=>hf (h i hi))
structure Wr (X:Nat→Prop) (w:World) (b:Nat) (L:List Int) (most:Int):Prop where
 out:∃v,(((L.length:Int)≤most∧WrS w b v L most 0)∨(most<(L.length:Int)∧∃bs,WrS w b v bs most 11))∧¬X b∧(∀k,v.ownBlock=some k→¬X k)∧(∀k,X k→k<w.heap.size)
theorem Wr.lt {X:Nat→Prop} {w:World} {b:Nat} {L:List Int} {most:Int} (h:Wr X w b L most):b<w.heap.size:=by
 obtain⟨v,⟨_,h⟩|⟨_,bs,h⟩,_⟩:=h
 ·exact Qaa h.made
 ·exact Qaa h.made
theorem WrS.own_lt {w:World} {b:Nat} {v:Value} {bs:List Int} {most err:Int} (h:WrS w b v bs most err) {k:Nat} (hk:v.ownBlock=some k):k<w.heap.size:=(h.own.lt k hk).2
theorem Wr.touch {X F:Nat→Prop} {w w':World} {b:Nat} {L:List Int} {most:Int} (h:Wr X w b L most) (t:Touch F w w') (hF:∀k,F k→X k):Wr X w' b L most:=by
 obtain⟨v,h,hb,ho,hX⟩:=h
 refine⟨v,?_,hb,ho,fun k hk=>Nat.lt_of_lt_of_le (hX k hk) t.size⟩
 rcases h with⟨hl,h⟩|⟨hl,bs,h⟩
 ·exact Or.inl ⟨hl,h.touch t (fun f=>hb (hF b f)) (fun k hk f=>ho k hk (hF k f))⟩
 ·exact Or.inr ⟨hl,bs,h.touch t (fun f=>hb (hF b f)) (fun k hk f=>ho k hk (hF k f))⟩
theorem Wr.keep {X:Nat→Prop} {w w':World} {b:Nat} {L:List Int} {most:Int} (h:Wr X w b L most) (t:Touch (fun _=>False) w w'):Wr X w' b L most:=h.touch t (fun _ h=>h.elim)
theorem Wr.more {X Y:Nat→Prop} {w w':World} {b:Nat} {L:List Int} {most:Int} (h:Wr X w b L most) (t:Touch (fun _=>False) w w') (hY:∀k,Y k→X k∨(w.heap.size≤k∧k<w'.heap.size)):Wr Y w' b L most:=by
 have hl:=h.lt
 obtain⟨v,h,hb,ho,hX⟩:=h
 have hs:=t.size
 refine⟨v,?_,fun hy=>?_,fun k hk hy=>?_,fun k hk=>?_⟩
 ·rcases h with⟨hl,h⟩|⟨hl,bs,h⟩
  ·exact Or.inl ⟨hl,h.touch t (fun f=>f) (fun k hk f=>f)⟩
  ·exact Or.inr ⟨hl,bs,h.touch t (fun f=>f) (fun k hk f=>f)⟩
 ·rcases hY b hy with h' | h'
  ·exact hb h'
  ·omega
 ·rcases hY k hy with h' | h'
  ·exact ho k hk h'
  ·have hk':k<w.heap.size:=by
    rcases h with⟨_,h⟩|⟨_,bs,h⟩
    ·exact h.own_lt hk
    ·exact h.own_lt hk
   omega
 ·rcases hY k hk with h' | h'
  ·have:=hX k h';omega
  ·exact h'.2
theorem Wr.less {X Y:Nat→Prop} {w:World} {b:Nat} {L:List Int} {most:Int} (h:Wr X w b L most) (hY:∀k,Y k→X k):Wr Y w b L most :=
 h.more (Touch.refl _ _) (fun k hk=>Or.inl (hY k hk))
theorem Qcr {X:Nat→Prop} {w w':World} {b:Nat} {v v':Value} {bs L':List Int} {most err:Int} (h:WrS w b v bs most err) (hb:¬X b) (ho:∀k,v.ownBlock=some k→¬X k) (hX:∀k,X k→k<w.heap.size)
  (t:Touch (wrF b v) w w') (m:Moved w v v') (h':((L'.length:Int)≤most∧WrS w' b v' L' most 0)∨(most<(L'.length:Int)∧∃bs,WrS w' b v' bs most 11)):Wr X w' b L' most∧Kept X w w':=by
 refine⟨⟨v',h',hb,fun k hk hx=>?_,fun k hk=>Nat.lt_of_lt_of_le (hX k hk) t.size⟩,t.mono (fun i _ hi hx=>?_)⟩
 ·rcases m with m|⟨g,hg,hl⟩
  ·exact ho k (m ▸ hk) hx
  ·rw [hg] at hk
   cases hk
   have:=hX _ hx
   omega
 ·rcases hi with hi|hi
  ·exact hb (hi ▸ hx)
  ·exact ho i hi hx
theorem Qge {X:Nat→Prop} {w:World} {b:Nat} {v:Value} {L':List Int} {most:Int} (hb:¬X b) (ho:∀k,v.ownBlock=some k→¬X k) (hX:∀k,X k→k<w.heap.size)
  (h':((L'.length:Int)≤most∧WrS w b v L' most 0)∨(most<(L'.length:Int)∧∃bs,WrS w b v bs most 11)):Wr X w b L' most∧Kept X w w:=⟨⟨v,h',hb,ho,hX⟩,Kept.refl _ _⟩
theorem Qck {w':World} {b:Nat} {v':Value} {L ns:List Int} {most:Int} (hl:(L.length:Int)≤most) (h':WrS w' b v' (putB L most 0 ns) most (putE L most 0 ns)) :
  (((L++ns).length:Int)≤most∧WrS w' b v' (L++ns) most 0)∨(most<((L++ns).length:Int)∧∃bs,WrS w' b v' bs most 11):=by
 simp only [putB,putE,true_and,if_true] at h'
 rw [List.length_append]
 by_cases hf:(L.length:Int)+ns.length≤most
 ·rw [if_pos hf,if_pos hf] at h'
  exact Or.inl ⟨by push_cast;omega,h'⟩
 ·rw [if_neg hf,if_neg hf] at h'
  exact Or.inr ⟨by push_cast;omega,_,h'⟩
theorem Qnm (most:Int) (w:World) (hm:0≤most) :
  Calls Tryz.prog 136 #[.int .i64 most] w fun e w'=>e=.returned (.pointer (some ⟨w.heap.size,0,none⟩))∧Wr (fun k=>k<w.heap.size) w' w.heap.size [] most∧Touch (fun _=>False) w w':=by
 refine (Qim most w hm).mono ?_
 rintro e w' ⟨rfl,h,t⟩
 exact⟨rfl,⟨_,Or.inl ⟨by simpa using hm,h⟩,Nat.lt_irrefl _,by simp [Value.ownBlock],fun k hk=>Nat.lt_of_lt_of_le hk t.size⟩,t⟩
theorem Qlb (X:Nat→Prop) (b:Nat) (L:List Int) (most:Int) (ad:Addr) (c:Nat) (ns:List Int) (w:World) (h:Wr X w b L most) (hm:most≤1048576)
  (hs:∀j u,(bytesOf ns)[j]?=some u→w.cell? (ad.add j)=some u) (hn:ns.length≤68719476736) :
  Calls Tryz.prog 138 #[.pointer (some ⟨b,0,none⟩),.slice (some ad) ns.length c] w fun e w'=>e=.returned (.pointer (some ⟨b,0,none⟩))∧Wr X w' b (L++ns) most∧Kept X w w':=by
 obtain⟨v,h,hb,ho,hX⟩:=h
 rcases h with⟨hl,h⟩|⟨hl,bs,h⟩
 ·refine (Qc9 b v L most 0 ad c ns w h hs (by omega)).mono ?_
  rintro e w' ⟨rfl,v',h',t,m⟩
  exact⟨rfl,Qcr h hb ho hX t m (Qck hl h')⟩
 ·refine (Qd6 b v bs most 11 _ w h (by omega)).mono ?_
  rintro e w' ⟨rfl,rfl⟩
  exact⟨rfl,Qge hb ho hX (Or.inr ⟨by rw [List.length_append];push_cast;omega,bs,h⟩)⟩
theorem Qk7 (X:Nat→Prop) (b:Nat) (L:List Int) (most:Int) (w:World) (h:Wr X w b L most) (hm:most≤1048576) :
  Calls Tryz.prog 138 #[.pointer (some ⟨b,0,none⟩),.slice none 0 0] w fun e w'=>e=.returned (.pointer (some ⟨b,0,none⟩))∧Wr X w' b L most∧Kept X w w':=by
 obtain⟨v,h,hb,ho,hX⟩:=h
 rcases h with⟨hl,h⟩|⟨hl,bs,h⟩
 ·obtain⟨i0,hi,hz0,hz1,hz2⟩:=info_parts Tryz.info5
  have H:=h
  obtain⟨h0,h1,h2,h3,hf1,hf3,hown⟩:=h
  have hlt:=Qaa h0
  obtain⟨va,vc,rfl⟩:∃va vc,v=.slice va L.length vc:=by
   rcases hown.2 with⟨rfl,e⟩|⟨g,cap,cur,rfl,_⟩
   ·exact⟨none,0,by rw [e]⟩
   ·exact⟨_,_,rfl⟩
  have HW:Hid (WrS w b (.slice va L.length vc) L most 0):=H
  have HO:Hid (∀k,(Value.slice va L.length vc).ownBlock=some k→¬X k):=ho
  have HS:∀n,Hid (WrS (w.drewN n) b (.slice va L.length vc) L most 0):=fun n=>H.drewN n
  clear ho
  go_enter Tryz.func138,Tryz.ntmps138
  go_wp2_with (go_at_call 151;refine (Qaz _ 0 _ (by assumption) (by assumption)).mono ?_;rintro e w' ⟨rfl,rfl⟩)
  go_quiet (fail)
  go_wp2_with (at_builtin;(refine wpList_append_own_none rfl (.tmp 28) (.tmp 29) 57 rfl (b+1) 5 i0 1 Tryz.underlying57 hi (.slice va L.length vc) L.length (bytesOf L) rfl (HS _).out.own rfl ?_))
  have HT:Hid (WrS ((w.drewN nq).setCell ⟨b,1,none⟩ (.slice va L.length vc)) b (.slice va L.length vc) L most 0∧Touch (wrF b (.slice va L.length vc)) (w.drewN nq) ((w.drewN nq).setCell ⟨b,1,none⟩ (.slice va L.length vc))):=Qc8 (bs':=L) (HS nq).out (World.grownBy.refl _ _) (HS nq).out.own
  clear hown H HS
  go_wp2
  go_ret
  exact⟨rfl,Qcr HW.out hb HO.out hX (((Touch.refl _ _).drewN nq).trans HT.out.2) (Or.inl rfl) (Or.inl ⟨hl,HT.out.1⟩)⟩
 ·refine (Qd6 b v bs most 11 _ w h (by omega)).mono ?_
  rintro e w' ⟨rfl,rfl⟩
  exact⟨rfl,Qge hb ho hX (Or.inr ⟨hl,bs,h⟩)⟩
theorem Qmk (X:Nat→Prop) (b:Nat) (L:List Int) (most:Int) (s:Value) (ns:List Int) (w:World) (h:Wr X w b L most) (hm:most≤1048576) (hs:ArgAt w s ns) (hn:ns.length≤68719476736) :
  Calls Tryz.prog 138 #[.pointer (some ⟨b,0,none⟩),s] w fun e w'=>e=.returned (.pointer (some ⟨b,0,none⟩))∧Wr X w' b (L++ns) most∧Kept X w w':=by
 rcases hs with⟨rfl,rfl⟩|⟨ad,c,rfl,h1,h2,h3⟩
 ·rw [List.append_nil];exact Qk7 X b L most w h hm
 ·exact Qlb X b L most ad c ns w h hm h3 hn
theorem Qc3 (n:Nat) (hn:n=1∨n=2∨n=3∨n=4) (X:Nat→Prop) (b:Nat) (L:List Int) (most:Int) (x:Int) (w:World) (h:Wr X w b L most) (hm:most≤1048576) (hx:0≤x∧x<256 ^ n) :
  Calls Tryz.prog 150 #[.pointer (some ⟨b,0,none⟩),.int .u32 x,.int .i64 n] w fun e w'=>e=.returned (.pointer (some ⟨b,0,none⟩))∧Wr X w' b (L++numBytes n x) most∧Kept X w w':=by
 obtain⟨v,h,hb,ho,hX⟩:=h
 rcases h with⟨hl,h⟩|⟨hl,bs,h⟩
 ·rcases hn with rfl|rfl|rfl|rfl
  ·refine (Qfa b v L most x w h (by omega) (by omega)).mono ?_
   rintro e w' ⟨rfl,v',h',t,m⟩
   exact⟨rfl,Qcr h hb ho hX t m (Qck hl h')⟩
  ·refine (Qeu b v L most x w h (by omega) (by omega)).mono ?_
   rintro e w' ⟨rfl,v',h',t,m⟩
   exact⟨rfl,Qcr h hb ho hX t m (Qck hl h')⟩
  ·refine (Qfi b v L most x w h (by omega) (by omega)).mono ?_
   rintro e w' ⟨rfl,v',h',t,m⟩
   exact⟨rfl,Qcr h hb ho hX t m (Qck hl h')⟩
  ·refine (Qer b v L most x w h (by omega) (by omega)).mono ?_
   rintro e w' ⟨rfl,v',h',t,m⟩
   exact⟨rfl,Qcr h hb ho hX t m (Qck hl h')⟩
 ·refine (Qfm b v bs most 11 x n w h (by omega)).mono ?_
  rintro e w' ⟨rfl,rfl⟩
  exact⟨rfl,Qge hb ho hX (Or.inr ⟨by rw [List.length_append];push_cast;omega,bs,h⟩)⟩
theorem Qjl (X:Nat→Prop) (b:Nat) (L:List Int) (most:Int) (x:Int) (w:World) (h:Wr X w b L most) (hm:most≤1048576) (hx:0≤x∧x<256) :
  Calls Tryz.prog 150 #[.pointer (some ⟨b,0,none⟩),.int .u32 x,.int .i64 1] w fun e w'=>e=.returned (.pointer (some ⟨b,0,none⟩))∧Wr X w' b (L++numBytes 1 x) most∧Kept X w w' :=
 Qc3 1 (by omega) X b L most x w h hm (by omega)
theorem Qip (X:Nat→Prop) (b:Nat) (L:List Int) (most:Int) (x:Int) (w:World) (h:Wr X w b L most) (hm:most≤1048576) (hx:0≤x∧x<65536) :
  Calls Tryz.prog 150 #[.pointer (some ⟨b,0,none⟩),.int .u32 x,.int .i64 2] w fun e w'=>e=.returned (.pointer (some ⟨b,0,none⟩))∧Wr X w' b (L++numBytes 2 x) most∧Kept X w w' :=
 Qc3 2 (by omega) X b L most x w h hm (by omega)
theorem Qjt (X:Nat→Prop) (b:Nat) (L:List Int) (most:Int) (x:Int) (w:World) (h:Wr X w b L most) (hm:most≤1048576) (hx:0≤x∧x<16777216) :
  Calls Tryz.prog 150 #[.pointer (some ⟨b,0,none⟩),.int .u32 x,.int .i64 3] w fun e w'=>e=.returned (.pointer (some ⟨b,0,none⟩))∧Wr X w' b (L++numBytes 3 x) most∧Kept X w w' :=
 Qc3 3 (by omega) X b L most x w h hm (by omega)
theorem Qjk (X:Nat→Prop) (b:Nat) (L:List Int) (most:Int) (x:Int) (w:World) (h:Wr X w b L most) (hm:most≤1048576) (hx:0≤x∧x<4294967296) :
  Calls Tryz.prog 150 #[.pointer (some ⟨b,0,none⟩),.int .u32 x,.int .i64 4] w fun e w'=>e=.returned (.pointer (some ⟨b,0,none⟩))∧Wr X w' b (L++numBytes 4 x) most∧Kept X w w' :=
 Qc3 4 (by omega) X b L most x w h hm (by omega)
theorem Qoy (X:Nat→Prop) (b:Nat) (L:List Int) (most:Int) (w:World) (h:Wr X w b L most) (hl:(L.length:Int)≤most) (hm:most≤1048576) :
  Calls Tryz.prog 139 #[.pointer (some ⟨b,0,none⟩)] w fun e w'=>∃v',e=.returned (.tuple #[v',.int .i64 0])∧Buf w w' v' L:=by
 obtain⟨v,⟨_,h⟩|⟨hl',_⟩,_⟩:=h
 ·refine (Qna b v L most w h (by omega)).mono ?_
  rintro e w' ⟨v',rfl,hown,t⟩
  exact⟨v',rfl,⟨hown,t⟩⟩
 ·omega
end Go.Proofs.YtldmkoogghemhaaGreat
