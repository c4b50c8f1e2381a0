
/- Descriptions with heads. -/
import Derived.Test.YtojlnabhaglejaaAdHds
import Derived.Test.YtojlnabhaglejaaAdEnd
namespace Go.Proofs.Ytojlnabhaglejaa
open Go.RowKit
set_option linter.unusedVariables false
set_option maxRecDepth 100000

/-- A row of heads that lies in a block of G. -/
structure HdsB (G : Nat → Prop) (w : World) (v : Value) (l : List HV) : Prop where
  at_ : HeadsAt w v l
  off : ∀ a n c, v = .slice (some a) n c → 0 < l.length → G a.block
theorem HdsB.nil (G : Nat → Prop) (w : World) : HdsB G w (.slice none 0 0) [] := ⟨⟨rfl, Or.inl ⟨rfl, rfl⟩⟩, fun a n c h => by cases h⟩
theorem ValsAt.touch {F : Nat → Prop} {w w' : World} {k : Nat} {v : Value} {n : Nat} {xs : List Value} (h : ValsAt w k v n xs) (t : Touch F w w') (hn : ∀ a n c, v = .slice (some a) n c → ¬ F a.block) : ValsAt w' k v n xs := by
  refine ⟨h.1, ?_⟩
  rcases h.2 with h | ⟨ad, c, rfl, h1, h2, h3⟩
  · exact Or.inl h
  · refine Or.inr ⟨ad, c, rfl, h1, h2, fun j u hj => ?_⟩
    have hc := h3 j u hj
    have e : (ad.add j).block = ad.block := by unfold Addr.add; split <;> rfl
    exact (t.cell (lt_of_cellA hc) (by rw [e]; exact hn ad n c rfl)).trans hc
theorem HdsB.touchF {F G : Nat → Prop} {w w' : World} {v : Value} {l : List HV} (h : HdsB G w v l) (t : Touch F w w') (hF : ∀ k, G k → ¬ F k) : HdsB G w' v l := by
  refine ⟨?_, h.off⟩
  by_cases h0 : 0 < l.length
  · exact h.at_.touch t (fun a n c e hb => hF _ (h.off a n c e h0) hb)
  · have e1 : l = [] := List.length_eq_zero_iff.1 (by omega)
    subst e1
    obtain ⟨hl, h2⟩ := h.at_
    refine ⟨hl, ?_⟩
    rcases h2 with h2 | ⟨ad, c, e, h3, h4, -⟩
    · exact Or.inl h2
    · exact Or.inr ⟨ad, c, e, h3, h4, fun j u hj => by simp [headsC] at hj⟩
theorem HdsB.touch {G : Nat → Prop} {b : Nat} {w w' : World} {v : Value} {l : List HV} (h : HdsB G w v l) (t : Touch (fun k => k = b) w w') (hG : ¬ G b) : HdsB G w' v l := h.touchF t (fun k hk e => hG (e ▸ hk))
theorem HdsB.keep {G : Nat → Prop} {w w' : World} {v : Value} {l : List HV} (h : HdsB G w v l) (t : Touch (fun _ => False) w w') : HdsB G w' v l := ⟨ValsAt.keep h.at_ t, h.off⟩
set_option maxHeartbeats 1000000 in
theorem clone_any (v : Value) (l : List HV) (w : World) (hv : HeadsAt w v l) (hl : l.length ≤ 1000000) : Calls Try.prog 52 #[v] w fun e w' => ∃ u, e = .returned u ∧ VBuf 50 8 w w' u l.length (headsC l) := by
  have hv0 := hv
  obtain ⟨h1, ⟨rfl, h3⟩ | ⟨ad, c, rfl, h2, h3, h4⟩⟩ := hv
  · have e1 : l = [] := List.length_eq_zero_iff.1 h3
    subst e1
    refine (clone_nil w).mono ?_
    rintro e w' ⟨rfl, rfl⟩
    exact ⟨_, rfl, VBuf.nil _ _ (Touch.refl _ _)⟩
  · have heq : ∀ w', Sem.run Try.prog (binOp .eql 22 (.slice (some ad) l.length c) (.slice none 0 0)) w' = .ok (.bool false) w' := fun _ => rfl
    obtain ⟨i0, hi0, hz0, hz1, hz2⟩ := infoParts infoH14
    have T1 : Touch (fun _ => False) w (w.alloc (.cells #[] 50)) := (Touch.refl _ _).alloc _
    have ow : (w.alloc (.cells #[] 50)).ownsRow w.heap.size 50 8 (.slice (some ⟨w.heap.size, 0, none⟩) 0 0) 0 [] := ⟨by simp, Or.inr ⟨w.heap.size, 0, #[], rfl, Nat.le_refl _, heap_new _ _, by simp, by simp, by simp, by simp⟩⟩
    obtain ⟨v', w4, hrun, own4, grown4, -, hat⟩ := run_append_own_at (P := Try.prog) (w.alloc (.cells #[] 50)) w.heap.size 22 22 50 i0 _ 8 20 Try.underlying22 hi0 hz0 hz1 hz2 rfl (by omega) (.slice (some ⟨w.heap.size, 0, none⟩) 0 0) 0 [] ow ad l.length c (headsC l) h1 (fun j u hj => T1.cellN (h4 j u hj)) (oneCell_headsC l) (by unfold maxLen; omega) (by omega) T1.size
    have t4 : Touch (fun k => k = w.heap.size) (w.alloc (.cells #[] 50)) w4 := Touch.grown (Touch.refl _ _) grown4 (fun k hk => by simp [Value.ownBlock] at hk; exact Or.inl hk.symm)
    have HK : Hid (VBuf 50 8 w w4 v' l.length (headsC l)) := by
      rw [Nat.zero_add, List.nil_append] at own4
      exact ⟨own4, T1.trans' t4 (fun i hi e => by omega)⟩
    clear own4 grown4 hat t4 ow hi0 hz0 hz1 hz2 T1 h4 hv0 h1
    go_enter Try.func52, Try.ntmps52
    go_wp2_with (refine wpList_run_append rfl (.tmp 5) (.tmp 6) 22 rfl _ _ _ _ (by rfl) (by rfl) hrun ?_)
    go_ret
    exact ⟨v', rfl, HK.out⟩
/-- One thing to be sent: a description with heads. -/
def OneDH (n : Nat) (w : World) (v : Value) (m o f s : Int) (l : List HV) : Prop := ∃ g hv, v = .slice (some ⟨g, 0, none⟩) 1 1 ∧ n ≤ g ∧ Row w g 59 [.bool true, .int .u16 m, .int .u8 o, .int .u8 f, .int .u32 s, hv, .slice none 0 0] ∧ HeadsAt w hv l ∧ ∀ a k c, hv = .slice (some a) k c → n ≤ a.block
theorem OneDH.low {n n' : Nat} {w : World} {v : Value} {m o f s : Int} {l : List HV} (h : OneDH n w v m o f s l) (hn : n' ≤ n) : OneDH n' w v m o f s l := by
  obtain ⟨g, hv, h1, h2, h3, h4, h5⟩ := h
  exact ⟨g, hv, h1, Nat.le_trans hn h2, h3, h4, fun a k c e => Nat.le_trans hn (h5 a k c e)⟩
theorem OneDH.touch {n b : Nat} {w w' : World} {v : Value} {m o f s : Int} {l : List HV} (h : OneDH n w v m o f s l) (t : Touch (fun k => k = b) w w') (hb : b < n) : OneDH n w' v m o f s l := by
  obtain ⟨g, hv, h1, h2, h3, h4, h5⟩ := h
  exact ⟨g, hv, h1, h2, (t.block g h3.lt (fun e => by omega)).trans h3, h4.touch t (fun a k c e h' => by have := h5 a k c e; omega), h5⟩
theorem OneDH.keep {n : Nat} {w w' : World} {v : Value} {m o f s : Int} {l : List HV} (h : OneDH n w v m o f s l) (t : Touch (fun _ => False) w w') : OneDH n w' v m o f s l := by
  obtain ⟨g, hv, h1, h2, h3, h4, h5⟩ := h
  exact ⟨g, hv, h1, h2, h3.keep t, ValsAt.keep h4 t, h5⟩
set_option maxHeartbeats 2000000 in
theorem repeat_any (w : World) (b : Nat) (x : AJ) (l : List HV) (h : Ads w b x) (hh : HeadsAt w x.sheads l) (hl : l.length ≤ 1000000) :
    Calls Try.prog 39 #[.pointer (some ⟨b, 0, none⟩)] w fun e w' => ∃ v, e = .returned v ∧ OneDH w.heap.size w' v x.smtu x.sopts x.sflags x.sseq l ∧ Touch (fun _ => False) w w' := by
  obtain ⟨sa, sc, hsf, -⟩ := ValsAt.form hh
  have c8 : w.cell? ⟨b, 8, none⟩ = some (.int .u16 x.smtu) := h.cell 8
  have c9 : w.cell? ⟨b, 9, none⟩ = some (.int .u8 x.sopts) := h.cell 9
  have c10 : w.cell? ⟨b, 10, none⟩ = some (.int .u8 x.sflags) := h.cell 10
  have c11 : w.cell? ⟨b, 11, none⟩ = some (.int .u32 x.sseq) := h.cell 11
  have c12 : w.cell? ⟨b, 12, none⟩ = some (x.sheads) := h.cell 12
  rw [hsf] at c12
  have hb := h.lt
  have T1 : Touch (fun _ => False) w (w.alloc (.cells #[.int .u16 x.smtu, .int .u8 x.sopts, .int .u8 x.sflags, .int .u32 x.sseq, .slice sa l.length sc] 54)) := (Touch.refl _ _).alloc _
  have HC : Hid (Calls Try.prog 52 #[.slice sa l.length sc] (w.alloc (.cells #[.int .u16 x.smtu, .int .u8 x.sopts, .int .u8 x.sflags, .int .u32 x.sseq, .slice sa l.length sc] 54)) fun e w' => ∃ u, e = .returned u ∧ VBuf 50 8 (w.alloc (.cells #[.int .u16 x.smtu, .int .u8 x.sopts, .int .u8 x.sflags, .int .u32 x.sseq, .slice sa l.length sc] 54)) w' u l.length (headsC l)) := by
    have := clone_any x.sheads l _ (ValsAt.keep hh T1) hl
    rw [hsf] at this
    exact this
  have R1 : Row (w.alloc (.cells #[.int .u16 x.smtu, .int .u8 x.sopts, .int .u8 x.sflags, .int .u32 x.sseq, .slice sa l.length sc] 54)) w.heap.size 54 [.int .u16 x.smtu, .int .u8 x.sopts, .int .u8 x.sflags, .int .u32 x.sseq, .slice sa l.length sc] := row_new _ _ _
  clear h hh
  go_enter Try.func39, Try.ntmps39
  go_wp2_with fail
  generalize w.alloc (.cells #[.int .u16 x.smtu, .int .u8 x.sopts, .int .u8 x.sflags, .int .u32 x.sseq, .slice sa l.length sc] 54) = wa at *
  refine Calls.mono HC.out ?_
  rintro e w1 ⟨u, rfl, vb⟩
  obtain ⟨ua, uc, rfl⟩ := vb.form
  have R2 := R1.keep vb.t
  have p0 : w1.cell? ⟨w.heap.size, 0, none⟩ = some (.int .u16 x.smtu) := R2.cell 0
  have p1 : w1.cell? ⟨w.heap.size, 1, none⟩ = some (.int .u8 x.sopts) := R2.cell 1
  have p2 : w1.cell? ⟨w.heap.size, 2, none⟩ = some (.int .u8 x.sflags) := R2.cell 2
  have p3 : w1.cell? ⟨w.heap.size, 3, none⟩ = some (.int .u32 x.sseq) := R2.cell 3
  have p4 : w1.cell? ⟨w.heap.size, 4, none⟩ = some (.slice sa l.length sc) := R2.cell 4
  have pf := R2.frozen 4
  have hp := R2.lt
  have T2 : Hid (Touch (fun _ => False) w w1) := T1.trans vb.t
  have VV : Hid (HeadsAt w1 (.slice ua l.length uc) l) := vb.vals
  have hbl : Hid (∀ a n c, Value.slice ua l.length uc = .slice (some a) n c → a.block ≠ w.heap.size ∧ w.heap.size ≤ a.block) := by
    intro a n c he
    have h2 := R1.lt
    rcases vb.own.2 with ⟨e, _⟩ | ⟨g, cap, cur, e, hg, _⟩
    · rw [e] at he; cases he
    · rw [e] at he
      simp only [Value.slice.injEq, Option.some.injEq] at he
      rw [← he.1]
      show g ≠ _ ∧ _ ≤ g
      omega
  clear HC R1 R2 vb T1 c8 c9 c10 c11 c12
  go_wp2_with fail
  go_ret
  have hsz : (w1.setCell ⟨w.heap.size, 4, none⟩ (.slice ua l.length uc)).heap.size = w1.heap.size := by simp [World.setCell]
  have t5 : Touch (fun k => k = w.heap.size) w1 (w1.setCell ⟨w.heap.size, 4, none⟩ (.slice ua l.length uc)) := (Touch.refl (fun k => k = w.heap.size) w1).setCell (p := ⟨w.heap.size, 4, none⟩) (Or.inl rfl) _
  refine ⟨_, rfl, ⟨w1.heap.size, .slice ua l.length uc, rfl, T2.out.size, ?_, ?_, fun a k c e => (hbl.out a k c e).2⟩, ?_⟩
  · have := row_new (w1.setCell ⟨w.heap.size, 4, none⟩ (.slice ua l.length uc)) 59 #[.bool true, .int .u16 x.smtu, .int .u8 x.sopts, .int .u8 x.sflags, .int .u32 x.sseq, .slice ua l.length uc, .slice none 0 0]
    rw [hsz] at this
    exact this
  · exact ValsAt.keep (VV.out.touch t5 (fun a n c e => (hbl.out a n c e).1)) ((Touch.refl _ _).alloc _)
  · exact (T2.out.setCell (p := ⟨w.heap.size, 4, none⟩) (Or.inr (Nat.le_refl _)) _).alloc _
set_option maxHeartbeats 4000000 in
theorem tell_any (w : World) (b : Nat) (x : AJ) (f : Int) (v : Value) (l : List HV) (h : Ads w b x) (G : Nat → Prop) (hh : HdsB G w v l) (hG : ¬ G b) (hl : l.length ≤ 1000000) :
    Calls Try.prog 35 #[.pointer (some ⟨b, 0, none⟩), .int .u8 f, v] w fun e w' => ∃ u, e = .returned u ∧ OneDH w.heap.size w' u x.mtu x.opts f x.number l ∧ Ads w' b { x with smtu := x.mtu, sopts := x.opts, sflags := f, sseq := x.number, sheads := v, waited := 0 } ∧ Touch (fun k => k = b) w w' := by
  obtain ⟨va, vc, rfl, -⟩ := ValsAt.form hh.at_
  have c2 : w.cell? ⟨b, 2, none⟩ = some (.int .u16 x.mtu) := h.cell 2
  have c3 : w.cell? ⟨b, 3, none⟩ = some (.int .u8 x.opts) := h.cell 3
  have c7 : w.cell? ⟨b, 7, none⟩ = some (.int .u32 x.number) := h.cell 7
  have c8 : w.cell? ⟨b, 8, none⟩ = some (.int .u16 x.smtu) := h.cell 8
  have c9 : w.cell? ⟨b, 9, none⟩ = some (.int .u8 x.sopts) := h.cell 9
  have c10 : w.cell? ⟨b, 10, none⟩ = some (.int .u8 x.sflags) := h.cell 10
  have c11 : w.cell? ⟨b, 11, none⟩ = some (.int .u32 x.sseq) := h.cell 11
  have c12 : w.cell? ⟨b, 12, none⟩ = some (x.sheads) := h.cell 12
  have c13 : w.cell? ⟨b, 13, none⟩ = some (.int .u16 x.waited) := h.cell 13
  have hb := h.lt
  have hf := h.frozen
  have HA : Hid (Ads w b x) := h
  have HHB : Hid (HdsB G w (.slice va l.length vc) l) := hh
  clear h hh
  go_enter Try.func35, Try.ntmps35
  go_wp2_with fail
  go_region
  go_wp2_with fail
  have HA2 := ((((((HA.out.set8 x.mtu).set9 x.opts).set10 f).set11 x.number).set12 (.slice va l.length vc)).set13 0).drew
  have T2 : Touch (fun k => k = b) w _ := (((((((Touch.refl (fun k => k = b) w).setCell (p := ⟨b, 8, none⟩) (Or.inl rfl) (.int .u16 x.mtu)).setCell (p := ⟨b, 9, none⟩) (Or.inl rfl) (.int .u8 x.opts)).setCell (p := ⟨b, 10, none⟩) (Or.inl rfl) (.int .u8 f)).setCell (p := ⟨b, 11, none⟩) (Or.inl rfl) (.int .u32 x.number)).setCell (p := ⟨b, 12, none⟩) (Or.inl rfl) (.slice va l.length vc)).setCell (p := ⟨b, 13, none⟩) (Or.inl rfl) (.int .u16 0)).drew
  refine Calls.mono (repeat_any _ b _ l HA2 (HHB.out.touch T2 hG).at_ hl) ?_
  rintro e w1 ⟨v1, rfl, od, t⟩
  have HA3 := HA2.keep t
  have T3 := T2.trans (t.mono (fun _ _ h => h.elim))
  replace od := od.low T2.size
  clear HA2 T2 c2 c3 c7 c8 c9 c10 c11 c12 c13 hf
  go_wp2_with fail
  go_ret
  exact ⟨v1, rfl, od, HA3, T3⟩
/-- A row cut in two. -/
theorem HdsB.cut {G : Nat → Prop} {w : World} {a : Option Addr} {c : Nat} {l : List HV} (h : HdsB G w (.slice a l.length c) l) (k : Nat) (hk : k ≤ l.length) :
    ∃ u1 u2, (∀ w', Sem.run Try.prog (Instr.slice 22 (.slice a l.length c) none (some (.int .i64 (k : Int))) none) w' = .ok u1 w') ∧ (∀ w', Sem.run Try.prog (Instr.slice 22 (.slice a l.length c) (some (.int .i64 (k : Int))) none none) w' = .ok u2 w') ∧ HdsB G w u1 (l.take k) ∧ HdsB G w u2 (l.drop k) := by
  obtain ⟨hlen, hd⟩ := h.at_
  have happ : headsC l = headsC (l.take k) ++ headsC (l.drop k) := by
    conv => lhs; rw [← List.take_append_drop k l]
    simp only [headsC, List.flatMap_append]
  have hlt : (l.take k).length = k := by rw [List.length_take]; omega
  have hld : (l.drop k).length = l.length - k := List.length_drop
  have htl : (headsC (l.take k)).length = k * 8 := by rw [length_headsC, hlt]
  rcases hd with ⟨e, h0⟩ | ⟨ad, c', e, h1, h2, h3⟩
  · have e1 : l = [] := List.length_eq_zero_iff.1 h0
    subst e1
    simp only [List.length_nil] at e
    cases e
    obtain rfl : k = 0 := by simpa using hk
    refine ⟨.slice none 0 0, .slice none 0 0, fun w' => ?_, fun w' => ?_, HdsB.nil G w, HdsB.nil G w⟩
    · simp [Instr.slice, Instr.sliceBounds, Instr.sliceBound, go_sem]
    · simp [Instr.slice, Instr.sliceBounds, Instr.sliceBound, go_sem]
  · cases e
    have hc2' : (c : Int) ≤ 9223372036854775807 := by unfold maxLen at h2; omega
    have h0 : (0 : Int) ≤ (k : Int) := by omega
    have hk1 : (k : Int) ≤ (l.length : Int) := by omega
    have hk2 : (k : Int) ≤ (c : Int) := by omega
    have hlc : (l.length : Int) ≤ (c : Int) := by omega
    have hb : 0 < l.length → G ad.block := h.off ad l.length c rfl
    have hblk : (ad.add (k * 8)).block = ad.block := by unfold Addr.add; split <;> rfl
    refine ⟨.slice (some ad) k c, .slice (if c = k then some ad else some (ad.add (k * 8))) (l.length - k) (c - k), fun w' => ?_, fun w' => ?_, ⟨⟨length_headsC _, ?_⟩, ?_⟩, ⟨⟨length_headsC _, ?_⟩, ?_⟩⟩
    · simp [Instr.slice, Instr.sliceBounds, Instr.sliceBound, go_sem, h0]
      intro hh
      omega
    · simp [Instr.slice, Instr.sliceBounds, Instr.sliceBound, go_sem, h0]
      intro hh
      omega
    · rw [hlt]
      exact Or.inr ⟨ad, c, rfl, by omega, h2, fun j u hj => h3 j u (by rw [happ, List.getElem?_append_left (List.getElem?_eq_some_iff.mp hj).1]; exact hj)⟩
    · intro a n c' he hpos
      cases he
      rw [hlt] at hpos
      exact hb (by omega)
    · rw [hld]
      by_cases hz : c = k
      · rw [if_pos hz]
        have e0 : l.length - k = 0 := by omega
        have e1 : l.drop k = [] := List.length_eq_zero_iff.1 (by omega)
        rw [e1]
        exact Or.inr ⟨ad, _, rfl, by omega, by omega, fun j u hj => by simp [headsC] at hj⟩
      · rw [if_neg hz]
        refine Or.inr ⟨_, _, rfl, by omega, by omega, fun j u hj => ?_⟩
        have hl0 : 0 < l.length := by
          have hj' := (List.getElem?_eq_some_iff.mp hj).1
          rw [length_headsC, hld] at hj'
          omega
        obtain ⟨g, off, c2, e2, -, -, hcell⟩ := ValsAt.cells h.at_ hl0 (by omega)
        cases e2
        rw [add_plain, add_plain]
        have := hcell (k * 8 + j) u (by rw [happ, List.getElem?_append_right (by omega), htl, Nat.add_sub_cancel_left]; exact hj)
        rwa [Nat.add_assoc]
    · intro a n c' he hpos
      rw [hld] at hpos
      split at he
      · cases he
        exact hb (by omega)
      · cases he
        rw [hblk]
        exact hb (by omega)
/-- The flags of a description: the master's, and more to come. -/
def flg (ma : Bool) (more : Bool) : Int := (if ma then 1 else 0) + (if more then 2 else 0)
set_option maxHeartbeats 4000000 in
theorem next_any (w : World) (b : Nat) (x : AJ) (l : List HV) (h : Ads w b x) (G : Nat → Prop) (hh : HdsB G w x.left l) (hG : ¬ G b) (hl : l.length ≤ 1000000) :
    Calls Try.prog 80 #[.pointer (some ⟨b, 0, none⟩)] w fun e w' => ∃ u v1 v2, e = .returned u ∧ OneDH w.heap.size w' u x.mtu x.opts (flg x.master (decide (16 < l.length))) x.number (l.take 16) ∧ Ads w' b { x with smtu := x.mtu, sopts := x.opts, sflags := flg x.master (decide (16 < l.length)), sseq := x.number, sheads := v1, waited := 0, left := v2 } ∧ HdsB G w' v2 (l.drop 16) ∧ Touch (fun k => k = b) w w' := by
  obtain ⟨la, lc, hlf, -⟩ := ValsAt.form hh.at_
  rw [hlf] at hh
  have c15 : w.cell? ⟨b, 15, none⟩ = some (.bool x.master) := h.cell 15
  have c16 : w.cell? ⟨b, 16, none⟩ = some (.slice la l.length lc) := by rw [← hlf]; exact h.cell 16
  have hb := h.lt
  have hf := h.frozen
  have HA : Hid (Ads w b x) := h
  have hb1 : bits .or .u8 0 1 = 1 := by decide
  have hb2 : bits .or .u8 1 2 = 3 := by decide
  have hb3 : bits .or .u8 0 2 = 2 := by decide
  clear h
  by_cases hk : 16 < l.length
  · have hmin : min (l.length : Int) 16 = 16 := by omega
    obtain ⟨u1, u2, s1, s2, hu1, hu2⟩ := hh.cut 16 (by omega)
    have s1' : ∀ w', Sem.run Try.prog (Instr.slice 22 (.slice la l.length lc) none (some (.int .i64 16)) none) w' = .ok u1 w' := s1
    have s2' : ∀ w', Sem.run Try.prog (Instr.slice 22 (.slice la l.length lc) (some (.int .i64 16)) none none) w' = .ok u2 w' := s2
    clear s1 s2
    cases hma : x.master
    · have hfl : flg false (decide (16 < l.length)) = 2 := by rw [decide_eq_true hk]; rfl
      rw [hma] at c15
      obtain ⟨u1a, u1c, rfl, -⟩ := ValsAt.form hu1.at_
      obtain ⟨u2a, u2c, rfl, -⟩ := ValsAt.form hu2.at_
      have hdl : (((l.drop 16).length : Nat) : Int) = (l.length : Int) - 16 := by rw [List.length_drop]; omega
      generalize (l.take 16).length = n1 at *
      generalize (l.drop 16).length = n2 at *
      have HA2 := HA.out.set16 (.slice u2a n2 u2c)
      have t2 : Touch (fun k => k = b) w (w.setCell ⟨b, 16, none⟩ (.slice u2a n2 u2c)) := (Touch.refl (fun k => k = b) w).setCell (p := ⟨b, 16, none⟩) (Or.inl rfl) _
      have HTL : Hid (Calls Try.prog 35 #[.pointer (some ⟨b, 0, none⟩), .int .u8 2, .slice u1a n1 u1c] (w.setCell ⟨b, 16, none⟩ (.slice u2a n2 u2c)) fun e w' => ∃ u, e = .returned u ∧ OneDH (w.setCell ⟨b, 16, none⟩ (.slice u2a n2 u2c)).heap.size w' u x.mtu x.opts 2 x.number (l.take 16) ∧ Ads w' b { x with smtu := x.mtu, sopts := x.opts, sflags := 2, sseq := x.number, sheads := .slice u1a n1 u1c, waited := 0, left := .slice u2a n2 u2c } ∧ Touch (fun k => k = b) (w.setCell ⟨b, 16, none⟩ (.slice u2a n2 u2c)) w') := tell_any _ b _ 2 _ _ HA2 G (hu1.touch t2 hG) hG (by rw [List.length_take]; omega)
      have HX : Hid (HdsB G (w.setCell ⟨b, 16, none⟩ (.slice u2a n2 u2c)) (.slice u2a n2 u2c) (l.drop 16) ∧ Touch (fun k => k = b) w (w.setCell ⟨b, 16, none⟩ (.slice u2a n2 u2c))) := ⟨hu2.touch t2 hG, t2⟩
      have hd1 : (0 : Int) < (n2 : Int) := by omega
      clear hh hu1 hu2 HA2 t2 hlf
      go_enter Try.func80, Try.ntmps80
      go_wp2_with fail
      refine Calls.mono HTL.out ?_
      rintro e w1 ⟨u, rfl, od, ha, t3⟩
      clear c15 c16 hf s1' s2'
      go_wp2_with fail
      go_ret
      exact ⟨u, .slice u1a n1 u1c, .slice u2a n2 u2c, rfl, (by rw [hfl]; exact od.low HX.out.2.size), (by rw [hfl]; rw [hma] at ha; exact ha), HX.out.1.touch t3 hG, HX.out.2.trans t3⟩
    · have hfl : flg true (decide (16 < l.length)) = 3 := by rw [decide_eq_true hk]; rfl
      rw [hma] at c15
      obtain ⟨u1a, u1c, rfl, -⟩ := ValsAt.form hu1.at_
      obtain ⟨u2a, u2c, rfl, -⟩ := ValsAt.form hu2.at_
      have hdl : (((l.drop 16).length : Nat) : Int) = (l.length : Int) - 16 := by rw [List.length_drop]; omega
      generalize (l.take 16).length = n1 at *
      generalize (l.drop 16).length = n2 at *
      have HA2 := HA.out.set16 (.slice u2a n2 u2c)
      have t2 : Touch (fun k => k = b) w (w.setCell ⟨b, 16, none⟩ (.slice u2a n2 u2c)) := (Touch.refl (fun k => k = b) w).setCell (p := ⟨b, 16, none⟩) (Or.inl rfl) _
      have HTL : Hid (Calls Try.prog 35 #[.pointer (some ⟨b, 0, none⟩), .int .u8 3, .slice u1a n1 u1c] (w.setCell ⟨b, 16, none⟩ (.slice u2a n2 u2c)) fun e w' => ∃ u, e = .returned u ∧ OneDH (w.setCell ⟨b, 16, none⟩ (.slice u2a n2 u2c)).heap.size w' u x.mtu x.opts 3 x.number (l.take 16) ∧ Ads w' b { x with smtu := x.mtu, sopts := x.opts, sflags := 3, sseq := x.number, sheads := .slice u1a n1 u1c, waited := 0, left := .slice u2a n2 u2c } ∧ Touch (fun k => k = b) (w.setCell ⟨b, 16, none⟩ (.slice u2a n2 u2c)) w') := tell_any _ b _ 3 _ _ HA2 G (hu1.touch t2 hG) hG (by rw [List.length_take]; omega)
      have HX : Hid (HdsB G (w.setCell ⟨b, 16, none⟩ (.slice u2a n2 u2c)) (.slice u2a n2 u2c) (l.drop 16) ∧ Touch (fun k => k = b) w (w.setCell ⟨b, 16, none⟩ (.slice u2a n2 u2c))) := ⟨hu2.touch t2 hG, t2⟩
      have hd1 : (0 : Int) < (n2 : Int) := by omega
      clear hh hu1 hu2 HA2 t2 hlf
      go_enter Try.func80, Try.ntmps80
      go_wp2_with fail
      refine Calls.mono HTL.out ?_
      rintro e w1 ⟨u, rfl, od, ha, t3⟩
      clear c15 c16 hf s1' s2'
      go_wp2_with fail
      go_ret
      exact ⟨u, .slice u1a n1 u1c, .slice u2a n2 u2c, rfl, (by rw [hfl]; exact od.low HX.out.2.size), (by rw [hfl]; rw [hma] at ha; exact ha), HX.out.1.touch t3 hG, HX.out.2.trans t3⟩
  · have hmin : min (l.length : Int) 16 = (l.length : Int) := by omega
    have htk : l.take 16 = l.take l.length := by rw [List.take_length, List.take_of_length_le (by omega)]
    have hdk : l.drop 16 = l.drop l.length := by rw [List.drop_length, List.drop_of_length_le (by omega)]
    obtain ⟨u1, u2, s1', s2', hu1, hu2⟩ := hh.cut l.length (Nat.le_refl _)
    cases hma : x.master
    · have hfl : flg false (decide (16 < l.length)) = 0 := by rw [decide_eq_false hk]; rfl
      rw [hma] at c15
      obtain ⟨u1a, u1c, rfl, -⟩ := ValsAt.form hu1.at_
      obtain ⟨u2a, u2c, rfl, -⟩ := ValsAt.form hu2.at_
      have hdl : (((l.drop l.length).length : Nat) : Int) = 0 := by rw [List.length_drop]; omega
      generalize (l.take l.length).length = n1 at *
      generalize (l.drop l.length).length = n2 at *
      have HA2 := HA.out.set16 (.slice u2a n2 u2c)
      have t2 : Touch (fun k => k = b) w (w.setCell ⟨b, 16, none⟩ (.slice u2a n2 u2c)) := (Touch.refl (fun k => k = b) w).setCell (p := ⟨b, 16, none⟩) (Or.inl rfl) _
      have HTL : Hid (Calls Try.prog 35 #[.pointer (some ⟨b, 0, none⟩), .int .u8 0, .slice u1a n1 u1c] (w.setCell ⟨b, 16, none⟩ (.slice u2a n2 u2c)) fun e w' => ∃ u, e = .returned u ∧ OneDH (w.setCell ⟨b, 16, none⟩ (.slice u2a n2 u2c)).heap.size w' u x.mtu x.opts 0 x.number (l.take l.length) ∧ Ads w' b { x with smtu := x.mtu, sopts := x.opts, sflags := 0, sseq := x.number, sheads := .slice u1a n1 u1c, waited := 0, left := .slice u2a n2 u2c } ∧ Touch (fun k => k = b) (w.setCell ⟨b, 16, none⟩ (.slice u2a n2 u2c)) w') := tell_any _ b _ 0 _ _ HA2 G (hu1.touch t2 hG) hG (by rw [List.length_take]; omega)
      have HX : Hid (HdsB G (w.setCell ⟨b, 16, none⟩ (.slice u2a n2 u2c)) (.slice u2a n2 u2c) (l.drop l.length) ∧ Touch (fun k => k = b) w (w.setCell ⟨b, 16, none⟩ (.slice u2a n2 u2c))) := ⟨hu2.touch t2 hG, t2⟩
      have hd1 : ¬ (0 : Int) < (n2 : Int) := by omega
      clear hh hu1 hu2 HA2 t2 hlf
      go_enter Try.func80, Try.ntmps80
      go_wp2_with fail
      refine Calls.mono HTL.out ?_
      rintro e w1 ⟨u, rfl, od, ha, t3⟩
      clear c15 c16 hf s1' s2'
      go_wp2_with fail
      go_ret
      exact ⟨u, .slice u1a n1 u1c, .slice u2a n2 u2c, rfl, (by rw [hfl, htk]; exact od.low HX.out.2.size), (by rw [hfl]; rw [hma] at ha; exact ha), (by rw [hdk]; exact HX.out.1.touch t3 hG), HX.out.2.trans t3⟩
    · have hfl : flg true (decide (16 < l.length)) = 1 := by rw [decide_eq_false hk]; rfl
      rw [hma] at c15
      obtain ⟨u1a, u1c, rfl, -⟩ := ValsAt.form hu1.at_
      obtain ⟨u2a, u2c, rfl, -⟩ := ValsAt.form hu2.at_
      have hdl : (((l.drop l.length).length : Nat) : Int) = 0 := by rw [List.length_drop]; omega
      generalize (l.take l.length).length = n1 at *
      generalize (l.drop l.length).length = n2 at *
      have HA2 := HA.out.set16 (.slice u2a n2 u2c)
      have t2 : Touch (fun k => k = b) w (w.setCell ⟨b, 16, none⟩ (.slice u2a n2 u2c)) := (Touch.refl (fun k => k = b) w).setCell (p := ⟨b, 16, none⟩) (Or.inl rfl) _
      have HTL : Hid (Calls Try.prog 35 #[.pointer (some ⟨b, 0, none⟩), .int .u8 1, .slice u1a n1 u1c] (w.setCell ⟨b, 16, none⟩ (.slice u2a n2 u2c)) fun e w' => ∃ u, e = .returned u ∧ OneDH (w.setCell ⟨b, 16, none⟩ (.slice u2a n2 u2c)).heap.size w' u x.mtu x.opts 1 x.number (l.take l.length) ∧ Ads w' b { x with smtu := x.mtu, sopts := x.opts, sflags := 1, sseq := x.number, sheads := .slice u1a n1 u1c, waited := 0, left := .slice u2a n2 u2c } ∧ Touch (fun k => k = b) (w.setCell ⟨b, 16, none⟩ (.slice u2a n2 u2c)) w') := tell_any _ b _ 1 _ _ HA2 G (hu1.touch t2 hG) hG (by rw [List.length_take]; omega)
      have HX : Hid (HdsB G (w.setCell ⟨b, 16, none⟩ (.slice u2a n2 u2c)) (.slice u2a n2 u2c) (l.drop l.length) ∧ Touch (fun k => k = b) w (w.setCell ⟨b, 16, none⟩ (.slice u2a n2 u2c))) := ⟨hu2.touch t2 hG, t2⟩
      have hd1 : ¬ (0 : Int) < (n2 : Int) := by omega
      clear hh hu1 hu2 HA2 t2 hlf
      go_enter Try.func80, Try.ntmps80
      go_wp2_with fail
      refine Calls.mono HTL.out ?_
      rintro e w1 ⟨u, rfl, od, ha, t3⟩
      clear c15 c16 hf s1' s2'
      go_wp2_with fail
      go_ret
      exact ⟨u, .slice u1a n1 u1c, .slice u2a n2 u2c, rfl, (by rw [hfl, htk]; exact od.low HX.out.2.size), (by rw [hfl]; rw [hma] at ha; exact ha), (by rw [hdk]; exact HX.out.1.touch t3 hG), HX.out.2.trans t3⟩
end Go.Proofs.Ytojlnabhaglejaa
