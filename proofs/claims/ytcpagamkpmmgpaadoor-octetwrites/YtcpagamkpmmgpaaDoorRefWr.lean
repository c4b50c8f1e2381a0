/- Contracts of the document's writer (lodestarref01.Writer). -/
import Derived.Test.YtcpagamkpmmgpaaDoorWrAll
import Derived.Test.YtcpagamkpmmgpaaDoorArgs
import Derived.Laws.AppendOwnNone
namespace Go.Proofs.YtcpagamkpmmgpaaDoor
open Go.RowKit
set_option linter.unusedVariables false
set_option maxRecDepth 100000

/-- The document's writer lies in block b. -/
structure DwS (w : World) (b : Nat) (v : Value) (bs : List Int) (most err : Int) : Prop where
  row : w.cell? ⟨b, 0, none⟩ = some v
  most : w.cell? ⟨b, 1, none⟩ = some (.int .i64 most)
  err : w.cell? ⟨b, 2, none⟩ = some (.int .i64 err)
  f0 : w.frozen? ⟨b, 0, none⟩ = false
  f2 : w.frozen? ⟨b, 2, none⟩ = false
  own : w.ownsRow (b + 1) 5 1 v bs.length (bytesOf bs)

theorem DwS.touch {F : Nat → Prop} {w w' : World} {b : Nat} {v : Value} {bs : List Int} {most err : Int} (h : DwS w b v bs most err) (t : Touch F w w') (hb : ¬ F b) (hn : ∀ k, v.ownBlock = some k → ¬ F k) : DwS w' b v bs most err := by
  have hl := lt_of_cell h.row
  exact ⟨(t.cell hl hb).trans h.row, (t.cell hl hb).trans h.most, (t.cell hl hb).trans h.err, (t.frozen hl hb).trans h.f0, (t.frozen hl hb).trans h.f2, own_touch h.own t hn⟩
theorem DwS.drewN {w : World} {b : Nat} {v : Value} {bs : List Int} {most err : Int} (h : DwS w b v bs most err) (n : Nat) : DwS (w.drewN n) b v bs most err :=
  h.touch (F := fun _ => False) ((Touch.refl _ _).drewN n) (fun h => h) (fun _ _ h => h)
theorem DwS.alloc {w : World} {b : Nat} {v : Value} {bs : List Int} {most err : Int} (h : DwS w b v bs most err) (o : Obj) : DwS (w.alloc o) b v bs most err :=
  h.touch (F := fun _ => False) ((Touch.refl _ _).alloc o) (fun h => h) (fun _ _ h => h)
theorem DwS.setErr {w : World} {b : Nat} {v : Value} {bs : List Int} {most err : Int} (h : DwS w b v bs most err) (q : Int) : DwS (w.setCell ⟨b, 2, none⟩ (.int .i64 q)) b v bs most q := by
  exact ⟨by simp [h.row, go_sem], by simp [h.most, go_sem], by simp [h.err, go_sem], by simp [h.f0, go_sem], by simp [h.f2, go_sem], own_setCell h.own (Nat.lt_succ_self b) _⟩
theorem DwS.touchErr {w : World} {b : Nat} {v : Value} (q : Value) : Touch (wrF b v) w (w.setCell ⟨b, 2, none⟩ q) := Touch.setCell (F := wrF b v) (p := ⟨b, 2, none⟩) (Touch.refl _ w) (Or.inl (Or.inl rfl)) _

/-- Behind an append to the row and the store of the new row. -/
theorem dw_appended {w w1 : World} {b : Nat} {v v' : Value} {bs bs' : List Int} {most err : Int} (h : DwS w b v bs most err) (hg : w.grownBy w1 v.ownBlock)
    (hown : w1.ownsRow (b + 1) 5 1 v' bs'.length (bytesOf bs')) : DwS (w1.setCell ⟨b, 0, none⟩ v') b v' bs' most err ∧ Touch (wrF b v) w (w1.setCell ⟨b, 0, none⟩ v') := by
  have hl := lt_of_cell h.row
  have hne : ¬ v.ownBlock = some b := own_ne h.own (Nat.lt_succ_self b)
  have t0 : Touch (fun k => v.ownBlock = some k) w w1 := (Touch.refl _ _).grown hg (fun k hk => Or.inl hk)
  have c0 := (t0.cell (p := ⟨b, 0, none⟩) hl hne).trans h.row
  have c1 := (t0.cell (p := ⟨b, 1, none⟩) hl hne).trans h.most
  have c2 := (t0.cell (p := ⟨b, 2, none⟩) hl hne).trans h.err
  have f0 := (t0.frozen (p := ⟨b, 0, none⟩) hl hne).trans h.f0
  have f2 := (t0.frozen (p := ⟨b, 2, none⟩) hl hne).trans h.f2
  refine ⟨⟨?_, ?_, ?_, ?_, ?_, own_setCell hown (Nat.lt_succ_self b) _⟩, Touch.setCell (F := wrF b v) (p := ⟨b, 0, none⟩) (t0.mono (fun i _ hi => Or.inr hi)) (Or.inl (Or.inl rfl)) _⟩
  · simp [c0, go_sem]
  · simp [c1, go_sem]
  · simp [c2, go_sem]
  · simp [f0, go_sem]
  · simp [f2, go_sem]

/-- A number that has not so many bytes, or a size that there is not. -/
def Bad (x n : Int) : Prop := n < 1 ∨ 4 < n ∨ (n = 1 ∧ 256 ≤ x) ∨ (n = 2 ∧ 65536 ≤ x) ∨ (n = 3 ∧ 16777216 ≤ x)
theorem good_of (x n : Int) (hx : x < 4294967296) (h : ¬ Bad x n) : ∃ m : Nat, n = m ∧ 1 ≤ m ∧ m ≤ 4 ∧ x < 256 ^ m := by
  refine ⟨n.toNat, ?_⟩
  unfold Bad at h
  have h1 : 1 ≤ n ∧ n ≤ 4 := by omega
  rcases (by omega : n = 1 ∨ n = 2 ∨ n = 3 ∨ n = 4) with rfl | rfl | rfl | rfl <;> simp <;> omega

theorem fits_no (x n : Int) (w : World) (hx : 0 ≤ x ∧ x < 4294967296) (hn : Bad x n) :
    Calls Tryd.prog 62 #[.int .u32 x, .int .i64 n] w fun e w' => e = .returned (.bool false) ∧ w = w' := by
  obtain ⟨hx0, hx1⟩ := hx
  rcases hn with hn | hn | ⟨rfl, hn⟩ | ⟨rfl, hn⟩ | ⟨rfl, hn⟩
  · have h1 : decide ((1 : Int) ≤ n) = false := by simp; omega
    go_enter Tryd.func62, Tryd.ntmps62
    go_wp2
    go_ret
    exact ⟨rfl, rfl⟩
  · have h1 : (1 : Int) ≤ n := by omega
    have h2 : decide (n ≤ 4) = false := by simp; omega
    go_enter Tryd.func62, Tryd.ntmps62
    go_wp2
    go_ret
    exact ⟨rfl, rfl⟩
  · have h1 : (x / 256 == 0) = false := by simp; omega
    go_enter Tryd.func62, Tryd.ntmps62
    go_wp2
    go_ret
    exact ⟨rfl, rfl⟩
  · have h1 : (x / 65536 == 0) = false := by simp; omega
    go_enter Tryd.func62, Tryd.ntmps62
    go_wp2
    go_ret
    exact ⟨rfl, rfl⟩
  · have h1 : (x / 16777216 == 0) = false := by simp; omega
    go_enter Tryd.func62, Tryd.ntmps62
    go_wp2
    go_ret
    exact ⟨rfl, rfl⟩

theorem fits_yes (x : Int) (m : Nat) (w : World) (hx0 : 0 ≤ x) (h1 : 1 ≤ m) (h4 : m ≤ 4) (hx : x < 256 ^ m) :
    Calls Tryd.prog 62 #[.int .u32 x, .int .i64 m] w fun e w' => e = .returned (.bool true) ∧ w = w' := by
  rcases (by omega : m = 1 ∨ m = 2 ∨ m = 3 ∨ m = 4) with rfl | rfl | rfl | rfl
  · have e : (x / 256 == 0) = true := by simp at hx ⊢; omega
    go_enter Tryd.func62, Tryd.ntmps62
    go_wp2
    go_ret
    exact ⟨rfl, rfl⟩
  · have e : (x / 65536 == 0) = true := by simp at hx ⊢; omega
    go_enter Tryd.func62, Tryd.ntmps62
    go_wp2
    go_ret
    exact ⟨rfl, rfl⟩
  · have e : (x / 16777216 == 0) = true := by simp at hx ⊢; omega
    go_enter Tryd.func62, Tryd.ntmps62
    go_wp2
    go_ret
    exact ⟨rfl, rfl⟩
  · go_enter Tryd.func62, Tryd.ntmps62
    go_wp2
    go_ret
    exact ⟨rfl, rfl⟩

theorem Tryd.info5f : (Tryd.prog.info? 5).map (fun i => (i.zero, i.size, i.bytes)) = some (some (.int .u8 0), 1, 1) := by kernel_rfl

theorem dput_fitP (b : Nat) (v : Value) (bs : List Int) (most : Int) (s : Value) (ns : List Int) (w : World) (h : DwS w b v bs most 0) (hs : ArgAt w s ns) (hcap : bs.length + ns.length ≤ 1099511627776)
    (hmb : most ≤ 9223372036854775807) (hm : 0 ≤ most) (hfit : (bs.length : Int) + ns.length ≤ most) :
    Calls Tryd.prog 24 #[.pointer (some ⟨b, 0, none⟩), s] w fun e w' => e = .returned (.tuple #[]) ∧
      ∃ v', DwS w' b v' (bs ++ ns) most 0 ∧ Touch (wrF b v) w w' ∧ Moved w v v' := by
  obtain ⟨i0, hi, hz0, hz1, hz2⟩ := info_parts Tryd.info5f
  obtain ⟨va, vc, rfl⟩ := own_form h.own
  have h0 := h.row
  have h1 := h.most
  have h2 := h.err
  have hf0 := h.f0
  have hlt := lt_of_cell h0
  have HW : Hid (DwS w b (.slice va bs.length vc) bs most 0) := h
  have HO : Hid (∀ q, (w.drewN q).ownsRow (b + 1) 5 1 (.slice va bs.length vc) bs.length (bytesOf bs)) := fun q => (h.drewN q).own
  have hfit' : ¬ most - (bs.length : Int) < (ns.length : Int) := by omega
  have hmx : max most 0 = most := by omega
  clear h
  rcases hs with ⟨rfl, rfl⟩ | ⟨ad, c, rfl, hlc, hcm, hcells⟩
  · have HD : ∀ q, Hid (DwS ((w.drewN q).setCell ⟨b, 0, none⟩ (.slice va bs.length vc)) b (.slice va bs.length vc) bs most 0 ∧ Touch (wrF b (.slice va bs.length vc)) w ((w.drewN q).setCell ⟨b, 0, none⟩ (.slice va bs.length vc))) := fun q => by
      have := dw_appended (bs' := bs) (w1 := w.drewN q) HW.out ⟨rfl, rfl, rfl, Nat.le_refl _, fun _ _ _ => rfl⟩ (HO.out q)
      exact this
    simp only [List.length_nil] at hfit'
    go_enter Tryd.func24, Tryd.ntmps24
    go_wp2
    go_quiet (fail)
    go_wp2_with (at_builtin; refine wpList_append_own_none rfl (.tmp 30) (.tmp 31) 22 rfl (b + 1) 5 i0 1 Tryd.underlying22 hi (.slice va bs.length vc) bs.length (bytesOf bs) rfl ?c0 rfl ?_)
    case c0 => exact HO.out nq
    go_end0
    exact ⟨rfl, .slice va bs.length vc, by rw [List.append_nil]; exact (HD _).out.1, (HD _).out.2, Or.inl rfl⟩
  · have HS : Hid (∀ j u, (bytesOf ns)[j]? = some u → w.cell? (ad.add j) = some u) := hcells
    clear hcells
    go_enter Tryd.func24, Tryd.ntmps24
    go_wp2
    go_quiet (fail)
    go_wp2_with (at_builtin; refine wpList_append_own_at _ rfl (.tmp 30) (.tmp 31) 22 rfl (b + 1) 5 i0 (.int .u8 0) 1 1 Tryd.underlying22 hi hz0 hz1 hz2 rfl (by decide) (.slice va bs.length vc) bs.length (bytesOf bs) rfl ?c0 ad ns.length c (bytesOf ns) rfl ?c6 ?c1 ?c2 ?c3 ?c4 ?c5 ?_)
    case c0 => exact HO.out nq
    case c6 => simp [length_bytesOf]
    case c1 => exact HS.out
    case c2 => exact oneCell_bytesOf ns
    case c3 => unfold maxLen; omega
    case c4 => omega
    case c5 => show b + 1 ≤ w.heap.size; omega
    intro v' w1 hown' hgrow _ hat
    have R := dw_appended (bs' := bs ++ ns) (HW.out.drewN nq) hgrow (by rw [bytesOf_append, List.length_append]; exact hown')
    have hne : ¬ (Value.slice va bs.length vc).ownBlock = some b := own_ne HW.out.own (Nat.lt_succ_self b)
    have hc1 : w1.cell? ⟨b, 0, none⟩ = some (.slice va bs.length vc) := (World.cell?_of_block (w := w) (hgrow.block b hlt (fun e => hne e.symm))).trans h0
    have hf1' : w1.frozen? ⟨b, 0, none⟩ = false := (World.frozen?_of_block (w := w) (hgrow.block b hlt (fun e => hne e.symm))).trans hf0
    obtain ⟨va', vc', rfl⟩ := own_form hown'
    have HR : Hid (DwS (w1.setCell ⟨b, 0, none⟩ (.slice va' (bs.length + ns.length) vc')) b (.slice va' (bs.length + ns.length) vc') (bs ++ ns) most 0 ∧ Touch (wrF b (.slice va bs.length vc)) (w.drewN nq) (w1.setCell ⟨b, 0, none⟩ (.slice va' (bs.length + ns.length) vc'))) := R
    have HA : Hid ((Value.slice va' (bs.length + ns.length) vc').ownBlock = (Value.slice va bs.length vc).ownBlock ∨ (Value.slice va' (bs.length + ns.length) vc').ownBlock = some w.heap.size) := hat
    clear R hown' hgrow hat hne h0 h1 h2 hf0
    go_wp2
    go_end0
    refine ⟨rfl, _, HR.out.1, ((Touch.refl _ _).drewN nq).trans HR.out.2, ?_⟩
    rcases HA.out with h | h
    · exact Or.inl h
    · exact Or.inr ⟨_, h, Nat.le_refl _⟩

theorem dput_fitN (b : Nat) (v : Value) (bs : List Int) (most : Int) (s : Value) (ns : List Int) (w : World) (h : DwS w b v bs most 0) (hs : ArgAt w s ns) (hcap : bs.length + ns.length ≤ 1099511627776)
    (hmb : most ≤ 9223372036854775807) (hm : most < 0) (hfit : (bs.length : Int) + ns.length ≤ 0) :
    Calls Tryd.prog 24 #[.pointer (some ⟨b, 0, none⟩), s] w fun e w' => e = .returned (.tuple #[]) ∧
      ∃ v', DwS w' b v' (bs ++ ns) most 0 ∧ Touch (wrF b v) w w' ∧ Moved w v v' := by
  obtain ⟨i0, hi, hz0, hz1, hz2⟩ := info_parts Tryd.info5f
  obtain ⟨va, vc, rfl⟩ := own_form h.own
  have h0 := h.row
  have h1 := h.most
  have h2 := h.err
  have hf0 := h.f0
  have hlt := lt_of_cell h0
  have HW : Hid (DwS w b (.slice va bs.length vc) bs most 0) := h
  have HO : Hid (∀ q, (w.drewN q).ownsRow (b + 1) 5 1 (.slice va bs.length vc) bs.length (bytesOf bs)) := fun q => (h.drewN q).own
  have hfit' : ¬ 0 - (bs.length : Int) < (ns.length : Int) := by omega
  have hmx : max most 0 = 0 := by omega
  clear h
  rcases hs with ⟨rfl, rfl⟩ | ⟨ad, c, rfl, hlc, hcm, hcells⟩
  · have HD : ∀ q, Hid (DwS ((w.drewN q).setCell ⟨b, 0, none⟩ (.slice va bs.length vc)) b (.slice va bs.length vc) bs most 0 ∧ Touch (wrF b (.slice va bs.length vc)) w ((w.drewN q).setCell ⟨b, 0, none⟩ (.slice va bs.length vc))) := fun q => by
      have := dw_appended (bs' := bs) (w1 := w.drewN q) HW.out ⟨rfl, rfl, rfl, Nat.le_refl _, fun _ _ _ => rfl⟩ (HO.out q)
      exact this
    simp only [List.length_nil] at hfit'
    go_enter Tryd.func24, Tryd.ntmps24
    go_wp2
    go_quiet (fail)
    go_wp2_with (at_builtin; refine wpList_append_own_none rfl (.tmp 30) (.tmp 31) 22 rfl (b + 1) 5 i0 1 Tryd.underlying22 hi (.slice va bs.length vc) bs.length (bytesOf bs) rfl ?c0 rfl ?_)
    case c0 => exact HO.out nq
    go_end0
    exact ⟨rfl, .slice va bs.length vc, by rw [List.append_nil]; exact (HD _).out.1, (HD _).out.2, Or.inl rfl⟩
  · have HS : Hid (∀ j u, (bytesOf ns)[j]? = some u → w.cell? (ad.add j) = some u) := hcells
    clear hcells
    go_enter Tryd.func24, Tryd.ntmps24
    go_wp2
    go_quiet (fail)
    go_wp2_with (at_builtin; refine wpList_append_own_at _ rfl (.tmp 30) (.tmp 31) 22 rfl (b + 1) 5 i0 (.int .u8 0) 1 1 Tryd.underlying22 hi hz0 hz1 hz2 rfl (by decide) (.slice va bs.length vc) bs.length (bytesOf bs) rfl ?c0 ad ns.length c (bytesOf ns) rfl ?c6 ?c1 ?c2 ?c3 ?c4 ?c5 ?_)
    case c0 => exact HO.out nq
    case c6 => simp [length_bytesOf]
    case c1 => exact HS.out
    case c2 => exact oneCell_bytesOf ns
    case c3 => unfold maxLen; omega
    case c4 => omega
    case c5 => show b + 1 ≤ w.heap.size; omega
    intro v' w1 hown' hgrow _ hat
    have R := dw_appended (bs' := bs ++ ns) (HW.out.drewN nq) hgrow (by rw [bytesOf_append, List.length_append]; exact hown')
    have hne : ¬ (Value.slice va bs.length vc).ownBlock = some b := own_ne HW.out.own (Nat.lt_succ_self b)
    have hc1 : w1.cell? ⟨b, 0, none⟩ = some (.slice va bs.length vc) := (World.cell?_of_block (w := w) (hgrow.block b hlt (fun e => hne e.symm))).trans h0
    have hf1' : w1.frozen? ⟨b, 0, none⟩ = false := (World.frozen?_of_block (w := w) (hgrow.block b hlt (fun e => hne e.symm))).trans hf0
    obtain ⟨va', vc', rfl⟩ := own_form hown'
    have HR : Hid (DwS (w1.setCell ⟨b, 0, none⟩ (.slice va' (bs.length + ns.length) vc')) b (.slice va' (bs.length + ns.length) vc') (bs ++ ns) most 0 ∧ Touch (wrF b (.slice va bs.length vc)) (w.drewN nq) (w1.setCell ⟨b, 0, none⟩ (.slice va' (bs.length + ns.length) vc'))) := R
    have HA : Hid ((Value.slice va' (bs.length + ns.length) vc').ownBlock = (Value.slice va bs.length vc).ownBlock ∨ (Value.slice va' (bs.length + ns.length) vc').ownBlock = some w.heap.size) := hat
    clear R hown' hgrow hat hne h0 h1 h2 hf0
    go_wp2
    go_end0
    refine ⟨rfl, _, HR.out.1, ((Touch.refl _ _).drewN nq).trans HR.out.2, ?_⟩
    rcases HA.out with h | h
    · exact Or.inl h
    · exact Or.inr ⟨_, h, Nat.le_refl _⟩

theorem dput_long (b : Nat) (v : Value) (bs : List Int) (most M : Int) (a : Option Addr) (m c : Nat) (w : World) (h : DwS w b v bs most 0) (hcap : bs.length + m ≤ 1099511627776) (hmb : most ≤ 9223372036854775807)
    (hM : (0 ≤ most ∧ M = most) ∨ (most < 0 ∧ M = 0)) (hfit : M < (bs.length : Int) + m) :
    Calls Tryd.prog 24 #[.pointer (some ⟨b, 0, none⟩), .slice a m c] w fun e w' => e = .returned (.tuple #[]) ∧ DwS w' b v bs most 11 ∧ Touch (wrF b v) w w' := by
  obtain ⟨va, vc, rfl⟩ := own_form h.own
  have h0 := h.row
  have h1 := h.most
  have h2 := h.err
  have hf2 := h.f2
  have hlt := lt_of_cell h0
  have HW : ∀ q, Hid (DwS (w.drewN q) b (.slice va bs.length vc) bs most 0) := fun q => h.drewN q
  have hfit' : M - (bs.length : Int) < (m : Int) := by omega
  clear h hfit
  rcases hM with ⟨hm, rfl⟩ | ⟨hm, rfl⟩
  all_goals
    go_enter Tryd.func24, Tryd.ntmps24
    go_wp2
    go_quiet (fail)
    go_wp2
    go_returns
    exact ⟨rfl, (HW _).out.setErr 11, ((Touch.refl _ w).drewN _).trans (DwS.touchErr _)⟩

theorem dput_all (b : Nat) (v : Value) (bs : List Int) (most err : Int) (s : Value) (ns : List Int) (w : World) (h : DwS w b v bs most err) (hs : ArgAt w s ns) (hcap : bs.length + ns.length ≤ 1099511627776) (hmb : most ≤ 9223372036854775807) :
    Calls Tryd.prog 24 #[.pointer (some ⟨b, 0, none⟩), s] w fun e w' => e = .returned (.tuple #[]) ∧
      ∃ v', DwS w' b v' (putB bs (max most 0) err ns) most (putE bs (max most 0) err ns) ∧ Touch (wrF b v) w w' ∧ Moved w v v' := by
  by_cases he : err = 0
  · subst he
    have hM : (0 ≤ most ∧ max most 0 = most) ∨ (most < 0 ∧ max most 0 = 0) := by omega
    by_cases hfit : (bs.length : Int) + ns.length ≤ max most 0
    · have fin : ∀ (e : Ending) (w' : World), (e = .returned (.tuple #[]) ∧ ∃ v', DwS w' b v' (bs ++ ns) most 0 ∧ Touch (wrF b v) w w' ∧ Moved w v v') → e = .returned (.tuple #[]) ∧ ∃ v', DwS w' b v' (putB bs (max most 0) 0 ns) most (putE bs (max most 0) 0 ns) ∧ Touch (wrF b v) w w' ∧ Moved w v v' := by
        rintro e w' ⟨rfl, v', h1, h2, h3⟩
        exact ⟨rfl, v', by simpa [putB, putE, hfit] using h1, h2, h3⟩
      rcases hM with ⟨hm, hM⟩ | ⟨hm, hM⟩
      · exact (dput_fitP b v bs most s ns w h hs hcap hmb hm (by omega)).mono fin
      · exact (dput_fitN b v bs most s ns w h hs hcap hmb hm (by omega)).mono fin
    · obtain ⟨sa, sc, rfl, _⟩ := hs.form
      refine (dput_long b v bs most _ sa ns.length sc w h hcap hmb hM (by omega)).mono ?_
      rintro e w' ⟨rfl, h1, h2⟩
      exact ⟨rfl, v, by simpa [putB, putE, hfit] using h1, h2, Or.inl rfl⟩
  · have h2 := h.err
    have he' : (err != 0) = true := by simpa using he
    have hb : putB bs (max most 0) err ns = bs := by simp [putB, he]
    have hq : putE bs (max most 0) err ns = err := by simp [putE, he]
    rw [hb, hq]
    go_enter Tryd.func24, Tryd.ntmps24
    go_wp2
    go_returns
    exact ⟨rfl, _, h, Touch.refl _ _, Or.inl rfl⟩
end Go.Proofs.YtcpagamkpmmgpaaDoor
