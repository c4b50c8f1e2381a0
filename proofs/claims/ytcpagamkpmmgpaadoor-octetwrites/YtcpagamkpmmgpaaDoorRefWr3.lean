/- Contracts of both writers' Patch. -/
import Derived.Test.YtcpagamkpmmgpaaDoorRefWr2
import Derived.Test.YtcpagamkpmmgpaaDoorWriter3
import Derived.Test.YtcpagamkpmmgpaaDoorWide
import Derived.BigRegion
import Derived.ChangeAlike
namespace Go.Proofs.YtcpagamkpmmgpaaDoor
open Go.RowKit
set_option linter.unusedVariables false
set_option maxRecDepth 100000

/-- What Patch does to a writer's bytes and error. -/
def patOk (bs : List Int) (a x n : Int) : Prop := ¬ Bad x n ∧ 0 ≤ a ∧ a ≤ (bs.length : Int) - n
instance (bs : List Int) (a x n : Int) : Decidable (patOk bs a x n) := by unfold patOk; infer_instance
def patB (bs : List Int) (err a x n : Int) : List Int := if err = 0 ∧ patOk bs a x n then splice bs a.toNat (numBytes n.toNat x) else bs
def patE (bs : List Int) (err a x n : Int) : Int := if err = 0 then (if patOk bs a x n then 0 else 1) else err

theorem DwS.store {w : World} {b g cap L : Nat} {bs : List Int} {most err : Int} (h : DwS w b (.slice (some ⟨g, 0, none⟩) L cap) bs most err) (hL : bs.length = L) (j : Nat) (hj : j < L) (z : Int) :
    (∃ u, w.cell? ⟨g, j, none⟩ = some u) ∧ w.frozen? ⟨g, j, none⟩ = false ∧ DwS (w.setCell ⟨g, j, none⟩ (.int .u8 z)) b (.slice (some ⟨g, 0, none⟩) L cap) (bs.set j z) most err := by
  subst hL
  have ho := h.own
  have hb : b ≠ g := by have := (ho.lt g rfl).1; omega
  have hb' : ¬ g = b := fun e => hb e.symm
  refine ⟨?_, ho.frozenAt j, ⟨?_, ?_, ?_, ?_, ?_, ?_⟩⟩
  · rw [ho.cellAt j (by omega)]
    exact ⟨_, List.getElem?_eq_getElem (by simp [length_bytesOf]; omega)⟩
  · simp [h.row, go_sem]
  · simp [h.most, go_sem]
  · simp [h.err, go_sem]
  · simp [h.f0, go_sem]
  · simp [h.f2, go_sem]
  · have := (ho.stored j (.int .u8 z)).1
    rw [List.length_set, bytesOf_set]
    exact this

theorem splice_snoc (bs ns : List Int) (p : Nat) (z : Int) (h : p + ns.length < bs.length) : (splice bs p ns).set (p + ns.length) z = splice bs p (ns ++ [z]) := by
  apply List.ext_getElem?
  intro i
  simp only [splice, List.getElem?_set, List.getElem?_append, List.length_take, List.getElem?_drop, List.getElem?_take, List.length_append, List.length_drop, List.length_cons, List.length_nil]
  have hm : min p bs.length = p := by omega
  rw [hm]
  by_cases h1 : p + ns.length = i
  · subst h1
    rw [if_pos rfl, if_pos (by omega), if_neg (by omega), if_pos (by omega), if_neg (by omega)]
    simp
  · rw [if_neg h1]
    by_cases h2 : i < p
    · simp [h2]
    · rw [if_neg h2, if_neg h2]
      by_cases h3 : i - p < ns.length
      · rw [if_pos h3, if_pos (by omega), if_pos h3]
      · rw [if_neg h3, if_neg (by omega)]
        congr 1
        omega

/-- Patch so far: k bytes are laid. -/
structure PatAt (w wr : World) (b : Nat) (v : Value) (bs : List Int) (most : Int) (p m k : Nat) (x : Int) : Prop where
  dw : DwS wr b v (splice bs p ((numBytes m x).take k)) most 0
  touch : Touch (wrF b v) w wr

theorem PatAt.next {w wr : World} {b g cap L : Nat} {bs : List Int} {most : Int} {p m k : Nat} {x z : Int} (h : PatAt w wr b (.slice (some ⟨g, 0, none⟩) L cap) bs most p m k x) (hL : bs.length = L) (hk : k < m) (hm : m ≤ 4) (hfit : p + m ≤ L) (hz : (numBytes m x).take (k + 1) = (numBytes m x).take k ++ [z]) :
    PatAt w (wr.setCell ⟨g, p + k, none⟩ (.int .u8 z)).drew b (.slice (some ⟨g, 0, none⟩) L cap) bs most p m (k + 1) x := by
  have hlen : ((numBytes m x).take k).length = k := by simp [numBytes]; omega
  have hs := length_splice bs p ((numBytes m x).take k) (by omega)
  refine ⟨?_, (Touch.setCell (p := ⟨g, p + k, none⟩) h.touch (Or.inl (Or.inr rfl)) _).drew⟩
  have := (h.dw.store (by omega) (p + k) (by omega) z).2.2.drewN 1
  rw [hz, ← splice_snoc _ _ _ _ (by omega), hlen]
  exact this

theorem PatAt.facts {w wr : World} {b g cap L : Nat} {bs : List Int} {most : Int} {p m k : Nat} {x : Int} (h : PatAt w wr b (.slice (some ⟨g, 0, none⟩) L cap) bs most p m k x) (hL : bs.length = L) (hk : k < m) (hm : m ≤ 4) (hfit : p + m ≤ L) :
    (∃ u, wr.cell? ⟨g, p + k, none⟩ = some u) ∧ wr.frozen? ⟨g, p + k, none⟩ = false := by
  have hlen : ((numBytes m x).take k).length = k := by simp [numBytes]; omega
  have hs := length_splice bs p ((numBytes m x).take k) (by omega)
  have := h.dw.store (by omega) (p + k) (by omega) 0
  exact ⟨this.1, this.2.1⟩

theorem dpatch_dead (b : Nat) (v : Value) (bs : List Int) (most err : Int) (a x n : Int) (w : World) (h : DwS w b v bs most err) (he : ¬ err = 0) :
    Calls Tryd.prog 26 #[.pointer (some ⟨b, 0, none⟩), .int .i64 a, .int .u32 x, .int .i64 n] w fun e w' => e = .returned (.tuple #[]) ∧ w = w' := by
  have h2 := h.err
  have he' : (err != 0) = true := by simpa using he
  go_enter Tryd.func26, Tryd.ntmps26
  go_wp2
  go_returns
  exact ⟨rfl, rfl⟩

theorem dpatch_arg (b : Nat) (v : Value) (bs : List Int) (most : Int) (a x n : Int) (w : World) (h : DwS w b v bs most 0) (hx : 0 ≤ x ∧ x < 4294967296) (hn : Bad x n) :
    Calls Tryd.prog 26 #[.pointer (some ⟨b, 0, none⟩), .int .i64 a, .int .u32 x, .int .i64 n] w fun e w' => e = .returned (.tuple #[]) ∧ w.setCell ⟨b, 2, none⟩ (.int .i64 1) = w' := by
  have h2 := h.err
  have hf2 := h.f2
  have hf := fits_no x n w hx hn
  clear hn
  go_enter Tryd.func26, Tryd.ntmps26
  go_wp2_with (go_at_call 62; refine hf.mono ?_; rintro e w' ⟨rfl, rfl⟩)
  go_returns
  exact ⟨rfl, rfl⟩

theorem dpatch_bad1 (b : Nat) (v : Value) (bs : List Int) (most : Int) (a x : Int) (w : World) (h : DwS w b v bs most 0) (hx0 : 0 ≤ x) (hx : x < 256) (hcap : bs.length ≤ 1048576) (hbad : a < 0 ∨ (bs.length : Int) - 1 < a) :
    Calls Tryd.prog 26 #[.pointer (some ⟨b, 0, none⟩), .int .i64 a, .int .u32 x, .int .i64 1] w fun e w' => e = .returned (.tuple #[]) ∧ w.setCell ⟨b, 2, none⟩ (.int .i64 1) = w' := by
  have h0 := h.row
  have h2 := h.err
  have hf2 := h.f2
  obtain ⟨va, vc, rfl⟩ := own_form h.own
  have hf : Calls Tryd.prog 62 #[.int .u32 x, .int .i64 1] w fun e w' => e = .returned (.bool true) ∧ w = w' := fits_yes x 1 w hx0 (by omega) (by omega) (by simpa using hx)
  clear h
  by_cases hp : a < 0
  · clear hbad
    go_enter Tryd.func26, Tryd.ntmps26
    go_wp2_with (go_at_call 62; refine hf.mono ?_; rintro e w' ⟨rfl, rfl⟩)
    go_returns
    exact ⟨rfl, rfl⟩
  · have hd : decide (a < 0) = false := by simpa using hp
    have hbad' : (bs.length : Int) - 1 < a := by omega
    clear hbad
    go_enter Tryd.func26, Tryd.ntmps26
    go_wp2_with (go_at_call 62; refine hf.mono ?_; rintro e w' ⟨rfl, rfl⟩)
    go_returns
    exact ⟨rfl, rfl⟩

theorem dpatch_ok1 (b : Nat) (v : Value) (bs : List Int) (most : Int) (p : Nat) (x : Int) (w : World) (h : DwS w b v bs most 0) (hx0 : 0 ≤ x) (hx : x < 256) (hcap : bs.length ≤ 1048576) (hfit : p + 1 ≤ bs.length) :
    Calls Tryd.prog 26 #[.pointer (some ⟨b, 0, none⟩), .int .i64 p, .int .u32 x, .int .i64 1] w fun e w' => e = .returned (.tuple #[]) ∧
      DwS w' b v (splice bs p (numBytes 1 x)) most 0 ∧ Touch (wrF b v) w w' := by
  have h0 := h.row
  have h2 := h.err
  have hf : Calls Tryd.prog 62 #[.int .u32 x, .int .i64 1] w fun e w' => e = .returned (.bool true) ∧ w = w' := fits_yes x 1 w hx0 (by omega) (by omega) (by simpa using hx)
  have hL : ∃ L, bs.length = L := ⟨_, rfl⟩
  obtain ⟨L, hL⟩ := hL
  have hv : ∃ g cap, v = .slice (some ⟨g, 0, none⟩) L cap := by
    rcases h.own.2 with ⟨_, e⟩ | ⟨g, cap, cur, rfl, _⟩
    · omega
    · exact ⟨g, cap, by rw [hL]⟩
  obtain ⟨g, cap, rfl⟩ := hv
  rw [hL] at hcap hfit
  have HL : Hid (bs.length = L) := hL
  have hd : decide ((p : Int) < 0) = false := by simp
  have hd2 : ¬ (L : Int) - 1 < (p : Int) := by omega
  have hat : PatAt w w b (.slice (some ⟨g, 0, none⟩) L cap) bs most p 1 0 x := ⟨by simpa [splice] using h, Touch.refl _ _⟩
  have HA : Hid (PatAt w w b (.slice (some ⟨g, 0, none⟩) L cap) bs most p 1 0 x) := hat
  clear h hat hL
  go_enter Tryd.func26, Tryd.ntmps26
  go_wp2_with (go_at_call 62; refine hf.mono ?_; rintro e w' ⟨rfl, rfl⟩)
  clear h0 h2 hf
  go_loopw [8] (fun i wr => ∃ k : Nat, k ≤ 1 ∧ i = .int .i64 k ∧ PatAt w wr b (.slice (some ⟨g, 0, none⟩) L cap) bs most p 1 k x) (fun i _ => 1 - (intOf i).toNat)
  case atStart => exact ⟨0, Nat.zero_le _, by simp, HA.out⟩
  case round =>
    obtain ⟨k, hk, rfl, hp⟩ := hrel
    clear HA
    rcases (by omega : k = 0 ∨ k = 1) with rfl | rfl
    · have h0 := hp.dw.row
      obtain ⟨⟨u, hu⟩, hfz⟩ := hp.facts HL.out (by omega) (by omega) hfit
      simp only [Nat.add_zero] at hu hfz
      have hpk : ((p : Int) + 0) < (L : Int) := by omega
      have HN : Hid (PatAt w (wr.setCell ⟨g, p, none⟩ (.int .u8 (x))).drew b (.slice (some ⟨g, 0, none⟩) L cap) bs most p 1 1 x) := hp.next HL.out (by omega) (by omega) hfit (by simp [numBytes]; omega)
      clear hp
      go_wp2
      go_region
      go_wp2
      go_roundw
      case rel => exact ⟨1, by omega, by simp, HN.out⟩
      case measure => simp [intOf]
    · have HP : Hid (PatAt w wr b (.slice (some ⟨g, 0, none⟩) L cap) bs most p 1 1 x) := hp
      clear hp
      go_wp2
      go_end0
      exact ⟨rfl, by simpa [numBytes] using HP.out.dw, HP.out.touch⟩

theorem dpatch_bad2 (b : Nat) (v : Value) (bs : List Int) (most : Int) (a x : Int) (w : World) (h : DwS w b v bs most 0) (hx0 : 0 ≤ x) (hx : x < 65536) (hcap : bs.length ≤ 1048576) (hbad : a < 0 ∨ (bs.length : Int) - 2 < a) :
    Calls Tryd.prog 26 #[.pointer (some ⟨b, 0, none⟩), .int .i64 a, .int .u32 x, .int .i64 2] w fun e w' => e = .returned (.tuple #[]) ∧ w.setCell ⟨b, 2, none⟩ (.int .i64 1) = w' := by
  have h0 := h.row
  have h2 := h.err
  have hf2 := h.f2
  obtain ⟨va, vc, rfl⟩ := own_form h.own
  have hf : Calls Tryd.prog 62 #[.int .u32 x, .int .i64 2] w fun e w' => e = .returned (.bool true) ∧ w = w' := fits_yes x 2 w hx0 (by omega) (by omega) (by simpa using hx)
  clear h
  by_cases hp : a < 0
  · clear hbad
    go_enter Tryd.func26, Tryd.ntmps26
    go_wp2_with (go_at_call 62; refine hf.mono ?_; rintro e w' ⟨rfl, rfl⟩)
    go_returns
    exact ⟨rfl, rfl⟩
  · have hd : decide (a < 0) = false := by simpa using hp
    have hbad' : (bs.length : Int) - 2 < a := by omega
    clear hbad
    go_enter Tryd.func26, Tryd.ntmps26
    go_wp2_with (go_at_call 62; refine hf.mono ?_; rintro e w' ⟨rfl, rfl⟩)
    go_returns
    exact ⟨rfl, rfl⟩

theorem dpatch_ok2 (b : Nat) (v : Value) (bs : List Int) (most : Int) (p : Nat) (x : Int) (w : World) (h : DwS w b v bs most 0) (hx0 : 0 ≤ x) (hx : x < 65536) (hcap : bs.length ≤ 1048576) (hfit : p + 2 ≤ bs.length) :
    Calls Tryd.prog 26 #[.pointer (some ⟨b, 0, none⟩), .int .i64 p, .int .u32 x, .int .i64 2] w fun e w' => e = .returned (.tuple #[]) ∧
      DwS w' b v (splice bs p (numBytes 2 x)) most 0 ∧ Touch (wrF b v) w w' := by
  have h0 := h.row
  have h2 := h.err
  have hf : Calls Tryd.prog 62 #[.int .u32 x, .int .i64 2] w fun e w' => e = .returned (.bool true) ∧ w = w' := fits_yes x 2 w hx0 (by omega) (by omega) (by simpa using hx)
  have hL : ∃ L, bs.length = L := ⟨_, rfl⟩
  obtain ⟨L, hL⟩ := hL
  have hv : ∃ g cap, v = .slice (some ⟨g, 0, none⟩) L cap := by
    rcases h.own.2 with ⟨_, e⟩ | ⟨g, cap, cur, rfl, _⟩
    · omega
    · exact ⟨g, cap, by rw [hL]⟩
  obtain ⟨g, cap, rfl⟩ := hv
  rw [hL] at hcap hfit
  have HL : Hid (bs.length = L) := hL
  have hd : decide ((p : Int) < 0) = false := by simp
  have hd2 : ¬ (L : Int) - 2 < (p : Int) := by omega
  have hat : PatAt w w b (.slice (some ⟨g, 0, none⟩) L cap) bs most p 2 0 x := ⟨by simpa [splice] using h, Touch.refl _ _⟩
  have HA : Hid (PatAt w w b (.slice (some ⟨g, 0, none⟩) L cap) bs most p 2 0 x) := hat
  clear h hat hL
  go_enter Tryd.func26, Tryd.ntmps26
  go_wp2_with (go_at_call 62; refine hf.mono ?_; rintro e w' ⟨rfl, rfl⟩)
  clear h0 h2 hf
  go_loopw [8] (fun i wr => ∃ k : Nat, k ≤ 2 ∧ i = .int .i64 k ∧ PatAt w wr b (.slice (some ⟨g, 0, none⟩) L cap) bs most p 2 k x) (fun i _ => 2 - (intOf i).toNat)
  case atStart => exact ⟨0, Nat.zero_le _, by simp, HA.out⟩
  case round =>
    obtain ⟨k, hk, rfl, hp⟩ := hrel
    clear HA
    rcases (by omega : k = 0 ∨ k = 1 ∨ k = 2) with rfl | rfl | rfl
    · have h0 := hp.dw.row
      obtain ⟨⟨u, hu⟩, hfz⟩ := hp.facts HL.out (by omega) (by omega) hfit
      simp only [Nat.add_zero] at hu hfz
      have hpk : ((p : Int) + 0) < (L : Int) := by omega
      have HN : Hid (PatAt w (wr.setCell ⟨g, p, none⟩ (.int .u8 (x / 256))).drew b (.slice (some ⟨g, 0, none⟩) L cap) bs most p 2 1 x) := hp.next HL.out (by omega) (by omega) hfit (by simp [numBytes]; omega)
      clear hp
      go_wp2
      go_region
      go_wp2
      go_roundw
      case rel => exact ⟨1, by omega, by simp, HN.out⟩
      case measure => simp [intOf]
    · have h0 := hp.dw.row
      obtain ⟨⟨u, hu⟩, hfz⟩ := hp.facts HL.out (by omega) (by omega) hfit
      have hpk : ((p : Int) + 1) < (L : Int) := by omega
      have HN : Hid (PatAt w (wr.setCell ⟨g, p + 1, none⟩ (.int .u8 (x % 256))).drew b (.slice (some ⟨g, 0, none⟩) L cap) bs most p 2 2 x) := hp.next HL.out (by omega) (by omega) hfit (by simp [numBytes])
      clear hp
      go_wp2
      go_region
      go_wp2
      go_roundw
      case rel => exact ⟨2, by omega, by simp, HN.out⟩
      case measure => simp [intOf]
    · have HP : Hid (PatAt w wr b (.slice (some ⟨g, 0, none⟩) L cap) bs most p 2 2 x) := hp
      clear hp
      go_wp2
      go_end0
      exact ⟨rfl, by simpa [numBytes] using HP.out.dw, HP.out.touch⟩

theorem dpatch_bad3 (b : Nat) (v : Value) (bs : List Int) (most : Int) (a x : Int) (w : World) (h : DwS w b v bs most 0) (hx0 : 0 ≤ x) (hx : x < 16777216) (hcap : bs.length ≤ 1048576) (hbad : a < 0 ∨ (bs.length : Int) - 3 < a) :
    Calls Tryd.prog 26 #[.pointer (some ⟨b, 0, none⟩), .int .i64 a, .int .u32 x, .int .i64 3] w fun e w' => e = .returned (.tuple #[]) ∧ w.setCell ⟨b, 2, none⟩ (.int .i64 1) = w' := by
  have h0 := h.row
  have h2 := h.err
  have hf2 := h.f2
  obtain ⟨va, vc, rfl⟩ := own_form h.own
  have hf : Calls Tryd.prog 62 #[.int .u32 x, .int .i64 3] w fun e w' => e = .returned (.bool true) ∧ w = w' := fits_yes x 3 w hx0 (by omega) (by omega) (by simpa using hx)
  clear h
  by_cases hp : a < 0
  · clear hbad
    go_enter Tryd.func26, Tryd.ntmps26
    go_wp2_with (go_at_call 62; refine hf.mono ?_; rintro e w' ⟨rfl, rfl⟩)
    go_returns
    exact ⟨rfl, rfl⟩
  · have hd : decide (a < 0) = false := by simpa using hp
    have hbad' : (bs.length : Int) - 3 < a := by omega
    clear hbad
    go_enter Tryd.func26, Tryd.ntmps26
    go_wp2_with (go_at_call 62; refine hf.mono ?_; rintro e w' ⟨rfl, rfl⟩)
    go_returns
    exact ⟨rfl, rfl⟩

theorem dpatch_ok3 (b : Nat) (v : Value) (bs : List Int) (most : Int) (p : Nat) (x : Int) (w : World) (h : DwS w b v bs most 0) (hx0 : 0 ≤ x) (hx : x < 16777216) (hcap : bs.length ≤ 1048576) (hfit : p + 3 ≤ bs.length) :
    Calls Tryd.prog 26 #[.pointer (some ⟨b, 0, none⟩), .int .i64 p, .int .u32 x, .int .i64 3] w fun e w' => e = .returned (.tuple #[]) ∧
      DwS w' b v (splice bs p (numBytes 3 x)) most 0 ∧ Touch (wrF b v) w w' := by
  have h0 := h.row
  have h2 := h.err
  have hf : Calls Tryd.prog 62 #[.int .u32 x, .int .i64 3] w fun e w' => e = .returned (.bool true) ∧ w = w' := fits_yes x 3 w hx0 (by omega) (by omega) (by simpa using hx)
  have hL : ∃ L, bs.length = L := ⟨_, rfl⟩
  obtain ⟨L, hL⟩ := hL
  have hv : ∃ g cap, v = .slice (some ⟨g, 0, none⟩) L cap := by
    rcases h.own.2 with ⟨_, e⟩ | ⟨g, cap, cur, rfl, _⟩
    · omega
    · exact ⟨g, cap, by rw [hL]⟩
  obtain ⟨g, cap, rfl⟩ := hv
  rw [hL] at hcap hfit
  have HL : Hid (bs.length = L) := hL
  have hd : decide ((p : Int) < 0) = false := by simp
  have hd2 : ¬ (L : Int) - 3 < (p : Int) := by omega
  have hat : PatAt w w b (.slice (some ⟨g, 0, none⟩) L cap) bs most p 3 0 x := ⟨by simpa [splice] using h, Touch.refl _ _⟩
  have HA : Hid (PatAt w w b (.slice (some ⟨g, 0, none⟩) L cap) bs most p 3 0 x) := hat
  clear h hat hL
  go_enter Tryd.func26, Tryd.ntmps26
  go_wp2_with (go_at_call 62; refine hf.mono ?_; rintro e w' ⟨rfl, rfl⟩)
  clear h0 h2 hf
  go_loopw [8] (fun i wr => ∃ k : Nat, k ≤ 3 ∧ i = .int .i64 k ∧ PatAt w wr b (.slice (some ⟨g, 0, none⟩) L cap) bs most p 3 k x) (fun i _ => 3 - (intOf i).toNat)
  case atStart => exact ⟨0, Nat.zero_le _, by simp, HA.out⟩
  case round =>
    obtain ⟨k, hk, rfl, hp⟩ := hrel
    clear HA
    rcases (by omega : k = 0 ∨ k = 1 ∨ k = 2 ∨ k = 3) with rfl | rfl | rfl | rfl
    · have h0 := hp.dw.row
      obtain ⟨⟨u, hu⟩, hfz⟩ := hp.facts HL.out (by omega) (by omega) hfit
      simp only [Nat.add_zero] at hu hfz
      have hpk : ((p : Int) + 0) < (L : Int) := by omega
      have HN : Hid (PatAt w (wr.setCell ⟨g, p, none⟩ (.int .u8 (x / 65536))).drew b (.slice (some ⟨g, 0, none⟩) L cap) bs most p 3 1 x) := hp.next HL.out (by omega) (by omega) hfit (by simp [numBytes]; omega)
      clear hp
      go_wp2
      go_region
      go_wp2
      go_roundw
      case rel => exact ⟨1, by omega, by simp, HN.out⟩
      case measure => simp [intOf]
    · have h0 := hp.dw.row
      obtain ⟨⟨u, hu⟩, hfz⟩ := hp.facts HL.out (by omega) (by omega) hfit
      have hpk : ((p : Int) + 1) < (L : Int) := by omega
      have HN : Hid (PatAt w (wr.setCell ⟨g, p + 1, none⟩ (.int .u8 (x / 256 % 256))).drew b (.slice (some ⟨g, 0, none⟩) L cap) bs most p 3 2 x) := hp.next HL.out (by omega) (by omega) hfit (by simp [numBytes])
      clear hp
      go_wp2
      go_region
      go_wp2
      go_roundw
      case rel => exact ⟨2, by omega, by simp, HN.out⟩
      case measure => simp [intOf]
    · have h0 := hp.dw.row
      obtain ⟨⟨u, hu⟩, hfz⟩ := hp.facts HL.out (by omega) (by omega) hfit
      have hpk : ((p : Int) + 2) < (L : Int) := by omega
      have HN : Hid (PatAt w (wr.setCell ⟨g, p + 2, none⟩ (.int .u8 (x % 256))).drew b (.slice (some ⟨g, 0, none⟩) L cap) bs most p 3 3 x) := hp.next HL.out (by omega) (by omega) hfit (by simp [numBytes])
      clear hp
      go_wp2
      go_region
      go_wp2
      go_roundw
      case rel => exact ⟨3, by omega, by simp, HN.out⟩
      case measure => simp [intOf]
    · have HP : Hid (PatAt w wr b (.slice (some ⟨g, 0, none⟩) L cap) bs most p 3 3 x) := hp
      clear hp
      go_wp2
      go_end0
      exact ⟨rfl, by simpa [numBytes] using HP.out.dw, HP.out.touch⟩

theorem dpatch_bad4 (b : Nat) (v : Value) (bs : List Int) (most : Int) (a x : Int) (w : World) (h : DwS w b v bs most 0) (hx0 : 0 ≤ x) (hx : x < 4294967296) (hcap : bs.length ≤ 1048576) (hbad : a < 0 ∨ (bs.length : Int) - 4 < a) :
    Calls Tryd.prog 26 #[.pointer (some ⟨b, 0, none⟩), .int .i64 a, .int .u32 x, .int .i64 4] w fun e w' => e = .returned (.tuple #[]) ∧ w.setCell ⟨b, 2, none⟩ (.int .i64 1) = w' := by
  have h0 := h.row
  have h2 := h.err
  have hf2 := h.f2
  obtain ⟨va, vc, rfl⟩ := own_form h.own
  have hf : Calls Tryd.prog 62 #[.int .u32 x, .int .i64 4] w fun e w' => e = .returned (.bool true) ∧ w = w' := fits_yes x 4 w hx0 (by omega) (by omega) (by simpa using hx)
  clear h
  by_cases hp : a < 0
  · clear hbad
    go_enter Tryd.func26, Tryd.ntmps26
    go_wp2_with (go_at_call 62; refine hf.mono ?_; rintro e w' ⟨rfl, rfl⟩)
    go_returns
    exact ⟨rfl, rfl⟩
  · have hd : decide (a < 0) = false := by simpa using hp
    have hbad' : (bs.length : Int) - 4 < a := by omega
    clear hbad
    go_enter Tryd.func26, Tryd.ntmps26
    go_wp2_with (go_at_call 62; refine hf.mono ?_; rintro e w' ⟨rfl, rfl⟩)
    go_returns
    exact ⟨rfl, rfl⟩

theorem dpatch_ok4 (b : Nat) (v : Value) (bs : List Int) (most : Int) (p : Nat) (x : Int) (w : World) (h : DwS w b v bs most 0) (hx0 : 0 ≤ x) (hx : x < 4294967296) (hcap : bs.length ≤ 1048576) (hfit : p + 4 ≤ bs.length) :
    Calls Tryd.prog 26 #[.pointer (some ⟨b, 0, none⟩), .int .i64 p, .int .u32 x, .int .i64 4] w fun e w' => e = .returned (.tuple #[]) ∧
      DwS w' b v (splice bs p (numBytes 4 x)) most 0 ∧ Touch (wrF b v) w w' := by
  have h0 := h.row
  have h2 := h.err
  have hf : Calls Tryd.prog 62 #[.int .u32 x, .int .i64 4] w fun e w' => e = .returned (.bool true) ∧ w = w' := fits_yes x 4 w hx0 (by omega) (by omega) (by simpa using hx)
  have hL : ∃ L, bs.length = L := ⟨_, rfl⟩
  obtain ⟨L, hL⟩ := hL
  have hv : ∃ g cap, v = .slice (some ⟨g, 0, none⟩) L cap := by
    rcases h.own.2 with ⟨_, e⟩ | ⟨g, cap, cur, rfl, _⟩
    · omega
    · exact ⟨g, cap, by rw [hL]⟩
  obtain ⟨g, cap, rfl⟩ := hv
  rw [hL] at hcap hfit
  have HL : Hid (bs.length = L) := hL
  have hd : decide ((p : Int) < 0) = false := by simp
  have hd2 : ¬ (L : Int) - 4 < (p : Int) := by omega
  have hat : PatAt w w b (.slice (some ⟨g, 0, none⟩) L cap) bs most p 4 0 x := ⟨by simpa [splice] using h, Touch.refl _ _⟩
  have HA : Hid (PatAt w w b (.slice (some ⟨g, 0, none⟩) L cap) bs most p 4 0 x) := hat
  clear h hat hL
  go_enter Tryd.func26, Tryd.ntmps26
  go_wp2_with (go_at_call 62; refine hf.mono ?_; rintro e w' ⟨rfl, rfl⟩)
  clear h0 h2 hf
  go_loopw [8] (fun i wr => ∃ k : Nat, k ≤ 4 ∧ i = .int .i64 k ∧ PatAt w wr b (.slice (some ⟨g, 0, none⟩) L cap) bs most p 4 k x) (fun i _ => 4 - (intOf i).toNat)
  case atStart => exact ⟨0, Nat.zero_le _, by simp, HA.out⟩
  case round =>
    obtain ⟨k, hk, rfl, hp⟩ := hrel
    clear HA
    rcases (by omega : k = 0 ∨ k = 1 ∨ k = 2 ∨ k = 3 ∨ k = 4) with rfl | rfl | rfl | rfl | rfl
    · have h0 := hp.dw.row
      obtain ⟨⟨u, hu⟩, hfz⟩ := hp.facts HL.out (by omega) (by omega) hfit
      simp only [Nat.add_zero] at hu hfz
      have hpk : ((p : Int) + 0) < (L : Int) := by omega
      have HN : Hid (PatAt w (wr.setCell ⟨g, p, none⟩ (.int .u8 (x / 16777216))).drew b (.slice (some ⟨g, 0, none⟩) L cap) bs most p 4 1 x) := hp.next HL.out (by omega) (by omega) hfit (by simp [numBytes]; omega)
      clear hp
      go_wp2
      go_region
      go_wp2
      go_roundw
      case rel => exact ⟨1, by omega, by simp, HN.out⟩
      case measure => simp [intOf]
    · have h0 := hp.dw.row
      obtain ⟨⟨u, hu⟩, hfz⟩ := hp.facts HL.out (by omega) (by omega) hfit
      have hpk : ((p : Int) + 1) < (L : Int) := by omega
      have HN : Hid (PatAt w (wr.setCell ⟨g, p + 1, none⟩ (.int .u8 (x / 65536 % 256))).drew b (.slice (some ⟨g, 0, none⟩) L cap) bs most p 4 2 x) := hp.next HL.out (by omega) (by omega) hfit (by simp [numBytes])
      clear hp
      go_wp2
      go_region
      go_wp2
      go_roundw
      case rel => exact ⟨2, by omega, by simp, HN.out⟩
      case measure => simp [intOf]
    · have h0 := hp.dw.row
      obtain ⟨⟨u, hu⟩, hfz⟩ := hp.facts HL.out (by omega) (by omega) hfit
      have hpk : ((p : Int) + 2) < (L : Int) := by omega
      have HN : Hid (PatAt w (wr.setCell ⟨g, p + 2, none⟩ (.int .u8 (x / 256 % 256))).drew b (.slice (some ⟨g, 0, none⟩) L cap) bs most p 4 3 x) := hp.next HL.out (by omega) (by omega) hfit (by simp [numBytes])
      clear hp
      go_wp2
      go_region
      go_wp2
      go_roundw
      case rel => exact ⟨3, by omega, by simp, HN.out⟩
      case measure => simp [intOf]
    · have h0 := hp.dw.row
      obtain ⟨⟨u, hu⟩, hfz⟩ := hp.facts HL.out (by omega) (by omega) hfit
      have hpk : ((p : Int) + 3) < (L : Int) := by omega
      have HN : Hid (PatAt w (wr.setCell ⟨g, p + 3, none⟩ (.int .u8 (x % 256))).drew b (.slice (some ⟨g, 0, none⟩) L cap) bs most p 4 4 x) := hp.next HL.out (by omega) (by omega) hfit (by simp [numBytes])
      clear hp
      go_wp2
      go_region
      go_wp2
      go_roundw
      case rel => exact ⟨4, by omega, by simp, HN.out⟩
      case measure => simp [intOf]
    · have HP : Hid (PatAt w wr b (.slice (some ⟨g, 0, none⟩) L cap) bs most p 4 4 x) := hp
      clear hp
      go_wp2
      go_end0
      exact ⟨rfl, by simpa [numBytes] using HP.out.dw, HP.out.touch⟩

theorem dpatch_all (b : Nat) (v : Value) (bs : List Int) (most err : Int) (a x n : Int) (w : World) (h : DwS w b v bs most err) (hx : 0 ≤ x ∧ x < 4294967296) (hcap : bs.length ≤ 1048576) :
    Calls Tryd.prog 26 #[.pointer (some ⟨b, 0, none⟩), .int .i64 a, .int .u32 x, .int .i64 n] w fun e w' => e = .returned (.tuple #[]) ∧
      DwS w' b v (patB bs err a x n) most (patE bs err a x n) ∧ Touch (wrF b v) w w' := by
  by_cases he : err = 0
  · subst he
    by_cases hn : Bad x n
    · refine (dpatch_arg b v bs most a x n w h hx hn).mono ?_
      rintro e w' ⟨rfl, rfl⟩
      exact ⟨rfl, by simpa [patB, patE, patOk, hn] using h.setErr 1, DwS.touchErr _⟩
    · have hbn := hn
      unfold Bad at hn
      rcases (by omega : (n = 1 ∧ x < 256) ∨ (n = 2 ∧ x < 65536) ∨ (n = 3 ∧ x < 16777216) ∨ (n = 4 ∧ x < 4294967296)) with ⟨rfl, h4⟩ | ⟨rfl, h4⟩ | ⟨rfl, h4⟩ | ⟨rfl, h4⟩
      · by_cases hin : 0 ≤ a ∧ a ≤ (bs.length : Int) - 1
        · have hok : patOk bs a x 1 := ⟨hbn, hin⟩
          obtain ⟨p, rfl⟩ : ∃ p : Nat, a = p := ⟨a.toNat, by omega⟩
          simpa [patB, patE, hok] using dpatch_ok1 b v bs most p x w h hx.1 h4 hcap (by omega)
        · have hok : ¬ patOk bs a x 1 := fun h => hin h.2
          refine (dpatch_bad1 b v bs most a x w h hx.1 h4 hcap (by omega)).mono ?_
          rintro e w' ⟨rfl, rfl⟩
          exact ⟨rfl, by simpa [patB, patE, hok] using h.setErr 1, DwS.touchErr _⟩
      · by_cases hin : 0 ≤ a ∧ a ≤ (bs.length : Int) - 2
        · have hok : patOk bs a x 2 := ⟨hbn, hin⟩
          obtain ⟨p, rfl⟩ : ∃ p : Nat, a = p := ⟨a.toNat, by omega⟩
          simpa [patB, patE, hok] using dpatch_ok2 b v bs most p x w h hx.1 h4 hcap (by omega)
        · have hok : ¬ patOk bs a x 2 := fun h => hin h.2
          refine (dpatch_bad2 b v bs most a x w h hx.1 h4 hcap (by omega)).mono ?_
          rintro e w' ⟨rfl, rfl⟩
          exact ⟨rfl, by simpa [patB, patE, hok] using h.setErr 1, DwS.touchErr _⟩
      · by_cases hin : 0 ≤ a ∧ a ≤ (bs.length : Int) - 3
        · have hok : patOk bs a x 3 := ⟨hbn, hin⟩
          obtain ⟨p, rfl⟩ : ∃ p : Nat, a = p := ⟨a.toNat, by omega⟩
          simpa [patB, patE, hok] using dpatch_ok3 b v bs most p x w h hx.1 h4 hcap (by omega)
        · have hok : ¬ patOk bs a x 3 := fun h => hin h.2
          refine (dpatch_bad3 b v bs most a x w h hx.1 h4 hcap (by omega)).mono ?_
          rintro e w' ⟨rfl, rfl⟩
          exact ⟨rfl, by simpa [patB, patE, hok] using h.setErr 1, DwS.touchErr _⟩
      · by_cases hin : 0 ≤ a ∧ a ≤ (bs.length : Int) - 4
        · have hok : patOk bs a x 4 := ⟨hbn, hin⟩
          obtain ⟨p, rfl⟩ : ∃ p : Nat, a = p := ⟨a.toNat, by omega⟩
          simpa [patB, patE, hok] using dpatch_ok4 b v bs most p x w h hx.1 h4 hcap (by omega)
        · have hok : ¬ patOk bs a x 4 := fun h => hin h.2
          refine (dpatch_bad4 b v bs most a x w h hx.1 h4 hcap (by omega)).mono ?_
          rintro e w' ⟨rfl, rfl⟩
          exact ⟨rfl, by simpa [patB, patE, hok] using h.setErr 1, DwS.touchErr _⟩
  · refine (dpatch_dead b v bs most err a x n w h he).mono ?_
    rintro e w' ⟨rfl, rfl⟩
    exact ⟨rfl, by simpa [patB, patE, he] using h, Touch.refl _ _⟩

theorem wpatch_all (b : Nat) (v : Value) (bs : List Int) (most err : Int) (a x n : Int) (w : World) (h : WrS w b v bs most err) (hx : 0 ≤ x ∧ x < 4294967296) (hcap : bs.length ≤ 1048576) :
    Calls Tryd.prog 25 #[.pointer (some ⟨b, 0, none⟩), .int .i64 a, .int .u32 x, .int .i64 n] w fun e w' => e = .returned (.tuple #[]) ∧
      WrS w' b v (patB bs err a x n) most (patE bs err a x n) ∧ Touch (wrF b v) w w' := by
  by_cases he : err = 0
  · subst he
    by_cases hn : Bad x n
    · refine (wpatch_arg b v bs most a x n w h hx hn).mono ?_
      rintro e w' ⟨rfl, rfl⟩
      exact ⟨rfl, by simpa [patB, patE, patOk, hn] using h.setErr 1, WrS.touchErr _⟩
    · have hbn := hn
      unfold Bad at hn
      rcases (by omega : (n = 1 ∧ x < 256) ∨ (n = 2 ∧ x < 65536) ∨ (n = 3 ∧ x < 16777216) ∨ (n = 4 ∧ x < 4294967296)) with ⟨rfl, h4⟩ | ⟨rfl, h4⟩ | ⟨rfl, h4⟩ | ⟨rfl, h4⟩
      · by_cases hin : 0 ≤ a ∧ a ≤ (bs.length : Int) - 1
        · have hok : patOk bs a x 1 := ⟨hbn, hin⟩
          obtain ⟨p, rfl⟩ : ∃ p : Nat, a = p := ⟨a.toNat, by omega⟩
          simpa [patB, patE, hok] using patch_ok1 b v bs most x p w h ⟨hx.1, h4⟩ (by omega)
        · have hok : ¬ patOk bs a x 1 := fun h => hin h.2
          simpa [patB, patE, hok] using wpatch_bad1 b v bs most x a w h ⟨hx.1, h4⟩ hcap (by omega)
      · by_cases hin : 0 ≤ a ∧ a ≤ (bs.length : Int) - 2
        · have hok : patOk bs a x 2 := ⟨hbn, hin⟩
          obtain ⟨p, rfl⟩ : ∃ p : Nat, a = p := ⟨a.toNat, by omega⟩
          simpa [patB, patE, hok] using patch_ok2 b v bs most x p w h ⟨hx.1, h4⟩ (by omega)
        · have hok : ¬ patOk bs a x 2 := fun h => hin h.2
          simpa [patB, patE, hok] using wpatch_bad2 b v bs most x a w h ⟨hx.1, h4⟩ hcap (by omega)
      · by_cases hin : 0 ≤ a ∧ a ≤ (bs.length : Int) - 3
        · have hok : patOk bs a x 3 := ⟨hbn, hin⟩
          obtain ⟨p, rfl⟩ : ∃ p : Nat, a = p := ⟨a.toNat, by omega⟩
          simpa [patB, patE, hok] using patch_ok3 b v bs most x p w h ⟨hx.1, h4⟩ (by omega)
        · have hok : ¬ patOk bs a x 3 := fun h => hin h.2
          simpa [patB, patE, hok] using wpatch_bad3 b v bs most x a w h ⟨hx.1, h4⟩ hcap (by omega)
      · by_cases hin : 0 ≤ a ∧ a ≤ (bs.length : Int) - 4
        · have hok : patOk bs a x 4 := ⟨hbn, hin⟩
          obtain ⟨p, rfl⟩ : ∃ p : Nat, a = p := ⟨a.toNat, by omega⟩
          simpa [patB, patE, hok] using patch_ok4 b v bs most x p w h ⟨hx.1, h4⟩ (by omega)
        · have hok : ¬ patOk bs a x 4 := fun h => hin h.2
          simpa [patB, patE, hok] using wpatch_bad4 b v bs most x a w h ⟨hx.1, h4⟩ hcap (by omega)
  · refine (wpatch_dead b v bs most err a x n w h he).mono ?_
    rintro e w' ⟨rfl, rfl⟩
    exact ⟨rfl, by simpa [patB, patE, he] using h, Touch.refl _ _⟩

end Go.Proofs.YtcpagamkpmmgpaaDoor
