/- Contracts of the writer's methods, every way (without Patch). -/
import Derived.Test.YtjjgbcjgmjggnaaGreatDoorKeep
namespace Go.Proofs.YtjjgbcjgmjggnaaGreatDoor
open Go.RowKit
set_option linter.unusedVariables false
set_option maxRecDepth 100000

/-- What Put does to a writer's bytes and error. -/
def putB (bs : List Int) (most err : Int) (ns : List Int) : List Int := if err = 0 ∧ (bs.length : Int) + ns.length ≤ most then bs ++ ns else bs
def putE (bs : List Int) (most err : Int) (ns : List Int) : Int := if err = 0 then (if (bs.length : Int) + ns.length ≤ most then 0 else 11) else err

/-- Where the row lies then. -/
def Moved (w : World) (v v' : Value) : Prop := v'.ownBlock = v.ownBlock ∨ ∃ g, v'.ownBlock = some g ∧ w.heap.size ≤ g

theorem WrS.setErr {w : World} {b : Nat} {v : Value} {bs : List Int} {most err : Int} (h : WrS w b v bs most err) (q : Int) : WrS (w.setCell ⟨b, 3, none⟩ (.int .i64 q)) b v bs most q := by
  exact ⟨by simp [h.made, go_sem], by simp [h.row, go_sem], by simp [h.most, go_sem], by simp [h.err, go_sem], by simp [h.f1, go_sem], by simp [h.f3, go_sem], own_setCell h.own (Nat.lt_succ_self b) _⟩
theorem WrS.touchErr {w : World} {b : Nat} {v : Value} (q : Value) : Touch (wrF b v) w (w.setCell ⟨b, 3, none⟩ q) := Touch.setCell (F := wrF b v) (p := ⟨b, 3, none⟩) (Touch.refl _ w) (Or.inl (Or.inl rfl)) _

theorem wrefuse_any (b : Nat) (q err : Int) (w : World) (h3 : w.cell? ⟨b, 3, none⟩ = some (.int .i64 err)) (hf : w.frozen? ⟨b, 3, none⟩ = false) :
    Calls Tryz.prog 116 #[.pointer (some ⟨b, 0, none⟩), .int .i64 q] w fun e w' => e = .returned (.pointer (some ⟨b, 0, none⟩)) ∧ w.setCell ⟨b, 3, none⟩ (.int .i64 q) = w' := by
  go_enter Tryz.func116, Tryz.ntmps116
  go_wp2
  go_ret
  exact ⟨rfl, rfl⟩

theorem put_dead (b : Nat) (v : Value) (bs : List Int) (most err : Int) (s : Value) (w : World) (h : WrS w b v bs most err) (he : ¬ err = 0) :
    Calls Tryz.prog 96 #[.pointer (some ⟨b, 0, none⟩), s] w fun e w' => e = .returned (.pointer (some ⟨b, 0, none⟩)) ∧ w = w' := by
  have h0 := h.made
  have h3 := h.err
  have he' : (err == 0) = false := by simpa using he
  go_enter Tryz.func96, Tryz.ntmps96
  go_wp2_with (go_at_call 115; refine (whole_any _ err _ h0 h3).mono ?_; rintro e w' ⟨rfl, rfl⟩)
  go_ret
  exact ⟨rfl, rfl⟩

theorem put_long (b : Nat) (v : Value) (bs : List Int) (most : Int) (a : Option Addr) (m c : Nat) (w : World) (h : WrS w b v bs most 0) (hfit : most < (bs.length : Int) + m) (hcap : bs.length + m ≤ 1099511627776) :
    Calls Tryz.prog 96 #[.pointer (some ⟨b, 0, none⟩), .slice a m c] w fun e w' => e = .returned (.pointer (some ⟨b, 0, none⟩)) ∧ ∃ n, (w.drewN n).setCell ⟨b, 3, none⟩ (.int .i64 11) = w' := by
  have h0 := h.made
  have h1 := h.row
  have h2 := h.most
  have h3 := h.err
  have hf := h.f3
  have hlt := lt_of_cell h0
  obtain ⟨va, vc, rfl⟩ := own_form h.own
  clear h
  go_enter Tryz.func96, Tryz.ntmps96
  go_wp2_with (go_at_call 115; refine (whole_any _ 0 _ h0 h3).mono ?_; rintro e w' ⟨rfl, rfl⟩)
  go_quiet (fail)
  go_wp2_with (go_at_call 116; refine (wrefuse_any _ _ 0 _ (by simpa using h3) (by simpa using hf)).mono ?_; rintro e w' ⟨rfl, rfl⟩)
  go_ret
  exact ⟨rfl, _, rfl⟩

theorem put_all (b : Nat) (v : Value) (bs : List Int) (most err : Int) (ad : Addr) (c : Nat) (ns : List Int) (w : World) (h : WrS w b v bs most err) (hs : ∀ j u, (bytesOf ns)[j]? = some u → w.cell? (ad.add j) = some u) (hcap : bs.length + ns.length ≤ 1099511627776) :
    Calls Tryz.prog 96 #[.pointer (some ⟨b, 0, none⟩), .slice (some ad) ns.length c] w fun e w' => e = .returned (.pointer (some ⟨b, 0, none⟩)) ∧
      ∃ v', WrS w' b v' (putB bs most err ns) most (putE bs most err ns) ∧ Touch (wrF b v) w w' ∧ Moved w v v' := by
  by_cases he : err = 0
  · subst he
    by_cases hfit : (bs.length : Int) + ns.length ≤ most
    · refine (put_ok b v bs most ad c ns w h hs hfit hcap).mono ?_
      rintro e w' ⟨rfl, v', h1, h2, h3⟩
      exact ⟨rfl, v', by simpa [putB, putE, hfit] using h1, h2, h3⟩
    · refine (put_long b v bs most (some ad) ns.length c w h (by omega) hcap).mono ?_
      rintro e w' ⟨rfl, n, rfl⟩
      refine ⟨rfl, v, ?_, ?_, Or.inl rfl⟩
      · simpa [putB, putE, hfit] using (h.drewN n).setErr 11
      · exact ((Touch.refl _ w).drewN n).trans (WrS.touchErr _)
  · refine (put_dead b v bs most err _ w h he).mono ?_
    rintro e w' ⟨rfl, rfl⟩
    exact ⟨rfl, v, by simpa [putB, putE, he] using h, Touch.refl _ _, Or.inl rfl⟩

theorem spell_dead (b : Nat) (x n err : Int) (f : Value) (w : World) (h0 : w.cell? ⟨b, 0, none⟩ = some (.bool true)) (h3 : w.cell? ⟨b, 3, none⟩ = some (.int .i64 err)) (he : (err == 0) = false) :
    Calls Tryz.prog 117 #[.pointer (some ⟨b, 0, none⟩), .int .u32 x, .int .i64 n, f] w fun e w' => e = .returned (.pointer (some ⟨b, 0, none⟩)) ∧ w = w' := by
  go_enter Tryz.func117, Tryz.ntmps117
  go_wp2_with (go_at_call 115; refine (whole_any _ err _ h0 h3).mono ?_; rintro e w' ⟨rfl, rfl⟩)
  go_ret
  exact ⟨rfl, rfl⟩

theorem wnumber_dead (b : Nat) (v : Value) (bs : List Int) (most err : Int) (x n : Int) (w : World) (h : WrS w b v bs most err) (he : ¬ err = 0) :
    Calls Tryz.prog 97 #[.pointer (some ⟨b, 0, none⟩), .int .u32 x, .int .i64 n] w fun e w' => e = .returned (.pointer (some ⟨b, 0, none⟩)) ∧ w = w' := by
  have hmf : ∀ (fn : Fn) (first cap : Array Value) (w : World), (Instr.makeFunc fn first cap).run Tryz.prog w = .ok (.func fn first cap) w := fun _ _ _ _ => rfl
  go_enter Tryz.func97, Tryz.ntmps97
  go_wp2_with (go_at_call 117; refine (spell_dead _ _ _ err _ _ h.made h.err (by simpa using he)).mono ?_; rintro e w' ⟨rfl, rfl⟩)
  go_ret
  exact ⟨rfl, rfl⟩

theorem wnumber_put1 (b : Nat) (v : Value) (bs : List Int) (most : Int) (x : Int) (w : World) (h : WrS w b v bs most 0) (hx : 0 ≤ x ∧ x < 256) (hcap : bs.length ≤ 1048576) :
    Calls Tryz.prog 97 #[.pointer (some ⟨b, 0, none⟩), .int .u32 x, .int .i64 1] w fun e w' => e = .returned (.pointer (some ⟨b, 0, none⟩)) ∧
      ∃ v', WrS w' b v' (putB bs most 0 (numBytes 1 x)) most (putE bs most 0 (numBytes 1 x)) ∧ Touch (wrF b v) w w' ∧ Moved w v v' := by
  obtain ⟨hx0, hx1⟩ := hx
  have hmf : ∀ (fn : Fn) (first cap : Array Value) (w : World), (Instr.makeFunc fn first cap).run Tryz.prog w = .ok (.func fn first cap) w := fun _ _ _ _ => rfl
  have h0 := h.made
  have h3 := h.err
  have HN : Hid (numBytes 1 x = [x]) := by show _ = _; simp [numBytes]; omega
  go_enter Tryz.func97, Tryz.ntmps97
  go_wp2_with (first | (go_at_call 115; refine (whole_any _ 0 _ (by assumption) (by assumption)).mono ?_; rintro e w' ⟨rfl, rfl⟩) | (go_at_call 117; go_in))
  refine (put_all b v bs most 0 ⟨w.heap.size, 3, none⟩ 1 [x] _ (h.alloc _) (src_new _ _ _ _ _ (by simp [bytesOf])) (by simp; omega)).mono ?_
  rintro e w' ⟨rfl, v', hw, ht, ha⟩
  clear hmf h0 h3
  go_wp2
  go_ret
  rw [HN.out]
  refine ⟨rfl, v', hw, ((Touch.refl _ _).alloc _).trans ht, ?_⟩
  rcases ha with ha | ⟨g, hg, hl⟩
  · exact Or.inl ha
  · exact Or.inr ⟨g, hg, by simp at hl; omega⟩

theorem wnumber_put2 (b : Nat) (v : Value) (bs : List Int) (most : Int) (x : Int) (w : World) (h : WrS w b v bs most 0) (hx : 0 ≤ x ∧ x < 65536) (hcap : bs.length ≤ 1048576) :
    Calls Tryz.prog 97 #[.pointer (some ⟨b, 0, none⟩), .int .u32 x, .int .i64 2] w fun e w' => e = .returned (.pointer (some ⟨b, 0, none⟩)) ∧
      ∃ v', WrS w' b v' (putB bs most 0 (numBytes 2 x)) most (putE bs most 0 (numBytes 2 x)) ∧ Touch (wrF b v) w w' ∧ Moved w v v' := by
  obtain ⟨hx0, hx1⟩ := hx
  have hmf : ∀ (fn : Fn) (first cap : Array Value) (w : World), (Instr.makeFunc fn first cap).run Tryz.prog w = .ok (.func fn first cap) w := fun _ _ _ _ => rfl
  have h0 := h.made
  have h3 := h.err
  have HN : Hid (numBytes 2 x = [x / 256, x % 256]) := by show _ = _; simp [numBytes]; omega
  go_enter Tryz.func97, Tryz.ntmps97
  go_wp2_with (first | (go_at_call 115; refine (whole_any _ 0 _ (by assumption) (by assumption)).mono ?_; rintro e w' ⟨rfl, rfl⟩) | (go_at_call 117; go_in))
  refine (put_all b v bs most 0 ⟨w.heap.size, 2, none⟩ 2 [x / 256, x % 256] _ (h.alloc _) (src_new _ _ _ _ _ (by simp [bytesOf])) (by simp; omega)).mono ?_
  rintro e w' ⟨rfl, v', hw, ht, ha⟩
  clear hmf h0 h3
  go_wp2
  go_ret
  rw [HN.out]
  refine ⟨rfl, v', hw, ((Touch.refl _ _).alloc _).trans ht, ?_⟩
  rcases ha with ha | ⟨g, hg, hl⟩
  · exact Or.inl ha
  · exact Or.inr ⟨g, hg, by simp at hl; omega⟩

theorem wnumber_put3 (b : Nat) (v : Value) (bs : List Int) (most : Int) (x : Int) (w : World) (h : WrS w b v bs most 0) (hx : 0 ≤ x ∧ x < 16777216) (hcap : bs.length ≤ 1048576) :
    Calls Tryz.prog 97 #[.pointer (some ⟨b, 0, none⟩), .int .u32 x, .int .i64 3] w fun e w' => e = .returned (.pointer (some ⟨b, 0, none⟩)) ∧
      ∃ v', WrS w' b v' (putB bs most 0 (numBytes 3 x)) most (putE bs most 0 (numBytes 3 x)) ∧ Touch (wrF b v) w w' ∧ Moved w v v' := by
  obtain ⟨hx0, hx1⟩ := hx
  have hmf : ∀ (fn : Fn) (first cap : Array Value) (w : World), (Instr.makeFunc fn first cap).run Tryz.prog w = .ok (.func fn first cap) w := fun _ _ _ _ => rfl
  have h0 := h.made
  have h3 := h.err
  have HN : Hid (numBytes 3 x = [x / 65536, x / 256 % 256, x % 256]) := by show _ = _; simp [numBytes]; omega
  go_enter Tryz.func97, Tryz.ntmps97
  go_wp2_with (first | (go_at_call 115; refine (whole_any _ 0 _ (by assumption) (by assumption)).mono ?_; rintro e w' ⟨rfl, rfl⟩) | (go_at_call 117; go_in))
  refine (put_all b v bs most 0 ⟨w.heap.size, 1, none⟩ 3 [x / 65536, x / 256 % 256, x % 256] _ (h.alloc _) (src_new _ _ _ _ _ (by simp [bytesOf])) (by simp; omega)).mono ?_
  rintro e w' ⟨rfl, v', hw, ht, ha⟩
  clear hmf h0 h3
  go_wp2
  go_ret
  rw [HN.out]
  refine ⟨rfl, v', hw, ((Touch.refl _ _).alloc _).trans ht, ?_⟩
  rcases ha with ha | ⟨g, hg, hl⟩
  · exact Or.inl ha
  · exact Or.inr ⟨g, hg, by simp at hl; omega⟩

theorem wnumber_put4 (b : Nat) (v : Value) (bs : List Int) (most : Int) (x : Int) (w : World) (h : WrS w b v bs most 0) (hx : 0 ≤ x ∧ x < 4294967296) (hcap : bs.length ≤ 1048576) :
    Calls Tryz.prog 97 #[.pointer (some ⟨b, 0, none⟩), .int .u32 x, .int .i64 4] w fun e w' => e = .returned (.pointer (some ⟨b, 0, none⟩)) ∧
      ∃ v', WrS w' b v' (putB bs most 0 (numBytes 4 x)) most (putE bs most 0 (numBytes 4 x)) ∧ Touch (wrF b v) w w' ∧ Moved w v v' := by
  obtain ⟨hx0, hx1⟩ := hx
  have hmf : ∀ (fn : Fn) (first cap : Array Value) (w : World), (Instr.makeFunc fn first cap).run Tryz.prog w = .ok (.func fn first cap) w := fun _ _ _ _ => rfl
  have h0 := h.made
  have h3 := h.err
  have HN : Hid (numBytes 4 x = [x / 16777216, x / 65536 % 256, x / 256 % 256, x % 256]) := by show _ = _; simp [numBytes]; omega
  go_enter Tryz.func97, Tryz.ntmps97
  go_wp2_with (first | (go_at_call 115; refine (whole_any _ 0 _ (by assumption) (by assumption)).mono ?_; rintro e w' ⟨rfl, rfl⟩) | (go_at_call 117; go_in))
  refine (put_all b v bs most 0 ⟨w.heap.size, 0, none⟩ 4 [x / 16777216, x / 65536 % 256, x / 256 % 256, x % 256] _ (h.alloc _) (src_new _ _ _ _ _ (by simp [bytesOf])) (by simp; omega)).mono ?_
  rintro e w' ⟨rfl, v', hw, ht, ha⟩
  clear hmf h0 h3
  go_wp2
  go_ret
  rw [HN.out]
  refine ⟨rfl, v', hw, ((Touch.refl _ _).alloc _).trans ht, ?_⟩
  rcases ha with ha | ⟨g, hg, hl⟩
  · exact Or.inl ha
  · exact Or.inr ⟨g, hg, by simp at hl; omega⟩

end Go.Proofs.YtjjgbcjgmjggnaaGreatDoor
