/- Contracts of the writer's methods. -/
import Derived.Test.YthilfealloakdaaGreatParts
import Derived.Laws.CopyOwn
import Derived.Test.YthilfealloakdaaGreatNumB
namespace Go.Proofs.YthilfealloakdaaGreat
open Go.RowKit
set_option linter.unusedVariables false
set_option maxRecDepth 100000

theorem Tryz.info5 : (Tryz.prog.info? 5).map (fun i => (i.zero, i.size, i.bytes)) = some (some (.int .u8 0), 1, 1) := by kernel_rfl

theorem fault_any (b : Nat) (err : Int) (w : World) (h0 : w.cell? ⟨b, 0, none⟩ = some (.bool true)) (h3 : w.cell? ⟨b, 3, none⟩ = some (.int .i64 err)) :
    Calls Tryz.prog 151 #[.pointer (some ⟨b, 0, none⟩)] w fun e w' => e = .returned (.int .i64 err) ∧ w = w' := by
  go_enter Tryz.func151, Tryz.ntmps151
  go_wp2
  go_ret
  exact ⟨rfl, rfl⟩

theorem whole_any (b : Nat) (err : Int) (w : World) (h0 : w.cell? ⟨b, 0, none⟩ = some (.bool true)) (h3 : w.cell? ⟨b, 3, none⟩ = some (.int .i64 err)) :
    Calls Tryz.prog 150 #[.pointer (some ⟨b, 0, none⟩)] w fun e w' => e = .returned (.bool (err == 0)) ∧ w = w' := by
  go_enter Tryz.func150, Tryz.ntmps150
  go_wp2_with (go_at_call 151; refine (fault_any _ err _ (by assumption) (by assumption)).mono ?_; rintro e w' ⟨rfl, rfl⟩)
  go_ret
  exact ⟨rfl, rfl⟩

theorem put_ok (b : Nat) (v : Value) (bs : List Int) (most : Int) (ad : Addr) (c : Nat) (ns : List Int) (w : World) (h : WrS w b v bs most 0)
    (hs : ∀ j u, (bytesOf ns)[j]? = some u → w.cell? (ad.add j) = some u) (hfit : (bs.length + ns.length : Int) ≤ most) (hcap : bs.length + ns.length ≤ 1099511627776) :
    Calls Tryz.prog 126 #[.pointer (some ⟨b, 0, none⟩), .slice (some ad) ns.length c] w fun e w' => e = .returned (.pointer (some ⟨b, 0, none⟩)) ∧
      ∃ v', WrS w' b v' (bs ++ ns) most 0 ∧ Touch (wrF b v) w w' ∧ (v'.ownBlock = v.ownBlock ∨ ∃ g, v'.ownBlock = some g ∧ w.heap.size ≤ g) := by
  obtain ⟨i0, hi, hz0, hz1, hz2⟩ := info_parts Tryz.info5
  obtain ⟨h0, h1, h2, h3, hf1, hf3, hown⟩ := h
  have hlt := lt_of_cell h0
  obtain ⟨va, vl, vc, hv, hvl⟩ : ∃ va vl vc, v = .slice va vl vc ∧ vl = bs.length := by
    rcases hown.2 with ⟨rfl, e⟩ | ⟨g, cap, cur, rfl, _⟩
    · exact ⟨_, _, _, rfl, e.symm⟩
    · exact ⟨_, _, _, rfl, rfl⟩
  subst hv
  subst hvl
  go_enter Tryz.func126, Tryz.ntmps126
  go_wp2_with (go_at_call 150; refine (whole_any _ 0 _ (by assumption) (by assumption)).mono ?_; rintro e w' ⟨rfl, rfl⟩)
  go_quiet (fail)
  go_wp2_with (at_builtin; (refine wpList_append_own_at _ rfl (.tmp 28) (.tmp 29) 22 rfl (b + 1) 5 i0 (.int .u8 0) 1 1 Tryz.underlying22 hi hz0 hz1 hz2 rfl (by decide) (.slice va bs.length vc) bs.length (bytesOf bs) rfl ?c0 ad ns.length c (bytesOf ns) rfl ?c6 ?c1 ?c2 ?c3 ?c4 ?c5 ?_))
  case c0 => exact (WrS.drewN ⟨h0, h1, h2, h3, hf1, hf3, hown⟩ nq).own
  case c6 => simp [length_bytesOf]
  case c1 => exact hs
  case c2 => exact oneCell_bytesOf ns
  case c3 => unfold maxLen; omega
  case c4 => omega
  case c5 => show b + 1 ≤ w.heap.size; omega
  intro v' w1 hown' hgrow _ hat
  have R := wr_appended (bs' := bs ++ ns) (WrS.drewN ⟨h0, h1, h2, h3, hf1, hf3, hown⟩ nq) hgrow (by rw [bytesOf_append, List.length_append]; exact hown')
  have hne : ¬ (Value.slice va bs.length vc).ownBlock = some b := own_ne hown (Nat.lt_succ_self b)
  have hc1 : w1.cell? ⟨b, 1, none⟩ = some (.slice va bs.length vc) := (World.cell?_of_block (w := w) (hgrow.block b hlt (fun e => hne e.symm))).trans h1
  have hf1' : w1.frozen? ⟨b, 1, none⟩ = false := (World.frozen?_of_block (w := w) (hgrow.block b hlt (fun e => hne e.symm))).trans hf1
  obtain ⟨va', vl', vc', hv'⟩ : ∃ va' vl' vc', v' = .slice va' vl' vc' := by
    rcases hown'.2 with ⟨rfl, e⟩ | ⟨g, cap, cur, rfl, _⟩
    · exact ⟨_, _, _, rfl⟩
    · exact ⟨_, _, _, rfl⟩
  subst hv'
  have HR : Hid (WrS (w1.setCell ⟨b, 1, none⟩ (.slice va' vl' vc')) b (.slice va' vl' vc') (bs ++ ns) most 0 ∧ Touch (wrF b (.slice va bs.length vc)) (w.drewN nq) (w1.setCell ⟨b, 1, none⟩ (.slice va' vl' vc'))) := R
  have HA : Hid ((Value.slice va' vl' vc').ownBlock = (Value.slice va bs.length vc).ownBlock ∨ (Value.slice va' vl' vc').ownBlock = some w.heap.size) := hat
  clear R hown' hgrow hat hown hne hs h0 h1 h2 h3 hf1 hf3
  go_wp2
  go_ret
  refine ⟨rfl, _, HR.out.1, ((Touch.refl _ _).drewN nq).trans HR.out.2, ?_⟩
  rcases HA.out with h | h
  · exact Or.inl h
  · exact Or.inr ⟨_, h, Nat.le_refl _⟩
end Go.Proofs.YthilfealloakdaaGreat

namespace Go.Proofs.YthilfealloakdaaGreat
open Go.RowKit
set_option linter.unusedVariables false
set_option maxRecDepth 100000


theorem number_ok1 (b : Nat) (v : Value) (bs : List Int) (most : Int) (x : Int) (w : World) (h : WrS w b v bs most 0)
    (hx : 0 ≤ x ∧ x < 256) (hfit : (bs.length : Int) + 1 ≤ most) (hcap : bs.length ≤ 1048576) :
    Calls Tryz.prog 127 #[.pointer (some ⟨b, 0, none⟩), .int .u32 x, .int .i64 1] w fun e w' => e = .returned (.pointer (some ⟨b, 0, none⟩)) ∧
      ∃ v', WrS w' b v' (bs ++ numBytes 1 x) most 0 ∧ Touch (wrF b v) w w' ∧ (v'.ownBlock = v.ownBlock ∨ ∃ g, v'.ownBlock = some g ∧ w.heap.size ≤ g) := by
  obtain ⟨hx0, hx1⟩ := hx
  have hmf : ∀ (fn : Fn) (first cap : Array Value) (w : World), (Instr.makeFunc fn first cap).run Tryz.prog w = .ok (.func fn first cap) w := fun _ _ _ _ => rfl
  have h0 := h.made
  have h3 := h.err
  have HN : Hid (numBytes 1 x = [x]) := by show _ = _; simp [numBytes]; omega
  go_enter Tryz.func127, Tryz.ntmps127
  go_wp2_with (first | (go_at_call 150; refine (whole_any _ 0 _ (by assumption) (by assumption)).mono ?_; rintro e w' ⟨rfl, rfl⟩) | (go_at_call 148; go_in))
  refine (put_ok b v bs most ⟨w.heap.size, 3, none⟩ 1 [x] _ (h.alloc _) (src_new _ _ _ _ _ (by simp [bytesOf])) (by simp; omega) (by simp; omega)).mono ?_
  rintro e w' ⟨rfl, v', hw, ht, ha⟩
  clear hmf h0 h3
  go_wp2
  go_ret
  rw [HN.out]
  refine ⟨rfl, v', hw, ((Touch.refl _ _).alloc _).trans ht, ?_⟩
  rcases ha with ha | ⟨g, hg, hl⟩
  · exact Or.inl ha
  · exact Or.inr ⟨g, hg, by simp at hl; omega⟩

theorem number_ok2 (b : Nat) (v : Value) (bs : List Int) (most : Int) (x : Int) (w : World) (h : WrS w b v bs most 0)
    (hx : 0 ≤ x ∧ x < 65536) (hfit : (bs.length : Int) + 2 ≤ most) (hcap : bs.length ≤ 1048576) :
    Calls Tryz.prog 127 #[.pointer (some ⟨b, 0, none⟩), .int .u32 x, .int .i64 2] w fun e w' => e = .returned (.pointer (some ⟨b, 0, none⟩)) ∧
      ∃ v', WrS w' b v' (bs ++ numBytes 2 x) most 0 ∧ Touch (wrF b v) w w' ∧ (v'.ownBlock = v.ownBlock ∨ ∃ g, v'.ownBlock = some g ∧ w.heap.size ≤ g) := by
  obtain ⟨hx0, hx1⟩ := hx
  have hmf : ∀ (fn : Fn) (first cap : Array Value) (w : World), (Instr.makeFunc fn first cap).run Tryz.prog w = .ok (.func fn first cap) w := fun _ _ _ _ => rfl
  have h0 := h.made
  have h3 := h.err
  have HN : Hid (numBytes 2 x = [x / 256, x % 256]) := by show _ = _; simp [numBytes]; omega
  go_enter Tryz.func127, Tryz.ntmps127
  go_wp2_with (first | (go_at_call 150; refine (whole_any _ 0 _ (by assumption) (by assumption)).mono ?_; rintro e w' ⟨rfl, rfl⟩) | (go_at_call 148; go_in))
  refine (put_ok b v bs most ⟨w.heap.size, 2, none⟩ 2 [x / 256, x % 256] _ (h.alloc _) (src_new _ _ _ _ _ (by simp [bytesOf])) (by simp; omega) (by simp; omega)).mono ?_
  rintro e w' ⟨rfl, v', hw, ht, ha⟩
  clear hmf h0 h3
  go_wp2
  go_ret
  rw [HN.out]
  refine ⟨rfl, v', hw, ((Touch.refl _ _).alloc _).trans ht, ?_⟩
  rcases ha with ha | ⟨g, hg, hl⟩
  · exact Or.inl ha
  · exact Or.inr ⟨g, hg, by simp at hl; omega⟩

theorem number_ok3 (b : Nat) (v : Value) (bs : List Int) (most : Int) (x : Int) (w : World) (h : WrS w b v bs most 0)
    (hx : 0 ≤ x ∧ x < 16777216) (hfit : (bs.length : Int) + 3 ≤ most) (hcap : bs.length ≤ 1048576) :
    Calls Tryz.prog 127 #[.pointer (some ⟨b, 0, none⟩), .int .u32 x, .int .i64 3] w fun e w' => e = .returned (.pointer (some ⟨b, 0, none⟩)) ∧
      ∃ v', WrS w' b v' (bs ++ numBytes 3 x) most 0 ∧ Touch (wrF b v) w w' ∧ (v'.ownBlock = v.ownBlock ∨ ∃ g, v'.ownBlock = some g ∧ w.heap.size ≤ g) := by
  obtain ⟨hx0, hx1⟩ := hx
  have hmf : ∀ (fn : Fn) (first cap : Array Value) (w : World), (Instr.makeFunc fn first cap).run Tryz.prog w = .ok (.func fn first cap) w := fun _ _ _ _ => rfl
  have h0 := h.made
  have h3 := h.err
  have HN : Hid (numBytes 3 x = [x / 65536, x / 256 % 256, x % 256]) := by show _ = _; simp [numBytes]; omega
  go_enter Tryz.func127, Tryz.ntmps127
  go_wp2_with (first | (go_at_call 150; refine (whole_any _ 0 _ (by assumption) (by assumption)).mono ?_; rintro e w' ⟨rfl, rfl⟩) | (go_at_call 148; go_in))
  refine (put_ok b v bs most ⟨w.heap.size, 1, none⟩ 3 [x / 65536, x / 256 % 256, x % 256] _ (h.alloc _) (src_new _ _ _ _ _ (by simp [bytesOf])) (by simp; omega) (by simp; omega)).mono ?_
  rintro e w' ⟨rfl, v', hw, ht, ha⟩
  clear hmf h0 h3
  go_wp2
  go_ret
  rw [HN.out]
  refine ⟨rfl, v', hw, ((Touch.refl _ _).alloc _).trans ht, ?_⟩
  rcases ha with ha | ⟨g, hg, hl⟩
  · exact Or.inl ha
  · exact Or.inr ⟨g, hg, by simp at hl; omega⟩

theorem number_ok4 (b : Nat) (v : Value) (bs : List Int) (most : Int) (x : Int) (w : World) (h : WrS w b v bs most 0)
    (hx : 0 ≤ x ∧ x < 4294967296) (hfit : (bs.length : Int) + 4 ≤ most) (hcap : bs.length ≤ 1048576) :
    Calls Tryz.prog 127 #[.pointer (some ⟨b, 0, none⟩), .int .u32 x, .int .i64 4] w fun e w' => e = .returned (.pointer (some ⟨b, 0, none⟩)) ∧
      ∃ v', WrS w' b v' (bs ++ numBytes 4 x) most 0 ∧ Touch (wrF b v) w w' ∧ (v'.ownBlock = v.ownBlock ∨ ∃ g, v'.ownBlock = some g ∧ w.heap.size ≤ g) := by
  obtain ⟨hx0, hx1⟩ := hx
  have hmf : ∀ (fn : Fn) (first cap : Array Value) (w : World), (Instr.makeFunc fn first cap).run Tryz.prog w = .ok (.func fn first cap) w := fun _ _ _ _ => rfl
  have h0 := h.made
  have h3 := h.err
  have HN : Hid (numBytes 4 x = [x / 16777216, x / 65536 % 256, x / 256 % 256, x % 256]) := by show _ = _; simp [numBytes]; omega
  go_enter Tryz.func127, Tryz.ntmps127
  go_wp2_with (first | (go_at_call 150; refine (whole_any _ 0 _ (by assumption) (by assumption)).mono ?_; rintro e w' ⟨rfl, rfl⟩) | (go_at_call 148; go_in))
  refine (put_ok b v bs most ⟨w.heap.size, 0, none⟩ 4 [x / 16777216, x / 65536 % 256, x / 256 % 256, x % 256] _ (h.alloc _) (src_new _ _ _ _ _ (by simp [bytesOf])) (by simp; omega) (by simp; omega)).mono ?_
  rintro e w' ⟨rfl, v', hw, ht, ha⟩
  clear hmf h0 h3
  go_wp2
  go_ret
  rw [HN.out]
  refine ⟨rfl, v', hw, ((Touch.refl _ _).alloc _).trans ht, ?_⟩
  rcases ha with ha | ⟨g, hg, hl⟩
  · exact Or.inl ha
  · exact Or.inr ⟨g, hg, by simp at hl; omega⟩

end Go.Proofs.YthilfealloakdaaGreat
