/- Contracts of the writer's methods. -/
import Derived.Test.YtbfplepmgbkajaaGreatDoorKeep
import Derived.Laws.CopyOwn
import Derived.Test.YtbfplepmgbkajaaGreatDoorNumber
import Derived.Test.YtbfplepmgbkajaaGreatDoorWideV
import Derived.Recover
import Derived.Defers
namespace Go.Proofs.YtbfplepmgbkajaaGreatDoor
open Go.RowKit
set_option linter.unusedVariables false
set_option maxRecDepth 100000

theorem Tryz.info5 : (Tryz.prog.info? 5).map (fun i => (i.zero, i.size, i.bytes)) = some (some (.int .u8 0), 1, 1) := by kernel_rfl

theorem fault_any (b : Nat) (err : Int) (w : World) (h0 : w.cell? ⟨b, 0, none⟩ = some (.bool true)) (h3 : w.cell? ⟨b, 3, none⟩ = some (.int .i64 err)) :
  Calls Tryz.prog 164 #[.pointer (some ⟨b, 0, none⟩)] w fun e w' => e = .returned (.int .i64 err) ∧ w = w' := by
 go_enter Tryz.func164, Tryz.ntmps164
 go_wp2
 go_ret
 exact ⟨rfl, rfl⟩

theorem whole_any (b : Nat) (err : Int) (w : World) (h0 : w.cell? ⟨b, 0, none⟩ = some (.bool true)) (h3 : w.cell? ⟨b, 3, none⟩ = some (.int .i64 err)) :
  Calls Tryz.prog 163 #[.pointer (some ⟨b, 0, none⟩)] w fun e w' => e = .returned (.bool (err == 0)) ∧ w = w' := by
 go_enter Tryz.func163, Tryz.ntmps163
 go_wp2_with (go_at_call 164; refine (fault_any _ err _ (by assumption) (by assumption)).mono ?_; rintro e w' ⟨rfl, rfl⟩)
 go_ret
 exact ⟨rfl, rfl⟩

theorem put_ok (b : Nat) (v : Value) (bs : List Int) (most : Int) (ad : Addr) (c : Nat) (ns : List Int) (w : World) (h : WrS w b v bs most 0)
  (hs : ∀ j u, (bytesOf ns)[j]? = some u → w.cell? (ad.add j) = some u) (hfit : (bs.length + ns.length : Int) ≤ most) (hcap : bs.length + ns.length ≤ 1099511627776) :
  Calls Tryz.prog 157 #[.pointer (some ⟨b, 0, none⟩), .slice (some ad) ns.length c] w fun e w' => e = .returned (.pointer (some ⟨b, 0, none⟩)) ∧
   ∃ v', WrS w' b v' (bs ++ ns) most 0 ∧ Touch (wrF b v) w w' ∧ (v'.ownBlock = v.ownBlock ∨ ∃ g, v'.ownBlock = some g ∧ w.heap.size ≤ g) := by
 obtain ⟨i0, hi, hz0, hz1, hz2⟩ := info_parts Tryz.info5
 obtain ⟨h0, h1, h2, h3, hf1, hf3, hown⟩ := h
 have hlt := lt_of_cell h0
 obtain ⟨va, vl, vc, hv, hvl⟩ : ∃ va vl vc, v = .slice va vl vc ∧ vl = bs.length := by
  rcases hown.2 with ⟨rfl, e⟩ | ⟨g, cap, cur, rfl, _⟩
  ·exact ⟨_, _, _, rfl, e.symm⟩
  ·exact ⟨_, _, _, rfl, rfl⟩
 subst hv
 subst hvl
 go_enter Tryz.func157, Tryz.ntmps157
 go_wp2_with (go_at_call 163; refine (whole_any _ 0 _ (by assumption) (by assumption)).mono ?_; rintro e w' ⟨rfl, rfl⟩)
 go_quiet (fail)
 go_wp2_with (at_builtin; (refine wpList_append_own_at _ rfl (.tmp 28) (.tmp 29) 40 rfl (b + 1) 5 i0 (.int .u8 0) 1 1 Tryz.underlying40 hi hz0 hz1 hz2 rfl (by decide) (.slice va bs.length vc) bs.length (bytesOf bs) rfl ?c0 ad ns.length c (bytesOf ns) rfl ?c6 ?c1 ?c2 ?c3 ?c4 ?c5 ?_))
 case c0 => exact (WrS.drewN ⟨h0, h1, h2, h3, hf1, hf3, hown⟩ nq).own
 case c6 => simp [length_bytesOf]
 case c1 => exact hs
 case c2 => exact oneCell_bytesOf ns
 case c3 => unfold maxLen; omega
 case c4 => omega
 case c5 => show b + 1 ≤ w.heap.size; omega
 intro v' w1 hown' hgrow _ hat
 have R := wr_appended (bs' := bs ++ ns) (WrS.drewN ⟨h0, h1, h2, h3, hf1, hf3, hown⟩ nq) hgrow (by rw [bytesOf_append, List.length_append]; exact hown')
 have hne : ¬ (Value.slice va bs.length vc).ownBlock = some b := own_ne hown (Nat.lt_succ_self b)
 have hc1 : w1.cell? ⟨b, 1, none⟩ = some (.slice va bs.length vc) := (World.cell?_of_block (w := w) (hgrow.block b hlt (fun e => hne e.symm))).trans h1
 have hf1' : w1.frozen? ⟨b, 1, none⟩ = false := (World.frozen?_of_block (w := w) (hgrow.block b hlt (fun e => hne e.symm))).trans hf1
 obtain ⟨va', vl', vc', hv'⟩ : ∃ va' vl' vc', v' = .slice va' vl' vc' := by
  rcases hown'.2 with ⟨rfl, e⟩ | ⟨g, cap, cur, rfl, _⟩
  ·exact ⟨_, _, _, rfl⟩
  ·exact ⟨_, _, _, rfl⟩
 subst hv'
 have HR : Hid (WrS (w1.setCell ⟨b, 1, none⟩ (.slice va' vl' vc')) b (.slice va' vl' vc') (bs ++ ns) most 0 ∧ Touch (wrF b (.slice va bs.length vc)) (w.drewN nq) (w1.setCell ⟨b, 1, none⟩ (.slice va' vl' vc'))) := R
 have HA : Hid ((Value.slice va' vl' vc').ownBlock = (Value.slice va bs.length vc).ownBlock ∨ (Value.slice va' vl' vc').ownBlock = some w.heap.size) := hat
 clear R hown' hgrow hat hown hne hs h0 h1 h2 h3 hf1 hf3
 go_wp2
 go_ret
 refine ⟨rfl, _, HR.out.1, ((Touch.refl _ _).drewN nq).trans HR.out.2, ?_⟩
 rcases HA.out with h | h
 ·exact Or.inl h
 ·exact Or.inr ⟨_, h, Nat.le_refl _⟩
end Go.Proofs.YtbfplepmgbkajaaGreatDoor

namespace Go.Proofs.YtbfplepmgbkajaaGreatDoor
open Go.RowKit
set_option linter.unusedVariables false
set_option maxRecDepth 100000

theorem rnumber_short (b p m : Nat) (rv : Value) (rs : List Int) (w : World) (h : RdS w b rv rs p 0) (hm1 : 1 ≤ m) (hm4 : m ≤ 4) (hm : rs.length < p + m) :
  Calls Tryz.prog 117 #[.pointer (some ⟨b, 0, none⟩), .int .i64 m] w fun e w' => e = .returned (.int .u32 0) ∧
   RdS w' b rv rs p 10 ∧ Touch (fun k => k = b) w w' ∧ w'.heap.size = w.heap.size := by
 have hd1 : decide ((m : Int) < 1) = false := by simp; omega
 have hd2 : decide ((4 : Int) < m) = false := by simp; omega
 go_enter Tryz.func117, Tryz.ntmps117
 go_wp2_with (go_at_call 150; refine (cut_short _ p m _ rs _ h (by omega) (by omega)).mono ?_; rintro e w' ⟨rfl, hrest⟩)
 go_rounds 1
 go_ret
 exact ⟨rfl, hrest⟩

/-- Done of a whole writer: a copy of its bytes, in new memory. -/
theorem done_ok (b : Nat) (v : Value) (bs : List Int) (most : Int) (w : World) (h : WrS w b v bs most 0) (hcap : bs.length ≤ 1099511627776) :
  Calls Tryz.prog 133 #[.pointer (some ⟨b, 0, none⟩)] w fun e w' => ∃ v', e = .returned (.tuple #[v', .int .i64 0]) ∧ w'.ownsRow w.heap.size 5 1 v' bs.length (bytesOf bs) ∧ Touch (fun _ => False) w w' := by
 have h0 := h.made
 have h1 := h.row
 have h3 := h.err
 rcases h.own.2 with ⟨rfl, e⟩ | ⟨g, cap, cur, rfl, hbg, hg, hnc, hcm, hcs, htake⟩
 ·obtain rfl : bs = [] := List.eq_nil_of_length_eq_zero e
  go_enter Tryz.func133, Tryz.ntmps133
  go_wp2_with (first | (go_at_call 163; refine (whole_any _ 0 _ (by assumption) (by assumption)).mono ?_; rintro e w' ⟨rfl, rfl⟩) | (go_at_call 137; refine (clone_nil _).mono ?_; rintro e w' ⟨rfl, rfl⟩))
  go_ret2
  exact ⟨_, rfl, World.ownsRow_nil _ _ _ _, Touch.refl _ _⟩
 ·have hs : ∀ j u, (bytesOf bs)[j]? = some u → w.cell? ((⟨g, 0, none⟩ : Addr).add j) = some u := h.own.cells (g := g) rfl
  go_enter Tryz.func133, Tryz.ntmps133
  go_wp2_with (first | (go_at_call 163; refine (whole_any _ 0 _ (by assumption) (by assumption)).mono ?_; rintro e w' ⟨rfl, rfl⟩) | (go_at_call 137; refine (clone_some _ _ bs _ hs hcap).mono ?_; rintro e w' ⟨v', rfl, hown, ht, hne⟩))
  go_ret2
  exact ⟨_, rfl, hown, ht⟩

end Go.Proofs.YtbfplepmgbkajaaGreatDoor

namespace Go.Proofs.YtbfplepmgbkajaaGreatDoor
open Go.RowKit
set_option linter.unusedVariables false
set_option maxRecDepth 100000

/-- One step of a reader: the place, the error, was anything taken. -/
def stepR (len p : Nat) (err n : Int) : Nat × Int × Bool :=
 if err = 0 then (if n < 0 then (p, 1, false) else if (len : Int) < p + n then (p, 10, false) else (p + n.toNat, 0, true)) else (p, err, false)
def gotR (rs : List Int) (p : Nat) (err n : Int) : List Int := if (stepR rs.length p err n).2.2 = true then (rs.drop p).take n.toNat else []
theorem stepR_dead (len p : Nat) (err n : Int) (h : ¬ err = 0) : stepR len p err n = (p, err, false) := by simp [stepR, h]
theorem stepR_arg (len p : Nat) (n : Int) (h : n < 0) : stepR len p 0 n = (p, 1, false) := by simp [stepR, h]
theorem stepR_short (len p : Nat) (n : Int) (h : ¬ n < 0) (h2 : (len : Int) < p + n) : stepR len p 0 n = (p, 10, false) := by simp [stepR, h, h2]
theorem stepR_ok (len p : Nat) (n : Int) (h : ¬ n < 0) (h2 : ¬ (len : Int) < p + n) : stepR len p 0 n = (p + n.toNat, 0, true) := by simp [stepR, h, h2]

theorem cut_dead (b p : Nat) (n err : Int) (rv : Value) (rs : List Int) (w : World) (h : RdS w b rv rs p err) (he : ¬ err = 0) :
  Calls Tryz.prog 150 #[.pointer (some ⟨b, 0, none⟩), .int .i64 n] w fun e w' => e = .returned (.slice none 0 0) ∧ w = w' := by
 have h0 := h.made
 have h3 := h.err
 have he' : (err == 0) = false := by simpa using he
 by_cases hn : n < 0
 ·go_enter Tryz.func150, Tryz.ntmps150
  go_wp2_with (first | (go_at_call 149; refine (refuse_dead _ _ _ _ h0 h3 he').mono ?_; rintro e w' ⟨rfl, rfl⟩) | (go_at_call 178; refine (rwhole_any _ _ _ h0 h3).mono ?_; rintro e w' ⟨rfl, rfl⟩))
  go_ret
  exact ⟨rfl, rfl⟩
 ·by_cases hp : 0 < n
  all_goals
   go_enter Tryz.func150, Tryz.ntmps150
   go_wp2_with (first | (go_at_call 175; refine (left_dead _ _ _ h0 h3 he').mono ?_; rintro e w' ⟨rfl, rfl⟩) | (go_at_call 149; refine (refuse_dead _ _ _ _ h0 h3 he').mono ?_; rintro e w' ⟨rfl, rfl⟩) | (go_at_call 178; refine (rwhole_any _ _ _ h0 h3).mono ?_; rintro e w' ⟨rfl, rfl⟩))
   go_ret
   exact ⟨rfl, rfl⟩

theorem cut_arg (b p : Nat) (n : Int) (rv : Value) (rs : List Int) (w : World) (h : RdS w b rv rs p 0) (hn : n < 0) :
  Calls Tryz.prog 150 #[.pointer (some ⟨b, 0, none⟩), .int .i64 n] w fun e w' => e = .returned (.slice none 0 0) ∧ w.setCell ⟨b, 3, none⟩ (.int .i64 1) = w' := by
 have h0 := h.made
 have h3 := h.err
 have hf := h.f3
 have h' := h.setErr 1
 have k0 := h'.made
 have k3 := h'.err
 go_enter Tryz.func150, Tryz.ntmps150
 go_wp2_with (first | (go_at_call 149; refine (refuse_ok _ _ _ h0 h3 hf).mono ?_; rintro e w' ⟨rfl, rfl⟩) | (go_at_call 178; refine (rwhole_any _ 1 _ k0 k3).mono ?_; rintro e w' ⟨rfl, rfl⟩))
 go_ret
 exact ⟨rfl, rfl⟩

theorem cut_all (b p : Nat) (n err : Int) (rv : Value) (rs : List Int) (w : World) (h : RdS w b rv rs p err) (hn : n ≤ 9223372036854775807) :
  Calls Tryz.prog 150 #[.pointer (some ⟨b, 0, none⟩), .int .i64 n] w fun e w' => ∃ sv, e = .returned sv ∧ RowAt w' sv (gotR rs p err n) ∧ (sv.ownBlock = none ∨ sv.ownBlock = rv.ownBlock) ∧
   RdS w' b rv rs (stepR rs.length p err n).1 (stepR rs.length p err n).2.1 ∧ Touch (fun k => k = b) w w' ∧ w'.heap.size = w.heap.size := by
 by_cases he : err = 0
 ·subst he
  by_cases h0 : n < 0
  ·refine (cut_arg b p n rv rs w h h0).mono ?_
   rintro e w' ⟨rfl, rfl⟩
   refine ⟨_, rfl, ?_, Or.inl rfl, ?_, Touch.setCell (F := fun k => k = b) (p := ⟨b, 3, none⟩) (Touch.refl _ w) (Or.inl rfl) _, by simp [World.setCell]⟩
   ·simp only [gotR, stepR_arg _ _ _ h0]; exact Or.inl ⟨rfl, by simp⟩
   ·rw [stepR_arg _ _ _ h0]; exact h.setErr 1
  ·by_cases h1 : (rs.length : Int) < p + n
   ·refine (cut_short b p n rv rs w h h1 hn).mono ?_
    rintro e w' ⟨rfl, hr, ht, hs⟩
    refine ⟨_, rfl, ?_, Or.inl rfl, ?_, ht, hs⟩
    ·simp only [gotR, stepR_short _ _ _ h0 h1]; exact Or.inl ⟨rfl, by simp⟩
    ·rw [stepR_short _ _ _ h0 h1]; exact hr
   ·obtain ⟨m, rfl⟩ : ∃ m : Nat, n = m := ⟨n.toNat, by omega⟩
    refine (cut_ok b p m rv rs w h (by omega)).mono ?_
    rintro e w' ⟨sv, rfl, hrow, hob, hr, ht, hs⟩
    refine ⟨sv, rfl, ?_, hob, ?_, ht, hs⟩
    ·simp only [gotR, stepR_ok _ _ _ h0 h1, Int.toNat_natCast, if_true]; exact hrow
    ·rw [stepR_ok _ _ _ h0 h1]; simpa using hr
 ·refine (cut_dead b p n err rv rs w h he).mono ?_
  rintro e w' ⟨rfl, rfl⟩
  refine ⟨_, rfl, ?_, Or.inl rfl, ?_, Touch.refl _ _, rfl⟩
  ·simp only [gotR, stepR_dead _ _ _ _ he]; exact Or.inl ⟨rfl, by simp⟩
  ·rw [stepR_dead _ _ _ _ he]; exact h

theorem rnumber_dead (b p : Nat) (n err : Int) (rv : Value) (rs : List Int) (w : World) (h : RdS w b rv rs p err) (he : ¬ err = 0) :
  Calls Tryz.prog 117 #[.pointer (some ⟨b, 0, none⟩), .int .i64 n] w fun e w' => e = .returned (.int .u32 0) ∧ w = w' := by
 have g0 := h.made
 have g3 := h.err
 have he' : (err == 0) = false := by simpa using he
 by_cases h1 : n < 1
 ·go_enter Tryz.func117, Tryz.ntmps117
  go_wp2_with (go_at_call 149; refine (refuse_dead _ _ _ _ g0 g3 he').mono ?_; rintro e w' ⟨rfl, rfl⟩)
  go_ret
  exact ⟨rfl, rfl⟩
 ·have h1' : decide (n < 1) = false := by simpa using h1
  by_cases h4 : 4 < n
  ·go_enter Tryz.func117, Tryz.ntmps117
   go_wp2_with (go_at_call 149; refine (refuse_dead _ _ _ _ g0 g3 he').mono ?_; rintro e w' ⟨rfl, rfl⟩)
   go_ret
   exact ⟨rfl, rfl⟩
  ·have h4' : decide (4 < n) = false := by simpa using h4
   go_enter Tryz.func117, Tryz.ntmps117
   go_wp2_with (go_at_call 150; refine (cut_dead _ _ _ _ _ _ _ h he).mono ?_; rintro e w' ⟨rfl, rfl⟩)
   go_rounds 1
   go_ret
   exact ⟨rfl, rfl⟩

theorem got_len (rs : List Int) (p : Nat) (err n : Int) : (gotR rs p err n).length ≤ rs.length := by
 unfold gotR
 split
 ·simp; omega
 ·simp

theorem rbytes_all (b p : Nat) (n err : Int) (rv : Value) (rs : List Int) (w : World) (h : RdS w b rv rs p err) (hn : n ≤ 9223372036854775807) (hcap : rs.length ≤ 1099511627776) :
  Calls Tryz.prog 141 #[.pointer (some ⟨b, 0, none⟩), .int .i64 n] w fun e w' => ∃ v, e = .returned v ∧ w'.ownsRow w.heap.size 5 1 v (gotR rs p err n).length (bytesOf (gotR rs p err n)) ∧
   RdS w' b rv rs (stepR rs.length p err n).1 (stepR rs.length p err n).2.1 ∧ Touch (fun k => k = b) w w' := by
 have hgl := got_len rs p err n
 have hbl := lt_of_cell h.made
 have hcut := cut_all b p n err rv rs w h hn
 generalize gotR rs p err n = got at hcut hgl ⊢
 generalize stepR rs.length p err n = st at hcut ⊢
 go_enter Tryz.func141, Tryz.ntmps141
 go_wp2_with fail
 refine hcut.mono ?_
 rintro e w1 ⟨sv, rfl, hrow, hob, hr, ht, hs⟩
 rcases hrow with ⟨rfl, rfl⟩ | ⟨g, off, c, rfl, hlc, hcm, hcells⟩
 ·go_wp2_with fail
  refine (clone_nil _).mono ?_
  rintro e w2 ⟨rfl, rfl⟩
  go_wp2
  go_ret
  exact ⟨_, rfl, World.ownsRow_nil _ _ _ _, hr, ht⟩
 ·go_wp2_with fail
  refine (clone_some ⟨g, off, none⟩ c got w1 (fun j u hj => by rw [add_plain]; exact hcells j u hj) (by omega)).mono ?_
  rintro e w2 ⟨v, rfl, hown, t2, hne⟩
  go_wp2
  go_ret
  exact ⟨v, rfl, by rw [← hs]; exact hown, hr.touch t2 (fun h => h) (fun _ _ h => h), ht.trans' t2 (fun _ _ h => h.elim)⟩

end Go.Proofs.YtbfplepmgbkajaaGreatDoor

namespace Go.Proofs.YtbfplepmgbkajaaGreatDoor
open Go.RowKit
set_option linter.unusedVariables false
set_option maxRecDepth 100000

theorem numVal_numOf (l : List Int) : numVal l = numOf l := by
 unfold numVal numOf
 congr 1
 funext a x
 rw [Int.mul_comm]

/-- A reader in block b: at the place q, or short; it and its row lie below N. -/
structure Rdr (N : Nat) (w : World) (b : Nat) (rs : List Int) (q : Option Nat) : Prop where
 out : ∃ rv p err, RdS w b rv rs p err ∧ b < N ∧ (∀ k, rv.ownBlock = some k → k < N) ∧ ((q = some p ∧ err = 0) ∨ (q = none ∧ err = 10))
theorem Rdr.touch {F : Nat → Prop} {N : Nat} {w w' : World} {b : Nat} {rs : List Int} {q : Option Nat} (h : Rdr N w b rs q) (t : Touch F w w') (hF : ∀ k, k < N → ¬ F k) : Rdr N w' b rs q := by
 obtain ⟨rv, p, err, h, hb, ho, hq⟩ := h
 exact ⟨rv, p, err, h.touch t (hF b hb) (fun k hk => hF k (ho k hk)), hb, ho, hq⟩
theorem Rdr.keep {N : Nat} {w w' : World} {b : Nat} {rs : List Int} {q : Option Nat} (h : Rdr N w b rs q) (t : Touch (fun _ => False) w w') : Rdr N w' b rs q := h.touch t (fun _ _ h => h)
theorem Rdr.low {N : Nat} {w : World} {b : Nat} {rs : List Int} {q : Option Nat} (h : Rdr N w b rs q) : b < N := by obtain ⟨_, _, _, _, hb, _⟩ := h; exact hb
theorem Rdr.lt {N : Nat} {w : World} {b : Nat} {rs : List Int} {q : Option Nat} (h : Rdr N w b rs q) : b < w.heap.size := by obtain ⟨_, _, _, h, _⟩ := h; exact lt_of_cell h.made
theorem Rdr.byte {N : Nat} {w : World} {b : Nat} {rs : List Int} {q : Option Nat} (h : Rdr N w b rs q) : ∀ x ∈ rs, 0 ≤ x ∧ x < 256 := by obtain ⟨_, _, _, h, _⟩ := h; exact h.byte
theorem Rdr.ple {N : Nat} {w : World} {b : Nat} {rs : List Int} {p : Nat} (h : Rdr N w b rs (some p)) : p ≤ rs.length := by
 obtain ⟨_, _, _, h, _, _, ⟨e, _⟩ | ⟨e, _⟩⟩ := h
 ·cases e; exact h.ple
 ·cases e
/-- What n bytes at a place are as a number; the place behind them. -/
def numAt (rs : List Int) (q : Option Nat) (n : Nat) : Int := match q with
 | some p => if p + n ≤ rs.length then numOf ((rs.drop p).take n) else 0
 | none => 0
def nextAt (rs : List Int) (q : Option Nat) (n : Nat) : Option Nat := match q with
 | some p => if p + n ≤ rs.length then some (p + n) else none
 | none => none
def leftAt (rs : List Int) (q : Option Nat) : Int := match q with
 | some p => (rs.length : Int) - p
 | none => 0
theorem numAt_bound {rs : List Int} (hb : ∀ x ∈ rs, 0 ≤ x ∧ x < 256) (q : Option Nat) (n : Nat) : 0 ≤ numAt rs q n ∧ numAt rs q n < 256 ^ n := by
 have hp : (0 : Int) < 256 ^ n := Int.pow_pos (by decide)
 unfold numAt
 split
 ·split
  ·rename_i p h
   have := numOf_bound ((rs.drop p).take n) (fun z hz => hb z (List.mem_of_mem_drop (List.mem_of_mem_take hz)))
   rw [show ((rs.drop p).take n).length = n by simp; omega] at this
   exact this
  ·omega
 ·omega

theorem rnum_r (N b n : Nat) (rs : List Int) (q : Option Nat) (w : World) (h : Rdr N w b rs q) (h1 : 1 ≤ n) (h4 : n ≤ 4) :
  Calls Tryz.prog 117 #[.pointer (some ⟨b, 0, none⟩), .int .i64 n] w fun e w' => e = .returned (.int .u32 (numAt rs q n)) ∧ Rdr N w' b rs (nextAt rs q n) ∧ Touch (fun k => k = b) w w' := by
 obtain ⟨rv, p, err, h, hb, ho, ⟨rfl, rfl⟩ | ⟨rfl, rfl⟩⟩ := h
 ·by_cases hp : p + n ≤ rs.length
  ·refine (rnumber_ok b p n rv rs w h (by omega) (by omega) (by omega)).mono ?_
   rintro e w' ⟨rfl, hr, t, _⟩
   refine ⟨?_, ⟨rv, _, _, hr, hb, ho, Or.inl ⟨?_, rfl⟩⟩, t⟩
   ·simp only [numAt, if_pos hp, numVal_numOf]
   ·simp only [nextAt, if_pos hp]
  ·refine (rnumber_short b p n rv rs w h (by omega) (by omega) (by omega)).mono ?_
   rintro e w' ⟨rfl, hr, t, _⟩
   refine ⟨?_, ⟨rv, _, _, hr, hb, ho, Or.inr ⟨?_, rfl⟩⟩, t⟩
   ·simp only [numAt, if_neg hp]
   ·simp only [nextAt, if_neg hp]
 ·refine (rnumber_dead b p n 10 rv rs w h (by omega)).mono ?_
  rintro e w' ⟨rfl, rfl⟩
  exact ⟨rfl, ⟨rv, p, 10, h, hb, ho, Or.inr ⟨rfl, rfl⟩⟩, Touch.refl _ _⟩
theorem rnum1 (N b : Nat) (rs : List Int) (q : Option Nat) (w : World) (h : Rdr N w b rs q) :
  Calls Tryz.prog 117 #[.pointer (some ⟨b, 0, none⟩), .int .i64 1] w fun e w' => e = .returned (.int .u32 (numAt rs q 1)) ∧ Rdr N w' b rs (nextAt rs q 1) ∧ Touch (fun k => k = b) w w' := rnum_r N b 1 rs q w h (by omega) (by omega)
theorem rnum2 (N b : Nat) (rs : List Int) (q : Option Nat) (w : World) (h : Rdr N w b rs q) :
  Calls Tryz.prog 117 #[.pointer (some ⟨b, 0, none⟩), .int .i64 2] w fun e w' => e = .returned (.int .u32 (numAt rs q 2)) ∧ Rdr N w' b rs (nextAt rs q 2) ∧ Touch (fun k => k = b) w w' := rnum_r N b 2 rs q w h (by omega) (by omega)
theorem rnum3 (N b : Nat) (rs : List Int) (q : Option Nat) (w : World) (h : Rdr N w b rs q) :
  Calls Tryz.prog 117 #[.pointer (some ⟨b, 0, none⟩), .int .i64 3] w fun e w' => e = .returned (.int .u32 (numAt rs q 3)) ∧ Rdr N w' b rs (nextAt rs q 3) ∧ Touch (fun k => k = b) w w' := rnum_r N b 3 rs q w h (by omega) (by omega)
theorem rnum4 (N b : Nat) (rs : List Int) (q : Option Nat) (w : World) (h : Rdr N w b rs q) :
  Calls Tryz.prog 117 #[.pointer (some ⟨b, 0, none⟩), .int .i64 4] w fun e w' => e = .returned (.int .u32 (numAt rs q 4)) ∧ Rdr N w' b rs (nextAt rs q 4) ∧ Touch (fun k => k = b) w w' := rnum_r N b 4 rs q w h (by omega) (by omega)

theorem left_r (N b : Nat) (rs : List Int) (q : Option Nat) (w : World) (h : Rdr N w b rs q) :
  Calls Tryz.prog 175 #[.pointer (some ⟨b, 0, none⟩)] w fun e w' => e = .returned (.int .i64 (leftAt rs q)) ∧ ∃ n, w' = w.drewN n := by
 obtain ⟨rv, p, err, h, hb, ho, ⟨rfl, rfl⟩ | ⟨rfl, rfl⟩⟩ := h
 ·exact left_ok b p rv rs w h
 ·refine (left_dead b 10 w h.made h.err (by decide)).mono ?_
  rintro e w' ⟨rfl, rfl⟩
  exact ⟨rfl, 0, rfl⟩
theorem err_r (N b : Nat) (rs : List Int) (q : Option Nat) (w : World) (h : Rdr N w b rs q) :
  Calls Tryz.prog 168 #[.pointer (some ⟨b, 0, none⟩)] w fun e w' => e = .returned (.int .i64 (if q = none then 10 else 0)) ∧ w = w' := by
 obtain ⟨rv, p, err, h, hb, ho, ⟨rfl, rfl⟩ | ⟨rfl, rfl⟩⟩ := h
 ·exact err_any b 0 w h.made h.err
 ·exact err_any b 10 w h.made h.err
/-- Read: a reader of a copy. -/
theorem read_r (v : Value) (bs : List Int) (w : World) (h : ArgAt w v bs) (hby : ∀ x ∈ bs, 0 ≤ x ∧ x < 256) (hcap : bs.length ≤ 1099511627776) :
  Calls Tryz.prog 110 #[v] w fun e w' => ∃ b, e = .returned (.pointer (some ⟨b, 0, none⟩)) ∧ w.heap.size ≤ b ∧ Rdr w'.heap.size w' b bs (some 0) ∧ Touch (fun _ => False) w w' := by
 have fin : ∀ (b : Nat) (rv : Value) (w' : World), w.heap.size ≤ b → RdS w' b rv bs 0 0 → Touch (fun _ => False) w w' →
   ∃ b', (Ending.returned (.pointer (some ⟨b, 0, none⟩))) = .returned (.pointer (some ⟨b', 0, none⟩)) ∧ w.heap.size ≤ b' ∧ Rdr w'.heap.size w' b' bs (some 0) ∧ Touch (fun _ => False) w w' :=
  fun b rv w' hb hr t => ⟨b, rfl, hb, ⟨rv, 0, 0, hr, lt_of_cell hr.made, hr.blk, Or.inl ⟨rfl, rfl⟩⟩, t⟩
 rcases h with ⟨rfl, rfl⟩ | ⟨ad, c, rfl, hlc, hcm, hs⟩
 ·go_enter Tryz.func110, Tryz.ntmps110
  go_wp2_with (go_at_call 137; refine (clone_nil _).mono ?_; rintro e w' ⟨rfl, rfl⟩)
  go_ret
  exact fin _ _ _ (Nat.le_refl _) ⟨by simp, by simp, by simp, by simp, by simp, by simp, by simp, Or.inl ⟨rfl, rfl⟩, by simp [Value.ownBlock], by simp, by simp [Value.ownBlock]⟩ ((Touch.refl _ _).alloc _)
 ·go_enter Tryz.func110, Tryz.ntmps110
  go_wp2_with (go_at_call 137; refine (clone_some _ _ bs _ hs hcap).mono ?_; rintro e w' ⟨v', rfl, hown, ht, hne⟩; obtain ⟨va, vc, rfl, _⟩ := rowAt_form (own_rowAt hown))
  go_ret
  refine fin _ (.slice va bs.length vc) _ ht.size ⟨by simp, by simp, by simp, by simp, by simp, by simp, by simp, ?_, ?_, hby, fun k hk => by have := (hown.lt k hk).2; simp; omega⟩ (ht.alloc _)
  ·exact (own_rowAt hown).touch ((Touch.refl (fun _ => False) _).alloc _) (fun _ _ h => h)
  ·intro hk; have := (hown.lt _ hk).2; omega
end Go.Proofs.YtbfplepmgbkajaaGreatDoor

namespace Go.Proofs.YtbfplepmgbkajaaGreatDoor
set_option linter.unusedVariables false
set_option maxRecDepth 100000

theorem numOf1 (a : Int) : numOf [a] = a := by simp [numOf]
theorem numOf4 (a b c d : Int) : numOf [a, b, c, d] = 16777216 * a + 65536 * b + 256 * c + d := by simp [numOf]; omega

theorem four_ok {a b c d : Int} (ha : 0 ≤ a ∧ a < 256) (hb : 0 ≤ b ∧ b < 256) (hc : 0 ≤ c ∧ c < 256) (hd : 0 ≤ d ∧ d < 256) : 0 ≤ numOf [a, b, c, d] ∧ numOf [a, b, c, d] < 4294967296 := by rw [numOf4]; omega
end Go.Proofs.YtbfplepmgbkajaaGreatDoor

namespace Go.Proofs.YtbfplepmgbkajaaGreatDoor
open Go.RowKit
set_option linter.unusedVariables false
set_option maxRecDepth 100000

/-- A state lies in block g, and may be stored into. -/
structure Out (w : World) (g : Nat) (h : HV) (v : Value) : Prop where
 sd : Sd w g h v
 fz : ∀ i, i < 9 → w.frozen? ⟨g, i, none⟩ = false
theorem Out.lt {w : World} {g : Nat} {h : HV} {v : Value} (k : Out w g h v) : g < w.heap.size := lt_of_cell k.sd.hd.c0
theorem Out.keep {w w' : World} {g : Nat} {h : HV} {v : Value} (k : Out w g h v) (t : Touch (fun _ => False) w w') : Out w' g h v :=
 ⟨k.sd.keep t, fun i hi => (t.frozen (p := ⟨g, i, none⟩) k.lt (fun h => h)).trans (k.fz i hi)⟩
theorem Out.new (w : World) (h : HV) (v : Value) (t : TypeId) :
  Out (w.alloc (.cells #[.int .u16 h.age, .int .u8 h.opts, .int .u8 h.typ, .int .u32 h.id, .int .u32 h.adv, .int .i32 h.seq, .int .u16 h.sum, .int .u16 h.len, v] t)) w.heap.size h v :=
 ⟨Sd.new w h v t, fun i hi => by simp [go_sem]⟩
theorem Out.set8 {w : World} {g : Nat} {h : HV} {v : Value} (k : Out w g h v) (u : Value) : Out (w.setCell ⟨g, 8, none⟩ u) g h u := by
 obtain ⟨⟨⟨c0, c1, c2, c3, c4, c5, c6, c7⟩, c8⟩, fz⟩ := k
 exact ⟨⟨⟨by simp [c0, go_sem], by simp [c1, go_sem], by simp [c2, go_sem], by simp [c3, go_sem], by simp [c4, go_sem], by simp [c5, go_sem], by simp [c6, go_sem], by simp [c7, go_sem]⟩, by simp [c8, go_sem]⟩, fun i hi => by simp [fz i hi, go_sem]⟩
/-- A row of the call's own and a store into an older block. -/
theorem own_store {w : World} {base e k n : Nat} {v : Value} {xs : List Value} (h : w.ownsRow base e k v n xs) {p : Addr} (hp : p.block < base) (u : Value) : (w.setCell p u).ownsRow base e k v n xs :=
 own_touch h (Touch.setCell (F := fun k => k = p.block) (Touch.refl _ w) (p := p) (Or.inl rfl) u) (fun j hj e => by have := (h.lt j hj).1; omega)
theorem own_lower {w : World} {base base' e k n : Nat} {v : Value} {xs : List Value} (h : w.ownsRow base e k v n xs) (hb : base' ≤ base) : w.ownsRow base' e k v n xs := by
 refine ⟨h.1, ?_⟩
 rcases h.2 with h2 | ⟨g, cap, cur, hv, hg, r⟩
 ·exact Or.inl h2
 ·exact Or.inr ⟨g, cap, cur, hv, by omega, r⟩
end Go.Proofs.YtbfplepmgbkajaaGreatDoor

namespace Go.Proofs.YtbfplepmgbkajaaGreatDoor
open Go.RowKit
set_option linter.unusedVariables false
set_option maxRecDepth 100000

/-- A flaw on its way. -/
def flawC (e : Int) : List PanicEntry := [{ v := .iface 264 (.int .i64 e), recovered := false }]

theorem need_ok (e : Int) (w : World) : Calls Tryz.prog 189 #[.bool true, .int .i64 e] w fun x w' => x = .returned (.tuple #[]) ∧ w = w' := by
 go_enter Tryz.func189, Tryz.ntmps189
 go_wp2
 go_end0
 exact ⟨rfl, rfl⟩
theorem need_no (e : Int) (w : World) : Calls Tryz.prog 189 #[.bool false, .int .i64 e] w fun x w' => x = .panicked (flawC e) ∧ w = w' := by
 go_enter Tryz.func189, Tryz.ntmps189
 go_wp2
 exact ⟨rfl, rfl, rfl⟩
theorem need_t (t : Bool) (e : Int) (w : World) (ht : t = true) : Calls Tryz.prog 189 #[.bool t, .int .i64 e] w fun x w' => x = .returned (.tuple #[]) ∧ w = w' := by subst ht; exact need_ok e w
theorem need_f (t : Bool) (e : Int) (w : World) (ht : t = false) : Calls Tryz.prog 189 #[.bool t, .int .i64 e] w fun x w' => x = .panicked (flawC e) ∧ w = w' := by subst ht; exact need_no e w
theorem ta_flaw (e : Int) (w : World) : (Instr.typeAssert (.iface 264 (.int .i64 e)) 20 264 true).run Tryz.prog w = .ok (.tuple #[.int .i64 e, .bool true]) w := by kernel_rfl
theorem ta_nil (w : World) : (Instr.typeAssert .nilIface 20 264 true).run Tryz.prog w = .ok (.tuple #[.int .i64 0, .bool false]) w := by kernel_rfl
theorem catchS_flaw (b : Nat) (x e : Int) (w : World) (hc : w.cell? ⟨b, 0, none⟩ = some (.int .i64 x)) (hz : w.frozen? ⟨b, 0, none⟩ = false) :
  CallsD Tryz.prog 196 #[.pointer (some ⟨b, 0, none⟩)] (.panicking (flawC e)) w fun r u' w' =>
   r = .returned (.tuple #[]) ∧ u' = .panicking [{ v := .iface 264 (.int .i64 e), recovered := true }] ∧ w' = w.setCell ⟨b, 0, none⟩ (.int .i64 e) := by
 refine callsD_of_wpS Tryz.func196 rfl fun c₀ cs hu => ?_
 apply wpS_seq
 apply wpS_region
 simp [wpOpsS, go_sem, recoverD, hu, flawC, ta_flaw, Tryz.ntmps196, Exit.thenS]
 apply wpS_seq
 apply wpS_region
 simp [wpOpsS, go_sem, Exit.thenS]
 refine wpS_cond (t := true) (by simp [Act.eval, Array.replicate]) ?_
 simp only [if_true]
 apply wpS_region
 simp [wpOpsS, go_sem, hc, hz, bodyPostS, results, Tryz.results196]
theorem catchS_idle (b : Nat) (w : World) :
  CallsD Tryz.prog 196 #[.pointer (some ⟨b, 0, none⟩)] .returning w fun r u' w' => r = .returned (.tuple #[]) ∧ u' = .returning ∧ w' = w := by
 refine callsD_of_wpS Tryz.func196 rfl fun c₀ cs hu => ?_
 apply wpS_seq
 apply wpS_region
 simp [wpOpsS, go_sem, recoverD, hu, ta_nil, Tryz.ntmps196, Exit.thenS]
 apply wpS_seq
 apply wpS_region
 simp [wpOpsS, go_sem, Exit.thenS]
 refine wpS_cond (t := false) (by simp [Act.eval, Array.replicate]) ?_
 simp only [Bool.false_eq_true, if_false]
 refine wpS_of_wp (wp_skip ?_)
 cases c₀
 simp_all [bodyPostS, results, Tryz.results196]
/-- The face where its function answers. -/
theorem faceS_ok (G : Nat) (cap : Array Value) (hG : ∀ w, (callFunc G cap).run Tryz.prog w = .ok (.enter G cap) w) (w : World) (x0 x1 x2 x3 x4 x5 x6 x7 : Int) (K : Value → World → Prop)
  (h : Calls Tryz.prog G cap ((w.alloc (.cells #[.int .u16 0, .int .u8 0, .int .u8 0, .int .u32 0, .int .u32 0, .int .i32 0, .int .u16 0, .int .u16 0, .slice none 0 0] 95)).alloc (.cells #[.int .i64 0] 41)) fun e w' => ∃ a n c, e = .returned (.agg #[.int .u16 x0, .int .u8 x1, .int .u8 x2, .int .u32 x3, .int .u32 x4, .int .i32 x5, .int .u16 x6, .int .u16 x7, .slice a n c]) ∧ Touch (fun _ => False) ((w.alloc (.cells #[.int .u16 0, .int .u8 0, .int .u8 0, .int .u32 0, .int .u32 0, .int .i32 0, .int .u16 0, .int .u16 0, .slice none 0 0] 95)).alloc (.cells #[.int .i64 0] 41)) w' ∧ K (.slice a n c) w')
  (hK : ∀ a n c w1 w2, K (.slice a n c) w1 → Touch (fun _ => False) ((w.alloc (.cells #[.int .u16 0, .int .u8 0, .int .u8 0, .int .u32 0, .int .u32 0, .int .i32 0, .int .u16 0, .int .u16 0, .slice none 0 0] 95)).alloc (.cells #[.int .i64 0] 41)) w1 → Touch (fun k => k = w.heap.size ∨ k = w.heap.size + 1) w1 w2 → K (.slice a n c) w2) :
  Calls Tryz.prog 186 #[.func (.func G) #[] cap] w fun e w' => ∃ a n c, e = .returned (.tuple #[.agg #[.int .u16 x0, .int .u8 x1, .int .u8 x2, .int .u32 x3, .int .u32 x4, .int .i32 x5, .int .u16 x6, .int .u16 x7, .slice a n c], .int .i64 0]) ∧ Touch (fun _ => False) w w' ∧ K (.slice a n c) w' := by
 have hmf : ∀ (fn : Fn) (first cap : Array Value) (w : World), (Instr.makeFunc fn first cap).run Tryz.prog w = .ok (.func fn first cap) w := fun _ _ _ _ => rfl
 go_enter_defers Tryz.func186, Tryz.ntmps186
 go_wp2_with fail
 refine h.mono ?_
 rintro e w1 ⟨a, n, c, rfl, t1, k1⟩
 have t0 := (((Touch.refl (fun _ => False) w).alloc _).alloc _).trans t1
 have FZ : Hid (∀ i, i < 9 → w1.frozen? ⟨w.heap.size, i, none⟩ = false) := fun i hi => (t1.frozen (p := ⟨w.heap.size, i, none⟩) (by simp; omega) (fun h => h)).trans (by simp [go_sem])
 have fz1 : w1.frozen? ⟨w.heap.size + 1, 0, none⟩ = false := (t1.frozen (p := ⟨w.heap.size + 1, 0, none⟩) (by simp) (fun h => h)).trans (by simp [go_sem])
 have ce1 : w1.cell? ⟨w.heap.size + 1, 0, none⟩ = some (.int .i64 0) := t1.cellN (by simp [go_sem])
 have c0 : w1.cell? ⟨w.heap.size, 0, none⟩ = some (.int .u16 0) := t1.cellN (by simp [go_sem])
 have z0 := FZ.out 0 (by omega)
 have c1 : w1.cell? ⟨w.heap.size, 1, none⟩ = some (.int .u8 0) := t1.cellN (by simp [go_sem])
 have z1 := FZ.out 1 (by omega)
 have c2 : w1.cell? ⟨w.heap.size, 2, none⟩ = some (.int .u8 0) := t1.cellN (by simp [go_sem])
 have z2 := FZ.out 2 (by omega)
 have c3 : w1.cell? ⟨w.heap.size, 3, none⟩ = some (.int .u32 0) := t1.cellN (by simp [go_sem])
 have z3 := FZ.out 3 (by omega)
 have c4 : w1.cell? ⟨w.heap.size, 4, none⟩ = some (.int .u32 0) := t1.cellN (by simp [go_sem])
 have z4 := FZ.out 4 (by omega)
 have c5 : w1.cell? ⟨w.heap.size, 5, none⟩ = some (.int .i32 0) := t1.cellN (by simp [go_sem])
 have z5 := FZ.out 5 (by omega)
 have c6 : w1.cell? ⟨w.heap.size, 6, none⟩ = some (.int .u16 0) := t1.cellN (by simp [go_sem])
 have z6 := FZ.out 6 (by omega)
 have c7 : w1.cell? ⟨w.heap.size, 7, none⟩ = some (.int .u16 0) := t1.cellN (by simp [go_sem])
 have z7 := FZ.out 7 (by omega)
 have c8 : w1.cell? ⟨w.heap.size, 8, none⟩ = some (.slice none 0 0) := t1.cellN (by simp [go_sem])
 have z8 := FZ.out 8 (by omega)
 clear FZ
 have HT : Hid (Touch (fun _ => False) w w1) := t0
 have HK : Hid (K (.slice a n c) w1) := k1
 have HT1 : Hid (Touch (fun _ => False) ((w.alloc (.cells #[.int .u16 0, .int .u8 0, .int .u8 0, .int .u32 0, .int .u32 0, .int .i32 0, .int .u16 0, .int .u16 0, .slice none 0 0] 95)).alloc (.cells #[.int .i64 0] 41)) w1) := t1
 obtain ⟨w2, hw2⟩ : ∃ w2, w2 = (((((((((w1.setCell ⟨w.heap.size, 0, none⟩ (.int .u16 x0)).setCell ⟨w.heap.size, 1, none⟩ (.int .u8 x1)).setCell ⟨w.heap.size, 2, none⟩ (.int .u8 x2)).setCell ⟨w.heap.size, 3, none⟩ (.int .u32 x3)).setCell ⟨w.heap.size, 4, none⟩ (.int .u32 x4)).setCell ⟨w.heap.size, 5, none⟩ (.int .i32 x5)).setCell ⟨w.heap.size, 6, none⟩ (.int .u16 x6)).setCell ⟨w.heap.size, 7, none⟩ (.int .u16 x7)).setCell ⟨w.heap.size, 8, none⟩ (.slice a n c)).setCell ⟨w.heap.size + 1, 0, none⟩ (.int .i64 0) := ⟨_, rfl⟩
 have d0 : w2.cell? ⟨w.heap.size, 0, none⟩ = some (.int .u16 x0) := by rw [hw2]; simp [c0, go_sem]
 have d1 : w2.cell? ⟨w.heap.size, 1, none⟩ = some (.int .u8 x1) := by rw [hw2]; simp [c1, go_sem]
 have d2 : w2.cell? ⟨w.heap.size, 2, none⟩ = some (.int .u8 x2) := by rw [hw2]; simp [c2, go_sem]
 have d3 : w2.cell? ⟨w.heap.size, 3, none⟩ = some (.int .u32 x3) := by rw [hw2]; simp [c3, go_sem]
 have d4 : w2.cell? ⟨w.heap.size, 4, none⟩ = some (.int .u32 x4) := by rw [hw2]; simp [c4, go_sem]
 have d5 : w2.cell? ⟨w.heap.size, 5, none⟩ = some (.int .i32 x5) := by rw [hw2]; simp [c5, go_sem]
 have d6 : w2.cell? ⟨w.heap.size, 6, none⟩ = some (.int .u16 x6) := by rw [hw2]; simp [c6, go_sem]
 have d7 : w2.cell? ⟨w.heap.size, 7, none⟩ = some (.int .u16 x7) := by rw [hw2]; simp [c7, go_sem]
 have d8 : w2.cell? ⟨w.heap.size, 8, none⟩ = some (.slice a n c) := by rw [hw2]; simp [c8, go_sem]
 have de : w2.cell? ⟨w.heap.size + 1, 0, none⟩ = some (.int .i64 0) := by rw [hw2]; simp [ce1, go_sem]
 have HU : Hid (Touch (fun k => k = w.heap.size ∨ k = w.heap.size + 1) w1 w2) := by
  show Touch _ _ _
  rw [hw2]
  exact Touch.setCell (Touch.setCell (Touch.setCell (Touch.setCell (Touch.setCell (Touch.setCell (Touch.setCell (Touch.setCell (Touch.setCell (Touch.setCell (Touch.refl _ _) (Or.inl (Or.inl rfl)) _) (Or.inl (Or.inl rfl)) _) (Or.inl (Or.inl rfl)) _) (Or.inl (Or.inl rfl)) _) (Or.inl (Or.inl rfl)) _) (Or.inl (Or.inl rfl)) _) (Or.inl (Or.inl rfl)) _) (Or.inl (Or.inl rfl)) _) (Or.inl (Or.inl rfl)) _) (Or.inl (Or.inr rfl)) _
 have HW : Hid (w2 = (((((((((w1.setCell ⟨w.heap.size, 0, none⟩ (.int .u16 x0)).setCell ⟨w.heap.size, 1, none⟩ (.int .u8 x1)).setCell ⟨w.heap.size, 2, none⟩ (.int .u8 x2)).setCell ⟨w.heap.size, 3, none⟩ (.int .u32 x3)).setCell ⟨w.heap.size, 4, none⟩ (.int .u32 x4)).setCell ⟨w.heap.size, 5, none⟩ (.int .i32 x5)).setCell ⟨w.heap.size, 6, none⟩ (.int .u16 x6)).setCell ⟨w.heap.size, 7, none⟩ (.int .u16 x7)).setCell ⟨w.heap.size, 8, none⟩ (.slice a n c)).setCell ⟨w.heap.size + 1, 0, none⟩ (.int .i64 0)) := hw2
 clear t0 t1 k1 h hw2
 go_wp2_with fail
 rw [← HW.out]
 clear HW c0 z0 c1 z1 c2 z2 c3 z3 c4 z4 c5 z5 c6 z6 c7 z7 c8 z8 fz1 ce1
 refine leaves_cons (f := 196) (args := #[.pointer (some ⟨w.heap.size + 1, 0, none⟩)]) (by simp) (by simp [go_sem]) ?_
 refine (catchS_idle (w.heap.size + 1) _).mono ?_
 rintro e u' w'' ⟨rfl, rfl, rfl⟩
 refine ⟨.tuple #[.agg #[.int .u16 x0, .int .u8 x1, .int .u8 x2, .int .u32 x3, .int .u32 x4, .int .i32 x5, .int .u16 x6, .int .u16 x7, .slice a n c], .int .i64 0], by simp [results, Tryz.results186, go_sem, d0, d1, d2, d3, d4, d5, d6, d7, d8, de], a, n, c, rfl, ?_, hK _ _ _ _ _ HK.out HT1.out HU.out⟩
 exact HT.out.trans' HU.out (fun i hi hf => by omega)
/-- The face where its function gives up. -/
theorem faceS_no (G : Nat) (cap : Array Value) (hG : ∀ w, (callFunc G cap).run Tryz.prog w = .ok (.enter G cap) w) (w : World) (err : Int)
  (h : Calls Tryz.prog G cap ((w.alloc (.cells #[.int .u16 0, .int .u8 0, .int .u8 0, .int .u32 0, .int .u32 0, .int .i32 0, .int .u16 0, .int .u16 0, .slice none 0 0] 95)).alloc (.cells #[.int .i64 0] 41)) fun e w' => e = .panicked (flawC err) ∧ Touch (fun _ => False) ((w.alloc (.cells #[.int .u16 0, .int .u8 0, .int .u8 0, .int .u32 0, .int .u32 0, .int .i32 0, .int .u16 0, .int .u16 0, .slice none 0 0] 95)).alloc (.cells #[.int .i64 0] 41)) w') :
  Calls Tryz.prog 186 #[.func (.func G) #[] cap] w fun e w' => e = .returned (.tuple #[.agg #[.int .u16 0, .int .u8 0, .int .u8 0, .int .u32 0, .int .u32 0, .int .i32 0, .int .u16 0, .int .u16 0, .slice none 0 0], .int .i64 err]) ∧ Touch (fun _ => False) w w' := by
 have hmf : ∀ (fn : Fn) (first cap : Array Value) (w : World), (Instr.makeFunc fn first cap).run Tryz.prog w = .ok (.func fn first cap) w := fun _ _ _ _ => rfl
 go_enter_defers Tryz.func186, Tryz.ntmps186
 go_wp2_with fail
 refine h.mono ?_
 rintro e w1 ⟨rfl, t1⟩
 have t0 := (((Touch.refl (fun _ => False) w).alloc _).alloc _).trans t1
 have fz1 : w1.frozen? ⟨w.heap.size + 1, 0, none⟩ = false := (t1.frozen (p := ⟨w.heap.size + 1, 0, none⟩) (by simp) (fun h => h)).trans (by simp [go_sem])
 have ce1 : w1.cell? ⟨w.heap.size + 1, 0, none⟩ = some (.int .i64 0) := t1.cellN (by simp [go_sem])
 have c0 : w1.cell? ⟨w.heap.size, 0, none⟩ = some (.int .u16 0) := t1.cellN (by simp [go_sem])
 have c1 : w1.cell? ⟨w.heap.size, 1, none⟩ = some (.int .u8 0) := t1.cellN (by simp [go_sem])
 have c2 : w1.cell? ⟨w.heap.size, 2, none⟩ = some (.int .u8 0) := t1.cellN (by simp [go_sem])
 have c3 : w1.cell? ⟨w.heap.size, 3, none⟩ = some (.int .u32 0) := t1.cellN (by simp [go_sem])
 have c4 : w1.cell? ⟨w.heap.size, 4, none⟩ = some (.int .u32 0) := t1.cellN (by simp [go_sem])
 have c5 : w1.cell? ⟨w.heap.size, 5, none⟩ = some (.int .i32 0) := t1.cellN (by simp [go_sem])
 have c6 : w1.cell? ⟨w.heap.size, 6, none⟩ = some (.int .u16 0) := t1.cellN (by simp [go_sem])
 have c7 : w1.cell? ⟨w.heap.size, 7, none⟩ = some (.int .u16 0) := t1.cellN (by simp [go_sem])
 have c8 : w1.cell? ⟨w.heap.size, 8, none⟩ = some (.slice none 0 0) := t1.cellN (by simp [go_sem])
 refine leaves_cons (f := 196) (args := #[.pointer (some ⟨w.heap.size + 1, 0, none⟩)]) (by simp) (by simp [go_sem]) ?_
 refine (catchS_flaw (w.heap.size + 1) 0 err _ ce1 fz1).mono ?_
 rintro e u' w'' ⟨rfl, rfl, rfl⟩
 refine ⟨.tuple #[.agg #[.int .u16 0, .int .u8 0, .int .u8 0, .int .u32 0, .int .u32 0, .int .i32 0, .int .u16 0, .int .u16 0, .slice none 0 0], .int .i64 err], by simp [results, Tryz.results186, go_sem, c0, c1, c2, c3, c4, c5, c6, c7, c8, ce1], rfl, ?_⟩
 exact Touch.setCell t0 (Or.inr (by simp)) _
end Go.Proofs.YtbfplepmgbkajaaGreatDoor
