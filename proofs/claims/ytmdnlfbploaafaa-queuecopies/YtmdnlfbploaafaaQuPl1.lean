
/- Law 10: eq, same; a queue and the document's side by side. -/
import Derived.Test.YtmdnlfbploaafaaQuDoc5
import Derived.Test.YtmdnlfbploaafaaQuGone
namespace Go.Proofs.Ytmdnlfbploaafaa
open Go.RowKit
set_option linter.unusedVariables false
set_option maxRecDepth 100000

/-- A queue and the document's, made since W, neither within the other. -/
structure Both (W w : World) (b : Nat) (v : Value) (m : Nat) (most : Int) (l : List En) (d : Nat) (u : Value) (k : List En) : Prop where
  q : QO W w b v m most l
  ds : DS w d u most k
  dW : ∀ j, dB d u j → W.heap.size ≤ j
  ap : ∀ j, qB b v m j → ¬ dB d u j
theorem Both.keep {F : Nat → Prop} {W w w' : World} {b : Nat} {v : Value} {m : Nat} {most : Int} {l : List En} {d : Nat} {u : Value} {k : List En} (h : Both W w b v m most l d u k) (t : Touch F w w') (hF : ∀ j, F j → W.heap.size ≤ j ∧ ¬ qB b v m j ∧ ¬ dB d u j) : Both W w' b v m most l d u k :=
  ⟨⟨h.q.q.keep t (fun j hj e => (hF j e).2.1 hj), h.q.own, h.q.t.trans' t (fun i hi e => by have := (hF i e).1; omega)⟩, h.ds.keep t (fun j hj e => (hF j e).2.2 hj), h.dW, h.ap⟩
theorem Both.keepN {W w w' : World} {b : Nat} {v : Value} {m : Nat} {most : Int} {l : List En} {d : Nat} {u : Value} {k : List En} (h : Both W w b v m most l d u k) (t : Touch (fun _ => False) w w') : Both W w' b v m most l d u k := h.keep t (fun _ e => e.elim)
theorem Both.step1 {W w w' : World} {b : Nat} {v : Value} {m : Nat} {most : Int} {l L : List En} {d : Nat} {u : Value} {k : List En} (h : Both W w b v m most l d u k) (n : QN w b v m most L w') : ∃ v' l', Both W w' b v' m most l' d u k ∧ l'.Perm L := by
  obtain ⟨v', l', Q, p, hv⟩ := h.q.step' n
  refine ⟨v', l', ⟨Q, h.ds.keep n.t (fun j hj e => h.ap j e hj), h.dW, fun j hj hj2 => ?_⟩, p⟩
  rcases qB_new hv hj with e | e
  · exact h.ap j e hj2
  · have := h.ds.lt j hj2; omega
theorem Both.step2 {W w w' : World} {b : Nat} {v : Value} {m : Nat} {most : Int} {l L : List En} {d : Nat} {u : Value} {k : List En} (h : Both W w b v m most l d u k) (n : DN w d u most L w') : ∃ u', Both W w' b v m most l d u' L := by
  obtain ⟨⟨u', D, hu⟩, t⟩ := n
  refine ⟨u', ⟨⟨h.q.q.keep t (fun j hj e => h.ap j hj e), h.q.own, h.q.t.trans' t (fun i hi e => by have := h.dW i e; omega)⟩, D, fun j hj => ?_, fun j hj hj2 => ?_⟩⟩
  · rcases hj with e | e
    · exact h.dW j (Or.inl e)
    · rcases hu j e with e2 | e2
      · exact h.dW j (Or.inr e2)
      · exact Nat.le_trans h.q.t.size e2
  · rcases hj2 with e | e
    · exact h.ap j hj (Or.inl e)
    · rcases hu j e with e2 | e2
      · exact h.ap j hj (Or.inr e2)
      · have := h.q.q.lt j hj; omega

set_option maxHeartbeats 400000 in
theorem eq_any (x : En) (w : World) : Calls Try.prog 25 #[.agg #[.int .i64 x.a, .int .i64 x.r, .int .u64 x.k], .agg #[.int .i64 x.a, .int .i64 x.r, .int .u64 x.k]] w fun e w' => e = .returned (.bool true) ∧ Touch (fun _ => False) w w' := by
  go_enter Try.func25, Try.ntmps25
  go_wp2_with fail
  go_ret
  exact ⟨rfl, ((Touch.refl _ w).alloc _).alloc _⟩

theorem own_rd {w : World} {base : Nat} {v : Value} {L : List En} (h : w.ownsRow base 62 3 v L.length (cellsOf L)) : RD w v L := by
  refine ⟨h.1, ?_⟩
  rcases h.2 with h2 | ⟨g2, cap2, cur2, a1, _, a3⟩
  · exact Or.inl h2
  · exact Or.inr ⟨g2, cap2, cur2, a1, Nat.zero_le _, a3⟩

set_option maxHeartbeats 1000000 in
theorem same_any (w : World) (va vb : Value) (L : List En) (hA : AllV w va L) (hB : RD w vb L) (hl : L.length ≤ 2000000) :
    Calls Try.prog 14 #[va, vb] w fun e w' => e = .returned (.bool true) ∧ Touch (fun _ => False) w w' := by
  obtain ⟨aa, ca, rfl, hh⟩ := hA.out
  obtain ⟨ab, cb, rfl⟩ := hB.shape
  have HHA : Hid _ := hh
  have HHB : Hid (RD w (.slice ab L.length cb) L) := hB
  have hLl : (L.length : Int) ≤ 2000000 := by omega
  clear hh hB hA hl
  go_enter Try.func14, Try.ntmps14
  go_wp2_with fail
  go_loopw [5] (fun s5 wx => ∃ j : Nat, s5 = .int .i64 j ∧ j ≤ L.length ∧ Touch (fun _ => False) w wx) (fun s5 _ => L.length - (intOf s5).toNat)
  case atStart => exact ⟨0, rfl, Nat.zero_le _, Touch.refl _ _⟩
  case round =>
    obtain ⟨j, rfl, hj, tj⟩ := hrel
    have HTJ : Hid _ := tj
    clear tj
    by_cases hjl : j < L.length
    · have hjl' : (j : Int) < (L.length : Int) := by omega
      have j0 : (0 : Int) ≤ (j : Int) := by omega
      obtain ⟨ga, rfl, hga, ho1⟩ := HHA.out (by omega)
      obtain ⟨gb, cb2, hgb, -⟩ := RD.form (w := w) (v := .slice ab L.length cb) (l := L) HHB.out (by omega)
      injection hgb with e1 e2 e3
      subst e1
      obtain ⟨x0, x1, x2⟩ := hold_cells ho1 hjl
      obtain ⟨y0, y1, y2⟩ := RD.cells (w := w) (l := L) (n := L.length) (g := gb) (c := cb) HHB.out hjl
      replace x0 := snq_cell (HTJ.out.cellN x0)
      replace x1 := snq_cell (HTJ.out.cellN x1)
      replace x2 := snq_cell (HTJ.out.cellN x2)
      replace y0 := snq_cell (HTJ.out.cellN y0)
      replace y1 := snq_cell (HTJ.out.cellN y1)
      replace y2 := snq_cell (HTJ.out.cellN y2)
      have st : Snq wr wr.drew := Snq.start wr
      clear ho1 e2 e3
      have HEQ : Hid _ := eq_any (gt L j)
      generalize gt L j = x at *
      go_wp2_with fail
      go_region_held3 (fun w' => Snq wr w') (with_reducible assumption) ((go_at_call 25; refine Calls.mono (HEQ.out _) ?_; rintro e wx ⟨rfl, tx⟩; have sx := Snq.trans (by assumption) tx))
      have HSX : Hid (Touch (fun _ => False) w wx) := HTJ.out.trans sx.t
      clear x0 x1 x2 y0 y1 y2 sx tx st
      go_wp2_with fail
      go_roundw
      case rel => exact ⟨j + 1, by go_num, hjl, HSX.out⟩
      case measure => simp [intOf]; omega
    · have hjl' : ¬ (j : Int) < (L.length : Int) := by omega
      go_wp2_with fail
      go_ret
      exact ⟨rfl, HTJ.out⟩
end Go.Proofs.Ytmdnlfbploaafaa
