/- Contracts of the reader's methods, every way (without Part). -/
import Derived.Test.YtjjgbcjgmjggnaaGreatDoorKeep
import Derived.Test.YtjjgbcjgmjggnaaGreatDoorAuPure
import Derived.Test.YtjjgbcjgmjggnaaGreatDoorDigBuf
namespace Go.Proofs.YtjjgbcjgmjggnaaGreatDoor
open Go.RowKit
set_option linter.unusedVariables false
set_option maxRecDepth 100000

/-- One step of a reader: the place, the error, was anything taken. -/
def stepR (len p : Nat) (err n : Int) : Nat × Int × Bool :=
  if err = 0 then (if n < 0 then (p, 1, false) else if (len : Int) < p + n then (p, 10, false) else (p + n.toNat, 0, true)) else (p, err, false)
def gotR (rs : List Int) (p : Nat) (err n : Int) : List Int := if (stepR rs.length p err n).2.2 = true then (rs.drop p).take n.toNat else []
theorem stepR_dead (len p : Nat) (err n : Int) (h : ¬ err = 0) : stepR len p err n = (p, err, false) := by simp [stepR, h]
theorem stepR_arg (len p : Nat) (n : Int) (h : n < 0) : stepR len p 0 n = (p, 1, false) := by simp [stepR, h]
theorem stepR_short (len p : Nat) (n : Int) (h : ¬ n < 0) (h2 : (len : Int) < p + n) : stepR len p 0 n = (p, 10, false) := by simp [stepR, h, h2]
theorem stepR_ok (len p : Nat) (n : Int) (h : ¬ n < 0) (h2 : ¬ (len : Int) < p + n) : stepR len p 0 n = (p + n.toNat, 0, true) := by simp [stepR, h, h2]

theorem cut_dead (b p : Nat) (n err : Int) (rv : Value) (rs : List Int) (w : World) (h : RdS w b rv rs p err) (he : ¬ err = 0) :
    Calls Tryz.prog 109 #[.pointer (some ⟨b, 0, none⟩), .int .i64 n] w fun e w' => e = .returned (.slice none 0 0) ∧ w = w' := by
  have h0 := h.made
  have h3 := h.err
  have he' : (err == 0) = false := by simpa using he
  by_cases hn : n < 0
  · go_enter Tryz.func109, Tryz.ntmps109
    go_wp2_with (first | (go_at_call 108; refine (refuse_dead _ _ _ _ h0 h3 he').mono ?_; rintro e w' ⟨rfl, rfl⟩) | (go_at_call 130; refine (rwhole_any _ _ _ h0 h3).mono ?_; rintro e w' ⟨rfl, rfl⟩))
    go_ret
    exact ⟨rfl, rfl⟩
  · by_cases hp : 0 < n
    all_goals
      go_enter Tryz.func109, Tryz.ntmps109
      go_wp2_with (first | (go_at_call 131; refine (left_dead _ _ _ h0 h3 he').mono ?_; rintro e w' ⟨rfl, rfl⟩) | (go_at_call 108; refine (refuse_dead _ _ _ _ h0 h3 he').mono ?_; rintro e w' ⟨rfl, rfl⟩) | (go_at_call 130; refine (rwhole_any _ _ _ h0 h3).mono ?_; rintro e w' ⟨rfl, rfl⟩))
      go_ret
      exact ⟨rfl, rfl⟩

theorem cut_arg (b p : Nat) (n : Int) (rv : Value) (rs : List Int) (w : World) (h : RdS w b rv rs p 0) (hn : n < 0) :
    Calls Tryz.prog 109 #[.pointer (some ⟨b, 0, none⟩), .int .i64 n] w fun e w' => e = .returned (.slice none 0 0) ∧ w.setCell ⟨b, 3, none⟩ (.int .i64 1) = w' := by
  have h0 := h.made
  have h3 := h.err
  have hf := h.f3
  have h' := h.setErr 1
  have k0 := h'.made
  have k3 := h'.err
  go_enter Tryz.func109, Tryz.ntmps109
  go_wp2_with (first | (go_at_call 108; refine (refuse_ok _ _ _ h0 h3 hf).mono ?_; rintro e w' ⟨rfl, rfl⟩) | (go_at_call 130; refine (rwhole_any _ 1 _ k0 k3).mono ?_; rintro e w' ⟨rfl, rfl⟩))
  go_ret
  exact ⟨rfl, rfl⟩

theorem cut_all (b p : Nat) (n err : Int) (rv : Value) (rs : List Int) (w : World) (h : RdS w b rv rs p err) (hn : n ≤ 9223372036854775807) :
    Calls Tryz.prog 109 #[.pointer (some ⟨b, 0, none⟩), .int .i64 n] w fun e w' => ∃ sv, e = .returned sv ∧ RowAt w' sv (gotR rs p err n) ∧ (sv.ownBlock = none ∨ sv.ownBlock = rv.ownBlock) ∧
      RdS w' b rv rs (stepR rs.length p err n).1 (stepR rs.length p err n).2.1 ∧ Touch (fun k => k = b) w w' ∧ w'.heap.size = w.heap.size := by
  by_cases he : err = 0
  · subst he
    by_cases h0 : n < 0
    · refine (cut_arg b p n rv rs w h h0).mono ?_
      rintro e w' ⟨rfl, rfl⟩
      refine ⟨_, rfl, ?_, Or.inl rfl, ?_, Touch.setCell (F := fun k => k = b) (p := ⟨b, 3, none⟩) (Touch.refl _ w) (Or.inl rfl) _, by simp [World.setCell]⟩
      · simp only [gotR, stepR_arg _ _ _ h0]; exact Or.inl ⟨rfl, by simp⟩
      · rw [stepR_arg _ _ _ h0]; exact h.setErr 1
    · by_cases h1 : (rs.length : Int) < p + n
      · refine (cut_short b p n rv rs w h h1 hn).mono ?_
        rintro e w' ⟨rfl, hr, ht, hs⟩
        refine ⟨_, rfl, ?_, Or.inl rfl, ?_, ht, hs⟩
        · simp only [gotR, stepR_short _ _ _ h0 h1]; exact Or.inl ⟨rfl, by simp⟩
        · rw [stepR_short _ _ _ h0 h1]; exact hr
      · obtain ⟨m, rfl⟩ : ∃ m : Nat, n = m := ⟨n.toNat, by omega⟩
        refine (cut_ok b p m rv rs w h (by omega)).mono ?_
        rintro e w' ⟨sv, rfl, hrow, hob, hr, ht, hs⟩
        refine ⟨sv, rfl, ?_, hob, ?_, ht, hs⟩
        · simp only [gotR, stepR_ok _ _ _ h0 h1, Int.toNat_natCast, if_true]; exact hrow
        · rw [stepR_ok _ _ _ h0 h1]; simpa using hr
  · refine (cut_dead b p n err rv rs w h he).mono ?_
    rintro e w' ⟨rfl, rfl⟩
    refine ⟨_, rfl, ?_, Or.inl rfl, ?_, Touch.refl _ _, rfl⟩
    · simp only [gotR, stepR_dead _ _ _ _ he]; exact Or.inl ⟨rfl, by simp⟩
    · rw [stepR_dead _ _ _ _ he]; exact h

theorem rnumber_dead (b p : Nat) (n err : Int) (rv : Value) (rs : List Int) (w : World) (h : RdS w b rv rs p err) (he : ¬ err = 0) :
    Calls Tryz.prog 83 #[.pointer (some ⟨b, 0, none⟩), .int .i64 n] w fun e w' => e = .returned (.int .u32 0) ∧ w = w' := by
  have g0 := h.made
  have g3 := h.err
  have he' : (err == 0) = false := by simpa using he
  by_cases h1 : n < 1
  · go_enter Tryz.func83, Tryz.ntmps83
    go_wp2_with (go_at_call 108; refine (refuse_dead _ _ _ _ g0 g3 he').mono ?_; rintro e w' ⟨rfl, rfl⟩)
    go_ret
    exact ⟨rfl, rfl⟩
  · have h1' : decide (n < 1) = false := by simpa using h1
    by_cases h4 : 4 < n
    · go_enter Tryz.func83, Tryz.ntmps83
      go_wp2_with (go_at_call 108; refine (refuse_dead _ _ _ _ g0 g3 he').mono ?_; rintro e w' ⟨rfl, rfl⟩)
      go_ret
      exact ⟨rfl, rfl⟩
    · have h4' : decide (4 < n) = false := by simpa using h4
      go_enter Tryz.func83, Tryz.ntmps83
      go_wp2_with (go_at_call 109; refine (cut_dead _ _ _ _ _ _ _ h he).mono ?_; rintro e w' ⟨rfl, rfl⟩)
      go_rounds 1
      go_ret
      exact ⟨rfl, rfl⟩

theorem got_len (rs : List Int) (p : Nat) (err n : Int) : (gotR rs p err n).length ≤ rs.length := by
  unfold gotR
  split
  · simp; omega
  · simp

theorem rbytes_all (b p : Nat) (n err : Int) (rv : Value) (rs : List Int) (w : World) (h : RdS w b rv rs p err) (hn : n ≤ 9223372036854775807) (hcap : rs.length ≤ 1099511627776) :
    Calls Tryz.prog 84 #[.pointer (some ⟨b, 0, none⟩), .int .i64 n] w fun e w' => ∃ v, e = .returned v ∧ w'.ownsRow w.heap.size 5 1 v (gotR rs p err n).length (bytesOf (gotR rs p err n)) ∧
      RdS w' b rv rs (stepR rs.length p err n).1 (stepR rs.length p err n).2.1 ∧ Touch (fun k => k = b) w w' := by
  have hgl := got_len rs p err n
  have hbl := lt_of_cell h.made
  have hcut := cut_all b p n err rv rs w h hn
  generalize gotR rs p err n = got at hcut hgl ⊢
  generalize stepR rs.length p err n = st at hcut ⊢
  go_enter Tryz.func84, Tryz.ntmps84
  go_wp2_with fail
  refine hcut.mono ?_
  rintro e w1 ⟨sv, rfl, hrow, hob, hr, ht, hs⟩
  rcases hrow with ⟨rfl, rfl⟩ | ⟨g, off, c, rfl, hlc, hcm, hcells⟩
  · go_wp2_with fail
    refine (clone_nil _).mono ?_
    rintro e w2 ⟨rfl, rfl⟩
    go_wp2
    go_ret
    exact ⟨_, rfl, World.ownsRow_nil _ _ _ _, hr, ht⟩
  · go_wp2_with fail
    refine (clone_some ⟨g, off, none⟩ c got w1 (fun j u hj => by rw [add_plain]; exact hcells j u hj) (by omega)).mono ?_
    rintro e w2 ⟨v, rfl, hown, t2, hne⟩
    go_wp2
    go_ret
    exact ⟨v, rfl, by rw [← hs]; exact hown, hr.touch t2 (fun h => h) (fun _ _ h => h), ht.trans' t2 (fun _ _ h => h.elim)⟩

end Go.Proofs.YtjjgbcjgmjggnaaGreatDoor

namespace Go.Proofs.YtjjgbcjgmjggnaaGreatDoor
open Go.RowKit
set_option linter.unusedVariables false
set_option maxRecDepth 100000

theorem numVal_numOf (l : List Int) : numVal l = numOf l := by
  unfold numVal numOf
  congr 1
  funext a x
  rw [Int.mul_comm]

/-- A reader in block b: at the place q, or short; it and its row lie below N. -/
structure Rdr (N : Nat) (w : World) (b : Nat) (rs : List Int) (q : Option Nat) : Prop where
  out : ∃ rv p err, RdS w b rv rs p err ∧ b < N ∧ (∀ k, rv.ownBlock = some k → k < N) ∧ ((q = some p ∧ err = 0) ∨ (q = none ∧ err = 10))
theorem Rdr.touch {F : Nat → Prop} {N : Nat} {w w' : World} {b : Nat} {rs : List Int} {q : Option Nat} (h : Rdr N w b rs q) (t : Touch F w w') (hF : ∀ k, k < N → ¬ F k) : Rdr N w' b rs q := by
  obtain ⟨rv, p, err, h, hb, ho, hq⟩ := h
  exact ⟨rv, p, err, h.touch t (hF b hb) (fun k hk => hF k (ho k hk)), hb, ho, hq⟩
theorem Rdr.keep {N : Nat} {w w' : World} {b : Nat} {rs : List Int} {q : Option Nat} (h : Rdr N w b rs q) (t : Touch (fun _ => False) w w') : Rdr N w' b rs q := h.touch t (fun _ _ h => h)
theorem Rdr.lt {N : Nat} {w : World} {b : Nat} {rs : List Int} {q : Option Nat} (h : Rdr N w b rs q) : b < w.heap.size := by obtain ⟨_, _, _, h, _⟩ := h; exact lt_of_cell h.made
theorem Rdr.byte {N : Nat} {w : World} {b : Nat} {rs : List Int} {q : Option Nat} (h : Rdr N w b rs q) : ∀ x ∈ rs, 0 ≤ x ∧ x < 256 := by obtain ⟨_, _, _, h, _⟩ := h; exact h.byte
theorem Rdr.ple {N : Nat} {w : World} {b : Nat} {rs : List Int} {p : Nat} (h : Rdr N w b rs (some p)) : p ≤ rs.length := by
  obtain ⟨_, _, _, h, _, _, ⟨e, _⟩ | ⟨e, _⟩⟩ := h
  · cases e; exact h.ple
  · cases e
/-- What n bytes at a place are as a number; the place behind them. -/
def numAt (rs : List Int) (q : Option Nat) (n : Nat) : Int := match q with
  | some p => if p + n ≤ rs.length then numOf ((rs.drop p).take n) else 0
  | none => 0
def nextAt (rs : List Int) (q : Option Nat) (n : Nat) : Option Nat := match q with
  | some p => if p + n ≤ rs.length then some (p + n) else none
  | none => none
theorem rnum_r (N b n : Nat) (rs : List Int) (q : Option Nat) (w : World) (h : Rdr N w b rs q) (h1 : 1 ≤ n) (h4 : n ≤ 4) :
    Calls Tryz.prog 83 #[.pointer (some ⟨b, 0, none⟩), .int .i64 n] w fun e w' => e = .returned (.int .u32 (numAt rs q n)) ∧ Rdr N w' b rs (nextAt rs q n) ∧ Touch (fun k => k = b) w w' := by
  obtain ⟨rv, p, err, h, hb, ho, ⟨rfl, rfl⟩ | ⟨rfl, rfl⟩⟩ := h
  · by_cases hp : p + n ≤ rs.length
    · refine (rnumber_ok b p n rv rs w h (by omega) (by omega) (by omega)).mono ?_
      rintro e w' ⟨rfl, hr, t, _⟩
      refine ⟨?_, ⟨rv, _, _, hr, hb, ho, Or.inl ⟨?_, rfl⟩⟩, t⟩
      · simp only [numAt, if_pos hp, numVal_numOf]
      · simp only [nextAt, if_pos hp]
    · refine (rnumber_short b p n rv rs w h (by omega) (by omega) (by omega)).mono ?_
      rintro e w' ⟨rfl, hr, t, _⟩
      refine ⟨?_, ⟨rv, _, _, hr, hb, ho, Or.inr ⟨?_, rfl⟩⟩, t⟩
      · simp only [numAt, if_neg hp]
      · simp only [nextAt, if_neg hp]
  · refine (rnumber_dead b p n 10 rv rs w h (by omega)).mono ?_
    rintro e w' ⟨rfl, rfl⟩
    exact ⟨rfl, ⟨rv, p, 10, h, hb, ho, Or.inr ⟨rfl, rfl⟩⟩, Touch.refl _ _⟩
theorem rnum1 (N b : Nat) (rs : List Int) (q : Option Nat) (w : World) (h : Rdr N w b rs q) :
    Calls Tryz.prog 83 #[.pointer (some ⟨b, 0, none⟩), .int .i64 1] w fun e w' => e = .returned (.int .u32 (numAt rs q 1)) ∧ Rdr N w' b rs (nextAt rs q 1) ∧ Touch (fun k => k = b) w w' := rnum_r N b 1 rs q w h (by omega) (by omega)
theorem rnum2 (N b : Nat) (rs : List Int) (q : Option Nat) (w : World) (h : Rdr N w b rs q) :
    Calls Tryz.prog 83 #[.pointer (some ⟨b, 0, none⟩), .int .i64 2] w fun e w' => e = .returned (.int .u32 (numAt rs q 2)) ∧ Rdr N w' b rs (nextAt rs q 2) ∧ Touch (fun k => k = b) w w' := rnum_r N b 2 rs q w h (by omega) (by omega)
theorem rnum4 (N b : Nat) (rs : List Int) (q : Option Nat) (w : World) (h : Rdr N w b rs q) :
    Calls Tryz.prog 83 #[.pointer (some ⟨b, 0, none⟩), .int .i64 4] w fun e w' => e = .returned (.int .u32 (numAt rs q 4)) ∧ Rdr N w' b rs (nextAt rs q 4) ∧ Touch (fun k => k = b) w w' := rnum_r N b 4 rs q w h (by omega) (by omega)

/-- Read: a reader of a copy. -/
theorem read_r (v : Value) (bs : List Int) (w : World) (h : ArgAt w v bs) (hby : ∀ x ∈ bs, 0 ≤ x ∧ x < 256) (hcap : bs.length ≤ 1099511627776) :
    Calls Tryz.prog 82 #[v] w fun e w' => ∃ b, e = .returned (.pointer (some ⟨b, 0, none⟩)) ∧ w.heap.size ≤ b ∧ Rdr w'.heap.size w' b bs (some 0) ∧ Touch (fun _ => False) w w' := by
  have fin : ∀ (b : Nat) (rv : Value) (w' : World), w.heap.size ≤ b → RdS w' b rv bs 0 0 → Touch (fun _ => False) w w' →
      ∃ b', (Ending.returned (.pointer (some ⟨b, 0, none⟩))) = .returned (.pointer (some ⟨b', 0, none⟩)) ∧ w.heap.size ≤ b' ∧ Rdr w'.heap.size w' b' bs (some 0) ∧ Touch (fun _ => False) w w' :=
    fun b rv w' hb hr t => ⟨b, rfl, hb, ⟨rv, 0, 0, hr, lt_of_cell hr.made, hr.blk, Or.inl ⟨rfl, rfl⟩⟩, t⟩
  rcases h with ⟨rfl, rfl⟩ | ⟨ad, c, rfl, hlc, hcm, hs⟩
  · go_enter Tryz.func82, Tryz.ntmps82
    go_wp2_with (go_at_call 18; refine (clone_nil _).mono ?_; rintro e w' ⟨rfl, rfl⟩)
    go_ret
    exact fin _ _ _ (Nat.le_refl _) ⟨by simp, by simp, by simp, by simp, by simp, by simp, by simp, Or.inl ⟨rfl, rfl⟩, by simp [Value.ownBlock], by simp, by simp [Value.ownBlock]⟩ ((Touch.refl _ _).alloc _)
  · go_enter Tryz.func82, Tryz.ntmps82
    go_wp2_with (go_at_call 18; refine (clone_some _ _ bs _ hs hcap).mono ?_; rintro e w' ⟨v', rfl, hown, ht, hne⟩; obtain ⟨va, vc, rfl, _⟩ := rowAt_form (own_rowAt hown))
    go_ret
    refine fin _ (.slice va bs.length vc) _ ht.size ⟨by simp, by simp, by simp, by simp, by simp, by simp, by simp, ?_, ?_, hby, fun k hk => by have := (hown.lt k hk).2; simp; omega⟩ (ht.alloc _)
    · exact (own_rowAt hown).touch ((Touch.refl (fun _ => False) _).alloc _) (fun _ _ h => h)
    · intro hk; have := (hown.lt _ hk).2; omega
end Go.Proofs.YtjjgbcjgmjggnaaGreatDoor
