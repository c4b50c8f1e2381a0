/- Contracts of the reader's methods, every way (without Part). -/
import Derived.Test.YtjjgbcjgmjggnaaGreatKeep
import Derived.Test.YtjjgbcjgmjggnaaGreatParts
import Derived.Test.YtjjgbcjgmjggnaaGreatDigBuf
import Derived.Test.YtjjgbcjgmjggnaaGreatDigMath
import Derived.Laws.BitsAllLaws
import Derived.Test.YtjjgbcjgmjggnaaGreatDigBase
import Derived.Deep.LoopGhost
import Derived.Deep.RegionWith
import Derived.Deep.DeepCutAuto
import Derived.Test.YtjjgbcjgmjggnaaGreatStKey
import Derived.Test.YtjjgbcjgmjggnaaGreatReader
import Derived.Test.YtjjgbcjgmjggnaaGreatCutB
import Derived.Deep.RegionHeld3
namespace Go.Proofs.YtjjgbcjgmjggnaaGreat
open Go.RowKit
set_option linter.unusedVariables false
set_option maxRecDepth 100000

/-- One step of a reader: the place, the error, was anything taken. -/
def stepR (len p : Nat) (err n : Int) : Nat × Int × Bool :=
  if err = 0 then (if n < 0 then (p, 1, false) else if (len : Int) < p + n then (p, 10, false) else (p + n.toNat, 0, true)) else (p, err, false)
def gotR (rs : List Int) (p : Nat) (err n : Int) : List Int := if (stepR rs.length p err n).2.2 = true then (rs.drop p).take n.toNat else []
theorem stepR_dead (len p : Nat) (err n : Int) (h : ¬ err = 0) : stepR len p err n = (p, err, false) := by simp [stepR, h]
theorem stepR_arg (len p : Nat) (n : Int) (h : n < 0) : stepR len p 0 n = (p, 1, false) := by simp [stepR, h]
theorem stepR_short (len p : Nat) (n : Int) (h : ¬ n < 0) (h2 : (len : Int) < p + n) : stepR len p 0 n = (p, 10, false) := by simp [stepR, h, h2]
theorem stepR_ok (len p : Nat) (n : Int) (h : ¬ n < 0) (h2 : ¬ (len : Int) < p + n) : stepR len p 0 n = (p + n.toNat, 0, true) := by simp [stepR, h, h2]

theorem cut_dead (b p : Nat) (n err : Int) (rv : Value) (rs : List Int) (w : World) (h : RdS w b rv rs p err) (he : ¬ err = 0) :
    Calls Tryz.prog 130 #[.pointer (some ⟨b, 0, none⟩), .int .i64 n] w fun e w' => e = .returned (.slice none 0 0) ∧ w = w' := by
  have h0 := h.made
  have h3 := h.err
  have he' : (err == 0) = false := by simpa using he
  by_cases hn : n < 0
  · go_enter Tryz.func130, Tryz.ntmps130
    go_wp2_with (first | (go_at_call 129; refine (refuse_dead _ _ _ _ h0 h3 he').mono ?_; rintro e w' ⟨rfl, rfl⟩) | (go_at_call 152; refine (rwhole_any _ _ _ h0 h3).mono ?_; rintro e w' ⟨rfl, rfl⟩))
    go_ret
    exact ⟨rfl, rfl⟩
  · by_cases hp : 0 < n
    all_goals
      go_enter Tryz.func130, Tryz.ntmps130
      go_wp2_with (first | (go_at_call 146; refine (left_dead _ _ _ h0 h3 he').mono ?_; rintro e w' ⟨rfl, rfl⟩) | (go_at_call 129; refine (refuse_dead _ _ _ _ h0 h3 he').mono ?_; rintro e w' ⟨rfl, rfl⟩) | (go_at_call 152; refine (rwhole_any _ _ _ h0 h3).mono ?_; rintro e w' ⟨rfl, rfl⟩))
      go_ret
      exact ⟨rfl, rfl⟩

theorem cut_arg (b p : Nat) (n : Int) (rv : Value) (rs : List Int) (w : World) (h : RdS w b rv rs p 0) (hn : n < 0) :
    Calls Tryz.prog 130 #[.pointer (some ⟨b, 0, none⟩), .int .i64 n] w fun e w' => e = .returned (.slice none 0 0) ∧ w.setCell ⟨b, 3, none⟩ (.int .i64 1) = w' := by
  have h0 := h.made
  have h3 := h.err
  have hf := h.f3
  have h' := h.setErr 1
  have k0 := h'.made
  have k3 := h'.err
  go_enter Tryz.func130, Tryz.ntmps130
  go_wp2_with (first | (go_at_call 129; refine (refuse_ok _ _ _ h0 h3 hf).mono ?_; rintro e w' ⟨rfl, rfl⟩) | (go_at_call 152; refine (rwhole_any _ 1 _ k0 k3).mono ?_; rintro e w' ⟨rfl, rfl⟩))
  go_ret
  exact ⟨rfl, rfl⟩

theorem cut_all (b p : Nat) (n err : Int) (rv : Value) (rs : List Int) (w : World) (h : RdS w b rv rs p err) (hn : n ≤ 9223372036854775807) :
    Calls Tryz.prog 130 #[.pointer (some ⟨b, 0, none⟩), .int .i64 n] w fun e w' => ∃ sv, e = .returned sv ∧ RowAt w' sv (gotR rs p err n) ∧ (sv.ownBlock = none ∨ sv.ownBlock = rv.ownBlock) ∧
      RdS w' b rv rs (stepR rs.length p err n).1 (stepR rs.length p err n).2.1 ∧ Touch (fun k => k = b) w w' ∧ w'.heap.size = w.heap.size := by
  by_cases he : err = 0
  · subst he
    by_cases h0 : n < 0
    · refine (cut_arg b p n rv rs w h h0).mono ?_
      rintro e w' ⟨rfl, rfl⟩
      refine ⟨_, rfl, ?_, Or.inl rfl, ?_, Touch.setCell (F := fun k => k = b) (p := ⟨b, 3, none⟩) (Touch.refl _ w) (Or.inl rfl) _, by simp [World.setCell]⟩
      · simp only [gotR, stepR_arg _ _ _ h0]; exact Or.inl ⟨rfl, by simp⟩
      · rw [stepR_arg _ _ _ h0]; exact h.setErr 1
    · by_cases h1 : (rs.length : Int) < p + n
      · refine (cut_short b p n rv rs w h h1 hn).mono ?_
        rintro e w' ⟨rfl, hr, ht, hs⟩
        refine ⟨_, rfl, ?_, Or.inl rfl, ?_, ht, hs⟩
        · simp only [gotR, stepR_short _ _ _ h0 h1]; exact Or.inl ⟨rfl, by simp⟩
        · rw [stepR_short _ _ _ h0 h1]; exact hr
      · obtain ⟨m, rfl⟩ : ∃ m : Nat, n = m := ⟨n.toNat, by omega⟩
        refine (cut_ok b p m rv rs w h (by omega)).mono ?_
        rintro e w' ⟨sv, rfl, hrow, hob, hr, ht, hs⟩
        refine ⟨sv, rfl, ?_, hob, ?_, ht, hs⟩
        · simp only [gotR, stepR_ok _ _ _ h0 h1, Int.toNat_natCast, if_true]; exact hrow
        · rw [stepR_ok _ _ _ h0 h1]; simpa using hr
  · refine (cut_dead b p n err rv rs w h he).mono ?_
    rintro e w' ⟨rfl, rfl⟩
    refine ⟨_, rfl, ?_, Or.inl rfl, ?_, Touch.refl _ _, rfl⟩
    · simp only [gotR, stepR_dead _ _ _ _ he]; exact Or.inl ⟨rfl, by simp⟩
    · rw [stepR_dead _ _ _ _ he]; exact h

theorem rnumber_dead (b p : Nat) (n err : Int) (rv : Value) (rs : List Int) (w : World) (h : RdS w b rv rs p err) (he : ¬ err = 0) :
    Calls Tryz.prog 102 #[.pointer (some ⟨b, 0, none⟩), .int .i64 n] w fun e w' => e = .returned (.int .u32 0) ∧ w = w' := by
  have g0 := h.made
  have g3 := h.err
  have he' : (err == 0) = false := by simpa using he
  by_cases h1 : n < 1
  · go_enter Tryz.func102, Tryz.ntmps102
    go_wp2_with (go_at_call 129; refine (refuse_dead _ _ _ _ g0 g3 he').mono ?_; rintro e w' ⟨rfl, rfl⟩)
    go_ret
    exact ⟨rfl, rfl⟩
  · have h1' : decide (n < 1) = false := by simpa using h1
    by_cases h4 : 4 < n
    · go_enter Tryz.func102, Tryz.ntmps102
      go_wp2_with (go_at_call 129; refine (refuse_dead _ _ _ _ g0 g3 he').mono ?_; rintro e w' ⟨rfl, rfl⟩)
      go_ret
      exact ⟨rfl, rfl⟩
    · have h4' : decide (4 < n) = false := by simpa using h4
      go_enter Tryz.func102, Tryz.ntmps102
      go_wp2_with (go_at_call 130; refine (cut_dead _ _ _ _ _ _ _ h he).mono ?_; rintro e w' ⟨rfl, rfl⟩)
      go_rounds 1
      go_ret
      exact ⟨rfl, rfl⟩

theorem got_len (rs : List Int) (p : Nat) (err n : Int) : (gotR rs p err n).length ≤ rs.length := by
  unfold gotR
  split
  · simp; omega
  · simp

theorem rbytes_all (b p : Nat) (n err : Int) (rv : Value) (rs : List Int) (w : World) (h : RdS w b rv rs p err) (hn : n ≤ 9223372036854775807) (hcap : rs.length ≤ 1099511627776) :
    Calls Tryz.prog 103 #[.pointer (some ⟨b, 0, none⟩), .int .i64 n] w fun e w' => ∃ v, e = .returned v ∧ w'.ownsRow w.heap.size 5 1 v (gotR rs p err n).length (bytesOf (gotR rs p err n)) ∧
      RdS w' b rv rs (stepR rs.length p err n).1 (stepR rs.length p err n).2.1 ∧ Touch (fun k => k = b) w w' := by
  have hgl := got_len rs p err n
  have hbl := lt_of_cell h.made
  have hcut := cut_all b p n err rv rs w h hn
  generalize gotR rs p err n = got at hcut hgl ⊢
  generalize stepR rs.length p err n = st at hcut ⊢
  go_enter Tryz.func103, Tryz.ntmps103
  go_wp2_with fail
  refine hcut.mono ?_
  rintro e w1 ⟨sv, rfl, hrow, hob, hr, ht, hs⟩
  rcases hrow with ⟨rfl, rfl⟩ | ⟨g, off, c, rfl, hlc, hcm, hcells⟩
  · go_wp2_with fail
    refine (clone_nil _).mono ?_
    rintro e w2 ⟨rfl, rfl⟩
    go_wp2
    go_ret
    exact ⟨_, rfl, World.ownsRow_nil _ _ _ _, hr, ht⟩
  · go_wp2_with fail
    refine (clone_some ⟨g, off, none⟩ c got w1 (fun j u hj => by rw [add_plain]; exact hcells j u hj) (by omega)).mono ?_
    rintro e w2 ⟨v, rfl, hown, t2, hne⟩
    go_wp2
    go_ret
    exact ⟨v, rfl, by rw [← hs]; exact hown, hr.touch t2 (fun h => h) (fun _ _ h => h), ht.trans' t2 (fun _ _ h => h.elim)⟩

end Go.Proofs.YtjjgbcjgmjggnaaGreat

namespace Go.Proofs.YtjjgbcjgmjggnaaGreat
open Go.RowKit
set_option linter.unusedVariables false
set_option maxRecDepth 100000

theorem numVal_numOf (l : List Int) : numVal l = numOf l := by
  unfold numVal numOf
  congr 1
  funext a x
  rw [Int.mul_comm]

/-- A reader in block b: at the place q, or short; it and its row lie below N. -/
structure Rdr (N : Nat) (w : World) (b : Nat) (rs : List Int) (q : Option Nat) : Prop where
  out : ∃ rv p err, RdS w b rv rs p err ∧ b < N ∧ (∀ k, rv.ownBlock = some k → k < N) ∧ ((q = some p ∧ err = 0) ∨ (q = none ∧ err = 10))
theorem Rdr.touch {F : Nat → Prop} {N : Nat} {w w' : World} {b : Nat} {rs : List Int} {q : Option Nat} (h : Rdr N w b rs q) (t : Touch F w w') (hF : ∀ k, k < N → ¬ F k) : Rdr N w' b rs q := by
  obtain ⟨rv, p, err, h, hb, ho, hq⟩ := h
  exact ⟨rv, p, err, h.touch t (hF b hb) (fun k hk => hF k (ho k hk)), hb, ho, hq⟩
theorem Rdr.keep {N : Nat} {w w' : World} {b : Nat} {rs : List Int} {q : Option Nat} (h : Rdr N w b rs q) (t : Touch (fun _ => False) w w') : Rdr N w' b rs q := h.touch t (fun _ _ h => h)
theorem Rdr.lt {N : Nat} {w : World} {b : Nat} {rs : List Int} {q : Option Nat} (h : Rdr N w b rs q) : b < w.heap.size := by obtain ⟨_, _, _, h, _⟩ := h; exact lt_of_cell h.made
theorem Rdr.byte {N : Nat} {w : World} {b : Nat} {rs : List Int} {q : Option Nat} (h : Rdr N w b rs q) : ∀ x ∈ rs, 0 ≤ x ∧ x < 256 := by obtain ⟨_, _, _, h, _⟩ := h; exact h.byte
theorem Rdr.ple {N : Nat} {w : World} {b : Nat} {rs : List Int} {p : Nat} (h : Rdr N w b rs (some p)) : p ≤ rs.length := by
  obtain ⟨_, _, _, h, _, _, ⟨e, _⟩ | ⟨e, _⟩⟩ := h
  · cases e; exact h.ple
  · cases e
/-- What n bytes at a place are as a number; the place behind them. -/
def numAt (rs : List Int) (q : Option Nat) (n : Nat) : Int := match q with
  | some p => if p + n ≤ rs.length then numOf ((rs.drop p).take n) else 0
  | none => 0
def nextAt (rs : List Int) (q : Option Nat) (n : Nat) : Option Nat := match q with
  | some p => if p + n ≤ rs.length then some (p + n) else none
  | none => none
theorem rnum_r (N b n : Nat) (rs : List Int) (q : Option Nat) (w : World) (h : Rdr N w b rs q) (h1 : 1 ≤ n) (h4 : n ≤ 4) :
    Calls Tryz.prog 102 #[.pointer (some ⟨b, 0, none⟩), .int .i64 n] w fun e w' => e = .returned (.int .u32 (numAt rs q n)) ∧ Rdr N w' b rs (nextAt rs q n) ∧ Touch (fun k => k = b) w w' := by
  obtain ⟨rv, p, err, h, hb, ho, ⟨rfl, rfl⟩ | ⟨rfl, rfl⟩⟩ := h
  · by_cases hp : p + n ≤ rs.length
    · refine (rnumber_ok b p n rv rs w h (by omega) (by omega) (by omega)).mono ?_
      rintro e w' ⟨rfl, hr, t, _⟩
      refine ⟨?_, ⟨rv, _, _, hr, hb, ho, Or.inl ⟨?_, rfl⟩⟩, t⟩
      · simp only [numAt, if_pos hp, numVal_numOf]
      · simp only [nextAt, if_pos hp]
    · refine (rnumber_short b p n rv rs w h (by omega) (by omega) (by omega)).mono ?_
      rintro e w' ⟨rfl, hr, t, _⟩
      refine ⟨?_, ⟨rv, _, _, hr, hb, ho, Or.inr ⟨?_, rfl⟩⟩, t⟩
      · simp only [numAt, if_neg hp]
      · simp only [nextAt, if_neg hp]
  · refine (rnumber_dead b p n 10 rv rs w h (by omega)).mono ?_
    rintro e w' ⟨rfl, rfl⟩
    exact ⟨rfl, ⟨rv, p, 10, h, hb, ho, Or.inr ⟨rfl, rfl⟩⟩, Touch.refl _ _⟩
theorem rnum1 (N b : Nat) (rs : List Int) (q : Option Nat) (w : World) (h : Rdr N w b rs q) :
    Calls Tryz.prog 102 #[.pointer (some ⟨b, 0, none⟩), .int .i64 1] w fun e w' => e = .returned (.int .u32 (numAt rs q 1)) ∧ Rdr N w' b rs (nextAt rs q 1) ∧ Touch (fun k => k = b) w w' := rnum_r N b 1 rs q w h (by omega) (by omega)
theorem rnum2 (N b : Nat) (rs : List Int) (q : Option Nat) (w : World) (h : Rdr N w b rs q) :
    Calls Tryz.prog 102 #[.pointer (some ⟨b, 0, none⟩), .int .i64 2] w fun e w' => e = .returned (.int .u32 (numAt rs q 2)) ∧ Rdr N w' b rs (nextAt rs q 2) ∧ Touch (fun k => k = b) w w' := rnum_r N b 2 rs q w h (by omega) (by omega)
theorem rnum4 (N b : Nat) (rs : List Int) (q : Option Nat) (w : World) (h : Rdr N w b rs q) :
    Calls Tryz.prog 102 #[.pointer (some ⟨b, 0, none⟩), .int .i64 4] w fun e w' => e = .returned (.int .u32 (numAt rs q 4)) ∧ Rdr N w' b rs (nextAt rs q 4) ∧ Touch (fun k => k = b) w w' := rnum_r N b 4 rs q w h (by omega) (by omega)

/-- Read: a reader of a copy. -/
theorem read_r (v : Value) (bs : List Int) (w : World) (h : ArgAt w v bs) (hby : ∀ x ∈ bs, 0 ≤ x ∧ x < 256) (hcap : bs.length ≤ 1099511627776) :
    Calls Tryz.prog 82 #[v] w fun e w' => ∃ b, e = .returned (.pointer (some ⟨b, 0, none⟩)) ∧ w.heap.size ≤ b ∧ Rdr w'.heap.size w' b bs (some 0) ∧ Touch (fun _ => False) w w' := by
  have fin : ∀ (b : Nat) (rv : Value) (w' : World), w.heap.size ≤ b → RdS w' b rv bs 0 0 → Touch (fun _ => False) w w' →
      ∃ b', (Ending.returned (.pointer (some ⟨b, 0, none⟩))) = .returned (.pointer (some ⟨b', 0, none⟩)) ∧ w.heap.size ≤ b' ∧ Rdr w'.heap.size w' b' bs (some 0) ∧ Touch (fun _ => False) w w' :=
    fun b rv w' hb hr t => ⟨b, rfl, hb, ⟨rv, 0, 0, hr, lt_of_cell hr.made, hr.blk, Or.inl ⟨rfl, rfl⟩⟩, t⟩
  rcases h with ⟨rfl, rfl⟩ | ⟨ad, c, rfl, hlc, hcm, hs⟩
  · go_enter Tryz.func82, Tryz.ntmps82
    go_wp2_with (go_at_call 37; refine (clone_nil _).mono ?_; rintro e w' ⟨rfl, rfl⟩)
    go_ret
    exact fin _ _ _ (Nat.le_refl _) ⟨by simp, by simp, by simp, by simp, by simp, by simp, by simp, Or.inl ⟨rfl, rfl⟩, by simp [Value.ownBlock], by simp, by simp [Value.ownBlock]⟩ ((Touch.refl _ _).alloc _)
  · go_enter Tryz.func82, Tryz.ntmps82
    go_wp2_with (go_at_call 37; refine (clone_some _ _ bs _ hs hcap).mono ?_; rintro e w' ⟨v', rfl, hown, ht, hne⟩; obtain ⟨va, vc, rfl, _⟩ := rowAt_form (own_rowAt hown))
    go_ret
    refine fin _ (.slice va bs.length vc) _ ht.size ⟨by simp, by simp, by simp, by simp, by simp, by simp, by simp, ?_, ?_, hby, fun k hk => by have := (hown.lt k hk).2; simp; omega⟩ (ht.alloc _)
    · exact (own_rowAt hown).touch ((Touch.refl (fun _ => False) _).alloc _) (fun _ _ h => h)
    · intro hk; have := (hown.lt _ hk).2; omega
end Go.Proofs.YtjjgbcjgmjggnaaGreat

namespace Go.Proofs.YtjjgbcjgmjggnaaGreat
open Go.RowKit
set_option linter.unusedVariables false

theorem and16 {n : Int} (h0 : 0 ≤ n) (h : n < 4294967296) : bits .and .u32 n 65535 = n % 65536 := by
  rw [u32_and n _ h0 h (by omega) (by omega), show (65535 : Int).toNat = 2 ^ 16 - 1 from rfl, Nat.and_two_pow_sub_one_eq_mod]
  omega
theorem and8 {n : Int} (h0 : 0 ≤ n) (h : n < 4294967296) : bits .and .u32 n 255 = n % 256 := by
  rw [u32_and n _ h0 h (by omega) (by omega), show (255 : Int).toNat = 2 ^ 8 - 1 from rfl, Nat.and_two_pow_sub_one_eq_mod]
  omega
end Go.Proofs.YtjjgbcjgmjggnaaGreat

namespace Go.Proofs.YtjjgbcjgmjggnaaGreat
open Go.RowKit
set_option linter.unusedVariables false
set_option maxRecDepth 100000

/-- Two numbers of 32 bits lie in block b. -/
structure Two (w : World) (b : Nat) (x y : Int) : Prop where
  c0 : w.cell? ⟨b, 0, none⟩ = some (.int .u32 x)
  c1 : w.cell? ⟨b, 1, none⟩ = some (.int .u32 y)
  f0 : w.frozen? ⟨b, 0, none⟩ = false
  f1 : w.frozen? ⟨b, 1, none⟩ = false
theorem Two.lt {w : World} {b : Nat} {x y : Int} (h : Two w b x y) : b < w.heap.size := lt_of_cell h.c0
theorem Two.keep {w w' : World} {b : Nat} {x y : Int} (h : Two w b x y) (t : Touch (fun _ => False) w w') : Two w' b x y :=
  ⟨t.cellN h.c0, t.cellN h.c1, (t.frozen h.lt (fun h => h)).trans h.f0, (t.frozen h.lt (fun h => h)).trans h.f1⟩
theorem Two.drew {w : World} {b : Nat} {x y : Int} (h : Two w b x y) : Two w.drew b x y := h.keep ((Touch.refl _ _).drew)
theorem Two.set0 {w : World} {b : Nat} {x y : Int} (h : Two w b x y) (z : Int) : Two (w.setCell ⟨b, 0, none⟩ (.int .u32 z)) b z y := by
  obtain ⟨h0, h1, h2, h3⟩ := h
  exact ⟨by simp [h0, go_sem], by simp [h1, go_sem], by simp [h2, go_sem], by simp [h3, go_sem]⟩
theorem Two.set1 {w : World} {b : Nat} {x y : Int} (h : Two w b x y) (z : Int) : Two (w.setCell ⟨b, 1, none⟩ (.int .u32 z)) b x z := by
  obtain ⟨h0, h1, h2, h3⟩ := h
  exact ⟨by simp [h0, go_sem], by simp [h1, go_sem], by simp [h2, go_sem], by simp [h3, go_sem]⟩
theorem Touch.new {w0 w : World} (t : Touch (fun _ => False) w0 w) {p : Addr} (h : w0.heap.size ≤ p.block) (u : Value) : Touch (fun _ => False) w0 (w.setCell p u) := t.setCell (Or.inr h) u

theorem rowAt_cap {w : World} {g off c : Nat} {rs : List Int} (h : RowAt w (.slice (some ⟨g, off, none⟩) rs.length c) rs) : rs.length ≤ c := by
  rcases h with ⟨h, _⟩ | ⟨g', off', c', h, h1, _⟩
  · cases h
  · cases h; exact h1
theorem rowAt_drop {w : World} {g off c : Nat} {rs : List Int} (h : RowAt w (.slice (some ⟨g, off, none⟩) rs.length c) rs) (n : Nat) (hn : n ≤ rs.length) : RowAt w (.slice (some ⟨g, off + n, none⟩) (rs.length - n) (c - n)) (rs.drop n) := by
  rcases h with ⟨h, _⟩ | ⟨g', off', c', h, h1, h2, h3⟩
  · cases h
  · cases h
    refine Or.inr ⟨g, off + n, c - n, by simp, by simp; omega, by omega, fun j u hj => ?_⟩
    rw [Nat.add_assoc]
    refine h3 (n + j) u ?_
    simpa [bytesOf, List.getElem?_drop] using hj
end Go.Proofs.YtjjgbcjgmjggnaaGreat

namespace Go.Proofs.YtjjgbcjgmjggnaaGreat
open Go.RowKit
set_option linter.unusedVariables false
set_option maxRecDepth 100000

def PR (w : World) (b : Nat) (ps : List (Value × List Int)) (g : Nat) (i : Value) (wr : World) : Prop :=
  ∃ (j : Nat) (h k : Int), j + g = ps.length ∧ i = .int .i64 (j : Int) ∧ Two wr b h k ∧ Run ((ps.take j).map Prod.snd).flatten h k ∧ 0 ≤ h ∧ 0 ≤ k ∧ h < 4294967296 ∧ k < 4294967296 ∧ Touch (fun _ => False) w wr

end Go.Proofs.YtjjgbcjgmjggnaaGreat

namespace Go.Proofs.YtjjgbcjgmjggnaaGreat
open Go.RowKit
set_option linter.unusedVariables false
set_option maxRecDepth 100000

/-- So many cells lie in block g, and may be stored into. -/
def Room (w : World) (g n : Nat) : Prop := ∀ i, i < n → ∃ v, w.cell? ⟨g, i, none⟩ = some v ∧ w.frozen? ⟨g, i, none⟩ = false
theorem Room.keep {w w' : World} {g n : Nat} (h : Room w g n) (t : Touch (fun _ => False) w w') : Room w' g n := fun i hi => by
  obtain ⟨v, hc, hf⟩ := h i hi
  exact ⟨v, t.cellN hc, (t.frozen (p := ⟨g, i, none⟩) (lt_of_cell hc) (fun h => h)).trans hf⟩
theorem Room.touch {F : Nat → Prop} {w w' : World} {g n : Nat} (h : Room w g n) (t : Touch F w w') (hF : ¬ F g) : Room w' g n := fun i hi => by
  obtain ⟨v, hc, hf⟩ := h i hi
  exact ⟨v, (t.cell (p := ⟨g, i, none⟩) (lt_of_cell hc) hF).trans hc, (t.frozen (p := ⟨g, i, none⟩) (lt_of_cell hc) hF).trans hf⟩
theorem Room.new (w : World) (C : Array Value) (t : TypeId) : Room (w.alloc (.cells C t)) w.heap.size C.size := fun i hi => ⟨C[i], by simp [go_sem, hi], by simp [go_sem]⟩
theorem Out.fits {w : World} {g : Nat} {h : HV} {v : Value} (k : Out w g h v) : Sd w g h v ∧ (w.frozen? ⟨g, 6, none⟩ = false ∧ w.frozen? ⟨g, 7, none⟩ = false ∧ w.frozen? ⟨g, 8, none⟩ = false) := ⟨k.sd, k.fz 6 (by omega), k.fz 7 (by omega), k.fz 8 (by omega)⟩

end Go.Proofs.YtjjgbcjgmjggnaaGreat

namespace Go.Proofs.YtjjgbcjgmjggnaaGreat
open Go.RowKit
set_option linter.unusedVariables false
set_option maxRecDepth 100000

def R8 (w : World) (g : Nat) (u0 u1 u2 u3 u4 u5 u6 u7 : Value) : Prop := w.cell? ⟨g, 0, none⟩ = some u0 ∧ w.frozen? ⟨g, 0, none⟩ = false ∧ w.cell? ⟨g, 1, none⟩ = some u1 ∧ w.frozen? ⟨g, 1, none⟩ = false ∧ w.cell? ⟨g, 2, none⟩ = some u2 ∧ w.frozen? ⟨g, 2, none⟩ = false ∧ w.cell? ⟨g, 3, none⟩ = some u3 ∧ w.frozen? ⟨g, 3, none⟩ = false ∧ w.cell? ⟨g, 4, none⟩ = some u4 ∧ w.frozen? ⟨g, 4, none⟩ = false ∧ w.cell? ⟨g, 5, none⟩ = some u5 ∧ w.frozen? ⟨g, 5, none⟩ = false ∧ w.cell? ⟨g, 6, none⟩ = some u6 ∧ w.frozen? ⟨g, 6, none⟩ = false ∧ w.cell? ⟨g, 7, none⟩ = some u7 ∧ w.frozen? ⟨g, 7, none⟩ = false
theorem R8.touch {F : Nat → Prop} {w w' : World} {g : Nat} {u0 u1 u2 u3 u4 u5 u6 u7 : Value} (h : R8 w g u0 u1 u2 u3 u4 u5 u6 u7) (t : Touch F w w') (hF : ¬ F g) : R8 w' g u0 u1 u2 u3 u4 u5 u6 u7 := by
  have hl : g < w.heap.size := lt_of_cell h.1
  have c : ∀ i v, w.cell? ⟨g, i, none⟩ = some v → w'.cell? ⟨g, i, none⟩ = some v := fun i v e => (t.cell (p := ⟨g, i, none⟩) hl hF).trans e
  have f : ∀ i, w.frozen? ⟨g, i, none⟩ = false → w'.frozen? ⟨g, i, none⟩ = false := fun i e => (t.frozen (p := ⟨g, i, none⟩) hl hF).trans e
  obtain ⟨zc0, zf0, zc1, zf1, zc2, zf2, zc3, zf3, zc4, zf4, zc5, zf5, zc6, zf6, zc7, zf7⟩ := h
  exact ⟨c 0 _ zc0, f 0 zf0, c 1 _ zc1, f 1 zf1, c 2 _ zc2, f 2 zf2, c 3 _ zc3, f 3 zf3, c 4 _ zc4, f 4 zf4, c 5 _ zc5, f 5 zf5, c 6 _ zc6, f 6 zf6, c 7 _ zc7, f 7 zf7⟩
/-- A head out of bytes. -/
def rdHead (rs : List Int) : HV := ⟨numAt rs (some 0) 2, numAt rs (nextAt rs (some 0) 2) 1, numAt rs (nextAt rs (nextAt rs (some 0) 2) 1) 1, numAt rs (nextAt rs (nextAt rs (nextAt rs (some 0) 2) 1) 1) 4, numAt rs (nextAt rs (nextAt rs (nextAt rs (nextAt rs (some 0) 2) 1) 1) 4) 4, IntKind.i32.wrap (numAt rs (nextAt rs (nextAt rs (nextAt rs (nextAt rs (nextAt rs (some 0) 2) 1) 1) 4) 4) 4), numAt rs (nextAt rs (nextAt rs (nextAt rs (nextAt rs (nextAt rs (nextAt rs (some 0) 2) 1) 1) 4) 4) 4) 2, numAt rs (nextAt rs (nextAt rs (nextAt rs (nextAt rs (nextAt rs (nextAt rs (nextAt rs (some 0) 2) 1) 1) 4) 4) 4) 2) 2⟩
end Go.Proofs.YtjjgbcjgmjggnaaGreat

namespace Go.Proofs.YtjjgbcjgmjggnaaGreat
open Go.RowKit
set_option linter.unusedVariables false
set_option maxRecDepth 100000

theorem rdHead_headB (h : HV) (ok : h.All) : rdHead (headB h) = h := by
  obtain ⟨a, o, t, i, v, s, m, l⟩ := h
  obtain ⟨⟨a0, a1⟩, ⟨o0, o1⟩, ⟨t0, t1⟩, ⟨i0, i1⟩, ⟨v0, v1⟩, ⟨s0, s1⟩, ⟨m0, m1⟩, ⟨l0, l1⟩⟩ := ok
  dsimp only at *
  simp only [headB, numBytes2, numBytes4, List.cons_append, List.nil_append]
  unfold rdHead
  simp [numAt, nextAt, numOf, IntKind.wrap, IntKind.bits, IntKind.signed]
  refine ⟨by omega, by omega, by omega, by omega, by omega, by omega⟩
theorem take_headB (h : HV) (r : List Int) : (headB h ++ r).take 20 = headB h := by
  rw [List.take_append_of_le_length (by rw [length_headB]; omega), List.take_of_length_le (by rw [length_headB]; omega)]
theorem drop_headB (h : HV) (r : List Int) : (headB h ++ r).drop 20 = r := by
  rw [List.drop_append_of_le_length (by rw [length_headB]; omega), List.drop_eq_nil_of_le (by rw [length_headB]; omega), List.nil_append]

/-- A state: its head, its body's row and bytes. -/
structure SE where
  h : HV
  v : Value
  rs : List Int
def SE.b (x : SE) : List Int := headB x.h ++ x.rs
def SE.size (x : SE) : Nat := 20 + x.rs.length
def SE.cells (x : SE) : List Value := [.int .u16 x.h.age, .int .u8 x.h.opts, .int .u8 x.h.typ, .int .u32 x.h.id, .int .u32 x.h.adv, .int .i32 x.h.seq, .int .u16 x.h.sum, .int .u16 x.h.len, x.v]
def statesC (l : List SE) : List Value := l.flatMap SE.cells
theorem length_statesC (l : List SE) : (statesC l).length = l.length * 9 := by
  induction l with
  | nil => rfl
  | cons x r ih => unfold statesC at *; rw [List.flatMap_cons, List.length_append, ih, List.length_cons]; simp [SE.cells]; omega
theorem statesC_at (l : List SE) (j i : Nat) (x : SE) (hj : l[j]? = some x) (hi : i < 9) : (statesC l)[j * 9 + i]? = x.cells[i]? := by
  induction l generalizing j with
  | nil => simp at hj
  | cons y r ih =>
    have e : statesC (y :: r) = y.cells ++ statesC r := by simp [statesC]
    have hl : y.cells.length = 9 := rfl
    rw [e]
    cases j with
    | zero =>
      obtain rfl : y = x := by simpa using hj
      rw [List.getElem?_append_left (by omega), Nat.zero_mul, Nat.zero_add]
    | succ j =>
      rw [List.getElem?_append_right (by omega), hl, show (j + 1) * 9 + i - 9 = j * 9 + i by omega]
      exact ih j (by simpa using hj)
structure SE.Ok (w : World) (x : SE) : Prop where
  all : x.h.All
  arg : ArgAt w x.v x.rs
  byte : ∀ z ∈ x.rs, 0 ≤ z ∧ z < 256
/-- A row of states that came in. -/
structure StatesAt (w : World) (v : Value) (l : List SE) : Prop where
  vals : ValsAt w 9 v l.length (statesC l)
  ok : ∀ x ∈ l, x.Ok w
theorem SE.Ok.keep {w w' : World} {x : SE} (h : x.Ok w) (t : Touch (fun _ => False) w w') : x.Ok w' := ⟨h.all, h.arg.keepN t, h.byte⟩
theorem StatesAt.keep {w w' : World} {v : Value} {l : List SE} (h : StatesAt w v l) (t : Touch (fun _ => False) w w') : StatesAt w' v l := ⟨h.vals.keep t, fun x hx => (h.ok x hx).keep t⟩
/-- One of them. -/
theorem StatesAt.one {w : World} {v : Value} {l : List SE} (h : StatesAt w v l) {j : Nat} {x : SE} (hj : l[j]? = some x) : x.Ok w ∧ ∃ g off c, v = .slice (some ⟨g, off, none⟩) l.length c ∧ ∀ i u, x.cells[i]? = some u → w.cell? ⟨g, off + (j * 9 + i), none⟩ = some u := by
  have hlt := (List.getElem?_eq_some_iff.mp hj).1
  obtain ⟨g, off, c, e, _, _, hc⟩ := h.vals.cells (by omega) (by omega)
  refine ⟨h.ok x (List.mem_of_getElem? hj), g, off, c, e, fun i u hu => hc _ _ ?_⟩
  have hi : i < 9 := (List.getElem?_eq_some_iff.mp hu).1
  rw [statesC_at l j i x hj hi]
  exact hu
end Go.Proofs.YtjjgbcjgmjggnaaGreat
