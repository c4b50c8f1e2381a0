/- Contracts of the reader's methods, every way (without Part). -/
import Derived.Test.YthilfealloakdaaGreatKeep
namespace Go.Proofs.YthilfealloakdaaGreat
open Go.RowKit
set_option linter.unusedVariables false
set_option maxRecDepth 100000

/-- One step of a reader: the place, the error, was anything taken. -/
def stepR (len p : Nat) (err n : Int) : Nat × Int × Bool :=
  if err = 0 then (if n < 0 then (p, 1, false) else if (len : Int) < p + n then (p, 10, false) else (p + n.toNat, 0, true)) else (p, err, false)
def gotR (rs : List Int) (p : Nat) (err n : Int) : List Int := if (stepR rs.length p err n).2.2 = true then (rs.drop p).take n.toNat else []
/-- The same for a number of n bytes. -/
def stepN (len p : Nat) (err n : Int) : Nat × Int × Bool := if err = 0 ∧ (n < 1 ∨ 4 < n) then (p, 1, false) else stepR len p err n
def gotN (rs : List Int) (p : Nat) (err n : Int) : List Int := if (stepN rs.length p err n).2.2 = true then (rs.drop p).take n.toNat else []

theorem stepR_dead (len p : Nat) (err n : Int) (h : ¬ err = 0) : stepR len p err n = (p, err, false) := by simp [stepR, h]
theorem stepR_arg (len p : Nat) (n : Int) (h : n < 0) : stepR len p 0 n = (p, 1, false) := by simp [stepR, h]
theorem stepR_short (len p : Nat) (n : Int) (h : ¬ n < 0) (h2 : (len : Int) < p + n) : stepR len p 0 n = (p, 10, false) := by simp [stepR, h, h2]
theorem stepR_ok (len p : Nat) (n : Int) (h : ¬ n < 0) (h2 : ¬ (len : Int) < p + n) : stepR len p 0 n = (p + n.toNat, 0, true) := by simp [stepR, h, h2]

theorem RdS.err_wf {w : World} {b p : Nat} {rv : Value} {rs : List Int} {err : Int} (h : RdS w b rv rs p err) : True := trivial

theorem cut_dead (b p : Nat) (n err : Int) (rv : Value) (rs : List Int) (w : World) (h : RdS w b rv rs p err) (he : ¬ err = 0) :
    Calls Tryz.prog 138 #[.pointer (some ⟨b, 0, none⟩), .int .i64 n] w fun e w' => e = .returned (.slice none 0 0) ∧ w = w' := by
  have h0 := h.made
  have h3 := h.err
  have he' : (err == 0) = false := by simpa using he
  by_cases hn : n < 0
  · go_enter Tryz.func138, Tryz.ntmps138
    go_wp2_with (first | (go_at_call 137; refine (refuse_dead _ _ _ _ h0 h3 he').mono ?_; rintro e w' ⟨rfl, rfl⟩) | (go_at_call 169; refine (rwhole_any _ _ _ h0 h3).mono ?_; rintro e w' ⟨rfl, rfl⟩))
    go_ret
    exact ⟨rfl, rfl⟩
  · by_cases hp : 0 < n
    all_goals
      go_enter Tryz.func138, Tryz.ntmps138
      go_wp2_with (first | (go_at_call 167; refine (left_dead _ _ _ h0 h3 he').mono ?_; rintro e w' ⟨rfl, rfl⟩) | (go_at_call 137; refine (refuse_dead _ _ _ _ h0 h3 he').mono ?_; rintro e w' ⟨rfl, rfl⟩) | (go_at_call 169; refine (rwhole_any _ _ _ h0 h3).mono ?_; rintro e w' ⟨rfl, rfl⟩))
      go_ret
      exact ⟨rfl, rfl⟩

theorem cut_arg (b p : Nat) (n : Int) (rv : Value) (rs : List Int) (w : World) (h : RdS w b rv rs p 0) (hn : n < 0) :
    Calls Tryz.prog 138 #[.pointer (some ⟨b, 0, none⟩), .int .i64 n] w fun e w' => e = .returned (.slice none 0 0) ∧ w.setCell ⟨b, 3, none⟩ (.int .i64 1) = w' := by
  have h0 := h.made
  have h3 := h.err
  have hf := h.f3
  have h' := h.setErr 1
  have k0 := h'.made
  have k3 := h'.err
  go_enter Tryz.func138, Tryz.ntmps138
  go_wp2_with (first | (go_at_call 137; refine (refuse_ok _ _ _ h0 h3 hf).mono ?_; rintro e w' ⟨rfl, rfl⟩) | (go_at_call 169; refine (rwhole_any _ 1 _ k0 k3).mono ?_; rintro e w' ⟨rfl, rfl⟩))
  go_ret
  exact ⟨rfl, rfl⟩

theorem cut_all (b p : Nat) (n err : Int) (rv : Value) (rs : List Int) (w : World) (h : RdS w b rv rs p err) (hn : n ≤ 9223372036854775807) :
    Calls Tryz.prog 138 #[.pointer (some ⟨b, 0, none⟩), .int .i64 n] w fun e w' => ∃ sv, e = .returned sv ∧ RowAt w' sv (gotR rs p err n) ∧ (sv.ownBlock = none ∨ sv.ownBlock = rv.ownBlock) ∧
      RdS w' b rv rs (stepR rs.length p err n).1 (stepR rs.length p err n).2.1 ∧ Touch (fun k => k = b) w w' ∧ w'.heap.size = w.heap.size := by
  by_cases he : err = 0
  · subst he
    by_cases h0 : n < 0
    · refine (cut_arg b p n rv rs w h h0).mono ?_
      rintro e w' ⟨rfl, rfl⟩
      refine ⟨_, rfl, ?_, Or.inl rfl, ?_, Touch.setCell (F := fun k => k = b) (p := ⟨b, 3, none⟩) (Touch.refl _ w) (Or.inl rfl) _, by simp [World.setCell]⟩
      · simp only [gotR, stepR_arg _ _ _ h0]; exact Or.inl ⟨rfl, by simp⟩
      · rw [stepR_arg _ _ _ h0]; exact h.setErr 1
    · by_cases h1 : (rs.length : Int) < p + n
      · refine (cut_short b p n rv rs w h h1 hn).mono ?_
        rintro e w' ⟨rfl, hr, ht, hs⟩
        refine ⟨_, rfl, ?_, Or.inl rfl, ?_, ht, hs⟩
        · simp only [gotR, stepR_short _ _ _ h0 h1]; exact Or.inl ⟨rfl, by simp⟩
        · rw [stepR_short _ _ _ h0 h1]; exact hr
      · obtain ⟨m, rfl⟩ : ∃ m : Nat, n = m := ⟨n.toNat, by omega⟩
        refine (cut_ok b p m rv rs w h (by omega)).mono ?_
        rintro e w' ⟨sv, rfl, hrow, hob, hr, ht, hs⟩
        refine ⟨sv, rfl, ?_, hob, ?_, ht, hs⟩
        · simp only [gotR, stepR_ok _ _ _ h0 h1, Int.toNat_natCast, if_true]; exact hrow
        · rw [stepR_ok _ _ _ h0 h1]; simpa using hr
  · refine (cut_dead b p n err rv rs w h he).mono ?_
    rintro e w' ⟨rfl, rfl⟩
    refine ⟨_, rfl, ?_, Or.inl rfl, ?_, Touch.refl _ _, rfl⟩
    · simp only [gotR, stepR_dead _ _ _ _ he]; exact Or.inl ⟨rfl, by simp⟩
    · rw [stepR_dead _ _ _ _ he]; exact h

theorem rnumber_dead (b p : Nat) (n err : Int) (rv : Value) (rs : List Int) (w : World) (h : RdS w b rv rs p err) (he : ¬ err = 0) :
    Calls Tryz.prog 102 #[.pointer (some ⟨b, 0, none⟩), .int .i64 n] w fun e w' => e = .returned (.int .u32 0) ∧ w = w' := by
  have g0 := h.made
  have g3 := h.err
  have he' : (err == 0) = false := by simpa using he
  by_cases h1 : n < 1
  · go_enter Tryz.func102, Tryz.ntmps102
    go_wp2_with (go_at_call 137; refine (refuse_dead _ _ _ _ g0 g3 he').mono ?_; rintro e w' ⟨rfl, rfl⟩)
    go_ret
    exact ⟨rfl, rfl⟩
  · have h1' : decide (n < 1) = false := by simpa using h1
    by_cases h4 : 4 < n
    · go_enter Tryz.func102, Tryz.ntmps102
      go_wp2_with (go_at_call 137; refine (refuse_dead _ _ _ _ g0 g3 he').mono ?_; rintro e w' ⟨rfl, rfl⟩)
      go_ret
      exact ⟨rfl, rfl⟩
    · have h4' : decide (4 < n) = false := by simpa using h4
      go_enter Tryz.func102, Tryz.ntmps102
      go_wp2_with (go_at_call 138; refine (cut_dead _ _ _ _ _ _ _ h he).mono ?_; rintro e w' ⟨rfl, rfl⟩)
      go_rounds 1
      go_ret
      exact ⟨rfl, rfl⟩

theorem rnumber_arg (b p : Nat) (n : Int) (rv : Value) (rs : List Int) (w : World) (h : RdS w b rv rs p 0) (hn : n < 1 ∨ 4 < n) :
    Calls Tryz.prog 102 #[.pointer (some ⟨b, 0, none⟩), .int .i64 n] w fun e w' => e = .returned (.int .u32 0) ∧ w.setCell ⟨b, 3, none⟩ (.int .i64 1) = w' := by
  have g0 := h.made
  have g3 := h.err
  have gf := h.f3
  by_cases h1 : n < 1
  · clear hn
    go_enter Tryz.func102, Tryz.ntmps102
    go_wp2_with (go_at_call 137; refine (refuse_ok _ _ _ g0 g3 gf).mono ?_; rintro e w' ⟨rfl, rfl⟩)
    go_ret
    exact ⟨rfl, rfl⟩
  · have h1' : decide (n < 1) = false := by simpa using h1
    have h4 : 4 < n := by omega
    clear hn
    go_enter Tryz.func102, Tryz.ntmps102
    go_wp2_with (go_at_call 137; refine (refuse_ok _ _ _ g0 g3 gf).mono ?_; rintro e w' ⟨rfl, rfl⟩)
    go_ret
    exact ⟨rfl, rfl⟩

theorem rnumber_all (b p : Nat) (n err : Int) (rv : Value) (rs : List Int) (w : World) (h : RdS w b rv rs p err) :
    Calls Tryz.prog 102 #[.pointer (some ⟨b, 0, none⟩), .int .i64 n] w fun e w' => e = .returned (.int .u32 (numVal (gotN rs p err n))) ∧
      RdS w' b rv rs (stepN rs.length p err n).1 (stepN rs.length p err n).2.1 ∧ Touch (fun k => k = b) w w' ∧ w'.heap.size = w.heap.size := by
  by_cases he : err = 0
  · subst he
    by_cases hn : n < 1 ∨ 4 < n
    · have hs : stepN rs.length p 0 n = (p, 1, false) := by simp [stepN, hn]
      refine (rnumber_arg b p n rv rs w h hn).mono ?_
      rintro e w' ⟨rfl, rfl⟩
      refine ⟨by simp [gotN, hs, numVal], ?_, Touch.setCell (F := fun k => k = b) (p := ⟨b, 3, none⟩) (Touch.refl _ w) (Or.inl rfl) _, by simp [World.setCell]⟩
      rw [hs]; exact h.setErr 1
    · have hs : stepN rs.length p 0 n = stepR rs.length p 0 n := by simp [stepN, hn]
      have h0 : ¬ n < 0 := by omega
      obtain ⟨m, rfl⟩ : ∃ m : Nat, n = m := ⟨n.toNat, by omega⟩
      by_cases h1 : (rs.length : Int) < p + m
      · rw [stepR_short _ _ _ h0 h1] at hs
        refine (rnumber_short b p m rv rs w h (by omega) (by omega) (by omega)).mono ?_
        rintro e w' ⟨rfl, hr, ht, hz⟩
        exact ⟨by simp [gotN, hs, numVal], by rw [hs]; exact hr, ht, hz⟩
      · rw [stepR_ok _ _ _ h0 h1] at hs
        refine (rnumber_ok b p m rv rs w h (by omega) (by omega) (by omega)).mono ?_
        rintro e w' ⟨rfl, hr, ht, hz⟩
        exact ⟨by simp [gotN, hs], by rw [hs]; simpa using hr, ht, hz⟩
  · have hs : stepN rs.length p err n = (p, err, false) := by simp [stepN, he, stepR_dead _ _ _ _ he]
    refine (rnumber_dead b p n err rv rs w h he).mono ?_
    rintro e w' ⟨rfl, rfl⟩
    exact ⟨by simp [gotN, hs, numVal], by rw [hs]; exact h, Touch.refl _ _, rfl⟩

theorem left_all (b p : Nat) (err : Int) (rv : Value) (rs : List Int) (w : World) (h : RdS w b rv rs p err) :
    Calls Tryz.prog 167 #[.pointer (some ⟨b, 0, none⟩)] w fun e w' => e = .returned (.int .i64 (if err = 0 then (rs.length : Int) - p else 0)) ∧ ∃ n, w' = w.drewN n := by
  by_cases he : err = 0
  · subst he
    refine (left_ok b p rv rs w h).mono ?_
    rintro e w' ⟨rfl, n, rfl⟩
    exact ⟨by simp, n, rfl⟩
  · refine (left_dead b err w h.made h.err (by simpa using he)).mono ?_
    rintro e w' ⟨rfl, rfl⟩
    exact ⟨by simp [he], 0, rfl⟩

theorem bytes_got {rs : List Int} (hb : ∀ x ∈ rs, 0 ≤ x ∧ x < 256) (p : Nat) (err n : Int) : ∀ x ∈ gotR rs p err n, 0 ≤ x ∧ x < 256 := by
  intro x hx
  unfold gotR at hx
  split at hx
  · exact bytes_sub hb p _ x hx
  · simp at hx

theorem got_len (rs : List Int) (p : Nat) (err n : Int) : (gotR rs p err n).length ≤ rs.length := by
  unfold gotR
  split
  · simp; omega
  · simp

theorem rbytes_all (b p : Nat) (n err : Int) (rv : Value) (rs : List Int) (w : World) (h : RdS w b rv rs p err) (hn : n ≤ 9223372036854775807) (hcap : rs.length ≤ 1099511627776) :
    Calls Tryz.prog 103 #[.pointer (some ⟨b, 0, none⟩), .int .i64 n] w fun e w' => ∃ v, e = .returned v ∧ w'.ownsRow w.heap.size 5 1 v (gotR rs p err n).length (bytesOf (gotR rs p err n)) ∧
      RdS w' b rv rs (stepR rs.length p err n).1 (stepR rs.length p err n).2.1 ∧ Touch (fun k => k = b) w w' := by
  have hgl := got_len rs p err n
  have hbl := lt_of_cell h.made
  have hcut := cut_all b p n err rv rs w h hn
  generalize gotR rs p err n = got at hcut hgl ⊢
  generalize stepR rs.length p err n = st at hcut ⊢
  go_enter Tryz.func103, Tryz.ntmps103
  go_wp2_with fail
  refine hcut.mono ?_
  rintro e w1 ⟨sv, rfl, hrow, hob, hr, ht, hs⟩
  rcases hrow with ⟨rfl, rfl⟩ | ⟨g, off, c, rfl, hlc, hcm, hcells⟩
  · go_wp2_with fail
    refine (clone_nil _).mono ?_
    rintro e w2 ⟨rfl, rfl⟩
    go_wp2
    go_ret
    exact ⟨_, rfl, World.ownsRow_nil _ _ _ _, hr, ht⟩
  · go_wp2_with fail
    refine (clone_some ⟨g, off, none⟩ c got w1 (fun j u hj => by rw [add_plain]; exact hcells j u hj) (by omega)).mono ?_
    rintro e w2 ⟨v, rfl, hown, t2, hne⟩
    go_wp2
    go_ret
    exact ⟨v, rfl, by rw [← hs]; exact hown, hr.touch t2 (fun h => h) (fun _ _ h => h), ht.trans' t2 (fun _ _ h => h.elim)⟩

end Go.Proofs.YthilfealloakdaaGreat
