/- Contracts of the reader's methods, every way (without Part). -/
import Derived.Test.YtfhkocpnealblaaGreatOctRd
import Derived.Test.YtfhkocpnealblaaGreatReader
import Derived.Laws.AppendOwnNone
namespace Go.Proofs.YtfhkocpnealblaaGreat
open Go.RowKit
set_option linter.unusedVariables false
set_option maxRecDepth 100000

/-- One step of a reader: the place, the error, was anything taken. -/
def stepR (len p : Nat) (err n : Int) : Nat × Int × Bool :=
  if err = 0 then (if n < 0 then (p, 1, false) else if (len : Int) < p + n then (p, 10, false) else (p + n.toNat, 0, true)) else (p, err, false)
def gotR (rs : List Int) (p : Nat) (err n : Int) : List Int := if (stepR rs.length p err n).2.2 = true then (rs.drop p).take n.toNat else []
/-- The same for a number of n bytes. -/
def stepN (len p : Nat) (err n : Int) : Nat × Int × Bool := if err = 0 ∧ (n < 1 ∨ 4 < n) then (p, 1, false) else stepR len p err n
def gotN (rs : List Int) (p : Nat) (err n : Int) : List Int := if (stepN rs.length p err n).2.2 = true then (rs.drop p).take n.toNat else []

theorem stepR_dead (len p : Nat) (err n : Int) (h : ¬ err = 0) : stepR len p err n = (p, err, false) := by simp [stepR, h]
theorem stepR_arg (len p : Nat) (n : Int) (h : n < 0) : stepR len p 0 n = (p, 1, false) := by simp [stepR, h]
theorem stepR_short (len p : Nat) (n : Int) (h : ¬ n < 0) (h2 : (len : Int) < p + n) : stepR len p 0 n = (p, 10, false) := by simp [stepR, h, h2]
theorem stepR_ok (len p : Nat) (n : Int) (h : ¬ n < 0) (h2 : ¬ (len : Int) < p + n) : stepR len p 0 n = (p + n.toNat, 0, true) := by simp [stepR, h, h2]

theorem RdS.err_wf {w : World} {b p : Nat} {rv : Value} {rs : List Int} {err : Int} (h : RdS w b rv rs p err) : True := trivial

theorem cut_dead (b p : Nat) (n err : Int) (rv : Value) (rs : List Int) (w : World) (h : RdS w b rv rs p err) (he : ¬ err = 0) :
    Calls Tryz.prog 85 #[.pointer (some ⟨b, 0, none⟩), .int .i64 n] w fun e w' => e = .returned (.slice none 0 0) ∧ w = w' := by
  have h0 := h.made
  have h3 := h.err
  have he' : (err == 0) = false := by simpa using he
  by_cases hn : n < 0
  · go_enter Tryz.func85, Tryz.ntmps85
    go_wp2_with (first | (go_at_call 84; refine (refuse_dead _ _ _ _ h0 h3 he').mono ?_; rintro e w' ⟨rfl, rfl⟩) | (go_at_call 109; refine (rwhole_any _ _ _ h0 h3).mono ?_; rintro e w' ⟨rfl, rfl⟩))
    go_ret
    exact ⟨rfl, rfl⟩
  · by_cases hp : 0 < n
    all_goals
      go_enter Tryz.func85, Tryz.ntmps85
      go_wp2_with (first | (go_at_call 107; refine (left_dead _ _ _ h0 h3 he').mono ?_; rintro e w' ⟨rfl, rfl⟩) | (go_at_call 84; refine (refuse_dead _ _ _ _ h0 h3 he').mono ?_; rintro e w' ⟨rfl, rfl⟩) | (go_at_call 109; refine (rwhole_any _ _ _ h0 h3).mono ?_; rintro e w' ⟨rfl, rfl⟩))
      go_ret
      exact ⟨rfl, rfl⟩

theorem cut_arg (b p : Nat) (n : Int) (rv : Value) (rs : List Int) (w : World) (h : RdS w b rv rs p 0) (hn : n < 0) :
    Calls Tryz.prog 85 #[.pointer (some ⟨b, 0, none⟩), .int .i64 n] w fun e w' => e = .returned (.slice none 0 0) ∧ w.setCell ⟨b, 3, none⟩ (.int .i64 1) = w' := by
  have h0 := h.made
  have h3 := h.err
  have hf := h.f3
  have h' := h.setErr 1
  have k0 := h'.made
  have k3 := h'.err
  go_enter Tryz.func85, Tryz.ntmps85
  go_wp2_with (first | (go_at_call 84; refine (refuse_ok _ _ _ h0 h3 hf).mono ?_; rintro e w' ⟨rfl, rfl⟩) | (go_at_call 109; refine (rwhole_any _ 1 _ k0 k3).mono ?_; rintro e w' ⟨rfl, rfl⟩))
  go_ret
  exact ⟨rfl, rfl⟩

theorem cut_all (b p : Nat) (n err : Int) (rv : Value) (rs : List Int) (w : World) (h : RdS w b rv rs p err) (hn : n ≤ 9223372036854775807) :
    Calls Tryz.prog 85 #[.pointer (some ⟨b, 0, none⟩), .int .i64 n] w fun e w' => ∃ sv, e = .returned sv ∧ RowAt w' sv (gotR rs p err n) ∧ (sv.ownBlock = none ∨ sv.ownBlock = rv.ownBlock) ∧
      RdS w' b rv rs (stepR rs.length p err n).1 (stepR rs.length p err n).2.1 ∧ Touch (fun k => k = b) w w' ∧ w'.heap.size = w.heap.size := by
  by_cases he : err = 0
  · subst he
    by_cases h0 : n < 0
    · refine (cut_arg b p n rv rs w h h0).mono ?_
      rintro e w' ⟨rfl, rfl⟩
      refine ⟨_, rfl, ?_, Or.inl rfl, ?_, Touch.setCell (F := fun k => k = b) (p := ⟨b, 3, none⟩) (Touch.refl _ w) (Or.inl rfl) _, by simp [World.setCell]⟩
      · simp only [gotR, stepR_arg _ _ _ h0]; exact Or.inl ⟨rfl, by simp⟩
      · rw [stepR_arg _ _ _ h0]; exact h.setErr 1
    · by_cases h1 : (rs.length : Int) < p + n
      · refine (cut_short b p n rv rs w h h1 hn).mono ?_
        rintro e w' ⟨rfl, hr, ht, hs⟩
        refine ⟨_, rfl, ?_, Or.inl rfl, ?_, ht, hs⟩
        · simp only [gotR, stepR_short _ _ _ h0 h1]; exact Or.inl ⟨rfl, by simp⟩
        · rw [stepR_short _ _ _ h0 h1]; exact hr
      · obtain ⟨m, rfl⟩ : ∃ m : Nat, n = m := ⟨n.toNat, by omega⟩
        refine (cut_ok b p m rv rs w h (by omega)).mono ?_
        rintro e w' ⟨sv, rfl, hrow, hob, hr, ht, hs⟩
        refine ⟨sv, rfl, ?_, hob, ?_, ht, hs⟩
        · simp only [gotR, stepR_ok _ _ _ h0 h1, Int.toNat_natCast, if_true]; exact hrow
        · rw [stepR_ok _ _ _ h0 h1]; simpa using hr
  · refine (cut_dead b p n err rv rs w h he).mono ?_
    rintro e w' ⟨rfl, rfl⟩
    refine ⟨_, rfl, ?_, Or.inl rfl, ?_, Touch.refl _ _, rfl⟩
    · simp only [gotR, stepR_dead _ _ _ _ he]; exact Or.inl ⟨rfl, by simp⟩
    · rw [stepR_dead _ _ _ _ he]; exact h

theorem rnumber_dead (b p : Nat) (n err : Int) (rv : Value) (rs : List Int) (w : World) (h : RdS w b rv rs p err) (he : ¬ err = 0) :
    Calls Tryz.prog 56 #[.pointer (some ⟨b, 0, none⟩), .int .i64 n] w fun e w' => e = .returned (.int .u32 0) ∧ w = w' := by
  have g0 := h.made
  have g3 := h.err
  have he' : (err == 0) = false := by simpa using he
  by_cases h1 : n < 1
  · go_enter Tryz.func56, Tryz.ntmps56
    go_wp2_with (go_at_call 84; refine (refuse_dead _ _ _ _ g0 g3 he').mono ?_; rintro e w' ⟨rfl, rfl⟩)
    go_ret
    exact ⟨rfl, rfl⟩
  · have h1' : decide (n < 1) = false := by simpa using h1
    by_cases h4 : 4 < n
    · go_enter Tryz.func56, Tryz.ntmps56
      go_wp2_with (go_at_call 84; refine (refuse_dead _ _ _ _ g0 g3 he').mono ?_; rintro e w' ⟨rfl, rfl⟩)
      go_ret
      exact ⟨rfl, rfl⟩
    · have h4' : decide (4 < n) = false := by simpa using h4
      go_enter Tryz.func56, Tryz.ntmps56
      go_wp2_with (go_at_call 85; refine (cut_dead _ _ _ _ _ _ _ h he).mono ?_; rintro e w' ⟨rfl, rfl⟩)
      go_rounds 1
      go_ret
      exact ⟨rfl, rfl⟩

theorem rnumber_arg (b p : Nat) (n : Int) (rv : Value) (rs : List Int) (w : World) (h : RdS w b rv rs p 0) (hn : n < 1 ∨ 4 < n) :
    Calls Tryz.prog 56 #[.pointer (some ⟨b, 0, none⟩), .int .i64 n] w fun e w' => e = .returned (.int .u32 0) ∧ w.setCell ⟨b, 3, none⟩ (.int .i64 1) = w' := by
  have g0 := h.made
  have g3 := h.err
  have gf := h.f3
  by_cases h1 : n < 1
  · clear hn
    go_enter Tryz.func56, Tryz.ntmps56
    go_wp2_with (go_at_call 84; refine (refuse_ok _ _ _ g0 g3 gf).mono ?_; rintro e w' ⟨rfl, rfl⟩)
    go_ret
    exact ⟨rfl, rfl⟩
  · have h1' : decide (n < 1) = false := by simpa using h1
    have h4 : 4 < n := by omega
    clear hn
    go_enter Tryz.func56, Tryz.ntmps56
    go_wp2_with (go_at_call 84; refine (refuse_ok _ _ _ g0 g3 gf).mono ?_; rintro e w' ⟨rfl, rfl⟩)
    go_ret
    exact ⟨rfl, rfl⟩

theorem rnumber_all (b p : Nat) (n err : Int) (rv : Value) (rs : List Int) (w : World) (h : RdS w b rv rs p err) :
    Calls Tryz.prog 56 #[.pointer (some ⟨b, 0, none⟩), .int .i64 n] w fun e w' => e = .returned (.int .u32 (numVal (gotN rs p err n))) ∧
      RdS w' b rv rs (stepN rs.length p err n).1 (stepN rs.length p err n).2.1 ∧ Touch (fun k => k = b) w w' ∧ w'.heap.size = w.heap.size := by
  by_cases he : err = 0
  · subst he
    by_cases hn : n < 1 ∨ 4 < n
    · have hs : stepN rs.length p 0 n = (p, 1, false) := by simp [stepN, hn]
      refine (rnumber_arg b p n rv rs w h hn).mono ?_
      rintro e w' ⟨rfl, rfl⟩
      refine ⟨by simp [gotN, hs, numVal], ?_, Touch.setCell (F := fun k => k = b) (p := ⟨b, 3, none⟩) (Touch.refl _ w) (Or.inl rfl) _, by simp [World.setCell]⟩
      rw [hs]; exact h.setErr 1
    · have hs : stepN rs.length p 0 n = stepR rs.length p 0 n := by simp [stepN, hn]
      have h0 : ¬ n < 0 := by omega
      obtain ⟨m, rfl⟩ : ∃ m : Nat, n = m := ⟨n.toNat, by omega⟩
      by_cases h1 : (rs.length : Int) < p + m
      · rw [stepR_short _ _ _ h0 h1] at hs
        refine (rnumber_short b p m rv rs w h (by omega) (by omega) (by omega)).mono ?_
        rintro e w' ⟨rfl, hr, ht, hz⟩
        exact ⟨by simp [gotN, hs, numVal], by rw [hs]; exact hr, ht, hz⟩
      · rw [stepR_ok _ _ _ h0 h1] at hs
        refine (rnumber_ok b p m rv rs w h (by omega) (by omega) (by omega)).mono ?_
        rintro e w' ⟨rfl, hr, ht, hz⟩
        exact ⟨by simp [gotN, hs], by rw [hs]; simpa using hr, ht, hz⟩
  · have hs : stepN rs.length p err n = (p, err, false) := by simp [stepN, he, stepR_dead _ _ _ _ he]
    refine (rnumber_dead b p n err rv rs w h he).mono ?_
    rintro e w' ⟨rfl, rfl⟩
    exact ⟨by simp [gotN, hs, numVal], by rw [hs]; exact h, Touch.refl _ _, rfl⟩

theorem left_all (b p : Nat) (err : Int) (rv : Value) (rs : List Int) (w : World) (h : RdS w b rv rs p err) :
    Calls Tryz.prog 107 #[.pointer (some ⟨b, 0, none⟩)] w fun e w' => e = .returned (.int .i64 (if err = 0 then (rs.length : Int) - p else 0)) ∧ ∃ n, w' = w.drewN n := by
  by_cases he : err = 0
  · subst he
    refine (left_ok b p rv rs w h).mono ?_
    rintro e w' ⟨rfl, n, rfl⟩
    exact ⟨by simp, n, rfl⟩
  · refine (left_dead b err w h.made h.err (by simpa using he)).mono ?_
    rintro e w' ⟨rfl, rfl⟩
    exact ⟨by simp [he], 0, rfl⟩

theorem bytes_got {rs : List Int} (hb : ∀ x ∈ rs, 0 ≤ x ∧ x < 256) (p : Nat) (err n : Int) : ∀ x ∈ gotR rs p err n, 0 ≤ x ∧ x < 256 := by
  intro x hx
  unfold gotR at hx
  split at hx
  · exact bytes_sub hb p _ x hx
  · simp at hx

theorem got_len (rs : List Int) (p : Nat) (err n : Int) : (gotR rs p err n).length ≤ rs.length := by
  unfold gotR
  split
  · simp; omega
  · simp

theorem rbytes_all (b p : Nat) (n err : Int) (rv : Value) (rs : List Int) (w : World) (h : RdS w b rv rs p err) (hn : n ≤ 9223372036854775807) (hcap : rs.length ≤ 1099511627776) :
    Calls Tryz.prog 78 #[.pointer (some ⟨b, 0, none⟩), .int .i64 n] w fun e w' => ∃ v, e = .returned v ∧ w'.ownsRow w.heap.size 5 1 v (gotR rs p err n).length (bytesOf (gotR rs p err n)) ∧
      RdS w' b rv rs (stepR rs.length p err n).1 (stepR rs.length p err n).2.1 ∧ Touch (fun k => k = b) w w' := by
  have hgl := got_len rs p err n
  have hbl := lt_of_cell h.made
  have hcut := cut_all b p n err rv rs w h hn
  generalize gotR rs p err n = got at hcut hgl ⊢
  generalize stepR rs.length p err n = st at hcut ⊢
  go_enter Tryz.func78, Tryz.ntmps78
  go_wp2_with fail
  refine hcut.mono ?_
  rintro e w1 ⟨sv, rfl, hrow, hob, hr, ht, hs⟩
  rcases hrow with ⟨rfl, rfl⟩ | ⟨g, off, c, rfl, hlc, hcm, hcells⟩
  · go_wp2_with fail
    refine (clone_nil _).mono ?_
    rintro e w2 ⟨rfl, rfl⟩
    go_wp2
    go_ret
    exact ⟨_, rfl, World.ownsRow_nil _ _ _ _, hr, ht⟩
  · go_wp2_with fail
    refine (clone_some ⟨g, off, none⟩ c got w1 (fun j u hj => by rw [add_plain]; exact hcells j u hj) (by omega)).mono ?_
    rintro e w2 ⟨v, rfl, hown, t2, hne⟩
    go_wp2
    go_ret
    exact ⟨v, rfl, by rw [← hs]; exact hown, hr.touch t2 (fun h => h) (fun _ _ h => h), ht.trans' t2 (fun _ _ h => h.elim)⟩

end Go.Proofs.YtfhkocpnealblaaGreat

namespace Go.Proofs.YtfhkocpnealblaaGreat
open Go.RowKit
set_option linter.unusedVariables false
set_option maxRecDepth 100000

/-- The bytes l lie in a row of the call's own, in block g. -/
structure OwnB (w : World) (base g cap : Nat) (l : List Int) : Prop where
  own : w.ownsRow base 5 1 (.slice (some ⟨g, 0, none⟩) l.length cap) l.length (bytesOf l)
theorem OwnB.keep {w w' : World} {base g cap : Nat} {l : List Int} (h : OwnB w base g cap l) (t : Touch (fun _ => False) w w') : OwnB w' base g cap l := ⟨own_touch h.own t (fun _ _ h => h)⟩
theorem OwnB.arg {w : World} {base g cap : Nat} {l : List Int} (h : OwnB w base g cap l) : ArgAt w (.slice (some ⟨g, 0, none⟩) l.length cap) l := (own_rowAt h.own).arg
theorem OwnB.argL {w : World} {base g cap n : Nat} {l : List Int} (h : OwnB w base g cap l) (e : l.length = n) : ArgAt w (.slice (some ⟨g, 0, none⟩) n cap) l := by subst e; exact h.arg
theorem OwnB.row {w : World} {base g cap : Nat} {l : List Int} (h : OwnB w base g cap l) : RowAt w (.slice (some ⟨g, 0, none⟩) l.length cap) l := own_rowAt h.own
theorem OwnB.ge {w : World} {base g cap : Nat} {l : List Int} (h : OwnB w base g cap l) : base ≤ g := (h.own.lt g rfl).1
theorem OwnB.lt {w : World} {base g cap : Nat} {l : List Int} (h : OwnB w base g cap l) : g < w.heap.size := (h.own.lt g rfl).2
theorem OwnB.cell {w : World} {base g cap : Nat} {l : List Int} (h : OwnB w base g cap l) (j : Nat) (hj : j < l.length) : w.cell? ⟨g, j, none⟩ = some (.int .u8 (l.getD j 0)) := by
  have := rowAt_cell h.row j hj
  rwa [Nat.zero_add] at this
theorem OwnB.frozen {w : World} {base g cap : Nat} {l : List Int} (h : OwnB w base g cap l) (j : Nat) : w.frozen? ⟨g, j, none⟩ = false := h.own.frozenAt j
theorem OwnB.store {w : World} {base g cap : Nat} {l : List Int} (h : OwnB w base g cap l) (j : Nat) (x : Int) : OwnB (w.setCell ⟨g, j, none⟩ (.int .u8 x)) base g cap (l.set j x) := by
  constructor
  rw [List.length_set, bytesOf_set]
  exact (h.own.stored j _).1
/-- A store into another row. -/
theorem OwnB.other {w : World} {base g cap : Nat} {l : List Int} (h : OwnB w base g cap l) {p : Addr} (hp : p.block ≠ g) (u : Value) : OwnB (w.setCell p u) base g cap l :=
  ⟨own_touch h.own (Touch.setCell (F := fun k => k = p.block) (Touch.refl _ w) (Or.inl rfl) u) (fun k hk e => by cases hk; exact hp e.symm)⟩
theorem OwnB.drew {w : World} {base g cap : Nat} {l : List Int} (h : OwnB w base g cap l) : OwnB w.drew base g cap l := h.keep ((Touch.refl _ w).drew)
end Go.Proofs.YtfhkocpnealblaaGreat

namespace Go.Proofs.YtfhkocpnealblaaGreat
open Go.RowKit
set_option linter.unusedVariables false
set_option maxRecDepth 100000

/-- v is a row of bytes that was made since w0, and reads as l; nothing of w0 has turned. -/
structure Buf (w0 w : World) (v : Value) (l : List Int) : Prop where
  own : w.ownsRow w0.heap.size 5 1 v l.length (bytesOf l)
  t : Touch (fun _ => False) w0 w
theorem Buf.keep {w0 w w' : World} {v : Value} {l : List Int} (h : Buf w0 w v l) (t : Touch (fun _ => False) w w') : Buf w0 w' v l := ⟨own_touch h.own t (fun _ _ h => h), h.t.trans t⟩
theorem Buf.back {w0 w w' : World} {v : Value} {l : List Int} (h : Buf w w' v l) (t : Touch (fun _ => False) w0 w) : Buf w0 w' v l := by
  refine ⟨⟨h.own.1, ?_⟩, t.trans h.t⟩
  rcases h.own.2 with h2 | ⟨g, cap, cur, hv, hb, hr⟩
  · exact Or.inl h2
  · exact Or.inr ⟨g, cap, cur, hv, Nat.le_trans t.size hb, hr⟩
theorem Buf.nil {w0 w : World} (t : Touch (fun _ => False) w0 w) : Buf w0 w (.slice none 0 0) [] := ⟨World.ownsRow_nil _ _ _ _, t⟩
theorem Buf.form {w0 w : World} {v : Value} {l : List Int} (h : Buf w0 w v l) : ∃ a c, v = .slice a l.length c := by
  rcases h.own.2 with ⟨rfl, e⟩ | ⟨g, cap, cur, rfl, _⟩
  · exact ⟨none, 0, by rw [e]⟩
  · exact ⟨_, cap, rfl⟩
theorem Buf.arg {w0 w : World} {v : Value} {l : List Int} (h : Buf w0 w v l) : ArgAt w v l := (own_rowAt h.own).arg
theorem Buf.row {w0 w : World} {v : Value} {l : List Int} (h : Buf w0 w v l) : RowAt w v l := own_rowAt h.own
theorem Buf.appended {w0 w w' : World} {v v' : Value} {l r : List Int} (h : Buf w0 w v l) (hown : w'.ownsRow w0.heap.size 5 1 v' (l.length + r.length) (bytesOf l ++ bytesOf r)) (hg : w.grownBy w' v.ownBlock) : Buf w0 w' v' (l ++ r) := by
  refine ⟨?_, h.t.grown hg (fun k hk => Or.inr (h.own.lt k hk).1)⟩
  rw [List.length_append, bytesOf_append]
  exact hown

section
variable {ops : Array Oper} {rest : List Oper} {o : Oper} {a : Act} {Q : Exit → Act → World → Prop} {w : World}
/-- append(p, x...), x that came in or was made. -/
theorem app_arg (hgd : o.guard = none) (s x : Operand) (ho : o.op = .call { callee := .builtin .append, args := #[s, x], argTypes := #[39, 39] })
    (w0 : World) (v : Value) (l : List Int) (hs : a.eval s = v) (hb : Buf w0 w v l) (vx : Value) (r : List Int) (hx : a.eval x = vx) (hr : ArgAt w vx r) (hl : l.length + r.length ≤ 1099511627776)
    (h : ∀ v' w', Buf w0 w' v' (l ++ r) → wpList Tryz.prog ops Q rest (a.put o.dst v') w') : wpList Tryz.prog ops Q (o :: rest) a w := by
  obtain ⟨i0, hi, hz0, hz1, hz2⟩ := info_parts Tryz.info5w
  rcases hr with ⟨rfl, rfl⟩ | ⟨ad, c, rfl, h1, h2, h3⟩
  · refine wpList_append_own_none hgd s x 39 ho w0.heap.size 5 i0 1 Tryz.underlying39 hi v l.length (bytesOf l) hs hb.own hx ?_
    exact h v w (by rw [List.append_nil]; exact hb)
  · refine wpList_append_own_at w hgd s x 39 ho w0.heap.size 5 i0 (.int .u8 0) 1 1 Tryz.underlying39 hi hz0 hz1 hz2 rfl (by decide) v l.length (bytesOf l) hs hb.own ad r.length c (bytesOf r) hx (by simp [length_bytesOf]) h3 (oneCell_bytesOf r) (by unfold maxLen; omega) (by omega) hb.t.size ?_
    intro v' w' hown hg _ _
    exact h v' w' (hb.appended hown hg)
/-- append(p, z), the one element in a new block of its own. -/
theorem app_one (hgd : o.guard = none) (s x : Operand) (ho : o.op = .call { callee := .builtin .append, args := #[s, x], argTypes := #[39, 39] })
    (w0 : World) (v : Value) (l : List Int) (hs : a.eval s = v) (hb : Buf w0 w v l) (z : Int) (hx : a.eval x = .slice (some ⟨w.heap.size, 0, none⟩) 1 1) (hl : l.length < 1099511627776)
    (h : ∀ v' w', Buf w0 w' v' (l ++ [z]) → wpList Tryz.prog ops Q rest (a.put o.dst v') w') : wpList Tryz.prog ops Q (o :: rest) a (w.alloc (.cells #[.int .u8 z] 5)) :=
  app_arg hgd s x ho w0 v l hs (hb.keep ((Touch.refl _ w).alloc _)) _ [z] hx (Or.inr ⟨_, 1, rfl, by simp, by simp [maxLen], cell_one_new w _ _⟩) (by simp; omega) h
end
end Go.Proofs.YtfhkocpnealblaaGreat

namespace Go.Proofs.YtfhkocpnealblaaGreat
open Go.RowKit
set_option linter.unusedVariables false
set_option maxRecDepth 100000

theorem numVal_numOf (l : List Int) : numVal l = numOf l := by
  unfold numVal numOf
  congr 1
  funext a x
  rw [Int.mul_comm]

/-- A reader in block b: at the place q, or short; it and its row lie below N. -/
structure Rdr (N : Nat) (w : World) (b : Nat) (rs : List Int) (q : Option Nat) : Prop where
  out : ∃ rv p err, RdS w b rv rs p err ∧ b < N ∧ (∀ k, rv.ownBlock = some k → k < N) ∧ ((q = some p ∧ err = 0) ∨ (q = none ∧ err = 10))
theorem Rdr.touch {F : Nat → Prop} {N : Nat} {w w' : World} {b : Nat} {rs : List Int} {q : Option Nat} (h : Rdr N w b rs q) (t : Touch F w w') (hF : ∀ k, k < N → ¬ F k) : Rdr N w' b rs q := by
  obtain ⟨rv, p, err, h, hb, ho, hq⟩ := h
  exact ⟨rv, p, err, h.touch t (hF b hb) (fun k hk => hF k (ho k hk)), hb, ho, hq⟩
theorem Rdr.keep {N : Nat} {w w' : World} {b : Nat} {rs : List Int} {q : Option Nat} (h : Rdr N w b rs q) (t : Touch (fun _ => False) w w') : Rdr N w' b rs q := h.touch t (fun _ _ h => h)
theorem Rdr.low {N : Nat} {w : World} {b : Nat} {rs : List Int} {q : Option Nat} (h : Rdr N w b rs q) : b < N := by obtain ⟨_, _, _, _, hb, _⟩ := h; exact hb
theorem Rdr.lt {N : Nat} {w : World} {b : Nat} {rs : List Int} {q : Option Nat} (h : Rdr N w b rs q) : b < w.heap.size := by obtain ⟨_, _, _, h, _⟩ := h; exact lt_of_cell h.made
theorem Rdr.byte {N : Nat} {w : World} {b : Nat} {rs : List Int} {q : Option Nat} (h : Rdr N w b rs q) : ∀ x ∈ rs, 0 ≤ x ∧ x < 256 := by obtain ⟨_, _, _, h, _⟩ := h; exact h.byte
theorem Rdr.ple {N : Nat} {w : World} {b : Nat} {rs : List Int} {p : Nat} (h : Rdr N w b rs (some p)) : p ≤ rs.length := by
  obtain ⟨_, _, _, h, _, _, ⟨e, _⟩ | ⟨e, _⟩⟩ := h
  · cases e; exact h.ple
  · cases e
theorem Rdr.raise {N M : Nat} {w : World} {b : Nat} {rs : List Int} {q : Option Nat} (h : Rdr N w b rs q) (hM : N ≤ M) : Rdr M w b rs q := by
  obtain ⟨rv, p, err, h, hb, ho, hq⟩ := h
  exact ⟨rv, p, err, h, by omega, fun k hk => by have := ho k hk; omega, hq⟩

/-- What n bytes at a place are as a number; the place behind them. -/
def numAt (rs : List Int) (q : Option Nat) (n : Nat) : Int := match q with
  | some p => if p + n ≤ rs.length then numOf ((rs.drop p).take n) else 0
  | none => 0
def nextAt (rs : List Int) (q : Option Nat) (n : Nat) : Option Nat := match q with
  | some p => if p + n ≤ rs.length then some (p + n) else none
  | none => none
def leftAt (rs : List Int) (q : Option Nat) : Int := match q with
  | some p => (rs.length : Int) - p
  | none => 0
theorem numAt_bound {rs : List Int} (hb : ∀ x ∈ rs, 0 ≤ x ∧ x < 256) (q : Option Nat) (n : Nat) : 0 ≤ numAt rs q n ∧ numAt rs q n < 256 ^ n := by
  have hp : (0 : Int) < 256 ^ n := Int.pow_pos (by decide)
  unfold numAt
  split
  · split
    · rename_i p h
      have := numOf_bound ((rs.drop p).take n) (fun z hz => hb z (List.mem_of_mem_drop (List.mem_of_mem_take hz)))
      rw [show ((rs.drop p).take n).length = n by simp; omega] at this
      exact this
    · omega
  · omega

theorem rnum_r (N b n : Nat) (rs : List Int) (q : Option Nat) (w : World) (h : Rdr N w b rs q) (h1 : 1 ≤ n) (h4 : n ≤ 4) :
    Calls Tryz.prog 56 #[.pointer (some ⟨b, 0, none⟩), .int .i64 n] w fun e w' => e = .returned (.int .u32 (numAt rs q n)) ∧ Rdr N w' b rs (nextAt rs q n) ∧ Touch (fun k => k = b) w w' := by
  obtain ⟨rv, p, err, h, hb, ho, ⟨rfl, rfl⟩ | ⟨rfl, rfl⟩⟩ := h
  · by_cases hp : p + n ≤ rs.length
    · refine (rnumber_ok b p n rv rs w h (by omega) (by omega) (by omega)).mono ?_
      rintro e w' ⟨rfl, hr, t, _⟩
      refine ⟨?_, ⟨rv, _, _, hr, hb, ho, Or.inl ⟨?_, rfl⟩⟩, t⟩
      · simp only [numAt, if_pos hp, numVal_numOf]
      · simp only [nextAt, if_pos hp]
    · refine (rnumber_short b p n rv rs w h (by omega) (by omega) (by omega)).mono ?_
      rintro e w' ⟨rfl, hr, t, _⟩
      refine ⟨?_, ⟨rv, _, _, hr, hb, ho, Or.inr ⟨?_, rfl⟩⟩, t⟩
      · simp only [numAt, if_neg hp]
      · simp only [nextAt, if_neg hp]
  · refine (rnumber_dead b p n 10 rv rs w h (by omega)).mono ?_
    rintro e w' ⟨rfl, rfl⟩
    exact ⟨rfl, ⟨rv, p, 10, h, hb, ho, Or.inr ⟨rfl, rfl⟩⟩, Touch.refl _ _⟩
theorem rnum1 (N b : Nat) (rs : List Int) (q : Option Nat) (w : World) (h : Rdr N w b rs q) :
    Calls Tryz.prog 56 #[.pointer (some ⟨b, 0, none⟩), .int .i64 1] w fun e w' => e = .returned (.int .u32 (numAt rs q 1)) ∧ Rdr N w' b rs (nextAt rs q 1) ∧ Touch (fun k => k = b) w w' := rnum_r N b 1 rs q w h (by omega) (by omega)
theorem rnum2 (N b : Nat) (rs : List Int) (q : Option Nat) (w : World) (h : Rdr N w b rs q) :
    Calls Tryz.prog 56 #[.pointer (some ⟨b, 0, none⟩), .int .i64 2] w fun e w' => e = .returned (.int .u32 (numAt rs q 2)) ∧ Rdr N w' b rs (nextAt rs q 2) ∧ Touch (fun k => k = b) w w' := rnum_r N b 2 rs q w h (by omega) (by omega)
theorem rnum3 (N b : Nat) (rs : List Int) (q : Option Nat) (w : World) (h : Rdr N w b rs q) :
    Calls Tryz.prog 56 #[.pointer (some ⟨b, 0, none⟩), .int .i64 3] w fun e w' => e = .returned (.int .u32 (numAt rs q 3)) ∧ Rdr N w' b rs (nextAt rs q 3) ∧ Touch (fun k => k = b) w w' := rnum_r N b 3 rs q w h (by omega) (by omega)
theorem rnum4 (N b : Nat) (rs : List Int) (q : Option Nat) (w : World) (h : Rdr N w b rs q) :
    Calls Tryz.prog 56 #[.pointer (some ⟨b, 0, none⟩), .int .i64 4] w fun e w' => e = .returned (.int .u32 (numAt rs q 4)) ∧ Rdr N w' b rs (nextAt rs q 4) ∧ Touch (fun k => k = b) w w' := rnum_r N b 4 rs q w h (by omega) (by omega)

theorem left_r (N b : Nat) (rs : List Int) (q : Option Nat) (w : World) (h : Rdr N w b rs q) :
    Calls Tryz.prog 107 #[.pointer (some ⟨b, 0, none⟩)] w fun e w' => e = .returned (.int .i64 (leftAt rs q)) ∧ ∃ n, w' = w.drewN n := by
  obtain ⟨rv, p, err, h, hb, ho, ⟨rfl, rfl⟩ | ⟨rfl, rfl⟩⟩ := h
  · exact left_ok b p rv rs w h
  · refine (left_dead b 10 w h.made h.err (by decide)).mono ?_
    rintro e w' ⟨rfl, rfl⟩
    exact ⟨rfl, 0, rfl⟩
theorem err_r (N b : Nat) (rs : List Int) (q : Option Nat) (w : World) (h : Rdr N w b rs q) :
    Calls Tryz.prog 100 #[.pointer (some ⟨b, 0, none⟩)] w fun e w' => e = .returned (.int .i64 (if q = none then 10 else 0)) ∧ w = w' := by
  obtain ⟨rv, p, err, h, hb, ho, ⟨rfl, rfl⟩ | ⟨rfl, rfl⟩⟩ := h
  · exact err_any b 0 w h.made h.err
  · exact err_any b 10 w h.made h.err
/-- All that is left, as new bytes. -/
theorem rbytes_r (N b p : Nat) (rs : List Int) (w : World) (h : Rdr N w b rs (some p)) (hc : rs.length ≤ 1099511627776) :
    Calls Tryz.prog 78 #[.pointer (some ⟨b, 0, none⟩), .int .i64 ((rs.length : Int) - p)] w fun e w' => ∃ v, e = .returned v ∧ w'.ownsRow w.heap.size 5 1 v (rs.length - p) (bytesOf (rs.drop p)) ∧ Rdr N w' b rs (some rs.length) ∧ Touch (fun k => k = b) w w' := by
  obtain ⟨rv, p', err, h, hb, ho, ⟨e, rfl⟩ | ⟨e, rfl⟩⟩ := h
  · cases e
    have hp := h.ple
    have hs : stepR rs.length p 0 ((rs.length : Int) - p) = (rs.length, 0, true) := by
      rw [stepR_ok _ _ _ (by omega) (by omega)]
      simp
      try omega
    refine (rbytes_all b p _ 0 rv rs w h (by omega) hc).mono ?_
    rintro e w' ⟨v, rfl, hown, hr, t⟩
    have hg : gotR rs p 0 ((rs.length : Int) - p) = rs.drop p := by
      simp only [gotR, hs, if_true]
      rw [List.take_of_length_le (by simp <;> omega)]
    rw [hg, List.length_drop] at hown
    rw [hs] at hr
    exact ⟨v, rfl, hown, ⟨rv, _, _, hr, hb, ho, Or.inl ⟨rfl, rfl⟩⟩, t⟩
  · cases e

/-- Read: a reader of a copy. -/
theorem read_r (v : Value) (bs : List Int) (w : World) (h : ArgAt w v bs) (hby : ∀ x ∈ bs, 0 ≤ x ∧ x < 256) (hcap : bs.length ≤ 1099511627776) :
    Calls Tryz.prog 53 #[v] w fun e w' => ∃ b, e = .returned (.pointer (some ⟨b, 0, none⟩)) ∧ w.heap.size ≤ b ∧ Rdr w'.heap.size w' b bs (some 0) ∧ Touch (fun _ => False) w w' := by
  have fin : ∀ (b : Nat) (rv : Value) (w' : World), w.heap.size ≤ b → RdS w' b rv bs 0 0 → Touch (fun _ => False) w w' →
      ∃ b', (Ending.returned (.pointer (some ⟨b, 0, none⟩))) = .returned (.pointer (some ⟨b', 0, none⟩)) ∧ w.heap.size ≤ b' ∧ Rdr w'.heap.size w' b' bs (some 0) ∧ Touch (fun _ => False) w w' :=
    fun b rv w' hb hr t => ⟨b, rfl, hb, ⟨rv, 0, 0, hr, lt_of_cell hr.made, hr.blk, Or.inl ⟨rfl, rfl⟩⟩, t⟩
  rcases h with ⟨rfl, rfl⟩ | ⟨ad, c, rfl, hlc, hcm, hs⟩
  · go_enter Tryz.func53, Tryz.ntmps53
    go_wp2_with (go_at_call 74; refine (clone_nil _).mono ?_; rintro e w' ⟨rfl, rfl⟩)
    go_ret
    exact fin _ _ _ (Nat.le_refl _) ⟨by simp, by simp, by simp, by simp, by simp, by simp, by simp, Or.inl ⟨rfl, rfl⟩, by simp [Value.ownBlock], by simp, by simp [Value.ownBlock]⟩ ((Touch.refl _ _).alloc _)
  · go_enter Tryz.func53, Tryz.ntmps53
    go_wp2_with (go_at_call 74; refine (clone_some _ _ bs _ hs hcap).mono ?_; rintro e w' ⟨v', rfl, hown, ht, hne⟩; obtain ⟨va, vc, rfl, _⟩ := rowAt_form (own_rowAt hown))
    go_ret
    refine fin _ (.slice va bs.length vc) _ ht.size ⟨by simp, by simp, by simp, by simp, by simp, by simp, by simp, ?_, ?_, hby, fun k hk => by have := (hown.lt k hk).2; simp; omega⟩ (ht.alloc _)
    · exact (own_rowAt hown).touch ((Touch.refl (fun _ => False) _).alloc _) (fun _ _ h => h)
    · intro hk; have := (hown.lt _ hk).2; omega
end Go.Proofs.YtfhkocpnealblaaGreat
