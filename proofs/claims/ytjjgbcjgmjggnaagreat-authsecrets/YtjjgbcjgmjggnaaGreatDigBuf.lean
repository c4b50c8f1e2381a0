/- Contracts of the writer's methods, every way (without Patch). -/
import Derived.Test.YtjjgbcjgmjggnaaGreatKeep
import Derived.Test.YtjjgbcjgmjggnaaGreatDigBase
import Derived.Laws.AppendOwnNone
namespace Go.Proofs.YtjjgbcjgmjggnaaGreat
open Go.RowKit
set_option linter.unusedVariables false
set_option maxRecDepth 100000

/-- What Put does to a writer's bytes and error. -/
def putB (bs : List Int) (most err : Int) (ns : List Int) : List Int := if err = 0 ∧ (bs.length : Int) + ns.length ≤ most then bs ++ ns else bs
def putE (bs : List Int) (most err : Int) (ns : List Int) : Int := if err = 0 then (if (bs.length : Int) + ns.length ≤ most then 0 else 11) else err

/-- Where the row lies then. -/
def Moved (w : World) (v v' : Value) : Prop := v'.ownBlock = v.ownBlock ∨ ∃ g, v'.ownBlock = some g ∧ w.heap.size ≤ g

theorem WrS.setErr {w : World} {b : Nat} {v : Value} {bs : List Int} {most err : Int} (h : WrS w b v bs most err) (q : Int) : WrS (w.setCell ⟨b, 3, none⟩ (.int .i64 q)) b v bs most q := by
  exact ⟨by simp [h.made, go_sem], by simp [h.row, go_sem], by simp [h.most, go_sem], by simp [h.err, go_sem], by simp [h.f1, go_sem], by simp [h.f3, go_sem], own_setCell h.own (Nat.lt_succ_self b) _⟩
theorem WrS.touchErr {w : World} {b : Nat} {v : Value} (q : Value) : Touch (wrF b v) w (w.setCell ⟨b, 3, none⟩ q) := Touch.setCell (F := wrF b v) (p := ⟨b, 3, none⟩) (Touch.refl _ w) (Or.inl (Or.inl rfl)) _

theorem wrefuse_any (b : Nat) (q err : Int) (w : World) (h3 : w.cell? ⟨b, 3, none⟩ = some (.int .i64 err)) (hf : w.frozen? ⟨b, 3, none⟩ = false) :
    Calls Tryz.prog 133 #[.pointer (some ⟨b, 0, none⟩), .int .i64 q] w fun e w' => e = .returned (.pointer (some ⟨b, 0, none⟩)) ∧ w.setCell ⟨b, 3, none⟩ (.int .i64 q) = w' := by
  go_enter Tryz.func133, Tryz.ntmps133
  go_wp2
  go_ret
  exact ⟨rfl, rfl⟩

theorem put_dead (b : Nat) (v : Value) (bs : List Int) (most err : Int) (s : Value) (w : World) (h : WrS w b v bs most err) (he : ¬ err = 0) :
    Calls Tryz.prog 106 #[.pointer (some ⟨b, 0, none⟩), s] w fun e w' => e = .returned (.pointer (some ⟨b, 0, none⟩)) ∧ w = w' := by
  have h0 := h.made
  have h3 := h.err
  have he' : (err == 0) = false := by simpa using he
  go_enter Tryz.func106, Tryz.ntmps106
  go_wp2_with (go_at_call 126; refine (whole_any _ err _ h0 h3).mono ?_; rintro e w' ⟨rfl, rfl⟩)
  go_ret
  exact ⟨rfl, rfl⟩

theorem put_long (b : Nat) (v : Value) (bs : List Int) (most : Int) (a : Option Addr) (m c : Nat) (w : World) (h : WrS w b v bs most 0) (hfit : most < (bs.length : Int) + m) (hcap : bs.length + m ≤ 1099511627776) :
    Calls Tryz.prog 106 #[.pointer (some ⟨b, 0, none⟩), .slice a m c] w fun e w' => e = .returned (.pointer (some ⟨b, 0, none⟩)) ∧ ∃ n, (w.drewN n).setCell ⟨b, 3, none⟩ (.int .i64 11) = w' := by
  have h0 := h.made
  have h1 := h.row
  have h2 := h.most
  have h3 := h.err
  have hf := h.f3
  have hlt := lt_of_cell h0
  obtain ⟨va, vc, rfl⟩ := own_form h.own
  clear h
  go_enter Tryz.func106, Tryz.ntmps106
  go_wp2_with (go_at_call 126; refine (whole_any _ 0 _ h0 h3).mono ?_; rintro e w' ⟨rfl, rfl⟩)
  go_quiet (fail)
  go_wp2_with (go_at_call 133; refine (wrefuse_any _ _ 0 _ (by simpa using h3) (by simpa using hf)).mono ?_; rintro e w' ⟨rfl, rfl⟩)
  go_ret
  exact ⟨rfl, _, rfl⟩

theorem put_all (b : Nat) (v : Value) (bs : List Int) (most err : Int) (ad : Addr) (c : Nat) (ns : List Int) (w : World) (h : WrS w b v bs most err) (hs : ∀ j u, (bytesOf ns)[j]? = some u → w.cell? (ad.add j) = some u) (hcap : bs.length + ns.length ≤ 1099511627776) :
    Calls Tryz.prog 106 #[.pointer (some ⟨b, 0, none⟩), .slice (some ad) ns.length c] w fun e w' => e = .returned (.pointer (some ⟨b, 0, none⟩)) ∧
      ∃ v', WrS w' b v' (putB bs most err ns) most (putE bs most err ns) ∧ Touch (wrF b v) w w' ∧ Moved w v v' := by
  by_cases he : err = 0
  · subst he
    by_cases hfit : (bs.length : Int) + ns.length ≤ most
    · refine (put_ok b v bs most ad c ns w h hs hfit hcap).mono ?_
      rintro e w' ⟨rfl, v', h1, h2, h3⟩
      exact ⟨rfl, v', by simpa [putB, putE, hfit] using h1, h2, h3⟩
    · refine (put_long b v bs most (some ad) ns.length c w h (by omega) hcap).mono ?_
      rintro e w' ⟨rfl, n, rfl⟩
      refine ⟨rfl, v, ?_, ?_, Or.inl rfl⟩
      · simpa [putB, putE, hfit] using (h.drewN n).setErr 11
      · exact ((Touch.refl _ w).drewN n).trans (WrS.touchErr _)
  · refine (put_dead b v bs most err _ w h he).mono ?_
    rintro e w' ⟨rfl, rfl⟩
    exact ⟨rfl, v, by simpa [putB, putE, he] using h, Touch.refl _ _, Or.inl rfl⟩

theorem spell_dead (b : Nat) (x n err : Int) (f : Value) (w : World) (h0 : w.cell? ⟨b, 0, none⟩ = some (.bool true)) (h3 : w.cell? ⟨b, 3, none⟩ = some (.int .i64 err)) (he : (err == 0) = false) :
    Calls Tryz.prog 124 #[.pointer (some ⟨b, 0, none⟩), .int .u32 x, .int .i64 n, f] w fun e w' => e = .returned (.pointer (some ⟨b, 0, none⟩)) ∧ w = w' := by
  go_enter Tryz.func124, Tryz.ntmps124
  go_wp2_with (go_at_call 126; refine (whole_any _ err _ h0 h3).mono ?_; rintro e w' ⟨rfl, rfl⟩)
  go_ret
  exact ⟨rfl, rfl⟩

theorem wnumber_dead (b : Nat) (v : Value) (bs : List Int) (most err : Int) (x n : Int) (w : World) (h : WrS w b v bs most err) (he : ¬ err = 0) :
    Calls Tryz.prog 107 #[.pointer (some ⟨b, 0, none⟩), .int .u32 x, .int .i64 n] w fun e w' => e = .returned (.pointer (some ⟨b, 0, none⟩)) ∧ w = w' := by
  have hmf : ∀ (fn : Fn) (first cap : Array Value) (w : World), (Instr.makeFunc fn first cap).run Tryz.prog w = .ok (.func fn first cap) w := fun _ _ _ _ => rfl
  go_enter Tryz.func107, Tryz.ntmps107
  go_wp2_with (go_at_call 124; refine (spell_dead _ _ _ err _ _ h.made h.err (by simpa using he)).mono ?_; rintro e w' ⟨rfl, rfl⟩)
  go_ret
  exact ⟨rfl, rfl⟩

theorem wnumber_put1 (b : Nat) (v : Value) (bs : List Int) (most : Int) (x : Int) (w : World) (h : WrS w b v bs most 0) (hx : 0 ≤ x ∧ x < 256) (hcap : bs.length ≤ 1048576) :
    Calls Tryz.prog 107 #[.pointer (some ⟨b, 0, none⟩), .int .u32 x, .int .i64 1] w fun e w' => e = .returned (.pointer (some ⟨b, 0, none⟩)) ∧
      ∃ v', WrS w' b v' (putB bs most 0 (numBytes 1 x)) most (putE bs most 0 (numBytes 1 x)) ∧ Touch (wrF b v) w w' ∧ Moved w v v' := by
  obtain ⟨hx0, hx1⟩ := hx
  have hmf : ∀ (fn : Fn) (first cap : Array Value) (w : World), (Instr.makeFunc fn first cap).run Tryz.prog w = .ok (.func fn first cap) w := fun _ _ _ _ => rfl
  have h0 := h.made
  have h3 := h.err
  have HN : Hid (numBytes 1 x = [x]) := by show _ = _; simp [numBytes]; omega
  go_enter Tryz.func107, Tryz.ntmps107
  go_wp2_with (first | (go_at_call 126; refine (whole_any _ 0 _ (by assumption) (by assumption)).mono ?_; rintro e w' ⟨rfl, rfl⟩) | (go_at_call 124; go_in))
  refine (put_all b v bs most 0 ⟨w.heap.size, 3, none⟩ 1 [x] _ (h.alloc _) (src_new _ _ _ _ _ (by simp [bytesOf])) (by simp; omega)).mono ?_
  rintro e w' ⟨rfl, v', hw, ht, ha⟩
  clear hmf h0 h3
  go_wp2
  go_ret
  rw [HN.out]
  refine ⟨rfl, v', hw, ((Touch.refl _ _).alloc _).trans ht, ?_⟩
  rcases ha with ha | ⟨g, hg, hl⟩
  · exact Or.inl ha
  · exact Or.inr ⟨g, hg, by simp at hl; omega⟩

theorem wnumber_put2 (b : Nat) (v : Value) (bs : List Int) (most : Int) (x : Int) (w : World) (h : WrS w b v bs most 0) (hx : 0 ≤ x ∧ x < 65536) (hcap : bs.length ≤ 1048576) :
    Calls Tryz.prog 107 #[.pointer (some ⟨b, 0, none⟩), .int .u32 x, .int .i64 2] w fun e w' => e = .returned (.pointer (some ⟨b, 0, none⟩)) ∧
      ∃ v', WrS w' b v' (putB bs most 0 (numBytes 2 x)) most (putE bs most 0 (numBytes 2 x)) ∧ Touch (wrF b v) w w' ∧ Moved w v v' := by
  obtain ⟨hx0, hx1⟩ := hx
  have hmf : ∀ (fn : Fn) (first cap : Array Value) (w : World), (Instr.makeFunc fn first cap).run Tryz.prog w = .ok (.func fn first cap) w := fun _ _ _ _ => rfl
  have h0 := h.made
  have h3 := h.err
  have HN : Hid (numBytes 2 x = [x / 256, x % 256]) := by show _ = _; simp [numBytes]; omega
  go_enter Tryz.func107, Tryz.ntmps107
  go_wp2_with (first | (go_at_call 126; refine (whole_any _ 0 _ (by assumption) (by assumption)).mono ?_; rintro e w' ⟨rfl, rfl⟩) | (go_at_call 124; go_in))
  refine (put_all b v bs most 0 ⟨w.heap.size, 2, none⟩ 2 [x / 256, x % 256] _ (h.alloc _) (src_new _ _ _ _ _ (by simp [bytesOf])) (by simp; omega)).mono ?_
  rintro e w' ⟨rfl, v', hw, ht, ha⟩
  clear hmf h0 h3
  go_wp2
  go_ret
  rw [HN.out]
  refine ⟨rfl, v', hw, ((Touch.refl _ _).alloc _).trans ht, ?_⟩
  rcases ha with ha | ⟨g, hg, hl⟩
  · exact Or.inl ha
  · exact Or.inr ⟨g, hg, by simp at hl; omega⟩

theorem wnumber_put3 (b : Nat) (v : Value) (bs : List Int) (most : Int) (x : Int) (w : World) (h : WrS w b v bs most 0) (hx : 0 ≤ x ∧ x < 16777216) (hcap : bs.length ≤ 1048576) :
    Calls Tryz.prog 107 #[.pointer (some ⟨b, 0, none⟩), .int .u32 x, .int .i64 3] w fun e w' => e = .returned (.pointer (some ⟨b, 0, none⟩)) ∧
      ∃ v', WrS w' b v' (putB bs most 0 (numBytes 3 x)) most (putE bs most 0 (numBytes 3 x)) ∧ Touch (wrF b v) w w' ∧ Moved w v v' := by
  obtain ⟨hx0, hx1⟩ := hx
  have hmf : ∀ (fn : Fn) (first cap : Array Value) (w : World), (Instr.makeFunc fn first cap).run Tryz.prog w = .ok (.func fn first cap) w := fun _ _ _ _ => rfl
  have h0 := h.made
  have h3 := h.err
  have HN : Hid (numBytes 3 x = [x / 65536, x / 256 % 256, x % 256]) := by show _ = _; simp [numBytes]; omega
  go_enter Tryz.func107, Tryz.ntmps107
  go_wp2_with (first | (go_at_call 126; refine (whole_any _ 0 _ (by assumption) (by assumption)).mono ?_; rintro e w' ⟨rfl, rfl⟩) | (go_at_call 124; go_in))
  refine (put_all b v bs most 0 ⟨w.heap.size, 1, none⟩ 3 [x / 65536, x / 256 % 256, x % 256] _ (h.alloc _) (src_new _ _ _ _ _ (by simp [bytesOf])) (by simp; omega)).mono ?_
  rintro e w' ⟨rfl, v', hw, ht, ha⟩
  clear hmf h0 h3
  go_wp2
  go_ret
  rw [HN.out]
  refine ⟨rfl, v', hw, ((Touch.refl _ _).alloc _).trans ht, ?_⟩
  rcases ha with ha | ⟨g, hg, hl⟩
  · exact Or.inl ha
  · exact Or.inr ⟨g, hg, by simp at hl; omega⟩

theorem wnumber_put4 (b : Nat) (v : Value) (bs : List Int) (most : Int) (x : Int) (w : World) (h : WrS w b v bs most 0) (hx : 0 ≤ x ∧ x < 4294967296) (hcap : bs.length ≤ 1048576) :
    Calls Tryz.prog 107 #[.pointer (some ⟨b, 0, none⟩), .int .u32 x, .int .i64 4] w fun e w' => e = .returned (.pointer (some ⟨b, 0, none⟩)) ∧
      ∃ v', WrS w' b v' (putB bs most 0 (numBytes 4 x)) most (putE bs most 0 (numBytes 4 x)) ∧ Touch (wrF b v) w w' ∧ Moved w v v' := by
  obtain ⟨hx0, hx1⟩ := hx
  have hmf : ∀ (fn : Fn) (first cap : Array Value) (w : World), (Instr.makeFunc fn first cap).run Tryz.prog w = .ok (.func fn first cap) w := fun _ _ _ _ => rfl
  have h0 := h.made
  have h3 := h.err
  have HN : Hid (numBytes 4 x = [x / 16777216, x / 65536 % 256, x / 256 % 256, x % 256]) := by show _ = _; simp [numBytes]; omega
  go_enter Tryz.func107, Tryz.ntmps107
  go_wp2_with (first | (go_at_call 126; refine (whole_any _ 0 _ (by assumption) (by assumption)).mono ?_; rintro e w' ⟨rfl, rfl⟩) | (go_at_call 124; go_in))
  refine (put_all b v bs most 0 ⟨w.heap.size, 0, none⟩ 4 [x / 16777216, x / 65536 % 256, x / 256 % 256, x % 256] _ (h.alloc _) (src_new _ _ _ _ _ (by simp [bytesOf])) (by simp; omega)).mono ?_
  rintro e w' ⟨rfl, v', hw, ht, ha⟩
  clear hmf h0 h3
  go_wp2
  go_ret
  rw [HN.out]
  refine ⟨rfl, v', hw, ((Touch.refl _ _).alloc _).trans ht, ?_⟩
  rcases ha with ha | ⟨g, hg, hl⟩
  · exact Or.inl ha
  · exact Or.inr ⟨g, hg, by simp at hl; omega⟩

end Go.Proofs.YtjjgbcjgmjggnaaGreat

namespace Go.Proofs.YtjjgbcjgmjggnaaGreat
open Go.RowKit
set_option linter.unusedVariables false
set_option maxRecDepth 100000

/-- The bytes l lie in a row of the call's own, in block g. -/
structure OwnB (w : World) (base g cap : Nat) (l : List Int) : Prop where
  own : w.ownsRow base 5 1 (.slice (some ⟨g, 0, none⟩) l.length cap) l.length (bytesOf l)
theorem OwnB.keep {w w' : World} {base g cap : Nat} {l : List Int} (h : OwnB w base g cap l) (t : Touch (fun _ => False) w w') : OwnB w' base g cap l := ⟨own_touch h.own t (fun _ _ h => h)⟩
theorem OwnB.arg {w : World} {base g cap : Nat} {l : List Int} (h : OwnB w base g cap l) : ArgAt w (.slice (some ⟨g, 0, none⟩) l.length cap) l := (own_rowAt h.own).arg
theorem OwnB.row {w : World} {base g cap : Nat} {l : List Int} (h : OwnB w base g cap l) : RowAt w (.slice (some ⟨g, 0, none⟩) l.length cap) l := own_rowAt h.own
theorem OwnB.lt {w : World} {base g cap : Nat} {l : List Int} (h : OwnB w base g cap l) : g < w.heap.size := (h.own.lt g rfl).2
theorem OwnB.cell {w : World} {base g cap : Nat} {l : List Int} (h : OwnB w base g cap l) (j : Nat) (hj : j < l.length) : w.cell? ⟨g, j, none⟩ = some (.int .u8 (l.getD j 0)) := by
  have := rowAt_cell h.row j hj
  rwa [Nat.zero_add] at this
theorem OwnB.frozen {w : World} {base g cap : Nat} {l : List Int} (h : OwnB w base g cap l) (j : Nat) : w.frozen? ⟨g, j, none⟩ = false := h.own.frozenAt j
theorem OwnB.store {w : World} {base g cap : Nat} {l : List Int} (h : OwnB w base g cap l) (j : Nat) (x : Int) : OwnB (w.setCell ⟨g, j, none⟩ (.int .u8 x)) base g cap (l.set j x) := by
  constructor
  rw [List.length_set, bytesOf_set]
  exact (h.own.stored j _).1
/-- A store into another row. -/
theorem OwnB.other {w : World} {base g cap : Nat} {l : List Int} (h : OwnB w base g cap l) {p : Addr} (hp : p.block ≠ g) (u : Value) : OwnB (w.setCell p u) base g cap l :=
  ⟨own_touch h.own (Touch.setCell (F := fun k => k = p.block) (Touch.refl _ w) (Or.inl rfl) u) (fun k hk e => by cases hk; exact hp e.symm)⟩
theorem OwnB.drew {w : World} {base g cap : Nat} {l : List Int} (h : OwnB w base g cap l) : OwnB w.drew base g cap l := h.keep ((Touch.refl _ w).drew)
end Go.Proofs.YtjjgbcjgmjggnaaGreat

namespace Go.Proofs.YtjjgbcjgmjggnaaGreat
open Go.RowKit
set_option linter.unusedVariables false
set_option maxRecDepth 100000

/-- v is a row of bytes that was made since w0, and reads as l; nothing of w0 has turned. -/
structure Buf (w0 w : World) (v : Value) (l : List Int) : Prop where
  own : w.ownsRow w0.heap.size 5 1 v l.length (bytesOf l)
  t : Touch (fun _ => False) w0 w
theorem Buf.keep {w0 w w' : World} {v : Value} {l : List Int} (h : Buf w0 w v l) (t : Touch (fun _ => False) w w') : Buf w0 w' v l := ⟨own_touch h.own t (fun _ _ h => h), h.t.trans t⟩
theorem Buf.back {w0 w w' : World} {v : Value} {l : List Int} (h : Buf w w' v l) (t : Touch (fun _ => False) w0 w) : Buf w0 w' v l := by
  refine ⟨⟨h.own.1, ?_⟩, t.trans h.t⟩
  rcases h.own.2 with h2 | ⟨g, cap, cur, hv, hb, hr⟩
  · exact Or.inl h2
  · exact Or.inr ⟨g, cap, cur, hv, Nat.le_trans t.size hb, hr⟩
theorem Buf.nil {w0 w : World} (t : Touch (fun _ => False) w0 w) : Buf w0 w (.slice none 0 0) [] := ⟨World.ownsRow_nil _ _ _ _, t⟩
theorem Buf.form {w0 w : World} {v : Value} {l : List Int} (h : Buf w0 w v l) : ∃ a c, v = .slice a l.length c := by
  rcases h.own.2 with ⟨rfl, e⟩ | ⟨g, cap, cur, rfl, _⟩
  · exact ⟨none, 0, by rw [e]⟩
  · exact ⟨_, cap, rfl⟩
theorem Buf.arg {w0 w : World} {v : Value} {l : List Int} (h : Buf w0 w v l) : ArgAt w v l := (own_rowAt h.own).arg
theorem Buf.row {w0 w : World} {v : Value} {l : List Int} (h : Buf w0 w v l) : RowAt w v l := own_rowAt h.own
theorem Buf.appended {w0 w w' : World} {v v' : Value} {l r : List Int} (h : Buf w0 w v l) (hown : w'.ownsRow w0.heap.size 5 1 v' (l.length + r.length) (bytesOf l ++ bytesOf r)) (hg : w.grownBy w' v.ownBlock) : Buf w0 w' v' (l ++ r) := by
  refine ⟨?_, h.t.grown hg (fun k hk => Or.inr (h.own.lt k hk).1)⟩
  rw [List.length_append, bytesOf_append]
  exact hown

section
variable {ops : Array Oper} {rest : List Oper} {o : Oper} {a : Act} {Q : Exit → Act → World → Prop} {w : World}
/-- append(p, x...), x that came in or was made. -/
theorem app_arg (hgd : o.guard = none) (s x : Operand) (ho : o.op = .call { callee := .builtin .append, args := #[s, x], argTypes := #[43, 43] })
    (w0 : World) (v : Value) (l : List Int) (hs : a.eval s = v) (hb : Buf w0 w v l) (vx : Value) (r : List Int) (hx : a.eval x = vx) (hr : ArgAt w vx r) (hl : l.length + r.length ≤ 1099511627776)
    (h : ∀ v' w', Buf w0 w' v' (l ++ r) → wpList Tryz.prog ops Q rest (a.put o.dst v') w') : wpList Tryz.prog ops Q (o :: rest) a w := by
  obtain ⟨i0, hi, hz0, hz1, hz2⟩ := info_parts Tryz.info5w
  rcases hr with ⟨rfl, rfl⟩ | ⟨ad, c, rfl, h1, h2, h3⟩
  · refine wpList_append_own_none hgd s x 43 ho w0.heap.size 5 i0 1 Tryz.underlying43 hi v l.length (bytesOf l) hs hb.own hx ?_
    exact h v w (by rw [List.append_nil]; exact hb)
  · refine wpList_append_own_at w hgd s x 43 ho w0.heap.size 5 i0 (.int .u8 0) 1 1 Tryz.underlying43 hi hz0 hz1 hz2 rfl (by decide) v l.length (bytesOf l) hs hb.own ad r.length c (bytesOf r) hx (by simp [length_bytesOf]) h3 (oneCell_bytesOf r) (by unfold maxLen; omega) (by omega) hb.t.size ?_
    intro v' w' hown hg _ _
    exact h v' w' (hb.appended hown hg)
/-- append(p, z), the one element in a new block of its own. -/
theorem app_one (hgd : o.guard = none) (s x : Operand) (ho : o.op = .call { callee := .builtin .append, args := #[s, x], argTypes := #[43, 43] })
    (w0 : World) (v : Value) (l : List Int) (hs : a.eval s = v) (hb : Buf w0 w v l) (z : Int) (hx : a.eval x = .slice (some ⟨w.heap.size, 0, none⟩) 1 1) (hl : l.length < 1099511627776)
    (h : ∀ v' w', Buf w0 w' v' (l ++ [z]) → wpList Tryz.prog ops Q rest (a.put o.dst v') w') : wpList Tryz.prog ops Q (o :: rest) a (w.alloc (.cells #[.int .u8 z] 5)) :=
  app_arg hgd s x ho w0 v l hs (hb.keep ((Touch.refl _ w).alloc _)) _ [z] hx (Or.inr ⟨_, 1, rfl, by simp, by simp [maxLen], cell_one_new w _ _⟩) (by simp; omega) h
end
end Go.Proofs.YtjjgbcjgmjggnaaGreat
