/- Contract: CopyBytes; bytes in a row of the call's own. -/
import Derived.Test.YtbkidfmolnbhlaaWideB
namespace Go.Proofs.Ytbkidfmolnbhlaa
open Go.RowKit
set_option linter.unusedVariables false
set_option maxRecDepth 100000

/-- The bytes l lie in a row of the call's own, in block g. -/
structure OwnB (w : World) (base g cap : Nat) (l : List Int) : Prop where
  own : w.ownsRow base 5 1 (.slice (some ⟨g, 0, none⟩) l.length cap) l.length (bytesOf l)
theorem OwnB.keep {w w' : World} {base g cap : Nat} {l : List Int} (h : OwnB w base g cap l) (t : Touch (fun _ => False) w w') : OwnB w' base g cap l := ⟨own_touch h.own t (fun _ _ h => h)⟩
theorem OwnB.arg {w : World} {base g cap : Nat} {l : List Int} (h : OwnB w base g cap l) : ArgAt w (.slice (some ⟨g, 0, none⟩) l.length cap) l := (own_rowAt h.own).arg
theorem OwnB.argL {w : World} {base g cap n : Nat} {l : List Int} (h : OwnB w base g cap l) (e : l.length = n) : ArgAt w (.slice (some ⟨g, 0, none⟩) n cap) l := by subst e; exact h.arg
theorem OwnB.row {w : World} {base g cap : Nat} {l : List Int} (h : OwnB w base g cap l) : RowAt w (.slice (some ⟨g, 0, none⟩) l.length cap) l := own_rowAt h.own
theorem OwnB.ge {w : World} {base g cap : Nat} {l : List Int} (h : OwnB w base g cap l) : base ≤ g := (h.own.lt g rfl).1
theorem OwnB.lt {w : World} {base g cap : Nat} {l : List Int} (h : OwnB w base g cap l) : g < w.heap.size := (h.own.lt g rfl).2
theorem OwnB.cell {w : World} {base g cap : Nat} {l : List Int} (h : OwnB w base g cap l) (j : Nat) (hj : j < l.length) : w.cell? ⟨g, j, none⟩ = some (.int .u8 (l.getD j 0)) := by
  have := rowAt_cell h.row j hj
  rwa [Nat.zero_add] at this
theorem OwnB.frozen {w : World} {base g cap : Nat} {l : List Int} (h : OwnB w base g cap l) (j : Nat) : w.frozen? ⟨g, j, none⟩ = false := h.own.frozenAt j
theorem OwnB.store {w : World} {base g cap : Nat} {l : List Int} (h : OwnB w base g cap l) (j : Nat) (x : Int) : OwnB (w.setCell ⟨g, j, none⟩ (.int .u8 x)) base g cap (l.set j x) := by
  constructor
  rw [List.length_set, bytesOf_set]
  exact (h.own.stored j _).1
/-- A store into another row. -/
theorem OwnB.other {w : World} {base g cap : Nat} {l : List Int} (h : OwnB w base g cap l) {p : Addr} (hp : p.block ≠ g) (u : Value) : OwnB (w.setCell p u) base g cap l :=
  ⟨own_touch h.own (Touch.setCell (F := fun k => k = p.block) (Touch.refl _ w) (Or.inl rfl) u) (fun k hk e => by cases hk; exact hp e.symm)⟩
theorem OwnB.drew {w : World} {base g cap : Nat} {l : List Int} (h : OwnB w base g cap l) : OwnB w.drew base g cap l := h.keep ((Touch.refl _ w).drew)

theorem copy_any (v : Value) (rs : List Int) (w : World) (h : ArgAt w v rs) (hp : 0 < rs.length) (hcap : rs.length ≤ 1099511627776) :
    Calls Try.prog 16 #[v] w fun e w' => ∃ g cap, e = .returned (.slice (some ⟨g, 0, none⟩) rs.length cap) ∧ OwnB w' w.heap.size g cap rs ∧ Touch (fun _ => False) w w' := by
  obtain ⟨i0, hi, hz0, hz1, hz2⟩ := info_parts Try.info5w
  have hr := h.row hp
  obtain ⟨va, vc, rfl, _⟩ := h.form
  obtain ⟨ga, oa, rfl⟩ := rowAt_some hr hp
  have hcells : ∀ j u, (bytesOf rs)[j]? = some u → w.cell? ((⟨ga, oa, none⟩ : Addr).add j) = some u := by
    intro j u hj
    rw [add_plain]
    rcases hr with ⟨e, _⟩ | ⟨g', off', c', e, _, _, h3⟩
    · cases e
    · cases e; exact h3 j u hj
  clear h hr
  go_enter Try.func16, Try.ntmps16
  go_wp2_with (at_builtin; refine wpList_append_own_at _ rfl (.tmp 4) (.tmp 5) 22 rfl w.heap.size 5 i0 (.int .u8 0) 1 1 Try.underlying22 hi hz0 hz1 hz2 rfl (by decide) (.slice none 0 0) 0 [] rfl ?c0 ⟨ga, oa, none⟩ rs.length vc (bytesOf rs) rfl ?c6 ?c1 ?c2 ?c3 ?c4 ?c5 ?_)
  case c0 => exact World.ownsRow_nil _ _ _ _
  case c6 => simp [length_bytesOf]
  case c1 => exact hcells
  case c2 => exact oneCell_bytesOf rs
  case c3 => unfold maxLen; omega
  case c4 => omega
  case c5 => simp
  intro v' w1 hown' hgrow _ hat
  have t1 : Touch (fun _ => False) w w1 := (Touch.refl _ w).grown hgrow (fun k hk => by simp [Value.ownBlock] at hk)
  have hown : w1.ownsRow w.heap.size 5 1 v' rs.length (bytesOf rs) := by simpa using hown'
  have hf : ∃ g cap, v' = .slice (some ⟨g, 0, none⟩) rs.length cap := by
    rcases hown.2 with ⟨_, e⟩ | ⟨g, cap, cur, rfl, _⟩
    · omega
    · exact ⟨g, cap, rfl⟩
  obtain ⟨g, cap, rfl⟩ := hf
  clear hgrow hat hown' hcells
  go_wp2
  go_ret
  exact ⟨g, cap, rfl, ⟨hown⟩, t1⟩
end Go.Proofs.Ytbkidfmolnbhlaa
