/- Contracts of the document's reader (lodestarref01.Reader), and of 'alike'. -/
import Derived.Test.YtcpagamkpmmgpaaDoorRdAll
import Derived.Deep.RegionLaw
import Derived.Laws.AppendOwnNone
namespace Go.Proofs.YtcpagamkpmmgpaaDoor
open Go.RowKit
set_option linter.unusedVariables false
set_option maxRecDepth 100000

/-- The document's reader lies in block b. -/
structure DdS (w : World) (b : Nat) (rv : Value) (rs : List Int) (p : Nat) (err : Int) : Prop where
  row : w.cell? ⟨b, 0, none⟩ = some rv
  pos : w.cell? ⟨b, 1, none⟩ = some (.int .i64 p)
  err : w.cell? ⟨b, 2, none⟩ = some (.int .i64 err)
  f1 : w.frozen? ⟨b, 1, none⟩ = false
  f2 : w.frozen? ⟨b, 2, none⟩ = false
  ple : p ≤ rs.length
  rowAt : RowAt w rv rs
  ne : rv.ownBlock ≠ some b
  byte : ∀ x ∈ rs, 0 ≤ x ∧ x < 256
  blk : ∀ k, rv.ownBlock = some k → k < w.heap.size

theorem DdS.touch {F : Nat → Prop} {w w' : World} {b p : Nat} {rv : Value} {rs : List Int} {err : Int} (h : DdS w b rv rs p err) (t : Touch F w w') (hb : ¬ F b) (hn : ∀ k, rv.ownBlock = some k → ¬ F k) : DdS w' b rv rs p err := by
  have hl := lt_of_cell h.row
  exact ⟨(t.cell hl hb).trans h.row, (t.cell hl hb).trans h.pos, (t.cell hl hb).trans h.err, (t.frozen hl hb).trans h.f1, (t.frozen hl hb).trans h.f2, h.ple, h.rowAt.touch t hn, h.ne, h.byte, fun k hk => Nat.lt_of_lt_of_le (h.blk k hk) t.size⟩
theorem DdS.drewN {w : World} {b p : Nat} {rv : Value} {rs : List Int} {err : Int} (h : DdS w b rv rs p err) (n : Nat) : DdS (w.drewN n) b rv rs p err :=
  h.touch (F := fun _ => False) ((Touch.refl _ _).drewN n) (fun h => h) (fun _ _ h => h)
theorem DdS.setPos {w : World} {b p : Nat} {rv : Value} {rs : List Int} {err : Int} (h : DdS w b rv rs p err) (q : Nat) (hq : q ≤ rs.length) : DdS (w.setCell ⟨b, 1, none⟩ (.int .i64 q)) b rv rs q err := by
  have t : Touch (fun k => k = b) w (w.setCell ⟨b, 1, none⟩ (.int .i64 q)) := Touch.setCell (F := fun k => k = b) (p := ⟨b, 1, none⟩) (Touch.refl _ w) (Or.inl rfl) _
  exact ⟨by simp [h.row, go_sem], by simp [h.pos, go_sem], by simp [h.err, go_sem], by simp [h.f1, go_sem], by simp [h.f2, go_sem], hq, h.rowAt.touch t (fun k hk e => h.ne (by rw [hk, e])), h.ne, h.byte, fun k hk => Nat.lt_of_lt_of_le (h.blk k hk) t.size⟩
theorem DdS.setErr {w : World} {b p : Nat} {rv : Value} {rs : List Int} {err : Int} (h : DdS w b rv rs p err) (q : Int) : DdS (w.setCell ⟨b, 2, none⟩ (.int .i64 q)) b rv rs p q := by
  have t : Touch (fun k => k = b) w (w.setCell ⟨b, 2, none⟩ (.int .i64 q)) := Touch.setCell (F := fun k => k = b) (p := ⟨b, 2, none⟩) (Touch.refl _ w) (Or.inl rfl) _
  exact ⟨by simp [h.row, go_sem], by simp [h.pos, go_sem], by simp [h.err, go_sem], by simp [h.f1, go_sem], by simp [h.f2, go_sem], h.ple, h.rowAt.touch t (fun k hk e => h.ne (by rw [hk, e])), h.ne, h.byte, fun k hk => Nat.lt_of_lt_of_le (h.blk k hk) t.size⟩

theorem dmay_all (b p : Nat) (n err : Int) (rv : Value) (rs : List Int) (w : World) (h : DdS w b rv rs p err) (hn : n ≤ 9223372036854775807) :
    Calls Tryd.prog 37 #[.pointer (some ⟨b, 0, none⟩), .int .i64 n] w fun e w' => e = .returned (.bool (stepR rs.length p err n).2.2) ∧
      DdS w' b rv rs p (stepR rs.length p err n).2.1 ∧ Touch (fun k => k = b) w w' ∧ w'.heap.size = w.heap.size := by
  obtain ⟨ra, rc, rfl, hm⟩ := rowAt_form h.rowAt
  unfold maxLen at hm
  have h0 := h.row
  have h1 := h.pos
  have h2 := h.err
  have hf := h.f2
  have hple := h.ple
  by_cases he : err = 0
  · subst he
    by_cases hn0 : n < 0
    · rw [stepR_arg _ _ _ hn0]
      go_enter Tryd.func37, Tryd.ntmps37
      go_wp2
      go_ret
      exact ⟨rfl, h.setErr 1, Touch.setCell (F := fun k => k = b) (p := ⟨b, 2, none⟩) (Touch.refl _ w) (Or.inl rfl) _, by simp [World.setCell]⟩
    · by_cases hs : (rs.length : Int) < p + n
      · rw [stepR_short _ _ _ hn0 hs]
        have hs' : (rs.length : Int) - p < n := by omega
        have HW : ∀ q, Hid (DdS (w.drewN q) b (.slice ra rs.length rc) rs p 0) := fun q => h.drewN q
        clear hs
        go_enter Tryd.func37, Tryd.ntmps37
        go_wp2
        go_quiet (fail)
        go_wp2
        go_ret
        exact ⟨rfl, (HW _).out.setErr 10, Touch.setCell (F := fun k => k = b) (p := ⟨b, 2, none⟩) ((Touch.refl _ w).drewN _) (Or.inl rfl) _, by simp [World.setCell, World.drewN]⟩
      · rw [stepR_ok _ _ _ hn0 hs]
        have hs' : ¬ (rs.length : Int) - p < n := by omega
        have HW : ∀ q, Hid (DdS (w.drewN q) b (.slice ra rs.length rc) rs p 0) := fun q => h.drewN q
        clear hs
        go_enter Tryd.func37, Tryd.ntmps37
        go_wp2
        go_quiet (fail)
        go_wp2
        go_ret
        exact ⟨rfl, (HW _).out, (Touch.refl _ w).drewN _, rfl⟩
  · rw [stepR_dead _ _ _ _ he]
    have he' : (err != 0) = true := by simpa using he
    go_enter Tryd.func37, Tryd.ntmps37
    go_wp2
    go_ret
    exact ⟨rfl, h, Touch.refl _ _, rfl⟩

theorem dleft_all (b p : Nat) (err : Int) (rv : Value) (rs : List Int) (w : World) (h : DdS w b rv rs p err) :
    Calls Tryd.prog 35 #[.pointer (some ⟨b, 0, none⟩)] w fun e w' => e = .returned (.int .i64 (if err = 0 then (rs.length : Int) - p else 0)) ∧ ∃ n, w' = w.drewN n := by
  obtain ⟨ra, rc, rfl, hm⟩ := rowAt_form h.rowAt
  unfold maxLen at hm
  have h0 := h.row
  have h1 := h.pos
  have h2 := h.err
  have hple := h.ple
  by_cases he : err = 0
  · subst he
    go_enter Tryd.func35, Tryd.ntmps35
    go_wp2
    go_quiet (fail)
    go_wp2
    go_ret
    exact ⟨by simp, _, rfl⟩
  · have he' : (err != 0) = true := by simpa using he
    go_enter Tryd.func35, Tryd.ntmps35
    go_wp2
    go_ret
    exact ⟨by simp, 0, rfl⟩
end Go.Proofs.YtcpagamkpmmgpaaDoor
