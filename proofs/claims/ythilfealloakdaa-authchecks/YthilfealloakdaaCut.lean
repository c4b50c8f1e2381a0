/- Contracts of the reader's cut and Number. -/
import Derived.Test.YthilfealloakdaaReader
namespace Go.Proofs.Ythilfealloakdaa
open Go.RowKit
set_option linter.unusedVariables false
set_option maxRecDepth 100000

theorem row_sub {w : World} {g off : Nat} {rs : List Int} (hc : ∀ j u, (bytesOf rs)[j]? = some u → w.cell? ⟨g, off + j, none⟩ = some u) (p m : Nat) (hm : p + m ≤ rs.length) (hcm : rs.length ≤ maxLen) :
    RowAt w (.slice (some ⟨g, off + p, none⟩) m m) ((rs.drop p).take m) := by
  have hl : ((rs.drop p).take m).length = m := by simp; omega
  refine Or.inr ⟨g, off + p, m, by rw [hl], by omega, by omega, ?_⟩
  intro j u hj
  have : (bytesOf rs)[p + j]? = some u := by
    simp only [bytesOf, List.map_take, List.map_drop, List.getElem?_take, List.getElem?_drop] at hj ⊢
    split at hj
    · exact hj
    · simp at hj
  have := hc _ _ this
  rwa [← Nat.add_assoc] at this

theorem row_none (w : World) (g off : Nat) : RowAt w (.slice (some ⟨g, off, none⟩) 0 0) [] :=
  Or.inr ⟨g, off, 0, by simp, by simp, by simp [maxLen], by intro j u hj; simp [bytesOf] at hj⟩

theorem cut_ok (b p m : Nat) (rv : Value) (rs : List Int) (w : World) (h : RdS w b rv rs p 0) (hm : p + m ≤ rs.length) :
    Calls Try.prog 81 #[.pointer (some ⟨b, 0, none⟩), .int .i64 m] w fun e w' => ∃ sv, e = .returned sv ∧ RowAt w' sv ((rs.drop p).take m) ∧ (sv.ownBlock = none ∨ sv.ownBlock = rv.ownBlock) ∧
      RdS w' b rv rs (p + m) 0 ∧ Touch (fun k => k = b) w w' ∧ w'.heap.size = w.heap.size := by
  have h0 := h.made
  have h1 := h.row
  have h2 := h.pos
  have h3 := h.err
  have hf2 := h.f2
  have hlt := lt_of_cell h0
  have HW : ∀ n, RdS (w.drewN n) b rv rs p 0 := fun n => h.drewN n
  rcases h.rowAt with ⟨rfl, rfl⟩ | ⟨g, off, c, rfl, hlc, hcm, hcells⟩
  · obtain rfl : p = 0 := by simpa using h.ple
    obtain rfl : m = 0 := by simpa using hm
    go_enter Try.func81, Try.ntmps81
    go_wp2_with (first | (go_at_call 95; refine (left_ok _ 0 _ [] _ h).mono ?_; rintro e w' ⟨rfl, nl, rfl⟩) | (go_at_call 94; refine (rwhole_any _ 0 _ (HW _).made (HW _).err).mono ?_; rintro e w' ⟨rfl, rfl⟩))
    go_quiet (fail)
    have HB : Hid (RdS ((w.drewN nl).setCell ⟨b, 2, none⟩ (.int .i64 ((0 : Nat) : Int))) b (.slice none 0 0) [] 0 0) := (h.drewN nl).setPos 0 (by simp)
    have HT : Hid (Touch (fun k => k = b) w ((w.drewN nl).setCell ⟨b, 2, none⟩ (.int .i64 ((0 : Nat) : Int)))) := Touch.setCell (F := fun k => k = b) (p := ⟨b, 2, none⟩) ((Touch.refl _ w).drewN nl) (Or.inl rfl) _
    clear h0 h1 h2 h3 hf2 HW h
    go_wp2
    go_ret
    exact ⟨_, rfl, Or.inl ⟨rfl, rfl⟩, Or.inl rfl, HB.out.drewN _, HT.out.drewN _, by simp [World.setCell, World.drewN]⟩
  · unfold maxLen at hcm
    by_cases hm0 : m = 0
    · subst hm0
      go_enter Try.func81, Try.ntmps81
      go_wp2_with (first | (go_at_call 95; refine (left_ok _ p _ rs _ h).mono ?_; rintro e w' ⟨rfl, nl, rfl⟩) | (go_at_call 94; refine (rwhole_any _ 0 _ (HW _).made (HW _).err).mono ?_; rintro e w' ⟨rfl, rfl⟩))
      go_quiet (fail)
      have HB : Hid (RdS ((w.drewN nl).setCell ⟨b, 2, none⟩ (.int .i64 ((p : Nat) : Int))) b (.slice (some ⟨g, off, none⟩) rs.length c) rs p 0) := (h.drewN nl).setPos p hm
      have HT : Hid (Touch (fun k => k = b) w ((w.drewN nl).setCell ⟨b, 2, none⟩ (.int .i64 ((p : Nat) : Int)))) := Touch.setCell (F := fun k => k = b) (p := ⟨b, 2, none⟩) ((Touch.refl _ w).drewN nl) (Or.inl rfl) _
      clear h0 h1 h2 h3 hf2 HW h
      go_wp2
      go_ret
      exact ⟨.slice (some ⟨g, off, none⟩) 0 0, rfl, row_none _ _ _, Or.inr rfl, HB.out.drewN _, HT.out.drewN _, by simp [World.setCell, World.drewN]⟩
    · have hpm : ¬ p + m = p := by omega
      have hpp : p + m - p = m := by omega
      go_enter Try.func81, Try.ntmps81
      go_wp2_with (first | (go_at_call 95; refine (left_ok _ p _ rs _ h).mono ?_; rintro e w' ⟨rfl, nl, rfl⟩) | (go_at_call 94; refine (rwhole_any _ 0 _ (HW _).made (HW _).err).mono ?_; rintro e w' ⟨rfl, rfl⟩))
      go_quiet (fail)
      have HB : Hid (RdS ((w.drewN nl).setCell ⟨b, 2, none⟩ (.int .i64 ((p : Int) + (m : Int)))) b (.slice (some ⟨g, off, none⟩) rs.length c) rs (p + m) 0) := (h.drewN nl).setPos (p + m) hm
      have HT : Hid (Touch (fun k => k = b) w ((w.drewN nl).setCell ⟨b, 2, none⟩ (.int .i64 ((p : Int) + (m : Int))))) := Touch.setCell (F := fun k => k = b) (p := ⟨b, 2, none⟩) ((Touch.refl _ w).drewN nl) (Or.inl rfl) _
      clear h0 h1 h2 h3 hf2 HW h
      go_wp2
      go_ret
      refine ⟨.slice (some ⟨g, off + p, none⟩) (p + m - p) (p + m - p), rfl, ?_, Or.inr rfl, HB.out.drewN _, HT.out.drewN _, by simp [World.setCell, World.drewN]⟩
      rw [hpp]
      refine row_sub (fun j u hj => ?_) p m hm (by unfold maxLen; omega)
      exact ((HT.out.drewN _).cell (p := ⟨g, off + j, none⟩) (lt_of_cell (hcells j u hj)) (by have := HB.out.ne; simpa [Value.ownBlock] using this)).trans (hcells j u hj)

/-- Where fewer bytes are left: no bytes, and the reader is short from then on. -/
theorem cut_short (b p : Nat) (m : Int) (rv : Value) (rs : List Int) (w : World) (h : RdS w b rv rs p 0) (hm : (rs.length : Int) < p + m) (hmm : m ≤ 9223372036854775807) :
    Calls Try.prog 81 #[.pointer (some ⟨b, 0, none⟩), .int .i64 m] w fun e w' => e = .returned (.slice none 0 0) ∧ RdS w' b rv rs p 10 ∧ Touch (fun k => k = b) w w' ∧ w'.heap.size = w.heap.size := by
  have hple := h.ple
  have hm1 : (rs.length : Int) - p < m := by omega
  have hm2 : ¬ m < 0 := by omega
  have HW : ∀ n, RdS (w.drewN n) b rv rs p 0 := fun n => h.drewN n
  have hlt := lt_of_cell h.made
  clear hm
  go_enter Try.func81, Try.ntmps81
  go_wp2_with (first | (go_at_call 95; refine (left_ok _ p _ rs _ h).mono ?_; rintro e w' ⟨rfl, nl, rfl⟩) | (go_at_call 80; refine (refuse_ok _ 10 _ (HW _).made (HW _).err (HW _).f3).mono ?_; rintro e w' ⟨rfl, rfl⟩) | (go_at_call 94; refine (rwhole_any _ 10 _ ((HW _).setErr 10).made ((HW _).setErr 10).err).mono ?_; rintro e w' ⟨rfl, rfl⟩))
  go_ret
  exact ⟨rfl, (HW _).setErr 10, Touch.setCell (F := fun k => k = b) (p := ⟨b, 3, none⟩) ((Touch.refl _ w).drewN _) (Or.inl rfl) _, by simp [World.setCell, World.drewN]⟩
end Go.Proofs.Ythilfealloakdaa
