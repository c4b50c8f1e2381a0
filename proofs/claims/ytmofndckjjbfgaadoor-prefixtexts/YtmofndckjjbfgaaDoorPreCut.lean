/- strings.Cut at one byte; the code's closure that takes a number up to the next point. -/
import Derived.Test.YtmofndckjjbfgaaDoorPreTens
import Derived.Test.YtmofndckjjbfgaaDoorPreReadMath
import Derived.Deep.RegionHeld3
namespace Go.Proofs.YtmofndckjjbfgaaDoor
open Go.RowKit Go.Sort Go.Lib
set_option linter.unusedVariables false
set_option maxRecDepth 100000

theorem ba_eq (s : ByteArray) : s = ⟨s.data.toList.toArray⟩ := by cases s; simp

set_option maxHeartbeats 400000 in
theorem cut_any (l : List UInt8) (c : UInt8) (w : World) (hl : l.length ≤ 4611686018427387904) :
    Calls Tryd.prog 53 #[.string ⟨l.toArray⟩, .string ⟨#[c]⟩] w fun e w' => e = .returned (.tuple #[.string ⟨(cutL c l).1.toArray⟩, .string ⟨(cutL c l).2.1.toArray⟩, .bool (cutL c l).2.2]) ∧ Gr w w' := by
  have hge := Lib.indexByte_ge l c
  have hI := Tryd.stringslite_Index_one ⟨l.toArray⟩ c
  simp only [] at hI
  rcases Int.lt_or_le (Lib.indexByte l c) 0 with hn | hp
  · have e : Lib.indexByte l c = -1 := by omega
    have hc := cutL_miss (Lib.indexByte_none e)
    rw [hc]
    clear hge hn
    go_enter Tryd.func53, Tryd.ntmps53
    go_wp2_with (go_at_call 56; refine (Tryd.stringslite_Index_one _ c _).mono ?_; rintro e w' ⟨rfl, rfl⟩; simp only []; rw [show Lib.indexByte l c = -1 from e])
    go_ret3
    exact ⟨rfl, Gr.refl _⟩
  · obtain ⟨o, ho⟩ : ∃ o : Nat, Lib.indexByte l c = o := ⟨(Lib.indexByte l c).toNat, by omega⟩
    obtain ⟨h1, h2⟩ := Lib.indexByte_some ho
    have hc := cutL_hit h1 h2
    have hlt : o < l.length := by
      rcases Nat.lt_or_ge o l.length with h | h
      · exact h
      · rw [List.getElem?_eq_none h] at h1; cases h1
    rw [hc]
    have c1 : (0 : Int) ≤ (o : Int) := by omega
    have c2 : (o : Int) ≤ (l.length : Int) := by omega
    have c3 : (0 : Int) ≤ (o : Int) + 1 := by omega
    have c4 : (o : Int) + 1 ≤ (l.length : Int) := by omega
    have c5 : (o : Int) < 4611686018427387904 := by omega
    clear hge hp h1 h2 hc hI
    go_enter Tryd.func53, Tryd.ntmps53
    go_wp2_with (go_at_call 56; refine (Tryd.stringslite_Index_one _ c _).mono ?_; rintro e w' ⟨rfl, rfl⟩; simp only []; rw [show Lib.indexByte l c = o from ho])
    clear ho
    go_quiet (fail)
    go_wp2
    go_ret3
    refine ⟨?_, (Gr.refl _).drewN _⟩
    rw [Lib.extract_eq, Lib.extract_eq]
    simp [List.take_of_length_le]

set_option maxHeartbeats 400000 in
theorem stringsCut_any (l : List UInt8) (c : UInt8) (w : World) (hl : l.length ≤ 4611686018427387904) :
    Calls Tryd.prog 47 #[.string ⟨l.toArray⟩, .string ⟨#[c]⟩] w fun e w' => e = .returned (.tuple #[.string ⟨(cutL c l).1.toArray⟩, .string ⟨(cutL c l).2.1.toArray⟩, .bool (cutL c l).2.2]) ∧ Gr w w' := by
  go_enter Tryd.func47, Tryd.ntmps47
  go_wp2_with (go_at_call 53; refine (cut_any l c _ hl).mono ?_; rintro e w' ⟨rfl, hg⟩)
  go_ret3
  exact ⟨rfl, hg⟩

/-- The closure: it takes what is up to the next point, and keeps the rest. Beside the variable that it holds nothing turns. -/
theorem take_any (l : List UInt8) (b : Nat) (w : World) (hl : l.length ≤ 4611686018427387904) (hb : w.cell? ⟨b, 0, none⟩ = some (.string ⟨l.toArray⟩)) (hf : w.frozen? ⟨b, 0, none⟩ = false) :
    Calls Tryd.prog 52 #[.pointer (some ⟨b, 0, none⟩)] w fun e w' => e = .returned (.tuple #[.string ⟨(cutL 46 l).1.toArray⟩, .bool (cutL 46 l).2.2]) ∧ ∃ w1, Gr w w1 ∧ w' = w1.setCell ⟨b, 0, none⟩ (.string ⟨(cutL 46 l).2.1.toArray⟩) := by
  have hlt : b < w.heap.size := by
    rcases Nat.lt_or_ge b w.heap.size with h' | h'
    · exact h'
    · simp [World.cell?, Array.getElem?_eq_none h'] at hb
  go_enter Tryd.func52, Tryd.ntmps52
  go_wp2_with (go_at_call 47; refine (stringsCut_any l 46 _ hl).mono ?_; rintro e w1 ⟨rfl, hg⟩; obtain ⟨hc, hfz⟩ := hg.cells)
  go_ret2
  exact ⟨rfl, _, hg, rfl⟩

end Go.Proofs.YtmofndckjjbfgaaDoor
