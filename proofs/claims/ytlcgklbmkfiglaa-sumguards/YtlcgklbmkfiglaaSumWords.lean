/- Contracts: folded, lower. -/
import Derived.Test.YtlcgklbmkfiglaaSumBits
import Derived.Test.YtlcgklbmkfiglaaArgB
import Derived.Deep.LoopGhost
namespace Go.Proofs.Ytlcgklbmkfiglaa
open Go.RowKit
set_option linter.unusedVariables false
set_option maxRecDepth 100000

def FoldR (F : Int) (f : Value) : Prop := ∃ n : Int, f = .int .u32 n ∧ 0 ≤ n ∧ n < 4294967296 ∧ Hid (fold n = F)
theorem folded_any (h k : Int) (w : World) (h0 : 0 ≤ h) (k0 : 0 ≤ k) (hb : 256 * h + k < 4294967296) :
    Calls Try.prog 26 #[.agg #[.int .u32 h, .int .u32 k]] w fun e w' => e = .returned (.int .u16 (fold (256 * h + k))) ∧ Touch (fun _ => False) w w' := by
  obtain ⟨F, hF⟩ : ∃ F, fold (256 * h + k) = F := ⟨_, rfl⟩
  have HF : Hid (fold (256 * h + k) = F) := hF
  rw [hF]
  clear hF
  go_enter Try.func26, Try.ntmps26
  go_wp2
  go_loop [3] (fun f => FoldR F f) (fun f => (intOf f).toNat)
  case atStart => exact ⟨_, rfl, by omega, by omega, by show _ = _; rw [← HF.out]; congr 1; omega⟩
  case round =>
    obtain ⟨n, rfl, hn0, hn1, HN⟩ := hrel
    have e1 := and16 hn0 hn1
    by_cases hlt : 65535 < n
    · have HS : Hid (fold (n / 65536 + n % 65536) = F) := by show _ = _; rw [← HN.out]; exact fold_step hlt
      go_wp2
      go_round
      case rel => exact ⟨_, rfl, by omega, by omega, HS⟩
      case measure => simp [intOf]; omega
    · have HS : Hid (n = F) := by show _ = _; rw [← HN.out]; exact (fold_small hn0 (by omega)).symm
      go_wp2
      go_ret
      rw [← HS.out]
      exact ⟨rfl, (Touch.refl _ w).alloc _⟩

/-- Two numbers of 32 bits lie in block b. -/
structure Two (w : World) (b : Nat) (x y : Int) : Prop where
  c0 : w.cell? ⟨b, 0, none⟩ = some (.int .u32 x)
  c1 : w.cell? ⟨b, 1, none⟩ = some (.int .u32 y)
  f0 : w.frozen? ⟨b, 0, none⟩ = false
  f1 : w.frozen? ⟨b, 1, none⟩ = false
theorem Two.lt {w : World} {b : Nat} {x y : Int} (h : Two w b x y) : b < w.heap.size := lt_of_cell h.c0
theorem Two.keep {w w' : World} {b : Nat} {x y : Int} (h : Two w b x y) (t : Touch (fun _ => False) w w') : Two w' b x y :=
  ⟨t.cellN h.c0, t.cellN h.c1, (t.frozen h.lt (fun h => h)).trans h.f0, (t.frozen h.lt (fun h => h)).trans h.f1⟩
theorem Two.drew {w : World} {b : Nat} {x y : Int} (h : Two w b x y) : Two w.drew b x y := h.keep ((Touch.refl _ _).drew)
theorem Two.set0 {w : World} {b : Nat} {x y : Int} (h : Two w b x y) (z : Int) : Two (w.setCell ⟨b, 0, none⟩ (.int .u32 z)) b z y := by
  obtain ⟨h0, h1, h2, h3⟩ := h
  exact ⟨by simp [h0, go_sem], by simp [h1, go_sem], by simp [h2, go_sem], by simp [h3, go_sem]⟩
theorem Two.set1 {w : World} {b : Nat} {x y : Int} (h : Two w b x y) (z : Int) : Two (w.setCell ⟨b, 1, none⟩ (.int .u32 z)) b x z := by
  obtain ⟨h0, h1, h2, h3⟩ := h
  exact ⟨by simp [h0, go_sem], by simp [h1, go_sem], by simp [h2, go_sem], by simp [h3, go_sem]⟩
theorem Touch.new {w0 w : World} (t : Touch (fun _ => False) w0 w) {p : Addr} (h : w0.heap.size ≤ p.block) (u : Value) : Touch (fun _ => False) w0 (w.setCell p u) := t.setCell (Or.inr h) u

theorem lower_any (w0 : World) (b : Nat) (h k : Int) (w : World) (hc : Two w b h k) (hb0 : w0.heap.size ≤ b) (t : Touch (fun _ => False) w0 w)
    (h0 : 0 ≤ h) (k0 : 0 ≤ k) (hb : 256 * h + k < 4294967296) :
    Calls Try.prog 27 #[.pointer (some ⟨b, 0, none⟩)] w fun e w' => e = .returned (.tuple #[]) ∧ Two w' b (fold (256 * h + k) / 256) (fold (256 * h + k) % 256) ∧ Touch (fun _ => False) w0 w' := by
  have hF := fold_bound (256 * h + k)
  have HC := fun w => folded_any h k w h0 k0 hb
  revert hF HC
  generalize fold (256 * h + k) = F
  intro hF HC
  obtain ⟨hF0, hF1⟩ := hF
  have e8 := and8 hF0 (by omega)
  obtain ⟨c0, c1, f0, f1⟩ := hc
  go_enter Try.func27, Try.ntmps27
  go_wp2_with fail
  refine (HC _).mono ?_
  rintro e w1 ⟨rfl, t1⟩
  have hc : Two w1 b h k := Two.keep ⟨c0, c1, f0, f1⟩ t1
  obtain ⟨d0, d1, g0, g1⟩ := hc
  clear HC c0 c1 f0 f1
  go_wp2_with fail
  go_region
  go_wp2
  go_end0
  exact ⟨rfl, (((Two.mk d0 d1 g0 g1).set0 _).set1 _).drew, (((t.trans t1).new (p := ⟨b, 0, none⟩) hb0 _).new (p := ⟨b, 1, none⟩) hb0 _).drew⟩
end Go.Proofs.Ytlcgklbmkfiglaa
