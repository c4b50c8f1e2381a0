/- Bits of small numbers: the lower sixteen, the lower eight, two bytes put together. -/
import Derived.Test.YthilfealloakdaaSumMath
import Derived.Laws.BitsAllLaws
import Derived.Test.YthilfealloakdaaEqB
import Derived.Deep.LoopGhost
namespace Go.Proofs.Ythilfealloakdaa
open Go.RowKit
set_option linter.unusedVariables false

theorem and16 {n : Int} (h0 : 0 ≤ n) (h : n < 4294967296) : bits .and .u32 n 65535 = n % 65536 := by
  rw [u32_and n _ h0 h (by omega) (by omega), show (65535 : Int).toNat = 2 ^ 16 - 1 from rfl, Nat.and_two_pow_sub_one_eq_mod]
  omega
theorem and8 {n : Int} (h0 : 0 ≤ n) (h : n < 4294967296) : bits .and .u32 n 255 = n % 256 := by
  rw [u32_and n _ h0 h (by omega) (by omega), show (255 : Int).toNat = 2 ^ 8 - 1 from rfl, Nat.and_two_pow_sub_one_eq_mod]
  omega
theorem and8s {n : Int} (h0 : 0 ≤ n) (h : n < 65536) : bits .and .u16 n 255 = n % 256 := by
  rw [u16_and n _ h0 h (by omega) (by omega), show (255 : Int).toNat = 2 ^ 8 - 1 from rfl, Nat.and_two_pow_sub_one_eq_mod]
  omega
theorem or8 {x y : Int} (hx0 : 0 ≤ x) (hx : x < 65536) (hy0 : 0 ≤ y) (hy : y < 256) : bits .or .u32 (x * 256) y = x * 256 + y := by
  rw [u32_or _ _ (by omega) (by omega) hy0 (by omega)]
  obtain ⟨X, rfl⟩ : ∃ X : Nat, x = X := ⟨x.toNat, by omega⟩
  obtain ⟨Y, rfl⟩ : ∃ Y : Nat, y = Y := ⟨y.toNat, by omega⟩
  have e : ((X : Int) * 256).toNat = X <<< 8 := by rw [Nat.shiftLeft_eq]; omega
  rw [e, Int.toNat_natCast, ← Nat.shiftLeft_add_eq_or_of_lt (by omega : Y < 2 ^ 8), Nat.shiftLeft_eq]
  omega
end Go.Proofs.Ythilfealloakdaa

namespace Go.Proofs.Ythilfealloakdaa
open Go.RowKit
set_option linter.unusedVariables false
set_option maxRecDepth 100000

/-- Two numbers of 32 bits lie in block b. -/
structure Two (w : World) (b : Nat) (x y : Int) : Prop where
  c0 : w.cell? ⟨b, 0, none⟩ = some (.int .u32 x)
  c1 : w.cell? ⟨b, 1, none⟩ = some (.int .u32 y)
  f0 : w.frozen? ⟨b, 0, none⟩ = false
  f1 : w.frozen? ⟨b, 1, none⟩ = false
theorem Two.lt {w : World} {b : Nat} {x y : Int} (h : Two w b x y) : b < w.heap.size := lt_of_cell h.c0
theorem Two.keep {w w' : World} {b : Nat} {x y : Int} (h : Two w b x y) (t : Touch (fun _ => False) w w') : Two w' b x y :=
  ⟨t.cellN h.c0, t.cellN h.c1, (t.frozen h.lt (fun h => h)).trans h.f0, (t.frozen h.lt (fun h => h)).trans h.f1⟩
theorem Two.drew {w : World} {b : Nat} {x y : Int} (h : Two w b x y) : Two w.drew b x y := h.keep ((Touch.refl _ _).drew)
theorem Two.set0 {w : World} {b : Nat} {x y : Int} (h : Two w b x y) (z : Int) : Two (w.setCell ⟨b, 0, none⟩ (.int .u32 z)) b z y := by
  obtain ⟨h0, h1, h2, h3⟩ := h
  exact ⟨by simp [h0, go_sem], by simp [h1, go_sem], by simp [h2, go_sem], by simp [h3, go_sem]⟩
theorem Two.set1 {w : World} {b : Nat} {x y : Int} (h : Two w b x y) (z : Int) : Two (w.setCell ⟨b, 1, none⟩ (.int .u32 z)) b x z := by
  obtain ⟨h0, h1, h2, h3⟩ := h
  exact ⟨by simp [h0, go_sem], by simp [h1, go_sem], by simp [h2, go_sem], by simp [h3, go_sem]⟩
theorem Touch.new {w0 w : World} (t : Touch (fun _ => False) w0 w) {p : Addr} (h : w0.heap.size ≤ p.block) (u : Value) : Touch (fun _ => False) w0 (w.setCell p u) := t.setCell (Or.inr h) u

theorem rowAt_cap {w : World} {g off c : Nat} {rs : List Int} (h : RowAt w (.slice (some ⟨g, off, none⟩) rs.length c) rs) : rs.length ≤ c := by
  rcases h with ⟨h, _⟩ | ⟨g', off', c', h, h1, _⟩
  · cases h
  · cases h; exact h1
theorem rowAt_drop {w : World} {g off c : Nat} {rs : List Int} (h : RowAt w (.slice (some ⟨g, off, none⟩) rs.length c) rs) (n : Nat) (hn : n ≤ rs.length) : RowAt w (.slice (some ⟨g, off + n, none⟩) (rs.length - n) (c - n)) (rs.drop n) := by
  rcases h with ⟨h, _⟩ | ⟨g', off', c', h, h1, h2, h3⟩
  · cases h
  · cases h
    refine Or.inr ⟨g, off + n, c - n, by simp, by simp; omega, by omega, fun j u hj => ?_⟩
    rw [Nat.add_assoc]
    refine h3 (n + j) u ?_
    simpa [bytesOf, List.getElem?_drop] using hj
theorem rowAt_take {w : World} {g off c : Nat} {rs : List Int} (h : RowAt w (.slice (some ⟨g, off, none⟩) rs.length c) rs) (n : Nat) (hn : n ≤ rs.length) : RowAt w (.slice (some ⟨g, off, none⟩) n c) (rs.take n) := by
  rcases h with ⟨h, _⟩ | ⟨g', off', c', h, h1, h2, h3⟩
  · cases h
  · cases h
    refine Or.inr ⟨g, off, c, by simp; omega, by simp; omega, by omega, fun j u hj => ?_⟩
    refine h3 j u ?_
    simp only [bytesOf, List.getElem?_map, List.getElem?_take] at hj ⊢
    split at hj
    · exact hj
    · simp at hj
end Go.Proofs.Ythilfealloakdaa

namespace Go.Proofs.Ythilfealloakdaa
open Go.RowKit
set_option linter.unusedVariables false
set_option maxRecDepth 100000

def FoldR (F : Int) (f : Value) : Prop := ∃ n : Int, f = .int .u32 n ∧ 0 ≤ n ∧ n < 4294967296 ∧ Hid (fold n = F)
theorem folded_any (h k : Int) (w : World) (h0 : 0 ≤ h) (k0 : 0 ≤ k) (hb : 256 * h + k < 4294967296) :
    Calls Try.prog 84 #[.agg #[.int .u32 h, .int .u32 k]] w fun e w' => e = .returned (.int .u16 (fold (256 * h + k))) ∧ Touch (fun _ => False) w w' := by
  obtain ⟨F, hF⟩ : ∃ F, fold (256 * h + k) = F := ⟨_, rfl⟩
  have HF : Hid (fold (256 * h + k) = F) := hF
  rw [hF]
  clear hF
  go_enter Try.func84, Try.ntmps84
  go_wp2
  go_loop [3] (fun f => FoldR F f) (fun f => (intOf f).toNat)
  case atStart => exact ⟨_, rfl, by omega, by omega, by show _ = _; rw [← HF.out]; congr 1; omega⟩
  case round =>
    obtain ⟨n, rfl, hn0, hn1, HN⟩ := hrel
    have e1 := and16 hn0 hn1
    by_cases hlt : 65535 < n
    · have HS : Hid (fold (n / 65536 + n % 65536) = F) := by show _ = _; rw [← HN.out]; exact fold_step hlt
      go_wp2
      go_round
      case rel => exact ⟨_, rfl, by omega, by omega, HS⟩
      case measure => simp [intOf]; omega
    · have HS : Hid (n = F) := by show _ = _; rw [← HN.out]; exact (fold_small hn0 (by omega)).symm
      go_wp2
      go_ret
      rw [← HS.out]
      exact ⟨rfl, (Touch.refl _ w).alloc _⟩

theorem lower_any (w0 : World) (b : Nat) (h k : Int) (w : World) (hc : Two w b h k) (hb0 : w0.heap.size ≤ b) (t : Touch (fun _ => False) w0 w)
    (h0 : 0 ≤ h) (k0 : 0 ≤ k) (hb : 256 * h + k < 4294967296) :
    Calls Try.prog 97 #[.pointer (some ⟨b, 0, none⟩)] w fun e w' => e = .returned (.tuple #[]) ∧ Two w' b (fold (256 * h + k) / 256) (fold (256 * h + k) % 256) ∧ Touch (fun _ => False) w0 w' := by
  have hF := fold_bound (256 * h + k)
  have HC := fun w => folded_any h k w h0 k0 hb
  revert hF HC
  generalize fold (256 * h + k) = F
  intro hF HC
  obtain ⟨hF0, hF1⟩ := hF
  have e8 := and8 hF0 (by omega)
  obtain ⟨c0, c1, f0, f1⟩ := hc
  go_enter Try.func97, Try.ntmps97
  go_wp2_with fail
  refine (HC _).mono ?_
  rintro e w1 ⟨rfl, t1⟩
  have hc : Two w1 b h k := Two.keep ⟨c0, c1, f0, f1⟩ t1
  obtain ⟨d0, d1, g0, g1⟩ := hc
  clear HC c0 c1 f0 f1
  go_wp2_with fail
  go_region
  go_wp2
  go_end0
  exact ⟨rfl, (((Two.mk d0 d1 g0 g1).set0 _).set1 _).drew, (((t.trans t1).new (p := ⟨b, 0, none⟩) hb0 _).new (p := ⟨b, 1, none⟩) hb0 _).drew⟩
end Go.Proofs.Ythilfealloakdaa
