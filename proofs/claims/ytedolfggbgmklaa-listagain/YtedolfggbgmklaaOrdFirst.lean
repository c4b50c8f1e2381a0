
/- Contracts: the first answer that is not nought (a closure handed to slices.IndexFunc). -/
import Derived.Test.YtedolfggbgmklaaOrdAges
import Derived.Deep.LoopGhost
namespace Go.Proofs.Ytedolfggbgmklaa
open Go.RowKit
set_option linter.unusedVariables false
set_option maxRecDepth 100000

theorem isnt_any (x : Int) (w : World) : Calls Try.prog 52 #[.int .i64 x] w fun e w' => e = .returned (.bool (!(x == 0))) ∧ w = w' := by
  go_enter Try.func52, Try.ntmps52
  go_wp2
  go_ret
  exact ⟨rfl, rfl⟩

theorem idx_hit (xs : List Int) (g c k : Nat) (w : World) (hx : ∀ j x, xs[j]? = some x → w.cell? ⟨g, j, none⟩ = some (.int .i64 x)) (hk : k < xs.length) (hs : xs.length < 1000)
    (hz : ∀ j, j < k → xs[j]? = some 0) (y : Int) (hy : xs[k]? = some y) (hy0 : y ≠ 0) :
    Calls Try.prog 51 #[.slice (some ⟨g, 0, none⟩) xs.length c, .func (.func 52) #[] #[]] w fun e w' => e = .returned (.int .i64 k) ∧ w = w' := by
  have HN := hx
  generalize hn : xs.length = n at hk hs ⊢
  have HZ : Hid (∀ j, j < k → w.cell? ⟨g, j, none⟩ = some (.int .i64 0)) := fun j hj => HN j 0 (hz j hj)
  have HY : Hid (w.cell? ⟨g, k, none⟩ = some (.int .i64 y)) := HN k y hy
  have HP : ∀ x w, Calls Try.prog 52 #[.int .i64 x] w fun e w' => e = .returned (.bool (!(x == 0))) ∧ w = w' := isnt_any
  clear HN hn hx hz hy
  go_enter Try.func51, Try.ntmps51
  go_wp2
  go_loopg [5, 8] n (fun gg _ s8 wr => ∃ kk : Nat, kk ≤ k ∧ n - kk ≤ gg ∧ s8 = .int .i64 kk ∧ wr = w)
  case atStart => exact ⟨0, Nat.zero_le _, by omega, rfl, rfl⟩
  case round =>
    obtain ⟨kk, hkk, hg, rfl, rfl⟩ := hrel
    have hlt : (kk : Int) < (n : Int) := by omega
    rcases Nat.lt_or_ge kk k with h | h
    · have hc := HZ.out kk h
      go_wp2_with (go_at_call 52; refine (HP 0 _).mono ?_; rintro e w' ⟨rfl, rfl⟩)
      go_roundg (n - (kk + 1))
      case measure => omega
      case rel => exact ⟨kk + 1, by omega, by omega, by go_num, rfl⟩
    · obtain rfl : kk = k := by omega
      have hc := HY.out
      have hb : (y == 0) = false := beq_eq_false_iff_ne.mpr hy0
      go_wp2_with (go_at_call 52; refine (HP y _).mono ?_; rintro e w' ⟨rfl, rfl⟩)
      go_ret
      exact ⟨rfl, rfl⟩

theorem idx_miss (xs : List Int) (g c : Nat) (w : World) (hx : ∀ j x, xs[j]? = some x → w.cell? ⟨g, j, none⟩ = some (.int .i64 x)) (hs : xs.length < 1000)
    (hz : ∀ j, j < xs.length → xs[j]? = some 0) :
    Calls Try.prog 51 #[.slice (some ⟨g, 0, none⟩) xs.length c, .func (.func 52) #[] #[]] w fun e w' => e = .returned (.int .i64 (-1)) ∧ w = w' := by
  have HN := hx
  generalize hn : xs.length = n at hs hz ⊢
  have HZ : Hid (∀ j, j < n → w.cell? ⟨g, j, none⟩ = some (.int .i64 0)) := fun j hj => HN j 0 (hz j hj)
  have HP : ∀ x w, Calls Try.prog 52 #[.int .i64 x] w fun e w' => e = .returned (.bool (!(x == 0))) ∧ w = w' := isnt_any
  clear HN hn hx hz
  go_enter Try.func51, Try.ntmps51
  go_wp2
  go_loopg [5, 8] n (fun gg _ s8 wr => ∃ kk : Nat, kk ≤ n ∧ n - kk ≤ gg ∧ s8 = .int .i64 kk ∧ wr = w)
  case atStart => exact ⟨0, Nat.zero_le _, by omega, rfl, rfl⟩
  case round =>
    obtain ⟨kk, hkk, hg, rfl, rfl⟩ := hrel
    rcases Nat.lt_or_ge kk n with h | h
    · have hlt : (kk : Int) < (n : Int) := by omega
      have hc := HZ.out kk h
      go_wp2_with (go_at_call 52; refine (HP 0 _).mono ?_; rintro e w' ⟨rfl, rfl⟩)
      go_roundg (n - (kk + 1))
      case measure => omega
      case rel => exact ⟨kk + 1, by omega, by omega, by go_num, rfl⟩
    · have hlt : ¬ (kk : Int) < (n : Int) := by omega
      go_wp2
      go_ret
      exact ⟨rfl, rfl⟩

/-- The first of a list that is not nought. -/
def firstI : List Int → Int
  | [] => 0
  | x :: r => fstI x (firstI r)
theorem firstI_cases : ∀ xs : List Int, (firstI xs = 0 ∧ ∀ j, j < xs.length → xs[j]? = some 0) ∨ ∃ k, k < xs.length ∧ (∀ j, j < k → xs[j]? = some 0) ∧ xs[k]? = some (firstI xs) ∧ firstI xs ≠ 0
  | [] => Or.inl ⟨rfl, fun j h => by cases h⟩
  | x :: r => by
    by_cases hx : x = 0
    · subst hx
      have e : firstI (0 :: r) = firstI r := fstI_zero _
      rw [e]
      rcases firstI_cases r with ⟨h1, h2⟩ | ⟨k, h1, h2, h3, h4⟩
      · refine Or.inl ⟨h1, fun j hj => ?_⟩
        cases j with
        | zero => rfl
        | succ j => exact h2 j (by simpa using hj)
      · refine Or.inr ⟨k + 1, by simpa using h1, fun j hj => ?_, h3, h4⟩
        cases j with
        | zero => rfl
        | succ j => exact h2 j (by omega)
    · have e : firstI (x :: r) = x := fstI_ne _ hx
      rw [e]
      exact Or.inr ⟨0, by simp, fun j hj => by omega, rfl, hx⟩

theorem first_any (xs : List Int) (g c : Nat) (w : World) (hx : ∀ j x, xs[j]? = some x → w.cell? ⟨g, j, none⟩ = some (.int .i64 x)) (hs : xs.length < 1000) :
    Calls Try.prog 44 #[.slice (some ⟨g, 0, none⟩) xs.length c] w fun e w' => e = .returned (.int .i64 (firstI xs)) ∧ w = w' := by
  rcases firstI_cases xs with ⟨h1, h2⟩ | ⟨k, h1, h2, h3, h4⟩
  · rw [h1]
    have HI := idx_miss xs g c w hx hs h2
    clear h1 h2 hx
    generalize xs.length = n at HI ⊢
    go_enter Try.func44, Try.ntmps44
    go_wp2_with fail
    refine HI.mono ?_
    rintro e w1 ⟨rfl, rfl⟩
    go_wp2
    go_ret
    exact ⟨rfl, rfl⟩
  · have HI := idx_hit xs g c k w hx h1 hs h2 _ h3 h4
    have hc := hx k _ h3
    generalize firstI xs = z at h3 h4 hc ⊢
    clear h2 h3 h4 hx
    generalize xs.length = n at HI h1 hs ⊢
    have hk : ¬ (k : Int) < 0 := by omega
    go_enter Try.func44, Try.ntmps44
    go_wp2_with fail
    refine HI.mono ?_
    rintro e w1 ⟨rfl, rfl⟩
    go_wp2
    go_ret
    exact ⟨rfl, rfl⟩
end Go.Proofs.Ytedolfggbgmklaa
