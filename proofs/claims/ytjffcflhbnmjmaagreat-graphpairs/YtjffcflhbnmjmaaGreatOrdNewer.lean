/- Worlds in which nothing of an older one has turned, for regions that draw their order. -/
import Derived.Test.YtjffcflhbnmjmaaGreatStRd
import Derived.Test.YtjffcflhbnmjmaaGreatRowB
import Derived.Deep.MidRow
import Derived.Deep.RegionHeld3
import Derived.Deep.DeepCutAuto
import Derived.Test.YtjffcflhbnmjmaaGreatStaMath
import Derived.Laws.BitsAllLaws
import Derived.Deep.LoopGhost
namespace Go.Proofs.YtjffcflhbnmjmaaGreat
open Go.RowKit
set_option linter.unusedVariables false
set_option maxRecDepth 100000

/-- Nothing of x has turned in w. -/
structure Since (x w : World) : Prop where
  t : Touch (fun _ => False) x w
theorem Since.trans {x w w' : World} (h : Since x w) (t : Touch (fun _ => False) w w') : Since x w' := ⟨h.t.trans t⟩
theorem Since.start (x : World) : Since x x.drew := ⟨(Touch.refl _ _).drew⟩
theorem since_cell {x : World} {p : Addr} {v : Value} (h : x.cell? p = some v) : ∀ w, Since x w → w.cell? p = some v := fun w s => s.t.cellN h
end Go.Proofs.YtjffcflhbnmjmaaGreat

namespace Go.Proofs.YtjffcflhbnmjmaaGreat
open Go.RowKit
set_option linter.unusedVariables false
set_option maxRecDepth 100000

theorem gr_touch {F : Nat → Prop} {w w' : World} {g : Nat} {T : TypeId} {xs : List Value} (h : Row w g T xs) (t : Touch F w w') (hg : ¬ F g) : Row w' g T xs := (t.block g h.lt hg).trans h
theorem gr_range {w : World} {g : Nat} {T : TypeId} {xs : List Value} (h : Row w g T xs) : w.rangeAt g 0 xs := fun j v hj => by
  rw [Nat.zero_add, h.cell j]
  exact hj
/-- A part of a row. -/
theorem gr_part {w : World} {g : Nat} {T : TypeId} {pre xs ys : List Value} (h : Row w g T (pre ++ (xs ++ ys))) : w.rangeAt g pre.length xs := fun j v hj => by
  rw [h.cell (pre.length + j), List.getElem?_append_right (by omega), Nat.add_sub_cancel_left]
  rw [List.getElem?_append_left (List.getElem?_eq_some_iff.1 hj).1]
  exact hj
theorem gr_pre {w : World} {g : Nat} {T : TypeId} {xs ys : List Value} (h : Row w g T (xs ++ ys)) : w.rangeAt g 0 xs := gr_part (pre := []) h
theorem gr_step {P : Program} {ops : Array Oper} {o : Oper} {a : Act} {w : World} {K : Act → World → Prop} {Q : Exit → Act → World → Prop} {E : Prop} (hgd : o.guard = none) (ty : TypeId) (x y : Operand) (ho : o.op = .store ty x y)
    (g : Nat) (cells : List Value) (hx : a.eval x = .pointer (some ⟨g, 0, none⟩)) (hy : a.eval y = .agg cells.toArray) (T : TypeId) (old : List Value) (hg : Row w g T old) (hi : (P.info? ty).map (·.size) = some cells.length) (hold : old.length = cells.length) (h1 : ∀ v ∈ cells, v.oneCell' = true)
    (h : K (a.put o.dst undef) (w.setRow g cells.toArray)) : if Region.wanted o (yielded ops a.tmps) = true then Oper.wp P o a w K Q else E := by
  have hw : Region.wanted o (yielded ops a.tmps) = true := by simp [Region.wanted, hgd]
  rw [if_pos hw]
  exact wp_store_row ty x y ho g cells.toArray hx hy T old.toArray hg (by rw [hi]; simp) (by simpa using hold) (all_oneCell h1) h
theorem gr_setRow {w : World} {g : Nat} {T : TypeId} {old : List Value} (h : Row w g T old) (cs : List Value) : Row (w.setRow g cs.toArray) g T cs := h.setRow cs.toArray
end Go.Proofs.YtjffcflhbnmjmaaGreat

namespace Go.Proofs.YtjffcflhbnmjmaaGreat
open Go.RowKit
set_option linter.unusedVariables false
set_option maxRecDepth 100000


def cmpI (x y : Int) : Int := if x < y then -1 else if y < x then 1 else 0
theorem cmpI_lt {x y : Int} (h : x < y) : cmpI x y = -1 := if_pos h
theorem cmpI_gt {x y : Int} (h : y < x) : cmpI x y = 1 := by unfold cmpI; rw [if_neg (by omega), if_pos h]
theorem cmpI_eq (x : Int) : cmpI x x = 0 := by unfold cmpI; rw [if_neg (by omega), if_neg (by omega)]
/-- The years of an age. -/
def yrs (a : Int) : Int := if a % 32768 < 3600 then a % 32768 else 3600
/-- The first that is not nought. -/
def fstI (x y : Int) : Int := if x ≠ 0 then x else y
theorem fstI_ne {x : Int} (y : Int) (h : x ≠ 0) : fstI x y = x := if_pos h
theorem fstI_zero (y : Int) : fstI 0 y = y := if_neg (by omega)

/-- Keys: by the kind, then the ID, then who says it. -/
def keyI (t i a t' i' a' : Int) : Int := fstI (cmpI t t') (fstI (cmpI i i') (cmpI a a'))
end Go.Proofs.YtjffcflhbnmjmaaGreat

namespace Go.Proofs.YtjffcflhbnmjmaaGreat
open Go.RowKit
set_option linter.unusedVariables false
set_option maxRecDepth 100000

theorem and15 {n : Int} (h0 : 0 ≤ n) (h : n < 65536) : bits .andNot .u16 n 32768 = n % 32768 := by
  rw [u16_andNot n _ h0 h (by omega) (by omega), show 65535 - (32768 : Int).toNat = 2 ^ 15 - 1 from rfl, Nat.and_two_pow_sub_one_eq_mod]
  omega
set_option maxHeartbeats 400000 in
theorem cmp8_any (x y : Int) (w : World) : Calls Tryz.prog 108 #[.int .u8 x, .int .u8 y] w fun e w' => e = .returned (.int .i64 (cmpI x y)) ∧ w = w' := by
  rcases Int.lt_trichotomy x y with h | h | h
  · have H : Hid _ := cmpI_lt h
    go_enter Tryz.func108, Tryz.ntmps108
    go_wp2
    go_ret
    exact ⟨ret_int H.out.symm, rfl⟩
  · subst h
    have H : Hid _ := cmpI_eq x
    have h1 : ¬ x < x := by omega
    go_enter Tryz.func108, Tryz.ntmps108
    go_wp2
    go_ret
    exact ⟨ret_int H.out.symm, rfl⟩
  · have H : Hid _ := cmpI_gt h
    have h1 : ¬ x < y := by omega
    go_enter Tryz.func108, Tryz.ntmps108
    go_wp2
    go_ret
    exact ⟨ret_int H.out.symm, rfl⟩

set_option maxHeartbeats 400000 in
theorem cmp32_any (x y : Int) (w : World) : Calls Tryz.prog 109 #[.int .u32 x, .int .u32 y] w fun e w' => e = .returned (.int .i64 (cmpI x y)) ∧ w = w' := by
  rcases Int.lt_trichotomy x y with h | h | h
  · have H : Hid _ := cmpI_lt h
    go_enter Tryz.func109, Tryz.ntmps109
    go_wp2
    go_ret
    exact ⟨ret_int H.out.symm, rfl⟩
  · subst h
    have H : Hid _ := cmpI_eq x
    have h1 : ¬ x < x := by omega
    go_enter Tryz.func109, Tryz.ntmps109
    go_wp2
    go_ret
    exact ⟨ret_int H.out.symm, rfl⟩
  · have H : Hid _ := cmpI_gt h
    have h1 : ¬ x < y := by omega
    go_enter Tryz.func109, Tryz.ntmps109
    go_wp2
    go_ret
    exact ⟨ret_int H.out.symm, rfl⟩

theorem years_any (a : Int) (h0 : 0 ≤ a) (h : a < 65536) (w : World) : Calls Tryz.prog 71 #[.int .u16 a] w fun e w' => e = .returned (.int .u16 (yrs a)) ∧ w = w' := by
  have e1 := and15 h0 h
  have e2 : Hid (yrs a = if a % 32768 < 3600 then a % 32768 else 3600) := rfl
  have hb : 0 ≤ a % 32768 ∧ a % 32768 < 32768 := by omega
  generalize yrs a = y at e2 ⊢
  generalize a % 32768 = m at e1 e2 hb
  obtain ⟨hb0, hb1⟩ := hb
  by_cases hm : m ≤ 3600
  · have H : Hid (y = m) := by show _ = _; have := e2.out; split at this <;> omega
    clear e2
    go_enter Tryz.func71, Tryz.ntmps71
    go_wp2
    go_ret
    exact ⟨ret_int (by have := H.out; omega), rfl⟩
  · have H : Hid (y = 3600) := by show _ = _; have := e2.out; split at this <;> omega
    clear e2
    go_enter Tryz.func71, Tryz.ntmps71
    go_wp2
    go_ret
    exact ⟨ret_int (by have := H.out; omega), rfl⟩
end Go.Proofs.YtjffcflhbnmjmaaGreat

namespace Go.Proofs.YtjffcflhbnmjmaaGreat
open Go.RowKit
set_option linter.unusedVariables false
set_option maxRecDepth 100000

theorem old_any (a : Int) (h0 : 0 ≤ a) (h : a < 65536) (w : World) : Calls Tryz.prog 48 #[.int .u16 a] w fun e w' => e = .returned (.bool (decide (yrs a = 3600))) ∧ w = w' := by
  have HY := fun w => years_any a h0 h w
  generalize yrs a = y at HY ⊢
  by_cases hy : y = 3600
  · subst hy
    go_enter Tryz.func48, Tryz.ntmps48
    go_wp2_with fail
    refine (HY _).mono ?_
    rintro e w1 ⟨rfl, rfl⟩
    go_wp2
    go_ret
    exact ⟨rfl, rfl⟩
  · have H : Hid (decide (y = 3600) = false) := decide_eq_false hy
    generalize decide (y = 3600) = d at H ⊢
    go_enter Tryz.func48, Tryz.ntmps48
    go_wp2_with fail
    refine (HY _).mono ?_
    rintro e w1 ⟨rfl, rfl⟩
    go_wp2
    go_ret
    exact ⟨ret_bool (by rw [H.out]; exact beq_eq_false_iff_ne.mpr hy), rfl⟩

end Go.Proofs.YtjffcflhbnmjmaaGreat

namespace Go.Proofs.YtjffcflhbnmjmaaGreat
open Go.RowKit
set_option linter.unusedVariables false
set_option maxRecDepth 100000

theorem isnt_any (x : Int) (w : World) : Calls Tryz.prog 143 #[.int .i64 x] w fun e w' => e = .returned (.bool (!(x == 0))) ∧ w = w' := by
  go_enter Tryz.func143, Tryz.ntmps143
  go_wp2
  go_ret
  exact ⟨rfl, rfl⟩

theorem idx_hit (xs : List Int) (g c k : Nat) (w : World) (hx : ∀ j x, xs[j]? = some x → w.cell? ⟨g, j, none⟩ = some (.int .i64 x)) (hk : k < xs.length) (hs : xs.length < 1000)
    (hz : ∀ j, j < k → xs[j]? = some 0) (y : Int) (hy : xs[k]? = some y) (hy0 : y ≠ 0) :
    Calls Tryz.prog 142 #[.slice (some ⟨g, 0, none⟩) xs.length c, .func (.func 143) #[] #[]] w fun e w' => e = .returned (.int .i64 k) ∧ w = w' := by
  have HN := hx
  generalize hn : xs.length = n at hk hs ⊢
  have HZ : Hid (∀ j, j < k → w.cell? ⟨g, j, none⟩ = some (.int .i64 0)) := fun j hj => HN j 0 (hz j hj)
  have HY : Hid (w.cell? ⟨g, k, none⟩ = some (.int .i64 y)) := HN k y hy
  have HP : ∀ x w, Calls Tryz.prog 143 #[.int .i64 x] w fun e w' => e = .returned (.bool (!(x == 0))) ∧ w = w' := isnt_any
  clear HN hn hx hz hy
  go_enter Tryz.func142, Tryz.ntmps142
  go_wp2
  go_loopg [5, 8] n (fun gg _ s8 wr => ∃ kk : Nat, kk ≤ k ∧ n - kk ≤ gg ∧ s8 = .int .i64 kk ∧ wr = w)
  case atStart => exact ⟨0, Nat.zero_le _, by omega, rfl, rfl⟩
  case round =>
    obtain ⟨kk, hkk, hg, rfl, rfl⟩ := hrel
    have hlt : (kk : Int) < (n : Int) := by omega
    rcases Nat.lt_or_ge kk k with h | h
    · have hc := HZ.out kk h
      go_wp2_with (go_at_call 143; refine (HP 0 _).mono ?_; rintro e w' ⟨rfl, rfl⟩)
      go_roundg (n - (kk + 1))
      case measure => omega
      case rel => exact ⟨kk + 1, by omega, by omega, by go_num, rfl⟩
    · obtain rfl : kk = k := by omega
      have hc := HY.out
      have hb : (y == 0) = false := beq_eq_false_iff_ne.mpr hy0
      go_wp2_with (go_at_call 143; refine (HP y _).mono ?_; rintro e w' ⟨rfl, rfl⟩)
      go_ret
      exact ⟨rfl, rfl⟩

theorem idx_miss (xs : List Int) (g c : Nat) (w : World) (hx : ∀ j x, xs[j]? = some x → w.cell? ⟨g, j, none⟩ = some (.int .i64 x)) (hs : xs.length < 1000)
    (hz : ∀ j, j < xs.length → xs[j]? = some 0) :
    Calls Tryz.prog 142 #[.slice (some ⟨g, 0, none⟩) xs.length c, .func (.func 143) #[] #[]] w fun e w' => e = .returned (.int .i64 (-1)) ∧ w = w' := by
  have HN := hx
  generalize hn : xs.length = n at hs hz ⊢
  have HZ : Hid (∀ j, j < n → w.cell? ⟨g, j, none⟩ = some (.int .i64 0)) := fun j hj => HN j 0 (hz j hj)
  have HP : ∀ x w, Calls Tryz.prog 143 #[.int .i64 x] w fun e w' => e = .returned (.bool (!(x == 0))) ∧ w = w' := isnt_any
  clear HN hn hx hz
  go_enter Tryz.func142, Tryz.ntmps142
  go_wp2
  go_loopg [5, 8] n (fun gg _ s8 wr => ∃ kk : Nat, kk ≤ n ∧ n - kk ≤ gg ∧ s8 = .int .i64 kk ∧ wr = w)
  case atStart => exact ⟨0, Nat.zero_le _, by omega, rfl, rfl⟩
  case round =>
    obtain ⟨kk, hkk, hg, rfl, rfl⟩ := hrel
    rcases Nat.lt_or_ge kk n with h | h
    · have hlt : (kk : Int) < (n : Int) := by omega
      have hc := HZ.out kk h
      go_wp2_with (go_at_call 143; refine (HP 0 _).mono ?_; rintro e w' ⟨rfl, rfl⟩)
      go_roundg (n - (kk + 1))
      case measure => omega
      case rel => exact ⟨kk + 1, by omega, by omega, by go_num, rfl⟩
    · have hlt : ¬ (kk : Int) < (n : Int) := by omega
      go_wp2
      go_ret
      exact ⟨rfl, rfl⟩

/-- The first of a list that is not nought. -/
def firstI : List Int → Int
  | [] => 0
  | x :: r => fstI x (firstI r)
theorem firstI_cases : ∀ xs : List Int, (firstI xs = 0 ∧ ∀ j, j < xs.length → xs[j]? = some 0) ∨ ∃ k, k < xs.length ∧ (∀ j, j < k → xs[j]? = some 0) ∧ xs[k]? = some (firstI xs) ∧ firstI xs ≠ 0
  | [] => Or.inl ⟨rfl, fun j h => by cases h⟩
  | x :: r => by
    by_cases hx : x = 0
    · subst hx
      have e : firstI (0 :: r) = firstI r := fstI_zero _
      rw [e]
      rcases firstI_cases r with ⟨h1, h2⟩ | ⟨k, h1, h2, h3, h4⟩
      · refine Or.inl ⟨h1, fun j hj => ?_⟩
        cases j with
        | zero => rfl
        | succ j => exact h2 j (by simpa using hj)
      · refine Or.inr ⟨k + 1, by simpa using h1, fun j hj => ?_, h3, h4⟩
        cases j with
        | zero => rfl
        | succ j => exact h2 j (by omega)
    · have e : firstI (x :: r) = x := fstI_ne _ hx
      rw [e]
      exact Or.inr ⟨0, by simp, fun j hj => by omega, rfl, hx⟩

theorem first_any (xs : List Int) (g c : Nat) (w : World) (hx : ∀ j x, xs[j]? = some x → w.cell? ⟨g, j, none⟩ = some (.int .i64 x)) (hs : xs.length < 1000) :
    Calls Tryz.prog 107 #[.slice (some ⟨g, 0, none⟩) xs.length c] w fun e w' => e = .returned (.int .i64 (firstI xs)) ∧ w = w' := by
  rcases firstI_cases xs with ⟨h1, h2⟩ | ⟨k, h1, h2, h3, h4⟩
  · rw [h1]
    have HI := idx_miss xs g c w hx hs h2
    clear h1 h2 hx
    generalize xs.length = n at HI ⊢
    go_enter Tryz.func107, Tryz.ntmps107
    go_wp2_with fail
    refine HI.mono ?_
    rintro e w1 ⟨rfl, rfl⟩
    go_wp2
    go_ret
    exact ⟨rfl, rfl⟩
  · have HI := idx_hit xs g c k w hx h1 hs h2 _ h3 h4
    have hc := hx k _ h3
    generalize firstI xs = z at h3 h4 hc ⊢
    clear h2 h3 h4 hx
    generalize xs.length = n at HI h1 hs ⊢
    have hk : ¬ (k : Int) < 0 := by omega
    go_enter Tryz.func107, Tryz.ntmps107
    go_wp2_with fail
    refine HI.mono ?_
    rintro e w1 ⟨rfl, rfl⟩
    go_wp2
    go_ret
    exact ⟨rfl, rfl⟩
end Go.Proofs.YtjffcflhbnmjmaaGreat

namespace Go.Proofs.YtjffcflhbnmjmaaGreat
open Go.RowKit
set_option linter.unusedVariables false
set_option maxRecDepth 100000

theorem first_three (x y u z : Int) (hz : z = fstI x (fstI y u)) (g c : Nat) (w : World) (h0 : w.cell? ⟨g, 0, none⟩ = some (.int .i64 x)) (h1 : w.cell? ⟨g, 1, none⟩ = some (.int .i64 y))
    (h2 : w.cell? ⟨g, 2, none⟩ = some (.int .i64 u)) :
    Calls Tryz.prog 107 #[.slice (some ⟨g, 0, none⟩) 3 c] w fun e w' => e = .returned (.int .i64 z) ∧ w = w' := by
  have e : z = firstI [x, y, u] := by
    rw [hz]; show _ = fstI x (fstI y (fstI u 0))
    have : fstI u 0 = u := by unfold fstI; split <;> omega
    rw [this]
  rw [e]
  refine first_any [x, y, u] g c w (fun j a hj => ?_) (by simp)
  match j, hj with
  | 0, hj => obtain rfl : x = a := by simpa using hj
             exact h0
  | 1, hj => obtain rfl : y = a := by simpa using hj
             exact h1
  | 2, hj => obtain rfl : u = a := by simpa using hj
             exact h2

end Go.Proofs.YtjffcflhbnmjmaaGreat
