/- Contracts: the reader's mask, metric, nought, head; headOf. -/
import Derived.Test.YtfdpmlogieaiaaaStPart
import Derived.Test.YtfdpmlogieaiaaaStRd
import Derived.Test.YtfdpmlogieaiaaaStSeal
namespace Go.Proofs.Ytfdpmlogieaiaaa
open Go.RowKit
set_option linter.unusedVariables false
set_option maxRecDepth 100000

theorem rmask_ok (N b : Nat) (rs : List Int) (q : Option Nat) (w : World) (h : Rdr N w b rs q) (hm : pbok (numAt rs q 4) = true) :
    Calls Try.prog 80 #[.agg #[.pointer (some ⟨b, 0, none⟩)]] w fun e w' => e = .returned (.int .u32 (numAt rs q 4)) ∧ Rdr N w' b rs (nextAt rs q 4) ∧ Touch (fun k => k = b) w w' := by
  have hb := numAt_bound h.byte q 4
  have HN := fun w (h : Rdr N w b rs q) => rnum4 N b rs q w h
  generalize numAt rs q 4 = x at hm hb HN ⊢
  go_enter Try.func80, Try.ntmps80
  go_wp2_with fail
  refine Calls.mono (HN _ (h.keep ((Touch.refl _ _).alloc _))) ?_
  rintro e w1 ⟨rfl, h1, t1⟩
  have T1 : Hid (Touch (fun k => k = b) w w1) := ((Touch.refl _ w).alloc _).trans t1
  have H1 : Hid (Rdr N w1 b rs (nextAt rs q 4)) := h1
  clear t1 h1 HN h
  go_wp2_with fail
  refine Calls.mono (isMask_any x _ hb.1 hb.2) ?_
  rintro e w2 ⟨rfl, rfl⟩
  go_wp2_with fail
  refine Calls.mono (need_t _ 28 _ (by first | rfl | exact hm)) ?_
  rintro e w2 ⟨rfl, rfl⟩
  go_wp2
  go_ret
  exact ⟨rfl, H1.out, T1.out⟩
theorem rmask_no (N b : Nat) (rs : List Int) (q : Option Nat) (w : World) (h : Rdr N w b rs q) (hm : pbok (numAt rs q 4) = false) :
    Calls Try.prog 80 #[.agg #[.pointer (some ⟨b, 0, none⟩)]] w fun e w' => e = .panicked (flawC 28) ∧ Touch (fun k => k = b) w w' := by
  have hb := numAt_bound h.byte q 4
  have HN := fun w (h : Rdr N w b rs q) => rnum4 N b rs q w h
  generalize numAt rs q 4 = x at hm hb HN ⊢
  go_enter Try.func80, Try.ntmps80
  go_wp2_with fail
  refine Calls.mono (HN _ (h.keep ((Touch.refl _ _).alloc _))) ?_
  rintro e w1 ⟨rfl, h1, t1⟩
  have T1 : Hid (Touch (fun k => k = b) w w1) := ((Touch.refl _ w).alloc _).trans t1
  clear t1 h1 HN h
  go_wp2_with fail
  refine Calls.mono (isMask_any x _ hb.1 hb.2) ?_
  rintro e w2 ⟨rfl, rfl⟩
  go_wp2_with fail
  refine Calls.mono (need_f _ 28 _ (by first | rfl | exact hm)) ?_
  rintro e w2 ⟨rfl, rfl⟩
  exact ⟨rfl, rfl, T1.out⟩
theorem rmetric_any (N b : Nat) (rs : List Int) (q : Option Nat) (w : World) (h : Rdr N w b rs q) :
    Calls Try.prog 81 #[.agg #[.pointer (some ⟨b, 0, none⟩)]] w fun e w' => e = .returned (.int .u32 (numAt rs q 3)) ∧ Rdr N w' b rs (nextAt rs q 3) ∧ Touch (fun k => k = b) w w' := by
  have HN := fun w (h : Rdr N w b rs q) => rnum3 N b rs q w h
  generalize numAt rs q 3 = x at HN ⊢
  go_enter Try.func81, Try.ntmps81
  go_wp2_with fail
  refine Calls.mono (HN _ (h.keep ((Touch.refl _ _).alloc _))) ?_
  rintro e w1 ⟨rfl, h1, t1⟩
  have T1 : Hid (Touch (fun k => k = b) w w1) := ((Touch.refl _ w).alloc _).trans t1
  have H1 : Hid (Rdr N w1 b rs (nextAt rs q 3)) := h1
  clear t1 h1 HN h
  go_wp2
  go_ret
  exact ⟨rfl, H1.out, T1.out⟩
/-- A number of n bytes, n given as the program gives it. -/
theorem rnum_i (N b : Nat) (n : Int) (hn : n = 1 ∨ n = 2 ∨ n = 3 ∨ n = 4) (rs : List Int) (q : Option Nat) (w : World) (h : Rdr N w b rs q) :
    Calls Try.prog 74 #[.pointer (some ⟨b, 0, none⟩), .int .i64 n] w fun e w' => e = .returned (.int .u32 (numAt rs q n.toNat)) ∧ Rdr N w' b rs (nextAt rs q n.toNat) ∧ Touch (fun k => k = b) w w' := by
  rcases hn with rfl | rfl | rfl | rfl
  · exact rnum1 N b rs q w h
  · exact rnum2 N b rs q w h
  · exact rnum3 N b rs q w h
  · exact rnum4 N b rs q w h
theorem nought_ok (N b : Nat) (n : Int) (hn : n = 1 ∨ n = 2 ∨ n = 3 ∨ n = 4) (rs : List Int) (q : Option Nat) (w : World) (h : Rdr N w b rs q) (hz : numAt rs q n.toNat = 0) :
    Calls Try.prog 87 #[.agg #[.pointer (some ⟨b, 0, none⟩)], .int .i64 n] w fun e w' => e = .returned (.tuple #[]) ∧ Rdr N w' b rs (nextAt rs q n.toNat) ∧ Touch (fun k => k = b) w w' := by
  have HN := fun w (h : Rdr N w b rs q) => rnum_i N b n hn rs q w h
  rw [hz] at HN
  go_enter Try.func87, Try.ntmps87
  go_wp2_with fail
  refine Calls.mono (HN _ (h.keep ((Touch.refl _ _).alloc _))) ?_
  rintro e w1 ⟨rfl, h1, t1⟩
  have T1 : Hid (Touch (fun k => k = b) w w1) := ((Touch.refl _ w).alloc _).trans t1
  have H1 : Hid (Rdr N w1 b rs (nextAt rs q n.toNat)) := h1
  clear t1 h1 HN h
  go_wp2_with fail
  refine Calls.mono (need_t _ 28 _ rfl) ?_
  rintro e w2 ⟨rfl, rfl⟩
  go_wp2
  go_end0
  exact ⟨rfl, H1.out, T1.out⟩
theorem nought_no (N b : Nat) (n : Int) (hn : n = 1 ∨ n = 2 ∨ n = 3 ∨ n = 4) (rs : List Int) (q : Option Nat) (w : World) (h : Rdr N w b rs q) (hz : ¬ numAt rs q n.toNat = 0) :
    Calls Try.prog 87 #[.agg #[.pointer (some ⟨b, 0, none⟩)], .int .i64 n] w fun e w' => e = .panicked (flawC 28) ∧ Touch (fun k => k = b) w w' := by
  have HN := fun w (h : Rdr N w b rs q) => rnum_i N b n hn rs q w h
  generalize numAt rs q n.toNat = x at HN hz
  have hzb : (x == 0) = false := by simpa using hz
  go_enter Try.func87, Try.ntmps87
  go_wp2_with fail
  refine Calls.mono (HN _ (h.keep ((Touch.refl _ _).alloc _))) ?_
  rintro e w1 ⟨rfl, h1, t1⟩
  have T1 : Hid (Touch (fun k => k = b) w w1) := ((Touch.refl _ w).alloc _).trans t1
  clear t1 h1 HN h
  go_wp2_with fail
  refine Calls.mono (need_f _ 28 _ (by first | rfl | exact hzb)) ?_
  rintro e w2 ⟨rfl, rfl⟩
  exact ⟨rfl, rfl, T1.out⟩
end Go.Proofs.Ytfdpmlogieaiaaa
