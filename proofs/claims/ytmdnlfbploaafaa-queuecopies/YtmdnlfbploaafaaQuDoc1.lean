
/- The document's queue: find, When, Put. -/
import Derived.Test.YtmdnlfbploaafaaQuDoc0
import Derived.Test.YtmdnlfbploaafaaQuClone
namespace Go.Proofs.Ytmdnlfbploaafaa
open Go.RowKit
set_option linter.unusedVariables false
set_option maxRecDepth 100000

/-- Where an entry stands; below nought: nowhere. -/
structure FindP (l : List En) (k z : Int) : Prop where
  out : (z = -1 ∧ ∀ y ∈ l, y.k ≠ k) ∨ ∃ i : Nat, i < l.length ∧ z = i ∧ (gt l i).k = k
structure FindR (l : List En) (k : Int) (t : Nat) : Prop where
  le : t ≤ l.length
  no : ∀ j, j < t → (gt l j).k ≠ k
set_option maxHeartbeats 1000000 in
theorem dfind_any (w : World) (b : Nat) (v : Value) (most : Int) (l : List En) (k : Int) (h : DS w b v most l) :
    Calls Try.prog 36 #[.pointer (some ⟨b, 0, none⟩), .int .u64 k] w fun e w' => ∃ z, e = .returned (.int .i64 z) ∧ w = w' ∧ FindP l k z := by
  obtain ⟨a, c, rfl⟩ := h.rd.shape
  have c0 := h.c0
  have hl : (l.length : Int) ≤ 1048576 := by have := h.ml; have := h.m2; omega
  have HD : Hid _ := h
  clear h
  go_enter Try.func36, Try.ntmps36
  go_wp2
  go_loop [5] (fun s5 => ∃ t : Nat, s5 = .int .i64 t ∧ FindR l k t) (fun s5 => l.length - (intOf s5).toNat)
  case atStart => exact ⟨0, rfl, Nat.zero_le _, fun j hj => by omega⟩
  case round =>
    obtain ⟨t, rfl, R⟩ := hrel
    have HR : Hid _ := R
    have htl : (t : Int) ≤ 1048576 := by have := R.le; omega
    clear R
    by_cases hlt : t < l.length
    · obtain ⟨g, cap, e1, hcap, hg⟩ := HD.out.rd.form (by omega)
      injection e1 with e1 e2 e3
      subst e1
      have hlt' : (t : Int) < (l.length : Int) := by omega
      have t0 : (0 : Int) ≤ (t : Int) := by omega
      obtain ⟨x0, x1, x2⟩ := HD.out.rd.cells hlt
      clear e2 e3 x0 x1
      by_cases hk : (gt l t).k = k
      · have HK : Hid _ := hk
        have hk' : ((gt l t).k == k) = true := by simpa using hk
        clear hk
        go_wp2
        go_ret
        exact ⟨_, rfl, rfl, ⟨Or.inr ⟨t, hlt, rfl, HK.out⟩⟩⟩
      · have HK : Hid _ := hk
        have hk' : ((gt l t).k == k) = false := by simpa using hk
        go_wp2
        go_round
        case rel => exact ⟨t + 1, by go_num, hlt, fun j hj => by
          by_cases e : j = t
          · subst e; exact HK.out
          · exact HR.out.no j (by omega)⟩
        case measure => simp [intOf]; omega
    · have hlt' : ¬ (t : Int) < (l.length : Int) := by omega
      go_wp2
      go_ret
      exact ⟨_, rfl, rfl, ⟨Or.inl ⟨rfl, fun y hy e => by
        obtain ⟨j, hj, rfl⟩ := mem_gt hy
        exact HR.out.no j (by have := HR.out.le; omega) e⟩⟩⟩

set_option maxHeartbeats 1000000 in
theorem dwhen_any (w : World) (b : Nat) (v : Value) (most : Int) (l : List En) (k : Int) (h : DS w b v most l) :
    Calls Try.prog 27 #[.pointer (some ⟨b, 0, none⟩), .int .u64 k] w fun e w' => ∃ a z, e = .returned (.tuple #[.int .i64 a, .bool z]) ∧ Touch (fun _ => False) w w' ∧ WhenP l k a z := by
  have HF := dfind_any w b v most l k h
  have HD : Hid _ := h
  have c0 := h.c0
  clear h
  go_enter Try.func27, Try.ntmps27
  go_wp2_with fail
  refine Calls.mono HF ?_
  rintro e w1 ⟨z, rfl, rfl, hz⟩
  rcases hz.out with ⟨rfl, hn⟩ | ⟨i, hi, rfl, hk⟩
  · go_wp2_with fail
    go_ret2
    exact ⟨0, false, rfl, Touch.refl _ _, ⟨fun _ => ⟨rfl, rfl⟩, fun y hy e => absurd e (hn y hy)⟩⟩
  · obtain ⟨g, cap, rfl, hcap, hg⟩ := HD.out.rd.form (by omega)
    obtain ⟨x0, x1, x2⟩ := HD.out.rd.cells hi
    have i0 : (0 : Int) ≤ (i : Int) := by omega
    have i1 : (i : Int) < (l.length : Int) := by omega
    have HK : Hid _ := hk
    clear hz hk x1 x2 HF
    go_wp2_with fail
    go_ret2
    refine ⟨(gt l i).a, true, rfl, Touch.refl _ _, ⟨fun hn => absurd HK.out (hn _ (gt_mem hi)), fun y hy e => ⟨by rw [HD.out.nk.eq (gt_mem hi) hy (HK.out.trans e.symm)], rfl⟩⟩⟩
end Go.Proofs.Ytmdnlfbploaafaa
