
/- Contracts: who a voice is, whom it names, who is ahead. -/
import Derived.Test.YtcmkhhdjhemmbaaElRow
namespace Go.Proofs.Ytcmkhhdjhemmbaa
open Go.RowKit
set_option linter.unusedVariables false
set_option maxRecDepth 100000

abbrev CB (f : Nat) (args : Array Value) (b : Bool) (w : World) : Prop := Calls Try.prog f args w fun e w' => e = .returned (.bool b) ∧ Touch (fun _ => False) w w'

theorem elig_any (x : VC) (w : World) : CB 16 #[x.agg] x.el w := by
  unfold CB VC.el
  obtain ⟨r, ad, p, dr, bd⟩ := x
  go_enter Try.func16, Try.ntmps16
  go_wp2
  go_ret
  exact ⟨rfl, (Touch.refl _ _).alloc _⟩
theorem vis_any (x : VC) (a : Int) (w : World) : CB 25 #[x.agg, .int .u32 a] (x.is a) w := by
  unfold CB VC.is
  obtain ⟨r, ad, p, dr, bd⟩ := x
  by_cases h : ad = 0
  · subst h
    go_enter Try.func25, Try.ntmps25
    go_wp2
    go_ret
    exact ⟨rfl, (Touch.refl _ _).alloc _⟩
  · have h' : (ad == 0) = false := by simpa using h
    go_enter Try.func25, Try.ntmps25
    go_wp2
    go_ret
    exact ⟨rfl, (Touch.refl _ _).alloc _⟩
theorem ndr_any (x : VC) (w : World) : CB 19 #[x.agg] x.ch w := by
  unfold CB VC.ch
  have HI := vis_any x x.dr
  obtain ⟨r, ad, p, dr, bd⟩ := x
  go_enter Try.func19, Try.ntmps19
  go_wp2_with fail
  refine (HI _).mono ?_
  rintro e w1 ⟨rfl, t1⟩
  go_wp2_with fail
  go_ret
  exact ⟨rfl, ((Touch.refl _ _).alloc _).trans t1⟩
theorem nbd_any (x : VC) (w : World) : CB 20 #[x.agg] x.bk w := by
  unfold CB VC.bk
  have HI := vis_any x x.bd
  obtain ⟨r, ad, p, dr, bd⟩ := x
  go_enter Try.func20, Try.ntmps20
  go_wp2_with fail
  refine (HI _).mono ?_
  rintro e w1 ⟨rfl, t1⟩
  go_wp2_with fail
  go_ret
  exact ⟨rfl, ((Touch.refl _ _).alloc _).trans t1⟩
theorem ahd_any (x y : VC) (w : World) : CB 17 #[x.agg, y.agg] (x.ahd y) w := by
  unfold CB VC.ahd
  obtain ⟨r, ad, p, dr, bd⟩ := x
  obtain ⟨r', ad', p', dr', bd'⟩ := y
  by_cases h : p = p'
  · subst h
    rw [if_pos rfl]
    go_enter Try.func17, Try.ntmps17
    go_wp2
    go_ret
    exact ⟨rfl, ((Touch.refl _ _).alloc _).alloc _⟩
  · rw [if_neg h]
    have h' : (p == p') = false := by simpa using h
    clear h
    go_enter Try.func17, Try.ntmps17
    go_wp2
    go_ret
    exact ⟨rfl, ((Touch.refl _ _).alloc _).alloc _⟩
theorem clR_any (x : VC) (w : World) : CB 21 #[x.agg] (fR x) w := by
  unfold CB fR
  have HI := ndr_any x
  obtain ⟨r, ad, p, dr, bd⟩ := x
  generalize VC.ch _ = c at HI ⊢
  go_enter Try.func21, Try.ntmps21
  go_wp2_with fail
  refine (HI _).mono ?_
  rintro e w1 ⟨rfl, t1⟩
  go_wp2_with fail
  go_ret
  exact ⟨rfl, ((Touch.refl _ _).alloc _).trans t1⟩
theorem clB_any (x : VC) (w : World) : CB 18 #[x.agg] (fB x) w := by
  unfold CB fB
  have HI := ndr_any x
  have HB := nbd_any x
  obtain ⟨r, ad, p, dr, bd⟩ := x
  generalize VC.ch _ = c at HI ⊢
  generalize VC.bk _ = b at HB ⊢
  cases c
  · go_enter Try.func18, Try.ntmps18
    go_wp2_with fail
    refine (HI _).mono ?_
    rintro e w1 ⟨rfl, t1⟩
    have c0 := t1.cellN (a := ⟨w.heap.size, 0, none⟩) (v := .int .u32 r) (by simp)
    have c1 := t1.cellN (a := ⟨w.heap.size, 1, none⟩) (v := .int .u32 ad) (by simp)
    have c2 := t1.cellN (a := ⟨w.heap.size, 2, none⟩) (v := .int .u8 p) (by simp)
    have c3 := t1.cellN (a := ⟨w.heap.size, 3, none⟩) (v := .int .u32 dr) (by simp)
    have c4 := t1.cellN (a := ⟨w.heap.size, 4, none⟩) (v := .int .u32 bd) (by simp)
    go_wp2_with fail
    refine (HB _).mono ?_
    rintro e w2 ⟨rfl, t2⟩
    go_wp2_with fail
    go_ret
    exact ⟨rfl, (((Touch.refl _ _).alloc _).trans t1).trans t2⟩
  · go_enter Try.func18, Try.ntmps18
    go_wp2_with fail
    refine (HI _).mono ?_
    rintro e w1 ⟨rfl, t1⟩
    go_wp2_with fail
    go_ret
    exact ⟨rfl, ((Touch.refl _ _).alloc _).trans t1⟩
end Go.Proofs.Ytcmkhhdjhemmbaa
