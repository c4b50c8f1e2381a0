
/- The line as container/heap asks for it: what is there, Len, Less, Swap. -/
import Derived.Test.YtdfacfpjhnohcaaTrRow
import Derived.BigRegion
import Derived.Deep.DrawnRows
import Derived.Deep.DeepCutAuto
namespace Go.Proofs.Ytdfacfpjhnohcaa
open Go.RowKit
set_option linter.unusedVariables false
set_option maxRecDepth 100000

/-- A line at the beginning of block b: its row v of the steps l. -/
structure LS (w : World) (b : Nat) (v : Value) (B : Nat) (l : List Sp) : Prop where
  c0 : w.cell? ⟨b, 0, none⟩ = some v
  f0 : w.frozen? ⟨b, 0, none⟩ = false
  re : RS B w v l
  bv : v.ownBlock ≠ some b
  hl : l.length ≤ 1099511627776
theorem LS.lt {w : World} {b : Nat} {v : Value} {B : Nat} {l : List Sp} (h : LS w b v B l) : b < w.heap.size := lt_of_cell h.c0
theorem LS.keep {w w' : World} {b : Nat} {v : Value} {B : Nat} {l : List Sp} (h : LS w b v B l) (t : Touch (fun _ => False) w w') : LS w' b v B l :=
  ⟨t.cellN h.c0, (t.frozen h.lt (fun h => h)).trans h.f0, h.re.keepN t, h.bv, h.hl⟩
def ltB (x y : Sp) : Bool := decide (x.cost < y.cost ∨ x.cost = y.cost ∧ cH x.h y.h < 0)
theorem ltB_true {x y : Sp} (h : x.lt y) : ltB x y = true := decide_eq_true (h.imp id (fun e => ⟨e.1, (cH_neg _ _).2 e.2⟩))
theorem ltB_false {x y : Sp} (h : ¬ x.lt y) : ltB x y = false := decide_eq_false (fun e => h (e.imp id (fun e => ⟨e.1, (cH_neg _ _).1 e.2⟩)))
theorem ret_boolq {a b : Bool} (h : a = b) : Ending.returned (.bool a) = .returned (.bool b) := by rw [h]

set_option maxHeartbeats 400000 in
theorem llen_any (w : World) (a : Option Addr) (n cap : Nat) :
    Calls Try.prog 18 #[.slice a n cap] w fun e w' => e = .returned (.int .i64 n) ∧ w = w' := by
  go_enter Try.func18, Try.ntmps18
  go_wp2
  go_ret
  exact ⟨rfl, rfl⟩

set_option maxHeartbeats 1000000 in
theorem less_cells (w : World) (g n c : Nat) (i j : Nat) (x y : Sp) (hi : i < n) (hj : j < n)
    (x1 : w.cell? ⟨g, i * 5 + 1, none⟩ = some (.int .u32 x.cost)) (x2 : w.cell? ⟨g, i * 5 + 2, none⟩ = some (.int .u32 x.h.out)) (x3 : w.cell? ⟨g, i * 5 + 3, none⟩ = some (.int .u32 x.h.via)) (x4 : w.cell? ⟨g, i * 5 + 4, none⟩ = some (.bool x.h.vr))
    (y1 : w.cell? ⟨g, j * 5 + 1, none⟩ = some (.int .u32 y.cost)) (y2 : w.cell? ⟨g, j * 5 + 2, none⟩ = some (.int .u32 y.h.out)) (y3 : w.cell? ⟨g, j * 5 + 3, none⟩ = some (.int .u32 y.h.via)) (y4 : w.cell? ⟨g, j * 5 + 4, none⟩ = some (.bool y.h.vr)) (z : Bool) (hz : z = ltB x y) :
    Calls Try.prog 73 #[.slice (some ⟨g, 0, none⟩) n c, .int .i64 i, .int .i64 j] w fun e w' => e = .returned (.bool z) ∧ Touch (fun _ => False) w w' := by
  have i0 : (0 : Int) ≤ (i : Int) := by omega
  have i1 : (i : Int) < (n : Int) := by omega
  have j0 : (0 : Int) ≤ (j : Int) := by omega
  have j1 : (j : Int) < (n : Int) := by omega
  obtain ⟨xn, xc, xh⟩ := x
  obtain ⟨yn, yc, yh⟩ := y
  simp only at x1 x2 x3 x4 y1 y2 y3 y4
  by_cases hc : xc = yc
  · subst hc
    have hzz : Hid (decide (cH xh yh < 0) = z) := by
      rw [hz]
      exact decide_eq_decide.2 ⟨fun h => Or.inr ⟨rfl, h⟩, fun h => h.elim (fun h => (Int.lt_irrefl _ h).elim) (fun h => h.2)⟩
    clear hz
    have HC : Hid _ := hcmp_any xh yh
    go_enter Try.func73, Try.ntmps73
    go_wp2_with fail
    go_region
    go_wp2_with fail
    go_region_with ((go_at_call 23; refine Calls.mono (HC.out _) ?_; rintro e wx ⟨rfl, tx⟩))
    all_goals (go_wp2_with fail; go_ret; exact ⟨ret_boolq hzz.out, ((Touch.refl _ _).drew.drew).trans tx⟩)
  · have hzz : Hid (decide (xc < yc) = z) := by
      rw [hz]
      exact decide_eq_decide.2 ⟨Or.inl, fun h => h.elim id (fun h => (hc h.1).elim)⟩
    clear hz
    go_enter Try.func73, Try.ntmps73
    go_wp2_with fail
    go_region
    go_wp2_with fail
    go_region
    go_wp2_with fail
    go_ret
    exact ⟨ret_boolq hzz.out, (Touch.refl _ _).drew.drew⟩

theorem less_any (w : World) (b : Nat) (v : Value) (B : Nat) (l : List Sp) (P : LS w b v B l) (i j : Nat) (x y : Int) (hx : x = (i : Int)) (hy : y = (j : Int)) (hi : i < l.length) (hj : j < l.length) (z : Bool) (hz : ltB (gt l i) (gt l j) = z) :
    Calls Try.prog 73 #[v, .int .i64 x, .int .i64 y] w fun e w' => e = .returned (.bool z) ∧ Touch (fun _ => False) w w' := by
  subst hx; subst hy
  obtain ⟨g, cap, rfl, hcap, hg, -⟩ := P.re.form (by omega)
  obtain ⟨-, x1, x2, x3, x4⟩ := RS.cells P.re (gt_some hi)
  obtain ⟨-, y1, y2, y3, y4⟩ := RS.cells P.re (gt_some hj)
  exact less_cells w g l.length cap i j _ _ hi hj x1 x2 x3 x4 y1 y2 y3 y4 z hz.symm

/-- A whole step is stored: what is touched. -/
theorem tset1 {g : Nat} {a w : World} (h : Touch (fun k => k = g) a w) (o : Nat) (u : Value) : Touch (fun k => k = g) a (w.setCell ⟨g, o, none⟩ u) := Touch.setCell h (p := ⟨g, o, none⟩) (Or.inl rfl) u
theorem tset5 {g : Nat} {a w : World} (h : Touch (fun k => k = g) a w) (i : Nat) (e : Sp) : Touch (fun k => k = g) a (((((w.setCell ⟨g, i * 5, none⟩ (.int .i64 e.node)).setCell ⟨g, i * 5 + 1, none⟩ (.int .u32 e.cost)).setCell ⟨g, i * 5 + 2, none⟩ (.int .u32 e.h.out)).setCell ⟨g, i * 5 + 3, none⟩ (.int .u32 e.h.via)).setCell ⟨g, i * 5 + 4, none⟩ (.bool e.h.vr)) :=
  tset1 (tset1 (tset1 (tset1 (tset1 h _ _) _ _) _ _) _ _) _ _
/-- What a change of places leaves. -/
structure SwP (w : World) (b : Nat) (v : Value) (B : Nat) (l : List Sp) (i j : Nat) (e : Ending) (w' : World) : Prop where
  e : e = .returned (.tuple #[])
  ps : LS w' b v B (sw l i j)
  t : Touch (fun k => v.ownBlock = some k) w w'
set_option maxHeartbeats 4000000 in
theorem swap_any (w : World) (b : Nat) (v : Value) (B : Nat) (l : List Sp) (P : LS w b v B l) (i j : Nat) (x y : Int) (hx : x = (i : Int)) (hy : y = (j : Int)) (hi : i < l.length) (hj : j < l.length) :
    Calls Try.prog 76 #[v, .int .i64 x, .int .i64 y] w (SwP w b v B l i j) := by
  subst hx; subst hy
  obtain ⟨c0, f0, re, bv, hl⟩ := P
  obtain ⟨g, cap, rfl, hcap, hg, -⟩ := re.form (by omega)
  have hbg : b ≠ g := fun e => bv (by subst e; rfl)
  obtain ⟨x0, x1, x2, x3, x4⟩ := RS.cells re (gt_some hi)
  obtain ⟨y0, y1, y2, y3, y4⟩ := RS.cells re (gt_some hj)
  have hf := re.fz
  have FIN : Hid (∀ w', Touch (fun k => k = g) w w' → RS B w' (.slice (some ⟨g, 0, none⟩) l.length cap) ((l.set i (gt l j)).set j (gt l i)) → SwP w b (.slice (some ⟨g, 0, none⟩) l.length cap) B l i j (.returned (.tuple #[])) w') := by
    intro w' t r
    have hb := lt_of_cell c0
    exact ⟨rfl, ⟨(t.cell (p := ⟨b, 0, none⟩) hb hbg).trans c0, (t.frozen (p := ⟨b, 0, none⟩) hb hbg).trans f0, r, bv, by rw [sw_length]; exact hl⟩, t.mono (fun k _ e => by rw [e]; rfl)⟩
  have RE0 : Hid (RS B w (.slice (some ⟨g, 0, none⟩) l.length cap) l) := re
  have i0 : (0 : Int) ≤ (i : Int) := by omega
  have i1 : (i : Int) < (l.length : Int) := by omega
  have j0 : (0 : Int) ≤ (j : Int) := by omega
  have j1 : (j : Int) < (l.length : Int) := by omega
  have HI : Hid (i < l.length) := hi
  have HJ : Hid (j < l.length) := hj
  clear re c0 f0 bv hl hcap hi hj
  by_cases hij : i = j
  · subst hij
    clear y0 y1 y2 y3 y4 j0 j1
    generalize gt l i = x at *
    generalize hL : l.length = L at *
    have HLn : Hid _ := hL
    clear hL
    have RF := RS.set (RS.set RE0.out (i := i) (by have := HLn.out; have := HI.out; omega) x) (i := i) (by rw [List.length_set]; have := HLn.out; have := HI.out; omega) x
    have TF := tset5 (tset5 (Touch.refl (fun k => k = g) w) i x) i x
    have HF0 := FIN.out _ TF.drew (RG.keepN RF ((Touch.refl _ _).drew))
    clear RF TF
    obtain ⟨xn, xc, xo, xv, xr⟩ := x
    simp only at x0 x1 x2 x3 x4 HF0
    have HF : Hid _ := HF0
    clear HF0
    go_enter Try.func76, Try.ntmps76
    go_region
    all_goals go_wp2_with fail
    all_goals exact bodyPost_end (results_none rfl _ _ _) rfl HF.out
  · have hji : ¬ j = i := fun e => hij e.symm
    generalize gt l i = x at *
    generalize gt l j = y at *
    generalize hL : l.length = L at *
    have HLn : Hid _ := hL
    clear hL
    have RF := RS.set (RS.set RE0.out (i := i) (by have := HLn.out; have := HI.out; omega) y) (i := j) (by rw [List.length_set]; have := HLn.out; have := HJ.out; omega) x
    have TF := tset5 (tset5 (Touch.refl (fun k => k = g) w) i y) j x
    have HF0 := FIN.out _ TF.drew (RG.keepN RF ((Touch.refl _ _).drew))
    clear RF TF
    obtain ⟨xn, xc, xo, xv, xr⟩ := x
    obtain ⟨yn, yc, yo, yv, yr⟩ := y
    simp only at x0 x1 x2 x3 x4 y0 y1 y2 y3 y4 HF0
    have HF : Hid _ := HF0
    clear HF0
    go_enter Try.func76, Try.ntmps76
    go_region
    all_goals go_wp2_with fail
    all_goals exact bodyPost_end (results_none rfl _ _ _) rfl HF.out
end Go.Proofs.Ytdfacfpjhnohcaa
