
/- The heap as container/heap asks for it: what is there, Len, Less. -/
import Derived.Test.YtmdnlfbploaafaaQuRow
import Derived.BigRegion
import Derived.Deep.DrawnRows
namespace Go.Proofs.Ytmdnlfbploaafaa
open Go.RowKit
set_option linter.unusedVariables false
set_option maxRecDepth 100000

/-- A pile in block b: its row v of the entries l, its map m of at most n keys, which says where each stands. -/
structure PS (w : World) (b : Nat) (v : Value) (m n : Nat) (l : List En) (f : Int → Option Int) : Prop where
  c0 : w.cell? ⟨b, 0, none⟩ = some v
  c1 : w.cell? ⟨b, 1, none⟩ = some (.map (some m))
  f0 : w.frozen? ⟨b, 0, none⟩ = false
  re : RE w v l
  mp : MP w m n f
  d1 : ∀ i : Nat, i < l.length → f (gt l i).k = some (i : Int)
  ok : ∀ e ∈ l, e.Ok
  bv : v.ownBlock ≠ some b
  hn : n ≤ 2000000
  hl : l.length ≤ 2000000
theorem PS.lt {w : World} {b : Nat} {v : Value} {m n : Nat} {l : List En} {f : Int → Option Int} (h : PS w b v m n l f) : b < w.heap.size := lt_of_cell h.c0
theorem PS.mb {w : World} {b : Nat} {v : Value} {m n : Nat} {l : List En} {f : Int → Option Int} (h : PS w b v m n l f) : m ≠ b := by
  intro e
  subst e
  obtain ⟨es, c, hm⟩ := h.mp.mapAt
  have := h.c0
  simp [World.cell?, hm] at this
theorem PS.mv {w : World} {b : Nat} {v : Value} {m n : Nat} {l : List En} {f : Int → Option Int} (h : PS w b v m n l f) : v.ownBlock ≠ some m := by
  intro e
  obtain ⟨es, c, hm⟩ := h.mp.mapAt
  obtain ⟨h1, ⟨h2, h3⟩ | ⟨g, cap, cur, hv, _, hh, _⟩⟩ := h.re
  · rw [h2] at e; cases e
  · rw [hv] at e
    cases e
    rw [hm] at hh
    cases hh
theorem PS.keep {w w' : World} {b : Nat} {v : Value} {m n : Nat} {l : List En} {f : Int → Option Int} (h : PS w b v m n l f) (t : Touch (fun _ => False) w w') : PS w' b v m n l f :=
  ⟨t.cellN h.c0, t.cellN h.c1, (t.frozen h.lt (fun h => h)).trans h.f0, h.re.keep t (fun _ _ h => h), h.mp.keep t (fun h => h), h.d1, h.ok, h.bv, h.hn, h.hl⟩
theorem PS.inj {w : World} {b : Nat} {v : Value} {m n : Nat} {l : List En} {f : Int → Option Int} (h : PS w b v m n l f) {i j : Nat} (hi : i < l.length) (hj : j < l.length) (e : (gt l i).k = (gt l j).k) : i = j := by
  have h1 := h.d1 i hi
  have h2 := h.d1 j hj
  rw [e, h2] at h1
  injection h1 with h1
  omega

def ltB (x y : En) : Bool := decide (cE x y < 0)
theorem ltB_true {x y : En} (h : x.lt y) : ltB x y = true := decide_eq_true ((cE_neg x y).2 h)
theorem ltB_false {x y : En} (h : ¬ x.lt y) : ltB x y = false := decide_eq_false (fun e => h ((cE_neg x y).1 e))

/-- Nothing of x has turned in w. -/
structure Snq (x w : World) : Prop where
  t : Touch (fun _ => False) x w
theorem Snq.trans {x w w' : World} (h : Snq x w) (t : Touch (fun _ => False) w w') : Snq x w' := ⟨h.t.trans t⟩
theorem Snq.start (x : World) : Snq x x.drew := ⟨(Touch.refl _ _).drew⟩
theorem snq_cell {x : World} {p : Addr} {v : Value} (h : x.cell? p = some v) : ∀ w, Snq x w → w.cell? p = some v := fun w s => s.t.cellN h
theorem ret_boolq {a b : Bool} (h : a = b) : Ending.returned (.bool a) = .returned (.bool b) := by rw [h]

set_option maxHeartbeats 400000 in
theorem flen_any (w : World) (b n : Nat) (a : Option Addr) (cap : Nat) (h : w.cell? ⟨b, 0, none⟩ = some (.slice a n cap)) :
    Calls Try.prog 83 #[.agg #[.pointer (some ⟨b, 0, none⟩)]] w fun e w' => e = .returned (.int .i64 n) ∧ Touch (fun _ => False) w w' := by
  have hb := lt_of_cell h
  go_enter Try.func83, Try.ntmps83
  go_wp2
  go_ret
  exact ⟨rfl, (Touch.refl _ w).alloc _⟩

set_option maxHeartbeats 1000000 in
theorem less_cells (w : World) (b g n c : Nat) (i j : Nat) (x y : En) (hi : i < n) (hj : j < n) (c0 : w.cell? ⟨b, 0, none⟩ = some (.slice (some ⟨g, 0, none⟩) n c))
    (x0 : w.cell? ⟨g, i * 3, none⟩ = some (.int .i64 x.a)) (x1 : w.cell? ⟨g, i * 3 + 1, none⟩ = some (.int .i64 x.r)) (x2 : w.cell? ⟨g, i * 3 + 2, none⟩ = some (.int .u64 x.k))
    (y0 : w.cell? ⟨g, j * 3, none⟩ = some (.int .i64 y.a)) (y1 : w.cell? ⟨g, j * 3 + 1, none⟩ = some (.int .i64 y.r)) (y2 : w.cell? ⟨g, j * 3 + 2, none⟩ = some (.int .u64 y.k)) (z : Bool) (hz : z = ltB x y) :
    Calls Try.prog 84 #[.agg #[.pointer (some ⟨b, 0, none⟩)], .int .i64 i, .int .i64 j] w fun e w' => e = .returned (.bool z) ∧ Touch (fun _ => False) w w' := by
  have hb := lt_of_cell c0
  have hg := lt_of_cell x0
  have i0 : (0 : Int) ≤ (i : Int) := by omega
  have i1 : (i : Int) < (n : Int) := by omega
  have j0 : (0 : Int) ≤ (j : Int) := by omega
  have j1 : (j : Int) < (n : Int) := by omega
  have hcE : Hid (decide (cE x y < 0) = z) := by
    rw [hz]
    rfl
  clear hz
  go_enter Try.func84, Try.ntmps84
  go_wp2_with fail
  have T : Touch (fun _ => False) w (w.alloc (.cells #[.pointer (some ⟨b, 0, none⟩)] 85)) := (Touch.refl _ _).alloc _
  have pa : (w.alloc (.cells #[.pointer (some ⟨b, 0, none⟩)] 85)).cell? ⟨w.heap.size, 0, none⟩ = some (.pointer (some ⟨b, 0, none⟩)) := by simp [go_sem]
  generalize w.alloc (.cells #[.pointer (some ⟨b, 0, none⟩)] 85) = wa at T pa ⊢
  replace pa := snq_cell pa
  replace c0 := snq_cell (T.cellN c0)
  replace x0 := snq_cell (T.cellN x0)
  replace x1 := snq_cell (T.cellN x1)
  replace x2 := snq_cell (T.cellN x2)
  replace y0 := snq_cell (T.cellN y0)
  replace y1 := snq_cell (T.cellN y1)
  replace y2 := snq_cell (T.cellN y2)
  have T0 : Hid _ := T
  have st : Snq wa wa.drew := Snq.start wa
  clear T hb hg
  go_region_held3 (fun w' => Snq wa w') (with_reducible assumption) ((go_at_call 31; refine Calls.mono (compare_any x y _) ?_; rintro e wx ⟨rfl, tx⟩; have sx := Snq.trans (by assumption) tx))
  go_wp2_with fail
  go_ret
  exact ⟨ret_boolq hcE.out, T0.out.trans sx.t⟩
end Go.Proofs.Ytmdnlfbploaafaa
