/- Pure: what a reader finds, type by type, is what the bytes say. -/
import Derived.Test.YtjjgbcjgmjggnaaGreatVals
import Derived.Test.YtjjgbcjgmjggnaaGreatStRow0
import Derived.Test.YtjjgbcjgmjggnaaGreatStKey
import Derived.Deep.RegionHeld2
import Derived.Test.YtjjgbcjgmjggnaaGreatCutB
import Derived.Deep.RegionHeld3
import Derived.Test.YtjjgbcjgmjggnaaGreatParts
import Derived.Laws.Rows
import Derived.Laws.Tables
import Derived.Deep.RegionLaw
import Derived.Deep.DrawnRows
namespace Go.Proofs.YtjjgbcjgmjggnaaGreat
set_option linter.unusedVariables false
set_option maxRecDepth 100000

theorem nextAt_add (rs : List Int) (q : Option Nat) (m n : Nat) : nextAt rs (nextAt rs q m) n = nextAt rs q (m + n) := by
  cases q with
  | none => rfl
  | some p =>
    unfold nextAt
    by_cases h : p + (m + n) ≤ rs.length
    · simp only [if_pos h, if_pos (show p + m ≤ rs.length by omega), if_pos (show p + m + n ≤ rs.length by omega)]
      congr 1
      omega
    · simp only [if_neg h]
      by_cases h2 : p + m ≤ rs.length
      · simp only [if_pos h2, if_neg (show ¬ p + m + n ≤ rs.length by omega)]
      · simp only [if_neg h2]
end Go.Proofs.YtjjgbcjgmjggnaaGreat

namespace Go.Proofs.YtjjgbcjgmjggnaaGreat
open Go.RowKit
set_option linter.unusedVariables false
set_option maxRecDepth 100000

/-- A body lies in block g, and may be stored into. -/
structure OutB (w : World) (g : Nat) (b : BV) (vl vr vd : Value) : Prop where
  bd : Bd w g b vl vr vd
  fz : ∀ i, i < 9 → w.frozen? ⟨g, i, none⟩ = false
theorem OutB.lt {w : World} {g : Nat} {b : BV} {vl vr vd : Value} (k : OutB w g b vl vr vd) : g < w.heap.size := lt_of_cell k.bd.c0
theorem OutB.keep {w w' : World} {g : Nat} {b : BV} {vl vr vd : Value} (k : OutB w g b vl vr vd) (t : Touch (fun _ => False) w w') : OutB w' g b vl vr vd :=
  ⟨k.bd.keep t, fun i hi => (t.frozen (p := ⟨g, i, none⟩) k.lt (fun h => h)).trans (k.fz i hi)⟩
theorem OutB.kept {X : Nat → Prop} {w w' : World} {g : Nat} {b : BV} {vl vr vd : Value} (k : OutB w g b vl vr vd) (t : Kept X w w') (hx : X g) : OutB w' g b vl vr vd :=
  ⟨⟨t.cell k.bd.c0 hx, t.cell k.bd.c1 hx, t.cell k.bd.c2 hx, t.cell k.bd.c3 hx, t.cell k.bd.c4 hx, t.cell k.bd.c5 hx, t.cell k.bd.c6 hx, t.cell k.bd.c7 hx, t.cell k.bd.c8 hx⟩, fun i hi => (Touch.frozen t (p := ⟨g, i, none⟩) k.lt (fun n => n hx)).trans (k.fz i hi)⟩
theorem OutB.new (w : World) (b : BV) (vl vr vd : Value) (t : TypeId) :
    OutB (w.alloc (.cells #[.int .u8 b.flags, vl, .int .u32 b.mask, vr, .int .u32 b.metric, .bool b.type2, .int .u32 b.fwd, .int .u32 b.tag, vd] t)) w.heap.size b vl vr vd := ⟨Bd.new w b vl vr vd t, fun i hi => by simp [go_sem]⟩
theorem OutB.set0 {w : World} {g : Nat} {b : BV} {vl vr vd : Value} (k : OutB w g b vl vr vd) : OutB (w.setCell ⟨g, 0, none⟩ (.int .u8 0)) g { b with flags := 0 } vl vr vd := by
  obtain ⟨⟨c0, c1, c2, c3, c4, c5, c6, c7, c8⟩, fz⟩ := k
  exact ⟨⟨by simp [c0, go_sem], by simp [c1, go_sem], by simp [c2, go_sem], by simp [c3, go_sem], by simp [c4, go_sem], by simp [c5, go_sem], by simp [c6, go_sem], by simp [c7, go_sem], by simp [c8, go_sem]⟩, fun i hi => by simp [fz i hi, go_sem]⟩
theorem OutB.set6 {w : World} {g : Nat} {b : BV} {vl vr vd : Value} (k : OutB w g b vl vr vd) : OutB (w.setCell ⟨g, 6, none⟩ (.int .u32 0)) g { b with fwd := 0 } vl vr vd := by
  obtain ⟨⟨c0, c1, c2, c3, c4, c5, c6, c7, c8⟩, fz⟩ := k
  exact ⟨⟨by simp [c0, go_sem], by simp [c1, go_sem], by simp [c2, go_sem], by simp [c3, go_sem], by simp [c4, go_sem], by simp [c5, go_sem], by simp [c6, go_sem], by simp [c7, go_sem], by simp [c8, go_sem]⟩, fun i hi => by simp [fz i hi, go_sem]⟩
theorem OutB.set1 {w : World} {g : Nat} {b : BV} {vl vr vd : Value} (k : OutB w g b vl vr vd) : OutB (w.setCell ⟨g, 1, none⟩ (.slice none 0 0)) g { b with links := [] } (.slice none 0 0) vr vd := by
  obtain ⟨⟨c0, c1, c2, c3, c4, c5, c6, c7, c8⟩, fz⟩ := k
  exact ⟨⟨by simp [c0, go_sem], by simp [c1, go_sem], by simp [c2, go_sem], by simp [c3, go_sem], by simp [c4, go_sem], by simp [c5, go_sem], by simp [c6, go_sem], by simp [c7, go_sem], by simp [c8, go_sem]⟩, fun i hi => by simp [fz i hi, go_sem]⟩
theorem OutB.set8 {w : World} {g : Nat} {b : BV} {vl vr vd : Value} (k : OutB w g b vl vr vd) : OutB (w.setCell ⟨g, 8, none⟩ (.slice none 0 0)) g { b with data := [] } vl vr (.slice none 0 0) := by
  obtain ⟨⟨c0, c1, c2, c3, c4, c5, c6, c7, c8⟩, fz⟩ := k
  exact ⟨⟨by simp [c0, go_sem], by simp [c1, go_sem], by simp [c2, go_sem], by simp [c3, go_sem], by simp [c4, go_sem], by simp [c5, go_sem], by simp [c6, go_sem], by simp [c7, go_sem], by simp [c8, go_sem]⟩, fun i hi => by simp [fz i hi, go_sem]⟩
end Go.Proofs.YtjjgbcjgmjggnaaGreat

namespace Go.Proofs.YtjjgbcjgmjggnaaGreat
open Go.RowKit
set_option linter.unusedVariables false
set_option maxRecDepth 100000

/-- A callee that gives up, in a region that draws its order: the other way is none. -/
theorem Calls.dead {P : Program} {f : FuncId} {args : Array Value} {w : World} {c : List PanicEntry} {R : World → Prop} (v : Value) (h : Calls P f args w fun e w' => e = .panicked c ∧ R w') :
    Calls P f args w fun e w' => (e = .panicked c ∧ R w') ∨ (Hid False ∧ e = .returned v ∧ w = w') := h.mono (fun _ _ h => Or.inl h)
end Go.Proofs.YtjjgbcjgmjggnaaGreat

namespace Go.Proofs.YtjjgbcjgmjggnaaGreat
open Go.RowKit
set_option linter.unusedVariables false
set_option maxRecDepth 100000

theorem Room.set {w : World} {g n : Nat} (h : Room w g n) (j : Nat) (u : Value) : Room (w.setCell ⟨g, j, none⟩ u) g n := fun i hi => by
  obtain ⟨v, hc, hf⟩ := h i hi
  by_cases e : i = j
  · subst e; exact ⟨u, by simp [hc, go_sem], by simp [hf, go_sem]⟩
  · exact ⟨v, by simp [hc, go_sem], by simp [hf, go_sem]⟩
end Go.Proofs.YtjjgbcjgmjggnaaGreat

namespace Go.Proofs.YtjjgbcjgmjggnaaGreat
open Go.RowKit
set_option linter.unusedVariables false
set_option maxRecDepth 100000

theorem own_vals {w : World} {base e k n : Nat} {v : Value} {xs : List Value} (h : w.ownsRow base e k v n xs) : ValsAt w k v n xs := by
  refine ⟨h.1, ?_⟩
  rcases h.2 with h2 | ⟨g, cap, cur, hv, hb, hh, h1, h2, h3, h4⟩
  · exact Or.inl h2
  · refine Or.inr ⟨_, cap, hv, h1, h2, fun j u hj => ?_⟩
    have hjl := (List.getElem?_eq_some_iff.mp hj).1
    have hl := h.1
    rw [add_plain, Nat.zero_add]
    rw [← h4, List.getElem?_take, if_pos (by omega)] at hj
    simp [World.cell?, hh]
    simpa using hj
end Go.Proofs.YtjjgbcjgmjggnaaGreat

namespace Go.Proofs.YtjjgbcjgmjggnaaGreat
open Go.RowKit
set_option linter.unusedVariables false
set_option maxRecDepth 100000

theorem all_oneCell {cs : List Value} (h : ∀ v ∈ cs, v.oneCell' = true) : cs.toArray.all (·.oneCell') = true := Array.all_eq_true_iff_forall_mem.2 (fun v hv => h v (by simpa using hv))
/-- Block g holds just the cells xs. -/
def Row (w : World) (g : Nat) (T : TypeId) (xs : List Value) : Prop := w.heap[g]? = some (.cells xs.toArray T (0, 0))
theorem Row.cell {w : World} {g : Nat} {T : TypeId} {xs : List Value} (h : Row w g T xs) (j : Nat) : w.cell? ⟨g, j, none⟩ = xs[j]? := by
  rw [cell_of_row w g j _ T _ h]
  simp
theorem Row.frozen {w : World} {g : Nat} {T : TypeId} {xs : List Value} (h : Row w g T xs) (j : Nat) : w.frozen? ⟨g, j, none⟩ = false := frozen_of_row w g j _ T h
theorem Row.set {w : World} {g : Nat} {T : TypeId} {xs : List Value} (h : Row w g T xs) (j : Nat) (u : Value) : Row (w.setCell ⟨g, j, none⟩ u) g T (xs.set j u) := by
  unfold Row at *
  rw [heap_setCell_same w g j _ T u h]
  simp
theorem Row.keep {w w' : World} {g : Nat} {T : TypeId} {xs : List Value} (h : Row w g T xs) (t : Touch (fun _ => False) w w') : Row w' g T xs := t.heapN h
theorem Row.other {w : World} {g : Nat} {T : TypeId} {xs : List Value} (h : Row w g T xs) {p : Addr} (hp : g ≠ p.block) (u : Value) : Row (w.setCell p u) g T xs := (heap_setCell_other w p g u hp).trans h
theorem Row.lt {w : World} {g : Nat} {T : TypeId} {xs : List Value} (h : Row w g T xs) : g < w.heap.size := lt_of_heap h
theorem Row.setRow {w : World} {g : Nat} {T : TypeId} {xs : List Value} (h : Row w g T xs) (cs : Array Value) : Row (w.setRow g cs) g T cs.toList := by
  unfold Row at *
  rw [setRow_heap w g _ cs T _ h]
theorem row_new (w : World) (T : TypeId) (C : Array Value) : Row (w.alloc (.cells C T)) w.heap.size T C.toList := by
  unfold Row
  show (w.heap.push _)[w.heap.size]? = _
  simp
end Go.Proofs.YtjjgbcjgmjggnaaGreat

namespace Go.Proofs.YtjjgbcjgmjggnaaGreat
open Go.RowKit
set_option linter.unusedVariables false
set_option maxRecDepth 100000

attribute [local go_sem ↓] Go.wp_at_zero Go.wp_at_succ
end Go.Proofs.YtjjgbcjgmjggnaaGreat

namespace Go.Proofs.YtjjgbcjgmjggnaaGreat
open Go.RowKit
set_option linter.unusedVariables false
set_option maxRecDepth 100000

/-- A link lies in block g, and may be stored into. -/
structure Lk (w : World) (g : Nat) (x : LV) : Prop where
  c0 : w.cell? ⟨g, 0, none⟩ = some (.int .u32 x.id)
  c1 : w.cell? ⟨g, 1, none⟩ = some (.int .u32 x.data)
  c2 : w.cell? ⟨g, 2, none⟩ = some (.int .u8 x.typ)
  c3 : w.cell? ⟨g, 3, none⟩ = some (.int .u16 x.cost)
  f3 : w.frozen? ⟨g, 3, none⟩ = false
theorem Lk.touch {F : Nat → Prop} {w w' : World} {g : Nat} {x : LV} (h : Lk w g x) (t : Touch F w w') (hF : ¬ F g) : Lk w' g x := by
  have hl : g < w.heap.size := lt_of_cell h.c0
  exact ⟨(t.cell (p := ⟨g, 0, none⟩) hl hF).trans h.c0, (t.cell (p := ⟨g, 1, none⟩) hl hF).trans h.c1, (t.cell (p := ⟨g, 2, none⟩) hl hF).trans h.c2, (t.cell (p := ⟨g, 3, none⟩) hl hF).trans h.c3, (t.frozen (p := ⟨g, 3, none⟩) hl hF).trans h.f3⟩
/-- Room for a link. -/
structure RoomL (w : World) (g n : Nat) : Prop where
  out : Room w g n
theorem RoomL.touch {w w' : World} {g n b : Nat} (h : RoomL w g n) (t : Touch (fun k => k = b) w w') (hne : b ≠ g) : RoomL w' g n := ⟨h.out.touch t (fun e => hne e.symm)⟩
end Go.Proofs.YtjjgbcjgmjggnaaGreat

namespace Go.Proofs.YtjjgbcjgmjggnaaGreat
open Go.RowKit
set_option linter.unusedVariables false
set_option maxRecDepth 100000

attribute [local go_sem ↓] Go.wp_at_zero Go.wp_at_succ
end Go.Proofs.YtjjgbcjgmjggnaaGreat

namespace Go.Proofs.YtjjgbcjgmjggnaaGreat
open Go.RowKit
set_option linter.unusedVariables false
set_option maxRecDepth 100000

theorem q16 (rs : List Int) : nextAt rs (nextAt rs (nextAt rs (nextAt rs (nextAt rs (some 0) 4) 1) 3) 4) 4 = nextAt rs (some 0) 16 := by rw [nextAt_add, nextAt_add, nextAt_add, nextAt_add]
end Go.Proofs.YtjjgbcjgmjggnaaGreat

namespace Go.Proofs.YtjjgbcjgmjggnaaGreat
open Go.RowKit
set_option linter.unusedVariables false
set_option maxRecDepth 100000

/-- What Read tells of bytes that it refuses. -/
def readE (rs : List Int) : Int := if rs.length < 20 then 10 else if (rdHead (rs.take 20)).len < 20 then 22 else if (rs.length : Int) < (rdHead (rs.take 20)).len then 10 else 0
end Go.Proofs.YtjjgbcjgmjggnaaGreat
