/- Bodies and states as values and in memory. -/
import Derived.Test.YtfdpmlogieaiaaaStaMath
import Derived.Test.YtfdpmlogieaiaaaVals
namespace Go.Proofs.Ytfdpmlogieaiaaa
open Go.RowKit
set_option linter.unusedVariables false
set_option maxRecDepth 100000

def LV.cells (x : LV) : List Value := [.int .u32 x.id, .int .u32 x.data, .int .u8 x.typ, .int .u16 x.cost]
def linksC (l : List LV) : List Value := l.flatMap LV.cells
def wordsC (l : List Int) : List Value := l.map (Value.int .u32)
theorem length_linksC (l : List LV) : (linksC l).length = l.length * 4 := by
  induction l with
  | nil => rfl
  | cons x r ih => unfold linksC at *; rw [List.flatMap_cons, List.length_append, ih, List.length_cons]; simp [LV.cells]; omega
theorem length_wordsC (l : List Int) : (wordsC l).length = l.length := by simp [wordsC]
theorem linksC_append (a b : List LV) : linksC (a ++ b) = linksC a ++ linksC b := by simp [linksC]
theorem wordsC_append (a b : List Int) : wordsC (a ++ b) = wordsC a ++ wordsC b := by simp [wordsC]
theorem linksC_at (l : List LV) (j i : Nat) (x : LV) (hj : l[j]? = some x) (hi : i < 4) : (linksC l)[j * 4 + i]? = x.cells[i]? := by
  induction l generalizing j with
  | nil => simp at hj
  | cons y r ih =>
    have e : linksC (y :: r) = y.cells ++ linksC r := by simp [linksC]
    have hl : y.cells.length = 4 := rfl
    rw [e]
    cases j with
    | zero =>
      obtain rfl : y = x := by simpa using hj
      rw [List.getElem?_append_left (by omega), Nat.zero_mul, Nat.zero_add]
    | succ j =>
      rw [List.getElem?_append_right (by omega), hl, show (j + 1) * 4 + i - 4 = j * 4 + i by omega]
      exact ih j (by simpa using hj)
theorem oneCell_linksC (l : List LV) : ∀ u ∈ linksC l, u.oneCell' = true := by
  intro u hu
  simp only [linksC, List.mem_flatMap, LV.cells] at hu
  obtain ⟨x, _, hx⟩ := hu
  simp at hx
  rcases hx with rfl | rfl | rfl | rfl <;> rfl
theorem oneCell_wordsC (l : List Int) : ∀ u ∈ wordsC l, u.oneCell' = true := by
  intro u hu
  simp only [wordsC, List.mem_map] at hu
  obtain ⟨x, _, rfl⟩ := hu
  rfl
def LinksAt (w : World) (v : Value) (l : List LV) : Prop := ValsAt w 4 v l.length (linksC l)
def WordsAt (w : World) (v : Value) (l : List Int) : Prop := ValsAt w 1 v l.length (wordsC l)
theorem LinksAt.keep {w w' : World} {v : Value} {l : List LV} (h : LinksAt w v l) (t : Touch (fun _ => False) w w') : LinksAt w' v l := ValsAt.keep h t
theorem WordsAt.keep {w w' : World} {v : Value} {l : List Int} (h : WordsAt w v l) (t : Touch (fun _ => False) w w') : WordsAt w' v l := ValsAt.keep h t
theorem ArgAt.keepN {w w' : World} {v : Value} {l : List Int} (h : ArgAt w v l) (t : Touch (fun _ => False) w w') : ArgAt w' v l := h.keep t (fun _ _ h => h)

/-- A body as a value: its numbers, its three rows. -/
def BV.v (b : BV) (vl vr vd : Value) : Value := .agg #[.int .u8 b.flags, vl, .int .u32 b.mask, vr, .int .u32 b.metric, .bool b.type2, .int .u32 b.fwd, .int .u32 b.tag, vd]
/-- Its rows read so. -/
structure BArg (w : World) (b : BV) (vl vr vd : Value) : Prop where
  l : LinksAt w vl b.links
  r : WordsAt w vr b.routers
  d : ArgAt w vd b.data
theorem BArg.keep {w w' : World} {b : BV} {vl vr vd : Value} (h : BArg w b vl vr vd) (t : Touch (fun _ => False) w w') : BArg w' b vl vr vd := ⟨h.l.keep t, h.r.keep t, h.d.keepN t⟩
/-- It lies in block g. -/
structure Bd (w : World) (g : Nat) (b : BV) (vl vr vd : Value) : Prop where
  c0 : w.cell? ⟨g, 0, none⟩ = some (.int .u8 b.flags)
  c1 : w.cell? ⟨g, 1, none⟩ = some vl
  c2 : w.cell? ⟨g, 2, none⟩ = some (.int .u32 b.mask)
  c3 : w.cell? ⟨g, 3, none⟩ = some vr
  c4 : w.cell? ⟨g, 4, none⟩ = some (.int .u32 b.metric)
  c5 : w.cell? ⟨g, 5, none⟩ = some (.bool b.type2)
  c6 : w.cell? ⟨g, 6, none⟩ = some (.int .u32 b.fwd)
  c7 : w.cell? ⟨g, 7, none⟩ = some (.int .u32 b.tag)
  c8 : w.cell? ⟨g, 8, none⟩ = some vd
theorem Bd.keep {w w' : World} {g : Nat} {b : BV} {vl vr vd : Value} (k : Bd w g b vl vr vd) (t : Touch (fun _ => False) w w') : Bd w' g b vl vr vd :=
  ⟨t.cellN k.c0, t.cellN k.c1, t.cellN k.c2, t.cellN k.c3, t.cellN k.c4, t.cellN k.c5, t.cellN k.c6, t.cellN k.c7, t.cellN k.c8⟩
theorem Bd.new (w : World) (b : BV) (vl vr vd : Value) (t : TypeId) :
    Bd (w.alloc (.cells #[.int .u8 b.flags, vl, .int .u32 b.mask, vr, .int .u32 b.metric, .bool b.type2, .int .u32 b.fwd, .int .u32 b.tag, vd] t)) w.heap.size b vl vr vd :=
  ⟨by simp [go_sem], by simp [go_sem], by simp [go_sem], by simp [go_sem], by simp [go_sem], by simp [go_sem], by simp [go_sem], by simp [go_sem], by simp [go_sem]⟩

/-- A state as a value: its head's numbers, the row of its body. -/
def HV.sv (h : HV) (v : Value) : Value := .agg #[.int .u16 h.age, .int .u8 h.opts, .int .u8 h.typ, .int .u32 h.id, .int .u32 h.adv, .int .i32 h.seq, .int .u16 h.sum, .int .u16 h.len, v]
def HV.zero : HV := ⟨0, 0, 0, 0, 0, 0, 0, 0⟩
structure Sd (w : World) (g : Nat) (h : HV) (v : Value) : Prop where
  hd : Hd w g h
  c8 : w.cell? ⟨g, 8, none⟩ = some v
theorem Sd.keep {w w' : World} {g : Nat} {h : HV} {v : Value} (k : Sd w g h v) (t : Touch (fun _ => False) w w') : Sd w' g h v := ⟨k.hd.keep t, t.cellN k.c8⟩
theorem Sd.new (w : World) (h : HV) (v : Value) (t : TypeId) :
    Sd (w.alloc (.cells #[.int .u16 h.age, .int .u8 h.opts, .int .u8 h.typ, .int .u32 h.id, .int .u32 h.adv, .int .i32 h.seq, .int .u16 h.sum, .int .u16 h.len, v] t)) w.heap.size h v :=
  ⟨⟨by simp [go_sem], by simp [go_sem], by simp [go_sem], by simp [go_sem], by simp [go_sem], by simp [go_sem], by simp [go_sem], by simp [go_sem]⟩, by simp [go_sem]⟩
end Go.Proofs.Ytfdpmlogieaiaaa
