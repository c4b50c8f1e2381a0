/- Rows of values of any element type: that came in, and that grow by append. -/
import Derived.Test.YtjffcflhbnmjmaaGreatStRd
import Derived.Test.YtjffcflhbnmjmaaGreatStaMath
import Derived.Recover
import Derived.Defers
namespace Go.Proofs.YtjffcflhbnmjmaaGreat
open Go.RowKit
set_option linter.unusedVariables false
set_option maxRecDepth 100000

/-- A slice of n elements of k cells each reads, cell by cell, as xs; of the address of one without cells nothing is known. -/
def ValsAt (w : World) (k : Nat) (v : Value) (n : Nat) (xs : List Value) : Prop :=
  xs.length = n * k ∧ ((v = .slice none 0 0 ∧ n = 0) ∨ ∃ ad c, v = .slice (some ad) n c ∧ n ≤ c ∧ c ≤ maxLen ∧ ∀ j u, xs[j]? = some u → w.cell? (ad.add j) = some u)
theorem ValsAt.form {w : World} {k : Nat} {v : Value} {n : Nat} {xs : List Value} (h : ValsAt w k v n xs) : ∃ a c, v = .slice a n c ∧ n ≤ maxLen := by
  rcases h.2 with ⟨rfl, rfl⟩ | ⟨ad, c, rfl, h1, h2, _⟩
  · exact ⟨_, _, rfl, Nat.zero_le _⟩
  · exact ⟨_, _, rfl, Nat.le_trans h1 h2⟩
theorem ValsAt.keep {w w' : World} {k : Nat} {v : Value} {n : Nat} {xs : List Value} (h : ValsAt w k v n xs) (t : Touch (fun _ => False) w w') : ValsAt w' k v n xs := by
  refine ⟨h.1, ?_⟩
  rcases h.2 with h | ⟨ad, c, rfl, h1, h2, h3⟩
  · exact Or.inl h
  · exact Or.inr ⟨ad, c, rfl, h1, h2, fun j u hj => t.cellN (h3 j u hj)⟩
/-- Where there is an element: its cells. -/
theorem ValsAt.cells {w : World} {k : Nat} {v : Value} {n : Nat} {xs : List Value} (h : ValsAt w k v n xs) (hn : 0 < n) (hk : 0 < k) :
    ∃ g off c, v = .slice (some ⟨g, off, none⟩) n c ∧ n ≤ c ∧ c ≤ maxLen ∧ ∀ j u, xs[j]? = some u → w.cell? ⟨g, off + j, none⟩ = some u := by
  obtain ⟨hl, h⟩ := h
  rcases h with ⟨_, rfl⟩ | ⟨ad, c, rfl, h1, h2, h3⟩
  · omega
  · have hp : 0 < xs.length := by rw [hl]; exact Nat.mul_pos hn hk
    obtain ⟨g, off, spot⟩ := ad
    have hc := h3 0 xs[0] (by simp [hp])
    have hspot : spot = none := by simpa [Addr.add] using World.cell?_spot hc
    subst hspot
    exact ⟨g, off, c, rfl, h1, h2, fun j u hj => by have := h3 j u hj; rwa [add_plain] at this⟩
section
variable {ops : Array Oper} {rest : List Oper} {o : Oper} {a : Act} {Q : Exit → Act → World → Prop} {w : World}
end
end Go.Proofs.YtjffcflhbnmjmaaGreat

namespace Go.Proofs.YtjffcflhbnmjmaaGreat
open Go.RowKit
set_option linter.unusedVariables false
set_option maxRecDepth 100000

def LV.cells (x : LV) : List Value := [.int .u32 x.id, .int .u32 x.data, .int .u8 x.typ, .int .u16 x.cost]
def linksC (l : List LV) : List Value := l.flatMap LV.cells
def wordsC (l : List Int) : List Value := l.map (Value.int .u32)
theorem linksC_append (a b : List LV) : linksC (a ++ b) = linksC a ++ linksC b := by simp [linksC]
theorem wordsC_append (a b : List Int) : wordsC (a ++ b) = wordsC a ++ wordsC b := by simp [wordsC]
theorem linksC_at (l : List LV) (j i : Nat) (x : LV) (hj : l[j]? = some x) (hi : i < 4) : (linksC l)[j * 4 + i]? = x.cells[i]? := by
  induction l generalizing j with
  | nil => simp at hj
  | cons y r ih =>
    have e : linksC (y :: r) = y.cells ++ linksC r := by simp [linksC]
    have hl : y.cells.length = 4 := rfl
    rw [e]
    cases j with
    | zero =>
      obtain rfl : y = x := by simpa using hj
      rw [List.getElem?_append_left (by omega), Nat.zero_mul, Nat.zero_add]
    | succ j =>
      rw [List.getElem?_append_right (by omega), hl, show (j + 1) * 4 + i - 4 = j * 4 + i by omega]
      exact ih j (by simpa using hj)
def LinksAt (w : World) (v : Value) (l : List LV) : Prop := ValsAt w 4 v l.length (linksC l)
def WordsAt (w : World) (v : Value) (l : List Int) : Prop := ValsAt w 1 v l.length (wordsC l)
theorem LinksAt.keep {w w' : World} {v : Value} {l : List LV} (h : LinksAt w v l) (t : Touch (fun _ => False) w w') : LinksAt w' v l := ValsAt.keep h t
theorem WordsAt.keep {w w' : World} {v : Value} {l : List Int} (h : WordsAt w v l) (t : Touch (fun _ => False) w w') : WordsAt w' v l := ValsAt.keep h t
theorem ArgAt.keepN {w w' : World} {v : Value} {l : List Int} (h : ArgAt w v l) (t : Touch (fun _ => False) w w') : ArgAt w' v l := h.keep t (fun _ _ h => h)

/-- A body as a value: its numbers, its three rows. -/
def BV.v (b : BV) (vl vr vd : Value) : Value := .agg #[.int .u8 b.flags, vl, .int .u32 b.mask, vr, .int .u32 b.metric, .bool b.type2, .int .u32 b.fwd, .int .u32 b.tag, vd]
/-- Its rows read so. -/
structure BArg (w : World) (b : BV) (vl vr vd : Value) : Prop where
  l : LinksAt w vl b.links
  r : WordsAt w vr b.routers
  d : ArgAt w vd b.data
theorem BArg.keep {w w' : World} {b : BV} {vl vr vd : Value} (h : BArg w b vl vr vd) (t : Touch (fun _ => False) w w') : BArg w' b vl vr vd := ⟨h.l.keep t, h.r.keep t, h.d.keepN t⟩
/-- It lies in block g. -/
structure Bd (w : World) (g : Nat) (b : BV) (vl vr vd : Value) : Prop where
  c0 : w.cell? ⟨g, 0, none⟩ = some (.int .u8 b.flags)
  c1 : w.cell? ⟨g, 1, none⟩ = some vl
  c2 : w.cell? ⟨g, 2, none⟩ = some (.int .u32 b.mask)
  c3 : w.cell? ⟨g, 3, none⟩ = some vr
  c4 : w.cell? ⟨g, 4, none⟩ = some (.int .u32 b.metric)
  c5 : w.cell? ⟨g, 5, none⟩ = some (.bool b.type2)
  c6 : w.cell? ⟨g, 6, none⟩ = some (.int .u32 b.fwd)
  c7 : w.cell? ⟨g, 7, none⟩ = some (.int .u32 b.tag)
  c8 : w.cell? ⟨g, 8, none⟩ = some vd
theorem Bd.keep {w w' : World} {g : Nat} {b : BV} {vl vr vd : Value} (k : Bd w g b vl vr vd) (t : Touch (fun _ => False) w w') : Bd w' g b vl vr vd :=
  ⟨t.cellN k.c0, t.cellN k.c1, t.cellN k.c2, t.cellN k.c3, t.cellN k.c4, t.cellN k.c5, t.cellN k.c6, t.cellN k.c7, t.cellN k.c8⟩
theorem Bd.new (w : World) (b : BV) (vl vr vd : Value) (t : TypeId) :
    Bd (w.alloc (.cells #[.int .u8 b.flags, vl, .int .u32 b.mask, vr, .int .u32 b.metric, .bool b.type2, .int .u32 b.fwd, .int .u32 b.tag, vd] t)) w.heap.size b vl vr vd :=
  ⟨by simp [go_sem], by simp [go_sem], by simp [go_sem], by simp [go_sem], by simp [go_sem], by simp [go_sem], by simp [go_sem], by simp [go_sem], by simp [go_sem]⟩

/-- A state as a value: its head's numbers, the row of its body. -/
def HV.sv (h : HV) (v : Value) : Value := .agg #[.int .u16 h.age, .int .u8 h.opts, .int .u8 h.typ, .int .u32 h.id, .int .u32 h.adv, .int .i32 h.seq, .int .u16 h.sum, .int .u16 h.len, v]
def HV.zero : HV := ⟨0, 0, 0, 0, 0, 0, 0, 0⟩
structure Sd (w : World) (g : Nat) (h : HV) (v : Value) : Prop where
  hd : Hd w g h
  c8 : w.cell? ⟨g, 8, none⟩ = some v
theorem Sd.keep {w w' : World} {g : Nat} {h : HV} {v : Value} (k : Sd w g h v) (t : Touch (fun _ => False) w w') : Sd w' g h v := ⟨k.hd.keep t, t.cellN k.c8⟩
theorem Sd.new (w : World) (h : HV) (v : Value) (t : TypeId) :
    Sd (w.alloc (.cells #[.int .u16 h.age, .int .u8 h.opts, .int .u8 h.typ, .int .u32 h.id, .int .u32 h.adv, .int .i32 h.seq, .int .u16 h.sum, .int .u16 h.len, v] t)) w.heap.size h v :=
  ⟨⟨by simp [go_sem], by simp [go_sem], by simp [go_sem], by simp [go_sem], by simp [go_sem], by simp [go_sem], by simp [go_sem], by simp [go_sem]⟩, by simp [go_sem]⟩
end Go.Proofs.YtjffcflhbnmjmaaGreat

namespace Go.Proofs.YtjffcflhbnmjmaaGreat
open Go.RowKit
set_option linter.unusedVariables false
set_option maxRecDepth 100000

/-- A state lies in block g, and may be stored into. -/
structure Out (w : World) (g : Nat) (h : HV) (v : Value) : Prop where
  sd : Sd w g h v
  fz : ∀ i, i < 9 → w.frozen? ⟨g, i, none⟩ = false
theorem Out.lt {w : World} {g : Nat} {h : HV} {v : Value} (k : Out w g h v) : g < w.heap.size := lt_of_cell k.sd.hd.c0
theorem Out.keep {w w' : World} {g : Nat} {h : HV} {v : Value} (k : Out w g h v) (t : Touch (fun _ => False) w w') : Out w' g h v :=
  ⟨k.sd.keep t, fun i hi => (t.frozen (p := ⟨g, i, none⟩) k.lt (fun h => h)).trans (k.fz i hi)⟩
theorem Out.new (w : World) (h : HV) (v : Value) (t : TypeId) :
    Out (w.alloc (.cells #[.int .u16 h.age, .int .u8 h.opts, .int .u8 h.typ, .int .u32 h.id, .int .u32 h.adv, .int .i32 h.seq, .int .u16 h.sum, .int .u16 h.len, v] t)) w.heap.size h v :=
  ⟨Sd.new w h v t, fun i hi => by simp [go_sem]⟩
theorem Out.set6 {w : World} {g : Nat} {h : HV} {v : Value} (k : Out w g h v) (x : Int) : Out (w.setCell ⟨g, 6, none⟩ (.int .u16 x)) g { h with sum := x } v := by
  obtain ⟨⟨⟨c0, c1, c2, c3, c4, c5, c6, c7⟩, c8⟩, fz⟩ := k
  exact ⟨⟨⟨by simp [c0, go_sem], by simp [c1, go_sem], by simp [c2, go_sem], by simp [c3, go_sem], by simp [c4, go_sem], by simp [c5, go_sem], by simp [c6, go_sem], by simp [c7, go_sem]⟩, by simp [c8, go_sem]⟩, fun i hi => by simp [fz i hi, go_sem]⟩
theorem Out.set7 {w : World} {g : Nat} {h : HV} {v : Value} (k : Out w g h v) (x : Int) : Out (w.setCell ⟨g, 7, none⟩ (.int .u16 x)) g { h with len := x } v := by
  obtain ⟨⟨⟨c0, c1, c2, c3, c4, c5, c6, c7⟩, c8⟩, fz⟩ := k
  exact ⟨⟨⟨by simp [c0, go_sem], by simp [c1, go_sem], by simp [c2, go_sem], by simp [c3, go_sem], by simp [c4, go_sem], by simp [c5, go_sem], by simp [c6, go_sem], by simp [c7, go_sem]⟩, by simp [c8, go_sem]⟩, fun i hi => by simp [fz i hi, go_sem]⟩
theorem Out.set8 {w : World} {g : Nat} {h : HV} {v : Value} (k : Out w g h v) (u : Value) : Out (w.setCell ⟨g, 8, none⟩ u) g h u := by
  obtain ⟨⟨⟨c0, c1, c2, c3, c4, c5, c6, c7⟩, c8⟩, fz⟩ := k
  exact ⟨⟨⟨by simp [c0, go_sem], by simp [c1, go_sem], by simp [c2, go_sem], by simp [c3, go_sem], by simp [c4, go_sem], by simp [c5, go_sem], by simp [c6, go_sem], by simp [c7, go_sem]⟩, by simp [c8, go_sem]⟩, fun i hi => by simp [fz i hi, go_sem]⟩
theorem Out.other {w : World} {g : Nat} {h : HV} {v : Value} (k : Out w g h v) {p : Addr} (hp : p.block ≠ g) (u : Value) : Out (w.setCell p u) g h v := by
  have t : Touch (fun k => k = p.block) w (w.setCell p u) := Touch.setCell (F := fun k => k = p.block) (Touch.refl _ w) (p := p) (Or.inl rfl) u
  have hl := k.lt
  have ce : ∀ i, (w.setCell p u).cell? ⟨g, i, none⟩ = w.cell? ⟨g, i, none⟩ := fun i => t.cell (p := ⟨g, i, none⟩) hl (fun e => hp e.symm)
  obtain ⟨⟨⟨c0, c1, c2, c3, c4, c5, c6, c7⟩, c8⟩, fz⟩ := k
  exact ⟨⟨⟨(ce 0).trans c0, (ce 1).trans c1, (ce 2).trans c2, (ce 3).trans c3, (ce 4).trans c4, (ce 5).trans c5, (ce 6).trans c6, (ce 7).trans c7⟩, (ce 8).trans c8⟩,
    fun i hi => (t.frozen (p := ⟨g, i, none⟩) hl (fun e => hp e.symm)).trans (fz i hi)⟩
/-- A row of the call's own and a store into an older block. -/
theorem own_store {w : World} {base e k n : Nat} {v : Value} {xs : List Value} (h : w.ownsRow base e k v n xs) {p : Addr} (hp : p.block < base) (u : Value) : (w.setCell p u).ownsRow base e k v n xs :=
  own_touch h (Touch.setCell (F := fun k => k = p.block) (Touch.refl _ w) (p := p) (Or.inl rfl) u) (fun j hj e => by have := (h.lt j hj).1; omega)
theorem own_lower {w : World} {base base' e k n : Nat} {v : Value} {xs : List Value} (h : w.ownsRow base e k v n xs) (hb : base' ≤ base) : w.ownsRow base' e k v n xs := by
  refine ⟨h.1, ?_⟩
  rcases h.2 with h2 | ⟨g, cap, cur, hv, hg, r⟩
  · exact Or.inl h2
  · exact Or.inr ⟨g, cap, cur, hv, by omega, r⟩
end Go.Proofs.YtjffcflhbnmjmaaGreat

namespace Go.Proofs.YtjffcflhbnmjmaaGreat
open Go.RowKit
set_option linter.unusedVariables false
set_option maxRecDepth 100000

/-- A flaw on its way. -/
def flawC (e : Int) : List PanicEntry := [{ v := .iface 160 (.int .i64 e), recovered := false }]

theorem need_ok (e : Int) (w : World) : Calls Tryz.prog 74 #[.bool true, .int .i64 e] w fun x w' => x = .returned (.tuple #[]) ∧ w = w' := by
  go_enter Tryz.func74, Tryz.ntmps74
  go_wp2
  go_end0
  exact ⟨rfl, rfl⟩
theorem need_no (e : Int) (w : World) : Calls Tryz.prog 74 #[.bool false, .int .i64 e] w fun x w' => x = .panicked (flawC e) ∧ w = w' := by
  go_enter Tryz.func74, Tryz.ntmps74
  go_wp2
  exact ⟨rfl, rfl, rfl⟩
theorem need_t (t : Bool) (e : Int) (w : World) (ht : t = true) : Calls Tryz.prog 74 #[.bool t, .int .i64 e] w fun x w' => x = .returned (.tuple #[]) ∧ w = w' := by subst ht; exact need_ok e w
theorem need_f (t : Bool) (e : Int) (w : World) (ht : t = false) : Calls Tryz.prog 74 #[.bool t, .int .i64 e] w fun x w' => x = .panicked (flawC e) ∧ w = w' := by subst ht; exact need_no e w
theorem ta_flaw (e : Int) (w : World) : (Instr.typeAssert (.iface 160 (.int .i64 e)) 20 160 true).run Tryz.prog w = .ok (.tuple #[.int .i64 e, .bool true]) w := by kernel_rfl
theorem ta_nil (w : World) : (Instr.typeAssert .nilIface 20 160 true).run Tryz.prog w = .ok (.tuple #[.int .i64 0, .bool false]) w := by kernel_rfl
end Go.Proofs.YtjffcflhbnmjmaaGreat
