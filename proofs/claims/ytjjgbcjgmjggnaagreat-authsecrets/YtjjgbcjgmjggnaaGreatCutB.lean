/- Bodies and states as values and in memory. -/
import Derived.Test.YtjjgbcjgmjggnaaGreatVals
import Derived.Recover
import Derived.Defers
import Derived.WalkKit
import Derived.Test.YtjjgbcjgmjggnaaGreatKeep
import Derived.Test.YtjjgbcjgmjggnaaGreatDigBase
import Derived.Deep.RegionHeld3
import Derived.Deep.DeepCutAuto
namespace Go.Proofs.YtjjgbcjgmjggnaaGreat
open Go.RowKit
set_option linter.unusedVariables false
set_option maxRecDepth 100000

def LV.cells (x : LV) : List Value := [.int .u32 x.id, .int .u32 x.data, .int .u8 x.typ, .int .u16 x.cost]
def linksC (l : List LV) : List Value := l.flatMap LV.cells
def wordsC (l : List Int) : List Value := l.map (Value.int .u32)
theorem oneCell_wordsC (l : List Int) : ∀ u ∈ wordsC l, u.oneCell' = true := by
  intro u hu
  simp only [wordsC, List.mem_map] at hu
  obtain ⟨x, _, rfl⟩ := hu
  rfl
def LinksAt (w : World) (v : Value) (l : List LV) : Prop := ValsAt w 4 v l.length (linksC l)
def WordsAt (w : World) (v : Value) (l : List Int) : Prop := ValsAt w 1 v l.length (wordsC l)
theorem LinksAt.keep {w w' : World} {v : Value} {l : List LV} (h : LinksAt w v l) (t : Touch (fun _ => False) w w') : LinksAt w' v l := ValsAt.keep h t
theorem WordsAt.keep {w w' : World} {v : Value} {l : List Int} (h : WordsAt w v l) (t : Touch (fun _ => False) w w') : WordsAt w' v l := ValsAt.keep h t
theorem ArgAt.keepN {w w' : World} {v : Value} {l : List Int} (h : ArgAt w v l) (t : Touch (fun _ => False) w w') : ArgAt w' v l := h.keep t (fun _ _ h => h)

/-- A body as a value: its numbers, its three rows. -/
def BV.v (b : BV) (vl vr vd : Value) : Value := .agg #[.int .u8 b.flags, vl, .int .u32 b.mask, vr, .int .u32 b.metric, .bool b.type2, .int .u32 b.fwd, .int .u32 b.tag, vd]
/-- Its rows read so. -/
structure BArg (w : World) (b : BV) (vl vr vd : Value) : Prop where
  l : LinksAt w vl b.links
  r : WordsAt w vr b.routers
  d : ArgAt w vd b.data
theorem BArg.keep {w w' : World} {b : BV} {vl vr vd : Value} (h : BArg w b vl vr vd) (t : Touch (fun _ => False) w w') : BArg w' b vl vr vd := ⟨h.l.keep t, h.r.keep t, h.d.keepN t⟩
/-- It lies in block g. -/
structure Bd (w : World) (g : Nat) (b : BV) (vl vr vd : Value) : Prop where
  c0 : w.cell? ⟨g, 0, none⟩ = some (.int .u8 b.flags)
  c1 : w.cell? ⟨g, 1, none⟩ = some vl
  c2 : w.cell? ⟨g, 2, none⟩ = some (.int .u32 b.mask)
  c3 : w.cell? ⟨g, 3, none⟩ = some vr
  c4 : w.cell? ⟨g, 4, none⟩ = some (.int .u32 b.metric)
  c5 : w.cell? ⟨g, 5, none⟩ = some (.bool b.type2)
  c6 : w.cell? ⟨g, 6, none⟩ = some (.int .u32 b.fwd)
  c7 : w.cell? ⟨g, 7, none⟩ = some (.int .u32 b.tag)
  c8 : w.cell? ⟨g, 8, none⟩ = some vd
theorem Bd.keep {w w' : World} {g : Nat} {b : BV} {vl vr vd : Value} (k : Bd w g b vl vr vd) (t : Touch (fun _ => False) w w') : Bd w' g b vl vr vd :=
  ⟨t.cellN k.c0, t.cellN k.c1, t.cellN k.c2, t.cellN k.c3, t.cellN k.c4, t.cellN k.c5, t.cellN k.c6, t.cellN k.c7, t.cellN k.c8⟩
theorem Bd.new (w : World) (b : BV) (vl vr vd : Value) (t : TypeId) :
    Bd (w.alloc (.cells #[.int .u8 b.flags, vl, .int .u32 b.mask, vr, .int .u32 b.metric, .bool b.type2, .int .u32 b.fwd, .int .u32 b.tag, vd] t)) w.heap.size b vl vr vd :=
  ⟨by simp [go_sem], by simp [go_sem], by simp [go_sem], by simp [go_sem], by simp [go_sem], by simp [go_sem], by simp [go_sem], by simp [go_sem], by simp [go_sem]⟩

/-- A state as a value: its head's numbers, the row of its body. -/
def HV.sv (h : HV) (v : Value) : Value := .agg #[.int .u16 h.age, .int .u8 h.opts, .int .u8 h.typ, .int .u32 h.id, .int .u32 h.adv, .int .i32 h.seq, .int .u16 h.sum, .int .u16 h.len, v]
def HV.zero : HV := ⟨0, 0, 0, 0, 0, 0, 0, 0⟩
structure Sd (w : World) (g : Nat) (h : HV) (v : Value) : Prop where
  hd : Hd w g h
  c8 : w.cell? ⟨g, 8, none⟩ = some v
theorem Sd.keep {w w' : World} {g : Nat} {h : HV} {v : Value} (k : Sd w g h v) (t : Touch (fun _ => False) w w') : Sd w' g h v := ⟨k.hd.keep t, t.cellN k.c8⟩
theorem Sd.new (w : World) (h : HV) (v : Value) (t : TypeId) :
    Sd (w.alloc (.cells #[.int .u16 h.age, .int .u8 h.opts, .int .u8 h.typ, .int .u32 h.id, .int .u32 h.adv, .int .i32 h.seq, .int .u16 h.sum, .int .u16 h.len, v] t)) w.heap.size h v :=
  ⟨⟨by simp [go_sem], by simp [go_sem], by simp [go_sem], by simp [go_sem], by simp [go_sem], by simp [go_sem], by simp [go_sem], by simp [go_sem]⟩, by simp [go_sem]⟩
end Go.Proofs.YtjjgbcjgmjggnaaGreat

namespace Go.Proofs.YtjjgbcjgmjggnaaGreat
open Go.RowKit
set_option linter.unusedVariables false
set_option maxRecDepth 100000

/-- A state lies in block g, and may be stored into. -/
structure Out (w : World) (g : Nat) (h : HV) (v : Value) : Prop where
  sd : Sd w g h v
  fz : ∀ i, i < 9 → w.frozen? ⟨g, i, none⟩ = false
theorem Out.lt {w : World} {g : Nat} {h : HV} {v : Value} (k : Out w g h v) : g < w.heap.size := lt_of_cell k.sd.hd.c0
theorem Out.keep {w w' : World} {g : Nat} {h : HV} {v : Value} (k : Out w g h v) (t : Touch (fun _ => False) w w') : Out w' g h v :=
  ⟨k.sd.keep t, fun i hi => (t.frozen (p := ⟨g, i, none⟩) k.lt (fun h => h)).trans (k.fz i hi)⟩
theorem Out.new (w : World) (h : HV) (v : Value) (t : TypeId) :
    Out (w.alloc (.cells #[.int .u16 h.age, .int .u8 h.opts, .int .u8 h.typ, .int .u32 h.id, .int .u32 h.adv, .int .i32 h.seq, .int .u16 h.sum, .int .u16 h.len, v] t)) w.heap.size h v :=
  ⟨Sd.new w h v t, fun i hi => by simp [go_sem]⟩
theorem Out.set6 {w : World} {g : Nat} {h : HV} {v : Value} (k : Out w g h v) (x : Int) : Out (w.setCell ⟨g, 6, none⟩ (.int .u16 x)) g { h with sum := x } v := by
  obtain ⟨⟨⟨c0, c1, c2, c3, c4, c5, c6, c7⟩, c8⟩, fz⟩ := k
  exact ⟨⟨⟨by simp [c0, go_sem], by simp [c1, go_sem], by simp [c2, go_sem], by simp [c3, go_sem], by simp [c4, go_sem], by simp [c5, go_sem], by simp [c6, go_sem], by simp [c7, go_sem]⟩, by simp [c8, go_sem]⟩, fun i hi => by simp [fz i hi, go_sem]⟩
theorem Out.set8 {w : World} {g : Nat} {h : HV} {v : Value} (k : Out w g h v) (u : Value) : Out (w.setCell ⟨g, 8, none⟩ u) g h u := by
  obtain ⟨⟨⟨c0, c1, c2, c3, c4, c5, c6, c7⟩, c8⟩, fz⟩ := k
  exact ⟨⟨⟨by simp [c0, go_sem], by simp [c1, go_sem], by simp [c2, go_sem], by simp [c3, go_sem], by simp [c4, go_sem], by simp [c5, go_sem], by simp [c6, go_sem], by simp [c7, go_sem]⟩, by simp [c8, go_sem]⟩, fun i hi => by simp [fz i hi, go_sem]⟩
theorem Out.other {w : World} {g : Nat} {h : HV} {v : Value} (k : Out w g h v) {p : Addr} (hp : p.block ≠ g) (u : Value) : Out (w.setCell p u) g h v := by
  have t : Touch (fun k => k = p.block) w (w.setCell p u) := Touch.setCell (F := fun k => k = p.block) (Touch.refl _ w) (p := p) (Or.inl rfl) u
  have hl := k.lt
  have ce : ∀ i, (w.setCell p u).cell? ⟨g, i, none⟩ = w.cell? ⟨g, i, none⟩ := fun i => t.cell (p := ⟨g, i, none⟩) hl (fun e => hp e.symm)
  obtain ⟨⟨⟨c0, c1, c2, c3, c4, c5, c6, c7⟩, c8⟩, fz⟩ := k
  exact ⟨⟨⟨(ce 0).trans c0, (ce 1).trans c1, (ce 2).trans c2, (ce 3).trans c3, (ce 4).trans c4, (ce 5).trans c5, (ce 6).trans c6, (ce 7).trans c7⟩, (ce 8).trans c8⟩,
    fun i hi => (t.frozen (p := ⟨g, i, none⟩) hl (fun e => hp e.symm)).trans (fz i hi)⟩
theorem own_lower {w : World} {base base' e k n : Nat} {v : Value} {xs : List Value} (h : w.ownsRow base e k v n xs) (hb : base' ≤ base) : w.ownsRow base' e k v n xs := by
  refine ⟨h.1, ?_⟩
  rcases h.2 with h2 | ⟨g, cap, cur, hv, hg, r⟩
  · exact Or.inl h2
  · exact Or.inr ⟨g, cap, cur, hv, by omega, r⟩
end Go.Proofs.YtjjgbcjgmjggnaaGreat

namespace Go.Proofs.YtjjgbcjgmjggnaaGreat
open Go.RowKit
set_option linter.unusedVariables false
set_option maxRecDepth 100000

theorem size_any (h : HV) (a : Option Addr) (n c : Nat) (w : World) (hn : n ≤ 140737488355328) : Calls Tryz.prog 149 #[h.sv (.slice a n c)] w fun e w' => e = .returned (.int .i64 (20 + (n : Int))) ∧ Touch (fun _ => False) w w' := by
  have hw : wrap64 (20 + (n : Int)) = 20 + (n : Int) := by unfold wrap64; omega
  unfold HV.sv
  go_enter Tryz.func149, Tryz.ntmps149
  go_wp2
  go_ret
  exact ⟨rfl, (Touch.refl _ w).alloc _⟩
end Go.Proofs.YtjjgbcjgmjggnaaGreat

namespace Go.Proofs.YtjjgbcjgmjggnaaGreat
open Go.RowKit
set_option linter.unusedVariables false
set_option maxRecDepth 100000

theorem cap_of {w : World} {g off c n : Nat} {rs : List Int} (h : RowAt w (.slice (some ⟨g, off, none⟩) n c) rs) : n = rs.length ∧ n ≤ c ∧ c ≤ maxLen := by
  rcases h with ⟨h, _⟩ | ⟨g', off', c', h, h1, h2, _⟩
  · cases h
  · cases h; exact ⟨rfl, h1, h2⟩
theorem drop_row {w : World} {g off c n : Nat} {rs : List Int} (h : RowAt w (.slice (some ⟨g, off, none⟩) n c) rs) (m : Nat) (hm : m ≤ n) : RowAt w (.slice (some ⟨g, off + m, none⟩) (n - m) (c - m)) (rs.drop m) := by
  rcases h with ⟨h, _⟩ | ⟨g', off', c', h, h1, h2, h3⟩
  · cases h
  · cases h
    refine Or.inr ⟨g, off + m, c - m, by simp, by simp; omega, by omega, fun j u hj => ?_⟩
    rw [Nat.add_assoc]
    refine h3 (m + j) u ?_
    simpa [bytesOf, List.getElem?_drop] using hj
theorem take_row {w : World} {g off c n : Nat} {rs : List Int} (h : RowAt w (.slice (some ⟨g, off, none⟩) n c) rs) (m : Nat) (hm : m ≤ n) : RowAt w (.slice (some ⟨g, off, none⟩) m c) (rs.take m) := by
  rcases h with ⟨h, _⟩ | ⟨g', off', c', h, h1, h2, h3⟩
  · cases h
  · cases h
    refine Or.inr ⟨g, off, c, by simp; omega, by simp; omega, by omega, fun j u hj => ?_⟩
    refine h3 j u ?_
    simp only [bytesOf, List.getElem?_map, List.getElem?_take] at hj ⊢
    split at hj
    · exact hj
    · simp at hj
theorem empty_arg (w : World) (ad : Addr) (c : Nat) (hc : c ≤ maxLen) : ArgAt w (.slice (some ad) 0 c) [] := Or.inr ⟨ad, c, rfl, Nat.zero_le _, hc, fun j u hj => by simp [bytesOf] at hj⟩

/-- b[i:j], of a row that is not empty. -/
theorem cut_mid {w : World} {va : Option Addr} {vc n : Nat} {rs : List Int} (h : ArgAt w (.slice va n vc) rs) (hn : n = rs.length) (hp : 0 < n) (i j : Nat) (hij : i ≤ j) (hj : j ≤ n) :
    ∃ v, (∀ w, Sem.run Tryz.prog (Instr.slice 43 (.slice va n vc) (some (.int .i64 (i : Int))) (some (.int .i64 (j : Int))) none) w = .ok v w) ∧ ArgAt w v ((rs.drop i).take (j - i)) := by
  subst hn
  have hr := h.row hp
  obtain ⟨ga, oa, rfl⟩ := rowAt_some hr hp
  obtain ⟨-, hc1, hc2⟩ := cap_of hr
  have hc2' : (vc : Int) ≤ 9223372036854775807 := by unfold maxLen at hc2; omega
  have h0 : (0 : Int) ≤ (i : Int) := by omega
  have h0' : (0 : Int) ≤ (j : Int) := by omega
  have h1 : (j : Int) ≤ (vc : Int) := by omega
  have h2 : (i : Int) ≤ (j : Int) := by omega
  by_cases hz : vc = i
  · refine ⟨.slice (some ⟨ga, oa, none⟩) (j - i) (vc - i), fun w => ?_, ?_⟩
    · simp [Instr.slice, Instr.sliceBounds, Instr.sliceBound, go_sem, h0, h0', hz]
      rw [if_pos (by omega), if_pos (by omega)]
    · have : j - i = 0 := by omega
      rw [this, List.take_zero]
      exact empty_arg w _ _ (by unfold maxLen; omega)
  · refine ⟨.slice (some ⟨ga, oa + i, none⟩) (j - i) (vc - i), fun w => ?_, (take_row (drop_row hr i (by omega)) (j - i) (by omega)).arg⟩
    simp [Instr.slice, Instr.sliceBounds, Instr.sliceBound, go_sem, h0, h0', hz]
    rw [if_pos (by omega), if_pos hij]
/-- b[i:]. -/
theorem cut_from {w : World} {va : Option Addr} {vc n : Nat} {rs : List Int} (h : ArgAt w (.slice va n vc) rs) (hn : n = rs.length) (hp : 0 < n) (i : Nat) (hi : i ≤ n) :
    ∃ v, (∀ w, Sem.run Tryz.prog (Instr.slice 43 (.slice va n vc) (some (.int .i64 (i : Int))) none none) w = .ok v w) ∧ ArgAt w v (rs.drop i) := by
  subst hn
  have hr := h.row hp
  obtain ⟨ga, oa, rfl⟩ := rowAt_some hr hp
  obtain ⟨-, hc1, hc2⟩ := cap_of hr
  have hc2' : (vc : Int) ≤ 9223372036854775807 := by unfold maxLen at hc2; omega
  have h0 : (0 : Int) ≤ (i : Int) := by omega
  have h2 : (i : Int) ≤ (rs.length : Int) := by omega
  have h3 : (rs.length : Int) ≤ (vc : Int) := by omega
  by_cases hz : vc = i
  · refine ⟨.slice (some ⟨ga, oa, none⟩) (rs.length - i) (vc - i), fun w => ?_, ?_⟩
    · simp [Instr.slice, Instr.sliceBounds, Instr.sliceBound, go_sem, h0, hz]
      omega
    · have : rs.length - i = 0 := by omega
      rw [this, List.drop_eq_nil_of_le (by omega)]
      exact empty_arg w _ _ (by unfold maxLen; omega)
  · refine ⟨.slice (some ⟨ga, oa + i, none⟩) (rs.length - i) (vc - i), fun w => ?_, (drop_row hr i hi).arg⟩
    simp [Instr.slice, Instr.sliceBounds, Instr.sliceBound, go_sem, h0, hz]
    omega
/-- b[:j]. -/
theorem cut_to {w : World} {va : Option Addr} {vc n : Nat} {rs : List Int} (h : ArgAt w (.slice va n vc) rs) (hn : n = rs.length) (hp : 0 < n) (j : Nat) (hj : j ≤ n) :
    ∃ v, (∀ w, Sem.run Tryz.prog (Instr.slice 43 (.slice va n vc) none (some (.int .i64 (j : Int))) none) w = .ok v w) ∧ ArgAt w v (rs.take j) := by
  subst hn
  have hr := h.row hp
  obtain ⟨ga, oa, rfl⟩ := rowAt_some hr hp
  obtain ⟨-, hc1, hc2⟩ := cap_of hr
  have hc2' : (vc : Int) ≤ 9223372036854775807 := by unfold maxLen at hc2; omega
  have h0 : (0 : Int) ≤ (j : Int) := by omega
  have h1 : (j : Int) ≤ (vc : Int) := by omega
  have hne : ¬ vc = 0 := by omega
  refine ⟨.slice (some ⟨ga, oa, none⟩) j vc, fun w => ?_, (take_row hr j hj).arg⟩
  simp [Instr.slice, Instr.sliceBounds, Instr.sliceBound, go_sem, h0]
  intro hh; omega
end Go.Proofs.YtjjgbcjgmjggnaaGreat
