
/- Rows of elements of several cells, of the call's own. -/
import Derived.Test.YtdfacfpjhnohcaaTrCmp
import Derived.Test.YtdfacfpjhnohcaaRowB
namespace Go.Proofs.Ytdfacfpjhnohcaa
open Go.RowKit
set_option linter.unusedVariables false
set_option maxRecDepth 100000

/-- The cells of a row of elements. -/
def cellsG {α : Type} (cs : α → List Value) (l : List α) : List Value := l.flatMap cs
section
variable {α : Type} {cs : α → List Value} {k : Nat}
theorem cellsG_append (l l' : List α) : cellsG cs (l ++ l') = cellsG cs l ++ cellsG cs l' := List.flatMap_append
theorem length_cellsG (hk : ∀ x, (cs x).length = k) (l : List α) : (cellsG cs l).length = l.length * k := by
  induction l with
  | nil => simp [cellsG]
  | cons a l ih =>
    have e : cellsG cs (a :: l) = cs a ++ cellsG cs l := rfl
    rw [e, List.length_append, ih, hk]
    simp [Nat.add_mul]
    omega
theorem cellsG_get (hk : ∀ x, (cs x).length = k) : ∀ (l : List α) (i c : Nat), c < k → (cellsG cs l)[i * k + c]? = (l[i]?).bind (fun e => (cs e)[c]?)
  | [], i, c, h => by simp [cellsG]
  | e :: l, 0, c, h => by
    have e1 : cellsG cs (e :: l) = cs e ++ cellsG cs l := rfl
    rw [e1, List.getElem?_append_left (by rw [hk]; omega)]
    simp
  | e :: l, i + 1, c, h => by
    have e1 : cellsG cs (e :: l) = cs e ++ cellsG cs l := rfl
    have e2 : (i + 1) * k = i * k + k := by rw [Nat.add_mul, Nat.one_mul]
    rw [e1, List.getElem?_append_right (by rw [hk, e2]; omega)]
    have e3 : (i + 1) * k + c - (cs e).length = i * k + c := by rw [hk, e2]; omega
    rw [e3, cellsG_get hk l i c h]
    simp
theorem cellsG_set1 (hk : ∀ x, (cs x).length = k) (l : List α) (i c : Nat) (hc : c < k) (x y : α) (hi : l[i]? = some x) (u : Value) (hy : cs y = (cs x).set c u) : cellsG cs (l.set i y) = (cellsG cs l).set (i * k + c) u := by
  apply List.ext_getElem?
  intro j
  have hil := (List.getElem?_eq_some_iff.1 hi).1
  have hk0 : 0 < k := by omega
  have hj : j = j / k * k + j % k := by rw [Nat.mul_comm]; exact (Nat.div_add_mod j k).symm
  have h3 : j % k < k := Nat.mod_lt _ hk0
  generalize j / k = q at hj
  generalize j % k = d at hj h3
  subst hj
  rw [cellsG_get hk _ _ _ h3]
  simp only [List.getElem?_set, length_cellsG hk]
  by_cases hq : i = q
  · subst hq
    rw [if_pos rfl, if_pos hil]
    have hlt : i * k + k ≤ l.length * k := by
      have := Nat.mul_le_mul_right k (show i + 1 ≤ l.length by omega)
      rw [Nat.add_mul, Nat.one_mul] at this
      exact this
    by_cases hd : c = d
    · subst hd
      rw [if_pos rfl, if_pos (by omega)]
      simp [hy, hk, hc]
    · rw [if_neg (by omega), cellsG_get hk _ _ _ h3, hi]
      simp [hy, hd]
  · rw [if_neg hq, if_neg ?_, cellsG_get hk _ _ _ h3]
    intro e
    rcases Nat.lt_or_gt_of_ne hq with h | h
    · have := Nat.mul_le_mul_right k (show i + 1 ≤ q by omega)
      rw [Nat.add_mul, Nat.one_mul] at this
      omega
    · have := Nat.mul_le_mul_right k (show q + 1 ≤ i by omega)
      rw [Nat.add_mul, Nat.one_mul] at this
      omega
theorem cellsG_take (hk : ∀ x, (cs x).length = k) (l : List α) (n : Nat) : cellsG cs (l.take n) = (cellsG cs l).take (n * k) := by
  rcases Nat.lt_or_ge l.length n with h | h
  · rw [List.take_of_length_le (by omega), List.take_of_length_le (by rw [length_cellsG hk]; exact Nat.mul_le_mul_right k (by omega))]
  · have e := congrArg (cellsG cs) (List.take_append_drop n l)
    rw [cellsG_append] at e
    rw [← e, List.take_append_of_le_length (by rw [length_cellsG hk]; simp [Nat.min_eq_left h])]
    exact (List.take_of_length_le (by rw [length_cellsG hk]; simp [Nat.min_eq_left h])).symm
end
/-- The slice v is a row of the call's own that holds the elements l. -/
def RG {α : Type} (cs : α → List Value) (k T : Nat) (B : Nat) (w : World) (v : Value) (l : List α) : Prop := w.ownsRow B T k v l.length (cellsG cs l)
section
variable {α : Type} {cs : α → List Value} {k T B : Nat} {w w' : World} {v : Value} {l : List α}
theorem RG.keep {F : Nat → Prop} (h : RG cs k T B w v l) (t : Touch F w w') (hn : ∀ j, v.ownBlock = some j → ¬ F j) : RG cs k T B w' v l := own_touch h t hn
theorem RG.keepN (h : RG cs k T B w v l) (t : Touch (fun _ => False) w w') : RG cs k T B w' v l := own_touch h t (fun _ _ h => h)
theorem RG.form (h : RG cs k T B w v l) (hl : 0 < l.length) : ∃ g cap, v = .slice (some ⟨g, 0, none⟩) l.length cap ∧ l.length ≤ cap ∧ g < w.heap.size ∧ B ≤ g := by
  obtain ⟨h1, h2 | ⟨g, cap, cur, hv, hb, hh, hc, _⟩⟩ := h
  · omega
  · exact ⟨g, cap, hv, hc, lt_of_heap hh, hb⟩
theorem RG.shape (h : RG cs k T B w v l) : ∃ a cap, v = .slice a l.length cap := by
  obtain ⟨h1, ⟨h2, h3⟩ | ⟨g, cap, cur, hv, _⟩⟩ := h
  · exact ⟨none, 0, by rw [h2, h3]⟩
  · exact ⟨_, _, hv⟩
theorem RG.lt (h : RG cs k T B w v l) {g : Nat} (hg : v.ownBlock = some g) : g < w.heap.size := (World.ownsRow.lt h g hg).2
theorem RG.ge (h : RG cs k T B w v l) {g : Nat} (hg : v.ownBlock = some g) : B ≤ g := (World.ownsRow.lt h g hg).1
/-- Its block is of that type. -/
theorem RG.blk (h : RG cs k T B w v l) {g : Nat} (hg : v.ownBlock = some g) : ∃ cur, w.heap[g]? = some (.cells cur T) := by
  obtain ⟨h1, ⟨h2, h3⟩ | ⟨g', cap, cur, hv, hb, hh, _⟩⟩ := h
  · rw [h2] at hg; cases hg
  · rw [hv] at hg
    cases hg
    exact ⟨cur, hh⟩
theorem RG.cell (hk : ∀ x, (cs x).length = k) {g c n : Nat} (h : RG cs k T B w (.slice (some ⟨g, 0, none⟩) n c) l) {i d : Nat} {x : α} {u : Value} (hi : l[i]? = some x) (hd : (cs x)[d]? = some u) : w.cell? ⟨g, i * k + d, none⟩ = some u := by
  have hdk : d < k := by rw [← hk x]; exact (List.getElem?_eq_some_iff.1 hd).1
  have := World.ownsRow.cells h (g := g) rfl (i * k + d) u (by rw [cellsG_get hk _ _ _ hdk, hi]; exact hd)
  rw [add_plain, Nat.zero_add] at this
  exact this
theorem RG.fz {g c n : Nat} (h : RG cs k T B w (.slice (some ⟨g, 0, none⟩) n c) l) (j : Nat) : w.frozen? ⟨g, j, none⟩ = false := by
  obtain ⟨h1, ⟨h2, h3⟩ | ⟨g', cap, cur, hv, _, hh, _⟩⟩ := h
  · cases h2
  · cases hv
    exact frozen_of_row w g j _ _ hh
/-- A store into a cell of it. -/
theorem RG.set1 (hk : ∀ x, (cs x).length = k) {g c n : Nat} (h : RG cs k T B w (.slice (some ⟨g, 0, none⟩) n c) l) {i d : Nat} (hd : d < k) {x y : α} (hi : l[i]? = some x) {u : Value} (hy : cs y = (cs x).set d u) :
    RG cs k T B (w.setCell ⟨g, i * k + d, none⟩ u) (.slice (some ⟨g, 0, none⟩) n c) (l.set i y) := by
  obtain ⟨h1, ⟨h2, h3⟩ | ⟨g', cap, cur, hv, hg, hh, hn, hm, hs, hx⟩⟩ := h
  · cases h2
  · have R : Row w g' T cur.toList := by unfold Row; simpa using hh
    cases hv
    have R1 := R.set (i * k + d) u
    refine ⟨length_cellsG hk _, Or.inr ⟨g, c, _, by simp, hg, R1, by simpa using hn, hm, by simpa using hs, ?_⟩⟩
    rw [cellsG_set1 hk l i d hd x y hi u hy, ← hx, List.length_set]
    simp only [List.take_set]
/-- The row without its last. -/
theorem RG.cut (hk : ∀ x, (cs x).length = k) {g c n : Nat} (h : RG cs k T B w (.slice (some ⟨g, 0, none⟩) n c) l) {m : Nat} (hm : m ≤ l.length) : RG cs k T B w (.slice (some ⟨g, 0, none⟩) m c) (l.take m) := by
  obtain ⟨h1, ⟨h2, h3⟩ | ⟨g', cap, cur, hv, hg, hh, hn, hm', hs, hx⟩⟩ := h
  · cases h2
  · cases hv
    have e : (l.take m).length = m := by simp; omega
    refine ⟨length_cellsG hk _, Or.inr ⟨g, c, cur, by rw [e], hg, hh, by omega, hm', hs, ?_⟩⟩
    rw [e, cellsG_take hk, ← hx, List.take_take, Nat.min_eq_left (Nat.mul_le_mul_right k hm)]
end
/-- Blocks of unlike types are not one. -/
theorem blk_ne {w : World} {a b Ta Tb : Nat} {x y : Array Value} (ha : w.heap[a]? = some (.cells x Ta)) (hb : w.heap[b]? = some (.cells y Tb)) (h : Ta ≠ Tb) : a ≠ b := by
  intro e
  subst e
  rw [ha] at hb
  injection hb with hb
  injection hb with _ hb
  exact h hb

def Sp.cs (s : Sp) : List Value := [.int .i64 s.node, .int .u32 s.cost, .int .u32 s.h.out, .int .u32 s.h.via, .bool s.h.vr]
def Sp.v (s : Sp) : Value := .agg #[.int .i64 s.node, .int .u32 s.cost, .int .u32 s.h.out, .int .u32 s.h.via, .bool s.h.vr]
theorem Sp.len (s : Sp) : s.cs.length = 5 := rfl
theorem HK.len (s : HK) : s.cs.length = 3 := rfl
/-- A row of steps. -/
abbrev RS (B : Nat) (w : World) (v : Value) (l : List Sp) : Prop := RG Sp.cs 5 68 B w v l
/-- A row of hops. -/
abbrev RH (B : Nat) (w : World) (v : Value) (l : List HK) : Prop := RG HK.cs 3 45 B w v l
theorem RS.cells {B : Nat} {w : World} {g c n : Nat} {l : List Sp} (h : RS B w (.slice (some ⟨g, 0, none⟩) n c) l) {i : Nat} {x : Sp} (hi : l[i]? = some x) :
    w.cell? ⟨g, i * 5, none⟩ = some (.int .i64 x.node) ∧ w.cell? ⟨g, i * 5 + 1, none⟩ = some (.int .u32 x.cost) ∧ w.cell? ⟨g, i * 5 + 2, none⟩ = some (.int .u32 x.h.out) ∧ w.cell? ⟨g, i * 5 + 3, none⟩ = some (.int .u32 x.h.via) ∧ w.cell? ⟨g, i * 5 + 4, none⟩ = some (.bool x.h.vr) :=
  ⟨RG.cell (d := 0) Sp.len h hi rfl, RG.cell (d := 1) Sp.len h hi rfl, RG.cell (d := 2) Sp.len h hi rfl, RG.cell (d := 3) Sp.len h hi rfl, RG.cell (d := 4) Sp.len h hi rfl⟩
theorem set_at {α : Type} {l : List α} {i : Nat} (hi : i < l.length) (y : α) : (l.set i y)[i]? = some y := by simp [hi]
/-- A whole step is stored. -/
theorem RS.set {B : Nat} {w : World} {g c n : Nat} {l : List Sp} (h : RS B w (.slice (some ⟨g, 0, none⟩) n c) l) {i : Nat} (hi : i < l.length) (e : Sp) :
    RS B (((((w.setCell ⟨g, i * 5, none⟩ (.int .i64 e.node)).setCell ⟨g, i * 5 + 1, none⟩ (.int .u32 e.cost)).setCell ⟨g, i * 5 + 2, none⟩ (.int .u32 e.h.out)).setCell ⟨g, i * 5 + 3, none⟩ (.int .u32 e.h.via)).setCell ⟨g, i * 5 + 4, none⟩ (.bool e.h.vr)) (.slice (some ⟨g, 0, none⟩) n c) (l.set i e) := by
  obtain ⟨x, hx⟩ : ∃ x, l[i]? = some x := ⟨_, List.getElem?_eq_getElem hi⟩
  obtain ⟨x0, x1, x2, x3, x4⟩ := x
  obtain ⟨e0, e1, e2, e3, e4⟩ := e
  have h0 := RG.set1 Sp.len h (d := 0) (y := ⟨e0, x1, x2, x3, x4⟩) (by omega) hx (u := .int .i64 e0) rfl
  have h1 := RG.set1 Sp.len h0 (d := 1) (y := ⟨e0, e1, x2, x3, x4⟩) (by omega) (set_at hi _) (u := .int .u32 e1) rfl
  rw [List.set_set] at h1
  have h2 := RG.set1 Sp.len h1 (d := 2) (y := ⟨e0, e1, e2, x3, x4⟩) (by omega) (set_at hi _) (u := .int .u32 e2) rfl
  rw [List.set_set] at h2
  have h3 := RG.set1 Sp.len h2 (d := 3) (y := ⟨e0, e1, e2, e3, x4⟩) (by omega) (set_at hi _) (u := .int .u32 e3) rfl
  rw [List.set_set] at h3
  have h4 := RG.set1 Sp.len h3 (d := 4) (y := ⟨e0, e1, e2, e3, e4⟩) (by omega) (set_at hi _) (u := .bool e4) rfl
  rw [List.set_set] at h4
  exact h4
end Go.Proofs.Ytdfacfpjhnohcaa
