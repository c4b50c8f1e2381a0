
/- Rows of the document's entries in memory (made out of QuRow by gen_qudoc.py). -/
import Derived.Test.YtmdnlfbploaafaaQuCalls2
namespace Go.Proofs.Ytmdnlfbploaafaa
open Go.RowKit
set_option linter.unusedVariables false
set_option maxRecDepth 100000

/-- The slice v is a row of the call's own that holds the entries l. -/
def RD (w : World) (v : Value) (l : List En) : Prop := w.ownsRow 0 62 3 v l.length (cellsOf l)
theorem RD.keep {F : Nat → Prop} {w w' : World} {v : Value} {l : List En} (h : RD w v l) (t : Touch F w w') (hn : ∀ k, v.ownBlock = some k → ¬ F k) : RD w' v l := own_touch h t hn
theorem RD.form {w : World} {v : Value} {l : List En} (h : RD w v l) (hl : 0 < l.length) : ∃ g cap, v = .slice (some ⟨g, 0, none⟩) l.length cap ∧ l.length ≤ cap ∧ g < w.heap.size := by
  obtain ⟨h1, h2 | ⟨g, cap, cur, hv, _, hh, hc, _⟩⟩ := h
  · omega
  · exact ⟨g, cap, hv, hc, lt_of_heap hh⟩
theorem RD.shape {w : World} {v : Value} {l : List En} (h : RD w v l) : ∃ a cap, v = .slice a l.length cap := by
  obtain ⟨h1, ⟨h2, h3⟩ | ⟨g, cap, cur, hv, _⟩⟩ := h
  · exact ⟨none, 0, by rw [h2, h3]⟩
  · exact ⟨_, _, hv⟩
theorem RD.cells {w : World} {g c : Nat} {l : List En} {n : Nat} (h : RD w (.slice (some ⟨g, 0, none⟩) n c) l) {i : Nat} (hi : i < l.length) :
    w.cell? ⟨g, i * 3, none⟩ = some (.int .i64 (gt l i).a) ∧ w.cell? ⟨g, i * 3 + 1, none⟩ = some (.int .i64 (gt l i).r) ∧ w.cell? ⟨g, i * 3 + 2, none⟩ = some (.int .u64 (gt l i).k) := by
  have hc := World.ownsRow.cells h (g := g) rfl
  have e : l[i]? = some (gt l i) := gt_some hi
  refine ⟨?_, ?_, ?_⟩
  · have := hc (i * 3 + 0) (.int .i64 (gt l i).a) (by rw [cellsOf_get _ _ _ (by omega), e]; rfl)
    by_cases h0 : i * 3 = 0
    · simpa [Addr.add, h0] using this
    · simpa [Addr.add, h0] using this
  · have := hc (i * 3 + 1) (.int .i64 (gt l i).r) (by rw [cellsOf_get _ _ _ (by omega), e]; rfl)
    simpa [Addr.add] using this
  · have := hc (i * 3 + 2) (.int .u64 (gt l i).k) (by rw [cellsOf_get _ _ _ (by omega), e]; rfl)
    simpa [Addr.add] using this
theorem RD.fz {w : World} {g c : Nat} {l : List En} {n : Nat} (h : RD w (.slice (some ⟨g, 0, none⟩) n c) l) (j : Nat) : w.frozen? ⟨g, j, none⟩ = false := by
  obtain ⟨h1, ⟨h2, h3⟩ | ⟨g', cap, cur, hv, _, hh, _⟩⟩ := h
  · cases h2
  · cases hv
    exact frozen_of_row w g j _ _ hh
/-- A store into the row. -/
theorem RD.set {w : World} {g c : Nat} {l : List En} {n : Nat} (h : RD w (.slice (some ⟨g, 0, none⟩) n c) l) {i : Nat} (hi : i < l.length) (e : En) :
    RD (((w.setCell ⟨g, i * 3, none⟩ (.int .i64 e.a)).setCell ⟨g, i * 3 + 1, none⟩ (.int .i64 e.r)).setCell ⟨g, i * 3 + 2, none⟩ (.int .u64 e.k)) (.slice (some ⟨g, 0, none⟩) n c) (l.set i e) := by
  obtain ⟨h1, ⟨h2, h3⟩ | ⟨g', cap, cur, hv, hg, hh, hn, hm, hs, hx⟩⟩ := h
  · cases h2
  · have R : Row w g' 62 cur.toList := by unfold Row; simpa using hh
    cases hv
    have R3 := ((R.set (i * 3) (.int .i64 e.a)).set (i * 3 + 1) (.int .i64 e.r)).set (i * 3 + 2) (.int .u64 e.k)
    refine ⟨by rw [length_cellsOf], Or.inr ⟨g, c, _, by simp, hg, R3, by simpa using hn, hm, by simpa using hs, ?_⟩⟩
    rw [cellsOf_set l i e hi, ← hx, List.length_set]
    simp only [List.take_set]
/-- The row without its last. -/
theorem RD.cut {w : World} {g c : Nat} {l : List En} {n : Nat} (h : RD w (.slice (some ⟨g, 0, none⟩) n c) l) {k : Nat} (hk : k ≤ l.length) : RD w (.slice (some ⟨g, 0, none⟩) k c) (l.take k) := by
  obtain ⟨h1, ⟨h2, h3⟩ | ⟨g', cap, cur, hv, hg, hh, hn, hm, hs, hx⟩⟩ := h
  · cases h2
  · cases hv
    have e : (l.take k).length = k := by simp; omega
    refine ⟨length_cellsOf _, Or.inr ⟨g, c, cur, by rw [e], hg, hh, by omega, hm, hs, ?_⟩⟩
    rw [e, cellsOf_take, ← hx, List.take_take, Nat.min_eq_left (by omega)]

/-- The document's queue in memory. -/
structure DS (w : World) (b : Nat) (v : Value) (most : Int) (l : List En) : Prop where
  c0 : w.cell? ⟨b, 0, none⟩ = some v
  c1 : w.cell? ⟨b, 1, none⟩ = some (.int .i64 most)
  f0 : w.frozen? ⟨b, 0, none⟩ = false
  rd : RD w v l
  bv : v.ownBlock ≠ some b
  nk : NK l
  ok : ∀ e ∈ l, e.Ok
  m2 : most ≤ 1048576
  ml : (l.length : Int) ≤ most
def dB (b : Nat) (v : Value) : Nat → Prop := fun k => k = b ∨ v.ownBlock = some k
theorem DS.lt {w : World} {b : Nat} {v : Value} {most : Int} {l : List En} (h : DS w b v most l) : ∀ k, dB b v k → k < w.heap.size := by
  intro k hk
  rcases hk with rfl | hk
  · exact lt_of_cell h.c0
  · exact (World.ownsRow.lt h.rd k hk).2
theorem DS.keep {F : Nat → Prop} {w w' : World} {b : Nat} {v : Value} {most : Int} {l : List En} (h : DS w b v most l) (t : Touch F w w') (hF : ∀ k, dB b v k → ¬ F k) : DS w' b v most l :=
  have hb := hF b (Or.inl rfl)
  have hl := lt_of_cell h.c0
  ⟨(t.cell (p := ⟨b, 0, none⟩) hl hb).trans h.c0, (t.cell (p := ⟨b, 1, none⟩) hl hb).trans h.c1, (t.frozen (p := ⟨b, 0, none⟩) hl hb).trans h.f0, h.rd.keep t (fun k hk => hF k (Or.inr hk)), h.bv, h.nk, h.ok, h.m2, h.ml⟩
/-- .. that holds L now. -/
structure DN (w : World) (b : Nat) (v : Value) (most : Int) (L : List En) (w' : World) : Prop where
  out : ∃ v', DS w' b v' most L ∧ ∀ k, v'.ownBlock = some k → v.ownBlock = some k ∨ w.heap.size ≤ k
  t : Touch (dB b v) w w'
theorem DN.same {w w' : World} {b : Nat} {v : Value} {most : Int} {l : List En} (h : DS w b v most l) (t : Touch (fun _ => False) w w') : DN w b v most l w' :=
  ⟨⟨v, h.keep t (fun _ _ h => h), fun _ hk => Or.inl hk⟩, t.mono (fun _ _ h => h.elim)⟩
end Go.Proofs.Ytmdnlfbploaafaa
