
/- Plain facts: which blocks a call may touch, and the state of a writer and of a reader of bytes in memory. -/
import Derived.Test.YtojlnabhaglejaaRows
import Derived.WalkKit
import Derived.Below
import Derived.Maps.AppendAt
import Derived.Deep.QuietTactic
import Derived.BigQuiet
import Derived.Handy
import Derived.WalkSpells
namespace Go.Proofs.Ytojlnabhaglejaa
open Go.RowKit
set_option linter.unusedVariables false
set_option maxRecDepth 100000

/-- Outside the blocks F nothing that was there has turned. -/
structure Touch (F : Nat → Prop) (w w' : World) : Prop where
  os : w'.os = w.os
  tape : w'.tape = w.tape
  output : w'.output = w.output
  size : w.heap.size ≤ w'.heap.size
  block : ∀ k, k < w.heap.size → ¬ F k → w'.heap[k]? = w.heap[k]?

theorem Touch.refl (F : Nat → Prop) (w : World) : Touch F w w := ⟨rfl, rfl, rfl, Nat.le_refl _, fun _ _ _ => rfl⟩
theorem Touch.trans {F : Nat → Prop} {a b c : World} (h : Touch F a b) (k : Touch F b c) : Touch F a c :=
  ⟨k.os.trans h.os, k.tape.trans h.tape, k.output.trans h.output, Nat.le_trans h.size k.size, fun i hi hn => (k.block i (Nat.lt_of_lt_of_le hi h.size) hn).trans (h.block i hi hn)⟩
/-- What is touched of new blocks counts nothing. -/
theorem Touch.trans' {F G : Nat → Prop} {a b c : World} (h : Touch F a b) (k : Touch G b c) (hG : ∀ i, i < a.heap.size → G i → F i) : Touch F a c :=
  ⟨k.os.trans h.os, k.tape.trans h.tape, k.output.trans h.output, Nat.le_trans h.size k.size, fun i hi hn => (k.block i (Nat.lt_of_lt_of_le hi h.size) (fun g => hn (hG i hi g))).trans (h.block i hi hn)⟩
theorem Touch.mono {F G : Nat → Prop} {a b : World} (h : Touch F a b) (hG : ∀ i, i < a.heap.size → F i → G i) : Touch G a b :=
  ⟨h.os, h.tape, h.output, h.size, fun i hi hn => h.block i hi (fun f => hn (hG i hi f))⟩
theorem Touch.drew {F : Nat → Prop} {a w : World} (h : Touch F a w) : Touch F a w.drew := ⟨h.os, h.tape, h.output, h.size, h.block⟩
theorem Touch.drewN {F : Nat → Prop} {a w : World} (h : Touch F a w) (n : Nat) : Touch F a (w.drewN n) := ⟨h.os, h.tape, h.output, h.size, h.block⟩
theorem Touch.alloc {F : Nat → Prop} {a w : World} (h : Touch F a w) (o : Obj) : Touch F a (w.alloc o) :=
  h.trans ⟨rfl, rfl, rfl, by simp, fun k hk _ => Below.heap_alloc _ _ _ hk⟩
theorem Touch.setCell {F : Nat → Prop} {a w : World} (h : Touch F a w) {p : Addr} (hp : F p.block ∨ a.heap.size ≤ p.block) (u : Value) : Touch F a (w.setCell p u) := by
  refine ⟨h.os, h.tape, h.output, by have := h.size; simpa [World.setCell] using this, fun k hk hn => ?_⟩
  rw [Below.heap_setCell _ _ _ _ (by rintro rfl; rcases hp with hp | hp; exact hn hp; omega)]
  exact h.block k hk hn
theorem Touch.grown {F : Nat → Prop} {a w w' : World} {row : Option Nat} (h : Touch F a w) (hg : w.grownBy w' row) (hr : ∀ k, row = some k → F k ∨ a.heap.size ≤ k) : Touch F a w' := by
  refine ⟨hg.os.trans h.os, hg.tape.trans h.tape, hg.output.trans h.output, Nat.le_trans h.size hg.size, fun k hk hn => ?_⟩
  rw [hg.block k (Nat.lt_of_lt_of_le hk h.size) (fun e => by rcases hr k e.symm with hp | hp; exact hn hp; omega)]
  exact h.block k hk hn
theorem Touch.cell {F : Nat → Prop} {w w' : World} (h : Touch F w w') {p : Addr} (hp : p.block < w.heap.size) (hn : ¬ F p.block) : w'.cell? p = w.cell? p := World.cell?_of_block (w := w) (h.block p.block hp hn)
theorem Touch.frozen {F : Nat → Prop} {w w' : World} (h : Touch F w w') {p : Addr} (hp : p.block < w.heap.size) (hn : ¬ F p.block) : w'.frozen? p = w.frozen? p := World.frozen?_of_block (w := w) (h.block p.block hp hn)
theorem Touch.below {F : Nat → Prop} {w w' : World} (h : Touch F w w') {B : Nat} (hB : B ≤ w.heap.size) (hn : ∀ k, k < B → ¬ F k) : Below B w w' :=
  ⟨h.os, h.tape, h.output, h.size, fun k hk => h.block k (by omega) (hn k hk)⟩

theorem lt_of_cell {w : World} {b o : Nat} {v : Value} (h : w.cell? ⟨b, o, none⟩ = some v) : b < w.heap.size := by
  rcases Nat.lt_or_ge b w.heap.size with h' | h'
  · exact h'
  · simp [World.cell?, Array.getElem?_eq_none h'] at h

theorem lt_of_cellA {w : World} {a : Addr} {v : Value} (h : w.cell? a = some v) : a.block < w.heap.size := by
  rcases Nat.lt_or_ge a.block w.heap.size with h' | h'
  · exact h'
  · simp [World.cell?, Array.getElem?_eq_none h'] at h
theorem lt_of_heap {w : World} {b : Nat} {o : Obj} (h : w.heap[b]? = some o) : b < w.heap.size := by
  rcases Nat.lt_or_ge b w.heap.size with h' | h'
  · exact h'
  · simp [Array.getElem?_eq_none h'] at h
theorem Touch.heapN {w w' : World} (t : Touch (fun _ => False) w w') {b : Nat} {o : Obj} (h : w.heap[b]? = some o) : w'.heap[b]? = some o := (t.block b (lt_of_heap h) (fun h => h)).trans h
theorem Touch.cellN {w w' : World} (t : Touch (fun _ => False) w w') {a : Addr} {v : Value} (h : w.cell? a = some v) : w'.cell? a = some v := (t.cell (lt_of_cellA h) (fun h => h)).trans h
theorem Touch.setRow {F : Nat → Prop} {a w : World} (h : Touch F a w) {g : Nat} (hp : F g ∨ a.heap.size ≤ g) (R : Array Value) : Touch F a (w.setRow g R) := by
  refine ⟨h.os, h.tape, h.output, by have := h.size; simpa [World.setRow] using this, fun k hk hn => ?_⟩
  rw [setRow_other w g k R (by rintro rfl; rcases hp with hp | hp; exact hn hp; omega)]
  exact h.block k hk hn
theorem own_touch {F : Nat → Prop} {w w' : World} {base : Nat} {e : TypeId} {size : Nat} {v : Value} {n : Nat} {xs : List Value} (h : w.ownsRow base e size v n xs) (t : Touch F w w') (hn : ∀ k, v.ownBlock = some k → ¬ F k) : w'.ownsRow base e size v n xs := by
  obtain ⟨h1, h2⟩ := h
  refine ⟨h1, ?_⟩
  rcases h2 with h2 | ⟨g, cap, cur, hv, hg, hh, r⟩
  · exact Or.inl h2
  · refine Or.inr ⟨g, cap, cur, hv, hg, ?_, r⟩
    have hlt : g < w.heap.size := by
      rcases Nat.lt_or_ge g w.heap.size with h' | h'
      · exact h'
      · simp [Array.getElem?_eq_none h'] at hh
    rw [t.block g hlt (hn g (by subst hv; rfl))]
    exact hh

def bytesOf (bs : List Int) : List Value := bs.map (Value.int .u8)
/-- A writer that Write made lies in block b: its bytes, its limit, its error. -/
structure WrS (w : World) (b : Nat) (v : Value) (bs : List Int) (most err : Int) : Prop where
  made : w.cell? ⟨b, 0, none⟩ = some (.bool true)
  row : w.cell? ⟨b, 1, none⟩ = some v
  most : w.cell? ⟨b, 2, none⟩ = some (.int .i64 most)
  err : w.cell? ⟨b, 3, none⟩ = some (.int .i64 err)
  f1 : w.frozen? ⟨b, 1, none⟩ = false
  f3 : w.frozen? ⟨b, 3, none⟩ = false
  own : w.ownsRow (b + 1) 5 1 v bs.length (bytesOf bs)

theorem WrS.touch {F : Nat → Prop} {w w' : World} {b : Nat} {v : Value} {bs : List Int} {most err : Int} (h : WrS w b v bs most err) (t : Touch F w w') (hb : ¬ F b) (hn : ∀ k, v.ownBlock = some k → ¬ F k) : WrS w' b v bs most err := by
  have hl := lt_of_cell h.made
  exact ⟨(t.cell hl hb).trans h.made, (t.cell hl hb).trans h.row, (t.cell hl hb).trans h.most, (t.cell hl hb).trans h.err, (t.frozen hl hb).trans h.f1, (t.frozen hl hb).trans h.f3, own_touch h.own t hn⟩

theorem WrS.drewN {w : World} {b : Nat} {v : Value} {bs : List Int} {most err : Int} (h : WrS w b v bs most err) (n : Nat) : WrS (w.drewN n) b v bs most err :=
  h.touch (F := fun _ => False) ((Touch.refl _ _).drewN n) (fun h => h) (fun _ _ h => h)

theorem WrS.alloc {w : World} {b : Nat} {v : Value} {bs : List Int} {most err : Int} (h : WrS w b v bs most err) (o : Obj) : WrS (w.alloc o) b v bs most err :=
  h.touch (F := fun _ => False) ((Touch.refl _ _).alloc o) (fun h => h) (fun _ _ h => h)

theorem add_plain (b o j : Nat) : (⟨b, o, none⟩ : Addr).add j = ⟨b, o + j, none⟩ := by
  by_cases hj : j = 0
  · subst hj; simp [Addr.add]
  · simp [Addr.add, hj]

/-- A slice value reads as the bytes rs. -/
def RowAt (w : World) (rv : Value) (rs : List Int) : Prop :=
  (rv = .slice none 0 0 ∧ rs = []) ∨ ∃ g off c, rv = .slice (some ⟨g, off, none⟩) rs.length c ∧ rs.length ≤ c ∧ c ≤ maxLen ∧ ∀ j u, (bytesOf rs)[j]? = some u → w.cell? ⟨g, off + j, none⟩ = some u

theorem RowAt.touch {F : Nat → Prop} {w w' : World} {rv : Value} {rs : List Int} (h : RowAt w rv rs) (t : Touch F w w') (hn : ∀ k, rv.ownBlock = some k → ¬ F k) : RowAt w' rv rs := by
  rcases h with h | ⟨g, off, c, rfl, h1, h2, h3⟩
  · exact Or.inl h
  · refine Or.inr ⟨g, off, c, rfl, h1, h2, fun j u hj => ?_⟩
    have hc := h3 j u hj
    exact (t.cell (p := ⟨g, off + j, none⟩) (lt_of_cell hc) (hn g rfl)).trans hc

/-- A reader that Read or Part made lies in block b: its row reads as rs, the place is p. -/
structure RdS (w : World) (b : Nat) (rv : Value) (rs : List Int) (p : Nat) (err : Int) : Prop where
  made : w.cell? ⟨b, 0, none⟩ = some (.bool true)
  row : w.cell? ⟨b, 1, none⟩ = some rv
  pos : w.cell? ⟨b, 2, none⟩ = some (.int .i64 p)
  err : w.cell? ⟨b, 3, none⟩ = some (.int .i64 err)
  f2 : w.frozen? ⟨b, 2, none⟩ = false
  f3 : w.frozen? ⟨b, 3, none⟩ = false
  ple : p ≤ rs.length
  rowAt : RowAt w rv rs
  ne : rv.ownBlock ≠ some b
  byte : ∀ x ∈ rs, 0 ≤ x ∧ x < 256
  blk : ∀ k, rv.ownBlock = some k → k < w.heap.size

theorem RdS.touch {F : Nat → Prop} {w w' : World} {b p : Nat} {rv : Value} {rs : List Int} {err : Int} (h : RdS w b rv rs p err) (t : Touch F w w') (hb : ¬ F b) (hn : ∀ k, rv.ownBlock = some k → ¬ F k) : RdS w' b rv rs p err := by
  have hl := lt_of_cell h.made
  exact ⟨(t.cell hl hb).trans h.made, (t.cell hl hb).trans h.row, (t.cell hl hb).trans h.pos, (t.cell hl hb).trans h.err, (t.frozen hl hb).trans h.f2, (t.frozen hl hb).trans h.f3, h.ple, h.rowAt.touch t hn, h.ne, h.byte, fun k hk => Nat.lt_of_lt_of_le (h.blk k hk) t.size⟩
theorem RdS.drewN {w : World} {b p : Nat} {rv : Value} {rs : List Int} {err : Int} (h : RdS w b rv rs p err) (n : Nat) : RdS (w.drewN n) b rv rs p err :=
  h.touch (F := fun _ => False) ((Touch.refl _ _).drewN n) (fun h => h) (fun _ _ h => h)

end Go.Proofs.Ytojlnabhaglejaa
