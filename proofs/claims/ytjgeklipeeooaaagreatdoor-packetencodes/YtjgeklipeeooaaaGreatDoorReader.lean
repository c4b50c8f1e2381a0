/- Plain facts: which blocks a call may touch, and the state of a writer and of a reader of bytes in memory. -/
import Derived.Test.YtjgeklipeeooaaaGreatDoorRows
import Derived.WalkKit
import Derived.Below
import Derived.Maps.AppendAt
import Derived.Deep.QuietTactic
import Derived.BigQuiet
import Derived.Handy
import Derived.WalkSpells
import Derived.Deep.Slices
import Derived.SizedLaws
import Derived.OpenShut
import Derived.Recover
import Derived.Defers
import Derived.Lib.SliceRun
namespace Go.Proofs.YtjgeklipeeooaaaGreatDoor
open Go.RowKit
set_option linter.unusedVariables false
set_option maxRecDepth 100000

/-- Outside the blocks F nothing that was there has turned. -/
structure Touch (F : Nat → Prop) (w w' : World) : Prop where
  os : w'.os = w.os
  tape : w'.tape = w.tape
  output : w'.output = w.output
  size : w.heap.size ≤ w'.heap.size
  block : ∀ k, k < w.heap.size → ¬ F k → w'.heap[k]? = w.heap[k]?

theorem Touch.refl (F : Nat → Prop) (w : World) : Touch F w w := ⟨rfl, rfl, rfl, Nat.le_refl _, fun _ _ _ => rfl⟩
theorem Touch.trans {F : Nat → Prop} {a b c : World} (h : Touch F a b) (k : Touch F b c) : Touch F a c :=
  ⟨k.os.trans h.os, k.tape.trans h.tape, k.output.trans h.output, Nat.le_trans h.size k.size, fun i hi hn => (k.block i (Nat.lt_of_lt_of_le hi h.size) hn).trans (h.block i hi hn)⟩
/-- What is touched of new blocks counts nothing. -/
theorem Touch.trans' {F G : Nat → Prop} {a b c : World} (h : Touch F a b) (k : Touch G b c) (hG : ∀ i, i < a.heap.size → G i → F i) : Touch F a c :=
  ⟨k.os.trans h.os, k.tape.trans h.tape, k.output.trans h.output, Nat.le_trans h.size k.size, fun i hi hn => (k.block i (Nat.lt_of_lt_of_le hi h.size) (fun g => hn (hG i hi g))).trans (h.block i hi hn)⟩
theorem Touch.mono {F G : Nat → Prop} {a b : World} (h : Touch F a b) (hG : ∀ i, i < a.heap.size → F i → G i) : Touch G a b :=
  ⟨h.os, h.tape, h.output, h.size, fun i hi hn => h.block i hi (fun f => hn (hG i hi f))⟩
theorem Touch.drew {F : Nat → Prop} {a w : World} (h : Touch F a w) : Touch F a w.drew := ⟨h.os, h.tape, h.output, h.size, h.block⟩
theorem Touch.drewN {F : Nat → Prop} {a w : World} (h : Touch F a w) (n : Nat) : Touch F a (w.drewN n) := ⟨h.os, h.tape, h.output, h.size, h.block⟩
theorem Touch.alloc {F : Nat → Prop} {a w : World} (h : Touch F a w) (o : Obj) : Touch F a (w.alloc o) :=
  h.trans ⟨rfl, rfl, rfl, by simp, fun k hk _ => Below.heap_alloc _ _ _ hk⟩
theorem Touch.setCell {F : Nat → Prop} {a w : World} (h : Touch F a w) {p : Addr} (hp : F p.block ∨ a.heap.size ≤ p.block) (u : Value) : Touch F a (w.setCell p u) := by
  refine ⟨h.os, h.tape, h.output, by have := h.size; simpa [World.setCell] using this, fun k hk hn => ?_⟩
  rw [Below.heap_setCell _ _ _ _ (by rintro rfl; rcases hp with hp | hp; exact hn hp; omega)]
  exact h.block k hk hn
theorem Touch.grown {F : Nat → Prop} {a w w' : World} {row : Option Nat} (h : Touch F a w) (hg : w.grownBy w' row) (hr : ∀ k, row = some k → F k ∨ a.heap.size ≤ k) : Touch F a w' := by
  refine ⟨hg.os.trans h.os, hg.tape.trans h.tape, hg.output.trans h.output, Nat.le_trans h.size hg.size, fun k hk hn => ?_⟩
  rw [hg.block k (Nat.lt_of_lt_of_le hk h.size) (fun e => by rcases hr k e.symm with hp | hp; exact hn hp; omega)]
  exact h.block k hk hn
theorem Touch.cell {F : Nat → Prop} {w w' : World} (h : Touch F w w') {p : Addr} (hp : p.block < w.heap.size) (hn : ¬ F p.block) : w'.cell? p = w.cell? p := World.cell?_of_block (w := w) (h.block p.block hp hn)
theorem Touch.frozen {F : Nat → Prop} {w w' : World} (h : Touch F w w') {p : Addr} (hp : p.block < w.heap.size) (hn : ¬ F p.block) : w'.frozen? p = w.frozen? p := World.frozen?_of_block (w := w) (h.block p.block hp hn)
theorem Touch.below {F : Nat → Prop} {w w' : World} (h : Touch F w w') {B : Nat} (hB : B ≤ w.heap.size) (hn : ∀ k, k < B → ¬ F k) : Below B w w' :=
  ⟨h.os, h.tape, h.output, h.size, fun k hk => h.block k (by omega) (hn k hk)⟩

theorem lt_of_cell {w : World} {b o : Nat} {v : Value} (h : w.cell? ⟨b, o, none⟩ = some v) : b < w.heap.size := by
  rcases Nat.lt_or_ge b w.heap.size with h' | h'
  · exact h'
  · simp [World.cell?, Array.getElem?_eq_none h'] at h

theorem lt_of_cellA {w : World} {a : Addr} {v : Value} (h : w.cell? a = some v) : a.block < w.heap.size := by
  rcases Nat.lt_or_ge a.block w.heap.size with h' | h'
  · exact h'
  · simp [World.cell?, Array.getElem?_eq_none h'] at h
theorem lt_of_heap {w : World} {b : Nat} {o : Obj} (h : w.heap[b]? = some o) : b < w.heap.size := by
  rcases Nat.lt_or_ge b w.heap.size with h' | h'
  · exact h'
  · simp [Array.getElem?_eq_none h'] at h
theorem Touch.heapN {w w' : World} (t : Touch (fun _ => False) w w') {b : Nat} {o : Obj} (h : w.heap[b]? = some o) : w'.heap[b]? = some o := (t.block b (lt_of_heap h) (fun h => h)).trans h
theorem Touch.cellN {w w' : World} (t : Touch (fun _ => False) w w') {a : Addr} {v : Value} (h : w.cell? a = some v) : w'.cell? a = some v := (t.cell (lt_of_cellA h) (fun h => h)).trans h
theorem cell_setRow_other (w : World) (g : Nat) (R : Array Value) (a : Addr) (h : a.block ≠ g) : (w.setRow g R).cell? a = w.cell? a := World.cell?_of_block (w := w) (setRow_other w g a.block R h)
theorem frozen_setRow_other (w : World) (g : Nat) (R : Array Value) (a : Addr) (h : a.block ≠ g) : (w.setRow g R).frozen? a = w.frozen? a := World.frozen?_of_block (w := w) (setRow_other w g a.block R h)
theorem Touch.setRow {F : Nat → Prop} {a w : World} (h : Touch F a w) {g : Nat} (hp : F g ∨ a.heap.size ≤ g) (R : Array Value) : Touch F a (w.setRow g R) := by
  refine ⟨h.os, h.tape, h.output, by have := h.size; simpa [World.setRow] using this, fun k hk hn => ?_⟩
  rw [setRow_other w g k R (by rintro rfl; rcases hp with hp | hp; exact hn hp; omega)]
  exact h.block k hk hn
/-- A new block and draws: nothing old has turned. -/
theorem new1 (w : World) (o : Obj) (n : Nat) : Touch (fun _ => False) w ((w.alloc o).drewN n) := ((Touch.refl _ w).alloc o).drewN n

theorem own_touch {F : Nat → Prop} {w w' : World} {base : Nat} {e : TypeId} {size : Nat} {v : Value} {n : Nat} {xs : List Value} (h : w.ownsRow base e size v n xs) (t : Touch F w w') (hn : ∀ k, v.ownBlock = some k → ¬ F k) : w'.ownsRow base e size v n xs := by
  obtain ⟨h1, h2⟩ := h
  refine ⟨h1, ?_⟩
  rcases h2 with h2 | ⟨g, cap, cur, hv, hg, hh, r⟩
  · exact Or.inl h2
  · refine Or.inr ⟨g, cap, cur, hv, hg, ?_, r⟩
    have hlt : g < w.heap.size := by
      rcases Nat.lt_or_ge g w.heap.size with h' | h'
      · exact h'
      · simp [Array.getElem?_eq_none h'] at hh
    rw [t.block g hlt (hn g (by subst hv; rfl))]
    exact hh

def bytesOf (bs : List Int) : List Value := bs.map (Value.int .u8)
theorem length_bytesOf (bs : List Int) : (bytesOf bs).length = bs.length := by simp [bytesOf]
theorem bytesOf_append (a b : List Int) : bytesOf (a ++ b) = bytesOf a ++ bytesOf b := by simp [bytesOf]
theorem bytesOf_set (l : List Int) (k : Nat) (x : Int) : bytesOf (l.set k x) = (bytesOf l).set k (.int .u8 x) := by simp [bytesOf, List.map_set]
theorem oneCell_bytesOf (bs : List Int) : ∀ u ∈ bytesOf bs, u.oneCell' = true := by
  intro u hu
  simp only [bytesOf, List.mem_map] at hu
  obtain ⟨x, _, rfl⟩ := hu
  rfl

/-- A writer that Write made lies in block b: its bytes, its limit, its error. -/
structure WrS (w : World) (b : Nat) (v : Value) (bs : List Int) (most err : Int) : Prop where
  made : w.cell? ⟨b, 0, none⟩ = some (.bool true)
  row : w.cell? ⟨b, 1, none⟩ = some v
  most : w.cell? ⟨b, 2, none⟩ = some (.int .i64 most)
  err : w.cell? ⟨b, 3, none⟩ = some (.int .i64 err)
  f1 : w.frozen? ⟨b, 1, none⟩ = false
  f3 : w.frozen? ⟨b, 3, none⟩ = false
  own : w.ownsRow (b + 1) 5 1 v bs.length (bytesOf bs)

/-- The blocks of a writer. -/
def wrF (b : Nat) (v : Value) : Nat → Prop := fun k => k = b ∨ v.ownBlock = some k

theorem WrS.touch {F : Nat → Prop} {w w' : World} {b : Nat} {v : Value} {bs : List Int} {most err : Int} (h : WrS w b v bs most err) (t : Touch F w w') (hb : ¬ F b) (hn : ∀ k, v.ownBlock = some k → ¬ F k) : WrS w' b v bs most err := by
  have hl := lt_of_cell h.made
  exact ⟨(t.cell hl hb).trans h.made, (t.cell hl hb).trans h.row, (t.cell hl hb).trans h.most, (t.cell hl hb).trans h.err, (t.frozen hl hb).trans h.f1, (t.frozen hl hb).trans h.f3, own_touch h.own t hn⟩

theorem WrS.drewN {w : World} {b : Nat} {v : Value} {bs : List Int} {most err : Int} (h : WrS w b v bs most err) (n : Nat) : WrS (w.drewN n) b v bs most err :=
  h.touch (F := fun _ => False) ((Touch.refl _ _).drewN n) (fun h => h) (fun _ _ h => h)

theorem WrS.alloc {w : World} {b : Nat} {v : Value} {bs : List Int} {most err : Int} (h : WrS w b v bs most err) (o : Obj) : WrS (w.alloc o) b v bs most err :=
  h.touch (F := fun _ => False) ((Touch.refl _ _).alloc o) (fun h => h) (fun _ _ h => h)

theorem add_plain (b o j : Nat) : (⟨b, o, none⟩ : Addr).add j = ⟨b, o + j, none⟩ := by
  by_cases hj : j = 0
  · subst hj; simp [Addr.add]
  · simp [Addr.add, hj]

theorem src_new (w : World) (C : Array Value) (t : TypeId) (off : Nat) (ns : List Int) (hC : C.toList.drop off = bytesOf ns) :
    ∀ j u, (bytesOf ns)[j]? = some u → (w.alloc (.cells C t)).cell? ((⟨w.heap.size, off, none⟩ : Addr).add j) = some u := by
  intro j u hj
  rw [← hC, List.getElem?_drop] at hj
  rw [add_plain]
  simpa using hj

theorem own_ne {w : World} {base : Nat} {e : TypeId} {size : Nat} {v : Value} {n : Nat} {xs : List Value} (h : w.ownsRow base e size v n xs) {k : Nat} (hk : k < base) : v.ownBlock ≠ some k := by
  intro e
  have := (h.lt k e).1
  omega

theorem own_setCell {w : World} {base : Nat} {e : TypeId} {size : Nat} {v : Value} {n : Nat} {xs : List Value} (h : w.ownsRow base e size v n xs) {a : Addr} (ha : a.block < base) (u : Value) : (w.setCell a u).ownsRow base e size v n xs :=
  ownsRow_setCell_below h ha u

/-- Behind an append to the row and the store of the new row into the writer. -/
theorem wr_appended {w w1 : World} {b : Nat} {v v' : Value} {bs bs' : List Int} {most err : Int} (h : WrS w b v bs most err) (hg : w.grownBy w1 v.ownBlock)
    (hown : w1.ownsRow (b + 1) 5 1 v' bs'.length (bytesOf bs')) : WrS (w1.setCell ⟨b, 1, none⟩ v') b v' bs' most err ∧ Touch (wrF b v) w (w1.setCell ⟨b, 1, none⟩ v') := by
  have hl := lt_of_cell h.made
  have hne : ¬ v.ownBlock = some b := own_ne h.own (Nat.lt_succ_self b)
  have t0 : Touch (fun k => v.ownBlock = some k) w w1 := (Touch.refl _ _).grown hg (fun k hk => Or.inl hk)
  have c0 := (t0.cell (p := ⟨b, 0, none⟩) hl hne).trans h.made
  have c1 := (t0.cell (p := ⟨b, 1, none⟩) hl hne).trans h.row
  have c2 := (t0.cell (p := ⟨b, 2, none⟩) hl hne).trans h.most
  have c3 := (t0.cell (p := ⟨b, 3, none⟩) hl hne).trans h.err
  have f1 := (t0.frozen (p := ⟨b, 1, none⟩) hl hne).trans h.f1
  have f3 := (t0.frozen (p := ⟨b, 3, none⟩) hl hne).trans h.f3
  refine ⟨⟨?_, ?_, ?_, ?_, ?_, ?_, own_setCell hown (Nat.lt_succ_self b) _⟩, Touch.setCell (F := wrF b v) (p := ⟨b, 1, none⟩) (t0.mono (fun i _ hi => Or.inr hi)) (Or.inl (Or.inl rfl)) _⟩
  · simp [c0, go_sem]
  · simp [c1, go_sem]
  · simp [c2, go_sem]
  · simp [c3, go_sem]
  · simp [f1, go_sem]
  · simp [f3, go_sem]

/-- A slice value reads as the bytes rs. -/
def RowAt (w : World) (rv : Value) (rs : List Int) : Prop :=
  (rv = .slice none 0 0 ∧ rs = []) ∨ ∃ g off c, rv = .slice (some ⟨g, off, none⟩) rs.length c ∧ rs.length ≤ c ∧ c ≤ maxLen ∧ ∀ j u, (bytesOf rs)[j]? = some u → w.cell? ⟨g, off + j, none⟩ = some u

theorem RowAt.touch {F : Nat → Prop} {w w' : World} {rv : Value} {rs : List Int} (h : RowAt w rv rs) (t : Touch F w w') (hn : ∀ k, rv.ownBlock = some k → ¬ F k) : RowAt w' rv rs := by
  rcases h with h | ⟨g, off, c, rfl, h1, h2, h3⟩
  · exact Or.inl h
  · refine Or.inr ⟨g, off, c, rfl, h1, h2, fun j u hj => ?_⟩
    have hc := h3 j u hj
    exact (t.cell (p := ⟨g, off + j, none⟩) (lt_of_cell hc) (hn g rfl)).trans hc

theorem own_rowAt {w : World} {base : Nat} {v : Value} {bs : List Int} (h : w.ownsRow base 5 1 v bs.length (bytesOf bs)) : RowAt w v bs := by
  rcases h.2 with ⟨rfl, e⟩ | ⟨g, cap, cur, rfl, hg, hh, hnc, hcm, hcs, htake⟩
  · exact Or.inl ⟨rfl, List.eq_nil_of_length_eq_zero e⟩
  · refine Or.inr ⟨g, 0, cap, rfl, hnc, hcm, fun j u hj => ?_⟩
    have := h.cells (g := g) rfl j u hj
    rwa [add_plain] at this

theorem rowAt_form {w : World} {rv : Value} {rs : List Int} (h : RowAt w rv rs) : ∃ a c, rv = .slice a rs.length c ∧ rs.length ≤ maxLen := by
  rcases h with ⟨rfl, rfl⟩ | ⟨g, off, c, rfl, h1, h2, _⟩
  · exact ⟨_, _, rfl, Nat.zero_le _⟩
  · exact ⟨_, _, rfl, Nat.le_trans h1 h2⟩

/-- A reader that Read or Part made lies in block b: its row reads as rs, the place is p. -/
structure RdS (w : World) (b : Nat) (rv : Value) (rs : List Int) (p : Nat) (err : Int) : Prop where
  made : w.cell? ⟨b, 0, none⟩ = some (.bool true)
  row : w.cell? ⟨b, 1, none⟩ = some rv
  pos : w.cell? ⟨b, 2, none⟩ = some (.int .i64 p)
  err : w.cell? ⟨b, 3, none⟩ = some (.int .i64 err)
  f2 : w.frozen? ⟨b, 2, none⟩ = false
  f3 : w.frozen? ⟨b, 3, none⟩ = false
  ple : p ≤ rs.length
  rowAt : RowAt w rv rs
  ne : rv.ownBlock ≠ some b
  byte : ∀ x ∈ rs, 0 ≤ x ∧ x < 256
  blk : ∀ k, rv.ownBlock = some k → k < w.heap.size

theorem RdS.touch {F : Nat → Prop} {w w' : World} {b p : Nat} {rv : Value} {rs : List Int} {err : Int} (h : RdS w b rv rs p err) (t : Touch F w w') (hb : ¬ F b) (hn : ∀ k, rv.ownBlock = some k → ¬ F k) : RdS w' b rv rs p err := by
  have hl := lt_of_cell h.made
  exact ⟨(t.cell hl hb).trans h.made, (t.cell hl hb).trans h.row, (t.cell hl hb).trans h.pos, (t.cell hl hb).trans h.err, (t.frozen hl hb).trans h.f2, (t.frozen hl hb).trans h.f3, h.ple, h.rowAt.touch t hn, h.ne, h.byte, fun k hk => Nat.lt_of_lt_of_le (h.blk k hk) t.size⟩
theorem RdS.drewN {w : World} {b p : Nat} {rv : Value} {rs : List Int} {err : Int} (h : RdS w b rv rs p err) (n : Nat) : RdS (w.drewN n) b rv rs p err :=
  h.touch (F := fun _ => False) ((Touch.refl _ _).drewN n) (fun h => h) (fun _ _ h => h)

theorem RdS.setPos {w : World} {b p : Nat} {rv : Value} {rs : List Int} {err : Int} (h : RdS w b rv rs p err) (q : Nat) (hq : q ≤ rs.length) : RdS (w.setCell ⟨b, 2, none⟩ (.int .i64 q)) b rv rs q err := by
  have t : Touch (fun k => k = b) w (w.setCell ⟨b, 2, none⟩ (.int .i64 q)) := Touch.setCell (F := fun k => k = b) (p := ⟨b, 2, none⟩) (Touch.refl _ w) (Or.inl rfl) _
  exact ⟨by simp [h.made, go_sem], by simp [h.row, go_sem], by simp [h.pos, go_sem], by simp [h.err, go_sem], by simp [h.f2, go_sem], by simp [h.f3, go_sem], hq, h.rowAt.touch t (fun k hk e => h.ne (by rw [hk, e])), h.ne, h.byte, fun k hk => Nat.lt_of_lt_of_le (h.blk k hk) t.size⟩

theorem RdS.setErr {w : World} {b p : Nat} {rv : Value} {rs : List Int} {err : Int} (h : RdS w b rv rs p err) (q : Int) : RdS (w.setCell ⟨b, 3, none⟩ (.int .i64 q)) b rv rs p q := by
  have t : Touch (fun k => k = b) w (w.setCell ⟨b, 3, none⟩ (.int .i64 q)) := Touch.setCell (F := fun k => k = b) (p := ⟨b, 3, none⟩) (Touch.refl _ w) (Or.inl rfl) _
  exact ⟨by simp [h.made, go_sem], by simp [h.row, go_sem], by simp [h.pos, go_sem], by simp [h.err, go_sem], by simp [h.f2, go_sem], by simp [h.f3, go_sem], h.ple, h.rowAt.touch t (fun k hk e => h.ne (by rw [hk, e])), h.ne, h.byte, fun k hk => Nat.lt_of_lt_of_le (h.blk k hk) t.size⟩

end Go.Proofs.YtjgeklipeeooaaaGreatDoor

namespace Go.Proofs.YtjgeklipeeooaaaGreatDoor
open Go.RowKit Go.ChangeShapes Go.WideShapes Go.ChangeAt
set_option linter.unusedVariables false
set_option maxRecDepth 100000

/-- A slice that came in reads as rs; of the address of one without cells nothing is known. -/
def ArgAt (w : World) (v : Value) (rs : List Int) : Prop :=
  (v = .slice none 0 0 ∧ rs = []) ∨ ∃ ad c, v = .slice (some ad) rs.length c ∧ rs.length ≤ c ∧ c ≤ maxLen ∧ ∀ j u, (bytesOf rs)[j]? = some u → w.cell? (ad.add j) = some u

theorem RowAt.arg {w : World} {v : Value} {rs : List Int} (h : RowAt w v rs) : ArgAt w v rs := by
  rcases h with h | ⟨g, off, c, rfl, h1, h2, h3⟩
  · exact Or.inl h
  · exact Or.inr ⟨_, c, rfl, h1, h2, fun j u hj => by rw [add_plain]; exact h3 j u hj⟩
theorem ArgAt.form {w : World} {v : Value} {rs : List Int} (h : ArgAt w v rs) : ∃ a c, v = .slice a rs.length c ∧ rs.length ≤ maxLen := by
  rcases h with ⟨rfl, rfl⟩ | ⟨ad, c, rfl, h1, h2, h3⟩
  · exact ⟨_, _, rfl, Nat.zero_le _⟩
  · exact ⟨_, _, rfl, Nat.le_trans h1 h2⟩
theorem ArgAt.row {w : World} {v : Value} {rs : List Int} (h : ArgAt w v rs) (hp : 0 < rs.length) : RowAt w v rs := by
  rcases h with ⟨rfl, rfl⟩ | ⟨ad, c, rfl, h1, h2, h3⟩
  · exact Or.inl ⟨rfl, rfl⟩
  · obtain ⟨g, off, spot⟩ := ad
    have hc := h3 0 (.int .u8 rs[0]) (by simp [bytesOf, hp])
    have hspot : spot = none := by simpa [Addr.add] using World.cell?_spot hc
    subst hspot
    exact Or.inr ⟨g, off, c, rfl, h1, h2, fun j u hj => by have := h3 j u hj; rwa [add_plain] at this⟩
theorem ArgAt.keep {F : Nat → Prop} {w w' : World} {v : Value} {rs : List Int} (h : ArgAt w v rs) (t : Touch F w w') (hF : ∀ k, k < w.heap.size → ¬ F k) : ArgAt w' v rs := by
  rcases h with h | ⟨ad, c, rfl, h1, h2, h3⟩
  · exact Or.inl h
  · refine Or.inr ⟨ad, c, rfl, h1, h2, fun j u hj => ?_⟩
    have hc := h3 j u hj
    exact (t.cell (lt_of_cellA hc) (hF _ (lt_of_cellA hc))).trans hc

section
variable {H : Type} {enc : TypeId × Value → H} {w : World} {base : Nat} {held : Bool}

theorem open_bytes {fuel : Nat} {a : Option Addr} {len cap : Nat} {x : DataW H × List MemPlace} (h : DataW.trod enc Tryz.prog w base (fun _ => true) held fuel 40 [.slice a len cap] = some x) :
    ∃ rs : List Int, rs.length = len ∧ ArgAt w (.slice a len cap) rs ∧ (∀ z ∈ rs, 0 ≤ z ∧ z < 256) ∧ (x.1 = .nil ∧ len = 0 ∨ ∃ el sp, x.1 = .slice el sp ∧ el.length = len) := by
  rcases open_ints Tryz.underlying40 Tryz.underlying5 (by kernel_rfl) h with ⟨hcs, hx⟩ | ⟨ad, l, c, zs, hcs, _, hl, hm, hz, hx, hcell, hwz⟩
  · simp at hcs
    obtain ⟨rfl, rfl, rfl⟩ := hcs
    exact ⟨[], rfl, Or.inl ⟨rfl, rfl⟩, by simp, Or.inl ⟨by rw [hx], rfl⟩⟩
  · simp at hcs
    obtain ⟨rfl, rfl, rfl⟩ := hcs
    have hz' : zs.length = cap := by simpa using hz
    have hlen : (zs.take len).length = len := by simp; omega
    refine ⟨zs.take len, hlen, Or.inr ⟨ad, cap, by rw [hlen], by omega, hm, fun j u hj => ?_⟩, fun z hzm => ?_, Or.inr ⟨_, _, by rw [hx], by simp [lits]; omega⟩⟩
    · have hjl : j < len := by
        have := (List.getElem?_eq_some_iff.mp hj).1
        simp [bytesOf] at this
        omega
      have := hcell j (by omega)
      rw [this]
      simp only [bytesOf, List.getElem?_map, List.getElem?_take, if_pos hjl] at hj
      rw [List.getElem?_eq_getElem (by omega)] at hj
      rw [← hj]
      simp [List.getD, show j < zs.length by omega]
    · have := bounds_u8 (hwz z (List.mem_of_mem_take hzm))
      omega
end
end Go.Proofs.YtjgeklipeeooaaaGreatDoor

namespace Go.Proofs.YtjgeklipeeooaaaGreatDoor
open Go.RowKit
set_option linter.unusedVariables false
set_option maxRecDepth 100000

theorem rowAt_cell {w : World} {g off c n : Nat} {rs : List Int} (h : RowAt w (.slice (some ⟨g, off, none⟩) n c) rs) (j : Nat) (hj : j < rs.length) : w.cell? ⟨g, off + j, none⟩ = some (.int .u8 (rs.getD j 0)) := by
  rcases h with ⟨h, _⟩ | ⟨g', off', c', h, _, _, h3⟩
  · simp at h
  · simp at h
    obtain ⟨⟨rfl, rfl⟩, _, _⟩ := h
    exact h3 j _ (by simp [bytesOf, List.getElem?_eq_getElem hj, List.getD])

/-- A row that is not empty has an address. -/
theorem rowAt_some {w : World} {a : Option Addr} {n c : Nat} {rs : List Int} (h : RowAt w (.slice a n c) rs) (hn : 0 < n) : ∃ g off, a = some ⟨g, off, none⟩ := by
  rcases h with ⟨h, _⟩ | ⟨g', off', c', h, _⟩
  · simp at h; omega
  · simp at h; exact ⟨g', off', h.1⟩

theorem eq_true (va vb : Value) (rs : List Int) (w : World) (ha : RowAt w va rs) (hb : ArgAt w vb rs) :
    Calls Tryz.prog 11 #[va, vb] w fun e w' => e = .returned (.bool true) ∧ ∃ n, w' = w.drewN n := by
  obtain ⟨aa, ca, rfl, hm⟩ := rowAt_form ha
  obtain ⟨ab, cb, rfl, _⟩ := hb.form
  unfold maxLen at hm
  go_enter Tryz.func11, Tryz.ntmps11
  go_wp2
  go_loopw [5] (fun i wr => ∃ k nd : Nat, k ≤ rs.length ∧ i = .int .i64 k ∧ wr = w.drewN nd) (fun i _ => rs.length - (intOf i).toNat)
  case atStart => exact ⟨0, 0, Nat.zero_le _, rfl, rfl⟩
  case round =>
    obtain ⟨k, nd, hk, rfl, rfl⟩ := hrel
    by_cases hlt : k < rs.length
    · have hb := hb.row (by omega)
      obtain ⟨ga, oa, rfl⟩ := rowAt_some ha (by omega)
      obtain ⟨gb, ob, rfl⟩ := rowAt_some hb (by omega)
      have hca := rowAt_cell ha k hlt
      have hcb := rowAt_cell hb k hlt
      obtain ⟨z, hz⟩ : ∃ z, z = rs.getD k 0 := ⟨_, rfl⟩
      rw [← hz] at hca hcb
      clear hz ha hb
      go_wp2
      go_quiet (fail)
      go_wp2
      go_roundw
      case rel => exact ⟨k + 1, _, by omega, by go_num, rfl⟩
      case measure => simp [intOf]; omega
    · go_wp2
      go_ret
      exact ⟨rfl, nd, rfl⟩

theorem Tryz.info5w : (Tryz.prog.info? 5).map (fun i => (i.zero, i.size, i.bytes)) = some (some (.int .u8 0), 1, 1) := by kernel_rfl
end Go.Proofs.YtjgeklipeeooaaaGreatDoor

namespace Go.Proofs.YtjgeklipeeooaaaGreatDoor
open Go.RowKit
set_option linter.unusedVariables false
set_option maxRecDepth 100000

/-- A flaw of a packet on its way. -/
def pflawC (e : Int) : List PanicEntry := [{ v := .iface 128 (.int .i64 e), recovered := false }]
theorem pneed_ok (e : Int) (w : World) : Calls Tryz.prog 90 #[.bool true, .int .i64 e] w fun x w' => x = .returned (.tuple #[]) ∧ w = w' := by
  go_enter Tryz.func90, Tryz.ntmps90
  go_wp2
  go_end0
  exact ⟨rfl, rfl⟩
theorem pneed_no (e : Int) (w : World) : Calls Tryz.prog 90 #[.bool false, .int .i64 e] w fun x w' => x = .panicked (pflawC e) ∧ w = w' := by
  go_enter Tryz.func90, Tryz.ntmps90
  go_wp2
  exact ⟨rfl, rfl, rfl⟩
theorem pneed_t (t : Bool) (e : Int) (w : World) (ht : t = true) : Calls Tryz.prog 90 #[.bool t, .int .i64 e] w fun x w' => x = .returned (.tuple #[]) ∧ w = w' := by subst ht; exact pneed_ok e w
theorem pneed_f (t : Bool) (e : Int) (w : World) (ht : t = false) : Calls Tryz.prog 90 #[.bool t, .int .i64 e] w fun x w' => x = .panicked (pflawC e) ∧ w = w' := by subst ht; exact pneed_no e w
theorem pta_flaw (e : Int) (w : World) : (Instr.typeAssert (.iface 128 (.int .i64 e)) 20 128 true).run Tryz.prog w = .ok (.tuple #[.int .i64 e, .bool true]) w := by kernel_rfl
theorem pta_nil (w : World) : (Instr.typeAssert .nilIface 20 128 true).run Tryz.prog w = .ok (.tuple #[.int .i64 0, .bool false]) w := by kernel_rfl
theorem pcatch_flaw (b : Nat) (x e : Int) (w : World) (hc : w.cell? ⟨b, 0, none⟩ = some (.int .i64 x)) (hz : w.frozen? ⟨b, 0, none⟩ = false) :
    CallsD Tryz.prog 89 #[.pointer (some ⟨b, 0, none⟩)] (.panicking (pflawC e)) w fun r u' w' =>
      r = .returned (.tuple #[]) ∧ u' = .panicking [{ v := .iface 128 (.int .i64 e), recovered := true }] ∧ w' = w.setCell ⟨b, 0, none⟩ (.int .i64 e) := by
  refine callsD_of_wpS Tryz.func89 rfl fun c₀ cs hu => ?_
  apply wpS_seq
  apply wpS_region
  simp [wpOpsS, go_sem, recoverD, hu, pflawC, pta_flaw, Tryz.ntmps89, Exit.thenS]
  apply wpS_seq
  apply wpS_region
  simp [wpOpsS, go_sem, Exit.thenS]
  refine wpS_cond (t := true) (by simp [Act.eval, Array.replicate]) ?_
  simp only [if_true]
  apply wpS_region
  simp [wpOpsS, go_sem, hc, hz, bodyPostS, results, Tryz.results89]
theorem pcatch_idle (b : Nat) (w : World) :
    CallsD Tryz.prog 89 #[.pointer (some ⟨b, 0, none⟩)] .returning w fun r u' w' => r = .returned (.tuple #[]) ∧ u' = .returning ∧ w' = w := by
  refine callsD_of_wpS Tryz.func89 rfl fun c₀ cs hu => ?_
  apply wpS_seq
  apply wpS_region
  simp [wpOpsS, go_sem, recoverD, hu, pta_nil, Tryz.ntmps89, Exit.thenS]
  apply wpS_seq
  apply wpS_region
  simp [wpOpsS, go_sem, Exit.thenS]
  refine wpS_cond (t := false) (by simp [Act.eval, Array.replicate]) ?_
  simp only [Bool.false_eq_true, if_false]
  refine wpS_of_wp (wp_skip ?_)
  cases c₀
  simp_all [bodyPostS, results, Tryz.results89]
/-- The face where its function ends by itself: K is what it leaves. -/
theorem pface_ok (G : Nat) (cap : Array Value) (hG : ∀ w, (callFunc G cap).run Tryz.prog w = .ok (.enter G cap) w) (w : World) (F : Nat → Prop) (hF : ¬ F w.heap.size) (K : World → Prop)
    (h : Calls Tryz.prog G cap (w.alloc (.cells #[.int .i64 0] 41)) fun e w' => e = .returned (.tuple #[]) ∧ Touch F (w.alloc (.cells #[.int .i64 0] 41)) w' ∧ K w')
    (hK : ∀ w1 w2, K w1 → Touch (fun k => k = w.heap.size) w1 w2 → K w2) :
    Calls Tryz.prog 33 #[.func (.func G) #[] cap] w fun e w' => e = .returned (.int .i64 0) ∧ Touch F w w' ∧ K w' := by
  have hmf : ∀ (fn : Fn) (first cap : Array Value) (w : World), (Instr.makeFunc fn first cap).run Tryz.prog w = .ok (.func fn first cap) w := fun _ _ _ _ => rfl
  go_enter_defers Tryz.func33, Tryz.ntmps33
  go_wp2_with fail
  refine h.mono ?_
  rintro e w1 ⟨rfl, t1, k1⟩
  have fz1 : w1.frozen? ⟨w.heap.size, 0, none⟩ = false := (t1.frozen (p := ⟨w.heap.size, 0, none⟩) (by simp) hF).trans (by simp [go_sem])
  have ce1 : w1.cell? ⟨w.heap.size, 0, none⟩ = some (.int .i64 0) := (t1.cell (p := ⟨w.heap.size, 0, none⟩) (by simp) hF).trans (by simp [go_sem])
  have HT : Hid (Touch F w w1) := ((Touch.refl F w).alloc _).trans t1
  have HK : Hid (K w1) := k1
  have U : Hid (Touch (fun k => k = w.heap.size) w1 (w1.setCell ⟨w.heap.size, 0, none⟩ (.int .i64 0))) := Touch.setCell (F := fun k => k = w.heap.size) (p := ⟨w.heap.size, 0, none⟩) (Touch.refl _ _) (Or.inl rfl) _
  have de : (w1.setCell ⟨w.heap.size, 0, none⟩ (.int .i64 0)).cell? ⟨w.heap.size, 0, none⟩ = some (.int .i64 0) := by simp [ce1, go_sem]
  clear t1 k1 h
  go_wp2_with fail
  generalize w1.setCell ⟨w.heap.size, 0, none⟩ (.int .i64 0) = w2 at *
  clear ce1 fz1
  refine leaves_cons (f := 89) (args := #[.pointer (some ⟨w.heap.size, 0, none⟩)]) (by simp) (by simp [go_sem]) ?_
  refine (pcatch_idle w.heap.size _).mono ?_
  rintro e u' w'' ⟨rfl, rfl, rfl⟩
  exact ⟨.int .i64 0, by simp [results, Tryz.results33, go_sem, de], rfl, HT.out.trans' U.out (fun i hi e => by omega), hK _ _ HK.out U.out⟩
/-- The face where its function gives up. -/
theorem pface_no (G : Nat) (cap : Array Value) (hG : ∀ w, (callFunc G cap).run Tryz.prog w = .ok (.enter G cap) w) (w : World) (F : Nat → Prop) (hF : ¬ F w.heap.size) (err : Int) (K : World → Prop)
    (h : Calls Tryz.prog G cap (w.alloc (.cells #[.int .i64 0] 41)) fun e w' => e = .panicked (pflawC err) ∧ Touch F (w.alloc (.cells #[.int .i64 0] 41)) w' ∧ K w')
    (hK : ∀ w1 w2, K w1 → Touch (fun k => k = w.heap.size) w1 w2 → K w2) :
    Calls Tryz.prog 33 #[.func (.func G) #[] cap] w fun e w' => e = .returned (.int .i64 err) ∧ Touch F w w' ∧ K w' := by
  have hmf : ∀ (fn : Fn) (first cap : Array Value) (w : World), (Instr.makeFunc fn first cap).run Tryz.prog w = .ok (.func fn first cap) w := fun _ _ _ _ => rfl
  go_enter_defers Tryz.func33, Tryz.ntmps33
  go_wp2_with fail
  refine h.mono ?_
  rintro e w1 ⟨rfl, t1, k1⟩
  have fz1 : w1.frozen? ⟨w.heap.size, 0, none⟩ = false := (t1.frozen (p := ⟨w.heap.size, 0, none⟩) (by simp) hF).trans (by simp [go_sem])
  have ce1 : w1.cell? ⟨w.heap.size, 0, none⟩ = some (.int .i64 0) := (t1.cell (p := ⟨w.heap.size, 0, none⟩) (by simp) hF).trans (by simp [go_sem])
  have HT : Hid (Touch F w w1) := ((Touch.refl F w).alloc _).trans t1
  have U : Touch (fun k => k = w.heap.size) w1 (w1.setCell ⟨w.heap.size, 0, none⟩ (.int .i64 err)) := Touch.setCell (F := fun k => k = w.heap.size) (p := ⟨w.heap.size, 0, none⟩) (Touch.refl _ _) (Or.inl rfl) _
  refine leaves_cons (f := 89) (args := #[.pointer (some ⟨w.heap.size, 0, none⟩)]) (by simp) (by simp [go_sem]) ?_
  refine (pcatch_flaw w.heap.size 0 err _ ce1 fz1).mono ?_
  rintro e u' w'' ⟨rfl, rfl, rfl⟩
  exact ⟨.int .i64 err, by simp [results, Tryz.results33, go_sem, ce1], rfl, HT.out.trans' U (fun i hi e => by omega), hK _ _ k1 U⟩
end Go.Proofs.YtjgeklipeeooaaaGreatDoor

namespace Go.Proofs.YtjgeklipeeooaaaGreatDoor
open Go.RowKit
set_option linter.unusedVariables false
set_option maxRecDepth 100000

theorem Tryz.info5r : (Tryz.prog.info? 5).map (fun i => (i.zero, i.size, i.bytes)) = some (some (.int .u8 0), 1, 1) := by kernel_rfl

theorem clone_some (ad : Addr) (c : Nat) (ns : List Int) (w : World) (hs : ∀ j u, (bytesOf ns)[j]? = some u → w.cell? (ad.add j) = some u) (hcap : ns.length ≤ 1099511627776) :
    Calls Tryz.prog 137 #[.slice (some ad) ns.length c] w fun e w' => ∃ v, e = .returned v ∧ w'.ownsRow w.heap.size 5 1 v ns.length (bytesOf ns) ∧ Touch (fun _ => False) w w' ∧ v.ownBlock ≠ none := by
  obtain ⟨i0, hi, hz0, hz1, hz2⟩ := info_parts Tryz.info5r
  have hq := fun (w : World) (a : Option Addr) (n c n' c' : Nat) => Lib.run_eql_slice_nil (P := Tryz.prog) w 40 5 a n c n' c' Tryz.underlying40
  go_enter Tryz.func137, Tryz.ntmps137
  go_wp2_with (at_builtin; refine wpList_append_own_at _ rfl (.tmp 5) (.tmp 6) 40 rfl w.heap.size 5 i0 (.int .u8 0) 1 1 Tryz.underlying40 hi hz0 hz1 hz2 rfl (by decide) (.slice (some ⟨w.heap.size, 0, none⟩) 0 0) 0 [] rfl ?c0 ad ns.length c (bytesOf ns) rfl ?c6 ?c1 ?c2 ?c3 ?c4 ?c5 ?_)
  case c0 => exact World.ownsRow_lit w #[] 0 (Nat.le_refl _) (by simp [maxLen]) (by simp)
  case c6 => simp [length_bytesOf]
  case c1 => exact fun j u hj => ((Touch.refl _ w).alloc _).cellN (hs j u hj)
  case c2 => exact oneCell_bytesOf ns
  case c3 => unfold maxLen; omega
  case c4 => omega
  case c5 => simp
  intro v' w1 hown' hgrow _ hat
  have t1 : Touch (fun _ => False) w w1 := ((Touch.refl _ w).alloc _).grown hgrow (fun k hk => Or.inr (by simp [Value.ownBlock] at hk; omega))
  have hne : v'.ownBlock ≠ none := by rcases hat with h | h <;> rw [h] <;> simp [Value.ownBlock]
  clear hgrow hat
  go_wp2
  go_ret
  exact ⟨v', rfl, by simpa using hown', t1, hne⟩

theorem clone_nil (w : World) :
    Calls Tryz.prog 137 #[.slice none 0 0] w fun e w' => e = .returned (.slice none 0 0) ∧ w = w' := by
  have hq := fun (w : World) (a : Option Addr) (n c n' c' : Nat) => Lib.run_eql_slice_nil (P := Tryz.prog) w 40 5 a n c n' c' Tryz.underlying40
  go_enter Tryz.func137, Tryz.ntmps137
  go_wp2
  go_ret
  exact ⟨rfl, rfl⟩

theorem write_any (most : Int) (w : World) (hm : 0 ≤ most) :
    Calls Tryz.prog 95 #[.int .i64 most] w fun e w' => e = .returned (.pointer (some ⟨w.heap.size, 0, none⟩)) ∧ WrS w' w.heap.size (.slice none 0 0) [] most 0 ∧ Touch (fun _ => False) w w' := by
  go_enter Tryz.func95, Tryz.ntmps95
  go_wp2
  go_ret
  refine ⟨rfl, ⟨by simp, by simp, by simp, by simp, by simp, by simp, World.ownsRow_nil _ _ _ _⟩, (Touch.refl _ w).alloc _⟩

theorem err_any (b : Nat) (err : Int) (w : World) (h0 : w.cell? ⟨b, 0, none⟩ = some (.bool true)) (h3 : w.cell? ⟨b, 3, none⟩ = some (.int .i64 err)) :
    Calls Tryz.prog 168 #[.pointer (some ⟨b, 0, none⟩)] w fun e w' => e = .returned (.int .i64 err) ∧ w = w' := by
  go_enter Tryz.func168, Tryz.ntmps168
  go_wp2
  go_ret
  exact ⟨rfl, rfl⟩

theorem rwhole_any (b : Nat) (err : Int) (w : World) (h0 : w.cell? ⟨b, 0, none⟩ = some (.bool true)) (h3 : w.cell? ⟨b, 3, none⟩ = some (.int .i64 err)) :
    Calls Tryz.prog 178 #[.pointer (some ⟨b, 0, none⟩)] w fun e w' => e = .returned (.bool (err == 0)) ∧ w = w' := by
  go_enter Tryz.func178, Tryz.ntmps178
  go_wp2_with (go_at_call 168; refine (err_any _ err _ (by assumption) (by assumption)).mono ?_; rintro e w' ⟨rfl, rfl⟩)
  go_ret
  exact ⟨rfl, rfl⟩

theorem left_ok (b p : Nat) (rv : Value) (rs : List Int) (w : World) (h : RdS w b rv rs p 0) :
    Calls Tryz.prog 175 #[.pointer (some ⟨b, 0, none⟩)] w fun e w' => e = .returned (.int .i64 ((rs.length : Int) - p)) ∧ ∃ n, w' = w.drewN n := by
  obtain ⟨a, c, rfl, hm⟩ := rowAt_form h.rowAt
  unfold maxLen at hm
  have h0 := h.made
  have h1 := h.row
  have h2 := h.pos
  have h3 := h.err
  have hp := h.ple
  go_enter Tryz.func175, Tryz.ntmps175
  go_wp2_with (go_at_call 178; refine (rwhole_any _ 0 _ (by assumption) (by assumption)).mono ?_; rintro e w' ⟨rfl, rfl⟩)
  go_quiet (fail)
  go_wp2
  go_ret
  exact ⟨rfl, _, rfl⟩

theorem left_dead (b : Nat) (err : Int) (w : World) (h0 : w.cell? ⟨b, 0, none⟩ = some (.bool true)) (h3 : w.cell? ⟨b, 3, none⟩ = some (.int .i64 err)) (he : (err == 0) = false) :
    Calls Tryz.prog 175 #[.pointer (some ⟨b, 0, none⟩)] w fun e w' => e = .returned (.int .i64 0) ∧ w = w' := by
  go_enter Tryz.func175, Tryz.ntmps175
  go_wp2_with (go_at_call 178; refine (rwhole_any _ err _ (by assumption) (by assumption)).mono ?_; rintro e w' ⟨rfl, rfl⟩)
  go_ret
  exact ⟨rfl, rfl⟩

/-- refuse: a whole reader takes the error, another one stays. -/
theorem refuse_ok (b : Nat) (q : Int) (w : World) (h0 : w.cell? ⟨b, 0, none⟩ = some (.bool true)) (h3 : w.cell? ⟨b, 3, none⟩ = some (.int .i64 0)) (hf : w.frozen? ⟨b, 3, none⟩ = false) :
    Calls Tryz.prog 149 #[.pointer (some ⟨b, 0, none⟩), .int .i64 q] w fun e w' => e = .returned (.tuple #[]) ∧ w.setCell ⟨b, 3, none⟩ (.int .i64 q) = w' := by
  go_enter Tryz.func149, Tryz.ntmps149
  go_wp2_with (go_at_call 178; refine (rwhole_any _ 0 _ (by assumption) (by assumption)).mono ?_; rintro e w' ⟨rfl, rfl⟩)
  go_end0
  exact ⟨rfl, rfl⟩

theorem refuse_dead (b : Nat) (q err : Int) (w : World) (h0 : w.cell? ⟨b, 0, none⟩ = some (.bool true)) (h3 : w.cell? ⟨b, 3, none⟩ = some (.int .i64 err)) (he : (err == 0) = false) :
    Calls Tryz.prog 149 #[.pointer (some ⟨b, 0, none⟩), .int .i64 q] w fun e w' => e = .returned (.tuple #[]) ∧ w = w' := by
  go_enter Tryz.func149, Tryz.ntmps149
  go_wp2_with (go_at_call 178; refine (rwhole_any _ err _ (by assumption) (by assumption)).mono ?_; rintro e w' ⟨rfl, rfl⟩)
  go_end0
  exact ⟨rfl, rfl⟩
end Go.Proofs.YtjgeklipeeooaaaGreatDoor
