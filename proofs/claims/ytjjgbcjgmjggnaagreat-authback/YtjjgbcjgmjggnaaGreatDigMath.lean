/- Pure: a number's bytes, the highest first; and back. -/
import Derived.WalkKit
import Derived.Test.YtjjgbcjgmjggnaaGreatRows
import Derived.Below
import Derived.Maps.AppendAt
import Derived.Deep.QuietTactic
import Derived.BigQuiet
import Derived.Handy
import Derived.WalkSpells
import Derived.Laws.BitsAllLaws
namespace Go.Proofs.YtjjgbcjgmjggnaaGreat
set_option linter.unusedVariables false

def numBytes (n : Nat) (x : Int) : List Int := [x / 16777216 % 256, x / 65536 % 256, x / 256 % 256, x % 256].drop (4 - n)
theorem length_numBytes {n : Nat} (h : n ≤ 4) (x : Int) : (numBytes n x).length = n := by simp [numBytes]; omega
theorem numBytes_byte (n : Nat) (x : Int) : ∀ z ∈ numBytes n x, 0 ≤ z ∧ z < 256 := by
  intro z hz
  have := List.mem_of_mem_drop hz
  simp at this
  omega
theorem numBytes2 (x : Int) : numBytes 2 x = [x / 256 % 256, x % 256] := rfl
theorem numBytes4 (x : Int) : numBytes 4 x = [x / 16777216 % 256, x / 65536 % 256, x / 256 % 256, x % 256] := rfl
/-- The number of bytes. -/
def numOf (l : List Int) : Int := l.foldl (fun v z => 256 * v + z) 0
theorem foldl_bound (l : List Int) (h : ∀ z ∈ l, 0 ≤ z ∧ z < 256) : ∀ v : Int, 0 ≤ v → 0 ≤ l.foldl (fun v z => 256 * v + z) v ∧ l.foldl (fun v z => 256 * v + z) v < (v + 1) * 256 ^ l.length := by
  induction l with
  | nil => intro v hv; simp; omega
  | cons z r ih =>
    intro v hv
    have hz := h z (by simp)
    have := ih (fun z hz => h z (by simp [hz])) (256 * v + z) (by omega)
    refine ⟨this.1, Int.lt_of_lt_of_le this.2 ?_⟩
    rw [List.length_cons, Int.pow_succ, Int.mul_comm (256 ^ r.length) 256, ← Int.mul_assoc]
    exact Int.mul_le_mul_of_nonneg_right (by omega) (Int.pow_nonneg (by omega))
theorem numOf_bound (l : List Int) (h : ∀ z ∈ l, 0 ≤ z ∧ z < 256) : 0 ≤ numOf l ∧ numOf l < 256 ^ l.length := by
  have := foldl_bound l h 0 (by omega)
  rw [show (0 : Int) + 1 = 1 by omega, Int.one_mul] at this
  exact this
theorem numOf_two (x : Int) (h0 : 0 ≤ x) (h : x < 65536) : numOf (numBytes 2 x) = x := by simp [numOf, numBytes2]; omega
theorem numOf_four (x : Int) (h0 : 0 ≤ x) (h : x < 4294967296) : numOf (numBytes 4 x) = x := by simp [numOf, numBytes4]; omega
end Go.Proofs.YtjjgbcjgmjggnaaGreat

namespace Go.Proofs.YtjjgbcjgmjggnaaGreat
open Go.RowKit
set_option linter.unusedVariables false
set_option maxRecDepth 100000

/-- Outside the blocks F nothing that was there has turned. -/
structure Touch (F : Nat → Prop) (w w' : World) : Prop where
  os : w'.os = w.os
  tape : w'.tape = w.tape
  output : w'.output = w.output
  size : w.heap.size ≤ w'.heap.size
  block : ∀ k, k < w.heap.size → ¬ F k → w'.heap[k]? = w.heap[k]?

theorem Touch.refl (F : Nat → Prop) (w : World) : Touch F w w := ⟨rfl, rfl, rfl, Nat.le_refl _, fun _ _ _ => rfl⟩
theorem Touch.trans {F : Nat → Prop} {a b c : World} (h : Touch F a b) (k : Touch F b c) : Touch F a c :=
  ⟨k.os.trans h.os, k.tape.trans h.tape, k.output.trans h.output, Nat.le_trans h.size k.size, fun i hi hn => (k.block i (Nat.lt_of_lt_of_le hi h.size) hn).trans (h.block i hi hn)⟩
/-- What is touched of new blocks counts nothing. -/
theorem Touch.trans' {F G : Nat → Prop} {a b c : World} (h : Touch F a b) (k : Touch G b c) (hG : ∀ i, i < a.heap.size → G i → F i) : Touch F a c :=
  ⟨k.os.trans h.os, k.tape.trans h.tape, k.output.trans h.output, Nat.le_trans h.size k.size, fun i hi hn => (k.block i (Nat.lt_of_lt_of_le hi h.size) (fun g => hn (hG i hi g))).trans (h.block i hi hn)⟩
theorem Touch.mono {F G : Nat → Prop} {a b : World} (h : Touch F a b) (hG : ∀ i, i < a.heap.size → F i → G i) : Touch G a b :=
  ⟨h.os, h.tape, h.output, h.size, fun i hi hn => h.block i hi (fun f => hn (hG i hi f))⟩
theorem Touch.drew {F : Nat → Prop} {a w : World} (h : Touch F a w) : Touch F a w.drew := ⟨h.os, h.tape, h.output, h.size, h.block⟩
theorem Touch.drewN {F : Nat → Prop} {a w : World} (h : Touch F a w) (n : Nat) : Touch F a (w.drewN n) := ⟨h.os, h.tape, h.output, h.size, h.block⟩
theorem Touch.alloc {F : Nat → Prop} {a w : World} (h : Touch F a w) (o : Obj) : Touch F a (w.alloc o) :=
  h.trans ⟨rfl, rfl, rfl, by simp, fun k hk _ => Below.heap_alloc _ _ _ hk⟩
theorem Touch.setCell {F : Nat → Prop} {a w : World} (h : Touch F a w) {p : Addr} (hp : F p.block ∨ a.heap.size ≤ p.block) (u : Value) : Touch F a (w.setCell p u) := by
  refine ⟨h.os, h.tape, h.output, by have := h.size; simpa [World.setCell] using this, fun k hk hn => ?_⟩
  rw [Below.heap_setCell _ _ _ _ (by rintro rfl; rcases hp with hp | hp; exact hn hp; omega)]
  exact h.block k hk hn
theorem Touch.grown {F : Nat → Prop} {a w w' : World} {row : Option Nat} (h : Touch F a w) (hg : w.grownBy w' row) (hr : ∀ k, row = some k → F k ∨ a.heap.size ≤ k) : Touch F a w' := by
  refine ⟨hg.os.trans h.os, hg.tape.trans h.tape, hg.output.trans h.output, Nat.le_trans h.size hg.size, fun k hk hn => ?_⟩
  rw [hg.block k (Nat.lt_of_lt_of_le hk h.size) (fun e => by rcases hr k e.symm with hp | hp; exact hn hp; omega)]
  exact h.block k hk hn
theorem Touch.cell {F : Nat → Prop} {w w' : World} (h : Touch F w w') {p : Addr} (hp : p.block < w.heap.size) (hn : ¬ F p.block) : w'.cell? p = w.cell? p := World.cell?_of_block (w := w) (h.block p.block hp hn)
theorem Touch.frozen {F : Nat → Prop} {w w' : World} (h : Touch F w w') {p : Addr} (hp : p.block < w.heap.size) (hn : ¬ F p.block) : w'.frozen? p = w.frozen? p := World.frozen?_of_block (w := w) (h.block p.block hp hn)
theorem Touch.below {F : Nat → Prop} {w w' : World} (h : Touch F w w') {B : Nat} (hB : B ≤ w.heap.size) (hn : ∀ k, k < B → ¬ F k) : Below B w w' :=
  ⟨h.os, h.tape, h.output, h.size, fun k hk => h.block k (by omega) (hn k hk)⟩

theorem lt_of_cell {w : World} {b o : Nat} {v : Value} (h : w.cell? ⟨b, o, none⟩ = some v) : b < w.heap.size := by
  rcases Nat.lt_or_ge b w.heap.size with h' | h'
  · exact h'
  · simp [World.cell?, Array.getElem?_eq_none h'] at h

theorem lt_of_cellA {w : World} {a : Addr} {v : Value} (h : w.cell? a = some v) : a.block < w.heap.size := by
  rcases Nat.lt_or_ge a.block w.heap.size with h' | h'
  · exact h'
  · simp [World.cell?, Array.getElem?_eq_none h'] at h
theorem lt_of_heap {w : World} {b : Nat} {o : Obj} (h : w.heap[b]? = some o) : b < w.heap.size := by
  rcases Nat.lt_or_ge b w.heap.size with h' | h'
  · exact h'
  · simp [Array.getElem?_eq_none h'] at h
theorem Touch.heapN {w w' : World} (t : Touch (fun _ => False) w w') {b : Nat} {o : Obj} (h : w.heap[b]? = some o) : w'.heap[b]? = some o := (t.block b (lt_of_heap h) (fun h => h)).trans h
theorem Touch.cellN {w w' : World} (t : Touch (fun _ => False) w w') {a : Addr} {v : Value} (h : w.cell? a = some v) : w'.cell? a = some v := (t.cell (lt_of_cellA h) (fun h => h)).trans h
theorem cell_setRow_other (w : World) (g : Nat) (R : Array Value) (a : Addr) (h : a.block ≠ g) : (w.setRow g R).cell? a = w.cell? a := World.cell?_of_block (w := w) (setRow_other w g a.block R h)
theorem frozen_setRow_other (w : World) (g : Nat) (R : Array Value) (a : Addr) (h : a.block ≠ g) : (w.setRow g R).frozen? a = w.frozen? a := World.frozen?_of_block (w := w) (setRow_other w g a.block R h)
theorem Touch.setRow {F : Nat → Prop} {a w : World} (h : Touch F a w) {g : Nat} (hp : F g ∨ a.heap.size ≤ g) (R : Array Value) : Touch F a (w.setRow g R) := by
  refine ⟨h.os, h.tape, h.output, by have := h.size; simpa [World.setRow] using this, fun k hk hn => ?_⟩
  rw [setRow_other w g k R (by rintro rfl; rcases hp with hp | hp; exact hn hp; omega)]
  exact h.block k hk hn
/-- A new block and draws: nothing old has turned. -/
theorem new1 (w : World) (o : Obj) (n : Nat) : Touch (fun _ => False) w ((w.alloc o).drewN n) := ((Touch.refl _ w).alloc o).drewN n

theorem own_touch {F : Nat → Prop} {w w' : World} {base : Nat} {e : TypeId} {size : Nat} {v : Value} {n : Nat} {xs : List Value} (h : w.ownsRow base e size v n xs) (t : Touch F w w') (hn : ∀ k, v.ownBlock = some k → ¬ F k) : w'.ownsRow base e size v n xs := by
  obtain ⟨h1, h2⟩ := h
  refine ⟨h1, ?_⟩
  rcases h2 with h2 | ⟨g, cap, cur, hv, hg, hh, r⟩
  · exact Or.inl h2
  · refine Or.inr ⟨g, cap, cur, hv, hg, ?_, r⟩
    have hlt : g < w.heap.size := by
      rcases Nat.lt_or_ge g w.heap.size with h' | h'
      · exact h'
      · simp [Array.getElem?_eq_none h'] at hh
    rw [t.block g hlt (hn g (by subst hv; rfl))]
    exact hh

def bytesOf (bs : List Int) : List Value := bs.map (Value.int .u8)
theorem length_bytesOf (bs : List Int) : (bytesOf bs).length = bs.length := by simp [bytesOf]
theorem bytesOf_append (a b : List Int) : bytesOf (a ++ b) = bytesOf a ++ bytesOf b := by simp [bytesOf]
theorem bytesOf_set (l : List Int) (k : Nat) (x : Int) : bytesOf (l.set k x) = (bytesOf l).set k (.int .u8 x) := by simp [bytesOf, List.map_set]
theorem oneCell_bytesOf (bs : List Int) : ∀ u ∈ bytesOf bs, u.oneCell' = true := by
  intro u hu
  simp only [bytesOf, List.mem_map] at hu
  obtain ⟨x, _, rfl⟩ := hu
  rfl

/-- A writer that Write made lies in block b: its bytes, its limit, its error. -/
structure WrS (w : World) (b : Nat) (v : Value) (bs : List Int) (most err : Int) : Prop where
  made : w.cell? ⟨b, 0, none⟩ = some (.bool true)
  row : w.cell? ⟨b, 1, none⟩ = some v
  most : w.cell? ⟨b, 2, none⟩ = some (.int .i64 most)
  err : w.cell? ⟨b, 3, none⟩ = some (.int .i64 err)
  f1 : w.frozen? ⟨b, 1, none⟩ = false
  f3 : w.frozen? ⟨b, 3, none⟩ = false
  own : w.ownsRow (b + 1) 5 1 v bs.length (bytesOf bs)

/-- The blocks of a writer. -/
def wrF (b : Nat) (v : Value) : Nat → Prop := fun k => k = b ∨ v.ownBlock = some k

theorem WrS.touch {F : Nat → Prop} {w w' : World} {b : Nat} {v : Value} {bs : List Int} {most err : Int} (h : WrS w b v bs most err) (t : Touch F w w') (hb : ¬ F b) (hn : ∀ k, v.ownBlock = some k → ¬ F k) : WrS w' b v bs most err := by
  have hl := lt_of_cell h.made
  exact ⟨(t.cell hl hb).trans h.made, (t.cell hl hb).trans h.row, (t.cell hl hb).trans h.most, (t.cell hl hb).trans h.err, (t.frozen hl hb).trans h.f1, (t.frozen hl hb).trans h.f3, own_touch h.own t hn⟩

theorem WrS.drewN {w : World} {b : Nat} {v : Value} {bs : List Int} {most err : Int} (h : WrS w b v bs most err) (n : Nat) : WrS (w.drewN n) b v bs most err :=
  h.touch (F := fun _ => False) ((Touch.refl _ _).drewN n) (fun h => h) (fun _ _ h => h)

theorem WrS.alloc {w : World} {b : Nat} {v : Value} {bs : List Int} {most err : Int} (h : WrS w b v bs most err) (o : Obj) : WrS (w.alloc o) b v bs most err :=
  h.touch (F := fun _ => False) ((Touch.refl _ _).alloc o) (fun h => h) (fun _ _ h => h)

theorem add_plain (b o j : Nat) : (⟨b, o, none⟩ : Addr).add j = ⟨b, o + j, none⟩ := by
  by_cases hj : j = 0
  · subst hj; simp [Addr.add]
  · simp [Addr.add, hj]

theorem src_new (w : World) (C : Array Value) (t : TypeId) (off : Nat) (ns : List Int) (hC : C.toList.drop off = bytesOf ns) :
    ∀ j u, (bytesOf ns)[j]? = some u → (w.alloc (.cells C t)).cell? ((⟨w.heap.size, off, none⟩ : Addr).add j) = some u := by
  intro j u hj
  rw [← hC, List.getElem?_drop] at hj
  rw [add_plain]
  simpa using hj

theorem own_ne {w : World} {base : Nat} {e : TypeId} {size : Nat} {v : Value} {n : Nat} {xs : List Value} (h : w.ownsRow base e size v n xs) {k : Nat} (hk : k < base) : v.ownBlock ≠ some k := by
  intro e
  have := (h.lt k e).1
  omega

theorem own_setCell {w : World} {base : Nat} {e : TypeId} {size : Nat} {v : Value} {n : Nat} {xs : List Value} (h : w.ownsRow base e size v n xs) {a : Addr} (ha : a.block < base) (u : Value) : (w.setCell a u).ownsRow base e size v n xs :=
  ownsRow_setCell_below h ha u

/-- Behind an append to the row and the store of the new row into the writer. -/
theorem wr_appended {w w1 : World} {b : Nat} {v v' : Value} {bs bs' : List Int} {most err : Int} (h : WrS w b v bs most err) (hg : w.grownBy w1 v.ownBlock)
    (hown : w1.ownsRow (b + 1) 5 1 v' bs'.length (bytesOf bs')) : WrS (w1.setCell ⟨b, 1, none⟩ v') b v' bs' most err ∧ Touch (wrF b v) w (w1.setCell ⟨b, 1, none⟩ v') := by
  have hl := lt_of_cell h.made
  have hne : ¬ v.ownBlock = some b := own_ne h.own (Nat.lt_succ_self b)
  have t0 : Touch (fun k => v.ownBlock = some k) w w1 := (Touch.refl _ _).grown hg (fun k hk => Or.inl hk)
  have c0 := (t0.cell (p := ⟨b, 0, none⟩) hl hne).trans h.made
  have c1 := (t0.cell (p := ⟨b, 1, none⟩) hl hne).trans h.row
  have c2 := (t0.cell (p := ⟨b, 2, none⟩) hl hne).trans h.most
  have c3 := (t0.cell (p := ⟨b, 3, none⟩) hl hne).trans h.err
  have f1 := (t0.frozen (p := ⟨b, 1, none⟩) hl hne).trans h.f1
  have f3 := (t0.frozen (p := ⟨b, 3, none⟩) hl hne).trans h.f3
  refine ⟨⟨?_, ?_, ?_, ?_, ?_, ?_, own_setCell hown (Nat.lt_succ_self b) _⟩, Touch.setCell (F := wrF b v) (p := ⟨b, 1, none⟩) (t0.mono (fun i _ hi => Or.inr hi)) (Or.inl (Or.inl rfl)) _⟩
  · simp [c0, go_sem]
  · simp [c1, go_sem]
  · simp [c2, go_sem]
  · simp [c3, go_sem]
  · simp [f1, go_sem]
  · simp [f3, go_sem]

/-- A slice value reads as the bytes rs. -/
def RowAt (w : World) (rv : Value) (rs : List Int) : Prop :=
  (rv = .slice none 0 0 ∧ rs = []) ∨ ∃ g off c, rv = .slice (some ⟨g, off, none⟩) rs.length c ∧ rs.length ≤ c ∧ c ≤ maxLen ∧ ∀ j u, (bytesOf rs)[j]? = some u → w.cell? ⟨g, off + j, none⟩ = some u

theorem RowAt.touch {F : Nat → Prop} {w w' : World} {rv : Value} {rs : List Int} (h : RowAt w rv rs) (t : Touch F w w') (hn : ∀ k, rv.ownBlock = some k → ¬ F k) : RowAt w' rv rs := by
  rcases h with h | ⟨g, off, c, rfl, h1, h2, h3⟩
  · exact Or.inl h
  · refine Or.inr ⟨g, off, c, rfl, h1, h2, fun j u hj => ?_⟩
    have hc := h3 j u hj
    exact (t.cell (p := ⟨g, off + j, none⟩) (lt_of_cell hc) (hn g rfl)).trans hc

theorem own_rowAt {w : World} {base : Nat} {v : Value} {bs : List Int} (h : w.ownsRow base 5 1 v bs.length (bytesOf bs)) : RowAt w v bs := by
  rcases h.2 with ⟨rfl, e⟩ | ⟨g, cap, cur, rfl, hg, hh, hnc, hcm, hcs, htake⟩
  · exact Or.inl ⟨rfl, List.eq_nil_of_length_eq_zero e⟩
  · refine Or.inr ⟨g, 0, cap, rfl, hnc, hcm, fun j u hj => ?_⟩
    have := h.cells (g := g) rfl j u hj
    rwa [add_plain] at this

theorem rowAt_form {w : World} {rv : Value} {rs : List Int} (h : RowAt w rv rs) : ∃ a c, rv = .slice a rs.length c ∧ rs.length ≤ maxLen := by
  rcases h with ⟨rfl, rfl⟩ | ⟨g, off, c, rfl, h1, h2, _⟩
  · exact ⟨_, _, rfl, Nat.zero_le _⟩
  · exact ⟨_, _, rfl, Nat.le_trans h1 h2⟩

/-- A reader that Read or Part made lies in block b: its row reads as rs, the place is p. -/
structure RdS (w : World) (b : Nat) (rv : Value) (rs : List Int) (p : Nat) (err : Int) : Prop where
  made : w.cell? ⟨b, 0, none⟩ = some (.bool true)
  row : w.cell? ⟨b, 1, none⟩ = some rv
  pos : w.cell? ⟨b, 2, none⟩ = some (.int .i64 p)
  err : w.cell? ⟨b, 3, none⟩ = some (.int .i64 err)
  f2 : w.frozen? ⟨b, 2, none⟩ = false
  f3 : w.frozen? ⟨b, 3, none⟩ = false
  ple : p ≤ rs.length
  rowAt : RowAt w rv rs
  ne : rv.ownBlock ≠ some b
  byte : ∀ x ∈ rs, 0 ≤ x ∧ x < 256
  blk : ∀ k, rv.ownBlock = some k → k < w.heap.size

theorem RdS.touch {F : Nat → Prop} {w w' : World} {b p : Nat} {rv : Value} {rs : List Int} {err : Int} (h : RdS w b rv rs p err) (t : Touch F w w') (hb : ¬ F b) (hn : ∀ k, rv.ownBlock = some k → ¬ F k) : RdS w' b rv rs p err := by
  have hl := lt_of_cell h.made
  exact ⟨(t.cell hl hb).trans h.made, (t.cell hl hb).trans h.row, (t.cell hl hb).trans h.pos, (t.cell hl hb).trans h.err, (t.frozen hl hb).trans h.f2, (t.frozen hl hb).trans h.f3, h.ple, h.rowAt.touch t hn, h.ne, h.byte, fun k hk => Nat.lt_of_lt_of_le (h.blk k hk) t.size⟩
theorem RdS.drewN {w : World} {b p : Nat} {rv : Value} {rs : List Int} {err : Int} (h : RdS w b rv rs p err) (n : Nat) : RdS (w.drewN n) b rv rs p err :=
  h.touch (F := fun _ => False) ((Touch.refl _ _).drewN n) (fun h => h) (fun _ _ h => h)

theorem RdS.setPos {w : World} {b p : Nat} {rv : Value} {rs : List Int} {err : Int} (h : RdS w b rv rs p err) (q : Nat) (hq : q ≤ rs.length) : RdS (w.setCell ⟨b, 2, none⟩ (.int .i64 q)) b rv rs q err := by
  have t : Touch (fun k => k = b) w (w.setCell ⟨b, 2, none⟩ (.int .i64 q)) := Touch.setCell (F := fun k => k = b) (p := ⟨b, 2, none⟩) (Touch.refl _ w) (Or.inl rfl) _
  exact ⟨by simp [h.made, go_sem], by simp [h.row, go_sem], by simp [h.pos, go_sem], by simp [h.err, go_sem], by simp [h.f2, go_sem], by simp [h.f3, go_sem], hq, h.rowAt.touch t (fun k hk e => h.ne (by rw [hk, e])), h.ne, h.byte, fun k hk => Nat.lt_of_lt_of_le (h.blk k hk) t.size⟩

theorem RdS.setErr {w : World} {b p : Nat} {rv : Value} {rs : List Int} {err : Int} (h : RdS w b rv rs p err) (q : Int) : RdS (w.setCell ⟨b, 3, none⟩ (.int .i64 q)) b rv rs p q := by
  have t : Touch (fun k => k = b) w (w.setCell ⟨b, 3, none⟩ (.int .i64 q)) := Touch.setCell (F := fun k => k = b) (p := ⟨b, 3, none⟩) (Touch.refl _ w) (Or.inl rfl) _
  exact ⟨by simp [h.made, go_sem], by simp [h.row, go_sem], by simp [h.pos, go_sem], by simp [h.err, go_sem], by simp [h.f2, go_sem], by simp [h.f3, go_sem], h.ple, h.rowAt.touch t (fun k hk e => h.ne (by rw [hk, e])), h.ne, h.byte, fun k hk => Nat.lt_of_lt_of_le (h.blk k hk) t.size⟩

end Go.Proofs.YtjjgbcjgmjggnaaGreat

namespace Go.Proofs.YtjjgbcjgmjggnaaGreat
open Go.RowKit
set_option linter.unusedVariables false

/-- The sum of all bytes. -/
def S0 : List Int → Int
  | [] => 0
  | x :: r => x + S0 r
/-- The bytes, the first n times, each next one once less. -/
def C1 : Int → List Int → Int
  | _, [] => 0
  | n, x :: r => n * x + C1 (n - 1) r
def S1 (l : List Int) : Int := C1 l.length l

/-- What the two cells hold behind the bytes l. -/
structure Run (l : List Int) (a b : Int) : Prop where
  c0 : a % 255 = S0 l % 255
  c1 : b % 255 = S1 l % 255
theorem Run.zero : Run [] 0 0 := ⟨rfl, rfl⟩
/-- The words added up; the flag: the next byte is a higher one. -/
def W : Bool → List Int → Int
  | _, [] => 0
  | true, x :: r => 256 * x + W false r
  | false, x :: r => x + W true r
def par (b : Bool) (n : Nat) : Bool := if n % 2 = 0 then b else !b
theorem par_succ (b : Bool) (n : Nat) : par b (n + 1) = par (!b) n := by
  unfold par
  by_cases h : n % 2 = 0
  · rw [if_neg (by omega), if_pos h]
  · rw [if_pos (by omega), if_neg h]; simp
theorem W_append (b : Bool) (l m : List Int) : W b (l ++ m) = W b l + W (par b l.length) m := by
  induction l generalizing b with
  | nil => simp [W, par]
  | cons x r ih =>
    rw [List.length_cons, par_succ]
    cases b with
    | true => simp only [List.cons_append, W, ih, Bool.not_true]; omega
    | false => simp only [List.cons_append, W, ih, Bool.not_false]; omega
theorem W_even {l : List Int} (h : l.length % 2 = 0) (x : Int) : W true (l ++ [x]) = W true l + 256 * x := by
  rw [W_append]; simp [par, h, W]
theorem W_odd {l : List Int} (h : ¬ l.length % 2 = 0) (x : Int) : W true (l ++ [x]) = W true l + x := by
  rw [W_append]; simp [par, h, W]
theorem W_nonneg (b : Bool) (l : List Int) (h : ∀ x ∈ l, 0 ≤ x ∧ x < 256) : 0 ≤ W b l := by
  induction l generalizing b with
  | nil => simp [W]
  | cons x r ih =>
    have hx := h x (by simp)
    have hr := fun b => ih b (fun y hy => h y (by simp [hy]))
    cases b with
    | true => have := hr false; simp only [W]; omega
    | false => have := hr true; simp only [W]; omega
/-- The folded sum. -/
def fold (n : Int) : Int := if n = 0 then 0 else (n - 1) % 65535 + 1
theorem fold_small {n : Int} (h0 : 0 ≤ n) (h : n ≤ 65535) : fold n = n := by unfold fold; split <;> omega
theorem fold_bound (n : Int) : 0 ≤ fold n ∧ fold n ≤ 65535 := by unfold fold; split <;> omega
theorem fold_step {n : Int} (h : 65535 < n) : fold (n / 65536 + n % 65536) = fold n := by
  unfold fold
  rw [if_neg (by omega), if_neg (by omega)]
  omega
theorem fold_fold (n : Int) : fold (fold n) = fold n := fold_small (fold_bound n).1 (fold_bound n).2
theorem fold_add {a b : Int} (ha : 0 ≤ a) (hb : 0 ≤ b) (h : fold a = fold b) {x : Int} (hx : 0 ≤ x) : fold (a + x) = fold (b + x) := by
  revert h
  unfold fold
  intro h
  split at h <;> split at h <;> split <;> split <;> omega
theorem fold_whole {a : Int} (ha : 0 ≤ a) : fold (a + (65535 - fold a)) = 65535 := by
  unfold fold
  split <;> split <;> omega

/-- What the two cells of words hold behind the bytes l. -/
structure WRun (l : List Int) (h k : Int) : Prop where
  eq : fold (256 * h + k) = fold (W true l)
  h0 : 0 ≤ h
  k0 : 0 ≤ k
  w0 : 0 ≤ W true l
theorem WRun.zero : WRun [] 0 0 := ⟨rfl, Int.le_refl _, Int.le_refl _, Int.le_refl _⟩
theorem WRun.even {l : List Int} {h k : Int} (r : WRun l h k) (e : l.length % 2 = 0) {x : Int} (hx : 0 ≤ x) : WRun (l ++ [x]) (h + x) k := by
  obtain ⟨r1, r2, r3, r4⟩ := r
  refine ⟨?_, by omega, r3, by rw [W_even e]; omega⟩
  rw [W_even e, ← fold_add (by omega) r4 r1 (x := 256 * x) (by omega)]
  congr 1
  omega
theorem WRun.odd {l : List Int} {h k : Int} (r : WRun l h k) (e : ¬ l.length % 2 = 0) {x : Int} (hx : 0 ≤ x) : WRun (l ++ [x]) h (k + x) := by
  obtain ⟨r1, r2, r3, r4⟩ := r
  refine ⟨?_, r2, by omega, by rw [W_odd e]; omega⟩
  rw [W_odd e, ← fold_add (by omega) r4 r1 (x := x) hx]
  congr 1
  omega
theorem WRun.lower {l : List Int} {h k : Int} (r : WRun l h k) : WRun l (fold (256 * h + k) / 256) (fold (256 * h + k) % 256) := by
  obtain ⟨r1, r2, r3, r4⟩ := r
  have hb := fold_bound (256 * h + k)
  refine ⟨?_, by omega, by omega, r4⟩
  rw [show 256 * (fold (256 * h + k) / 256) + fold (256 * h + k) % 256 = fold (256 * h + k) by omega, fold_fold, r1]

/-- The bytes with two others at a place. -/
def laid (l : List Int) (at' : Nat) (x y : Int) : List Int := (l.set at' x).set (at' + 1) y
/-- Both sums are 0. -/
def whole (l : List Int) : Bool := (S0 l % 255 == 0) && (S1 l % 255 == 0)
end Go.Proofs.YtjjgbcjgmjggnaaGreat

namespace Go.Proofs.YtjjgbcjgmjggnaaGreat
set_option linter.unusedVariables false

/-- The length that bytes tell. -/
def pTold (rs : List Int) : Int := numOf ((rs.drop 2).take 2)
/-- What Length finds wrong. -/
def pLenE (rs : List Int) : Int :=
  if rs.length < 24 then 10 else if rs.getD 0 0 ≠ 2 then 20 else if ¬ (1 ≤ rs.getD 1 0 ∧ rs.getD 1 0 ≤ 5) then 21 else if ¬ (24 ≤ pTold rs ∧ pTold rs ≤ (rs.length : Int)) then 22 else 0
def pLenN (rs : List Int) : Int := if pLenE rs = 0 then pTold rs else 0
structure PLen (rs : List Int) : Prop where
  l : 24 ≤ rs.length
  v : rs.getD 0 0 = 2
  t : 1 ≤ rs.getD 1 0 ∧ rs.getD 1 0 ≤ 5
  n : 24 ≤ pTold rs ∧ pTold rs ≤ (rs.length : Int)
theorem pLenE_ok {rs : List Int} (h : pLenE rs = 0) : PLen rs := by
  unfold pLenE at h
  by_cases h1 : rs.length < 24
  · rw [if_pos h1] at h; omega
  · rw [if_neg h1] at h
    by_cases h2 : rs.getD 0 0 = 2
    · rw [if_neg (by omega)] at h
      by_cases h3 : 1 ≤ rs.getD 1 0 ∧ rs.getD 1 0 ≤ 5
      · rw [if_neg (by omega)] at h
        by_cases h4 : 24 ≤ pTold rs ∧ pTold rs ≤ (rs.length : Int)
        · exact ⟨by omega, h2, h3, h4⟩
        · rw [if_pos h4] at h; omega
      · rw [if_pos h3] at h; omega
    · rw [if_pos h2] at h; omega
theorem PLen.zero {rs : List Int} (h : PLen rs) : pLenE rs = 0 := by
  unfold pLenE
  rw [if_neg (by have := h.l; omega), if_neg (by have := h.v; omega), if_neg (by have := h.t; omega), if_neg (by have := h.n; omega)]
/-- A packet's bytes without Data. -/
def summedB (rs : List Int) : List Int := rs.take 16 ++ rs.drop 24
/-- Is its sum right? -/
def pRight (rs : List Int) : Bool := decide (pLenE rs = 0) && (fold (W true (summedB (rs.take (pTold rs).toNat))) == 65535)
end Go.Proofs.YtjjgbcjgmjggnaaGreat

namespace Go.Proofs.YtjjgbcjgmjggnaaGreat
open Go.RowKit
set_option linter.unusedVariables false

/-- T0 to T63. -/
def tabN : List Nat := [
  0xd76aa478, 0xe8c7b756, 0x242070db, 0xc1bdceee, 0xf57c0faf, 0x4787c62a, 0xa8304613, 0xfd469501,
  0x698098d8, 0x8b44f7af, 0xffff5bb1, 0x895cd7be, 0x6b901122, 0xfd987193, 0xa679438e, 0x49b40821,
  0xf61e2562, 0xc040b340, 0x265e5a51, 0xe9b6c7aa, 0xd62f105d, 0x02441453, 0xd8a1e681, 0xe7d3fbc8,
  0x21e1cde6, 0xc33707d6, 0xf4d50d87, 0x455a14ed, 0xa9e3e905, 0xfcefa3f8, 0x676f02d9, 0x8d2a4c8a,
  0xfffa3942, 0x8771f681, 0x6d9d6122, 0xfde5380c, 0xa4beea44, 0x4bdecfa9, 0xf6bb4b60, 0xbebfbc70,
  0x289b7ec6, 0xeaa127fa, 0xd4ef3085, 0x04881d05, 0xd9d4d039, 0xe6db99e5, 0x1fa27cf8, 0xc4ac5665,
  0xf4292244, 0x432aff97, 0xab9423a7, 0xfc93a039, 0x655b59c3, 0x8f0ccc92, 0xffeff47d, 0x85845dd1,
  0x6fa87e4f, 0xfe2ce6e0, 0xa3014314, 0x4e0811a1, 0xf7537e82, 0xbd3af235, 0x2ad7d2bb, 0xeb86d391]
def notN (a : Nat) : Nat := 4294967295 - a
def mixN (i b c d : Nat) : Nat :=
  if i / 16 = 0 then (b &&& c) ||| (notN b &&& d)
  else if i / 16 = 1 then (d &&& b) ||| (notN d &&& c)
  else if i / 16 = 2 then (b ^^^ c) ^^^ d
  else c ^^^ (b ||| notN d)
def rotN (v n : Nat) : Nat := (v * 2 ^ n % 4294967296) ||| (v / 2 ^ (32 - n))
def byN (i : Nat) : Nat := [7, 12, 17, 22, 5, 9, 14, 20, 4, 11, 16, 23, 6, 10, 15, 21].getD (4 * (i / 16) + i % 4) 0
def whichN (i : Nat) : Nat := if i / 16 = 0 then i else if i / 16 = 1 then (5 * i + 1) % 16 else if i / 16 = 2 then (3 * i + 5) % 16 else 7 * i % 16
/-- Four bytes from place k on, the lowest first. -/
def wordN (p : List Nat) (k : Nat) : Nat := ((p.getD k 0 ||| p.getD (k + 1) 0 * 256) ||| p.getD (k + 2) 0 * 65536) ||| p.getD (k + 3) 0 * 16777216
/-- The four numbers. -/
structure Q4 where
  a : Nat
  b : Nat
  c : Nat
  d : Nat
def addN (x y : Nat) : Nat := (x + y) % 4294967296
def dstepN (p : List Nat) (i : Nat) (q : Q4) : Q4 :=
  ⟨q.d, addN q.b (rotN (addN (addN (addN q.a (mixN i q.b q.c q.d)) (tabN.getD i 0)) (wordN p (4 * whichN i))) (byN i)), q.b, q.c⟩
/-- The first n steps. -/
def stepsN (p : List Nat) (q : Q4) : Nat → Q4
  | 0 => q
  | n + 1 => dstepN p n (stepsN p q n)
def blockN (s : Q4) (p : List Nat) : Q4 :=
  let q := stepsN p s 64
  ⟨addN s.a q.a, addN s.b q.b, addN s.c q.c, addN s.d q.d⟩
def lowN (n : Nat) : Nat → List Nat
  | 0 => []
  | k + 1 => n % 256 :: lowN (n / 256) k
/-- How many bytes 0 it takes. -/
def gapN (n : Nat) : Nat := (119 - n % 64) % 64
def padN (l : List Nat) : List Nat := l ++ 128 :: (List.replicate (gapN l.length) 0 ++ lowN (8 * l.length) 8)
def startN : Q4 := ⟨0x67452301, 0xefcdab89, 0x98badcfe, 0x10325476⟩
def blocksN : Nat → Q4 → List Nat → Q4
  | 0, s, _ => s
  | n + 1, s, p => blocksN n (blockN s p) (p.drop 64)
def outN (s : Q4) : List Nat := lowN s.a 4 ++ (lowN s.b 4 ++ (lowN s.c 4 ++ lowN s.d 4))
def ofN (l : List Nat) : List Nat := outN (blocksN ((padN l).length / 64) startN (padN l))
def keyN (k : List Nat) : List Nat := k.take 16 ++ List.replicate (16 - k.length) 0
def keyedN (k l : List Nat) : List Nat := ofN (l ++ keyN k)

theorem length_lowN (n k : Nat) : (lowN n k).length = k := by
  induction k generalizing n with
  | zero => rfl
  | succ k ih => simp [lowN, ih]
theorem length_keyN (k : List Nat) : (keyN k).length = 16 := by simp [keyN]; omega
theorem length_outN (s : Q4) : (outN s).length = 16 := by simp [outN, length_lowN]
theorem lt32_addN (x y : Nat) : addN x y < 4294967296 := Nat.mod_lt _ (by decide)
theorem notN_lt (a : Nat) : notN a < 4294967296 := by unfold notN; omega
theorem or_lt32 {a b : Nat} (ha : a < 4294967296) (hb : b < 4294967296) : a ||| b < 4294967296 := Nat.or_lt_two_pow (n := 32) ha hb
theorem and_lt32 {a : Nat} (b : Nat) (ha : a < 4294967296) : a &&& b < 4294967296 := Nat.lt_of_le_of_lt Nat.and_le_left ha
theorem xor_lt32 {a b : Nat} (ha : a < 4294967296) (hb : b < 4294967296) : a ^^^ b < 4294967296 := Nat.xor_lt_two_pow (n := 32) ha hb
theorem mixN_lt {i b c d : Nat} (hb : b < 4294967296) (hc : c < 4294967296) (hd : d < 4294967296) : mixN i b c d < 4294967296 := by
  unfold mixN
  split
  · exact or_lt32 (and_lt32 _ hb) (and_lt32 _ (notN_lt _))
  split
  · exact or_lt32 (and_lt32 _ hd) (and_lt32 _ (notN_lt _))
  split
  · exact xor_lt32 (xor_lt32 hb hc) hd
  · exact xor_lt32 hc (or_lt32 hb (notN_lt _))
theorem rotN_lt {v : Nat} (n : Nat) (hv : v < 4294967296) : rotN v n < 4294967296 :=
  or_lt32 (Nat.mod_lt _ (by decide)) (Nat.lt_of_le_of_lt (Nat.div_le_self _ _) hv)
theorem tabN_lt (i : Nat) : tabN.getD i 0 < 4294967296 := by
  by_cases h : i < 64
  · exact (by decide +kernel : ∀ i, i < 64 → tabN.getD i 0 < 4294967296) i h
  · have e : tabN[i]? = none := List.getElem?_eq_none (by simpa [tabN] using h)
    simp [List.getD, e]
theorem whichN_lt {i : Nat} (h : i < 64) : whichN i < 16 := (by decide : ∀ i, i < 64 → whichN i < 16) i h
theorem byN_bd {i : Nat} (h : i < 64) : 4 ≤ byN i ∧ byN i ≤ 23 := (by decide : ∀ i, i < 64 → 4 ≤ byN i ∧ byN i ≤ 23) i h
/-- All four are of 32 bits. -/
def Q4.ok (q : Q4) : Prop := q.a < 4294967296 ∧ q.b < 4294967296 ∧ q.c < 4294967296 ∧ q.d < 4294967296
theorem stepN_ok {p : List Nat} {i : Nat} {q : Q4} (h : q.ok) : (dstepN p i q).ok := ⟨h.2.2.2, lt32_addN _ _, h.2.1, h.2.2.1⟩
theorem stepsN_ok {p : List Nat} {q : Q4} (h : q.ok) : ∀ n, (stepsN p q n).ok
  | 0 => h
  | n + 1 => stepN_ok (stepsN_ok h n)
theorem blockN_ok (s : Q4) (p : List Nat) : (blockN s p).ok := ⟨lt32_addN _ _, lt32_addN _ _, lt32_addN _ _, lt32_addN _ _⟩
theorem startN_ok : startN.ok := ⟨by decide, by decide, by decide, by decide⟩
/-- A block's end is all that the next one knows. -/
theorem blocksN_add (m n : Nat) (s : Q4) (p : List Nat) : blocksN (m + n) s p = blocksN n (blocksN m s p) (p.drop (64 * m)) := by
  induction m generalizing s p with
  | zero => simp [blocksN]
  | succ m ih =>
    rw [show m + 1 + n = (m + n) + 1 by omega]
    simp only [blocksN]
    rw [ih, List.drop_drop]
    congr 2
    omega
/-- Only the first 64 bytes count for a block. -/
theorem wordN_take (p : List Nat) {k : Nat} (h : k < 16) : wordN (p.take 64) (4 * k) = wordN p (4 * k) := by
  unfold wordN
  simp only [List.getD, List.getElem?_take]
  rw [if_pos (by omega), if_pos (by omega), if_pos (by omega), if_pos (by omega)]
theorem lowN_byte (n k : Nat) : ∀ x ∈ lowN n k, x < 256 := by
  induction k generalizing n with
  | zero => intro x hx; simp [lowN] at hx
  | succ k ih =>
    intro x hx
    simp only [lowN, List.mem_cons] at hx
    rcases hx with rfl | hx
    · omega
    · exact ih _ x hx
end Go.Proofs.YtjjgbcjgmjggnaaGreat
