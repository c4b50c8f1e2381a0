/- Pure: a head is read as it was laid; states one behind the other. -/
import Derived.Test.YthdkihnmeoacaaaGreatDoorRefRdH
import Derived.Test.YthdkihnmeoacaaaGreatDoorStaOut
import Derived.ProofKit
import Derived.OpenShut
import Derived.ChangeOld
import Derived.Deep.Slices
import Derived.Deep.Matrix
namespace Go.Proofs.YthdkihnmeoacaaaGreatDoor
open Go.RowKit
set_option linter.unusedVariables false
set_option maxRecDepth 100000

theorem rdHead_headB (h : HV) (ok : h.All) : rdHead (headB h) = h := by
  obtain ⟨a, o, t, i, v, s, m, l⟩ := h
  obtain ⟨⟨a0, a1⟩, ⟨o0, o1⟩, ⟨t0, t1⟩, ⟨i0, i1⟩, ⟨v0, v1⟩, ⟨s0, s1⟩, ⟨m0, m1⟩, ⟨l0, l1⟩⟩ := ok
  dsimp only at *
  simp only [headB, numBytes2, numBytes4, List.cons_append, List.nil_append]
  unfold rdHead
  simp [numAt, nextAt, numOf, IntKind.wrap, IntKind.bits, IntKind.signed]
  refine ⟨by omega, by omega, by omega, by omega, by omega, by omega⟩
theorem take_headB (h : HV) (r : List Int) : (headB h ++ r).take 20 = headB h := by
  rw [List.take_append_of_le_length (by rw [length_headB]; omega), List.take_of_length_le (by rw [length_headB]; omega)]
theorem drop_headB (h : HV) (r : List Int) : (headB h ++ r).drop 20 = r := by
  rw [List.drop_append_of_le_length (by rw [length_headB]; omega), List.drop_eq_nil_of_le (by rw [length_headB]; omega), List.nil_append]

/-- A state: its head, its body's row and bytes. -/
structure SE where
  h : HV
  v : Value
  rs : List Int
def SE.b (x : SE) : List Int := headB x.h ++ x.rs
def SE.size (x : SE) : Nat := 20 + x.rs.length
def rowB (l : List SE) : List Int := l.flatMap SE.b
def rowN (l : List SE) : Nat := (l.map SE.size).sum
theorem length_rowB (l : List SE) : (rowB l).length = rowN l := by
  induction l with
  | nil => rfl
  | cons x r ih => unfold rowB rowN at *; rw [List.flatMap_cons, List.length_append, ih, List.map_cons, List.sum_cons]; simp [SE.b, SE.size, length_headB]
theorem rowN_snoc (l : List SE) (x : SE) : rowN (l ++ [x]) = rowN l + x.size := by simp [rowN]
theorem rowB_snoc (l : List SE) (x : SE) : rowB (l ++ [x]) = rowB l ++ x.b := by simp [rowB]
def SE.cells (x : SE) : List Value := [.int .u16 x.h.age, .int .u8 x.h.opts, .int .u8 x.h.typ, .int .u32 x.h.id, .int .u32 x.h.adv, .int .i32 x.h.seq, .int .u16 x.h.sum, .int .u16 x.h.len, x.v]
def statesC (l : List SE) : List Value := l.flatMap SE.cells
theorem length_statesC (l : List SE) : (statesC l).length = l.length * 9 := by
  induction l with
  | nil => rfl
  | cons x r ih => unfold statesC at *; rw [List.flatMap_cons, List.length_append, ih, List.length_cons]; simp [SE.cells]; omega
theorem statesC_at (l : List SE) (j i : Nat) (x : SE) (hj : l[j]? = some x) (hi : i < 9) : (statesC l)[j * 9 + i]? = x.cells[i]? := by
  induction l generalizing j with
  | nil => simp at hj
  | cons y r ih =>
    have e : statesC (y :: r) = y.cells ++ statesC r := by simp [statesC]
    have hl : y.cells.length = 9 := rfl
    rw [e]
    cases j with
    | zero =>
      obtain rfl : y = x := by simpa using hj
      rw [List.getElem?_append_left (by omega), Nat.zero_mul, Nat.zero_add]
    | succ j =>
      rw [List.getElem?_append_right (by omega), hl, show (j + 1) * 9 + i - 9 = j * 9 + i by omega]
      exact ih j (by simpa using hj)
structure SE.Ok (w : World) (x : SE) : Prop where
  all : x.h.All
  arg : ArgAt w x.v x.rs
  byte : ∀ z ∈ x.rs, 0 ≤ z ∧ z < 256
/-- A row of states that came in. -/
structure StatesAt (w : World) (v : Value) (l : List SE) : Prop where
  vals : ValsAt w 9 v l.length (statesC l)
  ok : ∀ x ∈ l, x.Ok w
theorem SE.Ok.keep {w w' : World} {x : SE} (h : x.Ok w) (t : Touch (fun _ => False) w w') : x.Ok w' := ⟨h.all, h.arg.keepN t, h.byte⟩
theorem StatesAt.keep {w w' : World} {v : Value} {l : List SE} (h : StatesAt w v l) (t : Touch (fun _ => False) w w') : StatesAt w' v l := ⟨h.vals.keep t, fun x hx => (h.ok x hx).keep t⟩
/-- One of them. -/
theorem StatesAt.one {w : World} {v : Value} {l : List SE} (h : StatesAt w v l) {j : Nat} {x : SE} (hj : l[j]? = some x) : x.Ok w ∧ ∃ g off c, v = .slice (some ⟨g, off, none⟩) l.length c ∧ ∀ i u, x.cells[i]? = some u → w.cell? ⟨g, off + (j * 9 + i), none⟩ = some u := by
  have hlt := (List.getElem?_eq_some_iff.mp hj).1
  obtain ⟨g, off, c, e, _, _, hc⟩ := h.vals.cells (by omega) (by omega)
  refine ⟨h.ok x (List.mem_of_getElem? hj), g, off, c, e, fun i u hu => hc _ _ ?_⟩
  have hi : i < 9 := (List.getElem?_eq_some_iff.mp hu).1
  rw [statesC_at l j i x hj hi]
  exact hu
end Go.Proofs.YthdkihnmeoacaaaGreatDoor

namespace Go.Proofs.YthdkihnmeoacaaaGreatDoor
open Go.ChangeShapes Go.WideShapes Go.ChangeAt Go.RowKit
set_option linter.unusedVariables false
set_option maxRecDepth 100000

section
variable {H : Type} {enc : TypeId × Value → H} {w : World} {base : Nat} {held : Bool}

/-- One cell of a struct of numbers. -/
theorem flat_cell {sp : Nat → Bool} {fuel : Nat} {t : TypeId} {fs : Array Field} {cs : List Value} {x : DataW H × List MemPlace} (ht : Tryz.prog.underlying t = some (.struct fs)) (h : DataW.trod enc Tryz.prog w base sp held fuel t cs = some x)
    (i : Nat) (f : Field) (hf : fs[i]? = some f) (ho : f.offset = i) (k : IntKind) (hk : Tryz.prog.underlying f.type = some (.int k)) (hc : Tryz.prog.cellsOf f.type = 1) : ∃ n, (cs.drop i).take 1 = [.int k n] ∧ (Lit.int k n).wf = true := by
  obtain ⟨xs, m, _, _, _, hlen, hall⟩ := DataW.trod_struct ht h
  have hi : i < xs.length := by
    have := (Array.getElem?_eq_some_iff.mp hf).1
    omega
  have := hall i f hf
  rw [ho, hc, List.getElem?_eq_getElem hi] at this
  obtain ⟨n, e, _, wf⟩ := DataW.trod_int hk this
  exact ⟨n, e, wf⟩
theorem open_bytes_c {fuel : Nat} {cs : List Value} {x : DataW H × List MemPlace} (h : DataW.trod enc Tryz.prog w base (fun _ => true) held fuel 28 cs = some x) :
    ∃ a len cap rs, cs = [.slice a len cap] ∧ rs.length = len ∧ ArgAt w (.slice a len cap) rs ∧ ∀ z ∈ rs, 0 ≤ z ∧ z < 256 := by
  have hs : ∃ a len cap, cs = [.slice a len cap] := by
    rcases open_ints Tryz.underlying28 Tryz.underlying5 (by kernel_rfl) h with ⟨hcs, _⟩ | ⟨ad, l, c, zs, hcs, _⟩
    · exact ⟨_, _, _, hcs⟩
    · exact ⟨_, _, _, hcs⟩
  obtain ⟨a, len, cap, rfl⟩ := hs
  obtain ⟨rs, h1, h2, h3, _⟩ := open_bytes h
  exact ⟨a, len, cap, rs, rfl, h1, h2, h3⟩
/-- A field of a struct. -/
theorem field_at {sp : Nat → Bool} {fuel : Nat} {t : TypeId} {fs : Array Field} {cs : List Value} {x : DataW H × List MemPlace} (ht : Tryz.prog.underlying t = some (.struct fs)) (h : DataW.trod enc Tryz.prog w base sp held fuel t cs = some x)
    (i : Nat) (f : Field) (hf : fs[i]? = some f) (o n : Nat) (ho : f.offset = o) (hc : Tryz.prog.cellsOf f.type = n) : ∃ m y, DataW.trod enc Tryz.prog w base sp held m f.type ((cs.drop o).take n) = some y := by
  obtain ⟨xs, m, _, _, _, hlen, hall⟩ := DataW.trod_struct ht h
  have hi : i < xs.length := by
    have := (Array.getElem?_eq_some_iff.mp hf).1
    omega
  have := hall i f hf
  rw [ho, hc, List.getElem?_eq_getElem hi] at this
  exact ⟨m, _, this⟩
theorem len_of {sp : Nat → Bool} {fuel : Nat} {t : TypeId} {fs : Array Field} {cs : List Value} {x : DataW H × List MemPlace} (ht : Tryz.prog.underlying t = some (.struct fs)) (h : DataW.trod enc Tryz.prog w base sp held fuel t cs = some x) : cs.length = Tryz.prog.cellsOf t := by
  obtain ⟨xs, m, _, _, hl, _⟩ := DataW.trod_struct ht h
  exact hl
/-- A state's cells. -/
theorem open_state_c {fuel : Nat} {cs : List Value} {x : DataW H × List MemPlace} (h : DataW.trod enc Tryz.prog w base (fun _ => true) held fuel 35 cs = some x) : ∃ s : SE, cs = s.cells ∧ s.Ok w := by
  have hl := len_of Tryz.underlying35 h
  have hc : Tryz.prog.cellsOf 35 = 9 := by kernel_rfl
  rw [hc] at hl
  obtain ⟨m0, y0, a0⟩ := field_at Tryz.underlying35 h 0 _ rfl 0 8 rfl (by kernel_rfl)
  obtain ⟨m1, y1, a1⟩ := field_at Tryz.underlying35 h 1 _ rfl 8 1 rfl (by kernel_rfl)
  obtain ⟨ba, bl, bc, rs, eb, hrl, harg, hby⟩ := open_bytes_c a1
  obtain ⟨n0, e0, w0⟩ := flat_cell Tryz.underlying25 a0 0 _ rfl rfl .u16 Tryz.underlying22 (by kernel_rfl)
  obtain ⟨n1, e1, w1⟩ := flat_cell Tryz.underlying25 a0 1 _ rfl rfl .u8 Tryz.underlying5 (by kernel_rfl)
  obtain ⟨n2, e2, w2⟩ := flat_cell Tryz.underlying25 a0 2 _ rfl rfl .u8 Tryz.underlying5 (by kernel_rfl)
  obtain ⟨n3, e3, w3⟩ := flat_cell Tryz.underlying25 a0 3 _ rfl rfl .u32 Tryz.underlying23 (by kernel_rfl)
  obtain ⟨n4, e4, w4⟩ := flat_cell Tryz.underlying25 a0 4 _ rfl rfl .u32 Tryz.underlying23 (by kernel_rfl)
  obtain ⟨n5, e5, w5⟩ := flat_cell Tryz.underlying25 a0 5 _ rfl rfl .i32 Tryz.underlying21 (by kernel_rfl)
  obtain ⟨n6, e6, w6⟩ := flat_cell Tryz.underlying25 a0 6 _ rfl rfl .u16 Tryz.underlying22 (by kernel_rfl)
  obtain ⟨n7, e7, w7⟩ := flat_cell Tryz.underlying25 a0 7 _ rfl rfl .u16 Tryz.underlying22 (by kernel_rfl)
  match cs, hl with
  | [c0, c1, c2, c3, c4, c5, c6, c7, c8], _ =>
    simp only [List.drop, List.take, List.cons.injEq, and_true] at e0 e1 e2 e3 e4 e5 e6 e7 eb
    subst e0 e1 e2 e3 e4 e5 e6 e7 eb
    have b0 := bounds_u16 w0
    have b1 := bounds_u8 w1
    have b2 := bounds_u8 w2
    have b3 := bounds_u32 w3
    have b4 := bounds_u32 w4
    have b5 := bounds_i32 w5
    have b6 := bounds_u16 w6
    have b7 := bounds_u16 w7
    refine ⟨⟨⟨n0, n1, n2, n3, n4, n5, n6, n7⟩, .slice ba bl bc, rs⟩, rfl, ⟨⟨?_, ?_, ?_, ?_, ?_, ?_, ?_, ?_⟩, harg, hby⟩⟩ <;> (dsimp only; omega)
theorem open_state {r : Reach} {b0 : Nat} {v : Value} {d : DataW H} {ps : List MemPlace} (hval : Value.okWide Tryz.prog w r b0 35 v) (hd : DataW.Trod enc Tryz.prog w base (fun _ => true) held 35 v d ps) :
    ∃ (h : HV) (u : Value) (rs : List Int), v = h.sv u ∧ h.All ∧ ArgAt w u rs ∧ ∀ z ∈ rs, 0 ≤ z ∧ z < 256 := by
  obtain ⟨cs, rfl, _⟩ := okWide_struct Tryz.underlying35 hval
  obtain ⟨fuel, hf⟩ := hd
  obtain ⟨s, e, ok⟩ := open_state_c hf
  simp only [Value.cells] at e
  obtain ⟨cs⟩ := cs
  simp only at e
  subst e
  exact ⟨s.h, s.v, s.rs, rfl, ok.all, ok.arg, ok.byte⟩
end
end Go.Proofs.YthdkihnmeoacaaaGreatDoor
