/- A key of a chain: its span, its secret's length, whether it may be. -/
import Derived.Test.YthilfealloakdaaParts
import Derived.Test.YthilfealloakdaaAuLast
import Derived.Test.YthilfealloakdaaNumB
import Derived.Test.YthilfealloakdaaAuPure
import Derived.Deep.RegionHeld3
namespace Go.Proofs.Ythilfealloakdaa
open Go.RowKit
set_option linter.unusedVariables false
set_option maxRecDepth 100000

/-- Of x nothing has turned. -/
structure SnA (x w : World) : Prop where
  t : Touch (fun _ => False) x w
theorem SnA.start (x : World) : SnA x x.drew := ⟨(Touch.refl _ _).drew⟩
theorem SnA.trans {x w w' : World} (h : SnA x w) (t : Touch (fun _ => False) w w') : SnA x w' := ⟨h.t.trans t⟩
theorem snA_cell {x : World} {p : Addr} {v : Value} (h : x.cell? p = some v) : ∀ w, SnA x w → w.cell? p = some v := fun w s => s.t.cellN h

set_option maxHeartbeats 400000 in
theorem longest_any (w : World) (kind : Int) : Calls Try.prog 42 #[.int .u16 kind] w fun e w' => e = .returned (.int .i64 (longN kind)) ∧ w = w' := by
  by_cases h1 : kind = 1
  · subst h1
    rw [show longN 1 = 8 from rfl]
    go_enter Try.func42, Try.ntmps42
    go_wp2
    go_ret
    exact ⟨rfl, rfl⟩
  · by_cases h2 : kind = 2
    · subst h2
      rw [show longN 2 = 16 from rfl]
      go_enter Try.func42, Try.ntmps42
      go_wp2
      go_ret
      exact ⟨rfl, rfl⟩
    · rw [show longN kind = 0 by simp [longN, h1, h2]]
      go_enter Try.func42, Try.ntmps42
      go_wp2
      go_ret
      exact ⟨rfl, rfl⟩
set_option maxHeartbeats 400000 in
theorem span_any (w : World) (f u : Int) : Calls Try.prog 40 #[.int .i64 f, .int .i64 u] w fun e w' => e = .returned (.bool (spanB f u)) ∧ w = w' := by
  by_cases h1 : 0 ≤ f
  · by_cases h2 : f ≤ u
    · rw [show spanB f u = true by simp [spanB, h1, h2]]
      go_enter Try.func40, Try.ntmps40
      go_wp2
      go_ret
      exact ⟨rfl, rfl⟩
    · rw [show spanB f u = false by simp [spanB, h2]]
      go_enter Try.func40, Try.ntmps40
      go_wp2
      go_ret
      exact ⟨rfl, rfl⟩
  · rw [show spanB f u = false by simp [spanB, h1]]
    go_enter Try.func40, Try.ntmps40
    go_wp2
    go_ret
    exact ⟨rfl, rfl⟩
set_option maxHeartbeats 400000 in
theorem sending_any (w : World) (i kd : Int) (ka : Option Addr) (kn kc : Nat) (sf su tf tu : Int) : Calls Try.prog 29 #[.agg #[.int .u8 i, .int .u16 kd, .slice ka kn kc, .int .i64 sf, .int .i64 su, .int .i64 tf, .int .i64 tu]] w fun e w' => e = .returned (.tuple #[.int .i64 sf, .int .i64 su]) ∧ Touch (fun _ => False) w w' := by
  go_enter Try.func29, Try.ntmps29
  go_wp2_with fail
  have r0 := row_new w 50 #[.int .u8 i, .int .u16 kd, .slice ka kn kc, .int .i64 sf, .int .i64 su, .int .i64 tf, .int .i64 tu]
  have HT : Hid (Touch (fun _ => False) w (w.alloc (.cells #[.int .u8 i, .int .u16 kd, .slice ka kn kc, .int .i64 sf, .int .i64 su, .int .i64 tf, .int .i64 tu] 50))) := (Touch.refl _ _).alloc _
  generalize w.alloc (.cells #[.int .u8 i, .int .u16 kd, .slice ka kn kc, .int .i64 sf, .int .i64 su, .int .i64 tf, .int .i64 tu] 50) = wa at r0 HT ⊢
  have c0 := snA_cell (show wa.cell? ⟨w.heap.size, 3, none⟩ = some (.int .i64 sf) from r0.cell 3)
  have c1 := snA_cell (show wa.cell? ⟨w.heap.size, 4, none⟩ = some (.int .i64 su) from r0.cell 4)
  have st := SnA.start wa
  clear r0
  go_region_held3 (fun w' => SnA wa w') (with_reducible assumption) (fail)
  clear c0 c1
  go_wp2_with fail
  go_ret2
  exact ⟨rfl, HT.out.trans ((Touch.refl _ _).drew)⟩
set_option maxHeartbeats 400000 in
theorem taking_any (w : World) (i kd : Int) (ka : Option Addr) (kn kc : Nat) (sf su tf tu : Int) : Calls Try.prog 41 #[.agg #[.int .u8 i, .int .u16 kd, .slice ka kn kc, .int .i64 sf, .int .i64 su, .int .i64 tf, .int .i64 tu]] w fun e w' => e = .returned (.tuple #[.int .i64 tf, .int .i64 tu]) ∧ Touch (fun _ => False) w w' := by
  go_enter Try.func41, Try.ntmps41
  go_wp2_with fail
  have r0 := row_new w 50 #[.int .u8 i, .int .u16 kd, .slice ka kn kc, .int .i64 sf, .int .i64 su, .int .i64 tf, .int .i64 tu]
  have HT : Hid (Touch (fun _ => False) w (w.alloc (.cells #[.int .u8 i, .int .u16 kd, .slice ka kn kc, .int .i64 sf, .int .i64 su, .int .i64 tf, .int .i64 tu] 50))) := (Touch.refl _ _).alloc _
  generalize w.alloc (.cells #[.int .u8 i, .int .u16 kd, .slice ka kn kc, .int .i64 sf, .int .i64 su, .int .i64 tf, .int .i64 tu] 50) = wa at r0 HT ⊢
  have c0 := snA_cell (show wa.cell? ⟨w.heap.size, 5, none⟩ = some (.int .i64 tf) from r0.cell 5)
  have c1 := snA_cell (show wa.cell? ⟨w.heap.size, 6, none⟩ = some (.int .i64 tu) from r0.cell 6)
  have st := SnA.start wa
  clear r0
  go_region_held3 (fun w' => SnA wa w') (with_reducible assumption) (fail)
  clear c0 c1
  go_wp2_with fail
  go_ret2
  exact ⟨rfl, HT.out.trans ((Touch.refl _ _).drew)⟩
end Go.Proofs.Ythilfealloakdaa

namespace Go.Proofs.Ythilfealloakdaa
open Go.RowKit
set_option linter.unusedVariables false
set_option maxRecDepth 100000

/-- A key: its numbers, and where its secret lies. -/
structure KE where
  p : AKP
  a : Option Addr
  c : Nat
abbrev KE.sv (x : KE) : Value := .slice x.a x.p.sec.length x.c
def KE.cells (x : KE) : List Value := [.int .u8 x.p.id, .int .u16 x.p.kind, x.sv, .int .i64 x.p.sf, .int .i64 x.p.su, .int .i64 x.p.tf, .int .i64 x.p.tu]
abbrev KE.agg (x : KE) : Value := .agg #[.int .u8 x.p.id, .int .u16 x.p.kind, .slice x.a x.p.sec.length x.c, .int .i64 x.p.sf, .int .i64 x.p.su, .int .i64 x.p.tf, .int .i64 x.p.tu]
def chainC (l : List KE) : List Value := l.flatMap KE.cells
abbrev pureL (l : List KE) : List AKP := l.map KE.p
theorem length_chainC (l : List KE) : (chainC l).length = l.length * 7 := by
  induction l with
  | nil => rfl
  | cons x r ih => unfold chainC at *; rw [List.flatMap_cons, List.length_append, ih, List.length_cons]; simp [KE.cells]; omega
theorem chainC_at (l : List KE) (j i : Nat) (x : KE) (hj : l[j]? = some x) (hi : i < 7) : (chainC l)[j * 7 + i]? = x.cells[i]? := by
  induction l generalizing j with
  | nil => simp at hj
  | cons y r ih =>
    have e : chainC (y :: r) = y.cells ++ chainC r := by simp [chainC]
    have hl : y.cells.length = 7 := rfl
    rw [e]
    cases j with
    | zero =>
      obtain rfl : y = x := by simpa using hj
      rw [List.getElem?_append_left (by omega), Nat.zero_mul, Nat.zero_add]
    | succ j =>
      rw [List.getElem?_append_right (by omega), hl, show (j + 1) * 7 + i - 7 = j * 7 + i by omega]
      exact ih j (by simpa using hj)
structure KE.Ok (w : World) (x : KE) : Prop where
  all : x.p.Ok
  arg : ArgAt w x.sv x.p.sec
theorem KE.Ok.keep {w w' : World} {x : KE} (h : x.Ok w) (t : Touch (fun _ => False) w w') : x.Ok w' := ⟨h.all, h.arg.keep t (fun _ _ h => h)⟩
/-- A row of keys that came in. -/
structure ChainAt (w : World) (v : Value) (l : List KE) : Prop where
  vals : ValsAt w 7 v l.length (chainC l)
  ok : ∀ x ∈ l, x.Ok w
theorem ChainAt.keep {w w' : World} {v : Value} {l : List KE} (h : ChainAt w v l) (t : Touch (fun _ => False) w w') : ChainAt w' v l := ⟨h.vals.keep t, fun x hx => (h.ok x hx).keep t⟩
/-- One of them. -/
theorem ChainAt.one {w : World} {v : Value} {l : List KE} (h : ChainAt w v l) {j : Nat} {x : KE} (hj : l[j]? = some x) : x.Ok w ∧ ∃ g off c, v = .slice (some ⟨g, off, none⟩) l.length c ∧ ∀ i u, x.cells[i]? = some u → w.cell? ⟨g, off + (j * 7 + i), none⟩ = some u := by
  have hlt := (List.getElem?_eq_some_iff.mp hj).1
  obtain ⟨g, off, c, e, _, _, hc⟩ := h.vals.cells (by omega) (by omega)
  refine ⟨h.ok x (List.mem_of_getElem? hj), g, off, c, e, fun i u hu => hc _ _ ?_⟩
  have hi : i < 7 := (List.getElem?_eq_some_iff.mp hu).1
  rw [chainC_at l j i x hj hi]
  exact hu
end Go.Proofs.Ythilfealloakdaa
