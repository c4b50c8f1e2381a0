/- A map from numbers of 32 bits to such numbers, of the call's own: what it holds, key by key. -/
import Derived.Test.YthilfealloakdaaParts
import Derived.Maps.Range
import Derived.Maps.OwnSet
import Derived.WideKeyEntry
import Derived.Deep.Slices
import Derived.SizedLaws
import Derived.OpenShut
namespace Go.Proofs.Ythilfealloakdaa
open Go.RowKit
open Go.WideElems (Fit rg findIdx_born findIdx_arr set_self)
open Go.ChangeMaps (setBlock)
open Go.MapKept
set_option linter.unusedVariables false
set_option maxRecDepth 100000

theorem u32_keyed : Maps.Keyed Try.prog 39 := Maps.int_keyed Try.underlying39
theorem wf_u32 {k : Int} (h0 : 0 ≤ k) (h1 : k < 4294967296) : (Lit.int .u32 k).wf = true := by
  have e1 : IntKind.u32.min = 0 := rfl
  have e2 : IntKind.u32.max = 4294967295 := rfl
  simp only [Lit.wf, e1, e2, Bool.and_eq_true, decide_eq_true_eq]
  omega
theorem key_u32 {k : Int} (h0 : 0 ≤ k) (h1 : k < 4294967296) : keyOf Try.prog 39 (.int .u32 k) = some (.int .u32 k) :=
  Maps.keyOf_int_mk Try.underlying39 (wf_u32 h0 h1)
theorem zero_u32 (w : World) : (zeroValue 39).run Try.prog w = .ok (.int .u32 0) w := by rfl
theorem elem_u32 {x : Int} (h0 : 0 ≤ x) (h1 : x < 4294967296) : plainElem (H := Unit) Try.prog 39 (.int .u32 x) = some (.lit (.int .u32 x), []) :=
  plainElem_int Try.underlying39 (wf_u32 h0 h1)

/-- Block m is a map of at most n keys; it holds what f says. -/
def MU (w : World) (m n : Nat) (f : Int → Option Int) : Prop :=
  ∃ D : DataW Unit, w.ownsMap Try.prog 39 (plainElem Try.prog 39) m n D ∧ (∀ k, 0 ≤ k → k < 4294967296 → Maps.has D (.int .u32 k) = (f k).isSome) ∧
    (∀ k v, 0 ≤ k → k < 4294967296 → f k = some v → D.atKey (.int .u32 k) (.lit (.int .u32 0)) = .lit (.int .u32 v))

def updU (f : Int → Option Int) (k : Int) (v : Option Int) : Int → Option Int := fun x => if x = k then v else f x
theorem updU_same (f : Int → Option Int) (k : Int) (v : Option Int) : updU f k v k = v := if_pos rfl
theorem updU_other (f : Int → Option Int) {k x : Int} (v : Option Int) (h : x ≠ k) : updU f k v x = f x := if_neg h

theorem ownU_tight {w : World} {k : TypeId} {R : Value → Option (DataW Unit × List MemPlace)} {b n n' : Nat} {D : DataW Unit} (h : w.ownsMap Try.prog k R b n D) (hn : Maps.size D ≤ n') : w.ownsMap Try.prog k R b n' D := by
  obtain ⟨es, clock, hb, F, hs, rfl⟩ := h
  exact ⟨es, clock, hb, F, by simpa [Maps.size, length_sorted] using hn, rfl⟩

theorem MU.lt {w : World} {m n : Nat} {f : Int → Option Int} (h : MU w m n f) : m < w.heap.size := by obtain ⟨D, o, _⟩ := h; exact o.lt
theorem MU.mapAt {w : World} {m n : Nat} {f : Int → Option Int} (h : MU w m n f) : ∃ es c, w.heap[m]? = some (.map es c) := by
  obtain ⟨D, ⟨es, c, hb, _⟩, _⟩ := h
  exact ⟨es, c, hb⟩
theorem MU.keep {F : Nat → Prop} {w w' : World} {m n : Nat} {f : Int → Option Int} (h : MU w m n f) (t : Touch F w w') (hm : ¬ F m) : MU w' m n f := by
  have hl := h.lt
  obtain ⟨D, ⟨es, c, hb, r⟩, a, b⟩ := h
  exact ⟨D, ⟨es, c, (t.block m hl hm).trans hb, r⟩, a, b⟩
theorem MU.made (w : World) : MU (w.alloc (.map #[] 0)) w.heap.size 0 (fun _ => none) :=
  ⟨.map [], World.ownsMap_made w _ _ _, fun k _ _ => by simp [Maps.has], fun k v _ _ h => by cases h⟩
theorem touchU_turned {w w' : World} {m : Nat} (h : w.mapTurned w' m) : Touch (fun k => k = m) w w' := by
  have g := h.grown
  exact ⟨g.os, g.tape, g.output, g.size, fun k hk hn => g.block k hk (fun e => hn (by simpa using e))⟩

/-- The look-up of a key that is there. -/
theorem MU.look_some {w : World} {m n : Nat} {f : Int → Option Int} (h : MU w m n f) {k v : Int} (h0 : 0 ≤ k) (h1 : k < 4294967296) (hf : f k = some v) :
    (Instr.lookup 66 (.map (some m)) (.int .u32 k) true).run Try.prog w = .ok (.tuple #[.int .u32 v, .bool true]) w := by
  obtain ⟨D, o, a, b⟩ := h
  obtain ⟨x, ps, hr, hx⟩ := o.look_ok u32_keyed Try.underlying66 (zero_u32 w) (elem_u32 (by omega) (by omega)) (key_u32 h0 h1)
  rw [b k v h0 h1 hf] at hx
  obtain ⟨c, rfl, hc, -⟩ := plainElem_int_inv Try.underlying39 hx
  simp only [Prod.mk.injEq, DataW.lit.injEq, Lit.int.injEq, true_and] at hc
  rw [hr, a k h0 h1, hf, hc.1]
  rfl
/-- .. that is not there. -/
theorem MU.look_none {w : World} {m n : Nat} {f : Int → Option Int} (h : MU w m n f) {k : Int} (h0 : 0 ≤ k) (h1 : k < 4294967296) (hf : f k = none) :
    (Instr.lookup 66 (.map (some m)) (.int .u32 k) true).run Try.prog w = .ok (.tuple #[.int .u32 0, .bool false]) w := by
  obtain ⟨D, o, a, b⟩ := h
  obtain ⟨x, ps, hr, hx⟩ := o.look_ok u32_keyed Try.underlying66 (zero_u32 w) (elem_u32 (by omega) (by omega)) (key_u32 h0 h1)
  have hh : Maps.has D (.int .u32 k) = false := by rw [a k h0 h1, hf]; rfl
  rw [Maps.atKey_of_not_has hh] at hx
  obtain ⟨c, rfl, hc, -⟩ := plainElem_int_inv Try.underlying39 hx
  simp only [Prod.mk.injEq, DataW.lit.injEq, Lit.int.injEq, true_and] at hc
  rw [hr, hh, ← hc.1]

theorem mu_put {w' : World} {m n n' : Nat} {f : Int → Option Int} {D : DataW Unit} {k x : Int} (h0 : 0 ≤ k) (h1 : k < 4294967296) (hm : Maps.IsMap D) (ht : Maps.Tidy D) (hs : Maps.size D ≤ n)
    (a : ∀ k, 0 ≤ k → k < 4294967296 → Maps.has D (.int .u32 k) = (f k).isSome) (b : ∀ k v, 0 ≤ k → k < 4294967296 → f k = some v → D.atKey (.int .u32 k) (.lit (.int .u32 0)) = .lit (.int .u32 v))
    (hn : n' = if (f k).isSome then n else n + 1) (o : w'.ownsMap Try.prog 39 (plainElem Try.prog 39) m (n + 1) (D.put (.int .u32 k) (.lit (.int .u32 x)))) : MU w' m n' (updU f k (some x)) := by
  refine ⟨_, ownU_tight o ?_, fun q q0 q1 => ?_, fun q v q0 q1 hq => ?_⟩
  · rw [Maps.size_put ht, a k h0 h1, hn]
    split <;> omega
  · by_cases e : q = k
    · subst e; rw [Maps.has_put_same (k := .int .u32 q) hm trivial, updU_same]; rfl
    · rw [Maps.has_put_other (by simpa using e), updU_other _ _ e]; exact a q q0 q1
  · by_cases e : q = k
    · subst e; rw [updU_same] at hq; cases hq; exact Maps.atKey_put_same (k := .int .u32 q) hm trivial _ _
    · rw [updU_other _ _ e] at hq; rw [Maps.atKey_put_other (by simpa using e)]; exact b q v q0 q1 hq

/-- A store. -/
theorem MU.store {w : World} {m n : Nat} {f : Int → Option Int} (h : MU w m n f) {k x : Int} (h0 : 0 ≤ k) (h1 : k < 4294967296) (x0 : 0 ≤ x) (x1 : x < 4294967296) (hn : n < 9223372036854775807) :
    ∃ w', (Instr.mapUpdate 66 (.map (some m)) (.int .u32 k) (.int .u32 x)).run Try.prog w = .ok () w' ∧ MU w' m (if (f k).isSome then n else n + 1) (updU f k (some x)) ∧ w.mapTurned w' m := by
  obtain ⟨D, o, a, b⟩ := h
  obtain ⟨w', hr, o', tu⟩ := o.store u32_keyed Try.underlying66 (by unfold maxLen; omega) (key_u32 h0 h1) (elem_u32 x0 x1)
  exact ⟨w', hr, mu_put h0 h1 o.isMap (o.tidy u32_keyed) o.size_le a b rfl o', tu⟩
/-- The look-up without the second answer. -/
theorem MU.look {w : World} {m n : Nat} {f : Int → Option Int} (h : MU w m n f) {k : Int} (h0 : 0 ≤ k) (h1 : k < 4294967296) :
    (Instr.lookup 66 (.map (some m)) (.int .u32 k) false).run Try.prog w = .ok (.int .u32 ((f k).getD 0)) w := by
  obtain ⟨D, o, a, b⟩ := h
  obtain ⟨x, hr, hx⟩ := o.lookup_int u32_keyed Try.underlying66 Try.underlying39 (zero_u32 w) (key_u32 h0 h1)
  rw [hr]
  cases hf : f k with
  | some v =>
    rw [b k v h0 h1 hf] at hx
    simp only [DataW.lit.injEq, Lit.int.injEq, true_and] at hx
    rw [Option.getD_some, hx.1]
  | none =>
    have hh : Maps.has D (.int .u32 k) = false := by rw [a k h0 h1, hf]; rfl
    rw [Maps.atKey_of_not_has hh] at hx
    simp only [DataW.lit.injEq, Lit.int.injEq, true_and] at hx
    rw [Option.getD_none, hx.1]
/-- A key struck out, there or not. -/
theorem MU.drop {w : World} {m n : Nat} {f : Int → Option Int} (h : MU w m n f) {k : Int} (h0 : 0 ≤ k) (h1 : k < 4294967296) (ty : TypeId) :
    ∃ w', (Builtin.delete_ #[66, 39] ty #[.map (some m), .int .u32 k]).run Try.prog w = .ok (.tuple #[]) w' ∧ MU w' m n (updU f k none) ∧ w.mapTurned w' m := by
  obtain ⟨D, o, a, b⟩ := h
  obtain ⟨w', hr, o', tu⟩ := o.drop u32_keyed Try.underlying66 (key_u32 h0 h1) ty
  refine ⟨w', hr, ⟨_, ownU_tight o' ?_, fun q q0 q1 => ?_, fun q u q0 q1 hq => ?_⟩, tu⟩
  · have := Maps.size_del (k := .int .u32 k) (o.tidy u32_keyed)
    have h2 := o.size_le
    split at this <;> omega
  · by_cases e : q = k
    · subst e; rw [Maps.has_del_same, updU_same]; rfl
    · rw [Maps.has_del_other (by simpa using e), updU_other _ _ e]; exact a q q0 q1
  · by_cases e : q = k
    · subst e; rw [updU_same] at hq; cases hq
    · rw [updU_other _ _ e] at hq; rw [Maps.atKey_del_other (by simpa using e)]; exact b q u q0 q1 hq
end Go.Proofs.Ythilfealloakdaa

namespace Go.Proofs.Ythilfealloakdaa
open Go.RowKit
set_option linter.unusedVariables false
set_option maxRecDepth 100000

set_option maxHeartbeats 400000 in
theorem lmade_nil (w : World) : Calls Try.prog 33 #[.pointer none] w fun e w' => e = .returned (.bool false) ∧ w = w' := by
  go_enter Try.func33, Try.ntmps33
  go_wp2
  go_ret
  exact ⟨rfl, rfl⟩
set_option maxHeartbeats 400000 in
theorem lmade_zero (w : World) (b : Nat) (h : w.cell? ⟨b, 0, none⟩ = some (.map none)) : Calls Try.prog 33 #[.pointer (some ⟨b, 0, none⟩)] w fun e w' => e = .returned (.bool false) ∧ w = w' := by
  have heq : ∀ w', Sem.run Try.prog (binOp .neq 66 (.map none) (.map none)) w' = .ok (.bool false) w' := fun _ => rfl
  go_enter Try.func33, Try.ntmps33
  go_wp2
  go_ret
  exact ⟨rfl, rfl⟩
/-- Nobody made it. -/
structure NoLast (w : World) (pv : Value) : Prop where
  out : Calls Try.prog 33 #[pv] w fun e w' => e = .returned (.bool false) ∧ w = w'
theorem noLast_nil (w : World) : NoLast w (.pointer none) := ⟨lmade_nil w⟩
theorem noLast_zero (w : World) (b : Nat) (h : w.cell? ⟨b, 0, none⟩ = some (.map none)) : NoLast w (.pointer (some ⟨b, 0, none⟩)) := ⟨lmade_zero w b h⟩
set_option maxHeartbeats 400000 in
theorem forget_not (w : World) (pv : Value) (r : Int) (h : NoLast w pv) : Calls Try.prog 14 #[pv, .int .u32 r] w fun e w' => e = .returned (.tuple #[]) ∧ w = w' := by
  go_enter Try.func14, Try.ntmps14
  go_wp2_with ((go_at_call 33; refine Calls.mono h.out ?_; rintro e w1 ⟨rfl, rfl⟩))
  refine bodyPost_end (results_none rfl _ _ _) rfl ?_
  exact ⟨rfl, rfl⟩
set_option maxHeartbeats 400000 in
theorem get_not (w : World) (pv : Value) (r : Int) (h : NoLast w pv) : Calls Try.prog 18 #[pv, .int .u32 r] w fun e w' => e = .returned (.tuple #[.int .u32 0, .bool false]) ∧ w = w' := by
  go_enter Try.func18, Try.ntmps18
  go_wp2_with ((go_at_call 33; refine Calls.mono h.out ?_; rintro e w1 ⟨rfl, rfl⟩))
  go_ret2
  exact ⟨rfl, rfl⟩
set_option maxHeartbeats 400000 in
theorem ltake_not (w : World) (pv : Value) (r s : Int) (h : NoLast w pv) : Calls Try.prog 16 #[pv, .int .u32 r, .int .u32 s] w fun e w' => e = .returned (.int .i64 1) ∧ w = w' := by
  go_enter Try.func16, Try.ntmps16
  go_wp2_with ((go_at_call 33; refine Calls.mono h.out ?_; rintro e w1 ⟨rfl, rfl⟩))
  go_ret
  exact ⟨rfl, rfl⟩
end Go.Proofs.Ythilfealloakdaa

namespace Go.Proofs.Ythilfealloakdaa
open Go.RowKit Go.ChangeShapes Go.WideShapes Go.ChangeAt
set_option linter.unusedVariables false
set_option maxRecDepth 100000

/-- A slice that came in reads as rs; of the address of one without cells nothing is known. -/
def ArgAt (w : World) (v : Value) (rs : List Int) : Prop :=
  (v = .slice none 0 0 ∧ rs = []) ∨ ∃ ad c, v = .slice (some ad) rs.length c ∧ rs.length ≤ c ∧ c ≤ maxLen ∧ ∀ j u, (bytesOf rs)[j]? = some u → w.cell? (ad.add j) = some u

theorem RowAt.arg {w : World} {v : Value} {rs : List Int} (h : RowAt w v rs) : ArgAt w v rs := by
  rcases h with h | ⟨g, off, c, rfl, h1, h2, h3⟩
  · exact Or.inl h
  · exact Or.inr ⟨_, c, rfl, h1, h2, fun j u hj => by rw [add_plain]; exact h3 j u hj⟩
theorem ArgAt.form {w : World} {v : Value} {rs : List Int} (h : ArgAt w v rs) : ∃ a c, v = .slice a rs.length c ∧ rs.length ≤ maxLen := by
  rcases h with ⟨rfl, rfl⟩ | ⟨ad, c, rfl, h1, h2, h3⟩
  · exact ⟨_, _, rfl, Nat.zero_le _⟩
  · exact ⟨_, _, rfl, Nat.le_trans h1 h2⟩
theorem ArgAt.row {w : World} {v : Value} {rs : List Int} (h : ArgAt w v rs) (hp : 0 < rs.length) : RowAt w v rs := by
  rcases h with ⟨rfl, rfl⟩ | ⟨ad, c, rfl, h1, h2, h3⟩
  · exact Or.inl ⟨rfl, rfl⟩
  · obtain ⟨g, off, spot⟩ := ad
    have hc := h3 0 (.int .u8 rs[0]) (by simp [bytesOf, hp])
    have hspot : spot = none := by simpa [Addr.add] using World.cell?_spot hc
    subst hspot
    exact Or.inr ⟨g, off, c, rfl, h1, h2, fun j u hj => by have := h3 j u hj; rwa [add_plain] at this⟩
theorem add_block (ad : Addr) (j : Nat) : (ad.add j).block = ad.block := by by_cases h : j = 0 <;> simp [Addr.add, h]
theorem ArgAt.keep {F : Nat → Prop} {w w' : World} {v : Value} {rs : List Int} (h : ArgAt w v rs) (t : Touch F w w') (hF : ∀ k, k < w.heap.size → ¬ F k) : ArgAt w' v rs := by
  rcases h with h | ⟨ad, c, rfl, h1, h2, h3⟩
  · exact Or.inl h
  · refine Or.inr ⟨ad, c, rfl, h1, h2, fun j u hj => ?_⟩
    have hc := h3 j u hj
    exact (t.cell (lt_of_cellA hc) (hF _ (lt_of_cellA hc))).trans hc

section
variable {H : Type} {enc : TypeId × Value → H} {w : World} {base : Nat} {held : Bool}

theorem open_bytes {fuel : Nat} {a : Option Addr} {len cap : Nat} {x : DataW H × List MemPlace} (h : DataW.trod enc Try.prog w base (fun _ => true) held fuel 47 [.slice a len cap] = some x) :
    ∃ rs : List Int, rs.length = len ∧ ArgAt w (.slice a len cap) rs ∧ (∀ z ∈ rs, 0 ≤ z ∧ z < 256) ∧ (x.1 = .nil ∧ len = 0 ∨ ∃ el sp, x.1 = .slice el sp ∧ el.length = len) := by
  rcases open_ints Try.underlying47 Try.underlying5 (by kernel_rfl) h with ⟨hcs, hx⟩ | ⟨ad, l, c, zs, hcs, _, hl, hm, hz, hx, hcell, hwz⟩
  · simp at hcs
    obtain ⟨rfl, rfl, rfl⟩ := hcs
    exact ⟨[], rfl, Or.inl ⟨rfl, rfl⟩, by simp, Or.inl ⟨by rw [hx], rfl⟩⟩
  · simp at hcs
    obtain ⟨rfl, rfl, rfl⟩ := hcs
    have hz' : zs.length = cap := by simpa using hz
    have hlen : (zs.take len).length = len := by simp; omega
    refine ⟨zs.take len, hlen, Or.inr ⟨ad, cap, by rw [hlen], by omega, hm, fun j u hj => ?_⟩, fun z hzm => ?_, Or.inr ⟨_, _, by rw [hx], by simp [lits]; omega⟩⟩
    · have hjl : j < len := by
        have := (List.getElem?_eq_some_iff.mp hj).1
        simp [bytesOf] at this
        omega
      have := hcell j (by omega)
      rw [this]
      simp only [bytesOf, List.getElem?_map, List.getElem?_take, if_pos hjl] at hj
      rw [List.getElem?_eq_getElem (by omega)] at hj
      rw [← hj]
      simp [List.getD, show j < zs.length by omega]
    · have := bounds_u8 (hwz z (List.mem_of_mem_take hzm))
      omega
end
end Go.Proofs.Ythilfealloakdaa
