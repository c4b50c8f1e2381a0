
/- A map from numbers of 64 bits to places, of the call's own: what it holds, key by key. -/
import Derived.Test.YtmdnlfbploaafaaQuCmp
import Derived.Maps.Range
import Derived.Maps.OwnSet
import Derived.WideKeyEntry
namespace Go.Proofs.Ytmdnlfbploaafaa
open Go.RowKit
open Go.WideElems (Fit rg findIdx_born findIdx_arr set_self)
open Go.ChangeMaps (setBlock)
open Go.MapKept
set_option linter.unusedVariables false
set_option maxRecDepth 100000

theorem u64_keyed : Maps.Keyed Try.prog 32 := Maps.int_keyed Try.underlying32
theorem wf_u64 {k : Int} (h0 : 0 ≤ k) (h1 : k < 18446744073709551616) : (Lit.int .u64 k).wf = true := by
  have e1 : IntKind.u64.min = 0 := rfl
  have e2 : IntKind.u64.max = 18446744073709551615 := rfl
  simp only [Lit.wf, e1, e2, Bool.and_eq_true, decide_eq_true_eq]
  omega
theorem wf_i64 {k : Int} (h0 : -9223372036854775808 ≤ k) (h1 : k ≤ 9223372036854775807) : (Lit.int .i64 k).wf = true := by
  have e1 : IntKind.i64.min = -9223372036854775808 := rfl
  have e2 : IntKind.i64.max = 9223372036854775807 := rfl
  simp only [Lit.wf, e1, e2, Bool.and_eq_true, decide_eq_true_eq]
  omega
theorem key_u64 {k : Int} (h0 : 0 ≤ k) (h1 : k < 18446744073709551616) : keyOf Try.prog 32 (.int .u64 k) = some (.int .u64 k) :=
  Maps.keyOf_int_mk Try.underlying32 (wf_u64 h0 h1)
theorem zero_int (w : World) : (zeroValue 3).run Try.prog w = .ok (.int .i64 0) w := by rfl
theorem elem_int {x : Int} (h0 : -9223372036854775808 ≤ x) (h1 : x ≤ 9223372036854775807) : plainElem (H := Unit) Try.prog 3 (.int .i64 x) = some (.lit (.int .i64 x), []) :=
  plainElem_int Try.underlying3 (wf_i64 h0 h1)

/-- Block m is a map of at most n keys; it holds what f says. -/
def MP (w : World) (m n : Nat) (f : Int → Option Int) : Prop :=
  ∃ D : DataW Unit, w.ownsMap Try.prog 32 (plainElem Try.prog 3) m n D ∧ (∀ k, 0 ≤ k → k < 18446744073709551616 → Maps.has D (.int .u64 k) = (f k).isSome) ∧
    (∀ k v, 0 ≤ k → k < 18446744073709551616 → f k = some v → D.atKey (.int .u64 k) (.lit (.int .i64 0)) = .lit (.int .i64 v))

def upd (f : Int → Option Int) (k : Int) (v : Option Int) : Int → Option Int := fun x => if x = k then v else f x
theorem upd_same (f : Int → Option Int) (k : Int) (v : Option Int) : upd f k v k = v := if_pos rfl
theorem upd_other (f : Int → Option Int) {k x : Int} (v : Option Int) (h : x ≠ k) : upd f k v x = f x := if_neg h

theorem own_tight {w : World} {k : TypeId} {R : Value → Option (DataW Unit × List MemPlace)} {b n n' : Nat} {D : DataW Unit} (h : w.ownsMap Try.prog k R b n D) (hn : Maps.size D ≤ n') : w.ownsMap Try.prog k R b n' D := by
  obtain ⟨es, clock, hb, F, hs, rfl⟩ := h
  exact ⟨es, clock, hb, F, by simpa [Maps.size, length_sorted] using hn, rfl⟩

theorem MP.lt {w : World} {m n : Nat} {f : Int → Option Int} (h : MP w m n f) : m < w.heap.size := by obtain ⟨D, o, _⟩ := h; exact o.lt
theorem MP.mapAt {w : World} {m n : Nat} {f : Int → Option Int} (h : MP w m n f) : ∃ es c, w.heap[m]? = some (.map es c) := by
  obtain ⟨D, ⟨es, c, hb, _⟩, _⟩ := h
  exact ⟨es, c, hb⟩
theorem MP.keep {F : Nat → Prop} {w w' : World} {m n : Nat} {f : Int → Option Int} (h : MP w m n f) (t : Touch F w w') (hm : ¬ F m) : MP w' m n f := by
  have hl := h.lt
  obtain ⟨D, ⟨es, c, hb, r⟩, a, b⟩ := h
  exact ⟨D, ⟨es, c, (t.block m hl hm).trans hb, r⟩, a, b⟩
theorem MP.made (w : World) : MP (w.alloc (.map #[] 0)) w.heap.size 0 (fun _ => none) :=
  ⟨.map [], World.ownsMap_made w _ _ _, fun k _ _ => by simp [Maps.has], fun k v _ _ h => by cases h⟩
theorem touch_turned {w w' : World} {m : Nat} (h : w.mapTurned w' m) : Touch (fun k => k = m) w w' := by
  have g := h.grown
  exact ⟨g.os, g.tape, g.output, g.size, fun k hk hn => g.block k hk (fun e => hn (by simpa using e))⟩

/-- The look-up of a key that is there. -/
theorem MP.look_some {w : World} {m n : Nat} {f : Int → Option Int} (h : MP w m n f) {k v : Int} (h0 : 0 ≤ k) (h1 : k < 18446744073709551616) (hf : f k = some v) :
    (Instr.lookup 55 (.map (some m)) (.int .u64 k) true).run Try.prog w = .ok (.tuple #[.int .i64 v, .bool true]) w := by
  obtain ⟨D, o, a, b⟩ := h
  obtain ⟨x, ps, hr, hx⟩ := o.look_ok u64_keyed Try.underlying55 (zero_int w) (elem_int (by omega) (by omega)) (key_u64 h0 h1)
  rw [b k v h0 h1 hf] at hx
  obtain ⟨c, rfl, hc, -⟩ := plainElem_int_inv Try.underlying3 hx
  simp only [Prod.mk.injEq, DataW.lit.injEq, Lit.int.injEq, true_and] at hc
  rw [hr, a k h0 h1, hf, hc.1]
  rfl
/-- .. that is not there. -/
theorem MP.look_none {w : World} {m n : Nat} {f : Int → Option Int} (h : MP w m n f) {k : Int} (h0 : 0 ≤ k) (h1 : k < 18446744073709551616) (hf : f k = none) :
    (Instr.lookup 55 (.map (some m)) (.int .u64 k) true).run Try.prog w = .ok (.tuple #[.int .i64 0, .bool false]) w := by
  obtain ⟨D, o, a, b⟩ := h
  obtain ⟨x, ps, hr, hx⟩ := o.look_ok u64_keyed Try.underlying55 (zero_int w) (elem_int (by omega) (by omega)) (key_u64 h0 h1)
  have hh : Maps.has D (.int .u64 k) = false := by rw [a k h0 h1, hf]; rfl
  rw [Maps.atKey_of_not_has hh] at hx
  obtain ⟨c, rfl, hc, -⟩ := plainElem_int_inv Try.underlying3 hx
  simp only [Prod.mk.injEq, DataW.lit.injEq, Lit.int.injEq, true_and] at hc
  rw [hr, hh, ← hc.1]

theorem mp_put {w' : World} {m n n' : Nat} {f : Int → Option Int} {D : DataW Unit} {k x : Int} (h0 : 0 ≤ k) (h1 : k < 18446744073709551616) (hm : Maps.IsMap D) (ht : Maps.Tidy D) (hs : Maps.size D ≤ n)
    (a : ∀ k, 0 ≤ k → k < 18446744073709551616 → Maps.has D (.int .u64 k) = (f k).isSome) (b : ∀ k v, 0 ≤ k → k < 18446744073709551616 → f k = some v → D.atKey (.int .u64 k) (.lit (.int .i64 0)) = .lit (.int .i64 v))
    (hn : n' = if (f k).isSome then n else n + 1) (o : w'.ownsMap Try.prog 32 (plainElem Try.prog 3) m (n + 1) (D.put (.int .u64 k) (.lit (.int .i64 x)))) : MP w' m n' (upd f k (some x)) := by
  refine ⟨_, own_tight o ?_, fun q q0 q1 => ?_, fun q v q0 q1 hq => ?_⟩
  · rw [Maps.size_put ht, a k h0 h1, hn]
    split <;> omega
  · by_cases e : q = k
    · subst e; rw [Maps.has_put_same (k := .int .u64 q) hm trivial, upd_same]; rfl
    · rw [Maps.has_put_other (by simpa using e), upd_other _ _ e]; exact a q q0 q1
  · by_cases e : q = k
    · subst e; rw [upd_same] at hq; cases hq; exact Maps.atKey_put_same (k := .int .u64 q) hm trivial _ _
    · rw [upd_other _ _ e] at hq; rw [Maps.atKey_put_other (by simpa using e)]; exact b q v q0 q1 hq

/-- A store. -/
theorem MP.store {w : World} {m n : Nat} {f : Int → Option Int} (h : MP w m n f) {k x : Int} (h0 : 0 ≤ k) (h1 : k < 18446744073709551616) (x0 : -9223372036854775808 ≤ x) (x1 : x ≤ 9223372036854775807) (hn : n < 9223372036854775807) :
    ∃ w', (Instr.mapUpdate 55 (.map (some m)) (.int .u64 k) (.int .i64 x)).run Try.prog w = .ok () w' ∧ MP w' m (if (f k).isSome then n else n + 1) (upd f k (some x)) ∧ w.mapTurned w' m := by
  obtain ⟨D, o, a, b⟩ := h
  obtain ⟨w', hr, o', tu⟩ := o.store u64_keyed Try.underlying55 (by unfold maxLen; omega) (key_u64 h0 h1) (elem_int x0 x1)
  exact ⟨w', hr, mp_put h0 h1 o.isMap (o.tidy u64_keyed) o.size_le a b rfl o', tu⟩
/-- A key struck out. -/
theorem MP.drop {w : World} {m n : Nat} {f : Int → Option Int} (h : MP w m (n + 1) f) {k v : Int} (h0 : 0 ≤ k) (h1 : k < 18446744073709551616) (hf : f k = some v) (ty : TypeId) :
    ∃ w', (Builtin.delete_ #[55, 32] ty #[.map (some m), .int .u64 k]).run Try.prog w = .ok (.tuple #[]) w' ∧ MP w' m n (upd f k none) ∧ w.mapTurned w' m := by
  obtain ⟨D, o, a, b⟩ := h
  obtain ⟨w', hr, o', tu⟩ := o.drop u64_keyed Try.underlying55 (key_u64 h0 h1) ty
  refine ⟨w', hr, ⟨_, own_tight o' ?_, fun q q0 q1 => ?_, fun q u q0 q1 hq => ?_⟩, tu⟩
  · have := Maps.size_del (k := .int .u64 k) (o.tidy u64_keyed)
    rw [a k h0 h1, hf] at this
    have h2 := o.size_le
    simp at this
    omega
  · by_cases e : q = k
    · subst e; rw [Maps.has_del_same, upd_same]; rfl
    · rw [Maps.has_del_other (by simpa using e), upd_other _ _ e]; exact a q q0 q1
  · by_cases e : q = k
    · subst e; rw [upd_same] at hq; cases hq
    · rw [upd_other _ _ e] at hq; rw [Maps.atKey_del_other (by simpa using e)]; exact b q u q0 q1 hq

theorem setBlock_self {w : World} {m : Nat} {o : Obj} (h : w.heap[m]? = some o) : setBlock w m o = w := by
  have e : w.heap.setIfInBounds m o = w.heap := by
    apply Array.ext'
    rw [Array.toList_setIfInBounds]
    exact set_self _ _ _ (by simpa using h)
  simp [setBlock, e]

/-- An entry that is there, found and stored into. -/
theorem MP.entry {w : World} {m n : Nat} {f : Int → Option Int} (h : MP w m n f) {k v : Int} (h0 : 0 ≤ k) (h1 : k < 18446744073709551616) (hf : f k = some v) (hn : n < 9223372036854775807) :
    ∃ (v0 : Value) (st : Int), (Instr.mapEntry 55 (.map (some m)) (.int .u64 k)).run Try.prog w = .ok (.tuple #[v0, .int .i64 st]) w ∧
      ∀ x : Int, -9223372036854775808 ≤ x → x ≤ 9223372036854775807 → ∃ w', (Instr.entryStore 55 (.map (some m)) (.int .i64 st) (.int .i64 x)).run Try.prog w = .ok () w' ∧ MP w' m n (upd f k (some x)) ∧ w.mapTurned w' m := by
  have hs : ∀ x : Int, -9223372036854775808 ≤ x → x ≤ 9223372036854775807 → _ := fun x x0 x1 => h.store h0 h1 x0 x1 hn
  obtain ⟨D, ⟨es, clock, hb, F, hsz, rfl⟩, a, b⟩ := h
  obtain ⟨s1, s2, -⟩ := F.stamped
  have hkey := key_u64 h0 h1
  rcases u64_keyed.find w hkey es.toList (fun e he => by obtain ⟨y, hy⟩ := F.reads e he; exact ⟨_, WideElems.rd_key hy⟩) with ⟨-, h2⟩ | ⟨j, e0, hk1, h2, h3⟩
  · exfalso
    have hh := a k h0 h1
    rw [hf] at hh
    simp only [Maps.has, Option.isSome_some, List.any_eq_true] at hh
    obtain ⟨p, hp, hsame⟩ := hh
    have hp' := mem_sorted.1 hp
    obtain ⟨e, he, rfl⟩ := List.mem_map.1 hp'
    obtain ⟨y, hy⟩ := F.reads e he
    have e1 : (rg Try.prog 32 (plainElem (H := Unit) Try.prog 3) e) = y := WideElems.rg_of hy
    rw [e1] at hsame
    have e2 := WideAt.sameKey_eq hsame
    exact h2 e he (u64_keyed.inj (WideElems.rd_key hy) (by rw [hkey, e2]))
  · have hj : es[j]? = some e0 := by simpa using h2
    have hsame : es.modify j (fun e => { e with key := .int .u64 k }) = es := by
      apply Array.ext'
      rw [Array.toList_modify, ChangeMaps.modify_eq_set _ _ _ _ h2]
      have : ({ e0 with key := .int .u64 k } : MapEntry) = e0 := by rw [← h3]
      rw [this]
      exact set_self _ _ _ h2
    refine ⟨e0.val, (e0.born : Int), ?_, fun x x0 x1 => ?_⟩
    · simp [Instr.mapEntry, run_underlying Try.underlying55, MapKept.run_getObj_map hb, u64_keyed.check w false hkey, hk1, hj, h3, u64_keyed.stays w hkey, hsame, MapKept.run_setObj_map _ hb, Result.andThen, goInt]
      exact setBlock_self hb
    · obtain ⟨w', hr, hM, tu⟩ := hs x x0 x1
      have hidx : es.findIdx? (fun e => ((e.born : Nat) : Int) == ((e0.born : Nat) : Int)) = some j := by
        rw [findIdx_arr]
        exact findIdx_born s2 h2
      have hmod : es.modify j (fun e => { e with val := .int .i64 x }) = es.modify j (fun e' => { e' with key := .int .u64 k, val := .int .i64 x }) := by
        apply Array.ext'
        rw [Array.toList_modify, Array.toList_modify, ChangeMaps.modify_eq_set _ _ _ _ h2, ChangeMaps.modify_eq_set _ _ _ _ h2, ← h3]
      have e1 : (Instr.mapUpdate 55 (.map (some m)) (.int .u64 k) (.int .i64 x)).run Try.prog w = .ok () (setBlock w m (.map (es.modify j (fun e' => { e' with key := .int .u64 k, val := .int .i64 x })) clock)) := by
        simp [Instr.mapUpdate, run_underlying Try.underlying55, MapKept.run_getObj_map hb, u64_keyed.check w false hkey, hk1, hj, h3, u64_keyed.stays w hkey, MapKept.run_setObj_map _ hb, Result.andThen, setBlock]
      rw [e1] at hr
      have e2 : setBlock w m (.map (es.modify j (fun e' => { e' with key := .int .u64 k, val := .int .i64 x })) clock) = w' := by injection hr
      rw [hf] at hM
      refine ⟨w', ?_, hM, tu⟩
      rw [← e2]
      simp [Instr.entryStore, MapKept.run_getObj_map hb, asInt, asIntOf, hidx, hmod, MapKept.run_setObj_map _ hb, Result.andThen, setBlock]
end Go.Proofs.Ytmdnlfbploaafaa
