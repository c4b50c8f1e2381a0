
/- A map from keys to heads that holds nothing, or one head. -/
import Derived.Test.YtojlnabhaglejaaAdTk
import Derived.Test.YtojlnabhaglejaaAdOrdN
import Derived.DeepKeys3
import Derived.WideKeyEntry
namespace Go.Proofs.Ytojlnabhaglejaa
open Go.RowKit
open Go.ChangeMaps (setBlock)
open Go.MapKept
set_option linter.unusedVariables false
set_option maxRecDepth 100000

theorem law47 : WideMaps.KeyLaw Try.prog 47 := Go.deep_law (m := 2) (by omega) (by kernel_rfl) (by kernel_rfl) (by kernel_rfl)
/-- The key. -/
def K1 : Value := .agg #[.int .u8 1, .int .u32 2, .int .u32 2]
theorem key1 : ∃ l, keyOf Try.prog 47 K1 = some l := Option.isSome_iff_exists.1 (by kernel_rfl)
theorem zeroHead (w : World) : (zeroValue 50).run Try.prog w = .ok (.agg #[.int .u16 0, .int .u8 0, .int .u8 0, .int .u32 0, .int .u32 0, .int .i32 0, .int .u16 0, .int .u16 0]) w := by rfl
theorem mlook_none {w : World} {m c : Nat} (hb : w.heap[m]? = some (.map #[] c)) : (Instr.lookup 64 (.map (some m)) K1 true).run Try.prog w = .ok (.tuple #[.agg #[.int .u16 0, .int .u8 0, .int .u8 0, .int .u32 0, .int .u32 0, .int .i32 0, .int .u16 0, .int .u16 0], .bool false]) w := by
  obtain ⟨l, hk⟩ := key1
  rcases law47.find w hk [] (by simp) with ⟨h1, -⟩ | ⟨j, e, -, h2, -⟩
  · simp [Instr.lookup, run_underlying Try.underlying64, MapKept.run_getObj_map hb, law47.check w true hk, h1, Result.andThen]
  · simp at h2
theorem mlook_some {w : World} {m c c0 : Nat} {v : Value} (hb : w.heap[m]? = some (.map #[⟨K1, v, c0⟩] c)) : (Instr.lookup 64 (.map (some m)) K1 true).run Try.prog w = .ok (.tuple #[v, .bool true]) w := by
  obtain ⟨l, hk⟩ := key1
  rcases law47.find w hk [⟨K1, v, c0⟩] (fun e he => by simp at he; subst he; exact ⟨l, hk⟩) with ⟨-, h2⟩ | ⟨j, e, h1, h2, -⟩
  · exact absurd rfl (h2 ⟨K1, v, c0⟩ (by simp))
  · have hj : j = 0 := by cases j with | zero => rfl | succ j => simp at h2
    subst hj
    simp at h2
    subst h2
    simp [Instr.lookup, run_underlying Try.underlying64, MapKept.run_getObj_map hb, law47.check w false hk, h1, Result.andThen]
theorem mput {w : World} {m c : Nat} (v : Value) (hb : w.heap[m]? = some (.map #[] c)) : (Instr.mapUpdate 64 (.map (some m)) K1 v).run Try.prog w = .ok () (setBlock w m (.map #[⟨K1, v, c⟩] (c + 1))) := by
  obtain ⟨l, hk⟩ := key1
  rcases law47.find w hk [] (by simp) with ⟨h1, -⟩ | ⟨j, e, -, h2, -⟩
  · simp [Instr.mapUpdate, run_underlying Try.underlying64, MapKept.run_getObj_map hb, law47.check w false hk, h1, MapKept.run_setObj_map _ hb, Result.andThen, setBlock]
  · simp at h2
theorem mdel {w : World} {m c c0 : Nat} {v : Value} (ty : TypeId) (hb : w.heap[m]? = some (.map #[⟨K1, v, c0⟩] c)) : (Builtin.delete_ #[64, 47] ty #[.map (some m), K1]).run Try.prog w = .ok (.tuple #[]) (setBlock w m (.map #[] c)) := by
  obtain ⟨l, hk⟩ := key1
  rcases law47.find w hk [⟨K1, v, c0⟩] (fun e he => by simp at he; subst he; exact ⟨l, hk⟩) with ⟨-, h2⟩ | ⟨j, e, h1, h2, -⟩
  · exact absurd rfl (h2 ⟨K1, v, c0⟩ (by simp))
  · have hj : j = 0 := by cases j with | zero => rfl | succ j => simp at h2
    subst hj
    simp at h2
    subst h2
    simp [Builtin.delete_, run_underlying Try.underlying64, MapKept.run_getObj_map hb, law47.check w false hk, h1, MapKept.run_setObj_map _ hb, Result.andThen, setBlock]
/-- A map's block turned: what else stays. -/
theorem touch_block {w : World} {m : Nat} {o o' : Obj} (h : w.heap[m]? = some o) : Touch (fun k => k = m) w (setBlock w m o') := by
  refine ⟨rfl, rfl, rfl, by simp [setBlock], fun k hk hn => ?_⟩
  show (w.heap.setIfInBounds m o')[k]? = _
  rw [Array.getElem?_setIfInBounds, if_neg (fun e => hn e.symm)]
theorem block_set {w : World} {m : Nat} {o o' : Obj} (h : w.heap[m]? = some o) : (setBlock w m o').heap[m]? = some o' := by
  show (w.heap.setIfInBounds m o')[m]? = _
  rw [Array.getElem?_setIfInBounds, if_pos rfl, if_pos (lt_of_heap h)]
end Go.Proofs.Ytojlnabhaglejaa
