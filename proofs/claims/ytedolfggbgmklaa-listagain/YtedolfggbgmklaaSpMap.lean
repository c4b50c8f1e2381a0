
/- A map from keys to places: what it holds, in order. -/
import Derived.Test.YtedolfggbgmklaaSpArgs
import Derived.Test.YtedolfggbgmklaaRowB
import Derived.DeepKeys3
import Derived.WideKeyEntry
namespace Go.Proofs.Ytedolfggbgmklaa
open Go.RowKit
open Go.ChangeMaps (setBlock)
open Go.MapKept
set_option linter.unusedVariables false
set_option maxRecDepth 100000

theorem lawK : WideMaps.KeyLaw Try.prog 55 := Go.deep_law (m := 2) (by omega) (by kernel_rfl) (by kernel_rfl) (by kernel_rfl)
/-- A head's key. -/
def HV.ky (x : HV) : Value := .agg #[.int .u8 x.typ, .int .u32 x.id, .int .u32 x.adv]
theorem key_al {x : HV} (h : x.Al) : ∃ l, Go.keyOf Try.prog 55 x.ky = some l := by
  obtain ⟨a, b, c, ha, hb, hc, e⟩ : ∃ a b c : Int, (0 ≤ a ∧ a < 256) ∧ (0 ≤ b ∧ b < 4294967296) ∧ (0 ≤ c ∧ c < 4294967296) ∧ x.ky = .agg #[.int .u8 a, .int .u32 b, .int .u32 c] := ⟨_, _, _, h.t, h.i, h.v, rfl⟩
  rw [e]
  have h1 : (Lit.int .u8 a).wf = true := by simp [Lit.wf, IntKind.min, IntKind.max, IntKind.bits, IntKind.signed]; omega
  have h2 : (Lit.int .u32 b).wf = true := by simp [Lit.wf, IntKind.min, IntKind.max, IntKind.bits, IntKind.signed]; omega
  have h3 : (Lit.int .u32 c).wf = true := by simp [Lit.wf, IntKind.min, IntKind.max, IntKind.bits, IntKind.signed]; omega
  have hc3 : Try.prog.cellsOf 55 = 3 := by kernel_rfl
  have c8 : Try.prog.cellsOf 5 = 1 := by kernel_rfl
  have c32 : Try.prog.cellsOf 23 = 1 := by kernel_rfl
  have hkt : Try.prog.keyType 55 = true := by kernel_rfl
  have hpos : 0 < Try.prog.types.size := of_decide_eq_true (by kernel_rfl)
  obtain ⟨d, hd⟩ : ∃ d, Try.prog.types.size = d + 1 := ⟨Try.prog.types.size - 1, by omega⟩
  have hf : (Value.agg #[.int .u8 a, .int .u32 b, .int .u32 c]).formed Try.prog 55 = true := by simp [Value.formed, Try.underlying55, hc3]
  have hL : ∃ L, Try.prog.keyLits (d + 1 + 1) 55 [.int .u8 a, .int .u32 b, .int .u32 c] = some L := by
    simp [Program.keyLits, Try.underlying55, hc3, c8, c32, Try.underlying5, Try.underlying23, h1, h2, h3]
  obtain ⟨L, hL⟩ := hL
  refine ⟨.string (keyBytes L), ?_⟩
  unfold Go.keyOf
  simp only [Try.underlying55, hkt, hf, Bool.and_self, if_true, hd]
  rw [show (Value.agg #[.int .u8 a, .int .u32 b, .int .u32 c]).cells.toList = [.int .u8 a, .int .u32 b, .int .u32 c] from rfl, hL]
  rfl
/-- A link state in the list: its head, its body, its place's block. -/
structure It where
  h : HV
  v : Value
  b : Nat
def It.p (i : It) : Value := .pointer (some ⟨i.b, 0, none⟩)
/-- Block m is a map from the keys of l to their places, in order. -/
def PM (w : World) (m : Nat) (l : List It) : Prop := ∃ es c, w.heap[m]? = some (.map es c) ∧ es.toList.map (fun e => (e.key, e.val)) = l.map (fun i => (i.h.ky, i.p))
theorem PM.lt {w : World} {m : Nat} {l : List It} (h : PM w m l) : m < w.heap.size := by
  obtain ⟨es, c, h1, -⟩ := h
  exact lt_of_heap h1
theorem PM.keep {F : Nat → Prop} {w w' : World} {m : Nat} {l : List It} (h : PM w m l) (t : Touch F w w') (hm : ¬ F m) : PM w' m l := by
  have hl := h.lt
  obtain ⟨es, c, h1, h2⟩ := h
  exact ⟨es, c, (t.block m hl hm).trans h1, h2⟩
theorem PM.made (w : World) (c : Nat) : PM (w.alloc (.map #[] c)) w.heap.size [] := ⟨#[], c, by show (w.heap.push _)[w.heap.size]? = _; simp, rfl⟩
theorem PM.len {w : World} {m : Nat} {l : List It} (h : PM w m l) : ∃ es c, w.heap[m]? = some (.map es c) ∧ es.size = l.length := by
  obtain ⟨es, c, h1, h2⟩ := h
  exact ⟨es, c, h1, by simpa using congrArg List.length h2⟩
theorem touch_blockK {w : World} {m : Nat} {o o' : Obj} (h : w.heap[m]? = some o) : Touch (fun k => k = m) w (setBlock w m o') := by
  refine ⟨rfl, rfl, rfl, by simp [setBlock], fun k hk hn => ?_⟩
  show (w.heap.setIfInBounds m o')[k]? = _
  rw [Array.getElem?_setIfInBounds, if_neg (fun e => hn e.symm)]
theorem block_setK {w : World} {m : Nat} {o o' : Obj} (h : w.heap[m]? = some o) : (setBlock w m o').heap[m]? = some o' := by
  show (w.heap.setIfInBounds m o')[m]? = _
  rw [Array.getElem?_setIfInBounds, if_pos rfl, if_pos (lt_of_heap h)]
theorem pm_keys {es : Array MapEntry} {l : List It} (h2 : es.toList.map (fun e => (e.key, e.val)) = l.map (fun i => (i.h.ky, i.p))) (ok : ∀ i ∈ l, i.h.Al) : ∀ e ∈ es.toList, ∃ q, Go.keyOf Try.prog 55 e.key = some q := by
  intro e he
  have : (e.key, e.val) ∈ l.map (fun i => (i.h.ky, i.p)) := by rw [← h2]; exact List.mem_map.2 ⟨e, he, rfl⟩
  obtain ⟨i, hi, e1⟩ := List.mem_map.1 this
  have e2 : i.h.ky = e.key := congrArg Prod.fst e1
  rw [← e2]
  exact key_al (ok i hi)
theorem pm_get {es : Array MapEntry} {l : List It} (h2 : es.toList.map (fun e => (e.key, e.val)) = l.map (fun i => (i.h.ky, i.p))) {j : Nat} {e : MapEntry} (hj : es.toList[j]? = some e) : ∃ i, l[j]? = some i ∧ e.key = i.h.ky ∧ e.val = i.p := by
  have h3 : (es.toList.map (fun e => (e.key, e.val)))[j]? = some (e.key, e.val) := by rw [List.getElem?_map, hj]; rfl
  rw [h2, List.getElem?_map] at h3
  cases hl : l[j]? with
  | none => rw [hl] at h3; cases h3
  | some i =>
    rw [hl] at h3
    have h4 : (i.h.ky, i.p) = (e.key, e.val) := by injection h3
    exact ⟨i, rfl, (congrArg Prod.fst h4).symm, (congrArg Prod.snd h4).symm⟩
theorem map_erase {α β : Type} (f : α → β) : ∀ (l : List α) (j : Nat), (l.eraseIdx j).map f = (l.map f).eraseIdx j
  | [], j => by simp
  | a :: l, 0 => by simp
  | a :: l, j + 1 => by simp [map_erase f l j]
theorem zeroPl (w : World) : (zeroValue 62).run Try.prog w = .ok (.pointer none) w := by rfl
/-- The look-up of a key that is not there. -/
theorem PM.miss {w : World} {m : Nat} {l : List It} (h : PM w m l) (ok : ∀ i ∈ l, i.h.Al) {x : HV} (hx : x.Al) (hn : ∀ i ∈ l, i.h.ky ≠ x.ky) :
    (Instr.lookup 61 (.map (some m)) x.ky true).run Try.prog w = .ok (.tuple #[.pointer none, .bool false]) w := by
  obtain ⟨es, c, h1, h2⟩ := h
  obtain ⟨q, hk⟩ := key_al hx
  rcases lawK.find w hk es.toList (pm_keys h2 ok) with ⟨g1, -⟩ | ⟨j, e, g1, g2, g3⟩
  · simp [Instr.lookup, run_underlying Try.underlying61, MapKept.run_getObj_map h1, lawK.check w es.isEmpty hk, g1, Result.andThen]
  · obtain ⟨i, hi, e1, -⟩ := pm_get h2 g2
    exact absurd (e1.symm.trans g3) (hn i (List.mem_of_getElem? hi))
/-- .. that is there. -/
theorem PM.hit {w : World} {m : Nat} {l1 l2 : List It} {i : It} (h : PM w m (l1 ++ i :: l2)) (ok : ∀ j ∈ l1 ++ i :: l2, j.h.Al) (nd : ((l1 ++ i :: l2).map (fun j => j.h.ky)).Nodup) {x : HV} (hx : x.Al) (hi : i.h.ky = x.ky) :
    (Instr.lookup 61 (.map (some m)) x.ky true).run Try.prog w = .ok (.tuple #[i.p, .bool true]) w := by
  obtain ⟨es, c, h1, h2⟩ := h
  obtain ⟨q, hk⟩ := key_al hx
  rcases lawK.find w hk es.toList (pm_keys h2 ok) with ⟨-, g2⟩ | ⟨j, e, g1, g2, g3⟩
  · exfalso
    have : (i.h.ky, i.p) ∈ es.toList.map (fun e => (e.key, e.val)) := by rw [h2]; exact List.mem_map.2 ⟨i, by simp, rfl⟩
    obtain ⟨e, he, e1⟩ := List.mem_map.1 this
    exact g2 e he ((congrArg Prod.fst e1).trans hi)
  · obtain ⟨i', hi', e1, e2⟩ := pm_get h2 g2
    have hjj : j = l1.length := by
      have a1 : ((l1 ++ i :: l2).map (fun j => j.h.ky))[j]? = .some x.ky := by rw [List.getElem?_map, hi']; simp [← e1, g3]
      have a2 : ((l1 ++ i :: l2).map (fun j => j.h.ky))[l1.length]? = .some x.ky := by rw [List.getElem?_map]; simp [hi]
      exact (List.getElem?_inj (List.getElem?_eq_some_iff.1 a1).1 nd).1 (a1.trans a2.symm)
    subst hjj
    have hii : i = i' := by simpa using hi'
    subst hii
    have g2' : es[l1.length]? = .some e := by simpa using g2
    simp [Instr.lookup, run_underlying Try.underlying61, MapKept.run_getObj_map h1, lawK.check w es.isEmpty hk, g1, Result.andThen, e2]
/-- A key that is not there, stored. -/
theorem PM.put {w : World} {m : Nat} {l : List It} (h : PM w m l) (ok : ∀ i ∈ l, i.h.Al) (i : It) (hx : i.h.Al) (hn : ∀ j ∈ l, j.h.ky ≠ i.h.ky) :
    ∃ w', (Instr.mapUpdate 61 (.map (some m)) i.h.ky i.p).run Try.prog w = .ok () w' ∧ PM w' m (l ++ [i]) ∧ Touch (fun k => k = m) w w' := by
  obtain ⟨es, n, h1, h2⟩ := h
  obtain ⟨q, hk⟩ := key_al hx
  rcases lawK.find w hk es.toList (pm_keys h2 ok) with ⟨g1, -⟩ | ⟨j, e, g1, g2, g3⟩
  · refine ⟨setBlock w m (.map (es.push ⟨i.h.ky, i.p, n⟩) (n + 1)), ?_, ⟨_, _, block_setK h1, ?_⟩, touch_blockK h1⟩
    · simp [Instr.mapUpdate, run_underlying Try.underlying61, MapKept.run_getObj_map h1, lawK.check w false hk, g1, MapKept.run_setObj_map _ h1, Result.andThen, setBlock]
    · simp [h2]
  · obtain ⟨i', hi', e1, -⟩ := pm_get h2 g2
    exact absurd (e1.symm.trans g3) (hn i' (List.mem_of_getElem? hi'))
/-- A key that is there, struck out. -/
theorem PM.del {w : World} {m : Nat} {l1 l2 : List It} {i : It} (h : PM w m (l1 ++ i :: l2)) (ok : ∀ j ∈ l1 ++ i :: l2, j.h.Al) (nd : ((l1 ++ i :: l2).map (fun j => j.h.ky)).Nodup) {x : HV} (hx : x.Al) (hi : i.h.ky = x.ky) (ty : TypeId) :
    ∃ w', (Builtin.delete_ #[61, 55] ty #[.map (some m), x.ky]).run Try.prog w = .ok (.tuple #[]) w' ∧ PM w' m (l1 ++ l2) ∧ Touch (fun k => k = m) w w' := by
  obtain ⟨es, c, h1, h2⟩ := h
  obtain ⟨q, hk⟩ := key_al hx
  rcases lawK.find w hk es.toList (pm_keys h2 ok) with ⟨-, g2⟩ | ⟨j, e, g1, g2, g3⟩
  · exfalso
    have : (i.h.ky, i.p) ∈ es.toList.map (fun e => (e.key, e.val)) := by rw [h2]; exact List.mem_map.2 ⟨i, by simp, rfl⟩
    obtain ⟨e, he, e1⟩ := List.mem_map.1 this
    exact g2 e he ((congrArg Prod.fst e1).trans hi)
  · obtain ⟨i', hi', e1, e2⟩ := pm_get h2 g2
    have hjj : j = l1.length := by
      have a1 : ((l1 ++ i :: l2).map (fun j => j.h.ky))[j]? = .some x.ky := by rw [List.getElem?_map, hi']; simp [← e1, g3]
      have a2 : ((l1 ++ i :: l2).map (fun j => j.h.ky))[l1.length]? = .some x.ky := by rw [List.getElem?_map]; simp [hi]
      exact (List.getElem?_inj (List.getElem?_eq_some_iff.1 a1).1 nd).1 (a1.trans a2.symm)
    subst hjj
    refine ⟨setBlock w m (.map (es.eraseIdxIfInBounds l1.length) c), ?_, ⟨_, _, block_setK h1, ?_⟩, touch_blockK h1⟩
    · simp [Builtin.delete_, run_underlying Try.underlying61, MapKept.run_getObj_map h1, lawK.check w es.isEmpty hk, g1, MapKept.run_setObj_map _ h1, Result.andThen, setBlock]
    · have hlt : l1.length < es.size := by
        have := (List.getElem?_eq_some_iff.1 g2).1
        simpa using this
      rw [Array.eraseIdxIfInBounds, dif_pos hlt]
      simp only [Array.toList_eraseIdx]
      rw [map_erase, h2, ← map_erase, List.eraseIdx_append_of_length_le (Nat.le_refl _)]
      simp
end Go.Proofs.Ytedolfggbgmklaa
