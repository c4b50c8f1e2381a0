/- Wide.. and Spare.. of heads and keys. -/
import Derived.Test.YtjgeklipeeooaaaGreatDoorWideK
import Derived.Test.YtjgeklipeeooaaaGreatDoorPkAck
import Derived.Test.YtjgeklipeeooaaaGreatDoorStRd2
import Derived.Test.YtjgeklipeeooaaaGreatDoorPkIt12
import Derived.Deep.RegionHeld3
import Derived.Deep.DeepCutAuto
namespace Go.Proofs.YtjgeklipeeooaaaGreatDoor
open Go.RowKit
set_option linter.unusedVariables false
set_option maxRecDepth 100000

def mkHeads (i : Nat) : List Value := [.int .u16 0, .int .u8 0, .int .u8 0, .int .u32 (num9 i), .int .u32 0, .int .i32 0, .int .u16 0, .int .u16 0]
theorem mkHeads_len (i : Nat) : (mkHeads i).length = 8 := rfl
def fHeads : HV → List Value := HV.cells
theorem fHeads_len (x : HV) : (fHeads x).length = 8 := rfl
theorem fHeads_all (l : List HV) : l.flatMap fHeads = headsC l := by rfl
abbrev elHeads (l : List HV) : Nat → List Value := withMarks fHeads l mkHeads
theorem elHeads_len (l : List HV) (i : Nat) : (elHeads l i).length = 8 := withMarks_len fHeads_len mkHeads_len i

set_option maxHeartbeats 4000000 in
theorem wideHeads_any (v : Value) (l : List HV) (w : World) (h : HeadsAt w v l) (hcap : l.length ≤ 1000000) :
    Calls Tryz.prog 32 #[v] w fun e w' => e = .returned (.slice (some ⟨w.heap.size, 0, none⟩) l.length (l.length + 64)) ∧
      w'.heap[w.heap.size]? = some (.cells (elems (elHeads l) (l.length + 64)).toArray 93 (0, 0)) ∧ Touch (fun _ => False) w w' := by
  obtain ⟨i0, hi, hz0, hz1, hz2⟩ := info_parts Tryz.infoH8
  obtain ⟨aa, ca, rfl, hm⟩ := ValsAt.form h
  unfold maxLen at hm
  have HV' : Hid (HeadsAt w (.slice aa l.length ca) l) := h
  clear h
  have hn0 : (0 : Int) ≤ (l.length : Int) + 64 := by omega
  go_enter Tryz.func32, Tryz.ntmps32
  go_wp2_with (at_make; refine wpList_make_full _ rfl (.tmp 7) (.tmp 7) 27 rfl w.heap.size 93 i0 (.agg #[.int .u16 0, .int .u8 0, .int .u8 0, .int .u32 0, .int .u32 0, .int .i32 0, .int .u16 0, .int .u16 0]) 8 Tryz.underlying27 hi hz0 hz1 .i64 .i64 _ _ (l.length + 64) rfl rfl ?c1 ?c2 ?c3 ?c4 ?c5 ?_)
  case c1 => omega
  case c2 => omega
  case c3 => rw [hz2]; omega
  case c4 => unfold maxLen; omega
  case c5 => exact Nat.le_refl _
  intro w1 hown hgrow
  have t1 : Touch (fun _ => False) w w1 := (Touch.refl _ w).grown hgrow (by simp)
  have emd : (madeCells #[.int .u16 0, .int .u8 0, .int .u8 0, .int .u32 0, .int .u32 0, .int .i32 0, .int .u16 0, .int .u16 0] ((l.length + 64) * 8)).toList = elems (layEl (elHeads l) [.int .u16 0, .int .u8 0, .int .u8 0, .int .u32 0, .int .u32 0, .int .i32 0, .int .u16 0, .int .u16 0] 0) (l.length + 64) := by
    have e := madeV (.agg #[.int .u16 0, .int .u8 0, .int .u8 0, .int .u32 0, .int .u32 0, .int .i32 0, .int .u16 0, .int .u16 0]) [.int .u16 0, .int .u8 0, .int .u8 0, .int .u32 0, .int .u32 0, .int .i32 0, .int .u16 0, .int .u16 0] rfl (by decide) (l.length + 64) (elHeads l)
    simp only [List.length_cons, List.length_nil, Nat.zero_add] at e
    exact e
  rw [emd] at hown
  have HOWN : Hid (w1.ownsRow w.heap.size 93 8 (.slice (some ⟨w.heap.size, 0, none⟩) (l.length + 64) (l.length + 64)) (l.length + 64) (elems (layEl (elHeads l) [.int .u16 0, .int .u8 0, .int .u8 0, .int .u32 0, .int .u32 0, .int .i32 0, .int .u16 0, .int .u16 0] 0) (l.length + 64))) := hown
  have HT1 : Hid (Touch (fun _ => False) w w1) := t1
  clear hgrow hown t1 hi hz0 hz1 hz2
  go_wp2
  go_loopw [4] (fun i wr => ∃ k : Nat, k ≤ l.length + 64 ∧ i = .int .i64 k ∧ wr.ownsRow w.heap.size 93 8 (.slice (some ⟨w.heap.size, 0, none⟩) (l.length + 64) (l.length + 64)) (l.length + 64) (elems (layEl (elHeads l) [.int .u16 0, .int .u8 0, .int .u8 0, .int .u32 0, .int .u32 0, .int .i32 0, .int .u16 0, .int .u16 0] k) (l.length + 64)) ∧ Touch (fun _ => False) w wr) (fun i _ => l.length + 64 - (intOf i).toNat)
  case atStart => exact ⟨0, Nat.zero_le _, rfl, HOWN.out, HT1.out⟩
  case round =>
    obtain ⟨k, hk, rfl, hownk, tk⟩ := hrel
    have HOW : Hid (wr.ownsRow w.heap.size 93 8 (.slice (some ⟨w.heap.size, 0, none⟩) (l.length + 64) (l.length + 64)) (l.length + 64) (elems (layEl (elHeads l) [.int .u16 0, .int .u8 0, .int .u8 0, .int .u32 0, .int .u32 0, .int .i32 0, .int .u16 0, .int .u16 0] k) (l.length + 64))) := hownk
    have HTK : Hid (Touch (fun _ => False) w wr) := tk
    by_cases hlt : k < l.length + 64
    · have hki : (k : Int) < (l.length : Int) + 64 := by omega
      have hkb : k ≤ 2000000 := by omega
      have cz0 : wr.cell? ⟨w.heap.size, k * 8, none⟩ = some (.int .u16 0) := by
        have e := hownk.cellAt (k * 8 + 0) (by omega)
        rw [elems_at (layEl_len (elHeads_len l) rfl k) hlt (by omega)] at e
        simpa [layEl] using e
      have fz0 : wr.frozen? ⟨w.heap.size, k * 8, none⟩ = false := by
        have e := hownk.frozenAt (k * 8 + 0)
        simpa using e
      have cz1 : wr.cell? ⟨w.heap.size, k * 8 + 1, none⟩ = some (.int .u8 0) := by
        have e := hownk.cellAt (k * 8 + 1) (by omega)
        rw [elems_at (layEl_len (elHeads_len l) rfl k) hlt (by omega)] at e
        simpa [layEl] using e
      have fz1 : wr.frozen? ⟨w.heap.size, k * 8 + 1, none⟩ = false := by
        have e := hownk.frozenAt (k * 8 + 1)
        simpa using e
      have cz2 : wr.cell? ⟨w.heap.size, k * 8 + 2, none⟩ = some (.int .u8 0) := by
        have e := hownk.cellAt (k * 8 + 2) (by omega)
        rw [elems_at (layEl_len (elHeads_len l) rfl k) hlt (by omega)] at e
        simpa [layEl] using e
      have fz2 : wr.frozen? ⟨w.heap.size, k * 8 + 2, none⟩ = false := by
        have e := hownk.frozenAt (k * 8 + 2)
        simpa using e
      have cz3 : wr.cell? ⟨w.heap.size, k * 8 + 3, none⟩ = some (.int .u32 0) := by
        have e := hownk.cellAt (k * 8 + 3) (by omega)
        rw [elems_at (layEl_len (elHeads_len l) rfl k) hlt (by omega)] at e
        simpa [layEl] using e
      have fz3 : wr.frozen? ⟨w.heap.size, k * 8 + 3, none⟩ = false := by
        have e := hownk.frozenAt (k * 8 + 3)
        simpa using e
      have cz4 : wr.cell? ⟨w.heap.size, k * 8 + 4, none⟩ = some (.int .u32 0) := by
        have e := hownk.cellAt (k * 8 + 4) (by omega)
        rw [elems_at (layEl_len (elHeads_len l) rfl k) hlt (by omega)] at e
        simpa [layEl] using e
      have fz4 : wr.frozen? ⟨w.heap.size, k * 8 + 4, none⟩ = false := by
        have e := hownk.frozenAt (k * 8 + 4)
        simpa using e
      have cz5 : wr.cell? ⟨w.heap.size, k * 8 + 5, none⟩ = some (.int .i32 0) := by
        have e := hownk.cellAt (k * 8 + 5) (by omega)
        rw [elems_at (layEl_len (elHeads_len l) rfl k) hlt (by omega)] at e
        simpa [layEl] using e
      have fz5 : wr.frozen? ⟨w.heap.size, k * 8 + 5, none⟩ = false := by
        have e := hownk.frozenAt (k * 8 + 5)
        simpa using e
      have cz6 : wr.cell? ⟨w.heap.size, k * 8 + 6, none⟩ = some (.int .u16 0) := by
        have e := hownk.cellAt (k * 8 + 6) (by omega)
        rw [elems_at (layEl_len (elHeads_len l) rfl k) hlt (by omega)] at e
        simpa [layEl] using e
      have fz6 : wr.frozen? ⟨w.heap.size, k * 8 + 6, none⟩ = false := by
        have e := hownk.frozenAt (k * 8 + 6)
        simpa using e
      have cz7 : wr.cell? ⟨w.heap.size, k * 8 + 7, none⟩ = some (.int .u16 0) := by
        have e := hownk.cellAt (k * 8 + 7) (by omega)
        rw [elems_at (layEl_len (elHeads_len l) rfl k) hlt (by omega)] at e
        simpa [layEl] using e
      have fz7 : wr.frozen? ⟨w.heap.size, k * 8 + 7, none⟩ = false := by
        have e := hownk.frozenAt (k * 8 + 7)
        simpa using e
      by_cases hl : k < l.length
      · have hli : (k : Int) < (l.length : Int) := by omega
        obtain ⟨x, hx⟩ : ∃ x, l[k]? = some x := ⟨l[k], by simp [hl]⟩
        obtain ⟨ga, oa, _, ea, -, -, za⟩ := ValsAt.cells HV'.out (by omega) (by omega)
        cases ea
        have cx0 : wr.cell? ⟨ga, oa + k * 8, none⟩ = some (.int .u16 x.age) := by
          have e := za (k * 8 + 0) (.int .u16 x.age) (by rw [← fHeads_all, ← withMarks_take (mk := mkHeads), elems_at (elHeads_len l) hl (by omega), show elHeads l k = fHeads x from withMarks_in hx]; rfl)
          have e2 := HTK.out.cellN e
          simpa [Nat.add_assoc] using e2
        have cx1 : wr.cell? ⟨ga, oa + k * 8 + 1, none⟩ = some (.int .u8 x.opts) := by
          have e := za (k * 8 + 1) (.int .u8 x.opts) (by rw [← fHeads_all, ← withMarks_take (mk := mkHeads), elems_at (elHeads_len l) hl (by omega), show elHeads l k = fHeads x from withMarks_in hx]; rfl)
          have e2 := HTK.out.cellN e
          simpa [Nat.add_assoc] using e2
        have cx2 : wr.cell? ⟨ga, oa + k * 8 + 2, none⟩ = some (.int .u8 x.typ) := by
          have e := za (k * 8 + 2) (.int .u8 x.typ) (by rw [← fHeads_all, ← withMarks_take (mk := mkHeads), elems_at (elHeads_len l) hl (by omega), show elHeads l k = fHeads x from withMarks_in hx]; rfl)
          have e2 := HTK.out.cellN e
          simpa [Nat.add_assoc] using e2
        have cx3 : wr.cell? ⟨ga, oa + k * 8 + 3, none⟩ = some (.int .u32 x.id) := by
          have e := za (k * 8 + 3) (.int .u32 x.id) (by rw [← fHeads_all, ← withMarks_take (mk := mkHeads), elems_at (elHeads_len l) hl (by omega), show elHeads l k = fHeads x from withMarks_in hx]; rfl)
          have e2 := HTK.out.cellN e
          simpa [Nat.add_assoc] using e2
        have cx4 : wr.cell? ⟨ga, oa + k * 8 + 4, none⟩ = some (.int .u32 x.adv) := by
          have e := za (k * 8 + 4) (.int .u32 x.adv) (by rw [← fHeads_all, ← withMarks_take (mk := mkHeads), elems_at (elHeads_len l) hl (by omega), show elHeads l k = fHeads x from withMarks_in hx]; rfl)
          have e2 := HTK.out.cellN e
          simpa [Nat.add_assoc] using e2
        have cx5 : wr.cell? ⟨ga, oa + k * 8 + 5, none⟩ = some (.int .i32 x.seq) := by
          have e := za (k * 8 + 5) (.int .i32 x.seq) (by rw [← fHeads_all, ← withMarks_take (mk := mkHeads), elems_at (elHeads_len l) hl (by omega), show elHeads l k = fHeads x from withMarks_in hx]; rfl)
          have e2 := HTK.out.cellN e
          simpa [Nat.add_assoc] using e2
        have cx6 : wr.cell? ⟨ga, oa + k * 8 + 6, none⟩ = some (.int .u16 x.sum) := by
          have e := za (k * 8 + 6) (.int .u16 x.sum) (by rw [← fHeads_all, ← withMarks_take (mk := mkHeads), elems_at (elHeads_len l) hl (by omega), show elHeads l k = fHeads x from withMarks_in hx]; rfl)
          have e2 := HTK.out.cellN e
          simpa [Nat.add_assoc] using e2
        have cx7 : wr.cell? ⟨ga, oa + k * 8 + 7, none⟩ = some (.int .u16 x.len) := by
          have e := za (k * 8 + 7) (.int .u16 x.len) (by rw [← fHeads_all, ← withMarks_take (mk := mkHeads), elems_at (elHeads_len l) hl (by omega), show elHeads l k = fHeads x from withMarks_in hx]; rfl)
          have e2 := HTK.out.cellN e
          simpa [Nat.add_assoc] using e2
        have HEL : Hid (elHeads l k = [.int .u16 x.age, .int .u8 x.opts, .int .u8 x.typ, .int .u32 x.id, .int .u32 x.adv, .int .i32 x.seq, .int .u16 x.sum, .int .u16 x.len]) := withMarks_in hx
        clear za hx hownk tk
        go_wp2
        go_roundw
        case rel =>
          have HO := own_putAll ([.int .u16 x.age, .int .u8 x.opts, .int .u8 x.typ, .int .u32 x.id, .int .u32 x.adv, .int .i32 x.seq, .int .u16 x.sum, .int .u16 x.len]) wr _ (k * 8) 0 HOW.out
          rw [show ([.int .u16 x.age, .int .u8 x.opts, .int .u8 x.typ, .int .u32 x.id, .int .u32 x.adv, .int .i32 x.seq, .int .u16 x.sum, .int .u16 x.len]) = elHeads l k from (HEL.out).symm, setAll_lay (by decide) (elHeads_len l) rfl hlt, show elHeads l k = ([.int .u16 x.age, .int .u8 x.opts, .int .u8 x.typ, .int .u32 x.id, .int .u32 x.adv, .int .i32 x.seq, .int .u16 x.sum, .int .u16 x.len]) from HEL.out] at HO
          have e : putAll wr w.heap.size (k * 8) [.int .u16 x.age, .int .u8 x.opts, .int .u8 x.typ, .int .u32 x.id, .int .u32 x.adv, .int .i32 x.seq, .int .u16 x.sum, .int .u16 x.len] 0 = ((((((((wr.setCell ⟨w.heap.size, k * 8, none⟩ (.int .u16 x.age)).setCell ⟨w.heap.size, k * 8 + 1, none⟩ (.int .u8 x.opts)).setCell ⟨w.heap.size, k * 8 + 2, none⟩ (.int .u8 x.typ)).setCell ⟨w.heap.size, k * 8 + 3, none⟩ (.int .u32 x.id)).setCell ⟨w.heap.size, k * 8 + 4, none⟩ (.int .u32 x.adv)).setCell ⟨w.heap.size, k * 8 + 5, none⟩ (.int .i32 x.seq)).setCell ⟨w.heap.size, k * 8 + 6, none⟩ (.int .u16 x.sum)).setCell ⟨w.heap.size, k * 8 + 7, none⟩ (.int .u16 x.len)) := by simp [putAll]
          rw [e] at HO
          refine ⟨k + 1, by omega, by go_num, HO, ?_⟩
          rw [← e]
          exact touch_putAll (Or.inr (Nat.le_refl _)) _ _ _ _ HTK.out
        case measure => simp [intOf]; omega
      · have hli : ¬ (k : Int) < (l.length : Int) := by omega
        have HEL : Hid (elHeads l k = [.int .u16 0, .int .u8 0, .int .u8 0, .int .u32 (num9 k), .int .u32 0, .int .i32 0, .int .u16 0, .int .u16 0]) := withMarks_out (by omega)
        have HNM := fun w => num9_any k w hkb
        have hn9 : IntKind.u32.wrap (num9 k) = num9 k := by unfold num9; simp [IntKind.wrap, IntKind.bits, IntKind.signed]; omega
        generalize hN : num9 k = N9 at *
        clear hownk tk hN
        go_wp2_with fail
        refine Calls.mono (HNM _) ?_
        rintro e wx ⟨rfl, rfl⟩
        go_wp2
        go_roundw
        case rel =>
          have HO := own_putAll ([.int .u16 0, .int .u8 0, .int .u8 0, .int .u32 N9, .int .u32 0, .int .i32 0, .int .u16 0, .int .u16 0]) wr _ (k * 8) 0 HOW.out
          rw [show ([.int .u16 0, .int .u8 0, .int .u8 0, .int .u32 N9, .int .u32 0, .int .i32 0, .int .u16 0, .int .u16 0]) = elHeads l k from (HEL.out).symm, setAll_lay (by decide) (elHeads_len l) rfl hlt, show elHeads l k = ([.int .u16 0, .int .u8 0, .int .u8 0, .int .u32 N9, .int .u32 0, .int .i32 0, .int .u16 0, .int .u16 0]) from HEL.out] at HO
          have e : putAll wr w.heap.size (k * 8) [.int .u16 0, .int .u8 0, .int .u8 0, .int .u32 N9, .int .u32 0, .int .i32 0, .int .u16 0, .int .u16 0] 0 = ((((((((wr.setCell ⟨w.heap.size, k * 8, none⟩ (.int .u16 0)).setCell ⟨w.heap.size, k * 8 + 1, none⟩ (.int .u8 0)).setCell ⟨w.heap.size, k * 8 + 2, none⟩ (.int .u8 0)).setCell ⟨w.heap.size, k * 8 + 3, none⟩ (.int .u32 N9)).setCell ⟨w.heap.size, k * 8 + 4, none⟩ (.int .u32 0)).setCell ⟨w.heap.size, k * 8 + 5, none⟩ (.int .i32 0)).setCell ⟨w.heap.size, k * 8 + 6, none⟩ (.int .u16 0)).setCell ⟨w.heap.size, k * 8 + 7, none⟩ (.int .u16 0)) := by simp [putAll]
          rw [e] at HO
          refine ⟨k + 1, by omega, by go_num, HO, ?_⟩
          rw [← e]
          exact touch_putAll (Or.inr (Nat.le_refl _)) _ _ _ _ HTK.out
        case measure => simp [intOf]; omega
    · obtain rfl : k = l.length + 64 := by omega
      clear tk hownk
      go_wp2
      go_ret
      refine ⟨rfl, ?_, HTK.out⟩
      have := own_wholeV HOW.out
      rwa [layEl_all] at this

set_option maxHeartbeats 4000000 in
theorem spareHeads_any (g : Nat) (l : List HV) (w : World) (h : w.heap[g]? = some (.cells (elems (elHeads l) (l.length + 64)).toArray 93 (0, 0))) (hcap : l.length ≤ 1000000) :
    Calls Tryz.prog 51 #[.slice (some ⟨g, 0, none⟩) l.length (l.length + 64)] w fun e w' => e = .returned (.bool true) ∧ Touch (fun _ => False) w w' := by
  have hc : ∀ j u, (elems (elHeads l) (l.length + 64))[j]? = some u → w.cell? ⟨g, j, none⟩ = some u := fun j u hj => by simp only [World.cell?, h, List.getElem?_toArray]; exact hj
  have HC : Hid (∀ j u, (elems (elHeads l) (l.length + 64))[j]? = some u → w.cell? ⟨g, j, none⟩ = some u) := hc
  have hgl := lt_of_heap h
  clear h hc
  go_enter Tryz.func51, Tryz.ntmps51
  go_wp2
  go_loopw [4] (fun i wx => ∃ k : Nat, l.length ≤ k ∧ k ≤ l.length + 64 ∧ i = .int .i64 k ∧ Touch (fun _ => False) w wx) (fun i _ => l.length + 64 - (intOf i).toNat)
  case atStart => exact ⟨l.length, Nat.le_refl _, by omega, rfl, Touch.refl _ _⟩
  case round =>
    obtain ⟨k, hk0, hk, rfl, tk⟩ := hrel
    have HTK : Hid (Touch (fun _ => False) w wr) := tk
    by_cases hlt : k < l.length + 64
    · have hki : (k : Int) < (l.length : Int) + 64 := by omega
      have hkb : k ≤ 2000000 := by omega
      have HNM := fun w => num9_any k w hkb
      have hn9 : IntKind.u32.wrap (num9 k) = num9 k := by unfold num9; simp [IntKind.wrap, IntKind.bits, IntKind.signed]; omega
      have cx0 : wr.cell? ⟨g, k * 8, none⟩ = some (.int .u16 0) := by
        have e := HTK.out.cellN (HC.out (k * 8 + 0) (.int .u16 0) (by rw [elems_at (elHeads_len l) hlt (by omega), show elHeads l k = mkHeads k from withMarks_out hk0]; rfl))
        simpa using e
      have cx1 : wr.cell? ⟨g, k * 8 + 1, none⟩ = some (.int .u8 0) := by
        have e := HTK.out.cellN (HC.out (k * 8 + 1) (.int .u8 0) (by rw [elems_at (elHeads_len l) hlt (by omega), show elHeads l k = mkHeads k from withMarks_out hk0]; rfl))
        simpa using e
      have cx2 : wr.cell? ⟨g, k * 8 + 2, none⟩ = some (.int .u8 0) := by
        have e := HTK.out.cellN (HC.out (k * 8 + 2) (.int .u8 0) (by rw [elems_at (elHeads_len l) hlt (by omega), show elHeads l k = mkHeads k from withMarks_out hk0]; rfl))
        simpa using e
      have cx3 : wr.cell? ⟨g, k * 8 + 3, none⟩ = some (.int .u32 (num9 k)) := by
        have e := HTK.out.cellN (HC.out (k * 8 + 3) (.int .u32 (num9 k)) (by rw [elems_at (elHeads_len l) hlt (by omega), show elHeads l k = mkHeads k from withMarks_out hk0]; rfl))
        simpa using e
      have cx4 : wr.cell? ⟨g, k * 8 + 4, none⟩ = some (.int .u32 0) := by
        have e := HTK.out.cellN (HC.out (k * 8 + 4) (.int .u32 0) (by rw [elems_at (elHeads_len l) hlt (by omega), show elHeads l k = mkHeads k from withMarks_out hk0]; rfl))
        simpa using e
      have cx5 : wr.cell? ⟨g, k * 8 + 5, none⟩ = some (.int .i32 0) := by
        have e := HTK.out.cellN (HC.out (k * 8 + 5) (.int .i32 0) (by rw [elems_at (elHeads_len l) hlt (by omega), show elHeads l k = mkHeads k from withMarks_out hk0]; rfl))
        simpa using e
      have cx6 : wr.cell? ⟨g, k * 8 + 6, none⟩ = some (.int .u16 0) := by
        have e := HTK.out.cellN (HC.out (k * 8 + 6) (.int .u16 0) (by rw [elems_at (elHeads_len l) hlt (by omega), show elHeads l k = mkHeads k from withMarks_out hk0]; rfl))
        simpa using e
      have cx7 : wr.cell? ⟨g, k * 8 + 7, none⟩ = some (.int .u16 0) := by
        have e := HTK.out.cellN (HC.out (k * 8 + 7) (.int .u16 0) (by rw [elems_at (elHeads_len l) hlt (by omega), show elHeads l k = mkHeads k from withMarks_out hk0]; rfl))
        simpa using e
      generalize hN : num9 k = N9 at *
      clear hN
      clear tk
      go_upto_region 6 with fail
      have y0 : (wr.alloc (.cells #[.int .u16 0, .int .u8 0, .int .u8 0, .int .u32 N9, .int .u32 0, .int .i32 0, .int .u16 0, .int .u16 0] 93)).cell? ⟨wr.heap.size, 0, none⟩ = some (.int .u16 0) := by simp [go_sem]
      have HT2 : Hid (Touch (fun _ => False) w (wr.alloc (.cells #[.int .u16 0, .int .u8 0, .int .u8 0, .int .u32 N9, .int .u32 0, .int .i32 0, .int .u16 0, .int .u16 0] 93))) := HTK.out.alloc _
      have y1 : (wr.alloc (.cells #[.int .u16 0, .int .u8 0, .int .u8 0, .int .u32 N9, .int .u32 0, .int .i32 0, .int .u16 0, .int .u16 0] 93)).cell? ⟨wr.heap.size, 1, none⟩ = some (.int .u8 0) := by simp [go_sem]
      have y2 : (wr.alloc (.cells #[.int .u16 0, .int .u8 0, .int .u8 0, .int .u32 N9, .int .u32 0, .int .i32 0, .int .u16 0, .int .u16 0] 93)).cell? ⟨wr.heap.size, 2, none⟩ = some (.int .u8 0) := by simp [go_sem]
      have y3 : (wr.alloc (.cells #[.int .u16 0, .int .u8 0, .int .u8 0, .int .u32 N9, .int .u32 0, .int .i32 0, .int .u16 0, .int .u16 0] 93)).cell? ⟨wr.heap.size, 3, none⟩ = some (.int .u32 N9) := by simp [go_sem]
      have y4 : (wr.alloc (.cells #[.int .u16 0, .int .u8 0, .int .u8 0, .int .u32 N9, .int .u32 0, .int .i32 0, .int .u16 0, .int .u16 0] 93)).cell? ⟨wr.heap.size, 4, none⟩ = some (.int .u32 0) := by simp [go_sem]
      have y5 : (wr.alloc (.cells #[.int .u16 0, .int .u8 0, .int .u8 0, .int .u32 N9, .int .u32 0, .int .i32 0, .int .u16 0, .int .u16 0] 93)).cell? ⟨wr.heap.size, 5, none⟩ = some (.int .i32 0) := by simp [go_sem]
      have y6 : (wr.alloc (.cells #[.int .u16 0, .int .u8 0, .int .u8 0, .int .u32 N9, .int .u32 0, .int .i32 0, .int .u16 0, .int .u16 0] 93)).cell? ⟨wr.heap.size, 6, none⟩ = some (.int .u16 0) := by simp [go_sem]
      have y7 : (wr.alloc (.cells #[.int .u16 0, .int .u8 0, .int .u8 0, .int .u32 N9, .int .u32 0, .int .i32 0, .int .u16 0, .int .u16 0] 93)).cell? ⟨wr.heap.size, 7, none⟩ = some (.int .u16 0) := by simp [go_sem]
      generalize wr.alloc (.cells #[.int .u16 0, .int .u8 0, .int .u8 0, .int .u32 N9, .int .u32 0, .int .i32 0, .int .u16 0, .int .u16 0] 93) = wy at *
      generalize wr.heap.size = gy at *
      have st : Since wy wy.drew := Since.start wy
      have z0 := since_cell y0
      have z1 := since_cell y1
      have z2 := since_cell y2
      have z3 := since_cell y3
      have z4 := since_cell y4
      have z5 := since_cell y5
      have z6 := since_cell y6
      have z7 := since_cell y7
      clear y0 y1 y2 y3 y4 y5 y6 y7
      go_region_held3 (fun w' => Since wy w') (with_reducible assumption) (first
        | (go_at_call 87; refine Calls.mono (HNM _) ?_; rintro e wx ⟨rfl, rfl⟩))
      go_wp2
      go_roundw
      case rel => exact ⟨k + 1, by omega, by omega, by go_num, HT2.out.drew⟩
      case measure => simp [intOf]; omega
    · obtain rfl : k = l.length + 64 := by omega
      go_wp2
      go_ret
      exact ⟨rfl, HTK.out⟩
def mkKeys (i : Nat) : List Value := [.int .u8 0, .int .u32 (num9 i), .int .u32 0]
theorem mkKeys_len (i : Nat) : (mkKeys i).length = 3 := rfl
def fKeys : KV → List Value := KV.cells
theorem fKeys_len (x : KV) : (fKeys x).length = 3 := rfl
theorem fKeys_all (l : List KV) : l.flatMap fKeys = keysC l := by rfl
abbrev elKeys (l : List KV) : Nat → List Value := withMarks fKeys l mkKeys
theorem elKeys_len (l : List KV) (i : Nat) : (elKeys l i).length = 3 := withMarks_len fKeys_len mkKeys_len i

set_option maxHeartbeats 4000000 in
theorem wideKeys_any (v : Value) (l : List KV) (w : World) (h : KeysAt w v l) (hcap : l.length ≤ 1000000) :
    Calls Tryz.prog 30 #[v] w fun e w' => e = .returned (.slice (some ⟨w.heap.size, 0, none⟩) l.length (l.length + 64)) ∧
      w'.heap[w.heap.size]? = some (.cells (elems (elKeys l) (l.length + 64)).toArray 125 (0, 0)) ∧ Touch (fun _ => False) w w' := by
  obtain ⟨i0, hi, hz0, hz1, hz2⟩ := info_parts Tryz.infoK3
  obtain ⟨aa, ca, rfl, hm⟩ := ValsAt.form h
  unfold maxLen at hm
  have HV' : Hid (KeysAt w (.slice aa l.length ca) l) := h
  clear h
  have hn0 : (0 : Int) ≤ (l.length : Int) + 64 := by omega
  go_enter Tryz.func30, Tryz.ntmps30
  go_wp2_with (at_make; refine wpList_make_full _ rfl (.tmp 7) (.tmp 7) 30 rfl w.heap.size 125 i0 (.agg #[.int .u8 0, .int .u32 0, .int .u32 0]) 3 Tryz.underlying30 hi hz0 hz1 .i64 .i64 _ _ (l.length + 64) rfl rfl ?c1 ?c2 ?c3 ?c4 ?c5 ?_)
  case c1 => omega
  case c2 => omega
  case c3 => rw [hz2]; omega
  case c4 => unfold maxLen; omega
  case c5 => exact Nat.le_refl _
  intro w1 hown hgrow
  have t1 : Touch (fun _ => False) w w1 := (Touch.refl _ w).grown hgrow (by simp)
  have emd : (madeCells #[.int .u8 0, .int .u32 0, .int .u32 0] ((l.length + 64) * 3)).toList = elems (layEl (elKeys l) [.int .u8 0, .int .u32 0, .int .u32 0] 0) (l.length + 64) := by
    have e := madeV (.agg #[.int .u8 0, .int .u32 0, .int .u32 0]) [.int .u8 0, .int .u32 0, .int .u32 0] rfl (by decide) (l.length + 64) (elKeys l)
    simp only [List.length_cons, List.length_nil, Nat.zero_add] at e
    exact e
  rw [emd] at hown
  have HOWN : Hid (w1.ownsRow w.heap.size 125 3 (.slice (some ⟨w.heap.size, 0, none⟩) (l.length + 64) (l.length + 64)) (l.length + 64) (elems (layEl (elKeys l) [.int .u8 0, .int .u32 0, .int .u32 0] 0) (l.length + 64))) := hown
  have HT1 : Hid (Touch (fun _ => False) w w1) := t1
  clear hgrow hown t1 hi hz0 hz1 hz2
  go_wp2
  go_loopw [4] (fun i wr => ∃ k : Nat, k ≤ l.length + 64 ∧ i = .int .i64 k ∧ wr.ownsRow w.heap.size 125 3 (.slice (some ⟨w.heap.size, 0, none⟩) (l.length + 64) (l.length + 64)) (l.length + 64) (elems (layEl (elKeys l) [.int .u8 0, .int .u32 0, .int .u32 0] k) (l.length + 64)) ∧ Touch (fun _ => False) w wr) (fun i _ => l.length + 64 - (intOf i).toNat)
  case atStart => exact ⟨0, Nat.zero_le _, rfl, HOWN.out, HT1.out⟩
  case round =>
    obtain ⟨k, hk, rfl, hownk, tk⟩ := hrel
    have HOW : Hid (wr.ownsRow w.heap.size 125 3 (.slice (some ⟨w.heap.size, 0, none⟩) (l.length + 64) (l.length + 64)) (l.length + 64) (elems (layEl (elKeys l) [.int .u8 0, .int .u32 0, .int .u32 0] k) (l.length + 64))) := hownk
    have HTK : Hid (Touch (fun _ => False) w wr) := tk
    by_cases hlt : k < l.length + 64
    · have hki : (k : Int) < (l.length : Int) + 64 := by omega
      have hkb : k ≤ 2000000 := by omega
      have cz0 : wr.cell? ⟨w.heap.size, k * 3, none⟩ = some (.int .u8 0) := by
        have e := hownk.cellAt (k * 3 + 0) (by omega)
        rw [elems_at (layEl_len (elKeys_len l) rfl k) hlt (by omega)] at e
        simpa [layEl] using e
      have fz0 : wr.frozen? ⟨w.heap.size, k * 3, none⟩ = false := by
        have e := hownk.frozenAt (k * 3 + 0)
        simpa using e
      have cz1 : wr.cell? ⟨w.heap.size, k * 3 + 1, none⟩ = some (.int .u32 0) := by
        have e := hownk.cellAt (k * 3 + 1) (by omega)
        rw [elems_at (layEl_len (elKeys_len l) rfl k) hlt (by omega)] at e
        simpa [layEl] using e
      have fz1 : wr.frozen? ⟨w.heap.size, k * 3 + 1, none⟩ = false := by
        have e := hownk.frozenAt (k * 3 + 1)
        simpa using e
      have cz2 : wr.cell? ⟨w.heap.size, k * 3 + 2, none⟩ = some (.int .u32 0) := by
        have e := hownk.cellAt (k * 3 + 2) (by omega)
        rw [elems_at (layEl_len (elKeys_len l) rfl k) hlt (by omega)] at e
        simpa [layEl] using e
      have fz2 : wr.frozen? ⟨w.heap.size, k * 3 + 2, none⟩ = false := by
        have e := hownk.frozenAt (k * 3 + 2)
        simpa using e
      by_cases hl : k < l.length
      · have hli : (k : Int) < (l.length : Int) := by omega
        obtain ⟨x, hx⟩ : ∃ x, l[k]? = some x := ⟨l[k], by simp [hl]⟩
        obtain ⟨ga, oa, _, ea, -, -, za⟩ := ValsAt.cells HV'.out (by omega) (by omega)
        cases ea
        have cx0 : wr.cell? ⟨ga, oa + k * 3, none⟩ = some (.int .u8 x.typ) := by
          have e := za (k * 3 + 0) (.int .u8 x.typ) (by rw [← fKeys_all, ← withMarks_take (mk := mkKeys), elems_at (elKeys_len l) hl (by omega), show elKeys l k = fKeys x from withMarks_in hx]; rfl)
          have e2 := HTK.out.cellN e
          simpa [Nat.add_assoc] using e2
        have cx1 : wr.cell? ⟨ga, oa + k * 3 + 1, none⟩ = some (.int .u32 x.id) := by
          have e := za (k * 3 + 1) (.int .u32 x.id) (by rw [← fKeys_all, ← withMarks_take (mk := mkKeys), elems_at (elKeys_len l) hl (by omega), show elKeys l k = fKeys x from withMarks_in hx]; rfl)
          have e2 := HTK.out.cellN e
          simpa [Nat.add_assoc] using e2
        have cx2 : wr.cell? ⟨ga, oa + k * 3 + 2, none⟩ = some (.int .u32 x.adv) := by
          have e := za (k * 3 + 2) (.int .u32 x.adv) (by rw [← fKeys_all, ← withMarks_take (mk := mkKeys), elems_at (elKeys_len l) hl (by omega), show elKeys l k = fKeys x from withMarks_in hx]; rfl)
          have e2 := HTK.out.cellN e
          simpa [Nat.add_assoc] using e2
        have HEL : Hid (elKeys l k = [.int .u8 x.typ, .int .u32 x.id, .int .u32 x.adv]) := withMarks_in hx
        clear za hx hownk tk
        go_wp2
        go_roundw
        case rel =>
          have HO := own_putAll ([.int .u8 x.typ, .int .u32 x.id, .int .u32 x.adv]) wr _ (k * 3) 0 HOW.out
          rw [show ([.int .u8 x.typ, .int .u32 x.id, .int .u32 x.adv]) = elKeys l k from (HEL.out).symm, setAll_lay (by decide) (elKeys_len l) rfl hlt, show elKeys l k = ([.int .u8 x.typ, .int .u32 x.id, .int .u32 x.adv]) from HEL.out] at HO
          have e : putAll wr w.heap.size (k * 3) [.int .u8 x.typ, .int .u32 x.id, .int .u32 x.adv] 0 = (((wr.setCell ⟨w.heap.size, k * 3, none⟩ (.int .u8 x.typ)).setCell ⟨w.heap.size, k * 3 + 1, none⟩ (.int .u32 x.id)).setCell ⟨w.heap.size, k * 3 + 2, none⟩ (.int .u32 x.adv)) := by simp [putAll]
          rw [e] at HO
          refine ⟨k + 1, by omega, by go_num, HO, ?_⟩
          rw [← e]
          exact touch_putAll (Or.inr (Nat.le_refl _)) _ _ _ _ HTK.out
        case measure => simp [intOf]; omega
      · have hli : ¬ (k : Int) < (l.length : Int) := by omega
        have HEL : Hid (elKeys l k = [.int .u8 0, .int .u32 (num9 k), .int .u32 0]) := withMarks_out (by omega)
        have HNM := fun w => num9_any k w hkb
        have hn9 : IntKind.u32.wrap (num9 k) = num9 k := by unfold num9; simp [IntKind.wrap, IntKind.bits, IntKind.signed]; omega
        generalize hN : num9 k = N9 at *
        clear hownk tk hN
        go_wp2_with fail
        refine Calls.mono (HNM _) ?_
        rintro e wx ⟨rfl, rfl⟩
        go_wp2
        go_roundw
        case rel =>
          have HO := own_putAll ([.int .u8 0, .int .u32 N9, .int .u32 0]) wr _ (k * 3) 0 HOW.out
          rw [show ([.int .u8 0, .int .u32 N9, .int .u32 0]) = elKeys l k from (HEL.out).symm, setAll_lay (by decide) (elKeys_len l) rfl hlt, show elKeys l k = ([.int .u8 0, .int .u32 N9, .int .u32 0]) from HEL.out] at HO
          have e : putAll wr w.heap.size (k * 3) [.int .u8 0, .int .u32 N9, .int .u32 0] 0 = (((wr.setCell ⟨w.heap.size, k * 3, none⟩ (.int .u8 0)).setCell ⟨w.heap.size, k * 3 + 1, none⟩ (.int .u32 N9)).setCell ⟨w.heap.size, k * 3 + 2, none⟩ (.int .u32 0)) := by simp [putAll]
          rw [e] at HO
          refine ⟨k + 1, by omega, by go_num, HO, ?_⟩
          rw [← e]
          exact touch_putAll (Or.inr (Nat.le_refl _)) _ _ _ _ HTK.out
        case measure => simp [intOf]; omega
    · obtain rfl : k = l.length + 64 := by omega
      clear tk hownk
      go_wp2
      go_ret
      refine ⟨rfl, ?_, HTK.out⟩
      have := own_wholeV HOW.out
      rwa [layEl_all] at this

set_option maxHeartbeats 4000000 in
theorem spareKeys_any (g : Nat) (l : List KV) (w : World) (h : w.heap[g]? = some (.cells (elems (elKeys l) (l.length + 64)).toArray 125 (0, 0))) (hcap : l.length ≤ 1000000) :
    Calls Tryz.prog 49 #[.slice (some ⟨g, 0, none⟩) l.length (l.length + 64)] w fun e w' => e = .returned (.bool true) ∧ Touch (fun _ => False) w w' := by
  have hc : ∀ j u, (elems (elKeys l) (l.length + 64))[j]? = some u → w.cell? ⟨g, j, none⟩ = some u := fun j u hj => by simp only [World.cell?, h, List.getElem?_toArray]; exact hj
  have HC : Hid (∀ j u, (elems (elKeys l) (l.length + 64))[j]? = some u → w.cell? ⟨g, j, none⟩ = some u) := hc
  have hgl := lt_of_heap h
  clear h hc
  go_enter Tryz.func49, Tryz.ntmps49
  go_wp2
  go_loopw [4] (fun i wx => ∃ k : Nat, l.length ≤ k ∧ k ≤ l.length + 64 ∧ i = .int .i64 k ∧ Touch (fun _ => False) w wx) (fun i _ => l.length + 64 - (intOf i).toNat)
  case atStart => exact ⟨l.length, Nat.le_refl _, by omega, rfl, Touch.refl _ _⟩
  case round =>
    obtain ⟨k, hk0, hk, rfl, tk⟩ := hrel
    have HTK : Hid (Touch (fun _ => False) w wr) := tk
    by_cases hlt : k < l.length + 64
    · have hki : (k : Int) < (l.length : Int) + 64 := by omega
      have hkb : k ≤ 2000000 := by omega
      have HNM := fun w => num9_any k w hkb
      have hn9 : IntKind.u32.wrap (num9 k) = num9 k := by unfold num9; simp [IntKind.wrap, IntKind.bits, IntKind.signed]; omega
      have cx0 : wr.cell? ⟨g, k * 3, none⟩ = some (.int .u8 0) := by
        have e := HTK.out.cellN (HC.out (k * 3 + 0) (.int .u8 0) (by rw [elems_at (elKeys_len l) hlt (by omega), show elKeys l k = mkKeys k from withMarks_out hk0]; rfl))
        simpa using e
      have cx1 : wr.cell? ⟨g, k * 3 + 1, none⟩ = some (.int .u32 (num9 k)) := by
        have e := HTK.out.cellN (HC.out (k * 3 + 1) (.int .u32 (num9 k)) (by rw [elems_at (elKeys_len l) hlt (by omega), show elKeys l k = mkKeys k from withMarks_out hk0]; rfl))
        simpa using e
      have cx2 : wr.cell? ⟨g, k * 3 + 2, none⟩ = some (.int .u32 0) := by
        have e := HTK.out.cellN (HC.out (k * 3 + 2) (.int .u32 0) (by rw [elems_at (elKeys_len l) hlt (by omega), show elKeys l k = mkKeys k from withMarks_out hk0]; rfl))
        simpa using e
      generalize hN : num9 k = N9 at *
      clear hN
      clear tk
      go_upto_region 6 with fail
      have y0 : (wr.alloc (.cells #[.int .u8 0, .int .u32 N9, .int .u32 0] 125)).cell? ⟨wr.heap.size, 0, none⟩ = some (.int .u8 0) := by simp [go_sem]
      have HT2 : Hid (Touch (fun _ => False) w (wr.alloc (.cells #[.int .u8 0, .int .u32 N9, .int .u32 0] 125))) := HTK.out.alloc _
      have y1 : (wr.alloc (.cells #[.int .u8 0, .int .u32 N9, .int .u32 0] 125)).cell? ⟨wr.heap.size, 1, none⟩ = some (.int .u32 N9) := by simp [go_sem]
      have y2 : (wr.alloc (.cells #[.int .u8 0, .int .u32 N9, .int .u32 0] 125)).cell? ⟨wr.heap.size, 2, none⟩ = some (.int .u32 0) := by simp [go_sem]
      generalize wr.alloc (.cells #[.int .u8 0, .int .u32 N9, .int .u32 0] 125) = wy at *
      generalize wr.heap.size = gy at *
      have st : Since wy wy.drew := Since.start wy
      have z0 := since_cell y0
      have z1 := since_cell y1
      have z2 := since_cell y2
      clear y0 y1 y2
      go_region_held3 (fun w' => Since wy w') (with_reducible assumption) (first
        | (go_at_call 87; refine Calls.mono (HNM _) ?_; rintro e wx ⟨rfl, rfl⟩))
      go_wp2
      go_roundw
      case rel => exact ⟨k + 1, by omega, by omega, by go_num, HT2.out.drew⟩
      case measure => simp [intOf]; omega
    · obtain rfl : k = l.length + 64 := by omega
      go_wp2
      go_ret
      exact ⟨rfl, HTK.out⟩
end Go.Proofs.YtjgeklipeeooaaaGreatDoor
