/- Worlds in which nothing of an older one has turned, for regions that draw their order. -/
import Derived.Test.YthdkihnmeoacaaaGreatDoorOwnB
import Derived.Test.YthdkihnmeoacaaaGreatDoorWideV
import Derived.Test.YthdkihnmeoacaaaGreatDoorStaOut
import Derived.Test.YthdkihnmeoacaaaGreatDoorStRRtr
import Derived.Deep.RegionHeld3
import Derived.Deep.DeepCutAuto
namespace Go.Proofs.YthdkihnmeoacaaaGreatDoor
open Go.RowKit
set_option linter.unusedVariables false
set_option maxRecDepth 100000

/-- Nothing of x has turned in w. -/
structure Since (x w : World) : Prop where
  t : Touch (fun _ => False) x w
theorem Since.trans {x w w' : World} (h : Since x w) (t : Touch (fun _ => False) w w') : Since x w' := ⟨h.t.trans t⟩
theorem Since.start (x : World) : Since x x.drew := ⟨(Touch.refl _ _).drew⟩
theorem since_cell {x : World} {p : Addr} {v : Value} (h : x.cell? p = some v) : ∀ w, Since x w → w.cell? p = some v := fun w s => s.t.cellN h
theorem since_arg {x : World} {v : Value} {rs : List Int} (h : ArgAt x v rs) : ∀ w, Since x w → ArgAt w v rs := fun w s => h.keep s.t (fun _ _ h => h)
theorem since_row {x : World} {v : Value} {rs : List Int} (h : RowAt x v rs) : ∀ w, Since x w → RowAt w v rs := fun w s => h.touch s.t (fun _ _ h => h)
/-- Two rows that read the same. -/
structure EqP (w : World) (va vb : Value) : Prop where
  out : ∃ rs : List Int, RowAt w va rs ∧ ArgAt w vb rs
theorem eqP {w : World} {va vb : Value} (h : EqP w va vb) : Calls Tryz.prog 29 #[va, vb] w fun e w' => e = .returned (.bool true) ∧ Touch (fun _ => False) w w' := by
  obtain ⟨rs, h1, h2⟩ := h.out
  refine (eq_true va vb rs w h1 h2).mono ?_
  rintro e w' ⟨rfl, n, rfl⟩
  exact ⟨rfl, (Touch.refl _ _).drewN n⟩
end Go.Proofs.YthdkihnmeoacaaaGreatDoor

namespace Go.Proofs.YthdkihnmeoacaaaGreatDoor
open Go.RowKit
set_option linter.unusedVariables false
set_option maxRecDepth 100000

/-- The mark behind a list, at place i. -/
def num9 (i : Nat) : Int := 9437185 + (i : Int)
theorem num_any (n i : Int) (w : World) (h0 : 0 ≤ n) (h1 : n ≤ 300) (h2 : 0 ≤ i) (h3 : i ≤ 4000000) : Calls Tryz.prog 89 #[.int .i64 n, .int .i64 i] w fun e w' => e = .returned (.int .i64 (1048576 * n + i + 1)) ∧ w = w' := by
  go_enter Tryz.func89, Tryz.ntmps89
  go_wp2
  go_ret
  exact ⟨rfl, rfl⟩
theorem num9_any (i : Nat) (w : World) (h3 : i ≤ 2000000) : Calls Tryz.prog 89 #[.int .i64 9, .int .i64 (i : Int)] w fun e w' => e = .returned (.int .i64 (num9 i)) ∧ w = w' := by
  refine (num_any 9 (i : Int) w (by omega) (by omega) (by omega) (by omega)).mono ?_
  rintro e w' ⟨rfl, rfl⟩
  exact ⟨by unfold num9; rw [show (1048576 * 9 + (i : Int) + 1 : Int) = 9437185 + (i : Int) by omega], rfl⟩
def mkWords (i : Nat) : List Value := [.int .u32 (num9 i)]
theorem mkWords_len (i : Nat) : (mkWords i).length = 1 := rfl
def fWords : Int → List Value := fun x : Int => [Value.int .u32 x]
theorem fWords_len (x : Int) : (fWords x).length = 1 := rfl
theorem fWords_all (l : List Int) : l.flatMap fWords = wordsC l := by unfold fWords wordsC; induction l with | nil => rfl | cons x r ih => simp only [List.flatMap_cons, List.map_cons, ih]; rfl
abbrev elWords (l : List Int) : Nat → List Value := withMarks fWords l mkWords
theorem elWords_len (l : List Int) (i : Nat) : (elWords l i).length = 1 := withMarks_len fWords_len mkWords_len i

set_option maxHeartbeats 1000000 in
theorem wideWords_any (v : Value) (l : List Int) (w : World) (h : WordsAt w v l) (hcap : l.length ≤ 1000000) :
    Calls Tryz.prog 34 #[v] w fun e w' => e = .returned (.slice (some ⟨w.heap.size, 0, none⟩) l.length (l.length + 64)) ∧
      w'.heap[w.heap.size]? = some (.cells (elems (elWords l) (l.length + 64)).toArray 23 (0, 0)) ∧ Touch (fun _ => False) w w' := by
  obtain ⟨i0, hi, hz0, hz1, hz2⟩ := info_parts Tryz.infoU
  obtain ⟨aa, ca, rfl, hm⟩ := ValsAt.form h
  unfold maxLen at hm
  have HV' : Hid (WordsAt w (.slice aa l.length ca) l) := h
  clear h
  have hn0 : (0 : Int) ≤ (l.length : Int) + 64 := by omega
  go_enter Tryz.func34, Tryz.ntmps34
  go_wp2_with (at_make; refine wpList_make_full _ rfl (.tmp 7) (.tmp 7) 27 rfl w.heap.size 23 i0 (.int .u32 0) 1 Tryz.underlying27 hi hz0 hz1 .i64 .i64 _ _ (l.length + 64) rfl rfl ?c1 ?c2 ?c3 ?c4 ?c5 ?_)
  case c1 => omega
  case c2 => omega
  case c3 => rw [hz2]; omega
  case c4 => unfold maxLen; omega
  case c5 => exact Nat.le_refl _
  intro w1 hown hgrow
  have t1 : Touch (fun _ => False) w w1 := (Touch.refl _ w).grown hgrow (by simp)
  have emd : (madeCells #[.int .u32 0] (l.length + 64)).toList = elems (layEl (elWords l) [.int .u32 0] 0) (l.length + 64) := by
    have e := madeV (.int .u32 0) [.int .u32 0] rfl (by decide) (l.length + 64) (elWords l)
    simp only [List.length_cons, List.length_nil, Nat.zero_add, Nat.mul_one] at e
    exact e
  rw [emd] at hown
  have HOWN : Hid (w1.ownsRow w.heap.size 23 1 (.slice (some ⟨w.heap.size, 0, none⟩) (l.length + 64) (l.length + 64)) (l.length + 64) (elems (layEl (elWords l) [.int .u32 0] 0) (l.length + 64))) := hown
  have HT1 : Hid (Touch (fun _ => False) w w1) := t1
  clear hgrow hown t1 hi hz0 hz1 hz2
  go_wp2
  go_loopw [4] (fun i wr => ∃ k : Nat, k ≤ l.length + 64 ∧ i = .int .i64 k ∧ wr.ownsRow w.heap.size 23 1 (.slice (some ⟨w.heap.size, 0, none⟩) (l.length + 64) (l.length + 64)) (l.length + 64) (elems (layEl (elWords l) [.int .u32 0] k) (l.length + 64)) ∧ Touch (fun _ => False) w wr) (fun i _ => l.length + 64 - (intOf i).toNat)
  case atStart => exact ⟨0, Nat.zero_le _, rfl, HOWN.out, HT1.out⟩
  case round =>
    obtain ⟨k, hk, rfl, hownk, tk⟩ := hrel
    have HOW : Hid (wr.ownsRow w.heap.size 23 1 (.slice (some ⟨w.heap.size, 0, none⟩) (l.length + 64) (l.length + 64)) (l.length + 64) (elems (layEl (elWords l) [.int .u32 0] k) (l.length + 64))) := hownk
    have HTK : Hid (Touch (fun _ => False) w wr) := tk
    by_cases hlt : k < l.length + 64
    · have hki : (k : Int) < (l.length : Int) + 64 := by omega
      have hkb : k ≤ 2000000 := by omega
      have cz0 : wr.cell? ⟨w.heap.size, k, none⟩ = some (.int .u32 0) := by
        have e := hownk.cellAt (k * 1 + 0) (by omega)
        rw [elems_at (layEl_len (elWords_len l) rfl k) hlt (by omega)] at e
        simpa [layEl] using e
      have fz0 : wr.frozen? ⟨w.heap.size, k, none⟩ = false := by
        have e := hownk.frozenAt (k * 1 + 0)
        simpa using e
      by_cases hl : k < l.length
      · have hli : (k : Int) < (l.length : Int) := by omega
        obtain ⟨x, hx⟩ : ∃ x, l[k]? = some x := ⟨l[k], by simp [hl]⟩
        obtain ⟨ga, oa, _, ea, -, -, za⟩ := ValsAt.cells HV'.out (by omega) (by omega)
        cases ea
        have cx0 : wr.cell? ⟨ga, oa + k, none⟩ = some (.int .u32 x) := by
          have e := za (k * 1 + 0) (.int .u32 x) (by rw [← fWords_all, ← withMarks_take (mk := mkWords), elems_at (elWords_len l) hl (by omega), show elWords l k = fWords x from withMarks_in hx]; rfl)
          have e2 := HTK.out.cellN e
          simpa [Nat.add_assoc] using e2
        have HEL : Hid (elWords l k = [.int .u32 x]) := withMarks_in hx
        clear za hx hownk tk
        go_wp2
        go_roundw
        case rel =>
          have HO := own_putAll ([.int .u32 x]) wr _ (k * 1) 0 HOW.out
          rw [show ([.int .u32 x]) = elWords l k from (HEL.out).symm, setAll_lay (by decide) (elWords_len l) rfl hlt, show elWords l k = ([.int .u32 x]) from HEL.out] at HO
          have e : putAll wr w.heap.size (k * 1) [.int .u32 x] 0 = (wr.setCell ⟨w.heap.size, k, none⟩ (.int .u32 x)) := by simp [putAll]
          rw [e] at HO
          refine ⟨k + 1, by omega, by go_num, HO, ?_⟩
          rw [← e]
          exact touch_putAll (Or.inr (Nat.le_refl _)) _ _ _ _ HTK.out
        case measure => simp [intOf]; omega
      · have hli : ¬ (k : Int) < (l.length : Int) := by omega
        have HEL : Hid (elWords l k = [.int .u32 (num9 k)]) := withMarks_out (by omega)
        have HNM := fun w => num9_any k w hkb
        have hn9 : IntKind.u32.wrap (num9 k) = num9 k := by unfold num9; simp [IntKind.wrap, IntKind.bits, IntKind.signed]; omega
        generalize hN : num9 k = N9 at *
        clear hownk tk hN
        go_wp2_with fail
        refine Calls.mono (HNM _) ?_
        rintro e wx ⟨rfl, rfl⟩
        go_wp2
        go_roundw
        case rel =>
          have HO := own_putAll ([.int .u32 N9]) wr _ (k * 1) 0 HOW.out
          rw [show ([.int .u32 N9]) = elWords l k from (HEL.out).symm, setAll_lay (by decide) (elWords_len l) rfl hlt, show elWords l k = ([.int .u32 N9]) from HEL.out] at HO
          have e : putAll wr w.heap.size (k * 1) [.int .u32 N9] 0 = (wr.setCell ⟨w.heap.size, k, none⟩ (.int .u32 N9)) := by simp [putAll]
          rw [e] at HO
          refine ⟨k + 1, by omega, by go_num, HO, ?_⟩
          rw [← e]
          exact touch_putAll (Or.inr (Nat.le_refl _)) _ _ _ _ HTK.out
        case measure => simp [intOf]; omega
    · obtain rfl : k = l.length + 64 := by omega
      clear tk hownk
      go_wp2
      go_ret
      refine ⟨rfl, ?_, HTK.out⟩
      have := own_wholeV HOW.out
      rwa [layEl_all] at this

set_option maxHeartbeats 1000000 in
theorem spareWords_any (g : Nat) (l : List Int) (w : World) (h : w.heap[g]? = some (.cells (elems (elWords l) (l.length + 64)).toArray 23 (0, 0))) (hcap : l.length ≤ 1000000) :
    Calls Tryz.prog 47 #[.slice (some ⟨g, 0, none⟩) l.length (l.length + 64)] w fun e w' => e = .returned (.bool true) ∧ Touch (fun _ => False) w w' := by
  have hc : ∀ j u, (elems (elWords l) (l.length + 64))[j]? = some u → w.cell? ⟨g, j, none⟩ = some u := fun j u hj => by simp only [World.cell?, h, List.getElem?_toArray]; exact hj
  have HC : Hid (∀ j u, (elems (elWords l) (l.length + 64))[j]? = some u → w.cell? ⟨g, j, none⟩ = some u) := hc
  have hgl := lt_of_heap h
  clear h hc
  go_enter Tryz.func47, Tryz.ntmps47
  go_wp2
  go_loopw [4] (fun i wx => ∃ k : Nat, l.length ≤ k ∧ k ≤ l.length + 64 ∧ i = .int .i64 k ∧ Touch (fun _ => False) w wx) (fun i _ => l.length + 64 - (intOf i).toNat)
  case atStart => exact ⟨l.length, Nat.le_refl _, by omega, rfl, Touch.refl _ _⟩
  case round =>
    obtain ⟨k, hk0, hk, rfl, tk⟩ := hrel
    have HTK : Hid (Touch (fun _ => False) w wr) := tk
    by_cases hlt : k < l.length + 64
    · have hki : (k : Int) < (l.length : Int) + 64 := by omega
      have hkb : k ≤ 2000000 := by omega
      have HNM := fun w => num9_any k w hkb
      have hn9 : IntKind.u32.wrap (num9 k) = num9 k := by unfold num9; simp [IntKind.wrap, IntKind.bits, IntKind.signed]; omega
      have cx0 : wr.cell? ⟨g, k, none⟩ = some (.int .u32 (num9 k)) := by
        have e := HTK.out.cellN (HC.out (k * 1 + 0) (.int .u32 (num9 k)) (by rw [elems_at (elWords_len l) hlt (by omega), show elWords l k = mkWords k from withMarks_out hk0]; rfl))
        simpa using e
      generalize hN : num9 k = N9 at *
      clear hN
      clear tk
      go_wp2_with fail
      refine Calls.mono (HNM _) ?_
      rintro e wx ⟨rfl, rfl⟩
      go_wp2
      go_roundw
      case rel => exact ⟨k + 1, by omega, by omega, by go_num, HTK.out⟩
      case measure => simp [intOf]; omega
    · obtain rfl : k = l.length + 64 := by omega
      go_wp2
      go_ret
      exact ⟨rfl, HTK.out⟩
def mkLinks (i : Nat) : List Value := [.int .u32 (num9 i), .int .u32 0, .int .u8 0, .int .u16 0]
theorem mkLinks_len (i : Nat) : (mkLinks i).length = 4 := rfl
def fLinks : LV → List Value := LV.cells
theorem fLinks_len (x : LV) : (fLinks x).length = 4 := rfl
theorem fLinks_all (l : List LV) : l.flatMap fLinks = linksC l := by rfl
abbrev elLinks (l : List LV) : Nat → List Value := withMarks fLinks l mkLinks
theorem elLinks_len (l : List LV) (i : Nat) : (elLinks l i).length = 4 := withMarks_len fLinks_len mkLinks_len i

set_option maxHeartbeats 1000000 in
theorem wideLinks_any (v : Value) (l : List LV) (w : World) (h : LinksAt w v l) (hcap : l.length ≤ 1000000) :
    Calls Tryz.prog 33 #[v] w fun e w' => e = .returned (.slice (some ⟨w.heap.size, 0, none⟩) l.length (l.length + 64)) ∧
      w'.heap[w.heap.size]? = some (.cells (elems (elLinks l) (l.length + 64)).toArray 120 (0, 0)) ∧ Touch (fun _ => False) w w' := by
  obtain ⟨i0, hi, hz0, hz1, hz2⟩ := info_parts Tryz.infoL
  obtain ⟨aa, ca, rfl, hm⟩ := ValsAt.form h
  unfold maxLen at hm
  have HV' : Hid (LinksAt w (.slice aa l.length ca) l) := h
  clear h
  have hn0 : (0 : Int) ≤ (l.length : Int) + 64 := by omega
  go_enter Tryz.func33, Tryz.ntmps33
  go_wp2_with (at_make; refine wpList_make_full _ rfl (.tmp 7) (.tmp 7) 26 rfl w.heap.size 120 i0 (.agg #[.int .u32 0, .int .u32 0, .int .u8 0, .int .u16 0]) 4 Tryz.underlying26 hi hz0 hz1 .i64 .i64 _ _ (l.length + 64) rfl rfl ?c1 ?c2 ?c3 ?c4 ?c5 ?_)
  case c1 => omega
  case c2 => omega
  case c3 => rw [hz2]; omega
  case c4 => unfold maxLen; omega
  case c5 => exact Nat.le_refl _
  intro w1 hown hgrow
  have t1 : Touch (fun _ => False) w w1 := (Touch.refl _ w).grown hgrow (by simp)
  have emd : (madeCells #[.int .u32 0, .int .u32 0, .int .u8 0, .int .u16 0] ((l.length + 64) * 4)).toList = elems (layEl (elLinks l) [.int .u32 0, .int .u32 0, .int .u8 0, .int .u16 0] 0) (l.length + 64) := by
    have e := madeV (.agg #[.int .u32 0, .int .u32 0, .int .u8 0, .int .u16 0]) [.int .u32 0, .int .u32 0, .int .u8 0, .int .u16 0] rfl (by decide) (l.length + 64) (elLinks l)
    simp only [List.length_cons, List.length_nil, Nat.zero_add] at e
    exact e
  rw [emd] at hown
  have HOWN : Hid (w1.ownsRow w.heap.size 120 4 (.slice (some ⟨w.heap.size, 0, none⟩) (l.length + 64) (l.length + 64)) (l.length + 64) (elems (layEl (elLinks l) [.int .u32 0, .int .u32 0, .int .u8 0, .int .u16 0] 0) (l.length + 64))) := hown
  have HT1 : Hid (Touch (fun _ => False) w w1) := t1
  clear hgrow hown t1 hi hz0 hz1 hz2
  go_wp2
  go_loopw [4] (fun i wr => ∃ k : Nat, k ≤ l.length + 64 ∧ i = .int .i64 k ∧ wr.ownsRow w.heap.size 120 4 (.slice (some ⟨w.heap.size, 0, none⟩) (l.length + 64) (l.length + 64)) (l.length + 64) (elems (layEl (elLinks l) [.int .u32 0, .int .u32 0, .int .u8 0, .int .u16 0] k) (l.length + 64)) ∧ Touch (fun _ => False) w wr) (fun i _ => l.length + 64 - (intOf i).toNat)
  case atStart => exact ⟨0, Nat.zero_le _, rfl, HOWN.out, HT1.out⟩
  case round =>
    obtain ⟨k, hk, rfl, hownk, tk⟩ := hrel
    have HOW : Hid (wr.ownsRow w.heap.size 120 4 (.slice (some ⟨w.heap.size, 0, none⟩) (l.length + 64) (l.length + 64)) (l.length + 64) (elems (layEl (elLinks l) [.int .u32 0, .int .u32 0, .int .u8 0, .int .u16 0] k) (l.length + 64))) := hownk
    have HTK : Hid (Touch (fun _ => False) w wr) := tk
    by_cases hlt : k < l.length + 64
    · have hki : (k : Int) < (l.length : Int) + 64 := by omega
      have hkb : k ≤ 2000000 := by omega
      have cz0 : wr.cell? ⟨w.heap.size, k * 4, none⟩ = some (.int .u32 0) := by
        have e := hownk.cellAt (k * 4 + 0) (by omega)
        rw [elems_at (layEl_len (elLinks_len l) rfl k) hlt (by omega)] at e
        simpa [layEl] using e
      have fz0 : wr.frozen? ⟨w.heap.size, k * 4, none⟩ = false := by
        have e := hownk.frozenAt (k * 4 + 0)
        simpa using e
      have cz1 : wr.cell? ⟨w.heap.size, k * 4 + 1, none⟩ = some (.int .u32 0) := by
        have e := hownk.cellAt (k * 4 + 1) (by omega)
        rw [elems_at (layEl_len (elLinks_len l) rfl k) hlt (by omega)] at e
        simpa [layEl] using e
      have fz1 : wr.frozen? ⟨w.heap.size, k * 4 + 1, none⟩ = false := by
        have e := hownk.frozenAt (k * 4 + 1)
        simpa using e
      have cz2 : wr.cell? ⟨w.heap.size, k * 4 + 2, none⟩ = some (.int .u8 0) := by
        have e := hownk.cellAt (k * 4 + 2) (by omega)
        rw [elems_at (layEl_len (elLinks_len l) rfl k) hlt (by omega)] at e
        simpa [layEl] using e
      have fz2 : wr.frozen? ⟨w.heap.size, k * 4 + 2, none⟩ = false := by
        have e := hownk.frozenAt (k * 4 + 2)
        simpa using e
      have cz3 : wr.cell? ⟨w.heap.size, k * 4 + 3, none⟩ = some (.int .u16 0) := by
        have e := hownk.cellAt (k * 4 + 3) (by omega)
        rw [elems_at (layEl_len (elLinks_len l) rfl k) hlt (by omega)] at e
        simpa [layEl] using e
      have fz3 : wr.frozen? ⟨w.heap.size, k * 4 + 3, none⟩ = false := by
        have e := hownk.frozenAt (k * 4 + 3)
        simpa using e
      by_cases hl : k < l.length
      · have hli : (k : Int) < (l.length : Int) := by omega
        obtain ⟨x, hx⟩ : ∃ x, l[k]? = some x := ⟨l[k], by simp [hl]⟩
        obtain ⟨ga, oa, _, ea, -, -, za⟩ := ValsAt.cells HV'.out (by omega) (by omega)
        cases ea
        have cx0 : wr.cell? ⟨ga, oa + k * 4, none⟩ = some (.int .u32 x.id) := by
          have e := za (k * 4 + 0) (.int .u32 x.id) (by rw [← fLinks_all, ← withMarks_take (mk := mkLinks), elems_at (elLinks_len l) hl (by omega), show elLinks l k = fLinks x from withMarks_in hx]; rfl)
          have e2 := HTK.out.cellN e
          simpa [Nat.add_assoc] using e2
        have cx1 : wr.cell? ⟨ga, oa + k * 4 + 1, none⟩ = some (.int .u32 x.data) := by
          have e := za (k * 4 + 1) (.int .u32 x.data) (by rw [← fLinks_all, ← withMarks_take (mk := mkLinks), elems_at (elLinks_len l) hl (by omega), show elLinks l k = fLinks x from withMarks_in hx]; rfl)
          have e2 := HTK.out.cellN e
          simpa [Nat.add_assoc] using e2
        have cx2 : wr.cell? ⟨ga, oa + k * 4 + 2, none⟩ = some (.int .u8 x.typ) := by
          have e := za (k * 4 + 2) (.int .u8 x.typ) (by rw [← fLinks_all, ← withMarks_take (mk := mkLinks), elems_at (elLinks_len l) hl (by omega), show elLinks l k = fLinks x from withMarks_in hx]; rfl)
          have e2 := HTK.out.cellN e
          simpa [Nat.add_assoc] using e2
        have cx3 : wr.cell? ⟨ga, oa + k * 4 + 3, none⟩ = some (.int .u16 x.cost) := by
          have e := za (k * 4 + 3) (.int .u16 x.cost) (by rw [← fLinks_all, ← withMarks_take (mk := mkLinks), elems_at (elLinks_len l) hl (by omega), show elLinks l k = fLinks x from withMarks_in hx]; rfl)
          have e2 := HTK.out.cellN e
          simpa [Nat.add_assoc] using e2
        have HEL : Hid (elLinks l k = [.int .u32 x.id, .int .u32 x.data, .int .u8 x.typ, .int .u16 x.cost]) := withMarks_in hx
        clear za hx hownk tk
        go_wp2
        go_roundw
        case rel =>
          have HO := own_putAll ([.int .u32 x.id, .int .u32 x.data, .int .u8 x.typ, .int .u16 x.cost]) wr _ (k * 4) 0 HOW.out
          rw [show ([.int .u32 x.id, .int .u32 x.data, .int .u8 x.typ, .int .u16 x.cost]) = elLinks l k from (HEL.out).symm, setAll_lay (by decide) (elLinks_len l) rfl hlt, show elLinks l k = ([.int .u32 x.id, .int .u32 x.data, .int .u8 x.typ, .int .u16 x.cost]) from HEL.out] at HO
          have e : putAll wr w.heap.size (k * 4) [.int .u32 x.id, .int .u32 x.data, .int .u8 x.typ, .int .u16 x.cost] 0 = ((((wr.setCell ⟨w.heap.size, k * 4, none⟩ (.int .u32 x.id)).setCell ⟨w.heap.size, k * 4 + 1, none⟩ (.int .u32 x.data)).setCell ⟨w.heap.size, k * 4 + 2, none⟩ (.int .u8 x.typ)).setCell ⟨w.heap.size, k * 4 + 3, none⟩ (.int .u16 x.cost)) := by simp [putAll]
          rw [e] at HO
          refine ⟨k + 1, by omega, by go_num, HO, ?_⟩
          rw [← e]
          exact touch_putAll (Or.inr (Nat.le_refl _)) _ _ _ _ HTK.out
        case measure => simp [intOf]; omega
      · have hli : ¬ (k : Int) < (l.length : Int) := by omega
        have HEL : Hid (elLinks l k = [.int .u32 (num9 k), .int .u32 0, .int .u8 0, .int .u16 0]) := withMarks_out (by omega)
        have HNM := fun w => num9_any k w hkb
        have hn9 : IntKind.u32.wrap (num9 k) = num9 k := by unfold num9; simp [IntKind.wrap, IntKind.bits, IntKind.signed]; omega
        generalize hN : num9 k = N9 at *
        clear hownk tk hN
        go_wp2_with fail
        refine Calls.mono (HNM _) ?_
        rintro e wx ⟨rfl, rfl⟩
        go_wp2
        go_roundw
        case rel =>
          have HO := own_putAll ([.int .u32 N9, .int .u32 0, .int .u8 0, .int .u16 0]) wr _ (k * 4) 0 HOW.out
          rw [show ([.int .u32 N9, .int .u32 0, .int .u8 0, .int .u16 0]) = elLinks l k from (HEL.out).symm, setAll_lay (by decide) (elLinks_len l) rfl hlt, show elLinks l k = ([.int .u32 N9, .int .u32 0, .int .u8 0, .int .u16 0]) from HEL.out] at HO
          have e : putAll wr w.heap.size (k * 4) [.int .u32 N9, .int .u32 0, .int .u8 0, .int .u16 0] 0 = ((((wr.setCell ⟨w.heap.size, k * 4, none⟩ (.int .u32 N9)).setCell ⟨w.heap.size, k * 4 + 1, none⟩ (.int .u32 0)).setCell ⟨w.heap.size, k * 4 + 2, none⟩ (.int .u8 0)).setCell ⟨w.heap.size, k * 4 + 3, none⟩ (.int .u16 0)) := by simp [putAll]
          rw [e] at HO
          refine ⟨k + 1, by omega, by go_num, HO, ?_⟩
          rw [← e]
          exact touch_putAll (Or.inr (Nat.le_refl _)) _ _ _ _ HTK.out
        case measure => simp [intOf]; omega
    · obtain rfl : k = l.length + 64 := by omega
      clear tk hownk
      go_wp2
      go_ret
      refine ⟨rfl, ?_, HTK.out⟩
      have := own_wholeV HOW.out
      rwa [layEl_all] at this

set_option maxHeartbeats 1000000 in
theorem spareLinks_any (g : Nat) (l : List LV) (w : World) (h : w.heap[g]? = some (.cells (elems (elLinks l) (l.length + 64)).toArray 120 (0, 0))) (hcap : l.length ≤ 1000000) :
    Calls Tryz.prog 46 #[.slice (some ⟨g, 0, none⟩) l.length (l.length + 64)] w fun e w' => e = .returned (.bool true) ∧ Touch (fun _ => False) w w' := by
  have hc : ∀ j u, (elems (elLinks l) (l.length + 64))[j]? = some u → w.cell? ⟨g, j, none⟩ = some u := fun j u hj => by simp only [World.cell?, h, List.getElem?_toArray]; exact hj
  have HC : Hid (∀ j u, (elems (elLinks l) (l.length + 64))[j]? = some u → w.cell? ⟨g, j, none⟩ = some u) := hc
  have hgl := lt_of_heap h
  clear h hc
  go_enter Tryz.func46, Tryz.ntmps46
  go_wp2
  go_loopw [4] (fun i wx => ∃ k : Nat, l.length ≤ k ∧ k ≤ l.length + 64 ∧ i = .int .i64 k ∧ Touch (fun _ => False) w wx) (fun i _ => l.length + 64 - (intOf i).toNat)
  case atStart => exact ⟨l.length, Nat.le_refl _, by omega, rfl, Touch.refl _ _⟩
  case round =>
    obtain ⟨k, hk0, hk, rfl, tk⟩ := hrel
    have HTK : Hid (Touch (fun _ => False) w wr) := tk
    by_cases hlt : k < l.length + 64
    · have hki : (k : Int) < (l.length : Int) + 64 := by omega
      have hkb : k ≤ 2000000 := by omega
      have HNM := fun w => num9_any k w hkb
      have hn9 : IntKind.u32.wrap (num9 k) = num9 k := by unfold num9; simp [IntKind.wrap, IntKind.bits, IntKind.signed]; omega
      have cx0 : wr.cell? ⟨g, k * 4, none⟩ = some (.int .u32 (num9 k)) := by
        have e := HTK.out.cellN (HC.out (k * 4 + 0) (.int .u32 (num9 k)) (by rw [elems_at (elLinks_len l) hlt (by omega), show elLinks l k = mkLinks k from withMarks_out hk0]; rfl))
        simpa using e
      have cx1 : wr.cell? ⟨g, k * 4 + 1, none⟩ = some (.int .u32 0) := by
        have e := HTK.out.cellN (HC.out (k * 4 + 1) (.int .u32 0) (by rw [elems_at (elLinks_len l) hlt (by omega), show elLinks l k = mkLinks k from withMarks_out hk0]; rfl))
        simpa using e
      have cx2 : wr.cell? ⟨g, k * 4 + 2, none⟩ = some (.int .u8 0) := by
        have e := HTK.out.cellN (HC.out (k * 4 + 2) (.int .u8 0) (by rw [elems_at (elLinks_len l) hlt (by omega), show elLinks l k = mkLinks k from withMarks_out hk0]; rfl))
        simpa using e
      have cx3 : wr.cell? ⟨g, k * 4 + 3, none⟩ = some (.int .u16 0) := by
        have e := HTK.out.cellN (HC.out (k * 4 + 3) (.int .u16 0) (by rw [elems_at (elLinks_len l) hlt (by omega), show elLinks l k = mkLinks k from withMarks_out hk0]; rfl))
        simpa using e
      generalize hN : num9 k = N9 at *
      clear hN
      clear tk
      go_upto_region 6 with fail
      have y0 : (wr.alloc (.cells #[.int .u32 N9, .int .u32 0, .int .u8 0, .int .u16 0] 120)).cell? ⟨wr.heap.size, 0, none⟩ = some (.int .u32 N9) := by simp [go_sem]
      have HT2 : Hid (Touch (fun _ => False) w (wr.alloc (.cells #[.int .u32 N9, .int .u32 0, .int .u8 0, .int .u16 0] 120))) := HTK.out.alloc _
      have y1 : (wr.alloc (.cells #[.int .u32 N9, .int .u32 0, .int .u8 0, .int .u16 0] 120)).cell? ⟨wr.heap.size, 1, none⟩ = some (.int .u32 0) := by simp [go_sem]
      have y2 : (wr.alloc (.cells #[.int .u32 N9, .int .u32 0, .int .u8 0, .int .u16 0] 120)).cell? ⟨wr.heap.size, 2, none⟩ = some (.int .u8 0) := by simp [go_sem]
      have y3 : (wr.alloc (.cells #[.int .u32 N9, .int .u32 0, .int .u8 0, .int .u16 0] 120)).cell? ⟨wr.heap.size, 3, none⟩ = some (.int .u16 0) := by simp [go_sem]
      generalize wr.alloc (.cells #[.int .u32 N9, .int .u32 0, .int .u8 0, .int .u16 0] 120) = wy at *
      generalize wr.heap.size = gy at *
      have st : Since wy wy.drew := Since.start wy
      have z0 := since_cell y0
      have z1 := since_cell y1
      have z2 := since_cell y2
      have z3 := since_cell y3
      clear y0 y1 y2 y3
      go_region_held3 (fun w' => Since wy w') (with_reducible assumption) (first
        | (go_at_call 89; refine Calls.mono (HNM _) ?_; rintro e wx ⟨rfl, rfl⟩))
      go_wp2
      go_roundw
      case rel => exact ⟨k + 1, by omega, by omega, by go_num, HT2.out.drew⟩
      case measure => simp [intOf]; omega
    · obtain rfl : k = l.length + 64 := by omega
      go_wp2
      go_ret
      exact ⟨rfl, HTK.out⟩
end Go.Proofs.YthdkihnmeoacaaaGreatDoor
