/- Packets copied. -/
import Derived.Test.YtjgeklipeeooaaaGreatDoorPkRows
import Derived.Test.YtjgeklipeeooaaaGreatDoorPkDec
import Derived.Test.YtjgeklipeeooaaaGreatDoorStaOut
import Derived.Test.YtjgeklipeeooaaaGreatDoorReader
import Derived.Test.YtjgeklipeeooaaaGreatDoorStRead3
import Derived.Deep.RegionHeld3
import Derived.Deep.DeepCutAuto
namespace Go.Proofs.YtjgeklipeeooaaaGreatDoor
open Go.RowKit
set_option linter.unusedVariables false
set_option maxRecDepth 100000

/-- Lengths that a copy bears. -/
structure PkC.Ln (C : PkC) : Prop where
  n : C.nb.length ≤ 1000000
  d : C.dh.length ≤ 1000000
  k : C.ks.length ≤ 1000000
  h : C.hs.length ≤ 1000000
theorem POwn.at_ {base : Nat} {w : World} {C : PkC} {vn vd vk vs vh : Value} (h : POwn base w C vn vd vk vs vh) (ok : C.Ok) : PkAt w C vn vd vk vs vh := by
  obtain ⟨l, h1, h2, h3⟩ := h.s
  refine ⟨own_vals h.n, own_vals h.d, own_vals h.k, ⟨l, h1, own_vals h2, fun x hx => ?_⟩, own_vals h.h⟩
  have hm : x.p ∈ C.ss := by rw [← h1]; exact List.mem_map_of_mem hx
  exact ⟨ok.sh x.p hm, (own_rowAt (h3 x hx)).arg, ok.sb x.p hm⟩
end Go.Proofs.YtjgeklipeeooaaaGreatDoor

namespace Go.Proofs.YtjgeklipeeooaaaGreatDoor
open Go.RowKit
set_option linter.unusedVariables false
set_option maxRecDepth 100000

/-- The cells of L elements. -/
def elems (el : Nat → List Value) (L : Nat) : List Value := (List.range L).flatMap el
theorem elems_succ (el : Nat → List Value) (L : Nat) : elems el (L + 1) = elems el L ++ el L := by simp [elems, List.range_succ]
theorem elems_len {el : Nat → List Value} {k : Nat} (h : ∀ i, (el i).length = k) (L : Nat) : (elems el L).length = L * k := by
  induction L with
  | zero => simp [elems]
  | succ L ih => rw [elems_succ, List.length_append, ih, h, Nat.succ_mul]
theorem elems_at {el : Nat → List Value} {k : Nat} (h : ∀ i, (el i).length = k) {L i c : Nat} (hi : i < L) (hc : c < k) : (elems el L)[i * k + c]? = (el i)[c]? := by
  induction L with
  | zero => omega
  | succ L ih =>
    rw [elems_succ]
    by_cases e : i < L
    · rw [List.getElem?_append_left (by rw [elems_len h]; have := Nat.mul_le_mul_right k (show i + 1 ≤ L by omega); rw [Nat.succ_mul] at this; omega)]
      exact ih e
    · obtain rfl : i = L := by omega
      rw [List.getElem?_append_right (by rw [elems_len h]; omega), elems_len h, Nat.add_sub_cancel_left]
theorem elems_congr {el el' : Nat → List Value} {L : Nat} (h : ∀ i, i < L → el i = el' i) : elems el L = elems el' L := by
  induction L with
  | zero => rfl
  | succ L ih => rw [elems_succ, elems_succ, ih (fun i hi => h i (by omega)), h L (by omega)]
/-- The first j of them are laid, the rest are noughts. -/
def layEl (el : Nat → List Value) (zs : List Value) (j : Nat) : Nat → List Value := fun i => if i < j then el i else zs
theorem layEl_len {el : Nat → List Value} {zs : List Value} {k : Nat} (h : ∀ i, (el i).length = k) (hz : zs.length = k) (j i : Nat) : (layEl el zs j i).length = k := by
  unfold layEl
  split
  · exact h i
  · exact hz
theorem layEl_all (el : Nat → List Value) (zs : List Value) (L : Nat) : elems (layEl el zs L) L = elems el L := elems_congr (fun i hi => by simp [layEl, hi])
def setAll (xs : List Value) (o : Nat) : List Value → Nat → List Value
  | [], _ => xs
  | v :: vs, c => setAll (xs.set (o + c) v) o vs (c + 1)
theorem setAll_len (vs : List Value) : ∀ (xs : List Value) (o c : Nat), (setAll xs o vs c).length = xs.length := by
  induction vs with
  | nil => intro xs o c; rfl
  | cons v vs ih => intro xs o c; rw [setAll, ih, List.length_set]
theorem setAll_get (vs : List Value) : ∀ (xs : List Value) (o c m : Nat), o + c + vs.length ≤ xs.length → (setAll xs o vs c)[m]? = if o + c ≤ m ∧ m < o + c + vs.length then vs[m - (o + c)]? else xs[m]? := by
  induction vs with
  | nil => intro xs o c m _; rw [setAll, if_neg (by rintro ⟨h1, h2⟩; simp only [List.length_nil] at h2; omega)]
  | cons v vs ih =>
    intro xs o c m hl
    simp only [List.length_cons] at hl
    rw [setAll, ih (xs.set (o + c) v) o (c + 1) m (by rw [List.length_set]; omega)]
    by_cases h1 : m = o + c
    · subst h1
      rw [if_neg (by omega), if_pos (by simp), List.getElem?_set, if_pos rfl, if_pos (by omega)]
      simp
    · by_cases h2 : o + (c + 1) ≤ m ∧ m < o + (c + 1) + vs.length
      · rw [if_pos h2, if_pos (by simp; omega), show m - (o + c) = (m - (o + (c + 1))) + 1 by omega, List.getElem?_cons_succ]
      · rw [if_neg h2, if_neg (by simp; omega), List.getElem?_set, if_neg (fun e => h1 e.symm)]
theorem setAll_lay {el : Nat → List Value} {zs : List Value} {k : Nat} (hk : 0 < k) (h : ∀ i, (el i).length = k) (hz : zs.length = k) {L j : Nat} (hj : j < L) :
    setAll (elems (layEl el zs j) L) (j * k) (el j) 0 = elems (layEl el zs (j + 1)) L := by
  have hle : j * k + k ≤ L * k := by have := Nat.mul_le_mul_right k (show j + 1 ≤ L by omega); rw [Nat.succ_mul] at this; exact this
  apply List.ext_getElem?
  intro m
  rw [setAll_get _ _ _ _ _ (by rw [elems_len (layEl_len h hz j), h]; omega), h]
  by_cases hm : m < L * k
  · have hi : m / k < L := Nat.div_lt_of_lt_mul (by rw [Nat.mul_comm]; exact hm)
    have hc : m % k < k := Nat.mod_lt m hk
    have e : m / k * k + m % k = m := by rw [Nat.mul_comm]; exact Nat.div_add_mod m k
    have e1 := elems_at (layEl_len h hz j) hi hc
    have e2 := elems_at (layEl_len h hz (j + 1)) hi hc
    rw [e] at e1 e2
    rw [e1, e2]
    by_cases hq : m / k = j
    · rw [if_pos (by rw [← hq]; omega)]
      have : m - (j * k + 0) = m % k := by rw [← hq]; omega
      rw [this]
      simp [layEl, hq]
    · rw [if_neg ?_]
      · have : (m / k < j + 1) ↔ (m / k < j) := by omega
        simp only [layEl, this]
      · rintro ⟨h1, h2⟩
        apply hq
        refine Nat.le_antisymm (Nat.lt_succ_iff.1 ?_) ?_
        · exact Nat.div_lt_of_lt_mul (by rw [Nat.mul_comm, Nat.succ_mul]; omega)
        · exact (Nat.le_div_iff_mul_le hk).2 (by omega)
  · rw [if_neg (by omega), List.getElem?_eq_none (by rw [elems_len (layEl_len h hz j)]; omega), List.getElem?_eq_none (by rw [elems_len (layEl_len h hz (j + 1))]; omega)]
def putAll (w : World) (g o : Nat) : List Value → Nat → World
  | [], _ => w
  | v :: vs, c => putAll (w.setCell ⟨g, o + c, none⟩ v) g o vs (c + 1)
theorem own_putAll {base e k n cap g : Nat} (vs : List Value) : ∀ (w : World) (xs : List Value) (o c : Nat), w.ownsRow base e k (.slice (some ⟨g, 0, none⟩) n cap) n xs → (putAll w g o vs c).ownsRow base e k (.slice (some ⟨g, 0, none⟩) n cap) n (setAll xs o vs c) := by
  induction vs with
  | nil => intro w xs o c h; exact h
  | cons v vs ih => intro w xs o c h; exact ih _ _ o (c + 1) (h.stored (o + c) v).1
theorem touch_putAll {F : Nat → Prop} {w0 : World} {g : Nat} (hp : F g ∨ w0.heap.size ≤ g) (vs : List Value) : ∀ (w : World) (o c : Nat), Touch F w0 w → Touch F w0 (putAll w g o vs c) := by
  induction vs with
  | nil => intro w o c h; exact h
  | cons v vs ih => intro w o c h; exact ih _ o (c + 1) (Touch.setCell (p := ⟨g, o + c, none⟩) h hp v)
theorem own_wholeV {w : World} {base e k g n : Nat} {xs : List Value} (h : w.ownsRow base e k (.slice (some ⟨g, 0, none⟩) n n) n xs) : w.heap[g]? = some (.cells xs.toArray e (0, 0)) := by
  rcases h.2 with ⟨h, _⟩ | ⟨g', cap, cur, hv, hb, hg, hnc, hcm, hcs, htake⟩
  · simp at h
  · simp at hv
    obtain ⟨rfl, rfl⟩ := hv
    rw [hg, ← htake, List.take_of_length_le (by simp; omega)]
theorem madeV (z : Value) (zs : List Value) (hz : z.cells = zs.toArray) (hk : 0 < zs.length) (n : Nat) (el : Nat → List Value) : (madeCells z.cells (n * zs.length)).toList = elems (layEl el zs 0) n := by
  apply List.ext_getElem?
  intro j
  by_cases hj : j < n * zs.length
  · have hi : j / zs.length < n := Nat.div_lt_of_lt_mul (by rw [Nat.mul_comm]; exact hj)
    have e := elems_at (el := layEl (fun _ => zs) zs 0) (k := zs.length) (fun i => by simp [layEl]) hi (Nat.mod_lt j hk)
    rw [show j / zs.length * zs.length + j % zs.length = j by rw [Nat.mul_comm]; exact Nat.div_add_mod j _] at e
    have hcong : elems (layEl el zs 0) n = elems (layEl (fun _ => zs) zs 0) n := elems_congr (fun i _ => by simp [layEl])
    rw [hcong, e]
    have hm : j % zs.length < zs.length := Nat.mod_lt j hk
    simp [madeCells, hz, layEl, hj, List.getElem?_eq_getElem hm, getElem!_def]
  · have hcong : elems (layEl el zs 0) n = elems (fun _ => zs) n := elems_congr (fun i _ => by simp [layEl])
    have hlen : (elems (fun _ => zs) n).length = n * zs.length := elems_len (fun _ => rfl) n
    rw [hcong, List.getElem?_eq_none (by simp [madeCells]; omega), List.getElem?_eq_none (by omega)]
/-- The elements of a list, and behind them marks. -/
def withMarks {α : Type} (f : α → List Value) (l : List α) (mk : Nat → List Value) : Nat → List Value := fun i => match l[i]? with | some x => f x | none => mk i
theorem withMarks_in {α : Type} {f : α → List Value} {l : List α} {mk : Nat → List Value} {i : Nat} {x : α} (h : l[i]? = some x) : withMarks f l mk i = f x := by simp [withMarks, h]
theorem withMarks_out {α : Type} {f : α → List Value} {l : List α} {mk : Nat → List Value} {i : Nat} (h : l.length ≤ i) : withMarks f l mk i = mk i := by simp [withMarks, List.getElem?_eq_none h]
theorem withMarks_len {α : Type} {f : α → List Value} {l : List α} {mk : Nat → List Value} {k : Nat} (hf : ∀ x, (f x).length = k) (hm : ∀ i, (mk i).length = k) (i : Nat) : (withMarks f l mk i).length = k := by
  unfold withMarks
  split
  · exact hf _
  · exact hm _
theorem withMarks_take {α : Type} {f : α → List Value} {l : List α} {mk : Nat → List Value} : elems (withMarks f l mk) l.length = l.flatMap f := by
  have : ∀ n, n ≤ l.length → elems (withMarks f l mk) n = (l.take n).flatMap f := by
    intro n
    induction n with
    | zero => intro _; simp [elems]
    | succ n ih =>
      intro hn
      have hx : l[n]? = some l[n] := List.getElem?_eq_getElem (by omega)
      rw [elems_succ, ih (by omega), withMarks_in hx, List.take_succ_eq_append_getElem (by omega), List.flatMap_append]
      simp
  rw [this l.length (Nat.le_refl _), List.take_length]
end Go.Proofs.YtjgeklipeeooaaaGreatDoor

namespace Go.Proofs.YtjgeklipeeooaaaGreatDoor
open Go.RowKit
set_option linter.unusedVariables false
set_option maxRecDepth 100000

/-- Nothing of x has turned in w. -/
structure Since (x w : World) : Prop where
  t : Touch (fun _ => False) x w
theorem Since.trans {x w w' : World} (h : Since x w) (t : Touch (fun _ => False) w w') : Since x w' := ⟨h.t.trans t⟩
theorem Since.start (x : World) : Since x x.drew := ⟨(Touch.refl _ _).drew⟩
theorem since_cell {x : World} {p : Addr} {v : Value} (h : x.cell? p = some v) : ∀ w, Since x w → w.cell? p = some v := fun w s => s.t.cellN h
end Go.Proofs.YtjgeklipeeooaaaGreatDoor

namespace Go.Proofs.YtjgeklipeeooaaaGreatDoor
open Go.RowKit
set_option linter.unusedVariables false
set_option maxRecDepth 100000

/-- The mark behind a list, at place i. -/
def num9 (i : Nat) : Int := 9437185 + (i : Int)
theorem num_any (n i : Int) (w : World) (h0 : 0 ≤ n) (h1 : n ≤ 300) (h2 : 0 ≤ i) (h3 : i ≤ 4000000) : Calls Tryz.prog 87 #[.int .i64 n, .int .i64 i] w fun e w' => e = .returned (.int .i64 (1048576 * n + i + 1)) ∧ w = w' := by
  go_enter Tryz.func87, Tryz.ntmps87
  go_wp2
  go_ret
  exact ⟨rfl, rfl⟩
theorem num9_any (i : Nat) (w : World) (h3 : i ≤ 2000000) : Calls Tryz.prog 87 #[.int .i64 9, .int .i64 (i : Int)] w fun e w' => e = .returned (.int .i64 (num9 i)) ∧ w = w' := by
  refine (num_any 9 (i : Int) w (by omega) (by omega) (by omega) (by omega)).mono ?_
  rintro e w' ⟨rfl, rfl⟩
  exact ⟨by unfold num9; rw [show (1048576 * 9 + (i : Int) + 1 : Int) = 9437185 + (i : Int) by omega], rfl⟩
def mkWords (i : Nat) : List Value := [.int .u32 (num9 i)]
theorem mkWords_len (i : Nat) : (mkWords i).length = 1 := rfl
def fWords : Int → List Value := fun x : Int => [Value.int .u32 x]
theorem fWords_len (x : Int) : (fWords x).length = 1 := rfl
theorem fWords_all (l : List Int) : l.flatMap fWords = wordsC l := by unfold fWords wordsC; induction l with | nil => rfl | cons x r ih => simp only [List.flatMap_cons, List.map_cons, ih]; rfl
abbrev elWords (l : List Int) : Nat → List Value := withMarks fWords l mkWords
theorem elWords_len (l : List Int) (i : Nat) : (elWords l i).length = 1 := withMarks_len fWords_len mkWords_len i

set_option maxHeartbeats 1000000 in
theorem wideWords_any (v : Value) (l : List Int) (w : World) (h : WordsAt w v l) (hcap : l.length ≤ 1000000) :
    Calls Tryz.prog 86 #[v] w fun e w' => e = .returned (.slice (some ⟨w.heap.size, 0, none⟩) l.length (l.length + 64)) ∧
      w'.heap[w.heap.size]? = some (.cells (elems (elWords l) (l.length + 64)).toArray 22 (0, 0)) ∧ Touch (fun _ => False) w w' := by
  obtain ⟨i0, hi, hz0, hz1, hz2⟩ := info_parts Tryz.infoU
  obtain ⟨aa, ca, rfl, hm⟩ := ValsAt.form h
  unfold maxLen at hm
  have HV' : Hid (WordsAt w (.slice aa l.length ca) l) := h
  clear h
  have hn0 : (0 : Int) ≤ (l.length : Int) + 64 := by omega
  go_enter Tryz.func86, Tryz.ntmps86
  go_wp2_with (at_make; refine wpList_make_full _ rfl (.tmp 7) (.tmp 7) 24 rfl w.heap.size 22 i0 (.int .u32 0) 1 Tryz.underlying24 hi hz0 hz1 .i64 .i64 _ _ (l.length + 64) rfl rfl ?c1 ?c2 ?c3 ?c4 ?c5 ?_)
  case c1 => omega
  case c2 => omega
  case c3 => rw [hz2]; omega
  case c4 => unfold maxLen; omega
  case c5 => exact Nat.le_refl _
  intro w1 hown hgrow
  have t1 : Touch (fun _ => False) w w1 := (Touch.refl _ w).grown hgrow (by simp)
  have emd : (madeCells #[.int .u32 0] (l.length + 64)).toList = elems (layEl (elWords l) [.int .u32 0] 0) (l.length + 64) := by
    have e := madeV (.int .u32 0) [.int .u32 0] rfl (by decide) (l.length + 64) (elWords l)
    simp only [List.length_cons, List.length_nil, Nat.zero_add, Nat.mul_one] at e
    exact e
  rw [emd] at hown
  have HOWN : Hid (w1.ownsRow w.heap.size 22 1 (.slice (some ⟨w.heap.size, 0, none⟩) (l.length + 64) (l.length + 64)) (l.length + 64) (elems (layEl (elWords l) [.int .u32 0] 0) (l.length + 64))) := hown
  have HT1 : Hid (Touch (fun _ => False) w w1) := t1
  clear hgrow hown t1 hi hz0 hz1 hz2
  go_wp2
  go_loopw [4] (fun i wr => ∃ k : Nat, k ≤ l.length + 64 ∧ i = .int .i64 k ∧ wr.ownsRow w.heap.size 22 1 (.slice (some ⟨w.heap.size, 0, none⟩) (l.length + 64) (l.length + 64)) (l.length + 64) (elems (layEl (elWords l) [.int .u32 0] k) (l.length + 64)) ∧ Touch (fun _ => False) w wr) (fun i _ => l.length + 64 - (intOf i).toNat)
  case atStart => exact ⟨0, Nat.zero_le _, rfl, HOWN.out, HT1.out⟩
  case round =>
    obtain ⟨k, hk, rfl, hownk, tk⟩ := hrel
    have HOW : Hid (wr.ownsRow w.heap.size 22 1 (.slice (some ⟨w.heap.size, 0, none⟩) (l.length + 64) (l.length + 64)) (l.length + 64) (elems (layEl (elWords l) [.int .u32 0] k) (l.length + 64))) := hownk
    have HTK : Hid (Touch (fun _ => False) w wr) := tk
    by_cases hlt : k < l.length + 64
    · have hki : (k : Int) < (l.length : Int) + 64 := by omega
      have hkb : k ≤ 2000000 := by omega
      have cz0 : wr.cell? ⟨w.heap.size, k, none⟩ = some (.int .u32 0) := by
        have e := hownk.cellAt (k * 1 + 0) (by omega)
        rw [elems_at (layEl_len (elWords_len l) rfl k) hlt (by omega)] at e
        simpa [layEl] using e
      have fz0 : wr.frozen? ⟨w.heap.size, k, none⟩ = false := by
        have e := hownk.frozenAt (k * 1 + 0)
        simpa using e
      by_cases hl : k < l.length
      · have hli : (k : Int) < (l.length : Int) := by omega
        obtain ⟨x, hx⟩ : ∃ x, l[k]? = some x := ⟨l[k], by simp [hl]⟩
        obtain ⟨ga, oa, _, ea, -, -, za⟩ := ValsAt.cells HV'.out (by omega) (by omega)
        cases ea
        have cx0 : wr.cell? ⟨ga, oa + k, none⟩ = some (.int .u32 x) := by
          have e := za (k * 1 + 0) (.int .u32 x) (by rw [← fWords_all, ← withMarks_take (mk := mkWords), elems_at (elWords_len l) hl (by omega), show elWords l k = fWords x from withMarks_in hx]; rfl)
          have e2 := HTK.out.cellN e
          simpa [Nat.add_assoc] using e2
        have HEL : Hid (elWords l k = [.int .u32 x]) := withMarks_in hx
        clear za hx hownk tk
        go_wp2
        go_roundw
        case rel =>
          have HO := own_putAll ([.int .u32 x]) wr _ (k * 1) 0 HOW.out
          rw [show ([.int .u32 x]) = elWords l k from (HEL.out).symm, setAll_lay (by decide) (elWords_len l) rfl hlt, show elWords l k = ([.int .u32 x]) from HEL.out] at HO
          have e : putAll wr w.heap.size (k * 1) [.int .u32 x] 0 = (wr.setCell ⟨w.heap.size, k, none⟩ (.int .u32 x)) := by simp [putAll]
          rw [e] at HO
          refine ⟨k + 1, by omega, by go_num, HO, ?_⟩
          rw [← e]
          exact touch_putAll (Or.inr (Nat.le_refl _)) _ _ _ _ HTK.out
        case measure => simp [intOf]; omega
      · have hli : ¬ (k : Int) < (l.length : Int) := by omega
        have HEL : Hid (elWords l k = [.int .u32 (num9 k)]) := withMarks_out (by omega)
        have HNM := fun w => num9_any k w hkb
        have hn9 : IntKind.u32.wrap (num9 k) = num9 k := by unfold num9; simp [IntKind.wrap, IntKind.bits, IntKind.signed]; omega
        generalize hN : num9 k = N9 at *
        clear hownk tk hN
        go_wp2_with fail
        refine Calls.mono (HNM _) ?_
        rintro e wx ⟨rfl, rfl⟩
        go_wp2
        go_roundw
        case rel =>
          have HO := own_putAll ([.int .u32 N9]) wr _ (k * 1) 0 HOW.out
          rw [show ([.int .u32 N9]) = elWords l k from (HEL.out).symm, setAll_lay (by decide) (elWords_len l) rfl hlt, show elWords l k = ([.int .u32 N9]) from HEL.out] at HO
          have e : putAll wr w.heap.size (k * 1) [.int .u32 N9] 0 = (wr.setCell ⟨w.heap.size, k, none⟩ (.int .u32 N9)) := by simp [putAll]
          rw [e] at HO
          refine ⟨k + 1, by omega, by go_num, HO, ?_⟩
          rw [← e]
          exact touch_putAll (Or.inr (Nat.le_refl _)) _ _ _ _ HTK.out
        case measure => simp [intOf]; omega
    · obtain rfl : k = l.length + 64 := by omega
      clear tk hownk
      go_wp2
      go_ret
      refine ⟨rfl, ?_, HTK.out⟩
      have := own_wholeV HOW.out
      rwa [layEl_all] at this

set_option maxHeartbeats 1000000 in
theorem spareWords_any (g : Nat) (l : List Int) (w : World) (h : w.heap[g]? = some (.cells (elems (elWords l) (l.length + 64)).toArray 22 (0, 0))) (hcap : l.length ≤ 1000000) :
    Calls Tryz.prog 107 #[.slice (some ⟨g, 0, none⟩) l.length (l.length + 64)] w fun e w' => e = .returned (.bool true) ∧ Touch (fun _ => False) w w' := by
  have hc : ∀ j u, (elems (elWords l) (l.length + 64))[j]? = some u → w.cell? ⟨g, j, none⟩ = some u := fun j u hj => by simp only [World.cell?, h, List.getElem?_toArray]; exact hj
  have HC : Hid (∀ j u, (elems (elWords l) (l.length + 64))[j]? = some u → w.cell? ⟨g, j, none⟩ = some u) := hc
  have hgl := lt_of_heap h
  clear h hc
  go_enter Tryz.func107, Tryz.ntmps107
  go_wp2
  go_loopw [4] (fun i wx => ∃ k : Nat, l.length ≤ k ∧ k ≤ l.length + 64 ∧ i = .int .i64 k ∧ Touch (fun _ => False) w wx) (fun i _ => l.length + 64 - (intOf i).toNat)
  case atStart => exact ⟨l.length, Nat.le_refl _, by omega, rfl, Touch.refl _ _⟩
  case round =>
    obtain ⟨k, hk0, hk, rfl, tk⟩ := hrel
    have HTK : Hid (Touch (fun _ => False) w wr) := tk
    by_cases hlt : k < l.length + 64
    · have hki : (k : Int) < (l.length : Int) + 64 := by omega
      have hkb : k ≤ 2000000 := by omega
      have HNM := fun w => num9_any k w hkb
      have hn9 : IntKind.u32.wrap (num9 k) = num9 k := by unfold num9; simp [IntKind.wrap, IntKind.bits, IntKind.signed]; omega
      have cx0 : wr.cell? ⟨g, k, none⟩ = some (.int .u32 (num9 k)) := by
        have e := HTK.out.cellN (HC.out (k * 1 + 0) (.int .u32 (num9 k)) (by rw [elems_at (elWords_len l) hlt (by omega), show elWords l k = mkWords k from withMarks_out hk0]; rfl))
        simpa using e
      generalize hN : num9 k = N9 at *
      clear hN
      clear tk
      go_wp2_with fail
      refine Calls.mono (HNM _) ?_
      rintro e wx ⟨rfl, rfl⟩
      go_wp2
      go_roundw
      case rel => exact ⟨k + 1, by omega, by omega, by go_num, HTK.out⟩
      case measure => simp [intOf]; omega
    · obtain rfl : k = l.length + 64 := by omega
      go_wp2
      go_ret
      exact ⟨rfl, HTK.out⟩
end Go.Proofs.YtjgeklipeeooaaaGreatDoor
