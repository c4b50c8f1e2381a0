/- Rows of states with marks behind them: WideStates, SpareStates. -/
import Derived.Test.YtjgeklipeeooaaaGreatDoorWideHK
import Derived.Test.YtjgeklipeeooaaaGreatDoorStWideS
import Derived.Test.YtjgeklipeeooaaaGreatDoorPkUpd
import Derived.Test.YtjgeklipeeooaaaGreatDoorPkRu
import Derived.Test.YtjgeklipeeooaaaGreatDoorCutB
import Derived.Deep.LoopGhost
namespace Go.Proofs.YtjgeklipeeooaaaGreatDoor
open Go.RowKit
set_option linter.unusedVariables false
set_option maxRecDepth 100000

theorem elems_more (el : Nat → List Value) (n : Nat) : ∀ m, ∃ r, elems el (n + m) = elems el n ++ r
  | 0 => ⟨[], by simp⟩
  | m + 1 => by
    obtain ⟨r, h⟩ := elems_more el n m
    exact ⟨r ++ el (n + m), by rw [← Nat.add_assoc, elems_succ, h, List.append_assoc]⟩
/-- A row with marks behind it is a row of one's own. -/
theorem own_blk {α : Type} {f : α → List Value} {l : List α} {mk : Nat → List Value} {k m e base : Nat} (hk : 0 < k) (hf : ∀ x, (f x).length = k) (hm : ∀ i, (mk i).length = k) {w : World} {g : Nat} (h : w.heap[g]? = some (.cells (elems (withMarks f l mk) (l.length + m)).toArray e (0, 0))) (hb : base ≤ g) (hl : l.length + m ≤ maxLen) :
    w.ownsRow base e k (.slice (some ⟨g, 0, none⟩) l.length (l.length + m)) l.length (l.flatMap f) := by
  have hlen : (l.flatMap f).length = l.length * k := by rw [← withMarks_take (mk := mk)]; exact elems_len (withMarks_len hf hm) _
  obtain ⟨r, hr⟩ := elems_more (withMarks f l mk) l.length m
  refine ⟨hlen, Or.inr ⟨g, l.length + m, _, rfl, hb, h, by omega, hl, by rw [List.size_toArray, elems_len (withMarks_len hf hm)], ?_⟩⟩
  rw [hr, withMarks_take]
  simp [hlen]
theorem own_wide8 {w : World} {g base : Nat} {rs : List Int} (h : w.heap[g]? = some (.cells (bytesOf (rs ++ spareMarks rs.length)).toArray 5 (0, 0))) (hb : base ≤ g) (hl : rs.length ≤ 1000000) : w.ownsRow base 5 1 (.slice (some ⟨g, 0, none⟩) rs.length (rs.length + 64)) rs.length (bytesOf rs) := by
  refine ⟨by simp [bytesOf], Or.inr ⟨g, rs.length + 64, _, rfl, hb, h, by omega, by unfold maxLen; omega, by simp [bytesOf, length_spareMarks], ?_⟩⟩
  rw [bytesOf_append]
  simp [bytesOf]
/-- A block with these cells, not ahead of base. -/
structure WB1 (w : World) (base b T : Nat) (cs : List Value) : Prop where
  g : base ≤ b
  h : w.heap[b]? = some (.cells cs.toArray T (0, 0))
theorem WB1.touch {F : Nat → Prop} {w w' : World} {base b T : Nat} {cs : List Value} (h : WB1 w base b T cs) (t : Touch F w w') (hF : ¬ F b) : WB1 w' base b T cs := ⟨h.1, (t.block b (lt_of_heap h.2) hF).trans h.2⟩
theorem WB1.low {w : World} {base base' b T : Nat} {cs : List Value} (h : WB1 w base b T cs) (hb : base' ≤ base) : WB1 w base' b T cs := ⟨Nat.le_trans hb h.1, h.2⟩
/-- A state whose body has marks behind it. -/
def WSt (w : World) (base : Nat) (x : SE) : Prop := ∃ b, x.v = .slice (some ⟨b, 0, none⟩) x.rs.length (x.rs.length + 64) ∧ WB1 w base b 5 (bytesOf (x.rs ++ spareMarks x.rs.length))
theorem WSt.touch {F : Nat → Prop} {w w' : World} {base : Nat} {x : SE} (h : WSt w base x) (t : Touch F w w') (hF : ∀ k, base ≤ k → ¬ F k) : WSt w' base x := by
  obtain ⟨b, e, h1⟩ := h
  exact ⟨b, e, h1.touch t (hF b h1.1)⟩
theorem WSt.low {w : World} {base base' : Nat} {x : SE} (h : WSt w base x) (hb : base' ≤ base) : WSt w base' x := by
  obtain ⟨b, e, h1⟩ := h
  exact ⟨b, e, h1.low hb⟩
def mkStates (i : Nat) : List Value := [.int .u16 0, .int .u8 0, .int .u8 0, .int .u32 (num9 i), .int .u32 0, .int .i32 0, .int .u16 0, .int .u16 0, .slice none 0 0]
theorem mkStates_len (i : Nat) : (mkStates i).length = 9 := rfl
theorem fStates_len (x : SE) : (SE.cells x).length = 9 := rfl
abbrev elStates (l : List SE) : Nat → List Value := withMarks SE.cells l mkStates
theorem elStates_len (l : List SE) (i : Nat) : (elStates l i).length = 9 := withMarks_len fStates_len mkStates_len i
theorem layStates_snoc (l : List SE) (x : SE) (zs : List Value) : layEl (elStates (l ++ [x])) zs l.length = layEl (elStates l) zs l.length := by
  funext i
  unfold layEl
  by_cases h : i < l.length
  · rw [if_pos h, if_pos h]
    unfold elStates withMarks
    rw [List.getElem?_append_left h]
  · rw [if_neg h, if_neg h]
theorem elStates_at (l : List SE) (x : SE) : elStates (l ++ [x]) l.length = x.cells := withMarks_in (by simp)
set_option maxHeartbeats 4000000 in
theorem wideStates_any (v : Value) (ks : List SE) (w : World) (hv : StatesAt w v ks) (hn : ks.length ≤ 1000000) (hr : ∀ x ∈ ks, x.rs.length ≤ 1000000) :
    Calls Tryz.prog 31 #[v] w fun e w' => ∃ l : List SE, l.map SE.p = ks.map SE.p ∧ e = .returned (.slice (some ⟨w.heap.size, 0, none⟩) ks.length (ks.length + 64)) ∧
      WB1 w' w.heap.size w.heap.size 95 (elems (elStates l) (l.length + 64)) ∧ (∀ x ∈ l, WSt w' (w.heap.size + 1) x) ∧ Touch (fun _ => False) w w' := by
  obtain ⟨i0, hi, hz0, hz1, hz2⟩ := info_parts Tryz.infoS9
  obtain ⟨aa, ca, rfl, hm⟩ := ValsAt.form hv.vals
  unfold maxLen at hm
  have HV' : Hid (∀ w', Touch (fun _ => False) w w' → StatesAt w' (.slice aa ks.length ca) ks) := fun w' t => hv.keep t
  have HR : Hid (∀ x ∈ ks, x.rs.length ≤ 1000000) := hr
  clear hv hr
  have hn0 : (0 : Int) ≤ (ks.length : Int) + 64 := by omega
  go_enter Tryz.func31, Tryz.ntmps31
  go_wp2_with (at_make; refine wpList_make_full _ rfl (.tmp 7) (.tmp 7) 31 rfl w.heap.size 95 i0 (.agg #[.int .u16 0, .int .u8 0, .int .u8 0, .int .u32 0, .int .u32 0, .int .i32 0, .int .u16 0, .int .u16 0, .slice none 0 0]) 9 Tryz.underlying31 hi hz0 hz1 .i64 .i64 _ _ (ks.length + 64) rfl rfl ?c1 ?c2 ?c3 ?c4 ?c5 ?_)
  case c1 => omega
  case c2 => omega
  case c3 => rw [hz2]; omega
  case c4 => unfold maxLen; omega
  case c5 => exact Nat.le_refl _
  intro w1 hown hgrow
  have t1 : Touch (fun _ => False) w w1 := (Touch.refl _ w).grown hgrow (by simp)
  have emd : (madeCells #[.int .u16 0, .int .u8 0, .int .u8 0, .int .u32 0, .int .u32 0, .int .i32 0, .int .u16 0, .int .u16 0, .slice none 0 0] ((ks.length + 64) * 9)).toList = elems (layEl (elStates []) [.int .u16 0, .int .u8 0, .int .u8 0, .int .u32 0, .int .u32 0, .int .i32 0, .int .u16 0, .int .u16 0, .slice none 0 0] 0) (ks.length + 64) := by
    have e := madeV (.agg #[.int .u16 0, .int .u8 0, .int .u8 0, .int .u32 0, .int .u32 0, .int .i32 0, .int .u16 0, .int .u16 0, .slice none 0 0]) [.int .u16 0, .int .u8 0, .int .u8 0, .int .u32 0, .int .u32 0, .int .i32 0, .int .u16 0, .int .u16 0, .slice none 0 0] rfl (by decide) (ks.length + 64) (elStates [])
    simp only [List.length_cons, List.length_nil, Nat.zero_add] at e
    exact e
  rw [emd] at hown
  have HOWN : Hid (w1.ownsRow w.heap.size 95 9 (.slice (some ⟨w.heap.size, 0, none⟩) (ks.length + 64) (ks.length + 64)) (ks.length + 64) (elems (layEl (elStates []) [.int .u16 0, .int .u8 0, .int .u8 0, .int .u32 0, .int .u32 0, .int .i32 0, .int .u16 0, .int .u16 0, .slice none 0 0] 0) (ks.length + 64))) := hown
  have HT1 : Hid (Touch (fun _ => False) w w1) := t1
  have HSZ1 : Hid (w.heap.size < w1.heap.size) := by
    obtain ⟨g, cap, cur, e1, _, e3, _⟩ := (hown.2.resolve_left (fun h => by cases h.1))
    cases e1
    exact lt_of_heap e3
  clear hgrow hown t1 hi hz0 hz1 hz2 emd
  go_wp2
  go_loopw [4] (fun i wr => ∃ (k : Nat) (l : List SE), k ≤ ks.length + 64 ∧ i = .int .i64 k ∧ l.map SE.p = (ks.map SE.p).take k ∧ wr.ownsRow w.heap.size 95 9 (.slice (some ⟨w.heap.size, 0, none⟩) (ks.length + 64) (ks.length + 64)) (ks.length + 64) (elems (layEl (elStates l) [.int .u16 0, .int .u8 0, .int .u8 0, .int .u32 0, .int .u32 0, .int .i32 0, .int .u16 0, .int .u16 0, .slice none 0 0] k) (ks.length + 64)) ∧ (∀ x ∈ l, WSt wr (w.heap.size + 1) x) ∧ w.heap.size < wr.heap.size ∧ Touch (fun _ => False) w wr) (fun i _ => ks.length + 64 - (intOf i).toNat)
  case atStart => exact ⟨0, [], Nat.zero_le _, rfl, by simp, HOWN.out, (fun x hx => by cases hx), HSZ1.out, HT1.out⟩
  case round =>
    clear HOWN HT1 HSZ1
    obtain ⟨k, l, hk, rfl, hlk, hownk, hws, hsz, tk⟩ := hrel
    have HOW : Hid (wr.ownsRow w.heap.size 95 9 (.slice (some ⟨w.heap.size, 0, none⟩) (ks.length + 64) (ks.length + 64)) (ks.length + 64) (elems (layEl (elStates l) [.int .u16 0, .int .u8 0, .int .u8 0, .int .u32 0, .int .u32 0, .int .i32 0, .int .u16 0, .int .u16 0, .slice none 0 0] k) (ks.length + 64))) := hownk
    have HTK : Hid (Touch (fun _ => False) w wr) := tk
    have HWS : Hid (∀ x ∈ l, WSt wr (w.heap.size + 1) x) := hws
    have HSZ : Hid (w.heap.size < wr.heap.size) := hsz
    have HLK : Hid (l.map SE.p = (ks.map SE.p).take k) := hlk
    have HLN : Hid (l.length = min k ks.length) := by
      have := congrArg List.length hlk
      show l.length = min k ks.length
      simpa using this
    clear hws hsz hlk
    by_cases hlt : k < ks.length + 64
    · have hki : (k : Int) < (ks.length : Int) + 64 := by omega
      have hkb : k ≤ 2000000 := by omega
      by_cases hl : k < ks.length
      · have hli : (k : Int) < (ks.length : Int) := by omega
        obtain ⟨x, hx⟩ : ∃ x, ks[k]? = some x := ⟨ks[k], by simp [hl]⟩
        obtain ⟨ox, gR, off, cR, eR, hcell⟩ := StatesAt.one (HV'.out wr HTK.out) hx
        cases eR
        obtain ⟨xa, xc, hxv, -⟩ := ox.arg.form
        have cx0 : wr.cell? ⟨gR, off + k * 9, none⟩ = some (.int .u16 x.h.age) := by exact hcell 0 _ rfl
        have cx1 : wr.cell? ⟨gR, off + k * 9 + 1, none⟩ = some (.int .u8 x.h.opts) := by rw [Nat.add_assoc]; exact hcell 1 _ rfl
        have cx2 : wr.cell? ⟨gR, off + k * 9 + 2, none⟩ = some (.int .u8 x.h.typ) := by rw [Nat.add_assoc]; exact hcell 2 _ rfl
        have cx3 : wr.cell? ⟨gR, off + k * 9 + 3, none⟩ = some (.int .u32 x.h.id) := by rw [Nat.add_assoc]; exact hcell 3 _ rfl
        have cx4 : wr.cell? ⟨gR, off + k * 9 + 4, none⟩ = some (.int .u32 x.h.adv) := by rw [Nat.add_assoc]; exact hcell 4 _ rfl
        have cx5 : wr.cell? ⟨gR, off + k * 9 + 5, none⟩ = some (.int .i32 x.h.seq) := by rw [Nat.add_assoc]; exact hcell 5 _ rfl
        have cx6 : wr.cell? ⟨gR, off + k * 9 + 6, none⟩ = some (.int .u16 x.h.sum) := by rw [Nat.add_assoc]; exact hcell 6 _ rfl
        have cx7 : wr.cell? ⟨gR, off + k * 9 + 7, none⟩ = some (.int .u16 x.h.len) := by rw [Nat.add_assoc]; exact hcell 7 _ rfl
        have cx8 : wr.cell? ⟨gR, off + k * 9 + 8, none⟩ = some (x.v) := by rw [Nat.add_assoc]; exact hcell 8 _ rfl
        have HWT := wstate_any x.h x.v x.rs wr ox.arg ox.byte (HR.out x (List.mem_of_getElem? hx))
        unfold HV.sv at HWT
        have HX : Hid (ks[k]? = some x) := hx
        clear hcell hx ox hownk tk hxv
        go_wp2_with fail
        refine Calls.mono HWT ?_
        rintro e w2 ⟨rfl, hb2, t2⟩
        generalize hyb : wr.heap.size + 2 = yb at hb2 ⊢
        have HYB : Hid (wr.heap.size + 2 = yb) := hyb
        have H2 : Hid (w2.ownsRow w.heap.size 95 9 (.slice (some ⟨w.heap.size, 0, none⟩) (ks.length + 64) (ks.length + 64)) (ks.length + 64) (elems (layEl (elStates l) [.int .u16 0, .int .u8 0, .int .u8 0, .int .u32 0, .int .u32 0, .int .i32 0, .int .u16 0, .int .u16 0, .slice none 0 0] k) (ks.length + 64))) := own_touch HOW.out t2 (fun _ _ h => h)
        have T2 : Hid (Touch (fun _ => False) wr w2) := t2
        have HB2 : Hid (w2.heap[yb]? = some (.cells (bytesOf (x.rs ++ spareMarks x.rs.length)).toArray 5 (0, 0))) := hb2
        clear hb2 t2 hyb HWT cx0 cx1 cx2 cx3 cx4 cx5 cx6 cx7 cx8
        have cz0 : w2.cell? ⟨w.heap.size, k * 9, none⟩ = some (.int .u16 0) := by
          have e := H2.out.cellAt (k * 9 + 0) (by omega)
          rw [elems_at (layEl_len (elStates_len l) rfl k) hlt (by omega)] at e
          simpa [layEl] using e
        have fz0 : w2.frozen? ⟨w.heap.size, k * 9, none⟩ = false := by
          have e := H2.out.frozenAt (k * 9 + 0)
          simpa using e
        have cz1 : w2.cell? ⟨w.heap.size, k * 9 + 1, none⟩ = some (.int .u8 0) := by
          have e := H2.out.cellAt (k * 9 + 1) (by omega)
          rw [elems_at (layEl_len (elStates_len l) rfl k) hlt (by omega)] at e
          simpa [layEl] using e
        have fz1 : w2.frozen? ⟨w.heap.size, k * 9 + 1, none⟩ = false := by
          have e := H2.out.frozenAt (k * 9 + 1)
          simpa using e
        have cz2 : w2.cell? ⟨w.heap.size, k * 9 + 2, none⟩ = some (.int .u8 0) := by
          have e := H2.out.cellAt (k * 9 + 2) (by omega)
          rw [elems_at (layEl_len (elStates_len l) rfl k) hlt (by omega)] at e
          simpa [layEl] using e
        have fz2 : w2.frozen? ⟨w.heap.size, k * 9 + 2, none⟩ = false := by
          have e := H2.out.frozenAt (k * 9 + 2)
          simpa using e
        have cz3 : w2.cell? ⟨w.heap.size, k * 9 + 3, none⟩ = some (.int .u32 0) := by
          have e := H2.out.cellAt (k * 9 + 3) (by omega)
          rw [elems_at (layEl_len (elStates_len l) rfl k) hlt (by omega)] at e
          simpa [layEl] using e
        have fz3 : w2.frozen? ⟨w.heap.size, k * 9 + 3, none⟩ = false := by
          have e := H2.out.frozenAt (k * 9 + 3)
          simpa using e
        have cz4 : w2.cell? ⟨w.heap.size, k * 9 + 4, none⟩ = some (.int .u32 0) := by
          have e := H2.out.cellAt (k * 9 + 4) (by omega)
          rw [elems_at (layEl_len (elStates_len l) rfl k) hlt (by omega)] at e
          simpa [layEl] using e
        have fz4 : w2.frozen? ⟨w.heap.size, k * 9 + 4, none⟩ = false := by
          have e := H2.out.frozenAt (k * 9 + 4)
          simpa using e
        have cz5 : w2.cell? ⟨w.heap.size, k * 9 + 5, none⟩ = some (.int .i32 0) := by
          have e := H2.out.cellAt (k * 9 + 5) (by omega)
          rw [elems_at (layEl_len (elStates_len l) rfl k) hlt (by omega)] at e
          simpa [layEl] using e
        have fz5 : w2.frozen? ⟨w.heap.size, k * 9 + 5, none⟩ = false := by
          have e := H2.out.frozenAt (k * 9 + 5)
          simpa using e
        have cz6 : w2.cell? ⟨w.heap.size, k * 9 + 6, none⟩ = some (.int .u16 0) := by
          have e := H2.out.cellAt (k * 9 + 6) (by omega)
          rw [elems_at (layEl_len (elStates_len l) rfl k) hlt (by omega)] at e
          simpa [layEl] using e
        have fz6 : w2.frozen? ⟨w.heap.size, k * 9 + 6, none⟩ = false := by
          have e := H2.out.frozenAt (k * 9 + 6)
          simpa using e
        have cz7 : w2.cell? ⟨w.heap.size, k * 9 + 7, none⟩ = some (.int .u16 0) := by
          have e := H2.out.cellAt (k * 9 + 7) (by omega)
          rw [elems_at (layEl_len (elStates_len l) rfl k) hlt (by omega)] at e
          simpa [layEl] using e
        have fz7 : w2.frozen? ⟨w.heap.size, k * 9 + 7, none⟩ = false := by
          have e := H2.out.frozenAt (k * 9 + 7)
          simpa using e
        have cz8 : w2.cell? ⟨w.heap.size, k * 9 + 8, none⟩ = some (.slice none 0 0) := by
          have e := H2.out.cellAt (k * 9 + 8) (by omega)
          rw [elems_at (layEl_len (elStates_len l) rfl k) hlt (by omega)] at e
          simpa [layEl] using e
        have fz8 : w2.frozen? ⟨w.heap.size, k * 9 + 8, none⟩ = false := by
          have e := H2.out.frozenAt (k * 9 + 8)
          simpa using e
        clear HOW
        go_wp2
        go_roundw
        case rel =>
          have hll : l.length = k := by have := HLN.out; omega
          have HO := own_putAll ([.int .u16 x.h.age, .int .u8 x.h.opts, .int .u8 x.h.typ, .int .u32 x.h.id, .int .u32 x.h.adv, .int .i32 x.h.seq, .int .u16 x.h.sum, .int .u16 x.h.len, .slice (some ⟨yb, 0, none⟩) x.rs.length (x.rs.length + 64)]) w2 _ (k * 9) 0 H2.out
          have hel : elStates (l ++ [⟨x.h, .slice (some ⟨yb, 0, none⟩) x.rs.length (x.rs.length + 64), x.rs⟩]) k = [.int .u16 x.h.age, .int .u8 x.h.opts, .int .u8 x.h.typ, .int .u32 x.h.id, .int .u32 x.h.adv, .int .i32 x.h.seq, .int .u16 x.h.sum, .int .u16 x.h.len, .slice (some ⟨yb, 0, none⟩) x.rs.length (x.rs.length + 64)] := by rw [← hll]; exact elStates_at l ⟨x.h, .slice (some ⟨yb, 0, none⟩) x.rs.length (x.rs.length + 64), x.rs⟩
          have hlay : layEl (elStates l) [.int .u16 0, .int .u8 0, .int .u8 0, .int .u32 0, .int .u32 0, .int .i32 0, .int .u16 0, .int .u16 0, .slice none 0 0] k = layEl (elStates (l ++ [⟨x.h, .slice (some ⟨yb, 0, none⟩) x.rs.length (x.rs.length + 64), x.rs⟩])) [.int .u16 0, .int .u8 0, .int .u8 0, .int .u32 0, .int .u32 0, .int .i32 0, .int .u16 0, .int .u16 0, .slice none 0 0] k := by rw [← hll]; exact (layStates_snoc l _ _).symm
          rw [hlay, show ([.int .u16 x.h.age, .int .u8 x.h.opts, .int .u8 x.h.typ, .int .u32 x.h.id, .int .u32 x.h.adv, .int .i32 x.h.seq, .int .u16 x.h.sum, .int .u16 x.h.len, .slice (some ⟨yb, 0, none⟩) x.rs.length (x.rs.length + 64)] : List Value) = elStates (l ++ [⟨x.h, .slice (some ⟨yb, 0, none⟩) x.rs.length (x.rs.length + 64), x.rs⟩]) k from hel.symm, setAll_lay (by decide) (elStates_len _) rfl hlt, hel] at HO
          have e : putAll w2 w.heap.size (k * 9) [.int .u16 x.h.age, .int .u8 x.h.opts, .int .u8 x.h.typ, .int .u32 x.h.id, .int .u32 x.h.adv, .int .i32 x.h.seq, .int .u16 x.h.sum, .int .u16 x.h.len, .slice (some ⟨yb, 0, none⟩) x.rs.length (x.rs.length + 64)] 0 = (((((((((w2.setCell ⟨w.heap.size, k * 9, none⟩ (.int .u16 x.h.age)).setCell ⟨w.heap.size, k * 9 + 1, none⟩ (.int .u8 x.h.opts)).setCell ⟨w.heap.size, k * 9 + 2, none⟩ (.int .u8 x.h.typ)).setCell ⟨w.heap.size, k * 9 + 3, none⟩ (.int .u32 x.h.id)).setCell ⟨w.heap.size, k * 9 + 4, none⟩ (.int .u32 x.h.adv)).setCell ⟨w.heap.size, k * 9 + 5, none⟩ (.int .i32 x.h.seq)).setCell ⟨w.heap.size, k * 9 + 6, none⟩ (.int .u16 x.h.sum)).setCell ⟨w.heap.size, k * 9 + 7, none⟩ (.int .u16 x.h.len)).setCell ⟨w.heap.size, k * 9 + 8, none⟩ (.slice (some ⟨yb, 0, none⟩) x.rs.length (x.rs.length + 64))) := by simp [putAll]
          rw [e] at HO
          have UT : Touch (fun k => k = w.heap.size) w2 (((((((((w2.setCell ⟨w.heap.size, k * 9, none⟩ (.int .u16 x.h.age)).setCell ⟨w.heap.size, k * 9 + 1, none⟩ (.int .u8 x.h.opts)).setCell ⟨w.heap.size, k * 9 + 2, none⟩ (.int .u8 x.h.typ)).setCell ⟨w.heap.size, k * 9 + 3, none⟩ (.int .u32 x.h.id)).setCell ⟨w.heap.size, k * 9 + 4, none⟩ (.int .u32 x.h.adv)).setCell ⟨w.heap.size, k * 9 + 5, none⟩ (.int .i32 x.h.seq)).setCell ⟨w.heap.size, k * 9 + 6, none⟩ (.int .u16 x.h.sum)).setCell ⟨w.heap.size, k * 9 + 7, none⟩ (.int .u16 x.h.len)).setCell ⟨w.heap.size, k * 9 + 8, none⟩ (.slice (some ⟨yb, 0, none⟩) x.rs.length (x.rs.length + 64))) := by
            rw [← e]
            exact touch_putAll (F := fun k => k = w.heap.size) (Or.inl rfl) _ _ _ _ (Touch.refl _ _)
          have zs := HSZ.out
          have zy := HYB.out
          refine ⟨k + 1, l ++ [⟨x.h, .slice (some ⟨yb, 0, none⟩) x.rs.length (x.rs.length + 64), x.rs⟩], by omega, by go_num, ?_, HO, ?_, ?_, ?_⟩
          · rw [List.map_append, HLK.out, List.take_add_one, List.getElem?_map, HX.out]
            rfl
          · intro z hz
            rcases List.mem_append.1 hz with hz | hz
            · exact ((HWS.out z hz).touch T2.out (fun _ _ f => f)).touch UT (fun j hj e => by omega)
            · obtain rfl := List.mem_singleton.1 hz
              exact ⟨yb, rfl, (WB1.mk (by omega) HB2.out).touch UT (fun e => by omega)⟩
          · have h1 := T2.out.size; have h2 := UT.size; omega
          · exact (HTK.out.trans T2.out).trans' UT (fun i hi e => by omega)
        case measure => simp [intOf]; omega
      · have hli : ¬ (k : Int) < (ks.length : Int) := by omega
        have hll : l.length = ks.length := by have := HLN.out; omega
        have HEL : Hid (elStates l k = [.int .u16 0, .int .u8 0, .int .u8 0, .int .u32 (num9 k), .int .u32 0, .int .i32 0, .int .u16 0, .int .u16 0, .slice none 0 0]) := withMarks_out (by omega)
        have HNM := fun w => num9_any k w hkb
        have hn9 : IntKind.u32.wrap (num9 k) = num9 k := by unfold num9; simp [IntKind.wrap, IntKind.bits, IntKind.signed]; omega
        have cz0 : wr.cell? ⟨w.heap.size, k * 9, none⟩ = some (.int .u16 0) := by
          have e := HOW.out.cellAt (k * 9 + 0) (by omega)
          rw [elems_at (layEl_len (elStates_len l) rfl k) hlt (by omega)] at e
          simpa [layEl] using e
        have fz0 : wr.frozen? ⟨w.heap.size, k * 9, none⟩ = false := by
          have e := HOW.out.frozenAt (k * 9 + 0)
          simpa using e
        have cz1 : wr.cell? ⟨w.heap.size, k * 9 + 1, none⟩ = some (.int .u8 0) := by
          have e := HOW.out.cellAt (k * 9 + 1) (by omega)
          rw [elems_at (layEl_len (elStates_len l) rfl k) hlt (by omega)] at e
          simpa [layEl] using e
        have fz1 : wr.frozen? ⟨w.heap.size, k * 9 + 1, none⟩ = false := by
          have e := HOW.out.frozenAt (k * 9 + 1)
          simpa using e
        have cz2 : wr.cell? ⟨w.heap.size, k * 9 + 2, none⟩ = some (.int .u8 0) := by
          have e := HOW.out.cellAt (k * 9 + 2) (by omega)
          rw [elems_at (layEl_len (elStates_len l) rfl k) hlt (by omega)] at e
          simpa [layEl] using e
        have fz2 : wr.frozen? ⟨w.heap.size, k * 9 + 2, none⟩ = false := by
          have e := HOW.out.frozenAt (k * 9 + 2)
          simpa using e
        have cz3 : wr.cell? ⟨w.heap.size, k * 9 + 3, none⟩ = some (.int .u32 0) := by
          have e := HOW.out.cellAt (k * 9 + 3) (by omega)
          rw [elems_at (layEl_len (elStates_len l) rfl k) hlt (by omega)] at e
          simpa [layEl] using e
        have fz3 : wr.frozen? ⟨w.heap.size, k * 9 + 3, none⟩ = false := by
          have e := HOW.out.frozenAt (k * 9 + 3)
          simpa using e
        have cz4 : wr.cell? ⟨w.heap.size, k * 9 + 4, none⟩ = some (.int .u32 0) := by
          have e := HOW.out.cellAt (k * 9 + 4) (by omega)
          rw [elems_at (layEl_len (elStates_len l) rfl k) hlt (by omega)] at e
          simpa [layEl] using e
        have fz4 : wr.frozen? ⟨w.heap.size, k * 9 + 4, none⟩ = false := by
          have e := HOW.out.frozenAt (k * 9 + 4)
          simpa using e
        have cz5 : wr.cell? ⟨w.heap.size, k * 9 + 5, none⟩ = some (.int .i32 0) := by
          have e := HOW.out.cellAt (k * 9 + 5) (by omega)
          rw [elems_at (layEl_len (elStates_len l) rfl k) hlt (by omega)] at e
          simpa [layEl] using e
        have fz5 : wr.frozen? ⟨w.heap.size, k * 9 + 5, none⟩ = false := by
          have e := HOW.out.frozenAt (k * 9 + 5)
          simpa using e
        have cz6 : wr.cell? ⟨w.heap.size, k * 9 + 6, none⟩ = some (.int .u16 0) := by
          have e := HOW.out.cellAt (k * 9 + 6) (by omega)
          rw [elems_at (layEl_len (elStates_len l) rfl k) hlt (by omega)] at e
          simpa [layEl] using e
        have fz6 : wr.frozen? ⟨w.heap.size, k * 9 + 6, none⟩ = false := by
          have e := HOW.out.frozenAt (k * 9 + 6)
          simpa using e
        have cz7 : wr.cell? ⟨w.heap.size, k * 9 + 7, none⟩ = some (.int .u16 0) := by
          have e := HOW.out.cellAt (k * 9 + 7) (by omega)
          rw [elems_at (layEl_len (elStates_len l) rfl k) hlt (by omega)] at e
          simpa [layEl] using e
        have fz7 : wr.frozen? ⟨w.heap.size, k * 9 + 7, none⟩ = false := by
          have e := HOW.out.frozenAt (k * 9 + 7)
          simpa using e
        have cz8 : wr.cell? ⟨w.heap.size, k * 9 + 8, none⟩ = some (.slice none 0 0) := by
          have e := HOW.out.cellAt (k * 9 + 8) (by omega)
          rw [elems_at (layEl_len (elStates_len l) rfl k) hlt (by omega)] at e
          simpa [layEl] using e
        have fz8 : wr.frozen? ⟨w.heap.size, k * 9 + 8, none⟩ = false := by
          have e := HOW.out.frozenAt (k * 9 + 8)
          simpa using e
        generalize hN : num9 k = N9 at *
        have HLL : Hid (l.length = ks.length) := hll
        clear hownk tk hN hll
        go_wp2_with fail
        refine Calls.mono (HNM _) ?_
        rintro e wx ⟨rfl, rfl⟩
        go_wp2
        go_roundw
        case rel =>
          have HO := own_putAll ([.int .u16 0, .int .u8 0, .int .u8 0, .int .u32 N9, .int .u32 0, .int .i32 0, .int .u16 0, .int .u16 0, .slice none 0 0]) wr _ (k * 9) 0 HOW.out
          rw [show ([.int .u16 0, .int .u8 0, .int .u8 0, .int .u32 N9, .int .u32 0, .int .i32 0, .int .u16 0, .int .u16 0, .slice none 0 0] : List Value) = elStates l k from HEL.out.symm, setAll_lay (by decide) (elStates_len _) rfl hlt, HEL.out] at HO
          have e : putAll wr w.heap.size (k * 9) [.int .u16 0, .int .u8 0, .int .u8 0, .int .u32 N9, .int .u32 0, .int .i32 0, .int .u16 0, .int .u16 0, .slice none 0 0] 0 = (((((((((wr.setCell ⟨w.heap.size, k * 9, none⟩ (.int .u16 0)).setCell ⟨w.heap.size, k * 9 + 1, none⟩ (.int .u8 0)).setCell ⟨w.heap.size, k * 9 + 2, none⟩ (.int .u8 0)).setCell ⟨w.heap.size, k * 9 + 3, none⟩ (.int .u32 N9)).setCell ⟨w.heap.size, k * 9 + 4, none⟩ (.int .u32 0)).setCell ⟨w.heap.size, k * 9 + 5, none⟩ (.int .i32 0)).setCell ⟨w.heap.size, k * 9 + 6, none⟩ (.int .u16 0)).setCell ⟨w.heap.size, k * 9 + 7, none⟩ (.int .u16 0)).setCell ⟨w.heap.size, k * 9 + 8, none⟩ (.slice none 0 0)) := by simp [putAll]
          rw [e] at HO
          have UT : Touch (fun k => k = w.heap.size) wr (((((((((wr.setCell ⟨w.heap.size, k * 9, none⟩ (.int .u16 0)).setCell ⟨w.heap.size, k * 9 + 1, none⟩ (.int .u8 0)).setCell ⟨w.heap.size, k * 9 + 2, none⟩ (.int .u8 0)).setCell ⟨w.heap.size, k * 9 + 3, none⟩ (.int .u32 N9)).setCell ⟨w.heap.size, k * 9 + 4, none⟩ (.int .u32 0)).setCell ⟨w.heap.size, k * 9 + 5, none⟩ (.int .i32 0)).setCell ⟨w.heap.size, k * 9 + 6, none⟩ (.int .u16 0)).setCell ⟨w.heap.size, k * 9 + 7, none⟩ (.int .u16 0)).setCell ⟨w.heap.size, k * 9 + 8, none⟩ (.slice none 0 0)) := by
            rw [← e]
            exact touch_putAll (F := fun k => k = w.heap.size) (Or.inl rfl) _ _ _ _ (Touch.refl _ _)
          have zs := HSZ.out
          refine ⟨k + 1, l, by omega, by go_num, ?_, HO, ?_, ?_, ?_⟩
          · rw [HLK.out, List.take_of_length_le (by simp; omega), List.take_of_length_le (by simp; omega)]
          · intro z hz
            exact (HWS.out z hz).touch UT (fun j hj e => by omega)
          · have h2 := UT.size; omega
          · exact HTK.out.trans' UT (fun i hi e => by omega)
        case measure => simp [intOf]; omega
    · obtain rfl : k = ks.length + 64 := by omega
      clear tk hownk
      go_wp2
      go_ret
      have hll : l.length = ks.length := by have := HLN.out; omega
      refine ⟨l, ?_, rfl, ⟨Nat.le_refl _, ?_⟩, HWS.out, HTK.out⟩
      · rw [HLK.out, List.take_of_length_le (by simp)]
      · have := own_wholeV HOW.out
        rw [layEl_all] at this
        rw [hll]
        exact this
set_option maxHeartbeats 4000000 in
theorem spareStates_any (g : Nat) (l : List SE) (w : World) (h : w.heap[g]? = some (.cells (elems (elStates l) (l.length + 64)).toArray 95 (0, 0))) (hs : ∀ x ∈ l, WSt w 0 x) (hcap : l.length ≤ 1000000) (hr : ∀ x ∈ l, x.rs.length ≤ 1000000) :
    Calls Tryz.prog 50 #[.slice (some ⟨g, 0, none⟩) l.length (l.length + 64)] w fun e w' => e = .returned (.bool true) ∧ Touch (fun _ => False) w w' := by
  have hc : ∀ j u, (elems (elStates l) (l.length + 64))[j]? = some u → w.cell? ⟨g, j, none⟩ = some u := fun j u hj => by simp only [World.cell?, h, List.getElem?_toArray]; exact hj
  have HC : Hid (∀ j u, (elems (elStates l) (l.length + 64))[j]? = some u → w.cell? ⟨g, j, none⟩ = some u) := hc
  have HS : Hid (∀ x ∈ l, WSt w 0 x) := hs
  have HR : Hid (∀ x ∈ l, x.rs.length ≤ 1000000) := hr
  have hgl := lt_of_heap h
  clear h hc hs hr
  go_enter Tryz.func50, Tryz.ntmps50
  go_wp2
  go_loopw [4] (fun i wx => ∃ k : Nat, l.length ≤ k ∧ k ≤ l.length + 64 ∧ i = .int .i64 k ∧ Touch (fun _ => False) w wx) (fun i _ => l.length + 64 - (intOf i).toNat)
  case atStart => exact ⟨l.length, Nat.le_refl _, by omega, rfl, Touch.refl _ _⟩
  case round =>
    obtain ⟨k, hk0, hk, rfl, tk⟩ := hrel
    have HTK : Hid (Touch (fun _ => False) w wr) := tk
    by_cases hlt : k < l.length + 64
    · have hki : (k : Int) < (l.length : Int) + 64 := by omega
      have hkb : k ≤ 2000000 := by omega
      have HNM : ∀ w', Calls Tryz.prog 87 #[.int .i64 9, .int .i64 (k : Int)] w' fun e w'' => e = .returned (.int .i64 (num9 k)) ∧ Touch (fun _ => False) w' w'' := fun w' => (num9_any k w' hkb).mono (fun e w'' ⟨h1, h2⟩ => ⟨h1, h2 ▸ Touch.refl _ _⟩)
      have hn9 : IntKind.u32.wrap (num9 k) = num9 k := by unfold num9; simp [IntKind.wrap, IntKind.bits, IntKind.signed]; omega
      have cx0 : wr.cell? ⟨g, k * 9, none⟩ = some (.int .u16 0) := by
        have e := HTK.out.cellN (HC.out (k * 9 + 0) (.int .u16 0) (by rw [elems_at (elStates_len l) hlt (by omega), show elStates l k = mkStates k from withMarks_out hk0]; rfl))
        simpa using e
      have cx1 : wr.cell? ⟨g, k * 9 + 1, none⟩ = some (.int .u8 0) := by
        have e := HTK.out.cellN (HC.out (k * 9 + 1) (.int .u8 0) (by rw [elems_at (elStates_len l) hlt (by omega), show elStates l k = mkStates k from withMarks_out hk0]; rfl))
        simpa using e
      have cx2 : wr.cell? ⟨g, k * 9 + 2, none⟩ = some (.int .u8 0) := by
        have e := HTK.out.cellN (HC.out (k * 9 + 2) (.int .u8 0) (by rw [elems_at (elStates_len l) hlt (by omega), show elStates l k = mkStates k from withMarks_out hk0]; rfl))
        simpa using e
      have cx3 : wr.cell? ⟨g, k * 9 + 3, none⟩ = some (.int .u32 (num9 k)) := by
        have e := HTK.out.cellN (HC.out (k * 9 + 3) (.int .u32 (num9 k)) (by rw [elems_at (elStates_len l) hlt (by omega), show elStates l k = mkStates k from withMarks_out hk0]; rfl))
        simpa using e
      have cx4 : wr.cell? ⟨g, k * 9 + 4, none⟩ = some (.int .u32 0) := by
        have e := HTK.out.cellN (HC.out (k * 9 + 4) (.int .u32 0) (by rw [elems_at (elStates_len l) hlt (by omega), show elStates l k = mkStates k from withMarks_out hk0]; rfl))
        simpa using e
      have cx5 : wr.cell? ⟨g, k * 9 + 5, none⟩ = some (.int .i32 0) := by
        have e := HTK.out.cellN (HC.out (k * 9 + 5) (.int .i32 0) (by rw [elems_at (elStates_len l) hlt (by omega), show elStates l k = mkStates k from withMarks_out hk0]; rfl))
        simpa using e
      have cx6 : wr.cell? ⟨g, k * 9 + 6, none⟩ = some (.int .u16 0) := by
        have e := HTK.out.cellN (HC.out (k * 9 + 6) (.int .u16 0) (by rw [elems_at (elStates_len l) hlt (by omega), show elStates l k = mkStates k from withMarks_out hk0]; rfl))
        simpa using e
      have cx7 : wr.cell? ⟨g, k * 9 + 7, none⟩ = some (.int .u16 0) := by
        have e := HTK.out.cellN (HC.out (k * 9 + 7) (.int .u16 0) (by rw [elems_at (elStates_len l) hlt (by omega), show elStates l k = mkStates k from withMarks_out hk0]; rfl))
        simpa using e
      have cx8 : wr.cell? ⟨g, k * 9 + 8, none⟩ = some (.slice none 0 0) := by
        have e := HTK.out.cellN (HC.out (k * 9 + 8) (.slice none 0 0) (by rw [elems_at (elStates_len l) hlt (by omega), show elStates l k = mkStates k from withMarks_out hk0]; rfl))
        simpa using e
      generalize hN : num9 k = N9 at *
      clear hN tk
      go_upto_region 6 with fail
      have HT2 : Hid (Touch (fun _ => False) w (wr.alloc (.cells #[.int .u16 0, .int .u8 0, .int .u8 0, .int .u32 N9, .int .u32 0, .int .i32 0, .int .u16 0, .int .u16 0, .slice none 0 0] 95))) := HTK.out.alloc _
      have y0 : (wr.alloc (.cells #[.int .u16 0, .int .u8 0, .int .u8 0, .int .u32 N9, .int .u32 0, .int .i32 0, .int .u16 0, .int .u16 0, .slice none 0 0] 95)).cell? ⟨wr.heap.size, 0, none⟩ = some (.int .u16 0) := by simp [go_sem]
      have y1 : (wr.alloc (.cells #[.int .u16 0, .int .u8 0, .int .u8 0, .int .u32 N9, .int .u32 0, .int .i32 0, .int .u16 0, .int .u16 0, .slice none 0 0] 95)).cell? ⟨wr.heap.size, 1, none⟩ = some (.int .u8 0) := by simp [go_sem]
      have y2 : (wr.alloc (.cells #[.int .u16 0, .int .u8 0, .int .u8 0, .int .u32 N9, .int .u32 0, .int .i32 0, .int .u16 0, .int .u16 0, .slice none 0 0] 95)).cell? ⟨wr.heap.size, 2, none⟩ = some (.int .u8 0) := by simp [go_sem]
      have y3 : (wr.alloc (.cells #[.int .u16 0, .int .u8 0, .int .u8 0, .int .u32 N9, .int .u32 0, .int .i32 0, .int .u16 0, .int .u16 0, .slice none 0 0] 95)).cell? ⟨wr.heap.size, 3, none⟩ = some (.int .u32 N9) := by simp [go_sem]
      have y4 : (wr.alloc (.cells #[.int .u16 0, .int .u8 0, .int .u8 0, .int .u32 N9, .int .u32 0, .int .i32 0, .int .u16 0, .int .u16 0, .slice none 0 0] 95)).cell? ⟨wr.heap.size, 4, none⟩ = some (.int .u32 0) := by simp [go_sem]
      have y5 : (wr.alloc (.cells #[.int .u16 0, .int .u8 0, .int .u8 0, .int .u32 N9, .int .u32 0, .int .i32 0, .int .u16 0, .int .u16 0, .slice none 0 0] 95)).cell? ⟨wr.heap.size, 5, none⟩ = some (.int .i32 0) := by simp [go_sem]
      have y6 : (wr.alloc (.cells #[.int .u16 0, .int .u8 0, .int .u8 0, .int .u32 N9, .int .u32 0, .int .i32 0, .int .u16 0, .int .u16 0, .slice none 0 0] 95)).cell? ⟨wr.heap.size, 6, none⟩ = some (.int .u16 0) := by simp [go_sem]
      have y7 : (wr.alloc (.cells #[.int .u16 0, .int .u8 0, .int .u8 0, .int .u32 N9, .int .u32 0, .int .i32 0, .int .u16 0, .int .u16 0, .slice none 0 0] 95)).cell? ⟨wr.heap.size, 7, none⟩ = some (.int .u16 0) := by simp [go_sem]
      have y8 : (wr.alloc (.cells #[.int .u16 0, .int .u8 0, .int .u8 0, .int .u32 N9, .int .u32 0, .int .i32 0, .int .u16 0, .int .u16 0, .slice none 0 0] 95)).cell? ⟨wr.heap.size, 8, none⟩ = some (.slice none 0 0) := by simp [go_sem]
      generalize wr.alloc (.cells #[.int .u16 0, .int .u8 0, .int .u8 0, .int .u32 N9, .int .u32 0, .int .i32 0, .int .u16 0, .int .u16 0, .slice none 0 0] 95) = wy at *
      generalize wr.heap.size = gy at *
      have z0 := aft_cell y0
      have z1 := aft_cell y1
      have z2 := aft_cell y2
      have z3 := aft_cell y3
      have z4 := aft_cell y4
      have z5 := aft_cell y5
      have z6 := aft_cell y6
      have z7 := aft_cell y7
      have z8 := aft_cell y8
      refine wp_region_aft (by kernel_rfl) (by kernel_rfl) ?_
      repeat (first | go_big_quiet_skip | (go_big_quiet_want; go_big_quiet_op; first | go_big_quiet_on | (refine Exists.intro _ ⟨fun _ => rfl, ?_⟩; go_big_quiet_on)))
      go_big_quiet_want; go_big_quiet_op; refine Exists.intro _ ⟨fun u => Aft.call (HNM _), ?_⟩; go_big_quiet_on
      repeat (first | go_big_quiet_skip | (go_big_quiet_want; go_big_quiet_op; first | go_big_quiet_on | (refine Exists.intro _ ⟨fun _ => rfl, ?_⟩; go_big_quiet_on)))
      refine wpQuiet_nil ?_
      rintro wq ⟨⟨_, hgq⟩, rfl⟩
      have TQ : Hid (Touch (fun _ => False) w wq) := HT2.out.trans hgq
      clear y0 z0 y1 z1 y2 z2 y3 z3 y4 z4 y5 z5 y6 z6 y7 z7 y8 z8 hgq
      go_wp2
      go_roundw
      case rel => exact ⟨k + 1, by omega, by omega, by go_num, TQ.out⟩
      case measure => simp [intOf]; omega
    · obtain rfl : k = l.length + 64 := by omega
      clear tk hk0 hk
      go_wp2
      go_loopg [6] l.length (fun gg i wx => ∃ k : Nat, k ≤ l.length ∧ l.length - k ≤ gg ∧ i = .int .i64 k ∧ Touch (fun _ => False) w wx)
      case atStart => exact ⟨0, Nat.zero_le _, by omega, rfl, HTK.out⟩
      case round =>
        clear HTK
        obtain ⟨k, hk, hg, rfl, tk⟩ := hrel
        have HTK : Hid (Touch (fun _ => False) w wr) := tk
        by_cases hlt2 : k < l.length
        · have hki : (k : Int) < (l.length : Int) := by omega
          obtain ⟨x, hx⟩ : ∃ x, l[k]? = some x := ⟨l[k], by simp [hlt2]⟩
          obtain ⟨xb, hxv, hxb⟩ := HS.out x (List.mem_of_getElem? hx)
          have HSP := sstate_any x.h xb x.rs wr (HTK.out.heapN hxb.2) (HR.out x (List.mem_of_getElem? hx))
          have cx0 : wr.cell? ⟨g, k * 9, none⟩ = some (.int .u16 x.h.age) := by
            have e := HTK.out.cellN (HC.out (k * 9 + 0) (.int .u16 x.h.age) (by rw [elems_at (elStates_len l) (by omega) (by omega), show elStates l k = SE.cells x from withMarks_in hx]; rfl))
            simpa using e
          have cx1 : wr.cell? ⟨g, k * 9 + 1, none⟩ = some (.int .u8 x.h.opts) := by
            have e := HTK.out.cellN (HC.out (k * 9 + 1) (.int .u8 x.h.opts) (by rw [elems_at (elStates_len l) (by omega) (by omega), show elStates l k = SE.cells x from withMarks_in hx]; rfl))
            simpa using e
          have cx2 : wr.cell? ⟨g, k * 9 + 2, none⟩ = some (.int .u8 x.h.typ) := by
            have e := HTK.out.cellN (HC.out (k * 9 + 2) (.int .u8 x.h.typ) (by rw [elems_at (elStates_len l) (by omega) (by omega), show elStates l k = SE.cells x from withMarks_in hx]; rfl))
            simpa using e
          have cx3 : wr.cell? ⟨g, k * 9 + 3, none⟩ = some (.int .u32 x.h.id) := by
            have e := HTK.out.cellN (HC.out (k * 9 + 3) (.int .u32 x.h.id) (by rw [elems_at (elStates_len l) (by omega) (by omega), show elStates l k = SE.cells x from withMarks_in hx]; rfl))
            simpa using e
          have cx4 : wr.cell? ⟨g, k * 9 + 4, none⟩ = some (.int .u32 x.h.adv) := by
            have e := HTK.out.cellN (HC.out (k * 9 + 4) (.int .u32 x.h.adv) (by rw [elems_at (elStates_len l) (by omega) (by omega), show elStates l k = SE.cells x from withMarks_in hx]; rfl))
            simpa using e
          have cx5 : wr.cell? ⟨g, k * 9 + 5, none⟩ = some (.int .i32 x.h.seq) := by
            have e := HTK.out.cellN (HC.out (k * 9 + 5) (.int .i32 x.h.seq) (by rw [elems_at (elStates_len l) (by omega) (by omega), show elStates l k = SE.cells x from withMarks_in hx]; rfl))
            simpa using e
          have cx6 : wr.cell? ⟨g, k * 9 + 6, none⟩ = some (.int .u16 x.h.sum) := by
            have e := HTK.out.cellN (HC.out (k * 9 + 6) (.int .u16 x.h.sum) (by rw [elems_at (elStates_len l) (by omega) (by omega), show elStates l k = SE.cells x from withMarks_in hx]; rfl))
            simpa using e
          have cx7 : wr.cell? ⟨g, k * 9 + 7, none⟩ = some (.int .u16 x.h.len) := by
            have e := HTK.out.cellN (HC.out (k * 9 + 7) (.int .u16 x.h.len) (by rw [elems_at (elStates_len l) (by omega) (by omega), show elStates l k = SE.cells x from withMarks_in hx]; rfl))
            simpa using e
          have cx8 : wr.cell? ⟨g, k * 9 + 8, none⟩ = some (.slice (some ⟨xb, 0, none⟩) x.rs.length (x.rs.length + 64)) := by
            have e := HTK.out.cellN (HC.out (k * 9 + 8) (.slice (some ⟨xb, 0, none⟩) x.rs.length (x.rs.length + 64)) (by rw [elems_at (elStates_len l) (by omega) (by omega), show elStates l k = SE.cells x from withMarks_in hx]; simp [SE.cells, hxv]))
            simpa using e
          clear tk hx hxv hxb
          go_wp2_with fail
          refine Calls.mono HSP ?_
          rintro e w2 ⟨rfl, t2⟩
          have T2 : Hid (Touch (fun _ => False) w w2) := HTK.out.trans t2
          clear t2 HTK cx0 cx1 cx2 cx3 cx4 cx5 cx6 cx7 cx8
          go_wp2
          go_roundg (l.length - (k + 1))
          case measure => omega
          case rel => exact ⟨k + 1, by omega, by omega, by go_num, T2.out⟩
        · obtain rfl : k = l.length := by omega
          clear tk
          go_wp2
          go_ret
          exact ⟨rfl, HTK.out⟩
end Go.Proofs.YtjgeklipeeooaaaGreatDoor
