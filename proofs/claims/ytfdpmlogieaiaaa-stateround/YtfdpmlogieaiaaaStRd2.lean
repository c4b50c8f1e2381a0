/- Contracts: the writer's mask and metric. -/
import Derived.Test.YtfdpmlogieaiaaaStHead
import Derived.Test.YtfdpmlogieaiaaaStSeal
import Derived.Test.YtfdpmlogieaiaaaKeep
import Derived.Test.YtfdpmlogieaiaaaStRd
namespace Go.Proofs.Ytfdpmlogieaiaaa
open Go.RowKit
set_option linter.unusedVariables false
set_option maxRecDepth 100000

theorem wmask_ok (X : Nat → Prop) (b : Nat) (L : List Int) (most x : Int) (w : World) (hw : Wr X w b L most) (hm : most ≤ 1048576) (h0 : 0 ≤ x) (h1 : x < 4294967296) (hp : pbok x = true) :
    Calls Try.prog 76 #[.agg #[.pointer (some ⟨b, 0, none⟩)], .int .u32 x] w fun e w' => e = .returned (.tuple #[]) ∧ Wr X w' b (L ++ numBytes 4 x) most ∧ Kept X w w' := by
  go_enter Try.func76, Try.ntmps76
  go_wp2_with fail
  refine Calls.mono (isMask_any x _ h0 h1) ?_
  rintro e w1 ⟨rfl, rfl⟩
  go_wp2_with fail
  refine Calls.mono (need_t _ 28 _ (by first | rfl | exact hp | exact decide_eq_true hp)) ?_
  rintro e w2 ⟨rfl, rfl⟩
  go_wp2_with fail
  refine Calls.mono (number_w4 X b L most x _ (hw.keep ((Touch.refl _ _).alloc _)) hm ⟨h0, by omega⟩) ?_
  rintro e w3 ⟨rfl, h3, k3⟩
  have H3 : Hid (Wr X w3 b (L ++ numBytes 4 x) most) := h3
  have K3 : Hid (Kept X w w3) := (Kept.of ((Touch.refl _ _).alloc _)).trans k3
  clear h3 k3
  go_wp2
  go_end0
  exact ⟨rfl, H3.out, K3.out⟩
theorem wmask_no (X : Nat → Prop) (b : Nat) (x : Int) (w : World) (h0 : 0 ≤ x) (h1 : x < 4294967296) (hp : pbok x = false) :
    Calls Try.prog 76 #[.agg #[.pointer (some ⟨b, 0, none⟩)], .int .u32 x] w fun e w' => e = .panicked (flawC 28) ∧ Kept X w w' := by
  go_enter Try.func76, Try.ntmps76
  go_wp2_with fail
  refine Calls.mono (isMask_any x _ h0 h1) ?_
  rintro e w1 ⟨rfl, rfl⟩
  go_wp2_with fail
  refine Calls.mono (need_f _ 28 _ (by first | rfl | exact hp | exact decide_eq_false hp)) ?_
  rintro e w2 ⟨rfl, rfl⟩
  exact ⟨rfl, rfl, Kept.of ((Touch.refl _ _).alloc _)⟩
theorem wmetric_ok (X : Nat → Prop) (b : Nat) (L : List Int) (most x : Int) (w : World) (hw : Wr X w b L most) (hm : most ≤ 1048576) (h0 : 0 ≤ x) (h1 : x < 4294967296) (hp : x ≤ 16777215) :
    Calls Try.prog 79 #[.agg #[.pointer (some ⟨b, 0, none⟩)], .int .u32 x] w fun e w' => e = .returned (.tuple #[]) ∧ Wr X w' b (L ++ numBytes 3 x) most ∧ Kept X w w' := by
  go_enter Try.func79, Try.ntmps79
  go_wp2_with fail
  refine Calls.mono (need_t _ 28 _ (by first | rfl | exact hp | exact decide_eq_true hp)) ?_
  rintro e w2 ⟨rfl, rfl⟩
  go_wp2_with fail
  refine Calls.mono (number_w3 X b L most x _ (hw.keep ((Touch.refl _ _).alloc _)) hm ⟨h0, by omega⟩) ?_
  rintro e w3 ⟨rfl, h3, k3⟩
  have H3 : Hid (Wr X w3 b (L ++ numBytes 3 x) most) := h3
  have K3 : Hid (Kept X w w3) := (Kept.of ((Touch.refl _ _).alloc _)).trans k3
  clear h3 k3
  go_wp2
  go_end0
  exact ⟨rfl, H3.out, K3.out⟩
theorem wmetric_no (X : Nat → Prop) (b : Nat) (x : Int) (w : World) (h0 : 0 ≤ x) (h1 : x < 4294967296) (hp : ¬ x ≤ 16777215) :
    Calls Try.prog 79 #[.agg #[.pointer (some ⟨b, 0, none⟩)], .int .u32 x] w fun e w' => e = .panicked (flawC 28) ∧ Kept X w w' := by
  go_enter Try.func79, Try.ntmps79
  go_wp2_with fail
  refine Calls.mono (need_f _ 28 _ (by first | rfl | exact hp | exact decide_eq_false hp)) ?_
  rintro e w2 ⟨rfl, rfl⟩
  exact ⟨rfl, rfl, Kept.of ((Touch.refl _ _).alloc _)⟩
/-- A body lies in block g, and may be stored into. -/
structure OutB (w : World) (g : Nat) (b : BV) (vl vr vd : Value) : Prop where
  bd : Bd w g b vl vr vd
  fz : ∀ i, i < 9 → w.frozen? ⟨g, i, none⟩ = false
theorem OutB.lt {w : World} {g : Nat} {b : BV} {vl vr vd : Value} (k : OutB w g b vl vr vd) : g < w.heap.size := lt_of_cell k.bd.c0
theorem OutB.keep {w w' : World} {g : Nat} {b : BV} {vl vr vd : Value} (k : OutB w g b vl vr vd) (t : Touch (fun _ => False) w w') : OutB w' g b vl vr vd :=
  ⟨k.bd.keep t, fun i hi => (t.frozen (p := ⟨g, i, none⟩) k.lt (fun h => h)).trans (k.fz i hi)⟩
theorem OutB.kept {X : Nat → Prop} {w w' : World} {g : Nat} {b : BV} {vl vr vd : Value} (k : OutB w g b vl vr vd) (t : Kept X w w') (hx : X g) : OutB w' g b vl vr vd :=
  ⟨⟨t.cell k.bd.c0 hx, t.cell k.bd.c1 hx, t.cell k.bd.c2 hx, t.cell k.bd.c3 hx, t.cell k.bd.c4 hx, t.cell k.bd.c5 hx, t.cell k.bd.c6 hx, t.cell k.bd.c7 hx, t.cell k.bd.c8 hx⟩, fun i hi => (Touch.frozen t (p := ⟨g, i, none⟩) k.lt (fun n => n hx)).trans (k.fz i hi)⟩
theorem OutB.new (w : World) (b : BV) (vl vr vd : Value) (t : TypeId) :
    OutB (w.alloc (.cells #[.int .u8 b.flags, vl, .int .u32 b.mask, vr, .int .u32 b.metric, .bool b.type2, .int .u32 b.fwd, .int .u32 b.tag, vd] t)) w.heap.size b vl vr vd := ⟨Bd.new w b vl vr vd t, fun i hi => by simp [go_sem]⟩
theorem OutB.set0 {w : World} {g : Nat} {b : BV} {vl vr vd : Value} (k : OutB w g b vl vr vd) : OutB (w.setCell ⟨g, 0, none⟩ (.int .u8 0)) g { b with flags := 0 } vl vr vd := by
  obtain ⟨⟨c0, c1, c2, c3, c4, c5, c6, c7, c8⟩, fz⟩ := k
  exact ⟨⟨by simp [c0, go_sem], by simp [c1, go_sem], by simp [c2, go_sem], by simp [c3, go_sem], by simp [c4, go_sem], by simp [c5, go_sem], by simp [c6, go_sem], by simp [c7, go_sem], by simp [c8, go_sem]⟩, fun i hi => by simp [fz i hi, go_sem]⟩
theorem OutB.set2 {w : World} {g : Nat} {b : BV} {vl vr vd : Value} (k : OutB w g b vl vr vd) : OutB (w.setCell ⟨g, 2, none⟩ (.int .u32 0)) g { b with mask := 0 } vl vr vd := by
  obtain ⟨⟨c0, c1, c2, c3, c4, c5, c6, c7, c8⟩, fz⟩ := k
  exact ⟨⟨by simp [c0, go_sem], by simp [c1, go_sem], by simp [c2, go_sem], by simp [c3, go_sem], by simp [c4, go_sem], by simp [c5, go_sem], by simp [c6, go_sem], by simp [c7, go_sem], by simp [c8, go_sem]⟩, fun i hi => by simp [fz i hi, go_sem]⟩
theorem OutB.set4 {w : World} {g : Nat} {b : BV} {vl vr vd : Value} (k : OutB w g b vl vr vd) : OutB (w.setCell ⟨g, 4, none⟩ (.int .u32 0)) g { b with metric := 0 } vl vr vd := by
  obtain ⟨⟨c0, c1, c2, c3, c4, c5, c6, c7, c8⟩, fz⟩ := k
  exact ⟨⟨by simp [c0, go_sem], by simp [c1, go_sem], by simp [c2, go_sem], by simp [c3, go_sem], by simp [c4, go_sem], by simp [c5, go_sem], by simp [c6, go_sem], by simp [c7, go_sem], by simp [c8, go_sem]⟩, fun i hi => by simp [fz i hi, go_sem]⟩
theorem OutB.set5 {w : World} {g : Nat} {b : BV} {vl vr vd : Value} (k : OutB w g b vl vr vd) : OutB (w.setCell ⟨g, 5, none⟩ (.bool false)) g { b with type2 := false } vl vr vd := by
  obtain ⟨⟨c0, c1, c2, c3, c4, c5, c6, c7, c8⟩, fz⟩ := k
  exact ⟨⟨by simp [c0, go_sem], by simp [c1, go_sem], by simp [c2, go_sem], by simp [c3, go_sem], by simp [c4, go_sem], by simp [c5, go_sem], by simp [c6, go_sem], by simp [c7, go_sem], by simp [c8, go_sem]⟩, fun i hi => by simp [fz i hi, go_sem]⟩
theorem OutB.set6 {w : World} {g : Nat} {b : BV} {vl vr vd : Value} (k : OutB w g b vl vr vd) : OutB (w.setCell ⟨g, 6, none⟩ (.int .u32 0)) g { b with fwd := 0 } vl vr vd := by
  obtain ⟨⟨c0, c1, c2, c3, c4, c5, c6, c7, c8⟩, fz⟩ := k
  exact ⟨⟨by simp [c0, go_sem], by simp [c1, go_sem], by simp [c2, go_sem], by simp [c3, go_sem], by simp [c4, go_sem], by simp [c5, go_sem], by simp [c6, go_sem], by simp [c7, go_sem], by simp [c8, go_sem]⟩, fun i hi => by simp [fz i hi, go_sem]⟩
theorem OutB.set7 {w : World} {g : Nat} {b : BV} {vl vr vd : Value} (k : OutB w g b vl vr vd) : OutB (w.setCell ⟨g, 7, none⟩ (.int .u32 0)) g { b with tag := 0 } vl vr vd := by
  obtain ⟨⟨c0, c1, c2, c3, c4, c5, c6, c7, c8⟩, fz⟩ := k
  exact ⟨⟨by simp [c0, go_sem], by simp [c1, go_sem], by simp [c2, go_sem], by simp [c3, go_sem], by simp [c4, go_sem], by simp [c5, go_sem], by simp [c6, go_sem], by simp [c7, go_sem], by simp [c8, go_sem]⟩, fun i hi => by simp [fz i hi, go_sem]⟩
theorem OutB.set1 {w : World} {g : Nat} {b : BV} {vl vr vd : Value} (k : OutB w g b vl vr vd) : OutB (w.setCell ⟨g, 1, none⟩ (.slice none 0 0)) g { b with links := [] } (.slice none 0 0) vr vd := by
  obtain ⟨⟨c0, c1, c2, c3, c4, c5, c6, c7, c8⟩, fz⟩ := k
  exact ⟨⟨by simp [c0, go_sem], by simp [c1, go_sem], by simp [c2, go_sem], by simp [c3, go_sem], by simp [c4, go_sem], by simp [c5, go_sem], by simp [c6, go_sem], by simp [c7, go_sem], by simp [c8, go_sem]⟩, fun i hi => by simp [fz i hi, go_sem]⟩
theorem OutB.set3 {w : World} {g : Nat} {b : BV} {vl vr vd : Value} (k : OutB w g b vl vr vd) : OutB (w.setCell ⟨g, 3, none⟩ (.slice none 0 0)) g { b with routers := [] } vl (.slice none 0 0) vd := by
  obtain ⟨⟨c0, c1, c2, c3, c4, c5, c6, c7, c8⟩, fz⟩ := k
  exact ⟨⟨by simp [c0, go_sem], by simp [c1, go_sem], by simp [c2, go_sem], by simp [c3, go_sem], by simp [c4, go_sem], by simp [c5, go_sem], by simp [c6, go_sem], by simp [c7, go_sem], by simp [c8, go_sem]⟩, fun i hi => by simp [fz i hi, go_sem]⟩
theorem OutB.set8 {w : World} {g : Nat} {b : BV} {vl vr vd : Value} (k : OutB w g b vl vr vd) : OutB (w.setCell ⟨g, 8, none⟩ (.slice none 0 0)) g { b with data := [] } vl vr (.slice none 0 0) := by
  obtain ⟨⟨c0, c1, c2, c3, c4, c5, c6, c7, c8⟩, fz⟩ := k
  exact ⟨⟨by simp [c0, go_sem], by simp [c1, go_sem], by simp [c2, go_sem], by simp [c3, go_sem], by simp [c4, go_sem], by simp [c5, go_sem], by simp [c6, go_sem], by simp [c7, go_sem], by simp [c8, go_sem]⟩, fun i hi => by simp [fz i hi, go_sem]⟩
end Go.Proofs.Ytfdpmlogieaiaaa

namespace Go.Proofs.Ytfdpmlogieaiaaa
open Go.RowKit
set_option linter.unusedVariables false
set_option maxRecDepth 100000

theorem rmask_ok (N b : Nat) (rs : List Int) (q : Option Nat) (w : World) (h : Rdr N w b rs q) (hm : pbok (numAt rs q 4) = true) :
    Calls Try.prog 80 #[.agg #[.pointer (some ⟨b, 0, none⟩)]] w fun e w' => e = .returned (.int .u32 (numAt rs q 4)) ∧ Rdr N w' b rs (nextAt rs q 4) ∧ Touch (fun k => k = b) w w' := by
  have hb := numAt_bound h.byte q 4
  have HN := fun w (h : Rdr N w b rs q) => rnum4 N b rs q w h
  generalize numAt rs q 4 = x at hm hb HN ⊢
  go_enter Try.func80, Try.ntmps80
  go_wp2_with fail
  refine Calls.mono (HN _ (h.keep ((Touch.refl _ _).alloc _))) ?_
  rintro e w1 ⟨rfl, h1, t1⟩
  have T1 : Hid (Touch (fun k => k = b) w w1) := ((Touch.refl _ w).alloc _).trans t1
  have H1 : Hid (Rdr N w1 b rs (nextAt rs q 4)) := h1
  clear t1 h1 HN h
  go_wp2_with fail
  refine Calls.mono (isMask_any x _ hb.1 hb.2) ?_
  rintro e w2 ⟨rfl, rfl⟩
  go_wp2_with fail
  refine Calls.mono (need_t _ 28 _ (by first | rfl | exact hm)) ?_
  rintro e w2 ⟨rfl, rfl⟩
  go_wp2
  go_ret
  exact ⟨rfl, H1.out, T1.out⟩
theorem rmask_no (N b : Nat) (rs : List Int) (q : Option Nat) (w : World) (h : Rdr N w b rs q) (hm : pbok (numAt rs q 4) = false) :
    Calls Try.prog 80 #[.agg #[.pointer (some ⟨b, 0, none⟩)]] w fun e w' => e = .panicked (flawC 28) ∧ Touch (fun k => k = b) w w' := by
  have hb := numAt_bound h.byte q 4
  have HN := fun w (h : Rdr N w b rs q) => rnum4 N b rs q w h
  generalize numAt rs q 4 = x at hm hb HN ⊢
  go_enter Try.func80, Try.ntmps80
  go_wp2_with fail
  refine Calls.mono (HN _ (h.keep ((Touch.refl _ _).alloc _))) ?_
  rintro e w1 ⟨rfl, h1, t1⟩
  have T1 : Hid (Touch (fun k => k = b) w w1) := ((Touch.refl _ w).alloc _).trans t1
  clear t1 h1 HN h
  go_wp2_with fail
  refine Calls.mono (isMask_any x _ hb.1 hb.2) ?_
  rintro e w2 ⟨rfl, rfl⟩
  go_wp2_with fail
  refine Calls.mono (need_f _ 28 _ (by first | rfl | exact hm)) ?_
  rintro e w2 ⟨rfl, rfl⟩
  exact ⟨rfl, rfl, T1.out⟩
theorem rmetric_any (N b : Nat) (rs : List Int) (q : Option Nat) (w : World) (h : Rdr N w b rs q) :
    Calls Try.prog 81 #[.agg #[.pointer (some ⟨b, 0, none⟩)]] w fun e w' => e = .returned (.int .u32 (numAt rs q 3)) ∧ Rdr N w' b rs (nextAt rs q 3) ∧ Touch (fun k => k = b) w w' := by
  have HN := fun w (h : Rdr N w b rs q) => rnum3 N b rs q w h
  generalize numAt rs q 3 = x at HN ⊢
  go_enter Try.func81, Try.ntmps81
  go_wp2_with fail
  refine Calls.mono (HN _ (h.keep ((Touch.refl _ _).alloc _))) ?_
  rintro e w1 ⟨rfl, h1, t1⟩
  have T1 : Hid (Touch (fun k => k = b) w w1) := ((Touch.refl _ w).alloc _).trans t1
  have H1 : Hid (Rdr N w1 b rs (nextAt rs q 3)) := h1
  clear t1 h1 HN h
  go_wp2
  go_ret
  exact ⟨rfl, H1.out, T1.out⟩
/-- A number of n bytes, n given as the program gives it. -/
theorem rnum_i (N b : Nat) (n : Int) (hn : n = 1 ∨ n = 2 ∨ n = 3 ∨ n = 4) (rs : List Int) (q : Option Nat) (w : World) (h : Rdr N w b rs q) :
    Calls Try.prog 74 #[.pointer (some ⟨b, 0, none⟩), .int .i64 n] w fun e w' => e = .returned (.int .u32 (numAt rs q n.toNat)) ∧ Rdr N w' b rs (nextAt rs q n.toNat) ∧ Touch (fun k => k = b) w w' := by
  rcases hn with rfl | rfl | rfl | rfl
  · exact rnum1 N b rs q w h
  · exact rnum2 N b rs q w h
  · exact rnum3 N b rs q w h
  · exact rnum4 N b rs q w h
theorem nought_ok (N b : Nat) (n : Int) (hn : n = 1 ∨ n = 2 ∨ n = 3 ∨ n = 4) (rs : List Int) (q : Option Nat) (w : World) (h : Rdr N w b rs q) (hz : numAt rs q n.toNat = 0) :
    Calls Try.prog 87 #[.agg #[.pointer (some ⟨b, 0, none⟩)], .int .i64 n] w fun e w' => e = .returned (.tuple #[]) ∧ Rdr N w' b rs (nextAt rs q n.toNat) ∧ Touch (fun k => k = b) w w' := by
  have HN := fun w (h : Rdr N w b rs q) => rnum_i N b n hn rs q w h
  rw [hz] at HN
  go_enter Try.func87, Try.ntmps87
  go_wp2_with fail
  refine Calls.mono (HN _ (h.keep ((Touch.refl _ _).alloc _))) ?_
  rintro e w1 ⟨rfl, h1, t1⟩
  have T1 : Hid (Touch (fun k => k = b) w w1) := ((Touch.refl _ w).alloc _).trans t1
  have H1 : Hid (Rdr N w1 b rs (nextAt rs q n.toNat)) := h1
  clear t1 h1 HN h
  go_wp2_with fail
  refine Calls.mono (need_t _ 28 _ rfl) ?_
  rintro e w2 ⟨rfl, rfl⟩
  go_wp2
  go_end0
  exact ⟨rfl, H1.out, T1.out⟩
theorem nought_no (N b : Nat) (n : Int) (hn : n = 1 ∨ n = 2 ∨ n = 3 ∨ n = 4) (rs : List Int) (q : Option Nat) (w : World) (h : Rdr N w b rs q) (hz : ¬ numAt rs q n.toNat = 0) :
    Calls Try.prog 87 #[.agg #[.pointer (some ⟨b, 0, none⟩)], .int .i64 n] w fun e w' => e = .panicked (flawC 28) ∧ Touch (fun k => k = b) w w' := by
  have HN := fun w (h : Rdr N w b rs q) => rnum_i N b n hn rs q w h
  generalize numAt rs q n.toNat = x at HN hz
  have hzb : (x == 0) = false := by simpa using hz
  go_enter Try.func87, Try.ntmps87
  go_wp2_with fail
  refine Calls.mono (HN _ (h.keep ((Touch.refl _ _).alloc _))) ?_
  rintro e w1 ⟨rfl, h1, t1⟩
  have T1 : Hid (Touch (fun k => k = b) w w1) := ((Touch.refl _ w).alloc _).trans t1
  clear t1 h1 HN h
  go_wp2_with fail
  refine Calls.mono (need_f _ 28 _ (by first | rfl | exact hzb)) ?_
  rintro e w2 ⟨rfl, rfl⟩
  exact ⟨rfl, rfl, T1.out⟩
end Go.Proofs.Ytfdpmlogieaiaaa
