/- Contracts: the writer's mask and metric. -/
import Derived.Test.YtfdpmlogieaiaaaGreatDoorStHead
import Derived.Test.YtfdpmlogieaiaaaGreatDoorStSeal
import Derived.Test.YtfdpmlogieaiaaaGreatDoorStaRd
import Derived.Test.YtfdpmlogieaiaaaGreatDoorStRead3
namespace Go.Proofs.YtfdpmlogieaiaaaGreatDoor
open Go.RowKit
set_option linter.unusedVariables false
set_option maxRecDepth 100000

theorem wmask_ok (X : Nat → Prop) (b : Nat) (L : List Int) (most x : Int) (w : World) (hw : Wr X w b L most) (hm : most ≤ 1048576) (h0 : 0 ≤ x) (h1 : x < 4294967296) (hp : pbok x = true) :
    Calls Tryz.prog 142 #[.agg #[.pointer (some ⟨b, 0, none⟩)], .int .u32 x] w fun e w' => e = .returned (.tuple #[]) ∧ Wr X w' b (L ++ numBytes 4 x) most ∧ Kept X w w' := by
  go_enter Tryz.func142, Tryz.ntmps142
  go_wp2_with fail
  refine Calls.mono (isMask_any x _ h0 h1) ?_
  rintro e w1 ⟨rfl, rfl⟩
  go_wp2_with fail
  refine Calls.mono (need_t _ 28 _ (by first | rfl | exact hp | exact decide_eq_true hp)) ?_
  rintro e w2 ⟨rfl, rfl⟩
  go_wp2_with fail
  refine Calls.mono (number_w4 X b L most x _ (hw.keep ((Touch.refl _ _).alloc _)) hm ⟨h0, by omega⟩) ?_
  rintro e w3 ⟨rfl, h3, k3⟩
  have H3 : Hid (Wr X w3 b (L ++ numBytes 4 x) most) := h3
  have K3 : Hid (Kept X w w3) := (Kept.of ((Touch.refl _ _).alloc _)).trans k3
  clear h3 k3
  go_wp2
  go_end0
  exact ⟨rfl, H3.out, K3.out⟩
theorem wmask_no (X : Nat → Prop) (b : Nat) (x : Int) (w : World) (h0 : 0 ≤ x) (h1 : x < 4294967296) (hp : pbok x = false) :
    Calls Tryz.prog 142 #[.agg #[.pointer (some ⟨b, 0, none⟩)], .int .u32 x] w fun e w' => e = .panicked (flawC 28) ∧ Kept X w w' := by
  go_enter Tryz.func142, Tryz.ntmps142
  go_wp2_with fail
  refine Calls.mono (isMask_any x _ h0 h1) ?_
  rintro e w1 ⟨rfl, rfl⟩
  go_wp2_with fail
  refine Calls.mono (need_f _ 28 _ (by first | rfl | exact hp | exact decide_eq_false hp)) ?_
  rintro e w2 ⟨rfl, rfl⟩
  exact ⟨rfl, rfl, Kept.of ((Touch.refl _ _).alloc _)⟩
theorem wmetric_ok (X : Nat → Prop) (b : Nat) (L : List Int) (most x : Int) (w : World) (hw : Wr X w b L most) (hm : most ≤ 1048576) (h0 : 0 ≤ x) (h1 : x < 4294967296) (hp : x ≤ 16777215) :
    Calls Tryz.prog 145 #[.agg #[.pointer (some ⟨b, 0, none⟩)], .int .u32 x] w fun e w' => e = .returned (.tuple #[]) ∧ Wr X w' b (L ++ numBytes 3 x) most ∧ Kept X w w' := by
  go_enter Tryz.func145, Tryz.ntmps145
  go_wp2_with fail
  refine Calls.mono (need_t _ 28 _ (by first | rfl | exact hp | exact decide_eq_true hp)) ?_
  rintro e w2 ⟨rfl, rfl⟩
  go_wp2_with fail
  refine Calls.mono (number_w3 X b L most x _ (hw.keep ((Touch.refl _ _).alloc _)) hm ⟨h0, by omega⟩) ?_
  rintro e w3 ⟨rfl, h3, k3⟩
  have H3 : Hid (Wr X w3 b (L ++ numBytes 3 x) most) := h3
  have K3 : Hid (Kept X w w3) := (Kept.of ((Touch.refl _ _).alloc _)).trans k3
  clear h3 k3
  go_wp2
  go_end0
  exact ⟨rfl, H3.out, K3.out⟩
theorem wmetric_no (X : Nat → Prop) (b : Nat) (x : Int) (w : World) (h0 : 0 ≤ x) (h1 : x < 4294967296) (hp : ¬ x ≤ 16777215) :
    Calls Tryz.prog 145 #[.agg #[.pointer (some ⟨b, 0, none⟩)], .int .u32 x] w fun e w' => e = .panicked (flawC 28) ∧ Kept X w w' := by
  go_enter Tryz.func145, Tryz.ntmps145
  go_wp2_with fail
  refine Calls.mono (need_f _ 28 _ (by first | rfl | exact hp | exact decide_eq_false hp)) ?_
  rintro e w2 ⟨rfl, rfl⟩
  exact ⟨rfl, rfl, Kept.of ((Touch.refl _ _).alloc _)⟩
/-- A body lies in block g, and may be stored into. -/
structure OutB (w : World) (g : Nat) (b : BV) (vl vr vd : Value) : Prop where
  bd : Bd w g b vl vr vd
  fz : ∀ i, i < 9 → w.frozen? ⟨g, i, none⟩ = false
theorem OutB.lt {w : World} {g : Nat} {b : BV} {vl vr vd : Value} (k : OutB w g b vl vr vd) : g < w.heap.size := lt_of_cell k.bd.c0
theorem OutB.keep {w w' : World} {g : Nat} {b : BV} {vl vr vd : Value} (k : OutB w g b vl vr vd) (t : Touch (fun _ => False) w w') : OutB w' g b vl vr vd :=
  ⟨k.bd.keep t, fun i hi => (t.frozen (p := ⟨g, i, none⟩) k.lt (fun h => h)).trans (k.fz i hi)⟩
theorem OutB.kept {X : Nat → Prop} {w w' : World} {g : Nat} {b : BV} {vl vr vd : Value} (k : OutB w g b vl vr vd) (t : Kept X w w') (hx : X g) : OutB w' g b vl vr vd :=
  ⟨⟨t.cell k.bd.c0 hx, t.cell k.bd.c1 hx, t.cell k.bd.c2 hx, t.cell k.bd.c3 hx, t.cell k.bd.c4 hx, t.cell k.bd.c5 hx, t.cell k.bd.c6 hx, t.cell k.bd.c7 hx, t.cell k.bd.c8 hx⟩, fun i hi => (Touch.frozen t (p := ⟨g, i, none⟩) k.lt (fun n => n hx)).trans (k.fz i hi)⟩
theorem OutB.new (w : World) (b : BV) (vl vr vd : Value) (t : TypeId) :
    OutB (w.alloc (.cells #[.int .u8 b.flags, vl, .int .u32 b.mask, vr, .int .u32 b.metric, .bool b.type2, .int .u32 b.fwd, .int .u32 b.tag, vd] t)) w.heap.size b vl vr vd := ⟨Bd.new w b vl vr vd t, fun i hi => by simp [go_sem]⟩
theorem OutB.set0 {w : World} {g : Nat} {b : BV} {vl vr vd : Value} (k : OutB w g b vl vr vd) : OutB (w.setCell ⟨g, 0, none⟩ (.int .u8 0)) g { b with flags := 0 } vl vr vd := by
  obtain ⟨⟨c0, c1, c2, c3, c4, c5, c6, c7, c8⟩, fz⟩ := k
  exact ⟨⟨by simp [c0, go_sem], by simp [c1, go_sem], by simp [c2, go_sem], by simp [c3, go_sem], by simp [c4, go_sem], by simp [c5, go_sem], by simp [c6, go_sem], by simp [c7, go_sem], by simp [c8, go_sem]⟩, fun i hi => by simp [fz i hi, go_sem]⟩
theorem OutB.set2 {w : World} {g : Nat} {b : BV} {vl vr vd : Value} (k : OutB w g b vl vr vd) : OutB (w.setCell ⟨g, 2, none⟩ (.int .u32 0)) g { b with mask := 0 } vl vr vd := by
  obtain ⟨⟨c0, c1, c2, c3, c4, c5, c6, c7, c8⟩, fz⟩ := k
  exact ⟨⟨by simp [c0, go_sem], by simp [c1, go_sem], by simp [c2, go_sem], by simp [c3, go_sem], by simp [c4, go_sem], by simp [c5, go_sem], by simp [c6, go_sem], by simp [c7, go_sem], by simp [c8, go_sem]⟩, fun i hi => by simp [fz i hi, go_sem]⟩
theorem OutB.set4 {w : World} {g : Nat} {b : BV} {vl vr vd : Value} (k : OutB w g b vl vr vd) : OutB (w.setCell ⟨g, 4, none⟩ (.int .u32 0)) g { b with metric := 0 } vl vr vd := by
  obtain ⟨⟨c0, c1, c2, c3, c4, c5, c6, c7, c8⟩, fz⟩ := k
  exact ⟨⟨by simp [c0, go_sem], by simp [c1, go_sem], by simp [c2, go_sem], by simp [c3, go_sem], by simp [c4, go_sem], by simp [c5, go_sem], by simp [c6, go_sem], by simp [c7, go_sem], by simp [c8, go_sem]⟩, fun i hi => by simp [fz i hi, go_sem]⟩
theorem OutB.set5 {w : World} {g : Nat} {b : BV} {vl vr vd : Value} (k : OutB w g b vl vr vd) : OutB (w.setCell ⟨g, 5, none⟩ (.bool false)) g { b with type2 := false } vl vr vd := by
  obtain ⟨⟨c0, c1, c2, c3, c4, c5, c6, c7, c8⟩, fz⟩ := k
  exact ⟨⟨by simp [c0, go_sem], by simp [c1, go_sem], by simp [c2, go_sem], by simp [c3, go_sem], by simp [c4, go_sem], by simp [c5, go_sem], by simp [c6, go_sem], by simp [c7, go_sem], by simp [c8, go_sem]⟩, fun i hi => by simp [fz i hi, go_sem]⟩
theorem OutB.set6 {w : World} {g : Nat} {b : BV} {vl vr vd : Value} (k : OutB w g b vl vr vd) : OutB (w.setCell ⟨g, 6, none⟩ (.int .u32 0)) g { b with fwd := 0 } vl vr vd := by
  obtain ⟨⟨c0, c1, c2, c3, c4, c5, c6, c7, c8⟩, fz⟩ := k
  exact ⟨⟨by simp [c0, go_sem], by simp [c1, go_sem], by simp [c2, go_sem], by simp [c3, go_sem], by simp [c4, go_sem], by simp [c5, go_sem], by simp [c6, go_sem], by simp [c7, go_sem], by simp [c8, go_sem]⟩, fun i hi => by simp [fz i hi, go_sem]⟩
theorem OutB.set7 {w : World} {g : Nat} {b : BV} {vl vr vd : Value} (k : OutB w g b vl vr vd) : OutB (w.setCell ⟨g, 7, none⟩ (.int .u32 0)) g { b with tag := 0 } vl vr vd := by
  obtain ⟨⟨c0, c1, c2, c3, c4, c5, c6, c7, c8⟩, fz⟩ := k
  exact ⟨⟨by simp [c0, go_sem], by simp [c1, go_sem], by simp [c2, go_sem], by simp [c3, go_sem], by simp [c4, go_sem], by simp [c5, go_sem], by simp [c6, go_sem], by simp [c7, go_sem], by simp [c8, go_sem]⟩, fun i hi => by simp [fz i hi, go_sem]⟩
theorem OutB.set1 {w : World} {g : Nat} {b : BV} {vl vr vd : Value} (k : OutB w g b vl vr vd) : OutB (w.setCell ⟨g, 1, none⟩ (.slice none 0 0)) g { b with links := [] } (.slice none 0 0) vr vd := by
  obtain ⟨⟨c0, c1, c2, c3, c4, c5, c6, c7, c8⟩, fz⟩ := k
  exact ⟨⟨by simp [c0, go_sem], by simp [c1, go_sem], by simp [c2, go_sem], by simp [c3, go_sem], by simp [c4, go_sem], by simp [c5, go_sem], by simp [c6, go_sem], by simp [c7, go_sem], by simp [c8, go_sem]⟩, fun i hi => by simp [fz i hi, go_sem]⟩
theorem OutB.set3 {w : World} {g : Nat} {b : BV} {vl vr vd : Value} (k : OutB w g b vl vr vd) : OutB (w.setCell ⟨g, 3, none⟩ (.slice none 0 0)) g { b with routers := [] } vl (.slice none 0 0) vd := by
  obtain ⟨⟨c0, c1, c2, c3, c4, c5, c6, c7, c8⟩, fz⟩ := k
  exact ⟨⟨by simp [c0, go_sem], by simp [c1, go_sem], by simp [c2, go_sem], by simp [c3, go_sem], by simp [c4, go_sem], by simp [c5, go_sem], by simp [c6, go_sem], by simp [c7, go_sem], by simp [c8, go_sem]⟩, fun i hi => by simp [fz i hi, go_sem]⟩
theorem OutB.set8 {w : World} {g : Nat} {b : BV} {vl vr vd : Value} (k : OutB w g b vl vr vd) : OutB (w.setCell ⟨g, 8, none⟩ (.slice none 0 0)) g { b with data := [] } vl vr (.slice none 0 0) := by
  obtain ⟨⟨c0, c1, c2, c3, c4, c5, c6, c7, c8⟩, fz⟩ := k
  exact ⟨⟨by simp [c0, go_sem], by simp [c1, go_sem], by simp [c2, go_sem], by simp [c3, go_sem], by simp [c4, go_sem], by simp [c5, go_sem], by simp [c6, go_sem], by simp [c7, go_sem], by simp [c8, go_sem]⟩, fun i hi => by simp [fz i hi, go_sem]⟩
end Go.Proofs.YtfdpmlogieaiaaaGreatDoor

namespace Go.Proofs.YtfdpmlogieaiaaaGreatDoor
open Go.RowKit
set_option linter.unusedVariables false
set_option maxRecDepth 100000

/-- A body's three rows are the call's own. -/
structure BOwn (base : Nat) (w : World) (B : BV) (vl vr vd : Value) : Prop where
  l : w.ownsRow base 128 4 vl B.links.length (linksC B.links)
  r : w.ownsRow base 23 1 vr B.routers.length (wordsC B.routers)
  d : w.ownsRow base 5 1 vd B.data.length (bytesOf B.data)
theorem BOwn.touch {F : Nat → Prop} {base : Nat} {w w' : World} {B : BV} {vl vr vd : Value} (h : BOwn base w B vl vr vd) (t : Touch F w w') (hF : ∀ k, base ≤ k → ¬ F k) : BOwn base w' B vl vr vd :=
  ⟨own_touch h.l t (fun k hk => hF k (h.l.lt k hk).1), own_touch h.r t (fun k hk => hF k (h.r.lt k hk).1), own_touch h.d t (fun k hk => hF k (h.d.lt k hk).1)⟩
theorem BOwn.keep {base : Nat} {w w' : World} {B : BV} {vl vr vd : Value} (h : BOwn base w B vl vr vd) (t : Touch (fun _ => False) w w') : BOwn base w' B vl vr vd := h.touch t (fun _ _ h => h)
theorem BOwn.lower {base base' : Nat} {w : World} {B : BV} {vl vr vd : Value} (h : BOwn base w B vl vr vd) (hb : base' ≤ base) : BOwn base' w B vl vr vd := ⟨own_lower h.l hb, own_lower h.r hb, own_lower h.d hb⟩
theorem own_fm {w : World} {base e k n : Nat} {v : Value} {xs : List Value} (h : w.ownsRow base e k v n xs) : ∃ a c, v = .slice a n c := by
  rcases h.2 with ⟨rfl, e⟩ | ⟨g, cap, cur, rfl, _⟩
  · exact ⟨none, 0, by rw [e]⟩
  · exact ⟨_, cap, rfl⟩
theorem BOwn.form {base : Nat} {w : World} {B : BV} {vl vr vd : Value} (h : BOwn base w B vl vr vd) : ∃ a1 q1 a3 q3 a8 q8, vl = .slice a1 B.links.length q1 ∧ vr = .slice a3 B.routers.length q3 ∧ vd = .slice a8 B.data.length q8 := by
  obtain ⟨a1, q1, e1⟩ := own_fm h.l
  obtain ⟨a3, q3, e3⟩ := own_fm h.r
  obtain ⟨a8, q8, e8⟩ := own_fm h.d
  exact ⟨a1, q1, a3, q3, a8, q8, e1, e3, e8⟩
theorem BOwn.flat (base : Nat) (w : World) (x0 x2 x4 x6 x7 : Int) (x5 : Bool) : BOwn base w ⟨x0, [], x2, [], x4, x5, x6, x7, []⟩ (.slice none 0 0) (.slice none 0 0) (.slice none 0 0) :=
  ⟨World.ownsRow_nil _ _ _ _, World.ownsRow_nil _ _ _ _, World.ownsRow_nil _ _ _ _⟩
theorem own_vals {w : World} {base e k n : Nat} {v : Value} {xs : List Value} (h : w.ownsRow base e k v n xs) : ValsAt w k v n xs := by
  refine ⟨h.1, ?_⟩
  rcases h.2 with h2 | ⟨g, cap, cur, hv, hb, hh, h1, h2, h3, h4⟩
  · exact Or.inl h2
  · refine Or.inr ⟨_, cap, hv, h1, h2, fun j u hj => ?_⟩
    have hjl := (List.getElem?_eq_some_iff.mp hj).1
    have hl := h.1
    rw [add_plain, Nat.zero_add]
    rw [← h4, List.getElem?_take, if_pos (by omega)] at hj
    simp [World.cell?, hh]
    simpa using hj
theorem BOwn.arg {base : Nat} {w : World} {B : BV} {vl vr vd : Value} (h : BOwn base w B vl vr vd) : BArg w B vl vr vd :=
  ⟨own_vals h.l, own_vals h.r, (own_rowAt h.d).arg⟩
theorem OutB.row3 {w : World} {g : Nat} {b : BV} {vl vr vd : Value} (k : OutB w g b vl vr vd) (l : List Int) (u : Value) : OutB (w.setCell ⟨g, 3, none⟩ u) g { b with routers := l } vl u vd := by
  obtain ⟨⟨c0, c1, c2, c3, c4, c5, c6, c7, c8⟩, fz⟩ := k
  exact ⟨⟨by simp [c0, go_sem], by simp [c1, go_sem], by simp [c2, go_sem], by simp [c3, go_sem], by simp [c4, go_sem], by simp [c5, go_sem], by simp [c6, go_sem], by simp [c7, go_sem], by simp [c8, go_sem]⟩, fun i hi => by simp [fz i hi, go_sem]⟩
theorem OutB.row1 {w : World} {g : Nat} {b : BV} {vl vr vd : Value} (k : OutB w g b vl vr vd) (l : List LV) (u : Value) : OutB (w.setCell ⟨g, 1, none⟩ u) g { b with links := l } u vr vd := by
  obtain ⟨⟨c0, c1, c2, c3, c4, c5, c6, c7, c8⟩, fz⟩ := k
  exact ⟨⟨by simp [c0, go_sem], by simp [c1, go_sem], by simp [c2, go_sem], by simp [c3, go_sem], by simp [c4, go_sem], by simp [c5, go_sem], by simp [c6, go_sem], by simp [c7, go_sem], by simp [c8, go_sem]⟩, fun i hi => by simp [fz i hi, go_sem]⟩
/-- What a reader of a body of type t makes of the bytes rs. -/
def RdPost (t : Int) (N b : Nat) (rs : List Int) (w : World) : Ending → World → Prop := fun e w' =>
  (∃ B vl vr vd q, e = .returned (B.v vl vr vd) ∧ Rdr N w' b rs q ∧ BOwn w.heap.size w' B vl vr vd ∧ Touch (fun k => k = b) w w' ∧ decB t rs = (if q = some rs.length then some B else none)) ∨
  (e = .panicked (flawC 28) ∧ Touch (fun k => k = b) w w' ∧ decB t rs = none)
end Go.Proofs.YtfdpmlogieaiaaaGreatDoor
