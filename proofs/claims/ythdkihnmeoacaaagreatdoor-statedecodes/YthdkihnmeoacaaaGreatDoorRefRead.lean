/- Contracts: the writer's mask and metric. -/
import Derived.Test.YthdkihnmeoacaaaGreatDoorStHead
import Derived.Test.YthdkihnmeoacaaaGreatDoorRefRdH
import Derived.Test.YthdkihnmeoacaaaGreatDoorStaRd
namespace Go.Proofs.YthdkihnmeoacaaaGreatDoor
open Go.RowKit
set_option linter.unusedVariables false
set_option maxRecDepth 100000

theorem wmask_ok (X : Nat → Prop) (b : Nat) (L : List Int) (most x : Int) (w : World) (hw : Wr X w b L most) (hm : most ≤ 1048576) (h0 : 0 ≤ x) (h1 : x < 4294967296) (hp : pbok x = true) :
    Calls Tryz.prog 130 #[.agg #[.pointer (some ⟨b, 0, none⟩)], .int .u32 x] w fun e w' => e = .returned (.tuple #[]) ∧ Wr X w' b (L ++ numBytes 4 x) most ∧ Kept X w w' := by
  go_enter Tryz.func130, Tryz.ntmps130
  go_wp2_with fail
  refine Calls.mono (isMask_any x _ h0 h1) ?_
  rintro e w1 ⟨rfl, rfl⟩
  go_wp2_with fail
  refine Calls.mono (need_t _ 28 _ (by first | rfl | exact hp | exact decide_eq_true hp)) ?_
  rintro e w2 ⟨rfl, rfl⟩
  go_wp2_with fail
  refine Calls.mono (number_w4 X b L most x _ (hw.keep ((Touch.refl _ _).alloc _)) hm ⟨h0, by omega⟩) ?_
  rintro e w3 ⟨rfl, h3, k3⟩
  have H3 : Hid (Wr X w3 b (L ++ numBytes 4 x) most) := h3
  have K3 : Hid (Kept X w w3) := (Kept.of ((Touch.refl _ _).alloc _)).trans k3
  clear h3 k3
  go_wp2
  go_end0
  exact ⟨rfl, H3.out, K3.out⟩
theorem wmask_no (X : Nat → Prop) (b : Nat) (x : Int) (w : World) (h0 : 0 ≤ x) (h1 : x < 4294967296) (hp : pbok x = false) :
    Calls Tryz.prog 130 #[.agg #[.pointer (some ⟨b, 0, none⟩)], .int .u32 x] w fun e w' => e = .panicked (flawC 28) ∧ Kept X w w' := by
  go_enter Tryz.func130, Tryz.ntmps130
  go_wp2_with fail
  refine Calls.mono (isMask_any x _ h0 h1) ?_
  rintro e w1 ⟨rfl, rfl⟩
  go_wp2_with fail
  refine Calls.mono (need_f _ 28 _ (by first | rfl | exact hp | exact decide_eq_false hp)) ?_
  rintro e w2 ⟨rfl, rfl⟩
  exact ⟨rfl, rfl, Kept.of ((Touch.refl _ _).alloc _)⟩
theorem wmetric_ok (X : Nat → Prop) (b : Nat) (L : List Int) (most x : Int) (w : World) (hw : Wr X w b L most) (hm : most ≤ 1048576) (h0 : 0 ≤ x) (h1 : x < 4294967296) (hp : x ≤ 16777215) :
    Calls Tryz.prog 133 #[.agg #[.pointer (some ⟨b, 0, none⟩)], .int .u32 x] w fun e w' => e = .returned (.tuple #[]) ∧ Wr X w' b (L ++ numBytes 3 x) most ∧ Kept X w w' := by
  go_enter Tryz.func133, Tryz.ntmps133
  go_wp2_with fail
  refine Calls.mono (need_t _ 28 _ (by first | rfl | exact hp | exact decide_eq_true hp)) ?_
  rintro e w2 ⟨rfl, rfl⟩
  go_wp2_with fail
  refine Calls.mono (number_w3 X b L most x _ (hw.keep ((Touch.refl _ _).alloc _)) hm ⟨h0, by omega⟩) ?_
  rintro e w3 ⟨rfl, h3, k3⟩
  have H3 : Hid (Wr X w3 b (L ++ numBytes 3 x) most) := h3
  have K3 : Hid (Kept X w w3) := (Kept.of ((Touch.refl _ _).alloc _)).trans k3
  clear h3 k3
  go_wp2
  go_end0
  exact ⟨rfl, H3.out, K3.out⟩
theorem wmetric_no (X : Nat → Prop) (b : Nat) (x : Int) (w : World) (h0 : 0 ≤ x) (h1 : x < 4294967296) (hp : ¬ x ≤ 16777215) :
    Calls Tryz.prog 133 #[.agg #[.pointer (some ⟨b, 0, none⟩)], .int .u32 x] w fun e w' => e = .panicked (flawC 28) ∧ Kept X w w' := by
  go_enter Tryz.func133, Tryz.ntmps133
  go_wp2_with fail
  refine Calls.mono (need_f _ 28 _ (by first | rfl | exact hp | exact decide_eq_false hp)) ?_
  rintro e w2 ⟨rfl, rfl⟩
  exact ⟨rfl, rfl, Kept.of ((Touch.refl _ _).alloc _)⟩
/-- A body lies in block g, and may be stored into. -/
structure OutB (w : World) (g : Nat) (b : BV) (vl vr vd : Value) : Prop where
  bd : Bd w g b vl vr vd
  fz : ∀ i, i < 9 → w.frozen? ⟨g, i, none⟩ = false
theorem OutB.lt {w : World} {g : Nat} {b : BV} {vl vr vd : Value} (k : OutB w g b vl vr vd) : g < w.heap.size := lt_of_cell k.bd.c0
theorem OutB.keep {w w' : World} {g : Nat} {b : BV} {vl vr vd : Value} (k : OutB w g b vl vr vd) (t : Touch (fun _ => False) w w') : OutB w' g b vl vr vd :=
  ⟨k.bd.keep t, fun i hi => (t.frozen (p := ⟨g, i, none⟩) k.lt (fun h => h)).trans (k.fz i hi)⟩
theorem OutB.kept {X : Nat → Prop} {w w' : World} {g : Nat} {b : BV} {vl vr vd : Value} (k : OutB w g b vl vr vd) (t : Kept X w w') (hx : X g) : OutB w' g b vl vr vd :=
  ⟨⟨t.cell k.bd.c0 hx, t.cell k.bd.c1 hx, t.cell k.bd.c2 hx, t.cell k.bd.c3 hx, t.cell k.bd.c4 hx, t.cell k.bd.c5 hx, t.cell k.bd.c6 hx, t.cell k.bd.c7 hx, t.cell k.bd.c8 hx⟩, fun i hi => (Touch.frozen t (p := ⟨g, i, none⟩) k.lt (fun n => n hx)).trans (k.fz i hi)⟩
theorem OutB.new (w : World) (b : BV) (vl vr vd : Value) (t : TypeId) :
    OutB (w.alloc (.cells #[.int .u8 b.flags, vl, .int .u32 b.mask, vr, .int .u32 b.metric, .bool b.type2, .int .u32 b.fwd, .int .u32 b.tag, vd] t)) w.heap.size b vl vr vd := ⟨Bd.new w b vl vr vd t, fun i hi => by simp [go_sem]⟩
theorem OutB.set0 {w : World} {g : Nat} {b : BV} {vl vr vd : Value} (k : OutB w g b vl vr vd) : OutB (w.setCell ⟨g, 0, none⟩ (.int .u8 0)) g { b with flags := 0 } vl vr vd := by
  obtain ⟨⟨c0, c1, c2, c3, c4, c5, c6, c7, c8⟩, fz⟩ := k
  exact ⟨⟨by simp [c0, go_sem], by simp [c1, go_sem], by simp [c2, go_sem], by simp [c3, go_sem], by simp [c4, go_sem], by simp [c5, go_sem], by simp [c6, go_sem], by simp [c7, go_sem], by simp [c8, go_sem]⟩, fun i hi => by simp [fz i hi, go_sem]⟩
theorem OutB.set2 {w : World} {g : Nat} {b : BV} {vl vr vd : Value} (k : OutB w g b vl vr vd) : OutB (w.setCell ⟨g, 2, none⟩ (.int .u32 0)) g { b with mask := 0 } vl vr vd := by
  obtain ⟨⟨c0, c1, c2, c3, c4, c5, c6, c7, c8⟩, fz⟩ := k
  exact ⟨⟨by simp [c0, go_sem], by simp [c1, go_sem], by simp [c2, go_sem], by simp [c3, go_sem], by simp [c4, go_sem], by simp [c5, go_sem], by simp [c6, go_sem], by simp [c7, go_sem], by simp [c8, go_sem]⟩, fun i hi => by simp [fz i hi, go_sem]⟩
theorem OutB.set4 {w : World} {g : Nat} {b : BV} {vl vr vd : Value} (k : OutB w g b vl vr vd) : OutB (w.setCell ⟨g, 4, none⟩ (.int .u32 0)) g { b with metric := 0 } vl vr vd := by
  obtain ⟨⟨c0, c1, c2, c3, c4, c5, c6, c7, c8⟩, fz⟩ := k
  exact ⟨⟨by simp [c0, go_sem], by simp [c1, go_sem], by simp [c2, go_sem], by simp [c3, go_sem], by simp [c4, go_sem], by simp [c5, go_sem], by simp [c6, go_sem], by simp [c7, go_sem], by simp [c8, go_sem]⟩, fun i hi => by simp [fz i hi, go_sem]⟩
theorem OutB.set5 {w : World} {g : Nat} {b : BV} {vl vr vd : Value} (k : OutB w g b vl vr vd) : OutB (w.setCell ⟨g, 5, none⟩ (.bool false)) g { b with type2 := false } vl vr vd := by
  obtain ⟨⟨c0, c1, c2, c3, c4, c5, c6, c7, c8⟩, fz⟩ := k
  exact ⟨⟨by simp [c0, go_sem], by simp [c1, go_sem], by simp [c2, go_sem], by simp [c3, go_sem], by simp [c4, go_sem], by simp [c5, go_sem], by simp [c6, go_sem], by simp [c7, go_sem], by simp [c8, go_sem]⟩, fun i hi => by simp [fz i hi, go_sem]⟩
theorem OutB.set6 {w : World} {g : Nat} {b : BV} {vl vr vd : Value} (k : OutB w g b vl vr vd) : OutB (w.setCell ⟨g, 6, none⟩ (.int .u32 0)) g { b with fwd := 0 } vl vr vd := by
  obtain ⟨⟨c0, c1, c2, c3, c4, c5, c6, c7, c8⟩, fz⟩ := k
  exact ⟨⟨by simp [c0, go_sem], by simp [c1, go_sem], by simp [c2, go_sem], by simp [c3, go_sem], by simp [c4, go_sem], by simp [c5, go_sem], by simp [c6, go_sem], by simp [c7, go_sem], by simp [c8, go_sem]⟩, fun i hi => by simp [fz i hi, go_sem]⟩
theorem OutB.set7 {w : World} {g : Nat} {b : BV} {vl vr vd : Value} (k : OutB w g b vl vr vd) : OutB (w.setCell ⟨g, 7, none⟩ (.int .u32 0)) g { b with tag := 0 } vl vr vd := by
  obtain ⟨⟨c0, c1, c2, c3, c4, c5, c6, c7, c8⟩, fz⟩ := k
  exact ⟨⟨by simp [c0, go_sem], by simp [c1, go_sem], by simp [c2, go_sem], by simp [c3, go_sem], by simp [c4, go_sem], by simp [c5, go_sem], by simp [c6, go_sem], by simp [c7, go_sem], by simp [c8, go_sem]⟩, fun i hi => by simp [fz i hi, go_sem]⟩
theorem OutB.set1 {w : World} {g : Nat} {b : BV} {vl vr vd : Value} (k : OutB w g b vl vr vd) : OutB (w.setCell ⟨g, 1, none⟩ (.slice none 0 0)) g { b with links := [] } (.slice none 0 0) vr vd := by
  obtain ⟨⟨c0, c1, c2, c3, c4, c5, c6, c7, c8⟩, fz⟩ := k
  exact ⟨⟨by simp [c0, go_sem], by simp [c1, go_sem], by simp [c2, go_sem], by simp [c3, go_sem], by simp [c4, go_sem], by simp [c5, go_sem], by simp [c6, go_sem], by simp [c7, go_sem], by simp [c8, go_sem]⟩, fun i hi => by simp [fz i hi, go_sem]⟩
theorem OutB.set3 {w : World} {g : Nat} {b : BV} {vl vr vd : Value} (k : OutB w g b vl vr vd) : OutB (w.setCell ⟨g, 3, none⟩ (.slice none 0 0)) g { b with routers := [] } vl (.slice none 0 0) vd := by
  obtain ⟨⟨c0, c1, c2, c3, c4, c5, c6, c7, c8⟩, fz⟩ := k
  exact ⟨⟨by simp [c0, go_sem], by simp [c1, go_sem], by simp [c2, go_sem], by simp [c3, go_sem], by simp [c4, go_sem], by simp [c5, go_sem], by simp [c6, go_sem], by simp [c7, go_sem], by simp [c8, go_sem]⟩, fun i hi => by simp [fz i hi, go_sem]⟩
theorem OutB.set8 {w : World} {g : Nat} {b : BV} {vl vr vd : Value} (k : OutB w g b vl vr vd) : OutB (w.setCell ⟨g, 8, none⟩ (.slice none 0 0)) g { b with data := [] } vl vr (.slice none 0 0) := by
  obtain ⟨⟨c0, c1, c2, c3, c4, c5, c6, c7, c8⟩, fz⟩ := k
  exact ⟨⟨by simp [c0, go_sem], by simp [c1, go_sem], by simp [c2, go_sem], by simp [c3, go_sem], by simp [c4, go_sem], by simp [c5, go_sem], by simp [c6, go_sem], by simp [c7, go_sem], by simp [c8, go_sem]⟩, fun i hi => by simp [fz i hi, go_sem]⟩
end Go.Proofs.YthdkihnmeoacaaaGreatDoor

namespace Go.Proofs.YthdkihnmeoacaaaGreatDoor
open Go.RowKit
set_option linter.unusedVariables false
set_option maxRecDepth 100000

theorem Room.set {w : World} {g n : Nat} (h : Room w g n) (j : Nat) (u : Value) : Room (w.setCell ⟨g, j, none⟩ u) g n := fun i hi => by
  obtain ⟨v, hc, hf⟩ := h i hi
  by_cases e : i = j
  · subst e; exact ⟨u, by simp [hc, go_sem], by simp [hf, go_sem]⟩
  · exact ⟨v, by simp [hc, go_sem], by simp [hf, go_sem]⟩
theorem own_keep2 {w w1 w2 : World} {base g : Nat} {v : Value} {l : List Int} (h : w1.ownsRow base 5 1 v l.length (bytesOf l)) (t : Touch (fun k => k = g ∨ k = g + 1) w1 w2) (hg : g + 1 < base) : w2.ownsRow base 5 1 v l.length (bytesOf l) :=
  own_touch h t (fun k hk e => by have := (h.lt k hk).1; omega)

end Go.Proofs.YthdkihnmeoacaaaGreatDoor

namespace Go.Proofs.YthdkihnmeoacaaaGreatDoor
open Go.RowKit
set_option linter.unusedVariables false
set_option maxRecDepth 100000

/-- A body's three rows are the call's own. -/
structure BOwn (base : Nat) (w : World) (B : BV) (vl vr vd : Value) : Prop where
  l : w.ownsRow base 120 4 vl B.links.length (linksC B.links)
  r : w.ownsRow base 23 1 vr B.routers.length (wordsC B.routers)
  d : w.ownsRow base 5 1 vd B.data.length (bytesOf B.data)
theorem BOwn.touch {F : Nat → Prop} {base : Nat} {w w' : World} {B : BV} {vl vr vd : Value} (h : BOwn base w B vl vr vd) (t : Touch F w w') (hF : ∀ k, base ≤ k → ¬ F k) : BOwn base w' B vl vr vd :=
  ⟨own_touch h.l t (fun k hk => hF k (h.l.lt k hk).1), own_touch h.r t (fun k hk => hF k (h.r.lt k hk).1), own_touch h.d t (fun k hk => hF k (h.d.lt k hk).1)⟩
theorem BOwn.keep {base : Nat} {w w' : World} {B : BV} {vl vr vd : Value} (h : BOwn base w B vl vr vd) (t : Touch (fun _ => False) w w') : BOwn base w' B vl vr vd := h.touch t (fun _ _ h => h)
theorem BOwn.lower {base base' : Nat} {w : World} {B : BV} {vl vr vd : Value} (h : BOwn base w B vl vr vd) (hb : base' ≤ base) : BOwn base' w B vl vr vd := ⟨own_lower h.l hb, own_lower h.r hb, own_lower h.d hb⟩
theorem own_fm {w : World} {base e k n : Nat} {v : Value} {xs : List Value} (h : w.ownsRow base e k v n xs) : ∃ a c, v = .slice a n c := by
  rcases h.2 with ⟨rfl, e⟩ | ⟨g, cap, cur, rfl, _⟩
  · exact ⟨none, 0, by rw [e]⟩
  · exact ⟨_, cap, rfl⟩
theorem BOwn.form {base : Nat} {w : World} {B : BV} {vl vr vd : Value} (h : BOwn base w B vl vr vd) : ∃ a1 q1 a3 q3 a8 q8, vl = .slice a1 B.links.length q1 ∧ vr = .slice a3 B.routers.length q3 ∧ vd = .slice a8 B.data.length q8 := by
  obtain ⟨a1, q1, e1⟩ := own_fm h.l
  obtain ⟨a3, q3, e3⟩ := own_fm h.r
  obtain ⟨a8, q8, e8⟩ := own_fm h.d
  exact ⟨a1, q1, a3, q3, a8, q8, e1, e3, e8⟩
theorem BOwn.flat (base : Nat) (w : World) (x0 x2 x4 x6 x7 : Int) (x5 : Bool) : BOwn base w ⟨x0, [], x2, [], x4, x5, x6, x7, []⟩ (.slice none 0 0) (.slice none 0 0) (.slice none 0 0) :=
  ⟨World.ownsRow_nil _ _ _ _, World.ownsRow_nil _ _ _ _, World.ownsRow_nil _ _ _ _⟩
theorem own_vals {w : World} {base e k n : Nat} {v : Value} {xs : List Value} (h : w.ownsRow base e k v n xs) : ValsAt w k v n xs := by
  refine ⟨h.1, ?_⟩
  rcases h.2 with h2 | ⟨g, cap, cur, hv, hb, hh, h1, h2, h3, h4⟩
  · exact Or.inl h2
  · refine Or.inr ⟨_, cap, hv, h1, h2, fun j u hj => ?_⟩
    have hjl := (List.getElem?_eq_some_iff.mp hj).1
    have hl := h.1
    rw [add_plain, Nat.zero_add]
    rw [← h4, List.getElem?_take, if_pos (by omega)] at hj
    simp [World.cell?, hh]
    simpa using hj
theorem BOwn.arg {base : Nat} {w : World} {B : BV} {vl vr vd : Value} (h : BOwn base w B vl vr vd) : BArg w B vl vr vd :=
  ⟨own_vals h.l, own_vals h.r, (own_rowAt h.d).arg⟩
theorem OutB.row3 {w : World} {g : Nat} {b : BV} {vl vr vd : Value} (k : OutB w g b vl vr vd) (l : List Int) (u : Value) : OutB (w.setCell ⟨g, 3, none⟩ u) g { b with routers := l } vl u vd := by
  obtain ⟨⟨c0, c1, c2, c3, c4, c5, c6, c7, c8⟩, fz⟩ := k
  exact ⟨⟨by simp [c0, go_sem], by simp [c1, go_sem], by simp [c2, go_sem], by simp [c3, go_sem], by simp [c4, go_sem], by simp [c5, go_sem], by simp [c6, go_sem], by simp [c7, go_sem], by simp [c8, go_sem]⟩, fun i hi => by simp [fz i hi, go_sem]⟩
theorem OutB.row1 {w : World} {g : Nat} {b : BV} {vl vr vd : Value} (k : OutB w g b vl vr vd) (l : List LV) (u : Value) : OutB (w.setCell ⟨g, 1, none⟩ u) g { b with links := l } u vr vd := by
  obtain ⟨⟨c0, c1, c2, c3, c4, c5, c6, c7, c8⟩, fz⟩ := k
  exact ⟨⟨by simp [c0, go_sem], by simp [c1, go_sem], by simp [c2, go_sem], by simp [c3, go_sem], by simp [c4, go_sem], by simp [c5, go_sem], by simp [c6, go_sem], by simp [c7, go_sem], by simp [c8, go_sem]⟩, fun i hi => by simp [fz i hi, go_sem]⟩
/-- What a reader of a body of type t makes of the bytes rs. -/
def RdPost (t : Int) (N b : Nat) (rs : List Int) (w : World) : Ending → World → Prop := fun e w' =>
  (∃ B vl vr vd q, e = .returned (B.v vl vr vd) ∧ Rdr N w' b rs q ∧ BOwn w.heap.size w' B vl vr vd ∧ Touch (fun k => k = b) w w' ∧ decB t rs = (if q = some rs.length then some B else none)) ∨
  (e = .panicked (flawC 28) ∧ Touch (fun k => k = b) w w' ∧ decB t rs = none)
end Go.Proofs.YthdkihnmeoacaaaGreatDoor

namespace Go.Proofs.YthdkihnmeoacaaaGreatDoor
open Go.RowKit
set_option linter.unusedVariables false
set_option maxRecDepth 100000

theorem Nm.keep {w w' : World} {u : Value} {n : Int} (h : Nm w u n) (t : Touch (fun _ => False) w w') : Nm w' u n := by
  obtain ⟨l, h1, h2, h3, h4⟩ := h.out
  exact ⟨l, h1.keepN t, h2, h3, h4⟩
def zeroBody : Value := .agg #[.int .u8 0, .slice none 0 0, .int .u32 0, .slice none 0 0, .int .u32 0, .bool false, .int .u32 0, .int .u32 0, .slice none 0 0]

set_option maxHeartbeats 1000000 in
theorem rread_sum (t : Int) (ht : t = 3 ∨ t = 4) (v : Value) (rs : List Int) (w : World) (hv : ArgAt w v rs) (hby : ∀ z ∈ rs, 0 ≤ z ∧ z < 256) (hl : rs.length = 8) :
    Calls Tryz.prog 74 #[.int .u8 t, v] w fun e w' => e = .returned (.tuple #[.agg #[.int .u8 0, .slice none 0 0, .int .u32 (numOf (rs.take 4)), .slice none 0 0, .int .u32 (numOf ((rs.drop 4).take 4)), .bool false, .int .u32 0, .int .u32 0, .slice none 0 0], .bool true]) ∧ Touch (fun _ => False) w w' := by
  obtain ⟨va, vc, rfl, hm⟩ := hv.form
  obtain ⟨u0, hu0, a0⟩ := cut_to hv rfl (by omega) 4 (by omega)
  replace hu0 : ∀ w, Sem.run Tryz.prog (Instr.slice 28 (.slice va rs.length vc) none (some (.int .i64 4)) none) w = .ok u0 w := hu0
  have M0 : Nm w u0 (numOf (rs.take 4)) := ⟨_, a0, fun x hx => hby x (List.mem_of_mem_take hx), by simp [List.length_take]; omega, rfl⟩
  obtain ⟨u1, hu1, a1⟩ := cut_mid hv rfl (by omega) 4 8 (by omega) (by omega)
  replace hu1 : ∀ w, Sem.run Tryz.prog (Instr.slice 28 (.slice va rs.length vc) (some (.int .i64 4)) (some (.int .i64 8)) none) w = .ok u1 w := hu1
  have M1 : Nm w u1 (numOf ((rs.drop 4).take 4)) := ⟨_, a1, fun x hx => hby x (List.mem_of_mem_drop (List.mem_of_mem_take hx)), by simp [List.length_take]; omega, rfl⟩
  generalize numOf (rs.take 4) = n0 at *
  generalize numOf ((rs.drop 4).take 4) = n1 at *
  have hn : (rs.length : Int) = 8 := by omega
  clear hv hby hl a0 a1
  rcases ht with rfl | rfl
  all_goals
    go_enter Tryz.func74, Tryz.ntmps74
    go_wp2_with fail
    refine Calls.mono (number_sym (Nm.keep M0 ?tt)) ?_
    case tt => exact (by repeat (first | exact Touch.refl _ _ | refine Touch.alloc ?_ _ | refine Touch.setCell ?_ (Or.inr (by simp)) _))
    rintro e wx ⟨rfl, rfl⟩
    go_wp2_with fail
    refine Calls.mono (number_sym (Nm.keep M1 ?tt)) ?_
    case tt => exact (by repeat (first | exact Touch.refl _ _ | refine Touch.alloc ?_ _ | refine Touch.setCell ?_ (Or.inr (by simp)) _))
    rintro e wx ⟨rfl, rfl⟩
    go_wp2_with fail
    refine bodyPost_ret (v := .tuple #[.agg #[.int .u8 0, .slice none 0 0, .int .u32 n0, .slice none 0 0, .int .u32 n1, .bool false, .int .u32 0, .int .u32 0, .slice none 0 0], .bool true]) (by simp [results, Tryz.results74, go_sem]) rfl ?_
    exact ⟨rfl, (by repeat (first | exact Touch.refl _ _ | refine Touch.alloc ?_ _ | refine Touch.setCell ?_ (Or.inr (by simp)) _))⟩

set_option maxHeartbeats 1000000 in
theorem rread_out (t : Int) (ht : t = 5 ∨ t = 7) (v : Value) (rs : List Int) (w : World) (hv : ArgAt w v rs) (hby : ∀ z ∈ rs, 0 ≤ z ∧ z < 256) (hl : rs.length = 16) :
    Calls Tryz.prog 74 #[.int .u8 t, v] w fun e w' => e = .returned (.tuple #[.agg #[.int .u8 0, .slice none 0 0, .int .u32 (numOf (rs.take 4)), .slice none 0 0, .int .u32 (numOf ((rs.drop 5).take 3)), .bool (rs.getD 4 0 == 128), .int .u32 (numOf ((rs.drop 8).take 4)), .int .u32 (numOf ((rs.drop 12).take 4)), .slice none 0 0], .bool true]) ∧ Touch (fun _ => False) w w' := by
  obtain ⟨va, vc, rfl, hm⟩ := hv.form
  obtain ⟨u0, hu0, a0⟩ := cut_to hv rfl (by omega) 4 (by omega)
  replace hu0 : ∀ w, Sem.run Tryz.prog (Instr.slice 28 (.slice va rs.length vc) none (some (.int .i64 4)) none) w = .ok u0 w := hu0
  have M0 : Nm w u0 (numOf (rs.take 4)) := ⟨_, a0, fun x hx => hby x (List.mem_of_mem_take hx), by simp [List.length_take]; omega, rfl⟩
  obtain ⟨u1, hu1, a1⟩ := cut_mid hv rfl (by omega) 5 8 (by omega) (by omega)
  replace hu1 : ∀ w, Sem.run Tryz.prog (Instr.slice 28 (.slice va rs.length vc) (some (.int .i64 5)) (some (.int .i64 8)) none) w = .ok u1 w := hu1
  have M1 : Nm w u1 (numOf ((rs.drop 5).take 3)) := ⟨_, a1, fun x hx => hby x (List.mem_of_mem_drop (List.mem_of_mem_take hx)), by simp [List.length_take]; omega, rfl⟩
  obtain ⟨u2, hu2, a2⟩ := cut_mid hv rfl (by omega) 8 12 (by omega) (by omega)
  replace hu2 : ∀ w, Sem.run Tryz.prog (Instr.slice 28 (.slice va rs.length vc) (some (.int .i64 8)) (some (.int .i64 12)) none) w = .ok u2 w := hu2
  have M2 : Nm w u2 (numOf ((rs.drop 8).take 4)) := ⟨_, a2, fun x hx => hby x (List.mem_of_mem_drop (List.mem_of_mem_take hx)), by simp [List.length_take]; omega, rfl⟩
  obtain ⟨u3, hu3, a3⟩ := cut_mid hv rfl (by omega) 12 16 (by omega) (by omega)
  replace hu3 : ∀ w, Sem.run Tryz.prog (Instr.slice 28 (.slice va rs.length vc) (some (.int .i64 12)) (some (.int .i64 16)) none) w = .ok u3 w := hu3
  have M3 : Nm w u3 (numOf ((rs.drop 12).take 4)) := ⟨_, a3, fun x hx => hby x (List.mem_of_mem_drop (List.mem_of_mem_take hx)), by simp [List.length_take]; omega, rfl⟩
  obtain ⟨ga, oa, rfl⟩ := rowAt_some (hv.row (by omega)) (by omega)
  have b4 := rowAt_cell (hv.row (by omega)) 4 (by omega)
  have hga := lt_of_cell b4
  have hga1 : ¬ ga = w.heap.size := by omega
  have hga2 : ¬ ga = w.heap.size + 1 := by omega
  have hga3 : ¬ w.heap.size + 1 = ga := by omega
  have hi4 : (4 : Int) < (rs.length : Int) := by omega
  have hj4 : 4 < rs.length := by omega
  generalize rs.getD 4 0 = m4 at *
  obtain ⟨bt, HBT⟩ : ∃ bt, Hid ((m4 == 128) = bt) := ⟨_, rfl⟩
  rw [HBT.out]
  have hb4 : ((m4 : Int) == 128) = bt := HBT.out
  generalize numOf (rs.take 4) = n0 at *
  generalize numOf ((rs.drop 5).take 3) = n1 at *
  generalize numOf ((rs.drop 8).take 4) = n2 at *
  generalize numOf ((rs.drop 12).take 4) = n3 at *
  have hn : (rs.length : Int) = 16 := by omega
  clear hv hby hl a0 a1 a2 a3
  rcases ht with rfl | rfl
  all_goals
    go_enter Tryz.func74, Tryz.ntmps74
    go_wp2_with fail
    refine Calls.mono (number_sym (Nm.keep M0 ?tt)) ?_
    case tt => exact (by repeat (first | exact Touch.refl _ _ | refine Touch.alloc ?_ _ | refine Touch.setCell ?_ (Or.inr (by simp)) _))
    rintro e wx ⟨rfl, rfl⟩
    go_wp2_with fail
    refine Calls.mono (number_sym (Nm.keep M1 ?tt)) ?_
    case tt => exact (by repeat (first | exact Touch.refl _ _ | refine Touch.alloc ?_ _ | refine Touch.setCell ?_ (Or.inr (by simp)) _))
    rintro e wx ⟨rfl, rfl⟩
    go_wp2_with fail
    refine Calls.mono (number_sym (Nm.keep M2 ?tt)) ?_
    case tt => exact (by repeat (first | exact Touch.refl _ _ | refine Touch.alloc ?_ _ | refine Touch.setCell ?_ (Or.inr (by simp)) _))
    rintro e wx ⟨rfl, rfl⟩
    go_wp2_with fail
    refine Calls.mono (number_sym (Nm.keep M3 ?tt)) ?_
    case tt => exact (by repeat (first | exact Touch.refl _ _ | refine Touch.alloc ?_ _ | refine Touch.setCell ?_ (Or.inr (by simp)) _))
    rintro e wx ⟨rfl, rfl⟩
    go_wp2_with fail
    refine bodyPost_ret (v := .tuple #[.agg #[.int .u8 0, .slice none 0 0, .int .u32 n0, .slice none 0 0, .int .u32 n1, .bool bt, .int .u32 n2, .int .u32 n3, .slice none 0 0], .bool true]) (by simp [results, Tryz.results74, go_sem]) rfl ?_
    exact ⟨rfl, (by repeat (first | exact Touch.refl _ _ | refine Touch.alloc ?_ _ | refine Touch.setCell ?_ (Or.inr (by simp)) _))⟩

set_option maxHeartbeats 1000000 in
theorem rread_few (t : Int) (ht : t = 1 ∨ t = 2) (v : Value) (rs : List Int) (w : World) (hv : ArgAt w v rs) (hl : rs.length < 4) :
    Calls Tryz.prog 74 #[.int .u8 t, v] w fun e w' => e = .returned (.tuple #[.agg #[.int .u8 0, .slice none 0 0, .int .u32 0, .slice none 0 0, .int .u32 0, .bool false, .int .u32 0, .int .u32 0, .slice none 0 0], .bool false]) ∧ Touch (fun _ => False) w w' := by
  obtain ⟨va, vc, rfl, hm⟩ := hv.form
  have hn : (rs.length : Int) < 4 := by omega
  clear hv
  rcases ht with rfl | rfl
  all_goals
    go_enter Tryz.func74, Tryz.ntmps74
    go_wp2_with fail
    refine bodyPost_ret (v := .tuple #[.agg #[.int .u8 0, .slice none 0 0, .int .u32 0, .slice none 0 0, .int .u32 0, .bool false, .int .u32 0, .int .u32 0, .slice none 0 0], .bool false]) (by simp [results, Tryz.results74, go_sem]) rfl ?_
    exact ⟨rfl, (by repeat (first | exact Touch.refl _ _ | refine Touch.alloc ?_ _ | refine Touch.setCell ?_ (Or.inr (by simp)) _))⟩

set_option maxHeartbeats 1000000 in
theorem rread_not8 (t : Int) (ht : t = 3 ∨ t = 4) (v : Value) (rs : List Int) (w : World) (hv : ArgAt w v rs) (hl : rs.length ≠ 8) :
    Calls Tryz.prog 74 #[.int .u8 t, v] w fun e w' => e = .returned (.tuple #[.agg #[.int .u8 0, .slice none 0 0, .int .u32 0, .slice none 0 0, .int .u32 0, .bool false, .int .u32 0, .int .u32 0, .slice none 0 0], .bool false]) ∧ Touch (fun _ => False) w w' := by
  obtain ⟨va, vc, rfl, hm⟩ := hv.form
  have hn : ¬ (rs.length : Int) = 8 := by omega
  clear hv
  rcases ht with rfl | rfl
  all_goals
    go_enter Tryz.func74, Tryz.ntmps74
    go_wp2_with fail
    refine bodyPost_ret (v := .tuple #[.agg #[.int .u8 0, .slice none 0 0, .int .u32 0, .slice none 0 0, .int .u32 0, .bool false, .int .u32 0, .int .u32 0, .slice none 0 0], .bool false]) (by simp [results, Tryz.results74, go_sem]) rfl ?_
    exact ⟨rfl, (by repeat (first | exact Touch.refl _ _ | refine Touch.alloc ?_ _ | refine Touch.setCell ?_ (Or.inr (by simp)) _))⟩

set_option maxHeartbeats 1000000 in
theorem rread_not16 (t : Int) (ht : t = 5 ∨ t = 7) (v : Value) (rs : List Int) (w : World) (hv : ArgAt w v rs) (hl : rs.length ≠ 16) :
    Calls Tryz.prog 74 #[.int .u8 t, v] w fun e w' => e = .returned (.tuple #[.agg #[.int .u8 0, .slice none 0 0, .int .u32 0, .slice none 0 0, .int .u32 0, .bool false, .int .u32 0, .int .u32 0, .slice none 0 0], .bool false]) ∧ Touch (fun _ => False) w w' := by
  obtain ⟨va, vc, rfl, hm⟩ := hv.form
  have hn : ¬ (rs.length : Int) = 16 := by omega
  clear hv
  rcases ht with rfl | rfl
  all_goals
    go_enter Tryz.func74, Tryz.ntmps74
    go_wp2_with fail
    refine bodyPost_ret (v := .tuple #[.agg #[.int .u8 0, .slice none 0 0, .int .u32 0, .slice none 0 0, .int .u32 0, .bool false, .int .u32 0, .int .u32 0, .slice none 0 0], .bool false]) (by simp [results, Tryz.results74, go_sem]) rfl ?_
    exact ⟨rfl, (by repeat (first | exact Touch.refl _ _ | refine Touch.alloc ?_ _ | refine Touch.setCell ?_ (Or.inr (by simp)) _))⟩

set_option maxHeartbeats 1000000 in
theorem rread_data (t : Int) (h1 : ¬ t = 1) (h2 : ¬ t = 2) (h3 : ¬ t = 3) (h4 : ¬ t = 4) (h5 : ¬ t = 5) (h7 : ¬ t = 7) (v : Value) (rs : List Int) (w : World) (hv : ArgAt w v rs) (hl : rs.length ≤ 1000000) :
    Calls Tryz.prog 74 #[.int .u8 t, v] w fun e w' => ∃ u, e = .returned (.tuple #[.agg #[.int .u8 0, .slice none 0 0, .int .u32 0, .slice none 0 0, .int .u32 0, .bool false, .int .u32 0, .int .u32 0, u], .bool true]) ∧ Buf w w' u rs := by
  obtain ⟨va, vc, rfl, hm⟩ := hv.form
  have HV' : Hid (ArgAt w (.slice va rs.length vc) rs) := hv
  clear hv
  go_enter Tryz.func74, Tryz.ntmps74
  go_wp2_with (at_builtin; refine app_arg rfl (.tmp 11) (.tmp 12) rfl ((w.alloc (.cells #[.int .u8 0, .slice none 0 0, .int .u32 0, .slice none 0 0, .int .u32 0, .bool false, .int .u32 0, .int .u32 0, .slice none 0 0] 30)).alloc (.cells #[.int .u8 0, .slice none 0 0, .int .u32 0, .slice none 0 0, .int .u32 0, .bool false, .int .u32 0, .int .u32 0, .slice none 0 0] 30)) (.slice none 0 0) [] rfl (Buf.nil (Touch.refl _ _)) _ rs rfl (HV'.out.keepN (((Touch.refl _ _).alloc _).alloc _)) (by simp; omega) ?_)
  intro v' w1 b1
  obtain ⟨xa, xc, rfl⟩ := b1.form
  have B1 : Hid (w1.ownsRow (w.heap.size + 2) 5 1 (.slice xa rs.length xc) rs.length (bytesOf rs)) := by have := b1.own; show World.ownsRow _ _ _ _ _ _ _; simpa using this
  have T1 : Hid (Touch (fun _ => False) w w1) := (((Touch.refl _ w).alloc _).alloc _).trans b1.t
  have R1 : Hid (Room w1 w.heap.size 9) := ((Room.new w #[.int .u8 0, .slice none 0 0, .int .u32 0, .slice none 0 0, .int .u32 0, .bool false, .int .u32 0, .int .u32 0, .slice none 0 0] 30).keep ((Touch.refl _ _).alloc _)).keep b1.t
  have s0 : w1.cell? ⟨w.heap.size + 1, 0, none⟩ = some (.int .u8 0) := b1.t.cellN (by simp [go_sem])
  have s1 : w1.cell? ⟨w.heap.size + 1, 1, none⟩ = some (.slice none 0 0) := b1.t.cellN (by simp [go_sem])
  have s2 : w1.cell? ⟨w.heap.size + 1, 2, none⟩ = some (.int .u32 0) := b1.t.cellN (by simp [go_sem])
  have s3 : w1.cell? ⟨w.heap.size + 1, 3, none⟩ = some (.slice none 0 0) := b1.t.cellN (by simp [go_sem])
  have s4 : w1.cell? ⟨w.heap.size + 1, 4, none⟩ = some (.int .u32 0) := b1.t.cellN (by simp [go_sem])
  have s5 : w1.cell? ⟨w.heap.size + 1, 5, none⟩ = some (.bool false) := b1.t.cellN (by simp [go_sem])
  have s6 : w1.cell? ⟨w.heap.size + 1, 6, none⟩ = some (.int .u32 0) := b1.t.cellN (by simp [go_sem])
  have s7 : w1.cell? ⟨w.heap.size + 1, 7, none⟩ = some (.int .u32 0) := b1.t.cellN (by simp [go_sem])
  have s8 : w1.cell? ⟨w.heap.size + 1, 8, none⟩ = some (.slice none 0 0) := b1.t.cellN (by simp [go_sem])
  have f8 : w1.frozen? ⟨w.heap.size + 1, 8, none⟩ = false := (b1.t.frozen (p := ⟨w.heap.size + 1, 8, none⟩) (by simp) (fun h => h)).trans (by simp [go_sem])
  have hne : ¬ w.heap.size = w.heap.size + 1 := by omega
  have hne' : ¬ w.heap.size + 1 = w.heap.size := by omega
  clear b1
  go_upto_region 35 with fail
  have x0 : (w1.setCell ⟨w.heap.size + 1, 8, none⟩ (.slice xa rs.length xc)).cell? ⟨w.heap.size + 1, 0, none⟩ = some (.int .u8 0) := by simp [s0, go_sem]
  have x1 : (w1.setCell ⟨w.heap.size + 1, 8, none⟩ (.slice xa rs.length xc)).cell? ⟨w.heap.size + 1, 1, none⟩ = some (.slice none 0 0) := by simp [s1, go_sem]
  have x2 : (w1.setCell ⟨w.heap.size + 1, 8, none⟩ (.slice xa rs.length xc)).cell? ⟨w.heap.size + 1, 2, none⟩ = some (.int .u32 0) := by simp [s2, go_sem]
  have x3 : (w1.setCell ⟨w.heap.size + 1, 8, none⟩ (.slice xa rs.length xc)).cell? ⟨w.heap.size + 1, 3, none⟩ = some (.slice none 0 0) := by simp [s3, go_sem]
  have x4 : (w1.setCell ⟨w.heap.size + 1, 8, none⟩ (.slice xa rs.length xc)).cell? ⟨w.heap.size + 1, 4, none⟩ = some (.int .u32 0) := by simp [s4, go_sem]
  have x5 : (w1.setCell ⟨w.heap.size + 1, 8, none⟩ (.slice xa rs.length xc)).cell? ⟨w.heap.size + 1, 5, none⟩ = some (.bool false) := by simp [s5, go_sem]
  have x6 : (w1.setCell ⟨w.heap.size + 1, 8, none⟩ (.slice xa rs.length xc)).cell? ⟨w.heap.size + 1, 6, none⟩ = some (.int .u32 0) := by simp [s6, go_sem]
  have x7 : (w1.setCell ⟨w.heap.size + 1, 8, none⟩ (.slice xa rs.length xc)).cell? ⟨w.heap.size + 1, 7, none⟩ = some (.int .u32 0) := by simp [s7, go_sem]
  have x8 : (w1.setCell ⟨w.heap.size + 1, 8, none⟩ (.slice xa rs.length xc)).cell? ⟨w.heap.size + 1, 8, none⟩ = some (.slice xa rs.length xc) := by simp [s8, go_sem]
  have U2 : Touch (fun k => k = w.heap.size + 1) w1 (w1.setCell ⟨w.heap.size + 1, 8, none⟩ (.slice xa rs.length xc)) := Touch.setCell (F := fun k => k = w.heap.size + 1) (p := ⟨w.heap.size + 1, 8, none⟩) (Touch.refl _ _) (Or.inl rfl) _
  have R2 : Room (w1.setCell ⟨w.heap.size + 1, 8, none⟩ (.slice xa rs.length xc)) w.heap.size 9 := R1.out.touch U2 hne
  have B2 : Hid ((w1.setCell ⟨w.heap.size + 1, 8, none⟩ (.slice xa rs.length xc)).ownsRow (w.heap.size + 2) 5 1 (.slice xa rs.length xc) rs.length (bytesOf rs)) := own_store B1.out (by show w.heap.size + 1 < w.heap.size + 2; omega) _
  have T2 : Hid (Touch (fun _ => False) w (w1.setCell ⟨w.heap.size + 1, 8, none⟩ (.slice xa rs.length xc))) := T1.out.trans' U2 (fun i hi e => by omega)
  clear s0 s1 s2 s3 s4 s5 s6 s7 s8 f8 U2 B1 T1 R1
  generalize w1.setCell ⟨w.heap.size + 1, 8, none⟩ (.slice xa rs.length xc) = w2 at *
  obtain ⟨zz0, zc0, zf0⟩ := R2 0 (by omega)
  obtain ⟨zz1, zc1, zf1⟩ := R2 1 (by omega)
  obtain ⟨zz2, zc2, zf2⟩ := R2 2 (by omega)
  obtain ⟨zz3, zc3, zf3⟩ := R2 3 (by omega)
  obtain ⟨zz4, zc4, zf4⟩ := R2 4 (by omega)
  obtain ⟨zz5, zc5, zf5⟩ := R2 5 (by omega)
  obtain ⟨zz6, zc6, zf6⟩ := R2 6 (by omega)
  obtain ⟨zz7, zc7, zf7⟩ := R2 7 (by omega)
  obtain ⟨zz8, zc8, zf8⟩ := R2 8 (by omega)
  obtain ⟨wz, hwz⟩ : ∃ wz, wz = (((((((((w2.setCell ⟨w.heap.size, 0, none⟩ (.int .u8 0)).setCell ⟨w.heap.size, 1, none⟩ (.slice none 0 0)).setCell ⟨w.heap.size, 2, none⟩ (.int .u32 0)).setCell ⟨w.heap.size, 3, none⟩ (.slice none 0 0)).setCell ⟨w.heap.size, 4, none⟩ (.int .u32 0)).setCell ⟨w.heap.size, 5, none⟩ (.bool false)).setCell ⟨w.heap.size, 6, none⟩ (.int .u32 0)).setCell ⟨w.heap.size, 7, none⟩ (.int .u32 0)).setCell ⟨w.heap.size, 8, none⟩ (.slice xa rs.length xc)) := ⟨_, rfl⟩
  have zd0 : wz.cell? ⟨w.heap.size, 0, none⟩ = some (.int .u8 0) := by rw [hwz]; simp [zc0, go_sem]
  have zd1 : wz.cell? ⟨w.heap.size, 1, none⟩ = some (.slice none 0 0) := by rw [hwz]; simp [zc1, go_sem]
  have zd2 : wz.cell? ⟨w.heap.size, 2, none⟩ = some (.int .u32 0) := by rw [hwz]; simp [zc2, go_sem]
  have zd3 : wz.cell? ⟨w.heap.size, 3, none⟩ = some (.slice none 0 0) := by rw [hwz]; simp [zc3, go_sem]
  have zd4 : wz.cell? ⟨w.heap.size, 4, none⟩ = some (.int .u32 0) := by rw [hwz]; simp [zc4, go_sem]
  have zd5 : wz.cell? ⟨w.heap.size, 5, none⟩ = some (.bool false) := by rw [hwz]; simp [zc5, go_sem]
  have zd6 : wz.cell? ⟨w.heap.size, 6, none⟩ = some (.int .u32 0) := by rw [hwz]; simp [zc6, go_sem]
  have zd7 : wz.cell? ⟨w.heap.size, 7, none⟩ = some (.int .u32 0) := by rw [hwz]; simp [zc7, go_sem]
  have zd8 : wz.cell? ⟨w.heap.size, 8, none⟩ = some (.slice xa rs.length xc) := by rw [hwz]; simp [zc8, go_sem]
  have HUz : Hid (Touch (fun k => k = w.heap.size) w2 wz) := by show Touch _ _ _; rw [hwz]; refine Touch.setCell (F := fun k => k = w.heap.size) (p := ⟨w.heap.size, 8, none⟩) ?_ (Or.inl rfl) _; refine Touch.setCell (F := fun k => k = w.heap.size) (p := ⟨w.heap.size, 7, none⟩) ?_ (Or.inl rfl) _; refine Touch.setCell (F := fun k => k = w.heap.size) (p := ⟨w.heap.size, 6, none⟩) ?_ (Or.inl rfl) _; refine Touch.setCell (F := fun k => k = w.heap.size) (p := ⟨w.heap.size, 5, none⟩) ?_ (Or.inl rfl) _; refine Touch.setCell (F := fun k => k = w.heap.size) (p := ⟨w.heap.size, 4, none⟩) ?_ (Or.inl rfl) _; refine Touch.setCell (F := fun k => k = w.heap.size) (p := ⟨w.heap.size, 3, none⟩) ?_ (Or.inl rfl) _; refine Touch.setCell (F := fun k => k = w.heap.size) (p := ⟨w.heap.size, 2, none⟩) ?_ (Or.inl rfl) _; refine Touch.setCell (F := fun k => k = w.heap.size) (p := ⟨w.heap.size, 1, none⟩) ?_ (Or.inl rfl) _; refine Touch.setCell (F := fun k => k = w.heap.size) (p := ⟨w.heap.size, 0, none⟩) ?_ (Or.inl rfl) _; exact Touch.refl _ _
  have HWz : Hid (wz = (((((((((w2.setCell ⟨w.heap.size, 0, none⟩ (.int .u8 0)).setCell ⟨w.heap.size, 1, none⟩ (.slice none 0 0)).setCell ⟨w.heap.size, 2, none⟩ (.int .u32 0)).setCell ⟨w.heap.size, 3, none⟩ (.slice none 0 0)).setCell ⟨w.heap.size, 4, none⟩ (.int .u32 0)).setCell ⟨w.heap.size, 5, none⟩ (.bool false)).setCell ⟨w.heap.size, 6, none⟩ (.int .u32 0)).setCell ⟨w.heap.size, 7, none⟩ (.int .u32 0)).setCell ⟨w.heap.size, 8, none⟩ (.slice xa rs.length xc))) := hwz
  clear hwz
  go_wp2_with fail
  rw [← HWz.out]
  clear HWz zc0 zf0 zc1 zf1 zc2 zf2 zc3 zf3 zc4 zf4 zc5 zf5 zc6 zf6 zc7 zf7 zc8 zf8
  refine bodyPost_ret (v := .tuple #[.agg #[.int .u8 0, .slice none 0 0, .int .u32 0, .slice none 0 0, .int .u32 0, .bool false, .int .u32 0, .int .u32 0, .slice xa rs.length xc], .bool true]) (by simp [results, Tryz.results74, go_sem, zd0, zd1, zd2, zd3, zd4, zd5, zd6, zd7, zd8]) rfl ?_
  refine ⟨_, rfl, own_lower (own_touch B2.out HUz.out (fun k hk e => by have h := (B2.out.lt k hk).1; omega)) (by omega), T2.out.trans' HUz.out (fun i hi e => by omega)⟩
end Go.Proofs.YthdkihnmeoacaaaGreatDoor
