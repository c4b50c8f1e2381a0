/- The document's May, and lay, of every known type. -/
import Derived.Test.YthdkihnmeoacaaaGreatDoorRefMay2
import Derived.Test.YthdkihnmeoacaaaGreatDoorStFace
import Derived.Test.YthdkihnmeoacaaaGreatDoorRefRdH
import Derived.Test.YthdkihnmeoacaaaGreatDoorRefRead
import Derived.Deep.RegionHeld2
namespace Go.Proofs.YthdkihnmeoacaaaGreatDoor
open Go.RowKit
set_option linter.unusedVariables false
set_option maxRecDepth 100000

theorem rmay_any (t : Int) (hk : knownB t = true) (b : BV) (vl vr vd : Value) (w : World) (ha : BArg w b vl vr vd) (hb1 : b.links.length ≤ 8192) (hb2 : b.routers.length ≤ 32768) (hb3 : b.data.length ≤ 131072) :
    Calls Tryz.prog 41 #[.int .u8 t, b.v vl vr vd] w fun e w' => e = .returned (.bool (mayB t b)) ∧ Touch (fun _ => False) w w' := by
  obtain ⟨al, cl, rfl, -⟩ := ValsAt.form ha.l
  obtain ⟨ar, cr, rfl, -⟩ := ValsAt.form ha.r
  obtain ⟨ad, cd, rfl, -⟩ := ArgAt.form ha.d
  have HB := fun w => rbits_any b.mask w
  have HAl := fun w' (t' : Touch (fun _ => False) w w') => ralone_any t hk b _ _ _ w' (ha.keep t') hb1 hb2 hb3
  cases hA : aloneB t b with
  | false =>
    rw [show mayB t b = false by simp [mayB, hA]]
    exact rmay_a t b al ar ad cl cr cd b.routers.length b.data.length _ _ w ha.l hb1 hb2 hb3 HB HAl hA
  | true =>
    cases hM : pbok b.mask with
    | false =>
      rw [show mayB t b = false by simp [mayB, hM]]
      exact rmay_m t b al ar ad cl cr cd b.routers.length b.data.length _ _ w ha.l hb1 hb2 hb3 HB HAl hA hM
    | true =>
      by_cases h3 : 16777215 < b.metric
      · rw [show mayB t b = false by unfold mayB; rw [decide_eq_false (show ¬ b.metric ≤ 16777215 by omega)]; simp]
        exact rmay_t t b al ar ad cl cr cd b.routers.length b.data.length _ _ w ha.l hb1 hb2 hb3 HB HAl hA hM h3
      · by_cases h4 : b.data.length % 4 = 0
        · have h4' : ((b.data.length : Nat) : Int) % 4 = 0 := by omega
          by_cases ht : t = 2
          · by_cases h6 : b.routers.length = 0
            · rw [show mayB t b = false by unfold mayB; rw [decide_eq_false (show ¬ (t = 2 → 0 < b.routers.length) from fun h => by have := h ht; omega)]; simp]
              exact rmay_r t b al ar ad cl cr cd b.routers.length b.data.length _ _ w ha.l hb1 hb2 hb3 HB HAl hA hM h3 h4' ht h6
            · refine rmay_l2 t b al ar ad cl cr cd b.routers.length b.data.length _ _ w ha.l hb1 hb2 hb3 HB HAl hA hM h3 h4' ht (beq_eq_false_iff_ne.mpr (by omega)) _ ?_
              show _ = _
              unfold mayB
              rw [hA, hM, decide_eq_true (show b.metric ≤ 16777215 by omega), decide_eq_true h4, decide_eq_true (show t = 2 → 0 < b.routers.length from fun _ => by omega)]
              simp
          · refine rmay_l t b al ar ad cl cr cd b.routers.length b.data.length _ _ w ha.l hb1 hb2 hb3 HB HAl hA hM h3 h4' ht _ ?_
            show _ = _
            unfold mayB
            rw [hA, hM, decide_eq_true (show b.metric ≤ 16777215 by omega), decide_eq_true h4, decide_eq_true (show t = 2 → 0 < b.routers.length from fun h => absurd h ht)]
            simp
        · rw [show mayB t b = false by unfold mayB; rw [decide_eq_false h4]; simp]
          exact rmay_d t b al ar ad cl cr cd b.routers.length b.data.length _ _ w ha.l hb1 hb2 hb3 HB HAl hA hM h3 (b.data.length % 4) (by omega) (by omega)

theorem rlay_any (t : Int) (hk : knownB t = true) (b : BV) (ok : b.Ok) (vl vr vd : Value) (w : World) (ha : BArg w b vl vr vd) (hb1 : b.links.length ≤ 8192) (hb2 : b.routers.length ≤ 32768) (hb3 : b.data.length ≤ 131072) :
    Calls Tryz.prog 43 #[.int .u8 t, b.v vl vr vd] w fun e w' => ∃ v, e = .returned v ∧ Buf w w' v (layB t b) := by
  unfold layB
  by_cases h1 : t = 1
  · rw [if_pos h1]; exact rlay_one t h1 b ok vl vr vd w ha hb1 hb2 hb3
  · rw [if_neg h1]
    by_cases h2 : t = 2
    · rw [if_pos h2]; exact rlay_two t h2 b ok vl vr vd w ha hb1 hb2 hb3
    · rw [if_neg h2]
      by_cases h3 : t = 3
      · rw [if_pos (Or.inl h3)]; exact rlay_three t h3 b ok vl vr vd w ha hb1 hb2 hb3
      · by_cases h4 : t = 4
        · rw [if_pos (Or.inr h4)]; exact rlay_four t h4 b ok vl vr vd w ha hb1 hb2 hb3
        · rw [if_neg (by omega)]
          by_cases h5 : t = 5
          · rw [if_pos (Or.inl h5)]; exact rlay_five t h5 b ok vl vr vd w ha hb1 hb2 hb3
          · by_cases h7 : t = 7
            · rw [if_pos (Or.inr h7)]; exact rlay_seven t h7 b ok vl vr vd w ha hb1 hb2 hb3
            · rw [if_neg (by omega)]; exact rlay_data t h1 h2 h3 h4 h5 h7 b ok vl vr vd w ha hb1 hb2 hb3
end Go.Proofs.YthdkihnmeoacaaaGreatDoor

namespace Go.Proofs.YthdkihnmeoacaaaGreatDoor
open Go.RowKit
set_option linter.unusedVariables false
set_option maxRecDepth 100000

theorem catchB_flaw (b : Nat) (x e : Int) (w : World) (hc : w.cell? ⟨b, 0, none⟩ = some (.int .i64 x)) (hz : w.frozen? ⟨b, 0, none⟩ = false) :
    CallsD Tryz.prog 97 #[.pointer (some ⟨b, 0, none⟩)] (.panicking (flawC e)) w fun r u' w' =>
      r = .returned (.tuple #[]) ∧ u' = .panicking [{ v := .iface 122 (.int .i64 e), recovered := true }] ∧ w' = w.setCell ⟨b, 0, none⟩ (.int .i64 e) := by
  refine callsD_of_wpS Tryz.func97 rfl fun c₀ cs hu => ?_
  apply wpS_seq
  apply wpS_region
  simp [wpOpsS, go_sem, recoverD, hu, flawC, ta_flaw, Tryz.ntmps97, Exit.thenS]
  apply wpS_seq
  apply wpS_region
  simp [wpOpsS, go_sem, Exit.thenS]
  refine wpS_cond (t := true) (by simp [Act.eval, Array.replicate]) ?_
  simp only [if_true]
  apply wpS_region
  simp [wpOpsS, go_sem, hc, hz, bodyPostS, results, Tryz.results97]
theorem catchB_idle (b : Nat) (w : World) :
    CallsD Tryz.prog 97 #[.pointer (some ⟨b, 0, none⟩)] .returning w fun r u' w' => r = .returned (.tuple #[]) ∧ u' = .returning ∧ w' = w := by
  refine callsD_of_wpS Tryz.func97 rfl fun c₀ cs hu => ?_
  apply wpS_seq
  apply wpS_region
  simp [wpOpsS, go_sem, recoverD, hu, ta_nil, Tryz.ntmps97, Exit.thenS]
  apply wpS_seq
  apply wpS_region
  simp [wpOpsS, go_sem, Exit.thenS]
  refine wpS_cond (t := false) (by simp [Act.eval, Array.replicate]) ?_
  simp only [Bool.false_eq_true, if_false]
  refine wpS_of_wp (wp_skip ?_)
  cases c₀
  simp_all [bodyPostS, results, Tryz.results97]
/-- The face where its function answers. -/
theorem faceB_ok (G : Nat) (cap : Array Value) (hG : ∀ w, (callFunc G cap).run Tryz.prog w = .ok (.enter G cap) w) (w : World) (x0 x2 x4 x6 x7 : Int) (x5 : Bool) (K : Value → Value → Value → World → Prop)
    (h : Calls Tryz.prog G cap ((w.alloc (.cells #[.int .u8 0, .slice none 0 0, .int .u32 0, .slice none 0 0, .int .u32 0, .bool false, .int .u32 0, .int .u32 0, .slice none 0 0] 30)).alloc (.cells #[.int .i64 0] 36)) fun e w' => ∃ a1 n1 q1 a3 n3 q3 a8 n8 q8, e = .returned (.agg #[.int .u8 x0, .slice a1 n1 q1, .int .u32 x2, .slice a3 n3 q3, .int .u32 x4, .bool x5, .int .u32 x6, .int .u32 x7, .slice a8 n8 q8]) ∧ Touch (fun _ => False) ((w.alloc (.cells #[.int .u8 0, .slice none 0 0, .int .u32 0, .slice none 0 0, .int .u32 0, .bool false, .int .u32 0, .int .u32 0, .slice none 0 0] 30)).alloc (.cells #[.int .i64 0] 36)) w' ∧ K (.slice a1 n1 q1) (.slice a3 n3 q3) (.slice a8 n8 q8) w')
    (hK : ∀ a1 n1 q1 a3 n3 q3 a8 n8 q8 w1 w2, K (.slice a1 n1 q1) (.slice a3 n3 q3) (.slice a8 n8 q8) w1 → Touch (fun _ => False) ((w.alloc (.cells #[.int .u8 0, .slice none 0 0, .int .u32 0, .slice none 0 0, .int .u32 0, .bool false, .int .u32 0, .int .u32 0, .slice none 0 0] 30)).alloc (.cells #[.int .i64 0] 36)) w1 → Touch (fun k => k = w.heap.size ∨ k = w.heap.size + 1) w1 w2 → K (.slice a1 n1 q1) (.slice a3 n3 q3) (.slice a8 n8 q8) w2) :
    Calls Tryz.prog 68 #[.func (.func G) #[] cap] w fun e w' => ∃ a1 n1 q1 a3 n3 q3 a8 n8 q8, e = .returned (.tuple #[.agg #[.int .u8 x0, .slice a1 n1 q1, .int .u32 x2, .slice a3 n3 q3, .int .u32 x4, .bool x5, .int .u32 x6, .int .u32 x7, .slice a8 n8 q8], .int .i64 0]) ∧ Touch (fun _ => False) w w' ∧ K (.slice a1 n1 q1) (.slice a3 n3 q3) (.slice a8 n8 q8) w' := by
  have hmf : ∀ (fn : Fn) (first cap : Array Value) (w : World), (Instr.makeFunc fn first cap).run Tryz.prog w = .ok (.func fn first cap) w := fun _ _ _ _ => rfl
  go_enter_defers Tryz.func68, Tryz.ntmps68
  go_wp2_with fail
  refine h.mono ?_
  rintro e w1 ⟨a1, n1, q1, a3, n3, q3, a8, n8, q8, rfl, t1, k1⟩
  have t0 := (((Touch.refl (fun _ => False) w).alloc _).alloc _).trans t1
  have FZ : Hid (∀ i, i < 9 → w1.frozen? ⟨w.heap.size, i, none⟩ = false) := fun i hi => (t1.frozen (p := ⟨w.heap.size, i, none⟩) (by simp; omega) (fun h => h)).trans (by simp [go_sem])
  have fz1 : w1.frozen? ⟨w.heap.size + 1, 0, none⟩ = false := (t1.frozen (p := ⟨w.heap.size + 1, 0, none⟩) (by simp) (fun h => h)).trans (by simp [go_sem])
  have ce1 : w1.cell? ⟨w.heap.size + 1, 0, none⟩ = some (.int .i64 0) := t1.cellN (by simp [go_sem])
  have c0 : w1.cell? ⟨w.heap.size, 0, none⟩ = some (.int .u8 0) := t1.cellN (by simp [go_sem])
  have z0 := FZ.out 0 (by omega)
  have c1 : w1.cell? ⟨w.heap.size, 1, none⟩ = some (.slice none 0 0) := t1.cellN (by simp [go_sem])
  have z1 := FZ.out 1 (by omega)
  have c2 : w1.cell? ⟨w.heap.size, 2, none⟩ = some (.int .u32 0) := t1.cellN (by simp [go_sem])
  have z2 := FZ.out 2 (by omega)
  have c3 : w1.cell? ⟨w.heap.size, 3, none⟩ = some (.slice none 0 0) := t1.cellN (by simp [go_sem])
  have z3 := FZ.out 3 (by omega)
  have c4 : w1.cell? ⟨w.heap.size, 4, none⟩ = some (.int .u32 0) := t1.cellN (by simp [go_sem])
  have z4 := FZ.out 4 (by omega)
  have c5 : w1.cell? ⟨w.heap.size, 5, none⟩ = some (.bool false) := t1.cellN (by simp [go_sem])
  have z5 := FZ.out 5 (by omega)
  have c6 : w1.cell? ⟨w.heap.size, 6, none⟩ = some (.int .u32 0) := t1.cellN (by simp [go_sem])
  have z6 := FZ.out 6 (by omega)
  have c7 : w1.cell? ⟨w.heap.size, 7, none⟩ = some (.int .u32 0) := t1.cellN (by simp [go_sem])
  have z7 := FZ.out 7 (by omega)
  have c8 : w1.cell? ⟨w.heap.size, 8, none⟩ = some (.slice none 0 0) := t1.cellN (by simp [go_sem])
  have z8 := FZ.out 8 (by omega)
  clear FZ
  have HT : Hid (Touch (fun _ => False) w w1) := t0
  have HK : Hid (K (.slice a1 n1 q1) (.slice a3 n3 q3) (.slice a8 n8 q8) w1) := k1
  have HT1 : Hid (Touch (fun _ => False) ((w.alloc (.cells #[.int .u8 0, .slice none 0 0, .int .u32 0, .slice none 0 0, .int .u32 0, .bool false, .int .u32 0, .int .u32 0, .slice none 0 0] 30)).alloc (.cells #[.int .i64 0] 36)) w1) := t1
  obtain ⟨w2, hw2⟩ : ∃ w2, w2 = (((((((((w1.setCell ⟨w.heap.size, 0, none⟩ (.int .u8 x0)).setCell ⟨w.heap.size, 1, none⟩ (.slice a1 n1 q1)).setCell ⟨w.heap.size, 2, none⟩ (.int .u32 x2)).setCell ⟨w.heap.size, 3, none⟩ (.slice a3 n3 q3)).setCell ⟨w.heap.size, 4, none⟩ (.int .u32 x4)).setCell ⟨w.heap.size, 5, none⟩ (.bool x5)).setCell ⟨w.heap.size, 6, none⟩ (.int .u32 x6)).setCell ⟨w.heap.size, 7, none⟩ (.int .u32 x7)).setCell ⟨w.heap.size, 8, none⟩ (.slice a8 n8 q8)).setCell ⟨w.heap.size + 1, 0, none⟩ (.int .i64 0) := ⟨_, rfl⟩
  have d0 : w2.cell? ⟨w.heap.size, 0, none⟩ = some (.int .u8 x0) := by rw [hw2]; simp [c0, go_sem]
  have d1 : w2.cell? ⟨w.heap.size, 1, none⟩ = some (.slice a1 n1 q1) := by rw [hw2]; simp [c1, go_sem]
  have d2 : w2.cell? ⟨w.heap.size, 2, none⟩ = some (.int .u32 x2) := by rw [hw2]; simp [c2, go_sem]
  have d3 : w2.cell? ⟨w.heap.size, 3, none⟩ = some (.slice a3 n3 q3) := by rw [hw2]; simp [c3, go_sem]
  have d4 : w2.cell? ⟨w.heap.size, 4, none⟩ = some (.int .u32 x4) := by rw [hw2]; simp [c4, go_sem]
  have d5 : w2.cell? ⟨w.heap.size, 5, none⟩ = some (.bool x5) := by rw [hw2]; simp [c5, go_sem]
  have d6 : w2.cell? ⟨w.heap.size, 6, none⟩ = some (.int .u32 x6) := by rw [hw2]; simp [c6, go_sem]
  have d7 : w2.cell? ⟨w.heap.size, 7, none⟩ = some (.int .u32 x7) := by rw [hw2]; simp [c7, go_sem]
  have d8 : w2.cell? ⟨w.heap.size, 8, none⟩ = some (.slice a8 n8 q8) := by rw [hw2]; simp [c8, go_sem]
  have de : w2.cell? ⟨w.heap.size + 1, 0, none⟩ = some (.int .i64 0) := by rw [hw2]; simp [ce1, go_sem]
  have HU : Hid (Touch (fun k => k = w.heap.size ∨ k = w.heap.size + 1) w1 w2) := by
    show Touch _ _ _
    rw [hw2]
    exact Touch.setCell (Touch.setCell (Touch.setCell (Touch.setCell (Touch.setCell (Touch.setCell (Touch.setCell (Touch.setCell (Touch.setCell (Touch.setCell (Touch.refl _ _) (Or.inl (Or.inl rfl)) _) (Or.inl (Or.inl rfl)) _) (Or.inl (Or.inl rfl)) _) (Or.inl (Or.inl rfl)) _) (Or.inl (Or.inl rfl)) _) (Or.inl (Or.inl rfl)) _) (Or.inl (Or.inl rfl)) _) (Or.inl (Or.inl rfl)) _) (Or.inl (Or.inl rfl)) _) (Or.inl (Or.inr rfl)) _
  have HW : Hid (w2 = (((((((((w1.setCell ⟨w.heap.size, 0, none⟩ (.int .u8 x0)).setCell ⟨w.heap.size, 1, none⟩ (.slice a1 n1 q1)).setCell ⟨w.heap.size, 2, none⟩ (.int .u32 x2)).setCell ⟨w.heap.size, 3, none⟩ (.slice a3 n3 q3)).setCell ⟨w.heap.size, 4, none⟩ (.int .u32 x4)).setCell ⟨w.heap.size, 5, none⟩ (.bool x5)).setCell ⟨w.heap.size, 6, none⟩ (.int .u32 x6)).setCell ⟨w.heap.size, 7, none⟩ (.int .u32 x7)).setCell ⟨w.heap.size, 8, none⟩ (.slice a8 n8 q8)).setCell ⟨w.heap.size + 1, 0, none⟩ (.int .i64 0)) := hw2
  clear t0 t1 k1 h hw2
  go_wp2_with fail
  rw [← HW.out]
  clear HW c0 z0 c1 z1 c2 z2 c3 z3 c4 z4 c5 z5 c6 z6 c7 z7 c8 z8 fz1 ce1
  refine leaves_cons (f := 97) (args := #[.pointer (some ⟨w.heap.size + 1, 0, none⟩)]) (by simp) (by simp [go_sem]) ?_
  refine (catchB_idle (w.heap.size + 1) _).mono ?_
  rintro e u' w'' ⟨rfl, rfl, rfl⟩
  refine ⟨.tuple #[.agg #[.int .u8 x0, .slice a1 n1 q1, .int .u32 x2, .slice a3 n3 q3, .int .u32 x4, .bool x5, .int .u32 x6, .int .u32 x7, .slice a8 n8 q8], .int .i64 0], by simp [results, Tryz.results68, go_sem, d0, d1, d2, d3, d4, d5, d6, d7, d8, de], a1, n1, q1, a3, n3, q3, a8, n8, q8, rfl, ?_, hK _ _ _ _ _ _ _ _ _ _ _ HK.out HT1.out HU.out⟩
  exact HT.out.trans' HU.out (fun i hi hf => by omega)
/-- The face where its function gives up. -/
theorem faceB_no (G : Nat) (cap : Array Value) (hG : ∀ w, (callFunc G cap).run Tryz.prog w = .ok (.enter G cap) w) (w : World) (err : Int)
    (h : Calls Tryz.prog G cap ((w.alloc (.cells #[.int .u8 0, .slice none 0 0, .int .u32 0, .slice none 0 0, .int .u32 0, .bool false, .int .u32 0, .int .u32 0, .slice none 0 0] 30)).alloc (.cells #[.int .i64 0] 36)) fun e w' => e = .panicked (flawC err) ∧ Touch (fun _ => False) ((w.alloc (.cells #[.int .u8 0, .slice none 0 0, .int .u32 0, .slice none 0 0, .int .u32 0, .bool false, .int .u32 0, .int .u32 0, .slice none 0 0] 30)).alloc (.cells #[.int .i64 0] 36)) w') :
    Calls Tryz.prog 68 #[.func (.func G) #[] cap] w fun e w' => e = .returned (.tuple #[.agg #[.int .u8 0, .slice none 0 0, .int .u32 0, .slice none 0 0, .int .u32 0, .bool false, .int .u32 0, .int .u32 0, .slice none 0 0], .int .i64 err]) ∧ Touch (fun _ => False) w w' := by
  have hmf : ∀ (fn : Fn) (first cap : Array Value) (w : World), (Instr.makeFunc fn first cap).run Tryz.prog w = .ok (.func fn first cap) w := fun _ _ _ _ => rfl
  go_enter_defers Tryz.func68, Tryz.ntmps68
  go_wp2_with fail
  refine h.mono ?_
  rintro e w1 ⟨rfl, t1⟩
  have t0 := (((Touch.refl (fun _ => False) w).alloc _).alloc _).trans t1
  have fz1 : w1.frozen? ⟨w.heap.size + 1, 0, none⟩ = false := (t1.frozen (p := ⟨w.heap.size + 1, 0, none⟩) (by simp) (fun h => h)).trans (by simp [go_sem])
  have ce1 : w1.cell? ⟨w.heap.size + 1, 0, none⟩ = some (.int .i64 0) := t1.cellN (by simp [go_sem])
  have c0 : w1.cell? ⟨w.heap.size, 0, none⟩ = some (.int .u8 0) := t1.cellN (by simp [go_sem])
  have c1 : w1.cell? ⟨w.heap.size, 1, none⟩ = some (.slice none 0 0) := t1.cellN (by simp [go_sem])
  have c2 : w1.cell? ⟨w.heap.size, 2, none⟩ = some (.int .u32 0) := t1.cellN (by simp [go_sem])
  have c3 : w1.cell? ⟨w.heap.size, 3, none⟩ = some (.slice none 0 0) := t1.cellN (by simp [go_sem])
  have c4 : w1.cell? ⟨w.heap.size, 4, none⟩ = some (.int .u32 0) := t1.cellN (by simp [go_sem])
  have c5 : w1.cell? ⟨w.heap.size, 5, none⟩ = some (.bool false) := t1.cellN (by simp [go_sem])
  have c6 : w1.cell? ⟨w.heap.size, 6, none⟩ = some (.int .u32 0) := t1.cellN (by simp [go_sem])
  have c7 : w1.cell? ⟨w.heap.size, 7, none⟩ = some (.int .u32 0) := t1.cellN (by simp [go_sem])
  have c8 : w1.cell? ⟨w.heap.size, 8, none⟩ = some (.slice none 0 0) := t1.cellN (by simp [go_sem])
  refine leaves_cons (f := 97) (args := #[.pointer (some ⟨w.heap.size + 1, 0, none⟩)]) (by simp) (by simp [go_sem]) ?_
  refine (catchB_flaw (w.heap.size + 1) 0 err _ ce1 fz1).mono ?_
  rintro e u' w'' ⟨rfl, rfl, rfl⟩
  refine ⟨.tuple #[.agg #[.int .u8 0, .slice none 0 0, .int .u32 0, .slice none 0 0, .int .u32 0, .bool false, .int .u32 0, .int .u32 0, .slice none 0 0], .int .i64 err], by simp [results, Tryz.results68, go_sem, c0, c1, c2, c3, c4, c5, c6, c7, c8, ce1], rfl, ?_⟩
  exact Touch.setCell t0 (Or.inr (by simp)) _
end Go.Proofs.YthdkihnmeoacaaaGreatDoor

namespace Go.Proofs.YthdkihnmeoacaaaGreatDoor
open Go.RowKit
set_option linter.unusedVariables false
set_option maxRecDepth 100000

structure Never : Prop where
  out : False
theorem Calls.never {P : Program} {f : FuncId} {args : Array Value} {w : World} {c : List PanicEntry} {R : World → Prop} (v : Value) (h : Calls P f args w fun e w' => e = .panicked c ∧ R w') :
    Calls P f args w fun e w' => (e = .panicked c ∧ R w') ∨ (Never ∧ e = .returned v) := h.mono (fun _ _ h => Or.inl h)
theorem keep17 {w w' : World} (t : Touch (fun _ => False) w w') {p0 : Addr} {p1 : Addr} {p2 : Addr} {p3 : Addr} {p4 : Addr} {p5 : Addr} {p6 : Addr} {p7 : Addr} {p8 : Addr} {p9 : Addr} {p10 : Addr} {p11 : Addr} {p12 : Addr} {p13 : Addr} {p14 : Addr} {p15 : Addr} {p16 : Addr} {x0 : Value} {x1 : Value} {x2 : Value} {x3 : Value} {x4 : Value} {x5 : Value} {x6 : Value} {x7 : Value} {x8 : Value} {x9 : Value} {x10 : Value} {x11 : Value} {x12 : Value} {x13 : Value} {x14 : Value} {x15 : Value} {x16 : Value} (h : w.cell? p0 = some x0 ∧ w.cell? p1 = some x1 ∧ w.cell? p2 = some x2 ∧ w.cell? p3 = some x3 ∧ w.cell? p4 = some x4 ∧ w.cell? p5 = some x5 ∧ w.cell? p6 = some x6 ∧ w.cell? p7 = some x7 ∧ w.cell? p8 = some x8 ∧ w.cell? p9 = some x9 ∧ w.cell? p10 = some x10 ∧ w.cell? p11 = some x11 ∧ w.cell? p12 = some x12 ∧ w.cell? p13 = some x13 ∧ w.cell? p14 = some x14 ∧ w.cell? p15 = some x15 ∧ w.cell? p16 = some x16) : w'.cell? p0 = some x0 ∧ w'.cell? p1 = some x1 ∧ w'.cell? p2 = some x2 ∧ w'.cell? p3 = some x3 ∧ w'.cell? p4 = some x4 ∧ w'.cell? p5 = some x5 ∧ w'.cell? p6 = some x6 ∧ w'.cell? p7 = some x7 ∧ w'.cell? p8 = some x8 ∧ w'.cell? p9 = some x9 ∧ w'.cell? p10 = some x10 ∧ w'.cell? p11 = some x11 ∧ w'.cell? p12 = some x12 ∧ w'.cell? p13 = some x13 ∧ w'.cell? p14 = some x14 ∧ w'.cell? p15 = some x15 ∧ w'.cell? p16 = some x16 := by
  obtain ⟨c0, c1, c2, c3, c4, c5, c6, c7, c8, c9, c10, c11, c12, c13, c14, c15, c16⟩ := h
  exact ⟨t.cellN c0, t.cellN c1, t.cellN c2, t.cellN c3, t.cellN c4, t.cellN c5, t.cellN c6, t.cellN c7, t.cellN c8, t.cellN c9, t.cellN c10, t.cellN c11, t.cellN c12, t.cellN c13, t.cellN c14, t.cellN c15, t.cellN c16⟩
set_option maxHeartbeats 4000000 in
theorem enc1_ok (g1 g2 : Nat) (h : HV) (ok : h.All) (B : BV) (a1 a3 a8 : Option Addr) (n1 q1 n3 q3 n8 q8 : Nat) (l : List Int) (w : World) (hH : Hd w g1 h) (hB : Bd w g2 B (.slice a1 n1 q1) (.slice a3 n3 q3) (.slice a8 n8 q8))
    (hby : ∀ z ∈ l, 0 ≤ z ∧ z < 256) (hl : l.length ≤ 65515)
    (HW : ∀ w', Touch (fun _ => False) w w' → Calls Tryz.prog 39 #[.int .u8 h.typ, .agg #[.int .u8 B.flags, .slice a1 n1 q1, .int .u32 B.mask, .slice a3 n3 q3, .int .u32 B.metric, .bool B.type2, .int .u32 B.fwd, .int .u32 B.tag, .slice a8 n8 q8]] w' fun e w'' => ∃ u, e = .returned u ∧ Buf w' w'' u l) :
    Calls Tryz.prog 37 #[.pointer (some ⟨g1, 0, none⟩), .pointer (some ⟨g2, 0, none⟩)] w fun e w' => ∃ u, e = .returned ((sealH h l).sv u) ∧ Buf w w' u l := by
  have OK : Hid h.All := ok
  have HBy : Hid (∀ z ∈ l, 0 ≤ z ∧ z < 256) := hby
  have HWr : Hid (∀ w', Touch (fun _ => False) w w' → Calls Tryz.prog 39 #[.int .u8 h.typ, .agg #[.int .u8 B.flags, .slice a1 n1 q1, .int .u32 B.mask, .slice a3 n3 q3, .int .u32 B.metric, .bool B.type2, .int .u32 B.fwd, .int .u32 B.tag, .slice a8 n8 q8]] w' fun e w'' => ∃ u, e = .returned u ∧ Buf w' w'' u l) := HW
  have hg1 := lt_of_cell hH.c0
  have hg2 := lt_of_cell hB.c0
  clear ok hby HW
  go_enter Tryz.func37, Tryz.ntmps37
  go_upto_region 1 with fail
  have T1 : Hid (Touch (fun _ => False) w (w.alloc (.cells #[.int .u16 0, .int .u8 0, .int .u8 0, .int .u32 0, .int .u32 0, .int .i32 0, .int .u16 0, .int .u16 0, .slice none 0 0] 35)).drew) := ((Touch.refl _ w).alloc _).drew
  have R1 : Hid (Room (w.alloc (.cells #[.int .u16 0, .int .u8 0, .int .u8 0, .int .u32 0, .int .u32 0, .int .i32 0, .int .u16 0, .int .u16 0, .slice none 0 0] 35)).drew w.heap.size 9) := (Room.new w #[.int .u16 0, .int .u8 0, .int .u8 0, .int .u32 0, .int .u32 0, .int .i32 0, .int .u16 0, .int .u16 0, .slice none 0 0] 35).keep ((Touch.refl _ _).drew)
  obtain ⟨e0, e1, e2, e3, e4, e5, e6, e7⟩ := hH.keep T1.out
  obtain ⟨e8, e9, e10, e11, e12, e13, e14, e15, e16⟩ := hB.keep T1.out
  have hr1 : g1 ≠ w.heap.size := by omega
  have hr2 : g2 ≠ w.heap.size := by omega
  have HSZ : Hid (w.heap.size < (w.alloc (.cells #[.int .u16 0, .int .u8 0, .int .u8 0, .int .u32 0, .int .u32 0, .int .i32 0, .int .u16 0, .int .u16 0, .slice none 0 0] 35)).heap.size) := by show _ < _; simp
  clear hH hB
  generalize (w.alloc (.cells #[.int .u16 0, .int .u8 0, .int .u8 0, .int .u32 0, .int .u32 0, .int .i32 0, .int .u16 0, .int .u16 0, .slice none 0 0] 35)) = w1 at *
  generalize hG : w.heap.size = gr at *
  have HG : Hid (w.heap.size = gr) := hG
  clear hG hg1 hg2
  go_region_held2 (fun w' => w'.cell? ⟨g1, 0, none⟩ = some (.int .u16 h.age) ∧ w'.cell? ⟨g1, 1, none⟩ = some (.int .u8 h.opts) ∧ w'.cell? ⟨g1, 2, none⟩ = some (.int .u8 h.typ) ∧ w'.cell? ⟨g1, 3, none⟩ = some (.int .u32 h.id) ∧ w'.cell? ⟨g1, 4, none⟩ = some (.int .u32 h.adv) ∧ w'.cell? ⟨g1, 5, none⟩ = some (.int .i32 h.seq) ∧ w'.cell? ⟨g1, 6, none⟩ = some (.int .u16 h.sum) ∧ w'.cell? ⟨g1, 7, none⟩ = some (.int .u16 h.len) ∧ w'.cell? ⟨g2, 0, none⟩ = some (.int .u8 B.flags) ∧ w'.cell? ⟨g2, 1, none⟩ = some (.slice a1 n1 q1) ∧ w'.cell? ⟨g2, 2, none⟩ = some (.int .u32 B.mask) ∧ w'.cell? ⟨g2, 3, none⟩ = some (.slice a3 n3 q3) ∧ w'.cell? ⟨g2, 4, none⟩ = some (.int .u32 B.metric) ∧ w'.cell? ⟨g2, 5, none⟩ = some (.bool B.type2) ∧ w'.cell? ⟨g2, 6, none⟩ = some (.int .u32 B.fwd) ∧ w'.cell? ⟨g2, 7, none⟩ = some (.int .u32 B.tag) ∧ w'.cell? ⟨g2, 8, none⟩ = some (.slice a8 n8 q8)) (first | with_reducible exact ⟨e0, e1, e2, e3, e4, e5, e6, e7, e8, e9, e10, e11, e12, e13, e14, e15, e16⟩ | with_reducible exact ⟨u0, u1, u2, u3, u4, u5, u6, u7, u8, u9, u10, u11, u12, u13, u14, u15, u16⟩ | with_reducible exact ⟨v0, v1, v2, v3, v4, v5, v6, v7, v8, v9, v10, v11, v12, v13, v14, v15, v16⟩ | with_reducible exact ⟨(cell_far9 hr1 0 _ _ _ _ _ _ _ _ _).trans v0, (cell_far9 hr1 1 _ _ _ _ _ _ _ _ _).trans v1, (cell_far9 hr1 2 _ _ _ _ _ _ _ _ _).trans v2, (cell_far9 hr1 3 _ _ _ _ _ _ _ _ _).trans v3, (cell_far9 hr1 4 _ _ _ _ _ _ _ _ _).trans v4, (cell_far9 hr1 5 _ _ _ _ _ _ _ _ _).trans v5, (cell_far9 hr1 6 _ _ _ _ _ _ _ _ _).trans v6, (cell_far9 hr1 7 _ _ _ _ _ _ _ _ _).trans v7, (cell_far9 hr2 0 _ _ _ _ _ _ _ _ _).trans v8, (cell_far9 hr2 1 _ _ _ _ _ _ _ _ _).trans v9, (cell_far9 hr2 2 _ _ _ _ _ _ _ _ _).trans v10, (cell_far9 hr2 3 _ _ _ _ _ _ _ _ _).trans v11, (cell_far9 hr2 4 _ _ _ _ _ _ _ _ _).trans v12, (cell_far9 hr2 5 _ _ _ _ _ _ _ _ _).trans v13, (cell_far9 hr2 6 _ _ _ _ _ _ _ _ _).trans v14, (cell_far9 hr2 7 _ _ _ _ _ _ _ _ _).trans v15, (cell_far9 hr2 8 _ _ _ _ _ _ _ _ _).trans v16⟩) (first
    | (go_at_call 39; refine Calls.mono (HWr.out _ T1.out) ?_; rintro e w4 ⟨u4, rfl, b4⟩; obtain ⟨va4, vc4, rfl⟩ := b4.form; obtain ⟨u0, u1, u2, u3, u4, u5, u6, u7, u8, u9, u10, u11, u12, u13, u14, u15, u16⟩ := keep17 b4.t ⟨e0, e1, e2, e3, e4, e5, e6, e7, e8, e9, e10, e11, e12, e13, e14, e15, e16⟩; have B4 : Hid (Buf w1.drew w4 (.slice va4 l.length vc4) l) := b4; clear b4)
    | (go_at_call 38; refine Calls.mono (sealed_ok h OK.out _ l _ B4.out.arg HBy.out hl) ?_; rintro e w5 ⟨u5, rfl, b5⟩; obtain ⟨xa, xc, rfl⟩ := b5.form; obtain ⟨v0, v1, v2, v3, v4, v5, v6, v7, v8, v9, v10, v11, v12, v13, v14, v15, v16⟩ := keep17 b5.t ⟨u0, u1, u2, u3, u4, u5, u6, u7, u8, u9, u10, u11, u12, u13, u14, u15, u16⟩; have R5 := (R1.out.keep B4.out.t).keep b5.t; have B5 : Hid (Buf w1.drew w5 (.slice xa l.length xc) l) := b5.back B4.out.t; clear b5; obtain ⟨zz0, zc0, zf0⟩ := R5 0 (by omega); obtain ⟨zz1, zc1, zf1⟩ := R5 1 (by omega); obtain ⟨zz2, zc2, zf2⟩ := R5 2 (by omega); obtain ⟨zz3, zc3, zf3⟩ := R5 3 (by omega); obtain ⟨zz4, zc4, zf4⟩ := R5 4 (by omega); obtain ⟨zz5, zc5, zf5⟩ := R5 5 (by omega); obtain ⟨zz6, zc6, zf6⟩ := R5 6 (by omega); obtain ⟨zz7, zc7, zf7⟩ := R5 7 (by omega); obtain ⟨zz8, zc8, zf8⟩ := R5 8 (by omega); clear R5; unfold HV.sv sealH))
  clear e0 e1 e2 e3 e4 e5 e6 e7 e8 e9 e10 e11 e12 e13 e14 e15 e16 u0 u1 u2 u3 u4 u5 u6 u7 u8 u9 u10 u11 u12 u13 u14 u15 u16 v0 v1 v2 v3 v4 v5 v6 v7 v8 v9 v10 v11 v12 v13 v14 v15 v16
  obtain ⟨wz, hwz⟩ : ∃ wz, wz = (((((((((w5.setCell ⟨gr, 0, none⟩ (.int .u16 h.age)).setCell ⟨gr, 1, none⟩ (.int .u8 h.opts)).setCell ⟨gr, 2, none⟩ (.int .u8 h.typ)).setCell ⟨gr, 3, none⟩ (.int .u32 h.id)).setCell ⟨gr, 4, none⟩ (.int .u32 h.adv)).setCell ⟨gr, 5, none⟩ (.int .i32 h.seq)).setCell ⟨gr, 6, none⟩ (.int .u16 (sealS h l))).setCell ⟨gr, 7, none⟩ (.int .u16 (20 + (l.length : Int)))).setCell ⟨gr, 8, none⟩ (.slice xa l.length xc)) := ⟨_, rfl⟩
  have zd0 : wz.cell? ⟨gr, 0, none⟩ = some (.int .u16 h.age) := by rw [hwz]; simp [zc0, go_sem]
  have zd1 : wz.cell? ⟨gr, 1, none⟩ = some (.int .u8 h.opts) := by rw [hwz]; simp [zc1, go_sem]
  have zd2 : wz.cell? ⟨gr, 2, none⟩ = some (.int .u8 h.typ) := by rw [hwz]; simp [zc2, go_sem]
  have zd3 : wz.cell? ⟨gr, 3, none⟩ = some (.int .u32 h.id) := by rw [hwz]; simp [zc3, go_sem]
  have zd4 : wz.cell? ⟨gr, 4, none⟩ = some (.int .u32 h.adv) := by rw [hwz]; simp [zc4, go_sem]
  have zd5 : wz.cell? ⟨gr, 5, none⟩ = some (.int .i32 h.seq) := by rw [hwz]; simp [zc5, go_sem]
  have zd6 : wz.cell? ⟨gr, 6, none⟩ = some (.int .u16 (sealS h l)) := by rw [hwz]; simp [zc6, go_sem]
  have zd7 : wz.cell? ⟨gr, 7, none⟩ = some (.int .u16 (20 + (l.length : Int))) := by rw [hwz]; simp [zc7, go_sem]
  have zd8 : wz.cell? ⟨gr, 8, none⟩ = some (.slice xa l.length xc) := by rw [hwz]; simp [zc8, go_sem]
  have HUz : Hid (Touch (fun k => k = gr) w5 wz) := by show Touch _ _ _; rw [hwz]; refine Touch.setCell (F := fun k => k = gr) (p := ⟨gr, 8, none⟩) ?_ (Or.inl rfl) _; refine Touch.setCell (F := fun k => k = gr) (p := ⟨gr, 7, none⟩) ?_ (Or.inl rfl) _; refine Touch.setCell (F := fun k => k = gr) (p := ⟨gr, 6, none⟩) ?_ (Or.inl rfl) _; refine Touch.setCell (F := fun k => k = gr) (p := ⟨gr, 5, none⟩) ?_ (Or.inl rfl) _; refine Touch.setCell (F := fun k => k = gr) (p := ⟨gr, 4, none⟩) ?_ (Or.inl rfl) _; refine Touch.setCell (F := fun k => k = gr) (p := ⟨gr, 3, none⟩) ?_ (Or.inl rfl) _; refine Touch.setCell (F := fun k => k = gr) (p := ⟨gr, 2, none⟩) ?_ (Or.inl rfl) _; refine Touch.setCell (F := fun k => k = gr) (p := ⟨gr, 1, none⟩) ?_ (Or.inl rfl) _; refine Touch.setCell (F := fun k => k = gr) (p := ⟨gr, 0, none⟩) ?_ (Or.inl rfl) _; exact Touch.refl _ _
  rw [← hwz]
  clear hwz zc0 zf0 zc1 zf1 zc2 zf2 zc3 zf3 zc4 zf4 zc5 zf5 zc6 zf6 zc7 zf7 zc8 zf8
  go_wp2_with fail
  refine bodyPost_ret (v := .agg #[.int .u16 h.age, .int .u8 h.opts, .int .u8 h.typ, .int .u32 h.id, .int .u32 h.adv, .int .i32 h.seq, .int .u16 (sealS h l), .int .u16 (20 + (l.length : Int)), .slice xa l.length xc]) (by simp [results, Tryz.results37, go_sem, zd0, zd1, zd2, zd3, zd4, zd5, zd6, zd7, zd8]) rfl ?_
  refine ⟨_, rfl, ⟨own_lower (own_touch B5.out.own HUz.out (fun k hk e => by have h1 := (B5.out.own.lt k hk).1; have h2 : w1.drew.heap.size = w1.heap.size := rfl; have h3 := HSZ.out; omega)) (by have h2 : w1.drew.heap.size = w1.heap.size := rfl; have h3 := HSZ.out; have := HG.out; omega), (T1.out.trans B5.out.t).trans' HUz.out (fun i hi e => by have := HG.out; omega)⟩⟩

set_option maxHeartbeats 4000000 in
theorem enc1_no (g1 g2 : Nat) (h : HV) (B : BV) (a1 a3 a8 : Option Addr) (n1 q1 n3 q3 n8 q8 : Nat) (err : Int) (w : World) (hH : Hd w g1 h) (hB : Bd w g2 B (.slice a1 n1 q1) (.slice a3 n3 q3) (.slice a8 n8 q8))
    (HW : ∀ w', Touch (fun _ => False) w w' → Calls Tryz.prog 39 #[.int .u8 h.typ, .agg #[.int .u8 B.flags, .slice a1 n1 q1, .int .u32 B.mask, .slice a3 n3 q3, .int .u32 B.metric, .bool B.type2, .int .u32 B.fwd, .int .u32 B.tag, .slice a8 n8 q8]] w' fun e w'' => e = .panicked (flawC err) ∧ Touch (fun _ => False) w' w'') :
    Calls Tryz.prog 37 #[.pointer (some ⟨g1, 0, none⟩), .pointer (some ⟨g2, 0, none⟩)] w fun e w' => e = .panicked (flawC err) ∧ Touch (fun _ => False) w w' := by
  have HWr : Hid (∀ w', Touch (fun _ => False) w w' → Calls Tryz.prog 39 #[.int .u8 h.typ, .agg #[.int .u8 B.flags, .slice a1 n1 q1, .int .u32 B.mask, .slice a3 n3 q3, .int .u32 B.metric, .bool B.type2, .int .u32 B.fwd, .int .u32 B.tag, .slice a8 n8 q8]] w' fun e w'' => e = .panicked (flawC err) ∧ Touch (fun _ => False) w' w'') := HW
  have hg1 := lt_of_cell hH.c0
  have hg2 := lt_of_cell hB.c0
  clear HW
  go_enter Tryz.func37, Tryz.ntmps37
  go_upto_region 1 with fail
  have T1 : Hid (Touch (fun _ => False) w (w.alloc (.cells #[.int .u16 0, .int .u8 0, .int .u8 0, .int .u32 0, .int .u32 0, .int .i32 0, .int .u16 0, .int .u16 0, .slice none 0 0] 35)).drew) := ((Touch.refl _ w).alloc _).drew
  obtain ⟨e0, e1, e2, e3, e4, e5, e6, e7⟩ := hH.keep T1.out
  obtain ⟨e8, e9, e10, e11, e12, e13, e14, e15, e16⟩ := hB.keep T1.out
  have hr1 : g1 ≠ w.heap.size := by omega
  have hr2 : g2 ≠ w.heap.size := by omega
  clear hH hB hg1 hg2
  generalize (w.alloc (.cells #[.int .u16 0, .int .u8 0, .int .u8 0, .int .u32 0, .int .u32 0, .int .i32 0, .int .u16 0, .int .u16 0, .slice none 0 0] 35)) = w1 at *
  generalize hG : w.heap.size = gr at *
  clear hG
  go_region_held2 (fun w' => w'.cell? ⟨g1, 0, none⟩ = some (.int .u16 h.age) ∧ w'.cell? ⟨g1, 1, none⟩ = some (.int .u8 h.opts) ∧ w'.cell? ⟨g1, 2, none⟩ = some (.int .u8 h.typ) ∧ w'.cell? ⟨g1, 3, none⟩ = some (.int .u32 h.id) ∧ w'.cell? ⟨g1, 4, none⟩ = some (.int .u32 h.adv) ∧ w'.cell? ⟨g1, 5, none⟩ = some (.int .i32 h.seq) ∧ w'.cell? ⟨g1, 6, none⟩ = some (.int .u16 h.sum) ∧ w'.cell? ⟨g1, 7, none⟩ = some (.int .u16 h.len) ∧ w'.cell? ⟨g2, 0, none⟩ = some (.int .u8 B.flags) ∧ w'.cell? ⟨g2, 1, none⟩ = some (.slice a1 n1 q1) ∧ w'.cell? ⟨g2, 2, none⟩ = some (.int .u32 B.mask) ∧ w'.cell? ⟨g2, 3, none⟩ = some (.slice a3 n3 q3) ∧ w'.cell? ⟨g2, 4, none⟩ = some (.int .u32 B.metric) ∧ w'.cell? ⟨g2, 5, none⟩ = some (.bool B.type2) ∧ w'.cell? ⟨g2, 6, none⟩ = some (.int .u32 B.fwd) ∧ w'.cell? ⟨g2, 7, none⟩ = some (.int .u32 B.tag) ∧ w'.cell? ⟨g2, 8, none⟩ = some (.slice a8 n8 q8)) (first | with_reducible exact ⟨e0, e1, e2, e3, e4, e5, e6, e7, e8, e9, e10, e11, e12, e13, e14, e15, e16⟩ | with_reducible exact ⟨v0, v1, v2, v3, v4, v5, v6, v7, v8, v9, v10, v11, v12, v13, v14, v15, v16⟩ | with_reducible exact ⟨(cell_far9 hr1 0 _ _ _ _ _ _ _ _ _).trans v0, (cell_far9 hr1 1 _ _ _ _ _ _ _ _ _).trans v1, (cell_far9 hr1 2 _ _ _ _ _ _ _ _ _).trans v2, (cell_far9 hr1 3 _ _ _ _ _ _ _ _ _).trans v3, (cell_far9 hr1 4 _ _ _ _ _ _ _ _ _).trans v4, (cell_far9 hr1 5 _ _ _ _ _ _ _ _ _).trans v5, (cell_far9 hr1 6 _ _ _ _ _ _ _ _ _).trans v6, (cell_far9 hr1 7 _ _ _ _ _ _ _ _ _).trans v7, (cell_far9 hr2 0 _ _ _ _ _ _ _ _ _).trans v8, (cell_far9 hr2 1 _ _ _ _ _ _ _ _ _).trans v9, (cell_far9 hr2 2 _ _ _ _ _ _ _ _ _).trans v10, (cell_far9 hr2 3 _ _ _ _ _ _ _ _ _).trans v11, (cell_far9 hr2 4 _ _ _ _ _ _ _ _ _).trans v12, (cell_far9 hr2 5 _ _ _ _ _ _ _ _ _).trans v13, (cell_far9 hr2 6 _ _ _ _ _ _ _ _ _).trans v14, (cell_far9 hr2 7 _ _ _ _ _ _ _ _ _).trans v15, (cell_far9 hr2 8 _ _ _ _ _ _ _ _ _).trans v16⟩) (first
    | (go_at_call 39; refine Calls.mono (Calls.never (.slice none 0 0) (HWr.out _ T1.out)) ?_; rintro e w4 (⟨rfl, t4⟩ | ⟨HF, rfl⟩); exact ⟨rfl, rfl, T1.out.trans t4⟩; obtain ⟨v0, v1, v2, v3, v4, v5, v6, v7, v8, v9, v10, v11, v12, v13, v14, v15, v16⟩ : w4.cell? ⟨g1, 0, none⟩ = some (.int .u16 h.age) ∧ w4.cell? ⟨g1, 1, none⟩ = some (.int .u8 h.opts) ∧ w4.cell? ⟨g1, 2, none⟩ = some (.int .u8 h.typ) ∧ w4.cell? ⟨g1, 3, none⟩ = some (.int .u32 h.id) ∧ w4.cell? ⟨g1, 4, none⟩ = some (.int .u32 h.adv) ∧ w4.cell? ⟨g1, 5, none⟩ = some (.int .i32 h.seq) ∧ w4.cell? ⟨g1, 6, none⟩ = some (.int .u16 h.sum) ∧ w4.cell? ⟨g1, 7, none⟩ = some (.int .u16 h.len) ∧ w4.cell? ⟨g2, 0, none⟩ = some (.int .u8 B.flags) ∧ w4.cell? ⟨g2, 1, none⟩ = some (.slice a1 n1 q1) ∧ w4.cell? ⟨g2, 2, none⟩ = some (.int .u32 B.mask) ∧ w4.cell? ⟨g2, 3, none⟩ = some (.slice a3 n3 q3) ∧ w4.cell? ⟨g2, 4, none⟩ = some (.int .u32 B.metric) ∧ w4.cell? ⟨g2, 5, none⟩ = some (.bool B.type2) ∧ w4.cell? ⟨g2, 6, none⟩ = some (.int .u32 B.fwd) ∧ w4.cell? ⟨g2, 7, none⟩ = some (.int .u32 B.tag) ∧ w4.cell? ⟨g2, 8, none⟩ = some (.slice a8 n8 q8) := HF.out.elim; obtain ⟨zc0, zf0, zc1, zf1, zc2, zf2, zc3, zf3, zc4, zf4, zc5, zf5, zc6, zf6, zc7, zf7, zc8, zf8⟩ : w4.cell? ⟨gr, 0, none⟩ = some .nilFunc ∧ w4.frozen? ⟨gr, 0, none⟩ = false ∧ w4.cell? ⟨gr, 1, none⟩ = some .nilFunc ∧ w4.frozen? ⟨gr, 1, none⟩ = false ∧ w4.cell? ⟨gr, 2, none⟩ = some .nilFunc ∧ w4.frozen? ⟨gr, 2, none⟩ = false ∧ w4.cell? ⟨gr, 3, none⟩ = some .nilFunc ∧ w4.frozen? ⟨gr, 3, none⟩ = false ∧ w4.cell? ⟨gr, 4, none⟩ = some .nilFunc ∧ w4.frozen? ⟨gr, 4, none⟩ = false ∧ w4.cell? ⟨gr, 5, none⟩ = some .nilFunc ∧ w4.frozen? ⟨gr, 5, none⟩ = false ∧ w4.cell? ⟨gr, 6, none⟩ = some .nilFunc ∧ w4.frozen? ⟨gr, 6, none⟩ = false ∧ w4.cell? ⟨gr, 7, none⟩ = some .nilFunc ∧ w4.frozen? ⟨gr, 7, none⟩ = false ∧ w4.cell? ⟨gr, 8, none⟩ = some .nilFunc ∧ w4.frozen? ⟨gr, 8, none⟩ = false := HF.out.elim)
    | (go_at_call 38; refine Calls.mono (HF.out.elim : Calls Tryz.prog 38 #[_] w4 fun e w' => e = .returned (.agg #[.int .u16 0, .int .u8 0, .int .u8 0, .int .u32 0, .int .u32 0, .int .i32 0, .int .u16 0, .int .u16 0, .slice none 0 0]) ∧ w4 = w') ?_; rintro e w5 ⟨rfl, rfl⟩))
  exact HF.out.elim
end Go.Proofs.YthdkihnmeoacaaaGreatDoor
