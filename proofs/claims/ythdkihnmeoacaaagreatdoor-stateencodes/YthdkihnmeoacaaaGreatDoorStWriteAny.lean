/- Contract: write, by the contract of the type's writer. -/
import Derived.Test.YthdkihnmeoacaaaGreatDoorStWAny
import Derived.Test.YthdkihnmeoacaaaGreatDoorStPairs
import Derived.Test.YthdkihnmeoacaaaGreatDoorStEnc1
namespace Go.Proofs.YthdkihnmeoacaaaGreatDoor
open Go.RowKit
set_option linter.unusedVariables false
set_option maxRecDepth 100000

theorem ValsAt.kept {X : Nat → Prop} {w w' : World} {k : Nat} {v : Value} {n : Nat} {xs : List Value} (h : ValsAt w k v n xs) (t : Kept X w w') (hX : ∀ k, k < w.heap.size → X k) : ValsAt w' k v n xs := by
  refine ⟨h.1, ?_⟩
  rcases h.2 with h | ⟨ad, c, rfl, h1, h2, h3⟩
  · exact Or.inl h
  · exact Or.inr ⟨ad, c, rfl, h1, h2, fun j u hj => t.cell (h3 j u hj) (hX _ (lt_of_cellA (h3 j u hj)))⟩
theorem ArgAt.keptX {X : Nat → Prop} {w w' : World} {v : Value} {rs : List Int} (h : ArgAt w v rs) (t : Kept X w w') (hX : ∀ k, k < w.heap.size → X k) : ArgAt w' v rs := by
  rcases h with h | ⟨ad, c, rfl, h1, h2, h3⟩
  · exact Or.inl h
  · exact Or.inr ⟨ad, c, rfl, h1, h2, fun j u hj => t.cell (h3 j u hj) (hX _ (lt_of_cellA (h3 j u hj)))⟩
theorem BArg.kept {X : Nat → Prop} {w w' : World} {b : BV} {vl vr vd : Value} (h : BArg w b vl vr vd) (t : Kept X w w') (hX : ∀ k, k < w.heap.size → X k) : BArg w' b vl vr vd := ⟨ValsAt.kept h.l t hX, ValsAt.kept h.r t hX, h.d.keptX t hX⟩
/-- What write makes of a body of type t. -/
def WAns (t : Int) (B : BV) (w : World) : Ending → World → Prop := fun e w' =>
  (mayB t B = true ∧ (layB t B).length ≤ 65515 ∧ ∃ u, e = .returned u ∧ Buf w w' u (layB t B)) ∨ (mayB t B = false ∧ e = .panicked (flawC 28) ∧ Touch (fun _ => False) w w') ∨ (mayB t B = true ∧ 65515 < (layB t B).length ∧ e = .panicked (flawC 11) ∧ Touch (fun _ => False) w w')
set_option maxHeartbeats 2000000 in
theorem writeB_any (G1 G2 : Nat) (hG : ∀ (x : Array Value) w, (callFunc G1 x).run Tryz.prog w = .ok (.enter G1 x) w) (hfl : ∀ w, (Instr.field 99 (.agg #[.func (.func G1) #[] #[], .func (.func G2) #[] #[]]) 0).run Tryz.prog w = .ok (.func (.func G1) #[] #[]) w)
    (t : Int) (B : BV) (ok : B.Ok) (a1 a3 a8 : Option Addr) (q1 q3 q8 : Nat) (w : World) (hA : BArg w B (.slice a1 B.links.length q1) (.slice a3 B.routers.length q3) (.slice a8 B.data.length q8)) (hN : B.links.length ≤ 140737488355328 ∧ B.routers.length ≤ 140737488355328 ∧ B.data.length ≤ 140737488355328)
    (HP : ∀ w, Calls Tryz.prog 73 #[.int .u8 t] w fun e w' => e = .returned (.agg #[.func (.func G1) #[] #[], .func (.func G2) #[] #[]]) ∧ Touch (fun _ => False) w w')
    (HWt : ∀ (X : Nat → Prop) (b g : Nat) (w : World), Wr X w b [] 65515 → X g → OutB w g B (.slice a1 B.links.length q1) (.slice a3 B.routers.length q3) (.slice a8 B.data.length q8) → (∀ w', Kept (but X g) w w' → BArg w' B (.slice a1 B.links.length q1) (.slice a3 B.routers.length q3) (.slice a8 B.data.length q8)) → Calls Tryz.prog G1 #[.agg #[.pointer (some ⟨b, 0, none⟩)], .pointer (some ⟨g, 0, none⟩)] w (WrPost t X b g [] 65515 B w)) :
    Calls Tryz.prog 39 #[.int .u8 t, .agg #[.int .u8 B.flags, .slice a1 B.links.length q1, .int .u32 B.mask, .slice a3 B.routers.length q3, .int .u32 B.metric, .bool B.type2, .int .u32 B.fwd, .int .u32 B.tag, .slice a8 B.data.length q8]] w (WAns t B w) := by
  have HPh : Hid (∀ w, Calls Tryz.prog 73 #[.int .u8 t] w fun e w' => e = .returned (.agg #[.func (.func G1) #[] #[], .func (.func G2) #[] #[]]) ∧ Touch (fun _ => False) w w') := HP
  have HWh : Hid (∀ (X : Nat → Prop) (b g : Nat) (w : World), Wr X w b [] 65515 → X g → OutB w g B (.slice a1 B.links.length q1) (.slice a3 B.routers.length q3) (.slice a8 B.data.length q8) → (∀ w', Kept (but X g) w w' → BArg w' B (.slice a1 B.links.length q1) (.slice a3 B.routers.length q3) (.slice a8 B.data.length q8)) → Calls Tryz.prog G1 #[.agg #[.pointer (some ⟨b, 0, none⟩)], .pointer (some ⟨g, 0, none⟩)] w (WrPost t X b g [] 65515 B w)) := HWt
  have HA : Hid (BArg w B (.slice a1 B.links.length q1) (.slice a3 B.routers.length q3) (.slice a8 B.data.length q8)) := hA
  clear HP HWt hA
  go_enter Tryz.func39, Tryz.ntmps39
  go_wp2_with fail
  refine Calls.mono (write_w 65515 _ (by omega)) ?_
  rintro e w1 ⟨rfl, hw1, t1⟩
  have O1 := (OutB.new w B (.slice a1 B.links.length q1) (.slice a3 B.routers.length q3) (.slice a8 B.data.length q8) 30).keep t1
  have T1 : Hid (Touch (fun _ => False) w w1) := ((Touch.refl _ w).alloc _).trans t1
  simp only [World.size_alloc] at hw1 t1 ⊢
  have hsz : w.heap.size + 1 < w1.heap.size := hw1.lt
  have HO1 : Hid (OutB w1 w.heap.size B (.slice a1 B.links.length q1) (.slice a3 B.routers.length q3) (.slice a8 B.data.length q8)) := O1
  have HW1 : Hid (Wr (fun k => k < w.heap.size + 1) w1 (w.heap.size + 1) [] 65515) := hw1
  clear t1 hw1 O1
  go_upto_region 2 with fail
  have HW2 : Hid (Wr (fun k => k < w.heap.size + 1 ∨ k = w1.heap.size) (w1.alloc (.cells #[.pointer (some ⟨w.heap.size + 1, 0, none⟩)] 112)).drew (w.heap.size + 1) [] 65515) := HW1.out.more (((Touch.refl _ _).alloc _).drew) (fun k hk => by rcases hk with hk | hk; exact Or.inl hk; exact Or.inr ⟨by omega, by simp [World.drew]; omega⟩)
  have HO2 : Hid (OutB (w1.alloc (.cells #[.pointer (some ⟨w.heap.size + 1, 0, none⟩)] 112)).drew w.heap.size B (.slice a1 B.links.length q1) (.slice a3 B.routers.length q3) (.slice a8 B.data.length q8)) := HO1.out.keep (((Touch.refl _ _).alloc _).drew)
  have TB : Hid (Touch (fun _ => False) w (w1.alloc (.cells #[.pointer (some ⟨w.heap.size + 1, 0, none⟩)] 112)).drew) := (T1.out.alloc _).drew
  have y0 : (w1.alloc (.cells #[.pointer (some ⟨w.heap.size + 1, 0, none⟩)] 112)).drew.cell? ⟨w1.heap.size, 0, none⟩ = some (.pointer (some ⟨w.heap.size + 1, 0, none⟩)) := by simp [go_sem]
  clear HW1 HO1 T1
  generalize (w1.alloc (.cells #[.pointer (some ⟨w.heap.size + 1, 0, none⟩)] 112)) = w2 at *
  go_region_held2 (fun w' => w'.cell? ⟨w1.heap.size, 0, none⟩ = some (.pointer (some ⟨w.heap.size + 1, 0, none⟩))) (first | with_reducible exact y0 | with_reducible exact y1 | with_reducible exact y4) (first
    | (go_at_call 73; refine Calls.mono (HPh.out _) ?_; rintro e w3 ⟨rfl, t3⟩; have y1 := t3.cellN y0; have HW3 : Hid (Wr (fun k => k < w.heap.size + 1 ∨ k = w1.heap.size) w3 (w.heap.size + 1) [] 65515) := HW2.out.keep t3; have HO3 : Hid (OutB w3 w.heap.size B (.slice a1 B.links.length q1) (.slice a3 B.routers.length q3) (.slice a8 B.data.length q8)) := HO2.out.keep t3; have T3 : Hid (Touch (fun _ => False) w w3) := TB.out.trans t3; clear t3)
    | (refine Calls.mono (HWh.out (fun k => k < w.heap.size + 1 ∨ k = w1.heap.size) (w.heap.size + 1) w.heap.size _ HW3.out (Or.inl (by omega)) HO3.out (fun w' k => BArg.kept (X := but (fun k => k < w.heap.size + 1 ∨ k = w1.heap.size) w.heap.size) HA.out ((Kept.of T3.out).trans k) (fun i hi => ⟨Or.inl (by omega), by omega⟩))) ?_; rintro e w4 (⟨rfl, l, B', b1, p1, b3, p3, b8, p8, hw4, o4, k4, hln, hbm, hly⟩ | ⟨rfl, k4, hno⟩); rotate_left; exact ⟨rfl, Or.inr (Or.inl ⟨hno, rfl, Kept.after k4 T3.out (fun i hi => ⟨Or.inl (by omega), by omega⟩)⟩)⟩; have y4 := k4.cell y1 ⟨Or.inr rfl, (by show w1.heap.size ≠ w.heap.size; omega)⟩; have T4 : Hid (Touch (fun _ => False) w w4) := Kept.after k4 T3.out (fun i hi => ⟨Or.inl (by omega), by omega⟩); have HW4 : Hid (Wr (fun k => k < w.heap.size + 1 ∨ k = w1.heap.size) w4 (w.heap.size + 1) ([] ++ l) 65515) := hw4; have HO4 : Hid (OutB w4 w.heap.size B' (.slice b1 B'.links.length p1) (.slice b3 B'.routers.length p3) (.slice b8 B'.data.length p8)) := o4; have HN1 : Hid (B'.links.length ≤ 140737488355328 ∧ B'.routers.length ≤ 140737488355328 ∧ B'.data.length ≤ 140737488355328) := ⟨Nat.le_trans hln.1 hN.1, Nat.le_trans hln.2.1 hN.2.1, Nat.le_trans hln.2.2 hN.2.2⟩; have HBM : Hid (bareB B' = mayB t B) := hbm; have HLY : Hid (mayB t B = true → l = layB t B) := hly; clear k4 hw4 o4 hbm hly hln))
  first | refine (‹∀ (a : Act) (w_1 : World), Code.wp Tryz.prog _ _ a w_1 → _›) _ _ ?_ | skip
  clear y0 y1 HW3 HO3 T3 HW2 HO2 TB HPh HWh HA hfl hG
  obtain ⟨⟨d0, d1, d2, d3, d4, d5, d6, d7, d8⟩, -⟩ := HO4.out
  have HB0 : Hid (bareB B' = true → B'.links.length = 0 ∧ B'.routers.length = 0 ∧ B'.data.length = 0) := fun h => by obtain ⟨h1, h2, h3, -⟩ := (bareB_iff B').1 h; exact ⟨h1, h2, h3⟩
  have hba := bare_any B'.flags B'.mask B'.metric B'.fwd B'.tag B'.type2 b1 b3 b8 B'.links.length p1 B'.routers.length p3 B'.data.length p8 w4 HN1.out.1 HN1.out.2.1 HN1.out.2.2
  rw [show ((((B'.links.length : Int) + B'.routers.length + B'.data.length == 0) && (B'.flags == 0) && (B'.mask == 0) && (B'.metric == 0) && (!B'.type2) && (B'.fwd == 0) && (B'.tag == 0))) = mayB t B from HBM.out] at hba
  go_wp2_with fail
  refine Calls.mono hba ?_
  rintro e w5 ⟨rfl, t5⟩
  have y5 := t5.cellN y4
  have HW5 : Hid (Wr (fun k => k < w.heap.size + 1 ∨ k = w1.heap.size) w5 (w.heap.size + 1) ([] ++ l) 65515) := HW4.out.keep t5
  have T5 : Hid (Touch (fun _ => False) w w5) := T4.out.trans t5
  clear t5 y4 d0 d1 d2 d3 d4 d5 d6 d7 d8 HO4 HW4 T4 hba
  cases hm : mayB t B with
  | false =>
    go_wp2_with fail
    refine Calls.mono (need_f _ 28 _ (by first | rfl | exact hm)) ?_
    rintro e w6 ⟨rfl, rfl⟩
    exact ⟨rfl, Or.inr (Or.inl ⟨hm, rfl, T5.out⟩)⟩
  | true =>
    have hl : l = layB t B := HLY.out hm
    subst hl
    have HM : Hid (mayB t B = true) := hm
    clear hm HLY HBM
    go_wp2_with fail
    refine Calls.mono (need_t _ 28 _ rfl) ?_
    rintro e w6 ⟨rfl, rfl⟩
    by_cases hlen : (layB t B).length ≤ 65515
    · have HLE : Hid ((layB t B).length ≤ 65515) := hlen
      have hdw := done_w _ (w.heap.size + 1) _ 65515 _ HW5.out (by simp; omega) (by omega)
      clear hlen
      rw [List.nil_append] at hdw
      go_wp2_with fail
      refine Calls.mono hdw ?_
      rintro e w6 ⟨u, rfl, b6⟩
      obtain ⟨ua, uc, rfl⟩ := b6.form
      have B6 : Hid (Buf w w6 _ (layB t B)) := b6.back T5.out
      clear b6 y5 hdw
      go_wp2_with fail
      refine Calls.mono (need_t _ _ _ rfl) ?_
      rintro e w7 ⟨rfl, rfl⟩
      go_wp2
      go_ret
      exact Or.inl ⟨HM.out, HLE.out, _, rfl, B6.out⟩
    · have HLE : Hid (65515 < (layB t B).length) := by show _ < _; omega
      have hdo := done_over _ (w.heap.size + 1) _ 65515 _ HW5.out (by simp; omega)
      clear hlen
      go_wp2_with fail
      refine Calls.mono hdo ?_
      rintro e w6 ⟨rfl, rfl⟩
      go_wp2_with fail
      refine Calls.mono (need_f _ 11 _ rfl) ?_
      rintro e w7 ⟨rfl, rfl⟩
      exact ⟨rfl, Or.inr (Or.inr ⟨HM.out, HLE.out, rfl, T5.out⟩)⟩
end Go.Proofs.YthdkihnmeoacaaaGreatDoor
