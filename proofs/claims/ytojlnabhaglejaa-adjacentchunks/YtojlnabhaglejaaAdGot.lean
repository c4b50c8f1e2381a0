
/- What was wanted is there. -/
import Derived.Test.YtojlnabhaglejaaAdDel
namespace Go.Proofs.Ytojlnabhaglejaa
open Go.RowKit
set_option linter.unusedVariables false
set_option maxRecDepth 100000

open Go.ChangeMaps (setBlock)
theorem newer_same (w : World) : Calls Try.prog 65 #[.agg #[.int .u16 0, .int .u8 0, .int .u8 1, .int .u32 2, .int .u32 2, .int .i32 (-2147483647), .int .u16 0, .int .u16 0], .agg #[.int .u16 0, .int .u8 0, .int .u8 1, .int .u32 2, .int .u32 2, .int .i32 (-2147483647), .int .u16 0, .int .u16 0]] w fun e w' => e = .returned (.int .i64 0) ∧ Touch (fun _ => False) w w' := by
  have h := newer_any 0 0 1 2 2 (-2147483647) 0 0 0 0 1 2 2 (-2147483647) 0 0 (by omega) (by omega) (by omega) (by omega) w
  have e : newI (-2147483647) 0 0 (-2147483647) 0 0 = 0 := by decide
  rw [e] at h
  exact h
set_option maxHeartbeats 8000000 in
theorem drop_one (base : Nat) (w : World) (b mm c c0 : Nat) (x : AJ) (h : Ads w b x) (hw : x.wm = .map (some mm)) (hk : KR base w x.keys) (hm : w.heap[mm]? = some (.map #[⟨K1, .agg #[.int .u16 0, .int .u8 0, .int .u8 1, .int .u32 2, .int .u32 2, .int .i32 (-2147483647), .int .u16 0, .int .u16 0], c0⟩] c)) (hbm : b ≠ mm) (hbb : b < base) (hmb : mm < base) :
    Calls Try.prog 51 #[.pointer (some ⟨b, 20, none⟩), .agg #[.int .u16 0, .int .u8 0, .int .u8 1, .int .u32 2, .int .u32 2, .int .i32 (-2147483647), .int .u16 0, .int .u16 0]] w fun e w' => e = .returned (.int .i64 0) ∧ ∃ a d, Ads w' b { x with keys := .slice a 0 d } ∧ Touch (fun k => k = b ∨ k = mm ∨ base ≤ k) w w' := by
  have HA : Hid (Ads w b x) := h
  have HM : Hid (w.heap[mm]? = some (.map #[⟨K1, .agg #[.int .u16 0, .int .u8 0, .int .u8 1, .int .u32 2, .int .u32 2, .int .i32 (-2147483647), .int .u16 0, .int .u16 0], c0⟩] c)) := hm
  have HK : Hid (KR base w x.keys) := hk
  have hbw := h.lt
  clear h hm hk
  go_enter Try.func51, Try.ntmps51
  go_wp2_with fail
  have T0 : Touch (fun _ => False) w (w.alloc (.cells #[.int .u16 0, .int .u8 0, .int .u8 1, .int .u32 2, .int .u32 2, .int .i32 (-2147483647), .int .u16 0, .int .u16 0] 50)) := (Touch.refl _ _).alloc _
  have R0 : Row (w.alloc (.cells #[.int .u16 0, .int .u8 0, .int .u8 1, .int .u32 2, .int .u32 2, .int .i32 (-2147483647), .int .u16 0, .int .u16 0] 50)) w.heap.size 50 [.int .u16 0, .int .u8 0, .int .u8 1, .int .u32 2, .int .u32 2, .int .i32 (-2147483647), .int .u16 0, .int .u16 0] := row_new _ _ _
  generalize w.alloc (.cells #[.int .u16 0, .int .u8 0, .int .u8 1, .int .u32 2, .int .u32 2, .int .i32 (-2147483647), .int .u16 0, .int .u16 0] 50) = wa at *
  obtain ⟨g0, hg0⟩ : ∃ g, w.heap.size = g := ⟨_, rfl⟩
  rw [hg0] at R0 hbw ⊢
  clear hg0
  refine Calls.mono (keyOf_one _) ?_
  rintro e w1 ⟨rfl, t1⟩
  have T1 : Touch (fun _ => False) w w1 := T0.trans t1
  have R1 := R0.keep t1
  clear T0 R0 t1
  go_upto_region 2 with fail
  have T2 : Touch (fun _ => False) w (w1.alloc (.cells #[.int .u8 1, .int .u32 2, .int .u32 2] 47)) := T1.alloc _
  have R2h : Row (w1.alloc (.cells #[.int .u8 1, .int .u32 2, .int .u32 2] 47)) g0 50 [.int .u16 0, .int .u8 0, .int .u8 1, .int .u32 2, .int .u32 2, .int .i32 (-2147483647), .int .u16 0, .int .u16 0] := R1.keep ((Touch.refl _ _).alloc _)
  obtain ⟨g1, hg1⟩ : ∃ g, w1.heap.size = g := ⟨_, rfl⟩
  have R2k : Row (w1.alloc (.cells #[.int .u8 1, .int .u32 2, .int .u32 2] 47)) w1.heap.size 47 [.int .u8 1, .int .u32 2, .int .u32 2] := row_new _ _ _
  rw [hg1] at R2k ⊢
  generalize w1.alloc (.cells #[.int .u8 1, .int .u32 2, .int .u32 2] 47) = w2 at *
  have hg1m : g1 ≠ mm := by have h1 := T1.size; have h2 := lt_of_heap HM.out; omega
  clear R1 T1
  have HA2 := HA.out.keep T2
  have HM2 := T2.heapN HM.out
  have HK2 := HK.out.keep T2
  have d20 : w2.cell? ⟨b, 20, none⟩ = some (.map (some mm)) := by rw [← hw]; exact HA2.cell 20
  have k0 : w2.cell? ⟨g1, 0, none⟩ = some (.int .u8 1) := R2k.cell 0
  have k1 : w2.cell? ⟨g1, 1, none⟩ = some (.int .u32 2) := R2k.cell 1
  have k2 : w2.cell? ⟨g1, 2, none⟩ = some (.int .u32 2) := R2k.cell 2
  have hb2 := HA2.lt
  have hk2 := R2k.lt
  have hl1 := mlook_some (w := w2.drew) HM2
  have T3 : Touch (fun _ => False) w2 ((w2.alloc (.cells #[.int .u16 0, .int .u8 0, .int .u8 0, .int .u32 0, .int .u32 0, .int .i32 0, .int .u16 0, .int .u16 0] 50)).drew) := ((Touch.refl _ _).alloc _).drew
  have hl2 := mlook_some (T3.heapN HM2)
  unfold K1 at hl1 hl2
  have X : Hid (Ads w2 b x ∧ w2.heap[mm]? = some (.map #[⟨K1, .agg #[.int .u16 0, .int .u8 0, .int .u8 1, .int .u32 2, .int .u32 2, .int .i32 (-2147483647), .int .u16 0, .int .u16 0], c0⟩] c) ∧ Row w2 g0 50 [.int .u16 0, .int .u8 0, .int .u8 1, .int .u32 2, .int .u32 2, .int .i32 (-2147483647), .int .u16 0, .int .u16 0] ∧ Row w2 g1 47 [.int .u8 1, .int .u32 2, .int .u32 2] ∧ Touch (fun _ => False) w w2 ∧ KR base w2 x.keys) := ⟨HA2, HM2, R2h, R2k, T2, HK2⟩
  clear HA2 HM2 R2h R2k T2 HK2 HK HM T3
  go_cut [6, 7] (fun s6 s7 wx => s6 = .pointer (some ⟨w2.heap.size, 0, none⟩) ∧ s7 = .bool true ∧ wx = (w2.alloc (.cells #[.int .u16 0, .int .u8 0, .int .u8 1, .int .u32 2, .int .u32 2, .int .i32 (-2147483647), .int .u16 0, .int .u16 0] 50)).drew)
  case first =>
    go_region
    all_goals go_wp2_with fail
    all_goals go_meet
    all_goals exact ⟨rfl, rfl, rfl⟩
  case rest =>
    obtain ⟨rfl, rfl, rfl⟩ := hcut
    obtain ⟨HA2, HM2, R2h, R2k, T2, HK2⟩ := X.out
    have T3 : Touch (fun _ => False) w2 ((w2.alloc (.cells #[.int .u16 0, .int .u8 0, .int .u8 1, .int .u32 2, .int .u32 2, .int .i32 (-2147483647), .int .u16 0, .int .u16 0] 50)).drew) := ((Touch.refl _ _).alloc _).drew
    have R3n : Row ((w2.alloc (.cells #[.int .u16 0, .int .u8 0, .int .u8 1, .int .u32 2, .int .u32 2, .int .i32 (-2147483647), .int .u16 0, .int .u16 0] 50)).drew) w2.heap.size 50 [.int .u16 0, .int .u8 0, .int .u8 1, .int .u32 2, .int .u32 2, .int .i32 (-2147483647), .int .u16 0, .int .u16 0] := (row_new w2 50 #[.int .u16 0, .int .u8 0, .int .u8 1, .int .u32 2, .int .u32 2, .int .i32 (-2147483647), .int .u16 0, .int .u16 0]).keep ((Touch.refl _ _).drew)
    have HA3 := HA2.keep T3
    have HM3 := T3.heapN HM2
    have HK3 := HK2.keep T3
    have R3h := R2h.keep T3
    have R3k := R2k.keep T3
    have T30 := T2.trans T3
    generalize (w2.alloc (.cells #[.int .u16 0, .int .u8 0, .int .u8 1, .int .u32 2, .int .u32 2, .int .i32 (-2147483647), .int .u16 0, .int .u16 0] 50)).drew = w3 at *
    generalize w2.heap.size = g2 at *
    clear HA2 HM2 R2h R2k T2 T3 HK2 hl1 hl2 d20 k0 k1 k2 hb2 hk2 X
    have n0 : w3.cell? ⟨g2, 0, none⟩ = some (.int .u16 0) := R3n.cell 0
    have n1 : w3.cell? ⟨g2, 1, none⟩ = some (.int .u8 0) := R3n.cell 1
    have n2 : w3.cell? ⟨g2, 2, none⟩ = some (.int .u8 1) := R3n.cell 2
    have n3 : w3.cell? ⟨g2, 3, none⟩ = some (.int .u32 2) := R3n.cell 3
    have n4 : w3.cell? ⟨g2, 4, none⟩ = some (.int .u32 2) := R3n.cell 4
    have n5 : w3.cell? ⟨g2, 5, none⟩ = some (.int .i32 (-2147483647)) := R3n.cell 5
    have n6 : w3.cell? ⟨g2, 6, none⟩ = some (.int .u16 0) := R3n.cell 6
    have n7 : w3.cell? ⟨g2, 7, none⟩ = some (.int .u16 0) := R3n.cell 7
    have h0 : w3.cell? ⟨g0, 0, none⟩ = some (.int .u16 0) := R3h.cell 0
    have h1 : w3.cell? ⟨g0, 1, none⟩ = some (.int .u8 0) := R3h.cell 1
    have h2 : w3.cell? ⟨g0, 2, none⟩ = some (.int .u8 1) := R3h.cell 2
    have h3 : w3.cell? ⟨g0, 3, none⟩ = some (.int .u32 2) := R3h.cell 3
    have h4 : w3.cell? ⟨g0, 4, none⟩ = some (.int .u32 2) := R3h.cell 4
    have h5 : w3.cell? ⟨g0, 5, none⟩ = some (.int .i32 (-2147483647)) := R3h.cell 5
    have h6 : w3.cell? ⟨g0, 6, none⟩ = some (.int .u16 0) := R3h.cell 6
    have h7 : w3.cell? ⟨g0, 7, none⟩ = some (.int .u16 0) := R3h.cell 7
    have hn3 := R3n.lt
    have hh3 := R3h.lt
    have X : Hid (Ads w3 b x ∧ w3.heap[mm]? = some (.map #[⟨K1, .agg #[.int .u16 0, .int .u8 0, .int .u8 1, .int .u32 2, .int .u32 2, .int .i32 (-2147483647), .int .u16 0, .int .u16 0], c0⟩] c) ∧ Row w3 g1 47 [.int .u8 1, .int .u32 2, .int .u32 2] ∧ Touch (fun _ => False) w w3 ∧ KR base w3 x.keys) := ⟨HA3, HM3, R3k, T30, HK3⟩
    clear HA3 HM3 HK3 R3h R3k R3n T30
    go_wp2_with fail
    refine Calls.mono (newer_same _) ?_
    rintro e w4 ⟨rfl, t4⟩
    obtain ⟨HA3, HM3, R3k, T30, HK3⟩ := X.out
    have HA4 := HA3.keep t4
    have HM4 := t4.heapN HM3
    have R4k := R3k.keep t4
    have HK4 := HK3.keep t4
    have T4 := T30.trans t4
    clear X HA3 HM3 R3k T30 HK3 t4 n0 n1 n2 n3 n4 n5 n6 n7 h0 h1 h2 h3 h4 h5 h6 h7 hn3 hh3
    have d20 : w4.cell? ⟨b, 20, none⟩ = some (.map (some mm)) := by rw [← hw]; exact HA4.cell 20
    have k0 : w4.cell? ⟨g1, 0, none⟩ = some (.int .u8 1) := R4k.cell 0
    have k1 : w4.cell? ⟨g1, 1, none⟩ = some (.int .u32 2) := R4k.cell 1
    have k2 : w4.cell? ⟨g1, 2, none⟩ = some (.int .u32 2) := R4k.cell 2
    have hb4 := HA4.lt
    have hk4 := R4k.lt
    have hdel := fun ty => mdel ty (w := w4.drew) HM4
    unfold K1 at hdel
    have tm : Touch (fun k => k = mm) w4 (setBlock w4.drew mm (.map #[] c)) := (Touch.refl (fun k => k = mm) w4).drew.trans (touch_block (w := w4.drew) HM4)
    have X : Hid (Ads (setBlock w4.drew mm (.map #[] c)) b x ∧ Row (setBlock w4.drew mm (.map #[] c)) g1 47 [.int .u8 1, .int .u32 2, .int .u32 2] ∧ KR base (setBlock w4.drew mm (.map #[] c)) x.keys ∧ Touch (fun k => k = mm) w (setBlock w4.drew mm (.map #[] c))) := ⟨HA4.touch tm hbm, (tm.block g1 R4k.lt hg1m).trans R4k, own_touch HK4 tm (fun k hk e => by have := (HK4.lt k hk).1; omega), (T4.mono (fun _ _ f => f.elim)).trans tm⟩
    clear HA4 HM4 R4k HK4 T4 tm
    go_upto_region 5 with fail
    go_cut [] (fun wx => wx = setBlock w4.drew mm (.map #[] c))
    case first =>
      go_region
      all_goals go_wp2_with fail
      all_goals go_meet
      all_goals rfl
    case rest =>
      subst hcut
      obtain ⟨HA5, R5k, HK5, T5⟩ := X.out
      clear X hdel d20 k0 k1 k2 hb4 hk4
      generalize setBlock w4.drew mm (.map #[] c) = w5 at *
      obtain ⟨g, cc, hkf, hgb, hglt, hc1, q0, q1, q2, -, -, -⟩ := HK5.form
      have d21 : w5.cell? ⟨b, 21, none⟩ = some (.slice (some ⟨g, 0, none⟩) 1 cc) := by rw [← hkf]; exact HA5.cell 21
      have k0 : w5.cell? ⟨g1, 0, none⟩ = some (.int .u8 1) := R5k.cell 0
      have k1 : w5.cell? ⟨g1, 1, none⟩ = some (.int .u32 2) := R5k.cell 1
      have k2 : w5.cell? ⟨g1, 2, none⟩ = some (.int .u32 2) := R5k.cell 2
      have hb5 := HA5.lt
      have hk5 := R5k.lt
      have HI : Hid (∀ w', SnX w5 w' → Calls Try.prog 69 #[.slice (some ⟨g, 0, none⟩) 1 cc, .agg #[.int .u8 1, .int .u32 2, .int .u32 2]] w' fun e w'' => e = .returned (.int .i64 0) ∧ Touch (fun _ => False) w' w'') := fun w' sx => index_one w' g cc (sx.t.cellN q0) (sx.t.cellN q1) (sx.t.cellN q2)
      have X : Hid (Ads w5 b x ∧ KR base w5 (.slice (some ⟨g, 0, none⟩) 1 cc) ∧ Touch (fun k => k = mm) w w5) := ⟨HA5, by rw [← hkf]; exact HK5, T5⟩
      have st := SnX.start w5
      have z21 := snX_cell d21
      have y0 := snX_cell k0
      have y1 := snX_cell k1
      have y2 := snX_cell k2
      clear HA5 R5k HK5 T5 q0 q1 q2 hkf
      go_upto_region 6 with fail
      clear d21 k0 k1 k2
      go_region_held3 (fun w' => SnX w5 w') (with_reducible assumption) ((go_at_call 69; refine Calls.mono (HI.out _ (by with_reducible assumption)) ?_; rintro e wx ⟨rfl, tu⟩; have stx : SnX w5 wx := SnX.trans (by with_reducible assumption) tu))
      obtain ⟨HA5, HK5, T5⟩ := X.out
      have HA6 := HA5.keep stx.t
      have d21 := z21 _ stx
      have hb6 := HA6.lt
      have HD := delete_one base wx g cc (HK5.keep stx.t)
      have T6 : Hid (Touch (fun k => k = mm) w wx) := T5.trans (stx.t.mono (fun _ _ f => f.elim))
      have HA7 : Hid (Ads wx b x) := HA6
      clear X HA5 HK5 T5 HA6 stx z21 y0 y1 y2 st HI tu
      go_wp2_with fail
      refine Calls.mono HD ?_
      rintro e w7 ⟨rfl, t7⟩
      have HA8 : Ads w7 b x := HA7.out.touch t7 (fun e => by omega)
      have e21 : w7.cell? ⟨b, 21, none⟩ = some x.keys := HA8.cell 21
      have f21 := HA8.frozen 21
      have hb7 := HA8.lt
      have FIN : Hid (Ads (w7.setCell ⟨b, 21, none⟩ (.slice (some ⟨g, 0, none⟩) 0 cc)) b { x with keys := .slice (some ⟨g, 0, none⟩) 0 cc } ∧ Touch (fun k => k = b ∨ k = mm ∨ base ≤ k) w (w7.setCell ⟨b, 21, none⟩ (.slice (some ⟨g, 0, none⟩) 0 cc))) := ⟨HA8.set21 _, ((T6.out.mono (G := fun k => k = b ∨ k = mm ∨ base ≤ k) (fun _ _ e => Or.inr (Or.inl e))).trans (t7.mono (fun _ _ e => Or.inr (Or.inr (by omega))))).setCell (p := ⟨b, 21, none⟩) (Or.inl (Or.inl rfl)) _⟩
      clear HA8 t7 HD d21 T6 HA7
      go_wp2_with fail
      go_ret
      exact ⟨rfl, _, _, FIN.out⟩
end Go.Proofs.Ytojlnabhaglejaa
