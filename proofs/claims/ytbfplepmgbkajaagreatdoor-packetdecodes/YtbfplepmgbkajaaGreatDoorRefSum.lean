/- The seventh law's lives: an Ack of nothing. -/
import Derived.Test.YtbfplepmgbkajaaGreatDoorPkCpP
import Derived.Test.YtbfplepmgbkajaaGreatDoorPkEnc5
import Derived.Test.YtbfplepmgbkajaaGreatDoorPkBk
import Derived.Test.YtbfplepmgbkajaaGreatDoorPkEq
import Derived.Deep.QuietTactic
import Derived.BigQuiet
import Derived.Test.YtbfplepmgbkajaaGreatDoorBagFive4
import Derived.Test.YtbfplepmgbkajaaGreatDoorWideV
import Derived.Test.YtbfplepmgbkajaaGreatDoorNumber
import Derived.Test.YtbfplepmgbkajaaGreatDoorBagS
import Derived.Test.YtbfplepmgbkajaaGreatDoorStRd3
namespace Go.Proofs.YtbfplepmgbkajaaGreatDoor
open Go.RowKit
set_option linter.unusedVariables false
set_option maxRecDepth 100000

def C5 : PkC := ⟨PV.base 5 1 0, [], [], [], [], []⟩
def C6 : PkC := ⟨PV.base 6 0 0, [], [], [], [], []⟩
theorem base_okC (P : PV) (hP : P.Ok) : (⟨P, [], [], [], [], []⟩ : PkC).Ok := ⟨hP, (fun x h => by cases h), (fun x h => by cases h), (fun x h => by cases h), (fun x h => by cases h), (fun x h => by cases h), (fun x h => by cases h)⟩
theorem C5_ok : C5.Ok := base_okC _ (PV.base_ok (by omega) (by omega) (by omega))
theorem C6_ok : C6.Ok := base_okC _ (PV.base_ok (by omega) (by omega) (by omega))
theorem A0_ok : AuV.zero.Ok := by constructor <;> simp [AuV.zero]
theorem C5_lt : C5.Lt := ⟨by simp [C5], fun s h => by cases h⟩
theorem C6_lt : C6.Lt := ⟨by simp [C6], fun s h => by cases h⟩
theorem nil_at (w : World) (P : PV) : PkAt w ⟨P, [], [], [], [], []⟩ (.slice none 0 0) (.slice none 0 0) (.slice none 0 0) (.slice none 0 0) (.slice none 0 0) := ⟨⟨rfl, Or.inl ⟨rfl, rfl⟩⟩, ⟨rfl, Or.inl ⟨rfl, rfl⟩⟩, ⟨rfl, Or.inl ⟨rfl, rfl⟩⟩, ⟨[], rfl, ⟨⟨rfl, Or.inl ⟨rfl, rfl⟩⟩, fun x h => by cases h⟩⟩, ⟨rfl, Or.inl ⟨rfl, rfl⟩⟩⟩
theorem C5_enc : PEnc C5 AuV.zero := ⟨by simp [C5, PV.base], ⟨fun _ => by decide, fun _ => by decide, fun _ => rfl, fun _ => rfl, fun _ => rfl⟩, rfl, by simp [AuV.zero], by decide⟩
theorem C5_bytes : pencB C5 AuV.zero = [2, 5, 0, 24, 0, 0, 0, 1, 0, 0, 0, 0, 253, 225, 0, 0, 0, 0, 0, 0, 0, 0, 0, 0] := by
 unfold pencB
 rw [if_pos C5_enc.zero, sealed_form]
 decide
theorem C6_e : pencE C6 AuV.zero = 21 := pencE_21 (by simp [C6, PV.base])
theorem L5_e : pdecE [2, 5, 0, 24, 0, 0, 0, 1, 0, 0, 0, 0, 253, 225, 0, 0, 0, 0, 0, 0, 0, 0, 0, 0] = 0 := by decide
theorem L5_c : pdecC [2, 5, 0, 24, 0, 0, 0, 1, 0, 0, 0, 0, 253, 225, 0, 0, 0, 0, 0, 0, 0, 0, 0, 0] = C5 := by unfold pdecC; rw [if_pos L5_e]; rfl
theorem L5_a : pdecA [2, 5, 0, 24, 0, 0, 0, 1, 0, 0, 0, 0, 253, 225, 0, 0, 0, 0, 0, 0, 0, 0, 0, 0] = AuV.zero := by unfold pdecA; rw [if_pos L5_e]; rfl
theorem L5_r : pRight [2, 5, 0, 24, 0, 0, 0, 1, 0, 0, 0, 0, 253, 225, 0, 0, 0, 0, 0, 0, 0, 0, 0, 0] = true := by decide
theorem L5_bt : ∀ z ∈ ([2, 5, 0, 24, 0, 0, 0, 1, 0, 0, 0, 0, 253, 225, 0, 0, 0, 0, 0, 0, 0, 0, 0, 0] : List Int), 0 ≤ z ∧ z < 256 := by decide

set_option maxHeartbeats 4000000 in
theorem plives (w : World) : Calls Tryz.prog 6 #[] w fun e w' => e = .returned (.bool true) ∧ Touch (fun _ => False) w w' := by
 have HE1 : ∀ w, Calls Tryz.prog 8 #[.agg #[.int .u8 5, .int .u32 1, .int .u32 0, .int .u32 0, .int .u16 0, .int .u8 0, .int .u8 0, .int .u32 0, .int .u32 0, .int .u32 0, .slice none 0 0, .int .u16 0, .int .u8 0, .int .u8 0, .int .u32 0, .slice none 0 0, .slice none 0 0, .slice none 0 0, .slice none 0 0], .agg #[.int .u16 0, .int .u8 0, .int .u8 0, .int .u8 0, .int .u8 0, .int .u8 0, .int .u8 0, .int .u8 0, .int .u8 0]] w fun e w' => ∃ v, e = .returned (.tuple #[v, .int .i64 0]) ∧ Buf w w' v [2, 5, 0, 24, 0, 0, 0, 1, 0, 0, 0, 0, 253, 225, 0, 0, 0, 0, 0, 0, 0, 0, 0, 0] := fun w => by
  have := penc5 C5 C5_ok C5_lt AuV.zero A0_ok _ _ _ _ _ w (nil_at w _) (Or.inl rfl)
  rw [C5_enc.zero, C5_bytes] at this
  exact this
 have HE2 : ∀ w, Calls Tryz.prog 8 #[.agg #[.int .u8 6, .int .u32 0, .int .u32 0, .int .u32 0, .int .u16 0, .int .u8 0, .int .u8 0, .int .u32 0, .int .u32 0, .int .u32 0, .slice none 0 0, .int .u16 0, .int .u8 0, .int .u8 0, .int .u32 0, .slice none 0 0, .slice none 0 0, .slice none 0 0, .slice none 0 0], .agg #[.int .u16 0, .int .u8 0, .int .u8 0, .int .u8 0, .int .u8 0, .int .u8 0, .int .u8 0, .int .u8 0, .int .u8 0]] w fun e w' => ∃ v, e = .returned (.tuple #[v, .int .i64 21]) ∧ Touch (fun _ => False) w w' := fun w => by
  have := penc5 C6 C6_ok C6_lt AuV.zero A0_ok _ _ _ _ _ w (nil_at w _) (Or.inr (by simp [C6, PV.base]))
  rw [C6_e] at this
  exact this.mono (fun e w' ⟨v, h1, h2⟩ => ⟨v, h1, h2.t⟩)
 have HDc : ∀ v w, ArgAt w v [2, 5, 0, 24, 0, 0, 0, 1, 0, 0, 0, 0, 253, 225, 0, 0, 0, 0, 0, 0, 0, 0, 0, 0] → Calls Tryz.prog 17 #[v] w fun e w' => ∃ na nc da dc ka kc sa sc ha hc, e = .returned (.tuple #[.agg #[.int .u8 5, .int .u32 1, .int .u32 0, .int .u32 0, .int .u16 0, .int .u8 0, .int .u8 0, .int .u32 0, .int .u32 0, .int .u32 0, .slice na 0 nc, .int .u16 0, .int .u8 0, .int .u8 0, .int .u32 0, .slice da 0 dc, .slice ka 0 kc, .slice sa 0 sc, .slice ha 0 hc], .agg #[.int .u16 0, .int .u8 0, .int .u8 0, .int .u8 0, .int .u8 0, .int .u8 0, .int .u8 0, .int .u8 0, .int .u8 0], .int .i64 0]) ∧ Touch (fun _ => False) w w' := fun v w hv => by
  have := pdec_any v [2, 5, 0, 24, 0, 0, 0, 1, 0, 0, 0, 0, 253, 225, 0, 0, 0, 0, 0, 0, 0, 0, 0, 0] w hv L5_bt (by simp)
  rw [L5_c, L5_a, L5_e] at this
  refine this.mono ?_
  rintro e w' ⟨vn, vd, vk, vs, vh, rfl, po, t⟩
  obtain ⟨na, nc, rfl⟩ := own_form po.n
  obtain ⟨da, dc, rfl⟩ := own_form po.d
  obtain ⟨ka, kc, rfl⟩ := own_form po.k
  obtain ⟨sa, sc, rfl⟩ : ∃ a c, vs = .slice a 0 c := by
   obtain ⟨l, hl, hs, _⟩ := po.s
   obtain ⟨a, c, e⟩ := own_form hs
   have : l.length = 0 := by rw [← List.length_map (f := SE.p), hl]; rfl
   exact ⟨a, c, by rw [e, this]⟩
  obtain ⟨ha, hc, rfl⟩ := own_form po.h
  exact ⟨na, nc, da, dc, ka, kc, sa, sc, ha, hc, rfl, t⟩
 have HRi : ∀ v w, ArgAt w v [2, 5, 0, 24, 0, 0, 0, 1, 0, 0, 0, 0, 253, 225, 0, 0, 0, 0, 0, 0, 0, 0, 0, 0] → Calls Tryz.prog 22 #[v] w fun e w' => e = .returned (.bool true) ∧ Touch (fun _ => False) w w' := fun v w hv => by
  have := pright_any v [2, 5, 0, 24, 0, 0, 0, 1, 0, 0, 0, 0, 253, 225, 0, 0, 0, 0, 0, 0, 0, 0, 0, 0] w hv L5_bt (by simp)
  rw [L5_r] at this
  exact this
 have heq : ∀ w, Sem.run Tryz.prog (Op.equalIn 9999 34 (.agg #[.int .u8 0, .int .u8 0, .int .u8 0, .int .u8 0, .int .u8 0, .int .u8 0, .int .u8 0, .int .u8 0]) (.agg #[.int .u8 0, .int .u8 0, .int .u8 0, .int .u8 0, .int .u8 0, .int .u8 0, .int .u8 0, .int .u8 0])) w = .ok true w := fun w => eq8 [0, 0, 0, 0, 0, 0, 0, 0] (by simp) rfl 9997 w
 go_enter Tryz.func6, Tryz.ntmps6
 go_wp2_with fail
 refine Calls.mono (HE1 w) ?_
 rintro e w1 ⟨v1, rfl, b1⟩
 obtain ⟨va, vc, rfl⟩ := b1.form
 have B1 : Hid (Buf w w1 (.slice va 24 vc) [2, 5, 0, 24, 0, 0, 0, 1, 0, 0, 0, 0, 253, 225, 0, 0, 0, 0, 0, 0, 0, 0, 0, 0]) := b1
 have H1 := HDc _ w1 b1.arg
 clear b1 HE1 HDc
 go_wp2_with fail
 refine Calls.mono H1 ?_
 rintro e w2 ⟨na, nc, da, dc, ka, kc, sa, sc, ha, hc, rfl, t2⟩
 clear H1
 obtain ⟨w3, hw3⟩ : ∃ w3, w3 = (((w2.alloc (.cells #[.int .u8 0, .int .u32 0, .int .u32 0, .int .u32 0, .int .u16 0, .int .u8 0, .int .u8 0, .int .u32 0, .int .u32 0, .int .u32 0, .slice none 0 0, .int .u16 0, .int .u8 0, .int .u8 0, .int .u32 0, .slice none 0 0, .slice none 0 0, .slice none 0 0, .slice none 0 0] 33)).alloc (.cells #[.int .u16 0, .int .u8 0, .int .u8 0, .int .u8 0, .int .u8 0, .int .u8 0, .int .u8 0, .int .u8 0, .int .u8 0] 44)).setRow w2.heap.size #[.int .u8 5, .int .u32 1, .int .u32 0, .int .u32 0, .int .u16 0, .int .u8 0, .int .u8 0, .int .u32 0, .int .u32 0, .int .u32 0, .slice na 0 nc, .int .u16 0, .int .u8 0, .int .u8 0, .int .u32 0, .slice da 0 dc, .slice ka 0 kc, .slice sa 0 sc, .slice ha 0 hc]).setRow (w2.heap.size + 1) #[.int .u16 0, .int .u8 0, .int .u8 0, .int .u8 0, .int .u8 0, .int .u8 0, .int .u8 0, .int .u8 0, .int .u8 0] := ⟨_, rfl⟩
 have ra : Row ((w2.alloc (.cells #[.int .u8 0, .int .u32 0, .int .u32 0, .int .u32 0, .int .u16 0, .int .u8 0, .int .u8 0, .int .u32 0, .int .u32 0, .int .u32 0, .slice none 0 0, .int .u16 0, .int .u8 0, .int .u8 0, .int .u32 0, .slice none 0 0, .slice none 0 0, .slice none 0 0, .slice none 0 0] 33)).alloc (.cells #[.int .u16 0, .int .u8 0, .int .u8 0, .int .u8 0, .int .u8 0, .int .u8 0, .int .u8 0, .int .u8 0, .int .u8 0] 44)) w2.heap.size 33 [.int .u8 0, .int .u32 0, .int .u32 0, .int .u32 0, .int .u16 0, .int .u8 0, .int .u8 0, .int .u32 0, .int .u32 0, .int .u32 0, .slice none 0 0, .int .u16 0, .int .u8 0, .int .u8 0, .int .u32 0, .slice none 0 0, .slice none 0 0, .slice none 0 0, .slice none 0 0] := (row_new w2 33 #[.int .u8 0, .int .u32 0, .int .u32 0, .int .u32 0, .int .u16 0, .int .u8 0, .int .u8 0, .int .u32 0, .int .u32 0, .int .u32 0, .slice none 0 0, .int .u16 0, .int .u8 0, .int .u8 0, .int .u32 0, .slice none 0 0, .slice none 0 0, .slice none 0 0, .slice none 0 0]).keep ((Touch.refl _ _).alloc _)
 have rb : Row ((w2.alloc (.cells #[.int .u8 0, .int .u32 0, .int .u32 0, .int .u32 0, .int .u16 0, .int .u8 0, .int .u8 0, .int .u32 0, .int .u32 0, .int .u32 0, .slice none 0 0, .int .u16 0, .int .u8 0, .int .u8 0, .int .u32 0, .slice none 0 0, .slice none 0 0, .slice none 0 0, .slice none 0 0] 33)).alloc (.cells #[.int .u16 0, .int .u8 0, .int .u8 0, .int .u8 0, .int .u8 0, .int .u8 0, .int .u8 0, .int .u8 0, .int .u8 0] 44)) (w2.heap.size + 1) 44 [.int .u16 0, .int .u8 0, .int .u8 0, .int .u8 0, .int .u8 0, .int .u8 0, .int .u8 0, .int .u8 0, .int .u8 0] := by
  have := row_new (w2.alloc (.cells #[.int .u8 0, .int .u32 0, .int .u32 0, .int .u32 0, .int .u16 0, .int .u8 0, .int .u8 0, .int .u32 0, .int .u32 0, .int .u32 0, .slice none 0 0, .int .u16 0, .int .u8 0, .int .u8 0, .int .u32 0, .slice none 0 0, .slice none 0 0, .slice none 0 0, .slice none 0 0] 33)) 44 #[.int .u16 0, .int .u8 0, .int .u8 0, .int .u8 0, .int .u8 0, .int .u8 0, .int .u8 0, .int .u8 0, .int .u8 0]
  simpa using this
 have rb2 : Row (((w2.alloc (.cells #[.int .u8 0, .int .u32 0, .int .u32 0, .int .u32 0, .int .u16 0, .int .u8 0, .int .u8 0, .int .u32 0, .int .u32 0, .int .u32 0, .slice none 0 0, .int .u16 0, .int .u8 0, .int .u8 0, .int .u32 0, .slice none 0 0, .slice none 0 0, .slice none 0 0, .slice none 0 0] 33)).alloc (.cells #[.int .u16 0, .int .u8 0, .int .u8 0, .int .u8 0, .int .u8 0, .int .u8 0, .int .u8 0, .int .u8 0, .int .u8 0] 44)).setRow w2.heap.size #[.int .u8 5, .int .u32 1, .int .u32 0, .int .u32 0, .int .u16 0, .int .u8 0, .int .u8 0, .int .u32 0, .int .u32 0, .int .u32 0, .slice na 0 nc, .int .u16 0, .int .u8 0, .int .u8 0, .int .u32 0, .slice da 0 dc, .slice ka 0 kc, .slice sa 0 sc, .slice ha 0 hc]) (w2.heap.size + 1) 44 [.int .u16 0, .int .u8 0, .int .u8 0, .int .u8 0, .int .u8 0, .int .u8 0, .int .u8 0, .int .u8 0, .int .u8 0] := rb.otherRow (by omega) _
 have t3 : Touch (fun _ => False) w2 w3 := by rw [hw3]; exact ((((Touch.refl _ _).alloc _).alloc _).setRow (Or.inr (by omega)) _).setRow (Or.inr (by omega)) _
 have G6 : Row w3 w2.heap.size 33 [.int .u8 5, .int .u32 1, .int .u32 0, .int .u32 0, .int .u16 0, .int .u8 0, .int .u8 0, .int .u32 0, .int .u32 0, .int .u32 0, .slice na 0 nc, .int .u16 0, .int .u8 0, .int .u8 0, .int .u32 0, .slice da 0 dc, .slice ka 0 kc, .slice sa 0 sc, .slice ha 0 hc] := by rw [hw3]; exact (ra.setRow _).otherRow (by omega) _
 have G7 : Row w3 (w2.heap.size + 1) 44 [.int .u16 0, .int .u8 0, .int .u8 0, .int .u8 0, .int .u8 0, .int .u8 0, .int .u8 0, .int .u8 0, .int .u8 0] := by rw [hw3]; exact rb2.setRow _
 have B3 : Hid (Buf w w3 (.slice va 24 vc) [2, 5, 0, 24, 0, 0, 0, 1, 0, 0, 0, 0, 253, 225, 0, 0, 0, 0, 0, 0, 0, 0, 0, 0]) := (B1.out.keep t2).keep t3
 clear t2 t3 B1
 go_upto_region 3 with (first | refine wpList_store_row rfl 33 (.tmp 3) (.tmp 17) rfl w2.heap.size #[.int .u8 5, .int .u32 1, .int .u32 0, .int .u32 0, .int .u16 0, .int .u8 0, .int .u8 0, .int .u32 0, .int .u32 0, .int .u32 0, .slice na 0 nc, .int .u16 0, .int .u8 0, .int .u8 0, .int .u32 0, .slice da 0 dc, .slice ka 0 kc, .slice sa 0 sc, .slice ha 0 hc] rfl rfl 33 _ ra (by kernel_rfl) rfl (by simp [Value.oneCell']) ?_ | refine wpList_store_row rfl 44 (.tmp 4) (.tmp 18) rfl (w2.heap.size + 1) #[.int .u16 0, .int .u8 0, .int .u8 0, .int .u8 0, .int .u8 0, .int .u8 0, .int .u8 0, .int .u8 0, .int .u8 0] rfl rfl 44 _ rb2 (by kernel_rfl) rfl (by simp [Value.oneCell']) ?_)
 rw [← hw3]
 clear hw3 ra rb rb2
 generalize w2.heap.size + 1 = g7 at *
 generalize w2.heap.size = g6 at *
 go_wp2_with fail
 refine Calls.mono (HE2 w3) ?_
 rintro e w4 ⟨v4, rfl, t4⟩
 have B4 := B3.out.keep t4
 have G64 := G6.keep t4
 have G74 := G7.keep t4
 have d1 : w4.cell? ⟨g6, 1, none⟩ = some (.int .u32 1) := G64.cell 1
 have y0 : w4.cell? ⟨g7, 0, none⟩ = some (.int .u16 0) := G74.cell 0
 have y1 : w4.cell? ⟨g7, 1, none⟩ = some (.int .u8 0) := G74.cell 1
 have y2 : w4.cell? ⟨g7, 2, none⟩ = some (.int .u8 0) := G74.cell 2
 have y3 : w4.cell? ⟨g7, 3, none⟩ = some (.int .u8 0) := G74.cell 3
 have y4 : w4.cell? ⟨g7, 4, none⟩ = some (.int .u8 0) := G74.cell 4
 have y5 : w4.cell? ⟨g7, 5, none⟩ = some (.int .u8 0) := G74.cell 5
 have y6 : w4.cell? ⟨g7, 6, none⟩ = some (.int .u8 0) := G74.cell 6
 have y7 : w4.cell? ⟨g7, 7, none⟩ = some (.int .u8 0) := G74.cell 7
 have y8 : w4.cell? ⟨g7, 8, none⟩ = some (.int .u8 0) := G74.cell 8
 have H4 := HRi _ w4 B4.arg
 have T4 : Hid (Touch (fun _ => False) w w4) := B4.t
 obtain ⟨gv, ov, ev⟩ := rowAt_some B4.row (by omega)
 subst ev
 have k12 : w4.cell? ⟨gv, ov + 12, none⟩ = some (.int .u8 253) := rowAt_cell B4.row 12 (by simp)
 have k13 : w4.cell? ⟨gv, ov + 13, none⟩ = some (.int .u8 225) := rowAt_cell B4.row 13 (by simp)
 clear HE2 HRi B3 B4 G6 G7 G64 G74 t4
 go_wp2_with (go_at_call 22; refine Calls.mono H4 ?_; rintro e w5 ⟨rfl, t5⟩)
 go_ret
 exact ⟨rfl, T4.out.trans t5⟩
end Go.Proofs.YtbfplepmgbkajaaGreatDoor

namespace Go.Proofs.YtbfplepmgbkajaaGreatDoor
open Go.RowKit
set_option linter.unusedVariables false
set_option maxRecDepth 100000

attribute [local go_sem ↓] Go.wp_at_zero Go.wp_at_succ
theorem enc_small {C : PkC} {A : AuV} (h : PEnc C A) : C.Lt ∧ C.Ln := by
 have hb := h.l
 have al := h.a
 have ht := h.t
 have nilH : C.P.typ ≠ 1 → C.nb.length ≤ 1000000 := fun g => by
  have := of_decide_eq_false (al.h g)
  have hn : ¬ 0 < C.nb.length := fun g => this (by omega)
  omega
 have nilD : C.P.typ ≠ 2 → C.dh.length ≤ 1000000 := fun g => by
  have := of_decide_eq_false (al.d g)
  have hn : ¬ 0 < C.dh.length := fun g => this (by omega)
  omega
 have nilK : C.P.typ ≠ 3 → C.ks.length ≤ 1000000 := fun g => by rw [al.k g]; simp
 have nilS : C.P.typ ≠ 4 → C.Lt := fun g => ⟨by rw [al.s g]; simp, fun s hs => by rw [al.s g] at hs; cases hs⟩
 have nilA : C.P.typ ≠ 5 → C.hs.length ≤ 1000000 := fun g => by rw [al.a g]; simp
 unfold pbodyB at hb
 obtain h1 | h2 | h3 | h4 | h5 : C.P.typ = 1 ∨ C.P.typ = 2 ∨ C.P.typ = 3 ∨ C.P.typ = 4 ∨ C.P.typ = 5 := by omega
 ·rw [if_pos h1, List.length_append, length_wordsB] at hb
  exact ⟨nilS (by omega), by omega, nilD (by omega), nilK (by omega), nilA (by omega)⟩
 ·rw [if_neg (by omega), if_pos h2, List.length_append, length_headsB] at hb
  exact ⟨nilS (by omega), nilH (by omega), by omega, nilK (by omega), nilA (by omega)⟩
 ·rw [if_neg (by omega), if_neg (by omega), if_pos h3, length_keysB] at hb
  exact ⟨nilS (by omega), nilH (by omega), nilD (by omega), by omega, nilA (by omega)⟩
 ·rw [if_neg (by omega), if_neg (by omega), if_neg (by omega), if_pos h4, List.length_append] at hb
  have hs := sts_small C.ss
  exact ⟨⟨by omega, fun s hm => by have := hs.2 s hm; omega⟩, nilH (by omega), nilD (by omega), nilK (by omega), nilA (by omega)⟩
 ·rw [if_neg (by omega), if_neg (by omega), if_neg (by omega), if_neg (by omega), length_headsB] at hb
  exact ⟨nilS (by omega), nilH (by omega), nilD (by omega), nilK (by omega), by omega⟩
end Go.Proofs.YtbfplepmgbkajaaGreatDoor

namespace Go.Proofs.YtbfplepmgbkajaaGreatDoor
open Go.RowKit
set_option linter.unusedVariables false
set_option maxRecDepth 100000

theorem dec_small {rs : List Int} (hb : ∀ z ∈ rs, 0 ≤ z ∧ z < 256) (hl : rs.length ≤ 1000000) : (pdecC rs).Lt ∧ (pdecC rs).Ln ∧ (pdecA rs).Ok := by
 by_cases hE : pdecE rs = 0
 ·have PB := pback hb hE hl
  obtain ⟨lt, ln⟩ := enc_small (pencE_ok PB.e)
  exact ⟨lt, ln, PB.oa⟩
 ·have hc : pdecC rs = PkC.zero := by unfold pdecC; rw [if_neg hE]
  have ha : pdecA rs = AuV.zero := by unfold pdecA; rw [if_neg hE]
  rw [hc, ha]
  exact ⟨⟨by simp [PkC.zero], fun s hs => by simp [PkC.zero] at hs⟩, ⟨by simp [PkC.zero], by simp [PkC.zero], by simp [PkC.zero], by simp [PkC.zero]⟩, A0_ok⟩
/-- It is one of the Bag's lists. -/
def InB (vb : List Value) (V : Nat → List Value) (u : Value) : Prop := u ∈ vb ∨ ∃ j, 1 ≤ j ∧ u ∈ V j
/-- What AddPacket answers for a decoded packet. -/
structure BagQ (b base top : Nat) (vb : List Value) (V : Nat → List Value) (y : World) (e : Ending) (y' : World) : Prop where
 ret : e = .returned (.tuple #[])
 out : ∃ gb' vb' G' V', BagP y' b gb' vb' G' V' ∧ Touch (fun k => b ≤ k) y y' ∧ ∀ u, InB vb' V' u → InB vb V u ∨ ∀ k, u.ownBlock = some k → base ≤ k ∧ k < top
theorem addpk (b base : Nat) (gb : Value) (vb : List Value) (G : Nat → Value) (V : Nat → List Value) (C : PkC) (lt : C.Lt) (ln : C.Ln) {na : Option Addr} {nc : Nat} {da : Option Addr} {dc : Nat} {ka : Option Addr} {kc : Nat} {sa : Option Addr} {sc : Nat} {ha : Option Addr} {hc : Nat} (x y : World) (h : BagP y b gb vb G V) (po : POwnA base x C (.slice na C.nb.length nc) (.slice da C.dh.length dc) (.slice ka C.ks.length kc) (.slice sa C.ss.length sc) (.slice ha C.hs.length hc)) (hxb : x.heap.size ≤ b) (t : Touch (fun k => b ≤ k) x y) (low : ∀ u, InB vb V u → ∀ k, u.ownBlock = some k → k < base) :
  Calls Tryz.prog 24 #[.pointer (some ⟨b, 0, none⟩), .agg #[.int .u8 C.P.typ, .int .u32 C.P.router, .int .u32 C.P.area, .int .u32 C.P.mask, .int .u16 C.P.iv, .int .u8 C.P.opts, .int .u8 C.P.prio, .int .u32 C.P.dead, .int .u32 C.P.dr, .int .u32 C.P.bdr, .slice na C.nb.length nc, .int .u16 C.P.mtu, .int .u8 C.P.dopts, .int .u8 C.P.dflags, .int .u32 C.P.dseq, .slice da C.dh.length dc, .slice ka C.ks.length kc, .slice sa C.ss.length sc, .slice ha C.hs.length hc]] y (BagQ b base x.heap.size vb V y) := by
 obtain ⟨l, hl, hrow, hbod, hapt⟩ := po.s
 have hll : l.length = C.ss.length := by rw [← hl, List.length_map]
 obtain ⟨a', c', ev⟩ := own_form hrow
 injection ev with e1 e2 e3
 subst e1 e3
 have mv : ∀ {e k n : Nat} {v : Value} {xs : List Value}, x.ownsRow base e k v n xs → y.ownsRow 0 e k v n xs := fun ho => own_lower (own_touch ho t (fun k hk e => by have := (ho.lt k hk).2; omega)) (Nat.zero_le _)
 have nw : ∀ {e k n : Nat} {v : Value} {xs : List Value} (j : Nat), 1 ≤ j → x.ownsRow base e k v n xs → ∀ kk, v.ownBlock = some kk → kk < b ∧ ∀ u ∈ V j, u.ownBlock ≠ some kk := fun j hj ho kk hk => ⟨by have := (ho.lt kk hk).2; omega, fun u hu e => by have h1 := low u (Or.inr ⟨j, hj, hu⟩) kk e; have h2 := (ho.lt kk hk).1; omega⟩
 have hst : StN b vb V y sa sc l := by
  refine ⟨?_, fun z hz => mv (hbod z hz), hapt, by have := lt.n; omega, fun z hz => ?_, ?_, fun z hz kk hk => ⟨by have := ((hbod z hz).lt kk hk).2; omega, fun u hu e => by have h1 := low u (Or.inl hu) kk e; have h2 := ((hbod z hz).lt kk hk).1; omega⟩⟩
  ·rw [hll]
   have := mv hrow
   rw [hll] at this
   exact this
  ·have h1 : z.p ∈ C.ss := by rw [← hl]; exact List.mem_map_of_mem hz
   have h2 := lt.b _ h1
   exact Nat.le_trans h2 (by omega)
  ·rw [hll]
   exact nw 14 (by omega) hrow
 have hn : PkN b vb V y C (.slice na C.nb.length nc) (.slice da C.dh.length dc) (.slice ka C.ks.length kc) (.slice ha C.hs.length hc) sa sc l :=
  ⟨mv po.n, mv po.d, mv po.k, mv po.h, hst, by have := ln.n; omega, by have := ln.d; omega, by have := ln.k; omega, by have := ln.h; omega, nw 5 (by omega) po.n, nw 7 (by omega) po.d, nw 8 (by omega) po.k, nw 7 (by omega) po.h, po.x⟩
 have H := bagAddPacket_any b gb vb G V C na nc da dc ka kc sa sc ha hc l y h hn
 rw [hll] at H
 refine Calls.mono H ?_
 rintro e y' ⟨he, gb', vb', G', V', hP, hS, hB, hV⟩
 have hbs := lt_of_cell h.B.cell
 refine ⟨he, gb', vb', G', V', hP, hS.touch.mono (fun i _ f => ?_), fun u hu => ?_⟩
 ·rcases f with f | (f | ⟨c, K, hK, f⟩) | f
  ·omega
  ·have := h.hb i f; omega
  ·have := h.hk c K hK i f; omega
  ·omega
 ·have key : (InB vb V u) ∨ ∃ j, PkS 4 (.slice na C.nb.length nc) (.slice da C.dh.length dc) (.slice ka C.ks.length kc) (.slice sa C.ss.length sc) (.slice ha C.hs.length hc) l j u := by
   rcases hu with hu | ⟨j, hj, hu⟩
   ·exact (hB u hu).imp Or.inl (fun h => ⟨0, h⟩)
   ·exact (hV j u hj hu).imp (fun h => Or.inr ⟨j, hj, h⟩) (fun h => ⟨j, h⟩)
  rcases key with h1 | ⟨j, h1⟩
  ·exact Or.inl h1
  ·refine Or.inr (fun k hk => ?_)
   rcases h1 with ⟨-, rfl⟩ | ⟨-, -, rfl⟩ | ⟨-, -, rfl⟩ | ⟨-, -, rfl⟩ | ⟨-, -, z, hz, rfl⟩ | ⟨-, -, rfl⟩
   ·exact po.n.lt k hk
   ·exact po.d.lt k hk
   ·exact po.k.lt k hk
   ·exact hrow.lt k hk
   ·exact (hbod z hz).lt k hk
   ·exact po.h.lt k hk
end Go.Proofs.YtbfplepmgbkajaaGreatDoor

namespace Go.Proofs.YtbfplepmgbkajaaGreatDoor
open Go.RowKit
set_option linter.unusedVariables false
set_option maxRecDepth 100000

theorem take_next' {l : List Int} {j : Nat} (h : j < l.length) : l.take (j + 1) = l.take j ++ [l.getD j 0] := by
 rw [List.take_add_one, List.getElem?_eq_getElem h]
 simp [List.getD, h]
theorem pow256 {k : Nat} (h : k ≤ 3) : (256 : Int) ^ k ≤ 16777216 := by
 rcases (by omega : k = 0 ∨ k = 1 ∨ k = 2 ∨ k = 3) with rfl | rfl | rfl | rfl <;> decide
theorem rnumber_any (v : Value) (rs : List Int) (w : World) (hv : ArgAt w v rs) (hby : ∀ x ∈ rs, 0 ≤ x ∧ x < 256) (hl : rs.length ≤ 4) :
  Calls Tryz.prog 177 #[v] w fun e w' => e = .returned (.int .u32 (numOf rs)) ∧ w = w' := by
 obtain ⟨va, vc, rfl, hm⟩ := hv.form
 have HV : Hid (ArgAt w (.slice va rs.length vc) rs) := hv
 clear hv
 go_enter Tryz.func177, Tryz.ntmps177
 go_wp2
 go_loopw [3, 4] (fun s i wr => ∃ (j : Nat) (n : Int), j ≤ rs.length ∧ i = .int .i64 (j : Int) ∧ s = .int .u32 n ∧ Hid (n = numOf (rs.take j)) ∧ wr = w) (fun _ i _ => rs.length - (intOf i).toNat)
 case atStart => exact ⟨0, 0, Nat.zero_le _, rfl, rfl, rfl, rfl⟩
 case round =>
  obtain ⟨j, n, hj, rfl, rfl, HN, rfl⟩ := hrel
  have hnb := numOf_bound (rs.take j) (fun z hz => hby z (List.mem_of_mem_take hz))
  rw [← HN.out] at hnb
  rcases Nat.lt_or_ge j rs.length with hlt | hge
  ·have hlt' : (j : Int) < (rs.length : Int) := by omega
   obtain ⟨g, off, c, e, h1, h2, h3⟩ := HV.out.vals.cells (by omega) (by decide)
   obtain ⟨rfl, _, rfl⟩ : va = some ⟨g, off, none⟩ ∧ True ∧ vc = c := by cases e; exact ⟨rfl, trivial, rfl⟩
   have hc : wr.cell? ⟨g, off + j, none⟩ = some (.int .u8 (rs.getD j 0)) := h3 j _ (by simp [bytesOf, List.getD, hlt])
   have hz := hby (rs.getD j 0) (by simp [List.getD, hlt])
   have hs : Hid (256 * n + rs.getD j 0 = numOf (rs.take (j + 1))) := by show _ = _; rw [take_next' hlt, numOf_snoc, HN.out]
   have hp := pow256 (k := (rs.take j).length) (by simp; omega)
   have hn1 : n < 16777216 := by omega
   obtain ⟨hn0, -⟩ := hnb
   generalize rs.getD j 0 = z at hc hz hs
   obtain ⟨hz0, hz1⟩ := hz
   clear h3 e HN hp
   go_wp2
   go_roundw
   case rel => exact ⟨j + 1, _, by omega, by go_num, rfl, hs, trivial⟩
   case measure => simp [intOf]; omega
  ·obtain rfl : j = rs.length := by omega
   have hlt' : ¬ (rs.length : Int) < (rs.length : Int) := by omega
   have HE : Hid (n = numOf rs) := by show _ = _; rw [HN.out, List.take_length]
   clear hnb HN
   go_wp2
   go_ret
   rw [← HE.out]
   exact ⟨rfl, rfl⟩

end Go.Proofs.YtbfplepmgbkajaaGreatDoor

namespace Go.Proofs.YtbfplepmgbkajaaGreatDoor
open Go.RowKit
set_option linter.unusedVariables false
set_option maxRecDepth 100000

theorem take_next {l : List Int} {j : Nat} (h : j < l.length) : l.take (j + 1) = l.take j ++ [l.getD j 0] := by
 rw [List.take_add_one, List.getElem?_eq_getElem h]
 simp [List.getD, h]
theorem getD_byte {l : List Int} (h : ∀ x ∈ l, 0 ≤ x ∧ x < 256) (j : Nat) (hj : j < l.length) : 0 ≤ l.getD j 0 ∧ l.getD j 0 < 256 := h _ (by simp [List.getD, hj])
end Go.Proofs.YtbfplepmgbkajaaGreatDoor

namespace Go.Proofs.YtbfplepmgbkajaaGreatDoor
open Go.RowKit
set_option linter.unusedVariables false
set_option maxRecDepth 100000

def FdR (rs : List Int) (s i : Value) : Prop := ∃ (j : Nat) (n : Int), j ≤ rs.length ∧ i = .int .i64 (j : Int) ∧ s = .int .u64 n ∧ 0 ≤ n ∧ n ≤ 65536 * (j : Int) ∧ Hid (n = W true (rs.take j))
def FdR2 (F : Int) (f : Value) : Prop := ∃ n : Int, f = .int .u64 n ∧ 0 ≤ n ∧ n ≤ 4294967296 ∧ Hid (fold n = F)

theorem rfolded_any (v : Value) (rs : List Int) (w : World) (hv : ArgAt w v rs) (hby : ∀ x ∈ rs, 0 ≤ x ∧ x < 256) (hl : rs.length ≤ 65536) :
  Calls Tryz.prog 104 #[v] w fun e w' => e = .returned (.int .u64 (fold (W true rs))) ∧ w = w' := by
 obtain ⟨F, hF⟩ : ∃ F, fold (W true rs) = F := ⟨_, rfl⟩
 have HF : Hid (fold (W true rs) = F) := hF
 rw [hF]
 clear hF
 have HBy : Hid (∀ x ∈ rs, 0 ≤ x ∧ x < 256) := hby
 obtain ⟨va, vc, rfl, hm⟩ := hv.form
 unfold maxLen at hm
 have HV : Hid (ArgAt w (.slice va rs.length vc) rs) := hv
 have hl' : (rs.length : Int) ≤ 65536 := by omega
 clear hv hby
 go_enter Tryz.func104, Tryz.ntmps104
 go_wp2
 go_loop [3, 4] (fun s i => FdR rs s i) (fun _ i => rs.length - (intOf i).toNat)
 case atStart => exact ⟨0, 0, Nat.zero_le _, rfl, rfl, by omega, by omega, rfl⟩
 case round =>
  obtain ⟨j, n, hj, rfl, rfl, hn0, hn1, HN⟩ := hrel
  by_cases hlt : j < rs.length
  ·have hr := HV.out.row (by omega)
   obtain ⟨ga, oa, rfl⟩ := rowAt_some hr (by omega)
   have hcx := rowAt_cell hr j hlt
   obtain ⟨hz0, hz1⟩ := getD_byte HBy.out j hlt
   have HE : Hid (j % 2 = 0 → n + 256 * rs.getD j 0 = W true (rs.take (j + 1))) := fun e => by rw [take_next hlt, W_even (by simp; omega), HN.out]
   have HO : Hid (¬ j % 2 = 0 → n + rs.getD j 0 = W true (rs.take (j + 1))) := fun e => by rw [take_next hlt, W_odd (by simp; omega), HN.out]
   revert hcx hz0 hz1 HE HO
   generalize rs.getD j 0 = z
   intro hcx hz0 hz1 HE HO
   have hlt' : (j : Int) < (rs.length : Int) := by omega
   clear hr
   by_cases hp : j % 2 = 0
   ·have hp' : (j : Int) % 2 = 0 := by omega
    have HN2 : Hid (FdR rs (.int .u64 (n + 256 * z)) (.int .i64 ((j : Int) + 1))) := ⟨j + 1, n + 256 * z, by omega, by rw [Int.natCast_add]; rfl, rfl, by omega, by omega, HE.out hp⟩
    clear hp HE HO
    go_wp2
    go_round
    case rel => exact HN2.out
    case measure => simp [intOf]; omega
   ·have hp' : ((j : Int) % 2 == 0) = false := by simp; omega
    have HN2 : Hid (FdR rs (.int .u64 (n + z)) (.int .i64 ((j : Int) + 1))) := ⟨j + 1, n + z, by omega, by rw [Int.natCast_add]; rfl, rfl, by omega, by omega, HO.out hp⟩
    clear hp HE HO
    go_wp2
    go_round
    case rel => exact HN2.out
    case measure => simp [intOf]; omega
  ·obtain rfl : j = rs.length := by omega
   have hq : ¬ (rs.length : Int) < (rs.length : Int) := by omega
   have HN3 : Hid (fold n = F) := by
    show _ = _
    rw [HN.out, List.take_length, HF.out]
   go_wp2
   go_loop [3] (fun f => FdR2 F f) (fun f => (intOf f).toNat)
   case atStart => exact ⟨n, rfl, hn0, by omega, HN3⟩
   case round =>
    obtain ⟨n, rfl, hn0, hn1, HN⟩ := hrel
    by_cases hlt : 65535 < n
    ·have HS : Hid (FdR2 F (.int .u64 (n / 65536 + n % 65536))) := ⟨_, rfl, by omega, by omega, by show _ = _; rw [← HN.out]; exact fold_step hlt⟩
     go_wp2
     go_round
     case rel => exact HS.out
     case measure => simp [intOf]; omega
    ·have HS : Hid (n = F) := by show _ = _; rw [← HN.out]; exact (fold_small hn0 (by omega)).symm
     go_wp2
     go_ret
     rw [HS.out]
     exact ⟨rfl, rfl⟩

theorem rright_any (v : Value) (rs : List Int) (w : World) (hv : ArgAt w v rs) (hby : ∀ x ∈ rs, 0 ≤ x ∧ x < 256) (hl : rs.length ≤ 65536) :
  Calls Tryz.prog 79 #[v] w fun e w' => e = .returned (.bool (fold (W true rs) == 65535)) ∧ w = w' := by
 have HC := rfolded_any v rs w hv hby hl
 revert HC
 generalize fold (W true rs) = F
 intro HC
 clear hv
 go_enter Tryz.func79, Tryz.ntmps79
 go_wp2_with fail
 refine HC.mono ?_
 rintro e w1 ⟨rfl, rfl⟩
 go_wp2
 go_ret
 exact ⟨rfl, rfl⟩
end Go.Proofs.YtbfplepmgbkajaaGreatDoor
