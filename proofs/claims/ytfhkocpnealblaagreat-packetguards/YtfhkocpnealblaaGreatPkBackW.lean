/- The seventh law's lives: an Ack of nothing. -/
import Derived.Test.YtfhkocpnealblaaGreatPkDec
import Derived.Test.YtfhkocpnealblaaGreatPkBk
import Derived.Test.YtfhkocpnealblaaGreatPkCp
import Derived.Test.YtfhkocpnealblaaGreatPkEq
import Derived.Deep.QuietTactic
import Derived.BigQuiet
namespace Go.Proofs.YtfhkocpnealblaaGreat
open Go.RowKit
set_option linter.unusedVariables false
set_option maxRecDepth 100000

def C5 : PkC := ⟨PV.base 5 1 0, [], [], [], [], []⟩
def C6 : PkC := ⟨PV.base 6 0 0, [], [], [], [], []⟩
theorem base_okC (P : PV) (hP : P.Ok) : (⟨P, [], [], [], [], []⟩ : PkC).Ok := ⟨hP, (fun x h => by cases h), (fun x h => by cases h), (fun x h => by cases h), (fun x h => by cases h), (fun x h => by cases h), (fun x h => by cases h)⟩
theorem C5_ok : C5.Ok := base_okC _ (PV.base_ok (by omega) (by omega) (by omega))
theorem C6_ok : C6.Ok := base_okC _ (PV.base_ok (by omega) (by omega) (by omega))
theorem A0_ok : AuV.zero.Ok := by constructor <;> simp [AuV.zero]
theorem C5_lt : C5.Lt := ⟨by simp [C5], fun s h => by cases h⟩
theorem C6_lt : C6.Lt := ⟨by simp [C6], fun s h => by cases h⟩
theorem nil_at (w : World) (P : PV) : PkAt w ⟨P, [], [], [], [], []⟩ (.slice none 0 0) (.slice none 0 0) (.slice none 0 0) (.slice none 0 0) (.slice none 0 0) := ⟨⟨rfl, Or.inl ⟨rfl, rfl⟩⟩, ⟨rfl, Or.inl ⟨rfl, rfl⟩⟩, ⟨rfl, Or.inl ⟨rfl, rfl⟩⟩, ⟨[], rfl, ⟨⟨rfl, Or.inl ⟨rfl, rfl⟩⟩, fun x h => by cases h⟩⟩, ⟨rfl, Or.inl ⟨rfl, rfl⟩⟩⟩
theorem C5_enc : PEnc C5 AuV.zero := ⟨by simp [C5, PV.base], ⟨fun _ => by decide, fun _ => by decide, fun _ => rfl, fun _ => rfl, fun _ => rfl⟩, rfl, by simp [AuV.zero], by decide⟩
theorem C5_bytes : pencB C5 AuV.zero = [2, 5, 0, 24, 0, 0, 0, 1, 0, 0, 0, 0, 253, 225, 0, 0, 0, 0, 0, 0, 0, 0, 0, 0] := by
  unfold pencB
  rw [if_pos C5_enc.zero, sealed_form]
  decide
theorem C6_e : pencE C6 AuV.zero = 21 := pencE_21 (by simp [C6, PV.base])
theorem L5_round : PRound C5 AuV.zero [2, 5, 0, 24, 0, 0, 0, 1, 0, 0, 0, 0, 253, 225, 0, 0, 0, 0, 0, 0, 0, 0, 0, 0] := by have := pround C5_ok A0_ok C5_enc.zero; rwa [C5_bytes] at this

set_option maxHeartbeats 4000000 in
theorem plives (w : World) : Calls Tryz.prog 7 #[] w fun e w' => e = .returned (.bool true) ∧ Touch (fun _ => False) w w' := by
  have HE1 : ∀ w, Calls Tryz.prog 8 #[.agg #[.int .u8 5, .int .u32 1, .int .u32 0, .int .u32 0, .int .u16 0, .int .u8 0, .int .u8 0, .int .u32 0, .int .u32 0, .int .u32 0, .slice none 0 0, .int .u16 0, .int .u8 0, .int .u8 0, .int .u32 0, .slice none 0 0, .slice none 0 0, .slice none 0 0, .slice none 0 0], .agg #[.int .u16 0, .int .u8 0, .int .u8 0, .int .u8 0, .int .u8 0, .int .u8 0, .int .u8 0, .int .u8 0, .int .u8 0]] w fun e w' => ∃ v, e = .returned (.tuple #[v, .int .i64 0]) ∧ Buf w w' v [2, 5, 0, 24, 0, 0, 0, 1, 0, 0, 0, 0, 253, 225, 0, 0, 0, 0, 0, 0, 0, 0, 0, 0] := fun w => by
    have := penc_any C5 C5_ok C5_lt AuV.zero A0_ok _ _ _ _ _ w (nil_at w _)
    rw [C5_enc.zero, C5_bytes] at this
    exact this
  have HE2 : ∀ w, Calls Tryz.prog 8 #[.agg #[.int .u8 6, .int .u32 0, .int .u32 0, .int .u32 0, .int .u16 0, .int .u8 0, .int .u8 0, .int .u32 0, .int .u32 0, .int .u32 0, .slice none 0 0, .int .u16 0, .int .u8 0, .int .u8 0, .int .u32 0, .slice none 0 0, .slice none 0 0, .slice none 0 0, .slice none 0 0], .agg #[.int .u16 0, .int .u8 0, .int .u8 0, .int .u8 0, .int .u8 0, .int .u8 0, .int .u8 0, .int .u8 0, .int .u8 0]] w fun e w' => ∃ v, e = .returned (.tuple #[v, .int .i64 21]) ∧ Touch (fun _ => False) w w' := fun w => by
    have := penc_any C6 C6_ok C6_lt AuV.zero A0_ok _ _ _ _ _ w (nil_at w _)
    rw [C6_e] at this
    exact this.mono (fun e w' ⟨v, h1, h2⟩ => ⟨v, h1, h2.t⟩)
  have HDc : ∀ v w, ArgAt w v [2, 5, 0, 24, 0, 0, 0, 1, 0, 0, 0, 0, 253, 225, 0, 0, 0, 0, 0, 0, 0, 0, 0, 0] → Calls Tryz.prog 11 #[v] w fun e w' => ∃ na nc da dc ka kc sa sc ha hc, e = .returned (.tuple #[.agg #[.int .u8 5, .int .u32 1, .int .u32 0, .int .u32 0, .int .u16 0, .int .u8 0, .int .u8 0, .int .u32 0, .int .u32 0, .int .u32 0, .slice na 0 nc, .int .u16 0, .int .u8 0, .int .u8 0, .int .u32 0, .slice da 0 dc, .slice ka 0 kc, .slice sa 0 sc, .slice ha 0 hc], .agg #[.int .u16 0, .int .u8 0, .int .u8 0, .int .u8 0, .int .u8 0, .int .u8 0, .int .u8 0, .int .u8 0, .int .u8 0], .int .i64 0]) ∧ Touch (fun _ => False) w w' := fun v w hv => by
    have := pdec_any v [2, 5, 0, 24, 0, 0, 0, 1, 0, 0, 0, 0, 253, 225, 0, 0, 0, 0, 0, 0, 0, 0, 0, 0] w hv L5_round.bt (by simp)
    rw [L5_round.c, L5_round.a, L5_round.e] at this
    refine this.mono ?_
    rintro e w' ⟨vn, vd, vk, vs, vh, rfl, po, t⟩
    obtain ⟨na, nc, rfl⟩ := own_form po.n
    obtain ⟨da, dc, rfl⟩ := own_form po.d
    obtain ⟨ka, kc, rfl⟩ := own_form po.k
    obtain ⟨sa, sc, rfl⟩ : ∃ a c, vs = .slice a 0 c := by
      obtain ⟨l, hl, hs, _⟩ := po.s
      obtain ⟨a, c, e⟩ := own_form hs
      have : l.length = 0 := by rw [← List.length_map (f := SE.p), hl]; rfl
      exact ⟨a, c, by rw [e, this]⟩
    obtain ⟨ha, hc, rfl⟩ := own_form po.h
    exact ⟨na, nc, da, dc, ka, kc, sa, sc, ha, hc, rfl, t⟩
  have HRi : ∀ v w, ArgAt w v [2, 5, 0, 24, 0, 0, 0, 1, 0, 0, 0, 0, 253, 225, 0, 0, 0, 0, 0, 0, 0, 0, 0, 0] → Calls Tryz.prog 16 #[v] w fun e w' => e = .returned (.bool true) ∧ Touch (fun _ => False) w w' := fun v w hv => by
    have := pright_any v [2, 5, 0, 24, 0, 0, 0, 1, 0, 0, 0, 0, 253, 225, 0, 0, 0, 0, 0, 0, 0, 0, 0, 0] w hv L5_round.bt (by simp)
    rw [L5_round.right (by simp [AuV.zero])] at this
    exact this
  have heq : ∀ w, Sem.run Tryz.prog (Op.equalIn 9999 34 (.agg #[.int .u8 0, .int .u8 0, .int .u8 0, .int .u8 0, .int .u8 0, .int .u8 0, .int .u8 0, .int .u8 0]) (.agg #[.int .u8 0, .int .u8 0, .int .u8 0, .int .u8 0, .int .u8 0, .int .u8 0, .int .u8 0, .int .u8 0])) w = .ok true w := fun w => eq8 [0, 0, 0, 0, 0, 0, 0, 0] (by simp) rfl 9997 w
  go_enter Tryz.func7, Tryz.ntmps7
  go_wp2_with fail
  refine Calls.mono (HE1 w) ?_
  rintro e w1 ⟨v1, rfl, b1⟩
  obtain ⟨va, vc, rfl⟩ := b1.form
  have B1 : Hid (Buf w w1 (.slice va 24 vc) [2, 5, 0, 24, 0, 0, 0, 1, 0, 0, 0, 0, 253, 225, 0, 0, 0, 0, 0, 0, 0, 0, 0, 0]) := b1
  have H1 := HDc _ w1 b1.arg
  clear b1 HE1 HDc
  go_wp2_with fail
  refine Calls.mono H1 ?_
  rintro e w2 ⟨na, nc, da, dc, ka, kc, sa, sc, ha, hc, rfl, t2⟩
  clear H1
  obtain ⟨w3, hw3⟩ : ∃ w3, w3 = (((w2.alloc (.cells #[.int .u8 0, .int .u32 0, .int .u32 0, .int .u32 0, .int .u16 0, .int .u8 0, .int .u8 0, .int .u32 0, .int .u32 0, .int .u32 0, .slice none 0 0, .int .u16 0, .int .u8 0, .int .u8 0, .int .u32 0, .slice none 0 0, .slice none 0 0, .slice none 0 0, .slice none 0 0] 33)).alloc (.cells #[.int .u16 0, .int .u8 0, .int .u8 0, .int .u8 0, .int .u8 0, .int .u8 0, .int .u8 0, .int .u8 0, .int .u8 0] 44)).setRow w2.heap.size #[.int .u8 5, .int .u32 1, .int .u32 0, .int .u32 0, .int .u16 0, .int .u8 0, .int .u8 0, .int .u32 0, .int .u32 0, .int .u32 0, .slice na 0 nc, .int .u16 0, .int .u8 0, .int .u8 0, .int .u32 0, .slice da 0 dc, .slice ka 0 kc, .slice sa 0 sc, .slice ha 0 hc]).setRow (w2.heap.size + 1) #[.int .u16 0, .int .u8 0, .int .u8 0, .int .u8 0, .int .u8 0, .int .u8 0, .int .u8 0, .int .u8 0, .int .u8 0] := ⟨_, rfl⟩
  have ra : Row ((w2.alloc (.cells #[.int .u8 0, .int .u32 0, .int .u32 0, .int .u32 0, .int .u16 0, .int .u8 0, .int .u8 0, .int .u32 0, .int .u32 0, .int .u32 0, .slice none 0 0, .int .u16 0, .int .u8 0, .int .u8 0, .int .u32 0, .slice none 0 0, .slice none 0 0, .slice none 0 0, .slice none 0 0] 33)).alloc (.cells #[.int .u16 0, .int .u8 0, .int .u8 0, .int .u8 0, .int .u8 0, .int .u8 0, .int .u8 0, .int .u8 0, .int .u8 0] 44)) w2.heap.size 33 [.int .u8 0, .int .u32 0, .int .u32 0, .int .u32 0, .int .u16 0, .int .u8 0, .int .u8 0, .int .u32 0, .int .u32 0, .int .u32 0, .slice none 0 0, .int .u16 0, .int .u8 0, .int .u8 0, .int .u32 0, .slice none 0 0, .slice none 0 0, .slice none 0 0, .slice none 0 0] := (row_new w2 33 #[.int .u8 0, .int .u32 0, .int .u32 0, .int .u32 0, .int .u16 0, .int .u8 0, .int .u8 0, .int .u32 0, .int .u32 0, .int .u32 0, .slice none 0 0, .int .u16 0, .int .u8 0, .int .u8 0, .int .u32 0, .slice none 0 0, .slice none 0 0, .slice none 0 0, .slice none 0 0]).keep ((Touch.refl _ _).alloc _)
  have rb : Row ((w2.alloc (.cells #[.int .u8 0, .int .u32 0, .int .u32 0, .int .u32 0, .int .u16 0, .int .u8 0, .int .u8 0, .int .u32 0, .int .u32 0, .int .u32 0, .slice none 0 0, .int .u16 0, .int .u8 0, .int .u8 0, .int .u32 0, .slice none 0 0, .slice none 0 0, .slice none 0 0, .slice none 0 0] 33)).alloc (.cells #[.int .u16 0, .int .u8 0, .int .u8 0, .int .u8 0, .int .u8 0, .int .u8 0, .int .u8 0, .int .u8 0, .int .u8 0] 44)) (w2.heap.size + 1) 44 [.int .u16 0, .int .u8 0, .int .u8 0, .int .u8 0, .int .u8 0, .int .u8 0, .int .u8 0, .int .u8 0, .int .u8 0] := by
    have := row_new (w2.alloc (.cells #[.int .u8 0, .int .u32 0, .int .u32 0, .int .u32 0, .int .u16 0, .int .u8 0, .int .u8 0, .int .u32 0, .int .u32 0, .int .u32 0, .slice none 0 0, .int .u16 0, .int .u8 0, .int .u8 0, .int .u32 0, .slice none 0 0, .slice none 0 0, .slice none 0 0, .slice none 0 0] 33)) 44 #[.int .u16 0, .int .u8 0, .int .u8 0, .int .u8 0, .int .u8 0, .int .u8 0, .int .u8 0, .int .u8 0, .int .u8 0]
    simpa using this
  have rb2 : Row (((w2.alloc (.cells #[.int .u8 0, .int .u32 0, .int .u32 0, .int .u32 0, .int .u16 0, .int .u8 0, .int .u8 0, .int .u32 0, .int .u32 0, .int .u32 0, .slice none 0 0, .int .u16 0, .int .u8 0, .int .u8 0, .int .u32 0, .slice none 0 0, .slice none 0 0, .slice none 0 0, .slice none 0 0] 33)).alloc (.cells #[.int .u16 0, .int .u8 0, .int .u8 0, .int .u8 0, .int .u8 0, .int .u8 0, .int .u8 0, .int .u8 0, .int .u8 0] 44)).setRow w2.heap.size #[.int .u8 5, .int .u32 1, .int .u32 0, .int .u32 0, .int .u16 0, .int .u8 0, .int .u8 0, .int .u32 0, .int .u32 0, .int .u32 0, .slice na 0 nc, .int .u16 0, .int .u8 0, .int .u8 0, .int .u32 0, .slice da 0 dc, .slice ka 0 kc, .slice sa 0 sc, .slice ha 0 hc]) (w2.heap.size + 1) 44 [.int .u16 0, .int .u8 0, .int .u8 0, .int .u8 0, .int .u8 0, .int .u8 0, .int .u8 0, .int .u8 0, .int .u8 0] := rb.otherRow (by omega) _
  have t3 : Touch (fun _ => False) w2 w3 := by rw [hw3]; exact ((((Touch.refl _ _).alloc _).alloc _).setRow (Or.inr (by omega)) _).setRow (Or.inr (by omega)) _
  have G6 : Row w3 w2.heap.size 33 [.int .u8 5, .int .u32 1, .int .u32 0, .int .u32 0, .int .u16 0, .int .u8 0, .int .u8 0, .int .u32 0, .int .u32 0, .int .u32 0, .slice na 0 nc, .int .u16 0, .int .u8 0, .int .u8 0, .int .u32 0, .slice da 0 dc, .slice ka 0 kc, .slice sa 0 sc, .slice ha 0 hc] := by rw [hw3]; exact (ra.setRow _).otherRow (by omega) _
  have G7 : Row w3 (w2.heap.size + 1) 44 [.int .u16 0, .int .u8 0, .int .u8 0, .int .u8 0, .int .u8 0, .int .u8 0, .int .u8 0, .int .u8 0, .int .u8 0] := by rw [hw3]; exact rb2.setRow _
  have B3 : Hid (Buf w w3 (.slice va 24 vc) [2, 5, 0, 24, 0, 0, 0, 1, 0, 0, 0, 0, 253, 225, 0, 0, 0, 0, 0, 0, 0, 0, 0, 0]) := (B1.out.keep t2).keep t3
  clear t2 t3 B1
  go_upto_region 3 with (first | refine wpList_store_row rfl 33 (.tmp 3) (.tmp 17) rfl w2.heap.size #[.int .u8 5, .int .u32 1, .int .u32 0, .int .u32 0, .int .u16 0, .int .u8 0, .int .u8 0, .int .u32 0, .int .u32 0, .int .u32 0, .slice na 0 nc, .int .u16 0, .int .u8 0, .int .u8 0, .int .u32 0, .slice da 0 dc, .slice ka 0 kc, .slice sa 0 sc, .slice ha 0 hc] rfl rfl 33 _ ra (by kernel_rfl) rfl (by simp [Value.oneCell']) ?_ | refine wpList_store_row rfl 44 (.tmp 4) (.tmp 18) rfl (w2.heap.size + 1) #[.int .u16 0, .int .u8 0, .int .u8 0, .int .u8 0, .int .u8 0, .int .u8 0, .int .u8 0, .int .u8 0, .int .u8 0] rfl rfl 44 _ rb2 (by kernel_rfl) rfl (by simp [Value.oneCell']) ?_)
  rw [← hw3]
  clear hw3 ra rb rb2
  generalize w2.heap.size + 1 = g7 at *
  generalize w2.heap.size = g6 at *
  go_wp2_with fail
  refine Calls.mono (HE2 w3) ?_
  rintro e w4 ⟨v4, rfl, t4⟩
  have B4 := B3.out.keep t4
  have G64 := G6.keep t4
  have G74 := G7.keep t4
  have d1 : w4.cell? ⟨g6, 1, none⟩ = some (.int .u32 1) := G64.cell 1
  have y0 : w4.cell? ⟨g7, 0, none⟩ = some (.int .u16 0) := G74.cell 0
  have y1 : w4.cell? ⟨g7, 1, none⟩ = some (.int .u8 0) := G74.cell 1
  have y2 : w4.cell? ⟨g7, 2, none⟩ = some (.int .u8 0) := G74.cell 2
  have y3 : w4.cell? ⟨g7, 3, none⟩ = some (.int .u8 0) := G74.cell 3
  have y4 : w4.cell? ⟨g7, 4, none⟩ = some (.int .u8 0) := G74.cell 4
  have y5 : w4.cell? ⟨g7, 5, none⟩ = some (.int .u8 0) := G74.cell 5
  have y6 : w4.cell? ⟨g7, 6, none⟩ = some (.int .u8 0) := G74.cell 6
  have y7 : w4.cell? ⟨g7, 7, none⟩ = some (.int .u8 0) := G74.cell 7
  have y8 : w4.cell? ⟨g7, 8, none⟩ = some (.int .u8 0) := G74.cell 8
  have H4 := HRi _ w4 B4.arg
  have T4 : Hid (Touch (fun _ => False) w w4) := B4.t
  obtain ⟨gv, ov, ev⟩ := rowAt_some B4.row (by omega)
  subst ev
  have k12 : w4.cell? ⟨gv, ov + 12, none⟩ = some (.int .u8 253) := rowAt_cell B4.row 12 (by simp)
  have k13 : w4.cell? ⟨gv, ov + 13, none⟩ = some (.int .u8 225) := rowAt_cell B4.row 13 (by simp)
  clear HE2 HRi B3 B4 G6 G7 G64 G74 t4
  go_wp2_with (go_at_call 16; refine Calls.mono H4 ?_; rintro e w5 ⟨rfl, t5⟩)
  go_ret
  exact ⟨rfl, T4.out.trans t5⟩
end Go.Proofs.YtfhkocpnealblaaGreat

namespace Go.Proofs.YtfhkocpnealblaaGreat
open Go.RowKit
set_option linter.unusedVariables false
set_option maxRecDepth 100000

attribute [local go_sem ↓] Go.wp_at_zero Go.wp_at_succ
theorem enc_small {C : PkC} {A : AuV} (h : PEnc C A) : C.Lt ∧ C.Ln := by
  have hb := h.l
  have al := h.a
  have ht := h.t
  have nilH : C.P.typ ≠ 1 → C.nb.length ≤ 1000000 := fun g => by
    have := of_decide_eq_false (al.h g)
    have hn : ¬ 0 < C.nb.length := fun g => this (by omega)
    omega
  have nilD : C.P.typ ≠ 2 → C.dh.length ≤ 1000000 := fun g => by
    have := of_decide_eq_false (al.d g)
    have hn : ¬ 0 < C.dh.length := fun g => this (by omega)
    omega
  have nilK : C.P.typ ≠ 3 → C.ks.length ≤ 1000000 := fun g => by rw [al.k g]; simp
  have nilS : C.P.typ ≠ 4 → C.Lt := fun g => ⟨by rw [al.s g]; simp, fun s hs => by rw [al.s g] at hs; cases hs⟩
  have nilA : C.P.typ ≠ 5 → C.hs.length ≤ 1000000 := fun g => by rw [al.a g]; simp
  unfold pbodyB at hb
  obtain h1 | h2 | h3 | h4 | h5 : C.P.typ = 1 ∨ C.P.typ = 2 ∨ C.P.typ = 3 ∨ C.P.typ = 4 ∨ C.P.typ = 5 := by omega
  · rw [if_pos h1, List.length_append, length_wordsB] at hb
    exact ⟨nilS (by omega), by omega, nilD (by omega), nilK (by omega), nilA (by omega)⟩
  · rw [if_neg (by omega), if_pos h2, List.length_append, length_headsB] at hb
    exact ⟨nilS (by omega), nilH (by omega), by omega, nilK (by omega), nilA (by omega)⟩
  · rw [if_neg (by omega), if_neg (by omega), if_pos h3, length_keysB] at hb
    exact ⟨nilS (by omega), nilH (by omega), nilD (by omega), by omega, nilA (by omega)⟩
  · rw [if_neg (by omega), if_neg (by omega), if_neg (by omega), if_pos h4, List.length_append] at hb
    have hs := sts_small C.ss
    exact ⟨⟨by omega, fun s hm => by have := hs.2 s hm; omega⟩, nilH (by omega), nilD (by omega), nilK (by omega), nilA (by omega)⟩
  · rw [if_neg (by omega), if_neg (by omega), if_neg (by omega), if_neg (by omega), length_headsB] at hb
    exact ⟨nilS (by omega), nilH (by omega), nilD (by omega), nilK (by omega), by omega⟩
set_option maxHeartbeats 1000000 in
theorem ones_true (va : Option Addr) (vc : Nat) (rs : List Int) (i : Nat) (w : World) (hv : RowAt w (.slice va rs.length vc) rs) (hl : 24 ≤ rs.length) (hi : i = 12 ∨ i = 13) (h12 : rs.getD 12 0 = 255) (h13 : rs.getD 13 0 = 255) :
    Calls Tryz.prog 18 #[.slice va rs.length vc, .int .i64 (i : Int)] w fun e w' => e = .returned (.bool true) ∧ w' = w := by
  obtain ⟨gv, ov, ev⟩ := rowAt_some hv (by omega)
  subst ev
  have k12 : w.cell? ⟨gv, ov + 12, none⟩ = some (.int .u8 255) := by have := rowAt_cell hv 12 (by omega); rwa [h12] at this
  have k13 : w.cell? ⟨gv, ov + 13, none⟩ = some (.int .u8 255) := by have := rowAt_cell hv 13 (by omega); rwa [h13] at this
  have hl1 : (12 : Int) < (rs.length : Int) := by omega
  have hl2 : (13 : Int) < (rs.length : Int) := by omega
  have hl3 : 12 < rs.length := by omega
  have hl4 : 13 < rs.length := by omega
  clear hv h12 h13 hl
  rcases hi with rfl | rfl
  · go_enter Tryz.func18, Tryz.ntmps18
    go_wp2
    go_ret
    exact ⟨rfl, rfl⟩
  · go_enter Tryz.func18, Tryz.ntmps18
    go_wp2
    go_ret
    exact ⟨rfl, rfl⟩

set_option maxHeartbeats 1000000 in
theorem pback_long (va : Option Addr) (vc : Nat) (rs : List Int) (w : World) (hl : 65536 < rs.length) :
    Calls Tryz.prog 4 #[.slice va rs.length vc] w fun e w' => e = .returned (.bool true) ∧ Touch (fun _ => False) w w' := by
  have hl' : (65536 : Int) < (rs.length : Int) := by omega
  have H := plives w
  generalize rs.length = n at *
  go_enter Tryz.func4, Tryz.ntmps4
  go_wp2_with (go_at_call 7; refine Calls.mono H ?_; rintro e w1 ⟨rfl, t1⟩)
  go_ret
  exact ⟨rfl, t1⟩

set_option maxHeartbeats 4000000 in
theorem pback_bad (va : Option Addr) (vc : Nat) (rs : List Int) (w : World) (hv : ArgAt w (.slice va rs.length vc) rs) (hby : ∀ z ∈ rs, 0 ≤ z ∧ z < 256) (hl : rs.length ≤ 65536) (hE : pdecE rs ≠ 0) :
    Calls Tryz.prog 4 #[.slice va rs.length vc] w fun e w' => e = .returned (.bool true) ∧ Touch (fun _ => False) w w' := by
  have hl' : ¬ (65536 : Int) < (rs.length : Int) := by omega
  have HCB := cbytes_any (.slice va rs.length vc) rs w hv (by omega)
  have HD : Hid (∀ v w', ArgAt w' v rs → Calls Tryz.prog 11 #[v] w' fun e w'' => ∃ na nc da dc ka kc sa sc ha hc, e = .returned (.tuple #[.agg #[.int .u8 0, .int .u32 0, .int .u32 0, .int .u32 0, .int .u16 0, .int .u8 0, .int .u8 0, .int .u32 0, .int .u32 0, .int .u32 0, .slice na 0 nc, .int .u16 0, .int .u8 0, .int .u8 0, .int .u32 0, .slice da 0 dc, .slice ka 0 kc, .slice sa 0 sc, .slice ha 0 hc], .agg #[.int .u16 0, .int .u8 0, .int .u8 0, .int .u8 0, .int .u8 0, .int .u8 0, .int .u8 0, .int .u8 0, .int .u8 0], .int .i64 (pdecE rs)]) ∧ PkRw w'' PkC.zero (.slice na 0 nc) (.slice da 0 dc) (.slice ka 0 kc) (.slice sa 0 sc) (.slice ha 0 hc) ∧ Touch (fun _ => False) w' w'') := fun v w' h => by
    have hc : pdecC rs = PkC.zero := by unfold pdecC; rw [if_neg hE]
    have ha : pdecA rs = AuV.zero := by unfold pdecA; rw [if_neg hE]
    have := pdec_any v rs w' h hby (by omega)
    rw [hc, ha] at this
    refine this.mono ?_
    rintro e w'' ⟨vn, vd, vk, vs, vh, rfl, po, t⟩
    obtain ⟨na, nc, da, dc, ka, kc, sa, sc, ha, hc, rfl, rfl, rfl, rfl, rfl⟩ := po.rw.forms
    exact ⟨na, nc, da, dc, ka, kc, sa, sc, ha, hc, rfl, po.rw, t⟩
  have hEb : (pdecE rs != 0) = true := by simpa using hE
  have heq : ∀ w, Sem.run Tryz.prog (Op.equalIn 9999 34 (.agg #[.int .u8 0, .int .u8 0, .int .u8 0, .int .u8 0, .int .u8 0, .int .u8 0, .int .u8 0, .int .u8 0]) (.agg #[.int .u8 0, .int .u8 0, .int .u8 0, .int .u8 0, .int .u8 0, .int .u8 0, .int .u8 0, .int .u8 0])) w = .ok true w := fun w => eq8 [0, 0, 0, 0, 0, 0, 0, 0] (by simp) rfl 9997 w
  generalize pdecE rs = E at *
  have hE0 : ¬ E = 0 := hE
  have hEb2 : (E == 0) = false := by simpa using hE
  clear hv hby
  go_enter Tryz.func4, Tryz.ntmps4
  go_wp2_with fail
  refine Calls.mono HCB ?_
  rintro e w1 ⟨u1, rfl, b1⟩
  have H1 := HD.out u1 w1 b1.arg
  have T1 : Hid (Touch (fun _ => False) w w1) := b1.t
  clear HCB HD b1
  go_wp2_with fail
  refine Calls.mono H1 ?_
  rintro e w2 ⟨na, nc, da, dc, ka, kc, sa, sc, ha, hc, rfl, pr, t2⟩
  have PR : Hid (∀ w', Touch (fun _ => False) w2 w' → PkRw w' PkC.zero (.slice na 0 nc) (.slice da 0 dc) (.slice ka 0 kc) (.slice sa 0 sc) (.slice ha 0 hc)) := fun w' t => pr.keep t
  have T2 : Hid (Touch (fun _ => False) w w2) := T1.out.trans t2
  clear H1 pr t2 T1
  obtain ⟨w3, hw3⟩ : ∃ w3, w3 = (((w2.alloc (.cells #[.int .u8 0, .int .u32 0, .int .u32 0, .int .u32 0, .int .u16 0, .int .u8 0, .int .u8 0, .int .u32 0, .int .u32 0, .int .u32 0, .slice none 0 0, .int .u16 0, .int .u8 0, .int .u8 0, .int .u32 0, .slice none 0 0, .slice none 0 0, .slice none 0 0, .slice none 0 0] 33)).alloc (.cells #[.int .u16 0, .int .u8 0, .int .u8 0, .int .u8 0, .int .u8 0, .int .u8 0, .int .u8 0, .int .u8 0, .int .u8 0] 44)).setRow w2.heap.size #[.int .u8 0, .int .u32 0, .int .u32 0, .int .u32 0, .int .u16 0, .int .u8 0, .int .u8 0, .int .u32 0, .int .u32 0, .int .u32 0, .slice na 0 nc, .int .u16 0, .int .u8 0, .int .u8 0, .int .u32 0, .slice da 0 dc, .slice ka 0 kc, .slice sa 0 sc, .slice ha 0 hc]).setRow (w2.heap.size + 1) #[.int .u16 0, .int .u8 0, .int .u8 0, .int .u8 0, .int .u8 0, .int .u8 0, .int .u8 0, .int .u8 0, .int .u8 0] := ⟨_, rfl⟩
  have ra : Row ((w2.alloc (.cells #[.int .u8 0, .int .u32 0, .int .u32 0, .int .u32 0, .int .u16 0, .int .u8 0, .int .u8 0, .int .u32 0, .int .u32 0, .int .u32 0, .slice none 0 0, .int .u16 0, .int .u8 0, .int .u8 0, .int .u32 0, .slice none 0 0, .slice none 0 0, .slice none 0 0, .slice none 0 0] 33)).alloc (.cells #[.int .u16 0, .int .u8 0, .int .u8 0, .int .u8 0, .int .u8 0, .int .u8 0, .int .u8 0, .int .u8 0, .int .u8 0] 44)) w2.heap.size 33 [.int .u8 0, .int .u32 0, .int .u32 0, .int .u32 0, .int .u16 0, .int .u8 0, .int .u8 0, .int .u32 0, .int .u32 0, .int .u32 0, .slice none 0 0, .int .u16 0, .int .u8 0, .int .u8 0, .int .u32 0, .slice none 0 0, .slice none 0 0, .slice none 0 0, .slice none 0 0] := (row_new w2 33 #[.int .u8 0, .int .u32 0, .int .u32 0, .int .u32 0, .int .u16 0, .int .u8 0, .int .u8 0, .int .u32 0, .int .u32 0, .int .u32 0, .slice none 0 0, .int .u16 0, .int .u8 0, .int .u8 0, .int .u32 0, .slice none 0 0, .slice none 0 0, .slice none 0 0, .slice none 0 0]).keep ((Touch.refl _ _).alloc _)
  have rb : Row ((w2.alloc (.cells #[.int .u8 0, .int .u32 0, .int .u32 0, .int .u32 0, .int .u16 0, .int .u8 0, .int .u8 0, .int .u32 0, .int .u32 0, .int .u32 0, .slice none 0 0, .int .u16 0, .int .u8 0, .int .u8 0, .int .u32 0, .slice none 0 0, .slice none 0 0, .slice none 0 0, .slice none 0 0] 33)).alloc (.cells #[.int .u16 0, .int .u8 0, .int .u8 0, .int .u8 0, .int .u8 0, .int .u8 0, .int .u8 0, .int .u8 0, .int .u8 0] 44)) (w2.heap.size + 1) 44 [.int .u16 0, .int .u8 0, .int .u8 0, .int .u8 0, .int .u8 0, .int .u8 0, .int .u8 0, .int .u8 0, .int .u8 0] := by
    have := row_new (w2.alloc (.cells #[.int .u8 0, .int .u32 0, .int .u32 0, .int .u32 0, .int .u16 0, .int .u8 0, .int .u8 0, .int .u32 0, .int .u32 0, .int .u32 0, .slice none 0 0, .int .u16 0, .int .u8 0, .int .u8 0, .int .u32 0, .slice none 0 0, .slice none 0 0, .slice none 0 0, .slice none 0 0] 33)) 44 #[.int .u16 0, .int .u8 0, .int .u8 0, .int .u8 0, .int .u8 0, .int .u8 0, .int .u8 0, .int .u8 0, .int .u8 0]
    simpa using this
  have rb2 : Row (((w2.alloc (.cells #[.int .u8 0, .int .u32 0, .int .u32 0, .int .u32 0, .int .u16 0, .int .u8 0, .int .u8 0, .int .u32 0, .int .u32 0, .int .u32 0, .slice none 0 0, .int .u16 0, .int .u8 0, .int .u8 0, .int .u32 0, .slice none 0 0, .slice none 0 0, .slice none 0 0, .slice none 0 0] 33)).alloc (.cells #[.int .u16 0, .int .u8 0, .int .u8 0, .int .u8 0, .int .u8 0, .int .u8 0, .int .u8 0, .int .u8 0, .int .u8 0] 44)).setRow w2.heap.size #[.int .u8 0, .int .u32 0, .int .u32 0, .int .u32 0, .int .u16 0, .int .u8 0, .int .u8 0, .int .u32 0, .int .u32 0, .int .u32 0, .slice na 0 nc, .int .u16 0, .int .u8 0, .int .u8 0, .int .u32 0, .slice da 0 dc, .slice ka 0 kc, .slice sa 0 sc, .slice ha 0 hc]) (w2.heap.size + 1) 44 [.int .u16 0, .int .u8 0, .int .u8 0, .int .u8 0, .int .u8 0, .int .u8 0, .int .u8 0, .int .u8 0, .int .u8 0] := rb.otherRow (by omega) _
  have t3 : Touch (fun _ => False) w2 w3 := by rw [hw3]; exact ((((Touch.refl _ _).alloc _).alloc _).setRow (Or.inr (by omega)) _).setRow (Or.inr (by omega)) _
  have G3 : Row w3 w2.heap.size 33 [.int .u8 0, .int .u32 0, .int .u32 0, .int .u32 0, .int .u16 0, .int .u8 0, .int .u8 0, .int .u32 0, .int .u32 0, .int .u32 0, .slice na 0 nc, .int .u16 0, .int .u8 0, .int .u8 0, .int .u32 0, .slice da 0 dc, .slice ka 0 kc, .slice sa 0 sc, .slice ha 0 hc] := by rw [hw3]; exact (ra.setRow _).otherRow (by omega) _
  have G4 : Row w3 (w2.heap.size + 1) 44 [.int .u16 0, .int .u8 0, .int .u8 0, .int .u8 0, .int .u8 0, .int .u8 0, .int .u8 0, .int .u8 0, .int .u8 0] := by rw [hw3]; exact rb2.setRow _
  go_upto_region 4 with (first | refine wpList_store_row rfl 33 (.tmp 3) (.tmp 17) rfl w2.heap.size #[.int .u8 0, .int .u32 0, .int .u32 0, .int .u32 0, .int .u16 0, .int .u8 0, .int .u8 0, .int .u32 0, .int .u32 0, .int .u32 0, .slice na 0 nc, .int .u16 0, .int .u8 0, .int .u8 0, .int .u32 0, .slice da 0 dc, .slice ka 0 kc, .slice sa 0 sc, .slice ha 0 hc] rfl rfl 33 _ ra (by kernel_rfl) rfl (by simp [Value.oneCell']) ?_ | refine wpList_store_row rfl 44 (.tmp 4) (.tmp 18) rfl (w2.heap.size + 1) #[.int .u16 0, .int .u8 0, .int .u8 0, .int .u8 0, .int .u8 0, .int .u8 0, .int .u8 0, .int .u8 0, .int .u8 0] rfl rfl 44 _ rb2 (by kernel_rfl) rfl (by simp [Value.oneCell']) ?_)
  rw [← hw3]
  clear hw3 ra rb rb2
  generalize w2.heap.size + 1 = g4 at *
  generalize w2.heap.size = g3 at *
  have y0 : w3.cell? ⟨g4, 0, none⟩ = some (.int .u16 0) := G4.cell 0
  have y1 : w3.cell? ⟨g4, 1, none⟩ = some (.int .u8 0) := G4.cell 1
  have y2 : w3.cell? ⟨g4, 2, none⟩ = some (.int .u8 0) := G4.cell 2
  have y3 : w3.cell? ⟨g4, 3, none⟩ = some (.int .u8 0) := G4.cell 3
  have y4 : w3.cell? ⟨g4, 4, none⟩ = some (.int .u8 0) := G4.cell 4
  have y5 : w3.cell? ⟨g4, 5, none⟩ = some (.int .u8 0) := G4.cell 5
  have y6 : w3.cell? ⟨g4, 6, none⟩ = some (.int .u8 0) := G4.cell 6
  have y7 : w3.cell? ⟨g4, 7, none⟩ = some (.int .u8 0) := G4.cell 7
  have y8 : w3.cell? ⟨g4, 8, none⟩ = some (.int .u8 0) := G4.cell 8
  have HQ : Calls Tryz.prog 15 #[.agg #[.int .u8 0, .int .u32 0, .int .u32 0, .int .u32 0, .int .u16 0, .int .u8 0, .int .u8 0, .int .u32 0, .int .u32 0, .int .u32 0, .slice na 0 nc, .int .u16 0, .int .u8 0, .int .u8 0, .int .u32 0, .slice da 0 dc, .slice ka 0 kc, .slice sa 0 sc, .slice ha 0 hc], .agg #[.int .u8 0, .int .u32 0, .int .u32 0, .int .u32 0, .int .u16 0, .int .u8 0, .int .u8 0, .int .u32 0, .int .u32 0, .int .u32 0, .slice none 0 0, .int .u16 0, .int .u8 0, .int .u8 0, .int .u32 0, .slice none 0 0, .slice none 0 0, .slice none 0 0, .slice none 0 0]] w3 fun e w' => e = .returned (.bool true) ∧ Touch (fun _ => False) w3 w' := epacket PkC.zero _ _ _ _ _ _ _ _ _ _ w3 (PR.out w3 t3) (nil_at w3 PV.zero)
  have R3 := G3.range
  have T3 : Hid (Touch (fun _ => False) w w3) := T2.out.trans t3
  have YK : Hid (∀ w', Touch (fun _ => False) w3 w' → Row w' g4 44 [.int .u16 0, .int .u8 0, .int .u8 0, .int .u8 0, .int .u8 0, .int .u8 0, .int .u8 0, .int .u8 0, .int .u8 0]) := fun w' t => G4.keep t
  clear T2 t3 G3 G4 PR
  go_wp2_with (refine wpList_load_mid rfl 33 (.tmp 3) rfl g3 0 rfl [.int .u8 0, .int .u32 0, .int .u32 0, .int .u32 0, .int .u16 0, .int .u8 0, .int .u8 0, .int .u32 0, .int .u32 0, .int .u32 0, .slice na 0 nc, .int .u16 0, .int .u8 0, .int .u8 0, .int .u32 0, .slice da 0 dc, .slice ka 0 kc, .slice sa 0 sc, .slice ha 0 hc] _ R3 Tryz.underlying33 rfl (by kernel_rfl) ?_)
  refine Calls.mono HQ ?_
  rintro e w4 ⟨rfl, t4⟩
  have G4 := YK.out w4 t4
  have H4 := plives w4
  clear y0 y1 y2 y3 y4 y5 y6 y7 y8 HQ
  have y0 : w4.cell? ⟨g4, 0, none⟩ = some (.int .u16 0) := G4.cell 0
  have y1 : w4.cell? ⟨g4, 1, none⟩ = some (.int .u8 0) := G4.cell 1
  have y2 : w4.cell? ⟨g4, 2, none⟩ = some (.int .u8 0) := G4.cell 2
  have y3 : w4.cell? ⟨g4, 3, none⟩ = some (.int .u8 0) := G4.cell 3
  have y4 : w4.cell? ⟨g4, 4, none⟩ = some (.int .u8 0) := G4.cell 4
  have y5 : w4.cell? ⟨g4, 5, none⟩ = some (.int .u8 0) := G4.cell 5
  have y6 : w4.cell? ⟨g4, 6, none⟩ = some (.int .u8 0) := G4.cell 6
  have y7 : w4.cell? ⟨g4, 7, none⟩ = some (.int .u8 0) := G4.cell 7
  have y8 : w4.cell? ⟨g4, 8, none⟩ = some (.int .u8 0) := G4.cell 8
  clear G4
  go_wp2_with (go_at_call 7; refine Calls.mono H4 ?_; rintro e w5 ⟨rfl, t5⟩)
  go_ret
  exact ⟨rfl, (T3.out.trans t4).trans t5⟩
end Go.Proofs.YtfhkocpnealblaaGreat
