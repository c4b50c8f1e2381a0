
/- The document's side of stage 15: Judge, Goes, Out, Confirms. -/
import Derived.Test.YtedolfggbgmklaaOrdRef2
import Derived.Test.YtedolfggbgmklaaRowB
namespace Go.Proofs.Ytedolfggbgmklaa
open Go.RowKit
set_option linter.unusedVariables false
set_option maxRecDepth 100000

/-- Is its age the greatest? -/
def HV.old15 (h : HV) : Bool := decide (3600 ≤ h.age % 32768)
/-- Which of two heads is newer. -/
def HV.new15 (a b : HV) : Int := newI a.seq a.sum a.age b.seq b.sum b.age
/-- What is done with a link state that came. -/
def judgeI (a b : HV) (has busy asked mine : Bool) (since sent : Int) : Int :=
  if a.old15 = true ∧ has = false ∧ busy = false then 1
  else if has = false ∨ 0 < a.new15 b then (if has = true ∧ mine = false ∧ since < 1 then 0 else 2)
  else if asked = true then 3
  else if a.new15 b = 0 then 4
  else if (b.old15 = true ∧ b.seq = 2147483647) ∨ sent < 1 then 0 else 5
set_option maxHeartbeats 1000000 in
theorem rold15 (h : HV) (ok : h.Ok) (r : Bool) (hr : h.old15 = r) (w : World) : Calls Try.prog 19 #[.agg #[.int .u16 h.age, .int .u8 h.opts, .int .u8 h.typ, .int .u32 h.id, .int .u32 h.adv, .int .i32 h.seq, .int .u16 h.sum, .int .u16 h.len]] w fun e w' => e = .returned (.bool r) ∧ Touch (fun _ => False) w w' := by
  have e1 : bits .andNot .u16 h.age 32768 = h.age % 32768 := and15 ok.a0 ok.a1
  have HR : Hid (decide (3600 ≤ h.age % 32768) = r) := hr
  clear hr ok
  by_cases hm : (3600 : Int) ≤ h.age % 32768
  · have e2 : Hid (r = true) := by have := HR.out; rw [decide_eq_true hm] at this; exact this.symm
    go_enter Try.func19, Try.ntmps19
    go_wp2_with fail
    go_ret
    exact ⟨ret_bool (by rw [e2.out]), (Touch.refl _ _).alloc _⟩
  · have e2 : Hid (r = false) := by have := HR.out; rw [decide_eq_false hm] at this; exact this.symm
    go_enter Try.func19, Try.ntmps19
    go_wp2_with fail
    go_ret
    exact ⟨ret_bool (by rw [e2.out]), (Touch.refl _ _).alloc _⟩
theorem rnew15 (a b : HV) (ha : a.Ok) (hb : b.Ok) (sa : a.OkS) (sb : b.OkS) (x : Int) (hx : a.new15 b = x) (w : World) : Calls Try.prog 18 #[.agg #[.int .u16 a.age, .int .u8 a.opts, .int .u8 a.typ, .int .u32 a.id, .int .u32 a.adv, .int .i32 a.seq, .int .u16 a.sum, .int .u16 a.len], .agg #[.int .u16 b.age, .int .u8 b.opts, .int .u8 b.typ, .int .u32 b.id, .int .u32 b.adv, .int .i32 b.seq, .int .u16 b.sum, .int .u16 b.len]] w fun e w' => e = .returned (.int .i64 x) ∧ Touch (fun _ => False) w w' := by
  rw [← hx]
  exact rnewer_any a.age a.opts a.typ a.id a.adv a.seq a.sum a.len b.age b.opts b.typ b.id b.adv b.seq b.sum b.len ha.a0 ha.a1 hb.a0 hb.a1 ha.s0 ha.s1 hb.s0 hb.s1 sa.1 sa.2 sb.1 sb.2 w
theorem ret_u8 {x y : Int} (h : x = y) : (Ending.returned (.int .u8 x) : Ending) = .returned (.int .u8 y) := by rw [h]
set_option maxHeartbeats 4000000 in
theorem judge_no (a b : HV) (ha : a.Ok) (busy asked mine : Bool) (since sent : Int) (w : World) : Calls Try.prog 9 #[.agg #[.int .u16 a.age, .int .u8 a.opts, .int .u8 a.typ, .int .u32 a.id, .int .u32 a.adv, .int .i32 a.seq, .int .u16 a.sum, .int .u16 a.len, .bool false, .int .u16 b.age, .int .u8 b.opts, .int .u8 b.typ, .int .u32 b.id, .int .u32 b.adv, .int .i32 b.seq, .int .u16 b.sum, .int .u16 b.len, .int .u32 since, .int .u32 sent, .bool busy, .bool asked, .bool mine]] w fun e w' => e = .returned (.int .u8 (judgeI a b false busy asked mine since sent)) ∧ Touch (fun _ => False) w w' := by
  obtain ⟨z, hz⟩ : ∃ z, judgeI a b false busy asked mine since sent = z := ⟨_, rfl⟩
  rw [hz]
  obtain ⟨r1, h1⟩ : ∃ r, a.old15 = r := ⟨_, rfl⟩
  have HO := fun w => rold15 a ha r1 h1 w
  have HJ : Hid ((r1 = true ∧ busy = false → z = 1) ∧ (¬ (r1 = true ∧ busy = false) → z = 2)) := by
    rw [← hz, ← h1]
    refine ⟨fun h => ?_, fun h => ?_⟩
    · unfold judgeI; rw [if_pos ⟨h.1, rfl, h.2⟩]
    · unfold judgeI; rw [if_neg (fun g => h ⟨g.1, g.2.2⟩), if_pos (Or.inl rfl), if_neg (fun g => by cases g.1)]
  have T0 : Touch (fun _ => False) w (w.alloc (.cells #[.int .u16 a.age, .int .u8 a.opts, .int .u8 a.typ, .int .u32 a.id, .int .u32 a.adv, .int .i32 a.seq, .int .u16 a.sum, .int .u16 a.len, .bool false, .int .u16 b.age, .int .u8 b.opts, .int .u8 b.typ, .int .u32 b.id, .int .u32 b.adv, .int .i32 b.seq, .int .u16 b.sum, .int .u16 b.len, .int .u32 since, .int .u32 sent, .bool busy, .bool asked, .bool mine] 27)) := (Touch.refl _ _).alloc _
  have R0 : Row (w.alloc (.cells #[.int .u16 a.age, .int .u8 a.opts, .int .u8 a.typ, .int .u32 a.id, .int .u32 a.adv, .int .i32 a.seq, .int .u16 a.sum, .int .u16 a.len, .bool false, .int .u16 b.age, .int .u8 b.opts, .int .u8 b.typ, .int .u32 b.id, .int .u32 b.adv, .int .i32 b.seq, .int .u16 b.sum, .int .u16 b.len, .int .u32 since, .int .u32 sent, .bool busy, .bool asked, .bool mine] 27)) w.heap.size 27 [.int .u16 a.age, .int .u8 a.opts, .int .u8 a.typ, .int .u32 a.id, .int .u32 a.adv, .int .i32 a.seq, .int .u16 a.sum, .int .u16 a.len, .bool false, .int .u16 b.age, .int .u8 b.opts, .int .u8 b.typ, .int .u32 b.id, .int .u32 b.adv, .int .i32 b.seq, .int .u16 b.sum, .int .u16 b.len, .int .u32 since, .int .u32 sent, .bool busy, .bool asked, .bool mine] := row_new _ _ _
  obtain ⟨g, hgd⟩ : ∃ g, w.heap.size = g := ⟨_, rfl⟩
  rw [hgd] at R0
  clear hz h1 ha
  go_enter Try.func9, Try.ntmps9
  go_wp2_with fail
  clear hgd
  generalize (w.alloc (.cells #[.int .u16 a.age, .int .u8 a.opts, .int .u8 a.typ, .int .u32 a.id, .int .u32 a.adv, .int .i32 a.seq, .int .u16 a.sum, .int .u16 a.len, .bool false, .int .u16 b.age, .int .u8 b.opts, .int .u8 b.typ, .int .u32 b.id, .int .u32 b.adv, .int .i32 b.seq, .int .u16 b.sum, .int .u16 b.len, .int .u32 since, .int .u32 sent, .bool busy, .bool asked, .bool mine] 27)) = w0 at *
  refine Calls.mono (HO _) ?_
  rintro e w1 ⟨rfl, t1⟩
  have R1 := R0.keep t1
  have TT : Hid (Touch (fun _ => False) w w1) := T0.trans t1
  have q0 : w1.cell? ⟨g, 0, none⟩ = some (.int .u16 a.age) := R1.cell 0
  have q1 : w1.cell? ⟨g, 1, none⟩ = some (.int .u8 a.opts) := R1.cell 1
  have q2 : w1.cell? ⟨g, 2, none⟩ = some (.int .u8 a.typ) := R1.cell 2
  have q3 : w1.cell? ⟨g, 3, none⟩ = some (.int .u32 a.id) := R1.cell 3
  have q4 : w1.cell? ⟨g, 4, none⟩ = some (.int .u32 a.adv) := R1.cell 4
  have q5 : w1.cell? ⟨g, 5, none⟩ = some (.int .i32 a.seq) := R1.cell 5
  have q6 : w1.cell? ⟨g, 6, none⟩ = some (.int .u16 a.sum) := R1.cell 6
  have q7 : w1.cell? ⟨g, 7, none⟩ = some (.int .u16 a.len) := R1.cell 7
  have q8 : w1.cell? ⟨g, 8, none⟩ = some (.bool false) := R1.cell 8
  have q9 : w1.cell? ⟨g, 9, none⟩ = some (.int .u16 b.age) := R1.cell 9
  have q10 : w1.cell? ⟨g, 10, none⟩ = some (.int .u8 b.opts) := R1.cell 10
  have q11 : w1.cell? ⟨g, 11, none⟩ = some (.int .u8 b.typ) := R1.cell 11
  have q12 : w1.cell? ⟨g, 12, none⟩ = some (.int .u32 b.id) := R1.cell 12
  have q13 : w1.cell? ⟨g, 13, none⟩ = some (.int .u32 b.adv) := R1.cell 13
  have q14 : w1.cell? ⟨g, 14, none⟩ = some (.int .i32 b.seq) := R1.cell 14
  have q15 : w1.cell? ⟨g, 15, none⟩ = some (.int .u16 b.sum) := R1.cell 15
  have q16 : w1.cell? ⟨g, 16, none⟩ = some (.int .u16 b.len) := R1.cell 16
  have q17 : w1.cell? ⟨g, 17, none⟩ = some (.int .u32 since) := R1.cell 17
  have q18 : w1.cell? ⟨g, 18, none⟩ = some (.int .u32 sent) := R1.cell 18
  have q19 : w1.cell? ⟨g, 19, none⟩ = some (.bool busy) := R1.cell 19
  have q20 : w1.cell? ⟨g, 20, none⟩ = some (.bool asked) := R1.cell 20
  have q21 : w1.cell? ⟨g, 21, none⟩ = some (.bool mine) := R1.cell 21
  have hg := R1.lt
  clear R0 R1 T0 t1 HO
  cases r1 with
  | false =>
    have hz : Hid (z = _) := HJ.out.2 (fun h => by cases h.1)
    go_wp2_with fail
    go_ret
    exact ⟨ret_u8 hz.out.symm, TT.out⟩
  | true =>
    cases busy with
    | true =>
      have hz : Hid (z = _) := HJ.out.2 (fun h => by cases h.2)
      go_wp2_with fail
      go_ret
      exact ⟨ret_u8 hz.out.symm, TT.out⟩
    | false =>
      have hz : Hid (z = _) := HJ.out.1 ⟨rfl, rfl⟩
      go_wp2_with fail
      go_ret
      exact ⟨ret_u8 hz.out.symm, TT.out⟩
set_option maxHeartbeats 8000000 in
theorem judge_yes (a b : HV) (ha : a.Ok) (hb : b.Ok) (sa : a.OkS) (sb : b.OkS) (busy asked mine : Bool) (since sent : Int) (w : World) : Calls Try.prog 9 #[.agg #[.int .u16 a.age, .int .u8 a.opts, .int .u8 a.typ, .int .u32 a.id, .int .u32 a.adv, .int .i32 a.seq, .int .u16 a.sum, .int .u16 a.len, .bool true, .int .u16 b.age, .int .u8 b.opts, .int .u8 b.typ, .int .u32 b.id, .int .u32 b.adv, .int .i32 b.seq, .int .u16 b.sum, .int .u16 b.len, .int .u32 since, .int .u32 sent, .bool busy, .bool asked, .bool mine]] w fun e w' => e = .returned (.int .u8 (judgeI a b true busy asked mine since sent)) ∧ Touch (fun _ => False) w w' := by
  obtain ⟨z, hz⟩ : ∃ z, judgeI a b true busy asked mine since sent = z := ⟨_, rfl⟩
  rw [hz]
  obtain ⟨r1, h1⟩ : ∃ r, a.old15 = r := ⟨_, rfl⟩
  obtain ⟨r2, h2⟩ : ∃ r, b.old15 = r := ⟨_, rfl⟩
  obtain ⟨x, hx⟩ : ∃ x, a.new15 b = x := ⟨_, rfl⟩
  have HO := fun w => rold15 a ha r1 h1 w
  have HO2 := fun w => rold15 b hb r2 h2 w
  have HN := fun w => rnew15 a b ha hb sa sb x hx w
  have HJ : Hid ((0 < x → mine = false ∧ since < 1 → z = 0) ∧ (0 < x → ¬ (mine = false ∧ since < 1) → z = 2) ∧ (¬ 0 < x → asked = true → z = 3) ∧ (¬ 0 < x → ¬ asked = true → x = 0 → z = 4) ∧ (¬ 0 < x → ¬ asked = true → ¬ x = 0 → (r2 = true ∧ b.seq = 2147483647) ∨ sent < 1 → z = 0) ∧ (¬ 0 < x → ¬ asked = true → ¬ x = 0 → ¬ ((r2 = true ∧ b.seq = 2147483647) ∨ sent < 1) → z = 5)) := by
    rw [← hz, ← h2, ← hx]
    unfold judgeI
    rw [if_neg (fun g => by cases g.2.1)]
    refine ⟨fun h i => ?_, fun h i => ?_, fun h i => ?_, fun h i j => ?_, fun h i j k => ?_, fun h i j k => ?_⟩
    · rw [if_pos (Or.inr h), if_pos ⟨rfl, i⟩]
    · rw [if_pos (Or.inr h), if_neg (fun g => i g.2)]
    · rw [if_neg (fun g => g.elim (fun c => by cases c) h), if_pos i]
    · rw [if_neg (fun g => g.elim (fun c => by cases c) h), if_neg i, if_pos j]
    · rw [if_neg (fun g => g.elim (fun c => by cases c) h), if_neg i, if_neg j, if_pos k]
    · rw [if_neg (fun g => g.elim (fun c => by cases c) h), if_neg i, if_neg j, if_neg k]
  have T0 : Touch (fun _ => False) w (w.alloc (.cells #[.int .u16 a.age, .int .u8 a.opts, .int .u8 a.typ, .int .u32 a.id, .int .u32 a.adv, .int .i32 a.seq, .int .u16 a.sum, .int .u16 a.len, .bool true, .int .u16 b.age, .int .u8 b.opts, .int .u8 b.typ, .int .u32 b.id, .int .u32 b.adv, .int .i32 b.seq, .int .u16 b.sum, .int .u16 b.len, .int .u32 since, .int .u32 sent, .bool busy, .bool asked, .bool mine] 27)) := (Touch.refl _ _).alloc _
  have R0 : Row (w.alloc (.cells #[.int .u16 a.age, .int .u8 a.opts, .int .u8 a.typ, .int .u32 a.id, .int .u32 a.adv, .int .i32 a.seq, .int .u16 a.sum, .int .u16 a.len, .bool true, .int .u16 b.age, .int .u8 b.opts, .int .u8 b.typ, .int .u32 b.id, .int .u32 b.adv, .int .i32 b.seq, .int .u16 b.sum, .int .u16 b.len, .int .u32 since, .int .u32 sent, .bool busy, .bool asked, .bool mine] 27)) w.heap.size 27 [.int .u16 a.age, .int .u8 a.opts, .int .u8 a.typ, .int .u32 a.id, .int .u32 a.adv, .int .i32 a.seq, .int .u16 a.sum, .int .u16 a.len, .bool true, .int .u16 b.age, .int .u8 b.opts, .int .u8 b.typ, .int .u32 b.id, .int .u32 b.adv, .int .i32 b.seq, .int .u16 b.sum, .int .u16 b.len, .int .u32 since, .int .u32 sent, .bool busy, .bool asked, .bool mine] := row_new _ _ _
  obtain ⟨g, hgd⟩ : ∃ g, w.heap.size = g := ⟨_, rfl⟩
  rw [hgd] at R0
  clear hz h1 h2 hx ha hb sa sb
  go_enter Try.func9, Try.ntmps9
  go_wp2_with fail
  clear hgd
  generalize (w.alloc (.cells #[.int .u16 a.age, .int .u8 a.opts, .int .u8 a.typ, .int .u32 a.id, .int .u32 a.adv, .int .i32 a.seq, .int .u16 a.sum, .int .u16 a.len, .bool true, .int .u16 b.age, .int .u8 b.opts, .int .u8 b.typ, .int .u32 b.id, .int .u32 b.adv, .int .i32 b.seq, .int .u16 b.sum, .int .u16 b.len, .int .u32 since, .int .u32 sent, .bool busy, .bool asked, .bool mine] 27)) = w0 at *
  refine Calls.mono (HO _) ?_
  rintro e w1 ⟨rfl, t1⟩
  have R1 := R0.keep t1
  have T1 := T0.trans t1
  have q0 : w1.cell? ⟨g, 0, none⟩ = some (.int .u16 a.age) := R1.cell 0
  have q1 : w1.cell? ⟨g, 1, none⟩ = some (.int .u8 a.opts) := R1.cell 1
  have q2 : w1.cell? ⟨g, 2, none⟩ = some (.int .u8 a.typ) := R1.cell 2
  have q3 : w1.cell? ⟨g, 3, none⟩ = some (.int .u32 a.id) := R1.cell 3
  have q4 : w1.cell? ⟨g, 4, none⟩ = some (.int .u32 a.adv) := R1.cell 4
  have q5 : w1.cell? ⟨g, 5, none⟩ = some (.int .i32 a.seq) := R1.cell 5
  have q6 : w1.cell? ⟨g, 6, none⟩ = some (.int .u16 a.sum) := R1.cell 6
  have q7 : w1.cell? ⟨g, 7, none⟩ = some (.int .u16 a.len) := R1.cell 7
  have q8 : w1.cell? ⟨g, 8, none⟩ = some (.bool true) := R1.cell 8
  have q9 : w1.cell? ⟨g, 9, none⟩ = some (.int .u16 b.age) := R1.cell 9
  have q10 : w1.cell? ⟨g, 10, none⟩ = some (.int .u8 b.opts) := R1.cell 10
  have q11 : w1.cell? ⟨g, 11, none⟩ = some (.int .u8 b.typ) := R1.cell 11
  have q12 : w1.cell? ⟨g, 12, none⟩ = some (.int .u32 b.id) := R1.cell 12
  have q13 : w1.cell? ⟨g, 13, none⟩ = some (.int .u32 b.adv) := R1.cell 13
  have q14 : w1.cell? ⟨g, 14, none⟩ = some (.int .i32 b.seq) := R1.cell 14
  have q15 : w1.cell? ⟨g, 15, none⟩ = some (.int .u16 b.sum) := R1.cell 15
  have q16 : w1.cell? ⟨g, 16, none⟩ = some (.int .u16 b.len) := R1.cell 16
  have q17 : w1.cell? ⟨g, 17, none⟩ = some (.int .u32 since) := R1.cell 17
  have q18 : w1.cell? ⟨g, 18, none⟩ = some (.int .u32 sent) := R1.cell 18
  have q19 : w1.cell? ⟨g, 19, none⟩ = some (.bool busy) := R1.cell 19
  have q20 : w1.cell? ⟨g, 20, none⟩ = some (.bool asked) := R1.cell 20
  have q21 : w1.cell? ⟨g, 21, none⟩ = some (.bool mine) := R1.cell 21
  have hg := R1.lt
  clear R0 T0 t1 HO
  cases r1
  all_goals
    go_wp2_with fail
    refine Calls.mono (HN _) ?_
    rintro e w2 ⟨rfl, t2⟩
    have R2 := R1.keep t2
    have TT2 := T1.trans t2
    clear hg q0 q1 q2 q3 q4 q5 q6 q7 q8 q9 q10 q11 q12 q13 q14 q15 q16 q17 q18 q19 q20 q21
    have q0 : w2.cell? ⟨g, 0, none⟩ = some (.int .u16 a.age) := R2.cell 0
    have q1 : w2.cell? ⟨g, 1, none⟩ = some (.int .u8 a.opts) := R2.cell 1
    have q2 : w2.cell? ⟨g, 2, none⟩ = some (.int .u8 a.typ) := R2.cell 2
    have q3 : w2.cell? ⟨g, 3, none⟩ = some (.int .u32 a.id) := R2.cell 3
    have q4 : w2.cell? ⟨g, 4, none⟩ = some (.int .u32 a.adv) := R2.cell 4
    have q5 : w2.cell? ⟨g, 5, none⟩ = some (.int .i32 a.seq) := R2.cell 5
    have q6 : w2.cell? ⟨g, 6, none⟩ = some (.int .u16 a.sum) := R2.cell 6
    have q7 : w2.cell? ⟨g, 7, none⟩ = some (.int .u16 a.len) := R2.cell 7
    have q8 : w2.cell? ⟨g, 8, none⟩ = some (.bool true) := R2.cell 8
    have q9 : w2.cell? ⟨g, 9, none⟩ = some (.int .u16 b.age) := R2.cell 9
    have q10 : w2.cell? ⟨g, 10, none⟩ = some (.int .u8 b.opts) := R2.cell 10
    have q11 : w2.cell? ⟨g, 11, none⟩ = some (.int .u8 b.typ) := R2.cell 11
    have q12 : w2.cell? ⟨g, 12, none⟩ = some (.int .u32 b.id) := R2.cell 12
    have q13 : w2.cell? ⟨g, 13, none⟩ = some (.int .u32 b.adv) := R2.cell 13
    have q14 : w2.cell? ⟨g, 14, none⟩ = some (.int .i32 b.seq) := R2.cell 14
    have q15 : w2.cell? ⟨g, 15, none⟩ = some (.int .u16 b.sum) := R2.cell 15
    have q16 : w2.cell? ⟨g, 16, none⟩ = some (.int .u16 b.len) := R2.cell 16
    have q17 : w2.cell? ⟨g, 17, none⟩ = some (.int .u32 since) := R2.cell 17
    have q18 : w2.cell? ⟨g, 18, none⟩ = some (.int .u32 sent) := R2.cell 18
    have q19 : w2.cell? ⟨g, 19, none⟩ = some (.bool busy) := R2.cell 19
    have q20 : w2.cell? ⟨g, 20, none⟩ = some (.bool asked) := R2.cell 20
    have q21 : w2.cell? ⟨g, 21, none⟩ = some (.bool mine) := R2.cell 21
    have hg := R2.lt
    clear R1 T1 t2
    by_cases hx0 : 0 < x
    · have TT : Hid (Touch (fun _ => False) w w2) := TT2
      clear HN HO2 R2 TT2
      cases mine with
      | true =>
        have hz : Hid (z = _) := HJ.out.2.1 hx0 (fun h => by cases h.1)
        go_wp2_with fail
        go_ret
        exact ⟨ret_u8 hz.out.symm, TT.out⟩
      | false =>
        by_cases hs : since < 1
        · have hz : Hid (z = _) := HJ.out.1 hx0 ⟨rfl, hs⟩
          go_wp2_with fail
          go_ret
          exact ⟨ret_u8 hz.out.symm, TT.out⟩
        · have hz : Hid (z = _) := HJ.out.2.1 hx0 (fun h => hs h.2)
          go_wp2_with fail
          go_ret
          exact ⟨ret_u8 hz.out.symm, TT.out⟩
    · cases asked with
      | true =>
        have hz : Hid (z = _) := HJ.out.2.2.1 (by omega) (by first | rfl | trivial)
        go_wp2_with fail
        go_ret
        exact ⟨ret_u8 hz.out.symm, TT2⟩
      | false =>
        go_wp2_with fail
        refine Calls.mono (HN _) ?_
        rintro e w3 ⟨rfl, t3⟩
        have R3 := R2.keep t3
        have TT3 := TT2.trans t3
        clear hg q0 q1 q2 q3 q4 q5 q6 q7 q8 q9 q10 q11 q12 q13 q14 q15 q16 q17 q18 q19 q20 q21
        have q0 : w3.cell? ⟨g, 0, none⟩ = some (.int .u16 a.age) := R3.cell 0
        have q1 : w3.cell? ⟨g, 1, none⟩ = some (.int .u8 a.opts) := R3.cell 1
        have q2 : w3.cell? ⟨g, 2, none⟩ = some (.int .u8 a.typ) := R3.cell 2
        have q3 : w3.cell? ⟨g, 3, none⟩ = some (.int .u32 a.id) := R3.cell 3
        have q4 : w3.cell? ⟨g, 4, none⟩ = some (.int .u32 a.adv) := R3.cell 4
        have q5 : w3.cell? ⟨g, 5, none⟩ = some (.int .i32 a.seq) := R3.cell 5
        have q6 : w3.cell? ⟨g, 6, none⟩ = some (.int .u16 a.sum) := R3.cell 6
        have q7 : w3.cell? ⟨g, 7, none⟩ = some (.int .u16 a.len) := R3.cell 7
        have q8 : w3.cell? ⟨g, 8, none⟩ = some (.bool true) := R3.cell 8
        have q9 : w3.cell? ⟨g, 9, none⟩ = some (.int .u16 b.age) := R3.cell 9
        have q10 : w3.cell? ⟨g, 10, none⟩ = some (.int .u8 b.opts) := R3.cell 10
        have q11 : w3.cell? ⟨g, 11, none⟩ = some (.int .u8 b.typ) := R3.cell 11
        have q12 : w3.cell? ⟨g, 12, none⟩ = some (.int .u32 b.id) := R3.cell 12
        have q13 : w3.cell? ⟨g, 13, none⟩ = some (.int .u32 b.adv) := R3.cell 13
        have q14 : w3.cell? ⟨g, 14, none⟩ = some (.int .i32 b.seq) := R3.cell 14
        have q15 : w3.cell? ⟨g, 15, none⟩ = some (.int .u16 b.sum) := R3.cell 15
        have q16 : w3.cell? ⟨g, 16, none⟩ = some (.int .u16 b.len) := R3.cell 16
        have q17 : w3.cell? ⟨g, 17, none⟩ = some (.int .u32 since) := R3.cell 17
        have q18 : w3.cell? ⟨g, 18, none⟩ = some (.int .u32 sent) := R3.cell 18
        have q19 : w3.cell? ⟨g, 19, none⟩ = some (.bool busy) := R3.cell 19
        have q20 : w3.cell? ⟨g, 20, none⟩ = some (.bool false) := R3.cell 20
        have q21 : w3.cell? ⟨g, 21, none⟩ = some (.bool mine) := R3.cell 21
        have hg := R3.lt
        clear R2 TT2 t3 HN
        by_cases hxe : x = 0
        · subst hxe
          have hz : Hid (z = _) := HJ.out.2.2.2.1 hx0 (by simp) rfl
          go_wp2_with fail
          go_ret
          exact ⟨ret_u8 hz.out.symm, TT3⟩
        · have hxb : (x == 0) = false := by simpa using hxe
          go_wp2_with fail
          refine Calls.mono (HO2 _) ?_
          rintro e w4 ⟨rfl, t4⟩
          have R4 := R3.keep t4
          have TT : Hid (Touch (fun _ => False) w w4) := TT3.trans t4
          clear hg q0 q1 q2 q3 q4 q5 q6 q7 q8 q9 q10 q11 q12 q13 q14 q15 q16 q17 q18 q19 q20 q21
          have q0 : w4.cell? ⟨g, 0, none⟩ = some (.int .u16 a.age) := R4.cell 0
          have q1 : w4.cell? ⟨g, 1, none⟩ = some (.int .u8 a.opts) := R4.cell 1
          have q2 : w4.cell? ⟨g, 2, none⟩ = some (.int .u8 a.typ) := R4.cell 2
          have q3 : w4.cell? ⟨g, 3, none⟩ = some (.int .u32 a.id) := R4.cell 3
          have q4 : w4.cell? ⟨g, 4, none⟩ = some (.int .u32 a.adv) := R4.cell 4
          have q5 : w4.cell? ⟨g, 5, none⟩ = some (.int .i32 a.seq) := R4.cell 5
          have q6 : w4.cell? ⟨g, 6, none⟩ = some (.int .u16 a.sum) := R4.cell 6
          have q7 : w4.cell? ⟨g, 7, none⟩ = some (.int .u16 a.len) := R4.cell 7
          have q8 : w4.cell? ⟨g, 8, none⟩ = some (.bool true) := R4.cell 8
          have q9 : w4.cell? ⟨g, 9, none⟩ = some (.int .u16 b.age) := R4.cell 9
          have q10 : w4.cell? ⟨g, 10, none⟩ = some (.int .u8 b.opts) := R4.cell 10
          have q11 : w4.cell? ⟨g, 11, none⟩ = some (.int .u8 b.typ) := R4.cell 11
          have q12 : w4.cell? ⟨g, 12, none⟩ = some (.int .u32 b.id) := R4.cell 12
          have q13 : w4.cell? ⟨g, 13, none⟩ = some (.int .u32 b.adv) := R4.cell 13
          have q14 : w4.cell? ⟨g, 14, none⟩ = some (.int .i32 b.seq) := R4.cell 14
          have q15 : w4.cell? ⟨g, 15, none⟩ = some (.int .u16 b.sum) := R4.cell 15
          have q16 : w4.cell? ⟨g, 16, none⟩ = some (.int .u16 b.len) := R4.cell 16
          have q17 : w4.cell? ⟨g, 17, none⟩ = some (.int .u32 since) := R4.cell 17
          have q18 : w4.cell? ⟨g, 18, none⟩ = some (.int .u32 sent) := R4.cell 18
          have q19 : w4.cell? ⟨g, 19, none⟩ = some (.bool busy) := R4.cell 19
          have q20 : w4.cell? ⟨g, 20, none⟩ = some (.bool false) := R4.cell 20
          have q21 : w4.cell? ⟨g, 21, none⟩ = some (.bool mine) := R4.cell 21
          have hg := R4.lt
          clear R3 TT3 t4 HO2 R4
          by_cases hs : sent < 1
          · cases r2 with
            | false =>
              have hz : Hid (z = _) := HJ.out.2.2.2.2.1 hx0 (by simp) hxe (Or.inr hs)
              go_wp2_with fail
              go_ret
              exact ⟨ret_u8 hz.out.symm, TT.out⟩
            | true =>
              by_cases hq : b.seq = 2147483647
              · have hqb : (b.seq == 2147483647) = true := by simpa using hq
                have hz : Hid (z = _) := HJ.out.2.2.2.2.1 hx0 (by simp) hxe (Or.inr hs)
                go_wp2_with fail
                go_ret
                exact ⟨ret_u8 hz.out.symm, TT.out⟩
              · have hqb : (b.seq == 2147483647) = false := by simpa using hq
                have hz : Hid (z = _) := HJ.out.2.2.2.2.1 hx0 (by simp) hxe (Or.inr hs)
                go_wp2_with fail
                go_ret
                exact ⟨ret_u8 hz.out.symm, TT.out⟩
          · cases r2 with
            | false =>
              have hz : Hid (z = _) := HJ.out.2.2.2.2.2 hx0 (by simp) hxe (fun h => h.elim (fun c => by cases c.1) hs)
              go_wp2_with fail
              go_ret
              exact ⟨ret_u8 hz.out.symm, TT.out⟩
            | true =>
              by_cases hq : b.seq = 2147483647
              · have hqb : (b.seq == 2147483647) = true := by simpa using hq
                have hz : Hid (z = _) := HJ.out.2.2.2.2.1 hx0 (by simp) hxe (Or.inl ⟨rfl, hq⟩)
                go_wp2_with fail
                go_ret
                exact ⟨ret_u8 hz.out.symm, TT.out⟩
              · have hqb : (b.seq == 2147483647) = false := by simpa using hq
                have hz : Hid (z = _) := HJ.out.2.2.2.2.2 hx0 (by simp) hxe (fun h => h.elim (fun c => hq c.2) hs)
                go_wp2_with fail
                go_ret
                exact ⟨ret_u8 hz.out.symm, TT.out⟩
theorem judge15 (a b : HV) (ha : a.Ok) (hb : b.Ok) (sa : a.OkS) (sb : b.OkS) (has busy asked mine : Bool) (since sent : Int) (w : World) : Calls Try.prog 9 #[.agg #[.int .u16 a.age, .int .u8 a.opts, .int .u8 a.typ, .int .u32 a.id, .int .u32 a.adv, .int .i32 a.seq, .int .u16 a.sum, .int .u16 a.len, .bool has, .int .u16 b.age, .int .u8 b.opts, .int .u8 b.typ, .int .u32 b.id, .int .u32 b.adv, .int .i32 b.seq, .int .u16 b.sum, .int .u16 b.len, .int .u32 since, .int .u32 sent, .bool busy, .bool asked, .bool mine]] w fun e w' => e = .returned (.int .u8 (judgeI a b has busy asked mine since sent)) ∧ Touch (fun _ => False) w w' := by
  cases has
  · exact judge_no a b ha busy asked mine since sent w
  · exact judge_yes a b ha hb sa sb busy asked mine since sent w
end Go.Proofs.Ytedolfggbgmklaa
