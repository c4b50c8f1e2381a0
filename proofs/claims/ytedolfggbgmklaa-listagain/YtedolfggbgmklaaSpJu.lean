
/- The program's Judge. -/
import Derived.Test.YtedolfggbgmklaaRefSp
namespace Go.Proofs.Ytedolfggbgmklaa
open Go.RowKit
set_option linter.unusedVariables false
set_option maxRecDepth 100000

theorem old15_yrs (a : HV) : decide (yrs a.age = 3600) = a.old15 := by
  unfold HV.old15
  exact decide_eq_decide.2 (by unfold yrs; split <;> omega)
theorem pnew15 (a b : HV) (ha : a.Ok) (hb : b.Ok) (x : Int) (hx : a.new15 b = x) (w : World) : Calls Try.prog 30 #[.agg #[.int .u16 a.age, .int .u8 a.opts, .int .u8 a.typ, .int .u32 a.id, .int .u32 a.adv, .int .i32 a.seq, .int .u16 a.sum, .int .u16 a.len], .agg #[.int .u16 b.age, .int .u8 b.opts, .int .u8 b.typ, .int .u32 b.id, .int .u32 b.adv, .int .i32 b.seq, .int .u16 b.sum, .int .u16 b.len]] w fun e w' => e = .returned (.int .i64 x) ∧ Touch (fun _ => False) w w' := newer_hv a b ha hb x hx w
theorem pold15 (a : HV) (ha : a.Ok) (r : Bool) (hr : a.old15 = r) (w : World) : Calls Try.prog 31 #[.int .u16 a.age] w fun e w' => e = .returned (.bool r) ∧ Touch (fun _ => False) w w' := old_hv a.age ha.a0 ha.a1 r (by rw [old15_yrs, hr]) w
set_option maxHeartbeats 4000000 in
theorem pjudge_no (a b : HV) (ha : a.Ok) (hb : b.Ok) (busy asked mine : Bool) (since sent : Int) (w : World) : Calls Try.prog 8 #[.agg #[.int .u16 a.age, .int .u8 a.opts, .int .u8 a.typ, .int .u32 a.id, .int .u32 a.adv, .int .i32 a.seq, .int .u16 a.sum, .int .u16 a.len, .bool false, .int .u16 b.age, .int .u8 b.opts, .int .u8 b.typ, .int .u32 b.id, .int .u32 b.adv, .int .i32 b.seq, .int .u16 b.sum, .int .u16 b.len, .int .u32 since, .int .u32 sent, .bool busy, .bool asked, .bool mine]] w fun e w' => e = .returned (.int .u8 (judgeI a b false busy asked mine since sent)) ∧ Touch (fun _ => False) w w' := by
  obtain ⟨z, hz⟩ : ∃ z, judgeI a b false busy asked mine since sent = z := ⟨_, rfl⟩
  rw [hz]
  obtain ⟨r1, h1⟩ : ∃ r, a.old15 = r := ⟨_, rfl⟩
  obtain ⟨x, hx⟩ : ∃ x, a.new15 b = x := ⟨_, rfl⟩
  have HO := fun w => pold15 a ha r1 h1 w
  have HN := fun w => pnew15 a b ha hb x hx w
  have HJ : Hid ((r1 = true ∧ busy = false → z = 1) ∧ (¬ (r1 = true ∧ busy = false) → z = 2)) := by
    rw [← hz, ← h1]
    refine ⟨fun h => ?_, fun h => ?_⟩
    · unfold judgeI; rw [if_pos ⟨h.1, rfl, h.2⟩]
    · unfold judgeI; rw [if_neg (fun g => h ⟨g.1, g.2.2⟩), if_pos (Or.inl rfl), if_neg (fun g => by cases g.1)]
  have T0 : Touch (fun _ => False) w (w.alloc (.cells #[.int .u16 a.age, .int .u8 a.opts, .int .u8 a.typ, .int .u32 a.id, .int .u32 a.adv, .int .i32 a.seq, .int .u16 a.sum, .int .u16 a.len, .bool false, .int .u16 b.age, .int .u8 b.opts, .int .u8 b.typ, .int .u32 b.id, .int .u32 b.adv, .int .i32 b.seq, .int .u16 b.sum, .int .u16 b.len, .int .u32 since, .int .u32 sent, .bool busy, .bool asked, .bool mine] 28)) := (Touch.refl _ _).alloc _
  have R0 : Row (w.alloc (.cells #[.int .u16 a.age, .int .u8 a.opts, .int .u8 a.typ, .int .u32 a.id, .int .u32 a.adv, .int .i32 a.seq, .int .u16 a.sum, .int .u16 a.len, .bool false, .int .u16 b.age, .int .u8 b.opts, .int .u8 b.typ, .int .u32 b.id, .int .u32 b.adv, .int .i32 b.seq, .int .u16 b.sum, .int .u16 b.len, .int .u32 since, .int .u32 sent, .bool busy, .bool asked, .bool mine] 28)) w.heap.size 28 [.int .u16 a.age, .int .u8 a.opts, .int .u8 a.typ, .int .u32 a.id, .int .u32 a.adv, .int .i32 a.seq, .int .u16 a.sum, .int .u16 a.len, .bool false, .int .u16 b.age, .int .u8 b.opts, .int .u8 b.typ, .int .u32 b.id, .int .u32 b.adv, .int .i32 b.seq, .int .u16 b.sum, .int .u16 b.len, .int .u32 since, .int .u32 sent, .bool busy, .bool asked, .bool mine] := row_new _ _ _
  obtain ⟨g, hgd⟩ : ∃ g, w.heap.size = g := ⟨_, rfl⟩
  rw [hgd] at R0
  clear hz h1 ha hb hx
  go_enter Try.func8, Try.ntmps8
  go_wp2_with fail
  clear hgd
  generalize (w.alloc (.cells #[.int .u16 a.age, .int .u8 a.opts, .int .u8 a.typ, .int .u32 a.id, .int .u32 a.adv, .int .i32 a.seq, .int .u16 a.sum, .int .u16 a.len, .bool false, .int .u16 b.age, .int .u8 b.opts, .int .u8 b.typ, .int .u32 b.id, .int .u32 b.adv, .int .i32 b.seq, .int .u16 b.sum, .int .u16 b.len, .int .u32 since, .int .u32 sent, .bool busy, .bool asked, .bool mine] 28)) = w0 at *
  refine Calls.mono (HN _) ?_
  rintro e w1 ⟨rfl, t1⟩
  have R1 := R0.keep t1
  have T1 := T0.trans t1
  clear R0 T0 t1 HN
  have q0 : w1.cell? ⟨g, 0, none⟩ = some (.int .u16 a.age) := R1.cell 0
  have q1 : w1.cell? ⟨g, 1, none⟩ = some (.int .u8 a.opts) := R1.cell 1
  have q2 : w1.cell? ⟨g, 2, none⟩ = some (.int .u8 a.typ) := R1.cell 2
  have q3 : w1.cell? ⟨g, 3, none⟩ = some (.int .u32 a.id) := R1.cell 3
  have q4 : w1.cell? ⟨g, 4, none⟩ = some (.int .u32 a.adv) := R1.cell 4
  have q5 : w1.cell? ⟨g, 5, none⟩ = some (.int .i32 a.seq) := R1.cell 5
  have q6 : w1.cell? ⟨g, 6, none⟩ = some (.int .u16 a.sum) := R1.cell 6
  have q7 : w1.cell? ⟨g, 7, none⟩ = some (.int .u16 a.len) := R1.cell 7
  have q8 : w1.cell? ⟨g, 8, none⟩ = some (.bool false) := R1.cell 8
  have q9 : w1.cell? ⟨g, 9, none⟩ = some (.int .u16 b.age) := R1.cell 9
  have q10 : w1.cell? ⟨g, 10, none⟩ = some (.int .u8 b.opts) := R1.cell 10
  have q11 : w1.cell? ⟨g, 11, none⟩ = some (.int .u8 b.typ) := R1.cell 11
  have q12 : w1.cell? ⟨g, 12, none⟩ = some (.int .u32 b.id) := R1.cell 12
  have q13 : w1.cell? ⟨g, 13, none⟩ = some (.int .u32 b.adv) := R1.cell 13
  have q14 : w1.cell? ⟨g, 14, none⟩ = some (.int .i32 b.seq) := R1.cell 14
  have q15 : w1.cell? ⟨g, 15, none⟩ = some (.int .u16 b.sum) := R1.cell 15
  have q16 : w1.cell? ⟨g, 16, none⟩ = some (.int .u16 b.len) := R1.cell 16
  have q17 : w1.cell? ⟨g, 17, none⟩ = some (.int .u32 since) := R1.cell 17
  have q18 : w1.cell? ⟨g, 18, none⟩ = some (.int .u32 sent) := R1.cell 18
  have q19 : w1.cell? ⟨g, 19, none⟩ = some (.bool busy) := R1.cell 19
  have q20 : w1.cell? ⟨g, 20, none⟩ = some (.bool asked) := R1.cell 20
  have q21 : w1.cell? ⟨g, 21, none⟩ = some (.bool mine) := R1.cell 21
  have hg := R1.lt
  cases busy with
  | true =>
    have TT := T1
    clear R1 T1
    have hz : Hid (z = _) := HJ.out.2 (fun h => by cases h.2)
    go_wp2_with fail
    go_ret
    exact ⟨ret_u8 hz.out.symm, TT⟩
  | false =>
    go_wp2_with fail
    refine Calls.mono (HO _) ?_
    rintro e w2 ⟨rfl, t2⟩
    have R2 := R1.keep t2
    have TT := T1.trans t2
    clear hg q0 q1 q2 q3 q4 q5 q6 q7 q8 q9 q10 q11 q12 q13 q14 q15 q16 q17 q18 q19 q20 q21
    have q0 : w2.cell? ⟨g, 0, none⟩ = some (.int .u16 a.age) := R2.cell 0
    have q1 : w2.cell? ⟨g, 1, none⟩ = some (.int .u8 a.opts) := R2.cell 1
    have q2 : w2.cell? ⟨g, 2, none⟩ = some (.int .u8 a.typ) := R2.cell 2
    have q3 : w2.cell? ⟨g, 3, none⟩ = some (.int .u32 a.id) := R2.cell 3
    have q4 : w2.cell? ⟨g, 4, none⟩ = some (.int .u32 a.adv) := R2.cell 4
    have q5 : w2.cell? ⟨g, 5, none⟩ = some (.int .i32 a.seq) := R2.cell 5
    have q6 : w2.cell? ⟨g, 6, none⟩ = some (.int .u16 a.sum) := R2.cell 6
    have q7 : w2.cell? ⟨g, 7, none⟩ = some (.int .u16 a.len) := R2.cell 7
    have q8 : w2.cell? ⟨g, 8, none⟩ = some (.bool false) := R2.cell 8
    have q9 : w2.cell? ⟨g, 9, none⟩ = some (.int .u16 b.age) := R2.cell 9
    have q10 : w2.cell? ⟨g, 10, none⟩ = some (.int .u8 b.opts) := R2.cell 10
    have q11 : w2.cell? ⟨g, 11, none⟩ = some (.int .u8 b.typ) := R2.cell 11
    have q12 : w2.cell? ⟨g, 12, none⟩ = some (.int .u32 b.id) := R2.cell 12
    have q13 : w2.cell? ⟨g, 13, none⟩ = some (.int .u32 b.adv) := R2.cell 13
    have q14 : w2.cell? ⟨g, 14, none⟩ = some (.int .i32 b.seq) := R2.cell 14
    have q15 : w2.cell? ⟨g, 15, none⟩ = some (.int .u16 b.sum) := R2.cell 15
    have q16 : w2.cell? ⟨g, 16, none⟩ = some (.int .u16 b.len) := R2.cell 16
    have q17 : w2.cell? ⟨g, 17, none⟩ = some (.int .u32 since) := R2.cell 17
    have q18 : w2.cell? ⟨g, 18, none⟩ = some (.int .u32 sent) := R2.cell 18
    have q19 : w2.cell? ⟨g, 19, none⟩ = some (.bool false) := R2.cell 19
    have q20 : w2.cell? ⟨g, 20, none⟩ = some (.bool asked) := R2.cell 20
    have q21 : w2.cell? ⟨g, 21, none⟩ = some (.bool mine) := R2.cell 21
    have hg := R2.lt
    clear R1 R2 T1 t2 HO
    cases r1 with
    | false =>
      have hz : Hid (z = _) := HJ.out.2 (fun h => by cases h.1)
      go_wp2_with fail
      go_ret
      exact ⟨ret_u8 hz.out.symm, TT⟩
    | true =>
      have hz : Hid (z = _) := HJ.out.1 (by simp)
      go_wp2_with fail
      go_ret
      exact ⟨ret_u8 hz.out.symm, TT⟩
set_option maxHeartbeats 8000000 in
theorem pjudge_yes (a b : HV) (ha : a.Ok) (hb : b.Ok) (busy asked mine : Bool) (since sent : Int) (w : World) : Calls Try.prog 8 #[.agg #[.int .u16 a.age, .int .u8 a.opts, .int .u8 a.typ, .int .u32 a.id, .int .u32 a.adv, .int .i32 a.seq, .int .u16 a.sum, .int .u16 a.len, .bool true, .int .u16 b.age, .int .u8 b.opts, .int .u8 b.typ, .int .u32 b.id, .int .u32 b.adv, .int .i32 b.seq, .int .u16 b.sum, .int .u16 b.len, .int .u32 since, .int .u32 sent, .bool busy, .bool asked, .bool mine]] w fun e w' => e = .returned (.int .u8 (judgeI a b true busy asked mine since sent)) ∧ Touch (fun _ => False) w w' := by
  obtain ⟨z, hz⟩ : ∃ z, judgeI a b true busy asked mine since sent = z := ⟨_, rfl⟩
  rw [hz]
  obtain ⟨r2, h2⟩ : ∃ r, b.old15 = r := ⟨_, rfl⟩
  obtain ⟨x, hx⟩ : ∃ x, a.new15 b = x := ⟨_, rfl⟩
  have HO2 := fun w => pold15 b hb r2 h2 w
  have HN := fun w => pnew15 a b ha hb x hx w
  have HJ : Hid ((0 < x → mine = false ∧ since < 1 → z = 0) ∧ (0 < x → ¬ (mine = false ∧ since < 1) → z = 2) ∧ (¬ 0 < x → asked = true → z = 3) ∧ (¬ 0 < x → ¬ asked = true → x = 0 → z = 4) ∧ (¬ 0 < x → ¬ asked = true → ¬ x = 0 → (r2 = true ∧ b.seq = 2147483647) ∨ sent < 1 → z = 0) ∧ (¬ 0 < x → ¬ asked = true → ¬ x = 0 → ¬ ((r2 = true ∧ b.seq = 2147483647) ∨ sent < 1) → z = 5)) := by
    rw [← hz, ← h2, ← hx]
    unfold judgeI
    rw [if_neg (fun g => by cases g.2.1)]
    refine ⟨fun h i => ?_, fun h i => ?_, fun h i => ?_, fun h i j => ?_, fun h i j k => ?_, fun h i j k => ?_⟩
    · rw [if_pos (Or.inr h), if_pos ⟨rfl, i⟩]
    · rw [if_pos (Or.inr h), if_neg (fun g => i g.2)]
    · rw [if_neg (fun g => g.elim (fun c => by cases c) h), if_pos i]
    · rw [if_neg (fun g => g.elim (fun c => by cases c) h), if_neg i, if_pos j]
    · rw [if_neg (fun g => g.elim (fun c => by cases c) h), if_neg i, if_neg j, if_pos k]
    · rw [if_neg (fun g => g.elim (fun c => by cases c) h), if_neg i, if_neg j, if_neg k]
  have T0 : Touch (fun _ => False) w (w.alloc (.cells #[.int .u16 a.age, .int .u8 a.opts, .int .u8 a.typ, .int .u32 a.id, .int .u32 a.adv, .int .i32 a.seq, .int .u16 a.sum, .int .u16 a.len, .bool true, .int .u16 b.age, .int .u8 b.opts, .int .u8 b.typ, .int .u32 b.id, .int .u32 b.adv, .int .i32 b.seq, .int .u16 b.sum, .int .u16 b.len, .int .u32 since, .int .u32 sent, .bool busy, .bool asked, .bool mine] 28)) := (Touch.refl _ _).alloc _
  have R0 : Row (w.alloc (.cells #[.int .u16 a.age, .int .u8 a.opts, .int .u8 a.typ, .int .u32 a.id, .int .u32 a.adv, .int .i32 a.seq, .int .u16 a.sum, .int .u16 a.len, .bool true, .int .u16 b.age, .int .u8 b.opts, .int .u8 b.typ, .int .u32 b.id, .int .u32 b.adv, .int .i32 b.seq, .int .u16 b.sum, .int .u16 b.len, .int .u32 since, .int .u32 sent, .bool busy, .bool asked, .bool mine] 28)) w.heap.size 28 [.int .u16 a.age, .int .u8 a.opts, .int .u8 a.typ, .int .u32 a.id, .int .u32 a.adv, .int .i32 a.seq, .int .u16 a.sum, .int .u16 a.len, .bool true, .int .u16 b.age, .int .u8 b.opts, .int .u8 b.typ, .int .u32 b.id, .int .u32 b.adv, .int .i32 b.seq, .int .u16 b.sum, .int .u16 b.len, .int .u32 since, .int .u32 sent, .bool busy, .bool asked, .bool mine] := row_new _ _ _
  obtain ⟨g, hgd⟩ : ∃ g, w.heap.size = g := ⟨_, rfl⟩
  rw [hgd] at R0
  clear hz h2 hx ha hb
  go_enter Try.func8, Try.ntmps8
  go_wp2_with fail
  clear hgd
  generalize (w.alloc (.cells #[.int .u16 a.age, .int .u8 a.opts, .int .u8 a.typ, .int .u32 a.id, .int .u32 a.adv, .int .i32 a.seq, .int .u16 a.sum, .int .u16 a.len, .bool true, .int .u16 b.age, .int .u8 b.opts, .int .u8 b.typ, .int .u32 b.id, .int .u32 b.adv, .int .i32 b.seq, .int .u16 b.sum, .int .u16 b.len, .int .u32 since, .int .u32 sent, .bool busy, .bool asked, .bool mine] 28)) = w0 at *
  refine Calls.mono (HN _) ?_
  rintro e w1 ⟨rfl, t1⟩
  have R1 := R0.keep t1
  have TT := T0.trans t1
  have q0 : w1.cell? ⟨g, 0, none⟩ = some (.int .u16 a.age) := R1.cell 0
  have q1 : w1.cell? ⟨g, 1, none⟩ = some (.int .u8 a.opts) := R1.cell 1
  have q2 : w1.cell? ⟨g, 2, none⟩ = some (.int .u8 a.typ) := R1.cell 2
  have q3 : w1.cell? ⟨g, 3, none⟩ = some (.int .u32 a.id) := R1.cell 3
  have q4 : w1.cell? ⟨g, 4, none⟩ = some (.int .u32 a.adv) := R1.cell 4
  have q5 : w1.cell? ⟨g, 5, none⟩ = some (.int .i32 a.seq) := R1.cell 5
  have q6 : w1.cell? ⟨g, 6, none⟩ = some (.int .u16 a.sum) := R1.cell 6
  have q7 : w1.cell? ⟨g, 7, none⟩ = some (.int .u16 a.len) := R1.cell 7
  have q8 : w1.cell? ⟨g, 8, none⟩ = some (.bool true) := R1.cell 8
  have q9 : w1.cell? ⟨g, 9, none⟩ = some (.int .u16 b.age) := R1.cell 9
  have q10 : w1.cell? ⟨g, 10, none⟩ = some (.int .u8 b.opts) := R1.cell 10
  have q11 : w1.cell? ⟨g, 11, none⟩ = some (.int .u8 b.typ) := R1.cell 11
  have q12 : w1.cell? ⟨g, 12, none⟩ = some (.int .u32 b.id) := R1.cell 12
  have q13 : w1.cell? ⟨g, 13, none⟩ = some (.int .u32 b.adv) := R1.cell 13
  have q14 : w1.cell? ⟨g, 14, none⟩ = some (.int .i32 b.seq) := R1.cell 14
  have q15 : w1.cell? ⟨g, 15, none⟩ = some (.int .u16 b.sum) := R1.cell 15
  have q16 : w1.cell? ⟨g, 16, none⟩ = some (.int .u16 b.len) := R1.cell 16
  have q17 : w1.cell? ⟨g, 17, none⟩ = some (.int .u32 since) := R1.cell 17
  have q18 : w1.cell? ⟨g, 18, none⟩ = some (.int .u32 sent) := R1.cell 18
  have q19 : w1.cell? ⟨g, 19, none⟩ = some (.bool busy) := R1.cell 19
  have q20 : w1.cell? ⟨g, 20, none⟩ = some (.bool asked) := R1.cell 20
  have q21 : w1.cell? ⟨g, 21, none⟩ = some (.bool mine) := R1.cell 21
  have hg := R1.lt
  clear R0 T0 t1 HN
  by_cases hx0 : 0 < x
  · clear HO2 R1
    cases mine with
    | true =>
      have hz : Hid (z = _) := HJ.out.2.1 hx0 (fun h => by cases h.1)
      go_wp2_with fail
      go_ret
      exact ⟨ret_u8 hz.out.symm, TT⟩
    | false =>
      by_cases hs : since < 1
      · have hz : Hid (z = _) := HJ.out.1 hx0 ⟨rfl, hs⟩
        go_wp2_with fail
        go_ret
        exact ⟨ret_u8 hz.out.symm, TT⟩
      · have hz : Hid (z = _) := HJ.out.2.1 hx0 (fun h => hs h.2)
        go_wp2_with fail
        go_ret
        exact ⟨ret_u8 hz.out.symm, TT⟩
  · cases asked with
    | true =>
      have hz : Hid (z = _) := HJ.out.2.2.1 (by omega) (by first | rfl | trivial)
      go_wp2_with fail
      go_ret
      exact ⟨ret_u8 hz.out.symm, TT⟩
    | false =>
      by_cases hxe : x = 0
      · subst hxe
        have hz : Hid (z = _) := HJ.out.2.2.2.1 (by omega) (by simp) (by simp)
        go_wp2_with fail
        go_ret
        exact ⟨ret_u8 hz.out.symm, TT⟩
      · have hxb : (x == 0) = false := by simpa using hxe
        go_wp2_with fail
        refine Calls.mono (HO2 _) ?_
        rintro e w4 ⟨rfl, t4⟩
        have R4 := R1.keep t4
        replace TT := TT.trans t4
        clear hg q0 q1 q2 q3 q4 q5 q6 q7 q8 q9 q10 q11 q12 q13 q14 q15 q16 q17 q18 q19 q20 q21
        have q0 : w4.cell? ⟨g, 0, none⟩ = some (.int .u16 a.age) := R4.cell 0
        have q1 : w4.cell? ⟨g, 1, none⟩ = some (.int .u8 a.opts) := R4.cell 1
        have q2 : w4.cell? ⟨g, 2, none⟩ = some (.int .u8 a.typ) := R4.cell 2
        have q3 : w4.cell? ⟨g, 3, none⟩ = some (.int .u32 a.id) := R4.cell 3
        have q4 : w4.cell? ⟨g, 4, none⟩ = some (.int .u32 a.adv) := R4.cell 4
        have q5 : w4.cell? ⟨g, 5, none⟩ = some (.int .i32 a.seq) := R4.cell 5
        have q6 : w4.cell? ⟨g, 6, none⟩ = some (.int .u16 a.sum) := R4.cell 6
        have q7 : w4.cell? ⟨g, 7, none⟩ = some (.int .u16 a.len) := R4.cell 7
        have q8 : w4.cell? ⟨g, 8, none⟩ = some (.bool true) := R4.cell 8
        have q9 : w4.cell? ⟨g, 9, none⟩ = some (.int .u16 b.age) := R4.cell 9
        have q10 : w4.cell? ⟨g, 10, none⟩ = some (.int .u8 b.opts) := R4.cell 10
        have q11 : w4.cell? ⟨g, 11, none⟩ = some (.int .u8 b.typ) := R4.cell 11
        have q12 : w4.cell? ⟨g, 12, none⟩ = some (.int .u32 b.id) := R4.cell 12
        have q13 : w4.cell? ⟨g, 13, none⟩ = some (.int .u32 b.adv) := R4.cell 13
        have q14 : w4.cell? ⟨g, 14, none⟩ = some (.int .i32 b.seq) := R4.cell 14
        have q15 : w4.cell? ⟨g, 15, none⟩ = some (.int .u16 b.sum) := R4.cell 15
        have q16 : w4.cell? ⟨g, 16, none⟩ = some (.int .u16 b.len) := R4.cell 16
        have q17 : w4.cell? ⟨g, 17, none⟩ = some (.int .u32 since) := R4.cell 17
        have q18 : w4.cell? ⟨g, 18, none⟩ = some (.int .u32 sent) := R4.cell 18
        have q19 : w4.cell? ⟨g, 19, none⟩ = some (.bool busy) := R4.cell 19
        have q20 : w4.cell? ⟨g, 20, none⟩ = some (.bool false) := R4.cell 20
        have q21 : w4.cell? ⟨g, 21, none⟩ = some (.bool mine) := R4.cell 21
        have hg := R4.lt
        clear R1 t4 HO2 R4
        by_cases hs : sent < 1
        · cases r2 with
          | false =>
            have hz : Hid (z = _) := HJ.out.2.2.2.2.1 hx0 (by simp) hxe (Or.inr hs)
            go_wp2_with fail
            go_ret
            exact ⟨ret_u8 hz.out.symm, TT⟩
          | true =>
            by_cases hq : b.seq = 2147483647
            · have hqb : (b.seq == 2147483647) = true := by simpa using hq
              have hz : Hid (z = _) := HJ.out.2.2.2.2.1 hx0 (by simp) hxe (Or.inr hs)
              go_wp2_with fail
              go_ret
              exact ⟨ret_u8 hz.out.symm, TT⟩
            · have hqb : (b.seq == 2147483647) = false := by simpa using hq
              have hz : Hid (z = _) := HJ.out.2.2.2.2.1 hx0 (by simp) hxe (Or.inr hs)
              go_wp2_with fail
              go_ret
              exact ⟨ret_u8 hz.out.symm, TT⟩
        · cases r2 with
          | false =>
            have hz : Hid (z = _) := HJ.out.2.2.2.2.2 hx0 (by simp) hxe (fun h => h.elim (fun c => by cases c.1) hs)
            go_wp2_with fail
            go_ret
            exact ⟨ret_u8 hz.out.symm, TT⟩
          | true =>
            by_cases hq : b.seq = 2147483647
            · have hqb : (b.seq == 2147483647) = true := by simpa using hq
              have hz : Hid (z = _) := HJ.out.2.2.2.2.1 hx0 (by simp) hxe (Or.inl ⟨rfl, hq⟩)
              go_wp2_with fail
              go_ret
              exact ⟨ret_u8 hz.out.symm, TT⟩
            · have hqb : (b.seq == 2147483647) = false := by simpa using hq
              have hz : Hid (z = _) := HJ.out.2.2.2.2.2 hx0 (by simp) hxe (fun h => h.elim (fun c => hq c.2) hs)
              go_wp2_with fail
              go_ret
              exact ⟨ret_u8 hz.out.symm, TT⟩
theorem pjudge15 (a b : HV) (ha : a.Ok) (hb : b.Ok) (has busy asked mine : Bool) (since sent : Int) (w : World) : Calls Try.prog 8 #[.agg #[.int .u16 a.age, .int .u8 a.opts, .int .u8 a.typ, .int .u32 a.id, .int .u32 a.adv, .int .i32 a.seq, .int .u16 a.sum, .int .u16 a.len, .bool has, .int .u16 b.age, .int .u8 b.opts, .int .u8 b.typ, .int .u32 b.id, .int .u32 b.adv, .int .i32 b.seq, .int .u16 b.sum, .int .u16 b.len, .int .u32 since, .int .u32 sent, .bool busy, .bool asked, .bool mine]] w fun e w' => e = .returned (.int .u8 (judgeI a b has busy asked mine since sent)) ∧ Touch (fun _ => False) w w' := by
  cases has
  · exact pjudge_no a b ha hb busy asked mine since sent w
  · exact pjudge_yes a b ha hb busy asked mine since sent w
end Go.Proofs.Ytedolfggbgmklaa
