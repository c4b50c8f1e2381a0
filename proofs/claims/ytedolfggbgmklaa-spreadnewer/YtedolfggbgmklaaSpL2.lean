
/- SpreadNewer: the walk. -/
import Derived.Test.YtedolfggbgmklaaSpC6
namespace Go.Proofs.Ytedolfggbgmklaa
open Go.RowKit
set_option linter.unusedVariables false
set_option maxRecDepth 100000

/-- What is said of an older one. -/
def deadI (a : HV) : Bool := a.old15 && (a.seq == 2147483647)
theorem jn_zero {a b : HV} (h : a.new15 b = 0) : judgeI a b true false false false 100 100 = 4 := by
  unfold judgeI
  rw [if_neg (fun g => by cases g.2.1), if_neg (fun g => g.elim (fun c => by cases c) (fun c => by omega)), if_neg (by simp), if_pos h]
theorem jn_pos {a b : HV} (h : a.new15 b = 1) : judgeI a b true false false false 100 100 = 2 := by
  unfold judgeI
  rw [if_neg (fun g => by cases g.2.1), if_pos (Or.inr (by omega)), if_neg (fun g => by omega)]
theorem jn_neg {a b : HV} (h : a.new15 b = -1) : judgeI a b true false false false 100 100 = if deadI b then 0 else 5 := by
  unfold judgeI
  rw [if_neg (fun g => by cases g.2.1), if_neg (fun g => g.elim (fun c => by cases c) (fun c => by omega)), if_neg (by simp), if_neg (by omega)]
  unfold deadI
  cases h1 : b.old15
  · rw [if_neg (by simp), if_neg (by simp)]
  · by_cases h2 : b.seq = 2147483647
    · rw [if_pos (Or.inl ⟨rfl, h2⟩), if_pos (by simp [h2])]
    · rw [if_neg (by simp [h2]), if_neg (by simp [h2])]
theorem new15_turn (a b : HV) : a.new15 b = - b.new15 a := newI_turn _ _ _ _ _ _
theorem ju_val (a b : HV) (ha : a.Ok) (hb : b.Ok) (z : Int) (hz : judgeI a b true false false false 100 100 = z) (w : World) : Calls Try.prog 8 #[.agg #[.int .u16 a.age, .int .u8 a.opts, .int .u8 a.typ, .int .u32 a.id, .int .u32 a.adv, .int .i32 a.seq, .int .u16 a.sum, .int .u16 a.len, .bool true, .int .u16 b.age, .int .u8 b.opts, .int .u8 b.typ, .int .u32 b.id, .int .u32 b.adv, .int .i32 b.seq, .int .u16 b.sum, .int .u16 b.len, .int .u32 100, .int .u32 100, .bool false, .bool false, .bool false]] w fun e w' => e = .returned (.int .u8 z) ∧ Touch (fun _ => False) w w' := by
  rw [← hz]
  exact pjudge15 a b ha hb true false false false 100 100 w
set_option maxHeartbeats 8000000 in
theorem snewer_all (a b0 : HV) (w : World) (ha : a.Ok ∧ a.OkS) (hb : b0.Ok ∧ b0.OkS) : Calls Try.prog 5 #[.agg #[.int .u16 a.age, .int .u8 a.opts, .int .u8 a.typ, .int .u32 a.id, .int .u32 a.adv, .int .i32 a.seq, .int .u16 a.sum, .int .u16 a.len], .agg #[.int .u16 b0.age, .int .u8 b0.opts, .int .u8 b0.typ, .int .u32 b0.id, .int .u32 b0.adv, .int .i32 b0.seq, .int .u16 b0.sum, .int .u16 b0.len]] w fun e w' => e = .returned (.bool true) ∧ Touch (fun _ => False) w w' := by
  obtain ⟨b, hbd⟩ : ∃ b : HV, b = ⟨b0.age, b0.opts, a.typ, a.id, a.adv, b0.seq, b0.sum, b0.len⟩ := ⟨_, rfl⟩
  have hb1 : b.Ok ∧ b.OkS := by rw [hbd]; exact ⟨⟨hb.1.a0, hb.1.a1, hb.1.s0, hb.1.s1⟩, hb.2⟩
  clear hb
  obtain ⟨n, hn⟩ : ∃ n, a.new15 b = n := ⟨_, rfl⟩
  obtain ⟨zx, hzx⟩ : ∃ z, judgeI a b true false false false 100 100 = z := ⟨_, rfl⟩
  obtain ⟨zy, hzy⟩ : ∃ z, judgeI b a true false false false 100 100 = z := ⟨_, rfl⟩
  have HX : Hid (∀ w', Calls Try.prog 8 #[.agg #[.int .u16 a.age, .int .u8 a.opts, .int .u8 a.typ, .int .u32 a.id, .int .u32 a.adv, .int .i32 a.seq, .int .u16 a.sum, .int .u16 a.len, .bool true, .int .u16 b0.age, .int .u8 b0.opts, .int .u8 a.typ, .int .u32 a.id, .int .u32 a.adv, .int .i32 b0.seq, .int .u16 b0.sum, .int .u16 b0.len, .int .u32 100, .int .u32 100, .bool false, .bool false, .bool false]] w' fun e w'' => e = .returned (.int .u8 zx) ∧ Touch (fun _ => False) w' w'') := fun w' => by have := ju_val a b ha.1 hb1.1 zx hzx w'; rw [hbd] at this; exact this
  have HY : Hid (∀ w', Calls Try.prog 8 #[.agg #[.int .u16 b0.age, .int .u8 b0.opts, .int .u8 a.typ, .int .u32 a.id, .int .u32 a.adv, .int .i32 b0.seq, .int .u16 b0.sum, .int .u16 b0.len, .bool true, .int .u16 a.age, .int .u8 a.opts, .int .u8 a.typ, .int .u32 a.id, .int .u32 a.adv, .int .i32 a.seq, .int .u16 a.sum, .int .u16 a.len, .int .u32 100, .int .u32 100, .bool false, .bool false, .bool false]] w' fun e w'' => e = .returned (.int .u8 zy) ∧ Touch (fun _ => False) w' w'') := fun w' => by have := ju_val b a hb1.1 ha.1 zy hzy w'; rw [hbd] at this; exact this
  have HN : Hid (∀ w', Calls Try.prog 18 #[.agg #[.int .u16 a.age, .int .u8 a.opts, .int .u8 a.typ, .int .u32 a.id, .int .u32 a.adv, .int .i32 a.seq, .int .u16 a.sum, .int .u16 a.len], .agg #[.int .u16 b0.age, .int .u8 b0.opts, .int .u8 a.typ, .int .u32 a.id, .int .u32 a.adv, .int .i32 b0.seq, .int .u16 b0.sum, .int .u16 b0.len]] w' fun e w'' => e = .returned (.int .i64 n) ∧ Touch (fun _ => False) w' w'') := fun w' => by have := rnew15 a b ha.1 hb1.1 ha.2 hb1.2 n hn w'; rw [hbd] at this; exact this
  obtain ⟨ra, hra⟩ : ∃ r, a.old15 = r := ⟨_, rfl⟩
  obtain ⟨rb, hrb⟩ : ∃ r, b.old15 = r := ⟨_, rfl⟩
  have HA : Hid (∀ w', Calls Try.prog 19 #[.agg #[.int .u16 a.age, .int .u8 a.opts, .int .u8 a.typ, .int .u32 a.id, .int .u32 a.adv, .int .i32 a.seq, .int .u16 a.sum, .int .u16 a.len]] w' fun e w'' => e = .returned (.bool ra) ∧ Touch (fun _ => False) w' w'') := fun w' => rold15 a ha.1 ra hra w'
  have HB : Hid (∀ w', Calls Try.prog 19 #[.agg #[.int .u16 b0.age, .int .u8 b0.opts, .int .u8 a.typ, .int .u32 a.id, .int .u32 a.adv, .int .i32 b0.seq, .int .u16 b0.sum, .int .u16 b0.len]] w' fun e w'' => e = .returned (.bool rb) ∧ Touch (fun _ => False) w' w'') := fun w' => by have := rold15 b hb1.1 rb hrb w'; rw [hbd] at this; exact this
  have KEY : Hid ((n = 0 ∧ zx = 4 ∧ zy = 4) ∨ (n = 1 ∧ zx = 2 ∧ zy = if (ra && (a.seq == 2147483647)) then 0 else 5) ∨ (n = -1 ∧ zy = 2 ∧ zx = if (rb && (b0.seq == 2147483647)) then 0 else 5)) := by
    have hbs : b0.seq = b.seq := by rw [hbd]
    rw [hbs]
    have tn := new15_turn a b
    rcases new15_tri a b with h | h | h
    · refine Or.inr (Or.inr ⟨by omega, ?_, ?_⟩)
      · rw [← hzy]; exact jn_pos (by omega)
      · rw [← hzx, jn_neg h]; unfold deadI; rw [hrb]
    · refine Or.inl ⟨by omega, ?_, ?_⟩
      · rw [← hzx]; exact jn_zero h
      · rw [← hzy]; exact jn_zero (by omega)
    · refine Or.inr (Or.inl ⟨by omega, ?_, ?_⟩)
      · rw [← hzx]; exact jn_pos h
      · rw [← hzy, jn_neg (by omega)]; unfold deadI; rw [hra]
  have T0 : Hid (Touch (fun _ => False) w ((w.alloc (.cells #[.int .u16 a.age, .int .u8 a.opts, .int .u8 a.typ, .int .u32 a.id, .int .u32 a.adv, .int .i32 a.seq, .int .u16 a.sum, .int .u16 a.len] 25)).alloc (.cells #[.int .u16 b0.age, .int .u8 b0.opts, .int .u8 a.typ, .int .u32 a.id, .int .u32 a.adv, .int .i32 b0.seq, .int .u16 b0.sum, .int .u16 b0.len] 25))) := ((Touch.refl _ _).alloc _).alloc _
  have RA : Hid (Row ((w.alloc (.cells #[.int .u16 a.age, .int .u8 a.opts, .int .u8 a.typ, .int .u32 a.id, .int .u32 a.adv, .int .i32 a.seq, .int .u16 a.sum, .int .u16 a.len] 25)).alloc (.cells #[.int .u16 b0.age, .int .u8 b0.opts, .int .u8 a.typ, .int .u32 a.id, .int .u32 a.adv, .int .i32 b0.seq, .int .u16 b0.sum, .int .u16 b0.len] 25)) w.heap.size 25 [.int .u16 a.age, .int .u8 a.opts, .int .u8 a.typ, .int .u32 a.id, .int .u32 a.adv, .int .i32 a.seq, .int .u16 a.sum, .int .u16 a.len]) := (row_new _ _ _).keep ((Touch.refl _ _).alloc _)
  have RB : Hid (Row ((w.alloc (.cells #[.int .u16 a.age, .int .u8 a.opts, .int .u8 a.typ, .int .u32 a.id, .int .u32 a.adv, .int .i32 a.seq, .int .u16 a.sum, .int .u16 a.len] 25)).alloc (.cells #[.int .u16 b0.age, .int .u8 b0.opts, .int .u8 a.typ, .int .u32 a.id, .int .u32 a.adv, .int .i32 b0.seq, .int .u16 b0.sum, .int .u16 b0.len] 25)) (w.heap.size + 1) 25 [.int .u16 b0.age, .int .u8 b0.opts, .int .u8 a.typ, .int .u32 a.id, .int .u32 a.adv, .int .i32 b0.seq, .int .u16 b0.sum, .int .u16 b0.len]) := by
    have := row_new (w.alloc (.cells #[.int .u16 a.age, .int .u8 a.opts, .int .u8 a.typ, .int .u32 a.id, .int .u32 a.adv, .int .i32 a.seq, .int .u16 a.sum, .int .u16 a.len] 25)) 25 #[.int .u16 b0.age, .int .u8 b0.opts, .int .u8 a.typ, .int .u32 a.id, .int .u32 a.adv, .int .i32 b0.seq, .int .u16 b0.sum, .int .u16 b0.len]
    show Row _ _ _ _
    simpa using this
  clear hn hzx hzy hra hrb ha hb1 hbd
  go_enter Try.func5, Try.ntmps5
  go_wp2_with fail
  generalize ((w.alloc (.cells #[.int .u16 a.age, .int .u8 a.opts, .int .u8 a.typ, .int .u32 a.id, .int .u32 a.adv, .int .i32 a.seq, .int .u16 a.sum, .int .u16 a.len] 25)).alloc (.cells #[.int .u16 b0.age, .int .u8 b0.opts, .int .u8 a.typ, .int .u32 a.id, .int .u32 a.adv, .int .i32 b0.seq, .int .u16 b0.sum, .int .u16 b0.len] 25)) = w0 at *
  obtain ⟨g, hg⟩ : ∃ g, w.heap.size = g := ⟨_, rfl⟩
  rw [hg] at RA RB ⊢
  obtain ⟨g', hg'⟩ : ∃ g', g + 1 = g' := ⟨_, rfl⟩
  rw [hg'] at RB ⊢
  have HG : Hid (w.heap.size = g ∧ g + 1 = g') := ⟨hg, hg'⟩
  clear hg hg'
  refine Calls.mono (HX.out _) ?_
  rintro e w1 ⟨rfl, t1⟩
  have RA1 : Hid (Row w1 g 25 [.int .u16 a.age, .int .u8 a.opts, .int .u8 a.typ, .int .u32 a.id, .int .u32 a.adv, .int .i32 a.seq, .int .u16 a.sum, .int .u16 a.len]) := RA.out.keep t1
  have RB1 : Hid (Row w1 g' 25 [.int .u16 b0.age, .int .u8 b0.opts, .int .u8 a.typ, .int .u32 a.id, .int .u32 a.adv, .int .i32 b0.seq, .int .u16 b0.sum, .int .u16 b0.len]) := RB.out.keep t1
  have T1 : Hid (Touch (fun _ => False) w w1) := T0.out.trans t1
  clear RA RB T0 t1 HX
  have q0 : w1.cell? ⟨g, 0, none⟩ = some (.int .u16 a.age) := RA1.out.cell 0
  have q1 : w1.cell? ⟨g, 1, none⟩ = some (.int .u8 a.opts) := RA1.out.cell 1
  have q2 : w1.cell? ⟨g, 2, none⟩ = some (.int .u8 a.typ) := RA1.out.cell 2
  have q3 : w1.cell? ⟨g, 3, none⟩ = some (.int .u32 a.id) := RA1.out.cell 3
  have q4 : w1.cell? ⟨g, 4, none⟩ = some (.int .u32 a.adv) := RA1.out.cell 4
  have q5 : w1.cell? ⟨g, 5, none⟩ = some (.int .i32 a.seq) := RA1.out.cell 5
  have q6 : w1.cell? ⟨g, 6, none⟩ = some (.int .u16 a.sum) := RA1.out.cell 6
  have q7 : w1.cell? ⟨g, 7, none⟩ = some (.int .u16 a.len) := RA1.out.cell 7
  have r0 : w1.cell? ⟨g', 0, none⟩ = some (.int .u16 b0.age) := RB1.out.cell 0
  have r1 : w1.cell? ⟨g', 1, none⟩ = some (.int .u8 b0.opts) := RB1.out.cell 1
  have r2 : w1.cell? ⟨g', 2, none⟩ = some (.int .u8 a.typ) := RB1.out.cell 2
  have r3 : w1.cell? ⟨g', 3, none⟩ = some (.int .u32 a.id) := RB1.out.cell 3
  have r4 : w1.cell? ⟨g', 4, none⟩ = some (.int .u32 a.adv) := RB1.out.cell 4
  have r5 : w1.cell? ⟨g', 5, none⟩ = some (.int .i32 b0.seq) := RB1.out.cell 5
  have r6 : w1.cell? ⟨g', 6, none⟩ = some (.int .u16 b0.sum) := RB1.out.cell 6
  have r7 : w1.cell? ⟨g', 7, none⟩ = some (.int .u16 b0.len) := RB1.out.cell 7
  have hlq := RA1.out.lt
  have hlr := RB1.out.lt
  go_wp2_with fail
  refine Calls.mono (HY.out _) ?_
  rintro e w2 ⟨rfl, t2⟩
  have RA2 : Hid (Row w2 g 25 [.int .u16 a.age, .int .u8 a.opts, .int .u8 a.typ, .int .u32 a.id, .int .u32 a.adv, .int .i32 a.seq, .int .u16 a.sum, .int .u16 a.len]) := RA1.out.keep t2
  have RB2 : Hid (Row w2 g' 25 [.int .u16 b0.age, .int .u8 b0.opts, .int .u8 a.typ, .int .u32 a.id, .int .u32 a.adv, .int .i32 b0.seq, .int .u16 b0.sum, .int .u16 b0.len]) := RB1.out.keep t2
  have T2 : Hid (Touch (fun _ => False) w w2) := T1.out.trans t2
  clear RA1 RB1 T1 t2 HY q0 r0 q1 r1 q2 r2 q3 r3 q4 r4 q5 r5 q6 r6 q7 r7 hlq hlr
  have q0 : w2.cell? ⟨g, 0, none⟩ = some (.int .u16 a.age) := RA2.out.cell 0
  have q1 : w2.cell? ⟨g, 1, none⟩ = some (.int .u8 a.opts) := RA2.out.cell 1
  have q2 : w2.cell? ⟨g, 2, none⟩ = some (.int .u8 a.typ) := RA2.out.cell 2
  have q3 : w2.cell? ⟨g, 3, none⟩ = some (.int .u32 a.id) := RA2.out.cell 3
  have q4 : w2.cell? ⟨g, 4, none⟩ = some (.int .u32 a.adv) := RA2.out.cell 4
  have q5 : w2.cell? ⟨g, 5, none⟩ = some (.int .i32 a.seq) := RA2.out.cell 5
  have q6 : w2.cell? ⟨g, 6, none⟩ = some (.int .u16 a.sum) := RA2.out.cell 6
  have q7 : w2.cell? ⟨g, 7, none⟩ = some (.int .u16 a.len) := RA2.out.cell 7
  have r0 : w2.cell? ⟨g', 0, none⟩ = some (.int .u16 b0.age) := RB2.out.cell 0
  have r1 : w2.cell? ⟨g', 1, none⟩ = some (.int .u8 b0.opts) := RB2.out.cell 1
  have r2 : w2.cell? ⟨g', 2, none⟩ = some (.int .u8 a.typ) := RB2.out.cell 2
  have r3 : w2.cell? ⟨g', 3, none⟩ = some (.int .u32 a.id) := RB2.out.cell 3
  have r4 : w2.cell? ⟨g', 4, none⟩ = some (.int .u32 a.adv) := RB2.out.cell 4
  have r5 : w2.cell? ⟨g', 5, none⟩ = some (.int .i32 b0.seq) := RB2.out.cell 5
  have r6 : w2.cell? ⟨g', 6, none⟩ = some (.int .u16 b0.sum) := RB2.out.cell 6
  have r7 : w2.cell? ⟨g', 7, none⟩ = some (.int .u16 b0.len) := RB2.out.cell 7
  have hlq := RA2.out.lt
  have hlr := RB2.out.lt
  go_wp2_with fail
  refine Calls.mono (HN.out _) ?_
  rintro e w3 ⟨rfl, t3⟩
  have RA3 : Hid (Row w3 g 25 [.int .u16 a.age, .int .u8 a.opts, .int .u8 a.typ, .int .u32 a.id, .int .u32 a.adv, .int .i32 a.seq, .int .u16 a.sum, .int .u16 a.len]) := RA2.out.keep t3
  have RB3 : Hid (Row w3 g' 25 [.int .u16 b0.age, .int .u8 b0.opts, .int .u8 a.typ, .int .u32 a.id, .int .u32 a.adv, .int .i32 b0.seq, .int .u16 b0.sum, .int .u16 b0.len]) := RB2.out.keep t3
  have T3 : Hid (Touch (fun _ => False) w w3) := T2.out.trans t3
  clear RA2 RB2 T2 t3 HN q0 r0 q1 r1 q2 r2 q3 r3 q4 r4 q5 r5 q6 r6 q7 r7 hlq hlr
  rcases KEY.out with ⟨rfl, rfl, rfl⟩ | ⟨rfl, rfl, hzy⟩ | ⟨rfl, rfl, hzx⟩
  · clear KEY HA HB RA3 RB3
    go_wp2_with fail
    refine Calls.mono (works15 _) ?_
    rintro e w4 ⟨rfl, t4⟩
    have TT := T3.out.trans t4
    clear t4
    go_wp2_with fail
    go_ret
    exact ⟨rfl, TT⟩
  · clear KEY HB
    have q0 : w3.cell? ⟨g, 0, none⟩ = some (.int .u16 a.age) := RA3.out.cell 0
    have q1 : w3.cell? ⟨g, 1, none⟩ = some (.int .u8 a.opts) := RA3.out.cell 1
    have q2 : w3.cell? ⟨g, 2, none⟩ = some (.int .u8 a.typ) := RA3.out.cell 2
    have q3 : w3.cell? ⟨g, 3, none⟩ = some (.int .u32 a.id) := RA3.out.cell 3
    have q4 : w3.cell? ⟨g, 4, none⟩ = some (.int .u32 a.adv) := RA3.out.cell 4
    have q5 : w3.cell? ⟨g, 5, none⟩ = some (.int .i32 a.seq) := RA3.out.cell 5
    have q6 : w3.cell? ⟨g, 6, none⟩ = some (.int .u16 a.sum) := RA3.out.cell 6
    have q7 : w3.cell? ⟨g, 7, none⟩ = some (.int .u16 a.len) := RA3.out.cell 7
    have r0 : w3.cell? ⟨g', 0, none⟩ = some (.int .u16 b0.age) := RB3.out.cell 0
    have r1 : w3.cell? ⟨g', 1, none⟩ = some (.int .u8 b0.opts) := RB3.out.cell 1
    have r2 : w3.cell? ⟨g', 2, none⟩ = some (.int .u8 a.typ) := RB3.out.cell 2
    have r3 : w3.cell? ⟨g', 3, none⟩ = some (.int .u32 a.id) := RB3.out.cell 3
    have r4 : w3.cell? ⟨g', 4, none⟩ = some (.int .u32 a.adv) := RB3.out.cell 4
    have r5 : w3.cell? ⟨g', 5, none⟩ = some (.int .i32 b0.seq) := RB3.out.cell 5
    have r6 : w3.cell? ⟨g', 6, none⟩ = some (.int .u16 b0.sum) := RB3.out.cell 6
    have r7 : w3.cell? ⟨g', 7, none⟩ = some (.int .u16 b0.len) := RB3.out.cell 7
    have hlq := RA3.out.lt
    have hlr := RB3.out.lt
    cases ra with
    | false =>
      have hzz : zy = 5 := by rw [hzy]; rfl
      clear hzy
      subst hzz
      go_wp2_with fail
      refine Calls.mono (HA.out _) ?_
      rintro e w4 ⟨rfl, t4⟩
      have T4 : Hid (Touch (fun _ => False) w w4) := T3.out.trans t4
      clear t4 HA q0 r0 q1 r1 q2 r2 q3 r3 q4 r4 q5 r5 q6 r6 q7 r7 hlq hlr
      go_wp2_with fail
      refine Calls.mono (works15 _) ?_
      rintro e w5 ⟨rfl, t5⟩
      have TT := T4.out.trans t5
      clear t5
      go_wp2_with fail
      go_ret
      exact ⟨rfl, TT⟩
    | true =>
      by_cases hq : a.seq = 2147483647
      · have hqb : (a.seq == 2147483647) = true := by simpa using hq
        have hzz : zy = 0 := by rw [hzy, hqb]; rfl
        clear hzy
        subst hzz
        clear hq
        go_wp2_with fail
        refine Calls.mono (HA.out _) ?_
        rintro e w4 ⟨rfl, t4⟩
        have p5 : w4.cell? ⟨g, 5, none⟩ = some (.int .i32 a.seq) := t4.cellN q5
        have T4 : Hid (Touch (fun _ => False) w w4) := T3.out.trans t4
        have hl4 := lt_of_cell p5
        clear t4 HA q0 r0 q1 r1 q2 r2 q3 r3 q4 r4 q5 r5 q6 r6 q7 r7 hlq hlr
        go_wp2_with fail
        refine Calls.mono (works15 _) ?_
        rintro e w5 ⟨rfl, t5⟩
        have TT := T4.out.trans t5
        clear t5
        go_wp2_with fail
        go_ret
        exact ⟨rfl, TT⟩
      · have hqb : (a.seq == 2147483647) = false := by simpa using hq
        have hzz : zy = 5 := by rw [hzy, hqb]; rfl
        clear hzy
        subst hzz
        clear hq
        go_wp2_with fail
        refine Calls.mono (HA.out _) ?_
        rintro e w4 ⟨rfl, t4⟩
        have p5 : w4.cell? ⟨g, 5, none⟩ = some (.int .i32 a.seq) := t4.cellN q5
        have T4 : Hid (Touch (fun _ => False) w w4) := T3.out.trans t4
        have hl4 := lt_of_cell p5
        clear t4 HA q0 r0 q1 r1 q2 r2 q3 r3 q4 r4 q5 r5 q6 r6 q7 r7 hlq hlr
        go_wp2_with fail
        refine Calls.mono (works15 _) ?_
        rintro e w5 ⟨rfl, t5⟩
        have TT := T4.out.trans t5
        clear t5
        go_wp2_with fail
        go_ret
        exact ⟨rfl, TT⟩
  · have HZX : Hid (zx = if (rb && (b0.seq == 2147483647)) then 0 else 5) := hzx
    clear KEY HA hzx
    have q0 : w3.cell? ⟨g, 0, none⟩ = some (.int .u16 a.age) := RA3.out.cell 0
    have q1 : w3.cell? ⟨g, 1, none⟩ = some (.int .u8 a.opts) := RA3.out.cell 1
    have q2 : w3.cell? ⟨g, 2, none⟩ = some (.int .u8 a.typ) := RA3.out.cell 2
    have q3 : w3.cell? ⟨g, 3, none⟩ = some (.int .u32 a.id) := RA3.out.cell 3
    have q4 : w3.cell? ⟨g, 4, none⟩ = some (.int .u32 a.adv) := RA3.out.cell 4
    have q5 : w3.cell? ⟨g, 5, none⟩ = some (.int .i32 a.seq) := RA3.out.cell 5
    have q6 : w3.cell? ⟨g, 6, none⟩ = some (.int .u16 a.sum) := RA3.out.cell 6
    have q7 : w3.cell? ⟨g, 7, none⟩ = some (.int .u16 a.len) := RA3.out.cell 7
    have r0 : w3.cell? ⟨g', 0, none⟩ = some (.int .u16 b0.age) := RB3.out.cell 0
    have r1 : w3.cell? ⟨g', 1, none⟩ = some (.int .u8 b0.opts) := RB3.out.cell 1
    have r2 : w3.cell? ⟨g', 2, none⟩ = some (.int .u8 a.typ) := RB3.out.cell 2
    have r3 : w3.cell? ⟨g', 3, none⟩ = some (.int .u32 a.id) := RB3.out.cell 3
    have r4 : w3.cell? ⟨g', 4, none⟩ = some (.int .u32 a.adv) := RB3.out.cell 4
    have r5 : w3.cell? ⟨g', 5, none⟩ = some (.int .i32 b0.seq) := RB3.out.cell 5
    have r6 : w3.cell? ⟨g', 6, none⟩ = some (.int .u16 b0.sum) := RB3.out.cell 6
    have r7 : w3.cell? ⟨g', 7, none⟩ = some (.int .u16 b0.len) := RB3.out.cell 7
    have hlq := RA3.out.lt
    have hlr := RB3.out.lt
    have NF := RA3.out.frozen
    have NG := RB3.out.frozen
    obtain ⟨wz, hwz⟩ : ∃ wz, wz = ((((((((((((((((w3.setCell ⟨g, 0, none⟩ (.int .u16 b0.age)).setCell ⟨g, 1, none⟩ (.int .u8 b0.opts)).setCell ⟨g, 2, none⟩ (.int .u8 a.typ)).setCell ⟨g, 3, none⟩ (.int .u32 a.id)).setCell ⟨g, 4, none⟩ (.int .u32 a.adv)).setCell ⟨g, 5, none⟩ (.int .i32 b0.seq)).setCell ⟨g, 6, none⟩ (.int .u16 b0.sum)).setCell ⟨g, 7, none⟩ (.int .u16 b0.len)).setCell ⟨g', 0, none⟩ (.int .u16 a.age)).setCell ⟨g', 1, none⟩ (.int .u8 a.opts)).setCell ⟨g', 2, none⟩ (.int .u8 a.typ)).setCell ⟨g', 3, none⟩ (.int .u32 a.id)).setCell ⟨g', 4, none⟩ (.int .u32 a.adv)).setCell ⟨g', 5, none⟩ (.int .i32 a.seq)).setCell ⟨g', 6, none⟩ (.int .u16 a.sum)).setCell ⟨g', 7, none⟩ (.int .u16 a.len)) := ⟨_, rfl⟩
    have hgg : g ≠ g' := by have := HG.out; omega
    have RZ : Hid (Row wz g 25 [.int .u16 b0.age, .int .u8 b0.opts, .int .u8 a.typ, .int .u32 a.id, .int .u32 a.adv, .int .i32 b0.seq, .int .u16 b0.sum, .int .u16 b0.len]) := by
      show Row _ _ _ _
      rw [hwz]
      have r := RA3.out
      replace r := r.set 0 (.int .u16 b0.age)
      replace r := r.set 1 (.int .u8 b0.opts)
      replace r := r.set 2 (.int .u8 a.typ)
      replace r := r.set 3 (.int .u32 a.id)
      replace r := r.set 4 (.int .u32 a.adv)
      replace r := r.set 5 (.int .i32 b0.seq)
      replace r := r.set 6 (.int .u16 b0.sum)
      replace r := r.set 7 (.int .u16 b0.len)
      replace r := r.other (p := ⟨g', 0, none⟩) hgg (.int .u16 a.age)
      replace r := r.other (p := ⟨g', 1, none⟩) hgg (.int .u8 a.opts)
      replace r := r.other (p := ⟨g', 2, none⟩) hgg (.int .u8 a.typ)
      replace r := r.other (p := ⟨g', 3, none⟩) hgg (.int .u32 a.id)
      replace r := r.other (p := ⟨g', 4, none⟩) hgg (.int .u32 a.adv)
      replace r := r.other (p := ⟨g', 5, none⟩) hgg (.int .i32 a.seq)
      replace r := r.other (p := ⟨g', 6, none⟩) hgg (.int .u16 a.sum)
      replace r := r.other (p := ⟨g', 7, none⟩) hgg (.int .u16 a.len)
      exact r
    have TZ : Hid (Touch (fun k => k = g ∨ k = g') w3 wz) := by
      show Touch _ _ _
      rw [hwz]
      refine Touch.setCell (F := fun k => k = g ∨ k = g') (p := ⟨g', 7, none⟩) ?_ (Or.inl (Or.inr rfl)) _
      refine Touch.setCell (F := fun k => k = g ∨ k = g') (p := ⟨g', 6, none⟩) ?_ (Or.inl (Or.inr rfl)) _
      refine Touch.setCell (F := fun k => k = g ∨ k = g') (p := ⟨g', 5, none⟩) ?_ (Or.inl (Or.inr rfl)) _
      refine Touch.setCell (F := fun k => k = g ∨ k = g') (p := ⟨g', 4, none⟩) ?_ (Or.inl (Or.inr rfl)) _
      refine Touch.setCell (F := fun k => k = g ∨ k = g') (p := ⟨g', 3, none⟩) ?_ (Or.inl (Or.inr rfl)) _
      refine Touch.setCell (F := fun k => k = g ∨ k = g') (p := ⟨g', 2, none⟩) ?_ (Or.inl (Or.inr rfl)) _
      refine Touch.setCell (F := fun k => k = g ∨ k = g') (p := ⟨g', 1, none⟩) ?_ (Or.inl (Or.inr rfl)) _
      refine Touch.setCell (F := fun k => k = g ∨ k = g') (p := ⟨g', 0, none⟩) ?_ (Or.inl (Or.inr rfl)) _
      refine Touch.setCell (F := fun k => k = g ∨ k = g') (p := ⟨g, 7, none⟩) ?_ (Or.inl (Or.inl rfl)) _
      refine Touch.setCell (F := fun k => k = g ∨ k = g') (p := ⟨g, 6, none⟩) ?_ (Or.inl (Or.inl rfl)) _
      refine Touch.setCell (F := fun k => k = g ∨ k = g') (p := ⟨g, 5, none⟩) ?_ (Or.inl (Or.inl rfl)) _
      refine Touch.setCell (F := fun k => k = g ∨ k = g') (p := ⟨g, 4, none⟩) ?_ (Or.inl (Or.inl rfl)) _
      refine Touch.setCell (F := fun k => k = g ∨ k = g') (p := ⟨g, 3, none⟩) ?_ (Or.inl (Or.inl rfl)) _
      refine Touch.setCell (F := fun k => k = g ∨ k = g') (p := ⟨g, 2, none⟩) ?_ (Or.inl (Or.inl rfl)) _
      refine Touch.setCell (F := fun k => k = g ∨ k = g') (p := ⟨g, 1, none⟩) ?_ (Or.inl (Or.inl rfl)) _
      refine Touch.setCell (F := fun k => k = g ∨ k = g') (p := ⟨g, 0, none⟩) ?_ (Or.inl (Or.inl rfl)) _
      exact Touch.refl _ _
    have HWZ : Hid (wz = ((((((((((((((((w3.setCell ⟨g, 0, none⟩ (.int .u16 b0.age)).setCell ⟨g, 1, none⟩ (.int .u8 b0.opts)).setCell ⟨g, 2, none⟩ (.int .u8 a.typ)).setCell ⟨g, 3, none⟩ (.int .u32 a.id)).setCell ⟨g, 4, none⟩ (.int .u32 a.adv)).setCell ⟨g, 5, none⟩ (.int .i32 b0.seq)).setCell ⟨g, 6, none⟩ (.int .u16 b0.sum)).setCell ⟨g, 7, none⟩ (.int .u16 b0.len)).setCell ⟨g', 0, none⟩ (.int .u16 a.age)).setCell ⟨g', 1, none⟩ (.int .u8 a.opts)).setCell ⟨g', 2, none⟩ (.int .u8 a.typ)).setCell ⟨g', 3, none⟩ (.int .u32 a.id)).setCell ⟨g', 4, none⟩ (.int .u32 a.adv)).setCell ⟨g', 5, none⟩ (.int .i32 a.seq)).setCell ⟨g', 6, none⟩ (.int .u16 a.sum)).setCell ⟨g', 7, none⟩ (.int .u16 a.len))) := hwz
    clear hwz
    go_upto_region 12 with fail
    rw [← HWZ.out]
    clear HWZ NF NG q0 r0 q1 r1 q2 r2 q3 r3 q4 r4 q5 r5 q6 r6 q7 r7 hlq hlr
    have TW : Hid (Touch (fun _ => False) w wz) := T3.out.trans' TZ.out (fun k hk q => by have := HG.out; omega)
    clear TZ RA3 RB3 T3
    have z0 : wz.cell? ⟨g, 0, none⟩ = some (.int .u16 b0.age) := RZ.out.cell 0
    have z1 : wz.cell? ⟨g, 1, none⟩ = some (.int .u8 b0.opts) := RZ.out.cell 1
    have z2 : wz.cell? ⟨g, 2, none⟩ = some (.int .u8 a.typ) := RZ.out.cell 2
    have z3 : wz.cell? ⟨g, 3, none⟩ = some (.int .u32 a.id) := RZ.out.cell 3
    have z4 : wz.cell? ⟨g, 4, none⟩ = some (.int .u32 a.adv) := RZ.out.cell 4
    have z5 : wz.cell? ⟨g, 5, none⟩ = some (.int .i32 b0.seq) := RZ.out.cell 5
    have z6 : wz.cell? ⟨g, 6, none⟩ = some (.int .u16 b0.sum) := RZ.out.cell 6
    have z7 : wz.cell? ⟨g, 7, none⟩ = some (.int .u16 b0.len) := RZ.out.cell 7
    have hlz := RZ.out.lt
    have hzx := HZX.out
    clear HZX
    cases rb with
    | false =>
      have hzz : zx = 5 := by rw [hzx]; rfl
      clear hzx
      subst hzz
      go_wp2_with fail
      refine Calls.mono (HB.out _) ?_
      rintro e w4 ⟨rfl, t4⟩
      have T4 : Hid (Touch (fun _ => False) w w4) := TW.out.trans t4
      clear t4 HB z0 z1 z2 z3 z4 z5 z6 z7 hlz
      go_wp2_with fail
      refine Calls.mono (works15 _) ?_
      rintro e w5 ⟨rfl, t5⟩
      have TT := T4.out.trans t5
      clear t5
      go_wp2_with fail
      go_ret
      exact ⟨rfl, TT⟩
    | true =>
      by_cases hq : b0.seq = 2147483647
      · have hqb : (b0.seq == 2147483647) = true := by simpa using hq
        have hzz : zx = 0 := by rw [hzx, hqb]; rfl
        clear hzx
        subst hzz
        clear hq
        go_wp2_with fail
        refine Calls.mono (HB.out _) ?_
        rintro e w4 ⟨rfl, t4⟩
        have p5 : w4.cell? ⟨g, 5, none⟩ = some (.int .i32 b0.seq) := t4.cellN z5
        have T4 : Hid (Touch (fun _ => False) w w4) := TW.out.trans t4
        have hl4 := lt_of_cell p5
        clear t4 HB z0 z1 z2 z3 z4 z5 z6 z7 hlz
        go_wp2_with fail
        refine Calls.mono (works15 _) ?_
        rintro e w5 ⟨rfl, t5⟩
        have TT := T4.out.trans t5
        clear t5
        go_wp2_with fail
        go_ret
        exact ⟨rfl, TT⟩
      · have hqb : (b0.seq == 2147483647) = false := by simpa using hq
        have hzz : zx = 5 := by rw [hzx, hqb]; rfl
        clear hzx
        subst hzz
        clear hq
        go_wp2_with fail
        refine Calls.mono (HB.out _) ?_
        rintro e w4 ⟨rfl, t4⟩
        have p5 : w4.cell? ⟨g, 5, none⟩ = some (.int .i32 b0.seq) := t4.cellN z5
        have T4 : Hid (Touch (fun _ => False) w w4) := TW.out.trans t4
        have hl4 := lt_of_cell p5
        clear t4 HB z0 z1 z2 z3 z4 z5 z6 z7 hlz
        go_wp2_with fail
        refine Calls.mono (works15 _) ?_
        rintro e w5 ⟨rfl, t5⟩
        have TT := T4.out.trans t5
        clear t5
        go_wp2_with fail
        go_ret
        exact ⟨rfl, TT⟩
end Go.Proofs.Ytedolfggbgmklaa
