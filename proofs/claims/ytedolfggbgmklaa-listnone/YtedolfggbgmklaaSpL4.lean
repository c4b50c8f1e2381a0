
/- ListNone: the walk. -/
import Derived.Test.YtedolfggbgmklaaSpNil
import Derived.Test.YtedolfggbgmklaaSpC6
namespace Go.Proofs.Ytedolfggbgmklaa
open Go.RowKit
set_option linter.unusedVariables false
set_option maxRecDepth 100000

set_option maxHeartbeats 8000000 in
theorem lnone_any (x : HV) (u : Value) (w : World) : Calls Try.prog 7 #[.agg #[.int .u16 x.age, .int .u8 x.opts, .int .u8 x.typ, .int .u32 x.id, .int .u32 x.adv, .int .i32 x.seq, .int .u16 x.sum, .int .u16 x.len, u]] w fun e w' => e = .returned (.bool true) ∧ Touch (fun _ => False) w w' := by
  obtain ⟨w0, hw0⟩ : ∃ w0, w0 = (w.alloc (.cells #[.int .u16 x.age, .int .u8 x.opts, .int .u8 x.typ, .int .u32 x.id, .int .u32 x.adv, .int .i32 x.seq, .int .u16 x.sum, .int .u16 x.len, u] 53)).alloc (.cells #[.int .u16 0, .int .u16 0, .map none, .pointer none] 64) := ⟨_, rfl⟩
  have t0 : Touch (fun _ => False) w w0 := by rw [hw0]; exact ((Touch.refl _ _).alloc _).alloc _
  have rh : Row w0 w.heap.size 53 [.int .u16 x.age, .int .u8 x.opts, .int .u8 x.typ, .int .u32 x.id, .int .u32 x.adv, .int .i32 x.seq, .int .u16 x.sum, .int .u16 x.len, u] := by rw [hw0]; exact (row_new w 53 #[.int .u16 x.age, .int .u8 x.opts, .int .u8 x.typ, .int .u32 x.id, .int .u32 x.adv, .int .i32 x.seq, .int .u16 x.sum, .int .u16 x.len, u]).keep ((Touch.refl _ _).alloc _)
  have ra : Row w0 (w.heap.size + 1) 64 [.int .u16 0, .int .u16 0, .map none, .pointer none] := by
    have := row_new (w.alloc (.cells #[.int .u16 x.age, .int .u8 x.opts, .int .u8 x.typ, .int .u32 x.id, .int .u32 x.adv, .int .i32 x.seq, .int .u16 x.sum, .int .u16 x.len, u] 53)) 64 #[.int .u16 0, .int .u16 0, .map none, .pointer none]
    rw [← hw0] at this
    simpa using this
  have hno : ∀ w', Touch (fun _ => False) w0 w' → NoLi (.pointer (some ⟨w.heap.size + 1, 0, none⟩)) w' := fun w' t => Or.inr ⟨_, rfl, t.cellN (ra.cell 0)⟩
  have hnil : ∀ w', NoLi (.pointer none) w' := fun w' => Or.inl rfl
  have HH : Hid (∀ w', Touch (fun _ => False) w0 w' → Row w' w.heap.size 53 [.int .u16 x.age, .int .u8 x.opts, .int .u8 x.typ, .int .u32 x.id, .int .u32 x.adv, .int .i32 x.seq, .int .u16 x.sum, .int .u16 x.len, u]) := fun w' t => rh.keep t
  have HNO : Hid (∀ w', Touch (fun _ => False) w0 w' → NoLi (.pointer (some ⟨w.heap.size + 1, 0, none⟩)) w') := hno
  have HT0 : Hid (Touch (fun _ => False) w w0) := t0
  clear rh ra hno t0
  go_enter Try.func7, Try.ntmps7
  go_upto_region 3 with fail
  rw [← hw0]
  clear hw0
  generalize w.heap.size + 1 = g1 at *
  generalize w.heap.size = g0 at *
  have T0 : Touch (fun _ => False) w0 w0 := Touch.refl _ _
  have q0 : w0.cell? ⟨g0, 0, none⟩ = some (.int .u16 x.age) := (HH.out _ T0).cell 0
  have q1 : w0.cell? ⟨g0, 1, none⟩ = some (.int .u8 x.opts) := (HH.out _ T0).cell 1
  have q2 : w0.cell? ⟨g0, 2, none⟩ = some (.int .u8 x.typ) := (HH.out _ T0).cell 2
  have q3 : w0.cell? ⟨g0, 3, none⟩ = some (.int .u32 x.id) := (HH.out _ T0).cell 3
  have q4 : w0.cell? ⟨g0, 4, none⟩ = some (.int .u32 x.adv) := (HH.out _ T0).cell 4
  have q5 : w0.cell? ⟨g0, 5, none⟩ = some (.int .i32 x.seq) := (HH.out _ T0).cell 5
  have q6 : w0.cell? ⟨g0, 6, none⟩ = some (.int .u16 x.sum) := (HH.out _ T0).cell 6
  have q7 : w0.cell? ⟨g0, 7, none⟩ = some (.int .u16 x.len) := (HH.out _ T0).cell 7
  have q8 : w0.cell? ⟨g0, 8, none⟩ = some (u) := (HH.out _ T0).cell 8
  have hq := (HH.out _ T0).lt
  go_wp2_with fail
  refine Calls.mono (ladd_no _ (.int .u16 x.age) (.int .u8 x.opts) (.int .u8 x.typ) (.int .u32 x.id) (.int .u32 x.adv) (.int .i32 x.seq) (.int .u16 x.sum) (.int .u16 x.len) u w0 (hnil _)) ?_
  rintro e w1 ⟨rfl, t1⟩
  have T1 : Touch (fun _ => False) w0 w1 := T0.trans t1
  clear t1
  clear q0 q1 q2 q3 q4 q5 q6 q7 q8 hq
  have q0 : w1.cell? ⟨g0, 0, none⟩ = some (.int .u16 x.age) := (HH.out _ T1).cell 0
  have q1 : w1.cell? ⟨g0, 1, none⟩ = some (.int .u8 x.opts) := (HH.out _ T1).cell 1
  have q2 : w1.cell? ⟨g0, 2, none⟩ = some (.int .u8 x.typ) := (HH.out _ T1).cell 2
  have q3 : w1.cell? ⟨g0, 3, none⟩ = some (.int .u32 x.id) := (HH.out _ T1).cell 3
  have q4 : w1.cell? ⟨g0, 4, none⟩ = some (.int .u32 x.adv) := (HH.out _ T1).cell 4
  have q5 : w1.cell? ⟨g0, 5, none⟩ = some (.int .i32 x.seq) := (HH.out _ T1).cell 5
  have q6 : w1.cell? ⟨g0, 6, none⟩ = some (.int .u16 x.sum) := (HH.out _ T1).cell 6
  have q7 : w1.cell? ⟨g0, 7, none⟩ = some (.int .u16 x.len) := (HH.out _ T1).cell 7
  have q8 : w1.cell? ⟨g0, 8, none⟩ = some (u) := (HH.out _ T1).cell 8
  have hq := (HH.out _ T1).lt
  go_wp2_with fail
  refine Calls.mono (ladd_no _ (.int .u16 x.age) (.int .u8 x.opts) (.int .u8 x.typ) (.int .u32 x.id) (.int .u32 x.adv) (.int .i32 x.seq) (.int .u16 x.sum) (.int .u16 x.len) u w1 (HNO.out _ T1)) ?_
  rintro e w2 ⟨rfl, t2⟩
  have T2 : Touch (fun _ => False) w0 w2 := T1.trans t2
  clear t2
  clear q0 q1 q2 q3 q4 q5 q6 q7 q8 hq
  go_wp2_with fail
  refine Calls.mono (lclear_no _ w2 (hnil _)) ?_
  rintro e w3 ⟨rfl, t3⟩
  have T3 : Touch (fun _ => False) w0 w3 := T2.trans t3
  clear t3
  have q0 : w3.cell? ⟨g0, 0, none⟩ = some (.int .u16 x.age) := (HH.out _ T3).cell 0
  have q1 : w3.cell? ⟨g0, 1, none⟩ = some (.int .u8 x.opts) := (HH.out _ T3).cell 1
  have q2 : w3.cell? ⟨g0, 2, none⟩ = some (.int .u8 x.typ) := (HH.out _ T3).cell 2
  have q3 : w3.cell? ⟨g0, 3, none⟩ = some (.int .u32 x.id) := (HH.out _ T3).cell 3
  have q4 : w3.cell? ⟨g0, 4, none⟩ = some (.int .u32 x.adv) := (HH.out _ T3).cell 4
  have q5 : w3.cell? ⟨g0, 5, none⟩ = some (.int .i32 x.seq) := (HH.out _ T3).cell 5
  have q6 : w3.cell? ⟨g0, 6, none⟩ = some (.int .u16 x.sum) := (HH.out _ T3).cell 6
  have q7 : w3.cell? ⟨g0, 7, none⟩ = some (.int .u16 x.len) := (HH.out _ T3).cell 7
  have hq := (HH.out _ T3).lt
  go_wp2_with fail
  refine Calls.mono (rkey_any _ x) ?_
  rintro e w4 ⟨rfl, t4⟩
  have T4 : Touch (fun _ => False) w0 w4 := T3.trans t4
  clear t4
  clear q0 q1 q2 q3 q4 q5 q6 q7 hq
  have tk : Touch (fun _ => False) w4 (w4.alloc (.cells #[.int .u8 x.typ, .int .u32 x.id, .int .u32 x.adv] 55)) := (Touch.refl _ _).alloc _
  have rk : Row (w4.alloc (.cells #[.int .u8 x.typ, .int .u32 x.id, .int .u32 x.adv] 55)) w4.heap.size 55 [.int .u8 x.typ, .int .u32 x.id, .int .u32 x.adv] := row_new _ _ _
  have TK := T4.trans tk
  go_upto_region 7 with fail
  generalize (w4.alloc (.cells #[.int .u8 x.typ, .int .u32 x.id, .int .u32 x.adv] 55)) = wk at *
  generalize w4.heap.size = g2 at *
  have HK : Hid (∀ w', Touch (fun _ => False) wk w' → Row w' g2 55 [.int .u8 x.typ, .int .u32 x.id, .int .u32 x.adv]) := fun w' t => rk.keep t
  have HH2 : Hid (∀ w', Touch (fun _ => False) wk w' → Row w' g0 53 [.int .u16 x.age, .int .u8 x.opts, .int .u8 x.typ, .int .u32 x.id, .int .u32 x.adv, .int .i32 x.seq, .int .u16 x.sum, .int .u16 x.len, u]) := fun w' t => HH.out w' (TK.trans t)
  have HN2 : Hid (∀ w', Touch (fun _ => False) wk w' → NoLi (.pointer (some ⟨g1, 0, none⟩)) w') := fun w' t => HNO.out w' (TK.trans t)
  have HTK : Hid (Touch (fun _ => False) w wk) := HT0.out.trans TK
  clear tk rk TK HH HNO HT0 T0 T1 T2 T3 T4
  as_aux_lemma =>
    have T0 : Touch (fun _ => False) wk wk := Touch.refl _ _
    have q0 : wk.cell? ⟨g0, 0, none⟩ = some (.int .u16 x.age) := (HH2.out _ T0).cell 0
    have q1 : wk.cell? ⟨g0, 1, none⟩ = some (.int .u8 x.opts) := (HH2.out _ T0).cell 1
    have q2 : wk.cell? ⟨g0, 2, none⟩ = some (.int .u8 x.typ) := (HH2.out _ T0).cell 2
    have q3 : wk.cell? ⟨g0, 3, none⟩ = some (.int .u32 x.id) := (HH2.out _ T0).cell 3
    have q4 : wk.cell? ⟨g0, 4, none⟩ = some (.int .u32 x.adv) := (HH2.out _ T0).cell 4
    have q5 : wk.cell? ⟨g0, 5, none⟩ = some (.int .i32 x.seq) := (HH2.out _ T0).cell 5
    have q6 : wk.cell? ⟨g0, 6, none⟩ = some (.int .u16 x.sum) := (HH2.out _ T0).cell 6
    have q7 : wk.cell? ⟨g0, 7, none⟩ = some (.int .u16 x.len) := (HH2.out _ T0).cell 7
    have hq := (HH2.out _ T0).lt
    go_wp2_with fail
    refine Calls.mono (lconf_no _ (.int .u16 x.age) (.int .u8 x.opts) (.int .u8 x.typ) (.int .u32 x.id) (.int .u32 x.adv) (.int .i32 x.seq) (.int .u16 x.sum) (.int .u16 x.len) wk (hnil _)) ?_
    rintro e w1 ⟨rfl, t1⟩
    have T1 : Touch (fun _ => False) wk w1 := T0.trans t1
    clear t1
    clear q0 q1 q2 q3 q4 q5 q6 q7 hq
    have q0 : w1.cell? ⟨g0, 0, none⟩ = some (.int .u16 x.age) := (HH2.out _ T1).cell 0
    have q1 : w1.cell? ⟨g0, 1, none⟩ = some (.int .u8 x.opts) := (HH2.out _ T1).cell 1
    have q2 : w1.cell? ⟨g0, 2, none⟩ = some (.int .u8 x.typ) := (HH2.out _ T1).cell 2
    have q3 : w1.cell? ⟨g0, 3, none⟩ = some (.int .u32 x.id) := (HH2.out _ T1).cell 3
    have q4 : w1.cell? ⟨g0, 4, none⟩ = some (.int .u32 x.adv) := (HH2.out _ T1).cell 4
    have q5 : w1.cell? ⟨g0, 5, none⟩ = some (.int .i32 x.seq) := (HH2.out _ T1).cell 5
    have q6 : w1.cell? ⟨g0, 6, none⟩ = some (.int .u16 x.sum) := (HH2.out _ T1).cell 6
    have q7 : w1.cell? ⟨g0, 7, none⟩ = some (.int .u16 x.len) := (HH2.out _ T1).cell 7
    have hq := (HH2.out _ T1).lt
    go_wp2_with fail
    refine Calls.mono (lconf_no _ (.int .u16 x.age) (.int .u8 x.opts) (.int .u8 x.typ) (.int .u32 x.id) (.int .u32 x.adv) (.int .i32 x.seq) (.int .u16 x.sum) (.int .u16 x.len) w1 (HN2.out _ T1)) ?_
    rintro e w2 ⟨rfl, t2⟩
    have T2 : Touch (fun _ => False) wk w2 := T1.trans t2
    clear t2
    clear q0 q1 q2 q3 q4 q5 q6 q7 hq
    have q0 : w2.cell? ⟨g2, 0, none⟩ = some (.int .u8 x.typ) := (HK.out _ T2).cell 0
    have q1 : w2.cell? ⟨g2, 1, none⟩ = some (.int .u32 x.id) := (HK.out _ T2).cell 1
    have q2 : w2.cell? ⟨g2, 2, none⟩ = some (.int .u32 x.adv) := (HK.out _ T2).cell 2
    have hq := (HK.out _ T2).lt
    go_wp2_with fail
    refine Calls.mono (ldrop_no _ (.int .u8 x.typ) (.int .u32 x.id) (.int .u32 x.adv) w2 (hnil _)) ?_
    rintro e w3 ⟨rfl, t3⟩
    have T3 : Touch (fun _ => False) wk w3 := T2.trans t3
    clear t3
    clear q0 q1 q2 hq
    have q0 : w3.cell? ⟨g2, 0, none⟩ = some (.int .u8 x.typ) := (HK.out _ T3).cell 0
    have q1 : w3.cell? ⟨g2, 1, none⟩ = some (.int .u32 x.id) := (HK.out _ T3).cell 1
    have q2 : w3.cell? ⟨g2, 2, none⟩ = some (.int .u32 x.adv) := (HK.out _ T3).cell 2
    have hq := (HK.out _ T3).lt
    go_wp2_with fail
    refine Calls.mono (ldrop_no _ (.int .u8 x.typ) (.int .u32 x.id) (.int .u32 x.adv) w3 (HN2.out _ T3)) ?_
    rintro e w4 ⟨rfl, t4⟩
    have T4 : Touch (fun _ => False) wk w4 := T3.trans t4
    clear t4
    clear q0 q1 q2 hq
    go_wp2_with fail
    refine Calls.mono (ltick_no _ w4 (hnil _)) ?_
    rintro e w5 ⟨rfl, t5⟩
    have T5 : Touch (fun _ => False) wk w5 := T4.trans t5
    clear t5
    go_wp2_with fail
    refine Calls.mono (ltick_no _ w5 (HN2.out _ T5)) ?_
    rintro e w6 ⟨rfl, t6⟩
    have T6 : Touch (fun _ => False) wk w6 := T5.trans t6
    clear t6
    go_wp2_with fail
    refine Calls.mono (lall_no _ w6 (hnil _)) ?_
    rintro e w7 ⟨rfl, t7⟩
    have T7 : Touch (fun _ => False) wk w7 := T6.trans t7
    clear t7
    go_wp2_with fail
    refine Calls.mono (lall_no _ w7 (HN2.out _ T7)) ?_
    rintro e w8 ⟨rfl, t8⟩
    have T8 : Touch (fun _ => False) wk w8 := T7.trans t8
    clear t8
    go_wp2_with fail
    refine Calls.mono (llen_no _ w8 (hnil _)) ?_
    rintro e w9 ⟨rfl, t9⟩
    have T9 : Touch (fun _ => False) wk w9 := T8.trans t9
    clear t9
    go_wp2_with fail
    refine Calls.mono (llen_no _ w9 (HN2.out _ T9)) ?_
    rintro e w10 ⟨rfl, t10⟩
    have T10 : Touch (fun _ => False) wk w10 := T9.trans t10
    clear t10
    go_wp2_with fail
    refine Calls.mono (works15 _) ?_
    rintro e w11 ⟨rfl, t11⟩
    have T11 : Touch (fun _ => False) wk w11 := T10.trans t11
    clear t11
    go_wp2_with fail
    go_ret
    exact ⟨rfl, HTK.out.trans T11⟩
end Go.Proofs.Ytedolfggbgmklaa
