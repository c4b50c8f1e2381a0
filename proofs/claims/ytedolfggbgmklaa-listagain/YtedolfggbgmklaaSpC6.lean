
/- The law's 'works'. -/
import Derived.Test.YtedolfggbgmklaaSpC5
import Derived.Test.YtedolfggbgmklaaSpGo
namespace Go.Proofs.Ytedolfggbgmklaa
open Go.RowKit
set_option linter.unusedVariables false
set_option maxRecDepth 100000

def H5 : HV := ⟨0, 0, 1, 1, 1, 5, 0, 0⟩
def H4 : HV := ⟨0, 0, 1, 1, 1, 4, 0, 0⟩
theorem H5_al : H5.Al := by constructor <;> (simp [H5])
theorem H4_al : H4.Al := by constructor <;> (simp [H4])
theorem jud54 (w : World) : Calls Try.prog 8 #[.agg #[.int .u16 0, .int .u8 0, .int .u8 1, .int .u32 1, .int .u32 1, .int .i32 5, .int .u16 0, .int .u16 0, .bool true, .int .u16 0, .int .u8 0, .int .u8 1, .int .u32 1, .int .u32 1, .int .i32 4, .int .u16 0, .int .u16 0, .int .u32 9, .int .u32 9, .bool false, .bool false, .bool false]] w fun e w' => e = .returned (.int .u8 2) ∧ Touch (fun _ => False) w w' := by
  have h := pjudge15 H5 H4 H5_al.ok H4_al.ok true false false false 9 9 w
  have e : judgeI H5 H4 true false false false 9 9 = 2 := by decide
  rw [e] at h
  exact h
theorem jud55 (w : World) : Calls Try.prog 8 #[.agg #[.int .u16 0, .int .u8 0, .int .u8 1, .int .u32 1, .int .u32 1, .int .i32 5, .int .u16 0, .int .u16 0, .bool true, .int .u16 0, .int .u8 0, .int .u8 1, .int .u32 1, .int .u32 1, .int .i32 5, .int .u16 0, .int .u16 0, .int .u32 9, .int .u32 9, .bool false, .bool false, .bool false]] w fun e w' => e = .returned (.int .u8 4) ∧ Touch (fun _ => False) w w' := by
  have h := pjudge15 H5 H5 H5_al.ok H5_al.ok true false false false 9 9 w
  have e : judgeI H5 H5 true false false false 9 9 = 4 := by decide
  rw [e] at h
  exact h
theorem conf4 (w : World) (L m e : Nat) (wt : Int) (u : Value) (b : Nat) (h : LSt w L m e 3 wt [⟨H5, u, b⟩]) : Calls Try.prog 24 #[.pointer (some ⟨L, 0, none⟩), .agg #[.int .u16 0, .int .u8 0, .int .u8 1, .int .u32 1, .int .u32 1, .int .i32 4, .int .u16 0, .int .u16 0]] w fun e' w' => e' = .returned (.bool false) ∧ LSt w' L m e 3 wt [⟨H5, u, b⟩] ∧ Touch (LB L m e [⟨H5, u, b⟩]) w w' := by
  have k := lconf_any w L m e 3 wt [⟨H5, u, b⟩] h (by omega) H4 H4_al
  have e1 : (([⟨H5, u, b⟩] : List It).any (fun i => i.h.sk H4 && (i.h.new15 H4 == 0))) = false := by
    show ((H5.sk H4 && (H5.new15 H4 == 0)) || false) = false
    decide
  have e2 : (([⟨H5, u, b⟩] : List It).filter (fun i => !(i.h.sk H4 && (i.h.new15 H4 == 0)))) = [⟨H5, u, b⟩] := List.filter_eq_self.2 (fun i hi => by
    simp only [List.mem_singleton] at hi
    subst hi
    show (!(H5.sk H4 && (H5.new15 H4 == 0))) = true
    decide)
  rw [e1, e2] at k
  exact k
theorem conf5 (w : World) (L m e : Nat) (wt : Int) (u : Value) (b : Nat) (h : LSt w L m e 3 wt [⟨H5, u, b⟩]) : Calls Try.prog 24 #[.pointer (some ⟨L, 0, none⟩), .agg #[.int .u16 0, .int .u8 0, .int .u8 1, .int .u32 1, .int .u32 1, .int .i32 5, .int .u16 0, .int .u16 0]] w fun e' w' => e' = .returned (.bool true) ∧ LSt w' L m e 3 wt [] ∧ Touch (LB L m e [⟨H5, u, b⟩]) w w' := by
  have k := lconf_any w L m e 3 wt [⟨H5, u, b⟩] h (by omega) H5 H5_al
  have e0 : (H5.sk H5 && (H5.new15 H5 == 0)) = true := by decide
  have e1 : (([⟨H5, u, b⟩] : List It).any (fun i => i.h.sk H5 && (i.h.new15 H5 == 0))) = true := List.any_eq_true.2 ⟨⟨H5, u, b⟩, by simp, e0⟩
  have e2 : (([⟨H5, u, b⟩] : List It).filter (fun i => !(i.h.sk H5 && (i.h.new15 H5 == 0)))) = [] := List.filter_eq_nil_iff.2 (fun i hi => by
    simp only [List.mem_singleton] at hi
    subst hi
    rw [e0]
    simp)
  rw [e1, e2] at k
  exact k
theorem own_nil (w : World) (x : HV) : Calls Try.prog 40 #[.agg #[.int .u16 x.age, .int .u8 x.opts, .int .u8 x.typ, .int .u32 x.id, .int .u32 x.adv, .int .i32 x.seq, .int .u16 x.sum, .int .u16 x.len, .slice none 0 0]] w fun e' w'' => ∃ ua un uc, e' = .returned (.agg #[.int .u16 x.age, .int .u8 x.opts, .int .u8 x.typ, .int .u32 x.id, .int .u32 x.adv, .int .i32 x.seq, .int .u16 x.sum, .int .u16 x.len, .slice ua un uc]) ∧ True ∧ Touch (fun _ => False) w w'' :=
  own_by (fun _ _ => True) w x (.slice none 0 0) (fun w' t => (clone_nil w').mono fun e w'' ⟨h1, h2⟩ => ⟨none, 0, 0, h1, fun _ _ => trivial, h2 ▸ Touch.refl _ _⟩)
theorem add5 (w : World) (L m e : Nat) (h : LSt w L m e 3 0 []) : Calls Try.prog 22 #[.pointer (some ⟨L, 0, none⟩), .agg #[.int .u16 0, .int .u8 0, .int .u8 1, .int .u32 1, .int .u32 1, .int .i32 5, .int .u16 0, .int .u16 0, .slice none 0 0]] w fun e' w' => e' = .returned (.tuple #[]) ∧ ∃ u b wt, LSt w' L m e 3 wt [⟨H5, u, b⟩] ∧ w.heap.size ≤ b ∧ Touch (LB L m e []) w w' :=
  (ladd_by (fun _ _ _ => True) w L m e 3 0 [] h (by omega) H5 H5_al (.slice none 0 0) (fun w' t => (own_nil w' H5).mono fun e' w'' ⟨ua, un, uc, h1, _, h3⟩ => ⟨ua, un, uc, h1, fun _ _ => trivial, h3⟩)).mono fun e' w' ⟨h1, u, b, wt, h2, _, h4, _, h5⟩ => ⟨h1, u, b, wt, h2, h4, h5⟩
set_option maxHeartbeats 4000000 in
theorem works15 (w : World) : Calls Try.prog 10 #[] w fun e w' => e = .returned (.bool true) ∧ Touch (fun _ => False) w w' := by
  have T2 : Touch (fun _ => False) w ((w.alloc (.cells #[.int .u16 0, .int .u8 0, .int .u8 1, .int .u32 1, .int .u32 1, .int .i32 5, .int .u16 0, .int .u16 0] 25)).alloc (.cells #[.int .u16 0, .int .u8 0, .int .u8 1, .int .u32 1, .int .u32 1, .int .i32 4, .int .u16 0, .int .u16 0] 25)) := ((Touch.refl _ _).alloc _).alloc _
  have R1 : Row ((w.alloc (.cells #[.int .u16 0, .int .u8 0, .int .u8 1, .int .u32 1, .int .u32 1, .int .i32 5, .int .u16 0, .int .u16 0] 25)).alloc (.cells #[.int .u16 0, .int .u8 0, .int .u8 1, .int .u32 1, .int .u32 1, .int .i32 4, .int .u16 0, .int .u16 0] 25)) w.heap.size 25 [.int .u16 0, .int .u8 0, .int .u8 1, .int .u32 1, .int .u32 1, .int .i32 5, .int .u16 0, .int .u16 0] := (row_new _ _ _).keep ((Touch.refl _ _).alloc _)
  have R2 : Row ((w.alloc (.cells #[.int .u16 0, .int .u8 0, .int .u8 1, .int .u32 1, .int .u32 1, .int .i32 5, .int .u16 0, .int .u16 0] 25)).alloc (.cells #[.int .u16 0, .int .u8 0, .int .u8 1, .int .u32 1, .int .u32 1, .int .i32 4, .int .u16 0, .int .u16 0] 25)) (w.heap.size + 1) 25 [.int .u16 0, .int .u8 0, .int .u8 1, .int .u32 1, .int .u32 1, .int .i32 4, .int .u16 0, .int .u16 0] := by
    have := row_new (w.alloc (.cells #[.int .u16 0, .int .u8 0, .int .u8 1, .int .u32 1, .int .u32 1, .int .i32 5, .int .u16 0, .int .u16 0] 25)) 25 #[.int .u16 0, .int .u8 0, .int .u8 1, .int .u32 1, .int .u32 1, .int .i32 4, .int .u16 0, .int .u16 0]
    simpa using this
  have HNW := lnew_any ((w.alloc (.cells #[.int .u16 0, .int .u8 0, .int .u8 1, .int .u32 1, .int .u32 1, .int .i32 5, .int .u16 0, .int .u16 0] 25)).alloc (.cells #[.int .u16 0, .int .u8 0, .int .u8 1, .int .u32 1, .int .u32 1, .int .i32 4, .int .u16 0, .int .u16 0] 25)) 3 (by omega)
  have hs2 : (((w.alloc (.cells #[.int .u16 0, .int .u8 0, .int .u8 1, .int .u32 1, .int .u32 1, .int .i32 5, .int .u16 0, .int .u16 0] 25)).alloc (.cells #[.int .u16 0, .int .u8 0, .int .u8 1, .int .u32 1, .int .u32 1, .int .i32 4, .int .u16 0, .int .u16 0] 25))).heap.size = w.heap.size + 2 := by simp
  go_enter Try.func10, Try.ntmps10
  go_wp2_with fail
  refine Calls.mono HNW ?_
  rintro e' w3 ⟨L, m, e, rfl, HS3, hL, hm, he, t3⟩
  rw [hs2] at hL hm he
  have R31 := R1.keep t3
  have R32 := R2.keep t3
  have T3 := T2.trans t3
  clear T2 R1 R2 HNW hs2 t3
  obtain ⟨g, hg⟩ : ∃ g, w.heap.size = g := ⟨_, rfl⟩
  rw [hg] at R31 R32 hL hm he
  obtain ⟨g', hg'⟩ : ∃ g', g + 1 = g' := ⟨_, rfl⟩
  rw [hg'] at R32
  have HB : Hid (w.heap.size = g ∧ g' = g + 1 ∧ g + 2 ≤ L ∧ g + 2 ≤ m ∧ g + 2 ≤ e) := ⟨hg, hg'.symm, hL, hm, he⟩
  have HA := add5 w3 L m e HS3
  have X : Hid (Row w3 g 25 [.int .u16 0, .int .u8 0, .int .u8 1, .int .u32 1, .int .u32 1, .int .i32 5, .int .u16 0, .int .u16 0] ∧ Row w3 g' 25 [.int .u16 0, .int .u8 0, .int .u8 1, .int .u32 1, .int .u32 1, .int .i32 4, .int .u16 0, .int .u16 0] ∧ Touch (fun _ => False) w w3) := ⟨R31, R32, T3⟩
  have a0 : w3.cell? ⟨g, 0, none⟩ = some (.int .u16 0) := R31.cell 0
  have a1 : w3.cell? ⟨g, 1, none⟩ = some (.int .u8 0) := R31.cell 1
  have a2 : w3.cell? ⟨g, 2, none⟩ = some (.int .u8 1) := R31.cell 2
  have a3 : w3.cell? ⟨g, 3, none⟩ = some (.int .u32 1) := R31.cell 3
  have a4 : w3.cell? ⟨g, 4, none⟩ = some (.int .u32 1) := R31.cell 4
  have a5 : w3.cell? ⟨g, 5, none⟩ = some (.int .i32 5) := R31.cell 5
  have a6 : w3.cell? ⟨g, 6, none⟩ = some (.int .u16 0) := R31.cell 6
  have a7 : w3.cell? ⟨g, 7, none⟩ = some (.int .u16 0) := R31.cell 7
  have hl3 := R31.lt
  clear HS3 R31 R32 T3 hL hm he
  go_wp2_with fail
  refine Calls.mono HA ?_
  rintro e' w4 ⟨rfl, u, b, wt, HS4, hb, t4⟩
  obtain ⟨R31, R32, T3⟩ := X.out
  have nB : ∀ k, LB L m e [] k → g + 2 ≤ k := by
    have h := HB.out
    rintro k (q | q | q | ⟨i, hi, q⟩)
    · omega
    · omega
    · omega
    · cases hi
  have n1 : ¬ LB L m e [] g := fun q => by have := nB g q; omega
  have n2 : ¬ LB L m e [] g' := fun q => by have := nB g' q; have := HB.out; omega
  have R41 : Row w4 g 25 [.int .u16 0, .int .u8 0, .int .u8 1, .int .u32 1, .int .u32 1, .int .i32 5, .int .u16 0, .int .u16 0] := (t4.block g R31.lt n1).trans R31
  have R42 : Row w4 g' 25 [.int .u16 0, .int .u8 0, .int .u8 1, .int .u32 1, .int .u32 1, .int .i32 4, .int .u16 0, .int .u16 0] := (t4.block g' R32.lt n2).trans R32
  have T4 : Touch (fun _ => False) w w4 := T3.trans' t4 (fun k hk q => by have := nB k q; have := HB.out; omega)
  have HB4 : Hid (g + 2 ≤ b) := by
    show g + 2 ≤ b
    have := R32.lt
    have := HB.out
    omega
  clear X R31 R32 T3 nB n1 n2 t4 a0 a1 a2 a3 a4 a5 a6 a7 hl3 HA hb
  have a0 : w4.cell? ⟨g, 0, none⟩ = some (.int .u16 0) := R41.cell 0
  have a1 : w4.cell? ⟨g, 1, none⟩ = some (.int .u8 0) := R41.cell 1
  have a2 : w4.cell? ⟨g, 2, none⟩ = some (.int .u8 1) := R41.cell 2
  have a3 : w4.cell? ⟨g, 3, none⟩ = some (.int .u32 1) := R41.cell 3
  have a4 : w4.cell? ⟨g, 4, none⟩ = some (.int .u32 1) := R41.cell 4
  have a5 : w4.cell? ⟨g, 5, none⟩ = some (.int .i32 5) := R41.cell 5
  have a6 : w4.cell? ⟨g, 6, none⟩ = some (.int .u16 0) := R41.cell 6
  have a7 : w4.cell? ⟨g, 7, none⟩ = some (.int .u16 0) := R41.cell 7
  have b0 : w4.cell? ⟨g', 0, none⟩ = some (.int .u16 0) := R42.cell 0
  have b1 : w4.cell? ⟨g', 1, none⟩ = some (.int .u8 0) := R42.cell 1
  have b2 : w4.cell? ⟨g', 2, none⟩ = some (.int .u8 1) := R42.cell 2
  have b3 : w4.cell? ⟨g', 3, none⟩ = some (.int .u32 1) := R42.cell 3
  have b4 : w4.cell? ⟨g', 4, none⟩ = some (.int .u32 1) := R42.cell 4
  have b5 : w4.cell? ⟨g', 5, none⟩ = some (.int .i32 4) := R42.cell 5
  have b6 : w4.cell? ⟨g', 6, none⟩ = some (.int .u16 0) := R42.cell 6
  have b7 : w4.cell? ⟨g', 7, none⟩ = some (.int .u16 0) := R42.cell 7
  have hl4 := R41.lt
  have hm4 := R42.lt
  have X : Hid (LSt w4 L m e 3 wt [⟨H5, u, b⟩] ∧ Row w4 g 25 [.int .u16 0, .int .u8 0, .int .u8 1, .int .u32 1, .int .u32 1, .int .i32 5, .int .u16 0, .int .u16 0] ∧ Row w4 g' 25 [.int .u16 0, .int .u8 0, .int .u8 1, .int .u32 1, .int .u32 1, .int .i32 4, .int .u16 0, .int .u16 0] ∧ Touch (fun _ => False) w w4) := ⟨HS4, R41, R42, T4⟩
  clear HS4 R41 R42 T4
  go_wp2_with fail
  refine Calls.mono (jud54 _) ?_
  rintro e' w5 ⟨rfl, t5⟩
  obtain ⟨HS4, R41, R42, T4⟩ := X.out
  have HS5 := HS4.keepN t5
  have R51 := R41.keep t5
  have R52 := R42.keep t5
  have T5 := T4.trans t5
  clear X HS4 R41 R42 T4 t5 a0 a1 a2 a3 a4 a5 a6 a7 b0 b1 b2 b3 b4 b5 b6 b7 hl4 hm4
  have a0 : w5.cell? ⟨g, 0, none⟩ = some (.int .u16 0) := R51.cell 0
  have a1 : w5.cell? ⟨g, 1, none⟩ = some (.int .u8 0) := R51.cell 1
  have a2 : w5.cell? ⟨g, 2, none⟩ = some (.int .u8 1) := R51.cell 2
  have a3 : w5.cell? ⟨g, 3, none⟩ = some (.int .u32 1) := R51.cell 3
  have a4 : w5.cell? ⟨g, 4, none⟩ = some (.int .u32 1) := R51.cell 4
  have a5 : w5.cell? ⟨g, 5, none⟩ = some (.int .i32 5) := R51.cell 5
  have a6 : w5.cell? ⟨g, 6, none⟩ = some (.int .u16 0) := R51.cell 6
  have a7 : w5.cell? ⟨g, 7, none⟩ = some (.int .u16 0) := R51.cell 7
  have hl5 := R51.lt
  have X : Hid (LSt w5 L m e 3 wt [⟨H5, u, b⟩] ∧ Row w5 g 25 [.int .u16 0, .int .u8 0, .int .u8 1, .int .u32 1, .int .u32 1, .int .i32 5, .int .u16 0, .int .u16 0] ∧ Row w5 g' 25 [.int .u16 0, .int .u8 0, .int .u8 1, .int .u32 1, .int .u32 1, .int .i32 4, .int .u16 0, .int .u16 0] ∧ Touch (fun _ => False) w w5) := ⟨HS5, R51, R52, T5⟩
  clear HS5 R51 R52 T5
  go_wp2_with fail
  refine Calls.mono (jud55 _) ?_
  rintro e' w6 ⟨rfl, t6⟩
  obtain ⟨HS5, R51, R52, T5⟩ := X.out
  have HS6 := HS5.keepN t6
  have R61 := R51.keep t6
  have R62 := R52.keep t6
  have T6 := T5.trans t6
  clear X HS5 R51 R52 T5 t6 a0 a1 a2 a3 a4 a5 a6 a7 hl5
  have HLn : Calls Try.prog 29 #[.pointer (some ⟨L, 0, none⟩)] w6 fun e' w' => e' = .returned (.int .i64 1) ∧ w6 = w' := llen_any w6 L m e 3 wt [⟨H5, u, b⟩] HS6 (by omega)
  have HC4 := conf4 w6 L m e wt u b HS6
  have b0 : w6.cell? ⟨g', 0, none⟩ = some (.int .u16 0) := R62.cell 0
  have b1 : w6.cell? ⟨g', 1, none⟩ = some (.int .u8 0) := R62.cell 1
  have b2 : w6.cell? ⟨g', 2, none⟩ = some (.int .u8 1) := R62.cell 2
  have b3 : w6.cell? ⟨g', 3, none⟩ = some (.int .u32 1) := R62.cell 3
  have b4 : w6.cell? ⟨g', 4, none⟩ = some (.int .u32 1) := R62.cell 4
  have b5 : w6.cell? ⟨g', 5, none⟩ = some (.int .i32 4) := R62.cell 5
  have b6 : w6.cell? ⟨g', 6, none⟩ = some (.int .u16 0) := R62.cell 6
  have b7 : w6.cell? ⟨g', 7, none⟩ = some (.int .u16 0) := R62.cell 7
  have hm6 := R62.lt
  have X : Hid (LSt w6 L m e 3 wt [⟨H5, u, b⟩] ∧ Row w6 g 25 [.int .u16 0, .int .u8 0, .int .u8 1, .int .u32 1, .int .u32 1, .int .i32 5, .int .u16 0, .int .u16 0] ∧ Row w6 g' 25 [.int .u16 0, .int .u8 0, .int .u8 1, .int .u32 1, .int .u32 1, .int .i32 4, .int .u16 0, .int .u16 0] ∧ Touch (fun _ => False) w w6) := ⟨HS6, R61, R62, T6⟩
  clear HS6 R61 R62 T6
  go_wp2_with fail
  refine Calls.mono HLn ?_
  rintro e' w6' ⟨rfl, rfl⟩
  clear HLn
  go_wp2_with fail
  refine Calls.mono HC4 ?_
  rintro e' w7 ⟨rfl, HS7, t7⟩
  obtain ⟨HS6, R61, R62, T6⟩ := X.out
  have nB : ∀ k, LB L m e [⟨H5, u, b⟩] k → g + 2 ≤ k := by
    have h := HB.out
    have h4 := HB4.out
    rintro k (q | q | q | ⟨i, hi, q⟩)
    · omega
    · omega
    · omega
    · simp only [List.mem_singleton] at hi
      subst hi
      have q : k = b := q
      omega
  have n1 : ¬ LB L m e [⟨H5, u, b⟩] g := fun q => by have := nB g q; omega
  have R71 : Row w7 g 25 [.int .u16 0, .int .u8 0, .int .u8 1, .int .u32 1, .int .u32 1, .int .i32 5, .int .u16 0, .int .u16 0] := (t7.block g R61.lt n1).trans R61
  have T7 : Touch (fun _ => False) w w7 := T6.trans' t7 (fun k hk q => by have := nB k q; have := HB.out; omega)
  have NB : Hid (∀ k, LB L m e [⟨H5, u, b⟩] k → g + 2 ≤ k) := nB
  clear X HS6 R61 R62 T6 t7 nB n1 b0 b1 b2 b3 b4 b5 b6 b7 hm6 HC4
  have HC5 := conf5 w7 L m e wt u b HS7
  have a0 : w7.cell? ⟨g, 0, none⟩ = some (.int .u16 0) := R71.cell 0
  have a1 : w7.cell? ⟨g, 1, none⟩ = some (.int .u8 0) := R71.cell 1
  have a2 : w7.cell? ⟨g, 2, none⟩ = some (.int .u8 1) := R71.cell 2
  have a3 : w7.cell? ⟨g, 3, none⟩ = some (.int .u32 1) := R71.cell 3
  have a4 : w7.cell? ⟨g, 4, none⟩ = some (.int .u32 1) := R71.cell 4
  have a5 : w7.cell? ⟨g, 5, none⟩ = some (.int .i32 5) := R71.cell 5
  have a6 : w7.cell? ⟨g, 6, none⟩ = some (.int .u16 0) := R71.cell 6
  have a7 : w7.cell? ⟨g, 7, none⟩ = some (.int .u16 0) := R71.cell 7
  have hl7 := R71.lt
  have X : Hid (Touch (fun _ => False) w w7) := T7
  clear HS7 R71 T7
  go_wp2_with fail
  refine Calls.mono HC5 ?_
  rintro e' w8 ⟨rfl, HS8, t8⟩
  have T8 : Hid (Touch (fun _ => False) w w8) := X.out.trans' t8 (fun k hk q => by have := NB.out k q; have := HB.out; omega)
  clear X t8 a0 a1 a2 a3 a4 a5 a6 a7 hl7 HC5
  have HLn : Calls Try.prog 29 #[.pointer (some ⟨L, 0, none⟩)] w8 fun e' w' => e' = .returned (.int .i64 0) ∧ w8 = w' := llen_any w8 L m e 3 wt [] HS8 (by omega)
  clear HS8
  go_wp2_with fail
  refine Calls.mono HLn ?_
  rintro e' w8' ⟨rfl, rfl⟩
  clear HLn
  go_wp2_with fail
  go_ret
  exact ⟨rfl, T8.out⟩
end Go.Proofs.Ytedolfggbgmklaa
