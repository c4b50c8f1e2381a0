
/- What is confirmed. -/
import Derived.Test.YtedolfggbgmklaaSpC4
import Derived.Test.YtedolfggbgmklaaSpJu
import Derived.Test.YtedolfggbgmklaaTAft
import Derived.BigQuiet
namespace Go.Proofs.Ytedolfggbgmklaa
open Go.RowKit
set_option linter.unusedVariables false
set_option maxRecDepth 100000

theorem tri_fst {x y : Int} (h : x = -1 ∨ x = 0 ∨ x = 1) (k : y = -1 ∨ y = 0 ∨ y = 1) : fstI x y = -1 ∨ fstI x y = 0 ∨ fstI x y = 1 := by
  unfold fstI
  split
  · exact h
  · exact k
theorem tri_cmp (x y : Int) : cmpI x y = -1 ∨ cmpI x y = 0 ∨ cmpI x y = 1 := by unfold cmpI; split <;> (try split) <;> omega
theorem new15_tri (a b : HV) : a.new15 b = -1 ∨ a.new15 b = 0 ∨ a.new15 b = 1 := by
  refine tri_fst (tri_cmp _ _) (tri_fst (tri_cmp _ _) (tri_fst ?_ ?_))
  · unfold aloneI; split <;> (try split) <;> omega
  · unfold youngI
    split
    · omega
    · exact tri_cmp _ _
set_option maxHeartbeats 4000000 in
theorem lconf_none (w : World) (L m e : Nat) (rx wt : Int) (l : List It) (h : LSt w L m e rx wt l) (hr : rx ≠ 0) (x : HV) (hx : x.Al) (hn : ∀ i ∈ l, i.h.ky ≠ x.ky) : Calls Try.prog 24 #[.pointer (some ⟨L, 0, none⟩), .agg #[.int .u16 x.age, .int .u8 x.opts, .int .u8 x.typ, .int .u32 x.id, .int .u32 x.adv, .int .i32 x.seq, .int .u16 x.sum, .int .u16 x.len]] w fun e' w' => e' = .returned (.bool false) ∧ Touch (fun _ => False) w w' := by
  have T0 : Touch (fun _ => False) w (w.alloc (.cells #[.int .u16 x.age, .int .u8 x.opts, .int .u8 x.typ, .int .u32 x.id, .int .u32 x.adv, .int .i32 x.seq, .int .u16 x.sum, .int .u16 x.len] 25)) := (Touch.refl _ _).alloc _
  have R0 : Row (w.alloc (.cells #[.int .u16 x.age, .int .u8 x.opts, .int .u8 x.typ, .int .u32 x.id, .int .u32 x.adv, .int .i32 x.seq, .int .u16 x.sum, .int .u16 x.len] 25)) w.heap.size 25 [.int .u16 x.age, .int .u8 x.opts, .int .u8 x.typ, .int .u32 x.id, .int .u32 x.adv, .int .i32 x.seq, .int .u16 x.sum, .int .u16 x.len] := row_new _ _ _
  have HS0 := h.keepN T0
  have HM := lmade_yes (w.alloc (.cells #[.int .u16 x.age, .int .u8 x.opts, .int .u8 x.typ, .int .u32 x.id, .int .u32 x.adv, .int .i32 x.seq, .int .u16 x.sum, .int .u16 x.len] 25)) L rx hr (HS0.row.cell 0)
  have hz : Hid (∀ k, LB L m e l k → k < w.heap.size) := fun k hk => h.lb_lt hk
  have HX : Hid x.Al := hx
  have HN : Hid (∀ i ∈ l, i.h.ky ≠ x.ky) := hn
  clear h hr hx hn
  go_enter Try.func24, Try.ntmps24
  go_wp2_with fail
  generalize (w.alloc (.cells #[.int .u16 x.age, .int .u8 x.opts, .int .u8 x.typ, .int .u32 x.id, .int .u32 x.adv, .int .i32 x.seq, .int .u16 x.sum, .int .u16 x.len] 25)) = w0 at *
  obtain ⟨g0, hg0⟩ : ∃ g, w.heap.size = g := ⟨_, rfl⟩
  rw [hg0] at R0 hz ⊢
  clear hg0
  refine Calls.mono HM ?_
  rintro e' w1 ⟨rfl, rfl⟩
  clear HM
  have p0 : w0.cell? ⟨g0, 0, none⟩ = some (.int .u16 x.age) := R0.cell 0
  have p1 : w0.cell? ⟨g0, 1, none⟩ = some (.int .u8 x.opts) := R0.cell 1
  have p2 : w0.cell? ⟨g0, 2, none⟩ = some (.int .u8 x.typ) := R0.cell 2
  have p3 : w0.cell? ⟨g0, 3, none⟩ = some (.int .u32 x.id) := R0.cell 3
  have p4 : w0.cell? ⟨g0, 4, none⟩ = some (.int .u32 x.adv) := R0.cell 4
  have p5 : w0.cell? ⟨g0, 5, none⟩ = some (.int .i32 x.seq) := R0.cell 5
  have p6 : w0.cell? ⟨g0, 6, none⟩ = some (.int .u16 x.sum) := R0.cell 6
  have p7 : w0.cell? ⟨g0, 7, none⟩ = some (.int .u16 x.len) := R0.cell 7
  have hg := R0.lt
  have X : Hid (LSt w0 L m e rx wt l ∧ Row w0 g0 25 [.int .u16 x.age, .int .u8 x.opts, .int .u8 x.typ, .int .u32 x.id, .int .u32 x.adv, .int .i32 x.seq, .int .u16 x.sum, .int .u16 x.len] ∧ Touch (fun _ => False) w w0) := ⟨HS0, R0, T0⟩
  clear HS0 R0 T0
  go_wp2_with fail
  refine Calls.mono (lkey_any _ x) ?_
  rintro e' w3 ⟨rfl, t3⟩
  obtain ⟨HS0, R0, T0⟩ := X.out
  clear X p0 p1 p2 p3 p4 p5 p6 p7 hg
  have HS3 := HS0.keepN t3
  have R3 := R0.keep t3
  have T3 := T0.trans t3
  clear HS0 R0 T0 t3
  have t4 : Touch (fun _ => False) w3 (w3.alloc (.cells #[.int .u8 x.typ, .int .u32 x.id, .int .u32 x.adv] 55)) := (Touch.refl _ _).alloc _
  have K4 : Row (w3.alloc (.cells #[.int .u8 x.typ, .int .u32 x.id, .int .u32 x.adv] 55)) w3.heap.size 55 [.int .u8 x.typ, .int .u32 x.id, .int .u32 x.adv] := row_new _ _ _
  have HS4 := HS3.keepN t4
  have R4 := R3.keep t4
  have T4 := T3.trans t4
  have g01 : g0 ≠ w3.heap.size := by have := R3.lt; omega
  have g1lt : Hid (∀ k, LB L m e l k → k < w3.heap.size) := fun k hk => HS3.lb_lt hk
  clear HS3 R3 T3 t4
  go_upto_region 4 with fail
  generalize (w3.alloc (.cells #[.int .u8 x.typ, .int .u32 x.id, .int .u32 x.adv] 55)) = w4 at *
  generalize w3.heap.size = g1 at *
  have q0 : w4.cell? ⟨L, 2, none⟩ = some (.map (some m)) := HS4.row.cell 2
  have k0 : w4.cell? ⟨g1, 0, none⟩ = some (.int .u8 x.typ) := K4.cell 0
  have k1 : w4.cell? ⟨g1, 1, none⟩ = some (.int .u32 x.id) := K4.cell 1
  have k2 : w4.cell? ⟨g1, 2, none⟩ = some (.int .u32 x.adv) := K4.cell 2
  have hL := HS4.row.lt
  have hk := K4.lt
  have hl1 : (Instr.lookup 61 (.map (some m)) (.agg #[.int .u8 x.typ, .int .u32 x.id, .int .u32 x.adv]) true).run Try.prog w4.drew = .ok (.tuple #[.pointer none, .bool false]) w4.drew := (HS4.map.keep ((Touch.refl (fun _ => False) w4).drew) (fun h => h)).miss HS4.ok HX.out HN.out
  have X : Hid (LSt w4.drew L m e rx wt l ∧ Row w4.drew g0 25 [.int .u16 x.age, .int .u8 x.opts, .int .u8 x.typ, .int .u32 x.id, .int .u32 x.adv, .int .i32 x.seq, .int .u16 x.sum, .int .u16 x.len] ∧ Row w4.drew g1 55 [.int .u8 x.typ, .int .u32 x.id, .int .u32 x.adv] ∧ Touch (fun _ => False) w w4.drew) := ⟨HS4.keepN ((Touch.refl _ _).drew), R4.keep ((Touch.refl _ _).drew), K4.keep ((Touch.refl _ _).drew), T4.drew⟩
  clear HS4 R4 K4 T4
  go_cut [6, 7] (fun s6 s7 wx => s6 = .pointer none ∧ s7 = .bool false ∧ wx = w4.drew)
  case first =>
    go_region
    all_goals go_wp2_with fail
    all_goals go_meet
    all_goals exact ⟨rfl, rfl, rfl⟩
  case rest =>
    obtain ⟨rfl, rfl, rfl⟩ := hcut
    obtain ⟨HS5, R5, K5, T5⟩ := X.out
    clear X q0 k0 k1 k2 hL hk hl1
    generalize w4.drew = w5 at *
    have T5h : Hid (Touch (fun _ => False) w w5.drew) := T5.drew
    clear HS5 R5 K5 T5
    go_upto_region 5 with fail
    go_region
    all_goals go_wp2_with fail
    all_goals go_ret
    all_goals exact ⟨rfl, T5h.out⟩
set_option maxHeartbeats 4000000 in
theorem lconf_other (w : World) (L m e : Nat) (rx wt : Int) (l1 l2 : List It) (i : It) (h : LSt w L m e rx wt (l1 ++ i :: l2)) (hr : rx ≠ 0) (x : HV) (hx : x.Al) (hn : i.h.ky = x.ky ∧ i.h.new15 x ≠ 0) : Calls Try.prog 24 #[.pointer (some ⟨L, 0, none⟩), .agg #[.int .u16 x.age, .int .u8 x.opts, .int .u8 x.typ, .int .u32 x.id, .int .u32 x.adv, .int .i32 x.seq, .int .u16 x.sum, .int .u16 x.len]] w fun e' w' => e' = .returned (.bool false) ∧ Touch (fun _ => False) w w' := by
  have T0 : Touch (fun _ => False) w (w.alloc (.cells #[.int .u16 x.age, .int .u8 x.opts, .int .u8 x.typ, .int .u32 x.id, .int .u32 x.adv, .int .i32 x.seq, .int .u16 x.sum, .int .u16 x.len] 25)) := (Touch.refl _ _).alloc _
  have R0 : Row (w.alloc (.cells #[.int .u16 x.age, .int .u8 x.opts, .int .u8 x.typ, .int .u32 x.id, .int .u32 x.adv, .int .i32 x.seq, .int .u16 x.sum, .int .u16 x.len] 25)) w.heap.size 25 [.int .u16 x.age, .int .u8 x.opts, .int .u8 x.typ, .int .u32 x.id, .int .u32 x.adv, .int .i32 x.seq, .int .u16 x.sum, .int .u16 x.len] := row_new _ _ _
  have HS0 := h.keepN T0
  have HM := lmade_yes (w.alloc (.cells #[.int .u16 x.age, .int .u8 x.opts, .int .u8 x.typ, .int .u32 x.id, .int .u32 x.adv, .int .i32 x.seq, .int .u16 x.sum, .int .u16 x.len] 25)) L rx hr (HS0.row.cell 0)
  have hz : Hid (∀ k, LB L m e (l1 ++ i :: l2) k → k < w.heap.size) := fun k hk => h.lb_lt hk
  have HX : Hid x.Al := hx
  have HN : Hid (i.h.ky = x.ky ∧ i.h.new15 x ≠ 0) := hn
  clear h hr hx hn
  go_enter Try.func24, Try.ntmps24
  go_wp2_with fail
  generalize (w.alloc (.cells #[.int .u16 x.age, .int .u8 x.opts, .int .u8 x.typ, .int .u32 x.id, .int .u32 x.adv, .int .i32 x.seq, .int .u16 x.sum, .int .u16 x.len] 25)) = w0 at *
  obtain ⟨g0, hg0⟩ : ∃ g, w.heap.size = g := ⟨_, rfl⟩
  rw [hg0] at R0 hz ⊢
  clear hg0
  refine Calls.mono HM ?_
  rintro e' w1 ⟨rfl, rfl⟩
  clear HM
  have p0 : w0.cell? ⟨g0, 0, none⟩ = some (.int .u16 x.age) := R0.cell 0
  have p1 : w0.cell? ⟨g0, 1, none⟩ = some (.int .u8 x.opts) := R0.cell 1
  have p2 : w0.cell? ⟨g0, 2, none⟩ = some (.int .u8 x.typ) := R0.cell 2
  have p3 : w0.cell? ⟨g0, 3, none⟩ = some (.int .u32 x.id) := R0.cell 3
  have p4 : w0.cell? ⟨g0, 4, none⟩ = some (.int .u32 x.adv) := R0.cell 4
  have p5 : w0.cell? ⟨g0, 5, none⟩ = some (.int .i32 x.seq) := R0.cell 5
  have p6 : w0.cell? ⟨g0, 6, none⟩ = some (.int .u16 x.sum) := R0.cell 6
  have p7 : w0.cell? ⟨g0, 7, none⟩ = some (.int .u16 x.len) := R0.cell 7
  have hg := R0.lt
  have X : Hid (LSt w0 L m e rx wt (l1 ++ i :: l2) ∧ Row w0 g0 25 [.int .u16 x.age, .int .u8 x.opts, .int .u8 x.typ, .int .u32 x.id, .int .u32 x.adv, .int .i32 x.seq, .int .u16 x.sum, .int .u16 x.len] ∧ Touch (fun _ => False) w w0) := ⟨HS0, R0, T0⟩
  clear HS0 R0 T0
  go_wp2_with fail
  refine Calls.mono (lkey_any _ x) ?_
  rintro e' w3 ⟨rfl, t3⟩
  obtain ⟨HS0, R0, T0⟩ := X.out
  clear X p0 p1 p2 p3 p4 p5 p6 p7 hg
  have HS3 := HS0.keepN t3
  have R3 := R0.keep t3
  have T3 := T0.trans t3
  clear HS0 R0 T0 t3
  have t4 : Touch (fun _ => False) w3 (w3.alloc (.cells #[.int .u8 x.typ, .int .u32 x.id, .int .u32 x.adv] 55)) := (Touch.refl _ _).alloc _
  have K4 : Row (w3.alloc (.cells #[.int .u8 x.typ, .int .u32 x.id, .int .u32 x.adv] 55)) w3.heap.size 55 [.int .u8 x.typ, .int .u32 x.id, .int .u32 x.adv] := row_new _ _ _
  have HS4 := HS3.keepN t4
  have R4 := R3.keep t4
  have T4 := T3.trans t4
  have g01 : g0 ≠ w3.heap.size := by have := R3.lt; omega
  have g1lt : Hid (∀ k, LB L m e (l1 ++ i :: l2) k → k < w3.heap.size) := fun k hk => HS3.lb_lt hk
  clear HS3 R3 T3 t4
  go_upto_region 4 with fail
  generalize (w3.alloc (.cells #[.int .u8 x.typ, .int .u32 x.id, .int .u32 x.adv] 55)) = w4 at *
  generalize w3.heap.size = g1 at *
  have q0 : w4.cell? ⟨L, 2, none⟩ = some (.map (some m)) := HS4.row.cell 2
  have k0 : w4.cell? ⟨g1, 0, none⟩ = some (.int .u8 x.typ) := K4.cell 0
  have k1 : w4.cell? ⟨g1, 1, none⟩ = some (.int .u32 x.id) := K4.cell 1
  have k2 : w4.cell? ⟨g1, 2, none⟩ = some (.int .u32 x.adv) := K4.cell 2
  have hL := HS4.row.lt
  have hk := K4.lt
  have hl1 : (Instr.lookup 61 (.map (some m)) (.agg #[.int .u8 x.typ, .int .u32 x.id, .int .u32 x.adv]) true).run Try.prog w4.drew = .ok (.tuple #[.pointer (some ⟨i.b, 0, none⟩), .bool true]) w4.drew := (HS4.map.keep ((Touch.refl (fun _ => False) w4).drew) (fun h => h)).hit HS4.ok HS4.ky HX.out HN.out.1
  have X : Hid (LSt w4.drew L m e rx wt (l1 ++ i :: l2) ∧ Row w4.drew g0 25 [.int .u16 x.age, .int .u8 x.opts, .int .u8 x.typ, .int .u32 x.id, .int .u32 x.adv, .int .i32 x.seq, .int .u16 x.sum, .int .u16 x.len] ∧ Row w4.drew g1 55 [.int .u8 x.typ, .int .u32 x.id, .int .u32 x.adv] ∧ Touch (fun _ => False) w w4.drew) := ⟨HS4.keepN ((Touch.refl _ _).drew), R4.keep ((Touch.refl _ _).drew), K4.keep ((Touch.refl _ _).drew), T4.drew⟩
  clear HS4 R4 K4 T4
  have HIB : Hid (i.b = i.b) := rfl
  obtain ⟨ib, hib⟩ : ∃ ib, i.b = ib := ⟨_, rfl⟩
  rw [hib] at hl1
  replace HIB : Hid (i.b = ib) := hib
  clear hib
  go_cut [6, 7] (fun s6 s7 wx => s6 = .pointer (some ⟨ib, 0, none⟩) ∧ s7 = .bool true ∧ wx = w4.drew)
  case first =>
    go_region
    all_goals go_wp2_with fail
    all_goals go_meet
    all_goals exact ⟨rfl, rfl, rfl⟩
  case rest =>
    obtain ⟨rfl, rfl, rfl⟩ := hcut
    obtain ⟨HS5, R5, K5, T5⟩ := X.out
    clear X q0 k0 k1 k2 hL hk hl1
    generalize w4.drew = w5 at *
    have RI := HS5.ring.seg.row
    have hA := (HS5.ok i (by simp)).ok
    rw [HIB.out] at RI
    obtain ⟨n, hn⟩ : ∃ n, i.h.new15 x = n := ⟨_, rfl⟩
    have hnb : n = -1 ∨ n = 1 := by
      rw [← hn]
      rcases new15_tri i.h x with h | h | h
      · exact Or.inl h
      · exact absurd h HN.out.2
      · exact Or.inr h
    have HNW : Hid (∀ w', Calls Try.prog 30 #[.agg #[.int .u16 i.h.age, .int .u8 i.h.opts, .int .u8 i.h.typ, .int .u32 i.h.id, .int .u32 i.h.adv, .int .i32 i.h.seq, .int .u16 i.h.sum, .int .u16 i.h.len], .agg #[.int .u16 x.age, .int .u8 x.opts, .int .u8 x.typ, .int .u32 x.id, .int .u32 x.adv, .int .i32 x.seq, .int .u16 x.sum, .int .u16 x.len]] w' fun e' w'' => e' = .returned (.int .i64 n) ∧ Touch (fun _ => False) w' w'') := fun w' => pnew15 i.h x hA HX.out.ok n hn w'
    have ai0 := aft_cell (show w5.cell? ⟨ib, 0, none⟩ = some (.int .u16 i.h.age) from RI.cell 0)
    have ai1 := aft_cell (show w5.cell? ⟨ib, 1, none⟩ = some (.int .u8 i.h.opts) from RI.cell 1)
    have ai2 := aft_cell (show w5.cell? ⟨ib, 2, none⟩ = some (.int .u8 i.h.typ) from RI.cell 2)
    have ai3 := aft_cell (show w5.cell? ⟨ib, 3, none⟩ = some (.int .u32 i.h.id) from RI.cell 3)
    have ai4 := aft_cell (show w5.cell? ⟨ib, 4, none⟩ = some (.int .u32 i.h.adv) from RI.cell 4)
    have ai5 := aft_cell (show w5.cell? ⟨ib, 5, none⟩ = some (.int .i32 i.h.seq) from RI.cell 5)
    have ai6 := aft_cell (show w5.cell? ⟨ib, 6, none⟩ = some (.int .u16 i.h.sum) from RI.cell 6)
    have ai7 := aft_cell (show w5.cell? ⟨ib, 7, none⟩ = some (.int .u16 i.h.len) from RI.cell 7)
    have ax0 := aft_cell (show w5.cell? ⟨g0, 0, none⟩ = some (.int .u16 x.age) from R5.cell 0)
    have ax1 := aft_cell (show w5.cell? ⟨g0, 1, none⟩ = some (.int .u8 x.opts) from R5.cell 1)
    have ax2 := aft_cell (show w5.cell? ⟨g0, 2, none⟩ = some (.int .u8 x.typ) from R5.cell 2)
    have ax3 := aft_cell (show w5.cell? ⟨g0, 3, none⟩ = some (.int .u32 x.id) from R5.cell 3)
    have ax4 := aft_cell (show w5.cell? ⟨g0, 4, none⟩ = some (.int .u32 x.adv) from R5.cell 4)
    have ax5 := aft_cell (show w5.cell? ⟨g0, 5, none⟩ = some (.int .i32 x.seq) from R5.cell 5)
    have ax6 := aft_cell (show w5.cell? ⟨g0, 6, none⟩ = some (.int .u16 x.sum) from R5.cell 6)
    have ax7 := aft_cell (show w5.cell? ⟨g0, 7, none⟩ = some (.int .u16 x.len) from R5.cell 7)
    have T5h : Hid (Touch (fun _ => False) w w5) := T5
    clear HS5 R5 K5 T5 RI hA hn
    rcases hnb with rfl | rfl
    all_goals
      go_upto_region 5 with fail
      refine wp_region_aft (by kernel_rfl) (by kernel_rfl) ?_
      repeat (first | go_big_quiet_skip | (go_big_quiet_want; go_big_quiet_op; first | go_big_quiet_on | (refine Exists.intro _ ⟨fun _ => rfl, ?_⟩; go_big_quiet_on)))
      go_big_quiet_want; go_big_quiet_op; refine Exists.intro _ ⟨fun u => Aft.call (HNW.out _), ?_⟩; go_big_quiet_on
      repeat (first | go_big_quiet_skip | (go_big_quiet_want; go_big_quiet_op; first | go_big_quiet_on | (refine Exists.intro _ ⟨fun _ => rfl, ?_⟩; go_big_quiet_on)))
      refine wpQuiet_nil ?_
      rintro wq ⟨⟨_, hgq⟩, rfl⟩
      clear ai0 ax0 ai1 ax1 ai2 ax2 ai3 ax3 ai4 ax4 ai5 ax5 ai6 ax6 ai7 ax7
      go_wp2_with fail
      go_ret
      exact ⟨rfl, T5h.out.trans hgq⟩
set_option maxHeartbeats 4000000 in
theorem lconf_same (w : World) (L m e : Nat) (rx wt : Int) (l1 l2 : List It) (i : It) (h : LSt w L m e rx wt (l1 ++ i :: l2)) (hr : rx ≠ 0) (x : HV) (hx : x.Al) (hn : i.h.ky = x.ky ∧ i.h.new15 x = 0) : Calls Try.prog 24 #[.pointer (some ⟨L, 0, none⟩), .agg #[.int .u16 x.age, .int .u8 x.opts, .int .u8 x.typ, .int .u32 x.id, .int .u32 x.adv, .int .i32 x.seq, .int .u16 x.sum, .int .u16 x.len]] w fun e' w' => e' = .returned (.bool true) ∧ LSt w' L m e rx wt (l1 ++ l2) ∧ Touch (LB L m e (l1 ++ i :: l2)) w w' := by
  have T0 : Touch (fun _ => False) w (w.alloc (.cells #[.int .u16 x.age, .int .u8 x.opts, .int .u8 x.typ, .int .u32 x.id, .int .u32 x.adv, .int .i32 x.seq, .int .u16 x.sum, .int .u16 x.len] 25)) := (Touch.refl _ _).alloc _
  have R0 : Row (w.alloc (.cells #[.int .u16 x.age, .int .u8 x.opts, .int .u8 x.typ, .int .u32 x.id, .int .u32 x.adv, .int .i32 x.seq, .int .u16 x.sum, .int .u16 x.len] 25)) w.heap.size 25 [.int .u16 x.age, .int .u8 x.opts, .int .u8 x.typ, .int .u32 x.id, .int .u32 x.adv, .int .i32 x.seq, .int .u16 x.sum, .int .u16 x.len] := row_new _ _ _
  have HS0 := h.keepN T0
  have HM := lmade_yes (w.alloc (.cells #[.int .u16 x.age, .int .u8 x.opts, .int .u8 x.typ, .int .u32 x.id, .int .u32 x.adv, .int .i32 x.seq, .int .u16 x.sum, .int .u16 x.len] 25)) L rx hr (HS0.row.cell 0)
  have hz : Hid (∀ k, LB L m e (l1 ++ i :: l2) k → k < w.heap.size) := fun k hk => h.lb_lt hk
  have HX : Hid x.Al := hx
  have HN : Hid (i.h.ky = x.ky ∧ i.h.new15 x = 0) := hn
  clear h hr hx hn
  go_enter Try.func24, Try.ntmps24
  go_wp2_with fail
  generalize (w.alloc (.cells #[.int .u16 x.age, .int .u8 x.opts, .int .u8 x.typ, .int .u32 x.id, .int .u32 x.adv, .int .i32 x.seq, .int .u16 x.sum, .int .u16 x.len] 25)) = w0 at *
  obtain ⟨g0, hg0⟩ : ∃ g, w.heap.size = g := ⟨_, rfl⟩
  rw [hg0] at R0 hz ⊢
  clear hg0
  refine Calls.mono HM ?_
  rintro e' w1 ⟨rfl, rfl⟩
  clear HM
  have p0 : w0.cell? ⟨g0, 0, none⟩ = some (.int .u16 x.age) := R0.cell 0
  have p1 : w0.cell? ⟨g0, 1, none⟩ = some (.int .u8 x.opts) := R0.cell 1
  have p2 : w0.cell? ⟨g0, 2, none⟩ = some (.int .u8 x.typ) := R0.cell 2
  have p3 : w0.cell? ⟨g0, 3, none⟩ = some (.int .u32 x.id) := R0.cell 3
  have p4 : w0.cell? ⟨g0, 4, none⟩ = some (.int .u32 x.adv) := R0.cell 4
  have p5 : w0.cell? ⟨g0, 5, none⟩ = some (.int .i32 x.seq) := R0.cell 5
  have p6 : w0.cell? ⟨g0, 6, none⟩ = some (.int .u16 x.sum) := R0.cell 6
  have p7 : w0.cell? ⟨g0, 7, none⟩ = some (.int .u16 x.len) := R0.cell 7
  have hg := R0.lt
  have X : Hid (LSt w0 L m e rx wt (l1 ++ i :: l2) ∧ Row w0 g0 25 [.int .u16 x.age, .int .u8 x.opts, .int .u8 x.typ, .int .u32 x.id, .int .u32 x.adv, .int .i32 x.seq, .int .u16 x.sum, .int .u16 x.len] ∧ Touch (fun _ => False) w w0) := ⟨HS0, R0, T0⟩
  clear HS0 R0 T0
  go_wp2_with fail
  refine Calls.mono (lkey_any _ x) ?_
  rintro e' w3 ⟨rfl, t3⟩
  obtain ⟨HS0, R0, T0⟩ := X.out
  clear X p0 p1 p2 p3 p4 p5 p6 p7 hg
  have HS3 := HS0.keepN t3
  have R3 := R0.keep t3
  have T3 := T0.trans t3
  clear HS0 R0 T0 t3
  have t4 : Touch (fun _ => False) w3 (w3.alloc (.cells #[.int .u8 x.typ, .int .u32 x.id, .int .u32 x.adv] 55)) := (Touch.refl _ _).alloc _
  have K4 : Row (w3.alloc (.cells #[.int .u8 x.typ, .int .u32 x.id, .int .u32 x.adv] 55)) w3.heap.size 55 [.int .u8 x.typ, .int .u32 x.id, .int .u32 x.adv] := row_new _ _ _
  have HS4 := HS3.keepN t4
  have R4 := R3.keep t4
  have T4 := T3.trans t4
  have g01 : g0 ≠ w3.heap.size := by have := R3.lt; omega
  have g1lt : Hid (∀ k, LB L m e (l1 ++ i :: l2) k → k < w3.heap.size) := fun k hk => HS3.lb_lt hk
  clear HS3 R3 T3 t4
  go_upto_region 4 with fail
  generalize (w3.alloc (.cells #[.int .u8 x.typ, .int .u32 x.id, .int .u32 x.adv] 55)) = w4 at *
  generalize w3.heap.size = g1 at *
  have q0 : w4.cell? ⟨L, 2, none⟩ = some (.map (some m)) := HS4.row.cell 2
  have k0 : w4.cell? ⟨g1, 0, none⟩ = some (.int .u8 x.typ) := K4.cell 0
  have k1 : w4.cell? ⟨g1, 1, none⟩ = some (.int .u32 x.id) := K4.cell 1
  have k2 : w4.cell? ⟨g1, 2, none⟩ = some (.int .u32 x.adv) := K4.cell 2
  have hL := HS4.row.lt
  have hk := K4.lt
  have hl1 : (Instr.lookup 61 (.map (some m)) (.agg #[.int .u8 x.typ, .int .u32 x.id, .int .u32 x.adv]) true).run Try.prog w4.drew = .ok (.tuple #[.pointer (some ⟨i.b, 0, none⟩), .bool true]) w4.drew := (HS4.map.keep ((Touch.refl (fun _ => False) w4).drew) (fun h => h)).hit HS4.ok HS4.ky HX.out HN.out.1
  have X : Hid (LSt w4.drew L m e rx wt (l1 ++ i :: l2) ∧ Row w4.drew g0 25 [.int .u16 x.age, .int .u8 x.opts, .int .u8 x.typ, .int .u32 x.id, .int .u32 x.adv, .int .i32 x.seq, .int .u16 x.sum, .int .u16 x.len] ∧ Row w4.drew g1 55 [.int .u8 x.typ, .int .u32 x.id, .int .u32 x.adv] ∧ Touch (fun _ => False) w w4.drew) := ⟨HS4.keepN ((Touch.refl _ _).drew), R4.keep ((Touch.refl _ _).drew), K4.keep ((Touch.refl _ _).drew), T4.drew⟩
  clear HS4 R4 K4 T4
  have HIB : Hid (i.b = i.b) := rfl
  obtain ⟨ib, hib⟩ : ∃ ib, i.b = ib := ⟨_, rfl⟩
  rw [hib] at hl1
  replace HIB : Hid (i.b = ib) := hib
  clear hib
  go_cut [6, 7] (fun s6 s7 wx => s6 = .pointer (some ⟨ib, 0, none⟩) ∧ s7 = .bool true ∧ wx = w4.drew)
  case first =>
    go_region
    all_goals go_wp2_with fail
    all_goals go_meet
    all_goals exact ⟨rfl, rfl, rfl⟩
  case rest =>
    obtain ⟨rfl, rfl, rfl⟩ := hcut
    obtain ⟨HS5, R5, K5, T5⟩ := X.out
    clear X q0 k0 k1 k2 hL hk hl1
    generalize w4.drew = w5 at *
    have RI := HS5.ring.seg.row
    have hA := (HS5.ok i (by simp)).ok
    rw [HIB.out] at RI
    have HNW : Hid (∀ w', Calls Try.prog 30 #[.agg #[.int .u16 i.h.age, .int .u8 i.h.opts, .int .u8 i.h.typ, .int .u32 i.h.id, .int .u32 i.h.adv, .int .i32 i.h.seq, .int .u16 i.h.sum, .int .u16 i.h.len], .agg #[.int .u16 x.age, .int .u8 x.opts, .int .u8 x.typ, .int .u32 x.id, .int .u32 x.adv, .int .i32 x.seq, .int .u16 x.sum, .int .u16 x.len]] w' fun e' w'' => e' = .returned (.int .i64 0) ∧ Touch (fun _ => False) w' w'') := fun w' => pnew15 i.h x hA HX.out.ok 0 HN.out.2 w'
    have ci0 : w5.cell? ⟨ib, 0, none⟩ = some (.int .u16 i.h.age) := RI.cell 0
    have ci1 : w5.cell? ⟨ib, 1, none⟩ = some (.int .u8 i.h.opts) := RI.cell 1
    have ci2 : w5.cell? ⟨ib, 2, none⟩ = some (.int .u8 i.h.typ) := RI.cell 2
    have ci3 : w5.cell? ⟨ib, 3, none⟩ = some (.int .u32 i.h.id) := RI.cell 3
    have ci4 : w5.cell? ⟨ib, 4, none⟩ = some (.int .u32 i.h.adv) := RI.cell 4
    have ci5 : w5.cell? ⟨ib, 5, none⟩ = some (.int .i32 i.h.seq) := RI.cell 5
    have ci6 : w5.cell? ⟨ib, 6, none⟩ = some (.int .u16 i.h.sum) := RI.cell 6
    have ci7 : w5.cell? ⟨ib, 7, none⟩ = some (.int .u16 i.h.len) := RI.cell 7
    have cx0 : w5.cell? ⟨g0, 0, none⟩ = some (.int .u16 x.age) := R5.cell 0
    have cx1 : w5.cell? ⟨g0, 1, none⟩ = some (.int .u8 x.opts) := R5.cell 1
    have cx2 : w5.cell? ⟨g0, 2, none⟩ = some (.int .u8 x.typ) := R5.cell 2
    have cx3 : w5.cell? ⟨g0, 3, none⟩ = some (.int .u32 x.id) := R5.cell 3
    have cx4 : w5.cell? ⟨g0, 4, none⟩ = some (.int .u32 x.adv) := R5.cell 4
    have cx5 : w5.cell? ⟨g0, 5, none⟩ = some (.int .i32 x.seq) := R5.cell 5
    have cx6 : w5.cell? ⟨g0, 6, none⟩ = some (.int .u16 x.sum) := R5.cell 6
    have cx7 : w5.cell? ⟨g0, 7, none⟩ = some (.int .u16 x.len) := R5.cell 7
    have hI := RI.lt
    have hG := R5.lt
    have Y : Hid (LSt w5 L m e rx wt (l1 ++ i :: l2) ∧ Row w5 g1 55 [.int .u8 x.typ, .int .u32 x.id, .int .u32 x.adv] ∧ Touch (fun _ => False) w w5) := ⟨HS5, K5, T5⟩
    clear HS5 R5 K5 T5 RI hA
    have ZZ : Hid (∀ w', Touch (fun _ => False) w5 w' → Row w' g1 55 [.int .u8 x.typ, .int .u32 x.id, .int .u32 x.adv]) := fun w' t => Y.out.2.1.keep t
    have RM : Hid (∀ w', Touch (fun _ => False) w5 w' → Calls Try.prog 39 #[.pointer (some ⟨L, 0, none⟩), .agg #[.int .u8 x.typ, .int .u32 x.id, .int .u32 x.adv]] w' fun e' w'' => e' = .returned (.bool true) ∧ LSt w'' L m e rx wt (l1 ++ l2) ∧ Touch (LB L m e (l1 ++ i :: l2)) w w'') := fun w' t => (lrem_some w' L m e rx wt l1 l2 i (Y.out.1.keepN t) x HX.out HN.out.1).mono fun e' w'' ⟨h1, h2, h3⟩ => ⟨h1, h2, ((Y.out.2.2.trans t).mono (fun _ _ f => f.elim)).trans h3⟩
    clear Y
    go_upto_region 5 with fail
    go_region_with (first | (go_at_call 30; refine Calls.mono (HNW.out _) ?_; rintro e' w6 ⟨rfl, t6⟩; have tt : Hid (Touch (fun _ => False) w5 w6) := (Touch.refl _ _).drew.trans t6; have K6 := ZZ.out _ tt.out; have kk0 : w6.cell? ⟨g1, 0, none⟩ = some (.int .u8 x.typ) := K6.cell 0; have kk1 : w6.cell? ⟨g1, 1, none⟩ = some (.int .u32 x.id) := K6.cell 1; have kk2 : w6.cell? ⟨g1, 2, none⟩ = some (.int .u32 x.adv) := K6.cell 2; have hkk : g1 < w6.heap.size := K6.lt; clear K6 t6) | (go_at_call 39; refine Calls.mono (RM.out _ tt.out) ?_; rintro e' w7 ⟨rfl, HS7, T7⟩))
    all_goals go_wp2_with fail
    all_goals go_ret
    all_goals exact ⟨rfl, HS7, T7⟩
theorem lconf_any (w : World) (L m e : Nat) (rx wt : Int) (l : List It) (h : LSt w L m e rx wt l) (hr : rx ≠ 0) (x : HV) (hx : x.Al)  : Calls Try.prog 24 #[.pointer (some ⟨L, 0, none⟩), .agg #[.int .u16 x.age, .int .u8 x.opts, .int .u8 x.typ, .int .u32 x.id, .int .u32 x.adv, .int .i32 x.seq, .int .u16 x.sum, .int .u16 x.len]] w fun e' w' => e' = .returned (.bool (l.any (fun i => i.h.sk x && (i.h.new15 x == 0)))) ∧ LSt w' L m e rx wt (l.filter (fun i => !(i.h.sk x && (i.h.new15 x == 0)))) ∧ Touch (LB L m e l) w w' := by
  rcases key_in l x with hn | ⟨l1, i, l2, rfl, hi⟩
  · have hf : ∀ i ∈ l, (i.h.sk x && (i.h.new15 x == 0)) = false := fun i hi => by
      have := hn i hi
      rw [ne_eq, ky_iff] at this
      simp [this]
    refine (lconf_none w L m e rx wt l h hr x hx hn).mono fun e' w' ⟨he, t⟩ => ⟨?_, ?_, t.mono (fun _ _ f => f.elim)⟩
    · rw [he, List.any_eq_false.2 (fun i hi => by rw [hf i hi]; simp)]
    · rw [List.filter_eq_self.2 (fun i hi => by rw [hf i hi]; rfl)]
      exact h.keepN t
  · have hsk := (ky_iff _ _).1 hi
    by_cases hz : i.h.new15 x = 0
    · refine (lconf_same w L m e rx wt l1 l2 i h hr x hx ⟨hi, hz⟩).mono fun e' w' ⟨he, s, t⟩ => ⟨?_, ?_, t⟩
      · rw [he, List.any_eq_true.2 ⟨i, by simp, by simp [hsk, hz]⟩]
      · have e1 : (l1 ++ i :: l2).filter (fun i => !(i.h.sk x && (i.h.new15 x == 0))) = l1 ++ l2 := by
          have nd := h.ky
          rw [List.map_append, List.map_cons] at nd
          obtain ⟨na, nb, nc⟩ := List.nodup_append.1 nd
          have a1 : ∀ j ∈ l1, (!(j.h.sk x && (j.h.new15 x == 0))) = true := fun j hj => by
            have : j.h.ky ≠ x.ky := fun e => nc j.h.ky (List.mem_map.2 ⟨j, hj, rfl⟩) i.h.ky (by simp) (e.trans hi.symm)
            rw [ne_eq, ky_iff] at this
            simp [this]
          have a2 : ∀ j ∈ l2, (!(j.h.sk x && (j.h.new15 x == 0))) = true := fun j hj => by
            have : j.h.ky ≠ x.ky := fun e => (List.nodup_cons.1 nb).1 (List.mem_map.2 ⟨j, hj, e.trans hi.symm⟩)
            rw [ne_eq, ky_iff] at this
            simp [this]
          rw [List.filter_append, List.filter_cons, List.filter_eq_self.2 a1, List.filter_eq_self.2 a2]
          simp [hsk, hz]
        rw [e1]
        exact s
    · have hf : ∀ j ∈ l1 ++ i :: l2, (j.h.sk x && (j.h.new15 x == 0)) = false := fun j hj => by
        by_cases hs : j.h.sk x = true
        · have e1 : j.h.ky = i.h.ky := ((ky_iff _ _).2 hs).trans hi.symm
          have e2 : j = i := by
            obtain ⟨a, ha⟩ := List.mem_iff_getElem?.1 hj
            have hb : (l1 ++ i :: l2)[l1.length]? = some i := by simp
            have := (List.getElem?_inj (i := a) (j := l1.length) (l := (l1 ++ i :: l2).map (fun j => j.h.ky)) (by simpa using (List.getElem?_eq_some_iff.1 ha).1) h.ky).1 (by rw [List.getElem?_map, List.getElem?_map, ha, hb]; simp [e1])
            rw [this, hb] at ha
            injection ha with ha
            exact ha.symm
          rw [e2]
          simp [hz]
        · simp [hs]
      refine (lconf_other w L m e rx wt l1 l2 i h hr x hx ⟨hi, hz⟩).mono fun e' w' ⟨he, t⟩ => ⟨?_, ?_, t.mono (fun _ _ f => f.elim)⟩
      · rw [he, List.any_eq_false.2 (fun i hi => by rw [hf i hi]; simp)]
      · rw [List.filter_eq_self.2 (fun i hi => by rw [hf i hi]; rfl)]
        exact h.keepN t
end Go.Proofs.Ytedolfggbgmklaa
