/- The document's ReadHead. -/
import Derived.Test.YtbfplepmgbkajaaGreatDoorRefSum
import Derived.Test.YtbfplepmgbkajaaGreatDoorBagKm
import Derived.Test.YtbfplepmgbkajaaGreatDoorPkPure
import Derived.Test.YtbfplepmgbkajaaGreatDoorPkIt4
import Derived.Test.YtbfplepmgbkajaaGreatDoorStRd3
import Derived.Deep.LoopGhost
import Derived.Deep.DeepCutAuto
namespace Go.Proofs.YtbfplepmgbkajaaGreatDoor
open Go.RowKit
set_option linter.unusedVariables false
set_option maxRecDepth 100000

theorem drew_cell (w : World) (p : Addr) : w.drew.cell? p = w.cell? p := rfl
theorem cell_far8 {w : World} {g g' : Nat} (hne : g ≠ g') (i : Nat) (u0 u1 u2 u3 u4 u5 u6 u7 : Value) : (((((((((w.setCell ⟨g', 0, none⟩ u0).setCell ⟨g', 1, none⟩ u1).setCell ⟨g', 2, none⟩ u2).setCell ⟨g', 3, none⟩ u3).setCell ⟨g', 4, none⟩ u4).setCell ⟨g', 5, none⟩ u5).setCell ⟨g', 6, none⟩ u6).setCell ⟨g', 7, none⟩ u7)).cell? ⟨g, i, none⟩ = w.cell? ⟨g, i, none⟩ := by
 rw [cell_far hne, cell_far hne, cell_far hne, cell_far hne, cell_far hne, cell_far hne, cell_far hne, cell_far hne]
/-- A row that says a number. -/
structure Nm (w : World) (u : Value) (n : Int) : Prop where
 out : ∃ l : List Int, ArgAt w u l ∧ (∀ x ∈ l, 0 ≤ x ∧ x < 256) ∧ l.length ≤ 4 ∧ numOf l = n
theorem number_sym {w : World} {u : Value} {n : Int} (h : Nm w u n) : Calls Tryz.prog 177 #[u] w fun e w' => e = .returned (.int .u32 n) ∧ w = w' := by
 obtain ⟨l, h1, h2, h3, rfl⟩ := h.out
 exact rnumber_any u l w h1 h2 h3
theorem list_take20 {l : List Int} (h : 20 ≤ l.length) : ∃ a b c d e f g i j k m n o p q r s t u v, l.take 20 = [a, b, c, d, e, f, g, i, j, k, m, n, o, p, q, r, s, t, u, v] := by
 obtain ⟨x, hx⟩ : ∃ x, x = l.take 20 := ⟨_, rfl⟩
 have hl : x.length = 20 := by rw [hx, List.length_take]; omega
 rw [← hx]
 match x, hl with
 | [a, b, c, d, e, f, g, i, j, k, m, n, o, p, q, r, s, t, u, v], _ => exact ⟨a, b, c, d, e, f, g, i, j, k, m, n, o, p, q, r, s, t, u, v, rfl⟩
theorem rdHead_take {l : List Int} (h : 20 ≤ l.length) : rdHead (l.take 20) = ⟨numOf (l.take 2), l.getD 2 0, l.getD 3 0, numOf ((l.drop 4).take 4), numOf ((l.drop 8).take 4), IntKind.i32.wrap (numOf ((l.drop 12).take 4)), numOf ((l.drop 16).take 2), numOf ((l.drop 18).take 2)⟩ := by
 obtain ⟨a, b, c, d, e, f, g, i, j, k, m, n, o, p, q, r, s, t, u, v, hx⟩ := list_take20 h
 have hl : l = [a, b, c, d, e, f, g, i, j, k, m, n, o, p, q, r, s, t, u, v] ++ l.drop 20 := by rw [← hx, List.take_append_drop]
 generalize l.drop 20 = z at hl
 rw [hx, hl]
 simp [rdHead, numAt, nextAt, numOf]

set_option maxHeartbeats 2000000 in
theorem dhead_good (v : Value) (rs : List Int) (w : World) (hv : ArgAt w v rs) (hby : ∀ z ∈ rs, 0 ≤ z ∧ z < 256) (hl : 20 ≤ rs.length) (H : HV) (hH : rdHead (rs.take 20) = H) :
  Calls Tryz.prog 147 #[v] w fun e w' => e = .returned (.tuple #[.agg #[.int .u16 H.age, .int .u8 H.opts, .int .u8 H.typ, .int .u32 H.id, .int .u32 H.adv, .int .i32 H.seq, .int .u16 H.sum, .int .u16 H.len], .int .i64 0]) ∧ Touch (fun _ => False) w w' := by
 obtain ⟨va, vc, rfl, hm⟩ := hv.form
 have hlt' : ¬ (rs.length : Int) < 20 := by omega
 have hi2 : (2 : Int) < (rs.length : Int) := by omega
 have hi3 : (3 : Int) < (rs.length : Int) := by omega
 have hj2 : 2 < rs.length := by omega
 have hj3 : 3 < rs.length := by omega
 rw [rdHead_take hl] at hH
 obtain ⟨u0, hu0, a0⟩ := cut_to hv rfl (by omega) 2 (by omega)
 replace hu0 : ∀ w, Sem.run Tryz.prog (Instr.slice 40 (.slice va rs.length vc) none (some (.int .i64 2)) none) w = .ok u0 w := hu0
 obtain ⟨u1, hu1, a1⟩ := cut_mid hv rfl (by omega) 4 8 (by omega) (by omega)
 replace hu1 : ∀ w, Sem.run Tryz.prog (Instr.slice 40 (.slice va rs.length vc) (some (.int .i64 4)) (some (.int .i64 8)) none) w = .ok u1 w := hu1
 obtain ⟨u2, hu2, a2⟩ := cut_mid hv rfl (by omega) 8 12 (by omega) (by omega)
 replace hu2 : ∀ w, Sem.run Tryz.prog (Instr.slice 40 (.slice va rs.length vc) (some (.int .i64 8)) (some (.int .i64 12)) none) w = .ok u2 w := hu2
 obtain ⟨u3, hu3, a3⟩ := cut_mid hv rfl (by omega) 12 16 (by omega) (by omega)
 replace hu3 : ∀ w, Sem.run Tryz.prog (Instr.slice 40 (.slice va rs.length vc) (some (.int .i64 12)) (some (.int .i64 16)) none) w = .ok u3 w := hu3
 obtain ⟨u4, hu4, a4⟩ := cut_mid hv rfl (by omega) 16 18 (by omega) (by omega)
 replace hu4 : ∀ w, Sem.run Tryz.prog (Instr.slice 40 (.slice va rs.length vc) (some (.int .i64 16)) (some (.int .i64 18)) none) w = .ok u4 w := hu4
 obtain ⟨u5, hu5, a5⟩ := cut_mid hv rfl (by omega) 18 20 (by omega) (by omega)
 replace hu5 : ∀ w, Sem.run Tryz.prog (Instr.slice 40 (.slice va rs.length vc) (some (.int .i64 18)) (some (.int .i64 20)) none) w = .ok u5 w := hu5
 obtain ⟨ga, oa, rfl⟩ := rowAt_some (hv.row (by omega)) (by omega)
 have hg := lt_of_cell (rowAt_cell (hv.row (by omega)) 2 (by omega))
 have b2 := rowAt_cell (hv.row (by omega)) 2 (by omega)
 have b3 := rowAt_cell (hv.row (by omega)) 3 (by omega)
 have B0 : ∀ x ∈ rs.take 2, 0 ≤ x ∧ x < 256 := fun x hx => hby x (List.mem_of_mem_take hx)
 have L0 : (rs.take 2).length ≤ 2 := by simp [List.length_take]; omega
 have N0 := numOf_bound (rs.take 2) B0
 have M0 : Nm ((w.alloc (.cells #[.int .u16 0, .int .u8 0, .int .u8 0, .int .u32 0, .int .u32 0, .int .i32 0, .int .u16 0, .int .u16 0] 93)).drew) u0 (numOf (rs.take 2)) := ⟨_, a0.keepN (((Touch.refl _ w).alloc _).drew), B0, by omega, rfl⟩
 have B1 : ∀ x ∈ (rs.drop 4).take (8 - 4), 0 ≤ x ∧ x < 256 := fun x hx => hby x (List.mem_of_mem_drop (List.mem_of_mem_take hx))
 have L1 : ((rs.drop 4).take (8 - 4)).length ≤ 4 := by simp [List.length_take]; omega
 have N1 := numOf_bound ((rs.drop 4).take (8 - 4)) B1
 have M1 : Nm ((w.alloc (.cells #[.int .u16 0, .int .u8 0, .int .u8 0, .int .u32 0, .int .u32 0, .int .i32 0, .int .u16 0, .int .u16 0] 93)).drew) u1 (numOf ((rs.drop 4).take (8 - 4))) := ⟨_, a1.keepN (((Touch.refl _ w).alloc _).drew), B1, by omega, rfl⟩
 have B2 : ∀ x ∈ (rs.drop 8).take (12 - 8), 0 ≤ x ∧ x < 256 := fun x hx => hby x (List.mem_of_mem_drop (List.mem_of_mem_take hx))
 have L2 : ((rs.drop 8).take (12 - 8)).length ≤ 4 := by simp [List.length_take]; omega
 have N2 := numOf_bound ((rs.drop 8).take (12 - 8)) B2
 have M2 : Nm ((w.alloc (.cells #[.int .u16 0, .int .u8 0, .int .u8 0, .int .u32 0, .int .u32 0, .int .i32 0, .int .u16 0, .int .u16 0] 93)).drew) u2 (numOf ((rs.drop 8).take (12 - 8))) := ⟨_, a2.keepN (((Touch.refl _ w).alloc _).drew), B2, by omega, rfl⟩
 have B3 : ∀ x ∈ (rs.drop 12).take (16 - 12), 0 ≤ x ∧ x < 256 := fun x hx => hby x (List.mem_of_mem_drop (List.mem_of_mem_take hx))
 have L3 : ((rs.drop 12).take (16 - 12)).length ≤ 4 := by simp [List.length_take]; omega
 have N3 := numOf_bound ((rs.drop 12).take (16 - 12)) B3
 have M3 : Nm ((w.alloc (.cells #[.int .u16 0, .int .u8 0, .int .u8 0, .int .u32 0, .int .u32 0, .int .i32 0, .int .u16 0, .int .u16 0] 93)).drew) u3 (numOf ((rs.drop 12).take (16 - 12))) := ⟨_, a3.keepN (((Touch.refl _ w).alloc _).drew), B3, by omega, rfl⟩
 have B4 : ∀ x ∈ (rs.drop 16).take (18 - 16), 0 ≤ x ∧ x < 256 := fun x hx => hby x (List.mem_of_mem_drop (List.mem_of_mem_take hx))
 have L4 : ((rs.drop 16).take (18 - 16)).length ≤ 2 := by simp [List.length_take]; omega
 have N4 := numOf_bound ((rs.drop 16).take (18 - 16)) B4
 have M4 : Nm ((w.alloc (.cells #[.int .u16 0, .int .u8 0, .int .u8 0, .int .u32 0, .int .u32 0, .int .i32 0, .int .u16 0, .int .u16 0] 93)).drew) u4 (numOf ((rs.drop 16).take (18 - 16))) := ⟨_, a4.keepN (((Touch.refl _ w).alloc _).drew), B4, by omega, rfl⟩
 have B5 : ∀ x ∈ (rs.drop 18).take (20 - 18), 0 ≤ x ∧ x < 256 := fun x hx => hby x (List.mem_of_mem_drop (List.mem_of_mem_take hx))
 have L5 : ((rs.drop 18).take (20 - 18)).length ≤ 2 := by simp [List.length_take]; omega
 have N5 := numOf_bound ((rs.drop 18).take (20 - 18)) B5
 have M5 : Nm ((w.alloc (.cells #[.int .u16 0, .int .u8 0, .int .u8 0, .int .u32 0, .int .u32 0, .int .i32 0, .int .u16 0, .int .u16 0] 93)).drew) u5 (numOf ((rs.drop 18).take (20 - 18))) := ⟨_, a5.keepN (((Touch.refl _ w).alloc _).drew), B5, by omega, rfl⟩
 simp only [show (8 - 4 : Nat) = 4 from rfl, show (18 - 16 : Nat) = 2 from rfl] at *
 have P0 : (256 : Int) ^ (rs.take 2).length ≤ 65536 := by rcases (by omega : (rs.take 2).length = 0 ∨ (rs.take 2).length = 1 ∨ (rs.take 2).length = 2) with e | e | e <;> rw [e] <;> decide
 have w0 : IntKind.u16.wrap (numOf (rs.take 2)) = numOf (rs.take 2) := by simp [IntKind.wrap, IntKind.bits, IntKind.signed]; omega
 have P4 : (256 : Int) ^ ((rs.drop 16).take 2).length ≤ 65536 := by rcases (by omega : ((rs.drop 16).take 2).length = 0 ∨ ((rs.drop 16).take 2).length = 1 ∨ ((rs.drop 16).take 2).length = 2) with e | e | e <;> rw [e] <;> decide
 have w4 : IntKind.u16.wrap (numOf ((rs.drop 16).take 2)) = numOf ((rs.drop 16).take 2) := by simp [IntKind.wrap, IntKind.bits, IntKind.signed]; omega
 have P5 : (256 : Int) ^ ((rs.drop 18).take 2).length ≤ 65536 := by rcases (by omega : ((rs.drop 18).take 2).length = 0 ∨ ((rs.drop 18).take 2).length = 1 ∨ ((rs.drop 18).take 2).length = 2) with e | e | e <;> rw [e] <;> decide
 have w5 : IntKind.u16.wrap (numOf ((rs.drop 18).take 2)) = numOf ((rs.drop 18).take 2) := by simp [IntKind.wrap, IntKind.bits, IntKind.signed]; omega
 generalize numOf (rs.take 2) = n0 at *
 generalize numOf ((rs.drop 4).take 4) = n1 at *
 generalize numOf ((rs.drop 8).take 4) = n2 at *
 generalize numOf ((rs.drop 12).take 4) = n3 at *
 generalize numOf ((rs.drop 16).take 2) = n4 at *
 generalize numOf ((rs.drop 18).take 2) = n5 at *
 generalize rs.getD 2 0 = m2 at *
 generalize rs.getD 3 0 = m3 at *
 subst hH
 clear N0 N1 N2 N3 N4 N5 B0 B1 B2 B3 B4 B5 L0 L1 L2 L3 L4 L5 P0 P4 P5 a0 a1 a2 a3 a4 a5 hby hv hl
 go_enter Tryz.func147, Tryz.ntmps147
 go_upto_region 3 with fail
 have R1 : Hid (R8 (w.alloc (.cells #[.int .u16 0, .int .u8 0, .int .u8 0, .int .u32 0, .int .u32 0, .int .i32 0, .int .u16 0, .int .u16 0] 93)) w.heap.size (.int .u16 0) (.int .u8 0) (.int .u8 0) (.int .u32 0) (.int .u32 0) (.int .i32 0) (.int .u16 0) (.int .u16 0)) := by show R8 _ _ _ _ _ _ _ _ _ _; unfold R8; simp [go_sem]
 have T1 : Hid (Touch (fun _ => False) w (w.alloc (.cells #[.int .u16 0, .int .u8 0, .int .u8 0, .int .u32 0, .int .u32 0, .int .i32 0, .int .u16 0, .int .u16 0] 93))) := (Touch.refl _ w).alloc _
 have x2 : (w.alloc (.cells #[.int .u16 0, .int .u8 0, .int .u8 0, .int .u32 0, .int .u32 0, .int .i32 0, .int .u16 0, .int .u16 0] 93)).cell? ⟨ga, oa + 2, none⟩ = some (.int .u8 m2) := ((Touch.refl (fun _ => False) w).alloc _).cellN b2
 have x3 : (w.alloc (.cells #[.int .u16 0, .int .u8 0, .int .u8 0, .int .u32 0, .int .u32 0, .int .i32 0, .int .u16 0, .int .u16 0] 93)).cell? ⟨ga, oa + 3, none⟩ = some (.int .u8 m3) := ((Touch.refl (fun _ => False) w).alloc _).cellN b3
 have y2 : (w.alloc (.cells #[.int .u16 0, .int .u8 0, .int .u8 0, .int .u32 0, .int .u32 0, .int .i32 0, .int .u16 0, .int .u16 0] 93)).drew.cell? ⟨ga, oa + 2, none⟩ = some (.int .u8 m2) := (((Touch.refl (fun _ => False) w).alloc _).drew).cellN b2
 have y3 : (w.alloc (.cells #[.int .u16 0, .int .u8 0, .int .u8 0, .int .u32 0, .int .u32 0, .int .i32 0, .int .u16 0, .int .u16 0] 93)).drew.cell? ⟨ga, oa + 3, none⟩ = some (.int .u8 m3) := (((Touch.refl (fun _ => False) w).alloc _).drew).cellN b3
 have hne : ga ≠ w.heap.size := by omega
 have hne' : ¬ ga = w.heap.size := hne
 have hne2 : ¬ w.heap.size = ga := fun e => hne e.symm
 clear b2 b3
 generalize hg1 : w.heap.size = g at *
 have HG1 : Hid (w.heap.size = g) := hg1
 generalize w.alloc (.cells #[.int .u16 0, .int .u8 0, .int .u8 0, .int .u32 0, .int .u32 0, .int .i32 0, .int .u16 0, .int .u16 0] 93) = w1 at *
 clear hg1
 obtain ⟨zc0, zf0, zc1, zf1, zc2, zf2, zc3, zf3, zc4, zf4, zc5, zf5, zc6, zf6, zc7, zf7⟩ := R1.out
 clear R1
 go_region_held3 (fun w' => w'.cell? ⟨ga, oa + 2, none⟩ = some (.int .u8 m2) ∧ w'.cell? ⟨ga, oa + 3, none⟩ = some (.int .u8 m3)) (first | with_reducible exact ⟨y2, y3⟩ | with_reducible exact ⟨((drew_cell _ _).trans (cell_far8 hne _ _ _ _ _ _ _ _ _)).trans x2, ((drew_cell _ _).trans (cell_far8 hne _ _ _ _ _ _ _ _ _)).trans x3⟩ | go_keep) (first
  | (go_at_call 177; refine Calls.mono (number_sym (by assumption)) ?_; rintro e wx ⟨rfl, rfl⟩))
 obtain ⟨wz, hwz⟩ : ∃ wz, wz = World.drew ((((((((w1.setCell ⟨g, 0, none⟩ (.int .u16 n0)).setCell ⟨g, 1, none⟩ (.int .u8 m2)).setCell ⟨g, 2, none⟩ (.int .u8 m3)).setCell ⟨g, 3, none⟩ (.int .u32 n1)).setCell ⟨g, 4, none⟩ (.int .u32 n2)).setCell ⟨g, 5, none⟩ (.int .i32 (IntKind.i32.wrap n3))).setCell ⟨g, 6, none⟩ (.int .u16 n4)).setCell ⟨g, 7, none⟩ (.int .u16 n5)) := ⟨_, rfl⟩
 have zd0 : wz.cell? ⟨g, 0, none⟩ = some (.int .u16 n0) := by rw [hwz]; simp [zc0, go_sem]
 have zd1 : wz.cell? ⟨g, 1, none⟩ = some (.int .u8 m2) := by rw [hwz]; simp [zc1, go_sem]
 have zd2 : wz.cell? ⟨g, 2, none⟩ = some (.int .u8 m3) := by rw [hwz]; simp [zc2, go_sem]
 have zd3 : wz.cell? ⟨g, 3, none⟩ = some (.int .u32 n1) := by rw [hwz]; simp [zc3, go_sem]
 have zd4 : wz.cell? ⟨g, 4, none⟩ = some (.int .u32 n2) := by rw [hwz]; simp [zc4, go_sem]
 have zd5 : wz.cell? ⟨g, 5, none⟩ = some (.int .i32 (IntKind.i32.wrap n3)) := by rw [hwz]; simp [zc5, go_sem]
 have zd6 : wz.cell? ⟨g, 6, none⟩ = some (.int .u16 n4) := by rw [hwz]; simp [zc6, go_sem]
 have zd7 : wz.cell? ⟨g, 7, none⟩ = some (.int .u16 n5) := by rw [hwz]; simp [zc7, go_sem]
 have HUz : Hid (Touch (fun k => k = g) w1 wz) := by show Touch _ _ _; rw [hwz]; refine Touch.drew ?_; refine Touch.setCell (F := fun k => k = g) (p := ⟨g, 7, none⟩) ?_ (Or.inl rfl) _; refine Touch.setCell (F := fun k => k = g) (p := ⟨g, 6, none⟩) ?_ (Or.inl rfl) _; refine Touch.setCell (F := fun k => k = g) (p := ⟨g, 5, none⟩) ?_ (Or.inl rfl) _; refine Touch.setCell (F := fun k => k = g) (p := ⟨g, 4, none⟩) ?_ (Or.inl rfl) _; refine Touch.setCell (F := fun k => k = g) (p := ⟨g, 3, none⟩) ?_ (Or.inl rfl) _; refine Touch.setCell (F := fun k => k = g) (p := ⟨g, 2, none⟩) ?_ (Or.inl rfl) _; refine Touch.setCell (F := fun k => k = g) (p := ⟨g, 1, none⟩) ?_ (Or.inl rfl) _; refine Touch.setCell (F := fun k => k = g) (p := ⟨g, 0, none⟩) ?_ (Or.inl rfl) _; exact Touch.refl _ _
 rw [← hwz]
 clear hwz zc0 zf0 zc1 zf1 zc2 zf2 zc3 zf3 zc4 zf4 zc5 zf5 zc6 zf6 zc7 zf7
 go_wp2_with fail
 refine bodyPost_ret (v := .tuple #[.agg #[.int .u16 n0, .int .u8 m2, .int .u8 m3, .int .u32 n1, .int .u32 n2, .int .i32 (IntKind.i32.wrap n3), .int .u16 n4, .int .u16 n5], .int .i64 0]) (by simp [results, Tryz.results147, go_sem, zd0, zd1, zd2, zd3, zd4, zd5, zd6, zd7]) rfl ?_
 exact ⟨rfl, T1.out.trans' HUz.out (fun i hi e => by have := HG1.out; omega)⟩

theorem dhead_short (v : Value) (rs : List Int) (w : World) (hv : ArgAt w v rs) (hl : rs.length < 20) :
  Calls Tryz.prog 147 #[v] w fun e w' => e = .returned (.tuple #[.agg #[.int .u16 0, .int .u8 0, .int .u8 0, .int .u32 0, .int .u32 0, .int .i32 0, .int .u16 0, .int .u16 0], .int .i64 10]) ∧ Touch (fun _ => False) w w' := by
 obtain ⟨va, vc, rfl, hm⟩ := hv.form
 have hlt' : (rs.length : Int) < 20 := by omega
 clear hv
 go_enter Tryz.func147, Tryz.ntmps147
 go_wp2_with fail
 refine bodyPost_ret (v := .tuple #[.agg #[.int .u16 0, .int .u8 0, .int .u8 0, .int .u32 0, .int .u32 0, .int .i32 0, .int .u16 0, .int .u16 0], .int .i64 10]) (by simp [results, Tryz.results147, go_sem]) rfl ?_
 refine ⟨rfl, ?_⟩
 exact (Touch.refl _ w).alloc _
end Go.Proofs.YtbfplepmgbkajaaGreatDoor

namespace Go.Proofs.YtbfplepmgbkajaaGreatDoor
open Go.RowKit
set_option linter.unusedVariables false
set_option maxRecDepth 100000

/-- One element that is written out. -/
theorem vlit (w : World) (C : Array Value) (T k : Nat) (hk : C.toList.length = 1 * k) : ValsAt (w.alloc (.cells C T)) k (.slice (some ⟨w.heap.size, 0, none⟩) 1 1) 1 C.toList :=
 ⟨hk, Or.inr ⟨⟨w.heap.size, 0, none⟩, 1, rfl, Nat.le_refl _, by simp [maxLen], fun j u hj => by
  rw [add_plain, Nat.zero_add, cell_of_row _ _ j _ _ _ (heap_alloc_new w _), ← Array.getElem?_toList]
  exact hj⟩⟩
theorem cuts_all {α : Type} (k : Nat) (f : List Int → α) (c : List Int) : (List.range (c.length / k)).map (fun i => f (cutAt k c i)) = cuts k f c := rfl
/-- The loop: b at place 20 j, j heads are there. -/
structure RhR (w : World) (rs : List Int) (gg : Nat) (b l : Value) (wr : World) : Prop where
 out : ∃ (j : Nat) (va : Option Addr) (vc : Nat) (la : Option Addr) (lc : Nat), 20 * j ≤ rs.length ∧ gg = rs.length / 20 - j ∧ b = .slice va (rs.length - 20 * j) vc ∧ l = .slice la j lc ∧ ArgAt w (.slice va (rs.length - 20 * j) vc) (rs.drop (20 * j)) ∧ VBuf 93 8 w wr (.slice la j lc) j (headsC ((List.range j).map fun i => rdHead (cutAt 20 rs i)))
set_option maxHeartbeats 2000000 in
theorem dreadHeads (v : Value) (rs : List Int) (w : World) (hv : ArgAt w v rs) (hby : ∀ z ∈ rs, 0 ≤ z ∧ z < 256) (hl : rs.length ≤ 1000000) :
  Calls Tryz.prog 114 #[v] w fun e w' => ∃ u, e = .returned (.tuple #[u, .bool (decide (rs.length % 20 = 0))]) ∧ VBuf 93 8 w w' u (cuts 20 rdHead rs).length (headsC (cuts 20 rdHead rs)) := by
 obtain ⟨va, vc, rfl, -⟩ := hv.form
 have HBY : Hid (∀ z ∈ rs, 0 ≤ z ∧ z < 256) := hby
 have REL : Hid (RhR w rs (rs.length / 20) (.slice va rs.length vc) (.slice none 0 0) w) := ⟨0, va, vc, none, 0, by omega, by omega, by simp, rfl, by simpa using hv, VBuf.nil _ _ (Touch.refl _ _)⟩
 have DK : Hid (∀ q : Bool, q = decide (rs.length % 20 = 0) ↔ (q = true ↔ rs.length % 20 = 0)) := fun q => by cases q <;> simp
 generalize decide (rs.length % 20 = 0) = dk at *
 have hl' : (rs.length : Int) ≤ 1000000 := by omega
 clear hv hby
 go_enter Tryz.func114, Tryz.ntmps114
 go_wp2_with fail
 go_loopg [0, 4] (rs.length / 20) (fun gg b l wr => RhR w rs gg b l wr)
 case atStart => exact REL.out
 case round =>
  clear REL
  obtain ⟨j, xa, xc, la, lc, hj, hgg, rfl, rfl, hx, hvb⟩ := hrel.out
  obtain ⟨N, hN⟩ : ∃ N, N = rs.length - 20 * j := ⟨_, rfl⟩
  rw [← hN] at hx ⊢
  have HN : Hid (N = rs.length - 20 * j) := hN
  have HXA : Hid (∀ w', Touch (fun _ => False) w w' → ArgAt w' (.slice xa N xc) (rs.drop (20 * j))) := fun w' t => hx.keepN t
  have HVB : Hid (VBuf 93 8 w wr (.slice la j lc) j (headsC ((List.range j).map fun i => rdHead (cutAt 20 rs i)))) := hvb
  have hdl : (rs.drop (20 * j)).length = N := by rw [List.length_drop, hN]
  by_cases hge : 20 ≤ N
  ·have hge' : (20 : Int) ≤ (N : Int) := by omega
   obtain ⟨u, hu, ua⟩ := cut_from hx hdl.symm (by omega) 20 hge
   have hjj : j < rs.length / 20 := by omega
   obtain ⟨ya, yc, eu, -⟩ := ua.form
   have hdl2 : ((rs.drop (20 * j)).drop 20).length = N - 20 := by rw [List.length_drop, hdl]
   rw [hdl2] at eu
   subst eu
   have q20 : ∀ w, Sem.run Tryz.prog (Instr.slice 40 (.slice xa N xc) (some (.int .i64 20)) none none) w = .ok (.slice ya (N - 20) yc) w := hu
   obtain ⟨H, hH⟩ : ∃ H, rdHead ((rs.drop (20 * j)).take 20) = H := ⟨_, rfl⟩
   have HR := dhead_good _ (rs.drop (20 * j)) wr (HXA.out wr hvb.t) (fun z hz => HBY.out z (List.mem_of_mem_drop hz)) (by omega) H hH
   have HH : Hid (rdHead (cutAt 20 rs j) = H) := hH
   have HUA : Hid (ArgAt w (.slice ya (N - 20) yc) (rs.drop (20 * (j + 1)))) := by
    show ArgAt _ _ _
    rw [List.drop_drop] at ua
    rwa [show 20 * (j + 1) = 20 * j + 20 by omega]
   clear hx hvb hu ua hdl hdl2 hrel hN hH
   go_wp2_with fail
   refine Calls.mono HR ?_
   rintro e w2 ⟨rfl, t2⟩
   have V2 : Hid (VBuf 93 8 w (w2.alloc (.cells #[.int .u16 H.age, .int .u8 H.opts, .int .u8 H.typ, .int .u32 H.id, .int .u32 H.adv, .int .i32 H.seq, .int .u16 H.sum, .int .u16 H.len] 93)) (.slice la j lc) j (headsC ((List.range j).map fun i => rdHead (cutAt 20 rs i)))) := (HVB.out.keep t2).keep ((Touch.refl _ _).alloc _)
   have R2 : Hid (Hd (w2.alloc (.cells #[.int .u16 H.age, .int .u8 H.opts, .int .u8 H.typ, .int .u32 H.id, .int .u32 H.adv, .int .i32 H.seq, .int .u16 H.sum, .int .u16 H.len] 93)) w2.heap.size H) := Hd.new w2 H _
   clear t2 HR HVB
   go_upto_region 4 with fail
   generalize w2.alloc (.cells #[.int .u16 H.age, .int .u8 H.opts, .int .u8 H.typ, .int .u32 H.id, .int .u32 H.adv, .int .i32 H.seq, .int .u16 H.sum, .int .u16 H.len] 93) = x2 at *
   generalize w2.heap.size = gh at *
   obtain ⟨c0, c1, c2, c3, c4, c5, c6, c7⟩ := R2.out
   have V3 : Hid (VBuf 93 8 w (x2.alloc (.cells #[.int .u16 H.age, .int .u8 H.opts, .int .u8 H.typ, .int .u32 H.id, .int .u32 H.adv, .int .i32 H.seq, .int .u16 H.sum, .int .u16 H.len] 93)) (.slice la j lc) j (headsC ((List.range j).map fun i => rdHead (cutAt 20 rs i)))) := V2.out.keep ((Touch.refl _ _).alloc _)
   have L3 : Hid (ValsAt (x2.alloc (.cells #[.int .u16 H.age, .int .u8 H.opts, .int .u8 H.typ, .int .u32 H.id, .int .u32 H.adv, .int .i32 H.seq, .int .u16 H.sum, .int .u16 H.len] 93)) 8 (.slice (some ⟨x2.heap.size, 0, none⟩) 1 1) 1 [.int .u16 H.age, .int .u8 H.opts, .int .u8 H.typ, .int .u32 H.id, .int .u32 H.adv, .int .i32 H.seq, .int .u16 H.sum, .int .u16 H.len]) := vlit x2 #[.int .u16 H.age, .int .u8 H.opts, .int .u8 H.typ, .int .u32 H.id, .int .u32 H.adv, .int .i32 H.seq, .int .u16 H.sum, .int .u16 H.len] 93 8 rfl
   go_upto_region 5 with (at_builtin; refine vapp_arg rfl (.tmp 15) (.tmp 17) 27 rfl 93 8 20 (.agg #[.int .u16 0, .int .u8 0, .int .u8 0, .int .u32 0, .int .u32 0, .int .i32 0, .int .u16 0, .int .u16 0]) Tryz.underlying27 Tryz.infoH8 rfl (by decide) (by decide) w _ j _ rfl V3.out _ 1 _ rfl L3.out (by simp [Value.oneCell']) (by omega) ?_; intro l' w4 b4)
   obtain ⟨la', lc', el⟩ := b4.form
   subst el
   have REL : Hid (RhR w rs (rs.length / 20 - (j + 1)) (.slice ya (N - 20) yc) (.slice la' (j + 1) lc') w4) := by
    have hNN := HN.out
    refine ⟨j + 1, ya, yc, la', lc', by omega, rfl, by rw [show rs.length - 20 * (j + 1) = N - 20 by omega], rfl, by rw [show rs.length - 20 * (j + 1) = N - 20 by omega]; exact HUA.out, ?_⟩
    rw [range_snoc, show headsC ((List.range j).map (fun i => rdHead (cutAt 20 rs i)) ++ [rdHead (cutAt 20 rs j)]) = headsC ((List.range j).map (fun i => rdHead (cutAt 20 rs i))) ++ [.int .u16 H.age, .int .u8 H.opts, .int .u8 H.typ, .int .u32 H.id, .int .u32 H.adv, .int .i32 H.seq, .int .u16 H.sum, .int .u16 H.len] by rw [HH.out]; simp [headsC, HV.cells]]
    exact b4
   clear b4 V2 V3 L3 R2 c0 c1 c2 c3 c4 c5 c6 c7
   go_wp2_with fail
   go_roundg (rs.length / 20 - (j + 1))
   case measure => omega
   case rel => exact REL.out
  ·have hge' : ¬ (20 : Int) ≤ (N : Int) := by omega
   have hjj : j = rs.length / 20 := by omega
   have hdk : dk = decide (N = 0) := ((DK.out (decide (N = 0))).2 ⟨fun h => by simp at h; omega, fun h => by simp; omega⟩).symm
   have VE : Hid (VBuf 93 8 w wr (.slice la j lc) (cuts 20 rdHead rs).length (headsC (cuts 20 rdHead rs))) := by
    show VBuf _ _ _ _ _ _ _
    rw [length_cuts, ← hjj, ← cuts_all, ← hjj]
    exact HVB.out
   have HD : Hid (dk = ((N : Int) == 0)) := by
    show _ = _
    rw [hdk]
    by_cases h : N = 0
    ·simp [h]
    ·simp [h]
   clear hvb hx HVB HXA hdk DK hrel hN hjj hdl HN
   go_wp2_with fail
   go_ret2
   exact ⟨_, by rw [HD.out]; rfl, VE.out⟩
end Go.Proofs.YtbfplepmgbkajaaGreatDoor
