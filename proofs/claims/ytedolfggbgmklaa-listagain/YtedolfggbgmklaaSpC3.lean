
/- A state of one's own. -/
import Derived.Test.YtedolfggbgmklaaSpC2
import Derived.Test.YtedolfggbgmklaaReader
import Derived.Deep.RegionHeld3
import Derived.Deep.DeepHandedRow
namespace Go.Proofs.Ytedolfggbgmklaa
open Go.RowKit
set_option linter.unusedVariables false
set_option maxRecDepth 100000

structure SnL (x w : World) : Prop where
  t : Touch (fun _ => False) x w
theorem SnL.start (x : World) : SnL x x.drew := ⟨(Touch.refl _ _).drew⟩
theorem SnL.trans {x w w' : World} (h : SnL x w) (t : Touch (fun _ => False) w w') : SnL x w' := ⟨h.t.trans t⟩
theorem SnL.alloc {x w : World} (h : SnL x w) (o : Obj) : SnL x (w.alloc o) := ⟨h.t.alloc o⟩
theorem snL_cell {x : World} {p : Addr} {v : Value} (h : x.cell? p = some v) : ∀ w, SnL x w → w.cell? p = some v := fun w s => s.t.cellN h
set_option maxHeartbeats 2000000 in
/-- own, by what Clone does. -/
theorem own_by (P : Value → World → Prop) (w : World) (x : HV) (v : Value) (HC : ∀ w', Touch (fun _ => False) w w' → Calls Try.prog 50 #[v] w' fun e w'' => ∃ ua un uc, e = .returned (.slice ua un uc) ∧ (∀ w3, Touch (fun k => w.heap.size ≤ k ∧ k < w'.heap.size) w'' w3 → P (.slice ua un uc) w3) ∧ Touch (fun _ => False) w' w'') :
    Calls Try.prog 40 #[.agg #[.int .u16 x.age, .int .u8 x.opts, .int .u8 x.typ, .int .u32 x.id, .int .u32 x.adv, .int .i32 x.seq, .int .u16 x.sum, .int .u16 x.len, v]] w fun e w' => ∃ ua un uc, e = .returned (.agg #[.int .u16 x.age, .int .u8 x.opts, .int .u8 x.typ, .int .u32 x.id, .int .u32 x.adv, .int .i32 x.seq, .int .u16 x.sum, .int .u16 x.len, .slice ua un uc]) ∧ P (.slice ua un uc) w' ∧ Touch (fun _ => False) w w' := by
  have T2 : Touch (fun _ => False) w ((w.alloc (.cells #[.int .u16 x.age, .int .u8 x.opts, .int .u8 x.typ, .int .u32 x.id, .int .u32 x.adv, .int .i32 x.seq, .int .u16 x.sum, .int .u16 x.len, v] 53)).alloc (.cells #[.int .u16 0, .int .u8 0, .int .u8 0, .int .u32 0, .int .u32 0, .int .i32 0, .int .u16 0, .int .u16 0, .slice none 0 0] 53)) := ((Touch.refl _ _).alloc _).alloc _
  have R1 : Row ((w.alloc (.cells #[.int .u16 x.age, .int .u8 x.opts, .int .u8 x.typ, .int .u32 x.id, .int .u32 x.adv, .int .i32 x.seq, .int .u16 x.sum, .int .u16 x.len, v] 53)).alloc (.cells #[.int .u16 0, .int .u8 0, .int .u8 0, .int .u32 0, .int .u32 0, .int .i32 0, .int .u16 0, .int .u16 0, .slice none 0 0] 53)) w.heap.size 53 [.int .u16 x.age, .int .u8 x.opts, .int .u8 x.typ, .int .u32 x.id, .int .u32 x.adv, .int .i32 x.seq, .int .u16 x.sum, .int .u16 x.len, v] := (row_new _ _ _).keep ((Touch.refl _ _).alloc _)
  have R2 : Row ((w.alloc (.cells #[.int .u16 x.age, .int .u8 x.opts, .int .u8 x.typ, .int .u32 x.id, .int .u32 x.adv, .int .i32 x.seq, .int .u16 x.sum, .int .u16 x.len, v] 53)).alloc (.cells #[.int .u16 0, .int .u8 0, .int .u8 0, .int .u32 0, .int .u32 0, .int .i32 0, .int .u16 0, .int .u16 0, .slice none 0 0] 53)) (w.heap.size + 1) 53 [.int .u16 0, .int .u8 0, .int .u8 0, .int .u32 0, .int .u32 0, .int .i32 0, .int .u16 0, .int .u16 0, .slice none 0 0] := by
    have := row_new (w.alloc (.cells #[.int .u16 x.age, .int .u8 x.opts, .int .u8 x.typ, .int .u32 x.id, .int .u32 x.adv, .int .i32 x.seq, .int .u16 x.sum, .int .u16 x.len, v] 53)) 53 #[.int .u16 0, .int .u8 0, .int .u8 0, .int .u32 0, .int .u32 0, .int .i32 0, .int .u16 0, .int .u16 0, .slice none 0 0]
    simpa using this
  have HCL : Hid (Calls Try.prog 50 #[v] (((w.alloc (.cells #[.int .u16 x.age, .int .u8 x.opts, .int .u8 x.typ, .int .u32 x.id, .int .u32 x.adv, .int .i32 x.seq, .int .u16 x.sum, .int .u16 x.len, v] 53)).alloc (.cells #[.int .u16 0, .int .u8 0, .int .u8 0, .int .u32 0, .int .u32 0, .int .i32 0, .int .u16 0, .int .u16 0, .slice none 0 0] 53))).drew fun e w'' => ∃ ua un uc, e = .returned (.slice ua un uc) ∧ (∀ w3, Touch (fun k => w.heap.size ≤ k ∧ k < w.heap.size + 2) w'' w3 → P (.slice ua un uc) w3) ∧ Touch (fun _ => False) (((w.alloc (.cells #[.int .u16 x.age, .int .u8 x.opts, .int .u8 x.typ, .int .u32 x.id, .int .u32 x.adv, .int .i32 x.seq, .int .u16 x.sum, .int .u16 x.len, v] 53)).alloc (.cells #[.int .u16 0, .int .u8 0, .int .u8 0, .int .u32 0, .int .u32 0, .int .i32 0, .int .u16 0, .int .u16 0, .slice none 0 0] 53))).drew w'') := (HC _ T2.drew).mono fun e w'' ⟨ua, un, uc, h1, h2, h3⟩ => ⟨ua, un, uc, h1, fun w3 t => h2 w3 (t.mono (fun k _ q => ⟨q.1, by simpa using q.2⟩)), h3⟩
  clear HC
  go_enter Try.func40, Try.ntmps40
  go_wp2_with fail
  generalize ((w.alloc (.cells #[.int .u16 x.age, .int .u8 x.opts, .int .u8 x.typ, .int .u32 x.id, .int .u32 x.adv, .int .i32 x.seq, .int .u16 x.sum, .int .u16 x.len, v] 53)).alloc (.cells #[.int .u16 0, .int .u8 0, .int .u8 0, .int .u32 0, .int .u32 0, .int .i32 0, .int .u16 0, .int .u16 0, .slice none 0 0] 53)) = w2 at *
  obtain ⟨g, hg⟩ : ∃ g, w.heap.size = g := ⟨_, rfl⟩
  rw [hg] at R1 R2 HCL ⊢
  have HG : Hid (w.heap.size = g) := hg
  obtain ⟨g2, hg2⟩ : ∃ g2, g + 1 = g2 := ⟨_, rfl⟩
  rw [hg2] at R2 ⊢
  have HG2 : Hid (g + 1 = g2) := hg2
  clear hg hg2
  have p0 : w2.cell? ⟨g, 0, none⟩ = some (.int .u16 x.age) := R1.cell 0
  have p1 : w2.cell? ⟨g, 1, none⟩ = some (.int .u8 x.opts) := R1.cell 1
  have p2 : w2.cell? ⟨g, 2, none⟩ = some (.int .u8 x.typ) := R1.cell 2
  have p3 : w2.cell? ⟨g, 3, none⟩ = some (.int .u32 x.id) := R1.cell 3
  have p4 : w2.cell? ⟨g, 4, none⟩ = some (.int .u32 x.adv) := R1.cell 4
  have p5 : w2.cell? ⟨g, 5, none⟩ = some (.int .i32 x.seq) := R1.cell 5
  have p6 : w2.cell? ⟨g, 6, none⟩ = some (.int .u16 x.sum) := R1.cell 6
  have p7 : w2.cell? ⟨g, 7, none⟩ = some (.int .u16 x.len) := R1.cell 7
  have p8 : w2.cell? ⟨g, 8, none⟩ = some (v) := R1.cell 8
  have r0 : w2.cell? ⟨g2, 0, none⟩ = some (.int .u16 0) := R2.cell 0
  have r1 : w2.cell? ⟨g2, 1, none⟩ = some (.int .u8 0) := R2.cell 1
  have r2 : w2.cell? ⟨g2, 2, none⟩ = some (.int .u8 0) := R2.cell 2
  have r3 : w2.cell? ⟨g2, 3, none⟩ = some (.int .u32 0) := R2.cell 3
  have r4 : w2.cell? ⟨g2, 4, none⟩ = some (.int .u32 0) := R2.cell 4
  have r5 : w2.cell? ⟨g2, 5, none⟩ = some (.int .i32 0) := R2.cell 5
  have r6 : w2.cell? ⟨g2, 6, none⟩ = some (.int .u16 0) := R2.cell 6
  have r7 : w2.cell? ⟨g2, 7, none⟩ = some (.int .u16 0) := R2.cell 7
  have r8 : w2.cell? ⟨g2, 8, none⟩ = some (.slice none 0 0) := R2.cell 8
  have hp1 := R1.lt
  have hp2 := R2.lt
  have T2h : Hid (Touch (fun _ => False) w w2) := T2
  clear T2
  go_region_with ((go_at_call 50; refine Calls.mono HCL.out ?_; rintro e w5 ⟨ua, un, uc, rfl, hpu, tu⟩; have R15 := R1.keep ((Touch.refl _ _).drew.trans tu); have R25 := R2.keep ((Touch.refl _ _).drew.trans tu); have z0 : w5.cell? ⟨g, 0, none⟩ = some (.int .u16 x.age) := R15.cell 0; have z1 : w5.cell? ⟨g, 1, none⟩ = some (.int .u8 x.opts) := R15.cell 1; have z2 : w5.cell? ⟨g, 2, none⟩ = some (.int .u8 x.typ) := R15.cell 2; have z3 : w5.cell? ⟨g, 3, none⟩ = some (.int .u32 x.id) := R15.cell 3; have z4 : w5.cell? ⟨g, 4, none⟩ = some (.int .u32 x.adv) := R15.cell 4; have z5 : w5.cell? ⟨g, 5, none⟩ = some (.int .i32 x.seq) := R15.cell 5; have z6 : w5.cell? ⟨g, 6, none⟩ = some (.int .u16 x.sum) := R15.cell 6; have z7 : w5.cell? ⟨g, 7, none⟩ = some (.int .u16 x.len) := R15.cell 7; have z8 : w5.cell? ⟨g, 8, none⟩ = some (v) := R15.cell 8; have zc0 : w5.cell? ⟨g2, 0, none⟩ = some (.int .u16 0) := R25.cell 0; have zc1 : w5.cell? ⟨g2, 1, none⟩ = some (.int .u8 0) := R25.cell 1; have zc2 : w5.cell? ⟨g2, 2, none⟩ = some (.int .u8 0) := R25.cell 2; have zc3 : w5.cell? ⟨g2, 3, none⟩ = some (.int .u32 0) := R25.cell 3; have zc4 : w5.cell? ⟨g2, 4, none⟩ = some (.int .u32 0) := R25.cell 4; have zc5 : w5.cell? ⟨g2, 5, none⟩ = some (.int .i32 0) := R25.cell 5; have zc6 : w5.cell? ⟨g2, 6, none⟩ = some (.int .u16 0) := R25.cell 6; have zc7 : w5.cell? ⟨g2, 7, none⟩ = some (.int .u16 0) := R25.cell 7; have zc8 : w5.cell? ⟨g2, 8, none⟩ = some (.slice none 0 0) := R25.cell 8; have zl1 : g < w5.heap.size := R15.lt; have zl2 : g2 < w5.heap.size := R25.lt; have zf0 : w5.frozen? ⟨g2, 0, none⟩ = false := R25.frozen 0; have zf1 : w5.frozen? ⟨g2, 1, none⟩ = false := R25.frozen 1; have zf2 : w5.frozen? ⟨g2, 2, none⟩ = false := R25.frozen 2; have zf3 : w5.frozen? ⟨g2, 3, none⟩ = false := R25.frozen 3; have zf4 : w5.frozen? ⟨g2, 4, none⟩ = false := R25.frozen 4; have zf5 : w5.frozen? ⟨g2, 5, none⟩ = false := R25.frozen 5; have zf6 : w5.frozen? ⟨g2, 6, none⟩ = false := R25.frozen 6; have zf7 : w5.frozen? ⟨g2, 7, none⟩ = false := R25.frozen 7; have zf8 : w5.frozen? ⟨g2, 8, none⟩ = false := R25.frozen 8; clear R15 R25 R1 R2; have HPU : Hid (∀ w3, Touch (fun k => g ≤ k ∧ k < g + 2) w5 w3 → P (.slice ua un uc) w3) := hpu; have TU : Hid (Touch (fun _ => False) w w5) := T2h.out.trans ((Touch.refl _ _).drew.trans tu); clear hpu tu HCL p0 r0 p1 r1 p2 r2 p3 r3 p4 r4 p5 r5 p6 r6 p7 r7 p8 r8))
  all_goals
    obtain ⟨wz, hwz⟩ : ∃ wz, wz = (((((((((w5.setCell ⟨g2, 0, none⟩ (.int .u16 x.age)).setCell ⟨g2, 1, none⟩ (.int .u8 x.opts)).setCell ⟨g2, 2, none⟩ (.int .u8 x.typ)).setCell ⟨g2, 3, none⟩ (.int .u32 x.id)).setCell ⟨g2, 4, none⟩ (.int .u32 x.adv)).setCell ⟨g2, 5, none⟩ (.int .i32 x.seq)).setCell ⟨g2, 6, none⟩ (.int .u16 x.sum)).setCell ⟨g2, 7, none⟩ (.int .u16 x.len)).setCell ⟨g2, 8, none⟩ (.slice ua un uc)) := ⟨_, rfl⟩
    have zd0 : wz.cell? ⟨g2, 0, none⟩ = some (.int .u16 x.age) := by rw [hwz]; simp [zc0, go_sem]
    have zd1 : wz.cell? ⟨g2, 1, none⟩ = some (.int .u8 x.opts) := by rw [hwz]; simp [zc1, go_sem]
    have zd2 : wz.cell? ⟨g2, 2, none⟩ = some (.int .u8 x.typ) := by rw [hwz]; simp [zc2, go_sem]
    have zd3 : wz.cell? ⟨g2, 3, none⟩ = some (.int .u32 x.id) := by rw [hwz]; simp [zc3, go_sem]
    have zd4 : wz.cell? ⟨g2, 4, none⟩ = some (.int .u32 x.adv) := by rw [hwz]; simp [zc4, go_sem]
    have zd5 : wz.cell? ⟨g2, 5, none⟩ = some (.int .i32 x.seq) := by rw [hwz]; simp [zc5, go_sem]
    have zd6 : wz.cell? ⟨g2, 6, none⟩ = some (.int .u16 x.sum) := by rw [hwz]; simp [zc6, go_sem]
    have zd7 : wz.cell? ⟨g2, 7, none⟩ = some (.int .u16 x.len) := by rw [hwz]; simp [zc7, go_sem]
    have zd8 : wz.cell? ⟨g2, 8, none⟩ = some (.slice ua un uc) := by rw [hwz]; simp [zc8, go_sem]
    have HUz : Hid (Touch (fun k => k = g2) w5 wz) := by show Touch _ _ _; rw [hwz]; refine Touch.setCell (F := fun k => k = g2) (p := ⟨g2, 8, none⟩) ?_ (Or.inl rfl) _; refine Touch.setCell (F := fun k => k = g2) (p := ⟨g2, 7, none⟩) ?_ (Or.inl rfl) _; refine Touch.setCell (F := fun k => k = g2) (p := ⟨g2, 6, none⟩) ?_ (Or.inl rfl) _; refine Touch.setCell (F := fun k => k = g2) (p := ⟨g2, 5, none⟩) ?_ (Or.inl rfl) _; refine Touch.setCell (F := fun k => k = g2) (p := ⟨g2, 4, none⟩) ?_ (Or.inl rfl) _; refine Touch.setCell (F := fun k => k = g2) (p := ⟨g2, 3, none⟩) ?_ (Or.inl rfl) _; refine Touch.setCell (F := fun k => k = g2) (p := ⟨g2, 2, none⟩) ?_ (Or.inl rfl) _; refine Touch.setCell (F := fun k => k = g2) (p := ⟨g2, 1, none⟩) ?_ (Or.inl rfl) _; refine Touch.setCell (F := fun k => k = g2) (p := ⟨g2, 0, none⟩) ?_ (Or.inl rfl) _; exact Touch.refl _ _
    rw [← hwz]
    clear hwz zc0 zf0 zc1 zf1 zc2 zf2 zc3 zf3 zc4 zf4 zc5 zf5 zc6 zf6 zc7 zf7 zc8 zf8
    go_wp2_with fail
    refine bodyPost_ret (v := .agg #[.int .u16 x.age, .int .u8 x.opts, .int .u8 x.typ, .int .u32 x.id, .int .u32 x.adv, .int .i32 x.seq, .int .u16 x.sum, .int .u16 x.len, .slice ua un uc]) (by simp [results, Try.results40, go_sem, zd0, zd1, zd2, zd3, zd4, zd5, zd6, zd7, zd8]) rfl ?_
    refine ⟨ua, un, uc, rfl, HPU.out _ (HUz.out.mono (fun k _ q => by have := HG2.out; omega)), TU.out.trans' HUz.out (fun k hk q => by have := HG.out; have := HG2.out; omega)⟩
end Go.Proofs.Ytedolfggbgmklaa
