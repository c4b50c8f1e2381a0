/- Contracts of the small parts of package state: take, isMask, isLink, size, hasLength, bare. -/
import Derived.Test.YtfdpmlogieaiaaaStFace
import Derived.Test.YtfdpmlogieaiaaaStMask
import Derived.Test.YtfdpmlogieaiaaaTAft
import Derived.Deep.RegionHeld3
import Derived.Deep.DeepCutAuto
namespace Go.Proofs.Ytfdpmlogieaiaaa
open Go.RowKit
set_option linter.unusedVariables false
set_option maxRecDepth 100000

theorem take_u32 (g i : Nat) (x : Int) (w : World) (hc : w.cell? ⟨g, i, none⟩ = some (.int .u32 x)) (hf : w.frozen? ⟨g, i, none⟩ = false) :
    Calls Try.prog 77 #[.pointer (some ⟨g, i, none⟩)] w fun e w' => e = .returned (.int .u32 x) ∧ w.setCell ⟨g, i, none⟩ (.int .u32 0) = w' := by
  go_enter Try.func77, Try.ntmps77
  go_wp2
  go_ret
  exact ⟨rfl, rfl⟩
theorem take_u8 (g i : Nat) (x : Int) (w : World) (hc : w.cell? ⟨g, i, none⟩ = some (.int .u8 x)) (hf : w.frozen? ⟨g, i, none⟩ = false) :
    Calls Try.prog 85 #[.pointer (some ⟨g, i, none⟩)] w fun e w' => e = .returned (.int .u8 x) ∧ w.setCell ⟨g, i, none⟩ (.int .u8 0) = w' := by
  go_enter Try.func85, Try.ntmps85
  go_wp2
  go_ret
  exact ⟨rfl, rfl⟩
theorem take_bool (g i : Nat) (x : Bool) (w : World) (hc : w.cell? ⟨g, i, none⟩ = some (.bool x)) (hf : w.frozen? ⟨g, i, none⟩ = false) :
    Calls Try.prog 78 #[.pointer (some ⟨g, i, none⟩)] w fun e w' => e = .returned (.bool x) ∧ w.setCell ⟨g, i, none⟩ (.bool false) = w' := by
  go_enter Try.func78, Try.ntmps78
  go_wp2
  go_ret
  exact ⟨rfl, rfl⟩
theorem take_bytes (g i : Nat) (a : Option Addr) (n c : Nat) (w : World) (hc : w.cell? ⟨g, i, none⟩ = some (.slice a n c)) (hf : w.frozen? ⟨g, i, none⟩ = false) :
    Calls Try.prog 82 #[.pointer (some ⟨g, i, none⟩)] w fun e w' => e = .returned (.slice a n c) ∧ w.setCell ⟨g, i, none⟩ (.slice none 0 0) = w' := by
  go_enter Try.func82, Try.ntmps82
  go_wp2
  go_ret
  exact ⟨rfl, rfl⟩
theorem take_links (g i : Nat) (a : Option Addr) (n c : Nat) (w : World) (hc : w.cell? ⟨g, i, none⟩ = some (.slice a n c)) (hf : w.frozen? ⟨g, i, none⟩ = false) :
    Calls Try.prog 84 #[.pointer (some ⟨g, i, none⟩)] w fun e w' => e = .returned (.slice a n c) ∧ w.setCell ⟨g, i, none⟩ (.slice none 0 0) = w' := by
  go_enter Try.func84, Try.ntmps84
  go_wp2
  go_ret
  exact ⟨rfl, rfl⟩
theorem take_words (g i : Nat) (a : Option Addr) (n c : Nat) (w : World) (hc : w.cell? ⟨g, i, none⟩ = some (.slice a n c)) (hf : w.frozen? ⟨g, i, none⟩ = false) :
    Calls Try.prog 89 #[.pointer (some ⟨g, i, none⟩)] w fun e w' => e = .returned (.slice a n c) ∧ w.setCell ⟨g, i, none⟩ (.slice none 0 0) = w' := by
  go_enter Try.func89, Try.ntmps89
  go_wp2
  go_ret
  exact ⟨rfl, rfl⟩

theorem isMask_any (a : Int) (w : World) (h0 : 0 ≤ a) (h1 : a < 4294967296) : Calls Try.prog 92 #[.int .u32 a] w fun e w' => e = .returned (.bool (pbok a)) ∧ w = w' := by
  go_enter Try.func92, Try.ntmps92
  go_wp2_with (go_at_call 94; refine (bits_any a _ h0 h1).mono ?_; rintro e w' ⟨rfl, rfl⟩)
  go_ret
  exact ⟨rfl, rfl⟩
theorem isLink_any (x : LV) (w : World) : Calls Try.prog 93 #[.agg #[.int .u32 x.id, .int .u32 x.data, .int .u8 x.typ, .int .u16 x.cost]] w fun e w' => e = .returned (.bool (decide (1 ≤ x.typ) && decide (x.typ ≤ 4))) ∧ Touch (fun _ => False) w w' := by
  by_cases h1 : 1 ≤ x.typ
  · have h1' : decide (1 ≤ x.typ) = true := by simpa using h1
    go_enter Try.func93, Try.ntmps93
    go_wp2
    go_ret
    exact ⟨ret_bool (by simp_all), (Touch.refl _ w).alloc _⟩
  · have h1' : decide (1 ≤ x.typ) = false := by simpa using h1
    go_enter Try.func93, Try.ntmps93
    go_wp2
    go_ret
    exact ⟨ret_bool (by simp_all), (Touch.refl _ w).alloc _⟩

theorem size_any (h : HV) (a : Option Addr) (n c : Nat) (w : World) (hn : n ≤ 140737488355328) : Calls Try.prog 40 #[h.sv (.slice a n c)] w fun e w' => e = .returned (.int .i64 (20 + (n : Int))) ∧ Touch (fun _ => False) w w' := by
  have hw : wrap64 (20 + (n : Int)) = 20 + (n : Int) := by unfold wrap64; omega
  unfold HV.sv
  go_enter Try.func40, Try.ntmps40
  go_wp2
  go_ret
  exact ⟨rfl, (Touch.refl _ w).alloc _⟩
theorem hasLength_any (h : HV) (a : Option Addr) (n c : Nat) (w : World) (hn : n ≤ 140737488355328) (hl : 0 ≤ h.len ∧ h.len < 65536) : Calls Try.prog 27 #[h.sv (.slice a n c)] w fun e w' => e = .returned (.bool (h.len == 20 + (n : Int))) ∧ Touch (fun _ => False) w w' := by
  obtain ⟨hl0, hl1⟩ := hl
  have HC : ∀ w, Calls Try.prog 40 #[.agg #[.int .u16 h.age, .int .u8 h.opts, .int .u8 h.typ, .int .u32 h.id, .int .u32 h.adv, .int .i32 h.seq, .int .u16 h.sum, .int .u16 h.len, .slice a n c]] w fun e w' => e = .returned (.int .i64 (20 + (n : Int))) ∧ Touch (fun _ => False) w w' := fun w => size_any h a n c w hn
  show Calls Try.prog 27 #[.agg #[.int .u16 h.age, .int .u8 h.opts, .int .u8 h.typ, .int .u32 h.id, .int .u32 h.adv, .int .i32 h.seq, .int .u16 h.sum, .int .u16 h.len, .slice a n c]] w _
  have HB := Sd.new w h (.slice a n c) 34
  have p0 := aft_cell HB.hd.c0
  have p1 := aft_cell HB.hd.c1
  have p2 := aft_cell HB.hd.c2
  have p3 := aft_cell HB.hd.c3
  have p4 := aft_cell HB.hd.c4
  have p5 := aft_cell HB.hd.c5
  have p6 := aft_cell HB.hd.c6
  have p7 := aft_cell HB.hd.c7
  have p8 := aft_cell HB.c8
  clear HB
  go_enter Try.func27, Try.ntmps27
  go_upto_region 1 with fail
  refine wp_region_aft (by kernel_rfl) (by kernel_rfl) ?_
  repeat (first | go_big_quiet_skip | (go_big_quiet_want; go_big_quiet_op; first | go_big_quiet_on | (refine Exists.intro _ ⟨fun _ => rfl, ?_⟩; go_big_quiet_on)))
  go_big_quiet_want; go_big_quiet_op; refine Exists.intro _ ⟨fun u => Aft.call (HC _), ?_⟩; go_big_quiet_on
  repeat (first | go_big_quiet_skip | (go_big_quiet_want; go_big_quiet_op; first | go_big_quiet_on | (refine Exists.intro _ ⟨fun _ => rfl, ?_⟩; go_big_quiet_on)))
  refine wpQuiet_nil ?_
  rintro wq ⟨⟨_, hgq⟩, rfl⟩
  clear p0 p1 p2 p3 p4 p5 p6 p7 p8
  go_wp2
  go_ret
  exact ⟨rfl, ((Touch.refl _ w).alloc _).trans hgq⟩

theorem bare_any (x0 x2 x4 x6 x7 : Int) (x5 : Bool) (a1 a3 a8 : Option Addr) (n1 q1 n3 q3 n8 q8 : Nat) (w : World) (h1 : n1 ≤ 140737488355328) (h3 : n3 ≤ 140737488355328) (h8 : n8 ≤ 140737488355328) :
    Calls Try.prog 46 #[.agg #[.int .u8 x0, .slice a1 n1 q1, .int .u32 x2, .slice a3 n3 q3, .int .u32 x4, .bool x5, .int .u32 x6, .int .u32 x7, .slice a8 n8 q8]] w fun e w' =>
      e = .returned (.bool (((n1 : Int) + n3 + n8 == 0) && (x0 == 0) && (x2 == 0) && (x4 == 0) && (!x5) && (x6 == 0) && (x7 == 0))) ∧ Touch (fun _ => False) w w' := by
  have e1 : wrap64 ((n1 : Int) + n3) = (n1 : Int) + n3 := by unfold wrap64; omega
  have e2 : wrap64 ((n1 : Int) + n3 + n8) = (n1 : Int) + n3 + n8 := by unfold wrap64; omega
  go_enter Try.func46, Try.ntmps46
  go_wp2
  all_goals go_ret
  all_goals exact ⟨ret_bool (by simp_all), (Touch.refl _ w).alloc _⟩
end Go.Proofs.Ytfdpmlogieaiaaa
