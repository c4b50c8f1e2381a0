/- Contracts: Mask, Bits. -/
import Derived.Test.YthdkihnmeoacaaaGreatDoorHeadV
import Derived.Test.YthdkihnmeoacaaaGreatDoorOwnB
import Derived.Test.YthdkihnmeoacaaaGreatDoorStFace
import Derived.Deep.RegionHeld3
import Derived.Deep.DeepCutAuto
import Derived.Lib.SliceRun
namespace Go.Proofs.YthdkihnmeoacaaaGreatDoor
open Go.RowKit
set_option linter.unusedVariables false
set_option maxRecDepth 100000

theorem mask_eq {n : Int} (h0 : 0 ≤ n) (h1 : n ≤ 32) : 4294967295 * 2 ^ (32 - n).toNat % 4294967296 = pmask n := by
  rw [pmask_le h1]
  show 4294967295 * psz n % 4294967296 = _
  have := psz_pos n; have := psz_le h0
  omega

set_option maxHeartbeats 400000 in
theorem mask_any (n : Int) (w : World) (h0 : 0 ≤ n) :
    Calls Tryz.prog 160 #[.int .u8 n] w fun e w' => e = .returned (.int .u32 (pmask n)) ∧ w = w' := by
  by_cases h1 : n ≤ 32
  · have hm := mask_eq h0 h1
    have H : Hid (4294967295 * 2 ^ (32 - n).toNat % 4294967296 = pmask n) := hm
    clear hm
    go_enter Tryz.func160, Tryz.ntmps160
    go_wp2
    go_ret
    exact ⟨ret_int H.out, rfl⟩
  · have h2 : 32 < n := by omega
    have H : Hid (pmask n = 0) := pmask_gt h2
    clear h1
    go_enter Tryz.func160, Tryz.ntmps160
    go_wp2
    go_ret
    exact ⟨ret_int H.out.symm, rfl⟩

set_option maxHeartbeats 400000 in
theorem bits_any (a : Int) (w : World) (h0 : 0 ≤ a) (h1 : a < 4294967296) :
    Calls Tryz.prog 154 #[.int .u32 a] w fun e w' => e = .returned (.tuple #[.int .u8 (pbn a), .bool (pbok a)]) ∧ w = w' := by
  go_enter Tryz.func154, Tryz.ntmps154
  go_wp2
  go_loop [4, 5] (fun n r => ∃ k : Nat, ∃ x : Int, k ≤ 32 ∧ n = .int .u8 k ∧ r = .int .u32 x ∧ 0 ≤ x ∧ x < 4294967296 ∧ Hid (x = a * 2 ^ k % 4294967296) ∧ Hid (∀ j : Nat, j < k → a * 2 ^ j % 4294967296 ≠ 0)) (fun n _ => 32 - (intOf n).toNat)
  case atStart => exact ⟨0, a, by omega, rfl, rfl, h0, h1, (by show a = _; rw [Int.pow_zero]; omega), fun j hj => absurd hj (by omega)⟩
  case round =>
    obtain ⟨k, x, hk, rfl, rfl, hx0, hx1, HX, HL⟩ := hrel
    by_cases hx : x = 0
    · subst hx
      have hp := bits_at hk HX.out.symm HL.out
      by_cases hm : pmask k = a
      · rw [if_pos hm] at hp
        have H := pb_yes hp
        have HH : Hid (pbn a = k ∧ pbok a = true) := H
        have HM : Hid (pmask k = a) := hm
        clear hp H hm
        go_wp2_with (go_at_call 160; refine (mask_any _ _ (by omega)).mono ?_; rintro e w' ⟨rfl, rfl⟩; rw [HM.out])
        go_ret2
        exact ⟨ret_bits HH.out.1.symm HH.out.2.symm, rfl⟩
      · rw [if_neg hm] at hp
        have H := pb_no hp
        have HH : Hid (pbn a = 0 ∧ pbok a = false) := H
        clear hp H
        go_wp2_with (go_at_call 160; refine (mask_any _ _ (by omega)).mono ?_; rintro e w' ⟨rfl, rfl⟩)
        go_ret2
        exact ⟨ret_bits HH.out.1.symm HH.out.2.symm, rfl⟩
    · have hk2 : k < 32 := by
        rcases Nat.lt_or_ge k 32 with h | h
        · exact h
        · exfalso; obtain rfl : k = 32 := by omega
          exact hx (HX.out.trans (shl_32 a))
      go_wp2
      go_round
      case rel => exact ⟨k + 1, x * 2 % 4294967296, by omega, by go_num, rfl, by omega, by omega, (by show _ = _; rw [HX.out, shl_one]), none_next HL.out (fun e => hx (HX.out.trans e))⟩
      case measure => simp [intOf]; omega
end Go.Proofs.YthdkihnmeoacaaaGreatDoor

namespace Go.Proofs.YthdkihnmeoacaaaGreatDoor
open Go.RowKit
set_option linter.unusedVariables false
set_option maxRecDepth 100000

/-- A world in which nothing of w has turned. -/
structure Aft (w0 : World) where
  w : World
  gr : Touch (fun _ => False) w0 w

theorem wp_region_aft {P : Program} {id : Nat} {Q : Exit → Act → World → Prop} {a : Act} {w : World} {l : List Oper} (hm : P.follows .mixedOrders = true) (hB : Region.lexB .any l.toArray = true)
    (h : wpQuiet P l.toArray (fun w' => ∃ u : Aft w, w' = u.w) (fun a' => ∀ w', (∃ u : Aft w, w' = u.w) → Q .normal a' w') l a) : (Code.region id l.toArray true).wp P Q a w :=
  wp_region_quiet (C := fun w' => ∃ u : Aft w, w' = u.w) hm hB ⟨⟨_, (Touch.refl _ w).drew⟩, rfl⟩ (by simpa using h)
theorem Aft.call {P : Program} {f : FuncId} {args : Array Value} {w : World} {u : Aft w} {v : Value} (h : Calls P f args u.w fun e w' => e = .returned v ∧ Touch (fun _ => False) u.w w') :
    Calls P f args u.w fun e w'' => e = .returned v ∧ ∃ u' : Aft w, w'' = u'.w :=
  h.mono fun _ w'' ⟨he, hg⟩ => ⟨he, ⟨w'', u.gr.trans hg⟩, rfl⟩
theorem aft_cell {w : World} {p : Addr} {v : Value} (h : w.cell? p = some v) : ∀ u : Aft w, u.w.cell? p = some v :=
  fun u => u.gr.cellN h
end Go.Proofs.YthdkihnmeoacaaaGreatDoor

namespace Go.Proofs.YthdkihnmeoacaaaGreatDoor
open Go.RowKit
set_option linter.unusedVariables false
set_option maxRecDepth 100000

theorem take_u32 (g i : Nat) (x : Int) (w : World) (hc : w.cell? ⟨g, i, none⟩ = some (.int .u32 x)) (hf : w.frozen? ⟨g, i, none⟩ = false) :
    Calls Tryz.prog 131 #[.pointer (some ⟨g, i, none⟩)] w fun e w' => e = .returned (.int .u32 x) ∧ w.setCell ⟨g, i, none⟩ (.int .u32 0) = w' := by
  go_enter Tryz.func131, Tryz.ntmps131
  go_wp2
  go_ret
  exact ⟨rfl, rfl⟩
theorem take_u8 (g i : Nat) (x : Int) (w : World) (hc : w.cell? ⟨g, i, none⟩ = some (.int .u8 x)) (hf : w.frozen? ⟨g, i, none⟩ = false) :
    Calls Tryz.prog 140 #[.pointer (some ⟨g, i, none⟩)] w fun e w' => e = .returned (.int .u8 x) ∧ w.setCell ⟨g, i, none⟩ (.int .u8 0) = w' := by
  go_enter Tryz.func140, Tryz.ntmps140
  go_wp2
  go_ret
  exact ⟨rfl, rfl⟩
theorem take_bool (g i : Nat) (x : Bool) (w : World) (hc : w.cell? ⟨g, i, none⟩ = some (.bool x)) (hf : w.frozen? ⟨g, i, none⟩ = false) :
    Calls Tryz.prog 132 #[.pointer (some ⟨g, i, none⟩)] w fun e w' => e = .returned (.bool x) ∧ w.setCell ⟨g, i, none⟩ (.bool false) = w' := by
  go_enter Tryz.func132, Tryz.ntmps132
  go_wp2
  go_ret
  exact ⟨rfl, rfl⟩
theorem take_bytes (g i : Nat) (a : Option Addr) (n c : Nat) (w : World) (hc : w.cell? ⟨g, i, none⟩ = some (.slice a n c)) (hf : w.frozen? ⟨g, i, none⟩ = false) :
    Calls Tryz.prog 137 #[.pointer (some ⟨g, i, none⟩)] w fun e w' => e = .returned (.slice a n c) ∧ w.setCell ⟨g, i, none⟩ (.slice none 0 0) = w' := by
  go_enter Tryz.func137, Tryz.ntmps137
  go_wp2
  go_ret
  exact ⟨rfl, rfl⟩
theorem take_links (g i : Nat) (a : Option Addr) (n c : Nat) (w : World) (hc : w.cell? ⟨g, i, none⟩ = some (.slice a n c)) (hf : w.frozen? ⟨g, i, none⟩ = false) :
    Calls Tryz.prog 139 #[.pointer (some ⟨g, i, none⟩)] w fun e w' => e = .returned (.slice a n c) ∧ w.setCell ⟨g, i, none⟩ (.slice none 0 0) = w' := by
  go_enter Tryz.func139, Tryz.ntmps139
  go_wp2
  go_ret
  exact ⟨rfl, rfl⟩
theorem take_words (g i : Nat) (a : Option Addr) (n c : Nat) (w : World) (hc : w.cell? ⟨g, i, none⟩ = some (.slice a n c)) (hf : w.frozen? ⟨g, i, none⟩ = false) :
    Calls Tryz.prog 144 #[.pointer (some ⟨g, i, none⟩)] w fun e w' => e = .returned (.slice a n c) ∧ w.setCell ⟨g, i, none⟩ (.slice none 0 0) = w' := by
  go_enter Tryz.func144, Tryz.ntmps144
  go_wp2
  go_ret
  exact ⟨rfl, rfl⟩

theorem isMask_any (a : Int) (w : World) (h0 : 0 ≤ a) (h1 : a < 4294967296) : Calls Tryz.prog 146 #[.int .u32 a] w fun e w' => e = .returned (.bool (pbok a)) ∧ w = w' := by
  go_enter Tryz.func146, Tryz.ntmps146
  go_wp2_with (go_at_call 154; refine (bits_any a _ h0 h1).mono ?_; rintro e w' ⟨rfl, rfl⟩)
  go_ret
  exact ⟨rfl, rfl⟩
theorem isLink_any (x : LV) (w : World) : Calls Tryz.prog 149 #[.agg #[.int .u32 x.id, .int .u32 x.data, .int .u8 x.typ, .int .u16 x.cost]] w fun e w' => e = .returned (.bool (decide (1 ≤ x.typ) && decide (x.typ ≤ 4))) ∧ Touch (fun _ => False) w w' := by
  by_cases h1 : 1 ≤ x.typ
  · have h1' : decide (1 ≤ x.typ) = true := by simpa using h1
    go_enter Tryz.func149, Tryz.ntmps149
    go_wp2
    go_ret
    exact ⟨ret_bool (by simp_all), (Touch.refl _ w).alloc _⟩
  · have h1' : decide (1 ≤ x.typ) = false := by simpa using h1
    go_enter Tryz.func149, Tryz.ntmps149
    go_wp2
    go_ret
    exact ⟨ret_bool (by simp_all), (Touch.refl _ w).alloc _⟩

theorem size_any (h : HV) (a : Option Addr) (n c : Nat) (w : World) (hn : n ≤ 140737488355328) : Calls Tryz.prog 82 #[h.sv (.slice a n c)] w fun e w' => e = .returned (.int .i64 (20 + (n : Int))) ∧ Touch (fun _ => False) w w' := by
  have hw : wrap64 (20 + (n : Int)) = 20 + (n : Int) := by unfold wrap64; omega
  unfold HV.sv
  go_enter Tryz.func82, Tryz.ntmps82
  go_wp2
  go_ret
  exact ⟨rfl, (Touch.refl _ w).alloc _⟩
theorem hasLength_any (h : HV) (a : Option Addr) (n c : Nat) (w : World) (hn : n ≤ 140737488355328) (hl : 0 ≤ h.len ∧ h.len < 65536) : Calls Tryz.prog 71 #[h.sv (.slice a n c)] w fun e w' => e = .returned (.bool (h.len == 20 + (n : Int))) ∧ Touch (fun _ => False) w w' := by
  obtain ⟨hl0, hl1⟩ := hl
  have HC : ∀ w, Calls Tryz.prog 82 #[.agg #[.int .u16 h.age, .int .u8 h.opts, .int .u8 h.typ, .int .u32 h.id, .int .u32 h.adv, .int .i32 h.seq, .int .u16 h.sum, .int .u16 h.len, .slice a n c]] w fun e w' => e = .returned (.int .i64 (20 + (n : Int))) ∧ Touch (fun _ => False) w w' := fun w => size_any h a n c w hn
  show Calls Tryz.prog 71 #[.agg #[.int .u16 h.age, .int .u8 h.opts, .int .u8 h.typ, .int .u32 h.id, .int .u32 h.adv, .int .i32 h.seq, .int .u16 h.sum, .int .u16 h.len, .slice a n c]] w _
  have HB := Sd.new w h (.slice a n c) 35
  have p0 := aft_cell HB.hd.c0
  have p1 := aft_cell HB.hd.c1
  have p2 := aft_cell HB.hd.c2
  have p3 := aft_cell HB.hd.c3
  have p4 := aft_cell HB.hd.c4
  have p5 := aft_cell HB.hd.c5
  have p6 := aft_cell HB.hd.c6
  have p7 := aft_cell HB.hd.c7
  have p8 := aft_cell HB.c8
  clear HB
  go_enter Tryz.func71, Tryz.ntmps71
  go_upto_region 1 with fail
  refine wp_region_aft (by kernel_rfl) (by kernel_rfl) ?_
  repeat (first | go_big_quiet_skip | (go_big_quiet_want; go_big_quiet_op; first | go_big_quiet_on | (refine Exists.intro _ ⟨fun _ => rfl, ?_⟩; go_big_quiet_on)))
  go_big_quiet_want; go_big_quiet_op; refine Exists.intro _ ⟨fun u => Aft.call (HC _), ?_⟩; go_big_quiet_on
  repeat (first | go_big_quiet_skip | (go_big_quiet_want; go_big_quiet_op; first | go_big_quiet_on | (refine Exists.intro _ ⟨fun _ => rfl, ?_⟩; go_big_quiet_on)))
  refine wpQuiet_nil ?_
  rintro wq ⟨⟨_, hgq⟩, rfl⟩
  clear p0 p1 p2 p3 p4 p5 p6 p7 p8
  go_wp2
  go_ret
  exact ⟨rfl, ((Touch.refl _ w).alloc _).trans hgq⟩

theorem bare_any (x0 x2 x4 x6 x7 : Int) (x5 : Bool) (a1 a3 a8 : Option Addr) (n1 q1 n3 q3 n8 q8 : Nat) (w : World) (h1 : n1 ≤ 140737488355328) (h3 : n3 ≤ 140737488355328) (h8 : n8 ≤ 140737488355328) :
    Calls Tryz.prog 93 #[.agg #[.int .u8 x0, .slice a1 n1 q1, .int .u32 x2, .slice a3 n3 q3, .int .u32 x4, .bool x5, .int .u32 x6, .int .u32 x7, .slice a8 n8 q8]] w fun e w' =>
      e = .returned (.bool (((n1 : Int) + n3 + n8 == 0) && (x0 == 0) && (x2 == 0) && (x4 == 0) && (!x5) && (x6 == 0) && (x7 == 0))) ∧ Touch (fun _ => False) w w' := by
  have e1 : wrap64 ((n1 : Int) + n3) = (n1 : Int) + n3 := by unfold wrap64; omega
  have e2 : wrap64 ((n1 : Int) + n3 + n8) = (n1 : Int) + n3 + n8 := by unfold wrap64; omega
  go_enter Tryz.func93, Tryz.ntmps93
  go_wp2
  all_goals go_ret
  all_goals exact ⟨ret_bool (by simp_all), (Touch.refl _ w).alloc _⟩
end Go.Proofs.YthdkihnmeoacaaaGreatDoor

namespace Go.Proofs.YthdkihnmeoacaaaGreatDoor
open Go.RowKit
set_option linter.unusedVariables false
set_option maxRecDepth 100000

theorem Tryz.info5r : (Tryz.prog.info? 5).map (fun i => (i.zero, i.size, i.bytes)) = some (some (.int .u8 0), 1, 1) := by kernel_rfl

theorem clone_some (ad : Addr) (c : Nat) (ns : List Int) (w : World) (hs : ∀ j u, (bytesOf ns)[j]? = some u → w.cell? (ad.add j) = some u) (hcap : ns.length ≤ 1099511627776) :
    Calls Tryz.prog 91 #[.slice (some ad) ns.length c] w fun e w' => ∃ v, e = .returned v ∧ w'.ownsRow w.heap.size 5 1 v ns.length (bytesOf ns) ∧ Touch (fun _ => False) w w' ∧ v.ownBlock ≠ none := by
  obtain ⟨i0, hi, hz0, hz1, hz2⟩ := info_parts Tryz.info5r
  have hq := fun (w : World) (a : Option Addr) (n c n' c' : Nat) => Lib.run_eql_slice_nil (P := Tryz.prog) w 28 5 a n c n' c' Tryz.underlying28
  go_enter Tryz.func91, Tryz.ntmps91
  go_wp2_with (at_builtin; refine wpList_append_own_at _ rfl (.tmp 5) (.tmp 6) 28 rfl w.heap.size 5 i0 (.int .u8 0) 1 1 Tryz.underlying28 hi hz0 hz1 hz2 rfl (by decide) (.slice (some ⟨w.heap.size, 0, none⟩) 0 0) 0 [] rfl ?c0 ad ns.length c (bytesOf ns) rfl ?c6 ?c1 ?c2 ?c3 ?c4 ?c5 ?_)
  case c0 => exact World.ownsRow_lit w #[] 0 (Nat.le_refl _) (by simp [maxLen]) (by simp)
  case c6 => simp [length_bytesOf]
  case c1 => exact fun j u hj => ((Touch.refl _ w).alloc _).cellN (hs j u hj)
  case c2 => exact oneCell_bytesOf ns
  case c3 => unfold maxLen; omega
  case c4 => omega
  case c5 => simp
  intro v' w1 hown' hgrow _ hat
  have t1 : Touch (fun _ => False) w w1 := ((Touch.refl _ w).alloc _).grown hgrow (fun k hk => Or.inr (by simp [Value.ownBlock] at hk; omega))
  have hne : v'.ownBlock ≠ none := by rcases hat with h | h <;> rw [h] <;> simp [Value.ownBlock]
  clear hgrow hat
  go_wp2
  go_ret
  exact ⟨v', rfl, by simpa using hown', t1, hne⟩

theorem clone_nil (w : World) :
    Calls Tryz.prog 91 #[.slice none 0 0] w fun e w' => e = .returned (.slice none 0 0) ∧ w = w' := by
  have hq := fun (w : World) (a : Option Addr) (n c n' c' : Nat) => Lib.run_eql_slice_nil (P := Tryz.prog) w 28 5 a n c n' c' Tryz.underlying28
  go_enter Tryz.func91, Tryz.ntmps91
  go_wp2
  go_ret
  exact ⟨rfl, rfl⟩

theorem write_any (most : Int) (w : World) (hm : 0 ≤ most) :
    Calls Tryz.prog 81 #[.int .i64 most] w fun e w' => e = .returned (.pointer (some ⟨w.heap.size, 0, none⟩)) ∧ WrS w' w.heap.size (.slice none 0 0) [] most 0 ∧ Touch (fun _ => False) w w' := by
  go_enter Tryz.func81, Tryz.ntmps81
  go_wp2
  go_ret
  refine ⟨rfl, ⟨by simp, by simp, by simp, by simp, by simp, by simp, World.ownsRow_nil _ _ _ _⟩, (Touch.refl _ w).alloc _⟩

theorem err_any (b : Nat) (err : Int) (w : World) (h0 : w.cell? ⟨b, 0, none⟩ = some (.bool true)) (h3 : w.cell? ⟨b, 3, none⟩ = some (.int .i64 err)) :
    Calls Tryz.prog 99 #[.pointer (some ⟨b, 0, none⟩)] w fun e w' => e = .returned (.int .i64 err) ∧ w = w' := by
  go_enter Tryz.func99, Tryz.ntmps99
  go_wp2
  go_ret
  exact ⟨rfl, rfl⟩

theorem rwhole_any (b : Nat) (err : Int) (w : World) (h0 : w.cell? ⟨b, 0, none⟩ = some (.bool true)) (h3 : w.cell? ⟨b, 3, none⟩ = some (.int .i64 err)) :
    Calls Tryz.prog 113 #[.pointer (some ⟨b, 0, none⟩)] w fun e w' => e = .returned (.bool (err == 0)) ∧ w = w' := by
  go_enter Tryz.func113, Tryz.ntmps113
  go_wp2_with (go_at_call 99; refine (err_any _ err _ (by assumption) (by assumption)).mono ?_; rintro e w' ⟨rfl, rfl⟩)
  go_ret
  exact ⟨rfl, rfl⟩

theorem left_ok (b p : Nat) (rv : Value) (rs : List Int) (w : World) (h : RdS w b rv rs p 0) :
    Calls Tryz.prog 100 #[.pointer (some ⟨b, 0, none⟩)] w fun e w' => e = .returned (.int .i64 ((rs.length : Int) - p)) ∧ ∃ n, w' = w.drewN n := by
  obtain ⟨a, c, rfl, hm⟩ := rowAt_form h.rowAt
  unfold maxLen at hm
  have h0 := h.made
  have h1 := h.row
  have h2 := h.pos
  have h3 := h.err
  have hp := h.ple
  go_enter Tryz.func100, Tryz.ntmps100
  go_wp2_with (go_at_call 113; refine (rwhole_any _ 0 _ (by assumption) (by assumption)).mono ?_; rintro e w' ⟨rfl, rfl⟩)
  go_quiet (fail)
  go_wp2
  go_ret
  exact ⟨rfl, _, rfl⟩

theorem left_dead (b : Nat) (err : Int) (w : World) (h0 : w.cell? ⟨b, 0, none⟩ = some (.bool true)) (h3 : w.cell? ⟨b, 3, none⟩ = some (.int .i64 err)) (he : (err == 0) = false) :
    Calls Tryz.prog 100 #[.pointer (some ⟨b, 0, none⟩)] w fun e w' => e = .returned (.int .i64 0) ∧ w = w' := by
  go_enter Tryz.func100, Tryz.ntmps100
  go_wp2_with (go_at_call 113; refine (rwhole_any _ err _ (by assumption) (by assumption)).mono ?_; rintro e w' ⟨rfl, rfl⟩)
  go_ret
  exact ⟨rfl, rfl⟩

/-- refuse: a whole reader takes the error, another one stays. -/
theorem refuse_ok (b : Nat) (q : Int) (w : World) (h0 : w.cell? ⟨b, 0, none⟩ = some (.bool true)) (h3 : w.cell? ⟨b, 3, none⟩ = some (.int .i64 0)) (hf : w.frozen? ⟨b, 3, none⟩ = false) :
    Calls Tryz.prog 147 #[.pointer (some ⟨b, 0, none⟩), .int .i64 q] w fun e w' => e = .returned (.tuple #[]) ∧ w.setCell ⟨b, 3, none⟩ (.int .i64 q) = w' := by
  go_enter Tryz.func147, Tryz.ntmps147
  go_wp2_with (go_at_call 113; refine (rwhole_any _ 0 _ (by assumption) (by assumption)).mono ?_; rintro e w' ⟨rfl, rfl⟩)
  go_end0
  exact ⟨rfl, rfl⟩

theorem refuse_dead (b : Nat) (q err : Int) (w : World) (h0 : w.cell? ⟨b, 0, none⟩ = some (.bool true)) (h3 : w.cell? ⟨b, 3, none⟩ = some (.int .i64 err)) (he : (err == 0) = false) :
    Calls Tryz.prog 147 #[.pointer (some ⟨b, 0, none⟩), .int .i64 q] w fun e w' => e = .returned (.tuple #[]) ∧ w = w' := by
  go_enter Tryz.func147, Tryz.ntmps147
  go_wp2_with (go_at_call 113; refine (rwhole_any _ err _ (by assumption) (by assumption)).mono ?_; rintro e w' ⟨rfl, rfl⟩)
  go_end0
  exact ⟨rfl, rfl⟩
end Go.Proofs.YthdkihnmeoacaaaGreatDoor

namespace Go.Proofs.YthdkihnmeoacaaaGreatDoor
open Go.RowKit
set_option linter.unusedVariables false
set_option maxRecDepth 100000

theorem row_sub {w : World} {g off : Nat} {rs : List Int} (hc : ∀ j u, (bytesOf rs)[j]? = some u → w.cell? ⟨g, off + j, none⟩ = some u) (p m : Nat) (hm : p + m ≤ rs.length) (hcm : rs.length ≤ maxLen) :
    RowAt w (.slice (some ⟨g, off + p, none⟩) m m) ((rs.drop p).take m) := by
  have hl : ((rs.drop p).take m).length = m := by simp; omega
  refine Or.inr ⟨g, off + p, m, by rw [hl], by omega, by omega, ?_⟩
  intro j u hj
  have : (bytesOf rs)[p + j]? = some u := by
    simp only [bytesOf, List.map_take, List.map_drop, List.getElem?_take, List.getElem?_drop] at hj ⊢
    split at hj
    · exact hj
    · simp at hj
  have := hc _ _ this
  rwa [← Nat.add_assoc] at this

theorem row_none (w : World) (g off : Nat) : RowAt w (.slice (some ⟨g, off, none⟩) 0 0) [] :=
  Or.inr ⟨g, off, 0, by simp, by simp, by simp [maxLen], by intro j u hj; simp [bytesOf] at hj⟩

theorem cut_ok (b p m : Nat) (rv : Value) (rs : List Int) (w : World) (h : RdS w b rv rs p 0) (hm : p + m ≤ rs.length) :
    Calls Tryz.prog 148 #[.pointer (some ⟨b, 0, none⟩), .int .i64 m] w fun e w' => ∃ sv, e = .returned sv ∧ RowAt w' sv ((rs.drop p).take m) ∧ (sv.ownBlock = none ∨ sv.ownBlock = rv.ownBlock) ∧
      RdS w' b rv rs (p + m) 0 ∧ Touch (fun k => k = b) w w' ∧ w'.heap.size = w.heap.size := by
  have h0 := h.made
  have h1 := h.row
  have h2 := h.pos
  have h3 := h.err
  have hf2 := h.f2
  have hlt := lt_of_cell h0
  have HW : ∀ n, RdS (w.drewN n) b rv rs p 0 := fun n => h.drewN n
  rcases h.rowAt with ⟨rfl, rfl⟩ | ⟨g, off, c, rfl, hlc, hcm, hcells⟩
  · obtain rfl : p = 0 := by simpa using h.ple
    obtain rfl : m = 0 := by simpa using hm
    go_enter Tryz.func148, Tryz.ntmps148
    go_wp2_with (first | (go_at_call 100; refine (left_ok _ 0 _ [] _ h).mono ?_; rintro e w' ⟨rfl, nl, rfl⟩) | (go_at_call 113; refine (rwhole_any _ 0 _ (HW _).made (HW _).err).mono ?_; rintro e w' ⟨rfl, rfl⟩))
    go_quiet (fail)
    have HB : Hid (RdS ((w.drewN nl).setCell ⟨b, 2, none⟩ (.int .i64 ((0 : Nat) : Int))) b (.slice none 0 0) [] 0 0) := (h.drewN nl).setPos 0 (by simp)
    have HT : Hid (Touch (fun k => k = b) w ((w.drewN nl).setCell ⟨b, 2, none⟩ (.int .i64 ((0 : Nat) : Int)))) := Touch.setCell (F := fun k => k = b) (p := ⟨b, 2, none⟩) ((Touch.refl _ w).drewN nl) (Or.inl rfl) _
    clear h0 h1 h2 h3 hf2 HW h
    go_wp2
    go_ret
    exact ⟨_, rfl, Or.inl ⟨rfl, rfl⟩, Or.inl rfl, HB.out.drewN _, HT.out.drewN _, by simp [World.setCell, World.drewN]⟩
  · unfold maxLen at hcm
    by_cases hm0 : m = 0
    · subst hm0
      go_enter Tryz.func148, Tryz.ntmps148
      go_wp2_with (first | (go_at_call 100; refine (left_ok _ p _ rs _ h).mono ?_; rintro e w' ⟨rfl, nl, rfl⟩) | (go_at_call 113; refine (rwhole_any _ 0 _ (HW _).made (HW _).err).mono ?_; rintro e w' ⟨rfl, rfl⟩))
      go_quiet (fail)
      have HB : Hid (RdS ((w.drewN nl).setCell ⟨b, 2, none⟩ (.int .i64 ((p : Nat) : Int))) b (.slice (some ⟨g, off, none⟩) rs.length c) rs p 0) := (h.drewN nl).setPos p hm
      have HT : Hid (Touch (fun k => k = b) w ((w.drewN nl).setCell ⟨b, 2, none⟩ (.int .i64 ((p : Nat) : Int)))) := Touch.setCell (F := fun k => k = b) (p := ⟨b, 2, none⟩) ((Touch.refl _ w).drewN nl) (Or.inl rfl) _
      clear h0 h1 h2 h3 hf2 HW h
      go_wp2
      go_ret
      exact ⟨.slice (some ⟨g, off, none⟩) 0 0, rfl, row_none _ _ _, Or.inr rfl, HB.out.drewN _, HT.out.drewN _, by simp [World.setCell, World.drewN]⟩
    · have hpm : ¬ p + m = p := by omega
      have hpp : p + m - p = m := by omega
      go_enter Tryz.func148, Tryz.ntmps148
      go_wp2_with (first | (go_at_call 100; refine (left_ok _ p _ rs _ h).mono ?_; rintro e w' ⟨rfl, nl, rfl⟩) | (go_at_call 113; refine (rwhole_any _ 0 _ (HW _).made (HW _).err).mono ?_; rintro e w' ⟨rfl, rfl⟩))
      go_quiet (fail)
      have HB : Hid (RdS ((w.drewN nl).setCell ⟨b, 2, none⟩ (.int .i64 ((p : Int) + (m : Int)))) b (.slice (some ⟨g, off, none⟩) rs.length c) rs (p + m) 0) := (h.drewN nl).setPos (p + m) hm
      have HT : Hid (Touch (fun k => k = b) w ((w.drewN nl).setCell ⟨b, 2, none⟩ (.int .i64 ((p : Int) + (m : Int))))) := Touch.setCell (F := fun k => k = b) (p := ⟨b, 2, none⟩) ((Touch.refl _ w).drewN nl) (Or.inl rfl) _
      clear h0 h1 h2 h3 hf2 HW h
      go_wp2
      go_ret
      refine ⟨.slice (some ⟨g, off + p, none⟩) (p + m - p) (p + m - p), rfl, ?_, Or.inr rfl, HB.out.drewN _, HT.out.drewN _, by simp [World.setCell, World.drewN]⟩
      rw [hpp]
      refine row_sub (fun j u hj => ?_) p m hm (by unfold maxLen; omega)
      exact ((HT.out.drewN _).cell (p := ⟨g, off + j, none⟩) (lt_of_cell (hcells j u hj)) (by have := HB.out.ne; simpa [Value.ownBlock] using this)).trans (hcells j u hj)

/-- Where fewer bytes are left: no bytes, and the reader is short from then on. -/
theorem cut_short (b p : Nat) (m : Int) (rv : Value) (rs : List Int) (w : World) (h : RdS w b rv rs p 0) (hm : (rs.length : Int) < p + m) (hmm : m ≤ 9223372036854775807) :
    Calls Tryz.prog 148 #[.pointer (some ⟨b, 0, none⟩), .int .i64 m] w fun e w' => e = .returned (.slice none 0 0) ∧ RdS w' b rv rs p 10 ∧ Touch (fun k => k = b) w w' ∧ w'.heap.size = w.heap.size := by
  have hple := h.ple
  have hm1 : (rs.length : Int) - p < m := by omega
  have hm2 : ¬ m < 0 := by omega
  have HW : ∀ n, RdS (w.drewN n) b rv rs p 0 := fun n => h.drewN n
  have hlt := lt_of_cell h.made
  clear hm
  go_enter Tryz.func148, Tryz.ntmps148
  go_wp2_with (first | (go_at_call 100; refine (left_ok _ p _ rs _ h).mono ?_; rintro e w' ⟨rfl, nl, rfl⟩) | (go_at_call 147; refine (refuse_ok _ 10 _ (HW _).made (HW _).err (HW _).f3).mono ?_; rintro e w' ⟨rfl, rfl⟩) | (go_at_call 113; refine (rwhole_any _ 10 _ ((HW _).setErr 10).made ((HW _).setErr 10).err).mono ?_; rintro e w' ⟨rfl, rfl⟩))
  go_ret
  exact ⟨rfl, (HW _).setErr 10, Touch.setCell (F := fun k => k = b) (p := ⟨b, 3, none⟩) ((Touch.refl _ w).drewN _) (Or.inl rfl) _, by simp [World.setCell, World.drewN]⟩
end Go.Proofs.YthdkihnmeoacaaaGreatDoor
