/- Contracts: Mask, Bits. -/
import Derived.Test.YtjffcflhbnmjmaaGreatMaskBits
import Derived.Test.YtjffcflhbnmjmaaGreatStaMath
import Derived.Test.YtjffcflhbnmjmaaGreatParts
import Derived.Test.YtjffcflhbnmjmaaGreatStFace
import Derived.Deep.RegionHeld3
import Derived.Deep.DeepCutAuto
import Derived.Test.YtjffcflhbnmjmaaGreatRdAll2
namespace Go.Proofs.YtjffcflhbnmjmaaGreat
open Go.RowKit
set_option linter.unusedVariables false
set_option maxRecDepth 100000

theorem mask_eq {n : Int} (h0 : 0 ≤ n) (h1 : n ≤ 32) : 4294967295 * 2 ^ (32 - n).toNat % 4294967296 = pmask n := by
  rw [pmask_le h1]
  show 4294967295 * psz n % 4294967296 = _
  have := psz_pos n; have := psz_le h0
  omega

set_option maxHeartbeats 400000 in
theorem mask_any (n : Int) (w : World) (h0 : 0 ≤ n) :
    Calls Tryz.prog 110 #[.int .u8 n] w fun e w' => e = .returned (.int .u32 (pmask n)) ∧ w = w' := by
  by_cases h1 : n ≤ 32
  · have hm := mask_eq h0 h1
    have H : Hid (4294967295 * 2 ^ (32 - n).toNat % 4294967296 = pmask n) := hm
    clear hm
    go_enter Tryz.func110, Tryz.ntmps110
    go_wp2
    go_ret
    exact ⟨ret_int H.out, rfl⟩
  · have h2 : 32 < n := by omega
    have H : Hid (pmask n = 0) := pmask_gt h2
    clear h1
    go_enter Tryz.func110, Tryz.ntmps110
    go_wp2
    go_ret
    exact ⟨ret_int H.out.symm, rfl⟩

set_option maxHeartbeats 400000 in
theorem bits_any (a : Int) (w : World) (h0 : 0 ≤ a) (h1 : a < 4294967296) :
    Calls Tryz.prog 86 #[.int .u32 a] w fun e w' => e = .returned (.tuple #[.int .u8 (pbn a), .bool (pbok a)]) ∧ w = w' := by
  go_enter Tryz.func86, Tryz.ntmps86
  go_wp2
  go_loop [4, 5] (fun n r => ∃ k : Nat, ∃ x : Int, k ≤ 32 ∧ n = .int .u8 k ∧ r = .int .u32 x ∧ 0 ≤ x ∧ x < 4294967296 ∧ Hid (x = a * 2 ^ k % 4294967296) ∧ Hid (∀ j : Nat, j < k → a * 2 ^ j % 4294967296 ≠ 0)) (fun n _ => 32 - (intOf n).toNat)
  case atStart => exact ⟨0, a, by omega, rfl, rfl, h0, h1, (by show a = _; rw [Int.pow_zero]; omega), fun j hj => absurd hj (by omega)⟩
  case round =>
    obtain ⟨k, x, hk, rfl, rfl, hx0, hx1, HX, HL⟩ := hrel
    by_cases hx : x = 0
    · subst hx
      have hp := bits_at hk HX.out.symm HL.out
      by_cases hm : pmask k = a
      · rw [if_pos hm] at hp
        have H := pb_yes hp
        have HH : Hid (pbn a = k ∧ pbok a = true) := H
        have HM : Hid (pmask k = a) := hm
        clear hp H hm
        go_wp2_with (go_at_call 110; refine (mask_any _ _ (by omega)).mono ?_; rintro e w' ⟨rfl, rfl⟩; rw [HM.out])
        go_ret2
        exact ⟨ret_bits HH.out.1.symm HH.out.2.symm, rfl⟩
      · rw [if_neg hm] at hp
        have H := pb_no hp
        have HH : Hid (pbn a = 0 ∧ pbok a = false) := H
        clear hp H
        go_wp2_with (go_at_call 110; refine (mask_any _ _ (by omega)).mono ?_; rintro e w' ⟨rfl, rfl⟩)
        go_ret2
        exact ⟨ret_bits HH.out.1.symm HH.out.2.symm, rfl⟩
    · have hk2 : k < 32 := by
        rcases Nat.lt_or_ge k 32 with h | h
        · exact h
        · exfalso; obtain rfl : k = 32 := by omega
          exact hx (HX.out.trans (shl_32 a))
      go_wp2
      go_round
      case rel => exact ⟨k + 1, x * 2 % 4294967296, by omega, by go_num, rfl, by omega, by omega, (by show _ = _; rw [HX.out, shl_one]), none_next HL.out (fun e => hx (HX.out.trans e))⟩
      case measure => simp [intOf]; omega
end Go.Proofs.YtjffcflhbnmjmaaGreat

namespace Go.Proofs.YtjffcflhbnmjmaaGreat
open Go.RowKit
set_option linter.unusedVariables false
set_option maxRecDepth 100000

/-- A world in which nothing of w has turned. -/
structure Aft (w0 : World) where
  w : World
  gr : Touch (fun _ => False) w0 w

theorem wp_region_aft {P : Program} {id : Nat} {Q : Exit → Act → World → Prop} {a : Act} {w : World} {l : List Oper} (hm : P.follows .mixedOrders = true) (hB : Region.lexB .any l.toArray = true)
    (h : wpQuiet P l.toArray (fun w' => ∃ u : Aft w, w' = u.w) (fun a' => ∀ w', (∃ u : Aft w, w' = u.w) → Q .normal a' w') l a) : (Code.region id l.toArray true).wp P Q a w :=
  wp_region_quiet (C := fun w' => ∃ u : Aft w, w' = u.w) hm hB ⟨⟨_, (Touch.refl _ w).drew⟩, rfl⟩ (by simpa using h)
theorem Aft.call {P : Program} {f : FuncId} {args : Array Value} {w : World} {u : Aft w} {v : Value} (h : Calls P f args u.w fun e w' => e = .returned v ∧ Touch (fun _ => False) u.w w') :
    Calls P f args u.w fun e w'' => e = .returned v ∧ ∃ u' : Aft w, w'' = u'.w :=
  h.mono fun _ w'' ⟨he, hg⟩ => ⟨he, ⟨w'', u.gr.trans hg⟩, rfl⟩
theorem aft_cell {w : World} {p : Addr} {v : Value} (h : w.cell? p = some v) : ∀ u : Aft w, u.w.cell? p = some v :=
  fun u => u.gr.cellN h
end Go.Proofs.YtjffcflhbnmjmaaGreat

namespace Go.Proofs.YtjffcflhbnmjmaaGreat
open Go.RowKit
set_option linter.unusedVariables false
set_option maxRecDepth 100000

theorem isMask_any (a : Int) (w : World) (h0 : 0 ≤ a) (h1 : a < 4294967296) : Calls Tryz.prog 167 #[.int .u32 a] w fun e w' => e = .returned (.bool (pbok a)) ∧ w = w' := by
  go_enter Tryz.func167, Tryz.ntmps167
  go_wp2_with (go_at_call 86; refine (bits_any a _ h0 h1).mono ?_; rintro e w' ⟨rfl, rfl⟩)
  go_ret
  exact ⟨rfl, rfl⟩
theorem isLink_any (x : LV) (w : World) : Calls Tryz.prog 170 #[.agg #[.int .u32 x.id, .int .u32 x.data, .int .u8 x.typ, .int .u16 x.cost]] w fun e w' => e = .returned (.bool (decide (1 ≤ x.typ) && decide (x.typ ≤ 4))) ∧ Touch (fun _ => False) w w' := by
  by_cases h1 : 1 ≤ x.typ
  · have h1' : decide (1 ≤ x.typ) = true := by simpa using h1
    go_enter Tryz.func170, Tryz.ntmps170
    go_wp2
    go_ret
    exact ⟨ret_bool (by simp_all), (Touch.refl _ w).alloc _⟩
  · have h1' : decide (1 ≤ x.typ) = false := by simpa using h1
    go_enter Tryz.func170, Tryz.ntmps170
    go_wp2
    go_ret
    exact ⟨ret_bool (by simp_all), (Touch.refl _ w).alloc _⟩

theorem size_any (h : HV) (a : Option Addr) (n c : Nat) (w : World) (hn : n ≤ 140737488355328) : Calls Tryz.prog 94 #[h.sv (.slice a n c)] w fun e w' => e = .returned (.int .i64 (20 + (n : Int))) ∧ Touch (fun _ => False) w w' := by
  have hw : wrap64 (20 + (n : Int)) = 20 + (n : Int) := by unfold wrap64; omega
  unfold HV.sv
  go_enter Tryz.func94, Tryz.ntmps94
  go_wp2
  go_ret
  exact ⟨rfl, (Touch.refl _ w).alloc _⟩
theorem hasLength_any (h : HV) (a : Option Addr) (n c : Nat) (w : World) (hn : n ≤ 140737488355328) (hl : 0 ≤ h.len ∧ h.len < 65536) : Calls Tryz.prog 75 #[h.sv (.slice a n c)] w fun e w' => e = .returned (.bool (h.len == 20 + (n : Int))) ∧ Touch (fun _ => False) w w' := by
  obtain ⟨hl0, hl1⟩ := hl
  have HC : ∀ w, Calls Tryz.prog 94 #[.agg #[.int .u16 h.age, .int .u8 h.opts, .int .u8 h.typ, .int .u32 h.id, .int .u32 h.adv, .int .i32 h.seq, .int .u16 h.sum, .int .u16 h.len, .slice a n c]] w fun e w' => e = .returned (.int .i64 (20 + (n : Int))) ∧ Touch (fun _ => False) w w' := fun w => size_any h a n c w hn
  show Calls Tryz.prog 75 #[.agg #[.int .u16 h.age, .int .u8 h.opts, .int .u8 h.typ, .int .u32 h.id, .int .u32 h.adv, .int .i32 h.seq, .int .u16 h.sum, .int .u16 h.len, .slice a n c]] w _
  have HB := Sd.new w h (.slice a n c) 52
  have p0 := aft_cell HB.hd.c0
  have p1 := aft_cell HB.hd.c1
  have p2 := aft_cell HB.hd.c2
  have p3 := aft_cell HB.hd.c3
  have p4 := aft_cell HB.hd.c4
  have p5 := aft_cell HB.hd.c5
  have p6 := aft_cell HB.hd.c6
  have p7 := aft_cell HB.hd.c7
  have p8 := aft_cell HB.c8
  clear HB
  go_enter Tryz.func75, Tryz.ntmps75
  go_upto_region 1 with fail
  refine wp_region_aft (by kernel_rfl) (by kernel_rfl) ?_
  repeat (first | go_big_quiet_skip | (go_big_quiet_want; go_big_quiet_op; first | go_big_quiet_on | (refine Exists.intro _ ⟨fun _ => rfl, ?_⟩; go_big_quiet_on)))
  go_big_quiet_want; go_big_quiet_op; refine Exists.intro _ ⟨fun u => Aft.call (HC _), ?_⟩; go_big_quiet_on
  repeat (first | go_big_quiet_skip | (go_big_quiet_want; go_big_quiet_op; first | go_big_quiet_on | (refine Exists.intro _ ⟨fun _ => rfl, ?_⟩; go_big_quiet_on)))
  refine wpQuiet_nil ?_
  rintro wq ⟨⟨_, hgq⟩, rfl⟩
  clear p0 p1 p2 p3 p4 p5 p6 p7 p8
  go_wp2
  go_ret
  exact ⟨rfl, ((Touch.refl _ w).alloc _).trans hgq⟩

end Go.Proofs.YtjffcflhbnmjmaaGreat

namespace Go.Proofs.YtjffcflhbnmjmaaGreat
open Go.RowKit
set_option linter.unusedVariables false
set_option maxRecDepth 100000

/-- What a value that owns a row looks like. -/
theorem own_form {w : World} {base : Nat} {e : TypeId} {size : Nat} {v : Value} {n : Nat} {xs : List Value} (h : w.ownsRow base e size v n xs) : ∃ a c, v = .slice a n c := by
  rcases h.2 with ⟨rfl, rfl⟩ | ⟨g, cap, cur, rfl, _⟩
  · exact ⟨_, _, rfl⟩
  · exact ⟨_, _, rfl⟩
end Go.Proofs.YtjffcflhbnmjmaaGreat

namespace Go.Proofs.YtjffcflhbnmjmaaGreat
open Go.RowKit
set_option linter.unusedVariables false
set_option maxRecDepth 100000

/-- What Put does to a writer's bytes and error. -/
def putB (bs : List Int) (most err : Int) (ns : List Int) : List Int := if err = 0 ∧ (bs.length : Int) + ns.length ≤ most then bs ++ ns else bs
def putE (bs : List Int) (most err : Int) (ns : List Int) : Int := if err = 0 then (if (bs.length : Int) + ns.length ≤ most then 0 else 11) else err

/-- Where the row lies then. -/
def Moved (w : World) (v v' : Value) : Prop := v'.ownBlock = v.ownBlock ∨ ∃ g, v'.ownBlock = some g ∧ w.heap.size ≤ g

theorem WrS.setErr {w : World} {b : Nat} {v : Value} {bs : List Int} {most err : Int} (h : WrS w b v bs most err) (q : Int) : WrS (w.setCell ⟨b, 3, none⟩ (.int .i64 q)) b v bs most q := by
  exact ⟨by simp [h.made, go_sem], by simp [h.row, go_sem], by simp [h.most, go_sem], by simp [h.err, go_sem], by simp [h.f1, go_sem], by simp [h.f3, go_sem], own_setCell h.own (Nat.lt_succ_self b) _⟩
theorem WrS.touchErr {w : World} {b : Nat} {v : Value} (q : Value) : Touch (wrF b v) w (w.setCell ⟨b, 3, none⟩ q) := Touch.setCell (F := wrF b v) (p := ⟨b, 3, none⟩) (Touch.refl _ w) (Or.inl (Or.inl rfl)) _

theorem wrefuse_any (b : Nat) (q err : Int) (w : World) (h3 : w.cell? ⟨b, 3, none⟩ = some (.int .i64 err)) (hf : w.frozen? ⟨b, 3, none⟩ = false) :
    Calls Tryz.prog 116 #[.pointer (some ⟨b, 0, none⟩), .int .i64 q] w fun e w' => e = .returned (.pointer (some ⟨b, 0, none⟩)) ∧ w.setCell ⟨b, 3, none⟩ (.int .i64 q) = w' := by
  go_enter Tryz.func116, Tryz.ntmps116
  go_wp2
  go_ret
  exact ⟨rfl, rfl⟩

theorem put_dead (b : Nat) (v : Value) (bs : List Int) (most err : Int) (s : Value) (w : World) (h : WrS w b v bs most err) (he : ¬ err = 0) :
    Calls Tryz.prog 98 #[.pointer (some ⟨b, 0, none⟩), s] w fun e w' => e = .returned (.pointer (some ⟨b, 0, none⟩)) ∧ w = w' := by
  have h0 := h.made
  have h3 := h.err
  have he' : (err == 0) = false := by simpa using he
  go_enter Tryz.func98, Tryz.ntmps98
  go_wp2_with (go_at_call 115; refine (whole_any _ err _ h0 h3).mono ?_; rintro e w' ⟨rfl, rfl⟩)
  go_ret
  exact ⟨rfl, rfl⟩

theorem put_long (b : Nat) (v : Value) (bs : List Int) (most : Int) (a : Option Addr) (m c : Nat) (w : World) (h : WrS w b v bs most 0) (hfit : most < (bs.length : Int) + m) (hcap : bs.length + m ≤ 1099511627776) :
    Calls Tryz.prog 98 #[.pointer (some ⟨b, 0, none⟩), .slice a m c] w fun e w' => e = .returned (.pointer (some ⟨b, 0, none⟩)) ∧ ∃ n, (w.drewN n).setCell ⟨b, 3, none⟩ (.int .i64 11) = w' := by
  have h0 := h.made
  have h1 := h.row
  have h2 := h.most
  have h3 := h.err
  have hf := h.f3
  have hlt := lt_of_cell h0
  obtain ⟨va, vc, rfl⟩ := own_form h.own
  clear h
  go_enter Tryz.func98, Tryz.ntmps98
  go_wp2_with (go_at_call 115; refine (whole_any _ 0 _ h0 h3).mono ?_; rintro e w' ⟨rfl, rfl⟩)
  go_quiet (fail)
  go_wp2_with (go_at_call 116; refine (wrefuse_any _ _ 0 _ (by simpa using h3) (by simpa using hf)).mono ?_; rintro e w' ⟨rfl, rfl⟩)
  go_ret
  exact ⟨rfl, _, rfl⟩

theorem put_all (b : Nat) (v : Value) (bs : List Int) (most err : Int) (ad : Addr) (c : Nat) (ns : List Int) (w : World) (h : WrS w b v bs most err) (hs : ∀ j u, (bytesOf ns)[j]? = some u → w.cell? (ad.add j) = some u) (hcap : bs.length + ns.length ≤ 1099511627776) :
    Calls Tryz.prog 98 #[.pointer (some ⟨b, 0, none⟩), .slice (some ad) ns.length c] w fun e w' => e = .returned (.pointer (some ⟨b, 0, none⟩)) ∧
      ∃ v', WrS w' b v' (putB bs most err ns) most (putE bs most err ns) ∧ Touch (wrF b v) w w' ∧ Moved w v v' := by
  by_cases he : err = 0
  · subst he
    by_cases hfit : (bs.length : Int) + ns.length ≤ most
    · refine (put_ok b v bs most ad c ns w h hs hfit hcap).mono ?_
      rintro e w' ⟨rfl, v', h1, h2, h3⟩
      exact ⟨rfl, v', by simpa [putB, putE, hfit] using h1, h2, h3⟩
    · refine (put_long b v bs most (some ad) ns.length c w h (by omega) hcap).mono ?_
      rintro e w' ⟨rfl, n, rfl⟩
      refine ⟨rfl, v, ?_, ?_, Or.inl rfl⟩
      · simpa [putB, putE, hfit] using (h.drewN n).setErr 11
      · exact ((Touch.refl _ w).drewN n).trans (WrS.touchErr _)
  · refine (put_dead b v bs most err _ w h he).mono ?_
    rintro e w' ⟨rfl, rfl⟩
    exact ⟨rfl, v, by simpa [putB, putE, he] using h, Touch.refl _ _, Or.inl rfl⟩

theorem spell_dead (b : Nat) (x n err : Int) (f : Value) (w : World) (h0 : w.cell? ⟨b, 0, none⟩ = some (.bool true)) (h3 : w.cell? ⟨b, 3, none⟩ = some (.int .i64 err)) (he : (err == 0) = false) :
    Calls Tryz.prog 146 #[.pointer (some ⟨b, 0, none⟩), .int .u32 x, .int .i64 n, f] w fun e w' => e = .returned (.pointer (some ⟨b, 0, none⟩)) ∧ w = w' := by
  go_enter Tryz.func146, Tryz.ntmps146
  go_wp2_with (go_at_call 115; refine (whole_any _ err _ h0 h3).mono ?_; rintro e w' ⟨rfl, rfl⟩)
  go_ret
  exact ⟨rfl, rfl⟩

theorem wnumber_dead (b : Nat) (v : Value) (bs : List Int) (most err : Int) (x n : Int) (w : World) (h : WrS w b v bs most err) (he : ¬ err = 0) :
    Calls Tryz.prog 114 #[.pointer (some ⟨b, 0, none⟩), .int .u32 x, .int .i64 n] w fun e w' => e = .returned (.pointer (some ⟨b, 0, none⟩)) ∧ w = w' := by
  have hmf : ∀ (fn : Fn) (first cap : Array Value) (w : World), (Instr.makeFunc fn first cap).run Tryz.prog w = .ok (.func fn first cap) w := fun _ _ _ _ => rfl
  go_enter Tryz.func114, Tryz.ntmps114
  go_wp2_with (go_at_call 146; refine (spell_dead _ _ _ err _ _ h.made h.err (by simpa using he)).mono ?_; rintro e w' ⟨rfl, rfl⟩)
  go_ret
  exact ⟨rfl, rfl⟩

theorem wnumber_put1 (b : Nat) (v : Value) (bs : List Int) (most : Int) (x : Int) (w : World) (h : WrS w b v bs most 0) (hx : 0 ≤ x ∧ x < 256) (hcap : bs.length ≤ 1048576) :
    Calls Tryz.prog 114 #[.pointer (some ⟨b, 0, none⟩), .int .u32 x, .int .i64 1] w fun e w' => e = .returned (.pointer (some ⟨b, 0, none⟩)) ∧
      ∃ v', WrS w' b v' (putB bs most 0 (numBytes 1 x)) most (putE bs most 0 (numBytes 1 x)) ∧ Touch (wrF b v) w w' ∧ Moved w v v' := by
  obtain ⟨hx0, hx1⟩ := hx
  have hmf : ∀ (fn : Fn) (first cap : Array Value) (w : World), (Instr.makeFunc fn first cap).run Tryz.prog w = .ok (.func fn first cap) w := fun _ _ _ _ => rfl
  have h0 := h.made
  have h3 := h.err
  have HN : Hid (numBytes 1 x = [x]) := by show _ = _; simp [numBytes]; omega
  go_enter Tryz.func114, Tryz.ntmps114
  go_wp2_with (first | (go_at_call 115; refine (whole_any _ 0 _ (by assumption) (by assumption)).mono ?_; rintro e w' ⟨rfl, rfl⟩) | (go_at_call 146; go_in))
  refine (put_all b v bs most 0 ⟨w.heap.size, 3, none⟩ 1 [x] _ (h.alloc _) (src_new _ _ _ _ _ (by simp [bytesOf])) (by simp; omega)).mono ?_
  rintro e w' ⟨rfl, v', hw, ht, ha⟩
  clear hmf h0 h3
  go_wp2
  go_ret
  rw [HN.out]
  refine ⟨rfl, v', hw, ((Touch.refl _ _).alloc _).trans ht, ?_⟩
  rcases ha with ha | ⟨g, hg, hl⟩
  · exact Or.inl ha
  · exact Or.inr ⟨g, hg, by simp at hl; omega⟩

theorem wnumber_put2 (b : Nat) (v : Value) (bs : List Int) (most : Int) (x : Int) (w : World) (h : WrS w b v bs most 0) (hx : 0 ≤ x ∧ x < 65536) (hcap : bs.length ≤ 1048576) :
    Calls Tryz.prog 114 #[.pointer (some ⟨b, 0, none⟩), .int .u32 x, .int .i64 2] w fun e w' => e = .returned (.pointer (some ⟨b, 0, none⟩)) ∧
      ∃ v', WrS w' b v' (putB bs most 0 (numBytes 2 x)) most (putE bs most 0 (numBytes 2 x)) ∧ Touch (wrF b v) w w' ∧ Moved w v v' := by
  obtain ⟨hx0, hx1⟩ := hx
  have hmf : ∀ (fn : Fn) (first cap : Array Value) (w : World), (Instr.makeFunc fn first cap).run Tryz.prog w = .ok (.func fn first cap) w := fun _ _ _ _ => rfl
  have h0 := h.made
  have h3 := h.err
  have HN : Hid (numBytes 2 x = [x / 256, x % 256]) := by show _ = _; simp [numBytes]; omega
  go_enter Tryz.func114, Tryz.ntmps114
  go_wp2_with (first | (go_at_call 115; refine (whole_any _ 0 _ (by assumption) (by assumption)).mono ?_; rintro e w' ⟨rfl, rfl⟩) | (go_at_call 146; go_in))
  refine (put_all b v bs most 0 ⟨w.heap.size, 2, none⟩ 2 [x / 256, x % 256] _ (h.alloc _) (src_new _ _ _ _ _ (by simp [bytesOf])) (by simp; omega)).mono ?_
  rintro e w' ⟨rfl, v', hw, ht, ha⟩
  clear hmf h0 h3
  go_wp2
  go_ret
  rw [HN.out]
  refine ⟨rfl, v', hw, ((Touch.refl _ _).alloc _).trans ht, ?_⟩
  rcases ha with ha | ⟨g, hg, hl⟩
  · exact Or.inl ha
  · exact Or.inr ⟨g, hg, by simp at hl; omega⟩

theorem wnumber_put3 (b : Nat) (v : Value) (bs : List Int) (most : Int) (x : Int) (w : World) (h : WrS w b v bs most 0) (hx : 0 ≤ x ∧ x < 16777216) (hcap : bs.length ≤ 1048576) :
    Calls Tryz.prog 114 #[.pointer (some ⟨b, 0, none⟩), .int .u32 x, .int .i64 3] w fun e w' => e = .returned (.pointer (some ⟨b, 0, none⟩)) ∧
      ∃ v', WrS w' b v' (putB bs most 0 (numBytes 3 x)) most (putE bs most 0 (numBytes 3 x)) ∧ Touch (wrF b v) w w' ∧ Moved w v v' := by
  obtain ⟨hx0, hx1⟩ := hx
  have hmf : ∀ (fn : Fn) (first cap : Array Value) (w : World), (Instr.makeFunc fn first cap).run Tryz.prog w = .ok (.func fn first cap) w := fun _ _ _ _ => rfl
  have h0 := h.made
  have h3 := h.err
  have HN : Hid (numBytes 3 x = [x / 65536, x / 256 % 256, x % 256]) := by show _ = _; simp [numBytes]; omega
  go_enter Tryz.func114, Tryz.ntmps114
  go_wp2_with (first | (go_at_call 115; refine (whole_any _ 0 _ (by assumption) (by assumption)).mono ?_; rintro e w' ⟨rfl, rfl⟩) | (go_at_call 146; go_in))
  refine (put_all b v bs most 0 ⟨w.heap.size, 1, none⟩ 3 [x / 65536, x / 256 % 256, x % 256] _ (h.alloc _) (src_new _ _ _ _ _ (by simp [bytesOf])) (by simp; omega)).mono ?_
  rintro e w' ⟨rfl, v', hw, ht, ha⟩
  clear hmf h0 h3
  go_wp2
  go_ret
  rw [HN.out]
  refine ⟨rfl, v', hw, ((Touch.refl _ _).alloc _).trans ht, ?_⟩
  rcases ha with ha | ⟨g, hg, hl⟩
  · exact Or.inl ha
  · exact Or.inr ⟨g, hg, by simp at hl; omega⟩

theorem wnumber_put4 (b : Nat) (v : Value) (bs : List Int) (most : Int) (x : Int) (w : World) (h : WrS w b v bs most 0) (hx : 0 ≤ x ∧ x < 4294967296) (hcap : bs.length ≤ 1048576) :
    Calls Tryz.prog 114 #[.pointer (some ⟨b, 0, none⟩), .int .u32 x, .int .i64 4] w fun e w' => e = .returned (.pointer (some ⟨b, 0, none⟩)) ∧
      ∃ v', WrS w' b v' (putB bs most 0 (numBytes 4 x)) most (putE bs most 0 (numBytes 4 x)) ∧ Touch (wrF b v) w w' ∧ Moved w v v' := by
  obtain ⟨hx0, hx1⟩ := hx
  have hmf : ∀ (fn : Fn) (first cap : Array Value) (w : World), (Instr.makeFunc fn first cap).run Tryz.prog w = .ok (.func fn first cap) w := fun _ _ _ _ => rfl
  have h0 := h.made
  have h3 := h.err
  have HN : Hid (numBytes 4 x = [x / 16777216, x / 65536 % 256, x / 256 % 256, x % 256]) := by show _ = _; simp [numBytes]; omega
  go_enter Tryz.func114, Tryz.ntmps114
  go_wp2_with (first | (go_at_call 115; refine (whole_any _ 0 _ (by assumption) (by assumption)).mono ?_; rintro e w' ⟨rfl, rfl⟩) | (go_at_call 146; go_in))
  refine (put_all b v bs most 0 ⟨w.heap.size, 0, none⟩ 4 [x / 16777216, x / 65536 % 256, x / 256 % 256, x % 256] _ (h.alloc _) (src_new _ _ _ _ _ (by simp [bytesOf])) (by simp; omega)).mono ?_
  rintro e w' ⟨rfl, v', hw, ht, ha⟩
  clear hmf h0 h3
  go_wp2
  go_ret
  rw [HN.out]
  refine ⟨rfl, v', hw, ((Touch.refl _ _).alloc _).trans ht, ?_⟩
  rcases ha with ha | ⟨g, hg, hl⟩
  · exact Or.inl ha
  · exact Or.inr ⟨g, hg, by simp at hl; omega⟩

end Go.Proofs.YtjffcflhbnmjmaaGreat
