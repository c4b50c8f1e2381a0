/- Pure: bytes that are cut into pieces of one size, and laid together again. -/
import Derived.Test.YtbfplepmgbkajaaGreatDoorNumber
import Derived.Test.YtbfplepmgbkajaaGreatDoorWideV
import Derived.Lib.AppendZerosOnto
import Derived.Lib.Walk
import Derived.Test.YtbfplepmgbkajaaGreatDoorStRd3
import Derived.Deep.LoopGhost
namespace Go.Proofs.YtbfplepmgbkajaaGreatDoor
set_option linter.unusedVariables false

/-- The i-th piece of k bytes. -/
def cutAt (k : Nat) (c : List Int) (i : Nat) : List Int := (c.drop (k * i)).take k
/-- All whole pieces, each read by f. -/
def cuts {α : Type} (k : Nat) (f : List Int → α) (c : List Int) : List α := (List.range (c.length / k)).map fun i => f (cutAt k c i)
theorem length_cuts {α : Type} (k : Nat) (f : List Int → α) (c : List Int) : (cuts k f c).length = c.length / k := by simp [cuts]
theorem range_snoc {α : Type} (g : Nat → α) (j : Nat) : (List.range (j + 1)).map g = (List.range j).map g ++ [g j] := by rw [List.range_succ, List.map_append]; rfl
theorem flat_pieces (k : Nat) : ∀ (m : Nat) (c : List Int), k * m ≤ c.length → (List.range m).flatMap (cutAt k c) = c.take (k * m)
 | 0, c, _ => by simp
 | m + 1, c, h => by
  rw [List.range_succ, List.flatMap_append, flat_pieces k m c (by rw [Nat.mul_succ] at h; omega), List.flatMap_singleton, Nat.mul_succ]
  unfold cutAt
  rw [← List.take_add]
theorem flat_congr {α : Type} (f g : α → List Int) : ∀ (l : List α), (∀ x ∈ l, f x = g x) → l.flatMap f = l.flatMap g
 | [], _ => rfl
 | x :: r, h => by rw [List.flatMap_cons, List.flatMap_cons, h x (List.mem_cons_self ..), flat_congr f g r (fun y hy => h y (List.mem_cons_of_mem _ hy))]
/-- What is read piece by piece is laid so. -/
theorem flat_cuts {α : Type} (g : α → List Int) (f : List Int → α) (k : Nat) (hk : 0 < k) (c : List Int) (hc : c.length % k = 0) (hf : ∀ p, p.length = k → (∀ z ∈ p, z ∈ c) → g (f p) = p) : (cuts k f c).flatMap g = c := by
 unfold cuts
 have hm : k * (c.length / k) = c.length := Nat.mul_div_cancel' (Nat.dvd_of_mod_eq_zero hc)
 have e : ((List.range (c.length / k)).map fun i => f (cutAt k c i)).flatMap g = (List.range (c.length / k)).flatMap (cutAt k c) := by
  rw [List.flatMap_map]
  refine flat_congr _ _ _ ?_
  intro i hi
  have hi' : i < c.length / k := by simpa using hi
  refine hf _ ?_ ?_
  ·unfold cutAt
   have : k * (i + 1) ≤ k * (c.length / k) := Nat.mul_le_mul_left k hi'
   rw [Nat.mul_succ] at this
   rw [List.length_take, List.length_drop]
   omega
  ·intro z hz
   exact List.mem_of_mem_drop (List.mem_of_mem_take hz)
 rw [e, flat_pieces k _ c (by omega), hm, List.take_length]
theorem mem_cuts {α : Type} {k : Nat} {f : List Int → α} {c : List Int} {x : α} (h : x ∈ cuts k f c) : ∃ i, i < c.length / k ∧ x = f (cutAt k c i) := by
 unfold cuts at h
 obtain ⟨i, hi, rfl⟩ := List.mem_map.1 h
 exact ⟨i, by simpa using hi, rfl⟩
theorem mem_cutAt {k : Nat} {c : List Int} {i : Nat} {z : Int} (h : z ∈ cutAt k c i) : z ∈ c := List.mem_of_mem_drop (List.mem_of_mem_take h)
theorem length_cutAt {k : Nat} {c : List Int} {i : Nat} (h : i < c.length / k) : (cutAt k c i).length = k := by
 unfold cutAt
 have h1 : k * (i + 1) ≤ k * (c.length / k) := Nat.mul_le_mul_left k h
 have h2 := Nat.mul_div_le c.length k
 rw [Nat.mul_succ] at h1
 rw [List.length_take, List.length_drop]
 omega
end Go.Proofs.YtbfplepmgbkajaaGreatDoor

namespace Go.Proofs.YtbfplepmgbkajaaGreatDoor
set_option linter.unusedVariables false

/-- The length that bytes tell. -/
def pTold (rs : List Int) : Int := numOf ((rs.drop 2).take 2)
/-- What Length finds wrong. -/
def pLenE (rs : List Int) : Int :=
 if rs.length < 24 then 10 else if rs.getD 0 0 ≠ 2 then 20 else if ¬ (1 ≤ rs.getD 1 0 ∧ rs.getD 1 0 ≤ 5) then 21 else if ¬ (24 ≤ pTold rs ∧ pTold rs ≤ (rs.length : Int)) then 22 else 0
def pLenN (rs : List Int) : Int := if pLenE rs = 0 then pTold rs else 0
structure PLen (rs : List Int) : Prop where
 l : 24 ≤ rs.length
 v : rs.getD 0 0 = 2
 t : 1 ≤ rs.getD 1 0 ∧ rs.getD 1 0 ≤ 5
 n : 24 ≤ pTold rs ∧ pTold rs ≤ (rs.length : Int)
theorem pLenE_ok {rs : List Int} (h : pLenE rs = 0) : PLen rs := by
 unfold pLenE at h
 by_cases h1 : rs.length < 24
 ·rw [if_pos h1] at h; omega
 ·rw [if_neg h1] at h
  by_cases h2 : rs.getD 0 0 = 2
  ·rw [if_neg (by omega)] at h
   by_cases h3 : 1 ≤ rs.getD 1 0 ∧ rs.getD 1 0 ≤ 5
   ·rw [if_neg (by omega)] at h
    by_cases h4 : 24 ≤ pTold rs ∧ pTold rs ≤ (rs.length : Int)
    ·exact ⟨by omega, h2, h3, h4⟩
    ·rw [if_pos h4] at h; omega
   ·rw [if_pos h3] at h; omega
  ·rw [if_pos h2] at h; omega
theorem PLen.zero {rs : List Int} (h : PLen rs) : pLenE rs = 0 := by
 unfold pLenE
 rw [if_neg (by have := h.l; omega), if_neg (by have := h.v; omega), if_neg (by have := h.t; omega), if_neg (by have := h.n; omega)]
/-- A packet's bytes without Data. -/
def summedB (rs : List Int) : List Int := rs.take 16 ++ rs.drop 24
/-- Is its sum right? -/
def pRight (rs : List Int) : Bool := decide (pLenE rs = 0) && (fold (W true (summedB (rs.take (pTold rs).toNat))) == 65535)
end Go.Proofs.YtbfplepmgbkajaaGreatDoor

namespace Go.Proofs.YtbfplepmgbkajaaGreatDoor
open Go.RowKit
set_option linter.unusedVariables false
set_option maxRecDepth 100000

set_option maxHeartbeats 1000000 in
theorem grow_any (n : Nat) (w : World) (hn : n ≤ 1099511627776) : Calls Tryz.prog 153 #[.slice none 0 0, .int .i64 (n : Int)] w fun e w' => ∃ v', e = .returned v' ∧ Buf w w' v' [] := by
 obtain ⟨i0, hi, hz0, hz1, hz2⟩ := info_parts Tryz.info5w
 by_cases h0 : n = 0
 ·subst h0
  go_enter Tryz.func153, Tryz.ntmps153
  go_wp2
  go_ret
  exact ⟨_, rfl, Buf.nil (Touch.refl _ w)⟩
 ·have h1 : ¬ ((n : Int) < 0) := by omega
  have h4 : (n : Int) > 0 := by omega
  have hold : (Builtin.firstCells i0.size 0 (.slice none 0 0)).run Tryz.prog w.drew = .ok ([] : List Value).toArray w.drew := by
   simp [Builtin.firstCells]
  have hrz := fun ty => Lib.run_append_grow_zeros (P := Tryz.prog) w 40 3 ty 5 i0 (.int .u8 0) .i64 .i64 Tryz.underlying40 Tryz.underlying3 hi hz0 none 0 0 [] hold n (by omega) (by omega) (by omega) (by omega) (by rw [hz2]; omega) (growslice_fits (by omega) (by rw [hz2]; omega))
  have hGn : n ≤ grownCap w n 0 5 := grownCap_ge w _ _ _
  have hGm : grownCap w n 0 5 ≤ maxLen := grownCap_le_maxLen w n 0 5 (by unfold maxLen; omega)
  simp only [Nat.zero_add] at hrz
  generalize grownCap w n 0 5 = G at hrz hGn hGm
  have hG63 : G ≤ 9223372036854775807 := by unfold maxLen at hGm; omega
  have HB : Hid (Buf w (w.drew.alloc (Obj.cells (([] : List Value).toArray ++ Builtin.zeroCells (Value.int IntKind.u8 0).cells n ++ Builtin.zeroCells (Value.int IntKind.u8 0).cells (G - n)) 5)) (.slice (some ⟨w.heap.size, 0, none⟩) 0 G) []) := by
   refine ⟨⟨rfl, Or.inr ⟨w.heap.size, G, _, rfl, Nat.le_refl _, heap_alloc_new w.drew _, Nat.zero_le _, hGm, ?_, by simp [bytesOf]⟩⟩, ((Touch.refl _ w).drew).alloc _⟩
   simp only [Array.size_append, size_zeroCells]
   simp [Value.cells]
   omega
  generalize hw : (w.drew.alloc (Obj.cells (([] : List Value).toArray ++ Builtin.zeroCells (Value.int IntKind.u8 0).cells n ++ Builtin.zeroCells (Value.int IntKind.u8 0).cells (G - n)) 5)) = wz at hrz HB
  clear hold hw hi hz0 hz1 hz2 hGm
  go_enter Tryz.func153, Tryz.ntmps153
  go_wp2_with (at_builtin; refine Lib.wpList_append_run _ rfl _ _ _ _ rfl _ _ rfl rfl _ _ (hrz _) ?_)
  all_goals (go_ret; exact ⟨_, rfl, HB.out⟩)

def CcA (n1 n2 : Nat) (s i : Value) : Prop := ∃ k : Nat, k ≤ 2 ∧ i = .int .i64 (k : Int) ∧ s = .int .i64 ((if k = 0 then 0 else if k = 1 then n1 else n1 + n2 : Nat) : Int)
def CcB (w0 : World) (r1 r2 : List Int) (p i : Value) (wr : World) : Prop := ∃ k : Nat, k ≤ 2 ∧ i = .int .i64 (k : Int) ∧ Buf w0 wr p (if k = 0 then [] else if k = 1 then r1 else r1 ++ r2)
set_option maxHeartbeats 1000000 in
theorem concat_any (gp : Nat) (v1 v2 : Value) (r1 r2 : List Int) (w : World) (c1 : w.cell? ⟨gp, 0, none⟩ = some v1) (c2 : w.cell? ⟨gp, 1, none⟩ = some v2) (h1 : ArgAt w v1 r1) (h2 : ArgAt w v2 r2) (hl1 : r1.length ≤ 1073741824) (hl2 : r2.length ≤ 1073741824) :
  Calls Tryz.prog 119 #[.slice (some ⟨gp, 0, none⟩) 2 2] w fun e w' => ∃ v', e = .returned v' ∧ Buf w w' v' (r1 ++ r2) := by
 obtain ⟨a1, k1, rfl, _⟩ := h1.form
 obtain ⟨a2, k2, rfl, _⟩ := h2.form
 have H1 : Hid (ArgAt w (.slice a1 r1.length k1) r1) := h1
 have H2 : Hid (ArgAt w (.slice a2 r2.length k2) r2) := h2
 clear h1 h2
 go_enter Tryz.func119, Tryz.ntmps119
 go_wp2_with fail
 go_loop [3, 11] (fun s i => CcA r1.length r2.length s i) (fun _ i => 2 - (intOf i).toNat)
 case atStart => exact ⟨0, by omega, rfl, rfl⟩
 case round =>
  obtain ⟨k, hk, rfl, rfl⟩ := hrel
  match k, hk with
  | 0, _ =>
   simp only [reduceIte]
   go_wp2_with fail
   go_round
   case rel => exact ⟨1, by omega, rfl, by simp⟩
   case measure => simp [intOf]
  | 1, _ =>
   simp only [reduceIte, Nat.reduceEqDiff]
   go_wp2_with fail
   go_round
   case rel => exact ⟨2, by omega, rfl, by simp⟩
   case measure => simp [intOf]
  | 2, _ =>
   simp only [reduceIte, Nat.reduceEqDiff]
   have HG := grow_any (r1.length + r2.length) w (by omega)
   go_wp2_with (first | refine HG.mono ?_; rintro e w1 ⟨p, rfl, hb⟩)
   have HB0 : Hid (CcB w r1 r2 p (.int .i64 ((0 : Nat) : Int)) w1) := ⟨0, by omega, rfl, hb⟩
   clear hb HG
   go_wp2_with fail
   go_loopw [6, 27] (fun p i wr => CcB w r1 r2 p i wr) (fun _ i _ => 2 - (intOf i).toNat)
   case atStart => exact HB0.out
   case round =>
    clear HB0
    obtain ⟨k, hk, rfl, hb⟩ := hrel
    have HT : Hid (Touch (fun _ => False) w wr) := hb.t
    match k, hk with
    | 0, _ =>
     simp only [reduceIte] at hb
     have d1 := HT.out.cellN c1
     go_wp2_with (at_builtin; refine app_arg rfl (.tmp 31) (.tmp 32) rfl w _ [] rfl hb _ r1 rfl (H1.out.keep HT.out (fun _ _ h => h)) (by simp; omega) ?_; intro v' w' hb')
     go_roundw
     case rel => exact ⟨1, by omega, rfl, hb'⟩
     case measure => simp [intOf]
    | 1, _ =>
     simp only [reduceIte, Nat.reduceEqDiff] at hb
     have d1 := HT.out.cellN c2
     go_wp2_with (at_builtin; refine app_arg rfl (.tmp 31) (.tmp 32) rfl w _ r1 rfl hb _ r2 rfl (H2.out.keep HT.out (fun _ _ h => h)) (by omega) ?_; intro v' w' hb')
     go_roundw
     case rel => exact ⟨2, by omega, rfl, hb'⟩
     case measure => simp [intOf]
    | 2, _ =>
     simp only [reduceIte, Nat.reduceEqDiff] at hb
     go_wp2_with fail
     go_ret
     exact ⟨_, rfl, hb⟩
    | n + 3, h => omega
  | n + 3, h => omega
end Go.Proofs.YtbfplepmgbkajaaGreatDoor

namespace Go.Proofs.YtbfplepmgbkajaaGreatDoor
open Go.RowKit
set_option linter.unusedVariables false
set_option maxRecDepth 100000

def FoldR (F : Int) (f : Value) : Prop := ∃ n : Int, f = .int .u32 n ∧ 0 ≤ n ∧ n < 4294967296 ∧ Hid (fold n = F)
theorem folded_any (h k : Int) (w : World) (h0 : 0 ≤ h) (k0 : 0 ≤ k) (hb : 256 * h + k < 4294967296) :
  Calls Tryz.prog 152 #[.agg #[.int .u32 h, .int .u32 k]] w fun e w' => e = .returned (.int .u16 (fold (256 * h + k))) ∧ Touch (fun _ => False) w w' := by
 obtain ⟨F, hF⟩ : ∃ F, fold (256 * h + k) = F := ⟨_, rfl⟩
 have HF : Hid (fold (256 * h + k) = F) := hF
 rw [hF]
 clear hF
 go_enter Tryz.func152, Tryz.ntmps152
 go_wp2
 go_loop [3] (fun f => FoldR F f) (fun f => (intOf f).toNat)
 case atStart => exact ⟨_, rfl, by omega, by omega, by show _ = _; rw [← HF.out]; congr 1; omega⟩
 case round =>
  obtain ⟨n, rfl, hn0, hn1, HN⟩ := hrel
  have e1 := and16 hn0 hn1
  by_cases hlt : 65535 < n
  ·have HS : Hid (fold (n / 65536 + n % 65536) = F) := by show _ = _; rw [← HN.out]; exact fold_step hlt
   go_wp2
   go_round
   case rel => exact ⟨_, rfl, by omega, by omega, HS⟩
   case measure => simp [intOf]; omega
  ·have HS : Hid (n = F) := by show _ = _; rw [← HN.out]; exact (fold_small hn0 (by omega)).symm
   go_wp2
   go_ret
   rw [← HS.out]
   exact ⟨rfl, (Touch.refl _ w).alloc _⟩

theorem lower_any (w0 : World) (b : Nat) (h k : Int) (w : World) (hc : Two w b h k) (hb0 : w0.heap.size ≤ b) (t : Touch (fun _ => False) w0 w)
  (h0 : 0 ≤ h) (k0 : 0 ≤ k) (hb : 256 * h + k < 4294967296) :
  Calls Tryz.prog 179 #[.pointer (some ⟨b, 0, none⟩)] w fun e w' => e = .returned (.tuple #[]) ∧ Two w' b (fold (256 * h + k) / 256) (fold (256 * h + k) % 256) ∧ Touch (fun _ => False) w0 w' := by
 have hF := fold_bound (256 * h + k)
 have HC := fun w => folded_any h k w h0 k0 hb
 revert hF HC
 generalize fold (256 * h + k) = F
 intro hF HC
 obtain ⟨hF0, hF1⟩ := hF
 have e8 := and8 hF0 (by omega)
 obtain ⟨c0, c1, f0, f1⟩ := hc
 go_enter Tryz.func179, Tryz.ntmps179
 go_wp2_with fail
 refine (HC _).mono ?_
 rintro e w1 ⟨rfl, t1⟩
 have hc : Two w1 b h k := Two.keep ⟨c0, c1, f0, f1⟩ t1
 obtain ⟨d0, d1, g0, g1⟩ := hc
 clear HC c0 c1 f0 f1
 go_wp2_with fail
 go_region
 go_wp2
 go_end0
 exact ⟨rfl, (((Two.mk d0 d1 g0 g1).set0 _).set1 _).drew, (((t.trans t1).new (p := ⟨b, 0, none⟩) hb0 _).new (p := ⟨b, 1, none⟩) hb0 _).drew⟩
end Go.Proofs.YtbfplepmgbkajaaGreatDoor

namespace Go.Proofs.YtbfplepmgbkajaaGreatDoor
open Go.RowKit
set_option linter.unusedVariables false
set_option maxRecDepth 100000

def WOut (w0 : World) (b : Nat) (rs : List Int) (g : Nat) (s : Value) (wr : World) : Prop :=
 ∃ (pre rest : List Int) (h k : Int), rest.length ≤ g ∧ pre ++ rest = rs ∧ pre.length % 2 = 0 ∧ ArgAt w0 s rest ∧ Two wr b h k ∧ WRun pre h k ∧ h ≤ 1044735 ∧ k ≤ 1044735 ∧ Touch (fun _ => False) w0 wr
def WIn (w0 : World) (b : Nat) (pre rest : List Int) (g : Nat) (i : Value) (wr : World) : Prop :=
 ∃ (j : Nat) (h k : Int), j + g = rest.length ∧ j ≤ 4096 ∧ i = .int .i64 (j : Int) ∧ Two wr b h k ∧ WRun (pre ++ rest.take j) h k ∧ h ≤ 255 + 255 * (j : Int) ∧ k ≤ 255 + 255 * (j : Int) ∧ Touch (fun _ => False) w0 wr

theorem wadd_any (w0 : World) (b : Nat) (v : Value) (rs : List Int) (w : World) (hv : ArgAt w0 v rs) (hby : ∀ x ∈ rs, 0 ≤ x ∧ x < 256) (hc : Two w b 0 0) (hb0 : w0.heap.size ≤ b) (t : Touch (fun _ => False) w0 w) :
  Calls Tryz.prog 151 #[.pointer (some ⟨b, 0, none⟩), v] w fun e w' => e = .returned (.tuple #[]) ∧ (∃ h k, Two w' b h k ∧ WRun rs h k ∧ h ≤ 1044735 ∧ k ≤ 1044735) ∧ Touch (fun _ => False) w0 w' := by
 have HBy : Hid (∀ x ∈ rs, 0 ≤ x ∧ x < 256) := hby
 have hW : WOut w0 b rs rs.length v w := ⟨[], rs, 0, 0, Nat.le_refl _, rfl, rfl, hv, hc, WRun.zero, by decide, by decide, t⟩
 clear hv hby hc t
 go_enter Tryz.func151, Tryz.ntmps151
 go_wp2
 go_step3
 go_wp2
 go_step3
 go_wp2
 go_loopg [1] rs.length (fun g s wx => WOut w0 b rs g s wx)
 case atStart => exact hW
 case round =>
  obtain ⟨pre, rest, h, k, hg, hrs, hpe, hs, hc, hr, hh, hk, t⟩ := hrel
  have HR : Hid (pre ++ rest = rs) := hrs
  have HPE : Hid (pre.length % 2 = 0) := hpe
  have HRU : Hid (WRun pre h k) := hr
  have h0 := hr.h0
  have k0 := hr.k0
  have HL := lower_any w0 b h k wr hc hb0 t h0 k0 (by omega)
  obtain ⟨sa, sc, rfl, hm⟩ := hs.form
  unfold maxLen at hm
  have HS : Hid (ArgAt w0 (.slice sa rest.length sc) rest) := hs
  clear hW hrs hpe hr hc t hs
  go_wp2_with fail
  refine HL.mono ?_
  rintro e w1 ⟨rfl, hc1, t1⟩
  have hF := fold_bound (256 * h + k)
  have hI : WIn w0 b pre rest rest.length (.int .i64 ((0 : Nat) : Int)) w1 := ⟨0, _, _, by omega, by omega, rfl, hc1, by simpa using HRU.out.lower, by omega, by omega, t1⟩
  clear HL hc1 t1 hF
  go_wp2_with fail
  go_loopg [1, 10] rest.length (fun g s i wx => s = .slice sa rest.length sc ∧ WIn w0 b pre rest g i wx)
  case atStart => exact ⟨rfl, hI⟩
  case round =>
   obtain ⟨rfl, j, h, k, hj, hj1, rfl, hc, hr, hh, hk, t⟩ := hrel
   have h0 := hr.h0
   have k0 := hr.k0
   have HT : Hid (Touch (fun _ => False) w0 wr) := t
   have HC : Hid (Two wr b h k) := hc
   obtain ⟨c0, c1, f0, f1⟩ := hc
   have HW : Hid (WRun (pre ++ rest.take j) h k) := hr
   clear hI hr t
   by_cases hlt : j < rest.length
   ·have hs := HS.out.row (by omega)
    obtain ⟨ga, oa, rfl⟩ := rowAt_some hs (by omega)
    have hcx := HT.out.cellN (rowAt_cell hs j hlt)
    have HZ : Hid (rest.take (j + 1) = rest.take j ++ [rest.getD j 0]) := by
     show _ = _
     rw [List.take_add_one, List.getElem?_eq_getElem hlt]
     simp [List.getD, hlt]
    have hz : 0 ≤ rest.getD j 0 ∧ rest.getD j 0 < 256 := HBy.out _ (by rw [← HR.out]; exact List.mem_append_right _ (by simp [List.getD, hlt]))
    revert hcx HZ hz
    generalize rest.getD j 0 = z
    intro hcx HZ hz
    obtain ⟨hz0, hz1⟩ := hz
    by_cases hq : j = 4096
    ·subst hq
     have hcap := rowAt_cap hs
     have HN : Hid (WOut w0 b rs (rest.length - 4096) (.slice (some ⟨ga, oa + 4096, none⟩) (rest.length - 4096) (sc - 4096)) wr) :=
      ⟨pre ++ rest.take 4096, rest.drop 4096, h, k, by simp, by rw [List.append_assoc, List.take_append_drop]; exact HR.out, by have := HPE.out; simp; omega, (rowAt_drop hs 4096 (by omega)).arg, HC.out, HW.out, by omega, by omega, HT.out⟩
     have hlt' : (4096 : Int) < (rest.length : Int) := by omega
     have hcap' : (rest.length : Int) ≤ (sc : Int) := by omega
     clear hs
     go_wp2_with fail
     go_roundg (rest.length - 4096)
     case measure => omega
     case rel => exact HN.out
    ·clear hs
     have hq' : ((j : Int) == 4096) = false := by simp; omega
     rcases Nat.mod_two_eq_zero_or_one j with hp | hp
     ·have hp' : (j : Int) % 2 = 0 := by omega
      have HN : Hid (WIn w0 b pre rest (rest.length - (j + 1)) (.int .i64 ((j : Int) + 1)) ((wr.setCell ⟨b, 0, none⟩ (.int .u32 (h + z))).drew)) := 
       ⟨j + 1, h + z, k, by omega, by omega, by rw [Int.natCast_add]; rfl, (HC.out.set0 _).drew, by rw [HZ.out, ← List.append_assoc]; exact HW.out.even (by have := HPE.out; simp; omega) hz0, by omega, by omega, (HT.out.new (p := ⟨b, 0, none⟩) hb0 _).drew⟩
      clear hp hq
      go_wp2_with fail
      go_region
      go_wp2
      go_roundg (rest.length - (j + 1))
      case measure => omega
      case rel => exact ⟨rfl, HN.out⟩
     ·have hp' : (j : Int) % 2 = 1 := by omega
      have HN : Hid (WIn w0 b pre rest (rest.length - (j + 1)) (.int .i64 ((j : Int) + 1)) ((wr.setCell ⟨b, 1, none⟩ (.int .u32 (k + z))).drew)) := 
       ⟨j + 1, h, k + z, by omega, by omega, by rw [Int.natCast_add]; rfl, (HC.out.set1 _).drew, by rw [HZ.out, ← List.append_assoc]; exact HW.out.odd (by have := HPE.out; simp; omega) hz0, by omega, by omega, (HT.out.new (p := ⟨b, 1, none⟩) hb0 _).drew⟩
      clear hp hq
      go_wp2_with fail
      go_region
      go_wp2
      go_roundg (rest.length - (j + 1))
      case measure => omega
      case rel => exact ⟨rfl, HN.out⟩
   ·obtain rfl : j = rest.length := by omega
    have HE : Hid (WRun rs h k) := by
     have := HW.out
     rw [List.take_length, HR.out] at this
     exact this
    go_wp2_with fail
    rw [Exit.noGoto_ret]
    refine bodyPost_ret (results_none rfl _ _ _) rfl ?_
    exact ⟨rfl, ⟨h, k, HC.out, HE.out, by omega, by omega⟩, HT.out⟩
end Go.Proofs.YtbfplepmgbkajaaGreatDoor

namespace Go.Proofs.YtbfplepmgbkajaaGreatDoor
open Go.RowKit
set_option linter.unusedVariables false
set_option maxRecDepth 100000

/-- The function value that addWords hands back. -/
structure WFun (v : Value) (rs : List Int) : Prop where
 ex : ∃ h k : Int, v = .func (.func 152) #[.agg #[.int .u32 h, .int .u32 k]] #[] ∧ WRun rs h k ∧ h ≤ 1044735 ∧ k ≤ 1044735

theorem addWords_any (v : Value) (rs : List Int) (w : World) (hv : ArgAt w v rs) (hby : ∀ x ∈ rs, 0 ≤ x ∧ x < 256) :
  Calls Tryz.prog 118 #[v] w fun e w' => (∃ f, e = .returned f ∧ WFun f rs) ∧ Touch (fun _ => False) w w' := by
 have hmf : ∀ (fn : Fn) (first cap : Array Value) (w : World), (Instr.makeFunc fn first cap).run Tryz.prog w = .ok (.func fn first cap) w := fun _ _ _ _ => rfl
 go_enter Tryz.func118, Tryz.ntmps118
 go_wp2_with fail
 refine (wadd_any w _ v rs _ hv hby ⟨by simp, by simp, by simp, by simp⟩ (Nat.le_refl _) ((Touch.refl _ w).alloc _)).mono ?_
 rintro e w1 ⟨rfl, ⟨h, k, hc, hr, hh, hk⟩, t1⟩
 obtain ⟨c0, c1, f0, f1⟩ := hc
 have HR : Hid (WRun rs h k) := hr
 clear hr hv
 go_wp2
 go_ret
 exact ⟨⟨_, rfl, ⟨h, k, rfl, HR.out, hh, hk⟩⟩, t1⟩

theorem plain_any (v : Value) (rs : List Int) (w : World) (hv : ArgAt w v rs) (hby : ∀ x ∈ rs, 0 ≤ x ∧ x < 256) :
  Calls Tryz.prog 134 #[v] w fun e w' => e = .returned (.int .u16 (65535 - fold (W true rs))) ∧ Touch (fun _ => False) w w' := by
 have HA := addWords_any v rs w hv hby
 have hb := fold_bound (W true rs)
 obtain ⟨G, hG⟩ : ∃ G, fold (W true rs) = G := ⟨_, rfl⟩
 have HG : Hid (fold (W true rs) = G) := hG
 rw [hG] at hb ⊢
 obtain ⟨hb0, hb1⟩ := hb
 clear hG
 go_enter Tryz.func134, Tryz.ntmps134
 go_wp2_with fail
 refine HA.mono ?_
 rintro e w1 ⟨⟨f, rfl, ⟨h, k, rfl, hr, hh, hk⟩⟩, t1⟩
 have h0 := hr.h0
 have k0 := hr.k0
 have HF := folded_any h k w1 h0 k0 (by omega)
 rw [hr.eq, HG.out] at HF
 clear HA hr
 go_wp2_with fail
 refine HF.mono ?_
 rintro e w2 ⟨rfl, t2⟩
 go_wp2
 go_ret
 exact ⟨rfl, t1.trans t2⟩

theorem right_any (v : Value) (rs : List Int) (w : World) (hv : ArgAt w v rs) (hby : ∀ x ∈ rs, 0 ≤ x ∧ x < 256) :
  Calls Tryz.prog 77 #[v] w fun e w' => e = .returned (.bool (fold (W true rs) == 65535)) ∧ Touch (fun _ => False) w w' := by
 have HA := addWords_any v rs w hv hby
 have hb := fold_bound (W true rs)
 obtain ⟨G, hG⟩ : ∃ G, fold (W true rs) = G := ⟨_, rfl⟩
 have HG : Hid (fold (W true rs) = G) := hG
 rw [hG] at hb ⊢
 obtain ⟨hb0, hb1⟩ := hb
 clear hG
 go_enter Tryz.func77, Tryz.ntmps77
 go_wp2_with fail
 refine HA.mono ?_
 rintro e w1 ⟨⟨f, rfl, ⟨h, k, rfl, hr, hh, hk⟩⟩, t1⟩
 have h0 := hr.h0
 have k0 := hr.k0
 have HF := folded_any h k w1 h0 k0 (by omega)
 rw [hr.eq, HG.out] at HF
 clear HA hr
 go_wp2_with fail
 refine HF.mono ?_
 rintro e w2 ⟨rfl, t2⟩
 go_wp2
 go_ret
 exact ⟨rfl, t1.trans t2⟩
end Go.Proofs.YtbfplepmgbkajaaGreatDoor
