/- A row of bytes cut: what the code's slice expressions give, in every world. -/
import Derived.Test.YtbfplepmgbkajaaGreatDoorWideV
import Derived.Test.YtbfplepmgbkajaaGreatDoorStWr
import Derived.Test.YtbfplepmgbkajaaGreatDoorNumber
import Derived.Laws.BitsAllLaws
import Derived.Deep.LoopGhost
import Derived.Deep.RegionWith
import Derived.Deep.DeepCutAuto
import Derived.Test.YtbfplepmgbkajaaGreatDoorStFace
import Derived.Deep.RegionHeld3
namespace Go.Proofs.YtbfplepmgbkajaaGreatDoor
open Go.RowKit
set_option linter.unusedVariables false
set_option maxRecDepth 100000

theorem cap_of {w : World} {g off c n : Nat} {rs : List Int} (h : RowAt w (.slice (some ⟨g, off, none⟩) n c) rs) : n = rs.length ∧ n ≤ c ∧ c ≤ maxLen := by
 rcases h with ⟨h, _⟩ | ⟨g', off', c', h, h1, h2, _⟩
 ·cases h
 ·cases h; exact ⟨rfl, h1, h2⟩
theorem drop_row {w : World} {g off c n : Nat} {rs : List Int} (h : RowAt w (.slice (some ⟨g, off, none⟩) n c) rs) (m : Nat) (hm : m ≤ n) : RowAt w (.slice (some ⟨g, off + m, none⟩) (n - m) (c - m)) (rs.drop m) := by
 rcases h with ⟨h, _⟩ | ⟨g', off', c', h, h1, h2, h3⟩
 ·cases h
 ·cases h
  refine Or.inr ⟨g, off + m, c - m, by simp, by simp; omega, by omega, fun j u hj => ?_⟩
  rw [Nat.add_assoc]
  refine h3 (m + j) u ?_
  simpa [bytesOf, List.getElem?_drop] using hj
theorem take_row {w : World} {g off c n : Nat} {rs : List Int} (h : RowAt w (.slice (some ⟨g, off, none⟩) n c) rs) (m : Nat) (hm : m ≤ n) : RowAt w (.slice (some ⟨g, off, none⟩) m c) (rs.take m) := by
 rcases h with ⟨h, _⟩ | ⟨g', off', c', h, h1, h2, h3⟩
 ·cases h
 ·cases h
  refine Or.inr ⟨g, off, c, by simp; omega, by simp; omega, by omega, fun j u hj => ?_⟩
  refine h3 j u ?_
  simp only [bytesOf, List.getElem?_map, List.getElem?_take] at hj ⊢
  split at hj
  ·exact hj
  ·simp at hj
theorem empty_arg (w : World) (ad : Addr) (c : Nat) (hc : c ≤ maxLen) : ArgAt w (.slice (some ad) 0 c) [] := Or.inr ⟨ad, c, rfl, Nat.zero_le _, hc, fun j u hj => by simp [bytesOf] at hj⟩

/-- b[i:j], of a row that is not empty. -/
theorem cut_mid {w : World} {va : Option Addr} {vc n : Nat} {rs : List Int} (h : ArgAt w (.slice va n vc) rs) (hn : n = rs.length) (hp : 0 < n) (i j : Nat) (hij : i ≤ j) (hj : j ≤ n) :
  ∃ v, (∀ w, Sem.run Tryz.prog (Instr.slice 40 (.slice va n vc) (some (.int .i64 (i : Int))) (some (.int .i64 (j : Int))) none) w = .ok v w) ∧ ArgAt w v ((rs.drop i).take (j - i)) := by
 subst hn
 have hr := h.row hp
 obtain ⟨ga, oa, rfl⟩ := rowAt_some hr hp
 obtain ⟨-, hc1, hc2⟩ := cap_of hr
 have hc2' : (vc : Int) ≤ 9223372036854775807 := by unfold maxLen at hc2; omega
 have h0 : (0 : Int) ≤ (i : Int) := by omega
 have h0' : (0 : Int) ≤ (j : Int) := by omega
 have h1 : (j : Int) ≤ (vc : Int) := by omega
 have h2 : (i : Int) ≤ (j : Int) := by omega
 by_cases hz : vc = i
 ·refine ⟨.slice (some ⟨ga, oa, none⟩) (j - i) (vc - i), fun w => ?_, ?_⟩
  ·simp [Instr.slice, Instr.sliceBounds, Instr.sliceBound, go_sem, h0, h0', hz]
   rw [if_pos (by omega), if_pos (by omega)]
  ·have : j - i = 0 := by omega
   rw [this, List.take_zero]
   exact empty_arg w _ _ (by unfold maxLen; omega)
 ·refine ⟨.slice (some ⟨ga, oa + i, none⟩) (j - i) (vc - i), fun w => ?_, (take_row (drop_row hr i (by omega)) (j - i) (by omega)).arg⟩
  simp [Instr.slice, Instr.sliceBounds, Instr.sliceBound, go_sem, h0, h0', hz]
  rw [if_pos (by omega), if_pos hij]
/-- b[i:]. -/
theorem cut_from {w : World} {va : Option Addr} {vc n : Nat} {rs : List Int} (h : ArgAt w (.slice va n vc) rs) (hn : n = rs.length) (hp : 0 < n) (i : Nat) (hi : i ≤ n) :
  ∃ v, (∀ w, Sem.run Tryz.prog (Instr.slice 40 (.slice va n vc) (some (.int .i64 (i : Int))) none none) w = .ok v w) ∧ ArgAt w v (rs.drop i) := by
 subst hn
 have hr := h.row hp
 obtain ⟨ga, oa, rfl⟩ := rowAt_some hr hp
 obtain ⟨-, hc1, hc2⟩ := cap_of hr
 have hc2' : (vc : Int) ≤ 9223372036854775807 := by unfold maxLen at hc2; omega
 have h0 : (0 : Int) ≤ (i : Int) := by omega
 have h2 : (i : Int) ≤ (rs.length : Int) := by omega
 have h3 : (rs.length : Int) ≤ (vc : Int) := by omega
 by_cases hz : vc = i
 ·refine ⟨.slice (some ⟨ga, oa, none⟩) (rs.length - i) (vc - i), fun w => ?_, ?_⟩
  ·simp [Instr.slice, Instr.sliceBounds, Instr.sliceBound, go_sem, h0, hz]
   omega
  ·have : rs.length - i = 0 := by omega
   rw [this, List.drop_eq_nil_of_le (by omega)]
   exact empty_arg w _ _ (by unfold maxLen; omega)
 ·refine ⟨.slice (some ⟨ga, oa + i, none⟩) (rs.length - i) (vc - i), fun w => ?_, (drop_row hr i hi).arg⟩
  simp [Instr.slice, Instr.sliceBounds, Instr.sliceBound, go_sem, h0, hz]
  omega
/-- b[:j]. -/
theorem cut_to {w : World} {va : Option Addr} {vc n : Nat} {rs : List Int} (h : ArgAt w (.slice va n vc) rs) (hn : n = rs.length) (hp : 0 < n) (j : Nat) (hj : j ≤ n) :
  ∃ v, (∀ w, Sem.run Tryz.prog (Instr.slice 40 (.slice va n vc) none (some (.int .i64 (j : Int))) none) w = .ok v w) ∧ ArgAt w v (rs.take j) := by
 subst hn
 have hr := h.row hp
 obtain ⟨ga, oa, rfl⟩ := rowAt_some hr hp
 obtain ⟨-, hc1, hc2⟩ := cap_of hr
 have hc2' : (vc : Int) ≤ 9223372036854775807 := by unfold maxLen at hc2; omega
 have h0 : (0 : Int) ≤ (j : Int) := by omega
 have h1 : (j : Int) ≤ (vc : Int) := by omega
 have hne : ¬ vc = 0 := by omega
 refine ⟨.slice (some ⟨ga, oa, none⟩) j vc, fun w => ?_, (take_row hr j hj).arg⟩
 simp [Instr.slice, Instr.sliceBounds, Instr.sliceBound, go_sem, h0]
 intro hh; omega
end Go.Proofs.YtbfplepmgbkajaaGreatDoor

namespace Go.Proofs.YtbfplepmgbkajaaGreatDoor
open Go.RowKit
set_option linter.unusedVariables false
set_option maxRecDepth 100000

theorem wrap_u32 {x : Int} (h0 : 0 ≤ x) (h1 : x < 4294967296) : IntKind.u32.wrap x = x := by simp [IntKind.wrap, IntKind.bits, IntKind.signed]; omega
theorem wrap_u32s (x : Int) : IntKind.u32.wrap x = x % 4294967296 := by simp [IntKind.wrap, IntKind.bits, IntKind.signed]
/-- The first number that does not fit into n bytes. -/
def numTop (n : Int) : Int := if n = 1 then 256 else if n = 2 then 65536 else if n = 3 then 16777216 else 4294967296
theorem number_i (n : Int) (hn : n = 1 ∨ n = 2 ∨ n = 3 ∨ n = 4) (X : Nat → Prop) (b : Nat) (L : List Int) (most : Int) (x : Int) (w : World) (h : Wr X w b L most) (hm : most ≤ 1048576) (h0 : 0 ≤ x) (hx : x < numTop n) :
  Calls Tryz.prog 158 #[.pointer (some ⟨b, 0, none⟩), .int .u32 x, .int .i64 n] w fun e w' => e = .returned (.pointer (some ⟨b, 0, none⟩)) ∧ Wr X w' b (L ++ numBytes n.toNat x) most ∧ Kept X w w' := by
 rcases hn with rfl | rfl | rfl | rfl
 ·exact number_w1 X b L most x w h hm ⟨h0, by simpa [numTop] using hx⟩
 ·exact number_w2 X b L most x w h hm ⟨h0, by simpa [numTop] using hx⟩
 ·exact number_w3 X b L most x w h hm ⟨h0, by simpa [numTop] using hx⟩
 ·exact number_w4 X b L most x w h hm ⟨h0, by simpa [numTop] using hx⟩
set_option maxHeartbeats 4000000 in
theorem whead_any (X : Nat → Prop) (b : Nat) (L : List Int) (most : Int) (h : HV) (ok : h.All) (w : World) (hw : Wr X w b L most) (hm : most ≤ 1048576) :
  Calls Tryz.prog 183 #[.agg #[.pointer (some ⟨b, 0, none⟩)], h.v] w fun e w' => e = .returned (.tuple #[]) ∧ Wr X w' b (L ++ headB h) most ∧ Kept X w w' := by
 obtain ⟨⟨oa0, oa1⟩, ⟨oo0, oo1⟩, ⟨ot0, ot1⟩, ⟨oi0, oi1⟩, ⟨ov0, ov1⟩, ⟨os0, os1⟩, ⟨om0, om1⟩, ⟨ol0, ol1⟩⟩ := ok
 show Calls Tryz.prog 183 #[.agg #[.pointer (some ⟨b, 0, none⟩)], .agg #[.int .u16 h.age, .int .u8 h.opts, .int .u8 h.typ, .int .u32 h.id, .int .u32 h.adv, .int .i32 h.seq, .int .u16 h.sum, .int .u16 h.len]] w _
 go_enter Tryz.func183, Tryz.ntmps183
 have q0 := wrap_u32 oa0 (by omega)
 have q1 := wrap_u32 oo0 (by omega)
 have q2 := wrap_u32 ot0 (by omega)
 have q5 := wrap_u32s h.seq
 have q6 := wrap_u32 om0 (by omega)
 have q7 := wrap_u32 ol0 (by omega)
 go_upto_region 1 with fail
 obtain ⟨X1, hX1⟩ : ∃ X1 : Nat → Prop, X1 = fun k => X k ∨ k = w.heap.size ∨ k = w.heap.size + 1 := ⟨_, rfl⟩
 have hW : Wr X1 ((w.alloc (.cells #[.pointer (some ⟨b, 0, none⟩)] 250)).alloc (.cells #[.int .u16 h.age, .int .u8 h.opts, .int .u8 h.typ, .int .u32 h.id, .int .u32 h.adv, .int .i32 h.seq, .int .u16 h.sum, .int .u16 h.len] 93)) b L most := hw.more (((Touch.refl _ w).alloc _).alloc _) (fun k hk => by rw [hX1] at hk; rcases hk with hk | hk | hk; exact Or.inl hk; exact Or.inr ⟨by omega, by simp; omega⟩; exact Or.inr ⟨by omega, by simp; omega⟩)
 have c0 : ((w.alloc (.cells #[.pointer (some ⟨b, 0, none⟩)] 250)).alloc (.cells #[.int .u16 h.age, .int .u8 h.opts, .int .u8 h.typ, .int .u32 h.id, .int .u32 h.adv, .int .i32 h.seq, .int .u16 h.sum, .int .u16 h.len] 93)).cell? ⟨w.heap.size, 0, none⟩ = some (.pointer (some ⟨b, 0, none⟩)) := by simp [go_sem]
 have HH := Hd.new (w.alloc (.cells #[.pointer (some ⟨b, 0, none⟩)] 250)) h 93
 have T1 : Hid (Touch (fun _ => False) w ((w.alloc (.cells #[.pointer (some ⟨b, 0, none⟩)] 250)).alloc (.cells #[.int .u16 h.age, .int .u8 h.opts, .int .u8 h.typ, .int .u32 h.id, .int .u32 h.adv, .int .i32 h.seq, .int .u16 h.sum, .int .u16 h.len] 93))) := ((Touch.refl _ w).alloc _).alloc _
 have XM : Hid (X1 w.heap.size) := by show X1 _; rw [hX1]; exact Or.inr (Or.inl rfl)
 have XN : Hid (X1 (w.alloc (.cells #[.pointer (some ⟨b, 0, none⟩)] 250)).heap.size) := by show X1 _; rw [hX1]; exact Or.inr (Or.inr (by simp))
 have XX : Hid (∀ k, X k → X1 k) := by show ∀ k, _; rw [hX1]; exact fun k hk => Or.inl hk
 simp only [World.size_alloc] at XN HH ⊢
 generalize w.heap.size + 1 = g2 at *
 generalize (w.alloc (.cells #[.pointer (some ⟨b, 0, none⟩)] 250)).alloc (.cells #[.int .u16 h.age, .int .u8 h.opts, .int .u8 h.typ, .int .u32 h.id, .int .u32 h.adv, .int .i32 h.seq, .int .u16 h.sum, .int .u16 h.len] 93) = w1 at *
 obtain ⟨d0, d1, d2, d3, d4, d5, d6, d7⟩ := HH
 clear hX1 hw
 generalize w.heap.size = g1 at *
 have HD : Hid (∀ w', Kept X1 w1 w' → w'.cell? ⟨g1, 0, none⟩ = some (.pointer (some ⟨b, 0, none⟩)) ∧ Hd w' g2 h) := fun w' k => ⟨k.cell c0 XM.out, ⟨k.cell d0 XN.out, k.cell d1 XN.out, k.cell d2 XN.out, k.cell d3 XN.out, k.cell d4 XN.out, k.cell d5 XN.out, k.cell d6 XN.out, k.cell d7 XN.out⟩⟩
 have HK0 : Hid (Kept X1 w1 w1.drew) := Kept.of ((Touch.refl _ _).drew)
 have hWd : Wr X1 w1.drew b _ most := hW.keep ((Touch.refl _ _).drew)
 have e0 : w1.drew.cell? ⟨g1, 0, none⟩ = _ := c0
 have e1 : w1.drew.cell? ⟨g2, 0, none⟩ = _ := d0
 have e2 : w1.drew.cell? ⟨g2, 1, none⟩ = _ := d1
 have e3 : w1.drew.cell? ⟨g2, 2, none⟩ = _ := d2
 clear hW c0 d0 d1 d2 d3 d4 d5 d6 d7
 go_region_held3 (fun w' => w'.cell? ⟨g1, 0, none⟩ = some (.pointer (some ⟨b, 0, none⟩)) ∧ w'.cell? ⟨g2, 0, none⟩ = some (.int .u16 h.age) ∧ w'.cell? ⟨g2, 1, none⟩ = some (.int .u8 h.opts) ∧ w'.cell? ⟨g2, 2, none⟩ = some (.int .u8 h.typ)) (go_keep) (first
  | (go_at_call 158; refine Calls.mono (number_i _ (by omega) X1 b _ most _ _ (by assumption) hm (by omega) (by simp [numTop]; omega)) ?_; rintro e w2 ⟨rfl, hw2, hkx⟩; have y0 := hkx.cell (p := ⟨g1, 0, none⟩) (v := .pointer (some ⟨b, 0, none⟩)) (by assumption) XM.out; have y1 := hkx.cell (p := ⟨g2, 0, none⟩) (v := .int .u16 h.age) (by assumption) XN.out; have y2 := hkx.cell (p := ⟨g2, 1, none⟩) (v := .int .u8 h.opts) (by assumption) XN.out; have y3 := hkx.cell (p := ⟨g2, 2, none⟩) (v := .int .u8 h.typ) (by assumption) XN.out; have HK2 : Hid (Kept X1 w1 w2) := Kept.trans (Hid.out (by assumption)) hkx; clear hkx))
 obtain ⟨c0, ⟨d0, d1, d2, d3, d4, d5, d6, d7⟩⟩ := HD.out _ HK2.out
 have HK2d : Hid (Kept X1 w1 w2.drew) := HK2.out.trans (Kept.of ((Touch.refl _ _).drew))
 clear y0 y1 y2 y3 e0 e1 e2 e3 hWd
 have hWd : Wr X1 w2.drew b _ most := hw2.keep ((Touch.refl _ _).drew)
 have e0 : w2.drew.cell? ⟨g1, 0, none⟩ = _ := c0
 have e1 : w2.drew.cell? ⟨g2, 3, none⟩ = _ := d3
 have e2 : w2.drew.cell? ⟨g2, 4, none⟩ = _ := d4
 have e3 : w2.drew.cell? ⟨g2, 5, none⟩ = _ := d5
 clear c0 d0 d1 d2 d3 d4 d5 d6 d7
 go_upto_region 2 with fail
 go_region_held3 (fun w' => w'.cell? ⟨g1, 0, none⟩ = some (.pointer (some ⟨b, 0, none⟩)) ∧ w'.cell? ⟨g2, 3, none⟩ = some (.int .u32 h.id) ∧ w'.cell? ⟨g2, 4, none⟩ = some (.int .u32 h.adv) ∧ w'.cell? ⟨g2, 5, none⟩ = some (.int .i32 h.seq)) (go_keep) (first
  | (go_at_call 158; refine Calls.mono (number_i _ (by omega) X1 b _ most _ _ (by assumption) hm (by omega) (by simp [numTop]; omega)) ?_; rintro e w3 ⟨rfl, hw3, hkx⟩; have y0 := hkx.cell (p := ⟨g1, 0, none⟩) (v := .pointer (some ⟨b, 0, none⟩)) (by assumption) XM.out; have y1 := hkx.cell (p := ⟨g2, 3, none⟩) (v := .int .u32 h.id) (by assumption) XN.out; have y2 := hkx.cell (p := ⟨g2, 4, none⟩) (v := .int .u32 h.adv) (by assumption) XN.out; have y3 := hkx.cell (p := ⟨g2, 5, none⟩) (v := .int .i32 h.seq) (by assumption) XN.out; have HK3 : Hid (Kept X1 w1 w3) := Kept.trans (Hid.out (by assumption)) hkx; clear hkx))
 obtain ⟨c0, ⟨d0, d1, d2, d3, d4, d5, d6, d7⟩⟩ := HD.out _ HK3.out
 have HK3d : Hid (Kept X1 w1 w3.drew) := HK3.out.trans (Kept.of ((Touch.refl _ _).drew))
 clear y0 y1 y2 y3 e0 e1 e2 e3 hWd
 have hWd : Wr X1 w3.drew b _ most := hw3.keep ((Touch.refl _ _).drew)
 have e0 : w3.drew.cell? ⟨g1, 0, none⟩ = _ := c0
 have e1 : w3.drew.cell? ⟨g2, 6, none⟩ = _ := d6
 have e2 : w3.drew.cell? ⟨g2, 7, none⟩ = _ := d7
 clear c0 d0 d1 d2 d3 d4 d5 d6 d7
 go_upto_region 3 with fail
 go_region_held3 (fun w' => w'.cell? ⟨g1, 0, none⟩ = some (.pointer (some ⟨b, 0, none⟩)) ∧ w'.cell? ⟨g2, 6, none⟩ = some (.int .u16 h.sum) ∧ w'.cell? ⟨g2, 7, none⟩ = some (.int .u16 h.len)) (go_keep) (first
  | (go_at_call 158; refine Calls.mono (number_i _ (by omega) X1 b _ most _ _ (by assumption) hm (by omega) (by simp [numTop]; omega)) ?_; rintro e w4 ⟨rfl, hw4, hkx⟩; have y0 := hkx.cell (p := ⟨g1, 0, none⟩) (v := .pointer (some ⟨b, 0, none⟩)) (by assumption) XM.out; have y1 := hkx.cell (p := ⟨g2, 6, none⟩) (v := .int .u16 h.sum) (by assumption) XN.out; have y2 := hkx.cell (p := ⟨g2, 7, none⟩) (v := .int .u16 h.len) (by assumption) XN.out; have HK4 : Hid (Kept X1 w1 w4) := Kept.trans (Hid.out (by assumption)) hkx; clear hkx))
 clear y0 y1 y2 e0 e1 e2 hWd
 go_wp2
 go_end0
 refine ⟨rfl, ?_, ?_⟩
 ·have := hw4.less XX.out
  simpa [headB, numBytes, List.append_assoc, Int.emod_eq_of_lt oo0 oo1, Int.emod_eq_of_lt ot0 ot1] using this
 ·exact (Kept.of T1.out).trans (HK4.out.less (fun k _ hk => XX.out k hk))

theorem Hd.kept {X : Nat → Prop} {w w' : World} {g : Nat} {h : HV} (k : Hd w g h) (t : Kept X w w') (hx : X g) : Hd w' g h := ⟨t.cell k.c0 hx, t.cell k.c1 hx, t.cell k.c2 hx, t.cell k.c3 hx, t.cell k.c4 hx, t.cell k.c5 hx, t.cell k.c6 hx, t.cell k.c7 hx⟩
theorem Sd.kept {X : Nat → Prop} {w w' : World} {g : Nat} {h : HV} {v : Value} (k : Sd w g h v) (t : Kept X w w') (hx : X g) : Sd w' g h v := ⟨k.hd.kept t hx, t.cell k.c8 hx⟩
theorem Kept.sd {X : Nat → Prop} {w w' : World} {g : Nat} {h : HV} {v : Value} (t : Kept X w w') (k : Sd w g h v) (hx : X g) : Sd w' g h v := k.kept t hx
/-- Bytes: the head's, and the body. -/
theorem bytes_any (h : HV) (ok : h.All) (v : Value) (l : List Int) (w : World) (hv : ArgAt w v l) (hl : l.length ≤ 1000000) :
  Calls Tryz.prog 160 #[h.sv v] w fun e w' => ∃ u, e = .returned u ∧ Buf w w' u (headB h ++ l) := by
 obtain ⟨va, vc, rfl, hm⟩ := hv.form
 have OK : Hid h.All := ok
 have HV' : Hid (ArgAt w (.slice va l.length vc) l) := hv
 have HZ := fun w => size_any h va l.length vc w (by omega)
 show Calls Tryz.prog 160 #[.agg #[.int .u16 h.age, .int .u8 h.opts, .int .u8 h.typ, .int .u32 h.id, .int .u32 h.adv, .int .i32 h.seq, .int .u16 h.sum, .int .u16 h.len, .slice va l.length vc]] w _
 go_enter Tryz.func160, Tryz.ntmps160
 go_wp2_with fail
 refine Calls.mono (HZ _) ?_
 rintro e w1 ⟨rfl, t1⟩
 have S1 := (Sd.new w h (.slice va l.length vc) 95).keep t1
 have T1 := ((Touch.refl (fun _ => False) w).alloc _).trans t1
 clear t1 HZ
 go_wp2_with fail
 refine Calls.mono (write_w (20 + (l.length : Int)) w1 (by omega)) ?_
 rintro e w2 ⟨rfl, hw2, t2⟩
 have S2 := S1.keep t2
 have T2 := T1.trans t2
 have hg : w.heap.size < w1.heap.size := lt_of_cell S1.hd.c0
 have hb : w1.heap.size < w2.heap.size := hw2.lt
 have hgg : w.heap.size < w2.heap.size := by omega
 have hn1 : ¬ w.heap.size = w2.heap.size := by omega
 have hn2 : ¬ w2.heap.size = w.heap.size := by omega
 have HW2 : Hid (Wr (fun k => k < w1.heap.size) w2 w1.heap.size [] (20 + (l.length : Int))) := hw2
 have HS2 : Hid (Sd w2 w.heap.size h (.slice va l.length vc)) := S2
 have HT2 : Hid (Touch (fun _ => False) w w2) := T2
 obtain ⟨⟨s0, s1, s2, s3, s4, s5, s6, s7⟩, s8⟩ := S2
 clear S1 T1 t2 hw2 T2
 go_wp2_with fail
 have TT : ∀ (o : Obj), Touch (fun _ => False) w2 (w2.alloc o) := fun o => (Touch.refl _ w2).alloc o
 have TS : ∀ (o : Obj), w2.heap.size < (w2.alloc o).heap.size := fun o => by simp
 refine Calls.mono (whead_any (fun k => k < w1.heap.size ∨ k = w2.heap.size) w1.heap.size [] (20 + (l.length : Int)) h OK.out _ ?hw (by omega)) ?_
 case hw => exact HW2.out.more (TT _) (fun k hk => by rcases hk with hk | hk; exact Or.inl hk; exact Or.inr ⟨by omega, by rw [hk]; exact TS _⟩)
 rintro e w4 ⟨rfl, hw4, k4⟩
 have S4 := Kept.sd k4 (HS2.out.keep (TT _)) (Or.inl hg)
 have c4 := k4.cell (p := ⟨w2.heap.size, 0, none⟩) (v := .pointer (some ⟨w1.heap.size, 0, none⟩)) (by simp [go_sem]) (Or.inr rfl)
 have T4 : Touch (fun _ => False) w w4 := Kept.after k4 (HT2.out.trans (TT _)) (fun i hi => Or.inl (by omega))
 have HW4 : Hid (Wr (fun k => k < w1.heap.size ∨ k = w2.heap.size) w4 w1.heap.size ([] ++ headB h) (20 + (l.length : Int))) := hw4
 have HT4 : Hid (Touch (fun _ => False) w w4) := T4
 obtain ⟨-, s8'⟩ := S4
 clear k4 s0 s1 s2 s3 s4 s5 s6 s7 s8 TT TS hw4 T4
 go_wp2_with fail
 refine Calls.mono (put_arg (fun k => k < w1.heap.size ∨ k = w2.heap.size) w1.heap.size ([] ++ headB h) (20 + (l.length : Int)) _ l _ HW4.out (by omega) (HV'.out.keep HT4.out (fun _ _ h => h)) (by omega)) ?_
 rintro e w5 ⟨rfl, hw5, k5⟩
 have c5 := k5.cell c4 (Or.inr rfl)
 have T5 : Touch (fun _ => False) w w5 := Kept.after k5 HT4.out (fun i hi => Or.inl (by omega))
 have HW5 : Hid (Wr (fun k => k < w1.heap.size ∨ k = w2.heap.size) w5 w1.heap.size ([] ++ headB h ++ l) (20 + (l.length : Int))) := hw5
 have HT5 : Hid (Touch (fun _ => False) w w5) := T5
 clear k5 c4 s8' hw5 T5
 go_wp2_with fail
 refine Calls.mono (done_w _ w1.heap.size ([] ++ headB h ++ l) (20 + (l.length : Int)) _ HW5.out (by rw [List.nil_append, List.length_append, length_headB]; push_cast; omega) (by omega)) ?_
 rintro e w6 ⟨u, rfl, b6⟩
 obtain ⟨ua, uc, rfl⟩ := b6.form
 have B6 : Hid (Buf w5 w6 _ ([] ++ headB h ++ l)) := b6
 clear b6 c5
 go_wp2
 go_ret
 refine ⟨_, rfl, ?_⟩
 have := B6.out.back HT5.out
 simpa using this
end Go.Proofs.YtbfplepmgbkajaaGreatDoor

namespace Go.Proofs.YtbfplepmgbkajaaGreatDoor
open Go.RowKit
set_option linter.unusedVariables false

theorem and16 {n : Int} (h0 : 0 ≤ n) (h : n < 4294967296) : bits .and .u32 n 65535 = n % 65536 := by
 rw [u32_and n _ h0 h (by omega) (by omega), show (65535 : Int).toNat = 2 ^ 16 - 1 from rfl, Nat.and_two_pow_sub_one_eq_mod]
 omega
theorem and8 {n : Int} (h0 : 0 ≤ n) (h : n < 4294967296) : bits .and .u32 n 255 = n % 256 := by
 rw [u32_and n _ h0 h (by omega) (by omega), show (255 : Int).toNat = 2 ^ 8 - 1 from rfl, Nat.and_two_pow_sub_one_eq_mod]
 omega
end Go.Proofs.YtbfplepmgbkajaaGreatDoor

namespace Go.Proofs.YtbfplepmgbkajaaGreatDoor
open Go.RowKit
set_option linter.unusedVariables false
set_option maxRecDepth 100000

/-- Two numbers of 32 bits lie in block b. -/
structure Two (w : World) (b : Nat) (x y : Int) : Prop where
 c0 : w.cell? ⟨b, 0, none⟩ = some (.int .u32 x)
 c1 : w.cell? ⟨b, 1, none⟩ = some (.int .u32 y)
 f0 : w.frozen? ⟨b, 0, none⟩ = false
 f1 : w.frozen? ⟨b, 1, none⟩ = false
theorem Two.lt {w : World} {b : Nat} {x y : Int} (h : Two w b x y) : b < w.heap.size := lt_of_cell h.c0
theorem Two.keep {w w' : World} {b : Nat} {x y : Int} (h : Two w b x y) (t : Touch (fun _ => False) w w') : Two w' b x y :=
 ⟨t.cellN h.c0, t.cellN h.c1, (t.frozen h.lt (fun h => h)).trans h.f0, (t.frozen h.lt (fun h => h)).trans h.f1⟩
theorem Two.drew {w : World} {b : Nat} {x y : Int} (h : Two w b x y) : Two w.drew b x y := h.keep ((Touch.refl _ _).drew)
theorem Two.set0 {w : World} {b : Nat} {x y : Int} (h : Two w b x y) (z : Int) : Two (w.setCell ⟨b, 0, none⟩ (.int .u32 z)) b z y := by
 obtain ⟨h0, h1, h2, h3⟩ := h
 exact ⟨by simp [h0, go_sem], by simp [h1, go_sem], by simp [h2, go_sem], by simp [h3, go_sem]⟩
theorem Two.set1 {w : World} {b : Nat} {x y : Int} (h : Two w b x y) (z : Int) : Two (w.setCell ⟨b, 1, none⟩ (.int .u32 z)) b x z := by
 obtain ⟨h0, h1, h2, h3⟩ := h
 exact ⟨by simp [h0, go_sem], by simp [h1, go_sem], by simp [h2, go_sem], by simp [h3, go_sem]⟩
theorem Touch.new {w0 w : World} (t : Touch (fun _ => False) w0 w) {p : Addr} (h : w0.heap.size ≤ p.block) (u : Value) : Touch (fun _ => False) w0 (w.setCell p u) := t.setCell (Or.inr h) u

theorem rowAt_cap {w : World} {g off c : Nat} {rs : List Int} (h : RowAt w (.slice (some ⟨g, off, none⟩) rs.length c) rs) : rs.length ≤ c := by
 rcases h with ⟨h, _⟩ | ⟨g', off', c', h, h1, _⟩
 ·cases h
 ·cases h; exact h1
theorem rowAt_drop {w : World} {g off c : Nat} {rs : List Int} (h : RowAt w (.slice (some ⟨g, off, none⟩) rs.length c) rs) (n : Nat) (hn : n ≤ rs.length) : RowAt w (.slice (some ⟨g, off + n, none⟩) (rs.length - n) (c - n)) (rs.drop n) := by
 rcases h with ⟨h, _⟩ | ⟨g', off', c', h, h1, h2, h3⟩
 ·cases h
 ·cases h
  refine Or.inr ⟨g, off + n, c - n, by simp, by simp; omega, by omega, fun j u hj => ?_⟩
  rw [Nat.add_assoc]
  refine h3 (n + j) u ?_
  simpa [bytesOf, List.getElem?_drop] using hj
end Go.Proofs.YtbfplepmgbkajaaGreatDoor

namespace Go.Proofs.YtbfplepmgbkajaaGreatDoor
open Go.RowKit
set_option linter.unusedVariables false
set_option maxRecDepth 100000

def PR (w : World) (b : Nat) (ps : List (Value × List Int)) (g : Nat) (i : Value) (wr : World) : Prop :=
 ∃ (j : Nat) (h k : Int), j + g = ps.length ∧ i = .int .i64 (j : Int) ∧ Two wr b h k ∧ Run ((ps.take j).map Prod.snd).flatten h k ∧ 0 ≤ h ∧ 0 ≤ k ∧ h < 4294967296 ∧ k < 4294967296 ∧ Touch (fun _ => False) w wr

end Go.Proofs.YtbfplepmgbkajaaGreatDoor

namespace Go.Proofs.YtbfplepmgbkajaaGreatDoor
open Go.RowKit
set_option linter.unusedVariables false
set_option maxRecDepth 100000

/-- So many cells lie in block g, and may be stored into. -/
def Room (w : World) (g n : Nat) : Prop := ∀ i, i < n → ∃ v, w.cell? ⟨g, i, none⟩ = some v ∧ w.frozen? ⟨g, i, none⟩ = false
theorem Room.keep {w w' : World} {g n : Nat} (h : Room w g n) (t : Touch (fun _ => False) w w') : Room w' g n := fun i hi => by
 obtain ⟨v, hc, hf⟩ := h i hi
 exact ⟨v, t.cellN hc, (t.frozen (p := ⟨g, i, none⟩) (lt_of_cell hc) (fun h => h)).trans hf⟩
theorem Room.touch {F : Nat → Prop} {w w' : World} {g n : Nat} (h : Room w g n) (t : Touch F w w') (hF : ¬ F g) : Room w' g n := fun i hi => by
 obtain ⟨v, hc, hf⟩ := h i hi
 exact ⟨v, (t.cell (p := ⟨g, i, none⟩) (lt_of_cell hc) hF).trans hc, (t.frozen (p := ⟨g, i, none⟩) (lt_of_cell hc) hF).trans hf⟩
theorem Room.new (w : World) (C : Array Value) (t : TypeId) : Room (w.alloc (.cells C t)) w.heap.size C.size := fun i hi => ⟨C[i], by simp [go_sem, hi], by simp [go_sem]⟩
theorem clone_arg (v : Value) (l : List Int) (w : World) (h : ArgAt w v l) (hl : l.length ≤ 1099511627776) : Calls Tryz.prog 137 #[v] w fun e w' => ∃ u, e = .returned u ∧ Buf w w' u l := by
 rcases h with ⟨rfl, rfl⟩ | ⟨ad, c, rfl, h1, h2, h3⟩
 ·refine (clone_nil w).mono ?_
  rintro e w' ⟨rfl, rfl⟩
  exact ⟨_, rfl, Buf.nil (Touch.refl _ _)⟩
 ·refine (clone_some ad c l w h3 hl).mono ?_
  rintro e w' ⟨u, rfl, hown, t, _⟩
  exact ⟨u, rfl, hown, t⟩
end Go.Proofs.YtbfplepmgbkajaaGreatDoor

namespace Go.Proofs.YtbfplepmgbkajaaGreatDoor
open Go.RowKit
set_option linter.unusedVariables false
set_option maxRecDepth 100000

/-- A number of n bytes, n given as the program gives it. -/
theorem rnum_i (N b : Nat) (n : Int) (hn : n = 1 ∨ n = 2 ∨ n = 3 ∨ n = 4) (rs : List Int) (q : Option Nat) (w : World) (h : Rdr N w b rs q) :
  Calls Tryz.prog 117 #[.pointer (some ⟨b, 0, none⟩), .int .i64 n] w fun e w' => e = .returned (.int .u32 (numAt rs q n.toNat)) ∧ Rdr N w' b rs (nextAt rs q n.toNat) ∧ Touch (fun k => k = b) w w' := by
 rcases hn with rfl | rfl | rfl | rfl
 ·exact rnum1 N b rs q w h
 ·exact rnum2 N b rs q w h
 ·exact rnum3 N b rs q w h
 ·exact rnum4 N b rs q w h
end Go.Proofs.YtbfplepmgbkajaaGreatDoor

namespace Go.Proofs.YtbfplepmgbkajaaGreatDoor
open Go.RowKit
set_option linter.unusedVariables false
set_option maxRecDepth 100000

def R8 (w : World) (g : Nat) (u0 u1 u2 u3 u4 u5 u6 u7 : Value) : Prop := w.cell? ⟨g, 0, none⟩ = some u0 ∧ w.frozen? ⟨g, 0, none⟩ = false ∧ w.cell? ⟨g, 1, none⟩ = some u1 ∧ w.frozen? ⟨g, 1, none⟩ = false ∧ w.cell? ⟨g, 2, none⟩ = some u2 ∧ w.frozen? ⟨g, 2, none⟩ = false ∧ w.cell? ⟨g, 3, none⟩ = some u3 ∧ w.frozen? ⟨g, 3, none⟩ = false ∧ w.cell? ⟨g, 4, none⟩ = some u4 ∧ w.frozen? ⟨g, 4, none⟩ = false ∧ w.cell? ⟨g, 5, none⟩ = some u5 ∧ w.frozen? ⟨g, 5, none⟩ = false ∧ w.cell? ⟨g, 6, none⟩ = some u6 ∧ w.frozen? ⟨g, 6, none⟩ = false ∧ w.cell? ⟨g, 7, none⟩ = some u7 ∧ w.frozen? ⟨g, 7, none⟩ = false
theorem R8.touch {F : Nat → Prop} {w w' : World} {g : Nat} {u0 u1 u2 u3 u4 u5 u6 u7 : Value} (h : R8 w g u0 u1 u2 u3 u4 u5 u6 u7) (t : Touch F w w') (hF : ¬ F g) : R8 w' g u0 u1 u2 u3 u4 u5 u6 u7 := by
 have hl : g < w.heap.size := lt_of_cell h.1
 have c : ∀ i v, w.cell? ⟨g, i, none⟩ = some v → w'.cell? ⟨g, i, none⟩ = some v := fun i v e => (t.cell (p := ⟨g, i, none⟩) hl hF).trans e
 have f : ∀ i, w.frozen? ⟨g, i, none⟩ = false → w'.frozen? ⟨g, i, none⟩ = false := fun i e => (t.frozen (p := ⟨g, i, none⟩) hl hF).trans e
 obtain ⟨zc0, zf0, zc1, zf1, zc2, zf2, zc3, zf3, zc4, zf4, zc5, zf5, zc6, zf6, zc7, zf7⟩ := h
 exact ⟨c 0 _ zc0, f 0 zf0, c 1 _ zc1, f 1 zf1, c 2 _ zc2, f 2 zf2, c 3 _ zc3, f 3 zf3, c 4 _ zc4, f 4 zf4, c 5 _ zc5, f 5 zf5, c 6 _ zc6, f 6 zf6, c 7 _ zc7, f 7 zf7⟩
theorem next_all (rs : List Int) : ∀ (ns : List Nat) (p : Nat), ns.foldl (nextAt rs) (some p) = if p + ns.sum ≤ rs.length then some (p + ns.sum) else (if ns = [] then some p else none)
 | [], p => by simp
 | n :: r, p => by
  have hn : ∀ m : List Nat, m.foldl (nextAt rs) none = none := fun m => by induction m with | nil => rfl | cons a r ih => simpa [nextAt] using ih
  have hs : (n :: r).sum = n + r.sum := List.sum_cons
  generalize (n :: r).sum = S at hs ⊢
  rw [List.foldl_cons]
  by_cases h : p + n ≤ rs.length
  ·rw [show nextAt rs (some p) n = some (p + n) by simp [nextAt, h], next_all rs r (p + n)]
   by_cases h2 : p + n + r.sum ≤ rs.length
   ·have h3 : p + S ≤ rs.length := by omega
    rw [if_pos h2, if_pos h3]; congr 1; omega
   ·have h3 : ¬ p + S ≤ rs.length := by omega
    have hr : r ≠ [] := fun e => by subst e; simp at h2; omega
    rw [if_neg h2, if_neg h3, if_neg hr, if_neg (by simp)]
  ·have h3 : ¬ p + S ≤ rs.length := by omega
   rw [show nextAt rs (some p) n = none by simp [nextAt, h], hn, if_neg h3, if_neg (by simp)]
/-- A head out of bytes. -/
def rdHead (rs : List Int) : HV := ⟨numAt rs (some 0) 2, numAt rs (nextAt rs (some 0) 2) 1, numAt rs (nextAt rs (nextAt rs (some 0) 2) 1) 1, numAt rs (nextAt rs (nextAt rs (nextAt rs (some 0) 2) 1) 1) 4, numAt rs (nextAt rs (nextAt rs (nextAt rs (nextAt rs (some 0) 2) 1) 1) 4) 4, IntKind.i32.wrap (numAt rs (nextAt rs (nextAt rs (nextAt rs (nextAt rs (nextAt rs (some 0) 2) 1) 1) 4) 4) 4), numAt rs (nextAt rs (nextAt rs (nextAt rs (nextAt rs (nextAt rs (nextAt rs (some 0) 2) 1) 1) 4) 4) 4) 2, numAt rs (nextAt rs (nextAt rs (nextAt rs (nextAt rs (nextAt rs (nextAt rs (nextAt rs (some 0) 2) 1) 1) 4) 4) 4) 2) 2⟩
theorem rd_last (rs : List Int) : (nextAt rs (nextAt rs (nextAt rs (nextAt rs (nextAt rs (nextAt rs (nextAt rs (nextAt rs (some 0) 2) 1) 1) 4) 4) 4) 2) 2) = if 20 ≤ rs.length then some 20 else none := next_all rs [2, 1, 1, 4, 4, 4, 2, 2] 0

set_option maxHeartbeats 2000000 in
theorem rhead_any (N b : Nat) (rs : List Int) (w : World) (h : Rdr N w b rs (some 0)) (hN : N ≤ w.heap.size) :
  Calls Tryz.prog 197 #[.agg #[.pointer (some ⟨b, 0, none⟩)]] w fun e w' => e = .returned (rdHead rs).v ∧ Rdr N w' b rs (if 20 ≤ rs.length then some 20 else none) ∧ Touch (fun k => k = b) w w' := by
 have hb2 : ∀ q, IntKind.u16.wrap (numAt rs q 2) = numAt rs q 2 := fun q => by have := numAt_bound h.byte q 2; simp [IntKind.wrap, IntKind.bits, IntKind.signed]; omega
 have hb1 : ∀ q, IntKind.u8.wrap (numAt rs q 1) = numAt rs q 1 := fun q => by have := numAt_bound h.byte q 1; simp [IntKind.wrap, IntKind.bits, IntKind.signed]; omega
 have hlow := h.low
 rw [← rd_last rs]
 go_enter Tryz.func197, Tryz.ntmps197
 go_upto_region 1 with fail
 have T1 : Hid (Touch (fun k => k = b) w ((w.alloc (.cells #[.pointer (some ⟨b, 0, none⟩)] 267)).alloc (.cells #[.int .u16 0, .int .u8 0, .int .u8 0, .int .u32 0, .int .u32 0, .int .i32 0, .int .u16 0, .int .u16 0] 93))) := ((Touch.refl _ w).alloc _).alloc _
 have h1 : Rdr N ((w.alloc (.cells #[.pointer (some ⟨b, 0, none⟩)] 267)).alloc (.cells #[.int .u16 0, .int .u8 0, .int .u8 0, .int .u32 0, .int .u32 0, .int .i32 0, .int .u16 0, .int .u16 0] 93)).drew b rs (some 0) := h.keep ((((Touch.refl _ w).alloc _).alloc _).drew)
 have y0 : ((w.alloc (.cells #[.pointer (some ⟨b, 0, none⟩)] 267)).alloc (.cells #[.int .u16 0, .int .u8 0, .int .u8 0, .int .u32 0, .int .u32 0, .int .i32 0, .int .u16 0, .int .u16 0] 93)).drew.cell? ⟨w.heap.size, 0, none⟩ = some (.pointer (some ⟨b, 0, none⟩)) := by simp [go_sem]
 have HR0 : Hid (R8 ((w.alloc (.cells #[.pointer (some ⟨b, 0, none⟩)] 267)).alloc (.cells #[.int .u16 0, .int .u8 0, .int .u8 0, .int .u32 0, .int .u32 0, .int .i32 0, .int .u16 0, .int .u16 0] 93)).drew (w.heap.size + 1) (.int .u16 0) (.int .u8 0) (.int .u8 0) (.int .u32 0) (.int .u32 0) (.int .i32 0) (.int .u16 0) (.int .u16 0)) := by show R8 _ _ _ _ _ _ _ _ _ _; unfold R8; simp [go_sem]
 have hn1 : Hid (¬ w.heap.size = b) := by show ¬ _; omega
 have hn2 : Hid (¬ w.heap.size + 1 = b) := by show ¬ _; omega
 have hne : ¬ w.heap.size = w.heap.size + 1 := by omega
 have hne' : ¬ w.heap.size + 1 = w.heap.size := by omega
 have HS : Hid (w.heap.size < ((w.alloc (.cells #[.pointer (some ⟨b, 0, none⟩)] 267)).alloc (.cells #[.int .u16 0, .int .u8 0, .int .u8 0, .int .u32 0, .int .u32 0, .int .i32 0, .int .u16 0, .int .u16 0] 93)).heap.size) := by show _ < _; simp; omega
 have HN : Hid (N ≤ w.heap.size) := hN
 generalize hg2 : w.heap.size + 1 = g2 at *
 generalize (w.alloc (.cells #[.pointer (some ⟨b, 0, none⟩)] 267)).alloc (.cells #[.int .u16 0, .int .u8 0, .int .u8 0, .int .u32 0, .int .u32 0, .int .i32 0, .int .u16 0, .int .u16 0] 93) = w1 at *
 clear h hN hlow
 generalize hg1 : w.heap.size = g1 at *
 have HG1 : Hid (w.heap.size = g1) := hg1
 have HG2 : Hid (g1 + 1 = g2) := hg2
 clear hg1 hg2
 have hl1 : Hid (g1 < w1.heap.size) := HS
 have HT0 : Hid (Touch (fun k => k = b) w1 w1.drew) := (Touch.refl _ _).drew
 obtain ⟨zc0, zf0, zc1, zf1, zc2, zf2, zc3, zf3, zc4, zf4, zc5, zf5, zc6, zf6, zc7, zf7⟩ := HR0.out
 go_region_held3 (fun w' => w'.cell? ⟨g1, 0, none⟩ = some (.pointer (some ⟨b, 0, none⟩))) (go_keep) (first
  | (go_at_call 117; refine Calls.mono (rnum_i N b _ (by omega) rs _ _ (by assumption)) ?_; rintro e wx ⟨rfl, hx, tx⟩; have y0 := (tx.cell (p := ⟨g1, 0, none⟩) (Nat.lt_of_lt_of_le hl1.out (Touch.size (Hid.out (by assumption : Hid (Touch (fun k => k = b) w1 _))))) hn1.out).trans (by assumption : World.cell? _ ⟨g1, 0, none⟩ = some (.pointer (some ⟨b, 0, none⟩))); have HRX : Hid (R8 wx g2 (.int .u16 0) (.int .u8 0) (.int .u8 0) (.int .u32 0) (.int .u32 0) (.int .i32 0) (.int .u16 0) (.int .u16 0)) := (Hid.out (by assumption : Hid (R8 _ g2 (.int .u16 0) (.int .u8 0) (.int .u8 0) (.int .u32 0) (.int .u32 0) (.int .i32 0) (.int .u16 0) (.int .u16 0)))).touch tx hn2.out; clear zc0 zf0 zc1 zf1 zc2 zf2 zc3 zf3 zc4 zf4 zc5 zf5 zc6 zf6 zc7 zf7; obtain ⟨zc0, zf0, zc1, zf1, zc2, zf2, zc3, zf3, zc4, zf4, zc5, zf5, zc6, zf6, zc7, zf7⟩ := HRX.out; have HTX : Hid (Touch (fun k => k = b) w1 wx) := Touch.trans (Hid.out (by assumption)) tx; clear tx))
 have HX : Hid (Rdr N wx b rs ((nextAt rs (nextAt rs (nextAt rs (nextAt rs (nextAt rs (nextAt rs (nextAt rs (nextAt rs (some 0) 2) 1) 1) 4) 4) 4) 2) 2))) := hx
 obtain ⟨wz, hwz⟩ : ∃ wz, wz = ((((((((wx.setCell ⟨g2, 0, none⟩ (.int .u16 (numAt rs (some 0) 2))).setCell ⟨g2, 1, none⟩ (.int .u8 (numAt rs (nextAt rs (some 0) 2) 1))).setCell ⟨g2, 2, none⟩ (.int .u8 (numAt rs (nextAt rs (nextAt rs (some 0) 2) 1) 1))).setCell ⟨g2, 3, none⟩ (.int .u32 (numAt rs (nextAt rs (nextAt rs (nextAt rs (some 0) 2) 1) 1) 4))).setCell ⟨g2, 4, none⟩ (.int .u32 (numAt rs (nextAt rs (nextAt rs (nextAt rs (nextAt rs (some 0) 2) 1) 1) 4) 4))).setCell ⟨g2, 5, none⟩ (.int .i32 (IntKind.i32.wrap (numAt rs (nextAt rs (nextAt rs (nextAt rs (nextAt rs (nextAt rs (some 0) 2) 1) 1) 4) 4) 4)))).setCell ⟨g2, 6, none⟩ (.int .u16 (numAt rs (nextAt rs (nextAt rs (nextAt rs (nextAt rs (nextAt rs (nextAt rs (some 0) 2) 1) 1) 4) 4) 4) 2))).setCell ⟨g2, 7, none⟩ (.int .u16 (numAt rs (nextAt rs (nextAt rs (nextAt rs (nextAt rs (nextAt rs (nextAt rs (nextAt rs (some 0) 2) 1) 1) 4) 4) 4) 2) 2))) := ⟨_, rfl⟩
 have zd0 : wz.cell? ⟨g2, 0, none⟩ = some (.int .u16 (numAt rs (some 0) 2)) := by rw [hwz]; simp [zc0, go_sem]
 have zd1 : wz.cell? ⟨g2, 1, none⟩ = some (.int .u8 (numAt rs (nextAt rs (some 0) 2) 1)) := by rw [hwz]; simp [zc1, go_sem]
 have zd2 : wz.cell? ⟨g2, 2, none⟩ = some (.int .u8 (numAt rs (nextAt rs (nextAt rs (some 0) 2) 1) 1)) := by rw [hwz]; simp [zc2, go_sem]
 have zd3 : wz.cell? ⟨g2, 3, none⟩ = some (.int .u32 (numAt rs (nextAt rs (nextAt rs (nextAt rs (some 0) 2) 1) 1) 4)) := by rw [hwz]; simp [zc3, go_sem]
 have zd4 : wz.cell? ⟨g2, 4, none⟩ = some (.int .u32 (numAt rs (nextAt rs (nextAt rs (nextAt rs (nextAt rs (some 0) 2) 1) 1) 4) 4)) := by rw [hwz]; simp [zc4, go_sem]
 have zd5 : wz.cell? ⟨g2, 5, none⟩ = some (.int .i32 (IntKind.i32.wrap (numAt rs (nextAt rs (nextAt rs (nextAt rs (nextAt rs (nextAt rs (some 0) 2) 1) 1) 4) 4) 4))) := by rw [hwz]; simp [zc5, go_sem]
 have zd6 : wz.cell? ⟨g2, 6, none⟩ = some (.int .u16 (numAt rs (nextAt rs (nextAt rs (nextAt rs (nextAt rs (nextAt rs (nextAt rs (some 0) 2) 1) 1) 4) 4) 4) 2)) := by rw [hwz]; simp [zc6, go_sem]
 have zd7 : wz.cell? ⟨g2, 7, none⟩ = some (.int .u16 (numAt rs (nextAt rs (nextAt rs (nextAt rs (nextAt rs (nextAt rs (nextAt rs (nextAt rs (some 0) 2) 1) 1) 4) 4) 4) 2) 2)) := by rw [hwz]; simp [zc7, go_sem]
 have HUz : Hid (Touch (fun k => k = g2) wx wz) := by show Touch _ _ _; rw [hwz]; refine Touch.setCell (F := fun k => k = g2) (p := ⟨g2, 7, none⟩) ?_ (Or.inl rfl) _; refine Touch.setCell (F := fun k => k = g2) (p := ⟨g2, 6, none⟩) ?_ (Or.inl rfl) _; refine Touch.setCell (F := fun k => k = g2) (p := ⟨g2, 5, none⟩) ?_ (Or.inl rfl) _; refine Touch.setCell (F := fun k => k = g2) (p := ⟨g2, 4, none⟩) ?_ (Or.inl rfl) _; refine Touch.setCell (F := fun k => k = g2) (p := ⟨g2, 3, none⟩) ?_ (Or.inl rfl) _; refine Touch.setCell (F := fun k => k = g2) (p := ⟨g2, 2, none⟩) ?_ (Or.inl rfl) _; refine Touch.setCell (F := fun k => k = g2) (p := ⟨g2, 1, none⟩) ?_ (Or.inl rfl) _; refine Touch.setCell (F := fun k => k = g2) (p := ⟨g2, 0, none⟩) ?_ (Or.inl rfl) _; exact Touch.refl _ _
 rw [← hwz]
 clear hwz zc0 zf0 zc1 zf1 zc2 zf2 zc3 zf3 zc4 zf4 zc5 zf5 zc6 zf6 zc7 zf7 hx
 go_wp2_with fail
 refine bodyPost_ret (v := .agg #[.int .u16 (numAt rs (some 0) 2), .int .u8 (numAt rs (nextAt rs (some 0) 2) 1), .int .u8 (numAt rs (nextAt rs (nextAt rs (some 0) 2) 1) 1), .int .u32 (numAt rs (nextAt rs (nextAt rs (nextAt rs (some 0) 2) 1) 1) 4), .int .u32 (numAt rs (nextAt rs (nextAt rs (nextAt rs (nextAt rs (some 0) 2) 1) 1) 4) 4), .int .i32 (IntKind.i32.wrap (numAt rs (nextAt rs (nextAt rs (nextAt rs (nextAt rs (nextAt rs (some 0) 2) 1) 1) 4) 4) 4)), .int .u16 (numAt rs (nextAt rs (nextAt rs (nextAt rs (nextAt rs (nextAt rs (nextAt rs (some 0) 2) 1) 1) 4) 4) 4) 2), .int .u16 (numAt rs (nextAt rs (nextAt rs (nextAt rs (nextAt rs (nextAt rs (nextAt rs (nextAt rs (some 0) 2) 1) 1) 4) 4) 4) 2) 2)]) (by simp [results, Tryz.results197, go_sem, zd0, zd1, zd2, zd3, zd4, zd5, zd6, zd7]) rfl ?_
 refine ⟨rfl, HX.out.touch HUz.out (fun k hk e => by have := HG2.out; have := HN.out; omega), ?_⟩
 exact (T1.out.trans HTX.out).trans' HUz.out (fun i hi e => by have := HG1.out; have := HG2.out; omega)
end Go.Proofs.YtbfplepmgbkajaaGreatDoor
