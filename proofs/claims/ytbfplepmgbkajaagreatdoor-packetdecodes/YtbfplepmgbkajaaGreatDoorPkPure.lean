/- Contract: Read where it refuses. -/
import Derived.Test.YtbfplepmgbkajaaGreatDoorBagKm
import Derived.Test.YtbfplepmgbkajaaGreatDoorStHeadOf
import Derived.Test.YtbfplepmgbkajaaGreatDoorStFace
import Derived.Test.YtbfplepmgbkajaaGreatDoorStRd3
import Derived.Deep.RegionHeld2
import Derived.Test.YtbfplepmgbkajaaGreatDoorRowB
import Derived.Deep.DeepCutAuto
import Derived.Deep.RegionHeld3
import Derived.Test.YtbfplepmgbkajaaGreatDoorStRow0
import Derived.Test.YtbfplepmgbkajaaGreatDoorSumWords3
namespace Go.Proofs.YtbfplepmgbkajaaGreatDoor
open Go.RowKit
set_option linter.unusedVariables false
set_option maxRecDepth 100000

set_option maxHeartbeats 1000000 in
theorem read_no (v : Value) (rs : List Int) (err : Int) (w : World) (hv : ArgAt w v rs)
  (HC1 : ∀ w', Touch (fun _ => False) w w' → w'.cell? ⟨w.heap.size, 0, none⟩ = some v → Calls Tryz.prog 187 #[.pointer (some ⟨w.heap.size, 0, none⟩)] w' fun e w'' => e = .panicked (flawC err) ∧ Touch (fun _ => False) w' w'') :
  Calls Tryz.prog 176 #[v] w fun e w' => e = .returned (.tuple #[.agg #[.int .u16 0, .int .u8 0, .int .u8 0, .int .u32 0, .int .u32 0, .int .i32 0, .int .u16 0, .int .u16 0, .slice none 0 0], .int .i64 0, .int .i64 err]) ∧ Touch (fun _ => False) w w' := by
 obtain ⟨va, vc, rfl, hm⟩ := hv.form
 have hmf : ∀ (fn : Fn) (first cap : Array Value) (w : World), (Instr.makeFunc fn first cap).run Tryz.prog w = .ok (.func fn first cap) w := fun _ _ _ _ => rfl
 have HC := HC1 ((((w.alloc (.cells #[.slice va rs.length vc] 40)).alloc (.cells #[.int .u16 0, .int .u8 0, .int .u8 0, .int .u32 0, .int .u32 0, .int .i32 0, .int .u16 0, .int .u16 0, .slice none 0 0] 95)).alloc (.cells #[.int .u16 0, .int .u8 0, .int .u8 0, .int .u32 0, .int .u32 0, .int .i32 0, .int .u16 0, .int .u16 0, .slice none 0 0] 95)).alloc (.cells #[.int .i64 0] 41)) (((((Touch.refl _ w).alloc _).alloc _).alloc _).alloc _) (by simp [go_sem])
 clear HC1 hv
 have HF := faceS_no 187 #[.pointer (some ⟨w.heap.size, 0, none⟩)] (fun _ => rfl) ((w.alloc (.cells #[.slice va rs.length vc] 40)).alloc (.cells #[.int .u16 0, .int .u8 0, .int .u8 0, .int .u32 0, .int .u32 0, .int .i32 0, .int .u16 0, .int .u16 0, .slice none 0 0] 95)) err HC
 clear HC
 go_enter Tryz.func176, Tryz.ntmps176
 go_wp2_with fail
 refine Calls.mono HF ?_
 rintro e w1 ⟨rfl, t1⟩
 clear HF hmf
 have R1 : Room w1 (w.heap.size + 1) 9 := by
  have := (Room.new (w.alloc (.cells #[.slice va rs.length vc] 40)) #[.int .u16 0, .int .u8 0, .int .u8 0, .int .u32 0, .int .u32 0, .int .i32 0, .int .u16 0, .int .u16 0, .slice none 0 0] 95).keep t1
  simpa using this
 obtain ⟨zz0, zc0, zf0⟩ := R1 0 (by omega)
 obtain ⟨zz1, zc1, zf1⟩ := R1 1 (by omega)
 obtain ⟨zz2, zc2, zf2⟩ := R1 2 (by omega)
 obtain ⟨zz3, zc3, zf3⟩ := R1 3 (by omega)
 obtain ⟨zz4, zc4, zf4⟩ := R1 4 (by omega)
 obtain ⟨zz5, zc5, zf5⟩ := R1 5 (by omega)
 obtain ⟨zz6, zc6, zf6⟩ := R1 6 (by omega)
 obtain ⟨zz7, zc7, zf7⟩ := R1 7 (by omega)
 obtain ⟨zz8, zc8, zf8⟩ := R1 8 (by omega)
 obtain ⟨w3, hw3⟩ : ∃ w3, w3 = (((((((((w1.setCell ⟨(w.heap.size + 1), 0, none⟩ (.int .u16 0)).setCell ⟨(w.heap.size + 1), 1, none⟩ (.int .u8 0)).setCell ⟨(w.heap.size + 1), 2, none⟩ (.int .u8 0)).setCell ⟨(w.heap.size + 1), 3, none⟩ (.int .u32 0)).setCell ⟨(w.heap.size + 1), 4, none⟩ (.int .u32 0)).setCell ⟨(w.heap.size + 1), 5, none⟩ (.int .i32 0)).setCell ⟨(w.heap.size + 1), 6, none⟩ (.int .u16 0)).setCell ⟨(w.heap.size + 1), 7, none⟩ (.int .u16 0)).setCell ⟨(w.heap.size + 1), 8, none⟩ (.slice none 0 0)) := ⟨_, rfl⟩
 have xd0 : w3.cell? ⟨w.heap.size + 1, 0, none⟩ = some (.int .u16 0) := by rw [hw3]; simp [zc0, go_sem]
 have xd1 : w3.cell? ⟨w.heap.size + 1, 1, none⟩ = some (.int .u8 0) := by rw [hw3]; simp [zc1, go_sem]
 have xd2 : w3.cell? ⟨w.heap.size + 1, 2, none⟩ = some (.int .u8 0) := by rw [hw3]; simp [zc2, go_sem]
 have xd3 : w3.cell? ⟨w.heap.size + 1, 3, none⟩ = some (.int .u32 0) := by rw [hw3]; simp [zc3, go_sem]
 have xd4 : w3.cell? ⟨w.heap.size + 1, 4, none⟩ = some (.int .u32 0) := by rw [hw3]; simp [zc4, go_sem]
 have xd5 : w3.cell? ⟨w.heap.size + 1, 5, none⟩ = some (.int .i32 0) := by rw [hw3]; simp [zc5, go_sem]
 have xd6 : w3.cell? ⟨w.heap.size + 1, 6, none⟩ = some (.int .u16 0) := by rw [hw3]; simp [zc6, go_sem]
 have xd7 : w3.cell? ⟨w.heap.size + 1, 7, none⟩ = some (.int .u16 0) := by rw [hw3]; simp [zc7, go_sem]
 have xd8 : w3.cell? ⟨w.heap.size + 1, 8, none⟩ = some (.slice none 0 0) := by rw [hw3]; simp [zc8, go_sem]
 have R3 : Hid (Room w3 (w.heap.size + 1) 9) := by show Room _ _ _; rw [hw3]; exact (((((((((R1.set 0 _).set 1 _).set 2 _).set 3 _).set 4 _).set 5 _).set 6 _).set 7 _).set 8 _)
 have U3 : Hid (Touch (fun k => k = w.heap.size + 1) w1 w3) := by show Touch _ _ _; rw [hw3]; refine Touch.setCell (F := fun k => k = w.heap.size + 1) (p := ⟨w.heap.size + 1, 8, none⟩) ?_ (Or.inl rfl) _; refine Touch.setCell (F := fun k => k = w.heap.size + 1) (p := ⟨w.heap.size + 1, 7, none⟩) ?_ (Or.inl rfl) _; refine Touch.setCell (F := fun k => k = w.heap.size + 1) (p := ⟨w.heap.size + 1, 6, none⟩) ?_ (Or.inl rfl) _; refine Touch.setCell (F := fun k => k = w.heap.size + 1) (p := ⟨w.heap.size + 1, 5, none⟩) ?_ (Or.inl rfl) _; refine Touch.setCell (F := fun k => k = w.heap.size + 1) (p := ⟨w.heap.size + 1, 4, none⟩) ?_ (Or.inl rfl) _; refine Touch.setCell (F := fun k => k = w.heap.size + 1) (p := ⟨w.heap.size + 1, 3, none⟩) ?_ (Or.inl rfl) _; refine Touch.setCell (F := fun k => k = w.heap.size + 1) (p := ⟨w.heap.size + 1, 2, none⟩) ?_ (Or.inl rfl) _; refine Touch.setCell (F := fun k => k = w.heap.size + 1) (p := ⟨w.heap.size + 1, 1, none⟩) ?_ (Or.inl rfl) _; refine Touch.setCell (F := fun k => k = w.heap.size + 1) (p := ⟨w.heap.size + 1, 0, none⟩) ?_ (Or.inl rfl) _; exact Touch.refl _ _
 have HT1 : Hid (Touch (fun _ => False) ((w.alloc (.cells #[.slice va rs.length vc] 40)).alloc (.cells #[.int .u16 0, .int .u8 0, .int .u8 0, .int .u32 0, .int .u32 0, .int .i32 0, .int .u16 0, .int .u16 0, .slice none 0 0] 95)) w1) := t1
 have HW3 : Hid (w3 = (((((((((w1.setCell ⟨(w.heap.size + 1), 0, none⟩ (.int .u16 0)).setCell ⟨(w.heap.size + 1), 1, none⟩ (.int .u8 0)).setCell ⟨(w.heap.size + 1), 2, none⟩ (.int .u8 0)).setCell ⟨(w.heap.size + 1), 3, none⟩ (.int .u32 0)).setCell ⟨(w.heap.size + 1), 4, none⟩ (.int .u32 0)).setCell ⟨(w.heap.size + 1), 5, none⟩ (.int .i32 0)).setCell ⟨(w.heap.size + 1), 6, none⟩ (.int .u16 0)).setCell ⟨(w.heap.size + 1), 7, none⟩ (.int .u16 0)).setCell ⟨(w.heap.size + 1), 8, none⟩ (.slice none 0 0))) := hw3
 clear hw3 t1 R1
 go_upto_region 2 with fail
 rw [← HW3.out]
 clear HW3 zc0 zf0 zc1 zf1 zc2 zf2 zc3 zf3 zc4 zf4 zc5 zf5 zc6 zf6 zc7 zf7 zc8 zf8
 have HTA : Hid (Touch (fun _ => False) w ((w.alloc (.cells #[.slice va rs.length vc] 40)).alloc (.cells #[.int .u16 0, .int .u8 0, .int .u8 0, .int .u32 0, .int .u32 0, .int .i32 0, .int .u16 0, .int .u16 0, .slice none 0 0] 95))) := ((Touch.refl _ w).alloc _).alloc _
 generalize hg : w.heap.size + 1 = g at *
 have HG : Hid (w.heap.size + 1 = g) := hg
 clear hg
 obtain ⟨zz0, zc0, zf0⟩ := R3.out 0 (by omega)
 obtain ⟨zz1, zc1, zf1⟩ := R3.out 1 (by omega)
 obtain ⟨zz2, zc2, zf2⟩ := R3.out 2 (by omega)
 obtain ⟨zz3, zc3, zf3⟩ := R3.out 3 (by omega)
 obtain ⟨zz4, zc4, zf4⟩ := R3.out 4 (by omega)
 obtain ⟨zz5, zc5, zf5⟩ := R3.out 5 (by omega)
 obtain ⟨zz6, zc6, zf6⟩ := R3.out 6 (by omega)
 obtain ⟨zz7, zc7, zf7⟩ := R3.out 7 (by omega)
 obtain ⟨zz8, zc8, zf8⟩ := R3.out 8 (by omega)
 obtain ⟨wz, hwz⟩ : ∃ wz, wz = (((((((((w3.setCell ⟨g, 0, none⟩ (.int .u16 0)).setCell ⟨g, 1, none⟩ (.int .u8 0)).setCell ⟨g, 2, none⟩ (.int .u8 0)).setCell ⟨g, 3, none⟩ (.int .u32 0)).setCell ⟨g, 4, none⟩ (.int .u32 0)).setCell ⟨g, 5, none⟩ (.int .i32 0)).setCell ⟨g, 6, none⟩ (.int .u16 0)).setCell ⟨g, 7, none⟩ (.int .u16 0)).setCell ⟨g, 8, none⟩ (.slice none 0 0)) := ⟨_, rfl⟩
 have zd0 : wz.cell? ⟨g, 0, none⟩ = some (.int .u16 0) := by rw [hwz]; simp [zc0, go_sem]
 have zd1 : wz.cell? ⟨g, 1, none⟩ = some (.int .u8 0) := by rw [hwz]; simp [zc1, go_sem]
 have zd2 : wz.cell? ⟨g, 2, none⟩ = some (.int .u8 0) := by rw [hwz]; simp [zc2, go_sem]
 have zd3 : wz.cell? ⟨g, 3, none⟩ = some (.int .u32 0) := by rw [hwz]; simp [zc3, go_sem]
 have zd4 : wz.cell? ⟨g, 4, none⟩ = some (.int .u32 0) := by rw [hwz]; simp [zc4, go_sem]
 have zd5 : wz.cell? ⟨g, 5, none⟩ = some (.int .i32 0) := by rw [hwz]; simp [zc5, go_sem]
 have zd6 : wz.cell? ⟨g, 6, none⟩ = some (.int .u16 0) := by rw [hwz]; simp [zc6, go_sem]
 have zd7 : wz.cell? ⟨g, 7, none⟩ = some (.int .u16 0) := by rw [hwz]; simp [zc7, go_sem]
 have zd8 : wz.cell? ⟨g, 8, none⟩ = some (.slice none 0 0) := by rw [hwz]; simp [zc8, go_sem]
 have HUz : Hid (Touch (fun k => k = g) w3 wz) := by show Touch _ _ _; rw [hwz]; refine Touch.setCell (F := fun k => k = g) (p := ⟨g, 8, none⟩) ?_ (Or.inl rfl) _; refine Touch.setCell (F := fun k => k = g) (p := ⟨g, 7, none⟩) ?_ (Or.inl rfl) _; refine Touch.setCell (F := fun k => k = g) (p := ⟨g, 6, none⟩) ?_ (Or.inl rfl) _; refine Touch.setCell (F := fun k => k = g) (p := ⟨g, 5, none⟩) ?_ (Or.inl rfl) _; refine Touch.setCell (F := fun k => k = g) (p := ⟨g, 4, none⟩) ?_ (Or.inl rfl) _; refine Touch.setCell (F := fun k => k = g) (p := ⟨g, 3, none⟩) ?_ (Or.inl rfl) _; refine Touch.setCell (F := fun k => k = g) (p := ⟨g, 2, none⟩) ?_ (Or.inl rfl) _; refine Touch.setCell (F := fun k => k = g) (p := ⟨g, 1, none⟩) ?_ (Or.inl rfl) _; refine Touch.setCell (F := fun k => k = g) (p := ⟨g, 0, none⟩) ?_ (Or.inl rfl) _; exact Touch.refl _ _
 have HWz : Hid (wz = (((((((((w3.setCell ⟨g, 0, none⟩ (.int .u16 0)).setCell ⟨g, 1, none⟩ (.int .u8 0)).setCell ⟨g, 2, none⟩ (.int .u8 0)).setCell ⟨g, 3, none⟩ (.int .u32 0)).setCell ⟨g, 4, none⟩ (.int .u32 0)).setCell ⟨g, 5, none⟩ (.int .i32 0)).setCell ⟨g, 6, none⟩ (.int .u16 0)).setCell ⟨g, 7, none⟩ (.int .u16 0)).setCell ⟨g, 8, none⟩ (.slice none 0 0))) := hwz
 clear hwz
 go_wp2_with fail
 rw [← HWz.out]
 clear HWz zc0 zf0 zc1 zf1 zc2 zf2 zc3 zf3 zc4 zf4 zc5 zf5 zc6 zf6 zc7 zf7 zc8 zf8
 refine bodyPost_ret (v := .tuple #[.agg #[.int .u16 0, .int .u8 0, .int .u8 0, .int .u32 0, .int .u32 0, .int .i32 0, .int .u16 0, .int .u16 0, .slice none 0 0], .int .i64 0, .int .i64 err]) (by simp [results, Tryz.results176, go_sem, zd0, zd1, zd2, zd3, zd4, zd5, zd6, zd7, zd8]) rfl ?_
 refine ⟨rfl, ?_⟩
 exact ((HTA.out.trans HT1.out).trans' U3.out (fun i hi e => by have := HG.out; omega)).trans' HUz.out (fun i hi e => by have := HG.out; omega)
/-- What Read tells of bytes that it refuses. -/
def readE (rs : List Int) : Int := if rs.length < 20 then 10 else if (rdHead (rs.take 20)).len < 20 then 22 else if (rs.length : Int) < (rdHead (rs.take 20)).len then 10 else 0
theorem read_bad (v : Value) (rs : List Int) (w : World) (hv : ArgAt w v rs) (hby : ∀ z ∈ rs, 0 ≤ z ∧ z < 256) (hl2 : rs.length ≤ 1099511627776) (he : readE rs ≠ 0) :
  Calls Tryz.prog 176 #[v] w fun e w' => e = .returned (.tuple #[.agg #[.int .u16 0, .int .u8 0, .int .u8 0, .int .u32 0, .int .u32 0, .int .i32 0, .int .u16 0, .int .u16 0, .slice none 0 0], .int .i64 0, .int .i64 (readE rs)]) ∧ Touch (fun _ => False) w w' := by
 by_cases h1 : rs.length < 20
 ·have e : readE rs = 10 := by simp [readE, h1]
  rw [e]
  exact read_no v rs 10 w hv (fun w' t hc => read1_short _ v rs w' hc (hv.keepN t) hby h1)
 ·by_cases h2 : (rdHead (rs.take 20)).len < 20
  ·have e : readE rs = 22 := by simp [readE, h1, h2]
   rw [e]
   exact read_no v rs 22 w hv (fun w' t hc => read1_low _ v rs w' hc (hv.keepN t) hby (by omega) hl2 h2)
  ·by_cases h3 : (rs.length : Int) < (rdHead (rs.take 20)).len
   ·have e : readE rs = 10 := by simp [readE, h1, h2, h3]
    rw [e]
    exact read_no v rs 10 w hv (fun w' t hc => read1_miss _ v rs w' hc (hv.keepN t) hby (by omega) hl2 (by omega) h3)
   ·simp [readE, h1, h2, h3] at he
end Go.Proofs.YtbfplepmgbkajaaGreatDoor

namespace Go.Proofs.YtbfplepmgbkajaaGreatDoor
open Go.RowKit
set_option linter.unusedVariables false
set_option maxRecDepth 100000

theorem list20 {l : List Int} (h : l.length = 20) : ∃ a b c d e f g i j k m n o p q r s t u v, l = [a, b, c, d, e, f, g, i, j, k, m, n, o, p, q, r, s, t, u, v] := by
 match l, h with
 | [a, b, c, d, e, f, g, i, j, k, m, n, o, p, q, r, s, t, u, v], _ => exact ⟨a, b, c, d, e, f, g, i, j, k, m, n, o, p, q, r, s, t, u, v, rfl⟩
theorem wrap32_mod {x : Int} (h0 : 0 ≤ x) (h1 : x < 4294967296) : IntKind.i32.wrap x % 4294967296 = x := by
 simp [IntKind.wrap, IntKind.bits, IntKind.signed]
 omega
theorem headB_rdHead {l : List Int} (hl : l.length = 20) (hb : ∀ z ∈ l, 0 ≤ z ∧ z < 256) : headB (rdHead l) = l := by
 obtain ⟨a, b, c, d, e, f, g, i, j, k, m, n, o, p, q, r, s, t, u, v, rfl⟩ := list20 hl
 simp only [List.mem_cons, List.not_mem_nil, or_false, forall_eq_or_imp, forall_eq] at hb
 obtain ⟨ha, hb, hc, hd, he, hf, hg, hi, hj, hk, hm, hn, ho, hp, hq, hr, hs, ht, hu, hv⟩ := hb
 have e1 : rdHead [a, b, c, d, e, f, g, i, j, k, m, n, o, p, q, r, s, t, u, v] = ⟨numOf [a, b], c, d, numOf [e, f, g, i], numOf [j, k, m, n], IntKind.i32.wrap (numOf [o, p, q, r]), numOf [s, t], numOf [u, v]⟩ := by
  simp [rdHead, numAt, nextAt, numOf1]
 have hw := four_ok ho hp hq hr
 rw [e1]
 unfold headB
 dsimp only
 rw [wrap32_mod hw.1 hw.2, numBytes_two a b ha hb, numBytes_four e f g i he hf hg hi, numBytes_four j k m n hj hk hm hn, numBytes_four o p q r ho hp hq hr, numBytes_two s t hs ht, numBytes_two u v hu hv]
 rfl
theorem rdHead_all {l : List Int} (hb : ∀ z ∈ l, 0 ≤ z ∧ z < 256) : (rdHead l).All := by
 have b1 : ∀ q, 0 ≤ numAt l q 1 ∧ numAt l q 1 < 256 := fun q => by have := numAt_bound hb q 1; omega
 have b2 : ∀ q, 0 ≤ numAt l q 2 ∧ numAt l q 2 < 65536 := fun q => by have := numAt_bound hb q 2; omega
 have b4 : ∀ q, 0 ≤ numAt l q 4 ∧ numAt l q 4 < 4294967296 := fun q => by have := numAt_bound hb q 4; omega
 have b5 : ∀ x : Int, -2147483648 ≤ IntKind.i32.wrap x ∧ IntKind.i32.wrap x ≤ 2147483647 := fun x => by simp [IntKind.wrap, IntKind.bits, IntKind.signed]; omega
 unfold rdHead
 constructor
 ·dsimp only; exact b2 _
 ·dsimp only; exact b1 _
 ·dsimp only; exact b1 _
 ·dsimp only; exact b4 _
 ·dsimp only; exact b4 _
 ·dsimp only; exact b5 _
 ·dsimp only; exact b2 _
 ·dsimp only; exact b2 _
theorem readE_zero {rs : List Int} (e : readE rs = 0) : 20 ≤ rs.length ∧ 20 ≤ (rdHead (rs.take 20)).len ∧ (rdHead (rs.take 20)).len ≤ (rs.length : Int) := by
 unfold readE at e
 split at e
 ·omega
 ·split at e
  ·omega
  ·split at e
   ·omega
   ·omega
end Go.Proofs.YtbfplepmgbkajaaGreatDoor

namespace Go.Proofs.YtbfplepmgbkajaaGreatDoor
open Go.RowKit
set_option linter.unusedVariables false
set_option maxRecDepth 100000

/-- A state: its head and its body's bytes. -/
abbrev ST := HV × List Int
def SE.p (x : SE) : ST := (x.h, x.rs)
def stP (x : ST) : List Int := headB x.1 ++ x.2
def stsP (l : List ST) : List Int := l.flatMap stP
theorem stsP_snoc (l : List ST) (x : ST) : stsP (l ++ [x]) = stsP l ++ stP x := by simp [stsP]
/-- A packet whole. -/
structure PkC where
 P : PV
 nb : List Int
 dh : List HV
 ks : List KV
 ss : List ST
 hs : List HV
/-- Its parts fit their kinds. -/
structure PkC.Ok (C : PkC) : Prop where
 P : C.P.Ok
 nb : ∀ x ∈ C.nb, 0 ≤ x ∧ x < 4294967296
 dh : ∀ h ∈ C.dh, h.All
 ks : ∀ k ∈ C.ks, k.All
 sh : ∀ s ∈ C.ss, s.1.All
 sb : ∀ s ∈ C.ss, ∀ z ∈ s.2, 0 ≤ z ∧ z < 256
 hs : ∀ h ∈ C.hs, h.All
/-- Has it something of a Hello; of a Description. -/
def hasH (C : PkC) : Bool := decide (C.P.iv ≠ 0 ∨ C.P.dead ≠ 0 ∨ C.P.dr ≠ 0 ∨ C.P.bdr ≠ 0 ∨ 0 < C.nb.length ∨ C.P.mask ≠ 0 ∨ C.P.opts ≠ 0 ∨ C.P.prio ≠ 0)
def hasD (C : PkC) : Bool := decide (C.P.mtu ≠ 0 ∨ C.P.dopts ≠ 0 ∨ C.P.dflags ≠ 0 ∨ C.P.dseq ≠ 0 ∨ 0 < C.dh.length)
/-- It has nothing but what its type has. -/
structure PAlone (C : PkC) : Prop where
 h : C.P.typ ≠ 1 → hasH C = false
 d : C.P.typ ≠ 2 → hasD C = false
 k : C.P.typ ≠ 3 → C.ks = []
 s : C.P.typ ≠ 4 → C.ss = []
 a : C.P.typ ≠ 5 → C.hs = []
/-- The bytes behind the head. -/
def pbodyB (C : PkC) : List Int := if C.P.typ = 1 then helloB C.P ++ wordsB C.nb else if C.P.typ = 2 then descB C.P ++ headsB C.dh else if C.P.typ = 3 then keysB C.ks else if C.P.typ = 4 then numBytes 4 (C.ss.length : Int) ++ stsP C.ss else headsB C.hs
def pmeas (C : PkC) : Bool := C.ss.all fun s => decide (s.1.len = 20 + (s.2.length : Int))
open Classical in
/-- What Encode finds wrong. -/
noncomputable def pencE (C : PkC) (A : AuV) : Int := if ¬ (1 ≤ C.P.typ ∧ C.P.typ ≤ 5) then 21 else if ¬ PAlone C then 24 else if pmeas C = false then 22 else if 2 < A.kind then 25 else if 65535 < 24 + (pbodyB C).length then 11 else 0
noncomputable def pencB (C : PkC) (A : AuV) : List Int := if pencE C A = 0 then sealedB A.kind (pheadB C.P A ++ pbodyB C) else []
/-- Where nothing is. -/
structure PEnc (C : PkC) (A : AuV) : Prop where
 t : 1 ≤ C.P.typ ∧ C.P.typ ≤ 5
 a : PAlone C
 m : pmeas C = true
 k : A.kind ≤ 2
 l : 24 + (pbodyB C).length ≤ 65535
theorem pencE_ok {C : PkC} {A : AuV} (h : pencE C A = 0) : PEnc C A := by
 unfold pencE at h
 by_cases h1 : 1 ≤ C.P.typ ∧ C.P.typ ≤ 5
 ·rw [if_neg (fun g => g h1)] at h
  by_cases h2 : PAlone C
  ·rw [if_neg (fun g => g h2)] at h
   by_cases h3 : pmeas C = false
   ·rw [if_pos h3] at h; omega
   ·rw [if_neg h3] at h
    by_cases h4 : 2 < A.kind
    ·rw [if_pos h4] at h; omega
    ·rw [if_neg h4] at h
     by_cases h5 : 65535 < 24 + (pbodyB C).length
     ·rw [if_pos h5] at h; omega
     ·exact ⟨h1, h2, by simpa using h3, by omega, by omega⟩
  ·rw [if_pos h2] at h; omega
 ·rw [if_pos h1] at h; omega
theorem PEnc.zero {C : PkC} {A : AuV} (h : PEnc C A) : pencE C A = 0 := by
 unfold pencE
 rw [if_neg (fun g => g h.t), if_neg (fun g => g h.a), if_neg (by rw [h.m]; simp), if_neg (by have := h.k; omega), if_neg (by have := h.l; omega)]
def PV.zero : PV := ⟨0, 0, 0, 0, 0, 0, 0, 0, 0, 0, 0, 0, 0, 0⟩
def AuV.zero : AuV := ⟨0, 0, 0, 0, 0, 0, 0, 0, 0⟩
def PkC.zero : PkC := ⟨PV.zero, [], [], [], [], []⟩
/-- The head that bytes tell. -/
def pv0 (rs : List Int) : PV := { PV.zero with typ := rs.getD 1 0, router := numOf ((rs.drop 4).take 4), area := numOf ((rs.drop 8).take 4) }
def au0 (rs : List Int) : AuV := ⟨numOf ((rs.drop 14).take 2), rs.getD 16 0, rs.getD 17 0, rs.getD 18 0, rs.getD 19 0, rs.getD 20 0, rs.getD 21 0, rs.getD 22 0, rs.getD 23 0⟩
/-- One key of twelve bytes. -/
def rdKey (c : List Int) : KV := ⟨numOf (c.take 4), numOf ((c.drop 4).take 4), numOf ((c.drop 8).take 4)⟩
/-- So many states from the beginning of bytes, and what is left. -/
def rdPre : Nat → List Int → Option (List ST × List Int)
 | 0, c => some ([], c)
 | n + 1, c => match rdPre n c with
  | some (l, r) => if readE r = 0 then some (l ++ [(rdHead (r.take 20), (r.drop 20).take ((rdHead (r.take 20)).len.toNat - 20))], r.drop (rdHead (r.take 20)).len.toNat) else none
  | none => none
def rdAll (c : List Int) : Option (List ST) := match rdPre (numOf (c.take 4)).toNat (c.drop 4) with
 | some (l, []) => some l
 | _ => none
/-- What is wrong with the bytes behind the head. -/
def ppartE (t : Int) (c : List Int) : Int :=
 if t = 1 then (if 20 ≤ c.length ∧ c.length % 4 = 0 then 0 else 22)
 else if t = 2 then (if 8 ≤ c.length ∧ (c.length - 8) % 20 = 0 then 0 else 22)
 else if t = 3 then (if c.length % 12 = 0 then (if (cuts 12 rdKey c).all (fun k => decide (k.typ ≤ 255)) then 0 else 24) else 22)
 else if t = 4 then (if 4 ≤ c.length ∧ (rdAll c).isSome then 0 else 22)
 else (if c.length % 20 = 0 then 0 else 22)
/-- What they say. -/
def ppartC (P : PV) (c : List Int) : PkC :=
 if P.typ = 1 then ⟨{ P with mask := numOf (c.take 4), iv := numOf ((c.drop 4).take 2), opts := c.getD 6 0, prio := c.getD 7 0, dead := numOf ((c.drop 8).take 4), dr := numOf ((c.drop 12).take 4), bdr := numOf ((c.drop 16).take 4) }, cuts 4 numOf (c.drop 20), [], [], [], []⟩
 else if P.typ = 2 then ⟨{ P with mtu := numOf (c.take 2), dopts := c.getD 2 0, dflags := c.getD 3 0, dseq := numOf ((c.drop 4).take 4) }, [], cuts 20 rdHead (c.drop 8), [], [], []⟩
 else if P.typ = 3 then ⟨P, [], [], cuts 12 rdKey c, [], []⟩
 else if P.typ = 4 then ⟨P, [], [], [], (rdAll c).getD [], []⟩
 else ⟨P, [], [], [], [], cuts 20 rdHead c⟩
/-- The bytes behind the head, up to the length. -/
def pbehind (rs : List Int) : List Int := (rs.take (pTold rs).toNat).drop 24
/-- What Decode finds wrong. -/
def pdecE (rs : List Int) : Int :=
 if pLenE rs ≠ 0 then pLenE rs else if 2 < (au0 rs).kind then 25 else if (au0 rs).kind ≠ 2 ∧ (rs.length : Int) ≠ pTold rs then 22 else if (au0 rs).kind ≠ 2 ∧ pRight rs = false then 23 else ppartE (rs.getD 1 0) (pbehind rs)
def pdecC (rs : List Int) : PkC := if pdecE rs = 0 then ppartC (pv0 rs) (pbehind rs) else PkC.zero
def pdecA (rs : List Int) : AuV := if pdecE rs = 0 then au0 rs else AuV.zero
structure PDec (rs : List Int) : Prop where
 l : PLen rs
 k : (au0 rs).kind ≤ 2
 n : (au0 rs).kind ≠ 2 → (rs.length : Int) = pTold rs
 r : (au0 rs).kind ≠ 2 → pRight rs = true
 p : ppartE (rs.getD 1 0) (pbehind rs) = 0
theorem pdecE_ok {rs : List Int} (h : pdecE rs = 0) : PDec rs := by
 unfold pdecE at h
 by_cases h1 : pLenE rs = 0
 ·rw [if_neg (fun g => g h1)] at h
  by_cases h2 : 2 < (au0 rs).kind
  ·rw [if_pos h2] at h; omega
  ·rw [if_neg h2] at h
   by_cases h3 : (au0 rs).kind ≠ 2 ∧ (rs.length : Int) ≠ pTold rs
   ·rw [if_pos h3] at h; omega
   ·rw [if_neg h3] at h
    by_cases h4 : (au0 rs).kind ≠ 2 ∧ pRight rs = false
    ·rw [if_pos h4] at h; omega
    ·rw [if_neg h4] at h
     refine ⟨pLenE_ok h1, by omega, fun g => ?_, fun g => ?_, h⟩
     ·by_cases g2 : (rs.length : Int) = pTold rs
      ·exact g2
      ·exact (h3 ⟨g, g2⟩).elim
     ·by_cases g2 : pRight rs = true
      ·exact g2
      ·exact (h4 ⟨g, by simpa using g2⟩).elim
 ·rw [if_pos h1] at h; exact (h1 h).elim
/-- States that are read were laid so. -/
theorem rdPre_back : ∀ (n : Nat) (c : List Int) (l : List ST) (r : List Int), (∀ z ∈ c, 0 ≤ z ∧ z < 256) → rdPre n c = some (l, r) →
  c = stsP l ++ r ∧ l.length = n ∧ (∀ s ∈ l, s.1.All ∧ s.1.len = 20 + (s.2.length : Int) ∧ ∀ z ∈ s.2, 0 ≤ z ∧ z < 256)
 | 0, c, l, r, _, h => by
  obtain ⟨rfl, rfl⟩ : [] = l ∧ c = r := by simpa [rdPre] using h
  simp [stsP]
 | n + 1, c, l, r, hb, h => by
  rw [rdPre] at h
  match hp : rdPre n c, h with
  | some (l1, r1), h =>
   obtain ⟨e1, e2, e3⟩ := rdPre_back n c l1 r1 hb hp
   have hr : ∀ z ∈ r1, 0 ≤ z ∧ z < 256 := fun z hz => hb z (by rw [e1]; exact List.mem_append_right _ hz)
   by_cases hE : readE r1 = 0
   ·simp only [hE, if_true, Option.some.injEq, Prod.mk.injEq] at h
    obtain ⟨rfl, rfl⟩ := h
    obtain ⟨z1, z2, z3⟩ := readE_zero hE
    have hl20 : (r1.take 20).length = 20 := by rw [List.length_take]; omega
    have hb20 : ∀ z ∈ r1.take 20, 0 ≤ z ∧ z < 256 := fun z hz => hr z (List.mem_of_mem_take hz)
    have hh := headB_rdHead hl20 hb20
    have hA := rdHead_all hb20
    generalize rdHead (r1.take 20) = H at *
    have hll : ((r1.drop 20).take (H.len.toNat - 20)).length = H.len.toNat - 20 := by rw [List.length_take, List.length_drop]; omega
    refine ⟨?_, by simp; omega, ?_⟩
    ·rw [stsP_snoc, List.append_assoc, e1]
     congr 1
     show r1 = stP (H, _) ++ _
     unfold stP
     dsimp only
     rw [hh, List.append_assoc]
     have h1 : (r1.drop 20).take (H.len.toNat - 20) ++ r1.drop H.len.toNat = r1.drop 20 := by
      have := List.take_append_drop (H.len.toNat - 20) (r1.drop 20)
      rw [List.drop_drop, show 20 + (H.len.toNat - 20) = H.len.toNat by omega] at this
      exact this
     rw [h1, List.take_append_drop]
    ·intro s hs
     rcases List.mem_append.1 hs with hs | hs
     ·exact e3 s hs
     ·obtain rfl := List.mem_singleton.1 hs
      exact ⟨hA, by dsimp only; rw [hll]; omega, fun z hz => hr z (List.mem_of_mem_drop (List.mem_of_mem_take hz))⟩
   ·simp only [hE, if_false] at h
    cases h
  | none, h => cases h
theorem rdPre_none {n : Nat} {c : List Int} (h : rdPre n c = none) : ∀ m, n ≤ m → rdPre m c = none
 | 0, hm => by
  obtain rfl : n = 0 := by omega
  exact h
 | m + 1, hm => by
  by_cases e : n = m + 1
  ·subst e; exact h
  ·rw [rdPre, rdPre_none h m (by omega)]
end Go.Proofs.YtbfplepmgbkajaaGreatDoor
