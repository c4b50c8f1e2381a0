/- The document's side of stage 7: number, Length, summed, Right. -/
import Derived.Test.YtbfplepmgbkajaaGreatDoorSumWords3
import Derived.Test.YtbfplepmgbkajaaGreatDoorRefSum
import Derived.Test.YtbfplepmgbkajaaGreatDoorStRd3
import Derived.Deep.RegionHeld3
import Derived.Deep.DeepCutAuto
import Derived.Test.YtbfplepmgbkajaaGreatDoorPkEq
import Derived.Deep.QuietTactic
import Derived.BigQuiet
namespace Go.Proofs.YtbfplepmgbkajaaGreatDoor
open Go.RowKit
set_option linter.unusedVariables false
set_option maxRecDepth 100000

theorem pnumber_any (v : Value) (rs : List Int) (w : World) (hv : ArgAt w v rs) (hby : ∀ x ∈ rs, 0 ≤ x ∧ x < 256) (hl : rs.length ≤ 4) :
  Calls Tryz.prog 73 #[v] w fun e w' => e = .returned (.int .u32 (numOf rs)) ∧ w = w' := by
 obtain ⟨va, vc, rfl, hm⟩ := hv.form
 have HV : Hid (ArgAt w (.slice va rs.length vc) rs) := hv
 clear hv
 go_enter Tryz.func73, Tryz.ntmps73
 go_wp2
 go_loopw [3, 4] (fun s i wr => ∃ (j : Nat) (n : Int), j ≤ rs.length ∧ i = .int .i64 (j : Int) ∧ s = .int .u32 n ∧ Hid (n = numOf (rs.take j)) ∧ wr = w) (fun _ i _ => rs.length - (intOf i).toNat)
 case atStart => exact ⟨0, 0, Nat.zero_le _, rfl, rfl, rfl, rfl⟩
 case round =>
  obtain ⟨j, n, hj, rfl, rfl, HN, rfl⟩ := hrel
  have hnb := numOf_bound (rs.take j) (fun z hz => hby z (List.mem_of_mem_take hz))
  rw [← HN.out] at hnb
  rcases Nat.lt_or_ge j rs.length with hlt | hge
  ·have hlt' : (j : Int) < (rs.length : Int) := by omega
   obtain ⟨g, off, c, e, h1, h2, h3⟩ := HV.out.vals.cells (by omega) (by decide)
   obtain ⟨rfl, _, rfl⟩ : va = some ⟨g, off, none⟩ ∧ True ∧ vc = c := by cases e; exact ⟨rfl, trivial, rfl⟩
   have hc : wr.cell? ⟨g, off + j, none⟩ = some (.int .u8 (rs.getD j 0)) := h3 j _ (by simp [bytesOf, List.getD, hlt])
   have hz := hby (rs.getD j 0) (by simp [List.getD, hlt])
   have hs : Hid (256 * n + rs.getD j 0 = numOf (rs.take (j + 1))) := by show _ = _; rw [take_next' hlt, numOf_snoc, HN.out]
   have hp := pow256 (k := (rs.take j).length) (by simp; omega)
   have hn1 : n < 16777216 := by omega
   obtain ⟨hn0, -⟩ := hnb
   generalize rs.getD j 0 = z at hc hz hs
   obtain ⟨hz0, hz1⟩ := hz
   clear h3 e HN hp
   go_wp2
   go_roundw
   case rel => exact ⟨j + 1, _, by omega, by go_num, rfl, hs, trivial⟩
   case measure => simp [intOf]; omega
  ·obtain rfl : j = rs.length := by omega
   have hlt' : ¬ (rs.length : Int) < (rs.length : Int) := by omega
   have HE : Hid (n = numOf rs) := by show _ = _; rw [HN.out, List.take_length]
   clear hnb HN
   go_wp2
   go_ret
   rw [← HE.out]
   exact ⟨rfl, rfl⟩

set_option maxHeartbeats 1000000 in
theorem dlen_short (va : Option Addr) (vc : Nat) (rs : List Int) (w : World) (hv : ArgAt w (.slice va rs.length vc) rs) (hby : ∀ z ∈ rs, 0 ≤ z ∧ z < 256) (hl : rs.length < 24) :
  Calls Tryz.prog 20 #[.slice va rs.length vc] w fun e w' => e = .returned (.tuple #[.int .i64 0, .int .i64 10]) ∧ ∃ n : Nat, w' = w.drewN n := by
 have h1 : (rs.length : Int) < 24 := by omega
 clear hv hby
 go_enter Tryz.func20, Tryz.ntmps20
 go_wp2
 go_ret2
 exact ⟨rfl, 0, rfl⟩

set_option maxHeartbeats 1000000 in
theorem dlen_vers (va : Option Addr) (vc : Nat) (rs : List Int) (w : World) (hv : ArgAt w (.slice va rs.length vc) rs) (hby : ∀ z ∈ rs, 0 ≤ z ∧ z < 256) (hl : 24 ≤ rs.length) (h2 : rs.getD 0 0 ≠ 2) :
  Calls Tryz.prog 20 #[.slice va rs.length vc] w fun e w' => e = .returned (.tuple #[.int .i64 0, .int .i64 20]) ∧ ∃ n : Nat, w' = w.drewN n := by
 have h1 : ¬ (rs.length : Int) < 24 := by omega
 obtain ⟨ga, oa, rfl⟩ := rowAt_some (hv.row (by omega)) (by omega)
 have b0 := rowAt_cell (hv.row (by omega)) 0 (by omega)
 have b1 := rowAt_cell (hv.row (by omega)) 1 (by omega)
 rw [Nat.add_zero] at b0
 have hi0 : (0 : Int) < (rs.length : Int) := by omega
 have hi1 : (1 : Int) < (rs.length : Int) := by omega
 have hj0 : 0 < rs.length := by omega
 have hj1 : 1 < rs.length := by omega
 generalize rs.getD 0 0 = m0 at *
 have hm : ((m0 : Int) != 2) = true := by simpa using h2
 have hm' : ((m0 : Int) == 2) = false := by simpa using h2
 clear hv hby b1
 go_enter Tryz.func20, Tryz.ntmps20
 go_wp2
 go_ret2
 exact ⟨rfl, 0, rfl⟩

set_option maxHeartbeats 1000000 in
theorem dlen_type1 (va : Option Addr) (vc : Nat) (rs : List Int) (w : World) (hv : ArgAt w (.slice va rs.length vc) rs) (hby : ∀ z ∈ rs, 0 ≤ z ∧ z < 256) (hl : 24 ≤ rs.length) (h2 : rs.getD 0 0 = 2) (h3 : rs.getD 1 0 < 1) :
  Calls Tryz.prog 20 #[.slice va rs.length vc] w fun e w' => e = .returned (.tuple #[.int .i64 0, .int .i64 21]) ∧ ∃ n : Nat, w' = w.drewN n := by
 have h1 : ¬ (rs.length : Int) < 24 := by omega
 obtain ⟨ga, oa, rfl⟩ := rowAt_some (hv.row (by omega)) (by omega)
 have b0 := rowAt_cell (hv.row (by omega)) 0 (by omega)
 have b1 := rowAt_cell (hv.row (by omega)) 1 (by omega)
 rw [Nat.add_zero] at b0
 have hi0 : (0 : Int) < (rs.length : Int) := by omega
 have hi1 : (1 : Int) < (rs.length : Int) := by omega
 have hj0 : 0 < rs.length := by omega
 have hj1 : 1 < rs.length := by omega
 have hm : ((rs.getD 0 0 : Int) != 2) = false := by simpa using h2
 clear hv hby
 rw [h2] at b0
 clear hm h2
 generalize rs.getD 1 0 = m1 at *
 have h4 : (m1 : Int) < 1 := h3
 go_enter Tryz.func20, Tryz.ntmps20
 go_wp2
 go_ret2
 exact ⟨rfl, 0, rfl⟩

set_option maxHeartbeats 1000000 in
theorem dlen_type2 (va : Option Addr) (vc : Nat) (rs : List Int) (w : World) (hv : ArgAt w (.slice va rs.length vc) rs) (hby : ∀ z ∈ rs, 0 ≤ z ∧ z < 256) (hl : 24 ≤ rs.length) (h2 : rs.getD 0 0 = 2) (h3 : ¬ rs.getD 1 0 < 1) (h4 : 5 < rs.getD 1 0) :
  Calls Tryz.prog 20 #[.slice va rs.length vc] w fun e w' => e = .returned (.tuple #[.int .i64 0, .int .i64 21]) ∧ ∃ n : Nat, w' = w.drewN n := by
 have h1 : ¬ (rs.length : Int) < 24 := by omega
 obtain ⟨ga, oa, rfl⟩ := rowAt_some (hv.row (by omega)) (by omega)
 have b0 := rowAt_cell (hv.row (by omega)) 0 (by omega)
 have b1 := rowAt_cell (hv.row (by omega)) 1 (by omega)
 rw [Nat.add_zero] at b0
 have hi0 : (0 : Int) < (rs.length : Int) := by omega
 have hi1 : (1 : Int) < (rs.length : Int) := by omega
 have hj0 : 0 < rs.length := by omega
 have hj1 : 1 < rs.length := by omega
 have hm : ((rs.getD 0 0 : Int) != 2) = false := by simpa using h2
 clear hv hby
 rw [h2] at b0
 clear hm h2
 generalize rs.getD 1 0 = m1 at *
 have h5 : ¬ (m1 : Int) ≤ 5 := by omega
 go_enter Tryz.func20, Tryz.ntmps20
 go_wp2
 go_ret2
 exact ⟨rfl, 0, rfl⟩

set_option maxHeartbeats 1000000 in
theorem dlen_size1 (va : Option Addr) (vc : Nat) (rs : List Int) (w : World) (hv : ArgAt w (.slice va rs.length vc) rs) (hby : ∀ z ∈ rs, 0 ≤ z ∧ z < 256) (hl : 24 ≤ rs.length) (h2 : rs.getD 0 0 = 2) (h3 : 1 ≤ rs.getD 1 0 ∧ rs.getD 1 0 ≤ 5) (h4 : pTold rs < 24) :
  Calls Tryz.prog 20 #[.slice va rs.length vc] w fun e w' => e = .returned (.tuple #[.int .i64 0, .int .i64 22]) ∧ ∃ n : Nat, w' = w.drewN n := by
 have h1 : ¬ (rs.length : Int) < 24 := by omega
 obtain ⟨ga, oa, rfl⟩ := rowAt_some (hv.row (by omega)) (by omega)
 have b0 := rowAt_cell (hv.row (by omega)) 0 (by omega)
 have b1 := rowAt_cell (hv.row (by omega)) 1 (by omega)
 rw [Nat.add_zero] at b0
 have hi0 : (0 : Int) < (rs.length : Int) := by omega
 have hi1 : (1 : Int) < (rs.length : Int) := by omega
 have hj0 : 0 < rs.length := by omega
 have hj1 : 1 < rs.length := by omega
 have h3' : ¬ rs.getD 1 0 < 1 := by omega
 have h4' : ¬ 5 < rs.getD 1 0 := by omega
 obtain ⟨u, hu, ua⟩ := cut_mid hv rfl (by omega) 2 4 (by omega) (by omega)
 replace hu : ∀ w, Sem.run Tryz.prog (Instr.slice 40 (.slice (some ⟨ga, oa, none⟩) rs.length vc) (some (.int .i64 2)) (some (.int .i64 4)) none) w = .ok u w := hu
 have hul : ((rs.drop 2).take 2).length = 2 := by rw [List.length_take, List.length_drop]; omega
 have HNU := fun w' (t : Touch (fun _ => False) w w') => pnumber_any u _ w' (ua.keep t (fun _ _ h => h)) (fun z hz => hby z (List.mem_of_mem_drop (List.mem_of_mem_take hz))) (by rw [show 4 - 2 = 2 from rfl, hul]; omega)
 have hpt : 0 ≤ pTold rs ∧ pTold rs < 65536 := by
  have h := numOf_bound ((rs.drop 2).take 2) (fun z hz => hby z (List.mem_of_mem_drop (List.mem_of_mem_take hz)))
  rw [hul] at h
  exact h
 rw [show numOf ((rs.drop 2).take 2) = pTold rs from rfl] at HNU
 have hw64 : IntKind.i64.wrap (pTold rs) = pTold rs := by simp [IntKind.wrap, IntKind.bits, IntKind.signed]; omega
 obtain ⟨pt0, pt1⟩ := hpt
 rw [h2] at b0
 clear h2 h3 ua hul hv hby
 generalize pTold rs = PT at *
 generalize rs.getD 1 0 = m1 at *
 go_enter Tryz.func20, Tryz.ntmps20
 go_wp2_with fail
 refine Calls.mono (HNU _ (by first | exact Touch.refl _ _ | exact (Touch.refl _ _).drew)) ?_
 rintro e w1 ⟨rfl, rfl⟩
 clear HNU
 go_wp2
 go_ret2
 exact ⟨rfl, 0, rfl⟩

set_option maxHeartbeats 1000000 in
theorem dlen_size2 (va : Option Addr) (vc : Nat) (rs : List Int) (w : World) (hv : ArgAt w (.slice va rs.length vc) rs) (hby : ∀ z ∈ rs, 0 ≤ z ∧ z < 256) (hl : 24 ≤ rs.length) (h2 : rs.getD 0 0 = 2) (h3 : 1 ≤ rs.getD 1 0 ∧ rs.getD 1 0 ≤ 5) (h4 : ¬ pTold rs < 24) (h5 : (rs.length : Int) < pTold rs) :
  Calls Tryz.prog 20 #[.slice va rs.length vc] w fun e w' => e = .returned (.tuple #[.int .i64 0, .int .i64 22]) ∧ ∃ n : Nat, w' = w.drewN n := by
 have h1 : ¬ (rs.length : Int) < 24 := by omega
 obtain ⟨ga, oa, rfl⟩ := rowAt_some (hv.row (by omega)) (by omega)
 have b0 := rowAt_cell (hv.row (by omega)) 0 (by omega)
 have b1 := rowAt_cell (hv.row (by omega)) 1 (by omega)
 rw [Nat.add_zero] at b0
 have hi0 : (0 : Int) < (rs.length : Int) := by omega
 have hi1 : (1 : Int) < (rs.length : Int) := by omega
 have hj0 : 0 < rs.length := by omega
 have hj1 : 1 < rs.length := by omega
 have h3' : ¬ rs.getD 1 0 < 1 := by omega
 have h4' : ¬ 5 < rs.getD 1 0 := by omega
 obtain ⟨u, hu, ua⟩ := cut_mid hv rfl (by omega) 2 4 (by omega) (by omega)
 replace hu : ∀ w, Sem.run Tryz.prog (Instr.slice 40 (.slice (some ⟨ga, oa, none⟩) rs.length vc) (some (.int .i64 2)) (some (.int .i64 4)) none) w = .ok u w := hu
 have hul : ((rs.drop 2).take 2).length = 2 := by rw [List.length_take, List.length_drop]; omega
 have HNU := fun w' (t : Touch (fun _ => False) w w') => pnumber_any u _ w' (ua.keep t (fun _ _ h => h)) (fun z hz => hby z (List.mem_of_mem_drop (List.mem_of_mem_take hz))) (by rw [show 4 - 2 = 2 from rfl, hul]; omega)
 have hpt : 0 ≤ pTold rs ∧ pTold rs < 65536 := by
  have h := numOf_bound ((rs.drop 2).take 2) (fun z hz => hby z (List.mem_of_mem_drop (List.mem_of_mem_take hz)))
  rw [hul] at h
  exact h
 rw [show numOf ((rs.drop 2).take 2) = pTold rs from rfl] at HNU
 have hw64 : IntKind.i64.wrap (pTold rs) = pTold rs := by simp [IntKind.wrap, IntKind.bits, IntKind.signed]; omega
 obtain ⟨pt0, pt1⟩ := hpt
 rw [h2] at b0
 clear h2 h3 ua hul hv hby
 generalize pTold rs = PT at *
 generalize rs.getD 1 0 = m1 at *
 go_enter Tryz.func20, Tryz.ntmps20
 go_wp2_with fail
 refine Calls.mono (HNU _ (by first | exact Touch.refl _ _ | exact (Touch.refl _ _).drew)) ?_
 rintro e w1 ⟨rfl, rfl⟩
 clear HNU
 go_wp2
 go_ret2
 exact ⟨rfl, 0, rfl⟩

set_option maxHeartbeats 1000000 in
theorem dlen_ok (va : Option Addr) (vc : Nat) (rs : List Int) (w : World) (hv : ArgAt w (.slice va rs.length vc) rs) (hby : ∀ z ∈ rs, 0 ≤ z ∧ z < 256) (hl : 24 ≤ rs.length) (h2 : rs.getD 0 0 = 2) (h3 : 1 ≤ rs.getD 1 0 ∧ rs.getD 1 0 ≤ 5) (h4 : ¬ pTold rs < 24) (h5 : ¬ (rs.length : Int) < pTold rs) :
  Calls Tryz.prog 20 #[.slice va rs.length vc] w fun e w' => e = .returned (.tuple #[.int .i64 (pTold rs), .int .i64 0]) ∧ ∃ n : Nat, w' = w.drewN n := by
 have h1 : ¬ (rs.length : Int) < 24 := by omega
 obtain ⟨ga, oa, rfl⟩ := rowAt_some (hv.row (by omega)) (by omega)
 have b0 := rowAt_cell (hv.row (by omega)) 0 (by omega)
 have b1 := rowAt_cell (hv.row (by omega)) 1 (by omega)
 rw [Nat.add_zero] at b0
 have hi0 : (0 : Int) < (rs.length : Int) := by omega
 have hi1 : (1 : Int) < (rs.length : Int) := by omega
 have hj0 : 0 < rs.length := by omega
 have hj1 : 1 < rs.length := by omega
 have h3' : ¬ rs.getD 1 0 < 1 := by omega
 have h4' : ¬ 5 < rs.getD 1 0 := by omega
 obtain ⟨u, hu, ua⟩ := cut_mid hv rfl (by omega) 2 4 (by omega) (by omega)
 replace hu : ∀ w, Sem.run Tryz.prog (Instr.slice 40 (.slice (some ⟨ga, oa, none⟩) rs.length vc) (some (.int .i64 2)) (some (.int .i64 4)) none) w = .ok u w := hu
 have hul : ((rs.drop 2).take 2).length = 2 := by rw [List.length_take, List.length_drop]; omega
 have HNU := fun w' (t : Touch (fun _ => False) w w') => pnumber_any u _ w' (ua.keep t (fun _ _ h => h)) (fun z hz => hby z (List.mem_of_mem_drop (List.mem_of_mem_take hz))) (by rw [show 4 - 2 = 2 from rfl, hul]; omega)
 have hpt : 0 ≤ pTold rs ∧ pTold rs < 65536 := by
  have h := numOf_bound ((rs.drop 2).take 2) (fun z hz => hby z (List.mem_of_mem_drop (List.mem_of_mem_take hz)))
  rw [hul] at h
  exact h
 rw [show numOf ((rs.drop 2).take 2) = pTold rs from rfl] at HNU
 have hw64 : IntKind.i64.wrap (pTold rs) = pTold rs := by simp [IntKind.wrap, IntKind.bits, IntKind.signed]; omega
 obtain ⟨pt0, pt1⟩ := hpt
 rw [h2] at b0
 clear h2 h3 ua hul hv hby
 generalize pTold rs = PT at *
 generalize rs.getD 1 0 = m1 at *
 go_enter Tryz.func20, Tryz.ntmps20
 go_wp2_with fail
 refine Calls.mono (HNU _ (by first | exact Touch.refl _ _ | exact (Touch.refl _ _).drew)) ?_
 rintro e w1 ⟨rfl, rfl⟩
 clear HNU
 go_wp2
 go_ret2
 exact ⟨rfl, 0, rfl⟩

theorem dlen_any (v : Value) (rs : List Int) (w : World) (hv : ArgAt w v rs) (hby : ∀ z ∈ rs, 0 ≤ z ∧ z < 256) :
  Calls Tryz.prog 20 #[v] w fun e w' => e = .returned (.tuple #[.int .i64 (pLenN rs), .int .i64 (pLenE rs)]) ∧ ∃ n : Nat, w' = w.drewN n := by
 obtain ⟨va, vc, rfl, -⟩ := hv.form
 have key : ∀ e : Int, e ≠ 0 → pLenE rs = e → Calls Tryz.prog 20 #[.slice va rs.length vc] w (fun x w' => x = .returned (.tuple #[.int .i64 0, .int .i64 e]) ∧ ∃ n : Nat, w' = w.drewN n) →
   Calls Tryz.prog 20 #[.slice va rs.length vc] w fun e w' => e = .returned (.tuple #[.int .i64 (pLenN rs), .int .i64 (pLenE rs)]) ∧ ∃ n : Nat, w' = w.drewN n := by
  intro e he h H
  rw [show pLenN rs = 0 by unfold pLenN; rw [if_neg (by rw [h]; exact he)], h]
  exact H
 by_cases h1 : rs.length < 24
 ·exact key 10 (by decide) (by unfold pLenE; rw [if_pos h1]) (dlen_short va vc rs w hv hby h1)
 ·by_cases h2 : rs.getD 0 0 = 2
  ·by_cases h3 : 1 ≤ rs.getD 1 0 ∧ rs.getD 1 0 ≤ 5
   ·by_cases h4 : pTold rs < 24
    ·exact key 22 (by decide) (by unfold pLenE; rw [if_neg h1, if_neg (by omega), if_neg (by omega), if_pos (by omega)]) (dlen_size1 va vc rs w hv hby (by omega) h2 h3 h4)
    ·by_cases h5 : (rs.length : Int) < pTold rs
     ·exact key 22 (by decide) (by unfold pLenE; rw [if_neg h1, if_neg (by omega), if_neg (by omega), if_pos (by omega)]) (dlen_size2 va vc rs w hv hby (by omega) h2 h3 h4 h5)
     ·have hz : pLenE rs = 0 := PLen.zero ⟨by omega, h2, h3, by omega⟩
      rw [show pLenN rs = pTold rs by unfold pLenN; rw [if_pos hz], hz]
      exact dlen_ok va vc rs w hv hby (by omega) h2 h3 h4 h5
   ·by_cases h4 : rs.getD 1 0 < 1
    ·exact key 21 (by decide) (by unfold pLenE; rw [if_neg h1, if_neg (by omega), if_pos h3]) (dlen_type1 va vc rs w hv hby (by omega) h2 h4)
    ·exact key 21 (by decide) (by unfold pLenE; rw [if_neg h1, if_neg (by omega), if_pos h3]) (dlen_type2 va vc rs w hv hby (by omega) h2 h4 (by omega))
  ·exact key 20 (by decide) (by unfold pLenE; rw [if_neg h1, if_pos h2]) (dlen_vers va vc rs w hv hby (by omega) h2)

set_option maxHeartbeats 1000000 in
theorem dsummed_any (v : Value) (rs : List Int) (w : World) (hv : ArgAt w v rs) (hl : 24 ≤ rs.length) (hn : rs.length ≤ 1000000) :
  Calls Tryz.prog 41 #[v] w fun e w' => ∃ v', e = .returned v' ∧ Buf w w' v' (summedB rs) := by
 obtain ⟨va, vc, rfl, -⟩ := hv.form
 obtain ⟨u1, hu1, ua1⟩ := cut_to hv rfl (by omega) 16 (by omega)
 obtain ⟨u2, hu2, ua2⟩ := cut_from hv rfl (by omega) 24 (by omega)
 replace hu1 : ∀ w, Sem.run Tryz.prog (Instr.slice 40 (.slice va rs.length vc) none (some (.int .i64 16)) none) w = .ok u1 w := hu1
 replace hu2 : ∀ w, Sem.run Tryz.prog (Instr.slice 40 (.slice va rs.length vc) (some (.int .i64 24)) none none) w = .ok u2 w := hu2
 have hl1 : (rs.take 16).length ≤ 1000000 := by rw [List.length_take]; omega
 have hl2 : (rs.drop 24).length ≤ 1000000 := by rw [List.length_drop]; omega
 have HS : Hid (rs.take 16 ++ rs.drop 24 = summedB rs) := rfl
 have U1 : Hid (ArgAt w u1 (rs.take 16)) := ua1
 have U2 : Hid (ArgAt w u2 (rs.drop 24)) := ua2
 clear ua1 ua2 hv
 generalize summedB rs = SB at *
 generalize rs.take 16 = r1 at *
 generalize rs.drop 24 = r2 at *
 clear hl hn
 have HL : Hid (r1.length ≤ 1000000 ∧ r2.length ≤ 1000000) := ⟨hl1, hl2⟩
 clear hl1 hl2
 go_enter Tryz.func41, Tryz.ntmps41
 go_wp2_with (first | (at_builtin; refine app_arg rfl (.tmp 4) (.tmp 6) rfl w _ [] rfl (Buf.nil (Touch.refl _ _)) _ r1 rfl U1.out (by have := HL.out; simp; omega) ?_; intro p3 w3 hb3; rw [List.nil_append] at hb3; have B3 : Hid (Buf w w3 p3 r1) := hb3; clear hb3) | (at_builtin; refine app_arg rfl (.tmp 8) (.tmp 10) rfl w _ r1 rfl B3.out _ r2 rfl (U2.out.keep B3.out.t (fun _ _ h => h)) (by have := HL.out; omega) ?_; intro p4 w4 hb4; rw [HS.out] at hb4; have B4 : Hid (Buf w w4 p4 SB) := hb4; clear hb4))
 go_ret
 exact ⟨p4, rfl, B4.out⟩

set_option maxHeartbeats 1000000 in
theorem pTold_lt7 {rs : List Int} (hby : ∀ z ∈ rs, 0 ≤ z ∧ z < 256) (h : 24 ≤ rs.length) : pTold rs < 65536 := by
 match rs, h with
 | a :: b :: c :: d :: r, _ =>
  have hc := hby c (by simp)
  have hd := hby d (by simp)
  simp [pTold, numOf]
  omega
theorem dright_any (v : Value) (rs : List Int) (w : World) (hv : ArgAt w v rs) (hby : ∀ z ∈ rs, 0 ≤ z ∧ z < 256) (hn : rs.length ≤ 1000000) :
  Calls Tryz.prog 23 #[v] w fun e w' => e = .returned (.bool (pRight rs)) ∧ Touch (fun _ => False) w w' := by
 have HL := dlen_any v rs w hv hby
 obtain ⟨va, vc, rfl, -⟩ := hv.form
 by_cases hE : pLenE rs = 0
 ·have P := pLenE_ok hE
  obtain ⟨pn, hpn⟩ : ∃ pn : Nat, pTold rs = (pn : Int) := ⟨(pTold rs).toNat, by have := P.n; omega⟩
  have hp1 : 24 ≤ pn := by have := P.n; omega
  have hp2 : pn ≤ rs.length := by have := P.n; omega
  obtain ⟨u, hu, ua⟩ := cut_to hv rfl (by omega) pn (by omega)
  have HR : Hid (pRight rs = (fold (W true (summedB (rs.take pn))) == 65535)) := by show _ = _; unfold pRight; rw [hE, hpn]; simp
  rw [show pLenN rs = pTold rs by unfold pLenN; rw [if_pos hE], hE, hpn] at HL
  have hul : (rs.take pn).length = pn := by rw [List.length_take]; omega
  have HS : Hid (∀ w', Touch (fun _ => False) w w' → Calls Tryz.prog 41 #[u] w' fun e w'' => ∃ v', e = .returned v' ∧ Buf w w'' v' (summedB (rs.take pn))) := by
   intro w' t
   refine (dsummed_any u (rs.take pn) w' (ua.keep t (fun _ _ h => h)) (by omega) (by omega)).mono ?_
   rintro e w2 ⟨p, rfl, hb⟩
   exact ⟨p, rfl, hb.back t⟩
  have HB : Hid (∀ z ∈ summedB (rs.take pn), 0 ≤ z ∧ z < 256) := by
   intro z hz
   unfold summedB at hz
   rcases List.mem_append.1 hz with h | h
   ·exact hby z (List.mem_of_mem_take (List.mem_of_mem_take h))
   ·exact hby z (List.mem_of_mem_take (List.mem_of_mem_drop h))
  have hp3 : pn < 65536 := by have := pTold_lt7 hby P.l; omega
  have HSL : Hid ((summedB (rs.take pn)).length ≤ 65536) := by show _ ≤ _; unfold summedB; rw [List.length_append, List.length_take, List.length_drop]; omega
  generalize summedB (rs.take pn) = SB at *
  generalize pRight rs = PR at *
  clear hv hby hn hE P hpn hul ua hp1 hp2 hp3
  go_enter Tryz.func23, Tryz.ntmps23
  go_wp2_with fail
  refine HL.mono ?_
  rintro e w1 ⟨rfl, n1, rfl⟩
  have T1 : Hid (Touch (fun _ => False) w (w.drewN n1)) := (Touch.refl _ w).drewN n1
  clear HL
  generalize w.drewN n1 = w1 at *
  go_wp2_with fail
  refine (HS.out _ T1.out).mono ?_
  rintro e w2 ⟨p, rfl, hb⟩
  have B2 : Hid (Buf w w2 p SB) := hb
  clear hb HS
  go_wp2_with fail
  refine (rright_any p SB _ B2.out.arg HB.out HSL.out).mono ?_
  rw [← HR.out]
  rintro e w3 ⟨rfl, rfl⟩
  clear HR
  go_wp2
  go_ret
  exact ⟨rfl, B2.out.t⟩
 ·have HR : Hid (pRight rs = false) := by show _ = _; unfold pRight; simp [hE]
  have hq : ((pLenE rs : Int) == 0) = false := by simpa using hE
  generalize pRight rs = PR at *
  generalize pLenE rs = PE at *
  generalize pLenN rs = PN at *
  clear hv hby hn hE
  go_enter Tryz.func23, Tryz.ntmps23
  go_wp2_with fail
  refine HL.mono ?_
  rintro e w1 ⟨rfl, n1, rfl⟩
  have T1 : Hid (Touch (fun _ => False) w (w.drewN n1)) := (Touch.refl _ w).drewN n1
  clear HL
  generalize w.drewN n1 = w1 at *
  go_wp2
  go_ret
  exact ⟨by rw [HR.out]; rfl, T1.out⟩
end Go.Proofs.YtbfplepmgbkajaaGreatDoor

namespace Go.Proofs.YtbfplepmgbkajaaGreatDoor
open Go.RowKit
set_option linter.unusedVariables false
set_option maxRecDepth 100000

set_option maxHeartbeats 2000000 in
theorem peqA (A : AuV) (oa : A.Ok) (w : World) : Calls Tryz.prog 21 #[A.v, A.v] w fun e w' => e = .returned (.bool true) ∧ Touch (fun _ => False) w w' := by
 have heq : ∀ w, Sem.run Tryz.prog (Op.equalIn 10000 34 (.agg #[.int .u8 A.d0, .int .u8 A.d1, .int .u8 A.d2, .int .u8 A.d3, .int .u8 A.d4, .int .u8 A.d5, .int .u8 A.d6, .int .u8 A.d7]) (.agg #[.int .u8 A.d0, .int .u8 A.d1, .int .u8 A.d2, .int .u8 A.d3, .int .u8 A.d4, .int .u8 A.d5, .int .u8 A.d6, .int .u8 A.d7])) w = .ok true w := fun w => eq8 [A.d0, A.d1, A.d2, A.d3, A.d4, A.d5, A.d6, A.d7] (by intro x hx; simp only [List.mem_cons, List.not_mem_nil, or_false] at hx; have := oa.d0; have := oa.d1; have := oa.d2; have := oa.d3; have := oa.d4; have := oa.d5; have := oa.d6; have := oa.d7; omega) rfl 9998 w
 unfold AuV.v
 obtain ⟨w0, hw0⟩ : ∃ w0, w0 = (w.alloc (.cells #[.int .u16 A.kind, .int .u8 A.d0, .int .u8 A.d1, .int .u8 A.d2, .int .u8 A.d3, .int .u8 A.d4, .int .u8 A.d5, .int .u8 A.d6, .int .u8 A.d7] 44)).alloc (.cells #[.int .u16 A.kind, .int .u8 A.d0, .int .u8 A.d1, .int .u8 A.d2, .int .u8 A.d3, .int .u8 A.d4, .int .u8 A.d5, .int .u8 A.d6, .int .u8 A.d7] 36) := ⟨_, rfl⟩
 have ta : Touch (fun _ => False) w w0 := by rw [hw0]; exact ((Touch.refl _ w).alloc _).alloc _
 have A0 : Row w0 w.heap.size 44 [.int .u16 A.kind, .int .u8 A.d0, .int .u8 A.d1, .int .u8 A.d2, .int .u8 A.d3, .int .u8 A.d4, .int .u8 A.d5, .int .u8 A.d6, .int .u8 A.d7] := by rw [hw0]; exact (row_new w 44 #[.int .u16 A.kind, .int .u8 A.d0, .int .u8 A.d1, .int .u8 A.d2, .int .u8 A.d3, .int .u8 A.d4, .int .u8 A.d5, .int .u8 A.d6, .int .u8 A.d7]).keep ((Touch.refl _ _).alloc _)
 have B0 : Row w0 (w.heap.size + 1) 36 [.int .u16 A.kind, .int .u8 A.d0, .int .u8 A.d1, .int .u8 A.d2, .int .u8 A.d3, .int .u8 A.d4, .int .u8 A.d5, .int .u8 A.d6, .int .u8 A.d7] := by
  have := row_new (w.alloc (.cells #[.int .u16 A.kind, .int .u8 A.d0, .int .u8 A.d1, .int .u8 A.d2, .int .u8 A.d3, .int .u8 A.d4, .int .u8 A.d5, .int .u8 A.d6, .int .u8 A.d7] 44)) 36 #[.int .u16 A.kind, .int .u8 A.d0, .int .u8 A.d1, .int .u8 A.d2, .int .u8 A.d3, .int .u8 A.d4, .int .u8 A.d5, .int .u8 A.d6, .int .u8 A.d7]
  rw [← hw0] at this
  simpa using this
 have y0 : w0.cell? ⟨w.heap.size, 0, none⟩ = some (.int .u16 A.kind) := A0.cell 0
 have y1 : w0.cell? ⟨w.heap.size, 1, none⟩ = some (.int .u8 A.d0) := A0.cell 1
 have y2 : w0.cell? ⟨w.heap.size, 2, none⟩ = some (.int .u8 A.d1) := A0.cell 2
 have y3 : w0.cell? ⟨w.heap.size, 3, none⟩ = some (.int .u8 A.d2) := A0.cell 3
 have y4 : w0.cell? ⟨w.heap.size, 4, none⟩ = some (.int .u8 A.d3) := A0.cell 4
 have y5 : w0.cell? ⟨w.heap.size, 5, none⟩ = some (.int .u8 A.d4) := A0.cell 5
 have y6 : w0.cell? ⟨w.heap.size, 6, none⟩ = some (.int .u8 A.d5) := A0.cell 6
 have y7 : w0.cell? ⟨w.heap.size, 7, none⟩ = some (.int .u8 A.d6) := A0.cell 7
 have y8 : w0.cell? ⟨w.heap.size, 8, none⟩ = some (.int .u8 A.d7) := A0.cell 8
 have x0 : w0.cell? ⟨w.heap.size + 1, 0, none⟩ = some (.int .u16 A.kind) := B0.cell 0
 have x1 : w0.cell? ⟨w.heap.size + 1, 1, none⟩ = some (.int .u8 A.d0) := B0.cell 1
 have x2 : w0.cell? ⟨w.heap.size + 1, 2, none⟩ = some (.int .u8 A.d1) := B0.cell 2
 have x3 : w0.cell? ⟨w.heap.size + 1, 3, none⟩ = some (.int .u8 A.d2) := B0.cell 3
 have x4 : w0.cell? ⟨w.heap.size + 1, 4, none⟩ = some (.int .u8 A.d3) := B0.cell 4
 have x5 : w0.cell? ⟨w.heap.size + 1, 5, none⟩ = some (.int .u8 A.d4) := B0.cell 5
 have x6 : w0.cell? ⟨w.heap.size + 1, 6, none⟩ = some (.int .u8 A.d5) := B0.cell 6
 have x7 : w0.cell? ⟨w.heap.size + 1, 7, none⟩ = some (.int .u8 A.d6) := B0.cell 7
 have x8 : w0.cell? ⟨w.heap.size + 1, 8, none⟩ = some (.int .u8 A.d7) := B0.cell 8
 clear A0 B0
 go_enter Tryz.func21, Tryz.ntmps21
 go_upto_region 1 with fail
 rw [← hw0]
 clear hw0
 go_wp2_with fail
 go_ret
 exact ⟨rfl, ta⟩
end Go.Proofs.YtbfplepmgbkajaaGreatDoor
