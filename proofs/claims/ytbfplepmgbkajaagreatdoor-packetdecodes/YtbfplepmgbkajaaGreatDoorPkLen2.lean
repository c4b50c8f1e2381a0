/- Package packet: isType, length. -/
import Derived.Test.YtbfplepmgbkajaaGreatDoorPkWr
import Derived.Test.YtbfplepmgbkajaaGreatDoorSumWords3
import Derived.Test.YtbfplepmgbkajaaGreatDoorStFace
import Derived.Test.YtbfplepmgbkajaaGreatDoorStRd3
import Derived.Test.YtbfplepmgbkajaaGreatDoorNumber
import Derived.Deep.RegionHeld3
import Derived.Deep.DeepCutAuto
namespace Go.Proofs.YtbfplepmgbkajaaGreatDoor
open Go.RowKit
set_option linter.unusedVariables false
set_option maxRecDepth 100000

theorem pisType_any (t : Int) (w : World) (h0 : 0 ≤ t) : Calls Tryz.prog 91 #[.int .u8 t] w fun e w' => e = .returned (.bool (decide (1 ≤ t ∧ t ≤ 5))) ∧ w = w' := by
 have HK : Hid (decide (1 ≤ t ∧ t ≤ 5) = (decide (1 ≤ t) && decide (t ≤ 5))) := by show _ = _; by_cases h1 : 1 ≤ t <;> by_cases h2 : t ≤ 5 <;> simp [h1, h2]
 generalize decide (1 ≤ t ∧ t ≤ 5) = k at HK ⊢
 go_enter Tryz.func91, Tryz.ntmps91
 go_wp2
 all_goals go_ret
 all_goals refine ⟨ret_bool ?_, rfl⟩
 all_goals (rw [HK.out, Bool.eq_iff_iff]; simp; omega)

set_option maxHeartbeats 1000000 in
theorem plength_short (va : Option Addr) (vc : Nat) (rs : List Int) (w : World) (hv : ArgAt w (.slice va rs.length vc) rs) (hby : ∀ z ∈ rs, 0 ≤ z ∧ z < 256) (hn : rs.length ≤ 1000000) (hl : rs.length < 24) :
  Calls Tryz.prog 76 #[.slice va rs.length vc] w fun e w' => e = .panicked (pflawC 10) ∧ Touch (fun _ => False) w w' := by
 have hnn : (rs.length : Int) ≤ 1000000 := by omega
 have h1 : ¬ (24 : Int) ≤ (rs.length : Int) := by omega
 clear hv hby
 go_enter Tryz.func76, Tryz.ntmps76
 go_wp2_with fail
 refine Calls.mono (pneed_f _ 10 _ (by first | rfl | simpa using h1)) ?_
 rintro e wn ⟨rfl, rfl⟩
 exact ⟨rfl, rfl, Touch.refl _ _⟩

set_option maxHeartbeats 1000000 in
theorem plength_vers (va : Option Addr) (vc : Nat) (rs : List Int) (w : World) (hv : ArgAt w (.slice va rs.length vc) rs) (hby : ∀ z ∈ rs, 0 ≤ z ∧ z < 256) (hn : rs.length ≤ 1000000) (hl : 24 ≤ rs.length) (h2 : rs.getD 0 0 ≠ 2) :
  Calls Tryz.prog 76 #[.slice va rs.length vc] w fun e w' => e = .panicked (pflawC 20) ∧ Touch (fun _ => False) w w' := by
 have hnn : (rs.length : Int) ≤ 1000000 := by omega
 have h1 : (24 : Int) ≤ (rs.length : Int) := by omega
 obtain ⟨ga, oa, rfl⟩ := rowAt_some (hv.row (by omega)) (by omega)
 have b0 := rowAt_cell (hv.row (by omega)) 0 (by omega)
 have b1 := rowAt_cell (hv.row (by omega)) 1 (by omega)
 rw [Nat.add_zero] at b0
 have hi0 : (0 : Int) < (rs.length : Int) := by omega
 have hi1 : (1 : Int) < (rs.length : Int) := by omega
 have hj0 : 0 < rs.length := by omega
 have hj1 : 1 < rs.length := by omega
 have hb1 : 0 ≤ rs.getD 1 0 := by have := hby (rs.getD 1 0) (by simp [List.getD, hj1]); omega
 generalize rs.getD 0 0 = m0 at *
 have hm : ((m0 : Int) == 2) = false := by simpa using h2
 clear hv hby b1
 go_enter Tryz.func76, Tryz.ntmps76
 go_wp2_with fail
 refine Calls.mono (pneed_t _ 10 _ (by first | rfl | simpa using h1)) ?_
 rintro e wn ⟨rfl, rfl⟩
 go_wp2_with fail
 refine Calls.mono (pneed_f _ 20 _ (by first | rfl | exact hm)) ?_
 rintro e wn ⟨rfl, rfl⟩
 exact ⟨rfl, rfl, Touch.refl _ _⟩

set_option maxHeartbeats 1000000 in
theorem plength_type (va : Option Addr) (vc : Nat) (rs : List Int) (w : World) (hv : ArgAt w (.slice va rs.length vc) rs) (hby : ∀ z ∈ rs, 0 ≤ z ∧ z < 256) (hn : rs.length ≤ 1000000) (hl : 24 ≤ rs.length) (h2 : rs.getD 0 0 = 2) (h3 : ¬ (1 ≤ rs.getD 1 0 ∧ rs.getD 1 0 ≤ 5)) :
  Calls Tryz.prog 76 #[.slice va rs.length vc] w fun e w' => e = .panicked (pflawC 21) ∧ Touch (fun _ => False) w w' := by
 have hnn : (rs.length : Int) ≤ 1000000 := by omega
 have h1 : (24 : Int) ≤ (rs.length : Int) := by omega
 obtain ⟨ga, oa, rfl⟩ := rowAt_some (hv.row (by omega)) (by omega)
 have b0 := rowAt_cell (hv.row (by omega)) 0 (by omega)
 have b1 := rowAt_cell (hv.row (by omega)) 1 (by omega)
 rw [Nat.add_zero] at b0
 have hi0 : (0 : Int) < (rs.length : Int) := by omega
 have hi1 : (1 : Int) < (rs.length : Int) := by omega
 have hj0 : 0 < rs.length := by omega
 have hj1 : 1 < rs.length := by omega
 have hb1 : 0 ≤ rs.getD 1 0 := by have := hby (rs.getD 1 0) (by simp [List.getD, hj1]); omega
 have hm : ((rs.getD 0 0 : Int) == 2) = true := by simpa using h2
 have HTY := fun w => pisType_any (rs.getD 1 0) w hb1
 have HD : decide (1 ≤ rs.getD 1 0 ∧ rs.getD 1 0 ≤ 5) = false := decide_eq_false h3
 rw [HD] at HTY
 clear h2 h3 HD hb1
 generalize rs.getD 0 0 = m0 at *
 generalize rs.getD 1 0 = m1 at *
 clear hv hby
 go_enter Tryz.func76, Tryz.ntmps76
 go_wp2_with fail
 refine Calls.mono (pneed_t _ 10 _ (by first | rfl | simpa using h1)) ?_
 rintro e wn ⟨rfl, rfl⟩
 go_wp2_with fail
 refine Calls.mono (pneed_t _ 20 _ (by first | rfl | exact hm)) ?_
 rintro e wn ⟨rfl, rfl⟩
 go_wp2_with fail
 refine Calls.mono (HTY _) ?_
 rintro e wn ⟨rfl, rfl⟩
 go_wp2_with fail
 refine Calls.mono (pneed_f _ 21 _ (by first | rfl | rfl)) ?_
 rintro e wn ⟨rfl, rfl⟩
 exact ⟨rfl, rfl, Touch.refl _ _⟩

set_option maxHeartbeats 1000000 in
theorem plength_size (va : Option Addr) (vc : Nat) (rs : List Int) (w : World) (hv : ArgAt w (.slice va rs.length vc) rs) (hby : ∀ z ∈ rs, 0 ≤ z ∧ z < 256) (hn : rs.length ≤ 1000000) (hl : 24 ≤ rs.length) (h2 : rs.getD 0 0 = 2) (h3 : 1 ≤ rs.getD 1 0 ∧ rs.getD 1 0 ≤ 5) (h4 : ¬ (24 ≤ pTold rs ∧ pTold rs ≤ (rs.length : Int))) :
  Calls Tryz.prog 76 #[.slice va rs.length vc] w fun e w' => e = .panicked (pflawC 22) ∧ Touch (fun _ => False) w w' := by
 have hnn : (rs.length : Int) ≤ 1000000 := by omega
 have h1 : (24 : Int) ≤ (rs.length : Int) := by omega
 obtain ⟨ga, oa, rfl⟩ := rowAt_some (hv.row (by omega)) (by omega)
 have b0 := rowAt_cell (hv.row (by omega)) 0 (by omega)
 have b1 := rowAt_cell (hv.row (by omega)) 1 (by omega)
 rw [Nat.add_zero] at b0
 have hi0 : (0 : Int) < (rs.length : Int) := by omega
 have hi1 : (1 : Int) < (rs.length : Int) := by omega
 have hj0 : 0 < rs.length := by omega
 have hj1 : 1 < rs.length := by omega
 have hb1 : 0 ≤ rs.getD 1 0 := by have := hby (rs.getD 1 0) (by simp [List.getD, hj1]); omega
 have hm : ((rs.getD 0 0 : Int) == 2) = true := by simpa using h2
 have HTY := fun w => pisType_any (rs.getD 1 0) w hb1
 have HD : decide (1 ≤ rs.getD 1 0 ∧ rs.getD 1 0 ≤ 5) = true := decide_eq_true h3
 rw [HD] at HTY
 obtain ⟨u, hu, ua⟩ := cut_mid hv rfl (by omega) 2 4 (by omega) (by omega)
 replace hu : ∀ w, Sem.run Tryz.prog (Instr.slice 40 (.slice (some ⟨ga, oa, none⟩) rs.length vc) (some (.int .i64 2)) (some (.int .i64 4)) none) w = .ok u w := hu
 have UA : Hid (ArgAt w u ((rs.drop 2).take 2)) := ua
 have hul : ((rs.drop 2).take 2).length = 2 := by rw [List.length_take, List.length_drop]; omega
 have UB : Hid (∀ z ∈ (rs.drop 2).take 2, 0 ≤ z ∧ z < 256) := fun z hz => hby z (List.mem_of_mem_drop (List.mem_of_mem_take hz))
 have HNU : Hid (numAt ((rs.drop 2).take 2) (some 0) 2 = pTold rs) := by
  show _ = _
  unfold pTold numAt
  simp only [hul]
  rw [if_pos (by omega), List.drop_zero, List.take_of_length_le (by omega)]
 have hpt : 0 ≤ pTold rs ∧ pTold rs < 65536 := by
  have h := numOf_bound ((rs.drop 2).take 2) UB.out
  rw [hul] at h
  exact h
 have hw64 : IntKind.i64.wrap (pTold rs) = pTold rs := by simp [IntKind.wrap, IntKind.bits, IntKind.signed]; omega
 have HUL : Hid (((rs.drop 2).take 2).length = 2) := hul
 obtain ⟨pt0, pt1⟩ := hpt
 clear h2 h3 HD hb1 ua hul
 generalize (rs.drop 2).take 2 = ub at *
 generalize pTold rs = PT at *
 generalize rs.getD 0 0 = m0 at *
 generalize rs.getD 1 0 = m1 at *
 clear hv hby
 by_cases h5 : (24 : Int) ≤ PT
 ·have h6 : ¬ PT ≤ (rs.length : Int) := by omega
  clear h4
  go_enter Tryz.func76, Tryz.ntmps76
  go_wp2_with fail
  refine Calls.mono (pneed_t _ 10 _ (by first | rfl | simpa using h1)) ?_
  rintro e wn ⟨rfl, rfl⟩
  go_wp2_with fail
  refine Calls.mono (pneed_t _ 20 _ (by first | rfl | exact hm)) ?_
  rintro e wn ⟨rfl, rfl⟩
  go_wp2_with fail
  refine Calls.mono (HTY _) ?_
  rintro e wn ⟨rfl, rfl⟩
  go_wp2_with fail
  refine Calls.mono (pneed_t _ 21 _ (by first | rfl | rfl)) ?_
  rintro e wn ⟨rfl, rfl⟩
  go_wp2_with fail
  refine Calls.mono (read_r u ub _ UA.out UB.out (by have := HUL.out; omega)) ?_
  rintro e w1 ⟨rb, rfl, hrb, hrd, t1⟩
  have RD : Hid (Rdr w1.heap.size w1 rb ub (some 0)) := hrd
  have T1 : Hid (Touch (fun _ => False) w w1) := t1
  have HRB : Hid (w.heap.size ≤ rb) := hrb
  clear hrd t1 hrb b0 b1
  go_wp2_with fail
  refine Calls.mono (rnum2 _ rb ub (some 0) w1 RD.out) ?_
  rw [HNU.out]
  rintro e w2 ⟨rfl, -, t2⟩
  have T2 : Hid (Touch (fun _ => False) w w2) := T1.out.trans' t2 (fun i hi e => by have := HRB.out; omega)
  clear t2 HNU
  go_wp2_with fail
  refine Calls.mono (pneed_f _ 22 _ (by first | rfl | simpa using h6)) ?_
  rintro e wn ⟨rfl, rfl⟩
  exact ⟨rfl, rfl, T2.out⟩
 ·clear h4
  go_enter Tryz.func76, Tryz.ntmps76
  go_wp2_with fail
  refine Calls.mono (pneed_t _ 10 _ (by first | rfl | simpa using h1)) ?_
  rintro e wn ⟨rfl, rfl⟩
  go_wp2_with fail
  refine Calls.mono (pneed_t _ 20 _ (by first | rfl | exact hm)) ?_
  rintro e wn ⟨rfl, rfl⟩
  go_wp2_with fail
  refine Calls.mono (HTY _) ?_
  rintro e wn ⟨rfl, rfl⟩
  go_wp2_with fail
  refine Calls.mono (pneed_t _ 21 _ (by first | rfl | rfl)) ?_
  rintro e wn ⟨rfl, rfl⟩
  go_wp2_with fail
  refine Calls.mono (read_r u ub _ UA.out UB.out (by have := HUL.out; omega)) ?_
  rintro e w1 ⟨rb, rfl, hrb, hrd, t1⟩
  have RD : Hid (Rdr w1.heap.size w1 rb ub (some 0)) := hrd
  have T1 : Hid (Touch (fun _ => False) w w1) := t1
  have HRB : Hid (w.heap.size ≤ rb) := hrb
  clear hrd t1 hrb b0 b1
  go_wp2_with fail
  refine Calls.mono (rnum2 _ rb ub (some 0) w1 RD.out) ?_
  rw [HNU.out]
  rintro e w2 ⟨rfl, -, t2⟩
  have T2 : Hid (Touch (fun _ => False) w w2) := T1.out.trans' t2 (fun i hi e => by have := HRB.out; omega)
  clear t2 HNU
  go_wp2_with fail
  refine Calls.mono (pneed_f _ 22 _ (by first | rfl | simpa using h5)) ?_
  rintro e wn ⟨rfl, rfl⟩
  exact ⟨rfl, rfl, T2.out⟩

set_option maxHeartbeats 1000000 in
theorem plength_ok (va : Option Addr) (vc : Nat) (rs : List Int) (w : World) (hv : ArgAt w (.slice va rs.length vc) rs) (hby : ∀ z ∈ rs, 0 ≤ z ∧ z < 256) (hn : rs.length ≤ 1000000) (hl : 24 ≤ rs.length) (h2 : rs.getD 0 0 = 2) (h3 : 1 ≤ rs.getD 1 0 ∧ rs.getD 1 0 ≤ 5) (h4 : 24 ≤ pTold rs ∧ pTold rs ≤ (rs.length : Int)) :
  Calls Tryz.prog 76 #[.slice va rs.length vc] w fun e w' => e = .returned (.int .i64 (pTold rs)) ∧ Touch (fun _ => False) w w' := by
 have hnn : (rs.length : Int) ≤ 1000000 := by omega
 have h1 : (24 : Int) ≤ (rs.length : Int) := by omega
 obtain ⟨ga, oa, rfl⟩ := rowAt_some (hv.row (by omega)) (by omega)
 have b0 := rowAt_cell (hv.row (by omega)) 0 (by omega)
 have b1 := rowAt_cell (hv.row (by omega)) 1 (by omega)
 rw [Nat.add_zero] at b0
 have hi0 : (0 : Int) < (rs.length : Int) := by omega
 have hi1 : (1 : Int) < (rs.length : Int) := by omega
 have hj0 : 0 < rs.length := by omega
 have hj1 : 1 < rs.length := by omega
 have hb1 : 0 ≤ rs.getD 1 0 := by have := hby (rs.getD 1 0) (by simp [List.getD, hj1]); omega
 have hm : ((rs.getD 0 0 : Int) == 2) = true := by simpa using h2
 have HTY := fun w => pisType_any (rs.getD 1 0) w hb1
 have HD : decide (1 ≤ rs.getD 1 0 ∧ rs.getD 1 0 ≤ 5) = true := decide_eq_true h3
 rw [HD] at HTY
 obtain ⟨u, hu, ua⟩ := cut_mid hv rfl (by omega) 2 4 (by omega) (by omega)
 replace hu : ∀ w, Sem.run Tryz.prog (Instr.slice 40 (.slice (some ⟨ga, oa, none⟩) rs.length vc) (some (.int .i64 2)) (some (.int .i64 4)) none) w = .ok u w := hu
 have UA : Hid (ArgAt w u ((rs.drop 2).take 2)) := ua
 have hul : ((rs.drop 2).take 2).length = 2 := by rw [List.length_take, List.length_drop]; omega
 have UB : Hid (∀ z ∈ (rs.drop 2).take 2, 0 ≤ z ∧ z < 256) := fun z hz => hby z (List.mem_of_mem_drop (List.mem_of_mem_take hz))
 have HNU : Hid (numAt ((rs.drop 2).take 2) (some 0) 2 = pTold rs) := by
  show _ = _
  unfold pTold numAt
  simp only [hul]
  rw [if_pos (by omega), List.drop_zero, List.take_of_length_le (by omega)]
 have hpt : 0 ≤ pTold rs ∧ pTold rs < 65536 := by
  have h := numOf_bound ((rs.drop 2).take 2) UB.out
  rw [hul] at h
  exact h
 have hw64 : IntKind.i64.wrap (pTold rs) = pTold rs := by simp [IntKind.wrap, IntKind.bits, IntKind.signed]; omega
 have HUL : Hid (((rs.drop 2).take 2).length = 2) := hul
 obtain ⟨pt0, pt1⟩ := hpt
 clear h2 h3 HD hb1 ua hul
 generalize (rs.drop 2).take 2 = ub at *
 generalize pTold rs = PT at *
 generalize rs.getD 0 0 = m0 at *
 generalize rs.getD 1 0 = m1 at *
 clear hv hby
 obtain ⟨h5, h6⟩ := h4
 go_enter Tryz.func76, Tryz.ntmps76
 go_wp2_with fail
 refine Calls.mono (pneed_t _ 10 _ (by first | rfl | simpa using h1)) ?_
 rintro e wn ⟨rfl, rfl⟩
 go_wp2_with fail
 refine Calls.mono (pneed_t _ 20 _ (by first | rfl | exact hm)) ?_
 rintro e wn ⟨rfl, rfl⟩
 go_wp2_with fail
 refine Calls.mono (HTY _) ?_
 rintro e wn ⟨rfl, rfl⟩
 go_wp2_with fail
 refine Calls.mono (pneed_t _ 21 _ (by first | rfl | rfl)) ?_
 rintro e wn ⟨rfl, rfl⟩
 go_wp2_with fail
 refine Calls.mono (read_r u ub _ UA.out UB.out (by have := HUL.out; omega)) ?_
 rintro e w1 ⟨rb, rfl, hrb, hrd, t1⟩
 have RD : Hid (Rdr w1.heap.size w1 rb ub (some 0)) := hrd
 have T1 : Hid (Touch (fun _ => False) w w1) := t1
 have HRB : Hid (w.heap.size ≤ rb) := hrb
 clear hrd t1 hrb b0 b1
 go_wp2_with fail
 refine Calls.mono (rnum2 _ rb ub (some 0) w1 RD.out) ?_
 rw [HNU.out]
 rintro e w2 ⟨rfl, -, t2⟩
 have T2 : Hid (Touch (fun _ => False) w w2) := T1.out.trans' t2 (fun i hi e => by have := HRB.out; omega)
 clear t2 HNU
 go_wp2_with fail
 refine Calls.mono (pneed_t _ 22 _ (by first | rfl | simpa using h6)) ?_
 rintro e wn ⟨rfl, rfl⟩
 go_wp2
 go_ret
 exact ⟨rfl, T2.out⟩

theorem plength_good (v : Value) (rs : List Int) (w : World) (hv : ArgAt w v rs) (hby : ∀ z ∈ rs, 0 ≤ z ∧ z < 256) (hn : rs.length ≤ 1000000) (h : pLenE rs = 0) :
  Calls Tryz.prog 76 #[v] w fun e w' => e = .returned (.int .i64 (pTold rs)) ∧ Touch (fun _ => False) w w' := by
 obtain ⟨va, vc, rfl, -⟩ := hv.form
 obtain ⟨h1, h2, h3, h4⟩ := pLenE_ok h
 exact plength_ok va vc rs w hv hby hn h1 h2 h3 h4
theorem plength_bad (v : Value) (rs : List Int) (w : World) (hv : ArgAt w v rs) (hby : ∀ z ∈ rs, 0 ≤ z ∧ z < 256) (hn : rs.length ≤ 1000000) (h : pLenE rs ≠ 0) :
  Calls Tryz.prog 76 #[v] w fun e w' => e = .panicked (pflawC (pLenE rs)) ∧ Touch (fun _ => False) w w' := by
 obtain ⟨va, vc, rfl, -⟩ := hv.form
 by_cases h1 : rs.length < 24
 ·rw [show pLenE rs = 10 by unfold pLenE; rw [if_pos h1]]
  exact plength_short va vc rs w hv hby hn h1
 ·by_cases h2 : rs.getD 0 0 = 2
  ·by_cases h3 : 1 ≤ rs.getD 1 0 ∧ rs.getD 1 0 ≤ 5
   ·by_cases h4 : 24 ≤ pTold rs ∧ pTold rs ≤ (rs.length : Int)
    ·exact absurd (PLen.zero ⟨by omega, h2, h3, h4⟩) h
    ·rw [show pLenE rs = 22 by unfold pLenE; rw [if_neg h1, if_neg (by omega), if_neg (by omega), if_pos h4]]
     exact plength_size va vc rs w hv hby hn (by omega) h2 h3 h4
   ·rw [show pLenE rs = 21 by unfold pLenE; rw [if_neg h1, if_neg (by omega), if_pos h3]]
    exact plength_type va vc rs w hv hby hn (by omega) h2 h3
  ·rw [show pLenE rs = 20 by unfold pLenE; rw [if_neg h1, if_pos h2]]
   exact plength_vers va vc rs w hv hby hn (by omega) h2
end Go.Proofs.YtbfplepmgbkajaaGreatDoor

namespace Go.Proofs.YtbfplepmgbkajaaGreatDoor
open Go.RowKit
set_option linter.unusedVariables false
set_option maxRecDepth 100000

theorem plen1_good (gb gn : Nat) (va : Option Addr) (vc : Nat) (rs : List Int) (w : World) (hv : ArgAt w (.slice va rs.length vc) rs) (hby : ∀ z ∈ rs, 0 ≤ z ∧ z < 256) (hn : rs.length ≤ 1000000) (hE : pLenE rs = 0)
  (cb : w.cell? ⟨gb, 0, none⟩ = some (.slice va rs.length vc)) (cn : w.cell? ⟨gn, 0, none⟩ = some (.int .i64 0)) (fn : w.frozen? ⟨gn, 0, none⟩ = false) (hgn : gn < w.heap.size) :
  Calls Tryz.prog 75 #[.pointer (some ⟨gb, 0, none⟩), .pointer (some ⟨gn, 0, none⟩)] w fun e w' => e = .returned (.tuple #[]) ∧ Touch (fun k => k = gn) w w' ∧ w'.cell? ⟨gn, 0, none⟩ = some (.int .i64 (pTold rs)) ∧ w'.frozen? ⟨gn, 0, none⟩ = false := by
 have HL := plength_good (.slice va rs.length vc) rs w hv hby hn hE
 clear hv hby hn hE
 generalize pTold rs = PT at *
 go_enter Tryz.func75, Tryz.ntmps75
 go_wp2_with fail
 refine HL.mono ?_
 rintro e w1 ⟨rfl, t1⟩
 have d1 : w1.cell? ⟨gn, 0, none⟩ = some (.int .i64 0) := (t1.cell (p := ⟨gn, 0, none⟩) hgn (fun h => h)).trans cn
 have f1 : w1.frozen? ⟨gn, 0, none⟩ = false := (t1.frozen (p := ⟨gn, 0, none⟩) hgn (fun h => h)).trans fn
 have T1 : Hid (Touch (fun k => k = gn) w w1) := t1.mono (fun _ _ h => h.elim)
 clear t1 HL cn fn cb
 go_wp2_with fail
 go_end0
 refine ⟨rfl, ?_, ?_, ?_⟩
 ·exact Touch.setCell (F := fun k => k = gn) (p := ⟨gn, 0, none⟩) T1.out (Or.inl rfl) _
 ·simp [d1, go_sem]
 ·simp [f1, go_sem]
theorem plen1_bad (gb gn : Nat) (va : Option Addr) (vc : Nat) (rs : List Int) (w : World) (hv : ArgAt w (.slice va rs.length vc) rs) (hby : ∀ z ∈ rs, 0 ≤ z ∧ z < 256) (hn : rs.length ≤ 1000000) (hE : pLenE rs ≠ 0)
  (cb : w.cell? ⟨gb, 0, none⟩ = some (.slice va rs.length vc)) (cn : w.cell? ⟨gn, 0, none⟩ = some (.int .i64 0)) (fn : w.frozen? ⟨gn, 0, none⟩ = false) (hgn : gn < w.heap.size) :
  Calls Tryz.prog 75 #[.pointer (some ⟨gb, 0, none⟩), .pointer (some ⟨gn, 0, none⟩)] w fun e w' => e = .panicked (pflawC (pLenE rs)) ∧ Touch (fun k => k = gn) w w' ∧ w'.cell? ⟨gn, 0, none⟩ = some (.int .i64 0) ∧ w'.frozen? ⟨gn, 0, none⟩ = false := by
 have HL := plength_bad (.slice va rs.length vc) rs w hv hby hn hE
 clear hv hby hn hE
 generalize pLenE rs = PE at *
 go_enter Tryz.func75, Tryz.ntmps75
 go_wp2_with fail
 refine HL.mono ?_
 rintro e w1 ⟨rfl, t1⟩
 have d1 : w1.cell? ⟨gn, 0, none⟩ = some (.int .i64 0) := (t1.cell (p := ⟨gn, 0, none⟩) hgn (fun h => h)).trans cn
 have f1 : w1.frozen? ⟨gn, 0, none⟩ = false := (t1.frozen (p := ⟨gn, 0, none⟩) hgn (fun h => h)).trans fn
 have T1 : Hid (Touch (fun k => k = gn) w w1) := t1.mono (fun _ _ h => h.elim)
 clear t1 HL cn fn cb
 exact ⟨rfl, rfl, T1.out, d1, f1⟩

set_option maxHeartbeats 1000000 in
theorem plen_good (v : Value) (rs : List Int) (w : World) (hv : ArgAt w v rs) (hby : ∀ z ∈ rs, 0 ≤ z ∧ z < 256) (hn : rs.length ≤ 1000000) (hE : pLenE rs = 0) :
  Calls Tryz.prog 19 #[v] w fun e w' => e = .returned (.tuple #[.int .i64 (pTold rs), .int .i64 0]) ∧ Touch (fun _ => False) w w' := by
 obtain ⟨va, vc, rfl, -⟩ := hv.form
 have hmf : ∀ (fn : Fn) (first cap : Array Value) (w : World), (Instr.makeFunc fn first cap).run Tryz.prog w = .ok (.func fn first cap) w := fun _ _ _ _ => rfl
 obtain ⟨wa, hwa⟩ : ∃ wa, wa = (w.alloc (.cells #[.slice va rs.length vc] 40)).alloc (.cells #[.int .i64 0] 3) := ⟨_, rfl⟩
 have ta : Touch (fun _ => False) w wa := by rw [hwa]; exact ((Touch.refl _ w).alloc _).alloc _
 have sza : wa.heap.size = w.heap.size + 2 := by rw [hwa]; simp
 have ca : wa.cell? ⟨w.heap.size, 0, none⟩ = some (.slice va rs.length vc) := by rw [hwa]; simp [go_sem]
 have cb : wa.cell? ⟨w.heap.size + 1, 0, none⟩ = some (.int .i64 0) := by rw [hwa]; simp [go_sem]
 have fb : wa.frozen? ⟨w.heap.size + 1, 0, none⟩ = false := by rw [hwa]; simp [go_sem]
 have tf : Touch (fun _ => False) wa (wa.alloc (.cells #[.int .i64 0] 41)) := (Touch.refl _ wa).alloc _
 have HC := plen1_good w.heap.size (w.heap.size + 1) va vc rs (wa.alloc (.cells #[.int .i64 0] 41)) ((hv.keep ta (fun _ _ h => h)).keep tf (fun _ _ h => h)) hby hn hE
  ((tf.cell (p := ⟨w.heap.size, 0, none⟩) (by simp only; omega) (fun h => h)).trans ca) ((tf.cell (p := ⟨w.heap.size + 1, 0, none⟩) (by simp only; omega) (fun h => h)).trans cb) ((tf.frozen (p := ⟨w.heap.size + 1, 0, none⟩) (by simp only; omega) (fun h => h)).trans fb) (by have := tf.size; omega)
 have HF := pface_ok 75 #[.pointer (some ⟨w.heap.size, 0, none⟩), .pointer (some ⟨w.heap.size + 1, 0, none⟩)] (fun _ => rfl) wa (fun k => k = w.heap.size + 1) (by omega) (fun w' => w'.cell? ⟨w.heap.size + 1, 0, none⟩ = some (.int .i64 (pTold rs)) ∧ w'.frozen? ⟨w.heap.size + 1, 0, none⟩ = false) HC
  (fun w1 w2 h1 t => ⟨(t.cell (lt_of_cellA h1.1) (by simp only; omega)).trans h1.1, (t.frozen (lt_of_cellA h1.1) (by simp only; omega)).trans h1.2⟩)
 have TA : Hid (Touch (fun _ => False) w wa) := ta
 clear HC hv hby hn hE ta tf ca cb fb sza
 generalize pTold rs = PT at *
 go_enter Tryz.func19, Tryz.ntmps19
 go_wp2_with fail
 rw [← hwa]
 refine HF.mono ?_
 rintro e w1 ⟨rfl, t1, k1, f1⟩
 have T1 : Hid (Touch (fun _ => False) w w1) := TA.out.trans' t1 (fun i hi e => by omega)
 clear t1 HF hwa hmf
 have de : (w1.setCell ⟨w.heap.size + 1, 0, none⟩ (.int .i64 PT)).cell? ⟨w.heap.size + 1, 0, none⟩ = some (.int .i64 PT) := by simp [k1, go_sem]
 have T2 : Hid (Touch (fun _ => False) w (w1.setCell ⟨w.heap.size + 1, 0, none⟩ (.int .i64 PT))) := Touch.setCell (p := ⟨w.heap.size + 1, 0, none⟩) T1.out (Or.inr (by simp only; omega)) _
 go_wp2_with fail
 refine bodyPost_ret (v := .tuple #[.int .i64 PT, .int .i64 0]) (by simp [results, Tryz.results19, go_sem, de]) rfl ?_
 exact ⟨rfl, T2.out⟩

set_option maxHeartbeats 1000000 in
theorem plen_bad (v : Value) (rs : List Int) (w : World) (hv : ArgAt w v rs) (hby : ∀ z ∈ rs, 0 ≤ z ∧ z < 256) (hn : rs.length ≤ 1000000) (hE : pLenE rs ≠ 0) :
  Calls Tryz.prog 19 #[v] w fun e w' => e = .returned (.tuple #[.int .i64 0, .int .i64 (pLenE rs)]) ∧ Touch (fun _ => False) w w' := by
 obtain ⟨va, vc, rfl, -⟩ := hv.form
 have hmf : ∀ (fn : Fn) (first cap : Array Value) (w : World), (Instr.makeFunc fn first cap).run Tryz.prog w = .ok (.func fn first cap) w := fun _ _ _ _ => rfl
 obtain ⟨wa, hwa⟩ : ∃ wa, wa = (w.alloc (.cells #[.slice va rs.length vc] 40)).alloc (.cells #[.int .i64 0] 3) := ⟨_, rfl⟩
 have ta : Touch (fun _ => False) w wa := by rw [hwa]; exact ((Touch.refl _ w).alloc _).alloc _
 have sza : wa.heap.size = w.heap.size + 2 := by rw [hwa]; simp
 have ca : wa.cell? ⟨w.heap.size, 0, none⟩ = some (.slice va rs.length vc) := by rw [hwa]; simp [go_sem]
 have cb : wa.cell? ⟨w.heap.size + 1, 0, none⟩ = some (.int .i64 0) := by rw [hwa]; simp [go_sem]
 have fb : wa.frozen? ⟨w.heap.size + 1, 0, none⟩ = false := by rw [hwa]; simp [go_sem]
 have tf : Touch (fun _ => False) wa (wa.alloc (.cells #[.int .i64 0] 41)) := (Touch.refl _ wa).alloc _
 have HC := plen1_bad w.heap.size (w.heap.size + 1) va vc rs (wa.alloc (.cells #[.int .i64 0] 41)) ((hv.keep ta (fun _ _ h => h)).keep tf (fun _ _ h => h)) hby hn hE
  ((tf.cell (p := ⟨w.heap.size, 0, none⟩) (by simp only; omega) (fun h => h)).trans ca) ((tf.cell (p := ⟨w.heap.size + 1, 0, none⟩) (by simp only; omega) (fun h => h)).trans cb) ((tf.frozen (p := ⟨w.heap.size + 1, 0, none⟩) (by simp only; omega) (fun h => h)).trans fb) (by have := tf.size; omega)
 have HF := pface_no 75 #[.pointer (some ⟨w.heap.size, 0, none⟩), .pointer (some ⟨w.heap.size + 1, 0, none⟩)] (fun _ => rfl) wa (fun k => k = w.heap.size + 1) (by omega) (pLenE rs) (fun w' => w'.cell? ⟨w.heap.size + 1, 0, none⟩ = some (.int .i64 0) ∧ w'.frozen? ⟨w.heap.size + 1, 0, none⟩ = false) HC
  (fun w1 w2 h1 t => ⟨(t.cell (lt_of_cellA h1.1) (by simp only; omega)).trans h1.1, (t.frozen (lt_of_cellA h1.1) (by simp only; omega)).trans h1.2⟩)
 have TA : Hid (Touch (fun _ => False) w wa) := ta
 clear HC hv hby hn hE ta tf ca cb fb sza
 generalize pLenE rs = PE at *
 go_enter Tryz.func19, Tryz.ntmps19
 go_wp2_with fail
 rw [← hwa]
 refine HF.mono ?_
 rintro e w1 ⟨rfl, t1, k1, f1⟩
 have T1 : Hid (Touch (fun _ => False) w w1) := TA.out.trans' t1 (fun i hi e => by omega)
 clear t1 HF hwa hmf
 have de : (w1.setCell ⟨w.heap.size + 1, 0, none⟩ (.int .i64 0)).cell? ⟨w.heap.size + 1, 0, none⟩ = some (.int .i64 0) := by simp [k1, go_sem]
 have T2 : Hid (Touch (fun _ => False) w (w1.setCell ⟨w.heap.size + 1, 0, none⟩ (.int .i64 0))) := Touch.setCell (p := ⟨w.heap.size + 1, 0, none⟩) T1.out (Or.inr (by simp only; omega)) _
 go_wp2_with fail
 refine bodyPost_ret (v := .tuple #[.int .i64 0, .int .i64 PE]) (by simp [results, Tryz.results19, go_sem, de]) rfl ?_
 exact ⟨rfl, T2.out⟩

theorem plenP_any (v : Value) (rs : List Int) (w : World) (hv : ArgAt w v rs) (hby : ∀ z ∈ rs, 0 ≤ z ∧ z < 256) (hn : rs.length ≤ 1000000) :
  Calls Tryz.prog 19 #[v] w fun e w' => e = .returned (.tuple #[.int .i64 (pLenN rs), .int .i64 (pLenE rs)]) ∧ Touch (fun _ => False) w w' := by
 by_cases h : pLenE rs = 0
 ·have := plen_good v rs w hv hby hn h
  rw [show pLenN rs = pTold rs by unfold pLenN; rw [if_pos h], h]
  exact this
 ·have := plen_bad v rs w hv hby hn h
  rw [show pLenN rs = 0 by unfold pLenN; rw [if_neg h]]
  exact this

set_option maxHeartbeats 1000000 in
theorem summed_any (v : Value) (rs : List Int) (w : World) (hv : ArgAt w v rs) (hl : 24 ≤ rs.length) (hn : rs.length ≤ 1000000) :
  Calls Tryz.prog 78 #[v] w fun e w' => ∃ v', e = .returned v' ∧ Buf w w' v' (summedB rs) := by
 obtain ⟨va, vc, rfl, -⟩ := hv.form
 obtain ⟨u1, hu1, ua1⟩ := cut_to hv rfl (by omega) 16 (by omega)
 obtain ⟨u2, hu2, ua2⟩ := cut_from hv rfl (by omega) 24 (by omega)
 replace hu1 : ∀ w, Sem.run Tryz.prog (Instr.slice 40 (.slice va rs.length vc) none (some (.int .i64 16)) none) w = .ok u1 w := hu1
 replace hu2 : ∀ w, Sem.run Tryz.prog (Instr.slice 40 (.slice va rs.length vc) (some (.int .i64 24)) none none) w = .ok u2 w := hu2
 obtain ⟨b1, k1, rfl, -⟩ := ua1.form
 obtain ⟨b2, k2, rfl, -⟩ := ua2.form
 have hl1 : (rs.take 16).length ≤ 1073741824 := by rw [List.length_take]; omega
 have hl2 : (rs.drop 24).length ≤ 1073741824 := by rw [List.length_drop]; omega
 have HS : Hid (rs.take 16 ++ rs.drop 24 = summedB rs) := rfl
 have U1 : Hid (ArgAt w (.slice b1 (rs.take 16).length k1) (rs.take 16)) := ua1
 have U2 : Hid (ArgAt w (.slice b2 (rs.drop 24).length k2) (rs.drop 24)) := ua2
 clear ua1 ua2 hv
 generalize summedB rs = SB at *
 generalize rs.take 16 = r1 at *
 generalize rs.drop 24 = r2 at *
 have HC : Hid (∀ w1, Touch (fun _ => False) w w1 → w1.cell? ⟨w.heap.size, 0, none⟩ = some (.slice b1 r1.length k1) → w1.cell? ⟨w.heap.size, 1, none⟩ = some (.slice b2 r2.length k2) → Calls Tryz.prog 119 #[.slice (some ⟨w.heap.size, 0, none⟩) 2 2] w1 fun e w' => ∃ v', e = .returned v' ∧ Buf w w' v' SB) := by
  intro w1 t1 c1 c2
  refine (concat_any w.heap.size _ _ r1 r2 w1 c1 c2 (U1.out.keep t1 (fun _ _ h => h)) (U2.out.keep t1 (fun _ _ h => h)) hl1 hl2).mono ?_
  rintro e w2 ⟨p, rfl, hb⟩
  have := hb.back t1
  rw [HS.out] at this
  exact ⟨p, rfl, this⟩
 clear hl hn hl1 hl2 HS U1 U2
 go_enter Tryz.func78, Tryz.ntmps78
 go_wp2_with fail
 go_region_held3 (fun _ => True) (trivial) (first | (go_at_call 119; refine (HC.out _ (by first | exact ((Touch.refl _ w).drew).alloc _ | exact (((Touch.refl _ w).drew).alloc _).drew | exact ((Touch.refl _ w).alloc _).drew | exact (Touch.refl _ w).alloc _) (by simp [go_sem]) (by simp [go_sem])).mono ?_; rintro e w2 ⟨p, rfl, hb⟩))
 go_wp2
 go_ret
 exact ⟨p, rfl, by first | exact hb | exact hb.keep (Touch.refl _ _).drew⟩

set_option maxHeartbeats 1000000 in
theorem pright_any (v : Value) (rs : List Int) (w : World) (hv : ArgAt w v rs) (hby : ∀ z ∈ rs, 0 ≤ z ∧ z < 256) (hn : rs.length ≤ 1000000) :
  Calls Tryz.prog 22 #[v] w fun e w' => e = .returned (.bool (pRight rs)) ∧ Touch (fun _ => False) w w' := by
 have HL := plenP_any v rs w hv hby hn
 obtain ⟨va, vc, rfl, -⟩ := hv.form
 by_cases hE : pLenE rs = 0
 ·have P := pLenE_ok hE
  obtain ⟨pn, hpn⟩ : ∃ pn : Nat, pTold rs = (pn : Int) := ⟨(pTold rs).toNat, by have := P.n; omega⟩
  have hp1 : 24 ≤ pn := by have := P.n; omega
  have hp2 : pn ≤ rs.length := by have := P.n; omega
  obtain ⟨u, hu, ua⟩ := cut_to hv rfl (by omega) pn (by omega)
  have HR : Hid (pRight rs = (fold (W true (summedB (rs.take pn))) == 65535)) := by show _ = _; unfold pRight; rw [hE, hpn]; simp
  rw [show pLenN rs = pTold rs by unfold pLenN; rw [if_pos hE], hE, hpn] at HL
  have hul : (rs.take pn).length = pn := by rw [List.length_take]; omega
  have HS : Hid (∀ w', Touch (fun _ => False) w w' → Calls Tryz.prog 78 #[u] w' fun e w'' => ∃ v', e = .returned v' ∧ Buf w w'' v' (summedB (rs.take pn))) := by
   intro w' t
   refine (summed_any u (rs.take pn) w' (ua.keep t (fun _ _ h => h)) (by omega) (by omega)).mono ?_
   rintro e w2 ⟨p, rfl, hb⟩
   exact ⟨p, rfl, hb.back t⟩
  have HB : Hid (∀ z ∈ summedB (rs.take pn), 0 ≤ z ∧ z < 256) := by
   intro z hz
   unfold summedB at hz
   rcases List.mem_append.1 hz with h | h
   ·exact hby z (List.mem_of_mem_take (List.mem_of_mem_take h))
   ·exact hby z (List.mem_of_mem_take (List.mem_of_mem_drop h))
  generalize summedB (rs.take pn) = SB at *
  generalize pRight rs = PR at *
  clear hv hby hn hE P hpn hul ua hp1 hp2
  go_enter Tryz.func22, Tryz.ntmps22
  go_wp2_with fail
  refine HL.mono ?_
  rintro e w1 ⟨rfl, t1⟩
  have T1 : Hid (Touch (fun _ => False) w w1) := t1
  clear t1 HL
  go_wp2_with fail
  refine (HS.out _ T1.out).mono ?_
  rintro e w2 ⟨p, rfl, hb⟩
  have B2 : Hid (Buf w w2 p SB) := hb
  clear hb HS
  go_wp2_with fail
  refine (right_any p SB _ B2.out.arg HB.out).mono ?_
  rw [← HR.out]
  rintro e w3 ⟨rfl, t3⟩
  have T3 : Hid (Touch (fun _ => False) w w3) := B2.out.t.trans t3
  clear t3 HR
  go_wp2
  go_ret
  exact ⟨rfl, T3.out⟩
 ·have HR : Hid (pRight rs = false) := by show _ = _; unfold pRight; simp [hE]
  have hq : ((pLenE rs : Int) == 0) = false := by simpa using hE
  generalize pRight rs = PR at *
  generalize pLenE rs = PE at *
  generalize pLenN rs = PN at *
  clear hv hby hn hE
  go_enter Tryz.func22, Tryz.ntmps22
  go_wp2_with fail
  refine HL.mono ?_
  rintro e w1 ⟨rfl, t1⟩
  have T1 : Hid (Touch (fun _ => False) w w1) := t1
  clear t1 HL
  go_wp2
  go_ret
  exact ⟨by rw [HR.out]; rfl, T1.out⟩
end Go.Proofs.YtbfplepmgbkajaaGreatDoor
