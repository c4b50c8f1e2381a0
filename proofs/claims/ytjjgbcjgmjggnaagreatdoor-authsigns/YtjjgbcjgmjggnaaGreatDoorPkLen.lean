/- Package packet: isType, length. -/
import Derived.Test.YtjjgbcjgmjggnaaGreatDoorPkFace
import Derived.Test.YtjjgbcjgmjggnaaGreatDoorAuPure
import Derived.Test.YtjjgbcjgmjggnaaGreatDoorStRd
import Derived.Test.YtjjgbcjgmjggnaaGreatDoorHeadV
import Derived.Test.YtjjgbcjgmjggnaaGreatDoorDig1
import Derived.Test.YtjjgbcjgmjggnaaGreatDoorSumWords3
import Derived.Deep.RegionHeld3
import Derived.Deep.DeepCutAuto
namespace Go.Proofs.YtjjgbcjgmjggnaaGreatDoor
open Go.RowKit
set_option linter.unusedVariables false
set_option maxRecDepth 100000

theorem pisType_any (t : Int) (w : World) (h0 : 0 ≤ t) : Calls Tryz.prog 105 #[.int .u8 t] w fun e w' => e = .returned (.bool (decide (1 ≤ t ∧ t ≤ 5))) ∧ w = w' := by
  have HK : Hid (decide (1 ≤ t ∧ t ≤ 5) = (decide (1 ≤ t) && decide (t ≤ 5))) := by show _ = _; by_cases h1 : 1 ≤ t <;> by_cases h2 : t ≤ 5 <;> simp [h1, h2]
  generalize decide (1 ≤ t ∧ t ≤ 5) = k at HK ⊢
  go_enter Tryz.func105, Tryz.ntmps105
  go_wp2
  all_goals go_ret
  all_goals refine ⟨ret_bool ?_, rfl⟩
  all_goals (rw [HK.out, Bool.eq_iff_iff]; simp; omega)

set_option maxHeartbeats 1000000 in
theorem plength_short (va : Option Addr) (vc : Nat) (rs : List Int) (w : World) (hv : ArgAt w (.slice va rs.length vc) rs) (hby : ∀ z ∈ rs, 0 ≤ z ∧ z < 256) (hn : rs.length ≤ 1000000) (hl : rs.length < 24) :
    Calls Tryz.prog 76 #[.slice va rs.length vc] w fun e w' => e = .panicked (pflawC 10) ∧ Touch (fun _ => False) w w' := by
  have hnn : (rs.length : Int) ≤ 1000000 := by omega
  have h1 : ¬ (24 : Int) ≤ (rs.length : Int) := by omega
  clear hv hby
  go_enter Tryz.func76, Tryz.ntmps76
  go_wp2_with fail
  refine Calls.mono (pneed_f _ 10 _ (by first | rfl | simpa using h1)) ?_
  rintro e wn ⟨rfl, rfl⟩
  exact ⟨rfl, rfl, Touch.refl _ _⟩

set_option maxHeartbeats 1000000 in
theorem plength_vers (va : Option Addr) (vc : Nat) (rs : List Int) (w : World) (hv : ArgAt w (.slice va rs.length vc) rs) (hby : ∀ z ∈ rs, 0 ≤ z ∧ z < 256) (hn : rs.length ≤ 1000000) (hl : 24 ≤ rs.length) (h2 : rs.getD 0 0 ≠ 2) :
    Calls Tryz.prog 76 #[.slice va rs.length vc] w fun e w' => e = .panicked (pflawC 20) ∧ Touch (fun _ => False) w w' := by
  have hnn : (rs.length : Int) ≤ 1000000 := by omega
  have h1 : (24 : Int) ≤ (rs.length : Int) := by omega
  obtain ⟨ga, oa, rfl⟩ := rowAt_some (hv.row (by omega)) (by omega)
  have b0 := rowAt_cell (hv.row (by omega)) 0 (by omega)
  have b1 := rowAt_cell (hv.row (by omega)) 1 (by omega)
  rw [Nat.add_zero] at b0
  have hi0 : (0 : Int) < (rs.length : Int) := by omega
  have hi1 : (1 : Int) < (rs.length : Int) := by omega
  have hj0 : 0 < rs.length := by omega
  have hj1 : 1 < rs.length := by omega
  have hb1 : 0 ≤ rs.getD 1 0 := by have := hby (rs.getD 1 0) (by simp [List.getD, hj1]); omega
  generalize rs.getD 0 0 = m0 at *
  have hm : ((m0 : Int) == 2) = false := by simpa using h2
  clear hv hby b1
  go_enter Tryz.func76, Tryz.ntmps76
  go_wp2_with fail
  refine Calls.mono (pneed_t _ 10 _ (by first | rfl | simpa using h1)) ?_
  rintro e wn ⟨rfl, rfl⟩
  go_wp2_with fail
  refine Calls.mono (pneed_f _ 20 _ (by first | rfl | exact hm)) ?_
  rintro e wn ⟨rfl, rfl⟩
  exact ⟨rfl, rfl, Touch.refl _ _⟩

set_option maxHeartbeats 1000000 in
theorem plength_type (va : Option Addr) (vc : Nat) (rs : List Int) (w : World) (hv : ArgAt w (.slice va rs.length vc) rs) (hby : ∀ z ∈ rs, 0 ≤ z ∧ z < 256) (hn : rs.length ≤ 1000000) (hl : 24 ≤ rs.length) (h2 : rs.getD 0 0 = 2) (h3 : ¬ (1 ≤ rs.getD 1 0 ∧ rs.getD 1 0 ≤ 5)) :
    Calls Tryz.prog 76 #[.slice va rs.length vc] w fun e w' => e = .panicked (pflawC 21) ∧ Touch (fun _ => False) w w' := by
  have hnn : (rs.length : Int) ≤ 1000000 := by omega
  have h1 : (24 : Int) ≤ (rs.length : Int) := by omega
  obtain ⟨ga, oa, rfl⟩ := rowAt_some (hv.row (by omega)) (by omega)
  have b0 := rowAt_cell (hv.row (by omega)) 0 (by omega)
  have b1 := rowAt_cell (hv.row (by omega)) 1 (by omega)
  rw [Nat.add_zero] at b0
  have hi0 : (0 : Int) < (rs.length : Int) := by omega
  have hi1 : (1 : Int) < (rs.length : Int) := by omega
  have hj0 : 0 < rs.length := by omega
  have hj1 : 1 < rs.length := by omega
  have hb1 : 0 ≤ rs.getD 1 0 := by have := hby (rs.getD 1 0) (by simp [List.getD, hj1]); omega
  have hm : ((rs.getD 0 0 : Int) == 2) = true := by simpa using h2
  have HTY := fun w => pisType_any (rs.getD 1 0) w hb1
  have HD : decide (1 ≤ rs.getD 1 0 ∧ rs.getD 1 0 ≤ 5) = false := decide_eq_false h3
  rw [HD] at HTY
  clear h2 h3 HD hb1
  generalize rs.getD 0 0 = m0 at *
  generalize rs.getD 1 0 = m1 at *
  clear hv hby
  go_enter Tryz.func76, Tryz.ntmps76
  go_wp2_with fail
  refine Calls.mono (pneed_t _ 10 _ (by first | rfl | simpa using h1)) ?_
  rintro e wn ⟨rfl, rfl⟩
  go_wp2_with fail
  refine Calls.mono (pneed_t _ 20 _ (by first | rfl | exact hm)) ?_
  rintro e wn ⟨rfl, rfl⟩
  go_wp2_with fail
  refine Calls.mono (HTY _) ?_
  rintro e wn ⟨rfl, rfl⟩
  go_wp2_with fail
  refine Calls.mono (pneed_f _ 21 _ (by first | rfl | rfl)) ?_
  rintro e wn ⟨rfl, rfl⟩
  exact ⟨rfl, rfl, Touch.refl _ _⟩

set_option maxHeartbeats 1000000 in
theorem plength_size (va : Option Addr) (vc : Nat) (rs : List Int) (w : World) (hv : ArgAt w (.slice va rs.length vc) rs) (hby : ∀ z ∈ rs, 0 ≤ z ∧ z < 256) (hn : rs.length ≤ 1000000) (hl : 24 ≤ rs.length) (h2 : rs.getD 0 0 = 2) (h3 : 1 ≤ rs.getD 1 0 ∧ rs.getD 1 0 ≤ 5) (h4 : ¬ (24 ≤ pTold rs ∧ pTold rs ≤ (rs.length : Int))) :
    Calls Tryz.prog 76 #[.slice va rs.length vc] w fun e w' => e = .panicked (pflawC 22) ∧ Touch (fun _ => False) w w' := by
  have hnn : (rs.length : Int) ≤ 1000000 := by omega
  have h1 : (24 : Int) ≤ (rs.length : Int) := by omega
  obtain ⟨ga, oa, rfl⟩ := rowAt_some (hv.row (by omega)) (by omega)
  have b0 := rowAt_cell (hv.row (by omega)) 0 (by omega)
  have b1 := rowAt_cell (hv.row (by omega)) 1 (by omega)
  rw [Nat.add_zero] at b0
  have hi0 : (0 : Int) < (rs.length : Int) := by omega
  have hi1 : (1 : Int) < (rs.length : Int) := by omega
  have hj0 : 0 < rs.length := by omega
  have hj1 : 1 < rs.length := by omega
  have hb1 : 0 ≤ rs.getD 1 0 := by have := hby (rs.getD 1 0) (by simp [List.getD, hj1]); omega
  have hm : ((rs.getD 0 0 : Int) == 2) = true := by simpa using h2
  have HTY := fun w => pisType_any (rs.getD 1 0) w hb1
  have HD : decide (1 ≤ rs.getD 1 0 ∧ rs.getD 1 0 ≤ 5) = true := decide_eq_true h3
  rw [HD] at HTY
  obtain ⟨u, hu, ua⟩ := cut_mid hv rfl (by omega) 2 4 (by omega) (by omega)
  replace hu : ∀ w, Sem.run Tryz.prog (Instr.slice 22 (.slice (some ⟨ga, oa, none⟩) rs.length vc) (some (.int .i64 2)) (some (.int .i64 4)) none) w = .ok u w := hu
  have UA : Hid (ArgAt w u ((rs.drop 2).take 2)) := ua
  have hul : ((rs.drop 2).take 2).length = 2 := by rw [List.length_take, List.length_drop]; omega
  have UB : Hid (∀ z ∈ (rs.drop 2).take 2, 0 ≤ z ∧ z < 256) := fun z hz => hby z (List.mem_of_mem_drop (List.mem_of_mem_take hz))
  have HNU : Hid (numAt ((rs.drop 2).take 2) (some 0) 2 = pTold rs) := by
    show _ = _
    unfold pTold numAt
    simp only [hul]
    rw [if_pos (by omega), List.drop_zero, List.take_of_length_le (by omega)]
  have hpt : 0 ≤ pTold rs ∧ pTold rs < 65536 := by
    have h := numOf_bound ((rs.drop 2).take 2) UB.out
    rw [hul] at h
    exact h
  have hw64 : IntKind.i64.wrap (pTold rs) = pTold rs := by simp [IntKind.wrap, IntKind.bits, IntKind.signed]; omega
  have HUL : Hid (((rs.drop 2).take 2).length = 2) := hul
  obtain ⟨pt0, pt1⟩ := hpt
  clear h2 h3 HD hb1 ua hul
  generalize (rs.drop 2).take 2 = ub at *
  generalize pTold rs = PT at *
  generalize rs.getD 0 0 = m0 at *
  generalize rs.getD 1 0 = m1 at *
  clear hv hby
  by_cases h5 : (24 : Int) ≤ PT
  · have h6 : ¬ PT ≤ (rs.length : Int) := by omega
    clear h4
    go_enter Tryz.func76, Tryz.ntmps76
    go_wp2_with fail
    refine Calls.mono (pneed_t _ 10 _ (by first | rfl | simpa using h1)) ?_
    rintro e wn ⟨rfl, rfl⟩
    go_wp2_with fail
    refine Calls.mono (pneed_t _ 20 _ (by first | rfl | exact hm)) ?_
    rintro e wn ⟨rfl, rfl⟩
    go_wp2_with fail
    refine Calls.mono (HTY _) ?_
    rintro e wn ⟨rfl, rfl⟩
    go_wp2_with fail
    refine Calls.mono (pneed_t _ 21 _ (by first | rfl | rfl)) ?_
    rintro e wn ⟨rfl, rfl⟩
    go_wp2_with fail
    refine Calls.mono (read_r u ub _ UA.out UB.out (by have := HUL.out; omega)) ?_
    rintro e w1 ⟨rb, rfl, hrb, hrd, t1⟩
    have RD : Hid (Rdr w1.heap.size w1 rb ub (some 0)) := hrd
    have T1 : Hid (Touch (fun _ => False) w w1) := t1
    have HRB : Hid (w.heap.size ≤ rb) := hrb
    clear hrd t1 hrb b0 b1
    go_wp2_with fail
    refine Calls.mono (rnum2 _ rb ub (some 0) w1 RD.out) ?_
    rw [HNU.out]
    rintro e w2 ⟨rfl, -, t2⟩
    have T2 : Hid (Touch (fun _ => False) w w2) := T1.out.trans' t2 (fun i hi e => by have := HRB.out; omega)
    clear t2 HNU
    go_wp2_with fail
    refine Calls.mono (pneed_f _ 22 _ (by first | rfl | simpa using h6)) ?_
    rintro e wn ⟨rfl, rfl⟩
    exact ⟨rfl, rfl, T2.out⟩
  · clear h4
    go_enter Tryz.func76, Tryz.ntmps76
    go_wp2_with fail
    refine Calls.mono (pneed_t _ 10 _ (by first | rfl | simpa using h1)) ?_
    rintro e wn ⟨rfl, rfl⟩
    go_wp2_with fail
    refine Calls.mono (pneed_t _ 20 _ (by first | rfl | exact hm)) ?_
    rintro e wn ⟨rfl, rfl⟩
    go_wp2_with fail
    refine Calls.mono (HTY _) ?_
    rintro e wn ⟨rfl, rfl⟩
    go_wp2_with fail
    refine Calls.mono (pneed_t _ 21 _ (by first | rfl | rfl)) ?_
    rintro e wn ⟨rfl, rfl⟩
    go_wp2_with fail
    refine Calls.mono (read_r u ub _ UA.out UB.out (by have := HUL.out; omega)) ?_
    rintro e w1 ⟨rb, rfl, hrb, hrd, t1⟩
    have RD : Hid (Rdr w1.heap.size w1 rb ub (some 0)) := hrd
    have T1 : Hid (Touch (fun _ => False) w w1) := t1
    have HRB : Hid (w.heap.size ≤ rb) := hrb
    clear hrd t1 hrb b0 b1
    go_wp2_with fail
    refine Calls.mono (rnum2 _ rb ub (some 0) w1 RD.out) ?_
    rw [HNU.out]
    rintro e w2 ⟨rfl, -, t2⟩
    have T2 : Hid (Touch (fun _ => False) w w2) := T1.out.trans' t2 (fun i hi e => by have := HRB.out; omega)
    clear t2 HNU
    go_wp2_with fail
    refine Calls.mono (pneed_f _ 22 _ (by first | rfl | simpa using h5)) ?_
    rintro e wn ⟨rfl, rfl⟩
    exact ⟨rfl, rfl, T2.out⟩

set_option maxHeartbeats 1000000 in
theorem plength_ok (va : Option Addr) (vc : Nat) (rs : List Int) (w : World) (hv : ArgAt w (.slice va rs.length vc) rs) (hby : ∀ z ∈ rs, 0 ≤ z ∧ z < 256) (hn : rs.length ≤ 1000000) (hl : 24 ≤ rs.length) (h2 : rs.getD 0 0 = 2) (h3 : 1 ≤ rs.getD 1 0 ∧ rs.getD 1 0 ≤ 5) (h4 : 24 ≤ pTold rs ∧ pTold rs ≤ (rs.length : Int)) :
    Calls Tryz.prog 76 #[.slice va rs.length vc] w fun e w' => e = .returned (.int .i64 (pTold rs)) ∧ Touch (fun _ => False) w w' := by
  have hnn : (rs.length : Int) ≤ 1000000 := by omega
  have h1 : (24 : Int) ≤ (rs.length : Int) := by omega
  obtain ⟨ga, oa, rfl⟩ := rowAt_some (hv.row (by omega)) (by omega)
  have b0 := rowAt_cell (hv.row (by omega)) 0 (by omega)
  have b1 := rowAt_cell (hv.row (by omega)) 1 (by omega)
  rw [Nat.add_zero] at b0
  have hi0 : (0 : Int) < (rs.length : Int) := by omega
  have hi1 : (1 : Int) < (rs.length : Int) := by omega
  have hj0 : 0 < rs.length := by omega
  have hj1 : 1 < rs.length := by omega
  have hb1 : 0 ≤ rs.getD 1 0 := by have := hby (rs.getD 1 0) (by simp [List.getD, hj1]); omega
  have hm : ((rs.getD 0 0 : Int) == 2) = true := by simpa using h2
  have HTY := fun w => pisType_any (rs.getD 1 0) w hb1
  have HD : decide (1 ≤ rs.getD 1 0 ∧ rs.getD 1 0 ≤ 5) = true := decide_eq_true h3
  rw [HD] at HTY
  obtain ⟨u, hu, ua⟩ := cut_mid hv rfl (by omega) 2 4 (by omega) (by omega)
  replace hu : ∀ w, Sem.run Tryz.prog (Instr.slice 22 (.slice (some ⟨ga, oa, none⟩) rs.length vc) (some (.int .i64 2)) (some (.int .i64 4)) none) w = .ok u w := hu
  have UA : Hid (ArgAt w u ((rs.drop 2).take 2)) := ua
  have hul : ((rs.drop 2).take 2).length = 2 := by rw [List.length_take, List.length_drop]; omega
  have UB : Hid (∀ z ∈ (rs.drop 2).take 2, 0 ≤ z ∧ z < 256) := fun z hz => hby z (List.mem_of_mem_drop (List.mem_of_mem_take hz))
  have HNU : Hid (numAt ((rs.drop 2).take 2) (some 0) 2 = pTold rs) := by
    show _ = _
    unfold pTold numAt
    simp only [hul]
    rw [if_pos (by omega), List.drop_zero, List.take_of_length_le (by omega)]
  have hpt : 0 ≤ pTold rs ∧ pTold rs < 65536 := by
    have h := numOf_bound ((rs.drop 2).take 2) UB.out
    rw [hul] at h
    exact h
  have hw64 : IntKind.i64.wrap (pTold rs) = pTold rs := by simp [IntKind.wrap, IntKind.bits, IntKind.signed]; omega
  have HUL : Hid (((rs.drop 2).take 2).length = 2) := hul
  obtain ⟨pt0, pt1⟩ := hpt
  clear h2 h3 HD hb1 ua hul
  generalize (rs.drop 2).take 2 = ub at *
  generalize pTold rs = PT at *
  generalize rs.getD 0 0 = m0 at *
  generalize rs.getD 1 0 = m1 at *
  clear hv hby
  obtain ⟨h5, h6⟩ := h4
  go_enter Tryz.func76, Tryz.ntmps76
  go_wp2_with fail
  refine Calls.mono (pneed_t _ 10 _ (by first | rfl | simpa using h1)) ?_
  rintro e wn ⟨rfl, rfl⟩
  go_wp2_with fail
  refine Calls.mono (pneed_t _ 20 _ (by first | rfl | exact hm)) ?_
  rintro e wn ⟨rfl, rfl⟩
  go_wp2_with fail
  refine Calls.mono (HTY _) ?_
  rintro e wn ⟨rfl, rfl⟩
  go_wp2_with fail
  refine Calls.mono (pneed_t _ 21 _ (by first | rfl | rfl)) ?_
  rintro e wn ⟨rfl, rfl⟩
  go_wp2_with fail
  refine Calls.mono (read_r u ub _ UA.out UB.out (by have := HUL.out; omega)) ?_
  rintro e w1 ⟨rb, rfl, hrb, hrd, t1⟩
  have RD : Hid (Rdr w1.heap.size w1 rb ub (some 0)) := hrd
  have T1 : Hid (Touch (fun _ => False) w w1) := t1
  have HRB : Hid (w.heap.size ≤ rb) := hrb
  clear hrd t1 hrb b0 b1
  go_wp2_with fail
  refine Calls.mono (rnum2 _ rb ub (some 0) w1 RD.out) ?_
  rw [HNU.out]
  rintro e w2 ⟨rfl, -, t2⟩
  have T2 : Hid (Touch (fun _ => False) w w2) := T1.out.trans' t2 (fun i hi e => by have := HRB.out; omega)
  clear t2 HNU
  go_wp2_with fail
  refine Calls.mono (pneed_t _ 22 _ (by first | rfl | simpa using h6)) ?_
  rintro e wn ⟨rfl, rfl⟩
  go_wp2
  go_ret
  exact ⟨rfl, T2.out⟩

theorem plength_good (v : Value) (rs : List Int) (w : World) (hv : ArgAt w v rs) (hby : ∀ z ∈ rs, 0 ≤ z ∧ z < 256) (hn : rs.length ≤ 1000000) (h : pLenE rs = 0) :
    Calls Tryz.prog 76 #[v] w fun e w' => e = .returned (.int .i64 (pTold rs)) ∧ Touch (fun _ => False) w w' := by
  obtain ⟨va, vc, rfl, -⟩ := hv.form
  obtain ⟨h1, h2, h3, h4⟩ := pLenE_ok h
  exact plength_ok va vc rs w hv hby hn h1 h2 h3 h4
theorem plength_bad (v : Value) (rs : List Int) (w : World) (hv : ArgAt w v rs) (hby : ∀ z ∈ rs, 0 ≤ z ∧ z < 256) (hn : rs.length ≤ 1000000) (h : pLenE rs ≠ 0) :
    Calls Tryz.prog 76 #[v] w fun e w' => e = .panicked (pflawC (pLenE rs)) ∧ Touch (fun _ => False) w w' := by
  obtain ⟨va, vc, rfl, -⟩ := hv.form
  by_cases h1 : rs.length < 24
  · rw [show pLenE rs = 10 by unfold pLenE; rw [if_pos h1]]
    exact plength_short va vc rs w hv hby hn h1
  · by_cases h2 : rs.getD 0 0 = 2
    · by_cases h3 : 1 ≤ rs.getD 1 0 ∧ rs.getD 1 0 ≤ 5
      · by_cases h4 : 24 ≤ pTold rs ∧ pTold rs ≤ (rs.length : Int)
        · exact absurd (PLen.zero ⟨by omega, h2, h3, h4⟩) h
        · rw [show pLenE rs = 22 by unfold pLenE; rw [if_neg h1, if_neg (by omega), if_neg (by omega), if_pos h4]]
          exact plength_size va vc rs w hv hby hn (by omega) h2 h3 h4
      · rw [show pLenE rs = 21 by unfold pLenE; rw [if_neg h1, if_neg (by omega), if_pos h3]]
        exact plength_type va vc rs w hv hby hn (by omega) h2 h3
    · rw [show pLenE rs = 20 by unfold pLenE; rw [if_neg h1, if_pos h2]]
      exact plength_vers va vc rs w hv hby hn (by omega) h2
end Go.Proofs.YtjjgbcjgmjggnaaGreatDoor
