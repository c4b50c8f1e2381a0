/- The document's Address. -/
import Derived.Test.YtmofndckjjbfgaaDoorPreTx2
namespace Go.Proofs.YtmofndckjjbfgaaDoor
open Go.RowKit
set_option linter.unusedVariables false
set_option maxRecDepth 100000

theorem split_form {w : World} {base n : Nat} {v : Value} {ps : List (List UInt8)} (h : w.ownsRow base 9 1 v n (strV ps)) (hn : n = ps.length) (hp : 0 < n) :
    ∃ g cap, v = .slice (some ⟨g, 0, none⟩) n cap ∧ ∀ i p, ps[i]? = some p → w.cell? ⟨g, i, none⟩ = some (.string ⟨p.toArray⟩) := by
  rcases h.2 with ⟨_, e⟩ | ⟨g, cap, cur, rfl, hb, hg, hnc, hcm, hcs, htake⟩
  · omega
  · refine ⟨g, cap, rfl, fun i p hi => ?_⟩
    have hi' : i < ps.length := by
      rcases Nat.lt_or_ge i ps.length with h' | h'
      · exact h'
      · rw [List.getElem?_eq_none h'] at hi; cases hi
    have e1 : (strV ps)[i]? = some (.string ⟨p.toArray⟩) := by simp [strV, hi]
    rw [← htake, List.getElem?_take, if_pos (by omega)] at e1
    simp only [World.cell?, hg]
    simpa using e1
theorem four_of {ps : List (List UInt8)} (h : ps.length = 4) : ∃ p0 p1 p2 p3, ps = [p0, p1, p2, p3] := by
  match ps, h with
  | [a, b, c, d], _ => exact ⟨a, b, c, d, rfl⟩
theorem rdA_four {l p0 p1 p2 p3 : List UInt8} (h : pieces 46 l = [p0, p1, p2, p3]) : rdA l = if isNum p0 255 = true ∧ isNum p1 255 = true ∧ isNum p2 255 = true ∧ isNum p3 255 = true then some ((((0 * 256 + dval p0) * 256 + dval p1) * 256 + dval p2) * 256 + dval p3) else none := by
  unfold rdA
  rw [rdN_pieces, h]
  simp
theorem rdA_not {l : List UInt8} (h : ¬ (pieces 46 l).length = 4) : rdA l = none := by
  unfold rdA
  rw [rdN_pieces, if_neg (fun e => h e.1)]
theorem num_le {p : List UInt8} {top : Nat} (h : isNum p top = true) : dval p ≤ top := by
  simp only [isNum, decide_eq_true_eq] at h; exact h.2.2.2
theorem pieces_len {c : UInt8} : ∀ {l p : List UInt8}, p ∈ pieces c l → p.length ≤ l.length
  | [], p, h => by simp [pieces] at h; simp [h]
  | x :: l, p, h => by
    unfold pieces at h
    split at h
    · rcases List.mem_cons.1 h with rfl | h'
      · simp
      · have := pieces_len h'; simp; omega
    · split at h
      · rename_i q r e
        rcases List.mem_cons.1 h with rfl | h'
        · have := pieces_len (c := c) (l := l) (p := q) (by rw [e]; simp); simp; omega
        · have := pieces_len (c := c) (l := l) (p := p) (by rw [e]; simp [h']); simp; omega
      · rename_i e; exact absurd e (pieces_ne c l)

set_option maxHeartbeats 1000000 in
theorem raddress_any (l : List UInt8) (w : World) (hl : l.length ≤ 2147483647) :
    Calls Tryd.prog 31 #[.string ⟨l.toArray⟩] w fun e w' => e = .returned (adrV (rdA l)) ∧ Gr w w' := by
  have HL : Hid _ := hl
  have hpl : ∀ p, p ∈ pieces 46 l → p.length ≤ 2147483647 := fun p hp => by have := pieces_len hp; omega
  have hps : 0 < (pieces 46 l).length := List.length_pos_iff.2 (pieces_ne 46 l)
  clear hl
  by_cases h4 : (pieces 46 l).length = 4
  · obtain ⟨p0, p1, p2, p3, hP⟩ := four_of h4
    have HA : Hid _ := rdA_four hP
    have q0 : Hid _ := hpl p0 (by rw [hP]; simp)
    have q1 : Hid _ := hpl p1 (by rw [hP]; simp)
    have q2 : Hid _ := hpl p2 (by rw [hP]; simp)
    have q3 : Hid _ := hpl p3 (by rw [hP]; simp)
    have HPP : Hid _ := hP
    clear hpl hps h4 hP
    go_enter Tryd.func31, Tryd.ntmps31
    go_wp2_with fail
    refine Calls.mono (split_any l 46 _ HL.out) ?_
    rintro e w1 ⟨⟨v, rfl, hown⟩, hg1⟩
    rw [HPP.out] at hown
    obtain ⟨g, cap, rfl, hcell⟩ := split_form hown rfl (by simp)
    have c0 := hcell 0 p0 rfl
    have c1 := hcell 1 p1 rfl
    have c2 := hcell 2 p2 rfl
    have c3 := hcell 3 p3 rfl
    have HG : Hid (Gr w w1) := hg1
    simp only [List.length_cons, List.length_nil]
    clear hown hcell hg1
    go_wp2_with fail
    refine wp_loop_rounds 5 ?_
    rw [rounds_succ]
    go_wp2_with fail
    refine Calls.mono (number_any p0 255 _ (by omega) q0.out) ?_
    rintro e w' ⟨⟨v0, rfl, hv0⟩, rfl⟩
    cases b0 : isNum p0 255 with
    | false =>
      have HB : Hid (rdA l = none) := by show _ = _; rw [HA.out, if_neg]; simp [b0]
      clear HA hv0
      go_wp2_with fail
      go_ret2
      exact ⟨by rw [HB.out]; rfl, HG.out⟩
    | true =>
      have B0 : Hid _ := b0
      have e0 := hv0 b0
      have l0 : Hid (v0 = (dval p0 : Int) ∧ 0 ≤ v0 ∧ v0 ≤ 255) := ⟨e0, by omega, by have := num_le b0; omega⟩
      have m0 : 0 ≤ v0 := l0.out.2.1
      have n0 : v0 ≤ 255 := l0.out.2.2
      clear b0 hv0 e0
      go_wp2_with fail

      rw [rounds_succ]
      go_wp2_with fail
      refine Calls.mono (number_any p1 255 _ (by omega) q1.out) ?_
      rintro e w' ⟨⟨v1, rfl, hv1⟩, rfl⟩
      cases b1 : isNum p1 255 with
      | false =>
        have HB : Hid (rdA l = none) := by show _ = _; rw [HA.out, if_neg]; simp [b1]
        clear HA hv1
        go_wp2_with fail
        go_ret2
        exact ⟨by rw [HB.out]; rfl, HG.out⟩
      | true =>
        have B1 : Hid _ := b1
        have e1 := hv1 b1
        have l1 : Hid (v1 = (dval p1 : Int) ∧ 0 ≤ v1 ∧ v1 ≤ 255) := ⟨e1, by omega, by have := num_le b1; omega⟩
        have m1 : 0 ≤ v1 := l1.out.2.1
        have n1 : v1 ≤ 255 := l1.out.2.2
        clear b1 hv1 e1
        go_wp2_with fail

        rw [rounds_succ]
        go_wp2_with fail
        refine Calls.mono (number_any p2 255 _ (by omega) q2.out) ?_
        rintro e w' ⟨⟨v2, rfl, hv2⟩, rfl⟩
        cases b2 : isNum p2 255 with
        | false =>
          have HB : Hid (rdA l = none) := by show _ = _; rw [HA.out, if_neg]; simp [b2]
          clear HA hv2
          go_wp2_with fail
          go_ret2
          exact ⟨by rw [HB.out]; rfl, HG.out⟩
        | true =>
          have B2 : Hid _ := b2
          have e2 := hv2 b2
          have l2 : Hid (v2 = (dval p2 : Int) ∧ 0 ≤ v2 ∧ v2 ≤ 255) := ⟨e2, by omega, by have := num_le b2; omega⟩
          have m2 : 0 ≤ v2 := l2.out.2.1
          have n2 : v2 ≤ 255 := l2.out.2.2
          clear b2 hv2 e2
          go_wp2_with fail

          rw [rounds_succ]
          go_wp2_with fail
          refine Calls.mono (number_any p3 255 _ (by omega) q3.out) ?_
          rintro e w' ⟨⟨v3, rfl, hv3⟩, rfl⟩
          cases b3 : isNum p3 255 with
          | false =>
            have HB : Hid (rdA l = none) := by show _ = _; rw [HA.out, if_neg]; simp [b3]
            clear HA hv3
            go_wp2_with fail
            go_ret2
            exact ⟨by rw [HB.out]; rfl, HG.out⟩
          | true =>
            have B3 : Hid _ := b3
            have e3 := hv3 b3
            have l3 : Hid (v3 = (dval p3 : Int) ∧ 0 ≤ v3 ∧ v3 ≤ 255) := ⟨e3, by omega, by have := num_le b3; omega⟩
            have m3 : 0 ≤ v3 := l3.out.2.1
            have n3 : v3 ≤ 255 := l3.out.2.2
            clear b3 hv3 e3
            go_wp2_with fail
            rw [rounds_succ]
            go_wp2_with fail
            go_ret2
            refine ⟨?_, HG.out⟩
            rw [HA.out, if_pos ⟨B0.out, B1.out, B2.out, B3.out⟩]
            have e : (256 * (256 * (256 * v0 + v1) + v2) + v3) = ((((((0 * 256 + dval p0) * 256 + dval p1) * 256 + dval p2) * 256 + dval p3 : Nat)) : Int) := by
              have := l0.out.1; have := l1.out.1; have := l2.out.1; have := l3.out.1; omega
            show Ending.returned (.tuple #[.int .u32 (256 * (256 * (256 * v0 + v1) + v2) + v3), .int .i64 0]) = _
            rw [e]; rfl
  · have HB : Hid (rdA l = none) := rdA_not h4
    have h4' : (((pieces 46 l).length : Int) == 4) = false := by simp; omega
    have h4'' : (((pieces 46 l).length : Int) != 4) = true := by simp; omega
    have HPS : Hid _ := hps
    clear hpl hps
    go_enter Tryd.func31, Tryd.ntmps31
    go_wp2_with fail
    refine Calls.mono (split_any l 46 _ HL.out) ?_
    rintro e w1 ⟨⟨v, rfl, hown⟩, hg1⟩
    obtain ⟨g, cap, rfl, hcell⟩ := split_form hown rfl HPS.out
    have HG : Hid (Gr w w1) := hg1
    clear hown hcell hg1
    go_wp2_with fail
    go_ret2
    exact ⟨by rw [HB.out]; rfl, HG.out⟩
end Go.Proofs.YtmofndckjjbfgaaDoor
