/- The document: Choose. -/
import Derived.Test.YtjjgbcjgmjggnaaGreatDoorAuMay
import Derived.Test.YtjjgbcjgmjggnaaGreatDoorAuChk
import Derived.Test.YtjjgbcjgmjggnaaGreatDoorDigRow
import Derived.Deep.LoopGhost
import Derived.Deep.DeepCutAuto
namespace Go.Proofs.YtjjgbcjgmjggnaaGreatDoor
open Go.RowKit
set_option linter.unusedVariables false
set_option maxRecDepth 100000

theorem best_step {ks : List KE} {now : Int} {k : Nat} {x : KE} (hx : ks[k]? = some x) : bestI (pureL ks) now (k + 1) = if x.p.sends now = true then better (pureL ks) (bestI (pureL ks) now k) k else bestI (pureL ks) now k := by
  conv => lhs; unfold bestI
  rw [List.getElem?_map, hx]
  rfl
theorem better_lo {ks : List KE} {b : Int} (hb : b < 0) {k : Nat} {x : KE} (hx : ks[k]? = some x) : better (pureL ks) b k = (k : Int) := by
  unfold better
  rw [List.getElem?_map, hx]
  simp only [Option.map_some]
  split
  · rfl
  · rw [if_pos (Or.inl hb)]
theorem better_hi {ks : List KE} {m k : Nat} {x y : KE} (hx : ks[k]? = some x) (hy : ks[m]? = some y) : better (pureL ks) (m : Int) k = if aheadB x.p y.p = true then (k : Int) else (m : Int) := by
  unfold better
  rw [List.getElem?_map, hx, Int.toNat_natCast, List.getElem?_map, hy]
  simp only [Option.map_some]
  by_cases h : aheadB x.p y.p = true
  · rw [if_pos h, if_pos (Or.inr h)]
  · rw [if_neg h, if_neg (fun h2 => h2.elim (fun h1 => by omega) h)]
structure ChR (ks : List KE) (w : World) (now : Int) (gg : Nat) (s5 s6 : Value) (wr : World) : Prop where
  out : ∃ (k : Nat) (b : Int), k ≤ ks.length ∧ ks.length - k ≤ gg ∧ s6 = .int .i64 k ∧ s5 = .int .i64 b ∧ b = bestI (pureL ks) now k ∧ Touch (fun _ => False) w wr
set_option maxHeartbeats 4000000 in
theorem rchoose_any (v : Value) (ks : List KE) (now : Int) (w : World) (hv : ChainAt w v ks) (hl : ks.length ≤ 1000000) :
    Calls Tryz.prog 27 #[v, .int .i64 now] w fun e w' => e = .returned (.int .i64 (chooseI (pureL ks) now)) ∧ Touch (fun _ => False) w w' := by
  obtain ⟨va, vc, rfl, hmx⟩ := ValsAt.form hv.vals
  have HV' : Hid (∀ w', Touch (fun _ => False) w w' → ChainAt w' (.slice va ks.length vc) ks) := fun w' t => hv.keep t
  have HE : Hid (∀ k, k = ks.length → bestI (pureL ks) now k = chooseI (pureL ks) now) := fun k h => by show _ = _; rw [h]; unfold chooseI; simp
  generalize chooseI (pureL ks) now = CC at *
  clear hv hmx
  go_enter Tryz.func27, Tryz.ntmps27
  go_wp2_with fail
  go_loopg [5, 6] ks.length (fun gg s5 s6 wr => ChR ks w now gg s5 s6 wr)
  case atStart => exact ⟨0, -1, by omega, by omega, rfl, rfl, rfl, Touch.refl _ _⟩
  case round =>
    obtain ⟨k, b, hk, hg, rfl, rfl, hb, tr⟩ := hrel.out
    have TR : Hid (Touch (fun _ => False) w wr) := tr
    have HB : Hid (b = bestI (pureL ks) now k) := hb
    have hbd := bestI_bound (pureL ks) now k
    rw [← hb] at hbd
    obtain ⟨hb1, hb2⟩ := hbd
    clear tr hrel hb
    by_cases hlt : k < ks.length
    · have hlt' : (k : Int) < (ks.length : Int) := by omega
      have hk00 : (0 : Int) ≤ (k : Int) := by omega
      have hkw : wrap64 ((k : Int) + 1) = (k : Int) + 1 := by unfold wrap64; omega
      obtain ⟨x, hx⟩ : ∃ x, ks[k]? = some x := ⟨ks[k], by simp [hlt]⟩
      obtain ⟨ox, gR, off, cR, eR, hcell⟩ := ChainAt.one (HV'.out wr TR.out) hx
      cases eR
      have e0 : wr.cell? ⟨gR, off + k * 7, none⟩ = some (.int .u8 x.p.id) := by exact hcell 0 _ rfl
      have e3 : wr.cell? ⟨gR, off + k * 7 + 3, none⟩ = some (.int .i64 x.p.sf) := by rw [Nat.add_assoc]; exact hcell 3 _ rfl
      have e4 : wr.cell? ⟨gR, off + k * 7 + 4, none⟩ = some (.int .i64 x.p.su) := by rw [Nat.add_assoc]; exact hcell 4 _ rfl
      have HX : Hid (ks[k]? = some x) := hx
      have HS : Hid (bestI (pureL ks) now (k + 1) = if x.p.sends now = true then better (pureL ks) b k else b) := by show _ = _; rw [best_step hx, ← HB.out]
      clear hcell hx ox
      by_cases ha : now < x.p.sf
      · have HN : Hid (b = bestI (pureL ks) now (k + 1)) := by show _ = _; rw [HS.out, if_neg (by simp only [AKP.sends, decide_eq_true_eq]; omega)]
        clear HS HB
        go_wp2_with fail
        go_roundg (ks.length - (k + 1))
        case measure => omega
        case rel => exact ⟨k + 1, b, by omega, by omega, by go_num, rfl, HN.out, TR.out⟩
      by_cases hc : x.p.su < now
      · have HN : Hid (b = bestI (pureL ks) now (k + 1)) := by show _ = _; rw [HS.out, if_neg (by simp only [AKP.sends, decide_eq_true_eq]; omega)]
        clear HS HB
        go_wp2_with fail
        go_roundg (ks.length - (k + 1))
        case measure => omega
        case rel => exact ⟨k + 1, b, by omega, by omega, by go_num, rfl, HN.out, TR.out⟩
      replace HS : Hid (bestI (pureL ks) now (k + 1) = better (pureL ks) b k) := by show _ = _; rw [HS.out, if_pos (by simp only [AKP.sends, decide_eq_true_eq]; omega)]
      have c0 := aft_cell e0
      have c3 := aft_cell e3
      by_cases hneg : b < 0
      · have HN : Hid ((k : Int) = bestI (pureL ks) now (k + 1)) := by show _ = _; rw [HS.out, better_lo hneg HX.out]
        clear HS HB
        go_upto_region 6 with fail
        refine wp_region_aft (by kernel_rfl) (by kernel_rfl) ?_
        repeat (first | go_big_quiet_skip | (go_big_quiet_want; go_big_quiet_op; first | go_big_quiet_on | (refine Exists.intro _ ⟨fun _ => rfl, ?_⟩; go_big_quiet_on)))
        refine wpQuiet_nil ?_
        rintro wq ⟨⟨_, hgq⟩, rfl⟩
        have T3 : Hid (Touch (fun _ => False) w wq) := TR.out.trans hgq
        clear hgq c0 c3
        go_wp2_with fail
        go_roundg (ks.length - (k + 1))
        case measure => omega
        case rel => exact ⟨k + 1, k, by omega, by omega, by go_num, rfl, HN.out, T3.out⟩
      obtain ⟨m, rfl⟩ : ∃ m : Nat, b = (m : Int) := ⟨b.toNat, by omega⟩
      have hm0 : (0 : Int) ≤ (m : Int) := by omega
      have hm1 : (m : Int) < (ks.length : Int) := by omega
      obtain ⟨y, hy⟩ : ∃ y, ks[m]? = some y := ⟨ks[m]'(by omega), List.getElem?_eq_getElem (by omega)⟩
      obtain ⟨-, gY, offY, cY, eY, hcy⟩ := ChainAt.one (HV'.out wr TR.out) hy
      cases eY
      have y0 : wr.cell? ⟨gR, off + m * 7, none⟩ = some (.int .u8 y.p.id) := by exact hcy 0 _ rfl
      have y3 : wr.cell? ⟨gR, off + m * 7 + 3, none⟩ = some (.int .i64 y.p.sf) := by rw [Nat.add_assoc]; exact hcy 3 _ rfl
      replace HS : Hid (bestI (pureL ks) now (k + 1) = if aheadB x.p y.p = true then (k : Int) else (m : Int)) := by show _ = _; rw [HS.out, better_hi HX.out hy]
      have d0 := aft_cell y0
      have d3 := aft_cell y3
      clear hcy hy HB
      by_cases h1 : y.p.sf < x.p.sf
      · have HN : Hid ((k : Int) = bestI (pureL ks) now (k + 1)) := by show _ = _; rw [HS.out, if_pos (by simp only [aheadB, decide_eq_true_eq]; omega)]
        clear HS
        go_upto_region 6 with fail
        refine wp_region_aft (by kernel_rfl) (by kernel_rfl) ?_
        repeat (first | go_big_quiet_skip | (go_big_quiet_want; go_big_quiet_op; first | go_big_quiet_on | (refine Exists.intro _ ⟨fun _ => rfl, ?_⟩; go_big_quiet_on)))
        refine wpQuiet_nil ?_
        rintro wq ⟨⟨_, hgq⟩, rfl⟩
        have T3 : Hid (Touch (fun _ => False) w wq) := TR.out.trans hgq
        clear hgq c0 c3 d0 d3
        go_wp2_with fail
        go_roundg (ks.length - (k + 1))
        case measure => omega
        case rel => exact ⟨k + 1, k, by omega, by omega, by go_num, rfl, HN.out, T3.out⟩
      by_cases h2 : x.p.sf = y.p.sf
      · have hB2 : (x.p.sf == y.p.sf) = true := by simpa using h2
        by_cases h3 : y.p.id < x.p.id
        · have HN : Hid ((k : Int) = bestI (pureL ks) now (k + 1)) := by show _ = _; rw [HS.out, if_pos (by simp only [aheadB, decide_eq_true_eq]; omega)]
          clear HS
          go_upto_region 6 with fail
          refine wp_region_aft (by kernel_rfl) (by kernel_rfl) ?_
          repeat (first | go_big_quiet_skip | (go_big_quiet_want; go_big_quiet_op; first | go_big_quiet_on | (refine Exists.intro _ ⟨fun _ => rfl, ?_⟩; go_big_quiet_on)))
          refine wpQuiet_nil ?_
          rintro wq ⟨⟨_, hgq⟩, rfl⟩
          have T3 : Hid (Touch (fun _ => False) w wq) := TR.out.trans hgq
          clear hgq c0 c3 d0 d3
          go_wp2_with fail
          go_roundg (ks.length - (k + 1))
          case measure => omega
          case rel => exact ⟨k + 1, k, by omega, by omega, by go_num, rfl, HN.out, T3.out⟩
        · have HN : Hid ((m : Int) = bestI (pureL ks) now (k + 1)) := by show _ = _; rw [HS.out, if_neg (by simp only [aheadB, decide_eq_true_eq]; omega)]
          clear HS
          go_upto_region 6 with fail
          refine wp_region_aft (by kernel_rfl) (by kernel_rfl) ?_
          repeat (first | go_big_quiet_skip | (go_big_quiet_want; go_big_quiet_op; first | go_big_quiet_on | (refine Exists.intro _ ⟨fun _ => rfl, ?_⟩; go_big_quiet_on)))
          refine wpQuiet_nil ?_
          rintro wq ⟨⟨_, hgq⟩, rfl⟩
          have T3 : Hid (Touch (fun _ => False) w wq) := TR.out.trans hgq
          clear hgq c0 c3 d0 d3
          go_wp2_with fail
          go_roundg (ks.length - (k + 1))
          case measure => omega
          case rel => exact ⟨k + 1, m, by omega, by omega, by go_num, rfl, HN.out, T3.out⟩
      · have hB2 : (x.p.sf == y.p.sf) = false := by simpa using h2
        have HN : Hid ((m : Int) = bestI (pureL ks) now (k + 1)) := by show _ = _; rw [HS.out, if_neg (by simp only [aheadB, decide_eq_true_eq]; omega)]
        clear HS
        go_upto_region 6 with fail
        refine wp_region_aft (by kernel_rfl) (by kernel_rfl) ?_
        repeat (first | go_big_quiet_skip | (go_big_quiet_want; go_big_quiet_op; first | go_big_quiet_on | (refine Exists.intro _ ⟨fun _ => rfl, ?_⟩; go_big_quiet_on)))
        refine wpQuiet_nil ?_
        rintro wq ⟨⟨_, hgq⟩, rfl⟩
        have T3 : Hid (Touch (fun _ => False) w wq) := TR.out.trans hgq
        clear hgq c0 c3 d0 d3
        go_wp2_with fail
        go_roundg (ks.length - (k + 1))
        case measure => omega
        case rel => exact ⟨k + 1, m, by omega, by omega, by go_num, rfl, HN.out, T3.out⟩
    · have hlt' : ¬ (k : Int) < (ks.length : Int) := by omega
      have hCC : b = CC := HB.out.trans (HE.out k (by omega))
      subst hCC
      go_wp2
      go_ret
      exact ⟨rfl, TR.out⟩
end Go.Proofs.YtjjgbcjgmjggnaaGreatDoor
