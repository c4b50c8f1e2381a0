/- prefix.Best: the longest prefix that has an address. -/
import Derived.Test.YtmofndckjjbfgaaDoorPreAft
namespace Go.Proofs.YtmofndckjjbfgaaDoor
open Go.RowKit
set_option linter.unusedVariables false
set_option maxRecDepth 100000

/-- A row of prefixes in memory, from place off on. -/
def PxRow (w : World) (g off : Nat) (ps : Nat → Int × Int) (n : Nat) : Prop := ∀ i, i < n → w.cell? ⟨g, off + i * 2, none⟩ = some (.int .u32 (ps i).1) ∧ w.cell? ⟨g, off + i * 2 + 1, none⟩ = some (.int .u8 (ps i).2)
theorem PxRow.gr {w w' : World} {g off n : Nat} {ps : Nat → Int × Int} (h : PxRow w g off ps n) (hg : Gr w w') : PxRow w' g off ps n := by
  intro i hi
  obtain ⟨h1, h2⟩ := h i hi
  have hlt : g < w.heap.size := by
    rcases Nat.lt_or_ge g w.heap.size with h' | h'
    · exact h'
    · simp [World.cell?, Array.getElem?_eq_none h'] at h1
  exact ⟨(hg.cells.1 g _ hlt).trans h1, (hg.cells.1 g _ hlt).trans h2⟩

/-- The place of the best of the first k, or -1. -/
def bestI (ps : Nat → Int × Int) (x : Int) : Nat → Int
  | 0 => -1
  | k + 1 => if phas (ps k).1 (ps k).2 x = true ∧ (bestI ps x k < 0 ∨ (ps (bestI ps x k).toNat).2 < (ps k).2) then (k : Int) else bestI ps x k
theorem bestI_bd (ps : Nat → Int × Int) (x : Int) : ∀ k, -1 ≤ bestI ps x k ∧ bestI ps x k < k
  | 0 => by simp [bestI]
  | k + 1 => by
    have := bestI_bd ps x k
    unfold bestI
    split <;> omega

def BestR (w : World) (ps : Nat → Int × Int) (x : Int) (n : Nat) (b i : Value) (wr : World) : Prop := ∃ k : Nat, k ≤ n ∧ b = .int .i64 (bestI ps x k) ∧ i = .int .i64 (k : Int) ∧ Hid (Gr w wr)
theorem wrap_succ' {k : Nat} (h : k < 140737488355328) : wrap64 ((k : Int) + 1) = (k : Int) + 1 := by unfold wrap64; omega
theorem best_no {ps : Nat → Int × Int} {x : Int} {k : Nat} (h : phas (ps k).1 (ps k).2 x = false) : bestI ps x (k + 1) = bestI ps x k := by simp [bestI, h]
theorem best_new {ps : Nat → Int × Int} {x : Int} {k : Nat} (h : phas (ps k).1 (ps k).2 x = true) (h2 : bestI ps x k < 0 ∨ (ps (bestI ps x k).toNat).2 < (ps k).2) : bestI ps x (k + 1) = (k : Int) := by
  unfold bestI; rw [if_pos ⟨h, h2⟩]
theorem best_old {ps : Nat → Int × Int} {x : Int} {k : Nat} (h : phas (ps k).1 (ps k).2 x = true) (h2 : ¬ bestI ps x k < 0 ∧ ¬ (ps (bestI ps x k).toNat).2 < (ps k).2) : bestI ps x (k + 1) = bestI ps x k := by
  rw [bestI, if_neg]; rintro ⟨_, h3⟩; omega
theorem best_step {w wr w1 : World} {ps : Nat → Int × Int} {x : Int} {n k : Nat} (hk : k < n) (hG : Gr w w1) {b : Int} (hb : b = bestI ps x (k + 1)) : BestR w ps x n (.int .i64 b) (.int .i64 ((k : Int) + 1)) w1 :=
  ⟨k + 1, hk, by rw [hb], by rw [Int.natCast_add]; rfl, hG⟩

theorem best_less {n k : Nat} (hk : k < n) : n - (intOf (.int .i64 ((k : Int) + 1))).toNat < n - (intOf (.int .i64 (k : Int))).toNat := by
  simp [intOf]; omega

set_option maxHeartbeats 1000000 in
theorem best_any (a0 : Option Addr) (g off n c : Nat) (ps : Nat → Int × Int) (x : Int) (w : World) (hx0 : 0 ≤ x) (hx1 : x < 4294967296) (hn : n ≤ 140737488355328)
    (ha : 0 < n → a0 = some ⟨g, off, none⟩) (hr : PxRow w g off ps n) (hps : ∀ i, i < n → 0 ≤ (ps i).2) :
    Calls Tryd.prog 25 #[.slice a0 n c, .int .u32 x] w fun e w' => e = .returned (.int .i64 (bestI ps x n)) ∧ Gr w w' := by
  have HR : Hid _ := hr
  have HPS : Hid _ := hps
  have HA : Hid _ := ha
  have HN : Hid _ := hn
  have HX : Hid (0 ≤ x ∧ x < 4294967296) := ⟨hx0, hx1⟩
  clear hr hps ha hn hx0 hx1
  go_enter Tryd.func25, Tryd.ntmps25
  go_wp2_with fail
  go_loopw [5, 10] (fun b i wr => BestR w ps x n b i wr) (fun _ i _ => n - (intOf i).toNat)
  case atStart => exact ⟨0, Nat.zero_le _, rfl, rfl, Gr.refl _⟩
  case round =>
    obtain ⟨k, hk, rfl, rfl, HG⟩ := hrel
    by_cases hkn : k < n
    · have hki : (k : Int) < (n : Int) := by omega
      have e0 := HA.out (by omega)
      subst e0
      have hwk := wrap_succ' (k := k) (by have := HN.out; omega)
      have HRr : Hid (PxRow wr g off ps n) := PxRow.gr HR.out HG.out
      obtain ⟨hc0, hc1⟩ := HRr.out k hkn
      have hp0 := HPS.out k hkn
      obtain ⟨hb0, hb1⟩ := bestI_bd ps x k
      have HBX : Hid _ := best_no (ps := ps) (x := x) (k := k)
      have HS : Hid (bestI ps x (k + 1) = _) := rfl
      cases hh : phas (ps k).1 (ps k).2 x with
      | false =>
        have HE : Hid _ := best_no hh
        have HH : Hid _ := hh
        clear hh HBX HS hb0 hb1
        go_wp2_with fail
        have p0 := aft_cell (Px.new wr (ps k).1 (ps k).2 24).1
        have p1 := aft_cell (Px.new wr (ps k).1 (ps k).2 24).2
        refine wp_region_aft (by kernel_rfl) (by kernel_rfl) ?_
        repeat (first
          | go_big_quiet_skip
          | (go_big_quiet_want; go_big_quiet_op; first | go_big_quiet_on | (refine Exists.intro _ ⟨fun _ => rfl, ?_⟩; go_big_quiet_on) | (refine Exists.intro _ ⟨fun u => Aft.call (has_no _ _ _ _ hp0 HX.out.1 HX.out.2 HH.out), ?_⟩; go_big_quiet_on)))
        refine wpQuiet_nil ?_
        rintro _ ⟨⟨w1, hg1⟩, rfl⟩
        clear p0 p1
        go_wp2_with fail
        have hst := best_step (w := w) (wr := wr) (x := x) (ps := ps) hkn ((HG.out.alloc _).trans hg1) HE.out.symm
        go_roundw
        case rel => rw [hwk]; exact hst
        case measure => rw [hwk]; exact best_less hkn
      | true =>
        by_cases hb : bestI ps x k < 0
        · have HE : Hid (bestI ps x (k + 1) = (k : Int)) := best_new hh (.inl hb)
          have HH : Hid _ := hh
          clear hh HBX HS hb0 hb1
          go_wp2_with fail
          have p0 := aft_cell (Px.new wr (ps k).1 (ps k).2 24).1
          have p1 := aft_cell (Px.new wr (ps k).1 (ps k).2 24).2
          refine wp_region_aft (by kernel_rfl) (by kernel_rfl) ?_
          repeat (first
            | go_big_quiet_skip
            | (go_big_quiet_want; go_big_quiet_op; first | go_big_quiet_on | (refine Exists.intro _ ⟨fun _ => rfl, ?_⟩; go_big_quiet_on) | (refine Exists.intro _ ⟨fun u => Aft.call (has_yes _ _ _ _ hp0 HX.out.1 HX.out.2 HH.out), ?_⟩; go_big_quiet_on)))
          refine wpQuiet_nil ?_
          rintro _ ⟨⟨w1, hg1⟩, rfl⟩
          clear p0 p1
          go_wp2_with fail
          have hst := best_step (w := w) (wr := wr) (x := x) (ps := ps) hkn ((HG.out.alloc _).trans hg1) HE.out.symm
          go_roundw
          case rel => rw [hwk]; exact hst
          case measure => rw [hwk]; exact best_less hkn
        · obtain ⟨j, hj⟩ : ∃ j : Nat, bestI ps x k = (j : Int) := ⟨(bestI ps x k).toNat, by omega⟩
          have hjn : j < n := by omega
          have HE1 : Hid ((ps j).2 < (ps k).2 → bestI ps x (k + 1) = (k : Int)) := fun h => best_new hh (.inr (by rw [hj]; exact h))
          have HE2 : Hid (¬ (ps j).2 < (ps k).2 → bestI ps x (k + 1) = (j : Int)) := fun h => by rw [best_old hh (by rw [hj]; exact ⟨by omega, h⟩), hj]
          have HH : Hid _ := hh
          rw [hj]
          have q0 : (0 : Int) ≤ (j : Int) := by omega
          have q1 : (j : Int) < (n : Int) := by omega
          have q2 : decide ((j : Int) < 0) = false := by simp
          obtain ⟨hd0, hd1⟩ := HRr.out j hjn
          clear hh HBX HS hb0 hb1 hb hj hd0
          go_wp2_with fail
          have p0 := aft_cell (Px.new wr (ps k).1 (ps k).2 24).1
          have p1 := aft_cell (Px.new wr (ps k).1 (ps k).2 24).2
          have p2 := aft_cell (w := wr.alloc (.cells #[.int .u32 (ps k).1, .int .u8 (ps k).2] 24)) (b := g) (o := off + j * 2 + 1) (v := .int .u8 (ps j).2) (((Gr.one wr _).cells.1 g _ (aft_lt hd1)).trans hd1)
          refine wp_region_aft (by kernel_rfl) (by kernel_rfl) ?_
          repeat (first
            | go_big_quiet_skip
            | (go_big_quiet_want; go_big_quiet_op; first | go_big_quiet_on | (refine Exists.intro _ ⟨fun _ => rfl, ?_⟩; go_big_quiet_on) | (refine Exists.intro _ ⟨fun u => Aft.call (has_yes _ _ _ _ hp0 HX.out.1 HX.out.2 HH.out), ?_⟩; go_big_quiet_on)))
          refine wpQuiet_nil ?_
          rintro _ ⟨⟨w1, hg1⟩, rfl⟩
          clear p0 p1 p2
          by_cases hgt : (ps j).2 < (ps k).2
          · have hst := best_step (w := w) (wr := wr) (x := x) (ps := ps) hkn ((HG.out.alloc _).trans hg1) (HE1.out (by omega)).symm
            go_wp2_with fail
            go_roundw
            case rel => rw [hwk]; exact hst
            case measure => rw [hwk]; exact best_less hkn
          · have hst := best_step (w := w) (wr := wr) (x := x) (ps := ps) hkn ((HG.out.alloc _).trans hg1) (HE2.out (by omega)).symm
            go_wp2_with fail
            go_roundw
            case rel => rw [hwk]; exact hst
            case measure => rw [hwk]; exact best_less hkn
    · obtain rfl : k = n := by omega
      have hki : ¬ (k : Int) < (k : Int) := by omega
      go_wp2_with fail
      go_ret
      exact ⟨rfl, HG.out⟩
end Go.Proofs.YtmofndckjjbfgaaDoor
