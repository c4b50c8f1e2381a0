/- 'lodestarlaw02.PrefixBest': the walk. -/
import Derived.Test.YtmofndckjjbfgaaDoorPreWide
import Derived.Test.YtmofndckjjbfgaaDoorPreLives
namespace Go.Proofs.YtmofndckjjbfgaaDoor
open Go.RowKit Go.Sort Go.Lib
set_option linter.unusedVariables false
set_option maxRecDepth 100000

theorem bestI_congr {ps qs : Nat → Int × Int} {x : Int} {n : Nat} (h : ∀ i, i < n → qs i = ps i) : ∀ k, k ≤ n → bestI qs x k = bestI ps x k
  | 0, _ => rfl
  | k + 1, hk => by
    have ih := bestI_congr (x := x) h k (by omega)
    have hb := bestI_bd ps x k
    unfold bestI
    rw [ih, h k (by omega)]
    by_cases h0 : bestI ps x k < 0
    · simp [h0]
    · rw [h (bestI ps x k).toNat (by omega)]

set_option maxHeartbeats 1000000 in
theorem best_walk (a0 : Option Addr) (g off n c : Nat) (ps : Nat → Int × Int) (x : Int) (w : World) (hx : 0 ≤ x ∧ x < 4294967296) (ha : 0 < n → a0 = some ⟨g, off, none⟩) (hr : PxRow w g off ps n)
    (hps : ∀ i, i < n → (0 ≤ (ps i).1 ∧ (ps i).1 ≤ 4294967295) ∧ (0 ≤ (ps i).2 ∧ (ps i).2 ≤ 255)) (htab : Tab w) :
    Calls Tryd.prog 4 #[.slice a0 n c, .int .u32 x] w fun e w' => e = .returned (.bool true) ∧ Gr w w' := by
  by_cases hn : n ≤ 16384
  · have HN : Hid _ := hn
    have HX : Hid _ := hx
    have HA : Hid _ := ha
    have HR : Hid (PxRow w g off ps n) := hr
    have HPS : Hid _ := hps
    have HT : Hid (Tab w) := htab
    have hd : decide ((16384 : Int) < (n : Int)) = false := decide_eq_false (by omega)
    clear hx ha hr hps htab
    go_enter Tryd.func4, Tryd.ntmps4
    go_wp2_with fail
    refine Calls.mono (pwide_any a0 g off n c ps _ HN.out HA.out HR.out) ?_
    rintro e w1 ⟨rfl, hrow, hg1⟩
    have HW : Hid (PxRow w1 w.heap.size 0 (pwide ps n) (n + 64)) := hrow
    have HG1 : Hid (Gr w w1) := hg1
    clear hrow hg1
    go_wp2_with fail
    have cb := best_any (some ⟨w.heap.size, 0, none⟩) w.heap.size 0 n (n + 64) (pwide ps n) x w1 HX.out.1 HX.out.2 (by have := HN.out; omega) (fun _ => rfl) (fun i hi => HW.out i (by omega)) (fun i hi => by rw [pwide_lt hi]; exact (HPS.out i hi).2.1)
    rw [bestI_congr (ps := ps) (n := n) (fun i hi => pwide_lt hi) n (Nat.le_refl _)] at cb
    refine Calls.mono cb ?_
    rintro e w2 ⟨rfl, hg2⟩
    clear cb
    have HG2 : Hid (Gr w1 w2) := hg2
    clear hg2
    go_wp2_with fail
    refine Calls.mono (rbest_any a0 g off n c ps x _ HX.out.1 HX.out.2 (by have := HN.out; omega) HA.out (PxRow.gr HR.out (HG1.out.trans HG2.out)) (fun i hi => ⟨⟨(HPS.out i hi).1.1, by have := (HPS.out i hi).1.2; omega⟩, (HPS.out i hi).2.1⟩)) ?_
    rintro e w3 ⟨rfl, hg3⟩
    have HG3 : Hid (Gr w1 w3) := HG2.out.trans hg3
    clear hg3 HG2
    go_wp2_with fail
    refine Calls.mono (peq_any a0 w.heap.size g off n (n + 64) c ps (pwide ps n) _ HN.out (fun i hi => (PxRow.gr HW.out HG3.out) i (by omega)) (fun i hi => pwide_lt hi) HA.out (PxRow.gr HR.out (HG1.out.trans HG3.out))) ?_
    rintro e w4 ⟨rfl, hg4⟩
    have HG4 : Hid (Gr w1 w4) := HG3.out.trans hg4
    clear hg4 HG3
    go_wp2_with fail
    refine Calls.mono (pspare_any w.heap.size n ps _ HN.out (PxRow.gr HW.out HG4.out)) ?_
    rintro e w5 ⟨rfl, hg5⟩
    have HG5 : Hid (Gr w w5) := (HG1.out.trans HG4.out).trans hg5
    clear hg5 HG4
    go_wp2_with fail
    refine Calls.mono (lives_any _ (HG5.out.tab HT.out)) ?_
    rintro e w6 ⟨rfl, hg6⟩
    go_wp2_with fail
    go_ret
    exact ⟨rfl, HG5.out.trans hg6⟩
  · have hd : decide ((16384 : Int) < (n : Int)) = true := decide_eq_true (by omega)
    have HT : Hid (Tab w) := htab
    have hn' : (16384 : Int) < (n : Int) := by omega
    clear hx ha hr hps htab hn
    go_enter Tryd.func4, Tryd.ntmps4
    go_wp2_with fail
    refine Calls.mono (lives_any _ HT.out) ?_
    rintro e w1 ⟨rfl, hg1⟩
    go_wp2_with fail
    go_ret
    exact ⟨rfl, hg1⟩
end Go.Proofs.YtmofndckjjbfgaaDoor
