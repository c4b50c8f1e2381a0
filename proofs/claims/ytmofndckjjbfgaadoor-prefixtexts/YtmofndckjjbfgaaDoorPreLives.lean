/- The small known run of the layer answers true. -/
import Derived.Test.YtmofndckjjbfgaaDoorPreParse
import Derived.Test.YtmofndckjjbfgaaDoorPreBest
namespace Go.Proofs.YtmofndckjjbfgaaDoor
open Go.RowKit Go.Sort Go.Lib
set_option linter.unusedVariables false
set_option maxRecDepth 100000

theorem lv1 : rdP [49, 48, 46, 48, 46, 48, 46, 48, 47, 56] = .ok 167772160 8 := by rfl
theorem lv2 : rdP [49, 48, 46, 48, 46, 48, 46, 49, 47, 56] = .notp := by rfl
theorem lv3 : pcut 167838211 16 = 167837696 := by decide
theorem lv4 : ptx 167837696 16 = [49, 48, 46, 49, 46, 48, 46, 48, 47, 49, 54] := by
  simp [ptx, dot, Lib.decDigits_one, Lib.decDigits_two]
theorem lv5 : pis (167837696 : Nat) (16 : Nat) = true := by decide
theorem lv6 : pcov 167772160 8 167837696 16 = true := by decide
theorem lv7 : pcov 167837696 16 167772160 8 = false := by decide
def lvp (i : Nat) : Int × Int := if i = 0 then (167772160, 8) else (167837696, 16)
theorem lv8 : bestI lvp 167838211 2 = 1 := by decide
theorem lvRow (w : World) (t : TypeId) : PxRow (w.alloc (.cells #[.int .u32 167772160, .int .u8 8, .int .u32 167837696, .int .u8 16] t)) w.heap.size 0 lvp 2 := by
  intro i hi
  rcases (by omega : i = 0 ∨ i = 1) with rfl | rfl <;> simp [go_sem, lvp]

set_option maxHeartbeats 1000000 in
theorem lives_any (w : World) (htab : Tab w) :
    Calls Tryd.prog 23 #[] w fun e w' => e = .returned (.bool true) ∧ Gr w w' := by
  go_enter Tryd.func23, Tryd.ntmps23
  go_wp2_with fail
  have c1 := parse_any [49, 48, 46, 48, 46, 48, 46, 48, 47, 56] w (by decide)
  rw [lv1] at c1
  refine Calls.mono c1 ?_
  rintro e w1 ⟨rfl, hg1⟩
  clear c1
  simp only [parV]
  go_wp2_with fail
  refine Calls.mono (make_le 167838211 16 _ (by omega) (by omega) (by omega) (by omega)) ?_
  rintro e w2 ⟨rfl, hg2⟩
  rw [lv3]
  go_wp2_with fail
  have c3 := parse_any [49, 48, 46, 48, 46, 48, 46, 49, 47, 56]
  simp only [lv2] at c3
  refine Calls.mono (c3 _ (by decide)) ?_
  rintro e w3 ⟨rfl, hg3⟩
  clear c3
  simp only [parV]
  have hp1 : Px w3 w1.heap.size 167772160 8 := hg3.px ((Gr.one _ _).px (hg2.px (Px.new w1 167772160 8 24)))
  have hp2 : Px w3 w2.heap.size 167837696 16 := hg3.px (Px.new w2 167837696 16 24)
  have HG3 : Hid (Gr w w3) := (((hg1.alloc _).trans hg2).alloc _).trans hg3
  have l1 := hp1.lt
  have l2 := hp2.lt
  have HP1 : Hid (Px w3 w1.heap.size 167772160 8) := hp1
  have HP2 : Hid (Px w3 w2.heap.size 167837696 16) := hp2
  obtain ⟨a0, a1⟩ := hp1
  obtain ⟨b0, b1⟩ := hp2
  clear hg1 hg2 hg3
  go_wp2_with fail
  have c4 := text_yes 167837696 16 (w3.alloc (.cells #[.int .u32 0, .int .u8 0] 24)) (by omega) lv5 (htab.gr (HG3.out.alloc _))
  rw [lv4] at c4
  refine Calls.mono c4 ?_
  rintro e w4 ⟨rfl, hg4⟩
  clear c4 a0 a1 b0 b1
  have HP1' : Hid (Px w4 w1.heap.size 167772160 8) := hg4.px ((Gr.one _ _).px HP1.out)
  have HP2' : Hid (Px w4 w2.heap.size 167837696 16) := hg4.px ((Gr.one _ _).px HP2.out)
  obtain ⟨a0, a1⟩ := HP1'.out
  obtain ⟨b0, b1⟩ := HP2'.out
  have HG4 : Hid (Gr w w4) := (HG3.out.alloc _).trans hg4
  clear hg4 HP1 HP2 HG3
  go_wp2_with fail
  refine Calls.mono (covers_at true 167772160 8 167837696 16 _ (by omega) (by omega) (by omega) (by omega) lv6) ?_
  rintro e w5 ⟨rfl, hg5⟩
  clear a0 a1 b0 b1
  have HP1 : Hid (Px w5 w1.heap.size 167772160 8) := hg5.px HP1'.out
  have HP2 : Hid (Px w5 w2.heap.size 167837696 16) := hg5.px HP2'.out
  obtain ⟨a0, a1⟩ := HP1.out
  obtain ⟨b0, b1⟩ := HP2.out
  have HG5 : Hid (Gr w w5) := HG4.out.trans hg5
  clear hg5 HP1' HP2' HG4
  go_wp2_with fail
  refine Calls.mono (covers_at false 167837696 16 167772160 8 _ (by omega) (by omega) (by omega) (by omega) lv7) ?_
  rintro e w6 ⟨rfl, hg6⟩
  clear a0 a1 b0 b1
  have HP1' : Hid (Px w6 w1.heap.size 167772160 8) := hg6.px HP1.out
  have HP2' : Hid (Px w6 w2.heap.size 167837696 16) := hg6.px HP2.out
  obtain ⟨a0, a1⟩ := HP1'.out
  obtain ⟨b0, b1⟩ := HP2'.out
  have HG6 : Hid (Gr w w6) := HG5.out.trans hg6
  clear hg6 HP1 HP2 HG5
  go_wp2_with fail
  have c7 := best_any (some ⟨w6.heap.size, 0, none⟩) w6.heap.size 0 2 2 lvp 167838211 (w6.alloc (.cells #[.int .u32 167772160, .int .u8 8, .int .u32 167837696, .int .u8 16] 24)) (by omega) (by omega) (by omega) (fun _ => rfl) (lvRow w6 24) (fun i hi => by rcases (by omega : i = 0 ∨ i = 1) with rfl | rfl <;> decide)
  rw [lv8] at c7
  refine Calls.mono c7 ?_
  rintro e w7 ⟨rfl, hg7⟩
  have HG7 : Hid (Gr w w7) := (HG6.out.alloc _).trans hg7
  clear hg7 c7 a0 a1 b0 b1
  go_wp2_with fail
  go_ret
  exact ⟨rfl, HG7.out⟩
end Go.Proofs.YtmofndckjjbfgaaDoor
