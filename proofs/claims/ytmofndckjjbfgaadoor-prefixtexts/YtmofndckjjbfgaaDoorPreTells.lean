/- 'lodestarlaw02.PrefixTells': the walk. -/
import Derived.Test.YtmofndckjjbfgaaDoorPreLives
import Derived.Test.YtmofndckjjbfgaaDoorPreRef3
import Derived.Test.YtmofndckjjbfgaaDoorPreCmp
import Derived.Deep.DeepCutAuto
namespace Go.Proofs.YtmofndckjjbfgaaDoor
open Go.RowKit Go.Sort Go.Lib
set_option linter.unusedVariables false
set_option maxRecDepth 100000

theorem same_gr {P : Program} {f : FuncId} {args : Array Value} {w : World} {v : Value} (h : Calls P f args w fun e w' => e = .returned v ∧ w = w') : Calls P f args w fun e w' => e = .returned v ∧ Gr w w' :=
  h.mono fun _ _ ⟨he, hw⟩ => ⟨he, hw ▸ Gr.refl _⟩
def mkA (x n : Int) : Int := if n ≤ 32 then pcut x n else 0
def mkN (n : Int) : Int := if n ≤ 32 then n else 0
def mkE (n : Int) : Int := if n ≤ 32 then 0 else 12
theorem make_sym (x n : Int) (w : World) (h0 : 0 ≤ n) (hx0 : 0 ≤ x) (hx1 : x < 4294967296) :
    Calls Tryd.prog 9 #[.int .u32 x, .int .u8 n] w fun e w' => e = .returned (.tuple #[.agg #[.int .u32 (mkA x n), .int .u8 (mkN n)], .int .i64 (mkE n)]) ∧ Gr w w' := by
  by_cases h : n ≤ 32
  · simp only [mkA, mkN, mkE, h, if_true]; exact make_le x n w h0 h hx0 hx1
  · simp only [mkA, mkN, mkE, h, if_false]; exact make_gt x n w (by omega)
theorem rmake_sym (x n : Int) (w : World) (h0 : 0 ≤ n) (hx0 : 0 ≤ x) (hx1 : x < 4294967296) :
    Calls Tryd.prog 10 #[.int .u32 x, .int .u8 n] w fun e w' => e = .returned (.tuple #[.agg #[.int .u32 (mkA x n), .int .u8 (mkN n)], .int .i64 (mkE n)]) ∧ Gr w w' := by
  by_cases h : n ≤ 32
  · simp only [mkA, mkN, mkE, h, if_true]; exact rmake_le x n w h0 h hx0 hx1
  · simp only [mkA, mkN, mkE, h, if_false]; exact rmake_gt x n w (by omega)

set_option maxHeartbeats 2000000 in
theorem tells_true (a n b m x : Int) (w : World) (hn : 0 ≤ n) (hm : 0 ≤ m) (ha : 0 ≤ a ∧ a < 4294967296) (hb : 0 ≤ b ∧ b < 4294967296) (hx : 0 ≤ x ∧ x < 4294967296) (hp : pis a n = true) (htab : Tab w) :
    Calls Tryd.prog 3 #[.agg #[.int .u32 a, .int .u8 n], .agg #[.int .u32 b, .int .u8 m], .int .u32 x] w fun e w' => e = .returned (.bool true) ∧ Gr w w' := by
  have HN : Hid _ := hn
  have HM : Hid _ := hm
  have HA : Hid _ := ha
  have HB : Hid _ := hb
  have HX : Hid _ := hx
  have HP : Hid _ := hp
  have HT : Hid (Tab w) := htab
  clear hn hm ha hb hx hp htab
  go_enter Tryd.func3, Tryd.ntmps3
  go_wp2_with fail
  refine Calls.mono (bits_any x _ HX.out.1 HX.out.2) ?_
  rintro e w' ⟨rfl, rfl⟩
  go_wp2_with fail
  refine Calls.mono (rbits_any x _) ?_
  rintro e w' ⟨rfl, rfl⟩
  go_wp2_with fail
  refine Calls.mono (make_sym x n _ HN.out HX.out.1 HX.out.2) ?_
  rintro e w1 ⟨rfl, hg1⟩
  have r2 := Px.new (w.alloc (.cells #[.int .u32 a, .int .u8 n] 24)) b m 24
  rw [World.size_alloc] at r2
  have hp1 : Px w1 w.heap.size a n := hg1.px ((Gr.one (w.alloc (.cells #[.int .u32 a, .int .u8 n] 24)) (.cells #[.int .u32 b, .int .u8 m] 24)).px (Px.new w a n 24))
  have hp2 : Px w1 (w.heap.size + 1) b m := hg1.px r2
  have HP1 : Hid _ := hp1
  have HP2 : Hid _ := hp2
  have l1 := hp1.lt
  have l2 := hp2.lt
  obtain ⟨a0, a1⟩ := hp1
  obtain ⟨b0, b1⟩ := hp2
  have HG1 : Hid (Gr w w1) := (((Gr.refl w).alloc _).alloc _).trans hg1
  clear hg1 r2
  go_wp2_with fail
  refine Calls.mono (rmake_sym x n _ HN.out HX.out.1 HX.out.2) ?_
  rintro e w2 ⟨rfl, hg2⟩
  clear a0 a1 b0 b1
  have gg := (Gr.one w1 (.cells #[.int .u32 (mkA x n), .int .u8 (mkN n)] 24)).trans hg2
  have hp1 : Px w2 w.heap.size a n := gg.px HP1.out
  have hp2 : Px w2 (w.heap.size + 1) b m := gg.px HP2.out
  have hp3 : Px w2 w1.heap.size (mkA x n) (mkN n) := hg2.px (Px.new w1 _ _ 24)
  have l3 := hp1.lt
  have l4 := hp2.lt
  have l5 := hp3.lt
  have HP1b : Hid (Px (w2.alloc (.cells #[.int .u32 (mkA x n), .int .u8 (mkN n)] 24)) w.heap.size a n) := (Gr.one _ _).px hp1
  have HP2b : Hid (Px (w2.alloc (.cells #[.int .u32 (mkA x n), .int .u8 (mkN n)] 24)) (w.heap.size + 1) b m) := (Gr.one _ _).px hp2
  have HP3b : Hid (Px (w2.alloc (.cells #[.int .u32 (mkA x n), .int .u8 (mkN n)] 24)) w1.heap.size (mkA x n) (mkN n)) := (Gr.one _ _).px hp3
  have HP4b : Hid (Px (w2.alloc (.cells #[.int .u32 (mkA x n), .int .u8 (mkN n)] 24)) w2.heap.size (mkA x n) (mkN n)) := Px.new w2 _ _ 24
  have HG2 : Hid (Gr w (w2.alloc (.cells #[.int .u32 (mkA x n), .int .u8 (mkN n)] 24))) := (HG1.out.trans gg).alloc _
  obtain ⟨a0, a1⟩ := hp1
  obtain ⟨b0, b1⟩ := hp2
  obtain ⟨c0, c1⟩ := hp3
  clear hg2 gg HP1 HP2 HG1
  go_upto_region 5 with fail
  have p0 := aft_cell HP1b.out.1
  have p1 := aft_cell HP1b.out.2
  have p2 := aft_cell HP3b.out.1
  have p3 := aft_cell HP3b.out.2
  have p4 := aft_cell HP4b.out.1
  have p5 := aft_cell HP4b.out.2
  clear a0 a1 b0 b1 c0 c1
  refine wp_region_aft (by kernel_rfl) (by kernel_rfl) ?_
  repeat (first | go_big_quiet_skip | (go_big_quiet_want; go_big_quiet_op; first | go_big_quiet_on | (refine Exists.intro _ ⟨fun _ => rfl, ?_⟩; go_big_quiet_on)))
  go_big_quiet_want; go_big_quiet_op; refine Exists.intro _ ⟨fun u => Aft.call (same_gr (mask_any n _ HN.out)), ?_⟩; go_big_quiet_on
  repeat (first | go_big_quiet_skip | (go_big_quiet_want; go_big_quiet_op; first | go_big_quiet_on | (refine Exists.intro _ ⟨fun _ => rfl, ?_⟩; go_big_quiet_on)))
  go_big_quiet_want; go_big_quiet_op; refine Exists.intro _ ⟨fun u => Aft.call (same_gr (rmask_any n _ HN.out)), ?_⟩; go_big_quiet_on
  repeat (first | go_big_quiet_skip | (go_big_quiet_want; go_big_quiet_op; first | go_big_quiet_on | (refine Exists.intro _ ⟨fun _ => rfl, ?_⟩; go_big_quiet_on)))
  go_big_quiet_want; go_big_quiet_op; refine Exists.intro _ ⟨fun u => Aft.call (check_yes a n _ HN.out HA.out.1 HA.out.2 HP.out), ?_⟩; go_big_quiet_on
  repeat (first | go_big_quiet_skip | (go_big_quiet_want; go_big_quiet_op; first | go_big_quiet_on | (refine Exists.intro _ ⟨fun _ => rfl, ?_⟩; go_big_quiet_on)))
  go_big_quiet_want; go_big_quiet_op; refine Exists.intro _ ⟨fun u => Aft.call (is_at true a n _ HN.out HA.out.1 HA.out.2 HP.out), ?_⟩; go_big_quiet_on
  repeat (first | go_big_quiet_skip | (go_big_quiet_want; go_big_quiet_op; first | go_big_quiet_on | (refine Exists.intro _ ⟨fun _ => rfl, ?_⟩; go_big_quiet_on)))
  refine wpQuiet_nil ?_
  rintro w3 ⟨⟨_, hg3⟩, rfl⟩
  clear p0 p1 p2 p3 p4 p5
  have HP1c : Hid (Px w3 w.heap.size a n) := hg3.px HP1b.out
  have HP2c : Hid (Px w3 (w.heap.size + 1) b m) := hg3.px HP2b.out
  have HG3 : Hid (Gr w w3) := HG2.out.trans hg3
  clear hg3 HP1b HP2b HP3b HP4b HG2 l1 l2 l3 l4 l5
  go_upto_region 7 with fail
  have p0 := aft_cell HP1c.out.1
  have p1 := aft_cell HP1c.out.2
  have p2 := aft_cell HP2c.out.1
  have p3 := aft_cell HP2c.out.2
  refine wp_region_aft (by kernel_rfl) (by kernel_rfl) ?_
  repeat (first | go_big_quiet_skip | (go_big_quiet_want; go_big_quiet_op; first | go_big_quiet_on | (refine Exists.intro _ ⟨fun _ => rfl, ?_⟩; go_big_quiet_on)))
  go_big_quiet_want; go_big_quiet_op; refine Exists.intro _ ⟨fun u => Aft.call (check_yes a n _ HN.out HA.out.1 HA.out.2 HP.out), ?_⟩; go_big_quiet_on
  repeat (first | go_big_quiet_skip | (go_big_quiet_want; go_big_quiet_op; first | go_big_quiet_on | (refine Exists.intro _ ⟨fun _ => rfl, ?_⟩; go_big_quiet_on)))
  go_big_quiet_want; go_big_quiet_op; refine Exists.intro _ ⟨fun u => Aft.call (has_any a n x _ HN.out HX.out.1 HX.out.2), ?_⟩; go_big_quiet_on
  repeat (first | go_big_quiet_skip | (go_big_quiet_want; go_big_quiet_op; first | go_big_quiet_on | (refine Exists.intro _ ⟨fun _ => rfl, ?_⟩; go_big_quiet_on)))
  go_big_quiet_want; go_big_quiet_op; refine Exists.intro _ ⟨fun u => Aft.call (rhas_any a n x _ HN.out HA.out.1 HA.out.2 HX.out.1 HX.out.2), ?_⟩; go_big_quiet_on
  repeat (first | go_big_quiet_skip | (go_big_quiet_want; go_big_quiet_op; first | go_big_quiet_on | (refine Exists.intro _ ⟨fun _ => rfl, ?_⟩; go_big_quiet_on)))
  go_big_quiet_want; go_big_quiet_op; refine Exists.intro _ ⟨fun u => Aft.call (covers_any a n b m _ HN.out HM.out HB.out.1 HB.out.2), ?_⟩; go_big_quiet_on
  repeat (first | go_big_quiet_skip | (go_big_quiet_want; go_big_quiet_op; first | go_big_quiet_on | (refine Exists.intro _ ⟨fun _ => rfl, ?_⟩; go_big_quiet_on)))
  go_big_quiet_want; go_big_quiet_op; refine Exists.intro _ ⟨fun u => Aft.call (rcovers_any a n b m _ HN.out HM.out HA.out.1 HA.out.2 HB.out.1 HB.out.2), ?_⟩; go_big_quiet_on
  repeat (first | go_big_quiet_skip | (go_big_quiet_want; go_big_quiet_op; first | go_big_quiet_on | (refine Exists.intro _ ⟨fun _ => rfl, ?_⟩; go_big_quiet_on)))
  go_big_quiet_want; go_big_quiet_op; refine Exists.intro _ ⟨fun u => Aft.call (overlap_any a n b m _ HN.out HM.out HA.out.1 HA.out.2 HB.out.1 HB.out.2), ?_⟩; go_big_quiet_on
  repeat (first | go_big_quiet_skip | (go_big_quiet_want; go_big_quiet_op; first | go_big_quiet_on | (refine Exists.intro _ ⟨fun _ => rfl, ?_⟩; go_big_quiet_on)))
  go_big_quiet_want; go_big_quiet_op; refine Exists.intro _ ⟨fun u => Aft.call (roverlap_any a n b m _ HN.out HM.out HA.out.1 HA.out.2 HB.out.1 HB.out.2), ?_⟩; go_big_quiet_on
  repeat (first | go_big_quiet_skip | (go_big_quiet_want; go_big_quiet_op; first | go_big_quiet_on | (refine Exists.intro _ ⟨fun _ => rfl, ?_⟩; go_big_quiet_on)))
  refine wpQuiet_nil ?_
  rintro w4 ⟨⟨_, hg4⟩, rfl⟩
  clear p0 p1 p2 p3
  have HP1d : Hid (Px w4 w.heap.size a n) := hg4.px HP1c.out
  have HP2d : Hid (Px w4 (w.heap.size + 1) b m) := hg4.px HP2c.out
  have HG4 : Hid (Gr w w4) := HG3.out.trans hg4
  clear hg4 HP1c HP2c HG3
  go_upto_region 9 with fail
  have p0 := aft_cell HP1d.out.1
  have p1 := aft_cell HP1d.out.2
  have p2 := aft_cell HP2d.out.1
  have p3 := aft_cell HP2d.out.2
  refine wp_region_aft (by kernel_rfl) (by kernel_rfl) ?_
  repeat (first | go_big_quiet_skip | (go_big_quiet_want; go_big_quiet_op; first | go_big_quiet_on | (refine Exists.intro _ ⟨fun _ => rfl, ?_⟩; go_big_quiet_on)))
  go_big_quiet_want; go_big_quiet_op; refine Exists.intro _ ⟨fun u => Aft.call (compare_any a n b m _), ?_⟩; go_big_quiet_on
  repeat (first | go_big_quiet_skip | (go_big_quiet_want; go_big_quiet_op; first | go_big_quiet_on | (refine Exists.intro _ ⟨fun _ => rfl, ?_⟩; go_big_quiet_on)))
  go_big_quiet_want; go_big_quiet_op; refine Exists.intro _ ⟨fun u => Aft.call (rcompare_any a n b m _), ?_⟩; go_big_quiet_on
  repeat (first | go_big_quiet_skip | (go_big_quiet_want; go_big_quiet_op; first | go_big_quiet_on | (refine Exists.intro _ ⟨fun _ => rfl, ?_⟩; go_big_quiet_on)))
  go_big_quiet_want; go_big_quiet_op; refine Exists.intro _ ⟨fun u => Aft.call (lives_any _ (u.gr.tab (HG4.out.tab HT.out))), ?_⟩; go_big_quiet_on
  repeat (first | go_big_quiet_skip | (go_big_quiet_want; go_big_quiet_op; first | go_big_quiet_on | (refine Exists.intro _ ⟨fun _ => rfl, ?_⟩; go_big_quiet_on)))
  refine wpQuiet_nil ?_
  rintro w5 ⟨⟨_, hg5⟩, rfl⟩
  clear p0 p1 p2 p3
  go_wp2_with fail
  go_ret
  exact ⟨rfl, HG4.out.trans hg5⟩

set_option maxHeartbeats 2000000 in
theorem tells_false (a n b m x : Int) (w : World) (hn : 0 ≤ n) (hm : 0 ≤ m) (ha : 0 ≤ a ∧ a < 4294967296) (hb : 0 ≤ b ∧ b < 4294967296) (hx : 0 ≤ x ∧ x < 4294967296) (hp : pis a n = false) (htab : Tab w) :
    Calls Tryd.prog 3 #[.agg #[.int .u32 a, .int .u8 n], .agg #[.int .u32 b, .int .u8 m], .int .u32 x] w fun e w' => e = .returned (.bool true) ∧ Gr w w' := by
  have HN : Hid _ := hn
  have HM : Hid _ := hm
  have HA : Hid _ := ha
  have HB : Hid _ := hb
  have HX : Hid _ := hx
  have HP : Hid _ := hp
  have HT : Hid (Tab w) := htab
  clear hn hm ha hb hx hp htab
  go_enter Tryd.func3, Tryd.ntmps3
  go_wp2_with fail
  refine Calls.mono (bits_any x _ HX.out.1 HX.out.2) ?_
  rintro e w' ⟨rfl, rfl⟩
  go_wp2_with fail
  refine Calls.mono (rbits_any x _) ?_
  rintro e w' ⟨rfl, rfl⟩
  go_wp2_with fail
  refine Calls.mono (make_sym x n _ HN.out HX.out.1 HX.out.2) ?_
  rintro e w1 ⟨rfl, hg1⟩
  have r2 := Px.new (w.alloc (.cells #[.int .u32 a, .int .u8 n] 24)) b m 24
  rw [World.size_alloc] at r2
  have hp1 : Px w1 w.heap.size a n := hg1.px ((Gr.one (w.alloc (.cells #[.int .u32 a, .int .u8 n] 24)) (.cells #[.int .u32 b, .int .u8 m] 24)).px (Px.new w a n 24))
  have hp2 : Px w1 (w.heap.size + 1) b m := hg1.px r2
  have HP1 : Hid _ := hp1
  have HP2 : Hid _ := hp2
  have l1 := hp1.lt
  have l2 := hp2.lt
  obtain ⟨a0, a1⟩ := hp1
  obtain ⟨b0, b1⟩ := hp2
  have HG1 : Hid (Gr w w1) := (((Gr.refl w).alloc _).alloc _).trans hg1
  clear hg1 r2
  go_wp2_with fail
  refine Calls.mono (rmake_sym x n _ HN.out HX.out.1 HX.out.2) ?_
  rintro e w2 ⟨rfl, hg2⟩
  clear a0 a1 b0 b1
  have gg := (Gr.one w1 (.cells #[.int .u32 (mkA x n), .int .u8 (mkN n)] 24)).trans hg2
  have hp1 : Px w2 w.heap.size a n := gg.px HP1.out
  have hp2 : Px w2 (w.heap.size + 1) b m := gg.px HP2.out
  have hp3 : Px w2 w1.heap.size (mkA x n) (mkN n) := hg2.px (Px.new w1 _ _ 24)
  have l3 := hp1.lt
  have l4 := hp2.lt
  have l5 := hp3.lt
  have HP1b : Hid (Px (w2.alloc (.cells #[.int .u32 (mkA x n), .int .u8 (mkN n)] 24)) w.heap.size a n) := (Gr.one _ _).px hp1
  have HP2b : Hid (Px (w2.alloc (.cells #[.int .u32 (mkA x n), .int .u8 (mkN n)] 24)) (w.heap.size + 1) b m) := (Gr.one _ _).px hp2
  have HP3b : Hid (Px (w2.alloc (.cells #[.int .u32 (mkA x n), .int .u8 (mkN n)] 24)) w1.heap.size (mkA x n) (mkN n)) := (Gr.one _ _).px hp3
  have HP4b : Hid (Px (w2.alloc (.cells #[.int .u32 (mkA x n), .int .u8 (mkN n)] 24)) w2.heap.size (mkA x n) (mkN n)) := Px.new w2 _ _ 24
  have HG2 : Hid (Gr w (w2.alloc (.cells #[.int .u32 (mkA x n), .int .u8 (mkN n)] 24))) := (HG1.out.trans gg).alloc _
  obtain ⟨a0, a1⟩ := hp1
  obtain ⟨b0, b1⟩ := hp2
  obtain ⟨c0, c1⟩ := hp3
  clear hg2 gg HP1 HP2 HG1
  go_upto_region 5 with fail
  have p0 := aft_cell HP1b.out.1
  have p1 := aft_cell HP1b.out.2
  have p2 := aft_cell HP3b.out.1
  have p3 := aft_cell HP3b.out.2
  have p4 := aft_cell HP4b.out.1
  have p5 := aft_cell HP4b.out.2
  clear a0 a1 b0 b1 c0 c1
  refine wp_region_aft (by kernel_rfl) (by kernel_rfl) ?_
  repeat (first | go_big_quiet_skip | (go_big_quiet_want; go_big_quiet_op; first | go_big_quiet_on | (refine Exists.intro _ ⟨fun _ => rfl, ?_⟩; go_big_quiet_on)))
  go_big_quiet_want; go_big_quiet_op; refine Exists.intro _ ⟨fun u => Aft.call (same_gr (mask_any n _ HN.out)), ?_⟩; go_big_quiet_on
  repeat (first | go_big_quiet_skip | (go_big_quiet_want; go_big_quiet_op; first | go_big_quiet_on | (refine Exists.intro _ ⟨fun _ => rfl, ?_⟩; go_big_quiet_on)))
  go_big_quiet_want; go_big_quiet_op; refine Exists.intro _ ⟨fun u => Aft.call (same_gr (rmask_any n _ HN.out)), ?_⟩; go_big_quiet_on
  repeat (first | go_big_quiet_skip | (go_big_quiet_want; go_big_quiet_op; first | go_big_quiet_on | (refine Exists.intro _ ⟨fun _ => rfl, ?_⟩; go_big_quiet_on)))
  go_big_quiet_want; go_big_quiet_op; refine Exists.intro _ ⟨fun u => Aft.call (check_no a n _ HN.out HA.out.1 HA.out.2 HP.out), ?_⟩; go_big_quiet_on
  repeat (first | go_big_quiet_skip | (go_big_quiet_want; go_big_quiet_op; first | go_big_quiet_on | (refine Exists.intro _ ⟨fun _ => rfl, ?_⟩; go_big_quiet_on)))
  go_big_quiet_want; go_big_quiet_op; refine Exists.intro _ ⟨fun u => Aft.call (is_at false a n _ HN.out HA.out.1 HA.out.2 HP.out), ?_⟩; go_big_quiet_on
  repeat (first | go_big_quiet_skip | (go_big_quiet_want; go_big_quiet_op; first | go_big_quiet_on | (refine Exists.intro _ ⟨fun _ => rfl, ?_⟩; go_big_quiet_on)))
  refine wpQuiet_nil ?_
  rintro w3 ⟨⟨_, hg3⟩, rfl⟩
  clear p0 p1 p2 p3 p4 p5
  have HP1c : Hid (Px w3 w.heap.size a n) := hg3.px HP1b.out
  have HP2c : Hid (Px w3 (w.heap.size + 1) b m) := hg3.px HP2b.out
  have HG3 : Hid (Gr w w3) := HG2.out.trans hg3
  clear hg3 HP1b HP2b HP3b HP4b HG2 l1 l2 l3 l4 l5
  go_upto_region 7 with fail
  have p0 := aft_cell HP1c.out.1
  have p1 := aft_cell HP1c.out.2
  have p2 := aft_cell HP2c.out.1
  have p3 := aft_cell HP2c.out.2
  refine wp_region_aft (by kernel_rfl) (by kernel_rfl) ?_
  repeat (first | go_big_quiet_skip | (go_big_quiet_want; go_big_quiet_op; first | go_big_quiet_on | (refine Exists.intro _ ⟨fun _ => rfl, ?_⟩; go_big_quiet_on)))
  go_big_quiet_want; go_big_quiet_op; refine Exists.intro _ ⟨fun u => Aft.call (check_no a n _ HN.out HA.out.1 HA.out.2 HP.out), ?_⟩; go_big_quiet_on
  repeat (first | go_big_quiet_skip | (go_big_quiet_want; go_big_quiet_op; first | go_big_quiet_on | (refine Exists.intro _ ⟨fun _ => rfl, ?_⟩; go_big_quiet_on)))
  go_big_quiet_want; go_big_quiet_op; refine Exists.intro _ ⟨fun u => Aft.call (check_no a n _ HN.out HA.out.1 HA.out.2 HP.out), ?_⟩; go_big_quiet_on
  repeat (first | go_big_quiet_skip | (go_big_quiet_want; go_big_quiet_op; first | go_big_quiet_on | (refine Exists.intro _ ⟨fun _ => rfl, ?_⟩; go_big_quiet_on)))
  go_big_quiet_want; go_big_quiet_op; refine Exists.intro _ ⟨fun u => Aft.call (has_any a n x _ HN.out HX.out.1 HX.out.2), ?_⟩; go_big_quiet_on
  repeat (first | go_big_quiet_skip | (go_big_quiet_want; go_big_quiet_op; first | go_big_quiet_on | (refine Exists.intro _ ⟨fun _ => rfl, ?_⟩; go_big_quiet_on)))
  go_big_quiet_want; go_big_quiet_op; refine Exists.intro _ ⟨fun u => Aft.call (rhas_any a n x _ HN.out HA.out.1 HA.out.2 HX.out.1 HX.out.2), ?_⟩; go_big_quiet_on
  repeat (first | go_big_quiet_skip | (go_big_quiet_want; go_big_quiet_op; first | go_big_quiet_on | (refine Exists.intro _ ⟨fun _ => rfl, ?_⟩; go_big_quiet_on)))
  go_big_quiet_want; go_big_quiet_op; refine Exists.intro _ ⟨fun u => Aft.call (covers_any a n b m _ HN.out HM.out HB.out.1 HB.out.2), ?_⟩; go_big_quiet_on
  repeat (first | go_big_quiet_skip | (go_big_quiet_want; go_big_quiet_op; first | go_big_quiet_on | (refine Exists.intro _ ⟨fun _ => rfl, ?_⟩; go_big_quiet_on)))
  go_big_quiet_want; go_big_quiet_op; refine Exists.intro _ ⟨fun u => Aft.call (rcovers_any a n b m _ HN.out HM.out HA.out.1 HA.out.2 HB.out.1 HB.out.2), ?_⟩; go_big_quiet_on
  repeat (first | go_big_quiet_skip | (go_big_quiet_want; go_big_quiet_op; first | go_big_quiet_on | (refine Exists.intro _ ⟨fun _ => rfl, ?_⟩; go_big_quiet_on)))
  go_big_quiet_want; go_big_quiet_op; refine Exists.intro _ ⟨fun u => Aft.call (overlap_any a n b m _ HN.out HM.out HA.out.1 HA.out.2 HB.out.1 HB.out.2), ?_⟩; go_big_quiet_on
  repeat (first | go_big_quiet_skip | (go_big_quiet_want; go_big_quiet_op; first | go_big_quiet_on | (refine Exists.intro _ ⟨fun _ => rfl, ?_⟩; go_big_quiet_on)))
  go_big_quiet_want; go_big_quiet_op; refine Exists.intro _ ⟨fun u => Aft.call (roverlap_any a n b m _ HN.out HM.out HA.out.1 HA.out.2 HB.out.1 HB.out.2), ?_⟩; go_big_quiet_on
  repeat (first | go_big_quiet_skip | (go_big_quiet_want; go_big_quiet_op; first | go_big_quiet_on | (refine Exists.intro _ ⟨fun _ => rfl, ?_⟩; go_big_quiet_on)))
  refine wpQuiet_nil ?_
  rintro w4 ⟨⟨_, hg4⟩, rfl⟩
  clear p0 p1 p2 p3
  have HP1d : Hid (Px w4 w.heap.size a n) := hg4.px HP1c.out
  have HP2d : Hid (Px w4 (w.heap.size + 1) b m) := hg4.px HP2c.out
  have HG4 : Hid (Gr w w4) := HG3.out.trans hg4
  clear hg4 HP1c HP2c HG3
  go_upto_region 9 with fail
  have p0 := aft_cell HP1d.out.1
  have p1 := aft_cell HP1d.out.2
  have p2 := aft_cell HP2d.out.1
  have p3 := aft_cell HP2d.out.2
  refine wp_region_aft (by kernel_rfl) (by kernel_rfl) ?_
  repeat (first | go_big_quiet_skip | (go_big_quiet_want; go_big_quiet_op; first | go_big_quiet_on | (refine Exists.intro _ ⟨fun _ => rfl, ?_⟩; go_big_quiet_on)))
  go_big_quiet_want; go_big_quiet_op; refine Exists.intro _ ⟨fun u => Aft.call (compare_any a n b m _), ?_⟩; go_big_quiet_on
  repeat (first | go_big_quiet_skip | (go_big_quiet_want; go_big_quiet_op; first | go_big_quiet_on | (refine Exists.intro _ ⟨fun _ => rfl, ?_⟩; go_big_quiet_on)))
  go_big_quiet_want; go_big_quiet_op; refine Exists.intro _ ⟨fun u => Aft.call (rcompare_any a n b m _), ?_⟩; go_big_quiet_on
  repeat (first | go_big_quiet_skip | (go_big_quiet_want; go_big_quiet_op; first | go_big_quiet_on | (refine Exists.intro _ ⟨fun _ => rfl, ?_⟩; go_big_quiet_on)))
  go_big_quiet_want; go_big_quiet_op; refine Exists.intro _ ⟨fun u => Aft.call (lives_any _ (u.gr.tab (HG4.out.tab HT.out))), ?_⟩; go_big_quiet_on
  repeat (first | go_big_quiet_skip | (go_big_quiet_want; go_big_quiet_op; first | go_big_quiet_on | (refine Exists.intro _ ⟨fun _ => rfl, ?_⟩; go_big_quiet_on)))
  refine wpQuiet_nil ?_
  rintro w5 ⟨⟨_, hg5⟩, rfl⟩
  clear p0 p1 p2 p3
  go_wp2_with fail
  go_ret
  exact ⟨rfl, HG4.out.trans hg5⟩

theorem tells_walk (a n b m x : Int) (w : World) (hn : 0 ≤ n) (hm : 0 ≤ m) (ha : 0 ≤ a ∧ a < 4294967296) (hb : 0 ≤ b ∧ b < 4294967296) (hx : 0 ≤ x ∧ x < 4294967296) (htab : Tab w) :
    Calls Tryd.prog 3 #[.agg #[.int .u32 a, .int .u8 n], .agg #[.int .u32 b, .int .u8 m], .int .u32 x] w fun e w' => e = .returned (.bool true) ∧ Gr w w' := by
  cases hp : pis a n with
  | true => exact tells_true a n b m x w hn hm ha hb hx hp htab
  | false => exact tells_false a n b m x w hn hm ha hb hx hp htab
end Go.Proofs.YtmofndckjjbfgaaDoor
