
/- Once, and what a voice names afterwards. -/
import Derived.Test.YtcmkhhdjhemmbaaElPick
import Derived.Deep.DeepCutAuto
namespace Go.Proofs.Ytcmkhhdjhemmbaa
open Go.RowKit
set_option linter.unusedVariables false
set_option maxRecDepth 100000

abbrev CT (f : Nat) (args : Array Value) (d b : Int) (w : World) : Prop := Calls Try.prog f args w fun e w' => e = .returned (.tuple #[.int .u32 d, .int .u32 b]) ∧ Touch (fun _ => False) w w'
set_option maxHeartbeats 1000000 in
theorem once_any (l : List VC) (v : Value) (w : World) (hv : VcsAt w v l) (hn : l.length ≤ 1000) : CT 10 #[v] (onD l) (onB l) w := by
  unfold CT
  have PB := fun w' (t : Touch (fun _ => False) w w') b0 h0 => pickB_any l v w' (hv.keep t) hn b0 h0
  have PR := fun w' (t : Touch (fun _ => False) w w') b0 h0 => pickR_any l v w' (hv.keep t) hn b0 h0
  have PC := fun w' (t : Touch (fun _ => False) w w') b0 h0 => pickC_any l v w' (hv.keep t) hn b0 h0
  obtain ⟨va, vc, rfl, -⟩ := hv.form
  clear hv hn
  unfold onD onB
  generalize (bst fB l).ad = zb at *
  generalize (bst fR l).ad = zr at *
  generalize (bst VC.ch l).ad = zc at *
  generalize l.length = n at *
  by_cases hb : zb = 0
  · rw [if_pos hb]
    subst hb
    by_cases hc : zc = 0
    · rw [if_pos hc]
      subst hc
      go_enter Try.func10, Try.ntmps10
      go_wp2_with fail
      refine (PB _ ((Touch.refl _ w).alloc _) w.heap.size (by simp)).mono ?_
      rintro e w1 ⟨rfl, t1⟩
      have T1 : Hid (Touch (fun _ => False) w w1) := ((Touch.refl _ w).alloc _).trans t1
      have x1 := t1.cellN (a := ⟨w.heap.size, 0, none⟩) (v := .slice va n vc) (by simp)
      clear t1
      go_wp2_with fail
      refine (PR _ T1.out w.heap.size x1).mono ?_
      rintro e w2 ⟨rfl, t2⟩
      have T2 : Hid (Touch (fun _ => False) w w2) := T1.out.trans t2
      have x2 := t2.cellN x1
      clear t2
      go_wp2_with fail
      refine (PC _ T2.out w.heap.size x2).mono ?_
      rintro e w3 ⟨rfl, t3⟩
      have T3 : Hid (Touch (fun _ => False) w w3) := T2.out.trans t3
      clear t3
      go_wp2_with fail
      go_ret2
      exact ⟨rfl, T3.out⟩
    · rw [if_neg hc]
      have hc' : (zc == 0) = false := by simpa using hc
      go_enter Try.func10, Try.ntmps10
      go_wp2_with fail
      refine (PB _ ((Touch.refl _ w).alloc _) w.heap.size (by simp)).mono ?_
      rintro e w1 ⟨rfl, t1⟩
      have T1 : Hid (Touch (fun _ => False) w w1) := ((Touch.refl _ w).alloc _).trans t1
      have x1 := t1.cellN (a := ⟨w.heap.size, 0, none⟩) (v := .slice va n vc) (by simp)
      clear t1
      go_wp2_with fail
      refine (PR _ T1.out w.heap.size x1).mono ?_
      rintro e w2 ⟨rfl, t2⟩
      have T2 : Hid (Touch (fun _ => False) w w2) := T1.out.trans t2
      have x2 := t2.cellN x1
      clear t2
      go_wp2_with fail
      refine (PC _ T2.out w.heap.size x2).mono ?_
      rintro e w3 ⟨rfl, t3⟩
      have T3 : Hid (Touch (fun _ => False) w w3) := T2.out.trans t3
      clear t3
      go_wp2_with fail
      go_ret2
      exact ⟨rfl, T3.out⟩
  · rw [if_neg hb]
    have hb' : (zb == 0) = false := by simpa using hb
    by_cases hc : zc = 0
    · rw [if_pos hc]
      subst hc
      go_enter Try.func10, Try.ntmps10
      go_wp2_with fail
      refine (PB _ ((Touch.refl _ w).alloc _) w.heap.size (by simp)).mono ?_
      rintro e w1 ⟨rfl, t1⟩
      have T1 : Hid (Touch (fun _ => False) w w1) := ((Touch.refl _ w).alloc _).trans t1
      have x1 := t1.cellN (a := ⟨w.heap.size, 0, none⟩) (v := .slice va n vc) (by simp)
      clear t1
      go_wp2_with fail
      have T2 := T1
      have x2 := x1
      refine (PC _ T2.out w.heap.size x2).mono ?_
      rintro e w3 ⟨rfl, t3⟩
      have T3 : Hid (Touch (fun _ => False) w w3) := T2.out.trans t3
      clear t3
      go_wp2_with fail
      go_ret2
      exact ⟨rfl, T3.out⟩
    · rw [if_neg hc]
      have hc' : (zc == 0) = false := by simpa using hc
      go_enter Try.func10, Try.ntmps10
      go_wp2_with fail
      refine (PB _ ((Touch.refl _ w).alloc _) w.heap.size (by simp)).mono ?_
      rintro e w1 ⟨rfl, t1⟩
      have T1 : Hid (Touch (fun _ => False) w w1) := ((Touch.refl _ w).alloc _).trans t1
      have x1 := t1.cellN (a := ⟨w.heap.size, 0, none⟩) (v := .slice va n vc) (by simp)
      clear t1
      go_wp2_with fail
      have T2 := T1
      have x2 := x1
      refine (PC _ T2.out w.heap.size x2).mono ?_
      rintro e w3 ⟨rfl, t3⟩
      have T3 : Hid (Touch (fun _ => False) w w3) := T2.out.trans t3
      clear t3
      go_wp2_with fail
      go_ret2
      exact ⟨rfl, T3.out⟩

set_option maxHeartbeats 1000000 in
theorem aft_any (x : VC) (d b : Int) (w : World) : Calls Try.prog 26 #[x.agg, .int .u32 d, .int .u32 b] w fun e w' => e = .returned (x.aft d b).agg ∧ Touch (fun _ => False) w w' := by
  have HD := vis_any x d
  have HB := vis_any x b
  unfold VC.aft
  generalize x.is d = D at *
  generalize x.is b = B at *
  obtain ⟨r, ad, p, dr, bd⟩ := x
  cases D
  · cases B
    · go_enter Try.func26, Try.ntmps26
      go_upto_region 1 with fail
      generalize hW : (w.alloc (.cells #[.int .u32 r, .int .u32 ad, .int .u8 p, .int .u32 dr, .int .u32 bd] 35)).alloc (.cells #[.int .u32 0, .int .u32 0, .int .u8 0, .int .u32 0, .int .u32 0] 35) = W
      have T0 : Touch (fun _ => False) w W := by rw [← hW]; exact ((Touch.refl _ w).alloc _).alloc _
      have a0 : W.cell? ⟨w.heap.size, 0, none⟩ = some (.int .u32 r) := by rw [← hW]; simp
      have a1 : W.cell? ⟨w.heap.size, 1, none⟩ = some (.int .u32 ad) := by rw [← hW]; simp
      have a2 : W.cell? ⟨w.heap.size, 2, none⟩ = some (.int .u8 p) := by rw [← hW]; simp
      have a3 : W.cell? ⟨w.heap.size, 3, none⟩ = some (.int .u32 dr) := by rw [← hW]; simp
      have a4 : W.cell? ⟨w.heap.size, 4, none⟩ = some (.int .u32 bd) := by rw [← hW]; simp
      have b0 : W.cell? ⟨w.heap.size + 1, 0, none⟩ = some (.int .u32 0) := by rw [← hW]; simp
      have b1 : W.cell? ⟨w.heap.size + 1, 1, none⟩ = some (.int .u32 0) := by rw [← hW]; simp
      have b2 : W.cell? ⟨w.heap.size + 1, 2, none⟩ = some (.int .u8 0) := by rw [← hW]; simp
      have b3 : W.cell? ⟨w.heap.size + 1, 3, none⟩ = some (.int .u32 0) := by rw [← hW]; simp
      have b4 : W.cell? ⟨w.heap.size + 1, 4, none⟩ = some (.int .u32 0) := by rw [← hW]; simp
      have fa : ∀ o, W.frozen? ⟨w.heap.size, o, none⟩ = false := fun o => by rw [← hW]; simp
      have fb : ∀ o, W.frozen? ⟨w.heap.size + 1, o, none⟩ = false := fun o => by rw [← hW]; simp
      clear hW
      have d0 := aft_cell a0
      have d1 := aft_cell a1
      have d2 := aft_cell a2
      have d3 := aft_cell a3
      have d4 := aft_cell a4
      refine wp_region_aft (by kernel_rfl) (by kernel_rfl) ?_
      repeat (first | go_big_quiet_skip | (go_big_quiet_want; go_big_quiet_op; first | go_big_quiet_on | (refine Exists.intro _ ⟨fun _ => rfl, ?_⟩; go_big_quiet_on)))
      go_big_quiet_want; go_big_quiet_op; refine Exists.intro _ ⟨fun u => Aft.call (HD _), ?_⟩; go_big_quiet_on
      repeat (first | go_big_quiet_skip | (go_big_quiet_want; go_big_quiet_op; first | go_big_quiet_on | (refine Exists.intro _ ⟨fun _ => rfl, ?_⟩; go_big_quiet_on)))
      go_big_quiet_want; go_big_quiet_op; refine Exists.intro _ ⟨fun u => Aft.call (HB _), ?_⟩; go_big_quiet_on
      repeat (first | go_big_quiet_skip | (go_big_quiet_want; go_big_quiet_op; first | go_big_quiet_on | (refine Exists.intro _ ⟨fun _ => rfl, ?_⟩; go_big_quiet_on)))
      refine wpQuiet_nil ?_
      rintro wq ⟨⟨_, hgq⟩, rfl⟩
      have T1 := T0.trans hgq
      have hs1 := lt_of_cell a0
      have hs2 := lt_of_cell b0
      replace a0 := hgq.cellN a0
      replace b0 := hgq.cellN b0
      replace a1 := hgq.cellN a1
      replace b1 := hgq.cellN b1
      replace a2 := hgq.cellN a2
      replace b2 := hgq.cellN b2
      replace a3 := hgq.cellN a3
      replace b3 := hgq.cellN b3
      replace a4 := hgq.cellN a4
      replace b4 := hgq.cellN b4
      have fa0 := (hgq.frozen (p := ⟨w.heap.size, 0, none⟩) hs1 (fun h => h)).trans (fa 0)
      have fb0 := (hgq.frozen (p := ⟨w.heap.size + 1, 0, none⟩) hs2 (fun h => h)).trans (fb 0)
      have fa1 := (hgq.frozen (p := ⟨w.heap.size, 1, none⟩) hs1 (fun h => h)).trans (fa 1)
      have fb1 := (hgq.frozen (p := ⟨w.heap.size + 1, 1, none⟩) hs2 (fun h => h)).trans (fb 1)
      have fa2 := (hgq.frozen (p := ⟨w.heap.size, 2, none⟩) hs1 (fun h => h)).trans (fa 2)
      have fb2 := (hgq.frozen (p := ⟨w.heap.size + 1, 2, none⟩) hs2 (fun h => h)).trans (fb 2)
      have fa3 := (hgq.frozen (p := ⟨w.heap.size, 3, none⟩) hs1 (fun h => h)).trans (fa 3)
      have fb3 := (hgq.frozen (p := ⟨w.heap.size + 1, 3, none⟩) hs2 (fun h => h)).trans (fb 3)
      have fa4 := (hgq.frozen (p := ⟨w.heap.size, 4, none⟩) hs1 (fun h => h)).trans (fa 4)
      have fb4 := (hgq.frozen (p := ⟨w.heap.size + 1, 4, none⟩) hs2 (fun h => h)).trans (fb 4)
      clear T0 hgq d0 d1 d2 d3 d4 fa fb hs1 hs2 HD HB
      go_upto_region 3 with fail
      generalize hW2 : (wq.setCell ⟨w.heap.size, 3, none⟩ (.int .u32 0)).setCell ⟨w.heap.size, 4, none⟩ (.int .u32 0) = W2
      have TT : Hid (Touch (fun _ => False) w W2) := by
        show Touch _ _ _
        rw [← hW2]
        refine Touch.setCell (p := ⟨w.heap.size, 4, none⟩) ?_ (Or.inr (by simp)) _
        refine Touch.setCell (p := ⟨w.heap.size, 3, none⟩) ?_ (Or.inr (by simp)) _
        exact T1
      replace a0 : W2.cell? ⟨w.heap.size, 0, none⟩ = some (.int .u32 r) := by rw [← hW2]; simp [a0, go_sem]
      replace b0 : W2.cell? ⟨w.heap.size + 1, 0, none⟩ = some (.int .u32 0) := by rw [← hW2]; simp [b0, go_sem]
      replace fa0 : W2.frozen? ⟨w.heap.size, 0, none⟩ = false := by rw [← hW2]; simp [fa0, go_sem]
      replace fb0 : W2.frozen? ⟨w.heap.size + 1, 0, none⟩ = false := by rw [← hW2]; simp [fb0, go_sem]
      replace a1 : W2.cell? ⟨w.heap.size, 1, none⟩ = some (.int .u32 ad) := by rw [← hW2]; simp [a1, go_sem]
      replace b1 : W2.cell? ⟨w.heap.size + 1, 1, none⟩ = some (.int .u32 0) := by rw [← hW2]; simp [b1, go_sem]
      replace fa1 : W2.frozen? ⟨w.heap.size, 1, none⟩ = false := by rw [← hW2]; simp [fa1, go_sem]
      replace fb1 : W2.frozen? ⟨w.heap.size + 1, 1, none⟩ = false := by rw [← hW2]; simp [fb1, go_sem]
      replace a2 : W2.cell? ⟨w.heap.size, 2, none⟩ = some (.int .u8 p) := by rw [← hW2]; simp [a2, go_sem]
      replace b2 : W2.cell? ⟨w.heap.size + 1, 2, none⟩ = some (.int .u8 0) := by rw [← hW2]; simp [b2, go_sem]
      replace fa2 : W2.frozen? ⟨w.heap.size, 2, none⟩ = false := by rw [← hW2]; simp [fa2, go_sem]
      replace fb2 : W2.frozen? ⟨w.heap.size + 1, 2, none⟩ = false := by rw [← hW2]; simp [fb2, go_sem]
      replace a3 : W2.cell? ⟨w.heap.size, 3, none⟩ = some (.int .u32 0) := by rw [← hW2]; simp [a3, go_sem]
      replace b3 : W2.cell? ⟨w.heap.size + 1, 3, none⟩ = some (.int .u32 0) := by rw [← hW2]; simp [b3, go_sem]
      replace fa3 : W2.frozen? ⟨w.heap.size, 3, none⟩ = false := by rw [← hW2]; simp [fa3, go_sem]
      replace fb3 : W2.frozen? ⟨w.heap.size + 1, 3, none⟩ = false := by rw [← hW2]; simp [fb3, go_sem]
      replace a4 : W2.cell? ⟨w.heap.size, 4, none⟩ = some (.int .u32 0) := by rw [← hW2]; simp [a4, go_sem]
      replace b4 : W2.cell? ⟨w.heap.size + 1, 4, none⟩ = some (.int .u32 0) := by rw [← hW2]; simp [b4, go_sem]
      replace fa4 : W2.frozen? ⟨w.heap.size, 4, none⟩ = false := by rw [← hW2]; simp [fa4, go_sem]
      replace fb4 : W2.frozen? ⟨w.heap.size + 1, 4, none⟩ = false := by rw [← hW2]; simp [fb4, go_sem]
      clear hW2 T1
      go_wp2_with fail
      refine bodyPost_ret (v := .agg #[.int .u32 r, .int .u32 ad, .int .u8 p, .int .u32 0, .int .u32 0]) (by simp [results, Try.results26, go_sem, b0, b1, b2, b3, b4]) rfl ⟨by simp, ?_⟩
      refine Touch.setCell (p := ⟨w.heap.size + 1, 4, none⟩) ?_ (Or.inr (by simp)) _
      refine Touch.setCell (p := ⟨w.heap.size + 1, 3, none⟩) ?_ (Or.inr (by simp)) _
      refine Touch.setCell (p := ⟨w.heap.size + 1, 2, none⟩) ?_ (Or.inr (by simp)) _
      refine Touch.setCell (p := ⟨w.heap.size + 1, 1, none⟩) ?_ (Or.inr (by simp)) _
      refine Touch.setCell (p := ⟨w.heap.size + 1, 0, none⟩) ?_ (Or.inr (by simp)) _
      exact TT.out
    · go_enter Try.func26, Try.ntmps26
      go_upto_region 1 with fail
      generalize hW : (w.alloc (.cells #[.int .u32 r, .int .u32 ad, .int .u8 p, .int .u32 dr, .int .u32 bd] 35)).alloc (.cells #[.int .u32 0, .int .u32 0, .int .u8 0, .int .u32 0, .int .u32 0] 35) = W
      have T0 : Touch (fun _ => False) w W := by rw [← hW]; exact ((Touch.refl _ w).alloc _).alloc _
      have a0 : W.cell? ⟨w.heap.size, 0, none⟩ = some (.int .u32 r) := by rw [← hW]; simp
      have a1 : W.cell? ⟨w.heap.size, 1, none⟩ = some (.int .u32 ad) := by rw [← hW]; simp
      have a2 : W.cell? ⟨w.heap.size, 2, none⟩ = some (.int .u8 p) := by rw [← hW]; simp
      have a3 : W.cell? ⟨w.heap.size, 3, none⟩ = some (.int .u32 dr) := by rw [← hW]; simp
      have a4 : W.cell? ⟨w.heap.size, 4, none⟩ = some (.int .u32 bd) := by rw [← hW]; simp
      have b0 : W.cell? ⟨w.heap.size + 1, 0, none⟩ = some (.int .u32 0) := by rw [← hW]; simp
      have b1 : W.cell? ⟨w.heap.size + 1, 1, none⟩ = some (.int .u32 0) := by rw [← hW]; simp
      have b2 : W.cell? ⟨w.heap.size + 1, 2, none⟩ = some (.int .u8 0) := by rw [← hW]; simp
      have b3 : W.cell? ⟨w.heap.size + 1, 3, none⟩ = some (.int .u32 0) := by rw [← hW]; simp
      have b4 : W.cell? ⟨w.heap.size + 1, 4, none⟩ = some (.int .u32 0) := by rw [← hW]; simp
      have fa : ∀ o, W.frozen? ⟨w.heap.size, o, none⟩ = false := fun o => by rw [← hW]; simp
      have fb : ∀ o, W.frozen? ⟨w.heap.size + 1, o, none⟩ = false := fun o => by rw [← hW]; simp
      clear hW
      have d0 := aft_cell a0
      have d1 := aft_cell a1
      have d2 := aft_cell a2
      have d3 := aft_cell a3
      have d4 := aft_cell a4
      refine wp_region_aft (by kernel_rfl) (by kernel_rfl) ?_
      repeat (first | go_big_quiet_skip | (go_big_quiet_want; go_big_quiet_op; first | go_big_quiet_on | (refine Exists.intro _ ⟨fun _ => rfl, ?_⟩; go_big_quiet_on)))
      go_big_quiet_want; go_big_quiet_op; refine Exists.intro _ ⟨fun u => Aft.call (HD _), ?_⟩; go_big_quiet_on
      repeat (first | go_big_quiet_skip | (go_big_quiet_want; go_big_quiet_op; first | go_big_quiet_on | (refine Exists.intro _ ⟨fun _ => rfl, ?_⟩; go_big_quiet_on)))
      go_big_quiet_want; go_big_quiet_op; refine Exists.intro _ ⟨fun u => Aft.call (HB _), ?_⟩; go_big_quiet_on
      repeat (first | go_big_quiet_skip | (go_big_quiet_want; go_big_quiet_op; first | go_big_quiet_on | (refine Exists.intro _ ⟨fun _ => rfl, ?_⟩; go_big_quiet_on)))
      refine wpQuiet_nil ?_
      rintro wq ⟨⟨_, hgq⟩, rfl⟩
      have T1 := T0.trans hgq
      have hs1 := lt_of_cell a0
      have hs2 := lt_of_cell b0
      replace a0 := hgq.cellN a0
      replace b0 := hgq.cellN b0
      replace a1 := hgq.cellN a1
      replace b1 := hgq.cellN b1
      replace a2 := hgq.cellN a2
      replace b2 := hgq.cellN b2
      replace a3 := hgq.cellN a3
      replace b3 := hgq.cellN b3
      replace a4 := hgq.cellN a4
      replace b4 := hgq.cellN b4
      have fa0 := (hgq.frozen (p := ⟨w.heap.size, 0, none⟩) hs1 (fun h => h)).trans (fa 0)
      have fb0 := (hgq.frozen (p := ⟨w.heap.size + 1, 0, none⟩) hs2 (fun h => h)).trans (fb 0)
      have fa1 := (hgq.frozen (p := ⟨w.heap.size, 1, none⟩) hs1 (fun h => h)).trans (fa 1)
      have fb1 := (hgq.frozen (p := ⟨w.heap.size + 1, 1, none⟩) hs2 (fun h => h)).trans (fb 1)
      have fa2 := (hgq.frozen (p := ⟨w.heap.size, 2, none⟩) hs1 (fun h => h)).trans (fa 2)
      have fb2 := (hgq.frozen (p := ⟨w.heap.size + 1, 2, none⟩) hs2 (fun h => h)).trans (fb 2)
      have fa3 := (hgq.frozen (p := ⟨w.heap.size, 3, none⟩) hs1 (fun h => h)).trans (fa 3)
      have fb3 := (hgq.frozen (p := ⟨w.heap.size + 1, 3, none⟩) hs2 (fun h => h)).trans (fb 3)
      have fa4 := (hgq.frozen (p := ⟨w.heap.size, 4, none⟩) hs1 (fun h => h)).trans (fa 4)
      have fb4 := (hgq.frozen (p := ⟨w.heap.size + 1, 4, none⟩) hs2 (fun h => h)).trans (fb 4)
      clear T0 hgq d0 d1 d2 d3 d4 fa fb hs1 hs2 HD HB
      go_upto_region 3 with fail
      generalize hW2 : (wq.setCell ⟨w.heap.size, 3, none⟩ (.int .u32 0)).setCell ⟨w.heap.size, 4, none⟩ (.int .u32 0) = W2
      have TT : Hid (Touch (fun _ => False) w W2) := by
        show Touch _ _ _
        rw [← hW2]
        refine Touch.setCell (p := ⟨w.heap.size, 4, none⟩) ?_ (Or.inr (by simp)) _
        refine Touch.setCell (p := ⟨w.heap.size, 3, none⟩) ?_ (Or.inr (by simp)) _
        exact T1
      replace a0 : W2.cell? ⟨w.heap.size, 0, none⟩ = some (.int .u32 r) := by rw [← hW2]; simp [a0, go_sem]
      replace b0 : W2.cell? ⟨w.heap.size + 1, 0, none⟩ = some (.int .u32 0) := by rw [← hW2]; simp [b0, go_sem]
      replace fa0 : W2.frozen? ⟨w.heap.size, 0, none⟩ = false := by rw [← hW2]; simp [fa0, go_sem]
      replace fb0 : W2.frozen? ⟨w.heap.size + 1, 0, none⟩ = false := by rw [← hW2]; simp [fb0, go_sem]
      replace a1 : W2.cell? ⟨w.heap.size, 1, none⟩ = some (.int .u32 ad) := by rw [← hW2]; simp [a1, go_sem]
      replace b1 : W2.cell? ⟨w.heap.size + 1, 1, none⟩ = some (.int .u32 0) := by rw [← hW2]; simp [b1, go_sem]
      replace fa1 : W2.frozen? ⟨w.heap.size, 1, none⟩ = false := by rw [← hW2]; simp [fa1, go_sem]
      replace fb1 : W2.frozen? ⟨w.heap.size + 1, 1, none⟩ = false := by rw [← hW2]; simp [fb1, go_sem]
      replace a2 : W2.cell? ⟨w.heap.size, 2, none⟩ = some (.int .u8 p) := by rw [← hW2]; simp [a2, go_sem]
      replace b2 : W2.cell? ⟨w.heap.size + 1, 2, none⟩ = some (.int .u8 0) := by rw [← hW2]; simp [b2, go_sem]
      replace fa2 : W2.frozen? ⟨w.heap.size, 2, none⟩ = false := by rw [← hW2]; simp [fa2, go_sem]
      replace fb2 : W2.frozen? ⟨w.heap.size + 1, 2, none⟩ = false := by rw [← hW2]; simp [fb2, go_sem]
      replace a3 : W2.cell? ⟨w.heap.size, 3, none⟩ = some (.int .u32 0) := by rw [← hW2]; simp [a3, go_sem]
      replace b3 : W2.cell? ⟨w.heap.size + 1, 3, none⟩ = some (.int .u32 0) := by rw [← hW2]; simp [b3, go_sem]
      replace fa3 : W2.frozen? ⟨w.heap.size, 3, none⟩ = false := by rw [← hW2]; simp [fa3, go_sem]
      replace fb3 : W2.frozen? ⟨w.heap.size + 1, 3, none⟩ = false := by rw [← hW2]; simp [fb3, go_sem]
      replace a4 : W2.cell? ⟨w.heap.size, 4, none⟩ = some (.int .u32 0) := by rw [← hW2]; simp [a4, go_sem]
      replace b4 : W2.cell? ⟨w.heap.size + 1, 4, none⟩ = some (.int .u32 0) := by rw [← hW2]; simp [b4, go_sem]
      replace fa4 : W2.frozen? ⟨w.heap.size, 4, none⟩ = false := by rw [← hW2]; simp [fa4, go_sem]
      replace fb4 : W2.frozen? ⟨w.heap.size + 1, 4, none⟩ = false := by rw [← hW2]; simp [fb4, go_sem]
      clear hW2 T1
      go_wp2_with fail
      refine bodyPost_ret (v := .agg #[.int .u32 r, .int .u32 ad, .int .u8 p, .int .u32 0, .int .u32 ad]) (by simp [results, Try.results26, go_sem, b0, b1, b2, b3, b4]) rfl ⟨by simp, ?_⟩
      refine Touch.setCell (p := ⟨w.heap.size + 1, 4, none⟩) ?_ (Or.inr (by simp)) _
      refine Touch.setCell (p := ⟨w.heap.size + 1, 3, none⟩) ?_ (Or.inr (by simp)) _
      refine Touch.setCell (p := ⟨w.heap.size + 1, 2, none⟩) ?_ (Or.inr (by simp)) _
      refine Touch.setCell (p := ⟨w.heap.size + 1, 1, none⟩) ?_ (Or.inr (by simp)) _
      refine Touch.setCell (p := ⟨w.heap.size + 1, 0, none⟩) ?_ (Or.inr (by simp)) _
      refine Touch.setCell (p := ⟨w.heap.size, 4, none⟩) ?_ (Or.inr (by simp)) _
      exact TT.out
  · go_enter Try.func26, Try.ntmps26
    go_upto_region 1 with fail
    generalize hW : (w.alloc (.cells #[.int .u32 r, .int .u32 ad, .int .u8 p, .int .u32 dr, .int .u32 bd] 35)).alloc (.cells #[.int .u32 0, .int .u32 0, .int .u8 0, .int .u32 0, .int .u32 0] 35) = W
    have T0 : Touch (fun _ => False) w W := by rw [← hW]; exact ((Touch.refl _ w).alloc _).alloc _
    have a0 : W.cell? ⟨w.heap.size, 0, none⟩ = some (.int .u32 r) := by rw [← hW]; simp
    have a1 : W.cell? ⟨w.heap.size, 1, none⟩ = some (.int .u32 ad) := by rw [← hW]; simp
    have a2 : W.cell? ⟨w.heap.size, 2, none⟩ = some (.int .u8 p) := by rw [← hW]; simp
    have a3 : W.cell? ⟨w.heap.size, 3, none⟩ = some (.int .u32 dr) := by rw [← hW]; simp
    have a4 : W.cell? ⟨w.heap.size, 4, none⟩ = some (.int .u32 bd) := by rw [← hW]; simp
    have b0 : W.cell? ⟨w.heap.size + 1, 0, none⟩ = some (.int .u32 0) := by rw [← hW]; simp
    have b1 : W.cell? ⟨w.heap.size + 1, 1, none⟩ = some (.int .u32 0) := by rw [← hW]; simp
    have b2 : W.cell? ⟨w.heap.size + 1, 2, none⟩ = some (.int .u8 0) := by rw [← hW]; simp
    have b3 : W.cell? ⟨w.heap.size + 1, 3, none⟩ = some (.int .u32 0) := by rw [← hW]; simp
    have b4 : W.cell? ⟨w.heap.size + 1, 4, none⟩ = some (.int .u32 0) := by rw [← hW]; simp
    have fa : ∀ o, W.frozen? ⟨w.heap.size, o, none⟩ = false := fun o => by rw [← hW]; simp
    have fb : ∀ o, W.frozen? ⟨w.heap.size + 1, o, none⟩ = false := fun o => by rw [← hW]; simp
    clear hW
    have d0 := aft_cell a0
    have d1 := aft_cell a1
    have d2 := aft_cell a2
    have d3 := aft_cell a3
    have d4 := aft_cell a4
    refine wp_region_aft (by kernel_rfl) (by kernel_rfl) ?_
    repeat (first | go_big_quiet_skip | (go_big_quiet_want; go_big_quiet_op; first | go_big_quiet_on | (refine Exists.intro _ ⟨fun _ => rfl, ?_⟩; go_big_quiet_on)))
    go_big_quiet_want; go_big_quiet_op; refine Exists.intro _ ⟨fun u => Aft.call (HD _), ?_⟩; go_big_quiet_on
    repeat (first | go_big_quiet_skip | (go_big_quiet_want; go_big_quiet_op; first | go_big_quiet_on | (refine Exists.intro _ ⟨fun _ => rfl, ?_⟩; go_big_quiet_on)))
    go_big_quiet_want; go_big_quiet_op; refine Exists.intro _ ⟨fun u => Aft.call (HB _), ?_⟩; go_big_quiet_on
    repeat (first | go_big_quiet_skip | (go_big_quiet_want; go_big_quiet_op; first | go_big_quiet_on | (refine Exists.intro _ ⟨fun _ => rfl, ?_⟩; go_big_quiet_on)))
    refine wpQuiet_nil ?_
    rintro wq ⟨⟨_, hgq⟩, rfl⟩
    have T1 := T0.trans hgq
    have hs1 := lt_of_cell a0
    have hs2 := lt_of_cell b0
    replace a0 := hgq.cellN a0
    replace b0 := hgq.cellN b0
    replace a1 := hgq.cellN a1
    replace b1 := hgq.cellN b1
    replace a2 := hgq.cellN a2
    replace b2 := hgq.cellN b2
    replace a3 := hgq.cellN a3
    replace b3 := hgq.cellN b3
    replace a4 := hgq.cellN a4
    replace b4 := hgq.cellN b4
    have fa0 := (hgq.frozen (p := ⟨w.heap.size, 0, none⟩) hs1 (fun h => h)).trans (fa 0)
    have fb0 := (hgq.frozen (p := ⟨w.heap.size + 1, 0, none⟩) hs2 (fun h => h)).trans (fb 0)
    have fa1 := (hgq.frozen (p := ⟨w.heap.size, 1, none⟩) hs1 (fun h => h)).trans (fa 1)
    have fb1 := (hgq.frozen (p := ⟨w.heap.size + 1, 1, none⟩) hs2 (fun h => h)).trans (fb 1)
    have fa2 := (hgq.frozen (p := ⟨w.heap.size, 2, none⟩) hs1 (fun h => h)).trans (fa 2)
    have fb2 := (hgq.frozen (p := ⟨w.heap.size + 1, 2, none⟩) hs2 (fun h => h)).trans (fb 2)
    have fa3 := (hgq.frozen (p := ⟨w.heap.size, 3, none⟩) hs1 (fun h => h)).trans (fa 3)
    have fb3 := (hgq.frozen (p := ⟨w.heap.size + 1, 3, none⟩) hs2 (fun h => h)).trans (fb 3)
    have fa4 := (hgq.frozen (p := ⟨w.heap.size, 4, none⟩) hs1 (fun h => h)).trans (fa 4)
    have fb4 := (hgq.frozen (p := ⟨w.heap.size + 1, 4, none⟩) hs2 (fun h => h)).trans (fb 4)
    clear T0 hgq d0 d1 d2 d3 d4 fa fb hs1 hs2 HD HB
    go_upto_region 3 with fail
    generalize hW2 : (wq.setCell ⟨w.heap.size, 3, none⟩ (.int .u32 0)).setCell ⟨w.heap.size, 4, none⟩ (.int .u32 0) = W2
    have TT : Hid (Touch (fun _ => False) w W2) := by
      show Touch _ _ _
      rw [← hW2]
      refine Touch.setCell (p := ⟨w.heap.size, 4, none⟩) ?_ (Or.inr (by simp)) _
      refine Touch.setCell (p := ⟨w.heap.size, 3, none⟩) ?_ (Or.inr (by simp)) _
      exact T1
    replace a0 : W2.cell? ⟨w.heap.size, 0, none⟩ = some (.int .u32 r) := by rw [← hW2]; simp [a0, go_sem]
    replace b0 : W2.cell? ⟨w.heap.size + 1, 0, none⟩ = some (.int .u32 0) := by rw [← hW2]; simp [b0, go_sem]
    replace fa0 : W2.frozen? ⟨w.heap.size, 0, none⟩ = false := by rw [← hW2]; simp [fa0, go_sem]
    replace fb0 : W2.frozen? ⟨w.heap.size + 1, 0, none⟩ = false := by rw [← hW2]; simp [fb0, go_sem]
    replace a1 : W2.cell? ⟨w.heap.size, 1, none⟩ = some (.int .u32 ad) := by rw [← hW2]; simp [a1, go_sem]
    replace b1 : W2.cell? ⟨w.heap.size + 1, 1, none⟩ = some (.int .u32 0) := by rw [← hW2]; simp [b1, go_sem]
    replace fa1 : W2.frozen? ⟨w.heap.size, 1, none⟩ = false := by rw [← hW2]; simp [fa1, go_sem]
    replace fb1 : W2.frozen? ⟨w.heap.size + 1, 1, none⟩ = false := by rw [← hW2]; simp [fb1, go_sem]
    replace a2 : W2.cell? ⟨w.heap.size, 2, none⟩ = some (.int .u8 p) := by rw [← hW2]; simp [a2, go_sem]
    replace b2 : W2.cell? ⟨w.heap.size + 1, 2, none⟩ = some (.int .u8 0) := by rw [← hW2]; simp [b2, go_sem]
    replace fa2 : W2.frozen? ⟨w.heap.size, 2, none⟩ = false := by rw [← hW2]; simp [fa2, go_sem]
    replace fb2 : W2.frozen? ⟨w.heap.size + 1, 2, none⟩ = false := by rw [← hW2]; simp [fb2, go_sem]
    replace a3 : W2.cell? ⟨w.heap.size, 3, none⟩ = some (.int .u32 0) := by rw [← hW2]; simp [a3, go_sem]
    replace b3 : W2.cell? ⟨w.heap.size + 1, 3, none⟩ = some (.int .u32 0) := by rw [← hW2]; simp [b3, go_sem]
    replace fa3 : W2.frozen? ⟨w.heap.size, 3, none⟩ = false := by rw [← hW2]; simp [fa3, go_sem]
    replace fb3 : W2.frozen? ⟨w.heap.size + 1, 3, none⟩ = false := by rw [← hW2]; simp [fb3, go_sem]
    replace a4 : W2.cell? ⟨w.heap.size, 4, none⟩ = some (.int .u32 0) := by rw [← hW2]; simp [a4, go_sem]
    replace b4 : W2.cell? ⟨w.heap.size + 1, 4, none⟩ = some (.int .u32 0) := by rw [← hW2]; simp [b4, go_sem]
    replace fa4 : W2.frozen? ⟨w.heap.size, 4, none⟩ = false := by rw [← hW2]; simp [fa4, go_sem]
    replace fb4 : W2.frozen? ⟨w.heap.size + 1, 4, none⟩ = false := by rw [← hW2]; simp [fb4, go_sem]
    clear hW2 T1
    go_wp2_with fail
    refine bodyPost_ret (v := .agg #[.int .u32 r, .int .u32 ad, .int .u8 p, .int .u32 ad, .int .u32 0]) (by simp [results, Try.results26, go_sem, b0, b1, b2, b3, b4]) rfl ⟨by simp, ?_⟩
    refine Touch.setCell (p := ⟨w.heap.size + 1, 4, none⟩) ?_ (Or.inr (by simp)) _
    refine Touch.setCell (p := ⟨w.heap.size + 1, 3, none⟩) ?_ (Or.inr (by simp)) _
    refine Touch.setCell (p := ⟨w.heap.size + 1, 2, none⟩) ?_ (Or.inr (by simp)) _
    refine Touch.setCell (p := ⟨w.heap.size + 1, 1, none⟩) ?_ (Or.inr (by simp)) _
    refine Touch.setCell (p := ⟨w.heap.size + 1, 0, none⟩) ?_ (Or.inr (by simp)) _
    refine Touch.setCell (p := ⟨w.heap.size, 3, none⟩) ?_ (Or.inr (by simp)) _
    exact TT.out
end Go.Proofs.Ytcmkhhdjhemmbaa
