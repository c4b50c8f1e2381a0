/- Lists of prefixes with marks behind them: WidePrefixes, EqPrefixes, SparePrefixes; the document's Best. -/
import Derived.Test.YtmofndckjjbfgaaDoorPreBest
import Derived.Test.YtmofndckjjbfgaaDoorPreRef2
import Derived.OwnWalk
import Derived.Deep.DeepCutAuto
namespace Go.Proofs.YtmofndckjjbfgaaDoor
open Go.RowKit
set_option linter.unusedVariables false
set_option maxRecDepth 100000

/-- The mark number k behind a list. -/
def pmark (k : Nat) : Int := 9437185 + (k : Int)
/-- A list, and its marks. -/
def pwide (ps : Nat → Int × Int) (n : Nat) (i : Nat) : Int × Int := if i < n then ps i else (pmark i, 0)
theorem pwide_lt {ps : Nat → Int × Int} {n i : Nat} (h : i < n) : pwide ps n i = ps i := if_pos h
theorem pwide_ge {ps : Nat → Int × Int} {n i : Nat} (h : n ≤ i) : pwide ps n i = (pmark i, 0) := if_neg (by omega)

theorem Tryd.info24w : (Tryd.prog.info? 24).map (fun i => (i.zero, i.size, i.bytes)) = some (some (.agg #[.int .u32 0, .int .u8 0]), 2, 8) := by kernel_rfl

/-- A row of N places, the first k of which are laid. -/
structure WRow (w : World) (g N k : Nat) (ps : Nat → Int × Int) : Prop where
  done : PxRow w g 0 ps k
  there : ∀ j, j < 2 * N → ∃ v, w.cell? ⟨g, j, none⟩ = some v
  free : ∀ j, w.frozen? ⟨g, j, none⟩ = false

theorem WRow.next {w : World} {g N k : Nat} {ps : Nat → Int × Int} (h : WRow w g N k ps) (hk : k < N) : WRow ((w.setCell ⟨g, k * 2, none⟩ (.int .u32 (ps k).1)).setCell ⟨g, k * 2 + 1, none⟩ (.int .u8 (ps k).2)) g N (k + 1) ps := by
  obtain ⟨v0, h0⟩ := h.there (k * 2) (by omega)
  obtain ⟨v1, h1⟩ := h.there (k * 2 + 1) (by omega)
  have h1' : (w.setCell ⟨g, k * 2, none⟩ (.int .u32 (ps k).1)).cell? ⟨g, k * 2 + 1, none⟩ = some v1 := by rw [World.cell?_setCell_other _ _ _ _ (by simp)]; exact h1
  refine ⟨fun i hi => ?_, fun j hj => ?_, fun j => by simpa using h.free j⟩
  · rcases Nat.lt_or_ge i k with hik | hik
    · obtain ⟨a, b⟩ := h.done i hik
      rw [Nat.zero_add] at a b
      constructor
      · rw [World.cell?_setCell_other _ _ _ _ (by first | (simp; done) | (simp; omega)), World.cell?_setCell_other _ _ _ _ (by first | (simp; done) | (simp; omega)), Nat.zero_add]; exact a
      · rw [World.cell?_setCell_other _ _ _ _ (by first | (simp; done) | (simp; omega)), World.cell?_setCell_other _ _ _ _ (by first | (simp; done) | (simp; omega)), Nat.zero_add]; exact b
    · obtain rfl : i = k := by omega
      constructor
      · rw [Nat.zero_add, World.cell?_setCell_other _ _ _ _ (by simp), World.cell?_setCell_same _ _ _ h0]
      · rw [Nat.zero_add, World.cell?_setCell_same _ _ _ h1']
  · obtain ⟨v, hv⟩ := h.there j hj
    by_cases e1 : j = k * 2 + 1
    · subst e1; exact ⟨_, World.cell?_setCell_same _ _ _ h1'⟩
    · rw [World.cell?_setCell_other _ _ _ _ (by first | (simp; done) | (simp; omega))]
      by_cases e0 : j = k * 2
      · subst e0; exact ⟨_, World.cell?_setCell_same _ _ _ h0⟩
      · rw [World.cell?_setCell_other _ _ _ _ (by first | (simp; done) | (simp; omega))]; exact ⟨v, hv⟩

theorem wrow_made {w : World} {base g N : Nat} {xs : List Value} {ps : Nat → Int × Int} (h : w.ownsRow base 24 2 (.slice (some ⟨g, 0, none⟩) N N) N xs) : WRow w g N 0 ps := by
  rcases h.2 with ⟨h, _⟩ | ⟨g', cap, cur, hv, hb, hg, hnc, hcm, hcs, htake⟩
  · simp at h
  · simp at hv
    obtain ⟨rfl, rfl⟩ := hv
    refine ⟨fun i hi => absurd hi (by omega), fun j hj => ?_, fun j => by simp [World.frozen?, hg]⟩
    have hj' : j < cur.size := by omega
    exact ⟨cur[j], by simp [World.cell?, hg, hj']⟩

theorem grown_gr {w w' : World} (h : w.grownBy w' none) : Gr w w' := Below.grown (Below.refl _ _) h (Nat.le_refl _) (fun k hk => by cases hk)

def WideR (w : World) (ps : Nat → Int × Int) (n : Nat) (i : Value) (wr : World) : Prop := ∃ k : Nat, k ≤ n + 64 ∧ i = .int .i64 (k : Int) ∧ Hid (WRow wr w.heap.size (n + 64) k (pwide ps n)) ∧ Hid (Gr w wr)
theorem wide_less {N k : Nat} (hk : k < N) : N - (intOf (.int .i64 ((k : Int) + 1))).toNat < N - (intOf (.int .i64 (k : Int))).toNat := by simp [intOf]; omega

set_option maxHeartbeats 1000000 in
theorem num9_any (k : Nat) (w : World) (hk : k < 32768) : Calls Tryd.prog 43 #[.int .i64 9, .int .i64 (k : Int)] w fun e w' => e = .returned (.int .i64 (pmark k)) ∧ w = w' := by
  go_enter Tryd.func43, Tryd.ntmps43
  go_wp2
  go_ret
  exact ⟨ret_int (by unfold pmark; omega), rfl⟩

set_option maxHeartbeats 1000000 in
theorem pwide_any (a0 : Option Addr) (g off n c : Nat) (ps : Nat → Int × Int) (w : World) (hn : n ≤ 16384) (ha : 0 < n → a0 = some ⟨g, off, none⟩) (hr : PxRow w g off ps n) :
    Calls Tryd.prog 24 #[.slice a0 n c] w fun e w' => e = .returned (.slice (some ⟨w.heap.size, 0, none⟩) n (n + 64)) ∧ PxRow w' w.heap.size 0 (pwide ps n) (n + 64) ∧ Gr w w' := by
  obtain ⟨i0, hi, hz0, hz1, hz2⟩ := info_parts Tryd.info24w
  have HR : Hid (PxRow w g off ps n) := hr
  have HA : Hid _ := ha
  have HN : Hid _ := hn
  have hn0 : (0 : Int) ≤ (n : Int) + 64 := by omega
  clear hr ha
  go_enter Tryd.func24, Tryd.ntmps24
  go_wp2_with (at_make; refine wpList_make_full _ rfl (.tmp 7) (.tmp 7) 38 rfl w.heap.size 24 i0 (.agg #[.int .u32 0, .int .u8 0]) 2 Tryd.underlying38 hi hz0 hz1 .i64 .i64 _ _ (n + 64) rfl rfl ?c1 ?c2 ?c3 ?c4 ?c5 ?_)
  case c1 => omega
  case c2 => omega
  case c3 => rw [hz2]; omega
  case c4 => unfold maxLen; omega
  case c5 => exact Nat.le_refl _
  intro w1 hown hgrow
  have HW1 : Hid (WRow w1 w.heap.size (n + 64) 0 (pwide ps n)) := wrow_made hown
  have HG1 : Hid (Gr w w1) := grown_gr hgrow
  clear hown hgrow hi hz0 hz1 hz2 hn
  go_wp2_with fail
  go_loopw [4] (fun i wr => WideR w ps n i wr) (fun i _ => n + 64 - (intOf i).toNat)
  case atStart => exact ⟨0, Nat.zero_le _, rfl, HW1.out, HG1.out⟩
  case round =>
    obtain ⟨k, hk, rfl, HW, HG⟩ := hrel
    by_cases hlt : k < n + 64
    · obtain ⟨v0, t0⟩ := HW.out.there (k * 2) (by omega)
      obtain ⟨v1, t1⟩ := HW.out.there (k * 2 + 1) (by omega)
      have f0 := HW.out.free (k * 2)
      have f1 := HW.out.free (k * 2 + 1)
      have hki : (k : Int) < (n : Int) + 64 := by omega
      have hwk := wrap_succ' (k := k) (by have := HN.out; omega)
      by_cases hl : k < n
      · have e0 := HA.out (by omega)
        subst e0
        obtain ⟨c0, c1⟩ := (PxRow.gr HR.out HG.out) k hl
        have HX : Hid (pwide ps n k = ps k) := pwide_lt hl
        have hli : (k : Int) < (n : Int) := by omega
        have hnx := HW.out.next hlt
        rw [HX.out] at hnx
        have HNX : Hid _ := hnx
        clear hnx
        go_wp2_with fail
        go_roundw
        case rel => rw [hwk]; exact ⟨k + 1, hlt, by rw [Int.natCast_add]; rfl, HNX.out, (HG.out.setCell (Nat.le_refl _) _).setCell (Nat.le_refl _) _⟩
        case measure => rw [hwk]; exact wide_less hlt
      · have HX : Hid (pwide ps n k = (pmark k, 0)) := pwide_ge (by omega)
        have hli : ¬ (k : Int) < (n : Int) := by omega
        have HM : Hid (pmark k % 4294967296 = pmark k) := by
          show _ = _
          unfold pmark; have := HN.out; omega
        have hnx := HW.out.next hlt
        rw [HX.out] at hnx
        have HNX : Hid _ := hnx
        clear hnx
        go_wp2_with (go_at_call 43; refine Calls.mono (num9_any k _ (by have := HN.out; omega)) ?_; rintro e w' ⟨rfl, rfl⟩)
        rw [HM.out]
        go_roundw
        case rel => rw [hwk]; exact ⟨k + 1, hlt, by rw [Int.natCast_add]; rfl, HNX.out, (HG.out.setCell (Nat.le_refl _) _).setCell (Nat.le_refl _) _⟩
        case measure => rw [hwk]; exact wide_less hlt
    · obtain rfl : k = n + 64 := by omega
      have hki : ¬ (n : Int) + 64 < (n : Int) + 64 := by omega
      have hb0 : (0 : Int) ≤ (n : Int) := by omega
      have hb1 : (n : Int) ≤ (n : Int) + 64 := by omega
      go_wp2_with fail
      go_ret
      exact ⟨rfl, HW.out.done, HG.out⟩
theorem row_cell {w : World} {g off n : Nat} {ps : Nat → Int × Int} (h : PxRow w g off ps n) (k : Nat) (hk : k < n) : w.cell? ⟨g, off + k * 2, none⟩ = some (.int .u32 (ps k).1) ∧ w.cell? ⟨g, off + k * 2 + 1, none⟩ = some (.int .u8 (ps k).2) := h k hk
theorem row_cell0 {w : World} {g n : Nat} {ps : Nat → Int × Int} (h : PxRow w g 0 ps n) (k : Nat) (hk : k < n) : w.cell? ⟨g, k * 2, none⟩ = some (.int .u32 (ps k).1) ∧ w.cell? ⟨g, k * 2 + 1, none⟩ = some (.int .u8 (ps k).2) := by
  have := h k hk
  rwa [Nat.zero_add] at this

/-- The list of its own, and the one that came in: the same. -/
theorem peq_any (b0 : Option Addr) (ga gb ob n ca cb : Nat) (ps qs : Nat → Int × Int) (w : World) (hn : n ≤ 16384) (ha : PxRow w ga 0 qs n) (hq : ∀ i, i < n → qs i = ps i) (hbn : 0 < n → b0 = some ⟨gb, ob, none⟩) (hb : PxRow w gb ob ps n) :
    Calls Tryd.prog 27 #[.slice (some ⟨ga, 0, none⟩) n ca, .slice b0 n cb] w fun e w' => e = .returned (.bool true) ∧ Gr w w' := by
  have HA : Hid _ := ha
  have HB : Hid _ := hb
  have HQ : Hid _ := hq
  have HBN : Hid _ := hbn
  have HN : Hid _ := hn
  clear ha hb hq hbn hn
  go_enter Tryd.func27, Tryd.ntmps27
  go_wp2
  go_loopw [5] (fun i wr => ∃ k nd : Nat, k ≤ n ∧ i = .int .i64 (k : Int) ∧ wr = w.drewN nd) (fun i _ => n - (intOf i).toNat)
  case atStart => exact ⟨0, 0, Nat.zero_le _, rfl, rfl⟩
  case round =>
    obtain ⟨k, nd, hk, rfl, rfl⟩ := hrel
    by_cases hlt : k < n
    · have e0 := HBN.out (by omega)
      subst e0
      obtain ⟨a0, a1⟩ := row_cell0 HA.out k hlt
      obtain ⟨b0, b1⟩ := row_cell HB.out k hlt
      rw [HQ.out k hlt] at a0 a1
      obtain ⟨x, hx⟩ : ∃ x, x = (ps k).1 := ⟨_, rfl⟩
      obtain ⟨y, hy⟩ : ∃ y, y = (ps k).2 := ⟨_, rfl⟩
      rw [← hx] at a0 b0
      rw [← hy] at a1 b1
      have hki : (k : Int) < (n : Int) := by omega
      have hwk := wrap_succ' (k := k) (by have := HN.out; omega)
      clear hx hy HBN
      go_wp2
      go_quiet (fail)
      go_wp2
      go_roundw
      case rel => rw [hwk]; exact ⟨k + 1, _, hlt, by rw [Int.natCast_add]; rfl, rfl⟩
      case measure => rw [hwk]; exact wide_less hlt
    · have hki : ¬ (k : Int) < (n : Int) := by omega
      go_wp2
      go_ret
      exact ⟨rfl, (Gr.refl _).drewN _⟩

set_option maxHeartbeats 1000000 in
theorem pspare_any (g n : Nat) (ps : Nat → Int × Int) (w : World) (hn : n ≤ 16384) (hr : PxRow w g 0 (pwide ps n) (n + 64)) :
    Calls Tryd.prog 28 #[.slice (some ⟨g, 0, none⟩) n (n + 64)] w fun e w' => e = .returned (.bool true) ∧ Gr w w' := by
  have HR : Hid _ := hr
  have HN : Hid _ := hn
  have hb0 : (0 : Int) ≤ (n : Int) + 64 := by omega
  have hn2 : (n : Int) ≤ 16384 := by omega
  clear hr
  go_enter Tryd.func28, Tryd.ntmps28
  go_wp2_with fail
  go_loopw [4] (fun i wr => ∃ k : Nat, n ≤ k ∧ k ≤ n + 64 ∧ i = .int .i64 (k : Int) ∧ Hid (Gr w wr)) (fun i _ => n + 64 - (intOf i).toNat)
  case atStart => exact ⟨n, Nat.le_refl _, by omega, rfl, Gr.refl _⟩
  case round =>
    obtain ⟨k, hk0, hk, rfl, HG⟩ := hrel
    by_cases hlt : k < n + 64
    · obtain ⟨a0, a1⟩ := row_cell0 (PxRow.gr HR.out HG.out) k hlt
      rw [pwide_ge hk0] at a0 a1
      have hki : (k : Int) < (n : Int) + 64 := by omega
      have hwk := wrap_succ' (k := k) (by have := HN.out; omega)
      have HM : Hid (pmark k % 4294967296 = pmark k) := by
        show _ = _
        unfold pmark; have := HN.out; omega
      go_wp2_with fail
      have p0 := aft_cell (Px.new wr (pmark k) 0 24).1
      have p1 := aft_cell (Px.new wr (pmark k) 0 24).2
      have hm := HM.out
      refine wp_region_aft (by kernel_rfl) (by kernel_rfl) ?_
      repeat (first | go_big_quiet_skip | (go_big_quiet_want; go_big_quiet_op; first | go_big_quiet_on | (refine Exists.intro _ ⟨fun _ => rfl, ?_⟩; go_big_quiet_on)))
      go_big_quiet_want; go_big_quiet_op; refine Exists.intro _ ⟨fun u => Aft.call ((num9_any k _ (by have := HN.out; omega)).mono fun _ _ ⟨he, hw⟩ => ⟨he, hw ▸ Gr.refl _⟩), ?_⟩; go_big_quiet_on
      repeat (first | go_big_quiet_skip | (go_big_quiet_want; go_big_quiet_op; first | go_big_quiet_on | (refine Exists.intro _ ⟨fun _ => rfl, ?_⟩; go_big_quiet_on)))
      refine wpQuiet_nil ?_
      rintro w1 ⟨⟨_, hg1⟩, rfl⟩
      clear p0 p1
      go_wp2_with fail
      go_roundw
      case rel => exact ⟨k + 1, by omega, hlt, by rw [Int.natCast_add]; rfl, (HG.out.alloc _).trans hg1⟩
      case measure => exact wide_less hlt
    · have hki : ¬ (k : Int) < (n : Int) + 64 := by omega
      go_wp2_with fail
      go_ret
      exact ⟨rfl, HG.out⟩
set_option maxHeartbeats 1000000 in
theorem rbest_any (a0 : Option Addr) (g off n c : Nat) (ps : Nat → Int × Int) (x : Int) (w : World) (hx0 : 0 ≤ x) (hx1 : x < 4294967296) (hn : n ≤ 140737488355328)
    (ha : 0 < n → a0 = some ⟨g, off, none⟩) (hr : PxRow w g off ps n) (hps : ∀ i, i < n → (0 ≤ (ps i).1 ∧ (ps i).1 < 4294967296) ∧ 0 ≤ (ps i).2) :
    Calls Tryd.prog 26 #[.slice a0 n c, .int .u32 x] w fun e w' => e = .returned (.int .i64 (bestI ps x n)) ∧ Gr w w' := by
  have HR : Hid _ := hr
  have HPS : Hid _ := hps
  have HA : Hid _ := ha
  have HN : Hid _ := hn
  have HX : Hid (0 ≤ x ∧ x < 4294967296) := ⟨hx0, hx1⟩
  clear hr hps ha hn hx0 hx1
  go_enter Tryd.func26, Tryd.ntmps26
  go_wp2_with fail
  go_loopw [5, 6] (fun b i wr => BestR w ps x n b i wr) (fun _ i _ => n - (intOf i).toNat)
  case atStart => exact ⟨0, Nat.zero_le _, rfl, rfl, Gr.refl _⟩
  case round =>
    obtain ⟨k, hk, rfl, rfl, HG⟩ := hrel
    by_cases hkn : k < n
    · have hki : (k : Int) < (n : Int) := by omega
      have hk0 : (0 : Int) ≤ (k : Int) := by omega
      have e0 := HA.out (by omega)
      subst e0
      have hwk := wrap_succ' (k := k) (by have := HN.out; omega)
      have HRr : Hid (PxRow wr g off ps n) := PxRow.gr HR.out HG.out
      obtain ⟨hpa, hp0⟩ := HPS.out k hkn
      obtain ⟨hb0, hb1⟩ := bestI_bd ps x k
      have p0 := aft_cell (HRr.out k hkn).1
      have p1 := aft_cell (HRr.out k hkn).2
      cases hh : phas (ps k).1 (ps k).2 x with
      | false =>
        have HE : Hid _ := best_no hh
        have HH : Hid _ := hh
        clear hh hb0 hb1
        go_upto_region 5 with fail
        refine wp_region_aft (by kernel_rfl) (by kernel_rfl) ?_
        repeat (first | go_big_quiet_skip | (go_big_quiet_want; go_big_quiet_op; first | go_big_quiet_on | (refine Exists.intro _ ⟨fun _ => rfl, ?_⟩; go_big_quiet_on)))
        go_big_quiet_want; go_big_quiet_op; refine Exists.intro _ ⟨fun u => Aft.call (rhas_at false (ps k).1 (ps k).2 x _ hp0 hpa.1 hpa.2 HX.out.1 HX.out.2 HH.out), ?_⟩; go_big_quiet_on
        repeat (first | go_big_quiet_skip | (go_big_quiet_want; go_big_quiet_op; first | go_big_quiet_on | (refine Exists.intro _ ⟨fun _ => rfl, ?_⟩; go_big_quiet_on)))
        refine wpQuiet_nil ?_
        rintro w1 ⟨⟨_, hg1⟩, rfl⟩
        clear p0 p1
        go_wp2_with fail
        have hst := best_step (w := w) (wr := wr) (x := x) (ps := ps) hkn (HG.out.trans hg1) HE.out.symm
        go_roundw
        case rel => rw [hwk]; exact hst
        case measure => rw [hwk]; exact best_less hkn
      | true =>
        by_cases hb : bestI ps x k < 0
        · have HE : Hid (bestI ps x (k + 1) = (k : Int)) := best_new hh (.inl hb)
          have HH : Hid _ := hh
          clear hh hb0 hb1
          go_upto_region 5 with fail
          refine wp_region_aft (by kernel_rfl) (by kernel_rfl) ?_
          repeat (first | go_big_quiet_skip | (go_big_quiet_want; go_big_quiet_op; first | go_big_quiet_on | (refine Exists.intro _ ⟨fun _ => rfl, ?_⟩; go_big_quiet_on)))
          go_big_quiet_want; go_big_quiet_op; refine Exists.intro _ ⟨fun u => Aft.call (rhas_at true (ps k).1 (ps k).2 x _ hp0 hpa.1 hpa.2 HX.out.1 HX.out.2 HH.out), ?_⟩; go_big_quiet_on
          repeat (first | go_big_quiet_skip | (go_big_quiet_want; go_big_quiet_op; first | go_big_quiet_on | (refine Exists.intro _ ⟨fun _ => rfl, ?_⟩; go_big_quiet_on)))
          refine wpQuiet_nil ?_
          rintro w1 ⟨⟨_, hg1⟩, rfl⟩
          clear p0 p1
          go_wp2_with fail
          have hst := best_step (w := w) (wr := wr) (x := x) (ps := ps) hkn (HG.out.trans hg1) HE.out.symm
          go_roundw
          case rel => rw [hwk]; exact hst
          case measure => rw [hwk]; exact best_less hkn
        · obtain ⟨j, hj⟩ : ∃ j : Nat, bestI ps x k = (j : Int) := ⟨(bestI ps x k).toNat, by omega⟩
          have hjn : j < n := by omega
          have HE1 : Hid ((ps j).2 < (ps k).2 → bestI ps x (k + 1) = (k : Int)) := fun h => best_new hh (.inr (by rw [hj]; exact h))
          have HE2 : Hid (¬ (ps j).2 < (ps k).2 → bestI ps x (k + 1) = (j : Int)) := fun h => by rw [best_old hh (by rw [hj]; exact ⟨by omega, h⟩), hj]
          have HH : Hid _ := hh
          rw [hj]
          have q0 : (0 : Int) ≤ (j : Int) := by omega
          have q1 : (j : Int) < (n : Int) := by omega
          have q2 : decide ((j : Int) < 0) = false := by simp
          have p2 := aft_cell (HRr.out j hjn).2
          clear hh hb0 hb1 hb hj
          go_upto_region 5 with fail
          refine wp_region_aft (by kernel_rfl) (by kernel_rfl) ?_
          repeat (first | go_big_quiet_skip | (go_big_quiet_want; go_big_quiet_op; first | go_big_quiet_on | (refine Exists.intro _ ⟨fun _ => rfl, ?_⟩; go_big_quiet_on)))
          go_big_quiet_want; go_big_quiet_op; refine Exists.intro _ ⟨fun u => Aft.call (rhas_at true (ps k).1 (ps k).2 x _ hp0 hpa.1 hpa.2 HX.out.1 HX.out.2 HH.out), ?_⟩; go_big_quiet_on
          repeat (first | go_big_quiet_skip | (go_big_quiet_want; go_big_quiet_op; first | go_big_quiet_on | (refine Exists.intro _ ⟨fun _ => rfl, ?_⟩; go_big_quiet_on)))
          refine wpQuiet_nil ?_
          rintro w1 ⟨⟨_, hg1⟩, rfl⟩
          clear p0 p1 p2
          by_cases hgt : (ps j).2 < (ps k).2
          · have hst := best_step (w := w) (wr := wr) (x := x) (ps := ps) hkn (HG.out.trans hg1) (HE1.out (by omega)).symm
            go_wp2_with fail
            go_roundw
            case rel => rw [hwk]; exact hst
            case measure => rw [hwk]; exact best_less hkn
          · have hst := best_step (w := w) (wr := wr) (x := x) (ps := ps) hkn (HG.out.trans hg1) (HE2.out (by omega)).symm
            go_wp2_with fail
            go_roundw
            case rel => rw [hwk]; exact hst
            case measure => rw [hwk]; exact best_less hkn
    · obtain rfl : k = n := by omega
      have hki : ¬ (k : Int) < (k : Int) := by omega
      go_wp2_with fail
      go_ret
      exact ⟨rfl, HG.out⟩
end Go.Proofs.YtmofndckjjbfgaaDoor
