/- The document's answer: covering and sharing, by the least and the greatest address. -/
import Derived.Test.YtmofndckjjbfgaaDoorPreRef2
import Derived.BigQuiet
namespace Go.Proofs.YtmofndckjjbfgaaDoor
open Go.RowKit
set_option linter.unusedVariables false
set_option maxRecDepth 100000

theorem nat_not (m : Nat) (hm : m < 4294967296) : 4294967295 ^^^ m = 4294967295 - m := by
  have e : (4294967295 : Nat) = 2 ^ 32 - 1 := by decide
  rw [e, show 2 ^ 32 - 1 - m = 2 ^ 32 - (m + 1) by omega]
  refine Nat.eq_of_testBit_eq fun i => ?_
  rw [Nat.testBit_xor, Nat.testBit_two_pow_sub_one, Nat.testBit_two_pow_sub_succ (by omega)]
  by_cases hi : i < 32
  · simp [hi]
  · have : m.testBit i = false := Nat.testBit_lt_two_pow (Nat.lt_of_lt_of_le (show m < 2 ^ 32 by omega) (Nat.pow_le_pow_right (by omega) (by omega)))
    simp [hi, this]
theorem xor_max {m : Int} (h0 : 0 ≤ m) (h1 : m < 4294967296) : bits .xor .u32 IntKind.u32.max m = 4294967295 - m := by
  have e : IntKind.u32.max = 4294967295 := by decide
  rw [e, u32_xor _ _ (by omega) (by omega) h0 h1, show (4294967295 : Int).toNat = 4294967295 from rfl, nat_not _ (by omega)]
  omega
theorem not_mask {n : Int} (h0 : 0 ≤ n) (h1 : n ≤ 32) : 4294967295 - pmask n = psz n - 1 := by rw [pmask_le h1]; omega
theorem or_last {a n : Int} (h0 : 0 ≤ n) (ha0 : 0 ≤ a) (ha1 : a < 4294967296) (hp : pis a n = true) : bits .or .u32 a (psz n - 1) = a + psz n - 1 := by
  obtain ⟨h1, h2⟩ := pis_iff.1 hp
  obtain ⟨A, rfl⟩ : ∃ A : Nat, a = A := ⟨a.toNat, by omega⟩
  have hz := psz_le h0
  have hpos := psz_pos n
  have e : psz n = ((2 ^ (32 - n).toNat : Nat) : Int) := psz_nat n
  have hm : A % 2 ^ (32 - n).toNat = 0 := by rw [e] at h2; omega
  rw [show psz n - 1 = ((2 ^ (32 - n).toNat - 1 : Nat) : Int) by omega, u32_or_nat _ _ (by omega) (by omega), nat_join (32 - n).toNat _ _ hm (by omega)]
  omega

set_option maxHeartbeats 400000 in
theorem last_any (a n : Int) (w : World) (h0 : 0 ≤ n) (ha0 : 0 ≤ a) (ha1 : a < 4294967296) (hp : pis a n = true) :
    Calls Tryd.prog 39 #[.agg #[.int .u32 a, .int .u8 n]] w fun e w' => e = .returned (.int .u32 (a + psz n - 1)) ∧ Gr w w' := by
  have h1 := (pis_iff.1 hp).1
  have HO : Hid (bits .or .u32 a (psz n - 1) = a + psz n - 1) := or_last h0 ha0 ha1 hp
  have HM : Hid (4294967295 - pmask n = psz n - 1) := not_mask h0 h1
  have HB := pmask_bd h0
  have hb0 := HB.1
  have hb1 := HB.2
  clear HB hp
  go_enter Tryd.func39, Tryd.ntmps39
  go_wp2_with fail
  go_quiet ((go_at_call 12; exact Calls.quiet_of_same ((rmask_any _ _ h0).mono fun e w' h => ⟨h.1, h.2.symm⟩)))
  go_wp2
  go_ret
  exact ⟨ret_int (by rw [xor_max hb0 hb1, HM.out, HO.out]), ((Gr.one _ _).drewN _)⟩

theorem pcov_ends' {a n b m : Int} (h1 : pis a n = true) (h2 : pis b m = true) : pcov a n b m = decide (a ≤ b ∧ b + psz m ≤ a + psz n) := by
  rw [Bool.eq_iff_iff, pcov_ends]; simp [h1, h2]
theorem pcov_notl {a n b m : Int} (h : pis a n = false) : pcov a n b m = false := by
  cases hc : pcov a n b m with
  | false => rfl
  | true => rw [(pcov_ends.1 hc).1] at h; cases h
theorem pover_ends' {a n b m : Int} (h1 : pis a n = true) (h2 : pis b m = true) : pover a n b m = decide (a < b + psz m ∧ b < a + psz n) := by
  rw [Bool.eq_iff_iff, pover_ends]; simp [h1, h2]
theorem pover_not {a n b m : Int} (h : pis a n = false ∨ pis b m = false) : pover a n b m = false := by
  cases hc : pover a n b m with
  | false => rfl
  | true =>
    obtain ⟨h1, h2, _⟩ := pover_ends.1 hc
    rcases h with h | h
    · rw [h1] at h; cases h
    · rw [h2] at h; cases h

set_option maxHeartbeats 1000000 in
theorem rcovers_any (a n b m : Int) (w : World) (h0 : 0 ≤ n) (hm0 : 0 ≤ m) (ha0 : 0 ≤ a) (ha1 : a < 4294967296) (hb0 : 0 ≤ b) (hb1 : b < 4294967296) :
    Calls Tryd.prog 18 #[.agg #[.int .u32 a, .int .u8 n], .agg #[.int .u32 b, .int .u8 m]] w fun e w' => e = .returned (.bool (pcov a n b m)) ∧ Gr w w' := by
  have HA : Hid (0 ≤ a ∧ a < 4294967296) := ⟨ha0, ha1⟩
  have HB : Hid (0 ≤ b ∧ b < 4294967296) := ⟨hb0, hb1⟩
  have HN : Hid (0 ≤ n) := h0
  have HM : Hid (0 ≤ m) := hm0
  clear ha0 ha1 hb0 hb1 h0 hm0
  have q := (Gr.one (w.alloc (.cells #[.int .u32 a, .int .u8 n] 24)) (.cells #[.int .u32 b, .int .u8 m] 24)).px (Px.new w a n 24)
  have r := Px.new (w.alloc (.cells #[.int .u32 a, .int .u8 n] 24)) b m 24
  rw [World.size_alloc] at r
  have p0 := aft_cell q.1
  have p1 := aft_cell q.2
  have p2 := aft_cell r.1
  have p3 := aft_cell r.2
  clear q r
  cases hp : pis a n with
  | false =>
    have HP : Hid _ := hp
    clear hp
    go_enter Tryd.func18, Tryd.ntmps18
    go_wp2_with fail
    refine wp_region_aft (by kernel_rfl) (by kernel_rfl) ?_
    repeat (first | go_big_quiet_skip | (go_big_quiet_want; go_big_quiet_op; first | go_big_quiet_on | (refine Exists.intro _ ⟨fun _ => rfl, ?_⟩; go_big_quiet_on)))
    go_big_quiet_want; go_big_quiet_op; refine Exists.intro _ ⟨fun u => Aft.call (is_at false a n _ HN.out HA.out.1 HA.out.2 HP.out), ?_⟩; go_big_quiet_on
    repeat (first | go_big_quiet_skip | (go_big_quiet_want; go_big_quiet_op; first | go_big_quiet_on | (refine Exists.intro _ ⟨fun _ => rfl, ?_⟩; go_big_quiet_on)))
    refine wpQuiet_nil ?_
    rintro _ ⟨⟨wq, hgq⟩, rfl⟩
    clear p0 p1 p2 p3
    go_wp2_with fail
    go_ret
    exact ⟨ret_bool ((pcov_notl HP.out).symm), (((Gr.refl w).alloc _).alloc _).trans hgq⟩
  | true =>
    have HP : Hid _ := hp
    clear hp
    cases hq : pis b m with
    | false =>
      have HQ : Hid _ := hq
      clear hq
      go_enter Tryd.func18, Tryd.ntmps18
      go_wp2_with fail
      refine wp_region_aft (by kernel_rfl) (by kernel_rfl) ?_
      repeat (first | go_big_quiet_skip | (go_big_quiet_want; go_big_quiet_op; first | go_big_quiet_on | (refine Exists.intro _ ⟨fun _ => rfl, ?_⟩; go_big_quiet_on)))
      go_big_quiet_want; go_big_quiet_op; refine Exists.intro _ ⟨fun u => Aft.call (is_at true a n _ HN.out HA.out.1 HA.out.2 HP.out), ?_⟩; go_big_quiet_on
      repeat (first | go_big_quiet_skip | (go_big_quiet_want; go_big_quiet_op; first | go_big_quiet_on | (refine Exists.intro _ ⟨fun _ => rfl, ?_⟩; go_big_quiet_on)))
      go_big_quiet_want; go_big_quiet_op; refine Exists.intro _ ⟨fun u => Aft.call (is_at false b m _ HM.out HB.out.1 HB.out.2 HQ.out), ?_⟩; go_big_quiet_on
      repeat (first | go_big_quiet_skip | (go_big_quiet_want; go_big_quiet_op; first | go_big_quiet_on | (refine Exists.intro _ ⟨fun _ => rfl, ?_⟩; go_big_quiet_on)))
      refine wpQuiet_nil ?_
      rintro _ ⟨⟨wq, hgq⟩, rfl⟩
      clear p0 p1 p2 p3
      go_wp2_with fail
      go_ret
      exact ⟨ret_bool ((pcov_no1 HQ.out).symm), (((Gr.refl w).alloc _).alloc _).trans hgq⟩
    | true =>
      have HQ : Hid _ := hq
      clear hq
      have HE : Hid _ := pcov_ends' HP.out HQ.out
      by_cases hab : a ≤ b
      · have HAB : Hid _ := hab
        go_enter Tryd.func18, Tryd.ntmps18
        go_wp2_with fail
        refine wp_region_aft (by kernel_rfl) (by kernel_rfl) ?_
        repeat (first | go_big_quiet_skip | (go_big_quiet_want; go_big_quiet_op; first | go_big_quiet_on | (refine Exists.intro _ ⟨fun _ => rfl, ?_⟩; go_big_quiet_on)))
        go_big_quiet_want; go_big_quiet_op; refine Exists.intro _ ⟨fun u => Aft.call (is_at true a n _ HN.out HA.out.1 HA.out.2 HP.out), ?_⟩; go_big_quiet_on
        repeat (first | go_big_quiet_skip | (go_big_quiet_want; go_big_quiet_op; first | go_big_quiet_on | (refine Exists.intro _ ⟨fun _ => rfl, ?_⟩; go_big_quiet_on)))
        go_big_quiet_want; go_big_quiet_op; refine Exists.intro _ ⟨fun u => Aft.call (is_at true b m _ HM.out HB.out.1 HB.out.2 HQ.out), ?_⟩; go_big_quiet_on
        repeat (first | go_big_quiet_skip | (go_big_quiet_want; go_big_quiet_op; first | go_big_quiet_on | (refine Exists.intro _ ⟨fun _ => rfl, ?_⟩; go_big_quiet_on)))
        go_big_quiet_want; go_big_quiet_op; refine Exists.intro _ ⟨fun u => Aft.call (last_any b m _ HM.out HB.out.1 HB.out.2 HQ.out), ?_⟩; go_big_quiet_on
        repeat (first | go_big_quiet_skip | (go_big_quiet_want; go_big_quiet_op; first | go_big_quiet_on | (refine Exists.intro _ ⟨fun _ => rfl, ?_⟩; go_big_quiet_on)))
        go_big_quiet_want; go_big_quiet_op; refine Exists.intro _ ⟨fun u => Aft.call (last_any a n _ HN.out HA.out.1 HA.out.2 HP.out), ?_⟩; go_big_quiet_on
        repeat (first | go_big_quiet_skip | (go_big_quiet_want; go_big_quiet_op; first | go_big_quiet_on | (refine Exists.intro _ ⟨fun _ => rfl, ?_⟩; go_big_quiet_on)))
        refine wpQuiet_nil ?_
        rintro _ ⟨⟨wq, hgq⟩, rfl⟩
        clear p0 p1 p2 p3
        go_wp2_with fail
        go_ret
        exact ⟨ret_bool (by rw [HE.out]; exact decide_eq_decide.2 (by have := HAB.out; omega)), (((Gr.refl w).alloc _).alloc _).trans hgq⟩
      · have hab' : decide (a ≤ b) = false := decide_eq_false hab
        have HAB : Hid _ := hab
        clear hab
        go_enter Tryd.func18, Tryd.ntmps18
        go_wp2_with fail
        refine wp_region_aft (by kernel_rfl) (by kernel_rfl) ?_
        repeat (first | go_big_quiet_skip | (go_big_quiet_want; go_big_quiet_op; first | go_big_quiet_on | (refine Exists.intro _ ⟨fun _ => rfl, ?_⟩; go_big_quiet_on)))
        go_big_quiet_want; go_big_quiet_op; refine Exists.intro _ ⟨fun u => Aft.call (is_at true a n _ HN.out HA.out.1 HA.out.2 HP.out), ?_⟩; go_big_quiet_on
        repeat (first | go_big_quiet_skip | (go_big_quiet_want; go_big_quiet_op; first | go_big_quiet_on | (refine Exists.intro _ ⟨fun _ => rfl, ?_⟩; go_big_quiet_on)))
        go_big_quiet_want; go_big_quiet_op; refine Exists.intro _ ⟨fun u => Aft.call (is_at true b m _ HM.out HB.out.1 HB.out.2 HQ.out), ?_⟩; go_big_quiet_on
        repeat (first | go_big_quiet_skip | (go_big_quiet_want; go_big_quiet_op; first | go_big_quiet_on | (refine Exists.intro _ ⟨fun _ => rfl, ?_⟩; go_big_quiet_on)))
        refine wpQuiet_nil ?_
        rintro _ ⟨⟨wq, hgq⟩, rfl⟩
        clear p0 p1 p2 p3
        go_wp2_with fail
        go_ret
        exact ⟨ret_bool (by rw [HE.out]; exact (decide_eq_false (fun h => HAB.out h.1)).symm), (((Gr.refl w).alloc _).alloc _).trans hgq⟩

set_option maxHeartbeats 1000000 in
theorem roverlap_any (a n b m : Int) (w : World) (h0 : 0 ≤ n) (hm0 : 0 ≤ m) (ha0 : 0 ≤ a) (ha1 : a < 4294967296) (hb0 : 0 ≤ b) (hb1 : b < 4294967296) :
    Calls Tryd.prog 20 #[.agg #[.int .u32 a, .int .u8 n], .agg #[.int .u32 b, .int .u8 m]] w fun e w' => e = .returned (.bool (pover a n b m)) ∧ Gr w w' := by
  have HA : Hid (0 ≤ a ∧ a < 4294967296) := ⟨ha0, ha1⟩
  have HB : Hid (0 ≤ b ∧ b < 4294967296) := ⟨hb0, hb1⟩
  have HN : Hid (0 ≤ n) := h0
  have HM : Hid (0 ≤ m) := hm0
  clear ha0 ha1 hb0 hb1 h0 hm0
  have q := (Gr.one (w.alloc (.cells #[.int .u32 a, .int .u8 n] 24)) (.cells #[.int .u32 b, .int .u8 m] 24)).px (Px.new w a n 24)
  have r := Px.new (w.alloc (.cells #[.int .u32 a, .int .u8 n] 24)) b m 24
  rw [World.size_alloc] at r
  have p0 := aft_cell q.1
  have p1 := aft_cell q.2
  have p2 := aft_cell r.1
  have p3 := aft_cell r.2
  clear q r
  cases hp : pis a n with
  | false =>
    have HP : Hid _ := hp
    clear hp
    go_enter Tryd.func20, Tryd.ntmps20
    go_wp2_with fail
    refine wp_region_aft (by kernel_rfl) (by kernel_rfl) ?_
    repeat (first | go_big_quiet_skip | (go_big_quiet_want; go_big_quiet_op; first | go_big_quiet_on | (refine Exists.intro _ ⟨fun _ => rfl, ?_⟩; go_big_quiet_on)))
    go_big_quiet_want; go_big_quiet_op; refine Exists.intro _ ⟨fun u => Aft.call (is_at false a n _ HN.out HA.out.1 HA.out.2 HP.out), ?_⟩; go_big_quiet_on
    repeat (first | go_big_quiet_skip | (go_big_quiet_want; go_big_quiet_op; first | go_big_quiet_on | (refine Exists.intro _ ⟨fun _ => rfl, ?_⟩; go_big_quiet_on)))
    refine wpQuiet_nil ?_
    rintro _ ⟨⟨wq, hgq⟩, rfl⟩
    clear p0 p1 p2 p3
    go_wp2_with fail
    go_ret
    exact ⟨ret_bool ((pover_not (.inl HP.out)).symm), (((Gr.refl w).alloc _).alloc _).trans hgq⟩
  | true =>
    have HP : Hid _ := hp
    clear hp
    cases hq : pis b m with
    | false =>
      have HQ : Hid _ := hq
      clear hq
      go_enter Tryd.func20, Tryd.ntmps20
      go_wp2_with fail
      refine wp_region_aft (by kernel_rfl) (by kernel_rfl) ?_
      repeat (first | go_big_quiet_skip | (go_big_quiet_want; go_big_quiet_op; first | go_big_quiet_on | (refine Exists.intro _ ⟨fun _ => rfl, ?_⟩; go_big_quiet_on)))
      go_big_quiet_want; go_big_quiet_op; refine Exists.intro _ ⟨fun u => Aft.call (is_at true a n _ HN.out HA.out.1 HA.out.2 HP.out), ?_⟩; go_big_quiet_on
      repeat (first | go_big_quiet_skip | (go_big_quiet_want; go_big_quiet_op; first | go_big_quiet_on | (refine Exists.intro _ ⟨fun _ => rfl, ?_⟩; go_big_quiet_on)))
      go_big_quiet_want; go_big_quiet_op; refine Exists.intro _ ⟨fun u => Aft.call (is_at false b m _ HM.out HB.out.1 HB.out.2 HQ.out), ?_⟩; go_big_quiet_on
      repeat (first | go_big_quiet_skip | (go_big_quiet_want; go_big_quiet_op; first | go_big_quiet_on | (refine Exists.intro _ ⟨fun _ => rfl, ?_⟩; go_big_quiet_on)))
      refine wpQuiet_nil ?_
      rintro _ ⟨⟨wq, hgq⟩, rfl⟩
      clear p0 p1 p2 p3
      go_wp2_with fail
      go_ret
      exact ⟨ret_bool ((pover_not (.inr HQ.out)).symm), (((Gr.refl w).alloc _).alloc _).trans hgq⟩
    | true =>
      have HQ : Hid _ := hq
      clear hq
      have HE : Hid _ := pover_ends' HP.out HQ.out
      by_cases hab : a ≤ b + psz m - 1
      · have HAB : Hid _ := hab
        go_enter Tryd.func20, Tryd.ntmps20
        go_wp2_with fail
        refine wp_region_aft (by kernel_rfl) (by kernel_rfl) ?_
        repeat (first | go_big_quiet_skip | (go_big_quiet_want; go_big_quiet_op; first | go_big_quiet_on | (refine Exists.intro _ ⟨fun _ => rfl, ?_⟩; go_big_quiet_on)))
        go_big_quiet_want; go_big_quiet_op; refine Exists.intro _ ⟨fun u => Aft.call (is_at true a n _ HN.out HA.out.1 HA.out.2 HP.out), ?_⟩; go_big_quiet_on
        repeat (first | go_big_quiet_skip | (go_big_quiet_want; go_big_quiet_op; first | go_big_quiet_on | (refine Exists.intro _ ⟨fun _ => rfl, ?_⟩; go_big_quiet_on)))
        go_big_quiet_want; go_big_quiet_op; refine Exists.intro _ ⟨fun u => Aft.call (is_at true b m _ HM.out HB.out.1 HB.out.2 HQ.out), ?_⟩; go_big_quiet_on
        repeat (first | go_big_quiet_skip | (go_big_quiet_want; go_big_quiet_op; first | go_big_quiet_on | (refine Exists.intro _ ⟨fun _ => rfl, ?_⟩; go_big_quiet_on)))
        go_big_quiet_want; go_big_quiet_op; refine Exists.intro _ ⟨fun u => Aft.call (last_any b m _ HM.out HB.out.1 HB.out.2 HQ.out), ?_⟩; go_big_quiet_on
        repeat (first | go_big_quiet_skip | (go_big_quiet_want; go_big_quiet_op; first | go_big_quiet_on | (refine Exists.intro _ ⟨fun _ => rfl, ?_⟩; go_big_quiet_on)))
        go_big_quiet_want; go_big_quiet_op; refine Exists.intro _ ⟨fun u => Aft.call (last_any a n _ HN.out HA.out.1 HA.out.2 HP.out), ?_⟩; go_big_quiet_on
        repeat (first | go_big_quiet_skip | (go_big_quiet_want; go_big_quiet_op; first | go_big_quiet_on | (refine Exists.intro _ ⟨fun _ => rfl, ?_⟩; go_big_quiet_on)))
        refine wpQuiet_nil ?_
        rintro _ ⟨⟨wq, hgq⟩, rfl⟩
        clear p0 p1 p2 p3
        go_wp2_with fail
        go_ret
        exact ⟨ret_bool (by rw [HE.out]; exact decide_eq_decide.2 (by have := HAB.out; omega)), (((Gr.refl w).alloc _).alloc _).trans hgq⟩
      · have hab' : decide (a ≤ b + psz m - 1) = false := decide_eq_false hab
        have HAB : Hid _ := hab
        clear hab
        go_enter Tryd.func20, Tryd.ntmps20
        go_wp2_with fail
        refine wp_region_aft (by kernel_rfl) (by kernel_rfl) ?_
        repeat (first | go_big_quiet_skip | (go_big_quiet_want; go_big_quiet_op; first | go_big_quiet_on | (refine Exists.intro _ ⟨fun _ => rfl, ?_⟩; go_big_quiet_on)))
        go_big_quiet_want; go_big_quiet_op; refine Exists.intro _ ⟨fun u => Aft.call (is_at true a n _ HN.out HA.out.1 HA.out.2 HP.out), ?_⟩; go_big_quiet_on
        repeat (first | go_big_quiet_skip | (go_big_quiet_want; go_big_quiet_op; first | go_big_quiet_on | (refine Exists.intro _ ⟨fun _ => rfl, ?_⟩; go_big_quiet_on)))
        go_big_quiet_want; go_big_quiet_op; refine Exists.intro _ ⟨fun u => Aft.call (is_at true b m _ HM.out HB.out.1 HB.out.2 HQ.out), ?_⟩; go_big_quiet_on
        repeat (first | go_big_quiet_skip | (go_big_quiet_want; go_big_quiet_op; first | go_big_quiet_on | (refine Exists.intro _ ⟨fun _ => rfl, ?_⟩; go_big_quiet_on)))
        go_big_quiet_want; go_big_quiet_op; refine Exists.intro _ ⟨fun u => Aft.call (last_any b m _ HM.out HB.out.1 HB.out.2 HQ.out), ?_⟩; go_big_quiet_on
        repeat (first | go_big_quiet_skip | (go_big_quiet_want; go_big_quiet_op; first | go_big_quiet_on | (refine Exists.intro _ ⟨fun _ => rfl, ?_⟩; go_big_quiet_on)))
        refine wpQuiet_nil ?_
        rintro _ ⟨⟨wq, hgq⟩, rfl⟩
        clear p0 p1 p2 p3
        go_wp2_with fail
        go_ret
        exact ⟨ret_bool (by rw [HE.out]; exact (decide_eq_false (fun h => HAB.out (by omega))).symm), (((Gr.refl w).alloc _).alloc _).trans hgq⟩
end Go.Proofs.YtmofndckjjbfgaaDoor
