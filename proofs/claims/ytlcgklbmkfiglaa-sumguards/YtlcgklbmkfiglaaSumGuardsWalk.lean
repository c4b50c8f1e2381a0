/- The walk of SumGuards. -/
import Derived.Test.YtlcgklbmkfiglaaSumLives
import Derived.Test.YtlcgklbmkfiglaaCopyB
import Derived.Test.YtlcgklbmkfiglaaTAft
import Derived.Deep.DeepCutAuto
namespace Go.Proofs.Ytlcgklbmkfiglaa
open Go.RowKit
set_option linter.unusedVariables false
set_option maxRecDepth 100000

/-- Outside its places: the law asks for lives alone. -/
theorem guards_out (v : Value) (rs : List Int) (a i tb : Int) (w : World) (hv : ArgAt w v rs) (h : 16384 < rs.length ∨ a < 0 ∨ (rs.length : Int) - 1 ≤ a) :
    Calls Try.prog 4 #[v, .int .i64 a, .int .i64 i, .int .u8 tb] w fun e w' => e = .returned (.bool true) ∧ Touch (fun _ => False) w w' := by
  obtain ⟨va, vc, rfl, hm⟩ := hv.form
  unfold maxLen at hm
  clear hv
  by_cases h1 : (16384 : Int) < (rs.length : Int)
  · clear h
    go_enter Try.func4, Try.ntmps4
    go_wp2_with fail
    refine (lives_any _).mono ?_
    rintro e w1 ⟨rfl, t1⟩
    go_wp2
    go_ret
    exact ⟨rfl, t1⟩
  · have h1' : decide ((16384 : Int) < (rs.length : Int)) = false := by simpa using h1
    by_cases h2 : a < 0
    · clear h
      go_enter Try.func4, Try.ntmps4
      go_wp2_with fail
      refine (lives_any _).mono ?_
      rintro e w1 ⟨rfl, t1⟩
      go_wp2
      go_ret
      exact ⟨rfl, t1⟩
    · have h2' : decide (a < 0) = false := by simpa using h2
      have h3 : (rs.length : Int) - 1 ≤ a := by omega
      clear h
      go_enter Try.func4, Try.ntmps4
      go_wp2_with fail
      refine (lives_any _).mono ?_
      rintro e w1 ⟨rfl, t1⟩
      go_wp2
      go_ret
      exact ⟨rfl, t1⟩
theorem getD_byteG {l : List Int} (h : ∀ x ∈ l, 0 ≤ x ∧ x < 256) (j : Nat) (hj : j < l.length) : 0 ≤ l.getD j 0 ∧ l.getD j 0 < 256 := h _ (by simp [List.getD, hj])
theorem set_byte {l : List Int} (h : ∀ x ∈ l, 0 ≤ x ∧ x < 256) (a : Nat) {x : Int} (hx : 0 ≤ x ∧ x < 256) : ∀ z ∈ l.set a x, 0 ≤ z ∧ z < 256 := by
  intro z hz
  rcases List.mem_or_eq_of_mem_set hz with hz | rfl
  · exact h z hz
  · exact hx
theorem Int.beq_eq_decide_eq (a b : Int) : (a == b) = decide (a = b) := rfl
theorem fl_is (rs : List Int) (a : Nat) : ∃ X Y F : Int, flx rs a = X ∧ fly rs a = Y ∧ 256 * flx rs a + fly rs a = F ∧ 1 ≤ X ∧ X ≤ 255 ∧ 1 ≤ Y ∧ Y ≤ 255 ∧ 0 ≤ F ∧ F < 65536 ∧ F / 256 = X ∧ F % 256 = Y ∧ bits .and .u16 F 255 = Y := by
  have hx := flx_bound rs a
  have hy := fly_bound rs a
  refine ⟨_, _, _, rfl, rfl, rfl, hx.1, hx.2, hy.1, hy.2, by omega, by omega, by omega, by omega, ?_⟩
  rw [and8s (by omega) (by omega)]
  omega

set_option maxHeartbeats 4000000 in
theorem guards_in (v : Value) (rs : List Int) (a : Nat) (i tb : Int) (w : World) (hv : ArgAt w v rs) (hby : ∀ x ∈ rs, 0 ≤ x ∧ x < 256) (hto : 0 ≤ tb ∧ tb < 256) (hi : -9223372036854775808 ≤ i ∧ i ≤ 9223372036854775807) (hl : rs.length ≤ 16384) (h : a + 2 ≤ rs.length) :
    Calls Try.prog 4 #[v, .int .i64 (a : Int), .int .i64 i, .int .u8 tb] w fun e w' => e = .returned (.bool true) ∧ Touch (fun _ => False) w w' := by
  obtain ⟨X, Y, F, hX, hY, hF, hX0, hX1, hY0, hY1, hF0, hF1, hF8, hFm, hFa⟩ := fl_is rs a
  have HCb := fun w' (h' : ArgAt w' v rs) => copy_any v rs w' h' (by omega) (by omega)
  have HFb := fun vi w' (h' : ArgAt w' vi rs) => fletcher_any vi rs a w' h' hby h
  have HFl := fun vi w' (h' : ArgAt w' vi (laid rs a X Y)) => fletcher_any vi (laid rs a X Y) a w' h' (laid_byte hby a (by omega) (by omega)) (by rw [length_laid]; exact h)
  have HWl := fun vi w' (h' : ArgAt w' vi (laid rs a X Y)) => whole_any vi (laid rs a X Y) w' h' (laid_byte hby a (by omega) (by omega))
  have HCl := fun g cap w' (h' : ArgAt w' (.slice (some ⟨g, 0, none⟩) (laid rs a X Y).length cap) (laid rs a X Y)) => copy_any _ (laid rs a X Y) w' h' (by rw [length_laid]; omega) (by rw [length_laid]; omega)
  have hwl : whole (laid rs a X Y) = true := by rw [← hX, ← hY]; exact whole_laid rs a h
  simp only [flx_laid, fly_laid, hF] at HFl HFb
  simp only [hwl] at HWl
  simp only [length_laid] at HCl
  have HLL : Hid ((rs.set a X).set (a + 1) Y = laid rs a X Y) := rfl
  have hLl := length_laid rs a X Y
  have hLb := laid_byte hby a (x := X) (y := Y) (by omega) (by omega)
  generalize laid rs a X Y = L at HFl HWl HCl hwl HLL hLl hLb
  obtain ⟨va, vc, rfl, hm⟩ := hv.form
  have HV : Hid (∀ w', Touch (fun _ => False) w w' → ArgAt w' (.slice va rs.length vc) rs) := fun w' t => hv.keep t (fun _ _ h => h)
  have HBy : Hid (∀ x ∈ rs, 0 ≤ x ∧ x < 256) := hby
  have HWh : Hid (whole L = true) := hwl
  have HLb : Hid (∀ x ∈ L, 0 ≤ x ∧ x < 256) := hLb
  have HLl : Hid (L.length = rs.length) := hLl
  have h1 : ¬ (16384 : Int) < (rs.length : Int) := by omega
  have h2 : ¬ (a : Int) < 0 := by omega
  have h3 : ¬ (rs.length : Int) - 1 ≤ (a : Int) := by omega
  have h4 : (a : Int) + 2 ≤ (rs.length : Int) := by omega
  have hx' : (X == 0) = false := by simp; omega
  have hy' : (Y == 0) = false := by simp; omega
  have HF8 : Hid (F / 256 = X) := hF8
  have HFm : Hid (F % 256 = Y) := hFm
  have HFa : Hid (bits .and .u16 F 255 = Y) := hFa
  obtain ⟨hto0, hto1⟩ := hto
  obtain ⟨hi0, hi1⟩ := hi
  -- the even place and the plain sum laid there
  obtain ⟨E, hEd⟩ : ∃ E : Nat, E = a - a % 2 := ⟨_, rfl⟩
  have hEe : E % 2 = 0 := by omega
  have HE : Hid ((a : Int) - (a : Int) % 2 = (E : Int)) := by show _ = _; omega
  have HE2 : Hid (E + 2 ≤ rs.length) := by show _ ≤ _; omega
  have HE3 : Hid ((E : Int) + 2 ≤ (rs.length : Int)) := by show _ ≤ _; omega
  have hW0 := W_nonneg true (laid rs E 0 0) (laid_byte hby E (by omega) (by omega))
  obtain ⟨S, hS⟩ : ∃ S, 65535 - fold (W true (laid rs E 0 0)) = S := ⟨_, rfl⟩
  have hSb := fold_bound (W true (laid rs E 0 0))
  have hS0 : 0 ≤ S := by omega
  have hS1 : S < 65536 := by omega
  have HCp := fun g cap w' (h' : ArgAt w' (.slice (some ⟨g, 0, none⟩) rs.length cap) (laid rs E 0 0)) => copy_any (.slice (some ⟨g, 0, none⟩) rs.length cap) (laid rs E 0 0) w' h' (by rw [length_laid]; omega) (by rw [length_laid]; omega)
  simp only [length_laid] at HCp
  have HPp := fun vi w' (h' : ArgAt w' vi (laid rs E 0 0)) => plain_any vi (laid rs E 0 0) w' h' (laid_byte hby E (by omega) (by omega))
  have HRp := fun vi w' (h' : ArgAt w' vi (laid rs E (S / 256) (S % 256))) => right_any vi (laid rs E (S / 256) (S % 256)) w' h' (laid_byte hby E (by omega) (by omega))
  have hWs : fold (W true (laid rs E (S / 256) (S % 256))) = 65535 := by
    rw [W_laid rs E _ _ (by omega) hEe, show 256 * (S / 256) + S % 256 = 65535 - fold (W true (laid rs E 0 0)) by omega]
    exact fold_whole hW0
  simp only [hS] at HPp
  simp only [hWs] at HRp
  simp only [BEq.rfl] at HRp
  clear hv hby hX hY hF hwl hm hLb hLl hW0 hS hSb hWs hEe hEd
  go_enter Try.func4, Try.ntmps4
  go_wp2_with fail
  refine (HCb _ (HV.out _ (Touch.refl _ _))).mono ?_
  rintro e w1 ⟨g1, cap1, rfl, own1, t1⟩
  have HO1 : Hid (OwnB w1 w.heap.size g1 cap1 rs) := own1
  have HT1 : Hid (Touch (fun _ => False) w w1) := t1
  clear own1 t1
  go_wp2_with fail
  refine (HFb _ _ HO1.out.arg).mono ?_
  rintro e w2 ⟨rfl, t2⟩
  have HT2 : Hid (Touch (fun _ => False) w w2) := HT1.out.trans t2
  clear t2 HO1 HT1 HFb
  go_wp2_with fail
  refine (HCb _ (HV.out _ HT2.out)).mono ?_
  rintro e w3 ⟨g3, cap3, rfl, own3, t3⟩
  have HT3 : Hid (Touch (fun _ => False) w w3) := HT2.out.trans t3
  have HO3 : Hid (OwnB w3 w2.heap.size g3 cap3 rs) := own3
  have c0 := own3.cell a (by omega)
  have f0 := own3.frozen a
  have c1 := own3.cell (a + 1) (by omega)
  have f1 := own3.frozen (a + 1)
  clear own3 t3
  go_wp2_with fail
  have o4 : OwnB ((w3.setCell ⟨g3, a, none⟩ (.int .u8 X)).setCell ⟨g3, a + 1, none⟩ (.int .u8 Y)) w2.heap.size g3 cap3 L := by rw [← HLL.out]; exact (HO3.out.store a X).store (a + 1) Y
  have t4 : Touch (fun _ => False) w ((w3.setCell ⟨g3, a, none⟩ (.int .u8 X)).setCell ⟨g3, a + 1, none⟩ (.int .u8 Y)) := (HT3.out.setCell (p := ⟨g3, a, none⟩) (Or.inr (Nat.le_trans HT2.out.size HO3.out.ge)) _).setCell (p := ⟨g3, a + 1, none⟩) (Or.inr (Nat.le_trans HT2.out.size HO3.out.ge)) _
  have hg3 : w.heap.size ≤ g3 := Nat.le_trans HT2.out.size HO3.out.ge
  revert o4 t4
  generalize (w3.setCell ⟨g3, a, none⟩ (.int .u8 X)).setCell ⟨g3, a + 1, none⟩ (.int .u8 Y) = w4
  intro o4 t4
  have HO4 : Hid (∀ w', Touch (fun _ => False) w4 w' → OwnB w' w2.heap.size g3 cap3 L) := fun w' t => o4.keep t
  have HA4 : Hid (∀ w', Touch (fun _ => False) w4 w' → ArgAt w' (.slice (some ⟨g3, 0, none⟩) rs.length cap3) L) := fun w' t => (o4.keep t).argL HLl.out
  have HT4 : Hid (Touch (fun _ => False) w w4) := t4
  clear o4 t4 c0 c1 f0 f1 HO3 HT3 HT2
  refine (HCl _ _ _ (HA4.out _ (Touch.refl _ _))).mono ?_
  rintro e w5 ⟨g5, cap5, rfl, own5, t5⟩
  have HT5 : Hid (Touch (fun _ => False) w4 w5) := t5
  have HA5 : Hid (ArgAt w5 (.slice (some ⟨g5, 0, none⟩) rs.length cap5) L) := own5.argL HLl.out
  clear own5 t5
  go_wp2_with fail
  refine (HFl _ _ HA5.out).mono ?_
  rintro e w6 ⟨rfl, t6⟩
  have HT6 : Hid (Touch (fun _ => False) w4 w6) := HT5.out.trans t6
  clear t6 HFl HT5 HA5
  go_wp2_with fail
  refine (HCl _ _ _ (HA4.out _ HT6.out)).mono ?_
  rintro e w7 ⟨g7, cap7, rfl, own7, t7⟩
  have HT7 : Hid (Touch (fun _ => False) w4 w7) := HT6.out.trans t7
  have HA7 : Hid (ArgAt w7 (.slice (some ⟨g7, 0, none⟩) rs.length cap7) L) := own7.argL HLl.out
  clear own7 t7 HT6
  go_wp2_with fail
  refine (HWl _ _ HA7.out).mono ?_
  rintro e w8 ⟨rfl, t8⟩
  have HT8 : Hid (Touch (fun _ => False) w4 w8) := HT7.out.trans t8
  clear t8 HWl HT7 HA7
  go_upto_region 12 with fail
  by_cases hin : 0 ≤ i ∧ i < (rs.length : Int)
  · obtain ⟨hin0, hin1⟩ := hin
    obtain ⟨k, rfl⟩ : ∃ k : Nat, i = k := ⟨i.toNat, by omega⟩
    have hk : k < rs.length := by omega
    obtain ⟨z, hz⟩ : ∃ z, L.getD k 0 = z := ⟨_, rfl⟩
    obtain ⟨hz0, hz1⟩ := getD_byteG HLb.out k (by rw [HLl.out]; exact hk)
    rw [hz] at hz0 hz1
    have HZ : Hid (L.getD k 0 = z) := hz
    obtain ⟨B1, hB1⟩ : ∃ B1, (z % 255 == tb % 255) = B1 := ⟨_, rfl⟩
    have HB1 : Hid ((z % 255 == tb % 255) = B1) := hB1
    have HWs : ∀ vi w', ArgAt w' vi (L.set k tb) → Calls Try.prog 13 #[vi] w' fun e w'' => e = .returned (.bool B1) ∧ Touch (fun _ => False) w' w'' := fun vi w' h' => by
      have := whole_any vi (L.set k tb) w' h' (set_byte HLb.out k ⟨hto0, hto1⟩)
      rw [whole_set L k tb (by rw [HLl.out]; exact hk) HWh.out, hz] at this
      rw [← hB1, Int.beq_eq_decide_eq]
      exact this
    have p0 := (HO4.out _ HT8.out).cell k (by rw [HLl.out]; exact hk)
    rw [hz] at p0
    clear hz hB1
    by_cases hlast : k + 1 < rs.length
    · have hlast' : (k : Int) < (rs.length : Int) - 1 := by omega
      obtain ⟨y2, hy2⟩ : ∃ y2, L.getD (k + 1) 0 = y2 := ⟨_, rfl⟩
      obtain ⟨hy20, hy21⟩ := getD_byteG HLb.out (k + 1) (by rw [HLl.out]; exact hlast)
      rw [hy2] at hy20 hy21
      have HY2 : Hid (L.getD (k + 1) 0 = y2) := hy2
      obtain ⟨B2, hB2⟩ : ∃ B2, (z % 255 == y2 % 255) = B2 := ⟨_, rfl⟩
      have HB2 : Hid ((z % 255 == y2 % 255) = B2) := hB2
      have HWt : ∀ vi w', ArgAt w' vi ((L.set k y2).set (k + 1) z) → Calls Try.prog 13 #[vi] w' fun e w'' => e = .returned (.bool B2) ∧ Touch (fun _ => False) w' w'' := fun vi w' h' => by
        have := whole_any vi ((L.set k y2).set (k + 1) z) w' h' (set_byte (set_byte HLb.out k ⟨hy20, hy21⟩) (k + 1) ⟨hz0, hz1⟩)
        have hw := whole_swap L k (by rw [HLl.out]; exact hlast) HWh.out
        rw [hy2, HZ.out] at hw
        rw [hw] at this
        rw [← hB2, Int.beq_eq_decide_eq]
        exact this
      clear hy2 hB2
      by_cases hzt : z = tb
      · have hzt' : (z == tb) = true := by simp [hzt]
        clear hzt
        as_aux_lemma =>
          go_wp2_with fail
          refine (HCl _ _ _ (HA4.out _ HT8.out)).mono ?_
          rintro e w12 ⟨g12, cap12, rfl, own12, t12⟩
          have HT12 : Hid (Touch (fun _ => False) w4 w12) := HT8.out.trans t12
          have HO12 : Hid (OwnB w12 w8.heap.size g12 cap12 L) := own12
          have d0 := own12.cell k (by have := HLl.out; omega)
          have d1 := own12.frozen k
          have d2 := own12.cell (k + 1) (by have := HLl.out; omega)
          have d3 := own12.frozen (k + 1)
          have q0 := (HO4.out _ HT12.out).cell k (by have := HLl.out; omega)
          have q1 := (HO4.out _ HT12.out).cell (k + 1) (by have := HLl.out; omega)
          rw [HZ.out] at q0
          rw [HY2.out] at q1
          have hge : w4.heap.size ≤ g12 := Nat.le_trans HT8.out.size own12.ge
          have hlt : g3 < w4.heap.size := (HO4.out _ (Touch.refl _ _)).lt
          have hn1 : ¬ g12 = g3 := by omega
          have hn2 : ¬ g3 = g12 := by omega
          have HGE : Hid (w4.heap.size ≤ g12) := hge
          clear own12 t12 hge hlt
          go_wp2_with fail
          have o13 : OwnB ((w12.setCell ⟨g12, k, none⟩ (.int .u8 y2)).setCell ⟨g12, k + 1, none⟩ (.int .u8 z)) w8.heap.size g12 cap12 ((L.set k y2).set (k + 1) z) := (HO12.out.store k y2).store (k + 1) z
          have t13 : Touch (fun _ => False) w4 ((w12.setCell ⟨g12, k, none⟩ (.int .u8 y2)).setCell ⟨g12, k + 1, none⟩ (.int .u8 z)) := (HT12.out.setCell (p := ⟨g12, k, none⟩) (Or.inr HGE.out) _).setCell (p := ⟨g12, k + 1, none⟩) (Or.inr HGE.out) _
          revert o13 t13
          generalize (w12.setCell ⟨g12, k, none⟩ (.int .u8 y2)).setCell ⟨g12, k + 1, none⟩ (.int .u8 z) = w13
          intro o13 t13
          have HA13 : Hid (∀ u : Aft w13, ArgAt u.w (.slice (some ⟨g12, 0, none⟩) rs.length cap12) ((L.set k y2).set (k + 1) z)) := fun u => (o13.keep u.gr).argL (by rw [List.length_set, List.length_set]; exact HLl.out)
          have HT13 : Hid (Touch (fun _ => False) w4 w13) := t13
          have r0 := (HO4.out _ t13).cell k (by have := HLl.out; omega)
          have r1 := (HO4.out _ t13).cell (k + 1) (by have := HLl.out; omega)
          rw [HZ.out] at r0
          rw [HY2.out] at r1
          have p0 := aft_cell r0
          have p1 := aft_cell r1
          have hb2 := HB2.out
          clear o13 t13 d0 d1 d2 d3 q0 q1 r0 r1 hn1 hn2 HO12
          refine wp_region_aft (by kernel_rfl) (by kernel_rfl) ?_
          repeat (first | go_big_quiet_skip | (go_big_quiet_want; go_big_quiet_op; first | go_big_quiet_on | (refine Exists.intro _ ⟨fun _ => rfl, ?_⟩; go_big_quiet_on)))
          go_big_quiet_want; go_big_quiet_op; refine Exists.intro _ ⟨fun u => Aft.call (HWt _ _ (HA13.out u)), ?_⟩; go_big_quiet_on
          repeat (first | go_big_quiet_skip | (go_big_quiet_want; go_big_quiet_op; first | go_big_quiet_on | (refine Exists.intro _ ⟨fun _ => rfl, ?_⟩; go_big_quiet_on)))
          refine wpQuiet_nil ?_
          rintro w14 ⟨⟨_, hg14⟩, rfl⟩

          have HT14 : Hid (Touch (fun _ => False) w4 w14) := HT13.out.trans hg14
          clear p0 p1 hg14 HT13 HT12 HA13 hb2
          have HTa : Hid (Touch (fun _ => False) w w14) := HT4.out.trans HT14.out
          have hE := HE.out
          go_wp2_with fail
          clear hE
          refine (HCb _ (HV.out _ HTa.out)).mono ?_
          rintro e w20 ⟨g20, cap20, rfl, own20, t20⟩
          have HT20 : Hid (Touch (fun _ => False) w w20) := HTa.out.trans t20
          have HG20 : Hid (w.heap.size ≤ g20) := Nat.le_trans HTa.out.size own20.ge
          have HO20 : Hid (OwnB w20 w14.heap.size g20 cap20 rs) := own20
          have d0 := own20.cell E (by have := HE2.out; omega)
          have d1 := own20.frozen E
          have d2 := own20.cell (E + 1) (by have := HE2.out; omega)
          have d3 := own20.frozen (E + 1)
          have hE3 := HE3.out
          clear own20 t20
          go_wp2_with fail
          have o21 : OwnB ((w20.setCell ⟨g20, E, none⟩ (.int .u8 0)).setCell ⟨g20, E + 1, none⟩ (.int .u8 0)) w14.heap.size g20 cap20 (laid rs E 0 0) := (HO20.out.store E 0).store (E + 1) 0
          have t21 : Touch (fun _ => False) w ((w20.setCell ⟨g20, E, none⟩ (.int .u8 0)).setCell ⟨g20, E + 1, none⟩ (.int .u8 0)) := (HT20.out.setCell (p := ⟨g20, E, none⟩) (Or.inr HG20.out) _).setCell (p := ⟨g20, E + 1, none⟩) (Or.inr HG20.out) _
          revert o21 t21
          generalize (w20.setCell ⟨g20, E, none⟩ (.int .u8 0)).setCell ⟨g20, E + 1, none⟩ (.int .u8 0) = w21
          intro o21 t21
          have HO21 : Hid (OwnB w21 w14.heap.size g20 cap20 (laid rs E 0 0)) := o21
          have HT21 : Hid (Touch (fun _ => False) w w21) := t21
          clear o21 t21 d0 d1 d2 d3 HO20 HT20
          refine (HCp _ _ _ (HO21.out.argL (length_laid _ _ _ _))).mono ?_
          rintro e w22 ⟨g22, cap22, rfl, own22, t22⟩
          have HT22 : Hid (Touch (fun _ => False) w21 w22) := t22
          have HA22 : Hid (ArgAt w22 (.slice (some ⟨g22, 0, none⟩) rs.length cap22) (laid rs E 0 0)) := own22.argL (length_laid _ _ _ _)
          clear own22 t22
          go_wp2_with fail
          refine (HPp _ _ HA22.out).mono ?_
          rintro e w23 ⟨rfl, t23⟩
          have HT23 : Hid (Touch (fun _ => False) w21 w23) := HT22.out.trans t23
          have o23 := HO21.out.keep HT23.out
          have HO23 : Hid (OwnB w23 w14.heap.size g20 cap20 (laid rs E 0 0)) := o23
          have d0 := o23.cell E (by have := HE2.out; rw [length_laid]; omega)
          have d1 := o23.frozen E
          have d2 := o23.cell (E + 1) (by have := HE2.out; rw [length_laid]; omega)
          have d3 := o23.frozen (E + 1)
          clear t23 o23 HT22 HA22 HO21
          go_wp2_with fail
          have o24 : OwnB ((w23.setCell ⟨g20, E, none⟩ (.int .u8 (S / 256))).setCell ⟨g20, E + 1, none⟩ (.int .u8 (S % 256))) w14.heap.size g20 cap20 (laid rs E (S / 256) (S % 256)) := by
            have := (HO23.out.store E (S / 256)).store (E + 1) (S % 256)
            rw [show ((laid rs E 0 0).set E (S / 256)).set (E + 1) (S % 256) = laid rs E (S / 256) (S % 256) from laid_laid rs E 0 0 _ _] at this
            exact this
          have t24 : Touch (fun _ => False) w ((w23.setCell ⟨g20, E, none⟩ (.int .u8 (S / 256))).setCell ⟨g20, E + 1, none⟩ (.int .u8 (S % 256))) := ((HT21.out.trans HT23.out).setCell (p := ⟨g20, E, none⟩) (Or.inr HG20.out) _).setCell (p := ⟨g20, E + 1, none⟩) (Or.inr HG20.out) _
          revert o24 t24
          generalize (w23.setCell ⟨g20, E, none⟩ (.int .u8 (S / 256))).setCell ⟨g20, E + 1, none⟩ (.int .u8 (S % 256)) = w24
          intro o24 t24
          have HT24 : Hid (Touch (fun _ => False) w w24) := t24
          have HA24 : Hid (ArgAt w24 (.slice (some ⟨g20, 0, none⟩) rs.length cap20) (laid rs E (S / 256) (S % 256))) := o24.argL (length_laid _ _ _ _)
          clear o24 t24 d0 d1 d2 d3 HO23
          refine (HRp _ _ HA24.out).mono ?_
          rintro e w25 ⟨rfl, t25⟩
          have HT25 : Hid (Touch (fun _ => False) w w25) := HT24.out.trans t25
          clear t25
          go_wp2_with fail
          refine (lives_any _).mono ?_
          rintro e w26 ⟨rfl, t26⟩
          go_wp2
          go_ret
          exact ⟨rfl, HT25.out.trans t26⟩
      · have hzt' : (z == tb) = false := by simpa using hzt
        clear hzt
        as_aux_lemma =>
          go_wp2_with fail
          refine (HCl _ _ _ (HA4.out _ HT8.out)).mono ?_
          rintro e w9 ⟨g9, cap9, rfl, own9, t9⟩
          have HT9 : Hid (Touch (fun _ => False) w4 w9) := HT8.out.trans t9
          have HO9 : Hid (OwnB w9 w8.heap.size g9 cap9 L) := own9
          have d0 := own9.cell k (by have := HLl.out; omega)
          have d1 := own9.frozen k
          clear own9 t9 p0
          go_wp2_with fail
          have o10 : OwnB (w9.setCell ⟨g9, k, none⟩ (.int .u8 tb)) w8.heap.size g9 cap9 (L.set k tb) := HO9.out.store k tb
          have t10 : Touch (fun _ => False) w4 (w9.setCell ⟨g9, k, none⟩ (.int .u8 tb)) := HT9.out.setCell (p := ⟨g9, k, none⟩) (Or.inr (Nat.le_trans HT8.out.size HO9.out.ge)) _
          revert o10 t10
          generalize w9.setCell ⟨g9, k, none⟩ (.int .u8 tb) = w10
          intro o10 t10
          have HA10 : Hid (∀ u : Aft w10, ArgAt u.w (.slice (some ⟨g9, 0, none⟩) rs.length cap9) (L.set k tb)) := fun u => (o10.keep u.gr).argL (by rw [List.length_set]; exact HLl.out)
          have HT10 : Hid (Touch (fun _ => False) w4 w10) := t10
          have q0 := (HO4.out _ t10).cell k (by have := HLl.out; omega)
          rw [HZ.out] at q0
          have p0 := aft_cell q0
          have hb1 := HB1.out
          clear o10 t10 d0 d1 HT9 HO9 q0
          refine wp_region_aft (by kernel_rfl) (by kernel_rfl) ?_
          repeat (first | go_big_quiet_skip | (go_big_quiet_want; go_big_quiet_op; first | go_big_quiet_on | (refine Exists.intro _ ⟨fun _ => rfl, ?_⟩; go_big_quiet_on)))
          go_big_quiet_want; go_big_quiet_op; refine Exists.intro _ ⟨fun u => Aft.call (HWs _ _ (HA10.out u)), ?_⟩; go_big_quiet_on
          repeat (first | go_big_quiet_skip | (go_big_quiet_want; go_big_quiet_op; first | go_big_quiet_on | (refine Exists.intro _ ⟨fun _ => rfl, ?_⟩; go_big_quiet_on)))
          refine wpQuiet_nil ?_
          rintro w11 ⟨⟨_, hg11⟩, rfl⟩

          have HT11 : Hid (Touch (fun _ => False) w4 w11) := HT10.out.trans hg11
          clear p0 hg11 HT10 HA10 hb1
          go_wp2_with fail
          refine (HCl _ _ _ (HA4.out _ HT11.out)).mono ?_
          rintro e w12 ⟨g12, cap12, rfl, own12, t12⟩
          have HT12 : Hid (Touch (fun _ => False) w4 w12) := HT11.out.trans t12
          have HO12 : Hid (OwnB w12 w11.heap.size g12 cap12 L) := own12
          have d0 := own12.cell k (by have := HLl.out; omega)
          have d1 := own12.frozen k
          have d2 := own12.cell (k + 1) (by have := HLl.out; omega)
          have d3 := own12.frozen (k + 1)
          have q0 := (HO4.out _ HT12.out).cell k (by have := HLl.out; omega)
          have q1 := (HO4.out _ HT12.out).cell (k + 1) (by have := HLl.out; omega)
          rw [HZ.out] at q0
          rw [HY2.out] at q1
          have hge : w4.heap.size ≤ g12 := Nat.le_trans HT11.out.size own12.ge
          have hlt : g3 < w4.heap.size := (HO4.out _ (Touch.refl _ _)).lt
          have hn1 : ¬ g12 = g3 := by omega
          have hn2 : ¬ g3 = g12 := by omega
          have HGE : Hid (w4.heap.size ≤ g12) := hge
          clear own12 t12 hge hlt
          go_wp2_with fail
          have o13 : OwnB ((w12.setCell ⟨g12, k, none⟩ (.int .u8 y2)).setCell ⟨g12, k + 1, none⟩ (.int .u8 z)) w11.heap.size g12 cap12 ((L.set k y2).set (k + 1) z) := (HO12.out.store k y2).store (k + 1) z
          have t13 : Touch (fun _ => False) w4 ((w12.setCell ⟨g12, k, none⟩ (.int .u8 y2)).setCell ⟨g12, k + 1, none⟩ (.int .u8 z)) := (HT12.out.setCell (p := ⟨g12, k, none⟩) (Or.inr HGE.out) _).setCell (p := ⟨g12, k + 1, none⟩) (Or.inr HGE.out) _
          revert o13 t13
          generalize (w12.setCell ⟨g12, k, none⟩ (.int .u8 y2)).setCell ⟨g12, k + 1, none⟩ (.int .u8 z) = w13
          intro o13 t13
          have HA13 : Hid (∀ u : Aft w13, ArgAt u.w (.slice (some ⟨g12, 0, none⟩) rs.length cap12) ((L.set k y2).set (k + 1) z)) := fun u => (o13.keep u.gr).argL (by rw [List.length_set, List.length_set]; exact HLl.out)
          have HT13 : Hid (Touch (fun _ => False) w4 w13) := t13
          have r0 := (HO4.out _ t13).cell k (by have := HLl.out; omega)
          have r1 := (HO4.out _ t13).cell (k + 1) (by have := HLl.out; omega)
          rw [HZ.out] at r0
          rw [HY2.out] at r1
          have p0 := aft_cell r0
          have p1 := aft_cell r1
          have hb2 := HB2.out
          clear o13 t13 d0 d1 d2 d3 q0 q1 r0 r1 hn1 hn2 HO12
          refine wp_region_aft (by kernel_rfl) (by kernel_rfl) ?_
          repeat (first | go_big_quiet_skip | (go_big_quiet_want; go_big_quiet_op; first | go_big_quiet_on | (refine Exists.intro _ ⟨fun _ => rfl, ?_⟩; go_big_quiet_on)))
          go_big_quiet_want; go_big_quiet_op; refine Exists.intro _ ⟨fun u => Aft.call (HWt _ _ (HA13.out u)), ?_⟩; go_big_quiet_on
          repeat (first | go_big_quiet_skip | (go_big_quiet_want; go_big_quiet_op; first | go_big_quiet_on | (refine Exists.intro _ ⟨fun _ => rfl, ?_⟩; go_big_quiet_on)))
          refine wpQuiet_nil ?_
          rintro w14 ⟨⟨_, hg14⟩, rfl⟩

          have HT14 : Hid (Touch (fun _ => False) w4 w14) := HT13.out.trans hg14
          clear p0 p1 hg14 HT13 HT12 HA13 hb2
          have HTa : Hid (Touch (fun _ => False) w w14) := HT4.out.trans HT14.out
          have hE := HE.out
          go_wp2_with fail
          clear hE
          refine (HCb _ (HV.out _ HTa.out)).mono ?_
          rintro e w20 ⟨g20, cap20, rfl, own20, t20⟩
          have HT20 : Hid (Touch (fun _ => False) w w20) := HTa.out.trans t20
          have HG20 : Hid (w.heap.size ≤ g20) := Nat.le_trans HTa.out.size own20.ge
          have HO20 : Hid (OwnB w20 w14.heap.size g20 cap20 rs) := own20
          have d0 := own20.cell E (by have := HE2.out; omega)
          have d1 := own20.frozen E
          have d2 := own20.cell (E + 1) (by have := HE2.out; omega)
          have d3 := own20.frozen (E + 1)
          have hE3 := HE3.out
          clear own20 t20
          go_wp2_with fail
          have o21 : OwnB ((w20.setCell ⟨g20, E, none⟩ (.int .u8 0)).setCell ⟨g20, E + 1, none⟩ (.int .u8 0)) w14.heap.size g20 cap20 (laid rs E 0 0) := (HO20.out.store E 0).store (E + 1) 0
          have t21 : Touch (fun _ => False) w ((w20.setCell ⟨g20, E, none⟩ (.int .u8 0)).setCell ⟨g20, E + 1, none⟩ (.int .u8 0)) := (HT20.out.setCell (p := ⟨g20, E, none⟩) (Or.inr HG20.out) _).setCell (p := ⟨g20, E + 1, none⟩) (Or.inr HG20.out) _
          revert o21 t21
          generalize (w20.setCell ⟨g20, E, none⟩ (.int .u8 0)).setCell ⟨g20, E + 1, none⟩ (.int .u8 0) = w21
          intro o21 t21
          have HO21 : Hid (OwnB w21 w14.heap.size g20 cap20 (laid rs E 0 0)) := o21
          have HT21 : Hid (Touch (fun _ => False) w w21) := t21
          clear o21 t21 d0 d1 d2 d3 HO20 HT20
          refine (HCp _ _ _ (HO21.out.argL (length_laid _ _ _ _))).mono ?_
          rintro e w22 ⟨g22, cap22, rfl, own22, t22⟩
          have HT22 : Hid (Touch (fun _ => False) w21 w22) := t22
          have HA22 : Hid (ArgAt w22 (.slice (some ⟨g22, 0, none⟩) rs.length cap22) (laid rs E 0 0)) := own22.argL (length_laid _ _ _ _)
          clear own22 t22
          go_wp2_with fail
          refine (HPp _ _ HA22.out).mono ?_
          rintro e w23 ⟨rfl, t23⟩
          have HT23 : Hid (Touch (fun _ => False) w21 w23) := HT22.out.trans t23
          have o23 := HO21.out.keep HT23.out
          have HO23 : Hid (OwnB w23 w14.heap.size g20 cap20 (laid rs E 0 0)) := o23
          have d0 := o23.cell E (by have := HE2.out; rw [length_laid]; omega)
          have d1 := o23.frozen E
          have d2 := o23.cell (E + 1) (by have := HE2.out; rw [length_laid]; omega)
          have d3 := o23.frozen (E + 1)
          clear t23 o23 HT22 HA22 HO21
          go_wp2_with fail
          have o24 : OwnB ((w23.setCell ⟨g20, E, none⟩ (.int .u8 (S / 256))).setCell ⟨g20, E + 1, none⟩ (.int .u8 (S % 256))) w14.heap.size g20 cap20 (laid rs E (S / 256) (S % 256)) := by
            have := (HO23.out.store E (S / 256)).store (E + 1) (S % 256)
            rw [show ((laid rs E 0 0).set E (S / 256)).set (E + 1) (S % 256) = laid rs E (S / 256) (S % 256) from laid_laid rs E 0 0 _ _] at this
            exact this
          have t24 : Touch (fun _ => False) w ((w23.setCell ⟨g20, E, none⟩ (.int .u8 (S / 256))).setCell ⟨g20, E + 1, none⟩ (.int .u8 (S % 256))) := ((HT21.out.trans HT23.out).setCell (p := ⟨g20, E, none⟩) (Or.inr HG20.out) _).setCell (p := ⟨g20, E + 1, none⟩) (Or.inr HG20.out) _
          revert o24 t24
          generalize (w23.setCell ⟨g20, E, none⟩ (.int .u8 (S / 256))).setCell ⟨g20, E + 1, none⟩ (.int .u8 (S % 256)) = w24
          intro o24 t24
          have HT24 : Hid (Touch (fun _ => False) w w24) := t24
          have HA24 : Hid (ArgAt w24 (.slice (some ⟨g20, 0, none⟩) rs.length cap20) (laid rs E (S / 256) (S % 256))) := o24.argL (length_laid _ _ _ _)
          clear o24 t24 d0 d1 d2 d3 HO23
          refine (HRp _ _ HA24.out).mono ?_
          rintro e w25 ⟨rfl, t25⟩
          have HT25 : Hid (Touch (fun _ => False) w w25) := HT24.out.trans t25
          clear t25
          go_wp2_with fail
          refine (lives_any _).mono ?_
          rintro e w26 ⟨rfl, t26⟩
          go_wp2
          go_ret
          exact ⟨rfl, HT25.out.trans t26⟩
    · have hlast' : decide ((k : Int) < (rs.length : Int) - 1) = false := by simp; omega
      by_cases hzt : z = tb
      · have hzt' : (z == tb) = true := by simp [hzt]
        clear hzt
        as_aux_lemma =>
          have HTa : Hid (Touch (fun _ => False) w w8) := HT4.out.trans HT8.out
          have hE := HE.out
          go_wp2_with fail
          clear hE
          refine (HCb _ (HV.out _ HTa.out)).mono ?_
          rintro e w20 ⟨g20, cap20, rfl, own20, t20⟩
          have HT20 : Hid (Touch (fun _ => False) w w20) := HTa.out.trans t20
          have HG20 : Hid (w.heap.size ≤ g20) := Nat.le_trans HTa.out.size own20.ge
          have HO20 : Hid (OwnB w20 w8.heap.size g20 cap20 rs) := own20
          have d0 := own20.cell E (by have := HE2.out; omega)
          have d1 := own20.frozen E
          have d2 := own20.cell (E + 1) (by have := HE2.out; omega)
          have d3 := own20.frozen (E + 1)
          have hE3 := HE3.out
          clear own20 t20
          go_wp2_with fail
          have o21 : OwnB ((w20.setCell ⟨g20, E, none⟩ (.int .u8 0)).setCell ⟨g20, E + 1, none⟩ (.int .u8 0)) w8.heap.size g20 cap20 (laid rs E 0 0) := (HO20.out.store E 0).store (E + 1) 0
          have t21 : Touch (fun _ => False) w ((w20.setCell ⟨g20, E, none⟩ (.int .u8 0)).setCell ⟨g20, E + 1, none⟩ (.int .u8 0)) := (HT20.out.setCell (p := ⟨g20, E, none⟩) (Or.inr HG20.out) _).setCell (p := ⟨g20, E + 1, none⟩) (Or.inr HG20.out) _
          revert o21 t21
          generalize (w20.setCell ⟨g20, E, none⟩ (.int .u8 0)).setCell ⟨g20, E + 1, none⟩ (.int .u8 0) = w21
          intro o21 t21
          have HO21 : Hid (OwnB w21 w8.heap.size g20 cap20 (laid rs E 0 0)) := o21
          have HT21 : Hid (Touch (fun _ => False) w w21) := t21
          clear o21 t21 d0 d1 d2 d3 HO20 HT20
          refine (HCp _ _ _ (HO21.out.argL (length_laid _ _ _ _))).mono ?_
          rintro e w22 ⟨g22, cap22, rfl, own22, t22⟩
          have HT22 : Hid (Touch (fun _ => False) w21 w22) := t22
          have HA22 : Hid (ArgAt w22 (.slice (some ⟨g22, 0, none⟩) rs.length cap22) (laid rs E 0 0)) := own22.argL (length_laid _ _ _ _)
          clear own22 t22
          go_wp2_with fail
          refine (HPp _ _ HA22.out).mono ?_
          rintro e w23 ⟨rfl, t23⟩
          have HT23 : Hid (Touch (fun _ => False) w21 w23) := HT22.out.trans t23
          have o23 := HO21.out.keep HT23.out
          have HO23 : Hid (OwnB w23 w8.heap.size g20 cap20 (laid rs E 0 0)) := o23
          have d0 := o23.cell E (by have := HE2.out; rw [length_laid]; omega)
          have d1 := o23.frozen E
          have d2 := o23.cell (E + 1) (by have := HE2.out; rw [length_laid]; omega)
          have d3 := o23.frozen (E + 1)
          clear t23 o23 HT22 HA22 HO21
          go_wp2_with fail
          have o24 : OwnB ((w23.setCell ⟨g20, E, none⟩ (.int .u8 (S / 256))).setCell ⟨g20, E + 1, none⟩ (.int .u8 (S % 256))) w8.heap.size g20 cap20 (laid rs E (S / 256) (S % 256)) := by
            have := (HO23.out.store E (S / 256)).store (E + 1) (S % 256)
            rw [show ((laid rs E 0 0).set E (S / 256)).set (E + 1) (S % 256) = laid rs E (S / 256) (S % 256) from laid_laid rs E 0 0 _ _] at this
            exact this
          have t24 : Touch (fun _ => False) w ((w23.setCell ⟨g20, E, none⟩ (.int .u8 (S / 256))).setCell ⟨g20, E + 1, none⟩ (.int .u8 (S % 256))) := ((HT21.out.trans HT23.out).setCell (p := ⟨g20, E, none⟩) (Or.inr HG20.out) _).setCell (p := ⟨g20, E + 1, none⟩) (Or.inr HG20.out) _
          revert o24 t24
          generalize (w23.setCell ⟨g20, E, none⟩ (.int .u8 (S / 256))).setCell ⟨g20, E + 1, none⟩ (.int .u8 (S % 256)) = w24
          intro o24 t24
          have HT24 : Hid (Touch (fun _ => False) w w24) := t24
          have HA24 : Hid (ArgAt w24 (.slice (some ⟨g20, 0, none⟩) rs.length cap20) (laid rs E (S / 256) (S % 256))) := o24.argL (length_laid _ _ _ _)
          clear o24 t24 d0 d1 d2 d3 HO23
          refine (HRp _ _ HA24.out).mono ?_
          rintro e w25 ⟨rfl, t25⟩
          have HT25 : Hid (Touch (fun _ => False) w w25) := HT24.out.trans t25
          clear t25
          go_wp2_with fail
          refine (lives_any _).mono ?_
          rintro e w26 ⟨rfl, t26⟩
          go_wp2
          go_ret
          exact ⟨rfl, HT25.out.trans t26⟩
      · have hzt' : (z == tb) = false := by simpa using hzt
        clear hzt
        as_aux_lemma =>
          go_wp2_with fail
          refine (HCl _ _ _ (HA4.out _ HT8.out)).mono ?_
          rintro e w9 ⟨g9, cap9, rfl, own9, t9⟩
          have HT9 : Hid (Touch (fun _ => False) w4 w9) := HT8.out.trans t9
          have HO9 : Hid (OwnB w9 w8.heap.size g9 cap9 L) := own9
          have d0 := own9.cell k (by have := HLl.out; omega)
          have d1 := own9.frozen k
          clear own9 t9 p0
          go_wp2_with fail
          have o10 : OwnB (w9.setCell ⟨g9, k, none⟩ (.int .u8 tb)) w8.heap.size g9 cap9 (L.set k tb) := HO9.out.store k tb
          have t10 : Touch (fun _ => False) w4 (w9.setCell ⟨g9, k, none⟩ (.int .u8 tb)) := HT9.out.setCell (p := ⟨g9, k, none⟩) (Or.inr (Nat.le_trans HT8.out.size HO9.out.ge)) _
          revert o10 t10
          generalize w9.setCell ⟨g9, k, none⟩ (.int .u8 tb) = w10
          intro o10 t10
          have HA10 : Hid (∀ u : Aft w10, ArgAt u.w (.slice (some ⟨g9, 0, none⟩) rs.length cap9) (L.set k tb)) := fun u => (o10.keep u.gr).argL (by rw [List.length_set]; exact HLl.out)
          have HT10 : Hid (Touch (fun _ => False) w4 w10) := t10
          have q0 := (HO4.out _ t10).cell k (by have := HLl.out; omega)
          rw [HZ.out] at q0
          have p0 := aft_cell q0
          have hb1 := HB1.out
          clear o10 t10 d0 d1 HT9 HO9 q0
          refine wp_region_aft (by kernel_rfl) (by kernel_rfl) ?_
          repeat (first | go_big_quiet_skip | (go_big_quiet_want; go_big_quiet_op; first | go_big_quiet_on | (refine Exists.intro _ ⟨fun _ => rfl, ?_⟩; go_big_quiet_on)))
          go_big_quiet_want; go_big_quiet_op; refine Exists.intro _ ⟨fun u => Aft.call (HWs _ _ (HA10.out u)), ?_⟩; go_big_quiet_on
          repeat (first | go_big_quiet_skip | (go_big_quiet_want; go_big_quiet_op; first | go_big_quiet_on | (refine Exists.intro _ ⟨fun _ => rfl, ?_⟩; go_big_quiet_on)))
          refine wpQuiet_nil ?_
          rintro w11 ⟨⟨_, hg11⟩, rfl⟩

          have HT11 : Hid (Touch (fun _ => False) w4 w11) := HT10.out.trans hg11
          clear p0 hg11 HT10 HA10 hb1
          have HTa : Hid (Touch (fun _ => False) w w11) := HT4.out.trans HT11.out
          have hE := HE.out
          go_wp2_with fail
          clear hE
          refine (HCb _ (HV.out _ HTa.out)).mono ?_
          rintro e w20 ⟨g20, cap20, rfl, own20, t20⟩
          have HT20 : Hid (Touch (fun _ => False) w w20) := HTa.out.trans t20
          have HG20 : Hid (w.heap.size ≤ g20) := Nat.le_trans HTa.out.size own20.ge
          have HO20 : Hid (OwnB w20 w11.heap.size g20 cap20 rs) := own20
          have d0 := own20.cell E (by have := HE2.out; omega)
          have d1 := own20.frozen E
          have d2 := own20.cell (E + 1) (by have := HE2.out; omega)
          have d3 := own20.frozen (E + 1)
          have hE3 := HE3.out
          clear own20 t20
          go_wp2_with fail
          have o21 : OwnB ((w20.setCell ⟨g20, E, none⟩ (.int .u8 0)).setCell ⟨g20, E + 1, none⟩ (.int .u8 0)) w11.heap.size g20 cap20 (laid rs E 0 0) := (HO20.out.store E 0).store (E + 1) 0
          have t21 : Touch (fun _ => False) w ((w20.setCell ⟨g20, E, none⟩ (.int .u8 0)).setCell ⟨g20, E + 1, none⟩ (.int .u8 0)) := (HT20.out.setCell (p := ⟨g20, E, none⟩) (Or.inr HG20.out) _).setCell (p := ⟨g20, E + 1, none⟩) (Or.inr HG20.out) _
          revert o21 t21
          generalize (w20.setCell ⟨g20, E, none⟩ (.int .u8 0)).setCell ⟨g20, E + 1, none⟩ (.int .u8 0) = w21
          intro o21 t21
          have HO21 : Hid (OwnB w21 w11.heap.size g20 cap20 (laid rs E 0 0)) := o21
          have HT21 : Hid (Touch (fun _ => False) w w21) := t21
          clear o21 t21 d0 d1 d2 d3 HO20 HT20
          refine (HCp _ _ _ (HO21.out.argL (length_laid _ _ _ _))).mono ?_
          rintro e w22 ⟨g22, cap22, rfl, own22, t22⟩
          have HT22 : Hid (Touch (fun _ => False) w21 w22) := t22
          have HA22 : Hid (ArgAt w22 (.slice (some ⟨g22, 0, none⟩) rs.length cap22) (laid rs E 0 0)) := own22.argL (length_laid _ _ _ _)
          clear own22 t22
          go_wp2_with fail
          refine (HPp _ _ HA22.out).mono ?_
          rintro e w23 ⟨rfl, t23⟩
          have HT23 : Hid (Touch (fun _ => False) w21 w23) := HT22.out.trans t23
          have o23 := HO21.out.keep HT23.out
          have HO23 : Hid (OwnB w23 w11.heap.size g20 cap20 (laid rs E 0 0)) := o23
          have d0 := o23.cell E (by have := HE2.out; rw [length_laid]; omega)
          have d1 := o23.frozen E
          have d2 := o23.cell (E + 1) (by have := HE2.out; rw [length_laid]; omega)
          have d3 := o23.frozen (E + 1)
          clear t23 o23 HT22 HA22 HO21
          go_wp2_with fail
          have o24 : OwnB ((w23.setCell ⟨g20, E, none⟩ (.int .u8 (S / 256))).setCell ⟨g20, E + 1, none⟩ (.int .u8 (S % 256))) w11.heap.size g20 cap20 (laid rs E (S / 256) (S % 256)) := by
            have := (HO23.out.store E (S / 256)).store (E + 1) (S % 256)
            rw [show ((laid rs E 0 0).set E (S / 256)).set (E + 1) (S % 256) = laid rs E (S / 256) (S % 256) from laid_laid rs E 0 0 _ _] at this
            exact this
          have t24 : Touch (fun _ => False) w ((w23.setCell ⟨g20, E, none⟩ (.int .u8 (S / 256))).setCell ⟨g20, E + 1, none⟩ (.int .u8 (S % 256))) := ((HT21.out.trans HT23.out).setCell (p := ⟨g20, E, none⟩) (Or.inr HG20.out) _).setCell (p := ⟨g20, E + 1, none⟩) (Or.inr HG20.out) _
          revert o24 t24
          generalize (w23.setCell ⟨g20, E, none⟩ (.int .u8 (S / 256))).setCell ⟨g20, E + 1, none⟩ (.int .u8 (S % 256)) = w24
          intro o24 t24
          have HT24 : Hid (Touch (fun _ => False) w w24) := t24
          have HA24 : Hid (ArgAt w24 (.slice (some ⟨g20, 0, none⟩) rs.length cap20) (laid rs E (S / 256) (S % 256))) := o24.argL (length_laid _ _ _ _)
          clear o24 t24 d0 d1 d2 d3 HO23
          refine (HRp _ _ HA24.out).mono ?_
          rintro e w25 ⟨rfl, t25⟩
          have HT25 : Hid (Touch (fun _ => False) w w25) := HT24.out.trans t25
          clear t25
          go_wp2_with fail
          refine (lives_any _).mono ?_
          rintro e w26 ⟨rfl, t26⟩
          go_wp2
          go_ret
          exact ⟨rfl, HT25.out.trans t26⟩
  · by_cases hneg : 0 ≤ i
    · have hin1 : decide (i < (rs.length : Int)) = false := by simp; omega
      have hin2 : decide (i < (rs.length : Int) - 1) = false := by simp; omega
      clear hin
      as_aux_lemma =>
        have HTa : Hid (Touch (fun _ => False) w w8) := HT4.out.trans HT8.out
        have hE := HE.out
        go_wp2_with fail
        clear hE
        refine (HCb _ (HV.out _ HTa.out)).mono ?_
        rintro e w20 ⟨g20, cap20, rfl, own20, t20⟩
        have HT20 : Hid (Touch (fun _ => False) w w20) := HTa.out.trans t20
        have HG20 : Hid (w.heap.size ≤ g20) := Nat.le_trans HTa.out.size own20.ge
        have HO20 : Hid (OwnB w20 w8.heap.size g20 cap20 rs) := own20
        have d0 := own20.cell E (by have := HE2.out; omega)
        have d1 := own20.frozen E
        have d2 := own20.cell (E + 1) (by have := HE2.out; omega)
        have d3 := own20.frozen (E + 1)
        have hE3 := HE3.out
        clear own20 t20
        go_wp2_with fail
        have o21 : OwnB ((w20.setCell ⟨g20, E, none⟩ (.int .u8 0)).setCell ⟨g20, E + 1, none⟩ (.int .u8 0)) w8.heap.size g20 cap20 (laid rs E 0 0) := (HO20.out.store E 0).store (E + 1) 0
        have t21 : Touch (fun _ => False) w ((w20.setCell ⟨g20, E, none⟩ (.int .u8 0)).setCell ⟨g20, E + 1, none⟩ (.int .u8 0)) := (HT20.out.setCell (p := ⟨g20, E, none⟩) (Or.inr HG20.out) _).setCell (p := ⟨g20, E + 1, none⟩) (Or.inr HG20.out) _
        revert o21 t21
        generalize (w20.setCell ⟨g20, E, none⟩ (.int .u8 0)).setCell ⟨g20, E + 1, none⟩ (.int .u8 0) = w21
        intro o21 t21
        have HO21 : Hid (OwnB w21 w8.heap.size g20 cap20 (laid rs E 0 0)) := o21
        have HT21 : Hid (Touch (fun _ => False) w w21) := t21
        clear o21 t21 d0 d1 d2 d3 HO20 HT20
        refine (HCp _ _ _ (HO21.out.argL (length_laid _ _ _ _))).mono ?_
        rintro e w22 ⟨g22, cap22, rfl, own22, t22⟩
        have HT22 : Hid (Touch (fun _ => False) w21 w22) := t22
        have HA22 : Hid (ArgAt w22 (.slice (some ⟨g22, 0, none⟩) rs.length cap22) (laid rs E 0 0)) := own22.argL (length_laid _ _ _ _)
        clear own22 t22
        go_wp2_with fail
        refine (HPp _ _ HA22.out).mono ?_
        rintro e w23 ⟨rfl, t23⟩
        have HT23 : Hid (Touch (fun _ => False) w21 w23) := HT22.out.trans t23
        have o23 := HO21.out.keep HT23.out
        have HO23 : Hid (OwnB w23 w8.heap.size g20 cap20 (laid rs E 0 0)) := o23
        have d0 := o23.cell E (by have := HE2.out; rw [length_laid]; omega)
        have d1 := o23.frozen E
        have d2 := o23.cell (E + 1) (by have := HE2.out; rw [length_laid]; omega)
        have d3 := o23.frozen (E + 1)
        clear t23 o23 HT22 HA22 HO21
        go_wp2_with fail
        have o24 : OwnB ((w23.setCell ⟨g20, E, none⟩ (.int .u8 (S / 256))).setCell ⟨g20, E + 1, none⟩ (.int .u8 (S % 256))) w8.heap.size g20 cap20 (laid rs E (S / 256) (S % 256)) := by
          have := (HO23.out.store E (S / 256)).store (E + 1) (S % 256)
          rw [show ((laid rs E 0 0).set E (S / 256)).set (E + 1) (S % 256) = laid rs E (S / 256) (S % 256) from laid_laid rs E 0 0 _ _] at this
          exact this
        have t24 : Touch (fun _ => False) w ((w23.setCell ⟨g20, E, none⟩ (.int .u8 (S / 256))).setCell ⟨g20, E + 1, none⟩ (.int .u8 (S % 256))) := ((HT21.out.trans HT23.out).setCell (p := ⟨g20, E, none⟩) (Or.inr HG20.out) _).setCell (p := ⟨g20, E + 1, none⟩) (Or.inr HG20.out) _
        revert o24 t24
        generalize (w23.setCell ⟨g20, E, none⟩ (.int .u8 (S / 256))).setCell ⟨g20, E + 1, none⟩ (.int .u8 (S % 256)) = w24
        intro o24 t24
        have HT24 : Hid (Touch (fun _ => False) w w24) := t24
        have HA24 : Hid (ArgAt w24 (.slice (some ⟨g20, 0, none⟩) rs.length cap20) (laid rs E (S / 256) (S % 256))) := o24.argL (length_laid _ _ _ _)
        clear o24 t24 d0 d1 d2 d3 HO23
        refine (HRp _ _ HA24.out).mono ?_
        rintro e w25 ⟨rfl, t25⟩
        have HT25 : Hid (Touch (fun _ => False) w w25) := HT24.out.trans t25
        clear t25
        go_wp2_with fail
        refine (lives_any _).mono ?_
        rintro e w26 ⟨rfl, t26⟩
        go_wp2
        go_ret
        exact ⟨rfl, HT25.out.trans t26⟩
    · have hneg' : decide (0 ≤ i) = false := by simpa using hneg
      clear hin
      as_aux_lemma =>
        have HTa : Hid (Touch (fun _ => False) w w8) := HT4.out.trans HT8.out
        have hE := HE.out
        go_wp2_with fail
        clear hE
        refine (HCb _ (HV.out _ HTa.out)).mono ?_
        rintro e w20 ⟨g20, cap20, rfl, own20, t20⟩
        have HT20 : Hid (Touch (fun _ => False) w w20) := HTa.out.trans t20
        have HG20 : Hid (w.heap.size ≤ g20) := Nat.le_trans HTa.out.size own20.ge
        have HO20 : Hid (OwnB w20 w8.heap.size g20 cap20 rs) := own20
        have d0 := own20.cell E (by have := HE2.out; omega)
        have d1 := own20.frozen E
        have d2 := own20.cell (E + 1) (by have := HE2.out; omega)
        have d3 := own20.frozen (E + 1)
        have hE3 := HE3.out
        clear own20 t20
        go_wp2_with fail
        have o21 : OwnB ((w20.setCell ⟨g20, E, none⟩ (.int .u8 0)).setCell ⟨g20, E + 1, none⟩ (.int .u8 0)) w8.heap.size g20 cap20 (laid rs E 0 0) := (HO20.out.store E 0).store (E + 1) 0
        have t21 : Touch (fun _ => False) w ((w20.setCell ⟨g20, E, none⟩ (.int .u8 0)).setCell ⟨g20, E + 1, none⟩ (.int .u8 0)) := (HT20.out.setCell (p := ⟨g20, E, none⟩) (Or.inr HG20.out) _).setCell (p := ⟨g20, E + 1, none⟩) (Or.inr HG20.out) _
        revert o21 t21
        generalize (w20.setCell ⟨g20, E, none⟩ (.int .u8 0)).setCell ⟨g20, E + 1, none⟩ (.int .u8 0) = w21
        intro o21 t21
        have HO21 : Hid (OwnB w21 w8.heap.size g20 cap20 (laid rs E 0 0)) := o21
        have HT21 : Hid (Touch (fun _ => False) w w21) := t21
        clear o21 t21 d0 d1 d2 d3 HO20 HT20
        refine (HCp _ _ _ (HO21.out.argL (length_laid _ _ _ _))).mono ?_
        rintro e w22 ⟨g22, cap22, rfl, own22, t22⟩
        have HT22 : Hid (Touch (fun _ => False) w21 w22) := t22
        have HA22 : Hid (ArgAt w22 (.slice (some ⟨g22, 0, none⟩) rs.length cap22) (laid rs E 0 0)) := own22.argL (length_laid _ _ _ _)
        clear own22 t22
        go_wp2_with fail
        refine (HPp _ _ HA22.out).mono ?_
        rintro e w23 ⟨rfl, t23⟩
        have HT23 : Hid (Touch (fun _ => False) w21 w23) := HT22.out.trans t23
        have o23 := HO21.out.keep HT23.out
        have HO23 : Hid (OwnB w23 w8.heap.size g20 cap20 (laid rs E 0 0)) := o23
        have d0 := o23.cell E (by have := HE2.out; rw [length_laid]; omega)
        have d1 := o23.frozen E
        have d2 := o23.cell (E + 1) (by have := HE2.out; rw [length_laid]; omega)
        have d3 := o23.frozen (E + 1)
        clear t23 o23 HT22 HA22 HO21
        go_wp2_with fail
        have o24 : OwnB ((w23.setCell ⟨g20, E, none⟩ (.int .u8 (S / 256))).setCell ⟨g20, E + 1, none⟩ (.int .u8 (S % 256))) w8.heap.size g20 cap20 (laid rs E (S / 256) (S % 256)) := by
          have := (HO23.out.store E (S / 256)).store (E + 1) (S % 256)
          rw [show ((laid rs E 0 0).set E (S / 256)).set (E + 1) (S % 256) = laid rs E (S / 256) (S % 256) from laid_laid rs E 0 0 _ _] at this
          exact this
        have t24 : Touch (fun _ => False) w ((w23.setCell ⟨g20, E, none⟩ (.int .u8 (S / 256))).setCell ⟨g20, E + 1, none⟩ (.int .u8 (S % 256))) := ((HT21.out.trans HT23.out).setCell (p := ⟨g20, E, none⟩) (Or.inr HG20.out) _).setCell (p := ⟨g20, E + 1, none⟩) (Or.inr HG20.out) _
        revert o24 t24
        generalize (w23.setCell ⟨g20, E, none⟩ (.int .u8 (S / 256))).setCell ⟨g20, E + 1, none⟩ (.int .u8 (S % 256)) = w24
        intro o24 t24
        have HT24 : Hid (Touch (fun _ => False) w w24) := t24
        have HA24 : Hid (ArgAt w24 (.slice (some ⟨g20, 0, none⟩) rs.length cap20) (laid rs E (S / 256) (S % 256))) := o24.argL (length_laid _ _ _ _)
        clear o24 t24 d0 d1 d2 d3 HO23
        refine (HRp _ _ HA24.out).mono ?_
        rintro e w25 ⟨rfl, t25⟩
        have HT25 : Hid (Touch (fun _ => False) w w25) := HT24.out.trans t25
        clear t25
        go_wp2_with fail
        refine (lives_any _).mono ?_
        rintro e w26 ⟨rfl, t26⟩
        go_wp2
        go_ret
        exact ⟨rfl, HT25.out.trans t26⟩

theorem guards_any (v : Value) (rs : List Int) (a i tb : Int) (w : World) (hv : ArgAt w v rs) (hby : ∀ x ∈ rs, 0 ≤ x ∧ x < 256) (hi : (Lit.int .i64 i).wf = true) (hto : (Lit.int .u8 tb).wf = true) :
    Calls Try.prog 4 #[v, .int .i64 a, .int .i64 i, .int .u8 tb] w fun e w' => e = .returned (.bool true) ∧ Touch (fun _ => False) w w' := by
  by_cases h : 16384 < rs.length ∨ a < 0 ∨ (rs.length : Int) - 1 ≤ a
  · exact guards_out v rs a i tb w hv h
  · obtain ⟨k, rfl⟩ : ∃ k : Nat, a = k := ⟨a.toNat, by omega⟩
    have h1 := bounds_i64 hi
    have h2 := bounds_u8 hto
    exact guards_in v rs k i tb w hv hby (by omega) (by omega) (by omega) (by omega)
end Go.Proofs.Ytlcgklbmkfiglaa
