/- The document's digested: its loop. -/
import Derived.Test.YthilfealloakdaaGreatAuRO2a
import Derived.Test.YthilfealloakdaaGreatDigBuf
import Derived.Test.YthilfealloakdaaGreatDigSame
import Derived.Test.YthilfealloakdaaGreatNumB
import Derived.Deep.LoopGhost
import Derived.Deep.RegionHeld3
namespace Go.Proofs.YthilfealloakdaaGreat
open Go.RowKit
set_option linter.unusedVariables false
set_option maxRecDepth 100000

set_option maxHeartbeats 1000000 in
theorem rdig_loop (rs : List Int) (ga oa vc nn kc : Nat) (ka : Option Addr) (ks : List KE) (now G18 EE SS NN : Int) (w : World) (hn : rs.length ≤ 1000000) (hlc : rs.length ≤ vc) (hvc : (vc : Int) ≤ 9223372036854775807) (hlen : rs.length = nn + 16) (hnn : 24 ≤ nn) (hkl : ks.length ≤ 1000000)
    (HV : Hid (∀ w', Touch (fun _ => False) w w' → RowAt w' (.slice (some ⟨ga, oa, none⟩) rs.length vc) rs)) (HC : Hid (∀ w', Touch (fun _ => False) w w' → ChainAt w' (.slice ka ks.length kc) ks)) (HBY : Hid (∀ z ∈ rs, 0 ≤ z ∧ z < 256)) (HG18 : Hid (rs.getD 18 0 = G18))
    (c16 : w.cell? ⟨ga, oa + 16, none⟩ = some (.int .u8 0)) (c17 : w.cell? ⟨ga, oa + 17, none⟩ = some (.int .u8 0)) (c19 : w.cell? ⟨ga, oa + 19, none⟩ = some (.int .u8 16))
    (HF : Hid ((∀ (j : Nat) x, j < ks.length → ks[j]? = some x → (x.p.takes now && digK rs nn x.p G18) = false) → EE = 26 ∧ SS = 0 ∧ NN = 0))
    (HT : Hid (∀ x, x ∈ ks → (x.p.takes now && digK rs nn x.p G18) = true → EE = 0 ∧ SS = 16777216 * rs.getD 20 0 + 65536 * rs.getD 21 0 + 256 * rs.getD 22 0 + rs.getD 23 0 ∧ NN = nn)) :
    Calls Tryz.prog 30 #[.slice (some ⟨ga, oa, none⟩) rs.length vc, .int .i64 (nn : Int), .slice ka ks.length kc, .int .i64 now] w fun e w' => e = .returned (.tuple #[.int .u32 SS, .int .i64 NN, .int .i64 EE]) ∧ Touch (fun _ => False) w w' := by
  have hw16 : wrap64 ((nn : Int) + 16) = (nn : Int) + 16 := by unfold wrap64; omega
  have hbl : ((rs.length : Int) != (nn : Int) + 16) = false := by rw [hlen]; simp
  have HLEN : Hid (rs.length = nn + 16) := hlen
  have hnn0 : (0 : Int) ≤ (nn : Int) := by omega
  have hl24 : (24 : Int) ≤ (rs.length : Int) := by omega
  have hnl : (nn : Int) ≤ (rs.length : Int) := by omega
  have hlc' : (rs.length : Int) ≤ (vc : Int) := by omega
  have hvn : ¬ vc = nn := by omega
  clear hlen
  go_enter Tryz.func30, Tryz.ntmps30
  go_wp2_with fail
  go_loopg [11, 12] ks.length (fun gg s11 _ wr => DgR ks w (fun x => x.p.takes now && digK rs nn x.p G18) gg s11 wr)
  case atStart => exact ⟨0, by omega, by omega, rfl, Touch.refl _ _, fun j x h => by omega⟩
  case round =>
    obtain ⟨k, hk, hg, rfl, tr, hpre⟩ := hrel.out
    have TR : Hid (Touch (fun _ => False) w wr) := tr
    have HP : Hid (∀ j x, j < k → ks[j]? = some x → (x.p.takes now && digK rs nn x.p G18) = false) := hpre
    clear tr hrel hpre
    by_cases hlt : k < ks.length
    · have hlt' : (k : Int) < (ks.length : Int) := by omega
      have hk00 : (0 : Int) ≤ (k : Int) := by omega
      have hkw : wrap64 ((k : Int) + 1) = (k : Int) + 1 := by unfold wrap64; omega
      obtain ⟨x, hx⟩ : ∃ x, ks[k]? = some x := ⟨ks[k], by simp [hlt]⟩
      obtain ⟨ox, gR, off, cR, eR, hcell⟩ := ChainAt.one (HC.out wr TR.out) hx
      cases eR
      have e0 : wr.cell? ⟨gR, off + k * 7, none⟩ = some (.int .u8 x.p.id) := by exact hcell 0 _ rfl
      have e1 : wr.cell? ⟨gR, off + k * 7 + 1, none⟩ = some (.int .u16 x.p.kind) := by rw [Nat.add_assoc]; exact hcell 1 _ rfl
      have e2 : wr.cell? ⟨gR, off + k * 7 + 2, none⟩ = some (.slice x.a x.p.sec.length x.c) := by rw [Nat.add_assoc]; exact hcell 2 _ rfl
      have e3 : wr.cell? ⟨gR, off + k * 7 + 3, none⟩ = some (.int .i64 x.p.sf) := by rw [Nat.add_assoc]; exact hcell 3 _ rfl
      have e4 : wr.cell? ⟨gR, off + k * 7 + 4, none⟩ = some (.int .i64 x.p.su) := by rw [Nat.add_assoc]; exact hcell 4 _ rfl
      have e5 : wr.cell? ⟨gR, off + k * 7 + 5, none⟩ = some (.int .i64 x.p.tf) := by rw [Nat.add_assoc]; exact hcell 5 _ rfl
      have e6 : wr.cell? ⟨gR, off + k * 7 + 6, none⟩ = some (.int .i64 x.p.tu) := by rw [Nat.add_assoc]; exact hcell 6 _ rfl
      have HX : Hid (ks[k]? = some x) := hx
      have HN : Hid ((x.p.takes now && digK rs nn x.p G18) = false → ∀ j y, j < k + 1 → ks[j]? = some y → (y.p.takes now && digK rs nn y.p G18) = false) := fun h j y hj hy => by
        by_cases e : j = k
        · subst e; rw [HX.out] at hy; cases hy; exact h
        · exact HP.out j y (by omega) hy
      clear hcell hx HP
      go_upto_region 9 with fail
      have r0 := kbox_new wr x.p.id x.p.kind x.a x.p.sec.length x.c x.p.sf x.p.su x.p.tf x.p.tu
      have TA : Hid (Touch (fun _ => False) w (wr.alloc (.cells #[.int .u8 x.p.id, .int .u16 x.p.kind, .slice x.a x.p.sec.length x.c, .int .i64 x.p.sf, .int .i64 x.p.su, .int .i64 x.p.tf, .int .i64 x.p.tu] 59))) := TR.out.trans ((Touch.refl _ _).alloc _)
      have cb0 := rowAt_cell (HV.out _ TA.out) 18 (by omega)
      rw [HG18.out] at cb0
      replace ox := ox.keep ((Touch.refl (fun _ => False) wr).alloc (.cells #[.int .u8 x.p.id, .int .u16 x.p.kind, .slice x.a x.p.sec.length x.c, .int .i64 x.p.sf, .int .i64 x.p.su, .int .i64 x.p.tf, .int .i64 x.p.tu] 59))
      generalize wr.alloc (.cells #[.int .u8 x.p.id, .int .u16 x.p.kind, .slice x.a x.p.sec.length x.c, .int .i64 x.p.sf, .int .i64 x.p.su, .int .i64 x.p.tf, .int .i64 x.p.tu] 59) = wa at r0 TA cb0 ox ⊢
      generalize wr.heap.size = ob at r0 ⊢
      clear e0 e1 e2 e3 e4 e5 e6 TR
      by_cases hid : x.p.id = G18
      rotate_left
      · have hbi : (x.p.id == G18) = false := by simpa using hid
        replace HN := HN.out (by simp [digK, hid])
        have HN : Hid _ := HN
        have c0 := aft_cell r0.c0
        have c2 := aft_cell r0.c2
        have c5 := aft_cell r0.c5
        have c6 := aft_cell r0.c6
        have cb := aft_cell cb0
        clear r0 ox hid
        refine wp_region_aft (by kernel_rfl) (by kernel_rfl) ?_
        repeat (first | go_big_quiet_skip | (go_big_quiet_want; go_big_quiet_op; first | go_big_quiet_on | (refine Exists.intro _ ⟨fun _ => rfl, ?_⟩; go_big_quiet_on)))
        refine wpQuiet_nil ?_
        rintro wq ⟨⟨_, hgq⟩, rfl⟩
        have TQ : Hid (Touch (fun _ => False) w wq) := TA.out.trans hgq
        clear c0 c2 c5 c6 cb hgq
        go_wp2_with fail
        go_roundg (ks.length - (k + 1))
        case measure => omega
        case rel => exact ⟨k + 1, by omega, by omega, by go_num, TQ.out, HN.out⟩
      have hbi : (x.p.id == G18) = true := by simpa using hid
      by_cases hf : x.p.tf ≤ now
      rotate_left
      · replace HN := HN.out (by simp [AKP.takes, hf])
        have HN : Hid _ := HN
        have c0 := aft_cell r0.c0
        have c2 := aft_cell r0.c2
        have c5 := aft_cell r0.c5
        have c6 := aft_cell r0.c6
        have cb := aft_cell cb0
        clear r0 ox hid
        refine wp_region_aft (by kernel_rfl) (by kernel_rfl) ?_
        repeat (first | go_big_quiet_skip | (go_big_quiet_want; go_big_quiet_op; first | go_big_quiet_on | (refine Exists.intro _ ⟨fun _ => rfl, ?_⟩; go_big_quiet_on)))
        refine wpQuiet_nil ?_
        rintro wq ⟨⟨_, hgq⟩, rfl⟩
        have TQ : Hid (Touch (fun _ => False) w wq) := TA.out.trans hgq
        clear c0 c2 c5 c6 cb hgq
        go_wp2_with fail
        go_roundg (ks.length - (k + 1))
        case measure => omega
        case rel => exact ⟨k + 1, by omega, by omega, by go_num, TQ.out, HN.out⟩
      by_cases hu : now ≤ x.p.tu
      rotate_left
      · replace HN := HN.out (by simp [AKP.takes, hu])
        have HN : Hid _ := HN
        have c0 := aft_cell r0.c0
        have c2 := aft_cell r0.c2
        have c5 := aft_cell r0.c5
        have c6 := aft_cell r0.c6
        have cb := aft_cell cb0
        clear r0 ox hid
        refine wp_region_aft (by kernel_rfl) (by kernel_rfl) ?_
        repeat (first | go_big_quiet_skip | (go_big_quiet_want; go_big_quiet_op; first | go_big_quiet_on | (refine Exists.intro _ ⟨fun _ => rfl, ?_⟩; go_big_quiet_on)))
        refine wpQuiet_nil ?_
        rintro wq ⟨⟨_, hgq⟩, rfl⟩
        have TQ : Hid (Touch (fun _ => False) w wq) := TA.out.trans hgq
        clear c0 c2 c5 c6 cb hgq
        go_wp2_with fail
        go_roundg (ks.length - (k + 1))
        case measure => omega
        case rel => exact ⟨k + 1, by omega, by omega, by go_num, TQ.out, HN.out⟩
      have hS : SnA wa wa.drew := SnA.start wa
      have c0 := snA_cell r0.c0
      have c2 := snA_cell r0.c2
      have c5 := snA_cell r0.c5
      have c6 := snA_cell r0.c6
      have cb := snA_cell cb0
      have HKY : Hid (∀ w', SnA wa w' → Calls Tryz.prog 70 #[.slice x.a x.p.sec.length x.c, .slice (some ⟨ga, oa, none⟩) nn vc] w' fun e w'' => ∃ v', e = .returned v' ∧ Buf w' w'' v' (keyedB x.p.sec (rs.take nn))) := fun w' t => by
        have h1 := ox.arg.keep t.t (fun _ _ h => h)
        have h2 := (take_row (HV.out w' (TA.out.trans t.t)) nn (by omega)).arg
        have hb1 : ∀ z ∈ rs.take nn, 0 ≤ z ∧ z < 256 := fun z hz => HBY.out z (List.mem_of_mem_take hz)
        rw [← natB_toN ox.all.sec] at h1
        rw [← natB_toN hb1] at h2
        have := rkeyed_any _ _ (toN x.p.sec) (toN (rs.take nn)) w' h1 h2 (toN_byte ox.all.sec) (toN_byte hb1) (by rw [length_toN, List.length_take]; omega)
        exact this
      have HSM : Hid (∀ w' v', SnA wa w' → ArgAt w' v' (keyedB x.p.sec (rs.take nn)) → Calls Tryz.prog 32 #[v', .slice (some ⟨ga, oa + nn, none⟩) (rs.length - nn) (vc - nn)] w' fun e w'' => e = .returned (.bool (decide (keyedB x.p.sec (rs.take nn) = rs.drop nn))) ∧ Touch (fun _ => False) w' w'') := fun w' v' t ha => rsame_any _ _ _ _ w' ha (drop_row (HV.out w' (TA.out.trans t.t)) nn (by omega)).arg
      have HDK : Hid ((x.p.takes now && digK rs nn x.p G18) = decide (keyedB x.p.sec (rs.take nn) = rs.drop nn)) := by
        show _ = _
        have e1 : x.p.takes now = true := by simp only [AKP.takes, decide_eq_true_eq]; exact ⟨hf, hu⟩
        unfold digK
        rw [e1, decide_eq_true hid, Int.toNat_natCast, Bool.true_and, Bool.true_and]
        exact decide_eq_decide.mpr ⟨fun h => h.symm, fun h => h.symm⟩
      clear r0 ox cb0 hid
      refine wp_region_held_drew (S := fun w' => SnA wa w') (by kernel_rfl) hS (fun hHeld => ?_)
      refine wpAnyH_take (i := 0) (oi := ⟨some 44, _, _, _, _, _⟩) (v := .pointer (some ⟨ob, 0, none⟩)) rfl (by kernel_rfl) (by kernel_rfl) (by kernel_rfl) (fun _ _ _ h => h) (Or.inl ⟨by rfl, fun w hw => by go_simp⟩) (by assumption) ?_
      simp only [Act.put, List.setIfInBounds_toArray, List.set_cons_zero, List.set_cons_succ]
      refine wpAnyH_take (i := 1) (oi := ⟨some 45, _, _, _, _, _⟩) (v := .int .u8 x.p.id) rfl (by kernel_rfl) (by kernel_rfl) (by kernel_rfl) (fun _ _ _ h => h) (Or.inl ⟨by rfl, fun w hw => by go_simp⟩) (by assumption) ?_
      simp only [Act.put, List.setIfInBounds_toArray, List.set_cons_zero, List.set_cons_succ]
      refine wpAnyH_take (i := 2) (oi := ⟨some 46, _, _, _, _, _⟩) (v := .slice (some ⟨ga, oa, none⟩) rs.length vc) rfl (by kernel_rfl) (by kernel_rfl) (by kernel_rfl) (fun _ _ _ h => h) (Or.inl ⟨by rfl, fun w hw => by go_simp⟩) (by assumption) ?_
      simp only [Act.put, List.setIfInBounds_toArray, List.set_cons_zero, List.set_cons_succ]
      refine wpAnyH_take (i := 3) (oi := ⟨some 47, _, _, _, _, _⟩) (v := .pointer (some ⟨ga, oa + 18, none⟩)) rfl (by kernel_rfl) (by kernel_rfl) (by kernel_rfl) (fun _ _ _ h => h) (Or.inl ⟨by rfl, fun w hw => by go_simp <;> first | omega | (intro hh; omega)⟩) (by assumption) ?_
      simp only [Act.put, List.setIfInBounds_toArray, List.set_cons_zero, List.set_cons_succ]
      refine wpAnyH_take (i := 4) (oi := ⟨some 48, _, _, _, _, _⟩) (v := .int .u8 G18) rfl (by kernel_rfl) (by kernel_rfl) (by kernel_rfl) (fun _ _ _ h => h) (Or.inl ⟨by rfl, fun w hw => by go_simp⟩) (by assumption) ?_
      simp only [Act.put, List.setIfInBounds_toArray, List.set_cons_zero, List.set_cons_succ]
      refine wpAnyH_take (i := 5) (oi := ⟨some 49, _, _, _, _, _⟩) (v := .bool true) rfl (by kernel_rfl) (by kernel_rfl) (by kernel_rfl) (fun _ _ _ h => h) (Or.inl ⟨by rfl, fun w hw => by go_simp⟩) (by assumption) ?_
      simp only [Act.put, List.setIfInBounds_toArray, List.set_cons_zero, List.set_cons_succ]
      refine wpAnyH_take (i := 6) (oi := ⟨some 50, _, _, _, _, _⟩) (v := .bool true) rfl (by kernel_rfl) (by kernel_rfl) (by kernel_rfl) (fun _ _ _ h => h) (Or.inl ⟨by rfl, fun w hw => by go_simp⟩) (by assumption) ?_
      simp only [Act.put, List.setIfInBounds_toArray, List.set_cons_zero, List.set_cons_succ]
      refine wpAnyH_take (i := 7) (oi := ⟨some 51, _, _, _, _, _⟩) (v := .int .i64 now) rfl (by kernel_rfl) (by kernel_rfl) (by kernel_rfl) (fun _ _ _ h => h) (Or.inl ⟨by rfl, fun w hw => by go_simp⟩) (by assumption) ?_
      simp only [Act.put, List.setIfInBounds_toArray, List.set_cons_zero, List.set_cons_succ]
      refine wpAnyH_take (i := 8) (oi := ⟨some 52, _, _, _, _, _⟩) (v := .pointer (some ⟨ob, 5, none⟩)) rfl (by kernel_rfl) (by kernel_rfl) (by kernel_rfl) (fun _ _ _ h => h) (Or.inl ⟨by rfl, fun w hw => by go_simp⟩) (by assumption) ?_
      simp only [Act.put, List.setIfInBounds_toArray, List.set_cons_zero, List.set_cons_succ]
      refine wpAnyH_take (i := 9) (oi := ⟨some 53, _, _, _, _, _⟩) (v := .int .i64 x.p.tf) rfl (by kernel_rfl) (by kernel_rfl) (by kernel_rfl) (fun _ _ _ h => h) (Or.inl ⟨by rfl, fun w hw => by go_simp⟩) (by assumption) ?_
      simp only [Act.put, List.setIfInBounds_toArray, List.set_cons_zero, List.set_cons_succ]
      refine wpAnyH_take (i := 10) (oi := ⟨some 54, _, _, _, _, _⟩) (v := .bool true) rfl (by kernel_rfl) (by kernel_rfl) (by kernel_rfl) (fun _ _ _ h => h) (Or.inl ⟨by rfl, fun w hw => by go_simp⟩) (by assumption) ?_
      simp only [Act.put, List.setIfInBounds_toArray, List.set_cons_zero, List.set_cons_succ]
      refine wpAnyH_take (i := 11) (oi := ⟨some 55, _, _, _, _, _⟩) (v := .bool true) rfl (by kernel_rfl) (by kernel_rfl) (by kernel_rfl) (fun _ _ _ h => h) (Or.inl ⟨by rfl, fun w hw => by go_simp⟩) (by assumption) ?_
      simp only [Act.put, List.setIfInBounds_toArray, List.set_cons_zero, List.set_cons_succ]
      refine wpAnyH_take (i := 12) (oi := ⟨some 56, _, _, _, _, _⟩) (v := .bool true) rfl (by kernel_rfl) (by kernel_rfl) (by kernel_rfl) (fun _ _ _ h => h) (Or.inl ⟨by rfl, fun w hw => by go_simp⟩) (by assumption) ?_
      simp only [Act.put, List.setIfInBounds_toArray, List.set_cons_zero, List.set_cons_succ]
      refine wpAnyH_take (i := 13) (oi := ⟨some 57, _, _, _, _, _⟩) (v := .int .i64 now) rfl (by kernel_rfl) (by kernel_rfl) (by kernel_rfl) (fun _ _ _ h => h) (Or.inl ⟨by rfl, fun w hw => by go_simp⟩) (by assumption) ?_
      simp only [Act.put, List.setIfInBounds_toArray, List.set_cons_zero, List.set_cons_succ]
      refine wpAnyH_take (i := 14) (oi := ⟨some 58, _, _, _, _, _⟩) (v := .pointer (some ⟨ob, 6, none⟩)) rfl (by kernel_rfl) (by kernel_rfl) (by kernel_rfl) (fun _ _ _ h => h) (Or.inl ⟨by rfl, fun w hw => by go_simp⟩) (by assumption) ?_
      simp only [Act.put, List.setIfInBounds_toArray, List.set_cons_zero, List.set_cons_succ]
      refine wpAnyH_take (i := 15) (oi := ⟨some 59, _, _, _, _, _⟩) (v := .int .i64 x.p.tu) rfl (by kernel_rfl) (by kernel_rfl) (by kernel_rfl) (fun _ _ _ h => h) (Or.inl ⟨by rfl, fun w hw => by go_simp⟩) (by assumption) ?_
      simp only [Act.put, List.setIfInBounds_toArray, List.set_cons_zero, List.set_cons_succ]
      refine wpAnyH_take (i := 16) (oi := ⟨some 60, _, _, _, _, _⟩) (v := .bool true) rfl (by kernel_rfl) (by kernel_rfl) (by kernel_rfl) (fun _ _ _ h => h) (Or.inl ⟨by rfl, fun w hw => by go_simp⟩) (by assumption) ?_
      simp only [Act.put, List.setIfInBounds_toArray, List.set_cons_zero, List.set_cons_succ]
      refine wpAnyH_take (i := 17) (oi := ⟨some 61, _, _, _, _, _⟩) (v := .bool true) rfl (by kernel_rfl) (by kernel_rfl) (by kernel_rfl) (fun _ _ _ h => h) (Or.inl ⟨by rfl, fun w hw => by go_simp⟩) (by assumption) ?_
      simp only [Act.put, List.setIfInBounds_toArray, List.set_cons_zero, List.set_cons_succ]
      refine wpAnyH_take (i := 18) (oi := ⟨some 62, _, _, _, _, _⟩) (v := .bool true) rfl (by kernel_rfl) (by kernel_rfl) (by kernel_rfl) (fun _ _ _ h => h) (Or.inl ⟨by rfl, fun w hw => by go_simp⟩) (by assumption) ?_
      simp only [Act.put, List.setIfInBounds_toArray, List.set_cons_zero, List.set_cons_succ]
      refine wpAnyH_take (i := 19) (oi := ⟨some 63, _, _, _, _, _⟩) (v := .pointer (some ⟨ob, 2, none⟩)) rfl (by kernel_rfl) (by kernel_rfl) (by kernel_rfl) (fun _ _ _ h => h) (Or.inl ⟨by rfl, fun w hw => by go_simp⟩) (by assumption) ?_
      simp only [Act.put, List.setIfInBounds_toArray, List.set_cons_zero, List.set_cons_succ]
      refine wpAnyH_take (i := 20) (oi := ⟨some 64, _, _, _, _, _⟩) (v := .slice x.a x.p.sec.length x.c) rfl (by kernel_rfl) (by kernel_rfl) (by kernel_rfl) (fun _ _ _ h => h) (Or.inl ⟨by rfl, fun w hw => by go_simp⟩) (by assumption) ?_
      simp only [Act.put, List.setIfInBounds_toArray, List.set_cons_zero, List.set_cons_succ]
      refine wpAnyH_take (i := 21) (oi := ⟨some 65, _, _, _, _, _⟩) (v := .slice (some ⟨ga, oa, none⟩) rs.length vc) rfl (by kernel_rfl) (by kernel_rfl) (by kernel_rfl) (fun _ _ _ h => h) (Or.inl ⟨by rfl, fun w hw => by go_simp⟩) (by assumption) ?_
      simp only [Act.put, List.setIfInBounds_toArray, List.set_cons_zero, List.set_cons_succ]
      refine wpAnyH_take (i := 22) (oi := ⟨some 66, _, _, _, _, _⟩) (v := .int .i64 (nn : Int)) rfl (by kernel_rfl) (by kernel_rfl) (by kernel_rfl) (fun _ _ _ h => h) (Or.inl ⟨by rfl, fun w hw => by go_simp⟩) (by assumption) ?_
      simp only [Act.put, List.setIfInBounds_toArray, List.set_cons_zero, List.set_cons_succ]
      refine wpAnyH_take (i := 23) (oi := ⟨some 67, _, _, _, _, _⟩) (v := .slice (some ⟨ga, oa, none⟩) nn vc) rfl (by kernel_rfl) (by kernel_rfl) (by kernel_rfl) (fun _ _ _ h => h) (Or.inl ⟨by rfl, fun w hw => by go_simp <;> first | omega | (intro hh; omega)⟩) (by assumption) ?_
      simp only [Act.put, List.setIfInBounds_toArray, List.set_cons_zero, List.set_cons_succ]
      refine wpAnyH_take (i := 25) (oi := ⟨some 69, _, _, _, _, _⟩) (v := .slice (some ⟨ga, oa, none⟩) rs.length vc) rfl (by kernel_rfl) (by kernel_rfl) (by kernel_rfl) (fun _ _ _ h => h) (Or.inl ⟨by rfl, fun w hw => by go_simp⟩) (by assumption) ?_
      simp only [Act.put, List.setIfInBounds_toArray, List.set_cons_zero, List.set_cons_succ]
      refine wpAnyH_take (i := 26) (oi := ⟨some 70, _, _, _, _, _⟩) (v := .int .i64 (nn : Int)) rfl (by kernel_rfl) (by kernel_rfl) (by kernel_rfl) (fun _ _ _ h => h) (Or.inl ⟨by rfl, fun w hw => by go_simp⟩) (by assumption) ?_
      simp only [Act.put, List.setIfInBounds_toArray, List.set_cons_zero, List.set_cons_succ]
      refine wpAnyH_take (i := 27) (oi := ⟨some 71, _, _, _, _, _⟩) (v := .slice (some ⟨ga, oa + nn, none⟩) (rs.length - nn) (vc - nn)) rfl (by kernel_rfl) (by kernel_rfl) (by kernel_rfl) (fun _ _ _ h => h) (Or.inl ⟨by rfl, fun w hw => by go_simp <;> first | omega | (intro hh; omega)⟩) (by assumption) ?_
      simp only [Act.put, List.setIfInBounds_toArray, List.set_cons_zero, List.set_cons_succ]
      refine wpAnyH_ready (rs := [24]) (by kernel_rfl) (by simp) ?_
      refine AllReadyH.cons rfl (fun K hK => ?_) AllReadyH.nil
      go_simp
      refine Calls.mono (HKY.out _ hHeld) ?_
      rintro e w4 ⟨v4, rfl, hb4⟩
      have hs4 := hHeld.trans hb4.t
      have HA4 : Hid (ArgAt w4 v4 (keyedB x.p.sec (rs.take nn))) := hb4.arg
      refine hK.out _ _ hs4 (fun _ => ?_)
      clear hK K hb4
      refine wpAnyH_ready (rs := [28]) (by kernel_rfl) (by simp) ?_
      refine AllReadyH.cons rfl (fun K hK => ?_) AllReadyH.nil
      go_simp
      refine Calls.mono (HSM.out _ _ hs4 HA4.out) ?_
      rintro e w5 ⟨rfl, t5⟩
      have hs5 := hs4.trans t5
      generalize decide (keyedB x.p.sec (rs.take nn) = rs.drop nn) = B at HDK ⊢
      refine hK.out _ _ hs5 (fun _ => ?_)
      clear hK K t5 HA4 HKY HSM
      have TQ : Hid (Touch (fun _ => False) w w5) := TA.out.trans hs5.t
      refine wpAnyH_take (i := 29) (oi := ⟨some 73, _, _, _, _, _⟩) (v := .bool B) rfl (by kernel_rfl) (by kernel_rfl) (by kernel_rfl) (fun _ _ _ h => h) (Or.inl ⟨by rfl, fun w hw => by go_simp⟩) (by assumption) ?_
      simp only [Act.put, List.setIfInBounds_toArray, List.set_cons_zero, List.set_cons_succ]
      refine wpAnyH_done (by kernel_rfl) ?_ _
      cases B
      · have HN2 : Hid _ := HN.out HDK.out
        clear c0 c2 c5 c6 cb HN
        go_wp2_with fail
        go_roundg (ks.length - (k + 1))
        case measure => omega
        case rel => exact ⟨k + 1, by omega, by omega, by go_num, TQ.out, HN2.out⟩
      · obtain ⟨rfl, hSS, rfl⟩ := HT.out x (List.mem_of_getElem? HX.out) HDK.out
        have HSS : Hid (SS = 16777216 * rs.getD 20 0 + 65536 * rs.getD 21 0 + 256 * rs.getD 22 0 + rs.getD 23 0) := hSS
        clear hSS HT HF
        have c20 := aft_cell (rowAt_cell (HV.out _ TQ.out) 20 (by omega))
        have c21 := aft_cell (rowAt_cell (HV.out _ TQ.out) 21 (by omega))
        have c22 := aft_cell (rowAt_cell (HV.out _ TQ.out) 22 (by omega))
        have c23 := aft_cell (rowAt_cell (HV.out _ TQ.out) 23 (by omega))
        have b20 := getD_byte HBY.out 20 (by omega)
        have b21 := getD_byte HBY.out 21 (by omega)
        have b22 := getD_byte HBY.out 22 (by omega)
        have b23 := getD_byte HBY.out 23 (by omega)
        clear c0 c2 c5 c6 cb HN
        generalize rs.getD 20 0 = G20 at *
        generalize rs.getD 21 0 = G21 at *
        generalize rs.getD 22 0 = G22 at *
        generalize rs.getD 23 0 = G23 at *
        have hbits := bits_four b20 b21 b22 b23
        go_upto_region 10 with fail
        refine wp_region_aft (by kernel_rfl) (by kernel_rfl) ?_
        repeat (first | go_big_quiet_skip | (go_big_quiet_want; go_big_quiet_op; first | go_big_quiet_on | (refine Exists.intro _ ⟨fun _ => rfl, ?_⟩; go_big_quiet_on)))
        refine wpQuiet_nil ?_
        rintro wq ⟨⟨_, hgq⟩, rfl⟩
        go_wp2_with fail
        go_ret3
        exact ⟨by rw [HSS.out]; rfl, TQ.out.trans hgq⟩
    · have hlt' : ¬ (k : Int) < (ks.length : Int) := by omega
      obtain ⟨rfl, rfl, rfl⟩ := HF.out (fun j x hj hx => HP.out j x (by omega) hx)
      go_wp2_with fail
      go_ret3
      exact ⟨rfl, TR.out⟩
end Go.Proofs.YthilfealloakdaaGreat
