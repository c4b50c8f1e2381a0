/- The document: Open, its loop. -/
import Derived.Test.YthilfealloakdaaGreatAuRO3a
import Derived.Test.YthilfealloakdaaGreatDigBuf
import Derived.Test.YthilfealloakdaaGreatDigSame
import Derived.Test.YthilfealloakdaaGreatNumB
import Derived.Deep.LoopGhost
import Derived.Deep.RegionHeld3
namespace Go.Proofs.YthilfealloakdaaGreat
open Go.RowKit
set_option linter.unusedVariables false
set_option maxRecDepth 100000

set_option maxHeartbeats 400000 in
theorem ropen_null (va ka : Option Addr) (n vc kc : Nat) (now PN : Int) (w : World) (HL : Hid (∀ w', Touch (fun _ => False) w w' → Calls Tryz.prog 27 #[.slice va n vc] w' fun e w'' => e = .returned (.tuple #[.int .i64 PN, .int .i64 0]) ∧ Touch (fun _ => False) w' w'')) (HI : Hid (∀ w', Touch (fun _ => False) w w' → Calls Tryz.prog 29 #[.slice va n vc] w' fun e w'' => e = .returned (.int .i64 0) ∧ Touch (fun _ => False) w' w'')) (HP : Hid (∀ w', Touch (fun _ => False) w w' → Calls Tryz.prog 31 #[.slice va n vc, .int .i64 PN] w' fun e w'' => e = .returned (.int .i64 0) ∧ Touch (fun _ => False) w' w'')) :
    Calls Tryz.prog 11 #[.slice va n vc, .slice ka 0 kc, .int .i64 now] w fun e w' => e = .returned (.tuple #[.int .u32 0, .int .i64 PN, .int .i64 0]) ∧ Touch (fun _ => False) w w' := by
  go_enter Tryz.func11, Tryz.ntmps11
  go_wp2_with fail
  refine (HL.out _ (Touch.refl _ _)).mono ?_
  rintro e w1 ⟨rfl, t1⟩
  have T1 : Touch (fun _ => False) w w1 := t1
  go_wp2_with fail
  refine (HI.out _ T1).mono ?_
  rintro e w2 ⟨rfl, t2⟩
  have T2 : Touch (fun _ => False) w w2 := (T1).trans t2
  go_wp2_with fail
  refine (HP.out _ T2).mono ?_
  rintro e w3 ⟨rfl, t3⟩
  have T3 : Touch (fun _ => False) w w3 := (T2).trans t3
  have HT3 : Hid (Touch (fun _ => False) w w3) := T3
  clear t1 t2 t3 T1 T2 T3 HL HI HP
  go_wp2_with fail
  go_loopg [12] 1 (fun gg s12 wr => s12 = .int .i64 0 ∧ wr = w3)
  case atStart => exact ⟨rfl, rfl⟩
  case round =>
    obtain ⟨rfl, rfl⟩ := hrel
    go_wp2_with fail
    go_ret3
    exact ⟨rfl, HT3.out⟩
set_option maxHeartbeats 1000000 in
theorem ropen_loop (rs : List Int) (ga oa vc kc : Nat) (ka : Option Addr) (ks : List KE) (now PN CI EE NN : Int) (w : World) (hn24 : 24 ≤ rs.length) (hn : rs.length ≤ 1000000) (hlc : rs.length ≤ vc) (hvc : (vc : Int) ≤ 9223372036854775807) (hkl : ks.length ≤ 1000000) (hk0 : 0 < ks.length) (hks : ∀ x ∈ ks, x.p.sec.length ≤ 1000000)
    (HV : Hid (∀ w', Touch (fun _ => False) w w' → RowAt w' (.slice (some ⟨ga, oa, none⟩) rs.length vc) rs)) (HC : Hid (∀ w', Touch (fun _ => False) w w' → ChainAt w' (.slice ka ks.length kc) ks))
    (h01 : ∀ x, ks[0]? = some x → x.p.kind = 1)
    (HL : Hid (∀ w', Touch (fun _ => False) w w' → Calls Tryz.prog 27 #[.slice (some ⟨ga, oa, none⟩) rs.length vc] w' fun e w'' => e = .returned (.tuple #[.int .i64 PN, .int .i64 0]) ∧ Touch (fun _ => False) w' w'')) (HK : Hid (∀ w', Touch (fun _ => False) w w' → Calls Tryz.prog 28 #[.slice ka ks.length kc] w' fun e w'' => e = .returned (.tuple #[.int .i64 0, .int .i64 CI]) ∧ Touch (fun _ => False) w' w'')) (HI : Hid (∀ w', Touch (fun _ => False) w w' → Calls Tryz.prog 29 #[.slice (some ⟨ga, oa, none⟩) rs.length vc] w' fun e w'' => e = .returned (.int .i64 1) ∧ Touch (fun _ => False) w' w'')) (HP : Hid (∀ w', Touch (fun _ => False) w w' → Calls Tryz.prog 31 #[.slice (some ⟨ga, oa, none⟩) rs.length vc, .int .i64 PN] w' fun e w'' => e = .returned (.int .i64 0) ∧ Touch (fun _ => False) w' w''))
    (HF : Hid ((∀ (j : Nat) x, j < ks.length → ks[j]? = some x → (x.p.takes now && decide (passB x.p.sec = dataB rs)) = false) → EE = 26 ∧ NN = 0))
    (HT : Hid (∀ x, x ∈ ks → (x.p.takes now && decide (passB x.p.sec = dataB rs)) = true → EE = 0 ∧ NN = PN)) :
    Calls Tryz.prog 11 #[.slice (some ⟨ga, oa, none⟩) rs.length vc, .slice ka ks.length kc, .int .i64 now] w fun e w' => e = .returned (.tuple #[.int .u32 0, .int .i64 NN, .int .i64 EE]) ∧ Touch (fun _ => False) w w' := by
  have hkn : (0 : Int) < (ks.length : Int) := by omega
  have hl24 : (24 : Int) ≤ (rs.length : Int) := by omega
  have hlc' : (rs.length : Int) ≤ (vc : Int) := by omega
  have hv24 : (24 : Int) ≤ (vc : Int) := by omega
  have hv16 : ¬ vc = 16 := by omega
  have HKS : Hid (∀ x ∈ ks, x.p.sec.length ≤ 1000000) := hks
  obtain ⟨gR, off, rfl⟩ : ∃ gk ok, ka = some ⟨gk, ok, none⟩ := by
    obtain ⟨-, g, o, c, e, -⟩ := ChainAt.one (HC.out w (Touch.refl _ _)) (List.getElem?_eq_getElem hk0)
    cases e
    exact ⟨_, _, rfl⟩
  have HC1 : Hid (∀ w', Touch (fun _ => False) w w' → w'.cell? ⟨gR, off + 1, none⟩ = some (.int .u16 1)) := fun w' t => by
    obtain ⟨-, g, o, c, e, hcell⟩ := ChainAt.one (HC.out w' t) (List.getElem?_eq_getElem hk0)
    cases e
    have := hcell 1 _ rfl
    rw [h01 _ (List.getElem?_eq_getElem hk0)] at this
    simpa using this
  clear hks h01
  go_enter Tryz.func11, Tryz.ntmps11
  go_wp2_with fail
  refine (HL.out _ (Touch.refl _ _)).mono ?_
  rintro e w1 ⟨rfl, t1⟩
  have T1 : Touch (fun _ => False) w w1 := t1
  go_wp2_with fail
  refine (HK.out _ T1).mono ?_
  rintro e w2 ⟨rfl, t2⟩
  have T2 : Touch (fun _ => False) w w2 := (T1).trans t2
  have c2 := HC1.out _ T2
  go_wp2_with fail
  refine (HI.out _ T2).mono ?_
  rintro e w3 ⟨rfl, t3⟩
  have T3 : Touch (fun _ => False) w w3 := (T2).trans t3
  clear c2
  go_wp2_with fail
  refine (HP.out _ T3).mono ?_
  rintro e w4 ⟨rfl, t4⟩
  have T4 : Touch (fun _ => False) w w4 := (T3).trans t4
  have HT4 : Hid (Touch (fun _ => False) w w4) := T4
  clear t1 t2 t3 t4 T1 T2 T3 T4 HL HK HI HP HC1
  go_wp2_with fail
  go_loopg [12] ks.length (fun gg s12 wr => DgR ks w (fun x => x.p.takes now && decide (passB x.p.sec = dataB rs)) gg s12 wr)
  case atStart => exact ⟨0, by omega, by omega, rfl, HT4.out, fun j x h => by omega⟩
  case round =>
    obtain ⟨k, hk, hg, rfl, tr, hpre⟩ := hrel.out
    have TR : Hid (Touch (fun _ => False) w wr) := tr
    have HP : Hid (∀ j x, j < k → ks[j]? = some x → (x.p.takes now && decide (passB x.p.sec = dataB rs)) = false) := hpre
    clear tr hrel hpre HT4
    by_cases hlt : k < ks.length
    · have hlt' : (k : Int) < (ks.length : Int) := by omega
      have hk00 : (0 : Int) ≤ (k : Int) := by omega
      have hkw : wrap64 ((k : Int) + 1) = (k : Int) + 1 := by unfold wrap64; omega
      obtain ⟨x, hx⟩ : ∃ x, ks[k]? = some x := ⟨ks[k], by simp [hlt]⟩
      obtain ⟨ox, gR', off', cR, eR, hcell⟩ := ChainAt.one (HC.out wr TR.out) hx
      cases eR
      have e0 : wr.cell? ⟨gR, off + k * 7, none⟩ = some (.int .u8 x.p.id) := by exact hcell 0 _ rfl
      have e1 : wr.cell? ⟨gR, off + k * 7 + 1, none⟩ = some (.int .u16 x.p.kind) := by rw [Nat.add_assoc]; exact hcell 1 _ rfl
      have e2 : wr.cell? ⟨gR, off + k * 7 + 2, none⟩ = some (.slice x.a x.p.sec.length x.c) := by rw [Nat.add_assoc]; exact hcell 2 _ rfl
      have e3 : wr.cell? ⟨gR, off + k * 7 + 3, none⟩ = some (.int .i64 x.p.sf) := by rw [Nat.add_assoc]; exact hcell 3 _ rfl
      have e4 : wr.cell? ⟨gR, off + k * 7 + 4, none⟩ = some (.int .i64 x.p.su) := by rw [Nat.add_assoc]; exact hcell 4 _ rfl
      have e5 : wr.cell? ⟨gR, off + k * 7 + 5, none⟩ = some (.int .i64 x.p.tf) := by rw [Nat.add_assoc]; exact hcell 5 _ rfl
      have e6 : wr.cell? ⟨gR, off + k * 7 + 6, none⟩ = some (.int .i64 x.p.tu) := by rw [Nat.add_assoc]; exact hcell 6 _ rfl
      have HX : Hid (ks[k]? = some x) := hx
      have HN : Hid ((x.p.takes now && decide (passB x.p.sec = dataB rs)) = false → ∀ j y, j < k + 1 → ks[j]? = some y → (y.p.takes now && decide (passB y.p.sec = dataB rs)) = false) := fun h j y hj hy => by
        by_cases e : j = k
        · subst e; rw [HX.out] at hy; cases hy; exact h
        · exact HP.out j y (by omega) hy
      have OX : Hid (x.Ok wr) := ox
      clear hcell hx HP ox
      go_upto_region 20 with fail
      by_cases hf : x.p.tf ≤ now
      rotate_left
      · replace HN := HN.out (by simp [AKP.takes, hf])
        have HN : Hid _ := HN
        have c5 := aft_cell e5
        have c6 := aft_cell e6
        refine wp_region_aft (by kernel_rfl) (by kernel_rfl) ?_
        repeat (first | go_big_quiet_skip | (go_big_quiet_want; go_big_quiet_op; first | go_big_quiet_on | (refine Exists.intro _ ⟨fun _ => rfl, ?_⟩; go_big_quiet_on)))
        refine wpQuiet_nil ?_
        rintro wq ⟨⟨_, hgq⟩, rfl⟩
        have TQ : Hid (Touch (fun _ => False) w wq) := TR.out.trans hgq
        clear c5 c6 hgq e0 e1 e2 e3 e4 e5 e6
        go_wp2_with fail
        go_roundg (ks.length - (k + 1))
        case measure => omega
        case rel => exact ⟨k + 1, by omega, by omega, by go_num, TQ.out, HN.out⟩
      by_cases hu : now ≤ x.p.tu
      rotate_left
      · replace HN := HN.out (by simp [AKP.takes, hu])
        have HN : Hid _ := HN
        have c5 := aft_cell e5
        have c6 := aft_cell e6
        refine wp_region_aft (by kernel_rfl) (by kernel_rfl) ?_
        repeat (first | go_big_quiet_skip | (go_big_quiet_want; go_big_quiet_op; first | go_big_quiet_on | (refine Exists.intro _ ⟨fun _ => rfl, ?_⟩; go_big_quiet_on)))
        refine wpQuiet_nil ?_
        rintro wq ⟨⟨_, hgq⟩, rfl⟩
        have TQ : Hid (Touch (fun _ => False) w wq) := TR.out.trans hgq
        clear c5 c6 hgq e0 e1 e2 e3 e4 e5 e6
        go_wp2_with fail
        go_roundg (ks.length - (k + 1))
        case measure => omega
        case rel => exact ⟨k + 1, by omega, by omega, by go_num, TQ.out, HN.out⟩
      have hS : SnA wr wr.drew := SnA.start wr
      have c0 := snA_cell e0
      have c1 := snA_cell e1
      have c2 := snA_cell e2
      have c3 := snA_cell e3
      have c4 := snA_cell e4
      have c5 := snA_cell e5
      have c6 := snA_cell e6
      have HPW : Hid (∀ w', SnA wr w' → Calls Tryz.prog 33 #[x.agg] w' fun e w'' => ∃ v', e = .returned v' ∧ ArgAt w'' v' (passB x.p.sec) ∧ Touch (fun _ => False) w' w'') := fun w' t => rpass_any x w' (OX.out.keep t.t) (HKS.out x (List.mem_of_getElem? HX.out))
      have HSM : Hid (∀ w' v', SnA wr w' → ArgAt w' v' (passB x.p.sec) → Calls Tryz.prog 32 #[v', .slice (some ⟨ga, oa + 16, none⟩) 8 (vc - 16)] w' fun e w'' => e = .returned (.bool (decide (passB x.p.sec = dataB rs))) ∧ Touch (fun _ => False) w' w'') := fun w' v' t ha => rsame_any _ _ _ _ w' ha (take_row (drop_row (HV.out w' (TR.out.trans t.t)) 16 (by omega)) 8 (by omega)).arg
      have HDK : Hid ((x.p.takes now && decide (passB x.p.sec = dataB rs)) = decide (passB x.p.sec = dataB rs)) := by
        show _ = _
        have e1 : x.p.takes now = true := by simp only [AKP.takes, decide_eq_true_eq]; exact ⟨hf, hu⟩
        rw [e1, Bool.true_and]
      refine wp_region_held_drew (S := fun w' => SnA wr w') (by kernel_rfl) hS (fun hHeld => ?_)
      refine wpAnyH_take (i := 0) (oi := ⟨some 62, _, _, _, _, _⟩) (v := .int .i64 now) rfl (by kernel_rfl) (by kernel_rfl) (by kernel_rfl) (fun _ _ _ h => h) (Or.inl ⟨by rfl, fun w hw => by go_simp⟩) (by assumption) ?_
      simp only [Act.put, List.setIfInBounds_toArray, List.set_cons_zero, List.set_cons_succ]
      refine wpAnyH_take (i := 1) (oi := ⟨some 63, _, _, _, _, _⟩) (v := .slice (some ⟨gR, off, none⟩) ks.length kc) rfl (by kernel_rfl) (by kernel_rfl) (by kernel_rfl) (fun _ _ _ h => h) (Or.inl ⟨by rfl, fun w hw => by go_simp⟩) (by assumption) ?_
      simp only [Act.put, List.setIfInBounds_toArray, List.set_cons_zero, List.set_cons_succ]
      refine wpAnyH_take (i := 2) (oi := ⟨some 64, _, _, _, _, _⟩) (v := .int .i64 (k : Int)) rfl (by kernel_rfl) (by kernel_rfl) (by kernel_rfl) (fun _ _ _ h => h) (Or.inl ⟨by rfl, fun w hw => by go_simp⟩) (by assumption) ?_
      simp only [Act.put, List.setIfInBounds_toArray, List.set_cons_zero, List.set_cons_succ]
      refine wpAnyH_take (i := 3) (oi := ⟨some 65, _, _, _, _, _⟩) (v := .pointer (some ⟨gR, off + k * 7, none⟩)) rfl (by kernel_rfl) (by kernel_rfl) (by kernel_rfl) (fun _ _ _ h => h) (Or.inl ⟨by rfl, fun w hw => by go_simp <;> first | omega | (intro hh; omega) | (rw [if_pos (by omega), if_neg (by omega)])⟩) (by assumption) ?_
      simp only [Act.put, List.setIfInBounds_toArray, List.set_cons_zero, List.set_cons_succ]
      refine wpAnyH_take (i := 4) (oi := ⟨some 66, _, _, _, _, _⟩) (v := .pointer (some ⟨gR, off + k * 7 + 5, none⟩)) rfl (by kernel_rfl) (by kernel_rfl) (by kernel_rfl) (fun _ _ _ h => h) (Or.inl ⟨by rfl, fun w hw => by go_simp⟩) (by assumption) ?_
      simp only [Act.put, List.setIfInBounds_toArray, List.set_cons_zero, List.set_cons_succ]
      refine wpAnyH_take (i := 5) (oi := ⟨some 67, _, _, _, _, _⟩) (v := .int .i64 x.p.tf) rfl (by kernel_rfl) (by kernel_rfl) (by kernel_rfl) (fun _ _ _ h => h) (Or.inl ⟨by rfl, fun w hw => by go_simp⟩) (by assumption) ?_
      simp only [Act.put, List.setIfInBounds_toArray, List.set_cons_zero, List.set_cons_succ]
      refine wpAnyH_take (i := 6) (oi := ⟨some 68, _, _, _, _, _⟩) (v := .bool true) rfl (by kernel_rfl) (by kernel_rfl) (by kernel_rfl) (fun _ _ _ h => h) (Or.inl ⟨by rfl, fun w hw => by go_simp⟩) (by assumption) ?_
      simp only [Act.put, List.setIfInBounds_toArray, List.set_cons_zero, List.set_cons_succ]
      refine wpAnyH_take (i := 7) (oi := ⟨some 69, _, _, _, _, _⟩) (v := .bool true) rfl (by kernel_rfl) (by kernel_rfl) (by kernel_rfl) (fun _ _ _ h => h) (Or.inl ⟨by rfl, fun w hw => by go_simp⟩) (by assumption) ?_
      simp only [Act.put, List.setIfInBounds_toArray, List.set_cons_zero, List.set_cons_succ]
      refine wpAnyH_take (i := 8) (oi := ⟨some 70, _, _, _, _, _⟩) (v := .int .i64 now) rfl (by kernel_rfl) (by kernel_rfl) (by kernel_rfl) (fun _ _ _ h => h) (Or.inl ⟨by rfl, fun w hw => by go_simp⟩) (by assumption) ?_
      simp only [Act.put, List.setIfInBounds_toArray, List.set_cons_zero, List.set_cons_succ]
      refine wpAnyH_take (i := 9) (oi := ⟨some 71, _, _, _, _, _⟩) (v := .slice (some ⟨gR, off, none⟩) ks.length kc) rfl (by kernel_rfl) (by kernel_rfl) (by kernel_rfl) (fun _ _ _ h => h) (Or.inl ⟨by rfl, fun w hw => by go_simp⟩) (by assumption) ?_
      simp only [Act.put, List.setIfInBounds_toArray, List.set_cons_zero, List.set_cons_succ]
      refine wpAnyH_take (i := 10) (oi := ⟨some 72, _, _, _, _, _⟩) (v := .int .i64 (k : Int)) rfl (by kernel_rfl) (by kernel_rfl) (by kernel_rfl) (fun _ _ _ h => h) (Or.inl ⟨by rfl, fun w hw => by go_simp⟩) (by assumption) ?_
      simp only [Act.put, List.setIfInBounds_toArray, List.set_cons_zero, List.set_cons_succ]
      refine wpAnyH_take (i := 11) (oi := ⟨some 73, _, _, _, _, _⟩) (v := .pointer (some ⟨gR, off + k * 7, none⟩)) rfl (by kernel_rfl) (by kernel_rfl) (by kernel_rfl) (fun _ _ _ h => h) (Or.inl ⟨by rfl, fun w hw => by go_simp <;> first | omega | (intro hh; omega) | (rw [if_pos (by omega), if_neg (by omega)])⟩) (by assumption) ?_
      simp only [Act.put, List.setIfInBounds_toArray, List.set_cons_zero, List.set_cons_succ]
      refine wpAnyH_take (i := 12) (oi := ⟨some 74, _, _, _, _, _⟩) (v := .pointer (some ⟨gR, off + k * 7 + 6, none⟩)) rfl (by kernel_rfl) (by kernel_rfl) (by kernel_rfl) (fun _ _ _ h => h) (Or.inl ⟨by rfl, fun w hw => by go_simp⟩) (by assumption) ?_
      simp only [Act.put, List.setIfInBounds_toArray, List.set_cons_zero, List.set_cons_succ]
      refine wpAnyH_take (i := 13) (oi := ⟨some 75, _, _, _, _, _⟩) (v := .int .i64 x.p.tu) rfl (by kernel_rfl) (by kernel_rfl) (by kernel_rfl) (fun _ _ _ h => h) (Or.inl ⟨by rfl, fun w hw => by go_simp⟩) (by assumption) ?_
      simp only [Act.put, List.setIfInBounds_toArray, List.set_cons_zero, List.set_cons_succ]
      refine wpAnyH_take (i := 14) (oi := ⟨some 76, _, _, _, _, _⟩) (v := .bool true) rfl (by kernel_rfl) (by kernel_rfl) (by kernel_rfl) (fun _ _ _ h => h) (Or.inl ⟨by rfl, fun w hw => by go_simp⟩) (by assumption) ?_
      simp only [Act.put, List.setIfInBounds_toArray, List.set_cons_zero, List.set_cons_succ]
      refine wpAnyH_take (i := 15) (oi := ⟨some 77, _, _, _, _, _⟩) (v := .bool true) rfl (by kernel_rfl) (by kernel_rfl) (by kernel_rfl) (fun _ _ _ h => h) (Or.inl ⟨by rfl, fun w hw => by go_simp⟩) (by assumption) ?_
      simp only [Act.put, List.setIfInBounds_toArray, List.set_cons_zero, List.set_cons_succ]
      refine wpAnyH_take (i := 16) (oi := ⟨some 78, _, _, _, _, _⟩) (v := .bool true) rfl (by kernel_rfl) (by kernel_rfl) (by kernel_rfl) (fun _ _ _ h => h) (Or.inl ⟨by rfl, fun w hw => by go_simp⟩) (by assumption) ?_
      simp only [Act.put, List.setIfInBounds_toArray, List.set_cons_zero, List.set_cons_succ]
      refine wpAnyH_take (i := 17) (oi := ⟨some 79, _, _, _, _, _⟩) (v := .slice (some ⟨gR, off, none⟩) ks.length kc) rfl (by kernel_rfl) (by kernel_rfl) (by kernel_rfl) (fun _ _ _ h => h) (Or.inl ⟨by rfl, fun w hw => by go_simp⟩) (by assumption) ?_
      simp only [Act.put, List.setIfInBounds_toArray, List.set_cons_zero, List.set_cons_succ]
      refine wpAnyH_take (i := 18) (oi := ⟨some 80, _, _, _, _, _⟩) (v := .int .i64 (k : Int)) rfl (by kernel_rfl) (by kernel_rfl) (by kernel_rfl) (fun _ _ _ h => h) (Or.inl ⟨by rfl, fun w hw => by go_simp⟩) (by assumption) ?_
      simp only [Act.put, List.setIfInBounds_toArray, List.set_cons_zero, List.set_cons_succ]
      refine wpAnyH_take (i := 19) (oi := ⟨some 81, _, _, _, _, _⟩) (v := .pointer (some ⟨gR, off + k * 7, none⟩)) rfl (by kernel_rfl) (by kernel_rfl) (by kernel_rfl) (fun _ _ _ h => h) (Or.inl ⟨by rfl, fun w hw => by go_simp <;> first | omega | (intro hh; omega) | (rw [if_pos (by omega), if_neg (by omega)])⟩) (by assumption) ?_
      simp only [Act.put, List.setIfInBounds_toArray, List.set_cons_zero, List.set_cons_succ]
      refine wpAnyH_take (i := 20) (oi := ⟨some 82, _, _, _, _, _⟩) (v := .agg #[.int .u8 x.p.id, .int .u16 x.p.kind, .slice x.a x.p.sec.length x.c, .int .i64 x.p.sf, .int .i64 x.p.su, .int .i64 x.p.tf, .int .i64 x.p.tu]) rfl (by kernel_rfl) (by kernel_rfl) (by kernel_rfl) (fun _ _ _ h => h) (Or.inl ⟨by rfl, fun w hw => by go_simp⟩) (by assumption) ?_
      simp only [Act.put, List.setIfInBounds_toArray, List.set_cons_zero, List.set_cons_succ]
      refine wpAnyH_take (i := 22) (oi := ⟨some 84, _, _, _, _, _⟩) (v := .slice (some ⟨ga, oa, none⟩) rs.length vc) rfl (by kernel_rfl) (by kernel_rfl) (by kernel_rfl) (fun _ _ _ h => h) (Or.inl ⟨by rfl, fun w hw => by go_simp⟩) (by assumption) ?_
      simp only [Act.put, List.setIfInBounds_toArray, List.set_cons_zero, List.set_cons_succ]
      refine wpAnyH_take (i := 23) (oi := ⟨some 85, _, _, _, _, _⟩) (v := .slice (some ⟨ga, oa + 16, none⟩) 8 (vc - 16)) rfl (by kernel_rfl) (by kernel_rfl) (by kernel_rfl) (fun _ _ _ h => h) (Or.inl ⟨by rfl, fun w hw => by go_simp <;> first | omega | (intro hh; omega) | (rw [if_pos (by omega), if_neg (by omega)])⟩) (by assumption) ?_
      simp only [Act.put, List.setIfInBounds_toArray, List.set_cons_zero, List.set_cons_succ]
      refine wpAnyH_ready (rs := [21]) (by kernel_rfl) (by simp) ?_
      refine AllReadyH.cons rfl (fun K hK => ?_) AllReadyH.nil
      go_simp
      refine Calls.mono (HPW.out _ hHeld) ?_
      rintro e w5 ⟨v5, rfl, ha5, t5⟩
      have hs5 := hHeld.trans t5
      have HA5 : Hid (ArgAt w5 v5 (passB x.p.sec)) := ha5
      refine hK.out _ _ hs5 (fun _ => ?_)
      clear hK K t5 ha5
      refine wpAnyH_ready (rs := [24]) (by kernel_rfl) (by simp) ?_
      refine AllReadyH.cons rfl (fun K hK => ?_) AllReadyH.nil
      go_simp
      refine Calls.mono (HSM.out _ _ hs5 HA5.out) ?_
      rintro e w6 ⟨rfl, t6⟩
      have hs6 := hs5.trans t6
      obtain ⟨Bb, hBb⟩ : ∃ Bb, decide (passB x.p.sec = dataB rs) = Bb := ⟨_, rfl⟩
      rw [hBb]
      have HDK2 : Hid ((x.p.takes now && decide (passB x.p.sec = dataB rs)) = Bb) := HDK.out.trans hBb
      clear hBb HDK
      refine hK.out _ _ hs6 (fun _ => ?_)
      clear hK K t6 HA5 HPW HSM
      have TQ : Hid (Touch (fun _ => False) w w6) := TR.out.trans hs6.t
      refine wpAnyH_take (i := 25) (oi := ⟨some 87, _, _, _, _, _⟩) (v := .bool Bb) rfl (by kernel_rfl) (by kernel_rfl) (by kernel_rfl) (fun _ _ _ h => h) (Or.inl ⟨by rfl, fun w hw => by go_simp⟩) (by assumption) ?_
      simp only [Act.put, List.setIfInBounds_toArray, List.set_cons_zero, List.set_cons_succ]
      refine wpAnyH_done (by kernel_rfl) ?_ _
      cases Bb
      · have HN2 : Hid _ := HN.out HDK2.out
        clear c0 c1 c2 c3 c4 c5 c6 HN e0 e1 e2 e3 e4 e5 e6
        go_wp2_with fail
        go_roundg (ks.length - (k + 1))
        case measure => omega
        case rel => exact ⟨k + 1, by omega, by omega, by go_num, TQ.out, HN2.out⟩
      · obtain ⟨rfl, rfl⟩ := HT.out x (List.mem_of_getElem? HX.out) HDK2.out
        clear c0 c1 c2 c3 c4 c5 c6 HN e0 e1 e2 e3 e4 e5 e6
        go_wp2_with fail
        go_ret3
        exact ⟨rfl, TQ.out⟩
    · have hlt' : ¬ (k : Int) < (ks.length : Int) := by omega
      obtain ⟨rfl, rfl⟩ := HF.out (fun j x hj hx => HP.out j x (by omega) hx)
      go_wp2_with fail
      go_ret3
      exact ⟨rfl, TR.out⟩
end Go.Proofs.YthilfealloakdaaGreat
