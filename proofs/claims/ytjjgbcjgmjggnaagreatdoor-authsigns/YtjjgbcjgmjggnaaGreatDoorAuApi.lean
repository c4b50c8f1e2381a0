/- Open and Sign, every way. -/
import Derived.Test.YtjjgbcjgmjggnaaGreatDoorAuOpen
namespace Go.Proofs.YtjjgbcjgmjggnaaGreatDoor
open Go.RowKit Go.Shelf
set_option linter.unusedVariables false
set_option maxRecDepth 100000

theorem chain_sec {ks : List KE} (h : achE (pureL ks) = 0) : ∀ x ∈ ks, 0 < x.p.sec.length := by
  intro x hx
  obtain ⟨j, hj, rfl⟩ := List.getElem_of_mem hx
  have hb := (chk_ok h).2 j (by simpa using hj)
  have := badAt_ok (ks := pureL ks) (k := ks[j].p) (by rw [List.getElem?_map, List.getElem?_eq_getElem hj]; rfl) hb
  have := (AKP.may_iff.1 this.1).2
  omega
theorem open_any (v vk : Value) (rs : List Int) (nn : Nat) (ks : List KE) (now : Int) (w : World) (hv : ArgAt w v rs) (hby : ∀ z ∈ rs, 0 ≤ z ∧ z < 256) (hn : rs.length ≤ 1000000) (P : PLen rs) (hT : pTold rs = (nn : Int)) (hc : ChainAt w vk ks) (hl : ks.length ≤ 1000000) :
    Calls Tryz.prog 52 #[v, .int .i64 nn, vk, .int .i64 now] w fun e w' => e = .returned (.tuple #[.int .u32 (openS0 rs nn (pureL ks) now), .int .i64 (openE0 rs nn (pureL ks) now)]) ∧ Touch (fun _ => False) w w' := by
  have HCK := achk_any vk ks w hc
  have HSD : Hid (∀ w', Touch (fun _ => False) w w' → Calls Tryz.prog 53 #[v] w' fun e w'' => e = .returned (.tuple #[.int .u16 (kindB rs), .agg (bytesOf (dataB rs)).toArray]) ∧ Touch (fun _ => False) w' w'') := fun w' t => said_any v rs w' (hv.keep t (fun _ _ h => h)) hby P.l hn
  have HKO : Hid (∀ w', Touch (fun _ => False) w w' → Calls Tryz.prog 77 #[vk] w' fun e w'' => e = .returned (.int .u16 (kindOfL (pureL ks))) ∧ w' = w'') := fun w' t => kindOf_any vk ks w' (hc.keep t)
  have HWH : Hid (∀ w', Touch (fun _ => False) w w' → Calls Tryz.prog 81 #[v, .int .i64 nn] w' fun e w'' => e = .returned (.int .i64 (wholeE rs nn)) ∧ Touch (fun _ => False) w' w'') := fun w' t => whole_pk v rs nn w' (hv.keep t (fun _ _ h => h)) hby hn
  have hOl' : (bytesOf (dataB rs)).length = 8 := by rw [length_bytesOf, length_dataB P.l]
  have hO1 := oneCell_bytesOf (dataB rs)
  have hdb : ∀ z ∈ dataB rs, 0 ≤ z ∧ z < 256 := fun z hz => hby z (List.mem_of_mem_drop (List.mem_of_mem_take hz))
  have hnn : nn ≤ rs.length := by have := P.n; omega
  have hrl := P.l
  obtain ⟨va, vc, rfl, -⟩ := hv.form
  obtain ⟨ka, kc, rfl, -⟩ := ValsAt.form hc.vals
  by_cases hE : achE (pureL ks) = 0
  · have hss := chain_sec hE
    have hI : achI (pureL ks) = 0 := by
      have := chk_ok hE
      exact (chk_good this.1 this.2).2
    rw [hE, hI] at HCK
    by_cases hK : kindB rs = kindOfL (pureL ks)
    · by_cases h1 : kindB rs = 1
      · have e1 : openE0 rs nn (pureL ks) now = openPl rs nn (dataB rs) (pureL ks) now := by unfold openE0; rw [if_neg (fun h => h hE), if_neg (fun h => h hK), if_pos h1]
        have e2 : openS0 rs nn (pureL ks) now = 0 := by unfold openS0; rw [if_neg (fun h => h hE), if_neg (fun h => h hK), if_pos h1]
        rw [e1, e2]
        refine open_plain va ka vc kc rs.length nn ks now (kindB rs) (kindOfL (pureL ks)) _ 0 (bytesOf (dataB rs)) w h1 (by rw [← hK, h1]) hOl' hO1 HCK HSD HKO ?_
        exact fun w' b0 b1 b2 t c0 c1 c2 => openPlain_any _ rs nn (dataB rs) ka kc ks now b0 b1 b2 w' (hv.keep t (fun _ _ h => h)) hby hn (length_dataB hrl) hdb (hc.keep t) hl hss c0 c1 c2
      · by_cases h2 : kindB rs = 2
        · have e1 : openE0 rs nn (pureL ks) now = openDgE rs nn (dataB rs) (pureL ks) now := by unfold openE0; rw [if_neg (fun h => h hE), if_neg (fun h => h hK), if_neg h1, if_pos h2]
          have e2 : openS0 rs nn (pureL ks) now = openDgS rs nn (dataB rs) (pureL ks) now := by unfold openS0; rw [if_neg (fun h => h hE), if_neg (fun h => h hK), if_neg h1, if_pos h2]
          rw [e1, e2]
          refine open_digest va ka vc kc rs.length nn ks now (kindB rs) (kindOfL (pureL ks)) _ _ (bytesOf (dataB rs)) w h2 (by rw [← hK, h2]) hOl' hO1 HCK HSD HKO ?_
          exact fun w' b0 b1 b2 t c0 c1 c2 => openDigest_any _ rs nn (dataB rs) ka kc ks now b0 b1 b2 w' (hv.keep t (fun _ _ h => h)) hby hn hnn (by omega) (length_dataB hrl) hdb (hc.keep t) hl c0 c1 c2
        · have e1 : openE0 rs nn (pureL ks) now = wholeE rs nn := by unfold openE0; rw [if_neg (fun h => h hE), if_neg (fun h => h hK), if_neg h1, if_neg h2]
          have e2 : openS0 rs nn (pureL ks) now = 0 := by unfold openS0; rw [if_neg (fun h => h hE), if_neg (fun h => h hK), if_neg h1, if_neg h2]
          rw [e1, e2]
          exact open_none va ka vc kc rs.length nn ks now (kindB rs) (kindOfL (pureL ks)) _ 0 (bytesOf (dataB rs)) w hK h1 h2 hOl' hO1 HCK HSD HKO HWH
    · have e1 : openE0 rs nn (pureL ks) now = 25 := by unfold openE0; rw [if_neg (fun h => h hE), if_pos hK]
      have e2 : openS0 rs nn (pureL ks) now = 0 := by unfold openS0; rw [if_neg (fun h => h hE), if_pos hK]
      rw [e1, e2]
      exact open_auth va ka vc kc rs.length nn ks now (kindB rs) (kindOfL (pureL ks)) 0 0 (bytesOf (dataB rs)) w hK hOl' hO1 HCK HSD HKO
  · have e1 : openE0 rs nn (pureL ks) now = 26 := by unfold openE0; rw [if_pos hE]
    have e2 : openS0 rs nn (pureL ks) now = 0 := by unfold openS0; rw [if_pos hE]
    rw [e1, e2]
    exact open_key va ka vc kc rs.length nn ks now (kindB rs) (kindOfL (pureL ks)) _ _ (bytesOf (dataB rs)) w hE hOl' hO1 HCK HSD HKO
set_option maxHeartbeats 1000000 in
theorem aopen_any (v vk : Value) (rs : List Int) (ks : List KE) (now : Int) (w : World) (hv : ArgAt w v rs) (hby : ∀ z ∈ rs, 0 ≤ z ∧ z < 256) (hn : rs.length ≤ 1000000) (hc : ChainAt w vk ks) (hl : ks.length ≤ 1000000) :
    Calls Tryz.prog 16 #[v, vk, .int .i64 now] w fun e w' => e = .returned (.tuple #[.int .u32 (openS rs (pureL ks) now), .int .i64 (openN rs (pureL ks) now), .int .i64 (openE rs (pureL ks) now)]) ∧ Touch (fun _ => False) w w' := by
  have HL := plenP_any v rs w hv hby hn
  by_cases hE : pLenE rs = 0
  · have P := pLenE_ok hE
    obtain ⟨nn, hnn⟩ : ∃ nn : Nat, pTold rs = (nn : Int) := ⟨(pTold rs).toNat, by have := P.n; omega⟩
    have HO : Hid (∀ w', Touch (fun _ => False) w w' → Calls Tryz.prog 52 #[v, .int .i64 nn, vk, .int .i64 now] w' fun e w'' => e = .returned (.tuple #[.int .u32 (openS0 rs nn (pureL ks) now), .int .i64 (openE0 rs nn (pureL ks) now)]) ∧ Touch (fun _ => False) w' w'') := fun w' t => open_any v vk rs nn ks now w' (hv.keep t (fun _ _ h => h)) hby hn P hnn (hc.keep t) hl
    have e1 : openE rs (pureL ks) now = openE0 rs nn (pureL ks) now := by unfold openE; rw [if_neg (fun h => h hE), hnn]
    have e2 : openN rs (pureL ks) now = if openE0 rs nn (pureL ks) now = 0 then (nn : Int) else 0 := by unfold openN; rw [e1, hnn]
    have e3 : openS rs (pureL ks) now = if openE0 rs nn (pureL ks) now = 0 then openS0 rs nn (pureL ks) now else 0 := by unfold openS; rw [e1, hnn]
    rw [e1, e2, e3]
    rw [hE, show pLenN rs = (nn : Int) by unfold pLenN; rw [if_pos hE, hnn]] at HL
    generalize openS0 rs nn (pureL ks) now = SQ at *
    generalize openE0 rs nn (pureL ks) now = EE at *
    obtain ⟨va, vc, rfl, -⟩ := hv.form
    obtain ⟨ka, kc, rfl, -⟩ := ValsAt.form hc.vals
    clear hv hby hn hc hl hE P hnn e1 e2 e3
    by_cases hEE : EE = 0
    · subst hEE
      rw [if_pos rfl, if_pos rfl]
      go_enter Tryz.func16, Tryz.ntmps16
      go_wp2_with fail
      refine Calls.mono HL ?_
      rintro e w1 ⟨rfl, t1⟩
      have T1 : Hid (Touch (fun _ => False) w w1) := t1
      clear t1
      go_wp2_with fail
      refine Calls.mono (HO.out w1 T1.out) ?_
      rintro e w2 ⟨rfl, t2⟩
      have T2 : Hid (Touch (fun _ => False) w w2) := T1.out.trans t2
      clear t2 T1
      go_wp2_with fail
      exact bodyPost_ret (v := .tuple #[.int .u32 SQ, .int .i64 nn, .int .i64 0]) (by simp [results, Tryz.results16, go_sem]) rfl ⟨rfl, T2.out⟩
    · rw [if_neg hEE, if_neg hEE]
      go_enter Tryz.func16, Tryz.ntmps16
      go_wp2_with fail
      refine Calls.mono HL ?_
      rintro e w1 ⟨rfl, t1⟩
      have T1 : Hid (Touch (fun _ => False) w w1) := t1
      clear t1
      go_wp2_with fail
      refine Calls.mono (HO.out w1 T1.out) ?_
      rintro e w2 ⟨rfl, t2⟩
      have T2 : Hid (Touch (fun _ => False) w w2) := T1.out.trans t2
      clear t2 T1
      go_wp2_with fail
      exact bodyPost_ret (v := .tuple #[.int .u32 0, .int .i64 0, .int .i64 EE]) (by simp [results, Tryz.results16, go_sem]) rfl ⟨rfl, T2.out⟩
  · have e1 : openE rs (pureL ks) now = pLenE rs := by unfold openE; rw [if_pos hE]
    have e2 : openN rs (pureL ks) now = 0 := by unfold openN; rw [e1, if_neg hE]
    have e3 : openS rs (pureL ks) now = 0 := by unfold openS; rw [e1, if_neg hE]
    rw [e1, e2, e3]
    generalize pLenE rs = EE at *
    generalize pLenN rs = NN at *
    obtain ⟨va, vc, rfl, -⟩ := hv.form
    obtain ⟨ka, kc, rfl, -⟩ := ValsAt.form hc.vals
    clear hv hby hn hc hl e1 e2 e3
    go_enter Tryz.func16, Tryz.ntmps16
    go_wp2_with fail
    refine Calls.mono HL ?_
    rintro e w1 ⟨rfl, t1⟩
    go_wp2_with fail
    exact bodyPost_ret (v := .tuple #[.int .u32 0, .int .i64 0, .int .i64 EE]) (by simp [results, Tryz.results16, go_sem]) rfl ⟨rfl, t1⟩
end Go.Proofs.YtjjgbcjgmjggnaaGreatDoor
