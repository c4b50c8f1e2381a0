/- Open and Sign, every way. -/
import Derived.Test.YthilfealloakdaaGreatAuOpen
import Derived.Test.YthilfealloakdaaGreatAuRO3a
import Derived.Test.YthilfealloakdaaGreatAuRO3l
import Derived.Test.YthilfealloakdaaGreatAuR8b
namespace Go.Proofs.YthilfealloakdaaGreat
open Go.RowKit Go.Shelf
set_option linter.unusedVariables false
set_option maxRecDepth 100000

theorem chain_sec {ks : List KE} (h : achE (pureL ks) = 0) : ∀ x ∈ ks, 0 < x.p.sec.length := by
  intro x hx
  obtain ⟨j, hj, rfl⟩ := List.getElem_of_mem hx
  have hb := (chk_ok h).2 j (by simpa using hj)
  have := badAt_ok (ks := pureL ks) (k := ks[j].p) (by rw [List.getElem?_map, List.getElem?_eq_getElem hj]; rfl) hb
  have := (AKP.may_iff.1 this.1).2
  omega
theorem open_any (v vk : Value) (rs : List Int) (nn : Nat) (ks : List KE) (now : Int) (w : World) (hv : ArgAt w v rs) (hby : ∀ z ∈ rs, 0 ≤ z ∧ z < 256) (hn : rs.length ≤ 1000000) (P : PLen rs) (hT : pTold rs = (nn : Int)) (hc : ChainAt w vk ks) (hl : ks.length ≤ 1000000) :
    Calls Tryz.prog 26 #[v, .int .i64 nn, vk, .int .i64 now] w fun e w' => e = .returned (.tuple #[.int .u32 (openS0 rs nn (pureL ks) now), .int .i64 (openE0 rs nn (pureL ks) now)]) ∧ Touch (fun _ => False) w w' := by
  have HCK := achk_any vk ks w hc
  have HSD : Hid (∀ w', Touch (fun _ => False) w w' → Calls Tryz.prog 62 #[v] w' fun e w'' => e = .returned (.tuple #[.int .u16 (kindB rs), .agg (bytesOf (dataB rs)).toArray]) ∧ Touch (fun _ => False) w' w'') := fun w' t => said_any v rs w' (hv.keep t (fun _ _ h => h)) hby P.l hn
  have HKO : Hid (∀ w', Touch (fun _ => False) w w' → Calls Tryz.prog 63 #[vk] w' fun e w'' => e = .returned (.int .u16 (kindOfL (pureL ks))) ∧ w' = w'') := fun w' t => kindOf_any vk ks w' (hc.keep t)
  have HWH : Hid (∀ w', Touch (fun _ => False) w w' → Calls Tryz.prog 67 #[v, .int .i64 nn] w' fun e w'' => e = .returned (.int .i64 (wholeE rs nn)) ∧ Touch (fun _ => False) w' w'') := fun w' t => whole_pk v rs nn w' (hv.keep t (fun _ _ h => h)) hby hn
  have hOl' : (bytesOf (dataB rs)).length = 8 := by rw [length_bytesOf, length_dataB P.l]
  have hO1 := oneCell_bytesOf (dataB rs)
  have hdb : ∀ z ∈ dataB rs, 0 ≤ z ∧ z < 256 := fun z hz => hby z (List.mem_of_mem_drop (List.mem_of_mem_take hz))
  have hnn : nn ≤ rs.length := by have := P.n; omega
  have hrl := P.l
  obtain ⟨va, vc, rfl, -⟩ := hv.form
  obtain ⟨ka, kc, rfl, -⟩ := ValsAt.form hc.vals
  by_cases hE : achE (pureL ks) = 0
  · have hss := chain_sec hE
    have hI : achI (pureL ks) = 0 := by
      have := chk_ok hE
      exact (chk_good this.1 this.2).2
    rw [hE, hI] at HCK
    by_cases hK : kindB rs = kindOfL (pureL ks)
    · by_cases h1 : kindB rs = 1
      · have e1 : openE0 rs nn (pureL ks) now = openPl rs nn (dataB rs) (pureL ks) now := by unfold openE0; rw [if_neg (fun h => h hE), if_neg (fun h => h hK), if_pos h1]
        have e2 : openS0 rs nn (pureL ks) now = 0 := by unfold openS0; rw [if_neg (fun h => h hE), if_neg (fun h => h hK), if_pos h1]
        rw [e1, e2]
        refine open_plain va ka vc kc rs.length nn ks now (kindB rs) (kindOfL (pureL ks)) _ 0 (bytesOf (dataB rs)) w h1 (by rw [← hK, h1]) hOl' hO1 HCK HSD HKO ?_
        exact fun w' b0 b1 b2 t c0 c1 c2 => openPlain_any _ rs nn (dataB rs) ka kc ks now b0 b1 b2 w' (hv.keep t (fun _ _ h => h)) hby hn (length_dataB hrl) hdb (hc.keep t) hl hss c0 c1 c2
      · by_cases h2 : kindB rs = 2
        · have e1 : openE0 rs nn (pureL ks) now = openDgE rs nn (dataB rs) (pureL ks) now := by unfold openE0; rw [if_neg (fun h => h hE), if_neg (fun h => h hK), if_neg h1, if_pos h2]
          have e2 : openS0 rs nn (pureL ks) now = openDgS rs nn (dataB rs) (pureL ks) now := by unfold openS0; rw [if_neg (fun h => h hE), if_neg (fun h => h hK), if_neg h1, if_pos h2]
          rw [e1, e2]
          refine open_digest va ka vc kc rs.length nn ks now (kindB rs) (kindOfL (pureL ks)) _ _ (bytesOf (dataB rs)) w h2 (by rw [← hK, h2]) hOl' hO1 HCK HSD HKO ?_
          exact fun w' b0 b1 b2 t c0 c1 c2 => openDigest_any _ rs nn (dataB rs) ka kc ks now b0 b1 b2 w' (hv.keep t (fun _ _ h => h)) hby hn hnn (by omega) (length_dataB hrl) hdb (hc.keep t) hl c0 c1 c2
        · have e1 : openE0 rs nn (pureL ks) now = wholeE rs nn := by unfold openE0; rw [if_neg (fun h => h hE), if_neg (fun h => h hK), if_neg h1, if_neg h2]
          have e2 : openS0 rs nn (pureL ks) now = 0 := by unfold openS0; rw [if_neg (fun h => h hE), if_neg (fun h => h hK), if_neg h1, if_neg h2]
          rw [e1, e2]
          exact open_none va ka vc kc rs.length nn ks now (kindB rs) (kindOfL (pureL ks)) _ 0 (bytesOf (dataB rs)) w hK h1 h2 hOl' hO1 HCK HSD HKO HWH
    · have e1 : openE0 rs nn (pureL ks) now = 25 := by unfold openE0; rw [if_neg (fun h => h hE), if_pos hK]
      have e2 : openS0 rs nn (pureL ks) now = 0 := by unfold openS0; rw [if_neg (fun h => h hE), if_pos hK]
      rw [e1, e2]
      exact open_auth va ka vc kc rs.length nn ks now (kindB rs) (kindOfL (pureL ks)) 0 0 (bytesOf (dataB rs)) w hK hOl' hO1 HCK HSD HKO
  · have e1 : openE0 rs nn (pureL ks) now = 26 := by unfold openE0; rw [if_pos hE]
    have e2 : openS0 rs nn (pureL ks) now = 0 := by unfold openS0; rw [if_pos hE]
    rw [e1, e2]
    exact open_key va ka vc kc rs.length nn ks now (kindB rs) (kindOfL (pureL ks)) _ _ (bytesOf (dataB rs)) w hE hOl' hO1 HCK HSD HKO
set_option maxHeartbeats 1000000 in
theorem aopen_any (v vk : Value) (rs : List Int) (ks : List KE) (now : Int) (w : World) (hv : ArgAt w v rs) (hby : ∀ z ∈ rs, 0 ≤ z ∧ z < 256) (hn : rs.length ≤ 1000000) (hc : ChainAt w vk ks) (hl : ks.length ≤ 1000000) :
    Calls Tryz.prog 10 #[v, vk, .int .i64 now] w fun e w' => e = .returned (.tuple #[.int .u32 (openS rs (pureL ks) now), .int .i64 (openN rs (pureL ks) now), .int .i64 (openE rs (pureL ks) now)]) ∧ Touch (fun _ => False) w w' := by
  have HL := plenP_any v rs w hv hby hn
  by_cases hE : pLenE rs = 0
  · have P := pLenE_ok hE
    obtain ⟨nn, hnn⟩ : ∃ nn : Nat, pTold rs = (nn : Int) := ⟨(pTold rs).toNat, by have := P.n; omega⟩
    have HO : Hid (∀ w', Touch (fun _ => False) w w' → Calls Tryz.prog 26 #[v, .int .i64 nn, vk, .int .i64 now] w' fun e w'' => e = .returned (.tuple #[.int .u32 (openS0 rs nn (pureL ks) now), .int .i64 (openE0 rs nn (pureL ks) now)]) ∧ Touch (fun _ => False) w' w'') := fun w' t => open_any v vk rs nn ks now w' (hv.keep t (fun _ _ h => h)) hby hn P hnn (hc.keep t) hl
    have e1 : openE rs (pureL ks) now = openE0 rs nn (pureL ks) now := by unfold openE; rw [if_neg (fun h => h hE), hnn]
    have e2 : openN rs (pureL ks) now = if openE0 rs nn (pureL ks) now = 0 then (nn : Int) else 0 := by unfold openN; rw [e1, hnn]
    have e3 : openS rs (pureL ks) now = if openE0 rs nn (pureL ks) now = 0 then openS0 rs nn (pureL ks) now else 0 := by unfold openS; rw [e1, hnn]
    rw [e1, e2, e3]
    rw [hE, show pLenN rs = (nn : Int) by unfold pLenN; rw [if_pos hE, hnn]] at HL
    generalize openS0 rs nn (pureL ks) now = SQ at *
    generalize openE0 rs nn (pureL ks) now = EE at *
    obtain ⟨va, vc, rfl, -⟩ := hv.form
    obtain ⟨ka, kc, rfl, -⟩ := ValsAt.form hc.vals
    clear hv hby hn hc hl hE P hnn e1 e2 e3
    by_cases hEE : EE = 0
    · subst hEE
      rw [if_pos rfl, if_pos rfl]
      go_enter Tryz.func10, Tryz.ntmps10
      go_wp2_with fail
      refine Calls.mono HL ?_
      rintro e w1 ⟨rfl, t1⟩
      have T1 : Hid (Touch (fun _ => False) w w1) := t1
      clear t1
      go_wp2_with fail
      refine Calls.mono (HO.out w1 T1.out) ?_
      rintro e w2 ⟨rfl, t2⟩
      have T2 : Hid (Touch (fun _ => False) w w2) := T1.out.trans t2
      clear t2 T1
      go_wp2_with fail
      exact bodyPost_ret (v := .tuple #[.int .u32 SQ, .int .i64 nn, .int .i64 0]) (by simp [results, Tryz.results10, go_sem]) rfl ⟨rfl, T2.out⟩
    · rw [if_neg hEE, if_neg hEE]
      go_enter Tryz.func10, Tryz.ntmps10
      go_wp2_with fail
      refine Calls.mono HL ?_
      rintro e w1 ⟨rfl, t1⟩
      have T1 : Hid (Touch (fun _ => False) w w1) := t1
      clear t1
      go_wp2_with fail
      refine Calls.mono (HO.out w1 T1.out) ?_
      rintro e w2 ⟨rfl, t2⟩
      have T2 : Hid (Touch (fun _ => False) w w2) := T1.out.trans t2
      clear t2 T1
      go_wp2_with fail
      exact bodyPost_ret (v := .tuple #[.int .u32 0, .int .i64 0, .int .i64 EE]) (by simp [results, Tryz.results10, go_sem]) rfl ⟨rfl, T2.out⟩
  · have e1 : openE rs (pureL ks) now = pLenE rs := by unfold openE; rw [if_pos hE]
    have e2 : openN rs (pureL ks) now = 0 := by unfold openN; rw [e1, if_neg hE]
    have e3 : openS rs (pureL ks) now = 0 := by unfold openS; rw [e1, if_neg hE]
    rw [e1, e2, e3]
    generalize pLenE rs = EE at *
    generalize pLenN rs = NN at *
    obtain ⟨va, vc, rfl, -⟩ := hv.form
    obtain ⟨ka, kc, rfl, -⟩ := ValsAt.form hc.vals
    clear hv hby hn hc hl e1 e2 e3
    go_enter Tryz.func10, Tryz.ntmps10
    go_wp2_with fail
    refine Calls.mono HL ?_
    rintro e w1 ⟨rfl, t1⟩
    go_wp2_with fail
    exact bodyPost_ret (v := .tuple #[.int .u32 0, .int .i64 0, .int .i64 EE]) (by simp [results, Tryz.results10, go_sem]) rfl ⟨rfl, t1⟩
end Go.Proofs.YthilfealloakdaaGreat

namespace Go.Proofs.YthilfealloakdaaGreat
open Go.RowKit
set_option linter.unusedVariables false
set_option maxRecDepth 100000

theorem told_lt {rs : List Int} (hby : ∀ z ∈ rs, 0 ≤ z ∧ z < 256) (hl : 24 ≤ rs.length) : pTold rs < 65536 := by
  have h := (numOf_bound ((rs.drop 2).take 2) (fun z hz => hby z (List.mem_of_mem_drop (List.mem_of_mem_take hz)))).2
  rw [show ((rs.drop 2).take 2).length = 2 by rw [List.length_take, List.length_drop]; omega] at h
  exact h
theorem passAny_map (ks : List KE) (now : Int) (d : List Int) : passAny (pureL ks) now d = ks.any (fun x => x.p.takes now && decide (passB x.p.sec = d)) := by
  unfold passAny
  rw [List.any_map]
  rfl
set_option maxHeartbeats 1000000 in
theorem ropen_any (v vk : Value) (rs : List Int) (ks : List KE) (now : Int) (w : World) (hv : ArgAt w v rs) (hby : ∀ z ∈ rs, 0 ≤ z ∧ z < 256) (hn : rs.length ≤ 1000000) (hc : ChainAt w vk ks) (hkl : ks.length ≤ 1000000) (hks : ∀ x ∈ ks, x.p.sec.length ≤ 1000000) :
    Calls Tryz.prog 11 #[v, vk, .int .i64 now] w fun e w' => e = .returned (.tuple #[.int .u32 (openS rs (pureL ks) now), .int .i64 (openN rs (pureL ks) now), .int .i64 (openE rs (pureL ks) now)]) ∧ Touch (fun _ => False) w w' := by
  have HL : Hid (∀ w', Touch (fun _ => False) w w' → Calls Tryz.prog 27 #[v] w' fun e w'' => e = .returned (.tuple #[.int .i64 (pLenN rs), .int .i64 (pLenE rs)]) ∧ Touch (fun _ => False) w' w'') := fun w' t =>
    (dlen_any v rs w' (hv.keep t (fun _ _ h => h)) hby).mono fun e w'' ⟨h1, n, h2⟩ => ⟨h1, h2 ▸ (Touch.refl _ _).drewN n⟩
  obtain ⟨va, vc, rfl, -⟩ := hv.form
  obtain ⟨ka, kc, rfl, -⟩ := ValsAt.form hc.vals
  by_cases hE : pLenE rs = 0
  rotate_left
  · have e1 : openE rs (pureL ks) now = pLenE rs := by unfold openE; rw [if_pos hE]
    have e2 : openN rs (pureL ks) now = 0 := by unfold openN; rw [e1, if_neg hE]
    have e3 : openS rs (pureL ks) now = 0 := by unfold openS; rw [e1, if_neg hE]
    rw [e1, e2, e3]
    exact ropen_len va _ vc ka kc _ now _ _ 0 0 0 0 0 0 0 0 w (by simpa using hE) HL
  have P := pLenE_ok hE
  obtain ⟨nn, hT⟩ : ∃ nn : Nat, pTold rs = (nn : Int) := ⟨(pTold rs).toNat, by have := P.n; omega⟩
  have hn24 : 24 ≤ nn := by have := P.n; omega
  have hnn : nn ≤ rs.length := by have := P.n; omega
  have hn16 : nn ≤ 65536 := by have := told_lt hby P.l; omega
  have hr24 : 24 ≤ rs.length := by omega
  rw [show pLenN rs = (nn : Int) by unfold pLenN; rw [if_pos hE, hT], hE] at HL
  have q1 : openE rs (pureL ks) now = openE0 rs nn (pureL ks) now := by unfold openE; rw [if_neg (fun h => h hE), hT]
  have q2 : openN rs (pureL ks) now = if openE0 rs nn (pureL ks) now = 0 then (nn : Int) else 0 := by unfold openN; rw [q1, hT]
  have q3 : openS rs (pureL ks) now = if openE0 rs nn (pureL ks) now = 0 then openS0 rs nn (pureL ks) now else 0 := by unfold openS; rw [q1, hT]
  rw [q1, q2, q3]
  clear q1 q2 q3
  have HI : Hid (∀ w', Touch (fun _ => False) w w' → Calls Tryz.prog 29 #[.slice va rs.length vc] w' fun e w'' => e = .returned (.int .i64 (kindB rs)) ∧ Touch (fun _ => False) w' w'') := fun w' t => rkind_any _ rs w' (hv.keep t (fun _ _ h => h)) hby hr24
  have HP : Hid (∀ w', Touch (fun _ => False) w w' → Calls Tryz.prog 31 #[.slice va rs.length vc, .int .i64 (nn : Int)] w' fun e w'' => e = .returned (.int .i64 (wholeE rs nn)) ∧ Touch (fun _ => False) w' w'') := fun w' t => plainly_any _ rs nn w' (hv.keep t (fun _ _ h => h)) hby hn16 hnn
  by_cases hk0 : 0 < ks.length
  rotate_left
  · obtain rfl : ks = [] := List.eq_nil_of_length_eq_zero (by omega)
    have a0 : achE (pureL []) = 0 := rfl
    have k0 : kindOfL (pureL []) = 0 := rfl
    by_cases hkd : kindB rs = 0
    · have oe : openE0 rs nn (pureL []) now = wholeE rs nn := by unfold openE0; rw [if_neg (fun h => h a0), if_neg (fun h => h (hkd.trans k0.symm)), if_neg (by omega), if_neg (by omega)]
      have os : openS0 rs nn (pureL []) now = 0 := by unfold openS0; rw [if_neg (fun h => h a0), if_neg (fun h => h (hkd.trans k0.symm)), if_neg (by omega), if_neg (by omega)]
      rw [hkd] at HI
      rw [oe, os]
      by_cases hW : wholeE rs nn = 0
      · rw [hW] at HP ⊢
        exact ropen_null va ka _ vc kc now nn w HL HI HP
      · rw [if_neg hW, if_neg hW]
        exact ropen_ple0 va _ vc ka kc 0 now nn 0 0 0 0 0 0 0 0 _ w HL HI (by simpa using hW) HP
    · have oe : openE0 rs nn (pureL []) now = 25 := by unfold openE0; rw [if_neg (fun h => h a0), if_pos (by rw [k0]; exact hkd)]
      rw [oe]
      exact ropen_auth0 va _ vc ka kc 0 now nn 0 0 0 (kindB rs) 0 0 0 0 0 w HL HI (by simpa using hkd)
  have hkn : (0 : Int) < (ks.length : Int) := by omega
  have HK : Hid (∀ w', Touch (fun _ => False) w w' → Calls Tryz.prog 28 #[.slice ka ks.length kc] w' fun e w'' => e = .returned (.tuple #[.int .i64 (achE (pureL ks)), .int .i64 (achI (pureL ks))]) ∧ Touch (fun _ => False) w' w'') := fun w' t => rcheck_any _ ks w' (hc.keep t)
  by_cases hA : achE (pureL ks) = 0
  rotate_left
  · have oe : openE0 rs nn (pureL ks) now = 26 := by unfold openE0; rw [if_pos hA]
    rw [oe]
    exact ropen_key va _ vc ka kc _ now nn 0 _ _ 0 0 0 0 0 0 w hkn (by simpa using hA) HL HK
  rw [hA] at HK
  obtain ⟨x0, hx0⟩ : ∃ x, ks[0]? = some x := ⟨ks[0], List.getElem?_eq_getElem hk0⟩
  have hKo : kindOfL (pureL ks) = x0.p.kind := kind_first hx0
  have hmay : x0.p.kind = 1 ∨ x0.p.kind = 2 := by
    have hb := (chk_ok hA).2 0 (by simpa using hk0)
    exact AKP.may_kind (badAt_ok (k := x0.p) (by rw [List.getElem?_map, hx0]; rfl) hb).1
  obtain ⟨gk, ok, hka⟩ : ∃ gk ok, ka = some ⟨gk, ok, none⟩ := by
    obtain ⟨-, g, o, c, e, -⟩ := ChainAt.one hc hx0
    cases e
    exact ⟨_, _, rfl⟩
  subst hka
  have HC : Hid (∀ w', Touch (fun _ => False) w w' → w'.cell? ⟨gk, ok + 1, none⟩ = some (.int .u16 x0.p.kind)) := fun w' t => by
    obtain ⟨-, g, o, c, e, hcell⟩ := ChainAt.one (hc.keep t) hx0
    cases e
    have := hcell 1 _ rfl
    simpa using this
  by_cases hkd : kindB rs = x0.p.kind
  rotate_left
  · have oe : openE0 rs nn (pureL ks) now = 25 := by unfold openE0; rw [if_neg (fun h => h hA), if_pos (by rw [hKo]; exact hkd)]
    rw [oe]
    exact ropen_auth va _ vc gk ok kc _ now nn 0 0 _ (kindB rs) x0.p.kind 0 0 0 0 w hkn (by omega) HL HK HC HI (by simpa using hkd)
  rcases hmay with h1 | h1
  · have hkd1 : kindB rs = 1 := hkd.trans h1
    have oe : openE0 rs nn (pureL ks) now = openPl rs nn (dataB rs) (pureL ks) now := by unfold openE0; rw [if_neg (fun h => h hA), if_neg (fun h => h (hkd.trans hKo.symm)), if_pos hkd1]
    have os : openS0 rs nn (pureL ks) now = 0 := by unfold openS0; rw [if_neg (fun h => h hA), if_neg (fun h => h (hkd.trans hKo.symm)), if_pos hkd1]
    rw [hkd1] at HI
    rw [h1] at HC
    rw [oe, os]
    by_cases hW : wholeE rs nn = 0
    · have ep : openPl rs nn (dataB rs) (pureL ks) now = if (ks.any fun x => x.p.takes now && decide (passB x.p.sec = dataB rs)) = true then 0 else 26 := by unfold openPl; rw [if_neg (fun h => h hW), passAny_map]
      rw [hW] at HP
      rw [ep]
      have hr := hv.row (by omega)
      obtain ⟨ga, oa, rfl⟩ := rowAt_some hr (by omega)
      obtain ⟨-, hc1, hc2⟩ := cap_of hr
      have hc3 : (vc : Int) ≤ 9223372036854775807 := by unfold maxLen at hc2; omega
      have z : (if (if (ks.any fun x => x.p.takes now && decide (passB x.p.sec = dataB rs)) = true then (0 : Int) else 26) = 0 then (0 : Int) else 0) = 0 := by split <;> rfl
      rw [z]
      refine ropen_loop rs ga oa vc kc _ ks now nn _ _ _ w hr24 hn hc1 hc3 hkl hk0 hks (fun w' t => (hv.keep t (fun _ _ h => h)).row (by omega)) (fun w' t => hc.keep t) (fun x hx => by rw [hx0] at hx; cases hx; exact h1) HL HK HI HP (fun h => ?_) (fun x hx h => ?_)
      · rw [any_false h]
        exact ⟨rfl, rfl⟩
      · rw [if_pos (List.any_eq_true.2 ⟨x, hx, h⟩)]
        exact ⟨rfl, rfl⟩
    · have ep : openPl rs nn (dataB rs) (pureL ks) now = wholeE rs nn := by unfold openPl; rw [if_pos hW]
      rw [ep, if_neg hW, if_neg hW]
      exact ropen_ple va _ vc gk ok kc _ now nn 0 0 _ 0 0 0 0 0 _ w hkn HL HK HC HI (by simpa using hW) HP
  · have hkd2 : kindB rs = 2 := hkd.trans h1
    have oe : openE0 rs nn (pureL ks) now = openDgE rs nn (dataB rs) (pureL ks) now := by unfold openE0; rw [if_neg (fun h => h hA), if_neg (fun h => h (hkd.trans hKo.symm)), if_neg (by omega), if_pos hkd2]
    have os : openS0 rs nn (pureL ks) now = openDgS rs nn (dataB rs) (pureL ks) now := by unfold openS0; rw [if_neg (fun h => h hA), if_neg (fun h => h (hkd.trans hKo.symm)), if_neg (by omega), if_pos hkd2]
    rw [hkd2] at HI
    rw [h1] at HC
    rw [oe, os]
    have zs : (if openDgE rs nn (dataB rs) (pureL ks) now = 0 then openDgS rs nn (dataB rs) (pureL ks) now else 0) = openDgS rs nn (dataB rs) (pureL ks) now := by
      unfold openDgS
      split <;> simp_all
    rw [zs]
    exact ropen_dig va _ vc gk ok kc _ now nn 0 0 _ 0 0 _ _ _ 0 w hkn HL HK HC HI (fun w' t => rdig_any _ _ rs nn ks now w' (hv.keep t (fun _ _ h => h)) hby hr24 hn hnn hn24 (hc.keep t) hkl)
end Go.Proofs.YthilfealloakdaaGreat
