/- The document: digested. -/
import Derived.Test.YthilfealloakdaaGreatAuRO2a
import Derived.Test.YthilfealloakdaaGreatAuRO2l
import Derived.Test.YthilfealloakdaaGreatDigBuf
import Derived.Test.YthilfealloakdaaGreatDigSame
import Derived.Test.YthilfealloakdaaGreatNumB
import Derived.Deep.LoopGhost
import Derived.Deep.RegionHeld3
namespace Go.Proofs.YthilfealloakdaaGreat
open Go.RowKit
set_option linter.unusedVariables false
set_option maxRecDepth 100000

set_option maxHeartbeats 400000 in
theorem rdig_any (v vk : Value) (rs : List Int) (nn : Nat) (ks : List KE) (now : Int) (w : World) (hv : ArgAt w v rs) (hby : ∀ z ∈ rs, 0 ≤ z ∧ z < 256) (hl : 24 ≤ rs.length) (hn : rs.length ≤ 1000000) (hnn : nn ≤ rs.length) (hn24 : 24 ≤ nn) (hc : ChainAt w vk ks) (hkl : ks.length ≤ 1000000) :
    Calls Tryz.prog 30 #[v, .int .i64 (nn : Int), vk, .int .i64 now] w fun e w' => e = .returned (.tuple #[.int .u32 (openDgS rs nn (dataB rs) (pureL ks) now), .int .i64 (rdN rs nn (dataB rs) (pureL ks) now), .int .i64 (openDgE rs nn (dataB rs) (pureL ks) now)]) ∧ Touch (fun _ => False) w w' := by
  have hr := hv.row (by omega)
  obtain ⟨va, vc, rfl, -⟩ := hv.form
  obtain ⟨ga, oa, rfl⟩ := rowAt_some hr (by omega)
  obtain ⟨-, hc1, hc2⟩ := cap_of hr
  have hc3 : (vc : Int) ≤ 9223372036854775807 := by unfold maxLen at hc2; omega
  clear hc2
  obtain ⟨ka, kc, rfl, -⟩ := ValsAt.form hc.vals
  have HV : Hid (∀ w', Touch (fun _ => False) w w' → RowAt w' (.slice (some ⟨ga, oa, none⟩) rs.length vc) rs) := fun w' t => (hv.keep t (fun _ _ h => h)).row (by omega)
  have HC : Hid (∀ w', Touch (fun _ => False) w w' → ChainAt w' (.slice ka ks.length kc) ks) := fun w' t => hc.keep t
  have HBY : Hid (∀ z ∈ rs, 0 ≤ z ∧ z < 256) := hby
  have c16 := rowAt_cell hr 16 (by omega)
  have c17 := rowAt_cell hr 17 (by omega)
  have c19 := rowAt_cell hr 19 (by omega)
  have b16 := getD_byte hby 16 (by omega)
  have b17 := getD_byte hby 17 (by omega)
  have b18 := getD_byte hby 18 (by omega)
  have b19 := getD_byte hby 19 (by omega)
  have b20 := getD_byte hby 20 (by omega)
  have b21 := getD_byte hby 21 (by omega)
  have b22 := getD_byte hby 22 (by omega)
  have b23 := getD_byte hby 23 (by omega)
  have hl24 : (24 : Int) ≤ (rs.length : Int) := by omega
  have MI := mark_iff (a0 := rs.getD 16 0) (a1 := rs.getD 17 0) (a2 := rs.getD 18 0) (a3 := rs.getD 19 0) (a4 := rs.getD 20 0) (a5 := rs.getD 21 0) (a6 := rs.getD 22 0) (a7 := rs.getD 23 0) (by
    intro z hz
    simp only [List.mem_cons, List.not_mem_nil, or_false] at hz
    rcases hz with rfl | rfl | rfl | rfl | rfl | rfl | rfl | rfl
    · exact b16
    · exact b17
    · exact b18
    · exact b19
    · exact b20
    · exact b21
    · exact b22
    · exact b23)
  rw [mark_id] at MI
  have HE : Hid (openDgE rs nn (dataB rs) (pureL ks) now = if ¬ (rs.getD 16 0 = 0 ∧ rs.getD 17 0 = 0 ∧ rs.getD 19 0 = 16) then 24 else if (rs.length : Int) ≠ nn + 16 then 22 else if (ks.any fun x => x.p.takes now && digK rs nn x.p (rs.getD 18 0)) = true then 0 else 26) := by
    show _ = _
    unfold openDgE
    rw [data_eight hl, mark_id, digAny_map]
    simp only [ne_eq, MI]
  have HS : Hid (openDgS rs nn (dataB rs) (pureL ks) now = if openDgE rs nn (dataB rs) (pureL ks) now = 0 then 16777216 * rs.getD 20 0 + 65536 * rs.getD 21 0 + 256 * rs.getD 22 0 + rs.getD 23 0 else 0) := by
    show _ = _
    unfold openDgS
    rw [show markSeq (dataB rs) = 16777216 * rs.getD 20 0 + 65536 * rs.getD 21 0 + 256 * rs.getD 22 0 + rs.getD 23 0 by rw [data_eight hl, mark_seq]]
  have HN : Hid (rdN rs nn (dataB rs) (pureL ks) now = if openDgE rs nn (dataB rs) (pureL ks) now = 0 then (nn : Int) else 0) := rfl
  generalize openDgS rs nn (dataB rs) (pureL ks) now = SS at *
  generalize rdN rs nn (dataB rs) (pureL ks) now = NN at *
  generalize openDgE rs nn (dataB rs) (pureL ks) now = EE at *
  clear MI hv hby hc hr b16 b17 b18 b19 b20 b21 b22 b23
  by_cases h16 : rs.getD 16 0 = 0
  rotate_left
  · obtain rfl : EE = 24 := by rw [HE.out, if_pos (fun h => h16 h.1)]
    obtain rfl : SS = 0 := HS.out
    obtain rfl : NN = 0 := HN.out
    clear HE HS HN
    exact rdig_a ga oa rs.length vc nn _ now w hl24 _ (by simpa using h16) c16
  by_cases h17 : rs.getD 17 0 = 0
  rotate_left
  · obtain rfl : EE = 24 := by rw [HE.out, if_pos (fun h => h17 h.2.1)]
    obtain rfl : SS = 0 := HS.out
    obtain rfl : NN = 0 := HN.out
    clear HE HS HN
    rw [h16] at c16
    exact rdig_b ga oa rs.length vc nn _ now w hl24 _ (by simpa using h17) c16 c17
  by_cases h19 : rs.getD 19 0 = 16
  rotate_left
  · obtain rfl : EE = 24 := by rw [HE.out, if_pos (fun h => h19 h.2.2)]
    obtain rfl : SS = 0 := HS.out
    obtain rfl : NN = 0 := HN.out
    clear HE HS HN
    rw [h16] at c16
    rw [h17] at c17
    exact rdig_c ga oa rs.length vc nn _ now w hl24 _ (by simpa using h19) c16 c17 c19
  rw [h16] at c16
  rw [h17] at c17
  rw [h19] at c19
  have hw16 : wrap64 ((nn : Int) + 16) = (nn : Int) + 16 := by unfold wrap64; omega
  by_cases hlen : (rs.length : Int) = nn + 16
  rotate_left
  · obtain rfl : EE = 22 := by rw [HE.out, if_neg (by simp only [h16, h17, h19]; decide), if_pos hlen]
    obtain rfl : SS = 0 := HS.out
    obtain rfl : NN = 0 := HN.out
    clear HE HS HN
    exact rdig_d ga oa rs.length vc nn _ now w hl24 (by omega) (by simpa using hlen) c16 c17 c19
  replace HE : Hid (EE = if (ks.any fun x => x.p.takes now && digK rs nn x.p (rs.getD 18 0)) = true then 0 else 26) := by
    show _ = _
    rw [HE.out, if_neg (by simp only [h16, h17, h19]; decide), if_neg (fun h => h hlen)]
  clear h16 h17 h19
  have hbl : ((rs.length : Int) != (nn : Int) + 16) = false := by simpa using hlen
  have hnn0 : (0 : Int) ≤ (nn : Int) := by omega
  have hnl : (nn : Int) ≤ (rs.length : Int) := by omega
  have hlc : (rs.length : Int) ≤ (vc : Int) := by omega
  have HF : Hid ((∀ (j : Nat) x, j < ks.length → ks[j]? = some x → (x.p.takes now && digK rs nn x.p (rs.getD 18 0)) = false) → EE = 26 ∧ SS = 0 ∧ NN = 0) := fun h => by
    have e : EE = 26 := by rw [HE.out, any_false h]; rfl
    refine ⟨e, ?_, ?_⟩
    · rw [HS.out, e]; rfl
    · rw [HN.out, e]; rfl
  have HT : Hid (∀ x, x ∈ ks → (x.p.takes now && digK rs nn x.p (rs.getD 18 0)) = true → EE = 0 ∧ SS = 16777216 * rs.getD 20 0 + 65536 * rs.getD 21 0 + 256 * rs.getD 22 0 + rs.getD 23 0 ∧ NN = nn) := fun x hx h => by
    have e : EE = 0 := by rw [HE.out, if_pos (List.any_eq_true.2 ⟨x, hx, h⟩)]
    refine ⟨e, ?_, ?_⟩
    · rw [HS.out, e]; rfl
    · rw [HN.out, e]; rfl
  clear HE HS HN
  exact rdig_loop rs ga oa vc nn kc ka ks now (rs.getD 18 0) EE SS NN w hn hc1 hc3 (by omega) hn24 hkl HV HC HBY rfl c16 c17 c19 HF HT
end Go.Proofs.YthilfealloakdaaGreat

namespace Go.Proofs.YthilfealloakdaaGreat
open Go.RowKit
set_option linter.unusedVariables false
set_option maxRecDepth 100000

set_option maxHeartbeats 400000 in
theorem ropen_len (va : Option Addr) (n vc : Nat) (ka : Option Addr) (kc kn : Nat) (now PN PE CE CI KD K0 DS DN DE WE : Int) (w : World) (hE : (PE != 0) = true) (HL : Hid (∀ w', Touch (fun _ => False) w w' → Calls Tryz.prog 27 #[.slice va n vc] w' fun e w'' => e = .returned (.tuple #[.int .i64 PN, .int .i64 PE]) ∧ Touch (fun _ => False) w' w'')) :
    Calls Tryz.prog 11 #[.slice va n vc, .slice ka kn kc, .int .i64 now] w fun e w' => e = .returned (.tuple #[.int .u32 0, .int .i64 0, .int .i64 PE]) ∧ Touch (fun _ => False) w w' := by
  go_enter Tryz.func11, Tryz.ntmps11
  go_wp2_with fail
  refine (HL.out _ (Touch.refl _ _)).mono ?_
  rintro e w1 ⟨rfl, t1⟩
  have T1 : Touch (fun _ => False) w w1 := t1
  go_wp2_with fail
  go_ret3
  exact ⟨rfl, T1⟩
set_option maxHeartbeats 400000 in
theorem ropen_key (va : Option Addr) (n vc : Nat) (ka : Option Addr) (kc kn : Nat) (now PN PE CE CI KD K0 DS DN DE WE : Int) (w : World) (hkn : (0 : Int) < (kn : Int)) (hC : (CE != 0) = true) (HL : Hid (∀ w', Touch (fun _ => False) w w' → Calls Tryz.prog 27 #[.slice va n vc] w' fun e w'' => e = .returned (.tuple #[.int .i64 PN, .int .i64 0]) ∧ Touch (fun _ => False) w' w'')) (HK : Hid (∀ w', Touch (fun _ => False) w w' → Calls Tryz.prog 28 #[.slice ka kn kc] w' fun e w'' => e = .returned (.tuple #[.int .i64 CE, .int .i64 CI]) ∧ Touch (fun _ => False) w' w'')) :
    Calls Tryz.prog 11 #[.slice va n vc, .slice ka kn kc, .int .i64 now] w fun e w' => e = .returned (.tuple #[.int .u32 0, .int .i64 0, .int .i64 26]) ∧ Touch (fun _ => False) w w' := by
  go_enter Tryz.func11, Tryz.ntmps11
  go_wp2_with fail
  refine (HL.out _ (Touch.refl _ _)).mono ?_
  rintro e w1 ⟨rfl, t1⟩
  have T1 : Touch (fun _ => False) w w1 := t1
  go_wp2_with fail
  refine (HK.out _ T1).mono ?_
  rintro e w2 ⟨rfl, t2⟩
  have T2 : Touch (fun _ => False) w w2 := (T1).trans t2
  go_wp2_with fail
  go_ret3
  exact ⟨rfl, T2⟩
set_option maxHeartbeats 400000 in
theorem ropen_auth (va : Option Addr) (n vc : Nat) (gk ok kc kn : Nat) (now PN PE CE CI KD K0 DS DN DE WE : Int) (w : World) (hkn : (0 : Int) < (kn : Int)) (hK0 : 0 ≤ K0 ∧ K0 < 65536) (HL : Hid (∀ w', Touch (fun _ => False) w w' → Calls Tryz.prog 27 #[.slice va n vc] w' fun e w'' => e = .returned (.tuple #[.int .i64 PN, .int .i64 0]) ∧ Touch (fun _ => False) w' w'')) (HK : Hid (∀ w', Touch (fun _ => False) w w' → Calls Tryz.prog 28 #[.slice (some ⟨gk, ok, none⟩) kn kc] w' fun e w'' => e = .returned (.tuple #[.int .i64 0, .int .i64 CI]) ∧ Touch (fun _ => False) w' w'')) (HC : Hid (∀ w', Touch (fun _ => False) w w' → w'.cell? ⟨gk, ok + 1, none⟩ = some (.int .u16 K0))) (HI : Hid (∀ w', Touch (fun _ => False) w w' → Calls Tryz.prog 29 #[.slice va n vc] w' fun e w'' => e = .returned (.int .i64 KD) ∧ Touch (fun _ => False) w' w'')) (hd : (KD != K0) = true) :
    Calls Tryz.prog 11 #[.slice va n vc, .slice (some ⟨gk, ok, none⟩) kn kc, .int .i64 now] w fun e w' => e = .returned (.tuple #[.int .u32 0, .int .i64 0, .int .i64 25]) ∧ Touch (fun _ => False) w w' := by
  have hwk : IntKind.i64.wrap K0 = K0 := by simp [IntKind.wrap, IntKind.bits, IntKind.signed]; omega
  go_enter Tryz.func11, Tryz.ntmps11
  go_wp2_with fail
  refine (HL.out _ (Touch.refl _ _)).mono ?_
  rintro e w1 ⟨rfl, t1⟩
  have T1 : Touch (fun _ => False) w w1 := t1
  go_wp2_with fail
  refine (HK.out _ T1).mono ?_
  rintro e w2 ⟨rfl, t2⟩
  have T2 : Touch (fun _ => False) w w2 := (T1).trans t2
  have c2 := HC.out _ T2
  go_wp2_with fail
  refine (HI.out _ T2).mono ?_
  rintro e w3 ⟨rfl, t3⟩
  have T3 : Touch (fun _ => False) w w3 := (T2).trans t3
  go_wp2_with fail
  go_ret3
  exact ⟨rfl, T3⟩
set_option maxHeartbeats 400000 in
theorem ropen_dig (va : Option Addr) (n vc : Nat) (gk ok kc kn : Nat) (now PN PE CE CI KD K0 DS DN DE WE : Int) (w : World) (hkn : (0 : Int) < (kn : Int)) (HL : Hid (∀ w', Touch (fun _ => False) w w' → Calls Tryz.prog 27 #[.slice va n vc] w' fun e w'' => e = .returned (.tuple #[.int .i64 PN, .int .i64 0]) ∧ Touch (fun _ => False) w' w'')) (HK : Hid (∀ w', Touch (fun _ => False) w w' → Calls Tryz.prog 28 #[.slice (some ⟨gk, ok, none⟩) kn kc] w' fun e w'' => e = .returned (.tuple #[.int .i64 0, .int .i64 CI]) ∧ Touch (fun _ => False) w' w'')) (HC : Hid (∀ w', Touch (fun _ => False) w w' → w'.cell? ⟨gk, ok + 1, none⟩ = some (.int .u16 2))) (HI : Hid (∀ w', Touch (fun _ => False) w w' → Calls Tryz.prog 29 #[.slice va n vc] w' fun e w'' => e = .returned (.int .i64 2) ∧ Touch (fun _ => False) w' w'')) (HD : Hid (∀ w', Touch (fun _ => False) w w' → Calls Tryz.prog 30 #[.slice va n vc, .int .i64 PN, .slice (some ⟨gk, ok, none⟩) kn kc, .int .i64 now] w' fun e w'' => e = .returned (.tuple #[.int .u32 DS, .int .i64 DN, .int .i64 DE]) ∧ Touch (fun _ => False) w' w'')) :
    Calls Tryz.prog 11 #[.slice va n vc, .slice (some ⟨gk, ok, none⟩) kn kc, .int .i64 now] w fun e w' => e = .returned (.tuple #[.int .u32 DS, .int .i64 DN, .int .i64 DE]) ∧ Touch (fun _ => False) w w' := by
  go_enter Tryz.func11, Tryz.ntmps11
  go_wp2_with fail
  refine (HL.out _ (Touch.refl _ _)).mono ?_
  rintro e w1 ⟨rfl, t1⟩
  have T1 : Touch (fun _ => False) w w1 := t1
  go_wp2_with fail
  refine (HK.out _ T1).mono ?_
  rintro e w2 ⟨rfl, t2⟩
  have T2 : Touch (fun _ => False) w w2 := (T1).trans t2
  have c2 := HC.out _ T2
  go_wp2_with fail
  refine (HI.out _ T2).mono ?_
  rintro e w3 ⟨rfl, t3⟩
  have T3 : Touch (fun _ => False) w w3 := (T2).trans t3
  go_wp2_with fail
  refine (HD.out _ T3).mono ?_
  rintro e w4 ⟨rfl, t4⟩
  have T4 : Touch (fun _ => False) w w4 := (T3).trans t4
  go_wp2_with fail
  go_ret3
  exact ⟨rfl, T4⟩
set_option maxHeartbeats 400000 in
theorem ropen_ple (va : Option Addr) (n vc : Nat) (gk ok kc kn : Nat) (now PN PE CE CI KD K0 DS DN DE WE : Int) (w : World) (hkn : (0 : Int) < (kn : Int)) (HL : Hid (∀ w', Touch (fun _ => False) w w' → Calls Tryz.prog 27 #[.slice va n vc] w' fun e w'' => e = .returned (.tuple #[.int .i64 PN, .int .i64 0]) ∧ Touch (fun _ => False) w' w'')) (HK : Hid (∀ w', Touch (fun _ => False) w w' → Calls Tryz.prog 28 #[.slice (some ⟨gk, ok, none⟩) kn kc] w' fun e w'' => e = .returned (.tuple #[.int .i64 0, .int .i64 CI]) ∧ Touch (fun _ => False) w' w'')) (HC : Hid (∀ w', Touch (fun _ => False) w w' → w'.cell? ⟨gk, ok + 1, none⟩ = some (.int .u16 1))) (HI : Hid (∀ w', Touch (fun _ => False) w w' → Calls Tryz.prog 29 #[.slice va n vc] w' fun e w'' => e = .returned (.int .i64 1) ∧ Touch (fun _ => False) w' w'')) (hW : (WE != 0) = true) (HP : Hid (∀ w', Touch (fun _ => False) w w' → Calls Tryz.prog 31 #[.slice va n vc, .int .i64 PN] w' fun e w'' => e = .returned (.int .i64 WE) ∧ Touch (fun _ => False) w' w'')) :
    Calls Tryz.prog 11 #[.slice va n vc, .slice (some ⟨gk, ok, none⟩) kn kc, .int .i64 now] w fun e w' => e = .returned (.tuple #[.int .u32 0, .int .i64 0, .int .i64 WE]) ∧ Touch (fun _ => False) w w' := by
  go_enter Tryz.func11, Tryz.ntmps11
  go_wp2_with fail
  refine (HL.out _ (Touch.refl _ _)).mono ?_
  rintro e w1 ⟨rfl, t1⟩
  have T1 : Touch (fun _ => False) w w1 := t1
  go_wp2_with fail
  refine (HK.out _ T1).mono ?_
  rintro e w2 ⟨rfl, t2⟩
  have T2 : Touch (fun _ => False) w w2 := (T1).trans t2
  have c2 := HC.out _ T2
  go_wp2_with fail
  refine (HI.out _ T2).mono ?_
  rintro e w3 ⟨rfl, t3⟩
  have T3 : Touch (fun _ => False) w w3 := (T2).trans t3
  go_wp2_with fail
  refine (HP.out _ T3).mono ?_
  rintro e w4 ⟨rfl, t4⟩
  have T4 : Touch (fun _ => False) w w4 := (T3).trans t4
  go_wp2_with fail
  go_ret3
  exact ⟨rfl, T4⟩
set_option maxHeartbeats 400000 in
theorem ropen_auth0 (va : Option Addr) (n vc : Nat) (ka : Option Addr) (kc kn : Nat) (now PN PE CE CI KD K0 DS DN DE WE : Int) (w : World) (HL : Hid (∀ w', Touch (fun _ => False) w w' → Calls Tryz.prog 27 #[.slice va n vc] w' fun e w'' => e = .returned (.tuple #[.int .i64 PN, .int .i64 0]) ∧ Touch (fun _ => False) w' w'')) (HI : Hid (∀ w', Touch (fun _ => False) w w' → Calls Tryz.prog 29 #[.slice va n vc] w' fun e w'' => e = .returned (.int .i64 KD) ∧ Touch (fun _ => False) w' w'')) (hd : (KD != 0) = true) :
    Calls Tryz.prog 11 #[.slice va n vc, .slice ka 0 kc, .int .i64 now] w fun e w' => e = .returned (.tuple #[.int .u32 0, .int .i64 0, .int .i64 25]) ∧ Touch (fun _ => False) w w' := by
  go_enter Tryz.func11, Tryz.ntmps11
  go_wp2_with fail
  refine (HL.out _ (Touch.refl _ _)).mono ?_
  rintro e w1 ⟨rfl, t1⟩
  have T1 : Touch (fun _ => False) w w1 := t1
  go_wp2_with fail
  refine (HI.out _ T1).mono ?_
  rintro e w2 ⟨rfl, t2⟩
  have T2 : Touch (fun _ => False) w w2 := (T1).trans t2
  go_wp2_with fail
  go_ret3
  exact ⟨rfl, T2⟩
set_option maxHeartbeats 400000 in
theorem ropen_ple0 (va : Option Addr) (n vc : Nat) (ka : Option Addr) (kc kn : Nat) (now PN PE CE CI KD K0 DS DN DE WE : Int) (w : World) (HL : Hid (∀ w', Touch (fun _ => False) w w' → Calls Tryz.prog 27 #[.slice va n vc] w' fun e w'' => e = .returned (.tuple #[.int .i64 PN, .int .i64 0]) ∧ Touch (fun _ => False) w' w'')) (HI : Hid (∀ w', Touch (fun _ => False) w w' → Calls Tryz.prog 29 #[.slice va n vc] w' fun e w'' => e = .returned (.int .i64 0) ∧ Touch (fun _ => False) w' w'')) (hW : (WE != 0) = true) (HP : Hid (∀ w', Touch (fun _ => False) w w' → Calls Tryz.prog 31 #[.slice va n vc, .int .i64 PN] w' fun e w'' => e = .returned (.int .i64 WE) ∧ Touch (fun _ => False) w' w'')) :
    Calls Tryz.prog 11 #[.slice va n vc, .slice ka 0 kc, .int .i64 now] w fun e w' => e = .returned (.tuple #[.int .u32 0, .int .i64 0, .int .i64 WE]) ∧ Touch (fun _ => False) w w' := by
  go_enter Tryz.func11, Tryz.ntmps11
  go_wp2_with fail
  refine (HL.out _ (Touch.refl _ _)).mono ?_
  rintro e w1 ⟨rfl, t1⟩
  have T1 : Touch (fun _ => False) w w1 := t1
  go_wp2_with fail
  refine (HI.out _ T1).mono ?_
  rintro e w2 ⟨rfl, t2⟩
  have T2 : Touch (fun _ => False) w w2 := (T1).trans t2
  go_wp2_with fail
  refine (HP.out _ T2).mono ?_
  rintro e w3 ⟨rfl, t3⟩
  have T3 : Touch (fun _ => False) w w3 := (T2).trans t3
  go_wp2_with fail
  go_ret3
  exact ⟨rfl, T3⟩
end Go.Proofs.YthilfealloakdaaGreat
