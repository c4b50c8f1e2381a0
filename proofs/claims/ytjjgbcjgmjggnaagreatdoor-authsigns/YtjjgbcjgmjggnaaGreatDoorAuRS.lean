/- The document: Sign, every way. -/
import Derived.Test.YtjjgbcjgmjggnaaGreatDoorAuRS2
import Derived.Test.YtjjgbcjgmjggnaaGreatDoorRefOf2
import Derived.Test.YtjjgbcjgmjggnaaGreatDoorRefSum
namespace Go.Proofs.YtjjgbcjgmjggnaaGreatDoor
open Go.RowKit
set_option linter.unusedVariables false
set_option maxRecDepth 100000

theorem sayB_byte' {rs sec : List Int} (h : ∀ z ∈ rs, 0 ≤ z ∧ z < 256) (hs : ∀ z ∈ sec, 0 ≤ z ∧ z < 256) : ∀ z ∈ sayB rs 0 1 (passB sec), 0 ≤ z ∧ z < 256 := by
  intro z hz
  simp only [sayB, numBytes2, passB, List.mem_append, List.mem_cons, List.not_mem_nil, or_false] at hz
  rcases hz with (((h1 | h1) | h1) | (h1 | h1)) | h1
  · exact h z (List.mem_of_mem_take h1)
  · omega
  · omega
  · exact hs z (List.mem_of_mem_take h1)
  · have := List.eq_of_mem_replicate h1; omega
  · exact h z (List.mem_of_mem_drop h1)
theorem sayB_byteM {rs : List Int} {id seq : Int} (h : ∀ z ∈ rs, 0 ≤ z ∧ z < 256) (hi : 0 ≤ id ∧ id < 256) : ∀ z ∈ sayB rs 0 2 (markB id seq), 0 ≤ z ∧ z < 256 := by
  intro z hz
  simp only [sayB, numBytes2, markB, numBytes4, List.mem_append, List.mem_cons, List.not_mem_nil, or_false] at hz
  rcases hz with (((h1 | h1) | h1) | (h1 | h1)) | h1
  · exact h z (List.mem_of_mem_take h1)
  · omega
  · omega
  · omega
  · omega
  · exact h z (List.mem_of_mem_drop h1)
theorem uns_ok {rs : List Int} (h : unsE rs = 0) : pLenE rs = 0 ∧ pTold rs = (rs.length : Int) ∧ kindB rs = 0 ∧ pRight rs = true ∧ 24 ≤ rs.length := by
  unfold unsE at h
  by_cases h1 : pLenE rs = 0
  · rw [if_neg (fun e => e h1)] at h
    have P := pLenE_ok h1
    by_cases h2 : pTold rs < (rs.length : Int)
    · rw [if_pos h2] at h; omega
    · rw [if_neg h2] at h
      by_cases h3 : kindB rs = 0
      · rw [if_neg (fun e => e h3)] at h
        cases h4 : pRight rs
        · rw [h4, if_pos rfl] at h; omega
        · exact ⟨h1, by have := P.n; omega, h3, rfl, P.l⟩
      · rw [if_pos h3] at h; omega
  · rw [if_pos h1] at h; exact absurd h h1
theorem plain_sum_doc (rs d : List Int) (hl : 24 ≤ rs.length) (hd : d.length = 8) : W true (summedB (sayB rs 0 1 d)) = W true (sayB rs 0 1 (List.replicate 8 0)) := by
  have h12 : (rs.take 12).length = 12 := by rw [List.length_take]; omega
  have e1 : sayB rs 0 1 d = (rs.take 12 ++ [0, 0, 0, 1]) ++ (d ++ rs.drop 24) := by simp [sayB, numBytes2]
  have e2 : sayB rs 0 1 (List.replicate 8 0) = (rs.take 12 ++ [0, 0, 0, 1]) ++ (List.replicate 8 0 ++ rs.drop 24) := by simp [sayB, numBytes2]
  have hL : (rs.take 12 ++ [(0 : Int), 0, 0, 1]).length = 16 := by rw [List.length_append, h12]; rfl
  have e3 : summedB (sayB rs 0 1 d) = (rs.take 12 ++ [0, 0, 0, 1]) ++ rs.drop 24 := by
    unfold summedB
    rw [e1, List.take_append_of_le_length (by omega), List.take_of_length_le (by omega), List.drop_append, hL, List.drop_eq_nil_of_le (by omega), List.nil_append, List.drop_append, hd]
    simp
    omega
  rw [e3, e2, W_append, W_append true _ (List.replicate 8 0 ++ _), W_append _ (List.replicate 8 0)]
  have hp : par true (rs.take 12 ++ [(0 : Int), 0, 0, 1]).length = true := by rw [hL]; rfl
  rw [hp]
  have hz : W true (List.replicate 8 (0 : Int)) = 0 := by decide
  have hp2 : par true (List.replicate 8 (0 : Int)).length = true := by rw [List.length_replicate]; rfl
  rw [hz, hp2]
  omega
theorem say_put (rs d : List Int) (s : Int) (hl : 24 ≤ rs.length) (h0 : 0 ≤ s) (h1 : s < 65536) : ((sayB rs 0 1 d).set 12 (s / 256)).set 13 (s % 256) = sayB rs s 1 d := by
  have h12 : (rs.take 12).length = 12 := by rw [List.length_take]; omega
  unfold sayB
  have e0 : numBytes 2 0 = [0, 0] := rfl
  have es : numBytes 2 s = [s / 256, s % 256] := by rw [numBytes2]; congr 1; omega
  rw [e0, es]
  simp only [List.append_assoc]
  rw [List.set_append_right _ _ (by omega), h12]
  simp only [Nat.sub_self, List.cons_append, List.nil_append, List.set_cons_zero]
  rw [List.set_append_right _ _ (by omega), h12]
  rfl
set_option maxHeartbeats 4000000 in
theorem rsign_any (v vk : Value) (rs : List Int) (ks : List KE) (now seq : Int) (w : World) (hv : ArgAt w v rs) (hby : ∀ z ∈ rs, 0 ≤ z ∧ z < 256) (hn : rs.length ≤ 131072) (hc : ChainAt w vk ks) (hl : ks.length ≤ 1000000) (hsl : ∀ x ∈ ks, x.p.sec.length ≤ 1000000) (hs : 0 ≤ seq ∧ seq < 4294967296) :
    Calls Tryz.prog 9 #[v, vk, .int .i64 now, .int .u32 seq] w fun e w' => ∃ u, e = .returned (.tuple #[u, .int .i64 (signE rs (pureL ks) now)]) ∧ Buf w w' u (signB rs (pureL ks) now seq) := by
  by_cases hu : unsE rs = 0
  rotate_left
  · exact rsign_uns v vk rs ks now seq w hv hby hn hc hl hsl hs hu
  obtain ⟨h1, hT, h3, h4, h24⟩ := uns_ok hu
  obtain ⟨va, vc, rfl, -⟩ := hv.form
  have HV : Hid (∀ w', Touch (fun _ => False) w w' → ArgAt w' (.slice va rs.length vc) rs) := fun w' t => hv.keep t (fun _ _ h => h)
  have HC : Hid (∀ w', Touch (fun _ => False) w w' → ChainAt w' vk ks) := fun w' t => hc.keep t
  obtain ⟨ka, kc_, rfl, -⟩ := ValsAt.form hc.vals
  have HBY : Hid (∀ z ∈ rs, 0 ≤ z ∧ z < 256) := hby
  have HLn := dlen_any _ rs w hv hby
  have hN : pLenN rs = (rs.length : Int) := by unfold pLenN; rw [if_pos h1, hT]
  rw [hN, h1] at HLn
  have hsm : rs.length ≤ 65536 := by have := pTold_small rs hby h24; omega
  have HK := fun w' (t : Touch (fun _ => False) w w') => rkind_any _ rs w' (HV.out w' t) HBY.out h24
  have HR := fun w' (t : Touch (fun _ => False) w w') => dright_any _ rs w' (HV.out w' t) HBY.out hsm
  rw [h3] at HK
  rw [h4] at HR
  have HSM : Hid (24 ≤ rs.length ∧ rs.length ≤ 65536) := ⟨h24, hsm⟩
  clear hv hby hc h1 hT h3 h4 h24 hsm hN hn
  by_cases hnil : ks = []
  · subst hnil
    have hE : signE rs (pureL []) now = 0 := by unfold signE; rw [if_neg (fun e => e hu), if_pos (by rfl)]
    have hB : signB rs (pureL []) now seq = rs := by
      unfold signB
      rw [if_neg (fun e => e hE)]
      rfl
    rw [hE, hB]
    clear hE hB hu hl hsl HC
    go_enter Tryz.func9, Tryz.ntmps9
    go_wp2_with fail
    refine Calls.mono HLn ?_
    rintro e w1 ⟨rfl, n1, rfl⟩
    go_wp2_with fail
    refine Calls.mono (HK _ ((Touch.refl _ _).drewN _)) ?_
    rintro e w2 ⟨rfl, t2⟩
    have T2 : Hid (Touch (fun _ => False) w w2) := ((Touch.refl _ _).drewN _).trans t2
    clear t2
    go_wp2_with fail
    refine Calls.mono (HR w2 T2.out) ?_
    rintro e w3 ⟨rfl, t3⟩
    have T3 : Hid (Touch (fun _ => False) w w3) := T2.out.trans t3
    clear t3 HLn HK HR
    go_wp2_with (at_builtin; refine app_arg rfl (.tmp 41) (.tmp 42) rfl w _ [] rfl (Buf.nil T3.out) _ rs rfl (HV.out w3 T3.out) (by have := HSM.out; simp; omega) ?_; intro p4 w4 b4)
    have B4 : Hid (Buf w w4 p4 rs) := by show Buf _ _ _ _; rw [← List.nil_append rs]; exact b4
    clear b4
    go_wp2_with fail
    go_ret2
    exact ⟨_, rfl, B4.out⟩
  have hlen : 0 < ks.length := List.length_pos_iff.2 hnil
  have hlne : ((ks.length : Int) == 0) = false := by rw [beq_eq_false_iff_ne]; omega
  have hpl : (pureL ks).length ≠ 0 := by simp [pureL]; exact hnil
  have HCK := fun w' (t : Touch (fun _ => False) w w') => rcheck_any _ ks w' (HC.out w' t)
  have HCH := fun w' (t : Touch (fun _ => False) w w') => rchoose_any _ ks now w' (HC.out w' t) hl
  by_cases hbad : achE (pureL ks) ≠ 0 ∨ chooseI (pureL ks) now < 0
  · have hE : signE rs (pureL ks) now = 26 := by unfold signE; rw [if_neg (fun e => e hu), if_neg hpl, if_pos hbad]
    have hB : signB rs (pureL ks) now seq = [] := by unfold signB; rw [if_pos (by rw [hE]; decide)]
    rw [hE, hB]
    generalize achE (pureL ks) = E at *
    generalize chooseI (pureL ks) now = At at *
    generalize achI (pureL ks) = Ii at *
    clear hE hB hu hnil hpl
    by_cases hE0 : E = 0
    · have hAt : At < 0 := by rcases hbad with h | h; exact absurd hE0 h; exact h
      subst hE0
      clear hbad
      go_enter Tryz.func9, Tryz.ntmps9
      go_wp2_with fail
      refine Calls.mono HLn ?_
      rintro e w1 ⟨rfl, n1, rfl⟩
      go_wp2_with fail
      refine Calls.mono (HK _ ((Touch.refl _ _).drewN _)) ?_
      rintro e w2 ⟨rfl, t2⟩
      have T2 : Hid (Touch (fun _ => False) w w2) := ((Touch.refl _ _).drewN _).trans t2
      clear t2
      go_wp2_with fail
      refine Calls.mono (HR w2 T2.out) ?_
      rintro e w3 ⟨rfl, t3⟩
      have T3 : Hid (Touch (fun _ => False) w w3) := T2.out.trans t3
      clear t3 HLn HK HR
      go_wp2_with fail
      refine Calls.mono (HCK w3 T3.out) ?_
      rintro e w4 ⟨rfl, t4⟩
      have T4 : Hid (Touch (fun _ => False) w w4) := T3.out.trans t4
      clear t4
      go_wp2_with fail
      refine Calls.mono (HCH w4 T4.out) ?_
      rintro e w5 ⟨rfl, t5⟩
      have T5 : Hid (Touch (fun _ => False) w w5) := T4.out.trans t5
      clear t5 HCK HCH
      go_wp2_with fail
      go_ret2
      exact ⟨_, rfl, Buf.nil T5.out⟩
    · have hE0' : (E == 0) = false := by simpa using hE0
      clear hbad
      go_enter Tryz.func9, Tryz.ntmps9
      go_wp2_with fail
      refine Calls.mono HLn ?_
      rintro e w1 ⟨rfl, n1, rfl⟩
      go_wp2_with fail
      refine Calls.mono (HK _ ((Touch.refl _ _).drewN _)) ?_
      rintro e w2 ⟨rfl, t2⟩
      have T2 : Hid (Touch (fun _ => False) w w2) := ((Touch.refl _ _).drewN _).trans t2
      clear t2
      go_wp2_with fail
      refine Calls.mono (HR w2 T2.out) ?_
      rintro e w3 ⟨rfl, t3⟩
      have T3 : Hid (Touch (fun _ => False) w w3) := T2.out.trans t3
      clear t3 HLn HK HR
      go_wp2_with fail
      refine Calls.mono (HCK w3 T3.out) ?_
      rintro e w4 ⟨rfl, t4⟩
      have T4 : Hid (Touch (fun _ => False) w w4) := T3.out.trans t4
      clear t4
      go_wp2_with fail
      refine Calls.mono (HCH w4 T4.out) ?_
      rintro e w5 ⟨rfl, t5⟩
      have T5 : Hid (Touch (fun _ => False) w w5) := T4.out.trans t5
      clear t5 HCK HCH
      go_wp2_with fail
      go_ret2
      exact ⟨_, rfl, Buf.nil T5.out⟩
  have ha : achE (pureL ks) = 0 := by
    rcases Classical.em (achE (pureL ks) = 0) with h | h
    · exact h
    · exact absurd (Or.inl h) hbad
  have hch : 0 ≤ chooseI (pureL ks) now := by
    rcases Int.lt_or_le (chooseI (pureL ks) now) 0 with h | h
    · exact absurd (Or.inr h) hbad
    · exact h
  have hbd := (bestI_bound (pureL ks) now (pureL ks).length).2
  obtain ⟨at', hat⟩ : ∃ n : Nat, chooseI (pureL ks) now = (n : Int) := ⟨(chooseI (pureL ks) now).toNat, by omega⟩
  have hatl : at' < ks.length := by
    have e : chooseI (pureL ks) now = bestI (pureL ks) now (pureL ks).length := rfl
    rw [← e, hat] at hbd
    simpa [pureL] using hbd
  obtain ⟨x, hx⟩ : ∃ x, ks[at']? = some x := ⟨ks[at'], List.getElem?_eq_getElem hatl⟩
  have hxp : (pureL ks)[at']? = some x.p := by simp [pureL, hx]
  obtain ⟨-, hgood⟩ := chk_ok ha
  obtain ⟨hmay, -, -⟩ := badAt_ok hxp (hgood at' (by simpa [pureL] using hatl))
  have h12 := AKP.may_kind hmay
  have hE : signE rs (pureL ks) now = 0 := by unfold signE; rw [if_neg (fun e => e hu), if_neg hpl, if_neg hbad]
  have hB : signB rs (pureL ks) now seq = signW rs x.p seq := by
    unfold signB
    rw [if_neg (fun e => e hE), hat, Int.toNat_natCast, hxp]
  rw [hE, hB]
  rw [ha] at HCK
  rw [hat] at HCH
  generalize achI (pureL ks) = Ii at HCK
  have HXO : Hid (∀ w', Touch (fun _ => False) w w' → x.Ok w') := fun w' t => (HC.out w' t).ok x (List.mem_of_getElem? hx)
  have HXS : Hid (x.p.sec.length ≤ 1000000) := hsl x (List.mem_of_getElem? hx)
  have HX : Hid (ks[at']? = some x) := hx
  have hat1 : (at' : Int) < (ks.length : Int) := by omega
  have hat0 : (0 : Int) ≤ (at' : Int) := by omega
  have hatn : ¬ (at' : Int) < 0 := by omega
  have HS : Hid (0 ≤ seq ∧ seq < 4294967296) := hs
  clear hE hB hu hbad ha hch hbd hat hxp hgood hmay hx hpl hnil hs
  rcases h12 with hk | hk
  · have hW : signW rs x.p seq = signPl rs x.p := by unfold signW; rw [if_pos hk]
    rw [hW]
    have hk2 : (x.p.kind == 2) = false := by rw [hk]; rfl
    clear hW hk
    go_enter Tryz.func9, Tryz.ntmps9
    go_wp2_with fail
    refine Calls.mono HLn ?_
    rintro e w1 ⟨rfl, n1, rfl⟩
    go_wp2_with fail
    refine Calls.mono (HK _ ((Touch.refl _ _).drewN _)) ?_
    rintro e w2 ⟨rfl, t2⟩
    have T2 : Hid (Touch (fun _ => False) w w2) := ((Touch.refl _ _).drewN _).trans t2
    clear t2
    go_wp2_with fail
    refine Calls.mono (HR w2 T2.out) ?_
    rintro e w3 ⟨rfl, t3⟩
    have T3 : Hid (Touch (fun _ => False) w w3) := T2.out.trans t3
    clear t3 HLn HK HR
    go_wp2_with fail
    refine Calls.mono (HCK w3 T3.out) ?_
    rintro e w4 ⟨rfl, t4⟩
    have T4 : Hid (Touch (fun _ => False) w w4) := T3.out.trans t4
    clear t4
    go_wp2_with fail
    refine Calls.mono (HCH w4 T4.out) ?_
    rintro e w5 ⟨rfl, t5⟩
    have T5 : Hid (Touch (fun _ => False) w w5) := T4.out.trans t5
    clear t5 HCK HCH
    obtain ⟨-, gR, off, cR, eR, hcell⟩ := ChainAt.one (HC.out w5 T5.out) HX.out
    cases eR
    have e0 : w5.cell? ⟨gR, off + at' * 7, none⟩ = some (.int .u8 x.p.id) := by exact hcell 0 _ rfl
    have e1 : w5.cell? ⟨gR, off + at' * 7 + 1, none⟩ = some (.int .u16 x.p.kind) := by rw [Nat.add_assoc]; exact hcell 1 _ rfl
    have e2 : w5.cell? ⟨gR, off + at' * 7 + 2, none⟩ = some (.slice x.a x.p.sec.length x.c) := by rw [Nat.add_assoc]; exact hcell 2 _ rfl
    have e3 : w5.cell? ⟨gR, off + at' * 7 + 3, none⟩ = some (.int .i64 x.p.sf) := by rw [Nat.add_assoc]; exact hcell 3 _ rfl
    have e4 : w5.cell? ⟨gR, off + at' * 7 + 4, none⟩ = some (.int .i64 x.p.su) := by rw [Nat.add_assoc]; exact hcell 4 _ rfl
    have e5 : w5.cell? ⟨gR, off + at' * 7 + 5, none⟩ = some (.int .i64 x.p.tf) := by rw [Nat.add_assoc]; exact hcell 5 _ rfl
    have e6 : w5.cell? ⟨gR, off + at' * 7 + 6, none⟩ = some (.int .i64 x.p.tu) := by rw [Nat.add_assoc]; exact hcell 6 _ rfl
    clear hcell
    go_upto_region 18 with fail
    have kb := kbox_new w5 x.p.id x.p.kind x.a x.p.sec.length x.c x.p.sf x.p.su x.p.tf x.p.tu
    have tk : Touch (fun _ => False) w5 (w5.alloc (.cells #[.int .u8 x.p.id, .int .u16 x.p.kind, .slice x.a x.p.sec.length x.c, .int .i64 x.p.sf, .int .i64 x.p.su, .int .i64 x.p.tf, .int .i64 x.p.tu] 61)) := (Touch.refl _ _).alloc _
    generalize w5.alloc (.cells #[.int .u8 x.p.id, .int .u16 x.p.kind, .slice x.a x.p.sec.length x.c, .int .i64 x.p.sf, .int .i64 x.p.su, .int .i64 x.p.tf, .int .i64 x.p.tu] 61) = w6 at kb tk ⊢
    generalize w5.heap.size = gb at kb ⊢
    have T6 : Hid (Touch (fun _ => False) w w6) := T5.out.trans tk
    have HKB : Hid (∀ w', Touch (fun _ => False) w6 w' → KBox w' gb x.p.id x.p.kind x.a x.p.sec.length x.c x.p.sf x.p.su x.p.tf x.p.tu) := fun w' t => kb.keep t
    have a0 := kb.c0
    have a1 := kb.c1
    have a2 := kb.c2
    have a3 := kb.c3
    have a4 := kb.c4
    have a5 := kb.c5
    have a6 := kb.c6
    clear kb tk e0 e1 e2 e3 e4 e5 e6 hat0 hat1 hatn hlne
    have HPW := fun w' (t : Touch (fun _ => False) w w') => rpass_any x w' (HXO.out w' t) HXS.out
    go_wp2_with fail
    refine Calls.mono (HPW w6 T6.out) ?_
    rintro e w7 ⟨v7, rfl, arg7, t7⟩
    have T7 : Hid (Touch (fun _ => False) w w7) := T6.out.trans t7
    have HSD := rsigned_any _ v7 rs (passB x.p.sec) 1 w7 (HV.out w7 T7.out) arg7 HSM.out.1 (by have := HSM.out.2; omega) (length_passB _) (by omega)
    clear t7 arg7 HPW a0 a1 a2 a3 a4 a5 a6
    go_wp2_with fail
    refine Calls.mono HSD ?_
    rintro e w8 ⟨v8, rfl, b8⟩
    have hcl : (sayB rs 0 1 (passB x.p.sec)).length = rs.length := by simp [sayB, numBytes2, length_passB]; have := HSM.out.1; omega
    have HCB : Hid (∀ z ∈ sayB rs 0 1 (passB x.p.sec), 0 ≤ z ∧ z < 256) := sayB_byte' HBY.out (HXO.out w (Touch.refl _ _)).all.sec
    have HPS : Hid (plainSum rs = 65535 - fold (W true (summedB (sayB rs 0 1 (passB x.p.sec))))) := by show _ = _; unfold plainSum; rw [plain_sum_doc rs (passB x.p.sec) HSM.out.1 (length_passB _)]
    have HPUT : Hid (∀ s, 0 ≤ s → s < 65536 → ((sayB rs 0 1 (passB x.p.sec)).set 12 (s / 256)).set 13 (s % 256) = sayB rs s 1 (passB x.p.sec)) := fun s h0 h1 => say_put rs (passB x.p.sec) s HSM.out.1 h0 h1
    have B8 : Hid (Buf w w8 v8 (sayB rs 0 1 (passB x.p.sec))) := b8.back T7.out
    clear b8 HSD
    have hSP : signPl rs x.p = sayB rs (plainSum rs) 1 (passB x.p.sec) := rfl
    have HSP : Hid (signPl rs x.p = sayB rs (plainSum rs) 1 (passB x.p.sec)) := hSP
    clear hSP
    generalize sayB rs 0 1 (passB x.p.sec) = cL at *
    obtain ⟨ua, uc, eu⟩ := B8.out.form
    subst eu
    obtain ⟨g8, hg8⟩ : ∃ g8, ua = some ⟨g8, 0, none⟩ := by
      rcases B8.out.own.2 with ⟨h, h0⟩ | ⟨g, cap, cur, h, _⟩
      · have := HSM.out.1; omega
      · simp at h; exact ⟨g, h.1⟩
    subst hg8
    obtain ⟨u1, s1, c1⟩ := cut_to B8.out.arg rfl (by have := HSM.out.1; omega) 16 (by have := HSM.out.1; omega)
    obtain ⟨u2, s2, c2⟩ := cut_from B8.out.arg rfl (by have := HSM.out.1; omega) 24 (by have := HSM.out.1; omega)
    have q1 : ∀ w, Sem.run Tryz.prog (Instr.slice 22 (.slice (some ⟨g8, 0, none⟩) cL.length uc) none (some (.int .i64 16)) none) w = .ok u1 w := s1
    have q2 : ∀ w, Sem.run Tryz.prog (Instr.slice 22 (.slice (some ⟨g8, 0, none⟩) cL.length uc) (some (.int .i64 24)) none none) w = .ok u2 w := s2
    have C1 : Hid (ArgAt w8 u1 (cL.take 16)) := c1
    have C2 : Hid (∀ w', Touch (fun _ => False) w8 w' → ArgAt w' u2 (cL.drop 24)) := fun w' t => c2.keep t (fun _ _ h => h)
    have HCL : Hid (cL.length = rs.length) := hcl
    clear s1 s2 c1 c2 hcl
    go_upto_region 25 with (at_builtin; refine app_arg rfl (.tmp 92) (.tmp 94) rfl w8 _ [] rfl (Buf.nil (Touch.refl _ _)) _ (cL.take 16) rfl C1.out (by have := HSM.out; have := HCL.out; simp; omega) ?_; intro p9 w9 b9)
    have B9 : Hid _ := b9
    clear b9
    go_upto_region 26 with (at_builtin; refine app_arg rfl (.tmp 96) (.tmp 98) rfl w8 _ _ rfl B9.out _ (cL.drop 24) rfl (C2.out w9 B9.out.t) (by have := HSM.out; have := HCL.out; simp; omega) ?_; intro p10 w10 b10)
    have B10 : Hid (Buf w8 w10 p10 (summedB cL)) := by
      have e : ([] ++ cL.take 16) ++ cL.drop 24 = summedB cL := by simp [summedB]
      rw [e] at b10
      exact b10
    have HPL := rplain_any p10 (summedB cL) w10 B10.out.arg (fun z hz => HCB.out z (by
      unfold summedB at hz
      rcases List.mem_append.1 hz with h | h
      · exact List.mem_of_mem_take h
      · exact List.mem_of_mem_drop h)) (by have h1 := HSM.out.2; have h2 := HCL.out; unfold summedB; rw [List.length_append, List.length_take, List.length_drop]; omega)
    rw [← HPS.out] at HPL
    have hsb : 0 ≤ plainSum rs ∧ plainSum rs < 65536 := by rw [HPS.out]; have := fold_bound (W true (summedB cL)); omega
    have BZ : Hid (Buf w w10 (.slice (some ⟨g8, 0, none⟩) cL.length uc) (((cL.set 12 (plainSum rs / 256)).set 13 (plainSum rs % 256))) → True) := fun _ => trivial
    clear BZ b10 B9 q1 q2 C1 C2
    have TX : Hid (Touch (fun _ => False) w8 w10) := B10.out.t
    have hput := HPUT.out (plainSum rs) hsb.1 hsb.2
    rw [← HSP.out] at hput
    have HPP : Hid (((cL.set 12 (plainSum rs / 256)).set 13 (plainSum rs % 256)) = signPl rs x.p) := hput
    clear hput HPUT HSP HPS
    generalize plainSum rs = ps at *
    go_wp2_with fail
    refine Calls.mono HPL ?_
    rintro e w11 ⟨rfl, rfl⟩
    have BW : Hid (Buf w w10 (.slice (some ⟨g8, 0, none⟩) cL.length uc) cL) := B8.out.keep TX.out
    have k12 := BW.out.own.cellAt 12 (by have := HSM.out.1; have := HCL.out; omega)
    have k13 := BW.out.own.cellAt 13 (by have := HSM.out.1; have := HCL.out; omega)
    have f12 := BW.out.own.frozenAt 12
    have f13 := BW.out.own.frozenAt 13
    obtain ⟨z12, hz12⟩ : ∃ z, cL[12]? = some z := ⟨cL[12]'(by have := HSM.out.1; have := HCL.out; omega), List.getElem?_eq_getElem _⟩
    obtain ⟨z13, hz13⟩ : ∃ z, cL[13]? = some z := ⟨cL[13]'(by have := HSM.out.1; have := HCL.out; omega), List.getElem?_eq_getElem _⟩
    simp only [bytesOf, List.getElem?_map, hz12, hz13, Option.map_some] at k12 k13
    have hl12 : (12 : Int) < (cL.length : Int) := by have := HSM.out.1; have := HCL.out; omega
    have hl13 : (13 : Int) < (cL.length : Int) := by have := HSM.out.1; have := HCL.out; omega
    clear hz12 hz13 HPL
    have BZ : Hid (Buf w ((w10.setCell ⟨g8, 12, none⟩ (.int .u8 (ps / 256))).setCell ⟨g8, 13, none⟩ (.int .u8 (ps % 256))) (.slice (some ⟨g8, 0, none⟩) cL.length uc) (signPl rs x.p)) := by
      have o := ((BW.out.own.stored 12 (.int .u8 (ps / 256))).1.stored 13 (.int .u8 (ps % 256))).1
      have hg := (BW.out.own.lt g8 rfl).1
      refine ⟨?_, (BW.out.t.setCell (p := ⟨g8, 12, none⟩) (Or.inr hg) _).setCell (p := ⟨g8, 13, none⟩) (Or.inr hg) _⟩
      rw [← HPP.out, bytesOf_set, bytesOf_set, List.length_set, List.length_set]
      exact o
    have hm : ps / 256 % 256 = ps / 256 := by omega
    go_wp2_with fail
    go_ret2
    exact ⟨_, rfl, BZ.out⟩
  · have hW : signW rs x.p seq = signDg rs x.p seq := by unfold signW; rw [if_neg (by omega)]
    rw [hW]
    have hk2 : (x.p.kind == 2) = true := by rw [hk]; rfl
    clear hW hk
    go_enter Tryz.func9, Tryz.ntmps9
    go_wp2_with fail
    refine Calls.mono HLn ?_
    rintro e w1 ⟨rfl, n1, rfl⟩
    go_wp2_with fail
    refine Calls.mono (HK _ ((Touch.refl _ _).drewN _)) ?_
    rintro e w2 ⟨rfl, t2⟩
    have T2 : Hid (Touch (fun _ => False) w w2) := ((Touch.refl _ _).drewN _).trans t2
    clear t2
    go_wp2_with fail
    refine Calls.mono (HR w2 T2.out) ?_
    rintro e w3 ⟨rfl, t3⟩
    have T3 : Hid (Touch (fun _ => False) w w3) := T2.out.trans t3
    clear t3 HLn HK HR
    go_wp2_with fail
    refine Calls.mono (HCK w3 T3.out) ?_
    rintro e w4 ⟨rfl, t4⟩
    have T4 : Hid (Touch (fun _ => False) w w4) := T3.out.trans t4
    clear t4
    go_wp2_with fail
    refine Calls.mono (HCH w4 T4.out) ?_
    rintro e w5 ⟨rfl, t5⟩
    have T5 : Hid (Touch (fun _ => False) w w5) := T4.out.trans t5
    clear t5 HCK HCH
    obtain ⟨-, gR, off, cR, eR, hcell⟩ := ChainAt.one (HC.out w5 T5.out) HX.out
    cases eR
    have e0 : w5.cell? ⟨gR, off + at' * 7, none⟩ = some (.int .u8 x.p.id) := by exact hcell 0 _ rfl
    have e1 : w5.cell? ⟨gR, off + at' * 7 + 1, none⟩ = some (.int .u16 x.p.kind) := by rw [Nat.add_assoc]; exact hcell 1 _ rfl
    have e2 : w5.cell? ⟨gR, off + at' * 7 + 2, none⟩ = some (.slice x.a x.p.sec.length x.c) := by rw [Nat.add_assoc]; exact hcell 2 _ rfl
    have e3 : w5.cell? ⟨gR, off + at' * 7 + 3, none⟩ = some (.int .i64 x.p.sf) := by rw [Nat.add_assoc]; exact hcell 3 _ rfl
    have e4 : w5.cell? ⟨gR, off + at' * 7 + 4, none⟩ = some (.int .i64 x.p.su) := by rw [Nat.add_assoc]; exact hcell 4 _ rfl
    have e5 : w5.cell? ⟨gR, off + at' * 7 + 5, none⟩ = some (.int .i64 x.p.tf) := by rw [Nat.add_assoc]; exact hcell 5 _ rfl
    have e6 : w5.cell? ⟨gR, off + at' * 7 + 6, none⟩ = some (.int .i64 x.p.tu) := by rw [Nat.add_assoc]; exact hcell 6 _ rfl
    clear hcell
    go_upto_region 18 with fail
    have kb := kbox_new w5 x.p.id x.p.kind x.a x.p.sec.length x.c x.p.sf x.p.su x.p.tf x.p.tu
    have tk : Touch (fun _ => False) w5 (w5.alloc (.cells #[.int .u8 x.p.id, .int .u16 x.p.kind, .slice x.a x.p.sec.length x.c, .int .i64 x.p.sf, .int .i64 x.p.su, .int .i64 x.p.tf, .int .i64 x.p.tu] 61)) := (Touch.refl _ _).alloc _
    generalize w5.alloc (.cells #[.int .u8 x.p.id, .int .u16 x.p.kind, .slice x.a x.p.sec.length x.c, .int .i64 x.p.sf, .int .i64 x.p.su, .int .i64 x.p.tf, .int .i64 x.p.tu] 61) = w6 at kb tk ⊢
    generalize w5.heap.size = gb at kb ⊢
    have T6 : Hid (Touch (fun _ => False) w w6) := T5.out.trans tk
    have HKB : Hid (∀ w', Touch (fun _ => False) w6 w' → KBox w' gb x.p.id x.p.kind x.a x.p.sec.length x.c x.p.sf x.p.su x.p.tf x.p.tu) := fun w' t => kb.keep t
    have a0 := kb.c0
    have a1 := kb.c1
    have a2 := kb.c2
    have a3 := kb.c3
    have a4 := kb.c4
    have a5 := kb.c5
    have a6 := kb.c6
    clear kb tk e0 e1 e2 e3 e4 e5 e6 hat0 hat1 hatn hlne
    have LM : Hid (ArgAt (w6.alloc (.cells #[.int .u8 0, .int .u8 0, .int .u8 x.p.id, .int .u8 16, .int .u8 (seq / 16777216 % 256), .int .u8 (seq / 65536 % 256), .int .u8 (seq / 256 % 256), .int .u8 (seq % 256)] 5)) (.slice (some ⟨w6.heap.size, 0, none⟩) 8 8) (markB x.p.id seq)) := lit_arg w6 (markB x.p.id seq) _ (by simp [bytesOf, markB, numBytes4]) (by simp [markB, numBytes4])
    have TL : Hid (Touch (fun _ => False) w (w6.alloc (.cells #[.int .u8 0, .int .u8 0, .int .u8 x.p.id, .int .u8 16, .int .u8 (seq / 16777216 % 256), .int .u8 (seq / 65536 % 256), .int .u8 (seq / 256 % 256), .int .u8 (seq % 256)] 5))) := T6.out.alloc _
    have HSD := rsigned_any _ _ rs (markB x.p.id seq) 2 _ (HV.out _ TL.out) LM.out HSM.out.1 (by have := HSM.out.2; omega) (by simp [markB, numBytes4]) (by omega)
    go_wp2_with fail
    refine Calls.mono HSD ?_
    rintro e w7 ⟨v7, rfl, b7⟩
    have B7 : Hid (Buf w w7 v7 (sayB rs 0 2 (markB x.p.id seq))) := b7.back TL.out
    have T67 : Hid (Touch (fun _ => False) w6 w7) := ((Touch.refl _ w6).alloc _).trans b7.t
    have hcl : (sayB rs 0 2 (markB x.p.id seq)).length = rs.length := by simp [sayB, numBytes2, markB, numBytes4]; have := HSM.out.1; omega
    have hcb : ∀ z ∈ sayB rs 0 2 (markB x.p.id seq), 0 ≤ z ∧ z < 256 := sayB_byteM HBY.out (HXO.out w (Touch.refl _ _)).all.id
    have hD : signDg rs x.p seq = sayB rs 0 2 (markB x.p.id seq) ++ keyedB x.p.sec (sayB rs 0 2 (markB x.p.id seq)) := rfl
    have HD : Hid (signDg rs x.p seq = sayB rs 0 2 (markB x.p.id seq) ++ keyedB x.p.sec (sayB rs 0 2 (markB x.p.id seq))) := hD
    have hsec := (HXO.out w (Touch.refl _ _)).all.sec
    generalize sayB rs 0 2 (markB x.p.id seq) = cL at *
    have hKE : ArgAt w7 (.slice x.a x.p.sec.length x.c) (natB (toN x.p.sec)) := by rw [natB_toN hsec]; exact (HXO.out w7 B7.out.t).arg
    have hKC : ArgAt w7 v7 (natB (toN cL)) := by rw [natB_toN hcb]; exact B7.out.arg
    have HKY := rkeyed_any (.slice x.a x.p.sec.length x.c) v7 (toN x.p.sec) (toN cL) w7 hKE hKC (toN_byte hsec) (toN_byte hcb) (by rw [length_toN]; have := HSM.out.2; omega)
    have HCL : Hid (cL.length = rs.length) := hcl
    have b2 := (HKB.out w7 T67.out).c2
    obtain ⟨ca, cc, ec⟩ := B7.out.form
    subst ec
    clear b7 HSD hcl hcb hD hsec hKE hKC LM TL a0 a1 a2 a3 a4 a5 a6
    go_wp2_with fail
    refine Calls.mono HKY ?_
    rintro e w8 ⟨v8, rfl, b8⟩
    have B8 : Hid (Buf w7 w8 v8 (natB (keyedN (toN x.p.sec) (toN cL)))) := b8
    have B78 : Hid (Buf w w8 (.slice ca cL.length cc) cL) := B7.out.keep b8.t
    have hkl : (natB (keyedN (toN x.p.sec) (toN cL))).length = 16 := length_keyedB x.p.sec cL
    have HKL : Hid ((natB (keyedN (toN x.p.sec) (toN cL))).length = 16) := hkl
    clear b8 HKY b2 hkl B7
    go_wp2_with (at_builtin; refine app_arg rfl (.tmp 85) (.tmp 86) rfl w _ _ rfl B78.out _ _ rfl B8.out.arg (by have := HSM.out; have := HCL.out; have := HKL.out; omega) ?_; intro p9 w9 b9)
    have B9 : Hid (Buf w w9 p9 (signDg rs x.p seq)) := by show Buf _ _ _ _; rw [HD.out]; exact b9
    clear b9
    go_wp2_with fail
    go_ret2
    exact ⟨_, rfl, B9.out⟩
end Go.Proofs.YtjjgbcjgmjggnaaGreatDoor
