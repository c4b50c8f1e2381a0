/- 'lodestarlaw02.PrefixNests': the walk. -/
import Derived.Test.YtmofndckjjbfgaaDoorPreLives
import Derived.Test.YtmofndckjjbfgaaDoorPreBack
import Derived.Test.YtmofndckjjbfgaaDoorPreBits
import Derived.Deep.DeepCutAuto
namespace Go.Proofs.YtmofndckjjbfgaaDoor
open Go.RowKit Go.Sort Go.Lib
set_option linter.unusedVariables false
set_option maxRecDepth 100000

theorem long_any (n : Nat) (w : World) : Calls Tryd.prog 29 #[.int .i64 (n : Int)] w fun e w' => e = .returned (.bool (decide (2147483647 < (n : Int)))) ∧ w = w' := by
  go_enter Tryd.func29, Tryd.ntmps29
  go_wp2
  all_goals go_ret
  all_goals exact ⟨rfl, rfl⟩
theorem long_at (n : Nat) (c : Bool) (w : World) (h : decide (2147483647 < (n : Int)) = c) : Calls Tryd.prog 29 #[.int .i64 (n : Int)] w fun e w' => e = .returned (.bool c) ∧ w = w' := by
  rw [← h]; exact long_any n w

theorem toNat_int {x : Int} (h : 0 ≤ x) : ((x.toNat : Nat) : Int) = x := by omega
theorem dotted_int (x : Int) (w : World) (h0 : 0 ≤ x) (h1 : x < 4294967296) (htab : Tab w) :
    Calls Tryd.prog 34 #[.int .u32 x] w fun e w' => e = .returned (.string ⟨(dot x.toNat).toArray⟩) ∧ Gr w w' := by
  have := dotted_any x.toNat w (by omega) htab
  rw [toNat_int h0] at this
  exact this
theorem text_int (x n : Int) (w : World) (h0 : 0 ≤ x) (h1 : x < 4294967296) (hn : 0 ≤ n) (hp : pis x n = true) (htab : Tab w) :
    Calls Tryd.prog 36 #[.agg #[.int .u32 x, .int .u8 n]] w fun e w' => e = .returned (.string ⟨(ptx x.toNat n.toNat).toArray⟩) ∧ Gr w w' := by
  have := text_yes x.toNat n.toNat w (by omega) (by rw [toNat_int h0, toNat_int hn]; exact hp) htab
  rw [toNat_int h0, toNat_int hn] at this
  exact this
theorem address_dot (x : Int) (w : World) (h0 : 0 ≤ x) (h1 : x < 4294967296) :
    Calls Tryd.prog 30 #[.string ⟨(dot x.toNat).toArray⟩] w fun e w' => e = .returned (.tuple #[.int .u32 x, .int .i64 0]) ∧ Gr w w' := by
  have := address_yes (dot x.toNat) x.toNat w (by have := dot_len x.toNat (by omega); omega) (rdA_dot (by omega))
  rw [toNat_int h0] at this
  exact this
theorem ptx_len {a n : Nat} (ha : a < 4294967296) (hn : n ≤ 32) : (ptx a n).length ≤ 19 := by
  have := dot_len a ha
  have := dec_len n (by omega)
  simp [ptx]; omega
theorem parse_text (x n : Int) (w : World) (h0 : 0 ≤ x) (h1 : x < 4294967296) (hn : 0 ≤ n) (hp : pis x n = true) :
    Calls Tryd.prog 32 #[.string ⟨(ptx x.toNat n.toNat).toArray⟩] w fun e w' => e = .returned (.tuple #[.agg #[.int .u32 x, .int .u8 n], .int .i64 0]) ∧ Gr w w' := by
  have hp' : pis x.toNat n.toNat = true := by rw [toNat_int h0, toNat_int hn]; exact hp
  have hn' := (pis_iff.1 hp).1
  have := parse_any (ptx x.toNat n.toNat) w (by have := ptx_len (a := x.toNat) (n := n.toNat) (by omega) (by omega); omega)
  rw [rdP_ptx (by omega) hp'] at this
  simp only [parV, toNat_int h0, toNat_int hn] at this
  exact this
theorem bits_mask (n : Int) (w : World) (h0 : 0 ≤ n) (h1 : n ≤ 32) :
    Calls Tryd.prog 7 #[.int .u32 (pmask n)] w fun e w' => e = .returned (.tuple #[.int .u8 n, .bool true]) ∧ w = w' := by
  have hb := pmask_bd h0
  have := bits_any (pmask n) w hb.1 hb.2
  have hf : pfind (pmask n) = some n.toNat := pfind_some (by omega) (by rw [toNat_int h0])
  obtain ⟨e1, e2⟩ := pb_yes hf
  rw [e1, e2, toNat_int h0] at this
  exact this

theorem nest_is {a n : Int} (hn : n ≤ 32) : pis (pcut a n) n = true := pis_iff.2 ⟨hn, pcut_mod⟩
theorem nest_has {a n : Int} (hn : n ≤ 32) : phas (pcut a n) n a = true := phas_iff.2 ⟨hn, rfl⟩
theorem nest_self {a n : Int} (h : pis a n = true) : pcov a n a n = true := pcov_iff.2 ⟨h, Int.le_refl _, by rw [phas_self]; exact h⟩
theorem pover_comm (a n b m : Int) : pover a n b m = pover b m a n := by rw [Bool.eq_iff_iff, pover_iff, pover_iff]; exact Or.comm
theorem pover_or (a n b m : Int) : pover a n b m = (pcov a n b m || pcov b m a n) := by rw [Bool.eq_iff_iff, pover_iff]; simp
theorem pcov_both {a n b m : Int} (h : pcov a n b m = true) : pcov b m a n = true ↔ a = b ∧ n = m := by
  obtain ⟨h1, h2, h3⟩ := pcov_iff.1 h
  constructor
  · intro h'
    obtain ⟨g1, g2, g3⟩ := pcov_iff.1 h'
    obtain rfl : n = m := by omega
    obtain ⟨_, e⟩ := phas_iff.1 h3
    rw [pcut_self (pis_iff.1 h1).2] at e
    exact ⟨e.symm, rfl⟩
  · rintro ⟨rfl, rfl⟩; exact nest_self h1
theorem phas_over {a n b m x : Int} (ha : phas a n x = true) (hb : phas b m x = true) : pover a n b m = true := by
  have hpa := phas_pis ha; have hpb := phas_pis hb
  have h1 := (phas_range hpa).1 ha; have h2 := (phas_range hpb).1 hb
  exact pover_ends.2 ⟨hpa, hpb, by omega, by omega⟩

theorem par_sym (l : List UInt8) : ∃ yA yN yE : Int, parV (rdP l) = .tuple #[.agg #[.int .u32 yA, .int .u8 yN], .int .i64 yE] ∧ ((yE = 0 ∧ (0 ≤ yA ∧ yA < 4294967296) ∧ 0 ≤ yN ∧ pis yA yN = true ∧ ptx yA.toNat yN.toNat = l) ∨ yE = 12 ∨ yE = 13) := by
  cases h : rdP l with
  | bad => exact ⟨0, 0, 13, rfl, .inr (.inr rfl)⟩
  | notp => exact ⟨0, 0, 12, rfl, .inr (.inl rfl)⟩
  | ok a n =>
    obtain ⟨h1, h2, h3⟩ := rdP_inv h
    exact ⟨a, n, 0, rfl, .inl ⟨rfl, ⟨by omega, by omega⟩, by omega, h3, by simpa using h1⟩⟩
theorem adr_sym (l : List UInt8) : ∃ dA dE : Int, adrV (rdA l) = .tuple #[.int .u32 dA, .int .i64 dE] ∧ ((dE = 0 ∧ (0 ≤ dA ∧ dA < 4294967296) ∧ dot dA.toNat = l) ∨ dE = 13) := by
  cases h : rdA l with
  | none => exact ⟨0, 13, rfl, .inr rfl⟩
  | some v => exact ⟨v, 0, rfl, .inl ⟨rfl, ⟨by omega, by have := rdA_lt h; omega⟩, by simpa using rdA_inv h⟩⟩

set_option maxHeartbeats 2000000 in
theorem nests_walk (a b n m : Int) (l : List UInt8) (w : World) (ha : 0 ≤ a ∧ a < 4294967296) (hb : 0 ≤ b ∧ b < 4294967296) (hn : 0 ≤ n ∧ n < 256) (hm : 0 ≤ m ∧ m < 256) (htab : Tab w) :
    Calls Tryd.prog 6 #[.int .u32 a, .int .u32 b, .int .u8 n, .int .u8 m, .string ⟨l.toArray⟩] w fun e w' => e = .returned (.bool true) ∧ Gr w w' := by
  have HA : Hid _ := ha
  have HB : Hid _ := hb
  have hn0 := hn.1
  have hm0 := hm.1
  have HT : Hid _ := htab
  clear ha hb htab
  cases hl : decide (2147483647 < (l.length : Int)) with
  | true =>
    have HL : Hid _ := hl
    clear hl
    go_enter Tryd.func6, Tryd.ntmps6
    go_wp2_with fail
    refine Calls.mono (long_at _ true _ HL.out) ?_
    rintro e w' ⟨rfl, rfl⟩
    go_wp2_with fail
    refine Calls.mono (lives_any _ HT.out) ?_
    rintro e w' ⟨rfl, hg⟩
    go_wp2_with fail
    go_ret
    exact ⟨rfl, hg⟩
  | false =>
    have HL : Hid _ := hl
    obtain ⟨N, hNe⟩ : ∃ N, n % 33 = N := ⟨_, rfl⟩
    obtain ⟨M, hMe⟩ : ∃ M, m % 33 = M := ⟨_, rfl⟩
    obtain ⟨A, hAe⟩ : ∃ A, pcut a N = A := ⟨_, rfl⟩
    obtain ⟨B, hBe⟩ : ∃ B, pcut b M = B := ⟨_, rfl⟩
    have HN : Hid (0 ≤ N ∧ N ≤ 32) := by show _ ∧ _; omega
    have HM : Hid (0 ≤ M ∧ M ≤ 32) := by show _ ∧ _; omega
    have HCA : Hid (0 ≤ A ∧ A < 4294967296) := by rw [← hAe]; exact pcut_bd HA.out.1 HA.out.2
    have HCB : Hid (0 ≤ B ∧ B < 4294967296) := by rw [← hBe]; exact pcut_bd HB.out.1 HB.out.2
    have HIA : Hid (pis A N = true) := by rw [← hAe]; exact nest_is HN.out.2
    have HIB : Hid (pis B M = true) := by rw [← hBe]; exact nest_is HM.out.2
    have HHA : Hid (phas A N a = true) := by rw [← hAe]; exact nest_has HN.out.2
    have HAE : Hid (pcut a N = A) := hAe
    have HBE : Hid (pcut b M = B) := hBe
    obtain ⟨v, hv⟩ : ∃ v, pover A N B M = v := ⟨_, rfl⟩
    have HV : Hid (pover A N B M = v) := hv
    clear hl hAe hBe hn hm hv
    go_enter Tryd.func6, Tryd.ntmps6
    go_wp2_with fail
    refine Calls.mono (long_at _ false _ HL.out) ?_
    rintro e w' ⟨rfl, rfl⟩
    go_wp2_with fail
    refine Calls.mono (make_le a N _ HN.out.1 HN.out.2 HA.out.1 HA.out.2) ?_
    rintro e w1 ⟨rfl, hg1⟩
    rw [HAE.out]
    go_wp2_with fail
    refine Calls.mono (make_le b M _ HM.out.1 HM.out.2 HB.out.1 HB.out.2) ?_
    rintro e w2 ⟨rfl, hg2⟩
    rw [HBE.out]
    have hp1 : Px w2 w1.heap.size A N := hg2.px (Px.new w1 _ _ 24)
    have l1 := hp1.lt
    have HP12 : Hid (Px (w2.alloc (.cells #[.int .u32 B, .int .u8 M] 24)) w1.heap.size A N) := (Gr.one _ _).px hp1
    have HP22 : Hid (Px (w2.alloc (.cells #[.int .u32 B, .int .u8 M] 24)) w2.heap.size B M) := Px.new w2 _ _ 24
    have HG2 : Hid (Gr w (w2.alloc (.cells #[.int .u32 B, .int .u8 M] 24))) := ((hg1.alloc _).trans hg2).alloc _
    obtain ⟨a0, a1⟩ := hp1
    clear hg1 hg2
    go_wp2_with fail
    refine Calls.mono (has_yes A N a _ HN.out.1 HA.out.1 HA.out.2 HHA.out) ?_
    rintro e w3 ⟨rfl, hg3⟩
    clear a0 a1
    have HP13 : Hid (Px w3 w1.heap.size A N) := hg3.px HP12.out
    have HP23 : Hid (Px w3 w2.heap.size B M) := hg3.px HP22.out
    have HG3 : Hid (Gr w w3) := HG2.out.trans hg3
    obtain ⟨a0, a1⟩ := HP13.out
    obtain ⟨b0, b1⟩ := HP23.out
    clear hg3 HP12 HP22 HG2
    go_wp2_with fail
    refine Calls.mono (covers_at true A N A N _ HN.out.1 HN.out.1 HCA.out.1 HCA.out.2 (nest_self HIA.out)) ?_
    rintro e w4 ⟨rfl, hg4⟩
    clear a0 a1 b0 b1
    have HP14 : Hid (Px w4 w1.heap.size A N) := hg4.px HP13.out
    have HP24 : Hid (Px w4 w2.heap.size B M) := hg4.px HP23.out
    have HG4 : Hid (Gr w w4) := HG3.out.trans hg4
    obtain ⟨a0, a1⟩ := HP14.out
    obtain ⟨b0, b1⟩ := HP24.out
    clear hg4 HP13 HP23 HG3
    go_wp2_with fail
    refine Calls.mono (overlap_any A N B M _ HN.out.1 HM.out.1 HCA.out.1 HCA.out.2 HCB.out.1 HCB.out.2) ?_
    rintro e w5 ⟨rfl, hg5⟩
    rw [HV.out]
    clear a0 a1 b0 b1
    have HP15 : Hid (Px w5 w1.heap.size A N) := hg5.px HP14.out
    have HP25 : Hid (Px w5 w2.heap.size B M) := hg5.px HP24.out
    have HG5 : Hid (Gr w w5) := HG4.out.trans hg5
    obtain ⟨a0, a1⟩ := HP15.out
    obtain ⟨b0, b1⟩ := HP25.out
    clear hg5 HP14 HP24 HG4
    go_upto_region 8 with fail
    go_cut [113] (fun c wx => c = .bool false ∧ Hid (Gr w wx ∧ Px wx w1.heap.size A N ∧ Px wx w2.heap.size B M))
    case first =>
      as_aux_lemma =>
        go_wp2_with fail
        refine Calls.mono (overlap_any B M A N _ HM.out.1 HN.out.1 HCB.out.1 HCB.out.2 HCA.out.1 HCA.out.2) ?_
        rintro e w6 ⟨rfl, hg6⟩
        rw [pover_comm B M A N, HV.out]
        clear a0 a1 b0 b1
        have HP16 : Hid (Px w6 w1.heap.size A N) := hg6.px HP15.out
        have HP26 : Hid (Px w6 w2.heap.size B M) := hg6.px HP25.out
        have HG6 : Hid (Gr w w6) := HG5.out.trans hg6
        obtain ⟨a0, a1⟩ := HP16.out
        obtain ⟨b0, b1⟩ := HP26.out
        clear hg6 HP15 HP25 HG5
        cases hc1 : pcov A N B M with
        | true =>
          have HC1 : Hid _ := hc1
          obtain rfl : v = true := by rw [← HV.out, pover_or, hc1]; rfl
          obtain ⟨_, hNM, hh⟩ := pcov_iff.1 hc1
          have HH : Hid _ := hh
          clear hc1 hh
          go_wp2_with fail
          refine Calls.mono (covers_at true A N B M _ HN.out.1 HM.out.1 HCB.out.1 HCB.out.2 HC1.out) ?_
          rintro e w7 ⟨rfl, hg7⟩
          clear a0 a1 b0 b1
          have HP17 : Hid (Px w7 w1.heap.size A N) := hg7.px HP16.out
          have HP27 : Hid (Px w7 w2.heap.size B M) := hg7.px HP26.out
          have HG7 : Hid (Gr w w7) := HG6.out.trans hg7
          obtain ⟨a0, a1⟩ := HP17.out
          obtain ⟨b0, b1⟩ := HP27.out
          clear hg7 HP16 HP26 HG6
          go_wp2_with fail
          refine Calls.mono (covers_at true A N B M _ HN.out.1 HM.out.1 HCB.out.1 HCB.out.2 HC1.out) ?_
          rintro e w8 ⟨rfl, hg8⟩
          clear a0 a1 b0 b1
          have HP18 : Hid (Px w8 w1.heap.size A N) := hg8.px HP17.out
          have HP28 : Hid (Px w8 w2.heap.size B M) := hg8.px HP27.out
          have HG8 : Hid (Gr w w8) := HG7.out.trans hg8
          obtain ⟨a0, a1⟩ := HP18.out
          obtain ⟨b0, b1⟩ := HP28.out
          clear hg8 HP17 HP27 HG7
          go_wp2_with fail
          refine Calls.mono (has_yes A N B _ HN.out.1 HCB.out.1 HCB.out.2 HH.out) ?_
          rintro e w9 ⟨rfl, hg9⟩
          clear a0 a1 b0 b1
          have HP19 : Hid (Px w9 w1.heap.size A N) := hg9.px HP18.out
          have HP29 : Hid (Px w9 w2.heap.size B M) := hg9.px HP28.out
          have HG9 : Hid (Gr w w9) := HG8.out.trans hg9
          obtain ⟨a0, a1⟩ := HP19.out
          obtain ⟨b0, b1⟩ := HP29.out
          clear hg9 HP18 HP28 HG8
          go_wp2_with fail
          go_meet
          case rel => exact ⟨by rw [decide_eq_false (by omega : ¬ M < N)], HG9.out, HP19.out, HP29.out⟩
        | false =>
          have HC1 : Hid _ := hc1
          have HC2 : Hid (pcov B M A N = v) := by show _ = _; rw [← HV.out, pover_or, hc1]; simp
          clear hc1
          go_wp2_with fail
          refine Calls.mono (covers_at false A N B M _ HN.out.1 HM.out.1 HCB.out.1 HCB.out.2 HC1.out) ?_
          rintro e w7 ⟨rfl, hg7⟩
          clear a0 a1 b0 b1
          have HP17 : Hid (Px w7 w1.heap.size A N) := hg7.px HP16.out
          have HP27 : Hid (Px w7 w2.heap.size B M) := hg7.px HP26.out
          have HG7 : Hid (Gr w w7) := HG6.out.trans hg7
          obtain ⟨a0, a1⟩ := HP17.out
          obtain ⟨b0, b1⟩ := HP27.out
          clear hg7 HP16 HP26 HG6
          go_wp2_with fail
          refine Calls.mono (covers_at v B M A N _ HM.out.1 HN.out.1 HCA.out.1 HCA.out.2 HC2.out) ?_
          rintro e w8 ⟨rfl, hg8⟩
          clear a0 a1 b0 b1
          have HP18 : Hid (Px w8 w1.heap.size A N) := hg8.px HP17.out
          have HP28 : Hid (Px w8 w2.heap.size B M) := hg8.px HP27.out
          have HG8 : Hid (Gr w w8) := HG7.out.trans hg8
          obtain ⟨a0, a1⟩ := HP18.out
          obtain ⟨b0, b1⟩ := HP28.out
          clear hg8 HP17 HP27 HG7
          go_wp2_with fail
          refine Calls.mono (covers_at false A N B M _ HN.out.1 HM.out.1 HCB.out.1 HCB.out.2 HC1.out) ?_
          rintro e w9 ⟨rfl, hg9⟩
          clear a0 a1 b0 b1
          have HP19 : Hid (Px w9 w1.heap.size A N) := hg9.px HP18.out
          have HP29 : Hid (Px w9 w2.heap.size B M) := hg9.px HP28.out
          have HG9 : Hid (Gr w w9) := HG8.out.trans hg9
          obtain ⟨a0, a1⟩ := HP19.out
          obtain ⟨b0, b1⟩ := HP29.out
          clear hg9 HP18 HP28 HG8
          go_wp2_with fail
          go_meet
          case rel => exact ⟨rfl, HG9.out, HP19.out, HP29.out⟩
    case rest =>
      as_aux_lemma =>
        obtain ⟨rfl, HW⟩ := hcut
        obtain ⟨hG, hP1, hP2⟩ := HW.out
        clear a0 a1 b0 b1
        have HP1c : Hid (Px wc w1.heap.size A N) := hP1
        have HP2c : Hid (Px wc w2.heap.size B M) := hP2
        have HGc : Hid (Gr w wc) := hG
        obtain ⟨a0, a1⟩ := hP1
        obtain ⟨b0, b1⟩ := hP2
        clear hG HW HP15 HP25 HG5
        go_upto_region 10 with fail
        go_cut [134] (fun c wx => c = .bool false ∧ Hid (Gr w wx ∧ Px wx w1.heap.size A N ∧ Px wx w2.heap.size B M))
        case first =>
          as_aux_lemma =>
            have p0 := aft_cell a0
            have p1 := aft_cell a1
            have p2 := aft_cell b0
            have p3 := aft_cell b1
            cases hc1 : pcov A N B M with
            | true =>
              have HC1 : Hid _ := hc1
              obtain rfl : v = true := by rw [← HV.out, pover_or, hc1]; rfl
              by_cases hAB : A = B
              · obtain rfl := hAB
                by_cases hNM : N = M
                · obtain rfl := hNM
                  clear hc1
                  cases hh : phas A N a with
                  | true =>
                    have HH : Hid _ := hh
                    clear hh
                    refine wp_region_aft (by kernel_rfl) (by kernel_rfl) ?_
                    repeat (first | go_big_quiet_skip | (go_big_quiet_want; go_big_quiet_op; first | go_big_quiet_on | (refine Exists.intro _ ⟨fun _ => rfl, ?_⟩; go_big_quiet_on)))
                    go_big_quiet_want; go_big_quiet_op; refine Exists.intro _ ⟨fun u => Aft.call (covers_at true A N A N _ HN.out.1 HN.out.1 HCA.out.1 HCA.out.2 HC1.out), ?_⟩; go_big_quiet_on
                    repeat (first | go_big_quiet_skip | (go_big_quiet_want; go_big_quiet_op; first | go_big_quiet_on | (refine Exists.intro _ ⟨fun _ => rfl, ?_⟩; go_big_quiet_on)))
                    go_big_quiet_want; go_big_quiet_op; refine Exists.intro _ ⟨fun u => Aft.call (covers_at true A N A N _ HN.out.1 HN.out.1 HCA.out.1 HCA.out.2 HC1.out), ?_⟩; go_big_quiet_on
                    repeat (first | go_big_quiet_skip | (go_big_quiet_want; go_big_quiet_op; first | go_big_quiet_on | (refine Exists.intro _ ⟨fun _ => rfl, ?_⟩; go_big_quiet_on)))
                    go_big_quiet_want; go_big_quiet_op; refine Exists.intro _ ⟨fun u => Aft.call (has_yes A N a _ HN.out.1 HA.out.1 HA.out.2 HH.out), ?_⟩; go_big_quiet_on
                    repeat (first | go_big_quiet_skip | (go_big_quiet_want; go_big_quiet_op; first | go_big_quiet_on | (refine Exists.intro _ ⟨fun _ => rfl, ?_⟩; go_big_quiet_on)))
                    refine wpQuiet_nil ?_
                    rintro _ ⟨⟨wq, hgq⟩, rfl⟩
                    clear p0 p1 p2 p3
                    go_wp2_with fail
                    go_meet
                    case rel => exact ⟨rfl, HGc.out.trans hgq, hgq.px HP1c.out, hgq.px HP2c.out⟩
                  | false =>
                    have HH : Hid _ := hh
                    clear hh
                    refine wp_region_aft (by kernel_rfl) (by kernel_rfl) ?_
                    repeat (first | go_big_quiet_skip | (go_big_quiet_want; go_big_quiet_op; first | go_big_quiet_on | (refine Exists.intro _ ⟨fun _ => rfl, ?_⟩; go_big_quiet_on)))
                    go_big_quiet_want; go_big_quiet_op; refine Exists.intro _ ⟨fun u => Aft.call (covers_at true A N A N _ HN.out.1 HN.out.1 HCA.out.1 HCA.out.2 HC1.out), ?_⟩; go_big_quiet_on
                    repeat (first | go_big_quiet_skip | (go_big_quiet_want; go_big_quiet_op; first | go_big_quiet_on | (refine Exists.intro _ ⟨fun _ => rfl, ?_⟩; go_big_quiet_on)))
                    go_big_quiet_want; go_big_quiet_op; refine Exists.intro _ ⟨fun u => Aft.call (covers_at true A N A N _ HN.out.1 HN.out.1 HCA.out.1 HCA.out.2 HC1.out), ?_⟩; go_big_quiet_on
                    repeat (first | go_big_quiet_skip | (go_big_quiet_want; go_big_quiet_op; first | go_big_quiet_on | (refine Exists.intro _ ⟨fun _ => rfl, ?_⟩; go_big_quiet_on)))
                    go_big_quiet_want; go_big_quiet_op; refine Exists.intro _ ⟨fun u => Aft.call (has_no A N a _ HN.out.1 HA.out.1 HA.out.2 HH.out), ?_⟩; go_big_quiet_on
                    repeat (first | go_big_quiet_skip | (go_big_quiet_want; go_big_quiet_op; first | go_big_quiet_on | (refine Exists.intro _ ⟨fun _ => rfl, ?_⟩; go_big_quiet_on)))
                    refine wpQuiet_nil ?_
                    rintro _ ⟨⟨wq, hgq⟩, rfl⟩
                    clear p0 p1 p2 p3
                    go_wp2_with fail
                    go_meet
                    case rel => exact ⟨rfl, HGc.out.trans hgq, hgq.px HP1c.out, hgq.px HP2c.out⟩
                · have HC2 : Hid (pcov A M A N = false) := by
                    cases h : pcov A M A N with
                    | false => rfl
                    | true => exact absurd ((pcov_both hc1).1 h).2 hNM
                  clear hc1
                  cases hh : phas A M a with
                  | true =>
                    have HH : Hid _ := hh
                    clear hh
                    refine wp_region_aft (by kernel_rfl) (by kernel_rfl) ?_
                    repeat (first | go_big_quiet_skip | (go_big_quiet_want; go_big_quiet_op; first | go_big_quiet_on | (refine Exists.intro _ ⟨fun _ => rfl, ?_⟩; go_big_quiet_on)))
                    go_big_quiet_want; go_big_quiet_op; refine Exists.intro _ ⟨fun u => Aft.call (covers_at true A N A M _ HN.out.1 HM.out.1 HCA.out.1 HCA.out.2 HC1.out), ?_⟩; go_big_quiet_on
                    repeat (first | go_big_quiet_skip | (go_big_quiet_want; go_big_quiet_op; first | go_big_quiet_on | (refine Exists.intro _ ⟨fun _ => rfl, ?_⟩; go_big_quiet_on)))
                    go_big_quiet_want; go_big_quiet_op; refine Exists.intro _ ⟨fun u => Aft.call (covers_at false A M A N _ HM.out.1 HN.out.1 HCA.out.1 HCA.out.2 HC2.out), ?_⟩; go_big_quiet_on
                    repeat (first | go_big_quiet_skip | (go_big_quiet_want; go_big_quiet_op; first | go_big_quiet_on | (refine Exists.intro _ ⟨fun _ => rfl, ?_⟩; go_big_quiet_on)))
                    go_big_quiet_want; go_big_quiet_op; refine Exists.intro _ ⟨fun u => Aft.call (has_yes A M a _ HM.out.1 HA.out.1 HA.out.2 HH.out), ?_⟩; go_big_quiet_on
                    repeat (first | go_big_quiet_skip | (go_big_quiet_want; go_big_quiet_op; first | go_big_quiet_on | (refine Exists.intro _ ⟨fun _ => rfl, ?_⟩; go_big_quiet_on)))
                    refine wpQuiet_nil ?_
                    rintro _ ⟨⟨wq, hgq⟩, rfl⟩
                    clear p0 p1 p2 p3
                    go_wp2_with fail
                    go_meet
                    case rel => exact ⟨rfl, HGc.out.trans hgq, hgq.px HP1c.out, hgq.px HP2c.out⟩
                  | false =>
                    have HH : Hid _ := hh
                    clear hh
                    refine wp_region_aft (by kernel_rfl) (by kernel_rfl) ?_
                    repeat (first | go_big_quiet_skip | (go_big_quiet_want; go_big_quiet_op; first | go_big_quiet_on | (refine Exists.intro _ ⟨fun _ => rfl, ?_⟩; go_big_quiet_on)))
                    go_big_quiet_want; go_big_quiet_op; refine Exists.intro _ ⟨fun u => Aft.call (covers_at true A N A M _ HN.out.1 HM.out.1 HCA.out.1 HCA.out.2 HC1.out), ?_⟩; go_big_quiet_on
                    repeat (first | go_big_quiet_skip | (go_big_quiet_want; go_big_quiet_op; first | go_big_quiet_on | (refine Exists.intro _ ⟨fun _ => rfl, ?_⟩; go_big_quiet_on)))
                    go_big_quiet_want; go_big_quiet_op; refine Exists.intro _ ⟨fun u => Aft.call (covers_at false A M A N _ HM.out.1 HN.out.1 HCA.out.1 HCA.out.2 HC2.out), ?_⟩; go_big_quiet_on
                    repeat (first | go_big_quiet_skip | (go_big_quiet_want; go_big_quiet_op; first | go_big_quiet_on | (refine Exists.intro _ ⟨fun _ => rfl, ?_⟩; go_big_quiet_on)))
                    go_big_quiet_want; go_big_quiet_op; refine Exists.intro _ ⟨fun u => Aft.call (has_no A M a _ HM.out.1 HA.out.1 HA.out.2 HH.out), ?_⟩; go_big_quiet_on
                    repeat (first | go_big_quiet_skip | (go_big_quiet_want; go_big_quiet_op; first | go_big_quiet_on | (refine Exists.intro _ ⟨fun _ => rfl, ?_⟩; go_big_quiet_on)))
                    refine wpQuiet_nil ?_
                    rintro _ ⟨⟨wq, hgq⟩, rfl⟩
                    clear p0 p1 p2 p3
                    go_wp2_with fail
                    go_meet
                    case rel => exact ⟨rfl, HGc.out.trans hgq, hgq.px HP1c.out, hgq.px HP2c.out⟩
              · have HC2 : Hid (pcov B M A N = false) := by
                  cases h : pcov B M A N with
                  | false => rfl
                  | true => exact absurd ((pcov_both hc1).1 h).1 hAB
                clear hc1
                cases hh : phas B M a with
                | true =>
                  have HH : Hid _ := hh
                  clear hh
                  refine wp_region_aft (by kernel_rfl) (by kernel_rfl) ?_
                  repeat (first | go_big_quiet_skip | (go_big_quiet_want; go_big_quiet_op; first | go_big_quiet_on | (refine Exists.intro _ ⟨fun _ => rfl, ?_⟩; go_big_quiet_on)))
                  go_big_quiet_want; go_big_quiet_op; refine Exists.intro _ ⟨fun u => Aft.call (covers_at true A N B M _ HN.out.1 HM.out.1 HCB.out.1 HCB.out.2 HC1.out), ?_⟩; go_big_quiet_on
                  repeat (first | go_big_quiet_skip | (go_big_quiet_want; go_big_quiet_op; first | go_big_quiet_on | (refine Exists.intro _ ⟨fun _ => rfl, ?_⟩; go_big_quiet_on)))
                  go_big_quiet_want; go_big_quiet_op; refine Exists.intro _ ⟨fun u => Aft.call (covers_at false B M A N _ HM.out.1 HN.out.1 HCA.out.1 HCA.out.2 HC2.out), ?_⟩; go_big_quiet_on
                  repeat (first | go_big_quiet_skip | (go_big_quiet_want; go_big_quiet_op; first | go_big_quiet_on | (refine Exists.intro _ ⟨fun _ => rfl, ?_⟩; go_big_quiet_on)))
                  go_big_quiet_want; go_big_quiet_op; refine Exists.intro _ ⟨fun u => Aft.call (has_yes B M a _ HM.out.1 HA.out.1 HA.out.2 HH.out), ?_⟩; go_big_quiet_on
                  repeat (first | go_big_quiet_skip | (go_big_quiet_want; go_big_quiet_op; first | go_big_quiet_on | (refine Exists.intro _ ⟨fun _ => rfl, ?_⟩; go_big_quiet_on)))
                  refine wpQuiet_nil ?_
                  rintro _ ⟨⟨wq, hgq⟩, rfl⟩
                  clear p0 p1 p2 p3
                  go_wp2_with fail
                  go_meet
                  case rel => exact ⟨rfl, HGc.out.trans hgq, hgq.px HP1c.out, hgq.px HP2c.out⟩
                | false =>
                  have HH : Hid _ := hh
                  clear hh
                  refine wp_region_aft (by kernel_rfl) (by kernel_rfl) ?_
                  repeat (first | go_big_quiet_skip | (go_big_quiet_want; go_big_quiet_op; first | go_big_quiet_on | (refine Exists.intro _ ⟨fun _ => rfl, ?_⟩; go_big_quiet_on)))
                  go_big_quiet_want; go_big_quiet_op; refine Exists.intro _ ⟨fun u => Aft.call (covers_at true A N B M _ HN.out.1 HM.out.1 HCB.out.1 HCB.out.2 HC1.out), ?_⟩; go_big_quiet_on
                  repeat (first | go_big_quiet_skip | (go_big_quiet_want; go_big_quiet_op; first | go_big_quiet_on | (refine Exists.intro _ ⟨fun _ => rfl, ?_⟩; go_big_quiet_on)))
                  go_big_quiet_want; go_big_quiet_op; refine Exists.intro _ ⟨fun u => Aft.call (covers_at false B M A N _ HM.out.1 HN.out.1 HCA.out.1 HCA.out.2 HC2.out), ?_⟩; go_big_quiet_on
                  repeat (first | go_big_quiet_skip | (go_big_quiet_want; go_big_quiet_op; first | go_big_quiet_on | (refine Exists.intro _ ⟨fun _ => rfl, ?_⟩; go_big_quiet_on)))
                  go_big_quiet_want; go_big_quiet_op; refine Exists.intro _ ⟨fun u => Aft.call (has_no B M a _ HM.out.1 HA.out.1 HA.out.2 HH.out), ?_⟩; go_big_quiet_on
                  repeat (first | go_big_quiet_skip | (go_big_quiet_want; go_big_quiet_op; first | go_big_quiet_on | (refine Exists.intro _ ⟨fun _ => rfl, ?_⟩; go_big_quiet_on)))
                  refine wpQuiet_nil ?_
                  rintro _ ⟨⟨wq, hgq⟩, rfl⟩
                  clear p0 p1 p2 p3
                  go_wp2_with fail
                  go_meet
                  case rel => exact ⟨rfl, HGc.out.trans hgq, hgq.px HP1c.out, hgq.px HP2c.out⟩
            | false =>
              have HC1 : Hid _ := hc1
              clear hc1
              cases hh : phas B M a with
              | true =>
                obtain rfl : v = true := by rw [← HV.out]; exact phas_over HHA.out hh
                have HH : Hid _ := hh
                clear hh
                refine wp_region_aft (by kernel_rfl) (by kernel_rfl) ?_
                repeat (first | go_big_quiet_skip | (go_big_quiet_want; go_big_quiet_op; first | go_big_quiet_on | (refine Exists.intro _ ⟨fun _ => rfl, ?_⟩; go_big_quiet_on)))
                go_big_quiet_want; go_big_quiet_op; refine Exists.intro _ ⟨fun u => Aft.call (covers_at false A N B M _ HN.out.1 HM.out.1 HCB.out.1 HCB.out.2 HC1.out), ?_⟩; go_big_quiet_on
                repeat (first | go_big_quiet_skip | (go_big_quiet_want; go_big_quiet_op; first | go_big_quiet_on | (refine Exists.intro _ ⟨fun _ => rfl, ?_⟩; go_big_quiet_on)))
                go_big_quiet_want; go_big_quiet_op; refine Exists.intro _ ⟨fun u => Aft.call (has_yes B M a _ HM.out.1 HA.out.1 HA.out.2 HH.out), ?_⟩; go_big_quiet_on
                repeat (first | go_big_quiet_skip | (go_big_quiet_want; go_big_quiet_op; first | go_big_quiet_on | (refine Exists.intro _ ⟨fun _ => rfl, ?_⟩; go_big_quiet_on)))
                refine wpQuiet_nil ?_
                rintro _ ⟨⟨wq, hgq⟩, rfl⟩
                clear p0 p1 p2 p3
                go_wp2_with fail
                go_meet
                case rel => exact ⟨rfl, HGc.out.trans hgq, hgq.px HP1c.out, hgq.px HP2c.out⟩
              | false =>
                have HH : Hid _ := hh
                clear hh
                refine wp_region_aft (by kernel_rfl) (by kernel_rfl) ?_
                repeat (first | go_big_quiet_skip | (go_big_quiet_want; go_big_quiet_op; first | go_big_quiet_on | (refine Exists.intro _ ⟨fun _ => rfl, ?_⟩; go_big_quiet_on)))
                go_big_quiet_want; go_big_quiet_op; refine Exists.intro _ ⟨fun u => Aft.call (covers_at false A N B M _ HN.out.1 HM.out.1 HCB.out.1 HCB.out.2 HC1.out), ?_⟩; go_big_quiet_on
                repeat (first | go_big_quiet_skip | (go_big_quiet_want; go_big_quiet_op; first | go_big_quiet_on | (refine Exists.intro _ ⟨fun _ => rfl, ?_⟩; go_big_quiet_on)))
                go_big_quiet_want; go_big_quiet_op; refine Exists.intro _ ⟨fun u => Aft.call (has_no B M a _ HM.out.1 HA.out.1 HA.out.2 HH.out), ?_⟩; go_big_quiet_on
                repeat (first | go_big_quiet_skip | (go_big_quiet_want; go_big_quiet_op; first | go_big_quiet_on | (refine Exists.intro _ ⟨fun _ => rfl, ?_⟩; go_big_quiet_on)))
                refine wpQuiet_nil ?_
                rintro _ ⟨⟨wq, hgq⟩, rfl⟩
                clear p0 p1 p2 p3
                go_wp2_with fail
                go_meet
                case rel => exact ⟨rfl, HGc.out.trans hgq, hgq.px HP1c.out, hgq.px HP2c.out⟩
        case rest =>
          as_aux_lemma =>
            obtain ⟨rfl, HW⟩ := hcut
            obtain ⟨hG, hP1, hP2⟩ := HW.out
            clear a0 a1 b0 b1 HP1c HP2c HGc
            have HP1c : Hid (Px wc w1.heap.size A N) := hP1
            have HGc : Hid (Gr w wc) := hG
            have HLs : Hid (l.length ≤ 2147483647) := by
              show _ ≤ _
              have := of_decide_eq_false HL.out
              omega
            obtain ⟨a0, a1⟩ := hP1
            clear hG HW hP2
            obtain ⟨yA, yN, yE, hyv, hyc⟩ := par_sym l
            obtain ⟨dA, dE, hdv, hdc⟩ := adr_sym l
            have HYV : Hid _ := hyv
            have HYC : Hid _ := hyc
            have HDV : Hid _ := hdv
            have HDC : Hid _ := hdc
            clear hyv hyc hdv hdc
            go_wp2_with fail
            refine Calls.mono (text_int A N _ HCA.out.1 HCA.out.2 HN.out.1 HIA.out (HGc.out.tab HT.out)) ?_
            rintro e w10 ⟨rfl, hg10⟩
            go_wp2_with fail
            refine Calls.mono (parse_text A N _ HCA.out.1 HCA.out.2 HN.out.1 HIA.out) ?_
            rintro e w11 ⟨rfl, hg11⟩
            have HG11 : Hid (Gr w w11) := (HGc.out.trans hg10).trans hg11
            have hp := (hg10.trans hg11).px HP1c.out
            have l2 := hp.lt
            have HP11 : Hid (Px w11 w1.heap.size A N) := hp
            clear a0 a1 hg10 hg11 hp HGc HP1c
            go_wp2_with fail
            refine Calls.mono (dotted_int b _ HB.out.1 HB.out.2 ((HG11.out.alloc _).tab HT.out)) ?_
            rintro e w12 ⟨rfl, hg12⟩
            go_wp2_with fail
            refine Calls.mono (address_dot b _ HB.out.1 HB.out.2) ?_
            rintro e w13 ⟨rfl, hg13⟩
            have HG13 : Hid (Gr w w13) := ((HG11.out.alloc _).trans hg12).trans hg13
            have HP13 : Hid (Px w13 w1.heap.size A N) := (hg12.trans hg13).px ((Gr.one _ _).px HP11.out)
            have HX13 : Hid (Px w13 w11.heap.size A N) := (hg12.trans hg13).px (Px.new w11 A N 24)
            obtain ⟨a0, a1⟩ := HP13.out
            obtain ⟨x0, x1⟩ := HX13.out
            clear hg12 hg13 HG11 HP11
            go_wp2_with fail
            refine Calls.mono (parse_any l _ HLs.out) ?_
            rintro e w14 ⟨rfl, hg14⟩
            rw [HYV.out]
            have hp := hg14.px HP13.out
            have l3 := hp.lt
            have HP14 : Hid (Px w14 w1.heap.size A N) := hp
            have HG14 : Hid (Gr w w14) := HG13.out.trans hg14
            clear a0 a1 x0 x1 hg14 hp HP13 HX13 HG13
            go_wp2_with fail
            refine Calls.mono (address_any l _ HLs.out) ?_
            rintro e w15 ⟨rfl, hg15⟩
            rw [HDV.out]
            have HP15 : Hid (Px w15 w1.heap.size A N) := hg15.px ((Gr.one _ _).px HP14.out)
            have HY15 : Hid (Px w15 w14.heap.size yA yN) := hg15.px (Px.new w14 yA yN 24)
            have HG15 : Hid (Gr w w15) := (HG14.out.alloc _).trans hg15
            obtain ⟨a0, a1⟩ := HP15.out
            obtain ⟨y0, y1⟩ := HY15.out
            clear hg15 HP14 HG14
            go_upto_region 18 with fail
            go_cut [190] (fun c wx => c = .bool false ∧ Hid (Gr w wx ∧ Px wx w1.heap.size A N))
            case first =>
              as_aux_lemma =>
                rcases HYC.out with hy | hy | hy
                · obtain ⟨rfl, hya, hyn, hyp, hyt⟩ := hy
                  have HYP : Hid _ := hyp
                  have HYT : Hid _ := hyt
                  clear hyp hyt
                  rcases HDC.out with hd | hd
                  · obtain ⟨rfl, hda, hdt⟩ := hd
                    have HDT : Hid _ := hdt
                    clear hdt HYC HDC HYV HDV
                    go_wp2_with fail
                    refine Calls.mono (text_int yA yN _ hya.1 hya.2 hyn HYP.out (HG15.out.tab HT.out)) ?_
                    rintro e w16 ⟨rfl, hg16⟩
                    rw [HYT.out]
                    go_wp2_with fail
                    refine Calls.mono (dotted_int dA _ hda.1 hda.2 ((HG15.out.trans hg16).tab HT.out)) ?_
                    rintro e w17 ⟨rfl, hg17⟩
                    rw [HDT.out]
                    go_wp2_with fail
                    go_meet
                    case rel => exact ⟨rfl, (HG15.out.trans hg16).trans hg17, (hg16.trans hg17).px HP15.out⟩
                  · obtain rfl := hd
                    clear HYC HDC HYV HDV
                    go_wp2_with fail
                    refine Calls.mono (text_int yA yN _ hya.1 hya.2 hyn HYP.out (HG15.out.tab HT.out)) ?_
                    rintro e w16 ⟨rfl, hg16⟩
                    rw [HYT.out]
                    go_wp2_with fail
                    go_meet
                    case rel => exact ⟨rfl, HG15.out.trans hg16, hg16.px HP15.out⟩
                · obtain rfl := hy
                  rcases HDC.out with hd | hd
                  · obtain ⟨rfl, hda, hdt⟩ := hd
                    have HDT : Hid _ := hdt
                    clear hdt HYC HDC HYV HDV
                    go_wp2_with fail
                    refine Calls.mono (dotted_int dA _ hda.1 hda.2 (HG15.out.tab HT.out)) ?_
                    rintro e w17 ⟨rfl, hg17⟩
                    rw [HDT.out]
                    go_wp2_with fail
                    go_meet
                    case rel => exact ⟨rfl, HG15.out.trans hg17, hg17.px HP15.out⟩
                  · obtain rfl := hd
                    clear HYC HDC HYV HDV
                    go_wp2_with fail
                    go_meet
                    case rel => exact ⟨rfl, HG15.out, HP15.out⟩
                · obtain rfl := hy
                  rcases HDC.out with hd | hd
                  · obtain ⟨rfl, hda, hdt⟩ := hd
                    have HDT : Hid _ := hdt
                    clear hdt HYC HDC HYV HDV
                    go_wp2_with fail
                    refine Calls.mono (dotted_int dA _ hda.1 hda.2 (HG15.out.tab HT.out)) ?_
                    rintro e w17 ⟨rfl, hg17⟩
                    rw [HDT.out]
                    go_wp2_with fail
                    go_meet
                    case rel => exact ⟨rfl, HG15.out.trans hg17, hg17.px HP15.out⟩
                  · obtain rfl := hd
                    clear HYC HDC HYV HDV
                    go_wp2_with fail
                    go_meet
                    case rel => exact ⟨rfl, HG15.out, HP15.out⟩
            case rest =>
              as_aux_lemma =>
                obtain ⟨rfl, HW⟩ := hcut
                obtain ⟨hG, hP1⟩ := HW.out
                clear a0 a1 y0 y1 HP15 HY15 HG15
                have HGz : Hid (Gr w wc) := hG
                obtain ⟨a0, a1⟩ := hP1
                have HMK : Hid (bits .and .u32 a (pmask N) = A) := by rw [← HAE.out]; exact and_mask HA.out.1 HA.out.2 HN.out.1 HN.out.2
                clear hG HW
                go_wp2_with fail
                refine Calls.mono (mask_any N _ HN.out.1) ?_
                rintro e w' ⟨rfl, rfl⟩
                go_wp2_with fail
                refine Calls.mono (bits_mask N _ HN.out.1 HN.out.2) ?_
                rintro e w' ⟨rfl, rfl⟩
                have hmk := HMK.out
                go_wp2_with fail
                refine Calls.mono (lives_any _ (HGz.out.tab HT.out)) ?_
                rintro e wz ⟨rfl, hgz⟩
                go_wp2_with fail
                go_ret
                exact ⟨rfl, HGz.out.trans hgz⟩
end Go.Proofs.YtmofndckjjbfgaaDoor
