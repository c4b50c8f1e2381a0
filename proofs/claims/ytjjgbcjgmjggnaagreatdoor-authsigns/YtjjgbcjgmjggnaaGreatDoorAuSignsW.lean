/- AuthSigns. -/
import Derived.Test.YtjjgbcjgmjggnaaGreatDoorAuGiv
import Derived.Test.YtjjgbcjgmjggnaaGreatDoorHeadV
import Derived.Test.YtjjgbcjgmjggnaaGreatDoorAuRS
import Derived.Test.YtjjgbcjgmjggnaaGreatDoorAuLives
import Derived.Test.YtjjgbcjgmjggnaaGreatDoorBagAdd
namespace Go.Proofs.YtjjgbcjgmjggnaaGreatDoor
open Go.RowKit
set_option linter.unusedVariables false
set_option maxRecDepth 100000

theorem own_wide {w : World} {g : Nat} {rs : List Int} (h : w.heap[g]? = some (.cells (bytesOf (rs ++ spareMarks rs.length)).toArray 5 (0, 0))) (hl : rs.length ≤ 131072) : w.ownsRow 0 5 1 (.slice (some ⟨g, 0, none⟩) rs.length (rs.length + 64)) rs.length (bytesOf rs) := by
  refine ⟨by simp [bytesOf], Or.inr ⟨g, rs.length + 64, _, rfl, Nat.zero_le _, h, by omega, by unfold maxLen; omega, by simp [bytesOf, length_spareMarks], ?_⟩⟩
  rw [bytesOf_append]
  simp [bytesOf]
theorem own_low {w : World} {base base' e k : Nat} {v : Value} {n : Nat} {xs : List Value} (h : w.ownsRow base e k v n xs) (hb : base' ≤ base) : w.ownsRow base' e k v n xs := ⟨h.1, h.2.imp id (fun ⟨g, cap, cur, hv, hg, r⟩ => ⟨g, cap, cur, hv, Nat.le_trans hb hg, r⟩)⟩
theorem signB_len {rs : List Int} {ks : List AKP} {now seq : Int} (hl : rs.length ≤ 131072) : (signB rs ks now seq).length ≤ 200000 := by
  unfold signB
  split
  · simp
  · split
    · omega
    · rename_i k _
      unfold signW signPl signDg
      have h8 := length_passB k.sec
      split
      · simp [sayB, numBytes2, h8]; omega
      · simp [sayB, numBytes2, markB, numBytes4, length_keyedB]; omega
set_option maxHeartbeats 4000000 in
theorem signs8_any (v vk : Value) (rs : List Int) (ks : List KE) (now seq : Int) (w : World) (hv : ArgAt w v rs) (hby : ∀ z ∈ rs, 0 ≤ z ∧ z < 256) (hrl : rs.length ≤ 140737488355328) (hc : ChainAt w vk ks) (hz : ∀ x ∈ ks, x.p.sec.length ≤ 140737488355328) (hkl : ks.length ≤ 140737488355328) (hsq : 0 ≤ seq ∧ seq < 4294967296) :
    Calls Tryz.prog 3 #[v, vk, .int .i64 now, .int .u32 seq] w fun e w' => e = .returned (.bool true) ∧ Touch (fun _ => False) w w' := by
  obtain ⟨ba, bc, rfl, -⟩ := hv.form
  have HH := heavy_any (.slice ba rs.length bc) vk rs.length ks w ba bc rfl hrl hc hz hkl
  have HV : Hid (∀ w', Touch (fun _ => False) w w' → ArgAt w' (.slice ba rs.length bc) rs) := fun w' t => hv.keep t (fun _ _ h => h)
  have HBY : Hid (∀ z ∈ rs, 0 ≤ z ∧ z < 256) := hby
  have HC : Hid (∀ w', Touch (fun _ => False) w w' → ChainAt w' vk ks) := fun w' t => hc.keep t
  have HLN : Hid (ks.length ≤ hsum ks) := hsum_len ks
  have HSQ : Hid (0 ≤ seq ∧ seq < 4294967296) := hsq
  obtain ⟨va, vc, rfl, -⟩ := ValsAt.form hc.vals
  clear hc hz hkl hv hby hrl hsq
  go_enter Tryz.func3, Tryz.ntmps3
  go_wp2_with fail
  refine Calls.mono HH ?_
  rintro e w1 ⟨⟨B, rfl, hB⟩, rfl⟩
  clear HH
  cases B
  rotate_left
  · go_wp2_with fail
    refine Calls.mono (lives8 _) ?_
    rintro e w7 ⟨rfl, t7⟩
    go_wp2_with fail
    go_ret
    exact ⟨rfl, t7⟩
  have hs0 := hB rfl
  have hs : hsum ks ≤ 131072 := by omega
  have hrl : rs.length ≤ 131072 := by omega
  have hl : ks.length ≤ 1000000 := by have := HLN.out; omega
  have HKS : Hid (∀ x ∈ ks, x.p.sec.length ≤ 1000000) := fun x hx => by have := hsum_mem x hx; omega
  have HW := wide_any _ rs w (HV.out w (Touch.refl _ _)) HBY.out (by omega)
  clear hB hs0 HLN
  go_wp2_with fail
  refine Calls.mono HW ?_
  rintro e w2 ⟨rfl, hb2, t2⟩
  clear HW
  have hg2lt : w.heap.size < w2.heap.size := lt_of_heap hb2
  generalize hgw : w.heap.size = g2 at hb2 hg2lt ⊢
  have HGW : Hid (w.heap.size = g2) := hgw
  clear hgw
  have T2 : Hid (Touch (fun _ => False) w w2) := t2
  have HB2 : Hid (∀ w', Touch (fun _ => False) w2 w' → w'.heap[g2]? = some (.cells (bytesOf (rs ++ spareMarks rs.length)).toArray 5 (0, 0))) := fun w' t => t.heapN hb2
  have HRW : Hid (∀ w', Touch (fun _ => False) w2 w' → RowAt w' (.slice (some ⟨g2, 0, none⟩) rs.length (rs.length + 64)) rs) := fun w' t => WideKE.row (x := ⟨⟨0, 0, rs, 0, 0, 0, 0⟩, some ⟨g2, 0, none⟩, rs.length + 64⟩) (base := 0) ⟨g2, rfl, rfl, Nat.zero_le _, t.heapN hb2⟩ hrl
  have HG2 : Hid (g2 < w2.heap.size) := hg2lt
  have HG' := given_any _ ks w2 (HC.out _ t2) hs
  clear hb2 t2 hs hg2lt
  go_wp2_with fail
  refine Calls.mono HG' ?_
  rintro e w3 ⟨u, ls, rfl, gv⟩
  obtain ⟨sa, sc, es⟩ := gv.buf.form
  subst es
  have HLL : Hid (ls.length = ks.length) := gv.len
  have GV : Hid (∀ w', Touch (fun _ => False) w3 w' → Given w2 w' (.slice sa ls.length sc) ks ls) := fun w' t => gv.keep t
  have T3 : Hid (Touch (fun _ => False) w2 w3) := gv.buf.t
  have HS : Hid (pureL ls = pureL ks) := gv.same
  have HSG : Hid (∀ w', Touch (fun _ => False) w3 w' → Calls Tryz.prog 8 #[.slice (some ⟨g2, 0, none⟩) rs.length (rs.length + 64), .slice sa ls.length sc, .int .i64 now, .int .u32 seq] w' fun e w'' => ∃ u, e = .returned (.tuple #[u, .int .i64 (signE rs (pureL ks) now)]) ∧ Buf w' w'' u (signB rs (pureL ks) now seq)) := fun w' t => by
    have := asign_any _ _ rs ls now seq w' (HRW.out w' (T3.out.trans t)).arg HBY.out (by omega) (GV.out w' t).chain (by have := HLL.out; omega) HSQ.out
    rw [HS.out] at this
    exact this
  have HRS : Hid (∀ w', Touch (fun _ => False) w w' → Calls Tryz.prog 9 #[.slice ba rs.length bc, .slice va ks.length vc, .int .i64 now, .int .u32 seq] w' fun e w'' => ∃ u, e = .returned (.tuple #[u, .int .i64 (signE rs (pureL ks) now)]) ∧ Buf w' w'' u (signB rs (pureL ks) now seq)) := fun w' t => rsign_any _ _ rs ks now seq w' (HV.out w' t) HBY.out hrl (HC.out w' t) hl HKS.out HSQ.out
  have HSL : Hid ((signB rs (pureL ks) now seq).length ≤ 200000) := signB_len hrl
  generalize signE rs (pureL ks) now = EE at *
  generalize signB rs (pureL ks) now seq = cS at *
  clear gv HG'
  have h4 := HSG.out w3 (Touch.refl _ _)
  go_wp2_with fail
  refine Calls.mono h4 ?_
  rintro e w4 ⟨v4, rfl, b4⟩
  have B4 : Hid (∀ w', Touch (fun _ => False) w4 w' → Buf w3 w' v4 cS) := fun w' t => b4.keep t
  have h5 := HSG.out w4 b4.t
  obtain ⟨a4, c4, e4⟩ := b4.form
  subst e4
  have T4 : Hid (Touch (fun _ => False) w3 w4) := b4.t
  have K4 : Hid (∀ k, (Value.slice a4 cS.length c4).ownBlock = some k → w3.heap.size ≤ k ∧ k < w4.heap.size) := fun k hk => b4.own.lt k hk
  clear b4 h4 HSG
  go_wp2_with fail
  refine Calls.mono h5 ?_
  rintro e w5 ⟨v5, rfl, b5⟩
  have B5 : Hid (∀ w', Touch (fun _ => False) w5 w' → Buf w4 w' v5 cS) := fun w' t => b5.keep t
  have T5 : Hid (Touch (fun _ => False) w4 w5) := b5.t
  have K5 : Hid (∀ k, v5.ownBlock = some k → w4.heap.size ≤ k ∧ k < w5.heap.size) := fun k hk => b5.own.lt k hk
  have h6 := HRS.out w5 (T2.out.trans (T3.out.trans (T4.out.trans b5.t)))
  obtain ⟨a5, c5, e5⟩ := b5.form
  subst e5
  clear b5 h5 HRS
  go_wp2_with fail
  refine Calls.mono h6 ?_
  rintro e w6 ⟨v6, rfl, b6⟩
  have B6 : Hid (∀ w', Touch (fun _ => False) w6 w' → Buf w5 w' v6 cS) := fun w' t => b6.keep t
  have T56 : Hid (Touch (fun _ => False) w5 w6) := b6.t
  obtain ⟨a6, c6, e6⟩ := b6.form
  subst e6
  clear b6 h6
  have T46 : Hid (Touch (fun _ => False) w4 w6) := T5.out.trans T56.out
  have T26 : Hid (Touch (fun _ => False) w2 w6) := T3.out.trans (T4.out.trans T46.out)
  have T06 : Hid (Touch (fun _ => False) w w6) := T2.out.trans T26.out
  go_wp2_with fail
  refine Calls.mono (eq_true _ _ cS w6 (B4.out w6 T46.out).row (B6.out w6 (Touch.refl _ _)).arg) ?_
  rintro e w7 ⟨rfl, n7, h7⟩
  have T7 : Hid (Touch (fun _ => False) w6 w7) := h7 ▸ (Touch.refl _ _).drewN n7
  clear h7
  go_wp2_with fail
  refine Calls.mono (eq_true _ _ cS w7 (B5.out w7 (T56.out.trans T7.out)).row (B6.out w7 T7.out).arg) ?_
  rintro e w8 ⟨rfl, n8, h8⟩
  have T8 : Hid (Touch (fun _ => False) w6 w8) := T7.out.trans (h8 ▸ (Touch.refl _ _).drewN n8)
  clear h8
  go_wp2_with fail
  refine Calls.mono (eq_true _ _ rs w8 (HRW.out _ (T26.out.trans T8.out)) (HV.out _ (T06.out.trans T8.out))) ?_
  rintro e w9 ⟨rfl, n9, h9⟩
  have T9 : Hid (Touch (fun _ => False) w6 w9) := T8.out.trans (h9 ▸ (Touch.refl _ _).drewN n9)
  clear h9
  go_wp2_with fail
  refine Calls.mono (spare_any g2 rs w9 (HB2.out _ (T26.out.trans T9.out)) (by omega)) ?_
  rintro e w10 ⟨rfl, rfl⟩
  have T39 : Hid (Touch (fun _ => False) w3 w9) := T4.out.trans (T46.out.trans T9.out)
  go_wp2_with fail
  refine Calls.mono (stays_any _ _ ks ls w2.heap.size w9 (GV.out _ T39.out).chain (HC.out _ (T06.out.trans T9.out)) HS.out (GV.out _ T39.out).wide (GV.out _ T39.out).big hl) ?_
  rintro e w11 ⟨rfl, t11⟩
  have T11 : Hid (Touch (fun _ => False) w6 w11) := T9.out.trans t11
  clear t11
  go_upto_region 11 with fail
  have hbag := bag_new (w := w11) (T := 56) #[.slice none 0 0, .slice none 0 0, .slice none 0 0, .slice none 0 0, .slice none 0 0, .slice none 0 0, .slice none 0 0, .slice none 0 0, .slice none 0 0, .slice none 0 0, .slice none 0 0, .slice none 0 0, .slice none 0 0, .slice none 0 0, .slice none 0 0, .slice none 0 0, .slice none 0 0, .slice none 0 0, .slice none 0 0] rfl
  have HB0 : Hid (BagB (w11.alloc (.cells #[.slice none 0 0, .slice none 0 0, .slice none 0 0, .slice none 0 0, .slice none 0 0, .slice none 0 0, .slice none 0 0, .slice none 0 0, .slice none 0 0, .slice none 0 0, .slice none 0 0, .slice none 0 0, .slice none 0 0, .slice none 0 0, .slice none 0 0, .slice none 0 0, .slice none 0 0, .slice none 0 0, .slice none 0 0] 56)) w11.heap.size (.slice none 0 0) [] ∧ (w11.alloc (.cells #[.slice none 0 0, .slice none 0 0, .slice none 0 0, .slice none 0 0, .slice none 0 0, .slice none 0 0, .slice none 0 0, .slice none 0 0, .slice none 0 0, .slice none 0 0, .slice none 0 0, .slice none 0 0, .slice none 0 0, .slice none 0 0, .slice none 0 0, .slice none 0 0, .slice none 0 0, .slice none 0 0, .slice none 0 0] 56)).frozen? ⟨w11.heap.size, 0, none⟩ = false ∧ BagN (w11.alloc (.cells #[.slice none 0 0, .slice none 0 0, .slice none 0 0, .slice none 0 0, .slice none 0 0, .slice none 0 0, .slice none 0 0, .slice none 0 0, .slice none 0 0, .slice none 0 0, .slice none 0 0, .slice none 0 0, .slice none 0 0, .slice none 0 0, .slice none 0 0, .slice none 0 0, .slice none 0 0, .slice none 0 0, .slice none 0 0] 56)) w11.heap.size) := hbag
  have T12 : Hid (Touch (fun _ => False) w6 (w11.alloc (.cells #[.slice none 0 0, .slice none 0 0, .slice none 0 0, .slice none 0 0, .slice none 0 0, .slice none 0 0, .slice none 0 0, .slice none 0 0, .slice none 0 0, .slice none 0 0, .slice none 0 0, .slice none 0 0, .slice none 0 0, .slice none 0 0, .slice none 0 0, .slice none 0 0, .slice none 0 0, .slice none 0 0, .slice none 0 0] 56))) := T11.out.alloc _
  have KB : Hid (g2 < w3.heap.size ∧ w3.heap.size ≤ w4.heap.size ∧ w4.heap.size ≤ w5.heap.size ∧ w5.heap.size ≤ w11.heap.size ∧ w.heap.size ≤ w11.heap.size) := by
    have h1 := HG2.out; have h2 := T3.out.size; have h3 := T4.out.size; have h4 := T5.out.size; have h5 := T56.out.size; have h6 := T11.out.size; have h7 := T06.out.size
    show _ ∧ _; omega
  clear hbag
  generalize w11.alloc (.cells #[.slice none 0 0, .slice none 0 0, .slice none 0 0, .slice none 0 0, .slice none 0 0, .slice none 0 0, .slice none 0 0, .slice none 0 0, .slice none 0 0, .slice none 0 0, .slice none 0 0, .slice none 0 0, .slice none 0 0, .slice none 0 0, .slice none 0 0, .slice none 0 0, .slice none 0 0, .slice none 0 0, .slice none 0 0] 56) = x9 at *
  generalize w11.heap.size = bb at *
  have OI : Hid (x9.ownsRow 0 5 1 (.slice (some ⟨g2, 0, none⟩) rs.length (rs.length + 64)) rs.length (bytesOf rs)) := own_wide (HB2.out x9 (T26.out.trans T12.out)) hrl
  have OC : Hid (x9.ownsRow 0 5 1 (.slice a4 cS.length c4) cS.length (bytesOf cS)) := own_low (B4.out x9 (T46.out.trans T12.out)).own (Nat.zero_le _)
  have OD : Hid (x9.ownsRow 0 5 1 (.slice a5 cS.length c5) cS.length (bytesOf cS)) := own_low (B5.out x9 (T56.out.trans T12.out)).own (Nat.zero_le _)
  have TX : Hid (Touch (fun _ => False) w x9) := T06.out.trans T12.out
  clear B4 B5 B6 HB2 HRW GV T39 T46 T26 T06 T7 T8 T9 T11 T12 T56 T5 T4 T3 T2 HG2 HC HV
  have hkI : ∀ k, (Value.slice (some ⟨g2, 0, none⟩) rs.length (rs.length + 64)).ownBlock = some k → k ≠ bb := fun k hk => by
    have h1 : g2 = k := by simpa [Value.ownBlock] using hk
    have := KB.out
    omega
  go_wp2_with fail
  refine Calls.mono (add_any bb (.slice none 0 0) [] _ rs x9 HB0.out.1 HB0.out.2.1 OI.out (by omega) (fun k hk => ⟨hkI k hk, by simp [Value.ownBlock], by simp⟩) (by simp) (by simp [Value.ownBlock])) ?_
  rintro e y1 ⟨rfl, gv1, hb1, hf1, hq1, hr1, tb1, hc1⟩
  have HB1 : Hid (BagB y1 bb gv1 ([] ++ [.slice (some ⟨g2, 0, none⟩) rs.length (rs.length + 64)])) := hb1
  have HF1 : Hid (y1.frozen? ⟨bb, 0, none⟩ = false) := hf1
  have HQ1 : Hid (∀ k, gv1.ownBlock = some k → bb < k) := hq1
  have TB1 : Hid (Touch (fun k => bb ≤ k) x9 y1) := Touch.mono tb1 (fun i _ e => by rcases e with e | e; omega; simp [Value.ownBlock] at e)
  have HN1 : Hid (BagN y1 bb) := fun j h1 h2 => hc1 j _ h1 (HB0.out.2.2 j h1 h2)
  have OC1 : Hid (y1.ownsRow 0 5 1 (.slice a4 cS.length c4) cS.length (bytesOf cS)) := own_touch OC.out TB1.out (fun k hk e => by have := K4.out k hk; have := KB.out; omega)
  have OD1 : Hid (y1.ownsRow 0 5 1 (.slice a5 cS.length c5) cS.length (bytesOf cS)) := own_touch OD.out TB1.out (fun k hk e => by have := K5.out k hk; have := KB.out; omega)
  clear hb1 hf1 hq1 hr1 tb1 hc1 HB0 OC OD OI
  go_wp2_with fail
  refine Calls.mono (add_any bb gv1 _ _ cS y1 HB1.out HF1.out OC1.out (by have := HSL.out; omega) (fun k hk => ⟨by have := K4.out k hk; have := KB.out; omega, fun e => by have h1 := HQ1.out k e; have h2 := K4.out k hk; have := KB.out; omega, fun m u hu e => by
    have h1 : u = .slice (some ⟨g2, 0, none⟩) rs.length (rs.length + 64) := by
      cases m with
      | zero => simpa using hu.symm
      | succ m => simp at hu
    subst h1
    have h2 : g2 = k := by simpa [Value.ownBlock] using e
    have h3 := K4.out k hk; have := KB.out; omega⟩) (by simp) HQ1.out) ?_
  rintro e y2 ⟨rfl, gv2, hb2, hf2, hq2, hr2, tb2, hc2⟩
  have HBb : Hid (BagB y2 bb gv2 ([] ++ [.slice (some ⟨g2, 0, none⟩) rs.length (rs.length + 64)] ++ [.slice a4 cS.length c4])) := hb2
  have HF2 : Hid (y2.frozen? ⟨bb, 0, none⟩ = false) := hf2
  have HQ2 : Hid (∀ k, gv2.ownBlock = some k → bb < k) := hq2
  have HN2 : Hid (BagN y2 bb) := fun j h1 h2 => hc2 j _ h1 (HN1.out j h1 h2)
  have TB2 : Hid (Touch (fun k => bb ≤ k) y1 y2) := Touch.mono tb2 (fun i _ e => by rcases e with e | e; omega; have := HQ1.out i e; omega)
  have OD2 : Hid (y2.ownsRow 0 5 1 (.slice a5 cS.length c5) cS.length (bytesOf cS)) := own_touch OD1.out TB2.out (fun k hk e => by have := K5.out k hk; have := KB.out; omega)
  clear hb2 hf2 hq2 hr2 tb2 hc2 HB1 HF1 HQ1 HN1 OC1 OD1
  go_wp2_with fail
  refine Calls.mono (add_any bb gv2 _ _ cS y2 HBb.out HF2.out OD2.out (by have := HSL.out; omega) (fun k hk => ⟨by have := K5.out k hk; have := KB.out; omega, fun e => by have h1 := HQ2.out k e; have h2 := K5.out k hk; have := KB.out; omega, fun m u hu e => by
    have h1 : u = .slice (some ⟨g2, 0, none⟩) rs.length (rs.length + 64) ∨ u = .slice a4 cS.length c4 := by
      cases m with
      | zero => exact Or.inl (by simpa using hu.symm)
      | succ m =>
        cases m with
        | zero => exact Or.inr (by simpa using hu.symm)
        | succ m => simp at hu
    rcases h1 with h1 | h1
    · subst h1
      have h2 : g2 = k := by simpa [Value.ownBlock] using e
      have h3 := K5.out k hk; have := KB.out; omega
    · subst h1
      have h2 := K4.out k e; have h3 := K5.out k hk; omega⟩) (by simp) HQ2.out) ?_
  rintro e y3 ⟨rfl, gv3, hb3, hf3, hq3, hr3, tb3, hc3⟩
  have HB3 : Hid (BagB y3 bb gv3 ([] ++ [.slice (some ⟨g2, 0, none⟩) rs.length (rs.length + 64)] ++ [.slice a4 cS.length c4] ++ [.slice a5 cS.length c5])) := hb3
  have HN3 : Hid (BagN y3 bb) := fun j h1 h2 => hc3 j _ h1 (HN2.out j h1 h2)
  have TB3 : Hid (Touch (fun k => bb ≤ k) x9 y3) := TB1.out.trans (TB2.out.trans (Touch.mono tb3 (fun i _ e => by rcases e with e | e; omega; have := HQ2.out i e; omega)))
  clear hb3 hf3 hq3 hr3 tb3 hc3 HBb HF2 HQ2 HN2 OD2 TB1 TB2
  have TY : Hid (Touch (fun _ => False) w y3) := Touch.trans' TX.out TB3.out (fun i hi h => by have := KB.out; omega)
  go_wp2_with fail
  refine Calls.mono (Apart_any bb gv3 _ y3 HB3.out HN3.out) ?_
  rintro e y4 ⟨rfl, t4⟩
  have TZ : Hid (Touch (fun _ => False) w y4) := Touch.trans' TY.out t4 (fun i hi f => by
    obtain ⟨m, v, hm, hv⟩ := f
    match m, hm with
    | 0, hm =>
      have h1 : v = .slice (some ⟨g2, 0, none⟩) rs.length (rs.length + 64) := by simpa using hm.symm
      subst h1
      have h2 : g2 = i := by simpa [Value.ownBlock] using hv
      have := HGW.out
      omega
    | 1, hm =>
      have h1 : v = .slice a4 cS.length c4 := by simpa using hm.symm
      subst h1
      have h2 := K4.out _ hv
      have h3 := KB.out
      have := HGW.out
      omega
    | 2, hm =>
      have h1 : v = .slice a5 cS.length c5 := by simpa using hm.symm
      subst h1
      have h2 := K5.out _ hv
      have h3 := KB.out
      have := HGW.out
      omega
    | m + 3, hm => simp at hm)
  clear t4 HB3 HN3 TB3 TY
  go_wp2_with fail
  refine Calls.mono (lives8 _) ?_
  rintro e wz ⟨rfl, tz⟩
  have T9 : Hid (Touch (fun _ => False) w wz) := TZ.out.trans tz
  clear tz
  go_wp2_with fail
  go_ret
  exact ⟨rfl, T9.out⟩
end Go.Proofs.YtjjgbcjgmjggnaaGreatDoor
