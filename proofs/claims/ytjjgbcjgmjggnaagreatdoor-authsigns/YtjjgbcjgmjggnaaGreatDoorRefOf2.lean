/- The document's Of, Keyed. -/
import Derived.Test.YtjjgbcjgmjggnaaGreatDoorRefOf
import Derived.Test.YtjjgbcjgmjggnaaGreatDoorDigSame
namespace Go.Proofs.YtjjgbcjgmjggnaaGreatDoor
open Go.RowKit
set_option linter.unusedVariables false
set_option maxRecDepth 100000

def RoR (w0 : World) (P : List Nat) (k : Nat) (s p : Value) (wr : World) : Prop :=
  ∃ m gs : Nat, 64 * m + k = P.length ∧ s = .slice (some ⟨gs, 0, none⟩) 4 4 ∧ Quad wr gs (blocksN m startN P) ∧ ArgAt wr p (natB (P.drop (64 * m))) ∧ Touch (fun _ => False) w0 wr
def RoE (w0 : World) (q : Q4) (o i : Value) (wr : World) : Prop := ∃ k : Nat, k ≤ 16 ∧ i = .int .i64 (k : Int) ∧ Buf w0 wr o (natB ((outN q).take k))
theorem outN_next (q : Q4) (k : Nat) (h : k < 16) : natB ((outN q).take k) ++ [((q.at (k / 4) / 2 ^ (8 * (k % 4)) % 256 : Nat) : Int)] = natB ((outN q).take (k + 1)) := by
  rw [natB_one, List.take_add_one]
  have hl : k < (outN q).length := by rw [length_outN]; exact h
  have e := out_at q k h
  rw [show k % 4 * 8 = 8 * (k % 4) by omega] at e
  rw [← e, List.getElem?_eq_getElem hl]
  simp [List.getD, hl]

set_option maxHeartbeats 2000000 in
theorem rof_any (v : Value) (l : List Nat) (w : World) (hv : ArgAt w v (natB l)) (hby : ∀ x ∈ l, x < 256) (hll : l.length ≤ 1073741824) :
    Calls Tryz.prog 70 #[v] w fun e w' => ∃ v', e = .returned v' ∧ Buf w w' v' (natB (ofN l)) := by
  have HPd : Hid (∀ w', Touch (fun _ => False) w w' → Calls Tryz.prog 100 #[v] w' fun e w'' => ∃ v', e = .returned v' ∧ Buf w' w'' v' (natB (padN l))) := fun w' t => rpadded_any v l w' (hv.keep t (fun _ _ h => h)) hll
  have hPm : (padN l).length % 64 = 0 := length_padN_mod l
  have hPb : ∀ x ∈ padN l, x < 256 := padX_byte hby l.length
  have hPl : (padN l).length ≤ 1099511627776 := by
    have := gap_lt l.length
    rw [length_padN]
    omega
  have HOf : Hid (ofN l = outN (blocksN ((padN l).length / 64) startN (padN l))) := rfl
  generalize padN l = P at HPd hPm hPb hPl HOf
  have HPb : Hid (∀ x ∈ P, x < 256) := hPb
  clear hv hby hPb
  go_enter Tryz.func70, Tryz.ntmps70
  go_wp2_with fail
  generalize hw1 : World.alloc w _ = w1
  have HT1 : Hid (Touch (fun _ => False) w w1) := by subst hw1; exact (Touch.refl _ w).alloc _
  have HQ1 : Hid (Quad w1 w.heap.size startN) := by subst hw1; exact quad_new w startN _
  generalize w.heap.size = gs0 at HQ1 ⊢
  clear hw1
  refine (HPd.out w1 HT1.out).mono ?_
  rintro e w2 ⟨p2, rfl, b2⟩
  have HR : Hid (RoR w P P.length (.slice (some ⟨gs0, 0, none⟩) 4 4) p2 w2) := ⟨0, gs0, by omega, rfl, HQ1.out.keep b2.t, b2.arg, HT1.out.trans b2.t⟩
  clear b2 HQ1 HT1 HPd
  go_wp2_with fail
  go_loopg [3, 4] P.length (fun k s p wx => RoR w P k s p wx)
  case atStart => exact HR.out
  case round =>
    clear HR
    obtain ⟨m, gs, hm, rfl, hq, hs, t⟩ := hrel
    obtain ⟨sa, sc, hform, -⟩ := hs.form
    subst hform
    obtain ⟨rest, hrest⟩ : ∃ rest, rest = P.drop (64 * m) := ⟨_, rfl⟩
    have hrl : rest.length = P.length - 64 * m := by rw [hrest]; simp
    have HRest : Hid (rest = P.drop (64 * m)) := hrest
    rw [← hrest] at hs ⊢
    rw [length_natB] at hs ⊢
    have HS : Hid (ArgAt wr (.slice sa rest.length sc) (natB rest)) := hs
    have HQ : Hid (Quad wr gs (blocksN m startN P)) := hq
    have HT : Hid (Touch (fun _ => False) w wr) := t
    clear hrest hs hq t
    by_cases hlt : 0 < rest.length
    · have hlt64 : 64 ≤ rest.length := by omega
      have hbr : ∀ x ∈ rest, x < 256 := fun x hx => HPb.out x (by rw [HRest.out] at hx; exact List.mem_of_mem_drop hx)
      have hs' := HS.out.row (by rw [length_natB]; omega)
      obtain ⟨ga, oa, rfl⟩ := rowAt_some hs' (by omega)
      obtain ⟨-, hc1, hc2⟩ := cap_of hs'
      have HB := rblock_any gs ga oa sc (blocksN m startN P) rest wr (blocksN_ok startN_ok P m) HQ.out (by rw [length_natB]; exact hs') hbr hlt64 (by omega)
      rw [length_natB] at HB
      have HDr : Hid (RowAt wr (.slice (some ⟨ga, oa + 64, none⟩) (rest.length - 64) (sc - 64)) (natB (rest.drop 64))) := by
        rw [natB_drop]
        exact drop_row hs' 64 hlt64
      have HE : Hid (∀ g wx s, Quad wx g (blockN (blocksN m startN P) rest) → Touch (fun _ => False) wr wx → ArgAt wx s (natB (rest.drop 64)) → RoR w P (rest.length - 64) (.slice (some ⟨g, 0, none⟩) 4 4) s wx) := by
        intro g wx s hqx tx hsx
        refine ⟨m + 1, g, by omega, rfl, ?_, ?_, HT.out.trans tx⟩
        · rw [blocksN_step, ← HRest.out]
          exact hqx
        · rw [HRest.out, List.drop_drop] at hsx
          rw [show 64 * (m + 1) = 64 * m + 64 by omega]
          exact hsx
      have hlt' : (0 : Int) < (rest.length : Int) := by omega
      have hlt64' : (64 : Int) ≤ (rest.length : Int) := by omega
      have hcap' : (rest.length : Int) ≤ (sc : Int) := by omega
      unfold maxLen at hc2
      have HGk : Hid (gk = rest.length) := by show gk = _; omega
      clear hs' hbr HS HPb HQ HRest hm hrl hPm
      by_cases hz : sc = 64
      · have hr64 : rest.length = 64 := by omega
        have HR0 : Hid (rest.drop 64 = []) := List.drop_eq_nil_of_le (by omega)
        subst hz
        rw [hr64] at HB HE HDr HGk ⊢
        clear hr64 hlt hlt' hlt64 hlt64' hcap' hc1
        go_wp2_with fail
        refine HB.mono ?_
        rintro e w3 ⟨⟨g3, rfl, hq3⟩, t3⟩
        have HN2 : Hid (RoR w P 0 (.slice (some ⟨g3, 0, none⟩) 4 4) (.slice (some ⟨ga, oa, none⟩) 0 0) w3) := HE.out g3 w3 _ hq3 t3 (by rw [HR0.out]; exact empty_arg w3 _ 0 (by simp [maxLen]))
        clear HB hq3 t3
        go_wp2_with fail
        go_roundg 0
        case measure => have := HGk.out; omega
        case rel => exact HN2.out
      · go_wp2_with fail
        refine HB.mono ?_
        rintro e w3 ⟨⟨g3, rfl, hq3⟩, t3⟩
        have HN2 : Hid (RoR w P (rest.length - 64) (.slice (some ⟨g3, 0, none⟩) 4 4) (.slice (some ⟨ga, oa + 64, none⟩) (rest.length - 64) (sc - 64)) w3) := HE.out g3 w3 _ hq3 t3 (HDr.out.arg.keep t3 (fun _ _ h => h))
        clear HB hq3 t3
        go_wp2_with fail
        go_roundg (rest.length - 64)
        case measure => have := HGk.out; omega
        case rel => exact HN2.out
    · have hlt' : ¬ (0 : Int) < (rest.length : Int) := by omega
      have hme : m = P.length / 64 := by omega
      have HO2 : Hid (ofN l = outN (blocksN m startN P)) := by show _ = _; rw [HOf.out, hme]
      have hok := blocksN_ok startN_ok P m
      have HQ2 := HQ.out
      clear HS HQ HRest HPb hm hrl hPm hme HOf
      generalize blocksN m startN P = q at HO2 hok HQ2
      have HE0 : Hid (RoE wr q (.slice none 0 0) (.int .i64 ((0 : Nat) : Int)) wr) := ⟨0, by omega, rfl, by rw [List.take_zero]; exact Buf.nil (Touch.refl _ _)⟩
      have HK : Hid (∀ k wx, k < 4 → Touch (fun _ => False) wr wx → wx.cell? ⟨gs, k, none⟩ = some (.int .u32 (q.at k : Int))) := fun k wx hk tx => (HQ2.keep tx).at k hk
      clear HQ2
      obtain ⟨wz, hwz⟩ : ∃ wz, wz = wr := ⟨_, rfl⟩
      rw [← hwz] at HE0 HK HT ⊢
      clear hwz
      go_wp2_with fail
      go_loopw [5, 6] (fun o i wx => RoE wz q o i wx) (fun _ i _ => 16 - (intOf i).toNat)
      case atStart => exact HE0.out
      case round =>
        clear HE0
        obtain ⟨k, hk, rfl, hb⟩ := hrel
        have HB : Hid _ := hb
        have hcell := fun h : k < 16 => HK.out (k / 4) _ (by omega) hb.t
        have hlen : (natB ((outN q).take k)).length ≤ 16 := by rw [length_natB, List.length_take]; exact Nat.le_trans (Nat.min_le_left _ _) hk
        clear hb
        by_cases hlt : k < 16
        · have hlt' : (k : Int) < 16 := by omega
          have hcx := hcell hlt
          have hS := Q4.at_lt hok (k / 4)
          have HX : Hid _ := outN_next q k hlt
          clear hcell
          generalize q.at (k / 4) = S at hcx hS HX
          have s1 : (8 * ((k : Int) % 4)).toNat = 8 * (k % 4) := by omega
          have s2 : min (8 * (k % 4)) 32 = 8 * (k % 4) := by omega
          have s3 : (0 : Int) ≤ 8 * ((k : Int) % 4) := by omega
          have s4 : (S : Int) / 2 ^ (8 * (k % 4)) % 256 = ((S / 2 ^ (8 * (k % 4)) % 256 : Nat) : Int) := by simp
          generalize S / 2 ^ (8 * (k % 4)) % 256 = B at s4 HX
          have s5 : ((k : Int) / 4).toNat = k / 4 := by omega
          have s6 : (k : Int) / 4 < 4 := by omega
          have s7 : (0 : Int) ≤ (k : Int) / 4 := by omega
          go_wp2_with (at_builtin; refine app_one rfl (.tmp 22) (.tmp 33) rfl wz _ _ rfl HB.out (B : Int) rfl (by omega) ?_; intro o4 w4 hb4)
          go_roundw
          case rel => exact ⟨k + 1, by omega, by go_num, by rw [HX.out] at hb4; exact hb4⟩
          case measure => simp [intOf]; omega
        · obtain rfl : k = 16 := by omega
          have HR : Hid ((outN q).take 16 = outN q) := List.take_of_length_le (by rw [length_outN]; omega)
          clear hcell
          go_wp2_with fail
          go_ret
          refine ⟨_, rfl, ?_⟩
          have := HB.out.back HT.out
          rw [HR.out, ← HO2.out] at this
          exact this

def RkR (w0 : World) (ns K : List Nat) (p i : Value) (wr : World) : Prop := ∃ k : Nat, k ≤ 16 ∧ i = .int .i64 (k : Int) ∧ Buf w0 wr p (natB (ns ++ K.take k))
theorem keyN_at (ks : List Nat) (k : Nat) (h : k < 16) : (keyN ks)[k]? = some (if k < ks.length then ks.getD k 0 else 0) := by
  unfold keyN
  by_cases hk : k < ks.length
  · rw [List.getElem?_append_left (by simp; omega), List.getElem?_take, if_pos h, if_pos hk, List.getElem?_eq_getElem hk]
    simp [List.getD, hk]
  · rw [List.getElem?_append_right (by simp; omega), if_neg hk, List.getElem?_replicate, if_pos (by simp; omega)]
theorem keyN_next (ns ks : List Nat) (k : Nat) (h : k < 16) : natB (ns ++ (keyN ks).take k) ++ [((if k < ks.length then ks.getD k 0 else 0 : Nat) : Int)] = natB (ns ++ (keyN ks).take (k + 1)) := by
  rw [natB_one, List.take_add_one, keyN_at ks k h]
  simp
set_option maxHeartbeats 2000000 in
theorem rkeyed_any (vk v : Value) (ks ns : List Nat) (w : World) (hk : ArgAt w vk (natB ks)) (hv : ArgAt w v (natB ns)) (hbk : ∀ x ∈ ks, x < 256) (hby : ∀ x ∈ ns, x < 256) (hl : ns.length ≤ 16777216) :
    Calls Tryz.prog 29 #[vk, v] w fun e w' => ∃ v', e = .returned v' ∧ Buf w w' v' (natB (keyedN ks ns)) := by
  obtain ⟨ka, kc, rfl, hkm⟩ := hk.form
  rw [length_natB] at hk hkm ⊢
  unfold maxLen at hkm
  have HV : Hid (ArgAt w v (natB ns)) := hv
  have HK : Hid (ArgAt w (.slice ka ks.length kc) (natB ks)) := hk
  have HOf : Hid (∀ p w', ArgAt w' p (natB (ns ++ keyN ks)) → Calls Tryz.prog 70 #[p] w' fun e w'' => ∃ v', e = .returned v' ∧ Buf w' w'' v' (natB (keyedN ks ns))) := fun p w' h =>
    rof_any p (ns ++ keyN ks) w' h (fun x hx => by
      rcases List.mem_append.mp hx with hx | hx
      · exact hby x hx
      · exact keyN_byte hbk x hx) (by rw [List.length_append, length_keyN]; omega)
  clear hk hv hbk hby
  go_enter Tryz.func29, Tryz.ntmps29
  go_wp2_with (at_builtin; refine app_arg rfl (.tmp 7) (.tmp 8) rfl w _ [] rfl (Buf.nil (Touch.refl _ w)) _ (natB ns) rfl HV.out (by rw [length_natB]; simp; omega) ?_; intro p2 w2 b2)
  have HR : Hid (RkR w ns (keyN ks) p2 (.int .i64 ((0 : Nat) : Int)) w2) := ⟨0, by omega, rfl, by simpa using b2⟩
  clear b2 HV
  go_loopw [5, 6] (fun p i wx => RkR w ns (keyN ks) p i wx) (fun _ i _ => 16 - (intOf i).toNat)
  case atStart => exact HR.out
  case round =>
    clear HR
    obtain ⟨k, hk, rfl, hb⟩ := hrel
    have HB : Hid _ := hb
    have HT : Hid (Touch (fun _ => False) w wr) := hb.t
    have hlen : (natB (ns ++ (keyN ks).take k)).length ≤ 20000000 := by rw [length_natB, List.length_append, List.length_take]; omega
    clear hb
    by_cases hlt : k < 16
    · have hlt' : (k : Int) < 16 := by omega
      have HX : Hid _ := keyN_next ns ks k hlt
      by_cases hin : k < ks.length
      · have hin' : (k : Int) < (ks.length : Int) := by omega
        have hr := (HK.out.keep HT.out (fun _ _ h => h)).row (by rw [length_natB]; omega)
        obtain ⟨ga, oa, rfl⟩ := rowAt_some hr (by omega)
        have hcx := rowAt_cell hr k (by rw [length_natB]; exact hin)
        rw [natB_getD] at hcx
        have HX2 : Hid (natB (ns ++ (keyN ks).take k) ++ [((ks.getD k 0 : Nat) : Int)] = natB (ns ++ (keyN ks).take (k + 1))) := by
          have := HX.out
          rw [if_pos hin] at this
          exact this
        generalize ks.getD k 0 = B at hcx HX2
        clear hr HX
        go_wp2_with (at_builtin; refine app_one rfl (.tmp 18) (.tmp 23) rfl w _ _ rfl HB.out (B : Int) rfl (by omega) ?_; intro p4 w4 hb4)
        go_roundw
        case rel => exact ⟨k + 1, by omega, by go_num, by rw [HX2.out] at hb4; exact hb4⟩
        case measure => simp [intOf]; omega
      · have hin' : ¬ (k : Int) < (ks.length : Int) := by omega
        have HX2 : Hid (natB (ns ++ (keyN ks).take k) ++ [(0 : Int)] = natB (ns ++ (keyN ks).take (k + 1))) := by
          have := HX.out
          rw [if_neg hin] at this
          exact this
        clear HX
        go_wp2_with (at_builtin; refine app_one rfl (.tmp 25) (.tmp 26) rfl w _ _ rfl HB.out 0 rfl (by omega) ?_; intro p4 w4 hb4)
        go_roundw
        case rel => exact ⟨k + 1, by omega, by go_num, by rw [HX2.out] at hb4; exact hb4⟩
        case measure => simp [intOf]; omega
    · obtain rfl : k = 16 := by omega
      have HR2 : Hid ((keyN ks).take 16 = keyN ks) := List.take_of_length_le (by rw [length_keyN]; omega)
      have HB2 : Hid (ArgAt wr u5 (natB (ns ++ keyN ks))) := by
        have := HB.out.arg
        rw [HR2.out] at this
        exact this
      go_wp2_with fail
      refine (HOf.out _ _ HB2.out).mono ?_
      rintro e w5 ⟨v5, rfl, b5⟩
      have HB5 : Hid (Buf w w5 v5 (natB (keyedN ks ns))) := b5.back HT.out
      clear b5
      go_wp2_with fail
      go_ret
      exact ⟨_, rfl, HB5.out⟩
end Go.Proofs.YtjjgbcjgmjggnaaGreatDoor
