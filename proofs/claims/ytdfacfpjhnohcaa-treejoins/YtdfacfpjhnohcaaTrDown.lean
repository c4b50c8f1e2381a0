
/- container/heap: going down. -/
import Derived.Test.YtdfacfpjhnohcaaTrUp
namespace Go.Proofs.Ytdfacfpjhnohcaa
open Go.RowKit
set_option linter.unusedVariables false
set_option maxRecDepth 100000

/-- Where going down stands: at its beginning, or further down with all above in order. -/
structure DnR (w : World) (b : Nat) (v : Value) (B : Nat) (l : List Sp) (N i0 : Nat) (w' : World) (t : Nat) : Prop where
  out : ∃ l', Laid w b v B l N w' l' ∧ t < N ∧ ((t = i0 ∧ l' = l ∧ FixI N (gt l) i0) ∨ (i0 < t ∧ DnI N (gt l') t))
theorem DnR.fix {N i0 t : Nat} {l l' : List Sp} (h : (t = i0 ∧ l' = l ∧ FixI N (gt l) i0) ∨ (i0 < t ∧ DnI N (gt l') t)) : FixI N (gt l') t ∧ i0 ≤ t := by
  rcases h with ⟨rfl, rfl, h⟩ | ⟨h0, h⟩
  · exact ⟨h, Nat.le_refl _⟩
  · exact ⟨h.fix, by omega⟩
/-- Whether it went down, and what is there then. -/
structure DnP (w : World) (b : Nat) (v : Value) (B : Nat) (l : List Sp) (N i0 : Nat) (e : Ending) (w' : World) : Prop where
  out : ∃ l' z, e = .returned (.bool z) ∧ Laid w b v B l N w' l' ∧ ((z = true ∧ HP N (gt l')) ∨ (z = false ∧ l' = l ∧ UpI N (gt l) i0))
theorem DnR.end {w : World} {b : Nat} {v : Value} {B : Nat} {l : List Sp} {N i0 : Nat} {w' : World} {t : Nat} {l' : List Sp} (L : Laid w b v B l N w' l')
    (h : (t = i0 ∧ l' = l ∧ FixI N (gt l) i0) ∨ (i0 < t ∧ DnI N (gt l') t)) (hc : ∀ c, 0 < c → c < N → (c - 1) / 2 = t → (gt l' t).le (gt l' c)) (z : Bool) (hz : z = decide (i0 < t)) : DnP w b v B l N i0 (.returned (.bool z)) w' := by
  refine ⟨l', z, rfl, L, ?_⟩
  rcases h with ⟨rfl, rfl, h⟩ | ⟨h0, h⟩
  · exact Or.inr ⟨by rw [hz]; simp, rfl, fix_up h hc⟩
  · exact Or.inl ⟨by rw [hz]; simpa using h0, dn_end h hc⟩

set_option maxHeartbeats 4000000 in
theorem down_any (w : World) (b : Nat) (v : Value) (B : Nat) (l : List Sp) (P : LS w b v B l) (N : Nat) (hN : N ≤ l.length) (i0 : Nat) (hi : i0 < N) (F : FixI N (gt l) i0) :
    Calls Try.prog 38 #[.iface 79 (.pointer (some ⟨b, 0, none⟩)), .int .i64 i0, .int .i64 N] w (DnP w b v B l N i0) := by
  have hl := P.hl
  have R0 : DnR w b v B l N i0 w i0 := ⟨l, Laid.start P N, hi, Or.inl ⟨rfl, rfl, F⟩⟩
  have HR : Hid _ := R0
  have HL : Hid (l.length ≤ 1099511627776) := hl
  have HN : Hid (N ≤ l.length) := hN
  have HI : Hid (i0 < N) := hi
  have hN2 : (N : Int) ≤ 1099511627776 := by omega
  have hi2 : (i0 : Int) ≤ 1099511627776 := by omega
  clear P F hl hN R0 hi
  go_enter Try.func38, Try.ntmps38
  go_wp2_with fail
  go_loopw [7] (fun s7 wx => ∃ t : Nat, s7 = .int .i64 t ∧ DnR w b v B l N i0 wx t) (fun s7 _ => N - (intOf s7).toNat)
  case atStart => exact ⟨i0, rfl, HR.out⟩
  case round =>
    clear HR
    obtain ⟨t, rfl, ⟨l', L, ht, D⟩⟩ := hrel
    have hlt : (t : Int) ≤ 1099511627776 := by omega
    have t0 : (0 : Int) ≤ (t : Int) := by omega
    have hlen : Hid (N ≤ l'.length) := Nat.le_trans HN.out (Nat.le_of_eq L.len.symm)
    have hF := (DnR.fix D).1
    have hge := (DnR.fix D).2
    have HD : Hid _ := D
    have LL : Hid _ := L
    clear D L
    by_cases hA : 2 * t + 1 < N
    · have hA1 : 2 * (t : Int) + 1 < (N : Int) := by omega
      have htl : t < l'.length := by have := hlen.out; omega
      have HT : Hid (t < N) := ht
      have HA : Hid (2 * t + 1 < N) := hA
      have HF : Hid _ := hF
      have HG : Hid (i0 ≤ t) := hge
      clear ht hA hF hge
      by_cases hB : 2 * t + 2 < N
      · have hB1 : 2 * (t : Int) + 1 + 1 < (N : Int) := by omega
        have HB0 : Hid (2 * t + 2 < N) := hB
        by_cases hs : (gt l' (2 * t + 2)).lt (gt l' (2 * t + 1))
        · have HM : Hid (∀ c, 0 < c → c < N → (c - 1) / 2 = t → (gt l' (2 * t + 2)).le (gt l' c)) := by
            intro c c0 cn ce
            rcases (by omega : c = 2 * t + 1 ∨ c = 2 * t + 2) with rfl | rfl
            · exact le_of_lt' hs
            · exact le_refl' _
          have HS : Hid _ := hs
          clear hs hB
          have m1 := meth_less b v wr LL.out.ps.c0
          go_wp2_with fail
          refine Calls.mono (less_any wr b v B l' LL.out.ps (2 * t + 2) (2 * t + 1) _ _ (by omega) (by omega) (by have := hlen.out; have := HB0.out; omega) (by have := hlen.out; have := HA.out; omega) true (ltB_true HS.out)) ?_
          rintro e wx ⟨rfl, tx⟩
          have LX := LL.out.keep tx
          have m2 := meth_less b v wx LX.ps.c0
          go_wp2_with fail
          by_cases hb : (gt l' (2 * t + 2)).lt (gt l' t)
          · have HB : Hid _ := hb
            clear hb
            refine Calls.mono (less_any wx b v B l' LX.ps (2 * t + 2) t _ _ (by omega) rfl (by have := hlen.out; have := HB0.out; omega) htl true (ltB_true HB.out)) ?_
            rintro e wy ⟨rfl, ty⟩
            have LY := LX.keep ty
            have m3 := meth_swap b v wy LY.ps.c0
            go_wp2_with fail
            refine Calls.mono (swap_any wy b v B l' LY.ps t (2 * t + 2) _ _ rfl (by omega) htl (by have := hlen.out; have := HB0.out; omega)) ?_
            rintro e wz sz
            have es := sz.e
            subst es
            have LZ := LY.swap (by have := LY.len; omega) (by have := LY.len; have := hlen.out; have := HB0.out; omega) HT.out (by have := HB0.out; omega) sz
            have DZ : DnI N (gt (sw l' t (2 * t + 2))) (2 * t + 2) := dn_step HF.out (by omega) (by omega) (by have := HB0.out; omega) HB.out HM.out (fun k => gt_sw htl (by have := hlen.out; have := HB0.out; omega) k)
            clear sz
            have LW : Hid _ := LZ
            clear LZ LY LX
            go_wp2_with fail
            go_roundw
            case rel => exact ⟨2 * t + 2, by go_num, ⟨_, LW.out, by have := HB0.out; omega, Or.inr ⟨by have := HG.out; omega, DZ⟩⟩⟩
            case measure => have := HA.out; simp [intOf]; omega
          · have HB : Hid _ := hb
            clear hb
            refine Calls.mono (less_any wx b v B l' LX.ps (2 * t + 2) t _ _ (by omega) rfl (by have := hlen.out; have := HB0.out; omega) htl false (ltB_false HB.out)) ?_
            rintro e wy ⟨rfl, ty⟩
            have LY : Hid _ := LX.keep ty
            clear LX
            go_wp2_with fail
            go_ret
            exact DnR.end LY.out HD.out (fun c c0 cn ce => le_trans' HB.out (HM.out c c0 cn ce)) _ (by simp)
        · have HM : Hid (∀ c, 0 < c → c < N → (c - 1) / 2 = t → (gt l' (2 * t + 1)).le (gt l' c)) := by
            intro c c0 cn ce
            rcases (by omega : c = 2 * t + 1 ∨ c = 2 * t + 2) with rfl | rfl
            · exact le_refl' _
            · exact hs
          have HS : Hid _ := hs
          clear hs hB
          have m1 := meth_less b v wr LL.out.ps.c0
          go_wp2_with fail
          refine Calls.mono (less_any wr b v B l' LL.out.ps (2 * t + 2) (2 * t + 1) _ _ (by omega) (by omega) (by have := hlen.out; have := HB0.out; omega) (by have := hlen.out; have := HA.out; omega) false (ltB_false HS.out)) ?_
          rintro e wx ⟨rfl, tx⟩
          have LX := LL.out.keep tx
          have m2 := meth_less b v wx LX.ps.c0
          go_wp2_with fail
          by_cases hb : (gt l' (2 * t + 1)).lt (gt l' t)
          · have HB : Hid _ := hb
            clear hb
            refine Calls.mono (less_any wx b v B l' LX.ps (2 * t + 1) t _ _ (by omega) rfl (by have := hlen.out; have := HA.out; omega) htl true (ltB_true HB.out)) ?_
            rintro e wy ⟨rfl, ty⟩
            have LY := LX.keep ty
            have m3 := meth_swap b v wy LY.ps.c0
            go_wp2_with fail
            refine Calls.mono (swap_any wy b v B l' LY.ps t (2 * t + 1) _ _ rfl (by omega) htl (by have := hlen.out; have := HA.out; omega)) ?_
            rintro e wz sz
            have es := sz.e
            subst es
            have LZ := LY.swap (by have := LY.len; omega) (by have := LY.len; have := hlen.out; have := HA.out; omega) HT.out (by have := HA.out; omega) sz
            have DZ : DnI N (gt (sw l' t (2 * t + 1))) (2 * t + 1) := dn_step HF.out (by omega) (by omega) (by have := HA.out; omega) HB.out HM.out (fun k => gt_sw htl (by have := hlen.out; have := HA.out; omega) k)
            clear sz
            have LW : Hid _ := LZ
            clear LZ LY LX
            go_wp2_with fail
            go_roundw
            case rel => exact ⟨2 * t + 1, by go_num, ⟨_, LW.out, by have := HA.out; omega, Or.inr ⟨by have := HG.out; omega, DZ⟩⟩⟩
            case measure => have := HA.out; simp [intOf]; omega
          · have HB : Hid _ := hb
            clear hb
            refine Calls.mono (less_any wx b v B l' LX.ps (2 * t + 1) t _ _ (by omega) rfl (by have := hlen.out; have := HA.out; omega) htl false (ltB_false HB.out)) ?_
            rintro e wy ⟨rfl, ty⟩
            have LY : Hid _ := LX.keep ty
            clear LX
            go_wp2_with fail
            go_ret
            exact DnR.end LY.out HD.out (fun c c0 cn ce => le_trans' HB.out (HM.out c c0 cn ce)) _ (by simp)
      · have hB1 : ¬ 2 * (t : Int) + 1 + 1 < (N : Int) := by omega
        have HM : Hid (∀ c, 0 < c → c < N → (c - 1) / 2 = t → (gt l' (2 * t + 1)).le (gt l' c)) := by
          intro c c0 cn ce
          rcases (by omega : c = 2 * t + 1) with rfl
          exact le_refl' _
        clear hB
        have LX := LL.out
        have m2 := meth_less b v wr LX.ps.c0
        go_wp2_with fail
        by_cases hb : (gt l' (2 * t + 1)).lt (gt l' t)
        · have HB : Hid _ := hb
          clear hb
          refine Calls.mono (less_any wr b v B l' LX.ps (2 * t + 1) t _ _ (by omega) rfl (by have := hlen.out; have := HA.out; omega) htl true (ltB_true HB.out)) ?_
          rintro e wy ⟨rfl, ty⟩
          have LY := LX.keep ty
          have m3 := meth_swap b v wy LY.ps.c0
          go_wp2_with fail
          refine Calls.mono (swap_any wy b v B l' LY.ps t (2 * t + 1) _ _ rfl (by omega) htl (by have := hlen.out; have := HA.out; omega)) ?_
          rintro e wz sz
          have es := sz.e
          subst es
          have LZ := LY.swap (by have := LY.len; omega) (by have := LY.len; have := hlen.out; have := HA.out; omega) HT.out (by have := HA.out; omega) sz
          have DZ : DnI N (gt (sw l' t (2 * t + 1))) (2 * t + 1) := dn_step HF.out (by omega) (by omega) (by have := HA.out; omega) HB.out HM.out (fun k => gt_sw htl (by have := hlen.out; have := HA.out; omega) k)
          clear sz
          have LW : Hid _ := LZ
          clear LZ LY LX
          go_wp2_with fail
          go_roundw
          case rel => exact ⟨2 * t + 1, by go_num, ⟨_, LW.out, by have := HA.out; omega, Or.inr ⟨by have := HG.out; omega, DZ⟩⟩⟩
          case measure => have := HA.out; simp [intOf]; omega
        · have HB : Hid _ := hb
          clear hb
          refine Calls.mono (less_any wr b v B l' LX.ps (2 * t + 1) t _ _ (by omega) rfl (by have := hlen.out; have := HA.out; omega) htl false (ltB_false HB.out)) ?_
          rintro e wy ⟨rfl, ty⟩
          have LY : Hid _ := LX.keep ty
          clear LX
          go_wp2_with fail
          go_ret
          exact DnR.end LY.out HD.out (fun c c0 cn ce => le_trans' HB.out (HM.out c c0 cn ce)) _ (by simp)
    · have hA1 : ¬ 2 * (t : Int) + 1 < (N : Int) := by omega
      clear hF
      go_wp2_with fail
      go_ret
      exact DnR.end LL.out HD.out (fun c c0 cn ce => by omega) _ (by simp)
end Go.Proofs.Ytdfacfpjhnohcaa
