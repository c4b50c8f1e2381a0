/- The document's reading: 'number', 'split'. -/
import Derived.Test.YtmofndckjjbfgaaDoorPreTxMath
import Derived.Test.YtmofndckjjbfgaaDoorPreRef2
import Derived.Maps.AppendAt
import Derived.OwnWalk
namespace Go.Proofs.YtmofndckjjbfgaaDoor
open Go.RowKit
set_option linter.unusedVariables false
set_option maxRecDepth 100000

theorem str_get (l : List UInt8) (k : Nat) (h : k < (ByteArray.mk l.toArray).size) : (ByteArray.mk l.toArray)[k]'h = l.getD k 0 := by
  have hk : k < l.length := by simpa [ByteArray.size] using h
  have e : l.getD k 0 = l[k] := by simp [List.getD, hk]
  rw [e]; rfl
theorem head_get (l : List UInt8) (h : 0 < (ByteArray.mk l.toArray).size) : l.head? = some ((ByteArray.mk l.toArray)[0]'h) := by
  cases l with
  | nil => exact absurd h (by decide)
  | cons c t => rfl

theorem u8_of {c : UInt8} (h : (((c.toNat : Nat) : Int) == 48) = true) : c = 48 := by
  have : c.toNat = 48 := by have : ((c.toNat : Nat) : Int) = 48 := by simpa using h
                            omega
  exact UInt8.toNat_inj.1 this
theorem lead_a {l : List UInt8} {h : 0 < (ByteArray.mk l.toArray).size} (e : (((((ByteArray.mk l.toArray)[0]'h).toNat : Nat) : Int) == 48) = false) : l.head? = some 48 → l = [48] := by
  intro e'
  rw [head_get l h] at e'
  have e2 : (ByteArray.mk l.toArray)[0]'h = 48 := by simpa using e'
  rw [e2] at e
  exact absurd e (by decide)
theorem lead_b {l : List UInt8} (h : l.length ≤ 1) : l.head? = some 48 → l = [48] := by
  intro e'
  match l, h with
  | [], _ => cases e'
  | [c], _ => simp at e'; rw [e']

theorem dig_less' {l : List UInt8} {k : Nat} (hk : k < l.length) : l.length - (intOf (.int .i64 ((k : Int) + 1))).toNat < l.length - (intOf (.int .i64 (k : Int))).toNat := by
  simp [intOf]; omega

def NumR (l : List UInt8) (n i : Value) : Prop := ∃ k v : Nat, k ≤ l.length ∧ i = .int .i64 (k : Int) ∧ n = .int .i64 (v : Int) ∧ v < 1000 ∧ Hid (v = dval (l.take k)) ∧ Hid (∀ c ∈ l.take k, digB c = true)

set_option maxHeartbeats 1000000 in
theorem number_any (l : List UInt8) (most : Nat) (w : World) (hm : most ≤ 255) (hl : l.length ≤ 2147483647) :
    Calls Tryd.prog 46 #[.string ⟨l.toArray⟩, .int .i64 (most : Int)] w fun e w' => (∃ v : Int, e = .returned (.tuple #[.int .i64 v, .bool (isNum l most)]) ∧ (isNum l most = true → v = (dval l : Int))) ∧ w = w' := by
  by_cases h0 : l = []
  · subst h0
    go_enter Tryd.func46, Tryd.ntmps46
    go_wp2
    go_ret2
    exact ⟨⟨0, by rw [no_empty]; rfl, by rw [no_empty]; intro h; cases h⟩, rfl⟩
  · have hpos : 0 < l.length := List.length_pos_iff.2 h0
    have he : ((l.length : Int) == 0) = false := by simp; omega
    by_cases h3 : 3 < l.length
    · have h3' : (3 : Int) < (l.length : Int) := by omega
      have HN : Hid (isNum l most = false) := isNum_long hm h3
      clear h3 hl
      go_enter Tryd.func46, Tryd.ntmps46
      go_wp2
      go_ret2
      exact ⟨⟨0, by rw [HN.out]; rfl, by rw [HN.out]; intro h; cases h⟩, rfl⟩
    · have h3' : ¬ (3 : Int) < (l.length : Int) := by omega
      have HL3 : Hid (l.length ≤ 3) := by show _ ≤ _; omega
      clear h3 hl
      go_enter Tryd.func46, Tryd.ntmps46
      go_wp2
      · have HN : Hid (isNum l most = false) := isNum_lead (by omega) ((head_get l _).trans (congrArg some (u8_of (by assumption))))
        go_ret2
        exact ⟨⟨0, by rw [HN.out]; rfl, by rw [HN.out]; intro h; cases h⟩, rfl⟩
      all_goals
        have HH : Hid (l.head? = some 48 → l = [48]) := by first | exact lead_a (by assumption) | exact lead_b (by omega)
        go_loop [6, 7] (fun n i => NumR l n i) (fun _ i => l.length - (intOf i).toNat)
        case atStart => exact ⟨0, 0, Nat.zero_le _, rfl, rfl, by omega, rfl, by intro c hc; simp at hc⟩
        case round =>
          obtain ⟨k, v, hk, rfl, rfl, hv, HV, HD⟩ := hrel
          by_cases hkl : k < l.length
          · have hki : (k : Int) < (l.length : Int) := by omega
            have hk0 : (0 : Int) ≤ (k : Int) := by omega
            have hks : k < (ByteArray.mk l.toArray).size := by simpa [ByteArray.size] using hkl
            have hcn : ((ByteArray.mk l.toArray)[k]'hks).toNat = (l.getD k 0).toNat := by rw [str_get l k hks]
            have hc256 := getD_lt l k
            have HKD := no_digit (top := most) hkl
            have HKV := dval_next hkl
            have HKG := dig_next hkl HD.out
            rw [← HV.out] at HKV
            revert hcn hc256 HKD HKV HKG
            generalize (l.getD k 0).toNat = c
            intro hcn hc256 HKD HKV HKG
            by_cases hdg : 48 ≤ c ∧ c ≤ 57
            · obtain ⟨hdg1, hdg2⟩ := hdg
              have hq1 : (48 : Int) ≤ (c : Int) := by omega
              have hq2 : (c : Int) ≤ 57 := by omega
              have hv0 : (0 : Int) ≤ (v : Int) := by omega
              have hv1 : (v : Int) < 1000 := by omega
              have hle : 10 * v + (c - 48) < 1000 := by
                have := dval_lt (k + 1) (l.take (k + 1)) (by simp; omega) (HKG ⟨hdg1, hdg2⟩)
                rw [HKV] at this
                have h10 : 10 ^ (k + 1) ≤ 10 ^ 3 := Nat.pow_le_pow_right (by omega) (by have := HL3.out; omega)
                omega
              have hst : NumR l (.int .i64 (10 * (v : Int) + ((c : Int) - 48))) (.int .i64 ((k : Int) + 1)) := ⟨k + 1, 10 * v + (c - 48), hkl, by rw [Int.natCast_add]; rfl, by congr 1; omega, hle, HKV.symm, HKG ⟨hdg1, hdg2⟩⟩
              have HST : Hid _ := hst
              have hkb : (k : Int) < 3 := by have := HL3.out; omega
              clear hst HKD HKV HKG hle
              go_wp2_with fail
              go_round
              case rel => exact HST.out
              case measure => exact dig_less' hkl
            · have HN : Hid (isNum l most = false) := HKD hdg
              have hq : (c : Int) < 48 ∨ (57 : Int) < (c : Int) := by omega
              clear HKD HKV HKG hdg
              rcases hq with hq | hq
              all_goals
                go_wp2_with fail
                go_ret2
                exact ⟨⟨0, by rw [HN.out]; rfl, by rw [HN.out]; intro h; cases h⟩, rfl⟩
          · obtain rfl : k = l.length := by omega
            have hki : ¬ (l.length : Int) < (l.length : Int) := by omega
            have hd := HD.out
            have hvv := HV.out
            rw [List.take_length] at hd hvv
            have HN : Hid (isNum l most = decide (v ≤ most)) := by
              show _ = _
              rw [isNum_iff h0 HH.out hd, ← hvv]
            have HV2 : Hid (v = dval l) := hvv
            clear hd hvv
            go_wp2_with fail
            go_ret2
            exact ⟨⟨v, by rw [HN.out]; rfl, fun _ => by rw [HV2.out]⟩, rfl⟩
end Go.Proofs.YtmofndckjjbfgaaDoor
