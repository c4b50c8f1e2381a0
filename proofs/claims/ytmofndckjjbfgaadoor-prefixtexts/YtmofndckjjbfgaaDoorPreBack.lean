/- Texts there and back: what is written is read so, and what is read was written so. No program in it. -/
import Derived.Test.YtmofndckjjbfgaaDoorPreParse
namespace Go.Proofs.YtmofndckjjbfgaaDoor
open Go.Lib
set_option linter.unusedVariables false

theorem dec_big {u : Nat} (h : ¬ u < 10) : decDigits u = decDigits (u / 10) ++ [UInt8.ofNat (48 + u % 10)] := by
  rw [decDigits]; simp [h]
theorem ofNat_dig {k : Nat} (h : k < 10) : (UInt8.ofNat (48 + k)).toNat = 48 + k := by
  rw [UInt8.toNat_ofNat']; omega
theorem dval_dec : ∀ u : Nat, dval (decDigits u) = u := by
  intro u
  induction u using Nat.strongRecOn with
  | _ u ih =>
    by_cases h : u < 10
    · rw [decDigits_one h]; simp only [dval, List.foldl]; rw [ofNat_dig h]; omega
    · rw [dec_big h, dval_snoc, ih (u / 10) (by omega), ofNat_dig (by omega)]; omega
theorem dec_dig : ∀ u : Nat, ∀ c ∈ decDigits u, digB c = true := by
  intro u
  induction u using Nat.strongRecOn with
  | _ u ih =>
    intro c hc
    by_cases h : u < 10
    · rw [decDigits_one h] at hc
      have : c = UInt8.ofNat (48 + u) := by simpa using hc
      rw [this]; simp only [digB, decide_eq_true_eq]; rw [ofNat_dig h]; omega
    · rw [dec_big h] at hc
      rcases List.mem_append.1 hc with h' | h'
      · exact ih (u / 10) (by omega) c h'
      · have : c = UInt8.ofNat (48 + u % 10) := by simpa using h'
        rw [this]; simp only [digB, decide_eq_true_eq]; rw [ofNat_dig (by omega)]; omega
theorem head_app {x y : List UInt8} (h : x ≠ []) : (x ++ y).head? = x.head? := by
  cases x with
  | nil => exact absurd rfl h
  | cons a t => rfl
theorem dec_ne (u : Nat) : decDigits u ≠ [] := by
  by_cases h : u < 10
  · rw [decDigits_one h]; simp
  · rw [dec_big h]; simp
theorem dec_head : ∀ u : Nat, (decDigits u).head? = some 48 → u = 0 := by
  intro u
  induction u using Nat.strongRecOn with
  | _ u ih =>
    intro hh
    by_cases h : u < 10
    · rw [decDigits_one h] at hh
      have e : UInt8.ofNat (48 + u) = 48 := by simpa using hh
      have := congrArg UInt8.toNat e
      rw [ofNat_dig h] at this
      simp at this; omega
    · rw [dec_big h, head_app (dec_ne _)] at hh
      have := ih (u / 10) (by omega) hh
      omega
theorem dec_isNum {u top : Nat} (h : u ≤ top) : isNum (decDigits u) top = true := by
  simp only [isNum, decide_eq_true_eq]
  refine ⟨dec_ne u, fun hh => ?_, dec_dig u, by rw [dval_dec]; exact h⟩
  rw [dec_head u hh, decDigits_one (by omega)]; rfl

/-- A row of digits without a nought ahead is the numeral of what it says. -/
theorem dec_of (n : Nat) : ∀ (l : List UInt8), l.length = n → l ≠ [] → (l.head? = some 48 → l = [48]) → (∀ c ∈ l, digB c = true) → decDigits (dval l) = l := by
  induction n with
  | zero => intro l hl hne; exact absurd (List.eq_nil_of_length_eq_zero hl) hne
  | succ n ih =>
    intro l hl hne hh hd
    obtain ⟨t, c, rfl⟩ : ∃ t c, l = t ++ [c] := ⟨l.dropLast, l.getLast hne, (List.dropLast_concat_getLast hne).symm⟩
    have hc := hd c (by simp)
    simp only [digB, decide_eq_true_eq] at hc
    have hcn : UInt8.ofNat (48 + (c.toNat - 48)) = c := by
      apply UInt8.toNat_inj.1; rw [ofNat_dig (by omega)]; omega
    rw [dval_snoc]
    by_cases ht : t = []
    · subst ht
      have : dval ([] : List UInt8) = 0 := rfl
      rw [this, decDigits_one (by omega)]
      simp only [List.nil_append]
      rw [show 10 * 0 + (c.toNat - 48) = c.toNat - 48 by omega, hcn]
    · have hth : t.head? ≠ some 48 := by
        intro e
        have := hh (by rw [head_app ht]; exact e)
        have h2 := congrArg List.length this
        have h3 : 0 < t.length := List.length_pos_iff.2 ht
        rw [List.length_append] at h2
        simp only [List.length_cons, List.length_nil] at h2
        omega
      have ih' := ih t (by simpa using hl) ht (fun e => absurd e hth) (fun x hx => hd x (by simp [hx]))
      have hpos : dval t ≠ 0 := by
        intro e
        rw [e, decDigits_one (by omega)] at ih'
        exact hth (by rw [← ih']; rfl)
      rw [dec_big (by omega), show (10 * dval t + (c.toNat - 48)) / 10 = dval t by omega, ih', show (10 * dval t + (c.toNat - 48)) % 10 = c.toNat - 48 by omega, hcn]
theorem dec_isNum_of {l : List UInt8} {top : Nat} (h : isNum l top = true) : decDigits (dval l) = l ∧ dval l ≤ top := by
  simp only [isNum, decide_eq_true_eq] at h
  exact ⟨dec_of l.length l rfl h.1 h.2.1 h.2.2.1, h.2.2.2⟩
theorem dec_not (u : Nat) {c : UInt8} (hc : c.toNat < 48) : c ∉ decDigits u := by
  intro h
  have := dec_dig u c h
  simp only [digB, decide_eq_true_eq] at this
  omega

theorem rdN_dec {top k u acc : Nat} {rest : List UInt8} (hu : u ≤ top) : rdN top (k + 2) (decDigits u ++ 46 :: rest) acc = rdN top (k + 1) rest (acc * 256 + u) := by
  rw [rdN_succ, cutL_app (dec_not u (by decide))]
  simp only [dec_isNum hu, dval_dec]
  simp
theorem rdN_dec1 {top u acc : Nat} (hu : u ≤ top) : rdN top 1 (decDigits u) acc = some (acc * 256 + u) := by
  rw [rdN_succ, cutL_none (dec_not u (by decide))]
  simp only [dec_isNum hu, dval_dec]
  simp
theorem rdA_dot {a : Nat} (ha : a < 4294967296) : rdA (dot a) = some a := by
  unfold rdA dot
  rw [rdN_dec (by omega), rdN_dec (by omega), rdN_dec (by omega), rdN_dec1 (by omega)]
  congr 1; omega
theorem dot_not {a : Nat} : (47 : UInt8) ∉ dot a := by
  unfold dot
  have h := fun u => dec_not u (c := 47) (by decide)
  simp [h]
theorem rdP_ptx {a n : Nat} (ha : a < 4294967296) (hp : pis a n = true) : rdP (ptx a n) = .ok a n := by
  have hn : n ≤ 32 := by have := (pis_iff.1 hp).1; omega
  unfold rdP ptx
  rw [cutL_app dot_not]
  simp only [rdA_dot ha]
  rw [show rdB (decDigits n) = some n from (rdN_dec1 hn).trans (by congr 1; omega)]
  simp [hp]

theorem rdN_inv {top k acc v : Nat} {l : List UInt8} (h : rdN top (k + 2) l acc = some v) : ∃ u rest, u ≤ top ∧ l = decDigits u ++ 46 :: rest ∧ rdN top (k + 1) rest (acc * 256 + u) = some v := by
  rw [rdN_succ] at h
  split at h
  · cases h
  · rename_i hm
    have hm' : (cutL 46 l).2.2 = true := by simpa using hm
    split at h
    · rename_i hn
      obtain ⟨h1, h2⟩ := dec_isNum_of hn
      refine ⟨dval (cutL 46 l).1, (cutL 46 l).2.1, h2, ?_, by simpa using h⟩
      rw [h1]; exact (cutL_yes hm').1
    · cases h
theorem rdN_inv1 {top acc v : Nat} {l : List UInt8} (h : rdN top 1 l acc = some v) : ∃ u, u ≤ top ∧ l = decDigits u ∧ v = acc * 256 + u := by
  rw [rdN_succ] at h
  split at h
  · cases h
  · rename_i hm
    have hm' : (cutL 46 l).2.2 = false := by simpa using hm
    obtain ⟨e, _⟩ := cutL_no hm'
    split at h
    · rename_i hn
      rw [e] at hn h
      obtain ⟨h1, h2⟩ := dec_isNum_of hn
      refine ⟨dval l, h2, h1.symm, ?_⟩
      simp at h; omega
    · cases h
theorem rdA_inv {l : List UInt8} {v : Nat} (h : rdA l = some v) : dot v = l := by
  obtain ⟨u1, r1, h1, rfl, g1⟩ := rdN_inv h
  obtain ⟨u2, r2, h2, rfl, g2⟩ := rdN_inv g1
  obtain ⟨u3, r3, h3, rfl, g3⟩ := rdN_inv g2
  obtain ⟨u4, h4, rfl, rfl⟩ := rdN_inv1 g3
  clear h g1 g2 g3
  unfold dot
  rw [show ((((0 * 256 + u1) * 256 + u2) * 256 + u3) * 256 + u4) / 16777216 = u1 by omega, show ((((0 * 256 + u1) * 256 + u2) * 256 + u3) * 256 + u4) / 65536 % 256 = u2 by omega,
    show ((((0 * 256 + u1) * 256 + u2) * 256 + u3) * 256 + u4) / 256 % 256 = u3 by omega, show ((((0 * 256 + u1) * 256 + u2) * 256 + u3) * 256 + u4) % 256 = u4 by omega]
theorem rdP_inv {l : List UInt8} {a n : Nat} (h : rdP l = .ok a n) : ptx a n = l ∧ a < 4294967296 ∧ pis a n = true := by
  unfold rdP at h
  split at h
  · rename_i a' n' h1 h2
    split at h
    · rename_i hp
      cases h
      obtain ⟨u, hu, e, e2⟩ := rdN_inv1 h2
      obtain rfl : n = u := by omega
      have hm : (cutL 47 l).2.2 = true := by
        cases hm : (cutL 47 l).2.2 with
        | true => rfl
        | false =>
          rw [(cutL_no hm).1] at e
          exact absurd e.symm (dec_ne _)
      refine ⟨?_, rdA_lt h1, hp⟩
      unfold ptx
      rw [rdA_inv h1, ← e]
      exact (cutL_yes hm).1.symm
    · cases h
  · cases h
end Go.Proofs.YtmofndckjjbfgaaDoor
