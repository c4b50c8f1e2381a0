
/- A round: a description without heads comes. -/
import Derived.Test.YtojlnabhaglejaaAdDesc3
namespace Go.Proofs.Ytojlnabhaglejaa
open Go.RowKit
set_option linter.unusedVariables false
set_option maxRecDepth 100000

/-- The flags that come. -/
def pfl (ma : Bool) (j : Nat) : Int := if ma then 0 else if j = 0 then 7 else 1
/-- How an adjacency stands behind j rounds. -/
structure St (ma : Bool) (G : Nat → Prop) (own : List HV) (w : World) (b j : Nat) (x : AJ) : Prop where
  self : x.self = if ma then 2 else 1
  other : x.other = if ma then 1 else 2
  mtu : x.mtu = 0
  keys : x.keys = .slice none 0 0
  num : x.number = if ma then 9 + (j : Int) else if j = 0 then 9 else 8 + (j : Int)
  st : x.state = if j = 0 then 0 else 1
  ms : j ≠ 0 → x.master = ma
  tk : j ≠ 0 → x.topts = 2
  left : j ≠ 0 → HdsB G w x.left (own.drop (16 * j))
  sf : x.sflags = if j = 0 then 7 else flg ma (decide (16 * j < own.length))
/-- What a round answers. -/
def RdP (ma : Bool) (G : Nat → Prop) (own : List HV) (w : World) (b j : Nat) (v : Value) (w' : World) : Prop :=
  Touch (fun k => k = b) w w' ∧ ∃ x' : AJ, Ads w' b x' ∧ ¬ x'.self = 0 ∧
    ((v = .slice none 0 0 ∧ x'.state = 3 ∧ own.length ≤ 16 * j) ∨
      ∃ m o f s, OneDH w.heap.size w' v m o f s ((own.drop (16 * j)).take 16) ∧ ((x'.state = 3 ∧ own.length ≤ 16 * (j + 1)) ∨ (x'.state = 1 ∧ 16 * (j + 1) ≤ own.length + 16 ∧ St ma G own w' b (j + 1) x')))
theorem wrap_small {n : Int} (h0 : 0 ≤ n) (h : n < 1000) : IntKind.u32.wrap n = n := by simp [IntKind.wrap, IntKind.bits, IntKind.signed]; omega
theorem dropd (own : List HV) (j : Nat) : (own.drop (16 * j)).drop 16 = own.drop (16 * (j + 1)) := by rw [List.drop_drop, Nat.mul_add, Nat.mul_one]
theorem fit_flag (own : List HV) (j : Nat) (ma : Bool) : flg ma (decide (16 < (own.drop (16 * j)).length)) = flg ma (decide (16 * (j + 1) < own.length)) := by
  congr 1
  rw [List.length_drop]
  exact decide_eq_decide.2 ⟨fun h => by omega, fun h => by omega⟩
set_option maxHeartbeats 1000000 in
theorem describe_any (ma : Bool) (G : Nat → Prop) (own : List HV) (w : World) (b j : Nat) (x : AJ) (ov : Value) (h : Ads w b x) (st : St ma G own w b j x) (hG : ¬ G b) (hG0 : j = 0 → ∀ k, w.heap.size ≤ k → G k) (hj : j ≤ 100) (hj2 : j = 0 ∨ 16 * j ≤ own.length + 16) (ho : HdsB (fun k => k ≠ b) w ov own) (hol : own.length ≤ 1000000) (hof : ∀ h ∈ own, h.Fine) :
    Calls Try.prog 16 #[.pointer (some ⟨b, 0, none⟩), .agg #[.int .u16 0, .int .u8 2, .int .u8 (pfl ma j), .int .u32 (9 + (j : Int)), .slice none 0 0], ov] w fun e w' => ∃ v, e = .returned (.tuple #[v, .int .i64 0]) ∧ RdP ma G own w b j v w' := by
  obtain ⟨oa, oc, hov, -⟩ := ValsAt.form ho.at_
  have ss := st.self
  have so := st.other
  have sm := st.mtu
  have sk := st.keys
  have sn := st.num
  have sS := st.st
  have sf := st.sf
  have hlt := h.lt
  by_cases hj0 : j = 0
  · subst hj0
    simp only [if_true, Nat.mul_zero] at *
    cases ma
    · simp only [Bool.false_eq_true, if_false] at ss so sn
      refine describe_start w b x 0 2 7 9 ov oa own.length oc hov (RdP false G own w b 0) h (by omega) sS sm (fun w1 t1 => ?_)
      refine meet_follow w1 b x 0 2 9 _ G hG (fun k hk => hG0 trivial k (Nat.le_trans t1.size hk)) (h.keep t1) (by omega) own ov (ho.keep t1) hol hof (fun w6 u t6 h6 hu => ?_)
      have T6 := (t1.mono (fun _ _ f => f.elim)).trans t6
      refine take_follow w6 b _ 0 2 7 9 _ h6 rfl own ov (ho.touch T6 (fun h => h rfl)) hol hof (fun w3 t3 h3 => ?_)
      refine (follow_gen w3 b _ 0 2 7 9 own false h3 ?_ sk G (hu.touch t3 hG) hG hol).mono ?_
      · show (bits .and .u8 (bits .or .u8 7 (flg false (decide (16 < own.length)))) 2 == 0) = false
        cases decide (16 < own.length) <;> decide
      · rintro e w' ⟨u', v1, v2, rfl, od, h4, hd, t4⟩
        have T4 := (T6.trans t3).trans t4
        refine ⟨u', rfl, T4, _, h4, by show ¬ x.self = 0; omega, Or.inr ⟨_, _, _, _, od.low (T6.trans t3).size, Or.inr ⟨rfl, by omega, ?_⟩⟩⟩
        exact ⟨ss, so, sm, sk, rfl, rfl, fun _ => rfl, fun _ => rfl, fun _ => hd, rfl⟩
    · simp only [if_true] at ss so sn
      refine describe_start w b x 0 2 0 9 ov oa own.length oc hov (RdP true G own w b 0) h (by omega) sS sm (fun w1 t1 => ?_)
      refine meet_lead w1 b x 0 2 9 _ G hG (fun k hk => hG0 trivial k (Nat.le_trans t1.size hk)) (h.keep t1) (by omega) (by omega) own ov (ho.keep t1) hol hof (fun w6 u t6 h6 hu => ?_)
      have T6 := (t1.mono (fun _ _ f => f.elim)).trans t6
      refine take_lead w6 b _ 0 2 0 9 _ h6 rfl own ov (ho.touch T6 (fun h => h rfl)) hol hof (fun w3 t3 h3 => ?_)
      refine (lead_next w3 b _ 0 2 0 9 10 own h3 ?_ ?_ G (hu.touch t3 hG) hG hol).mono ?_
      · show (bits .and .u8 (bits .or .u8 0 x.sflags) 2 == 0) = false
        rw [sf]
        decide
      · show IntKind.u32.wrap (x.number + 1) = 10
        rw [wrap_small (by omega) (by omega)]
        omega
      · rintro e w' ⟨u', v1, v2, rfl, od, h4, hd, t4⟩
        have T4 := (T6.trans t3).trans t4
        refine ⟨u', rfl, T4, _, h4, by show ¬ x.self = 0; omega, Or.inr ⟨_, _, _, _, od.low (T6.trans t3).size, Or.inr ⟨rfl, by omega, ?_⟩⟩⟩
        exact ⟨ss, so, sm, sk, rfl, rfl, fun _ => rfl, fun _ => rfl, fun _ => hd, rfl⟩
  · rw [if_neg hj0] at sS sf
    have smm := st.ms hj0
    have stt := st.tk hj0
    have sl := st.left hj0
    have hld : (own.drop (16 * j)).length ≤ 1000000 := by rw [List.length_drop]; omega
    cases ma
    · simp only [Bool.false_eq_true, if_false, if_neg hj0] at ss so sn
      have ep : pfl false j = 1 := by unfold pfl; simp [hj0]
      rw [ep]
      refine describe_slave w b x 0 2 1 _ ov oa own.length oc hov (RdP false G own w b j) h (by omega) sS smm sm (fun w1 t1 => ?_)
      refine exchange_gen w1 b 0 2 1 _ ov oa own.length oc hov _ (fun w2 t2 => fits_slave w2 b x 0 2 _ ((h.keep t1).keep t2) smm stt (by rw [wrap_small (by omega) (by omega)]; omega)) (fun w2 t2 => ?_)
      have T2 := t1.trans t2
      refine take_follow w2 b x 0 2 1 _ _ (h.keep T2) smm own ov (ho.keep T2) hol hof (fun w3 t3 h3 => ?_)
      have T3 := (T2.mono (fun _ _ f => f.elim)).trans t3
      refine (follow_gen w3 b _ 0 2 1 _ (own.drop (16 * j)) (decide (own.length ≤ 16 * (j + 1))) h3 ?_ sk G (sl.touch T3 hG) hG hld).mono ?_
      · show (bits .and .u8 (bits .or .u8 1 (flg x.master (decide (16 < (own.drop (16 * j)).length)))) 2 == 0) = _
        rw [fit_flag, smm]
        by_cases hle : own.length ≤ 16 * (j + 1)
        · rw [decide_eq_true hle, decide_eq_false (by omega)]
          decide
        · rw [decide_eq_false hle, decide_eq_true (by omega)]
          decide
      · rintro e w' ⟨u', v1, v2, rfl, od, h4, hd, t4⟩
        have T4 := T3.trans t4
        refine ⟨u', rfl, T4, _, h4, by show ¬ x.self = 0; omega, Or.inr ⟨_, _, _, _, od.low T3.size, ?_⟩⟩
        by_cases hle : own.length ≤ 16 * (j + 1)
        · exact Or.inl ⟨by show (if decide (own.length ≤ 16 * (j + 1)) = true then (3 : Int) else x.state) = 3; simp [hle], hle⟩
        · refine Or.inr ⟨by show (if decide (own.length ≤ 16 * (j + 1)) = true then (3 : Int) else x.state) = 1; simp [hle, sS], by omega, ?_⟩
          rw [dropd] at hd
          refine ⟨ss, so, sm, sk, ?_, ?_, fun _ => smm, fun _ => rfl, fun _ => hd, ?_⟩
          · show (9 : Int) + (j : Int) = _
            simp
            omega
          · show (if decide (own.length ≤ 16 * (j + 1)) = true then (3 : Int) else x.state) = _
            simp [hle, sS]
          · show flg x.master _ = _
            rw [fit_flag, smm]
            rfl
    · simp only [if_true] at ss so sn
      have ep : pfl true j = 0 := rfl
      rw [ep]
      refine describe_master w b x 0 2 0 _ ov oa own.length oc hov (RdP true G own w b j) h (by omega) sS smm sm (fun w1 t1 => ?_)
      refine exchange_gen w1 b 0 2 0 _ ov oa own.length oc hov _ (fun w2 t2 => fits_master w2 b x 0 2 _ ((h.keep t1).keep t2) smm stt sn) (fun w2 t2 => ?_)
      have T2 := t1.trans t2
      refine take_lead w2 b x 0 2 0 _ _ (h.keep T2) smm own ov (ho.keep T2) hol hof (fun w3 t3 h3 => ?_)
      have T3 := (T2.mono (fun _ _ f => f.elim)).trans t3
      by_cases hle : 16 * j < own.length
      · refine (lead_next w3 b _ 0 2 0 _ (10 + (j : Int)) (own.drop (16 * j)) h3 ?_ ?_ G (sl.touch T3 hG) hG hld).mono ?_
        · show (bits .and .u8 (bits .or .u8 0 x.sflags) 2 == 0) = false
          rw [sf, decide_eq_true hle]
          decide
        · show IntKind.u32.wrap (x.number + 1) = _
          rw [wrap_small (by omega) (by omega)]
          omega
        · rintro e w' ⟨u', v1, v2, rfl, od, h4, hd, t4⟩
          have T4 := T3.trans t4
          refine ⟨u', rfl, T4, _, h4, by show ¬ x.self = 0; omega, Or.inr ⟨_, _, _, _, od.low T3.size, Or.inr ⟨sS, by omega, ?_⟩⟩⟩
          rw [dropd] at hd
          refine ⟨ss, so, sm, sk, ?_, sS, fun _ => smm, fun _ => rfl, fun _ => hd, ?_⟩
          · show (10 : Int) + (j : Int) = _
            simp
            omega
          · show flg x.master _ = _
            rw [fit_flag, smm]
            rfl
      · refine (lead_full w3 b _ 0 2 0 _ h3 ?_ sk).mono ?_
        · show (bits .and .u8 (bits .or .u8 0 x.sflags) 2 == 0) = true
          rw [sf, decide_eq_false hle]
          decide
        · rintro e w' ⟨rfl, h4, t4⟩
          exact ⟨_, rfl, T3.trans t4, _, h4, by show ¬ x.self = 0; omega, Or.inl ⟨rfl, rfl, by omega⟩⟩
end Go.Proofs.Ytojlnabhaglejaa
