/- whole, unsigned, kindOf; the mark of a digest, there and back. -/
import Derived.Test.YthilfealloakdaaAuSay
import Derived.Test.YthilfealloakdaaPkLen2
import Derived.Test.YthilfealloakdaaDigSame
namespace Go.Proofs.Ythilfealloakdaa
open Go.RowKit
set_option linter.unusedVariables false
set_option maxRecDepth 100000

set_option maxHeartbeats 1000000 in
theorem whole_pk (v : Value) (rs : List Int) (n : Int) (w : World) (hv : ArgAt w v rs) (hby : ∀ z ∈ rs, 0 ≤ z ∧ z < 256) (hn : rs.length ≤ 1000000) :
    Calls Try.prog 61 #[v, .int .i64 n] w fun e w' => e = .returned (.int .i64 (wholeE rs n)) ∧ Touch (fun _ => False) w w' := by
  have HR := pright_any v rs w hv hby hn
  obtain ⟨va, vc, rfl, hmx⟩ := hv.form
  unfold wholeE
  by_cases h1 : n < (rs.length : Int)
  · rw [if_pos h1]
    clear HR hv hby hn
    generalize rs.length = m at *
    go_enter Try.func61, Try.ntmps61
    go_wp2
    go_ret
    exact ⟨rfl, Touch.refl _ _⟩
  · rw [if_neg h1]
    generalize pRight rs = R at HR ⊢
    clear hv hby hn
    generalize rs.length = m at *
    cases R
    · rw [if_pos rfl]
      go_enter Try.func61, Try.ntmps61
      go_wp2_with fail
      refine Calls.mono HR ?_
      rintro e w1 ⟨rfl, t1⟩
      go_wp2
      go_ret
      exact ⟨rfl, t1⟩
    · rw [if_neg (by simp)]
      go_enter Try.func61, Try.ntmps61
      go_wp2_with fail
      refine Calls.mono HR ?_
      rintro e w1 ⟨rfl, t1⟩
      go_wp2
      go_ret
      exact ⟨rfl, t1⟩
set_option maxHeartbeats 1000000 in
theorem kindOf_any (v : Value) (ks : List KE) (w : World) (hv : ChainAt w v ks) :
    Calls Try.prog 58 #[v] w fun e w' => e = .returned (.int .u16 (kindOfL (pureL ks))) ∧ w = w' := by
  obtain ⟨va, vc, rfl, hmx⟩ := ValsAt.form hv.vals
  cases ks with
  | nil =>
    rw [show kindOfL (pureL []) = 0 from rfl]
    go_enter Try.func58, Try.ntmps58
    go_wp2
    go_ret
    exact ⟨rfl, rfl⟩
  | cons y r =>
    rw [show kindOfL (pureL (y :: r)) = y.p.kind from rfl]
    obtain ⟨-, g, off, c, e, hcell⟩ := hv.one (j := 0) (x := y) rfl
    cases e
    have y1 : w.cell? ⟨g, off + 1, none⟩ = some (.int .u16 y.p.kind) := by have := hcell 1 _ rfl; simpa using this
    have hl : (0 : Int) < ((y :: r).length : Int) := by rw [List.length_cons]; omega
    have hl' : ¬ (((y :: r).length : Int) = 0) := by rw [List.length_cons]; omega
    clear hv hmx hcell
    generalize (y :: r).length = m at *
    go_enter Try.func58, Try.ntmps58
    go_wp2
    go_ret
    exact ⟨rfl, rfl⟩
set_option maxHeartbeats 2000000 in
theorem unsigned_any (v : Value) (rs : List Int) (w : World) (hv : ArgAt w v rs) (hby : ∀ z ∈ rs, 0 ≤ z ∧ z < 256) (hn : rs.length ≤ 1000000) :
    Calls Try.prog 34 #[v] w fun e w' => e = .returned (.int .i64 (unsE rs)) ∧ Touch (fun _ => False) w w' := by
  have HL := plenP_any v rs w hv hby hn
  by_cases hE : pLenE rs = 0
  · have P := pLenE_ok hE
    have HS : Hid (∀ w', Touch (fun _ => False) w w' → Calls Try.prog 48 #[v] w' fun e w'' => e = .returned (.tuple #[.int .u16 (kindB rs), .agg (bytesOf (dataB rs)).toArray]) ∧ Touch (fun _ => False) w' w'') := fun w' t => said_any v rs w' (hv.keep t (fun _ _ h => h)) hby P.l hn
    have HR : Hid (∀ w', Touch (fun _ => False) w w' → Calls Try.prog 49 #[v] w' fun e w'' => e = .returned (.bool (pRight rs)) ∧ Touch (fun _ => False) w' w'') := fun w' t => pright_any v rs w' (hv.keep t (fun _ _ h => h)) hby hn
    have hOl' : (bytesOf (dataB rs)).length = 8 := by rw [length_bytesOf, length_dataB P.l]
    have hO1 := oneCell_bytesOf (dataB rs)
    have hU : unsE rs = if pTold rs < (rs.length : Int) then 22 else if kindB rs ≠ 0 then 25 else if pRight rs = false then 23 else 0 := by unfold unsE; rw [if_neg (fun h => h hE)]
    have hPN : pLenN rs = pTold rs := by unfold pLenN; rw [if_pos hE]
    rw [hU]
    rw [hE, hPN] at HL
    generalize bytesOf (dataB rs) = O at *
    generalize pTold rs = N at *
    generalize kindB rs = K at *
    generalize pRight rs = R at *
    obtain ⟨va, vc, rfl, hmx⟩ := hv.form
    clear hv hby hE hU hPN P hn
    generalize rs.length = m at *
    by_cases h1 : N < (m : Int)
    · rw [if_pos h1]
      go_enter Try.func34, Try.ntmps34
      go_wp2_with fail
      refine Calls.mono HL ?_
      rintro e w1 ⟨rfl, t1⟩
      have T1 : Hid (Touch (fun _ => False) w w1) := t1
      clear t1
      go_wp2_with fail
      refine Calls.mono (HS.out w1 T1.out) ?_
      rintro e w2 ⟨rfl, t2⟩
      have T2 : Hid (Touch (fun _ => False) w w2) := T1.out.trans t2
      clear t2 T1
      go_wp2_with (refine wpList_store_row rfl 87 (.tmp 6) (.tmp 19) rfl w2.heap.size O.toArray rfl rfl 87 _ (row_new w2 87 _) (by rw [Try.info8d, List.size_toArray, hOl']) (by simp [hOl']) (all_oneCell hO1) ?_)
      go_ret
      exact ⟨rfl, (Touch.setRow (T2.out.alloc _) (Or.inr T2.out.size) _)⟩
    rw [if_neg h1]
    by_cases h2 : K = 0
    · subst h2
      rw [if_neg (by simp)]
      cases R
      · rw [if_pos rfl]
        go_enter Try.func34, Try.ntmps34
        go_wp2_with fail
        refine Calls.mono HL ?_
        rintro e w1 ⟨rfl, t1⟩
        have T1 : Hid (Touch (fun _ => False) w w1) := t1
        clear t1
        go_wp2_with fail
        refine Calls.mono (HS.out w1 T1.out) ?_
        rintro e w2 ⟨rfl, t2⟩
        have T2 : Hid (Touch (fun _ => False) w w2) := T1.out.trans t2
        clear t2 T1
        go_wp2_with (refine wpList_store_row rfl 87 (.tmp 6) (.tmp 19) rfl w2.heap.size O.toArray rfl rfl 87 _ (row_new w2 87 _) (by rw [Try.info8d, List.size_toArray, hOl']) (by simp [hOl']) (all_oneCell hO1) ?_)
        have T3 : Hid (Touch (fun _ => False) w ((w2.alloc (.cells #[.int .u8 0, .int .u8 0, .int .u8 0, .int .u8 0, .int .u8 0, .int .u8 0, .int .u8 0, .int .u8 0] 87)).setRow w2.heap.size O.toArray)) := Touch.setRow (T2.out.alloc _) (Or.inr T2.out.size) _
        refine Calls.mono (HR.out _ T3.out) ?_
        rintro e w4 ⟨rfl, t4⟩
        have T4 : Hid (Touch (fun _ => False) w w4) := T3.out.trans t4
        clear t4 T3
        go_wp2
        go_ret
        exact ⟨rfl, T4.out⟩
      · rw [if_neg (by simp)]
        go_enter Try.func34, Try.ntmps34
        go_wp2_with fail
        refine Calls.mono HL ?_
        rintro e w1 ⟨rfl, t1⟩
        have T1 : Hid (Touch (fun _ => False) w w1) := t1
        clear t1
        go_wp2_with fail
        refine Calls.mono (HS.out w1 T1.out) ?_
        rintro e w2 ⟨rfl, t2⟩
        have T2 : Hid (Touch (fun _ => False) w w2) := T1.out.trans t2
        clear t2 T1
        go_wp2_with (refine wpList_store_row rfl 87 (.tmp 6) (.tmp 19) rfl w2.heap.size O.toArray rfl rfl 87 _ (row_new w2 87 _) (by rw [Try.info8d, List.size_toArray, hOl']) (by simp [hOl']) (all_oneCell hO1) ?_)
        have T3 : Hid (Touch (fun _ => False) w ((w2.alloc (.cells #[.int .u8 0, .int .u8 0, .int .u8 0, .int .u8 0, .int .u8 0, .int .u8 0, .int .u8 0, .int .u8 0] 87)).setRow w2.heap.size O.toArray)) := Touch.setRow (T2.out.alloc _) (Or.inr T2.out.size) _
        refine Calls.mono (HR.out _ T3.out) ?_
        rintro e w4 ⟨rfl, t4⟩
        have T4 : Hid (Touch (fun _ => False) w w4) := T3.out.trans t4
        clear t4 T3
        go_wp2
        go_ret
        exact ⟨rfl, T4.out⟩
    · rw [if_pos h2]
      go_enter Try.func34, Try.ntmps34
      go_wp2_with fail
      refine Calls.mono HL ?_
      rintro e w1 ⟨rfl, t1⟩
      have T1 : Hid (Touch (fun _ => False) w w1) := t1
      clear t1
      go_wp2_with fail
      refine Calls.mono (HS.out w1 T1.out) ?_
      rintro e w2 ⟨rfl, t2⟩
      have T2 : Hid (Touch (fun _ => False) w w2) := T1.out.trans t2
      clear t2 T1
      go_wp2_with (refine wpList_store_row rfl 87 (.tmp 6) (.tmp 19) rfl w2.heap.size O.toArray rfl rfl 87 _ (row_new w2 87 _) (by rw [Try.info8d, List.size_toArray, hOl']) (by simp [hOl']) (all_oneCell hO1) ?_)
      go_ret
      exact ⟨rfl, (Touch.setRow (T2.out.alloc _) (Or.inr T2.out.size) _)⟩
  · have hU : unsE rs = pLenE rs := by unfold unsE; rw [if_pos hE]
    rw [hU]
    obtain ⟨va, vc, rfl, hmx⟩ := hv.form
    clear hv hby hU hn
    generalize pLenE rs = E at *
    generalize pLenN rs = N at *
    go_enter Try.func34, Try.ntmps34
    go_wp2_with fail
    refine Calls.mono HL ?_
    rintro e w1 ⟨rfl, t1⟩
    go_wp2
    go_ret
    exact ⟨rfl, t1⟩
end Go.Proofs.Ythilfealloakdaa
