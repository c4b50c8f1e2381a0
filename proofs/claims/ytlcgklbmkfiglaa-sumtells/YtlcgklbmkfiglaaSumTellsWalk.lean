/- The walk of SumTells. -/
import Derived.Test.YtlcgklbmkfiglaaSumLives
import Derived.Test.YtlcgklbmkfiglaaRefSum3
namespace Go.Proofs.Ytlcgklbmkfiglaa
open Go.RowKit
set_option linter.unusedVariables false
set_option maxRecDepth 100000

/-- A row that lies at the beginning of a block. -/
theorem heap_arg {w : World} {g : Nat} {rs m : List Int} (h : w.heap[g]? = some (.cells (bytesOf (rs ++ m)).toArray 5 (0, 0))) (c : Nat) (hc : rs.length ≤ c) (hm : c ≤ maxLen) : RowAt w (.slice (some ⟨g, 0, none⟩) rs.length c) rs := by
  refine Or.inr ⟨g, 0, c, rfl, hc, hm, fun j u hj => ?_⟩
  have hl : j < rs.length := by
    have := (List.getElem?_eq_some_iff.mp hj).1
    simpa [bytesOf] using this
  simp only [World.cell?, h, Nat.zero_add]
  simp only [List.getElem?_toArray, bytesOf_append]
  rw [List.getElem?_append_left (by simpa [length_bytesOf] using hl)]
  exact hj

set_option maxHeartbeats 2000000 in
theorem tells_long (v : Value) (rs : List Int) (a : Int) (w : World) (hv : ArgAt w v rs) (h : 65536 < rs.length) :
    Calls Try.prog 3 #[v, .int .i64 a] w fun e w' => e = .returned (.bool true) ∧ Touch (fun _ => False) w w' := by
  obtain ⟨va, vc, rfl, hm⟩ := hv.form
  have h' : (65536 : Int) < (rs.length : Int) := by omega
  clear hv
  go_enter Try.func3, Try.ntmps3
  go_wp2_with fail
  refine (lives_any _).mono ?_
  rintro e w1 ⟨rfl, t1⟩
  go_wp2
  go_ret
  exact ⟨rfl, t1⟩

set_option maxHeartbeats 4000000 in
theorem tells_walk (v : Value) (rs : List Int) (a F E : Int) (w : World) (hv : ArgAt w v rs) (hby : ∀ x ∈ rs, 0 ≤ x ∧ x < 256) (hl : rs.length ≤ 65536)
    (HF : ∀ (vi : Value) (w' : World), ArgAt w' vi rs → Calls Try.prog 7 #[vi, .int .i64 a] w' fun e w'' => e = .returned (.tuple #[.int .u16 F, .int .i64 E]) ∧ Touch (fun _ => False) w' w'')
    (HG : ∀ (vi : Value) (w' : World), ArgAt w' vi rs → Calls Try.prog 8 #[vi, .int .i64 a] w' fun e w'' => e = .returned (.tuple #[.int .u16 F, .int .i64 E]) ∧ w' = w'') :
    Calls Try.prog 3 #[v, .int .i64 a] w fun e w' => e = .returned (.bool true) ∧ Touch (fun _ => False) w w' := by
  have HP := fun vi w' (h : ArgAt w' vi rs) => plain_any vi rs w' h hby
  have HQ := fun vi w' (h : ArgAt w' vi rs) => rplain_any vi rs w' h hby hl
  have HR := fun vi w' (h : ArgAt w' vi rs) => right_any vi rs w' h hby
  have HS := fun vi w' (h : ArgAt w' vi rs) => rright_any vi rs w' h hby hl
  have HU := fun vi w' (h : ArgAt w' vi rs) => whole_any vi rs w' h hby
  have HV := fun vi w' (h : ArgAt w' vi rs) => rwhole_any vi rs w' h hby hl
  have HW := wide_any v rs w hv hby (by omega)
  revert HP HQ HR HS HU HV
  generalize 65535 - fold (W true rs) = P
  generalize (fold (W true rs) == 65535) = R
  generalize whole rs = U
  intro HP HQ HR HS HU HV
  obtain ⟨va, vc, rfl, hm⟩ := hv.form
  have h' : ¬ (65536 : Int) < (rs.length : Int) := by omega
  have HAv : Hid (ArgAt w (.slice va rs.length vc) rs) := hv
  clear hv hby
  go_enter Try.func3, Try.ntmps3
  go_wp2_with fail
  refine HW.mono ?_
  rintro e w1 ⟨rfl, hh, t1⟩
  have HH : Hid (w1.heap[w.heap.size]? = some (.cells (bytesOf (rs ++ spareMarks rs.length)).toArray 5 (0, 0))) := hh
  have HT1 : Hid (Touch (fun _ => False) w w1) := t1
  have HIn : ∀ w' : World, Touch (fun _ => False) w1 w' → RowAt w' (.slice (some ⟨w.heap.size, 0, none⟩) rs.length (rs.length + 64)) rs := fun w' t => heap_arg (t.heapN hh) _ (by omega) (by unfold maxLen; omega)
  have HI : Hid (∀ w' : World, Touch (fun _ => False) w1 w' → RowAt w' (.slice (some ⟨w.heap.size, 0, none⟩) rs.length (rs.length + 64)) rs) := HIn
  have HB : Hid (∀ w' : World, Touch (fun _ => False) w1 w' → ArgAt w' (.slice va rs.length vc) rs) := fun w' t => HAv.out.keep (t1.trans t) (fun _ _ h => h)
  clear hh t1 HW HIn HAv
  go_wp2_with fail
  refine (HF _ _ (HI.out _ (Touch.refl _ _)).arg).mono ?_
  rintro e w2 ⟨rfl, t2⟩
  have HT2 : Hid (Touch (fun _ => False) w1 w2) := t2
  clear t2 HF
  go_wp2_with fail
  refine (HG _ _ (HB.out _ HT2.out)).mono ?_
  rintro e w2' ⟨rfl, rfl⟩
  clear HG
  go_wp2_with fail
  refine (HP _ _ (HI.out _ HT2.out).arg).mono ?_
  rintro e w3 ⟨rfl, t3⟩
  have HT3 : Hid (Touch (fun _ => False) w1 w3) := HT2.out.trans t3
  clear t3 HP HT2
  go_wp2_with fail
  refine (HQ _ _ (HB.out _ HT3.out)).mono ?_
  rintro e w3' ⟨rfl, rfl⟩
  clear HQ
  go_wp2_with fail
  refine (HR _ _ (HI.out _ HT3.out).arg).mono ?_
  rintro e w4 ⟨rfl, t4⟩
  have HT4 : Hid (Touch (fun _ => False) w1 w4) := HT3.out.trans t4
  clear t4 HR HT3
  go_wp2_with fail
  refine (HS _ _ (HB.out _ HT4.out)).mono ?_
  rintro e w4' ⟨rfl, rfl⟩
  clear HS
  go_wp2_with fail
  refine (HU _ _ (HI.out _ HT4.out).arg).mono ?_
  rintro e w5 ⟨rfl, t5⟩
  have HT5 : Hid (Touch (fun _ => False) w1 w5) := HT4.out.trans t5
  clear t5 HU HT4
  go_wp2_with fail
  refine (HV _ _ (HB.out _ HT5.out)).mono ?_
  rintro e w5' ⟨rfl, rfl⟩
  clear HV
  go_wp2_with fail
  refine (eq_true _ _ rs _ (HI.out _ HT5.out) (HB.out _ HT5.out)).mono ?_
  rintro e w6 ⟨rfl, n6, rfl⟩
  have HT6 : Hid (Touch (fun _ => False) w1 (w5.drewN n6)) := HT5.out.drewN n6
  go_wp2_with fail
  refine (spare_any _ rs _ (HT6.out.heapN HH.out) (by omega)).mono ?_
  rintro e w7 ⟨rfl, rfl⟩
  go_wp2_with fail
  refine (lives_any _).mono ?_
  rintro e w8 ⟨rfl, t8⟩
  go_wp2
  go_ret
  exact ⟨rfl, HT1.out.trans (HT6.out.trans t8)⟩

theorem tells_any (v : Value) (rs : List Int) (a : Int) (w : World) (hv : ArgAt w v rs) (hby : ∀ x ∈ rs, 0 ≤ x ∧ x < 256) :
    Calls Try.prog 3 #[v, .int .i64 a] w fun e w' => e = .returned (.bool true) ∧ Touch (fun _ => False) w w' := by
  by_cases hl : rs.length ≤ 65536
  · by_cases ha : a < 0 ∨ (rs.length : Int) - 2 < a
    · exact tells_walk v rs a 0 1 w hv hby hl (fun vi w' h => (fletcher_out vi rs a w' h ha).mono fun _ _ ⟨h, e⟩ => ⟨h, e ▸ Touch.refl _ _⟩) (fun vi w' h => rfletcher_out vi rs a w' h hl ha)
    · obtain ⟨k, rfl⟩ : ∃ k : Nat, a = k := ⟨a.toNat, by omega⟩
      exact tells_walk v rs k _ 0 w hv hby hl (fun vi w' h => fletcher_any vi rs k w' h hby (by omega)) (fun vi w' h => rfletcher_any vi rs k w' h hby hl (by omega))
  · exact tells_long v rs a w hv (by omega)
end Go.Proofs.Ytlcgklbmkfiglaa
