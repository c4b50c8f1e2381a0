/- Contract: mix, one block gone through. -/
import Derived.Test.YtjjgbcjgmjggnaaGreatDoorDigNums
namespace Go.Proofs.YtjjgbcjgmjggnaaGreatDoor
open Go.RowKit
set_option linter.unusedVariables false
set_option maxRecDepth 100000

theorem length_tabV : tabV.length = 64 := rfl
theorem mill_tab (q : Q4) {n : Nat} (h : n < 64) : (millV q)[4 + n]? = some (.int .u32 ((tabN.getD n 0 : Nat) : Int)) := by
  rw [show 4 + n = n + 1 + 1 + 1 + 1 by omega]
  simp only [millV, List.getElem?_cons_succ]
  rw [List.getElem?_append_left (by rw [length_tabV]; exact h)]
  exact tabV_at h
theorem mill_rnd (q : Q4) (k : Nat) : (millV q)[68 + k]? = rndV[k]? := by
  rw [show 68 + k = (64 + k) + 1 + 1 + 1 + 1 by omega]
  simp only [millV, List.getElem?_cons_succ]
  rw [List.getElem?_append_right (by rw [length_tabV]; omega), length_tabV]
  congr 1
  omega
theorem rnd_turn {r j : Nat} (hr : r < 4) (hj : j < 4) : rndV[7 * r + 3 + j]? = some (.int .i64 ((bySteps.getD (4 * r + j) 0 : Nat) : Int)) := by
  match r, hr with
  | 0, _ | 1, _ | 2, _ | 3, _ =>
    match j, hj with
    | 0, _ | 1, _ | 2, _ | 3, _ => rfl
    | n + 4, h => omega
  | n + 4, h => omega
def MxR (ns : List Nat) (q : Q4) (w0 : World) (a b c d i : Value) (wr : World) : Prop :=
  ∃ n : Nat, n ≤ 64 ∧ i = .int .i64 (n : Int) ∧ a = .int .u32 ((stepsN ns q n).a : Int) ∧ b = .int .u32 ((stepsN ns q n).b : Int) ∧ c = .int .u32 ((stepsN ns q n).c : Int) ∧ d = .int .u32 ((stepsN ns q n).d : Int) ∧ Touch (fun _ => False) w0 wr
theorem wordN_lt {ns : List Nat} (h : ∀ x ∈ ns, x < 256) (k : Nat) : wordN ns k < 4294967296 := by
  have h0 := getD_lt h k
  have h1 := getD_lt h (k + 1)
  have h2 := getD_lt h (k + 2)
  have h3 := getD_lt h (k + 3)
  exact or_lt32 (or_lt32 (or_lt32 (by omega) (by omega)) (by omega)) (by omega)

set_option maxHeartbeats 4000000 in
theorem mix_any (g : Nat) (q : Q4) (ns : List Nat) (w : World) (hq : q.ok) (hM : Mill w g q) (hby : ∀ x ∈ ns, x < 256) :
    Calls Tryz.prog 136 #[.pointer (some ⟨g, 0, none⟩), .agg (numsV (wordsN ns)).toArray] w fun e w' => e = .returned (.tuple #[]) ∧ Mill w' g (blockN q ns) ∧ Touch (fun j => j = g) w w' := by
  have HQ : Hid q.ok := hq
  have HM : Hid (Mill w g q) := hM
  have HBy : Hid (∀ x ∈ ns, x < 256) := hby
  have hO : (numsV (wordsN ns)).toArray.size = 16 := by rw [List.size_toArray, length_numsV, length_wordsN]
  generalize hOO : (numsV (wordsN ns)).toArray = O at hO ⊢
  have HO : Hid ((numsV (wordsN ns)).toArray = O) := hOO
  clear hM hby hq hOO
  go_enter Tryz.func136, Tryz.ntmps136
  go_wp2_with fail
  generalize hw1 : World.alloc w _ = w1
  have HT1 : Hid (Touch (fun _ => False) w w1) := by subst hw1; exact (Touch.refl _ w).alloc _
  have HW1 : Hid (Row w1 w.heap.size 213 (numsV (wordsN ns))) := by
    subst hw1
    have := row_new w 213 O
    rw [← HO.out] at this ⊢
    exact this
  have HM1 : Hid (Mill w1 g q) := HM.out.keep HT1.out
  have hgn : Hid (g ≠ w.heap.size) := Nat.ne_of_lt HM.out.lt
  generalize w.heap.size = g1 at HW1 hgn ⊢
  clear hw1 HM HO
  obtain ⟨c0, c1, c2, c3⟩ := quad_of HM1.out
  go_quiet (fail)
  have HT2 : Hid (Touch (fun _ => False) w1 (w1.drewN nq)) := (Touch.refl _ w1).drewN nq
  clear c0 c1 c2 c3
  generalize w1.drewN nq = w2 at HT2 ⊢
  go_wp2_with fail
  go_loopw [4, 5, 6, 7, 31] (fun a b c d i wr => MxR ns q w1 a b c d i wr) (fun _ _ _ _ i _ => 64 - (intOf i).toNat)
  case atStart => exact ⟨0, by omega, rfl, rfl, rfl, rfl, rfl, HT2.out⟩
  case round =>
    clear HT2
    obtain ⟨n, hn, rfl, rfl, rfl, rfl, rfl, t⟩ := hrel
    have HT : Hid (Touch (fun _ => False) w1 wr) := t
    have hok := stepsN_ok (p := ns) HQ.out n
    obtain ⟨Q, hQ⟩ : ∃ Q, Q = stepsN ns q n := ⟨_, rfl⟩
    have HN : Hid (Q = stepsN ns q n) := hQ
    rw [← hQ] at hok ⊢
    clear hQ t
    obtain ⟨A, B, C, D⟩ := Q
    obtain ⟨hA, hB, hC, hD⟩ := hok
    simp only at hA hB hC hD
    by_cases hlt : n < 64
    · have hlt' : (n : Int) < 64 := by omega
      have hK := whichN_lt hlt
      obtain ⟨hb4, hb23⟩ := byN_bd hlt
      have hm := wordN_lt HBy.out (4 * whichN n)
      have hT := tabN_lt n
      have HStep : Hid (stepsN ns q (n + 1) = ⟨D, addN B (rotN (addN (addN (addN A (mixN n B C D)) (tabN.getD n 0)) (wordN ns (4 * whichN n))) (byN n)), B, C⟩) := by
        show dstepN ns n (stepsN ns q n) = _
        rw [← HN.out]
        rfl
      have hMill := HM1.out.keep HT.out
      have ht := hMill.cell (4 + n)
      rw [mill_tab q hlt] at ht
      have hw := (HW1.out.keep HT.out).cell (whichN n)
      rw [numsV_at (by rw [length_wordsN]; exact hK), wordsN_at ns _ hK] at hw
      have hturn : ∀ r, n / 16 = r → r < 4 → wr.cell? ⟨g, 68 + (7 * r + 3 + n % 4), none⟩ = some (.int .i64 (byN n : Int)) := by
        intro r hr h4
        rw [hMill.cell, mill_rnd, rnd_turn h4 (by omega : n % 4 < 4), ← hr]
        rfl
      have hrnd : ∀ k, wr.cell? ⟨g, 68 + k, none⟩ = rndV[k]? := fun k => by rw [hMill.cell, mill_rnd]
      have HMix : Hid (∀ r, n / 16 = r → mixN n B C D = if r = 0 then (B &&& C) ||| (notN B &&& D) else if r = 1 then (D &&& B) ||| (notN D &&& C) else if r = 2 then (B ^^^ C) ^^^ D else C ^^^ (B ||| notN D)) := fun r hr => by
        unfold mixN
        rw [hr]
      have HWh : Hid (∀ r, n / 16 = r → whichN n = if r = 0 then n else if r = 1 then (5 * n + 1) % 16 else if r = 2 then (3 * n + 5) % 16 else 7 * n % 16) := fun r hr => by
        unfold whichN
        rw [hr]
      have hMl := mixN_lt (i := n) hB hC hD
      generalize wordN ns (4 * whichN n) = m at HStep hw hm
      generalize tabN.getD n 0 = T at HStep hT ht
      generalize byN n = Y at HStep hb4 hb23 hturn
      generalize mixN n B C D = M at HStep HMix hMl
      generalize whichN n = K at HWh hw hK
      have x1 : ((A : Int) + (M : Int)) % 4294967296 = ((addN A M : Nat) : Int) := by unfold addN; omega
      have l1 := lt32_addN A M
      generalize addN A M = X1 at HStep x1 l1
      have x2 : ((X1 : Int) + (T : Int)) % 4294967296 = ((addN X1 T : Nat) : Int) := by unfold addN; omega
      have l2 := lt32_addN X1 T
      generalize addN X1 T = X2 at HStep x2 l2
      have x3 : ((X2 : Int) + (m : Int)) % 4294967296 = ((addN X2 m : Nat) : Int) := by unfold addN; omega
      have l3 := lt32_addN X2 m
      generalize addN X2 m = X3 at HStep x3 l3
      have hR := rot_any X3 Y l3 hb4 hb23
      have l4 := rotN_lt Y l3
      generalize rotN X3 Y = R at HStep hR l4
      have x4 : ((B : Int) + (R : Int)) % 4294967296 = ((addN B R : Nat) : Int) := by unfold addN; omega
      generalize addN B R = V at HStep x4
      clear HM1 HW1 hMill
      rcases (by omega : n / 16 = 0 ∨ n / 16 = 1 ∨ n / 16 = 2 ∨ n / 16 = 3) with hr | hr | hr | hr
      · have g0 : (n : Int) / 16 = 0 := by omega
        have hKe := HWh.out 0 (by omega)
        have hMe := HMix.out 0 (by omega)
        simp only [reduceIte] at hKe hMe
        have hKi : (n : Int) % 16 = (K : Int) := by omega
        have d0 := hrnd 0
        have d1 := hrnd 1
        have d2 := hrnd 2
        have d3 := hturn 0 (by omega) (by omega)
        rw [show 68 + (7 * 0 + 3 + n % 4) = 71 + n % 4 by omega] at d3
        rw [show rndV[0]? = some (.func (.func 141) #[] #[]) from rfl] at d0
        rw [show rndV[1]? = some (.int .i64 1) from rfl] at d1
        rw [show rndV[2]? = some (.int .i64 0) from rfl] at d2
        have HF : ∀ w, _ := fun w => f1_any B C D hB hC hD w
        rw [← hMe] at HF
        clear hKe hMe hrnd hturn HWh HMix
        have HG : ∀ w, Calls Tryz.prog 141 #[.int .u32 (B : Int), .int .u32 (C : Int), .int .u32 (D : Int)] w fun e w' => e = .returned (.int .u32 (M : Int)) ∧ Touch (fun _ => False) w w' := fun w => (HF w).mono (fun _ _ ⟨h, e⟩ => ⟨h, e ▸ Touch.refl _ _⟩)
        clear HF
        go_wp2_with fail
        have p0 := aft_cell d0
        have p1 := aft_cell d1
        have p2 := aft_cell d2
        have p3 := aft_cell ht
        have p4 := aft_cell hw
        refine wp_region_aft (by kernel_rfl) (by kernel_rfl) ?_
        repeat (first | go_big_quiet_skip | (go_big_quiet_want; go_big_quiet_op; first | go_big_quiet_on | (refine Exists.intro _ ⟨fun _ => rfl, ?_⟩; go_big_quiet_on)))
        go_big_quiet_want; go_big_quiet_op; refine Exists.intro _ ⟨fun u => Aft.call (HG _), ?_⟩; go_big_quiet_on
        repeat (first | go_big_quiet_skip | (go_big_quiet_want; go_big_quiet_op; first | go_big_quiet_on | (refine Exists.intro _ ⟨fun _ => rfl, ?_⟩; go_big_quiet_on)))
        refine wpQuiet_nil ?_
        rintro w9 ⟨⟨_, t9⟩, rfl⟩
        have e3 := t9.cellN d3
        have HT9 : Hid (Touch (fun _ => False) w1 w9) := HT.out.trans t9
        clear p0 p1 p2 p3 p4 d0 d1 d2 d3 ht hw t9 HT HG
        rw [x3]
        go_wp2_with fail
        refine (hR _).mono ?_
        rintro e w10 ⟨rfl, rfl⟩
        go_wp2_with fail
        go_roundw
        case rel =>
          refine ⟨n + 1, by omega, by go_num, ?_, ?_, ?_, ?_, HT9.out⟩
          · rw [HStep.out]
          · rw [HStep.out, x4]
          · rw [HStep.out]
          · rw [HStep.out]
        case measure => simp [intOf]; omega
      · have g0 : (n : Int) / 16 = 1 := by omega
        have hKe := HWh.out 1 (by omega)
        have hMe := HMix.out 1 (by omega)
        simp only [reduceIte, Nat.reduceEqDiff] at hKe hMe
        have hKi : (5 * (n : Int) + 1) % 16 = (K : Int) := by omega
        have d0 := hrnd 7
        have d1 := hrnd 8
        have d2 := hrnd 9
        have d3 := hturn 1 (by omega) (by omega)
        rw [show 68 + (7 * 1 + 3 + n % 4) = 78 + n % 4 by omega] at d3
        rw [show rndV[7]? = some (.func (.func 142) #[] #[]) from rfl] at d0
        rw [show rndV[8]? = some (.int .i64 5) from rfl] at d1
        rw [show rndV[9]? = some (.int .i64 1) from rfl] at d2
        have HF : ∀ w, _ := fun w => f2_any B C D hB hC hD w
        rw [← hMe] at HF
        clear hKe hMe hrnd hturn HWh HMix
        have HG : ∀ w, Calls Tryz.prog 142 #[.int .u32 (B : Int), .int .u32 (C : Int), .int .u32 (D : Int)] w fun e w' => e = .returned (.int .u32 (M : Int)) ∧ Touch (fun _ => False) w w' := fun w => (HF w).mono (fun _ _ ⟨h, e⟩ => ⟨h, e ▸ Touch.refl _ _⟩)
        clear HF
        go_wp2_with fail
        have p0 := aft_cell d0
        have p1 := aft_cell d1
        have p2 := aft_cell d2
        have p3 := aft_cell ht
        have p4 := aft_cell hw
        refine wp_region_aft (by kernel_rfl) (by kernel_rfl) ?_
        repeat (first | go_big_quiet_skip | (go_big_quiet_want; go_big_quiet_op; first | go_big_quiet_on | (refine Exists.intro _ ⟨fun _ => rfl, ?_⟩; go_big_quiet_on)))
        go_big_quiet_want; go_big_quiet_op; refine Exists.intro _ ⟨fun u => Aft.call (HG _), ?_⟩; go_big_quiet_on
        repeat (first | go_big_quiet_skip | (go_big_quiet_want; go_big_quiet_op; first | go_big_quiet_on | (refine Exists.intro _ ⟨fun _ => rfl, ?_⟩; go_big_quiet_on)))
        refine wpQuiet_nil ?_
        rintro w9 ⟨⟨_, t9⟩, rfl⟩
        have e3 := t9.cellN d3
        have HT9 : Hid (Touch (fun _ => False) w1 w9) := HT.out.trans t9
        clear p0 p1 p2 p3 p4 d0 d1 d2 d3 ht hw t9 HT HG
        rw [x3]
        go_wp2_with fail
        refine (hR _).mono ?_
        rintro e w10 ⟨rfl, rfl⟩
        go_wp2_with fail
        go_roundw
        case rel =>
          refine ⟨n + 1, by omega, by go_num, ?_, ?_, ?_, ?_, HT9.out⟩
          · rw [HStep.out]
          · rw [HStep.out, x4]
          · rw [HStep.out]
          · rw [HStep.out]
        case measure => simp [intOf]; omega
      · have g0 : (n : Int) / 16 = 2 := by omega
        have hKe := HWh.out 2 (by omega)
        have hMe := HMix.out 2 (by omega)
        simp only [reduceIte, Nat.reduceEqDiff] at hKe hMe
        have hKi : (3 * (n : Int) + 5) % 16 = (K : Int) := by omega
        have d0 := hrnd 14
        have d1 := hrnd 15
        have d2 := hrnd 16
        have d3 := hturn 2 (by omega) (by omega)
        rw [show 68 + (7 * 2 + 3 + n % 4) = 85 + n % 4 by omega] at d3
        rw [show rndV[14]? = some (.func (.func 143) #[] #[]) from rfl] at d0
        rw [show rndV[15]? = some (.int .i64 3) from rfl] at d1
        rw [show rndV[16]? = some (.int .i64 5) from rfl] at d2
        have HF : ∀ w, _ := fun w => f3_any B C D hB hC hD w
        rw [← hMe] at HF
        clear hKe hMe hrnd hturn HWh HMix
        have HG : ∀ w, Calls Tryz.prog 143 #[.int .u32 (B : Int), .int .u32 (C : Int), .int .u32 (D : Int)] w fun e w' => e = .returned (.int .u32 (M : Int)) ∧ Touch (fun _ => False) w w' := fun w => (HF w).mono (fun _ _ ⟨h, e⟩ => ⟨h, e ▸ Touch.refl _ _⟩)
        clear HF
        go_wp2_with fail
        have p0 := aft_cell d0
        have p1 := aft_cell d1
        have p2 := aft_cell d2
        have p3 := aft_cell ht
        have p4 := aft_cell hw
        refine wp_region_aft (by kernel_rfl) (by kernel_rfl) ?_
        repeat (first | go_big_quiet_skip | (go_big_quiet_want; go_big_quiet_op; first | go_big_quiet_on | (refine Exists.intro _ ⟨fun _ => rfl, ?_⟩; go_big_quiet_on)))
        go_big_quiet_want; go_big_quiet_op; refine Exists.intro _ ⟨fun u => Aft.call (HG _), ?_⟩; go_big_quiet_on
        repeat (first | go_big_quiet_skip | (go_big_quiet_want; go_big_quiet_op; first | go_big_quiet_on | (refine Exists.intro _ ⟨fun _ => rfl, ?_⟩; go_big_quiet_on)))
        refine wpQuiet_nil ?_
        rintro w9 ⟨⟨_, t9⟩, rfl⟩
        have e3 := t9.cellN d3
        have HT9 : Hid (Touch (fun _ => False) w1 w9) := HT.out.trans t9
        clear p0 p1 p2 p3 p4 d0 d1 d2 d3 ht hw t9 HT HG
        rw [x3]
        go_wp2_with fail
        refine (hR _).mono ?_
        rintro e w10 ⟨rfl, rfl⟩
        go_wp2_with fail
        go_roundw
        case rel =>
          refine ⟨n + 1, by omega, by go_num, ?_, ?_, ?_, ?_, HT9.out⟩
          · rw [HStep.out]
          · rw [HStep.out, x4]
          · rw [HStep.out]
          · rw [HStep.out]
        case measure => simp [intOf]; omega
      · have g0 : (n : Int) / 16 = 3 := by omega
        have hKe := HWh.out 3 (by omega)
        have hMe := HMix.out 3 (by omega)
        simp only [reduceIte, Nat.reduceEqDiff] at hKe hMe
        have hKi : 7 * (n : Int) % 16 = (K : Int) := by omega
        have d0 := hrnd 21
        have d1 := hrnd 22
        have d2 := hrnd 23
        have d3 := hturn 3 (by omega) (by omega)
        rw [show 68 + (7 * 3 + 3 + n % 4) = 92 + n % 4 by omega] at d3
        rw [show rndV[21]? = some (.func (.func 144) #[] #[]) from rfl] at d0
        rw [show rndV[22]? = some (.int .i64 7) from rfl] at d1
        rw [show rndV[23]? = some (.int .i64 0) from rfl] at d2
        have HF : ∀ w, _ := fun w => f4_any B C D hB hC hD w
        rw [← hMe] at HF
        clear hKe hMe hrnd hturn HWh HMix
        have HG : ∀ w, Calls Tryz.prog 144 #[.int .u32 (B : Int), .int .u32 (C : Int), .int .u32 (D : Int)] w fun e w' => e = .returned (.int .u32 (M : Int)) ∧ Touch (fun _ => False) w w' := fun w => (HF w).mono (fun _ _ ⟨h, e⟩ => ⟨h, e ▸ Touch.refl _ _⟩)
        clear HF
        go_wp2_with fail
        have p0 := aft_cell d0
        have p1 := aft_cell d1
        have p2 := aft_cell d2
        have p3 := aft_cell ht
        have p4 := aft_cell hw
        refine wp_region_aft (by kernel_rfl) (by kernel_rfl) ?_
        repeat (first | go_big_quiet_skip | (go_big_quiet_want; go_big_quiet_op; first | go_big_quiet_on | (refine Exists.intro _ ⟨fun _ => rfl, ?_⟩; go_big_quiet_on)))
        go_big_quiet_want; go_big_quiet_op; refine Exists.intro _ ⟨fun u => Aft.call (HG _), ?_⟩; go_big_quiet_on
        repeat (first | go_big_quiet_skip | (go_big_quiet_want; go_big_quiet_op; first | go_big_quiet_on | (refine Exists.intro _ ⟨fun _ => rfl, ?_⟩; go_big_quiet_on)))
        refine wpQuiet_nil ?_
        rintro w9 ⟨⟨_, t9⟩, rfl⟩
        have e3 := t9.cellN d3
        have HT9 : Hid (Touch (fun _ => False) w1 w9) := HT.out.trans t9
        clear p0 p1 p2 p3 p4 d0 d1 d2 d3 ht hw t9 HT HG
        rw [x3]
        go_wp2_with fail
        refine (hR _).mono ?_
        rintro e w10 ⟨rfl, rfl⟩
        go_wp2_with fail
        go_roundw
        case rel =>
          refine ⟨n + 1, by omega, by go_num, ?_, ?_, ?_, ?_, HT9.out⟩
          · rw [HStep.out]
          · rw [HStep.out, x4]
          · rw [HStep.out]
          · rw [HStep.out]
        case measure => simp [intOf]; omega
    · obtain rfl : n = 64 := by omega
      have HE : Hid (blockN q ns = ⟨addN q.a A, addN q.b B, addN q.c C, addN q.d D⟩) := by
        show blockN q ns = _
        unfold blockN
        rw [← HN.out]
      have hMill := HM1.out.keep HT.out
      obtain ⟨c0, c1, c2, c3⟩ := quad_of hMill
      have f0 := hMill.frozen 0
      have f1 := hMill.frozen 1
      have f2 := hMill.frozen 2
      have f3 := hMill.frozen 3
      have x0 : ((q.a : Int) + (A : Int)) % 4294967296 = ((addN q.a A : Nat) : Int) := by unfold addN; omega
      have x1 : ((q.b : Int) + (B : Int)) % 4294967296 = ((addN q.b B : Nat) : Int) := by unfold addN; omega
      have x2 : ((q.c : Int) + (C : Int)) % 4294967296 = ((addN q.c C : Nat) : Int) := by unfold addN; omega
      have x3 : ((q.d : Int) + (D : Int)) % 4294967296 = ((addN q.d D : Nat) : Int) := by unfold addN; omega
      obtain ⟨hq1, hq2, hq3, hq4⟩ := HQ.out
      generalize addN q.a A = R0 at x0 HE
      generalize addN q.b B = R1 at x1 HE
      generalize addN q.c C = R2 at x2 HE
      generalize addN q.d D = R3 at x3 HE
      have HRw : Hid (Mill wr g q) := hMill
      have HTw : Hid (Touch (fun _ => False) w wr) := HT1.out.trans HT.out
      obtain ⟨qa, qb, qc, qd⟩ := q
      simp only at hq1 hq2 hq3 hq4 c0 c1 c2 c3 x0 x1 x2 x3
      clear HM1 HW1 HBy HN HQ hMill HT HT1
      go_wp2_with fail
      go_region
      go_wp2_with fail
      go_region
      go_wp2_with fail
      go_region
      go_wp2_with fail
      go_region
      go_wp2
      go_end0
      refine ⟨rfl, ?_, ?_⟩
      · rw [HE.out]
        have k := (((HRw.out.set 0 (.int .u32 (R0 : Int))).set 1 (.int .u32 (R1 : Int))).set 2 (.int .u32 (R2 : Int))).set 3 (.int .u32 (R3 : Int))
        exact k.keep ((((Touch.refl _ _).drew).drew).drew).drew
      · have e : Touch (fun j => j = g) w wr := HTw.out.mono (fun _ _ h => h.elim)
        exact (((((((e.setCell (p := ⟨g, 0, none⟩) (Or.inl rfl) _).setCell (p := ⟨g, 1, none⟩) (Or.inl rfl) _).setCell (p := ⟨g, 2, none⟩) (Or.inl rfl) _).setCell (p := ⟨g, 3, none⟩) (Or.inl rfl) _).drew).drew).drew).drew
end Go.Proofs.YtjjgbcjgmjggnaaGreatDoor
