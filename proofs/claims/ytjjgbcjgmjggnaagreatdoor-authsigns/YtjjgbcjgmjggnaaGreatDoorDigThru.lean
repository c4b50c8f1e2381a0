/- Ahead of through: padded bytes go by blocks; a row cut in two. -/
import Derived.Test.YtjjgbcjgmjggnaaGreatDoorDigPad
namespace Go.Proofs.YtjjgbcjgmjggnaaGreatDoor
open Go.RowKit
set_option linter.unusedVariables false
set_option maxRecDepth 100000

theorem stepN_take (p : List Nat) {i : Nat} (q : Q4) (h : i < 64) : dstepN (p.take 64) i q = dstepN p i q := by
  unfold dstepN
  rw [wordN_take p (whichN_lt h)]
theorem stepsN_take (p : List Nat) (q : Q4) : ∀ n, n ≤ 64 → stepsN (p.take 64) q n = stepsN p q n
  | 0, _ => rfl
  | n + 1, h => by
    show dstepN _ n _ = dstepN _ n _
    rw [stepsN_take p q n (by omega), stepN_take p _ (by omega)]
theorem blockN_take (s : Q4) (p : List Nat) : blockN s (p.take 64) = blockN s p := by
  unfold blockN
  rw [stepsN_take p s 64 (Nat.le_refl _)]
theorem blocksN_append (B : Nat) (s : Q4) (P R : List Nat) (h : P.length = 64 * B) : blocksN B s (P ++ R) = blocksN B s P := by
  induction B generalizing s P with
  | zero => rfl
  | succ B ih =>
    simp only [blocksN]
    have e1 : blockN s (P ++ R) = blockN s P := by
      rw [← blockN_take s (P ++ R), ← blockN_take s P, List.take_append_of_le_length (by omega)]
    have e2 : (P ++ R).drop 64 = P.drop 64 ++ R := List.drop_append_of_le_length (by omega)
    rw [e1, e2]
    exact ih _ _ (by simp; omega)
theorem gapN_add (n B : Nat) : gapN (n + 64 * B) = gapN n := by unfold gapN; omega
theorem length_padX (l : List Nat) (n : Nat) : (padX l n).length = l.length + 9 + gapN l.length := by simp [padX, length_lowN]; omega
theorem length_padX_mod (l : List Nat) (n : Nat) : (padX l n).length % 64 = 0 := by rw [length_padX]; unfold gapN; omega
/-- The digest, its whole blocks read where they stand. -/
theorem ofN_parts (ns ks : List Nat) (W : Nat) (hW : W = 64 * (ns.length / 64)) :
    ofN (ns ++ ks) = outN (blocksN ((padX (ns.drop W ++ ks) (ns.length + ks.length)).length / 64) (blocksN ((ns.take W).length / 64) startN (ns.take W)) (padX (ns.drop W ++ ks) (ns.length + ks.length))) := by
  have hWl : W ≤ ns.length := by omega
  have htl : (ns.take W).length = 64 * (ns.length / 64) := by simp; omega
  have hp : padN (ns ++ ks) = ns.take W ++ padX (ns.drop W ++ ks) (ns.length + ks.length) := by
    unfold padN padX
    have hg : gapN (ns ++ ks).length = gapN (ns.drop W ++ ks).length := by
      have : (ns ++ ks).length = (ns.drop W ++ ks).length + 64 * (ns.length / 64) := by simp; omega
      rw [this, gapN_add]
    rw [hg, show (ns ++ ks).length = ns.length + ks.length from List.length_append]
    rw [← List.append_assoc, ← List.append_assoc, List.take_append_drop]
  have hd : (padX (ns.drop W ++ ks) (ns.length + ks.length)).length % 64 = 0 := length_padX_mod _ _
  unfold ofN
  rw [hp, List.length_append, htl, show (64 * (ns.length / 64) + (padX (ns.drop W ++ ks) (ns.length + ks.length)).length) / 64 = ns.length / 64 + (padX (ns.drop W ++ ks) (ns.length + ks.length)).length / 64 by omega]
  rw [blocksN_add, blocksN_append _ _ _ _ htl, show 64 * (ns.length / 64) / 64 = ns.length / 64 by omega]
  rw [show 64 * (ns.length / 64) = (ns.take W).length from htl.symm, List.drop_left]
theorem padX_byte {l : List Nat} (h : ∀ x ∈ l, x < 256) (n : Nat) : ∀ x ∈ padX l n, x < 256 := by
  intro x hx
  simp only [padX, List.mem_append, List.mem_cons] at hx
  rcases hx with hx | rfl | hx | hx
  · exact h x hx
  · decide
  · have := (List.mem_replicate.mp hx).2
    omega
  · exact lowN_byte _ _ x hx

/-- A row cut in two, as the code cuts it. -/
theorem cut_two {w : World} {va : Option Addr} {vc : Nat} {ns : List Nat} (h : ArgAt w (.slice va ns.length vc) (natB ns)) (W : Nat) (hW : W ≤ ns.length) :
    ∃ v1 v2, (∀ w, Sem.run Tryz.prog (Instr.slice 22 (.slice va ns.length vc) none (some (.int .i64 (W : Int))) none) w = .ok v1 w) ∧
      (∀ w, Sem.run Tryz.prog (Instr.slice 22 (.slice va ns.length vc) (some (.int .i64 (W : Int))) none none) w = .ok v2 w) ∧
      ArgAt w v1 (natB (ns.take W)) ∧ ArgAt w v2 (natB (ns.drop W)) ∧ (0 < ns.length → ∀ k, v1.ownBlock = some k → k < w.heap.size) := by
  by_cases hp : 0 < ns.length
  · have hr := h.row (by rw [length_natB]; exact hp)
    obtain ⟨ga, oa, rfl⟩ := rowAt_some hr hp
    obtain ⟨-, hc1, hc2⟩ := cap_of hr
    have hc2' : (vc : Int) ≤ 9223372036854775807 := by unfold maxLen at hc2; omega
    have hlt : ga < w.heap.size := lt_of_cell (rowAt_cell hr 0 (by rw [length_natB]; exact hp))
    have h0 : (0 : Int) ≤ (W : Int) := by omega
    have h1 : (W : Int) ≤ (vc : Int) := by omega
    have h2 : (W : Int) ≤ (ns.length : Int) := by omega
    have h3 : (ns.length : Int) ≤ (vc : Int) := by omega
    have hne : ¬ vc = 0 := by omega
    by_cases hz : vc = W
    · refine ⟨.slice (some ⟨ga, oa, none⟩) W vc, .slice (some ⟨ga, oa, none⟩) (ns.length - W) (vc - W), fun w => ?_, fun w => ?_, ?_, ?_, fun _ k hk => by cases hk; exact hlt⟩
      · simp [Instr.slice, Instr.sliceBounds, Instr.sliceBound, go_sem, h0]
        intro hh; omega
      · simp [Instr.slice, Instr.sliceBounds, Instr.sliceBound, go_sem, h0, hz]
        intro hh; omega
      · rw [natB_take]; exact (take_row hr W hW).arg
      · have : ns.length - W = 0 := by omega
        rw [this, List.drop_eq_nil_of_le (by omega)]
        exact empty_arg w _ _ (by unfold maxLen; omega)
    · refine ⟨.slice (some ⟨ga, oa, none⟩) W vc, .slice (some ⟨ga, oa + W, none⟩) (ns.length - W) (vc - W), fun w => ?_, fun w => ?_, ?_, ?_, fun _ k hk => by cases hk; exact hlt⟩
      · simp [Instr.slice, Instr.sliceBounds, Instr.sliceBound, go_sem, h0]
        intro hh; omega
      · simp [Instr.slice, Instr.sliceBounds, Instr.sliceBound, go_sem, h0, hz]
        intro hh; omega
      · rw [natB_take]; exact (take_row hr W hW).arg
      · rw [natB_drop]; exact (drop_row hr W hW).arg
  · obtain rfl : ns = [] := List.eq_nil_of_length_eq_zero (by omega)
    obtain rfl : W = 0 := by simpa using hW
    rcases h with ⟨hv, _⟩ | ⟨ad, c, hv, h1, h2, _⟩
    · cases hv
      refine ⟨.slice none 0 0, .slice none 0 0, fun w => ?_, fun w => ?_, Or.inl ⟨rfl, rfl⟩, Or.inl ⟨rfl, rfl⟩, fun h => absurd h (by simp)⟩
      · simp [Instr.slice, Instr.sliceBounds, Instr.sliceBound, go_sem]
      · simp [Instr.slice, Instr.sliceBounds, Instr.sliceBound, go_sem]
    · cases hv
      have hc2' : (vc : Int) ≤ 9223372036854775807 := by unfold maxLen at h2; omega
      by_cases hz : vc = 0
      · subst hz
        refine ⟨.slice (some ad) 0 0, .slice (some ad) 0 0, fun w => ?_, fun w => ?_, empty_arg _ _ _ h2, empty_arg _ _ _ h2, fun h => absurd h (by simp)⟩
        · simp [Instr.slice, Instr.sliceBounds, Instr.sliceBound, go_sem]
        · simp [Instr.slice, Instr.sliceBounds, Instr.sliceBound, go_sem]
      · refine ⟨.slice (some (ad.add 0)) 0 vc, .slice (some (ad.add 0)) 0 vc, fun w => ?_, fun w => ?_, empty_arg _ _ _ h2, empty_arg _ _ _ h2, fun h => absurd h (by simp)⟩
        · simp [Instr.slice, Instr.sliceBounds, Instr.sliceBound, go_sem]
        · simp [Instr.slice, Instr.sliceBounds, Instr.sliceBound, go_sem]
end Go.Proofs.YtjjgbcjgmjggnaaGreatDoor

namespace Go.Proofs.YtjjgbcjgmjggnaaGreatDoor
open Go.RowKit
set_option linter.unusedVariables false
set_option maxRecDepth 100000

set_option maxHeartbeats 2000000 in
theorem through_any (v vb : Value) (ns ks : List Nat) (w : World) (hv : ArgAt w v (natB ns)) (hvb : ArgAt w vb (natB ks)) (hby : ∀ x ∈ ns, x < 256) (hbk : ∀ x ∈ ks, x < 256) (hl : ns.length ≤ 1073741824) (hk : ks.length ≤ 16) :
    Calls Tryz.prog 99 #[v, vb] w fun e w' => e = .returned (.agg (bytesOf (natB (ofN (ns ++ ks)))).toArray) ∧ Touch (fun _ => False) w w' := by
  obtain ⟨va, vc, rfl, -⟩ := hv.form
  obtain ⟨ba, bc, rfl, -⟩ := hvb.form
  rw [length_natB] at hv hvb ⊢
  rw [length_natB]
  obtain ⟨W, hW⟩ : ∃ W, W = 64 * (ns.length / 64) := ⟨_, rfl⟩
  obtain ⟨v1, v2, hs1, hs2, ha1, ha2, hown⟩ := cut_two hv W (by omega)
  have HP := ofN_parts ns ks W hW
  obtain ⟨N, hN⟩ : ∃ N, N = ns.length + ks.length := ⟨_, rfl⟩
  rw [← hN] at HP
  have hW' : (ns.length : Int) - (ns.length : Int) % 64 = (W : Int) := by omega
  have hN' : (ns.length : Int) + (ks.length : Int) = (N : Int) := by omega
  have HPd : Hid (∀ w', ArgAt w' v2 (natB (ns.drop W)) → ArgAt w' (.slice ba ks.length bc) (natB ks) → Calls Tryz.prog 121 #[v2, .slice ba ks.length bc, .int .i64 (N : Int)] w' fun e w'' => ∃ v', e = .returned v' ∧ Buf w' w'' v' (natB (padX (ns.drop W ++ ks) N))) :=
    fun w' h1 h2 => pad_any v2 _ (ns.drop W) ks N w' h1 h2 (by simp; omega) hk (by omega)
  have hby1 : ∀ x ∈ ns.take W, x < 256 := fun x hx => hby x (List.mem_of_mem_take hx)
  have hby2 : ∀ x ∈ padX (ns.drop W ++ ks) N, x < 256 := padX_byte (by
    intro x hx
    rcases List.mem_append.mp hx with hx | hx
    · exact hby x (List.mem_of_mem_drop hx)
    · exact hbk x hx) N
  have hpl : (padX (ns.drop W ++ ks) N).length ≤ 1099511627776 := by
    have := gap_lt (ns.drop W ++ ks).length
    rw [length_padX]
    simp at this ⊢
    omega
  have htl : (ns.take W).length ≤ 1099511627776 := by simp; omega
  have HTk1 : Hid (∀ g w', Mill w' g startN → ArgAt w' v1 (natB (ns.take W)) → w.heap.size ≤ g → Calls Tryz.prog 120 #[.pointer (some ⟨g, 0, none⟩), v1] w' fun e w'' => e = .returned (.tuple #[]) ∧ Mill w'' g (blocksN ((ns.take W).length / 64) startN (ns.take W)) ∧ Touch (fun j => j = g) w' w'') :=
    fun g w' hM h1 hg => take_any g startN v1 (ns.take W) w' startN_ok hM h1 (fun hp k hk => by have := hown (by simp at hp; omega) k hk; omega) hby1 htl
  generalize hQ1 : blocksN ((ns.take W).length / 64) startN (ns.take W) = Q1 at HTk1 HP
  have hQ1o : Q1.ok := by rw [← hQ1]; exact blocksN_ok startN_ok _ _
  generalize padX (ns.drop W ++ ks) N = P at HP HPd hby2 hpl
  have HTk2 : Hid (∀ g w' p, Mill w' g Q1 → ArgAt w' p (natB P) → Apart p g → Calls Tryz.prog 120 #[.pointer (some ⟨g, 0, none⟩), p] w' fun e w'' => e = .returned (.tuple #[]) ∧ Mill w'' g (blocksN (P.length / 64) Q1 P) ∧ Touch (fun j => j = g) w' w'') :=
    fun g w' p hM h1 hg => take_any g Q1 p P w' hQ1o hM h1 (fun _ => hg) hby2 hpl
  have hQ2o : (blocksN (P.length / 64) Q1 P).ok := blocksN_ok hQ1o _ _
  generalize blocksN (P.length / 64) Q1 P = Q2 at HTk2 HP hQ2o
  have HTd : Hid (∀ g w', Mill w' g Q2 → Calls Tryz.prog 122 #[.pointer (some ⟨g, 0, none⟩)] w' fun e w'' => e = .returned (.agg (bytesOf (natB (outN Q2))).toArray) ∧ Touch (fun _ => False) w' w'') :=
    fun g w' hM => told_any g Q2 w' hQ2o (quad_of hM)
  have HO : Hid (ofN (ns ++ ks) = outN Q2) := HP
  have HA1 : Hid (ArgAt w v1 (natB (ns.take W))) := ha1
  have HA2 : Hid (ArgAt w v2 (natB (ns.drop W))) := ha2
  have HAb : Hid (ArgAt w (.slice ba ks.length bc) (natB ks)) := hvb
  clear hv hvb hby hbk hby1 hby2 hpl htl hQ1 hQ1o hQ2o HP ha1 ha2 hown hW hN
  go_enter Tryz.func99, Tryz.ntmps99
  go_wp2_with fail
  generalize hw1 : World.alloc w _ = w1
  have HT1 : Hid (Touch (fun _ => False) w w1) := by subst hw1; exact (Touch.refl _ w).alloc _
  have HR1 : Hid (Row w1 w.heap.size 95 (bytesOf (List.replicate 16 0))) := by subst hw1; exact row_new w _ _
  have HS1 : Hid (w1.heap.size = w.heap.size + 1) := by subst hw1; simp [Hid]
  clear hw1
  refine (begin_any w1).mono ?_
  rintro e w2 ⟨⟨g, rfl, hM2, hg⟩, t2⟩
  have HG : Hid (w.heap.size + 1 ≤ g) := by have := HS1.out; show _ ≤ _; omega
  have HM2 : Hid (Mill w2 g startN) := hM2
  have HT2 : Hid (Touch (fun j => j = g) w w2) := (HT1.out.trans t2).mono (fun _ _ h => h.elim)
  have HR2 : Hid (Row w2 w.heap.size 95 (bytesOf (List.replicate 16 0))) := HR1.out.keep t2
  have HF : Hid (∀ k, k < w.heap.size → ¬ k = g) := fun k hk => by have := HG.out; omega
  clear hM2 hg t2 HR1
  go_wp2_with fail
  refine (HTk1.out g w2 HM2.out (HA1.out.keep HT2.out HF.out) (by have := HG.out; omega)).mono ?_
  rintro e w3 ⟨rfl, hM3, t3⟩
  have HM3 : Hid (Mill w3 g Q1) := hM3
  have HT3 : Hid (Touch (fun j => j = g) w w3) := HT2.out.trans t3
  have HR3 : Hid (Row w3 w.heap.size 95 (bytesOf (List.replicate 16 0))) := (t3.block _ HR2.out.lt (by have := HG.out; show ¬ _ = _; omega)).trans HR2.out
  clear hM3 t3 HM2 HT2 HR2 HTk1 HA1
  go_wp2_with fail
  refine (HPd.out w3 (HA2.out.keep HT3.out HF.out) (HAb.out.keep HT3.out HF.out)).mono ?_
  rintro e w4 ⟨p, rfl, hb⟩
  have HB : Hid (Buf w3 w4 p (natB P)) := hb
  have HM4 : Hid (Mill w4 g Q1) := HM3.out.keep hb.t
  have HT4 : Hid (Touch (fun j => j = g) w w4) := HT3.out.trans (hb.t.mono (fun _ _ h => h.elim))
  have HR4 : Hid (Row w4 w.heap.size 95 (bytesOf (List.replicate 16 0))) := HR3.out.keep hb.t
  have HAp : Hid (Apart p g) := fun k hk e => by
    have h1 := (hb.own.lt k hk).1
    have h2 := HM3.out.lt
    omega
  clear hb HM3 HT3 HR3 HPd HA2 HAb
  go_wp2_with fail
  refine (HTk2.out g w4 p HM4.out HB.out.arg HAp.out).mono ?_
  rintro e w5 ⟨rfl, hM5, t5⟩
  have HM5 : Hid (Mill w5 g Q2) := hM5
  have HT5 : Hid (Touch (fun j => j = g) w w5) := HT4.out.trans t5
  have HR5 : Hid (Row w5 w.heap.size 95 (bytesOf (List.replicate 16 0))) := (t5.block _ HR4.out.lt (by have := HG.out; show ¬ _ = _; omega)).trans HR4.out
  clear hM5 t5 HM4 HT4 HR4 HTk2 HB HAp
  go_wp2_with fail
  refine (HTd.out g w5 HM5.out).mono ?_
  rintro e w6 ⟨rfl, t6⟩
  have HT6 : Hid (Touch (fun j => j = g) w w6) := HT5.out.trans (t6.mono (fun _ _ h => h.elim))
  have HR6 : Hid (Row w6 w.heap.size 95 (bytesOf (List.replicate 16 0))) := HR5.out.keep t6
  have hOl' : (bytesOf (natB (outN Q2))).length = 16 := by rw [length_bytesOf, length_natB, length_outN]
  have hO1 := oneCell_bytesOf (natB (outN Q2))
  have HO2 : Hid (bytesOf (natB (ofN (ns ++ ks))) = bytesOf (natB (outN Q2))) := by show _ = _; rw [HO.out]
  generalize bytesOf (natB (outN Q2)) = O at hOl' hO1 HO2 ⊢
  clear t6 HT5 HR5 HM5 HTd HO
  go_wp2_with (refine wpList_store_row rfl 95 (.tmp 4) (.tmp 32) rfl w.heap.size O.toArray rfl rfl 95 _ HR6.out (by rw [Tryz.info16, List.size_toArray, hOl']) (by simp [length_bytesOf, hOl']) (all_oneCell hO1) ?_)
  refine bodyPost_ret (results_cell_row Tryz.results99 _ _ w.heap.size 95 O.toArray (0, 0) _ rfl (HR6.out.setRow O.toArray) Tryz.underlying95 rfl (by rw [Tryz.info16, List.size_toArray, hOl'])) rfl ?_
  refine ⟨by rw [HO2.out], Touch.setRow ?_ (Or.inr (Nat.le_refl _)) _⟩
  exact HT6.out.mono (fun i hi e => HF.out i hi e)
end Go.Proofs.YtjjgbcjgmjggnaaGreatDoor
