/- Contracts: pad, and the document's padded. -/
import Derived.Test.YthilfealloakdaaGreatDigGrow
import Derived.Test.YthilfealloakdaaGreatNumB
import Derived.Deep.LoopGhost
import Derived.Test.YthilfealloakdaaGreatDigMill
namespace Go.Proofs.YthilfealloakdaaGreat
open Go.RowKit
set_option linter.unusedVariables false
set_option maxRecDepth 100000

/-- The padded bytes of l, n being told at the end. -/
def padX (l : List Nat) (n : Nat) : List Nat := l ++ 128 :: (List.replicate (gapN l.length) 0 ++ lowN (8 * n) 8)
theorem padX_self (l : List Nat) : padX l l.length = padN l := rfl
theorem gap_lt (n : Nat) : gapN n < 64 := Nat.mod_lt _ (by decide)
theorem gap_end (n : Nat) : (n + 1 + gapN n) % 64 = 56 := by unfold gapN; omega
theorem gap_not {n z : Nat} (h : z < gapN n) : (n + 1 + z) % 64 ≠ 56 := by unfold gapN at h; omega
theorem lowN_at (m K k : Nat) (h : k < K) : (lowN m K)[k]? = some (m / 2 ^ (8 * k) % 256) := by
  induction K generalizing m k with
  | zero => omega
  | succ K ih =>
    cases k with
    | zero => simp [lowN]
    | succ k =>
      simp only [lowN, List.getElem?_cons_succ]
      rw [ih _ _ (by omega), Nat.div_div_eq_div_mul, show 256 * 2 ^ (8 * k) = 2 ^ (8 * (k + 1)) by rw [show 8 * (k + 1) = 8 * k + 8 by omega, Nat.pow_add]; omega]
theorem lowN_take (m K k : Nat) (h : k < K) : (lowN m K).take (k + 1) = (lowN m K).take k ++ [m / 2 ^ (8 * k) % 256] := by
  rw [List.take_add_one, lowN_at m K k h]
  rfl
theorem natB_one (l : List Nat) (x : Nat) : natB l ++ [(x : Int)] = natB (l ++ [x]) := by simp [natB]

def PdZ (w0 : World) (l : List Nat) (g : Nat) (p : Value) (wr : World) : Prop := ∃ z : Nat, z + g = gapN l.length ∧ Buf w0 wr p (natB (l ++ 128 :: List.replicate z 0))
def PdE (w0 : World) (l : List Nat) (m : Nat) (p i : Value) (wr : World) : Prop := ∃ k : Nat, k ≤ 8 ∧ i = .int .i64 (k : Int) ∧ Buf w0 wr p (natB (l ++ 128 :: (List.replicate (gapN l.length) 0 ++ (lowN m 8).take k)))
theorem PdZ.next {w0 : World} {l : List Nat} {z : Nat} : natB (l ++ 128 :: List.replicate z 0) ++ [(0 : Int)] = natB (l ++ 128 :: List.replicate (z + 1) 0) := by
  rw [show (0 : Int) = ((0 : Nat) : Int) from rfl, natB_one]
  rw [List.replicate_succ', List.append_assoc]
  rfl
theorem PdE.next {l Z : List Nat} {m k : Nat} (h : k < 8) : natB (l ++ 128 :: (Z ++ (lowN m 8).take k)) ++ [((m / 2 ^ (8 * k) % 256 : Nat) : Int)] = natB (l ++ 128 :: (Z ++ (lowN m 8).take (k + 1))) := by
  rw [natB_one, lowN_take m 8 k h]
  simp
theorem length_natZ (l : List Nat) (z : Nat) : (natB (l ++ 128 :: List.replicate z 0)).length = l.length + 1 + z := by simp [natB]; omega
theorem length_natE (l : List Nat) (m k z : Nat) : (natB (l ++ 128 :: (List.replicate z 0 ++ (lowN m 8).take k))).length ≤ l.length + 1 + z + 8 := by simp [natB, length_lowN]; omega

set_option maxHeartbeats 2000000 in
theorem pad_any (v1 v2 : Value) (r1 r2 : List Nat) (n : Nat) (w : World) (h1 : ArgAt w v1 (natB r1)) (h2 : ArgAt w v2 (natB r2)) (hl1 : r1.length ≤ 1073741824) (hl2 : r2.length ≤ 16) (hn : n ≤ 1099511627776) :
    Calls Tryz.prog 158 #[v1, v2, .int .i64 (n : Int)] w fun e w' => ∃ v', e = .returned v' ∧ Buf w w' v' (natB (padX (r1 ++ r2) n)) := by
  obtain ⟨a1, k1, rfl, _⟩ := h1.form
  obtain ⟨a2, k2, rfl, _⟩ := h2.form
  have H1 : Hid (ArgAt w (.slice a1 (natB r1).length k1) (natB r1)) := h1
  have H2 : Hid (ArgAt w (.slice a2 (natB r2).length k2) (natB r2)) := h2
  clear h1 h2
  obtain ⟨l, hl⟩ : ∃ l, l = r1 ++ r2 := ⟨_, rfl⟩
  have HL : Hid (l = r1 ++ r2) := hl
  have hll : l.length ≤ 1073741840 := by rw [hl]; simp; omega
  rw [← hl]
  clear hl
  go_enter Tryz.func158, Tryz.ntmps158
  go_wp2_with fail
  generalize hw1 : World.alloc w _ = w1
  have HT1 : Hid (Touch (fun _ => False) w w1) := by subst hw1; exact (Touch.refl _ w).alloc _
  have d1 : w1.cell? ⟨w.heap.size, 0, none⟩ = some (.slice a1 (natB r1).length k1) := by subst hw1; simp
  have d2 : w1.cell? ⟨w.heap.size, 1, none⟩ = some (.slice a2 (natB r2).length k2) := by subst hw1; simp
  have HC := concat_any w.heap.size _ _ (natB r1) (natB r2) w1 d1 d2 (H1.out.keep HT1.out (fun _ _ h => h)) (H2.out.keep HT1.out (fun _ _ h => h)) (by rw [length_natB]; exact hl1) (by rw [length_natB]; omega)
  clear hw1 d1 d2
  refine HC.mono ?_
  rintro e w2 ⟨p, rfl, hb⟩
  have HB : Hid (Buf w w2 p (natB l)) := by
    have := hb.back HT1.out
    rw [← natB_append, ← HL.out] at this
    exact this
  clear HC hb
  go_wp2_with (at_builtin; refine app_one rfl (.tmp 13) (.tmp 14) rfl w _ (natB l) rfl HB.out 128 rfl (by rw [length_natB]; omega) ?_; intro p3 w3 hb3)
  have HZ : Hid (PdZ w l (gapN l.length) p3 w3) := ⟨0, by omega, by simpa [natB] using hb3⟩
  clear hb3 HB
  go_wp2_with fail
  go_loopg [7] (gapN l.length) (fun g p wx => PdZ w l g p wx)
  case atStart => exact HZ.out
  case round =>
    clear HZ
    obtain ⟨z, hz, hb⟩ := hrel
    have hlen := length_natZ l z
    obtain ⟨pa, pc, hp⟩ := hb.form
    subst hp
    have HB : Hid (Buf w wr (.slice pa (natB (l ++ 128 :: List.replicate z 0)).length pc) (natB (l ++ 128 :: List.replicate z 0))) := hb
    clear hb
    have HLn : Hid ((natB (l ++ 128 :: List.replicate z 0)).length = l.length + 1 + z) := hlen
    generalize hLL : (natB (l ++ 128 :: List.replicate z 0)).length = L at hlen HB ⊢
    have HLL : Hid ((natB (l ++ 128 :: List.replicate z 0)).length = L) := hLL
    have hLb := gap_lt l.length
    clear hLL
    by_cases hlt : z < gapN l.length
    · have hne := gap_not hlt
      rw [← hlen] at hne
      have hne' : ((L : Int) % 64 == 56) = false := by simp; omega
      clear hne
      go_wp2_with (at_builtin; refine app_one rfl (.tmp 20) (.tmp 21) rfl w _ _ rfl HB.out 0 rfl (by rw [HLL.out]; omega) ?_; intro p4 w4 hb4)
      go_roundg (gapN l.length - (z + 1))
      case measure => omega
      case rel => exact ⟨z + 1, by omega, by rw [PdZ.next (w0 := w)] at hb4; exact hb4⟩
    · obtain rfl : z = gapN l.length := by omega
      have heq := gap_end l.length
      rw [← hlen] at heq
      have heq' : (L : Int) % 64 = 56 := by omega
      have HE : Hid (PdE w l (8 * n) (.slice pa L pc) (.int .i64 ((0 : Nat) : Int)) wr) := ⟨0, by omega, rfl, by rw [List.take_zero, List.append_nil]; exact HB.out⟩
      clear hlen HB HLL HLn heq hlt
      go_wp2_with fail
      clear heq'
      go_loopw [7, 26] (fun p i wx => PdE w l (8 * n) p i wx) (fun _ i _ => 8 - (intOf i).toNat)
      case atStart => exact HE.out
      case round =>
        clear HE
        obtain ⟨k, hk, rfl, hb⟩ := hrel
        have HB : Hid _ := hb
        clear hb
        by_cases hk8 : k < 8
        · have hk8' : (k : Int) < 8 := by omega
          have s1 : (8 * (k : Int)).toNat = 8 * k := by omega
          have s2 : min (8 * k) 64 = 8 * k := by omega
          have s3 : (0 : Int) ≤ 8 * (k : Int) := by omega
          have HX : Hid (natB (l ++ 128 :: (List.replicate (gapN l.length) 0 ++ (lowN (8 * n) 8).take k)) ++ [((8 * n / 2 ^ (8 * k) % 256 : Nat) : Int)] = natB (l ++ 128 :: (List.replicate (gapN l.length) 0 ++ (lowN (8 * n) 8).take (k + 1)))) := PdE.next hk8
          have s4 : 8 * (n : Int) / 2 ^ (8 * k) % 256 = ((8 * n / 2 ^ (8 * k) % 256 : Nat) : Int) := by simp
          generalize 8 * n / 2 ^ (8 * k) % 256 = B at HX s4
          go_wp2_with (at_builtin; refine app_one rfl (.tmp 29) (.tmp 35) rfl w _ _ rfl HB.out (B : Int) rfl (by have := length_natE l (8 * n) k (gapN l.length); omega) ?_; intro p4 w4 hb4)
          go_roundw
          case rel => exact ⟨k + 1, by omega, by go_num, by rw [HX.out] at hb4; exact hb4⟩
          case measure => simp [intOf]; omega
        · obtain rfl : k = 8 := by omega
          have HR : Hid ((lowN (8 * n) 8).take 8 = lowN (8 * n) 8) := List.take_of_length_le (by rw [length_lowN]; omega)
          go_wp2_with fail
          go_ret
          refine ⟨_, rfl, ?_⟩
          have := HB.out
          rw [HR.out] at this
          exact this
end Go.Proofs.YthilfealloakdaaGreat

namespace Go.Proofs.YthilfealloakdaaGreat
open Go.RowKit
set_option linter.unusedVariables false
set_option maxRecDepth 100000

theorem stepN_take (p : List Nat) {i : Nat} (q : Q4) (h : i < 64) : dstepN (p.take 64) i q = dstepN p i q := by
  unfold dstepN
  rw [wordN_take p (whichN_lt h)]
theorem stepsN_take (p : List Nat) (q : Q4) : ∀ n, n ≤ 64 → stepsN (p.take 64) q n = stepsN p q n
  | 0, _ => rfl
  | n + 1, h => by
    show dstepN _ n _ = dstepN _ n _
    rw [stepsN_take p q n (by omega), stepN_take p _ (by omega)]
theorem blockN_take (s : Q4) (p : List Nat) : blockN s (p.take 64) = blockN s p := by
  unfold blockN
  rw [stepsN_take p s 64 (Nat.le_refl _)]
theorem blocksN_append (B : Nat) (s : Q4) (P R : List Nat) (h : P.length = 64 * B) : blocksN B s (P ++ R) = blocksN B s P := by
  induction B generalizing s P with
  | zero => rfl
  | succ B ih =>
    simp only [blocksN]
    have e1 : blockN s (P ++ R) = blockN s P := by
      rw [← blockN_take s (P ++ R), ← blockN_take s P, List.take_append_of_le_length (by omega)]
    have e2 : (P ++ R).drop 64 = P.drop 64 ++ R := List.drop_append_of_le_length (by omega)
    rw [e1, e2]
    exact ih _ _ (by simp; omega)
theorem gapN_add (n B : Nat) : gapN (n + 64 * B) = gapN n := by unfold gapN; omega
theorem length_padX (l : List Nat) (n : Nat) : (padX l n).length = l.length + 9 + gapN l.length := by simp [padX, length_lowN]; omega
theorem length_padX_mod (l : List Nat) (n : Nat) : (padX l n).length % 64 = 0 := by rw [length_padX]; unfold gapN; omega
/-- The digest, its whole blocks read where they stand. -/
theorem ofN_parts (ns ks : List Nat) (W : Nat) (hW : W = 64 * (ns.length / 64)) :
    ofN (ns ++ ks) = outN (blocksN ((padX (ns.drop W ++ ks) (ns.length + ks.length)).length / 64) (blocksN ((ns.take W).length / 64) startN (ns.take W)) (padX (ns.drop W ++ ks) (ns.length + ks.length))) := by
  have hWl : W ≤ ns.length := by omega
  have htl : (ns.take W).length = 64 * (ns.length / 64) := by simp; omega
  have hp : padN (ns ++ ks) = ns.take W ++ padX (ns.drop W ++ ks) (ns.length + ks.length) := by
    unfold padN padX
    have hg : gapN (ns ++ ks).length = gapN (ns.drop W ++ ks).length := by
      have : (ns ++ ks).length = (ns.drop W ++ ks).length + 64 * (ns.length / 64) := by simp; omega
      rw [this, gapN_add]
    rw [hg, show (ns ++ ks).length = ns.length + ks.length from List.length_append]
    rw [← List.append_assoc, ← List.append_assoc, List.take_append_drop]
  have hd : (padX (ns.drop W ++ ks) (ns.length + ks.length)).length % 64 = 0 := length_padX_mod _ _
  unfold ofN
  rw [hp, List.length_append, htl, show (64 * (ns.length / 64) + (padX (ns.drop W ++ ks) (ns.length + ks.length)).length) / 64 = ns.length / 64 + (padX (ns.drop W ++ ks) (ns.length + ks.length)).length / 64 by omega]
  rw [blocksN_add, blocksN_append _ _ _ _ htl, show 64 * (ns.length / 64) / 64 = ns.length / 64 by omega]
  rw [show 64 * (ns.length / 64) = (ns.take W).length from htl.symm, List.drop_left]
theorem padX_byte {l : List Nat} (h : ∀ x ∈ l, x < 256) (n : Nat) : ∀ x ∈ padX l n, x < 256 := by
  intro x hx
  simp only [padX, List.mem_append, List.mem_cons] at hx
  rcases hx with hx | rfl | hx | hx
  · exact h x hx
  · decide
  · have := (List.mem_replicate.mp hx).2
    omega
  · exact lowN_byte _ _ x hx

/-- A row cut in two, as the code cuts it. -/
theorem cut_two {w : World} {va : Option Addr} {vc : Nat} {ns : List Nat} (h : ArgAt w (.slice va ns.length vc) (natB ns)) (W : Nat) (hW : W ≤ ns.length) :
    ∃ v1 v2, (∀ w, Sem.run Tryz.prog (Instr.slice 22 (.slice va ns.length vc) none (some (.int .i64 (W : Int))) none) w = .ok v1 w) ∧
      (∀ w, Sem.run Tryz.prog (Instr.slice 22 (.slice va ns.length vc) (some (.int .i64 (W : Int))) none none) w = .ok v2 w) ∧
      ArgAt w v1 (natB (ns.take W)) ∧ ArgAt w v2 (natB (ns.drop W)) ∧ (0 < ns.length → ∀ k, v1.ownBlock = some k → k < w.heap.size) := by
  by_cases hp : 0 < ns.length
  · have hr := h.row (by rw [length_natB]; exact hp)
    obtain ⟨ga, oa, rfl⟩ := rowAt_some hr hp
    obtain ⟨-, hc1, hc2⟩ := cap_of hr
    have hc2' : (vc : Int) ≤ 9223372036854775807 := by unfold maxLen at hc2; omega
    have hlt : ga < w.heap.size := lt_of_cell (rowAt_cell hr 0 (by rw [length_natB]; exact hp))
    have h0 : (0 : Int) ≤ (W : Int) := by omega
    have h1 : (W : Int) ≤ (vc : Int) := by omega
    have h2 : (W : Int) ≤ (ns.length : Int) := by omega
    have h3 : (ns.length : Int) ≤ (vc : Int) := by omega
    have hne : ¬ vc = 0 := by omega
    by_cases hz : vc = W
    · refine ⟨.slice (some ⟨ga, oa, none⟩) W vc, .slice (some ⟨ga, oa, none⟩) (ns.length - W) (vc - W), fun w => ?_, fun w => ?_, ?_, ?_, fun _ k hk => by cases hk; exact hlt⟩
      · simp [Instr.slice, Instr.sliceBounds, Instr.sliceBound, go_sem, h0]
        intro hh; omega
      · simp [Instr.slice, Instr.sliceBounds, Instr.sliceBound, go_sem, h0, hz]
        intro hh; omega
      · rw [natB_take]; exact (take_row hr W hW).arg
      · have : ns.length - W = 0 := by omega
        rw [this, List.drop_eq_nil_of_le (by omega)]
        exact empty_arg w _ _ (by unfold maxLen; omega)
    · refine ⟨.slice (some ⟨ga, oa, none⟩) W vc, .slice (some ⟨ga, oa + W, none⟩) (ns.length - W) (vc - W), fun w => ?_, fun w => ?_, ?_, ?_, fun _ k hk => by cases hk; exact hlt⟩
      · simp [Instr.slice, Instr.sliceBounds, Instr.sliceBound, go_sem, h0]
        intro hh; omega
      · simp [Instr.slice, Instr.sliceBounds, Instr.sliceBound, go_sem, h0, hz]
        intro hh; omega
      · rw [natB_take]; exact (take_row hr W hW).arg
      · rw [natB_drop]; exact (drop_row hr W hW).arg
  · obtain rfl : ns = [] := List.eq_nil_of_length_eq_zero (by omega)
    obtain rfl : W = 0 := by simpa using hW
    rcases h with ⟨hv, _⟩ | ⟨ad, c, hv, h1, h2, _⟩
    · cases hv
      refine ⟨.slice none 0 0, .slice none 0 0, fun w => ?_, fun w => ?_, Or.inl ⟨rfl, rfl⟩, Or.inl ⟨rfl, rfl⟩, fun h => absurd h (by simp)⟩
      · simp [Instr.slice, Instr.sliceBounds, Instr.sliceBound, go_sem]
      · simp [Instr.slice, Instr.sliceBounds, Instr.sliceBound, go_sem]
    · cases hv
      have hc2' : (vc : Int) ≤ 9223372036854775807 := by unfold maxLen at h2; omega
      by_cases hz : vc = 0
      · subst hz
        refine ⟨.slice (some ad) 0 0, .slice (some ad) 0 0, fun w => ?_, fun w => ?_, empty_arg _ _ _ h2, empty_arg _ _ _ h2, fun h => absurd h (by simp)⟩
        · simp [Instr.slice, Instr.sliceBounds, Instr.sliceBound, go_sem]
        · simp [Instr.slice, Instr.sliceBounds, Instr.sliceBound, go_sem]
      · refine ⟨.slice (some (ad.add 0)) 0 vc, .slice (some (ad.add 0)) 0 vc, fun w => ?_, fun w => ?_, empty_arg _ _ _ h2, empty_arg _ _ _ h2, fun h => absurd h (by simp)⟩
        · simp [Instr.slice, Instr.sliceBounds, Instr.sliceBound, go_sem]
        · simp [Instr.slice, Instr.sliceBounds, Instr.sliceBound, go_sem]
end Go.Proofs.YthilfealloakdaaGreat

namespace Go.Proofs.YthilfealloakdaaGreat
open Go.RowKit
set_option linter.unusedVariables false
set_option maxRecDepth 100000

def RpE (w0 : World) (l : List Nat) (m : Nat) (p b i : Value) (wr : World) : Prop := ∃ k : Nat, k ≤ 8 ∧ i = .int .i64 (k : Int) ∧ b = .int .u64 ((m / 2 ^ (8 * k) : Nat) : Int) ∧ Buf w0 wr p (natB (l ++ 128 :: (List.replicate (gapN l.length) 0 ++ (lowN m 8).take k)))
theorem bits_next (m k : Nat) : m / 2 ^ (8 * k) / 256 = m / 2 ^ (8 * (k + 1)) := by
  rw [Nat.div_div_eq_div_mul, show 2 ^ (8 * k) * 256 = 2 ^ (8 * (k + 1)) by rw [show 8 * (k + 1) = 8 * k + 8 by omega, Nat.pow_add]]
set_option maxHeartbeats 2000000 in
theorem rpadded_any (v : Value) (l : List Nat) (w : World) (hv : ArgAt w v (natB l)) (hll : l.length ≤ 1073741824) :
    Calls Tryz.prog 140 #[v] w fun e w' => ∃ v', e = .returned v' ∧ Buf w w' v' (natB (padN l)) := by
  obtain ⟨va, vc, rfl, -⟩ := hv.form
  rw [length_natB] at hv ⊢
  have HV : Hid (ArgAt w (.slice va l.length vc) (natB l)) := hv
  clear hv
  go_enter Tryz.func140, Tryz.ntmps140
  go_wp2_with (first | (at_builtin; refine app_arg rfl (.tmp 6) (.tmp 7) rfl w _ [] rfl (Buf.nil (Touch.refl _ w)) _ (natB l) rfl HV.out (by rw [length_natB]; simp; omega) ?_; intro p2 w2 b2) | (at_builtin; refine app_one rfl (.tmp 9) (.tmp 10) rfl w _ _ rfl b2 128 rfl (by rw [List.length_append, length_natB]; simp; omega) ?_; intro p3 w3 hb3))
  have HZ : Hid (PdZ w l (gapN l.length) p3 w3) := ⟨0, by omega, by simpa [natB] using hb3⟩
  clear hb3 b2
  go_loopg [3] (gapN l.length) (fun g p wx => PdZ w l g p wx)
  case atStart => exact HZ.out
  case round =>
    clear HZ
    obtain ⟨z, hz, hb⟩ := hrel
    have hlen := length_natZ l z
    obtain ⟨pa, pc, hp⟩ := hb.form
    subst hp
    have HB : Hid (Buf w wr (.slice pa (natB (l ++ 128 :: List.replicate z 0)).length pc) (natB (l ++ 128 :: List.replicate z 0))) := hb
    clear hb
    generalize hLL : (natB (l ++ 128 :: List.replicate z 0)).length = L at hlen HB ⊢
    have HLL : Hid ((natB (l ++ 128 :: List.replicate z 0)).length = L) := hLL
    have hLb := gap_lt l.length
    clear hLL
    by_cases hlt : z < gapN l.length
    · have hne := gap_not hlt
      rw [← hlen] at hne
      have hne' : ((L : Int) % 64 == 56) = false := by simp; omega
      clear hne
      go_wp2_with (at_builtin; refine app_one rfl (.tmp 16) (.tmp 17) rfl w _ _ rfl HB.out 0 rfl (by rw [HLL.out]; omega) ?_; intro p4 w4 hb4)
      go_roundg (gapN l.length - (z + 1))
      case measure => omega
      case rel => exact ⟨z + 1, by omega, by rw [PdZ.next (w0 := w)] at hb4; exact hb4⟩
    · obtain rfl : z = gapN l.length := by omega
      have heq := gap_end l.length
      rw [← hlen] at heq
      have heq' : (L : Int) % 64 = 56 := by omega
      have HE : Hid (RpE w l (8 * l.length) (.slice pa L pc) (.int .u64 (8 * (l.length : Int))) (.int .i64 ((0 : Nat) : Int)) wr) := ⟨0, by omega, rfl, by simp, by rw [List.take_zero, List.append_nil]; exact HB.out⟩
      clear hlen HB HLL heq hlt
      go_wp2_with fail
      clear heq'
      go_loopw [3, 4, 5] (fun p b i wx => RpE w l (8 * l.length) p b i wx) (fun _ _ i _ => 8 - (intOf i).toNat)
      case atStart => exact HE.out
      case round =>
        clear HE
        obtain ⟨k, hk, rfl, rfl, hb⟩ := hrel
        have HB : Hid _ := hb
        clear hb
        by_cases hk8 : k < 8
        · have hk8' : (k : Int) < 8 := by omega
          have HX : Hid (natB (l ++ 128 :: (List.replicate (gapN l.length) 0 ++ (lowN (8 * l.length) 8).take k)) ++ [((8 * l.length / 2 ^ (8 * k) % 256 : Nat) : Int)] = natB (l ++ 128 :: (List.replicate (gapN l.length) 0 ++ (lowN (8 * l.length) 8).take (k + 1)))) := PdE.next hk8
          have HN := bits_next (8 * l.length) k
          have hlim : 8 * l.length / 2 ^ (8 * k) ≤ 8 * l.length := Nat.div_le_self _ _
          obtain ⟨B2, hB2⟩ : ∃ B2, B2 = 8 * l.length / 2 ^ (8 * (k + 1)) := ⟨_, rfl⟩
          have HB2 : Hid (B2 = 8 * l.length / 2 ^ (8 * (k + 1))) := hB2
          rw [← hB2] at HN
          clear hB2
          generalize 8 * l.length / 2 ^ (8 * k) = B at HX HN hlim ⊢
          have s1 : (B : Int) % 256 = ((B % 256 : Nat) : Int) := by omega
          have s2 : (B : Int) / 256 = (B2 : Int) := by omega
          clear HN
          generalize B % 256 = M at HX s1
          go_wp2_with (at_builtin; refine app_one rfl (.tmp 27) (.tmp 30) rfl w _ _ rfl HB.out (M : Int) rfl (by have := length_natE l (8 * l.length) k (gapN l.length); omega) ?_; intro p4 w4 hb4)
          go_roundw
          case rel => exact ⟨k + 1, by omega, by go_num, by rw [← HB2.out], by rw [HX.out] at hb4; exact hb4⟩
          case measure => simp [intOf]; omega
        · obtain rfl : k = 8 := by omega
          have HR : Hid ((lowN (8 * l.length) 8).take 8 = lowN (8 * l.length) 8) := List.take_of_length_le (by rw [length_lowN]; omega)
          go_wp2_with fail
          go_ret
          refine ⟨_, rfl, ?_⟩
          have := HB.out
          rw [HR.out] at this
          exact this
end Go.Proofs.YthilfealloakdaaGreat
