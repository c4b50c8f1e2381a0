/- Contracts: pad, and the document's padded. -/
import Derived.Test.YthilfealloakdaaDigGrow
import Derived.Test.YthilfealloakdaaDigBase
import Derived.Deep.LoopGhost
namespace Go.Proofs.Ythilfealloakdaa
open Go.RowKit
set_option linter.unusedVariables false
set_option maxRecDepth 100000

/-- The padded bytes of l, n being told at the end. -/
def padX (l : List Nat) (n : Nat) : List Nat := l ++ 128 :: (List.replicate (gapN l.length) 0 ++ lowN (8 * n) 8)
theorem padX_self (l : List Nat) : padX l l.length = padN l := rfl
theorem gap_lt (n : Nat) : gapN n < 64 := Nat.mod_lt _ (by decide)
theorem gap_end (n : Nat) : (n + 1 + gapN n) % 64 = 56 := by unfold gapN; omega
theorem gap_not {n z : Nat} (h : z < gapN n) : (n + 1 + z) % 64 ≠ 56 := by unfold gapN at h; omega
theorem lowN_at (m K k : Nat) (h : k < K) : (lowN m K)[k]? = some (m / 2 ^ (8 * k) % 256) := by
  induction K generalizing m k with
  | zero => omega
  | succ K ih =>
    cases k with
    | zero => simp [lowN]
    | succ k =>
      simp only [lowN, List.getElem?_cons_succ]
      rw [ih _ _ (by omega), Nat.div_div_eq_div_mul, show 256 * 2 ^ (8 * k) = 2 ^ (8 * (k + 1)) by rw [show 8 * (k + 1) = 8 * k + 8 by omega, Nat.pow_add]; omega]
theorem lowN_take (m K k : Nat) (h : k < K) : (lowN m K).take (k + 1) = (lowN m K).take k ++ [m / 2 ^ (8 * k) % 256] := by
  rw [List.take_add_one, lowN_at m K k h]
  rfl
theorem natB_one (l : List Nat) (x : Nat) : natB l ++ [(x : Int)] = natB (l ++ [x]) := by simp [natB]

def PdZ (w0 : World) (l : List Nat) (g : Nat) (p : Value) (wr : World) : Prop := ∃ z : Nat, z + g = gapN l.length ∧ Buf w0 wr p (natB (l ++ 128 :: List.replicate z 0))
def PdE (w0 : World) (l : List Nat) (m : Nat) (p i : Value) (wr : World) : Prop := ∃ k : Nat, k ≤ 8 ∧ i = .int .i64 (k : Int) ∧ Buf w0 wr p (natB (l ++ 128 :: (List.replicate (gapN l.length) 0 ++ (lowN m 8).take k)))
theorem PdZ.next {w0 : World} {l : List Nat} {z : Nat} : natB (l ++ 128 :: List.replicate z 0) ++ [(0 : Int)] = natB (l ++ 128 :: List.replicate (z + 1) 0) := by
  rw [show (0 : Int) = ((0 : Nat) : Int) from rfl, natB_one]
  rw [List.replicate_succ', List.append_assoc]
  rfl
theorem PdE.next {l Z : List Nat} {m k : Nat} (h : k < 8) : natB (l ++ 128 :: (Z ++ (lowN m 8).take k)) ++ [((m / 2 ^ (8 * k) % 256 : Nat) : Int)] = natB (l ++ 128 :: (Z ++ (lowN m 8).take (k + 1))) := by
  rw [natB_one, lowN_take m 8 k h]
  simp
theorem length_natZ (l : List Nat) (z : Nat) : (natB (l ++ 128 :: List.replicate z 0)).length = l.length + 1 + z := by simp [natB]; omega
theorem length_natE (l : List Nat) (m k z : Nat) : (natB (l ++ 128 :: (List.replicate z 0 ++ (lowN m 8).take k))).length ≤ l.length + 1 + z + 8 := by simp [natB, length_lowN]; omega

set_option maxHeartbeats 2000000 in
theorem pad_any (v1 v2 : Value) (r1 r2 : List Nat) (n : Nat) (w : World) (h1 : ArgAt w v1 (natB r1)) (h2 : ArgAt w v2 (natB r2)) (hl1 : r1.length ≤ 1073741824) (hl2 : r2.length ≤ 16) (hn : n ≤ 1099511627776) :
    Calls Try.prog 91 #[v1, v2, .int .i64 (n : Int)] w fun e w' => ∃ v', e = .returned v' ∧ Buf w w' v' (natB (padX (r1 ++ r2) n)) := by
  obtain ⟨a1, k1, rfl, _⟩ := h1.form
  obtain ⟨a2, k2, rfl, _⟩ := h2.form
  have H1 : Hid (ArgAt w (.slice a1 (natB r1).length k1) (natB r1)) := h1
  have H2 : Hid (ArgAt w (.slice a2 (natB r2).length k2) (natB r2)) := h2
  clear h1 h2
  obtain ⟨l, hl⟩ : ∃ l, l = r1 ++ r2 := ⟨_, rfl⟩
  have HL : Hid (l = r1 ++ r2) := hl
  have hll : l.length ≤ 1073741840 := by rw [hl]; simp; omega
  rw [← hl]
  clear hl
  go_enter Try.func91, Try.ntmps91
  go_wp2_with fail
  generalize hw1 : World.alloc w _ = w1
  have HT1 : Hid (Touch (fun _ => False) w w1) := by subst hw1; exact (Touch.refl _ w).alloc _
  have d1 : w1.cell? ⟨w.heap.size, 0, none⟩ = some (.slice a1 (natB r1).length k1) := by subst hw1; simp
  have d2 : w1.cell? ⟨w.heap.size, 1, none⟩ = some (.slice a2 (natB r2).length k2) := by subst hw1; simp
  have HC := concat_any w.heap.size _ _ (natB r1) (natB r2) w1 d1 d2 (H1.out.keep HT1.out (fun _ _ h => h)) (H2.out.keep HT1.out (fun _ _ h => h)) (by rw [length_natB]; exact hl1) (by rw [length_natB]; omega)
  clear hw1 d1 d2
  refine HC.mono ?_
  rintro e w2 ⟨p, rfl, hb⟩
  have HB : Hid (Buf w w2 p (natB l)) := by
    have := hb.back HT1.out
    rw [← natB_append, ← HL.out] at this
    exact this
  clear HC hb
  go_wp2_with (at_builtin; refine app_one rfl (.tmp 13) (.tmp 14) rfl w _ (natB l) rfl HB.out 128 rfl (by rw [length_natB]; omega) ?_; intro p3 w3 hb3)
  have HZ : Hid (PdZ w l (gapN l.length) p3 w3) := ⟨0, by omega, by simpa [natB] using hb3⟩
  clear hb3 HB
  go_wp2_with fail
  go_loopg [7] (gapN l.length) (fun g p wx => PdZ w l g p wx)
  case atStart => exact HZ.out
  case round =>
    clear HZ
    obtain ⟨z, hz, hb⟩ := hrel
    have hlen := length_natZ l z
    obtain ⟨pa, pc, hp⟩ := hb.form
    subst hp
    have HB : Hid (Buf w wr (.slice pa (natB (l ++ 128 :: List.replicate z 0)).length pc) (natB (l ++ 128 :: List.replicate z 0))) := hb
    clear hb
    have HLn : Hid ((natB (l ++ 128 :: List.replicate z 0)).length = l.length + 1 + z) := hlen
    generalize hLL : (natB (l ++ 128 :: List.replicate z 0)).length = L at hlen HB ⊢
    have HLL : Hid ((natB (l ++ 128 :: List.replicate z 0)).length = L) := hLL
    have hLb := gap_lt l.length
    clear hLL
    by_cases hlt : z < gapN l.length
    · have hne := gap_not hlt
      rw [← hlen] at hne
      have hne' : ((L : Int) % 64 == 56) = false := by simp; omega
      clear hne
      go_wp2_with (at_builtin; refine app_one rfl (.tmp 20) (.tmp 21) rfl w _ _ rfl HB.out 0 rfl (by rw [HLL.out]; omega) ?_; intro p4 w4 hb4)
      go_roundg (gapN l.length - (z + 1))
      case measure => omega
      case rel => exact ⟨z + 1, by omega, by rw [PdZ.next (w0 := w)] at hb4; exact hb4⟩
    · obtain rfl : z = gapN l.length := by omega
      have heq := gap_end l.length
      rw [← hlen] at heq
      have heq' : (L : Int) % 64 = 56 := by omega
      have HE : Hid (PdE w l (8 * n) (.slice pa L pc) (.int .i64 ((0 : Nat) : Int)) wr) := ⟨0, by omega, rfl, by rw [List.take_zero, List.append_nil]; exact HB.out⟩
      clear hlen HB HLL HLn heq hlt
      go_wp2_with fail
      clear heq'
      go_loopw [7, 26] (fun p i wx => PdE w l (8 * n) p i wx) (fun _ i _ => 8 - (intOf i).toNat)
      case atStart => exact HE.out
      case round =>
        clear HE
        obtain ⟨k, hk, rfl, hb⟩ := hrel
        have HB : Hid _ := hb
        clear hb
        by_cases hk8 : k < 8
        · have hk8' : (k : Int) < 8 := by omega
          have s1 : (8 * (k : Int)).toNat = 8 * k := by omega
          have s2 : min (8 * k) 64 = 8 * k := by omega
          have s3 : (0 : Int) ≤ 8 * (k : Int) := by omega
          have HX : Hid (natB (l ++ 128 :: (List.replicate (gapN l.length) 0 ++ (lowN (8 * n) 8).take k)) ++ [((8 * n / 2 ^ (8 * k) % 256 : Nat) : Int)] = natB (l ++ 128 :: (List.replicate (gapN l.length) 0 ++ (lowN (8 * n) 8).take (k + 1)))) := PdE.next hk8
          have s4 : 8 * (n : Int) / 2 ^ (8 * k) % 256 = ((8 * n / 2 ^ (8 * k) % 256 : Nat) : Int) := by simp
          generalize 8 * n / 2 ^ (8 * k) % 256 = B at HX s4
          go_wp2_with (at_builtin; refine app_one rfl (.tmp 29) (.tmp 35) rfl w _ _ rfl HB.out (B : Int) rfl (by have := length_natE l (8 * n) k (gapN l.length); omega) ?_; intro p4 w4 hb4)
          go_roundw
          case rel => exact ⟨k + 1, by omega, by go_num, by rw [HX.out] at hb4; exact hb4⟩
          case measure => simp [intOf]; omega
        · obtain rfl : k = 8 := by omega
          have HR : Hid ((lowN (8 * n) 8).take 8 = lowN (8 * n) 8) := List.take_of_length_le (by rw [length_lowN]; omega)
          go_wp2_with fail
          go_ret
          refine ⟨_, rfl, ?_⟩
          have := HB.out
          rw [HR.out] at this
          exact this
end Go.Proofs.Ythilfealloakdaa
