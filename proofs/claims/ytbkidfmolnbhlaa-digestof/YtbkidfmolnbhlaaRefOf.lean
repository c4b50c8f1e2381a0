/- The document's padded, Of, Keyed. -/
import Derived.Test.YtbkidfmolnbhlaaRefBlock
import Derived.Test.YtbkidfmolnbhlaaDigThru0
namespace Go.Proofs.Ytbkidfmolnbhlaa
open Go.RowKit
set_option linter.unusedVariables false
set_option maxRecDepth 100000

def RpE (w0 : World) (l : List Nat) (m : Nat) (p b i : Value) (wr : World) : Prop := ∃ k : Nat, k ≤ 8 ∧ i = .int .i64 (k : Int) ∧ b = .int .u64 ((m / 2 ^ (8 * k) : Nat) : Int) ∧ Buf w0 wr p (natB (l ++ 128 :: (List.replicate (gapN l.length) 0 ++ (lowN m 8).take k)))
theorem bits_next (m k : Nat) : m / 2 ^ (8 * k) / 256 = m / 2 ^ (8 * (k + 1)) := by
  rw [Nat.div_div_eq_div_mul, show 2 ^ (8 * k) * 256 = 2 ^ (8 * (k + 1)) by rw [show 8 * (k + 1) = 8 * k + 8 by omega, Nat.pow_add]]
set_option maxHeartbeats 2000000 in
theorem rpadded_any (v : Value) (l : List Nat) (w : World) (hv : ArgAt w v (natB l)) (hll : l.length ≤ 1073741824) :
    Calls Try.prog 18 #[v] w fun e w' => ∃ v', e = .returned v' ∧ Buf w w' v' (natB (padN l)) := by
  obtain ⟨va, vc, rfl, -⟩ := hv.form
  rw [length_natB] at hv ⊢
  have HV : Hid (ArgAt w (.slice va l.length vc) (natB l)) := hv
  clear hv
  go_enter Try.func18, Try.ntmps18
  go_wp2_with (first | (at_builtin; refine app_arg rfl (.tmp 6) (.tmp 7) rfl w _ [] rfl (Buf.nil (Touch.refl _ w)) _ (natB l) rfl HV.out (by rw [length_natB]; simp; omega) ?_; intro p2 w2 b2) | (at_builtin; refine app_one rfl (.tmp 9) (.tmp 10) rfl w _ _ rfl b2 128 rfl (by rw [List.length_append, length_natB]; simp; omega) ?_; intro p3 w3 hb3))
  have HZ : Hid (PdZ w l (gapN l.length) p3 w3) := ⟨0, by omega, by simpa [natB] using hb3⟩
  clear hb3 b2
  go_loopg [3] (gapN l.length) (fun g p wx => PdZ w l g p wx)
  case atStart => exact HZ.out
  case round =>
    clear HZ
    obtain ⟨z, hz, hb⟩ := hrel
    have hlen := length_natZ l z
    obtain ⟨pa, pc, hp⟩ := hb.form
    subst hp
    have HB : Hid (Buf w wr (.slice pa (natB (l ++ 128 :: List.replicate z 0)).length pc) (natB (l ++ 128 :: List.replicate z 0))) := hb
    clear hb
    generalize hLL : (natB (l ++ 128 :: List.replicate z 0)).length = L at hlen HB ⊢
    have HLL : Hid ((natB (l ++ 128 :: List.replicate z 0)).length = L) := hLL
    have hLb := gap_lt l.length
    clear hLL
    by_cases hlt : z < gapN l.length
    · have hne := gap_not hlt
      rw [← hlen] at hne
      have hne' : ((L : Int) % 64 == 56) = false := by simp; omega
      clear hne
      go_wp2_with (at_builtin; refine app_one rfl (.tmp 16) (.tmp 17) rfl w _ _ rfl HB.out 0 rfl (by rw [HLL.out]; omega) ?_; intro p4 w4 hb4)
      go_roundg (gapN l.length - (z + 1))
      case measure => omega
      case rel => exact ⟨z + 1, by omega, by rw [PdZ.next (w0 := w)] at hb4; exact hb4⟩
    · obtain rfl : z = gapN l.length := by omega
      have heq := gap_end l.length
      rw [← hlen] at heq
      have heq' : (L : Int) % 64 = 56 := by omega
      have HE : Hid (RpE w l (8 * l.length) (.slice pa L pc) (.int .u64 (8 * (l.length : Int))) (.int .i64 ((0 : Nat) : Int)) wr) := ⟨0, by omega, rfl, by simp, by rw [List.take_zero, List.append_nil]; exact HB.out⟩
      clear hlen HB HLL heq hlt
      go_wp2_with fail
      clear heq'
      go_loopw [3, 4, 5] (fun p b i wx => RpE w l (8 * l.length) p b i wx) (fun _ _ i _ => 8 - (intOf i).toNat)
      case atStart => exact HE.out
      case round =>
        clear HE
        obtain ⟨k, hk, rfl, rfl, hb⟩ := hrel
        have HB : Hid _ := hb
        clear hb
        by_cases hk8 : k < 8
        · have hk8' : (k : Int) < 8 := by omega
          have HX : Hid (natB (l ++ 128 :: (List.replicate (gapN l.length) 0 ++ (lowN (8 * l.length) 8).take k)) ++ [((8 * l.length / 2 ^ (8 * k) % 256 : Nat) : Int)] = natB (l ++ 128 :: (List.replicate (gapN l.length) 0 ++ (lowN (8 * l.length) 8).take (k + 1)))) := PdE.next hk8
          have HN := bits_next (8 * l.length) k
          have hlim : 8 * l.length / 2 ^ (8 * k) ≤ 8 * l.length := Nat.div_le_self _ _
          obtain ⟨B2, hB2⟩ : ∃ B2, B2 = 8 * l.length / 2 ^ (8 * (k + 1)) := ⟨_, rfl⟩
          have HB2 : Hid (B2 = 8 * l.length / 2 ^ (8 * (k + 1))) := hB2
          rw [← hB2] at HN
          clear hB2
          generalize 8 * l.length / 2 ^ (8 * k) = B at HX HN hlim ⊢
          have s1 : (B : Int) % 256 = ((B % 256 : Nat) : Int) := by omega
          have s2 : (B : Int) / 256 = (B2 : Int) := by omega
          clear HN
          generalize B % 256 = M at HX s1
          go_wp2_with (at_builtin; refine app_one rfl (.tmp 27) (.tmp 30) rfl w _ _ rfl HB.out (M : Int) rfl (by have := length_natE l (8 * l.length) k (gapN l.length); omega) ?_; intro p4 w4 hb4)
          go_roundw
          case rel => exact ⟨k + 1, by omega, by go_num, by rw [← HB2.out], by rw [HX.out] at hb4; exact hb4⟩
          case measure => simp [intOf]; omega
        · obtain rfl : k = 8 := by omega
          have HR : Hid ((lowN (8 * l.length) 8).take 8 = lowN (8 * l.length) 8) := List.take_of_length_le (by rw [length_lowN]; omega)
          go_wp2_with fail
          go_ret
          refine ⟨_, rfl, ?_⟩
          have := HB.out
          rw [HR.out] at this
          exact this
end Go.Proofs.Ytbkidfmolnbhlaa
