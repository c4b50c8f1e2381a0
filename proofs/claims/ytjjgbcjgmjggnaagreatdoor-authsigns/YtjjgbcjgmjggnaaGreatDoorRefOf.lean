/- The document's block. -/
import Derived.Test.YtjjgbcjgmjggnaaGreatDoorDigRow
import Derived.BigRegion
import Derived.Test.YtjjgbcjgmjggnaaGreatDoorDigThru
namespace Go.Proofs.YtjjgbcjgmjggnaaGreatDoor
open Go.RowKit
set_option linter.unusedVariables false
set_option maxRecDepth 100000

/-- Four bytes as a number, as the code reckons it. -/
theorem word_is {a b c d : Nat} (ha : a < 256) (hb : b < 256) (hc : c < 256) (hd : d < 256) :
    bits .or .u32 (a : Int) ((b : Int) * 256) = ((a ||| b * 256 : Nat) : Int) ∧ bits .or .u32 ((a ||| b * 256 : Nat) : Int) ((c : Int) * 65536) = (((a ||| b * 256) ||| c * 65536 : Nat) : Int) ∧
    bits .or .u32 (((a ||| b * 256) ||| c * 65536 : Nat) : Int) ((d : Int) * 16777216) = ((((a ||| b * 256) ||| c * 65536) ||| d * 16777216 : Nat) : Int) := by
  refine ⟨?_, ?_, ?_⟩
  · have := bor (a := a) (b := b * 256) (by omega) (by omega)
    simpa using this
  · have h := or_lt32 (a := a) (b := b * 256) (by omega) (by omega)
    have := bor (a := a ||| b * 256) (b := c * 65536) h (by omega)
    rw [← this]
    rfl
  · have h := or_lt32 (or_lt32 (a := a) (b := b * 256) (by omega) (by omega)) (b := c * 65536) (by omega)
    have := bor (b := d * 16777216) h (by omega)
    rw [← this]
    rfl
def BlR (ns : List Nat) (q : Q4) (w0 : World) (a b c d i : Value) (wr : World) : Prop :=
  ∃ n : Nat, n ≤ 64 ∧ i = .int .i64 (n : Int) ∧ a = .int .u32 ((stepsN ns q n).a : Int) ∧ b = .int .u32 ((stepsN ns q n).b : Int) ∧ c = .int .u32 ((stepsN ns q n).c : Int) ∧ d = .int .u32 ((stepsN ns q n).d : Int) ∧ Touch (fun _ => False) w0 wr

set_option maxHeartbeats 2000000 in
theorem rblock_any (gs ga oa vc : Nat) (q : Q4) (ns : List Nat) (w : World) (hq : q.ok) (hs : Quad w gs q) (hv : RowAt w (.slice (some ⟨ga, oa, none⟩) (natB ns).length vc) (natB ns)) (hby : ∀ x ∈ ns, x < 256) (hl : 64 ≤ ns.length) (hm : ns.length ≤ 1099511627776) :
    Calls Tryz.prog 101 #[.slice (some ⟨gs, 0, none⟩) 4 4, .slice (some ⟨ga, oa, none⟩) (natB ns).length vc] w fun e w' => (∃ g, e = .returned (.slice (some ⟨g, 0, none⟩) 4 4) ∧ Quad w' g (blockN q ns)) ∧ Touch (fun _ => False) w w' := by
  have HQ : Hid q.ok := hq
  have HV : Hid (RowAt w (.slice (some ⟨ga, oa, none⟩) (natB ns).length vc) (natB ns)) := hv
  have HBy : Hid (∀ x ∈ ns, x < 256) := hby
  have HS : Hid (Quad w gs q) := hs
  clear hv hby hq hs
  rw [length_natB]
  go_enter Tryz.func101, Tryz.ntmps101
  go_wp2_with fail
  refine (rconst_any w).mono ?_
  rintro e w1 ⟨rfl, hw1⟩
  have HT1 : Hid (Touch (fun _ => False) w w1) := by subst hw1; exact (Touch.refl _ w).alloc _
  have HTb : Hid (Tab w1 w.heap.size 0) := by subst hw1; exact tab_new w _
  clear hw1
  obtain ⟨gt, hgt⟩ : ∃ gt, gt = w.heap.size := ⟨_, rfl⟩
  rw [← hgt] at HTb ⊢
  clear hgt
  obtain ⟨c0, c1, c2, c3⟩ := HS.out.keep HT1.out
  go_wp2_with fail
  clear c0 c1 c2 c3
  go_loopw [6, 7, 8, 9, 10] (fun a b c d i wr => BlR ns q w1 a b c d i wr) (fun _ _ _ _ i _ => 64 - (intOf i).toNat)
  case atStart => exact ⟨0, by omega, rfl, rfl, rfl, rfl, rfl, Touch.refl _ _⟩
  case round =>
    obtain ⟨n, hn, rfl, rfl, rfl, rfl, rfl, t⟩ := hrel
    have HT : Hid (Touch (fun _ => False) w1 wr) := t
    have hok := stepsN_ok (p := ns) HQ.out n
    obtain ⟨Q, hQ⟩ : ∃ Q, Q = stepsN ns q n := ⟨_, rfl⟩
    have HN : Hid (Q = stepsN ns q n) := hQ
    rw [← hQ] at hok ⊢
    clear hQ t
    obtain ⟨A, B, C, D⟩ := Q
    obtain ⟨hA, hB, hC, hD⟩ := hok
    simp only at hA hB hC hD
    by_cases hlt : n < 64
    · have hlt' : (n : Int) < 64 := by omega
      have hK := whichN_lt hlt
      obtain ⟨hb4, hb23⟩ := byN_bd hlt
      have HM := rmixed_any n B C D hlt hB hC hD
      have HW := rwhich_any n hlt
      have HBy2 := rby_any n hlt
      have hM := mixN_lt (i := n) hB hC hD
      have hT := tabN_lt n
      have HStep : Hid (stepsN ns q (n + 1) = ⟨D, addN B (rotN (addN (addN (addN A (mixN n B C D)) (tabN.getD n 0)) (wordN ns (4 * whichN n))) (byN n)), B, C⟩) := by
        show dstepN ns n (stepsN ns q n) = _
        rw [← HN.out]
        rfl
      have ht := HT.out.cellN (HTb.out n hlt)
      rw [Nat.zero_add] at ht
      have hr := HV.out.touch (HT1.out.trans HT.out) (fun _ _ h => h)
      unfold wordN at HStep
      generalize whichN n = K at HStep HW hK
      have e0 := rowAt_cell hr (4 * K) (by rw [length_natB]; omega)
      have e1 := rowAt_cell hr (4 * K + 1) (by rw [length_natB]; omega)
      have e2 := rowAt_cell hr (4 * K + 2) (by rw [length_natB]; omega)
      have e3 := rowAt_cell hr (4 * K + 3) (by rw [length_natB]; omega)
      rw [natB_getD] at e0 e1 e2 e3
      have b0 := getD_lt HBy.out (4 * K)
      have b1 := getD_lt HBy.out (4 * K + 1)
      have b2 := getD_lt HBy.out (4 * K + 2)
      have b3 := getD_lt HBy.out (4 * K + 3)
      generalize ns.getD (4 * K) 0 = p0 at e0 b0 HStep
      generalize ns.getD (4 * K + 1) 0 = p1 at e1 b1 HStep
      generalize ns.getD (4 * K + 2) 0 = p2 at e2 b2 HStep
      generalize ns.getD (4 * K + 3) 0 = p3 at e3 b3 HStep
      obtain ⟨o1, o2, o3⟩ := word_is b0 b1 b2 b3
      generalize hm' : (p0 ||| p1 * 256 ||| p2 * 65536 ||| p3 * 16777216) = m at HStep o3
      generalize mixN n B C D = M at HStep HM hM
      generalize tabN.getD n 0 = T at HStep hT ht
      generalize byN n = Y at HStep HBy2 hb4 hb23
      have x1 : ((A : Int) + (M : Int)) % 4294967296 = ((addN A M : Nat) : Int) := by unfold addN; omega
      have l1 := lt32_addN A M
      generalize addN A M = X1 at HStep x1 l1
      have x2 : ((X1 : Int) + (T : Int)) % 4294967296 = ((addN X1 T : Nat) : Int) := by unfold addN; omega
      have l2 := lt32_addN X1 T
      generalize addN X1 T = X2 at HStep x2 l2
      have x3 : ((X2 : Int) + (m : Int)) % 4294967296 = ((addN X2 m : Nat) : Int) := by unfold addN; omega
      have l3 := lt32_addN X2 m
      generalize addN X2 m = X3 at HStep x3 l3
      have hR : ∀ w, Calls Tryz.prog 125 #[.int .u32 (X3 : Int), .int .i64 (Y : Int)] w fun e w' => e = .returned (.int .u32 ((rotN X3 Y : Nat) : Int)) ∧ Touch (fun _ => False) w w' :=
        fun w => (rturned_any _ _ l3 hb4 hb23 w).mono (fun _ _ ⟨h, k, e⟩ => ⟨h, e ▸ (Touch.refl _ w).drewN k⟩)
      have HM' : ∀ w, Calls Tryz.prog 126 #[.int .i64 (n : Int), .int .u32 (B : Int), .int .u32 (C : Int), .int .u32 (D : Int)] w fun e w' => e = .returned (.int .u32 (M : Int)) ∧ Touch (fun _ => False) w w' :=
        fun w => (HM w).mono (fun _ _ ⟨h, e⟩ => ⟨h, e ▸ Touch.refl _ _⟩)
      have l4 := rotN_lt Y l3
      generalize rotN X3 Y = R at HStep hR l4
      have x4 : ((B : Int) + (R : Int)) % 4294967296 = ((addN B R : Nat) : Int) := by unfold addN; omega
      generalize addN B R = V at HStep x4
      clear HTb HT1 HS HV HBy hr HM hM
      go_wp2_with fail
      refine (HW _).mono ?_
      rintro e w2 ⟨rfl, rfl⟩
      go_wp2_with fail
      go_quiet (fail)
      have HT2 : Hid (Touch (fun _ => False) w1 (wr.drewN nq)) := HT.out.drewN nq
      have ht2 := ((Touch.refl (fun _ => False) wr).drewN nq).cellN ht
      generalize wr.drewN nq = wq at HT2 ht2 ⊢
      clear e0 e1 e2 e3 ht HT b0 b1 b2 b3 o1 o2 o3 hm'
      go_wp2_with fail
      have pt := aft_cell ht2
      refine wp_region_aft (by kernel_rfl) (by kernel_rfl) ?_
      repeat (first | go_big_quiet_skip | (go_big_quiet_want; go_big_quiet_op; first | go_big_quiet_on | (refine Exists.intro _ ⟨fun _ => rfl, ?_⟩; go_big_quiet_on)))
      go_big_quiet_want; go_big_quiet_op; refine Exists.intro _ ⟨fun u => Aft.call (HM' _), ?_⟩; go_big_quiet_on
      repeat (first | go_big_quiet_skip | (go_big_quiet_want; go_big_quiet_op; first | go_big_quiet_on | (refine Exists.intro _ ⟨fun _ => rfl, ?_⟩; go_big_quiet_on)))
      go_big_quiet_want; go_big_quiet_op; refine Exists.intro _ ⟨fun u => Aft.call (HBy2 _), ?_⟩; go_big_quiet_on
      repeat (first | go_big_quiet_skip | (go_big_quiet_want; go_big_quiet_op; first | go_big_quiet_on | (refine Exists.intro _ ⟨fun _ => rfl, ?_⟩; go_big_quiet_on)))
      go_big_quiet_want; go_big_quiet_op; refine Exists.intro _ ⟨fun u => Aft.call (hR _), ?_⟩; go_big_quiet_on
      repeat (first | go_big_quiet_skip | (go_big_quiet_want; go_big_quiet_op; first | go_big_quiet_on | (refine Exists.intro _ ⟨fun _ => rfl, ?_⟩; go_big_quiet_on)))
      refine wpQuiet_nil ?_
      rintro w9 ⟨⟨_, t9⟩, rfl⟩
      have HT9 : Hid (Touch (fun _ => False) w1 w9) := HT2.out.trans t9
      clear pt ht2 t9 HT2
      go_wp2_with fail
      go_roundw
      case rel =>
        refine ⟨n + 1, by omega, by go_num, ?_, ?_, ?_, ?_, HT9.out⟩
        · rw [HStep.out]
        · rw [HStep.out, x4]
        · rw [HStep.out]
        · rw [HStep.out]
      case measure => simp [intOf]; omega
    · obtain rfl : n = 64 := by omega
      have HT3 : Hid (Touch (fun _ => False) w wr) := HT1.out.trans HT.out
      have HE : Hid (blockN q ns = ⟨addN q.a A, addN q.b B, addN q.c C, addN q.d D⟩) := by
        show blockN q ns = _
        unfold blockN
        rw [← HN.out]
      obtain ⟨c0, c1, c2, c3⟩ := HS.out.keep HT3.out
      have x0 : ((q.a : Int) + (A : Int)) % 4294967296 = ((addN q.a A : Nat) : Int) := by unfold addN; omega
      have x1 : ((q.b : Int) + (B : Int)) % 4294967296 = ((addN q.b B : Nat) : Int) := by unfold addN; omega
      have x2 : ((q.c : Int) + (C : Int)) % 4294967296 = ((addN q.c C : Nat) : Int) := by unfold addN; omega
      have x3 : ((q.d : Int) + (D : Int)) % 4294967296 = ((addN q.d D : Nat) : Int) := by unfold addN; omega
      obtain ⟨hq1, hq2, hq3, hq4⟩ := HQ.out
      generalize addN q.a A = R0 at x0 HE
      generalize addN q.b B = R1 at x1 HE
      generalize addN q.c C = R2 at x2 HE
      generalize addN q.d D = R3 at x3 HE
      obtain ⟨qa, qb, qc, qd⟩ := q
      simp only at hq1 hq2 hq3 hq4 c0 c1 c2 c3 x0 x1 x2 x3
      clear HTb HS HV HBy HN HQ
      go_wp2_with fail
      go_region
      go_wp2
      go_ret
      refine ⟨⟨_, rfl, ?_⟩, ?_⟩
      · rw [HE.out]
        exact quad_new wr.drew ⟨R0, R1, R2, R3⟩ _
      · exact HT3.out.drew.alloc _
end Go.Proofs.YtjjgbcjgmjggnaaGreatDoor

namespace Go.Proofs.YtjjgbcjgmjggnaaGreatDoor
open Go.RowKit
set_option linter.unusedVariables false
set_option maxRecDepth 100000

def RpE (w0 : World) (l : List Nat) (m : Nat) (p b i : Value) (wr : World) : Prop := ∃ k : Nat, k ≤ 8 ∧ i = .int .i64 (k : Int) ∧ b = .int .u64 ((m / 2 ^ (8 * k) : Nat) : Int) ∧ Buf w0 wr p (natB (l ++ 128 :: (List.replicate (gapN l.length) 0 ++ (lowN m 8).take k)))
theorem bits_next (m k : Nat) : m / 2 ^ (8 * k) / 256 = m / 2 ^ (8 * (k + 1)) := by
  rw [Nat.div_div_eq_div_mul, show 2 ^ (8 * k) * 256 = 2 ^ (8 * (k + 1)) by rw [show 8 * (k + 1) = 8 * k + 8 by omega, Nat.pow_add]]
set_option maxHeartbeats 2000000 in
theorem rpadded_any (v : Value) (l : List Nat) (w : World) (hv : ArgAt w v (natB l)) (hll : l.length ≤ 1073741824) :
    Calls Tryz.prog 100 #[v] w fun e w' => ∃ v', e = .returned v' ∧ Buf w w' v' (natB (padN l)) := by
  obtain ⟨va, vc, rfl, -⟩ := hv.form
  rw [length_natB] at hv ⊢
  have HV : Hid (ArgAt w (.slice va l.length vc) (natB l)) := hv
  clear hv
  go_enter Tryz.func100, Tryz.ntmps100
  go_wp2_with (first | (at_builtin; refine app_arg rfl (.tmp 6) (.tmp 7) rfl w _ [] rfl (Buf.nil (Touch.refl _ w)) _ (natB l) rfl HV.out (by rw [length_natB]; simp; omega) ?_; intro p2 w2 b2) | (at_builtin; refine app_one rfl (.tmp 9) (.tmp 10) rfl w _ _ rfl b2 128 rfl (by rw [List.length_append, length_natB]; simp; omega) ?_; intro p3 w3 hb3))
  have HZ : Hid (PdZ w l (gapN l.length) p3 w3) := ⟨0, by omega, by simpa [natB] using hb3⟩
  clear hb3 b2
  go_loopg [3] (gapN l.length) (fun g p wx => PdZ w l g p wx)
  case atStart => exact HZ.out
  case round =>
    clear HZ
    obtain ⟨z, hz, hb⟩ := hrel
    have hlen := length_natZ l z
    obtain ⟨pa, pc, hp⟩ := hb.form
    subst hp
    have HB : Hid (Buf w wr (.slice pa (natB (l ++ 128 :: List.replicate z 0)).length pc) (natB (l ++ 128 :: List.replicate z 0))) := hb
    clear hb
    generalize hLL : (natB (l ++ 128 :: List.replicate z 0)).length = L at hlen HB ⊢
    have HLL : Hid ((natB (l ++ 128 :: List.replicate z 0)).length = L) := hLL
    have hLb := gap_lt l.length
    clear hLL
    by_cases hlt : z < gapN l.length
    · have hne := gap_not hlt
      rw [← hlen] at hne
      have hne' : ((L : Int) % 64 == 56) = false := by simp; omega
      clear hne
      go_wp2_with (at_builtin; refine app_one rfl (.tmp 16) (.tmp 17) rfl w _ _ rfl HB.out 0 rfl (by rw [HLL.out]; omega) ?_; intro p4 w4 hb4)
      go_roundg (gapN l.length - (z + 1))
      case measure => omega
      case rel => exact ⟨z + 1, by omega, by rw [PdZ.next (w0 := w)] at hb4; exact hb4⟩
    · obtain rfl : z = gapN l.length := by omega
      have heq := gap_end l.length
      rw [← hlen] at heq
      have heq' : (L : Int) % 64 = 56 := by omega
      have HE : Hid (RpE w l (8 * l.length) (.slice pa L pc) (.int .u64 (8 * (l.length : Int))) (.int .i64 ((0 : Nat) : Int)) wr) := ⟨0, by omega, rfl, by simp, by rw [List.take_zero, List.append_nil]; exact HB.out⟩
      clear hlen HB HLL heq hlt
      go_wp2_with fail
      clear heq'
      go_loopw [3, 4, 5] (fun p b i wx => RpE w l (8 * l.length) p b i wx) (fun _ _ i _ => 8 - (intOf i).toNat)
      case atStart => exact HE.out
      case round =>
        clear HE
        obtain ⟨k, hk, rfl, rfl, hb⟩ := hrel
        have HB : Hid _ := hb
        clear hb
        by_cases hk8 : k < 8
        · have hk8' : (k : Int) < 8 := by omega
          have HX : Hid (natB (l ++ 128 :: (List.replicate (gapN l.length) 0 ++ (lowN (8 * l.length) 8).take k)) ++ [((8 * l.length / 2 ^ (8 * k) % 256 : Nat) : Int)] = natB (l ++ 128 :: (List.replicate (gapN l.length) 0 ++ (lowN (8 * l.length) 8).take (k + 1)))) := PdE.next hk8
          have HN := bits_next (8 * l.length) k
          have hlim : 8 * l.length / 2 ^ (8 * k) ≤ 8 * l.length := Nat.div_le_self _ _
          obtain ⟨B2, hB2⟩ : ∃ B2, B2 = 8 * l.length / 2 ^ (8 * (k + 1)) := ⟨_, rfl⟩
          have HB2 : Hid (B2 = 8 * l.length / 2 ^ (8 * (k + 1))) := hB2
          rw [← hB2] at HN
          clear hB2
          generalize 8 * l.length / 2 ^ (8 * k) = B at HX HN hlim ⊢
          have s1 : (B : Int) % 256 = ((B % 256 : Nat) : Int) := by omega
          have s2 : (B : Int) / 256 = (B2 : Int) := by omega
          clear HN
          generalize B % 256 = M at HX s1
          go_wp2_with (at_builtin; refine app_one rfl (.tmp 27) (.tmp 30) rfl w _ _ rfl HB.out (M : Int) rfl (by have := length_natE l (8 * l.length) k (gapN l.length); omega) ?_; intro p4 w4 hb4)
          go_roundw
          case rel => exact ⟨k + 1, by omega, by go_num, by rw [← HB2.out], by rw [HX.out] at hb4; exact hb4⟩
          case measure => simp [intOf]; omega
        · obtain rfl : k = 8 := by omega
          have HR : Hid ((lowN (8 * l.length) 8).take 8 = lowN (8 * l.length) 8) := List.take_of_length_le (by rw [length_lowN]; omega)
          go_wp2_with fail
          go_ret
          refine ⟨_, rfl, ?_⟩
          have := HB.out
          rw [HR.out] at this
          exact this
end Go.Proofs.YtjjgbcjgmjggnaaGreatDoor
