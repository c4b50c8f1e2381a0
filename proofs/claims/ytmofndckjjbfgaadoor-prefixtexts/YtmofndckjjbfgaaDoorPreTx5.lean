/- The document's Dotted and Text. -/
import Derived.Test.YtmofndckjjbfgaaDoorPreText
import Derived.Test.YtmofndckjjbfgaaDoorPreRef2
namespace Go.Proofs.YtmofndckjjbfgaaDoor
open Go.RowKit Go.Sort Go.Lib
set_option linter.unusedVariables false
set_option maxRecDepth 100000

theorem itoa_at (v : Int) (u : Nat) (hv : v = u) (w : World) (hu64 : u < 4294967296) (htab : Tab w) :
    Calls Tryd.prog 49 #[.int .i64 v] w fun e w' => e = .returned (.string ⟨(Lib.decDigits u).toArray⟩) ∧ Gr w w' := by
  subst hv; exact itoa_any u w hu64 htab
theorem wrap_small (n : Nat) (h : n ≤ 32) : IntKind.i64.wrap (n : Int) = (n : Int) := by
  rw [IntKind.wrap_i64]; omega
theorem shr24 (a : Nat) (ha : a < 4294967296) : bits .and .u32 ((a : Int) / 16777216) 255 = ((a / 16777216 : Nat) : Int) := by
  have := shr_at a 24 ha
  rw [show a / 2 ^ 24 % 256 = a / 16777216 by omega] at this
  exact this

set_option maxHeartbeats 400000 in
theorem rdotted_any (a : Nat) (w : World) (ha : a < 4294967296) (htab : Tab w) :
    Calls Tryd.prog 35 #[.int .u32 (a : Int)] w fun e w' => e = .returned (.string ⟨(dot a).toArray⟩) ∧ Gr w w' := by
  have l1 := dec_len (a / 16777216) (by omega)
  have l2 := dec_len (a / 65536 % 256) (by omega)
  have l3 := dec_len (a / 256 % 256) (by omega)
  have l4 := dec_len (a % 256) (by omega)
  have hD : Hid (dot a = Lib.decDigits (a / 16777216) ++ 46 :: (Lib.decDigits (a / 65536 % 256) ++ 46 :: (Lib.decDigits (a / 256 % 256) ++ 46 :: Lib.decDigits (a % 256)))) := rfl
  generalize dot a = D at hD ⊢
  have s1 := shr16 a ha
  have s2 := shr8 a ha
  have s3 := shr0 a ha
  have s0 := shr24 a ha
  have b1 : a / 16777216 < 256 := by omega
  have b2 : a / 65536 % 256 < 256 := by omega
  have b3 : a / 256 % 256 < 256 := by omega
  have b4 : a % 256 < 256 := by omega
  revert l1 l2 l3 l4 hD s1 s2 s3 s0 b1 b2 b3 b4
  generalize a / 16777216 = u1
  generalize a / 65536 % 256 = u2
  generalize a / 256 % 256 = u3
  generalize a % 256 = u4
  intro l1 l2 l3 l4 hD s1 s2 s3 s0 b1 b2 b3 b4
  revert l1 l2 l3 l4 hD
  generalize hq1 : Lib.decDigits u1 = d1
  generalize hq2 : Lib.decDigits u2 = d2
  generalize hq3 : Lib.decDigits u3 = d3
  generalize hq4 : Lib.decDigits u4 = d4
  intro l1 l2 l3 l4 hD
  have Q1 : Hid _ := hq1
  have Q2 : Hid _ := hq2
  have Q3 : Hid _ := hq3
  have Q4 : Hid _ := hq4
  clear hq1 hq2 hq3 hq4
  go_enter Tryd.func35, Tryd.ntmps35
  go_wp2_with fail
  refine wp_loop_rounds 5 ?_
  rw [rounds_succ]
  go_wp2_with fail
  refine (itoa_at _ u1 rfl _ (by omega) htab).mono ?_
  rintro e w1 ⟨rfl, hg1⟩
  rw [Q1.out]
  go_wp2_with fail
  rw [rounds_succ]
  go_wp2_with fail
  refine (itoa_at _ u2 rfl _ (by omega) (htab.gr hg1)).mono ?_
  rintro e w2 ⟨rfl, hg2⟩
  rw [Q2.out]
  go_wp2_with fail
  rw [rounds_succ]
  go_wp2_with fail
  refine (itoa_at _ u3 rfl _ (by omega) (htab.gr (hg1.trans hg2))).mono ?_
  rintro e w3 ⟨rfl, hg3⟩
  rw [Q3.out]
  go_wp2_with fail
  rw [rounds_succ]
  go_wp2_with fail
  refine (itoa_at _ u4 rfl _ (by omega) (htab.gr ((hg1.trans hg2).trans hg3))).mono ?_
  rintro e w4 ⟨rfl, hg4⟩
  rw [Q4.out]
  go_wp2_with fail
  rw [rounds_succ]
  go_wp2_with fail
  go_ret
  refine ⟨str_eq (x := [] ++ d1 ++ [46] ++ d2 ++ [46] ++ d3 ++ [46] ++ d4) ?_ ?_, ((hg1.trans hg2).trans hg3).trans hg4⟩
  · rw [← ByteArray.mk_append_mk, ← ByteArray.mk_append_mk, ← ByteArray.mk_append_mk, ← ByteArray.mk_append_mk, ← ByteArray.mk_append_mk, ← ByteArray.mk_append_mk, ← ByteArray.mk_append_mk]
  · rw [hD.out]; simp

set_option maxHeartbeats 400000 in
theorem rtext_yes (a n : Nat) (w : World) (ha : a < 4294967296) (hp : pis a n = true) (htab : Tab w) :
    Calls Tryd.prog 37 #[.agg #[.int .u32 (a : Int), .int .u8 (n : Int)]] w fun e w' => e = .returned (.string ⟨(ptx a n).toArray⟩) ∧ Gr w w' := by
  have hn : n ≤ 32 := by have := (pis_iff.1 hp).1; omega
  have l1 := dot_len a ha
  have l2 := dec_len n (by omega)
  have n0 : (0 : Int) ≤ (n : Int) := by omega
  have n1 : (n : Int) < 4294967296 := by omega
  have hs1 := add_runs (ByteArray.mk (dot a).toArray) (ByteArray.mk #[47]) (by rw [ByteArray.size_mk']; simp; omega) (by decide)
  have hs2 := add_runs (ByteArray.mk (dot a).toArray ++ ByteArray.mk #[47]) (ByteArray.mk (Lib.decDigits n).toArray) (by rw [ByteArray.size_append', ByteArray.size_mk', ByteArray.size_mk']; simp; omega) (by rw [ByteArray.size_mk']; simp; omega)
  go_enter Tryd.func37, Tryd.ntmps37
  go_wp2_with (go_at_call 14; refine (is_at true _ _ _ (by omega) (by omega) (by omega) hp).mono ?_; rintro e w1 ⟨rfl, hg1⟩)
  have hT : Hid (Tab w1) := htab.gr ((Gr.one _ _).trans hg1)
  have hP := hg1.px (Px.new w a n 24)
  have k0 := hP.1
  have k1 := hP.2
  have HG : Hid (Gr w w1) := (Gr.one _ _).trans hg1
  clear hg1 hP htab
  go_region_held3 (fun w' => w'.cell? ⟨w.heap.size, 0, none⟩ = some (.int .u32 (a : Int)) ∧ w'.cell? ⟨w.heap.size, 1, none⟩ = some (.int .u8 (n : Int))) (go_keep) (first
    | (go_at_call 35; refine (rdotted_any a _ ha (by exact hT.out)).mono ?_; rintro e w2 ⟨rfl, hg2⟩; have hP2 := hg2.px (b := w.heap.size) (a := a) (n := n) ⟨k0, k1⟩; have k2 := hP2.1; have k3 := hP2.2; clear hP2)
    | (go_at_call 49; refine (itoa_at _ n (wrap_small n hn) _ (by omega) (by exact hg2.tab hT.out)).mono ?_; rintro e w3 ⟨rfl, hg3⟩; have hP2 := hg3.px (b := w.heap.size) (a := a) (n := n) ⟨k2, k3⟩; have k4 := hP2.1; have k5 := hP2.2; clear hP2))
  go_wp2
  go_ret
  refine ⟨str_eq (x := dot a ++ [47] ++ Lib.decDigits n) ?_ (by simp [ptx]), (HG.out.drew.trans hg2).trans hg3⟩
  rw [← ByteArray.mk_append_mk, ← ByteArray.mk_append_mk]

set_option maxHeartbeats 400000 in
theorem rtext_no (a n : Nat) (w : World) (ha : a < 4294967296) (hp : pis a n = false) :
    Calls Tryd.prog 37 #[.agg #[.int .u32 (a : Int), .int .u8 (n : Int)]] w fun e w' => e = .returned (.string ⟨#[]⟩) ∧ Gr w w' := by
  go_enter Tryd.func37, Tryd.ntmps37
  go_wp2_with (go_at_call 14; refine (is_at false _ _ _ (by omega) (by omega) (by omega) hp).mono ?_; rintro e w1 ⟨rfl, hg1⟩)
  go_ret
  exact ⟨rfl, (Gr.one _ _).trans hg1⟩
end Go.Proofs.YtmofndckjjbfgaaDoor
