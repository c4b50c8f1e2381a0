/- The texts of addresses and prefixes: prefix.Dotted, prefix.Text. -/
import Derived.Test.YtmofndckjjbfgaaDoorPreTens
import Derived.Deep.RegionHeld3
namespace Go.Proofs.YtmofndckjjbfgaaDoor
open Go.RowKit Go.Sort Go.Lib
set_option linter.unusedVariables false
set_option maxRecDepth 100000

theorem tens_at (v : Int) (u : Nat) (hv : v = u) (w : World) (hu64 : u < 4294967296) (htab : Tab w) :
    Calls Tryd.prog 48 #[.int .u32 v] w fun e w' => e = .returned (.string ⟨(Lib.decDigits u).toArray⟩) ∧ Gr w w' := by
  subst hv; exact tens_any u w hu64 htab
theorem dec_len (u : Nat) (h : u < 256) : (Lib.decDigits u).length ≤ 3 := by
  rw [Lib.decDigits_length]
  by_cases h1 : u < 10
  · rw [Lib.nDigits_small h1]; omega
  · rw [Lib.nDigits_big h1]
    by_cases h2 : u / 10 < 10
    · rw [Lib.nDigits_small h2]; omega
    · rw [Lib.nDigits_big h2, Lib.nDigits_small (by omega)]; omega
/-- The text of an address. -/
def dot (a : Nat) : List UInt8 := Lib.decDigits (a / 16777216) ++ 46 :: (Lib.decDigits (a / 65536 % 256) ++ 46 :: (Lib.decDigits (a / 256 % 256) ++ 46 :: Lib.decDigits (a % 256)))
theorem shr_at (a k : Nat) (ha : a < 4294967296) : bits .and .u32 ((a : Int) / 2 ^ k) 255 = ((a / 2 ^ k % 256 : Nat) : Int) := by
  have h : (a / 2 ^ k) ≤ a := Nat.div_le_self _ _
  have e : ((a : Int) / 2 ^ k) = ((a / 2 ^ k : Nat) : Int) := by
    rw [Int.natCast_ediv, Int.natCast_pow]; rfl
  rw [e]
  have := u32_and_nat (a / 2 ^ k) 255 (by omega) (by omega)
  rw [nat_mask8] at this
  exact this

theorem shr16 (a : Nat) (ha : a < 4294967296) : bits .and .u32 ((a : Int) / 65536) 255 = ((a / 65536 % 256 : Nat) : Int) := shr_at a 16 ha
theorem shr8 (a : Nat) (ha : a < 4294967296) : bits .and .u32 ((a : Int) / 256) 255 = ((a / 256 % 256 : Nat) : Int) := shr_at a 8 ha
theorem shr0 (a : Nat) (ha : a < 4294967296) : bits .and .u32 (a : Int) 255 = ((a % 256 : Nat) : Int) := by
  have := u32_and_nat a 255 ha (by omega)
  rw [nat_mask8] at this
  exact this
theorem str_eq {x y : List UInt8} {b : ByteArray} (hb : b = ⟨x.toArray⟩) (h : x = y) : Ending.returned (.string b) = .returned (.string ⟨y.toArray⟩) := by rw [hb, h]

set_option maxHeartbeats 400000 in
theorem dotted_any (a : Nat) (w : World) (ha : a < 4294967296) (htab : Tab w) :
    Calls Tryd.prog 34 #[.int .u32 (a : Int)] w fun e w' => e = .returned (.string ⟨(dot a).toArray⟩) ∧ Gr w w' := by
  have l1 := dec_len (a / 16777216) (by omega)
  have l2 := dec_len (a / 65536 % 256) (by omega)
  have l3 := dec_len (a / 256 % 256) (by omega)
  have l4 := dec_len (a % 256) (by omega)
  have hD : Hid (dot a = Lib.decDigits (a / 16777216) ++ 46 :: (Lib.decDigits (a / 65536 % 256) ++ 46 :: (Lib.decDigits (a / 256 % 256) ++ 46 :: Lib.decDigits (a % 256)))) := rfl
  generalize dot a = D at hD ⊢
  have s1 : Hid _ := shr16 a ha
  have s2 : Hid _ := shr8 a ha
  have s3 : Hid _ := shr0 a ha
  have s0 : Hid ((a : Int) / 16777216 = ((a / 16777216 : Nat) : Int)) := by show _ = _; omega
  have b1 : a / 16777216 < 4294967296 := by omega
  have b2 : a / 65536 % 256 < 4294967296 := by omega
  have b3 : a / 256 % 256 < 4294967296 := by omega
  have b4 : a % 256 < 4294967296 := by omega
  revert l1 l2 l3 l4 hD s1 s2 s3 s0 b1 b2 b3 b4
  generalize a / 16777216 = u1
  generalize a / 65536 % 256 = u2
  generalize a / 256 % 256 = u3
  generalize a % 256 = u4
  intro l1 l2 l3 l4 hD s1 s2 s3 s0 b1 b2 b3 b4
  have m1 : (Lib.decDigits u1).length = (Lib.decDigits u1).length := rfl
  revert l1 l2 l3 l4 hD
  generalize hq1 : Lib.decDigits u1 = d1
  generalize hq2 : Lib.decDigits u2 = d2
  generalize hq3 : Lib.decDigits u3 = d3
  generalize hq4 : Lib.decDigits u4 = d4
  intro l1 l2 l3 l4 hD
  have Q1 : Hid _ := hq1
  have Q2 : Hid _ := hq2
  have Q3 : Hid _ := hq3
  have Q4 : Hid _ := hq4
  clear hq1 hq2 hq3 hq4 m1
  go_enter Tryd.func34, Tryd.ntmps34
  go_wp2_with fail
  refine (tens_at _ u1 s0.out _ b1 htab).mono ?_
  rintro e w1 ⟨rfl, hg1⟩
  rw [Q1.out]
  go_wp2_with fail
  refine wp_loop_rounds 4 ?_
  rw [rounds_succ]
  go_wp2_with fail
  refine (tens_at _ u2 s1.out _ b2 (htab.gr hg1)).mono ?_
  rintro e w2 ⟨rfl, hg2⟩
  rw [Q2.out]
  go_wp2_with fail
  rw [rounds_succ]
  go_wp2_with fail
  refine (tens_at _ u3 s2.out _ b3 (htab.gr (hg1.trans hg2))).mono ?_
  rintro e w3 ⟨rfl, hg3⟩
  rw [Q3.out]
  go_wp2_with fail
  rw [rounds_succ]
  go_wp2_with fail
  refine (tens_at _ u4 s3.out _ b4 (htab.gr ((hg1.trans hg2).trans hg3))).mono ?_
  rintro e w4 ⟨rfl, hg4⟩
  rw [Q4.out]
  go_wp2_with fail
  rw [rounds_succ]
  go_wp2_with fail
  go_ret
  refine ⟨str_eq (x := d1 ++ ([46] ++ d2) ++ ([46] ++ d3) ++ ([46] ++ d4)) ?_ ?_, ((hg1.trans hg2).trans hg3).trans hg4⟩
  · rw [← ByteArray.mk_append_mk, ← ByteArray.mk_append_mk, ← ByteArray.mk_append_mk, ← ByteArray.mk_append_mk, ← ByteArray.mk_append_mk, ← ByteArray.mk_append_mk]
  · rw [hD.out]; simp

theorem dot_len (a : Nat) (ha : a < 4294967296) : (dot a).length ≤ 15 := by
  have l1 := dec_len (a / 16777216) (by omega)
  have l2 := dec_len (a / 65536 % 256) (by omega)
  have l3 := dec_len (a / 256 % 256) (by omega)
  have l4 := dec_len (a % 256) (by omega)
  simp [dot]; omega
/-- The text of a prefix. -/
def ptx (a n : Nat) : List UInt8 := dot a ++ 47 :: Lib.decDigits n

theorem add_runs (x y : ByteArray) (hx : x.size ≤ 8388608) (hy : y.size ≤ 8388608) : ∀ w, (Op.stringOp .add x y).run Tryd.prog w = .ok (.string (x ++ y)) w := fun w => run_string_add_sum w x y (by omega)

set_option maxHeartbeats 400000 in
theorem text_yes (a n : Nat) (w : World) (ha : a < 4294967296) (hp : pis a n = true) (htab : Tab w) :
    Calls Tryd.prog 36 #[.agg #[.int .u32 (a : Int), .int .u8 (n : Int)]] w fun e w' => e = .returned (.string ⟨(ptx a n).toArray⟩) ∧ Gr w w' := by
  have hn : n ≤ 32 := by have := (pis_iff.1 hp).1; omega
  have l1 := dot_len a ha
  have l2 := dec_len n (by omega)
  have n0 : (0 : Int) ≤ (n : Int) := by omega
  have n1 : (n : Int) < 4294967296 := by omega
  have hs1 := add_runs (ByteArray.mk (dot a).toArray) (ByteArray.mk #[47]) (by rw [ByteArray.size_mk']; simp; omega) (by decide)
  have hs2 := add_runs (ByteArray.mk (dot a).toArray ++ ByteArray.mk #[47]) (ByteArray.mk (Lib.decDigits n).toArray) (by rw [ByteArray.size_append', ByteArray.size_mk', ByteArray.size_mk']; simp; omega) (by rw [ByteArray.size_mk']; simp; omega)
  go_enter Tryd.func36, Tryd.ntmps36
  go_wp2_with (go_at_call 13; refine (check_yes _ _ _ (by omega) (by omega) (by omega) hp).mono ?_; rintro e w1 ⟨rfl, hg1⟩)
  have hT : Hid (Tab w1) := htab.gr ((Gr.one _ _).trans hg1)
  have hP := hg1.px (Px.new w a n 24)
  have k0 := hP.1
  have k1 := hP.2
  have HG : Hid (Gr w w1) := (Gr.one _ _).trans hg1
  clear hg1 hP htab
  go_region_held3 (fun w' => w'.cell? ⟨w.heap.size, 0, none⟩ = some (.int .u32 (a : Int)) ∧ w'.cell? ⟨w.heap.size, 1, none⟩ = some (.int .u8 (n : Int))) (go_keep) (first
    | (go_at_call 34; refine (dotted_any a _ ha (by exact hT.out)).mono ?_; rintro e w2 ⟨rfl, hg2⟩; have hP2 := hg2.px (b := w.heap.size) (a := a) (n := n) ⟨k0, k1⟩; have k2 := hP2.1; have k3 := hP2.2; clear hP2)
    | (go_at_call 48; refine (tens_at _ n (IntKind.wrap_u32' n ▸ (by omega)) _ (by omega) (by exact hg2.tab hT.out)).mono ?_; rintro e w3 ⟨rfl, hg3⟩; have hP2 := hg3.px (b := w.heap.size) (a := a) (n := n) ⟨k2, k3⟩; have k4 := hP2.1; have k5 := hP2.2; clear hP2))
  go_wp2
  go_ret
  refine ⟨str_eq (x := dot a ++ [47] ++ Lib.decDigits n) ?_ (by simp [ptx]), (HG.out.drew.trans hg2).trans hg3⟩
  rw [← ByteArray.mk_append_mk, ← ByteArray.mk_append_mk]

set_option maxHeartbeats 400000 in
theorem text_no (a n : Nat) (w : World) (ha : a < 4294967296) (hp : pis a n = false) :
    Calls Tryd.prog 36 #[.agg #[.int .u32 (a : Int), .int .u8 (n : Int)]] w fun e w' => e = .returned (.string ⟨#[]⟩) ∧ Gr w w' := by
  go_enter Tryd.func36, Tryd.ntmps36
  go_wp2_with (go_at_call 13; refine (check_no _ _ _ (by omega) (by omega) (by omega) hp).mono ?_; rintro e w1 ⟨rfl, hg1⟩)
  go_ret
  exact ⟨rfl, (Gr.one _ _).trans hg1⟩
end Go.Proofs.YtmofndckjjbfgaaDoor
