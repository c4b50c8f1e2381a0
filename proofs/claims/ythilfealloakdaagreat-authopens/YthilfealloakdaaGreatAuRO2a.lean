/- The document: kind, plainly, password. -/
import Derived.Test.YthilfealloakdaaGreatAuMay
import Derived.Test.YthilfealloakdaaGreatRefPk
import Derived.Test.YthilfealloakdaaGreatCutB
import Derived.Test.YthilfealloakdaaGreatDigBuf
import Derived.Deep.LoopGhost
import Derived.Test.YthilfealloakdaaGreatAuPure
import Derived.Test.YthilfealloakdaaGreatParts
namespace Go.Proofs.YthilfealloakdaaGreat
open Go.RowKit
set_option linter.unusedVariables false
set_option maxRecDepth 100000

theorem kind_two {rs : List Int} (h : 16 ≤ rs.length) : kindB rs = 256 * rs.getD 14 0 + rs.getD 15 0 := by
  unfold kindB
  have e : (rs.drop 14).take 2 = [rs.getD 14 0, rs.getD 15 0] := by
    rw [List.drop_eq_getElem_cons (show 14 < rs.length by omega), List.drop_eq_getElem_cons (show 14 + 1 < rs.length by omega), List.take_succ_cons, List.take_succ_cons, List.take_zero]
    simp [List.getD, show 14 < rs.length by omega, show 15 < rs.length by omega]
  rw [e]
  simp [numOf]
set_option maxHeartbeats 1000000 in
theorem rkind_any (v : Value) (rs : List Int) (w : World) (hv : ArgAt w v rs) (hby : ∀ z ∈ rs, 0 ≤ z ∧ z < 256) (hl : 24 ≤ rs.length) :
    Calls Tryz.prog 29 #[v] w fun e w' => e = .returned (.int .i64 (kindB rs)) ∧ Touch (fun _ => False) w w' := by
  rw [kind_two (by omega)]
  have hr := hv.row (by omega)
  obtain ⟨va, vc, rfl, -⟩ := hv.form
  obtain ⟨ga, oa, rfl⟩ := rowAt_some hr (by omega)
  have c14 := rowAt_cell hr 14 (by omega)
  have c15 := rowAt_cell hr 15 (by omega)
  have b14 := getD_byte hby 14
  have b15 := getD_byte hby 15
  have hl14 : (14 : Int) < (rs.length : Int) := by omega
  have hl15 : (15 : Int) < (rs.length : Int) := by omega
  clear hv hr hby
  generalize rs.getD 14 0 = X at *
  generalize rs.getD 15 0 = Y at *
  have hw1 : IntKind.i64.wrap X = X := by simp [IntKind.wrap, IntKind.bits, IntKind.signed]; omega
  have hw2 : IntKind.i64.wrap Y = Y := by simp [IntKind.wrap, IntKind.bits, IntKind.signed]; omega
  have hw3 : wrap64 (256 * X) = 256 * X := by unfold wrap64; omega
  have hw4 : wrap64 (256 * X + Y) = 256 * X + Y := by unfold wrap64; omega
  go_enter Tryz.func29, Tryz.ntmps29
  go_wp2_with fail
  go_region
  go_wp2_with fail
  go_ret
  exact ⟨by go_num, (Touch.refl _ _).drew⟩
set_option maxHeartbeats 1000000 in
theorem plainly_any (v : Value) (rs : List Int) (n : Nat) (w : World) (hv : ArgAt w v rs) (hby : ∀ z ∈ rs, 0 ≤ z ∧ z < 256) (hn : n ≤ 65536) (hnr : n ≤ rs.length) :
    Calls Tryz.prog 31 #[v, .int .i64 (n : Int)] w fun e w' => e = .returned (.int .i64 (wholeE rs n)) ∧ Touch (fun _ => False) w w' := by
  obtain ⟨va, vc, rfl, -⟩ := hv.form
  by_cases h1 : rs.length = n
  · subst h1
    have HR := dright_any _ rs w hv hby (by omega)
    have HE : Hid (wholeE rs rs.length = if pRight rs = false then 23 else 0) := by show _ = _; unfold wholeE; rw [if_neg (by omega)]
    generalize wholeE rs rs.length = EE at *
    generalize pRight rs = PR at *
    clear hv hby
    cases PR
    · obtain rfl : EE = 23 := HE.out
      go_enter Tryz.func31, Tryz.ntmps31
      go_wp2_with fail
      refine HR.mono ?_
      rintro e w1 ⟨rfl, t1⟩
      go_wp2_with fail
      go_ret
      exact ⟨rfl, t1⟩
    · obtain rfl : EE = 0 := HE.out
      go_enter Tryz.func31, Tryz.ntmps31
      go_wp2_with fail
      refine HR.mono ?_
      rintro e w1 ⟨rfl, t1⟩
      go_wp2_with fail
      go_ret
      exact ⟨rfl, t1⟩
  · have h1' : ¬ (rs.length : Int) = (n : Int) := by omega
    have hb : ((rs.length : Int) != (n : Int)) = true := by simpa using h1'
    rw [show wholeE rs n = 22 by unfold wholeE; rw [if_pos (by omega)]]
    clear hv hby
    go_enter Tryz.func31, Tryz.ntmps31
    go_wp2_with fail
    go_ret
    exact ⟨rfl, Touch.refl _ _⟩
structure PwR (w : World) (sec : List Int) (s3 : Value) (wr : World) : Prop where
  out : ∃ (j : Nat) (a : Option Addr) (c : Nat), (j = 0 ∨ sec.length + j ≤ 8) ∧ s3 = .slice a (sec.length + j) c ∧ Buf w wr s3 (sec ++ List.replicate j 0)
def lenV : Value → Nat
  | .slice _ n _ => n
  | _ => 0
set_option maxHeartbeats 1000000 in
theorem rpass_any (x : KE) (w : World) (ok : x.Ok w) (hp : x.p.sec.length ≤ 1000000) :
    Calls Tryz.prog 33 #[x.agg] w fun e w' => ∃ v', e = .returned v' ∧ ArgAt w' v' (passB x.p.sec) ∧ Touch (fun _ => False) w w' := by
  go_enter Tryz.func33, Tryz.ntmps33
  go_upto_region 2 with fail
  have r0 := kbox_new w x.p.id x.p.kind x.a x.p.sec.length x.c x.p.sf x.p.su x.p.tf x.p.tu
  have t0 : Touch (fun _ => False) w (w.alloc (.cells #[.int .u8 x.p.id, .int .u16 x.p.kind, .slice x.a x.p.sec.length x.c, .int .i64 x.p.sf, .int .i64 x.p.su, .int .i64 x.p.tf, .int .i64 x.p.tu] 59)) := (Touch.refl _ _).alloc _
  have OX := ok.keep t0
  have BN : Hid (Buf w (w.alloc (.cells #[.int .u8 x.p.id, .int .u16 x.p.kind, .slice x.a x.p.sec.length x.c, .int .i64 x.p.sf, .int .i64 x.p.su, .int .i64 x.p.tf, .int .i64 x.p.tu] 59)) (.slice none 0 0) []) := Buf.nil t0
  generalize w.alloc (.cells #[.int .u8 x.p.id, .int .u16 x.p.kind, .slice x.a x.p.sec.length x.c, .int .i64 x.p.sf, .int .i64 x.p.su, .int .i64 x.p.tf, .int .i64 x.p.tu] 59) = wa at r0 t0 OX BN ⊢
  generalize w.heap.size = ob at r0 ⊢
  have c2 := r0.c2
  have HA : Hid (ArgAt wa x.sv x.p.sec) := OX.arg
  clear r0 OX ok
  go_wp2_with (at_builtin; refine app_arg rfl (.tmp 4) (.tmp 6) rfl w _ [] rfl BN.out _ x.p.sec rfl HA.out (by simp; omega) ?_; intro p2 w2 b2)
  obtain ⟨pa, pc, ep⟩ := b2.form
  have HR : Hid (PwR w x.p.sec p2 w2) := ⟨0, pa, pc, Or.inl rfl, by rw [ep]; simp, by simpa using b2⟩
  clear b2 HA BN c2 ep
  go_loopw [3] (fun p wx => PwR w x.p.sec p wx) (fun p _ => 8 - lenV p)
  case atStart => exact HR.out
  case round =>
    clear HR
    obtain ⟨j, a, c, hj, rfl, hb⟩ := hrel.out
    have HB : Hid _ := hb
    clear hb hrel
    by_cases hlt : x.p.sec.length + j < 8
    · have hlt' : ((x.p.sec.length + j : Nat) : Int) < 8 := by omega
      have HX : Hid ((x.p.sec ++ List.replicate j 0) ++ [(0 : Int)] = x.p.sec ++ List.replicate (j + 1) 0) := by show _ = _; rw [List.append_assoc, ← List.replicate_succ']
      have hln : (x.p.sec ++ List.replicate j (0 : Int)).length ≤ 16 := by rw [List.length_append, List.length_replicate]; omega
      go_wp2_with (at_builtin; refine app_one rfl (.tmp 11) (.tmp 12) rfl w _ _ rfl HB.out 0 rfl (by omega) ?_; intro p4 w4 hb4)
      rw [HX.out] at hb4
      obtain ⟨a4, c4, e4⟩ := hb4.form
      rw [List.length_append, List.length_replicate] at e4
      subst e4
      go_roundw
      case rel => exact ⟨j + 1, a4, c4, Or.inr (by omega), rfl, hb4⟩
      case measure => simp [lenV]; omega
    · have hlt' : ¬ ((x.p.sec.length + j : Nat) : Int) < 8 := by omega
      have hl8 : 8 ≤ x.p.sec.length + j := by omega
      have hll : (x.p.sec ++ List.replicate j (0 : Int)).length = x.p.sec.length + j := by rw [List.length_append, List.length_replicate]
      have hr := HB.out.row
      obtain ⟨ga, oa, rfl⟩ := rowAt_some hr (by omega)
      obtain ⟨-, hc1, hc2⟩ := cap_of hr
      unfold maxLen at hc2
      have hc8 : (8 : Int) ≤ (c : Int) := by omega
      have ua := (take_row hr 8 (by omega)).arg
      have HT : Hid (Touch (fun _ => False) w wr) := HB.out.t
      have HE : Hid (ArgAt wr (.slice (some ⟨ga, oa, none⟩) 8 c) (passB x.p.sec)) := by
        have e : (x.p.sec ++ List.replicate j (0 : Int)).take 8 = passB x.p.sec := by
          unfold passB
          rw [List.take_append, List.take_replicate]
          congr 2
          omega
        rw [e] at ua
        exact ua
      clear ua hr HB hll
      go_wp2_with fail
      go_ret
      exact ⟨_, rfl, HE.out, HT.out⟩
end Go.Proofs.YthilfealloakdaaGreat

namespace Go.Proofs.YthilfealloakdaaGreat
open Go.RowKit
set_option linter.unusedVariables false

theorem data_eight {rs : List Int} (h : 24 ≤ rs.length) : dataB rs = [rs.getD 16 0, rs.getD 17 0, rs.getD 18 0, rs.getD 19 0, rs.getD 20 0, rs.getD 21 0, rs.getD 22 0, rs.getD 23 0] := by
  unfold dataB
  apply List.ext_getElem?
  intro i
  rw [List.getElem?_take, List.getElem?_drop]
  by_cases hi : i < 8
  · rw [if_pos hi, List.getElem?_eq_getElem (by omega)]
    match i, hi with
    | 0, _ => simp [List.getD, show 16 < rs.length by omega]
    | 1, _ => simp [List.getD, show 17 < rs.length by omega]
    | 2, _ => simp [List.getD, show 18 < rs.length by omega]
    | 3, _ => simp [List.getD, show 19 < rs.length by omega]
    | 4, _ => simp [List.getD, show 20 < rs.length by omega]
    | 5, _ => simp [List.getD, show 21 < rs.length by omega]
    | 6, _ => simp [List.getD, show 22 < rs.length by omega]
    | 7, _ => simp [List.getD, show 23 < rs.length by omega]
  · rw [if_neg hi]
    symm
    rw [List.getElem?_eq_none_iff]
    simp
    omega
theorem mark_iff {a0 a1 a2 a3 a4 a5 a6 a7 : Int} (h : ∀ z ∈ [a0, a1, a2, a3, a4, a5, a6, a7], 0 ≤ z ∧ z < 256) :
    [a0, a1, a2, a3, a4, a5, a6, a7] = markB (markId [a0, a1, a2, a3, a4, a5, a6, a7]) (markSeq [a0, a1, a2, a3, a4, a5, a6, a7]) ↔ a0 = 0 ∧ a1 = 0 ∧ a3 = 16 := by
  have e2 : markId [a0, a1, a2, a3, a4, a5, a6, a7] = a2 := by simp [markId, numOf]
  have e3 : markSeq [a0, a1, a2, a3, a4, a5, a6, a7] = numOf [a4, a5, a6, a7] := by simp [markSeq]
  rw [e2, e3]
  unfold markB
  rw [numBytes_four a4 a5 a6 a7 (h _ (by simp)) (h _ (by simp)) (h _ (by simp)) (h _ (by simp))]
  simp
theorem mark_id {a0 a1 a2 a3 a4 a5 a6 a7 : Int} : markId [a0, a1, a2, a3, a4, a5, a6, a7] = a2 := by simp [markId, numOf]
theorem mark_seq {a0 a1 a2 a3 a4 a5 a6 a7 : Int} : markSeq [a0, a1, a2, a3, a4, a5, a6, a7] = 16777216 * a4 + 65536 * a5 + 256 * a6 + a7 := by
  simp [markSeq, numOf]
  omega
def rdN (b : List Int) (n : Int) (d : List Int) (ks : List AKP) (now : Int) : Int := if openDgE b n d ks now = 0 then n else 0
structure DgR (ks : List KE) (w : World) (f : KE → Bool) (gg : Nat) (s11 : Value) (wr : World) : Prop where
  out : ∃ k : Nat, k ≤ ks.length ∧ ks.length - k ≤ gg ∧ s11 = .int .i64 k ∧ Touch (fun _ => False) w wr ∧ ∀ j x, j < k → ks[j]? = some x → f x = false
theorem any_false {ks : List KE} {f : KE → Bool} (h : ∀ (j : Nat) x, j < ks.length → ks[j]? = some x → f x = false) : ks.any f = false := by
  rw [Bool.eq_false_iff]
  intro h1
  obtain ⟨x, hx, h2⟩ := List.any_eq_true.1 h1
  obtain ⟨i, hi, e⟩ := List.mem_iff_getElem.1 hx
  rw [h i x hi (by rw [List.getElem?_eq_getElem hi, e])] at h2
  cases h2
theorem digAny_map (ks : List KE) (now : Int) (b : List Int) (n id : Int) : digAny (pureL ks) now b n id = ks.any (fun x => x.p.takes now && digK b n x.p id) := by
  unfold digAny
  rw [List.any_map]
  rfl
theorem or_up (X Y i M : Nat) (hM : 2 ^ i = M) (h : Y < M) : X * M ||| Y = X * M + Y := by
  have := Nat.shiftLeft_add_eq_or_of_lt (i := i) (b := Y) (by rw [hM]; exact h) X
  rw [Nat.shiftLeft_eq, hM] at this
  exact this.symm
theorem or_four (A B C D : Nat) (hB : B < 256) (hC : C < 256) (hD : D < 256) : ((A * 16777216 ||| B * 65536) ||| C * 256) ||| D = A * 16777216 + B * 65536 + C * 256 + D := by
  have e1 : A * 16777216 ||| B * 65536 = A * 16777216 + B * 65536 := or_up A (B * 65536) 24 16777216 (by simp only [Nat.reducePow]) (by omega)
  have h2 : (A * 256 + B) * 65536 = A * 16777216 + B * 65536 := by simp only [Nat.add_mul, Nat.mul_assoc, Nat.reduceMul]
  have e2 : (A * 256 + B) * 65536 ||| C * 256 = (A * 256 + B) * 65536 + C * 256 := or_up (A * 256 + B) (C * 256) 16 65536 (by simp only [Nat.reducePow]) (by omega)
  have h3 : (A * 65536 + B * 256 + C) * 256 = (A * 256 + B) * 65536 + C * 256 := by simp only [Nat.add_mul, Nat.mul_assoc, Nat.reduceMul]
  have e3 : (A * 65536 + B * 256 + C) * 256 ||| D = (A * 65536 + B * 256 + C) * 256 + D := or_up (A * 65536 + B * 256 + C) D 8 256 (by simp only [Nat.reducePow]) (by omega)
  rw [e1, ← h2, e2, ← h3, e3]
theorem bits_four {a b c d : Int} (ha : 0 ≤ a ∧ a < 256) (hb : 0 ≤ b ∧ b < 256) (hc : 0 ≤ c ∧ c < 256) (hd : 0 ≤ d ∧ d < 256) : bits .or .u32 (bits .or .u32 (bits .or .u32 (a * 16777216) (b * 65536)) (c * 256)) d = 16777216 * a + 65536 * b + 256 * c + d := by
  obtain ⟨A, rfl⟩ : ∃ A : Nat, a = A := ⟨a.toNat, by omega⟩
  obtain ⟨B, rfl⟩ : ∃ B : Nat, b = B := ⟨b.toNat, by omega⟩
  obtain ⟨C, rfl⟩ : ∃ C : Nat, c = C := ⟨c.toNat, by omega⟩
  obtain ⟨D, rfl⟩ : ∃ D : Nat, d = D := ⟨d.toNat, by omega⟩
  have hA : A < 256 := by omega
  have hB : B < 256 := by omega
  have hC : C < 256 := by omega
  have hD : D < 256 := by omega
  have l1 : A * 16777216 < 4294967296 := by
    have := Nat.mul_lt_mul_of_lt_of_le hA (Nat.le_refl 16777216) (by decide)
    simpa only [Nat.reduceMul] using this
  have l2 : B * 65536 < 4294967296 := by
    have := Nat.mul_lt_mul_of_lt_of_le hB (Nat.le_refl 65536) (by decide)
    simp only [Nat.reduceMul] at this
    exact Nat.lt_of_lt_of_le this (by decide)
  have l3 : C * 256 < 4294967296 := by
    have := Nat.mul_lt_mul_of_lt_of_le hC (Nat.le_refl 256) (by decide)
    simp only [Nat.reduceMul] at this
    exact Nat.lt_of_lt_of_le this (by decide)
  have l4 : D < 4294967296 := Nat.lt_of_lt_of_le hD (by decide)
  have x1 : A * 16777216 ||| B * 65536 < 4294967296 := Nat.or_lt_two_pow (n := 32) l1 l2
  have x2 : (A * 16777216 ||| B * 65536) ||| C * 256 < 4294967296 := Nat.or_lt_two_pow (n := 32) x1 l3
  rw [show (A : Int) * 16777216 = ((A * 16777216 : Nat) : Int) from (Int.natCast_mul A 16777216).symm, show (B : Int) * 65536 = ((B * 65536 : Nat) : Int) from (Int.natCast_mul B 65536).symm, show (C : Int) * 256 = ((C * 256 : Nat) : Int) from (Int.natCast_mul C 256).symm, bor l1 l2, bor x1 l3, bor x2 l4, or_four A B C D hB hC hD]
  rw [Int.natCast_add, Int.natCast_add, Int.natCast_add, Int.natCast_mul, Int.natCast_mul, Int.natCast_mul, Int.mul_comm (A : Int), Int.mul_comm (B : Int), Int.mul_comm (C : Int)]
  rfl
end Go.Proofs.YthilfealloakdaaGreat

namespace Go.Proofs.YthilfealloakdaaGreat
open Go.RowKit
set_option linter.unusedVariables false
set_option maxRecDepth 100000

set_option maxHeartbeats 400000 in
theorem rdig_a (ga oa n vc nn : Nat) (vk : Value) (now : Int) (w : World) (hn : (24 : Int) ≤ (n : Int)) (G : Int) (hb : (G != 0) = true) (c16 : w.cell? ⟨ga, oa + 16, none⟩ = some (.int .u8 G)) :
    Calls Tryz.prog 30 #[.slice (some ⟨ga, oa, none⟩) n vc, .int .i64 (nn : Int), vk, .int .i64 now] w fun e w' => e = .returned (.tuple #[.int .u32 0, .int .i64 0, .int .i64 24]) ∧ Touch (fun _ => False) w w' := by
  go_enter Tryz.func30, Tryz.ntmps30
  go_wp2_with fail
  go_ret3
  exact ⟨rfl, Touch.refl _ _⟩
set_option maxHeartbeats 400000 in
theorem rdig_b (ga oa n vc nn : Nat) (vk : Value) (now : Int) (w : World) (hn : (24 : Int) ≤ (n : Int)) (G : Int) (hb : (G != 0) = true) (c16 : w.cell? ⟨ga, oa + 16, none⟩ = some (.int .u8 0)) (c17 : w.cell? ⟨ga, oa + 17, none⟩ = some (.int .u8 G)) :
    Calls Tryz.prog 30 #[.slice (some ⟨ga, oa, none⟩) n vc, .int .i64 (nn : Int), vk, .int .i64 now] w fun e w' => e = .returned (.tuple #[.int .u32 0, .int .i64 0, .int .i64 24]) ∧ Touch (fun _ => False) w w' := by
  go_enter Tryz.func30, Tryz.ntmps30
  go_wp2_with fail
  go_ret3
  exact ⟨rfl, Touch.refl _ _⟩
set_option maxHeartbeats 400000 in
theorem rdig_c (ga oa n vc nn : Nat) (vk : Value) (now : Int) (w : World) (hn : (24 : Int) ≤ (n : Int)) (G : Int) (hb : (G != 16) = true) (c16 : w.cell? ⟨ga, oa + 16, none⟩ = some (.int .u8 0)) (c17 : w.cell? ⟨ga, oa + 17, none⟩ = some (.int .u8 0)) (c19 : w.cell? ⟨ga, oa + 19, none⟩ = some (.int .u8 G)) :
    Calls Tryz.prog 30 #[.slice (some ⟨ga, oa, none⟩) n vc, .int .i64 (nn : Int), vk, .int .i64 now] w fun e w' => e = .returned (.tuple #[.int .u32 0, .int .i64 0, .int .i64 24]) ∧ Touch (fun _ => False) w w' := by
  go_enter Tryz.func30, Tryz.ntmps30
  go_wp2_with fail
  go_ret3
  exact ⟨rfl, Touch.refl _ _⟩
set_option maxHeartbeats 400000 in
theorem rdig_d (ga oa n vc nn : Nat) (vk : Value) (now : Int) (w : World) (hn : (24 : Int) ≤ (n : Int)) (hs : nn ≤ 1000000) (hb : ((n : Int) != (nn : Int) + 16) = true) (c16 : w.cell? ⟨ga, oa + 16, none⟩ = some (.int .u8 0)) (c17 : w.cell? ⟨ga, oa + 17, none⟩ = some (.int .u8 0)) (c19 : w.cell? ⟨ga, oa + 19, none⟩ = some (.int .u8 16)) :
    Calls Tryz.prog 30 #[.slice (some ⟨ga, oa, none⟩) n vc, .int .i64 (nn : Int), vk, .int .i64 now] w fun e w' => e = .returned (.tuple #[.int .u32 0, .int .i64 0, .int .i64 22]) ∧ Touch (fun _ => False) w w' := by
  have hw16 : wrap64 ((nn : Int) + 16) = (nn : Int) + 16 := by unfold wrap64; omega
  go_enter Tryz.func30, Tryz.ntmps30
  go_wp2_with fail
  go_ret3
  exact ⟨rfl, Touch.refl _ _⟩
end Go.Proofs.YthilfealloakdaaGreat
