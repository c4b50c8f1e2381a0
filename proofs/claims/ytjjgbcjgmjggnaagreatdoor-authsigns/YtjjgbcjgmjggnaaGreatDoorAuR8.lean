/- The document: kind, plainly, password. -/
import Derived.Test.YtjjgbcjgmjggnaaGreatDoorAuMay
import Derived.Test.YtjjgbcjgmjggnaaGreatDoorRefPk
import Derived.Test.YtjjgbcjgmjggnaaGreatDoorHeadV
import Derived.Test.YtjjgbcjgmjggnaaGreatDoorDigBuf
import Derived.Deep.LoopGhost
import Derived.Test.YtjjgbcjgmjggnaaGreatDoorAuChk
import Derived.Test.YtjjgbcjgmjggnaaGreatDoorDigRow
import Derived.Deep.DeepCutAuto
namespace Go.Proofs.YtjjgbcjgmjggnaaGreatDoor
open Go.RowKit
set_option linter.unusedVariables false
set_option maxRecDepth 100000

theorem kind_two {rs : List Int} (h : 16 ≤ rs.length) : kindB rs = 256 * rs.getD 14 0 + rs.getD 15 0 := by
  unfold kindB
  have e : (rs.drop 14).take 2 = [rs.getD 14 0, rs.getD 15 0] := by
    rw [List.drop_eq_getElem_cons (show 14 < rs.length by omega), List.drop_eq_getElem_cons (show 14 + 1 < rs.length by omega), List.take_succ_cons, List.take_succ_cons, List.take_zero]
    simp [List.getD, show 14 < rs.length by omega, show 15 < rs.length by omega]
  rw [e]
  simp [numOf]
set_option maxHeartbeats 1000000 in
theorem rkind_any (v : Value) (rs : List Int) (w : World) (hv : ArgAt w v rs) (hby : ∀ z ∈ rs, 0 ≤ z ∧ z < 256) (hl : 24 ≤ rs.length) :
    Calls Tryz.prog 24 #[v] w fun e w' => e = .returned (.int .i64 (kindB rs)) ∧ Touch (fun _ => False) w w' := by
  rw [kind_two (by omega)]
  have hr := hv.row (by omega)
  obtain ⟨va, vc, rfl, -⟩ := hv.form
  obtain ⟨ga, oa, rfl⟩ := rowAt_some hr (by omega)
  have c14 := rowAt_cell hr 14 (by omega)
  have c15 := rowAt_cell hr 15 (by omega)
  have b14 := getD_byte hby 14
  have b15 := getD_byte hby 15
  have hl14 : (14 : Int) < (rs.length : Int) := by omega
  have hl15 : (15 : Int) < (rs.length : Int) := by omega
  clear hv hr hby
  generalize rs.getD 14 0 = X at *
  generalize rs.getD 15 0 = Y at *
  have hw1 : IntKind.i64.wrap X = X := by simp [IntKind.wrap, IntKind.bits, IntKind.signed]; omega
  have hw2 : IntKind.i64.wrap Y = Y := by simp [IntKind.wrap, IntKind.bits, IntKind.signed]; omega
  have hw3 : wrap64 (256 * X) = 256 * X := by unfold wrap64; omega
  have hw4 : wrap64 (256 * X + Y) = 256 * X + Y := by unfold wrap64; omega
  go_enter Tryz.func24, Tryz.ntmps24
  go_wp2_with fail
  go_region
  go_wp2_with fail
  go_ret
  exact ⟨by go_num, (Touch.refl _ _).drew⟩
structure PwR (w : World) (sec : List Int) (s3 : Value) (wr : World) : Prop where
  out : ∃ (j : Nat) (a : Option Addr) (c : Nat), (j = 0 ∨ sec.length + j ≤ 8) ∧ s3 = .slice a (sec.length + j) c ∧ Buf w wr s3 (sec ++ List.replicate j 0)
def lenV : Value → Nat
  | .slice _ n _ => n
  | _ => 0
set_option maxHeartbeats 1000000 in
theorem rpass_any (x : KE) (w : World) (ok : x.Ok w) (hp : x.p.sec.length ≤ 1000000) :
    Calls Tryz.prog 30 #[x.agg] w fun e w' => ∃ v', e = .returned v' ∧ ArgAt w' v' (passB x.p.sec) ∧ Touch (fun _ => False) w w' := by
  go_enter Tryz.func30, Tryz.ntmps30
  go_upto_region 2 with fail
  have r0 := kbox_new w x.p.id x.p.kind x.a x.p.sec.length x.c x.p.sf x.p.su x.p.tf x.p.tu
  have t0 : Touch (fun _ => False) w (w.alloc (.cells #[.int .u8 x.p.id, .int .u16 x.p.kind, .slice x.a x.p.sec.length x.c, .int .i64 x.p.sf, .int .i64 x.p.su, .int .i64 x.p.tf, .int .i64 x.p.tu] 61)) := (Touch.refl _ _).alloc _
  have OX := ok.keep t0
  have BN : Hid (Buf w (w.alloc (.cells #[.int .u8 x.p.id, .int .u16 x.p.kind, .slice x.a x.p.sec.length x.c, .int .i64 x.p.sf, .int .i64 x.p.su, .int .i64 x.p.tf, .int .i64 x.p.tu] 61)) (.slice none 0 0) []) := Buf.nil t0
  generalize w.alloc (.cells #[.int .u8 x.p.id, .int .u16 x.p.kind, .slice x.a x.p.sec.length x.c, .int .i64 x.p.sf, .int .i64 x.p.su, .int .i64 x.p.tf, .int .i64 x.p.tu] 61) = wa at r0 t0 OX BN ⊢
  generalize w.heap.size = ob at r0 ⊢
  have c2 := r0.c2
  have HA : Hid (ArgAt wa x.sv x.p.sec) := OX.arg
  clear r0 OX ok
  go_wp2_with (at_builtin; refine app_arg rfl (.tmp 4) (.tmp 6) rfl w _ [] rfl BN.out _ x.p.sec rfl HA.out (by simp; omega) ?_; intro p2 w2 b2)
  obtain ⟨pa, pc, ep⟩ := b2.form
  have HR : Hid (PwR w x.p.sec p2 w2) := ⟨0, pa, pc, Or.inl rfl, by rw [ep]; simp, by simpa using b2⟩
  clear b2 HA BN c2 ep
  go_loopw [3] (fun p wx => PwR w x.p.sec p wx) (fun p _ => 8 - lenV p)
  case atStart => exact HR.out
  case round =>
    clear HR
    obtain ⟨j, a, c, hj, rfl, hb⟩ := hrel.out
    have HB : Hid _ := hb
    clear hb hrel
    by_cases hlt : x.p.sec.length + j < 8
    · have hlt' : ((x.p.sec.length + j : Nat) : Int) < 8 := by omega
      have HX : Hid ((x.p.sec ++ List.replicate j 0) ++ [(0 : Int)] = x.p.sec ++ List.replicate (j + 1) 0) := by show _ = _; rw [List.append_assoc, ← List.replicate_succ']
      have hln : (x.p.sec ++ List.replicate j (0 : Int)).length ≤ 16 := by rw [List.length_append, List.length_replicate]; omega
      go_wp2_with (at_builtin; refine app_one rfl (.tmp 11) (.tmp 12) rfl w _ _ rfl HB.out 0 rfl (by omega) ?_; intro p4 w4 hb4)
      rw [HX.out] at hb4
      obtain ⟨a4, c4, e4⟩ := hb4.form
      rw [List.length_append, List.length_replicate] at e4
      subst e4
      go_roundw
      case rel => exact ⟨j + 1, a4, c4, Or.inr (by omega), rfl, hb4⟩
      case measure => simp [lenV]; omega
    · have hlt' : ¬ ((x.p.sec.length + j : Nat) : Int) < 8 := by omega
      have hl8 : 8 ≤ x.p.sec.length + j := by omega
      have hll : (x.p.sec ++ List.replicate j (0 : Int)).length = x.p.sec.length + j := by rw [List.length_append, List.length_replicate]
      have hr := HB.out.row
      obtain ⟨ga, oa, rfl⟩ := rowAt_some hr (by omega)
      obtain ⟨-, hc1, hc2⟩ := cap_of hr
      unfold maxLen at hc2
      have hc8 : (8 : Int) ≤ (c : Int) := by omega
      have ua := (take_row hr 8 (by omega)).arg
      have HT : Hid (Touch (fun _ => False) w wr) := HB.out.t
      have HE : Hid (ArgAt wr (.slice (some ⟨ga, oa, none⟩) 8 c) (passB x.p.sec)) := by
        have e : (x.p.sec ++ List.replicate j (0 : Int)).take 8 = passB x.p.sec := by
          unfold passB
          rw [List.take_append, List.take_replicate]
          congr 2
          omega
        rw [e] at ua
        exact ua
      clear ua hr HB hll
      go_wp2_with fail
      go_ret
      exact ⟨_, rfl, HE.out, HT.out⟩
end Go.Proofs.YtjjgbcjgmjggnaaGreatDoor

namespace Go.Proofs.YtjjgbcjgmjggnaaGreatDoor
open Go.RowKit
set_option linter.unusedVariables false
set_option maxRecDepth 100000

def kmayB (kd : Int) (kn : Nat) (sf su tf tu : Int) : Bool := (spanB sf su && spanB tf tu) && decide (1 ≤ (kn : Int) ∧ (kn : Int) ≤ longN kd)
theorem kmayB_iff {kd : Int} {kn : Nat} {sf su tf tu : Int} : kmayB kd kn sf su tf tu = true ↔ ((0 ≤ sf ∧ sf ≤ su) ∧ (0 ≤ tf ∧ tf ≤ tu)) ∧ 1 ≤ (kn : Int) ∧ (kn : Int) ≤ longN kd := by
  simp [kmayB, spanB]
set_option maxHeartbeats 2000000 in
theorem rmay_1 (w : World) (i : Int) (ka : Option Addr) (kn kc : Nat) (sf su tf tu : Int) :
    Calls Tryz.prog 69 #[.agg #[.int .u8 i, .int .u16 1, .slice ka kn kc, .int .i64 sf, .int .i64 su, .int .i64 tf, .int .i64 tu]] w fun e w' => e = .returned (.bool (kmayB 1 kn sf su tf tu)) ∧ Touch (fun _ => False) w w' := by
  by_cases h8 : (8 : Int) < (kn : Int)
  · rw [show kmayB 1 kn sf su tf tu = false from Bool.eq_false_iff.2 (fun h => by have h := kmayB_iff.1 h; rw [show longN 1 = 8 from rfl] at h; omega)]
    go_enter Tryz.func69, Tryz.ntmps69
    go_wp2
    go_ret
    exact ⟨rfl, (Touch.refl _ _).alloc _⟩
  by_cases h0 : (kn : Int) = 0
  · rw [show kmayB 1 kn sf su tf tu = false from Bool.eq_false_iff.2 (fun h => by have h := kmayB_iff.1 h; rw [show longN 1 = 8 from rfl] at h; omega)]
    go_enter Tryz.func69, Tryz.ntmps69
    go_wp2
    go_ret
    exact ⟨rfl, (Touch.refl _ _).alloc _⟩
  by_cases ha : 0 ≤ sf
  rotate_left
  · rw [show kmayB 1 kn sf su tf tu = false from Bool.eq_false_iff.2 (fun h => by have h := kmayB_iff.1 h; rw [show longN 1 = 8 from rfl] at h; omega)]
    go_enter Tryz.func69, Tryz.ntmps69
    go_wp2
    go_ret
    exact ⟨rfl, (Touch.refl _ _).alloc _⟩
  by_cases hb : sf ≤ su
  rotate_left
  · rw [show kmayB 1 kn sf su tf tu = false from Bool.eq_false_iff.2 (fun h => by have h := kmayB_iff.1 h; rw [show longN 1 = 8 from rfl] at h; omega)]
    go_enter Tryz.func69, Tryz.ntmps69
    go_wp2
    go_ret
    exact ⟨rfl, (Touch.refl _ _).alloc _⟩
  by_cases hc : 0 ≤ tf
  rotate_left
  · rw [show kmayB 1 kn sf su tf tu = false from Bool.eq_false_iff.2 (fun h => by have h := kmayB_iff.1 h; rw [show longN 1 = 8 from rfl] at h; omega)]
    go_enter Tryz.func69, Tryz.ntmps69
    go_wp2
    go_ret
    exact ⟨rfl, (Touch.refl _ _).alloc _⟩
  by_cases hd : tf ≤ tu
  rotate_left
  · rw [show kmayB 1 kn sf su tf tu = false from Bool.eq_false_iff.2 (fun h => by have h := kmayB_iff.1 h; rw [show longN 1 = 8 from rfl] at h; omega)]
    go_enter Tryz.func69, Tryz.ntmps69
    go_wp2
    go_ret
    exact ⟨rfl, (Touch.refl _ _).alloc _⟩
  rw [show kmayB 1 kn sf su tf tu = true from kmayB_iff.2 (by rw [show longN 1 = 8 from rfl]; omega)]
  go_enter Tryz.func69, Tryz.ntmps69
  go_wp2
  go_ret
  exact ⟨rfl, (Touch.refl _ _).alloc _⟩
set_option maxHeartbeats 2000000 in
theorem rmay_2 (w : World) (i : Int) (ka : Option Addr) (kn kc : Nat) (sf su tf tu : Int) :
    Calls Tryz.prog 69 #[.agg #[.int .u8 i, .int .u16 2, .slice ka kn kc, .int .i64 sf, .int .i64 su, .int .i64 tf, .int .i64 tu]] w fun e w' => e = .returned (.bool (kmayB 2 kn sf su tf tu)) ∧ Touch (fun _ => False) w w' := by
  by_cases h8 : (16 : Int) < (kn : Int)
  · rw [show kmayB 2 kn sf su tf tu = false from Bool.eq_false_iff.2 (fun h => by have h := kmayB_iff.1 h; rw [show longN 2 = 16 from rfl] at h; omega)]
    go_enter Tryz.func69, Tryz.ntmps69
    go_wp2
    go_ret
    exact ⟨rfl, (Touch.refl _ _).alloc _⟩
  by_cases h0 : (kn : Int) = 0
  · rw [show kmayB 2 kn sf su tf tu = false from Bool.eq_false_iff.2 (fun h => by have h := kmayB_iff.1 h; rw [show longN 2 = 16 from rfl] at h; omega)]
    go_enter Tryz.func69, Tryz.ntmps69
    go_wp2
    go_ret
    exact ⟨rfl, (Touch.refl _ _).alloc _⟩
  by_cases ha : 0 ≤ sf
  rotate_left
  · rw [show kmayB 2 kn sf su tf tu = false from Bool.eq_false_iff.2 (fun h => by have h := kmayB_iff.1 h; rw [show longN 2 = 16 from rfl] at h; omega)]
    go_enter Tryz.func69, Tryz.ntmps69
    go_wp2
    go_ret
    exact ⟨rfl, (Touch.refl _ _).alloc _⟩
  by_cases hb : sf ≤ su
  rotate_left
  · rw [show kmayB 2 kn sf su tf tu = false from Bool.eq_false_iff.2 (fun h => by have h := kmayB_iff.1 h; rw [show longN 2 = 16 from rfl] at h; omega)]
    go_enter Tryz.func69, Tryz.ntmps69
    go_wp2
    go_ret
    exact ⟨rfl, (Touch.refl _ _).alloc _⟩
  by_cases hc : 0 ≤ tf
  rotate_left
  · rw [show kmayB 2 kn sf su tf tu = false from Bool.eq_false_iff.2 (fun h => by have h := kmayB_iff.1 h; rw [show longN 2 = 16 from rfl] at h; omega)]
    go_enter Tryz.func69, Tryz.ntmps69
    go_wp2
    go_ret
    exact ⟨rfl, (Touch.refl _ _).alloc _⟩
  by_cases hd : tf ≤ tu
  rotate_left
  · rw [show kmayB 2 kn sf su tf tu = false from Bool.eq_false_iff.2 (fun h => by have h := kmayB_iff.1 h; rw [show longN 2 = 16 from rfl] at h; omega)]
    go_enter Tryz.func69, Tryz.ntmps69
    go_wp2
    go_ret
    exact ⟨rfl, (Touch.refl _ _).alloc _⟩
  rw [show kmayB 2 kn sf su tf tu = true from kmayB_iff.2 (by rw [show longN 2 = 16 from rfl]; omega)]
  go_enter Tryz.func69, Tryz.ntmps69
  go_wp2
  go_ret
  exact ⟨rfl, (Touch.refl _ _).alloc _⟩
set_option maxHeartbeats 2000000 in
theorem rmay_0 (w : World) (i : Int) (kd : Int) (ka : Option Addr) (kn kc : Nat) (sf su tf tu : Int) (h1 : ¬ kd = 1) (h2 : ¬ kd = 2) :
    Calls Tryz.prog 69 #[.agg #[.int .u8 i, .int .u16 kd, .slice ka kn kc, .int .i64 sf, .int .i64 su, .int .i64 tf, .int .i64 tu]] w fun e w' => e = .returned (.bool (kmayB kd kn sf su tf tu)) ∧ Touch (fun _ => False) w w' := by
  by_cases hl : kd < 1
  · rw [show kmayB kd kn sf su tf tu = false from Bool.eq_false_iff.2 (fun h => by have h := kmayB_iff.1 h; rw [show longN kd = 0 by simp [longN, h1, h2]] at h; omega)]
    go_enter Tryz.func69, Tryz.ntmps69
    go_wp2
    go_ret
    exact ⟨rfl, (Touch.refl _ _).alloc _⟩
  · have hg : 2 < kd := by omega
    rw [show kmayB kd kn sf su tf tu = false from Bool.eq_false_iff.2 (fun h => by have h := kmayB_iff.1 h; rw [show longN kd = 0 by simp [longN, h1, h2]] at h; omega)]
    go_enter Tryz.func69, Tryz.ntmps69
    go_wp2
    go_ret
    exact ⟨rfl, (Touch.refl _ _).alloc _⟩
theorem rmay_any (x : KE) (w : World) : Calls Tryz.prog 69 #[x.agg] w fun e w' => e = .returned (.bool x.p.may) ∧ Touch (fun _ => False) w w' := by
  obtain ⟨⟨i, kd, sec, sf, su, tf, tu⟩, ka, kc⟩ := x
  by_cases h1 : kd = 1
  · subst h1; exact rmay_1 w i ka sec.length kc sf su tf tu
  · by_cases h2 : kd = 2
    · subst h2; exact rmay_2 w i ka sec.length kc sf su tf tu
    · exact rmay_0 w i kd ka sec.length kc sf su tf tu h1 h2
end Go.Proofs.YtjjgbcjgmjggnaaGreatDoor
