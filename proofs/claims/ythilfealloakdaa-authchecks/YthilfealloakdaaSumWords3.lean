/- Contract: (*words).add. -/
import Derived.Test.YthilfealloakdaaSumWords
import Derived.Test.YthilfealloakdaaEqB
namespace Go.Proofs.Ythilfealloakdaa
open Go.RowKit
set_option linter.unusedVariables false
set_option maxRecDepth 100000

def WOut (w0 : World) (b : Nat) (rs : List Int) (g : Nat) (s : Value) (wr : World) : Prop :=
  ∃ (pre rest : List Int) (h k : Int), rest.length ≤ g ∧ pre ++ rest = rs ∧ pre.length % 2 = 0 ∧ ArgAt w0 s rest ∧ Two wr b h k ∧ WRun pre h k ∧ h ≤ 1044735 ∧ k ≤ 1044735 ∧ Touch (fun _ => False) w0 wr
def WIn (w0 : World) (b : Nat) (pre rest : List Int) (g : Nat) (i : Value) (wr : World) : Prop :=
  ∃ (j : Nat) (h k : Int), j + g = rest.length ∧ j ≤ 4096 ∧ i = .int .i64 (j : Int) ∧ Two wr b h k ∧ WRun (pre ++ rest.take j) h k ∧ h ≤ 255 + 255 * (j : Int) ∧ k ≤ 255 + 255 * (j : Int) ∧ Touch (fun _ => False) w0 wr

theorem wadd_any (w0 : World) (b : Nat) (v : Value) (rs : List Int) (w : World) (hv : ArgAt w0 v rs) (hby : ∀ x ∈ rs, 0 ≤ x ∧ x < 256) (hc : Two w b 0 0) (hb0 : w0.heap.size ≤ b) (t : Touch (fun _ => False) w0 w) :
    Calls Try.prog 83 #[.pointer (some ⟨b, 0, none⟩), v] w fun e w' => e = .returned (.tuple #[]) ∧ (∃ h k, Two w' b h k ∧ WRun rs h k ∧ h ≤ 1044735 ∧ k ≤ 1044735) ∧ Touch (fun _ => False) w0 w' := by
  have HBy : Hid (∀ x ∈ rs, 0 ≤ x ∧ x < 256) := hby
  have hW : WOut w0 b rs rs.length v w := ⟨[], rs, 0, 0, Nat.le_refl _, rfl, rfl, hv, hc, WRun.zero, by decide, by decide, t⟩
  clear hv hby hc t
  go_enter Try.func83, Try.ntmps83
  go_wp2
  go_step3
  go_wp2
  go_step3
  go_wp2
  go_loopg [1] rs.length (fun g s wx => WOut w0 b rs g s wx)
  case atStart => exact hW
  case round =>
    obtain ⟨pre, rest, h, k, hg, hrs, hpe, hs, hc, hr, hh, hk, t⟩ := hrel
    have HR : Hid (pre ++ rest = rs) := hrs
    have HPE : Hid (pre.length % 2 = 0) := hpe
    have HRU : Hid (WRun pre h k) := hr
    have h0 := hr.h0
    have k0 := hr.k0
    have HL := lower_any w0 b h k wr hc hb0 t h0 k0 (by omega)
    obtain ⟨sa, sc, rfl, hm⟩ := hs.form
    unfold maxLen at hm
    have HS : Hid (ArgAt w0 (.slice sa rest.length sc) rest) := hs
    clear hW hrs hpe hr hc t hs
    go_wp2_with fail
    refine HL.mono ?_
    rintro e w1 ⟨rfl, hc1, t1⟩
    have hF := fold_bound (256 * h + k)
    have hI : WIn w0 b pre rest rest.length (.int .i64 ((0 : Nat) : Int)) w1 := ⟨0, _, _, by omega, by omega, rfl, hc1, by simpa using HRU.out.lower, by omega, by omega, t1⟩
    clear HL hc1 t1 hF
    go_wp2_with fail
    go_loopg [1, 10] rest.length (fun g s i wx => s = .slice sa rest.length sc ∧ WIn w0 b pre rest g i wx)
    case atStart => exact ⟨rfl, hI⟩
    case round =>
      obtain ⟨rfl, j, h, k, hj, hj1, rfl, hc, hr, hh, hk, t⟩ := hrel
      have h0 := hr.h0
      have k0 := hr.k0
      have HT : Hid (Touch (fun _ => False) w0 wr) := t
      have HC : Hid (Two wr b h k) := hc
      obtain ⟨c0, c1, f0, f1⟩ := hc
      have HW : Hid (WRun (pre ++ rest.take j) h k) := hr
      clear hI hr t
      by_cases hlt : j < rest.length
      · have hs := HS.out.row (by omega)
        obtain ⟨ga, oa, rfl⟩ := rowAt_some hs (by omega)
        have hcx := HT.out.cellN (rowAt_cell hs j hlt)
        have HZ : Hid (rest.take (j + 1) = rest.take j ++ [rest.getD j 0]) := by
          show _ = _
          rw [List.take_add_one, List.getElem?_eq_getElem hlt]
          simp [List.getD, hlt]
        have hz : 0 ≤ rest.getD j 0 ∧ rest.getD j 0 < 256 := HBy.out _ (by rw [← HR.out]; exact List.mem_append_right _ (by simp [List.getD, hlt]))
        revert hcx HZ hz
        generalize rest.getD j 0 = z
        intro hcx HZ hz
        obtain ⟨hz0, hz1⟩ := hz
        by_cases hq : j = 4096
        · subst hq
          have hcap := rowAt_cap hs
          have HN : Hid (WOut w0 b rs (rest.length - 4096) (.slice (some ⟨ga, oa + 4096, none⟩) (rest.length - 4096) (sc - 4096)) wr) :=
            ⟨pre ++ rest.take 4096, rest.drop 4096, h, k, by simp, by rw [List.append_assoc, List.take_append_drop]; exact HR.out, by have := HPE.out; simp; omega, (rowAt_drop hs 4096 (by omega)).arg, HC.out, HW.out, by omega, by omega, HT.out⟩
          have hlt' : (4096 : Int) < (rest.length : Int) := by omega
          have hcap' : (rest.length : Int) ≤ (sc : Int) := by omega
          clear hs
          go_wp2_with fail
          go_roundg (rest.length - 4096)
          case measure => omega
          case rel => exact HN.out
        · clear hs
          have hq' : ((j : Int) == 4096) = false := by simp; omega
          rcases Nat.mod_two_eq_zero_or_one j with hp | hp
          · have hp' : (j : Int) % 2 = 0 := by omega
            have HN : Hid (WIn w0 b pre rest (rest.length - (j + 1)) (.int .i64 ((j : Int) + 1)) ((wr.setCell ⟨b, 0, none⟩ (.int .u32 (h + z))).drew)) := 
              ⟨j + 1, h + z, k, by omega, by omega, by rw [Int.natCast_add]; rfl, (HC.out.set0 _).drew, by rw [HZ.out, ← List.append_assoc]; exact HW.out.even (by have := HPE.out; simp; omega) hz0, by omega, by omega, (HT.out.new (p := ⟨b, 0, none⟩) hb0 _).drew⟩
            clear hp hq
            go_wp2_with fail
            go_region
            go_wp2
            go_roundg (rest.length - (j + 1))
            case measure => omega
            case rel => exact ⟨rfl, HN.out⟩
          · have hp' : (j : Int) % 2 = 1 := by omega
            have HN : Hid (WIn w0 b pre rest (rest.length - (j + 1)) (.int .i64 ((j : Int) + 1)) ((wr.setCell ⟨b, 1, none⟩ (.int .u32 (k + z))).drew)) := 
              ⟨j + 1, h, k + z, by omega, by omega, by rw [Int.natCast_add]; rfl, (HC.out.set1 _).drew, by rw [HZ.out, ← List.append_assoc]; exact HW.out.odd (by have := HPE.out; simp; omega) hz0, by omega, by omega, (HT.out.new (p := ⟨b, 1, none⟩) hb0 _).drew⟩
            clear hp hq
            go_wp2_with fail
            go_region
            go_wp2
            go_roundg (rest.length - (j + 1))
            case measure => omega
            case rel => exact ⟨rfl, HN.out⟩
      · obtain rfl : j = rest.length := by omega
        have HE : Hid (WRun rs h k) := by
          have := HW.out
          rw [List.take_length, HR.out] at this
          exact this
        go_wp2_with fail
        rw [Exit.noGoto_ret]
        refine bodyPost_ret (results_none rfl _ _ _) rfl ?_
        exact ⟨rfl, ⟨h, k, HC.out, HE.out, by omega, by omega⟩, HT.out⟩
end Go.Proofs.Ythilfealloakdaa

namespace Go.Proofs.Ythilfealloakdaa
open Go.RowKit
set_option linter.unusedVariables false
set_option maxRecDepth 100000

/-- The function value that addWords hands back. -/
structure WFun (v : Value) (rs : List Int) : Prop where
  ex : ∃ h k : Int, v = .func (.func 84) #[.agg #[.int .u32 h, .int .u32 k]] #[] ∧ WRun rs h k ∧ h ≤ 1044735 ∧ k ≤ 1044735

theorem addWords_any (v : Value) (rs : List Int) (w : World) (hv : ArgAt w v rs) (hby : ∀ x ∈ rs, 0 ≤ x ∧ x < 256) :
    Calls Try.prog 69 #[v] w fun e w' => (∃ f, e = .returned f ∧ WFun f rs) ∧ Touch (fun _ => False) w w' := by
  have hmf : ∀ (fn : Fn) (first cap : Array Value) (w : World), (Instr.makeFunc fn first cap).run Try.prog w = .ok (.func fn first cap) w := fun _ _ _ _ => rfl
  go_enter Try.func69, Try.ntmps69
  go_wp2_with fail
  refine (wadd_any w _ v rs _ hv hby ⟨by simp, by simp, by simp, by simp⟩ (Nat.le_refl _) ((Touch.refl _ w).alloc _)).mono ?_
  rintro e w1 ⟨rfl, ⟨h, k, hc, hr, hh, hk⟩, t1⟩
  obtain ⟨c0, c1, f0, f1⟩ := hc
  have HR : Hid (WRun rs h k) := hr
  clear hr hv
  go_wp2
  go_ret
  exact ⟨⟨_, rfl, ⟨h, k, rfl, HR.out, hh, hk⟩⟩, t1⟩

theorem plain_any (v : Value) (rs : List Int) (w : World) (hv : ArgAt w v rs) (hby : ∀ x ∈ rs, 0 ≤ x ∧ x < 256) :
    Calls Try.prog 50 #[v] w fun e w' => e = .returned (.int .u16 (65535 - fold (W true rs))) ∧ Touch (fun _ => False) w w' := by
  have HA := addWords_any v rs w hv hby
  have hb := fold_bound (W true rs)
  obtain ⟨G, hG⟩ : ∃ G, fold (W true rs) = G := ⟨_, rfl⟩
  have HG : Hid (fold (W true rs) = G) := hG
  rw [hG] at hb ⊢
  obtain ⟨hb0, hb1⟩ := hb
  clear hG
  go_enter Try.func50, Try.ntmps50
  go_wp2_with fail
  refine HA.mono ?_
  rintro e w1 ⟨⟨f, rfl, ⟨h, k, rfl, hr, hh, hk⟩⟩, t1⟩
  have h0 := hr.h0
  have k0 := hr.k0
  have HF := folded_any h k w1 h0 k0 (by omega)
  rw [hr.eq, HG.out] at HF
  clear HA hr
  go_wp2_with fail
  refine HF.mono ?_
  rintro e w2 ⟨rfl, t2⟩
  go_wp2
  go_ret
  exact ⟨rfl, t1.trans t2⟩

theorem right_any (v : Value) (rs : List Int) (w : World) (hv : ArgAt w v rs) (hby : ∀ x ∈ rs, 0 ≤ x ∧ x < 256) :
    Calls Try.prog 67 #[v] w fun e w' => e = .returned (.bool (fold (W true rs) == 65535)) ∧ Touch (fun _ => False) w w' := by
  have HA := addWords_any v rs w hv hby
  have hb := fold_bound (W true rs)
  obtain ⟨G, hG⟩ : ∃ G, fold (W true rs) = G := ⟨_, rfl⟩
  have HG : Hid (fold (W true rs) = G) := hG
  rw [hG] at hb ⊢
  obtain ⟨hb0, hb1⟩ := hb
  clear hG
  go_enter Try.func67, Try.ntmps67
  go_wp2_with fail
  refine HA.mono ?_
  rintro e w1 ⟨⟨f, rfl, ⟨h, k, rfl, hr, hh, hk⟩⟩, t1⟩
  have h0 := hr.h0
  have k0 := hr.k0
  have HF := folded_any h k w1 h0 k0 (by omega)
  rw [hr.eq, HG.out] at HF
  clear HA hr
  go_wp2_with fail
  refine HF.mono ?_
  rintro e w2 ⟨rfl, t2⟩
  go_wp2
  go_ret
  exact ⟨rfl, t1.trans t2⟩
end Go.Proofs.Ythilfealloakdaa
