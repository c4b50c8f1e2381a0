/- Contract: (*words).add. -/
import Derived.Test.YtjjgbcjgmjggnaaGreatSumWords
import Derived.Test.YtjjgbcjgmjggnaaGreatDigBase
import Derived.Test.YtjjgbcjgmjggnaaGreatReader
import Derived.Test.YtjjgbcjgmjggnaaGreatDigMath
import Derived.Test.YtjjgbcjgmjggnaaGreatStRow0
import Derived.Test.YtjjgbcjgmjggnaaGreatCutB
import Derived.Test.YtjjgbcjgmjggnaaGreatDigBuf
import Derived.Deep.RegionHeld3
import Derived.Deep.DeepCutAuto
namespace Go.Proofs.YtjjgbcjgmjggnaaGreat
open Go.RowKit
set_option linter.unusedVariables false
set_option maxRecDepth 100000

def WOut (w0 : World) (b : Nat) (rs : List Int) (g : Nat) (s : Value) (wr : World) : Prop :=
  ∃ (pre rest : List Int) (h k : Int), rest.length ≤ g ∧ pre ++ rest = rs ∧ pre.length % 2 = 0 ∧ ArgAt w0 s rest ∧ Two wr b h k ∧ WRun pre h k ∧ h ≤ 1044735 ∧ k ≤ 1044735 ∧ Touch (fun _ => False) w0 wr
def WIn (w0 : World) (b : Nat) (pre rest : List Int) (g : Nat) (i : Value) (wr : World) : Prop :=
  ∃ (j : Nat) (h k : Int), j + g = rest.length ∧ j ≤ 4096 ∧ i = .int .i64 (j : Int) ∧ Two wr b h k ∧ WRun (pre ++ rest.take j) h k ∧ h ≤ 255 + 255 * (j : Int) ∧ k ≤ 255 + 255 * (j : Int) ∧ Touch (fun _ => False) w0 wr

theorem wadd_any (w0 : World) (b : Nat) (v : Value) (rs : List Int) (w : World) (hv : ArgAt w0 v rs) (hby : ∀ x ∈ rs, 0 ≤ x ∧ x < 256) (hc : Two w b 0 0) (hb0 : w0.heap.size ≤ b) (t : Touch (fun _ => False) w0 w) :
    Calls Tryz.prog 131 #[.pointer (some ⟨b, 0, none⟩), v] w fun e w' => e = .returned (.tuple #[]) ∧ (∃ h k, Two w' b h k ∧ WRun rs h k ∧ h ≤ 1044735 ∧ k ≤ 1044735) ∧ Touch (fun _ => False) w0 w' := by
  have HBy : Hid (∀ x ∈ rs, 0 ≤ x ∧ x < 256) := hby
  have hW : WOut w0 b rs rs.length v w := ⟨[], rs, 0, 0, Nat.le_refl _, rfl, rfl, hv, hc, WRun.zero, by decide, by decide, t⟩
  clear hv hby hc t
  go_enter Tryz.func131, Tryz.ntmps131
  go_wp2
  go_step3
  go_wp2
  go_step3
  go_wp2
  go_loopg [1] rs.length (fun g s wx => WOut w0 b rs g s wx)
  case atStart => exact hW
  case round =>
    obtain ⟨pre, rest, h, k, hg, hrs, hpe, hs, hc, hr, hh, hk, t⟩ := hrel
    have HR : Hid (pre ++ rest = rs) := hrs
    have HPE : Hid (pre.length % 2 = 0) := hpe
    have HRU : Hid (WRun pre h k) := hr
    have h0 := hr.h0
    have k0 := hr.k0
    have HL := lower_any w0 b h k wr hc hb0 t h0 k0 (by omega)
    obtain ⟨sa, sc, rfl, hm⟩ := hs.form
    unfold maxLen at hm
    have HS : Hid (ArgAt w0 (.slice sa rest.length sc) rest) := hs
    clear hW hrs hpe hr hc t hs
    go_wp2_with fail
    refine HL.mono ?_
    rintro e w1 ⟨rfl, hc1, t1⟩
    have hF := fold_bound (256 * h + k)
    have hI : WIn w0 b pre rest rest.length (.int .i64 ((0 : Nat) : Int)) w1 := ⟨0, _, _, by omega, by omega, rfl, hc1, by simpa using HRU.out.lower, by omega, by omega, t1⟩
    clear HL hc1 t1 hF
    go_wp2_with fail
    go_loopg [1, 10] rest.length (fun g s i wx => s = .slice sa rest.length sc ∧ WIn w0 b pre rest g i wx)
    case atStart => exact ⟨rfl, hI⟩
    case round =>
      obtain ⟨rfl, j, h, k, hj, hj1, rfl, hc, hr, hh, hk, t⟩ := hrel
      have h0 := hr.h0
      have k0 := hr.k0
      have HT : Hid (Touch (fun _ => False) w0 wr) := t
      have HC : Hid (Two wr b h k) := hc
      obtain ⟨c0, c1, f0, f1⟩ := hc
      have HW : Hid (WRun (pre ++ rest.take j) h k) := hr
      clear hI hr t
      by_cases hlt : j < rest.length
      · have hs := HS.out.row (by omega)
        obtain ⟨ga, oa, rfl⟩ := rowAt_some hs (by omega)
        have hcx := HT.out.cellN (rowAt_cell hs j hlt)
        have HZ : Hid (rest.take (j + 1) = rest.take j ++ [rest.getD j 0]) := by
          show _ = _
          rw [List.take_add_one, List.getElem?_eq_getElem hlt]
          simp [List.getD, hlt]
        have hz : 0 ≤ rest.getD j 0 ∧ rest.getD j 0 < 256 := HBy.out _ (by rw [← HR.out]; exact List.mem_append_right _ (by simp [List.getD, hlt]))
        revert hcx HZ hz
        generalize rest.getD j 0 = z
        intro hcx HZ hz
        obtain ⟨hz0, hz1⟩ := hz
        by_cases hq : j = 4096
        · subst hq
          have hcap := rowAt_cap hs
          have HN : Hid (WOut w0 b rs (rest.length - 4096) (.slice (some ⟨ga, oa + 4096, none⟩) (rest.length - 4096) (sc - 4096)) wr) :=
            ⟨pre ++ rest.take 4096, rest.drop 4096, h, k, by simp, by rw [List.append_assoc, List.take_append_drop]; exact HR.out, by have := HPE.out; simp; omega, (rowAt_drop hs 4096 (by omega)).arg, HC.out, HW.out, by omega, by omega, HT.out⟩
          have hlt' : (4096 : Int) < (rest.length : Int) := by omega
          have hcap' : (rest.length : Int) ≤ (sc : Int) := by omega
          clear hs
          go_wp2_with fail
          go_roundg (rest.length - 4096)
          case measure => omega
          case rel => exact HN.out
        · clear hs
          have hq' : ((j : Int) == 4096) = false := by simp; omega
          rcases Nat.mod_two_eq_zero_or_one j with hp | hp
          · have hp' : (j : Int) % 2 = 0 := by omega
            have HN : Hid (WIn w0 b pre rest (rest.length - (j + 1)) (.int .i64 ((j : Int) + 1)) ((wr.setCell ⟨b, 0, none⟩ (.int .u32 (h + z))).drew)) := 
              ⟨j + 1, h + z, k, by omega, by omega, by rw [Int.natCast_add]; rfl, (HC.out.set0 _).drew, by rw [HZ.out, ← List.append_assoc]; exact HW.out.even (by have := HPE.out; simp; omega) hz0, by omega, by omega, (HT.out.new (p := ⟨b, 0, none⟩) hb0 _).drew⟩
            clear hp hq
            go_wp2_with fail
            go_region
            go_wp2
            go_roundg (rest.length - (j + 1))
            case measure => omega
            case rel => exact ⟨rfl, HN.out⟩
          · have hp' : (j : Int) % 2 = 1 := by omega
            have HN : Hid (WIn w0 b pre rest (rest.length - (j + 1)) (.int .i64 ((j : Int) + 1)) ((wr.setCell ⟨b, 1, none⟩ (.int .u32 (k + z))).drew)) := 
              ⟨j + 1, h, k + z, by omega, by omega, by rw [Int.natCast_add]; rfl, (HC.out.set1 _).drew, by rw [HZ.out, ← List.append_assoc]; exact HW.out.odd (by have := HPE.out; simp; omega) hz0, by omega, by omega, (HT.out.new (p := ⟨b, 1, none⟩) hb0 _).drew⟩
            clear hp hq
            go_wp2_with fail
            go_region
            go_wp2
            go_roundg (rest.length - (j + 1))
            case measure => omega
            case rel => exact ⟨rfl, HN.out⟩
      · obtain rfl : j = rest.length := by omega
        have HE : Hid (WRun rs h k) := by
          have := HW.out
          rw [List.take_length, HR.out] at this
          exact this
        go_wp2_with fail
        rw [Exit.noGoto_ret]
        refine bodyPost_ret (results_none rfl _ _ _) rfl ?_
        exact ⟨rfl, ⟨h, k, HC.out, HE.out, by omega, by omega⟩, HT.out⟩
end Go.Proofs.YtjjgbcjgmjggnaaGreat

namespace Go.Proofs.YtjjgbcjgmjggnaaGreat
open Go.RowKit
set_option linter.unusedVariables false
set_option maxRecDepth 100000

/-- The function value that addWords hands back. -/
structure WFun (v : Value) (rs : List Int) : Prop where
  ex : ∃ h k : Int, v = .func (.func 132) #[.agg #[.int .u32 h, .int .u32 k]] #[] ∧ WRun rs h k ∧ h ≤ 1044735 ∧ k ≤ 1044735

theorem addWords_any (v : Value) (rs : List Int) (w : World) (hv : ArgAt w v rs) (hby : ∀ x ∈ rs, 0 ≤ x ∧ x < 256) :
    Calls Tryz.prog 105 #[v] w fun e w' => (∃ f, e = .returned f ∧ WFun f rs) ∧ Touch (fun _ => False) w w' := by
  have hmf : ∀ (fn : Fn) (first cap : Array Value) (w : World), (Instr.makeFunc fn first cap).run Tryz.prog w = .ok (.func fn first cap) w := fun _ _ _ _ => rfl
  go_enter Tryz.func105, Tryz.ntmps105
  go_wp2_with fail
  refine (wadd_any w _ v rs _ hv hby ⟨by simp, by simp, by simp, by simp⟩ (Nat.le_refl _) ((Touch.refl _ w).alloc _)).mono ?_
  rintro e w1 ⟨rfl, ⟨h, k, hc, hr, hh, hk⟩, t1⟩
  obtain ⟨c0, c1, f0, f1⟩ := hc
  have HR : Hid (WRun rs h k) := hr
  clear hr hv
  go_wp2
  go_ret
  exact ⟨⟨_, rfl, ⟨h, k, rfl, HR.out, hh, hk⟩⟩, t1⟩

theorem plain_any (v : Value) (rs : List Int) (w : World) (hv : ArgAt w v rs) (hby : ∀ x ∈ rs, 0 ≤ x ∧ x < 256) :
    Calls Tryz.prog 71 #[v] w fun e w' => e = .returned (.int .u16 (65535 - fold (W true rs))) ∧ Touch (fun _ => False) w w' := by
  have HA := addWords_any v rs w hv hby
  have hb := fold_bound (W true rs)
  obtain ⟨G, hG⟩ : ∃ G, fold (W true rs) = G := ⟨_, rfl⟩
  have HG : Hid (fold (W true rs) = G) := hG
  rw [hG] at hb ⊢
  obtain ⟨hb0, hb1⟩ := hb
  clear hG
  go_enter Tryz.func71, Tryz.ntmps71
  go_wp2_with fail
  refine HA.mono ?_
  rintro e w1 ⟨⟨f, rfl, ⟨h, k, rfl, hr, hh, hk⟩⟩, t1⟩
  have h0 := hr.h0
  have k0 := hr.k0
  have HF := folded_any h k w1 h0 k0 (by omega)
  rw [hr.eq, HG.out] at HF
  clear HA hr
  go_wp2_with fail
  refine HF.mono ?_
  rintro e w2 ⟨rfl, t2⟩
  go_wp2
  go_ret
  exact ⟨rfl, t1.trans t2⟩

theorem right_any (v : Value) (rs : List Int) (w : World) (hv : ArgAt w v rs) (hby : ∀ x ∈ rs, 0 ≤ x ∧ x < 256) :
    Calls Tryz.prog 104 #[v] w fun e w' => e = .returned (.bool (fold (W true rs) == 65535)) ∧ Touch (fun _ => False) w w' := by
  have HA := addWords_any v rs w hv hby
  have hb := fold_bound (W true rs)
  obtain ⟨G, hG⟩ : ∃ G, fold (W true rs) = G := ⟨_, rfl⟩
  have HG : Hid (fold (W true rs) = G) := hG
  rw [hG] at hb ⊢
  obtain ⟨hb0, hb1⟩ := hb
  clear hG
  go_enter Tryz.func104, Tryz.ntmps104
  go_wp2_with fail
  refine HA.mono ?_
  rintro e w1 ⟨⟨f, rfl, ⟨h, k, rfl, hr, hh, hk⟩⟩, t1⟩
  have h0 := hr.h0
  have k0 := hr.k0
  have HF := folded_any h k w1 h0 k0 (by omega)
  rw [hr.eq, HG.out] at HF
  clear HA hr
  go_wp2_with fail
  refine HF.mono ?_
  rintro e w2 ⟨rfl, t2⟩
  go_wp2
  go_ret
  exact ⟨rfl, t1.trans t2⟩
end Go.Proofs.YtjjgbcjgmjggnaaGreat

namespace Go.Proofs.YtjjgbcjgmjggnaaGreat
open Go.RowKit
set_option linter.unusedVariables false
set_option maxRecDepth 100000

theorem pisType_any (t : Int) (w : World) (h0 : 0 ≤ t) : Calls Tryz.prog 59 #[.int .u8 t] w fun e w' => e = .returned (.bool (decide (1 ≤ t ∧ t ≤ 5))) ∧ w = w' := by
  have HK : Hid (decide (1 ≤ t ∧ t ≤ 5) = (decide (1 ≤ t) && decide (t ≤ 5))) := by show _ = _; by_cases h1 : 1 ≤ t <;> by_cases h2 : t ≤ 5 <;> simp [h1, h2]
  generalize decide (1 ≤ t ∧ t ≤ 5) = k at HK ⊢
  go_enter Tryz.func59, Tryz.ntmps59
  go_wp2
  all_goals go_ret
  all_goals refine ⟨ret_bool ?_, rfl⟩
  all_goals (rw [HK.out, Bool.eq_iff_iff]; simp; omega)

set_option maxHeartbeats 1000000 in
theorem plength_short (va : Option Addr) (vc : Nat) (rs : List Int) (w : World) (hv : ArgAt w (.slice va rs.length vc) rs) (hby : ∀ z ∈ rs, 0 ≤ z ∧ z < 256) (hn : rs.length ≤ 1000000) (hl : rs.length < 24) :
    Calls Tryz.prog 77 #[.slice va rs.length vc] w fun e w' => e = .panicked (pflawC 10) ∧ Touch (fun _ => False) w w' := by
  have hnn : (rs.length : Int) ≤ 1000000 := by omega
  have h1 : ¬ (24 : Int) ≤ (rs.length : Int) := by omega
  clear hv hby
  go_enter Tryz.func77, Tryz.ntmps77
  go_wp2_with fail
  refine Calls.mono (pneed_f _ 10 _ (by first | rfl | simpa using h1)) ?_
  rintro e wn ⟨rfl, rfl⟩
  exact ⟨rfl, rfl, Touch.refl _ _⟩

set_option maxHeartbeats 1000000 in
theorem plength_vers (va : Option Addr) (vc : Nat) (rs : List Int) (w : World) (hv : ArgAt w (.slice va rs.length vc) rs) (hby : ∀ z ∈ rs, 0 ≤ z ∧ z < 256) (hn : rs.length ≤ 1000000) (hl : 24 ≤ rs.length) (h2 : rs.getD 0 0 ≠ 2) :
    Calls Tryz.prog 77 #[.slice va rs.length vc] w fun e w' => e = .panicked (pflawC 20) ∧ Touch (fun _ => False) w w' := by
  have hnn : (rs.length : Int) ≤ 1000000 := by omega
  have h1 : (24 : Int) ≤ (rs.length : Int) := by omega
  obtain ⟨ga, oa, rfl⟩ := rowAt_some (hv.row (by omega)) (by omega)
  have b0 := rowAt_cell (hv.row (by omega)) 0 (by omega)
  have b1 := rowAt_cell (hv.row (by omega)) 1 (by omega)
  rw [Nat.add_zero] at b0
  have hi0 : (0 : Int) < (rs.length : Int) := by omega
  have hi1 : (1 : Int) < (rs.length : Int) := by omega
  have hj0 : 0 < rs.length := by omega
  have hj1 : 1 < rs.length := by omega
  have hb1 : 0 ≤ rs.getD 1 0 := by have := hby (rs.getD 1 0) (by simp [List.getD, hj1]); omega
  generalize rs.getD 0 0 = m0 at *
  have hm : ((m0 : Int) == 2) = false := by simpa using h2
  clear hv hby b1
  go_enter Tryz.func77, Tryz.ntmps77
  go_wp2_with fail
  refine Calls.mono (pneed_t _ 10 _ (by first | rfl | simpa using h1)) ?_
  rintro e wn ⟨rfl, rfl⟩
  go_wp2_with fail
  refine Calls.mono (pneed_f _ 20 _ (by first | rfl | exact hm)) ?_
  rintro e wn ⟨rfl, rfl⟩
  exact ⟨rfl, rfl, Touch.refl _ _⟩

set_option maxHeartbeats 1000000 in
theorem plength_type (va : Option Addr) (vc : Nat) (rs : List Int) (w : World) (hv : ArgAt w (.slice va rs.length vc) rs) (hby : ∀ z ∈ rs, 0 ≤ z ∧ z < 256) (hn : rs.length ≤ 1000000) (hl : 24 ≤ rs.length) (h2 : rs.getD 0 0 = 2) (h3 : ¬ (1 ≤ rs.getD 1 0 ∧ rs.getD 1 0 ≤ 5)) :
    Calls Tryz.prog 77 #[.slice va rs.length vc] w fun e w' => e = .panicked (pflawC 21) ∧ Touch (fun _ => False) w w' := by
  have hnn : (rs.length : Int) ≤ 1000000 := by omega
  have h1 : (24 : Int) ≤ (rs.length : Int) := by omega
  obtain ⟨ga, oa, rfl⟩ := rowAt_some (hv.row (by omega)) (by omega)
  have b0 := rowAt_cell (hv.row (by omega)) 0 (by omega)
  have b1 := rowAt_cell (hv.row (by omega)) 1 (by omega)
  rw [Nat.add_zero] at b0
  have hi0 : (0 : Int) < (rs.length : Int) := by omega
  have hi1 : (1 : Int) < (rs.length : Int) := by omega
  have hj0 : 0 < rs.length := by omega
  have hj1 : 1 < rs.length := by omega
  have hb1 : 0 ≤ rs.getD 1 0 := by have := hby (rs.getD 1 0) (by simp [List.getD, hj1]); omega
  have hm : ((rs.getD 0 0 : Int) == 2) = true := by simpa using h2
  have HTY := fun w => pisType_any (rs.getD 1 0) w hb1
  have HD : decide (1 ≤ rs.getD 1 0 ∧ rs.getD 1 0 ≤ 5) = false := decide_eq_false h3
  rw [HD] at HTY
  clear h2 h3 HD hb1
  generalize rs.getD 0 0 = m0 at *
  generalize rs.getD 1 0 = m1 at *
  clear hv hby
  go_enter Tryz.func77, Tryz.ntmps77
  go_wp2_with fail
  refine Calls.mono (pneed_t _ 10 _ (by first | rfl | simpa using h1)) ?_
  rintro e wn ⟨rfl, rfl⟩
  go_wp2_with fail
  refine Calls.mono (pneed_t _ 20 _ (by first | rfl | exact hm)) ?_
  rintro e wn ⟨rfl, rfl⟩
  go_wp2_with fail
  refine Calls.mono (HTY _) ?_
  rintro e wn ⟨rfl, rfl⟩
  go_wp2_with fail
  refine Calls.mono (pneed_f _ 21 _ (by first | rfl | rfl)) ?_
  rintro e wn ⟨rfl, rfl⟩
  exact ⟨rfl, rfl, Touch.refl _ _⟩

set_option maxHeartbeats 1000000 in
theorem plength_size (va : Option Addr) (vc : Nat) (rs : List Int) (w : World) (hv : ArgAt w (.slice va rs.length vc) rs) (hby : ∀ z ∈ rs, 0 ≤ z ∧ z < 256) (hn : rs.length ≤ 1000000) (hl : 24 ≤ rs.length) (h2 : rs.getD 0 0 = 2) (h3 : 1 ≤ rs.getD 1 0 ∧ rs.getD 1 0 ≤ 5) (h4 : ¬ (24 ≤ pTold rs ∧ pTold rs ≤ (rs.length : Int))) :
    Calls Tryz.prog 77 #[.slice va rs.length vc] w fun e w' => e = .panicked (pflawC 22) ∧ Touch (fun _ => False) w w' := by
  have hnn : (rs.length : Int) ≤ 1000000 := by omega
  have h1 : (24 : Int) ≤ (rs.length : Int) := by omega
  obtain ⟨ga, oa, rfl⟩ := rowAt_some (hv.row (by omega)) (by omega)
  have b0 := rowAt_cell (hv.row (by omega)) 0 (by omega)
  have b1 := rowAt_cell (hv.row (by omega)) 1 (by omega)
  rw [Nat.add_zero] at b0
  have hi0 : (0 : Int) < (rs.length : Int) := by omega
  have hi1 : (1 : Int) < (rs.length : Int) := by omega
  have hj0 : 0 < rs.length := by omega
  have hj1 : 1 < rs.length := by omega
  have hb1 : 0 ≤ rs.getD 1 0 := by have := hby (rs.getD 1 0) (by simp [List.getD, hj1]); omega
  have hm : ((rs.getD 0 0 : Int) == 2) = true := by simpa using h2
  have HTY := fun w => pisType_any (rs.getD 1 0) w hb1
  have HD : decide (1 ≤ rs.getD 1 0 ∧ rs.getD 1 0 ≤ 5) = true := decide_eq_true h3
  rw [HD] at HTY
  obtain ⟨u, hu, ua⟩ := cut_mid hv rfl (by omega) 2 4 (by omega) (by omega)
  replace hu : ∀ w, Sem.run Tryz.prog (Instr.slice 43 (.slice (some ⟨ga, oa, none⟩) rs.length vc) (some (.int .i64 2)) (some (.int .i64 4)) none) w = .ok u w := hu
  have UA : Hid (ArgAt w u ((rs.drop 2).take 2)) := ua
  have hul : ((rs.drop 2).take 2).length = 2 := by rw [List.length_take, List.length_drop]; omega
  have UB : Hid (∀ z ∈ (rs.drop 2).take 2, 0 ≤ z ∧ z < 256) := fun z hz => hby z (List.mem_of_mem_drop (List.mem_of_mem_take hz))
  have HNU : Hid (numAt ((rs.drop 2).take 2) (some 0) 2 = pTold rs) := by
    show _ = _
    unfold pTold numAt
    simp only [hul]
    rw [if_pos (by omega), List.drop_zero, List.take_of_length_le (by omega)]
  have hpt : 0 ≤ pTold rs ∧ pTold rs < 65536 := by
    have h := numOf_bound ((rs.drop 2).take 2) UB.out
    rw [hul] at h
    exact h
  have hw64 : IntKind.i64.wrap (pTold rs) = pTold rs := by simp [IntKind.wrap, IntKind.bits, IntKind.signed]; omega
  have HUL : Hid (((rs.drop 2).take 2).length = 2) := hul
  obtain ⟨pt0, pt1⟩ := hpt
  clear h2 h3 HD hb1 ua hul
  generalize (rs.drop 2).take 2 = ub at *
  generalize pTold rs = PT at *
  generalize rs.getD 0 0 = m0 at *
  generalize rs.getD 1 0 = m1 at *
  clear hv hby
  by_cases h5 : (24 : Int) ≤ PT
  · have h6 : ¬ PT ≤ (rs.length : Int) := by omega
    clear h4
    go_enter Tryz.func77, Tryz.ntmps77
    go_wp2_with fail
    refine Calls.mono (pneed_t _ 10 _ (by first | rfl | simpa using h1)) ?_
    rintro e wn ⟨rfl, rfl⟩
    go_wp2_with fail
    refine Calls.mono (pneed_t _ 20 _ (by first | rfl | exact hm)) ?_
    rintro e wn ⟨rfl, rfl⟩
    go_wp2_with fail
    refine Calls.mono (HTY _) ?_
    rintro e wn ⟨rfl, rfl⟩
    go_wp2_with fail
    refine Calls.mono (pneed_t _ 21 _ (by first | rfl | rfl)) ?_
    rintro e wn ⟨rfl, rfl⟩
    go_wp2_with fail
    refine Calls.mono (read_r u ub _ UA.out UB.out (by have := HUL.out; omega)) ?_
    rintro e w1 ⟨rb, rfl, hrb, hrd, t1⟩
    have RD : Hid (Rdr w1.heap.size w1 rb ub (some 0)) := hrd
    have T1 : Hid (Touch (fun _ => False) w w1) := t1
    have HRB : Hid (w.heap.size ≤ rb) := hrb
    clear hrd t1 hrb b0 b1
    go_wp2_with fail
    refine Calls.mono (rnum2 _ rb ub (some 0) w1 RD.out) ?_
    rw [HNU.out]
    rintro e w2 ⟨rfl, -, t2⟩
    have T2 : Hid (Touch (fun _ => False) w w2) := T1.out.trans' t2 (fun i hi e => by have := HRB.out; omega)
    clear t2 HNU
    go_wp2_with fail
    refine Calls.mono (pneed_f _ 22 _ (by first | rfl | simpa using h6)) ?_
    rintro e wn ⟨rfl, rfl⟩
    exact ⟨rfl, rfl, T2.out⟩
  · clear h4
    go_enter Tryz.func77, Tryz.ntmps77
    go_wp2_with fail
    refine Calls.mono (pneed_t _ 10 _ (by first | rfl | simpa using h1)) ?_
    rintro e wn ⟨rfl, rfl⟩
    go_wp2_with fail
    refine Calls.mono (pneed_t _ 20 _ (by first | rfl | exact hm)) ?_
    rintro e wn ⟨rfl, rfl⟩
    go_wp2_with fail
    refine Calls.mono (HTY _) ?_
    rintro e wn ⟨rfl, rfl⟩
    go_wp2_with fail
    refine Calls.mono (pneed_t _ 21 _ (by first | rfl | rfl)) ?_
    rintro e wn ⟨rfl, rfl⟩
    go_wp2_with fail
    refine Calls.mono (read_r u ub _ UA.out UB.out (by have := HUL.out; omega)) ?_
    rintro e w1 ⟨rb, rfl, hrb, hrd, t1⟩
    have RD : Hid (Rdr w1.heap.size w1 rb ub (some 0)) := hrd
    have T1 : Hid (Touch (fun _ => False) w w1) := t1
    have HRB : Hid (w.heap.size ≤ rb) := hrb
    clear hrd t1 hrb b0 b1
    go_wp2_with fail
    refine Calls.mono (rnum2 _ rb ub (some 0) w1 RD.out) ?_
    rw [HNU.out]
    rintro e w2 ⟨rfl, -, t2⟩
    have T2 : Hid (Touch (fun _ => False) w w2) := T1.out.trans' t2 (fun i hi e => by have := HRB.out; omega)
    clear t2 HNU
    go_wp2_with fail
    refine Calls.mono (pneed_f _ 22 _ (by first | rfl | simpa using h5)) ?_
    rintro e wn ⟨rfl, rfl⟩
    exact ⟨rfl, rfl, T2.out⟩

set_option maxHeartbeats 1000000 in
theorem plength_ok (va : Option Addr) (vc : Nat) (rs : List Int) (w : World) (hv : ArgAt w (.slice va rs.length vc) rs) (hby : ∀ z ∈ rs, 0 ≤ z ∧ z < 256) (hn : rs.length ≤ 1000000) (hl : 24 ≤ rs.length) (h2 : rs.getD 0 0 = 2) (h3 : 1 ≤ rs.getD 1 0 ∧ rs.getD 1 0 ≤ 5) (h4 : 24 ≤ pTold rs ∧ pTold rs ≤ (rs.length : Int)) :
    Calls Tryz.prog 77 #[.slice va rs.length vc] w fun e w' => e = .returned (.int .i64 (pTold rs)) ∧ Touch (fun _ => False) w w' := by
  have hnn : (rs.length : Int) ≤ 1000000 := by omega
  have h1 : (24 : Int) ≤ (rs.length : Int) := by omega
  obtain ⟨ga, oa, rfl⟩ := rowAt_some (hv.row (by omega)) (by omega)
  have b0 := rowAt_cell (hv.row (by omega)) 0 (by omega)
  have b1 := rowAt_cell (hv.row (by omega)) 1 (by omega)
  rw [Nat.add_zero] at b0
  have hi0 : (0 : Int) < (rs.length : Int) := by omega
  have hi1 : (1 : Int) < (rs.length : Int) := by omega
  have hj0 : 0 < rs.length := by omega
  have hj1 : 1 < rs.length := by omega
  have hb1 : 0 ≤ rs.getD 1 0 := by have := hby (rs.getD 1 0) (by simp [List.getD, hj1]); omega
  have hm : ((rs.getD 0 0 : Int) == 2) = true := by simpa using h2
  have HTY := fun w => pisType_any (rs.getD 1 0) w hb1
  have HD : decide (1 ≤ rs.getD 1 0 ∧ rs.getD 1 0 ≤ 5) = true := decide_eq_true h3
  rw [HD] at HTY
  obtain ⟨u, hu, ua⟩ := cut_mid hv rfl (by omega) 2 4 (by omega) (by omega)
  replace hu : ∀ w, Sem.run Tryz.prog (Instr.slice 43 (.slice (some ⟨ga, oa, none⟩) rs.length vc) (some (.int .i64 2)) (some (.int .i64 4)) none) w = .ok u w := hu
  have UA : Hid (ArgAt w u ((rs.drop 2).take 2)) := ua
  have hul : ((rs.drop 2).take 2).length = 2 := by rw [List.length_take, List.length_drop]; omega
  have UB : Hid (∀ z ∈ (rs.drop 2).take 2, 0 ≤ z ∧ z < 256) := fun z hz => hby z (List.mem_of_mem_drop (List.mem_of_mem_take hz))
  have HNU : Hid (numAt ((rs.drop 2).take 2) (some 0) 2 = pTold rs) := by
    show _ = _
    unfold pTold numAt
    simp only [hul]
    rw [if_pos (by omega), List.drop_zero, List.take_of_length_le (by omega)]
  have hpt : 0 ≤ pTold rs ∧ pTold rs < 65536 := by
    have h := numOf_bound ((rs.drop 2).take 2) UB.out
    rw [hul] at h
    exact h
  have hw64 : IntKind.i64.wrap (pTold rs) = pTold rs := by simp [IntKind.wrap, IntKind.bits, IntKind.signed]; omega
  have HUL : Hid (((rs.drop 2).take 2).length = 2) := hul
  obtain ⟨pt0, pt1⟩ := hpt
  clear h2 h3 HD hb1 ua hul
  generalize (rs.drop 2).take 2 = ub at *
  generalize pTold rs = PT at *
  generalize rs.getD 0 0 = m0 at *
  generalize rs.getD 1 0 = m1 at *
  clear hv hby
  obtain ⟨h5, h6⟩ := h4
  go_enter Tryz.func77, Tryz.ntmps77
  go_wp2_with fail
  refine Calls.mono (pneed_t _ 10 _ (by first | rfl | simpa using h1)) ?_
  rintro e wn ⟨rfl, rfl⟩
  go_wp2_with fail
  refine Calls.mono (pneed_t _ 20 _ (by first | rfl | exact hm)) ?_
  rintro e wn ⟨rfl, rfl⟩
  go_wp2_with fail
  refine Calls.mono (HTY _) ?_
  rintro e wn ⟨rfl, rfl⟩
  go_wp2_with fail
  refine Calls.mono (pneed_t _ 21 _ (by first | rfl | rfl)) ?_
  rintro e wn ⟨rfl, rfl⟩
  go_wp2_with fail
  refine Calls.mono (read_r u ub _ UA.out UB.out (by have := HUL.out; omega)) ?_
  rintro e w1 ⟨rb, rfl, hrb, hrd, t1⟩
  have RD : Hid (Rdr w1.heap.size w1 rb ub (some 0)) := hrd
  have T1 : Hid (Touch (fun _ => False) w w1) := t1
  have HRB : Hid (w.heap.size ≤ rb) := hrb
  clear hrd t1 hrb b0 b1
  go_wp2_with fail
  refine Calls.mono (rnum2 _ rb ub (some 0) w1 RD.out) ?_
  rw [HNU.out]
  rintro e w2 ⟨rfl, -, t2⟩
  have T2 : Hid (Touch (fun _ => False) w w2) := T1.out.trans' t2 (fun i hi e => by have := HRB.out; omega)
  clear t2 HNU
  go_wp2_with fail
  refine Calls.mono (pneed_t _ 22 _ (by first | rfl | simpa using h6)) ?_
  rintro e wn ⟨rfl, rfl⟩
  go_wp2
  go_ret
  exact ⟨rfl, T2.out⟩

theorem plength_good (v : Value) (rs : List Int) (w : World) (hv : ArgAt w v rs) (hby : ∀ z ∈ rs, 0 ≤ z ∧ z < 256) (hn : rs.length ≤ 1000000) (h : pLenE rs = 0) :
    Calls Tryz.prog 77 #[v] w fun e w' => e = .returned (.int .i64 (pTold rs)) ∧ Touch (fun _ => False) w w' := by
  obtain ⟨va, vc, rfl, -⟩ := hv.form
  obtain ⟨h1, h2, h3, h4⟩ := pLenE_ok h
  exact plength_ok va vc rs w hv hby hn h1 h2 h3 h4
theorem plength_bad (v : Value) (rs : List Int) (w : World) (hv : ArgAt w v rs) (hby : ∀ z ∈ rs, 0 ≤ z ∧ z < 256) (hn : rs.length ≤ 1000000) (h : pLenE rs ≠ 0) :
    Calls Tryz.prog 77 #[v] w fun e w' => e = .panicked (pflawC (pLenE rs)) ∧ Touch (fun _ => False) w w' := by
  obtain ⟨va, vc, rfl, -⟩ := hv.form
  by_cases h1 : rs.length < 24
  · rw [show pLenE rs = 10 by unfold pLenE; rw [if_pos h1]]
    exact plength_short va vc rs w hv hby hn h1
  · by_cases h2 : rs.getD 0 0 = 2
    · by_cases h3 : 1 ≤ rs.getD 1 0 ∧ rs.getD 1 0 ≤ 5
      · by_cases h4 : 24 ≤ pTold rs ∧ pTold rs ≤ (rs.length : Int)
        · exact absurd (PLen.zero ⟨by omega, h2, h3, h4⟩) h
        · rw [show pLenE rs = 22 by unfold pLenE; rw [if_neg h1, if_neg (by omega), if_neg (by omega), if_pos h4]]
          exact plength_size va vc rs w hv hby hn (by omega) h2 h3 h4
      · rw [show pLenE rs = 21 by unfold pLenE; rw [if_neg h1, if_neg (by omega), if_pos h3]]
        exact plength_type va vc rs w hv hby hn (by omega) h2 h3
    · rw [show pLenE rs = 20 by unfold pLenE; rw [if_neg h1, if_pos h2]]
      exact plength_vers va vc rs w hv hby hn (by omega) h2
end Go.Proofs.YtjjgbcjgmjggnaaGreat
