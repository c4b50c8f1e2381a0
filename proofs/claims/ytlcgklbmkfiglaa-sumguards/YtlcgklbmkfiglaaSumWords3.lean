/- Contracts: addWords, Plain, Right. -/
import Derived.Test.YtlcgklbmkfiglaaSumWords2
namespace Go.Proofs.Ytlcgklbmkfiglaa
open Go.RowKit
set_option linter.unusedVariables false
set_option maxRecDepth 100000

/-- The function value that addWords hands back. -/
structure WFun (v : Value) (rs : List Int) : Prop where
  ex : ∃ h k : Int, v = .func (.func 26) #[.agg #[.int .u32 h, .int .u32 k]] #[] ∧ WRun rs h k ∧ h ≤ 1044735 ∧ k ≤ 1044735

theorem addWords_any (v : Value) (rs : List Int) (w : World) (hv : ArgAt w v rs) (hby : ∀ x ∈ rs, 0 ≤ x ∧ x < 256) :
    Calls Try.prog 21 #[v] w fun e w' => (∃ f, e = .returned f ∧ WFun f rs) ∧ Touch (fun _ => False) w w' := by
  have hmf : ∀ (fn : Fn) (first cap : Array Value) (w : World), (Instr.makeFunc fn first cap).run Try.prog w = .ok (.func fn first cap) w := fun _ _ _ _ => rfl
  go_enter Try.func21, Try.ntmps21
  go_wp2_with fail
  refine (wadd_any w _ v rs _ hv hby ⟨by simp, by simp, by simp, by simp⟩ (Nat.le_refl _) ((Touch.refl _ w).alloc _)).mono ?_
  rintro e w1 ⟨rfl, ⟨h, k, hc, hr, hh, hk⟩, t1⟩
  obtain ⟨c0, c1, f0, f1⟩ := hc
  have HR : Hid (WRun rs h k) := hr
  clear hr hv
  go_wp2
  go_ret
  exact ⟨⟨_, rfl, ⟨h, k, rfl, HR.out, hh, hk⟩⟩, t1⟩

theorem plain_any (v : Value) (rs : List Int) (w : World) (hv : ArgAt w v rs) (hby : ∀ x ∈ rs, 0 ≤ x ∧ x < 256) :
    Calls Try.prog 9 #[v] w fun e w' => e = .returned (.int .u16 (65535 - fold (W true rs))) ∧ Touch (fun _ => False) w w' := by
  have HA := addWords_any v rs w hv hby
  have hb := fold_bound (W true rs)
  obtain ⟨G, hG⟩ : ∃ G, fold (W true rs) = G := ⟨_, rfl⟩
  have HG : Hid (fold (W true rs) = G) := hG
  rw [hG] at hb ⊢
  obtain ⟨hb0, hb1⟩ := hb
  clear hG
  go_enter Try.func9, Try.ntmps9
  go_wp2_with fail
  refine HA.mono ?_
  rintro e w1 ⟨⟨f, rfl, ⟨h, k, rfl, hr, hh, hk⟩⟩, t1⟩
  have h0 := hr.h0
  have k0 := hr.k0
  have HF := folded_any h k w1 h0 k0 (by omega)
  rw [hr.eq, HG.out] at HF
  clear HA hr
  go_wp2_with fail
  refine HF.mono ?_
  rintro e w2 ⟨rfl, t2⟩
  go_wp2
  go_ret
  exact ⟨rfl, t1.trans t2⟩

theorem right_any (v : Value) (rs : List Int) (w : World) (hv : ArgAt w v rs) (hby : ∀ x ∈ rs, 0 ≤ x ∧ x < 256) :
    Calls Try.prog 11 #[v] w fun e w' => e = .returned (.bool (fold (W true rs) == 65535)) ∧ Touch (fun _ => False) w w' := by
  have HA := addWords_any v rs w hv hby
  have hb := fold_bound (W true rs)
  obtain ⟨G, hG⟩ : ∃ G, fold (W true rs) = G := ⟨_, rfl⟩
  have HG : Hid (fold (W true rs) = G) := hG
  rw [hG] at hb ⊢
  obtain ⟨hb0, hb1⟩ := hb
  clear hG
  go_enter Try.func11, Try.ntmps11
  go_wp2_with fail
  refine HA.mono ?_
  rintro e w1 ⟨⟨f, rfl, ⟨h, k, rfl, hr, hh, hk⟩⟩, t1⟩
  have h0 := hr.h0
  have k0 := hr.k0
  have HF := folded_any h k w1 h0 k0 (by omega)
  rw [hr.eq, HG.out] at HF
  clear HA hr
  go_wp2_with fail
  refine HF.mono ?_
  rintro e w2 ⟨rfl, t2⟩
  go_wp2
  go_ret
  exact ⟨rfl, t1.trans t2⟩
end Go.Proofs.Ytlcgklbmkfiglaa
