
/- The document's hops, one put at its place; two rows joined. -/
import Derived.Test.YtdfacfpjhnohcaaTrHp
import Derived.Test.YtdfacfpjhnohcaaTrJnP
namespace Go.Proofs.Ytdfacfpjhnohcaa
open Go.RowKit
set_option linter.unusedVariables false
set_option maxRecDepth 100000

theorem infoHop6 : (Try.prog.info? 70).map (fun i => (i.zero, i.size, i.bytes)) = some (some (.agg #[.int .u32 0, .int .u32 0, .bool false]), 3, 12) := by kernel_rfl
/-- A row of the document's hops of the call's own. -/
abbrev HD (w0 w : World) (v : Value) (l : List HK) : Prop := VBuf 70 3 w0 w v l.length (cellsG HK.cs l)
theorem HD.more {w0 w : World} {v : Value} {l l' : List HK} {n : Nat} (hn : n = l.length + l'.length) (h : VBuf 70 3 w0 w v n (cellsG HK.cs l ++ cellsG HK.cs l')) : HD w0 w v (l ++ l') := by
  unfold HD
  rw [List.length_append, cellsG_append, ← hn]
  exact h
theorem eqHop6 (x y : HK) (w : World) : (Op.equalIn 10000 70 (.agg #[.int .u32 x.out, .int .u32 x.via, .bool x.vr]) (.agg #[.int .u32 y.out, .int .u32 y.via, .bool y.vr])).run Try.prog w = .ok (decide (x = y)) w := by
  have hS : Try.prog.underlying 70 = some (.struct (Try.prog.fieldsOf 70)) := by kernel_rfl
  rw [show (10000 : Nat) = 9999 + 1 from rfl, run_equalIn_agg w 9999 70 _ _ hS (by kernel_rfl)]
  simp only [Program.fieldsOf, Try.underlying70]
  go_simp
  obtain ⟨a, b, c⟩ := x
  obtain ⟨a', b', c'⟩ := y
  by_cases h1 : a = a' <;> by_cases h2 : b = b' <;> by_cases h3 : c = c' <;> simp [h1, h2, h3]

set_option maxHeartbeats 1000000 in
theorem before_any (x y : HK) (w : World) : Calls Try.prog 36 #[.agg #[.int .u32 x.out, .int .u32 x.via, .bool x.vr], .agg #[.int .u32 y.out, .int .u32 y.via, .bool y.vr]] w fun e w' => e = .returned (.bool (decide (cH x y < 0))) ∧ Touch (fun _ => False) w w' := by
  have HE : Hid (decide (cH x y < 0) = decide (x.out < y.out ∨ x.out = y.out ∧ (x.via < y.via ∨ x.via = y.via ∧ bz x.vr < bz y.vr))) := decide_eq_decide.2 (cH_neg x y)
  generalize decide (cH x y < 0) = b at *
  obtain ⟨x0, x1, x2⟩ := x
  obtain ⟨y0, y1, y2⟩ := y
  have HL : Hid (b = decide (x0 < y0 ∨ x0 = y0 ∧ (x1 < y1 ∨ x1 = y1 ∧ bz x2 < bz y2))) := HE.out
  clear HE
  by_cases h0 : x0 = y0
  · subst h0
    by_cases h1 : x1 = y1
    · subst h1
      have hb : b = (!x2 && y2) := by
        rw [HL.out]
        cases x2 <;> cases y2 <;> simp [bz]
      subst hb
      clear HL
      cases x2 <;> cases y2
      all_goals (go_enter Try.func36, Try.ntmps36; go_wp2_with fail; go_ret; exact ⟨rfl, ((Touch.refl _ _).alloc _).alloc _⟩)
    · have hb : b = decide (x1 < y1) := by
        rw [HL.out]
        exact decide_eq_decide.2 (by omega)
      subst hb
      have hne : (x1 == y1) = false := by simpa using h1
      clear HL
      go_enter Try.func36, Try.ntmps36
      go_wp2_with fail
      go_ret
      exact ⟨rfl, ((Touch.refl _ _).alloc _).alloc _⟩
  · have hb : b = decide (x0 < y0) := by
      rw [HL.out]
      exact decide_eq_decide.2 (by omega)
    subst hb
    have hne : (x0 == y0) = false := by simpa using h0
    clear HL
    go_enter Try.func36, Try.ntmps36
    go_wp2_with fail
    go_ret
    exact ⟨rfl, ((Touch.refl _ _).alloc _).alloc _⟩
end Go.Proofs.Ytdfacfpjhnohcaa
