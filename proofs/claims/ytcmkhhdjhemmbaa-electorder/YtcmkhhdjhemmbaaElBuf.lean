
/- Rows of voices that the call made. -/
import Derived.Test.YtcmkhhdjhemmbaaElRow
import Derived.Laws.OwnMore
namespace Go.Proofs.Ytcmkhhdjhemmbaa
open Go.RowKit
set_option linter.unusedVariables false
set_option maxRecDepth 100000

/-- A row of voices that was made since w0. -/
abbrev VR (T : TypeId) (w0 w : World) (v : Value) (l : List VC) : Prop := VBuf T 5 w0 w v l.length (vcC l)
theorem VR.at {T : TypeId} {w0 w : World} {v : Value} {l : List VC} (h : VR T w0 w v l) (ok : ∀ x ∈ l, x.Ok) : VcsAt w v l := ⟨VBuf.vals h, ok⟩
theorem VR.lit (T : TypeId) {w0 w : World} (t : Touch (fun _ => False) w0 w) (l : List VC) (cs : Array Value) (hc : cs.toList = vcC l) (hl : l.length ≤ 1000) : VR T w0 (w.alloc (.cells cs T)) (.slice (some ⟨w.heap.size, 0, none⟩) l.length l.length) l := by
  refine ⟨?_, t.alloc _⟩
  rw [← hc]
  exact World.ownsRow_lit w cs l.length t.size (by unfold maxLen; omega) (by rw [← Array.length_toList, hc, length_vcC])
theorem VR.slot {T : TypeId} {w0 w : World} {v : Value} {l : List VC} (h : VR T w0 w v l) (hl : 0 < l.length) : ∃ g c, v = .slice (some ⟨g, 0, none⟩) l.length c ∧ w0.heap.size ≤ g ∧ l.length ≤ c := by
  rcases h.own.2 with ⟨_, e⟩ | ⟨g, cap, cur, hv, hb, _, hc, _⟩
  · omega
  · exact ⟨g, cap, hv, hb, hc⟩
theorem VR.put0 {T : TypeId} {w0 w : World} {g n c : Nat} {x : VC} {l : List VC} (h : VR T w0 w (.slice (some ⟨g, 0, none⟩) n c) (x :: l)) (hn : n = (x :: l).length) (y : VC) : VR T w0 (((((w.setCell ⟨g, 0, none⟩ (.int .u32 y.r)).setCell ⟨g, 1, none⟩ (.int .u32 y.ad)).setCell ⟨g, 2, none⟩ (.int .u8 y.p)).setCell ⟨g, 3, none⟩ (.int .u32 y.dr)).setCell ⟨g, 4, none⟩ (.int .u32 y.bd)) (.slice (some ⟨g, 0, none⟩) n c) (y :: l) := by
  subst hn
  have hb : w0.heap.size ≤ g := (h.own.lt g rfl).1
  have hp : (False ∨ w0.heap.size ≤ g) := Or.inr hb
  refine ⟨?_, ((((h.t.setCell (p := ⟨g, 0, none⟩) hp _).setCell (p := ⟨g, 1, none⟩) hp _).setCell (p := ⟨g, 2, none⟩) hp _).setCell (p := ⟨g, 3, none⟩) hp _).setCell (p := ⟨g, 4, none⟩) hp _⟩
  have := (((((h.own.stored 0 (.int .u32 y.r)).1.stored 1 (.int .u32 y.ad)).1.stored 2 (.int .u8 y.p)).1.stored 3 (.int .u32 y.dr)).1.stored 4 (.int .u32 y.bd)).1
  exact this
section
variable {ops : Array Oper} {rest : List Oper} {o : Oper} {a : Act} {Q : Exit → Act → World → Prop} {w : World}
theorem infoVE : (Try.prog.info? 35).map (fun i => (i.zero, i.size, i.bytes)) = some (some (.agg #[.int .u32 0, .int .u32 0, .int .u8 0, .int .u32 0, .int .u32 0]), 5, 20) := by kernel_rfl
/-- append(p, x...). -/
theorem vcappE (hgd : o.guard = none) (s x : Operand) (ho : o.op = .call { callee := .builtin .append, args := #[s, x], argTypes := #[24, 24] })
    (w0 : World) (v : Value) (l : List VC) (hs : a.eval s = v) (hb : VR 35 w0 w v l) (vx : Value) (m : List VC) (hx : a.eval x = vx) (hr : VcsAt w vx m) (hl : l.length + m.length ≤ 1099511627776)
    (h : ∀ v' w', VR 35 w0 w' v' (l ++ m) → wpList Try.prog ops Q rest (a.put o.dst v') w') : wpList Try.prog ops Q (o :: rest) a w := by
  refine vapp_arg hgd s x 24 ho 35 5 20 (.agg #[.int .u32 0, .int .u32 0, .int .u8 0, .int .u32 0, .int .u32 0]) Try.underlying24 infoVE rfl (by omega) (by omega) w0 v l.length (vcC l) hs hb vx m.length (vcC m) hx hr.vals (one_vcC m) hl ?_
  intro v' w' hb'
  refine h v' w' ?_
  show VBuf _ _ _ _ _ _ _
  rw [List.length_append, vcC_append]
  exact hb'
theorem infoVD : (Try.prog.info? 33).map (fun i => (i.zero, i.size, i.bytes)) = some (some (.agg #[.int .u32 0, .int .u32 0, .int .u8 0, .int .u32 0, .int .u32 0]), 5, 20) := by kernel_rfl
/-- append(p, x...). -/
theorem vcappD (hgd : o.guard = none) (s x : Operand) (ho : o.op = .call { callee := .builtin .append, args := #[s, x], argTypes := #[22, 22] })
    (w0 : World) (v : Value) (l : List VC) (hs : a.eval s = v) (hb : VR 33 w0 w v l) (vx : Value) (m : List VC) (hx : a.eval x = vx) (hr : VcsAt w vx m) (hl : l.length + m.length ≤ 1099511627776)
    (h : ∀ v' w', VR 33 w0 w' v' (l ++ m) → wpList Try.prog ops Q rest (a.put o.dst v') w') : wpList Try.prog ops Q (o :: rest) a w := by
  refine vapp_arg hgd s x 22 ho 33 5 20 (.agg #[.int .u32 0, .int .u32 0, .int .u8 0, .int .u32 0, .int .u32 0]) Try.underlying22 infoVD rfl (by omega) (by omega) w0 v l.length (vcC l) hs hb vx m.length (vcC m) hx hr.vals (one_vcC m) hl ?_
  intro v' w' hb'
  refine h v' w' ?_
  show VBuf _ _ _ _ _ _ _
  rw [List.length_append, vcC_append]
  exact hb'
end
end Go.Proofs.Ytcmkhhdjhemmbaa
