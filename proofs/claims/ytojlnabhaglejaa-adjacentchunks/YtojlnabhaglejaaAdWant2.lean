
/- What is wanted is asked for, and dropped. -/
import Derived.Test.YtojlnabhaglejaaAdWant
namespace Go.Proofs.Ytojlnabhaglejaa
open Go.RowKit
set_option linter.unusedVariables false
set_option maxRecDepth 100000

open Go.ChangeMaps (setBlock)
set_option maxHeartbeats 400000 in
theorem none_zero (w : World) (b : Nat) (x : AJ) (h : Ads w b x) (a : Option Addr) (c : Nat) (hk : x.keys = .slice a 0 c) : Calls Try.prog 71 #[.pointer (some ⟨b, 20, none⟩)] w fun e w' => e = .returned (.bool true) ∧ w = w' := by
  have c21 : w.cell? ⟨b, 21, none⟩ = some (.slice a 0 c) := by rw [← hk]; exact h.cell 21
  have hb := h.lt
  clear h hk
  go_enter Try.func71, Try.ntmps71
  go_wp2
  go_ret
  exact ⟨rfl, rfl⟩
set_option maxHeartbeats 400000 in
theorem none_one (w : World) (b : Nat) (x : AJ) (h : Ads w b x) (a : Option Addr) (c : Nat) (hk : x.keys = .slice a 1 c) : Calls Try.prog 71 #[.pointer (some ⟨b, 20, none⟩)] w fun e w' => e = .returned (.bool false) ∧ w = w' := by
  have c21 : w.cell? ⟨b, 21, none⟩ = some (.slice a 1 c) := by rw [← hk]; exact h.cell 21
  have hb := h.lt
  clear h hk
  go_enter Try.func71, Try.ntmps71
  go_wp2
  go_ret
  exact ⟨rfl, rfl⟩
/-- An append whose run is known, in a plain region. -/
theorem wpList_run_append {P : Program} {ops : Array Oper} {rest : List Oper} {o : Oper} {a : Act} {w : World} {Q : Exit → Act → World → Prop} (hgd : o.guard = none) (s x : Operand) (t : TypeId)
    (ho : o.op = .call { callee := .builtin .append, args := #[s, x], argTypes := #[t, t] }) (v y v' : Value) (w' : World) (hs : a.eval s = v) (hx : a.eval x = y)
    (hr : (Builtin.append_ #[t, t] o.type #[v, y]).run P w = .ok v' w') (h : wpList P ops Q rest (a.put o.dst v') w') : wpList P ops Q (o :: rest) a w :=
  wpList_plain hgd fun _ hK => by
    unfold Oper.wp execOp
    simp only [ho, resolve, invoke, builtin, Sem.run_bind, Sem.run_pure, Result.andThen_ok, List.map_toArray, List.map_cons, List.map_nil, hs, hx, hr]
    exact hK _ _ h
/-- The form of the one key's row. -/
theorem KR.form {base : Nat} {w : World} {v : Value} (h : KR base w v) : ∃ g c, v = .slice (some ⟨g, 0, none⟩) 1 c ∧ base ≤ g ∧ g < w.heap.size ∧ 1 ≤ c ∧ w.cell? ⟨g, 0, none⟩ = some (.int .u8 1) ∧ w.cell? ⟨g, 1, none⟩ = some (.int .u32 2) ∧ w.cell? ⟨g, 2, none⟩ = some (.int .u32 2) ∧ w.frozen? ⟨g, 0, none⟩ = false ∧ w.frozen? ⟨g, 1, none⟩ = false ∧ w.frozen? ⟨g, 2, none⟩ = false := by
  have h0 := h
  obtain ⟨h1, ⟨h2, h3⟩ | ⟨g, cap, cur, rfl, hg, hh, hc, hm, hs, hx⟩⟩ := h
  · cases h3
  · have cl := fun j u hj => World.ownsRow.cells h0 (g := g) rfl j u hj
    refine ⟨g, cap, rfl, hg, lt_of_heap hh, by omega, cl 0 _ rfl, cl 1 _ rfl, cl 2 _ rfl, ?_, ?_, ?_⟩ <;> exact frozen_of_row w g _ _ _ hh
set_option maxHeartbeats 1000000 in
theorem cloneK_one (base : Nat) (w : World) (v : Value) (h : KR base w v) : Calls Try.prog 55 #[v] w fun e w' => ∃ u, e = .returned u ∧ KR w.heap.size w' u ∧ Touch (fun _ => False) w w' := by
  obtain ⟨g, cc, rfl, hg, hlt, hc1, k0, k1, k2, -, -, -⟩ := h.form
  have heq : ∀ w', Sem.run Try.prog (binOp .eql 57 (.slice (some ⟨g, 0, none⟩) 1 cc) (.slice none 0 0)) w' = .ok (.bool false) w' := fun _ => rfl
  obtain ⟨i0, hi0, hz0, hz1, hz2⟩ := infoParts infoKey
  have T1 : Touch (fun _ => False) w (w.alloc (.cells #[] 47)) := (Touch.refl _ _).alloc _
  have ow : (w.alloc (.cells #[] 47)).ownsRow w.heap.size 47 3 (.slice (some ⟨w.heap.size, 0, none⟩) 0 0) 0 [] := ⟨by simp, Or.inr ⟨w.heap.size, 0, #[], rfl, Nat.le_refl _, heap_new _ _, by simp, by simp, by simp, by simp⟩⟩
  have q0 := T1.cellN k0
  have q1 := T1.cellN k1
  have q2 := T1.cellN k2
  obtain ⟨v', w4, hrun, own4, grown4, -, hat⟩ := run_append_own_at (P := Try.prog) (w.alloc (.cells #[] 47)) w.heap.size 57 57 47 i0 _ 3 12 Try.underlying57 hi0 hz0 hz1 hz2 rfl (by omega) (.slice (some ⟨w.heap.size, 0, none⟩) 0 0) 0 [] ow ⟨g, 0, none⟩ 1 cc [.int .u8 1, .int .u32 2, .int .u32 2] rfl (fun j u hj => by
      rcases (by have := (List.getElem?_eq_some_iff.1 hj).1; simp at this; omega : j = 0 ∨ j = 1 ∨ j = 2) with rfl | rfl | rfl
      · simp at hj; subst hj; simpa [Addr.add] using q0
      · simp at hj; subst hj; simpa [Addr.add] using q1
      · simp at hj; subst hj; simpa [Addr.add] using q2) (fun u hu => by simp at hu; rcases hu with rfl | rfl <;> rfl) (by unfold maxLen; omega) (by omega) T1.size
  have t4 : Touch (fun k => k = w.heap.size) (w.alloc (.cells #[] 47)) w4 := Touch.grown (Touch.refl _ _) grown4 (fun k hk => by simp [Value.ownBlock] at hk; exact Or.inl hk.symm)
  have HK : Hid (KR w.heap.size w4 v') := own4
  have HT : Hid (Touch (fun _ => False) w w4) := T1.trans' t4 (fun i hi e => by omega)
  clear own4 grown4 hat t4 ow hi0 hz0 hz1 hz2 T1 k0 k1 k2 q0 q1 q2
  go_enter Try.func55, Try.ntmps55
  go_wp2_with (refine wpList_run_append rfl (.tmp 5) (.tmp 6) 57 rfl _ _ _ _ (by rfl) (by rfl) hrun ?_)
  go_ret
  exact ⟨v', rfl, HK.out, HT.out⟩
/-- Nothing of x has turned in w. -/
structure SnX (x w : World) : Prop where
  t : Touch (fun _ => False) x w
theorem SnX.start (x : World) : SnX x x.drew := ⟨(Touch.refl _ _).drew⟩
theorem SnX.trans {x w w' : World} (h : SnX x w) (t : Touch (fun _ => False) w w') : SnX x w' := ⟨h.t.trans t⟩
theorem snX_cell {x : World} {p : Addr} {v : Value} (h : x.cell? p = some v) : ∀ w, SnX x w → w.cell? p = some v := fun w s => s.t.cellN h
theorem KR.low {base base' : Nat} {w : World} {v : Value} (h : KR base w v) (hb : base' ≤ base) : KR base' w v := ⟨h.1, h.2.imp id (fun ⟨g, cap, cur, hv, hg, r⟩ => ⟨g, cap, cur, hv, Nat.le_trans hb hg, r⟩)⟩
theorem KR.keep {base : Nat} {w w' : World} {v : Value} (h : KR base w v) (t : Touch (fun _ => False) w w') : KR base w' v := own_touch h t (fun _ _ h => h)
set_option maxHeartbeats 2000000 in
theorem first_one (base : Nat) (w : World) (b : Nat) (x : AJ) (h : Ads w b x) (hk : KR base w x.keys) : Calls Try.prog 58 #[.pointer (some ⟨b, 20, none⟩), .int .i64 16] w fun e w' => ∃ u, e = .returned u ∧ KR w.heap.size w' u ∧ Touch (fun _ => False) w w' := by
  have HC : Hid (∀ w', SnX w w' → Calls Try.prog 55 #[x.keys] w' fun e w'' => ∃ u, e = .returned u ∧ KR w.heap.size w'' u ∧ Touch (fun _ => False) w' w'') := fun w' s => (cloneK_one base w' _ (hk.keep s.t)).mono (fun e w'' ⟨u, h1, h2, h3⟩ => ⟨u, h1, h2.low s.t.size, h3⟩)
  have c21 : w.cell? ⟨b, 21, none⟩ = some x.keys := h.cell 21
  have hb := h.lt
  obtain ⟨g, cc, hkf, -, -, hc1, -⟩ := hk.form
  rw [hkf] at c21 HC
  clear h hk hkf
  have hc2 : (1 : Int) ≤ (cc : Int) := by omega
  go_enter Try.func58, Try.ntmps58
  go_upto_region 1 with fail
  have st := SnX.start w
  have z := snX_cell c21
  clear c21
  go_region_held3 (fun w' => SnX w w') (with_reducible assumption) ((go_at_call 55; refine Calls.mono (HC.out _ (by with_reducible assumption)) ?_; rintro e wx ⟨u, rfl, hu, tu⟩; have stx : SnX w wx := SnX.trans (by with_reducible assumption) tu))
  go_wp2_with fail
  go_ret
  exact ⟨u, rfl, hu, stx.t⟩
end Go.Proofs.Ytojlnabhaglejaa
