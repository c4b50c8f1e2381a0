
/- The calls of a queue: New, Len, Next, Take, Drop, When. -/
import Derived.Test.YtmdnlfbploaafaaQuSet
namespace Go.Proofs.Ytmdnlfbploaafaa
open Go.RowKit
set_option linter.unusedVariables false
set_option maxRecDepth 100000

theorem QN.back {w wx w2 w3 : World} {b : Nat} {v : Value} {m : Nat} {most : Int} {L : List En} {G : Nat → Prop} (T : Touch (fun _ => False) w wx) (hq : ∀ k, qB b v m k → k < w.heap.size) (q : QN wx b v m most L w2) (t : Touch G w2 w3) (hG : ∀ k, G k → w.heap.size ≤ k ∧ k < wx.heap.size) : QN w b v m most L w3 := by
  obtain ⟨⟨v', l', Q, p, hv⟩, tt⟩ := q
  refine ⟨⟨v', l', Q.keep t (fun k hk g => ?_), p, ?_⟩, ?_⟩
  · have h1 := hG k g
    rcases hk with e | e | e
    · have := hq k (Or.inl e); omega
    · rcases hv with e2 | ⟨g2, e2, h2⟩
      · rw [e2] at e
        have := hq k (Or.inr (Or.inl e)); omega
      · rw [e2] at e
        injection e with e
        omega
    · have := hq k (Or.inr (Or.inr e)); omega
  · rcases hv with e2 | ⟨g2, e2, h2⟩
    · exact Or.inl e2
    · exact Or.inr ⟨g2, e2, Nat.le_trans T.size h2⟩
  · exact ((T.mono (fun _ _ h => h.elim)).trans tt).trans' t (fun i hi g => by have := hG i g; omega)

set_option maxHeartbeats 400000 in
theorem made_yes (w : World) (b : Nat) (k : Int) (h : w.cell? ⟨b, 2, none⟩ = some (.int .i64 k)) (hk : 0 < k) :
    Calls Try.prog 28 #[.pointer (some ⟨b, 0, none⟩)] w fun e w' => e = .returned (.bool true) ∧ w = w' := by
  go_enter Try.func28, Try.ntmps28
  go_wp2
  go_ret
  exact ⟨rfl, rfl⟩
set_option maxHeartbeats 400000 in
theorem made_zero (w : World) (b : Nat) (h : w.cell? ⟨b, 2, none⟩ = some (.int .i64 0)) :
    Calls Try.prog 28 #[.pointer (some ⟨b, 0, none⟩)] w fun e w' => e = .returned (.bool false) ∧ w = w' := by
  go_enter Try.func28, Try.ntmps28
  go_wp2
  go_ret
  exact ⟨rfl, rfl⟩
set_option maxHeartbeats 400000 in
theorem made_nil (w : World) :
    Calls Try.prog 28 #[.pointer none] w fun e w' => e = .returned (.bool false) ∧ w = w' := by
  go_enter Try.func28, Try.ntmps28
  go_wp2
  go_ret
  exact ⟨rfl, rfl⟩

set_option maxHeartbeats 400000 in
theorem len_any (w : World) (b : Nat) (v : Value) (m : Nat) (most : Int) (l : List En) (h : QS w b v m most l) :
    Calls Try.prog 12 #[.pointer (some ⟨b, 0, none⟩)] w fun e w' => e = .returned (.int .i64 l.length) ∧ w = w' := by
  obtain ⟨f, P, cv⟩ := h.out
  obtain ⟨a, c, rfl⟩ := P.re.shape
  have c0 := P.c0
  have HM := made_yes w b most h.c2 (by have := h.m1; omega)
  clear h P cv
  go_enter Try.func12, Try.ntmps12
  go_wp2_with ((go_at_call 28; refine Calls.mono HM ?_; rintro e w1 ⟨rfl, rfl⟩))
  go_ret
  exact ⟨rfl, rfl⟩

set_option maxHeartbeats 400000 in
theorem next_none (w : World) (b : Nat) (v : Value) (m : Nat) (most : Int) (h : QS w b v m most []) :
    Calls Try.prog 19 #[.pointer (some ⟨b, 0, none⟩)] w fun e w' => e = .returned (.tuple #[.agg #[.int .i64 0, .int .i64 0, .int .u64 0], .bool false]) ∧ Touch (fun _ => False) w w' := by
  have HL := fun w' t => len_any w' b v m most [] (QS.keep (F := fun _ => False) h t (fun _ _ h => h))
  go_enter Try.func19, Try.ntmps19
  go_wp2_with ((go_at_call 12; refine Calls.mono (HL _ ((Touch.refl _ _).alloc _)) ?_; rintro e w1 ⟨rfl, rfl⟩))
  refine bodyPost_ret (v := .tuple #[.agg #[.int .i64 0, .int .i64 0, .int .u64 0], .bool false]) (by simp [results, Try.results19, go_sem]) rfl ⟨rfl, ?_⟩
  exact (Touch.refl _ _).alloc _

set_option maxHeartbeats 400000 in
theorem next_some (w : World) (b : Nat) (v : Value) (m : Nat) (most : Int) (l : List En) (h : QS w b v m most l) (hl : 0 < l.length) (x : En) (hx : gt l 0 = x) :
    Calls Try.prog 19 #[.pointer (some ⟨b, 0, none⟩)] w fun e w' => e = .returned (.tuple #[.agg #[.int .i64 x.a, .int .i64 x.r, .int .u64 x.k], .bool true]) ∧ Touch (fun _ => False) w w' := by
  have HL := fun w' t => len_any w' b v m most l (QS.keep (F := fun _ => False) h t (fun _ _ h => h))
  obtain ⟨f, P, cv⟩ := h.out
  obtain ⟨g, cap, rfl, hcap, hg⟩ := P.re.form hl
  have c0 := P.c0
  obtain ⟨x0, x1, x2⟩ := P.re.cells hl
  rw [hx] at x0 x1 x2
  simp only [Nat.zero_mul, Nat.zero_add] at x0 x1 x2
  have hb := P.lt
  have l0 : (0 : Int) < (l.length : Int) := by omega
  have l1 : ¬ (l.length : Int) = 0 := by omega
  clear h P cv hcap hx hl
  go_enter Try.func19, Try.ntmps19
  go_wp2_with ((go_at_call 12; refine Calls.mono (HL _ ((Touch.refl _ _).alloc _)) ?_; rintro e w1 ⟨rfl, rfl⟩))
  refine bodyPost_ret (v := .tuple #[.agg #[.int .i64 x.a, .int .i64 x.r, .int .u64 x.k], .bool true]) (by simp [results, Try.results19, go_sem]) rfl ⟨rfl, ?_⟩
  exact (Touch.refl _ _).alloc _

/-- What is first, and whether there is anything. -/
structure NextP (l : List En) (x : En) (z : Bool) : Prop where
  no : l = [] → x = En0 ∧ z = false
  yes : l ≠ [] → IsMin x l ∧ z = true
theorem next_any (w : World) (b : Nat) (v : Value) (m : Nat) (most : Int) (l : List En) (h : QS w b v m most l) :
    ∃ x z, NextP l x z ∧ Calls Try.prog 19 #[.pointer (some ⟨b, 0, none⟩)] w fun e w' => e = .returned (.tuple #[.agg #[.int .i64 x.a, .int .i64 x.r, .int .u64 x.k], .bool z]) ∧ Touch (fun _ => False) w w' := by
  by_cases hl : l = []
  · subst hl
    exact ⟨En0, false, ⟨fun _ => ⟨rfl, rfl⟩, fun h => absurd rfl h⟩, next_none w b v m most h⟩
  · have h0 : 0 < l.length := List.length_pos_iff.2 hl
    exact ⟨gt l 0, true, ⟨fun h => absurd h hl, fun _ => ⟨h.hp.min h0, rfl⟩⟩, next_some w b v m most l h h0 _ rfl⟩

/-- What was taken, and what is left. -/
structure TakeP (w : World) (b : Nat) (v : Value) (m : Nat) (most : Int) (l : List En) (now : Int) (e : Ending) (w' : World) : Prop where
  out : ∃ x z, e = .returned (.tuple #[.agg #[.int .i64 x.a, .int .i64 x.r, .int .u64 x.k], .bool z]) ∧
    ((x = En0 ∧ z = false ∧ (l = [] ∨ ∃ y, IsMin y l ∧ now < y.a) ∧ QN w b v m most l w') ∨ (z = true ∧ IsMin x l ∧ x.a ≤ now ∧ QN w b v m most (noK l x.k) w'))

set_option maxHeartbeats 1000000 in
theorem take_none (w : World) (b : Nat) (v : Value) (m : Nat) (most : Int) (now : Int) (h : QS w b v m most []) :
    Calls Try.prog 18 #[.pointer (some ⟨b, 0, none⟩), .int .i64 now] w (TakeP w b v m most [] now) := by
  have HL := fun w' t => next_none w' b v m most (QS.keep (F := fun _ => False) h t (fun _ _ h => h))
  have HQ : Hid _ := h
  clear h
  go_enter Try.func18, Try.ntmps18
  go_wp2_with fail
  have T : Touch (fun _ => False) w (w.alloc (.cells #[.int .i64 0, .int .i64 0, .int .u64 0] 41)) := (Touch.refl _ _).alloc _
  have R0 : Row (w.alloc (.cells #[.int .i64 0, .int .i64 0, .int .u64 0] 41)) w.heap.size 41 [.int .i64 0, .int .i64 0, .int .u64 0] := row_new w _ _
  generalize w.alloc (.cells #[.int .i64 0, .int .i64 0, .int .u64 0] 41) = wa at T R0 ⊢
  refine Calls.mono (HL wa T) ?_
  rintro e w1 ⟨rfl, t1⟩
  have R1 := R0.keep t1
  have r0 : w1.cell? ⟨w.heap.size, 0, none⟩ = some (.int .i64 0) := R1.cell 0
  have r1 : w1.cell? ⟨w.heap.size, 1, none⟩ = some (.int .i64 0) := R1.cell 1
  have r2 : w1.cell? ⟨w.heap.size, 2, none⟩ = some (.int .u64 0) := R1.cell 2
  have rf := R1.frozen
  have hlt := R1.lt
  have HT : Hid (Touch (fun _ => False) w w1) := T.trans t1
  clear R0 R1 t1 T HL
  go_wp2_with fail
  refine bodyPost_ret (v := .tuple #[.agg #[.int .i64 0, .int .i64 0, .int .u64 0], .bool false]) (by simp [results, Try.results18, go_sem, r0, r1, r2, hlt]) rfl ?_
  refine ⟨En0, false, rfl, Or.inl ⟨rfl, rfl, Or.inl rfl, QN.same HQ.out ?_⟩⟩
  refine Touch.alloc ?_ _
  refine Touch.setCell (p := ⟨w.heap.size, 2, none⟩) ?_ (Or.inr (Nat.le_refl _)) _
  refine Touch.setCell (p := ⟨w.heap.size, 1, none⟩) ?_ (Or.inr (Nat.le_refl _)) _
  refine Touch.setCell (p := ⟨w.heap.size, 0, none⟩) ?_ (Or.inr (Nat.le_refl _)) _
  exact HT.out

set_option maxHeartbeats 1000000 in
theorem take_late (w : World) (b : Nat) (v : Value) (m : Nat) (most : Int) (l : List En) (now : Int) (h : QS w b v m most l) (hl : 0 < l.length) (hn : now < (gt l 0).a) :
    Calls Try.prog 18 #[.pointer (some ⟨b, 0, none⟩), .int .i64 now] w (TakeP w b v m most l now) := by
  have HL := fun w' t => next_some w' b v m most l (QS.keep (F := fun _ => False) h t (fun _ _ h => h)) hl _ rfl
  have HMN : Hid (IsMin (gt l 0) l) := h.hp.min hl
  have HQ : Hid _ := h
  generalize gt l 0 = x at *
  clear h
  go_enter Try.func18, Try.ntmps18
  go_wp2_with fail
  have T : Touch (fun _ => False) w (w.alloc (.cells #[.int .i64 0, .int .i64 0, .int .u64 0] 41)) := (Touch.refl _ _).alloc _
  have R0 : Row (w.alloc (.cells #[.int .i64 0, .int .i64 0, .int .u64 0] 41)) w.heap.size 41 [.int .i64 0, .int .i64 0, .int .u64 0] := row_new w _ _
  generalize w.alloc (.cells #[.int .i64 0, .int .i64 0, .int .u64 0] 41) = wa at T R0 ⊢
  refine Calls.mono (HL wa T) ?_
  rintro e w1 ⟨rfl, t1⟩
  have R1 := R0.keep t1
  have r0 : w1.cell? ⟨w.heap.size, 0, none⟩ = some (.int .i64 0) := R1.cell 0
  have r1 : w1.cell? ⟨w.heap.size, 1, none⟩ = some (.int .i64 0) := R1.cell 1
  have r2 : w1.cell? ⟨w.heap.size, 2, none⟩ = some (.int .u64 0) := R1.cell 2
  have rf := R1.frozen
  have hlt := R1.lt
  have HT : Hid (Touch (fun _ => False) w w1) := T.trans t1
  clear R0 R1 t1 T HL
  go_wp2_with fail
  refine bodyPost_ret (v := .tuple #[.agg #[.int .i64 0, .int .i64 0, .int .u64 0], .bool false]) (by simp [results, Try.results18, go_sem, r0, r1, r2, hlt]) rfl ?_
  refine ⟨En0, false, rfl, Or.inl ⟨rfl, rfl, Or.inr ⟨x, HMN.out, hn⟩, QN.same HQ.out ?_⟩⟩
  refine Touch.alloc ?_ _
  refine Touch.setCell (p := ⟨w.heap.size, 2, none⟩) ?_ (Or.inr (Nat.le_refl _)) _
  refine Touch.setCell (p := ⟨w.heap.size, 1, none⟩) ?_ (Or.inr (Nat.le_refl _)) _
  refine Touch.setCell (p := ⟨w.heap.size, 0, none⟩) ?_ (Or.inr (Nat.le_refl _)) _
  exact HT.out

set_option maxHeartbeats 1000000 in
theorem take_some (w : World) (b : Nat) (v : Value) (m : Nat) (most : Int) (l : List En) (now : Int) (h : QS w b v m most l) (hl : 0 < l.length) (hn : (gt l 0).a ≤ now) :
    Calls Try.prog 18 #[.pointer (some ⟨b, 0, none⟩), .int .i64 now] w (TakeP w b v m most l now) := by
  have HL := fun w' t => next_some w' b v m most l (QS.keep (F := fun _ => False) h t (fun _ _ h => h)) hl _ rfl
  have HMN : Hid (IsMin (gt l 0) l) := h.hp.min hl
  have HQ : Hid _ := h
  have HC : Hid (∀ wx, Touch (fun _ => False) w wx → Calls Try.prog 35 #[.pointer (some ⟨b, 0, none⟩), .int .i64 0] wx fun e w' => e = .returned (.agg #[.int .i64 (gt l 0).a, .int .i64 (gt l 0).r, .int .u64 (gt l 0).k]) ∧ QN wx b v m most (noK l (gt l 0).k) w') := by
    intro wx t
    obtain ⟨⟨f, P, cv⟩, hp, c2, m1, m2, ml⟩ := h
    have hl1 : l.length = l.length - 1 + 1 := by omega
    have P1 := P.keep t
    rw [hl1] at P1
    refine Calls.mono (cut_any wx b v m (l.length - 1) l f P1 hp 0 hl) ?_
    intro e w' c
    exact ⟨c.e, cut_qn (Touch.refl _ _) c hl1 P.nk (t.cellN c2) cv m1 m2 ml⟩
  have hqb : Hid (∀ k, qB b v m k → k < w.heap.size) := h.lt
  generalize gt l 0 = x at *
  clear h
  have hnn : ¬ now < x.a := by omega
  go_enter Try.func18, Try.ntmps18
  go_wp2_with fail
  have T : Touch (fun _ => False) w (w.alloc (.cells #[.int .i64 0, .int .i64 0, .int .u64 0] 41)) := (Touch.refl _ _).alloc _
  have R0 : Row (w.alloc (.cells #[.int .i64 0, .int .i64 0, .int .u64 0] 41)) w.heap.size 41 [.int .i64 0, .int .i64 0, .int .u64 0] := row_new w _ _
  generalize w.alloc (.cells #[.int .i64 0, .int .i64 0, .int .u64 0] 41) = wa at T R0 ⊢
  refine Calls.mono (HL wa T) ?_
  rintro e w1 ⟨rfl, t1⟩
  have R1 := R0.keep t1
  have hlt := R1.lt
  have HT : Hid (Touch (fun _ => False) w w1) := T.trans t1
  clear R0 t1 T HL
  go_wp2_with fail
  refine Calls.mono (HC.out _ (HT.out.alloc _)) ?_
  rintro e w2 ⟨rfl, q2⟩
  have R2 : Row w2 w.heap.size 41 [.int .i64 0, .int .i64 0, .int .u64 0] := (q2.t.block _ (by simp; omega) (fun e => by have := hqb.out _ e; omega)).trans (R1.keep ((Touch.refl _ _).alloc _))
  have r0 : w2.cell? ⟨w.heap.size, 0, none⟩ = some (.int .i64 0) := R2.cell 0
  have r1 : w2.cell? ⟨w.heap.size, 1, none⟩ = some (.int .i64 0) := R2.cell 1
  have r2 : w2.cell? ⟨w.heap.size, 2, none⟩ = some (.int .u64 0) := R2.cell 2
  have rf := R2.frozen
  have HQ2 : Hid _ := q2
  clear R1 R2 q2
  go_wp2_with fail
  refine bodyPost_ret (v := .tuple #[.agg #[.int .i64 x.a, .int .i64 x.r, .int .u64 x.k], .bool true]) (by simp [results, Try.results18, go_sem, r0, r1, r2]) rfl ?_
  refine ⟨x, true, rfl, Or.inr ⟨rfl, HMN.out, hn, ?_⟩⟩
  refine QN.back (G := fun k => k = w.heap.size) (HT.out.alloc _) hqb.out HQ2.out ?_ (fun k e => by subst e; simp; omega)
  refine Touch.setCell (F := fun k => k = w.heap.size) (p := ⟨w.heap.size, 2, none⟩) ?_ (Or.inl rfl) _
  refine Touch.setCell (F := fun k => k = w.heap.size) (p := ⟨w.heap.size, 1, none⟩) ?_ (Or.inl rfl) _
  refine Touch.setCell (F := fun k => k = w.heap.size) (p := ⟨w.heap.size, 0, none⟩) ?_ (Or.inl rfl) _
  exact Touch.refl _ _

theorem take_any (w : World) (b : Nat) (v : Value) (m : Nat) (most : Int) (l : List En) (now : Int) (h : QS w b v m most l) :
    Calls Try.prog 18 #[.pointer (some ⟨b, 0, none⟩), .int .i64 now] w (TakeP w b v m most l now) := by
  by_cases hl : l = []
  · subst hl
    exact take_none w b v m most now h
  · have h0 : 0 < l.length := List.length_pos_iff.2 hl
    by_cases hn : now < (gt l 0).a
    · exact take_late w b v m most l now h h0 hn
    · exact take_some w b v m most l now h h0 (by omega)
end Go.Proofs.Ytmdnlfbploaafaa
