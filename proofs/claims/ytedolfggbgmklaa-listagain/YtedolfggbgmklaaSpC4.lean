
/- A place more. -/
import Derived.Test.YtedolfggbgmklaaSpC3
namespace Go.Proofs.Ytedolfggbgmklaa
open Go.RowKit
set_option linter.unusedVariables false
set_option maxRecDepth 100000

/-- Have they one key? -/
def HV.sk (x y : HV) : Bool := decide (x.typ = y.typ ∧ x.id = y.id ∧ x.adv = y.adv)
theorem ky_iff (x y : HV) : x.ky = y.ky ↔ x.sk y = true := by
  unfold HV.ky HV.sk
  simp
/-- The list without that of x's key. -/
def dropK (l : List It) (x : HV) : List It := l.filter (fun i => !(i.h.sk x))
theorem dropK_none {l : List It} {x : HV} (h : ∀ i ∈ l, i.h.ky ≠ x.ky) : dropK l x = l := List.filter_eq_self.2 (fun i hi => by have := h i hi; rw [ne_eq, ky_iff] at this; simpa using this)
theorem dropK_some {l1 l2 : List It} {i : It} {x : HV} (h : i.h.ky = x.ky) (nd : ((l1 ++ i :: l2).map (fun j => j.h.ky)).Nodup) : dropK (l1 ++ i :: l2) x = l1 ++ l2 := by
  rw [List.map_append, List.map_cons] at nd
  obtain ⟨na, nb, nc⟩ := List.nodup_append.1 nd
  have a1 : ∀ j ∈ l1, j.h.ky ≠ x.ky := fun j hj e => nc j.h.ky (List.mem_map.2 ⟨j, hj, rfl⟩) i.h.ky (by simp) (e.trans h.symm)
  have a2 : ∀ j ∈ l2, j.h.ky ≠ x.ky := fun j hj e => (List.nodup_cons.1 nb).1 (List.mem_map.2 ⟨j, hj, e.trans h.symm⟩)
  have a3 : i.h.sk x = true := (ky_iff _ _).1 h
  have e1 := dropK_none a1
  have e2 := dropK_none a2
  unfold dropK at *
  rw [List.filter_append, List.filter_cons, e1, e2, a3]
  rfl
theorem dropK_mem {l : List It} {x : HV} {i : It} (h : i ∈ dropK l x) : i ∈ l ∧ i.h.ky ≠ x.ky := by
  have := List.mem_filter.1 h
  refine ⟨this.1, fun e => ?_⟩
  have h2 := (ky_iff _ _).1 e
  rw [h2] at this
  simp at this
theorem LSt.lb_lt {w : World} {L m e : Nat} {rx wt : Int} {l : List It} (h : LSt w L m e rx wt l) {k : Nat} (hk : LB L m e l k) : k < w.heap.size := by
  rcases hk with rfl | rfl | hk
  · exact h.row.lt
  · exact h.map.lt
  · obtain ⟨_, _, _, _, y⟩ := h.ring.any hk
    exact y.lt
theorem key_in (l : List It) (x : HV) : (∀ i ∈ l, i.h.ky ≠ x.ky) ∨ ∃ l1 i l2, l = l1 ++ i :: l2 ∧ i.h.ky = x.ky := by
  by_cases h : ∃ i ∈ l, i.h.sk x = true
  · obtain ⟨i, hi, e⟩ := h
    obtain ⟨l1, l2, rfl⟩ := List.append_of_mem hi
    exact Or.inr ⟨l1, i, l2, rfl, (ky_iff _ _).2 e⟩
  · exact Or.inl (fun i hi e => h ⟨i, hi, (ky_iff _ _).1 e⟩)
theorem lrem_any (w : World) (L m e : Nat) (rx wt : Int) (l : List It) (h : LSt w L m e rx wt l) (x : HV) (hx : x.Al) : Calls Try.prog 39 #[.pointer (some ⟨L, 0, none⟩), .agg #[.int .u8 x.typ, .int .u32 x.id, .int .u32 x.adv]] w fun e' w' => e' = .returned (.bool (l.any (fun i => i.h.sk x))) ∧ LSt w' L m e rx wt (dropK l x) ∧ Touch (LB L m e l) w w' := by
  rcases key_in l x with hn | ⟨l1, i, l2, rfl, hi⟩
  · refine (lrem_none w L m e rx wt l h x hx hn).mono fun e' w' ⟨he, t⟩ => ⟨?_, ?_, t.mono (fun _ _ f => f.elim)⟩
    · rw [he]
      have : l.any (fun i => i.h.sk x) = false := List.any_eq_false.2 (fun i hi => by have := hn i hi; rw [ne_eq, ky_iff] at this; exact this)
      rw [this]
    · rw [dropK_none hn]
      exact h.keepN t
  · refine (lrem_some w L m e rx wt l1 l2 i h x hx hi).mono fun e' w' ⟨he, s, t⟩ => ⟨?_, ?_, t⟩
    · rw [he]
      have : (l1 ++ i :: l2).any (fun i => i.h.sk x) = true := List.any_eq_true.2 ⟨i, by simp, (ky_iff _ _).1 hi⟩
      rw [this]
    · rw [dropK_some hi h.ky]
      exact s
set_option maxHeartbeats 4000000 in
theorem ladd_by (P : Value → Nat → World → Prop) (w : World) (L m e : Nat) (rx wt : Int) (l : List It) (h : LSt w L m e rx wt l) (hr : rx ≠ 0) (x : HV) (hx : x.Al) (v : Value)
    (HO : ∀ w', Touch (LB L m e l) w w' → Calls Try.prog 40 #[.agg #[.int .u16 x.age, .int .u8 x.opts, .int .u8 x.typ, .int .u32 x.id, .int .u32 x.adv, .int .i32 x.seq, .int .u16 x.sum, .int .u16 x.len, v]] w' fun e' w'' => ∃ ua un uc, e' = .returned (.agg #[.int .u16 x.age, .int .u8 x.opts, .int .u8 x.typ, .int .u32 x.id, .int .u32 x.adv, .int .i32 x.seq, .int .u16 x.sum, .int .u16 x.len, .slice ua un uc]) ∧ (∀ w3, Touch (LB L m e l) w'' w3 → P (.slice ua un uc) w''.heap.size w3) ∧ Touch (fun _ => False) w' w'') :
    Calls Try.prog 22 #[.pointer (some ⟨L, 0, none⟩), .agg #[.int .u16 x.age, .int .u8 x.opts, .int .u8 x.typ, .int .u32 x.id, .int .u32 x.adv, .int .i32 x.seq, .int .u16 x.sum, .int .u16 x.len, v]] w fun e' w' => e' = .returned (.tuple #[]) ∧ ∃ u b wt2, LSt w' L m e rx wt2 (dropK l x ++ [⟨x, u, b⟩]) ∧ P u b w' ∧ w.heap.size ≤ b ∧ ((l = [] → wt2 = 0) ∧ (l ≠ [] → wt2 = wt)) ∧ Touch (LB L m e l) w w' := by
  have T0 : Touch (fun _ => False) w (w.alloc (.cells #[.int .u16 x.age, .int .u8 x.opts, .int .u8 x.typ, .int .u32 x.id, .int .u32 x.adv, .int .i32 x.seq, .int .u16 x.sum, .int .u16 x.len, v] 53)) := (Touch.refl _ _).alloc _
  have R0 : Row (w.alloc (.cells #[.int .u16 x.age, .int .u8 x.opts, .int .u8 x.typ, .int .u32 x.id, .int .u32 x.adv, .int .i32 x.seq, .int .u16 x.sum, .int .u16 x.len, v] 53)) w.heap.size 53 [.int .u16 x.age, .int .u8 x.opts, .int .u8 x.typ, .int .u32 x.id, .int .u32 x.adv, .int .i32 x.seq, .int .u16 x.sum, .int .u16 x.len, v] := row_new _ _ _
  have HS0 := h.keepN T0
  have HM := lmade_yes (w.alloc (.cells #[.int .u16 x.age, .int .u8 x.opts, .int .u8 x.typ, .int .u32 x.id, .int .u32 x.adv, .int .i32 x.seq, .int .u16 x.sum, .int .u16 x.len, v] 53)) L rx hr (HS0.row.cell 0)
  have HOh : Hid (∀ w', Touch (LB L m e l) w w' → Calls Try.prog 40 #[.agg #[.int .u16 x.age, .int .u8 x.opts, .int .u8 x.typ, .int .u32 x.id, .int .u32 x.adv, .int .i32 x.seq, .int .u16 x.sum, .int .u16 x.len, v]] w' fun e' w'' => ∃ ua un uc, e' = .returned (.agg #[.int .u16 x.age, .int .u8 x.opts, .int .u8 x.typ, .int .u32 x.id, .int .u32 x.adv, .int .i32 x.seq, .int .u16 x.sum, .int .u16 x.len, .slice ua un uc]) ∧ (∀ w3, Touch (LB L m e l) w'' w3 → P (.slice ua un uc) w''.heap.size w3) ∧ Touch (fun _ => False) w' w'') := HO
  have hz : Hid (∀ k, LB L m e l k → k < w.heap.size) := fun k hk => h.lb_lt hk
  have HX : Hid x.Al := hx
  clear HO h hr hx
  go_enter Try.func22, Try.ntmps22
  go_wp2_with fail
  generalize (w.alloc (.cells #[.int .u16 x.age, .int .u8 x.opts, .int .u8 x.typ, .int .u32 x.id, .int .u32 x.adv, .int .i32 x.seq, .int .u16 x.sum, .int .u16 x.len, v] 53)) = w0 at *
  obtain ⟨g0, hg0⟩ : ∃ g, w.heap.size = g := ⟨_, rfl⟩
  rw [hg0] at R0 hz ⊢
  have HG0 : Hid (w.heap.size = g0) := hg0
  clear hg0
  refine Calls.mono HM ?_
  rintro e' w1 ⟨rfl, rfl⟩
  clear HM
  have hm := HS0.map.runLen
  have q0 : w0.cell? ⟨L, 1, none⟩ = some (.int .u16 wt) := HS0.row.cell 1
  have q1 : w0.cell? ⟨L, 2, none⟩ = some (.map (some m)) := HS0.row.cell 2
  have hf : w0.frozen? ⟨L, 1, none⟩ = false := HS0.row.frozen 1
  have hL := HS0.row.lt
  have p0 : w0.cell? ⟨g0, 0, none⟩ = some (.int .u16 x.age) := R0.cell 0
  have p1 : w0.cell? ⟨g0, 1, none⟩ = some (.int .u8 x.opts) := R0.cell 1
  have p2 : w0.cell? ⟨g0, 2, none⟩ = some (.int .u8 x.typ) := R0.cell 2
  have p3 : w0.cell? ⟨g0, 3, none⟩ = some (.int .u32 x.id) := R0.cell 3
  have p4 : w0.cell? ⟨g0, 4, none⟩ = some (.int .u32 x.adv) := R0.cell 4
  have p5 : w0.cell? ⟨g0, 5, none⟩ = some (.int .i32 x.seq) := R0.cell 5
  have p6 : w0.cell? ⟨g0, 6, none⟩ = some (.int .u16 x.sum) := R0.cell 6
  have p7 : w0.cell? ⟨g0, 7, none⟩ = some (.int .u16 x.len) := R0.cell 7
  have p8 : w0.cell? ⟨g0, 8, none⟩ = some (v) := R0.cell 8
  have hg := R0.lt
  obtain ⟨N, hN⟩ : ∃ N : Int, (l.length : Int) = N := ⟨_, rfl⟩
  rw [hN] at hm
  have STEP : ∃ wt2 : Int, ((l = [] → wt2 = 0) ∧ (l ≠ [] → wt2 = wt)) := by
    by_cases c : l = []
    · exact ⟨0, fun _ => rfl, fun q => absurd c q⟩
    · exact ⟨wt, fun q => absurd q c, fun _ => rfl⟩
  obtain ⟨wt2, hw2⟩ := STEP
  have HW : Hid ((l = [] → wt2 = 0) ∧ (l ≠ [] → wt2 = wt)) := hw2
  by_cases hl : l = []
  focus
    have hw : wt2 = 0 := hw2.1 hl
    have hNb : (N == 0) = true := by rw [← hN, hl]; rfl
    have X : Hid (LSt (w0.setCell ⟨L, 1, none⟩ (.int .u16 0)) L m e rx wt2 l ∧ Row (w0.setCell ⟨L, 1, none⟩ (.int .u16 0)) g0 53 [.int .u16 x.age, .int .u8 x.opts, .int .u8 x.typ, .int .u32 x.id, .int .u32 x.adv, .int .i32 x.seq, .int .u16 x.sum, .int .u16 x.len, v] ∧ Touch (LB L m e l) w (w0.setCell ⟨L, 1, none⟩ (.int .u16 0))) := by
      have T1 : Touch (fun k => k = L) w0 (w0.setCell ⟨L, 1, none⟩ (.int .u16 0)) := (Touch.refl (fun k => k = L) w0).setCell (p := ⟨L, 1, none⟩) (Or.inl rfl) _
      have hLg : g0 ≠ L := by have := hz.out L (Or.inl rfl); omega
      have nd := HS0.nd
      have HR := HS0.row.set 1 (.int .u16 0)
      refine ⟨⟨by rw [hw]; exact HR, HS0.map.keep T1 (fun q => (List.nodup_cons.1 nd).1 (List.mem_cons.2 (Or.inl q.symm))), ?_, nd, HS0.ky, HS0.ok⟩, R0.other (p := ⟨L, 1, none⟩) hLg _, (T0.mono (fun _ _ f => f.elim)).trans' T1 (fun k _ q => Or.inl q)⟩
      subst hl
      exact ⟨HS0.ring.ends.other (p := ⟨L, 1, none⟩) (fun q => (List.nodup_cons.1 nd).1 (List.mem_cons_of_mem _ (List.mem_cons.2 (Or.inl q.symm)))) _, trivial⟩
    clear hw hw2 hl hN HS0 R0 T0
    have hLg : ¬ (L = g0) := by have := hz.out L (Or.inl rfl); omega
    go_wp2_with fail
    generalize w0.setCell ⟨L, 1, none⟩ (.int .u16 0) = w2 at *
    clear hLg hNb hm q0 q1 hf hL hg p0 p1 p2 p3 p4 p5 p6 p7 p8
  rotate_left
  focus
    have hw : wt2 = wt := hw2.2 hl
    have hNb : (N == 0) = false := by rw [← hN]; simpa using hl
    have X : Hid (LSt w0 L m e rx wt2 l ∧ Row w0 g0 53 [.int .u16 x.age, .int .u8 x.opts, .int .u8 x.typ, .int .u32 x.id, .int .u32 x.adv, .int .i32 x.seq, .int .u16 x.sum, .int .u16 x.len, v] ∧ Touch (LB L m e l) w w0) := ⟨by rw [hw]; exact HS0, R0, T0.mono (fun _ _ f => f.elim)⟩
    clear hw hw2 hl hN HS0 R0 T0
    go_wp2_with fail
    clear hNb hm q0 q1 hf hL hg p0 p1 p2 p3 p4 p5 p6 p7 p8
    obtain ⟨w2, e2⟩ : ∃ w2, w2 = w0 := ⟨_, rfl⟩
    subst e2
  all_goals
    obtain ⟨HS2, R2, T2⟩ := X.out
    clear X
    refine Calls.mono (lkey_any _ x) ?_
    rintro e' w3 ⟨rfl, t3⟩
    have HS3 := HS2.keepN t3
    have R3 := R2.keep t3
    have T3 := T2.trans' t3 (fun _ _ f => f.elim)
    clear HS2 R2 T2 t3
    have t4 : Touch (fun _ => False) w3 (w3.alloc (.cells #[.int .u8 x.typ, .int .u32 x.id, .int .u32 x.adv] 55)) := (Touch.refl _ _).alloc _
    have K4 : Row (w3.alloc (.cells #[.int .u8 x.typ, .int .u32 x.id, .int .u32 x.adv] 55)) w3.heap.size 55 [.int .u8 x.typ, .int .u32 x.id, .int .u32 x.adv] := row_new _ _ _
    have HS4 := HS3.keepN t4
    have R4 := R3.keep t4
    have T4 := T3.trans' t4 (fun _ _ f => f.elim)
    have g1lt : Hid (∀ k, LB L m e l k → k < w3.heap.size) := fun k hk => HS3.lb_lt hk
    have g01 : g0 < w3.heap.size := R3.lt
    have HR := lrem_any _ L m e rx wt2 l HS4 x HX.out
    have Y : Hid (Row (w3.alloc (.cells #[.int .u8 x.typ, .int .u32 x.id, .int .u32 x.adv] 55)) g0 53 [.int .u16 x.age, .int .u8 x.opts, .int .u8 x.typ, .int .u32 x.id, .int .u32 x.adv, .int .i32 x.seq, .int .u16 x.sum, .int .u16 x.len, v] ∧ Row (w3.alloc (.cells #[.int .u8 x.typ, .int .u32 x.id, .int .u32 x.adv] 55)) w3.heap.size 55 [.int .u8 x.typ, .int .u32 x.id, .int .u32 x.adv] ∧ Touch (LB L m e l) w (w3.alloc (.cells #[.int .u8 x.typ, .int .u32 x.id, .int .u32 x.adv] 55)) ∧ (∀ i ∈ l, i.h.Al)) := ⟨R4, K4, T4, HS4.ok⟩
    clear HS3 R3 T3 t4 K4 HS4 R4 T4
    go_wp2_with fail
    refine Calls.mono HR ?_
    rintro e' w5 ⟨rfl, HS5, t5⟩
    clear HR
    obtain ⟨R4, K4, T4, hok⟩ := Y.out
    have n0 : ¬ LB L m e l g0 := fun q => by have := hz.out g0 q; omega
    have n1 : ¬ LB L m e l w3.heap.size := fun q => by have := g1lt.out _ q; omega
    have R5 : Row w5 g0 53 [.int .u16 x.age, .int .u8 x.opts, .int .u8 x.typ, .int .u32 x.id, .int .u32 x.adv, .int .i32 x.seq, .int .u16 x.sum, .int .u16 x.len, v] := (t5.block _ R4.lt n0).trans R4
    have K5 : Row w5 w3.heap.size 55 [.int .u8 x.typ, .int .u32 x.id, .int .u32 x.adv] := (t5.block _ K4.lt n1).trans K4
    have T5 := T4.trans t5
    clear Y R4 K4 T4 t5
    generalize w3.heap.size = g1 at *
    generalize (l.any fun i => i.h.sk x) = bb at *
    have HOW : Hid (∀ w', SnL w5 w' → Calls Try.prog 40 #[.agg #[.int .u16 x.age, .int .u8 x.opts, .int .u8 x.typ, .int .u32 x.id, .int .u32 x.adv, .int .i32 x.seq, .int .u16 x.sum, .int .u16 x.len, v]] w' fun e' w'' => ∃ ua un uc, e' = .returned (.agg #[.int .u16 x.age, .int .u8 x.opts, .int .u8 x.typ, .int .u32 x.id, .int .u32 x.adv, .int .i32 x.seq, .int .u16 x.sum, .int .u16 x.len, .slice ua un uc]) ∧ (∀ w3, Touch (LB L m e l) w'' w3 → P (.slice ua un uc) w''.heap.size w3) ∧ Touch (fun _ => False) w' w'') := fun w' s => HOh.out w' (T5.trans' s.t (fun _ _ f => f.elim))
    have z0 := snL_cell (show w5.cell? ⟨g0, 0, none⟩ = some (.int .u16 x.age) from R5.cell 0)
    have z1 := snL_cell (show w5.cell? ⟨g0, 1, none⟩ = some (.int .u8 x.opts) from R5.cell 1)
    have z2 := snL_cell (show w5.cell? ⟨g0, 2, none⟩ = some (.int .u8 x.typ) from R5.cell 2)
    have z3 := snL_cell (show w5.cell? ⟨g0, 3, none⟩ = some (.int .u32 x.id) from R5.cell 3)
    have z4 := snL_cell (show w5.cell? ⟨g0, 4, none⟩ = some (.int .u32 x.adv) from R5.cell 4)
    have z5 := snL_cell (show w5.cell? ⟨g0, 5, none⟩ = some (.int .i32 x.seq) from R5.cell 5)
    have z6 := snL_cell (show w5.cell? ⟨g0, 6, none⟩ = some (.int .u16 x.sum) from R5.cell 6)
    have z7 := snL_cell (show w5.cell? ⟨g0, 7, none⟩ = some (.int .u16 x.len) from R5.cell 7)
    have z8 := snL_cell (show w5.cell? ⟨g0, 8, none⟩ = some (v) from R5.cell 8)
    have z9 := snL_cell (show w5.cell? ⟨L, 3, none⟩ = some (.pointer (some ⟨e, 0, none⟩)) from HS5.row.cell 3)
    have z10 := snL_cell (show w5.cell? ⟨e, 9, none⟩ = some (.pointer (some ⟨lst e (dropK l x), 0, none⟩)) from HS5.ring.ends.cell 9)
    have Y : Hid (LSt w5 L m e rx wt2 (dropK l x) ∧ Row w5 g1 55 [.int .u8 x.typ, .int .u32 x.id, .int .u32 x.adv] ∧ Touch (LB L m e l) w w5 ∧ (∀ i ∈ l, i.h.Al)) := ⟨HS5, K5, T5, hok⟩
    have st := SnL.start w5
    clear HS5 R5 K5 T5 HOh hok
    obtain ⟨la, hla⟩ : ∃ la, lst e (dropK l x) = la := ⟨_, rfl⟩
    rw [hla] at z10
    have HLA : Hid (lst e (dropK l x) = la) := hla
    clear hla
    go_upto_region 6 with fail
    go_region_held3 (fun w' => SnL w5 w') (first | with_reducible assumption | (refine SnL.alloc ?_ _; with_reducible assumption)) ((go_at_call 40; refine Calls.mono (HOW.out _ (by with_reducible assumption)) ?_; rintro e' w6 ⟨ua, un, uc, rfl, hpu, tu⟩; have st6 : SnL w5 w6 := SnL.trans (by with_reducible assumption) tu; have HPU : Hid (∀ w3, Touch (LB L m e l) w6 w3 → P (.slice ua un uc) w6.heap.size w3) := hpu; clear hpu tu))
    obtain ⟨HS5, K5, T5, hok⟩ := Y.out
    clear Y z0 z1 z2 z3 z4 z5 z6 z7 z8 z9 z10 st HOW
    have t6 := st6.t
    have HS6 := HS5.keepN t6
    have K6 := K5.keep t6
    have T6 := T5.trans' t6 (fun _ _ f => f.elim)
    have t7 : Touch (fun _ => False) w6 (w6.alloc (.cells #[.int .u16 x.age, .int .u8 x.opts, .int .u8 x.typ, .int .u32 x.id, .int .u32 x.adv, .int .i32 x.seq, .int .u16 x.sum, .int .u16 x.len, .slice ua un uc, .pointer (some ⟨la, 0, none⟩), .pointer (some ⟨e, 0, none⟩)] 72)) := (Touch.refl _ _).alloc _
    have RP : Row (w6.alloc (.cells #[.int .u16 x.age, .int .u8 x.opts, .int .u8 x.typ, .int .u32 x.id, .int .u32 x.adv, .int .i32 x.seq, .int .u16 x.sum, .int .u16 x.len, .slice ua un uc, .pointer (some ⟨la, 0, none⟩), .pointer (some ⟨e, 0, none⟩)] 72)) w6.heap.size 72 (x.pl (.slice ua un uc) la e) := row_new _ _ _
    have HS7 := HS6.keepN t7
    have K7 := K6.keep t7
    have T7 := T6.trans' t7 (fun _ _ f => f.elim)
    have hb : ∀ k, LB L m e (dropK l x) k → k < w6.heap.size := fun k hk => HS6.lb_lt hk
    have hb0 : w.heap.size ≤ w6.heap.size := T6.size
    have hb1 : g1 < w6.heap.size := K6.lt
    have HP7 : Hid (∀ w3, Touch (LB L m e l) (w6.alloc (.cells #[.int .u16 x.age, .int .u8 x.opts, .int .u8 x.typ, .int .u32 x.id, .int .u32 x.adv, .int .i32 x.seq, .int .u16 x.sum, .int .u16 x.len, .slice ua un uc, .pointer (some ⟨la, 0, none⟩), .pointer (some ⟨e, 0, none⟩)] 72)) w3 → P (.slice ua un uc) w6.heap.size w3) := fun w3 t => HPU.out w3 ((t7.mono (fun _ _ f => f.elim)).trans t)
    clear HPU st6 t6 HS6 K6 T6 HS5 K5 T5 t7
    generalize (w6.alloc (.cells #[.int .u16 x.age, .int .u8 x.opts, .int .u8 x.typ, .int .u32 x.id, .int .u32 x.adv, .int .i32 x.seq, .int .u16 x.sum, .int .u16 x.len, .slice ua un uc, .pointer (some ⟨la, 0, none⟩), .pointer (some ⟨e, 0, none⟩)] 72)) = w7 at *
    generalize hbb : w6.heap.size = b at *
    clear hbb
    have LAm := lst_mem (dropK l x) e
    have nd := HS7.nd
    have nd0 : (L :: m :: e :: (dropK l x ++ [(⟨x, .slice ua un uc, b⟩ : It)]).map (·.b)).Nodup := by
      have hbn : ∀ k ∈ L :: m :: e :: (dropK l x).map (·.b), k ≠ b := by
        intro k hk
        have : LB L m e (dropK l x) k := by
          simp only [List.mem_cons, List.mem_map] at hk
          rcases hk with h | h | h | ⟨i, h1, h2⟩
          · exact Or.inl h
          · exact Or.inr (Or.inl h)
          · exact Or.inr (Or.inr (Or.inl h))
          · exact Or.inr (Or.inr (Or.inr ⟨i, h1, h2.symm⟩))
        have := hb k this
        omega
      have e0 : L :: m :: e :: (dropK l x ++ [(⟨x, .slice ua un uc, b⟩ : It)]).map (·.b) = (L :: m :: e :: (dropK l x).map (·.b)) ++ [b] := by simp
      rw [e0]
      exact List.nodup_append.2 ⟨nd, by simp, fun k hk k' hk' => by simp at hk'; rw [hk']; exact hbn k hk⟩
    have nd3 := (List.nodup_cons.1 (List.nodup_cons.1 nd0).2).2
    rw [← HLA.out] at RP
    have RA := HS7.ring.add (i := ⟨x, .slice ua un uc, b⟩) RP nd3
    rw [HLA.out] at RP RA LAm
    obtain ⟨yu, vu, pu, nu, RU⟩ := HS7.ring.any (k := la) LAm
    have RE : ∃ pv nv, Row w7 e 72 (H0.pl (.slice none 0 0) pv nv) := ⟨_, _, HS7.ring.ends⟩
    obtain ⟨pv, nv, RE⟩ := RE
    have hl : LB L m e l la := by
      rcases LAm with q | ⟨i, hi, q⟩
      · exact Or.inr (Or.inr (Or.inl q))
      · exact Or.inr (Or.inr (Or.inr ⟨i, (dropK_mem hi).1, q⟩))
    have hne : la ≠ L ∧ la ≠ m := by
      rcases LAm with q | ⟨i, hi, q⟩
      · rw [q]
        exact ⟨fun q => (List.nodup_cons.1 nd).1 (by simp [q]), fun q => (List.nodup_cons.1 (List.nodup_cons.1 nd).2).1 (by simp [q])⟩
      · rw [q]
        exact ⟨fun q => (List.nodup_cons.1 nd).1 (List.mem_cons_of_mem _ (List.mem_cons_of_mem _ (List.mem_map.2 ⟨i, hi, q⟩))), fun q => (List.nodup_cons.1 (List.nodup_cons.1 nd).2).1 (List.mem_cons_of_mem _ (List.mem_map.2 ⟨i, hi, q⟩))⟩
    have hel : e ≠ L ∧ e ≠ m := ⟨fun q => (List.nodup_cons.1 nd).1 (by simp [q]), fun q => (List.nodup_cons.1 (List.nodup_cons.1 nd).2).1 (by simp [q])⟩
    have gla : g1 ≠ la := fun q => by have := g1lt.out la hl; omega
    have ge : g1 ≠ e := fun q => by have := g1lt.out e (Or.inr (Or.inr (Or.inl rfl))); omega
    have c9 : w7.cell? ⟨b, 9, none⟩ = some (.pointer (some ⟨la, 0, none⟩)) := RP.cell 9
    have c10 : w7.cell? ⟨b, 10, none⟩ = some (.pointer (some ⟨e, 0, none⟩)) := RP.cell 10
    have d10 : w7.cell? ⟨la, 10, none⟩ = some (.pointer (some ⟨nu, 0, none⟩)) := RU.cell 10
    have d9 : w7.cell? ⟨e, 9, none⟩ = some (.pointer (some ⟨pv, 0, none⟩)) := RE.cell 9
    have fu := RU.frozen
    have fv := RE.frozen
    have hI := RP.lt
    have hU := RU.lt
    have hV := RE.lt
    have T8 : Touch (fun k => k = la ∨ k = e) w7 ((w7.setCell ⟨la, 10, none⟩ (.pointer (some ⟨b, 0, none⟩))).setCell ⟨e, 9, none⟩ (.pointer (some ⟨b, 0, none⟩))).drew := (((Touch.refl (fun k => k = la ∨ k = e) w7).setCell (p := ⟨la, 10, none⟩) (Or.inl (Or.inl rfl)) _).setCell (p := ⟨e, 9, none⟩) (Or.inl (Or.inr rfl)) _).drew
    have Y : Hid (Row ((w7.setCell ⟨la, 10, none⟩ (.pointer (some ⟨b, 0, none⟩))).setCell ⟨e, 9, none⟩ (.pointer (some ⟨b, 0, none⟩))).drew L 64 (LC rx wt2 m e) ∧ PM ((w7.setCell ⟨la, 10, none⟩ (.pointer (some ⟨b, 0, none⟩))).setCell ⟨e, 9, none⟩ (.pointer (some ⟨b, 0, none⟩))).drew m (dropK l x) ∧ Row ((w7.setCell ⟨la, 10, none⟩ (.pointer (some ⟨b, 0, none⟩))).setCell ⟨e, 9, none⟩ (.pointer (some ⟨b, 0, none⟩))).drew g1 55 [.int .u8 x.typ, .int .u32 x.id, .int .u32 x.adv] ∧ Ring ((w7.setCell ⟨la, 10, none⟩ (.pointer (some ⟨b, 0, none⟩))).setCell ⟨e, 9, none⟩ (.pointer (some ⟨b, 0, none⟩))).drew e (dropK l x ++ [⟨x, .slice ua un uc, b⟩]) ∧ Touch (LB L m e l) w ((w7.setCell ⟨la, 10, none⟩ (.pointer (some ⟨b, 0, none⟩))).setCell ⟨e, 9, none⟩ (.pointer (some ⟨b, 0, none⟩))).drew ∧ (∀ w3, Touch (LB L m e l) ((w7.setCell ⟨la, 10, none⟩ (.pointer (some ⟨b, 0, none⟩))).setCell ⟨e, 9, none⟩ (.pointer (some ⟨b, 0, none⟩))).drew w3 → P (.slice ua un uc) b w3)) := by
      refine ⟨(T8.block L HS7.row.lt (fun q => q.elim (fun q => hne.1 q.symm) (fun q => hel.1 q.symm))).trans HS7.row, HS7.map.keep T8 (fun q => q.elim (fun q => hne.2 q.symm) (fun q => hel.2 q.symm)), (T8.block g1 K7.lt (fun q => q.elim gla ge)).trans K7, ⟨RA.ends, RA.seg.same (fun _ _ => rfl)⟩, T7.trans' T8 (fun k _ q => q.elim (fun q => q ▸ hl) (fun q => Or.inr (Or.inr (Or.inl q)))), fun w3 t => HP7.out w3 ((T8.mono (fun k _ q => q.elim (fun q => q ▸ hl) (fun q => Or.inr (Or.inr (Or.inl q))))).trans t)⟩
    have Z : Hid ((L :: m :: e :: (dropK l x ++ [(⟨x, .slice ua un uc, b⟩ : It)]).map (·.b)).Nodup ∧ (∀ i ∈ dropK l x, i.h.Al) ∧ ((dropK l x).map (fun i => i.h.ky)).Nodup ∧ w.heap.size ≤ b ∧ (∀ k, LB L m e (dropK l x) k → k < b)) := ⟨nd0, HS7.ok, HS7.ky, hb0, hb⟩
    clear HS7 K7 T7 hb hb0 hb1 HP7 LAm nd nd0 nd3 RA RU RE RP hl hne hel gla ge T8
    go_upto_region 7 with fail
    go_cut [] (fun wx => wx = ((w7.setCell ⟨la, 10, none⟩ (.pointer (some ⟨b, 0, none⟩))).setCell ⟨e, 9, none⟩ (.pointer (some ⟨b, 0, none⟩))).drew)
    case first =>
      go_region
      all_goals go_wp2_with fail
      all_goals go_meet
      all_goals rfl
    case rest =>
      subst hcut
      obtain ⟨RL, RM, RK, RR, T8, HP8⟩ := Y.out
      clear Y c9 c10 d9 d10 fu fv hI hU hV
      generalize ((w7.setCell ⟨la, 10, none⟩ (.pointer (some ⟨b, 0, none⟩))).setCell ⟨e, 9, none⟩ (.pointer (some ⟨b, 0, none⟩))).drew = w8 at *
      have q0 : w8.cell? ⟨L, 2, none⟩ = some (.map (some m)) := RL.cell 2
      have k0 : w8.cell? ⟨g1, 0, none⟩ = some (.int .u8 x.typ) := RK.cell 0
      have k1 : w8.cell? ⟨g1, 1, none⟩ = some (.int .u32 x.id) := RK.cell 1
      have k2 : w8.cell? ⟨g1, 2, none⟩ = some (.int .u32 x.adv) := RK.cell 2
      have hL := RL.lt
      have hk := RK.lt
      obtain ⟨w9, hr, PM9, T9⟩ := (RM.keep ((Touch.refl (fun _ => False) w8).drew) (fun h => h)).put Z.out.2.1 ⟨x, .slice ua un uc, b⟩ HX.out (fun j hj => (dropK_mem hj).2)
      have hr : (Instr.mapUpdate 61 (.map (some m)) (.agg #[.int .u8 x.typ, .int .u32 x.id, .int .u32 x.adv]) (.pointer (some ⟨b, 0, none⟩))).run Try.prog w8.drew = .ok () w9 := hr
      have t9 : Touch (fun k => k = m) w8 w9 := (Touch.refl (fun k => k = m) w8).drew.trans T9
      obtain ⟨nd0, ok7, ky7, hb0, hb⟩ := Z.out
      have nLm : L ≠ m := fun q => (List.nodup_cons.1 nd0).1 (by simp [q])
      have nEm : e ≠ m := fun q => (List.nodup_cons.1 (List.nodup_cons.1 nd0).2).1 (by simp [q])
      have nPm : ∀ j ∈ dropK l x ++ [(⟨x, .slice ua un uc, b⟩ : It)], j.b ≠ m := fun j hj q => (List.nodup_cons.1 (List.nodup_cons.1 nd0).2).1 (List.mem_cons_of_mem _ (List.mem_map.2 ⟨j, hj, q⟩))
      have rs : ∀ j ∈ dropK l x ++ [(⟨x, .slice ua un uc, b⟩ : It)], j.b < w8.heap.size := fun j hj => by
        obtain ⟨_, _, _, _, y⟩ := RR.any (Or.inr ⟨j, hj, rfl⟩)
        exact y.lt
      have FIN : Hid (LSt w9 L m e rx wt2 (dropK l x ++ [⟨x, .slice ua un uc, b⟩]) ∧ P (.slice ua un uc) b w9 ∧ w.heap.size ≤ b ∧ ((l = [] → wt2 = 0) ∧ (l ≠ [] → wt2 = wt)) ∧ Touch (LB L m e l) w w9) := by
        refine ⟨⟨(t9.block L RL.lt nLm).trans RL, PM9, ⟨(t9.block e RR.ends.lt nEm).trans RR.ends, RR.seg.same (fun j hj => t9.block j.b (rs j hj) (nPm j hj))⟩, nd0, ?_, ?_⟩, HP8 w9 (t9.mono (fun k _ q => Or.inr (Or.inl q))), hb0, HW.out, T8.trans' t9 (fun k _ q => Or.inr (Or.inl q))⟩
        · rw [List.map_append]
          exact List.nodup_append.2 ⟨ky7, by simp, fun k hk k' hk' => by simp at hk'; obtain ⟨i, hi, e1⟩ := List.mem_map.1 hk; rw [hk', ← e1]; exact (dropK_mem hi).2⟩
        · intro i hi
          rcases List.mem_append.1 hi with hi | hi
          · exact ok7 i hi
          · simp at hi; rw [hi]; exact HX.out
      clear Z RL RM RK RR T8 HP8 PM9 T9 t9 nd0 ok7 ky7 hb0 hb nLm nEm nPm rs
      go_upto_region 8 with fail
      go_region
      all_goals go_wp2_with fail
      all_goals refine bodyPost_end (results_none rfl _ _ _) rfl ?_
      all_goals exact ⟨rfl, _, b, wt2, FIN.out⟩
end Go.Proofs.Ytedolfggbgmklaa
