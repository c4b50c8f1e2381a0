
/- The calls of a queue: New, Drop, When, Put. -/
import Derived.Test.YtmdnlfbploaafaaQuCalls
namespace Go.Proofs.Ytmdnlfbploaafaa
open Go.RowKit
set_option linter.unusedVariables false
set_option maxRecDepth 100000

set_option maxHeartbeats 400000 in
theorem new_no (w : World) (most : Int) (h : most < 1 ∨ 1048576 < most) : Calls Try.prog 9 #[.int .i64 most] w fun e w' => e = .returned (.pointer none) ∧ w = w' := by
  rcases h with h | h
  · go_enter Try.func9, Try.ntmps9
    go_wp2
    go_ret
    exact ⟨rfl, rfl⟩
  · have h' : ¬ most < 1 := by omega
    go_enter Try.func9, Try.ntmps9
    go_wp2
    go_ret
    exact ⟨rfl, rfl⟩
/-- A new queue. -/
structure NewP (w : World) (most : Int) (e : Ending) (w' : World) : Prop where
  out : ∃ b m, e = .returned (.pointer (some ⟨b, 0, none⟩)) ∧ QS w' b (.slice none 0 0) m most [] ∧ w.heap.size ≤ b ∧ w.heap.size ≤ m
  t : Touch (fun _ => False) w w'
set_option maxHeartbeats 400000 in
theorem new_yes (w : World) (most : Int) (h1 : 1 ≤ most) (h2 : most ≤ 1048576) : Calls Try.prog 9 #[.int .i64 most] w (NewP w most) := by
  have h1' : ¬ most < 1 := by omega
  have h2' : ¬ 1048576 < most := by omega
  have hmk := run_makeMap (P := Try.prog) 55
  go_enter Try.func9, Try.ntmps9
  go_wp2
  go_ret
  have T : Touch (fun _ => False) (w.alloc (.map #[] 0)) ((w.alloc (.map #[] 0)).alloc (.cells #[.slice none 0 0, .map (some w.heap.size), .int .i64 most] 59)) := (Touch.refl _ _).alloc _
  refine ⟨⟨w.heap.size + 1, w.heap.size, rfl, ⟨⟨fun _ => none, ⟨by simp [go_sem], by simp [go_sem], by simp [go_sem], World.ownsRow_nil _ _ _ _, (MP.made w).keep T (fun h => h), fun i hi => by simp at hi, fun e he => by simp at he, by simp [Value.ownBlock], by simp, by simp⟩, fun k _ _ h => absurd rfl h⟩, fun c _ hc => by simp at hc, by simp [go_sem], h1, h2, by simp; omega⟩, by omega, by omega⟩, ((Touch.refl _ _).alloc _).alloc _⟩

/-- Is there an entry of that key? -/
def hasK (l : List En) (k : Int) : Bool := l.any (fun y => decide (y.k = k))
theorem hasK_true {l : List En} {k : Int} : hasK l k = true ↔ ∃ y ∈ l, y.k = k := by simp [hasK]
theorem hasK_false {l : List En} {k : Int} : hasK l k = false ↔ ∀ y ∈ l, y.k ≠ k := by simp [hasK]
theorem hasK_perm {l l' : List En} (p : l.Perm l') (k : Int) : hasK l k = hasK l' k := by
  rw [Bool.eq_iff_iff, hasK_true, hasK_true]
  exact ⟨fun ⟨y, hy, e⟩ => ⟨y, p.mem_iff.1 hy, e⟩, fun ⟨y, hy, e⟩ => ⟨y, p.mem_iff.2 hy, e⟩⟩
theorem QS.find {w : World} {b : Nat} {v : Value} {m : Nat} {most : Int} {l : List En} (h : QS w b v m most l) (k : Int) (k0 : 0 ≤ k) (k1 : k < 18446744073709551616) :
    ∃ f, PS w b v m l.length l f ∧ (∀ k, 0 ≤ k → k < 18446744073709551616 → f k ≠ none → ∃ y ∈ l, y.k = k) ∧ ((hasK l k = false ∧ f k = none) ∨ (hasK l k = true ∧ ∃ i, i < l.length ∧ f k = some (i : Int) ∧ (gt l i).k = k)) := by
  obtain ⟨f, P, cv⟩ := h.out
  refine ⟨f, P, cv, ?_⟩
  cases hf : f k with
  | none =>
    refine Or.inl ⟨hasK_false.2 (fun y hy e => ?_), rfl⟩
    obtain ⟨i, hi, rfl⟩ := mem_gt hy
    have := P.d1 i hi
    rw [e, hf] at this
    cases this
  | some z =>
    obtain ⟨y, hy, e⟩ := cv k k0 k1 (by rw [hf]; simp)
    obtain ⟨i, hi, rfl⟩ := mem_gt hy
    have h2 := P.d1 i hi
    rw [e, hf] at h2
    exact Or.inr ⟨hasK_true.2 ⟨_, hy, e⟩, i, hi, h2, e⟩

set_option maxHeartbeats 1000000 in
theorem drop_any (w : World) (b : Nat) (v : Value) (m : Nat) (most : Int) (l : List En) (k : Int) (k0 : 0 ≤ k) (k1 : k < 18446744073709551616) (h : QS w b v m most l) :
    Calls Try.prog 20 #[.pointer (some ⟨b, 0, none⟩), .int .u64 k] w fun e w' => e = .returned (.bool (hasK l k)) ∧ QN w b v m most (noK l k) w' := by
  have HM := made_yes w b most h.c2 (by have := h.m1; omega)
  obtain ⟨f, P, cv, hf⟩ := h.find k k0 k1
  have c1 := P.c1
  have HQ : Hid _ := h
  rcases hf with ⟨hk, hf⟩ | ⟨hk, i, hi, hf, ei⟩
  · have E := P.mp.look_none k0 k1 hf
    have e1 : noK l k = l := noK_self (hasK_false.1 hk)
    rw [hk, e1]
    clear P cv h hf hk e1
    go_enter Try.func20, Try.ntmps20
    go_wp2_with ((go_at_call 28; refine Calls.mono HM ?_; rintro e w1 ⟨rfl, rfl⟩))
    go_ret
    exact ⟨rfl, QN.same HQ.out (Touch.refl _ _)⟩
  · have E := P.mp.look_some k0 k1 hf
    have hl1 : l.length = l.length - 1 + 1 := by omega
    have P1 := P
    rw [hl1] at P1
    have HC : Hid (Calls Try.prog 35 #[.pointer (some ⟨b, 0, none⟩), .int .i64 i] w fun e w' => ∃ z, e = .returned z ∧ QN w b v m most (noK l k) w') := by
      refine Calls.mono (cut_any w b v m (l.length - 1) l f P1 h.hp i hi) ?_
      intro e w' c
      have q := cut_qn (Touch.refl _ _) c hl1 P.nk h.c2 cv h.m1 h.m2 h.ml
      rw [ei] at q
      exact ⟨_, c.e, q⟩
    rw [hk]
    clear P P1 cv h hf hk hl1 ei hi
    go_enter Try.func20, Try.ntmps20
    go_wp2_with ((go_at_call 28; refine Calls.mono HM ?_; rintro e w1 ⟨rfl, rfl⟩))
    refine Calls.mono HC.out ?_
    rintro e w1 ⟨z, rfl, q1⟩
    have HQ1 : Hid _ := q1
    clear q1
    go_wp2_with fail
    go_ret
    exact ⟨rfl, HQ1.out⟩

/-- When the entry of that key is due. -/
structure WhenP (l : List En) (k : Int) (a : Int) (z : Bool) : Prop where
  no : (∀ y ∈ l, y.k ≠ k) → a = 0 ∧ z = false
  yes : ∀ y ∈ l, y.k = k → a = y.a ∧ z = true
theorem WhenP.one {l l' : List En} {k a a' : Int} {z z' : Bool} (h : WhenP l k a z) (h' : WhenP l' k a' z') (p : l.Perm l') : a = a' ∧ z = z' := by
  by_cases hk : ∀ y ∈ l, y.k ≠ k
  · have h1 := h.no hk
    have h2 := h'.no (fun y hy => hk y (p.mem_iff.2 hy))
    exact ⟨h1.1.trans h2.1.symm, h1.2.trans h2.2.symm⟩
  · obtain ⟨y, h1⟩ := Classical.not_forall.1 hk
    obtain ⟨hy, h1⟩ := Classical.not_imp.1 h1
    have e1 := Classical.not_not.1 h1
    have h2 := h.yes y hy e1
    have h3 := h'.yes y (p.mem_iff.1 hy) e1
    exact ⟨h2.1.trans h3.1.symm, h2.2.trans h3.2.symm⟩
set_option maxHeartbeats 1000000 in
theorem when_any (w : World) (b : Nat) (v : Value) (m : Nat) (most : Int) (l : List En) (k : Int) (k0 : 0 ≤ k) (k1 : k < 18446744073709551616) (h : QS w b v m most l) :
    ∃ a z, WhenP l k a z ∧ Calls Try.prog 21 #[.pointer (some ⟨b, 0, none⟩), .int .u64 k] w fun e w' => e = .returned (.tuple #[.int .i64 a, .bool z]) ∧ Touch (fun _ => False) w w' := by
  have HM := made_yes w b most h.c2 (by have := h.m1; omega)
  have nk := h.nk
  obtain ⟨f, P, cv, hf⟩ := h.find k k0 k1
  have c0 := P.c0
  have c1 := P.c1
  rcases hf with ⟨hk, hf⟩ | ⟨hk, i, hi, hf, ei⟩
  · refine ⟨0, false, ⟨fun _ => ⟨rfl, rfl⟩, fun y hy e => absurd e (hasK_false.1 hk y hy)⟩, ?_⟩
    have E := P.mp.look_none k0 k1 hf
    clear P cv h hf hk
    go_enter Try.func21, Try.ntmps21
    go_wp2_with ((go_at_call 28; refine Calls.mono HM ?_; rintro e w1 ⟨rfl, rfl⟩))
    go_ret2
    exact ⟨rfl, Touch.refl _ _⟩
  · refine ⟨(gt l i).a, true, ⟨fun hn => absurd ei (hn _ (gt_mem hi)), fun y hy e => ⟨by rw [nk.eq (gt_mem hi) hy (ei.trans e.symm)], rfl⟩⟩, ?_⟩
    have E := P.mp.look_some k0 k1 hf
    obtain ⟨g, cap, rfl, hcap, hg⟩ := P.re.form (by omega)
    obtain ⟨x0, x1, x2⟩ := P.re.cells hi
    have i0 : (0 : Int) ≤ (i : Int) := by omega
    have i1 : (i : Int) < (l.length : Int) := by omega
    generalize gt l i = x at *
    clear P cv h hf hk hcap
    go_enter Try.func21, Try.ntmps21
    go_wp2_with ((go_at_call 28; refine Calls.mono HM ?_; rintro e w1 ⟨rfl, rfl⟩))
    go_ret2
    exact ⟨rfl, Touch.refl _ _⟩

/-- Nothing of x but the blocks F has turned in w. -/
structure SnG (F : Nat → Prop) (x w : World) : Prop where
  t : Touch F x w
theorem snG_cell {F : Nat → Prop} {x : World} {b o : Nat} {v : Value} (hne : ¬ F b) (h : x.cell? ⟨b, o, none⟩ = some v) : ∀ w, SnG F x w → w.cell? ⟨b, o, none⟩ = some v := fun w s => (s.t.cell (p := ⟨b, o, none⟩) (lt_of_cell h) hne).trans h
theorem SnG.start (F : Nat → Prop) (x : World) : SnG F x x.drew := ⟨(Touch.refl _ _).drew⟩

/-- What an entry that is put leaves. -/
def putB (l : List En) (most : Int) (x : En) : Bool := hasK l x.k || decide ((l.length : Int) < most)
def putL (l : List En) (most : Int) (x : En) : List En := if putB l most x then x :: noK l x.k else l
theorem putL_perm {l l' : List En} (p : l.Perm l') (most : Int) (x : En) : putB l most x = putB l' most x ∧ (putL l most x).Perm (putL l' most x) := by
  have e : putB l most x = putB l' most x := by unfold putB; rw [hasK_perm p, p.length_eq]
  refine ⟨e, ?_⟩
  unfold putL
  rw [e]
  split
  · exact (noK_perm p x.k).cons x
  · exact p

set_option maxHeartbeats 2000000 in
theorem put_there (w : World) (b : Nat) (v : Value) (m : Nat) (most : Int) (l : List En) (x : En) (hx : x.Ok) (h : QS w b v m most l) (hk : hasK l x.k = true) :
    Calls Try.prog 17 #[.pointer (some ⟨b, 0, none⟩), .int .i64 x.a, .int .i64 x.r, .int .u64 x.k] w fun e w' => e = .returned (.bool true) ∧ QN w b v m most (x :: noK l x.k) w' := by
  have HM := made_yes w b most h.c2 (by have := h.m1; omega)
  obtain ⟨f, P, cv, hf⟩ := h.find x.k hx.k0 hx.k1
  rcases hf with ⟨hk', hf⟩ | ⟨hk', i, hi, hf, ei⟩
  · rw [hk] at hk'; cases hk'
  have hq : Hid (∀ k, qB b v m k → k < w.heap.size) := h.lt
  have HC : Hid (∀ wx, Touch (fun _ => False) w wx → Calls Try.prog 33 #[.pointer (some ⟨b, 0, none⟩), .int .i64 i, .agg #[.int .i64 x.a, .int .i64 x.r, .int .u64 x.k]] wx fun e w' => e = .returned (.tuple #[]) ∧ QN w b v m most (x :: noK l x.k) w' ∧ Touch (qB b v m) wx w') := by
    intro wx t
    refine Calls.mono (change_any wx b v m l.length l f (P.keep t) h.hp i hi x hx ei.symm) ?_
    rintro e w' ⟨rfl, H⟩
    refine ⟨rfl, heaped_qn t P.lt H (by rw [List.length_set]) h.c2 (fun k k0 k1 hf => ?_) h.m1 h.m2 (by rw [List.length_set]; exact h.ml) (set_perm P.nk hi ei.symm), H.t.t.mono (fun _ _ h => h)⟩
    obtain ⟨y, hy, e⟩ := cv k k0 k1 hf
    obtain ⟨j, hj, rfl⟩ := mem_gt hy
    by_cases hji : j = i
    · subst hji
      exact ⟨x, List.mem_iff_getElem?.2 ⟨j, by simp [hj]⟩, by rw [← ei] at *; exact e⟩
    · refine ⟨gt l j, ?_, e⟩
      have : gt (l.set i x) j = gt l j := by rw [gt_set hi, if_neg hji]
      rw [← this]
      exact gt_mem (by rw [List.length_set]; exact hj)
  have T0 : Touch (fun _ => False) w (w.alloc (.cells #[.int .i64 x.a, .int .i64 x.r, .int .u64 x.k] 41)) := (Touch.refl _ _).alloc _
  have E := (P.mp.keep T0 (fun h => h)).look_some hx.k0 hx.k1 hf
  have c1 := P.c1
  have hb := P.lt
  clear P cv h hf hk hk' ei hi
  go_enter Try.func17, Try.ntmps17
  go_wp2_with ((go_at_call 28; refine Calls.mono HM ?_; rintro e w1 ⟨rfl, rfl⟩))
  have y0 : (w.alloc (.cells #[.int .i64 x.a, .int .i64 x.r, .int .u64 x.k] 41)).cell? ⟨w.heap.size, 0, none⟩ = some (.int .i64 x.a) := by simp [go_sem]
  have y1 : (w.alloc (.cells #[.int .i64 x.a, .int .i64 x.r, .int .u64 x.k] 41)).cell? ⟨w.heap.size, 1, none⟩ = some (.int .i64 x.r) := by simp [go_sem]
  have y2 : (w.alloc (.cells #[.int .i64 x.a, .int .i64 x.r, .int .u64 x.k] 41)).cell? ⟨w.heap.size, 2, none⟩ = some (.int .u64 x.k) := by simp [go_sem]
  clear E
  generalize w.alloc (.cells #[.int .i64 x.a, .int .i64 x.r, .int .u64 x.k] 41) = wa at T0 y0 y1 y2 ⊢
  have HT : Hid _ := T0
  have hH : ¬ qB b v m w.heap.size := fun e => by have := hq.out _ e; omega
  have x0 := snG_cell hH y0
  have x1 := snG_cell hH y1
  have x2 := snG_cell hH y2
  have s0 : SnG (qB b v m) wa wa.drew := SnG.start _ wa
  clear y0 y1 y2 T0 c1 HM
  go_region_held3 (fun w' => SnG (qB b v m) wa w') (with_reducible assumption) ((go_at_call 33; refine Calls.mono (HC.out wa.drew HT.out.drew) ?_; rintro e wx ⟨rfl, qx, tx⟩; have sx : SnG (qB b v m) wa wx := ⟨((Touch.refl _ _).drew).trans tx⟩; have QX : Hid _ := qx; clear qx))
  go_wp2_with fail
  go_ret
  exact ⟨rfl, QX.out⟩

set_option maxHeartbeats 2000000 in
theorem put_full (w : World) (b : Nat) (v : Value) (m : Nat) (most : Int) (l : List En) (x : En) (hx : x.Ok) (h : QS w b v m most l) (hk : hasK l x.k = false) (hf2 : ¬ (l.length : Int) < most) :
    Calls Try.prog 17 #[.pointer (some ⟨b, 0, none⟩), .int .i64 x.a, .int .i64 x.r, .int .u64 x.k] w fun e w' => e = .returned (.bool false) ∧ QN w b v m most l w' := by
  have HM := made_yes w b most h.c2 (by have := h.m1; omega)
  obtain ⟨f, P, cv, hf⟩ := h.find x.k hx.k0 hx.k1
  rcases hf with ⟨hk', hf⟩ | ⟨hk', i, hi, hf, ei⟩
  rotate_left
  · rw [hk] at hk'; cases hk'
  have HQ : Hid _ := h
  have T0 : Touch (fun _ => False) w (w.alloc (.cells #[.int .i64 x.a, .int .i64 x.r, .int .u64 x.k] 41)) := (Touch.refl _ _).alloc _
  have E := (P.mp.keep T0 (fun h => h)).look_none hx.k0 hx.k1 hf
  have c0 := P.c0
  have c1 := P.c1
  have c2 := h.c2
  have hb := P.lt
  obtain ⟨a, c, rfl⟩ := P.re.shape
  have hge : most ≤ (l.length : Int) := by omega
  clear P cv h hf hk hk' hf2
  go_enter Try.func17, Try.ntmps17
  go_wp2_with ((go_at_call 28; refine Calls.mono HM ?_; rintro e w1 ⟨rfl, rfl⟩))
  have d0 := T0.cellN c0
  have d2 := T0.cellN c2
  clear E
  generalize w.alloc (.cells #[.int .i64 x.a, .int .i64 x.r, .int .u64 x.k] 41) = wa at T0 d0 d2 ⊢
  have HT : Hid _ := T0
  replace d0 := snq_cell d0
  replace d2 := snq_cell d2
  have s0 : Snq wa wa.drew := Snq.start wa
  clear T0 c0 c1 c2 HM
  go_region_held3 (fun w' => Snq wa w') (with_reducible assumption) (fail)
  go_wp2_with fail
  go_ret
  exact ⟨rfl, QN.same HQ.out HT.out.drew⟩

set_option maxHeartbeats 2000000 in
theorem put_new (w : World) (b : Nat) (v : Value) (m : Nat) (most : Int) (l : List En) (x : En) (hx : x.Ok) (h : QS w b v m most l) (hk : hasK l x.k = false) (hf2 : (l.length : Int) < most) :
    Calls Try.prog 17 #[.pointer (some ⟨b, 0, none⟩), .int .i64 x.a, .int .i64 x.r, .int .u64 x.k] w fun e w' => e = .returned (.bool true) ∧ QN w b v m most (x :: noK l x.k) w' := by
  have HM := made_yes w b most h.c2 (by have := h.m1; omega)
  obtain ⟨f, P, cv, hf⟩ := h.find x.k hx.k0 hx.k1
  rcases hf with ⟨hk', hf⟩ | ⟨hk', i, hi, hf, ei⟩
  rotate_left
  · rw [hk] at hk'; cases hk'
  have hq : Hid (∀ k, qB b v m k → k < w.heap.size) := h.lt
  have HC : Hid (∀ wx, Touch (fun _ => False) w wx → Calls Try.prog 34 #[.pointer (some ⟨b, 0, none⟩), .agg #[.int .i64 x.a, .int .i64 x.r, .int .u64 x.k]] wx fun e w' => e = .returned (.tuple #[]) ∧ QN w b v m most (x :: noK l x.k) w' ∧ Touch (qB b v m) wx w') := by
    intro wx t
    have hm2 := h.m2
    refine Calls.mono (add_any wx b v m l.length l f (P.keep t) h.hp x hx hf (by omega) (by omega) (hasK_false.1 hk)) ?_
    rintro e w' ⟨rfl, H⟩
    refine ⟨rfl, heaped_qn t P.lt H (by simp) h.c2 (fun k k0 k1 hf => ?_) h.m1 h.m2 (by simp; omega) (add_perm (hasK_false.1 hk)), H.t.t.mono (fun _ _ h => h)⟩
    by_cases e : k = x.k
    · exact ⟨x, by simp, e.symm⟩
    · rw [upd_other _ _ e] at hf
      obtain ⟨y, hy, e⟩ := cv k k0 k1 hf
      exact ⟨y, by simp [hy], e⟩
  have T0 : Touch (fun _ => False) w (w.alloc (.cells #[.int .i64 x.a, .int .i64 x.r, .int .u64 x.k] 41)) := (Touch.refl _ _).alloc _
  have E := (P.mp.keep T0 (fun h => h)).look_none hx.k0 hx.k1 hf
  have c0 := P.c0
  have c1 := P.c1
  have c2 := h.c2
  have hb := P.lt
  obtain ⟨a, c, rfl⟩ := P.re.shape
  have hge : ¬ most ≤ (l.length : Int) := by omega
  clear P cv h hf hk hk' hf2
  go_enter Try.func17, Try.ntmps17
  go_wp2_with ((go_at_call 28; refine Calls.mono HM ?_; rintro e w1 ⟨rfl, rfl⟩))
  have d0 := T0.cellN c0
  have d2 := T0.cellN c2
  have y0 : (w.alloc (.cells #[.int .i64 x.a, .int .i64 x.r, .int .u64 x.k] 41)).cell? ⟨w.heap.size, 0, none⟩ = some (.int .i64 x.a) := by simp [go_sem]
  have y1 : (w.alloc (.cells #[.int .i64 x.a, .int .i64 x.r, .int .u64 x.k] 41)).cell? ⟨w.heap.size, 1, none⟩ = some (.int .i64 x.r) := by simp [go_sem]
  have y2 : (w.alloc (.cells #[.int .i64 x.a, .int .i64 x.r, .int .u64 x.k] 41)).cell? ⟨w.heap.size, 2, none⟩ = some (.int .u64 x.k) := by simp [go_sem]
  clear E
  generalize w.alloc (.cells #[.int .i64 x.a, .int .i64 x.r, .int .u64 x.k] 41) = wa at T0 d0 d2 y0 y1 y2 ⊢
  have HT : Hid (Touch (fun _ => False) w wa.drew) := T0.drew
  have Y0 : Hid _ := y0
  have Y1 : Hid _ := y1
  have Y2 : Hid _ := y2
  replace d0 := snq_cell d0
  replace d2 := snq_cell d2
  have s0 : Snq wa wa.drew := Snq.start wa
  clear T0 c0 c1 c2 HM y0 y1 y2
  go_region_held3 (fun w' => Snq wa w') (with_reducible assumption) (fail)
  have y0 : wa.drew.cell? ⟨w.heap.size, 0, none⟩ = some (.int .i64 x.a) := Y0.out
  have y1 : wa.drew.cell? ⟨w.heap.size, 1, none⟩ = some (.int .i64 x.r) := Y1.out
  have y2 : wa.drew.cell? ⟨w.heap.size, 2, none⟩ = some (.int .u64 x.k) := Y2.out
  clear d0 d2 s0 Y0 Y1 Y2
  generalize wa.drew = wd at *
  have hH : ¬ qB b (.slice a l.length c) m w.heap.size := fun e => by have := hq.out _ e; omega
  replace y0 := snG_cell hH y0
  replace y1 := snG_cell hH y1
  replace y2 := snG_cell hH y2
  have s0 : SnG (qB b (.slice a l.length c) m) wd wd.drew := SnG.start _ wd
  go_wp2_with fail
  go_region_held3 (fun w' => SnG (qB b (.slice a l.length c) m) wd w') (with_reducible assumption) ((go_at_call 34; refine Calls.mono (HC.out wd.drew HT.out.drew) ?_; rintro e wx ⟨rfl, qx, tx⟩; have sx : SnG (qB b (.slice a l.length c) m) wd wx := ⟨((Touch.refl _ _).drew).trans tx⟩; have QX : Hid _ := qx; clear qx))
  go_wp2_with fail
  go_ret
  exact ⟨rfl, QX.out⟩

theorem put_any (w : World) (b : Nat) (v : Value) (m : Nat) (most : Int) (l : List En) (x : En) (hx : x.Ok) (h : QS w b v m most l) :
    Calls Try.prog 17 #[.pointer (some ⟨b, 0, none⟩), .int .i64 x.a, .int .i64 x.r, .int .u64 x.k] w fun e w' => e = .returned (.bool (putB l most x)) ∧ QN w b v m most (putL l most x) w' := by
  by_cases hk : hasK l x.k = true
  · have e1 : putB l most x = true := by simp [putB, hk]
    rw [e1, show putL l most x = x :: noK l x.k by simp [putL, e1]]
    exact put_there w b v m most l x hx h hk
  · replace hk := Bool.eq_false_iff.2 hk
    by_cases hf : (l.length : Int) < most
    · have e1 : putB l most x = true := by simp [putB, hf]
      rw [e1, show putL l most x = x :: noK l x.k by simp [putL, e1]]
      exact put_new w b v m most l x hx h hk hf
    · have e1 : putB l most x = false := by simp [putB, hf, hk]
      rw [e1, show putL l most x = l by simp [putL, e1]]
      exact put_full w b v m most l x hx h hk hf
end Go.Proofs.Ytmdnlfbploaafaa
