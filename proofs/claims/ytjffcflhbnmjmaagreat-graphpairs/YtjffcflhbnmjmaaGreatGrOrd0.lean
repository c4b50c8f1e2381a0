/- Package graph: link states and what they say, in memory; which of two comes first. -/
import Derived.Test.YtjffcflhbnmjmaaGreatGrMath
import Derived.Test.YtjffcflhbnmjmaaGreatOrdNewer
import Derived.Test.YtjffcflhbnmjmaaGreatStReadAny
import Derived.Sort.Grow
namespace Go.Proofs.YtjffcflhbnmjmaaGreat
open Go.RowKit Go.Sort
set_option linter.unusedVariables false
set_option maxRecDepth 100000

/-- A link state that counts, in memory. -/
structure SD where
  h : HV
  b : BV
  vl : Value
  vr : Value
  vd : Value
def SD.sv (x : SD) : SV := ⟨x.h, x.b⟩
def SD.cells (x : SD) : List Value := [.int .u16 x.h.age, .int .u8 x.h.opts, .int .u8 x.h.typ, .int .u32 x.h.id, .int .u32 x.h.adv, .int .i32 x.h.seq, .int .u16 x.h.sum, .int .u16 x.h.len, .int .u8 x.b.flags, x.vl, .int .u32 x.b.mask, x.vr, .int .u32 x.b.metric, .bool x.b.type2, .int .u32 x.b.fwd, .int .u32 x.b.tag, x.vd]
def saidC (l : List SD) : List Value := l.flatMap SD.cells
theorem length_saidC (l : List SD) : (saidC l).length = l.length * 17 := by
  induction l with
  | nil => rfl
  | cons x r ih => unfold saidC at *; rw [List.flatMap_cons, List.length_append, ih, List.length_cons]; simp [SD.cells]; omega
theorem saidC_at (l : List SD) (j i : Nat) (x : SD) (hj : l[j]? = some x) (hi : i < 17) : (saidC l)[j * 17 + i]? = x.cells[i]? := by
  induction l generalizing j with
  | nil => simp at hj
  | cons y r ih =>
    have e : saidC (y :: r) = y.cells ++ saidC r := by simp [saidC]
    have hl : y.cells.length = 17 := rfl
    rw [e]
    cases j with
    | zero =>
      obtain rfl : y = x := by simpa using hj
      rw [List.getElem?_append_left (by omega), Nat.zero_mul, Nat.zero_add]
    | succ j =>
      rw [List.getElem?_append_right (by omega), hl, show (j + 1) * 17 + i - 17 = j * 17 + i by omega]
      exact ih j (by simpa using hj)
/-- Worlds that have but grown. -/
structure Grs (x w : World) : Prop where
  out : ∃ q os, w = grow (x.drewN q) os
theorem grow_touch (w : World) (q : Nat) (os : Array Obj) : Touch (fun _ => False) w (grow (w.drewN q) os) :=
  ⟨rfl, rfl, rfl, by simp [grow, World.drewN], fun k hk _ => by simp only [grow, World.drewN]; rw [Array.getElem?_append_left hk]⟩
theorem Grs.t {x w : World} (h : Grs x w) : Touch (fun _ => False) x w := by
  obtain ⟨q, os, rfl⟩ := h.out
  exact grow_touch x q os
theorem Grs.trans {x w w' : World} (h : Grs x w) (k : Grs w w') : Grs x w' := by
  obtain ⟨q, os, rfl⟩ := h.out
  obtain ⟨q', os', rfl⟩ := k.out
  exact ⟨q + q', os ++ os', by show grow (grow ((x.drewN q).drewN q') os) os' = _; rw [grow_grow, World.drewN_drewN]⟩
theorem Grs.refl (w : World) : Grs w w := ⟨0, #[], by rw [grow_empty]; rfl⟩
theorem Grs.alloc {x w : World} (h : Grs x w) (o : Obj) : Grs x (w.alloc o) := h.trans ⟨0, #[o], by rw [alloc_eq_grow]; rfl⟩
theorem Grs.drew {x w : World} (h : Grs x w) : Grs x w.drew := h.trans ⟨1, #[], by rw [grow_empty]; rfl⟩
set_option maxHeartbeats 400000 in
theorem gkey_any (w : World) (x : HV) : Calls Tryz.prog 85 #[.agg #[.int .u16 x.age, .int .u8 x.opts, .int .u8 x.typ, .int .u32 x.id, .int .u32 x.adv, .int .i32 x.seq, .int .u16 x.sum, .int .u16 x.len]] w fun e w' => e = .returned (.agg #[.int .u8 x.typ, .int .u32 x.id, .int .u32 x.adv]) ∧ Grs w w' := by
  go_enter Tryz.func85, Tryz.ntmps85
  go_wp2_with fail
  refine bodyPost_ret (v := .agg #[.int .u8 x.typ, .int .u32 x.id, .int .u32 x.adv]) (by simp [results, Tryz.results85, go_sem]) rfl ⟨rfl, ?_⟩
  exact ((Grs.refl _).alloc _).alloc _
set_option maxHeartbeats 1000000 in
theorem gkeys_type (a0 a1 a2 b0 b1 b2 : Int) (hn : ¬ a0 = b0) (w : World) :
    Calls Tryz.prog 84 #[.agg #[.int .u8 a0, .int .u32 a1, .int .u32 a2], .agg #[.int .u8 b0, .int .u32 b1, .int .u32 b2]] w fun e w' => e = .returned (.int .i64 (keyI a0 a1 a2 b0 b1 b2)) ∧ Grs w w' := by
  have HE : Hid (keyI a0 a1 a2 b0 b1 b2 = fstI (cmpI a0 b0) (fstI (cmpI a1 b1) (cmpI a2 b2))) := rfl
  generalize keyI a0 a1 a2 b0 b1 b2 = z at HE ⊢
  go_enter Tryz.func84, Tryz.ntmps84
  go_wp2_with fail
  go_region_held3 (fun w' => w'.cell? ⟨w.heap.size, 0, none⟩ = some (.int .u8 a0) ∧ w'.cell? ⟨w.heap.size, 1, none⟩ = some (.int .u32 a1) ∧ w'.cell? ⟨w.heap.size, 2, none⟩ = some (.int .u32 a2) ∧ w'.cell? ⟨w.heap.size + 1, 0, none⟩ = some (.int .u8 b0) ∧ w'.cell? ⟨w.heap.size + 1, 1, none⟩ = some (.int .u32 b1) ∧ w'.cell? ⟨w.heap.size + 1, 2, none⟩ = some (.int .u32 b2)) (go_keep) (first
    | (go_at_call 108; refine (cmp8_any _ _ _).mono ?_; rintro e w1 ⟨rfl, rfl⟩)
    | (go_at_call 109; refine (cmp32_any _ _ _).mono ?_; rintro e w2 ⟨rfl, rfl⟩)
    | (go_at_call 107; refine (first_three _ _ _ z HE.out _ _ _ (by simp [go_sem]) (by simp [go_sem]) (by simp [go_sem])).mono ?_; rintro e w5 ⟨rfl, rfl⟩))
  go_wp2_with fail
  go_ret
  exact ⟨rfl, (((((Grs.refl w).alloc _).alloc _).alloc _).drew)⟩
set_option maxHeartbeats 1000000 in
theorem gkeys_id (a0 a1 a2 b1 b2 : Int) (hn : ¬ a1 = b1) (w : World) :
    Calls Tryz.prog 84 #[.agg #[.int .u8 a0, .int .u32 a1, .int .u32 a2], .agg #[.int .u8 a0, .int .u32 b1, .int .u32 b2]] w fun e w' => e = .returned (.int .i64 (keyI a0 a1 a2 a0 b1 b2)) ∧ Grs w w' := by
  have HE : Hid (keyI a0 a1 a2 a0 b1 b2 = fstI (cmpI a0 a0) (fstI (cmpI a1 b1) (cmpI a2 b2))) := rfl
  generalize keyI a0 a1 a2 a0 b1 b2 = z at HE ⊢
  go_enter Tryz.func84, Tryz.ntmps84
  go_wp2_with fail
  go_region_held3 (fun w' => w'.cell? ⟨w.heap.size, 0, none⟩ = some (.int .u8 a0) ∧ w'.cell? ⟨w.heap.size, 1, none⟩ = some (.int .u32 a1) ∧ w'.cell? ⟨w.heap.size, 2, none⟩ = some (.int .u32 a2) ∧ w'.cell? ⟨w.heap.size + 1, 0, none⟩ = some (.int .u8 a0) ∧ w'.cell? ⟨w.heap.size + 1, 1, none⟩ = some (.int .u32 b1) ∧ w'.cell? ⟨w.heap.size + 1, 2, none⟩ = some (.int .u32 b2)) (go_keep) (first
    | (go_at_call 108; refine (cmp8_any _ _ _).mono ?_; rintro e w1 ⟨rfl, rfl⟩)
    | (go_at_call 109; refine (cmp32_any _ _ _).mono ?_; rintro e w2 ⟨rfl, rfl⟩)
    | (go_at_call 107; refine (first_three _ _ _ z HE.out _ _ _ (by simp [go_sem]) (by simp [go_sem]) (by simp [go_sem])).mono ?_; rintro e w5 ⟨rfl, rfl⟩))
  go_wp2_with fail
  go_ret
  exact ⟨rfl, (((((Grs.refl w).alloc _).alloc _).alloc _).drew)⟩
set_option maxHeartbeats 1000000 in
theorem gkeys_adv (a0 a1 a2 b2 : Int) (hn : ¬ a2 = b2) (w : World) :
    Calls Tryz.prog 84 #[.agg #[.int .u8 a0, .int .u32 a1, .int .u32 a2], .agg #[.int .u8 a0, .int .u32 a1, .int .u32 b2]] w fun e w' => e = .returned (.int .i64 (keyI a0 a1 a2 a0 a1 b2)) ∧ Grs w w' := by
  have HE : Hid (keyI a0 a1 a2 a0 a1 b2 = fstI (cmpI a0 a0) (fstI (cmpI a1 a1) (cmpI a2 b2))) := rfl
  generalize keyI a0 a1 a2 a0 a1 b2 = z at HE ⊢
  go_enter Tryz.func84, Tryz.ntmps84
  go_wp2_with fail
  go_region_held3 (fun w' => w'.cell? ⟨w.heap.size, 0, none⟩ = some (.int .u8 a0) ∧ w'.cell? ⟨w.heap.size, 1, none⟩ = some (.int .u32 a1) ∧ w'.cell? ⟨w.heap.size, 2, none⟩ = some (.int .u32 a2) ∧ w'.cell? ⟨w.heap.size + 1, 0, none⟩ = some (.int .u8 a0) ∧ w'.cell? ⟨w.heap.size + 1, 1, none⟩ = some (.int .u32 a1) ∧ w'.cell? ⟨w.heap.size + 1, 2, none⟩ = some (.int .u32 b2)) (go_keep) (first
    | (go_at_call 108; refine (cmp8_any _ _ _).mono ?_; rintro e w1 ⟨rfl, rfl⟩)
    | (go_at_call 109; refine (cmp32_any _ _ _).mono ?_; rintro e w2 ⟨rfl, rfl⟩)
    | (go_at_call 107; refine (first_three _ _ _ z HE.out _ _ _ (by simp [go_sem]) (by simp [go_sem]) (by simp [go_sem])).mono ?_; rintro e w5 ⟨rfl, rfl⟩))
  go_wp2_with fail
  go_ret
  exact ⟨rfl, (((((Grs.refl w).alloc _).alloc _).alloc _).drew)⟩
theorem gkeys_self (a0 a1 a2 : Int) (w : World) :
    Calls Tryz.prog 84 #[.agg #[.int .u8 a0, .int .u32 a1, .int .u32 a2], .agg #[.int .u8 a0, .int .u32 a1, .int .u32 a2]] w fun e w' => e = .returned (.int .i64 0) ∧ Grs w w' := by
  go_enter Tryz.func84, Tryz.ntmps84
  go_wp2
  go_ret
  exact ⟨rfl, (((Grs.refl w).alloc _).alloc _)⟩
theorem gkeys_any (a0 a1 a2 b0 b1 b2 : Int) (w : World) :
    Calls Tryz.prog 84 #[.agg #[.int .u8 a0, .int .u32 a1, .int .u32 a2], .agg #[.int .u8 b0, .int .u32 b1, .int .u32 b2]] w fun e w' => e = .returned (.int .i64 (keyI a0 a1 a2 b0 b1 b2)) ∧ Grs w w' := by
  by_cases h : a0 = b0 ∧ a1 = b1 ∧ a2 = b2
  · obtain ⟨rfl, rfl, rfl⟩ := h
    have e : keyI a0 a1 a2 a0 a1 a2 = 0 := by unfold keyI; rw [cmpI_eq, cmpI_eq, cmpI_eq]; rfl
    rw [e]
    exact gkeys_self a0 a1 a2 w
  · by_cases h0 : a0 = b0
    · subst h0
      by_cases h1 : a1 = b1
      · subst h1
        exact gkeys_adv a0 a1 a2 b2 (fun e => h ⟨rfl, rfl, e⟩) w
      · exact gkeys_id a0 a1 a2 b1 b2 h1 w
    · exact gkeys_type a0 a1 a2 b0 b1 b2 h0 w
def keyS (x y : SD) : Int := keyI x.h.typ x.h.id x.h.adv y.h.typ y.h.id y.h.adv
set_option maxHeartbeats 4000000 in
theorem cmpS_any (x y : SD) (w : World) :
    Calls Tryz.prog 83 #[.agg x.cells.toArray, .agg y.cells.toArray] w fun e w' => e = .returned (.int .i64 (keyS x y)) ∧ ∃ q os', w' = grow (w.drewN q) os' := by
  have HK := fun w => gkeys_any x.h.typ x.h.id x.h.adv y.h.typ y.h.id y.h.adv w
  have H1 := fun w => gkey_any w x.h
  have H2 := fun w => gkey_any w y.h
  show Calls Tryz.prog 83 #[.agg #[.int .u16 x.h.age, .int .u8 x.h.opts, .int .u8 x.h.typ, .int .u32 x.h.id, .int .u32 x.h.adv, .int .i32 x.h.seq, .int .u16 x.h.sum, .int .u16 x.h.len, .int .u8 x.b.flags, x.vl, .int .u32 x.b.mask, x.vr, .int .u32 x.b.metric, .bool x.b.type2, .int .u32 x.b.fwd, .int .u32 x.b.tag, x.vd], .agg #[.int .u16 y.h.age, .int .u8 y.h.opts, .int .u8 y.h.typ, .int .u32 y.h.id, .int .u32 y.h.adv, .int .i32 y.h.seq, .int .u16 y.h.sum, .int .u16 y.h.len, .int .u8 y.b.flags, y.vl, .int .u32 y.b.mask, y.vr, .int .u32 y.b.metric, .bool y.b.type2, .int .u32 y.b.fwd, .int .u32 y.b.tag, y.vd]] w _
  unfold keyS
  generalize keyI x.h.typ x.h.id x.h.adv y.h.typ y.h.id y.h.adv = z at *
  obtain ⟨w0, hw0⟩ : ∃ u, u = (w.alloc (.cells #[.int .u16 x.h.age, .int .u8 x.h.opts, .int .u8 x.h.typ, .int .u32 x.h.id, .int .u32 x.h.adv, .int .i32 x.h.seq, .int .u16 x.h.sum, .int .u16 x.h.len, .int .u8 x.b.flags, x.vl, .int .u32 x.b.mask, x.vr, .int .u32 x.b.metric, .bool x.b.type2, .int .u32 x.b.fwd, .int .u32 x.b.tag, x.vd] 69)).alloc (.cells #[.int .u16 y.h.age, .int .u8 y.h.opts, .int .u8 y.h.typ, .int .u32 y.h.id, .int .u32 y.h.adv, .int .i32 y.h.seq, .int .u16 y.h.sum, .int .u16 y.h.len, .int .u8 y.b.flags, y.vl, .int .u32 y.b.mask, y.vr, .int .u32 y.b.metric, .bool y.b.type2, .int .u32 y.b.fwd, .int .u32 y.b.tag, y.vd] 69) := ⟨_, rfl⟩
  have G0 : Hid (Grs w w0) := by rw [hw0]; exact ((Grs.refl _).alloc _).alloc _
  have RX : ∀ w', Grs w0 w' → Row w' w.heap.size 69 [.int .u16 x.h.age, .int .u8 x.h.opts, .int .u8 x.h.typ, .int .u32 x.h.id, .int .u32 x.h.adv, .int .i32 x.h.seq, .int .u16 x.h.sum, .int .u16 x.h.len, .int .u8 x.b.flags, x.vl, .int .u32 x.b.mask, x.vr, .int .u32 x.b.metric, .bool x.b.type2, .int .u32 x.b.fwd, .int .u32 x.b.tag, x.vd] := fun w' s => by
    have : Row w0 w.heap.size 69 [.int .u16 x.h.age, .int .u8 x.h.opts, .int .u8 x.h.typ, .int .u32 x.h.id, .int .u32 x.h.adv, .int .i32 x.h.seq, .int .u16 x.h.sum, .int .u16 x.h.len, .int .u8 x.b.flags, x.vl, .int .u32 x.b.mask, x.vr, .int .u32 x.b.metric, .bool x.b.type2, .int .u32 x.b.fwd, .int .u32 x.b.tag, x.vd] := by rw [hw0]; exact (row_new w _ _).keep ((Touch.refl _ _).alloc _)
    exact this.keep s.t
  have RY : ∀ w', Grs w0 w' → Row w' (w.heap.size + 1) 69 [.int .u16 y.h.age, .int .u8 y.h.opts, .int .u8 y.h.typ, .int .u32 y.h.id, .int .u32 y.h.adv, .int .i32 y.h.seq, .int .u16 y.h.sum, .int .u16 y.h.len, .int .u8 y.b.flags, y.vl, .int .u32 y.b.mask, y.vr, .int .u32 y.b.metric, .bool y.b.type2, .int .u32 y.b.fwd, .int .u32 y.b.tag, y.vd] := fun w' s => by
    have : Row w0 (w.heap.size + 1) 69 [.int .u16 y.h.age, .int .u8 y.h.opts, .int .u8 y.h.typ, .int .u32 y.h.id, .int .u32 y.h.adv, .int .i32 y.h.seq, .int .u16 y.h.sum, .int .u16 y.h.len, .int .u8 y.b.flags, y.vl, .int .u32 y.b.mask, y.vr, .int .u32 y.b.metric, .bool y.b.type2, .int .u32 y.b.fwd, .int .u32 y.b.tag, y.vd] := by rw [hw0]; have := row_new (w.alloc (.cells #[.int .u16 x.h.age, .int .u8 x.h.opts, .int .u8 x.h.typ, .int .u32 x.h.id, .int .u32 x.h.adv, .int .i32 x.h.seq, .int .u16 x.h.sum, .int .u16 x.h.len, .int .u8 x.b.flags, x.vl, .int .u32 x.b.mask, x.vr, .int .u32 x.b.metric, .bool x.b.type2, .int .u32 x.b.fwd, .int .u32 x.b.tag, x.vd] 69)) 69 #[.int .u16 y.h.age, .int .u8 y.h.opts, .int .u8 y.h.typ, .int .u32 y.h.id, .int .u32 y.h.adv, .int .i32 y.h.seq, .int .u16 y.h.sum, .int .u16 y.h.len, .int .u8 y.b.flags, y.vl, .int .u32 y.b.mask, y.vr, .int .u32 y.b.metric, .bool y.b.type2, .int .u32 y.b.fwd, .int .u32 y.b.tag, y.vd]; rw [World.size_alloc] at this; exact this
    exact this.keep s.t
  go_enter Tryz.func83, Tryz.ntmps83
  go_upto_region 1 with fail
  rw [← hw0]
  clear hw0
  generalize w.heap.size + 1 = g1 at *
  generalize w.heap.size = g0 at *
  refine wp_region_held_drew (S := fun w' => Grs w0 w') (by kernel_rfl) ((Grs.refl w0).drew) (fun hHeld => ?_)
  refine wpAnyH_take (i := 0) (oi := ⟨some 5, _, _, _, _, _⟩) (v := .pointer (some ⟨g0, 0, none⟩)) rfl (by kernel_rfl) (by kernel_rfl) (by kernel_rfl) (fun _ _ _ h => h) (Or.inl ⟨by rfl, fun w hw => by go_simp⟩) (by assumption) ?_
  simp only [Act.put, List.setIfInBounds_toArray, List.set_cons_zero, List.set_cons_succ]
  refine wpAnyH_take (i := 1) (oi := ⟨some 6, _, _, _, _, _⟩) (v := .agg #[.int .u16 x.h.age, .int .u8 x.h.opts, .int .u8 x.h.typ, .int .u32 x.h.id, .int .u32 x.h.adv, .int .i32 x.h.seq, .int .u16 x.h.sum, .int .u16 x.h.len]) rfl (by kernel_rfl) (by kernel_rfl) (by kernel_rfl) (fun _ _ _ h => h) (yieldsIf_load_mid (by rfl) _ _ rfl _ _ rfl [.int .u16 x.h.age, .int .u8 x.h.opts, .int .u8 x.h.typ, .int .u32 x.h.id, .int .u32 x.h.adv, .int .i32 x.h.seq, .int .u16 x.h.sum, .int .u16 x.h.len] _ (fun w h => gr_pre (RX w h)) Tryz.underlying49 rfl (by kernel_rfl)) (by assumption) ?_
  simp only [Act.put, List.setIfInBounds_toArray, List.set_cons_zero, List.set_cons_succ]
  refine wpAnyH_take (i := 3) (oi := ⟨some 8, _, _, _, _, _⟩) (v := .pointer (some ⟨g1, 0, none⟩)) rfl (by kernel_rfl) (by kernel_rfl) (by kernel_rfl) (fun _ _ _ h => h) (Or.inl ⟨by rfl, fun w hw => by go_simp⟩) (by assumption) ?_
  simp only [Act.put, List.setIfInBounds_toArray, List.set_cons_zero, List.set_cons_succ]
  refine wpAnyH_take (i := 4) (oi := ⟨some 9, _, _, _, _, _⟩) (v := .agg #[.int .u16 y.h.age, .int .u8 y.h.opts, .int .u8 y.h.typ, .int .u32 y.h.id, .int .u32 y.h.adv, .int .i32 y.h.seq, .int .u16 y.h.sum, .int .u16 y.h.len]) rfl (by kernel_rfl) (by kernel_rfl) (by kernel_rfl) (fun _ _ _ h => h) (yieldsIf_load_mid (by rfl) _ _ rfl _ _ rfl [.int .u16 y.h.age, .int .u8 y.h.opts, .int .u8 y.h.typ, .int .u32 y.h.id, .int .u32 y.h.adv, .int .i32 y.h.seq, .int .u16 y.h.sum, .int .u16 y.h.len] _ (fun w h => gr_pre (RY w h)) Tryz.underlying49 rfl (by kernel_rfl)) (by assumption) ?_
  simp only [Act.put, List.setIfInBounds_toArray, List.set_cons_zero, List.set_cons_succ]
  refine wpAnyH_ready (rs := [2]) (by kernel_rfl) (by simp) ?_
  refine AllReadyH.cons (o := ⟨some 7, _, _, _, _, _⟩) rfl (fun K hK => ?_) AllReadyH.nil
  go_simp
  refine Calls.mono (H1 _) ?_
  rintro e y1 ⟨rfl, u1⟩
  have s1 : Grs w0 y1 := ((Grs.refl w0).drew).trans u1
  refine hK.out _ _ (by assumption) (fun hHeld => ?_)
  clear hK K
  refine wpAnyH_ready (rs := [5]) (by kernel_rfl) (by simp) ?_
  refine AllReadyH.cons (o := ⟨some 10, _, _, _, _, _⟩) rfl (fun K hK => ?_) AllReadyH.nil
  go_simp
  refine Calls.mono (H2 _) ?_
  rintro e y2 ⟨rfl, u2⟩
  have s2 : Grs w0 y2 := s1.trans u2
  refine hK.out _ _ (by assumption) (fun hHeld => ?_)
  clear hK K
  refine wpAnyH_ready (rs := [6]) (by kernel_rfl) (by simp) ?_
  refine AllReadyH.cons (o := ⟨some 11, _, _, _, _, _⟩) rfl (fun K hK => ?_) AllReadyH.nil
  go_simp
  refine Calls.mono (HK _) ?_
  rintro e y3 ⟨rfl, u3⟩
  have s3 : Grs w0 y3 := s2.trans u3
  refine hK.out _ _ (by assumption) (fun hHeld => ?_)
  clear hK K
  refine wpAnyH_take (i := 7) (oi := ⟨some 4, _, _, _, _, _⟩) (v := .int .i64 z) rfl (by kernel_rfl) (by kernel_rfl) (by kernel_rfl) (fun _ _ _ h => h) (Or.inl ⟨by rfl, fun w hw => by go_simp⟩) (by assumption) ?_
  simp only [Act.put, List.setIfInBounds_toArray, List.set_cons_zero, List.set_cons_succ]
  refine wpAnyH_done (by kernel_rfl) ?_ _
  clear RX RY H1 H2 HK
  go_wp2_with fail
  go_ret
  exact ⟨rfl, (G0.out.trans s3).out⟩
end Go.Proofs.YtjffcflhbnmjmaaGreat
