
/- The last entry of a heap's rows is taken away. -/
import Derived.Test.YtmdnlfbploaafaaQuPush
namespace Go.Proofs.Ytmdnlfbploaafaa
open Go.RowKit
set_option linter.unusedVariables false
set_option maxRecDepth 100000

/-- The rows behind a pop. -/
structure PopP (w : World) (b : Nat) (v : Value) (m n : Nat) (l : List En) (f : Int → Option Int) (k : Nat) (e : Ending) (w' : World) : Prop where
  e : e = .returned (.iface 41 (.agg #[.int .i64 (gt l k).a, .int .i64 (gt l k).r, .int .u64 (gt l k).k]))
  out : ∃ v', PS w' b v' m n (l.take k) f ∧ v'.ownBlock = v.ownBlock
  t : TouchB b (fun _ => False) w w'

set_option maxHeartbeats 2000000 in
theorem fpop_any (w : World) (b : Nat) (v : Value) (m n : Nat) (l : List En) (f : Int → Option Int) (P : PS w b v m n l f) (k : Nat) (hk : l.length = k + 1) :
    Calls Try.prog 85 #[.agg #[.pointer (some ⟨b, 0, none⟩)]] w (PopP w b v m n l f k) := by
  have hmb := P.mb
  have hmv := P.mv
  obtain ⟨c0, c1, f0, re, mp, d1, ok, bv, hn, hl2⟩ := P
  have hb := lt_of_cell c0
  obtain ⟨g, cap, rfl, hcap, hg⟩ := re.form (by omega)
  obtain ⟨x0, x1, x2⟩ := re.cells (i := k) (by omega)
  have RE0 : Hid (RE w (.slice (some ⟨g, 0, none⟩) l.length cap) l) := re
  have MP0 : Hid (MP w m n f) := mp
  have D1 : Hid (∀ i : Nat, i < l.length → f (gt l i).k = some (i : Int)) := d1
  have OK0 : Hid (∀ e ∈ l, e.Ok) := ok
  have HN : Hid (n ≤ 2000000) := hn
  clear re mp d1 ok hn
  generalize hx : gt l k = x at *
  have HX : Hid _ := hx
  clear hx
  have hbg : b ≠ g := fun e => bv (by subst e; rfl)
  have hLk : (l.length : Int) = (k : Int) + 1 := by omega
  have k0 : (0 : Int) ≤ (k : Int) := by omega
  have k2 : (k : Int) ≤ 2000000 := by omega
  have kc : (k : Int) ≤ (cap : Int) := by omega
  have kL : (k : Int) < (l.length : Int) := by omega
  have hc : cap ≠ k := by omega
  have HK : Hid (l.length = k + 1) := hk
  have HC : Hid (l.length ≤ cap) := hcap
  clear hk hcap
  go_enter Try.func85, Try.ntmps85
  go_wp2_with fail
  have T : Touch (fun _ => False) w ((w.alloc (.cells #[.pointer (some ⟨b, 0, none⟩)] 85)).alloc (.cells #[.int .i64 x.a, .int .i64 x.r, .int .u64 x.k] 41)) := ((Touch.refl _ _).alloc _).alloc _
  have pa : ((w.alloc (.cells #[.pointer (some ⟨b, 0, none⟩)] 85)).alloc (.cells #[.int .i64 x.a, .int .i64 x.r, .int .u64 x.k] 41)).cell? ⟨w.heap.size, 0, none⟩ = some (.pointer (some ⟨b, 0, none⟩)) := by simp [go_sem]
  have y0 : ((w.alloc (.cells #[.pointer (some ⟨b, 0, none⟩)] 85)).alloc (.cells #[.int .i64 x.a, .int .i64 x.r, .int .u64 x.k] 41)).cell? ⟨w.heap.size + 1, 0, none⟩ = some (.int .i64 x.a) := by simp [go_sem]
  have y1 : ((w.alloc (.cells #[.pointer (some ⟨b, 0, none⟩)] 85)).alloc (.cells #[.int .i64 x.a, .int .i64 x.r, .int .u64 x.k] 41)).cell? ⟨w.heap.size + 1, 1, none⟩ = some (.int .i64 x.r) := by simp [go_sem]
  have y2 : ((w.alloc (.cells #[.pointer (some ⟨b, 0, none⟩)] 85)).alloc (.cells #[.int .i64 x.a, .int .i64 x.r, .int .u64 x.k] 41)).cell? ⟨w.heap.size + 1, 2, none⟩ = some (.int .u64 x.k) := by simp [go_sem]
  generalize ((w.alloc (.cells #[.pointer (some ⟨b, 0, none⟩)] 85)).alloc (.cells #[.int .i64 x.a, .int .i64 x.r, .int .u64 x.k] 41)) = wa at T pa y0 y1 y2 ⊢
  replace T : Touch (fun _ => False) w wa.drew := T.drew
  replace y0 : wa.drew.cell? ⟨w.heap.size + 1, 0, none⟩ = some (.int .i64 x.a) := y0
  replace y1 : wa.drew.cell? ⟨w.heap.size + 1, 1, none⟩ = some (.int .i64 x.r) := y1
  replace y2 : wa.drew.cell? ⟨w.heap.size + 1, 2, none⟩ = some (.int .u64 x.k) := y2
  have pd : wa.drew.cell? ⟨w.heap.size, 0, none⟩ = some (.pointer (some ⟨b, 0, none⟩)) := pa
  refine wp_region_held_drew (S := fun w' => w'.cell? ⟨w.heap.size, 0, none⟩ = some (.pointer (some ⟨b, 0, none⟩))) (by kernel_rfl) pd (fun hHeld => ?_)
  clear pa
  generalize wa.drew = wd at T pd hHeld y0 y1 y2 ⊢
  have hdb : b < wd.heap.size := Nat.lt_of_lt_of_le hb T.size
  have d0 := T.cellN c0
  have d1 := T.cellN c1
  have g0 := (T.frozen (p := ⟨b, 0, none⟩) hb (fun h => h)).trans f0
  have hbH : b ≠ w.heap.size := by omega
  have hbH1 : b ≠ w.heap.size + 1 := by omega
  have qs : (wd.setCell ⟨b, 0, none⟩ (.slice (some ⟨g, 0, none⟩) k cap)).cell? ⟨w.heap.size, 0, none⟩ = some (.pointer (some ⟨b, 0, none⟩)) := by simpa [go_sem, hbH, Ne.symm hbH] using pd
  have z0 : (wd.setCell ⟨b, 0, none⟩ (.slice (some ⟨g, 0, none⟩) k cap)).cell? ⟨w.heap.size + 1, 0, none⟩ = some (.int .i64 x.a) := by simpa [go_sem, hbH1, Ne.symm hbH1] using y0
  have z1 : (wd.setCell ⟨b, 0, none⟩ (.slice (some ⟨g, 0, none⟩) k cap)).cell? ⟨w.heap.size + 1, 1, none⟩ = some (.int .i64 x.r) := by simpa [go_sem, hbH1, Ne.symm hbH1] using y1
  have z2 : (wd.setCell ⟨b, 0, none⟩ (.slice (some ⟨g, 0, none⟩) k cap)).cell? ⟨w.heap.size + 1, 2, none⟩ = some (.int .u64 x.k) := by simpa [go_sem, hbH1, Ne.symm hbH1] using y2
  have ts : Touch (fun k => k = b) wd (wd.setCell ⟨b, 0, none⟩ (.slice (some ⟨g, 0, none⟩) k cap)) := Touch.setCell (F := fun k => k = b) (p := ⟨b, 0, none⟩) (Touch.refl _ _) (Or.inl rfl) _
  have FIN : Hid (PopP w b (.slice (some ⟨g, 0, none⟩) l.length cap) m n l f k (.returned (.iface 41 (.agg #[.int .i64 x.a, .int .i64 x.r, .int .u64 x.k]))) (wd.setCell ⟨b, 0, none⟩ (.slice (some ⟨g, 0, none⟩) k cap))) := by
    have hkk := HK.out
    have hbv : ∀ j, Value.ownBlock (.slice (some ⟨g, 0, none⟩) k cap) = some j → ¬ j = b := fun j hj e => hbg (by cases hj; exact e.symm)
    refine ⟨by rw [HX.out], ⟨.slice (some ⟨g, 0, none⟩) k cap, ⟨?_, ?_, ?_, ?_, ?_, ?_, ?_, ?_, HN.out, ?_⟩, rfl⟩, ⟨?_, ?_⟩⟩
    · simp [go_sem, d0]
    · simpa [go_sem] using d1
    · simpa [go_sem] using g0
    · exact ((RE0.out.keep T (fun _ _ h => h)).cut (k := k) (by omega)).keep ts hbv
    · exact (MP0.out.keep T (fun h => h)).keep ts hmb
    · intro i hi
      simp at hi
      rw [gt_take (by omega)]
      exact D1.out i (by omega)
    · intro e he
      exact OK0.out e (List.mem_of_mem_take he)
    · exact bv
    · simp; omega
    · exact (T.mono (fun _ _ h => h.elim)).trans (ts.mono (fun _ _ e => Or.inl e))
    · intro o ho
      have h1 : (wd.setCell ⟨b, 0, none⟩ (.slice (some ⟨g, 0, none⟩) k cap)).cell? ⟨b, o, none⟩ = wd.cell? ⟨b, o, none⟩ := by simp [go_sem]
      rw [h1]
      exact T.cell (p := ⟨b, o, none⟩) hb (fun h => h)
  clear ts T c0 c1 x0 x1 x2 y0 y1 y2 d1
  refine wpAnyH_take (i := 0) (oi := ⟨some 20, _, _, _, _, _⟩) (v := .pointer (some ⟨w.heap.size, 0, none⟩)) rfl (by kernel_rfl) (by kernel_rfl) (by kernel_rfl) (fun _ _ _ h => h) (Or.inl ⟨by rfl, fun w hw => by go_simp⟩) (by assumption) ?_
  simp only [Act.put, List.setIfInBounds_toArray, List.set_cons_zero, List.set_cons_succ]
  refine wpAnyH_take (i := 1) (oi := ⟨some 21, _, _, _, _, _⟩) (v := .pointer (some ⟨b, 0, none⟩)) rfl (by kernel_rfl) (by kernel_rfl) (by kernel_rfl) (fun _ _ _ h => h) (Or.inl ⟨by rfl, fun w hw => by go_simp⟩) (by assumption) ?_
  simp only [Act.put, List.setIfInBounds_toArray, List.set_cons_zero, List.set_cons_succ]
  refine wpAnyH_take (i := 2) (oi := ⟨some 22, _, _, _, _, _⟩) (v := .pointer (some ⟨w.heap.size, 0, none⟩)) rfl (by kernel_rfl) (by kernel_rfl) (by kernel_rfl) (fun _ _ _ h => h) (Or.inl ⟨by rfl, fun w hw => by go_simp⟩) (by assumption) ?_
  simp only [Act.put, List.setIfInBounds_toArray, List.set_cons_zero, List.set_cons_succ]
  refine wpAnyH_take (i := 3) (oi := ⟨some 23, _, _, _, _, _⟩) (v := .pointer (some ⟨b, 0, none⟩)) rfl (by kernel_rfl) (by kernel_rfl) (by kernel_rfl) (fun _ _ _ h => h) (Or.inl ⟨by rfl, fun w hw => by go_simp⟩) (by assumption) ?_
  simp only [Act.put, List.setIfInBounds_toArray, List.set_cons_zero, List.set_cons_succ]
  refine wpAnyH_take (i := 4) (oi := ⟨some 24, _, _, _, _, _⟩) (v := .pointer (some ⟨b, 0, none⟩)) rfl (by kernel_rfl) (by kernel_rfl) (by kernel_rfl) (fun _ _ _ h => h) (Or.inl ⟨by rfl, fun w hw => by go_simp⟩) (by assumption) ?_
  simp only [Act.put, List.setIfInBounds_toArray, List.set_cons_zero, List.set_cons_succ]
  refine wpAnyH_take (i := 5) (oi := ⟨some 25, _, _, _, _, _⟩) (v := .pointer (some ⟨b, 0, none⟩)) rfl (by kernel_rfl) (by kernel_rfl) (by kernel_rfl) (fun _ _ _ h => h) (Or.inl ⟨by rfl, fun w hw => by go_simp⟩) (by assumption) ?_
  simp only [Act.put, List.setIfInBounds_toArray, List.set_cons_zero, List.set_cons_succ]
  refine wpAnyH_take (i := 7) (oi := ⟨some 27, _, _, _, _, _⟩) (v := .int .i64 k) rfl (by kernel_rfl) (by kernel_rfl) (by kernel_rfl) (fun _ _ _ h => h) (Or.inl ⟨by rfl, fun w hw => by go_simp⟩) (by assumption) ?_
  simp only [Act.put, List.setIfInBounds_toArray, List.set_cons_zero, List.set_cons_succ]
  refine wpAnyH_ready (rs := [6]) (by kernel_rfl) (by simp) ?_
  refine AllReadyH.cons rfl (fun K hK => ?_) AllReadyH.nil
  go_simp
  refine hK.out _ _ (pd) (fun hHeld => ?_)
  clear hK K
  refine wpAnyH_take (i := 8) (oi := ⟨some 28, _, _, _, _, _⟩) (v := .slice (some ⟨g, 0, none⟩) k cap) rfl (by kernel_rfl) (by kernel_rfl) (by kernel_rfl) (fun _ _ _ h => h) (Or.inl ⟨by rfl, fun w hw => by go_simp⟩) (by assumption) ?_
  simp only [Act.put, List.setIfInBounds_toArray, List.set_cons_zero, List.set_cons_succ]
  refine wpAnyH_take (i := 9) (oi := ⟨some 29, _, _, _, _, _⟩) (v := .pointer (some ⟨b, 0, none⟩)) rfl (by kernel_rfl) (by kernel_rfl) (by kernel_rfl) (fun _ _ _ h => h) (Or.inl ⟨by rfl, fun w hw => by go_simp⟩) (by assumption) ?_
  simp only [Act.put, List.setIfInBounds_toArray, List.set_cons_zero, List.set_cons_succ]
  refine wpAnyH_take (i := 10) (oi := ⟨some 30, _, _, _, _, _⟩) (v := .pointer (some ⟨b, 0, none⟩)) rfl (by kernel_rfl) (by kernel_rfl) (by kernel_rfl) (fun _ _ _ h => h) (Or.inl ⟨by rfl, fun w hw => by go_simp⟩) (by assumption) ?_
  simp only [Act.put, List.setIfInBounds_toArray, List.set_cons_zero, List.set_cons_succ]
  refine wpAnyH_ready (rs := [11]) (by kernel_rfl) (by simp) ?_
  refine AllReadyH.cons rfl (fun K hK => ?_) AllReadyH.nil
  go_simp
  refine hK.out _ _ (qs) (fun hHeld => ?_)
  clear hK K
  refine wpAnyH_done (by kernel_rfl) ?_ _
  go_wp2_with fail
  go_ret
  exact FIN.out
end Go.Proofs.Ytmdnlfbploaafaa
