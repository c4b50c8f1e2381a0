
/- An entry is laid behind the rows of a heap; the last one is taken away. -/
import Derived.Test.YtmdnlfbploaafaaQuDown
namespace Go.Proofs.Ytmdnlfbploaafaa
open Go.RowKit
set_option linter.unusedVariables false
set_option maxRecDepth 100000

theorem infoEn : (Try.prog.info? 41).map (fun i => (i.zero, i.size, i.bytes)) = some (some (.agg #[.int .i64 0, .int .i64 0, .int .u64 0]), 3, 24) := by kernel_rfl
theorem infoParts {x : Option TypeInfo} {z : Value} {k b : Nat} (h : x.map (fun i => (i.zero, i.size, i.bytes)) = some (some z, k, b)) : ∃ i, x = some i ∧ i.zero = some z ∧ i.size = k ∧ i.bytes = b := by
  cases x with
  | none => cases h
  | some i => simp at h; exact ⟨i, rfl, h.1, h.2.1, h.2.2⟩

/-- An append whose run is known, as a step of a region that draws its order. -/
theorem step_run_append {P : Program} {w : World} {ops : Array Oper} {o : Oper} {a : Act} {K : Act → World → Prop} {Q : Exit → Act → World → Prop} {E : Prop} (hgd : o.guard = none) (s x : Operand) (t : TypeId)
    (ho : o.op = .call { callee := .builtin .append, args := #[s, x], argTypes := #[t, t] }) (v y v' : Value) (w' : World) (hs : a.eval s = v) (hx : a.eval x = y)
    (hr : (Builtin.append_ #[t, t] o.type #[v, y]).run P w = .ok v' w') (h : K (a.put o.dst v') w') : if Region.wanted o (yielded ops a.tmps) = true then Oper.wp P o a w K Q else E := by
  have hw : Region.wanted o (yielded ops a.tmps) = true := by simp [Region.wanted, hgd]
  rw [if_pos hw]
  unfold Oper.wp execOp
  simp only [ho, resolve, invoke, builtin, Sem.run_bind, Sem.run_pure, Result.andThen_ok, List.map_toArray, List.map_cons, List.map_nil, hs, hx, hr]
  exact h
theorem own_shape {w : World} {base e k n : Nat} {v : Value} {xs : List Value} (h : w.ownsRow base e k v n xs) : ∃ a c, v = .slice a n c := by
  obtain ⟨h1, ⟨h2, h3⟩ | ⟨g, cap, cur, hv, _⟩⟩ := h
  · exact ⟨none, 0, by rw [h2, h3]⟩
  · exact ⟨_, _, hv⟩
theorem assert_entry (a r k : Int) (w : World) : (Instr.typeAssert (.iface 41 (.agg #[.int .i64 a, .int .i64 r, .int .u64 k])) 20 41 false).run Try.prog w = .ok (.agg #[.int .i64 a, .int .i64 r, .int .u64 k]) w := by rfl

/-- Of block b nothing but its first cell has turned, and nothing of other old blocks but F. -/
structure TouchB (b : Nat) (F : Nat → Prop) (w w' : World) : Prop where
  t : Touch (fun k => k = b ∨ F k) w w'
  rest : ∀ o, o ≠ 0 → w'.cell? ⟨b, o, none⟩ = w.cell? ⟨b, o, none⟩
theorem TouchB.of {b : Nat} {F : Nat → Prop} {w w' : World} (h : Touch F w w') (hb : b < w.heap.size) (hn : ¬ F b) : TouchB b F w w' := ⟨h.mono (fun _ _ e => Or.inr e), fun o _ => h.cell (p := ⟨b, o, none⟩) hb hn⟩
theorem TouchB.trans {b : Nat} {F G : Nat → Prop} {w w' w'' : World} (h : TouchB b F w w') (k : TouchB b G w' w'') (hG : ∀ i, i < w.heap.size → G i → F i) : TouchB b F w w'' :=
  ⟨h.t.trans' k.t (fun i hi e => e.elim Or.inl (fun e => Or.inr (hG i hi e))), fun o ho => (k.rest o ho).trans (h.rest o ho)⟩

/-- The rows behind a push. -/
structure PushP (w : World) (b : Nat) (v : Value) (m n : Nat) (l : List En) (f : Int → Option Int) (x : En) (e : Ending) (w' : World) : Prop where
  e : e = .returned (.tuple #[])
  out : ∃ v', PS w' b v' m n (l ++ [x]) f ∧ (v'.ownBlock = v.ownBlock ∨ ∃ g, v'.ownBlock = some g ∧ w.heap.size ≤ g)
  t : TouchB b (fun k => v.ownBlock = some k) w w'

theorem push_math {l : List En} {f : Int → Option Int} {x : En} (d1 : ∀ i : Nat, i < l.length → f (gt l i).k = some (i : Int)) (hx : f x.k = some (l.length : Int)) : ∀ i : Nat, i < (l ++ [x]).length → f (gt (l ++ [x]) i).k = some (i : Int) := by
  intro i hi
  simp at hi
  by_cases e : i = l.length
  · subst e; rw [gt_snoc]; exact hx
  · rw [gt_append_left (by omega)]; exact d1 i (by omega)

set_option maxHeartbeats 2000000 in
theorem fpush_any (w : World) (b : Nat) (v : Value) (m n : Nat) (l : List En) (f : Int → Option Int) (P : PS w b v m n l f) (x : En) (hx : x.Ok) (hf : f x.k = some (l.length : Int)) (hl : l.length + 1 ≤ 2000000) :
    Calls Try.prog 86 #[.agg #[.pointer (some ⟨b, 0, none⟩)], .iface 41 (.agg #[.int .i64 x.a, .int .i64 x.r, .int .u64 x.k])] w (PushP w b v m n l f x) := by
  have hmb := P.mb
  have hmv := P.mv
  have HD : Hid _ := push_math P.d1 hf
  obtain ⟨c0, c1, f0, re, mp, d1, ok, bv, hn, hl2⟩ := P
  have hb := lt_of_cell c0
  obtain ⟨va, vc, rfl⟩ := re.shape
  have hta := assert_entry x.a x.r x.k
  obtain ⟨i0, hi0, hz0, hz1, hz2⟩ := infoParts infoEn
  go_enter Try.func86, Try.ntmps86
  go_wp2_with fail
  have T : Touch (fun _ => False) w (w.alloc (.cells #[.pointer (some ⟨b, 0, none⟩)] 85)) := (Touch.refl _ _).alloc _
  have pa : (w.alloc (.cells #[.pointer (some ⟨b, 0, none⟩)] 85)).cell? ⟨w.heap.size, 0, none⟩ = some (.pointer (some ⟨b, 0, none⟩)) := by simp [go_sem]
  generalize w.alloc (.cells #[.pointer (some ⟨b, 0, none⟩)] 85) = wa at T pa ⊢
  replace T : Touch (fun _ => False) w wa.drew := T.drew
  have pd : wa.drew.cell? ⟨w.heap.size, 0, none⟩ = some (.pointer (some ⟨b, 0, none⟩)) := pa
  refine wp_region_held_drew (S := fun w' => w'.cell? ⟨w.heap.size, 0, none⟩ = some (.pointer (some ⟨b, 0, none⟩))) (by kernel_rfl) pd (fun hHeld => ?_)
  clear pa
  generalize wa.drew = wd at T pd hHeld ⊢
  have hdb : b < wd.heap.size := Nat.lt_of_lt_of_le hb T.size
  have d0 := T.cellN c0
  have g0 := (T.frozen (p := ⟨b, 0, none⟩) hb (fun h => h)).trans f0
  have T1 : Touch (fun _ => False) wd (wd.alloc (.cells #[.int .i64 x.a, .int .i64 x.r, .int .u64 x.k] 41)) := (Touch.refl _ _).alloc _
  have n0 : (wd.alloc (.cells #[.int .i64 x.a, .int .i64 x.r, .int .u64 x.k] 41)).cell? ⟨wd.heap.size, 0, none⟩ = some (.int .i64 x.a) := by simp [go_sem]
  have n1 : (wd.alloc (.cells #[.int .i64 x.a, .int .i64 x.r, .int .u64 x.k] 41)).cell? ⟨wd.heap.size, 1, none⟩ = some (.int .i64 x.r) := by simp [go_sem]
  have n2 : (wd.alloc (.cells #[.int .i64 x.a, .int .i64 x.r, .int .u64 x.k] 41)).cell? ⟨wd.heap.size, 2, none⟩ = some (.int .u64 x.k) := by simp [go_sem]
  have e0 := T1.cellN d0
  have pe := T1.cellN pd
  have RW : RE (wd.alloc (.cells #[.int .i64 x.a, .int .i64 x.r, .int .u64 x.k] 41)) (.slice va l.length vc) l := (re.keep T (fun _ _ h => h)).keep T1 (fun _ _ h => h)
  obtain ⟨v', w2, hrun, own2, grown2, -, hat⟩ := run_append_own_at (P := Try.prog) (wd.alloc (.cells #[.int .i64 x.a, .int .i64 x.r, .int .u64 x.k] 41)) 0 36 36 41 i0 _ 3 24 Try.underlying36 hi0 hz0 hz1 hz2 rfl (by omega)
    (.slice va l.length vc) l.length (cellsOf l) RW ⟨wd.heap.size, 0, none⟩ 1 1 x.cs rfl (fun j u hj => by
      rcases (by have := (List.getElem?_eq_some_iff.1 hj).1; simp [En.cs] at this; omega : j = 0 ∨ j = 1 ∨ j = 2) with rfl | rfl | rfl
      · simp [En.cs] at hj; subst hj; simp [Addr.add]
      · simp [En.cs] at hj; subst hj; simp [Addr.add]
      · simp [En.cs] at hj; subst hj; simp [Addr.add]) (fun u hu => by simp [En.cs] at hu; rcases hu with rfl | rfl | rfl <;> rfl) (by unfold maxLen; omega) (by omega) (Nat.zero_le _)
  obtain ⟨ua, uc, rfl⟩ := own_shape own2
  have hbne : Value.ownBlock (.slice va l.length vc) ≠ some b := bv
  have t2 : Touch (fun k => Value.ownBlock (.slice va l.length vc) = some k) (wd.alloc (.cells #[.int .i64 x.a, .int .i64 x.r, .int .u64 x.k] 41)) w2 := Touch.grown (Touch.refl _ _) grown2 (fun k hk => Or.inl hk)
  have hbW : b < (wd.alloc (.cells #[.int .i64 x.a, .int .i64 x.r, .int .u64 x.k] 41)).heap.size := lt_of_cell e0
  have hHW : w.heap.size < (wd.alloc (.cells #[.int .i64 x.a, .int .i64 x.r, .int .u64 x.k] 41)).heap.size := lt_of_cell pe
  have hvH : Value.ownBlock (.slice va l.length vc) ≠ some w.heap.size := fun e => by have := (World.ownsRow.lt re _ e).2; omega
  have q0 := (t2.cell (p := ⟨b, 0, none⟩) hbW hbne).trans e0
  have qf := (t2.frozen (p := ⟨b, 0, none⟩) hbW hbne).trans ((T1.frozen (p := ⟨b, 0, none⟩) hdb (fun h => h)).trans g0)
  have qp := (t2.cell (p := ⟨w.heap.size, 0, none⟩) hHW hvH).trans pe
  have hbH : b ≠ w.heap.size := by omega
  have qs : (w2.setCell ⟨b, 0, none⟩ (.slice ua (l.length + 1) uc)).cell? ⟨w.heap.size, 0, none⟩ = some (.pointer (some ⟨b, 0, none⟩)) := by simpa [go_sem, hbH, Ne.symm hbH] using qp
  have hlen1 : (l ++ [x]).length = l.length + 1 := by simp
  have hcel : cellsOf (l ++ [x]) = cellsOf l ++ x.cs := by rw [cellsOf_append]; rfl
  have hvb : Value.ownBlock (.slice ua (l.length + 1) uc) ≠ some b := by
    rcases hat with e | e
    · rw [e]; exact bv
    · rw [e]; intro e'; injection e' with e'; have := T1.size; omega
  have hvm : Value.ownBlock (.slice ua (l.length + 1) uc) ≠ some m := by
    rcases hat with e | e
    · rw [e]; exact hmv
    · rw [e]; intro e'; injection e' with e'; have := T1.size; have := T.size; have := mp.lt; omega
  have TT : Touch (fun k => Value.ownBlock (.slice va l.length vc) = some k) w w2 := ((T.trans T1).mono (fun _ _ h => h.elim)).trans' t2 (fun _ _ h => h)
  have ts : Touch (fun k => k = b) w2 (w2.setCell ⟨b, 0, none⟩ (.slice ua (l.length + 1) uc)) := Touch.setCell (F := fun k => k = b) (p := ⟨b, 0, none⟩) (Touch.refl _ _) (Or.inl rfl) _
  have FIN : Hid (PushP w b (.slice va l.length vc) m n l f x (.returned (.tuple #[])) (w2.setCell ⟨b, 0, none⟩ (.slice ua (l.length + 1) uc))) := by
    refine ⟨rfl, ⟨.slice ua (l.length + 1) uc, ⟨?_, ?_, ?_, ?_, ?_, HD.out, ?_, hvb, hn, by omega⟩, ?_⟩, ⟨?_, ?_⟩⟩
    · simp [go_sem, q0]
    · have := (TT.cell (p := ⟨b, 1, none⟩) hb bv).trans c1
      simpa [go_sem] using this
    · simpa [go_sem] using qf
    · unfold RE
      rw [hlen1, hcel]
      exact own_touch own2 ts (fun k hk e => hvb (by rw [hk, e]))
    · exact (mp.keep TT hmv).keep ts hmb
    · intro e he
      rcases List.mem_append.1 he with h | h
      · exact ok e h
      · simp at h; subst h; exact hx
    · rcases hat with e | e
      · exact Or.inl e
      · exact Or.inr ⟨_, e, by have := T1.size; have := T.size; omega⟩
    · exact (TT.mono (fun _ _ h => Or.inr h)).trans (ts.mono (fun _ _ e => Or.inl e))
    · intro o ho
      have h1 : (w2.setCell ⟨b, 0, none⟩ (.slice ua (l.length + 1) uc)).cell? ⟨b, o, none⟩ = w2.cell? ⟨b, o, none⟩ := by simp [go_sem]
      rw [h1]
      exact TT.cell (p := ⟨b, o, none⟩) hb bv
  clear TT ts t2 hvm hcel hlen1 own2 grown2 hat RW re mp d1 ok c1 T1 T hi0 hz0 hz1 hz2
  refine wpAnyH_take (i := 0) (oi := ⟨some 4, _, _, _, _, _⟩) (v := .pointer (some ⟨w.heap.size, 0, none⟩)) rfl (by kernel_rfl) (by kernel_rfl) (by kernel_rfl) (fun _ _ _ h => h) (Or.inl ⟨by rfl, fun w hw => by go_simp⟩) (by assumption) ?_
  simp only [Act.put, List.setIfInBounds_toArray, List.set_cons_zero, List.set_cons_succ]
  refine wpAnyH_take (i := 1) (oi := ⟨some 5, _, _, _, _, _⟩) (v := .pointer (some ⟨b, 0, none⟩)) rfl (by kernel_rfl) (by kernel_rfl) (by kernel_rfl) (fun _ _ _ h => h) (Or.inl ⟨by rfl, fun w hw => by go_simp⟩) (by assumption) ?_
  simp only [Act.put, List.setIfInBounds_toArray, List.set_cons_zero, List.set_cons_succ]
  refine wpAnyH_take (i := 2) (oi := ⟨some 6, _, _, _, _, _⟩) (v := .pointer (some ⟨w.heap.size, 0, none⟩)) rfl (by kernel_rfl) (by kernel_rfl) (by kernel_rfl) (fun _ _ _ h => h) (Or.inl ⟨by rfl, fun w hw => by go_simp⟩) (by assumption) ?_
  simp only [Act.put, List.setIfInBounds_toArray, List.set_cons_zero, List.set_cons_succ]
  refine wpAnyH_take (i := 3) (oi := ⟨some 7, _, _, _, _, _⟩) (v := .pointer (some ⟨b, 0, none⟩)) rfl (by kernel_rfl) (by kernel_rfl) (by kernel_rfl) (fun _ _ _ h => h) (Or.inl ⟨by rfl, fun w hw => by go_simp⟩) (by assumption) ?_
  simp only [Act.put, List.setIfInBounds_toArray, List.set_cons_zero, List.set_cons_succ]
  refine wpAnyH_take (i := 4) (oi := ⟨some 8, _, _, _, _, _⟩) (v := .pointer (some ⟨b, 0, none⟩)) rfl (by kernel_rfl) (by kernel_rfl) (by kernel_rfl) (fun _ _ _ h => h) (Or.inl ⟨by rfl, fun w hw => by go_simp⟩) (by assumption) ?_
  simp only [Act.put, List.setIfInBounds_toArray, List.set_cons_zero, List.set_cons_succ]
  refine wpAnyH_take (i := 5) (oi := ⟨some 9, _, _, _, _, _⟩) (v := .pointer (some ⟨b, 0, none⟩)) rfl (by kernel_rfl) (by kernel_rfl) (by kernel_rfl) (fun _ _ _ h => h) (Or.inl ⟨by rfl, fun w hw => by go_simp⟩) (by assumption) ?_
  simp only [Act.put, List.setIfInBounds_toArray, List.set_cons_zero, List.set_cons_succ]
  refine wpAnyH_take (i := 7) (oi := ⟨some 11, _, _, _, _, _⟩) (v := .iface 41 (.agg #[.int .i64 x.a, .int .i64 x.r, .int .u64 x.k])) rfl (by kernel_rfl) (by kernel_rfl) (by kernel_rfl) (fun _ _ _ h => h) (Or.inl ⟨by rfl, fun w hw => by go_simp⟩) (by assumption) ?_
  simp only [Act.put, List.setIfInBounds_toArray, List.set_cons_zero, List.set_cons_succ]
  refine wpAnyH_take (i := 8) (oi := ⟨some 12, _, _, _, _, _⟩) (v := .agg #[.int .i64 x.a, .int .i64 x.r, .int .u64 x.k]) rfl (by kernel_rfl) (by kernel_rfl) (by kernel_rfl) (fun _ _ _ h => h) (Or.inl ⟨by rfl, fun w hw => by go_simp⟩) (by assumption) ?_
  simp only [Act.put, List.setIfInBounds_toArray, List.set_cons_zero, List.set_cons_succ]
  refine wpAnyH_ready (rs := [6, 9]) (by kernel_rfl) (by simp) ?_
  refine AllReadyH.cons rfl (fun K hK => ?_) (AllReadyH.cons rfl (fun K hK => ?_) AllReadyH.nil)
  · go_simp
    refine hK.out _ _ (pd) (fun hHeld => ?_)
    clear hK K
    refine wpAnyH_ready (rs := [9]) (by kernel_rfl) (by simp) ?_
    refine AllReadyH.cons rfl (fun K hK => ?_) AllReadyH.nil
    go_simp
    refine hK.out _ _ (pe) (fun hHeld => ?_)
    clear hK K
    refine wpAnyH_ready (rs := [10]) (by kernel_rfl) (by simp) ?_
    refine AllReadyH.cons rfl (fun K hK => ?_) AllReadyH.nil
    refine step_run_append rfl (.tmp 10) (.tmp 13) 36 rfl _ _ _ _ (by rfl) (by rfl) hrun ?_
    simp only [Act.put, List.setIfInBounds_toArray]
    refine hK.out _ _ (qp) (fun hHeld => ?_)
    clear hK K
    refine wpAnyH_take (i := 11) (oi := ⟨some 15, _, _, _, _, _⟩) (v := .pointer (some ⟨b, 0, none⟩)) rfl (by kernel_rfl) (by kernel_rfl) (by kernel_rfl) (fun _ _ _ h => h) (Or.inl ⟨by rfl, fun w hw => by go_simp⟩) (by assumption) ?_
    simp only [Act.put]
    refine wpAnyH_take (i := 12) (oi := ⟨some 16, _, _, _, _, _⟩) (v := .pointer (some ⟨b, 0, none⟩)) rfl (by kernel_rfl) (by kernel_rfl) (by kernel_rfl) (fun _ _ _ h => h) (Or.inl ⟨by rfl, fun w hw => by go_simp⟩) (by assumption) ?_
    simp only [Act.put]
    refine wpAnyH_ready (rs := [13]) (by kernel_rfl) (by simp) ?_
    refine AllReadyH.cons rfl (fun K hK => ?_) AllReadyH.nil
    go_simp
    refine hK.out _ _ (qs) (fun hHeld => ?_)
    clear hK K
    refine wpAnyH_done (by kernel_rfl) ?_ _
    go_wp2_with fail
    exact bodyPost_end (results_none rfl _ _ _) rfl FIN.out
  · go_simp
    refine hK.out _ _ (pe) (fun hHeld => ?_)
    clear hK K
    refine wpAnyH_ready (rs := [6]) (by kernel_rfl) (by simp) ?_
    refine AllReadyH.cons rfl (fun K hK => ?_) AllReadyH.nil
    go_simp
    refine hK.out _ _ (pe) (fun hHeld => ?_)
    clear hK K
    refine wpAnyH_ready (rs := [10]) (by kernel_rfl) (by simp) ?_
    refine AllReadyH.cons rfl (fun K hK => ?_) AllReadyH.nil
    refine step_run_append rfl (.tmp 10) (.tmp 13) 36 rfl _ _ _ _ (by rfl) (by rfl) hrun ?_
    simp only [Act.put, List.setIfInBounds_toArray]
    refine hK.out _ _ (qp) (fun hHeld => ?_)
    clear hK K
    refine wpAnyH_take (i := 11) (oi := ⟨some 15, _, _, _, _, _⟩) (v := .pointer (some ⟨b, 0, none⟩)) rfl (by kernel_rfl) (by kernel_rfl) (by kernel_rfl) (fun _ _ _ h => h) (Or.inl ⟨by rfl, fun w hw => by go_simp⟩) (by assumption) ?_
    simp only [Act.put]
    refine wpAnyH_take (i := 12) (oi := ⟨some 16, _, _, _, _, _⟩) (v := .pointer (some ⟨b, 0, none⟩)) rfl (by kernel_rfl) (by kernel_rfl) (by kernel_rfl) (fun _ _ _ h => h) (Or.inl ⟨by rfl, fun w hw => by go_simp⟩) (by assumption) ?_
    simp only [Act.put]
    refine wpAnyH_ready (rs := [13]) (by kernel_rfl) (by simp) ?_
    refine AllReadyH.cons rfl (fun K hK => ?_) AllReadyH.nil
    go_simp
    refine hK.out _ _ (qs) (fun hHeld => ?_)
    clear hK K
    refine wpAnyH_done (by kernel_rfl) ?_ _
    go_wp2_with fail
    exact bodyPost_end (results_none rfl _ _ _) rfl FIN.out
end Go.Proofs.Ytmdnlfbploaafaa
