
/- What a list's calls do: made, Key, empty, New, Len. -/
import Derived.Test.YtedolfggbgmklaaSpRing
import Derived.BigRegion
import Derived.Deep.DeepCutAuto
namespace Go.Proofs.Ytedolfggbgmklaa
open Go.RowKit
set_option linter.unusedVariables false
set_option maxRecDepth 100000

/-- A list's cells. -/
def LC (rx wt : Int) (m e : Nat) : List Value := [.int .u16 rx, .int .u16 wt, .map (some m), ptr e]
/-- A list in memory: its block L, its map m, its ring's ends e, and what it holds. -/
structure LSt (w : World) (L m e : Nat) (rx wt : Int) (l : List It) : Prop where
  row : Row w L 64 (LC rx wt m e)
  map : PM w m l
  ring : Ring w e l
  nd : (L :: m :: e :: l.map (·.b)).Nodup
  ky : (l.map (fun i => i.h.ky)).Nodup
  ok : ∀ i ∈ l, i.h.Al
/-- The list's own blocks. -/
def LB (L m e : Nat) (l : List It) (k : Nat) : Prop := k = L ∨ k = m ∨ k = e ∨ ∃ i ∈ l, k = i.b
theorem LSt.keep {F : Nat → Prop} {w w' : World} {L m e : Nat} {rx wt : Int} {l : List It} (h : LSt w L m e rx wt l) (t : Touch F w w') (hn : ∀ k, LB L m e l k → ¬ F k) : LSt w' L m e rx wt l := by
  have rk : ∀ {g : Nat} {T : TypeId} {xs : List Value}, Row w g T xs → LB L m e l g → Row w' g T xs := fun r b => (t.block _ r.lt (hn _ b)).trans r
  have sk : ∀ (l' : List It) (p n : Nat), (∀ i ∈ l', i ∈ l) → Seg w p l' n → Seg w' p l' n := by
    intro l'
    induction l' with
    | nil => intros; trivial
    | cons i l' ih => exact fun p n hs hg => ⟨rk hg.1 (Or.inr (Or.inr (Or.inr ⟨i, hs i (by simp), rfl⟩))), ih _ _ (fun j hj => hs j (by simp [hj])) hg.2⟩
  exact ⟨rk h.row (Or.inl rfl), h.map.keep t (hn m (Or.inr (Or.inl rfl))), ⟨rk h.ring.ends (Or.inr (Or.inr (Or.inl rfl))), sk l _ _ (fun _ h => h) h.ring.seg⟩, h.nd, h.ky, h.ok⟩
theorem LSt.keepN {w w' : World} {L m e : Nat} {rx wt : Int} {l : List It} (h : LSt w L m e rx wt l) (t : Touch (fun _ => False) w w') : LSt w' L m e rx wt l := h.keep t (fun _ _ h => h)
theorem PM.runLen {w : World} {m : Nat} {l : List It} (h : PM w m l) (ty : TypeId) : (Builtin.len_ #[61] ty #[.map (some m)]).run Try.prog w = .ok (.int .i64 l.length) w := by
  obtain ⟨es, c, h1, h2⟩ := h.len
  rw [run_len_map w _ ty m es c (by kernel_rfl) h1, h2]
  rfl
set_option maxHeartbeats 400000 in
theorem lmade_yes (w : World) (L : Nat) (rx : Int) (hr : rx ≠ 0) (hc : w.cell? ⟨L, 0, none⟩ = some (.int .u16 rx)) : Calls Try.prog 37 #[.pointer (some ⟨L, 0, none⟩)] w fun e w' => e = .returned (.bool true) ∧ w = w' := by
  have h1 : (rx != 0) = true := by simpa using hr
  have hl := lt_of_cell hc
  go_enter Try.func37, Try.ntmps37
  go_wp2
  go_ret
  exact ⟨rfl, rfl⟩
set_option maxHeartbeats 400000 in
theorem lkey_any (w : World) (x : HV) : Calls Try.prog 38 #[.agg #[.int .u16 x.age, .int .u8 x.opts, .int .u8 x.typ, .int .u32 x.id, .int .u32 x.adv, .int .i32 x.seq, .int .u16 x.sum, .int .u16 x.len]] w fun e w' => e = .returned (.agg #[.int .u8 x.typ, .int .u32 x.id, .int .u32 x.adv]) ∧ Touch (fun _ => False) w w' := by
  go_enter Try.func38, Try.ntmps38
  go_wp2_with fail
  refine bodyPost_ret (v := .agg #[.int .u8 x.typ, .int .u32 x.id, .int .u32 x.adv]) (by simp [results, Try.results38, go_sem]) rfl ⟨rfl, ?_⟩
  exact ((Touch.refl _ _).alloc _).alloc _
set_option maxHeartbeats 400000 in
theorem rkey_any (w : World) (x : HV) : Calls Try.prog 21 #[.agg #[.int .u16 x.age, .int .u8 x.opts, .int .u8 x.typ, .int .u32 x.id, .int .u32 x.adv, .int .i32 x.seq, .int .u16 x.sum, .int .u16 x.len]] w fun e w' => e = .returned (.agg #[.int .u8 x.typ, .int .u32 x.id, .int .u32 x.adv]) ∧ Touch (fun _ => False) w w' := by
  go_enter Try.func21, Try.ntmps21
  go_wp2_with fail
  refine bodyPost_ret (v := .agg #[.int .u8 x.typ, .int .u32 x.id, .int .u32 x.adv]) (by simp [results, Try.results21, go_sem]) rfl ⟨rfl, ?_⟩
  exact ((Touch.refl _ _).alloc _).alloc _
set_option maxHeartbeats 4000000 in
theorem lempty_any (w : World) (L : Nat) (rx wt : Int) (x y : Value) (h : Row w L 64 [.int .u16 rx, .int .u16 wt, x, y]) : Calls Try.prog 36 #[.pointer (some ⟨L, 0, none⟩)] w fun e' w' => e' = .returned (.tuple #[]) ∧ ∃ m e, LSt w' L m e rx wt [] ∧ w.heap.size ≤ m ∧ w.heap.size ≤ e ∧ Touch (fun k => k = L) w w' := by
  have c0 : w.cell? ⟨L, 0, none⟩ = some (.int .u16 rx) := h.cell 0
  have c1 : w.cell? ⟨L, 1, none⟩ = some (.int .u16 wt) := h.cell 1
  have c2 : w.cell? ⟨L, 2, none⟩ = some x := h.cell 2
  have c3 : w.cell? ⟨L, 3, none⟩ = some y := h.cell 3
  have hl := h.lt
  have hf := h.frozen
  have H : Hid (Row w L 64 [.int .u16 rx, .int .u16 wt, x, y]) := h
  have hmm := @run_makeMap Try.prog
  clear h
  go_enter Try.func36, Try.ntmps36
  go_wp2_with fail
  have RL : Row ((((w.setCell ⟨L, 2, none⟩ (.map (some w.heap.size))).setCell ⟨L, 3, none⟩ (.pointer (some ⟨w.heap.size + 1, 0, none⟩))).alloc (.map #[] 0)).alloc (.cells #[.int .u16 0, .int .u8 0, .int .u8 0, .int .u32 0, .int .u32 0, .int .i32 0, .int .u16 0, .int .u16 0, .slice none 0 0, .pointer none, .pointer none] 72)) L 64 (LC rx wt w.heap.size (w.heap.size + 1)) := by
    have := (((H.out.set 2 (.map (some w.heap.size))).set 3 (ptr (w.heap.size + 1))).keep ((Touch.refl _ _).alloc (.map #[] 0))).keep ((Touch.refl _ _).alloc (.cells #[.int .u16 0, .int .u8 0, .int .u8 0, .int .u32 0, .int .u32 0, .int .i32 0, .int .u16 0, .int .u16 0, .slice none 0 0, .pointer none, .pointer none] 72))
    exact this
  have RM : PM ((((w.setCell ⟨L, 2, none⟩ (.map (some w.heap.size))).setCell ⟨L, 3, none⟩ (.pointer (some ⟨w.heap.size + 1, 0, none⟩))).alloc (.map #[] 0)).alloc (.cells #[.int .u16 0, .int .u8 0, .int .u8 0, .int .u32 0, .int .u32 0, .int .i32 0, .int .u16 0, .int .u16 0, .slice none 0 0, .pointer none, .pointer none] 72)) w.heap.size [] := by
    have := (PM.made ((w.setCell ⟨L, 2, none⟩ (.map (some w.heap.size))).setCell ⟨L, 3, none⟩ (.pointer (some ⟨w.heap.size + 1, 0, none⟩))) 0).keep ((Touch.refl (fun _ => False) _).alloc (.cells #[.int .u16 0, .int .u8 0, .int .u8 0, .int .u32 0, .int .u32 0, .int .i32 0, .int .u16 0, .int .u16 0, .slice none 0 0, .pointer none, .pointer none] 72)) (fun h => h)
    simpa using this
  have RE : Row ((((w.setCell ⟨L, 2, none⟩ (.map (some w.heap.size))).setCell ⟨L, 3, none⟩ (.pointer (some ⟨w.heap.size + 1, 0, none⟩))).alloc (.map #[] 0)).alloc (.cells #[.int .u16 0, .int .u8 0, .int .u8 0, .int .u32 0, .int .u32 0, .int .i32 0, .int .u16 0, .int .u16 0, .slice none 0 0, .pointer none, .pointer none] 72)) (w.heap.size + 1) 72 [.int .u16 0, .int .u8 0, .int .u8 0, .int .u32 0, .int .u32 0, .int .i32 0, .int .u16 0, .int .u16 0, .slice none 0 0, .pointer none, .pointer none] := by
    have := row_new ((((w.setCell ⟨L, 2, none⟩ (.map (some w.heap.size))).setCell ⟨L, 3, none⟩ (.pointer (some ⟨w.heap.size + 1, 0, none⟩))).alloc (.map #[] 0))) 72 #[.int .u16 0, .int .u8 0, .int .u8 0, .int .u32 0, .int .u32 0, .int .i32 0, .int .u16 0, .int .u16 0, .slice none 0 0, .pointer none, .pointer none]
    simpa using this
  have T0 : Touch (fun k => k = L) w ((((w.setCell ⟨L, 2, none⟩ (.map (some w.heap.size))).setCell ⟨L, 3, none⟩ (.pointer (some ⟨w.heap.size + 1, 0, none⟩))).alloc (.map #[] 0)).alloc (.cells #[.int .u16 0, .int .u8 0, .int .u8 0, .int .u32 0, .int .u32 0, .int .i32 0, .int .u16 0, .int .u16 0, .slice none 0 0, .pointer none, .pointer none] 72)) := ((((Touch.refl (fun k => k = L) w).setCell (p := ⟨L, 2, none⟩) (Or.inl rfl) _).setCell (p := ⟨L, 3, none⟩) (Or.inl rfl) _).alloc _).alloc _
  clear c0 c1 c2 c3 hf H hmm
  generalize ((((w.setCell ⟨L, 2, none⟩ (.map (some w.heap.size))).setCell ⟨L, 3, none⟩ (.pointer (some ⟨w.heap.size + 1, 0, none⟩))).alloc (.map #[] 0)).alloc (.cells #[.int .u16 0, .int .u8 0, .int .u8 0, .int .u32 0, .int .u32 0, .int .i32 0, .int .u16 0, .int .u16 0, .slice none 0 0, .pointer none, .pointer none] 72)) = w0 at *
  generalize hm : w.heap.size = m at *
  generalize he : m + 1 = e at *
  have q0 : w0.cell? ⟨L, 3, none⟩ = some (.pointer (some ⟨e, 0, none⟩)) := RL.cell 3
  have q1 : w0.cell? ⟨e, 9, none⟩ = some (.pointer none) := RE.cell 9
  have q2 : w0.cell? ⟨e, 10, none⟩ = some (.pointer none) := RE.cell 10
  have hf := RE.frozen
  have hL := RL.lt
  have hE := RE.lt
  have R2 : Row ((w0.setCell ⟨e, 9, none⟩ (ptr e)).setCell ⟨e, 10, none⟩ (ptr e)).drew e 72 (H0.pl (.slice none 0 0) e e) := ((RE.set 9 (ptr e)).set 10 (ptr e)).keep ((Touch.refl _ _).drew)
  have T2 : Touch (fun k => k = e) w0 ((w0.setCell ⟨e, 9, none⟩ (ptr e)).setCell ⟨e, 10, none⟩ (ptr e)).drew := (((Touch.refl (fun k => k = e) w0).setCell (p := ⟨e, 9, none⟩) (Or.inl rfl) _).setCell (p := ⟨e, 10, none⟩) (Or.inl rfl) _).drew
  have X : Hid (LSt ((w0.setCell ⟨e, 9, none⟩ (ptr e)).setCell ⟨e, 10, none⟩ (ptr e)).drew L m e rx wt [] ∧ Touch (fun k => k = L) w ((w0.setCell ⟨e, 9, none⟩ (ptr e)).setCell ⟨e, 10, none⟩ (ptr e)).drew) := ⟨⟨(T2.block L hL (by omega)).trans RL, RM.keep T2 (by omega), ⟨R2, trivial⟩, by simp; omega, by simp, by simp⟩, T0.trans' T2 (by omega)⟩
  have hme : Hid (w.heap.size ≤ m ∧ w.heap.size ≤ e) := ⟨by omega, by omega⟩
  clear RL RM RE T0 R2 T2 hm he hl
  unfold ptr at X
  go_region
  go_wp2_with fail
  refine bodyPost_end (results_none rfl _ _ _) rfl ?_
  exact ⟨rfl, m, e, X.out.1, hme.out.1, hme.out.2, X.out.2⟩
set_option maxHeartbeats 400000 in
theorem llen_any (w : World) (L m e : Nat) (rx wt : Int) (l : List It) (h : LSt w L m e rx wt l) (hr : rx ≠ 0) : Calls Try.prog 29 #[.pointer (some ⟨L, 0, none⟩)] w fun e' w' => e' = .returned (.int .i64 l.length) ∧ w = w' := by
  have c2 : w.cell? ⟨L, 2, none⟩ = some (.map (some m)) := h.row.cell 2
  have HM := lmade_yes w L rx hr (h.row.cell 0)
  have hl := h.row.lt
  have hm := h.map.runLen
  clear h
  generalize (l.length : Int) = N at *
  go_enter Try.func29, Try.ntmps29
  go_wp2_with fail
  refine Calls.mono HM ?_
  rintro e w1 ⟨rfl, rfl⟩
  go_wp2_with fail
  go_ret
  exact ⟨rfl, rfl⟩
set_option maxHeartbeats 400000 in
theorem lnew_any (w : World) (rx : Int) (hr : rx ≠ 0) : Calls Try.prog 20 #[.int .u16 rx] w fun e' w' => ∃ L m e, e' = .returned (.tuple #[.pointer (some ⟨L, 0, none⟩), .int .i64 0]) ∧ LSt w' L m e rx 0 [] ∧ w.heap.size ≤ L ∧ w.heap.size ≤ m ∧ w.heap.size ≤ e ∧ Touch (fun _ => False) w w' := by
  have h1 : (rx == 0) = false := by simpa using hr
  have HE := fun w' => lempty_any w'
  go_enter Try.func20, Try.ntmps20
  go_wp2_with fail
  refine Calls.mono (HE _ _ rx 0 (.map none) (.pointer none) (row_new _ _ _)) ?_
  rintro e' w1 ⟨rfl, m, e, hs, hm, he, t⟩
  have X : Hid (LSt w1 w.heap.size m e rx 0 [] ∧ w.heap.size ≤ w.heap.size ∧ w.heap.size ≤ m ∧ w.heap.size ≤ e ∧ Touch (fun _ => False) w w1) := ⟨hs, Nat.le_refl _, by simp at hm; omega, by simp at he; omega, ((Touch.refl _ w).alloc _).trans' t (fun i hi h => by omega)⟩
  clear hs hm he t HE
  go_wp2_with fail
  go_ret2
  exact ⟨_, m, e, rfl, X.out⟩
end Go.Proofs.Ytedolfggbgmklaa
