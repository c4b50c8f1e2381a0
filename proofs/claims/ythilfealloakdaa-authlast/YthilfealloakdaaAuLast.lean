/- Rows of values of any element type: that came in, and that grow by append. -/
import Derived.Test.YthilfealloakdaaDigBuf
import Derived.Test.YthilfealloakdaaParts
import Derived.Laws.Rows
import Derived.Laws.Tables
import Derived.Test.YthilfealloakdaaArgB
import Derived.Deep.LoopGhost
namespace Go.Proofs.Ythilfealloakdaa
open Go.RowKit
set_option linter.unusedVariables false
set_option maxRecDepth 100000

/-- A slice of n elements of k cells each reads, cell by cell, as xs; of the address of one without cells nothing is known. -/
def ValsAt (w : World) (k : Nat) (v : Value) (n : Nat) (xs : List Value) : Prop :=
  xs.length = n * k ∧ ((v = .slice none 0 0 ∧ n = 0) ∨ ∃ ad c, v = .slice (some ad) n c ∧ n ≤ c ∧ c ≤ maxLen ∧ ∀ j u, xs[j]? = some u → w.cell? (ad.add j) = some u)
theorem ValsAt.form {w : World} {k : Nat} {v : Value} {n : Nat} {xs : List Value} (h : ValsAt w k v n xs) : ∃ a c, v = .slice a n c ∧ n ≤ maxLen := by
  rcases h.2 with ⟨rfl, rfl⟩ | ⟨ad, c, rfl, h1, h2, _⟩
  · exact ⟨_, _, rfl, Nat.zero_le _⟩
  · exact ⟨_, _, rfl, Nat.le_trans h1 h2⟩
theorem ValsAt.keep {w w' : World} {k : Nat} {v : Value} {n : Nat} {xs : List Value} (h : ValsAt w k v n xs) (t : Touch (fun _ => False) w w') : ValsAt w' k v n xs := by
  refine ⟨h.1, ?_⟩
  rcases h.2 with h | ⟨ad, c, rfl, h1, h2, h3⟩
  · exact Or.inl h
  · exact Or.inr ⟨ad, c, rfl, h1, h2, fun j u hj => t.cellN (h3 j u hj)⟩
/-- Where there is an element: its cells. -/
theorem ValsAt.cells {w : World} {k : Nat} {v : Value} {n : Nat} {xs : List Value} (h : ValsAt w k v n xs) (hn : 0 < n) (hk : 0 < k) :
    ∃ g off c, v = .slice (some ⟨g, off, none⟩) n c ∧ n ≤ c ∧ c ≤ maxLen ∧ ∀ j u, xs[j]? = some u → w.cell? ⟨g, off + j, none⟩ = some u := by
  obtain ⟨hl, h⟩ := h
  rcases h with ⟨_, rfl⟩ | ⟨ad, c, rfl, h1, h2, h3⟩
  · omega
  · have hp : 0 < xs.length := by rw [hl]; exact Nat.mul_pos hn hk
    obtain ⟨g, off, spot⟩ := ad
    have hc := h3 0 xs[0] (by simp [hp])
    have hspot : spot = none := by simpa [Addr.add] using World.cell?_spot hc
    subst hspot
    exact ⟨g, off, c, rfl, h1, h2, fun j u hj => by have := h3 j u hj; rwa [add_plain] at this⟩
theorem ArgAt.vals {w : World} {v : Value} {rs : List Int} (h : ArgAt w v rs) : ValsAt w 1 v rs.length (bytesOf rs) := by
  refine ⟨by simp [bytesOf], ?_⟩
  rcases h with ⟨rfl, rfl⟩ | h
  · exact Or.inl ⟨rfl, rfl⟩
  · exact Or.inr h

/-- v is a row of n elements (type e, k cells each) that was made since w0, and reads as xs; nothing of w0 has turned. -/
structure VBuf (e k : Nat) (w0 w : World) (v : Value) (n : Nat) (xs : List Value) : Prop where
  own : w.ownsRow w0.heap.size e k v n xs
  t : Touch (fun _ => False) w0 w
theorem VBuf.keep {e k : Nat} {w0 w w' : World} {v : Value} {n : Nat} {xs : List Value} (h : VBuf e k w0 w v n xs) (t : Touch (fun _ => False) w w') : VBuf e k w0 w' v n xs := ⟨own_touch h.own t (fun _ _ h => h), h.t.trans t⟩
theorem VBuf.back {e k : Nat} {w0 w w' : World} {v : Value} {n : Nat} {xs : List Value} (h : VBuf e k w w' v n xs) (t : Touch (fun _ => False) w0 w) : VBuf e k w0 w' v n xs := by
  refine ⟨⟨h.own.1, ?_⟩, t.trans h.t⟩
  rcases h.own.2 with h2 | ⟨g, cap, cur, hv, hb, hr⟩
  · exact Or.inl h2
  · exact Or.inr ⟨g, cap, cur, hv, Nat.le_trans t.size hb, hr⟩
theorem VBuf.nil (e k : Nat) {w0 w : World} (t : Touch (fun _ => False) w0 w) : VBuf e k w0 w (.slice none 0 0) 0 [] := ⟨World.ownsRow_nil _ _ _ _, t⟩
theorem VBuf.form {e k : Nat} {w0 w : World} {v : Value} {n : Nat} {xs : List Value} (h : VBuf e k w0 w v n xs) : ∃ a c, v = .slice a n c := by
  rcases h.own.2 with ⟨rfl, e⟩ | ⟨g, cap, cur, rfl, _⟩
  · exact ⟨none, 0, by rw [e]⟩
  · exact ⟨_, cap, rfl⟩
theorem VBuf.vals {e k : Nat} {w0 w : World} {v : Value} {n : Nat} {xs : List Value} (h : VBuf e k w0 w v n xs) : ValsAt w k v n xs := by
  refine ⟨h.own.1, ?_⟩
  rcases h.own.2 with h2 | ⟨g, cap, cur, hv, hb, hh, h1, h2, h3, h4⟩
  · exact Or.inl h2
  · refine Or.inr ⟨_, cap, hv, h1, h2, fun j u hj => ?_⟩
    have hjl := (List.getElem?_eq_some_iff.mp hj).1
    have hl := h.own.1
    rw [add_plain, Nat.zero_add]
    rw [← h4, List.getElem?_take, if_pos (by omega)] at hj
    simp [World.cell?, hh]
    simpa using hj
theorem VBuf.bytes {w0 w : World} {v : Value} {l : List Int} (h : VBuf 5 1 w0 w v l.length (bytesOf l)) : Buf w0 w v l := ⟨h.own, h.t⟩
theorem Buf.vbuf {w0 w : World} {v : Value} {l : List Int} (h : Buf w0 w v l) : VBuf 5 1 w0 w v l.length (bytesOf l) := ⟨h.own, h.t⟩

section
variable {ops : Array Oper} {rest : List Oper} {o : Oper} {a : Act} {Q : Exit → Act → World → Prop} {w : World}
/-- append(p, x...), of any element type. -/
theorem vapp_arg (hgd : o.guard = none) (s x : Operand) (t : TypeId) (ho : o.op = .call { callee := .builtin .append, args := #[s, x], argTypes := #[t, t] })
    (e k bytes : Nat) (z : Value) (ht : Try.prog.underlying t = some (.slice e)) (hi : (Try.prog.info? e).map (fun i => (i.zero, i.size, i.bytes)) = some (some z, k, bytes)) (hzs : z.cells.size = k) (hk : 0 < k) (hby : bytes ≤ 64)
    (w0 : World) (v : Value) (n : Nat) (xs : List Value) (hs : a.eval s = v) (hb : VBuf e k w0 w v n xs) (vx : Value) (m : Nat) (news : List Value) (hx : a.eval x = vx) (hr : ValsAt w k vx m news) (h1 : ∀ u ∈ news, u.oneCell' = true) (hl : n + m ≤ 1099511627776)
    (h : ∀ v' w', VBuf e k w0 w' v' (n + m) (xs ++ news) → wpList Try.prog ops Q rest (a.put o.dst v') w') : wpList Try.prog ops Q (o :: rest) a w := by
  obtain ⟨i0, hi, hz0, hz1, hz2⟩ := info_parts hi
  obtain ⟨hnl, hr⟩ := hr
  rcases hr with ⟨rfl, rfl⟩ | ⟨ad, c, rfl, h2, h3, h4⟩
  · have hn0 : news = [] := List.length_eq_zero_iff.1 (by omega)
    subst hn0
    refine wpList_append_own_none hgd s x t ho w0.heap.size e i0 k ht hi v n xs hs hb.own hx ?_
    exact h v w (by rw [List.append_nil]; exact hb)
  · have hmul : (n + m) * bytes ≤ 1099511627776 * 64 := Nat.mul_le_mul hl hby
    refine wpList_append_own_at w hgd s x t ho w0.heap.size e i0 z k bytes ht hi hz0 hz1 hz2 hzs hk v n xs hs hb.own ad m c news hx hnl h4 h1 (by unfold maxLen; omega) (by omega) hb.t.size ?_
    intro v' w' hown hg _ _
    exact h v' w' ⟨hown, hb.t.grown hg (fun k hk => Or.inr (hb.own.lt k hk).1)⟩
end
end Go.Proofs.Ythilfealloakdaa

namespace Go.Proofs.Ythilfealloakdaa
open Go.RowKit
set_option linter.unusedVariables false

theorem ret_int {k : IntKind} {a b : Int} (h : a = b) : Ending.returned (.int k a) = .returned (.int k b) := by rw [h]
theorem ret_bool {a b : Bool} (h : a = b) : Ending.returned (.bool a) = .returned (.bool b) := by rw [h]
theorem ret_bits {a b : Int} {c d : Bool} (h : a = b) (h' : c = d) : Ending.returned (.tuple #[.int .u8 a, .bool c]) = .returned (.tuple #[.int .u8 b, .bool d]) := by rw [h, h']
end Go.Proofs.Ythilfealloakdaa

namespace Go.Proofs.Ythilfealloakdaa
open Go.RowKit
set_option linter.unusedVariables false
set_option maxRecDepth 100000

theorem all_oneCell {cs : List Value} (h : ∀ v ∈ cs, v.oneCell' = true) : cs.toArray.all (·.oneCell') = true := Array.all_eq_true_iff_forall_mem.2 (fun v hv => h v (by simpa using hv))
/-- Block g holds just the cells xs. -/
def Row (w : World) (g : Nat) (T : TypeId) (xs : List Value) : Prop := w.heap[g]? = some (.cells xs.toArray T (0, 0))
theorem Row.cell {w : World} {g : Nat} {T : TypeId} {xs : List Value} (h : Row w g T xs) (j : Nat) : w.cell? ⟨g, j, none⟩ = xs[j]? := by
  rw [cell_of_row w g j _ T _ h]
  simp
theorem Row.frozen {w : World} {g : Nat} {T : TypeId} {xs : List Value} (h : Row w g T xs) (j : Nat) : w.frozen? ⟨g, j, none⟩ = false := frozen_of_row w g j _ T h
theorem Row.set {w : World} {g : Nat} {T : TypeId} {xs : List Value} (h : Row w g T xs) (j : Nat) (u : Value) : Row (w.setCell ⟨g, j, none⟩ u) g T (xs.set j u) := by
  unfold Row at *
  rw [heap_setCell_same w g j _ T u h]
  simp
theorem Row.keep {w w' : World} {g : Nat} {T : TypeId} {xs : List Value} (h : Row w g T xs) (t : Touch (fun _ => False) w w') : Row w' g T xs := t.heapN h
theorem Row.other {w : World} {g : Nat} {T : TypeId} {xs : List Value} (h : Row w g T xs) {p : Addr} (hp : g ≠ p.block) (u : Value) : Row (w.setCell p u) g T xs := (heap_setCell_other w p g u hp).trans h
theorem Row.lt {w : World} {g : Nat} {T : TypeId} {xs : List Value} (h : Row w g T xs) : g < w.heap.size := lt_of_heap h
theorem Row.setRow {w : World} {g : Nat} {T : TypeId} {xs : List Value} (h : Row w g T xs) (cs : Array Value) : Row (w.setRow g cs) g T cs.toList := by
  unfold Row at *
  rw [setRow_heap w g _ cs T _ h]
theorem row_new (w : World) (T : TypeId) (C : Array Value) : Row (w.alloc (.cells C T)) w.heap.size T C.toList := by
  unfold Row
  show (w.heap.push _)[w.heap.size]? = _
  simp
end Go.Proofs.Ythilfealloakdaa

namespace Go.Proofs.Ythilfealloakdaa
open Go.RowKit
set_option linter.unusedVariables false
set_option maxRecDepth 100000

/-- A list of last numbers that was made: in block b, its map in block m. -/
structure LastAt (w : World) (b m n : Nat) (f : Int → Option Int) : Prop where
  cell : w.cell? ⟨b, 0, none⟩ = some (.map (some m))
  map : MU w m n f
theorem LastAt.keep {F : Nat → Prop} {w w' : World} {b m n : Nat} {f : Int → Option Int} (h : LastAt w b m n f) (t : Touch F w w') (hb : ¬ F b) (hm : ¬ F m) : LastAt w' b m n f :=
  ⟨(t.cell (p := ⟨b, 0, none⟩) (lt_of_cell h.cell) hb).trans h.cell, h.map.keep t hm⟩
theorem LastAt.ne {w : World} {b m n : Nat} {f : Int → Option Int} (h : LastAt w b m n f) : b ≠ m := by
  rintro rfl
  obtain ⟨es, c, hb⟩ := h.map.mapAt
  have := h.cell
  simp [World.cell?, hb] at this
set_option maxHeartbeats 400000 in
theorem lmade_some (w : World) (b m : Nat) (h : w.cell? ⟨b, 0, none⟩ = some (.map (some m))) : Calls Try.prog 33 #[.pointer (some ⟨b, 0, none⟩)] w fun e w' => e = .returned (.bool true) ∧ w = w' := by
  have heq : ∀ w', Sem.run Try.prog (binOp .neq 66 (.map (some m)) (.map none)) w' = .ok (.bool true) w' := fun _ => rfl
  go_enter Try.func33, Try.ntmps33
  go_wp2
  go_ret
  exact ⟨rfl, rfl⟩
set_option maxHeartbeats 400000 in
theorem lnew_any (w : World) : Calls Try.prog 13 #[] w fun e w' => ∃ b m, e = .returned (.pointer (some ⟨b, 0, none⟩)) ∧ LastAt w' b m 0 (fun _ => none) ∧ Touch (fun _ => False) w w' ∧ w.heap.size ≤ b ∧ w.heap.size ≤ m ∧ b < w'.heap.size ∧ m < w'.heap.size := by
  have hmm := @run_makeMap Try.prog
  go_enter Try.func13, Try.ntmps13
  go_wp2
  go_ret
  exact ⟨_, _, rfl, ⟨by simp [go_sem], (MU.made w).keep ((Touch.refl (fun _ => False) _).alloc _) (fun h => h)⟩, ((Touch.refl _ w).alloc _).alloc _, by simp, Nat.le_refl _, by simp, by simp; omega⟩
set_option maxHeartbeats 400000 in
theorem lget_some (w : World) (b m n : Nat) (f : Int → Option Int) (r : Int) (h : LastAt w b m n f) (hr : 0 ≤ r ∧ r < 4294967296) : Calls Try.prog 18 #[.pointer (some ⟨b, 0, none⟩), .int .u32 r] w fun e w' => e = .returned (.tuple #[.int .u32 ((f r).getD 0), .bool (f r).isSome]) ∧ w = w' := by
  have hc := h.cell
  cases hf : f r with
  | some v =>
    have hk := h.map.look_some hr.1 hr.2 hf
    rw [Option.getD_some, Option.isSome_some]
    clear h hf hr
    go_enter Try.func18, Try.ntmps18
    go_wp2_with ((go_at_call 33; refine Calls.mono (lmade_some _ _ _ hc) ?_; rintro e w1 ⟨rfl, rfl⟩))
    go_ret2
    exact ⟨rfl, rfl⟩
  | none =>
    have hk := h.map.look_none hr.1 hr.2 hf
    rw [Option.getD_none, Option.isSome_none]
    clear h hf hr
    go_enter Try.func18, Try.ntmps18
    go_wp2_with ((go_at_call 33; refine Calls.mono (lmade_some _ _ _ hc) ?_; rintro e w1 ⟨rfl, rfl⟩))
    go_ret2
    exact ⟨rfl, rfl⟩
set_option maxHeartbeats 400000 in
theorem lforget_some (w : World) (b m n : Nat) (f : Int → Option Int) (r : Int) (h : LastAt w b m n f) (hr : 0 ≤ r ∧ r < 4294967296) : Calls Try.prog 14 #[.pointer (some ⟨b, 0, none⟩), .int .u32 r] w fun e w' => e = .returned (.tuple #[]) ∧ LastAt w' b m n (updU f r none) ∧ Touch (fun k => k = m) w w' := by
  have hc := h.cell
  have hne := h.ne
  obtain ⟨w1, hk, hM, tu⟩ := h.map.drop hr.1 hr.2 0
  clear h hr
  have T1 := touchU_turned tu
  have fin : LastAt w1 b m n (updU f r none) ∧ Touch (fun k => k = m) w w1 := ⟨⟨(T1.cell (p := ⟨b, 0, none⟩) (lt_of_cell hc) hne).trans hc, hM⟩, T1⟩
  clear hM tu T1
  go_enter Try.func14, Try.ntmps14
  go_wp2_with ((go_at_call 33; refine Calls.mono (lmade_some _ _ _ hc) ?_; rintro e w1 ⟨rfl, rfl⟩))
  refine bodyPost_end (results_none rfl _ _ _) rfl ?_
  exact ⟨rfl, fin⟩
set_option maxHeartbeats 400000 in
theorem ltake_some (w : World) (b m n : Nat) (f : Int → Option Int) (r s : Int) (h : LastAt w b m n f) (hr : 0 ≤ r ∧ r < 4294967296) (hs : 0 ≤ s ∧ s < 4294967296) (hn : n < 9223372036854775807) : Calls Try.prog 16 #[.pointer (some ⟨b, 0, none⟩), .int .u32 r, .int .u32 s] w fun e w' =>
    e = .returned (.int .i64 (if s < (f r).getD 0 then 27 else 0)) ∧ LastAt w' b m (n + 1) (if s < (f r).getD 0 then f else updU f r (some s)) ∧ Touch (fun k => k = m) w w' := by
  have hc := h.cell
  have hne := h.ne
  have hlk := h.map.look hr.1 hr.2
  have more : ∀ {w' : World} {k : Nat} {g : Int → Option Int}, MU w' m k g → k ≤ n + 1 → MU w' m (n + 1) g := fun hm hk => by
    obtain ⟨D, o, a, b⟩ := hm
    exact ⟨D, ownU_tight o (Nat.le_trans o.size_le hk), a, b⟩
  generalize (f r).getD 0 = L at *
  by_cases hL : s < L
  · rw [if_pos hL, if_pos hL]
    have fin : LastAt w b m (n + 1) f ∧ Touch (fun k => k = m) w w := ⟨⟨hc, more h.map (by omega)⟩, Touch.refl _ _⟩
    clear h
    go_enter Try.func16, Try.ntmps16
    go_wp2_with ((go_at_call 33; refine Calls.mono (lmade_some _ _ _ hc) ?_; rintro e w1 ⟨rfl, rfl⟩))
    go_ret
    exact ⟨rfl, fin⟩
  · rw [if_neg hL, if_neg hL]
    obtain ⟨w1, hk, hM, tu⟩ := h.map.store hr.1 hr.2 hs.1 hs.2 hn
    have T1 := touchU_turned tu
    have fin : LastAt w1 b m (n + 1) (updU f r (some s)) ∧ Touch (fun k => k = m) w w1 := ⟨⟨(T1.cell (p := ⟨b, 0, none⟩) (lt_of_cell hc) hne).trans hc, more hM (by split <;> omega)⟩, T1⟩
    clear h hM tu T1
    go_enter Try.func16, Try.ntmps16
    go_wp2_with ((go_at_call 33; refine Calls.mono (lmade_some _ _ _ hc) ?_; rintro e w1 ⟨rfl, rfl⟩))
    go_ret
    exact ⟨rfl, fin⟩
end Go.Proofs.Ythilfealloakdaa
