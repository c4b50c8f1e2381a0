
/- A step is laid behind the rows of a line. -/
import Derived.Test.YtdfacfpjhnohcaaTrDown
import Derived.Maps.AppendAt
import Derived.Deep.RegionLaw
namespace Go.Proofs.Ytdfacfpjhnohcaa
open Go.RowKit
set_option linter.unusedVariables false
set_option maxRecDepth 100000

theorem infoSt : (Try.prog.info? 68).map (fun i => (i.zero, i.size, i.bytes)) = some (some (.agg #[.int .i64 0, .int .u32 0, .int .u32 0, .int .u32 0, .bool false]), 5, 24) := by kernel_rfl
theorem infoParts {x : Option TypeInfo} {z : Value} {k b : Nat} (h : x.map (fun i => (i.zero, i.size, i.bytes)) = some (some z, k, b)) : ∃ i, x = some i ∧ i.zero = some z ∧ i.size = k ∧ i.bytes = b := by
  cases x with
  | none => cases h
  | some i => simp at h; exact ⟨i, rfl, h.1, h.2.1, h.2.2⟩

/-- An append whose run is known, as a step of a region that draws its order. -/
theorem step_run_append {P : Program} {w : World} {ops : Array Oper} {o : Oper} {a : Act} {K : Act → World → Prop} {Q : Exit → Act → World → Prop} {E : Prop} (hgd : o.guard = none) (s x : Operand) (t : TypeId)
    (ho : o.op = .call { callee := .builtin .append, args := #[s, x], argTypes := #[t, t] }) (v y v' : Value) (w' : World) (hs : a.eval s = v) (hx : a.eval x = y)
    (hr : (Builtin.append_ #[t, t] o.type #[v, y]).run P w = .ok v' w') (h : K (a.put o.dst v') w') : if Region.wanted o (yielded ops a.tmps) = true then Oper.wp P o a w K Q else E := by
  have hw : Region.wanted o (yielded ops a.tmps) = true := by simp [Region.wanted, hgd]
  rw [if_pos hw]
  unfold Oper.wp execOp
  simp only [ho, resolve, invoke, builtin, Sem.run_bind, Sem.run_pure, Result.andThen_ok, List.map_toArray, List.map_cons, List.map_nil, hs, hx, hr]
  exact h
theorem assert_step (x : Sp) (w : World) : (Instr.typeAssert (.iface 68 (.agg #[.int .i64 x.node, .int .u32 x.cost, .int .u32 x.h.out, .int .u32 x.h.via, .bool x.h.vr])) 20 68 true).run Try.prog w = .ok (.tuple #[.agg #[.int .i64 x.node, .int .u32 x.cost, .int .u32 x.h.out, .int .u32 x.h.via, .bool x.h.vr], .bool true]) w := by rfl

theorem own_shape {w : World} {base e k n : Nat} {v : Value} {xs : List Value} (h : w.ownsRow base e k v n xs) : ∃ a c, v = .slice a n c := by
  obtain ⟨h1, ⟨h2, h3⟩ | ⟨g, cap, cur, hv, _⟩⟩ := h
  · exact ⟨none, 0, by rw [h2, h3]⟩
  · exact ⟨_, _, hv⟩

/-- Of block b nothing but its first cell has turned, and nothing of other old blocks but F. -/
structure TouchB (b : Nat) (F : Nat → Prop) (w w' : World) : Prop where
  t : Touch (fun k => k = b ∨ F k) w w'
  rest : ∀ o, o ≠ 0 → w'.cell? ⟨b, o, none⟩ = w.cell? ⟨b, o, none⟩
theorem TouchB.of {b : Nat} {F : Nat → Prop} {w w' : World} (h : Touch F w w') (hb : b < w.heap.size) (hn : ¬ F b) : TouchB b F w w' := ⟨h.mono (fun _ _ e => Or.inr e), fun o _ => h.cell (p := ⟨b, o, none⟩) hb hn⟩
theorem TouchB.trans {b : Nat} {F G : Nat → Prop} {w w' w'' : World} (h : TouchB b F w w') (k : TouchB b G w' w'') (hG : ∀ i, i < w.heap.size → G i → F i) : TouchB b F w w'' :=
  ⟨h.t.trans' k.t (fun i hi e => e.elim Or.inl (fun e => Or.inr (hG i hi e))), fun o ho => (k.rest o ho).trans (h.rest o ho)⟩

/-- The rows behind a push. -/
structure PushP (w : World) (b : Nat) (v : Value) (B : Nat) (l : List Sp) (x : Sp) (e : Ending) (w' : World) : Prop where
  e : e = .returned (.tuple #[])
  out : ∃ v', LS w' b v' B (l ++ [x]) ∧ (v'.ownBlock = v.ownBlock ∨ ∃ g, v'.ownBlock = some g ∧ w.heap.size ≤ g)
  t : TouchB b (fun k => v.ownBlock = some k) w w'

set_option maxHeartbeats 2000000 in
theorem lpush_any (w : World) (b : Nat) (v : Value) (B : Nat) (l : List Sp) (P : LS w b v B l) (x : Sp) (hB : B ≤ w.heap.size) (hl : l.length + 1 ≤ 1099511627776) :
    Calls Try.prog 75 #[.pointer (some ⟨b, 0, none⟩), .iface 68 (.agg #[.int .i64 x.node, .int .u32 x.cost, .int .u32 x.h.out, .int .u32 x.h.via, .bool x.h.vr])] w (PushP w b v B l x) := by
  obtain ⟨c0, f0, re, bv, hl2⟩ := P
  have hb := lt_of_cell c0
  obtain ⟨va, vc, rfl⟩ := re.shape
  have hta := assert_step x
  obtain ⟨i0, hi0, hz0, hz1, hz2⟩ := infoParts infoSt
  go_enter Try.func75, Try.ntmps75
  go_wp2_with fail
  have T : Touch (fun _ => False) w (w.alloc (.cells #[.int .i64 x.node, .int .u32 x.cost, .int .u32 x.h.out, .int .u32 x.h.via, .bool x.h.vr] 68)) := (Touch.refl _ _).alloc _
  have R0 : Row (w.alloc (.cells #[.int .i64 x.node, .int .u32 x.cost, .int .u32 x.h.out, .int .u32 x.h.via, .bool x.h.vr] 68)) w.heap.size 68 x.cs := row_new w _ _
  generalize w.alloc (.cells #[.int .i64 x.node, .int .u32 x.cost, .int .u32 x.h.out, .int .u32 x.h.via, .bool x.h.vr] 68) = wa at T R0 ⊢
  have hbw : b < wa.heap.size := Nat.lt_of_lt_of_le hb T.size
  have d0 := T.cellN c0
  have g0 := (T.frozen (p := ⟨b, 0, none⟩) hb (fun h => h)).trans f0
  have y0 : wa.cell? ⟨w.heap.size, 0, none⟩ = some (.int .i64 x.node) := R0.cell 0
  have y1 : wa.cell? ⟨w.heap.size, 1, none⟩ = some (.int .u32 x.cost) := R0.cell 1
  have y2 : wa.cell? ⟨w.heap.size, 2, none⟩ = some (.int .u32 x.h.out) := R0.cell 2
  have y3 : wa.cell? ⟨w.heap.size, 3, none⟩ = some (.int .u32 x.h.via) := R0.cell 3
  have y4 : wa.cell? ⟨w.heap.size, 4, none⟩ = some (.bool x.h.vr) := R0.cell 4
  have T1 : Touch (fun _ => False) wa (wa.alloc (.cells #[.int .i64 x.node, .int .u32 x.cost, .int .u32 x.h.out, .int .u32 x.h.via, .bool x.h.vr] 68)).drew := ((Touch.refl _ _).alloc _).drew
  have RW : RS B (wa.alloc (.cells #[.int .i64 x.node, .int .u32 x.cost, .int .u32 x.h.out, .int .u32 x.h.via, .bool x.h.vr] 68)).drew (.slice va l.length vc) l := (re.keepN T).keepN T1
  obtain ⟨v', w2, hrun, own2, grown2, -, hat⟩ := run_append_own_at (P := Try.prog) ((wa.alloc (.cells #[.int .i64 x.node, .int .u32 x.cost, .int .u32 x.h.out, .int .u32 x.h.via, .bool x.h.vr] 68)).drew) B 61 61 68 i0 _ 5 24 Try.underlying61 hi0 hz0 hz1 hz2 rfl (by omega)
    (.slice va l.length vc) l.length (cellsG Sp.cs l) RW ⟨wa.heap.size, 0, none⟩ 1 1 x.cs rfl (fun j u hj => by
      rcases (by have := (List.getElem?_eq_some_iff.1 hj).1; simp [Sp.cs] at this; omega : j = 0 ∨ j = 1 ∨ j = 2 ∨ j = 3 ∨ j = 4) with rfl | rfl | rfl | rfl | rfl <;> (simp [Sp.cs] at hj; subst hj; simp [Addr.add, go_sem])) (fun u hu => by simp [Sp.cs] at hu; rcases hu with rfl | rfl | rfl | rfl | rfl <;> rfl) (by unfold maxLen; omega) (by omega) (Nat.le_trans hB (Nat.le_trans T.size T1.size))
  obtain ⟨ua, uc, rfl⟩ := own_shape own2
  have t2 : Touch (fun k => Value.ownBlock (.slice va l.length vc) = some k) ((wa.alloc (.cells #[.int .i64 x.node, .int .u32 x.cost, .int .u32 x.h.out, .int .u32 x.h.via, .bool x.h.vr] 68)).drew) w2 := Touch.grown (Touch.refl _ _) grown2 (fun k hk => Or.inl hk)
  have hbW : b < ((wa.alloc (.cells #[.int .i64 x.node, .int .u32 x.cost, .int .u32 x.h.out, .int .u32 x.h.via, .bool x.h.vr] 68)).drew).heap.size := Nat.lt_of_lt_of_le hbw T1.size
  have e0 := (t2.cell (p := ⟨b, 0, none⟩) hbW bv).trans (T1.cellN d0)
  have e1 := (t2.frozen (p := ⟨b, 0, none⟩) hbW bv).trans ((T1.frozen (p := ⟨b, 0, none⟩) hbw (fun h => h)).trans g0)
  have hb2 : b < w2.heap.size := lt_of_cell e0
  have hlen1 : (l ++ [x]).length = l.length + 1 := by simp
  have hcel : cellsG Sp.cs (l ++ [x]) = cellsG Sp.cs l ++ x.cs := by rw [cellsG_append]; simp [cellsG]
  have hvb : Value.ownBlock (.slice ua (l.length + 1) uc) ≠ some b := by
    rcases hat with e | e
    · rw [e]; exact bv
    · rw [e]; intro e'; injection e' with e'; omega
  have TT : Touch (fun k => Value.ownBlock (.slice va l.length vc) = some k) w w2 := ((T.trans T1).mono (fun _ _ h => h.elim)).trans' t2 (fun _ _ h => h)
  have ts : Touch (fun k => k = b) w2 (w2.setCell ⟨b, 0, none⟩ (.slice ua (l.length + 1) uc)) := Touch.setCell (F := fun k => k = b) (p := ⟨b, 0, none⟩) (Touch.refl _ _) (Or.inl rfl) _
  have FIN : Hid (PushP w b (.slice va l.length vc) B l x (.returned (.tuple #[])) (w2.setCell ⟨b, 0, none⟩ (.slice ua (l.length + 1) uc))) := by
    refine ⟨rfl, ⟨.slice ua (l.length + 1) uc, ⟨?_, ?_, ?_, hvb, by omega⟩, ?_⟩, ⟨?_, ?_⟩⟩
    · simp [go_sem, e0]
    · simpa [go_sem] using e1
    · unfold RS RG
      rw [hlen1, hcel]
      exact own_touch own2 ts (fun k hk e => hvb (by rw [hk, e]))
    · rcases hat with e | e
      · exact Or.inl e
      · exact Or.inr ⟨_, e, by have := T1.size; have := T.size; omega⟩
    · exact (TT.mono (fun _ _ h => Or.inr h)).trans (ts.mono (fun _ _ e => Or.inl e))
    · intro o ho
      have h1 : (w2.setCell ⟨b, 0, none⟩ (.slice ua (l.length + 1) uc)).cell? ⟨b, o, none⟩ = w2.cell? ⟨b, o, none⟩ := by simp [go_sem]
      rw [h1]
      exact TT.cell (p := ⟨b, o, none⟩) hb bv
  clear TT ts t2 hcel hlen1 own2 grown2 hat RW re T1 T hi0 hz0 hz1 hz2 R0 hta hvb
  go_region_law (refine step_run_append rfl (.tmp 15) (.tmp 17) 61 rfl _ _ _ _ (by rfl) (by rfl) hrun ?_)
  all_goals go_wp2_with fail
  all_goals exact bodyPost_end (results_none rfl _ _ _) rfl FIN.out
end Go.Proofs.Ytdfacfpjhnohcaa
