
/- A region that draws its order inside a round: by hand, order by order. -/
import Derived.Test.YtedolfggbgmklaaParts
import Derived.OrdersIn
import Derived.OwnWalkIn
import Derived.RangeFuncCalls
namespace Go.Proofs.Ytedolfggbgmklaa
open Go.RowKit
set_option linter.unusedVariables false
set_option maxRecDepth 100000

def plainOp (o : Oper) : Bool := match o.op with
  | .defer _ => false
  | _ => true
theorem plainOp_ne {o : Oper} (h : plainOp o = true) : ∀ c, o.op ≠ .defer c := by
  intro c e
  unfold plainOp at h
  rw [e] at h
  cases h
section
variable {P : Program} {ops : Array Oper} {Q : Exit → Act → World → Prop} {y n : Nat} {a : Act} {w w' : World} {listed : Array Bool} {fuel : Nat}
theorem rd_start {id : Nat} (hm : P.follows .mixedOrders = true) (h : wpAnyIn (Fence.wide.inRound y) n P .any ops Q ops.size (Array.replicate ops.size false) a w.drew) : (Code.region id ops true).wpIn (Fence.wide.inRound y) n P Q a w := wpIn_region_any hm h
theorem rd_one {i : Nat} (hr : Region.ready .any ops listed = [i]) (h : wpOpIn (Fence.wide.inRound y) n P ops Q i (wpAnyIn (Fence.wide.inRound y) n P .any ops Q fuel (listed.setIfInBounds i true)) a w) : wpAnyIn (Fence.wide.inRound y) n P .any ops Q (fuel + 1) listed a w := by
  refine ⟨fun h0 => ?_, fun j hj => ?_⟩
  · rw [hr] at h0; cases h0
  · rw [hr] at hj
    simp only [List.mem_singleton] at hj
    subst hj
    exact h
theorem rd_two {i j : Nat} (hr : Region.ready .any ops listed = [i, j]) (h1 : wpOpIn (Fence.wide.inRound y) n P ops Q i (wpAnyIn (Fence.wide.inRound y) n P .any ops Q fuel (listed.setIfInBounds i true)) a w)
    (h2 : wpOpIn (Fence.wide.inRound y) n P ops Q j (wpAnyIn (Fence.wide.inRound y) n P .any ops Q fuel (listed.setIfInBounds j true)) a w) : wpAnyIn (Fence.wide.inRound y) n P .any ops Q (fuel + 1) listed a w := by
  refine ⟨fun h0 => ?_, fun k hk => ?_⟩
  · rw [hr] at h0; cases h0
  · rw [hr] at hk
    simp only [List.mem_cons, List.not_mem_nil, or_false] at hk
    rcases hk with rfl | rfl
    · exact h1
    · exact h2
theorem rd_done (hr : Region.ready .any ops listed = []) (h : Q .normal a w) : wpAnyIn (Fence.wide.inRound y) n P .any ops Q fuel listed a w := by
  cases fuel with
  | zero => exact ⟨hr, h⟩
  | succ f => exact ⟨fun _ => h, fun j hj => by rw [hr] at hj; cases hj⟩
theorem rd_op {i : Nat} {o : Oper} {K : Act → World → Prop} (hi : ops[i]? = some o) (hd : plainOp o = true) (hw : Region.wanted o (yielded ops a.tmps) = true) (h : o.uponIn (Fence.wide.inRound y) n P a K Q ((execOp a.eval o).run P w)) : wpOpIn (Fence.wide.inRound y) n P ops Q i K a w := by
  unfold wpOpIn
  simp only [hi, hw, if_true]
  refine ⟨fun _ _ => trivial, ?_⟩
  rw [Oper.semAt_plain (Fence.wide.inRound y) a.eval o (plainOp_ne hd)]
  exact h
theorem rd_val {i : Nat} {o : Oper} {K : Act → World → Prop} (v : Value) (hi : ops[i]? = some o) (hd : plainOp o = true) (hw : Region.wanted o (yielded ops a.tmps) = true) (hrun : (execOp a.eval o).run P w = .ok (.value v) w') (h : K (a.put o.dst v) w') : wpOpIn (Fence.wide.inRound y) n P ops Q i K a w :=
  rd_op hi hd hw (by rw [hrun]; exact h)
theorem rd_skip {i : Nat} {o : Oper} {K : Act → World → Prop} (hi : ops[i]? = some o) (hd : plainOp o = true) (hw : Region.wanted o (yielded ops a.tmps) = true) (hrun : (execOp a.eval o).run P w = .ok .skip w') (h : K (a.put o.dst undef) w') : wpOpIn (Fence.wide.inRound y) n P ops Q i K a w :=
  rd_op hi hd hw (by rw [hrun]; exact h)
theorem rd_call {i : Nat} {o : Oper} {K : Act → World → Prop} {f : FuncId} {args : Array Value} (hi : ops[i]? = some o) (hd : plainOp o = true) (hw : Region.wanted o (yielded ops a.tmps) = true) (hrun : (execOp a.eval o).run P w = .ok (.enter f args) w)
    (h : Calls P f args w fun e w' => ∃ v, e = .returned v ∧ K (a.put o.dst v) w') : wpOpIn (Fence.wide.inRound y) n P ops Q i K a w :=
  rd_op hi hd hw (by
    rw [hrun]
    refine ⟨fun e => by simp [Fence.wide, Fence.inRound] at e, CallsIn.inRound y (callsIn_wide.2 (h.mono fun e w'' hh => ?_))⟩
    obtain ⟨v, rfl, hK⟩ := hh
    exact hK)
theorem rd_append {i : Nat} {o : Oper} {K : Act → World → Prop} (hi : ops[i]? = some o) (hd : plainOp o = true) (hw : Region.wanted o (yielded ops a.tmps) = true) (s x : Operand) (t : TypeId)
    (ho : o.op = .call { callee := .builtin .append, args := #[s, x], argTypes := #[t, t] }) (v u v' : Value) (hs : a.eval s = v) (hx : a.eval x = u) (hr : (Builtin.append_ #[t, t] o.type #[v, u]).run P w = .ok v' w') (h : K (a.put o.dst v') w') : wpOpIn (Fence.wide.inRound y) n P ops Q i K a w :=
  rd_op hi hd hw (by
    unfold execOp
    simp only [ho, resolve, invoke, builtin, Sem.run_bind, Sem.run_pure, Result.andThen_ok, List.map_toArray, List.map_cons, List.map_nil, hs, hx, hr]
    exact h)
end
end Go.Proofs.Ytedolfggbgmklaa
