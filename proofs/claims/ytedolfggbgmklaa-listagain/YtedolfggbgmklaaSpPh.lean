
/- A list whose bodies lie in memory: Add, Confirm, Tick. -/
import Derived.Test.YtedolfggbgmklaaSpTick
import Derived.Test.YtedolfggbgmklaaSpCopy
namespace Go.Proofs.Ytedolfggbgmklaa
open Go.RowKit
set_option linter.unusedVariables false
set_option maxRecDepth 100000

/-- A list made since w, and its bodies. -/
structure PhS (w wr : World) (L m e : Nat) (rx wt : Int) (its : List It) : Prop where
  ls : LSt wr L m e rx wt its
  bd : ∀ i ∈ its, ∃ rs : List Int, rs.length ≤ 60 ∧ RowAt wr i.v rs ∧ ∀ k, i.v.ownBlock = some k → k < wr.heap.size ∧ ¬ LB L m e its k
  ge : ∀ k, LB L m e its k → w.heap.size ≤ k
  t : Touch (fun _ => False) w wr
theorem row_blk {w : World} {v : Value} {rs : List Int} (h : RowAt w v rs) (hp : 0 < rs.length) {k : Nat} (hk : v.ownBlock = some k) : k < w.heap.size := by
  rcases h with ⟨rfl, rfl⟩ | ⟨g, off, c, rfl, h1, h2, h3⟩
  · simp at hp
  · have hc := h3 0 ((bytesOf rs)[0]'(by rw [length_bytesOf]; exact hp)) (by rw [List.getElem?_eq_getElem])
    have e : g = k := by simpa [Value.ownBlock] using hk
    subst e
    exact lt_of_cell hc
theorem PhS.keep {w wr w' : World} {L m e : Nat} {rx wt : Int} {its : List It} (h : PhS w wr L m e rx wt its) (t : Touch (fun _ => False) wr w') : PhS w w' L m e rx wt its :=
  ⟨h.ls.keepN t, fun i hi => by
    obtain ⟨rs, h1, h2, h3⟩ := h.bd i hi
    exact ⟨rs, h1, h2.touch t (fun _ _ f => f), fun k hk => ⟨Nat.lt_of_lt_of_le (h3 k hk).1 t.size, (h3 k hk).2⟩⟩, h.ge, h.t.trans t⟩
theorem phs_new {w w' : World} {L m e : Nat} {rx wt : Int} (h : LSt w' L m e rx wt []) (h1 : w.heap.size ≤ L) (h2 : w.heap.size ≤ m) (h3 : w.heap.size ≤ e) (t : Touch (fun _ => False) w w') : PhS w w' L m e rx wt [] :=
  ⟨h, (fun i hi => by cases hi), (fun k hk => by
    rcases hk with rfl | rfl | rfl | ⟨i, hi, _⟩
    · exact h1
    · exact h2
    · exact h3
    · cases hi), t⟩
theorem padd {w wr : World} {L m e : Nat} {rx : Int} {its : List It} (h : PhS w wr L m e rx 0 its) (hr : rx ≠ 0) {x : HV} (hx : x.Al) (hn : ∀ i ∈ its, i.h.ky ≠ x.ky) {v : Value} {rs : List Int} (hv : ArgAt wr v rs) (hrs : rs.length ≤ 60) (hva : ∀ w', Touch (LB L m e its) wr w' → ArgAt w' v rs) :
    Calls Try.prog 22 #[.pointer (some ⟨L, 0, none⟩), .agg #[.int .u16 x.age, .int .u8 x.opts, .int .u8 x.typ, .int .u32 x.id, .int .u32 x.adv, .int .i32 x.seq, .int .u16 x.sum, .int .u16 x.len, v]] wr fun e' w' => e' = .returned (.tuple #[]) ∧ ∃ u b, PhS w w' L m e rx 0 (its ++ [⟨x, u, b⟩]) ∧ Touch (LB L m e its) wr w' := by
  refine (ladd_by (fun u b w3 => RowAt w3 u rs ∧ ∀ k, u.ownBlock = some k → wr.heap.size ≤ k ∧ k < b ∧ k < w3.heap.size) wr L m e rx 0 its h.ls hr x hx v (fun w' t => ?_)).mono ?_
  · refine (own_by (fun u w3 => ∀ w4, Touch (LB L m e its) w3 w4 → RowAt w4 u rs ∧ ∀ k, u.ownBlock = some k → wr.heap.size ≤ k ∧ k < w3.heap.size ∧ k < w4.heap.size) w' x v (fun w'' t'' => ?_)).mono ?_
    · refine (sclone_any v rs w'' (hva w'' (t.trans (t''.mono (fun _ _ f => f.elim)))) (by omega)).mono ?_
      rintro e1 w3 ⟨xa, xc, rfl, B⟩
      refine ⟨xa, rs.length, xc, rfl, fun w4 t4 w5 t5 => ?_, B.t⟩
      have hsz : ∀ k, (Value.slice xa rs.length xc).ownBlock = some k → w''.heap.size ≤ k ∧ k < w3.heap.size := fun k hk => B.own.lt k hk
      have s1 := t.size
      have s2 := t''.size
      refine ⟨(B.row.touch t4 (fun k hk q => by have := hsz k hk; omega)).touch t5 (fun k hk q => by have h4 := hsz k hk; have h5 := h.ls.lb_lt q; omega), fun k hk => ?_⟩
      have h4 := hsz k hk
      have s4 := t4.size
      have s5 := t5.size
      exact ⟨by omega, by omega, by omega⟩
    · rintro e1 w3 ⟨ua, un, uc, rfl, hP, t3⟩
      exact ⟨ua, un, uc, rfl, hP, t3⟩
  · rintro e1 w' ⟨rfl, u, b, wt2, hls, ⟨hrow, hblk⟩, hb, hwt, t⟩
    have hw0 : wt2 = 0 := by
      by_cases hl : its = []
      · exact hwt.1 hl
      · exact hwt.2 hl
    subst hw0
    rw [dropK_none hn] at hls
    refine ⟨rfl, u, b, ⟨hls, fun i hi => ?_, fun k hk => ?_, h.t.trans' t (fun k hk q => by have := h.ge k q; omega)⟩, t⟩
    · have lb : ∀ k, LB L m e (its ++ [⟨x, u, b⟩]) k → LB L m e its k ∨ k = b := by
        rintro k (q | q | q | ⟨j, hj, q⟩)
        · exact Or.inl (Or.inl q)
        · exact Or.inl (Or.inr (Or.inl q))
        · exact Or.inl (Or.inr (Or.inr (Or.inl q)))
        · rcases List.mem_append.1 hj with hj | hj
          · exact Or.inl (Or.inr (Or.inr (Or.inr ⟨j, hj, q⟩)))
          · simp only [List.mem_singleton] at hj
            subst hj
            exact Or.inr q
      rcases List.mem_append.1 hi with hi | hi
      · obtain ⟨rs', h1, h2, h3⟩ := h.bd i hi
        refine ⟨rs', h1, h2.touch t (fun k hk => (h3 k hk).2), fun k hk => ⟨Nat.lt_of_lt_of_le (h3 k hk).1 t.size, fun q => ?_⟩⟩
        have h4 := h3 k hk
        rcases lb k q with q | q
        · exact h4.2 q
        · omega
      · simp only [List.mem_singleton] at hi
        subst hi
        refine ⟨rs, hrs, hrow, fun k hk => ⟨(hblk k hk).2.2, fun q => ?_⟩⟩
        have h4 := hblk k hk
        rcases lb k q with q | q
        · have := h.ls.lb_lt q
          omega
        · omega
    · rcases hk with q | q | q | ⟨j, hj, q⟩
      · exact h.ge k (Or.inl q)
      · exact h.ge k (Or.inr (Or.inl q))
      · exact h.ge k (Or.inr (Or.inr (Or.inl q)))
      · rcases List.mem_append.1 hj with hj | hj
        · exact h.ge k (Or.inr (Or.inr (Or.inr ⟨j, hj, q⟩)))
        · simp only [List.mem_singleton] at hj
          subst hj
          have := h.t.size
          have q : k = b := q
          omega
end Go.Proofs.Ytedolfggbgmklaa
