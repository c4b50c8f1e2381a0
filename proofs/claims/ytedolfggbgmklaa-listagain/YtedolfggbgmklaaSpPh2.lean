
/- A list whose bodies lie in memory: Confirm, Tick. -/
import Derived.Test.YtedolfggbgmklaaSpPh
namespace Go.Proofs.Ytedolfggbgmklaa
open Go.RowKit
set_option linter.unusedVariables false
set_option maxRecDepth 100000

theorem LB_sub {L m e : Nat} {l l' : List It} (h : ∀ i ∈ l', i ∈ l) {k : Nat} (hk : LB L m e l' k) : LB L m e l k := by
  rcases hk with q | q | q | ⟨i, hi, q⟩
  · exact Or.inl q
  · exact Or.inr (Or.inl q)
  · exact Or.inr (Or.inr (Or.inl q))
  · exact Or.inr (Or.inr (Or.inr ⟨i, h i hi, q⟩))
theorem pconf {w wr : World} {L m e : Nat} {rx wt : Int} {its : List It} (h : PhS w wr L m e rx wt its) (hr : rx ≠ 0) {x : HV} (hx : x.Al) :
    Calls Try.prog 24 #[.pointer (some ⟨L, 0, none⟩), .agg #[.int .u16 x.age, .int .u8 x.opts, .int .u8 x.typ, .int .u32 x.id, .int .u32 x.adv, .int .i32 x.seq, .int .u16 x.sum, .int .u16 x.len]] wr fun e' w' => e' = .returned (.bool (its.any (fun i => i.h.sk x && (i.h.new15 x == 0)))) ∧ PhS w w' L m e rx wt (its.filter (fun i => !(i.h.sk x && (i.h.new15 x == 0)))) := by
  refine (lconf_any wr L m e rx wt its h.ls hr x hx).mono ?_
  rintro e1 w' ⟨rfl, hs, t⟩
  have sub : ∀ i ∈ its.filter (fun i => !(i.h.sk x && (i.h.new15 x == 0))), i ∈ its := fun i hi => (List.mem_filter.1 hi).1
  refine ⟨rfl, hs, fun i hi => ?_, fun k hk => h.ge k (LB_sub sub hk), h.t.trans' t (fun k hk q => by have := h.ge k q; omega)⟩
  obtain ⟨rs, h1, h2, h3⟩ := h.bd i (sub i hi)
  exact ⟨rs, h1, h2.touch t (fun k hk => (h3 k hk).2), fun k hk => ⟨Nat.lt_of_lt_of_le (h3 k hk).1 t.size, fun q => (h3 k hk).2 (LB_sub sub q)⟩⟩
theorem PhS.turned {w wr w' : World} {L m e : Nat} {rx wt wt' : Int} {its : List It} (h : PhS w wr L m e rx wt its) (hs : LSt w' L m e rx wt' its) (t : Touch (fun k => k = L) wr w') : PhS w w' L m e rx wt' its :=
  ⟨hs, (fun i hi => by
    obtain ⟨rs, h1, h2, h3⟩ := h.bd i hi
    exact ⟨rs, h1, h2.touch t (fun k hk q => (h3 k hk).2 (Or.inl q)), fun k hk => ⟨Nat.lt_of_lt_of_le (h3 k hk).1 t.size, (h3 k hk).2⟩⟩), h.ge, h.t.trans' t (fun k hk q => by have := h.ge k (Or.inl q); omega)⟩
theorem sum_le : ∀ (l : List It), (∀ i ∈ l, lenV i.v ≤ 60) → (l.map (fun i => 20 + lenV i.v)).sum ≤ 80 * (l.length : Int)
  | [], _ => by simp
  | i :: l, h => by
    have h1 := h i (by simp)
    have h2 := sum_le l (fun j hj => h j (by simp [hj]))
    simp only [List.map_cons, List.sum_cons, List.length_cons]
    omega
theorem left_ok {its : List It} (hl : its.length ≤ 12) (h : ∀ i ∈ its, lenV i.v ≤ 60) (k : Nat) : 0 ≤ leftI its k := by
  unfold leftI
  have h1 := sum_le (its.take k) (fun i hi => h i (List.mem_of_mem_take hi))
  have h2 : (its.take k).length ≤ 12 := by rw [List.length_take]; omega
  omega
theorem ptick_send {w wr : World} {L m e : Nat} {rx wt : Int} {its : List It} (h : PhS w wr L m e rx wt its) (hr : rx ≠ 0) (hl : its ≠ []) (h0 : 0 ≤ wt) (h1 : ¬ (wt + 1 < rx)) (h2 : wt + 1 < 65536) (hn : its.length ≤ 12) :
    Calls Try.prog 25 #[.pointer (some ⟨L, 0, none⟩)] wr fun e' w' => ∃ v ps, e' = .returned v ∧ w'.ownsRow wr.heap.size 53 9 v its.length (cellsP ps) ∧ ps.map Prod.fst = its.map (fun i => i.h) ∧ PhS w w' L m e rx 0 its := by
  have hlen : ∀ i ∈ its, lenV i.v ≤ 60 := fun i hi => by
    obtain ⟨rs, g1, g2, g3⟩ := h.bd i hi
    obtain ⟨a, c, e1, _⟩ := rowAt_form g2
    rw [e1]
    show ((rs.length : Nat) : Int) ≤ 60
    omega
  refine (ltick_send wr L m e rx wt its h.ls hr hl h0 h1 h2 (fun k _ => left_ok hn hlen k) (by omega) (fun i hi => ?_)).mono ?_
  · obtain ⟨rs, g1, g2, g3⟩ := h.bd i hi
    obtain ⟨a, c, e1, _⟩ := rowAt_form g2
    refine ⟨⟨a, _, c, e1⟩, fun w' t => ?_⟩
    have hrow : RowAt w' i.v rs := g2.touch t (fun k hk q => by
      rcases q with q | q
      · exact (g3 k hk).2 (Or.inl q)
      · have := (g3 k hk).1
        omega)
    exact (sclone_any i.v rs w' hrow.arg (by omega)).mono fun e2 w2 ⟨xa, xc, a1, B⟩ => ⟨xa, _, xc, a1, B.t⟩
  · rintro e1 w' ⟨v, ps, rfl, a1, a2, a3, a4⟩
    exact ⟨v, ps, rfl, a1, a2, h.turned a3 a4⟩
theorem ptick_wait {w wr : World} {L m e : Nat} {rx wt : Int} {its : List It} (h : PhS w wr L m e rx wt its) (hr : rx ≠ 0) (hl : its ≠ []) (h0 : 0 ≤ wt) (h1 : wt + 1 < rx) (h2 : rx < 65536) :
    Calls Try.prog 25 #[.pointer (some ⟨L, 0, none⟩)] wr fun e' w' => e' = .returned (.slice none 0 0) ∧ PhS w w' L m e rx (wt + 1) its :=
  (ltick_wait wr L m e rx wt its h.ls hr hl h0 h1 h2).mono fun e1 w' ⟨a1, a2, a3⟩ => ⟨a1, h.turned a2 a3⟩
theorem ptick_empty {w wr : World} {L m e : Nat} {rx wt : Int} (h : PhS w wr L m e rx wt []) (hr : rx ≠ 0) :
    Calls Try.prog 25 #[.pointer (some ⟨L, 0, none⟩)] wr fun e' w' => e' = .returned (.slice none 0 0) ∧ PhS w w' L m e rx wt [] :=
  (ltick_empty wr L m e rx wt [] h.ls hr rfl).mono fun e1 w' ⟨a1, a2⟩ => ⟨a1, a2 ▸ h⟩
/-- Tick, every way: what comes has the heads of those that are left, or it is nothing. -/
theorem ptick_any {w wr : World} {L m e : Nat} {rx wt : Int} {its : List It} (h : PhS w wr L m e rx wt its) (hr : 0 < rx) (hr2 : rx < 65536) (h0 : 0 ≤ wt) (h1 : wt < rx) (hn : its.length ≤ 12) :
    Calls Try.prog 25 #[.pointer (some ⟨L, 0, none⟩)] wr fun e' w' => ∃ v n ps wt', e' = .returned v ∧ w'.ownsRow wr.heap.size 53 9 v n (cellsP ps) ∧ ps.length = n ∧ (∀ p ∈ ps, ∃ i ∈ its, i.h = p.1) ∧ PhS w w' L m e rx wt' its ∧ (its = [] → wt' = wt ∧ n = 0) ∧ (its ≠ [] → (wt + 1 < rx → wt' = wt + 1 ∧ n = 0) ∧ (¬ (wt + 1 < rx) → wt' = 0 ∧ n = its.length)) := by
  by_cases hl : its = []
  · subst hl
    refine (ptick_empty h (by omega)).mono ?_
    rintro e1 w' ⟨rfl, hs⟩
    exact ⟨_, 0, [], wt, rfl, World.ownsRow_nil _ _ _ _, rfl, by simp, hs, fun _ => ⟨rfl, rfl⟩, fun q => absurd rfl q⟩
  · by_cases hw : wt + 1 < rx
    · refine (ptick_wait h (by omega) hl h0 hw hr2).mono ?_
      rintro e1 w' ⟨rfl, hs⟩
      exact ⟨_, 0, [], wt + 1, rfl, World.ownsRow_nil _ _ _ _, rfl, by simp, hs, fun q => absurd q hl, fun _ => ⟨fun _ => ⟨rfl, rfl⟩, fun q => absurd hw q⟩⟩
    · refine (ptick_send h (by omega) hl h0 hw (by omega) hn).mono ?_
      rintro e1 w' ⟨v, ps, rfl, a1, a2, hs⟩
      have hlp : ps.length = its.length := by have := congrArg List.length a2; simpa using this
      refine ⟨v, its.length, ps, 0, rfl, a1, hlp, fun p hp => ?_, hs, fun q => absurd q hl, fun _ => ⟨fun q => absurd q hw, fun _ => ⟨rfl, rfl⟩⟩⟩
      have : p.1 ∈ its.map (fun i => i.h) := by rw [← a2]; exact List.mem_map.2 ⟨p, hp, rfl⟩
      obtain ⟨i, hi, e2⟩ := List.mem_map.1 this
      exact ⟨i, hi, e2⟩
end Go.Proofs.Ytedolfggbgmklaa
