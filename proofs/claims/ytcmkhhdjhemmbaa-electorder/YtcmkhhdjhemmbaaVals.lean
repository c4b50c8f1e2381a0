
/- Rows of values of any element type: that came in, and that grow by append. -/
import Derived.Test.YtcmkhhdjhemmbaaDigBuf
namespace Go.Proofs.Ytcmkhhdjhemmbaa
open Go.RowKit
set_option linter.unusedVariables false
set_option maxRecDepth 100000

/-- A slice of n elements of k cells each reads, cell by cell, as xs; of the address of one without cells nothing is known. -/
def ValsAt (w : World) (k : Nat) (v : Value) (n : Nat) (xs : List Value) : Prop :=
  xs.length = n * k ∧ ((v = .slice none 0 0 ∧ n = 0) ∨ ∃ ad c, v = .slice (some ad) n c ∧ n ≤ c ∧ c ≤ maxLen ∧ ∀ j u, xs[j]? = some u → w.cell? (ad.add j) = some u)
theorem ValsAt.form {w : World} {k : Nat} {v : Value} {n : Nat} {xs : List Value} (h : ValsAt w k v n xs) : ∃ a c, v = .slice a n c ∧ n ≤ maxLen := by
  rcases h.2 with ⟨rfl, rfl⟩ | ⟨ad, c, rfl, h1, h2, _⟩
  · exact ⟨_, _, rfl, Nat.zero_le _⟩
  · exact ⟨_, _, rfl, Nat.le_trans h1 h2⟩
theorem ValsAt.keep {w w' : World} {k : Nat} {v : Value} {n : Nat} {xs : List Value} (h : ValsAt w k v n xs) (t : Touch (fun _ => False) w w') : ValsAt w' k v n xs := by
  refine ⟨h.1, ?_⟩
  rcases h.2 with h | ⟨ad, c, rfl, h1, h2, h3⟩
  · exact Or.inl h
  · exact Or.inr ⟨ad, c, rfl, h1, h2, fun j u hj => t.cellN (h3 j u hj)⟩
/-- Where there is an element: its cells. -/
theorem ValsAt.cells {w : World} {k : Nat} {v : Value} {n : Nat} {xs : List Value} (h : ValsAt w k v n xs) (hn : 0 < n) (hk : 0 < k) :
    ∃ g off c, v = .slice (some ⟨g, off, none⟩) n c ∧ n ≤ c ∧ c ≤ maxLen ∧ ∀ j u, xs[j]? = some u → w.cell? ⟨g, off + j, none⟩ = some u := by
  obtain ⟨hl, h⟩ := h
  rcases h with ⟨_, rfl⟩ | ⟨ad, c, rfl, h1, h2, h3⟩
  · omega
  · have hp : 0 < xs.length := by rw [hl]; exact Nat.mul_pos hn hk
    obtain ⟨g, off, spot⟩ := ad
    have hc := h3 0 xs[0] (by simp [hp])
    have hspot : spot = none := by simpa [Addr.add] using World.cell?_spot hc
    subst hspot
    exact ⟨g, off, c, rfl, h1, h2, fun j u hj => by have := h3 j u hj; rwa [add_plain] at this⟩
theorem ArgAt.vals {w : World} {v : Value} {rs : List Int} (h : ArgAt w v rs) : ValsAt w 1 v rs.length (bytesOf rs) := by
  refine ⟨by simp [bytesOf], ?_⟩
  rcases h with ⟨rfl, rfl⟩ | h
  · exact Or.inl ⟨rfl, rfl⟩
  · exact Or.inr h

/-- v is a row of n elements (type e, k cells each) that was made since w0, and reads as xs; nothing of w0 has turned. -/
structure VBuf (e k : Nat) (w0 w : World) (v : Value) (n : Nat) (xs : List Value) : Prop where
  own : w.ownsRow w0.heap.size e k v n xs
  t : Touch (fun _ => False) w0 w
theorem VBuf.keep {e k : Nat} {w0 w w' : World} {v : Value} {n : Nat} {xs : List Value} (h : VBuf e k w0 w v n xs) (t : Touch (fun _ => False) w w') : VBuf e k w0 w' v n xs := ⟨own_touch h.own t (fun _ _ h => h), h.t.trans t⟩
theorem VBuf.back {e k : Nat} {w0 w w' : World} {v : Value} {n : Nat} {xs : List Value} (h : VBuf e k w w' v n xs) (t : Touch (fun _ => False) w0 w) : VBuf e k w0 w' v n xs := by
  refine ⟨⟨h.own.1, ?_⟩, t.trans h.t⟩
  rcases h.own.2 with h2 | ⟨g, cap, cur, hv, hb, hr⟩
  · exact Or.inl h2
  · exact Or.inr ⟨g, cap, cur, hv, Nat.le_trans t.size hb, hr⟩
theorem VBuf.nil (e k : Nat) {w0 w : World} (t : Touch (fun _ => False) w0 w) : VBuf e k w0 w (.slice none 0 0) 0 [] := ⟨World.ownsRow_nil _ _ _ _, t⟩
theorem VBuf.form {e k : Nat} {w0 w : World} {v : Value} {n : Nat} {xs : List Value} (h : VBuf e k w0 w v n xs) : ∃ a c, v = .slice a n c := by
  rcases h.own.2 with ⟨rfl, e⟩ | ⟨g, cap, cur, rfl, _⟩
  · exact ⟨none, 0, by rw [e]⟩
  · exact ⟨_, cap, rfl⟩
theorem VBuf.vals {e k : Nat} {w0 w : World} {v : Value} {n : Nat} {xs : List Value} (h : VBuf e k w0 w v n xs) : ValsAt w k v n xs := by
  refine ⟨h.own.1, ?_⟩
  rcases h.own.2 with h2 | ⟨g, cap, cur, hv, hb, hh, h1, h2, h3, h4⟩
  · exact Or.inl h2
  · refine Or.inr ⟨_, cap, hv, h1, h2, fun j u hj => ?_⟩
    have hjl := (List.getElem?_eq_some_iff.mp hj).1
    have hl := h.own.1
    rw [add_plain, Nat.zero_add]
    rw [← h4, List.getElem?_take, if_pos (by omega)] at hj
    simp [World.cell?, hh]
    simpa using hj
theorem VBuf.bytes {w0 w : World} {v : Value} {l : List Int} (h : VBuf 5 1 w0 w v l.length (bytesOf l)) : Buf w0 w v l := ⟨h.own, h.t⟩
theorem Buf.vbuf {w0 w : World} {v : Value} {l : List Int} (h : Buf w0 w v l) : VBuf 5 1 w0 w v l.length (bytesOf l) := ⟨h.own, h.t⟩

section
variable {ops : Array Oper} {rest : List Oper} {o : Oper} {a : Act} {Q : Exit → Act → World → Prop} {w : World}
/-- append(p, x...), of any element type. -/
theorem vapp_arg (hgd : o.guard = none) (s x : Operand) (t : TypeId) (ho : o.op = .call { callee := .builtin .append, args := #[s, x], argTypes := #[t, t] })
    (e k bytes : Nat) (z : Value) (ht : Try.prog.underlying t = some (.slice e)) (hi : (Try.prog.info? e).map (fun i => (i.zero, i.size, i.bytes)) = some (some z, k, bytes)) (hzs : z.cells.size = k) (hk : 0 < k) (hby : bytes ≤ 64)
    (w0 : World) (v : Value) (n : Nat) (xs : List Value) (hs : a.eval s = v) (hb : VBuf e k w0 w v n xs) (vx : Value) (m : Nat) (news : List Value) (hx : a.eval x = vx) (hr : ValsAt w k vx m news) (h1 : ∀ u ∈ news, u.oneCell' = true) (hl : n + m ≤ 1099511627776)
    (h : ∀ v' w', VBuf e k w0 w' v' (n + m) (xs ++ news) → wpList Try.prog ops Q rest (a.put o.dst v') w') : wpList Try.prog ops Q (o :: rest) a w := by
  obtain ⟨i0, hi, hz0, hz1, hz2⟩ := info_parts hi
  obtain ⟨hnl, hr⟩ := hr
  rcases hr with ⟨rfl, rfl⟩ | ⟨ad, c, rfl, h2, h3, h4⟩
  · have hn0 : news = [] := List.length_eq_zero_iff.1 (by omega)
    subst hn0
    refine wpList_append_own_none hgd s x t ho w0.heap.size e i0 k ht hi v n xs hs hb.own hx ?_
    exact h v w (by rw [List.append_nil]; exact hb)
  · have hmul : (n + m) * bytes ≤ 1099511627776 * 64 := Nat.mul_le_mul hl hby
    refine wpList_append_own_at w hgd s x t ho w0.heap.size e i0 z k bytes ht hi hz0 hz1 hz2 hzs hk v n xs hs hb.own ad m c news hx hnl h4 h1 (by unfold maxLen; omega) (by omega) hb.t.size ?_
    intro v' w' hown hg _ _
    exact h v' w' ⟨hown, hb.t.grown hg (fun k hk => Or.inr (hb.own.lt k hk).1)⟩
end
end Go.Proofs.Ytcmkhhdjhemmbaa
