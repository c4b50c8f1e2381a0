/- Arguments: a list of bytes that came in. -/
import Derived.Test.YtbfplepmgbkajaaGreatDoorKeep
import Derived.Deep.Slices
import Derived.SizedLaws
import Derived.OpenShut
import Derived.Laws.AppendOwnNone
namespace Go.Proofs.YtbfplepmgbkajaaGreatDoor
open Go.RowKit Go.ChangeShapes Go.WideShapes Go.ChangeAt
set_option linter.unusedVariables false
set_option maxRecDepth 100000

/-- A slice that came in reads as rs; of the address of one without cells nothing is known. -/
def ArgAt (w : World) (v : Value) (rs : List Int) : Prop :=
 (v = .slice none 0 0 ∧ rs = []) ∨ ∃ ad c, v = .slice (some ad) rs.length c ∧ rs.length ≤ c ∧ c ≤ maxLen ∧ ∀ j u, (bytesOf rs)[j]? = some u → w.cell? (ad.add j) = some u

theorem RowAt.arg {w : World} {v : Value} {rs : List Int} (h : RowAt w v rs) : ArgAt w v rs := by
 rcases h with h | ⟨g, off, c, rfl, h1, h2, h3⟩
 ·exact Or.inl h
 ·exact Or.inr ⟨_, c, rfl, h1, h2, fun j u hj => by rw [add_plain]; exact h3 j u hj⟩
theorem ArgAt.form {w : World} {v : Value} {rs : List Int} (h : ArgAt w v rs) : ∃ a c, v = .slice a rs.length c ∧ rs.length ≤ maxLen := by
 rcases h with ⟨rfl, rfl⟩ | ⟨ad, c, rfl, h1, h2, h3⟩
 ·exact ⟨_, _, rfl, Nat.zero_le _⟩
 ·exact ⟨_, _, rfl, Nat.le_trans h1 h2⟩
theorem ArgAt.row {w : World} {v : Value} {rs : List Int} (h : ArgAt w v rs) (hp : 0 < rs.length) : RowAt w v rs := by
 rcases h with ⟨rfl, rfl⟩ | ⟨ad, c, rfl, h1, h2, h3⟩
 ·exact Or.inl ⟨rfl, rfl⟩
 ·obtain ⟨g, off, spot⟩ := ad
  have hc := h3 0 (.int .u8 rs[0]) (by simp [bytesOf, hp])
  have hspot : spot = none := by simpa [Addr.add] using World.cell?_spot hc
  subst hspot
  exact Or.inr ⟨g, off, c, rfl, h1, h2, fun j u hj => by have := h3 j u hj; rwa [add_plain] at this⟩
theorem ArgAt.keep {F : Nat → Prop} {w w' : World} {v : Value} {rs : List Int} (h : ArgAt w v rs) (t : Touch F w w') (hF : ∀ k, k < w.heap.size → ¬ F k) : ArgAt w' v rs := by
 rcases h with h | ⟨ad, c, rfl, h1, h2, h3⟩
 ·exact Or.inl h
 ·refine Or.inr ⟨ad, c, rfl, h1, h2, fun j u hj => ?_⟩
  have hc := h3 j u hj
  exact (t.cell (lt_of_cellA hc) (hF _ (lt_of_cellA hc))).trans hc

section
variable {H : Type} {enc : TypeId × Value → H} {w : World} {base : Nat} {held : Bool}

theorem open_bytes {fuel : Nat} {a : Option Addr} {len cap : Nat} {x : DataW H × List MemPlace} (h : DataW.trod enc Tryz.prog w base (fun _ => true) held fuel 40 [.slice a len cap] = some x) :
  ∃ rs : List Int, rs.length = len ∧ ArgAt w (.slice a len cap) rs ∧ (∀ z ∈ rs, 0 ≤ z ∧ z < 256) ∧ (x.1 = .nil ∧ len = 0 ∨ ∃ el sp, x.1 = .slice el sp ∧ el.length = len) := by
 rcases open_ints Tryz.underlying40 Tryz.underlying5 (by kernel_rfl) h with ⟨hcs, hx⟩ | ⟨ad, l, c, zs, hcs, _, hl, hm, hz, hx, hcell, hwz⟩
 ·simp at hcs
  obtain ⟨rfl, rfl, rfl⟩ := hcs
  exact ⟨[], rfl, Or.inl ⟨rfl, rfl⟩, by simp, Or.inl ⟨by rw [hx], rfl⟩⟩
 ·simp at hcs
  obtain ⟨rfl, rfl, rfl⟩ := hcs
  have hz' : zs.length = cap := by simpa using hz
  have hlen : (zs.take len).length = len := by simp; omega
  refine ⟨zs.take len, hlen, Or.inr ⟨ad, cap, by rw [hlen], by omega, hm, fun j u hj => ?_⟩, fun z hzm => ?_, Or.inr ⟨_, _, by rw [hx], by simp [lits]; omega⟩⟩
  ·have hjl : j < len := by
    have := (List.getElem?_eq_some_iff.mp hj).1
    simp [bytesOf] at this
    omega
   have := hcell j (by omega)
   rw [this]
   simp only [bytesOf, List.getElem?_map, List.getElem?_take, if_pos hjl] at hj
   rw [List.getElem?_eq_getElem (by omega)] at hj
   rw [← hj]
   simp [List.getD, show j < zs.length by omega]
  ·have := bounds_u8 (hwz z (List.mem_of_mem_take hzm))
   omega
end
end Go.Proofs.YtbfplepmgbkajaaGreatDoor

namespace Go.Proofs.YtbfplepmgbkajaaGreatDoor
open Go.RowKit
set_option linter.unusedVariables false
set_option maxRecDepth 100000

theorem rowAt_cell {w : World} {g off c n : Nat} {rs : List Int} (h : RowAt w (.slice (some ⟨g, off, none⟩) n c) rs) (j : Nat) (hj : j < rs.length) : w.cell? ⟨g, off + j, none⟩ = some (.int .u8 (rs.getD j 0)) := by
 rcases h with ⟨h, _⟩ | ⟨g', off', c', h, _, _, h3⟩
 ·simp at h
 ·simp at h
  obtain ⟨⟨rfl, rfl⟩, _, _⟩ := h
  exact h3 j _ (by simp [bytesOf, List.getElem?_eq_getElem hj, List.getD])

/-- A row that is not empty has an address. -/
theorem rowAt_some {w : World} {a : Option Addr} {n c : Nat} {rs : List Int} (h : RowAt w (.slice a n c) rs) (hn : 0 < n) : ∃ g off, a = some ⟨g, off, none⟩ := by
 rcases h with ⟨h, _⟩ | ⟨g', off', c', h, _⟩
 ·simp at h; omega
 ·simp at h; exact ⟨g', off', h.1⟩

theorem eq_true (va vb : Value) (rs : List Int) (w : World) (ha : RowAt w va rs) (hb : ArgAt w vb rs) :
  Calls Tryz.prog 11 #[va, vb] w fun e w' => e = .returned (.bool true) ∧ ∃ n, w' = w.drewN n := by
 obtain ⟨aa, ca, rfl, hm⟩ := rowAt_form ha
 obtain ⟨ab, cb, rfl, _⟩ := hb.form
 unfold maxLen at hm
 go_enter Tryz.func11, Tryz.ntmps11
 go_wp2
 go_loopw [5] (fun i wr => ∃ k nd : Nat, k ≤ rs.length ∧ i = .int .i64 k ∧ wr = w.drewN nd) (fun i _ => rs.length - (intOf i).toNat)
 case atStart => exact ⟨0, 0, Nat.zero_le _, rfl, rfl⟩
 case round =>
  obtain ⟨k, nd, hk, rfl, rfl⟩ := hrel
  by_cases hlt : k < rs.length
  ·have hb := hb.row (by omega)
   obtain ⟨ga, oa, rfl⟩ := rowAt_some ha (by omega)
   obtain ⟨gb, ob, rfl⟩ := rowAt_some hb (by omega)
   have hca := rowAt_cell ha k hlt
   have hcb := rowAt_cell hb k hlt
   obtain ⟨z, hz⟩ : ∃ z, z = rs.getD k 0 := ⟨_, rfl⟩
   rw [← hz] at hca hcb
   clear hz ha hb
   go_wp2
   go_quiet (fail)
   go_wp2
   go_roundw
   case rel => exact ⟨k + 1, _, by omega, by go_num, rfl⟩
   case measure => simp [intOf]; omega
  ·go_wp2
   go_ret
   exact ⟨rfl, nd, rfl⟩

theorem Tryz.info5w : (Tryz.prog.info? 5).map (fun i => (i.zero, i.size, i.bytes)) = some (some (.int .u8 0), 1, 1) := by kernel_rfl
end Go.Proofs.YtbfplepmgbkajaaGreatDoor

namespace Go.Proofs.YtbfplepmgbkajaaGreatDoor
open Go.RowKit
set_option linter.unusedVariables false
set_option maxRecDepth 100000

/-- v is a row of bytes that was made since w0, and reads as l; nothing of w0 has turned. -/
structure Buf (w0 w : World) (v : Value) (l : List Int) : Prop where
 own : w.ownsRow w0.heap.size 5 1 v l.length (bytesOf l)
 t : Touch (fun _ => False) w0 w
theorem Buf.keep {w0 w w' : World} {v : Value} {l : List Int} (h : Buf w0 w v l) (t : Touch (fun _ => False) w w') : Buf w0 w' v l := ⟨own_touch h.own t (fun _ _ h => h), h.t.trans t⟩
theorem Buf.back {w0 w w' : World} {v : Value} {l : List Int} (h : Buf w w' v l) (t : Touch (fun _ => False) w0 w) : Buf w0 w' v l := by
 refine ⟨⟨h.own.1, ?_⟩, t.trans h.t⟩
 rcases h.own.2 with h2 | ⟨g, cap, cur, hv, hb, hr⟩
 ·exact Or.inl h2
 ·exact Or.inr ⟨g, cap, cur, hv, Nat.le_trans t.size hb, hr⟩
theorem Buf.nil {w0 w : World} (t : Touch (fun _ => False) w0 w) : Buf w0 w (.slice none 0 0) [] := ⟨World.ownsRow_nil _ _ _ _, t⟩
theorem Buf.form {w0 w : World} {v : Value} {l : List Int} (h : Buf w0 w v l) : ∃ a c, v = .slice a l.length c := by
 rcases h.own.2 with ⟨rfl, e⟩ | ⟨g, cap, cur, rfl, _⟩
 ·exact ⟨none, 0, by rw [e]⟩
 ·exact ⟨_, cap, rfl⟩
theorem Buf.arg {w0 w : World} {v : Value} {l : List Int} (h : Buf w0 w v l) : ArgAt w v l := (own_rowAt h.own).arg
theorem Buf.row {w0 w : World} {v : Value} {l : List Int} (h : Buf w0 w v l) : RowAt w v l := own_rowAt h.own
theorem Buf.appended {w0 w w' : World} {v v' : Value} {l r : List Int} (h : Buf w0 w v l) (hown : w'.ownsRow w0.heap.size 5 1 v' (l.length + r.length) (bytesOf l ++ bytesOf r)) (hg : w.grownBy w' v.ownBlock) : Buf w0 w' v' (l ++ r) := by
 refine ⟨?_, h.t.grown hg (fun k hk => Or.inr (h.own.lt k hk).1)⟩
 rw [List.length_append, bytesOf_append]
 exact hown

section
variable {ops : Array Oper} {rest : List Oper} {o : Oper} {a : Act} {Q : Exit → Act → World → Prop} {w : World}
/-- append(p, x...), x that came in or was made. -/
theorem app_arg (hgd : o.guard = none) (s x : Operand) (ho : o.op = .call { callee := .builtin .append, args := #[s, x], argTypes := #[40, 40] })
  (w0 : World) (v : Value) (l : List Int) (hs : a.eval s = v) (hb : Buf w0 w v l) (vx : Value) (r : List Int) (hx : a.eval x = vx) (hr : ArgAt w vx r) (hl : l.length + r.length ≤ 1099511627776)
  (h : ∀ v' w', Buf w0 w' v' (l ++ r) → wpList Tryz.prog ops Q rest (a.put o.dst v') w') : wpList Tryz.prog ops Q (o :: rest) a w := by
 obtain ⟨i0, hi, hz0, hz1, hz2⟩ := info_parts Tryz.info5w
 rcases hr with ⟨rfl, rfl⟩ | ⟨ad, c, rfl, h1, h2, h3⟩
 ·refine wpList_append_own_none hgd s x 40 ho w0.heap.size 5 i0 1 Tryz.underlying40 hi v l.length (bytesOf l) hs hb.own hx ?_
  exact h v w (by rw [List.append_nil]; exact hb)
 ·refine wpList_append_own_at w hgd s x 40 ho w0.heap.size 5 i0 (.int .u8 0) 1 1 Tryz.underlying40 hi hz0 hz1 hz2 rfl (by decide) v l.length (bytesOf l) hs hb.own ad r.length c (bytesOf r) hx (by simp [length_bytesOf]) h3 (oneCell_bytesOf r) (by unfold maxLen; omega) (by omega) hb.t.size ?_
  intro v' w' hown hg _ _
  exact h v' w' (hb.appended hown hg)
end
end Go.Proofs.YtbfplepmgbkajaaGreatDoor

namespace Go.Proofs.YtbfplepmgbkajaaGreatDoor
open Go.RowKit
set_option linter.unusedVariables false
set_option maxRecDepth 100000

/-- A slice of n elements of k cells each reads, cell by cell, as xs; of the address of one without cells nothing is known. -/
def ValsAt (w : World) (k : Nat) (v : Value) (n : Nat) (xs : List Value) : Prop :=
 xs.length = n * k ∧ ((v = .slice none 0 0 ∧ n = 0) ∨ ∃ ad c, v = .slice (some ad) n c ∧ n ≤ c ∧ c ≤ maxLen ∧ ∀ j u, xs[j]? = some u → w.cell? (ad.add j) = some u)
theorem ValsAt.form {w : World} {k : Nat} {v : Value} {n : Nat} {xs : List Value} (h : ValsAt w k v n xs) : ∃ a c, v = .slice a n c ∧ n ≤ maxLen := by
 rcases h.2 with ⟨rfl, rfl⟩ | ⟨ad, c, rfl, h1, h2, _⟩
 ·exact ⟨_, _, rfl, Nat.zero_le _⟩
 ·exact ⟨_, _, rfl, Nat.le_trans h1 h2⟩
theorem ValsAt.keep {w w' : World} {k : Nat} {v : Value} {n : Nat} {xs : List Value} (h : ValsAt w k v n xs) (t : Touch (fun _ => False) w w') : ValsAt w' k v n xs := by
 refine ⟨h.1, ?_⟩
 rcases h.2 with h | ⟨ad, c, rfl, h1, h2, h3⟩
 ·exact Or.inl h
 ·exact Or.inr ⟨ad, c, rfl, h1, h2, fun j u hj => t.cellN (h3 j u hj)⟩
/-- Where there is an element: its cells. -/
theorem ValsAt.cells {w : World} {k : Nat} {v : Value} {n : Nat} {xs : List Value} (h : ValsAt w k v n xs) (hn : 0 < n) (hk : 0 < k) :
  ∃ g off c, v = .slice (some ⟨g, off, none⟩) n c ∧ n ≤ c ∧ c ≤ maxLen ∧ ∀ j u, xs[j]? = some u → w.cell? ⟨g, off + j, none⟩ = some u := by
 obtain ⟨hl, h⟩ := h
 rcases h with ⟨_, rfl⟩ | ⟨ad, c, rfl, h1, h2, h3⟩
 ·omega
 ·have hp : 0 < xs.length := by rw [hl]; exact Nat.mul_pos hn hk
  obtain ⟨g, off, spot⟩ := ad
  have hc := h3 0 xs[0] (by simp [hp])
  have hspot : spot = none := by simpa [Addr.add] using World.cell?_spot hc
  subst hspot
  exact ⟨g, off, c, rfl, h1, h2, fun j u hj => by have := h3 j u hj; rwa [add_plain] at this⟩
theorem ArgAt.vals {w : World} {v : Value} {rs : List Int} (h : ArgAt w v rs) : ValsAt w 1 v rs.length (bytesOf rs) := by
 refine ⟨by simp [bytesOf], ?_⟩
 rcases h with ⟨rfl, rfl⟩ | h
 ·exact Or.inl ⟨rfl, rfl⟩
 ·exact Or.inr h

/-- v is a row of n elements (type e, k cells each) that was made since w0, and reads as xs; nothing of w0 has turned. -/
structure VBuf (e k : Nat) (w0 w : World) (v : Value) (n : Nat) (xs : List Value) : Prop where
 own : w.ownsRow w0.heap.size e k v n xs
 t : Touch (fun _ => False) w0 w
theorem VBuf.keep {e k : Nat} {w0 w w' : World} {v : Value} {n : Nat} {xs : List Value} (h : VBuf e k w0 w v n xs) (t : Touch (fun _ => False) w w') : VBuf e k w0 w' v n xs := ⟨own_touch h.own t (fun _ _ h => h), h.t.trans t⟩
theorem VBuf.nil (e k : Nat) {w0 w : World} (t : Touch (fun _ => False) w0 w) : VBuf e k w0 w (.slice none 0 0) 0 [] := ⟨World.ownsRow_nil _ _ _ _, t⟩
theorem VBuf.form {e k : Nat} {w0 w : World} {v : Value} {n : Nat} {xs : List Value} (h : VBuf e k w0 w v n xs) : ∃ a c, v = .slice a n c := by
 rcases h.own.2 with ⟨rfl, e⟩ | ⟨g, cap, cur, rfl, _⟩
 ·exact ⟨none, 0, by rw [e]⟩
 ·exact ⟨_, cap, rfl⟩
section
variable {ops : Array Oper} {rest : List Oper} {o : Oper} {a : Act} {Q : Exit → Act → World → Prop} {w : World}
/-- append(p, x...), of any element type. -/
theorem vapp_arg (hgd : o.guard = none) (s x : Operand) (t : TypeId) (ho : o.op = .call { callee := .builtin .append, args := #[s, x], argTypes := #[t, t] })
  (e k bytes : Nat) (z : Value) (ht : Tryz.prog.underlying t = some (.slice e)) (hi : (Tryz.prog.info? e).map (fun i => (i.zero, i.size, i.bytes)) = some (some z, k, bytes)) (hzs : z.cells.size = k) (hk : 0 < k) (hby : bytes ≤ 64)
  (w0 : World) (v : Value) (n : Nat) (xs : List Value) (hs : a.eval s = v) (hb : VBuf e k w0 w v n xs) (vx : Value) (m : Nat) (news : List Value) (hx : a.eval x = vx) (hr : ValsAt w k vx m news) (h1 : ∀ u ∈ news, u.oneCell' = true) (hl : n + m ≤ 1099511627776)
  (h : ∀ v' w', VBuf e k w0 w' v' (n + m) (xs ++ news) → wpList Tryz.prog ops Q rest (a.put o.dst v') w') : wpList Tryz.prog ops Q (o :: rest) a w := by
 obtain ⟨i0, hi, hz0, hz1, hz2⟩ := info_parts hi
 obtain ⟨hnl, hr⟩ := hr
 rcases hr with ⟨rfl, rfl⟩ | ⟨ad, c, rfl, h2, h3, h4⟩
 ·have hn0 : news = [] := List.length_eq_zero_iff.1 (by omega)
  subst hn0
  refine wpList_append_own_none hgd s x t ho w0.heap.size e i0 k ht hi v n xs hs hb.own hx ?_
  exact h v w (by rw [List.append_nil]; exact hb)
 ·have hmul : (n + m) * bytes ≤ 1099511627776 * 64 := Nat.mul_le_mul hl hby
  refine wpList_append_own_at w hgd s x t ho w0.heap.size e i0 z k bytes ht hi hz0 hz1 hz2 hzs hk v n xs hs hb.own ad m c news hx hnl h4 h1 (by unfold maxLen; omega) (by omega) hb.t.size ?_
  intro v' w' hown hg _ _
  exact h v' w' ⟨hown, hb.t.grown hg (fun k hk => Or.inr (hb.own.lt k hk).1)⟩
end
end Go.Proofs.YtbfplepmgbkajaaGreatDoor

namespace Go.Proofs.YtbfplepmgbkajaaGreatDoor
open Go.RowKit
set_option linter.unusedVariables false
set_option maxRecDepth 100000

/-- The cells of L elements. -/
def elems (el : Nat → List Value) (L : Nat) : List Value := (List.range L).flatMap el
theorem elems_succ (el : Nat → List Value) (L : Nat) : elems el (L + 1) = elems el L ++ el L := by simp [elems, List.range_succ]
theorem elems_len {el : Nat → List Value} {k : Nat} (h : ∀ i, (el i).length = k) (L : Nat) : (elems el L).length = L * k := by
 induction L with
 | zero => simp [elems]
 | succ L ih => rw [elems_succ, List.length_append, ih, h, Nat.succ_mul]
theorem elems_at {el : Nat → List Value} {k : Nat} (h : ∀ i, (el i).length = k) {L i c : Nat} (hi : i < L) (hc : c < k) : (elems el L)[i * k + c]? = (el i)[c]? := by
 induction L with
 | zero => omega
 | succ L ih =>
  rw [elems_succ]
  by_cases e : i < L
  ·rw [List.getElem?_append_left (by rw [elems_len h]; have := Nat.mul_le_mul_right k (show i + 1 ≤ L by omega); rw [Nat.succ_mul] at this; omega)]
   exact ih e
  ·obtain rfl : i = L := by omega
   rw [List.getElem?_append_right (by rw [elems_len h]; omega), elems_len h, Nat.add_sub_cancel_left]
theorem elems_one {el : Nat → List Value} {k : Nat} (hk : 0 < k) (h : ∀ i, (el i).length = k) {L j : Nat} {v : Value} (hv : (elems el L)[j]? = some v) : j / k < L ∧ (el (j / k))[j % k]? = some v := by
 have hl := (List.getElem?_eq_some_iff.mp hv).1
 rw [elems_len h] at hl
 have h1 : j / k < L := Nat.div_lt_of_lt_mul (by rw [Nat.mul_comm]; exact hl)
 refine ⟨h1, ?_⟩
 have := elems_at h h1 (Nat.mod_lt j hk)
 rw [Nat.mul_comm, Nat.div_add_mod] at this
 rw [← this]
 exact hv
def setAll (xs : List Value) (o : Nat) : List Value → Nat → List Value
 | [], _ => xs
 | v :: vs, c => setAll (xs.set (o + c) v) o vs (c + 1)
theorem setAll_get (vs : List Value) : ∀ (xs : List Value) (o c m : Nat), o + c + vs.length ≤ xs.length → (setAll xs o vs c)[m]? = if o + c ≤ m ∧ m < o + c + vs.length then vs[m - (o + c)]? else xs[m]? := by
 induction vs with
 | nil => intro xs o c m _; rw [setAll, if_neg (by rintro ⟨h1, h2⟩; simp only [List.length_nil] at h2; omega)]
 | cons v vs ih =>
  intro xs o c m hl
  simp only [List.length_cons] at hl
  rw [setAll, ih (xs.set (o + c) v) o (c + 1) m (by rw [List.length_set]; omega)]
  by_cases h1 : m = o + c
  ·subst h1
   rw [if_neg (by omega), if_pos (by simp), List.getElem?_set, if_pos rfl, if_pos (by omega)]
   simp
  ·by_cases h2 : o + (c + 1) ≤ m ∧ m < o + (c + 1) + vs.length
   ·rw [if_pos h2, if_pos (by simp; omega), show m - (o + c) = (m - (o + (c + 1))) + 1 by omega, List.getElem?_cons_succ]
   ·rw [if_neg h2, if_neg (by simp; omega), List.getElem?_set, if_neg (fun e => h1 e.symm)]
def putAll (w : World) (g o : Nat) : List Value → Nat → World
 | [], _ => w
 | v :: vs, c => putAll (w.setCell ⟨g, o + c, none⟩ v) g o vs (c + 1)
theorem own_putAll {base e k n cap g : Nat} (vs : List Value) : ∀ (w : World) (xs : List Value) (o c : Nat), w.ownsRow base e k (.slice (some ⟨g, 0, none⟩) n cap) n xs → (putAll w g o vs c).ownsRow base e k (.slice (some ⟨g, 0, none⟩) n cap) n (setAll xs o vs c) := by
 induction vs with
 | nil => intro w xs o c h; exact h
 | cons v vs ih => intro w xs o c h; exact ih _ _ o (c + 1) (h.stored (o + c) v).1
theorem touch_putAll {F : Nat → Prop} {w0 : World} {g : Nat} (hp : F g ∨ w0.heap.size ≤ g) (vs : List Value) : ∀ (w : World) (o c : Nat), Touch F w0 w → Touch F w0 (putAll w g o vs c) := by
 induction vs with
 | nil => intro w o c h; exact h
 | cons v vs ih => intro w o c h; exact ih _ o (c + 1) (Touch.setCell (p := ⟨g, o + c, none⟩) h hp v)
end Go.Proofs.YtbfplepmgbkajaaGreatDoor
