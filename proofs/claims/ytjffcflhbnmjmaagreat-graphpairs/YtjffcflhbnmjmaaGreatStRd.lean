/- Arguments: a list of bytes that came in. -/
import Derived.Test.YtjffcflhbnmjmaaGreatParts
import Derived.Deep.Slices
import Derived.SizedLaws
import Derived.OpenShut
import Derived.Laws.AppendOwnNone
import Derived.Test.YtjffcflhbnmjmaaGreatRdAll2
import Derived.Test.YtjffcflhbnmjmaaGreatMaskBits
namespace Go.Proofs.YtjffcflhbnmjmaaGreat
open Go.RowKit Go.ChangeShapes Go.WideShapes Go.ChangeAt
set_option linter.unusedVariables false
set_option maxRecDepth 100000

/-- A slice that came in reads as rs; of the address of one without cells nothing is known. -/
def ArgAt (w : World) (v : Value) (rs : List Int) : Prop :=
  (v = .slice none 0 0 ∧ rs = []) ∨ ∃ ad c, v = .slice (some ad) rs.length c ∧ rs.length ≤ c ∧ c ≤ maxLen ∧ ∀ j u, (bytesOf rs)[j]? = some u → w.cell? (ad.add j) = some u

theorem RowAt.arg {w : World} {v : Value} {rs : List Int} (h : RowAt w v rs) : ArgAt w v rs := by
  rcases h with h | ⟨g, off, c, rfl, h1, h2, h3⟩
  · exact Or.inl h
  · exact Or.inr ⟨_, c, rfl, h1, h2, fun j u hj => by rw [add_plain]; exact h3 j u hj⟩
theorem ArgAt.form {w : World} {v : Value} {rs : List Int} (h : ArgAt w v rs) : ∃ a c, v = .slice a rs.length c ∧ rs.length ≤ maxLen := by
  rcases h with ⟨rfl, rfl⟩ | ⟨ad, c, rfl, h1, h2, h3⟩
  · exact ⟨_, _, rfl, Nat.zero_le _⟩
  · exact ⟨_, _, rfl, Nat.le_trans h1 h2⟩
theorem ArgAt.row {w : World} {v : Value} {rs : List Int} (h : ArgAt w v rs) (hp : 0 < rs.length) : RowAt w v rs := by
  rcases h with ⟨rfl, rfl⟩ | ⟨ad, c, rfl, h1, h2, h3⟩
  · exact Or.inl ⟨rfl, rfl⟩
  · obtain ⟨g, off, spot⟩ := ad
    have hc := h3 0 (.int .u8 rs[0]) (by simp [bytesOf, hp])
    have hspot : spot = none := by simpa [Addr.add] using World.cell?_spot hc
    subst hspot
    exact Or.inr ⟨g, off, c, rfl, h1, h2, fun j u hj => by have := h3 j u hj; rwa [add_plain] at this⟩
theorem ArgAt.keep {F : Nat → Prop} {w w' : World} {v : Value} {rs : List Int} (h : ArgAt w v rs) (t : Touch F w w') (hF : ∀ k, k < w.heap.size → ¬ F k) : ArgAt w' v rs := by
  rcases h with h | ⟨ad, c, rfl, h1, h2, h3⟩
  · exact Or.inl h
  · refine Or.inr ⟨ad, c, rfl, h1, h2, fun j u hj => ?_⟩
    have hc := h3 j u hj
    exact (t.cell (lt_of_cellA hc) (hF _ (lt_of_cellA hc))).trans hc

section
variable {H : Type} {enc : TypeId × Value → H} {w : World} {base : Nat} {held : Bool}

theorem open_bytes {fuel : Nat} {a : Option Addr} {len cap : Nat} {x : DataW H × List MemPlace} (h : DataW.trod enc Tryz.prog w base (fun _ => true) held fuel 50 [.slice a len cap] = some x) :
    ∃ rs : List Int, rs.length = len ∧ ArgAt w (.slice a len cap) rs ∧ (∀ z ∈ rs, 0 ≤ z ∧ z < 256) ∧ (x.1 = .nil ∧ len = 0 ∨ ∃ el sp, x.1 = .slice el sp ∧ el.length = len) := by
  rcases open_ints Tryz.underlying50 Tryz.underlying5 (by kernel_rfl) h with ⟨hcs, hx⟩ | ⟨ad, l, c, zs, hcs, _, hl, hm, hz, hx, hcell, hwz⟩
  · simp at hcs
    obtain ⟨rfl, rfl, rfl⟩ := hcs
    exact ⟨[], rfl, Or.inl ⟨rfl, rfl⟩, by simp, Or.inl ⟨by rw [hx], rfl⟩⟩
  · simp at hcs
    obtain ⟨rfl, rfl, rfl⟩ := hcs
    have hz' : zs.length = cap := by simpa using hz
    have hlen : (zs.take len).length = len := by simp; omega
    refine ⟨zs.take len, hlen, Or.inr ⟨ad, cap, by rw [hlen], by omega, hm, fun j u hj => ?_⟩, fun z hzm => ?_, Or.inr ⟨_, _, by rw [hx], by simp [lits]; omega⟩⟩
    · have hjl : j < len := by
        have := (List.getElem?_eq_some_iff.mp hj).1
        simp [bytesOf] at this
        omega
      have := hcell j (by omega)
      rw [this]
      simp only [bytesOf, List.getElem?_map, List.getElem?_take, if_pos hjl] at hj
      rw [List.getElem?_eq_getElem (by omega)] at hj
      rw [← hj]
      simp [List.getD, show j < zs.length by omega]
    · have := bounds_u8 (hwz z (List.mem_of_mem_take hzm))
      omega
end
end Go.Proofs.YtjffcflhbnmjmaaGreat

namespace Go.Proofs.YtjffcflhbnmjmaaGreat
open Go.RowKit
set_option linter.unusedVariables false
set_option maxRecDepth 100000

theorem rowAt_cell {w : World} {g off c n : Nat} {rs : List Int} (h : RowAt w (.slice (some ⟨g, off, none⟩) n c) rs) (j : Nat) (hj : j < rs.length) : w.cell? ⟨g, off + j, none⟩ = some (.int .u8 (rs.getD j 0)) := by
  rcases h with ⟨h, _⟩ | ⟨g', off', c', h, _, _, h3⟩
  · simp at h
  · simp at h
    obtain ⟨⟨rfl, rfl⟩, _, _⟩ := h
    exact h3 j _ (by simp [bytesOf, List.getElem?_eq_getElem hj, List.getD])

/-- A row that is not empty has an address. -/
theorem rowAt_some {w : World} {a : Option Addr} {n c : Nat} {rs : List Int} (h : RowAt w (.slice a n c) rs) (hn : 0 < n) : ∃ g off, a = some ⟨g, off, none⟩ := by
  rcases h with ⟨h, _⟩ | ⟨g', off', c', h, _⟩
  · simp at h; omega
  · simp at h; exact ⟨g', off', h.1⟩

theorem Tryz.info5w : (Tryz.prog.info? 5).map (fun i => (i.zero, i.size, i.bytes)) = some (some (.int .u8 0), 1, 1) := by kernel_rfl
end Go.Proofs.YtjffcflhbnmjmaaGreat

namespace Go.Proofs.YtjffcflhbnmjmaaGreat
open Go.RowKit
set_option linter.unusedVariables false
set_option maxRecDepth 100000

/-- v is a row of bytes that was made since w0, and reads as l; nothing of w0 has turned. -/
structure Buf (w0 w : World) (v : Value) (l : List Int) : Prop where
  own : w.ownsRow w0.heap.size 5 1 v l.length (bytesOf l)
  t : Touch (fun _ => False) w0 w
theorem Buf.keep {w0 w w' : World} {v : Value} {l : List Int} (h : Buf w0 w v l) (t : Touch (fun _ => False) w w') : Buf w0 w' v l := ⟨own_touch h.own t (fun _ _ h => h), h.t.trans t⟩
theorem Buf.back {w0 w w' : World} {v : Value} {l : List Int} (h : Buf w w' v l) (t : Touch (fun _ => False) w0 w) : Buf w0 w' v l := by
  refine ⟨⟨h.own.1, ?_⟩, t.trans h.t⟩
  rcases h.own.2 with h2 | ⟨g, cap, cur, hv, hb, hr⟩
  · exact Or.inl h2
  · exact Or.inr ⟨g, cap, cur, hv, Nat.le_trans t.size hb, hr⟩
theorem Buf.nil {w0 w : World} (t : Touch (fun _ => False) w0 w) : Buf w0 w (.slice none 0 0) [] := ⟨World.ownsRow_nil _ _ _ _, t⟩
theorem Buf.form {w0 w : World} {v : Value} {l : List Int} (h : Buf w0 w v l) : ∃ a c, v = .slice a l.length c := by
  rcases h.own.2 with ⟨rfl, e⟩ | ⟨g, cap, cur, rfl, _⟩
  · exact ⟨none, 0, by rw [e]⟩
  · exact ⟨_, cap, rfl⟩
theorem Buf.arg {w0 w : World} {v : Value} {l : List Int} (h : Buf w0 w v l) : ArgAt w v l := (own_rowAt h.own).arg
theorem Buf.appended {w0 w w' : World} {v v' : Value} {l r : List Int} (h : Buf w0 w v l) (hown : w'.ownsRow w0.heap.size 5 1 v' (l.length + r.length) (bytesOf l ++ bytesOf r)) (hg : w.grownBy w' v.ownBlock) : Buf w0 w' v' (l ++ r) := by
  refine ⟨?_, h.t.grown hg (fun k hk => Or.inr (h.own.lt k hk).1)⟩
  rw [List.length_append, bytesOf_append]
  exact hown

section
variable {ops : Array Oper} {rest : List Oper} {o : Oper} {a : Act} {Q : Exit → Act → World → Prop} {w : World}
/-- append(p, x...), x that came in or was made. -/
theorem app_arg (hgd : o.guard = none) (s x : Operand) (ho : o.op = .call { callee := .builtin .append, args := #[s, x], argTypes := #[50, 50] })
    (w0 : World) (v : Value) (l : List Int) (hs : a.eval s = v) (hb : Buf w0 w v l) (vx : Value) (r : List Int) (hx : a.eval x = vx) (hr : ArgAt w vx r) (hl : l.length + r.length ≤ 1099511627776)
    (h : ∀ v' w', Buf w0 w' v' (l ++ r) → wpList Tryz.prog ops Q rest (a.put o.dst v') w') : wpList Tryz.prog ops Q (o :: rest) a w := by
  obtain ⟨i0, hi, hz0, hz1, hz2⟩ := info_parts Tryz.info5w
  rcases hr with ⟨rfl, rfl⟩ | ⟨ad, c, rfl, h1, h2, h3⟩
  · refine wpList_append_own_none hgd s x 50 ho w0.heap.size 5 i0 1 Tryz.underlying50 hi v l.length (bytesOf l) hs hb.own hx ?_
    exact h v w (by rw [List.append_nil]; exact hb)
  · refine wpList_append_own_at w hgd s x 50 ho w0.heap.size 5 i0 (.int .u8 0) 1 1 Tryz.underlying50 hi hz0 hz1 hz2 rfl (by decide) v l.length (bytesOf l) hs hb.own ad r.length c (bytesOf r) hx (by simp [length_bytesOf]) h3 (oneCell_bytesOf r) (by unfold maxLen; omega) (by omega) hb.t.size ?_
    intro v' w' hown hg _ _
    exact h v' w' (hb.appended hown hg)
/-- append(p, z), the one element in a new block of its own. -/
theorem app_one (hgd : o.guard = none) (s x : Operand) (ho : o.op = .call { callee := .builtin .append, args := #[s, x], argTypes := #[50, 50] })
    (w0 : World) (v : Value) (l : List Int) (hs : a.eval s = v) (hb : Buf w0 w v l) (z : Int) (hx : a.eval x = .slice (some ⟨w.heap.size, 0, none⟩) 1 1) (hl : l.length < 1099511627776)
    (h : ∀ v' w', Buf w0 w' v' (l ++ [z]) → wpList Tryz.prog ops Q rest (a.put o.dst v') w') : wpList Tryz.prog ops Q (o :: rest) a (w.alloc (.cells #[.int .u8 z] 5)) :=
  app_arg hgd s x ho w0 v l hs (hb.keep ((Touch.refl _ w).alloc _)) _ [z] hx (Or.inr ⟨_, 1, rfl, by simp, by simp [maxLen], cell_one_new w _ _⟩) (by simp; omega) h
end
end Go.Proofs.YtjffcflhbnmjmaaGreat

namespace Go.Proofs.YtjffcflhbnmjmaaGreat
open Go.RowKit
set_option linter.unusedVariables false
set_option maxRecDepth 100000

theorem numVal_numOf (l : List Int) : numVal l = numOf l := by
  unfold numVal numOf
  congr 1
  funext a x
  rw [Int.mul_comm]

/-- A reader in block b: at the place q, or short; it and its row lie below N. -/
structure Rdr (N : Nat) (w : World) (b : Nat) (rs : List Int) (q : Option Nat) : Prop where
  out : ∃ rv p err, RdS w b rv rs p err ∧ b < N ∧ (∀ k, rv.ownBlock = some k → k < N) ∧ ((q = some p ∧ err = 0) ∨ (q = none ∧ err = 10))
theorem Rdr.touch {F : Nat → Prop} {N : Nat} {w w' : World} {b : Nat} {rs : List Int} {q : Option Nat} (h : Rdr N w b rs q) (t : Touch F w w') (hF : ∀ k, k < N → ¬ F k) : Rdr N w' b rs q := by
  obtain ⟨rv, p, err, h, hb, ho, hq⟩ := h
  exact ⟨rv, p, err, h.touch t (hF b hb) (fun k hk => hF k (ho k hk)), hb, ho, hq⟩
theorem Rdr.keep {N : Nat} {w w' : World} {b : Nat} {rs : List Int} {q : Option Nat} (h : Rdr N w b rs q) (t : Touch (fun _ => False) w w') : Rdr N w' b rs q := h.touch t (fun _ _ h => h)
theorem Rdr.low {N : Nat} {w : World} {b : Nat} {rs : List Int} {q : Option Nat} (h : Rdr N w b rs q) : b < N := by obtain ⟨_, _, _, _, hb, _⟩ := h; exact hb
theorem Rdr.lt {N : Nat} {w : World} {b : Nat} {rs : List Int} {q : Option Nat} (h : Rdr N w b rs q) : b < w.heap.size := by obtain ⟨_, _, _, h, _⟩ := h; exact lt_of_cell h.made
theorem Rdr.byte {N : Nat} {w : World} {b : Nat} {rs : List Int} {q : Option Nat} (h : Rdr N w b rs q) : ∀ x ∈ rs, 0 ≤ x ∧ x < 256 := by obtain ⟨_, _, _, h, _⟩ := h; exact h.byte
theorem Rdr.ple {N : Nat} {w : World} {b : Nat} {rs : List Int} {p : Nat} (h : Rdr N w b rs (some p)) : p ≤ rs.length := by
  obtain ⟨_, _, _, h, _, _, ⟨e, _⟩ | ⟨e, _⟩⟩ := h
  · cases e; exact h.ple
  · cases e
/-- What n bytes at a place are as a number; the place behind them. -/
def numAt (rs : List Int) (q : Option Nat) (n : Nat) : Int := match q with
  | some p => if p + n ≤ rs.length then numOf ((rs.drop p).take n) else 0
  | none => 0
def nextAt (rs : List Int) (q : Option Nat) (n : Nat) : Option Nat := match q with
  | some p => if p + n ≤ rs.length then some (p + n) else none
  | none => none
def leftAt (rs : List Int) (q : Option Nat) : Int := match q with
  | some p => (rs.length : Int) - p
  | none => 0
theorem numAt_bound {rs : List Int} (hb : ∀ x ∈ rs, 0 ≤ x ∧ x < 256) (q : Option Nat) (n : Nat) : 0 ≤ numAt rs q n ∧ numAt rs q n < 256 ^ n := by
  have hp : (0 : Int) < 256 ^ n := Int.pow_pos (by decide)
  unfold numAt
  split
  · split
    · rename_i p h
      have := numOf_bound ((rs.drop p).take n) (fun z hz => hb z (List.mem_of_mem_drop (List.mem_of_mem_take hz)))
      rw [show ((rs.drop p).take n).length = n by simp; omega] at this
      exact this
    · omega
  · omega

theorem rnum_r (N b n : Nat) (rs : List Int) (q : Option Nat) (w : World) (h : Rdr N w b rs q) (h1 : 1 ≤ n) (h4 : n ≤ 4) :
    Calls Tryz.prog 152 #[.pointer (some ⟨b, 0, none⟩), .int .i64 n] w fun e w' => e = .returned (.int .u32 (numAt rs q n)) ∧ Rdr N w' b rs (nextAt rs q n) ∧ Touch (fun k => k = b) w w' := by
  obtain ⟨rv, p, err, h, hb, ho, ⟨rfl, rfl⟩ | ⟨rfl, rfl⟩⟩ := h
  · by_cases hp : p + n ≤ rs.length
    · refine (rnumber_ok b p n rv rs w h (by omega) (by omega) (by omega)).mono ?_
      rintro e w' ⟨rfl, hr, t, _⟩
      refine ⟨?_, ⟨rv, _, _, hr, hb, ho, Or.inl ⟨?_, rfl⟩⟩, t⟩
      · simp only [numAt, if_pos hp, numVal_numOf]
      · simp only [nextAt, if_pos hp]
    · refine (rnumber_short b p n rv rs w h (by omega) (by omega) (by omega)).mono ?_
      rintro e w' ⟨rfl, hr, t, _⟩
      refine ⟨?_, ⟨rv, _, _, hr, hb, ho, Or.inr ⟨?_, rfl⟩⟩, t⟩
      · simp only [numAt, if_neg hp]
      · simp only [nextAt, if_neg hp]
  · refine (rnumber_dead b p n 10 rv rs w h (by omega)).mono ?_
    rintro e w' ⟨rfl, rfl⟩
    exact ⟨rfl, ⟨rv, p, 10, h, hb, ho, Or.inr ⟨rfl, rfl⟩⟩, Touch.refl _ _⟩
theorem rnum1 (N b : Nat) (rs : List Int) (q : Option Nat) (w : World) (h : Rdr N w b rs q) :
    Calls Tryz.prog 152 #[.pointer (some ⟨b, 0, none⟩), .int .i64 1] w fun e w' => e = .returned (.int .u32 (numAt rs q 1)) ∧ Rdr N w' b rs (nextAt rs q 1) ∧ Touch (fun k => k = b) w w' := rnum_r N b 1 rs q w h (by omega) (by omega)
theorem rnum2 (N b : Nat) (rs : List Int) (q : Option Nat) (w : World) (h : Rdr N w b rs q) :
    Calls Tryz.prog 152 #[.pointer (some ⟨b, 0, none⟩), .int .i64 2] w fun e w' => e = .returned (.int .u32 (numAt rs q 2)) ∧ Rdr N w' b rs (nextAt rs q 2) ∧ Touch (fun k => k = b) w w' := rnum_r N b 2 rs q w h (by omega) (by omega)
theorem rnum3 (N b : Nat) (rs : List Int) (q : Option Nat) (w : World) (h : Rdr N w b rs q) :
    Calls Tryz.prog 152 #[.pointer (some ⟨b, 0, none⟩), .int .i64 3] w fun e w' => e = .returned (.int .u32 (numAt rs q 3)) ∧ Rdr N w' b rs (nextAt rs q 3) ∧ Touch (fun k => k = b) w w' := rnum_r N b 3 rs q w h (by omega) (by omega)
theorem rnum4 (N b : Nat) (rs : List Int) (q : Option Nat) (w : World) (h : Rdr N w b rs q) :
    Calls Tryz.prog 152 #[.pointer (some ⟨b, 0, none⟩), .int .i64 4] w fun e w' => e = .returned (.int .u32 (numAt rs q 4)) ∧ Rdr N w' b rs (nextAt rs q 4) ∧ Touch (fun k => k = b) w w' := rnum_r N b 4 rs q w h (by omega) (by omega)

theorem left_r (N b : Nat) (rs : List Int) (q : Option Nat) (w : World) (h : Rdr N w b rs q) :
    Calls Tryz.prog 103 #[.pointer (some ⟨b, 0, none⟩)] w fun e w' => e = .returned (.int .i64 (leftAt rs q)) ∧ ∃ n, w' = w.drewN n := by
  obtain ⟨rv, p, err, h, hb, ho, ⟨rfl, rfl⟩ | ⟨rfl, rfl⟩⟩ := h
  · exact left_ok b p rv rs w h
  · refine (left_dead b 10 w h.made h.err (by decide)).mono ?_
    rintro e w' ⟨rfl, rfl⟩
    exact ⟨rfl, 0, rfl⟩
theorem err_r (N b : Nat) (rs : List Int) (q : Option Nat) (w : World) (h : Rdr N w b rs q) :
    Calls Tryz.prog 102 #[.pointer (some ⟨b, 0, none⟩)] w fun e w' => e = .returned (.int .i64 (if q = none then 10 else 0)) ∧ w = w' := by
  obtain ⟨rv, p, err, h, hb, ho, ⟨rfl, rfl⟩ | ⟨rfl, rfl⟩⟩ := h
  · exact err_any b 0 w h.made h.err
  · exact err_any b 10 w h.made h.err
/-- All that is left, as new bytes. -/
theorem rbytes_r (N b p : Nat) (rs : List Int) (w : World) (h : Rdr N w b rs (some p)) (hc : rs.length ≤ 1099511627776) :
    Calls Tryz.prog 155 #[.pointer (some ⟨b, 0, none⟩), .int .i64 ((rs.length : Int) - p)] w fun e w' => ∃ v, e = .returned v ∧ w'.ownsRow w.heap.size 5 1 v (rs.length - p) (bytesOf (rs.drop p)) ∧ Rdr N w' b rs (some rs.length) ∧ Touch (fun k => k = b) w w' := by
  obtain ⟨rv, p', err, h, hb, ho, ⟨e, rfl⟩ | ⟨e, rfl⟩⟩ := h
  · cases e
    have hp := h.ple
    have hs : stepR rs.length p 0 ((rs.length : Int) - p) = (rs.length, 0, true) := by
      rw [stepR_ok _ _ _ (by omega) (by omega)]
      simp
      try omega
    refine (rbytes_all b p _ 0 rv rs w h (by omega) hc).mono ?_
    rintro e w' ⟨v, rfl, hown, hr, t⟩
    have hg : gotR rs p 0 ((rs.length : Int) - p) = rs.drop p := by
      simp only [gotR, hs, if_true]
      rw [List.take_of_length_le (by simp <;> omega)]
    rw [hg, List.length_drop] at hown
    rw [hs] at hr
    exact ⟨v, rfl, hown, ⟨rv, _, _, hr, hb, ho, Or.inl ⟨rfl, rfl⟩⟩, t⟩
  · cases e

/-- Read: a reader of a copy. -/
theorem read_r (v : Value) (bs : List Int) (w : World) (h : ArgAt w v bs) (hby : ∀ x ∈ bs, 0 ≤ x ∧ x < 256) (hcap : bs.length ≤ 1099511627776) :
    Calls Tryz.prog 101 #[v] w fun e w' => ∃ b, e = .returned (.pointer (some ⟨b, 0, none⟩)) ∧ w.heap.size ≤ b ∧ Rdr w'.heap.size w' b bs (some 0) ∧ Touch (fun _ => False) w w' := by
  have fin : ∀ (b : Nat) (rv : Value) (w' : World), w.heap.size ≤ b → RdS w' b rv bs 0 0 → Touch (fun _ => False) w w' →
      ∃ b', (Ending.returned (.pointer (some ⟨b, 0, none⟩))) = .returned (.pointer (some ⟨b', 0, none⟩)) ∧ w.heap.size ≤ b' ∧ Rdr w'.heap.size w' b' bs (some 0) ∧ Touch (fun _ => False) w w' :=
    fun b rv w' hb hr t => ⟨b, rfl, hb, ⟨rv, 0, 0, hr, lt_of_cell hr.made, hr.blk, Or.inl ⟨rfl, rfl⟩⟩, t⟩
  rcases h with ⟨rfl, rfl⟩ | ⟨ad, c, rfl, hlc, hcm, hs⟩
  · go_enter Tryz.func101, Tryz.ntmps101
    go_wp2_with (go_at_call 118; refine (clone_nil _).mono ?_; rintro e w' ⟨rfl, rfl⟩)
    go_ret
    exact fin _ _ _ (Nat.le_refl _) ⟨by simp, by simp, by simp, by simp, by simp, by simp, by simp, Or.inl ⟨rfl, rfl⟩, by simp [Value.ownBlock], by simp, by simp [Value.ownBlock]⟩ ((Touch.refl _ _).alloc _)
  · go_enter Tryz.func101, Tryz.ntmps101
    go_wp2_with (go_at_call 118; refine (clone_some _ _ bs _ hs hcap).mono ?_; rintro e w' ⟨v', rfl, hown, ht, hne⟩; obtain ⟨va, vc, rfl, _⟩ := rowAt_form (own_rowAt hown))
    go_ret
    refine fin _ (.slice va bs.length vc) _ ht.size ⟨by simp, by simp, by simp, by simp, by simp, by simp, by simp, ?_, ?_, hby, fun k hk => by have := (hown.lt k hk).2; simp; omega⟩ (ht.alloc _)
    · exact (own_rowAt hown).touch ((Touch.refl (fun _ => False) _).alloc _) (fun _ _ h => h)
    · intro hk; have := (hown.lt _ hk).2; omega
end Go.Proofs.YtjffcflhbnmjmaaGreat
