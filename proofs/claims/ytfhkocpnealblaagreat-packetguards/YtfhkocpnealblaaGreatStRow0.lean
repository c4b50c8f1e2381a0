/- Contracts: the reader's head. -/
import Derived.Test.YtfhkocpnealblaaGreatStRd2
import Derived.Deep.RegionHeld3
import Derived.Test.YtfhkocpnealblaaGreatStaOut
namespace Go.Proofs.YtfhkocpnealblaaGreat
open Go.RowKit
set_option linter.unusedVariables false
set_option maxRecDepth 100000

def R8 (w : World) (g : Nat) (u0 u1 u2 u3 u4 u5 u6 u7 : Value) : Prop := w.cell? ⟨g, 0, none⟩ = some u0 ∧ w.frozen? ⟨g, 0, none⟩ = false ∧ w.cell? ⟨g, 1, none⟩ = some u1 ∧ w.frozen? ⟨g, 1, none⟩ = false ∧ w.cell? ⟨g, 2, none⟩ = some u2 ∧ w.frozen? ⟨g, 2, none⟩ = false ∧ w.cell? ⟨g, 3, none⟩ = some u3 ∧ w.frozen? ⟨g, 3, none⟩ = false ∧ w.cell? ⟨g, 4, none⟩ = some u4 ∧ w.frozen? ⟨g, 4, none⟩ = false ∧ w.cell? ⟨g, 5, none⟩ = some u5 ∧ w.frozen? ⟨g, 5, none⟩ = false ∧ w.cell? ⟨g, 6, none⟩ = some u6 ∧ w.frozen? ⟨g, 6, none⟩ = false ∧ w.cell? ⟨g, 7, none⟩ = some u7 ∧ w.frozen? ⟨g, 7, none⟩ = false
theorem R8.touch {F : Nat → Prop} {w w' : World} {g : Nat} {u0 u1 u2 u3 u4 u5 u6 u7 : Value} (h : R8 w g u0 u1 u2 u3 u4 u5 u6 u7) (t : Touch F w w') (hF : ¬ F g) : R8 w' g u0 u1 u2 u3 u4 u5 u6 u7 := by
  have hl : g < w.heap.size := lt_of_cell h.1
  have c : ∀ i v, w.cell? ⟨g, i, none⟩ = some v → w'.cell? ⟨g, i, none⟩ = some v := fun i v e => (t.cell (p := ⟨g, i, none⟩) hl hF).trans e
  have f : ∀ i, w.frozen? ⟨g, i, none⟩ = false → w'.frozen? ⟨g, i, none⟩ = false := fun i e => (t.frozen (p := ⟨g, i, none⟩) hl hF).trans e
  obtain ⟨zc0, zf0, zc1, zf1, zc2, zf2, zc3, zf3, zc4, zf4, zc5, zf5, zc6, zf6, zc7, zf7⟩ := h
  exact ⟨c 0 _ zc0, f 0 zf0, c 1 _ zc1, f 1 zf1, c 2 _ zc2, f 2 zf2, c 3 _ zc3, f 3 zf3, c 4 _ zc4, f 4 zf4, c 5 _ zc5, f 5 zf5, c 6 _ zc6, f 6 zf6, c 7 _ zc7, f 7 zf7⟩
theorem next_all (rs : List Int) : ∀ (ns : List Nat) (p : Nat), ns.foldl (nextAt rs) (some p) = if p + ns.sum ≤ rs.length then some (p + ns.sum) else (if ns = [] then some p else none)
  | [], p => by simp
  | n :: r, p => by
    have hn : ∀ m : List Nat, m.foldl (nextAt rs) none = none := fun m => by induction m with | nil => rfl | cons a r ih => simpa [nextAt] using ih
    have hs : (n :: r).sum = n + r.sum := List.sum_cons
    generalize (n :: r).sum = S at hs ⊢
    rw [List.foldl_cons]
    by_cases h : p + n ≤ rs.length
    · rw [show nextAt rs (some p) n = some (p + n) by simp [nextAt, h], next_all rs r (p + n)]
      by_cases h2 : p + n + r.sum ≤ rs.length
      · have h3 : p + S ≤ rs.length := by omega
        rw [if_pos h2, if_pos h3]; congr 1; omega
      · have h3 : ¬ p + S ≤ rs.length := by omega
        have hr : r ≠ [] := fun e => by subst e; simp at h2; omega
        rw [if_neg h2, if_neg h3, if_neg hr, if_neg (by simp)]
    · have h3 : ¬ p + S ≤ rs.length := by omega
      rw [show nextAt rs (some p) n = none by simp [nextAt, h], hn, if_neg h3, if_neg (by simp)]
/-- A head out of bytes. -/
def rdHead (rs : List Int) : HV := ⟨numAt rs (some 0) 2, numAt rs (nextAt rs (some 0) 2) 1, numAt rs (nextAt rs (nextAt rs (some 0) 2) 1) 1, numAt rs (nextAt rs (nextAt rs (nextAt rs (some 0) 2) 1) 1) 4, numAt rs (nextAt rs (nextAt rs (nextAt rs (nextAt rs (some 0) 2) 1) 1) 4) 4, IntKind.i32.wrap (numAt rs (nextAt rs (nextAt rs (nextAt rs (nextAt rs (nextAt rs (some 0) 2) 1) 1) 4) 4) 4), numAt rs (nextAt rs (nextAt rs (nextAt rs (nextAt rs (nextAt rs (nextAt rs (some 0) 2) 1) 1) 4) 4) 4) 2, numAt rs (nextAt rs (nextAt rs (nextAt rs (nextAt rs (nextAt rs (nextAt rs (nextAt rs (some 0) 2) 1) 1) 4) 4) 4) 2) 2⟩
theorem rd_last (rs : List Int) : (nextAt rs (nextAt rs (nextAt rs (nextAt rs (nextAt rs (nextAt rs (nextAt rs (nextAt rs (some 0) 2) 1) 1) 4) 4) 4) 2) 2) = if 20 ≤ rs.length then some 20 else none := next_all rs [2, 1, 1, 4, 4, 4, 2, 2] 0

set_option maxHeartbeats 2000000 in
theorem rhead_any (N b : Nat) (rs : List Int) (w : World) (h : Rdr N w b rs (some 0)) (hN : N ≤ w.heap.size) :
    Calls Tryz.prog 123 #[.agg #[.pointer (some ⟨b, 0, none⟩)]] w fun e w' => e = .returned (rdHead rs).v ∧ Rdr N w' b rs (if 20 ≤ rs.length then some 20 else none) ∧ Touch (fun k => k = b) w w' := by
  have hb2 : ∀ q, IntKind.u16.wrap (numAt rs q 2) = numAt rs q 2 := fun q => by have := numAt_bound h.byte q 2; simp [IntKind.wrap, IntKind.bits, IntKind.signed]; omega
  have hb1 : ∀ q, IntKind.u8.wrap (numAt rs q 1) = numAt rs q 1 := fun q => by have := numAt_bound h.byte q 1; simp [IntKind.wrap, IntKind.bits, IntKind.signed]; omega
  have hlow := h.low
  rw [← rd_last rs]
  go_enter Tryz.func123, Tryz.ntmps123
  go_upto_region 1 with fail
  have T1 : Hid (Touch (fun k => k = b) w ((w.alloc (.cells #[.pointer (some ⟨b, 0, none⟩)] 173)).alloc (.cells #[.int .u16 0, .int .u8 0, .int .u8 0, .int .u32 0, .int .u32 0, .int .i32 0, .int .u16 0, .int .u16 0] 82))) := ((Touch.refl _ w).alloc _).alloc _
  have h1 : Rdr N ((w.alloc (.cells #[.pointer (some ⟨b, 0, none⟩)] 173)).alloc (.cells #[.int .u16 0, .int .u8 0, .int .u8 0, .int .u32 0, .int .u32 0, .int .i32 0, .int .u16 0, .int .u16 0] 82)).drew b rs (some 0) := h.keep ((((Touch.refl _ w).alloc _).alloc _).drew)
  have y0 : ((w.alloc (.cells #[.pointer (some ⟨b, 0, none⟩)] 173)).alloc (.cells #[.int .u16 0, .int .u8 0, .int .u8 0, .int .u32 0, .int .u32 0, .int .i32 0, .int .u16 0, .int .u16 0] 82)).drew.cell? ⟨w.heap.size, 0, none⟩ = some (.pointer (some ⟨b, 0, none⟩)) := by simp [go_sem]
  have HR0 : Hid (R8 ((w.alloc (.cells #[.pointer (some ⟨b, 0, none⟩)] 173)).alloc (.cells #[.int .u16 0, .int .u8 0, .int .u8 0, .int .u32 0, .int .u32 0, .int .i32 0, .int .u16 0, .int .u16 0] 82)).drew (w.heap.size + 1) (.int .u16 0) (.int .u8 0) (.int .u8 0) (.int .u32 0) (.int .u32 0) (.int .i32 0) (.int .u16 0) (.int .u16 0)) := by show R8 _ _ _ _ _ _ _ _ _ _; unfold R8; simp [go_sem]
  have hn1 : Hid (¬ w.heap.size = b) := by show ¬ _; omega
  have hn2 : Hid (¬ w.heap.size + 1 = b) := by show ¬ _; omega
  have hne : ¬ w.heap.size = w.heap.size + 1 := by omega
  have hne' : ¬ w.heap.size + 1 = w.heap.size := by omega
  have HS : Hid (w.heap.size < ((w.alloc (.cells #[.pointer (some ⟨b, 0, none⟩)] 173)).alloc (.cells #[.int .u16 0, .int .u8 0, .int .u8 0, .int .u32 0, .int .u32 0, .int .i32 0, .int .u16 0, .int .u16 0] 82)).heap.size) := by show _ < _; simp; omega
  have HN : Hid (N ≤ w.heap.size) := hN
  generalize hg2 : w.heap.size + 1 = g2 at *
  generalize (w.alloc (.cells #[.pointer (some ⟨b, 0, none⟩)] 173)).alloc (.cells #[.int .u16 0, .int .u8 0, .int .u8 0, .int .u32 0, .int .u32 0, .int .i32 0, .int .u16 0, .int .u16 0] 82) = w1 at *
  clear h hN hlow
  generalize hg1 : w.heap.size = g1 at *
  have HG1 : Hid (w.heap.size = g1) := hg1
  have HG2 : Hid (g1 + 1 = g2) := hg2
  clear hg1 hg2
  have hl1 : Hid (g1 < w1.heap.size) := HS
  have HT0 : Hid (Touch (fun k => k = b) w1 w1.drew) := (Touch.refl _ _).drew
  obtain ⟨zc0, zf0, zc1, zf1, zc2, zf2, zc3, zf3, zc4, zf4, zc5, zf5, zc6, zf6, zc7, zf7⟩ := HR0.out
  go_region_held3 (fun w' => w'.cell? ⟨g1, 0, none⟩ = some (.pointer (some ⟨b, 0, none⟩))) (go_keep) (first
    | (go_at_call 56; refine Calls.mono (rnum_i N b _ (by omega) rs _ _ (by assumption)) ?_; rintro e wx ⟨rfl, hx, tx⟩; have y0 := (tx.cell (p := ⟨g1, 0, none⟩) (Nat.lt_of_lt_of_le hl1.out (Touch.size (Hid.out (by assumption : Hid (Touch (fun k => k = b) w1 _))))) hn1.out).trans (by assumption : World.cell? _ ⟨g1, 0, none⟩ = some (.pointer (some ⟨b, 0, none⟩))); have HRX : Hid (R8 wx g2 (.int .u16 0) (.int .u8 0) (.int .u8 0) (.int .u32 0) (.int .u32 0) (.int .i32 0) (.int .u16 0) (.int .u16 0)) := (Hid.out (by assumption : Hid (R8 _ g2 (.int .u16 0) (.int .u8 0) (.int .u8 0) (.int .u32 0) (.int .u32 0) (.int .i32 0) (.int .u16 0) (.int .u16 0)))).touch tx hn2.out; clear zc0 zf0 zc1 zf1 zc2 zf2 zc3 zf3 zc4 zf4 zc5 zf5 zc6 zf6 zc7 zf7; obtain ⟨zc0, zf0, zc1, zf1, zc2, zf2, zc3, zf3, zc4, zf4, zc5, zf5, zc6, zf6, zc7, zf7⟩ := HRX.out; have HTX : Hid (Touch (fun k => k = b) w1 wx) := Touch.trans (Hid.out (by assumption)) tx; clear tx))
  have HX : Hid (Rdr N wx b rs ((nextAt rs (nextAt rs (nextAt rs (nextAt rs (nextAt rs (nextAt rs (nextAt rs (nextAt rs (some 0) 2) 1) 1) 4) 4) 4) 2) 2))) := hx
  obtain ⟨wz, hwz⟩ : ∃ wz, wz = ((((((((wx.setCell ⟨g2, 0, none⟩ (.int .u16 (numAt rs (some 0) 2))).setCell ⟨g2, 1, none⟩ (.int .u8 (numAt rs (nextAt rs (some 0) 2) 1))).setCell ⟨g2, 2, none⟩ (.int .u8 (numAt rs (nextAt rs (nextAt rs (some 0) 2) 1) 1))).setCell ⟨g2, 3, none⟩ (.int .u32 (numAt rs (nextAt rs (nextAt rs (nextAt rs (some 0) 2) 1) 1) 4))).setCell ⟨g2, 4, none⟩ (.int .u32 (numAt rs (nextAt rs (nextAt rs (nextAt rs (nextAt rs (some 0) 2) 1) 1) 4) 4))).setCell ⟨g2, 5, none⟩ (.int .i32 (IntKind.i32.wrap (numAt rs (nextAt rs (nextAt rs (nextAt rs (nextAt rs (nextAt rs (some 0) 2) 1) 1) 4) 4) 4)))).setCell ⟨g2, 6, none⟩ (.int .u16 (numAt rs (nextAt rs (nextAt rs (nextAt rs (nextAt rs (nextAt rs (nextAt rs (some 0) 2) 1) 1) 4) 4) 4) 2))).setCell ⟨g2, 7, none⟩ (.int .u16 (numAt rs (nextAt rs (nextAt rs (nextAt rs (nextAt rs (nextAt rs (nextAt rs (nextAt rs (some 0) 2) 1) 1) 4) 4) 4) 2) 2))) := ⟨_, rfl⟩
  have zd0 : wz.cell? ⟨g2, 0, none⟩ = some (.int .u16 (numAt rs (some 0) 2)) := by rw [hwz]; simp [zc0, go_sem]
  have zd1 : wz.cell? ⟨g2, 1, none⟩ = some (.int .u8 (numAt rs (nextAt rs (some 0) 2) 1)) := by rw [hwz]; simp [zc1, go_sem]
  have zd2 : wz.cell? ⟨g2, 2, none⟩ = some (.int .u8 (numAt rs (nextAt rs (nextAt rs (some 0) 2) 1) 1)) := by rw [hwz]; simp [zc2, go_sem]
  have zd3 : wz.cell? ⟨g2, 3, none⟩ = some (.int .u32 (numAt rs (nextAt rs (nextAt rs (nextAt rs (some 0) 2) 1) 1) 4)) := by rw [hwz]; simp [zc3, go_sem]
  have zd4 : wz.cell? ⟨g2, 4, none⟩ = some (.int .u32 (numAt rs (nextAt rs (nextAt rs (nextAt rs (nextAt rs (some 0) 2) 1) 1) 4) 4)) := by rw [hwz]; simp [zc4, go_sem]
  have zd5 : wz.cell? ⟨g2, 5, none⟩ = some (.int .i32 (IntKind.i32.wrap (numAt rs (nextAt rs (nextAt rs (nextAt rs (nextAt rs (nextAt rs (some 0) 2) 1) 1) 4) 4) 4))) := by rw [hwz]; simp [zc5, go_sem]
  have zd6 : wz.cell? ⟨g2, 6, none⟩ = some (.int .u16 (numAt rs (nextAt rs (nextAt rs (nextAt rs (nextAt rs (nextAt rs (nextAt rs (some 0) 2) 1) 1) 4) 4) 4) 2)) := by rw [hwz]; simp [zc6, go_sem]
  have zd7 : wz.cell? ⟨g2, 7, none⟩ = some (.int .u16 (numAt rs (nextAt rs (nextAt rs (nextAt rs (nextAt rs (nextAt rs (nextAt rs (nextAt rs (some 0) 2) 1) 1) 4) 4) 4) 2) 2)) := by rw [hwz]; simp [zc7, go_sem]
  have HUz : Hid (Touch (fun k => k = g2) wx wz) := by show Touch _ _ _; rw [hwz]; refine Touch.setCell (F := fun k => k = g2) (p := ⟨g2, 7, none⟩) ?_ (Or.inl rfl) _; refine Touch.setCell (F := fun k => k = g2) (p := ⟨g2, 6, none⟩) ?_ (Or.inl rfl) _; refine Touch.setCell (F := fun k => k = g2) (p := ⟨g2, 5, none⟩) ?_ (Or.inl rfl) _; refine Touch.setCell (F := fun k => k = g2) (p := ⟨g2, 4, none⟩) ?_ (Or.inl rfl) _; refine Touch.setCell (F := fun k => k = g2) (p := ⟨g2, 3, none⟩) ?_ (Or.inl rfl) _; refine Touch.setCell (F := fun k => k = g2) (p := ⟨g2, 2, none⟩) ?_ (Or.inl rfl) _; refine Touch.setCell (F := fun k => k = g2) (p := ⟨g2, 1, none⟩) ?_ (Or.inl rfl) _; refine Touch.setCell (F := fun k => k = g2) (p := ⟨g2, 0, none⟩) ?_ (Or.inl rfl) _; exact Touch.refl _ _
  rw [← hwz]
  clear hwz zc0 zf0 zc1 zf1 zc2 zf2 zc3 zf3 zc4 zf4 zc5 zf5 zc6 zf6 zc7 zf7 hx
  go_wp2_with fail
  refine bodyPost_ret (v := .agg #[.int .u16 (numAt rs (some 0) 2), .int .u8 (numAt rs (nextAt rs (some 0) 2) 1), .int .u8 (numAt rs (nextAt rs (nextAt rs (some 0) 2) 1) 1), .int .u32 (numAt rs (nextAt rs (nextAt rs (nextAt rs (some 0) 2) 1) 1) 4), .int .u32 (numAt rs (nextAt rs (nextAt rs (nextAt rs (nextAt rs (some 0) 2) 1) 1) 4) 4), .int .i32 (IntKind.i32.wrap (numAt rs (nextAt rs (nextAt rs (nextAt rs (nextAt rs (nextAt rs (some 0) 2) 1) 1) 4) 4) 4)), .int .u16 (numAt rs (nextAt rs (nextAt rs (nextAt rs (nextAt rs (nextAt rs (nextAt rs (some 0) 2) 1) 1) 4) 4) 4) 2), .int .u16 (numAt rs (nextAt rs (nextAt rs (nextAt rs (nextAt rs (nextAt rs (nextAt rs (nextAt rs (some 0) 2) 1) 1) 4) 4) 4) 2) 2)]) (by simp [results, Tryz.results123, go_sem, zd0, zd1, zd2, zd3, zd4, zd5, zd6, zd7]) rfl ?_
  refine ⟨rfl, HX.out.touch HUz.out (fun k hk e => by have := HG2.out; have := HN.out; omega), ?_⟩
  exact (T1.out.trans HTX.out).trans' HUz.out (fun i hi e => by have := HG1.out; have := HG2.out; omega)
end Go.Proofs.YtfhkocpnealblaaGreat

namespace Go.Proofs.YtfhkocpnealblaaGreat
open Go.RowKit
set_option linter.unusedVariables false
set_option maxRecDepth 100000

theorem rdHead_headB (h : HV) (ok : h.All) : rdHead (headB h) = h := by
  obtain ⟨a, o, t, i, v, s, m, l⟩ := h
  obtain ⟨⟨a0, a1⟩, ⟨o0, o1⟩, ⟨t0, t1⟩, ⟨i0, i1⟩, ⟨v0, v1⟩, ⟨s0, s1⟩, ⟨m0, m1⟩, ⟨l0, l1⟩⟩ := ok
  dsimp only at *
  simp only [headB, numBytes2, numBytes4, List.cons_append, List.nil_append]
  unfold rdHead
  simp [numAt, nextAt, numOf, IntKind.wrap, IntKind.bits, IntKind.signed]
  refine ⟨by omega, by omega, by omega, by omega, by omega, by omega⟩
theorem take_headB (h : HV) (r : List Int) : (headB h ++ r).take 20 = headB h := by
  rw [List.take_append_of_le_length (by rw [length_headB]; omega), List.take_of_length_le (by rw [length_headB]; omega)]
theorem drop_headB (h : HV) (r : List Int) : (headB h ++ r).drop 20 = r := by
  rw [List.drop_append_of_le_length (by rw [length_headB]; omega), List.drop_eq_nil_of_le (by rw [length_headB]; omega), List.nil_append]

/-- A state: its head, its body's row and bytes. -/
structure SE where
  h : HV
  v : Value
  rs : List Int
def SE.b (x : SE) : List Int := headB x.h ++ x.rs
def SE.size (x : SE) : Nat := 20 + x.rs.length
def rowB (l : List SE) : List Int := l.flatMap SE.b
def rowN (l : List SE) : Nat := (l.map SE.size).sum
theorem length_rowB (l : List SE) : (rowB l).length = rowN l := by
  induction l with
  | nil => rfl
  | cons x r ih => unfold rowB rowN at *; rw [List.flatMap_cons, List.length_append, ih, List.map_cons, List.sum_cons]; simp [SE.b, SE.size, length_headB]
theorem rowN_snoc (l : List SE) (x : SE) : rowN (l ++ [x]) = rowN l + x.size := by simp [rowN]
theorem rowB_snoc (l : List SE) (x : SE) : rowB (l ++ [x]) = rowB l ++ x.b := by simp [rowB]
def SE.cells (x : SE) : List Value := [.int .u16 x.h.age, .int .u8 x.h.opts, .int .u8 x.h.typ, .int .u32 x.h.id, .int .u32 x.h.adv, .int .i32 x.h.seq, .int .u16 x.h.sum, .int .u16 x.h.len, x.v]
def statesC (l : List SE) : List Value := l.flatMap SE.cells
theorem length_statesC (l : List SE) : (statesC l).length = l.length * 9 := by
  induction l with
  | nil => rfl
  | cons x r ih => unfold statesC at *; rw [List.flatMap_cons, List.length_append, ih, List.length_cons]; simp [SE.cells]; omega
theorem statesC_at (l : List SE) (j i : Nat) (x : SE) (hj : l[j]? = some x) (hi : i < 9) : (statesC l)[j * 9 + i]? = x.cells[i]? := by
  induction l generalizing j with
  | nil => simp at hj
  | cons y r ih =>
    have e : statesC (y :: r) = y.cells ++ statesC r := by simp [statesC]
    have hl : y.cells.length = 9 := rfl
    rw [e]
    cases j with
    | zero =>
      obtain rfl : y = x := by simpa using hj
      rw [List.getElem?_append_left (by omega), Nat.zero_mul, Nat.zero_add]
    | succ j =>
      rw [List.getElem?_append_right (by omega), hl, show (j + 1) * 9 + i - 9 = j * 9 + i by omega]
      exact ih j (by simpa using hj)
structure SE.Ok (w : World) (x : SE) : Prop where
  all : x.h.All
  arg : ArgAt w x.v x.rs
  byte : ∀ z ∈ x.rs, 0 ≤ z ∧ z < 256
/-- A row of states that came in. -/
structure StatesAt (w : World) (v : Value) (l : List SE) : Prop where
  vals : ValsAt w 9 v l.length (statesC l)
  ok : ∀ x ∈ l, x.Ok w
theorem SE.Ok.keep {w w' : World} {x : SE} (h : x.Ok w) (t : Touch (fun _ => False) w w') : x.Ok w' := ⟨h.all, h.arg.keepN t, h.byte⟩
theorem StatesAt.keep {w w' : World} {v : Value} {l : List SE} (h : StatesAt w v l) (t : Touch (fun _ => False) w w') : StatesAt w' v l := ⟨h.vals.keep t, fun x hx => (h.ok x hx).keep t⟩
/-- One of them. -/
theorem StatesAt.one {w : World} {v : Value} {l : List SE} (h : StatesAt w v l) {j : Nat} {x : SE} (hj : l[j]? = some x) : x.Ok w ∧ ∃ g off c, v = .slice (some ⟨g, off, none⟩) l.length c ∧ ∀ i u, x.cells[i]? = some u → w.cell? ⟨g, off + (j * 9 + i), none⟩ = some u := by
  have hlt := (List.getElem?_eq_some_iff.mp hj).1
  obtain ⟨g, off, c, e, _, _, hc⟩ := h.vals.cells (by omega) (by omega)
  refine ⟨h.ok x (List.mem_of_getElem? hj), g, off, c, e, fun i u hu => hc _ _ ?_⟩
  have hi : i < 9 := (List.getElem?_eq_some_iff.mp hu).1
  rw [statesC_at l j i x hj hi]
  exact hu
end Go.Proofs.YtfhkocpnealblaaGreat
