/- Contracts: the reader's head. -/
import Derived.Test.YtjgeklipeeooaaaGreatDoorStRd2
import Derived.Deep.RegionHeld3
import Derived.Test.YtjgeklipeeooaaaGreatDoorStaOut
import Derived.Deep.RegionHeld2
import Derived.Deep.DeepCutAuto
namespace Go.Proofs.YtjgeklipeeooaaaGreatDoor
open Go.RowKit
set_option linter.unusedVariables false
set_option maxRecDepth 100000

def R8 (w : World) (g : Nat) (u0 u1 u2 u3 u4 u5 u6 u7 : Value) : Prop := w.cell? ⟨g, 0, none⟩ = some u0 ∧ w.frozen? ⟨g, 0, none⟩ = false ∧ w.cell? ⟨g, 1, none⟩ = some u1 ∧ w.frozen? ⟨g, 1, none⟩ = false ∧ w.cell? ⟨g, 2, none⟩ = some u2 ∧ w.frozen? ⟨g, 2, none⟩ = false ∧ w.cell? ⟨g, 3, none⟩ = some u3 ∧ w.frozen? ⟨g, 3, none⟩ = false ∧ w.cell? ⟨g, 4, none⟩ = some u4 ∧ w.frozen? ⟨g, 4, none⟩ = false ∧ w.cell? ⟨g, 5, none⟩ = some u5 ∧ w.frozen? ⟨g, 5, none⟩ = false ∧ w.cell? ⟨g, 6, none⟩ = some u6 ∧ w.frozen? ⟨g, 6, none⟩ = false ∧ w.cell? ⟨g, 7, none⟩ = some u7 ∧ w.frozen? ⟨g, 7, none⟩ = false
theorem R8.touch {F : Nat → Prop} {w w' : World} {g : Nat} {u0 u1 u2 u3 u4 u5 u6 u7 : Value} (h : R8 w g u0 u1 u2 u3 u4 u5 u6 u7) (t : Touch F w w') (hF : ¬ F g) : R8 w' g u0 u1 u2 u3 u4 u5 u6 u7 := by
  have hl : g < w.heap.size := lt_of_cell h.1
  have c : ∀ i v, w.cell? ⟨g, i, none⟩ = some v → w'.cell? ⟨g, i, none⟩ = some v := fun i v e => (t.cell (p := ⟨g, i, none⟩) hl hF).trans e
  have f : ∀ i, w.frozen? ⟨g, i, none⟩ = false → w'.frozen? ⟨g, i, none⟩ = false := fun i e => (t.frozen (p := ⟨g, i, none⟩) hl hF).trans e
  obtain ⟨zc0, zf0, zc1, zf1, zc2, zf2, zc3, zf3, zc4, zf4, zc5, zf5, zc6, zf6, zc7, zf7⟩ := h
  exact ⟨c 0 _ zc0, f 0 zf0, c 1 _ zc1, f 1 zf1, c 2 _ zc2, f 2 zf2, c 3 _ zc3, f 3 zf3, c 4 _ zc4, f 4 zf4, c 5 _ zc5, f 5 zf5, c 6 _ zc6, f 6 zf6, c 7 _ zc7, f 7 zf7⟩
theorem next_all (rs : List Int) : ∀ (ns : List Nat) (p : Nat), ns.foldl (nextAt rs) (some p) = if p + ns.sum ≤ rs.length then some (p + ns.sum) else (if ns = [] then some p else none)
  | [], p => by simp
  | n :: r, p => by
    have hn : ∀ m : List Nat, m.foldl (nextAt rs) none = none := fun m => by induction m with | nil => rfl | cons a r ih => simpa [nextAt] using ih
    have hs : (n :: r).sum = n + r.sum := List.sum_cons
    generalize (n :: r).sum = S at hs ⊢
    rw [List.foldl_cons]
    by_cases h : p + n ≤ rs.length
    · rw [show nextAt rs (some p) n = some (p + n) by simp [nextAt, h], next_all rs r (p + n)]
      by_cases h2 : p + n + r.sum ≤ rs.length
      · have h3 : p + S ≤ rs.length := by omega
        rw [if_pos h2, if_pos h3]; congr 1; omega
      · have h3 : ¬ p + S ≤ rs.length := by omega
        have hr : r ≠ [] := fun e => by subst e; simp at h2; omega
        rw [if_neg h2, if_neg h3, if_neg hr, if_neg (by simp)]
    · have h3 : ¬ p + S ≤ rs.length := by omega
      rw [show nextAt rs (some p) n = none by simp [nextAt, h], hn, if_neg h3, if_neg (by simp)]
/-- A head out of bytes. -/
def rdHead (rs : List Int) : HV := ⟨numAt rs (some 0) 2, numAt rs (nextAt rs (some 0) 2) 1, numAt rs (nextAt rs (nextAt rs (some 0) 2) 1) 1, numAt rs (nextAt rs (nextAt rs (nextAt rs (some 0) 2) 1) 1) 4, numAt rs (nextAt rs (nextAt rs (nextAt rs (nextAt rs (some 0) 2) 1) 1) 4) 4, IntKind.i32.wrap (numAt rs (nextAt rs (nextAt rs (nextAt rs (nextAt rs (nextAt rs (some 0) 2) 1) 1) 4) 4) 4), numAt rs (nextAt rs (nextAt rs (nextAt rs (nextAt rs (nextAt rs (nextAt rs (some 0) 2) 1) 1) 4) 4) 4) 2, numAt rs (nextAt rs (nextAt rs (nextAt rs (nextAt rs (nextAt rs (nextAt rs (nextAt rs (some 0) 2) 1) 1) 4) 4) 4) 2) 2⟩
theorem rd_last (rs : List Int) : (nextAt rs (nextAt rs (nextAt rs (nextAt rs (nextAt rs (nextAt rs (nextAt rs (nextAt rs (some 0) 2) 1) 1) 4) 4) 4) 2) 2) = if 20 ≤ rs.length then some 20 else none := next_all rs [2, 1, 1, 4, 4, 4, 2, 2] 0

set_option maxHeartbeats 2000000 in
theorem rhead_any (N b : Nat) (rs : List Int) (w : World) (h : Rdr N w b rs (some 0)) (hN : N ≤ w.heap.size) :
    Calls Tryz.prog 197 #[.agg #[.pointer (some ⟨b, 0, none⟩)]] w fun e w' => e = .returned (rdHead rs).v ∧ Rdr N w' b rs (if 20 ≤ rs.length then some 20 else none) ∧ Touch (fun k => k = b) w w' := by
  have hb2 : ∀ q, IntKind.u16.wrap (numAt rs q 2) = numAt rs q 2 := fun q => by have := numAt_bound h.byte q 2; simp [IntKind.wrap, IntKind.bits, IntKind.signed]; omega
  have hb1 : ∀ q, IntKind.u8.wrap (numAt rs q 1) = numAt rs q 1 := fun q => by have := numAt_bound h.byte q 1; simp [IntKind.wrap, IntKind.bits, IntKind.signed]; omega
  have hlow := h.low
  rw [← rd_last rs]
  go_enter Tryz.func197, Tryz.ntmps197
  go_upto_region 1 with fail
  have T1 : Hid (Touch (fun k => k = b) w ((w.alloc (.cells #[.pointer (some ⟨b, 0, none⟩)] 267)).alloc (.cells #[.int .u16 0, .int .u8 0, .int .u8 0, .int .u32 0, .int .u32 0, .int .i32 0, .int .u16 0, .int .u16 0] 93))) := ((Touch.refl _ w).alloc _).alloc _
  have h1 : Rdr N ((w.alloc (.cells #[.pointer (some ⟨b, 0, none⟩)] 267)).alloc (.cells #[.int .u16 0, .int .u8 0, .int .u8 0, .int .u32 0, .int .u32 0, .int .i32 0, .int .u16 0, .int .u16 0] 93)).drew b rs (some 0) := h.keep ((((Touch.refl _ w).alloc _).alloc _).drew)
  have y0 : ((w.alloc (.cells #[.pointer (some ⟨b, 0, none⟩)] 267)).alloc (.cells #[.int .u16 0, .int .u8 0, .int .u8 0, .int .u32 0, .int .u32 0, .int .i32 0, .int .u16 0, .int .u16 0] 93)).drew.cell? ⟨w.heap.size, 0, none⟩ = some (.pointer (some ⟨b, 0, none⟩)) := by simp [go_sem]
  have HR0 : Hid (R8 ((w.alloc (.cells #[.pointer (some ⟨b, 0, none⟩)] 267)).alloc (.cells #[.int .u16 0, .int .u8 0, .int .u8 0, .int .u32 0, .int .u32 0, .int .i32 0, .int .u16 0, .int .u16 0] 93)).drew (w.heap.size + 1) (.int .u16 0) (.int .u8 0) (.int .u8 0) (.int .u32 0) (.int .u32 0) (.int .i32 0) (.int .u16 0) (.int .u16 0)) := by show R8 _ _ _ _ _ _ _ _ _ _; unfold R8; simp [go_sem]
  have hn1 : Hid (¬ w.heap.size = b) := by show ¬ _; omega
  have hn2 : Hid (¬ w.heap.size + 1 = b) := by show ¬ _; omega
  have hne : ¬ w.heap.size = w.heap.size + 1 := by omega
  have hne' : ¬ w.heap.size + 1 = w.heap.size := by omega
  have HS : Hid (w.heap.size < ((w.alloc (.cells #[.pointer (some ⟨b, 0, none⟩)] 267)).alloc (.cells #[.int .u16 0, .int .u8 0, .int .u8 0, .int .u32 0, .int .u32 0, .int .i32 0, .int .u16 0, .int .u16 0] 93)).heap.size) := by show _ < _; simp; omega
  have HN : Hid (N ≤ w.heap.size) := hN
  generalize hg2 : w.heap.size + 1 = g2 at *
  generalize (w.alloc (.cells #[.pointer (some ⟨b, 0, none⟩)] 267)).alloc (.cells #[.int .u16 0, .int .u8 0, .int .u8 0, .int .u32 0, .int .u32 0, .int .i32 0, .int .u16 0, .int .u16 0] 93) = w1 at *
  clear h hN hlow
  generalize hg1 : w.heap.size = g1 at *
  have HG1 : Hid (w.heap.size = g1) := hg1
  have HG2 : Hid (g1 + 1 = g2) := hg2
  clear hg1 hg2
  have hl1 : Hid (g1 < w1.heap.size) := HS
  have HT0 : Hid (Touch (fun k => k = b) w1 w1.drew) := (Touch.refl _ _).drew
  obtain ⟨zc0, zf0, zc1, zf1, zc2, zf2, zc3, zf3, zc4, zf4, zc5, zf5, zc6, zf6, zc7, zf7⟩ := HR0.out
  go_region_held3 (fun w' => w'.cell? ⟨g1, 0, none⟩ = some (.pointer (some ⟨b, 0, none⟩))) (go_keep) (first
    | (go_at_call 117; refine Calls.mono (rnum_i N b _ (by omega) rs _ _ (by assumption)) ?_; rintro e wx ⟨rfl, hx, tx⟩; have y0 := (tx.cell (p := ⟨g1, 0, none⟩) (Nat.lt_of_lt_of_le hl1.out (Touch.size (Hid.out (by assumption : Hid (Touch (fun k => k = b) w1 _))))) hn1.out).trans (by assumption : World.cell? _ ⟨g1, 0, none⟩ = some (.pointer (some ⟨b, 0, none⟩))); have HRX : Hid (R8 wx g2 (.int .u16 0) (.int .u8 0) (.int .u8 0) (.int .u32 0) (.int .u32 0) (.int .i32 0) (.int .u16 0) (.int .u16 0)) := (Hid.out (by assumption : Hid (R8 _ g2 (.int .u16 0) (.int .u8 0) (.int .u8 0) (.int .u32 0) (.int .u32 0) (.int .i32 0) (.int .u16 0) (.int .u16 0)))).touch tx hn2.out; clear zc0 zf0 zc1 zf1 zc2 zf2 zc3 zf3 zc4 zf4 zc5 zf5 zc6 zf6 zc7 zf7; obtain ⟨zc0, zf0, zc1, zf1, zc2, zf2, zc3, zf3, zc4, zf4, zc5, zf5, zc6, zf6, zc7, zf7⟩ := HRX.out; have HTX : Hid (Touch (fun k => k = b) w1 wx) := Touch.trans (Hid.out (by assumption)) tx; clear tx))
  have HX : Hid (Rdr N wx b rs ((nextAt rs (nextAt rs (nextAt rs (nextAt rs (nextAt rs (nextAt rs (nextAt rs (nextAt rs (some 0) 2) 1) 1) 4) 4) 4) 2) 2))) := hx
  obtain ⟨wz, hwz⟩ : ∃ wz, wz = ((((((((wx.setCell ⟨g2, 0, none⟩ (.int .u16 (numAt rs (some 0) 2))).setCell ⟨g2, 1, none⟩ (.int .u8 (numAt rs (nextAt rs (some 0) 2) 1))).setCell ⟨g2, 2, none⟩ (.int .u8 (numAt rs (nextAt rs (nextAt rs (some 0) 2) 1) 1))).setCell ⟨g2, 3, none⟩ (.int .u32 (numAt rs (nextAt rs (nextAt rs (nextAt rs (some 0) 2) 1) 1) 4))).setCell ⟨g2, 4, none⟩ (.int .u32 (numAt rs (nextAt rs (nextAt rs (nextAt rs (nextAt rs (some 0) 2) 1) 1) 4) 4))).setCell ⟨g2, 5, none⟩ (.int .i32 (IntKind.i32.wrap (numAt rs (nextAt rs (nextAt rs (nextAt rs (nextAt rs (nextAt rs (some 0) 2) 1) 1) 4) 4) 4)))).setCell ⟨g2, 6, none⟩ (.int .u16 (numAt rs (nextAt rs (nextAt rs (nextAt rs (nextAt rs (nextAt rs (nextAt rs (some 0) 2) 1) 1) 4) 4) 4) 2))).setCell ⟨g2, 7, none⟩ (.int .u16 (numAt rs (nextAt rs (nextAt rs (nextAt rs (nextAt rs (nextAt rs (nextAt rs (nextAt rs (some 0) 2) 1) 1) 4) 4) 4) 2) 2))) := ⟨_, rfl⟩
  have zd0 : wz.cell? ⟨g2, 0, none⟩ = some (.int .u16 (numAt rs (some 0) 2)) := by rw [hwz]; simp [zc0, go_sem]
  have zd1 : wz.cell? ⟨g2, 1, none⟩ = some (.int .u8 (numAt rs (nextAt rs (some 0) 2) 1)) := by rw [hwz]; simp [zc1, go_sem]
  have zd2 : wz.cell? ⟨g2, 2, none⟩ = some (.int .u8 (numAt rs (nextAt rs (nextAt rs (some 0) 2) 1) 1)) := by rw [hwz]; simp [zc2, go_sem]
  have zd3 : wz.cell? ⟨g2, 3, none⟩ = some (.int .u32 (numAt rs (nextAt rs (nextAt rs (nextAt rs (some 0) 2) 1) 1) 4)) := by rw [hwz]; simp [zc3, go_sem]
  have zd4 : wz.cell? ⟨g2, 4, none⟩ = some (.int .u32 (numAt rs (nextAt rs (nextAt rs (nextAt rs (nextAt rs (some 0) 2) 1) 1) 4) 4)) := by rw [hwz]; simp [zc4, go_sem]
  have zd5 : wz.cell? ⟨g2, 5, none⟩ = some (.int .i32 (IntKind.i32.wrap (numAt rs (nextAt rs (nextAt rs (nextAt rs (nextAt rs (nextAt rs (some 0) 2) 1) 1) 4) 4) 4))) := by rw [hwz]; simp [zc5, go_sem]
  have zd6 : wz.cell? ⟨g2, 6, none⟩ = some (.int .u16 (numAt rs (nextAt rs (nextAt rs (nextAt rs (nextAt rs (nextAt rs (nextAt rs (some 0) 2) 1) 1) 4) 4) 4) 2)) := by rw [hwz]; simp [zc6, go_sem]
  have zd7 : wz.cell? ⟨g2, 7, none⟩ = some (.int .u16 (numAt rs (nextAt rs (nextAt rs (nextAt rs (nextAt rs (nextAt rs (nextAt rs (nextAt rs (some 0) 2) 1) 1) 4) 4) 4) 2) 2)) := by rw [hwz]; simp [zc7, go_sem]
  have HUz : Hid (Touch (fun k => k = g2) wx wz) := by show Touch _ _ _; rw [hwz]; refine Touch.setCell (F := fun k => k = g2) (p := ⟨g2, 7, none⟩) ?_ (Or.inl rfl) _; refine Touch.setCell (F := fun k => k = g2) (p := ⟨g2, 6, none⟩) ?_ (Or.inl rfl) _; refine Touch.setCell (F := fun k => k = g2) (p := ⟨g2, 5, none⟩) ?_ (Or.inl rfl) _; refine Touch.setCell (F := fun k => k = g2) (p := ⟨g2, 4, none⟩) ?_ (Or.inl rfl) _; refine Touch.setCell (F := fun k => k = g2) (p := ⟨g2, 3, none⟩) ?_ (Or.inl rfl) _; refine Touch.setCell (F := fun k => k = g2) (p := ⟨g2, 2, none⟩) ?_ (Or.inl rfl) _; refine Touch.setCell (F := fun k => k = g2) (p := ⟨g2, 1, none⟩) ?_ (Or.inl rfl) _; refine Touch.setCell (F := fun k => k = g2) (p := ⟨g2, 0, none⟩) ?_ (Or.inl rfl) _; exact Touch.refl _ _
  rw [← hwz]
  clear hwz zc0 zf0 zc1 zf1 zc2 zf2 zc3 zf3 zc4 zf4 zc5 zf5 zc6 zf6 zc7 zf7 hx
  go_wp2_with fail
  refine bodyPost_ret (v := .agg #[.int .u16 (numAt rs (some 0) 2), .int .u8 (numAt rs (nextAt rs (some 0) 2) 1), .int .u8 (numAt rs (nextAt rs (nextAt rs (some 0) 2) 1) 1), .int .u32 (numAt rs (nextAt rs (nextAt rs (nextAt rs (some 0) 2) 1) 1) 4), .int .u32 (numAt rs (nextAt rs (nextAt rs (nextAt rs (nextAt rs (some 0) 2) 1) 1) 4) 4), .int .i32 (IntKind.i32.wrap (numAt rs (nextAt rs (nextAt rs (nextAt rs (nextAt rs (nextAt rs (some 0) 2) 1) 1) 4) 4) 4)), .int .u16 (numAt rs (nextAt rs (nextAt rs (nextAt rs (nextAt rs (nextAt rs (nextAt rs (some 0) 2) 1) 1) 4) 4) 4) 2), .int .u16 (numAt rs (nextAt rs (nextAt rs (nextAt rs (nextAt rs (nextAt rs (nextAt rs (nextAt rs (some 0) 2) 1) 1) 4) 4) 4) 2) 2)]) (by simp [results, Tryz.results197, go_sem, zd0, zd1, zd2, zd3, zd4, zd5, zd6, zd7]) rfl ?_
  refine ⟨rfl, HX.out.touch HUz.out (fun k hk e => by have := HG2.out; have := HN.out; omega), ?_⟩
  exact (T1.out.trans HTX.out).trans' HUz.out (fun i hi e => by have := HG1.out; have := HG2.out; omega)
end Go.Proofs.YtjgeklipeeooaaaGreatDoor

namespace Go.Proofs.YtjgeklipeeooaaaGreatDoor
open Go.RowKit
set_option linter.unusedVariables false
set_option maxRecDepth 100000

theorem rdHead_headB (h : HV) (ok : h.All) : rdHead (headB h) = h := by
  obtain ⟨a, o, t, i, v, s, m, l⟩ := h
  obtain ⟨⟨a0, a1⟩, ⟨o0, o1⟩, ⟨t0, t1⟩, ⟨i0, i1⟩, ⟨v0, v1⟩, ⟨s0, s1⟩, ⟨m0, m1⟩, ⟨l0, l1⟩⟩ := ok
  dsimp only at *
  simp only [headB, numBytes2, numBytes4, List.cons_append, List.nil_append]
  unfold rdHead
  simp [numAt, nextAt, numOf, IntKind.wrap, IntKind.bits, IntKind.signed]
  refine ⟨by omega, by omega, by omega, by omega, by omega, by omega⟩
theorem take_headB (h : HV) (r : List Int) : (headB h ++ r).take 20 = headB h := by
  rw [List.take_append_of_le_length (by rw [length_headB]; omega), List.take_of_length_le (by rw [length_headB]; omega)]
theorem drop_headB (h : HV) (r : List Int) : (headB h ++ r).drop 20 = r := by
  rw [List.drop_append_of_le_length (by rw [length_headB]; omega), List.drop_eq_nil_of_le (by rw [length_headB]; omega), List.nil_append]

/-- A state: its head, its body's row and bytes. -/
structure SE where
  h : HV
  v : Value
  rs : List Int
def SE.b (x : SE) : List Int := headB x.h ++ x.rs
def SE.size (x : SE) : Nat := 20 + x.rs.length
def SE.cells (x : SE) : List Value := [.int .u16 x.h.age, .int .u8 x.h.opts, .int .u8 x.h.typ, .int .u32 x.h.id, .int .u32 x.h.adv, .int .i32 x.h.seq, .int .u16 x.h.sum, .int .u16 x.h.len, x.v]
def statesC (l : List SE) : List Value := l.flatMap SE.cells
theorem length_statesC (l : List SE) : (statesC l).length = l.length * 9 := by
  induction l with
  | nil => rfl
  | cons x r ih => unfold statesC at *; rw [List.flatMap_cons, List.length_append, ih, List.length_cons]; simp [SE.cells]; omega
theorem statesC_at (l : List SE) (j i : Nat) (x : SE) (hj : l[j]? = some x) (hi : i < 9) : (statesC l)[j * 9 + i]? = x.cells[i]? := by
  induction l generalizing j with
  | nil => simp at hj
  | cons y r ih =>
    have e : statesC (y :: r) = y.cells ++ statesC r := by simp [statesC]
    have hl : y.cells.length = 9 := rfl
    rw [e]
    cases j with
    | zero =>
      obtain rfl : y = x := by simpa using hj
      rw [List.getElem?_append_left (by omega), Nat.zero_mul, Nat.zero_add]
    | succ j =>
      rw [List.getElem?_append_right (by omega), hl, show (j + 1) * 9 + i - 9 = j * 9 + i by omega]
      exact ih j (by simpa using hj)
structure SE.Ok (w : World) (x : SE) : Prop where
  all : x.h.All
  arg : ArgAt w x.v x.rs
  byte : ∀ z ∈ x.rs, 0 ≤ z ∧ z < 256
/-- A row of states that came in. -/
structure StatesAt (w : World) (v : Value) (l : List SE) : Prop where
  vals : ValsAt w 9 v l.length (statesC l)
  ok : ∀ x ∈ l, x.Ok w
theorem SE.Ok.keep {w w' : World} {x : SE} (h : x.Ok w) (t : Touch (fun _ => False) w w') : x.Ok w' := ⟨h.all, h.arg.keepN t, h.byte⟩
theorem StatesAt.keep {w w' : World} {v : Value} {l : List SE} (h : StatesAt w v l) (t : Touch (fun _ => False) w w') : StatesAt w' v l := ⟨h.vals.keep t, fun x hx => (h.ok x hx).keep t⟩
/-- One of them. -/
theorem StatesAt.one {w : World} {v : Value} {l : List SE} (h : StatesAt w v l) {j : Nat} {x : SE} (hj : l[j]? = some x) : x.Ok w ∧ ∃ g off c, v = .slice (some ⟨g, off, none⟩) l.length c ∧ ∀ i u, x.cells[i]? = some u → w.cell? ⟨g, off + (j * 9 + i), none⟩ = some u := by
  have hlt := (List.getElem?_eq_some_iff.mp hj).1
  obtain ⟨g, off, c, e, _, _, hc⟩ := h.vals.cells (by omega) (by omega)
  refine ⟨h.ok x (List.mem_of_getElem? hj), g, off, c, e, fun i u hu => hc _ _ ?_⟩
  have hi : i < 9 := (List.getElem?_eq_some_iff.mp hu).1
  rw [statesC_at l j i x hj hi]
  exact hu
end Go.Proofs.YtjgeklipeeooaaaGreatDoor

namespace Go.Proofs.YtjgeklipeeooaaaGreatDoor
open Go.RowKit
set_option linter.unusedVariables false
set_option maxRecDepth 100000

def stB (x : SE) : List Int := headB x.h ++ x.rs
def stsB (l : List SE) : List Int := l.flatMap stB
theorem stsB_snoc (l : List SE) (x : SE) : stsB (l ++ [x]) = stsB l ++ stB x := by simp [stsB]
theorem stsB_parts (l : List SE) (k : Nat) (x : SE) (hx : l[k]? = some x) : (stsB (l.take k)).length + (stB x).length ≤ (stsB l).length := by
  have h : stsB l = stsB (l.take (k + 1)) ++ stsB (l.drop (k + 1)) := by
    unfold stsB
    rw [← List.flatMap_append, List.take_append_drop]
  rw [h, List.take_add_one, hx, show (some x).toList = [x] from rfl, stsB_snoc, List.length_append, List.length_append]
  omega
structure UpR (Y : Nat → Prop) (wa : World) (b : Nat) (L : List Int) (ks : List SE) (k : Nat) (i : Value) (wx : World) : Prop where
  out : ∃ j : Nat, j ≤ ks.length ∧ k = ks.length - j ∧ i = .int .i64 (j : Int) ∧ WL Y wa wx b (L ++ stsB (ks.take j)) 65535

set_option maxHeartbeats 4000000 in
theorem pwupd_any (X : Nat → Prop) (b : Nat) (L : List Int) (P : PV) (ok : P.Ok) (vn vd vk vs vh : Value) (w : World) (hw : Wr X w b L 65535) (hL : L.length ≤ 24) (ks : List SE) (hv : ∀ w', Kept X w w' → StatesAt w' vs ks) (hn : ks.length ≤ 1000000) (hr : ∀ x ∈ ks, x.rs.length ≤ 1000000) :
    Calls Tryz.prog 129 #[.agg #[.pointer (some ⟨b, 0, none⟩)], P.v vn vd vk vs vh] w fun e w' => PW X w b L (numBytes 4 (ks.length : Int) ++ stsB ks) e w' := by
  obtain ⟨da, dc, rfl, hmx⟩ := ValsAt.form (hv w (Kept.refl _ _)).vals
  obtain ⟨wa, hwa⟩ : ∃ wa, wa = (w.alloc (.cells #[.pointer (some ⟨b, 0, none⟩)] 137)).alloc (.cells #[.int .u8 P.typ, .int .u32 P.router, .int .u32 P.area, .int .u32 P.mask, .int .u16 P.iv, .int .u8 P.opts, .int .u8 P.prio, .int .u32 P.dead, .int .u32 P.dr, .int .u32 P.bdr, vn, .int .u16 P.mtu, .int .u8 P.dopts, .int .u8 P.dflags, .int .u32 P.dseq, vd, vk, (.slice da ks.length dc), vh] 33) := ⟨_, rfl⟩
  have ta : Touch (fun _ => False) w wa := by rw [hwa]; exact ((Touch.refl _ w).alloc _).alloc _
  have za : wa.heap.size = w.heap.size + 2 := by rw [hwa]; simp
  have ca : wa.cell? ⟨w.heap.size, 0, none⟩ = some (.pointer (some ⟨b, 0, none⟩)) := by rw [hwa]; simp [go_sem]
  have pa : Pd wa (w.heap.size + 1) P vn vd vk (.slice da ks.length dc) vh := by
    have := Pd.new (w.alloc (.cells #[.pointer (some ⟨b, 0, none⟩)] 137)) P vn vd vk (.slice da ks.length dc) vh 33
    rw [← hwa] at this
    simpa using this
  obtain ⟨Y, hY⟩ : ∃ Y : Nat → Prop, Y = fun k => X k ∨ (w.heap.size ≤ k ∧ k < wa.heap.size) := ⟨_, rfl⟩
  have ya : ∀ k, w.heap.size ≤ k → k < w.heap.size + 2 → Y k := by subst hY; exact fun k h1 h2 => Or.inr (by omega)
  have WA : Hid (Wr Y wa b L 65535) := by subst hY; exact hw.more ta (fun k hk => hk)
  have YX : Hid (∀ k, X k → Y k) := by subst hY; exact fun k hk => Or.inl hk
  have TA : Hid (Touch (fun _ => False) w wa) := ta
  have KX : Hid (∀ w', Kept Y wa w' → Kept X w w') := fun w' h => (Kept.of TA.out).trans (h.less (fun k _ hk => YX.out k hk))
  have c0 := hold_cell ca (ya _ (by dsimp only; omega) (by dsimp only; omega))
  have p17 := hold_cell pa.c17 (ya _ (by dsimp only; omega) (by dsimp only; omega))
  show Calls Tryz.prog 129 #[.agg #[.pointer (some ⟨b, 0, none⟩)], .agg #[.int .u8 P.typ, .int .u32 P.router, .int .u32 P.area, .int .u32 P.mask, .int .u16 P.iv, .int .u8 P.opts, .int .u8 P.prio, .int .u32 P.dead, .int .u32 P.dr, .int .u32 P.bdr, vn, .int .u16 P.mtu, .int .u8 P.dopts, .int .u8 P.dflags, .int .u32 P.dseq, vd, vk, (.slice da ks.length dc), vh]] w _
  have d0 := c0 wa ⟨Kept.refl _ _⟩
  have d17 := p17 wa ⟨Kept.refl _ _⟩
  have qn : IntKind.u32.wrap (ks.length : Int) = (ks.length : Int) := wrap_u32 (by omega) (by omega)
  have HNU := pnum_i 4 (by omega) (ks.length : Int) (show WL Y wa wa b L 24 from ⟨⟨Kept.refl _ _⟩, WA.out, hL⟩) (by omega) (by simp [numTop]; omega) (by simp)
  have HW : Hid (∀ w', Hold Y wa w' → StatesAt w' (.slice da ks.length dc) ks) := fun w' h => hv w' (KX.out w' h.k)
  have HR : Hid (∀ x ∈ ks, x.rs.length ≤ 1000000) := hr
  have YA : Hid (Y w.heap.size) := ya _ (by omega) (by omega)
  have hmx' : (ks.length : Int) ≤ 1000000 := by omega
  clear hw hL hv ok ta za ca pa hY ya hmx hn hr
  go_enter Tryz.func129, Tryz.ntmps129
  go_wp2_with fail
  rw [← hwa]
  clear hwa
  generalize w.heap.size + 1 = g2 at *
  generalize w.heap.size = g1 at *
  refine Calls.mono HNU ?_
  rintro e w1 ⟨rfl, h1⟩
  have REL : Hid (UpR Y wa b (L ++ numBytes 4 (ks.length : Int)) ks ks.length (.int .i64 0) w1) := ⟨0, by omega, by omega, rfl, ⟨h1.k, by simpa [stsB] using h1.wr, by have := h1.le; simp [stsB] at this ⊢; omega⟩⟩
  have f0 := c0 _ h1.k
  have f17 := p17 _ h1.k
  clear d0 d17 HNU h1 qn WA TA
  go_wp2_with fail
  clear f0 f17 p17
  go_loopg [15] ks.length (fun k i wx => UpR Y wa b (L ++ numBytes 4 (ks.length : Int)) ks k i wx)
  case atStart => exact REL.out
  case round =>
    clear REL
    obtain ⟨k, hk, hgk, rfl, hwl⟩ := hrel.out
    have WLr : Hid (WL Y wa wr b ((L ++ numBytes 4 (ks.length : Int)) ++ stsB (ks.take k)) 65535) := hwl
    have d0 := c0 _ hwl.k
    clear hwl hrel
    by_cases hlt : k < ks.length
    · have hlt' : (k : Int) < (ks.length : Int) := by omega
      have hk0 : (0 : Int) ≤ (k : Int) := by omega
      obtain ⟨x, hx⟩ : ∃ x, ks[k]? = some x := ⟨ks[k], by simp [hlt]⟩
      obtain ⟨ox, gR, off, cR, eR, hcell⟩ := StatesAt.one (HW.out wr WLr.out.k) hx
      obtain ⟨xa, xc, ex, -⟩ := ox.arg.form
      cases eR
      have e0 : wr.cell? ⟨gR, off + k * 9, none⟩ = some (.int .u16 x.h.age) := by exact hcell 0 _ rfl
      have e1 : wr.cell? ⟨gR, off + k * 9 + 1, none⟩ = some (.int .u8 x.h.opts) := by rw [Nat.add_assoc]; exact hcell 1 _ rfl
      have e2 : wr.cell? ⟨gR, off + k * 9 + 2, none⟩ = some (.int .u8 x.h.typ) := by rw [Nat.add_assoc]; exact hcell 2 _ rfl
      have e3 : wr.cell? ⟨gR, off + k * 9 + 3, none⟩ = some (.int .u32 x.h.id) := by rw [Nat.add_assoc]; exact hcell 3 _ rfl
      have e4 : wr.cell? ⟨gR, off + k * 9 + 4, none⟩ = some (.int .u32 x.h.adv) := by rw [Nat.add_assoc]; exact hcell 4 _ rfl
      have e5 : wr.cell? ⟨gR, off + k * 9 + 5, none⟩ = some (.int .i32 x.h.seq) := by rw [Nat.add_assoc]; exact hcell 5 _ rfl
      have e6 : wr.cell? ⟨gR, off + k * 9 + 6, none⟩ = some (.int .u16 x.h.sum) := by rw [Nat.add_assoc]; exact hcell 6 _ rfl
      have e7 : wr.cell? ⟨gR, off + k * 9 + 7, none⟩ = some (.int .u16 x.h.len) := by rw [Nat.add_assoc]; exact hcell 7 _ rfl
      have e8 : wr.cell? ⟨gR, off + k * 9 + 8, none⟩ = some (.slice xa x.rs.length xc) := by rw [← ex]; rw [Nat.add_assoc]; exact hcell 8 _ rfl
      have OX : Hid x.h.All := ox.all
      have AX : Hid (ArgAt wr (.slice xa x.rs.length xc) x.rs) := by rw [← ex]; exact ox.arg
      have RX : Hid (x.rs.length ≤ 1000000) := HR.out x (List.mem_of_getElem? hx)
      have hkw : wrap64 ((k : Int) + 1) = (k : Int) + 1 := by unfold wrap64; omega
      have NO : Hid (65535 < ((L ++ numBytes 4 (ks.length : Int)) ++ stsB (ks.take k)).length + (stB x).length → 65535 < L.length + (numBytes 4 (ks.length : Int) ++ stsB ks).length) := by
        intro h
        have := stsB_parts ks k x hx
        simp only [List.length_append] at h ⊢
        omega
      have HN : Hid ((L ++ numBytes 4 (ks.length : Int)) ++ stsB (ks.take (k + 1)) = ((L ++ numBytes 4 (ks.length : Int)) ++ stsB (ks.take k)) ++ stB x) := by show _ = _; rw [List.take_add_one, hx, show (some x).toList = [x] from rfl, stsB_snoc, List.append_assoc _ (stsB _)]
      clear hcell hx ox ex
      have t4 : Touch (fun _ => False) wr (wr.alloc (.cells #[.int .u16 x.h.age, .int .u8 x.h.opts, .int .u8 x.h.typ, .int .u32 x.h.id, .int .u32 x.h.adv, .int .i32 x.h.seq, .int .u16 x.h.sum, .int .u16 x.h.len, .slice xa x.rs.length xc] 95)) := (Touch.refl _ _).alloc _
      have k0 : (wr.alloc (.cells #[.int .u16 x.h.age, .int .u8 x.h.opts, .int .u8 x.h.typ, .int .u32 x.h.id, .int .u32 x.h.adv, .int .i32 x.h.seq, .int .u16 x.h.sum, .int .u16 x.h.len, .slice xa x.rs.length xc] 95)).cell? ⟨wr.heap.size, 0, none⟩ = some (.int .u16 x.h.age) := by simp [go_sem]
      have k1 : (wr.alloc (.cells #[.int .u16 x.h.age, .int .u8 x.h.opts, .int .u8 x.h.typ, .int .u32 x.h.id, .int .u32 x.h.adv, .int .i32 x.h.seq, .int .u16 x.h.sum, .int .u16 x.h.len, .slice xa x.rs.length xc] 95)).cell? ⟨wr.heap.size, 1, none⟩ = some (.int .u8 x.h.opts) := by simp [go_sem]
      have k2 : (wr.alloc (.cells #[.int .u16 x.h.age, .int .u8 x.h.opts, .int .u8 x.h.typ, .int .u32 x.h.id, .int .u32 x.h.adv, .int .i32 x.h.seq, .int .u16 x.h.sum, .int .u16 x.h.len, .slice xa x.rs.length xc] 95)).cell? ⟨wr.heap.size, 2, none⟩ = some (.int .u8 x.h.typ) := by simp [go_sem]
      have k3 : (wr.alloc (.cells #[.int .u16 x.h.age, .int .u8 x.h.opts, .int .u8 x.h.typ, .int .u32 x.h.id, .int .u32 x.h.adv, .int .i32 x.h.seq, .int .u16 x.h.sum, .int .u16 x.h.len, .slice xa x.rs.length xc] 95)).cell? ⟨wr.heap.size, 3, none⟩ = some (.int .u32 x.h.id) := by simp [go_sem]
      have k4 : (wr.alloc (.cells #[.int .u16 x.h.age, .int .u8 x.h.opts, .int .u8 x.h.typ, .int .u32 x.h.id, .int .u32 x.h.adv, .int .i32 x.h.seq, .int .u16 x.h.sum, .int .u16 x.h.len, .slice xa x.rs.length xc] 95)).cell? ⟨wr.heap.size, 4, none⟩ = some (.int .u32 x.h.adv) := by simp [go_sem]
      have k5 : (wr.alloc (.cells #[.int .u16 x.h.age, .int .u8 x.h.opts, .int .u8 x.h.typ, .int .u32 x.h.id, .int .u32 x.h.adv, .int .i32 x.h.seq, .int .u16 x.h.sum, .int .u16 x.h.len, .slice xa x.rs.length xc] 95)).cell? ⟨wr.heap.size, 5, none⟩ = some (.int .i32 x.h.seq) := by simp [go_sem]
      have k6 : (wr.alloc (.cells #[.int .u16 x.h.age, .int .u8 x.h.opts, .int .u8 x.h.typ, .int .u32 x.h.id, .int .u32 x.h.adv, .int .i32 x.h.seq, .int .u16 x.h.sum, .int .u16 x.h.len, .slice xa x.rs.length xc] 95)).cell? ⟨wr.heap.size, 6, none⟩ = some (.int .u16 x.h.sum) := by simp [go_sem]
      have k7 : (wr.alloc (.cells #[.int .u16 x.h.age, .int .u8 x.h.opts, .int .u8 x.h.typ, .int .u32 x.h.id, .int .u32 x.h.adv, .int .i32 x.h.seq, .int .u16 x.h.sum, .int .u16 x.h.len, .slice xa x.rs.length xc] 95)).cell? ⟨wr.heap.size, 7, none⟩ = some (.int .u16 x.h.len) := by simp [go_sem]
      have k8 : (wr.alloc (.cells #[.int .u16 x.h.age, .int .u8 x.h.opts, .int .u8 x.h.typ, .int .u32 x.h.id, .int .u32 x.h.adv, .int .i32 x.h.seq, .int .u16 x.h.sum, .int .u16 x.h.len, .slice xa x.rs.length xc] 95)).cell? ⟨wr.heap.size, 8, none⟩ = some (.slice xa x.rs.length xc) := by simp [go_sem]
      have z4 : (wr.alloc (.cells #[.int .u16 x.h.age, .int .u8 x.h.opts, .int .u8 x.h.typ, .int .u32 x.h.id, .int .u32 x.h.adv, .int .i32 x.h.seq, .int .u16 x.h.sum, .int .u16 x.h.len, .slice xa x.rs.length xc] 95)).heap.size = wr.heap.size + 1 := by simp
      go_upto_region 5 with fail
      generalize wr.alloc (.cells #[.int .u16 x.h.age, .int .u8 x.h.opts, .int .u8 x.h.typ, .int .u32 x.h.id, .int .u32 x.h.adv, .int .i32 x.h.seq, .int .u16 x.h.sum, .int .u16 x.h.len, .slice xa x.rs.length xc] 95) = w4 at *
      obtain ⟨Y5, hY5⟩ : ∃ Y5 : Nat → Prop, Y5 = fun k => Y k ∨ (wr.heap.size ≤ k ∧ k < w4.heap.size) := ⟨_, rfl⟩
      have y5 : Y5 wr.heap.size := by subst hY5; exact Or.inr (by omega)
      have Y5Y : ∀ k, Y k → Y5 k := by subst hY5; exact fun k hk => Or.inl hk
      have W4 : WL Y5 w4 w4.drew b ((L ++ numBytes 4 (ks.length : Int)) ++ stsB (ks.take k)) 65535 := ⟨⟨Kept.of ((Touch.refl _ _).drew)⟩, by subst hY5; exact (WLr.out.wr.more t4 (fun k hk => hk)).keep ((Touch.refl _ _).drew), WLr.out.le⟩
      have BK : Hid (∀ w', Hold Y5 w4 w' → Hold Y wa w') := fun w' h => ⟨WLr.out.k.k.trans ((Kept.of t4).trans (h.k.less (fun k _ hk => Y5Y k hk)))⟩
      have LS : Hid (∀ w' l, Wr Y5 w' b l 65535 → Wr Y w' b l 65535) := fun w' l h => h.less Y5Y
      have AD : Hid (ArgAt w4.drew (.slice xa x.rs.length xc) x.rs) := (AX.out.keep t4 (fun _ _ h => h)).keep ((Touch.refl _ _).drew) (fun _ _ h => h)
      have d1 := hold_cell (t4.cellN d0) (Y5Y _ YA.out)
      have h0 := hold_cell k0 y5
      have h1 := hold_cell k1 y5
      have h2 := hold_cell k2 y5
      have h3 := hold_cell k3 y5
      have h4 := hold_cell k4 y5
      have h5 := hold_cell k5 y5
      have h6 := hold_cell k6 y5
      have h7 := hold_cell k7 y5
      have h8 := hold_cell k8 y5
      have s4 := W4.k
      have HBY : Hid (Calls Tryz.prog 160 #[.agg #[.int .u16 x.h.age, .int .u8 x.h.opts, .int .u8 x.h.typ, .int .u32 x.h.id, .int .u32 x.h.adv, .int .i32 x.h.seq, .int .u16 x.h.sum, .int .u16 x.h.len, .slice xa x.rs.length xc]] w4.drew fun e w' => ∃ u, e = .returned u ∧ Buf w4.drew w' u (stB x)) := bytes_any x.h OX.out (.slice xa x.rs.length xc) x.rs w4.drew AD.out RX.out
      have hsb : Hid ((stB x).length ≤ 1099511627776) := by show _ ≤ _; unfold stB; rw [List.length_append, length_headB]; have := RX.out; omega
      clear hY5 y5 Y5Y t4 d0 k0 k1 k2 k3 k4 k5 k6 k7 k8 z4 WLr e0 e1 e2 e3 e4 e5 e6 e7 e8 AX
      generalize wr.heap.size = g5 at *
      generalize (L ++ numBytes 4 (ks.length : Int)) ++ stsB (ks.take k) = LL at *
      go_region_held2 (fun w' => Hold Y5 w4 w') (with_reducible assumption) (first
        | (go_at_call 160; refine Calls.mono HBY.out ?_; rintro e w5 ⟨u5, rfl, b5⟩; have W5 := W4.step b5.t; have s5 := W5.k; have a5 := b5.arg)
        | (go_at_call 124; refine Calls.mono (pwput_or _ (stB x) W5 (by omega) a5 hsb.out) ?_; rintro e w6 (⟨rfl, l6, s6, r6⟩ | ⟨rfl, l6, s6⟩); rotate_left; exact ⟨rfl, ⟨Or.inr ⟨rfl, NO.out l6, KX.out _ (BK.out _ s6).k⟩⟩⟩))
      have W7 : Hid (WL Y wa w6 b (LL ++ stB x) 65535) := ⟨BK.out _ s6, LS.out _ _ r6, by rw [List.length_append]; omega⟩
      clear s6 r6 l6 W5 s5 a5 b5 W4 s4 d1 NO HBY AD OX RX
      go_wp2_with fail
      go_roundg (ks.length - (k + 1))
      case measure => omega
      case rel => exact ⟨k + 1, by omega, by omega, by go_num, by rw [HN.out]; exact W7.out⟩
    · obtain rfl : k = ks.length := by omega
      have W5 : Hid (WL Y wa wr b (L ++ (numBytes 4 (ks.length : Int) ++ stsB ks)) 65535) := by have := WLr.out; rwa [List.take_length, List.append_assoc] at this
      clear WLr
      go_wp2_with fail
      go_end0
      exact ⟨Or.inl ⟨rfl, by have := W5.out.le; rwa [List.length_append] at this, W5.out.wr.less YX.out, KX.out _ W5.out.k.k⟩⟩
end Go.Proofs.YtjgeklipeeooaaaGreatDoor
