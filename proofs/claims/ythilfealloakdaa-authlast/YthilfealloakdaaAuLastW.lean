/- The walk of AuthLast. -/
import Derived.Test.YthilfealloakdaaAuLastD
import Derived.Test.YthilfealloakdaaAuLives
import Derived.Deep.DeepCutAuto
import Derived.Deep.RegionHeld3
namespace Go.Proofs.Ythilfealloakdaa
open Go.RowKit
set_option linter.unusedVariables false
set_option maxRecDepth 100000

/-- A call of a list of last numbers. -/
structure LO where
  d : Int
  r : Int
  s : Int
structure LO.Ok (x : LO) : Prop where
  d : 0 ≤ x.d ∧ x.d < 256
  r : 0 ≤ x.r ∧ x.r < 4294967296
  s : 0 ≤ x.s ∧ x.s < 4294967296
def LO.cells (x : LO) : List Value := [.int .u8 x.d, .int .u32 x.r, .int .u32 x.s]
def losC (l : List LO) : List Value := l.flatMap LO.cells
theorem length_losC (l : List LO) : (losC l).length = l.length * 3 := by
  induction l with
  | nil => rfl
  | cons x r ih => unfold losC at *; rw [List.flatMap_cons, List.length_append, ih, List.length_cons]; simp [LO.cells]; omega
theorem losC_at (l : List LO) (j i : Nat) (x : LO) (hj : l[j]? = some x) (hi : i < 3) : (losC l)[j * 3 + i]? = x.cells[i]? := by
  induction l generalizing j with
  | nil => simp at hj
  | cons y r ih =>
    have e : losC (y :: r) = y.cells ++ losC r := by simp [losC]
    have hl : y.cells.length = 3 := rfl
    rw [e]
    cases j with
    | zero =>
      obtain rfl : y = x := by simpa using hj
      rw [List.getElem?_append_left (by omega), Nat.zero_mul, Nat.zero_add]
    | succ j =>
      rw [List.getElem?_append_right (by omega), hl, show (j + 1) * 3 + i - 3 = j * 3 + i by omega]
      exact ih j (by simpa using hj)
structure LosAt (w : World) (v : Value) (l : List LO) : Prop where
  vals : ValsAt w 3 v l.length (losC l)
  ok : ∀ x ∈ l, x.Ok
theorem LosAt.keep {w w' : World} {v : Value} {l : List LO} (h : LosAt w v l) (t : Touch (fun _ => False) w w') : LosAt w' v l := ⟨h.vals.keep t, h.ok⟩
theorem LosAt.one {w : World} {v : Value} {l : List LO} (h : LosAt w v l) {j : Nat} {x : LO} (hj : l[j]? = some x) : x.Ok ∧ ∃ g off c, v = .slice (some ⟨g, off, none⟩) l.length c ∧ ∀ i u, x.cells[i]? = some u → w.cell? ⟨g, off + (j * 3 + i), none⟩ = some u := by
  have hlt := (List.getElem?_eq_some_iff.mp hj).1
  obtain ⟨g, off, c, e, _, _, hc⟩ := h.vals.cells (by omega) (by omega)
  refine ⟨h.ok x (List.mem_of_getElem? hj), g, off, c, e, fun i u hu => hc _ _ ?_⟩
  have hi : i < 3 := (List.getElem?_eq_some_iff.mp hu).1
  rw [losC_at l j i x hj hi]
  exact hu
theorem LastAt.more {w : World} {b m n k : Nat} {f : Int → Option Int} (h : LastAt w b m n f) (hk : n ≤ k) : LastAt w b m k f := by
  obtain ⟨hc, D, o, a, b'⟩ := h
  exact ⟨hc, D, ownU_tight o (Nat.le_trans o.size_le hk), a, b'⟩
/-- Where the blocks lie. -/
structure Lay (n b m b2 m2 d : Nat) : Prop where
  h1 : b < d
  h2 : m < d
  h3 : b2 < d
  h4 : m2 < d
  n1 : m ≠ b
  n2 : m ≠ b2
  n3 : m ≠ m2
  l1 : n ≤ b
  l2 : n ≤ m
  l3 : n ≤ b2
  l4 : n ≤ m2
/-- Both lists say the same. -/
structure Ls (W w : World) (b m b2 m2 d i : Nat) : Prop where
  out : ∃ f ls v, LastAt w b m i f ∧ LastAt w b2 m2 0 (fun _ => none) ∧ DL w d v ls ∧ (∀ r, 0 ≤ r → r < 4294967296 → f r = lookD ls r) ∧ ls.length ≤ i ∧ Touch (fun _ => False) W w
theorem Ls.keep {W w w' : World} {b m b2 m2 d i : Nat} (h : Ls W w b m b2 m2 d i) (t : Touch (fun _ => False) w w') : Ls W w' b m b2 m2 d i := by
  obtain ⟨f, ls, v, h1, h2, h3, h4, h5, h6⟩ := h
  exact ⟨f, ls, v, h1.keep t (fun h => h) (fun h => h), h2.keep t (fun h => h) (fun h => h), h3.keep t (fun h => h) (fun _ _ h => h), h4, h5, h6.trans t⟩
theorem Ls.t {W w : World} {b m b2 m2 d i : Nat} (h : Ls W w b m b2 m2 d i) : Touch (fun _ => False) W w := by obtain ⟨_, _, _, _, _, _, _, _, h⟩ := h; exact h
theorem Ls.ltd {W w : World} {b m b2 m2 d i : Nat} (h : Ls W w b m b2 m2 d i) : d < w.heap.size := by obtain ⟨_, _, _, _, _, h, _⟩ := h; exact lt_of_cell h.cell
theorem Ls.lt {W w : World} {b m b2 m2 d i : Nat} (h : Ls W w b m b2 m2 d i) : m < w.heap.size := by obtain ⟨_, _, _, h, _⟩ := h; exact h.map.lt
/-- Forget of both: the first, then the second. -/
theorem ls_forget {W w : World} {b m b2 m2 d i : Nat} (L : Lay W.heap.size b m b2 m2 d) (h : Ls W w b m b2 m2 d i) (r : Int) (hr : 0 ≤ r ∧ r < 4294967296) :
    Calls Try.prog 14 #[.pointer (some ⟨b, 0, none⟩), .int .u32 r] w fun e w' => e = .returned (.tuple #[]) ∧ Touch (fun k => k = m) w w' ∧
      Calls Try.prog 15 #[.pointer (some ⟨d, 0, none⟩), .int .u32 r] w' fun e w'' => e = .returned (.tuple #[]) ∧ Ls W w'' b m b2 m2 d (i + 1) := by
  obtain ⟨f, ls, v, h1, h2, h3, h4, h5, h6⟩ := h
  obtain ⟨l1, l2, l3, l4, n1, n2, n3, q1, q2, q3, q4⟩ := L
  refine (lforget_some w b m i f r h1 hr).mono ?_
  rintro e w1 ⟨rfl, g1, t1⟩
  have g2 := h2.keep t1 (fun e => n2 e.symm) (fun e => n3 e.symm)
  have g3 := h3.keep t1 (fun e => by omega) (fun k hk e => by have := (h3.own.lt k hk).1; omega)
  have T1 : Touch (fun _ => False) W w1 := h6.trans' t1 (fun k hk e => by omega)
  refine ⟨rfl, t1, (dforget_any w1 d v ls r g3).mono ?_⟩
  rintro e w2 ⟨rfl, ⟨v', d2, -⟩, t2⟩
  refine ⟨rfl, _, _, v', (g1.keep t2 (fun e => by omega) (fun e => by omega)).more (Nat.le_succ _), g2.keep t2 (fun e => by omega) (fun e => by omega), d2, fun q q0 q1' => ?_, Nat.le_trans (noD_len ls r) (by omega), T1.trans' t2 (fun k hk e => by omega)⟩
  rw [lookD_no]
  unfold updU
  by_cases e : q = r
  · rw [if_pos e, if_pos e]
  · rw [if_neg e, if_neg e]; exact h4 q q0 q1'
/-- Take of both. -/
theorem ls_take {W w : World} {b m b2 m2 d i : Nat} (L : Lay W.heap.size b m b2 m2 d) (h : Ls W w b m b2 m2 d i) (hi : i < 1000000) (r s : Int) (hr : 0 ≤ r ∧ r < 4294967296) (hs : 0 ≤ s ∧ s < 4294967296) :
    ∃ A : Int, Calls Try.prog 16 #[.pointer (some ⟨b, 0, none⟩), .int .u32 r, .int .u32 s] w fun e w' => e = .returned (.int .i64 A) ∧ Touch (fun _ => False) W w' ∧ Touch (fun k => k = m) w w' ∧
      ∀ w1, Touch (fun _ => False) w' w1 → Calls Try.prog 17 #[.pointer (some ⟨d, 0, none⟩), .int .u32 r, .int .u32 s] w1 fun e w'' => e = .returned (.int .i64 A) ∧ Ls W w'' b m b2 m2 d (i + 1) ∧ ∀ ob xs, Row w1 ob 41 xs → ob ≠ d → Row w'' ob 41 xs := by
  obtain ⟨f, ls, v, h1, h2, h3, h4, h5, h6⟩ := h
  obtain ⟨l1, l2, l3, l4, n1, n2, n3, q1, q2, q3, q4⟩ := L
  have hfr := h4 r hr.1 hr.2
  refine ⟨if s < (f r).getD 0 then 27 else 0, (ltake_some w b m i f r s h1 hr hs (by omega)).mono ?_⟩
  rintro e w1 ⟨rfl, g1, t1⟩
  have g2 := h2.keep t1 (fun e => n2 e.symm) (fun e => n3 e.symm)
  have g3 := h3.keep t1 (fun e => by omega) (fun k hk e => by have := (h3.own.lt k hk).1; omega)
  have T1 : Touch (fun _ => False) W w1 := h6.trans' t1 (fun k hk e => by omega)
  refine ⟨rfl, T1, t1, fun w1' tt => ?_⟩
  replace g1 := g1.keep tt (fun h => h) (fun h => h)
  replace g2 := g2.keep tt (fun h => h) (fun h => h)
  replace g3 := g3.keep tt (fun h => h) (fun _ _ h => h)
  have hvb : ∀ k, v.ownBlock = some k → d < k := fun k hk => by have := (g3.own.lt k hk).1; omega
  refine (dtake_any w1' d v ls r s g3 (by omega)).mono ?_
  rintro e w2 ⟨rfl, ⟨v', d2, -⟩, t2⟩
  have hcond : (s < (lookD ls r).getD 0 ∧ (lookD ls r).isSome = true) ↔ s < (f r).getD 0 := by
    rw [hfr]
    cases lookD ls r with
    | none => simp; omega
    | some x => simp
  have t2' : Touch (fun k => d ≤ k) w1' w2 := t2.mono (fun k _ h => by rcases h with h | h; omega; have := hvb k h; omega)
  have hrow : ∀ ob xs, Row w1' ob 41 xs → ob ≠ d → Row w2 ob 41 xs := fun ob xs hR hne => by
    refine (t2.block ob hR.lt (fun h => ?_)).trans hR
    rcases h with h | h
    · exact hne h
    · rcases g3.own.2 with ⟨rfl, _⟩ | ⟨g, cap, cur, rfl, _, hh, _⟩
      · simp [Value.ownBlock] at h
      · have e : g = ob := by simpa [Value.ownBlock] using h
        subst e
        have := hR.symm.trans hh
        simp at this
  refine ⟨?_, ?_, hrow⟩
  · by_cases hc : s < (f r).getD 0
    · rw [if_pos hc, if_pos (hcond.2 hc)]
    · rw [if_neg hc, if_neg (fun h => hc (hcond.1 h))]
  · have k1 := g1.keep t2' (fun e => by omega) (fun e => by omega)
    have k2 := g2.keep t2' (fun e => by omega) (fun e => by omega)
    have T2 : Touch (fun _ => False) W w2 := (T1.trans tt).trans' t2' (fun k hk e => by omega)
    by_cases hc : s < (f r).getD 0
    · rw [if_pos hc] at k1
      rw [if_pos (hcond.2 hc)] at d2
      exact ⟨_, _, v', k1, k2, d2, h4, by omega, T2⟩
    · rw [if_neg hc] at k1
      rw [if_neg (fun h => hc (hcond.1 h))] at d2
      refine ⟨_, _, v', k1, k2, d2, fun q q0 q1' => ?_, by have := noD_len ls r; simp; omega, T2⟩
      rw [lookD_put]
      unfold updU
      by_cases e : q = r
      · rw [if_pos e, if_pos e]
      · rw [if_neg e, if_neg e]; exact h4 q q0 q1'
/-- Get of both. -/
theorem ls_get {W w : World} {b m b2 m2 d i : Nat} (h : Ls W w b m b2 m2 d i) (r : Int) (hr : 0 ≤ r ∧ r < 4294967296) :
    ∃ (n : Int) (is : Bool), (Calls Try.prog 18 #[.pointer (some ⟨b, 0, none⟩), .int .u32 r] w fun e w' => e = .returned (.tuple #[.int .u32 n, .bool is]) ∧ w = w') ∧
      (Calls Try.prog 19 #[.pointer (some ⟨d, 0, none⟩), .int .u32 r] w fun e w' => e = .returned (.tuple #[.int .u32 n, .bool is]) ∧ w = w') := by
  obtain ⟨f, ls, v, h1, h2, h3, h4, h5, h6⟩ := h
  have hfr := h4 r hr.1 hr.2
  refine ⟨(f r).getD 0, (f r).isSome, lget_some w b m i f r h1 hr, ?_⟩
  rw [hfr]
  exact dget_any w d v ls r h3
theorem ls_other {W w : World} {b m b2 m2 d i : Nat} (h : Ls W w b m b2 m2 d i) (r : Int) (hr : 0 ≤ r ∧ r < 4294967296) :
    Calls Try.prog 18 #[.pointer (some ⟨b2, 0, none⟩), .int .u32 r] w fun e w' => e = .returned (.tuple #[.int .u32 0, .bool false]) ∧ w = w' := by
  obtain ⟨f, ls, v, h1, h2, h3, h4, h5, h6⟩ := h
  exact lget_some w b2 m2 0 (fun _ => none) r h2 hr
structure LoR (W : World) (b m b2 m2 d n gg : Nat) (s6 : Value) (wr : World) : Prop where
  out : ∃ k : Nat, k ≤ n ∧ n - k ≤ gg ∧ s6 = .int .i64 k ∧ Ls W wr b m b2 m2 d k
structure InR (w0 : World) (i gg : Nat) (s8 : Value) (wr : World) : Prop where
  out : ∃ k : Nat, k ≤ i + 1 ∧ i + 1 - k ≤ gg ∧ s8 = .int .i64 k ∧ wr = w0
structure FiR (w0 : World) (n gg : Nat) (s : Value) (wr : World) : Prop where
  out : ∃ k : Nat, k ≤ n ∧ n - k ≤ gg ∧ s = .int .i64 k ∧ wr = w0
set_option maxHeartbeats 8000000 in
theorem last8_any (v : Value) (ops : List LO) (w : World) (hv : LosAt w v ops) :
    Calls Try.prog 4 #[v] w fun e w' => e = .returned (.bool true) ∧ Touch (fun _ => False) w w' := by
  obtain ⟨va, vc, rfl, hmx⟩ := ValsAt.form hv.vals
  by_cases hbig : 1000 < ops.length
  · have hb' : (1000 : Int) < (ops.length : Int) := by omega
    clear hv hbig hmx
    go_enter Try.func4, Try.ntmps4
    go_wp2_with fail
    refine Calls.mono (lives8 w) ?_
    rintro e w1 ⟨rfl, t1⟩
    go_wp2
    go_ret
    exact ⟨rfl, t1⟩
  have hb' : ¬ (1000 : Int) < (ops.length : Int) := by omega
  have hl : (ops.length : Int) ≤ 1000 := by omega
  have HV : Hid (∀ w', Touch (fun _ => False) w w' → LosAt w' (.slice va ops.length vc) ops) := fun w' t => hv.keep t
  clear hv hmx hbig
  go_enter Try.func4, Try.ntmps4
  go_wp2_with fail
  refine Calls.mono (lnew_any w) ?_
  rintro e w1 ⟨b, m, rfl, L1, t1, hb1, hm1, hb1', hm1'⟩
  have HL1 : Hid (LastAt w1 b m 0 (fun _ => none)) := L1
  have T1 : Hid (Touch (fun _ => False) w w1) := t1
  have hnbm := L1.ne
  clear L1 t1
  go_wp2_with fail
  refine Calls.mono (lnew_any w1) ?_
  rintro e w2 ⟨b2, m2, rfl, L2, t2, hb2, hm2, hb2', hm2'⟩
  have HL2 : Hid (LastAt w2 b2 m2 0 (fun _ => none)) := L2
  have HLa : Hid (LastAt w2 b m 0 (fun _ => none)) := HL1.out.keep t2 (fun h => h) (fun h => h)
  have T2 : Hid (Touch (fun _ => False) w w2) := T1.out.trans t2
  have hs2 := t2.size
  have hs1 := T1.out.size
  clear L2 t2 HL1 T1
  go_wp2_with fail
  have T3 : Hid (Touch (fun _ => False) w2 (w2.alloc (.cells #[.slice none 0 0] 38))) := (Touch.refl _ _).alloc _
  have r3 := row_new w2 38 #[.slice none 0 0]
  have D3 : Hid (DL (w2.alloc (.cells #[.slice none 0 0] 38)) w2.heap.size (.slice none 0 0) []) := ⟨r3.cell 0, r3.frozen 0, World.ownsRow_nil _ _ _ _, by simp⟩
  have LS3 : Hid (Ls w (w2.alloc (.cells #[.slice none 0 0] 38)) b m b2 m2 w2.heap.size 0) := ⟨_, _, _, HLa.out.keep T3.out (fun h => h) (fun h => h), HL2.out.keep T3.out (fun h => h) (fun h => h), D3.out, fun r _ _ => rfl, Nat.le_refl _, T2.out.trans T3.out⟩
  have LY : Hid (Lay w.heap.size b m b2 m2 w2.heap.size) := ⟨by omega, by omega, by omega, by omega, fun e => hnbm e.symm, by omega, by omega, by omega, by omega, by omega, by omega⟩
  generalize w2.alloc (.cells #[.slice none 0 0] 38) = w3 at LS3 ⊢
  generalize w2.heap.size = d at LS3 LY ⊢
  clear T3 r3 D3 HLa HL2 T2 hs2 hs1 hb1 hm1 hb1' hm1' hb2 hm2 hb2' hm2' hnbm
  go_loopg [6, 7, 8, 9, 10, 11, 12] ops.length (fun gg s6 _ _ _ _ _ _ wr => LoR w b m b2 m2 d ops.length gg s6 wr)
  case atStart => exact ⟨0, by omega, by omega, rfl, LS3.out⟩
  case round =>
    obtain ⟨k, hk, hg, rfl, ls0⟩ := hrel.out
    have LS : Hid (Ls w wr b m b2 m2 d k) := ls0
    clear hrel ls0
    by_cases hlt : k < ops.length
    · have hlt' : (k : Int) < (ops.length : Int) := by omega
      have hk00 : (0 : Int) ≤ (k : Int) := by omega
      have hkw : wrap64 ((k : Int) + 1) = (k : Int) + 1 := by unfold wrap64; omega
      obtain ⟨x, hx⟩ : ∃ x, ops[k]? = some x := ⟨ops[k], List.getElem?_eq_getElem hlt⟩
      obtain ⟨ox, gR, off, cR, eR, hcell⟩ := LosAt.one (HV.out wr LS.out.t) hx
      cases eR
      have e0 : wr.cell? ⟨gR, off + k * 3, none⟩ = some (.int .u8 x.d) := by exact hcell 0 _ rfl
      have e1 : wr.cell? ⟨gR, off + k * 3 + 1, none⟩ = some (.int .u32 x.r) := by rw [Nat.add_assoc]; exact hcell 1 _ rfl
      have e2 : wr.cell? ⟨gR, off + k * 3 + 2, none⟩ = some (.int .u32 x.s) := by rw [Nat.add_assoc]; exact hcell 2 _ rfl
      have hd := ox.d
      have HR : Hid (0 ≤ x.r ∧ x.r < 4294967296) := ox.r
      have HS : Hid (0 ≤ x.s ∧ x.s < 4294967296) := ox.s
      clear hcell hx ox
      by_cases hm4 : x.d % 4 = 0
      · have hmb : (x.d % 4 == 0) = true := by simpa using hm4
        clear hm4
        go_wp2_with fail
        have r0 := row_new wr 41 #[.int .u8 x.d, .int .u32 x.r, .int .u32 x.s]
        have LSa : Hid (Ls w (wr.alloc (.cells #[.int .u8 x.d, .int .u32 x.r, .int .u32 x.s] 41)) b m b2 m2 d k) := LS.out.keep ((Touch.refl _ _).alloc _)
        have hmo : ¬ (wr.heap.size = m) := by have := LS.out.lt; omega
        have hod : wr.heap.size ≠ d := by have := LS.out.ltd; omega
        generalize wr.alloc (.cells #[.int .u8 x.d, .int .u32 x.r, .int .u32 x.s] 41) = wa at r0 LSa ⊢
        generalize wr.heap.size = ob at r0 hmo hod ⊢
        clear e0 e1 e2 LS
        refine Calls.mono (ls_forget LY.out LSa.out x.r HR.out) ?_
        rintro e w4 ⟨rfl, t4, HF2⟩
        have c4 : w4.cell? ⟨ob, 1, none⟩ = some (.int .u32 x.r) := (t4.cell (p := ⟨ob, 1, none⟩) r0.lt hmo).trans (r0.cell 1)
        clear t4 r0 LSa
        go_wp2_with fail
        refine Calls.mono HF2 ?_
        rintro e w5 ⟨rfl, ls5⟩
        have LS5 : Hid (Ls w w5 b m b2 m2 d (k + 1)) := ls5
        clear ls5 HF2 c4
        go_wp2_with fail
        go_loopg [8, 9, 10, 11, 12] (k + 1) (fun gg s8 _ _ _ _ wr => InR w5 k gg s8 wr)
        case atStart => exact ⟨0, by omega, by omega, rfl, rfl⟩
        case round =>
          obtain ⟨kk, hkk, hgg, rfl, rfl⟩ := hrel.out
          clear hrel
          by_cases hlt2 : kk < k + 1
          · have hlt2' : (kk : Int) ≤ (k : Int) := by omega
            have hkk0 : (0 : Int) ≤ (kk : Int) := by omega
            have hkkw : wrap64 ((kk : Int) + 1) = (kk : Int) + 1 := by unfold wrap64; omega
            have hkkl : (kk : Int) < (ops.length : Int) := by omega
            obtain ⟨y, hy⟩ : ∃ y, ops[kk]? = some y := ⟨ops[kk]'(by omega), List.getElem?_eq_getElem (by omega)⟩
            obtain ⟨oy, gR', off', cR', eR', hcell'⟩ := LosAt.one (HV.out wr LS5.out.t) hy
            cases eR'
            have f1 : wr.cell? ⟨gR, off + kk * 3 + 1, none⟩ = some (.int .u32 y.r) := by rw [Nat.add_assoc]; exact hcell' 1 _ rfl
            obtain ⟨nn, is, G1, G2⟩ := ls_get LS5.out y.r oy.r
            clear hcell' hy oy
            go_wp2_with fail
            refine Calls.mono G1 ?_
            rintro e w7 ⟨rfl, rfl⟩
            go_wp2_with fail
            refine Calls.mono G2 ?_
            rintro e w7 ⟨rfl, rfl⟩
            clear G1 G2
            have hnb : (nn != nn) = false := by simp
            have hib : (is != is) = false := by simp
            go_wp2_with fail
            go_roundg (k + 1 - (kk + 1))
            case measure => omega
            case rel => exact ⟨kk + 1, by omega, by omega, by go_num, rfl⟩
          · have hlt2' : ¬ ((kk : Int) ≤ (k : Int)) := by omega
            go_wp2_with fail
            go_roundg (ops.length - (k + 1))
            case measure => omega
            case rel => exact ⟨k + 1, by omega, by omega, by go_num, LS5.out⟩
      · have hmb : (x.d % 4 == 0) = false := by simpa using hm4
        clear hm4
        go_wp2_with fail
        have r0 := row_new wr 41 #[.int .u8 x.d, .int .u32 x.r, .int .u32 x.s]
        have LSa : Hid (Ls w (wr.alloc (.cells #[.int .u8 x.d, .int .u32 x.r, .int .u32 x.s] 41)) b m b2 m2 d k) := LS.out.keep ((Touch.refl _ _).alloc _)
        have hmo : ¬ (wr.heap.size = m) := by have := LS.out.lt; omega
        have hod : wr.heap.size ≠ d := by have := LS.out.ltd; omega
        generalize wr.alloc (.cells #[.int .u8 x.d, .int .u32 x.r, .int .u32 x.s] 41) = wa at r0 LSa ⊢
        generalize wr.heap.size = ob at r0 hmo hod ⊢
        clear e0 e1 e2 LS
        have LSd : Hid (Ls w wa.drew b m b2 m2 d k) := LSa.out.keep ((Touch.refl _ _).drew)
        have R1 : Row wa.drew ob 41 [.int .u8 x.d, .int .u32 x.r, .int .u32 x.s] := r0.keep ((Touch.refl _ _).drew)
        obtain ⟨A, HT⟩ := ls_take LY.out LSd.out (by omega) x.r x.s HR.out HS.out
        have S1 : wa.cell? ⟨ob, 1, none⟩ = some (.int .u32 x.r) ∧ wa.cell? ⟨ob, 2, none⟩ = some (.int .u32 x.s) := ⟨r0.cell 1, r0.cell 2⟩
        refine wp_region_held_drew (S := fun w' => w'.cell? ⟨ob, 1, none⟩ = some (.int .u32 x.r) ∧ w'.cell? ⟨ob, 2, none⟩ = some (.int .u32 x.s)) (by kernel_rfl) S1 (fun hHeld => ?_)
        refine wpAnyH_take (i := 0) (oi := ⟨some 52, _, _, _, _, _⟩) (v := .pointer (some ⟨b, 0, none⟩)) rfl (by kernel_rfl) (by kernel_rfl) (by kernel_rfl) (fun _ _ _ h => h) (Or.inl ⟨by rfl, fun w hw => by go_simp⟩) (by assumption) ?_
        simp only [Act.put, List.setIfInBounds_toArray, List.set_cons_zero, List.set_cons_succ]
        refine wpAnyH_take (i := 1) (oi := ⟨some 53, _, _, _, _, _⟩) (v := .pointer (some ⟨ob, 1, none⟩)) rfl (by kernel_rfl) (by kernel_rfl) (by kernel_rfl) (fun _ _ _ h => h) (Or.inl ⟨by rfl, fun w hw => by go_simp⟩) (by assumption) ?_
        simp only [Act.put, List.setIfInBounds_toArray, List.set_cons_zero, List.set_cons_succ]
        refine wpAnyH_take (i := 2) (oi := ⟨some 54, _, _, _, _, _⟩) (v := .int .u32 x.r) rfl (by kernel_rfl) (by kernel_rfl) (by kernel_rfl) (fun _ _ _ h => h) (Or.inl ⟨by rfl, fun w hw => by go_simp⟩) (by assumption) ?_
        simp only [Act.put, List.setIfInBounds_toArray, List.set_cons_zero, List.set_cons_succ]
        refine wpAnyH_take (i := 3) (oi := ⟨some 55, _, _, _, _, _⟩) (v := .pointer (some ⟨ob, 2, none⟩)) rfl (by kernel_rfl) (by kernel_rfl) (by kernel_rfl) (fun _ _ _ h => h) (Or.inl ⟨by rfl, fun w hw => by go_simp⟩) (by assumption) ?_
        simp only [Act.put, List.setIfInBounds_toArray, List.set_cons_zero, List.set_cons_succ]
        refine wpAnyH_take (i := 4) (oi := ⟨some 56, _, _, _, _, _⟩) (v := .int .u32 x.s) rfl (by kernel_rfl) (by kernel_rfl) (by kernel_rfl) (fun _ _ _ h => h) (Or.inl ⟨by rfl, fun w hw => by go_simp⟩) (by assumption) ?_
        simp only [Act.put, List.setIfInBounds_toArray, List.set_cons_zero, List.set_cons_succ]
        refine wpAnyH_take (i := 6) (oi := ⟨some 58, _, _, _, _, _⟩) (v := .pointer (some ⟨d, 0, none⟩)) rfl (by kernel_rfl) (by kernel_rfl) (by kernel_rfl) (fun _ _ _ h => h) (Or.inl ⟨by rfl, fun w hw => by go_simp⟩) (by assumption) ?_
        simp only [Act.put, List.setIfInBounds_toArray, List.set_cons_zero, List.set_cons_succ]
        refine wpAnyH_take (i := 7) (oi := ⟨some 59, _, _, _, _, _⟩) (v := .pointer (some ⟨ob, 1, none⟩)) rfl (by kernel_rfl) (by kernel_rfl) (by kernel_rfl) (fun _ _ _ h => h) (Or.inl ⟨by rfl, fun w hw => by go_simp⟩) (by assumption) ?_
        simp only [Act.put, List.setIfInBounds_toArray, List.set_cons_zero, List.set_cons_succ]
        refine wpAnyH_take (i := 8) (oi := ⟨some 60, _, _, _, _, _⟩) (v := .int .u32 x.r) rfl (by kernel_rfl) (by kernel_rfl) (by kernel_rfl) (fun _ _ _ h => h) (Or.inl ⟨by rfl, fun w hw => by go_simp⟩) (by assumption) ?_
        simp only [Act.put, List.setIfInBounds_toArray, List.set_cons_zero, List.set_cons_succ]
        refine wpAnyH_take (i := 9) (oi := ⟨some 61, _, _, _, _, _⟩) (v := .pointer (some ⟨ob, 2, none⟩)) rfl (by kernel_rfl) (by kernel_rfl) (by kernel_rfl) (fun _ _ _ h => h) (Or.inl ⟨by rfl, fun w hw => by go_simp⟩) (by assumption) ?_
        simp only [Act.put, List.setIfInBounds_toArray, List.set_cons_zero, List.set_cons_succ]
        refine wpAnyH_take (i := 10) (oi := ⟨some 62, _, _, _, _, _⟩) (v := .int .u32 x.s) rfl (by kernel_rfl) (by kernel_rfl) (by kernel_rfl) (fun _ _ _ h => h) (Or.inl ⟨by rfl, fun w hw => by go_simp⟩) (by assumption) ?_
        simp only [Act.put, List.setIfInBounds_toArray, List.set_cons_zero, List.set_cons_succ]
        refine wpAnyH_ready (rs := [5]) (by kernel_rfl) (by simp) ?_
        refine AllReadyH.cons rfl (fun K hK => ?_) AllReadyH.nil
        go_simp
        refine Calls.mono HT ?_
        rintro e w4 ⟨rfl, T4, t4, HT2⟩
        have S4 : w4.cell? ⟨ob, 1, none⟩ = some (.int .u32 x.r) ∧ w4.cell? ⟨ob, 2, none⟩ = some (.int .u32 x.s) := ⟨(t4.cell (p := ⟨ob, 1, none⟩) R1.lt hmo).trans (R1.cell 1), (t4.cell (p := ⟨ob, 2, none⟩) R1.lt hmo).trans (R1.cell 2)⟩
        have R4 : Row w4 ob 41 [.int .u8 x.d, .int .u32 x.r, .int .u32 x.s] := (t4.block ob R1.lt hmo).trans R1
        have HT3 := HT2 w4 (Touch.refl _ _)
        clear HT2 HT
        refine hK.out _ _ S4 (fun hHeld => ?_)
        clear hK K
        refine wpAnyH_ready (rs := [11]) (by kernel_rfl) (by simp) ?_
        refine AllReadyH.cons rfl (fun K hK => ?_) AllReadyH.nil
        go_simp
        refine Calls.mono HT3 ?_
        rintro e w5 ⟨rfl, ls5, t5⟩
        have LS5 : Hid (Ls w w5 b m b2 m2 d (k + 1)) := ls5
        have R5 := t5 ob _ R4 hod
        have S5 : w5.cell? ⟨ob, 1, none⟩ = some (.int .u32 x.r) ∧ w5.cell? ⟨ob, 2, none⟩ = some (.int .u32 x.s) := ⟨R5.cell 1, R5.cell 2⟩
        refine hK.out _ _ S5 (fun hHeld => ?_)
        clear hK K
        refine wpAnyH_take (i := 12) (oi := ⟨some 64, _, _, _, _, _⟩) (v := .bool false) rfl (by kernel_rfl) (by kernel_rfl) (by kernel_rfl) (fun _ _ _ h => h) (Or.inl ⟨by rfl, fun w hw => by go_simp⟩) (by assumption) ?_
        simp only [Act.put, List.setIfInBounds_toArray, List.set_cons_zero, List.set_cons_succ]
        refine wpAnyH_done (by kernel_rfl) ?_ _
        go_wp2_with fail
        go_loopg [8, 9, 10, 11, 12] (k + 1) (fun gg s8 _ _ _ _ wr => InR w5 k gg s8 wr)
        case atStart => exact ⟨0, by omega, by omega, rfl, rfl⟩
        case round =>
          obtain ⟨kk, hkk, hgg, rfl, rfl⟩ := hrel.out
          clear hrel
          by_cases hlt2 : kk < k + 1
          · have hlt2' : (kk : Int) ≤ (k : Int) := by omega
            have hkk0 : (0 : Int) ≤ (kk : Int) := by omega
            have hkkw : wrap64 ((kk : Int) + 1) = (kk : Int) + 1 := by unfold wrap64; omega
            have hkkl : (kk : Int) < (ops.length : Int) := by omega
            obtain ⟨y, hy⟩ : ∃ y, ops[kk]? = some y := ⟨ops[kk]'(by omega), List.getElem?_eq_getElem (by omega)⟩
            obtain ⟨oy, gR', off', cR', eR', hcell'⟩ := LosAt.one (HV.out wr LS5.out.t) hy
            cases eR'
            have f1 : wr.cell? ⟨gR, off + kk * 3 + 1, none⟩ = some (.int .u32 y.r) := by rw [Nat.add_assoc]; exact hcell' 1 _ rfl
            obtain ⟨nn, is, G1, G2⟩ := ls_get LS5.out y.r oy.r
            clear hcell' hy oy
            go_wp2_with fail
            refine Calls.mono G1 ?_
            rintro e w7 ⟨rfl, rfl⟩
            go_wp2_with fail
            refine Calls.mono G2 ?_
            rintro e w7 ⟨rfl, rfl⟩
            clear G1 G2
            have hnb : (nn != nn) = false := by simp
            have hib : (is != is) = false := by simp
            go_wp2_with fail
            go_roundg (k + 1 - (kk + 1))
            case measure => omega
            case rel => exact ⟨kk + 1, by omega, by omega, by go_num, rfl⟩
          · have hlt2' : ¬ ((kk : Int) ≤ (k : Int)) := by omega
            go_wp2_with fail
            go_roundg (ops.length - (k + 1))
            case measure => omega
            case rel => exact ⟨k + 1, by omega, by omega, by go_num, LS5.out⟩
    · have hlt' : ¬ ((k : Int) < (ops.length : Int)) := by omega
      obtain rfl : k = ops.length := by omega
      go_wp2_with fail
      go_loopg [13, 14, 15] ops.length (fun gg s13 _ _ wr' => FiR wr ops.length gg s13 wr')
      case atStart => exact ⟨0, by omega, by omega, rfl, rfl⟩
      case round =>
        obtain ⟨kk, hkk, hgg, rfl, rfl⟩ := hrel.out
        clear hrel
        by_cases hlt2 : kk < ops.length
        · have hlt2' : (kk : Int) < (ops.length : Int) := by omega
          have hkk0 : (0 : Int) ≤ (kk : Int) := by omega
          have hkkw : wrap64 ((kk : Int) + 1) = (kk : Int) + 1 := by unfold wrap64; omega
          obtain ⟨y, hy⟩ : ∃ y, ops[kk]? = some y := ⟨ops[kk], List.getElem?_eq_getElem hlt2⟩
          obtain ⟨oy, gR', off', cR', eR', hcell'⟩ := LosAt.one (HV.out _ LS.out.t) hy
          cases eR'
          have f1 := (show _ = some (.int .u32 y.r) from hcell' 1 _ rfl)
          rw [← Nat.add_assoc] at f1
          have G1 := ls_other LS.out y.r oy.r
          clear hcell' hy oy
          go_wp2_with fail
          refine Calls.mono G1 ?_
          rintro e w7 ⟨rfl, rfl⟩
          clear G1
          go_wp2_with fail
          go_roundg (ops.length - (kk + 1))
          case measure => omega
          case rel => exact ⟨kk + 1, by omega, by omega, by go_num, rfl⟩
        · have hlt2' : ¬ ((kk : Int) < (ops.length : Int)) := by omega
          go_wp2_with fail
          refine Calls.mono (lives8 _) ?_
          rintro e w7 ⟨rfl, t7⟩
          have T7 : Hid (Touch (fun _ => False) w w7) := LS.out.t.trans t7
          go_wp2_with fail
          go_ret
          exact ⟨rfl, T7.out⟩
end Go.Proofs.Ythilfealloakdaa
