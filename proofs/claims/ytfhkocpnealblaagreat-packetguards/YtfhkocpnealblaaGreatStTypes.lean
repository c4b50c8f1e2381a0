/- Contracts: mask and nought both ways; readSummary, readBorder. -/
import Derived.Test.YtfhkocpnealblaaGreatStPairs
import Derived.Test.YtfhkocpnealblaaGreatStHeadOf
import Derived.Deep.RegionHeld3
import Derived.Deep.RegionLaw
import Derived.Deep.DrawnRows
import Derived.Test.YtfhkocpnealblaaGreatStRead1
import Derived.Deep.RegionHeld2
namespace Go.Proofs.YtfhkocpnealblaaGreat
open Go.RowKit
set_option linter.unusedVariables false
set_option maxRecDepth 100000

/-- What eight bytes say. -/
theorem at8 {rs : List Int} (h : rs.length = 8) : ∃ a b c d e f g i, rs = [a, b, c, d, e, f, g, i] ∧ numAt rs (some 0) 4 = numOf [a, b, c, d] ∧ numAt rs (nextAt rs (some 0) 4) 1 = e ∧ numAt rs (nextAt rs (nextAt rs (some 0) 4) 1) 3 = numOf [f, g, i] := by
  obtain ⟨a, b, c, d, e, f, g, i, rfl⟩ := list8 h
  refine ⟨a, b, c, d, e, f, g, i, rfl, ?_, ?_, ?_⟩
  · simp [numAt]
  · simp [numAt, nextAt, numOf1]
  · simp [numAt, nextAt]
theorem q8 (rs : List Int) : nextAt rs (nextAt rs (nextAt rs (some 0) 4) 1) 3 = nextAt rs (some 0) 8 := by rw [nextAt_add, nextAt_add]
theorem q8_len {rs : List Int} : nextAt rs (some 0) 8 = some rs.length ↔ rs.length = 8 := by
  unfold nextAt
  dsimp only
  split
  · simp; omega
  · simp; omega
theorem sum_yes {rs : List Int} (hb : ∀ z ∈ rs, 0 ≤ z ∧ z < 256) (hm : pbok (numAt rs (some 0) 4) = true) (hz : numAt rs (nextAt rs (some 0) 4) 1 = 0) :
    decB 3 rs = (if nextAt rs (nextAt rs (nextAt rs (some 0) 4) 1) 3 = some rs.length then some ⟨0, [], numAt rs (some 0) 4, [], numAt rs (nextAt rs (nextAt rs (some 0) 4) 1) 3, false, 0, 0, []⟩ else none) := by
  by_cases h8 : rs.length = 8
  · obtain ⟨a, b, c, d, e, f, g, i, hrs, e1, e2, e3⟩ := at8 h8
    rw [q8, if_pos (q8_len.2 h8), e1, e3]
    rw [e1] at hm
    rw [e2] at hz
    rw [hrs] at hb ⊢
    rw [dec3_eq hb, if_pos ⟨hm, hz⟩]
  · rw [q8, if_neg (fun h => h8 (q8_len.1 h)), dec34_len (Or.inl rfl) h8]
theorem sum_no {rs : List Int} (hb : ∀ z ∈ rs, 0 ≤ z ∧ z < 256) (h : pbok (numAt rs (some 0) 4) = false ∨ numAt rs (nextAt rs (some 0) 4) 1 ≠ 0) : decB 3 rs = none := by
  by_cases h8 : rs.length = 8
  · obtain ⟨a, b, c, d, e, f, g, i, hrs, e1, e2, e3⟩ := at8 h8
    rw [e1, e2] at h
    rw [hrs] at hb ⊢
    rw [dec3_eq hb, if_neg]
    rintro ⟨h1, h2⟩
    rcases h with h | h
    · rw [h1] at h; cases h
    · exact h h2
  · exact dec34_len (Or.inl rfl) h8
theorem bor_yes {rs : List Int} (hb : ∀ z ∈ rs, 0 ≤ z ∧ z < 256) (hm : numAt rs (some 0) 4 = 0) (hz : numAt rs (nextAt rs (some 0) 4) 1 = 0) :
    decB 4 rs = (if nextAt rs (nextAt rs (nextAt rs (some 0) 4) 1) 3 = some rs.length then some ⟨0, [], 0, [], numAt rs (nextAt rs (nextAt rs (some 0) 4) 1) 3, false, 0, 0, []⟩ else none) := by
  by_cases h8 : rs.length = 8
  · obtain ⟨a, b, c, d, e, f, g, i, hrs, e1, e2, e3⟩ := at8 h8
    rw [q8, if_pos (q8_len.2 h8), e3]
    rw [e1] at hm
    rw [e2] at hz
    rw [hrs] at hb ⊢
    rw [dec4_eq hb, if_pos ⟨hm, hz⟩]
  · rw [q8, if_neg (fun h => h8 (q8_len.1 h)), dec34_len (Or.inr rfl) h8]
theorem bor_no {rs : List Int} (hb : ∀ z ∈ rs, 0 ≤ z ∧ z < 256) (h : numAt rs (some 0) 4 ≠ 0 ∨ numAt rs (nextAt rs (some 0) 4) 1 ≠ 0) : decB 4 rs = none := by
  by_cases h8 : rs.length = 8
  · obtain ⟨a, b, c, d, e, f, g, i, hrs, e1, e2, e3⟩ := at8 h8
    rw [e1, e2] at h
    rw [hrs] at hb ⊢
    rw [dec4_eq hb, if_neg]
    rintro ⟨h1, h2⟩
    rcases h with h | h
    · exact h h1
    · exact h h2
  · exact dec34_len (Or.inr rfl) h8
end Go.Proofs.YtfhkocpnealblaaGreat

namespace Go.Proofs.YtfhkocpnealblaaGreat
open Go.RowKit
set_option linter.unusedVariables false
set_option maxRecDepth 100000

attribute [local go_sem ↓] Go.wp_at_zero Go.wp_at_succ
/-- An append to a row of one's own, as a step of a region that draws its order. -/
theorem step_own {P : Program} {w : World} {ops : Array Oper} {o : Oper} {a : Act} {K : Act → World → Prop} {Q : Exit → Act → World → Prop} {E : Prop} (hgd : o.guard = none) (s x : Operand) (t : TypeId)
    (ho : o.op = .call { callee := .builtin .append, args := #[s, x], argTypes := #[t, t] })
    (base : Nat) (e : TypeId) (z : Value) (size bytes : Nat) (ht : P.underlying t = some (.slice e)) (hi : (P.info? e).map (fun i => (i.zero, i.size, i.bytes)) = some (some z, size, bytes)) (hzs : z.cells.size = size) (hsz : 0 < size) (hb64 : bytes ≤ 64)
    (v : Value) (n : Nat) (xs : List Value) (hs : a.eval s = v) (hown : w.ownsRow base e size v n xs)
    (ad : Addr) (m c : Nat) (news : List Value) (hx : a.eval x = .slice (some ad) m c) (hl : news.length = m * size) (hnews : ∀ j u, news[j]? = some u → w.cell? (ad.add j) = some u) (h1 : ∀ u ∈ news, u.oneCell' = true)
    (hlen : n + m ≤ 1099511627776) (hbase : base ≤ w.heap.size)
    (h : ∀ v' w', w'.ownsRow base e size v' (n + m) (xs ++ news) → Touch (fun j => v.ownBlock = some j) w w' → K (a.put o.dst v') w') :
    if Region.wanted o (yielded ops a.tmps) = true then Oper.wp P o a w K Q else E := by
  obtain ⟨i, hi, hz, hsize, hby⟩ := info_parts hi
  have hw : Region.wanted o (yielded ops a.tmps) = true := by simp [Region.wanted, hgd]
  rw [if_pos hw]
  have hmul : (n + m) * bytes ≤ 1099511627776 * 64 := Nat.mul_le_mul hlen hb64
  obtain ⟨v', w', hr, h2, h3, h4, h5⟩ := run_append_own_at (P := P) w base t o.type e i z size bytes ht hi hz hsize hby hzs hsz v n xs hown ad m c news hl hnews h1 (by unfold maxLen; omega) (by omega) hbase
  unfold Oper.wp execOp
  simp only [ho, resolve, invoke, builtin, Sem.run_bind, Sem.run_pure, Result.andThen_ok, List.map_toArray, List.map_cons, List.map_nil, hs, hx, hr]
  exact h v' w' h2 ((Touch.refl _ _).grown h3 (fun k hk => Or.inl hk))
theorem Tryz.infoU : (Tryz.prog.info? 22).map (fun i => (i.zero, i.size, i.bytes)) = some (some (.int .u32 0), 1, 4) := by kernel_rfl
/-- All bytes but the first four, so far. -/
structure NetS (rs : List Int) (q : Option Nat) (ws : List Int) (k : Nat) : Prop where
  out : (∃ p, q = some p ∧ p = 4 + 4 * ws.length ∧ p ≤ rs.length ∧ readRouters ((rs.drop 4).take (4 * ws.length)) = ws ∧ k = rs.length - p + 1) ∨ (q = none ∧ k = 0 ∧ (rs.length < 4 ∨ (rs.length - 4) % 4 ≠ 0))
structure NetR (N b g1 g2 g3 : Nat) (rs : List Int) (M : Int) (w0 : World) (k : Nat) (wx : World) : Prop where
  out : ∃ (q : Option Nat) (ws : List Int) (ra : Option Addr) (rc : Nat), Rdr N wx b rs q ∧ wx.cell? ⟨g1, 0, none⟩ = some (.pointer (some ⟨b, 0, none⟩)) ∧ OutB wx g3 ⟨0, [], M, ws, 0, false, 0, 0, []⟩ (.slice none 0 0) (.slice ra ws.length rc) (.slice none 0 0) ∧ wx.ownsRow (g3 + 1) 22 1 (.slice ra ws.length rc) ws.length (wordsC ws) ∧ Touch (fun j => j = b ∨ j = g3) w0 wx ∧ Room wx g2 9 ∧ NetS rs q ws k ∧ ws.length ≤ rs.length
theorem net_first {rs : List Int} : ∃ k, NetS rs (nextAt rs (some 0) 4) [] k := by
  by_cases h : 4 ≤ rs.length
  · exact ⟨_, ⟨Or.inl ⟨4, by rw [nextAt_some (by omega)], rfl, h, rfl, rfl⟩⟩⟩
  · exact ⟨0, ⟨Or.inr ⟨nextAt_none (by omega), rfl, Or.inl (by omega)⟩⟩⟩
theorem net_next {rs : List Int} {ws : List Int} {k p : Nat} (hp : p = 4 + 4 * ws.length) (hl : p < rs.length) (hr : readRouters ((rs.drop 4).take (4 * ws.length)) = ws) (hk : k = rs.length - p + 1) : ∃ k', k' < k ∧ NetS rs (nextAt rs (some p) 4) (ws ++ [numAt rs (some p) 4]) k' := by
  by_cases h : p + 4 ≤ rs.length
  · refine ⟨rs.length - (p + 4) + 1, by omega, ⟨Or.inl ⟨p + 4, nextAt_some h, by simp; omega, h, ?_, rfl⟩⟩⟩
    rw [numAt_some h]
    obtain ⟨a, b, c, d, r, he⟩ := list4 (l := rs.drop p) (by rw [List.length_drop]; omega)
    have hd : (rs.drop 4).drop (4 * ws.length) = rs.drop p := by rw [List.drop_drop, hp]
    have e : (rs.drop 4).take (4 * (ws ++ [numOf ((rs.drop p).take 4)]).length) = (rs.drop 4).take (4 * ws.length) ++ [a, b, c, d] := by
      rw [List.length_append, List.length_singleton, Nat.mul_add, Nat.mul_one, List.take_add, hd, he]
      rfl
    rw [e, readRouters_snoc _ _ _ _ _ (by rw [List.length_take, List.length_drop]; omega), hr, he]
    rfl
  · exact ⟨0, by omega, ⟨Or.inr ⟨nextAt_none h, rfl, Or.inr (by omega)⟩⟩⟩
theorem dec2_none {rs : List Int} (h : rs.length < 4 ∨ (rs.length - 4) % 4 ≠ 0) : decB 2 rs = none := by
  cases hd : decB 2 rs with
  | none => rfl
  | some B =>
    obtain ⟨a, b, c, d, r, rfl, -, h1, h2⟩ := dec2_inv hd
    simp at h
    omega
theorem dec2_nomask {rs : List Int} (h : pbok (numAt rs (some 0) 4) = false) : decB 2 rs = none := by
  cases hd : decB 2 rs with
  | none => rfl
  | some B =>
    obtain ⟨a, b, c, d, r, rfl, h1, -⟩ := dec2_inv hd
    rw [numAt_some (by simp)] at h
    simp only [List.drop, List.take] at h
    rw [h] at h1
    cases h1
theorem dec2_norouters {rs : List Int} (h : rs.length = 4) : decB 2 rs = none := by
  cases hd : decB 2 rs with
  | none => rfl
  | some B =>
    obtain ⟨a, b, c, d, r, rfl, -, h1, h2⟩ := dec2_inv hd
    simp at h
    subst h
    simp at h2
theorem dec2_all {rs : List Int} {ws : List Int} (hb : ∀ z ∈ rs, 0 ≤ z ∧ z < 256) (hm : pbok (numAt rs (some 0) 4) = true) (hl : 4 + 4 * ws.length = rs.length) (h0 : 0 < ws.length) (hr : readRouters ((rs.drop 4).take (4 * ws.length)) = ws) :
    decB 2 rs = some ⟨0, [], numAt rs (some 0) 4, ws, 0, false, 0, 0, []⟩ := by
  obtain ⟨a, b, c, d, r, rfl⟩ := list4 (l := rs) (by omega)
  rw [numAt_some (by simp)] at hm ⊢
  simp only [List.drop, List.take, List.length_cons] at hm hr hl ⊢
  rw [List.take_of_length_le (by omega)] at hr
  rw [dec2_yes hb hm (by omega) (by omega), hr]
end Go.Proofs.YtfhkocpnealblaaGreat

namespace Go.Proofs.YtfhkocpnealblaaGreat
open Go.RowKit
set_option linter.unusedVariables false
set_option maxRecDepth 100000

theorem at12 {rs : List Int} {p : Nat} (h : p + 12 ≤ rs.length) : ∃ a b c d e f g i j k m n r, rs.drop p = a :: b :: c :: d :: e :: f :: g :: i :: j :: k :: m :: n :: r ∧ numAt rs (some p) 4 = numOf [a, b, c, d] ∧ numAt rs (nextAt rs (some p) 4) 4 = numOf [e, f, g, i] ∧ numAt rs (nextAt rs (nextAt rs (some p) 4) 4) 1 = j ∧ numAt rs (nextAt rs (nextAt rs (nextAt rs (some p) 4) 4) 1) 1 = k ∧ numAt rs (nextAt rs (nextAt rs (nextAt rs (nextAt rs (some p) 4) 4) 1) 1) 2 = numOf [m, n] := by
  obtain ⟨a, b, c, d, e, f, g, i, j, k, m, n, r, hr⟩ := list12 (l := rs.drop p) (by rw [List.length_drop]; omega)
  have dd : ∀ x, rs.drop (p + x) = (rs.drop p).drop x := fun x => (List.drop_drop).symm
  refine ⟨a, b, c, d, e, f, g, i, j, k, m, n, r, hr, ?_, ?_, ?_, ?_, ?_⟩
  · rw [numAt_some (by omega), hr]; rfl
  · rw [nextAt_some (by omega), numAt_some (by omega), dd, hr]; rfl
  · rw [nextAt_add, nextAt_some (by omega), numAt_some (by omega), dd, hr]; exact numOf1 j
  · rw [nextAt_add, nextAt_add, nextAt_some (by omega), numAt_some (by omega), dd, hr]; exact numOf1 k
  · rw [nextAt_add, nextAt_add, nextAt_add, nextAt_some (by omega), numAt_some (by omega), dd, hr]; rfl
theorem take_yes {rs : List Int} {p : Nat} (ht : 1 ≤ numAt rs (nextAt rs (nextAt rs (some p) 4) 4) 1 ∧ numAt rs (nextAt rs (nextAt rs (some p) 4) 4) 1 ≤ 4) (hz : numAt rs (nextAt rs (nextAt rs (nextAt rs (some p) 4) 4) 1) 1 = 0) (h : p + 12 ≤ rs.length) :
    takeLink (rs.drop p) = some ⟨numAt rs (some p) 4, numAt rs (nextAt rs (some p) 4) 4, numAt rs (nextAt rs (nextAt rs (some p) 4) 4) 1, numAt rs (nextAt rs (nextAt rs (nextAt rs (nextAt rs (some p) 4) 4) 1) 1) 2⟩ := by
  obtain ⟨a, b, c, d, e, f, g, i, j, k, m, n, r, hr, e1, e2, e3, e4, e5⟩ := at12 h
  rw [e1, e2, e5, e3, hr]
  rw [e3] at ht
  rw [e4] at hz
  simp only [takeLink]
  rw [if_pos ⟨hz, ht⟩]
theorem take_no {rs : List Int} {p : Nat} (hc : numAt rs (nextAt rs (nextAt rs (nextAt rs (some p) 4) 4) 1) 1 ≠ 0 ∨ ¬ (1 ≤ numAt rs (nextAt rs (nextAt rs (some p) 4) 4) 1 ∧ numAt rs (nextAt rs (nextAt rs (some p) 4) 4) 1 ≤ 4)) (h : p + 12 ≤ rs.length) : takeLink (rs.drop p) = none := by
  obtain ⟨a, b, c, d, e, f, g, i, j, k, m, n, r, hr, e1, e2, e3, e4, e5⟩ := at12 h
  rw [e3, e4] at hc
  rw [hr]
  simp only [takeLink]
  rw [if_neg]
  rintro ⟨h1, h2⟩
  rcases hc with hc | hc
  · exact hc h1
  · exact hc h2
/-- A link lies in block g, and may be stored into. -/
structure Lk (w : World) (g : Nat) (x : LV) : Prop where
  c0 : w.cell? ⟨g, 0, none⟩ = some (.int .u32 x.id)
  c1 : w.cell? ⟨g, 1, none⟩ = some (.int .u32 x.data)
  c2 : w.cell? ⟨g, 2, none⟩ = some (.int .u8 x.typ)
  c3 : w.cell? ⟨g, 3, none⟩ = some (.int .u16 x.cost)
  f3 : w.frozen? ⟨g, 3, none⟩ = false
theorem Lk.touch {F : Nat → Prop} {w w' : World} {g : Nat} {x : LV} (h : Lk w g x) (t : Touch F w w') (hF : ¬ F g) : Lk w' g x := by
  have hl : g < w.heap.size := lt_of_cell h.c0
  exact ⟨(t.cell (p := ⟨g, 0, none⟩) hl hF).trans h.c0, (t.cell (p := ⟨g, 1, none⟩) hl hF).trans h.c1, (t.cell (p := ⟨g, 2, none⟩) hl hF).trans h.c2, (t.cell (p := ⟨g, 3, none⟩) hl hF).trans h.c3, (t.frozen (p := ⟨g, 3, none⟩) hl hF).trans h.f3⟩
theorem cell_far4 {w : World} {g g' : Nat} (hne : g ≠ g') (i : Nat) (u0 u1 u2 u3 : Value) : ((((w.setCell ⟨g', 0, none⟩ u0).setCell ⟨g', 1, none⟩ u1).setCell ⟨g', 2, none⟩ u2).setCell ⟨g', 3, none⟩ u3).cell? ⟨g, i, none⟩ = w.cell? ⟨g, i, none⟩ := by
  rw [cell_far hne, cell_far hne, cell_far hne, cell_far hne]
/-- Room for a link. -/
structure RoomL (w : World) (g n : Nat) : Prop where
  out : Room w g n
theorem RoomL.touch {w w' : World} {g n b : Nat} (h : RoomL w g n) (t : Touch (fun k => k = b) w w') (hne : b ≠ g) : RoomL w' g n := ⟨h.out.touch t (fun e => hne e.symm)⟩
/-- Behind the making of a link's first three fields. -/
structure Mid (N b : Nat) (rs : List Int) (q : Option Nat) (w wl : World) (g1 g2 gl : Nat) (x : LV) : Prop where
  rd : Rdr N wl b rs q
  y : wl.cell? ⟨g1, 0, none⟩ = some (.pointer (some ⟨b, 0, none⟩))
  rm : Room wl g2 4
  lk : Lk wl gl x
  t : Touch (fun k => k = b) w wl
  ne1 : gl ≠ g1
  ne2 : gl ≠ g2
  neb : gl ≠ b
  le : w.heap.size ≤ gl
  leN : N ≤ gl
theorem mid_set {N b : Nat} {rs : List Int} {q : Option Nat} {w w1 wz : World} {g1 g2 gl : Nat} {I D T : Int} (T1 : Touch (fun k => k = b) w w1) (HT : Touch (fun k => k = b) w1 wz) (h : Rdr N wz b rs q) (y : wz.cell? ⟨g1, 0, none⟩ = some (.pointer (some ⟨b, 0, none⟩))) (r : Room w1.drew g2 4) (hn2 : ¬ g2 = b) (hs : g2 < w1.heap.size) (hg1 : g1 < w1.heap.size) (hN : N ≤ w1.heap.size) (hbN : b < N)
    (R : RoomL wz gl 4) (hgl : w1.heap.size ≤ gl) :
    Mid N b rs q w ((((wz.setCell ⟨gl, 0, none⟩ (.int .u32 I)).setCell ⟨gl, 1, none⟩ (.int .u32 D)).setCell ⟨gl, 2, none⟩ (.int .u8 T)).setCell ⟨gl, 3, none⟩ (.int .u16 0)) g1 g2 gl ⟨I, D, T, 0⟩ := by
  have hl := HT.size
  have hl1 := T1.size
  have r2 : Room wz g2 4 := Room.touch (w := w1) r HT hn2
  have t : Touch (fun k => k = gl) wz ((((wz.setCell ⟨gl, 0, none⟩ (.int .u32 I)).setCell ⟨gl, 1, none⟩ (.int .u32 D)).setCell ⟨gl, 2, none⟩ (.int .u8 T)).setCell ⟨gl, 3, none⟩ (.int .u16 0)) := by
    refine Touch.setCell (F := fun k => k = gl) (p := ⟨gl, 3, none⟩) ?_ (Or.inl rfl) _
    refine Touch.setCell (F := fun k => k = gl) (p := ⟨gl, 2, none⟩) ?_ (Or.inl rfl) _
    refine Touch.setCell (F := fun k => k = gl) (p := ⟨gl, 1, none⟩) ?_ (Or.inl rfl) _
    refine Touch.setCell (F := fun k => k = gl) (p := ⟨gl, 0, none⟩) ?_ (Or.inl rfl) _
    exact Touch.refl _ _
  obtain ⟨zz0, zc0, zf0⟩ := R.out 0 (by omega)
  obtain ⟨zz1, zc1, zf1⟩ := R.out 1 (by omega)
  obtain ⟨zz2, zc2, zf2⟩ := R.out 2 (by omega)
  obtain ⟨zz3, zc3, zf3⟩ := R.out 3 (by omega)
  have := lt_of_cell y
  exact ⟨h.touch t (fun k hk e => by omega), (t.cell (p := ⟨g1, 0, none⟩) (lt_of_cell y) (by show ¬ g1 = gl; omega)).trans y, r2.touch t (by show ¬ g2 = gl; omega), ⟨by simp [zc0, go_sem], by simp [zc1, go_sem], by simp [zc2, go_sem], by simp [zc3, go_sem], by simp [zf3, go_sem]⟩, (T1.trans HT).trans' t (fun i hi e => by omega), by omega, by omega, by omega, by omega, by omega⟩
def LinkPost (N b p : Nat) (rs : List Int) (w : World) : Ending → World → Prop := fun e w' =>
  (∃ x : LV, e = .returned (.agg #[.int .u32 x.id, .int .u32 x.data, .int .u8 x.typ, .int .u16 x.cost]) ∧ Rdr N w' b rs (nextAt rs (some p) 12) ∧ Touch (fun k => k = b) w w' ∧ (p + 12 ≤ rs.length → takeLink (rs.drop p) = some x)) ∨
  (e = .panicked (flawC 28) ∧ Touch (fun k => k = b) w w' ∧ (p + 12 ≤ rs.length → takeLink (rs.drop p) = none))
end Go.Proofs.YtfhkocpnealblaaGreat

namespace Go.Proofs.YtfhkocpnealblaaGreat
open Go.RowKit
set_option linter.unusedVariables false
set_option maxRecDepth 100000

attribute [local go_sem ↓] Go.wp_at_zero Go.wp_at_succ
structure RtrS (rs : List Int) (q : Option Nat) (ls : List LV) (k : Nat) : Prop where
  out : (∃ p, q = some p ∧ p = 4 + 12 * ls.length ∧ p ≤ rs.length ∧ parseLinks (rs.drop 4) = (parseLinks (rs.drop p)).map (ls ++ ·) ∧ k = rs.length - p + 1) ∨ (q = none ∧ k = 0 ∧ decB 1 rs = none)
theorem dec1_short {rs : List Int} (hb : ∀ z ∈ rs, 0 ≤ z ∧ z < 256) (hl : rs.length < 65536) (h : rs.length < 4) : decB 1 rs = none := by
  cases hd : decB 1 rs with
  | none => rfl
  | some B =>
    obtain ⟨f, c1, c2, r, ls, rfl, -⟩ := dec1_inv hb hl hd
    simp at h
    omega
theorem dec1_nolinks {rs : List Int} (hb : ∀ z ∈ rs, 0 ≤ z ∧ z < 256) (hl : rs.length < 65536) (h : parseLinks (rs.drop 4) = none) : decB 1 rs = none := by
  cases hd : decB 1 rs with
  | none => rfl
  | some B =>
    obtain ⟨f, c1, c2, r, ls, rfl, h1, -⟩ := dec1_inv hb hl hd
    simp only [List.drop] at h
    rw [h1] at h
    cases h
theorem dec1_nonought {rs : List Int} (hb : ∀ z ∈ rs, 0 ≤ z ∧ z < 256) (hl : rs.length < 65536) (h : numAt rs (nextAt rs (some 0) 1) 1 ≠ 0) : decB 1 rs = none := by
  cases hd : decB 1 rs with
  | none => rfl
  | some B =>
    obtain ⟨f, c1, c2, r, ls, rfl, h1, -⟩ := dec1_inv hb hl hd
    rw [nextAt_some (by simp), numAt_some (by simp)] at h
    simp [numOf] at h
theorem dec1_nocount {rs : List Int} {ls : List LV} (hb : ∀ z ∈ rs, 0 ≤ z ∧ z < 256) (hl : rs.length < 65536) (hp : parseLinks (rs.drop 4) = some ls) (h : (ls.length : Int) ≠ numAt rs (nextAt rs (nextAt rs (some 0) 1) 1) 2) : decB 1 rs = none := by
  cases hd : decB 1 rs with
  | none => rfl
  | some B =>
    obtain ⟨f, c1, c2, r, ls', rfl, h1, h2⟩ := dec1_inv hb hl hd
    rw [nextAt_add, nextAt_some (by simp), numAt_some (by simp)] at h
    simp only [List.drop, List.take] at h hp
    rw [h1] at hp
    cases hp
    exact absurd h2 h
theorem dec1_all {rs : List Int} {ls : List LV} (hb : ∀ z ∈ rs, 0 ≤ z ∧ z < 256) (h4 : 4 ≤ rs.length) (hz : numAt rs (nextAt rs (some 0) 1) 1 = 0) (hp : parseLinks (rs.drop 4) = some ls) (h : (ls.length : Int) = numAt rs (nextAt rs (nextAt rs (some 0) 1) 1) 2) :
    decB 1 rs = some ⟨numAt rs (some 0) 1, ls, 0, [], 0, false, 0, 0, []⟩ := by
  obtain ⟨f, z, c1, c2, r, rfl⟩ := list4 h4
  rw [nextAt_some (by simp), numAt_some (by simp)] at hz
  rw [nextAt_add, nextAt_some (by simp), numAt_some (by simp)] at h
  rw [numAt_some (by simp)]
  simp only [List.drop, List.take, numOf1] at h hp hz ⊢
  subst hz
  exact dec1_yes hb hp h
theorem rtr_first {rs : List Int} (hb : ∀ z ∈ rs, 0 ≤ z ∧ z < 256) (hl : rs.length < 65536) : ∃ k, RtrS rs (nextAt rs (nextAt rs (nextAt rs (some 0) 1) 1) 2) [] k := by
  rw [nextAt_add, nextAt_add]
  by_cases h : 4 ≤ rs.length
  · exact ⟨_, ⟨Or.inl ⟨4, nextAt_some (by omega), rfl, h, by simp, rfl⟩⟩⟩
  · exact ⟨0, ⟨Or.inr ⟨nextAt_none (by omega), rfl, dec1_short hb hl (by omega)⟩⟩⟩
theorem rtr_next {rs : List Int} {ls : List LV} {k p : Nat} {x : LV} (hb : ∀ z ∈ rs, 0 ≤ z ∧ z < 256) (hl : rs.length < 65536) (hp : p = 4 + 12 * ls.length) (hlt : p < rs.length) (hr : parseLinks (rs.drop 4) = (parseLinks (rs.drop p)).map (ls ++ ·)) (hk : k = rs.length - p + 1)
    (hx : p + 12 ≤ rs.length → takeLink (rs.drop p) = some x) : ∃ k', k' < k ∧ RtrS rs (nextAt rs (some p) 12) (ls ++ [x]) k' := by
  by_cases h : p + 12 ≤ rs.length
  · refine ⟨rs.length - (p + 12) + 1, by omega, ⟨Or.inl ⟨p + 12, nextAt_some h, by simp; omega, h, ?_, rfl⟩⟩⟩
    rw [hr, parse_step (by rw [List.length_drop]; omega), hx h, List.drop_drop]
    dsimp only
    rw [Option.map_map]
    congr 1
    funext t
    simp
  · refine ⟨0, by omega, ⟨Or.inr ⟨nextAt_none h, rfl, dec1_nolinks hb hl ?_⟩⟩⟩
    rw [hr, parse_short (by rw [List.length_drop]; omega) (by rw [List.length_drop]; omega)]
    rfl
theorem rtr_no {rs : List Int} {ls : List LV} {p : Nat} (hb : ∀ z ∈ rs, 0 ≤ z ∧ z < 256) (hl : rs.length < 65536) (hlt : p < rs.length) (hr : parseLinks (rs.drop 4) = (parseLinks (rs.drop p)).map (ls ++ ·))
    (hx : p + 12 ≤ rs.length → takeLink (rs.drop p) = none) : decB 1 rs = none := by
  refine dec1_nolinks hb hl ?_
  rw [hr]
  by_cases h : p + 12 ≤ rs.length
  · rw [parse_step (by rw [List.length_drop]; omega), hx h]
    rfl
  · rw [parse_short (by rw [List.length_drop]; omega) (by rw [List.length_drop]; omega)]
    rfl
theorem rtr_end {rs : List Int} {ls : List LV} (hr : parseLinks (rs.drop 4) = (parseLinks (rs.drop rs.length)).map (ls ++ ·)) : parseLinks (rs.drop 4) = some ls := by
  rw [hr, List.drop_length]
  simp [parseLinks]
end Go.Proofs.YtfhkocpnealblaaGreat

namespace Go.Proofs.YtfhkocpnealblaaGreat
open Go.RowKit
set_option linter.unusedVariables false
set_option maxRecDepth 100000

theorem at16 {rs : List Int} (hl : rs.length = 16) : ∃ a b c d e f g i j k m n o p q r, rs = [a, b, c, d, e, f, g, i, j, k, m, n, o, p, q, r] ∧ numAt rs (some 0) 4 = numOf [a, b, c, d] ∧ numAt rs (nextAt rs (some 0) 4) 1 = e ∧ numAt rs (nextAt rs (nextAt rs (some 0) 4) 1) 3 = numOf [f, g, i] ∧ numAt rs (nextAt rs (nextAt rs (nextAt rs (some 0) 4) 1) 3) 4 = numOf [j, k, m, n] ∧ numAt rs (nextAt rs (nextAt rs (nextAt rs (nextAt rs (some 0) 4) 1) 3) 4) 4 = numOf [o, p, q, r] := by
  obtain ⟨a, b, c, d, e, f, g, i, j, k, m, n, o, p, q, r, rfl⟩ := list16 hl
  refine ⟨a, b, c, d, e, f, g, i, j, k, m, n, o, p, q, r, rfl, ?_, ?_, ?_, ?_, ?_⟩
  · simp [numAt]
  · simp [numAt, nextAt, numOf1]
  · simp [numAt, nextAt]
  · simp [numAt, nextAt]
  · simp [numAt, nextAt]
theorem q16 (rs : List Int) : nextAt rs (nextAt rs (nextAt rs (nextAt rs (nextAt rs (some 0) 4) 1) 3) 4) 4 = nextAt rs (some 0) 16 := by rw [nextAt_add, nextAt_add, nextAt_add, nextAt_add]
theorem q16_len {rs : List Int} : nextAt rs (some 0) 16 = some rs.length ↔ rs.length = 16 := by
  unfold nextAt
  dsimp only
  split
  · simp; omega
  · simp; omega
theorem out_yes {t : Int} (ht : t = 5 ∨ t = 7) {rs : List Int} (hb : ∀ z ∈ rs, 0 ≤ z ∧ z < 256) (hm : pbok (numAt rs (some 0) 4) = true) (hz : numAt rs (nextAt rs (some 0) 4) 1 = 0 ∨ numAt rs (nextAt rs (some 0) 4) 1 = 128) :
    decB t rs = (if nextAt rs (nextAt rs (nextAt rs (nextAt rs (nextAt rs (some 0) 4) 1) 3) 4) 4 = some rs.length then some ⟨0, [], numAt rs (some 0) 4, [], numAt rs (nextAt rs (nextAt rs (some 0) 4) 1) 3, numAt rs (nextAt rs (some 0) 4) 1 == 128, numAt rs (nextAt rs (nextAt rs (nextAt rs (some 0) 4) 1) 3) 4, numAt rs (nextAt rs (nextAt rs (nextAt rs (nextAt rs (some 0) 4) 1) 3) 4) 4, []⟩ else none) := by
  by_cases h8 : rs.length = 16
  · obtain ⟨a, b, c, d, e, f, g, i, j, k, m, n, o, p, q, r, hrs, e1, e2, e3, e4, e5⟩ := at16 h8
    rw [q16, if_pos (q16_len.2 h8), e1, e2, e3, e4, e5]
    rw [e1] at hm
    rw [e2] at hz
    rw [hrs] at hb ⊢
    rw [dec5_eq ht hb, if_pos ⟨hm, hz⟩]
  · rw [q16, if_neg (fun h => h8 (q16_len.1 h)), dec57_len ht h8]
theorem out_no {t : Int} (ht : t = 5 ∨ t = 7) {rs : List Int} (hb : ∀ z ∈ rs, 0 ≤ z ∧ z < 256) (h : pbok (numAt rs (some 0) 4) = false ∨ ¬ (numAt rs (nextAt rs (some 0) 4) 1 = 0 ∨ numAt rs (nextAt rs (some 0) 4) 1 = 128)) : decB t rs = none := by
  by_cases h8 : rs.length = 16
  · obtain ⟨a, b, c, d, e, f, g, i, j, k, m, n, o, p, q, r, hrs, e1, e2, e3, e4, e5⟩ := at16 h8
    rw [e1, e2] at h
    rw [hrs] at hb ⊢
    rw [dec5_eq ht hb, if_neg]
    rintro ⟨h1, h2⟩
    rcases h with h | h
    · rw [h1] at h; cases h
    · exact h h2
  · exact dec57_len ht h8
end Go.Proofs.YtfhkocpnealblaaGreat

namespace Go.Proofs.YtfhkocpnealblaaGreat
open Go.RowKit
set_option linter.unusedVariables false
set_option maxRecDepth 100000

theorem left_0 (N b : Nat) (rs : List Int) (w : World) (h : Rdr N w b rs (some 0)) : Calls Tryz.prog 107 #[.pointer (some ⟨b, 0, none⟩)] w fun e w' => e = .returned (.int .i64 (rs.length : Int)) ∧ ∃ n, w' = w.drewN n := by
  have := left_some N b 0 rs w h
  rwa [show (rs.length : Int) - ((0 : Nat) : Int) = (rs.length : Int) by omega] at this
theorem rbytes_0 (N b : Nat) (rs : List Int) (w : World) (h : Rdr N w b rs (some 0)) (hc : rs.length ≤ 1099511627776) :
    Calls Tryz.prog 78 #[.pointer (some ⟨b, 0, none⟩), .int .i64 (rs.length : Int)] w fun e w' => ∃ v, e = .returned v ∧ w'.ownsRow w.heap.size 5 1 v rs.length (bytesOf rs) ∧ Rdr N w' b rs (some rs.length) ∧ Touch (fun k => k = b) w w' := by
  have := rbytes_r N b 0 rs w h hc
  rwa [show (rs.length : Int) - ((0 : Nat) : Int) = (rs.length : Int) by omega, Nat.sub_zero, List.drop_zero] at this
end Go.Proofs.YtfhkocpnealblaaGreat

namespace Go.Proofs.YtfhkocpnealblaaGreat
open Go.RowKit
set_option linter.unusedVariables false
set_option maxRecDepth 100000

theorem known_cases {t : Int} (h : knownB t = true) : t = 1 ∨ t = 2 ∨ t = 3 ∨ t = 4 ∨ t = 5 ∨ t = 7 ∨ t = 9 ∨ t = 10 ∨ t = 11 := by
  simp [knownB] at h
  omega
theorem unknown_cases {t : Int} (h0 : 0 ≤ t) (h : knownB t = false) : t = 0 ∨ t = 6 ∨ t = 8 ∨ 12 ≤ t := by
  simp [knownB] at h
  omega
/-- What Decode tells of a state that it refuses. -/
def decE (h : HV) (rs : List Int) : Int := if h.len ≠ 20 + (rs.length : Int) then 22 else if knownB h.typ = false then 21 else if decB h.typ rs = none then 28 else 0
/-- What Check answers. -/
def chkE (h : HV) (rs : List Int) : Int :=
  if h.len ≠ 20 + (rs.length : Int) then 22 else if h.sum = 0 ∨ whole ((headB h ++ rs).drop 2) = false then 23 else if knownB h.typ = false then 21
  else if h.seq = -2147483648 ∨ ¬ bits BinOp.andNot .u16 h.age 32768 ≤ 3600 then 24 else if decB h.typ rs = none then 28 else 0
end Go.Proofs.YtfhkocpnealblaaGreat
