
/- Rows of heads: read, copied, compared. -/
import Derived.Test.YtojlnabhaglejaaAdArgs
import Derived.Test.YtojlnabhaglejaaRowB
import Derived.Test.YtojlnabhaglejaaAdWant2
import Derived.Maps.AppendAt
import Derived.Laws.AppendOwnNone
import Derived.Deep.QuietTactic
namespace Go.Proofs.Ytojlnabhaglejaa
open Go.RowKit
set_option linter.unusedVariables false
set_option maxRecDepth 100000

theorem infoH14 : (Try.prog.info? 50).map (fun i => (i.zero, i.size, i.bytes)) = some (some (.agg #[.int .u16 0, .int .u8 0, .int .u8 0, .int .u32 0, .int .u32 0, .int .i32 0, .int .u16 0, .int .u16 0]), 8, 20) := by kernel_rfl
/-- A slice of n elements of k cells each reads, cell by cell, as xs; of the address of one without cells nothing is known. -/
def ValsAt (w : World) (k : Nat) (v : Value) (n : Nat) (xs : List Value) : Prop :=
  xs.length = n * k ∧ ((v = .slice none 0 0 ∧ n = 0) ∨ ∃ ad c, v = .slice (some ad) n c ∧ n ≤ c ∧ c ≤ maxLen ∧ ∀ j u, xs[j]? = some u → w.cell? (ad.add j) = some u)
theorem ValsAt.form {w : World} {k : Nat} {v : Value} {n : Nat} {xs : List Value} (h : ValsAt w k v n xs) : ∃ a c, v = .slice a n c ∧ n ≤ maxLen := by
  rcases h.2 with ⟨rfl, rfl⟩ | ⟨ad, c, rfl, h1, h2, _⟩
  · exact ⟨_, _, rfl, Nat.zero_le _⟩
  · exact ⟨_, _, rfl, Nat.le_trans h1 h2⟩
theorem ValsAt.keep {w w' : World} {k : Nat} {v : Value} {n : Nat} {xs : List Value} (h : ValsAt w k v n xs) (t : Touch (fun _ => False) w w') : ValsAt w' k v n xs := by
  refine ⟨h.1, ?_⟩
  rcases h.2 with h | ⟨ad, c, rfl, h1, h2, h3⟩
  · exact Or.inl h
  · exact Or.inr ⟨ad, c, rfl, h1, h2, fun j u hj => t.cellN (h3 j u hj)⟩
/-- Where there is an element: its cells. -/
theorem ValsAt.cells {w : World} {k : Nat} {v : Value} {n : Nat} {xs : List Value} (h : ValsAt w k v n xs) (hn : 0 < n) (hk : 0 < k) :
    ∃ g off c, v = .slice (some ⟨g, off, none⟩) n c ∧ n ≤ c ∧ c ≤ maxLen ∧ ∀ j u, xs[j]? = some u → w.cell? ⟨g, off + j, none⟩ = some u := by
  obtain ⟨hl, h⟩ := h
  rcases h with ⟨_, rfl⟩ | ⟨ad, c, rfl, h1, h2, h3⟩
  · omega
  · have hp : 0 < xs.length := by rw [hl]; exact Nat.mul_pos hn hk
    obtain ⟨g, off, spot⟩ := ad
    have hc := h3 0 xs[0] (by simp [hp])
    have hspot : spot = none := by simpa [Addr.add] using World.cell?_spot hc
    subst hspot
    exact ⟨g, off, c, rfl, h1, h2, fun j u hj => by have := h3 j u hj; rwa [add_plain] at this⟩
/-- v is a row of n elements (type e, k cells each) that was made since w0, and reads as xs; nothing of w0 has turned. -/
structure VBuf (e k : Nat) (w0 w : World) (v : Value) (n : Nat) (xs : List Value) : Prop where
  own : w.ownsRow w0.heap.size e k v n xs
  t : Touch (fun _ => False) w0 w
theorem VBuf.keep {e k : Nat} {w0 w w' : World} {v : Value} {n : Nat} {xs : List Value} (h : VBuf e k w0 w v n xs) (t : Touch (fun _ => False) w w') : VBuf e k w0 w' v n xs := ⟨own_touch h.own t (fun _ _ h => h), h.t.trans t⟩
theorem VBuf.nil (e k : Nat) {w0 w : World} (t : Touch (fun _ => False) w0 w) : VBuf e k w0 w (.slice none 0 0) 0 [] := ⟨World.ownsRow_nil _ _ _ _, t⟩
theorem VBuf.form {e k : Nat} {w0 w : World} {v : Value} {n : Nat} {xs : List Value} (h : VBuf e k w0 w v n xs) : ∃ a c, v = .slice a n c := by
  rcases h.own.2 with ⟨rfl, e⟩ | ⟨g, cap, cur, rfl, _⟩
  · exact ⟨none, 0, by rw [e]⟩
  · exact ⟨_, cap, rfl⟩
theorem VBuf.vals {e k : Nat} {w0 w : World} {v : Value} {n : Nat} {xs : List Value} (h : VBuf e k w0 w v n xs) : ValsAt w k v n xs := by
  refine ⟨h.own.1, ?_⟩
  rcases h.own.2 with h2 | ⟨g, cap, cur, hv, hb, hh, h1, h2, h3, h4⟩
  · exact Or.inl h2
  · refine Or.inr ⟨_, cap, hv, h1, h2, fun j u hj => ?_⟩
    have hjl := (List.getElem?_eq_some_iff.mp hj).1
    have hl := h.own.1
    rw [add_plain, Nat.zero_add]
    rw [← h4, List.getElem?_take, if_pos (by omega)] at hj
    simp [World.cell?, hh]
    simpa using hj
section
variable {ops : Array Oper} {rest : List Oper} {o : Oper} {a : Act} {Q : Exit → Act → World → Prop} {w : World}
/-- append(p, x...), of any element type. -/
theorem vapp_arg (hgd : o.guard = none) (s x : Operand) (t : TypeId) (ho : o.op = .call { callee := .builtin .append, args := #[s, x], argTypes := #[t, t] })
    (e k bytes : Nat) (z : Value) (ht : Try.prog.underlying t = some (.slice e)) (hi : (Try.prog.info? e).map (fun i => (i.zero, i.size, i.bytes)) = some (some z, k, bytes)) (hzs : z.cells.size = k) (hk : 0 < k) (hby : bytes ≤ 64)
    (w0 : World) (v : Value) (n : Nat) (xs : List Value) (hs : a.eval s = v) (hb : VBuf e k w0 w v n xs) (vx : Value) (m : Nat) (news : List Value) (hx : a.eval x = vx) (hr : ValsAt w k vx m news) (h1 : ∀ u ∈ news, u.oneCell' = true) (hl : n + m ≤ 1099511627776)
    (h : ∀ v' w', VBuf e k w0 w' v' (n + m) (xs ++ news) → wpList Try.prog ops Q rest (a.put o.dst v') w') : wpList Try.prog ops Q (o :: rest) a w := by
  obtain ⟨i0, hi, hz0, hz1, hz2⟩ := infoParts hi
  obtain ⟨hnl, hr⟩ := hr
  rcases hr with ⟨rfl, rfl⟩ | ⟨ad, c, rfl, h2, h3, h4⟩
  · have hn0 : news = [] := List.length_eq_zero_iff.1 (by omega)
    subst hn0
    refine wpList_append_own_none hgd s x t ho w0.heap.size e i0 k ht hi v n xs hs hb.own hx ?_
    exact h v w (by rw [List.append_nil]; exact hb)
  · have hmul : (n + m) * bytes ≤ 1099511627776 * 64 := Nat.mul_le_mul hl hby
    refine wpList_append_own_at w hgd s x t ho w0.heap.size e i0 z k bytes ht hi hz0 hz1 hz2 hzs hk v n xs hs hb.own ad m c news hx hnl h4 h1 (by unfold maxLen; omega) (by omega) hb.t.size ?_
    intro v' w' hown hg _ _
    exact h v' w' ⟨hown, hb.t.grown hg (fun k hk => Or.inr (hb.own.lt k hk).1)⟩
end
def HV.cells (x : HV) : List Value := [.int .u16 x.age, .int .u8 x.opts, .int .u8 x.typ, .int .u32 x.id, .int .u32 x.adv, .int .i32 x.seq, .int .u16 x.sum, .int .u16 x.len]
def headsC (l : List HV) : List Value := l.flatMap HV.cells
theorem length_headsC (l : List HV) : (headsC l).length = l.length * 8 := by
  induction l with
  | nil => rfl
  | cons x r ih => unfold headsC at *; rw [List.flatMap_cons, List.length_append, ih, List.length_cons]; simp [HV.cells]; omega
theorem headsC_at (l : List HV) (j i : Nat) (x : HV) (hj : l[j]? = some x) (hi : i < 8) : (headsC l)[j * 8 + i]? = x.cells[i]? := by
  induction l generalizing j with
  | nil => simp at hj
  | cons y r ih =>
    have e : headsC (y :: r) = y.cells ++ headsC r := by simp [headsC]
    have hl : y.cells.length = 8 := rfl
    rw [e]
    cases j with
    | zero =>
      obtain rfl : y = x := by simpa using hj
      rw [List.getElem?_append_left (by omega), Nat.zero_mul, Nat.zero_add]
    | succ j =>
      rw [List.getElem?_append_right (by omega), hl, show (j + 1) * 8 + i - 8 = j * 8 + i by omega]
      exact ih j (by simpa using hj)
def HeadsAt (w : World) (v : Value) (l : List HV) : Prop := ValsAt w 8 v l.length (headsC l)
theorem HeadsAt.one {w : World} {v : Value} {l : List HV} (h : HeadsAt w v l) {j : Nat} {x : HV} (hj : l[j]? = some x) : ∃ g off c, v = .slice (some ⟨g, off, none⟩) l.length c ∧ ∀ i u, x.cells[i]? = some u → w.cell? ⟨g, off + (j * 8 + i), none⟩ = some u := by
  have hlt := (List.getElem?_eq_some_iff.mp hj).1
  obtain ⟨g, off, c, e, _, _, hc⟩ := ValsAt.cells h (by omega) (by omega)
  refine ⟨g, off, c, e, fun i u hu => hc _ _ ?_⟩
  have hi : i < 8 := (List.getElem?_eq_some_iff.mp hu).1
  rw [headsC_at l j i x hj hi]
  exact hu
theorem oneCell_headsC (l : List HV) : ∀ u ∈ headsC l, u.oneCell' = true := by
  intro u hu
  obtain ⟨x, _, hu⟩ := List.mem_flatMap.1 hu
  simp [HV.cells] at hu
  rcases hu with rfl | rfl | rfl | rfl | rfl | rfl | rfl | rfl <;> rfl
theorem cheadsP (v : Value) (l : List HV) (w : World) (hv : HeadsAt w v l) (hl : l.length ≤ 1000000) : Calls Try.prog 17 #[v] w fun e w' => ∃ u, e = .returned u ∧ VBuf 50 8 w w' u l.length (headsC l) := by
  have HV' : Hid (HeadsAt w v l) := hv
  clear hv
  go_enter Try.func17, Try.ntmps17
  go_wp2_with (at_builtin; refine vapp_arg rfl (.tmp 4) (.tmp 5) 22 rfl 50 8 20 (.agg #[.int .u16 0, .int .u8 0, .int .u8 0, .int .u32 0, .int .u32 0, .int .i32 0, .int .u16 0, .int .u16 0]) Try.underlying22 infoH14 rfl (by decide) (by decide) w (.slice none 0 0) 0 [] rfl (VBuf.nil _ _ (Touch.refl _ _)) v l.length (headsC l) rfl HV'.out (oneCell_headsC l) (by omega) ?_)
  intro v' w' b
  obtain ⟨xa, xc, rfl⟩ := b.form
  have B : Hid (VBuf 50 8 w w' (.slice xa l.length xc) l.length (headsC l)) := b
  clear b
  go_wp2
  go_ret
  exact ⟨_, rfl, B.out⟩
set_option maxHeartbeats 1000000 in
theorem eheadsP (va vb : Value) (l : List HV) (w : World) (ha : HeadsAt w va l) (hb : HeadsAt w vb l) :
    Calls Try.prog 18 #[va, vb] w fun e w' => e = .returned (.bool true) ∧ ∃ n, w' = w.drewN n := by
  obtain ⟨aa, ca, rfl, hm⟩ := ValsAt.form ha
  obtain ⟨ab, cb, rfl, _⟩ := ValsAt.form hb
  unfold maxLen at hm
  have HA : Hid (HeadsAt w (.slice aa l.length ca) l) := ha
  have HB : Hid (HeadsAt w (.slice ab l.length cb) l) := hb
  clear ha hb
  go_enter Try.func18, Try.ntmps18
  go_wp2
  go_loopw [5] (fun i wr => ∃ k nd : Nat, k ≤ l.length ∧ i = .int .i64 k ∧ wr = w.drewN nd) (fun i _ => l.length - (intOf i).toNat)
  case atStart => exact ⟨0, 0, Nat.zero_le _, rfl, rfl⟩
  case round =>
    obtain ⟨j, nd, hk, rfl, rfl⟩ := hrel
    by_cases hlt : j < l.length
    · obtain ⟨x, hx⟩ : ∃ x, l[j]? = some x := ⟨l[j], by simp [hlt]⟩
      obtain ⟨ga, oa, _, ea, -, -, za⟩ := ValsAt.cells HA.out (by omega) (by omega)
      obtain ⟨gb, ob, _, eb, -, -, zb⟩ := ValsAt.cells HB.out (by omega) (by omega)
      cases ea
      cases eb
      have pa : ∀ i u, i < 8 → x.cells[i]? = some u → w.cell? ⟨ga, oa + (j * 8 + i), none⟩ = some u := fun i u hi hu => za (j * 8 + i) u (by rw [headsC_at l j i x hx hi]; exact hu)
      have pb : ∀ i u, i < 8 → x.cells[i]? = some u → w.cell? ⟨gb, ob + (j * 8 + i), none⟩ = some u := fun i u hi hu => zb (j * 8 + i) u (by rw [headsC_at l j i x hx hi]; exact hu)
      have ha0 : w.cell? ⟨ga, oa + j * 8, none⟩ = some (.int .u16 x.age) := pa 0 _ (by omega) rfl
      have ha1 : w.cell? ⟨ga, oa + j * 8 + 1, none⟩ = some (.int .u8 x.opts) := by rw [Nat.add_assoc]; exact pa 1 _ (by omega) rfl
      have ha2 : w.cell? ⟨ga, oa + j * 8 + 2, none⟩ = some (.int .u8 x.typ) := by rw [Nat.add_assoc]; exact pa 2 _ (by omega) rfl
      have ha3 : w.cell? ⟨ga, oa + j * 8 + 3, none⟩ = some (.int .u32 x.id) := by rw [Nat.add_assoc]; exact pa 3 _ (by omega) rfl
      have ha4 : w.cell? ⟨ga, oa + j * 8 + 4, none⟩ = some (.int .u32 x.adv) := by rw [Nat.add_assoc]; exact pa 4 _ (by omega) rfl
      have ha5 : w.cell? ⟨ga, oa + j * 8 + 5, none⟩ = some (.int .i32 x.seq) := by rw [Nat.add_assoc]; exact pa 5 _ (by omega) rfl
      have ha6 : w.cell? ⟨ga, oa + j * 8 + 6, none⟩ = some (.int .u16 x.sum) := by rw [Nat.add_assoc]; exact pa 6 _ (by omega) rfl
      have ha7 : w.cell? ⟨ga, oa + j * 8 + 7, none⟩ = some (.int .u16 x.len) := by rw [Nat.add_assoc]; exact pa 7 _ (by omega) rfl
      have hb0 : w.cell? ⟨gb, ob + j * 8, none⟩ = some (.int .u16 x.age) := pb 0 _ (by omega) rfl
      have hb1 : w.cell? ⟨gb, ob + j * 8 + 1, none⟩ = some (.int .u8 x.opts) := by rw [Nat.add_assoc]; exact pb 1 _ (by omega) rfl
      have hb2 : w.cell? ⟨gb, ob + j * 8 + 2, none⟩ = some (.int .u8 x.typ) := by rw [Nat.add_assoc]; exact pb 2 _ (by omega) rfl
      have hb3 : w.cell? ⟨gb, ob + j * 8 + 3, none⟩ = some (.int .u32 x.id) := by rw [Nat.add_assoc]; exact pb 3 _ (by omega) rfl
      have hb4 : w.cell? ⟨gb, ob + j * 8 + 4, none⟩ = some (.int .u32 x.adv) := by rw [Nat.add_assoc]; exact pb 4 _ (by omega) rfl
      have hb5 : w.cell? ⟨gb, ob + j * 8 + 5, none⟩ = some (.int .i32 x.seq) := by rw [Nat.add_assoc]; exact pb 5 _ (by omega) rfl
      have hb6 : w.cell? ⟨gb, ob + j * 8 + 6, none⟩ = some (.int .u16 x.sum) := by rw [Nat.add_assoc]; exact pb 6 _ (by omega) rfl
      have hb7 : w.cell? ⟨gb, ob + j * 8 + 7, none⟩ = some (.int .u16 x.len) := by rw [Nat.add_assoc]; exact pb 7 _ (by omega) rfl
      clear za zb pa pb hx HA HB
      go_wp2
      go_quiet (fail)
      go_wp2
      go_roundw
      case rel => exact ⟨j + 1, _, by omega, by go_num, rfl⟩
      case measure => simp [intOf]; omega
    · go_wp2
      go_ret
      exact ⟨rfl, nd, rfl⟩
end Go.Proofs.Ytojlnabhaglejaa
