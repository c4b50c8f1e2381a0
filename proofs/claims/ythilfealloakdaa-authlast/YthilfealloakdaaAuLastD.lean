/- The document's list of last numbers. -/
import Derived.Test.YthilfealloakdaaAuLast
namespace Go.Proofs.Ythilfealloakdaa
open Go.RowKit
set_option linter.unusedVariables false
set_option maxRecDepth 100000

def onesC (ls : List (Int × Int)) : List Value := ls.flatMap fun p => [.int .u32 p.1, .int .u32 p.2]
theorem length_onesC (ls : List (Int × Int)) : (onesC ls).length = ls.length * 2 := by
  induction ls with
  | nil => rfl
  | cons x r ih => unfold onesC at *; rw [List.flatMap_cons, List.length_append, ih, List.length_cons]; simp; omega
theorem onesC_append (a b : List (Int × Int)) : onesC (a ++ b) = onesC a ++ onesC b := by simp [onesC]
theorem onesC_at (l : List (Int × Int)) (j i : Nat) (x : Int × Int) (hj : l[j]? = some x) (hi : i < 2) : (onesC l)[j * 2 + i]? = [Value.int .u32 x.1, .int .u32 x.2][i]? := by
  induction l generalizing j with
  | nil => simp at hj
  | cons y r ih =>
    have e : onesC (y :: r) = [.int .u32 y.1, .int .u32 y.2] ++ onesC r := by simp [onesC]
    rw [e]
    cases j with
    | zero =>
      obtain rfl : y = x := by simpa using hj
      rw [List.getElem?_append_left (by simp; omega), Nat.zero_mul, Nat.zero_add]
    | succ j =>
      rw [List.getElem?_append_right (by simp; omega)]
      have := ih j (by simpa using hj)
      rw [← this]
      congr 1
      simp
      omega
theorem oneCell_onesC (l : List (Int × Int)) : ∀ u ∈ onesC l, u.oneCell' = true := by
  intro u hu
  simp only [onesC, List.mem_flatMap, List.mem_cons, List.not_mem_nil, or_false] at hu
  obtain ⟨p, _, rfl | rfl⟩ := hu <;> rfl
/-- What the list says of a router. -/
def lookD (ls : List (Int × Int)) (r : Int) : Option Int := (ls.find? fun p => p.1 == r).map Prod.snd
def noD (ls : List (Int × Int)) (r : Int) : List (Int × Int) := ls.filter fun p => p.1 != r
theorem lookD_no (ls : List (Int × Int)) (r q : Int) : lookD (noD ls r) q = if q = r then none else lookD ls q := by
  unfold lookD noD
  induction ls with
  | nil => simp
  | cons p t ih =>
    rw [List.filter_cons]
    by_cases hp : p.1 = r
    · rw [if_neg (by simp [hp]), ih]
      by_cases hq : q = r
      · simp [hq]
      · rw [if_neg hq, if_neg hq, List.find?_cons_of_neg (by simp [hp]; exact fun h => hq h.symm)]
    · rw [if_pos (by simp [hp])]
      by_cases hpq : p.1 = q
      · rw [List.find?_cons_of_pos (by simp [hpq]), List.find?_cons_of_pos (by simp [hpq]), if_neg (by rw [← hpq]; exact hp)]
      · rw [List.find?_cons_of_neg (by simpa using hpq), List.find?_cons_of_neg (by simpa using hpq), ih]
theorem lookD_put (ls : List (Int × Int)) (r s q : Int) : lookD (noD ls r ++ [(r, s)]) q = if q = r then some s else lookD ls q := by
  have h := lookD_no ls r q
  unfold lookD at *
  rw [List.find?_append]
  by_cases hq : q = r
  · rw [if_pos hq] at h ⊢
    rw [Option.map_eq_none_iff] at h
    rw [h, hq]
    simp
  · rw [if_neg hq] at h ⊢
    have : ([(r, s)] : List (Int × Int)).find? (fun p => p.1 == q) = none := by simp; exact fun h => hq h.symm
    rw [this, Option.or_none, h]
/-- The document's list in block d, its row v. -/
structure DL (w : World) (d : Nat) (v : Value) (ls : List (Int × Int)) : Prop where
  cell : w.cell? ⟨d, 0, none⟩ = some v
  fz : w.frozen? ⟨d, 0, none⟩ = false
  own : w.ownsRow (d + 1) 70 2 v ls.length (onesC ls)
  big : ls.length ≤ 1000000
theorem DL.keep {F : Nat → Prop} {w w' : World} {d : Nat} {v : Value} {ls : List (Int × Int)} (h : DL w d v ls) (t : Touch F w w') (hd : ¬ F d) (hv : ∀ k, v.ownBlock = some k → ¬ F k) : DL w' d v ls :=
  ⟨(t.cell (p := ⟨d, 0, none⟩) (lt_of_cell h.cell) hd).trans h.cell, (t.frozen (p := ⟨d, 0, none⟩) (lt_of_cell h.cell) hd).trans h.fz, own_touch h.own t hv, h.big⟩
theorem DL.form {w : World} {d : Nat} {v : Value} {ls : List (Int × Int)} (h : DL w d v ls) : ∃ a c, v = .slice a ls.length c := by
  rcases h.own.2 with ⟨rfl, e⟩ | ⟨g, cap, cur, rfl, _⟩
  · exact ⟨none, 0, by rw [e]⟩
  · exact ⟨_, cap, rfl⟩
theorem DL.one {w : World} {d : Nat} {a : Option Addr} {c n : Nat} {ls : List (Int × Int)} (h : DL w d (.slice a n c) ls) {j : Nat} {x : Int × Int} (hj : ls[j]? = some x) : ∃ g, a = some ⟨g, 0, none⟩ ∧ w.cell? ⟨g, j * 2, none⟩ = some (.int .u32 x.1) ∧ w.cell? ⟨g, j * 2 + 1, none⟩ = some (.int .u32 x.2) := by
  have hlt := (List.getElem?_eq_some_iff.mp hj).1
  rcases h.own.2 with ⟨_, e⟩ | ⟨g, cap, cur, e, _⟩
  · omega
  · cases e
    refine ⟨g, rfl, ?_, ?_⟩
    · have := h.own.cells (g := g) rfl (j * 2 + 0) _ (onesC_at ls j 0 x hj (by omega))
      rwa [add_plain, Nat.zero_add] at this
    · have := h.own.cells (g := g) rfl (j * 2 + 1) _ (onesC_at ls j 1 x hj (by omega))
      rwa [add_plain, Nat.zero_add] at this
theorem own_low {w : World} {b1 b2 e k : Nat} {v : Value} {n : Nat} {xs : List Value} (h : w.ownsRow b1 e k v n xs) (hb : b2 ≤ b1) : w.ownsRow b2 e k v n xs := by
  refine ⟨h.1, ?_⟩
  rcases h.2 with h2 | ⟨g, cap, cur, hv, hg, hr⟩
  · exact Or.inl h2
  · exact Or.inr ⟨g, cap, cur, hv, Nat.le_trans hb hg, hr⟩
theorem Try.infoOne : (Try.prog.info? 70).map (fun i => (i.zero, i.size, i.bytes)) = some (some (.agg #[.int .u32 0, .int .u32 0]), 2, 8) := by kernel_rfl
section
variable {ops : Array Oper} {rest : List Oper} {o : Oper} {a : Act} {Q : Exit → Act → World → Prop} {w : World}
/-- append(p, z), one new element in a block of its own. -/
theorem one_app (hgd : o.guard = none) (s x : Operand) (ho : o.op = .call { callee := .builtin .append, args := #[s, x], argTypes := #[36, 36] })
    (base : Nat) (v : Value) (ls : List (Int × Int)) (hs : a.eval s = v) (hb : w.ownsRow base 70 2 v ls.length (onesC ls)) (hbase : base ≤ w.heap.size) (p : Int × Int) (hx : a.eval x = .slice (some ⟨w.heap.size, 0, none⟩) 1 1) (hl : ls.length ≤ 1000000)
    (h : ∀ v' w', w'.ownsRow base 70 2 v' (ls ++ [p]).length (onesC (ls ++ [p])) → (w.alloc (.cells #[.int .u32 p.1, .int .u32 p.2] 70)).grownBy w' v.ownBlock → (v'.ownBlock = v.ownBlock ∨ v'.ownBlock = some (w.alloc (.cells #[.int .u32 p.1, .int .u32 p.2] 70)).heap.size) → wpList Try.prog ops Q rest (a.put o.dst v') w') : wpList Try.prog ops Q (o :: rest) a (w.alloc (.cells #[.int .u32 p.1, .int .u32 p.2] 70)) := by
  obtain ⟨i0, hi, hz0, hz1, hz2⟩ := info_parts Try.infoOne
  have hb' := own_touch hb ((Touch.refl (fun _ => False) w).alloc (.cells #[.int .u32 p.1, .int .u32 p.2] 70)) (fun _ _ h => h)
  refine wpList_append_own_at _ hgd s x 36 ho base 70 i0 (.agg #[.int .u32 0, .int .u32 0]) 2 8 Try.underlying36 hi hz0 hz1 hz2 rfl (by decide) v ls.length (onesC ls) hs hb' ⟨w.heap.size, 0, none⟩ 1 1 [.int .u32 p.1, .int .u32 p.2] hx rfl ?_ ?_ (by unfold maxLen; omega) (by omega) (by simp; omega) ?_
  · intro j u hj
    rw [add_plain, Nat.zero_add, (row_new w 70 #[.int .u32 p.1, .int .u32 p.2]).cell j]
    exact hj
  · intro u hu
    simp only [List.mem_cons, List.not_mem_nil, or_false] at hu
    rcases hu with rfl | rfl <;> rfl
  · intro v' w' hown hg _ hmv
    refine h v' w' ?_ hg hmv
    rw [List.length_append, onesC_append]
    exact hown
end
structure DgR (ls : List (Int × Int)) (r : Int) (gg : Nat) (s6 : Value) : Prop where
  out : ∃ k : Nat, k ≤ ls.length ∧ ls.length - k ≤ gg ∧ s6 = .int .i64 k ∧ ∀ j p, j < k → ls[j]? = some p → ¬ p.1 = r
theorem lookD_hit {ls : List (Int × Int)} {r : Int} {k : Nat} {p : Int × Int} (h : ∀ j q, j < k → ls[j]? = some q → ¬ q.1 = r) (hk : ls[k]? = some p) (hp : p.1 = r) : lookD ls r = some p.2 := by
  unfold lookD
  have : ls.find? (fun p => p.1 == r) = some p := by
    rw [List.find?_eq_some_iff_getElem]
    have hlt := (List.getElem?_eq_some_iff.mp hk).1
    refine ⟨by simpa using hp, k, hlt, (List.getElem?_eq_some_iff.mp hk).2, fun j hj => ?_⟩
    have := h j ls[j] hj (List.getElem?_eq_getElem (by omega))
    simpa using this
  rw [this]; rfl
theorem lookD_miss {ls : List (Int × Int)} {r : Int} (h : ∀ j q, j < ls.length → ls[j]? = some q → ¬ q.1 = r) : lookD ls r = none := by
  unfold lookD
  rw [Option.map_eq_none_iff, List.find?_eq_none]
  intro x hx
  obtain ⟨j, hj, rfl⟩ := List.getElem_of_mem hx
  have := h j _ hj (List.getElem?_eq_getElem hj)
  simpa using this
set_option maxHeartbeats 1000000 in
theorem dget_any (w : World) (d : Nat) (v : Value) (ls : List (Int × Int)) (r : Int) (h : DL w d v ls) : Calls Try.prog 19 #[.pointer (some ⟨d, 0, none⟩), .int .u32 r] w fun e w' => e = .returned (.tuple #[.int .u32 ((lookD ls r).getD 0), .bool (lookD ls r).isSome]) ∧ w = w' := by
  obtain ⟨a, c, rfl⟩ := h.form
  have hc := h.cell
  have hbig := h.big
  have HD : Hid (DL w d (.slice a ls.length c) ls) := h
  have HH : Hid (∀ (k : Nat) (p : Int × Int), (∀ (j : Nat) (q : Int × Int), j < k → ls[j]? = some q → ¬ q.1 = r) → ls[k]? = some p → p.1 = r → lookD ls r = some p.2) := fun k p h1 h2 h3 => lookD_hit h1 h2 h3
  have HM : Hid ((∀ (j : Nat) (q : Int × Int), j < ls.length → ls[j]? = some q → ¬ q.1 = r) → lookD ls r = none) := lookD_miss
  generalize lookD ls r = LL at *
  clear h
  go_enter Try.func19, Try.ntmps19
  go_wp2_with fail
  go_loopg [6] ls.length (fun gg s6 wr => DgR ls r gg s6 ∧ wr = w)
  case atStart => exact ⟨⟨0, by omega, by omega, rfl, fun j p hj => by omega⟩, rfl⟩
  case round =>
    obtain ⟨⟨k, hk, hg, rfl, hpre⟩, rfl⟩ := hrel
    have HP : Hid (∀ (j : Nat) (q : Int × Int), j < k → ls[j]? = some q → ¬ q.1 = r) := hpre
    clear hpre
    by_cases hlt : k < ls.length
    · have hlt' : (k : Int) < (ls.length : Int) := by omega
      have hk0 : (0 : Int) ≤ (k : Int) := by omega
      have hkw : wrap64 ((k : Int) + 1) = (k : Int) + 1 := by unfold wrap64; omega
      obtain ⟨p, hp⟩ : ∃ p, ls[k]? = some p := ⟨ls[k], List.getElem?_eq_getElem hlt⟩
      obtain ⟨g, ea, c0, c1⟩ := HD.out.one hp
      subst ea
      by_cases he : p.1 = r
      · have hL := HH.out k p HP.out hp he
        subst hL
        have heb : (p.1 == r) = true := by simpa using he
        clear hp he HH HM HD HP
        go_wp2
        go_ret2
        exact ⟨rfl, rfl⟩
      · have heb : (p.1 == r) = false := by simpa using he
        have HP2 : Hid (∀ (j : Nat) (q : Int × Int), j < k + 1 → ls[j]? = some q → ¬ q.1 = r) := fun j q hj hq => by
          by_cases e : j = k
          · subst e; rw [hp] at hq; cases hq; exact he
          · exact HP.out j q (by omega) hq
        clear hp he HP
        go_wp2
        go_roundg (ls.length - (k + 1))
        case measure => omega
        case rel => exact ⟨⟨k + 1, by omega, by omega, by go_num, HP2.out⟩, rfl⟩
    · have hlt' : ¬ (k : Int) < (ls.length : Int) := by omega
      have hL := HM.out (fun j q hj hq => HP.out j q (by omega) hq)
      subst hL
      go_wp2
      go_ret2
      exact ⟨rfl, rfl⟩
structure DfR (w : World) (ls : List (Int × Int)) (r : Int) (gg : Nat) (s4 s5 : Value) (wr : World) : Prop where
  out : ∃ (k : Nat) (v' : Value), k ≤ ls.length ∧ ls.length - k ≤ gg ∧ s5 = .int .i64 k ∧ s4 = v' ∧ wr.ownsRow w.heap.size 70 2 v' (noD (ls.take k) r).length (onesC (noD (ls.take k) r)) ∧ Touch (fun _ => False) w wr
theorem noD_len (ls : List (Int × Int)) (r : Int) : (noD ls r).length ≤ ls.length := List.length_filter_le _ _
theorem noD_step {ls : List (Int × Int)} {r : Int} {k : Nat} {p : Int × Int} (h : ls[k]? = some p) : noD (ls.take (k + 1)) r = if p.1 = r then noD (ls.take k) r else noD (ls.take k) r ++ [p] := by
  have hlt := (List.getElem?_eq_some_iff.mp h).1
  have e := (List.getElem?_eq_some_iff.mp h).2
  unfold noD
  rw [List.take_succ_eq_append_getElem hlt, List.filter_append, e]
  by_cases hp : p.1 = r <;> simp [hp]
set_option maxHeartbeats 2000000 in
theorem dforget_any (w : World) (d : Nat) (v : Value) (ls : List (Int × Int)) (r : Int) (h : DL w d v ls) : Calls Try.prog 15 #[.pointer (some ⟨d, 0, none⟩), .int .u32 r] w fun e w' => e = .returned (.tuple #[]) ∧ (∃ v', DL w' d v' (noD ls r) ∧ ∀ k, v'.ownBlock = some k → w.heap.size ≤ k) ∧ Touch (fun k => k = d) w w' := by
  obtain ⟨a, c, rfl⟩ := h.form
  have hdl := lt_of_cell h.cell
  have HD : Hid (∀ w', Touch (fun _ => False) w w' → DL w' d (.slice a ls.length c) ls) := fun w' t => h.keep t (fun h => h) (fun _ _ h => h)
  have hbig := h.big
  clear h
  go_enter Try.func15, Try.ntmps15
  go_wp2_with fail
  go_loopg [4, 5] ls.length (fun gg s4 s5 wr => DfR w ls r gg s4 s5 wr)
  case atStart => exact ⟨0, _, by omega, by omega, rfl, rfl, World.ownsRow_nil _ _ _ _, Touch.refl _ _⟩
  case round =>
    obtain ⟨k, v', hk, hg, rfl, hv4, hown, tr⟩ := hrel.out
    clear hrel
    have TR : Hid (Touch (fun _ => False) w wr) := tr
    have dl := HD.out wr tr
    have hc := dl.cell
    have hf := dl.fz
    have hnl := noD_len (ls.take k) r
    rw [List.length_take] at hnl
    have OW : Hid (wr.ownsRow w.heap.size 70 2 v' (noD (ls.take k) r).length (onesC (noD (ls.take k) r))) := hown
    obtain ⟨va, vc, hva⟩ : ∃ a c, v' = .slice a (noD (ls.take k) r).length c := by
      rcases hown.2 with ⟨rfl, e⟩ | ⟨g, cap, cur, rfl, _⟩
      · exact ⟨none, 0, by rw [e]⟩
      · exact ⟨_, cap, rfl⟩
    have hsw := tr.size
    subst hva
    subst hv4
    clear tr hown
    by_cases hlt : k < ls.length
    · have hlt' : (k : Int) < (ls.length : Int) := by omega
      have hk0 : (0 : Int) ≤ (k : Int) := by omega
      have hkw : wrap64 ((k : Int) + 1) = (k : Int) + 1 := by unfold wrap64; omega
      obtain ⟨p, hp⟩ : ∃ p, ls[k]? = some p := ⟨ls[k], List.getElem?_eq_getElem hlt⟩
      have HN : Hid (noD (ls.take (k + 1)) r = if p.1 = r then noD (ls.take k) r else noD (ls.take k) r ++ [p]) := noD_step hp
      obtain ⟨g, ea, c0, c1⟩ := dl.one hp
      subst ea
      clear dl
      by_cases he : p.1 = r
      · have heb : (p.1 != r) = false := by simpa using he
        rw [if_pos he] at HN
        clear he hp
        go_wp2
        go_roundg (ls.length - (k + 1))
        case measure => omega
        case rel => exact ⟨k + 1, _, by omega, by omega, by go_num, rfl, by rw [HN.out]; exact OW.out, TR.out⟩
      · have heb : (p.1 != r) = true := by simpa using he
        rw [if_neg he] at HN
        clear he hp
        generalize noD (ls.take k) r = ND at *
        go_wp2_with (first | (refine one_app rfl (.tmp 25) (.tmp 33) rfl w.heap.size _ ND rfl OW.out hsw p rfl (by omega) ?_; intro u5 w5 o5 g5 _; have O5 : Hid (w5.ownsRow w.heap.size 70 2 u5 (ND ++ [p]).length (onesC (ND ++ [p]))) := o5; have T5 : Hid (Touch (fun _ => False) w w5) := (TR.out.alloc _).grown g5 (fun k hk => Or.inr (OW.out.lt k hk).1); clear o5 g5))
        go_roundg (ls.length - (k + 1))
        case measure => omega
        case rel => exact ⟨k + 1, _, by omega, by omega, by go_num, rfl, by rw [HN.out]; exact O5.out, T5.out⟩
    · have hlt' : ¬ (k : Int) < (ls.length : Int) := by omega
      have hkl : ls.take k = ls := List.take_of_length_le (by omega)
      rw [hkl] at OW hnl
      rw [hkl]
      have hblk : ∀ k, (Value.slice va (noD ls r).length vc).ownBlock = some k → w.heap.size ≤ k := fun k hk => (OW.out.lt k hk).1
      have hne : ∀ k, (Value.slice va (noD ls r).length vc).ownBlock = some k → ¬ k = d := fun k hk e => by have := hblk k hk; omega
      have fin : ∀ w', w' = wr.setCell ⟨d, 0, none⟩ (.slice va (noD ls r).length vc) → (∃ v', DL w' d v' (noD ls r) ∧ ∀ k, v'.ownBlock = some k → w.heap.size ≤ k) ∧ Touch (fun k => k = d) w w' := by
        rintro w' rfl
        have t1 : Touch (fun k => k = d) wr (wr.setCell ⟨d, 0, none⟩ (.slice va (noD ls r).length vc)) := Touch.setCell (F := fun k => k = d) (p := ⟨d, 0, none⟩) (Touch.refl _ _) (Or.inl rfl) _
        refine ⟨⟨_, ⟨by simp [hc, go_sem], by simp [hf, go_sem], own_low (own_touch OW.out t1 hne) (by omega), by omega⟩, hblk⟩, (TR.out.mono (fun _ _ h => h.elim)).trans t1⟩
      clear hne hblk OW dl
      go_wp2
      refine bodyPost_end (results_none rfl _ _ _) rfl ?_
      exact ⟨rfl, fin _ rfl⟩
set_option maxHeartbeats 2000000 in
theorem dtake_any (w : World) (d : Nat) (v : Value) (ls : List (Int × Int)) (r s : Int) (h : DL w d v ls) (hl : ls.length < 1000000) : Calls Try.prog 17 #[.pointer (some ⟨d, 0, none⟩), .int .u32 r, .int .u32 s] w fun e w' =>
    e = .returned (.int .i64 (if s < (lookD ls r).getD 0 ∧ (lookD ls r).isSome = true then 27 else 0)) ∧ (∃ v', DL w' d v' (if s < (lookD ls r).getD 0 ∧ (lookD ls r).isSome = true then ls else noD ls r ++ [(r, s)]) ∧ ∀ k, v'.ownBlock = some k → v'.ownBlock = v.ownBlock ∨ w.heap.size ≤ k) ∧ Touch (fun k => k = d ∨ v.ownBlock = some k) w w' := by
  have HG := dget_any w d v ls r h
  have HF := dforget_any w d v ls r h
  have hdl := lt_of_cell h.cell
  have hnl := noD_len ls r
  have HD : Hid (DL w d v ls) := h
  generalize lookD ls r = LL at *
  generalize noD ls r = ND at *
  clear h
  cases LL with
  | none =>
    rw [if_neg (fun h => by simp at h), if_neg (fun h => by simp at h)]
    rw [Option.getD_none, Option.isSome_none] at HG
    go_enter Try.func17, Try.ntmps17
    go_wp2_with fail
    refine Calls.mono HG ?_
    rintro e w1 ⟨rfl, rfl⟩
    go_wp2_with fail
    refine Calls.mono HF ?_
    rintro e w1 ⟨rfl, ⟨v1, d1, hb1⟩, t1⟩
    obtain ⟨va, vc, rfl⟩ := d1.form
    have hc := d1.cell
    have hf := d1.fz
    have T1 : Hid (Touch (fun k => k = d) w w1) := t1
    have D1 : Hid (DL w1 d (.slice va (ND).length vc) (ND)) := d1
    have HB1 : Hid (∀ k, (Value.slice va (ND).length vc).ownBlock = some k → w.heap.size ≤ k) := hb1
    have hs1 := t1.size
    clear d1 hb1 t1
    have hal : d < w1.heap.size := by omega
    have hc' : (w1.alloc (.cells #[.int .u32 r, .int .u32 s] 70)).cell? ⟨d, 0, none⟩ = some (.slice va ND.length vc) := ((Touch.refl (fun _ => False) w1).alloc _).cellN hc
    go_wp2_with (first | (refine one_app rfl (.tmp 28) (.tmp 32) rfl (d + 1) _ ND rfl D1.out.own (by omega) (r, s) rfl (by omega) ?_; intro u5 w5 o5 g5 mv5; have O5 : Hid (w5.ownsRow (d + 1) 70 2 u5 (ND ++ [(r, s)]).length (onesC (ND ++ [(r, s)]))) := o5; have hbd : ¬ some d = (Value.slice va ND.length vc).ownBlock := (fun e => by have := HB1.out d e.symm; omega); have c5 : w5.cell? ⟨d, 0, none⟩ = some (.slice va ND.length vc) := (World.cell?_of_block (w := w1.alloc (.cells #[.int .u32 r, .int .u32 s] 70)) (g5.block d (by simp; omega) hbd)).trans hc'; have f5 : w5.frozen? ⟨d, 0, none⟩ = false := (World.frozen?_of_block (w := w1.alloc (.cells #[.int .u32 r, .int .u32 s] 70)) (g5.block d (by simp; omega) hbd)).trans ((((Touch.refl (fun _ => False) w1).alloc _).frozen (p := ⟨d, 0, none⟩) hal (fun h => h)).trans hf); have T5 : Hid (Touch (fun k => k = d) w w5) := ((T1.out.alloc _).grown g5 (fun k hk => Or.inr (HB1.out k hk))); obtain ⟨ua, uc, hu⟩ : ∃ a c, u5 = .slice a (ND.length + 1) c := (o5.2.elim (fun h => absurd h.2 (by simp)) (fun ⟨g, cap, cur, e, _⟩ => ⟨some ⟨g, 0, none⟩, cap, by rw [e]; simp⟩)); subst hu; have HB5 : Hid (∀ k, (Value.slice ua (ND.length + 1) uc).ownBlock = some k → w.heap.size ≤ k) := (fun k hk => by rcases mv5 with h | h; exact HB1.out k (h ▸ hk); rw [h] at hk; simp at hk; omega); clear o5 g5 mv5))
    clear hc'
    go_wp2_with fail
    have NE5 : ∀ k, (Value.slice ua (ND.length + 1) uc).ownBlock = some k → ¬ k = d := fun k hk e => by have := HB5.out k hk; omega
    have t6 : Touch (fun k => k = d) w5 (w5.setCell ⟨d, 0, none⟩ (.slice ua (ND.length + 1) uc)) := Touch.setCell (F := fun k => k = d) (p := ⟨d, 0, none⟩) (Touch.refl _ _) (Or.inl rfl) _
    go_ret
    exact ⟨rfl, ⟨_, ⟨by simp [c5, go_sem], by simp [f5, go_sem], own_touch O5.out t6 NE5, by simp; omega⟩, fun k hk => Or.inr (HB5.out k hk)⟩, (T5.out.trans t6).mono (fun _ _ h => Or.inl h)⟩
  | some L =>
    rw [Option.getD_some, Option.isSome_some] at HG
    rw [Option.getD_some, Option.isSome_some]
    by_cases hL : s < L
    · rw [if_pos ⟨hL, rfl⟩, if_pos ⟨hL, rfl⟩]
      go_enter Try.func17, Try.ntmps17
      go_wp2_with fail
      refine Calls.mono HG ?_
      rintro e w1 ⟨rfl, rfl⟩
      go_wp2_with fail
      go_ret
      exact ⟨rfl, ⟨v, HD.out, fun k hk => Or.inl rfl⟩, Touch.refl _ _⟩
    · rw [if_neg (fun h => hL h.1), if_neg (fun h => hL h.1)]
      go_enter Try.func17, Try.ntmps17
      go_wp2_with fail
      refine Calls.mono HG ?_
      rintro e w1 ⟨rfl, rfl⟩
      go_wp2_with fail
      refine Calls.mono HF ?_
      rintro e w1 ⟨rfl, ⟨v1, d1, hb1⟩, t1⟩
      obtain ⟨va, vc, rfl⟩ := d1.form
      have hc := d1.cell
      have hf := d1.fz
      have T1 : Hid (Touch (fun k => k = d) w w1) := t1
      have D1 : Hid (DL w1 d (.slice va (ND).length vc) (ND)) := d1
      have HB1 : Hid (∀ k, (Value.slice va (ND).length vc).ownBlock = some k → w.heap.size ≤ k) := hb1
      have hs1 := t1.size
      clear d1 hb1 t1
      have hal : d < w1.heap.size := by omega
      have hc' : (w1.alloc (.cells #[.int .u32 r, .int .u32 s] 70)).cell? ⟨d, 0, none⟩ = some (.slice va ND.length vc) := ((Touch.refl (fun _ => False) w1).alloc _).cellN hc
      go_wp2_with (first | (refine one_app rfl (.tmp 28) (.tmp 32) rfl (d + 1) _ ND rfl D1.out.own (by omega) (r, s) rfl (by omega) ?_; intro u5 w5 o5 g5 mv5; have O5 : Hid (w5.ownsRow (d + 1) 70 2 u5 (ND ++ [(r, s)]).length (onesC (ND ++ [(r, s)]))) := o5; have hbd : ¬ some d = (Value.slice va ND.length vc).ownBlock := (fun e => by have := HB1.out d e.symm; omega); have c5 : w5.cell? ⟨d, 0, none⟩ = some (.slice va ND.length vc) := (World.cell?_of_block (w := w1.alloc (.cells #[.int .u32 r, .int .u32 s] 70)) (g5.block d (by simp; omega) hbd)).trans hc'; have f5 : w5.frozen? ⟨d, 0, none⟩ = false := (World.frozen?_of_block (w := w1.alloc (.cells #[.int .u32 r, .int .u32 s] 70)) (g5.block d (by simp; omega) hbd)).trans ((((Touch.refl (fun _ => False) w1).alloc _).frozen (p := ⟨d, 0, none⟩) hal (fun h => h)).trans hf); have T5 : Hid (Touch (fun k => k = d) w w5) := ((T1.out.alloc _).grown g5 (fun k hk => Or.inr (HB1.out k hk))); obtain ⟨ua, uc, hu⟩ : ∃ a c, u5 = .slice a (ND.length + 1) c := (o5.2.elim (fun h => absurd h.2 (by simp)) (fun ⟨g, cap, cur, e, _⟩ => ⟨some ⟨g, 0, none⟩, cap, by rw [e]; simp⟩)); subst hu; have HB5 : Hid (∀ k, (Value.slice ua (ND.length + 1) uc).ownBlock = some k → w.heap.size ≤ k) := (fun k hk => by rcases mv5 with h | h; exact HB1.out k (h ▸ hk); rw [h] at hk; simp at hk; omega); clear o5 g5 mv5))
      clear hc'
      go_wp2_with fail
      have NE5 : ∀ k, (Value.slice ua (ND.length + 1) uc).ownBlock = some k → ¬ k = d := fun k hk e => by have := HB5.out k hk; omega
      have t6 : Touch (fun k => k = d) w5 (w5.setCell ⟨d, 0, none⟩ (.slice ua (ND.length + 1) uc)) := Touch.setCell (F := fun k => k = d) (p := ⟨d, 0, none⟩) (Touch.refl _ _) (Or.inl rfl) _
      go_ret
      exact ⟨rfl, ⟨_, ⟨by simp [c5, go_sem], by simp [f5, go_sem], own_touch O5.out t6 NE5, by simp; omega⟩, fun k hk => Or.inr (HB5.out k hk)⟩, (T5.out.trans t6).mono (fun _ _ h => Or.inl h)⟩
end Go.Proofs.Ythilfealloakdaa
