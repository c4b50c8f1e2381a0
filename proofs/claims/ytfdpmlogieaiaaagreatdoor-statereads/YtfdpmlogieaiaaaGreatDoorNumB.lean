/- The Bag where it takes bytes (out of PartHeavy): AddBytes, a new one; bytes that lie in a block with spare room. -/
import Derived.Test.YtfdpmlogieaiaaaGreatDoorWideB
import Derived.Laws.AppendOwnNone
import Derived.WalkKit
namespace Go.Proofs.YtfdpmlogieaiaaaGreatDoor
open Go.RowKit
set_option linter.unusedVariables false
set_option maxRecDepth 100000

theorem rowAt_block {w : World} {g n : Nat} {rs ms : List Int} (h : w.heap[g]? = some (.cells (bytesOf (rs ++ ms)).toArray 5 (0, 0))) (hn : rs.length + ms.length = n) (hm : n ≤ maxLen) : RowAt w (.slice (some ⟨g, 0, none⟩) rs.length n) rs := by
  refine Or.inr ⟨g, 0, n, rfl, by omega, hm, fun j u hj => ?_⟩
  have hjl : j < rs.length := by
    have := (List.getElem?_eq_some_iff.mp hj).1
    simpa [length_bytesOf] using this
  simp only [World.cell?, h, Nat.zero_add]
  simp only [List.getElem?_toArray, bytesOf, List.getElem?_map] at hj ⊢
  rw [List.getElem?_append_left hjl]
  exact hj

theorem Tryz.infoA : (Tryz.prog.info? 28).map (fun i => (i.zero, i.size, i.bytes)) = some (some (.slice none 0 0), 1, 24) := by kernel_rfl

theorem cell_other (w : World) (b j : Nat) (v : Value) (h : 0 < j) : (w.setCell ⟨b, 0, none⟩ v).cell? ⟨b, j, none⟩ = w.cell? ⟨b, j, none⟩ :=
  World.cell?_setCell_other w ⟨b, 0, none⟩ ⟨b, j, none⟩ v (by intro e; injection e with _ e2; omega)

theorem bag_added {w w1 : World} {b : Nat} {gv gv' v : Value} {vs : List Value} {xs : List Int} (h : BagB w b gv vs) (hv : w.ownsRow 0 5 1 v xs.length (bytesOf xs)) (hvl : lenOf v = xs.length) (hlen : xs.length ≤ 1048576)
    (hnew : ∀ k, v.ownBlock = some k → k ≠ b ∧ gv.ownBlock ≠ some k ∧ ∀ (m : Nat) (u : Value), vs[m]? = some u → u.ownBlock ≠ some k) (hroom : vs.length < 300) (hbase : ∀ k, gv.ownBlock = some k → b < k)
    (hf : w.frozen? ⟨b, 0, none⟩ = false) (t : Touch (fun k => gv.ownBlock = some k) w w1) (hown : w1.ownsRow 0 28 1 gv' (vs.length + 1) (vs ++ [v])) (hat : gv'.ownBlock = gv.ownBlock ∨ gv'.ownBlock = some (w.heap.size + 1)) :
    BagB (w1.setCell ⟨b, 0, none⟩ gv') b gv' (vs ++ [v]) ∧ (w1.setCell ⟨b, 0, none⟩ gv').frozen? ⟨b, 0, none⟩ = false ∧ (∀ k, gv'.ownBlock = some k → b < k) ∧ (gv'.ownBlock = gv.ownBlock ∨ ∃ k, gv'.ownBlock = some k ∧ w.heap.size ≤ k) ∧ Touch (fun k => k = b ∨ gv.ownBlock = some k) w (w1.setCell ⟨b, 0, none⟩ gv') ∧ ∀ j v, 1 ≤ j → w.cell? ⟨b, j, none⟩ = some v → (w1.setCell ⟨b, 0, none⟩ gv').cell? ⟨b, j, none⟩ = some v := by
  have hbl := lt_of_cell h.cell
  have hgb : ∀ k, gv'.ownBlock = some k → b < k := by
    intro k hk
    rcases hat with e | e
    · exact hbase k (by rw [← e]; exact hk)
    · rw [e] at hk; simp at hk; omega
  have hc1 : w1.cell? ⟨b, 0, none⟩ = some gv := (t.cell (p := ⟨b, 0, none⟩) hbl h.nbg).trans h.cell
  have hf1 : w1.frozen? ⟨b, 0, none⟩ = false := (t.frozen (p := ⟨b, 0, none⟩) hbl h.nbg).trans hf
  have tc : Touch (fun k => k = b) w1 (w1.setCell ⟨b, 0, none⟩ gv') := Touch.setCell (F := fun k => k = b) (p := ⟨b, 0, none⟩) (Touch.refl _ w1) (Or.inl rfl) _
  have tt : Touch (fun k => k = b ∨ gv.ownBlock = some k) w (w1.setCell ⟨b, 0, none⟩ gv') := (t.mono (fun i _ e => Or.inr e)).trans' tc (fun i _ e => Or.inl e)
  have hat' : ∀ k, gv'.ownBlock = some k → k < w.heap.size → gv.ownBlock = some k := by
    intro k hk hl
    rcases hat with e | e
    · rw [← e]; exact hk
    · rw [e] at hk; simp at hk; omega
  have ap : ∀ (m : Nat) (u : Value), (vs ++ [v])[m]? = some u → (m < vs.length ∧ vs[m]? = some u) ∨ (m = vs.length ∧ u = v) := by
    intro m u hu
    rcases Nat.lt_or_ge m vs.length with hm | hm
    · left; rw [List.getElem?_append_left hm] at hu; exact ⟨hm, hu⟩
    · right
      rw [List.getElem?_append_right hm] at hu
      have : m - vs.length < [v].length := (List.getElem?_eq_some_iff.mp hu).1
      simp at this
      have e : m - vs.length = 0 := by omega
      rw [e] at hu
      simp at hu
      exact ⟨by omega, hu.symm⟩
  refine ⟨⟨by simp [hc1, go_sem], ?_, ?_, ?_, ?_, ?_, ?_, by simp; omega, ?_⟩, by simp [hf1, go_sem], hgb, ?_, tt, fun j v hj hc => (cell_other w1 b j gv' (by omega)).trans ((t.cell (p := ⟨b, j, none⟩) hbl h.nbg).trans hc)⟩
  · have := own_touch hown tc (fun k hk e => by have := hgb k hk; omega)
    simpa using this
  · intro m u hu
    rcases ap m u hu with ⟨hm, hu'⟩ | ⟨rfl, rfl⟩
    · obtain ⟨ys, k1, k2⟩ := h.rows m u hu'
      exact ⟨ys, k1, own_touch k2 tt (fun k hk e => by rcases e with e | e; exact h.nb m u hu' (by rw [hk, e]); exact h.ng m u k hu' hk e)⟩
    · exact ⟨xs, hvl.symm, by rw [hvl]; exact own_touch hv tt (fun k hk e => by have := hnew k hk; rcases e with e | e; exact this.1 e; exact this.2.1 e)⟩
  · intro m m' u u' k hu hu' hk hk'
    rcases ap m u hu with ⟨hm, h1⟩ | ⟨rfl, rfl⟩ <;> rcases ap m' u' hu' with ⟨hm', h2⟩ | ⟨rfl, rfl⟩
    · exact h.apart m m' u u' k h1 h2 hk hk'
    · exact absurd hk ((hnew k hk').2.2 m u h1)
    · exact absurd hk' ((hnew k hk).2.2 m' u' h2)
    · rfl
  · intro m u hu
    rcases ap m u hu with ⟨hm, hu'⟩ | ⟨rfl, rfl⟩
    · exact h.nb m u hu'
    · intro e; exact (hnew b e).1 rfl
  · intro m u k hu hk e
    rcases ap m u hu with ⟨hm, hu'⟩ | ⟨rfl, rfl⟩
    · obtain ⟨ys, k1, k2⟩ := h.rows m u hu'
      exact h.ng m u k hu' hk (hat' k e (own_lt k2 hk))
    · exact (hnew k hk).2.1 (hat' k e (own_lt hv hk))
  · intro e; have := hgb b e; omega
  · intro m u hu
    rcases ap m u hu with ⟨hm, hu'⟩ | ⟨rfl, rfl⟩
    · exact h.small m u hu'
    · rw [hvl]; exact hlen
  · rcases hat with e | e
    · exact Or.inl e
    · exact Or.inr ⟨_, e, by omega⟩

/-- AddBytes: one list more, that lies apart from the others. -/
theorem add_any (b : Nat) (gv : Value) (vs : List Value) (v : Value) (xs : List Int) (w : World) (h : BagB w b gv vs) (hf : w.frozen? ⟨b, 0, none⟩ = false) (hv : w.ownsRow 0 5 1 v xs.length (bytesOf xs)) (hlen : xs.length ≤ 1048576)
    (hnew : ∀ k, v.ownBlock = some k → k ≠ b ∧ gv.ownBlock ≠ some k ∧ ∀ (m : Nat) (u : Value), vs[m]? = some u → u.ownBlock ≠ some k) (hroom : vs.length < 300) (hbase : ∀ k, gv.ownBlock = some k → b < k) :
    Calls Tryz.prog 33 #[.pointer (some ⟨b, 0, none⟩), v] w fun e w' => e = .returned (.tuple #[]) ∧ ∃ gv', BagB w' b gv' (vs ++ [v]) ∧ w'.frozen? ⟨b, 0, none⟩ = false ∧
      (∀ k, gv'.ownBlock = some k → b < k) ∧ (gv'.ownBlock = gv.ownBlock ∨ ∃ k, gv'.ownBlock = some k ∧ w.heap.size ≤ k) ∧ Touch (fun k => k = b ∨ gv.ownBlock = some k) w w' ∧ ∀ j v, 1 ≤ j → w.cell? ⟨b, j, none⟩ = some v → w'.cell? ⟨b, j, none⟩ = some v := by
  obtain ⟨i1, hj, hy0, hy1, hy2⟩ := info_parts Tryz.infoA
  obtain ⟨va, vc, rfl⟩ := own_form hv
  obtain ⟨ga, gc, rfl⟩ := own_form h.own
  have hc := h.cell
  have hbl := lt_of_cell hc
  have HB : Hid (BagB w b (.slice ga vs.length gc) vs) := h
  have HV : Hid (w.ownsRow 0 5 1 (.slice va xs.length vc) xs.length (bytesOf xs)) := hv
  have HW : Hid (∀ k, (Value.slice va xs.length vc).ownBlock = some k → k ≠ b ∧ (Value.slice ga vs.length gc).ownBlock ≠ some k ∧ ∀ (m : Nat) (u : Value), vs[m]? = some u → u.ownBlock ≠ some k) := hnew
  have HBB : Hid (∀ k, (Value.slice ga vs.length gc).ownBlock = some k → b < k) := hbase
  clear h hv hnew hbase
  go_enter Tryz.func33, Tryz.ntmps33
  go_wp2_with (at_builtin; refine wpList_append_own_at _ rfl (.tmp 14) (.tmp 16) 42 rfl 0 28 i1 (.slice none 0 0) 1 24 Tryz.underlying42 hj hy0 hy1 hy2 rfl (by decide) (.slice ga vs.length gc) vs.length vs rfl (HB.out.own.alloc _) ⟨w.heap.size, 0, none⟩ 1 1 [.slice va xs.length vc] rfl rfl ?c1 ?c2 ?c3 ?c4 ?c5 ?_)
  case c1 => exact cell_one_new _ _ _
  case c2 => intro u hu; obtain rfl := List.mem_singleton.mp hu; rfl
  case c3 => unfold maxLen; omega
  case c4 => omega
  case c5 => exact Nat.zero_le _
  intro gv' w1 hown hgrow _ hat
  obtain ⟨ga', gc', rfl⟩ := own_form hown
  have t1 : Touch (fun k => (Value.slice ga vs.length gc).ownBlock = some k) w w1 := ((Touch.refl _ w).alloc _).grown hgrow (fun k hk => Or.inl hk)
  have hnb := HB.out.nbg
  have hc1 : w1.cell? ⟨b, 0, none⟩ = some (.slice ga vs.length gc) := (t1.cell (p := ⟨b, 0, none⟩) hbl hnb).trans hc
  have hf1 : w1.frozen? ⟨b, 0, none⟩ = false := (t1.frozen (p := ⟨b, 0, none⟩) hbl hnb).trans hf
  have HR : Hid _ := bag_added HB.out HV.out rfl hlen HW.out hroom HBB.out hf t1 hown hat
  clear t1 hown hgrow hat hc hf hnb
  go_wp2
  go_end0
  exact ⟨rfl, .slice ga' (vs.length + 1) gc', HR.out⟩

theorem bag_new {w : World} {T : TypeId} (C : Array Value) (hC : C = #[.slice none 0 0, .slice none 0 0, .slice none 0 0, .slice none 0 0, .slice none 0 0, .slice none 0 0, .slice none 0 0, .slice none 0 0, .slice none 0 0, .slice none 0 0, .slice none 0 0, .slice none 0 0, .slice none 0 0, .slice none 0 0, .slice none 0 0, .slice none 0 0, .slice none 0 0, .slice none 0 0, .slice none 0 0]) :
    BagB (w.alloc (.cells C T)) w.heap.size (.slice none 0 0) [] ∧ (w.alloc (.cells C T)).frozen? ⟨w.heap.size, 0, none⟩ = false ∧ BagN (w.alloc (.cells C T)) w.heap.size := by
  subst hC
  refine ⟨⟨by simp, World.ownsRow_nil _ _ _ _, by simp, by simp, by simp, by simp, by simp [Value.ownBlock], by simp, by simp⟩, by simp, fun j h1 h2 => ?_⟩
  rcases (by omega : j = 1 ∨ j = 2 ∨ j = 3 ∨ j = 4 ∨ j = 5 ∨ j = 6 ∨ j = 7 ∨ j = 8 ∨ j = 9 ∨ j = 10 ∨ j = 11 ∨ j = 12 ∨ j = 13 ∨ j = 14 ∨ j = 15 ∨ j = 16 ∨ j = 17 ∨ j = 18) with rfl | rfl | rfl | rfl | rfl | rfl | rfl | rfl | rfl | rfl | rfl | rfl | rfl | rfl | rfl | rfl | rfl | rfl <;> simp

end Go.Proofs.YtfdpmlogieaiaaaGreatDoor

namespace Go.Proofs.YtfdpmlogieaiaaaGreatDoor
open Go.RowKit
set_option linter.unusedVariables false
set_option maxRecDepth 100000

/-- The bytes l lie in a row of the call's own, in block g. -/
structure OwnB (w : World) (base g cap : Nat) (l : List Int) : Prop where
  own : w.ownsRow base 5 1 (.slice (some ⟨g, 0, none⟩) l.length cap) l.length (bytesOf l)
theorem OwnB.keep {w w' : World} {base g cap : Nat} {l : List Int} (h : OwnB w base g cap l) (t : Touch (fun _ => False) w w') : OwnB w' base g cap l := ⟨own_touch h.own t (fun _ _ h => h)⟩
theorem OwnB.arg {w : World} {base g cap : Nat} {l : List Int} (h : OwnB w base g cap l) : ArgAt w (.slice (some ⟨g, 0, none⟩) l.length cap) l := (own_rowAt h.own).arg
theorem OwnB.argL {w : World} {base g cap n : Nat} {l : List Int} (h : OwnB w base g cap l) (e : l.length = n) : ArgAt w (.slice (some ⟨g, 0, none⟩) n cap) l := by subst e; exact h.arg
theorem OwnB.row {w : World} {base g cap : Nat} {l : List Int} (h : OwnB w base g cap l) : RowAt w (.slice (some ⟨g, 0, none⟩) l.length cap) l := own_rowAt h.own
theorem OwnB.ge {w : World} {base g cap : Nat} {l : List Int} (h : OwnB w base g cap l) : base ≤ g := (h.own.lt g rfl).1
theorem OwnB.lt {w : World} {base g cap : Nat} {l : List Int} (h : OwnB w base g cap l) : g < w.heap.size := (h.own.lt g rfl).2
theorem OwnB.cell {w : World} {base g cap : Nat} {l : List Int} (h : OwnB w base g cap l) (j : Nat) (hj : j < l.length) : w.cell? ⟨g, j, none⟩ = some (.int .u8 (l.getD j 0)) := by
  have := rowAt_cell h.row j hj
  rwa [Nat.zero_add] at this
theorem OwnB.frozen {w : World} {base g cap : Nat} {l : List Int} (h : OwnB w base g cap l) (j : Nat) : w.frozen? ⟨g, j, none⟩ = false := h.own.frozenAt j
theorem OwnB.store {w : World} {base g cap : Nat} {l : List Int} (h : OwnB w base g cap l) (j : Nat) (x : Int) : OwnB (w.setCell ⟨g, j, none⟩ (.int .u8 x)) base g cap (l.set j x) := by
  constructor
  rw [List.length_set, bytesOf_set]
  exact (h.own.stored j _).1
/-- A store into another row. -/
theorem OwnB.other {w : World} {base g cap : Nat} {l : List Int} (h : OwnB w base g cap l) {p : Addr} (hp : p.block ≠ g) (u : Value) : OwnB (w.setCell p u) base g cap l :=
  ⟨own_touch h.own (Touch.setCell (F := fun k => k = p.block) (Touch.refl _ w) (Or.inl rfl) u) (fun k hk e => by cases hk; exact hp e.symm)⟩
theorem OwnB.drew {w : World} {base g cap : Nat} {l : List Int} (h : OwnB w base g cap l) : OwnB w.drew base g cap l := h.keep ((Touch.refl _ w).drew)
end Go.Proofs.YtfdpmlogieaiaaaGreatDoor

namespace Go.Proofs.YtfdpmlogieaiaaaGreatDoor
open Go.RowKit
set_option linter.unusedVariables false
set_option maxRecDepth 100000

/-- v is a row of bytes that was made since w0, and reads as l; nothing of w0 has turned. -/
structure Buf (w0 w : World) (v : Value) (l : List Int) : Prop where
  own : w.ownsRow w0.heap.size 5 1 v l.length (bytesOf l)
  t : Touch (fun _ => False) w0 w
theorem Buf.keep {w0 w w' : World} {v : Value} {l : List Int} (h : Buf w0 w v l) (t : Touch (fun _ => False) w w') : Buf w0 w' v l := ⟨own_touch h.own t (fun _ _ h => h), h.t.trans t⟩
theorem Buf.back {w0 w w' : World} {v : Value} {l : List Int} (h : Buf w w' v l) (t : Touch (fun _ => False) w0 w) : Buf w0 w' v l := by
  refine ⟨⟨h.own.1, ?_⟩, t.trans h.t⟩
  rcases h.own.2 with h2 | ⟨g, cap, cur, hv, hb, hr⟩
  · exact Or.inl h2
  · exact Or.inr ⟨g, cap, cur, hv, Nat.le_trans t.size hb, hr⟩
theorem Buf.nil {w0 w : World} (t : Touch (fun _ => False) w0 w) : Buf w0 w (.slice none 0 0) [] := ⟨World.ownsRow_nil _ _ _ _, t⟩
theorem Buf.form {w0 w : World} {v : Value} {l : List Int} (h : Buf w0 w v l) : ∃ a c, v = .slice a l.length c := by
  rcases h.own.2 with ⟨rfl, e⟩ | ⟨g, cap, cur, rfl, _⟩
  · exact ⟨none, 0, by rw [e]⟩
  · exact ⟨_, cap, rfl⟩
theorem Buf.arg {w0 w : World} {v : Value} {l : List Int} (h : Buf w0 w v l) : ArgAt w v l := (own_rowAt h.own).arg
theorem Buf.row {w0 w : World} {v : Value} {l : List Int} (h : Buf w0 w v l) : RowAt w v l := own_rowAt h.own
theorem Buf.appended {w0 w w' : World} {v v' : Value} {l r : List Int} (h : Buf w0 w v l) (hown : w'.ownsRow w0.heap.size 5 1 v' (l.length + r.length) (bytesOf l ++ bytesOf r)) (hg : w.grownBy w' v.ownBlock) : Buf w0 w' v' (l ++ r) := by
  refine ⟨?_, h.t.grown hg (fun k hk => Or.inr (h.own.lt k hk).1)⟩
  rw [List.length_append, bytesOf_append]
  exact hown

section
variable {ops : Array Oper} {rest : List Oper} {o : Oper} {a : Act} {Q : Exit → Act → World → Prop} {w : World}
/-- append(p, x...), x that came in or was made. -/
theorem app_arg (hgd : o.guard = none) (s x : Operand) (ho : o.op = .call { callee := .builtin .append, args := #[s, x], argTypes := #[28, 28] })
    (w0 : World) (v : Value) (l : List Int) (hs : a.eval s = v) (hb : Buf w0 w v l) (vx : Value) (r : List Int) (hx : a.eval x = vx) (hr : ArgAt w vx r) (hl : l.length + r.length ≤ 1099511627776)
    (h : ∀ v' w', Buf w0 w' v' (l ++ r) → wpList Tryz.prog ops Q rest (a.put o.dst v') w') : wpList Tryz.prog ops Q (o :: rest) a w := by
  obtain ⟨i0, hi, hz0, hz1, hz2⟩ := info_parts Tryz.info5w
  rcases hr with ⟨rfl, rfl⟩ | ⟨ad, c, rfl, h1, h2, h3⟩
  · refine wpList_append_own_none hgd s x 28 ho w0.heap.size 5 i0 1 Tryz.underlying28 hi v l.length (bytesOf l) hs hb.own hx ?_
    exact h v w (by rw [List.append_nil]; exact hb)
  · refine wpList_append_own_at w hgd s x 28 ho w0.heap.size 5 i0 (.int .u8 0) 1 1 Tryz.underlying28 hi hz0 hz1 hz2 rfl (by decide) v l.length (bytesOf l) hs hb.own ad r.length c (bytesOf r) hx (by simp [length_bytesOf]) h3 (oneCell_bytesOf r) (by unfold maxLen; omega) (by omega) hb.t.size ?_
    intro v' w' hown hg _ _
    exact h v' w' (hb.appended hown hg)
/-- append(p, z), the one element in a new block of its own. -/
theorem app_one (hgd : o.guard = none) (s x : Operand) (ho : o.op = .call { callee := .builtin .append, args := #[s, x], argTypes := #[28, 28] })
    (w0 : World) (v : Value) (l : List Int) (hs : a.eval s = v) (hb : Buf w0 w v l) (z : Int) (hx : a.eval x = .slice (some ⟨w.heap.size, 0, none⟩) 1 1) (hl : l.length < 1099511627776)
    (h : ∀ v' w', Buf w0 w' v' (l ++ [z]) → wpList Tryz.prog ops Q rest (a.put o.dst v') w') : wpList Tryz.prog ops Q (o :: rest) a (w.alloc (.cells #[.int .u8 z] 5)) :=
  app_arg hgd s x ho w0 v l hs (hb.keep ((Touch.refl _ w).alloc _)) _ [z] hx (Or.inr ⟨_, 1, rfl, by simp, by simp [maxLen], cell_one_new w _ _⟩) (by simp; omega) h
end
end Go.Proofs.YtfdpmlogieaiaaaGreatDoor

namespace Go.Proofs.YtfdpmlogieaiaaaGreatDoor
set_option linter.unusedVariables false

def numBytes (n : Nat) (x : Int) : List Int := [x / 16777216 % 256, x / 65536 % 256, x / 256 % 256, x % 256].drop (4 - n)
theorem length_numBytes {n : Nat} (h : n ≤ 4) (x : Int) : (numBytes n x).length = n := by simp [numBytes]; omega
theorem numBytes_byte (n : Nat) (x : Int) : ∀ z ∈ numBytes n x, 0 ≤ z ∧ z < 256 := by
  intro z hz
  have := List.mem_of_mem_drop hz
  simp at this
  omega
theorem numBytes2 (x : Int) : numBytes 2 x = [x / 256 % 256, x % 256] := rfl
theorem numBytes4 (x : Int) : numBytes 4 x = [x / 16777216 % 256, x / 65536 % 256, x / 256 % 256, x % 256] := rfl
theorem numBytes3 (x : Int) : numBytes 3 x = [x / 65536 % 256, x / 256 % 256, x % 256] := rfl
/-- The number of bytes. -/
def numOf (l : List Int) : Int := l.foldl (fun v z => 256 * v + z) 0
theorem numOf_snoc (l : List Int) (z : Int) : numOf (l ++ [z]) = 256 * numOf l + z := by simp [numOf]
theorem foldl_bound (l : List Int) (h : ∀ z ∈ l, 0 ≤ z ∧ z < 256) : ∀ v : Int, 0 ≤ v → 0 ≤ l.foldl (fun v z => 256 * v + z) v ∧ l.foldl (fun v z => 256 * v + z) v < (v + 1) * 256 ^ l.length := by
  induction l with
  | nil => intro v hv; simp; omega
  | cons z r ih =>
    intro v hv
    have hz := h z (by simp)
    have := ih (fun z hz => h z (by simp [hz])) (256 * v + z) (by omega)
    refine ⟨this.1, Int.lt_of_lt_of_le this.2 ?_⟩
    rw [List.length_cons, Int.pow_succ, Int.mul_comm (256 ^ r.length) 256, ← Int.mul_assoc]
    exact Int.mul_le_mul_of_nonneg_right (by omega) (Int.pow_nonneg (by omega))
theorem numOf_bound (l : List Int) (h : ∀ z ∈ l, 0 ≤ z ∧ z < 256) : 0 ≤ numOf l ∧ numOf l < 256 ^ l.length := by
  have := foldl_bound l h 0 (by omega)
  rw [show (0 : Int) + 1 = 1 by omega, Int.one_mul] at this
  exact this
theorem numOf_two (x : Int) (h0 : 0 ≤ x) (h : x < 65536) : numOf (numBytes 2 x) = x := by simp [numOf, numBytes2]; omega
theorem numOf_three (x : Int) (h0 : 0 ≤ x) (h : x < 16777216) : numOf (numBytes 3 x) = x := by simp [numOf, numBytes3]; omega
theorem numOf_four (x : Int) (h0 : 0 ≤ x) (h : x < 4294967296) : numOf (numBytes 4 x) = x := by simp [numOf, numBytes4]; omega
theorem numBytes_two (a b : Int) (ha : 0 ≤ a ∧ a < 256) (hb : 0 ≤ b ∧ b < 256) : numBytes 2 (numOf [a, b]) = [a, b] := by simp [numOf, numBytes2]; omega
theorem numBytes_four (a b c d : Int) (ha : 0 ≤ a ∧ a < 256) (hb : 0 ≤ b ∧ b < 256) (hc : 0 ≤ c ∧ c < 256) (hd : 0 ≤ d ∧ d < 256) : numBytes 4 (numOf [a, b, c, d]) = [a, b, c, d] := by
  simp [numOf, numBytes4]; omega
end Go.Proofs.YtfdpmlogieaiaaaGreatDoor
