/- Contracts of the writer's methods: Patch, Write, Done. -/
import Derived.Test.YthilfealloakdaaGreatWriter2
namespace Go.Proofs.YthilfealloakdaaGreat
open Go.RowKit
set_option linter.unusedVariables false
set_option maxRecDepth 100000

/-- 'copy' as one step of a region that draws its order, the world behind it written out. -/
theorem step_copy_exact {P : Program} {ops : Array Oper} {o : Oper} {a : Act} {w : World} {K : Act → World → Prop} {Q : Exit → Act → World → Prop} {E : Prop} (hgd : o.guard = none) (d s : Operand) (dT sT : TypeId)
    (ho : o.op = .call { callee := .builtin .copy, args := #[d, s], argTypes := #[dT, sT] }) (elem : TypeId) (hu : P.underlying dT = some (.slice elem)) (hsz : (P.info? elem).map (·.size) = some 1)
    (ad : Addr) (dLen dCap sLen sCap : Nat) (g off : Nat) (hd : a.eval d = .slice (some ⟨g, off, none⟩) dLen dCap) (hs : a.eval s = .slice (some ad) sLen sCap)
    (cur : List Value) (t : TypeId) (hg : w.heap[g]? = some (.cells cur.toArray t (0, 0))) (cs : List Value) (hn : cs.length = Nat.min sLen dLen)
    (hsrc : ∀ j v, cs[j]? = some v → w.cell? (ad.add j) = some v)
    (hfit : off + cs.length ≤ cur.length) (h1 : ∀ v ∈ cs, v.oneCell' = true)
    (h : K (a.put o.dst (goInt cs.length)) (w.setRow g (splice cur off cs).toArray)) :
    if Region.wanted o (yielded ops a.tmps) = true then Oper.wp P o a w K Q else E := by
  have hw : Region.wanted o (yielded ops a.tmps) = true := by simp [Region.wanted, hgd]
  rw [if_pos hw]
  have hrun := run_copy_row (P := P) w dT sT o.type elem g off dLen dCap ad sLen sCap cur.toArray t cs hu hsz hg hn hsrc (by simpa using hfit) h1
  unfold Oper.wp
  simp [execOp, ho, resolve, invoke, builtin, hd, hs, hrun, Result.andThen]
  have h' : K (a.put o.dst (goInt cs.length)) (w.setRow g (List.take off cur ++ (cs ++ List.drop (off + cs.length) cur)).toArray) := by simpa [splice] using h
  exact h'

theorem Tryz.size5 : (Tryz.prog.info? 5).map (·.size) = some 1 := by kernel_rfl

theorem spot_put_ok (b g : Nat) (cap : Nat) (cur : List Value) (bl : Nat) (p : Nat) (ad : Addr) (c m : Nat) (cs : List Value) (w : World)
    (h1 : w.cell? ⟨b, 1, none⟩ = some (.slice (some ⟨g, 0, none⟩) bl cap)) (hg : w.heap[g]? = some (.cells cur.toArray 5 (0, 0))) (hcur : cur.length = cap) (hbl : bl ≤ cap) (hcap : cap ≤ maxLen)
    (hs : ∀ j v, cs[j]? = some v → w.cell? (ad.add j) = some v) (hcs : ∀ v ∈ cs, v.oneCell' = true) (hm : cs.length = m) (hm0 : 0 < m) (hfit : p + m ≤ bl) :
    Calls Tryz.prog 149 #[.agg #[.pointer (some ⟨b, 0, none⟩), .int .i64 p], .slice (some ad) m c] w fun e w' => e = .returned (.pointer (some ⟨b, 0, none⟩)) ∧
      ∃ nq, w' = ((w.alloc (.cells #[.pointer (some ⟨b, 0, none⟩), .int .i64 p] 192)).setRow g (splice cur p cs).toArray).drewN nq := by
  unfold maxLen at hcap
  have hlt := lt_of_cell h1
  have hd : decide ((p : Int) < 0) = false := by simp
  have hpb : p ≤ bl := by omega
  have hpc : ¬ cap = p := by omega
  have HM : Hid (cs.length = Nat.min m (bl - p)) := by show _ = _; have : Nat.min m (bl - p) = m := Nat.min_eq_left (by omega); omega
  have HF : Hid (p + cs.length ≤ cur.length) := by show _ ≤ _; omega
  have HG : Hid (w.heap[g]? = some (.cells cur.toArray 5 (0, 0))) := hg
  have HS : Hid (∀ j v, cs[j]? = some v → w.cell? (ad.add j) = some v) := hs
  have hgl := lt_of_heap hg
  have hk : ∀ n, (((w.alloc (.cells #[.pointer (some ⟨b, 0, none⟩), .int .i64 p] 192)).drewN n).setRow g (splice cur p cs).toArray).cell? ⟨w.heap.size, 0, none⟩ = some (.pointer (some ⟨b, 0, none⟩)) := by
    intro n
    rw [cell_setRow_other _ _ _ _ (by simp; omega)]
    simp
  clear hg hs
  go_enter Tryz.func149, Tryz.ntmps149
  go_wp2
  go_quiet (fail)
  go_wp2
  go_region_law (refine step_copy_exact rfl (.tmp 32) (.tmp 33) 22 22 rfl 5 Tryz.underlying22 Tryz.size5 ad (bl - p) (cap - p) m c g p (by simp [Act.eval, Act.put]) (by simp [Act.eval, Act.put]) cur 5 ((new1 _ _ _).heapN HG.out) cs HM.out (fun j v hj => (new1 _ _ _).cellN (HS.out j v hj)) HF.out hcs ?_)
  all_goals go_wp2
  all_goals go_ret
  all_goals exact ⟨rfl, _, rfl⟩

theorem take_splice {α : Type} (L cs : List α) (p n : Nat) (h : p + cs.length ≤ n) (hn : n ≤ L.length) : (splice L p cs).take n = splice (L.take n) p cs := by
  apply List.ext_getElem?
  intro i
  simp only [splice, List.getElem?_take, List.getElem?_append, List.length_take, List.getElem?_drop]
  split <;> split <;> (try split) <;> (try split) <;> (try split) <;> (try split) <;> (try rfl) <;> (try omega) <;> (try (congr 1; omega))

theorem map_splice {α β : Type} (f : α → β) (L cs : List α) (p : Nat) : (splice L p cs).map f = splice (L.map f) p (cs.map f) := by
  simp [splice, List.map_take, List.map_drop]

theorem bytesOf_splice (bs ns : List Int) (p : Nat) : bytesOf (splice bs p ns) = splice (bytesOf bs) p (bytesOf ns) := map_splice _ _ _ _

/-- Behind a patch of the row. -/
theorem wr_patched {w w1 : World} {b g cap p : Nat} {cur : Array Value} {bs ns : List Int} {most err : Int} (h : WrS w b (.slice (some ⟨g, 0, none⟩) bs.length cap) bs most err) (t : Touch (fun _ => False) w w1)
    (hbg : b + 1 ≤ g) (hg : w.heap[g]? = some (.cells cur 5 (0, 0))) (hnc : bs.length ≤ cap) (hcm : cap ≤ maxLen) (hcs : cur.size = cap * 1) (htake : cur.toList.take (bs.length * 1) = bytesOf bs) (hfit : p + ns.length ≤ bs.length) :
    WrS (w1.setRow g (splice cur.toList p (bytesOf ns)).toArray) b (.slice (some ⟨g, 0, none⟩) bs.length cap) (splice bs p ns) most err := by
  have h' := h.touch t (fun h => h) (fun _ _ h => h)
  have hne : b ≠ g := by omega
  have hlen : (splice bs p ns).length = bs.length := length_splice _ _ _ hfit
  refine ⟨(cell_setRow_other _ _ _ _ hne).trans h'.made, (cell_setRow_other _ _ _ _ hne).trans h'.row, (cell_setRow_other _ _ _ _ hne).trans h'.most, (cell_setRow_other _ _ _ _ hne).trans h'.err, (frozen_setRow_other _ _ _ _ hne).trans h'.f1, (frozen_setRow_other _ _ _ _ hne).trans h'.f3, ?_⟩
  refine ⟨by simp [length_bytesOf], Or.inr ⟨g, cap, (splice cur.toList p (bytesOf ns)).toArray, by rw [hlen], hbg, setRow_heap w1 g cur _ 5 _ (t.heapN hg), by rw [hlen]; exact hnc, hcm, ?_, ?_⟩⟩
  · simp only [List.size_toArray]
    rw [length_splice _ _ _ (by simp [length_bytesOf]; omega)]
    simpa using hcs
  · simp only [Nat.mul_one] at htake ⊢
    rw [hlen, take_splice _ _ _ _ (by simpa [length_bytesOf] using hfit) (by simp; omega), htake, bytesOf_splice]

theorem patch_ok1 (b : Nat) (v : Value) (bs : List Int) (most : Int) (x : Int) (p : Nat) (w : World) (h : WrS w b v bs most 0)
    (hx : 0 ≤ x ∧ x < 256) (hfit : p + 1 ≤ bs.length) :
    Calls Tryz.prog 120 #[.pointer (some ⟨b, 0, none⟩), .int .i64 p, .int .u32 x, .int .i64 1] w fun e w' => e = .returned (.tuple #[]) ∧
      WrS w' b v (splice bs p (numBytes 1 x)) most 0 ∧ Touch (wrF b v) w w' := by
  obtain ⟨hx0, hx1⟩ := hx
  have hmf : ∀ (fn : Fn) (first cap : Array Value) (w : World), (Instr.makeFunc fn first cap).run Tryz.prog w = .ok (.func fn first cap) w := fun _ _ _ _ => rfl
  have h0 := h.made
  have h1 := h.row
  have h3 := h.err
  have hlt := lt_of_cell h0
  have HN : Hid (numBytes 1 x = [x]) := by show _ = _; simp [numBytes]; omega
  rcases h.own.2 with ⟨_, e⟩ | ⟨g, cap, cur, rfl, hbg, hg, hnc, hcm, hcs, htake⟩
  · omega
  have hgl := lt_of_heap hg
  have HG : Hid (w.heap[g]? = some (.cells cur 5 (0, 0))) := hg
  clear hg
  go_enter Tryz.func120, Tryz.ntmps120
  go_wp2_with (first | (go_at_call 150; refine (whole_any _ 0 _ (by assumption) (by assumption)).mono ?_; rintro e w' ⟨rfl, rfl⟩) | (go_at_call 148; go_in))
  refine (spot_put_ok b g cap cur.toList bs.length p ⟨w.heap.size, 3, none⟩ 1 1 (bytesOf [x]) _ ?c1 ?c2 (by simpa using hcs) hnc hcm (src_new _ _ _ _ _ (by simp [bytesOf])) (oneCell_bytesOf _) (by simp [bytesOf]) (by omega) hfit).mono ?_
  case c1 => exact ((Touch.refl _ _).alloc _).cellN h1
  case c2 => exact ((Touch.refl _ _).alloc _).heapN HG.out
  rintro e w' ⟨rfl, nq, rfl⟩
  clear hmf h0 h3
  go_wp2
  go_end0
  rw [HN.out]
  exact ⟨rfl, (wr_patched (p := p) (ns := [x]) h (((Touch.refl (fun _ => False) w).alloc _).alloc _) hbg HG.out hnc hcm hcs htake (by simp; omega)).drewN nq, Touch.drewN (Touch.setRow (((Touch.refl _ w).alloc _).alloc _) (Or.inl (Or.inr rfl)) _) nq⟩

theorem patch_ok2 (b : Nat) (v : Value) (bs : List Int) (most : Int) (x : Int) (p : Nat) (w : World) (h : WrS w b v bs most 0)
    (hx : 0 ≤ x ∧ x < 65536) (hfit : p + 2 ≤ bs.length) :
    Calls Tryz.prog 120 #[.pointer (some ⟨b, 0, none⟩), .int .i64 p, .int .u32 x, .int .i64 2] w fun e w' => e = .returned (.tuple #[]) ∧
      WrS w' b v (splice bs p (numBytes 2 x)) most 0 ∧ Touch (wrF b v) w w' := by
  obtain ⟨hx0, hx1⟩ := hx
  have hmf : ∀ (fn : Fn) (first cap : Array Value) (w : World), (Instr.makeFunc fn first cap).run Tryz.prog w = .ok (.func fn first cap) w := fun _ _ _ _ => rfl
  have h0 := h.made
  have h1 := h.row
  have h3 := h.err
  have hlt := lt_of_cell h0
  have HN : Hid (numBytes 2 x = [x / 256, x % 256]) := by show _ = _; simp [numBytes]; omega
  rcases h.own.2 with ⟨_, e⟩ | ⟨g, cap, cur, rfl, hbg, hg, hnc, hcm, hcs, htake⟩
  · omega
  have hgl := lt_of_heap hg
  have HG : Hid (w.heap[g]? = some (.cells cur 5 (0, 0))) := hg
  clear hg
  go_enter Tryz.func120, Tryz.ntmps120
  go_wp2_with (first | (go_at_call 150; refine (whole_any _ 0 _ (by assumption) (by assumption)).mono ?_; rintro e w' ⟨rfl, rfl⟩) | (go_at_call 148; go_in))
  refine (spot_put_ok b g cap cur.toList bs.length p ⟨w.heap.size, 2, none⟩ 2 2 (bytesOf [x / 256, x % 256]) _ ?c1 ?c2 (by simpa using hcs) hnc hcm (src_new _ _ _ _ _ (by simp [bytesOf])) (oneCell_bytesOf _) (by simp [bytesOf]) (by omega) hfit).mono ?_
  case c1 => exact ((Touch.refl _ _).alloc _).cellN h1
  case c2 => exact ((Touch.refl _ _).alloc _).heapN HG.out
  rintro e w' ⟨rfl, nq, rfl⟩
  clear hmf h0 h3
  go_wp2
  go_end0
  rw [HN.out]
  exact ⟨rfl, (wr_patched (p := p) (ns := [x / 256, x % 256]) h (((Touch.refl (fun _ => False) w).alloc _).alloc _) hbg HG.out hnc hcm hcs htake (by simp; omega)).drewN nq, Touch.drewN (Touch.setRow (((Touch.refl _ w).alloc _).alloc _) (Or.inl (Or.inr rfl)) _) nq⟩

theorem patch_ok3 (b : Nat) (v : Value) (bs : List Int) (most : Int) (x : Int) (p : Nat) (w : World) (h : WrS w b v bs most 0)
    (hx : 0 ≤ x ∧ x < 16777216) (hfit : p + 3 ≤ bs.length) :
    Calls Tryz.prog 120 #[.pointer (some ⟨b, 0, none⟩), .int .i64 p, .int .u32 x, .int .i64 3] w fun e w' => e = .returned (.tuple #[]) ∧
      WrS w' b v (splice bs p (numBytes 3 x)) most 0 ∧ Touch (wrF b v) w w' := by
  obtain ⟨hx0, hx1⟩ := hx
  have hmf : ∀ (fn : Fn) (first cap : Array Value) (w : World), (Instr.makeFunc fn first cap).run Tryz.prog w = .ok (.func fn first cap) w := fun _ _ _ _ => rfl
  have h0 := h.made
  have h1 := h.row
  have h3 := h.err
  have hlt := lt_of_cell h0
  have HN : Hid (numBytes 3 x = [x / 65536, x / 256 % 256, x % 256]) := by show _ = _; simp [numBytes]; omega
  rcases h.own.2 with ⟨_, e⟩ | ⟨g, cap, cur, rfl, hbg, hg, hnc, hcm, hcs, htake⟩
  · omega
  have hgl := lt_of_heap hg
  have HG : Hid (w.heap[g]? = some (.cells cur 5 (0, 0))) := hg
  clear hg
  go_enter Tryz.func120, Tryz.ntmps120
  go_wp2_with (first | (go_at_call 150; refine (whole_any _ 0 _ (by assumption) (by assumption)).mono ?_; rintro e w' ⟨rfl, rfl⟩) | (go_at_call 148; go_in))
  refine (spot_put_ok b g cap cur.toList bs.length p ⟨w.heap.size, 1, none⟩ 3 3 (bytesOf [x / 65536, x / 256 % 256, x % 256]) _ ?c1 ?c2 (by simpa using hcs) hnc hcm (src_new _ _ _ _ _ (by simp [bytesOf])) (oneCell_bytesOf _) (by simp [bytesOf]) (by omega) hfit).mono ?_
  case c1 => exact ((Touch.refl _ _).alloc _).cellN h1
  case c2 => exact ((Touch.refl _ _).alloc _).heapN HG.out
  rintro e w' ⟨rfl, nq, rfl⟩
  clear hmf h0 h3
  go_wp2
  go_end0
  rw [HN.out]
  exact ⟨rfl, (wr_patched (p := p) (ns := [x / 65536, x / 256 % 256, x % 256]) h (((Touch.refl (fun _ => False) w).alloc _).alloc _) hbg HG.out hnc hcm hcs htake (by simp; omega)).drewN nq, Touch.drewN (Touch.setRow (((Touch.refl _ w).alloc _).alloc _) (Or.inl (Or.inr rfl)) _) nq⟩

theorem patch_ok4 (b : Nat) (v : Value) (bs : List Int) (most : Int) (x : Int) (p : Nat) (w : World) (h : WrS w b v bs most 0)
    (hx : 0 ≤ x ∧ x < 4294967296) (hfit : p + 4 ≤ bs.length) :
    Calls Tryz.prog 120 #[.pointer (some ⟨b, 0, none⟩), .int .i64 p, .int .u32 x, .int .i64 4] w fun e w' => e = .returned (.tuple #[]) ∧
      WrS w' b v (splice bs p (numBytes 4 x)) most 0 ∧ Touch (wrF b v) w w' := by
  obtain ⟨hx0, hx1⟩ := hx
  have hmf : ∀ (fn : Fn) (first cap : Array Value) (w : World), (Instr.makeFunc fn first cap).run Tryz.prog w = .ok (.func fn first cap) w := fun _ _ _ _ => rfl
  have h0 := h.made
  have h1 := h.row
  have h3 := h.err
  have hlt := lt_of_cell h0
  have HN : Hid (numBytes 4 x = [x / 16777216, x / 65536 % 256, x / 256 % 256, x % 256]) := by show _ = _; simp [numBytes]; omega
  rcases h.own.2 with ⟨_, e⟩ | ⟨g, cap, cur, rfl, hbg, hg, hnc, hcm, hcs, htake⟩
  · omega
  have hgl := lt_of_heap hg
  have HG : Hid (w.heap[g]? = some (.cells cur 5 (0, 0))) := hg
  clear hg
  go_enter Tryz.func120, Tryz.ntmps120
  go_wp2_with (first | (go_at_call 150; refine (whole_any _ 0 _ (by assumption) (by assumption)).mono ?_; rintro e w' ⟨rfl, rfl⟩) | (go_at_call 148; go_in))
  refine (spot_put_ok b g cap cur.toList bs.length p ⟨w.heap.size, 0, none⟩ 4 4 (bytesOf [x / 16777216, x / 65536 % 256, x / 256 % 256, x % 256]) _ ?c1 ?c2 (by simpa using hcs) hnc hcm (src_new _ _ _ _ _ (by simp [bytesOf])) (oneCell_bytesOf _) (by simp [bytesOf]) (by omega) hfit).mono ?_
  case c1 => exact ((Touch.refl _ _).alloc _).cellN h1
  case c2 => exact ((Touch.refl _ _).alloc _).heapN HG.out
  rintro e w' ⟨rfl, nq, rfl⟩
  clear hmf h0 h3
  go_wp2
  go_end0
  rw [HN.out]
  exact ⟨rfl, (wr_patched (p := p) (ns := [x / 16777216, x / 65536 % 256, x / 256 % 256, x % 256]) h (((Touch.refl (fun _ => False) w).alloc _).alloc _) hbg HG.out hnc hcm hcs htake (by simp; omega)).drewN nq, Touch.drewN (Touch.setRow (((Touch.refl _ w).alloc _).alloc _) (Or.inl (Or.inr rfl)) _) nq⟩

end Go.Proofs.YthilfealloakdaaGreat
