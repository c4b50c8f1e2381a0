/- Contracts of the writer's methods: Patch, Write, Done. -/
import Derived.Test.YthilfealloakdaaWriter2
import Derived.Test.YthilfealloakdaaParts
import Derived.Lib.SliceRun
namespace Go.Proofs.Ythilfealloakdaa
open Go.RowKit
set_option linter.unusedVariables false
set_option maxRecDepth 100000

/-- 'copy' as one step of a region that draws its order, the world behind it written out. -/
theorem step_copy_exact {P : Program} {ops : Array Oper} {o : Oper} {a : Act} {w : World} {K : Act → World → Prop} {Q : Exit → Act → World → Prop} {E : Prop} (hgd : o.guard = none) (d s : Operand) (dT sT : TypeId)
    (ho : o.op = .call { callee := .builtin .copy, args := #[d, s], argTypes := #[dT, sT] }) (elem : TypeId) (hu : P.underlying dT = some (.slice elem)) (hsz : (P.info? elem).map (·.size) = some 1)
    (ad : Addr) (dLen dCap sLen sCap : Nat) (g off : Nat) (hd : a.eval d = .slice (some ⟨g, off, none⟩) dLen dCap) (hs : a.eval s = .slice (some ad) sLen sCap)
    (cur : List Value) (t : TypeId) (hg : w.heap[g]? = some (.cells cur.toArray t (0, 0))) (cs : List Value) (hn : cs.length = Nat.min sLen dLen)
    (hsrc : ∀ j v, cs[j]? = some v → w.cell? (ad.add j) = some v)
    (hfit : off + cs.length ≤ cur.length) (h1 : ∀ v ∈ cs, v.oneCell' = true)
    (h : K (a.put o.dst (goInt cs.length)) (w.setRow g (splice cur off cs).toArray)) :
    if Region.wanted o (yielded ops a.tmps) = true then Oper.wp P o a w K Q else E := by
  have hw : Region.wanted o (yielded ops a.tmps) = true := by simp [Region.wanted, hgd]
  rw [if_pos hw]
  have hrun := run_copy_row (P := P) w dT sT o.type elem g off dLen dCap ad sLen sCap cur.toArray t cs hu hsz hg hn hsrc (by simpa using hfit) h1
  unfold Oper.wp
  simp [execOp, ho, resolve, invoke, builtin, hd, hs, hrun, Result.andThen]
  have h' : K (a.put o.dst (goInt cs.length)) (w.setRow g (List.take off cur ++ (cs ++ List.drop (off + cs.length) cur)).toArray) := by simpa [splice] using h
  exact h'

theorem Try.size5 : (Try.prog.info? 5).map (·.size) = some 1 := by kernel_rfl

theorem take_splice {α : Type} (L cs : List α) (p n : Nat) (h : p + cs.length ≤ n) (hn : n ≤ L.length) : (splice L p cs).take n = splice (L.take n) p cs := by
  apply List.ext_getElem?
  intro i
  simp only [splice, List.getElem?_take, List.getElem?_append, List.length_take, List.getElem?_drop]
  split <;> split <;> (try split) <;> (try split) <;> (try split) <;> (try split) <;> (try rfl) <;> (try omega) <;> (try (congr 1; omega))

theorem map_splice {α β : Type} (f : α → β) (L cs : List α) (p : Nat) : (splice L p cs).map f = splice (L.map f) p (cs.map f) := by
  simp [splice, List.map_take, List.map_drop]

theorem bytesOf_splice (bs ns : List Int) (p : Nat) : bytesOf (splice bs p ns) = splice (bytesOf bs) p (bytesOf ns) := map_splice _ _ _ _

/-- Behind a patch of the row. -/
theorem wr_patched {w w1 : World} {b g cap p : Nat} {cur : Array Value} {bs ns : List Int} {most err : Int} (h : WrS w b (.slice (some ⟨g, 0, none⟩) bs.length cap) bs most err) (t : Touch (fun _ => False) w w1)
    (hbg : b + 1 ≤ g) (hg : w.heap[g]? = some (.cells cur 5 (0, 0))) (hnc : bs.length ≤ cap) (hcm : cap ≤ maxLen) (hcs : cur.size = cap * 1) (htake : cur.toList.take (bs.length * 1) = bytesOf bs) (hfit : p + ns.length ≤ bs.length) :
    WrS (w1.setRow g (splice cur.toList p (bytesOf ns)).toArray) b (.slice (some ⟨g, 0, none⟩) bs.length cap) (splice bs p ns) most err := by
  have h' := h.touch t (fun h => h) (fun _ _ h => h)
  have hne : b ≠ g := by omega
  have hlen : (splice bs p ns).length = bs.length := length_splice _ _ _ hfit
  refine ⟨(cell_setRow_other _ _ _ _ hne).trans h'.made, (cell_setRow_other _ _ _ _ hne).trans h'.row, (cell_setRow_other _ _ _ _ hne).trans h'.most, (cell_setRow_other _ _ _ _ hne).trans h'.err, (frozen_setRow_other _ _ _ _ hne).trans h'.f1, (frozen_setRow_other _ _ _ _ hne).trans h'.f3, ?_⟩
  refine ⟨by simp [length_bytesOf], Or.inr ⟨g, cap, (splice cur.toList p (bytesOf ns)).toArray, by rw [hlen], hbg, setRow_heap w1 g cur _ 5 _ (t.heapN hg), by rw [hlen]; exact hnc, hcm, ?_, ?_⟩⟩
  · simp only [List.size_toArray]
    rw [length_splice _ _ _ (by simp [length_bytesOf]; omega)]
    simpa using hcs
  · simp only [Nat.mul_one] at htake ⊢
    rw [hlen, take_splice _ _ _ _ (by simpa [length_bytesOf] using hfit) (by simp; omega), htake, bytesOf_splice]

end Go.Proofs.Ythilfealloakdaa

namespace Go.Proofs.Ythilfealloakdaa
open Go.RowKit
set_option linter.unusedVariables false
set_option maxRecDepth 100000

theorem Try.info5r : (Try.prog.info? 5).map (fun i => (i.zero, i.size, i.bytes)) = some (some (.int .u8 0), 1, 1) := by kernel_rfl

theorem clone_some (ad : Addr) (c : Nat) (ns : List Int) (w : World) (hs : ∀ j u, (bytesOf ns)[j]? = some u → w.cell? (ad.add j) = some u) (hcap : ns.length ≤ 1099511627776) :
    Calls Try.prog 35 #[.slice (some ad) ns.length c] w fun e w' => ∃ v, e = .returned v ∧ w'.ownsRow w.heap.size 5 1 v ns.length (bytesOf ns) ∧ Touch (fun _ => False) w w' ∧ v.ownBlock ≠ none := by
  obtain ⟨i0, hi, hz0, hz1, hz2⟩ := info_parts Try.info5r
  have hq := fun (w : World) (a : Option Addr) (n c n' c' : Nat) => Lib.run_eql_slice_nil (P := Try.prog) w 47 5 a n c n' c' Try.underlying47
  go_enter Try.func35, Try.ntmps35
  go_wp2_with (at_builtin; refine wpList_append_own_at _ rfl (.tmp 5) (.tmp 6) 47 rfl w.heap.size 5 i0 (.int .u8 0) 1 1 Try.underlying47 hi hz0 hz1 hz2 rfl (by decide) (.slice (some ⟨w.heap.size, 0, none⟩) 0 0) 0 [] rfl ?c0 ad ns.length c (bytesOf ns) rfl ?c6 ?c1 ?c2 ?c3 ?c4 ?c5 ?_)
  case c0 => exact World.ownsRow_lit w #[] 0 (Nat.le_refl _) (by simp [maxLen]) (by simp)
  case c6 => simp [length_bytesOf]
  case c1 => exact fun j u hj => ((Touch.refl _ w).alloc _).cellN (hs j u hj)
  case c2 => exact oneCell_bytesOf ns
  case c3 => unfold maxLen; omega
  case c4 => omega
  case c5 => simp
  intro v' w1 hown' hgrow _ hat
  have t1 : Touch (fun _ => False) w w1 := ((Touch.refl _ w).alloc _).grown hgrow (fun k hk => Or.inr (by simp [Value.ownBlock] at hk; omega))
  have hne : v'.ownBlock ≠ none := by rcases hat with h | h <;> rw [h] <;> simp [Value.ownBlock]
  clear hgrow hat
  go_wp2
  go_ret
  exact ⟨v', rfl, by simpa using hown', t1, hne⟩

theorem clone_nil (w : World) :
    Calls Try.prog 35 #[.slice none 0 0] w fun e w' => e = .returned (.slice none 0 0) ∧ w = w' := by
  have hq := fun (w : World) (a : Option Addr) (n c n' c' : Nat) => Lib.run_eql_slice_nil (P := Try.prog) w 47 5 a n c n' c' Try.underlying47
  go_enter Try.func35, Try.ntmps35
  go_wp2
  go_ret
  exact ⟨rfl, rfl⟩

theorem write_any (most : Int) (w : World) (hm : 0 ≤ most) :
    Calls Try.prog 70 #[.int .i64 most] w fun e w' => e = .returned (.pointer (some ⟨w.heap.size, 0, none⟩)) ∧ WrS w' w.heap.size (.slice none 0 0) [] most 0 ∧ Touch (fun _ => False) w w' := by
  go_enter Try.func70, Try.ntmps70
  go_wp2
  go_ret
  refine ⟨rfl, ⟨by simp, by simp, by simp, by simp, by simp, by simp, World.ownsRow_nil _ _ _ _⟩, (Touch.refl _ w).alloc _⟩

theorem err_any (b : Nat) (err : Int) (w : World) (h0 : w.cell? ⟨b, 0, none⟩ = some (.bool true)) (h3 : w.cell? ⟨b, 3, none⟩ = some (.int .i64 err)) :
    Calls Try.prog 103 #[.pointer (some ⟨b, 0, none⟩)] w fun e w' => e = .returned (.int .i64 err) ∧ w = w' := by
  go_enter Try.func103, Try.ntmps103
  go_wp2
  go_ret
  exact ⟨rfl, rfl⟩

theorem rwhole_any (b : Nat) (err : Int) (w : World) (h0 : w.cell? ⟨b, 0, none⟩ = some (.bool true)) (h3 : w.cell? ⟨b, 3, none⟩ = some (.int .i64 err)) :
    Calls Try.prog 94 #[.pointer (some ⟨b, 0, none⟩)] w fun e w' => e = .returned (.bool (err == 0)) ∧ w = w' := by
  go_enter Try.func94, Try.ntmps94
  go_wp2_with (go_at_call 103; refine (err_any _ err _ (by assumption) (by assumption)).mono ?_; rintro e w' ⟨rfl, rfl⟩)
  go_ret
  exact ⟨rfl, rfl⟩

theorem left_ok (b p : Nat) (rv : Value) (rs : List Int) (w : World) (h : RdS w b rv rs p 0) :
    Calls Try.prog 95 #[.pointer (some ⟨b, 0, none⟩)] w fun e w' => e = .returned (.int .i64 ((rs.length : Int) - p)) ∧ ∃ n, w' = w.drewN n := by
  obtain ⟨a, c, rfl, hm⟩ := rowAt_form h.rowAt
  unfold maxLen at hm
  have h0 := h.made
  have h1 := h.row
  have h2 := h.pos
  have h3 := h.err
  have hp := h.ple
  go_enter Try.func95, Try.ntmps95
  go_wp2_with (go_at_call 94; refine (rwhole_any _ 0 _ (by assumption) (by assumption)).mono ?_; rintro e w' ⟨rfl, rfl⟩)
  go_quiet (fail)
  go_wp2
  go_ret
  exact ⟨rfl, _, rfl⟩

theorem left_dead (b : Nat) (err : Int) (w : World) (h0 : w.cell? ⟨b, 0, none⟩ = some (.bool true)) (h3 : w.cell? ⟨b, 3, none⟩ = some (.int .i64 err)) (he : (err == 0) = false) :
    Calls Try.prog 95 #[.pointer (some ⟨b, 0, none⟩)] w fun e w' => e = .returned (.int .i64 0) ∧ w = w' := by
  go_enter Try.func95, Try.ntmps95
  go_wp2_with (go_at_call 94; refine (rwhole_any _ err _ (by assumption) (by assumption)).mono ?_; rintro e w' ⟨rfl, rfl⟩)
  go_ret
  exact ⟨rfl, rfl⟩

/-- refuse: a whole reader takes the error, another one stays. -/
theorem refuse_ok (b : Nat) (q : Int) (w : World) (h0 : w.cell? ⟨b, 0, none⟩ = some (.bool true)) (h3 : w.cell? ⟨b, 3, none⟩ = some (.int .i64 0)) (hf : w.frozen? ⟨b, 3, none⟩ = false) :
    Calls Try.prog 80 #[.pointer (some ⟨b, 0, none⟩), .int .i64 q] w fun e w' => e = .returned (.tuple #[]) ∧ w.setCell ⟨b, 3, none⟩ (.int .i64 q) = w' := by
  go_enter Try.func80, Try.ntmps80
  go_wp2_with (go_at_call 94; refine (rwhole_any _ 0 _ (by assumption) (by assumption)).mono ?_; rintro e w' ⟨rfl, rfl⟩)
  go_end0
  exact ⟨rfl, rfl⟩

theorem refuse_dead (b : Nat) (q err : Int) (w : World) (h0 : w.cell? ⟨b, 0, none⟩ = some (.bool true)) (h3 : w.cell? ⟨b, 3, none⟩ = some (.int .i64 err)) (he : (err == 0) = false) :
    Calls Try.prog 80 #[.pointer (some ⟨b, 0, none⟩), .int .i64 q] w fun e w' => e = .returned (.tuple #[]) ∧ w = w' := by
  go_enter Try.func80, Try.ntmps80
  go_wp2_with (go_at_call 94; refine (rwhole_any _ err _ (by assumption) (by assumption)).mono ?_; rintro e w' ⟨rfl, rfl⟩)
  go_end0
  exact ⟨rfl, rfl⟩
end Go.Proofs.Ythilfealloakdaa
