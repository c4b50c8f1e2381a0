/- Contracts of the writer's methods: Patch, Write, Done. -/
import Derived.Test.YtbfplepmgbkajaaGreatDoorStFace
import Derived.Test.YtbfplepmgbkajaaGreatDoorNumber
import Derived.Test.YtbfplepmgbkajaaGreatDoorStRow0
import Derived.Test.YtbfplepmgbkajaaGreatDoorPkLen2
import Derived.Deep.RegionHeld3
import Derived.Deep.DeepCutAuto
import Derived.Test.YtbfplepmgbkajaaGreatDoorKeep
import Derived.Laws.Rows
import Derived.Laws.Tables
namespace Go.Proofs.YtbfplepmgbkajaaGreatDoor
open Go.RowKit
set_option linter.unusedVariables false
set_option maxRecDepth 100000

/-- 'copy' as one step of a region that draws its order, the world behind it written out. -/
theorem step_copy_exact {P : Program} {ops : Array Oper} {o : Oper} {a : Act} {w : World} {K : Act → World → Prop} {Q : Exit → Act → World → Prop} {E : Prop} (hgd : o.guard = none) (d s : Operand) (dT sT : TypeId)
  (ho : o.op = .call { callee := .builtin .copy, args := #[d, s], argTypes := #[dT, sT] }) (elem : TypeId) (hu : P.underlying dT = some (.slice elem)) (hsz : (P.info? elem).map (·.size) = some 1)
  (ad : Addr) (dLen dCap sLen sCap : Nat) (g off : Nat) (hd : a.eval d = .slice (some ⟨g, off, none⟩) dLen dCap) (hs : a.eval s = .slice (some ad) sLen sCap)
  (cur : List Value) (t : TypeId) (hg : w.heap[g]? = some (.cells cur.toArray t (0, 0))) (cs : List Value) (hn : cs.length = Nat.min sLen dLen)
  (hsrc : ∀ j v, cs[j]? = some v → w.cell? (ad.add j) = some v)
  (hfit : off + cs.length ≤ cur.length) (h1 : ∀ v ∈ cs, v.oneCell' = true)
  (h : K (a.put o.dst (goInt cs.length)) (w.setRow g (splice cur off cs).toArray)) :
  if Region.wanted o (yielded ops a.tmps) = true then Oper.wp P o a w K Q else E := by
 have hw : Region.wanted o (yielded ops a.tmps) = true := by simp [Region.wanted, hgd]
 rw [if_pos hw]
 have hrun := run_copy_row (P := P) w dT sT o.type elem g off dLen dCap ad sLen sCap cur.toArray t cs hu hsz hg hn hsrc (by simpa using hfit) h1
 unfold Oper.wp
 simp [execOp, ho, resolve, invoke, builtin, hd, hs, hrun, Result.andThen]
 have h' : K (a.put o.dst (goInt cs.length)) (w.setRow g (List.take off cur ++ (cs ++ List.drop (off + cs.length) cur)).toArray) := by simpa [splice] using h
 exact h'

theorem Tryz.size5 : (Tryz.prog.info? 5).map (·.size) = some 1 := by kernel_rfl

theorem spot_put_ok (b g : Nat) (cap : Nat) (cur : List Value) (bl : Nat) (p : Nat) (ad : Addr) (c m : Nat) (cs : List Value) (w : World)
  (h1 : w.cell? ⟨b, 1, none⟩ = some (.slice (some ⟨g, 0, none⟩) bl cap)) (hg : w.heap[g]? = some (.cells cur.toArray 5 (0, 0))) (hcur : cur.length = cap) (hbl : bl ≤ cap) (hcap : cap ≤ maxLen)
  (hs : ∀ j v, cs[j]? = some v → w.cell? (ad.add j) = some v) (hcs : ∀ v ∈ cs, v.oneCell' = true) (hm : cs.length = m) (hm0 : 0 < m) (hfit : p + m ≤ bl) :
  Calls Tryz.prog 162 #[.agg #[.pointer (some ⟨b, 0, none⟩), .int .i64 p], .slice (some ad) m c] w fun e w' => e = .returned (.pointer (some ⟨b, 0, none⟩)) ∧
   ∃ nq, w' = ((w.alloc (.cells #[.pointer (some ⟨b, 0, none⟩), .int .i64 p] 238)).setRow g (splice cur p cs).toArray).drewN nq := by
 unfold maxLen at hcap
 have hlt := lt_of_cell h1
 have hd : decide ((p : Int) < 0) = false := by simp
 have hpb : p ≤ bl := by omega
 have hpc : ¬ cap = p := by omega
 have HM : Hid (cs.length = Nat.min m (bl - p)) := by show _ = _; have : Nat.min m (bl - p) = m := Nat.min_eq_left (by omega); omega
 have HF : Hid (p + cs.length ≤ cur.length) := by show _ ≤ _; omega
 have HG : Hid (w.heap[g]? = some (.cells cur.toArray 5 (0, 0))) := hg
 have HS : Hid (∀ j v, cs[j]? = some v → w.cell? (ad.add j) = some v) := hs
 have hgl := lt_of_heap hg
 have hk : ∀ n, (((w.alloc (.cells #[.pointer (some ⟨b, 0, none⟩), .int .i64 p] 238)).drewN n).setRow g (splice cur p cs).toArray).cell? ⟨w.heap.size, 0, none⟩ = some (.pointer (some ⟨b, 0, none⟩)) := by
  intro n
  rw [cell_setRow_other _ _ _ _ (by simp; omega)]
  simp
 clear hg hs
 go_enter Tryz.func162, Tryz.ntmps162
 go_wp2
 go_quiet (fail)
 go_wp2
 go_region_law (refine step_copy_exact rfl (.tmp 32) (.tmp 33) 40 40 rfl 5 Tryz.underlying40 Tryz.size5 ad (bl - p) (cap - p) m c g p (by simp [Act.eval, Act.put]) (by simp [Act.eval, Act.put]) cur 5 ((new1 _ _ _).heapN HG.out) cs HM.out (fun j v hj => (new1 _ _ _).cellN (HS.out j v hj)) HF.out hcs ?_)
 all_goals go_wp2
 all_goals go_ret
 all_goals exact ⟨rfl, _, rfl⟩

theorem take_splice {α : Type} (L cs : List α) (p n : Nat) (h : p + cs.length ≤ n) (hn : n ≤ L.length) : (splice L p cs).take n = splice (L.take n) p cs := by
 apply List.ext_getElem?
 intro i
 simp only [splice, List.getElem?_take, List.getElem?_append, List.length_take, List.getElem?_drop]
 split <;> split <;> (try split) <;> (try split) <;> (try split) <;> (try split) <;> (try rfl) <;> (try omega) <;> (try (congr 1; omega))

theorem map_splice {α β : Type} (f : α → β) (L cs : List α) (p : Nat) : (splice L p cs).map f = splice (L.map f) p (cs.map f) := by
 simp [splice, List.map_take, List.map_drop]

theorem bytesOf_splice (bs ns : List Int) (p : Nat) : bytesOf (splice bs p ns) = splice (bytesOf bs) p (bytesOf ns) := map_splice _ _ _ _

/-- Behind a patch of the row. -/
theorem wr_patched {w w1 : World} {b g cap p : Nat} {cur : Array Value} {bs ns : List Int} {most err : Int} (h : WrS w b (.slice (some ⟨g, 0, none⟩) bs.length cap) bs most err) (t : Touch (fun _ => False) w w1)
  (hbg : b + 1 ≤ g) (hg : w.heap[g]? = some (.cells cur 5 (0, 0))) (hnc : bs.length ≤ cap) (hcm : cap ≤ maxLen) (hcs : cur.size = cap * 1) (htake : cur.toList.take (bs.length * 1) = bytesOf bs) (hfit : p + ns.length ≤ bs.length) :
  WrS (w1.setRow g (splice cur.toList p (bytesOf ns)).toArray) b (.slice (some ⟨g, 0, none⟩) bs.length cap) (splice bs p ns) most err := by
 have h' := h.touch t (fun h => h) (fun _ _ h => h)
 have hne : b ≠ g := by omega
 have hlen : (splice bs p ns).length = bs.length := length_splice _ _ _ hfit
 refine ⟨(cell_setRow_other _ _ _ _ hne).trans h'.made, (cell_setRow_other _ _ _ _ hne).trans h'.row, (cell_setRow_other _ _ _ _ hne).trans h'.most, (cell_setRow_other _ _ _ _ hne).trans h'.err, (frozen_setRow_other _ _ _ _ hne).trans h'.f1, (frozen_setRow_other _ _ _ _ hne).trans h'.f3, ?_⟩
 refine ⟨by simp [length_bytesOf], Or.inr ⟨g, cap, (splice cur.toList p (bytesOf ns)).toArray, by rw [hlen], hbg, setRow_heap w1 g cur _ 5 _ (t.heapN hg), by rw [hlen]; exact hnc, hcm, ?_, ?_⟩⟩
 ·simp only [List.size_toArray]
  rw [length_splice _ _ _ (by simp [length_bytesOf]; omega)]
  simpa using hcs
 ·simp only [Nat.mul_one] at htake ⊢
  rw [hlen, take_splice _ _ _ _ (by simpa [length_bytesOf] using hfit) (by simp; omega), htake, bytesOf_splice]

theorem patch_ok2 (b : Nat) (v : Value) (bs : List Int) (most : Int) (x : Int) (p : Nat) (w : World) (h : WrS w b v bs most 0)
  (hx : 0 ≤ x ∧ x < 65536) (hfit : p + 2 ≤ bs.length) :
  Calls Tryz.prog 131 #[.pointer (some ⟨b, 0, none⟩), .int .i64 p, .int .u32 x, .int .i64 2] w fun e w' => e = .returned (.tuple #[]) ∧
   WrS w' b v (splice bs p (numBytes 2 x)) most 0 ∧ Touch (wrF b v) w w' := by
 obtain ⟨hx0, hx1⟩ := hx
 have hmf : ∀ (fn : Fn) (first cap : Array Value) (w : World), (Instr.makeFunc fn first cap).run Tryz.prog w = .ok (.func fn first cap) w := fun _ _ _ _ => rfl
 have h0 := h.made
 have h1 := h.row
 have h3 := h.err
 have hlt := lt_of_cell h0
 have HN : Hid (numBytes 2 x = [x / 256, x % 256]) := by show _ = _; simp [numBytes]; omega
 rcases h.own.2 with ⟨_, e⟩ | ⟨g, cap, cur, rfl, hbg, hg, hnc, hcm, hcs, htake⟩
 ·omega
 have hgl := lt_of_heap hg
 have HG : Hid (w.heap[g]? = some (.cells cur 5 (0, 0))) := hg
 clear hg
 go_enter Tryz.func131, Tryz.ntmps131
 go_wp2_with (first | (go_at_call 163; refine (whole_any _ 0 _ (by assumption) (by assumption)).mono ?_; rintro e w' ⟨rfl, rfl⟩) | (go_at_call 161; go_in))
 refine (spot_put_ok b g cap cur.toList bs.length p ⟨w.heap.size, 2, none⟩ 2 2 (bytesOf [x / 256, x % 256]) _ ?c1 ?c2 (by simpa using hcs) hnc hcm (src_new _ _ _ _ _ (by simp [bytesOf])) (oneCell_bytesOf _) (by simp [bytesOf]) (by omega) hfit).mono ?_
 case c1 => exact ((Touch.refl _ _).alloc _).cellN h1
 case c2 => exact ((Touch.refl _ _).alloc _).heapN HG.out
 rintro e w' ⟨rfl, nq, rfl⟩
 clear hmf h0 h3
 go_wp2
 go_end0
 rw [HN.out]
 exact ⟨rfl, (wr_patched (p := p) (ns := [x / 256, x % 256]) h (((Touch.refl (fun _ => False) w).alloc _).alloc _) hbg HG.out hnc hcm hcs htake (by simp; omega)).drewN nq, Touch.drewN (Touch.setRow (((Touch.refl _ w).alloc _).alloc _) (Or.inl (Or.inr rfl)) _) nq⟩

end Go.Proofs.YtbfplepmgbkajaaGreatDoor

namespace Go.Proofs.YtbfplepmgbkajaaGreatDoor
open Go.RowKit
set_option linter.unusedVariables false
set_option maxRecDepth 100000

theorem patch_w2 (X : Nat → Prop) (b : Nat) (L : List Int) (x : Int) (p : Nat) (w : World) (h : Wr X w b L 65535) (hl : L.length ≤ 65535) (h0 : 0 ≤ x) (hx : x < 65536) (hfit : p + 2 ≤ L.length) :
  Calls Tryz.prog 131 #[.pointer (some ⟨b, 0, none⟩), .int .i64 p, .int .u32 x, .int .i64 2] w fun e w' => e = .returned (.tuple #[]) ∧ Wr X w' b (splice L p (numBytes 2 x)) 65535 ∧ Kept X w w' := by
 obtain ⟨v, ⟨hl', h⟩ | ⟨hl', _⟩, hb, ho, hX⟩ := h
 ·refine (patch_ok2 b v L 65535 x p w h ⟨h0, hx⟩ hfit).mono ?_
  rintro e w' ⟨rfl, h', t⟩
  have hs : (splice L p (numBytes 2 x)).length = L.length := length_splice _ _ _ (by rw [length_numBytes (by omega)]; omega)
  exact ⟨rfl, wr_step h hb ho hX t (Or.inl rfl) (Or.inl ⟨by rw [hs]; omega, h'⟩)⟩
 ·omega
/-- All bytes, with their length. -/
def lenB (L : List Int) : List Int := splice L 2 (numBytes 2 (L.length : Int))
/-- And with their sum. -/
def sealedB (k : Int) (L : List Int) : List Int := if k = 2 then lenB L else splice (lenB L) 12 (numBytes 2 (65535 - fold (W true (summedB (lenB L)))))
theorem length_lenB {L : List Int} (h : 24 ≤ L.length) : (lenB L).length = L.length := length_splice _ _ _ (by rw [length_numBytes (by omega)]; omega)
theorem numBytes2_byte (x : Int) : ∀ z ∈ numBytes 2 x, 0 ≤ z ∧ z < 256 := by
 intro z hz
 simp [numBytes] at hz
 rcases hz with rfl | rfl <;> omega
theorem lenB_byte {L : List Int} (h : ∀ z ∈ L, 0 ≤ z ∧ z < 256) : ∀ z ∈ lenB L, 0 ≤ z ∧ z < 256 := by
 intro z hz
 unfold lenB splice at hz
 simp only [List.mem_append] at hz
 rcases hz with hz | hz | hz
 ·exact h z (List.mem_of_mem_take hz)
 ·exact numBytes2_byte _ z hz
 ·exact h z (List.mem_of_mem_drop hz)
theorem summedB_byte {L : List Int} (h : ∀ z ∈ L, 0 ≤ z ∧ z < 256) : ∀ z ∈ summedB L, 0 ≤ z ∧ z < 256 := by
 intro z hz
 unfold summedB at hz
 rcases List.mem_append.1 hz with hz | hz
 ·exact h z (List.mem_of_mem_take hz)
 ·exact h z (List.mem_of_mem_drop hz)

set_option maxHeartbeats 4000000 in
theorem sealed_any (X : Nat → Prop) (b : Nat) (L : List Int) (k : Int) (w : World) (hw : Wr X w b L 65535) (hl0 : 24 ≤ L.length) (hl1 : L.length ≤ 65535) (hby : ∀ z ∈ L, 0 ≤ z ∧ z < 256) :
  Calls Tryz.prog 98 #[.agg #[.pointer (some ⟨b, 0, none⟩)], .int .u16 k] w fun e w' => ∃ v' w1, e = .returned v' ∧ Kept X w w1 ∧ Buf w1 w' v' (sealedB k L) := by
 obtain ⟨wa, hwa⟩ : ∃ wa, wa = w.alloc (.cells #[.pointer (some ⟨b, 0, none⟩)] 137) := ⟨_, rfl⟩
 have ta : Touch (fun _ => False) w wa := by rw [hwa]; exact (Touch.refl _ w).alloc _
 have za : wa.heap.size = w.heap.size + 1 := by rw [hwa]; simp
 have ca : wa.cell? ⟨w.heap.size, 0, none⟩ = some (.pointer (some ⟨b, 0, none⟩)) := by rw [hwa]; simp [go_sem]
 obtain ⟨Y, hY⟩ : ∃ Y : Nat → Prop, Y = fun k => X k ∨ (w.heap.size ≤ k ∧ k < wa.heap.size) := ⟨_, rfl⟩
 have ya : Y w.heap.size := by subst hY; exact Or.inr (by omega)
 have YX : Hid (∀ k, X k → Y k) := by subst hY; exact fun k hk => Or.inl hk
 have WA : Hid (Wr Y wa b L 65535) := by subst hY; exact hw.more ta (fun k hk => hk)
 have TA : Hid (Touch (fun _ => False) w wa) := ta
 have c0 := hold_cell ca ya
 have st : Hold Y wa wa.drew := ⟨Kept.of ((Touch.refl _ _).drew)⟩
 have qk : IntKind.u32.wrap (L.length : Int) = (L.length : Int) := wrap_u32 (by omega) (by omega)
 have HL : Hid (24 ≤ L.length ∧ L.length ≤ 65535) := ⟨hl0, hl1⟩
 have HB : Hid (∀ z ∈ lenB L, 0 ≤ z ∧ z < 256) := lenB_byte hby
 have HS : Hid (∀ w', Wr Y w' b L 65535 → Calls Tryz.prog 132 #[.pointer (some ⟨b, 0, none⟩)] w' fun e w'' => e = .returned (.int .i64 L.length) ∧ w' = w'') := fun w' h => len_w Y b L 65535 w' h (by omega)
 have HP : Hid (∀ w', Wr Y w' b L 65535 → Calls Tryz.prog 131 #[.pointer (some ⟨b, 0, none⟩), .int .i64 2, .int .u32 L.length, .int .i64 2] w' fun e w'' => e = .returned (.tuple #[]) ∧ Wr Y w'' b (lenB L) 65535 ∧ Kept Y w' w'') := fun w' h => patch_w2 Y b L L.length 2 w' h hl1 (by omega) (by omega) (by omega)
 have hlb : (lenB L).length = L.length := length_lenB hl0
 have HD : Hid (∀ w', Wr Y w' b (lenB L) 65535 → Calls Tryz.prog 133 #[.pointer (some ⟨b, 0, none⟩)] w' fun e w'' => ∃ v', e = .returned (.tuple #[v', .int .i64 0]) ∧ Buf w' w'' v' (lenB L)) := fun w' h => done_w Y b (lenB L) 65535 w' h (by omega) (by omega)
 have HU : Hid (∀ v w', ArgAt w' v (lenB L) → Calls Tryz.prog 78 #[v] w' fun e w'' => ∃ v', e = .returned v' ∧ Buf w' w'' v' (summedB (lenB L))) := fun v w' h => summed_any v (lenB L) w' h (by omega) (by omega)
 have HQ : Hid (∀ v w', ArgAt w' v (summedB (lenB L)) → Calls Tryz.prog 134 #[v] w' fun e w'' => e = .returned (.int .u16 (65535 - fold (W true (summedB (lenB L))))) ∧ Touch (fun _ => False) w' w'') := fun v w' h => plain_any v _ w' h (summedB_byte HB.out)
 have hf := fold_bound (W true (summedB (lenB L)))
 have HP2 : Hid (∀ w' x, 0 ≤ x → x < 65536 → Wr Y w' b (lenB L) 65535 → Calls Tryz.prog 131 #[.pointer (some ⟨b, 0, none⟩), .int .i64 12, .int .u32 x, .int .i64 2] w' fun e w'' => e = .returned (.tuple #[]) ∧ Wr Y w'' b (splice (lenB L) 12 (numBytes 2 x)) 65535 ∧ Kept Y w' w'') := fun w' x h0 h1 h => patch_w2 Y b (lenB L) x 12 w' h (by omega) h0 h1 (by omega)
 have HD2 : Hid (∀ w' x, Wr Y w' b (splice (lenB L) 12 (numBytes 2 x)) 65535 → Calls Tryz.prog 133 #[.pointer (some ⟨b, 0, none⟩)] w' fun e w'' => ∃ v', e = .returned (.tuple #[v', .int .i64 0]) ∧ Buf w' w'' v' (splice (lenB L) 12 (numBytes 2 x))) := fun w' x h => done_w Y b _ 65535 w' h (by rw [length_splice _ _ _ (by rw [length_numBytes (by omega)]; omega)]; omega) (by omega)
 have HE1 : Hid (k = 2 → sealedB k L = lenB L) := fun h => by unfold sealedB; rw [if_pos h]
 have HE2 : Hid (k ≠ 2 → sealedB k L = splice (lenB L) 12 (numBytes 2 (65535 - fold (W true (summedB (lenB L)))))) := fun h => by unfold sealedB; rw [if_neg h]
 generalize sealedB k L = SE at *
 generalize summedB (lenB L) = SB at *
 generalize fold (W true SB) = FO at *
 have qf : IntKind.u32.wrap (65535 - FO) = 65535 - FO := wrap_u32 (by omega) (by omega)
 have HF : Hid (0 ≤ 65535 - FO ∧ 65535 - FO < 65536) := ⟨by omega, by omega⟩
 generalize 65535 - FO = PS at *
 generalize lenB L = LB at *
 clear hw ta za ca hY ya hl0 hl1 hby hlb hf HB
 go_enter Tryz.func98, Tryz.ntmps98
 go_upto_region 1 with fail
 rw [← hwa]
 clear hwa
 generalize w.heap.size = g1 at *
 have WD : Wr Y wa.drew b L 65535 := WA.out.keep ((Touch.refl _ _).drew)
 go_region_held3 (fun w' => Hold Y wa w') (first | with_reducible assumption) (first
  | (go_at_call 132; refine Calls.mono (HS.out _ WD) ?_; rintro e wx ⟨rfl, rfl⟩)
  | (go_at_call 131; refine Calls.mono (HP.out _ WD) ?_; rintro e wx ⟨rfl, hx, kx⟩; have sx : Hold Y wa wx := ⟨Kept.trans st.k kx⟩))
 clear WD st kx HS HP
 have e0 := c0 _ sx
 have WX : Hid (Wr Y wx b LB 65535) := hx
 clear hx
 go_wp2_with fail
 refine Calls.mono (HD.out _ WX.out) ?_
 rintro e w2 ⟨v2, rfl, b2⟩
 have B2 : Hid (Buf wx w2 v2 LB) := b2
 have s2 : Hold Y wa w2 := sx.step b2.t
 have W2 : Hid (Wr Y w2 b LB 65535) := WX.out.keep b2.t
 have f0 := c0 _ s2
 clear b2 e0
 by_cases hk : k = 2
 ·have hkb : ((k : Int) == 2) = true := by simpa using hk
  go_wp2
  go_ret
  rw [HE1.out hk]
  exact ⟨v2, wx, rfl, (Kept.of TA.out).trans (sx.k.less (fun k _ hk => YX.out k hk)), B2.out⟩
 ·have hkb : ((k : Int) == 2) = false := by simpa using hk
  have HK : Hid (k ≠ 2) := hk
  clear hk
  have W2d : Wr Y w2.drew b LB 65535 := W2.out.keep ((Touch.refl _ _).drew)
  have st2 : Hold Y wa w2.drew := s2.step ((Touch.refl _ _).drew)
  have A2 : ArgAt w2.drew v2 LB := B2.out.arg.keep ((Touch.refl _ _).drew) (fun _ _ h => h)
  go_upto_region 5 with fail
  go_region_held3 (fun w' => Hold Y wa w') (first | with_reducible assumption) (first
   | (go_at_call 78; refine Calls.mono (HU.out _ _ A2) ?_; rintro e w3 ⟨v3, rfl, b3⟩; have a3 := b3.arg; have W3 := W2d.keep b3.t; have s3 := st2.step b3.t)
   | (go_at_call 134; refine Calls.mono (HQ.out _ _ a3) ?_; rintro e w4 ⟨rfl, t4⟩; have W4 := W3.keep t4; have s4 := s3.step t4)
   | (go_at_call 131; refine Calls.mono (HP2.out _ PS HF.out.1 HF.out.2 W4) ?_; rintro e w5 ⟨rfl, h5, k5⟩; have s5 : Hold Y wa w5 := ⟨Kept.trans s4.k k5⟩))
  have W5 : Hid (Wr Y w5 b (splice LB 12 (numBytes 2 PS)) 65535) := h5
  have g0 := c0 _ s5
  clear h5 k5 W4 s4 t4 W3 s3 a3 b3 A2 st2 W2d f0
  go_wp2_with fail
  refine Calls.mono (HD2.out _ _ W5.out) ?_
  rintro e w6 ⟨v6, rfl, b6⟩
  have B6 : Hid (Buf w5 w6 v6 (splice LB 12 (numBytes 2 PS))) := b6
  clear b6 g0
  go_wp2
  go_ret
  rw [HE2.out HK.out]
  exact ⟨v6, w5, rfl, (Kept.of TA.out).trans (s5.k.less (fun k _ hk => YX.out k hk)), B6.out⟩
end Go.Proofs.YtbfplepmgbkajaaGreatDoor

namespace Go.Proofs.YtbfplepmgbkajaaGreatDoor
open Go.RowKit
set_option linter.unusedVariables false
set_option maxRecDepth 100000

theorem all_oneCell {cs : List Value} (h : ∀ v ∈ cs, v.oneCell' = true) : cs.toArray.all (·.oneCell') = true := Array.all_eq_true_iff_forall_mem.2 (fun v hv => h v (by simpa using hv))
/-- Block g holds just the cells xs. -/
def Row (w : World) (g : Nat) (T : TypeId) (xs : List Value) : Prop := w.heap[g]? = some (.cells xs.toArray T (0, 0))
theorem Row.cell {w : World} {g : Nat} {T : TypeId} {xs : List Value} (h : Row w g T xs) (j : Nat) : w.cell? ⟨g, j, none⟩ = xs[j]? := by
 rw [cell_of_row w g j _ T _ h]
 simp
theorem Row.frozen {w : World} {g : Nat} {T : TypeId} {xs : List Value} (h : Row w g T xs) (j : Nat) : w.frozen? ⟨g, j, none⟩ = false := frozen_of_row w g j _ T h
theorem Row.set {w : World} {g : Nat} {T : TypeId} {xs : List Value} (h : Row w g T xs) (j : Nat) (u : Value) : Row (w.setCell ⟨g, j, none⟩ u) g T (xs.set j u) := by
 unfold Row at *
 rw [heap_setCell_same w g j _ T u h]
 simp
theorem Row.keep {w w' : World} {g : Nat} {T : TypeId} {xs : List Value} (h : Row w g T xs) (t : Touch (fun _ => False) w w') : Row w' g T xs := t.heapN h
theorem Row.lt {w : World} {g : Nat} {T : TypeId} {xs : List Value} (h : Row w g T xs) : g < w.heap.size := lt_of_heap h
theorem Row.setRow {w : World} {g : Nat} {T : TypeId} {xs : List Value} (h : Row w g T xs) (cs : Array Value) : Row (w.setRow g cs) g T cs.toList := by
 unfold Row at *
 rw [setRow_heap w g _ cs T _ h]
theorem row_new (w : World) (T : TypeId) (C : Array Value) : Row (w.alloc (.cells C T)) w.heap.size T C.toList := by
 unfold Row
 show (w.heap.push _)[w.heap.size]? = _
 simp
end Go.Proofs.YtbfplepmgbkajaaGreatDoor
