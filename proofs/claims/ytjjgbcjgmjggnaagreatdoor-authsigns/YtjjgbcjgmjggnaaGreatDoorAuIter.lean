/- The keys whose span has a time: an iterator. -/
import Derived.Test.YtjjgbcjgmjggnaaGreatDoorAuChk
import Derived.Test.YtjjgbcjgmjggnaaGreatDoorAuAhead
import Derived.RangeFuncNested
import Derived.RangeFuncBound
import Derived.RangeFuncCalls
import Derived.RangeFuncLeaves
import Derived.Shelf.Abstract
import Derived.Shelf.RegionOpen
import Derived.WalkKit
import Derived.OwnWalkIn
import Derived.TacticsInMore
import Derived.LoopNIn
import Derived.LoopIn
namespace Go.Proofs.YtjjgbcjgmjggnaaGreatDoor
open Go.RowKit Go.Shelf
set_option linter.unusedVariables false
set_option maxRecDepth 100000
attribute [local go_sem] Oper.semAt_some

theorem below_touch {w w' : World} (h : Below w.heap.size w w') : Touch (fun _ => False) w w' := ⟨h.os, h.tape, h.output, h.size, fun k hk _ => h.block k hk⟩
theorem grown_touch {w w' : World} (t : Touch (fun _ => False) w w') : w.grownBy w' none := ⟨t.os, t.tape, t.output, t.size, fun k hk _ => t.block k hk (fun h => h)⟩
/-- The numbers of the keys that count, of the first k. -/
def selK (ks : List KE) (f : KE → Bool) : Nat → List (Fin ks.length)
  | 0 => []
  | k + 1 => if h : k < ks.length then (if f ks[k] = true then selK ks f k ++ [⟨k, h⟩] else selK ks f k) else selK ks f k
theorem selK_yes {ks : List KE} {f : KE → Bool} {k : Nat} (h : k < ks.length) (hf : f ks[k] = true) : selK ks f (k + 1) = selK ks f k ++ [⟨k, h⟩] := by
  show (if h : k < ks.length then _ else _) = _
  rw [dif_pos h, if_pos hf]
theorem selK_no {ks : List KE} {f : KE → Bool} {k : Nat} (h : k < ks.length) (hf : f ks[k] = false) : selK ks f (k + 1) = selK ks f k := by
  show (if h : k < ks.length then _ else _) = _
  rw [dif_pos h, if_neg (by rw [hf]; simp)]
theorem selK_len (ks : List KE) (f : KE → Bool) : ∀ k, (selK ks f k).length ≤ k
  | 0 => Nat.le_refl _
  | k + 1 => by
    have := selK_len ks f k
    unfold selK
    split
    · split
      · simp; omega
      · omega
    · omega
abbrev encK (ks : List KE) (i : Fin ks.length) : Array Value := #[.int .i64 (i.1 : Int), (ks[i]).agg]
set_option maxHeartbeats 4000000 in
/-- The iterator over the keys that are in the span of sending. -/
theorem snd_stops (n : Nat) (hn : 1 ≤ n) (b0 b1 b2 : Nat) (G : Nat → Prop) (va : Option Addr) (vc : Nat) (ks : List KE) (now : Int) (w : World) (hl : ks.length ≤ 1000000)
    (hv : ∀ w', Touch G w w' → ChainAt w' (.slice va ks.length vc) ks) (h0 : ∀ w', Touch G w w' → w'.cell? ⟨b0, 0, none⟩ = some (.slice va ks.length vc)) (h1 : ∀ w', Touch G w w' → w'.cell? ⟨b1, 0, none⟩ = some (.func (.func 56) #[] #[])) (h2 : ∀ w', Touch G w w' → w'.cell? ⟨b2, 0, none⟩ = some (.int .i64 now)) :
    SeqStopsK Fence.wide n Tryz.prog 87 #[.pointer (some ⟨b0, 0, none⟩), .pointer (some ⟨b1, 0, none⟩), .pointer (some ⟨b2, 0, none⟩)] (encK ks) (Touch G) (fun xs => xs = selK ks (fun x => x.p.sends now) ks.length) (fun pre => ∃ k, k ≤ ks.length ∧ pre = selK ks (fun x => x.p.sends now) k) ks.length w := fun l J Jx W hW hJ hJx hY hz => by
  have TW : Hid (Touch G w W) := (below_touch hW).mono (fun _ _ h => h.elim)
  have HV' : Hid (∀ w', Touch G w w' → ChainAt w' (.slice va ks.length vc) ks) := hv
  have H0 : Hid (∀ w', Touch G w w' → w'.cell? ⟨b0, 0, none⟩ = some (.slice va ks.length vc)) := h0
  have H1 : Hid (∀ w', Touch G w w' → w'.cell? ⟨b1, 0, none⟩ = some (.func (.func 56) #[] #[])) := h1
  have H2 : Hid (∀ w', Touch G w w' → w'.cell? ⟨b2, 0, none⟩ = some (.int .i64 now)) := h2
  have hl' : (ks.length : Int) ≤ 1000000 := by omega
  have HY : Hid (∀ (pre : List (Fin ks.length)) (x : Fin ks.length) (W1 : World), J pre W1 → pre.length < ks.length → YieldAt Fence.wide (n - 1) Tryz.prog l (encK ks x) W1 fun e W' => (e = .returned (.bool true) ∧ J (pre ++ [x]) W' ∧ Touch G W1 W') ∨ (e = .returned (.bool false) ∧ Jx (pre ++ [x]) W')) := hY
  have HJ : Hid (AbidesFrom W.heap.size J) := hJ
  have d0 := H0.out W TW.out
  clear hv h0 h1 h2 hY hJ hJx hl
  refine callsIn_of_wp Tryz.func87 rfl trivial ?_ rfl
  simp only [Tryz.ntmps87, List.size_toArray, List.length_cons, List.length_nil, Nat.reduceAdd, Nat.reduceSub, Array.replicate_succ, Array.replicate_zero, List.push_toArray, List.append_toArray, List.nil_append, List.cons_append]
  gi_wp2
  clear d0
  gi_loopw [5, 6, 7, 8, 11] (fun _ _ _ _ i wr => ∃ k : Nat, k ≤ ks.length ∧ i = .int .i64 k ∧ J (selK ks (fun x => x.p.sends now) k) wr ∧ Touch G w wr)
    (fun _ _ _ _ i _ => ks.length - (intOf i).toNat)
  case atStart => exact ⟨0, Nat.zero_le _, rfl, hz, TW.out⟩
  case round =>
    obtain ⟨k, hk, rfl, hJs, hnx⟩ := hrel
    by_cases hlt : k < ks.length
    · have hlt' : (k : Int) < (ks.length : Int) := by omega
      have hk00 : (0 : Int) ≤ (k : Int) := by omega
      have hkw : wrap64 ((k : Int) + 1) = (k : Int) + 1 := by unfold wrap64; omega
      obtain ⟨x, hx⟩ : ∃ x, ks[k] = x := ⟨_, rfl⟩
      have hx' : ks[k]? = some x := by rw [List.getElem?_eq_getElem hlt, hx]
      have ex : encK ks ⟨k, hlt⟩ = #[.int .i64 (k : Int), .agg #[.int .u8 x.p.id, .int .u16 x.p.kind, .slice x.a x.p.sec.length x.c, .int .i64 x.p.sf, .int .i64 x.p.su, .int .i64 x.p.tf, .int .i64 x.p.tu]] := by simp [encK, hx]
      obtain ⟨ox, gR, off, cR, eR, hcell⟩ := ChainAt.one (HV'.out wr hnx) hx'
      cases eR
      have e0 : wr.cell? ⟨gR, off + k * 7, none⟩ = some (.int .u8 x.p.id) := by exact hcell 0 _ rfl
      have e1 : wr.cell? ⟨gR, off + k * 7 + 1, none⟩ = some (.int .u16 x.p.kind) := by rw [Nat.add_assoc]; exact hcell 1 _ rfl
      have e2 : wr.cell? ⟨gR, off + k * 7 + 2, none⟩ = some (.slice x.a x.p.sec.length x.c) := by rw [Nat.add_assoc]; exact hcell 2 _ rfl
      have e3 : wr.cell? ⟨gR, off + k * 7 + 3, none⟩ = some (.int .i64 x.p.sf) := by rw [Nat.add_assoc]; exact hcell 3 _ rfl
      have e4 : wr.cell? ⟨gR, off + k * 7 + 4, none⟩ = some (.int .i64 x.p.su) := by rw [Nat.add_assoc]; exact hcell 4 _ rfl
      have e5 : wr.cell? ⟨gR, off + k * 7 + 5, none⟩ = some (.int .i64 x.p.tf) := by rw [Nat.add_assoc]; exact hcell 5 _ rfl
      have e6 : wr.cell? ⟨gR, off + k * 7 + 6, none⟩ = some (.int .i64 x.p.tu) := by rw [Nat.add_assoc]; exact hcell 6 _ rfl
      have f1 := H1.out wr hnx
      have TR : Hid (Touch G w wr) := hnx
      have HJS : Hid (J (selK ks (fun x => x.p.sends now) k) wr) := hJs
      have hb1 := lt_of_cell f1
      clear hcell hx' ox hnx hJs
      gi_wp2_with fail
      have r0 := kbox_new wr x.p.id x.p.kind x.a x.p.sec.length x.c x.p.sf x.p.su x.p.tf x.p.tu
      have TA : Hid (Touch (fun _ => False) wr (wr.alloc (.cells #[.int .u8 x.p.id, .int .u16 x.p.kind, .slice x.a x.p.sec.length x.c, .int .i64 x.p.sf, .int .i64 x.p.su, .int .i64 x.p.tf, .int .i64 x.p.tu] 61))) := (Touch.refl _ _).alloc _
      generalize wr.alloc (.cells #[.int .u8 x.p.id, .int .u16 x.p.kind, .slice x.a x.p.sec.length x.c, .int .i64 x.p.sf, .int .i64 x.p.su, .int .i64 x.p.tf, .int .i64 x.p.tu] 61) = wa at r0 TA ⊢
      generalize wr.heap.size = kb at r0 ⊢
      clear e0 e1 e2 e3 e4 e5 e6 f1
      refine ⟨trivial, ?_⟩
      refine (callsIn_wide.2 (sending_any wa x.p.id x.p.kind x.a x.p.sec.length x.c x.p.sf x.p.su x.p.tf x.p.tu)).mono ?_
      rintro e w1 ⟨rfl, t1⟩
      have T1' : Hid (Touch (fun _ => False) wr w1) := TA.out.trans t1
      have T1 : Hid (Touch G w w1) := TR.out.trans (T1'.out.mono (fun _ _ h => h.elim))
      have r1 := r0.keep t1
      have hJ1 : Hid (J (selK ks (fun x => x.p.sends now) k) w1) := HJ.out _ _ _ none HJS.out (grown_touch T1'.out) (fun r e => by cases e)
      have g2 := H2.out w1 T1.out
      clear t1 TA T1' r0 HJS TR
      have c0 := r1.c0
      have c1 := r1.c1
      have c2 := r1.c2
      have c3 := r1.c3
      have c4 := r1.c4
      have c5 := r1.c5
      have c6 := r1.c6
      clear r1
      by_cases ha : x.p.sf ≤ now
      · by_cases hb : now ≤ x.p.su
        · have hs : selK ks (fun x => x.p.sends now) (k + 1) = selK ks (fun x => x.p.sends now) k ++ [⟨k, hlt⟩] := selK_yes hlt (by rw [hx]; simp [AKP.sends, ha, hb])
          have HS : Hid (selK ks (fun x => x.p.sends now) (k + 1) = selK ks (fun x => x.p.sends now) k ++ [⟨k, hlt⟩]) := hs
          clear hs
          have hYY := HY.out (selK ks (fun x => x.p.sends now) k) ⟨k, hlt⟩ w1 hJ1.out (by have := selK_len ks (fun x => x.p.sends now) k; omega)
          rw [ex] at hYY
          obtain ⟨fn, tmps, assign, body, hy, hR⟩ := hYY
          gi_wp2
          refine hR.mono ?_
          rintro e W3 (⟨rfl, hJ3, hk3⟩ | ⟨rfl, hJx3⟩)
          · have T3 : Hid (Touch G w W3) := T1.out.trans hk3
            clear hk3
            gi_wp2
            go_roundw
            case rel => exact ⟨k + 1, by omega, by go_num, by rw [HS.out]; exact hJ3, T3.out⟩
            case measure => simp [intOf]; omega
          · gi_wp2
            refine bodyPost_ret (results_none rfl _ _ _) rfl ?_
            exact ⟨⟨_, rfl⟩, .inr ⟨_, ⟨k + 1, by omega, HS.out.symm⟩, hJx3⟩⟩
        · have HS : Hid (selK ks (fun x => x.p.sends now) (k + 1) = selK ks (fun x => x.p.sends now) k) := selK_no hlt (by rw [hx]; simp [AKP.sends, hb])
          gi_wp2
          refine ⟨fun _ h => (by cases h), ?_⟩
          gi_wp2
          go_roundw
          case rel => exact ⟨k + 1, by omega, by go_num, by rw [HS.out]; exact hJ1.out, T1.out⟩
          case measure => simp [intOf]; omega
      · have HS : Hid (selK ks (fun x => x.p.sends now) (k + 1) = selK ks (fun x => x.p.sends now) k) := selK_no hlt (by rw [hx]; simp [AKP.sends, ha])
        gi_wp2
        refine ⟨fun _ h => (by cases h), ?_⟩
        gi_wp2
        go_roundw
        case rel => exact ⟨k + 1, by omega, by go_num, by rw [HS.out]; exact hJ1.out, T1.out⟩
        case measure => simp [intOf]; omega
    · obtain rfl : k = ks.length := by omega
      gi_wp2
      go_end0
      exact ⟨⟨_, rfl⟩, .inl ⟨_, rfl, hJs⟩⟩

set_option maxHeartbeats 4000000 in
/-- The iterator over the keys that are in the span of taking. -/
theorem tak_stops (n : Nat) (hn : 1 ≤ n) (b0 b1 b2 : Nat) (G : Nat → Prop) (va : Option Addr) (vc : Nat) (ks : List KE) (now : Int) (w : World) (hl : ks.length ≤ 1000000)
    (hv : ∀ w', Touch G w w' → ChainAt w' (.slice va ks.length vc) ks) (h0 : ∀ w', Touch G w w' → w'.cell? ⟨b0, 0, none⟩ = some (.slice va ks.length vc)) (h1 : ∀ w', Touch G w w' → w'.cell? ⟨b1, 0, none⟩ = some (.func (.func 79) #[] #[])) (h2 : ∀ w', Touch G w w' → w'.cell? ⟨b2, 0, none⟩ = some (.int .i64 now)) :
    SeqStopsK Fence.wide n Tryz.prog 87 #[.pointer (some ⟨b0, 0, none⟩), .pointer (some ⟨b1, 0, none⟩), .pointer (some ⟨b2, 0, none⟩)] (encK ks) (Touch G) (fun xs => xs = selK ks (fun x => x.p.takes now) ks.length) (fun pre => ∃ k, k ≤ ks.length ∧ pre = selK ks (fun x => x.p.takes now) k) ks.length w := fun l J Jx W hW hJ hJx hY hz => by
  have TW : Hid (Touch G w W) := (below_touch hW).mono (fun _ _ h => h.elim)
  have HV' : Hid (∀ w', Touch G w w' → ChainAt w' (.slice va ks.length vc) ks) := hv
  have H0 : Hid (∀ w', Touch G w w' → w'.cell? ⟨b0, 0, none⟩ = some (.slice va ks.length vc)) := h0
  have H1 : Hid (∀ w', Touch G w w' → w'.cell? ⟨b1, 0, none⟩ = some (.func (.func 79) #[] #[])) := h1
  have H2 : Hid (∀ w', Touch G w w' → w'.cell? ⟨b2, 0, none⟩ = some (.int .i64 now)) := h2
  have hl' : (ks.length : Int) ≤ 1000000 := by omega
  have HY : Hid (∀ (pre : List (Fin ks.length)) (x : Fin ks.length) (W1 : World), J pre W1 → pre.length < ks.length → YieldAt Fence.wide (n - 1) Tryz.prog l (encK ks x) W1 fun e W' => (e = .returned (.bool true) ∧ J (pre ++ [x]) W' ∧ Touch G W1 W') ∨ (e = .returned (.bool false) ∧ Jx (pre ++ [x]) W')) := hY
  have HJ : Hid (AbidesFrom W.heap.size J) := hJ
  have d0 := H0.out W TW.out
  clear hv h0 h1 h2 hY hJ hJx hl
  refine callsIn_of_wp Tryz.func87 rfl trivial ?_ rfl
  simp only [Tryz.ntmps87, List.size_toArray, List.length_cons, List.length_nil, Nat.reduceAdd, Nat.reduceSub, Array.replicate_succ, Array.replicate_zero, List.push_toArray, List.append_toArray, List.nil_append, List.cons_append]
  gi_wp2
  clear d0
  gi_loopw [5, 6, 7, 8, 11] (fun _ _ _ _ i wr => ∃ k : Nat, k ≤ ks.length ∧ i = .int .i64 k ∧ J (selK ks (fun x => x.p.takes now) k) wr ∧ Touch G w wr)
    (fun _ _ _ _ i _ => ks.length - (intOf i).toNat)
  case atStart => exact ⟨0, Nat.zero_le _, rfl, hz, TW.out⟩
  case round =>
    obtain ⟨k, hk, rfl, hJs, hnx⟩ := hrel
    by_cases hlt : k < ks.length
    · have hlt' : (k : Int) < (ks.length : Int) := by omega
      have hk00 : (0 : Int) ≤ (k : Int) := by omega
      have hkw : wrap64 ((k : Int) + 1) = (k : Int) + 1 := by unfold wrap64; omega
      obtain ⟨x, hx⟩ : ∃ x, ks[k] = x := ⟨_, rfl⟩
      have hx' : ks[k]? = some x := by rw [List.getElem?_eq_getElem hlt, hx]
      have ex : encK ks ⟨k, hlt⟩ = #[.int .i64 (k : Int), .agg #[.int .u8 x.p.id, .int .u16 x.p.kind, .slice x.a x.p.sec.length x.c, .int .i64 x.p.sf, .int .i64 x.p.su, .int .i64 x.p.tf, .int .i64 x.p.tu]] := by simp [encK, hx]
      obtain ⟨ox, gR, off, cR, eR, hcell⟩ := ChainAt.one (HV'.out wr hnx) hx'
      cases eR
      have e0 : wr.cell? ⟨gR, off + k * 7, none⟩ = some (.int .u8 x.p.id) := by exact hcell 0 _ rfl
      have e1 : wr.cell? ⟨gR, off + k * 7 + 1, none⟩ = some (.int .u16 x.p.kind) := by rw [Nat.add_assoc]; exact hcell 1 _ rfl
      have e2 : wr.cell? ⟨gR, off + k * 7 + 2, none⟩ = some (.slice x.a x.p.sec.length x.c) := by rw [Nat.add_assoc]; exact hcell 2 _ rfl
      have e3 : wr.cell? ⟨gR, off + k * 7 + 3, none⟩ = some (.int .i64 x.p.sf) := by rw [Nat.add_assoc]; exact hcell 3 _ rfl
      have e4 : wr.cell? ⟨gR, off + k * 7 + 4, none⟩ = some (.int .i64 x.p.su) := by rw [Nat.add_assoc]; exact hcell 4 _ rfl
      have e5 : wr.cell? ⟨gR, off + k * 7 + 5, none⟩ = some (.int .i64 x.p.tf) := by rw [Nat.add_assoc]; exact hcell 5 _ rfl
      have e6 : wr.cell? ⟨gR, off + k * 7 + 6, none⟩ = some (.int .i64 x.p.tu) := by rw [Nat.add_assoc]; exact hcell 6 _ rfl
      have f1 := H1.out wr hnx
      have TR : Hid (Touch G w wr) := hnx
      have HJS : Hid (J (selK ks (fun x => x.p.takes now) k) wr) := hJs
      have hb1 := lt_of_cell f1
      clear hcell hx' ox hnx hJs
      gi_wp2_with fail
      have r0 := kbox_new wr x.p.id x.p.kind x.a x.p.sec.length x.c x.p.sf x.p.su x.p.tf x.p.tu
      have TA : Hid (Touch (fun _ => False) wr (wr.alloc (.cells #[.int .u8 x.p.id, .int .u16 x.p.kind, .slice x.a x.p.sec.length x.c, .int .i64 x.p.sf, .int .i64 x.p.su, .int .i64 x.p.tf, .int .i64 x.p.tu] 61))) := (Touch.refl _ _).alloc _
      generalize wr.alloc (.cells #[.int .u8 x.p.id, .int .u16 x.p.kind, .slice x.a x.p.sec.length x.c, .int .i64 x.p.sf, .int .i64 x.p.su, .int .i64 x.p.tf, .int .i64 x.p.tu] 61) = wa at r0 TA ⊢
      generalize wr.heap.size = kb at r0 ⊢
      clear e0 e1 e2 e3 e4 e5 e6 f1
      refine ⟨trivial, ?_⟩
      refine (callsIn_wide.2 (taking_any wa x.p.id x.p.kind x.a x.p.sec.length x.c x.p.sf x.p.su x.p.tf x.p.tu)).mono ?_
      rintro e w1 ⟨rfl, t1⟩
      have T1' : Hid (Touch (fun _ => False) wr w1) := TA.out.trans t1
      have T1 : Hid (Touch G w w1) := TR.out.trans (T1'.out.mono (fun _ _ h => h.elim))
      have r1 := r0.keep t1
      have hJ1 : Hid (J (selK ks (fun x => x.p.takes now) k) w1) := HJ.out _ _ _ none HJS.out (grown_touch T1'.out) (fun r e => by cases e)
      have g2 := H2.out w1 T1.out
      clear t1 TA T1' r0 HJS TR
      have c0 := r1.c0
      have c1 := r1.c1
      have c2 := r1.c2
      have c3 := r1.c3
      have c4 := r1.c4
      have c5 := r1.c5
      have c6 := r1.c6
      clear r1
      by_cases ha : x.p.tf ≤ now
      · by_cases hb : now ≤ x.p.tu
        · have hs : selK ks (fun x => x.p.takes now) (k + 1) = selK ks (fun x => x.p.takes now) k ++ [⟨k, hlt⟩] := selK_yes hlt (by rw [hx]; simp [AKP.takes, ha, hb])
          have HS : Hid (selK ks (fun x => x.p.takes now) (k + 1) = selK ks (fun x => x.p.takes now) k ++ [⟨k, hlt⟩]) := hs
          clear hs
          have hYY := HY.out (selK ks (fun x => x.p.takes now) k) ⟨k, hlt⟩ w1 hJ1.out (by have := selK_len ks (fun x => x.p.takes now) k; omega)
          rw [ex] at hYY
          obtain ⟨fn, tmps, assign, body, hy, hR⟩ := hYY
          gi_wp2
          refine hR.mono ?_
          rintro e W3 (⟨rfl, hJ3, hk3⟩ | ⟨rfl, hJx3⟩)
          · have T3 : Hid (Touch G w W3) := T1.out.trans hk3
            clear hk3
            gi_wp2
            go_roundw
            case rel => exact ⟨k + 1, by omega, by go_num, by rw [HS.out]; exact hJ3, T3.out⟩
            case measure => simp [intOf]; omega
          · gi_wp2
            refine bodyPost_ret (results_none rfl _ _ _) rfl ?_
            exact ⟨⟨_, rfl⟩, .inr ⟨_, ⟨k + 1, by omega, HS.out.symm⟩, hJx3⟩⟩
        · have HS : Hid (selK ks (fun x => x.p.takes now) (k + 1) = selK ks (fun x => x.p.takes now) k) := selK_no hlt (by rw [hx]; simp [AKP.takes, hb])
          gi_wp2
          refine ⟨fun _ h => (by cases h), ?_⟩
          gi_wp2
          go_roundw
          case rel => exact ⟨k + 1, by omega, by go_num, by rw [HS.out]; exact hJ1.out, T1.out⟩
          case measure => simp [intOf]; omega
      · have HS : Hid (selK ks (fun x => x.p.takes now) (k + 1) = selK ks (fun x => x.p.takes now) k) := selK_no hlt (by rw [hx]; simp [AKP.takes, ha])
        gi_wp2
        refine ⟨fun _ h => (by cases h), ?_⟩
        gi_wp2
        go_roundw
        case rel => exact ⟨k + 1, by omega, by go_num, by rw [HS.out]; exact hJ1.out, T1.out⟩
        case measure => simp [intOf]; omega
    · obtain rfl : k = ks.length := by omega
      gi_wp2
      go_end0
      exact ⟨⟨_, rfl⟩, .inl ⟨_, rfl, hJs⟩⟩
end Go.Proofs.YtjjgbcjgmjggnaaGreatDoor
