
/- The walk of QueueCopies. -/
import Derived.Test.YtmdnlfbploaafaaQuPc2
namespace Go.Proofs.Ytmdnlfbploaafaa
open Go.RowKit
set_option linter.unusedVariables false
set_option maxRecDepth 100000

set_option maxHeartbeats 200000 in
theorem may_is (w : World) (most : Int) (z : Bool) (hz : z = decide (1 ≤ most ∧ most ≤ 1048576)) : Calls Try.prog 10 #[.int .i64 most] w fun e w' => e = .returned (.bool z) ∧ w = w' := by
  by_cases h1 : 1 ≤ most
  · by_cases h2 : most ≤ 1048576
    · obtain rfl : z = true := by rw [hz]; simp [h1, h2]
      clear hz
      go_enter Try.func10, Try.ntmps10
      go_wp2
      go_ret
      first | exact ⟨rfl, rfl⟩ | trivial
    · obtain rfl : z = false := by rw [hz]; simp [h1, h2]
      clear hz
      go_enter Try.func10, Try.ntmps10
      go_wp2
      go_ret
      first | exact ⟨rfl, rfl⟩ | trivial
  · obtain rfl : z = false := by rw [hz]; simp [h1]
    clear hz
    go_enter Try.func10, Try.ntmps10
    go_wp2
    go_ret
    first | exact ⟨rfl, rfl⟩ | trivial

def old (w : World) : Nat → Prop := fun j => j < w.heap.size
def stay (w : World) (b : Nat) (v : Value) (m : Nat) (va : Value) : Nat → Prop := fun j => j < w.heap.size ∨ qB b v m j ∨ va.ownBlock = some j
theorem both_start {w w1 : World} {b m : Nat} {most : Int} (h : QO w w1 b (.slice none 0 0) m most []) (m1 : 1 ≤ most) (m2 : most ≤ 1048576) :
    OneP (old w) w b m most w1.heap.size (w1.alloc (.cells #[.slice none 0 0, .int .i64 most] 30)) := by
  have R3 := row_new w1 30 #[.slice none 0 0, .int .i64 most]
  have ql := h.q.lt
  have TA : Touch (fun _ => False) w1 (w1.alloc (.cells #[.slice none 0 0, .int .i64 most] 30)) := (Touch.refl _ _).alloc _
  refine ⟨.slice none 0 0, [], .slice none 0 0, [], ⟨h.q.keep TA (fun _ _ e => e), ⟨R3.cell 0, R3.cell 1, R3.frozen 0, World.ownsRow_nil _ _ _ _, by simp [Value.ownBlock], fun i j hi => by simp at hi, by simp, m2, by simp; omega⟩, ?_, ?_, ?_, fun j hj => hj, (h.t.trans TA).mono (fun _ _ e => e.elim)⟩, List.Perm.refl _⟩
  · rintro j hj (rfl | e)
    · have := ql _ hj; omega
    · cases e
  · intro j hj e
    have := h.own j e
    unfold old at hj
    omega
  · rintro j hj (rfl | e)
    · have := h.t.size
      unfold old at hj
      omega
    · cases e
theorem both_mid {w wr w1 w2 : World} {b : Nat} {v : Value} {m : Nat} {most : Int} {l : List En} {d : Nat} {u : Value} {k : List En} {b2 : Nat} {v2 : Value} {m2 : Nat} {va : Value} {La : List En}
    (B : BothG (old w) w wr b v m most l d u k) (p : l.Perm k) (Q2 : QS w1 b2 v2 m2 most l) (o2 : ∀ j, qB b2 v2 m2 j → wr.heap.size ≤ j) (t1 : Touch (fun _ => False) wr w1)
    (oa : w2.ownsRow w1.heap.size 62 3 va La.length (cellsOf La)) (ta : Touch (fun _ => False) w1 w2) : OneP (stay w b v m va) w2 b2 m2 most d w2 := by
  have z0 := B.t.size
  have z1 := t1.size
  have z2 := ta.size
  have ha : ∀ j, va.ownBlock = some j → w1.heap.size ≤ j ∧ j < w2.heap.size := fun j hj => World.ownsRow.lt oa j hj
  refine ⟨v2, l, u, k, ⟨Q2.keep ta (fun _ _ e => e), (B.ds.keep t1 (fun _ _ e => e)).keep ta (fun _ _ e => e), ?_, ?_, ?_, ?_, Touch.refl _ _⟩, p⟩
  · intro j hj e
    have := o2 j hj
    have := B.ds.lt j e
    omega
  · intro j hj e
    have h1 := o2 j e
    have h2 := Q2.lt j e
    rcases hj with h | h | h
    · omega
    · have := B.q.lt j h; omega
    · have := ha j h; omega
  · intro j hj e
    have h1 := B.ds.lt j e
    rcases hj with h | h | h
    · exact B.gd j h e
    · exact B.ap j h e
    · have := ha j h; omega
  · intro j hj
    rcases hj with h | h | h
    · omega
    · have := B.q.lt j h; omega
    · exact (ha j h).2
theorem cell_old {G : Nat → Prop} {W w : World} {g o : Nat} {u : Value} (t : Touch (fun j => ¬ G j) W w) (hl : g < W.heap.size) (hg : G g) (h : W.cell? ⟨g, o, none⟩ = some u) : w.cell? ⟨g, o, none⟩ = some u := (t.cell (p := ⟨g, o, none⟩) hl (fun e => e hg)).trans h

set_option maxHeartbeats 4000000 in
theorem copies_main (a0 a1 : Option Addr) (c0 c1 : Nat) (os ms : List OpE) (most : Int) (w : World) (h0 : Ins w a0 os) (h1 : Ins w a1 ms) (hn : os.length + ms.length ≤ 300) (m1 : 1 ≤ most) (m2 : most ≤ 1048576) :
    Calls Try.prog 4 #[.int .i64 most, .slice a0 os.length c0, .slice a1 ms.length c1] w fun e w' => e = .returned (.bool true) ∧ Touch (fun _ => False) w w' := by
  have hn' : ¬ 300 < (os.length : Int) + (ms.length : Int) := by omega
  have hoi : (os.length : Int) ≤ 300 := by omega
  have hmi : (ms.length : Int) ≤ 300 := by omega
  have HA : Hid (Ins w a0 os) := h0
  have HB1 : Hid (Ins w a1 ms) := h1
  have HM : Hid (1 ≤ most ∧ most ≤ 1048576) := ⟨m1, m2⟩
  have HY : Hid _ := may_is w most true (by simp [m1, m2])
  clear h0 h1 hn m1 m2
  go_enter Try.func4, Try.ntmps4
  go_wp2_with fail
  refine Calls.mono HY.out ?_
  rintro e w0 ⟨rfl, rfl⟩
  go_wp2_with fail
  refine Calls.mono (new_yes w most HM.out.1 HM.out.2) ?_
  rintro e w1 n1
  obtain ⟨b, m, rfl, q1⟩ := n1.qo
  have HO : Hid _ := both_start q1 HM.out.1 HM.out.2
  clear n1 q1 HY
  go_wp2_with fail
  generalize w1.alloc (.cells #[.slice none 0 0, .int .i64 most] 30) = w2 at HO ⊢
  generalize w1.heap.size = d at HO ⊢
  go_loopw [9] (fun s9 wx => ∃ j : Nat, s9 = .int .i64 j ∧ j ≤ os.length ∧ OneP (old w) w b m most d wx) (fun s9 _ => os.length - (intOf s9).toNat)
  case atStart => exact ⟨0, rfl, Nat.zero_le _, HO.out⟩
  case round =>
    clear HO
    obtain ⟨j, rfl, hj, O⟩ := hrel
    obtain ⟨v, l, u, k, B, p⟩ := O.out
    have HB : Hid _ := B
    have HP : Hid _ := p
    clear O B p
    by_cases hjl : j < os.length
    · have hjl' : (j : Int) < (os.length : Int) := by omega
      have j0 : (0 : Int) ≤ (j : Int) := by omega
      have hjs : (j : Int) ≤ 300 := by omega
      obtain ⟨g, off, rfl, hg, hcs⟩ := HA.out.out (by omega)
      have HQ : Hid _ := hcs j hjl
      have x0 := cell_old HB.out.t hg hg HQ.out.c0
      have x1 := cell_old HB.out.t hg hg HQ.out.c1
      have x2 := cell_old HB.out.t hg hg HQ.out.c2
      have x3 := cell_old HB.out.t hg hg HQ.out.c3
      have HOK : Hid _ := HQ.out.ok
      have HD0 : Hid _ := HQ.out.d0
      have HD1 : Hid _ := HQ.out.d1
      clear hcs HQ hg
      generalize (opAt os j).d = dd at *
      generalize (opAt os j).e = x at *
      go_wp2_with (go_at_call 11; refine Calls.mono (one_any (old w) w wr b v m most l d u k HB.out HP.out dd HD0.out HD1.out x HOK.out) ?_; rintro e wx ⟨rfl, q1⟩; have HF : Hid _ := q1; clear q1 x0 x1 x2 x3)
      go_roundw
      case rel => exact ⟨j + 1, by go_num, hjl, HF.out⟩
      case measure => simp [intOf]; omega
    · have hjl' : ¬ (j : Int) < (os.length : Int) := by omega
      clear HA
      go_wp2_with fail
      refine Calls.mono (copy_any wr b v m most l HB.out.q) ?_
      rintro e w3 ⟨⟨b2, m2, v2, rfl, Q2, o2⟩, t3⟩
      have HQ2 : Hid _ := Q2
      have HO2 : Hid _ := o2
      have HT3 : Hid (Touch (fun _ => False) wr w3) := t3
      clear Q2 o2 t3
      go_wp2_with fail
      refine Calls.mono (dall_any w3 d u most k (HB.out.keepN HT3.out).ds) ?_
      rintro e w4 ⟨va, La, rfl, oa, pa, sa, ta⟩
      have HO4 : Hid (OneP (stay w b v m va) w4 b2 m2 most d w4) := both_mid HB.out HP.out HQ2.out HO2.out HT3.out oa ta
      have HRA : Hid (RD w4 va La) := own_rd oa
      have HPA : Hid _ := pa
      have HSA : Hid _ := sa
      have HQ4 : Hid (QS w4 b v m most l) := (HB.out.q.keep HT3.out (fun _ _ e => e)).keep ta (fun _ _ e => e)
      have HT4 : Hid (Touch (fun _ => False) w w4) := (((HB.out.t).mono (fun i hi h => h hi)).trans HT3.out).trans ta
      clear oa pa sa ta HQ2 HO2 HT3 HB
      go_wp2_with fail
      go_loopw [12] (fun s12 wx => ∃ i : Nat, s12 = .int .i64 i ∧ i ≤ ms.length ∧ OneP (stay w b v m va) w4 b2 m2 most d wx) (fun s12 _ => ms.length - (intOf s12).toNat)
      case atStart => exact ⟨0, rfl, Nat.zero_le _, HO4.out⟩
      case round =>
        clear HO4
        obtain ⟨i, rfl, hi, O⟩ := hrel
        obtain ⟨v3, l3, u3, k3, B3, p3⟩ := O.out
        have HB3 : Hid _ := B3
        have HP3 : Hid _ := p3
        clear O B3 p3
        by_cases hil : i < ms.length
        · have hil' : (i : Int) < (ms.length : Int) := by omega
          have i0 : (0 : Int) ≤ (i : Int) := by omega
          have his : (i : Int) ≤ 300 := by omega
          obtain ⟨g, off, rfl, hg, hcs⟩ := HB1.out.out (by omega)
          have HQ : Hid _ := hcs i hil
          have hg4 : g < w4.heap.size := Nat.lt_of_lt_of_le hg HT4.out.size
          have x0 := cell_old HB3.out.t hg4 (Or.inl hg) (HT4.out.cellN HQ.out.c0)
          have x1 := cell_old HB3.out.t hg4 (Or.inl hg) (HT4.out.cellN HQ.out.c1)
          have x2 := cell_old HB3.out.t hg4 (Or.inl hg) (HT4.out.cellN HQ.out.c2)
          have x3 := cell_old HB3.out.t hg4 (Or.inl hg) (HT4.out.cellN HQ.out.c3)
          have HOK : Hid _ := HQ.out.ok
          have HD0 : Hid _ := HQ.out.d0
          have HD1 : Hid _ := HQ.out.d1
          clear hcs HQ hg hg4
          generalize (opAt ms i).d = dd at *
          generalize (opAt ms i).e = x at *
          go_wp2_with (go_at_call 11; refine Calls.mono (one_any (stay w b v m va) w4 wr b2 v3 m2 most l3 d u3 k3 HB3.out HP3.out dd HD0.out HD1.out x HOK.out) ?_; rintro e wx ⟨rfl, q1⟩; have HF : Hid _ := q1; clear q1 x0 x1 x2 x3)
          go_roundw
          case rel => exact ⟨i + 1, by go_num, hil, HF.out⟩
          case measure => simp [intOf]; omega
        · have hil' : ¬ (i : Int) < (ms.length : Int) := by omega
          clear HB1
          have HQ5 : Hid (QS wr b v m most l) := HQ4.out.keep HB3.out.t (fun j hj e => e (Or.inr (Or.inl hj)))
          have HR5 : Hid (RD wr va La) := RD.keep HRA.out HB3.out.t (fun j hj e => e (Or.inr (Or.inr hj)))
          have HT5 : Hid (Touch (fun _ => False) w wr) := HT4.out.trans' HB3.out.t (fun i hi e => e (Or.inl hi))
          clear HQ4 HRA HT4
          go_wp2_with fail
          refine Calls.mono (all_any wr b v m most l HQ5.out) ?_
          rintro e wa ⟨⟨vb, Lb, rfl, AV, pb, sb, -⟩, tb⟩
          have eL : Lb = La := sorted_one sb HSA.out ((pb.trans HP.out).trans HPA.out.symm)
          subst eL
          have hLl : Lb.length ≤ 2000000 := by have := HQ5.out.ml; have := HQ5.out.m2; rw [pb.length_eq]; omega
          have HSM : Hid _ := same_any wa vb va Lb AV (RD.keep HR5.out tb (fun _ _ e => e)) hLl
          have HB6 : Hid (BothG (stay w b v m va) w4 wa b2 v3 m2 most l3 d u3 k3) := HB3.out.keepN tb
          have HT6 : Hid (Touch (fun _ => False) w wa) := HT5.out.trans tb
          clear AV pb sb tb hLl HQ5 HR5 HT5 HB3 HSA HPA HP
          go_wp2_with fail
          refine Calls.mono HSM.out ?_
          rintro e wb ⟨rfl, t7⟩
          have HB7 : Hid (BothG (stay w b v m va) w4 wb b2 v3 m2 most l3 d u3 k3) := HB6.out.keepN t7
          have HT7 : Hid (Touch (fun _ => False) w wb) := HT6.out.trans t7
          clear HSM t7 HB6 HT6
          go_wp2_with fail
          refine Calls.mono (all_any wb b2 v3 m2 most l3 HB7.out.q) ?_
          rintro e wc ⟨⟨vc, Lc, rfl, CV, pc, sc, -⟩, tc⟩
          go_wp2_with fail
          refine Calls.mono (dall_any wc d u3 most k3 (HB7.out.keepN tc).ds) ?_
          rintro e wd ⟨vd, Ld, rfl, od, pd, sd, td⟩
          have eL : Lc = Ld := sorted_one sc sd ((pc.trans HP3.out).trans pd.symm)
          subst eL
          have hLl : Lc.length ≤ 2000000 := by have := HB7.out.q.ml; have := HB7.out.q.m2; rw [pc.length_eq]; omega
          have HSM : Hid _ := same_any wd vc vd Lc (CV.keep td) (own_rd od) hLl
          have HT8 : Hid (Touch (fun _ => False) w wd) := (HT7.out.trans tc).trans td
          clear CV pc sc tc od pd sd td hLl HB7 HT7 HP3
          go_wp2_with fail
          refine Calls.mono HSM.out ?_
          rintro e we ⟨rfl, t9⟩
          have HT9 : Hid (Touch (fun _ => False) w we) := HT8.out.trans t9
          clear HSM t9 HT8
          go_wp2_with ((go_at_call 8; refine Calls.mono (lives_any _) ?_; rintro e wx ⟨rfl, tx⟩))
          go_ret
          exact ⟨rfl, HT9.out.trans tx⟩

set_option maxHeartbeats 400000 in
theorem copies_any (v0 v1 : Value) (most : Int) (os ms : List OpE) (w : World) (h0 : OpsAt w v0 os) (h1 : OpsAt w v1 ms) (l0 : os.length ≤ 140737488355328) (l1 : ms.length ≤ 140737488355328) :
    Calls Try.prog 4 #[.int .i64 most, v0, v1] w fun e w' => e = .returned (.bool true) ∧ Touch (fun _ => False) w w' := by
  obtain ⟨a0, c0, rfl⟩ := h0.form
  obtain ⟨a1, c1, rfl⟩ := h1.form
  by_cases hn : os.length + ms.length ≤ 300
  · by_cases hm : 1 ≤ most ∧ most ≤ 1048576
    · exact copies_main a0 a1 c0 c1 os ms most w h0.ins h1.ins hn hm.1 hm.2
    · have hn' : ¬ 300 < (os.length : Int) + (ms.length : Int) := by omega
      have hb0 : (os.length : Int) ≤ 300 := by omega
      have hb1 : (ms.length : Int) ≤ 300 := by omega
      have HY : Hid _ := may_is w most false (by simp; omega)
      clear h0 h1 hn hm
      go_enter Try.func4, Try.ntmps4
      go_wp2_with fail
      refine Calls.mono HY.out ?_
      rintro e w1 ⟨rfl, rfl⟩
      go_wp2_with ((go_at_call 8; refine Calls.mono (lives_any _) ?_; rintro e wx ⟨rfl, tx⟩))
      go_ret
      exact ⟨rfl, tx⟩
  · have hn' : 300 < (os.length : Int) + (ms.length : Int) := by omega
    have hb0 : (os.length : Int) ≤ 140737488355328 := by omega
    have hb1 : (ms.length : Int) ≤ 140737488355328 := by omega
    clear h0 h1 hn
    go_enter Try.func4, Try.ntmps4
    go_wp2_with ((go_at_call 8; refine Calls.mono (lives_any _) ?_; rintro e wx ⟨rfl, tx⟩))
    go_ret
    exact ⟨rfl, tx⟩
end Go.Proofs.Ytmdnlfbploaafaa
