
/- The law's list of unlike heads, made. -/
import Derived.Test.YtojlnabhaglejaaAdUnlike
namespace Go.Proofs.Ytojlnabhaglejaa
open Go.RowKit
set_option linter.unusedVariables false
set_option maxRecDepth 100000

/-- A head's numbers in their kinds. -/
structure HV.Wd (x : HV) : Prop where
  ok : x.Ok
  t : 0 ≤ x.typ ∧ x.typ < 256
  i : 0 ≤ x.id ∧ x.id < 4294967296
  v : 0 ≤ x.adv ∧ x.adv < 4294967296
theorem and15_bd {n : Int} (h : 0 ≤ n ∧ n < 256) : 0 ≤ bits .and .u8 n 15 ∧ bits .and .u8 n 15 < 256 := by
  rw [u8_and n 15 h.1 h.2 (by omega) (by omega)]
  have : n.toNat &&& (15 : Int).toNat ≤ (15 : Int).toNat := Nat.and_le_right
  have e : (15 : Int).toNat = 15 := rfl
  omega
/-- Behind k heads. -/
structure UnR (w : World) (l : List HV) (k : Nat) (out : Value) (wr : World) : Prop where
  ex : ∃ ls : List HV, VBuf 50 8 w wr out ls.length (headsC ls) ∧ ls.length ≤ 60 ∧ ∀ x ∈ ls, x.Fine
set_option maxHeartbeats 8000000 in
theorem unlike_any (w : World) (v : Value) (l : List HV) (hv : HeadsAt w v l) (hl : l.length ≤ 200) (ok : ∀ x ∈ l, x.Wd) : Calls Try.prog 7 #[v] w fun e w' => ∃ u, e = .returned u ∧ ∃ ls : List HV, VBuf 50 8 w w' u ls.length (headsC ls) ∧ ls.length ≤ 60 ∧ ∀ x ∈ ls, x.Fine := by
  obtain ⟨aa, ca, rfl, hm⟩ := ValsAt.form hv
  have HA : Hid (HeadsAt w (.slice aa l.length ca) l) := hv
  have HOK : Hid (∀ x ∈ l, x.Wd) := ok
  clear hv hm ok
  go_enter Try.func7, Try.ntmps7
  go_wp2_with fail
  go_loopw [3, 4] (fun out i wr => ∃ k : Nat, k ≤ l.length ∧ i = .int .i64 k ∧ UnR w l k out wr) (fun _ i _ => l.length - (intOf i).toNat)
  case atStart => exact ⟨0, Nat.zero_le _, rfl, ⟨[], VBuf.nil _ _ (Touch.refl _ _), by simp, by simp⟩⟩
  case round =>
    obtain ⟨j, hk, rfl, un⟩ := hrel
    obtain ⟨ls, vb, hls, hfn⟩ := un.ex
    have VB : Hid (VBuf 50 8 w wr u3 ls.length (headsC ls)) := vb
    have HLS : Hid (∀ x ∈ ls, x.Fine) := hfn
    obtain ⟨va, vc, rfl⟩ := vb.form
    have t := vb.t
    clear un vb hfn
    by_cases hlt : j < l.length ∧ ls.length < 60
    · obtain ⟨hlt, h60⟩ := hlt
      obtain ⟨x, hx⟩ : ∃ x, l[j]? = some x := ⟨l[j], by simp [hlt]⟩
      have HX := HOK.out x (List.mem_of_getElem? hx)
      obtain ⟨ga, oa, _, ea, -, -, za⟩ := ValsAt.cells (ValsAt.keep HA.out t) (by omega) (by omega)
      cases ea
      have pa : ∀ i u, i < 8 → x.cells[i]? = some u → wr.cell? ⟨ga, oa + (j * 8 + i), none⟩ = some u := fun i u hi hu => za (j * 8 + i) u (by rw [headsC_at l j i x hx hi]; exact hu)
      have q0 : wr.cell? ⟨ga, oa + j * 8, none⟩ = some (.int .u16 x.age) := pa 0 _ (by omega) rfl
      have q1 : wr.cell? ⟨ga, oa + j * 8 + 1, none⟩ = some (.int .u8 x.opts) := by rw [Nat.add_assoc]; exact pa 1 _ (by omega) rfl
      have q2 : wr.cell? ⟨ga, oa + j * 8 + 2, none⟩ = some (.int .u8 x.typ) := by rw [Nat.add_assoc]; exact pa 2 _ (by omega) rfl
      have q3 : wr.cell? ⟨ga, oa + j * 8 + 3, none⟩ = some (.int .u32 x.id) := by rw [Nat.add_assoc]; exact pa 3 _ (by omega) rfl
      have q4 : wr.cell? ⟨ga, oa + j * 8 + 4, none⟩ = some (.int .u32 x.adv) := by rw [Nat.add_assoc]; exact pa 4 _ (by omega) rfl
      have q5 : wr.cell? ⟨ga, oa + j * 8 + 5, none⟩ = some (.int .i32 x.seq) := by rw [Nat.add_assoc]; exact pa 5 _ (by omega) rfl
      have q6 : wr.cell? ⟨ga, oa + j * 8 + 6, none⟩ = some (.int .u16 x.sum) := by rw [Nat.add_assoc]; exact pa 6 _ (by omega) rfl
      have q7 : wr.cell? ⟨ga, oa + j * 8 + 7, none⟩ = some (.int .u16 x.len) := by rw [Nat.add_assoc]; exact pa 7 _ (by omega) rfl
      clear za pa
      have HTT : Hid (Touch (fun _ => False) w wr) := t
      have hBT : Hid (0 ≤ bits .and .u8 x.typ 15 ∧ bits .and .u8 x.typ 15 < 256) := and15_bd HX.t
      have hjl : (j : Int) < (l.length : Int) := by omega
      have hl6 : (ls.length : Int) < 60 := by omega
      have R1 : Row (wr.alloc (.cells #[.int .u16 x.age, .int .u8 x.opts, .int .u8 (bits .and .u8 x.typ 15), .int .u32 x.id, .int .u32 x.adv, .int .i32 x.seq, .int .u16 x.sum, .int .u16 x.len] 50)) wr.heap.size 50 [.int .u16 x.age, .int .u8 x.opts, .int .u8 (bits .and .u8 x.typ 15), .int .u32 x.id, .int .u32 x.adv, .int .i32 x.seq, .int .u16 x.sum, .int .u16 x.len] := row_new wr 50 #[.int .u16 x.age, .int .u8 x.opts, .int .u8 (bits .and .u8 x.typ 15), .int .u32 x.id, .int .u32 x.adv, .int .i32 x.seq, .int .u16 x.sum, .int .u16 x.len]
      have T1 : Touch (fun _ => False) wr (wr.alloc (.cells #[.int .u16 x.age, .int .u8 x.opts, .int .u8 (bits .and .u8 x.typ 15), .int .u32 x.id, .int .u32 x.adv, .int .i32 x.seq, .int .u16 x.sum, .int .u16 x.len] 50)) := (Touch.refl _ _).alloc _
      have VB1 : Hid (VBuf 50 8 w (wr.alloc (.cells #[.int .u16 x.age, .int .u8 x.opts, .int .u8 (bits .and .u8 x.typ 15), .int .u32 x.id, .int .u32 x.adv, .int .i32 x.seq, .int .u16 x.sum, .int .u16 x.len] 50)) (.slice va ls.length vc) ls.length (headsC ls)) := VB.out.keep T1
      have HV0 : Hid (VBuf 50 8 w ((wr.alloc (.cells #[.int .u16 x.age, .int .u8 x.opts, .int .u8 (bits .and .u8 x.typ 15), .int .u32 x.id, .int .u32 x.adv, .int .i32 x.seq, .int .u16 x.sum, .int .u16 x.len] 50)).setCell ⟨wr.heap.size, 0, none⟩ (.int .u16 0)) (.slice va ls.length vc) ls.length (headsC ls)) := VB.out.keep (T1.setCell (p := ⟨wr.heap.size, 0, none⟩) (Or.inr (Nat.le_refl _)) _)
      have hgx : wr.heap.size < (wr.alloc (.cells #[.int .u16 x.age, .int .u8 x.opts, .int .u8 (bits .and .u8 x.typ 15), .int .u32 x.id, .int .u32 x.adv, .int .i32 x.seq, .int .u16 x.sum, .int .u16 x.len] 50)).heap.size := R1.lt
      clear hx t VB
      go_upto_region 7 with fail
      generalize (wr.alloc (.cells #[.int .u16 x.age, .int .u8 x.opts, .int .u8 (bits .and .u8 x.typ 15), .int .u32 x.id, .int .u32 x.adv, .int .i32 x.seq, .int .u16 x.sum, .int .u16 x.len] 50)) = w1 at *
      generalize wr.heap.size = gx at *
      generalize bits .and .u8 x.typ 15 = tt at *
      have a0 : w1.cell? ⟨gx, 0, none⟩ = some (.int .u16 x.age) := R1.cell 0
      have f0 := R1.frozen 0
      clear q0 q1 q2 q3 q4 q5 q6 q7 T1
      by_cases hy : yrs x.age = 3600
      · have HO := fun w => rold_any x.age HX.ok.a0 HX.ok.a1 true (decide_eq_true hy) w
        go_wp2_with fail
        refine Calls.mono (HO _) ?_
        rintro e w2 ⟨rfl, rfl⟩
        have RX : Row (w1.setCell ⟨gx, 0, none⟩ (.int .u16 0)) gx 50 [.int .u16 0, .int .u8 x.opts, .int .u8 tt, .int .u32 x.id, .int .u32 x.adv, .int .i32 x.seq, .int .u16 x.sum, .int .u16 x.len] := R1.set 0 _
        have HFN : Hid (HV.Fine ⟨0, x.opts, tt, x.id, x.adv, x.seq, x.sum, x.len⟩) := ⟨⟨by show (0 : Int) ≤ 0; omega, by show (0 : Int) < 65536; omega, HX.ok.s0, HX.ok.s1⟩, by show ¬ yrs 0 = 3600; decide, hBT.out, HX.i, HX.v⟩
        have VB : Hid (VBuf 50 8 w (w1.setCell ⟨gx, 0, none⟩ (.int .u16 0)) (.slice va ls.length vc) ls.length (headsC ls)) := HV0.out
        clear HO hy R1 VB1 HV0
        go_upto_region 9 with fail
        clear a0 f0
        generalize w1.setCell ⟨gx, 0, none⟩ (.int .u16 0) = w2 at *
        have HK := rkey14 w2 ⟨0, x.opts, tt, x.id, x.adv, x.seq, x.sum, x.len⟩
        have p0 : w2.cell? ⟨gx, 0, none⟩ = some (.int .u16 0) := RX.cell 0
        have p1 : w2.cell? ⟨gx, 1, none⟩ = some (.int .u8 x.opts) := RX.cell 1
        have p2 : w2.cell? ⟨gx, 2, none⟩ = some (.int .u8 tt) := RX.cell 2
        have p3 : w2.cell? ⟨gx, 3, none⟩ = some (.int .u32 x.id) := RX.cell 3
        have p4 : w2.cell? ⟨gx, 4, none⟩ = some (.int .u32 x.adv) := RX.cell 4
        have p5 : w2.cell? ⟨gx, 5, none⟩ = some (.int .i32 x.seq) := RX.cell 5
        have p6 : w2.cell? ⟨gx, 6, none⟩ = some (.int .u16 x.sum) := RX.cell 6
        have p7 : w2.cell? ⟨gx, 7, none⟩ = some (.int .u16 x.len) := RX.cell 7
        have hp := RX.lt
        go_wp2_with fail
        refine Calls.mono HK ?_
        rintro e w3 ⟨rfl, t3⟩
        have HFD := find14 w3 _ ls tt x.id x.adv (VB.out.keep t3).vals (by omega) HLS.out hBT.out HX.i HX.v
        have R3 : Hid (Row w3 gx 50 [.int .u16 0, .int .u8 x.opts, .int .u8 tt, .int .u32 x.id, .int .u32 x.adv, .int .i32 x.seq, .int .u16 x.sum, .int .u16 x.len]) := RX.keep t3
        have VB3 : Hid (VBuf 50 8 w w3 (.slice va ls.length vc) ls.length (headsC ls)) := VB.out.keep t3
        clear p0 p1 p2 p3 p4 p5 p6 p7 hp HK VB RX t3
        go_wp2_with fail
        refine Calls.mono HFD ?_
        rintro e w4 ⟨r, rfl, t4⟩
        have VB4 : Hid (VBuf 50 8 w w4 (.slice va ls.length vc) ls.length (headsC ls)) := VB3.out.keep t4
        have R4 := R3.out.keep t4
        clear HFD VB3 R3 t4
        by_cases hr : r < 0
        · have p0 : w4.cell? ⟨gx, 0, none⟩ = some (.int .u16 0) := R4.cell 0
          have p1 : w4.cell? ⟨gx, 1, none⟩ = some (.int .u8 x.opts) := R4.cell 1
          have p2 : w4.cell? ⟨gx, 2, none⟩ = some (.int .u8 tt) := R4.cell 2
          have p3 : w4.cell? ⟨gx, 3, none⟩ = some (.int .u32 x.id) := R4.cell 3
          have p4 : w4.cell? ⟨gx, 4, none⟩ = some (.int .u32 x.adv) := R4.cell 4
          have p5 : w4.cell? ⟨gx, 5, none⟩ = some (.int .i32 x.seq) := R4.cell 5
          have p6 : w4.cell? ⟨gx, 6, none⟩ = some (.int .u16 x.sum) := R4.cell 6
          have p7 : w4.cell? ⟨gx, 7, none⟩ = some (.int .u16 x.len) := R4.cell 7
          have hp := R4.lt
          clear R4
          have hone : HeadsAt (w4.alloc (.cells #[.int .u16 0, .int .u8 x.opts, .int .u8 tt, .int .u32 x.id, .int .u32 x.adv, .int .i32 x.seq, .int .u16 x.sum, .int .u16 x.len] 50)) (.slice (some ⟨w4.heap.size, 0, none⟩) 1 1) [⟨0, x.opts, tt, x.id, x.adv, x.seq, x.sum, x.len⟩] := ⟨rfl, Or.inr ⟨_, _, rfl, Nat.le_refl _, by unfold maxLen; omega, fun i u hi => by
            have e : (⟨w4.heap.size, 0, none⟩ : Addr).add i = ⟨w4.heap.size, i, none⟩ := by cases i <;> simp [Addr.add]
            rw [e, (row_new w4 50 #[.int .u16 0, .int .u8 x.opts, .int .u8 tt, .int .u32 x.id, .int .u32 x.adv, .int .i32 x.seq, .int .u16 x.sum, .int .u16 x.len]).cell i]
            exact hi⟩⟩
          go_wp2_with (at_builtin; refine vapp_arg rfl (.tmp 34) (.tmp 36) 22 rfl 50 8 20 (.agg #[.int .u16 0, .int .u8 0, .int .u8 0, .int .u32 0, .int .u32 0, .int .i32 0, .int .u16 0, .int .u16 0]) Try.underlying22 infoH14 rfl (by decide) (by decide) w (.slice va ls.length vc) ls.length (headsC ls) rfl (VB4.out.keep ((Touch.refl _ _).alloc _)) (.slice (some ⟨w4.heap.size, 0, none⟩) 1 1) 1 (headsC [⟨0, x.opts, tt, x.id, x.adv, x.seq, x.sum, x.len⟩]) rfl hone (oneCell_headsC _) (by omega) ?_)
          intro v' w5 vb5
          have happ : headsC (ls ++ [⟨0, x.opts, tt, x.id, x.adv, x.seq, x.sum, x.len⟩]) = headsC ls ++ headsC [⟨0, x.opts, tt, x.id, x.adv, x.seq, x.sum, x.len⟩] := by simp only [headsC, List.flatMap_append]
          have REL : Hid (UnR w l (j + 1) v' w5) := ⟨ls ++ [⟨0, x.opts, tt, x.id, x.adv, x.seq, x.sum, x.len⟩], by rw [List.length_append, happ]; exact vb5, by rw [List.length_append]; simp; omega, fun y hy => by
            rcases List.mem_append.1 hy with hy | hy
            · exact HLS.out y hy
            · rw [List.mem_singleton.1 hy]
              exact HFN.out⟩
          clear vb5 happ hone VB4 p0 p1 p2 p3 p4 p5 p6 p7 hp
          go_wp2_with fail
          go_roundw
          case rel => exact ⟨j + 1, by omega, by go_num, REL.out⟩
          case measure => simp [intOf]; omega
        · clear R4
          go_wp2_with fail
          go_roundw
          case rel => exact ⟨j + 1, by omega, by go_num, ⟨ls, VB4.out, by omega, HLS.out⟩⟩
          case measure => simp [intOf]; omega
      · have HO := fun w => rold_any x.age HX.ok.a0 HX.ok.a1 false (decide_eq_false hy) w
        go_wp2_with fail
        refine Calls.mono (HO _) ?_
        rintro e w2 ⟨rfl, rfl⟩
        have RX := R1
        have HFN : Hid (HV.Fine ⟨x.age, x.opts, tt, x.id, x.adv, x.seq, x.sum, x.len⟩) := ⟨⟨HX.ok.a0, HX.ok.a1, HX.ok.s0, HX.ok.s1⟩, hy, hBT.out, HX.i, HX.v⟩
        have VB : Hid (VBuf 50 8 w w1 (.slice va ls.length vc) ls.length (headsC ls)) := VB1.out
        clear HO hy R1 VB1 HV0
        go_upto_region 9 with fail
        clear a0 f0
        generalize w1 = w2 at *
        have HK := rkey14 w2 ⟨x.age, x.opts, tt, x.id, x.adv, x.seq, x.sum, x.len⟩
        have p0 : w2.cell? ⟨gx, 0, none⟩ = some (.int .u16 x.age) := RX.cell 0
        have p1 : w2.cell? ⟨gx, 1, none⟩ = some (.int .u8 x.opts) := RX.cell 1
        have p2 : w2.cell? ⟨gx, 2, none⟩ = some (.int .u8 tt) := RX.cell 2
        have p3 : w2.cell? ⟨gx, 3, none⟩ = some (.int .u32 x.id) := RX.cell 3
        have p4 : w2.cell? ⟨gx, 4, none⟩ = some (.int .u32 x.adv) := RX.cell 4
        have p5 : w2.cell? ⟨gx, 5, none⟩ = some (.int .i32 x.seq) := RX.cell 5
        have p6 : w2.cell? ⟨gx, 6, none⟩ = some (.int .u16 x.sum) := RX.cell 6
        have p7 : w2.cell? ⟨gx, 7, none⟩ = some (.int .u16 x.len) := RX.cell 7
        have hp := RX.lt
        go_wp2_with fail
        refine Calls.mono HK ?_
        rintro e w3 ⟨rfl, t3⟩
        have HFD := find14 w3 _ ls tt x.id x.adv (VB.out.keep t3).vals (by omega) HLS.out hBT.out HX.i HX.v
        have R3 : Hid (Row w3 gx 50 [.int .u16 x.age, .int .u8 x.opts, .int .u8 tt, .int .u32 x.id, .int .u32 x.adv, .int .i32 x.seq, .int .u16 x.sum, .int .u16 x.len]) := RX.keep t3
        have VB3 : Hid (VBuf 50 8 w w3 (.slice va ls.length vc) ls.length (headsC ls)) := VB.out.keep t3
        clear p0 p1 p2 p3 p4 p5 p6 p7 hp HK VB RX t3
        go_wp2_with fail
        refine Calls.mono HFD ?_
        rintro e w4 ⟨r, rfl, t4⟩
        have VB4 : Hid (VBuf 50 8 w w4 (.slice va ls.length vc) ls.length (headsC ls)) := VB3.out.keep t4
        have R4 := R3.out.keep t4
        clear HFD VB3 R3 t4
        by_cases hr : r < 0
        · have p0 : w4.cell? ⟨gx, 0, none⟩ = some (.int .u16 x.age) := R4.cell 0
          have p1 : w4.cell? ⟨gx, 1, none⟩ = some (.int .u8 x.opts) := R4.cell 1
          have p2 : w4.cell? ⟨gx, 2, none⟩ = some (.int .u8 tt) := R4.cell 2
          have p3 : w4.cell? ⟨gx, 3, none⟩ = some (.int .u32 x.id) := R4.cell 3
          have p4 : w4.cell? ⟨gx, 4, none⟩ = some (.int .u32 x.adv) := R4.cell 4
          have p5 : w4.cell? ⟨gx, 5, none⟩ = some (.int .i32 x.seq) := R4.cell 5
          have p6 : w4.cell? ⟨gx, 6, none⟩ = some (.int .u16 x.sum) := R4.cell 6
          have p7 : w4.cell? ⟨gx, 7, none⟩ = some (.int .u16 x.len) := R4.cell 7
          have hp := R4.lt
          clear R4
          have hone : HeadsAt (w4.alloc (.cells #[.int .u16 x.age, .int .u8 x.opts, .int .u8 tt, .int .u32 x.id, .int .u32 x.adv, .int .i32 x.seq, .int .u16 x.sum, .int .u16 x.len] 50)) (.slice (some ⟨w4.heap.size, 0, none⟩) 1 1) [⟨x.age, x.opts, tt, x.id, x.adv, x.seq, x.sum, x.len⟩] := ⟨rfl, Or.inr ⟨_, _, rfl, Nat.le_refl _, by unfold maxLen; omega, fun i u hi => by
            have e : (⟨w4.heap.size, 0, none⟩ : Addr).add i = ⟨w4.heap.size, i, none⟩ := by cases i <;> simp [Addr.add]
            rw [e, (row_new w4 50 #[.int .u16 x.age, .int .u8 x.opts, .int .u8 tt, .int .u32 x.id, .int .u32 x.adv, .int .i32 x.seq, .int .u16 x.sum, .int .u16 x.len]).cell i]
            exact hi⟩⟩
          go_wp2_with (at_builtin; refine vapp_arg rfl (.tmp 34) (.tmp 36) 22 rfl 50 8 20 (.agg #[.int .u16 0, .int .u8 0, .int .u8 0, .int .u32 0, .int .u32 0, .int .i32 0, .int .u16 0, .int .u16 0]) Try.underlying22 infoH14 rfl (by decide) (by decide) w (.slice va ls.length vc) ls.length (headsC ls) rfl (VB4.out.keep ((Touch.refl _ _).alloc _)) (.slice (some ⟨w4.heap.size, 0, none⟩) 1 1) 1 (headsC [⟨x.age, x.opts, tt, x.id, x.adv, x.seq, x.sum, x.len⟩]) rfl hone (oneCell_headsC _) (by omega) ?_)
          intro v' w5 vb5
          have happ : headsC (ls ++ [⟨x.age, x.opts, tt, x.id, x.adv, x.seq, x.sum, x.len⟩]) = headsC ls ++ headsC [⟨x.age, x.opts, tt, x.id, x.adv, x.seq, x.sum, x.len⟩] := by simp only [headsC, List.flatMap_append]
          have REL : Hid (UnR w l (j + 1) v' w5) := ⟨ls ++ [⟨x.age, x.opts, tt, x.id, x.adv, x.seq, x.sum, x.len⟩], by rw [List.length_append, happ]; exact vb5, by rw [List.length_append]; simp; omega, fun y hy => by
            rcases List.mem_append.1 hy with hy | hy
            · exact HLS.out y hy
            · rw [List.mem_singleton.1 hy]
              exact HFN.out⟩
          clear vb5 happ hone VB4 p0 p1 p2 p3 p4 p5 p6 p7 hp
          go_wp2_with fail
          go_roundw
          case rel => exact ⟨j + 1, by omega, by go_num, REL.out⟩
          case measure => simp [intOf]; omega
        · clear R4
          go_wp2_with fail
          go_roundw
          case rel => exact ⟨j + 1, by omega, by go_num, ⟨ls, VB4.out, by omega, HLS.out⟩⟩
          case measure => simp [intOf]; omega
    · have hlt' : ¬ ((j : Int) < (l.length : Int) ∧ (ls.length : Int) < 60) := fun h => hlt ⟨by omega, by omega⟩
      by_cases hj : j < l.length
      · have h1 : (j : Int) < (l.length : Int) := by omega
        have h2 : ¬ (ls.length : Int) < 60 := fun h => hlt' ⟨h1, h⟩
        clear hlt hlt'
        go_wp2_with fail
        go_ret
        exact ⟨_, rfl, ls, VB.out, hls, HLS.out⟩
      · have h1 : ¬ (j : Int) < (l.length : Int) := by omega
        clear hlt hlt'
        go_wp2_with fail
        go_ret
        exact ⟨_, rfl, ls, VB.out, hls, HLS.out⟩
end Go.Proofs.Ytojlnabhaglejaa
