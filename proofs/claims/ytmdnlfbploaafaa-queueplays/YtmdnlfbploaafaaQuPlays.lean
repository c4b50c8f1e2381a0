
/- The walk of QueuePlays. -/
import Derived.Test.YtmdnlfbploaafaaQuPl2
namespace Go.Proofs.Ytmdnlfbploaafaa
open Go.RowKit Go.Shelf Go.Lib Go.Sort
set_option linter.unusedVariables false
set_option maxRecDepth 100000

set_option maxHeartbeats 200000 in
theorem may_any (w : World) (most : Int) (z : Bool) (hz : z = decide (1 ≤ most ∧ most ≤ 1048576)) : Calls Try.prog 10 #[.int .i64 most] w fun e w' => e = .returned (.bool z) ∧ w = w' := by
  by_cases h1 : 1 ≤ most
  · by_cases h2 : most ≤ 1048576
    · obtain rfl : z = true := by rw [hz]; simp [h1, h2]
      clear hz
      go_enter Try.func10, Try.ntmps10
      go_wp2
      go_ret
      first | exact ⟨rfl, rfl⟩ | trivial
    · obtain rfl : z = false := by rw [hz]; simp [h1, h2]
      clear hz
      go_enter Try.func10, Try.ntmps10
      go_wp2
      go_ret
      first | exact ⟨rfl, rfl⟩ | trivial
  · obtain rfl : z = false := by rw [hz]; simp [h1]
    clear hz
    go_enter Try.func10, Try.ntmps10
    go_wp2
    go_ret
    first | exact ⟨rfl, rfl⟩ | trivial

/-- Cells that may be stored into. -/
structure Lies (w : World) (g n : Nat) : Prop where
  out : ∀ i, i < n → (∃ c, w.cell? ⟨g, i, none⟩ = some c) ∧ w.frozen? ⟨g, i, none⟩ = false
theorem Lies.set {w : World} {g n : Nat} (h : Lies w g n) (j : Nat) (u : Value) : Lies (w.setCell ⟨g, j, none⟩ u) g n := by
  refine ⟨fun i hi => ?_⟩
  obtain ⟨⟨c, hc⟩, hf⟩ := h.out i hi
  refine ⟨?_, by simpa [go_sem] using hf⟩
  by_cases e : i = j
  · subst e
    exact ⟨u, by simp [go_sem, hc]⟩
  · exact ⟨c, by simpa [go_sem, e, Ne.symm e] using hc⟩
theorem Lies.keep {w w' : World} {g n : Nat} (h : Lies w g n) (hg : g < w.heap.size) (t : Touch (fun _ => False) w w') : Lies w' g n :=
  ⟨fun i hi => ⟨⟨_, (t.cell (p := ⟨g, i, none⟩) hg (fun h => h)).trans (h.out i hi).1.choose_spec⟩, (t.frozen (p := ⟨g, i, none⟩) hg (fun h => h)).trans (h.out i hi).2⟩⟩
theorem hold_lies {w : World} {g : Nat} {L : List En} (h : HoldsK csT 3 w g 0 (L.map toT).toArray) : Lies w g (L.length * 3) := by
  refine ⟨fun i hi => ?_⟩
  have hd := HoldsK.cell h (i := i / 3) (c := i % 3) (by simp; omega) (by omega)
  rw [Nat.zero_add, show i / 3 * 3 + i % 3 = i by omega] at hd
  exact ⟨⟨_, hd.1⟩, hd.2⟩

set_option maxHeartbeats 4000000 in
theorem plays_main (a0 : Option Addr) (c0 : Nat) (os : List OpE) (most : Int) (w : World) (h0 : Ins w a0 os) (hn : os.length ≤ 300) (m1 : 1 ≤ most) (m2 : most ≤ 1048576) :
    Calls Try.prog 3 #[.int .i64 most, .slice a0 os.length c0] w fun e w' => e = .returned (.bool true) ∧ Touch (fun _ => False) w w' := by
  have hn' : ¬ 300 < (os.length : Int) := by omega
  have HN : Hid (os.length ≤ 300) := hn
  have HA : Hid (Ins w a0 os) := h0
  have HM : Hid (1 ≤ most ∧ most ≤ 1048576) := ⟨m1, m2⟩
  clear h0 hn m1 m2
  go_enter Try.func3, Try.ntmps3
  go_wp2_with fail
  refine Calls.mono (new_yes w most HM.out.1 HM.out.2) ?_
  rintro e w1 n1
  obtain ⟨b, m, rfl, q1⟩ := n1.qo
  have Q1 : Hid _ := q1
  clear n1 q1
  go_wp2_with fail
  refine Calls.mono (may_any w1 most true (by simp [HM.out.1, HM.out.2])) ?_
  rintro e w1' ⟨rfl, rfl⟩
  have HO : Hid (OneP w b m most w1.heap.size (w1.alloc (.cells #[.slice none 0 0, .int .i64 most] 30))) := by
    have R3 := row_new w1 30 #[.slice none 0 0, .int .i64 most]
    have ql := Q1.out.q.lt
    refine ⟨.slice none 0 0, [], .slice none 0 0, [], ⟨Q1.out.keep ((Touch.refl _ _).alloc _), ⟨R3.cell 0, R3.cell 1, R3.frozen 0, World.ownsRow_nil _ _ _ _, by simp [Value.ownBlock], fun i j hi => by simp at hi, by simp, HM.out.2, by have := HM.out.1; simp; omega⟩, ?_, ?_⟩, List.Perm.refl _⟩
    · rintro j (rfl | e)
      · exact Q1.out.t.size
      · cases e
    · rintro j hj (rfl | e)
      · have := ql _ hj; omega
      · cases e
  clear Q1
  go_wp2_with fail
  generalize w1.alloc (.cells #[.slice none 0 0, .int .i64 most] 30) = w2 at HO ⊢
  generalize w1.heap.size = d at HO ⊢
  go_loopw [7] (fun s7 wx => ∃ j : Nat, s7 = .int .i64 j ∧ j ≤ os.length ∧ OneP w b m most d wx) (fun s7 _ => os.length - (intOf s7).toNat)
  case atStart => exact ⟨0, rfl, Nat.zero_le _, HO.out⟩
  case round =>
    clear HO
    obtain ⟨j, rfl, hj, O⟩ := hrel
    obtain ⟨v, l, u, k, B, p⟩ := O.out
    have HB : Hid _ := B
    have HP : Hid _ := p
    clear O B p
    by_cases hjl : j < os.length
    · have hjl' : (j : Int) < (os.length : Int) := by omega
      have j0 : (0 : Int) ≤ (j : Int) := by omega
      have hjs : (j : Int) ≤ 300 := by omega
      obtain ⟨g, off, rfl, hg, hcs⟩ := HA.out.out (by omega)
      have HQ : Hid _ := hcs j hjl
      have x0 := snq_cell HQ.out.c0
      have x1 := snq_cell HQ.out.c1
      have x2 := snq_cell HQ.out.c2
      have x3 := snq_cell HQ.out.c3
      have HOK : Hid _ := HQ.out.ok
      have HD0 : Hid _ := HQ.out.d0
      have HD1 : Hid _ := HQ.out.d1
      clear hcs HQ
      generalize (opAt os j).d = dd at *
      generalize (opAt os j).e = x at *
      have HBd : Hid (Both w wr.drew b v m most l d u k) := HB.out.keepN ((Touch.refl _ _).drew)
      have st : Snq w wr.drew := ⟨HBd.out.q.t⟩
      clear HB hg
      go_wp2_with fail
      refine wp_region_held_drew (S := fun w' => Snq w w') (by kernel_rfl) st (fun hHeld => ?_)
      refine wpAnyH_take (i := 0) (oi := ⟨some 35, _, _, _, _, _⟩) (v := .pointer (some ⟨b, 0, none⟩)) rfl (by kernel_rfl) (by kernel_rfl) (by kernel_rfl) (fun _ _ _ h => h) (Or.inl ⟨by rfl, fun w hw => by go_simp⟩) (by assumption) ?_
      simp only [Act.put, List.setIfInBounds_toArray, List.set_cons_zero, List.set_cons_succ]
      refine wpAnyH_take (i := 1) (oi := ⟨some 36, _, _, _, _, _⟩) (v := .pointer (some ⟨d, 0, none⟩)) rfl (by kernel_rfl) (by kernel_rfl) (by kernel_rfl) (fun _ _ _ h => h) (Or.inl ⟨by rfl, fun w hw => by go_simp⟩) (by assumption) ?_
      simp only [Act.put, List.setIfInBounds_toArray, List.set_cons_zero, List.set_cons_succ]
      refine wpAnyH_take (i := 2) (oi := ⟨some 37, _, _, _, _, _⟩) (v := .slice (some ⟨g, off, none⟩) os.length c0) rfl (by kernel_rfl) (by kernel_rfl) (by kernel_rfl) (fun _ _ _ h => h) (Or.inl ⟨by rfl, fun w hw => by go_simp⟩) (by assumption) ?_
      simp only [Act.put, List.setIfInBounds_toArray, List.set_cons_zero, List.set_cons_succ]
      refine wpAnyH_take (i := 3) (oi := ⟨some 38, _, _, _, _, _⟩) (v := .int .i64 j) rfl (by kernel_rfl) (by kernel_rfl) (by kernel_rfl) (fun _ _ _ h => h) (Or.inl ⟨by rfl, fun w hw => by go_simp⟩) (by assumption) ?_
      simp only [Act.put, List.setIfInBounds_toArray, List.set_cons_zero, List.set_cons_succ]
      refine wpAnyH_take (i := 4) (oi := ⟨some 39, _, _, _, _, _⟩) (v := .pointer (some ⟨g, off + j * 4, none⟩)) rfl (by kernel_rfl) (by kernel_rfl) (by kernel_rfl) (fun _ _ _ h => h) (Or.inl ⟨by rfl, fun w hw => by go_simp⟩) (by assumption) ?_
      simp only [Act.put, List.setIfInBounds_toArray, List.set_cons_zero, List.set_cons_succ]
      refine wpAnyH_take (i := 5) (oi := ⟨some 40, _, _, _, _, _⟩) (v := .agg #[.int .u8 dd, .int .i64 x.a, .int .i64 x.r, .int .u64 x.k]) rfl (by kernel_rfl) (by kernel_rfl) (by kernel_rfl) (fun _ _ _ h => h) (Or.inl ⟨by rfl, fun wv hw => by have yx0 := x0 wv hw; have yx1 := x1 wv hw; have yx2 := x2 wv hw; have yx3 := x3 wv hw; go_simp⟩) (by assumption) ?_
      simp only [Act.put, List.setIfInBounds_toArray, List.set_cons_zero, List.set_cons_succ]
      refine wpAnyH_ready (rs := [6]) (by kernel_rfl) (by simp) ?_
      refine AllReadyH.cons (o := ⟨some 41, _, _, _, _, _⟩) rfl (fun K hK => ?_) AllReadyH.nil
      go_simp
      refine Calls.mono (one_any w _ b v m most l d u k HBd.out HP.out dd HD0.out HD1.out x HOK.out) ?_
      rintro e wx ⟨rfl, q1⟩
      obtain ⟨v1, l1, u1, k1, B1, p1⟩ := q1.out
      obtain ⟨ua1, uc1, hu⟩ := B1.ds.rd.shape
      subst hu
      have sx : Snq w wx := ⟨B1.q.t⟩
      have cd := B1.ds.c0
      rw [← p1.length_eq] at cd
      have HLN : Hid _ := len_any wx b v1 m most l1 B1.q.q
      have HF : Hid _ := q1
      have hl1 : (l1.length : Int) ≤ 1048576 := by have := B1.q.q.ml; have := B1.q.q.m2; omega
      clear p1 B1 q1 x0 x1 x2 x3
      refine hK.out _ _ sx (fun hHeld => ?_)
      clear hK K
      refine wpAnyH_take (i := 7) (oi := ⟨some 42, _, _, _, _, _⟩) (v := .bool false) rfl (by kernel_rfl) (by kernel_rfl) (by kernel_rfl) (fun _ _ _ h => h) (Or.inl ⟨by rfl, fun w hw => by go_simp⟩) (by assumption) ?_
      simp only [Act.put, List.setIfInBounds_toArray, List.set_cons_zero, List.set_cons_succ]
      refine wpAnyH_take (i := 8) (oi := ⟨some 43, _, _, _, _, _⟩) (v := .bool false) rfl (by kernel_rfl) (by kernel_rfl) (by kernel_rfl) (fun _ _ _ h => h) (Or.inl ⟨by rfl, fun w hw => by go_simp⟩) (by assumption) ?_
      simp only [Act.put, List.setIfInBounds_toArray, List.set_cons_zero, List.set_cons_succ]
      refine wpAnyH_take (i := 9) (oi := ⟨some 44, _, _, _, _, _⟩) (v := .pointer (some ⟨b, 0, none⟩)) rfl (by kernel_rfl) (by kernel_rfl) (by kernel_rfl) (fun _ _ _ h => h) (Or.inl ⟨by rfl, fun w hw => by go_simp⟩) (by assumption) ?_
      simp only [Act.put, List.setIfInBounds_toArray, List.set_cons_zero, List.set_cons_succ]
      refine wpAnyH_take (i := 11) (oi := ⟨some 46, _, _, _, _, _⟩) (v := .pointer (some ⟨d, 0, none⟩)) rfl (by kernel_rfl) (by kernel_rfl) (by kernel_rfl) (fun _ _ _ h => h) (Or.inl ⟨by rfl, fun w hw => by go_simp⟩) (by assumption) ?_
      simp only [Act.put, List.setIfInBounds_toArray, List.set_cons_zero, List.set_cons_succ]
      refine wpAnyH_take (i := 12) (oi := ⟨some 47, _, _, _, _, _⟩) (v := .pointer (some ⟨d, 0, none⟩)) rfl (by kernel_rfl) (by kernel_rfl) (by kernel_rfl) (fun _ _ _ h => h) (Or.inl ⟨by rfl, fun w hw => by go_simp⟩) (by assumption) ?_
      simp only [Act.put, List.setIfInBounds_toArray, List.set_cons_zero, List.set_cons_succ]
      refine wpAnyH_take (i := 13) (oi := ⟨some 48, _, _, _, _, _⟩) (v := .pointer (some ⟨d, 0, none⟩)) rfl (by kernel_rfl) (by kernel_rfl) (by kernel_rfl) (fun _ _ _ h => h) (Or.inl ⟨by rfl, fun w hw => by go_simp⟩) (by assumption) ?_
      simp only [Act.put, List.setIfInBounds_toArray, List.set_cons_zero, List.set_cons_succ]
      refine wpAnyH_ready (rs := [10, 14]) (by kernel_rfl) (by simp) ?_
      refine AllReadyH.cons (o := ⟨some 45, _, _, _, _, _⟩) rfl (fun K hK => ?_) (AllReadyH.cons (o := ⟨some 49, _, _, _, _, _⟩) rfl (fun K hK => ?_) AllReadyH.nil)
      · go_simp
        refine Calls.mono HLN.out ?_
        rintro e wy ⟨rfl, rfl⟩
        refine hK.out _ _ sx (fun hHeld => ?_)
        clear hK K
        refine wpAnyH_ready (rs := [14]) (by kernel_rfl) (by simp) ?_
        refine AllReadyH.cons (o := ⟨some 49, _, _, _, _, _⟩) rfl (fun K hK => ?_) AllReadyH.nil
        go_simp
        refine hK.out _ _ sx (fun hHeld => ?_)
        clear hK K
        refine wpAnyH_take (i := 15) (oi := ⟨some 50, _, _, _, _, _⟩) (v := .int .i64 l1.length) rfl (by kernel_rfl) (by kernel_rfl) (by kernel_rfl) (fun _ _ _ h => h) (Or.inl ⟨by rfl, fun w hw => by go_simp⟩) (by assumption) ?_
        simp only [Act.put, List.setIfInBounds_toArray, List.set_cons_zero, List.set_cons_succ]
        refine wpAnyH_take (i := 16) (oi := ⟨some 51, _, _, _, _, _⟩) (v := .bool false) rfl (by kernel_rfl) (by kernel_rfl) (by kernel_rfl) (fun _ _ _ h => h) (Or.inl ⟨by rfl, fun w hw => by go_simp⟩) (by assumption) ?_
        simp only [Act.put, List.setIfInBounds_toArray, List.set_cons_zero, List.set_cons_succ]
        refine wpAnyH_take (i := 17) (oi := ⟨some 52, _, _, _, _, _⟩) (v := .bool false) rfl (by kernel_rfl) (by kernel_rfl) (by kernel_rfl) (fun _ _ _ h => h) (Or.inl ⟨by rfl, fun w hw => by go_simp⟩) (by assumption) ?_
        simp only [Act.put, List.setIfInBounds_toArray, List.set_cons_zero, List.set_cons_succ]
        refine wpAnyH_done (by kernel_rfl) ?_ _
        go_wp2_with fail
        go_roundw
        case rel => exact ⟨j + 1, by go_num, hjl, HF.out⟩
        case measure => simp [intOf]; omega
      · go_simp
        refine hK.out _ _ sx (fun hHeld => ?_)
        clear hK K
        refine wpAnyH_take (i := 15) (oi := ⟨some 50, _, _, _, _, _⟩) (v := .int .i64 l1.length) rfl (by kernel_rfl) (by kernel_rfl) (by kernel_rfl) (fun _ _ _ h => h) (Or.inl ⟨by rfl, fun w hw => by go_simp⟩) (by assumption) ?_
        simp only [Act.put, List.setIfInBounds_toArray, List.set_cons_zero, List.set_cons_succ]
        refine wpAnyH_ready (rs := [10]) (by kernel_rfl) (by simp) ?_
        refine AllReadyH.cons (o := ⟨some 45, _, _, _, _, _⟩) rfl (fun K hK => ?_) AllReadyH.nil
        go_simp
        refine Calls.mono HLN.out ?_
        rintro e wy ⟨rfl, rfl⟩
        refine hK.out _ _ sx (fun hHeld => ?_)
        clear hK K
        refine wpAnyH_take (i := 16) (oi := ⟨some 51, _, _, _, _, _⟩) (v := .bool false) rfl (by kernel_rfl) (by kernel_rfl) (by kernel_rfl) (fun _ _ _ h => h) (Or.inl ⟨by rfl, fun w hw => by go_simp⟩) (by assumption) ?_
        simp only [Act.put, List.setIfInBounds_toArray, List.set_cons_zero, List.set_cons_succ]
        refine wpAnyH_take (i := 17) (oi := ⟨some 52, _, _, _, _, _⟩) (v := .bool false) rfl (by kernel_rfl) (by kernel_rfl) (by kernel_rfl) (fun _ _ _ h => h) (Or.inl ⟨by rfl, fun w hw => by go_simp⟩) (by assumption) ?_
        simp only [Act.put, List.setIfInBounds_toArray, List.set_cons_zero, List.set_cons_succ]
        refine wpAnyH_done (by kernel_rfl) ?_ _
        go_wp2_with fail
        go_roundw
        case rel => exact ⟨j + 1, by go_num, hjl, HF.out⟩
        case measure => simp [intOf]; omega
    · have hjl' : ¬ (j : Int) < (os.length : Int) := by omega
      clear HA HN
      go_wp2_with fail
      refine Calls.mono (all_any wr b v m most l HB.out.q.q) ?_
      rintro e wa ⟨⟨va, La, rfl, AV, pa, sa, oa⟩, ta⟩
      go_wp2_with fail
      refine Calls.mono (dall_any wa d u most k (HB.out.keepN ta).ds) ?_
      rintro e wb ⟨vb, Lb, rfl, ob, pb, sb, tb⟩
      have eL : La = Lb := sorted_one sa sb ((pa.trans HP.out).trans pb.symm)
      subst eL
      have hLl : La.length ≤ 2000000 := by have := HB.out.q.q.ml; have := HB.out.q.q.m2; rw [pa.length_eq]; omega
      have HAV : Hid (AllV wb va La) := AV.keep tb
      have HSA : Hid _ := same_any wb va vb La (AV.keep tb) (own_rd ob) hLl
      have HBB : Hid (Both w wb b v m most l d u k) := (HB.out.keepN ta).keepN tb
      have HOA : Hid (∀ j, va.ownBlock = some j → wr.heap.size ≤ j) := oa
      have HQL : Hid (∀ j, qB b v m j → j < wr.heap.size) := HB.out.q.q.lt
      have HDL : Hid (∀ j, dB d u j → j < wr.heap.size) := HB.out.ds.lt
      have HWR : Hid (w.heap.size ≤ wr.heap.size) := HB.out.q.t.size
      clear AV pa sa oa ta pb sb tb ob HB
      obtain ⟨aa, ca, rfl, hA⟩ := HAV.out
      have HHA : Hid _ := hA
      clear hA HAV
      go_wp2_with fail
      refine Calls.mono HSA.out ?_
      rintro e wc ⟨rfl, tc⟩
      have HBC : Hid (Both w wc b v m most l d u k) := HBB.out.keepN tc
      have HLI : Hid (0 < La.length → ∃ g, aa = some ⟨g, 0, none⟩ ∧ Lies wc g (La.length * 3)) := fun h0 => by
        obtain ⟨g, e1, e2, e3⟩ := HHA.out h0
        exact ⟨g, e1, (hold_lies e3).keep e2 tc⟩
      clear HSA HBB HHA tc
      have hLi : (La.length : Int) ≤ 2000000 := by omega
      go_wp2_with fail
      go_loopw [9] (fun s9 wx => ∃ i : Nat, s9 = .int .i64 i ∧ i ≤ La.length ∧ Touch (fun k => Value.ownBlock (.slice aa La.length ca) = some k) wc wx ∧ (0 < La.length → ∃ g, aa = some ⟨g, 0, none⟩ ∧ Lies wx g (La.length * 3))) (fun s9 _ => La.length - (intOf s9).toNat)
      case atStart => exact ⟨0, rfl, Nat.zero_le _, Touch.refl _ _, HLI.out⟩
      case round =>
        clear HLI
        obtain ⟨i, rfl, hi, ti, li⟩ := hrel
        have HTI : Hid _ := ti
        have HLI : Hid _ := li
        clear ti li
        by_cases hil : i < La.length
        · have hil' : (i : Int) < (La.length : Int) := by omega
          have i0 : (0 : Int) ≤ (i : Int) := by omega
          obtain ⟨g, rfl, LL⟩ := HLI.out (by omega)
          obtain ⟨⟨y0, c0'⟩, f0⟩ := LL.out (i * 3) (by omega)
          obtain ⟨⟨y1, c1'⟩, f1⟩ := LL.out (i * 3 + 1) (by omega)
          obtain ⟨⟨y2, c2'⟩, f2⟩ := LL.out (i * 3 + 2) (by omega)
          have FL : Hid _ := ((LL.set (i * 3) (.int .i64 0)).set (i * 3 + 1) (.int .i64 0)).set (i * 3 + 2) (.int .u64 0)
          have FT : Hid (Touch (fun k => Value.ownBlock (.slice (some ⟨g, 0, none⟩) La.length ca) = some k) wc (((wr.setCell ⟨g, i * 3, none⟩ (.int .i64 0)).setCell ⟨g, i * 3 + 1, none⟩ (.int .i64 0)).setCell ⟨g, i * 3 + 2, none⟩ (.int .u64 0))) := by
            refine Touch.setCell (F := fun k => Value.ownBlock (.slice (some ⟨g, 0, none⟩) La.length ca) = some k) (p := ⟨g, i * 3 + 2, none⟩) ?_ (Or.inl rfl) _
            refine Touch.setCell (F := fun k => Value.ownBlock (.slice (some ⟨g, 0, none⟩) La.length ca) = some k) (p := ⟨g, i * 3 + 1, none⟩) ?_ (Or.inl rfl) _
            refine Touch.setCell (F := fun k => Value.ownBlock (.slice (some ⟨g, 0, none⟩) La.length ca) = some k) (p := ⟨g, i * 3, none⟩) ?_ (Or.inl rfl) _
            exact HTI.out
          clear LL HTI HLI
          go_wp2_with fail
          go_roundw
          case rel => exact ⟨i + 1, by go_num, hil, FT.out, fun _ => ⟨g, rfl, FL.out⟩⟩
          case measure => simp [intOf]; omega
        · have hil' : ¬ (i : Int) < (La.length : Int) := by omega
          have HBE : Hid (Both w wr b v m most l d u k) := HBC.out.keep HTI.out (fun q e => by
            have e1 := HOA.out q e
            have e2 := HWR.out
            exact ⟨by omega, fun e3 => (by have := HQL.out q e3; omega), fun e3 => (by have := HDL.out q e3; omega)⟩)
          clear HTI HLI HBC HOA HQL HDL HWR
          go_wp2_with fail
          refine Calls.mono (all_any wr b v m most l HBE.out.q.q) ?_
          rintro e wd ⟨⟨vd, Ld, rfl, DV, pd, sd, od⟩, td⟩
          go_wp2_with fail
          refine Calls.mono (dall_any wd d u most k (HBE.out.keepN td).ds) ?_
          rintro e we ⟨ve, Le, rfl, oe, pe, se, te⟩
          have eL : Ld = Le := sorted_one sd se ((pd.trans HP.out).trans pe.symm)
          subst eL
          have hLd : Ld.length ≤ 2000000 := by have := HBE.out.q.q.ml; have := HBE.out.q.q.m2; rw [pd.length_eq]; omega
          have HSD : Hid _ := same_any we vd ve Ld (DV.keep te) (own_rd oe) hLd
          have HTE : Hid (Touch (fun _ => False) w we) := (HBE.out.q.t.trans td).trans te
          clear DV pd sd od td pe se te oe HBE hLd
          go_wp2_with fail
          refine Calls.mono HSD.out ?_
          rintro e wf ⟨rfl, tf⟩
          have HTF : Hid (Touch (fun _ => False) w wf) := HTE.out.trans tf
          clear HSD tf HTE
          go_wp2_with ((go_at_call 8; refine Calls.mono (lives_any _) ?_; rintro e wx ⟨rfl, tx⟩))
          go_ret
          exact ⟨rfl, HTF.out.trans tx⟩

set_option maxHeartbeats 400000 in
theorem plays_any (v0 : Value) (most : Int) (os : List OpE) (w : World) (h0 : OpsAt w v0 os) :
    Calls Try.prog 3 #[.int .i64 most, v0] w fun e w' => e = .returned (.bool true) ∧ Touch (fun _ => False) w w' := by
  obtain ⟨a0, c0, rfl⟩ := h0.form
  by_cases hn : os.length ≤ 300
  · by_cases hm : 1 ≤ most ∧ most ≤ 1048576
    · exact plays_main a0 c0 os most w h0.ins hn hm.1 hm.2
    · have hn' : ¬ 300 < (os.length : Int) := by omega
      have hm' : most < 1 ∨ 1048576 < most := by omega
      have HM : Hid _ := hm'
      clear h0 hn hm hm'
      have HY : Hid _ := may_any w most false (by have := HM.out; simp; omega)
      go_enter Try.func3, Try.ntmps3
      go_wp2_with fail
      refine Calls.mono (new_no w most HM.out) ?_
      rintro e w1 ⟨rfl, rfl⟩
      go_wp2_with fail
      refine Calls.mono HY.out ?_
      rintro e w1 ⟨rfl, rfl⟩
      go_wp2_with ((go_at_call 8; refine Calls.mono (lives_any _) ?_; rintro e wx ⟨rfl, tx⟩))
      go_ret
      exact ⟨rfl, tx⟩
  · have hn' : 300 < (os.length : Int) := by omega
    clear h0 hn
    go_enter Try.func3, Try.ntmps3
    go_wp2_with ((go_at_call 8; refine Calls.mono (lives_any _) ?_; rintro e wx ⟨rfl, tx⟩))
    go_ret
    exact ⟨rfl, tx⟩
end Go.Proofs.Ytmdnlfbploaafaa
