/- The walk of OctetWrites: it returns true, and writes nothing that was there. -/
import Derived.Test.YtcpagamkpmmgpaaDoorWritesInv
import Derived.Test.YtcpagamkpmmgpaaDoorOctetReadsWalk
import Derived.Deep.RegionHeld3
import Derived.Lib.Builder
namespace Go.Proofs.YtcpagamkpmmgpaaDoor
open Go.RowKit
set_option linter.unusedVariables false
set_option maxRecDepth 100000

theorem src_block {w : World} {g : Nat} {rs ms : List Int} (h : w.heap[g]? = some (.cells (bytesOf (rs ++ ms)).toArray 5 (0, 0))) : ∀ j u, (bytesOf rs)[j]? = some u → w.cell? ((⟨g, 0, none⟩ : Addr).add j) = some u := by
  intro j u hj
  have hjl : j < rs.length := by
    have := (List.getElem?_eq_some_iff.mp hj).1
    simpa [length_bytesOf] using this
  rw [add_plain]
  simp only [World.cell?, h, Nat.zero_add]
  simp only [List.getElem?_toArray, bytesOf, List.getElem?_map] at hj ⊢
  rw [List.getElem?_append_left hjl]
  exact hj

/-- The block that holds the copy of a call. -/
structure CopyAt (w : World) (X : Nat) (what n pos x : Int) (bv : Value) : Prop where
  c0 : w.cell? ⟨X, 0, none⟩ = some (.int .i64 what)
  c1 : w.cell? ⟨X, 1, none⟩ = some (.int .i64 n)
  c2 : w.cell? ⟨X, 2, none⟩ = some (.int .i64 pos)
  c3 : w.cell? ⟨X, 3, none⟩ = some (.int .u32 x)
  c4 : w.cell? ⟨X, 4, none⟩ = some bv
theorem CopyAt.touch {F : Nat → Prop} {w w' : World} {X : Nat} {what n pos x : Int} {bv : Value} (h : CopyAt w X what n pos x bv) (t : Touch F w w') (hX : ¬ F X) : CopyAt w' X what n pos x bv := by
  have hl := lt_of_cell h.c0
  exact ⟨(t.cell (p := ⟨X, 0, none⟩) hl hX).trans h.c0, (t.cell (p := ⟨X, 1, none⟩) hl hX).trans h.c1, (t.cell (p := ⟨X, 2, none⟩) hl hX).trans h.c2, (t.cell (p := ⟨X, 3, none⟩) hl hX).trans h.c3, (t.cell (p := ⟨X, 4, none⟩) hl hX).trans h.c4⟩

theorem TwoW.lt {w : World} {b : Nat} {v : Value} {d : Nat} {dv : Value} {bs : List Int} {most err : Int} (h : TwoW w b v d dv bs most err) : (∀ i, wrF b v i → i < w.heap.size) ∧ (∀ i, wrF d dv i → i < w.heap.size) := by
  refine ⟨?_, ?_⟩
  · rintro i (e | e)
    · have := lt_of_cell h.wr.made; omega
    · exact own_lt h.wr.own e
  · rintro i (e | e)
    · have := lt_of_cell h.dw.row; omega
    · exact own_lt h.dw.own e

theorem Tryd.infoWr : (Tryd.prog.info? 87).isSome = true := by kernel_rfl

set_option maxHeartbeats 4000000 in
theorem writes_walk (most : Int) (a1 : Option Addr) (len1 cap1 : Nat) (g off : Nat) (ops : Nat → OpD) (w : World)
    (hm : most ≤ 9223372036854775807) (hl1 : len1 ≤ 140737488355328) (ha : 0 < len1 → a1 = some ⟨g, off, none⟩) (hops : ∀ i, i < len1 → OpAt w g off i (ops i)) :
    Calls Tryd.prog 4 #[.int .i64 most, .slice a1 len1 cap1] w fun e w' => e = .returned (.bool true) ∧ Below w.heap.size w w' := by
  obtain ⟨iw, hiw⟩ := Option.isSome_iff_exists.mp Tryd.infoWr
  have hpe : ∀ (W : World) (q : Addr), (binOp .neq 64 (.pointer (some q)) (.pointer (some q))).run Tryd.prog W = .ok (.bool false) W := fun W q => Lib.run_neq_ptr_same W q Tryd.underlying64 hiw
  clear hiw
  go_enter Tryd.func4, Tryd.ntmps4
  go_wp2_with fail
  refine (heavy_sum none 0 0 a1 len1 cap1 g off ops w (by omega) hl1 ha hops).mono ?_
  rintro e w' ⟨r, rfl, rfl, hr⟩
  cases r
  · obtain ⟨hs1, hs2⟩ := hr rfl
    clear hr
    go_wp2_with fail
    refine (write_all most w).mono ?_
    rintro e w1 ⟨rfl, hw1, t1⟩
    have hb1 := lt_of_cell hw1.made
    obtain ⟨w2, hw2⟩ : ∃ w2, w2 = w1.alloc (.cells #[.slice none 0 0, .int .i64 most, .int .i64 0] 69) := ⟨_, rfl⟩
    have hin : In6 w w2 w.heap.size w1.heap.size most ops 0 := by
      subst hw2
      refine ⟨⟨.slice none 0 0, .slice none 0 0, [], 0, ⟨hw1.alloc _, ⟨by simp, by simp, by simp, by simp, by simp, World.ownsRow_nil _ _ _ _⟩, by omega, by simp [Value.ownBlock], by simp [Value.ownBlock], by simp [Value.ownBlock]⟩, by simp⟩, t1.alloc _⟩
    obtain ⟨b, hbb⟩ : ∃ b, b = w.heap.size := ⟨_, rfl⟩
    obtain ⟨d, hdd⟩ : ∃ d, d = w1.heap.size := ⟨_, rfl⟩
    rw [← hbb, ← hdd] at hin
    have hb0 : w.heap.size ≤ b := by omega
    have hd0 : w.heap.size ≤ d := by omega
    have HW2 : Hid (w2 = _) := hw2
    have HBB : Hid (b = _) := hbb
    have HDD : Hid (d = _) := hdd
    clear hw2 hw1 t1 hb1 hbb hdd
    go_wp2
    rw [← HW2.out, ← HBB.out, ← HDD.out]
    clear HW2 HBB HDD
    go_loopw [7] (fun i wr => ∃ k : Nat, k ≤ len1 ∧ i = .int .i64 k ∧ In6 w wr b d most ops k) (fun i _ => len1 - (intOf i).toNat)
    case atStart => exact ⟨0, Nat.zero_le _, rfl, hin⟩
    case round =>
      obtain ⟨k, hk, rfl, h6⟩ := hrel
      clear hin
      by_cases hlt : k < len1
      · obtain rfl := ha (by omega)
        have ho := (hops k hlt).keep h6.touch (fun _ _ h => h)
        have htk := tot_mono ops (show k ≤ len1 by omega)
        have htk1 := tot_mono ops (show k + 1 ≤ len1 by omega)
        have htk2 : tot ops (k + 1) = tot ops k + (ops k).bs.length := rfl
        obtain ⟨what, hwh⟩ : ∃ what, what = (ops k).what := ⟨_, rfl⟩
        obtain ⟨n, hnn⟩ : ∃ n, n = (ops k).n := ⟨_, rfl⟩
        obtain ⟨pos, hpp⟩ : ∃ pos, pos = (ops k).pos := ⟨_, rfl⟩
        obtain ⟨x, hxx⟩ : ∃ x, x = (ops k).v := ⟨_, rfl⟩
        obtain ⟨ns, hns⟩ : ∃ ns, ns = (ops k).bs := ⟨_, rfl⟩
        obtain ⟨ba, bc, hbv, hnm⟩ := ho.arg.form
        have hc0 := ho.c0
        have hc1 := ho.c1
        have hc2 := ho.c2
        have hc3 := ho.c3
        have hc4 := ho.c4
        have harg := ho.arg
        have hby := ho.byte
        have hxb := bounds_u32 ho.wv
        rw [hbv] at hc4 harg
        rw [← hwh] at hc0
        rw [← hnn] at hc1
        rw [← hpp] at hc2
        rw [← hxx] at hc3 hxb
        rw [← hns] at hc4 harg hby htk2
        have hxb' : 0 ≤ x ∧ x < 4294967296 := by omega
        have t6 := h6.touch
        obtain ⟨v, dv, bs, err, h2, hbl⟩ := h6.ex
        obtain ⟨wX, hwX⟩ : ∃ wX, wX = wr.alloc (.cells #[.int .i64 what, .int .i64 n, .int .i64 pos, .int .u32 x, .slice ba ns.length bc] 58) := ⟨_, rfl⟩
        have tX : Touch (fun _ => False) wr wX := by rw [hwX]; exact (Touch.refl _ _).alloc _
        have hcX : CopyAt wX wr.heap.size what n pos x (.slice ba ns.length bc) := by rw [hwX]; exact ⟨by simp, by simp, by simp, by simp, by simp⟩
        have hXl := lt_of_cell hcX.c0
        have hX2 := h2.keep tX
        have hlt2 := h2.lt
        have hbound : bs.length + ns.length ≤ 70000 := by omega
        have HC : Hid (CopyAt wX wr.heap.size what n pos x (.slice ba ns.length bc)) := hcX
        have HWX : Hid (wX = _) := hwX
        have H2 : Hid (TwoW wX b v d dv bs most err) := hX2
        have HLT : Hid ((∀ i, wrF b v i → i < wr.heap.size) ∧ (∀ i, wrF d dv i → i < wr.heap.size)) := hlt2
        have HTX : Hid (Touch (fun _ => False) w wX) := t6.trans tX
        have HARG : Hid (∀ W, Touch (fun _ => False) w W → ArgAt W (.slice ba ns.length bc) ns) := fun W t => by have := ((hops k hlt).arg).keep t (fun _ _ h => h); rwa [hbv, ← hns] at this
        have HNW : Hid (∀ i, i < w.heap.size → wtwoF b v d dv i → False) := wtwoF_new h2 hb0 hd0
        clear ho hwh hnn hpp hxx hns hbv hwX hcX hX2 hlt2 tX t6 h2 h6 harg hops hxb
        by_cases h1 : what = 1
        · subst h1
          go_wp2_with fail
          rw [← HWX.out]
          clear HWX hc0 hc1 hc2 hc3 hc4
          refine (wide_any _ ns wX (HARG.out _ HTX.out) hby (by omega)).mono ?_
          rintro e w1 ⟨rfl, hg1, t1⟩
          have hlg1 := lt_of_heap hg1
          have HG1 : Hid (w1.heap[wX.heap.size]? = some (.cells (bytesOf (ns ++ spareMarks ns.length)).toArray 5 (0, 0))) := hg1
          clear hg1
          go_wp2_with fail
          refine (put_all b v bs (max most 0) err ⟨wX.heap.size, 0, none⟩ _ ns w1 (H2.out.keep t1).wr (src_block HG1.out) (by omega)).mono ?_
          rintro e w2 ⟨rfl, v', hw2, t2, m2⟩
          have hX2 := (HC.out.touch t1 (fun h => h)).touch t2 (fun e => by have := HLT.out.1 _ e; omega)
          have hc4 := hX2.c4
          have hg2 : w2.heap[wX.heap.size]? = some (.cells (bytesOf (ns ++ spareMarks ns.length)).toArray 5 (0, 0)) := (t2.block _ hlg1 (fun e => by have := HLT.out.1 _ e; omega)).trans HG1.out
          have HG2 : Hid (w2.heap[wX.heap.size]? = some (.cells (bytesOf (ns ++ spareMarks ns.length)).toArray 5 (0, 0))) := hg2
          have T2 : Touch (fun _ => False) w w2 := (HTX.out.trans t1).trans' t2 (fun i hi e => HNW.out i hi (Or.inl e))
          have harg2 : ArgAt w2 (.slice ba ns.length bc) ns := HARG.out w2 T2
          clear hg2 hX2
          go_wp2_with fail
          refine (eq_true _ _ ns w2 (rowAt_block HG2.out (by rw [length_spareMarks]) (by unfold maxLen; omega)) harg2).mono ?_
          rintro e w' ⟨rfl, n2, rfl⟩
          go_wp2_with fail
          refine (spare_any wX.heap.size ns (w2.drewN n2) (show (w2.drewN n2).heap[wX.heap.size]? = _ from HG2.out) (by omega)).mono ?_
          rintro e w' ⟨rfl, rfl⟩
          go_wp2_with fail
          refine (dput_all d dv bs most err _ ns (w2.drewN n2) (((H2.out.keep t1).first t2).drewN n2) (HARG.out _ (T2.drewN n2)) (by omega) hm).mono ?_
          rintro e w3 ⟨rfl, dv', hd3, t3, m3⟩
          obtain ⟨htwo3, tt3⟩ := (H2.out.keep t1).both (hw2.drewN n2) (t2.drewN n2) m2 hd3 t3 m3
          have hl2 := t2.size
          have hl2' : (w2.drewN n2).heap.size = w2.heap.size := rfl
          have hgi3 : w3.heap[wX.heap.size]? = some (.cells (bytesOf (ns ++ spareMarks ns.length)).toArray 5 (0, 0)) := (t3.block _ (by omega) (fun e => by have := HLT.out.2 _ e; omega)).trans HG2.out
          have hfill : Fill w3 w3 wX.heap.size (ns.length + 64) := ⟨Touch.refl _ _, _, hgi3, by simp [length_bytesOf, length_spareMarks]⟩
          have T3 : Touch (fun _ => False) w w3 := (HTX.out.trans t1).trans' tt3 (fun i hi e => HNW.out i hi e)
          have hv3 : ∀ q, v'.ownBlock = some q → ¬ q = wX.heap.size := by
            intro q hq
            rcases m2 with m | ⟨g', hg', hl'⟩
            · have := HLT.out.1 q (Or.inr (m ▸ hq)); omega
            · have := hg'.symm.trans hq
              simp at this
              omega
          have hdv3 : ∀ q, dv'.ownBlock = some q → ¬ q = wX.heap.size := by
            intro q hq
            rcases m3 with m | ⟨g', hg', hl'⟩
            · have := HLT.out.2 q (Or.inr (m ▸ hq)); omega
            · have := hg'.symm.trans hq
              simp at this
              omega
          have hlen3 := putB_len bs (max most 0) err ns
          obtain ⟨bs3, hbs3⟩ : ∃ q, putB bs (max most 0) err ns = q := ⟨_, rfl⟩
          obtain ⟨err3, herr3⟩ : ∃ q, putE bs (max most 0) err ns = q := ⟨_, rfl⟩
          rw [hbs3] at hlen3
          rw [hbs3, herr3] at htwo3
          have HV3 : Hid (∀ q, v'.ownBlock = some q → ¬ q = wX.heap.size) := hv3
          have HDV3 : Hid (∀ q, dv'.ownBlock = some q → ¬ q = wX.heap.size) := hdv3
          have H3 : Hid (TwoW w3 b v' d dv' bs3 most err3) := htwo3
          have HT3 : Hid (Touch (fun _ => False) w w3) := T3
          have hbX : ¬ b = wX.heap.size := by have := HLT.out.1 b (Or.inl rfl); omega
          have hdX : ¬ d = wX.heap.size := by have := HLT.out.2 d (Or.inl rfl); omega
          have hwX0 : w.heap.size ≤ wX.heap.size := HTX.out.size
          clear hbs3 herr3 hv3 hdv3 htwo3 T3 tt3 hd3 t3 m3 hw2 t2 m2 t1 hgi3 HG1 HG2 T2 harg2 hc4 hl2 hl2' hlg1
          go_wp2
          go_loopw [10] (fun i wr => ∃ j : Nat, j ≤ ns.length ∧ i = .int .i64 j ∧ Fill w3 wr wX.heap.size (ns.length + 64)) (fun i _ => ns.length - (intOf i).toNat)
          case atStart => exact ⟨0, Nat.zero_le _, rfl, hfill⟩
          case round =>
            obtain ⟨j, hj, rfl, hf⟩ := hrel
            clear hfill
            by_cases hltj : j < ns.length
            · obtain ⟨⟨y, hy⟩, hfz, hnext⟩ := hf.at j (by omega) (.int .u8 77)
              have HN : Hid (Fill w3 (wr.setCell ⟨wX.heap.size, j, none⟩ (.int .u8 77)) wX.heap.size (ns.length + 64)) := hnext
              clear hnext hf
              go_wp2
              go_roundw
              case rel => exact ⟨j + 1, by omega, by go_num, HN.out⟩
              case measure => simp [intOf] <;> omega
            · have tf := hf.touch
              have HT : Hid (TwoW wr b v' d dv' bs3 most err3) := H3.out.touch tf hbX hdX HV3.out HDV3.out
              have TT : Hid (Touch (fun _ => False) w wr) := HT3.out.trans' tf (fun i hi e => by omega)
              have HLn : Hid (bs3.length ≤ tot ops (k + 1) + 4 * (k + 1)) := by show _ ≤ _; omega
              clear tf hf HT3 H3
              obtain ⟨da, dc, rfl⟩ := own_form HT.out.dw.own
              have hcd := HT.out.dw.row
              go_wp2
              go_quiet ((go_at_call 29; exact Calls.quiet_of_same ((len_any b _ _ _ _ _ (HT.out.wr.drewN _)).mono (fun e w' hh => ⟨hh.1, hh.2.symm⟩))))
              go_wp2
              go_roundw
              case rel => exact ⟨k + 1, by omega, by go_num, ⟨⟨_, _, _, _, HT.out.keep ((Touch.refl _ _).drewN _), HLn.out⟩, TT.out.drewN _⟩⟩
              case measure => simp [intOf] <;> omega
        · by_cases h3 : what = 3
          · subst h3
            go_wp2_with fail
            rw [← HWX.out]
            clear HWX hc0 hc1 hc2 hc3 hc4
            refine (wpatch_all b v bs (max most 0) err pos x n wX H2.out.wr hxb' (by omega)).mono ?_
            rintro e w1 ⟨rfl, hw1, t1⟩
            have hX1 := HC.out.touch t1 (fun e => by have := HLT.out.1 _ e; omega)
            have hc1 := hX1.c1
            have hc2 := hX1.c2
            have hc3 := hX1.c3
            clear hX1
            go_wp2_with fail
            refine (dpatch_all d dv bs most err pos x n w1 (H2.out.first t1) hxb' (by omega)).mono ?_
            rintro e w2 ⟨rfl, hd2, t2⟩
            obtain ⟨htwo2, tt2⟩ := H2.out.both hw1 t1 (Or.inl rfl) hd2 t2 (Or.inl rfl)
            have hlen2 := patB_len bs err pos x n
            obtain ⟨bs3, hbs3⟩ : ∃ q, patB bs err pos x n = q := ⟨_, rfl⟩
            obtain ⟨err3, herr3⟩ : ∃ q, patE bs err pos x n = q := ⟨_, rfl⟩
            rw [hbs3] at hlen2
            rw [hbs3, herr3] at htwo2
            have HT : Hid (TwoW w2 b v d dv bs3 most err3) := htwo2
            have TT : Hid (Touch (fun _ => False) w w2) := HTX.out.trans' tt2 (fun i hi e => HNW.out i hi e)
            have HLn : Hid (bs3.length ≤ tot ops (k + 1) + 4 * (k + 1)) := by show _ ≤ _; omega
            clear hbs3 herr3 htwo2 tt2 hd2 t2 hw1 t1 hc1 hc2 hc3 hlen2 H2 HLT HNW
            obtain ⟨da, dc, rfl⟩ := own_form HT.out.dw.own
            have hcd := HT.out.dw.row
            go_wp2
            go_quiet ((go_at_call 29; exact Calls.quiet_of_same ((len_any b _ _ _ _ _ (HT.out.wr.drewN _)).mono (fun e w' hh => ⟨hh.1, hh.2.symm⟩))))
            go_wp2
            go_roundw
            case rel => exact ⟨k + 1, by omega, by go_num, ⟨⟨_, _, _, _, HT.out.keep ((Touch.refl _ _).drewN _), HLn.out⟩, TT.out.drewN _⟩⟩
            case measure => simp [intOf] <;> omega
          · have h1' : (what == 1) = false := by simpa using h1
            have h3' : (what == 3) = false := by simpa using h3
            go_wp2_with fail
            rw [← HWX.out]
            clear HWX hc0 hc1 hc2 hc3 hc4
            refine (wnumber_all b v bs (max most 0) err x n wX H2.out.wr hxb' (by omega)).mono ?_
            rintro e w1 ⟨rfl, v', hw1, t1, m1⟩
            have hX1 := HC.out.touch t1 (fun e => by have := HLT.out.1 _ e; omega)
            have hc1 := hX1.c1
            have hc3 := hX1.c3
            clear hX1
            go_wp2_with fail
            refine (dwnumber_all d dv bs most err x n w1 (H2.out.first t1) hxb' (by omega) hm).mono ?_
            rintro e w2 ⟨rfl, dv', hd2, t2, m2⟩
            obtain ⟨htwo2, tt2⟩ := H2.out.both hw1 t1 m1 hd2 t2 m2
            have hlen2 := numB_len bs (max most 0) err x n
            obtain ⟨bs3, hbs3⟩ : ∃ q, numB bs (max most 0) err x n = q := ⟨_, rfl⟩
            obtain ⟨err3, herr3⟩ : ∃ q, numE bs (max most 0) err x n = q := ⟨_, rfl⟩
            rw [hbs3] at hlen2
            rw [hbs3, herr3] at htwo2
            have HT : Hid (TwoW w2 b v' d dv' bs3 most err3) := htwo2
            have TT : Hid (Touch (fun _ => False) w w2) := HTX.out.trans' tt2 (fun i hi e => HNW.out i hi e)
            have HLn : Hid (bs3.length ≤ tot ops (k + 1) + 4 * (k + 1)) := by show _ ≤ _; omega
            clear hbs3 herr3 htwo2 tt2 hd2 t2 hw1 t1 hc1 hc3 hlen2 H2 HLT HNW m1 m2
            obtain ⟨da, dc, rfl⟩ := own_form HT.out.dw.own
            have hcd := HT.out.dw.row
            go_wp2
            go_quiet ((go_at_call 29; exact Calls.quiet_of_same ((len_any b _ _ _ _ _ (HT.out.wr.drewN _)).mono (fun e w' hh => ⟨hh.1, hh.2.symm⟩))))
            go_wp2
            go_roundw
            case rel => exact ⟨k + 1, by omega, by go_num, ⟨⟨_, _, _, _, HT.out.keep ((Touch.refl _ _).drewN _), HLn.out⟩, TT.out.drewN _⟩⟩
            case measure => simp [intOf] <;> omega
      · obtain rfl : k = len1 := by omega
        have t6 := h6.touch
        obtain ⟨v, dv, bs, err, h2, hbl⟩ := h6.ex
        have hbs : bs.length ≤ 70000 := by omega
        have hdform := own_form h2.dw.own
        obtain ⟨da, dc, rfl⟩ := hdform
        have hlt2 := h2.lt
        have H2 : Hid (TwoW wr b v d (.slice da bs.length dc) bs most err) := h2
        have HT : Hid (Touch (fun _ => False) w wr) := t6
        have HLT : Hid ((∀ i, wrF b v i → i < wr.heap.size) ∧ (∀ i, wrF d (.slice da bs.length dc) i → i < wr.heap.size)) := hlt2
        obtain ⟨xs, hxs⟩ : ∃ xs, (if err = 0 then bs else []) = xs := ⟨_, rfl⟩
        have hd1 := done_all b v bs (max most 0) err wr h2.wr (by omega)
        have hd2 := fun w1 (h : WrS w1 b v bs (max most 0) err) => done_all b v bs (max most 0) err w1 h (by omega)
        rw [hxs] at hd1
        simp only [hxs] at hd2
        have hxl : xs.length ≤ 70000 := by rw [← hxs]; split; exact hbs; simp
        have hca : (err = 0 ∧ Hid (∀ W, Touch (fun _ => False) wr W → ArgAt W (.slice da bs.length dc) xs)) ∨ ((err == 0) = false ∧ Hid (∀ W, Touch (fun _ => False) wr W → ArgAt W (.slice none 0 0) xs)) := by
          by_cases he : err = 0
          · rw [if_pos he] at hxs
            subst hxs
            exact Or.inl ⟨he, fun W t => (own_rowAt (h2.keep t).dw.own).arg⟩
          · rw [if_neg he] at hxs
            subst hxs
            exact Or.inr ⟨by simpa using he, fun W t => Or.inl ⟨rfl, rfl⟩⟩
        clear hxs h2 t6 h6 hops ha hlt2 hbl hs1 hs2 hlt hk
        rcases hca with ⟨rfl, HW⟩ | ⟨he, HW⟩
        all_goals
          go_wp2_with fail
          refine hd1.mono ?_
          rintro e w1 ⟨v1, rfl, hown1, t1⟩
          obtain ⟨va1, vc1, rfl⟩ := own_form hown1
          have HX1 : Hid (TwoW w1 b v d (.slice da bs.length dc) bs most _) := H2.out.keep t1
          clear hd1
          go_wp2_with fail
          refine (hd2 w1 HX1.out.wr).mono ?_
          rintro e w2 ⟨v2, rfl, hown2, t2⟩
          obtain ⟨va2, vc2, rfl⟩ := own_form hown2
          have hX2 := HX1.out.keep t2
          have hc0 := hX2.dw.row
          have hc2 := hX2.dw.err
          have HX2 : Hid (TwoW w2 b v d (.slice da bs.length dc) bs most _) := hX2
          have hlo1 : ∀ i, (Value.slice va1 xs.length vc1).ownBlock = some i → wr.heap.size ≤ i ∧ i < w1.heap.size := fun i hi => hown1.lt i hi
          have hlo2 : ∀ i, (Value.slice va2 xs.length vc2).ownBlock = some i → w1.heap.size ≤ i ∧ i < w2.heap.size := fun i hi => hown2.lt i hi
          have hs1 := t1.size
          have hs2 := t2.size
          have HL1 : Hid (∀ i, (Value.slice va1 xs.length vc1).ownBlock = some i → wr.heap.size ≤ i ∧ i < w1.heap.size) := hlo1
          have HL2 : Hid (∀ i, (Value.slice va2 xs.length vc2).ownBlock = some i → w1.heap.size ≤ i ∧ i < w2.heap.size) := hlo2
          have HO1 : Hid (w2.ownsRow wr.heap.size 5 1 (.slice va1 xs.length vc1) xs.length (bytesOf xs)) := own_touch hown1 t2 (fun _ _ h => h)
          have HO2 : Hid (w2.ownsRow w1.heap.size 5 1 (.slice va2 xs.length vc2) xs.length (bytesOf xs)) := hown2
          have HT2 : Hid (Touch (fun _ => False) wr w2) := t1.trans t2
          clear hd2 hX2 hown1 hown2 hlo1 hlo2 t1 t2 HX1 H2
          go_wp2_with fail
          refine (eq_true _ _ xs w2 (own_rowAt HO1.out) (HW.out w2 HT2.out)).mono ?_
          rintro e w' ⟨rfl, n1, rfl⟩
          go_wp2_with fail
          refine (eq_true _ _ xs (w2.drewN n1) (own_rowAt (own_touch HO2.out ((Touch.refl (fun _ => False) _).drewN n1) (fun _ _ h => h))) (HW.out _ (HT2.out.drewN n1))).mono ?_
          rintro e w' ⟨rfl, n2, rfl⟩
          generalize hw5 : (w2.drewN n1).drewN n2 = w5
          have t5 : Touch (fun _ => False) w2 w5 := by rw [← hw5]; exact ((Touch.refl _ _).drewN _).drewN _
          clear hw5
          obtain ⟨w6, hw6⟩ : ∃ w6, w6 = w5.alloc (.cells #[.slice none 0 0, .slice none 0 0, .slice none 0 0, .slice none 0 0, .slice none 0 0, .slice none 0 0, .slice none 0 0, .slice none 0 0, .slice none 0 0, .slice none 0 0, .slice none 0 0, .slice none 0 0, .slice none 0 0, .slice none 0 0, .slice none 0 0, .slice none 0 0, .slice none 0 0, .slice none 0 0, .slice none 0 0] 55) := ⟨_, rfl⟩
          obtain ⟨bb, hbb⟩ : ∃ bb, bb = w5.heap.size := ⟨_, rfl⟩
          have hbag := bag_new (w := w5) (T := 55) _ rfl
          rw [← hw6, ← hbb] at hbag
          have t6 : Touch (fun _ => False) w5 w6 := by rw [hw6]; exact (Touch.refl _ _).alloc _
          have hs5 := t5.size
          have hs6 := t6.size
          have HX6 : Hid (TwoW w6 b v d (.slice da bs.length dc) bs most _) := (HX2.out.keep t5).keep t6
          have HO1' : Hid (w6.ownsRow 0 5 1 (.slice va1 xs.length vc1) xs.length (bytesOf xs)) := own_base (base' := 0) (own_touch (own_touch HO1.out t5 (fun _ _ h => h)) t6 (fun _ _ h => h)) (fun _ _ => Nat.zero_le _)
          have HO2' : Hid (w6.ownsRow 0 5 1 (.slice va2 xs.length vc2) xs.length (bytesOf xs)) := own_base (base' := 0) (own_touch (own_touch HO2.out t5 (fun _ _ h => h)) t6 (fun _ _ h => h)) (fun _ _ => Nat.zero_le _)
          have HT6 : Hid (Touch (fun _ => False) w w6) := ((HT.out.trans HT2.out).trans t5).trans t6
          have HW6 : Hid (w6 = _) := hw6
          have HBB : Hid (bb = _) := hbb
          have hbw : w2.heap.size ≤ bb := by omega
          have hwr : w.heap.size ≤ wr.heap.size := HT.out.size
          have HBG : Hid (BagB w6 bb (.slice none 0 0) [] ∧ w6.frozen? ⟨bb, 0, none⟩ = false ∧ BagN w6 bb) := hbag
          clear hbag hw6 hbb t5 t6 HO1 HO2 HX2 HW HT2 HT hc0 hc2 hs5 hs6
          go_wp2_with fail
          rw [← HW6.out, ← HBB.out]
          clear HW6 HBB
          refine (add_any bb (.slice none 0 0) [] (.slice va1 xs.length vc1) xs w6 HBG.out.1 HBG.out.2.1 HO1'.out (by omega) (fun i hi => ⟨by have := HL1.out i hi; omega, by simp [Value.ownBlock], by simp⟩) (by simp) (by simp [Value.ownBlock])).mono ?_
          rintro e w7 ⟨rfl, gv7, hb7, hf7, hg7, hm7, t7, hcs7⟩
          have hlow7 : ∀ i, i < bb → ¬ (i = bb ∨ (Value.slice none 0 0).ownBlock = some i) := by
            rintro i hi (e | e)
            · omega
            · simp [Value.ownBlock] at e
          have HX7 : Hid (TwoW w7 b v d (.slice da bs.length dc) bs most _) := HX6.out.touch t7 (hlow7 _ (by have := HLT.out.1 b (Or.inl rfl); omega)) (hlow7 _ (by have := HLT.out.2 d (Or.inl rfl); omega)) (fun i hi => hlow7 i (by have := HLT.out.1 i (Or.inr hi); omega)) (fun i hi => hlow7 i (by have := HLT.out.2 i (Or.inr hi); omega))
          have HO7 : Hid (w7.ownsRow 0 5 1 (.slice va2 xs.length vc2) xs.length (bytesOf xs)) := own_touch HO2'.out t7 (fun i hi => hlow7 i (by have := HL2.out i hi; omega))
          have HT7 : Hid (Touch (fun _ => False) w w7) := HT6.out.trans' t7 (fun i hi e => hlow7 i (by omega) e)
          have HN7 : Hid (BagN w7 bb) := fun j h1 h2 => hcs7 j _ h1 (HBG.out.2.2 j h1 h2)
          have HB7 : Hid (BagB w7 bb gv7 [.slice va1 xs.length vc1]) := hb7
          have HG7 : Hid (∀ k, gv7.ownBlock = some k → bb < k) := hg7
          have HF7 : Hid (w7.frozen? ⟨bb, 0, none⟩ = false) := hf7
          clear hb7 hf7 hg7 hm7 t7 hcs7 hlow7 HBG HO1' HO2' HX6 HT6
          go_wp2_with fail
          refine (add_any bb gv7 [.slice va1 xs.length vc1] (.slice va2 xs.length vc2) xs w7 HB7.out HF7.out HO7.out (by omega) (fun i hi => ⟨by have := HL2.out i hi; omega, fun e => by have := HG7.out i e; have := HL2.out i hi; omega, fun m u hm e => by
            obtain rfl : u = .slice va1 xs.length vc1 := by simpa using List.mem_of_getElem? hm
            have h1 := HL1.out i e
            have h2 := HL2.out i hi
            omega⟩) (by simp) HG7.out).mono ?_
          rintro e w8 ⟨rfl, gv8, hb8, hf8, hg8, hm8, t8, hcs8⟩
          have hlow8 : ∀ i, i < bb → ¬ (i = bb ∨ gv7.ownBlock = some i) := by
            rintro i hi (e | e)
            · omega
            · have := HG7.out i e; omega
          have HX8 : Hid (TwoW w8.drew b v d (.slice da bs.length dc) bs most _) := (HX7.out.touch t8 (hlow8 _ (by have := HLT.out.1 b (Or.inl rfl); omega)) (hlow8 _ (by have := HLT.out.2 d (Or.inl rfl); omega)) (fun i hi => hlow8 i (by have := HLT.out.1 i (Or.inr hi); omega)) (fun i hi => hlow8 i (by have := HLT.out.2 i (Or.inr hi); omega))).keep ((Touch.refl _ _).drew)
          have HT8 : Hid (Touch (fun _ => False) w w8.drew) := (HT7.out.trans' t8 (fun i hi e => hlow8 i (by omega) e)).drew
          have HN8 : Hid (BagN w8.drew bb) := fun j h1 h2 => hcs8 j _ h1 (HN7.out j h1 h2)
          have HB8 : Hid (BagB w8.drew bb gv8 [.slice va1 xs.length vc1, .slice va2 xs.length vc2]) := BagB.touch (F := fun _ => False) hb8 ((Touch.refl _ _).drew) (fun h => h) (fun _ _ h => h) (fun _ _ _ _ _ h => h)
          have HOLD : Hid (∀ i, bagF [.slice va1 xs.length vc1, .slice va2 xs.length vc2] i → wr.heap.size ≤ i) := by
            rintro i ⟨m, u, hm, hu⟩
            have hm' : u = .slice va1 xs.length vc1 ∨ u = .slice va2 xs.length vc2 := by simpa using List.mem_of_getElem? hm
            rcases hm' with rfl | rfl
            · exact (HL1.out i hu).1
            · have := HL2.out i hu; omega
          have hcw : w8.cell? ⟨d, 0, none⟩ = some (.slice da bs.length dc) := HX8.out.dw.row
          clear hb8 hf8 hg8 hm8 t8 hcs8 hlow8 HB7 HF7 HG7 HN7 HX7 HT7 HO7 HL1 HL2
          go_wp2_with fail
          go_region_held3 (fun w' => w'.cell? ⟨d, 0, none⟩ = some (.slice da bs.length dc)) (go_keep) (first | (go_at_call 21; refine (Apart_any bb gv8 _ w8.drew HB8.out HN8.out).mono ?_; rintro e w9 ⟨rfl, t9⟩; have HX9 : Hid (TwoW w9 b v d (.slice da bs.length dc) bs most _) := HX8.out.touch t9 (fun f => by have h1 := HLT.out.1 b (Or.inl rfl); have h2 := HOLD.out _ f; omega) (fun f => by have h1 := HLT.out.2 d (Or.inl rfl); have h2 := HOLD.out _ f; omega) (fun i hi f => by have h1 := HLT.out.1 i (Or.inr hi); have h2 := HOLD.out _ f; omega) (fun i hi f => by have h1 := HLT.out.2 i (Or.inr hi); have h2 := HOLD.out _ f; omega); have HT9 : Hid (Touch (fun _ => False) w w9) := HT8.out.trans' t9 (fun i hi f => by have h2 := HOLD.out _ f; omega); have hc9 := HX9.out.dw.row; clear t9) | (go_at_call 29; refine (len_any b v bs _ _ w9 HX9.out.wr).mono ?_; rintro e w' ⟨rfl, rfl⟩) | (go_at_call 6; refine (lives_any w9).mono ?_; rintro e w10 ⟨rfl, t10⟩; have hc10 := (HX9.out.keep t10).dw.row; have HT10 : Hid (Touch (fun _ => False) w w10) := HT9.out.trans t10; clear t10))
          go_wp2
          go_ret
          exact ⟨rfl, HT10.out.below (Nat.le_refl _) (fun _ _ h => h)⟩
  · go_wp2_with fail
    refine (lives_any _).mono ?_
    rintro e w' ⟨rfl, tl⟩
    go_wp2
    go_ret
    exact ⟨rfl, tl.below (Nat.le_refl _) (fun _ _ h => h)⟩
end Go.Proofs.YtcpagamkpmmgpaaDoor
