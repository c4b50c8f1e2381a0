/- The walk of OctetReads: it returns true, and writes nothing that was there. -/
import Derived.Test.YtcpagamkpmmgpaaDoorReadsInv
import Derived.Deep.RegionHeld3
namespace Go.Proofs.YtcpagamkpmmgpaaDoor
open Go.RowKit
set_option linter.unusedVariables false
set_option maxRecDepth 100000

theorem rowAt_block {w : World} {g n : Nat} {rs ms : List Int} (h : w.heap[g]? = some (.cells (bytesOf (rs ++ ms)).toArray 5 (0, 0))) (hn : rs.length + ms.length = n) (hm : n ≤ maxLen) : RowAt w (.slice (some ⟨g, 0, none⟩) rs.length n) rs := by
  refine Or.inr ⟨g, 0, n, rfl, by omega, hm, fun j u hj => ?_⟩
  have hjl : j < rs.length := by
    have := (List.getElem?_eq_some_iff.mp hj).1
    simpa [length_bytesOf] using this
  simp only [World.cell?, h, Nat.zero_add]
  simp only [List.getElem?_toArray, bytesOf, List.getElem?_map] at hj ⊢
  rw [List.getElem?_append_left hjl]
  exact hj

/-- A block of bytes of one's own, being filled. -/
structure Fill (w4 wr : World) (gi N : Nat) : Prop where
  touch : Touch (fun k => k = gi) w4 wr
  row : ∃ cur : Array Value, wr.heap[gi]? = some (.cells cur 5 (0, 0)) ∧ cur.size = N

theorem Fill.at {w4 wr : World} {gi N : Nat} (h : Fill w4 wr gi N) (k : Nat) (hk : k < N) (u : Value) : (∃ x, wr.cell? ⟨gi, k, none⟩ = some x) ∧ wr.frozen? ⟨gi, k, none⟩ = false ∧ Fill w4 (wr.setCell ⟨gi, k, none⟩ u) gi N := by
  obtain ⟨cur, h1, h2⟩ := h.row
  refine ⟨⟨cur[k], ?_⟩, frozen_of_row wr gi k cur 5 h1, Touch.setCell (F := fun k => k = gi) (p := ⟨gi, k, none⟩) h.touch (Or.inl rfl) _, cur.setIfInBounds k u, heap_setCell_same wr gi k cur 5 u h1, by simpa using h2⟩
  simp only [World.cell?, h1]
  exact Array.getElem?_eq_getElem (by omega)

theorem bag_new {w : World} {T : TypeId} (C : Array Value) (hC : C = #[.slice none 0 0, .slice none 0 0, .slice none 0 0, .slice none 0 0, .slice none 0 0, .slice none 0 0, .slice none 0 0, .slice none 0 0, .slice none 0 0, .slice none 0 0, .slice none 0 0, .slice none 0 0, .slice none 0 0, .slice none 0 0, .slice none 0 0, .slice none 0 0, .slice none 0 0, .slice none 0 0, .slice none 0 0]) :
    BagB (w.alloc (.cells C T)) w.heap.size (.slice none 0 0) [] ∧ (w.alloc (.cells C T)).frozen? ⟨w.heap.size, 0, none⟩ = false ∧ BagN (w.alloc (.cells C T)) w.heap.size := by
  subst hC
  refine ⟨⟨by simp, World.ownsRow_nil _ _ _ _, by simp, by simp, by simp, by simp, by simp [Value.ownBlock], by simp, by simp⟩, by simp, fun j h1 h2 => ?_⟩
  rcases (by omega : j = 1 ∨ j = 2 ∨ j = 3 ∨ j = 4 ∨ j = 5 ∨ j = 6 ∨ j = 7 ∨ j = 8 ∨ j = 9 ∨ j = 10 ∨ j = 11 ∨ j = 12 ∨ j = 13 ∨ j = 14 ∨ j = 15 ∨ j = 16 ∨ j = 17 ∨ j = 18) with rfl | rfl | rfl | rfl | rfl | rfl | rfl | rfl | rfl | rfl | rfl | rfl | rfl | rfl | rfl | rfl | rfl | rfl <;> simp

set_option maxHeartbeats 4000000 in
theorem reads_walk (a0 : Option Addr) (len0 cap0 : Nat) (rs : List Int) (a1 : Option Addr) (len1 cap1 : Nat) (g off : Nat) (ops : Nat → OpD) (w : World)
    (h0 : ArgAt w (.slice a0 len0 cap0) rs) (hrl : rs.length = len0) (hby : ∀ z ∈ rs, 0 ≤ z ∧ z < 256) (hl0 : len0 ≤ 140737488355328) (hl1 : len1 ≤ 140737488355328) (ha : 0 < len1 → a1 = some ⟨g, off, none⟩) (hops : ∀ i, i < len1 → OpAt w g off i (ops i)) :
    Calls Tryd.prog 3 #[.slice a0 len0 cap0, .slice a1 len1 cap1] w fun e w' => e = .returned (.bool true) ∧ Below w.heap.size w w' := by
  subst hrl
  go_enter Tryd.func3, Tryd.ntmps3
  go_wp2_with fail
  refine (heavy_any a0 rs.length cap0 a1 len1 cap1 g off ops w hl0 hl1 ha hops).mono ?_
  rintro e w' ⟨r, rfl, rfl, hr⟩
  cases r
  · obtain ⟨hs0, hs1, _⟩ := hr rfl
    clear hr
    go_wp2_with fail
    refine (wide_any _ rs w h0 hby (by omega)).mono ?_
    rintro e w1 ⟨rfl, hg1, t1⟩
    have hg1' : w1.heap[w.heap.size]? = some (.cells (bytesOf (rs ++ spareMarks rs.length)).toArray 5 (0, 0)) := hg1
    have hrow1 := rowAt_block hg1 (by rw [length_spareMarks]) (by unfold maxLen; omega)
    have hlt1 := lt_of_heap hg1
    go_wp2_with fail
    refine (read_ok _ rs w1 hrow1 hby (by omega)).mono ?_
    rintro e w2 ⟨b, rv, rfl, hb2, hr2, hrv2, t2⟩
    go_wp2_with fail
    refine (dread_any _ rs w2 ((h0.keep t1 (fun _ _ h => h)).keep t2 (fun _ _ h => h)) hby (by omega)).mono ?_
    rintro e w3 ⟨dv, rfl, hd3, hdv3, t3⟩
    have hbl2 := lt_of_cell hr2.made
    have htwo : Two w3 b rv w2.heap.size dv rs 0 0 := ⟨hr2.touch t3 (fun h => h) (fun _ _ h => h), hd3, by omega, fun e => by have := hr2.blk _ e; omega, fun e => by have := hdv3 _ e; omega⟩
    have hg3 := t3.heapN (t2.heapN hg1)
    have t03 := (t1.trans t2).trans t3
    have hz : w.heap.size < w1.heap.size := hlt1
    have hz2 := t2.size
    have hdl3 := lt_of_cell hd3.row
    have hrvl : ∀ k, rv.ownBlock = some k → w.heap.size < k := fun k hk => by have := hrv2 k hk; omega
    obtain ⟨d, hdd⟩ : ∃ d, w2.heap.size = d := ⟨_, rfl⟩
    rw [hdd] at htwo hdv3 hdl3
    rw [hdd]
    have hbd : b < d := by omega
    have hwb : w.heap.size < b := by omega
    clear hg1 hg1' hrow1 hr2 hd3 t1 t2 t3 hdd hrv2 hb2 hlt1 hz hz2 hbl2
    go_wp2_with fail
    refine (alike_any b 0 0 rv rs d dv w3 htwo.rd htwo.dd).mono ?_
    rintro e w' ⟨rfl, n1, rfl⟩
    have hg4 : (w3.drewN n1).heap[w.heap.size]? = some (.cells (bytesOf (rs ++ spareMarks rs.length)).toArray 5 (0, 0)) := hg3
    go_wp2_with fail
    refine (eq_true _ _ rs (w3.drewN n1) (rowAt_block hg4 (by rw [length_spareMarks]) (by unfold maxLen; omega)) (h0.keep (t03.drewN n1) (fun _ _ h => h))).mono ?_
    rintro e w' ⟨rfl, n2, rfl⟩
    have hg5 : (w3.drewN (n1 + n2)).heap[w.heap.size]? = some (.cells (bytesOf (rs ++ spareMarks rs.length)).toArray 5 (0, 0)) := hg3
    go_wp2_with fail
    refine (spare_any w.heap.size rs _ hg5 (by omega)).mono ?_
    rintro e w' ⟨rfl, rfl⟩
    obtain ⟨w4, hw4⟩ : ∃ w4, w4 = w3.drewN (n1 + n2) := ⟨_, rfl⟩
    have htwo4 : Two w4 b rv d dv rs 0 0 := by
      rw [hw4]
      exact htwo.touch ((Touch.refl (fun _ => False) w3).drewN _) (fun h => h) (fun h => h) (fun _ _ h => h) (fun _ _ h => h)
    have t04 : Touch (fun _ => False) w w4 := by rw [hw4]; exact t03.drewN _
    have hg6 : w4.heap[w.heap.size]? = some (.cells (bytesOf (rs ++ spareMarks rs.length)).toArray 5 (0, 0)) := by rw [hw4]; exact hg3
    have hdl4 : d < w4.heap.size := by rw [hw4]; exact hdl3
    rw [← hw4]
    clear hw4 hg3 hg4 hg5 htwo t03 hdl3
    have hfill : Fill w4 w4 w.heap.size (rs.length + 64) := ⟨Touch.refl _ _, _, hg6, by simp [length_bytesOf, length_spareMarks]⟩
    clear hg6
    go_wp2
    go_loopw [8] (fun i wr => ∃ k : Nat, k ≤ rs.length ∧ i = .int .i64 k ∧ Fill w4 wr w.heap.size (rs.length + 64)) (fun i _ => rs.length - (intOf i).toNat)
    case atStart => exact ⟨0, Nat.zero_le _, rfl, hfill⟩
    case round =>
      obtain ⟨k, hk, rfl, hf⟩ := hrel
      clear hfill
      by_cases hlt : k < rs.length
      · obtain ⟨⟨x, hx⟩, hfz, hnext⟩ := hf.at k (by omega) (.int .u8 99)
        have HN : Hid (Fill w4 (wr.setCell ⟨w.heap.size, k, none⟩ (.int .u8 99)) w.heap.size (rs.length + 64)) := hnext
        clear hnext hf
        go_wp2
        go_roundw
        case rel => exact ⟨k + 1, by omega, by go_num, HN.out⟩
        case measure => simp [intOf] <;> omega
      · have tf := hf.touch
        have hs4 := tf.size
        have htwo5 : Two wr b rv d dv rs 0 0 := htwo4.touch tf (by omega) (by omega) (fun k hk e => by have := hrvl k hk; omega) (fun k hk e => by have := hdv3 k hk; omega)
        have t05 : Touch (fun _ => False) w wr := t04.trans' tf (fun i hi e => by omega)
        have hdv5 : ∀ k, dv.ownBlock = some k → k < wr.heap.size := htwo5.dd.blk
        have hrv5 : ∀ k, rv.ownBlock = some k → k < wr.heap.size := htwo5.rd.blk
        have hd5 : d < wr.heap.size := lt_of_cell htwo5.dd.row
        obtain ⟨w5, hw5⟩ : ∃ w5, w5 = wr := ⟨_, rfl⟩
        rw [← hw5] at htwo5 t05 hdv5 hrv5 hd5 ⊢
        obtain ⟨w6, hw6⟩ : ∃ w6, w6 = w5.alloc (.cells #[.slice none 0 0, .slice none 0 0, .slice none 0 0, .slice none 0 0, .slice none 0 0, .slice none 0 0, .slice none 0 0, .slice none 0 0, .slice none 0 0, .slice none 0 0, .slice none 0 0, .slice none 0 0, .slice none 0 0, .slice none 0 0, .slice none 0 0, .slice none 0 0, .slice none 0 0, .slice none 0 0, .slice none 0 0] 55) := ⟨_, rfl⟩
        obtain ⟨bb, hbb⟩ : ∃ bb, bb = w5.heap.size := ⟨_, rfl⟩
        have hbag := bag_new (w := w5) (T := 55) _ rfl
        rw [← hw6, ← hbb] at hbag
        have t6 : Touch (fun _ => False) w5 w6 := by rw [hw6]; exact (Touch.refl _ _).alloc _
        have hin : In5 w w6 bb b rv d dv rs 0 0 0 := ⟨htwo5.touch t6 (fun h => h) (fun h => h) (fun _ _ h => h) (fun _ _ h => h), ⟨.slice none 0 0, [], hbag.1, hbag.2.1, by simp [Value.ownBlock], by simp, by simp⟩, hbag.2.2, t05.trans t6⟩
        have hbase : Base w bb b rv d dv := ⟨by omega, by omega, fun k hk => by have := hrv5 k hk; omega, fun k hk => by have := hdv5 k hk; omega, by omega, by omega⟩
        have HW6 : Hid (w6 = _) := hw6
        have HBB : Hid (bb = _) := hbb
        have hs6 : w5.heap.size < w6.heap.size := by rw [hw6]; simp
        clear hbag t6 htwo5 t05 hdv5 hrv5 hd5 htwo4 t04 tf hs4 hf hrvl hdv3 hbd hwb hdl4 hw6 hbb hs6 h0 hby hw5
        go_wp2
        rw [← HW6.out, ← HBB.out]
        clear HW6 HBB hk hlt
        go_loopw [10] (fun i wr => ∃ (k p : Nat) (err : Int), k ≤ len1 ∧ i = .int .i64 k ∧ In5 w wr bb b rv d dv rs k p err) (fun i _ => len1 - (intOf i).toNat)
        case atStart => exact ⟨0, 0, 0, Nat.zero_le _, rfl, hin⟩
        case round =>
          obtain ⟨k, p, err, hk, rfl, h5⟩ := hrel
          clear hin
          by_cases hlt : k < len1
          · obtain rfl := ha (by omega)
            have ho := (hops k hlt).keep h5.touch (fun _ _ h => h)
            have hc0 := ho.c0
            have hc1 := ho.c1
            have hnb := bounds_i64 ho.wn
            obtain ⟨what, hwh⟩ : ∃ what, what = (ops k).what := ⟨_, rfl⟩
            obtain ⟨n, hnn⟩ : ∃ n, n = (ops k).n := ⟨_, rfl⟩
            have HC : Hid (∀ W, Touch (fun _ => False) w W → W.cell? ⟨g, off + k * 5 + 1, none⟩ = some (.int .i64 n)) := by
              intro W t
              rw [hnn]
              exact ((hops k hlt).keep t (fun _ _ h => h)).c1
            rw [← hwh] at hc0
            rw [← hnn] at hc1 hnb
            clear ho hwh hnn hops
            have hlw := h5.lt
            have hgl := got_len rs p err n
            have hF2 : ∀ i, i < wr.heap.size → twoF b d i → i < bb ∧ w.heap.size ≤ i := by
              rintro i _ (e | e)
              · exact ⟨by have := hbase.b1; omega, by have := hbase.b0; omega⟩
              · exact ⟨by have := hbase.d1; omega, by have := hbase.d0; omega⟩
            have HF2 : Hid (∀ i, i < wr.heap.size → twoF b d i → i < bb ∧ w.heap.size ≤ i) := hF2
            have HB : Hid (Base w bb b rv d dv) := hbase
            have H5 : Hid (In5 w wr bb b rv d dv rs k p err) := h5
            clear hF2 hbase h5
            by_cases h1 : what = 1
            · subst h1
              obtain ⟨got, hgot⟩ : ∃ got, gotR rs p err n = got := ⟨_, rfl⟩
              obtain ⟨st, hst⟩ : ∃ st, stepR rs.length p err n = st := ⟨_, rfl⟩
              have hbyr := rbytes_all b p n err rv rs wr H5.out.two.rd hnb.2 (by omega)
              have hbyd := fun w1 hd => dbytes_all d p n err dv rs w1 hd hnb.2 (by omega)
              rw [hgot] at hgl
              rw [hgot, hst] at hbyr
              simp only [hgot, hst] at hbyd
              clear hgot hst
              go_wp2_with fail
              refine hbyr.mono ?_
              rintro e w1 ⟨v, rfl, hown, hr1, t1⟩
              obtain ⟨va, vc, rfl⟩ := own_form hown
              have T1 : Touch (fun _ => False) w w1 := H5.out.touch.trans' t1 (fun i hi e => by have := HB.out.b0; omega)
              have hc1' := HC.out w1 T1
              have hd1 := two_after b rv d dv rs p err wr H5.out.two w1 t1
              clear hbyr
              go_wp2_with fail
              refine (hbyd w1 hd1).mono ?_
              rintro e w2 ⟨v2, rfl, hown2, hd2, t2⟩
              obtain ⟨va2, vc2, rfl⟩ := own_form hown2
              obtain ⟨htwo2, tt2⟩ := two_number b rv d dv rs p err n wr H5.out.two w1 w2 _ _ hr1 t1 hd2 t2
              have hown' := own_touch hown t2 (fun kb hk e => by have h1 := (hown.lt kb hk).1; have h2 := HB.out.d1; omega)
              have hnew : ∀ kb, (Value.slice va got.length vc).ownBlock = some kb → wr.heap.size ≤ kb := fun kb hk => (hown.lt kb hk).1
              clear hbyd hd1 hc1' hown hr1 hd2 t1 t2 T1
              go_wp2_with fail
              refine (eq_true _ _ got w2 (own_rowAt hown') (own_rowAt hown2).arg).mono ?_
              rintro e w' ⟨rfl, n3, rfl⟩
              have htwo3 := htwo2.touch ((Touch.refl (fun _ => False) w2).drewN n3) (fun h => h) (fun h => h) (fun _ _ h => h) (fun _ _ h => h)
              have hown3 := own_base (base' := 0) (own_touch hown' ((Touch.refl (fun _ => False) w2).drewN n3) (fun _ _ h => h)) (fun _ _ => Nat.zero_le _)
              have tt3 := tt2.drewN n3
              clear hown2 hown' htwo2 tt2
              go_wp2_with fail
              refine (H5.out.add HB.out tt3 HF2.out htwo3 (by omega) _ got hown3 (by omega) hnew).mono ?_
              rintro e w4 ⟨rfl, h6⟩
              clear htwo3 hown3 tt3 hnew
              go_wp2_with fail
              refine (alike_any b _ _ rv rs d dv w4 h6.two.rd h6.two.dd).mono ?_
              rintro e w' ⟨rfl, n5, rfl⟩
              have h7 := h6.drew n5
              clear h6 H5 HF2 HC hc0 hc1
              go_wp2
              go_roundw
              case rel => exact ⟨k + 1, _, _, by omega, by go_num, h7⟩
              case measure => simp [intOf] <;> omega
            · by_cases h2 : what = 2
              · subst h2
                obtain ⟨got, hgot⟩ : ∃ got, gotR rs p err n = got := ⟨_, rfl⟩
                obtain ⟨st, hst⟩ : ∃ st, stepR rs.length p err n = st := ⟨_, rfl⟩
                have hbyr := rpart_all b p n err rv rs wr H5.out.two.rd hnb.2
                have hbyd := fun w1 hd => dpart_all d p n err dv rs w1 hd hnb.2 (by omega)
                rw [hgot] at hgl
                rw [hgot, hst] at hbyr
                simp only [hgot, hst] at hbyd
                clear hgot hst
                go_wp2_with fail
                refine hbyr.mono ?_
                rintro e w1 ⟨sv, rfl, hp1, hsv, hr1, t1⟩
                have T1 : Touch (fun _ => False) w w1 := H5.out.touch.trans' t1 (fun i hi e => by have := HB.out.b0; omega)
                have hc1' := HC.out w1 T1
                have hd1 := two_after b rv d dv rs p err wr H5.out.two w1 t1
                clear hbyr
                go_wp2_with fail
                refine (hbyd w1 hd1).mono ?_
                rintro e w2 ⟨q, qv, rfl, hq, hdq, hqv, hd2, t2⟩
                obtain ⟨htwo2, tt2⟩ := two_number b rv d dv rs p err n wr H5.out.two w1 w2 _ _ hr1 t1 hd2 t2
                have hpl := lt_of_cell hp1.made
                have hdlt : d < wr.heap.size := by have := HB.out.d1; omega
                have hpq : Two w2 wr.heap.size sv q qv got 0 st.2.1 := ⟨hp1.touch t2 (by omega) (fun kb hk e => by
                    rcases hsv with h | h
                    · rw [h] at hk; simp at hk
                    · rw [h] at hk; exact H5.out.two.nr (by rw [hk, e])), hdq, by omega, fun e => by have := hp1.blk _ e; omega, fun e => by have := hqv _ e; omega⟩
                clear hbyd hd1 hc1' hp1 hr1 hd2 t1 t2 T1 hdq
                go_wp2_with fail
                refine (alike_any _ _ _ sv got q qv w2 hpq.rd hpq.dd).mono ?_
                rintro e w' ⟨rfl, n3, rfl⟩
                have hpq3 := hpq.touch ((Touch.refl (fun _ => False) w2).drewN n3) (fun h => h) (fun h => h) (fun _ _ h => h) (fun _ _ h => h)
                have htwo3 := htwo2.touch ((Touch.refl (fun _ => False) w2).drewN n3) (fun h => h) (fun h => h) (fun _ _ h => h) (fun _ _ h => h)
                have tt3 := tt2.drewN n3
                clear hpq htwo2 tt2
                go_wp2_with fail
                refine (part_any _ sv q qv got 0 _ (w2.drewN n3) hpq3).mono ?_
                rintro e w4 ⟨rfl, t4⟩
                have hold : ∀ i, i < bb → ¬ twoF wr.heap.size q i := by
                  rintro i hi (e | e) <;> omega
                have htwo4 := htwo3.touch t4 (hold _ HB.out.b1) (hold _ HB.out.d1) (fun i hi => hold i (HB.out.r1 i hi)) (fun i hi => hold i (HB.out.v1 i hi))
                have tt4 : Touch (twoF b d) wr w4 := tt3.trans' t4 (fun i hi f => by rcases f with f | f <;> omega)
                have h6 := (H5.out.step tt4 HF2.out htwo4).mono (Nat.le_succ k)
                clear hpq3 htwo3 tt3 t4 hold htwo4 tt4
                go_wp2_with fail
                refine (alike_any b _ _ rv rs d dv w4 h6.two.rd h6.two.dd).mono ?_
                rintro e w' ⟨rfl, n5, rfl⟩
                have h7 := h6.drew n5
                clear h6 H5 HF2 HC hc0 hc1
                go_wp2
                go_roundw
                case rel => exact ⟨k + 1, _, _, by omega, by go_num, h7⟩
                case measure => simp [intOf] <;> omega
              · have h1' : (what == 1) = false := by simpa using h1
                have h2' : (what == 2) = false := by simpa using h2
                obtain ⟨x, hx⟩ : ∃ x, numVal (gotN rs p err n) = x := ⟨_, rfl⟩
                obtain ⟨st, hst⟩ : ∃ st, stepN rs.length p err n = st := ⟨_, rfl⟩
                have hbyr := rnumber_all b p n err rv rs wr.drew (H5.out.drew 1).two.rd
                have hbyd := fun w1 hd => dnumber_all d p n err dv rs w1 hd hnb.2
                rw [hx, hst] at hbyr
                simp only [hx, hst] at hbyd
                clear hx hst
                go_wp2_with fail
                go_region_held3 (fun w' => w'.cell? ⟨g, off + k * 5 + 1, none⟩ = some (.int .i64 n)) (go_keep) (first | (go_at_call 19; refine hbyr.mono ?_; rintro e w1 ⟨rfl, hr1, t1, hz1⟩; have hcy := HC.out w1 ((H5.out.drew 1).touch.trans' t1 (fun i hi e => by have := HB.out.b0; omega))) | (go_at_call 20; refine (hbyd w1 (two_after b rv d dv rs p err wr.drew (H5.out.drew 1).two w1 t1)).mono ?_; rintro e w2 ⟨rfl, hd2, t2, hz2⟩; have hcz := HC.out w2 (((H5.out.drew 1).touch.trans' t1 (fun i hi e => by have := HB.out.b0; omega)).trans' t2 (fun i hi e => by have := HB.out.d0; omega))))
                obtain ⟨htwo2, tt2⟩ := two_number b rv d dv rs p err n wr.drew (H5.out.drew 1).two w1 w2 _ _ hr1 t1 hd2 t2
                have h6 := ((H5.out.drew 1).step tt2 HF2.out htwo2).mono (Nat.le_succ k)
                clear hbyr hbyd hr1 hd2 t1 t2 hz1 hz2 htwo2 tt2 hcy hcz
                go_wp2_with fail
                refine (alike_any b _ _ rv rs d dv w2 h6.two.rd h6.two.dd).mono ?_
                rintro e w' ⟨rfl, n5, rfl⟩
                have h7 := h6.drew n5
                clear h6 H5 HF2 HC hc0 hc1
                go_wp2
                go_roundw
                case rel => exact ⟨k + 1, _, _, by omega, by go_num, h7⟩
                case measure => simp [intOf] <;> omega
          · obtain rfl : k = len1 := by omega
            obtain ⟨gv, vs, hb, hf, hg, hvs, hk'⟩ := h5.own
            go_wp2_with fail
            refine (Apart_any bb gv vs wr hb h5.none_).mono ?_
            rintro e w1 ⟨rfl, t1⟩
            have hold : ∀ i, i < bb → ¬ bagF vs i := by
              rintro i hi ⟨m, v, hm, hv⟩
              have := hvs m v i hm hv
              omega
            have htwo1 := h5.two.touch t1 (hold _ hbase.b1) (hold _ hbase.d1) (fun i hi => hold i (hbase.r1 i hi)) (fun i hi => hold i (hbase.v1 i hi))
            have T1 : Touch (fun _ => False) w w1 := h5.touch.trans' t1 (fun i hi f => by obtain ⟨m, v, hm, hv⟩ := f; have := hvs m v i hm hv; have := hbase.b0; have := hbase.b1; omega)
            clear hb hf hg hvs hk' t1 hold hops
            go_wp2_with fail
            refine (alike_any b _ _ rv rs d dv w1 htwo1.rd htwo1.dd).mono ?_
            rintro e w' ⟨rfl, n3, rfl⟩
            go_wp2_with fail
            refine (lives_any _).mono ?_
            rintro e w' ⟨rfl, tl⟩
            go_wp2
            go_ret
            exact ⟨rfl, ((T1.drewN n3).trans tl).below (Nat.le_refl _) (fun _ _ h => h)⟩
  · go_wp2_with fail
    refine (lives_any _).mono ?_
    rintro e w' ⟨rfl, tl⟩
    go_wp2
    go_ret
    exact ⟨rfl, tl.below (Nat.le_refl _) (fun _ _ h => h)⟩
end Go.Proofs.YtcpagamkpmmgpaaDoor
