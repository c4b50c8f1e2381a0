/- Contracts of WideBytes, EqBytes, SpareBytes. -/
import Derived.Test.YtjgeklipeeooaaaGreatDoorReader
import Derived.Test.YtjgeklipeeooaaaGreatDoorStRd2
import Derived.Test.YtjgeklipeeooaaaGreatDoorStRead2
namespace Go.Proofs.YtjgeklipeeooaaaGreatDoor
open Go.RowKit
set_option linter.unusedVariables false
set_option maxRecDepth 100000

/-- The marks behind a list. -/
def spareMarks (n : Nat) : List Int := (List.range 64).map (fun i => (279 + 7 * ((n + i : Nat) : Int) + 3) % 256)
theorem length_spareMarks (n : Nat) : (spareMarks n).length = 64 := by simp [spareMarks]
theorem spareMarks_at (n i : Nat) (h : i < 64) : (spareMarks n)[i]? = some ((279 + 7 * ((n + i : Nat) : Int) + 3) % 256) := by simp [spareMarks, h]


/-- The list as far as it is laid. -/
def laying (T : List Int) (k : Nat) : List Int := T.take k ++ List.replicate (T.length - k) 0
theorem length_laying (T : List Int) (k : Nat) : (laying T k).length = T.length := by simp [laying]; omega
theorem laying_zero (T : List Int) : laying T 0 = List.replicate T.length 0 := by simp [laying]
theorem laying_all (T : List Int) : laying T T.length = T := by simp [laying]
theorem laying_get (T : List Int) (k i : Nat) (hk : k ≤ T.length) : (laying T k)[i]? = if i < T.length then some (if i < k then T.getD i 0 else 0) else none := by
  unfold laying
  by_cases h : i < k
  · rw [List.getElem?_append_left (by simp; omega), List.getElem?_take, if_pos h, if_pos (by omega), if_pos h, List.getElem?_eq_getElem (by omega)]
    simp [List.getD, show i < T.length by omega]
  · rw [List.getElem?_append_right (by simp; omega), List.getElem?_replicate]
    simp only [List.length_take, Nat.min_eq_left hk, if_neg h]
    by_cases h2 : i < T.length
    · rw [if_pos (by omega), if_pos h2]
    · rw [if_neg (by omega), if_neg h2]
theorem laying_step (T : List Int) (k : Nat) (h : k < T.length) : (laying T k).set k (T.getD k 0) = laying T (k + 1) := by
  apply List.ext_getElem?
  intro i
  rw [List.getElem?_set, laying_get T k i (by omega), laying_get T (k + 1) i (by omega), length_laying]
  by_cases h1 : k = i
  · subst h1
    simp [h]
  · rw [if_neg h1]
    by_cases h2 : i < T.length
    · rw [if_pos h2, if_pos h2]
      by_cases h3 : i < k
      · rw [if_pos h3, if_pos (by omega)]
      · rw [if_neg h3, if_neg (by omega)]
    · rw [if_neg h2, if_neg h2]

theorem own_whole {w : World} {base g n : Nat} {xs : List Value} (h : w.ownsRow base 5 1 (.slice (some ⟨g, 0, none⟩) n n) n xs) : w.heap[g]? = some (.cells xs.toArray 5 (0, 0)) := by
  rcases h.2 with ⟨h, _⟩ | ⟨g', cap, cur, hv, hb, hg, hnc, hcm, hcs, htake⟩
  · simp at h
  · simp at hv
    obtain ⟨rfl, rfl⟩ := hv
    rw [hg, ← htake, List.take_of_length_le (by simp; omega)]

theorem made_bytes (n : Nat) : (madeCells #[Value.int IntKind.u8 0] n).toList = bytesOf (List.replicate n 0) := by
  rw [toList_madeCells_one]
  simp [bytesOf]

theorem wide_any (v : Value) (rs : List Int) (w : World) (h : ArgAt w v rs) (hby : ∀ x ∈ rs, 0 ≤ x ∧ x < 256) (hcap : rs.length ≤ 1099511627776) :
    Calls Tryz.prog 16 #[v] w fun e w' => e = .returned (.slice (some ⟨w.heap.size, 0, none⟩) rs.length (rs.length + 64)) ∧
      w'.heap[w.heap.size]? = some (.cells (bytesOf (rs ++ spareMarks rs.length)).toArray 5 (0, 0)) ∧ Touch (fun _ => False) w w' := by
  obtain ⟨i0, hi, hz0, hz1, hz2⟩ := info_parts Tryz.info5w
  obtain ⟨aa, ca, rfl, hm⟩ := h.form
  unfold maxLen at hm
  obtain ⟨T, hT⟩ : ∃ T, T = rs ++ spareMarks rs.length := ⟨_, rfl⟩
  have hTl : T.length = rs.length + 64 := by rw [hT]; simp [length_spareMarks]
  have HT : Hid (T = rs ++ spareMarks rs.length) := hT
  rw [← hT]
  clear hT
  have hn0 : (0 : Int) ≤ (rs.length : Int) + 64 := by omega
  go_enter Tryz.func16, Tryz.ntmps16
  go_wp2_with (at_make; refine wpList_make_full _ rfl (.tmp 7) (.tmp 7) 40 rfl w.heap.size 5 i0 (.int .u8 0) 1 Tryz.underlying40 hi hz0 hz1 .i64 .i64 _ _ (rs.length + 64) rfl rfl ?c1 ?c2 ?c3 ?c4 ?c5 ?_)
  case c1 => omega
  case c2 => omega
  case c3 => rw [hz2]; omega
  case c4 => unfold maxLen; omega
  case c5 => exact Nat.le_refl _
  intro w1 hown hgrow
  have t1 : Touch (fun _ => False) w w1 := (Touch.refl _ w).grown hgrow (by simp)
  rw [made_bytes, ← hTl, ← laying_zero, hTl] at hown
  clear hgrow
  go_wp2
  go_loopw [4] (fun i wr => ∃ k : Nat, k ≤ rs.length + 64 ∧ i = .int .i64 k ∧ wr.ownsRow w.heap.size 5 1 (.slice (some ⟨w.heap.size, 0, none⟩) (rs.length + 64) (rs.length + 64)) (rs.length + 64) (bytesOf (laying T k)) ∧ Touch (fun _ => False) w wr) (fun i _ => rs.length + 64 - (intOf i).toNat)
  case atStart => exact ⟨0, Nat.zero_le _, rfl, hown, t1⟩
  case round =>
    obtain ⟨k, hk, rfl, hownk, tk⟩ := hrel
    by_cases hlt : k < rs.length + 64
    · have hfz := hownk.frozenAt k
      have hcell : wr.cell? ⟨w.heap.size, k, none⟩ = some (.int .u8 0) := by
        rw [hownk.cellAt k (by omega)]
        simp only [bytesOf, List.getElem?_map]
        rw [laying_get T k k (by omega), if_pos (by omega), if_neg (by omega)]
        rfl
      have HO : Hid (∀ u, (wr.setCell ⟨w.heap.size, k, none⟩ u).ownsRow w.heap.size 5 1 (.slice (some ⟨w.heap.size, 0, none⟩) (rs.length + 64) (rs.length + 64)) (rs.length + 64) ((bytesOf (laying T k)).set k u)) := fun u => (hownk.stored k u).1
      by_cases hl : k < rs.length
      · have h := h.row (by omega)
        obtain ⟨ga, oa, rfl⟩ := rowAt_some h (by omega)
        have hcx := tk.cellN (rowAt_cell h k hl)
        have HX : Hid (T.getD k 0 = rs.getD k 0) := by show _ = _; rw [HT.out]; simp [List.getD, List.getElem?_append_left hl]
        obtain ⟨z, hz⟩ : ∃ z, z = rs.getD k 0 := ⟨_, rfl⟩
        rw [← hz] at hcx HX
        clear hz h hown t1 hownk
        go_wp2
        go_roundw
        case rel => exact ⟨k + 1, by omega, by go_num, by rw [← laying_step T k (by omega), bytesOf_set, HX.out]; exact HO.out _, Touch.setCell (p := ⟨w.heap.size, k, none⟩) tk (Or.inr (Nat.le_refl _)) _⟩
        case measure => simp [intOf]; omega
      · have HX : Hid (T.getD k 0 = (279 + 7 * (k : Int) + 3) % 256) := by
          show _ = _
          rw [HT.out]
          simp only [List.getD]
          rw [List.getElem?_append_right (by omega), spareMarks_at _ _ (by omega)]
          simp only [Option.getD_some]
          rw [show rs.length + (k - rs.length) = k from by omega]
        clear h hown t1 hownk
        go_wp2
        go_roundw
        case rel => exact ⟨k + 1, by omega, by go_num, by rw [← laying_step T k (by omega), bytesOf_set, HX.out]; exact HO.out _, Touch.setCell (p := ⟨w.heap.size, k, none⟩) tk (Or.inr (Nat.le_refl _)) _⟩
        case measure => simp [intOf]; omega
    · obtain rfl : k = rs.length + 64 := by omega
      go_wp2
      go_ret
      refine ⟨rfl, ?_, tk⟩
      have := own_whole hownk
      rwa [← hTl, laying_all] at this

theorem spare_any (g : Nat) (rs : List Int) (w : World) (h : w.heap[g]? = some (.cells (bytesOf (rs ++ spareMarks rs.length)).toArray 5 (0, 0))) (hcap : rs.length ≤ 1099511627776) :
    Calls Tryz.prog 25 #[.slice (some ⟨g, 0, none⟩) rs.length (rs.length + 64)] w fun e w' => e = .returned (.bool true) ∧ w = w' := by
  have hc : ∀ i, rs.length ≤ i → i < rs.length + 64 → w.cell? ⟨g, i, none⟩ = some (.int .u8 ((279 + 7 * (i : Int) + 3) % 256)) := by
    intro i h1 h2
    simp only [World.cell?, h]
    simp only [List.getElem?_toArray, bytesOf, List.getElem?_map]
    rw [List.getElem?_append_right h1, spareMarks_at _ _ (by omega), show rs.length + (i - rs.length) = i from by omega]
    rfl
  clear h
  go_enter Tryz.func25, Tryz.ntmps25
  go_wp2
  go_loop [4] (fun i => ∃ k : Nat, rs.length ≤ k ∧ k ≤ rs.length + 64 ∧ i = .int .i64 k) (fun i => rs.length + 64 - (intOf i).toNat)
  case atStart => exact ⟨rs.length, Nat.le_refl _, by omega, rfl⟩
  case round =>
    obtain ⟨k, hk0, hk, rfl⟩ := hrel
    by_cases hlt : k < rs.length + 64
    · have hcx := hc k hk0 hlt
      clear hc
      go_wp2
      go_round
      case rel => exact ⟨k + 1, by omega, by omega, by go_num⟩
      case measure => simp [intOf]; omega
    · go_wp2
      go_ret
      exact ⟨rfl, rfl⟩
end Go.Proofs.YtjgeklipeeooaaaGreatDoor

namespace Go.Proofs.YtjgeklipeeooaaaGreatDoor
open Go.RowKit
set_option linter.unusedVariables false
set_option maxRecDepth 100000

set_option maxHeartbeats 1000000 in
theorem wstate_any (h : HV) (v : Value) (rs : List Int) (w : World) (hv : ArgAt w v rs) (hby : ∀ x ∈ rs, 0 ≤ x ∧ x < 256) (hl : rs.length ≤ 1000000) : Calls Tryz.prog 88 #[h.sv v] w fun e w' => e = .returned (h.sv (.slice (some ⟨w.heap.size + 2, 0, none⟩) rs.length (rs.length + 64))) ∧ w'.heap[w.heap.size + 2]? = some (.cells (bytesOf (rs ++ spareMarks rs.length)).toArray 5 (0, 0)) ∧ Touch (fun _ => False) w w' := by
  obtain ⟨a, c, rfl, hm⟩ := hv.form
  have HC := fun w h => wide_any (.slice a rs.length c) rs w h hby (by omega)
  have HV' : Hid (ArgAt w (.slice a rs.length c) rs) := hv
  clear hv hby
  show Calls Tryz.prog 88 #[.agg #[.int .u16 h.age, .int .u8 h.opts, .int .u8 h.typ, .int .u32 h.id, .int .u32 h.adv, .int .i32 h.seq, .int .u16 h.sum, .int .u16 h.len, .slice a rs.length c]] w _
  go_enter Tryz.func88, Tryz.ntmps88
  go_wp2_with fail
  refine Calls.mono (HC _ (HV'.out.keepN (((Touch.refl _ _).alloc _).alloc _))) ?_
  rintro e w1 ⟨rfl, hb1, t1⟩
  have hsz : ((w.alloc (.cells #[.int .u16 h.age, .int .u8 h.opts, .int .u8 h.typ, .int .u32 h.id, .int .u32 h.adv, .int .i32 h.seq, .int .u16 h.sum, .int .u16 h.len, .slice a rs.length c] 95)).alloc (.cells #[.int .u16 0, .int .u8 0, .int .u8 0, .int .u32 0, .int .u32 0, .int .i32 0, .int .u16 0, .int .u16 0, .slice none 0 0] 95)).heap.size = w.heap.size + 2 := by simp
  rw [hsz] at hb1
  simp only [hsz]
  obtain ⟨gw, hgw⟩ : ∃ gw, gw = w.heap.size + 2 := ⟨_, rfl⟩
  rw [← hgw] at hb1 ⊢
  clear hsz
  have O1 : Out w1 w.heap.size h (.slice a rs.length c) := ((Out.new w h (.slice a rs.length c) 95).keep ((Touch.refl _ _).alloc _)).keep t1
  have O2 : Hid (Out (w1.setCell ⟨w.heap.size, 8, none⟩ (.slice (some ⟨gw, 0, none⟩) rs.length (rs.length + 64))) w.heap.size h (.slice (some ⟨gw, 0, none⟩) rs.length (rs.length + 64))) := O1.set8 _
  have R1 : Room w1 (w.heap.size + 1) 9 := by
    have := (Room.new (w.alloc (.cells #[.int .u16 h.age, .int .u8 h.opts, .int .u8 h.typ, .int .u32 h.id, .int .u32 h.adv, .int .i32 h.seq, .int .u16 h.sum, .int .u16 h.len, .slice a rs.length c] 95)) #[.int .u16 0, .int .u8 0, .int .u8 0, .int .u32 0, .int .u32 0, .int .i32 0, .int .u16 0, .int .u16 0, .slice none 0 0] 95).keep t1
    simpa using this
  have U2 : Touch (fun k => k = w.heap.size) w1 (w1.setCell ⟨w.heap.size, 8, none⟩ (.slice (some ⟨gw, 0, none⟩) rs.length (rs.length + 64))) := Touch.setCell (F := fun k => k = w.heap.size) (p := ⟨w.heap.size, 8, none⟩) (Touch.refl _ _) (Or.inl rfl) _
  have R2 : Hid (Room (w1.setCell ⟨w.heap.size, 8, none⟩ (.slice (some ⟨gw, 0, none⟩) rs.length (rs.length + 64))) (w.heap.size + 1) 9) := R1.touch U2 (by show ¬ w.heap.size + 1 = w.heap.size; omega)
  have B2 : Hid ((w1.setCell ⟨w.heap.size, 8, none⟩ (.slice (some ⟨gw, 0, none⟩) rs.length (rs.length + 64))).heap[gw]? = some (.cells (bytesOf (rs ++ spareMarks rs.length)).toArray 5 (0, 0))) := (U2.block gw (lt_of_heap hb1) (by show ¬ gw = w.heap.size; omega)).trans hb1
  have T2 : Hid (Touch (fun _ => False) w (w1.setCell ⟨w.heap.size, 8, none⟩ (.slice (some ⟨gw, 0, none⟩) rs.length (rs.length + 64)))) := ((((Touch.refl _ w).alloc _).alloc _).trans t1).setCell (Or.inr (Nat.le_refl _)) _
  obtain ⟨⟨⟨s0, s1, s2, s3, s4, s5, s6, s7⟩, s8⟩, f6, f7, f8⟩ := O1.fits
  have HGW : Hid (gw = w.heap.size + 2) := hgw
  clear hb1 t1 O1 R1 U2 HC hgw
  go_upto_region 2 with fail
  clear s0 s1 s2 s3 s4 s5 s6 s7 s8 f6 f7 f8
  have hne : ¬ w.heap.size = w.heap.size + 1 := by omega
  have hne' : ¬ w.heap.size + 1 = w.heap.size := by omega
  generalize w1.setCell ⟨w.heap.size, 8, none⟩ (.slice (some ⟨gw, 0, none⟩) rs.length (rs.length + 64)) = w2 at *
  obtain ⟨⟨⟨s0, s1, s2, s3, s4, s5, s6, s7⟩, s8⟩, -⟩ := O2.out.fits
  generalize hg : w.heap.size + 1 = g at *
  have HG : Hid (w.heap.size + 1 = g) := hg
  clear hg
  obtain ⟨zz0, zc0, zf0⟩ := R2.out 0 (by omega)
  obtain ⟨zz1, zc1, zf1⟩ := R2.out 1 (by omega)
  obtain ⟨zz2, zc2, zf2⟩ := R2.out 2 (by omega)
  obtain ⟨zz3, zc3, zf3⟩ := R2.out 3 (by omega)
  obtain ⟨zz4, zc4, zf4⟩ := R2.out 4 (by omega)
  obtain ⟨zz5, zc5, zf5⟩ := R2.out 5 (by omega)
  obtain ⟨zz6, zc6, zf6⟩ := R2.out 6 (by omega)
  obtain ⟨zz7, zc7, zf7⟩ := R2.out 7 (by omega)
  obtain ⟨zz8, zc8, zf8⟩ := R2.out 8 (by omega)
  obtain ⟨wz, hwz⟩ : ∃ wz, wz = (((((((((w2.setCell ⟨g, 0, none⟩ (.int .u16 h.age)).setCell ⟨g, 1, none⟩ (.int .u8 h.opts)).setCell ⟨g, 2, none⟩ (.int .u8 h.typ)).setCell ⟨g, 3, none⟩ (.int .u32 h.id)).setCell ⟨g, 4, none⟩ (.int .u32 h.adv)).setCell ⟨g, 5, none⟩ (.int .i32 h.seq)).setCell ⟨g, 6, none⟩ (.int .u16 h.sum)).setCell ⟨g, 7, none⟩ (.int .u16 h.len)).setCell ⟨g, 8, none⟩ (.slice (some ⟨gw, 0, none⟩) rs.length (rs.length + 64))) := ⟨_, rfl⟩
  have zd0 : wz.cell? ⟨g, 0, none⟩ = some (.int .u16 h.age) := by rw [hwz]; simp [zc0, go_sem]
  have zd1 : wz.cell? ⟨g, 1, none⟩ = some (.int .u8 h.opts) := by rw [hwz]; simp [zc1, go_sem]
  have zd2 : wz.cell? ⟨g, 2, none⟩ = some (.int .u8 h.typ) := by rw [hwz]; simp [zc2, go_sem]
  have zd3 : wz.cell? ⟨g, 3, none⟩ = some (.int .u32 h.id) := by rw [hwz]; simp [zc3, go_sem]
  have zd4 : wz.cell? ⟨g, 4, none⟩ = some (.int .u32 h.adv) := by rw [hwz]; simp [zc4, go_sem]
  have zd5 : wz.cell? ⟨g, 5, none⟩ = some (.int .i32 h.seq) := by rw [hwz]; simp [zc5, go_sem]
  have zd6 : wz.cell? ⟨g, 6, none⟩ = some (.int .u16 h.sum) := by rw [hwz]; simp [zc6, go_sem]
  have zd7 : wz.cell? ⟨g, 7, none⟩ = some (.int .u16 h.len) := by rw [hwz]; simp [zc7, go_sem]
  have zd8 : wz.cell? ⟨g, 8, none⟩ = some (.slice (some ⟨gw, 0, none⟩) rs.length (rs.length + 64)) := by rw [hwz]; simp [zc8, go_sem]
  have HUz : Hid (Touch (fun k => k = g) w2 wz) := by show Touch _ _ _; rw [hwz]; refine Touch.setCell (F := fun k => k = g) (p := ⟨g, 8, none⟩) ?_ (Or.inl rfl) _; refine Touch.setCell (F := fun k => k = g) (p := ⟨g, 7, none⟩) ?_ (Or.inl rfl) _; refine Touch.setCell (F := fun k => k = g) (p := ⟨g, 6, none⟩) ?_ (Or.inl rfl) _; refine Touch.setCell (F := fun k => k = g) (p := ⟨g, 5, none⟩) ?_ (Or.inl rfl) _; refine Touch.setCell (F := fun k => k = g) (p := ⟨g, 4, none⟩) ?_ (Or.inl rfl) _; refine Touch.setCell (F := fun k => k = g) (p := ⟨g, 3, none⟩) ?_ (Or.inl rfl) _; refine Touch.setCell (F := fun k => k = g) (p := ⟨g, 2, none⟩) ?_ (Or.inl rfl) _; refine Touch.setCell (F := fun k => k = g) (p := ⟨g, 1, none⟩) ?_ (Or.inl rfl) _; refine Touch.setCell (F := fun k => k = g) (p := ⟨g, 0, none⟩) ?_ (Or.inl rfl) _; exact Touch.refl _ _
  have HWz : Hid (wz = (((((((((w2.setCell ⟨g, 0, none⟩ (.int .u16 h.age)).setCell ⟨g, 1, none⟩ (.int .u8 h.opts)).setCell ⟨g, 2, none⟩ (.int .u8 h.typ)).setCell ⟨g, 3, none⟩ (.int .u32 h.id)).setCell ⟨g, 4, none⟩ (.int .u32 h.adv)).setCell ⟨g, 5, none⟩ (.int .i32 h.seq)).setCell ⟨g, 6, none⟩ (.int .u16 h.sum)).setCell ⟨g, 7, none⟩ (.int .u16 h.len)).setCell ⟨g, 8, none⟩ (.slice (some ⟨gw, 0, none⟩) rs.length (rs.length + 64)))) := hwz
  clear hwz
  go_wp2_with fail
  rw [← HWz.out]
  clear HWz zc0 zf0 zc1 zf1 zc2 zf2 zc3 zf3 zc4 zf4 zc5 zf5 zc6 zf6 zc7 zf7 zc8 zf8
  refine bodyPost_ret (v := .agg #[.int .u16 h.age, .int .u8 h.opts, .int .u8 h.typ, .int .u32 h.id, .int .u32 h.adv, .int .i32 h.seq, .int .u16 h.sum, .int .u16 h.len, .slice (some ⟨gw, 0, none⟩) rs.length (rs.length + 64)]) (by simp [results, Tryz.results88, go_sem, zd0, zd1, zd2, zd3, zd4, zd5, zd6, zd7, zd8]) rfl ?_
  have e := HGW.out
  rw [← e]
  exact ⟨rfl, (HUz.out.block gw (lt_of_heap B2.out) (by have := HG.out; show ¬ gw = g; omega)).trans B2.out, T2.out.trans' HUz.out (fun i hi e => by have := HG.out; omega)⟩

theorem sstate_any (h : HV) (g : Nat) (rs : List Int) (w : World) (hb : w.heap[g]? = some (.cells (bytesOf (rs ++ spareMarks rs.length)).toArray 5 (0, 0))) (hcap : rs.length ≤ 1000000) :
    Calls Tryz.prog 108 #[.agg #[.int .u16 h.age, .int .u8 h.opts, .int .u8 h.typ, .int .u32 h.id, .int .u32 h.adv, .int .i32 h.seq, .int .u16 h.sum, .int .u16 h.len, .slice (some ⟨g, 0, none⟩) rs.length (rs.length + 64)]] w fun e w' => e = .returned (.bool true) ∧ Touch (fun _ => False) w w' := by
  have HS := fun o => spare_any g rs (w.alloc o) (((Touch.refl (fun _ => False) w).alloc o).heapN hb) (by omega)
  clear hb
  go_enter Tryz.func108, Tryz.ntmps108
  go_wp2_with fail
  refine Calls.mono (HS _) ?_
  rintro e w1 ⟨rfl, rfl⟩
  go_wp2
  go_ret
  exact ⟨rfl, (Touch.refl _ w).alloc _⟩
end Go.Proofs.YtjgeklipeeooaaaGreatDoor
