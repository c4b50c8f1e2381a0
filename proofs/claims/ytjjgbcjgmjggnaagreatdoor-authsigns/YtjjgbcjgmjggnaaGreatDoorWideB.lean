/- Arguments: a list of bytes that came in. -/
import Derived.Test.YtjjgbcjgmjggnaaGreatDoorParts
import Derived.Deep.Slices
import Derived.SizedLaws
import Derived.OpenShut
namespace Go.Proofs.YtjjgbcjgmjggnaaGreatDoor
open Go.RowKit Go.ChangeShapes Go.WideShapes Go.ChangeAt
set_option linter.unusedVariables false
set_option maxRecDepth 100000

/-- A slice that came in reads as rs; of the address of one without cells nothing is known. -/
def ArgAt (w : World) (v : Value) (rs : List Int) : Prop :=
  (v = .slice none 0 0 ∧ rs = []) ∨ ∃ ad c, v = .slice (some ad) rs.length c ∧ rs.length ≤ c ∧ c ≤ maxLen ∧ ∀ j u, (bytesOf rs)[j]? = some u → w.cell? (ad.add j) = some u

theorem RowAt.arg {w : World} {v : Value} {rs : List Int} (h : RowAt w v rs) : ArgAt w v rs := by
  rcases h with h | ⟨g, off, c, rfl, h1, h2, h3⟩
  · exact Or.inl h
  · exact Or.inr ⟨_, c, rfl, h1, h2, fun j u hj => by rw [add_plain]; exact h3 j u hj⟩
theorem ArgAt.form {w : World} {v : Value} {rs : List Int} (h : ArgAt w v rs) : ∃ a c, v = .slice a rs.length c ∧ rs.length ≤ maxLen := by
  rcases h with ⟨rfl, rfl⟩ | ⟨ad, c, rfl, h1, h2, h3⟩
  · exact ⟨_, _, rfl, Nat.zero_le _⟩
  · exact ⟨_, _, rfl, Nat.le_trans h1 h2⟩
theorem ArgAt.row {w : World} {v : Value} {rs : List Int} (h : ArgAt w v rs) (hp : 0 < rs.length) : RowAt w v rs := by
  rcases h with ⟨rfl, rfl⟩ | ⟨ad, c, rfl, h1, h2, h3⟩
  · exact Or.inl ⟨rfl, rfl⟩
  · obtain ⟨g, off, spot⟩ := ad
    have hc := h3 0 (.int .u8 rs[0]) (by simp [bytesOf, hp])
    have hspot : spot = none := by simpa [Addr.add] using World.cell?_spot hc
    subst hspot
    exact Or.inr ⟨g, off, c, rfl, h1, h2, fun j u hj => by have := h3 j u hj; rwa [add_plain] at this⟩
theorem add_block (ad : Addr) (j : Nat) : (ad.add j).block = ad.block := by by_cases h : j = 0 <;> simp [Addr.add, h]
theorem ArgAt.keep {F : Nat → Prop} {w w' : World} {v : Value} {rs : List Int} (h : ArgAt w v rs) (t : Touch F w w') (hF : ∀ k, k < w.heap.size → ¬ F k) : ArgAt w' v rs := by
  rcases h with h | ⟨ad, c, rfl, h1, h2, h3⟩
  · exact Or.inl h
  · refine Or.inr ⟨ad, c, rfl, h1, h2, fun j u hj => ?_⟩
    have hc := h3 j u hj
    exact (t.cell (lt_of_cellA hc) (hF _ (lt_of_cellA hc))).trans hc

section
variable {H : Type} {enc : TypeId × Value → H} {w : World} {base : Nat} {held : Bool}

theorem open_bytes {fuel : Nat} {a : Option Addr} {len cap : Nat} {x : DataW H × List MemPlace} (h : DataW.trod enc Tryz.prog w base (fun _ => true) held fuel 22 [.slice a len cap] = some x) :
    ∃ rs : List Int, rs.length = len ∧ ArgAt w (.slice a len cap) rs ∧ (∀ z ∈ rs, 0 ≤ z ∧ z < 256) ∧ (x.1 = .nil ∧ len = 0 ∨ ∃ el sp, x.1 = .slice el sp ∧ el.length = len) := by
  rcases open_ints Tryz.underlying22 Tryz.underlying5 (by kernel_rfl) h with ⟨hcs, hx⟩ | ⟨ad, l, c, zs, hcs, _, hl, hm, hz, hx, hcell, hwz⟩
  · simp at hcs
    obtain ⟨rfl, rfl, rfl⟩ := hcs
    exact ⟨[], rfl, Or.inl ⟨rfl, rfl⟩, by simp, Or.inl ⟨by rw [hx], rfl⟩⟩
  · simp at hcs
    obtain ⟨rfl, rfl, rfl⟩ := hcs
    have hz' : zs.length = cap := by simpa using hz
    have hlen : (zs.take len).length = len := by simp; omega
    refine ⟨zs.take len, hlen, Or.inr ⟨ad, cap, by rw [hlen], by omega, hm, fun j u hj => ?_⟩, fun z hzm => ?_, Or.inr ⟨_, _, by rw [hx], by simp [lits]; omega⟩⟩
    · have hjl : j < len := by
        have := (List.getElem?_eq_some_iff.mp hj).1
        simp [bytesOf] at this
        omega
      have := hcell j (by omega)
      rw [this]
      simp only [bytesOf, List.getElem?_map, List.getElem?_take, if_pos hjl] at hj
      rw [List.getElem?_eq_getElem (by omega)] at hj
      rw [← hj]
      simp [List.getD, show j < zs.length by omega]
    · have := bounds_u8 (hwz z (List.mem_of_mem_take hzm))
      omega
end
end Go.Proofs.YtjjgbcjgmjggnaaGreatDoor

namespace Go.Proofs.YtjjgbcjgmjggnaaGreatDoor
open Go.RowKit
set_option linter.unusedVariables false
set_option maxRecDepth 100000

theorem rowAt_cell {w : World} {g off c n : Nat} {rs : List Int} (h : RowAt w (.slice (some ⟨g, off, none⟩) n c) rs) (j : Nat) (hj : j < rs.length) : w.cell? ⟨g, off + j, none⟩ = some (.int .u8 (rs.getD j 0)) := by
  rcases h with ⟨h, _⟩ | ⟨g', off', c', h, _, _, h3⟩
  · simp at h
  · simp at h
    obtain ⟨⟨rfl, rfl⟩, _, _⟩ := h
    exact h3 j _ (by simp [bytesOf, List.getElem?_eq_getElem hj, List.getD])

/-- A row that is not empty has an address. -/
theorem rowAt_some {w : World} {a : Option Addr} {n c : Nat} {rs : List Int} (h : RowAt w (.slice a n c) rs) (hn : 0 < n) : ∃ g off, a = some ⟨g, off, none⟩ := by
  rcases h with ⟨h, _⟩ | ⟨g', off', c', h, _⟩
  · simp at h; omega
  · simp at h; exact ⟨g', off', h.1⟩

theorem eq_true (va vb : Value) (rs : List Int) (w : World) (ha : RowAt w va rs) (hb : ArgAt w vb rs) :
    Calls Tryz.prog 10 #[va, vb] w fun e w' => e = .returned (.bool true) ∧ ∃ n, w' = w.drewN n := by
  obtain ⟨aa, ca, rfl, hm⟩ := rowAt_form ha
  obtain ⟨ab, cb, rfl, _⟩ := hb.form
  unfold maxLen at hm
  go_enter Tryz.func10, Tryz.ntmps10
  go_wp2
  go_loopw [5] (fun i wr => ∃ k nd : Nat, k ≤ rs.length ∧ i = .int .i64 k ∧ wr = w.drewN nd) (fun i _ => rs.length - (intOf i).toNat)
  case atStart => exact ⟨0, 0, Nat.zero_le _, rfl, rfl⟩
  case round =>
    obtain ⟨k, nd, hk, rfl, rfl⟩ := hrel
    by_cases hlt : k < rs.length
    · have hb := hb.row (by omega)
      obtain ⟨ga, oa, rfl⟩ := rowAt_some ha (by omega)
      obtain ⟨gb, ob, rfl⟩ := rowAt_some hb (by omega)
      have hca := rowAt_cell ha k hlt
      have hcb := rowAt_cell hb k hlt
      obtain ⟨z, hz⟩ : ∃ z, z = rs.getD k 0 := ⟨_, rfl⟩
      rw [← hz] at hca hcb
      clear hz ha hb
      go_wp2
      go_quiet (fail)
      go_wp2
      go_roundw
      case rel => exact ⟨k + 1, _, by omega, by go_num, rfl⟩
      case measure => simp [intOf]; omega
    · go_wp2
      go_ret
      exact ⟨rfl, nd, rfl⟩

theorem Tryz.info5w : (Tryz.prog.info? 5).map (fun i => (i.zero, i.size, i.bytes)) = some (some (.int .u8 0), 1, 1) := by kernel_rfl
end Go.Proofs.YtjjgbcjgmjggnaaGreatDoor

namespace Go.Proofs.YtjjgbcjgmjggnaaGreatDoor
open Go.RowKit
set_option linter.unusedVariables false
set_option maxRecDepth 100000

/-- The marks behind a list. -/
def spareMarks (n : Nat) : List Int := (List.range 64).map (fun i => (279 + 7 * ((n + i : Nat) : Int) + 3) % 256)
theorem length_spareMarks (n : Nat) : (spareMarks n).length = 64 := by simp [spareMarks]
theorem spareMarks_at (n i : Nat) (h : i < 64) : (spareMarks n)[i]? = some ((279 + 7 * ((n + i : Nat) : Int) + 3) % 256) := by simp [spareMarks, h]


/-- The list as far as it is laid. -/
def laying (T : List Int) (k : Nat) : List Int := T.take k ++ List.replicate (T.length - k) 0
theorem length_laying (T : List Int) (k : Nat) : (laying T k).length = T.length := by simp [laying]; omega
theorem laying_zero (T : List Int) : laying T 0 = List.replicate T.length 0 := by simp [laying]
theorem laying_all (T : List Int) : laying T T.length = T := by simp [laying]
theorem laying_get (T : List Int) (k i : Nat) (hk : k ≤ T.length) : (laying T k)[i]? = if i < T.length then some (if i < k then T.getD i 0 else 0) else none := by
  unfold laying
  by_cases h : i < k
  · rw [List.getElem?_append_left (by simp; omega), List.getElem?_take, if_pos h, if_pos (by omega), if_pos h, List.getElem?_eq_getElem (by omega)]
    simp [List.getD, show i < T.length by omega]
  · rw [List.getElem?_append_right (by simp; omega), List.getElem?_replicate]
    simp only [List.length_take, Nat.min_eq_left hk, if_neg h]
    by_cases h2 : i < T.length
    · rw [if_pos (by omega), if_pos h2]
    · rw [if_neg (by omega), if_neg h2]
theorem laying_step (T : List Int) (k : Nat) (h : k < T.length) : (laying T k).set k (T.getD k 0) = laying T (k + 1) := by
  apply List.ext_getElem?
  intro i
  rw [List.getElem?_set, laying_get T k i (by omega), laying_get T (k + 1) i (by omega), length_laying]
  by_cases h1 : k = i
  · subst h1
    simp [h]
  · rw [if_neg h1]
    by_cases h2 : i < T.length
    · rw [if_pos h2, if_pos h2]
      by_cases h3 : i < k
      · rw [if_pos h3, if_pos (by omega)]
      · rw [if_neg h3, if_neg (by omega)]
    · rw [if_neg h2, if_neg h2]

theorem own_whole {w : World} {base g n : Nat} {xs : List Value} (h : w.ownsRow base 5 1 (.slice (some ⟨g, 0, none⟩) n n) n xs) : w.heap[g]? = some (.cells xs.toArray 5 (0, 0)) := by
  rcases h.2 with ⟨h, _⟩ | ⟨g', cap, cur, hv, hb, hg, hnc, hcm, hcs, htake⟩
  · simp at h
  · simp at hv
    obtain ⟨rfl, rfl⟩ := hv
    rw [hg, ← htake, List.take_of_length_le (by simp; omega)]

theorem made_bytes (n : Nat) : (madeCells #[Value.int IntKind.u8 0] n).toList = bytesOf (List.replicate n 0) := by
  rw [toList_madeCells_one]
  simp [bytesOf]

theorem wide_any (v : Value) (rs : List Int) (w : World) (h : ArgAt w v rs) (hby : ∀ x ∈ rs, 0 ≤ x ∧ x < 256) (hcap : rs.length ≤ 1099511627776) :
    Calls Tryz.prog 6 #[v] w fun e w' => e = .returned (.slice (some ⟨w.heap.size, 0, none⟩) rs.length (rs.length + 64)) ∧
      w'.heap[w.heap.size]? = some (.cells (bytesOf (rs ++ spareMarks rs.length)).toArray 5 (0, 0)) ∧ Touch (fun _ => False) w w' := by
  obtain ⟨i0, hi, hz0, hz1, hz2⟩ := info_parts Tryz.info5w
  obtain ⟨aa, ca, rfl, hm⟩ := h.form
  unfold maxLen at hm
  obtain ⟨T, hT⟩ : ∃ T, T = rs ++ spareMarks rs.length := ⟨_, rfl⟩
  have hTl : T.length = rs.length + 64 := by rw [hT]; simp [length_spareMarks]
  have HT : Hid (T = rs ++ spareMarks rs.length) := hT
  rw [← hT]
  clear hT
  have hn0 : (0 : Int) ≤ (rs.length : Int) + 64 := by omega
  go_enter Tryz.func6, Tryz.ntmps6
  go_wp2_with (at_make; refine wpList_make_full _ rfl (.tmp 7) (.tmp 7) 22 rfl w.heap.size 5 i0 (.int .u8 0) 1 Tryz.underlying22 hi hz0 hz1 .i64 .i64 _ _ (rs.length + 64) rfl rfl ?c1 ?c2 ?c3 ?c4 ?c5 ?_)
  case c1 => omega
  case c2 => omega
  case c3 => rw [hz2]; omega
  case c4 => unfold maxLen; omega
  case c5 => exact Nat.le_refl _
  intro w1 hown hgrow
  have t1 : Touch (fun _ => False) w w1 := (Touch.refl _ w).grown hgrow (by simp)
  rw [made_bytes, ← hTl, ← laying_zero, hTl] at hown
  clear hgrow
  go_wp2
  go_loopw [4] (fun i wr => ∃ k : Nat, k ≤ rs.length + 64 ∧ i = .int .i64 k ∧ wr.ownsRow w.heap.size 5 1 (.slice (some ⟨w.heap.size, 0, none⟩) (rs.length + 64) (rs.length + 64)) (rs.length + 64) (bytesOf (laying T k)) ∧ Touch (fun _ => False) w wr) (fun i _ => rs.length + 64 - (intOf i).toNat)
  case atStart => exact ⟨0, Nat.zero_le _, rfl, hown, t1⟩
  case round =>
    obtain ⟨k, hk, rfl, hownk, tk⟩ := hrel
    by_cases hlt : k < rs.length + 64
    · have hfz := hownk.frozenAt k
      have hcell : wr.cell? ⟨w.heap.size, k, none⟩ = some (.int .u8 0) := by
        rw [hownk.cellAt k (by omega)]
        simp only [bytesOf, List.getElem?_map]
        rw [laying_get T k k (by omega), if_pos (by omega), if_neg (by omega)]
        rfl
      have HO : Hid (∀ u, (wr.setCell ⟨w.heap.size, k, none⟩ u).ownsRow w.heap.size 5 1 (.slice (some ⟨w.heap.size, 0, none⟩) (rs.length + 64) (rs.length + 64)) (rs.length + 64) ((bytesOf (laying T k)).set k u)) := fun u => (hownk.stored k u).1
      by_cases hl : k < rs.length
      · have h := h.row (by omega)
        obtain ⟨ga, oa, rfl⟩ := rowAt_some h (by omega)
        have hcx := tk.cellN (rowAt_cell h k hl)
        have HX : Hid (T.getD k 0 = rs.getD k 0) := by show _ = _; rw [HT.out]; simp [List.getD, List.getElem?_append_left hl]
        obtain ⟨z, hz⟩ : ∃ z, z = rs.getD k 0 := ⟨_, rfl⟩
        rw [← hz] at hcx HX
        clear hz h hown t1 hownk
        go_wp2
        go_roundw
        case rel => exact ⟨k + 1, by omega, by go_num, by rw [← laying_step T k (by omega), bytesOf_set, HX.out]; exact HO.out _, Touch.setCell (p := ⟨w.heap.size, k, none⟩) tk (Or.inr (Nat.le_refl _)) _⟩
        case measure => simp [intOf]; omega
      · have HX : Hid (T.getD k 0 = (279 + 7 * (k : Int) + 3) % 256) := by
          show _ = _
          rw [HT.out]
          simp only [List.getD]
          rw [List.getElem?_append_right (by omega), spareMarks_at _ _ (by omega)]
          simp only [Option.getD_some]
          rw [show rs.length + (k - rs.length) = k from by omega]
        clear h hown t1 hownk
        go_wp2
        go_roundw
        case rel => exact ⟨k + 1, by omega, by go_num, by rw [← laying_step T k (by omega), bytesOf_set, HX.out]; exact HO.out _, Touch.setCell (p := ⟨w.heap.size, k, none⟩) tk (Or.inr (Nat.le_refl _)) _⟩
        case measure => simp [intOf]; omega
    · obtain rfl : k = rs.length + 64 := by omega
      go_wp2
      go_ret
      refine ⟨rfl, ?_, tk⟩
      have := own_whole hownk
      rwa [← hTl, laying_all] at this

theorem spare_any (g : Nat) (rs : List Int) (w : World) (h : w.heap[g]? = some (.cells (bytesOf (rs ++ spareMarks rs.length)).toArray 5 (0, 0))) (hcap : rs.length ≤ 1099511627776) :
    Calls Tryz.prog 11 #[.slice (some ⟨g, 0, none⟩) rs.length (rs.length + 64)] w fun e w' => e = .returned (.bool true) ∧ w = w' := by
  have hc : ∀ i, rs.length ≤ i → i < rs.length + 64 → w.cell? ⟨g, i, none⟩ = some (.int .u8 ((279 + 7 * (i : Int) + 3) % 256)) := by
    intro i h1 h2
    simp only [World.cell?, h]
    simp only [List.getElem?_toArray, bytesOf, List.getElem?_map]
    rw [List.getElem?_append_right h1, spareMarks_at _ _ (by omega), show rs.length + (i - rs.length) = i from by omega]
    rfl
  clear h
  go_enter Tryz.func11, Tryz.ntmps11
  go_wp2
  go_loop [4] (fun i => ∃ k : Nat, rs.length ≤ k ∧ k ≤ rs.length + 64 ∧ i = .int .i64 k) (fun i => rs.length + 64 - (intOf i).toNat)
  case atStart => exact ⟨rs.length, Nat.le_refl _, by omega, rfl⟩
  case round =>
    obtain ⟨k, hk0, hk, rfl⟩ := hrel
    by_cases hlt : k < rs.length + 64
    · have hcx := hc k hk0 hlt
      clear hc
      go_wp2
      go_round
      case rel => exact ⟨k + 1, by omega, by omega, by go_num⟩
      case measure => simp [intOf]; omega
    · go_wp2
      go_ret
      exact ⟨rfl, rfl⟩
end Go.Proofs.YtjjgbcjgmjggnaaGreatDoor
