/- Contracts of WideBytes, EqBytes, SpareBytes. -/
import Derived.Test.YthilfealloakdaaEqB
import Derived.Test.YthilfealloakdaaParts
import Derived.Laws.Rows
import Derived.Laws.Tables
namespace Go.Proofs.Ythilfealloakdaa
open Go.RowKit
set_option linter.unusedVariables false
set_option maxRecDepth 100000

/-- The marks behind a list. -/
def spareMarks (n : Nat) : List Int := (List.range 64).map (fun i => (279 + 7 * ((n + i : Nat) : Int) + 3) % 256)
theorem length_spareMarks (n : Nat) : (spareMarks n).length = 64 := by simp [spareMarks]
theorem spareMarks_at (n i : Nat) (h : i < 64) : (spareMarks n)[i]? = some ((279 + 7 * ((n + i : Nat) : Int) + 3) % 256) := by simp [spareMarks, h]


/-- The list as far as it is laid. -/
def laying (T : List Int) (k : Nat) : List Int := T.take k ++ List.replicate (T.length - k) 0
theorem length_laying (T : List Int) (k : Nat) : (laying T k).length = T.length := by simp [laying]; omega
theorem laying_zero (T : List Int) : laying T 0 = List.replicate T.length 0 := by simp [laying]
theorem laying_all (T : List Int) : laying T T.length = T := by simp [laying]
theorem laying_get (T : List Int) (k i : Nat) (hk : k ≤ T.length) : (laying T k)[i]? = if i < T.length then some (if i < k then T.getD i 0 else 0) else none := by
  unfold laying
  by_cases h : i < k
  · rw [List.getElem?_append_left (by simp; omega), List.getElem?_take, if_pos h, if_pos (by omega), if_pos h, List.getElem?_eq_getElem (by omega)]
    simp [List.getD, show i < T.length by omega]
  · rw [List.getElem?_append_right (by simp; omega), List.getElem?_replicate]
    simp only [List.length_take, Nat.min_eq_left hk, if_neg h]
    by_cases h2 : i < T.length
    · rw [if_pos (by omega), if_pos h2]
    · rw [if_neg (by omega), if_neg h2]
theorem laying_step (T : List Int) (k : Nat) (h : k < T.length) : (laying T k).set k (T.getD k 0) = laying T (k + 1) := by
  apply List.ext_getElem?
  intro i
  rw [List.getElem?_set, laying_get T k i (by omega), laying_get T (k + 1) i (by omega), length_laying]
  by_cases h1 : k = i
  · subst h1
    simp [h]
  · rw [if_neg h1]
    by_cases h2 : i < T.length
    · rw [if_pos h2, if_pos h2]
      by_cases h3 : i < k
      · rw [if_pos h3, if_pos (by omega)]
      · rw [if_neg h3, if_neg (by omega)]
    · rw [if_neg h2, if_neg h2]

theorem own_whole {w : World} {base g n : Nat} {xs : List Value} (h : w.ownsRow base 5 1 (.slice (some ⟨g, 0, none⟩) n n) n xs) : w.heap[g]? = some (.cells xs.toArray 5 (0, 0)) := by
  rcases h.2 with ⟨h, _⟩ | ⟨g', cap, cur, hv, hb, hg, hnc, hcm, hcs, htake⟩
  · simp at h
  · simp at hv
    obtain ⟨rfl, rfl⟩ := hv
    rw [hg, ← htake, List.take_of_length_le (by simp; omega)]

theorem made_bytes (n : Nat) : (madeCells #[Value.int IntKind.u8 0] n).toList = bytesOf (List.replicate n 0) := by
  rw [toList_madeCells_one]
  simp [bytesOf]

theorem wide_any (v : Value) (rs : List Int) (w : World) (h : ArgAt w v rs) (hby : ∀ x ∈ rs, 0 ≤ x ∧ x < 256) (hcap : rs.length ≤ 1099511627776) :
    Calls Try.prog 23 #[v] w fun e w' => e = .returned (.slice (some ⟨w.heap.size, 0, none⟩) rs.length (rs.length + 64)) ∧
      w'.heap[w.heap.size]? = some (.cells (bytesOf (rs ++ spareMarks rs.length)).toArray 5 (0, 0)) ∧ Touch (fun _ => False) w w' := by
  obtain ⟨i0, hi, hz0, hz1, hz2⟩ := info_parts Try.info5w
  obtain ⟨aa, ca, rfl, hm⟩ := h.form
  unfold maxLen at hm
  obtain ⟨T, hT⟩ : ∃ T, T = rs ++ spareMarks rs.length := ⟨_, rfl⟩
  have hTl : T.length = rs.length + 64 := by rw [hT]; simp [length_spareMarks]
  have HT : Hid (T = rs ++ spareMarks rs.length) := hT
  rw [← hT]
  clear hT
  have hn0 : (0 : Int) ≤ (rs.length : Int) + 64 := by omega
  go_enter Try.func23, Try.ntmps23
  go_wp2_with (at_make; refine wpList_make_full _ rfl (.tmp 7) (.tmp 7) 47 rfl w.heap.size 5 i0 (.int .u8 0) 1 Try.underlying47 hi hz0 hz1 .i64 .i64 _ _ (rs.length + 64) rfl rfl ?c1 ?c2 ?c3 ?c4 ?c5 ?_)
  case c1 => omega
  case c2 => omega
  case c3 => rw [hz2]; omega
  case c4 => unfold maxLen; omega
  case c5 => exact Nat.le_refl _
  intro w1 hown hgrow
  have t1 : Touch (fun _ => False) w w1 := (Touch.refl _ w).grown hgrow (by simp)
  rw [made_bytes, ← hTl, ← laying_zero, hTl] at hown
  clear hgrow
  go_wp2
  go_loopw [4] (fun i wr => ∃ k : Nat, k ≤ rs.length + 64 ∧ i = .int .i64 k ∧ wr.ownsRow w.heap.size 5 1 (.slice (some ⟨w.heap.size, 0, none⟩) (rs.length + 64) (rs.length + 64)) (rs.length + 64) (bytesOf (laying T k)) ∧ Touch (fun _ => False) w wr) (fun i _ => rs.length + 64 - (intOf i).toNat)
  case atStart => exact ⟨0, Nat.zero_le _, rfl, hown, t1⟩
  case round =>
    obtain ⟨k, hk, rfl, hownk, tk⟩ := hrel
    by_cases hlt : k < rs.length + 64
    · have hfz := hownk.frozenAt k
      have hcell : wr.cell? ⟨w.heap.size, k, none⟩ = some (.int .u8 0) := by
        rw [hownk.cellAt k (by omega)]
        simp only [bytesOf, List.getElem?_map]
        rw [laying_get T k k (by omega), if_pos (by omega), if_neg (by omega)]
        rfl
      have HO : Hid (∀ u, (wr.setCell ⟨w.heap.size, k, none⟩ u).ownsRow w.heap.size 5 1 (.slice (some ⟨w.heap.size, 0, none⟩) (rs.length + 64) (rs.length + 64)) (rs.length + 64) ((bytesOf (laying T k)).set k u)) := fun u => (hownk.stored k u).1
      by_cases hl : k < rs.length
      · have h := h.row (by omega)
        obtain ⟨ga, oa, rfl⟩ := rowAt_some h (by omega)
        have hcx := tk.cellN (rowAt_cell h k hl)
        have HX : Hid (T.getD k 0 = rs.getD k 0) := by show _ = _; rw [HT.out]; simp [List.getD, List.getElem?_append_left hl]
        obtain ⟨z, hz⟩ : ∃ z, z = rs.getD k 0 := ⟨_, rfl⟩
        rw [← hz] at hcx HX
        clear hz h hown t1 hownk
        go_wp2
        go_roundw
        case rel => exact ⟨k + 1, by omega, by go_num, by rw [← laying_step T k (by omega), bytesOf_set, HX.out]; exact HO.out _, Touch.setCell (p := ⟨w.heap.size, k, none⟩) tk (Or.inr (Nat.le_refl _)) _⟩
        case measure => simp [intOf]; omega
      · have HX : Hid (T.getD k 0 = (279 + 7 * (k : Int) + 3) % 256) := by
          show _ = _
          rw [HT.out]
          simp only [List.getD]
          rw [List.getElem?_append_right (by omega), spareMarks_at _ _ (by omega)]
          simp only [Option.getD_some]
          rw [show rs.length + (k - rs.length) = k from by omega]
        clear h hown t1 hownk
        go_wp2
        go_roundw
        case rel => exact ⟨k + 1, by omega, by go_num, by rw [← laying_step T k (by omega), bytesOf_set, HX.out]; exact HO.out _, Touch.setCell (p := ⟨w.heap.size, k, none⟩) tk (Or.inr (Nat.le_refl _)) _⟩
        case measure => simp [intOf]; omega
    · obtain rfl : k = rs.length + 64 := by omega
      go_wp2
      go_ret
      refine ⟨rfl, ?_, tk⟩
      have := own_whole hownk
      rwa [← hTl, laying_all] at this

theorem spare_any (g : Nat) (rs : List Int) (w : World) (h : w.heap[g]? = some (.cells (bytesOf (rs ++ spareMarks rs.length)).toArray 5 (0, 0))) (hcap : rs.length ≤ 1099511627776) :
    Calls Try.prog 32 #[.slice (some ⟨g, 0, none⟩) rs.length (rs.length + 64)] w fun e w' => e = .returned (.bool true) ∧ w = w' := by
  have hc : ∀ i, rs.length ≤ i → i < rs.length + 64 → w.cell? ⟨g, i, none⟩ = some (.int .u8 ((279 + 7 * (i : Int) + 3) % 256)) := by
    intro i h1 h2
    simp only [World.cell?, h]
    simp only [List.getElem?_toArray, bytesOf, List.getElem?_map]
    rw [List.getElem?_append_right h1, spareMarks_at _ _ (by omega), show rs.length + (i - rs.length) = i from by omega]
    rfl
  clear h
  go_enter Try.func32, Try.ntmps32
  go_wp2
  go_loop [4] (fun i => ∃ k : Nat, rs.length ≤ k ∧ k ≤ rs.length + 64 ∧ i = .int .i64 k) (fun i => rs.length + 64 - (intOf i).toNat)
  case atStart => exact ⟨rs.length, Nat.le_refl _, by omega, rfl⟩
  case round =>
    obtain ⟨k, hk0, hk, rfl⟩ := hrel
    by_cases hlt : k < rs.length + 64
    · have hcx := hc k hk0 hlt
      clear hc
      go_wp2
      go_round
      case rel => exact ⟨k + 1, by omega, by omega, by go_num⟩
      case measure => simp [intOf]; omega
    · go_wp2
      go_ret
      exact ⟨rfl, rfl⟩
end Go.Proofs.Ythilfealloakdaa

namespace Go.Proofs.Ythilfealloakdaa
open Go.RowKit
set_option linter.unusedVariables false
set_option maxRecDepth 100000

/-- A world in which nothing of w has turned. -/
structure Aft (w0 : World) where
  w : World
  gr : Touch (fun _ => False) w0 w

theorem wp_region_aft {P : Program} {id : Nat} {Q : Exit → Act → World → Prop} {a : Act} {w : World} {l : List Oper} (hm : P.follows .mixedOrders = true) (hB : Region.lexB .any l.toArray = true)
    (h : wpQuiet P l.toArray (fun w' => ∃ u : Aft w, w' = u.w) (fun a' => ∀ w', (∃ u : Aft w, w' = u.w) → Q .normal a' w') l a) : (Code.region id l.toArray true).wp P Q a w :=
  wp_region_quiet (C := fun w' => ∃ u : Aft w, w' = u.w) hm hB ⟨⟨_, (Touch.refl _ w).drew⟩, rfl⟩ (by simpa using h)
theorem Aft.call {P : Program} {f : FuncId} {args : Array Value} {w : World} {u : Aft w} {v : Value} (h : Calls P f args u.w fun e w' => e = .returned v ∧ Touch (fun _ => False) u.w w') :
    Calls P f args u.w fun e w'' => e = .returned v ∧ ∃ u' : Aft w, w'' = u'.w :=
  h.mono fun _ w'' ⟨he, hg⟩ => ⟨he, ⟨w'', u.gr.trans hg⟩, rfl⟩
theorem aft_cell {w : World} {p : Addr} {v : Value} (h : w.cell? p = some v) : ∀ u : Aft w, u.w.cell? p = some v :=
  fun u => u.gr.cellN h
end Go.Proofs.Ythilfealloakdaa

namespace Go.Proofs.Ythilfealloakdaa
open Go.RowKit
set_option linter.unusedVariables false
set_option maxRecDepth 100000

/-- Plain numbers as the cells' numbers. -/
def natB (ns : List Nat) : List Int := ns.map (fun n : Nat => (n : Int))
theorem length_natB (ns : List Nat) : (natB ns).length = ns.length := by simp [natB]
theorem natB_append (a b : List Nat) : natB (a ++ b) = natB a ++ natB b := by simp [natB]
theorem natB_take (a : List Nat) (n : Nat) : natB (a.take n) = (natB a).take n := by simp [natB]
theorem natB_drop (a : List Nat) (n : Nat) : natB (a.drop n) = (natB a).drop n := by simp [natB]
theorem natB_getD (a : List Nat) (n : Nat) : (natB a).getD n 0 = ((a.getD n 0 : Nat) : Int) := by
  simp only [natB, List.getD, List.getElem?_map]
  cases a[n]? <;> rfl
theorem natB_of {rs : List Int} (h : ∀ x ∈ rs, 0 ≤ x ∧ x < 256) : ∃ ns : List Nat, rs = natB ns ∧ ∀ x ∈ ns, x < 256 := by
  refine ⟨rs.map Int.toNat, ?_, ?_⟩
  · unfold natB
    rw [List.map_map]
    conv => lhs; rw [← List.map_id rs]
    apply List.map_congr_left
    intro x hx
    have := h x hx
    simp
    omega
  · intro x hx
    obtain ⟨y, hy, rfl⟩ := List.mem_map.mp hx
    have := h y hy
    omega
theorem natB_byte {ns : List Nat} (h : ∀ x ∈ ns, x < 256) : ∀ x ∈ natB ns, 0 ≤ x ∧ x < 256 := by
  intro x hx
  obtain ⟨y, hy, rfl⟩ := List.mem_map.mp hx
  have := h y hy
  omega
theorem getD_lt {ns : List Nat} (h : ∀ x ∈ ns, x < 256) (k : Nat) : ns.getD k 0 < 256 := by
  by_cases hk : k < ns.length
  · exact h _ (by simp [List.getD, hk])
  · simp [List.getD, List.getElem?_eq_none (by omega : ns.length ≤ k)]

/-- The four numbers in a row. -/
structure Quad (w : World) (g : Nat) (q : Q4) : Prop where
  c0 : w.cell? ⟨g, 0, none⟩ = some (.int .u32 (q.a : Int))
  c1 : w.cell? ⟨g, 1, none⟩ = some (.int .u32 (q.b : Int))
  c2 : w.cell? ⟨g, 2, none⟩ = some (.int .u32 (q.c : Int))
  c3 : w.cell? ⟨g, 3, none⟩ = some (.int .u32 (q.d : Int))
theorem Quad.keep {w w' : World} {g : Nat} {q : Q4} (h : Quad w g q) (t : Touch (fun _ => False) w w') : Quad w' g q := ⟨t.cellN h.c0, t.cellN h.c1, t.cellN h.c2, t.cellN h.c3⟩
theorem quad_new (w : World) (q : Q4) (t : TypeId) : Quad (w.alloc (.cells #[.int .u32 (q.a : Int), .int .u32 (q.b : Int), .int .u32 (q.c : Int), .int .u32 (q.d : Int)] t)) w.heap.size q := ⟨by simp, by simp, by simp, by simp⟩

def tabV : List Value := tabN.map (fun n : Nat => Value.int .u32 (n : Int))
theorem tabV_at {j : Nat} (h : j < 64) : tabV[j]? = some (.int .u32 ((tabN.getD j 0 : Nat) : Int)) := by
  have hl : j < tabN.length := h
  simp only [tabV, List.getElem?_map, List.getD, List.getElem?_eq_getElem hl, Option.map_some, Option.getD_some]
/-- The constants lie in block g, from place o on. -/
def Tab (w : World) (g o : Nat) : Prop := ∀ j, j < 64 → w.cell? ⟨g, o + j, none⟩ = some (.int .u32 ((tabN.getD j 0 : Nat) : Int))
theorem Tab.keep {w w' : World} {g o : Nat} (h : Tab w g o) (t : Touch (fun _ => False) w w') : Tab w' g o := fun j hj => t.cellN (h j hj)
theorem tab_new (w : World) (t : TypeId) : Tab (w.alloc (.cells tabV.toArray t)) w.heap.size 0 := by
  intro j hj
  have := tabV_at hj
  simpa using this

end Go.Proofs.Ythilfealloakdaa

namespace Go.Proofs.Ythilfealloakdaa
open Go.RowKit
set_option linter.unusedVariables false
set_option maxRecDepth 100000

theorem all_oneCell {cs : List Value} (h : ∀ v ∈ cs, v.oneCell' = true) : cs.toArray.all (·.oneCell') = true := Array.all_eq_true_iff_forall_mem.2 (fun v hv => h v (by simpa using hv))
/-- Block g holds just the cells xs. -/
def Row (w : World) (g : Nat) (T : TypeId) (xs : List Value) : Prop := w.heap[g]? = some (.cells xs.toArray T (0, 0))
theorem Row.cell {w : World} {g : Nat} {T : TypeId} {xs : List Value} (h : Row w g T xs) (j : Nat) : w.cell? ⟨g, j, none⟩ = xs[j]? := by
  rw [cell_of_row w g j _ T _ h]
  simp
theorem Row.frozen {w : World} {g : Nat} {T : TypeId} {xs : List Value} (h : Row w g T xs) (j : Nat) : w.frozen? ⟨g, j, none⟩ = false := frozen_of_row w g j _ T h
theorem Row.set {w : World} {g : Nat} {T : TypeId} {xs : List Value} (h : Row w g T xs) (j : Nat) (u : Value) : Row (w.setCell ⟨g, j, none⟩ u) g T (xs.set j u) := by
  unfold Row at *
  rw [heap_setCell_same w g j _ T u h]
  simp
theorem Row.keep {w w' : World} {g : Nat} {T : TypeId} {xs : List Value} (h : Row w g T xs) (t : Touch (fun _ => False) w w') : Row w' g T xs := t.heapN h
theorem Row.other {w : World} {g : Nat} {T : TypeId} {xs : List Value} (h : Row w g T xs) {p : Addr} (hp : g ≠ p.block) (u : Value) : Row (w.setCell p u) g T xs := (heap_setCell_other w p g u hp).trans h
theorem Row.lt {w : World} {g : Nat} {T : TypeId} {xs : List Value} (h : Row w g T xs) : g < w.heap.size := lt_of_heap h
theorem Row.setRow {w : World} {g : Nat} {T : TypeId} {xs : List Value} (h : Row w g T xs) (cs : Array Value) : Row (w.setRow g cs) g T cs.toList := by
  unfold Row at *
  rw [setRow_heap w g _ cs T _ h]
theorem row_new (w : World) (T : TypeId) (C : Array Value) : Row (w.alloc (.cells C T)) w.heap.size T C.toList := by
  unfold Row
  show (w.heap.push _)[w.heap.size]? = _
  simp
end Go.Proofs.Ythilfealloakdaa
