/- Bytes as plain numbers, the four numbers in a row, the document's constants. -/
import Derived.Test.YtbkidfmolnbhlaaDig1
import Derived.Test.YtbkidfmolnbhlaaWideB
import Derived.Test.YtbkidfmolnbhlaaTAft
namespace Go.Proofs.Ytbkidfmolnbhlaa
open Go.RowKit
set_option linter.unusedVariables false
set_option maxRecDepth 100000

/-- Plain numbers as the cells' numbers. -/
def natB (ns : List Nat) : List Int := ns.map (fun n : Nat => (n : Int))
theorem length_natB (ns : List Nat) : (natB ns).length = ns.length := by simp [natB]
theorem natB_append (a b : List Nat) : natB (a ++ b) = natB a ++ natB b := by simp [natB]
theorem natB_take (a : List Nat) (n : Nat) : natB (a.take n) = (natB a).take n := by simp [natB]
theorem natB_drop (a : List Nat) (n : Nat) : natB (a.drop n) = (natB a).drop n := by simp [natB]
theorem natB_getD (a : List Nat) (n : Nat) : (natB a).getD n 0 = ((a.getD n 0 : Nat) : Int) := by
  simp only [natB, List.getD, List.getElem?_map]
  cases a[n]? <;> rfl
theorem natB_of {rs : List Int} (h : ∀ x ∈ rs, 0 ≤ x ∧ x < 256) : ∃ ns : List Nat, rs = natB ns ∧ ∀ x ∈ ns, x < 256 := by
  refine ⟨rs.map Int.toNat, ?_, ?_⟩
  · unfold natB
    rw [List.map_map]
    conv => lhs; rw [← List.map_id rs]
    apply List.map_congr_left
    intro x hx
    have := h x hx
    simp
    omega
  · intro x hx
    obtain ⟨y, hy, rfl⟩ := List.mem_map.mp hx
    have := h y hy
    omega
theorem natB_byte {ns : List Nat} (h : ∀ x ∈ ns, x < 256) : ∀ x ∈ natB ns, 0 ≤ x ∧ x < 256 := by
  intro x hx
  obtain ⟨y, hy, rfl⟩ := List.mem_map.mp hx
  have := h y hy
  omega
theorem getD_lt {ns : List Nat} (h : ∀ x ∈ ns, x < 256) (k : Nat) : ns.getD k 0 < 256 := by
  by_cases hk : k < ns.length
  · exact h _ (by simp [List.getD, hk])
  · simp [List.getD, List.getElem?_eq_none (by omega : ns.length ≤ k)]

/-- The four numbers in a row. -/
structure Quad (w : World) (g : Nat) (q : Q4) : Prop where
  c0 : w.cell? ⟨g, 0, none⟩ = some (.int .u32 (q.a : Int))
  c1 : w.cell? ⟨g, 1, none⟩ = some (.int .u32 (q.b : Int))
  c2 : w.cell? ⟨g, 2, none⟩ = some (.int .u32 (q.c : Int))
  c3 : w.cell? ⟨g, 3, none⟩ = some (.int .u32 (q.d : Int))
theorem Quad.keep {w w' : World} {g : Nat} {q : Q4} (h : Quad w g q) (t : Touch (fun _ => False) w w') : Quad w' g q := ⟨t.cellN h.c0, t.cellN h.c1, t.cellN h.c2, t.cellN h.c3⟩
theorem quad_new (w : World) (q : Q4) (t : TypeId) : Quad (w.alloc (.cells #[.int .u32 (q.a : Int), .int .u32 (q.b : Int), .int .u32 (q.c : Int), .int .u32 (q.d : Int)] t)) w.heap.size q := ⟨by simp, by simp, by simp, by simp⟩

def tabV : List Value := tabN.map (fun n : Nat => Value.int .u32 (n : Int))
theorem tabV_at {j : Nat} (h : j < 64) : tabV[j]? = some (.int .u32 ((tabN.getD j 0 : Nat) : Int)) := by
  have hl : j < tabN.length := h
  simp only [tabV, List.getElem?_map, List.getD, List.getElem?_eq_getElem hl, Option.map_some, Option.getD_some]
/-- The constants lie in block g, from place o on. -/
def Tab (w : World) (g o : Nat) : Prop := ∀ j, j < 64 → w.cell? ⟨g, o + j, none⟩ = some (.int .u32 ((tabN.getD j 0 : Nat) : Int))
theorem Tab.keep {w w' : World} {g o : Nat} (h : Tab w g o) (t : Touch (fun _ => False) w w') : Tab w' g o := fun j hj => t.cellN (h j hj)
theorem tab_new (w : World) (t : TypeId) : Tab (w.alloc (.cells tabV.toArray t)) w.heap.size 0 := by
  intro j hj
  have := tabV_at hj
  simpa using this

theorem rconst_any (w : World) : Calls Try.prog 25 #[] w fun e w' => e = .returned (.slice (some ⟨w.heap.size, 0, none⟩) 64 64) ∧ w' = w.alloc (.cells tabV.toArray 32) := by
  go_enter Try.func25, Try.ntmps25
  go_wp2
  go_ret
  exact ⟨rfl, rfl⟩
end Go.Proofs.Ytbkidfmolnbhlaa
