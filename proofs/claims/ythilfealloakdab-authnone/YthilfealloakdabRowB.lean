/- A region that draws its order, whose callees make memory but turn nothing old: one walk in the order of the text (the frame is Touch of no block). -/
import Derived.Test.YthilfealloakdabParts
import Derived.Test.YthilfealloakdabWideB
import Derived.Laws.Rows
import Derived.Laws.Tables
namespace Go.Proofs.Ythilfealloakdab
open Go.RowKit
set_option linter.unusedVariables false
set_option maxRecDepth 100000

/-- A world in which nothing of w has turned. -/
structure Aft (w0 : World) where
  w : World
  gr : Touch (fun _ => False) w0 w

theorem wp_region_aft {P : Program} {id : Nat} {Q : Exit → Act → World → Prop} {a : Act} {w : World} {l : List Oper} (hm : P.follows .mixedOrders = true) (hB : Region.lexB .any l.toArray = true)
    (h : wpQuiet P l.toArray (fun w' => ∃ u : Aft w, w' = u.w) (fun a' => ∀ w', (∃ u : Aft w, w' = u.w) → Q .normal a' w') l a) : (Code.region id l.toArray true).wp P Q a w :=
  wp_region_quiet (C := fun w' => ∃ u : Aft w, w' = u.w) hm hB ⟨⟨_, (Touch.refl _ w).drew⟩, rfl⟩ (by simpa using h)
theorem Aft.call {P : Program} {f : FuncId} {args : Array Value} {w : World} {u : Aft w} {v : Value} (h : Calls P f args u.w fun e w' => e = .returned v ∧ Touch (fun _ => False) u.w w') :
    Calls P f args u.w fun e w'' => e = .returned v ∧ ∃ u' : Aft w, w'' = u'.w :=
  h.mono fun _ w'' ⟨he, hg⟩ => ⟨he, ⟨w'', u.gr.trans hg⟩, rfl⟩
theorem aft_cell {w : World} {p : Addr} {v : Value} (h : w.cell? p = some v) : ∀ u : Aft w, u.w.cell? p = some v :=
  fun u => u.gr.cellN h
end Go.Proofs.Ythilfealloakdab

namespace Go.Proofs.Ythilfealloakdab
open Go.RowKit
set_option linter.unusedVariables false
set_option maxRecDepth 100000

/-- Plain numbers as the cells' numbers. -/
def natB (ns : List Nat) : List Int := ns.map (fun n : Nat => (n : Int))
theorem length_natB (ns : List Nat) : (natB ns).length = ns.length := by simp [natB]
theorem natB_append (a b : List Nat) : natB (a ++ b) = natB a ++ natB b := by simp [natB]
theorem natB_take (a : List Nat) (n : Nat) : natB (a.take n) = (natB a).take n := by simp [natB]
theorem natB_drop (a : List Nat) (n : Nat) : natB (a.drop n) = (natB a).drop n := by simp [natB]
theorem natB_getD (a : List Nat) (n : Nat) : (natB a).getD n 0 = ((a.getD n 0 : Nat) : Int) := by
  simp only [natB, List.getD, List.getElem?_map]
  cases a[n]? <;> rfl
theorem natB_of {rs : List Int} (h : ∀ x ∈ rs, 0 ≤ x ∧ x < 256) : ∃ ns : List Nat, rs = natB ns ∧ ∀ x ∈ ns, x < 256 := by
  refine ⟨rs.map Int.toNat, ?_, ?_⟩
  · unfold natB
    rw [List.map_map]
    conv => lhs; rw [← List.map_id rs]
    apply List.map_congr_left
    intro x hx
    have := h x hx
    simp
    omega
  · intro x hx
    obtain ⟨y, hy, rfl⟩ := List.mem_map.mp hx
    have := h y hy
    omega
theorem natB_byte {ns : List Nat} (h : ∀ x ∈ ns, x < 256) : ∀ x ∈ natB ns, 0 ≤ x ∧ x < 256 := by
  intro x hx
  obtain ⟨y, hy, rfl⟩ := List.mem_map.mp hx
  have := h y hy
  omega
theorem getD_lt {ns : List Nat} (h : ∀ x ∈ ns, x < 256) (k : Nat) : ns.getD k 0 < 256 := by
  by_cases hk : k < ns.length
  · exact h _ (by simp [List.getD, hk])
  · simp [List.getD, List.getElem?_eq_none (by omega : ns.length ≤ k)]

/-- The four numbers in a row. -/
structure Quad (w : World) (g : Nat) (q : Q4) : Prop where
  c0 : w.cell? ⟨g, 0, none⟩ = some (.int .u32 (q.a : Int))
  c1 : w.cell? ⟨g, 1, none⟩ = some (.int .u32 (q.b : Int))
  c2 : w.cell? ⟨g, 2, none⟩ = some (.int .u32 (q.c : Int))
  c3 : w.cell? ⟨g, 3, none⟩ = some (.int .u32 (q.d : Int))
theorem Quad.keep {w w' : World} {g : Nat} {q : Q4} (h : Quad w g q) (t : Touch (fun _ => False) w w') : Quad w' g q := ⟨t.cellN h.c0, t.cellN h.c1, t.cellN h.c2, t.cellN h.c3⟩
theorem quad_new (w : World) (q : Q4) (t : TypeId) : Quad (w.alloc (.cells #[.int .u32 (q.a : Int), .int .u32 (q.b : Int), .int .u32 (q.c : Int), .int .u32 (q.d : Int)] t)) w.heap.size q := ⟨by simp, by simp, by simp, by simp⟩

def tabV : List Value := tabN.map (fun n : Nat => Value.int .u32 (n : Int))
theorem tabV_at {j : Nat} (h : j < 64) : tabV[j]? = some (.int .u32 ((tabN.getD j 0 : Nat) : Int)) := by
  have hl : j < tabN.length := h
  simp only [tabV, List.getElem?_map, List.getD, List.getElem?_eq_getElem hl, Option.map_some, Option.getD_some]
/-- The constants lie in block g, from place o on. -/
def Tab (w : World) (g o : Nat) : Prop := ∀ j, j < 64 → w.cell? ⟨g, o + j, none⟩ = some (.int .u32 ((tabN.getD j 0 : Nat) : Int))
theorem Tab.keep {w w' : World} {g o : Nat} (h : Tab w g o) (t : Touch (fun _ => False) w w') : Tab w' g o := fun j hj => t.cellN (h j hj)
theorem tab_new (w : World) (t : TypeId) : Tab (w.alloc (.cells tabV.toArray t)) w.heap.size 0 := by
  intro j hj
  have := tabV_at hj
  simpa using this

end Go.Proofs.Ythilfealloakdab

namespace Go.Proofs.Ythilfealloakdab
open Go.RowKit
set_option linter.unusedVariables false
set_option maxRecDepth 100000

theorem all_oneCell {cs : List Value} (h : ∀ v ∈ cs, v.oneCell' = true) : cs.toArray.all (·.oneCell') = true := Array.all_eq_true_iff_forall_mem.2 (fun v hv => h v (by simpa using hv))
/-- Block g holds just the cells xs. -/
def Row (w : World) (g : Nat) (T : TypeId) (xs : List Value) : Prop := w.heap[g]? = some (.cells xs.toArray T (0, 0))
theorem Row.cell {w : World} {g : Nat} {T : TypeId} {xs : List Value} (h : Row w g T xs) (j : Nat) : w.cell? ⟨g, j, none⟩ = xs[j]? := by
  rw [cell_of_row w g j _ T _ h]
  simp
theorem Row.frozen {w : World} {g : Nat} {T : TypeId} {xs : List Value} (h : Row w g T xs) (j : Nat) : w.frozen? ⟨g, j, none⟩ = false := frozen_of_row w g j _ T h
theorem Row.set {w : World} {g : Nat} {T : TypeId} {xs : List Value} (h : Row w g T xs) (j : Nat) (u : Value) : Row (w.setCell ⟨g, j, none⟩ u) g T (xs.set j u) := by
  unfold Row at *
  rw [heap_setCell_same w g j _ T u h]
  simp
theorem Row.keep {w w' : World} {g : Nat} {T : TypeId} {xs : List Value} (h : Row w g T xs) (t : Touch (fun _ => False) w w') : Row w' g T xs := t.heapN h
theorem Row.other {w : World} {g : Nat} {T : TypeId} {xs : List Value} (h : Row w g T xs) {p : Addr} (hp : g ≠ p.block) (u : Value) : Row (w.setCell p u) g T xs := (heap_setCell_other w p g u hp).trans h
theorem Row.lt {w : World} {g : Nat} {T : TypeId} {xs : List Value} (h : Row w g T xs) : g < w.heap.size := lt_of_heap h
theorem Row.setRow {w : World} {g : Nat} {T : TypeId} {xs : List Value} (h : Row w g T xs) (cs : Array Value) : Row (w.setRow g cs) g T cs.toList := by
  unfold Row at *
  rw [setRow_heap w g _ cs T _ h]
theorem row_new (w : World) (T : TypeId) (C : Array Value) : Row (w.alloc (.cells C T)) w.heap.size T C.toList := by
  unfold Row
  show (w.heap.push _)[w.heap.size]? = _
  simp
end Go.Proofs.Ythilfealloakdab
