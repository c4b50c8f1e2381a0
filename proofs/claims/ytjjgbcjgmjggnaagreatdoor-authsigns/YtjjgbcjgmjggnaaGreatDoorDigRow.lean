/- A region that draws its order, whose callees make memory but turn nothing old: one walk in the order of the text (the frame is Touch of no block). -/
import Derived.Test.YtjjgbcjgmjggnaaGreatDoorParts
import Derived.Test.YtjjgbcjgmjggnaaGreatDoorDig1
import Derived.Test.YtjjgbcjgmjggnaaGreatDoorWideB
import Derived.Laws.Rows
import Derived.Laws.Tables
namespace Go.Proofs.YtjjgbcjgmjggnaaGreatDoor
open Go.RowKit
set_option linter.unusedVariables false
set_option maxRecDepth 100000

/-- A world in which nothing of w has turned. -/
structure Aft (w0 : World) where
  w : World
  gr : Touch (fun _ => False) w0 w

theorem wp_region_aft {P : Program} {id : Nat} {Q : Exit → Act → World → Prop} {a : Act} {w : World} {l : List Oper} (hm : P.follows .mixedOrders = true) (hB : Region.lexB .any l.toArray = true)
    (h : wpQuiet P l.toArray (fun w' => ∃ u : Aft w, w' = u.w) (fun a' => ∀ w', (∃ u : Aft w, w' = u.w) → Q .normal a' w') l a) : (Code.region id l.toArray true).wp P Q a w :=
  wp_region_quiet (C := fun w' => ∃ u : Aft w, w' = u.w) hm hB ⟨⟨_, (Touch.refl _ w).drew⟩, rfl⟩ (by simpa using h)
theorem Aft.call {P : Program} {f : FuncId} {args : Array Value} {w : World} {u : Aft w} {v : Value} (h : Calls P f args u.w fun e w' => e = .returned v ∧ Touch (fun _ => False) u.w w') :
    Calls P f args u.w fun e w'' => e = .returned v ∧ ∃ u' : Aft w, w'' = u'.w :=
  h.mono fun _ w'' ⟨he, hg⟩ => ⟨he, ⟨w'', u.gr.trans hg⟩, rfl⟩
theorem aft_cell {w : World} {p : Addr} {v : Value} (h : w.cell? p = some v) : ∀ u : Aft w, u.w.cell? p = some v :=
  fun u => u.gr.cellN h
end Go.Proofs.YtjjgbcjgmjggnaaGreatDoor

namespace Go.Proofs.YtjjgbcjgmjggnaaGreatDoor
open Go.RowKit
set_option linter.unusedVariables false
set_option maxRecDepth 100000

/-- Plain numbers as the cells' numbers. -/
def natB (ns : List Nat) : List Int := ns.map (fun n : Nat => (n : Int))
theorem length_natB (ns : List Nat) : (natB ns).length = ns.length := by simp [natB]
theorem natB_append (a b : List Nat) : natB (a ++ b) = natB a ++ natB b := by simp [natB]
theorem natB_take (a : List Nat) (n : Nat) : natB (a.take n) = (natB a).take n := by simp [natB]
theorem natB_drop (a : List Nat) (n : Nat) : natB (a.drop n) = (natB a).drop n := by simp [natB]
theorem natB_getD (a : List Nat) (n : Nat) : (natB a).getD n 0 = ((a.getD n 0 : Nat) : Int) := by
  simp only [natB, List.getD, List.getElem?_map]
  cases a[n]? <;> rfl
theorem getD_lt {ns : List Nat} (h : ∀ x ∈ ns, x < 256) (k : Nat) : ns.getD k 0 < 256 := by
  by_cases hk : k < ns.length
  · exact h _ (by simp [List.getD, hk])
  · simp [List.getD, List.getElem?_eq_none (by omega : ns.length ≤ k)]

/-- The four numbers in a row. -/
structure Quad (w : World) (g : Nat) (q : Q4) : Prop where
  c0 : w.cell? ⟨g, 0, none⟩ = some (.int .u32 (q.a : Int))
  c1 : w.cell? ⟨g, 1, none⟩ = some (.int .u32 (q.b : Int))
  c2 : w.cell? ⟨g, 2, none⟩ = some (.int .u32 (q.c : Int))
  c3 : w.cell? ⟨g, 3, none⟩ = some (.int .u32 (q.d : Int))
theorem Quad.keep {w w' : World} {g : Nat} {q : Q4} (h : Quad w g q) (t : Touch (fun _ => False) w w') : Quad w' g q := ⟨t.cellN h.c0, t.cellN h.c1, t.cellN h.c2, t.cellN h.c3⟩
theorem quad_new (w : World) (q : Q4) (t : TypeId) : Quad (w.alloc (.cells #[.int .u32 (q.a : Int), .int .u32 (q.b : Int), .int .u32 (q.c : Int), .int .u32 (q.d : Int)] t)) w.heap.size q := ⟨by simp, by simp, by simp, by simp⟩

def tabV : List Value := tabN.map (fun n : Nat => Value.int .u32 (n : Int))
theorem tabV_at {j : Nat} (h : j < 64) : tabV[j]? = some (.int .u32 ((tabN.getD j 0 : Nat) : Int)) := by
  have hl : j < tabN.length := h
  simp only [tabV, List.getElem?_map, List.getD, List.getElem?_eq_getElem hl, Option.map_some, Option.getD_some]
/-- The constants lie in block g, from place o on. -/
def Tab (w : World) (g o : Nat) : Prop := ∀ j, j < 64 → w.cell? ⟨g, o + j, none⟩ = some (.int .u32 ((tabN.getD j 0 : Nat) : Int))
theorem Tab.keep {w w' : World} {g o : Nat} (h : Tab w g o) (t : Touch (fun _ => False) w w') : Tab w' g o := fun j hj => t.cellN (h j hj)
theorem tab_new (w : World) (t : TypeId) : Tab (w.alloc (.cells tabV.toArray t)) w.heap.size 0 := by
  intro j hj
  have := tabV_at hj
  simpa using this

theorem rconst_any (w : World) : Calls Tryz.prog 123 #[] w fun e w' => e = .returned (.slice (some ⟨w.heap.size, 0, none⟩) 64 64) ∧ w' = w.alloc (.cells tabV.toArray 24) := by
  go_enter Tryz.func123, Tryz.ntmps123
  go_wp2
  go_ret
  exact ⟨rfl, rfl⟩
end Go.Proofs.YtjjgbcjgmjggnaaGreatDoor

namespace Go.Proofs.YtjjgbcjgmjggnaaGreatDoor
open Go.RowKit
set_option linter.unusedVariables false
set_option maxRecDepth 100000

theorem all_oneCell {cs : List Value} (h : ∀ v ∈ cs, v.oneCell' = true) : cs.toArray.all (·.oneCell') = true := Array.all_eq_true_iff_forall_mem.2 (fun v hv => h v (by simpa using hv))
/-- Block g holds just the cells xs. -/
def Row (w : World) (g : Nat) (T : TypeId) (xs : List Value) : Prop := w.heap[g]? = some (.cells xs.toArray T (0, 0))
theorem Row.cell {w : World} {g : Nat} {T : TypeId} {xs : List Value} (h : Row w g T xs) (j : Nat) : w.cell? ⟨g, j, none⟩ = xs[j]? := by
  rw [cell_of_row w g j _ T _ h]
  simp
theorem Row.frozen {w : World} {g : Nat} {T : TypeId} {xs : List Value} (h : Row w g T xs) (j : Nat) : w.frozen? ⟨g, j, none⟩ = false := frozen_of_row w g j _ T h
theorem Row.set {w : World} {g : Nat} {T : TypeId} {xs : List Value} (h : Row w g T xs) (j : Nat) (u : Value) : Row (w.setCell ⟨g, j, none⟩ u) g T (xs.set j u) := by
  unfold Row at *
  rw [heap_setCell_same w g j _ T u h]
  simp
theorem Row.keep {w w' : World} {g : Nat} {T : TypeId} {xs : List Value} (h : Row w g T xs) (t : Touch (fun _ => False) w w') : Row w' g T xs := t.heapN h
theorem Row.other {w : World} {g : Nat} {T : TypeId} {xs : List Value} (h : Row w g T xs) {p : Addr} (hp : g ≠ p.block) (u : Value) : Row (w.setCell p u) g T xs := (heap_setCell_other w p g u hp).trans h
theorem Row.lt {w : World} {g : Nat} {T : TypeId} {xs : List Value} (h : Row w g T xs) : g < w.heap.size := lt_of_heap h
theorem Row.setRow {w : World} {g : Nat} {T : TypeId} {xs : List Value} (h : Row w g T xs) (cs : Array Value) : Row (w.setRow g cs) g T cs.toList := by
  unfold Row at *
  rw [setRow_heap w g _ cs T _ h]
theorem row_new (w : World) (T : TypeId) (C : Array Value) : Row (w.alloc (.cells C T)) w.heap.size T C.toList := by
  unfold Row
  show (w.heap.push _)[w.heap.size]? = _
  simp
end Go.Proofs.YtjjgbcjgmjggnaaGreatDoor

namespace Go.Proofs.YtjjgbcjgmjggnaaGreatDoor
open Go.RowKit
set_option linter.unusedVariables false
set_option maxRecDepth 100000

theorem Tryz.info16 : (Tryz.prog.info? 95).map (·.size) = some 16 := by kernel_rfl
theorem quad_of {w : World} {g : Nat} {T : TypeId} {q : Q4} {rest : List Value} (h : Row w g T (.int .u32 (q.a : Int) :: .int .u32 (q.b : Int) :: .int .u32 (q.c : Int) :: .int .u32 (q.d : Int) :: rest)) : Quad w g q := ⟨h.cell 0, h.cell 1, h.cell 2, h.cell 3⟩

/-- The number of a place. -/
def Q4.at (q : Q4) (j : Nat) : Nat := if j = 0 then q.a else if j = 1 then q.b else if j = 2 then q.c else q.d
theorem Quad.at {w : World} {g : Nat} {q : Q4} (h : Quad w g q) (j : Nat) (hj : j < 4) : w.cell? ⟨g, j, none⟩ = some (.int .u32 (q.at j : Int)) := by
  match j, hj with
  | 0, _ => exact h.c0
  | 1, _ => exact h.c1
  | 2, _ => exact h.c2
  | 3, _ => exact h.c3
  | n + 4, h => omega
theorem Q4.at_lt {q : Q4} (h : q.ok) (j : Nat) : q.at j < 4294967296 := by
  obtain ⟨h1, h2, h3, h4⟩ := h
  unfold Q4.at
  split
  · exact h1
  split
  · exact h2
  split
  · exact h3
  · exact h4
theorem out_at (q : Q4) (k : Nat) (hk : k < 16) : (outN q).getD k 0 = q.at (k / 4) / 2 ^ (k % 4 * 8) % 256 := by
  match k, hk with
  | 0, _ | 4, _ | 8, _ | 12, _ => simp [outN, lowN, Q4.at]
  | 1, _ | 2, _ | 3, _ | 5, _ | 6, _ | 7, _ | 9, _ | 10, _ | 11, _ | 13, _ | 14, _ | 15, _ => simp [outN, lowN, Q4.at, Nat.div_div_eq_div_mul]
  | n + 16, h => omega
theorem outN_byte (q : Q4) : ∀ x ∈ outN q, x < 256 := by
  intro x hx
  simp only [outN, List.mem_append] at hx
  rcases hx with h | h | h | h <;> exact lowN_byte _ _ x h

def TdR (q : Q4) (g1 : Nat) (w0 : World) (i : Value) (wr : World) : Prop :=
  ∃ k : Nat, k ≤ 16 ∧ i = .int .i64 (k : Int) ∧ Row wr g1 95 (bytesOf (laying (natB (outN q)) k)) ∧ Touch (fun j => j = g1) w0 wr
set_option maxHeartbeats 1000000 in
theorem told_any (g : Nat) (q : Q4) (w : World) (hq : q.ok) (h : Quad w g q) :
    Calls Tryz.prog 122 #[.pointer (some ⟨g, 0, none⟩)] w fun e w' => e = .returned (.agg (bytesOf (natB (outN q))).toArray) ∧ Touch (fun _ => False) w w' := by
  have hOl : (natB (outN q)).length = 16 := by rw [length_natB, length_outN]
  have HQ : Hid (Quad w g q) := h
  have HOk : Hid q.ok := hq
  clear h hq
  go_enter Tryz.func122, Tryz.ntmps122
  go_wp2_with fail
  generalize hw2 : World.alloc (World.alloc w _) _ = w2
  have HR1 : Hid (Row w2 w.heap.size 95 (bytesOf (List.replicate 16 0))) := by
    subst hw2
    exact (row_new w _ _).keep ((Touch.refl _ _).alloc _)
  have HR2 : Hid (Row w2 (w.heap.size + 1) 95 (bytesOf (laying (natB (outN q)) 0))) := by
    subst hw2
    rw [laying_zero, hOl]
    have := row_new (w.alloc (.cells #[.int .u8 0, .int .u8 0, .int .u8 0, .int .u8 0, .int .u8 0, .int .u8 0, .int .u8 0, .int .u8 0, .int .u8 0, .int .u8 0, .int .u8 0, .int .u8 0, .int .u8 0, .int .u8 0, .int .u8 0, .int .u8 0] 95)) 95 #[.int .u8 0, .int .u8 0, .int .u8 0, .int .u8 0, .int .u8 0, .int .u8 0, .int .u8 0, .int .u8 0, .int .u8 0, .int .u8 0, .int .u8 0, .int .u8 0, .int .u8 0, .int .u8 0, .int .u8 0, .int .u8 0]
    simp only [World.size_alloc] at this
    exact this
  have HT2 : Hid (Touch (fun _ => False) w w2) := by
    subst hw2
    exact ((Touch.refl _ _).alloc _).alloc _
  have HS2 : Hid (w2.heap.size = w.heap.size + 2) := by
    subst hw2
    simp [Hid]
  clear hw2
  go_loopw [5] (fun i wr => TdR q (w.heap.size + 1) w2 i wr) (fun i _ => 16 - (intOf i).toNat)
  case atStart => exact ⟨0, by omega, rfl, HR2.out, Touch.refl _ _⟩
  case round =>
    obtain ⟨k, hk, rfl, hr, t⟩ := hrel
    have hfz := hr.frozen k
    by_cases hlt : k < 16
    · have hlt' : (k : Int) < 16 := by omega
      have hgl := lt_of_cell HQ.out.c0
      have hc := (HT2.out.cellN (HQ.out.at (k / 4) (by omega)))
      have hcx := (t.cell (lt_of_cell hc) (by show ¬ g = _; omega)).trans hc
      have hS := Q4.at_lt HOk.out (k / 4)
      have HX : Hid ((natB (outN q)).getD k 0 = ((q.at (k / 4) / 2 ^ (k % 4 * 8) % 256 : Nat) : Int)) := by show _ = _; rw [natB_getD, out_at q k hlt]
      have hcell : wr.cell? ⟨w.heap.size + 1, k, none⟩ = some (.int .u8 0) := by
        rw [hr.cell k]
        simp only [bytesOf, List.getElem?_map]
        rw [laying_get _ k k (by omega), if_pos (by omega), if_neg (by omega)]
        rfl
      have HN : Hid (TdR q (w.heap.size + 1) w2 (.int .i64 ((k : Int) + 1)) (wr.setCell ⟨w.heap.size + 1, k, none⟩ (.int .u8 ((natB (outN q)).getD k 0)))) :=
        ⟨k + 1, by omega, by rw [Int.natCast_add]; rfl, by rw [← laying_step _ k (by omega), bytesOf_set]; exact hr.set k _, Touch.setCell (p := ⟨w.heap.size + 1, k, none⟩) t (Or.inl rfl) _⟩
      rw [HX.out] at HN
      generalize q.at (k / 4) = S at hS hcx HN
      have s1 : ((k : Int) % 4 * 8).toNat = k % 4 * 8 := by omega
      have s2 : min (k % 4 * 8) 32 = k % 4 * 8 := by omega
      have s3 : (0 : Int) ≤ (k : Int) % 4 * 8 := by omega
      have s4 : (S : Int) / 2 ^ (k % 4 * 8) % 256 = ((S / 2 ^ (k % 4 * 8) % 256 : Nat) : Int) := by simp
      generalize S / 2 ^ (k % 4 * 8) % 256 = B at s4 HN
      have s5 : ((k : Int) / 4).toNat = k / 4 := by omega
      have s6 : (k : Int) / 4 < 4 := by omega
      have s7 : (0 : Int) ≤ (k : Int) / 4 := by omega
      clear HX hr t hc HQ HOk HR1 HR2 HT2 hgl hOl
      go_wp2
      go_roundw
      case rel => exact HN.out
      case measure => simp [intOf]; omega
    · obtain rfl : k = 16 := by omega
      rw [← hOl, laying_all] at hr
      have hr1 : Row wr w.heap.size 95 (bytesOf (List.replicate 16 0)) := (t.block _ (by have := HS2.out; omega) (by show ¬ _ = _; omega)).trans HR1.out
      have HRa : Hid (Row wr (w.heap.size + 1) 95 (bytesOf (natB (outN q)))) := hr
      have HRb : Hid (Row wr w.heap.size 95 (bytesOf (List.replicate 16 0))) := hr1
      have HTe : Hid (Touch (fun _ => False) w wr) := HT2.out.trans' t (fun i hi e => by have : i = w.heap.size + 1 := e; omega)
      clear hr hr1 t HR1 HR2 HT2 hfz HS2 HQ HOk
      have hOl' : (bytesOf (natB (outN q))).length = 16 := by rw [length_bytesOf, hOl]
      have hO1 := oneCell_bytesOf (natB (outN q))
      generalize hOO : bytesOf (natB (outN q)) = O at HRa hOl' hO1 ⊢
      have HO : Hid (bytesOf (natB (outN q)) = O) := hOO
      clear hOl hOO
      go_wp2_with (first | refine wpList_load_row rfl 95 (.tmp 3) rfl (w.heap.size + 1) rfl 95 _ (0, 0) _ HRa.out Tryz.underlying95 rfl (by rw [Tryz.info16, List.size_toArray, hOl']) ?_ | refine wpList_store_row rfl 95 (.tmp 2) (.tmp 23) rfl w.heap.size O.toArray rfl rfl 95 _ HRb.out (by rw [Tryz.info16, List.size_toArray, hOl']) (by simp [length_bytesOf, hOl']) (all_oneCell hO1) ?_)
      refine bodyPost_ret (results_cell_row Tryz.results122 _ _ w.heap.size 95 O.toArray (0, 0) _ rfl (HRb.out.setRow O.toArray) Tryz.underlying95 rfl (by rw [Tryz.info16, List.size_toArray, hOl'])) rfl ?_
      exact ⟨by rw [HO.out], HTe.out.setRow (Or.inr (Nat.le_refl _)) _⟩
end Go.Proofs.YtjjgbcjgmjggnaaGreatDoor
