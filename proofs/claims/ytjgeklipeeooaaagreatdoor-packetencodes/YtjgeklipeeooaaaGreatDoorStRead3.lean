/- Bodies whose rows are the call's own. -/
import Derived.Test.YtjgeklipeeooaaaGreatDoorStWrite
import Derived.Test.YtjgeklipeeooaaaGreatDoorStRead2
import Derived.Test.YtjgeklipeeooaaaGreatDoorReader
import Derived.Laws.Rows
import Derived.Laws.Tables
import Derived.Test.YtjgeklipeeooaaaGreatDoorStHeadOf
import Derived.Deep.RegionHeld3
import Derived.Deep.RegionLaw
import Derived.Deep.DrawnRows
import Derived.Deep.RegionHeld2
namespace Go.Proofs.YtjgeklipeeooaaaGreatDoor
open Go.RowKit
set_option linter.unusedVariables false
set_option maxRecDepth 100000

/-- A body's three rows are the call's own. -/
structure BOwn (base : Nat) (w : World) (B : BV) (vl vr vd : Value) : Prop where
  l : w.ownsRow base 159 4 vl B.links.length (linksC B.links)
  r : w.ownsRow base 22 1 vr B.routers.length (wordsC B.routers)
  d : w.ownsRow base 5 1 vd B.data.length (bytesOf B.data)
theorem BOwn.touch {F : Nat → Prop} {base : Nat} {w w' : World} {B : BV} {vl vr vd : Value} (h : BOwn base w B vl vr vd) (t : Touch F w w') (hF : ∀ k, base ≤ k → ¬ F k) : BOwn base w' B vl vr vd :=
  ⟨own_touch h.l t (fun k hk => hF k (h.l.lt k hk).1), own_touch h.r t (fun k hk => hF k (h.r.lt k hk).1), own_touch h.d t (fun k hk => hF k (h.d.lt k hk).1)⟩
theorem BOwn.keep {base : Nat} {w w' : World} {B : BV} {vl vr vd : Value} (h : BOwn base w B vl vr vd) (t : Touch (fun _ => False) w w') : BOwn base w' B vl vr vd := h.touch t (fun _ _ h => h)
theorem BOwn.lower {base base' : Nat} {w : World} {B : BV} {vl vr vd : Value} (h : BOwn base w B vl vr vd) (hb : base' ≤ base) : BOwn base' w B vl vr vd := ⟨own_lower h.l hb, own_lower h.r hb, own_lower h.d hb⟩
theorem own_fm {w : World} {base e k n : Nat} {v : Value} {xs : List Value} (h : w.ownsRow base e k v n xs) : ∃ a c, v = .slice a n c := by
  rcases h.2 with ⟨rfl, e⟩ | ⟨g, cap, cur, rfl, _⟩
  · exact ⟨none, 0, by rw [e]⟩
  · exact ⟨_, cap, rfl⟩
theorem BOwn.form {base : Nat} {w : World} {B : BV} {vl vr vd : Value} (h : BOwn base w B vl vr vd) : ∃ a1 q1 a3 q3 a8 q8, vl = .slice a1 B.links.length q1 ∧ vr = .slice a3 B.routers.length q3 ∧ vd = .slice a8 B.data.length q8 := by
  obtain ⟨a1, q1, e1⟩ := own_fm h.l
  obtain ⟨a3, q3, e3⟩ := own_fm h.r
  obtain ⟨a8, q8, e8⟩ := own_fm h.d
  exact ⟨a1, q1, a3, q3, a8, q8, e1, e3, e8⟩
theorem own_vals {w : World} {base e k n : Nat} {v : Value} {xs : List Value} (h : w.ownsRow base e k v n xs) : ValsAt w k v n xs := by
  refine ⟨h.1, ?_⟩
  rcases h.2 with h2 | ⟨g, cap, cur, hv, hb, hh, h1, h2, h3, h4⟩
  · exact Or.inl h2
  · refine Or.inr ⟨_, cap, hv, h1, h2, fun j u hj => ?_⟩
    have hjl := (List.getElem?_eq_some_iff.mp hj).1
    have hl := h.1
    rw [add_plain, Nat.zero_add]
    rw [← h4, List.getElem?_take, if_pos (by omega)] at hj
    simp [World.cell?, hh]
    simpa using hj
theorem BOwn.arg {base : Nat} {w : World} {B : BV} {vl vr vd : Value} (h : BOwn base w B vl vr vd) : BArg w B vl vr vd :=
  ⟨own_vals h.l, own_vals h.r, (own_rowAt h.d).arg⟩
end Go.Proofs.YtjgeklipeeooaaaGreatDoor

namespace Go.Proofs.YtjgeklipeeooaaaGreatDoor
open Go.RowKit
set_option linter.unusedVariables false
set_option maxRecDepth 100000

theorem all_oneCell {cs : List Value} (h : ∀ v ∈ cs, v.oneCell' = true) : cs.toArray.all (·.oneCell') = true := Array.all_eq_true_iff_forall_mem.2 (fun v hv => h v (by simpa using hv))
/-- Block g holds just the cells xs. -/
def Row (w : World) (g : Nat) (T : TypeId) (xs : List Value) : Prop := w.heap[g]? = some (.cells xs.toArray T (0, 0))
theorem Row.cell {w : World} {g : Nat} {T : TypeId} {xs : List Value} (h : Row w g T xs) (j : Nat) : w.cell? ⟨g, j, none⟩ = xs[j]? := by
  rw [cell_of_row w g j _ T _ h]
  simp
theorem Row.frozen {w : World} {g : Nat} {T : TypeId} {xs : List Value} (h : Row w g T xs) (j : Nat) : w.frozen? ⟨g, j, none⟩ = false := frozen_of_row w g j _ T h
theorem Row.set {w : World} {g : Nat} {T : TypeId} {xs : List Value} (h : Row w g T xs) (j : Nat) (u : Value) : Row (w.setCell ⟨g, j, none⟩ u) g T (xs.set j u) := by
  unfold Row at *
  rw [heap_setCell_same w g j _ T u h]
  simp
theorem Row.keep {w w' : World} {g : Nat} {T : TypeId} {xs : List Value} (h : Row w g T xs) (t : Touch (fun _ => False) w w') : Row w' g T xs := t.heapN h
theorem Row.other {w : World} {g : Nat} {T : TypeId} {xs : List Value} (h : Row w g T xs) {p : Addr} (hp : g ≠ p.block) (u : Value) : Row (w.setCell p u) g T xs := (heap_setCell_other w p g u hp).trans h
theorem Row.lt {w : World} {g : Nat} {T : TypeId} {xs : List Value} (h : Row w g T xs) : g < w.heap.size := lt_of_heap h
theorem Row.setRow {w : World} {g : Nat} {T : TypeId} {xs : List Value} (h : Row w g T xs) (cs : Array Value) : Row (w.setRow g cs) g T cs.toList := by
  unfold Row at *
  rw [setRow_heap w g _ cs T _ h]
theorem row_new (w : World) (T : TypeId) (C : Array Value) : Row (w.alloc (.cells C T)) w.heap.size T C.toList := by
  unfold Row
  show (w.heap.push _)[w.heap.size]? = _
  simp
end Go.Proofs.YtjgeklipeeooaaaGreatDoor

namespace Go.Proofs.YtjgeklipeeooaaaGreatDoor
open Go.RowKit
set_option linter.unusedVariables false
set_option maxRecDepth 100000

theorem q8 (rs : List Int) : nextAt rs (nextAt rs (nextAt rs (some 0) 4) 1) 3 = nextAt rs (some 0) 8 := by rw [nextAt_add, nextAt_add]
end Go.Proofs.YtjgeklipeeooaaaGreatDoor

namespace Go.Proofs.YtjgeklipeeooaaaGreatDoor
open Go.RowKit
set_option linter.unusedVariables false
set_option maxRecDepth 100000

attribute [local go_sem ↓] Go.wp_at_zero Go.wp_at_succ
/-- An append to a row of one's own, as a step of a region that draws its order. -/
theorem step_own {P : Program} {w : World} {ops : Array Oper} {o : Oper} {a : Act} {K : Act → World → Prop} {Q : Exit → Act → World → Prop} {E : Prop} (hgd : o.guard = none) (s x : Operand) (t : TypeId)
    (ho : o.op = .call { callee := .builtin .append, args := #[s, x], argTypes := #[t, t] })
    (base : Nat) (e : TypeId) (z : Value) (size bytes : Nat) (ht : P.underlying t = some (.slice e)) (hi : (P.info? e).map (fun i => (i.zero, i.size, i.bytes)) = some (some z, size, bytes)) (hzs : z.cells.size = size) (hsz : 0 < size) (hb64 : bytes ≤ 64)
    (v : Value) (n : Nat) (xs : List Value) (hs : a.eval s = v) (hown : w.ownsRow base e size v n xs)
    (ad : Addr) (m c : Nat) (news : List Value) (hx : a.eval x = .slice (some ad) m c) (hl : news.length = m * size) (hnews : ∀ j u, news[j]? = some u → w.cell? (ad.add j) = some u) (h1 : ∀ u ∈ news, u.oneCell' = true)
    (hlen : n + m ≤ 1099511627776) (hbase : base ≤ w.heap.size)
    (h : ∀ v' w', w'.ownsRow base e size v' (n + m) (xs ++ news) → Touch (fun j => v.ownBlock = some j) w w' → K (a.put o.dst v') w') :
    if Region.wanted o (yielded ops a.tmps) = true then Oper.wp P o a w K Q else E := by
  obtain ⟨i, hi, hz, hsize, hby⟩ := info_parts hi
  have hw : Region.wanted o (yielded ops a.tmps) = true := by simp [Region.wanted, hgd]
  rw [if_pos hw]
  have hmul : (n + m) * bytes ≤ 1099511627776 * 64 := Nat.mul_le_mul hlen hb64
  obtain ⟨v', w', hr, h2, h3, h4, h5⟩ := run_append_own_at (P := P) w base t o.type e i z size bytes ht hi hz hsize hby hzs hsz v n xs hown ad m c news hl hnews h1 (by unfold maxLen; omega) (by omega) hbase
  unfold Oper.wp execOp
  simp only [ho, resolve, invoke, builtin, Sem.run_bind, Sem.run_pure, Result.andThen_ok, List.map_toArray, List.map_cons, List.map_nil, hs, hx, hr]
  exact h v' w' h2 ((Touch.refl _ _).grown h3 (fun k hk => Or.inl hk))
theorem Tryz.infoU : (Tryz.prog.info? 22).map (fun i => (i.zero, i.size, i.bytes)) = some (some (.int .u32 0), 1, 4) := by kernel_rfl
end Go.Proofs.YtjgeklipeeooaaaGreatDoor

namespace Go.Proofs.YtjgeklipeeooaaaGreatDoor
open Go.RowKit
set_option linter.unusedVariables false
set_option maxRecDepth 100000

/-- A link lies in block g, and may be stored into. -/
structure Lk (w : World) (g : Nat) (x : LV) : Prop where
  c0 : w.cell? ⟨g, 0, none⟩ = some (.int .u32 x.id)
  c1 : w.cell? ⟨g, 1, none⟩ = some (.int .u32 x.data)
  c2 : w.cell? ⟨g, 2, none⟩ = some (.int .u8 x.typ)
  c3 : w.cell? ⟨g, 3, none⟩ = some (.int .u16 x.cost)
  f3 : w.frozen? ⟨g, 3, none⟩ = false
theorem Lk.touch {F : Nat → Prop} {w w' : World} {g : Nat} {x : LV} (h : Lk w g x) (t : Touch F w w') (hF : ¬ F g) : Lk w' g x := by
  have hl : g < w.heap.size := lt_of_cell h.c0
  exact ⟨(t.cell (p := ⟨g, 0, none⟩) hl hF).trans h.c0, (t.cell (p := ⟨g, 1, none⟩) hl hF).trans h.c1, (t.cell (p := ⟨g, 2, none⟩) hl hF).trans h.c2, (t.cell (p := ⟨g, 3, none⟩) hl hF).trans h.c3, (t.frozen (p := ⟨g, 3, none⟩) hl hF).trans h.f3⟩
/-- Room for a link. -/
structure RoomL (w : World) (g n : Nat) : Prop where
  out : Room w g n
theorem RoomL.touch {w w' : World} {g n b : Nat} (h : RoomL w g n) (t : Touch (fun k => k = b) w w') (hne : b ≠ g) : RoomL w' g n := ⟨h.out.touch t (fun e => hne e.symm)⟩
end Go.Proofs.YtjgeklipeeooaaaGreatDoor

namespace Go.Proofs.YtjgeklipeeooaaaGreatDoor
open Go.RowKit
set_option linter.unusedVariables false
set_option maxRecDepth 100000

attribute [local go_sem ↓] Go.wp_at_zero Go.wp_at_succ
end Go.Proofs.YtjgeklipeeooaaaGreatDoor

namespace Go.Proofs.YtjgeklipeeooaaaGreatDoor
open Go.RowKit
set_option linter.unusedVariables false
set_option maxRecDepth 100000

theorem q16 (rs : List Int) : nextAt rs (nextAt rs (nextAt rs (nextAt rs (nextAt rs (some 0) 4) 1) 3) 4) 4 = nextAt rs (some 0) 16 := by rw [nextAt_add, nextAt_add, nextAt_add, nextAt_add]
end Go.Proofs.YtjgeklipeeooaaaGreatDoor

namespace Go.Proofs.YtjgeklipeeooaaaGreatDoor
open Go.RowKit
set_option linter.unusedVariables false
set_option maxRecDepth 100000

set_option maxHeartbeats 1000000 in
theorem read_no (v : Value) (rs : List Int) (err : Int) (w : World) (hv : ArgAt w v rs)
    (HC1 : ∀ w', Touch (fun _ => False) w w' → w'.cell? ⟨w.heap.size, 0, none⟩ = some v → Calls Tryz.prog 187 #[.pointer (some ⟨w.heap.size, 0, none⟩)] w' fun e w'' => e = .panicked (flawC err) ∧ Touch (fun _ => False) w' w'') :
    Calls Tryz.prog 176 #[v] w fun e w' => e = .returned (.tuple #[.agg #[.int .u16 0, .int .u8 0, .int .u8 0, .int .u32 0, .int .u32 0, .int .i32 0, .int .u16 0, .int .u16 0, .slice none 0 0], .int .i64 0, .int .i64 err]) ∧ Touch (fun _ => False) w w' := by
  obtain ⟨va, vc, rfl, hm⟩ := hv.form
  have hmf : ∀ (fn : Fn) (first cap : Array Value) (w : World), (Instr.makeFunc fn first cap).run Tryz.prog w = .ok (.func fn first cap) w := fun _ _ _ _ => rfl
  have HC := HC1 ((((w.alloc (.cells #[.slice va rs.length vc] 40)).alloc (.cells #[.int .u16 0, .int .u8 0, .int .u8 0, .int .u32 0, .int .u32 0, .int .i32 0, .int .u16 0, .int .u16 0, .slice none 0 0] 95)).alloc (.cells #[.int .u16 0, .int .u8 0, .int .u8 0, .int .u32 0, .int .u32 0, .int .i32 0, .int .u16 0, .int .u16 0, .slice none 0 0] 95)).alloc (.cells #[.int .i64 0] 41)) (((((Touch.refl _ w).alloc _).alloc _).alloc _).alloc _) (by simp [go_sem])
  clear HC1 hv
  have HF := faceS_no 187 #[.pointer (some ⟨w.heap.size, 0, none⟩)] (fun _ => rfl) ((w.alloc (.cells #[.slice va rs.length vc] 40)).alloc (.cells #[.int .u16 0, .int .u8 0, .int .u8 0, .int .u32 0, .int .u32 0, .int .i32 0, .int .u16 0, .int .u16 0, .slice none 0 0] 95)) err HC
  clear HC
  go_enter Tryz.func176, Tryz.ntmps176
  go_wp2_with fail
  refine Calls.mono HF ?_
  rintro e w1 ⟨rfl, t1⟩
  clear HF hmf
  have R1 : Room w1 (w.heap.size + 1) 9 := by
    have := (Room.new (w.alloc (.cells #[.slice va rs.length vc] 40)) #[.int .u16 0, .int .u8 0, .int .u8 0, .int .u32 0, .int .u32 0, .int .i32 0, .int .u16 0, .int .u16 0, .slice none 0 0] 95).keep t1
    simpa using this
  obtain ⟨zz0, zc0, zf0⟩ := R1 0 (by omega)
  obtain ⟨zz1, zc1, zf1⟩ := R1 1 (by omega)
  obtain ⟨zz2, zc2, zf2⟩ := R1 2 (by omega)
  obtain ⟨zz3, zc3, zf3⟩ := R1 3 (by omega)
  obtain ⟨zz4, zc4, zf4⟩ := R1 4 (by omega)
  obtain ⟨zz5, zc5, zf5⟩ := R1 5 (by omega)
  obtain ⟨zz6, zc6, zf6⟩ := R1 6 (by omega)
  obtain ⟨zz7, zc7, zf7⟩ := R1 7 (by omega)
  obtain ⟨zz8, zc8, zf8⟩ := R1 8 (by omega)
  obtain ⟨w3, hw3⟩ : ∃ w3, w3 = (((((((((w1.setCell ⟨(w.heap.size + 1), 0, none⟩ (.int .u16 0)).setCell ⟨(w.heap.size + 1), 1, none⟩ (.int .u8 0)).setCell ⟨(w.heap.size + 1), 2, none⟩ (.int .u8 0)).setCell ⟨(w.heap.size + 1), 3, none⟩ (.int .u32 0)).setCell ⟨(w.heap.size + 1), 4, none⟩ (.int .u32 0)).setCell ⟨(w.heap.size + 1), 5, none⟩ (.int .i32 0)).setCell ⟨(w.heap.size + 1), 6, none⟩ (.int .u16 0)).setCell ⟨(w.heap.size + 1), 7, none⟩ (.int .u16 0)).setCell ⟨(w.heap.size + 1), 8, none⟩ (.slice none 0 0)) := ⟨_, rfl⟩
  have xd0 : w3.cell? ⟨w.heap.size + 1, 0, none⟩ = some (.int .u16 0) := by rw [hw3]; simp [zc0, go_sem]
  have xd1 : w3.cell? ⟨w.heap.size + 1, 1, none⟩ = some (.int .u8 0) := by rw [hw3]; simp [zc1, go_sem]
  have xd2 : w3.cell? ⟨w.heap.size + 1, 2, none⟩ = some (.int .u8 0) := by rw [hw3]; simp [zc2, go_sem]
  have xd3 : w3.cell? ⟨w.heap.size + 1, 3, none⟩ = some (.int .u32 0) := by rw [hw3]; simp [zc3, go_sem]
  have xd4 : w3.cell? ⟨w.heap.size + 1, 4, none⟩ = some (.int .u32 0) := by rw [hw3]; simp [zc4, go_sem]
  have xd5 : w3.cell? ⟨w.heap.size + 1, 5, none⟩ = some (.int .i32 0) := by rw [hw3]; simp [zc5, go_sem]
  have xd6 : w3.cell? ⟨w.heap.size + 1, 6, none⟩ = some (.int .u16 0) := by rw [hw3]; simp [zc6, go_sem]
  have xd7 : w3.cell? ⟨w.heap.size + 1, 7, none⟩ = some (.int .u16 0) := by rw [hw3]; simp [zc7, go_sem]
  have xd8 : w3.cell? ⟨w.heap.size + 1, 8, none⟩ = some (.slice none 0 0) := by rw [hw3]; simp [zc8, go_sem]
  have R3 : Hid (Room w3 (w.heap.size + 1) 9) := by show Room _ _ _; rw [hw3]; exact (((((((((R1.set 0 _).set 1 _).set 2 _).set 3 _).set 4 _).set 5 _).set 6 _).set 7 _).set 8 _)
  have U3 : Hid (Touch (fun k => k = w.heap.size + 1) w1 w3) := by show Touch _ _ _; rw [hw3]; refine Touch.setCell (F := fun k => k = w.heap.size + 1) (p := ⟨w.heap.size + 1, 8, none⟩) ?_ (Or.inl rfl) _; refine Touch.setCell (F := fun k => k = w.heap.size + 1) (p := ⟨w.heap.size + 1, 7, none⟩) ?_ (Or.inl rfl) _; refine Touch.setCell (F := fun k => k = w.heap.size + 1) (p := ⟨w.heap.size + 1, 6, none⟩) ?_ (Or.inl rfl) _; refine Touch.setCell (F := fun k => k = w.heap.size + 1) (p := ⟨w.heap.size + 1, 5, none⟩) ?_ (Or.inl rfl) _; refine Touch.setCell (F := fun k => k = w.heap.size + 1) (p := ⟨w.heap.size + 1, 4, none⟩) ?_ (Or.inl rfl) _; refine Touch.setCell (F := fun k => k = w.heap.size + 1) (p := ⟨w.heap.size + 1, 3, none⟩) ?_ (Or.inl rfl) _; refine Touch.setCell (F := fun k => k = w.heap.size + 1) (p := ⟨w.heap.size + 1, 2, none⟩) ?_ (Or.inl rfl) _; refine Touch.setCell (F := fun k => k = w.heap.size + 1) (p := ⟨w.heap.size + 1, 1, none⟩) ?_ (Or.inl rfl) _; refine Touch.setCell (F := fun k => k = w.heap.size + 1) (p := ⟨w.heap.size + 1, 0, none⟩) ?_ (Or.inl rfl) _; exact Touch.refl _ _
  have HT1 : Hid (Touch (fun _ => False) ((w.alloc (.cells #[.slice va rs.length vc] 40)).alloc (.cells #[.int .u16 0, .int .u8 0, .int .u8 0, .int .u32 0, .int .u32 0, .int .i32 0, .int .u16 0, .int .u16 0, .slice none 0 0] 95)) w1) := t1
  have HW3 : Hid (w3 = (((((((((w1.setCell ⟨(w.heap.size + 1), 0, none⟩ (.int .u16 0)).setCell ⟨(w.heap.size + 1), 1, none⟩ (.int .u8 0)).setCell ⟨(w.heap.size + 1), 2, none⟩ (.int .u8 0)).setCell ⟨(w.heap.size + 1), 3, none⟩ (.int .u32 0)).setCell ⟨(w.heap.size + 1), 4, none⟩ (.int .u32 0)).setCell ⟨(w.heap.size + 1), 5, none⟩ (.int .i32 0)).setCell ⟨(w.heap.size + 1), 6, none⟩ (.int .u16 0)).setCell ⟨(w.heap.size + 1), 7, none⟩ (.int .u16 0)).setCell ⟨(w.heap.size + 1), 8, none⟩ (.slice none 0 0))) := hw3
  clear hw3 t1 R1
  go_upto_region 2 with fail
  rw [← HW3.out]
  clear HW3 zc0 zf0 zc1 zf1 zc2 zf2 zc3 zf3 zc4 zf4 zc5 zf5 zc6 zf6 zc7 zf7 zc8 zf8
  have HTA : Hid (Touch (fun _ => False) w ((w.alloc (.cells #[.slice va rs.length vc] 40)).alloc (.cells #[.int .u16 0, .int .u8 0, .int .u8 0, .int .u32 0, .int .u32 0, .int .i32 0, .int .u16 0, .int .u16 0, .slice none 0 0] 95))) := ((Touch.refl _ w).alloc _).alloc _
  generalize hg : w.heap.size + 1 = g at *
  have HG : Hid (w.heap.size + 1 = g) := hg
  clear hg
  obtain ⟨zz0, zc0, zf0⟩ := R3.out 0 (by omega)
  obtain ⟨zz1, zc1, zf1⟩ := R3.out 1 (by omega)
  obtain ⟨zz2, zc2, zf2⟩ := R3.out 2 (by omega)
  obtain ⟨zz3, zc3, zf3⟩ := R3.out 3 (by omega)
  obtain ⟨zz4, zc4, zf4⟩ := R3.out 4 (by omega)
  obtain ⟨zz5, zc5, zf5⟩ := R3.out 5 (by omega)
  obtain ⟨zz6, zc6, zf6⟩ := R3.out 6 (by omega)
  obtain ⟨zz7, zc7, zf7⟩ := R3.out 7 (by omega)
  obtain ⟨zz8, zc8, zf8⟩ := R3.out 8 (by omega)
  obtain ⟨wz, hwz⟩ : ∃ wz, wz = (((((((((w3.setCell ⟨g, 0, none⟩ (.int .u16 0)).setCell ⟨g, 1, none⟩ (.int .u8 0)).setCell ⟨g, 2, none⟩ (.int .u8 0)).setCell ⟨g, 3, none⟩ (.int .u32 0)).setCell ⟨g, 4, none⟩ (.int .u32 0)).setCell ⟨g, 5, none⟩ (.int .i32 0)).setCell ⟨g, 6, none⟩ (.int .u16 0)).setCell ⟨g, 7, none⟩ (.int .u16 0)).setCell ⟨g, 8, none⟩ (.slice none 0 0)) := ⟨_, rfl⟩
  have zd0 : wz.cell? ⟨g, 0, none⟩ = some (.int .u16 0) := by rw [hwz]; simp [zc0, go_sem]
  have zd1 : wz.cell? ⟨g, 1, none⟩ = some (.int .u8 0) := by rw [hwz]; simp [zc1, go_sem]
  have zd2 : wz.cell? ⟨g, 2, none⟩ = some (.int .u8 0) := by rw [hwz]; simp [zc2, go_sem]
  have zd3 : wz.cell? ⟨g, 3, none⟩ = some (.int .u32 0) := by rw [hwz]; simp [zc3, go_sem]
  have zd4 : wz.cell? ⟨g, 4, none⟩ = some (.int .u32 0) := by rw [hwz]; simp [zc4, go_sem]
  have zd5 : wz.cell? ⟨g, 5, none⟩ = some (.int .i32 0) := by rw [hwz]; simp [zc5, go_sem]
  have zd6 : wz.cell? ⟨g, 6, none⟩ = some (.int .u16 0) := by rw [hwz]; simp [zc6, go_sem]
  have zd7 : wz.cell? ⟨g, 7, none⟩ = some (.int .u16 0) := by rw [hwz]; simp [zc7, go_sem]
  have zd8 : wz.cell? ⟨g, 8, none⟩ = some (.slice none 0 0) := by rw [hwz]; simp [zc8, go_sem]
  have HUz : Hid (Touch (fun k => k = g) w3 wz) := by show Touch _ _ _; rw [hwz]; refine Touch.setCell (F := fun k => k = g) (p := ⟨g, 8, none⟩) ?_ (Or.inl rfl) _; refine Touch.setCell (F := fun k => k = g) (p := ⟨g, 7, none⟩) ?_ (Or.inl rfl) _; refine Touch.setCell (F := fun k => k = g) (p := ⟨g, 6, none⟩) ?_ (Or.inl rfl) _; refine Touch.setCell (F := fun k => k = g) (p := ⟨g, 5, none⟩) ?_ (Or.inl rfl) _; refine Touch.setCell (F := fun k => k = g) (p := ⟨g, 4, none⟩) ?_ (Or.inl rfl) _; refine Touch.setCell (F := fun k => k = g) (p := ⟨g, 3, none⟩) ?_ (Or.inl rfl) _; refine Touch.setCell (F := fun k => k = g) (p := ⟨g, 2, none⟩) ?_ (Or.inl rfl) _; refine Touch.setCell (F := fun k => k = g) (p := ⟨g, 1, none⟩) ?_ (Or.inl rfl) _; refine Touch.setCell (F := fun k => k = g) (p := ⟨g, 0, none⟩) ?_ (Or.inl rfl) _; exact Touch.refl _ _
  have HWz : Hid (wz = (((((((((w3.setCell ⟨g, 0, none⟩ (.int .u16 0)).setCell ⟨g, 1, none⟩ (.int .u8 0)).setCell ⟨g, 2, none⟩ (.int .u8 0)).setCell ⟨g, 3, none⟩ (.int .u32 0)).setCell ⟨g, 4, none⟩ (.int .u32 0)).setCell ⟨g, 5, none⟩ (.int .i32 0)).setCell ⟨g, 6, none⟩ (.int .u16 0)).setCell ⟨g, 7, none⟩ (.int .u16 0)).setCell ⟨g, 8, none⟩ (.slice none 0 0))) := hwz
  clear hwz
  go_wp2_with fail
  rw [← HWz.out]
  clear HWz zc0 zf0 zc1 zf1 zc2 zf2 zc3 zf3 zc4 zf4 zc5 zf5 zc6 zf6 zc7 zf7 zc8 zf8
  refine bodyPost_ret (v := .tuple #[.agg #[.int .u16 0, .int .u8 0, .int .u8 0, .int .u32 0, .int .u32 0, .int .i32 0, .int .u16 0, .int .u16 0, .slice none 0 0], .int .i64 0, .int .i64 err]) (by simp [results, Tryz.results176, go_sem, zd0, zd1, zd2, zd3, zd4, zd5, zd6, zd7, zd8]) rfl ?_
  refine ⟨rfl, ?_⟩
  exact ((HTA.out.trans HT1.out).trans' U3.out (fun i hi e => by have := HG.out; omega)).trans' HUz.out (fun i hi e => by have := HG.out; omega)
/-- What Read tells of bytes that it refuses. -/
def readE (rs : List Int) : Int := if rs.length < 20 then 10 else if (rdHead (rs.take 20)).len < 20 then 22 else if (rs.length : Int) < (rdHead (rs.take 20)).len then 10 else 0
theorem read_bad (v : Value) (rs : List Int) (w : World) (hv : ArgAt w v rs) (hby : ∀ z ∈ rs, 0 ≤ z ∧ z < 256) (hl2 : rs.length ≤ 1099511627776) (he : readE rs ≠ 0) :
    Calls Tryz.prog 176 #[v] w fun e w' => e = .returned (.tuple #[.agg #[.int .u16 0, .int .u8 0, .int .u8 0, .int .u32 0, .int .u32 0, .int .i32 0, .int .u16 0, .int .u16 0, .slice none 0 0], .int .i64 0, .int .i64 (readE rs)]) ∧ Touch (fun _ => False) w w' := by
  by_cases h1 : rs.length < 20
  · have e : readE rs = 10 := by simp [readE, h1]
    rw [e]
    exact read_no v rs 10 w hv (fun w' t hc => read1_short _ v rs w' hc (hv.keepN t) hby h1)
  · by_cases h2 : (rdHead (rs.take 20)).len < 20
    · have e : readE rs = 22 := by simp [readE, h1, h2]
      rw [e]
      exact read_no v rs 22 w hv (fun w' t hc => read1_low _ v rs w' hc (hv.keepN t) hby (by omega) hl2 h2)
    · by_cases h3 : (rs.length : Int) < (rdHead (rs.take 20)).len
      · have e : readE rs = 10 := by simp [readE, h1, h2, h3]
        rw [e]
        exact read_no v rs 10 w hv (fun w' t hc => read1_miss _ v rs w' hc (hv.keepN t) hby (by omega) hl2 (by omega) h3)
      · simp [readE, h1, h2, h3] at he
end Go.Proofs.YtjgeklipeeooaaaGreatDoor
