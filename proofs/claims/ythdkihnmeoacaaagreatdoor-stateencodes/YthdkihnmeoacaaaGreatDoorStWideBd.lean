/- Contracts: CopyBytes, CopyState, EqState where both are the same. -/
import Derived.Test.YthdkihnmeoacaaaGreatDoorRefRdH
import Derived.Test.YthdkihnmeoacaaaGreatDoorRefRead
import Derived.Test.YthdkihnmeoacaaaGreatDoorStEqS
import Derived.Test.YthdkihnmeoacaaaGreatDoorStRRtr
import Derived.Test.YthdkihnmeoacaaaGreatDoorStLives2
import Derived.Deep.QuietTactic
import Derived.Test.YthdkihnmeoacaaaGreatDoorWideK
import Derived.Test.YthdkihnmeoacaaaGreatDoorWideB
import Derived.Test.YthdkihnmeoacaaaGreatDoorBagAdd
namespace Go.Proofs.YthdkihnmeoacaaaGreatDoor
open Go.RowKit
set_option linter.unusedVariables false
set_option maxRecDepth 100000

end Go.Proofs.YthdkihnmeoacaaaGreatDoor

namespace Go.Proofs.YthdkihnmeoacaaaGreatDoor
open Go.RowKit
set_option linter.unusedVariables false
set_option maxRecDepth 100000

set_option maxHeartbeats 1000000 in
theorem elinks_true (va vb : Value) (l : List LV) (w : World) (ha : LinksAt w va l) (hb : LinksAt w vb l) :
    Calls Tryz.prog 44 #[va, vb] w fun e w' => e = .returned (.bool true) ∧ ∃ n, w' = w.drewN n := by
  obtain ⟨aa, ca, rfl, hm⟩ := ValsAt.form ha
  obtain ⟨ab, cb, rfl, _⟩ := ValsAt.form hb
  unfold maxLen at hm
  have HA : Hid (LinksAt w (.slice aa l.length ca) l) := ha
  have HB : Hid (LinksAt w (.slice ab l.length cb) l) := hb
  clear ha hb
  go_enter Tryz.func44, Tryz.ntmps44
  go_wp2
  go_loopw [5] (fun i wr => ∃ k nd : Nat, k ≤ l.length ∧ i = .int .i64 k ∧ wr = w.drewN nd) (fun i _ => l.length - (intOf i).toNat)
  case atStart => exact ⟨0, 0, Nat.zero_le _, rfl, rfl⟩
  case round =>
    obtain ⟨j, nd, hk, rfl, rfl⟩ := hrel
    by_cases hlt : j < l.length
    · obtain ⟨x, hx⟩ : ∃ x, l[j]? = some x := ⟨l[j], by simp [hlt]⟩
      obtain ⟨ga, oa, _, ea, -, -, za⟩ := ValsAt.cells HA.out (by omega) (by omega)
      obtain ⟨gb, ob, _, eb, -, -, zb⟩ := ValsAt.cells HB.out (by omega) (by omega)
      cases ea
      cases eb
      have pa : ∀ i u, i < 4 → x.cells[i]? = some u → w.cell? ⟨ga, oa + (j * 4 + i), none⟩ = some u := fun i u hi hu => za (j * 4 + i) u (by rw [linksC_at l j i x hx hi]; exact hu)
      have pb : ∀ i u, i < 4 → x.cells[i]? = some u → w.cell? ⟨gb, ob + (j * 4 + i), none⟩ = some u := fun i u hi hu => zb (j * 4 + i) u (by rw [linksC_at l j i x hx hi]; exact hu)
      have ha0 : w.cell? ⟨ga, oa + j * 4, none⟩ = some (.int .u32 x.id) := pa 0 _ (by omega) rfl
      have ha1 : w.cell? ⟨ga, oa + j * 4 + 1, none⟩ = some (.int .u32 x.data) := by rw [Nat.add_assoc]; exact pa 1 _ (by omega) rfl
      have ha2 : w.cell? ⟨ga, oa + j * 4 + 2, none⟩ = some (.int .u8 x.typ) := by rw [Nat.add_assoc]; exact pa 2 _ (by omega) rfl
      have ha3 : w.cell? ⟨ga, oa + j * 4 + 3, none⟩ = some (.int .u16 x.cost) := by rw [Nat.add_assoc]; exact pa 3 _ (by omega) rfl
      have hb0 : w.cell? ⟨gb, ob + j * 4, none⟩ = some (.int .u32 x.id) := pb 0 _ (by omega) rfl
      have hb1 : w.cell? ⟨gb, ob + j * 4 + 1, none⟩ = some (.int .u32 x.data) := by rw [Nat.add_assoc]; exact pb 1 _ (by omega) rfl
      have hb2 : w.cell? ⟨gb, ob + j * 4 + 2, none⟩ = some (.int .u8 x.typ) := by rw [Nat.add_assoc]; exact pb 2 _ (by omega) rfl
      have hb3 : w.cell? ⟨gb, ob + j * 4 + 3, none⟩ = some (.int .u16 x.cost) := by rw [Nat.add_assoc]; exact pb 3 _ (by omega) rfl
      clear za zb pa pb hx HA HB
      go_wp2
      go_quiet (fail)
      go_wp2
      go_roundw
      case rel => exact ⟨j + 1, _, by omega, by go_num, rfl⟩
      case measure => simp [intOf]; omega
    · go_wp2
      go_ret
      exact ⟨rfl, nd, rfl⟩
set_option maxHeartbeats 1000000 in
theorem ewords_true (va vb : Value) (l : List Int) (w : World) (ha : WordsAt w va l) (hb : WordsAt w vb l) :
    Calls Tryz.prog 45 #[va, vb] w fun e w' => e = .returned (.bool true) ∧ ∃ n, w' = w.drewN n := by
  obtain ⟨aa, ca, rfl, hm⟩ := ValsAt.form ha
  obtain ⟨ab, cb, rfl, _⟩ := ValsAt.form hb
  unfold maxLen at hm
  have HA : Hid (WordsAt w (.slice aa l.length ca) l) := ha
  have HB : Hid (WordsAt w (.slice ab l.length cb) l) := hb
  clear ha hb
  go_enter Tryz.func45, Tryz.ntmps45
  go_wp2
  go_loopw [5] (fun i wr => ∃ k nd : Nat, k ≤ l.length ∧ i = .int .i64 k ∧ wr = w.drewN nd) (fun i _ => l.length - (intOf i).toNat)
  case atStart => exact ⟨0, 0, Nat.zero_le _, rfl, rfl⟩
  case round =>
    obtain ⟨j, nd, hk, rfl, rfl⟩ := hrel
    by_cases hlt : j < l.length
    · obtain ⟨x, hx⟩ : ∃ x, l[j]? = some x := ⟨l[j], by simp [hlt]⟩
      obtain ⟨ga, oa, _, ea, -, -, za⟩ := ValsAt.cells HA.out (by omega) (by omega)
      obtain ⟨gb, ob, _, eb, -, -, zb⟩ := ValsAt.cells HB.out (by omega) (by omega)
      cases ea
      cases eb
      have pa : ∀ (i : Nat) u, i < 1 → [Value.int .u32 x][i]? = some u → w.cell? ⟨ga, oa + j, none⟩ = some u := fun i u hi hu => za j u (by have hi0 : i = 0 := (by omega); subst hi0; simpa [wordsC, hx] using hu)
      have pb : ∀ (i : Nat) u, i < 1 → [Value.int .u32 x][i]? = some u → w.cell? ⟨gb, ob + j, none⟩ = some u := fun i u hi hu => zb j u (by have hi0 : i = 0 := (by omega); subst hi0; simpa [wordsC, hx] using hu)
      have ha0 : w.cell? ⟨ga, oa + j, none⟩ = some (.int .u32 x) := pa 0 _ (by omega) rfl
      have hb0 : w.cell? ⟨gb, ob + j, none⟩ = some (.int .u32 x) := pb 0 _ (by omega) rfl
      clear za zb pa pb hx HA HB
      go_wp2
      go_quiet (fail)
      go_wp2
      go_roundw
      case rel => exact ⟨j + 1, _, by omega, by go_num, rfl⟩
      case measure => simp [intOf]; omega
    · go_wp2
      go_ret
      exact ⟨rfl, nd, rfl⟩
theorem OutB.put1 {w : World} {g : Nat} {b : BV} {vl vr vd : Value} (k : OutB w g b vl vr vd) (u : Value) : OutB (w.setCell ⟨g, 1, none⟩ u) g b u vr vd := k.row1 b.links u
theorem OutB.put3 {w : World} {g : Nat} {b : BV} {vl vr vd : Value} (k : OutB w g b vl vr vd) (u : Value) : OutB (w.setCell ⟨g, 3, none⟩ u) g b vl u vd := k.row3 b.routers u
theorem OutB.put8 {w : World} {g : Nat} {b : BV} {vl vr vd : Value} (k : OutB w g b vl vr vd) (u : Value) : OutB (w.setCell ⟨g, 8, none⟩ u) g b vl vr u := by
  obtain ⟨⟨c0, c1, c2, c3, c4, c5, c6, c7, c8⟩, fz⟩ := k
  exact ⟨⟨by simp [c0, go_sem], by simp [c1, go_sem], by simp [c2, go_sem], by simp [c3, go_sem], by simp [c4, go_sem], by simp [c5, go_sem], by simp [c6, go_sem], by simp [c7, go_sem], by simp [c8, go_sem]⟩, fun i hi => by simp [fz i hi, go_sem]⟩
set_option maxHeartbeats 2000000 in
/-- Two bodies that are the same. -/
theorem ebody_true (B : BV) (a1 a3 a8 c1 c3 c8 : Option Addr) (q1 q3 q8 r1 r3 r8 : Nat) (w : World) (h1 : BArg w B (.slice a1 B.links.length q1) (.slice a3 B.routers.length q3) (.slice a8 B.data.length q8)) (hr1 : RowAt w (.slice a8 B.data.length q8) B.data) (h2 : BArg w B (.slice c1 B.links.length r1) (.slice c3 B.routers.length r3) (.slice c8 B.data.length r8)) : Calls Tryz.prog 12 #[B.v (.slice a1 B.links.length q1) (.slice a3 B.routers.length q3) (.slice a8 B.data.length q8), B.v (.slice c1 B.links.length r1) (.slice c3 B.routers.length r3) (.slice c8 B.data.length r8)] w fun e w' => e = .returned (.bool true) ∧ Touch (fun _ => False) w w' := by
  have HA : Hid (BArg w B (.slice a1 B.links.length q1) (.slice a3 B.routers.length q3) (.slice a8 B.data.length q8)) := h1
  have HC : Hid (BArg w B (.slice c1 B.links.length r1) (.slice c3 B.routers.length r3) (.slice c8 B.data.length r8)) := h2
  have HR : Hid (RowAt w (.slice a8 B.data.length q8) B.data) := hr1
  clear h1 h2 hr1
  show Calls Tryz.prog 12 #[.agg #[.int .u8 B.flags, .slice a1 B.links.length q1, .int .u32 B.mask, .slice a3 B.routers.length q3, .int .u32 B.metric, .bool B.type2, .int .u32 B.fwd, .int .u32 B.tag, .slice a8 B.data.length q8], .agg #[.int .u8 B.flags, .slice c1 B.links.length r1, .int .u32 B.mask, .slice c3 B.routers.length r3, .int .u32 B.metric, .bool B.type2, .int .u32 B.fwd, .int .u32 B.tag, .slice c8 B.data.length r8]] w _
  have T0 : Hid (Touch (fun _ => False) w ((w.alloc (.cells #[.int .u8 B.flags, .slice a1 B.links.length q1, .int .u32 B.mask, .slice a3 B.routers.length q3, .int .u32 B.metric, .bool B.type2, .int .u32 B.fwd, .int .u32 B.tag, .slice a8 B.data.length q8] 30)).alloc (.cells #[.int .u8 B.flags, .slice c1 B.links.length r1, .int .u32 B.mask, .slice c3 B.routers.length r3, .int .u32 B.metric, .bool B.type2, .int .u32 B.fwd, .int .u32 B.tag, .slice c8 B.data.length r8] 30))) := ((Touch.refl _ w).alloc _).alloc _
  have O1 : Hid (Bd ((w.alloc (.cells #[.int .u8 B.flags, .slice a1 B.links.length q1, .int .u32 B.mask, .slice a3 B.routers.length q3, .int .u32 B.metric, .bool B.type2, .int .u32 B.fwd, .int .u32 B.tag, .slice a8 B.data.length q8] 30)).alloc (.cells #[.int .u8 B.flags, .slice c1 B.links.length r1, .int .u32 B.mask, .slice c3 B.routers.length r3, .int .u32 B.metric, .bool B.type2, .int .u32 B.fwd, .int .u32 B.tag, .slice c8 B.data.length r8] 30)) w.heap.size B (.slice a1 B.links.length q1) (.slice a3 B.routers.length q3) (.slice a8 B.data.length q8)) := (Bd.new w B (.slice a1 B.links.length q1) (.slice a3 B.routers.length q3) (.slice a8 B.data.length q8) 30).keep ((Touch.refl _ _).alloc _)
  have O2 : Hid (Bd ((w.alloc (.cells #[.int .u8 B.flags, .slice a1 B.links.length q1, .int .u32 B.mask, .slice a3 B.routers.length q3, .int .u32 B.metric, .bool B.type2, .int .u32 B.fwd, .int .u32 B.tag, .slice a8 B.data.length q8] 30)).alloc (.cells #[.int .u8 B.flags, .slice c1 B.links.length r1, .int .u32 B.mask, .slice c3 B.routers.length r3, .int .u32 B.metric, .bool B.type2, .int .u32 B.fwd, .int .u32 B.tag, .slice c8 B.data.length r8] 30)) (w.heap.size + 1) B (.slice c1 B.links.length r1) (.slice c3 B.routers.length r3) (.slice c8 B.data.length r8)) := by
    have := Bd.new (w.alloc (.cells #[.int .u8 B.flags, .slice a1 B.links.length q1, .int .u32 B.mask, .slice a3 B.routers.length q3, .int .u32 B.metric, .bool B.type2, .int .u32 B.fwd, .int .u32 B.tag, .slice a8 B.data.length q8] 30)) B (.slice c1 B.links.length r1) (.slice c3 B.routers.length r3) (.slice c8 B.data.length r8) 30
    show Bd _ _ _ _ _ _
    simpa using this
  go_enter Tryz.func12, Tryz.ntmps12
  go_upto_region 1 with fail
  generalize ((w.alloc (.cells #[.int .u8 B.flags, .slice a1 B.links.length q1, .int .u32 B.mask, .slice a3 B.routers.length q3, .int .u32 B.metric, .bool B.type2, .int .u32 B.fwd, .int .u32 B.tag, .slice a8 B.data.length q8] 30)).alloc (.cells #[.int .u8 B.flags, .slice c1 B.links.length r1, .int .u32 B.mask, .slice c3 B.routers.length r3, .int .u32 B.metric, .bool B.type2, .int .u32 B.fwd, .int .u32 B.tag, .slice c8 B.data.length r8] 30)) = w0 at *
  generalize w.heap.size + 1 = g2 at *
  generalize w.heap.size = g1 at *
  obtain ⟨d0, d1, d2, d3, d4, d5, d6, d7, d8⟩ := O1.out
  obtain ⟨e0, e1, e2, e3, e4, e5, e6, e7, e8⟩ := O2.out
  go_wp2_with fail
  refine Calls.mono (elinks_true _ _ B.links _ (HA.out.l.keep T0.out) (HC.out.l.keep T0.out)) ?_
  rintro e w1 ⟨rfl, n1, hw1⟩
  have t1 : Touch (fun _ => False) w0 w1 := hw1 ▸ (Touch.refl _ _).drewN n1
  have T1 : Hid (Touch (fun _ => False) w w1) := T0.out.trans t1
  have P1 : Hid (Bd w1 g1 B (.slice a1 B.links.length q1) (.slice a3 B.routers.length q3) (.slice a8 B.data.length q8)) := O1.out.keep t1
  have P2 : Hid (Bd w1 g2 B (.slice c1 B.links.length r1) (.slice c3 B.routers.length r3) (.slice c8 B.data.length r8)) := O2.out.keep t1
  clear hw1 t1 d0 d1 d2 d3 d4 d5 d6 d7 d8 e0 e1 e2 e3 e4 e5 e6 e7 e8 O1 O2 T0
  obtain ⟨d0, d1, d2, d3, d4, d5, d6, d7, d8⟩ := P1.out
  obtain ⟨e0, e1, e2, e3, e4, e5, e6, e7, e8⟩ := P2.out
  go_wp2_with fail
  refine Calls.mono (ewords_true _ _ B.routers _ (HA.out.r.keep T1.out) (HC.out.r.keep T1.out)) ?_
  rintro e w2 ⟨rfl, n2, hw2⟩
  have t2 : Touch (fun _ => False) w1 w2 := hw2 ▸ (Touch.refl _ _).drewN n2
  have T2 : Hid (Touch (fun _ => False) w w2) := T1.out.trans t2
  have Q1 : Hid (Bd w2 g1 B (.slice a1 B.links.length q1) (.slice a3 B.routers.length q3) (.slice a8 B.data.length q8)) := P1.out.keep t2
  have Q2 : Hid (Bd w2 g2 B (.slice c1 B.links.length r1) (.slice c3 B.routers.length r3) (.slice c8 B.data.length r8)) := P2.out.keep t2
  clear hw2 t2 d0 d1 d2 d3 d4 d5 d6 d7 d8 e0 e1 e2 e3 e4 e5 e6 e7 e8 P1 P2 T1
  obtain ⟨d0, d1, d2, d3, d4, d5, d6, d7, d8⟩ := Q1.out
  obtain ⟨e0, e1, e2, e3, e4, e5, e6, e7, e8⟩ := Q2.out
  go_wp2_with fail
  refine Calls.mono (eq_true _ _ B.data _ (HR.out.touch T2.out (fun _ _ h => h)) (HC.out.d.keepN T2.out)) ?_
  rintro e w3 ⟨rfl, n3, rfl⟩
  clear d0 d1 d2 d3 d4 d5 d6 d7 d8 e0 e1 e2 e3 e4 e5 e6 e7 e8
  go_wp2
  go_ret
  exact ⟨rfl, T2.out.drewN n3⟩
theorem heavy_yes (B : BV) (a1 a3 a8 : Option Addr) (q1 q3 q8 : Nat) (w : World) (h : 8192 < B.links.length ∨ 32768 < B.routers.length ∨ 131072 < B.data.length) : Calls Tryz.prog 6 #[B.v (.slice a1 B.links.length q1) (.slice a3 B.routers.length q3) (.slice a8 B.data.length q8)] w fun e w' => e = .returned (.bool true) ∧ Touch (fun _ => False) w w' := by
  show Calls Tryz.prog 6 #[.agg #[.int .u8 B.flags, .slice a1 B.links.length q1, .int .u32 B.mask, .slice a3 B.routers.length q3, .int .u32 B.metric, .bool B.type2, .int .u32 B.fwd, .int .u32 B.tag, .slice a8 B.data.length q8]] w _
  by_cases h1 : (8192 : Int) < (B.links.length : Int)
  · go_enter Tryz.func6, Tryz.ntmps6
    go_wp2
    go_ret
    exact ⟨rfl, (Touch.refl _ w).alloc _⟩
  · by_cases h2 : (32768 : Int) < (B.routers.length : Int)
    · go_enter Tryz.func6, Tryz.ntmps6
      go_wp2
      go_ret
      exact ⟨rfl, (Touch.refl _ w).alloc _⟩
    · have h3 : (131072 : Int) < (B.data.length : Int) := by omega
      go_enter Tryz.func6, Tryz.ntmps6
      go_wp2
      go_ret
      exact ⟨ret_bool (by simp), (Touch.refl _ w).alloc _⟩
theorem heavy_no (B : BV) (a1 a3 a8 : Option Addr) (q1 q3 q8 : Nat) (w : World) (h : ¬ (8192 < B.links.length ∨ 32768 < B.routers.length ∨ 131072 < B.data.length)) : Calls Tryz.prog 6 #[B.v (.slice a1 B.links.length q1) (.slice a3 B.routers.length q3) (.slice a8 B.data.length q8)] w fun e w' => e = .returned (.bool false) ∧ Touch (fun _ => False) w w' := by
  show Calls Tryz.prog 6 #[.agg #[.int .u8 B.flags, .slice a1 B.links.length q1, .int .u32 B.mask, .slice a3 B.routers.length q3, .int .u32 B.metric, .bool B.type2, .int .u32 B.fwd, .int .u32 B.tag, .slice a8 B.data.length q8]] w _
  have h1 : ¬ (8192 : Int) < (B.links.length : Int) := by omega
  have h2 : ¬ (32768 : Int) < (B.routers.length : Int) := by omega
  have h3 : ¬ (131072 : Int) < (B.data.length : Int) := by omega
  go_enter Tryz.func6, Tryz.ntmps6
  go_wp2
  go_ret
  exact ⟨ret_bool (by simp), (Touch.refl _ w).alloc _⟩
end Go.Proofs.YthdkihnmeoacaaaGreatDoor

namespace Go.Proofs.YthdkihnmeoacaaaGreatDoor
open Go.RowKit
set_option linter.unusedVariables false
set_option maxRecDepth 100000

/-- A body's rows lie in blocks of their own, with marks behind them. -/
structure WBody (w : World) (B : BV) (b1 b3 b8 : Nat) : Prop where
  l : w.heap[b1]? = some (.cells (elems (elLinks B.links) (B.links.length + 64)).toArray 120 (0, 0))
  r : w.heap[b3]? = some (.cells (elems (elWords B.routers) (B.routers.length + 64)).toArray 23 (0, 0))
  d : w.heap[b8]? = some (.cells (bytesOf (B.data ++ spareMarks B.data.length)).toArray 5 (0, 0))
theorem WBody.keep {w w' : World} {B : BV} {b1 b3 b8 : Nat} (h : WBody w B b1 b3 b8) (t : Touch (fun _ => False) w w') : WBody w' B b1 b3 b8 := ⟨t.heapN h.l, t.heapN h.r, t.heapN h.d⟩
theorem WBody.touch {F : Nat → Prop} {w w' : World} {B : BV} {b1 b3 b8 : Nat} (h : WBody w B b1 b3 b8) (t : Touch F w w') (h1 : ¬ F b1) (h3 : ¬ F b3) (h8 : ¬ F b8) : WBody w' B b1 b3 b8 :=
  ⟨(t.block b1 (lt_of_heap h.l) h1).trans h.l, (t.block b3 (lt_of_heap h.r) h3).trans h.r, (t.block b8 (lt_of_heap h.d) h8).trans h.d⟩
theorem WBody.row {w : World} {B : BV} {b1 b3 b8 : Nat} (h : WBody w B b1 b3 b8) (lt : Light B) : RowAt w (.slice (some ⟨b8, 0, none⟩) B.data.length (B.data.length + 64)) B.data := rowAt_block h.d (by rw [length_spareMarks]) (by have := lt.d; unfold maxLen; omega)
theorem WBody.arg {w : World} {B : BV} {b1 b3 b8 : Nat} (h : WBody w B b1 b3 b8) (lt : Light B) : BArg w B (.slice (some ⟨b1, 0, none⟩) B.links.length (B.links.length + 64)) (.slice (some ⟨b3, 0, none⟩) B.routers.length (B.routers.length + 64)) (.slice (some ⟨b8, 0, none⟩) B.data.length (B.data.length + 64)) := by
  refine ⟨?_, ?_, (h.row lt).arg⟩
  · have e := vals_block (by decide) fLinks_len mkLinks_len h.l (by have := lt.l; unfold maxLen; omega)
    rw [fLinks_all] at e
    exact e
  · have e := vals_block (by decide) fWords_len mkWords_len h.r (by have := lt.r; unfold maxLen; omega)
    rw [fWords_all] at e
    exact e
set_option maxHeartbeats 2000000 in
theorem wbody_any (B : BV) (ok : B.Ok) (lt : Light B) (a1 a3 a8 : Option Addr) (q1 q3 q8 : Nat) (w : World) (hA : BArg w B (.slice a1 B.links.length q1) (.slice a3 B.routers.length q3) (.slice a8 B.data.length q8)) : Calls Tryz.prog 8 #[B.v (.slice a1 B.links.length q1) (.slice a3 B.routers.length q3) (.slice a8 B.data.length q8)] w fun e w' => ∃ b1 b3 b8, e = .returned (B.v (.slice (some ⟨b1, 0, none⟩) B.links.length (B.links.length + 64)) (.slice (some ⟨b3, 0, none⟩) B.routers.length (B.routers.length + 64)) (.slice (some ⟨b8, 0, none⟩) B.data.length (B.data.length + 64))) ∧ WBody w' B b1 b3 b8 ∧ w.heap.size ≤ b1 ∧ w.heap.size ≤ b3 ∧ w.heap.size ≤ b8 ∧ Touch (fun _ => False) w w' := by
  obtain ⟨hl, hr, hd⟩ := lt
  have HA : Hid (BArg w B (.slice a1 B.links.length q1) (.slice a3 B.routers.length q3) (.slice a8 B.data.length q8)) := hA
  have HBY : Hid (∀ z ∈ B.data, 0 ≤ z ∧ z < 256) := ok.d
  clear hA ok
  show Calls Tryz.prog 8 #[.agg #[.int .u8 B.flags, .slice a1 B.links.length q1, .int .u32 B.mask, .slice a3 B.routers.length q3, .int .u32 B.metric, .bool B.type2, .int .u32 B.fwd, .int .u32 B.tag, .slice a8 B.data.length q8]] w _
  have O0 : Hid (OutB ((w.alloc (.cells #[.int .u8 B.flags, .slice a1 B.links.length q1, .int .u32 B.mask, .slice a3 B.routers.length q3, .int .u32 B.metric, .bool B.type2, .int .u32 B.fwd, .int .u32 B.tag, .slice a8 B.data.length q8] 30)).alloc (.cells #[.int .u8 0, .slice none 0 0, .int .u32 0, .slice none 0 0, .int .u32 0, .bool false, .int .u32 0, .int .u32 0, .slice none 0 0] 30)) w.heap.size B (.slice a1 B.links.length q1) (.slice a3 B.routers.length q3) (.slice a8 B.data.length q8)) := (OutB.new w B (.slice a1 B.links.length q1) (.slice a3 B.routers.length q3) (.slice a8 B.data.length q8) 30).keep ((Touch.refl _ _).alloc _)
  have R0 : Hid (Room ((w.alloc (.cells #[.int .u8 B.flags, .slice a1 B.links.length q1, .int .u32 B.mask, .slice a3 B.routers.length q3, .int .u32 B.metric, .bool B.type2, .int .u32 B.fwd, .int .u32 B.tag, .slice a8 B.data.length q8] 30)).alloc (.cells #[.int .u8 0, .slice none 0 0, .int .u32 0, .slice none 0 0, .int .u32 0, .bool false, .int .u32 0, .int .u32 0, .slice none 0 0] 30)) (w.heap.size + 1) 9) := by
    have := Room.new (w.alloc (.cells #[.int .u8 B.flags, .slice a1 B.links.length q1, .int .u32 B.mask, .slice a3 B.routers.length q3, .int .u32 B.metric, .bool B.type2, .int .u32 B.fwd, .int .u32 B.tag, .slice a8 B.data.length q8] 30)) #[.int .u8 0, .slice none 0 0, .int .u32 0, .slice none 0 0, .int .u32 0, .bool false, .int .u32 0, .int .u32 0, .slice none 0 0] 30
    show Room _ _ _
    simpa using this
  have T0 : Hid (Touch (fun _ => False) w ((w.alloc (.cells #[.int .u8 B.flags, .slice a1 B.links.length q1, .int .u32 B.mask, .slice a3 B.routers.length q3, .int .u32 B.metric, .bool B.type2, .int .u32 B.fwd, .int .u32 B.tag, .slice a8 B.data.length q8] 30)).alloc (.cells #[.int .u8 0, .slice none 0 0, .int .u32 0, .slice none 0 0, .int .u32 0, .bool false, .int .u32 0, .int .u32 0, .slice none 0 0] 30))) := ((Touch.refl _ w).alloc _).alloc _
  have S0 : Hid (((w.alloc (.cells #[.int .u8 B.flags, .slice a1 B.links.length q1, .int .u32 B.mask, .slice a3 B.routers.length q3, .int .u32 B.metric, .bool B.type2, .int .u32 B.fwd, .int .u32 B.tag, .slice a8 B.data.length q8] 30)).alloc (.cells #[.int .u8 0, .slice none 0 0, .int .u32 0, .slice none 0 0, .int .u32 0, .bool false, .int .u32 0, .int .u32 0, .slice none 0 0] 30)).heap.size = w.heap.size + 2) := by show _ = _; simp
  go_enter Tryz.func8, Tryz.ntmps8
  go_upto_region 1 with fail
  generalize ((w.alloc (.cells #[.int .u8 B.flags, .slice a1 B.links.length q1, .int .u32 B.mask, .slice a3 B.routers.length q3, .int .u32 B.metric, .bool B.type2, .int .u32 B.fwd, .int .u32 B.tag, .slice a8 B.data.length q8] 30)).alloc (.cells #[.int .u8 0, .slice none 0 0, .int .u32 0, .slice none 0 0, .int .u32 0, .bool false, .int .u32 0, .int .u32 0, .slice none 0 0] 30)) = w0 at *
  generalize hg2 : w.heap.size + 1 = g2 at *
  have HG2 : Hid (w.heap.size + 1 = g2) := hg2
  generalize hg1 : w.heap.size = g1 at *
  have HG1 : Hid (w.heap.size = g1) := hg1
  clear hg1 hg2
  have hr12 : g1 ≠ g2 := by have := HG2.out; omega
  have hne : ¬ g1 = g2 := hr12
  have hne' : ¬ g2 = g1 := fun e => hr12 e.symm
  have d := O0.out.bd.c1
  have f := O0.out.fz 1 (by omega)
  go_wp2_with fail
  refine Calls.mono (wideLinks_any _ B.links _ (HA.out.l.keep T0.out) hl) ?_
  rintro e w1 ⟨rfl, hb1, t1⟩
  generalize hbb : w0.heap.size = b1 at *
  have HBB1 : Hid (w0.heap.size = b1) := hbb
  clear hbb d f
  have O1 : Hid (OutB w1 g1 B (.slice a1 B.links.length q1) (.slice a3 B.routers.length q3) (.slice a8 B.data.length q8)) := O0.out.keep t1
  have d := O1.out.bd.c1
  have f := O1.out.fz 1 (by omega)
  have O2 : Hid (OutB (w1.setCell ⟨g1, 1, none⟩ (.slice (some ⟨b1, 0, none⟩) B.links.length (B.links.length + 64))) g1 B (.slice (some ⟨b1, 0, none⟩) B.links.length (B.links.length + 64)) (.slice a3 B.routers.length q3) (.slice a8 B.data.length q8)) := O1.out.put1 _
  have U : Hid (Touch (fun k => k = g1) w1 (w1.setCell ⟨g1, 1, none⟩ (.slice (some ⟨b1, 0, none⟩) B.links.length (B.links.length + 64)))) := Touch.setCell (F := fun k => k = g1) (p := ⟨g1, 1, none⟩) (Touch.refl _ _) (Or.inl rfl) _
  have TT : Hid (Touch (fun _ => False) w0 w1) := t1
  go_upto_region 2 with fail
  clear d f t1
  generalize w1.setCell ⟨g1, 1, none⟩ (.slice (some ⟨b1, 0, none⟩) B.links.length (B.links.length + 64)) = w2 at *
  have T2 : Hid (Touch (fun _ => False) w w2) := (T0.out.trans TT.out).trans' U.out (fun i hi e => by have := HG1.out; omega)
  have R2 : Hid (Room w2 g2 9) := (R0.out.keep TT.out).touch U.out hne'
  have S2 : Hid (g1 + 2 ≤ w2.heap.size) := by have h1 := TT.out.size; have h2 := U.out.size; have h3 := S0.out; have h4 := HBB1.out; show _ ≤ _; omega
  have H1 : Hid (w2.heap[b1]? = some (.cells (elems (elLinks B.links) (B.links.length + 64)).toArray 120 (0, 0))) := (U.out.block b1 (lt_of_heap hb1) (by have := HBB1.out; have := S0.out; show ¬ b1 = g1; omega)).trans hb1
  have G1 : Hid (g1 + 2 ≤ b1) := by have := HBB1.out; have := S0.out; show _ ≤ _; omega
  clear TT U hb1 O0 O1
  have d := O2.out.bd.c3
  have f := O2.out.fz 3 (by omega)
  go_wp2_with fail
  refine Calls.mono (wideWords_any _ B.routers _ (HA.out.r.keep T2.out) hr) ?_
  rintro e w3 ⟨rfl, hb3, t3⟩
  generalize hbb : w2.heap.size = b3 at *
  have HBB3 : Hid (w2.heap.size = b3) := hbb
  clear hbb d f
  have O3 : Hid (OutB w3 g1 B (.slice (some ⟨b1, 0, none⟩) B.links.length (B.links.length + 64)) (.slice a3 B.routers.length q3) (.slice a8 B.data.length q8)) := O2.out.keep t3
  have d := O3.out.bd.c3
  have f := O3.out.fz 3 (by omega)
  have O4 : Hid (OutB (w3.setCell ⟨g1, 3, none⟩ (.slice (some ⟨b3, 0, none⟩) B.routers.length (B.routers.length + 64))) g1 B (.slice (some ⟨b1, 0, none⟩) B.links.length (B.links.length + 64)) (.slice (some ⟨b3, 0, none⟩) B.routers.length (B.routers.length + 64)) (.slice a8 B.data.length q8)) := O3.out.put3 _
  have U : Hid (Touch (fun k => k = g1) w3 (w3.setCell ⟨g1, 3, none⟩ (.slice (some ⟨b3, 0, none⟩) B.routers.length (B.routers.length + 64)))) := Touch.setCell (F := fun k => k = g1) (p := ⟨g1, 3, none⟩) (Touch.refl _ _) (Or.inl rfl) _
  have TT : Hid (Touch (fun _ => False) w2 w3) := t3
  go_upto_region 3 with fail
  clear d f t3
  generalize w3.setCell ⟨g1, 3, none⟩ (.slice (some ⟨b3, 0, none⟩) B.routers.length (B.routers.length + 64)) = w4 at *
  have T4 : Hid (Touch (fun _ => False) w w4) := (T2.out.trans TT.out).trans' U.out (fun i hi e => by have := HG1.out; omega)
  have R4 : Hid (Room w4 g2 9) := (R2.out.keep TT.out).touch U.out hne'
  have S4 : Hid (g1 + 2 ≤ w4.heap.size) := by have h1 := TT.out.size; have h2 := U.out.size; have h3 := S2.out; have h4 := HBB3.out; show _ ≤ _; omega
  have H3 : Hid (w4.heap[b3]? = some (.cells (elems (elWords B.routers) (B.routers.length + 64)).toArray 23 (0, 0))) := (U.out.block b3 (lt_of_heap hb3) (by have := HBB3.out; have := S2.out; show ¬ b3 = g1; omega)).trans hb3
  have G3 : Hid (g1 + 2 ≤ b3) := by have := HBB3.out; have := S2.out; show _ ≤ _; omega
  have H1' : Hid (w4.heap[b1]? = some (.cells (elems (elLinks B.links) (B.links.length + 64)).toArray 120 (0, 0))) := (U.out.block b1 (lt_of_heap (TT.out.heapN H1.out)) (by have := G1.out; show ¬ b1 = g1; omega)).trans (TT.out.heapN H1.out)
  clear H1
  have H1 := H1'
  clear H1'
  clear TT U hb3 O2 O3
  have d := O4.out.bd.c8
  have f := O4.out.fz 8 (by omega)
  go_wp2_with fail
  refine Calls.mono (wide_any _ B.data _ (HA.out.d.keepN T4.out) HBY.out (by omega)) ?_
  rintro e w5 ⟨rfl, hb8, t8⟩
  generalize hbb : w4.heap.size = b8 at *
  have HBB8 : Hid (w4.heap.size = b8) := hbb
  clear hbb d f
  have O5 : Hid (OutB w5 g1 B (.slice (some ⟨b1, 0, none⟩) B.links.length (B.links.length + 64)) (.slice (some ⟨b3, 0, none⟩) B.routers.length (B.routers.length + 64)) (.slice a8 B.data.length q8)) := O4.out.keep t8
  have d := O5.out.bd.c8
  have f := O5.out.fz 8 (by omega)
  have O6 : Hid (OutB (w5.setCell ⟨g1, 8, none⟩ (.slice (some ⟨b8, 0, none⟩) B.data.length (B.data.length + 64))) g1 B (.slice (some ⟨b1, 0, none⟩) B.links.length (B.links.length + 64)) (.slice (some ⟨b3, 0, none⟩) B.routers.length (B.routers.length + 64)) (.slice (some ⟨b8, 0, none⟩) B.data.length (B.data.length + 64))) := O5.out.put8 _
  have U : Hid (Touch (fun k => k = g1) w5 (w5.setCell ⟨g1, 8, none⟩ (.slice (some ⟨b8, 0, none⟩) B.data.length (B.data.length + 64)))) := Touch.setCell (F := fun k => k = g1) (p := ⟨g1, 8, none⟩) (Touch.refl _ _) (Or.inl rfl) _
  have TT : Hid (Touch (fun _ => False) w4 w5) := t8
  go_upto_region 4 with fail
  clear d f t8
  generalize w5.setCell ⟨g1, 8, none⟩ (.slice (some ⟨b8, 0, none⟩) B.data.length (B.data.length + 64)) = w6 at *
  have T6 : Hid (Touch (fun _ => False) w w6) := (T4.out.trans TT.out).trans' U.out (fun i hi e => by have := HG1.out; omega)
  have R6 : Hid (Room w6 g2 9) := (R4.out.keep TT.out).touch U.out hne'
  have S6 : Hid (g1 + 2 ≤ w6.heap.size) := by have h1 := TT.out.size; have h2 := U.out.size; have h3 := S4.out; have h4 := HBB8.out; show _ ≤ _; omega
  have H8 : Hid (w6.heap[b8]? = some (.cells (bytesOf (B.data ++ spareMarks B.data.length)).toArray 5 (0, 0))) := (U.out.block b8 (lt_of_heap hb8) (by have := HBB8.out; have := S4.out; show ¬ b8 = g1; omega)).trans hb8
  have G8 : Hid (g1 + 2 ≤ b8) := by have := HBB8.out; have := S4.out; show _ ≤ _; omega
  have H1' : Hid (w6.heap[b1]? = some (.cells (elems (elLinks B.links) (B.links.length + 64)).toArray 120 (0, 0))) := (U.out.block b1 (lt_of_heap (TT.out.heapN H1.out)) (by have := G1.out; show ¬ b1 = g1; omega)).trans (TT.out.heapN H1.out)
  clear H1
  have H1 := H1'
  clear H1'
  have H3' : Hid (w6.heap[b3]? = some (.cells (elems (elWords B.routers) (B.routers.length + 64)).toArray 23 (0, 0))) := (U.out.block b3 (lt_of_heap (TT.out.heapN H3.out)) (by have := G3.out; show ¬ b3 = g1; omega)).trans (TT.out.heapN H3.out)
  clear H3
  have H3 := H3'
  clear H3'
  clear TT U hb8 O4 O5
  obtain ⟨⟨d0, d1, d2, d3, d4, d5, d6, d7, d8⟩, -⟩ := O6.out
  obtain ⟨zz0, zc0, zf0⟩ := R6.out 0 (by omega)
  obtain ⟨zz1, zc1, zf1⟩ := R6.out 1 (by omega)
  obtain ⟨zz2, zc2, zf2⟩ := R6.out 2 (by omega)
  obtain ⟨zz3, zc3, zf3⟩ := R6.out 3 (by omega)
  obtain ⟨zz4, zc4, zf4⟩ := R6.out 4 (by omega)
  obtain ⟨zz5, zc5, zf5⟩ := R6.out 5 (by omega)
  obtain ⟨zz6, zc6, zf6⟩ := R6.out 6 (by omega)
  obtain ⟨zz7, zc7, zf7⟩ := R6.out 7 (by omega)
  obtain ⟨zz8, zc8, zf8⟩ := R6.out 8 (by omega)
  obtain ⟨wz, hwz⟩ : ∃ wz, wz = (((((((((w6.setCell ⟨g2, 0, none⟩ (.int .u8 B.flags)).setCell ⟨g2, 1, none⟩ (.slice (some ⟨b1, 0, none⟩) B.links.length (B.links.length + 64))).setCell ⟨g2, 2, none⟩ (.int .u32 B.mask)).setCell ⟨g2, 3, none⟩ (.slice (some ⟨b3, 0, none⟩) B.routers.length (B.routers.length + 64))).setCell ⟨g2, 4, none⟩ (.int .u32 B.metric)).setCell ⟨g2, 5, none⟩ (.bool B.type2)).setCell ⟨g2, 6, none⟩ (.int .u32 B.fwd)).setCell ⟨g2, 7, none⟩ (.int .u32 B.tag)).setCell ⟨g2, 8, none⟩ (.slice (some ⟨b8, 0, none⟩) B.data.length (B.data.length + 64))) := ⟨_, rfl⟩
  have zd0 : wz.cell? ⟨g2, 0, none⟩ = some (.int .u8 B.flags) := by rw [hwz]; simp [zc0, go_sem]
  have zd1 : wz.cell? ⟨g2, 1, none⟩ = some (.slice (some ⟨b1, 0, none⟩) B.links.length (B.links.length + 64)) := by rw [hwz]; simp [zc1, go_sem]
  have zd2 : wz.cell? ⟨g2, 2, none⟩ = some (.int .u32 B.mask) := by rw [hwz]; simp [zc2, go_sem]
  have zd3 : wz.cell? ⟨g2, 3, none⟩ = some (.slice (some ⟨b3, 0, none⟩) B.routers.length (B.routers.length + 64)) := by rw [hwz]; simp [zc3, go_sem]
  have zd4 : wz.cell? ⟨g2, 4, none⟩ = some (.int .u32 B.metric) := by rw [hwz]; simp [zc4, go_sem]
  have zd5 : wz.cell? ⟨g2, 5, none⟩ = some (.bool B.type2) := by rw [hwz]; simp [zc5, go_sem]
  have zd6 : wz.cell? ⟨g2, 6, none⟩ = some (.int .u32 B.fwd) := by rw [hwz]; simp [zc6, go_sem]
  have zd7 : wz.cell? ⟨g2, 7, none⟩ = some (.int .u32 B.tag) := by rw [hwz]; simp [zc7, go_sem]
  have zd8 : wz.cell? ⟨g2, 8, none⟩ = some (.slice (some ⟨b8, 0, none⟩) B.data.length (B.data.length + 64)) := by rw [hwz]; simp [zc8, go_sem]
  have HUz : Hid (Touch (fun k => k = g2) w6 wz) := by show Touch _ _ _; rw [hwz]; refine Touch.setCell (F := fun k => k = g2) (p := ⟨g2, 8, none⟩) ?_ (Or.inl rfl) _; refine Touch.setCell (F := fun k => k = g2) (p := ⟨g2, 7, none⟩) ?_ (Or.inl rfl) _; refine Touch.setCell (F := fun k => k = g2) (p := ⟨g2, 6, none⟩) ?_ (Or.inl rfl) _; refine Touch.setCell (F := fun k => k = g2) (p := ⟨g2, 5, none⟩) ?_ (Or.inl rfl) _; refine Touch.setCell (F := fun k => k = g2) (p := ⟨g2, 4, none⟩) ?_ (Or.inl rfl) _; refine Touch.setCell (F := fun k => k = g2) (p := ⟨g2, 3, none⟩) ?_ (Or.inl rfl) _; refine Touch.setCell (F := fun k => k = g2) (p := ⟨g2, 2, none⟩) ?_ (Or.inl rfl) _; refine Touch.setCell (F := fun k => k = g2) (p := ⟨g2, 1, none⟩) ?_ (Or.inl rfl) _; refine Touch.setCell (F := fun k => k = g2) (p := ⟨g2, 0, none⟩) ?_ (Or.inl rfl) _; exact Touch.refl _ _
  have HWz : Hid (wz = (((((((((w6.setCell ⟨g2, 0, none⟩ (.int .u8 B.flags)).setCell ⟨g2, 1, none⟩ (.slice (some ⟨b1, 0, none⟩) B.links.length (B.links.length + 64))).setCell ⟨g2, 2, none⟩ (.int .u32 B.mask)).setCell ⟨g2, 3, none⟩ (.slice (some ⟨b3, 0, none⟩) B.routers.length (B.routers.length + 64))).setCell ⟨g2, 4, none⟩ (.int .u32 B.metric)).setCell ⟨g2, 5, none⟩ (.bool B.type2)).setCell ⟨g2, 6, none⟩ (.int .u32 B.fwd)).setCell ⟨g2, 7, none⟩ (.int .u32 B.tag)).setCell ⟨g2, 8, none⟩ (.slice (some ⟨b8, 0, none⟩) B.data.length (B.data.length + 64)))) := hwz
  clear hwz
  go_wp2_with fail
  rw [← HWz.out]
  clear HWz zc0 zf0 zc1 zf1 zc2 zf2 zc3 zf3 zc4 zf4 zc5 zf5 zc6 zf6 zc7 zf7 zc8 zf8
  refine bodyPost_ret (v := .agg #[.int .u8 B.flags, .slice (some ⟨b1, 0, none⟩) B.links.length (B.links.length + 64), .int .u32 B.mask, .slice (some ⟨b3, 0, none⟩) B.routers.length (B.routers.length + 64), .int .u32 B.metric, .bool B.type2, .int .u32 B.fwd, .int .u32 B.tag, .slice (some ⟨b8, 0, none⟩) B.data.length (B.data.length + 64)]) (by simp [results, Tryz.results8, go_sem, zd0, zd1, zd2, zd3, zd4, zd5, zd6, zd7, zd8]) rfl ?_
  refine ⟨b1, b3, b8, rfl, ⟨(HUz.out.block b1 (lt_of_heap H1.out) ?_).trans H1.out, (HUz.out.block b3 (lt_of_heap H3.out) ?_).trans H3.out, (HUz.out.block b8 (lt_of_heap H8.out) ?_).trans H8.out⟩, ?_, ?_, ?_, T6.out.trans' HUz.out (fun i hi e => by have := HG1.out; have := HG2.out; omega)⟩
  · have := G1.out; have := HG2.out; have := HG1.out; show ¬ b1 = g2; omega
  · have := G3.out; have := HG2.out; have := HG1.out; show ¬ b3 = g2; omega
  · have := G8.out; have := HG2.out; have := HG1.out; show ¬ b8 = g2; omega
  · have := G1.out; have := HG1.out; omega
  · have := G3.out; have := HG1.out; omega
  · have := G8.out; have := HG1.out; omega
set_option maxHeartbeats 2000000 in
theorem sbody_any (B : BV) (lt : Light B) (b1 b3 b8 : Nat) (w : World) (h : WBody w B b1 b3 b8) : Calls Tryz.prog 13 #[B.v (.slice (some ⟨b1, 0, none⟩) B.links.length (B.links.length + 64)) (.slice (some ⟨b3, 0, none⟩) B.routers.length (B.routers.length + 64)) (.slice (some ⟨b8, 0, none⟩) B.data.length (B.data.length + 64))] w fun e w' => e = .returned (.bool true) ∧ Touch (fun _ => False) w w' := by
  have HW : Hid (WBody w B b1 b3 b8) := h
  have HLT : Hid (Light B) := lt
  clear h lt
  show Calls Tryz.prog 13 #[.agg #[.int .u8 B.flags, .slice (some ⟨b1, 0, none⟩) B.links.length (B.links.length + 64), .int .u32 B.mask, .slice (some ⟨b3, 0, none⟩) B.routers.length (B.routers.length + 64), .int .u32 B.metric, .bool B.type2, .int .u32 B.fwd, .int .u32 B.tag, .slice (some ⟨b8, 0, none⟩) B.data.length (B.data.length + 64)]] w _
  go_enter Tryz.func13, Tryz.ntmps13
  go_upto_region 1 with fail
  have D0 : Hid (Bd (w.alloc (.cells #[.int .u8 B.flags, .slice (some ⟨b1, 0, none⟩) B.links.length (B.links.length + 64), .int .u32 B.mask, .slice (some ⟨b3, 0, none⟩) B.routers.length (B.routers.length + 64), .int .u32 B.metric, .bool B.type2, .int .u32 B.fwd, .int .u32 B.tag, .slice (some ⟨b8, 0, none⟩) B.data.length (B.data.length + 64)] 30)) w.heap.size B (.slice (some ⟨b1, 0, none⟩) B.links.length (B.links.length + 64)) (.slice (some ⟨b3, 0, none⟩) B.routers.length (B.routers.length + 64)) (.slice (some ⟨b8, 0, none⟩) B.data.length (B.data.length + 64))) := Bd.new w B _ _ _ _
  have T0 : Hid (Touch (fun _ => False) w (w.alloc (.cells #[.int .u8 B.flags, .slice (some ⟨b1, 0, none⟩) B.links.length (B.links.length + 64), .int .u32 B.mask, .slice (some ⟨b3, 0, none⟩) B.routers.length (B.routers.length + 64), .int .u32 B.metric, .bool B.type2, .int .u32 B.fwd, .int .u32 B.tag, .slice (some ⟨b8, 0, none⟩) B.data.length (B.data.length + 64)] 30))) := (Touch.refl _ w).alloc _
  generalize w.alloc (.cells #[.int .u8 B.flags, .slice (some ⟨b1, 0, none⟩) B.links.length (B.links.length + 64), .int .u32 B.mask, .slice (some ⟨b3, 0, none⟩) B.routers.length (B.routers.length + 64), .int .u32 B.metric, .bool B.type2, .int .u32 B.fwd, .int .u32 B.tag, .slice (some ⟨b8, 0, none⟩) B.data.length (B.data.length + 64)] 30) = w0 at *
  generalize w.heap.size = g0 at *
  have d1 := D0.out.c1
  go_wp2_with fail
  refine Calls.mono (spareLinks_any b1 B.links _ (T0.out.heapN HW.out.l) HLT.out.l) ?_
  rintro e w1 ⟨rfl, t1⟩
  have T1 : Hid (Touch (fun _ => False) w w1) := T0.out.trans t1
  have D1 : Hid (Bd w1 g0 B (.slice (some ⟨b1, 0, none⟩) B.links.length (B.links.length + 64)) (.slice (some ⟨b3, 0, none⟩) B.routers.length (B.routers.length + 64)) (.slice (some ⟨b8, 0, none⟩) B.data.length (B.data.length + 64))) := D0.out.keep t1
  clear d1 t1 D0 T0
  have d3 := D1.out.c3
  go_wp2_with fail
  refine Calls.mono (spareWords_any b3 B.routers _ (T1.out.heapN HW.out.r) HLT.out.r) ?_
  rintro e w2 ⟨rfl, t2⟩
  have T2 : Hid (Touch (fun _ => False) w w2) := T1.out.trans t2
  have D2 : Hid (Bd w2 g0 B (.slice (some ⟨b1, 0, none⟩) B.links.length (B.links.length + 64)) (.slice (some ⟨b3, 0, none⟩) B.routers.length (B.routers.length + 64)) (.slice (some ⟨b8, 0, none⟩) B.data.length (B.data.length + 64))) := D1.out.keep t2
  clear d3 t2 D1 T1
  have d8 := D2.out.c8
  go_wp2_with fail
  refine Calls.mono (spare_any b8 B.data _ (T2.out.heapN HW.out.d) (by have := HLT.out.d; omega)) ?_
  rintro e w3 ⟨rfl, rfl⟩
  go_wp2
  go_ret
  exact ⟨rfl, T2.out⟩
end Go.Proofs.YthdkihnmeoacaaaGreatDoor
