
/- Once's closure: the address of who is ahead among those that count. -/
import Derived.Test.YtcmkhhdjhemmbaaElCode1
import Derived.Deep.LoopGhost
namespace Go.Proofs.Ytcmkhhdjhemmbaa
open Go.RowKit
set_option linter.unusedVariables false
set_option maxRecDepth 100000

/-- The best so far lies in block B, which was made since w. -/
structure Best (w : World) (B : Nat) (x : VC) (wr : World) : Prop where
  t : Touch (fun _ => False) w wr
  d : VcD wr B 0 x
  fz : ∀ o, wr.frozen? ⟨B, o, none⟩ = false
  new : w.heap.size ≤ B
theorem Best.lt {w : World} {B : Nat} {x : VC} {wr : World} (h : Best w B x wr) : B < wr.heap.size := lt_of_cell h.d.c0
theorem Best.keep {w : World} {B : Nat} {x : VC} {wr w' : World} (h : Best w B x wr) (t : Touch (fun _ => False) wr w') : Best w B x w' :=
  ⟨h.t.trans t, h.d.keep t, fun o => (t.frozen (p := ⟨B, o, none⟩) h.lt (fun h => h)).trans (h.fz o), h.new⟩
theorem Best.put {w : World} {B : Nat} {x y : VC} {wr : World} (h : Best w B x wr) : Best w B y (((((wr.setCell ⟨B, 0, none⟩ (.int .u32 y.r)).setCell ⟨B, 1, none⟩ (.int .u32 y.ad)).setCell ⟨B, 2, none⟩ (.int .u8 y.p)).setCell ⟨B, 3, none⟩ (.int .u32 y.dr)).setCell ⟨B, 4, none⟩ (.int .u32 y.bd)) := by
  have c0 := h.d.c0
  have c1 := h.d.c1
  have c2 := h.d.c2
  have c3 := h.d.c3
  have c4 := h.d.c4
  have hn : (False ∨ w.heap.size ≤ B) := Or.inr h.new
  simp only [Nat.zero_add] at c1 c2 c3 c4
  refine ⟨?_, ⟨?_, ?_, ?_, ?_, ?_⟩, fun o => ?_, h.new⟩
  · exact ((((h.t.setCell (p := ⟨B, 0, none⟩) hn _).setCell (p := ⟨B, 1, none⟩) hn _).setCell (p := ⟨B, 2, none⟩) hn _).setCell (p := ⟨B, 3, none⟩) hn _).setCell (p := ⟨B, 4, none⟩) hn _
  · simp [c0, go_sem]
  · simp [c1, go_sem]
  · simp [c2, go_sem]
  · simp [c3, go_sem]
  · simp [c4, go_sem]
  · have := h.fz o
    simp [this, go_sem]
structure PickR (l : List VC) (w : World) (f : VC → Bool) (B gg : Nat) (s10 : Value) (wr : World) : Prop where
  out : ∃ k : Nat, k ≤ l.length ∧ l.length - k ≤ gg ∧ s10 = .int .i64 k ∧ Best w B (bst f (l.take k)) wr
theorem best_box (w : World) (x : VC) : VcD (w.alloc (.cells #[.int .u32 x.r, .int .u32 x.ad, .int .u8 x.p, .int .u32 x.dr, .int .u32 x.bd] 35)) w.heap.size 0 x := ⟨by simp, by simp, by simp, by simp, by simp⟩
theorem VcD.open0 {w : World} {g : Nat} {x : VC} (h : VcD w g 0 x) : w.cell? ⟨g, 0, none⟩ = some (.int .u32 x.r) ∧ w.cell? ⟨g, 1, none⟩ = some (.int .u32 x.ad) ∧ w.cell? ⟨g, 2, none⟩ = some (.int .u8 x.p) ∧ w.cell? ⟨g, 3, none⟩ = some (.int .u32 x.dr) ∧ w.cell? ⟨g, 4, none⟩ = some (.int .u32 x.bd) := ⟨h.c0, h.c1, h.c2, h.c3, h.c4⟩

set_option maxHeartbeats 2000000 in
theorem pickB_any (l : List VC) (v : Value) (w : World) (hv : VcsAt w v l) (hn : l.length ≤ 1000) (b0 : Nat) (h0 : w.cell? ⟨b0, 0, none⟩ = some v) :
    Calls Try.prog 15 #[.func (.func 18) #[] #[], .pointer (some ⟨b0, 0, none⟩)] w fun e w' => e = .returned (.int .u32 (bst fB l).ad) ∧ Touch (fun _ => False) w w' := by
  obtain ⟨va, vc, rfl, hmx⟩ := hv.form
  have HV : Hid (∀ w', Touch (fun _ => False) w w' → VcsAt w' (.slice va l.length vc) l) := fun w' t => hv.keep t
  have hn' : (l.length : Int) ≤ 1000 := by omega
  have hl0 := lt_of_cell h0
  have HB : Hid (∀ w', Touch (fun _ => False) (w.alloc (.cells #[.int .u32 0, .int .u32 0, .int .u8 0, .int .u32 0, .int .u32 0] 35)) w' → Best w w.heap.size VC.zero w') := fun w' t =>
    Best.keep (wr := w.alloc (.cells #[.int .u32 0, .int .u32 0, .int .u8 0, .int .u32 0, .int .u32 0] 35)) ⟨(Touch.refl _ _).alloc _, best_box w VC.zero, fun o => by simp, Nat.le_refl _⟩ t
  generalize hz : bst fB l = Z
  have HZ : Hid (bst fB l = Z) := hz
  clear hv hmx hz hn
  go_enter Try.func15, Try.ntmps15
  go_wp2_with fail
  go_loopg [6, 10] l.length (fun gg _ s10 wr => PickR l w fB w.heap.size gg s10 wr)
  case atStart => exact ⟨0, Nat.zero_le _, by omega, rfl, HB.out _ (Touch.refl _ _)⟩
  case round =>
    obtain ⟨k, hk, hg, rfl, B0⟩ := hrel.out
    clear hrel HB
    by_cases hlt : k < l.length
    · have hlt' : (k : Int) < (l.length : Int) := by omega
      have hk00 : (0 : Int) ≤ (k : Int) := by omega
      obtain ⟨x, hx⟩ : ∃ x, l[k]? = some x := ⟨l[k], by simp [hlt]⟩
      obtain ⟨gR, off, cR, eR, -, -, hcell⟩ := (HV.out wr B0.t).at (by omega)
      cases eR
      obtain ⟨e0, e1, e2, e3, e4⟩ := hcell k x hx
      have hkw : wrap64 ((k : Int) + 1) = (k : Int) + 1 := by unfold wrap64; omega
      have HS : Hid (bst fB (l.take (k + 1)) = stp fB (bst fB (l.take k)) x) := by
        have : l[k] = x := by rw [List.getElem?_eq_getElem hlt] at hx; exact Option.some.inj hx
        rw [List.take_succ_eq_append_getElem hlt, bst_snoc, this]
        exact (rfl : _ = _)
      have HE := elig_any x
      have HF := clB_any x
      have HA := ahd_any x (bst fB (l.take k))
      have HK : Hid _ := B0
      generalize bst fB (l.take k) = b at *
      have HT : Hid (stp fB b x = if (x.el && fB x && x.ahd b) = true then x else b) := (rfl : _ = _)
      clear B0 hcell hx
      generalize x.el = E at HE HT
      generalize fB x = Fx at HF HT
      generalize x.ahd b = Ah at HA HT
      cases E
      · go_wp2_with fail
        refine (HE _).mono ?_
        rintro e w1 ⟨rfl, t1⟩
        have T : Hid _ := HK.out.keep (((Touch.refl _ wr).alloc _).trans t1)
        clear t1 e0 e1 e2 e3 e4
        go_wp2_with fail
        go_roundg (l.length - (k + 1))
        case measure => omega
        case rel => exact ⟨k + 1, by omega, by omega, by go_num, by rw [HS.out, HT.out, if_neg (by simp)]; exact T.out⟩
      cases Fx
      · go_wp2_with fail
        refine (HE _).mono ?_
        rintro e w1 ⟨rfl, t1⟩
        obtain ⟨x0, x1, x2, x3, x4⟩ := ((best_box wr x).keep t1).open0
        go_wp2_with fail
        refine (HF _).mono ?_
        rintro e w2 ⟨rfl, t2⟩
        have T : Hid _ := HK.out.keep ((((Touch.refl _ wr).alloc _).trans t1).trans t2)
        clear t1 t2 e0 e1 e2 e3 e4 x0 x1 x2 x3 x4
        go_wp2_with fail
        go_roundg (l.length - (k + 1))
        case measure => omega
        case rel => exact ⟨k + 1, by omega, by omega, by go_num, by rw [HS.out, HT.out, if_neg (by simp)]; exact T.out⟩
      cases Ah
      · go_wp2_with fail
        refine (HE _).mono ?_
        rintro e w1 ⟨rfl, t1⟩
        obtain ⟨x0, x1, x2, x3, x4⟩ := ((best_box wr x).keep t1).open0
        go_wp2_with fail
        refine (HF _).mono ?_
        rintro e w2 ⟨rfl, t2⟩
        obtain ⟨y0, y1, y2, y3, y4⟩ := (((best_box wr x).keep t1).keep t2).open0
        have T2 : Hid _ := HK.out.keep ((((Touch.refl _ wr).alloc _).trans t1).trans t2)
        obtain ⟨z0, z1, z2, z3, z4⟩ := T2.out.d.open0
        go_wp2_with fail
        refine (HA _).mono ?_
        rintro e w3 ⟨rfl, t3⟩
        have T : Hid _ := T2.out.keep t3
        clear t1 t2 t3 e0 e1 e2 e3 e4 x0 x1 x2 x3 x4 y0 y1 y2 y3 y4 z0 z1 z2 z3 z4
        go_wp2_with fail
        go_roundg (l.length - (k + 1))
        case measure => omega
        case rel => exact ⟨k + 1, by omega, by omega, by go_num, by rw [HS.out, HT.out, if_neg (by simp)]; exact T.out⟩
      · go_wp2_with fail
        refine (HE _).mono ?_
        rintro e w1 ⟨rfl, t1⟩
        obtain ⟨x0, x1, x2, x3, x4⟩ := ((best_box wr x).keep t1).open0
        go_wp2_with fail
        refine (HF _).mono ?_
        rintro e w2 ⟨rfl, t2⟩
        obtain ⟨y0, y1, y2, y3, y4⟩ := (((best_box wr x).keep t1).keep t2).open0
        have T2 : Hid _ := HK.out.keep ((((Touch.refl _ wr).alloc _).trans t1).trans t2)
        obtain ⟨z0, z1, z2, z3, z4⟩ := T2.out.d.open0
        go_wp2_with fail
        refine (HA _).mono ?_
        rintro e w3 ⟨rfl, t3⟩
        have T3 := T2.out.keep t3
        obtain ⟨z0, z1, z2, z3, z4⟩ := T3.d.open0
        obtain ⟨y0, y1, y2, y3, y4⟩ := ((((best_box wr x).keep t1).keep t2).keep t3).open0
        have f0 := T3.fz 0
        have f1 := T3.fz 1
        have f2 := T3.fz 2
        have f3 := T3.fz 3
        have f4 := T3.fz 4
        have T : Hid _ := T3.put (y := x)
        clear t1 t2 t3 e0 e1 e2 e3 e4 x0 x1 x2 x3 x4 T3 T2
        go_wp2_with fail
        go_roundg (l.length - (k + 1))
        case measure => omega
        case rel => exact ⟨k + 1, by omega, by omega, by go_num, by rw [HS.out, HT.out, if_pos (by simp)]; exact T.out⟩
    · have hlt' : ¬ (k : Int) < (l.length : Int) := by omega
      obtain rfl : k = l.length := by omega
      rw [List.take_length, HZ.out] at B0
      obtain ⟨z0, z1, z2, z3, z4⟩ := B0.d.open0
      have T : Hid _ := B0.t
      clear B0
      go_wp2
      go_ret
      exact ⟨rfl, T.out⟩

set_option maxHeartbeats 2000000 in
theorem pickR_any (l : List VC) (v : Value) (w : World) (hv : VcsAt w v l) (hn : l.length ≤ 1000) (b0 : Nat) (h0 : w.cell? ⟨b0, 0, none⟩ = some v) :
    Calls Try.prog 15 #[.func (.func 21) #[] #[], .pointer (some ⟨b0, 0, none⟩)] w fun e w' => e = .returned (.int .u32 (bst fR l).ad) ∧ Touch (fun _ => False) w w' := by
  obtain ⟨va, vc, rfl, hmx⟩ := hv.form
  have HV : Hid (∀ w', Touch (fun _ => False) w w' → VcsAt w' (.slice va l.length vc) l) := fun w' t => hv.keep t
  have hn' : (l.length : Int) ≤ 1000 := by omega
  have hl0 := lt_of_cell h0
  have HB : Hid (∀ w', Touch (fun _ => False) (w.alloc (.cells #[.int .u32 0, .int .u32 0, .int .u8 0, .int .u32 0, .int .u32 0] 35)) w' → Best w w.heap.size VC.zero w') := fun w' t =>
    Best.keep (wr := w.alloc (.cells #[.int .u32 0, .int .u32 0, .int .u8 0, .int .u32 0, .int .u32 0] 35)) ⟨(Touch.refl _ _).alloc _, best_box w VC.zero, fun o => by simp, Nat.le_refl _⟩ t
  generalize hz : bst fR l = Z
  have HZ : Hid (bst fR l = Z) := hz
  clear hv hmx hz hn
  go_enter Try.func15, Try.ntmps15
  go_wp2_with fail
  go_loopg [6, 10] l.length (fun gg _ s10 wr => PickR l w fR w.heap.size gg s10 wr)
  case atStart => exact ⟨0, Nat.zero_le _, by omega, rfl, HB.out _ (Touch.refl _ _)⟩
  case round =>
    obtain ⟨k, hk, hg, rfl, B0⟩ := hrel.out
    clear hrel HB
    by_cases hlt : k < l.length
    · have hlt' : (k : Int) < (l.length : Int) := by omega
      have hk00 : (0 : Int) ≤ (k : Int) := by omega
      obtain ⟨x, hx⟩ : ∃ x, l[k]? = some x := ⟨l[k], by simp [hlt]⟩
      obtain ⟨gR, off, cR, eR, -, -, hcell⟩ := (HV.out wr B0.t).at (by omega)
      cases eR
      obtain ⟨e0, e1, e2, e3, e4⟩ := hcell k x hx
      have hkw : wrap64 ((k : Int) + 1) = (k : Int) + 1 := by unfold wrap64; omega
      have HS : Hid (bst fR (l.take (k + 1)) = stp fR (bst fR (l.take k)) x) := by
        have : l[k] = x := by rw [List.getElem?_eq_getElem hlt] at hx; exact Option.some.inj hx
        rw [List.take_succ_eq_append_getElem hlt, bst_snoc, this]
        exact (rfl : _ = _)
      have HE := elig_any x
      have HF := clR_any x
      have HA := ahd_any x (bst fR (l.take k))
      have HK : Hid _ := B0
      generalize bst fR (l.take k) = b at *
      have HT : Hid (stp fR b x = if (x.el && fR x && x.ahd b) = true then x else b) := (rfl : _ = _)
      clear B0 hcell hx
      generalize x.el = E at HE HT
      generalize fR x = Fx at HF HT
      generalize x.ahd b = Ah at HA HT
      cases E
      · go_wp2_with fail
        refine (HE _).mono ?_
        rintro e w1 ⟨rfl, t1⟩
        have T : Hid _ := HK.out.keep (((Touch.refl _ wr).alloc _).trans t1)
        clear t1 e0 e1 e2 e3 e4
        go_wp2_with fail
        go_roundg (l.length - (k + 1))
        case measure => omega
        case rel => exact ⟨k + 1, by omega, by omega, by go_num, by rw [HS.out, HT.out, if_neg (by simp)]; exact T.out⟩
      cases Fx
      · go_wp2_with fail
        refine (HE _).mono ?_
        rintro e w1 ⟨rfl, t1⟩
        obtain ⟨x0, x1, x2, x3, x4⟩ := ((best_box wr x).keep t1).open0
        go_wp2_with fail
        refine (HF _).mono ?_
        rintro e w2 ⟨rfl, t2⟩
        have T : Hid _ := HK.out.keep ((((Touch.refl _ wr).alloc _).trans t1).trans t2)
        clear t1 t2 e0 e1 e2 e3 e4 x0 x1 x2 x3 x4
        go_wp2_with fail
        go_roundg (l.length - (k + 1))
        case measure => omega
        case rel => exact ⟨k + 1, by omega, by omega, by go_num, by rw [HS.out, HT.out, if_neg (by simp)]; exact T.out⟩
      cases Ah
      · go_wp2_with fail
        refine (HE _).mono ?_
        rintro e w1 ⟨rfl, t1⟩
        obtain ⟨x0, x1, x2, x3, x4⟩ := ((best_box wr x).keep t1).open0
        go_wp2_with fail
        refine (HF _).mono ?_
        rintro e w2 ⟨rfl, t2⟩
        obtain ⟨y0, y1, y2, y3, y4⟩ := (((best_box wr x).keep t1).keep t2).open0
        have T2 : Hid _ := HK.out.keep ((((Touch.refl _ wr).alloc _).trans t1).trans t2)
        obtain ⟨z0, z1, z2, z3, z4⟩ := T2.out.d.open0
        go_wp2_with fail
        refine (HA _).mono ?_
        rintro e w3 ⟨rfl, t3⟩
        have T : Hid _ := T2.out.keep t3
        clear t1 t2 t3 e0 e1 e2 e3 e4 x0 x1 x2 x3 x4 y0 y1 y2 y3 y4 z0 z1 z2 z3 z4
        go_wp2_with fail
        go_roundg (l.length - (k + 1))
        case measure => omega
        case rel => exact ⟨k + 1, by omega, by omega, by go_num, by rw [HS.out, HT.out, if_neg (by simp)]; exact T.out⟩
      · go_wp2_with fail
        refine (HE _).mono ?_
        rintro e w1 ⟨rfl, t1⟩
        obtain ⟨x0, x1, x2, x3, x4⟩ := ((best_box wr x).keep t1).open0
        go_wp2_with fail
        refine (HF _).mono ?_
        rintro e w2 ⟨rfl, t2⟩
        obtain ⟨y0, y1, y2, y3, y4⟩ := (((best_box wr x).keep t1).keep t2).open0
        have T2 : Hid _ := HK.out.keep ((((Touch.refl _ wr).alloc _).trans t1).trans t2)
        obtain ⟨z0, z1, z2, z3, z4⟩ := T2.out.d.open0
        go_wp2_with fail
        refine (HA _).mono ?_
        rintro e w3 ⟨rfl, t3⟩
        have T3 := T2.out.keep t3
        obtain ⟨z0, z1, z2, z3, z4⟩ := T3.d.open0
        obtain ⟨y0, y1, y2, y3, y4⟩ := ((((best_box wr x).keep t1).keep t2).keep t3).open0
        have f0 := T3.fz 0
        have f1 := T3.fz 1
        have f2 := T3.fz 2
        have f3 := T3.fz 3
        have f4 := T3.fz 4
        have T : Hid _ := T3.put (y := x)
        clear t1 t2 t3 e0 e1 e2 e3 e4 x0 x1 x2 x3 x4 T3 T2
        go_wp2_with fail
        go_roundg (l.length - (k + 1))
        case measure => omega
        case rel => exact ⟨k + 1, by omega, by omega, by go_num, by rw [HS.out, HT.out, if_pos (by simp)]; exact T.out⟩
    · have hlt' : ¬ (k : Int) < (l.length : Int) := by omega
      obtain rfl : k = l.length := by omega
      rw [List.take_length, HZ.out] at B0
      obtain ⟨z0, z1, z2, z3, z4⟩ := B0.d.open0
      have T : Hid _ := B0.t
      clear B0
      go_wp2
      go_ret
      exact ⟨rfl, T.out⟩

set_option maxHeartbeats 2000000 in
theorem pickC_any (l : List VC) (v : Value) (w : World) (hv : VcsAt w v l) (hn : l.length ≤ 1000) (b0 : Nat) (h0 : w.cell? ⟨b0, 0, none⟩ = some v) :
    Calls Try.prog 15 #[.func (.func 19) #[] #[], .pointer (some ⟨b0, 0, none⟩)] w fun e w' => e = .returned (.int .u32 (bst VC.ch l).ad) ∧ Touch (fun _ => False) w w' := by
  obtain ⟨va, vc, rfl, hmx⟩ := hv.form
  have HV : Hid (∀ w', Touch (fun _ => False) w w' → VcsAt w' (.slice va l.length vc) l) := fun w' t => hv.keep t
  have hn' : (l.length : Int) ≤ 1000 := by omega
  have hl0 := lt_of_cell h0
  have HB : Hid (∀ w', Touch (fun _ => False) (w.alloc (.cells #[.int .u32 0, .int .u32 0, .int .u8 0, .int .u32 0, .int .u32 0] 35)) w' → Best w w.heap.size VC.zero w') := fun w' t =>
    Best.keep (wr := w.alloc (.cells #[.int .u32 0, .int .u32 0, .int .u8 0, .int .u32 0, .int .u32 0] 35)) ⟨(Touch.refl _ _).alloc _, best_box w VC.zero, fun o => by simp, Nat.le_refl _⟩ t
  generalize hz : bst VC.ch l = Z
  have HZ : Hid (bst VC.ch l = Z) := hz
  clear hv hmx hz hn
  go_enter Try.func15, Try.ntmps15
  go_wp2_with fail
  go_loopg [6, 10] l.length (fun gg _ s10 wr => PickR l w VC.ch w.heap.size gg s10 wr)
  case atStart => exact ⟨0, Nat.zero_le _, by omega, rfl, HB.out _ (Touch.refl _ _)⟩
  case round =>
    obtain ⟨k, hk, hg, rfl, B0⟩ := hrel.out
    clear hrel HB
    by_cases hlt : k < l.length
    · have hlt' : (k : Int) < (l.length : Int) := by omega
      have hk00 : (0 : Int) ≤ (k : Int) := by omega
      obtain ⟨x, hx⟩ : ∃ x, l[k]? = some x := ⟨l[k], by simp [hlt]⟩
      obtain ⟨gR, off, cR, eR, -, -, hcell⟩ := (HV.out wr B0.t).at (by omega)
      cases eR
      obtain ⟨e0, e1, e2, e3, e4⟩ := hcell k x hx
      have hkw : wrap64 ((k : Int) + 1) = (k : Int) + 1 := by unfold wrap64; omega
      have HS : Hid (bst VC.ch (l.take (k + 1)) = stp VC.ch (bst VC.ch (l.take k)) x) := by
        have : l[k] = x := by rw [List.getElem?_eq_getElem hlt] at hx; exact Option.some.inj hx
        rw [List.take_succ_eq_append_getElem hlt, bst_snoc, this]
        exact (rfl : _ = _)
      have HE := elig_any x
      have HF := ndr_any x
      have HA := ahd_any x (bst VC.ch (l.take k))
      have HK : Hid _ := B0
      generalize bst VC.ch (l.take k) = b at *
      have HT : Hid (stp VC.ch b x = if (x.el && VC.ch x && x.ahd b) = true then x else b) := (rfl : _ = _)
      clear B0 hcell hx
      generalize x.el = E at HE HT
      generalize VC.ch x = Fx at HF HT
      generalize x.ahd b = Ah at HA HT
      cases E
      · go_wp2_with fail
        refine (HE _).mono ?_
        rintro e w1 ⟨rfl, t1⟩
        have T : Hid _ := HK.out.keep (((Touch.refl _ wr).alloc _).trans t1)
        clear t1 e0 e1 e2 e3 e4
        go_wp2_with fail
        go_roundg (l.length - (k + 1))
        case measure => omega
        case rel => exact ⟨k + 1, by omega, by omega, by go_num, by rw [HS.out, HT.out, if_neg (by simp)]; exact T.out⟩
      cases Fx
      · go_wp2_with fail
        refine (HE _).mono ?_
        rintro e w1 ⟨rfl, t1⟩
        obtain ⟨x0, x1, x2, x3, x4⟩ := ((best_box wr x).keep t1).open0
        go_wp2_with fail
        refine (HF _).mono ?_
        rintro e w2 ⟨rfl, t2⟩
        have T : Hid _ := HK.out.keep ((((Touch.refl _ wr).alloc _).trans t1).trans t2)
        clear t1 t2 e0 e1 e2 e3 e4 x0 x1 x2 x3 x4
        go_wp2_with fail
        go_roundg (l.length - (k + 1))
        case measure => omega
        case rel => exact ⟨k + 1, by omega, by omega, by go_num, by rw [HS.out, HT.out, if_neg (by simp)]; exact T.out⟩
      cases Ah
      · go_wp2_with fail
        refine (HE _).mono ?_
        rintro e w1 ⟨rfl, t1⟩
        obtain ⟨x0, x1, x2, x3, x4⟩ := ((best_box wr x).keep t1).open0
        go_wp2_with fail
        refine (HF _).mono ?_
        rintro e w2 ⟨rfl, t2⟩
        obtain ⟨y0, y1, y2, y3, y4⟩ := (((best_box wr x).keep t1).keep t2).open0
        have T2 : Hid _ := HK.out.keep ((((Touch.refl _ wr).alloc _).trans t1).trans t2)
        obtain ⟨z0, z1, z2, z3, z4⟩ := T2.out.d.open0
        go_wp2_with fail
        refine (HA _).mono ?_
        rintro e w3 ⟨rfl, t3⟩
        have T : Hid _ := T2.out.keep t3
        clear t1 t2 t3 e0 e1 e2 e3 e4 x0 x1 x2 x3 x4 y0 y1 y2 y3 y4 z0 z1 z2 z3 z4
        go_wp2_with fail
        go_roundg (l.length - (k + 1))
        case measure => omega
        case rel => exact ⟨k + 1, by omega, by omega, by go_num, by rw [HS.out, HT.out, if_neg (by simp)]; exact T.out⟩
      · go_wp2_with fail
        refine (HE _).mono ?_
        rintro e w1 ⟨rfl, t1⟩
        obtain ⟨x0, x1, x2, x3, x4⟩ := ((best_box wr x).keep t1).open0
        go_wp2_with fail
        refine (HF _).mono ?_
        rintro e w2 ⟨rfl, t2⟩
        obtain ⟨y0, y1, y2, y3, y4⟩ := (((best_box wr x).keep t1).keep t2).open0
        have T2 : Hid _ := HK.out.keep ((((Touch.refl _ wr).alloc _).trans t1).trans t2)
        obtain ⟨z0, z1, z2, z3, z4⟩ := T2.out.d.open0
        go_wp2_with fail
        refine (HA _).mono ?_
        rintro e w3 ⟨rfl, t3⟩
        have T3 := T2.out.keep t3
        obtain ⟨z0, z1, z2, z3, z4⟩ := T3.d.open0
        obtain ⟨y0, y1, y2, y3, y4⟩ := ((((best_box wr x).keep t1).keep t2).keep t3).open0
        have f0 := T3.fz 0
        have f1 := T3.fz 1
        have f2 := T3.fz 2
        have f3 := T3.fz 3
        have f4 := T3.fz 4
        have T : Hid _ := T3.put (y := x)
        clear t1 t2 t3 e0 e1 e2 e3 e4 x0 x1 x2 x3 x4 T3 T2
        go_wp2_with fail
        go_roundg (l.length - (k + 1))
        case measure => omega
        case rel => exact ⟨k + 1, by omega, by omega, by go_num, by rw [HS.out, HT.out, if_pos (by simp)]; exact T.out⟩
    · have hlt' : ¬ (k : Int) < (l.length : Int) := by omega
      obtain rfl : k = l.length := by omega
      rw [List.take_length, HZ.out] at B0
      obtain ⟨z0, z1, z2, z3, z4⟩ := B0.d.open0
      have T : Hid _ := B0.t
      clear B0
      go_wp2
      go_ret
      exact ⟨rfl, T.out⟩
end Go.Proofs.Ytcmkhhdjhemmbaa
