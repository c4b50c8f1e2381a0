/- Package packet's writer: heads. -/
import Derived.Test.YtjgeklipeeooaaaGreatDoorStKey
import Derived.Deep.RegionHeld2
import Derived.Deep.DeepCutAuto
import Derived.Deep.RegionHeld3
namespace Go.Proofs.YtjgeklipeeooaaaGreatDoor
open Go.RowKit
set_option linter.unusedVariables false
set_option maxRecDepth 100000

def HV.cells (x : HV) : List Value := [.int .u16 x.age, .int .u8 x.opts, .int .u8 x.typ, .int .u32 x.id, .int .u32 x.adv, .int .i32 x.seq, .int .u16 x.sum, .int .u16 x.len]
def headsC (l : List HV) : List Value := l.flatMap HV.cells
theorem length_headsC (l : List HV) : (headsC l).length = l.length * 8 := by
  induction l with
  | nil => rfl
  | cons x r ih => unfold headsC at *; rw [List.flatMap_cons, List.length_append, ih, List.length_cons]; simp [HV.cells]; omega
theorem headsC_at (l : List HV) (j i : Nat) (x : HV) (hj : l[j]? = some x) (hi : i < 8) : (headsC l)[j * 8 + i]? = x.cells[i]? := by
  induction l generalizing j with
  | nil => simp at hj
  | cons y r ih =>
    have e : headsC (y :: r) = y.cells ++ headsC r := by simp [headsC]
    have hl : y.cells.length = 8 := rfl
    rw [e]
    cases j with
    | zero =>
      obtain rfl : y = x := by simpa using hj
      rw [List.getElem?_append_left (by omega), Nat.zero_mul, Nat.zero_add]
    | succ j =>
      rw [List.getElem?_append_right (by omega), hl, show (j + 1) * 8 + i - 8 = j * 8 + i by omega]
      exact ih j (by simpa using hj)
def HeadsAt (w : World) (v : Value) (l : List HV) : Prop := ValsAt w 8 v l.length (headsC l)
theorem HeadsAt.one {w : World} {v : Value} {l : List HV} (h : HeadsAt w v l) {j : Nat} {x : HV} (hj : l[j]? = some x) : ∃ g off c, v = .slice (some ⟨g, off, none⟩) l.length c ∧ ∀ i u, x.cells[i]? = some u → w.cell? ⟨g, off + (j * 8 + i), none⟩ = some u := by
  have hlt := (List.getElem?_eq_some_iff.mp hj).1
  obtain ⟨g, off, c, e, _, _, hc⟩ := ValsAt.cells h (by omega) (by omega)
  refine ⟨g, off, c, e, fun i u hu => hc _ _ ?_⟩
  have hi : i < 8 := (List.getElem?_eq_some_iff.mp hu).1
  rw [headsC_at l j i x hj hi]
  exact hu
def headsB (l : List HV) : List Int := l.flatMap headB
theorem headsB_snoc (l : List HV) (x : HV) : headsB (l ++ [x]) = headsB l ++ headB x := by simp [headsB]
theorem length_headsB (l : List HV) : (headsB l).length = 20 * l.length := by
  induction l with
  | nil => rfl
  | cons x r ih => rw [show headsB (x :: r) = headB x ++ headsB r by simp [headsB], List.length_append, ih, length_headB, List.length_cons]; omega
theorem pwput_or (s : Value) (ns : List Int) {Y : Nat → Prop} {x0 w : World} {b : Nat} {L : List Int} {m : Nat} (h : WL Y x0 w b L m) (hm : m ≤ 65535) (hs : ArgAt w s ns) (hc : ns.length ≤ 1099511627776) :
    Calls Tryz.prog 124 #[.agg #[.pointer (some ⟨b, 0, none⟩)], s] w fun e w' => (e = .returned (.agg #[.pointer (some ⟨b, 0, none⟩)]) ∧ L.length + ns.length ≤ 65535 ∧ Hold Y x0 w' ∧ Wr Y w' b (L ++ ns) 65535) ∨ (e = .panicked (pflawC 11) ∧ 65535 < L.length + ns.length ∧ Hold Y x0 w') := by
  have hL := h.le
  by_cases hl : L.length + ns.length ≤ 65535
  · refine (pwput_ok s ns Y b L w h.wr (by omega) hs hc hl).mono ?_
    rintro e w' ⟨rfl, h', k'⟩
    exact Or.inl ⟨rfl, hl, ⟨h.k.k.trans k'⟩, h'⟩
  · refine (pwput_no s ns Y b L w h.wr (by omega) hs hc (by omega)).mono ?_
    rintro e w' ⟨rfl, k'⟩
    exact Or.inr ⟨rfl, by omega, ⟨h.k.k.trans k'⟩⟩
/-- What the writers behind the head leave: all of l laid, or given up. -/
structure PW (X : Nat → Prop) (w : World) (b : Nat) (L l : List Int) (e : Ending) (w' : World) : Prop where
  out : (e = .returned (.tuple #[]) ∧ L.length + l.length ≤ 65535 ∧ Wr X w' b (L ++ l) 65535 ∧ Kept X w w') ∨ (e = .panicked (pflawC 11) ∧ 65535 < L.length + l.length ∧ Kept X w w')
/-- The loop of heads. -/
structure HdsR (Y : Nat → Prop) (wa : World) (b : Nat) (L : List Int) (hs : List HV) (k : Nat) (i : Value) (wx : World) : Prop where
  out : ∃ j : Nat, j ≤ hs.length ∧ k = hs.length - j ∧ i = .int .i64 (j : Int) ∧ WL Y wa wx b (L ++ headsB (hs.take j)) 65535

set_option maxHeartbeats 4000000 in
theorem pwheads_any (X : Nat → Prop) (b : Nat) (L : List Int) (hs : List HV) (v : Value) (w : World) (hw : Wr X w b L 65535) (hL : L.length ≤ 65535) (hv : ∀ w', Kept X w w' → HeadsAt w' v hs) (ok : ∀ h ∈ hs, h.All) :
    Calls Tryz.prog 159 #[.agg #[.pointer (some ⟨b, 0, none⟩)], v] w fun e w' => PW X w b L (headsB hs) e w' := by
  obtain ⟨va, vc, rfl, hmx⟩ := ValsAt.form (hv w (Kept.refl _ _))
  obtain ⟨wa, hwa⟩ : ∃ wa, wa = w.alloc (.cells #[.pointer (some ⟨b, 0, none⟩)] 137) := ⟨_, rfl⟩
  have ta : Touch (fun _ => False) w wa := by rw [hwa]; exact (Touch.refl _ w).alloc _
  have za : wa.heap.size = w.heap.size + 1 := by rw [hwa]; simp
  have ca : wa.cell? ⟨w.heap.size, 0, none⟩ = some (.pointer (some ⟨b, 0, none⟩)) := by rw [hwa]; simp [go_sem]
  obtain ⟨Y, hY⟩ : ∃ Y : Nat → Prop, Y = fun k => X k ∨ (w.heap.size ≤ k ∧ k < wa.heap.size) := ⟨_, rfl⟩
  have ya : Y w.heap.size := by subst hY; exact Or.inr (by omega)
  have YX : Hid (∀ k, X k → Y k) := by subst hY; exact fun k hk => Or.inl hk
  have REL : Hid (HdsR Y wa b L hs hs.length (.int .i64 0) wa) := ⟨0, by omega, by omega, rfl, ⟨⟨Kept.refl _ _⟩, by subst hY; simpa [headsB] using hw.more ta (fun k hk => hk), by simpa [headsB] using hL⟩⟩
  have TA : Hid (Touch (fun _ => False) w wa) := ta
  have KX : Hid (∀ w', Hold Y wa w' → Kept X w w') := fun w' h => (Kept.of TA.out).trans (h.k.less (fun k _ hk => YX.out k hk))
  have HV' : Hid (∀ w', Hold Y wa w' → HeadsAt w' (.slice va hs.length vc) hs) := fun w' h => hv w' (KX.out w' h)
  have c0 := hold_cell ca ya
  have YA : Hid (Y w.heap.size) := ya
  have OK : Hid (∀ h ∈ hs, h.All) := ok
  have hmx' : (hs.length : Int) ≤ 9223372036854775807 := by unfold maxLen at hmx; omega
  clear hw hL hv ok ta za ca hY ya hmx
  go_enter Tryz.func159, Tryz.ntmps159
  go_wp2_with fail
  rw [← hwa]
  clear hwa
  generalize w.heap.size = g1 at *
  go_loopg [8] hs.length (fun k i wx => HdsR Y wa b L hs k i wx)
  case atStart => exact REL.out
  case round =>
    clear REL
    obtain ⟨k, hk, hgk, rfl, hwl⟩ := hrel.out
    have WLr : Hid (WL Y wa wr b (L ++ headsB (hs.take k)) 65535) := hwl
    have d0 := c0 _ hwl.k
    clear hwl
    by_cases hlt : k < hs.length
    · have hlt' : (k : Int) < (hs.length : Int) := by omega
      have hk0 : (0 : Int) ≤ (k : Int) := by omega
      obtain ⟨x, hx⟩ : ∃ x, hs[k]? = some x := ⟨hs[k], by simp [hlt]⟩
      obtain ⟨gR, off, cR, eR, hcell⟩ := HeadsAt.one (HV'.out wr WLr.out.k) hx
      cases eR
      have e0 : wr.cell? ⟨gR, off + k * 8, none⟩ = some (.int .u16 x.age) := by exact hcell 0 _ rfl
      have e1 : wr.cell? ⟨gR, off + k * 8 + 1, none⟩ = some (.int .u8 x.opts) := by rw [Nat.add_assoc]; exact hcell 1 _ rfl
      have e2 : wr.cell? ⟨gR, off + k * 8 + 2, none⟩ = some (.int .u8 x.typ) := by rw [Nat.add_assoc]; exact hcell 2 _ rfl
      have e3 : wr.cell? ⟨gR, off + k * 8 + 3, none⟩ = some (.int .u32 x.id) := by rw [Nat.add_assoc]; exact hcell 3 _ rfl
      have e4 : wr.cell? ⟨gR, off + k * 8 + 4, none⟩ = some (.int .u32 x.adv) := by rw [Nat.add_assoc]; exact hcell 4 _ rfl
      have e5 : wr.cell? ⟨gR, off + k * 8 + 5, none⟩ = some (.int .i32 x.seq) := by rw [Nat.add_assoc]; exact hcell 5 _ rfl
      have e6 : wr.cell? ⟨gR, off + k * 8 + 6, none⟩ = some (.int .u16 x.sum) := by rw [Nat.add_assoc]; exact hcell 6 _ rfl
      have e7 : wr.cell? ⟨gR, off + k * 8 + 7, none⟩ = some (.int .u16 x.len) := by rw [Nat.add_assoc]; exact hcell 7 _ rfl
      have HX : Hid (hs.take (k + 1) = hs.take k ++ [x]) := by show _ = _; rw [List.take_add_one, hx]; rfl
      have OX : Hid x.All := OK.out x (List.mem_of_getElem? hx)
      have hkw : wrap64 ((k : Int) + 1) = (k : Int) + 1 := by unfold wrap64; omega
      clear hcell hx
      have NO : Hid (65535 < (L ++ headsB (hs.take k)).length + (headB x).length → 65535 < L.length + (headsB hs).length) := by
        intro h
        rw [List.length_append, length_headsB, length_headB, List.length_take] at h
        rw [length_headsB]
        omega
      have HN : Hid (L ++ headsB (hs.take (k + 1)) = (L ++ headsB (hs.take k)) ++ headB x) := by show _ = _; rw [HX.out, headsB_snoc, List.append_assoc]
      have H4 := Hd.new wr x 93
      have t4 : Touch (fun _ => False) wr (wr.alloc (.cells #[.int .u16 x.age, .int .u8 x.opts, .int .u8 x.typ, .int .u32 x.id, .int .u32 x.adv, .int .i32 x.seq, .int .u16 x.sum, .int .u16 x.len] 93)) := (Touch.refl _ _).alloc _
      go_upto_region 4 with fail
      generalize wr.alloc (.cells #[.int .u16 x.age, .int .u8 x.opts, .int .u8 x.typ, .int .u32 x.id, .int .u32 x.adv, .int .i32 x.seq, .int .u16 x.sum, .int .u16 x.len] 93) = w4 at *
      have hg5 := lt_of_cell H4.c0
      obtain ⟨Y5, hY5⟩ : ∃ Y5 : Nat → Prop, Y5 = fun k => Y k ∨ (wr.heap.size ≤ k ∧ k < w4.heap.size) := ⟨_, rfl⟩
      have y5 : Y5 wr.heap.size := by subst hY5; exact Or.inr (by omega)
      have Y5Y : ∀ k, Y k → Y5 k := by subst hY5; exact fun k hk => Or.inl hk
      have W4 : WL Y5 w4 w4.drew b (L ++ headsB (hs.take k)) 65535 := ⟨⟨Kept.of ((Touch.refl _ _).drew)⟩, by subst hY5; exact (WLr.out.wr.more t4 (fun k hk => hk)).keep ((Touch.refl _ _).drew), WLr.out.le⟩
      have BK : Hid (∀ w', Hold Y5 w4 w' → Hold Y wa w') := fun w' h => ⟨WLr.out.k.k.trans ((Kept.of t4).trans (h.k.less (fun k _ hk => Y5Y k hk)))⟩
      have LS : Hid (∀ w' l, Wr Y5 w' b l 65535 → Wr Y w' b l 65535) := fun w' l h => h.less Y5Y
      have d1 := hold_cell (t4.cellN d0) (Y5Y _ YA.out)
      have h0 := hold_cell H4.c0 y5
      have h1 := hold_cell H4.c1 y5
      have h2 := hold_cell H4.c2 y5
      have h3 := hold_cell H4.c3 y5
      have h4 := hold_cell H4.c4 y5
      have h5 := hold_cell H4.c5 y5
      have h6 := hold_cell H4.c6 y5
      have h7 := hold_cell H4.c7 y5
      have s4 := W4.k
      clear hY5 y5 Y5Y t4 d0 H4 hg5 WLr e0 e1 e2 e3 e4 e5 e6 e7
      generalize wr.heap.size = g5 at *
      generalize L ++ headsB (hs.take k) = LL at *
      go_region_held2 (fun w' => Hold Y5 w4 w') (with_reducible assumption) (first
        | (go_at_call 181; refine Calls.mono (shead_any x OX.out _) ?_; rintro e w5 ⟨u5, rfl, b5⟩; have W5 := W4.step b5.t; have s5 := W5.k; have a5 := b5.arg)
        | (go_at_call 124; refine Calls.mono (pwput_or _ (headB x) W5 (by omega) a5 (by rw [length_headB]; omega)) ?_; rintro e w6 (⟨rfl, l6, s6, r6⟩ | ⟨rfl, l6, s6⟩); rotate_left; exact ⟨rfl, ⟨Or.inr ⟨rfl, NO.out l6, KX.out _ (BK.out _ s6)⟩⟩⟩))
      have W7 : Hid (WL Y wa w6 b (LL ++ headB x) 65535) := ⟨BK.out _ s6, LS.out _ _ r6, by rw [List.length_append]; omega⟩
      clear s6 r6 l6 W5 s5 a5 b5 W4 s4 d1
      go_wp2_with fail
      go_roundg (hs.length - (k + 1))
      case measure => omega
      case rel => exact ⟨k + 1, by omega, by omega, by go_num, by rw [HN.out]; exact W7.out⟩
    · obtain rfl : k = hs.length := by omega
      have W5 : Hid (WL Y wa wr b (L ++ headsB hs) 65535) := by have := WLr.out; rwa [List.take_length] at this
      clear WLr
      go_wp2_with fail
      go_end0
      exact ⟨Or.inl ⟨rfl, by have := W5.out.le; rwa [List.length_append] at this, W5.out.wr.less YX.out, KX.out _ W5.out.k⟩⟩
end Go.Proofs.YtjgeklipeeooaaaGreatDoor

namespace Go.Proofs.YtjgeklipeeooaaaGreatDoor
open Go.RowKit
set_option linter.unusedVariables false
set_option maxRecDepth 100000

theorem PW.back {X Y : Nat → Prop} {w wa w' : World} {b : Nat} {L l : List Int} {e : Ending} (h : PW Y wa b L l e w') (YX : ∀ k, X k → Y k) (KX : Kept Y wa w' → Kept X w w') : PW X w b L l e w' := by
  rcases h.out with ⟨h1, h2, h3, h4⟩ | ⟨h1, h2, h3⟩
  · exact ⟨Or.inl ⟨h1, h2, h3.less YX, KX h4⟩⟩
  · exact ⟨Or.inr ⟨h1, h2, KX h3⟩⟩

set_option maxHeartbeats 4000000 in
theorem pwack_any (X : Nat → Prop) (b : Nat) (L : List Int) (P : PV) (ok : P.Ok) (vn vd vk vs vh : Value) (w : World) (hw : Wr X w b L 65535) (hL : L.length ≤ 65535) (hs : List HV) (hv : ∀ w', Kept X w w' → HeadsAt w' vh hs) (oh : ∀ h ∈ hs, h.All) :
    Calls Tryz.prog 130 #[.agg #[.pointer (some ⟨b, 0, none⟩)], P.v vn vd vk vs vh] w fun e w' => PW X w b L (headsB hs) e w' := by
  obtain ⟨wa, hwa⟩ : ∃ wa, wa = (w.alloc (.cells #[.pointer (some ⟨b, 0, none⟩)] 137)).alloc (.cells #[.int .u8 P.typ, .int .u32 P.router, .int .u32 P.area, .int .u32 P.mask, .int .u16 P.iv, .int .u8 P.opts, .int .u8 P.prio, .int .u32 P.dead, .int .u32 P.dr, .int .u32 P.bdr, vn, .int .u16 P.mtu, .int .u8 P.dopts, .int .u8 P.dflags, .int .u32 P.dseq, vd, vk, vs, vh] 33) := ⟨_, rfl⟩
  have ta : Touch (fun _ => False) w wa := by rw [hwa]; exact ((Touch.refl _ w).alloc _).alloc _
  have za : wa.heap.size = w.heap.size + 2 := by rw [hwa]; simp
  have ca : wa.cell? ⟨w.heap.size, 0, none⟩ = some (.pointer (some ⟨b, 0, none⟩)) := by rw [hwa]; simp [go_sem]
  have pa : Pd wa (w.heap.size + 1) P vn vd vk vs vh := by
    have := Pd.new (w.alloc (.cells #[.pointer (some ⟨b, 0, none⟩)] 137)) P vn vd vk vs vh 33
    rw [← hwa] at this
    simpa using this
  obtain ⟨Y, hY⟩ : ∃ Y : Nat → Prop, Y = fun k => X k ∨ (w.heap.size ≤ k ∧ k < wa.heap.size) := ⟨_, rfl⟩
  have ya : ∀ k, w.heap.size ≤ k → k < w.heap.size + 2 → Y k := by subst hY; exact fun k h1 h2 => Or.inr (by omega)
  have WA : Hid (Wr Y wa b L 65535) := by subst hY; exact hw.more ta (fun k hk => hk)
  have YX : Hid (∀ k, X k → Y k) := by subst hY; exact fun k hk => Or.inl hk
  have TA : Hid (Touch (fun _ => False) w wa) := ta
  have KX : Hid (∀ w', Kept Y wa w' → Kept X w w') := fun w' h => (Kept.of TA.out).trans (h.less (fun k _ hk => YX.out k hk))
  have c0 := hold_cell ca (ya _ (by dsimp only; omega) (by dsimp only; omega))
  have p18 := hold_cell pa.c18 (ya _ (by dsimp only; omega) (by dsimp only; omega))
  show Calls Tryz.prog 130 #[.agg #[.pointer (some ⟨b, 0, none⟩)], .agg #[.int .u8 P.typ, .int .u32 P.router, .int .u32 P.area, .int .u32 P.mask, .int .u16 P.iv, .int .u8 P.opts, .int .u8 P.prio, .int .u32 P.dead, .int .u32 P.dr, .int .u32 P.bdr, vn, .int .u16 P.mtu, .int .u8 P.dopts, .int .u8 P.dflags, .int .u32 P.dseq, vd, vk, vs, vh]] w _
  have HC := pwheads_any Y b L hs vh wa WA.out hL (fun w' h => hv w' (KX.out w' h)) oh
  have d0 := c0 wa ⟨Kept.refl _ _⟩
  have d18 := p18 wa ⟨Kept.refl _ _⟩
  clear hw ta za ca pa hY ya c0 p18 hv oh ok hL
  go_enter Tryz.func130, Tryz.ntmps130
  go_wp2_with fail
  rw [← hwa]
  clear hwa
  refine Calls.mono HC ?_
  intro e w1 h1
  rcases h1.out with ⟨rfl, l1, r1, k1⟩ | ⟨rfl, l1, k1⟩
  · have Q : Hid (PW X w b L (headsB hs) (.returned (.tuple #[])) w1) := h1.back YX.out (KX.out w1)
    clear l1 r1 k1 h1 HC
    go_wp2
    go_end0
    exact Q.out
  · exact ⟨rfl, h1.back YX.out (KX.out w1)⟩
end Go.Proofs.YtjgeklipeeooaaaGreatDoor
