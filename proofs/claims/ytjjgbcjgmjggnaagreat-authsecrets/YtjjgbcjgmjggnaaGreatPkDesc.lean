/- Package packet's writer: heads. -/
import Derived.Test.YtjjgbcjgmjggnaaGreatStKey
import Derived.Deep.RegionHeld2
import Derived.Deep.DeepCutAuto
import Derived.Deep.RegionHeld3
namespace Go.Proofs.YtjjgbcjgmjggnaaGreat
open Go.RowKit
set_option linter.unusedVariables false
set_option maxRecDepth 100000

def HV.cells (x : HV) : List Value := [.int .u16 x.age, .int .u8 x.opts, .int .u8 x.typ, .int .u32 x.id, .int .u32 x.adv, .int .i32 x.seq, .int .u16 x.sum, .int .u16 x.len]
def headsC (l : List HV) : List Value := l.flatMap HV.cells
theorem length_headsC (l : List HV) : (headsC l).length = l.length * 8 := by
  induction l with
  | nil => rfl
  | cons x r ih => unfold headsC at *; rw [List.flatMap_cons, List.length_append, ih, List.length_cons]; simp [HV.cells]; omega
theorem headsC_at (l : List HV) (j i : Nat) (x : HV) (hj : l[j]? = some x) (hi : i < 8) : (headsC l)[j * 8 + i]? = x.cells[i]? := by
  induction l generalizing j with
  | nil => simp at hj
  | cons y r ih =>
    have e : headsC (y :: r) = y.cells ++ headsC r := by simp [headsC]
    have hl : y.cells.length = 8 := rfl
    rw [e]
    cases j with
    | zero =>
      obtain rfl : y = x := by simpa using hj
      rw [List.getElem?_append_left (by omega), Nat.zero_mul, Nat.zero_add]
    | succ j =>
      rw [List.getElem?_append_right (by omega), hl, show (j + 1) * 8 + i - 8 = j * 8 + i by omega]
      exact ih j (by simpa using hj)
def HeadsAt (w : World) (v : Value) (l : List HV) : Prop := ValsAt w 8 v l.length (headsC l)
theorem HeadsAt.one {w : World} {v : Value} {l : List HV} (h : HeadsAt w v l) {j : Nat} {x : HV} (hj : l[j]? = some x) : ∃ g off c, v = .slice (some ⟨g, off, none⟩) l.length c ∧ ∀ i u, x.cells[i]? = some u → w.cell? ⟨g, off + (j * 8 + i), none⟩ = some u := by
  have hlt := (List.getElem?_eq_some_iff.mp hj).1
  obtain ⟨g, off, c, e, _, _, hc⟩ := ValsAt.cells h (by omega) (by omega)
  refine ⟨g, off, c, e, fun i u hu => hc _ _ ?_⟩
  have hi : i < 8 := (List.getElem?_eq_some_iff.mp hu).1
  rw [headsC_at l j i x hj hi]
  exact hu
def headsB (l : List HV) : List Int := l.flatMap headB
theorem headsB_snoc (l : List HV) (x : HV) : headsB (l ++ [x]) = headsB l ++ headB x := by simp [headsB]
theorem length_headsB (l : List HV) : (headsB l).length = 20 * l.length := by
  induction l with
  | nil => rfl
  | cons x r ih => rw [show headsB (x :: r) = headB x ++ headsB r by simp [headsB], List.length_append, ih, length_headB, List.length_cons]; omega
theorem pwput_or (s : Value) (ns : List Int) {Y : Nat → Prop} {x0 w : World} {b : Nat} {L : List Int} {m : Nat} (h : WL Y x0 w b L m) (hm : m ≤ 65535) (hs : ArgAt w s ns) (hc : ns.length ≤ 1099511627776) :
    Calls Tryz.prog 91 #[.agg #[.pointer (some ⟨b, 0, none⟩)], s] w fun e w' => (e = .returned (.agg #[.pointer (some ⟨b, 0, none⟩)]) ∧ L.length + ns.length ≤ 65535 ∧ Hold Y x0 w' ∧ Wr Y w' b (L ++ ns) 65535) ∨ (e = .panicked (pflawC 11) ∧ 65535 < L.length + ns.length ∧ Hold Y x0 w') := by
  have hL := h.le
  by_cases hl : L.length + ns.length ≤ 65535
  · refine (pwput_ok s ns Y b L w h.wr (by omega) hs hc hl).mono ?_
    rintro e w' ⟨rfl, h', k'⟩
    exact Or.inl ⟨rfl, hl, ⟨h.k.k.trans k'⟩, h'⟩
  · refine (pwput_no s ns Y b L w h.wr (by omega) hs hc (by omega)).mono ?_
    rintro e w' ⟨rfl, k'⟩
    exact Or.inr ⟨rfl, by omega, ⟨h.k.k.trans k'⟩⟩
/-- What the writers behind the head leave: all of l laid, or given up. -/
structure PW (X : Nat → Prop) (w : World) (b : Nat) (L l : List Int) (e : Ending) (w' : World) : Prop where
  out : (e = .returned (.tuple #[]) ∧ L.length + l.length ≤ 65535 ∧ Wr X w' b (L ++ l) 65535 ∧ Kept X w w') ∨ (e = .panicked (pflawC 11) ∧ 65535 < L.length + l.length ∧ Kept X w w')
/-- The loop of heads. -/
structure HdsR (Y : Nat → Prop) (wa : World) (b : Nat) (L : List Int) (hs : List HV) (k : Nat) (i : Value) (wx : World) : Prop where
  out : ∃ j : Nat, j ≤ hs.length ∧ k = hs.length - j ∧ i = .int .i64 (j : Int) ∧ WL Y wa wx b (L ++ headsB (hs.take j)) 65535

set_option maxHeartbeats 4000000 in
theorem pwheads_any (X : Nat → Prop) (b : Nat) (L : List Int) (hs : List HV) (v : Value) (w : World) (hw : Wr X w b L 65535) (hL : L.length ≤ 65535) (hv : ∀ w', Kept X w w' → HeadsAt w' v hs) (ok : ∀ h ∈ hs, h.All) :
    Calls Tryz.prog 122 #[.agg #[.pointer (some ⟨b, 0, none⟩)], v] w fun e w' => PW X w b L (headsB hs) e w' := by
  obtain ⟨va, vc, rfl, hmx⟩ := ValsAt.form (hv w (Kept.refl _ _))
  obtain ⟨wa, hwa⟩ : ∃ wa, wa = w.alloc (.cells #[.pointer (some ⟨b, 0, none⟩)] 114) := ⟨_, rfl⟩
  have ta : Touch (fun _ => False) w wa := by rw [hwa]; exact (Touch.refl _ w).alloc _
  have za : wa.heap.size = w.heap.size + 1 := by rw [hwa]; simp
  have ca : wa.cell? ⟨w.heap.size, 0, none⟩ = some (.pointer (some ⟨b, 0, none⟩)) := by rw [hwa]; simp [go_sem]
  obtain ⟨Y, hY⟩ : ∃ Y : Nat → Prop, Y = fun k => X k ∨ (w.heap.size ≤ k ∧ k < wa.heap.size) := ⟨_, rfl⟩
  have ya : Y w.heap.size := by subst hY; exact Or.inr (by omega)
  have YX : Hid (∀ k, X k → Y k) := by subst hY; exact fun k hk => Or.inl hk
  have REL : Hid (HdsR Y wa b L hs hs.length (.int .i64 0) wa) := ⟨0, by omega, by omega, rfl, ⟨⟨Kept.refl _ _⟩, by subst hY; simpa [headsB] using hw.more ta (fun k hk => hk), by simpa [headsB] using hL⟩⟩
  have TA : Hid (Touch (fun _ => False) w wa) := ta
  have KX : Hid (∀ w', Hold Y wa w' → Kept X w w') := fun w' h => (Kept.of TA.out).trans (h.k.less (fun k _ hk => YX.out k hk))
  have HV' : Hid (∀ w', Hold Y wa w' → HeadsAt w' (.slice va hs.length vc) hs) := fun w' h => hv w' (KX.out w' h)
  have c0 := hold_cell ca ya
  have YA : Hid (Y w.heap.size) := ya
  have OK : Hid (∀ h ∈ hs, h.All) := ok
  have hmx' : (hs.length : Int) ≤ 9223372036854775807 := by unfold maxLen at hmx; omega
  clear hw hL hv ok ta za ca hY ya hmx
  go_enter Tryz.func122, Tryz.ntmps122
  go_wp2_with fail
  rw [← hwa]
  clear hwa
  generalize w.heap.size = g1 at *
  go_loopg [8] hs.length (fun k i wx => HdsR Y wa b L hs k i wx)
  case atStart => exact REL.out
  case round =>
    clear REL
    obtain ⟨k, hk, hgk, rfl, hwl⟩ := hrel.out
    have WLr : Hid (WL Y wa wr b (L ++ headsB (hs.take k)) 65535) := hwl
    have d0 := c0 _ hwl.k
    clear hwl
    by_cases hlt : k < hs.length
    · have hlt' : (k : Int) < (hs.length : Int) := by omega
      have hk0 : (0 : Int) ≤ (k : Int) := by omega
      obtain ⟨x, hx⟩ : ∃ x, hs[k]? = some x := ⟨hs[k], by simp [hlt]⟩
      obtain ⟨gR, off, cR, eR, hcell⟩ := HeadsAt.one (HV'.out wr WLr.out.k) hx
      cases eR
      have e0 : wr.cell? ⟨gR, off + k * 8, none⟩ = some (.int .u16 x.age) := by exact hcell 0 _ rfl
      have e1 : wr.cell? ⟨gR, off + k * 8 + 1, none⟩ = some (.int .u8 x.opts) := by rw [Nat.add_assoc]; exact hcell 1 _ rfl
      have e2 : wr.cell? ⟨gR, off + k * 8 + 2, none⟩ = some (.int .u8 x.typ) := by rw [Nat.add_assoc]; exact hcell 2 _ rfl
      have e3 : wr.cell? ⟨gR, off + k * 8 + 3, none⟩ = some (.int .u32 x.id) := by rw [Nat.add_assoc]; exact hcell 3 _ rfl
      have e4 : wr.cell? ⟨gR, off + k * 8 + 4, none⟩ = some (.int .u32 x.adv) := by rw [Nat.add_assoc]; exact hcell 4 _ rfl
      have e5 : wr.cell? ⟨gR, off + k * 8 + 5, none⟩ = some (.int .i32 x.seq) := by rw [Nat.add_assoc]; exact hcell 5 _ rfl
      have e6 : wr.cell? ⟨gR, off + k * 8 + 6, none⟩ = some (.int .u16 x.sum) := by rw [Nat.add_assoc]; exact hcell 6 _ rfl
      have e7 : wr.cell? ⟨gR, off + k * 8 + 7, none⟩ = some (.int .u16 x.len) := by rw [Nat.add_assoc]; exact hcell 7 _ rfl
      have HX : Hid (hs.take (k + 1) = hs.take k ++ [x]) := by show _ = _; rw [List.take_add_one, hx]; rfl
      have OX : Hid x.All := OK.out x (List.mem_of_getElem? hx)
      have hkw : wrap64 ((k : Int) + 1) = (k : Int) + 1 := by unfold wrap64; omega
      clear hcell hx
      have NO : Hid (65535 < (L ++ headsB (hs.take k)).length + (headB x).length → 65535 < L.length + (headsB hs).length) := by
        intro h
        rw [List.length_append, length_headsB, length_headB, List.length_take] at h
        rw [length_headsB]
        omega
      have HN : Hid (L ++ headsB (hs.take (k + 1)) = (L ++ headsB (hs.take k)) ++ headB x) := by show _ = _; rw [HX.out, headsB_snoc, List.append_assoc]
      have H4 := Hd.new wr x 93
      have t4 : Touch (fun _ => False) wr (wr.alloc (.cells #[.int .u16 x.age, .int .u8 x.opts, .int .u8 x.typ, .int .u32 x.id, .int .u32 x.adv, .int .i32 x.seq, .int .u16 x.sum, .int .u16 x.len] 93)) := (Touch.refl _ _).alloc _
      go_upto_region 4 with fail
      generalize wr.alloc (.cells #[.int .u16 x.age, .int .u8 x.opts, .int .u8 x.typ, .int .u32 x.id, .int .u32 x.adv, .int .i32 x.seq, .int .u16 x.sum, .int .u16 x.len] 93) = w4 at *
      have hg5 := lt_of_cell H4.c0
      obtain ⟨Y5, hY5⟩ : ∃ Y5 : Nat → Prop, Y5 = fun k => Y k ∨ (wr.heap.size ≤ k ∧ k < w4.heap.size) := ⟨_, rfl⟩
      have y5 : Y5 wr.heap.size := by subst hY5; exact Or.inr (by omega)
      have Y5Y : ∀ k, Y k → Y5 k := by subst hY5; exact fun k hk => Or.inl hk
      have W4 : WL Y5 w4 w4.drew b (L ++ headsB (hs.take k)) 65535 := ⟨⟨Kept.of ((Touch.refl _ _).drew)⟩, by subst hY5; exact (WLr.out.wr.more t4 (fun k hk => hk)).keep ((Touch.refl _ _).drew), WLr.out.le⟩
      have BK : Hid (∀ w', Hold Y5 w4 w' → Hold Y wa w') := fun w' h => ⟨WLr.out.k.k.trans ((Kept.of t4).trans (h.k.less (fun k _ hk => Y5Y k hk)))⟩
      have LS : Hid (∀ w' l, Wr Y5 w' b l 65535 → Wr Y w' b l 65535) := fun w' l h => h.less Y5Y
      have d1 := hold_cell (t4.cellN d0) (Y5Y _ YA.out)
      have h0 := hold_cell H4.c0 y5
      have h1 := hold_cell H4.c1 y5
      have h2 := hold_cell H4.c2 y5
      have h3 := hold_cell H4.c3 y5
      have h4 := hold_cell H4.c4 y5
      have h5 := hold_cell H4.c5 y5
      have h6 := hold_cell H4.c6 y5
      have h7 := hold_cell H4.c7 y5
      have s4 := W4.k
      clear hY5 y5 Y5Y t4 d0 H4 hg5 WLr e0 e1 e2 e3 e4 e5 e6 e7
      generalize wr.heap.size = g5 at *
      generalize L ++ headsB (hs.take k) = LL at *
      go_region_held2 (fun w' => Hold Y5 w4 w') (with_reducible assumption) (first
        | (go_at_call 148; refine Calls.mono (shead_any x OX.out _) ?_; rintro e w5 ⟨u5, rfl, b5⟩; have W5 := W4.step b5.t; have s5 := W5.k; have a5 := b5.arg)
        | (go_at_call 91; refine Calls.mono (pwput_or _ (headB x) W5 (by omega) a5 (by rw [length_headB]; omega)) ?_; rintro e w6 (⟨rfl, l6, s6, r6⟩ | ⟨rfl, l6, s6⟩); rotate_left; exact ⟨rfl, ⟨Or.inr ⟨rfl, NO.out l6, KX.out _ (BK.out _ s6)⟩⟩⟩))
      have W7 : Hid (WL Y wa w6 b (LL ++ headB x) 65535) := ⟨BK.out _ s6, LS.out _ _ r6, by rw [List.length_append]; omega⟩
      clear s6 r6 l6 W5 s5 a5 b5 W4 s4 d1
      go_wp2_with fail
      go_roundg (hs.length - (k + 1))
      case measure => omega
      case rel => exact ⟨k + 1, by omega, by omega, by go_num, by rw [HN.out]; exact W7.out⟩
    · obtain rfl : k = hs.length := by omega
      have W5 : Hid (WL Y wa wr b (L ++ headsB hs) 65535) := by have := WLr.out; rwa [List.take_length] at this
      clear WLr
      go_wp2_with fail
      go_end0
      exact ⟨Or.inl ⟨rfl, by have := W5.out.le; rwa [List.length_append] at this, W5.out.wr.less YX.out, KX.out _ W5.out.k⟩⟩
end Go.Proofs.YtjjgbcjgmjggnaaGreat

namespace Go.Proofs.YtjjgbcjgmjggnaaGreat
open Go.RowKit
set_option linter.unusedVariables false
set_option maxRecDepth 100000

theorem PW.back {X Y : Nat → Prop} {w wa w' : World} {b : Nat} {L l : List Int} {e : Ending} (h : PW Y wa b L l e w') (YX : ∀ k, X k → Y k) (KX : Kept Y wa w' → Kept X w w') : PW X w b L l e w' := by
  rcases h.out with ⟨h1, h2, h3, h4⟩ | ⟨h1, h2, h3⟩
  · exact ⟨Or.inl ⟨h1, h2, h3.less YX, KX h4⟩⟩
  · exact ⟨Or.inr ⟨h1, h2, KX h3⟩⟩

set_option maxHeartbeats 4000000 in
theorem pwack_any (X : Nat → Prop) (b : Nat) (L : List Int) (P : PV) (ok : P.Ok) (vn vd vk vs vh : Value) (w : World) (hw : Wr X w b L 65535) (hL : L.length ≤ 65535) (hs : List HV) (hv : ∀ w', Kept X w w' → HeadsAt w' vh hs) (oh : ∀ h ∈ hs, h.All) :
    Calls Tryz.prog 97 #[.agg #[.pointer (some ⟨b, 0, none⟩)], P.v vn vd vk vs vh] w fun e w' => PW X w b L (headsB hs) e w' := by
  obtain ⟨wa, hwa⟩ : ∃ wa, wa = (w.alloc (.cells #[.pointer (some ⟨b, 0, none⟩)] 114)).alloc (.cells #[.int .u8 P.typ, .int .u32 P.router, .int .u32 P.area, .int .u32 P.mask, .int .u16 P.iv, .int .u8 P.opts, .int .u8 P.prio, .int .u32 P.dead, .int .u32 P.dr, .int .u32 P.bdr, vn, .int .u16 P.mtu, .int .u8 P.dopts, .int .u8 P.dflags, .int .u32 P.dseq, vd, vk, vs, vh] 33) := ⟨_, rfl⟩
  have ta : Touch (fun _ => False) w wa := by rw [hwa]; exact ((Touch.refl _ w).alloc _).alloc _
  have za : wa.heap.size = w.heap.size + 2 := by rw [hwa]; simp
  have ca : wa.cell? ⟨w.heap.size, 0, none⟩ = some (.pointer (some ⟨b, 0, none⟩)) := by rw [hwa]; simp [go_sem]
  have pa : Pd wa (w.heap.size + 1) P vn vd vk vs vh := by
    have := Pd.new (w.alloc (.cells #[.pointer (some ⟨b, 0, none⟩)] 114)) P vn vd vk vs vh 33
    rw [← hwa] at this
    simpa using this
  obtain ⟨Y, hY⟩ : ∃ Y : Nat → Prop, Y = fun k => X k ∨ (w.heap.size ≤ k ∧ k < wa.heap.size) := ⟨_, rfl⟩
  have ya : ∀ k, w.heap.size ≤ k → k < w.heap.size + 2 → Y k := by subst hY; exact fun k h1 h2 => Or.inr (by omega)
  have WA : Hid (Wr Y wa b L 65535) := by subst hY; exact hw.more ta (fun k hk => hk)
  have YX : Hid (∀ k, X k → Y k) := by subst hY; exact fun k hk => Or.inl hk
  have TA : Hid (Touch (fun _ => False) w wa) := ta
  have KX : Hid (∀ w', Kept Y wa w' → Kept X w w') := fun w' h => (Kept.of TA.out).trans (h.less (fun k _ hk => YX.out k hk))
  have c0 := hold_cell ca (ya _ (by dsimp only; omega) (by dsimp only; omega))
  have p18 := hold_cell pa.c18 (ya _ (by dsimp only; omega) (by dsimp only; omega))
  show Calls Tryz.prog 97 #[.agg #[.pointer (some ⟨b, 0, none⟩)], .agg #[.int .u8 P.typ, .int .u32 P.router, .int .u32 P.area, .int .u32 P.mask, .int .u16 P.iv, .int .u8 P.opts, .int .u8 P.prio, .int .u32 P.dead, .int .u32 P.dr, .int .u32 P.bdr, vn, .int .u16 P.mtu, .int .u8 P.dopts, .int .u8 P.dflags, .int .u32 P.dseq, vd, vk, vs, vh]] w _
  have HC := pwheads_any Y b L hs vh wa WA.out hL (fun w' h => hv w' (KX.out w' h)) oh
  have d0 := c0 wa ⟨Kept.refl _ _⟩
  have d18 := p18 wa ⟨Kept.refl _ _⟩
  clear hw ta za ca pa hY ya c0 p18 hv oh ok hL
  go_enter Tryz.func97, Tryz.ntmps97
  go_wp2_with fail
  rw [← hwa]
  clear hwa
  refine Calls.mono HC ?_
  intro e w1 h1
  rcases h1.out with ⟨rfl, l1, r1, k1⟩ | ⟨rfl, l1, k1⟩
  · have Q : Hid (PW X w b L (headsB hs) (.returned (.tuple #[])) w1) := h1.back YX.out (KX.out w1)
    clear l1 r1 k1 h1 HC
    go_wp2
    go_end0
    exact Q.out
  · exact ⟨rfl, h1.back YX.out (KX.out w1)⟩
end Go.Proofs.YtjjgbcjgmjggnaaGreat

namespace Go.Proofs.YtjjgbcjgmjggnaaGreat
open Go.RowKit
set_option linter.unusedVariables false
set_option maxRecDepth 100000

/-- A writer that holds L; and, when they were made, two bytes in a block that is not its own. -/
structure WG (Y : Nat → Prop) (x w : World) (b : Nat) (L : List Int) (m : Nat) (o : Option (Nat × Int × Int)) : Prop where
  k : Hold Y x w
  le : L.length ≤ m
  out : ∃ Z : Nat → Prop, (∀ k, Y k → Z k) ∧ Wr Z w b L 65535 ∧ ∀ g a c, o = some (g, a, c) → Z g ∧ w.cell? ⟨g, 0, none⟩ = some (.int .u8 a) ∧ w.cell? ⟨g, 1, none⟩ = some (.int .u8 c)
theorem WL.wg {Y : Nat → Prop} {x w : World} {b : Nat} {L : List Int} {m : Nat} (h : WL Y x w b L m) : WG Y x w b L m none := ⟨h.k, h.le, Y, fun _ h => h, h.wr, fun _ _ _ h => by cases h⟩
theorem WG.wl {Y : Nat → Prop} {x w : World} {b : Nat} {L : List Int} {m : Nat} {o : Option (Nat × Int × Int)} (h : WG Y x w b L m o) : WL Y x w b L m := by
  obtain ⟨Z, hz, hw, _⟩ := h.out
  exact ⟨h.k, hw.less hz, h.le⟩
theorem WG.new {Y : Nat → Prop} {x w : World} {b : Nat} {L : List Int} {m : Nat} (h : WG Y x w b L m none) (a c : Int) (t : TypeId) : WG Y x (w.alloc (.cells #[.int .u8 a, .int .u8 c] t)) b L m (some (w.heap.size, a, c)) := by
  obtain ⟨Z, hz, hw, _⟩ := h.out
  have ta : Touch (fun _ => False) w (w.alloc (.cells #[.int .u8 a, .int .u8 c] t)) := (Touch.refl _ _).alloc _
  refine ⟨h.k.step ta, h.le, fun k => Z k ∨ (w.heap.size ≤ k ∧ k < (w.alloc (.cells #[.int .u8 a, .int .u8 c] t)).heap.size), fun k hk => Or.inl (hz k hk), hw.more ta (fun k hk => hk), ?_⟩
  intro g a' c' e
  cases e
  exact ⟨Or.inr ⟨Nat.le_refl _, by simp⟩, by simp [go_sem], by simp [go_sem]⟩
theorem pnum_g (n : Int) (hn : n = 1 ∨ n = 2 ∨ n = 4) {Y : Nat → Prop} {x0 w : World} {b : Nat} {L : List Int} {m : Nat} {o : Option (Nat × Int × Int)} (x : Int) (h : WG Y x0 w b L m o) (h0 : 0 ≤ x) (hx : x < numTop n) (hm : m + n.toNat ≤ 65535) :
    Calls Tryz.prog 92 #[.agg #[.pointer (some ⟨b, 0, none⟩)], .int .u32 x, .int .i64 n] w fun e w' => e = .returned (.agg #[.pointer (some ⟨b, 0, none⟩)]) ∧ WG Y x0 w' b (L ++ numBytes n.toNat x) (m + n.toNat) o := by
  obtain ⟨hk, hl, Z, hz, hw, ho⟩ := h
  refine (pnum_i n hn (Y := Z) (x0 := w) (m := m) x ⟨⟨Kept.refl _ _⟩, hw, hl⟩ h0 hx hm).mono ?_
  rintro e w' ⟨rfl, h'⟩
  refine ⟨rfl, ⟨hk.k.trans (h'.k.k.less (fun k _ q => hz k q))⟩, h'.le, Z, hz, h'.wr, ?_⟩
  intro g a c e
  obtain ⟨q0, q1, q2⟩ := ho g a c e
  exact ⟨q0, h'.k.k.cell q1 q0, h'.k.k.cell q2 q0⟩
theorem pput_g {Y : Nat → Prop} {x0 w : World} {b : Nat} {L : List Int} {m : Nat} {g : Nat} {a c : Int} (h : WG Y x0 w b L m (some (g, a, c))) (hm : m + 2 ≤ 65535) :
    Calls Tryz.prog 91 #[.agg #[.pointer (some ⟨b, 0, none⟩)], .slice (some ⟨g, 0, none⟩) 2 2] w fun e w' => e = .returned (.agg #[.pointer (some ⟨b, 0, none⟩)]) ∧ WG Y x0 w' b (L ++ [a, c]) (m + 2) none := by
  have hq := h.wl
  obtain ⟨hk, hl, Z, hz, hw, ho⟩ := h
  obtain ⟨q0, q1, q2⟩ := ho g a c rfl
  refine (pput_i _ [a, c] hq (two_arg q1 q2) hm).mono ?_
  rintro e w' ⟨rfl, h'⟩
  exact ⟨rfl, h'.wg⟩
/-- What a description's first eight bytes are. -/
def descB (P : PV) : List Int := numBytes 2 P.mtu ++ [P.dopts, P.dflags] ++ numBytes 4 P.dseq
theorem length_descB (P : PV) : (descB P).length = 8 := by simp [descB, numBytes]
theorem PW.pre {X : Nat → Prop} {w wa w' : World} {b : Nat} {L p l : List Int} {e : Ending} (h : PW X wa b (L ++ p) l e w') (KX : Kept X w wa) : PW X w b L (p ++ l) e w' := by
  rcases h.out with ⟨h1, h2, h3, h4⟩ | ⟨h1, h2, h3⟩
  · exact ⟨Or.inl ⟨h1, by simp only [List.length_append] at h2 ⊢; omega, by rw [← List.append_assoc]; exact h3, KX.trans h4⟩⟩
  · exact ⟨Or.inr ⟨h1, by simp only [List.length_append] at h2 ⊢; omega, KX.trans h3⟩⟩

set_option maxHeartbeats 4000000 in
theorem pwdesc_any (X : Nat → Prop) (b : Nat) (L : List Int) (P : PV) (ok : P.Ok) (vn vd vk vs vh : Value) (w : World) (hw : Wr X w b L 65535) (hL : L.length ≤ 24) (hs : List HV) (hv : ∀ w', Kept X w w' → HeadsAt w' vd hs) (oh : ∀ h ∈ hs, h.All) :
    Calls Tryz.prog 94 #[.agg #[.pointer (some ⟨b, 0, none⟩)], P.v vn vd vk vs vh] w fun e w' => PW X w b L (descB P ++ headsB hs) e w' := by
  obtain ⟨da, dc, rfl, -⟩ := ValsAt.form (hv w (Kept.refl _ _))
  obtain ⟨wa, hwa⟩ : ∃ wa, wa = (w.alloc (.cells #[.pointer (some ⟨b, 0, none⟩)] 114)).alloc (.cells #[.int .u8 P.typ, .int .u32 P.router, .int .u32 P.area, .int .u32 P.mask, .int .u16 P.iv, .int .u8 P.opts, .int .u8 P.prio, .int .u32 P.dead, .int .u32 P.dr, .int .u32 P.bdr, vn, .int .u16 P.mtu, .int .u8 P.dopts, .int .u8 P.dflags, .int .u32 P.dseq, (.slice da hs.length dc), vk, vs, vh] 33) := ⟨_, rfl⟩
  have ta : Touch (fun _ => False) w wa := by rw [hwa]; exact ((Touch.refl _ w).alloc _).alloc _
  have za : wa.heap.size = w.heap.size + 2 := by rw [hwa]; simp
  have ca : wa.cell? ⟨w.heap.size, 0, none⟩ = some (.pointer (some ⟨b, 0, none⟩)) := by rw [hwa]; simp [go_sem]
  have pa : Pd wa (w.heap.size + 1) P vn (.slice da hs.length dc) vk vs vh := by
    have := Pd.new (w.alloc (.cells #[.pointer (some ⟨b, 0, none⟩)] 114)) P vn (.slice da hs.length dc) vk vs vh 33
    rw [← hwa] at this
    simpa using this
  obtain ⟨Y, hY⟩ : ∃ Y : Nat → Prop, Y = fun k => X k ∨ (w.heap.size ≤ k ∧ k < wa.heap.size) := ⟨_, rfl⟩
  have ya : ∀ k, w.heap.size ≤ k → k < w.heap.size + 2 → Y k := by subst hY; exact fun k h1 h2 => Or.inr (by omega)
  have WA : Hid (Wr Y wa b L 65535) := by subst hY; exact hw.more ta (fun k hk => hk)
  have YX : Hid (∀ k, X k → Y k) := by subst hY; exact fun k hk => Or.inl hk
  have TA : Hid (Touch (fun _ => False) w wa) := ta
  have KX : Hid (∀ w', Kept Y wa w' → Kept X w w') := fun w' h => (Kept.of TA.out).trans (h.less (fun k _ hk => YX.out k hk))
  have c0 := hold_cell ca (ya _ (by dsimp only; omega) (by dsimp only; omega))
  have p11 := hold_cell pa.c11 (ya _ (by dsimp only; omega) (by dsimp only; omega))
  have p12 := hold_cell pa.c12 (ya _ (by dsimp only; omega) (by dsimp only; omega))
  have p13 := hold_cell pa.c13 (ya _ (by dsimp only; omega) (by dsimp only; omega))
  have p14 := hold_cell pa.c14 (ya _ (by dsimp only; omega) (by dsimp only; omega))
  have p15 := hold_cell pa.c15 (ya _ (by dsimp only; omega) (by dsimp only; omega))
  show Calls Tryz.prog 94 #[.agg #[.pointer (some ⟨b, 0, none⟩)], .agg #[.int .u8 P.typ, .int .u32 P.router, .int .u32 P.area, .int .u32 P.mask, .int .u16 P.iv, .int .u8 P.opts, .int .u8 P.prio, .int .u32 P.dead, .int .u32 P.dr, .int .u32 P.bdr, vn, .int .u16 P.mtu, .int .u8 P.dopts, .int .u8 P.dflags, .int .u32 P.dseq, (.slice da hs.length dc), vk, vs, vh]] w _
  obtain ⟨om0, om1⟩ := ok.mtu
  obtain ⟨os0, os1⟩ := ok.dseq
  have qm := wrap_u32 om0 (by omega)
  have d0 := c0 wa ⟨Kept.refl _ _⟩
  have d11 := p11 wa ⟨Kept.refl _ _⟩
  have d12 := p12 wa ⟨Kept.refl _ _⟩
  have d13 := p13 wa ⟨Kept.refl _ _⟩
  have d14 := p14 wa ⟨Kept.refl _ _⟩
  have d15 := p15 wa ⟨Kept.refl _ _⟩
  obtain ⟨wb, hwb⟩ : ∃ wb, wb = wa.alloc (.cells #[.int .u16 P.mtu, .int .u8 P.dopts, .int .u8 P.dflags, .int .u32 P.dseq, (.slice da hs.length dc)] 29) := ⟨_, rfl⟩
  have tb : Touch (fun _ => False) wa wb := by rw [hwb]; exact (Touch.refl _ _).alloc _
  have zb : wb.heap.size = wa.heap.size + 1 := by rw [hwb]; simp
  have cb0 : wb.cell? ⟨w.heap.size + 1 + 1, 0, none⟩ = some (.int .u16 P.mtu) := by rw [hwb, show w.heap.size + 1 + 1 = wa.heap.size by omega]; simp [go_sem]
  have cb1 : wb.cell? ⟨w.heap.size + 1 + 1, 1, none⟩ = some (.int .u8 P.dopts) := by rw [hwb, show w.heap.size + 1 + 1 = wa.heap.size by omega]; simp [go_sem]
  have cb2 : wb.cell? ⟨w.heap.size + 1 + 1, 2, none⟩ = some (.int .u8 P.dflags) := by rw [hwb, show w.heap.size + 1 + 1 = wa.heap.size by omega]; simp [go_sem]
  have cb3 : wb.cell? ⟨w.heap.size + 1 + 1, 3, none⟩ = some (.int .u32 P.dseq) := by rw [hwb, show w.heap.size + 1 + 1 = wa.heap.size by omega]; simp [go_sem]
  have cb4 : wb.cell? ⟨w.heap.size + 1 + 1, 4, none⟩ = some ((.slice da hs.length dc)) := by rw [hwb, show w.heap.size + 1 + 1 = wa.heap.size by omega]; simp [go_sem]
  obtain ⟨V, hV⟩ : ∃ V : Nat → Prop, V = fun k => Y k ∨ (wa.heap.size ≤ k ∧ k < wb.heap.size) := ⟨_, rfl⟩
  have vb : V (w.heap.size + 1 + 1) := by subst hV; exact Or.inr (by omega)
  have VY : Hid (∀ k, Y k → V k) := by subst hV; exact fun k hk => Or.inl hk
  have VX : Hid (∀ k, X k → V k) := fun k hk => VY.out k (YX.out k hk)
  have KV : Hid (∀ w', Hold V wb w' → Kept X w w') := fun w' h => KX.out _ ((Kept.of tb).trans (h.k.less (fun k _ hk => VY.out k hk)))
  have WB : WG V wb wb.drew b L 24 none := WL.wg ⟨⟨Kept.of ((Touch.refl _ _).drew)⟩, by subst hV; exact (WA.out.more tb (fun k hk => hk)).keep ((Touch.refl _ _).drew), hL⟩
  have b0 := hold_cell (tb.cellN d0) (VY.out _ (ya _ (by dsimp only; omega) (by dsimp only; omega)))
  have b1 := hold_cell cb0 vb
  have b2 := hold_cell cb1 vb
  have b3 := hold_cell cb2 vb
  have b4 := hold_cell cb3 vb
  have b5 := hold_cell cb4 vb
  have HH : Hid (∀ w1, Hold V wb w1 → WL V wb w1 b (L ++ descB P) 32 → Calls Tryz.prog 122 #[.agg #[.pointer (some ⟨b, 0, none⟩)], (.slice da hs.length dc)] w1 fun e w' => PW V w1 b (L ++ descB P) (headsB hs) e w') := fun w1 k1 h1 => pwheads_any V b (L ++ descB P) hs (.slice da hs.length dc) w1 h1.wr (by have := h1.le; omega) (fun w' h => hv w' (KV.out w' ⟨k1.k.trans h⟩)) oh
  have st := WB.k
  clear hw ta za ca pa hY ya c0 p11 p12 p13 p14 p15 hv oh ok hL tb zb hV vb cb0 cb1 cb2 cb3 cb4
  go_enter Tryz.func94, Tryz.ntmps94
  go_upto_region 2 with fail
  rw [← hwa]
  clear hwa
  rw [← hwb]
  clear hwb d0 d11 d12 d13 d14 d15
  generalize w.heap.size + 1 + 1 = g3 at *
  generalize w.heap.size + 1 = g2 at *
  generalize w.heap.size = g1 at *
  go_region_held3 (fun w' => Hold V wb w') (first | with_reducible assumption | exact Hold.step (by assumption) ((Touch.refl _ _).alloc _)) (first
    | (go_at_call 91; refine Calls.mono (pput_g (a := P.dopts) (c := P.dflags) (by first | assumption | exact WG.new (by assumption) _ _ _) (by simp)) ?_; rintro e wx ⟨rfl, hx⟩; have sx := hx.k)
    | (go_at_call 92; refine Calls.mono (pnum_g _ (by omega) _ (by first | assumption | exact WG.new (by assumption) _ _ _) (by omega) (by simp [numTop] <;> omega) (by simp)) ?_; rintro e wx ⟨rfl, hx⟩; have sx := hx.k))
  all_goals
    have W7 : WL V wb wx b (L ++ descB P) 32 := by
      have := hx.wl
      simpa [descB, List.append_assoc] using this
    have e0 := b0 _ sx
    have e5 := b5 _ sx
    have HC := HH.out _ sx W7
    have KW := KV.out _ sx
    clear W7 hx sx b0 b1 b2 b3 b4 b5
    go_wp2_with fail
    refine Calls.mono HC ?_
    intro e w9 h9
    have Q : Hid (PW X w b L (descB P ++ headsB hs) e w9) := PW.pre (h9.back VX.out (fun k => k.less (fun i _ hi => VX.out i hi))) KW
    rcases h9.out with ⟨rfl, -, -, -⟩ | ⟨rfl, -, -⟩
    · clear h9 HC e0 e5
      go_wp2
      go_end0
      exact Q.out
    · exact ⟨rfl, Q.out⟩
end Go.Proofs.YtjjgbcjgmjggnaaGreat
