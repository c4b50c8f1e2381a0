/- Package packet's writer: request. -/
import Derived.Test.YtjjgbcjgmjggnaaGreatPkHello
import Derived.Deep.RegionHeld2
import Derived.Deep.DeepCutAuto
import Derived.Test.YtjjgbcjgmjggnaaGreatDigBuf
namespace Go.Proofs.YtjjgbcjgmjggnaaGreat
open Go.RowKit
set_option linter.unusedVariables false
set_option maxRecDepth 100000

def KV.cells (x : KV) : List Value := [.int .u8 x.typ, .int .u32 x.id, .int .u32 x.adv]
def keysC (l : List KV) : List Value := l.flatMap KV.cells
theorem keysC_at (l : List KV) (j i : Nat) (x : KV) (hj : l[j]? = some x) (hi : i < 3) : (keysC l)[j * 3 + i]? = x.cells[i]? := by
  induction l generalizing j with
  | nil => simp at hj
  | cons y r ih =>
    have e : keysC (y :: r) = y.cells ++ keysC r := by simp [keysC]
    have hl : y.cells.length = 3 := rfl
    rw [e]
    cases j with
    | zero =>
      obtain rfl : y = x := by simpa using hj
      rw [List.getElem?_append_left (by omega), Nat.zero_mul, Nat.zero_add]
    | succ j =>
      rw [List.getElem?_append_right (by omega), hl, show (j + 1) * 3 + i - 3 = j * 3 + i by omega]
      exact ih j (by simpa using hj)
def KeysAt (w : World) (v : Value) (l : List KV) : Prop := ValsAt w 3 v l.length (keysC l)
theorem KeysAt.one {w : World} {v : Value} {l : List KV} (h : KeysAt w v l) {j : Nat} {x : KV} (hj : l[j]? = some x) : ∃ g off c, v = .slice (some ⟨g, off, none⟩) l.length c ∧ ∀ i u, x.cells[i]? = some u → w.cell? ⟨g, off + (j * 3 + i), none⟩ = some u := by
  have hlt := (List.getElem?_eq_some_iff.mp hj).1
  obtain ⟨g, off, c, e, _, _, hc⟩ := ValsAt.cells h (by omega) (by omega)
  refine ⟨g, off, c, e, fun i u hu => hc _ _ ?_⟩
  have hi : i < 3 := (List.getElem?_eq_some_iff.mp hu).1
  rw [keysC_at l j i x hj hi]
  exact hu
structure KV.All (x : KV) : Prop where
  t : 0 ≤ x.typ ∧ x.typ < 256
  i : 0 ≤ x.id ∧ x.id < 4294967296
  a : 0 ≤ x.adv ∧ x.adv < 4294967296
def keyB (x : KV) : List Int := numBytes 4 x.typ ++ numBytes 4 x.id ++ numBytes 4 x.adv
theorem length_keyB (x : KV) : (keyB x).length = 12 := by simp [keyB, numBytes]
def keysB (l : List KV) : List Int := l.flatMap keyB
theorem keysB_snoc (l : List KV) (x : KV) : keysB (l ++ [x]) = keysB l ++ keyB x := by simp [keysB]
theorem length_keysB (l : List KV) : (keysB l).length = 12 * l.length := by
  induction l with
  | nil => rfl
  | cons x r ih => rw [show keysB (x :: r) = keyB x ++ keysB r by simp [keysB], List.length_append, ih, length_keyB, List.length_cons]; omega
structure KyR (Y : Nat → Prop) (wa : World) (b : Nat) (L : List Int) (ks : List KV) (k : Nat) (i : Value) (wx : World) : Prop where
  out : ∃ j : Nat, j ≤ ks.length ∧ k = ks.length - j ∧ i = .int .i64 (j : Int) ∧ WL Y wa wx b (L ++ keysB (ks.take j)) 65535

set_option maxHeartbeats 4000000 in
theorem pwreq_any (X : Nat → Prop) (b : Nat) (L : List Int) (P : PV) (ok : P.Ok) (vn vd vk vs vh : Value) (w : World) (hw : Wr X w b L 65535) (hL : L.length ≤ 65535) (ks : List KV) (hv : ∀ w', Kept X w w' → KeysAt w' vk ks) (oh : ∀ h ∈ ks, h.All) :
    Calls Tryz.prog 95 #[.agg #[.pointer (some ⟨b, 0, none⟩)], P.v vn vd vk vs vh] w fun e w' => PW X w b L (keysB ks) e w' := by
  obtain ⟨da, dc, rfl, hmx⟩ := ValsAt.form (hv w (Kept.refl _ _))
  obtain ⟨wa, hwa⟩ : ∃ wa, wa = (w.alloc (.cells #[.pointer (some ⟨b, 0, none⟩)] 114)).alloc (.cells #[.int .u8 P.typ, .int .u32 P.router, .int .u32 P.area, .int .u32 P.mask, .int .u16 P.iv, .int .u8 P.opts, .int .u8 P.prio, .int .u32 P.dead, .int .u32 P.dr, .int .u32 P.bdr, vn, .int .u16 P.mtu, .int .u8 P.dopts, .int .u8 P.dflags, .int .u32 P.dseq, vd, (.slice da ks.length dc), vs, vh] 33) := ⟨_, rfl⟩
  have ta : Touch (fun _ => False) w wa := by rw [hwa]; exact ((Touch.refl _ w).alloc _).alloc _
  have za : wa.heap.size = w.heap.size + 2 := by rw [hwa]; simp
  have ca : wa.cell? ⟨w.heap.size, 0, none⟩ = some (.pointer (some ⟨b, 0, none⟩)) := by rw [hwa]; simp [go_sem]
  have pa : Pd wa (w.heap.size + 1) P vn vd (.slice da ks.length dc) vs vh := by
    have := Pd.new (w.alloc (.cells #[.pointer (some ⟨b, 0, none⟩)] 114)) P vn vd (.slice da ks.length dc) vs vh 33
    rw [← hwa] at this
    simpa using this
  obtain ⟨Y, hY⟩ : ∃ Y : Nat → Prop, Y = fun k => X k ∨ (w.heap.size ≤ k ∧ k < wa.heap.size) := ⟨_, rfl⟩
  have ya : ∀ k, w.heap.size ≤ k → k < w.heap.size + 2 → Y k := by subst hY; exact fun k h1 h2 => Or.inr (by omega)
  have WA : Hid (Wr Y wa b L 65535) := by subst hY; exact hw.more ta (fun k hk => hk)
  have YX : Hid (∀ k, X k → Y k) := by subst hY; exact fun k hk => Or.inl hk
  have TA : Hid (Touch (fun _ => False) w wa) := ta
  have KX : Hid (∀ w', Kept Y wa w' → Kept X w w') := fun w' h => (Kept.of TA.out).trans (h.less (fun k _ hk => YX.out k hk))
  have c0 := hold_cell ca (ya _ (by dsimp only; omega) (by dsimp only; omega))
  have p16 := hold_cell pa.c16 (ya _ (by dsimp only; omega) (by dsimp only; omega))
  show Calls Tryz.prog 95 #[.agg #[.pointer (some ⟨b, 0, none⟩)], .agg #[.int .u8 P.typ, .int .u32 P.router, .int .u32 P.area, .int .u32 P.mask, .int .u16 P.iv, .int .u8 P.opts, .int .u8 P.prio, .int .u32 P.dead, .int .u32 P.dr, .int .u32 P.bdr, vn, .int .u16 P.mtu, .int .u8 P.dopts, .int .u8 P.dflags, .int .u32 P.dseq, vd, (.slice da ks.length dc), vs, vh]] w _
  have d0 := c0 wa ⟨Kept.refl _ _⟩
  have d16 := p16 wa ⟨Kept.refl _ _⟩
  have REL : Hid (KyR Y wa b L ks ks.length (.int .i64 0) wa) := ⟨0, by omega, by omega, rfl, ⟨⟨Kept.refl _ _⟩, by simpa [keysB] using WA.out, by simpa [keysB] using hL⟩⟩
  have HW : Hid (∀ w', Hold Y wa w' → KeysAt w' (.slice da ks.length dc) ks) := fun w' h => hv w' (KX.out w' h.k)
  have OK : Hid (∀ h ∈ ks, h.All) := oh
  have YA : Hid (Y w.heap.size) := ya _ (by omega) (by omega)
  have hmx' : (ks.length : Int) ≤ 9223372036854775807 := by unfold maxLen at hmx; omega
  clear hw hL hv oh ok ta za ca pa hY ya hmx p16
  go_enter Tryz.func95, Tryz.ntmps95
  go_wp2_with fail
  rw [← hwa]
  clear hwa
  clear d0 d16
  generalize w.heap.size = g1 at *
  go_loopg [9] ks.length (fun k i wx => KyR Y wa b L ks k i wx)
  case atStart => exact REL.out
  case round =>
    clear REL
    obtain ⟨k, hk, hgk, rfl, hwl⟩ := hrel.out
    have WLr : Hid (WL Y wa wr b (L ++ keysB (ks.take k)) 65535) := hwl
    have d0 := c0 _ hwl.k
    clear hwl hrel
    by_cases hlt : k < ks.length
    · have hlt' : (k : Int) < (ks.length : Int) := by omega
      have hk0 : (0 : Int) ≤ (k : Int) := by omega
      obtain ⟨x, hx⟩ : ∃ x, ks[k]? = some x := ⟨ks[k], by simp [hlt]⟩
      obtain ⟨gR, off, cR, eR, hcell⟩ := KeysAt.one (HW.out wr WLr.out.k) hx
      cases eR
      have e0 : wr.cell? ⟨gR, off + k * 3, none⟩ = some (.int .u8 x.typ) := by exact hcell 0 _ rfl
      have e1 : wr.cell? ⟨gR, off + k * 3 + 1, none⟩ = some (.int .u32 x.id) := by rw [Nat.add_assoc]; exact hcell 1 _ rfl
      have e2 : wr.cell? ⟨gR, off + k * 3 + 2, none⟩ = some (.int .u32 x.adv) := by rw [Nat.add_assoc]; exact hcell 2 _ rfl
      obtain ⟨⟨xt0, xt1⟩, ⟨xi0, xi1⟩, ⟨xa0, xa1⟩⟩ := OK.out x (List.mem_of_getElem? hx)
      have qx := wrap_u32 xt0 (by omega)
      have hkw : wrap64 ((k : Int) + 1) = (k : Int) + 1 := by unfold wrap64; omega
      have NO : Hid (∀ l : List Int, l.length ≤ (L ++ keysB (ks.take k)).length + 8 → 65535 < l.length + 4 → 65535 < L.length + (keysB ks).length) := by
        intro l h1 h2
        rw [List.length_append, length_keysB, List.length_take] at h1
        rw [length_keysB]
        omega
      have HN : Hid (L ++ keysB (ks.take (k + 1)) = (L ++ keysB (ks.take k)) ++ keyB x) := by show _ = _; rw [List.take_add_one, hx, show (some x).toList = [x] from rfl, keysB_snoc, List.append_assoc]
      clear hcell hx
      have t4 : Touch (fun _ => False) wr (wr.alloc (.cells #[.int .u8 x.typ, .int .u32 x.id, .int .u32 x.adv] 148)) := (Touch.refl _ _).alloc _
      have k0 : (wr.alloc (.cells #[.int .u8 x.typ, .int .u32 x.id, .int .u32 x.adv] 148)).cell? ⟨wr.heap.size, 0, none⟩ = some (.int .u8 x.typ) := by simp [go_sem]
      have k1 : (wr.alloc (.cells #[.int .u8 x.typ, .int .u32 x.id, .int .u32 x.adv] 148)).cell? ⟨wr.heap.size, 1, none⟩ = some (.int .u32 x.id) := by simp [go_sem]
      have k2 : (wr.alloc (.cells #[.int .u8 x.typ, .int .u32 x.id, .int .u32 x.adv] 148)).cell? ⟨wr.heap.size, 2, none⟩ = some (.int .u32 x.adv) := by simp [go_sem]
      have z4 : (wr.alloc (.cells #[.int .u8 x.typ, .int .u32 x.id, .int .u32 x.adv] 148)).heap.size = wr.heap.size + 1 := by simp
      go_upto_region 4 with fail
      generalize wr.alloc (.cells #[.int .u8 x.typ, .int .u32 x.id, .int .u32 x.adv] 148) = w4 at *
      obtain ⟨Y5, hY5⟩ : ∃ Y5 : Nat → Prop, Y5 = fun k => Y k ∨ (wr.heap.size ≤ k ∧ k < w4.heap.size) := ⟨_, rfl⟩
      have y5 : Y5 wr.heap.size := by subst hY5; exact Or.inr (by omega)
      have Y5Y : ∀ k, Y k → Y5 k := by subst hY5; exact fun k hk => Or.inl hk
      have W4 : WL Y5 w4 w4.drew b (L ++ keysB (ks.take k)) 65535 := ⟨⟨Kept.of ((Touch.refl _ _).drew)⟩, by subst hY5; exact (WLr.out.wr.more t4 (fun k hk => hk)).keep ((Touch.refl _ _).drew), WLr.out.le⟩
      have BK : Hid (∀ w', Hold Y5 w4 w' → Hold Y wa w') := fun w' h => ⟨WLr.out.k.k.trans ((Kept.of t4).trans (h.k.less (fun k _ hk => Y5Y k hk)))⟩
      have LS : Hid (∀ w' l, Wr Y5 w' b l 65535 → Wr Y w' b l 65535) := fun w' l h => h.less Y5Y
      have d1 := hold_cell (t4.cellN d0) (Y5Y _ YA.out)
      have h0 := hold_cell k0 y5
      have h1 := hold_cell k1 y5
      have h2 := hold_cell k2 y5
      have s4 := W4.k
      clear hY5 y5 Y5Y t4 d0 k0 k1 k2 z4 WLr e0 e1 e2
      generalize wr.heap.size = g5 at *
      generalize L ++ keysB (ks.take k) = LL at *
      go_region_held2 (fun w' => Hold Y5 w4 w') (with_reducible assumption) (first
        | (go_at_call 92; refine Calls.mono (pnum_or _ (by assumption) (by omega) (by omega)) ?_; rintro e w6 (⟨rfl, h6⟩ | ⟨rfl, l6, s6⟩); rotate_left; exact ⟨rfl, ⟨Or.inr ⟨rfl, NO.out _ (by simp [numBytes]) l6, KX.out _ (BK.out _ s6).k⟩⟩⟩; have s6 := h6.k))
      have W7 : Hid (WL Y wa w6 b (LL ++ keyB x) 65535) := ⟨BK.out _ s6, by have := LS.out _ _ h6.wr; simpa [keyB, List.append_assoc] using this, by have := h6.le; simpa [keyB, List.append_assoc] using this⟩
      clear s6 h6 W4 s4 d1 h0 h1 h2
      go_wp2_with fail
      go_roundg (ks.length - (k + 1))
      case measure => omega
      case rel => exact ⟨k + 1, by omega, by omega, by go_num, by rw [HN.out]; exact W7.out⟩
    · obtain rfl : k = ks.length := by omega
      have W5 : Hid (WL Y wa wr b (L ++ keysB ks) 65535) := by have := WLr.out; rwa [List.take_length] at this
      clear WLr
      go_wp2_with fail
      go_end0
      exact ⟨Or.inl ⟨rfl, by have := W5.out.le; rwa [List.length_append] at this, W5.out.wr.less YX.out, KX.out _ W5.out.k.k⟩⟩
end Go.Proofs.YtjjgbcjgmjggnaaGreat

namespace Go.Proofs.YtjjgbcjgmjggnaaGreat
open Go.RowKit
set_option linter.unusedVariables false
set_option maxRecDepth 100000

/-- One step of a reader: the place, the error, was anything taken. -/
def stepR (len p : Nat) (err n : Int) : Nat × Int × Bool :=
  if err = 0 then (if n < 0 then (p, 1, false) else if (len : Int) < p + n then (p, 10, false) else (p + n.toNat, 0, true)) else (p, err, false)
def gotR (rs : List Int) (p : Nat) (err n : Int) : List Int := if (stepR rs.length p err n).2.2 = true then (rs.drop p).take n.toNat else []
theorem stepR_dead (len p : Nat) (err n : Int) (h : ¬ err = 0) : stepR len p err n = (p, err, false) := by simp [stepR, h]
theorem stepR_arg (len p : Nat) (n : Int) (h : n < 0) : stepR len p 0 n = (p, 1, false) := by simp [stepR, h]
theorem stepR_short (len p : Nat) (n : Int) (h : ¬ n < 0) (h2 : (len : Int) < p + n) : stepR len p 0 n = (p, 10, false) := by simp [stepR, h, h2]
theorem stepR_ok (len p : Nat) (n : Int) (h : ¬ n < 0) (h2 : ¬ (len : Int) < p + n) : stepR len p 0 n = (p + n.toNat, 0, true) := by simp [stepR, h, h2]

theorem cut_dead (b p : Nat) (n err : Int) (rv : Value) (rs : List Int) (w : World) (h : RdS w b rv rs p err) (he : ¬ err = 0) :
    Calls Tryz.prog 130 #[.pointer (some ⟨b, 0, none⟩), .int .i64 n] w fun e w' => e = .returned (.slice none 0 0) ∧ w = w' := by
  have h0 := h.made
  have h3 := h.err
  have he' : (err == 0) = false := by simpa using he
  by_cases hn : n < 0
  · go_enter Tryz.func130, Tryz.ntmps130
    go_wp2_with (first | (go_at_call 129; refine (refuse_dead _ _ _ _ h0 h3 he').mono ?_; rintro e w' ⟨rfl, rfl⟩) | (go_at_call 152; refine (rwhole_any _ _ _ h0 h3).mono ?_; rintro e w' ⟨rfl, rfl⟩))
    go_ret
    exact ⟨rfl, rfl⟩
  · by_cases hp : 0 < n
    all_goals
      go_enter Tryz.func130, Tryz.ntmps130
      go_wp2_with (first | (go_at_call 146; refine (left_dead _ _ _ h0 h3 he').mono ?_; rintro e w' ⟨rfl, rfl⟩) | (go_at_call 129; refine (refuse_dead _ _ _ _ h0 h3 he').mono ?_; rintro e w' ⟨rfl, rfl⟩) | (go_at_call 152; refine (rwhole_any _ _ _ h0 h3).mono ?_; rintro e w' ⟨rfl, rfl⟩))
      go_ret
      exact ⟨rfl, rfl⟩

theorem cut_arg (b p : Nat) (n : Int) (rv : Value) (rs : List Int) (w : World) (h : RdS w b rv rs p 0) (hn : n < 0) :
    Calls Tryz.prog 130 #[.pointer (some ⟨b, 0, none⟩), .int .i64 n] w fun e w' => e = .returned (.slice none 0 0) ∧ w.setCell ⟨b, 3, none⟩ (.int .i64 1) = w' := by
  have h0 := h.made
  have h3 := h.err
  have hf := h.f3
  have h' := h.setErr 1
  have k0 := h'.made
  have k3 := h'.err
  go_enter Tryz.func130, Tryz.ntmps130
  go_wp2_with (first | (go_at_call 129; refine (refuse_ok _ _ _ h0 h3 hf).mono ?_; rintro e w' ⟨rfl, rfl⟩) | (go_at_call 152; refine (rwhole_any _ 1 _ k0 k3).mono ?_; rintro e w' ⟨rfl, rfl⟩))
  go_ret
  exact ⟨rfl, rfl⟩

theorem cut_all (b p : Nat) (n err : Int) (rv : Value) (rs : List Int) (w : World) (h : RdS w b rv rs p err) (hn : n ≤ 9223372036854775807) :
    Calls Tryz.prog 130 #[.pointer (some ⟨b, 0, none⟩), .int .i64 n] w fun e w' => ∃ sv, e = .returned sv ∧ RowAt w' sv (gotR rs p err n) ∧ (sv.ownBlock = none ∨ sv.ownBlock = rv.ownBlock) ∧
      RdS w' b rv rs (stepR rs.length p err n).1 (stepR rs.length p err n).2.1 ∧ Touch (fun k => k = b) w w' ∧ w'.heap.size = w.heap.size := by
  by_cases he : err = 0
  · subst he
    by_cases h0 : n < 0
    · refine (cut_arg b p n rv rs w h h0).mono ?_
      rintro e w' ⟨rfl, rfl⟩
      refine ⟨_, rfl, ?_, Or.inl rfl, ?_, Touch.setCell (F := fun k => k = b) (p := ⟨b, 3, none⟩) (Touch.refl _ w) (Or.inl rfl) _, by simp [World.setCell]⟩
      · simp only [gotR, stepR_arg _ _ _ h0]; exact Or.inl ⟨rfl, by simp⟩
      · rw [stepR_arg _ _ _ h0]; exact h.setErr 1
    · by_cases h1 : (rs.length : Int) < p + n
      · refine (cut_short b p n rv rs w h h1 hn).mono ?_
        rintro e w' ⟨rfl, hr, ht, hs⟩
        refine ⟨_, rfl, ?_, Or.inl rfl, ?_, ht, hs⟩
        · simp only [gotR, stepR_short _ _ _ h0 h1]; exact Or.inl ⟨rfl, by simp⟩
        · rw [stepR_short _ _ _ h0 h1]; exact hr
      · obtain ⟨m, rfl⟩ : ∃ m : Nat, n = m := ⟨n.toNat, by omega⟩
        refine (cut_ok b p m rv rs w h (by omega)).mono ?_
        rintro e w' ⟨sv, rfl, hrow, hob, hr, ht, hs⟩
        refine ⟨sv, rfl, ?_, hob, ?_, ht, hs⟩
        · simp only [gotR, stepR_ok _ _ _ h0 h1, Int.toNat_natCast, if_true]; exact hrow
        · rw [stepR_ok _ _ _ h0 h1]; simpa using hr
  · refine (cut_dead b p n err rv rs w h he).mono ?_
    rintro e w' ⟨rfl, rfl⟩
    refine ⟨_, rfl, ?_, Or.inl rfl, ?_, Touch.refl _ _, rfl⟩
    · simp only [gotR, stepR_dead _ _ _ _ he]; exact Or.inl ⟨rfl, by simp⟩
    · rw [stepR_dead _ _ _ _ he]; exact h

theorem rnumber_dead (b p : Nat) (n err : Int) (rv : Value) (rs : List Int) (w : World) (h : RdS w b rv rs p err) (he : ¬ err = 0) :
    Calls Tryz.prog 102 #[.pointer (some ⟨b, 0, none⟩), .int .i64 n] w fun e w' => e = .returned (.int .u32 0) ∧ w = w' := by
  have g0 := h.made
  have g3 := h.err
  have he' : (err == 0) = false := by simpa using he
  by_cases h1 : n < 1
  · go_enter Tryz.func102, Tryz.ntmps102
    go_wp2_with (go_at_call 129; refine (refuse_dead _ _ _ _ g0 g3 he').mono ?_; rintro e w' ⟨rfl, rfl⟩)
    go_ret
    exact ⟨rfl, rfl⟩
  · have h1' : decide (n < 1) = false := by simpa using h1
    by_cases h4 : 4 < n
    · go_enter Tryz.func102, Tryz.ntmps102
      go_wp2_with (go_at_call 129; refine (refuse_dead _ _ _ _ g0 g3 he').mono ?_; rintro e w' ⟨rfl, rfl⟩)
      go_ret
      exact ⟨rfl, rfl⟩
    · have h4' : decide (4 < n) = false := by simpa using h4
      go_enter Tryz.func102, Tryz.ntmps102
      go_wp2_with (go_at_call 130; refine (cut_dead _ _ _ _ _ _ _ h he).mono ?_; rintro e w' ⟨rfl, rfl⟩)
      go_rounds 1
      go_ret
      exact ⟨rfl, rfl⟩

theorem got_len (rs : List Int) (p : Nat) (err n : Int) : (gotR rs p err n).length ≤ rs.length := by
  unfold gotR
  split
  · simp; omega
  · simp

theorem rbytes_all (b p : Nat) (n err : Int) (rv : Value) (rs : List Int) (w : World) (h : RdS w b rv rs p err) (hn : n ≤ 9223372036854775807) (hcap : rs.length ≤ 1099511627776) :
    Calls Tryz.prog 103 #[.pointer (some ⟨b, 0, none⟩), .int .i64 n] w fun e w' => ∃ v, e = .returned v ∧ w'.ownsRow w.heap.size 5 1 v (gotR rs p err n).length (bytesOf (gotR rs p err n)) ∧
      RdS w' b rv rs (stepR rs.length p err n).1 (stepR rs.length p err n).2.1 ∧ Touch (fun k => k = b) w w' := by
  have hgl := got_len rs p err n
  have hbl := lt_of_cell h.made
  have hcut := cut_all b p n err rv rs w h hn
  generalize gotR rs p err n = got at hcut hgl ⊢
  generalize stepR rs.length p err n = st at hcut ⊢
  go_enter Tryz.func103, Tryz.ntmps103
  go_wp2_with fail
  refine hcut.mono ?_
  rintro e w1 ⟨sv, rfl, hrow, hob, hr, ht, hs⟩
  rcases hrow with ⟨rfl, rfl⟩ | ⟨g, off, c, rfl, hlc, hcm, hcells⟩
  · go_wp2_with fail
    refine (clone_nil _).mono ?_
    rintro e w2 ⟨rfl, rfl⟩
    go_wp2
    go_ret
    exact ⟨_, rfl, World.ownsRow_nil _ _ _ _, hr, ht⟩
  · go_wp2_with fail
    refine (clone_some ⟨g, off, none⟩ c got w1 (fun j u hj => by rw [add_plain]; exact hcells j u hj) (by omega)).mono ?_
    rintro e w2 ⟨v, rfl, hown, t2, hne⟩
    go_wp2
    go_ret
    exact ⟨v, rfl, by rw [← hs]; exact hown, hr.touch t2 (fun h => h) (fun _ _ h => h), ht.trans' t2 (fun _ _ h => h.elim)⟩

end Go.Proofs.YtjjgbcjgmjggnaaGreat
