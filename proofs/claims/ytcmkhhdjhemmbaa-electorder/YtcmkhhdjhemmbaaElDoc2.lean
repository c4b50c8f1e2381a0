
/- The document: who is designated by what all say at once. -/
import Derived.Test.YtcmkhhdjhemmbaaElDoc1
import Derived.Test.YtcmkhhdjhemmbaaElOnce
import Derived.OwnWalk
import Derived.Laws.OwnMore
namespace Go.Proofs.Ytcmkhhdjhemmbaa
open Go.RowKit
set_option linter.unusedVariables false
set_option maxRecDepth 100000

theorem infoBo : (Try.prog.info? 4).map (fun i => (i.zero, i.size, i.bytes)) = some (some (.bool false), 1, 1) := by kernel_rfl
/-- The marks, of which the first k are laid. -/
def mkL (f : VC → Bool) (l : List VC) (k : Nat) : List Value := (l.take k).map (fun x => Value.bool (x.el && f x)) ++ List.replicate (l.length - k) (.bool false)
theorem mkL_zero (f : VC → Bool) (l : List VC) : mkL f l 0 = List.replicate l.length (.bool false) := by simp [mkL]
theorem mkL_now (f : VC → Bool) (l : List VC) {k : Nat} (hk : k < l.length) : (mkL f l k)[k]? = some (.bool false) := by
  unfold mkL
  rw [List.getElem?_append_right (by simp; omega)]
  simp [List.getElem?_replicate]
  omega
theorem mkL_at (f : VC → Bool) (l : List VC) {i k : Nat} {x : VC} (hx : l[i]? = some x) (hi : i < k) : (mkL f l k)[i]? = some (.bool (x.el && f x)) := by
  have hl := (List.getElem?_eq_some_iff.mp hx).1
  unfold mkL
  rw [List.getElem?_append_left (by simp; omega), List.getElem?_map, List.getElem?_take, if_pos hi, hx]
  rfl
theorem mkL_put (f : VC → Bool) (l : List VC) {k : Nat} {x : VC} (hx : l[k]? = some x) {b : Bool} (hb : (x.el && f x) = b) : (mkL f l k).set k (.bool b) = mkL f l (k + 1) := by
  have hl := (List.getElem?_eq_some_iff.mp hx).1
  have he := (List.getElem?_eq_some_iff.mp hx).2
  subst hb
  unfold mkL
  rw [List.set_append_right _ _ (by simp; omega), List.take_succ_eq_append_getElem hl, he]
  have e : l.length - k = (l.length - (k + 1)) + 1 := by omega
  have e2 : k - ((l.take k).map (fun x => Value.bool (x.el && f x))).length = 0 := by simp; omega
  rw [e2, e, List.replicate_succ, List.set_cons_zero, List.map_append, List.append_assoc]
  rfl
theorem mkL_skip (f : VC → Bool) (l : List VC) {k : Nat} {x : VC} (hx : l[k]? = some x) (he : x.el = false) : mkL f l k = mkL f l (k + 1) := by
  rw [← mkL_put f l hx (b := false) (by simp [he])]
  apply List.ext_getElem?
  intro j
  rw [List.getElem?_set]
  split
  · subst_vars
    have hl := (List.getElem?_eq_some_iff.mp hx).1
    rw [mkL_now f l hl, if_pos]
    unfold mkL
    simp
    omega
  · rfl
abbrev OwnM (w0 w : World) (g n : Nat) (xs : List Value) : Prop := w.ownsRow w0.heap.size 4 1 (.slice (some ⟨g, 0, none⟩) n n) n xs
/-- The three rows of marks. -/
structure MK (w0 w : World) (l : List VC) (g1 g2 g3 k1 k2 k3 : Nat) : Prop where
  r1 : OwnM w0 w g1 l.length (mkL VC.ch l k1)
  r2 : OwnM w0 w g2 l.length (mkL fR l k2)
  r3 : OwnM w0 w g3 l.length (mkL fB l k3)
  t : Touch (fun _ => False) w0 w
  n12 : g1 < g2
  n23 : g2 < g3
theorem MK.keep {w0 w w' : World} {l : List VC} {g1 g2 g3 k1 k2 k3 : Nat} (h : MK w0 w l g1 g2 g3 k1 k2 k3) (t : Touch (fun _ => False) w w') : MK w0 w' l g1 g2 g3 k1 k2 k3 :=
  ⟨own_touch h.r1 t (fun _ _ h => h), own_touch h.r2 t (fun _ _ h => h), own_touch h.r3 t (fun _ _ h => h), h.t.trans t, h.n12, h.n23⟩
theorem own_apart {w0 w : World} {g g' n : Nat} {xs : List Value} (h : OwnM w0 w g n xs) (hg : g' ≠ g) (o : Nat) (u : Value) : OwnM w0 (w.setCell ⟨g', o, none⟩ u) g n xs :=
  own_touch h (F := fun k => k = g') (Touch.setCell (F := fun k => k = g') (p := ⟨g', o, none⟩) (Touch.refl _ w) (Or.inl rfl) u) (fun k hk e => by cases hk; exact hg e.symm)
theorem MK.put1 {w0 w : World} {l : List VC} {g1 g2 g3 k k2 k3 : Nat} (h : MK w0 w l g1 g2 g3 k k2 k3) {x : VC} (hx : l[k]? = some x) {b : Bool} (hb : (x.el && VC.ch x) = b) : MK w0 (w.setCell ⟨g1, k, none⟩ (.bool b)) l g1 g2 g3 (k + 1) k2 k3 := by
  have a := h.n12
  have c := h.n23
  refine ⟨?_, own_apart h.r2 (by omega) _ _, own_apart h.r3 (by omega) _ _, h.t.setCell (p := ⟨g1, k, none⟩) (Or.inr (h.r1.lt g1 rfl).1) _, a, c⟩
  rw [← mkL_put VC.ch l hx hb]
  exact (h.r1.stored k (.bool b)).1
theorem MK.put2 {w0 w : World} {l : List VC} {g1 g2 g3 k1 k k3 : Nat} (h : MK w0 w l g1 g2 g3 k1 k k3) {x : VC} (hx : l[k]? = some x) {b : Bool} (hb : (x.el && fR x) = b) : MK w0 (w.setCell ⟨g2, k, none⟩ (.bool b)) l g1 g2 g3 k1 (k + 1) k3 := by
  have a := h.n12
  have c := h.n23
  refine ⟨own_apart h.r1 (by omega) _ _, ?_, own_apart h.r3 (by omega) _ _, h.t.setCell (p := ⟨g2, k, none⟩) (Or.inr (h.r2.lt g2 rfl).1) _, a, c⟩
  rw [← mkL_put fR l hx hb]
  exact (h.r2.stored k (.bool b)).1
theorem MK.put3 {w0 w : World} {l : List VC} {g1 g2 g3 k1 k2 k : Nat} (h : MK w0 w l g1 g2 g3 k1 k2 k) {x : VC} (hx : l[k]? = some x) {b : Bool} (hb : (x.el && fB x) = b) : MK w0 (w.setCell ⟨g3, k, none⟩ (.bool b)) l g1 g2 g3 k1 k2 (k + 1) := by
  have a := h.n12
  have c := h.n23
  refine ⟨own_apart h.r1 (by omega) _ _, own_apart h.r2 (by omega) _ _, ?_, h.t.setCell (p := ⟨g3, k, none⟩) (Or.inr (h.r3.lt g3 rfl).1) _, a, c⟩
  rw [← mkL_put fB l hx hb]
  exact (h.r3.stored k (.bool b)).1
theorem own_now {w0 w : World} {g n : Nat} {xs : List Value} (h : OwnM w0 w g n xs) {k : Nat} {u : Value} (hk : k < n) (hu : xs[k]? = some u) : w.cell? ⟨g, k, none⟩ = some u ∧ w.frozen? ⟨g, k, none⟩ = false :=
  ⟨(h.cellAt k (by omega)).trans hu, h.frozenAt k⟩
theorem any_step (f : VC → Bool) (l : List VC) {k : Nat} {x : VC} (hx : l[k]? = some x) : anyB f (l.take (k + 1)) = (anyB f (l.take k) || (x.el && f x)) := by
  have hl := (List.getElem?_eq_some_iff.mp hx).1
  have he := (List.getElem?_eq_some_iff.mp hx).2
  rw [List.take_succ_eq_append_getElem hl, he]
  unfold anyB
  rw [List.any_append]
  simp
structure OnR (w : World) (l : List VC) (g1 g2 g3 gg : Nat) (s7 s8 s9 : Value) (wr : World) : Prop where
  out : ∃ k : Nat, k ≤ l.length ∧ l.length - k ≤ gg ∧ s9 = .int .i64 k ∧ s7 = .bool (anyB fB (l.take k)) ∧ s8 = .bool (anyB VC.ch (l.take k)) ∧ MK w wr l g1 g2 g3 k k k
theorem made_bools (n : Nat) : (madeCells #[Value.bool false] n).toList = List.replicate n (.bool false) := toList_madeCells_one _ _
set_option maxHeartbeats 4000000 in
theorem donce_any (l : List VC) (v : Value) (w : World) (hv : VcsAt w v l) (hn : l.length ≤ 1000) : CT 11 #[v] (onD l) (onB l) w := by
  unfold CT
  obtain ⟨i0, hi, hz0, hz1, hz2⟩ := info_parts infoBo
  have HF : Hid (∀ (f : VC → Bool) w' gm cm, Touch (fun _ => False) w w' → (∀ i x, l[i]? = some x → w'.cell? ⟨gm, i, none⟩ = some (.bool (x.el && f x))) → Calls Try.prog 24 #[v, .slice (some ⟨gm, 0, none⟩) l.length cm] w' fun e w'' => e = .returned (.int .u32 (bst f l).ad) ∧ Touch (fun _ => False) w' w'') := fun f w' gm cm t hm => dfirst_any f l v w' (hv.keep t) hn gm cm hm
  obtain ⟨va, vc, rfl, -⟩ := hv.form
  have HV : Hid (∀ w', Touch (fun _ => False) w w' → VcsAt w' (.slice va l.length vc) l) := fun w' t => hv.keep t
  have HD : Hid (onD l = if anyB VC.ch l = true then (bst VC.ch l).ad else onB l) := onD_doc l
  have HB : Hid (onB l = if anyB fB l = true then (bst fB l).ad else (bst fR l).ad) := onB_doc l
  generalize onD l = OD at *
  generalize onB l = OB at *
  have hn' : (l.length : Int) ≤ 1000 := by omega
  have hn0 : (0 : Int) ≤ (l.length : Int) := by omega
  clear hv
  go_enter Try.func11, Try.ntmps11
  go_wp2_with (at_make; refine wpList_make_full _ rfl (.tmp 12) (.tmp 12) 41 rfl w.heap.size 4 i0 (.bool false) 1 Try.underlying41 hi hz0 hz1 .i64 .i64 _ _ l.length rfl rfl ?c121 ?c122 ?c123 ?c124 ?c125 ?_)
  any_goals (first | omega | (rw [hz2]; omega) | (unfold maxLen; omega))
  intro w1 o1 gr1
  have t1 : Touch (fun _ => False) w w1 := (Touch.refl _ w).grown gr1 (by simp)
  have l1 := (o1.lt w.heap.size rfl).2
  clear gr1
  go_wp2_with (at_make; refine wpList_make_full _ rfl (.tmp 15) (.tmp 15) 41 rfl w.heap.size 4 i0 (.bool false) 1 Try.underlying41 hi hz0 hz1 .i64 .i64 _ _ l.length rfl rfl ?c151 ?c152 ?c153 ?c154 ?c155 ?_)
  any_goals (first | omega | (rw [hz2]; omega) | (unfold maxLen; omega))
  intro w2 o2 gr2
  have t2 : Touch (fun _ => False) w1 w2 := (Touch.refl _ w1).grown gr2 (by simp)
  have l2 := (o2.lt w1.heap.size rfl).2
  clear gr2
  go_wp2_with (at_make; refine wpList_make_full _ rfl (.tmp 18) (.tmp 18) 41 rfl w.heap.size 4 i0 (.bool false) 1 Try.underlying41 hi hz0 hz1 .i64 .i64 _ _ l.length rfl rfl ?c181 ?c182 ?c183 ?c184 ?c185 ?_)
  any_goals (first | omega | (rw [hz2]; omega) | (unfold maxLen; omega))
  intro w3 o3 gr3
  have t3 : Touch (fun _ => False) w2 w3 := (Touch.refl _ w2).grown gr3 (by simp)
  clear gr3
  rw [made_bools, ← mkL_zero VC.ch l] at o1
  rw [made_bools, ← mkL_zero fR l] at o2
  rw [made_bools, ← mkL_zero fB l] at o3
  have M0 : MK w w3 l w.heap.size w1.heap.size w2.heap.size 0 0 0 := ⟨own_touch (own_touch o1 t2 (fun _ _ h => h)) t3 (fun _ _ h => h), own_touch o2 t3 (fun _ _ h => h), o3, (t1.trans t2).trans t3, l1, l2⟩
  have HM0 : Hid (MK w w3 l w.heap.size w1.heap.size w2.heap.size 0 0 0) := M0
  clear M0 o1 o2 o3 t1 t2 t3 l1 l2
  generalize w1.heap.size = g2 at *
  generalize w2.heap.size = g3 at *
  generalize hg1 : w.heap.size = g1 at *
  clear hg1 hi hz0 hz1 hz2
  go_wp2_with fail
  go_loopg [7, 8, 9] l.length (fun gg s7 s8 s9 wr => OnR w l g1 g2 g3 gg s7 s8 s9 wr)
  case atStart => exact ⟨0, Nat.zero_le _, by omega, rfl, rfl, rfl, HM0.out⟩
  case round =>
    obtain ⟨k, hk, hg, rfl, hs7, hs8, M⟩ := hrel.out
    have HM : Hid (MK w wr l g1 g2 g3 k k k) := M
    clear hrel HM0 M
    by_cases hlt : k < l.length
    · have hlt' : (k : Int) < (l.length : Int) := by omega
      have hk00 : (0 : Int) ≤ (k : Int) := by omega
      have hkw : wrap64 ((k : Int) + 1) = (k : Int) + 1 := by unfold wrap64; omega
      obtain ⟨x, hx⟩ : ∃ x, l[k]? = some x := ⟨l[k], by simp [hlt]⟩
      obtain ⟨gR, off, cR, eR, -, -, hcell⟩ := (HV.out wr HM.out.t).at (by omega)
      cases eR
      have XD : Hid (VcD wr gR (off + k * 5) x) := hcell k x hx
      obtain ⟨e0, e1, e2, e3, e4⟩ := hcell k x hx
      have HX : Hid (l[k]? = some x) := hx
      have HA1 : Hid (anyB fB (l.take (k + 1)) = (anyB fB (l.take k) || (x.el && fB x))) := any_step fB l hx
      have HA2 : Hid (anyB VC.ch (l.take (k + 1)) = (anyB VC.ch (l.take k) || (x.el && VC.ch x))) := any_step VC.ch l hx
      have HCh := dch_any x
      have HBk := dbk_any x
      clear hcell hx
      generalize anyB fB (l.take k) = A at hs7 HA1
      generalize anyB VC.ch (l.take k) = D at hs8 HA2
      subst hs7 hs8
      by_cases hp : x.p = 0
      · have hp' : (x.p == 0) = true := by simpa using hp
        have hel : x.el = false := by simp [VC.el, hp]
        have MN : Hid (MK w wr l g1 g2 g3 (k + 1) (k + 1) (k + 1)) := by
          have m := HM.out
          refine ⟨?_, ?_, ?_, m.t, m.n12, m.n23⟩
          · rw [← mkL_skip VC.ch l HX.out hel]; exact m.r1
          · rw [← mkL_skip fR l HX.out hel]; exact m.r2
          · rw [← mkL_skip fB l HX.out hel]; exact m.r3
        replace HA1 : Hid (A = anyB fB (l.take (k + 1))) := by show _ = _; rw [HA1.out, hel]; simp
        replace HA2 : Hid (D = anyB VC.ch (l.take (k + 1))) := by show _ = _; rw [HA2.out, hel]; simp
        clear hp hel e0 e1 e3 e4
        go_wp2_with fail
        go_roundg (l.length - (k + 1))
        case measure => omega
        case rel => exact ⟨k + 1, by omega, by omega, by go_num, congrArg Value.bool HA1.out, congrArg Value.bool HA2.out, MN.out⟩
      · have hp' : (x.p == 0) = false := by simpa using hp
        by_cases hpp : 0 < x.p
        rotate_left
        · exfalso
          have := ((HV.out wr HM.out.t).ok x (List.mem_of_getElem? HX.out)).p0
          omega
        have hel : x.el = true := by simp [VC.el, hpp]
        have HEL : Hid (x.el = true) := hel
        have HFR : Hid (fR x = !x.ch) := (rfl : _ = _)
        have HFB : Hid (fB x = (!x.ch && x.bk)) := (rfl : _ = _)
        generalize hC : x.ch = C at HCh HFR HFB HA2
        have HCC : Hid (x.ch = C) := hC
        generalize x.bk = K at HBk HFB
        obtain ⟨m1, f1⟩ := own_now HM.out.r1 hlt (mkL_now VC.ch l hlt)
        clear hp hel hpp hC
        go_wp2_with fail
        refine (HCh _).mono ?_
        rintro e w4 ⟨rfl, t4⟩
        have HM4 : Hid _ := HM.out.keep t4
        obtain ⟨m1, f1⟩ := own_now HM4.out.r1 hlt (mkL_now VC.ch l hlt)
        have XD4 : Hid _ := XD.out.keep t4
        clear t4 e0 e1 e2 e3 e4
        go_upto_region 11 with fail
        have HM5 : Hid _ := HM4.out.put1 HX.out (b := C) (by rw [HEL.out, HCC.out]; rfl)
        have T5 : Hid (Touch (fun k => g1 = k) w4 (w4.setCell ⟨g1, k, none⟩ (.bool C))) := Touch.setCell (p := ⟨g1, k, none⟩) (Touch.refl _ _) (Or.inl rfl) _
        generalize w4.setCell ⟨g1, k, none⟩ (.bool C) = w5 at HM5 T5 ⊢
        obtain ⟨m1, f1⟩ := own_now HM5.out.r1 hlt (mkL_at VC.ch l HX.out (Nat.lt_succ_self k))
        obtain ⟨m2, f2⟩ := own_now HM5.out.r2 hlt (mkL_now fR l hlt)
        rw [HEL.out, HCC.out, Bool.true_and] at m1
        go_upto_region 12 with fail
        have HM6 : Hid _ := HM5.out.put2 HX.out (b := !C) (by rw [HEL.out, HFR.out]; rfl)
        have XD6 : Hid (VcD (w5.setCell ⟨g2, k, none⟩ (.bool !C)) gR (off + k * 5) x) := by
          have := (HV.out _ HM6.out.t).at (by omega)
          obtain ⟨gq, oq, cq, eq, -, -, hq⟩ := this
          cases eq
          exact hq k x HX.out
        generalize w5.setCell ⟨g2, k, none⟩ (.bool !C) = w6 at HM6 XD6 ⊢
        clear m1 f1 m2 f2
        obtain ⟨m2, f2⟩ := own_now HM6.out.r2 hlt (mkL_at fR l HX.out (Nat.lt_succ_self k))
        rw [HEL.out, HFR.out, Bool.true_and] at m2
        obtain ⟨m3, f3⟩ := own_now HM6.out.r3 hlt (mkL_now fB l hlt)
        obtain ⟨e0, e1, e2, e3, e4⟩ := XD6.out
        cases C
        · go_wp2_with fail
          refine (HBk _).mono ?_
          rintro e w7 ⟨rfl, t7⟩
          have HM7 : Hid _ := HM6.out.keep t7
          clear t7 m2 f2 m3 f3 e0 e1 e2 e3 e4
          obtain ⟨m3, f3⟩ := own_now HM7.out.r3 hlt (mkL_now fB l hlt)
          go_upto_region 13 with fail
          have HM8 : Hid _ := HM7.out.put3 HX.out (b := K) (by rw [HEL.out, HFB.out]; rfl)
          generalize w7.setCell ⟨g3, k, none⟩ (.bool K) = w8 at HM8 ⊢
          clear m3 f3
          obtain ⟨m3, f3⟩ := own_now HM8.out.r3 hlt (mkL_at fB l HX.out (Nat.lt_succ_self k))
          obtain ⟨m1, f1⟩ := own_now HM8.out.r1 hlt (mkL_at VC.ch l HX.out (Nat.lt_succ_self k))
          rw [HEL.out, HFB.out, Bool.true_and, Bool.not_false, Bool.true_and] at m3
          rw [HEL.out, HCC.out, Bool.true_and] at m1
          replace HA1 : Hid (anyB fB (l.take (k + 1)) = (A || K)) := by show _ = _; rw [HA1.out, HEL.out, HFB.out]; simp
          replace HA2 : Hid (anyB VC.ch (l.take (k + 1)) = (D || false)) := by show _ = _; rw [HA2.out, HEL.out]; simp
          cases A <;> cases D
          all_goals
            go_wp2_with fail
            go_roundg (l.length - (k + 1))
            case measure => omega
            case rel => exact ⟨k + 1, by omega, by omega, by go_num, congrArg Value.bool (by rw [HA1.out]; rfl), congrArg Value.bool (by rw [HA2.out]; rfl), HM8.out⟩
        · go_upto_region 13 with fail
          have HM8 : Hid _ := HM6.out.put3 HX.out (b := false) (by rw [HEL.out, HFB.out]; rfl)
          generalize w6.setCell ⟨g3, k, none⟩ (.bool false) = w8 at HM8 ⊢
          clear m3 f3 m2 f2 e0 e1 e2 e3 e4
          obtain ⟨m3, f3⟩ := own_now HM8.out.r3 hlt (mkL_at fB l HX.out (Nat.lt_succ_self k))
          obtain ⟨m1, f1⟩ := own_now HM8.out.r1 hlt (mkL_at VC.ch l HX.out (Nat.lt_succ_self k))
          rw [HEL.out, HFB.out, Bool.true_and, Bool.not_true, Bool.false_and] at m3
          rw [HEL.out, HCC.out, Bool.true_and] at m1
          replace HA1 : Hid (anyB fB (l.take (k + 1)) = (A || false)) := by show _ = _; rw [HA1.out, HEL.out, HFB.out]; simp
          replace HA2 : Hid (anyB VC.ch (l.take (k + 1)) = (D || true)) := by show _ = _; rw [HA2.out, HEL.out]; simp
          cases A <;> cases D
          all_goals
            go_wp2_with fail
            go_roundg (l.length - (k + 1))
            case measure => omega
            case rel => exact ⟨k + 1, by omega, by omega, by go_num, congrArg Value.bool (by rw [HA1.out]; rfl), congrArg Value.bool (by rw [HA2.out]; rfl), HM8.out⟩
    · have hlt' : ¬ (k : Int) < (l.length : Int) := by omega
      obtain rfl : k = l.length := by omega
      rw [List.take_length] at hs7 hs8
      subst hs7 hs8
      have H1 : Hid (∀ w', Touch (fun _ => False) wr w' → Calls Try.prog 24 #[.slice va l.length vc, .slice (some ⟨g1, 0, none⟩) l.length l.length] w' fun e w'' => e = .returned (.int .u32 (bst VC.ch l).ad) ∧ Touch (fun _ => False) w' w'') := fun w' t => HF.out VC.ch w' g1 _ (HM.out.t.trans t) (fun i x h => (own_now (HM.out.keep t).r1 ((List.getElem?_eq_some_iff.mp h).1) (mkL_at VC.ch l h ((List.getElem?_eq_some_iff.mp h).1))).1)
      have H2 : Hid (∀ w', Touch (fun _ => False) wr w' → Calls Try.prog 24 #[.slice va l.length vc, .slice (some ⟨g2, 0, none⟩) l.length l.length] w' fun e w'' => e = .returned (.int .u32 (bst fR l).ad) ∧ Touch (fun _ => False) w' w'') := fun w' t => HF.out fR w' g2 _ (HM.out.t.trans t) (fun i x h => (own_now (HM.out.keep t).r2 ((List.getElem?_eq_some_iff.mp h).1) (mkL_at fR l h ((List.getElem?_eq_some_iff.mp h).1))).1)
      have H3 : Hid (∀ w', Touch (fun _ => False) wr w' → Calls Try.prog 24 #[.slice va l.length vc, .slice (some ⟨g3, 0, none⟩) l.length l.length] w' fun e w'' => e = .returned (.int .u32 (bst fB l).ad) ∧ Touch (fun _ => False) w' w'') := fun w' t => HF.out fB w' g3 _ (HM.out.t.trans t) (fun i x h => (own_now (HM.out.keep t).r3 ((List.getElem?_eq_some_iff.mp h).1) (mkL_at fB l h ((List.getElem?_eq_some_iff.mp h).1))).1)
      generalize (bst VC.ch l).ad = z1 at *
      generalize (bst fR l).ad = z2 at *
      generalize (bst fB l).ad = z3 at *
      generalize anyB fB l = A at *
      generalize anyB VC.ch l = D at *
      have TR : Hid (Touch (fun _ => False) w wr) := HM.out.t
      cases A
      · replace HB : OB = z2 := HB.out
        subst HB
        cases D
        · replace HD : OD = OB := HD.out
          subst HD
          go_wp2_with fail
          refine (H2.out _ (Touch.refl _ _)).mono ?_
          rintro e w4 ⟨rfl, t4⟩
          go_wp2_with fail
          go_ret2
          exact ⟨rfl, TR.out.trans t4⟩
        · replace HD : OD = z1 := HD.out
          subst HD
          go_wp2_with fail
          refine (H2.out _ (Touch.refl _ _)).mono ?_
          rintro e w4 ⟨rfl, t4⟩
          go_wp2_with fail
          refine (H1.out _ t4).mono ?_
          rintro e w5 ⟨rfl, t5⟩
          go_wp2_with fail
          go_ret2
          exact ⟨rfl, (TR.out.trans t4).trans t5⟩
      · replace HB : OB = z3 := HB.out
        subst HB
        cases D
        · replace HD : OD = OB := HD.out
          subst HD
          go_wp2_with fail
          refine (H2.out _ (Touch.refl _ _)).mono ?_
          rintro e w4 ⟨rfl, t4⟩
          go_wp2_with fail
          refine (H3.out _ t4).mono ?_
          rintro e w5 ⟨rfl, t5⟩
          go_wp2_with fail
          go_ret2
          exact ⟨rfl, (TR.out.trans t4).trans t5⟩
        · replace HD : OD = z1 := HD.out
          subst HD
          go_wp2_with fail
          refine (H2.out _ (Touch.refl _ _)).mono ?_
          rintro e w4 ⟨rfl, t4⟩
          go_wp2_with fail
          refine (H3.out _ t4).mono ?_
          rintro e w5 ⟨rfl, t5⟩
          go_wp2_with fail
          refine (H1.out _ (t4.trans t5)).mono ?_
          rintro e w6 ⟨rfl, t6⟩
          go_wp2_with fail
          go_ret2
          exact ⟨rfl, ((TR.out.trans t4).trans t5).trans t6⟩
end Go.Proofs.Ytcmkhhdjhemmbaa
