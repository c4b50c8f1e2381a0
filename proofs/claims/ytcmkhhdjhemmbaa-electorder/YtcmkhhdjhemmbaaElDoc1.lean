
/- The document: whom a voice names; the first of those that are marked. -/
import Derived.Test.YtcmkhhdjhemmbaaElCode1
import Derived.Deep.LoopGhost
import Derived.Deep.DeepCutAuto
namespace Go.Proofs.Ytcmkhhdjhemmbaa
open Go.RowKit
set_option linter.unusedVariables false
set_option maxRecDepth 100000

theorem beq_turn (a b : Int) : (a == b) = (b == a) := Bool.eq_iff_iff.2 (by rw [beq_iff_eq, beq_iff_eq]; exact eq_comm)
theorem dch_any (x : VC) (w : World) : CB 22 #[x.agg] (VC.ch x) w := by
  unfold CB VC.ch VC.is
  obtain ⟨r, ad, p, dr, bd⟩ := x
  by_cases h : ad = 0
  · subst h
    go_enter Try.func22, Try.ntmps22
    go_wp2
    go_ret
    exact ⟨rfl, (Touch.refl _ _).alloc _⟩
  · have h' : (ad == 0) = false := by simpa using h
    have E : Hid ((dr == ad) = (ad == dr)) := beq_turn _ _
    go_enter Try.func22, Try.ntmps22
    go_wp2
    go_ret
    exact ⟨ret_bool (by rw [E.out]; rfl), (Touch.refl _ _).alloc _⟩
theorem dbk_any (x : VC) (w : World) : CB 23 #[x.agg] (VC.bk x) w := by
  unfold CB VC.bk VC.is
  obtain ⟨r, ad, p, dr, bd⟩ := x
  by_cases h : ad = 0
  · subst h
    go_enter Try.func23, Try.ntmps23
    go_wp2
    go_ret
    exact ⟨rfl, (Touch.refl _ _).alloc _⟩
  · have h' : (ad == 0) = false := by simpa using h
    have E : Hid ((bd == ad) = (ad == bd)) := beq_turn _ _
    go_enter Try.func23, Try.ntmps23
    go_wp2
    go_ret
    exact ⟨ret_bool (by rw [E.out]; rfl), (Touch.refl _ _).alloc _⟩
structure FsR (l : List VC) (f : VC → Bool) (w : World) (gg : Nat) (s5 s6 : Value) (wr : World) : Prop where
  out : ∃ k : Nat, k ≤ l.length ∧ l.length - k ≤ gg ∧ s6 = .int .i64 k ∧ Touch (fun _ => False) w wr ∧ ((s5 = .int .i64 (-1) ∧ bst f (l.take k) = VC.zero) ∨ ∃ (j : Nat) (y : VC), j < l.length ∧ s5 = .int .i64 j ∧ l[j]? = some y ∧ y = bst f (l.take k))
set_option maxHeartbeats 4000000 in
theorem dfirst_any (f : VC → Bool) (l : List VC) (v : Value) (w : World) (hv : VcsAt w v l) (hn : l.length ≤ 1000) (gm cm : Nat) (hm : ∀ i x, l[i]? = some x → w.cell? ⟨gm, i, none⟩ = some (.bool (x.el && f x))) :
    Calls Try.prog 24 #[v, .slice (some ⟨gm, 0, none⟩) l.length cm] w fun e w' => e = .returned (.int .u32 (bst f l).ad) ∧ Touch (fun _ => False) w w' := by
  obtain ⟨va, vc, rfl, -⟩ := hv.form
  have HV : Hid (∀ w', Touch (fun _ => False) w w' → VcsAt w' (.slice va l.length vc) l) := fun w' t => hv.keep t
  have HM : Hid (∀ w', Touch (fun _ => False) w w' → ∀ i x, l[i]? = some x → w'.cell? ⟨gm, i, none⟩ = some (.bool (x.el && f x))) := fun w' t i x h => t.cellN (hm i x h)
  have hn' : (l.length : Int) ≤ 1000 := by omega
  generalize hz : bst f l = Z
  have HZ : Hid (bst f l = Z) := hz
  clear hv hm hz
  go_enter Try.func24, Try.ntmps24
  go_wp2_with fail
  go_loopg [5, 6] l.length (fun gg s5 s6 wr => FsR l f w gg s5 s6 wr)
  case atStart => exact ⟨0, Nat.zero_le _, by omega, rfl, Touch.refl _ _, Or.inl ⟨rfl, rfl⟩⟩
  case round =>
    obtain ⟨k, hk, hg, rfl, tr, hb⟩ := hrel.out
    have TR : Hid (Touch (fun _ => False) w wr) := tr
    clear tr hrel
    by_cases hlt : k < l.length
    · have hlt' : (k : Int) < (l.length : Int) := by omega
      have hk00 : (0 : Int) ≤ (k : Int) := by omega
      have hkw : wrap64 ((k : Int) + 1) = (k : Int) + 1 := by unfold wrap64; omega
      obtain ⟨x, hx⟩ : ∃ x, l[k]? = some x := ⟨l[k], by simp [hlt]⟩
      obtain ⟨gR, off, cR, eR, -, -, hcell⟩ := (HV.out wr TR.out).at (by omega)
      cases eR
      have hmk := HM.out wr TR.out k x hx
      obtain ⟨e0, e1, e2, e3, e4⟩ := hcell k x hx
      have HX : Hid (l[k]? = some x) := hx
      have HS : Hid (bst f (l.take (k + 1)) = stp f (bst f (l.take k)) x) := by
        have : l[k] = x := by rw [List.getElem?_eq_getElem hlt] at hx; exact Option.some.inj hx
        show _ = _
        rw [List.take_succ_eq_append_getElem hlt, bst_snoc, this]
      have HC : Hid (∀ j y, l[j]? = some y → VcD wr gR (off + j * 5) y) := hcell
      clear hcell hx e1 e3 e4
      cases hmm : (x.el && f x)
      · rw [hmm] at hmk
        have HN : Hid (bst f (l.take (k + 1)) = bst f (l.take k)) := by show _ = _; rw [HS.out]; simp [stp, tkB, hmm]
        have T3 := TR
        clear e0 e2 HS hmm
        rcases hb with ⟨rfl, hb⟩ | ⟨j, y, hj, rfl, hy, hb⟩
        · have HB : Hid _ := hb
          clear hb
          go_wp2_with fail
          go_roundg (l.length - (k + 1))
          case measure => omega
          case rel => exact ⟨k + 1, by omega, by omega, by go_num, T3.out, Or.inl ⟨rfl, HN.out.trans HB.out⟩⟩
        · have HB : Hid (l[j]? = some y ∧ y = bst f (l.take k)) := ⟨hy, hb⟩
          clear hb hy
          go_wp2_with fail
          go_roundg (l.length - (k + 1))
          case measure => omega
          case rel => exact ⟨k + 1, by omega, by omega, by go_num, T3.out, Or.inr ⟨j, y, hj, rfl, HB.out.1, HB.out.2.trans HN.out.symm⟩⟩
      · rw [hmm] at hmk
        have HT : Hid (∀ b, stp f b x = if x.ahd b = true then x else b) := fun b => by show _ = _; simp [stp, tkB, hmm]
        have hpx : 0 < x.p := by simp [VC.el] at hmm; exact hmm.1
        have c0 := aft_cell e0
        have c2 := aft_cell e2
        rcases hb with ⟨rfl, hb⟩ | ⟨j, y, hj, rfl, hy, hb⟩
        · have HN : Hid (x = bst f (l.take (k + 1))) := by show _ = _; rw [HS.out, HT.out, hb, if_pos (ahd_yes.2 (Or.inl hpx))]
          have d0 := c0
          have d2 := c2
          clear hb hpx hmm HT HS
          go_upto_region 6 with fail
          refine wp_region_aft (by kernel_rfl) (by kernel_rfl) ?_
          repeat (first | go_big_quiet_skip | (go_big_quiet_want; go_big_quiet_op; first | go_big_quiet_on | (refine Exists.intro _ ⟨fun _ => rfl, ?_⟩; go_big_quiet_on)))
          refine wpQuiet_nil ?_
          rintro wq ⟨⟨_, hgq⟩, rfl⟩
          have T3 : Hid (Touch (fun _ => False) w wq) := TR.out.trans hgq
          clear hgq c0 c2 d0 d2
          go_wp2_with fail
          go_roundg (l.length - (k + 1))
          case measure => omega
          case rel => exact ⟨k + 1, by omega, by omega, by go_num, T3.out, Or.inr ⟨k, x, hlt, rfl, HX.out, HN.out⟩⟩
        · obtain ⟨y0, y1, y2, y3, y4⟩ := HC.out j y hy
          have hj1 : (j : Int) < (l.length : Int) := by omega
          have hj0 : (0 : Int) ≤ (j : Int) := by omega
          have hjn : ¬ (j : Int) < 0 := by omega
          have d0 := aft_cell y0
          have d2 := aft_cell y2
          have HB : Hid (l[j]? = some y ∧ y = bst f (l.take k)) := ⟨hy, hb⟩
          have HSS : Hid (bst f (l.take (k + 1)) = if x.ahd y = true then x else y) := by show _ = _; rw [HS.out, HT.out, hb]
          clear hb hy hpx hmm HT HS y1 y3 y4
          by_cases h1 : y.p < x.p
          · have HN : Hid (x = bst f (l.take (k + 1))) := by show _ = _; rw [HSS.out, if_pos (ahd_yes.2 (Or.inl h1))]
            clear HSS
            go_upto_region 6 with fail
            refine wp_region_aft (by kernel_rfl) (by kernel_rfl) ?_
            repeat (first | go_big_quiet_skip | (go_big_quiet_want; go_big_quiet_op; first | go_big_quiet_on | (refine Exists.intro _ ⟨fun _ => rfl, ?_⟩; go_big_quiet_on)))
            refine wpQuiet_nil ?_
            rintro wq ⟨⟨_, hgq⟩, rfl⟩
            have T3 : Hid (Touch (fun _ => False) w wq) := TR.out.trans hgq
            clear hgq c0 c2 d0 d2
            go_wp2_with fail
            go_roundg (l.length - (k + 1))
            case measure => omega
            case rel => exact ⟨k + 1, by omega, by omega, by go_num, T3.out, Or.inr ⟨k, x, hlt, rfl, HX.out, HN.out⟩⟩
          by_cases h2 : x.p = y.p
          · have hB2 : (x.p == y.p) = true := by simpa using h2
            by_cases h3 : y.r < x.r
            · have HN : Hid (x = bst f (l.take (k + 1))) := by show _ = _; rw [HSS.out, if_pos (ahd_yes.2 (Or.inr ⟨h2, h3⟩))]
              clear HSS h2
              go_upto_region 6 with fail
              refine wp_region_aft (by kernel_rfl) (by kernel_rfl) ?_
              repeat (first | go_big_quiet_skip | (go_big_quiet_want; go_big_quiet_op; first | go_big_quiet_on | (refine Exists.intro _ ⟨fun _ => rfl, ?_⟩; go_big_quiet_on)))
              refine wpQuiet_nil ?_
              rintro wq ⟨⟨_, hgq⟩, rfl⟩
              have T3 : Hid (Touch (fun _ => False) w wq) := TR.out.trans hgq
              clear hgq c0 c2 d0 d2
              go_wp2_with fail
              go_roundg (l.length - (k + 1))
              case measure => omega
              case rel => exact ⟨k + 1, by omega, by omega, by go_num, T3.out, Or.inr ⟨k, x, hlt, rfl, HX.out, HN.out⟩⟩
            · have HN : Hid (y = bst f (l.take (k + 1))) := by show _ = _; rw [HSS.out, if_neg (by rw [ahd_yes]; omega)]
              clear HSS h2
              go_upto_region 6 with fail
              refine wp_region_aft (by kernel_rfl) (by kernel_rfl) ?_
              repeat (first | go_big_quiet_skip | (go_big_quiet_want; go_big_quiet_op; first | go_big_quiet_on | (refine Exists.intro _ ⟨fun _ => rfl, ?_⟩; go_big_quiet_on)))
              refine wpQuiet_nil ?_
              rintro wq ⟨⟨_, hgq⟩, rfl⟩
              have T3 : Hid (Touch (fun _ => False) w wq) := TR.out.trans hgq
              clear hgq c0 c2 d0 d2
              go_wp2_with fail
              go_roundg (l.length - (k + 1))
              case measure => omega
              case rel => exact ⟨k + 1, by omega, by omega, by go_num, T3.out, Or.inr ⟨j, y, hj, rfl, HB.out.1, HN.out⟩⟩
          · have hB2 : (x.p == y.p) = false := by simpa using h2
            have HN : Hid (y = bst f (l.take (k + 1))) := by show _ = _; rw [HSS.out, if_neg (by rw [ahd_yes]; omega)]
            clear HSS h2
            go_upto_region 6 with fail
            refine wp_region_aft (by kernel_rfl) (by kernel_rfl) ?_
            repeat (first | go_big_quiet_skip | (go_big_quiet_want; go_big_quiet_op; first | go_big_quiet_on | (refine Exists.intro _ ⟨fun _ => rfl, ?_⟩; go_big_quiet_on)))
            refine wpQuiet_nil ?_
            rintro wq ⟨⟨_, hgq⟩, rfl⟩
            have T3 : Hid (Touch (fun _ => False) w wq) := TR.out.trans hgq
            clear hgq c0 c2 d0 d2
            go_wp2_with fail
            go_roundg (l.length - (k + 1))
            case measure => omega
            case rel => exact ⟨k + 1, by omega, by omega, by go_num, T3.out, Or.inr ⟨j, y, hj, rfl, HB.out.1, HN.out⟩⟩
    · have hlt' : ¬ (k : Int) < (l.length : Int) := by omega
      obtain rfl : k = l.length := by omega
      rw [List.take_length, HZ.out] at hb
      rcases hb with ⟨rfl, hb⟩ | ⟨j, y, hj, rfl, hy, hb⟩
      · subst hb
        go_wp2_with fail
        go_ret
        exact ⟨rfl, TR.out⟩
      · subst hb
        obtain ⟨gR, off, cR, eR, -, -, hcell⟩ := (HV.out wr TR.out).at (by omega)
        cases eR
        obtain ⟨y0, y1, y2, y3, y4⟩ := hcell j y hy
        have hj1 : (j : Int) < (l.length : Int) := by omega
        have hj0 : (0 : Int) ≤ (j : Int) := by omega
        have hjn : ¬ (j : Int) < 0 := by omega
        clear hcell hy
        go_wp2_with fail
        go_ret
        exact ⟨rfl, TR.out⟩
end Go.Proofs.Ytcmkhhdjhemmbaa
