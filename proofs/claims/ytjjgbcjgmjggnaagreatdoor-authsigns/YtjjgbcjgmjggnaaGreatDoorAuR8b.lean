/- The document: Check. -/
import Derived.Test.YtjjgbcjgmjggnaaGreatDoorAuMay
import Derived.Test.YtjjgbcjgmjggnaaGreatDoorAuChk
import Derived.Test.YtjjgbcjgmjggnaaGreatDoorDigRow
import Derived.Test.YtjjgbcjgmjggnaaGreatDoorAuR8
import Derived.Deep.LoopGhost
import Derived.Deep.DeepCutAuto
namespace Go.Proofs.YtjjgbcjgmjggnaaGreatDoor
open Go.RowKit
set_option linter.unusedVariables false
set_option maxRecDepth 100000

structure InR (ks : List KE) (w : World) (k : Nat) (id : Int) (gg : Nat) (s5 : Value) (wr : World) : Prop where
  out : ∃ j : Nat, j ≤ k ∧ k - j ≤ gg ∧ s5 = .int .i64 j ∧ Touch (fun _ => False) w wr ∧ ∀ i y, i < j → ks[i]? = some y → y.p.id ≠ id
set_option maxHeartbeats 4000000 in
theorem rcheck_any (v : Value) (ks : List KE) (w : World) (hv : ChainAt w v ks) :
    Calls Tryz.prog 26 #[v] w fun e w' => e = .returned (.tuple #[.int .i64 (achE (pureL ks)), .int .i64 (achI (pureL ks))]) ∧ Touch (fun _ => False) w w' := by
  obtain ⟨va, vc, rfl, hmx⟩ := ValsAt.form hv.vals
  by_cases hbig : 16 < ks.length
  · have hb' : (16 : Int) < (ks.length : Int) := by omega
    obtain ⟨e1, e2⟩ := chk_many (ks := pureL ks) (by simpa using hbig)
    rw [e1, e2]
    clear hv hbig e1 e2 hmx
    go_enter Tryz.func26, Tryz.ntmps26
    go_wp2
    go_ret2
    exact ⟨rfl, Touch.refl _ _⟩
  have hb' : ¬ (16 : Int) < (ks.length : Int) := by omega
  have hl16 : (ks.length : Int) ≤ 16 := by omega
  have HV' : Hid (∀ w', Touch (fun _ => False) w w' → ChainAt w' (.slice va ks.length vc) ks) := fun w' t => hv.keep t
  have HG : Hid ((∀ j, j < ks.length → badAt (pureL ks) j = 0) → achE (pureL ks) = 0 ∧ achI (pureL ks) = 0) := fun h => chk_good (by simp; omega) (fun j hj => h j (by simpa using hj))
  have HB : Hid (∀ m, m < ks.length → badAt (pureL ks) m ≠ 0 → (∀ j, j < m → badAt (pureL ks) j = 0) → achE (pureL ks) = badAt (pureL ks) m ∧ achI (pureL ks) = (m : Int)) := fun m h1 h2 h3 => chk_bad (by simp; omega) (by simpa using h1) h2 h3
  generalize achE (pureL ks) = EE at *
  generalize achI (pureL ks) = II at *
  clear hv hmx hbig
  go_enter Tryz.func26, Tryz.ntmps26
  go_wp2_with fail
  go_loopg [4, 5] ks.length (fun gg s4 _ wr => ChkR ks w gg s4 wr)
  case atStart => exact ⟨0, by omega, by omega, rfl, Touch.refl _ _, fun j h => by omega⟩
  case round =>
    obtain ⟨k, hk, hg, rfl, tr, hpre⟩ := hrel.out
    have TR : Hid (Touch (fun _ => False) w wr) := tr
    have HP : Hid (∀ j, j < k → badAt (pureL ks) j = 0) := hpre
    clear tr hrel hpre
    by_cases hlt : k < ks.length
    · have hlt' : (k : Int) < (ks.length : Int) := by omega
      have hk00 : (0 : Int) ≤ (k : Int) := by omega
      have hl0 : (0 : Int) < (ks.length : Int) := by omega
      obtain ⟨x, hx⟩ : ∃ x, ks[k]? = some x := ⟨ks[k], by simp [hlt]⟩
      obtain ⟨ox, gR, off, cR, eR, hcell⟩ := ChainAt.one (HV'.out wr TR.out) hx
      cases eR
      have e0 : wr.cell? ⟨gR, off + k * 7, none⟩ = some (.int .u8 x.p.id) := by exact hcell 0 _ rfl
      have e1 : wr.cell? ⟨gR, off + k * 7 + 1, none⟩ = some (.int .u16 x.p.kind) := by rw [Nat.add_assoc]; exact hcell 1 _ rfl
      have e2 : wr.cell? ⟨gR, off + k * 7 + 2, none⟩ = some (.slice x.a x.p.sec.length x.c) := by rw [Nat.add_assoc]; exact hcell 2 _ rfl
      have e3 : wr.cell? ⟨gR, off + k * 7 + 3, none⟩ = some (.int .i64 x.p.sf) := by rw [Nat.add_assoc]; exact hcell 3 _ rfl
      have e4 : wr.cell? ⟨gR, off + k * 7 + 4, none⟩ = some (.int .i64 x.p.su) := by rw [Nat.add_assoc]; exact hcell 4 _ rfl
      have e5 : wr.cell? ⟨gR, off + k * 7 + 5, none⟩ = some (.int .i64 x.p.tf) := by rw [Nat.add_assoc]; exact hcell 5 _ rfl
      have e6 : wr.cell? ⟨gR, off + k * 7 + 6, none⟩ = some (.int .i64 x.p.tu) := by rw [Nat.add_assoc]; exact hcell 6 _ rfl
      obtain ⟨y, hy⟩ : ∃ y, ks[0]? = some y := ⟨ks[0]'(by omega), List.getElem?_eq_getElem (by omega)⟩
      obtain ⟨-, gR', off', cR', eR', hcell'⟩ := ChainAt.one (HV'.out wr TR.out) hy
      cases eR'
      have y1 : wr.cell? ⟨gR, off + 1, none⟩ = some (.int .u16 y.p.kind) := by have := hcell' 1 _ rfl; simpa using this
      have hkw : wrap64 ((k : Int) + 1) = (k : Int) + 1 := by unfold wrap64; omega
      have HM := fun w => rmay_any x w
      have HBO := bad_one hx
      rw [kind_first hy, twice_map] at HBO
      have HX : Hid (ks[k]? = some x) := hx
      clear hcell hcell' hx hy ox
      go_upto_region 6 with fail
      cases hm : x.p.may
      · rw [hm] at HM
        have hbd : badAt (pureL ks) k = 26 := by rw [HBO, hm]; simp
        obtain ⟨hE, hI⟩ := HB.out k hlt (by rw [hbd]; omega) HP.out
        rw [hbd] at hE
        subst hE hI
        clear HBO hbd
        have c0 := aft_cell e0
        have c1 := aft_cell e1
        have c2 := aft_cell e2
        have c3 := aft_cell e3
        have c4 := aft_cell e4
        have c5 := aft_cell e5
        have c6 := aft_cell e6
        refine wp_region_aft (by kernel_rfl) (by kernel_rfl) ?_
        repeat (first | go_big_quiet_skip | (go_big_quiet_want; go_big_quiet_op; first | go_big_quiet_on | (refine Exists.intro _ ⟨fun _ => rfl, ?_⟩; go_big_quiet_on)))
        go_big_quiet_want; go_big_quiet_op; refine Exists.intro _ ⟨fun u => Aft.call (HM _), ?_⟩; go_big_quiet_on
        repeat (first | go_big_quiet_skip | (go_big_quiet_want; go_big_quiet_op; first | go_big_quiet_on | (refine Exists.intro _ ⟨fun _ => rfl, ?_⟩; go_big_quiet_on)))
        refine wpQuiet_nil ?_
        rintro wq ⟨⟨_, hgq⟩, rfl⟩
        have TQ : Hid (Touch (fun _ => False) w wq) := TR.out.trans hgq
        clear c0 c1 c2 c3 c4 c5 c6 e0 e1 e2 e3 e4 e5 e6 y1 hgq
        go_wp2_with fail
        go_ret2
        exact ⟨rfl, TQ.out⟩
      · rw [hm] at HM
        by_cases hkk : x.p.kind = y.p.kind
        · have hbk : (x.p.kind != y.p.kind) = false := by simpa using hkk
          have HBO' : Hid (badAt (pureL ks) k = if ((List.take k ks).any fun z => z.p.id == x.p.id) = true then 63 else 0) := by show _ = _; rw [HBO, hm, hbk]; simp
          clear HBO hkk
          have c0 := aft_cell e0
          have c1 := aft_cell e1
          have c2 := aft_cell e2
          have c3 := aft_cell e3
          have c4 := aft_cell e4
          have c5 := aft_cell e5
          have c6 := aft_cell e6
          have y2 := aft_cell y1
          refine wp_region_aft (by kernel_rfl) (by kernel_rfl) ?_
          repeat (first | go_big_quiet_skip | (go_big_quiet_want; go_big_quiet_op; first | go_big_quiet_on | (refine Exists.intro _ ⟨fun _ => rfl, ?_⟩; go_big_quiet_on)))
          go_big_quiet_want; go_big_quiet_op; refine Exists.intro _ ⟨fun u => Aft.call (HM _), ?_⟩; go_big_quiet_on
          repeat (first | go_big_quiet_skip | (go_big_quiet_want; go_big_quiet_op; first | go_big_quiet_on | (refine Exists.intro _ ⟨fun _ => rfl, ?_⟩; go_big_quiet_on)))
          refine wpQuiet_nil ?_
          rintro wq ⟨⟨_, hgq⟩, rfl⟩
          have TQ : Hid (Touch (fun _ => False) w wq) := TR.out.trans hgq
          clear c0 c1 c2 c3 c4 c5 c6 y1 y2 e0 e1 e2 e3 e4 e5 e6 hgq hbk
          go_wp2_with fail
          go_loopg [5] k (fun gg s5 wr => InR ks w k x.p.id gg s5 wr)
          case atStart => exact ⟨0, by omega, by omega, rfl, TQ.out, fun i y h => by omega⟩
          case round =>
            obtain ⟨j, hj, hg2, rfl, tr, hpre⟩ := hrel.out
            have TR2 : Hid (Touch (fun _ => False) w wr) := tr
            have HP2 : Hid (∀ i y, i < j → ks[i]? = some y → y.p.id ≠ x.p.id) := hpre
            clear tr hrel hpre
            by_cases hlj : j < k
            · have hlj' : (j : Int) < (k : Int) := by omega
              have hlj'' : (j : Int) < (ks.length : Int) := by omega
              have hj0 : (0 : Int) ≤ (j : Int) := by omega
              have hjw : wrap64 ((j : Int) + 1) = (j : Int) + 1 := by unfold wrap64; omega
              obtain ⟨z, hz⟩ : ∃ z, ks[j]? = some z := ⟨ks[j]'(by omega), List.getElem?_eq_getElem (by omega)⟩
              obtain ⟨-, gZ, offZ, cZ, eZ, hcz⟩ := ChainAt.one (HV'.out wr TR2.out) hz
              cases eZ
              obtain ⟨-, gX, offX, cX, eX, hcx⟩ := ChainAt.one (HV'.out wr TR2.out) HX.out
              cases eX
              have z0 : wr.cell? ⟨gR, off + j * 7, none⟩ = some (.int .u8 z.p.id) := by exact hcz 0 _ rfl
              have x0 : wr.cell? ⟨gR, off + k * 7, none⟩ = some (.int .u8 x.p.id) := by exact hcx 0 _ rfl
              have HZ : Hid (ks[j]? = some z) := hz
              clear hcz hcx hz
              by_cases hid : z.p.id = x.p.id
              · have hbi : (z.p.id == x.p.id) = true := by simpa using hid
                have hbd : badAt (pureL ks) k = 63 := by
                  rw [HBO'.out, if_pos]
                  rw [List.any_eq_true]
                  exact ⟨z, List.mem_of_getElem? (i := j) (by rw [List.getElem?_take_of_lt hlj]; exact HZ.out), hbi⟩
                obtain ⟨hE, hI⟩ := HB.out k hlt (by rw [hbd]; omega) HP.out
                rw [hbd] at hE
                subst hE hI
                have hdi : decide (z.p.id = x.p.id) = true := decide_eq_true hid
                clear hbd HBO' hid
                go_wp2_with fail
                go_region
                go_wp2_with fail
                go_ret2
                exact ⟨rfl, TR2.out.trans ((Touch.refl _ _).drew)⟩
              · have hbi : (z.p.id == x.p.id) = false := by simpa using hid
                have HP3 : Hid (∀ i y, i < j + 1 → ks[i]? = some y → y.p.id ≠ x.p.id) := fun i y hi hy => by
                  by_cases e : i = j
                  · subst e; rw [HZ.out] at hy; cases hy; exact hid
                  · exact HP2.out i y (by omega) hy
                clear HP2
                go_wp2_with fail
                go_region
                go_wp2_with fail
                have T3 : Hid (Touch (fun _ => False) w wr.drew) := TR2.out.trans ((Touch.refl _ _).drew)
                go_roundg (k - (j + 1))
                case measure => omega
                case rel => exact ⟨j + 1, by omega, by omega, by go_num, T3.out, HP3.out⟩
            · have hlj' : ¬ (j : Int) < (k : Int) := by omega
              have hbd : badAt (pureL ks) k = 0 := by
                rw [HBO'.out, if_neg]
                rw [List.any_eq_true]
                rintro ⟨z, hz1, hz2⟩
                obtain ⟨i, hi, e⟩ := List.mem_iff_getElem.1 hz1
                rw [List.length_take] at hi
                rw [List.getElem_take] at e
                exact HP2.out i z (by omega) (by rw [List.getElem?_eq_getElem (by omega), e]) (by simpa using hz2)
              have HP3 : Hid (∀ j, j < k + 1 → badAt (pureL ks) j = 0) := fun i hi => by
                by_cases e : i = k
                · rw [e]; exact hbd
                · exact HP.out i (by omega)
              clear hbd HBO' HP
              go_wp2_with fail
              go_roundg (ks.length - (k + 1))
              case measure => omega
              case rel => exact ⟨k + 1, by omega, by omega, by go_num, TR2.out, HP3.out⟩
        · have hbk : (x.p.kind != y.p.kind) = true := by simpa using hkk
          have hbd : badAt (pureL ks) k = 26 := by rw [HBO, hm, hbk]; simp
          obtain ⟨hE, hI⟩ := HB.out k hlt (by rw [hbd]; omega) HP.out
          rw [hbd] at hE
          subst hE hI
          clear HBO hbd hkk
          have c0 := aft_cell e0
          have c1 := aft_cell e1
          have c2 := aft_cell e2
          have c3 := aft_cell e3
          have c4 := aft_cell e4
          have c5 := aft_cell e5
          have c6 := aft_cell e6
          have y2 := aft_cell y1
          refine wp_region_aft (by kernel_rfl) (by kernel_rfl) ?_
          repeat (first | go_big_quiet_skip | (go_big_quiet_want; go_big_quiet_op; first | go_big_quiet_on | (refine Exists.intro _ ⟨fun _ => rfl, ?_⟩; go_big_quiet_on)))
          go_big_quiet_want; go_big_quiet_op; refine Exists.intro _ ⟨fun u => Aft.call (HM _), ?_⟩; go_big_quiet_on
          repeat (first | go_big_quiet_skip | (go_big_quiet_want; go_big_quiet_op; first | go_big_quiet_on | (refine Exists.intro _ ⟨fun _ => rfl, ?_⟩; go_big_quiet_on)))
          refine wpQuiet_nil ?_
          rintro wq ⟨⟨_, hgq⟩, rfl⟩
          have TQ : Hid (Touch (fun _ => False) w wq) := TR.out.trans hgq
          clear c0 c1 c2 c3 c4 c5 c6 y1 y2 e0 e1 e2 e3 e4 e5 e6 hgq hbk
          go_wp2_with fail
          go_ret2
          exact ⟨rfl, TQ.out⟩
    · have hlt' : ¬ (k : Int) < (ks.length : Int) := by omega
      obtain ⟨hE, hI⟩ := HG.out (fun j hj => HP.out j (by omega))
      subst hE hI
      go_wp2
      go_ret2
      exact ⟨rfl, TR.out⟩
end Go.Proofs.YtjjgbcjgmjggnaaGreatDoor
