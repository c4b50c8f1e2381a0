
/- The walk of QueueGone. -/
import Derived.Test.YtmdnlfbploaafaaQuGone0
import Derived.Test.YtmdnlfbploaafaaQuAll
import Derived.Test.YtmdnlfbploaafaaQuOrder2
namespace Go.Proofs.Ytmdnlfbploaafaa
open Go.RowKit Go.Shelf Go.Lib Go.Sort
set_option linter.unusedVariables false
set_option maxRecDepth 100000

theorem two_put1 {G : Nat → Prop} {W w : World} {b1 : Nat} {v1 : Value} {m1 : Nat} {l1 : List En} {b2 : Nat} {v2 : Value} {m2 : Nat} {l2 : List En} (T : Two G W w b1 v1 m1 l1 b2 v2 m2 l2) (x : En) (hx : x.Ok) (y : Int) (hy : y = x.k) :
    Calls Try.prog 17 #[.pointer (some ⟨b1, 0, none⟩), .int .i64 x.a, .int .i64 x.r, .int .u64 y] w fun e w' => (∃ z : Bool, e = .returned (.bool z)) ∧ (∃ v1' l1', Two G W w' b1 v1' m1 l1' b2 v2 m2 l2 ∧ l1'.Perm (putL l1 1048576 x)) ∧ Touch (qB b1 v1 m1) w w' := by
  subst hy
  refine Calls.mono (put_any w b1 v1 m1 1048576 l1 x hx T.q1.q) ?_
  rintro e w' ⟨rfl, q⟩
  exact ⟨⟨_, rfl⟩, T.step1 q, q.t⟩
theorem two_put2 {G : Nat → Prop} {W w : World} {b1 : Nat} {v1 : Value} {m1 : Nat} {l1 : List En} {b2 : Nat} {v2 : Value} {m2 : Nat} {l2 : List En} (T : Two G W w b1 v1 m1 l1 b2 v2 m2 l2) (x : En) (hx : x.Ok) (y : Int) (hy : y = x.k) :
    Calls Try.prog 17 #[.pointer (some ⟨b2, 0, none⟩), .int .i64 x.a, .int .i64 x.r, .int .u64 y] w fun e w' => (∃ z : Bool, e = .returned (.bool z)) ∧ (∃ v2' l2', Two G W w' b1 v1 m1 l1 b2 v2' m2 l2' ∧ l2'.Perm (putL l2 1048576 x)) ∧ Touch (qB b2 v2 m2) w w' := by
  subst hy
  refine Calls.mono (put_any w b2 v2 m2 1048576 l2 x hx T.q2.q) ?_
  rintro e w' ⟨rfl, q⟩
  exact ⟨⟨_, rfl⟩, T.step2 q, q.t⟩
theorem two_drop1 {G : Nat → Prop} {W w : World} {b1 : Nat} {v1 : Value} {m1 : Nat} {l1 : List En} {b2 : Nat} {v2 : Value} {m2 : Nat} {l2 : List En} (T : Two G W w b1 v1 m1 l1 b2 v2 m2 l2) (k : Int) (k0 : 0 ≤ k) (k1 : k < 18446744073709551616) (y : Int) (hy : y = k) :
    Calls Try.prog 20 #[.pointer (some ⟨b1, 0, none⟩), .int .u64 y] w fun e w' => e = .returned (.bool (hasK l1 k)) ∧ (∃ v1' l1', Two G W w' b1 v1' m1 l1' b2 v2 m2 l2 ∧ l1'.Perm (noK l1 k)) ∧ Touch (qB b1 v1 m1) w w' := by
  subst hy
  refine Calls.mono (drop_any w b1 v1 m1 1048576 l1 y k0 k1 T.q1.q) ?_
  rintro e w' ⟨rfl, q⟩
  exact ⟨rfl, T.step1 q, q.t⟩
theorem putL_len (l : List En) (most : Int) (x : En) : (putL l most x).length ≤ l.length + 1 := by
  unfold putL
  split
  · have := noK_len l x.k; simp; omega
  · omega

/-- Both queues on the way. -/
structure GW (W w : World) (b1 m1 b2 m2 : Nat) (gs : List OpE) (a b s : Nat) : Prop where
  out : ∃ v1 l1 v2 l2, Two (fun _ => False) W w b1 v1 m1 l1 b2 v2 m2 l2 ∧ GI l1 l2 gs a b ∧ l1.length ≤ s ∧ l2.length ≤ s

theorem OpQ.en {w : World} {g off i : Nat} {o : OpE} (q : OpQ w g off i o) {x : En} (h : o.e = x) : w.cell? ⟨g, off + i * 4 + 1, none⟩ = some (.int .i64 x.a) ∧ w.cell? ⟨g, off + i * 4 + 2, none⟩ = some (.int .i64 x.r) ∧ w.cell? ⟨g, off + i * 4 + 3, none⟩ = some (.int .u64 x.k) ∧ x.Ok := by
  subst h
  exact ⟨q.c1, q.c2, q.c3, q.ok⟩
theorem AllV.keep {w w' : World} {va : Value} {L : List En} (h : AllV w va L) (t : Touch (fun _ => False) w w') : AllV w' va L := by
  obtain ⟨a, cap, hv, hh⟩ := h.out
  refine ⟨a, cap, hv, fun hl => ?_⟩
  obtain ⟨g, ha, hg, ho⟩ := hh hl
  exact ⟨g, ha, Nat.lt_of_lt_of_le hg t.size, fun j hj => ⟨(t.cell (p := ⟨g, 0 + j, none⟩) hg (fun h => h)).trans (ho j hj).1, (t.frozen (p := ⟨g, 0 + j, none⟩) hg (fun h => h)).trans (ho j hj).2⟩⟩
theorem hold_cells {w : World} {g : Nat} {L : List En} (h : HoldsK csT 3 w g 0 (L.map toT).toArray) {i : Nat} (hi : i < L.length) :
    w.cell? ⟨g, i * 3, none⟩ = some (.int .i64 (gt L i).a) ∧ w.cell? ⟨g, i * 3 + 1, none⟩ = some (.int .i64 (gt L i).r) ∧ w.cell? ⟨g, i * 3 + 2, none⟩ = some (.int .u64 (gt L i).k) := by
  have h0 := (HoldsK.cell h (i := i) (c := 0) (by simpa using hi) (by omega)).1
  have h1 := (HoldsK.cell h (i := i) (c := 1) (by simpa using hi) (by omega)).1
  have h2 := (HoldsK.cell h (i := i) (c := 2) (by simpa using hi) (by omega)).1
  rw [gt_arr hi, Nat.zero_add] at h0 h1 h2
  exact ⟨h0, h1, h2⟩
theorem or_one {k : Int} (h0 : 0 ≤ k) (h1 : k < 18446744073709551616) : bits .or .u64 k 1 = odK k := by
  rw [u64_or k 1 h0 h1 (by omega) (by omega)]
  have e1 : (k.toNat ||| 1) / 2 ^ 1 = k.toNat / 2 ^ 1 := by rw [Nat.or_div_two_pow]; simp
  have e2 : (k.toNat ||| 1) % 2 ^ 1 = 1 := by
    rw [Nat.or_mod_two_pow]
    rcases (by omega : k.toNat % 2 = 0 ∨ k.toNat % 2 = 1) with e | e <;> simp [e]
  show ((k.toNat ||| 1 : Nat) : Int) = _
  unfold odK
  omega

set_option maxHeartbeats 4000000 in
theorem gone_main (a0 a1 : Option Addr) (c0 c1 : Nat) (os gs : List OpE) (w : World) (h0 : Ins w a0 os) (h1 : Ins w a1 gs) (hn : os.length + gs.length ≤ 200) :
    Calls Try.prog 6 #[.slice a0 os.length c0, .slice a1 gs.length c1] w fun e w' => e = .returned (.bool true) ∧ Touch (fun _ => False) w w' := by
  have hn' : ¬ 200 < (os.length : Int) + (gs.length : Int) := by omega
  have hb0 : (os.length : Int) ≤ 200 := by omega
  have hb1 : (gs.length : Int) ≤ 200 := by omega
  have HN : Hid (os.length + gs.length ≤ 200) := hn
  have HA : Hid (Ins w a0 os) := h0
  have HB : Hid (Ins w a1 gs) := h1
  clear h0 h1 hn
  go_enter Try.func6, Try.ntmps6
  go_wp2_with fail
  refine Calls.mono (new_yes w 1048576 (by omega) (by omega)) ?_
  rintro e w1 n1
  obtain ⟨b1, m1, rfl, q1⟩ := n1.qo
  have Q1 : Hid _ := q1
  clear n1 q1
  go_wp2_with fail
  refine Calls.mono (new_yes w1 1048576 (by omega) (by omega)) ?_
  rintro e w2 n2
  obtain ⟨b2, m2, rfl, q2⟩ := n2.qo
  have HO1 : Hid (GW w w2 b1 m1 b2 m2 gs 0 0 0) := ⟨_, _, _, _, two_new Q1.out q2, ⟨by simp [evens], by simp, by simp, by simp⟩, by simp, by simp⟩
  clear n2 q2 Q1
  go_wp2_with fail
  go_loopw [7] (fun s7 wx => ∃ k : Nat, s7 = .int .i64 k ∧ k ≤ os.length ∧ GW w wx b1 m1 b2 m2 gs 0 (min k gs.length) (2 * k)) (fun s7 _ => os.length - (intOf s7).toNat)
  case atStart => exact ⟨0, rfl, Nat.zero_le _, by simpa using HO1.out⟩
  case round =>
    clear HO1
    obtain ⟨k, rfl, hk, O⟩ := hrel
    have hk2 : (k : Int) ≤ 200 := by have := HN.out; omega
    have HO : Hid _ := O
    clear O
    by_cases hlt : k < os.length
    · obtain ⟨g, off, rfl, hg, hq⟩ := HA.out.out (by omega)
      have hlt' : (k : Int) < (os.length : Int) := by omega
      have k0 : (0 : Int) ≤ (k : Int) := by omega
      obtain ⟨v1, l1, v2, l2, T, gi, s1, s2⟩ := HO.out
      have qk := hq k hlt
      have hgq : ¬ qB b1 v1 m1 g := fun e => by have := T.q1.own g e; omega
      have tW := T.q1.t
      have x1 := snG_cell hgq (tW.cellN qk.c1)
      have x2 := snG_cell hgq (tW.cellN qk.c2)
      have x3 := snG_cell hgq (tW.cellN qk.c3)
      have st : SnG (qB b1 v1 m1) wr wr.drew := SnG.start _ wr
      have HP : Hid _ := two_put1 (T.keep ((Touch.refl _ wr).drew)) (evE (opAt os k).e) (evE_ok qk.ok)
      have HQK : Hid (∀ wz, Touch (fun _ => False) w wz → OpQ wz g off k (opAt os k)) := fun wz t => qk.keep t
      have HGI : Hid _ := gi
      have HS1 : Hid _ := s1
      have HS2 : Hid _ := s2
      have HEV : Hid (∀ y, y = evK (opAt os k).e.k → y = (evE (opAt os k).e).k) := fun y h => h
      have kk0 := qk.ok.k0
      have kk1 := qk.ok.k1
      clear T gi s1 s2 tW qk hq HO
      generalize hxx : (opAt os k).e = x at *
      go_wp2_with fail
      go_region_held3 (fun w' => SnG (qB b1 v1 m1) wr w') (with_reducible assumption) ((go_at_call 17; refine Calls.mono (HP.out _ (IntWalk.u64_in _ (by omega))) ?_; rintro e wx ⟨⟨z, rfl⟩, ox, tx⟩; have sx : SnG (qB b1 v1 m1) wr wx := ⟨((Touch.refl _ _).drew).trans tx⟩; have OX : Hid _ := ox; clear ox))
      clear x1 x2 x3 st HP sx tx hgq
      obtain ⟨v1', l1', T2, p1⟩ := OX.out
      have hgq : ¬ qB b2 v2 m2 g := fun e => by have := T2.q2.own g e; omega
      have tW := T2.q1.t
      have qk := HQK.out wx tW
      obtain ⟨qk1, qk2, qk3, qko⟩ := qk.en hxx
      have x1 := snG_cell hgq qk1
      have x2 := snG_cell hgq qk2
      have x3 := snG_cell hgq qk3
      have st : SnG (qB b2 v2 m2) wx wx.drew := SnG.start _ wx
      have HP : Hid _ := two_put2 (T2.keep ((Touch.refl _ wx).drew)) (evE x) (evE_ok qko)
      have HP1 : Hid _ := p1
      clear T2 p1 tW qk1 qk2 qk3 qko OX
      go_wp2_with fail
      go_region_held3 (fun w' => SnG (qB b2 v2 m2) wx w') (with_reducible assumption) ((go_at_call 17; refine Calls.mono (HP.out _ (IntWalk.u64_in _ (by omega))) ?_; rintro e wy ⟨⟨z2, rfl⟩, oy, ty⟩; have sy : SnG (qB b2 v2 m2) wx wy := ⟨((Touch.refl _ _).drew).trans ty⟩; have OY : Hid _ := oy; clear oy))
      clear x1 x2 x3 st HP sy ty hgq
      obtain ⟨v2', l2', T3, p2⟩ := OY.out
      have hs1 := HS1.out
      have hs2 := HS2.out
      have hNN := HN.out
      have hgi := (HGI.out.both x (by omega) (by omega)).perm HP1.out p2
      have hl1 : l1'.length ≤ 2 * k + 1 := by rw [HP1.out.length_eq]; have := putL_len l1 1048576 (evE x); omega
      have hl2 : l2'.length ≤ 2 * k + 1 := by rw [p2.length_eq]; have := putL_len l2 1048576 (evE x); omega
      clear OY p2 hs1 hs2
      by_cases hkg : k < gs.length
      · obtain ⟨g', off', rfl, hg', hq'⟩ := HB.out.out (by omega)
        have hkg' : (k : Int) < (gs.length : Int) := by omega
        have qk := hq' k hkg
        have hgq : ¬ qB b1 v1' m1 g' := fun e => by have := T3.q1.own g' e; omega
        have tW := T3.q1.t
        have x1 := snG_cell hgq (tW.cellN qk.c1)
        have x2 := snG_cell hgq (tW.cellN qk.c2)
        have x3 := snG_cell hgq (tW.cellN qk.c3)
        have st : SnG (qB b1 v1' m1) wy wy.drew := SnG.start _ wy
        have HP : Hid _ := two_put1 (T3.keep ((Touch.refl _ wy).drew)) (odE (opAt gs k).e) (odE_ok qk.ok)
        have HGI2 : Hid _ := hgi
        have HL1 : Hid (l1'.length ≤ 2 * k + 1) := hl1
        have HL2 : Hid (l2'.length ≤ 2 * k + 1) := hl2
        have HOR : Hid (bits .or .u64 (opAt gs k).e.k 1 = (odE (opAt gs k).e).k) := or_one qk.ok.k0 qk.ok.k1
        clear T3 tW hq' hgi hl1 hl2 qk
        go_wp2_with fail
        go_region_held3 (fun w' => SnG (qB b1 v1' m1) wy w') (with_reducible assumption) ((go_at_call 17; refine Calls.mono (HP.out _ HOR.out) ?_; rintro e wz ⟨⟨z3, rfl⟩, oz, tz⟩; have sz : SnG (qB b1 v1' m1) wy wz := ⟨((Touch.refl _ _).drew).trans tz⟩; have OZ : Hid _ := oz; clear oz))
        clear x1 x2 x3 st HP sz tz hgq
        obtain ⟨v3, l3, T4, p3⟩ := OZ.out
        have hm1 : min k gs.length = k := by omega
        have hm2 : min (k + 1) gs.length = k + 1 := by omega
        have hgi := HGI2.out
        rw [hm1] at hgi
        have h5 := HL1.out
        have h6 := HL2.out
        have hgi2 := (hgi.one (by omega)).perm p3 (List.Perm.refl _)
        have FIN : Hid (GW w wz b1 m1 b2 m2 gs 0 (min (k + 1) gs.length) (2 * (k + 1))) := ⟨v3, l3, v2', l2', T4, by rw [hm2]; exact hgi2, by rw [p3.length_eq]; have := putL_len l1' 1048576 (odE (opAt gs k).e); omega, by omega⟩
        clear T4 p3 hgi hgi2 hm1 hm2 OZ h5 h6
        go_wp2_with fail
        go_roundw
        case rel => exact ⟨k + 1, by go_num, hlt, FIN.out⟩
        case measure => simp [intOf]; omega
      · have hkg' : ¬ (k : Int) < (gs.length : Int) := by omega
        have hm2 : min (k + 1) gs.length = min k gs.length := by omega
        have FIN : Hid (GW w wy b1 m1 b2 m2 gs 0 (min (k + 1) gs.length) (2 * (k + 1))) := ⟨v1', l1', v2', l2', T3, by rw [hm2]; exact hgi, by omega, by omega⟩
        clear T3 hgi hm2
        go_wp2_with fail
        go_roundw
        case rel => exact ⟨k + 1, by go_num, hlt, FIN.out⟩
        case measure => simp [intOf]; omega
    · have hlt' : ¬ (k : Int) < (os.length : Int) := by omega
      have HO2 : Hid (GW w wr b1 m1 b2 m2 gs 0 gs.length 400) := by
        obtain ⟨v1, l1, v2, l2, T, gi, s1, s2⟩ := HO.out
        have := HN.out
        exact ⟨v1, l1, v2, l2, T, gi.wide (by omega), by omega, by omega⟩
      clear HO
      go_wp2_with fail
      go_loopw [8] (fun s8 wx => ∃ k : Nat, s8 = .int .i64 k ∧ k ≤ gs.length ∧ GW w wx b1 m1 b2 m2 gs k gs.length 400) (fun s8 _ => gs.length - (intOf s8).toNat)
      case atStart => exact ⟨0, rfl, Nat.zero_le _, HO2.out⟩
      case round =>
        clear HO2
        obtain ⟨k, rfl, hk, O⟩ := hrel
        have hk2 : (k : Int) ≤ 200 := by have := HN.out; omega
        have HO : Hid _ := O
        clear O
        by_cases hlt2 : k < gs.length
        · obtain ⟨g, off, rfl, hg, hq⟩ := HB.out.out (by omega)
          have hlt3 : (k : Int) < (gs.length : Int) := by omega
          have k0 : (0 : Int) ≤ (k : Int) := by omega
          obtain ⟨v1, l1, v2, l2, T, gi, s1, s2⟩ := HO.out
          have qk := hq k hlt2
          have tW := T.q1.t
          have x3 := tW.cellN qk.c3
          have hok := odE_ok qk.ok
          have HOR := or_one qk.ok.k0 qk.ok.k1
          have HC3 : Hid (∀ wz, Touch (fun _ => False) w wz → wz.cell? ⟨g, off + k * 4 + 3, none⟩ = some (.int .u64 (opAt gs k).e.k)) := fun wz t => t.cellN qk.c3
          clear HO tW qk hq
          go_wp2_with fail
          refine Calls.mono (two_drop1 T (odK (opAt gs k).e.k) hok.k0 hok.k1 _ rfl) ?_
          rintro e wx ⟨rfl, ⟨v1', l1', T2, p1⟩, tx⟩
          have x3b := HC3.out wx T2.q1.t
          have hz : hasK l1' (odK (opAt gs k).e.k) = false := by rw [hasK_perm p1]; exact hasK_noK _ _
          clear x3 tx
          go_wp2_with fail
          refine Calls.mono (two_drop1 T2 (odK (opAt gs k).e.k) hok.k0 hok.k1 _ rfl) ?_
          rintro e wy ⟨rfl, ⟨v1'', l1'', T3, p2⟩, ty⟩
          rw [hz]
          have p3 : l1''.Perm (noK l1 (odK (opAt gs k).e.k)) := p2.trans (by rw [noK_self (hasK_false.1 hz)]; exact p1)
          have FIN : Hid (GW w wy b1 m1 b2 m2 gs (k + 1) gs.length 400) := ⟨v1'', l1'', v2, l2, T3, gi.drop.perm p3 (List.Perm.refl _), by rw [p3.length_eq]; have := noK_len l1 (odK (opAt gs k).e.k); omega, s2⟩
          clear T T2 T3 gi s1 s2 p1 p2 p3 hz ty x3b hok HOR
          go_wp2_with fail
          go_roundw
          case rel => exact ⟨k + 1, by go_num, hlt2, FIN.out⟩
          case measure => simp [intOf]; omega
        · have ek : k = gs.length := by omega
          subst ek
          obtain ⟨v1, l1, v2, l2, T, gi, s1, s2⟩ := HO.out
          have p := gi.end
          have HT : Hid _ := T
          have HPM : Hid _ := p
          clear HO T gi p s1 s2
          go_wp2_with fail
          refine Calls.mono (all_any wr b1 v1 m1 _ l1 HT.out.q1.q) ?_
          rintro e wa ⟨⟨va, La, rfl, AV, pa, sa, -⟩, ta⟩
          go_wp2_with fail
          refine Calls.mono (all_any wa b2 v2 m2 _ l2 (HT.out.keep ta).q2.q) ?_
          rintro e wb ⟨⟨vb, Lb, rfl, BV, pb, sb, -⟩, tb⟩
          have eL : La = Lb := sorted_one sa sb ((pa.trans HPM.out).trans pb.symm)
          subst eL
          have HTW : Hid (Touch (fun _ => False) w wb) := (HT.out.q1.t.trans ta).trans tb
          have HAV : Hid (AllV wb va La) := AV.keep tb
          have HBV : Hid (AllV wb vb La) := BV
          obtain ⟨aa, ca, rfl, hA⟩ := HAV.out
          obtain ⟨ab, cb, rfl, hB⟩ := HBV.out
          have HHA : Hid _ := hA
          have HHB : Hid _ := hB
          clear hA hB
          have hLl : (La.length : Int) ≤ 2000000 := by
            obtain ⟨f, P, _⟩ := HT.out.q1.q.out
            have := P.hl
            rw [pa.length_eq]
            omega
          clear HT HPM AV BV pa pb sa sb ta tb
          go_wp2_with fail
          go_loopw [11] (fun s11 wx => ∃ j : Nat, s11 = .int .i64 j ∧ j ≤ La.length ∧ Touch (fun _ => False) wb wx) (fun s11 _ => La.length - (intOf s11).toNat)
          case atStart => exact ⟨0, rfl, Nat.zero_le _, Touch.refl _ _⟩
          case round =>
            obtain ⟨j, rfl, hj, tj⟩ := hrel
            have HTJ : Hid _ := tj
            clear tj
            by_cases hjl : j < La.length
            · have hjl' : (j : Int) < (La.length : Int) := by omega
              have j0 : (0 : Int) ≤ (j : Int) := by omega
              obtain ⟨ga, rfl, hga, ho1⟩ := HHA.out (by omega)
              obtain ⟨gb, rfl, hgb, ho2⟩ := HHB.out (by omega)
              obtain ⟨x0, x1, x2⟩ := hold_cells ho1 hjl
              obtain ⟨y0, y1, y2⟩ := hold_cells ho2 hjl
              replace x0 := HTJ.out.cellN x0
              replace x1 := HTJ.out.cellN x1
              replace x2 := HTJ.out.cellN x2
              replace y0 := HTJ.out.cellN y0
              replace y1 := HTJ.out.cellN y1
              replace y2 := HTJ.out.cellN y2
              replace x0 := snq_cell x0
              replace x1 := snq_cell x1
              replace x2 := snq_cell x2
              replace y0 := snq_cell y0
              replace y1 := snq_cell y1
              replace y2 := snq_cell y2
              have st : Snq wr wr.drew := Snq.start wr
              clear ho1 ho2
              go_wp2_with fail
              go_region_held3 (fun w' => Snq wr w') (with_reducible assumption) (fail)
              go_wp2_with fail
              go_roundw
              case rel => exact ⟨j + 1, by go_num, hjl, HTJ.out.drew⟩
              case measure => simp [intOf]; omega
            · have hjl' : ¬ (j : Int) < (La.length : Int) := by omega
              go_wp2_with ((go_at_call 8; refine Calls.mono (lives_any _) ?_; rintro e wx ⟨rfl, tx⟩))
              go_ret
              exact ⟨rfl, (HTW.out.trans HTJ.out).trans tx⟩

set_option maxHeartbeats 400000 in
theorem gone_any (v0 v1 : Value) (os gs : List OpE) (w : World) (h0 : OpsAt w v0 os) (h1 : OpsAt w v1 gs) (l0 : os.length ≤ 140737488355328) (l1 : gs.length ≤ 140737488355328) :
    Calls Try.prog 6 #[v0, v1] w fun e w' => e = .returned (.bool true) ∧ Touch (fun _ => False) w w' := by
  obtain ⟨a0, c0, rfl⟩ := h0.form
  obtain ⟨a1, c1, rfl⟩ := h1.form
  by_cases hn : os.length + gs.length ≤ 200
  · exact gone_main a0 a1 c0 c1 os gs w h0.ins h1.ins hn
  · have hn' : 200 < (os.length : Int) + (gs.length : Int) := by omega
    have hb0 : (os.length : Int) ≤ 140737488355328 := by omega
    have hb1 : (gs.length : Int) ≤ 140737488355328 := by omega
    clear h0 h1 hn
    go_enter Try.func6, Try.ntmps6
    go_wp2_with ((go_at_call 8; refine Calls.mono (lives_any _) ?_; rintro e wx ⟨rfl, tx⟩))
    go_ret
    exact ⟨rfl, tx⟩
end Go.Proofs.Ytmdnlfbploaafaa
