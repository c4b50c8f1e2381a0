
/- The walk of QueueOrder. -/
import Derived.Test.YtmdnlfbploaafaaQuTwo
import Derived.Deep.DeepCutAuto
namespace Go.Proofs.Ytmdnlfbploaafaa
open Go.RowKit
set_option linter.unusedVariables false
set_option maxRecDepth 100000

/-- Was the key of call k among the first t? -/
def mt (os : List OpE) (k t : Nat) : Bool := (os.take t).any (fun o => decide (o.e.k = (opAt os k).e.k))
theorem mt_zero (os : List OpE) (k : Nat) : mt os k 0 = false := by simp [mt]
theorem mt_true {os : List OpE} {k t : Nat} (h : t < os.length) (h1 : mt os k t = true) : mt os k (t + 1) = true := by
  unfold mt at *
  rw [take_next h, List.any_append, h1]; rfl
theorem mt_false {os : List OpE} {k t : Nat} (h : t < os.length) (h1 : mt os k t = false) : mt os k (t + 1) = decide ((opAt os t).e.k = (opAt os k).e.k) := by
  unfold mt at *
  rw [take_next h, List.any_append, h1]
  simp
theorem mt_no {os : List OpE} {k : Nat} (hk : k ≤ os.length) (h : mt os k k = false) : ∀ j, j < k → (opAt os j).e.k ≠ (opAt os k).e.k := by
  intro j hj
  unfold mt at h
  rw [List.any_eq_false] at h
  have hm : opAt os j ∈ os.take k := by
    have : (os.take k)[j]? = some (opAt os j) := by
      rw [List.getElem?_take_of_lt hj]
      simp [opAt, List.getElem?_eq_getElem (show j < os.length by omega)]
    exact List.mem_of_getElem? this
  have := h _ hm
  simpa using this

/-- In the first loop: the first k calls are in q. -/
structure O1 (W w : World) (b1 m1 b2 m2 : Nat) (os : List OpE) (k : Nat) : Prop where
  le : k ≤ os.length
  out : ∃ v1 l1 v2, Two (fun _ => False) W w b1 v1 m1 l1 b2 v2 m2 [] ∧ l1.Perm (ents (os.take k))
theorem O1.keep {W w w' : World} {b1 m1 b2 m2 : Nat} {os : List OpE} {k : Nat} (h : O1 W w b1 m1 b2 m2 os k) (t : Touch (fun _ => False) w w') : O1 W w' b1 m1 b2 m2 os k := by
  obtain ⟨hk, v1, l1, v2, T, p⟩ := h
  exact ⟨hk, v1, l1, v2, T.keep t, p⟩
theorem O1.t {W w : World} {b1 m1 b2 m2 : Nat} {os : List OpE} {k : Nat} (h : O1 W w b1 m1 b2 m2 os k) : Touch (fun _ => False) W w := by
  obtain ⟨hk, v1, l1, v2, T, p⟩ := h
  exact T.q1.t
/-- In the third loop: the calls from k on, with half their times, are in r. -/
structure O3 (W w : World) (b1 m1 b2 m2 : Nat) (os : List OpE) (k : Nat) : Prop where
  le : k ≤ os.length
  nd : OK2 os
  out : ∃ v1 l1 v2 l2, Two (fun _ => False) W w b1 v1 m1 l1 b2 v2 m2 l2 ∧ l1.Perm (ents os) ∧ l2.Perm (halves (os.drop k))
theorem O1.o3 {W w : World} {b1 m1 b2 m2 : Nat} {os : List OpE} (h : O1 W w b1 m1 b2 m2 os os.length) : O3 W w b1 m1 b2 m2 os os.length := by
  obtain ⟨hk, v1, l1, v2, T, p⟩ := h
  rw [List.take_length] at p
  exact ⟨Nat.le_refl _, (p.map En.k).nodup_iff.1 (NK.iff.1 T.q1.q.nk), v1, l1, v2, [], T, p, by simp [halves]⟩
/-- In the fourth loop: those from k on are whole again. -/
structure O4 (W w : World) (b1 m1 b2 m2 : Nat) (os : List OpE) (k : Nat) : Prop where
  le : k ≤ os.length
  nd : OK2 os
  out : ∃ v1 l1 v2 l2, Two (fun _ => False) W w b1 v1 m1 l1 b2 v2 m2 l2 ∧ l1.Perm (ents os) ∧ l2.Perm (ents (os.drop k) ++ halves (os.take k))
theorem O3.o4 {W w : World} {b1 m1 b2 m2 : Nat} {os : List OpE} (h : O3 W w b1 m1 b2 m2 os 0) : O4 W w b1 m1 b2 m2 os os.length := by
  obtain ⟨hk, nd, v1, l1, v2, l2, T, p1, p2⟩ := h
  exact ⟨Nat.le_refl _, nd, v1, l1, v2, l2, T, p1, by simpa [ents] using p2⟩
/-- In the last loop: both hold the same, none of it ahead of what came last. -/
structure O5 (W w : World) (b1 m1 b2 m2 : Nat) (n : Nat) (g : Nat) (last : En) (c : Nat) : Prop where
  row : Row w g 41 [.int .i64 last.a, .int .i64 last.r, .int .u64 last.k]
  gW : W.heap.size ≤ g
  out : ∃ v1 l1 v2 l2, Two (fun k => k = g) W w b1 v1 m1 l1 b2 v2 m2 l2 ∧ l1.Perm l2 ∧ l1.length + c = n ∧ (0 < c → ∀ y ∈ l1, last.le y)
theorem O4.o5 {W w w' : World} {b1 m1 b2 m2 : Nat} {os : List OpE} (h : O4 W w b1 m1 b2 m2 os 0) (last : En) (t : Touch (fun _ => False) w w') (hs : w.heap.size < w'.heap.size) (R : Row w' w.heap.size 41 [.int .i64 last.a, .int .i64 last.r, .int .u64 last.k]) : O5 W w' b1 m1 b2 m2 os.length w.heap.size last 0 := by
  obtain ⟨hk, nd, v1, l1, v2, l2, T, p1, p2⟩ := h
  have p3 : l2.Perm (ents os) := by simpa [halves] using p2
  refine ⟨R, T.q1.t.size, v1, l1, v2, l2, (T.add t hs).less (fun k e => Or.inl e), p1.trans p3.symm, by rw [p1.length_eq]; simp [ents], fun h => by omega⟩

theorem noK_len1 {l : List En} (h : NK l) {x : En} (hx : x ∈ l) : (noK l x.k).length + 1 = l.length := by
  obtain ⟨s, t, rfl⟩ := List.append_of_mem hx
  have p := (cut_perm (l' := s ++ t) List.perm_middle.symm h).length_eq
  rw [← p]
  simp
  omega
/-- What is left. -/
def tk (l : List En) : Bool → En → List En
  | true, x => noK l x.k
  | false, _ => l
theorem takeQ {w : World} {b : Nat} {v : Value} {m : Nat} {most : Int} {l : List En} {w' : World} {x : En} {z : Bool} {A B C : Prop} (h : (x = En0 ∧ z = false ∧ A ∧ QN w b v m most l w') ∨ (z = true ∧ B ∧ C ∧ QN w b v m most (noK l x.k) w')) : QN w b v m most (tk l z x) w' := by
  rcases h with ⟨-, rfl, -, q⟩ | ⟨rfl, -, -, q⟩
  · exact q
  · exact q
/-- Both are asked for what is due: both answer alike. -/
theorem take_alike {l1 l2 : List En} {now : Int} {x y : En} {z z' : Bool} {A B C D : Prop} (p : l1.Perm l2) (h1 : (x = En0 ∧ z = false ∧ (l1 = [] ∨ ∃ y, IsMin y l1 ∧ now < y.a) ∧ A) ∨ (z = true ∧ IsMin x l1 ∧ x.a ≤ now ∧ B)) (h2 : (y = En0 ∧ z' = false ∧ (l2 = [] ∨ ∃ y, IsMin y l2 ∧ now < y.a) ∧ C) ∨ (z' = true ∧ IsMin y l2 ∧ y.a ≤ now ∧ D)) :
    (x = En0 ∧ y = En0 ∧ z = false ∧ z' = false ∧ (l1 = [] ∨ ∃ y, IsMin y l1 ∧ now < y.a) ∧ A ∧ C) ∨ (x = y ∧ z = true ∧ z' = true ∧ IsMin x l1 ∧ x.a ≤ now ∧ B ∧ D) := by
  rcases h1 with ⟨rfl, rfl, h1, a⟩ | ⟨rfl, h1, ha, b⟩ <;> rcases h2 with ⟨rfl, rfl, h2, c⟩ | ⟨rfl, h2, hb, d⟩
  · exact Or.inl ⟨rfl, rfl, rfl, rfl, h1, a, c⟩
  · exfalso
    rcases h1 with rfl | ⟨q, h1, hq⟩
    · have := p.mem_iff.2 h2.mem; simp at this
    · have := h1.one h2 p; subst this; omega
  · exfalso
    rcases h2 with rfl | ⟨q, h2, hq⟩
    · have := p.mem_iff.1 h1.mem; simp at this
    · have := h1.one h2 p; subst this; omega
  · exact Or.inr ⟨h1.one h2 p, rfl, rfl, h1, ha, b, d⟩

/-- What came in, as the walk asks for it. -/
structure Ins (w : World) (a0 : Option Addr) (os : List OpE) : Prop where
  out : 0 < os.length → ∃ g off, a0 = some ⟨g, off, none⟩ ∧ g < w.heap.size ∧ ∀ i, i < os.length → OpQ w g off i (opAt os i)

set_option maxHeartbeats 4000000 in
theorem order_main (a0 a1 : Option Addr) (c0 c1 : Nat) (os : List OpE) (ns : List Int) (w : World) (h0 : Ins w a0 os) (h1 : NumsAt w (.slice a1 ns.length c1) ns) (hn : os.length ≤ 200) (hs : ns.length ≤ 200) :
    Calls Try.prog 5 #[.slice a0 os.length c0, .slice a1 ns.length c1] w fun e w' => e = .returned (.bool true) ∧ Touch (fun _ => False) w w' := by
  have hn' : ¬ 200 < (os.length : Int) := by omega
  have hs' : ¬ 200 < (ns.length : Int) := by omega
  have HN : Hid (os.length ≤ 200) := hn
  have HS : Hid (ns.length ≤ 200) := hs
  have HA : Hid (Ins w a0 os) := h0
  have HB : Hid (NumsAt w (.slice a1 ns.length c1) ns) := h1
  clear h0 h1 hn hs
  go_enter Try.func5, Try.ntmps5
  go_wp2_with fail
  refine Calls.mono (new_yes w 1048576 (by omega) (by omega)) ?_
  rintro e w1 n1
  obtain ⟨b1, m1, rfl, q1⟩ := n1.qo
  have Q1 : Hid _ := q1
  clear n1 q1
  go_wp2_with fail
  refine Calls.mono (new_yes w1 1048576 (by omega) (by omega)) ?_
  rintro e w2 n2
  obtain ⟨b2, m2, rfl, q2⟩ := n2.qo
  have HO1 : Hid (O1 w w2 b1 m1 b2 m2 os 0) := ⟨Nat.zero_le _, _, _, _, two_new Q1.out q2, by simp [ents]⟩
  clear n2 q2 Q1
  go_wp2_with fail
  go_loopw [7] (fun s7 wx => ∃ k : Nat, s7 = .int .i64 k ∧ O1 w wx b1 m1 b2 m2 os k) (fun s7 _ => os.length - (intOf s7).toNat)
  case atStart => exact ⟨0, rfl, HO1.out⟩
  case round =>
    clear HO1
    obtain ⟨k, rfl, O⟩ := hrel
    have hk2 : (k : Int) ≤ 200 := by have := O.le; have := HN.out; omega
    have HO : Hid _ := O
    by_cases hlt : k < os.length
    · obtain ⟨g, off, rfl, hg, hq⟩ := HA.out.out (by omega)
      have HQ : Hid (∀ i, i < os.length → OpQ w g off i (opAt os i)) := hq
      have hlt' : (k : Int) < (os.length : Int) := by omega
      have k0 : (0 : Int) ≤ (k : Int) := by omega
      clear O hq
      go_wp2_with fail
      go_loopw [8, 9] (fun s8 s9 wx => ∃ t : Nat, t ≤ k ∧ s9 = .int .i64 t ∧ s8 = .bool (mt os k t) ∧ Touch (fun _ => False) wr wx) (fun _ s9 _ => k - (intOf s9).toNat)
      case atStart => exact ⟨0, Nat.zero_le _, rfl, by rw [mt_zero], Touch.refl _ _⟩
      case round =>
        obtain ⟨t, htk, rfl, rfl, tt⟩ := hrel
        have HTT : Hid _ := tt
        clear tt
        by_cases hl2 : t < k
        · have htl : (t : Int) < (os.length : Int) := by omega
          have hl2' : (t : Int) < (k : Int) := by omega
          have t0 : (0 : Int) ≤ (t : Int) := by omega
          have tW := HO.out.t.trans HTT.out
          have x3 := snq_cell (tW.cellN (HQ.out t (by omega)).c3)
          have y3 := snq_cell (tW.cellN (HQ.out k (by omega)).c3)
          have st : Snq wr wr.drew := Snq.start wr
          clear tW
          cases hm : mt os k t with
          | true =>
            have HM : Hid (mt os k (t + 1) = true) := mt_true (by omega) hm
            clear hm x3 y3 st
            go_wp2_with fail
            go_region
            go_wp2_with fail
            go_roundw
            case rel => exact ⟨t + 1, by omega, by go_num, by rw [HM.out], HTT.out.drew⟩
            case measure => simp [intOf]; omega
          | false =>
            have HM : Hid (mt os k (t + 1) = decide ((opAt os t).e.k = (opAt os k).e.k)) := mt_false (by omega) hm
            clear hm
            go_wp2_with fail
            go_region_held3 (fun w' => Snq wr w') (with_reducible assumption) (fail)
            go_wp2_with fail
            go_roundw
            case rel => exact ⟨t + 1, by omega, by go_num, congrArg Value.bool (by rw [HM.out, Bool.eq_iff_iff]; simp), HTT.out.drew⟩
            case measure => simp [intOf]; omega
        · have e1 : t = k := by omega
          subst e1
          have HOX : Hid _ := HO.out.keep HTT.out
          clear HO HTT
          cases hm : mt os t t with
          | true =>
            clear hm
            go_wp2_with ((go_at_call 8; refine Calls.mono (lives_any _) ?_; rintro e wx ⟨rfl, tx⟩))
            go_ret
            exact ⟨rfl, HOX.out.t.trans tx⟩
          | false =>
            have HM : Hid _ := mt_no (Nat.le_of_lt hlt) hm
            clear hm
            obtain ⟨hk, v1, l1, v2, T, p⟩ := HOX.out
            obtain ⟨pb, pl⟩ := put_fresh hlt p HM.out HN.out
            have hgq : ¬ qB b1 v1 m1 g := fun e => by have := T.q1.own g e; omega
            have tW := T.q1.t
            have qk := HQ.out t hlt
            have x1 := snG_cell hgq (tW.cellN qk.c1)
            have x2 := snG_cell hgq (tW.cellN qk.c2)
            have x3 := snG_cell hgq (tW.cellN qk.c3)
            have st : SnG (qB b1 v1 m1) wr wr.drew := SnG.start _ wr
            have OKX := qk.ok
            have HP : Hid (Calls Try.prog 17 #[.pointer (some ⟨b1, 0, none⟩), .int .i64 (opAt os t).e.a, .int .i64 (opAt os t).e.r, .int .u64 (opAt os t).e.k] wr.drew fun e w' => e = .returned (.bool true) ∧ O1 w w' b1 m1 b2 m2 os (t + 1) ∧ Touch (qB b1 v1 m1) wr.drew w') := by
              have T' := T.keep ((Touch.refl _ wr).drew)
              refine Calls.mono (put_any wr.drew b1 v1 m1 1048576 l1 _ OKX T'.q1.q) ?_
              rintro e w' ⟨rfl, q⟩
              obtain ⟨v1', l1', T2, p2⟩ := T'.step1 q
              exact ⟨by rw [pb], ⟨hlt, v1', l1', v2, T2, p2.trans pl⟩, q.t⟩
            clear T p pb pl qk OKX tW hk HOX HM
            generalize (opAt os t).e = x at *
            go_wp2_with fail
            go_region_held3 (fun w' => SnG (qB b1 v1 m1) wr w') (with_reducible assumption) ((go_at_call 17; refine Calls.mono HP.out ?_; rintro e wx ⟨rfl, ox, tx⟩; have sx : SnG (qB b1 v1 m1) wr wx := ⟨((Touch.refl _ _).drew).trans tx⟩; have OX : Hid _ := ox; clear ox))
            go_wp2_with fail
            go_roundw
            case rel => exact ⟨t + 1, by go_num, OX.out⟩
            case measure => simp [intOf]; omega
    · have e1 : k = os.length := by have := O.le; omega
      subst e1
      have HO3 : Hid _ := O.o3
      clear O HO hk2
      go_wp2_with fail
      go_loopw [10] (fun s10 wx => ∃ k : Nat, s10 = .int .i64 ((k : Int) - 1) ∧ O3 w wx b1 m1 b2 m2 os k) (fun s10 _ => (intOf s10 + 1).toNat)
      case atStart => exact ⟨os.length, rfl, HO3.out⟩
      case round =>
        clear HO3
        obtain ⟨k, rfl, O⟩ := hrel
        have hk2 : (k : Int) ≤ 200 := by have := O.le; have := HN.out; omega
        have HO : Hid _ := O
        by_cases hk0 : k = 0
        · subst hk0
          have HO4 : Hid _ := O.o4
          clear O HO hk2
          go_wp2_with fail
          go_loopw [11] (fun s11 wx => ∃ k : Nat, s11 = .int .i64 ((k : Int) - 1) ∧ O4 w wx b1 m1 b2 m2 os k) (fun s11 _ => (intOf s11 + 1).toNat)
          case atStart => exact ⟨os.length, rfl, HO4.out⟩
          case round =>
            clear HO4
            obtain ⟨k, rfl, O⟩ := hrel
            have hk2 : (k : Int) ≤ 200 := by have := O.le; have := HN.out; omega
            have HO : Hid _ := O
            by_cases hk0 : k = 0
            · subst hk0
              clear O hk2
              go_wp2_with fail
              have T0 : Touch (fun _ => False) wr (wr.alloc (.cells #[.int .i64 (-9223372036854775808), .int .i64 0, .int .u64 0] 41)) := (Touch.refl _ _).alloc _
              have HO5 : Hid (O5 w (wr.alloc (.cells #[.int .i64 (-9223372036854775808), .int .i64 0, .int .u64 0] 41)) b1 m1 b2 m2 os.length wr.heap.size ⟨-9223372036854775808, 0, 0⟩ 0) := HO.out.o5 ⟨-9223372036854775808, 0, 0⟩ T0 (by simp) (row_new wr _ _)
              clear T0 HO HA
              generalize wr.alloc (.cells #[.int .i64 (-9223372036854775808), .int .i64 0, .int .u64 0] 41) = wz at HO5 ⊢
              generalize wr.heap.size = gl at HO5 ⊢
              go_loopw [12, 14, 15] (fun s12 s14 s15 wx => ∃ (now : Int) (c i : Nat) (last : En), s12 = .int .i64 now ∧ s14 = .int .i64 c ∧ s15 = .int .i64 i ∧ 0 ≤ now ∧ now ≤ 65536 * i ∧ i ≤ ns.length ∧ c ≤ i ∧ O5 w wx b1 m1 b2 m2 os.length gl last c) (fun _ _ s15 _ => ns.length - (intOf s15).toNat)
              case atStart => exact ⟨0, 0, 0, _, rfl, rfl, rfl, by omega, by omega, Nat.zero_le _, Nat.zero_le _, HO5.out⟩
              case round =>
                clear HO5
                obtain ⟨now, c, i, last, rfl, rfl, rfl, n0, n1, hi, hc, O⟩ := hrel
                have hi2 : (i : Int) ≤ 200 := by have := HS.out; omega
                have hc2 : (c : Int) ≤ 200 := by omega
                have HO : Hid _ := O
                clear O
                by_cases hlt : i < ns.length
                · obtain ⟨g1, off1, c', hv, hcell⟩ := HB.out.at (by omega)
                  injection hv with e1 e2 e3
                  subst e1
                  have rng := HB.out.rng i
                  obtain ⟨hrow, hgW, v1, l1, v2, l2, T, p, hcn, hl⟩ := HO.out
                  have y0 := T.q1.t.cellN (hcell i hlt)
                  clear hcell HO e2 e3
                  generalize ns.getD i 0 = d at *
                  obtain ⟨d0, d1⟩ := rng
                  have hlt' : (i : Int) < (ns.length : Int) := by omega
                  have i0 : (0 : Int) ≤ (i : Int) := by omega
                  go_wp2_with fail
                  refine Calls.mono (take_any wr b1 v1 m1 _ l1 (now + d) T.q1.q) ?_
                  rintro e w3 ⟨x, z, rfl, hx⟩
                  have q3 := takeQ hx
                  obtain ⟨v1', l1', T3, p1'⟩ := T.step1 q3
                  have R3 : Row w3 gl 41 [.int .i64 last.a, .int .i64 last.r, .int .u64 last.k] := (q3.t.block gl hrow.lt (T.g1 gl rfl)).trans hrow
                  clear q3 y0 hrow
                  go_wp2_with fail
                  have t4 : Touch (fun _ => False) w3 (w3.alloc (.cells #[.int .i64 x.a, .int .i64 x.r, .int .u64 x.k] 41)) := (Touch.refl _ _).alloc _
                  have T4 := T3.add t4 (by simp)
                  have R4 := R3.keep t4
                  have xb : Row (w3.alloc (.cells #[.int .i64 x.a, .int .i64 x.r, .int .u64 x.k] 41)) w3.heap.size 41 [.int .i64 x.a, .int .i64 x.r, .int .u64 x.k] := row_new w3 _ _
                  generalize w3.alloc (.cells #[.int .i64 x.a, .int .i64 x.r, .int .u64 x.k] 41) = w4 at t4 T4 R4 xb ⊢
                  refine Calls.mono (take_any w4 b2 v2 m2 _ l2 (now + d) T4.q2.q) ?_
                  rintro e w5 ⟨y, z', rfl, hy⟩
                  have q5 := takeQ hy
                  obtain ⟨v2', l2', T5, p2'⟩ := T4.step2 q5
                  have R5 : Row w5 gl 41 [.int .i64 last.a, .int .i64 last.r, .int .u64 last.k] := (q5.t.block gl R4.lt (T4.g2 gl (Or.inr rfl))).trans R4
                  have X5 : Row w5 w3.heap.size 41 [.int .i64 x.a, .int .i64 x.r, .int .u64 x.k] := (q5.t.block _ xb.lt (T4.g2 _ (Or.inl rfl))).trans xb
                  have hal := take_alike p hx hy
                  have z0 : w5.cell? ⟨w3.heap.size, 0, none⟩ = some (.int .i64 x.a) := X5.cell 0
                  have z1 : w5.cell? ⟨w3.heap.size, 1, none⟩ = some (.int .i64 x.r) := X5.cell 1
                  have z2 : w5.cell? ⟨w3.heap.size, 2, none⟩ = some (.int .u64 x.k) := X5.cell 2
                  have hx5 := X5.lt
                  have l0 : w5.cell? ⟨gl, 0, none⟩ = some (.int .i64 last.a) := R5.cell 0
                  have l1c : w5.cell? ⟨gl, 1, none⟩ = some (.int .i64 last.r) := R5.cell 1
                  have hg5 := R5.lt
                  clear q5 R4 xb hx hy t4 T4 T3 R3 X5
                  rcases hal with ⟨rfl, rfl, rfl, rfl, hcond, -, -⟩ | ⟨rfl, rfl, rfl, hm, hxa, -, -⟩
                  · simp only [tk] at p1' p2'
                    go_wp2_with fail
                    obtain ⟨nx, zn, hn, hcall⟩ := next_any (w5.alloc (.cells #[.int .i64 En0.a, .int .i64 En0.r, .int .u64 En0.k] 41)) b1 v1' m1 _ l1' (T5.keep ((Touch.refl _ _).alloc (.cells #[.int .i64 En0.a, .int .i64 En0.r, .int .u64 En0.k] 41))).q1.q
                    refine Calls.mono hcall ?_
                    rintro e w7 ⟨rfl, t7⟩
                    clear hcall
                    rcases hcond with rfl | ⟨y, hy, hya⟩
                    · have e1 : l1' = [] := List.perm_nil.1 p1'
                      obtain ⟨rfl, rfl⟩ := hn.no e1
                      have hcond := e1
                      have w8g : Hid (O5 w (w7.alloc (.cells #[.int .i64 En0.a, .int .i64 En0.r, .int .u64 En0.k] 41)) b1 m1 b2 m2 os.length gl last c) := by
                        have T8 := ((T5.keep ((Touch.refl _ _).alloc (.cells #[.int .i64 En0.a, .int .i64 En0.r, .int .u64 En0.k] 41))).keep t7).keep ((Touch.refl _ _).alloc (.cells #[.int .i64 En0.a, .int .i64 En0.r, .int .u64 En0.k] 41))
                        refine ⟨((R5.keep ((Touch.refl _ _).alloc _)).keep t7).keep ((Touch.refl _ _).alloc _), hgW, v1', l1', v2', l2', T8.less (fun k e => Or.inr e), (p1'.trans p).trans p2'.symm, by rw [p1'.length_eq]; exact hcn, fun h y hy => hl h y (p1'.mem_iff.1 hy)⟩
                      clear T5 R5 t7 p p1' p2' hcn hl T hn hcond z0 z1 z2
                      go_wp2_with fail
                      go_roundw
                      case rel => exact ⟨_, _, _, _, _, _, _, _, _, _, _, _, _, _, _, _, _, _, _, _, _, _, _, _, _, _, _, _, _, _, _, _, _, _, _, _, _, _, _, _, _, _, _, _, _, _, _, _, _, _, _, _, _, _, _, _, _, _, _, _, _, _, _, _, _, _, _, _, _, _, _, _, _, _, _, _, _, _, _, _, _, _, _, _, _, _, _, _, _, _, _, _, _, _, _, _, _, _, _, _, _, ⟨now + d, c, i + 1, last, rfl, rfl, by go_num, by omega, by omega, hlt, by omega, w8g.out⟩, rfl⟩
                      case measure => simp [intOf]; omega
                    · have hne : l1' ≠ [] := by rintro rfl; have := p1'.mem_iff.2 hy.mem; simp at this
                      obtain ⟨hmin, rfl⟩ := hn.yes hne
                      have e2 := hmin.one hy p1'
                      subst e2
                      have hcond := hne
                      have hnn : ¬ nx.a ≤ now + d := by omega
                      clear hmin hy hne
                      have w8g : Hid (O5 w (w7.alloc (.cells #[.int .i64 nx.a, .int .i64 nx.r, .int .u64 nx.k] 41)) b1 m1 b2 m2 os.length gl last c) := by
                        have T8 := ((T5.keep ((Touch.refl _ _).alloc (.cells #[.int .i64 En0.a, .int .i64 En0.r, .int .u64 En0.k] 41))).keep t7).keep ((Touch.refl _ _).alloc (.cells #[.int .i64 nx.a, .int .i64 nx.r, .int .u64 nx.k] 41))
                        refine ⟨((R5.keep ((Touch.refl _ _).alloc _)).keep t7).keep ((Touch.refl _ _).alloc _), hgW, v1', l1', v2', l2', T8.less (fun k e => Or.inr e), (p1'.trans p).trans p2'.symm, by rw [p1'.length_eq]; exact hcn, fun h y hy => hl h y (p1'.mem_iff.1 hy)⟩
                      clear T5 R5 t7 p p1' p2' hcn hl T hn hcond z0 z1 z2
                      go_wp2_with fail
                      go_roundw
                      case rel => exact ⟨_, _, _, _, _, _, _, _, _, _, _, _, _, _, _, _, _, _, _, _, _, _, _, _, _, _, _, _, _, _, _, _, _, _, _, _, _, _, _, _, _, _, _, _, _, _, _, _, _, _, _, _, _, _, _, _, _, _, _, _, _, _, _, _, _, _, _, _, _, _, _, _, _, _, _, _, _, _, _, _, _, _, _, _, _, _, _, _, _, _, _, _, _, _, _, _, _, _, _, _, _, ⟨now + d, c, i + 1, last, rfl, rfl, by go_num, by omega, by omega, hlt, by omega, w8g.out⟩, rfl⟩
                      case measure => simp [intOf]; omega
                  · simp only [tk] at p1' p2'
                    have hxn : ¬ now + d < x.a := by omega
                    have hlx : c = 0 ∨ (0 < c ∧ last.a < x.a) ∨ (0 < c ∧ last.a = x.a ∧ last.r ≤ x.r) := by
                      by_cases hc0 : c = 0
                      · exact Or.inl hc0
                      · have := hl (by omega) x hm.mem
                        unfold En.le En.lt at this
                        omega
                    rcases hlx with hc0 | ⟨hc0, hla⟩ | ⟨hc0, hla, hlr⟩
                    · have hci : ¬ (0 : Int) < (c : Int) := by omega
                      go_wp2_with fail
                      obtain ⟨nx, zn, hn, hcall⟩ := next_any (w5.alloc (.cells #[.int .i64 x.a, .int .i64 x.r, .int .u64 x.k] 41)) b1 v1' m1 _ l1' (T5.keep ((Touch.refl _ _).alloc (.cells #[.int .i64 x.a, .int .i64 x.r, .int .u64 x.k] 41))).q1.q
                      refine Calls.mono hcall ?_
                      rintro e w7 ⟨rfl, t7⟩
                      clear hcall
                      have R7 : Row w7 gl 41 [.int .i64 last.a, .int .i64 last.r, .int .u64 last.k] := (R5.keep ((Touch.refl _ _).alloc _)).keep t7
                      have w8g : Hid (O5 w ((((w7.setCell ⟨gl, 0, none⟩ (.int .i64 x.a)).setCell ⟨gl, 1, none⟩ (.int .i64 x.r)).setCell ⟨gl, 2, none⟩ (.int .u64 x.k)).alloc (.cells #[.int .i64 nx.a, .int .i64 nx.r, .int .u64 nx.k] 41)) b1 m1 b2 m2 os.length gl x (c + 1)) := by
                        have T7 := (T5.keep ((Touch.refl _ _).alloc (.cells #[.int .i64 x.a, .int .i64 x.r, .int .u64 x.k] 41))).keep t7
                        have nk := T.q1.q.nk
                        have hlen := noK_len1 nk hm.mem
                        have ts : Touch (fun k => k = gl) w7 (((w7.setCell ⟨gl, 0, none⟩ (.int .i64 x.a)).setCell ⟨gl, 1, none⟩ (.int .i64 x.r)).setCell ⟨gl, 2, none⟩ (.int .u64 x.k)) := by
                          refine Touch.setCell (F := fun k => k = gl) (p := ⟨gl, 2, none⟩) ?_ (Or.inl rfl) _
                          refine Touch.setCell (F := fun k => k = gl) (p := ⟨gl, 1, none⟩) ?_ (Or.inl rfl) _
                          refine Touch.setCell (F := fun k => k = gl) (p := ⟨gl, 0, none⟩) ?_ (Or.inl rfl) _
                          exact Touch.refl _ _
                        refine ⟨(((R7.set 0 (.int .i64 x.a)).set 1 (.int .i64 x.r)).set 2 (.int .u64 x.k)).keep ((Touch.refl _ _).alloc _), hgW, v1', l1', v2', l2', ((T7.less (fun k e => Or.inr e)).other ts (fun k e => ⟨e, by subst e; exact hgW⟩)).keep ((Touch.refl _ _).alloc _), (p1'.trans (noK_perm p x.k)).trans p2'.symm, ?_, fun _ y hy => hm.le y (mem_noK.1 (p1'.mem_iff.1 hy)).1⟩
                        rw [p1'.length_eq]
                        omega
                      have u0 := t7.cellN (((Touch.refl (fun _ => False) w5).alloc (.cells #[.int .i64 x.a, .int .i64 x.r, .int .u64 x.k] 41)).cellN z0)
                      have u1 := t7.cellN (((Touch.refl (fun _ => False) w5).alloc (.cells #[.int .i64 x.a, .int .i64 x.r, .int .u64 x.k] 41)).cellN z1)
                      have u2 := t7.cellN (((Touch.refl (fun _ => False) w5).alloc (.cells #[.int .i64 x.a, .int .i64 x.r, .int .u64 x.k] 41)).cellN z2)
                      have r0 : w7.cell? ⟨gl, 0, none⟩ = some (.int .i64 last.a) := R7.cell 0
                      have r1 : w7.cell? ⟨gl, 1, none⟩ = some (.int .i64 last.r) := R7.cell 1
                      have r2 : w7.cell? ⟨gl, 2, none⟩ = some (.int .u64 last.k) := R7.cell 2
                      have rf := R7.frozen
                      have hg7 := R7.lt
                      have hx7 := lt_of_cell u0
                      clear T5 R5 R7 t7 p p1' p2' hcn hl T hn z0 z1 z2 l0 l1c hg5 hx5
                      go_wp2_with fail
                      go_roundw
                      case rel => exact ⟨_, _, _, _, _, _, _, _, _, _, _, _, _, _, _, _, _, _, _, _, _, _, _, _, _, _, _, _, _, _, _, _, _, _, _, _, _, _, _, _, _, _, _, _, _, _, _, _, _, _, _, _, _, _, _, _, _, _, _, _, _, _, _, _, _, _, _, _, _, _, _, _, _, _, _, _, _, _, _, _, _, _, _, _, _, _, _, _, _, _, _, _, _, _, _, _, _, _, _, _, _, ⟨now + d, c + 1, i + 1, x, rfl, by go_num, by go_num, by omega, by omega, hlt, by omega, w8g.out⟩, rfl⟩
                      case measure => simp [intOf]; omega
                    · have hci : (0 : Int) < (c : Int) := by omega
                      have h1 : ¬ x.a < last.a := by omega
                      have h2 : ¬ x.a = last.a := by omega
                      have h3 : (x.a == last.a) = false := by simpa using h2
                      go_wp2_with fail
                      obtain ⟨nx, zn, hn, hcall⟩ := next_any (w5.alloc (.cells #[.int .i64 x.a, .int .i64 x.r, .int .u64 x.k] 41)) b1 v1' m1 _ l1' (T5.keep ((Touch.refl _ _).alloc (.cells #[.int .i64 x.a, .int .i64 x.r, .int .u64 x.k] 41))).q1.q
                      refine Calls.mono hcall ?_
                      rintro e w7 ⟨rfl, t7⟩
                      clear hcall
                      have R7 : Row w7 gl 41 [.int .i64 last.a, .int .i64 last.r, .int .u64 last.k] := (R5.keep ((Touch.refl _ _).alloc _)).keep t7
                      have w8g : Hid (O5 w ((((w7.setCell ⟨gl, 0, none⟩ (.int .i64 x.a)).setCell ⟨gl, 1, none⟩ (.int .i64 x.r)).setCell ⟨gl, 2, none⟩ (.int .u64 x.k)).alloc (.cells #[.int .i64 nx.a, .int .i64 nx.r, .int .u64 nx.k] 41)) b1 m1 b2 m2 os.length gl x (c + 1)) := by
                        have T7 := (T5.keep ((Touch.refl _ _).alloc (.cells #[.int .i64 x.a, .int .i64 x.r, .int .u64 x.k] 41))).keep t7
                        have nk := T.q1.q.nk
                        have hlen := noK_len1 nk hm.mem
                        have ts : Touch (fun k => k = gl) w7 (((w7.setCell ⟨gl, 0, none⟩ (.int .i64 x.a)).setCell ⟨gl, 1, none⟩ (.int .i64 x.r)).setCell ⟨gl, 2, none⟩ (.int .u64 x.k)) := by
                          refine Touch.setCell (F := fun k => k = gl) (p := ⟨gl, 2, none⟩) ?_ (Or.inl rfl) _
                          refine Touch.setCell (F := fun k => k = gl) (p := ⟨gl, 1, none⟩) ?_ (Or.inl rfl) _
                          refine Touch.setCell (F := fun k => k = gl) (p := ⟨gl, 0, none⟩) ?_ (Or.inl rfl) _
                          exact Touch.refl _ _
                        refine ⟨(((R7.set 0 (.int .i64 x.a)).set 1 (.int .i64 x.r)).set 2 (.int .u64 x.k)).keep ((Touch.refl _ _).alloc _), hgW, v1', l1', v2', l2', ((T7.less (fun k e => Or.inr e)).other ts (fun k e => ⟨e, by subst e; exact hgW⟩)).keep ((Touch.refl _ _).alloc _), (p1'.trans (noK_perm p x.k)).trans p2'.symm, ?_, fun _ y hy => hm.le y (mem_noK.1 (p1'.mem_iff.1 hy)).1⟩
                        rw [p1'.length_eq]
                        omega
                      have u0 := t7.cellN (((Touch.refl (fun _ => False) w5).alloc (.cells #[.int .i64 x.a, .int .i64 x.r, .int .u64 x.k] 41)).cellN z0)
                      have u1 := t7.cellN (((Touch.refl (fun _ => False) w5).alloc (.cells #[.int .i64 x.a, .int .i64 x.r, .int .u64 x.k] 41)).cellN z1)
                      have u2 := t7.cellN (((Touch.refl (fun _ => False) w5).alloc (.cells #[.int .i64 x.a, .int .i64 x.r, .int .u64 x.k] 41)).cellN z2)
                      have r0 : w7.cell? ⟨gl, 0, none⟩ = some (.int .i64 last.a) := R7.cell 0
                      have r1 : w7.cell? ⟨gl, 1, none⟩ = some (.int .i64 last.r) := R7.cell 1
                      have r2 : w7.cell? ⟨gl, 2, none⟩ = some (.int .u64 last.k) := R7.cell 2
                      have rf := R7.frozen
                      have hg7 := R7.lt
                      have hx7 := lt_of_cell u0
                      clear T5 R5 R7 t7 p p1' p2' hcn hl T hn z0 z1 z2 l0 l1c hg5 hx5
                      go_wp2_with fail
                      go_roundw
                      case rel => exact ⟨_, _, _, _, _, _, _, _, _, _, _, _, _, _, _, _, _, _, _, _, _, _, _, _, _, _, _, _, _, _, _, _, _, _, _, _, _, _, _, _, _, _, _, _, _, _, _, _, _, _, _, _, _, _, _, _, _, _, _, _, _, _, _, _, _, _, _, _, _, _, _, _, _, _, _, _, _, _, _, _, _, _, _, _, _, _, _, _, _, _, _, _, _, _, _, _, _, _, _, _, _, ⟨now + d, c + 1, i + 1, x, rfl, by go_num, by go_num, by omega, by omega, hlt, by omega, w8g.out⟩, rfl⟩
                      case measure => simp [intOf]; omega
                    · have hci : (0 : Int) < (c : Int) := by omega
                      have h1 : ¬ x.a < last.a := by omega
                      have h2 : ¬ x.r < last.r := by omega
                      have h3 : (x.a == last.a) = true := by simpa using hla.symm
                      go_wp2_with fail
                      obtain ⟨nx, zn, hn, hcall⟩ := next_any (w5.alloc (.cells #[.int .i64 x.a, .int .i64 x.r, .int .u64 x.k] 41)) b1 v1' m1 _ l1' (T5.keep ((Touch.refl _ _).alloc (.cells #[.int .i64 x.a, .int .i64 x.r, .int .u64 x.k] 41))).q1.q
                      refine Calls.mono hcall ?_
                      rintro e w7 ⟨rfl, t7⟩
                      clear hcall
                      have R7 : Row w7 gl 41 [.int .i64 last.a, .int .i64 last.r, .int .u64 last.k] := (R5.keep ((Touch.refl _ _).alloc _)).keep t7
                      have w8g : Hid (O5 w ((((w7.setCell ⟨gl, 0, none⟩ (.int .i64 x.a)).setCell ⟨gl, 1, none⟩ (.int .i64 x.r)).setCell ⟨gl, 2, none⟩ (.int .u64 x.k)).alloc (.cells #[.int .i64 nx.a, .int .i64 nx.r, .int .u64 nx.k] 41)) b1 m1 b2 m2 os.length gl x (c + 1)) := by
                        have T7 := (T5.keep ((Touch.refl _ _).alloc (.cells #[.int .i64 x.a, .int .i64 x.r, .int .u64 x.k] 41))).keep t7
                        have nk := T.q1.q.nk
                        have hlen := noK_len1 nk hm.mem
                        have ts : Touch (fun k => k = gl) w7 (((w7.setCell ⟨gl, 0, none⟩ (.int .i64 x.a)).setCell ⟨gl, 1, none⟩ (.int .i64 x.r)).setCell ⟨gl, 2, none⟩ (.int .u64 x.k)) := by
                          refine Touch.setCell (F := fun k => k = gl) (p := ⟨gl, 2, none⟩) ?_ (Or.inl rfl) _
                          refine Touch.setCell (F := fun k => k = gl) (p := ⟨gl, 1, none⟩) ?_ (Or.inl rfl) _
                          refine Touch.setCell (F := fun k => k = gl) (p := ⟨gl, 0, none⟩) ?_ (Or.inl rfl) _
                          exact Touch.refl _ _
                        refine ⟨(((R7.set 0 (.int .i64 x.a)).set 1 (.int .i64 x.r)).set 2 (.int .u64 x.k)).keep ((Touch.refl _ _).alloc _), hgW, v1', l1', v2', l2', ((T7.less (fun k e => Or.inr e)).other ts (fun k e => ⟨e, by subst e; exact hgW⟩)).keep ((Touch.refl _ _).alloc _), (p1'.trans (noK_perm p x.k)).trans p2'.symm, ?_, fun _ y hy => hm.le y (mem_noK.1 (p1'.mem_iff.1 hy)).1⟩
                        rw [p1'.length_eq]
                        omega
                      have u0 := t7.cellN (((Touch.refl (fun _ => False) w5).alloc (.cells #[.int .i64 x.a, .int .i64 x.r, .int .u64 x.k] 41)).cellN z0)
                      have u1 := t7.cellN (((Touch.refl (fun _ => False) w5).alloc (.cells #[.int .i64 x.a, .int .i64 x.r, .int .u64 x.k] 41)).cellN z1)
                      have u2 := t7.cellN (((Touch.refl (fun _ => False) w5).alloc (.cells #[.int .i64 x.a, .int .i64 x.r, .int .u64 x.k] 41)).cellN z2)
                      have r0 : w7.cell? ⟨gl, 0, none⟩ = some (.int .i64 last.a) := R7.cell 0
                      have r1 : w7.cell? ⟨gl, 1, none⟩ = some (.int .i64 last.r) := R7.cell 1
                      have r2 : w7.cell? ⟨gl, 2, none⟩ = some (.int .u64 last.k) := R7.cell 2
                      have rf := R7.frozen
                      have hg7 := R7.lt
                      have hx7 := lt_of_cell u0
                      clear T5 R5 R7 t7 p p1' p2' hcn hl T hn z0 z1 z2 l0 l1c hg5 hx5
                      go_wp2_with fail
                      go_roundw
                      case rel => exact ⟨_, _, _, _, _, _, _, _, _, _, _, _, _, _, _, _, _, _, _, _, _, _, _, _, _, _, _, _, _, _, _, _, _, _, _, _, _, _, _, _, _, _, _, _, _, _, _, _, _, _, _, _, _, _, _, _, _, _, _, _, _, _, _, _, _, _, _, _, _, _, _, _, _, _, _, _, _, _, _, _, _, _, _, _, _, _, _, _, _, _, _, _, _, _, _, _, _, _, _, _, _, ⟨now + d, c + 1, i + 1, x, rfl, by go_num, by go_num, by omega, by omega, hlt, by omega, w8g.out⟩, rfl⟩
                      case measure => simp [intOf]; omega
                · have hlt' : ¬ (i : Int) < (ns.length : Int) := by omega
                  obtain ⟨hrow, hgW, v1, l1, v2, l2, T, p, hcn, hl⟩ := HO.out
                  have hL1 : (l1.length : Int) = (os.length : Int) - (c : Int) := by omega
                  have hL2 : (l2.length : Int) = (os.length : Int) - (c : Int) := by have := p.length_eq; omega
                  have HL1 : Hid (Calls Try.prog 12 #[.pointer (some ⟨b1, 0, none⟩)] wr fun e w' => e = .returned (.int .i64 ((os.length : Int) - (c : Int))) ∧ wr = w') := by
                    have := len_any wr b1 v1 m1 _ l1 T.q1.q
                    rw [hL1] at this
                    exact this
                  have HL2 : Hid (Calls Try.prog 12 #[.pointer (some ⟨b2, 0, none⟩)] wr fun e w' => e = .returned (.int .i64 ((os.length : Int) - (c : Int))) ∧ wr = w') := by
                    have := len_any wr b2 v2 m2 _ l2 T.q2.q
                    rw [hL2] at this
                    exact this
                  have TW : Hid _ := T.q1.t
                  clear hL1 hL2 T p hcn hl hrow HO
                  go_wp2_with (first
                    | (go_at_call 12; refine Calls.mono (by first | with_reducible exact HL1.out | with_reducible exact HL2.out) ?_; rintro e wx ⟨rfl, rfl⟩)
                    | (go_at_call 8; refine Calls.mono (lives_any _) ?_; rintro e wx ⟨rfl, tx⟩))
                  go_ret
                  exact ⟨rfl, TW.out.trans tx⟩
            · obtain ⟨j, rfl⟩ : ∃ j, k = j + 1 := ⟨k - 1, by omega⟩
              have ej : ((j + 1 : Nat) : Int) - 1 = (j : Int) := by omega
              rw [ej]
              have hjl : j < os.length := by have := O.le; omega
              obtain ⟨g, off, rfl, hg, hq⟩ := HA.out.out (by omega)
              have hlt' : (j : Int) < (os.length : Int) := by omega
              have j0 : (0 : Int) ≤ (j : Int) := by omega
              have HJ : Hid (j < os.length) := hjl
              obtain ⟨hk, nd, v1, l1, v2, l2, T, p1, p2⟩ := HO.out
              obtain ⟨pb, pl⟩ := put_whole hjl nd p2 HN.out
              have hgq : ¬ qB b2 v2 m2 g := fun e => by have := T.q2.own g e; omega
              have tW := T.q2.t
              have qk := hq j hjl
              have x1 := snG_cell hgq (tW.cellN qk.c1)
              have x2 := snG_cell hgq (tW.cellN qk.c2)
              have x3 := snG_cell hgq (tW.cellN qk.c3)
              have st : SnG (qB b2 v2 m2) wr wr.drew := SnG.start _ wr
              have OKX := qk.ok
              have HP : Hid (Calls Try.prog 17 #[.pointer (some ⟨b2, 0, none⟩), .int .i64 (opAt os j).e.a, .int .i64 (opAt os j).e.r, .int .u64 (opAt os j).e.k] wr.drew fun e w' => e = .returned (.bool true) ∧ O4 w w' b1 m1 b2 m2 os j ∧ Touch (qB b2 v2 m2) wr.drew w') := by
                have T' := T.keep ((Touch.refl _ wr).drew)
                refine Calls.mono (put_any wr.drew b2 v2 m2 1048576 l2 (opAt os j).e OKX T'.q2.q) ?_
                rintro e w' ⟨rfl, q⟩
                obtain ⟨v2', l2', T2, q2⟩ := T'.step2 q
                exact ⟨by rw [pb], ⟨by omega, nd, v1, l1, v2', l2', T2, p1, q2.trans pl⟩, q.t⟩
              have b0 := qk.ok.a0
              have b1' := qk.ok.a1
              clear T p1 p2 pl pb qk OKX tW hk nd HO O hq
              generalize (opAt os j).e = x at *
              clear b0 b1'
              go_wp2_with fail
              go_region_held3 (fun w' => SnG (qB b2 v2 m2) wr w') (with_reducible assumption) ((go_at_call 17; refine Calls.mono HP.out ?_; rintro e wx ⟨rfl, ox, tx⟩; have sx : SnG (qB b2 v2 m2) wr wx := ⟨((Touch.refl _ _).drew).trans tx⟩; have OX : Hid _ := ox; clear ox))
              go_wp2_with fail
              go_roundw
              case rel => exact ⟨_, _, _, _, _, _, _, _, _, _, _, _, _, _, _, _, _, _, _, _, _, _, _, _, ⟨j, rfl, OX.out⟩, rfl⟩
              case measure => simp [intOf]
        · obtain ⟨j, rfl⟩ : ∃ j, k = j + 1 := ⟨k - 1, by omega⟩
          have ej : ((j + 1 : Nat) : Int) - 1 = (j : Int) := by omega
          rw [ej]
          have hjl : j < os.length := by have := O.le; omega
          obtain ⟨g, off, rfl, hg, hq⟩ := HA.out.out (by omega)
          have hlt' : (j : Int) < (os.length : Int) := by omega
          have j0 : (0 : Int) ≤ (j : Int) := by omega
          have HJ : Hid (j < os.length) := hjl
          obtain ⟨hk, nd, v1, l1, v2, l2, T, p1, p2⟩ := HO.out
          have pl := put_half hjl nd p2 HN.out
          have hgq : ¬ qB b2 v2 m2 g := fun e => by have := T.q2.own g e; omega
          have tW := T.q2.t
          have qk := hq j hjl
          have x1 := snG_cell hgq (tW.cellN qk.c1)
          have x2 := snG_cell hgq (tW.cellN qk.c2)
          have x3 := snG_cell hgq (tW.cellN qk.c3)
          have st : SnG (qB b2 v2 m2) wr wr.drew := SnG.start _ wr
          have OKX := halfE_ok qk.ok
          have HP : Hid (∀ y, y = (opAt os j).e.a.tdiv 2 → Calls Try.prog 17 #[.pointer (some ⟨b2, 0, none⟩), .int .i64 y, .int .i64 (opAt os j).e.r, .int .u64 (opAt os j).e.k] wr.drew fun e w' => (∃ z : Bool, e = .returned (.bool z)) ∧ O3 w w' b1 m1 b2 m2 os j ∧ Touch (qB b2 v2 m2) wr.drew w') := by
            intro y hy
            subst hy
            have T' := T.keep ((Touch.refl _ wr).drew)
            refine Calls.mono (put_any wr.drew b2 v2 m2 1048576 l2 (halfE (opAt os j).e) OKX T'.q2.q) ?_
            rintro e w' ⟨rfl, q⟩
            obtain ⟨v2', l2', T2, q2⟩ := T'.step2 q
            exact ⟨⟨_, rfl⟩, ⟨by omega, nd, v1, l1, v2', l2', T2, p1, q2.trans pl⟩, q.t⟩
          have b0 := qk.ok.a0
          have b1' := qk.ok.a1
          clear T p1 p2 pl qk OKX tW hk nd HO O hq
          generalize (opAt os j).e = x at *
          have hwr : Hid (IntKind.i64.wrap (x.a.tdiv 2) = x.a.tdiv 2) := by
            have h1 : -9223372036854775808 ≤ x.a.tdiv 2 ∧ x.a.tdiv 2 ≤ 9223372036854775807 := by
              rcases Int.lt_or_le x.a 0 with h | h
              · have : x.a.tdiv 2 = - ((-x.a) / 2) := by rw [← Int.neg_neg x.a, Int.neg_tdiv, Int.tdiv_eq_ediv_of_nonneg (by omega), Int.neg_neg]
                omega
              · rw [Int.tdiv_eq_ediv_of_nonneg h]; omega
            exact IntWalk.i64_in _ h1
          clear b0 b1'
          go_wp2_with fail
          go_region_held3 (fun w' => SnG (qB b2 v2 m2) wr w') (with_reducible assumption) ((go_at_call 17; refine Calls.mono (HP.out _ (by first | rfl | exact hwr.out)) ?_; rintro e wx ⟨⟨z, rfl⟩, ox, tx⟩; have sx : SnG (qB b2 v2 m2) wr wx := ⟨((Touch.refl _ _).drew).trans tx⟩; have OX : Hid _ := ox; clear ox))
          go_wp2_with fail
          go_roundw
          case rel => exact ⟨j, rfl, OX.out⟩
          case measure => simp [intOf]
end Go.Proofs.Ytmdnlfbploaafaa
