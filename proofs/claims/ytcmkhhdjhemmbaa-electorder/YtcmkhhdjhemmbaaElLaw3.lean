
/- The walk of the statement: who is designated, and says so, stays. -/
import Derived.Test.YtcmkhhdjhemmbaaElLaw2
namespace Go.Proofs.Ytcmkhhdjhemmbaa
open Go.RowKit
set_option linter.unusedVariables false
set_option maxRecDepth 100000

theorem get_cons {s : VC} {l : List VC} {i : Nat} (h : i < l.length + 1) : ∃ x, (s :: l)[i]? = some x := ⟨_, List.getElem?_eq_getElem h⟩
theorem un_step {al : List VC} {m : Nat} {x y : VC} (h : ∀ (i : Nat) (z : VC), i < m → al[i]? = some z → z.ad ≠ x.ad) (hy : al[m]? = some y) (hq : ¬ y.ad = x.ad) : ∀ (i : Nat) (z : VC), i < m + 1 → al[i]? = some z → z.ad ≠ x.ad := fun i z hi hz => by
  by_cases e : i = m
  · subst e; rw [hy] at hz; cases hz; exact hq
  · exact h i z (by omega) hz
/-- It may be designated, and says so. -/
def mkS (x : VC) : Bool := x.el && (x.dr == x.ad)
/-- What is known of the first k of all: c is the last that says so, n of them do. -/
structure StF (al : List VC) (k c n : Nat) : Prop where
  ne : ∀ (i : Nat) (x : VC), i < k → al[i]? = some x → x.ad ≠ 0
  un : ∀ (i j : Nat) (x y : VC), i < j → j < k → al[i]? = some x → al[j]? = some y → x.ad ≠ y.ad
  zero : n = 0 → ∀ (i : Nat) (x : VC), i < k → al[i]? = some x → mkS x = false
  pos : 0 < n → c < k ∧ ∃ x, al[c]? = some x ∧ mkS x = true
  one : n = 1 → ∀ (i : Nat) (x : VC), i < k → al[i]? = some x → mkS x = true → i = c
theorem StF.start (al : List VC) : StF al 0 0 0 := ⟨fun i x h => by omega, fun i j x y h h2 => by omega, fun _ i x h => by omega, fun h => by omega, fun h => by omega⟩
theorem StF.step {al : List VC} {k c n : Nat} (h : StF al k c n) {x : VC} (hx : al[k]? = some x) (h0 : x.ad ≠ 0) (hu : ∀ (i : Nat) (y : VC), i < k → al[i]? = some y → y.ad ≠ x.ad) :
    (∀ (i : Nat) (y : VC), i < k + 1 → al[i]? = some y → y.ad ≠ 0) ∧ (∀ (i j : Nat) (y z : VC), i < j → j < k + 1 → al[i]? = some y → al[j]? = some z → y.ad ≠ z.ad) := by
  refine ⟨fun i y hi hy => ?_, fun i j y z hij hj hy hz => ?_⟩
  · by_cases e : i = k
    · subst e; rw [hx] at hy; cases hy; exact h0
    · exact h.ne i y (by omega) hy
  · by_cases e : j = k
    · subst e; rw [hx] at hz; cases hz; exact hu i y hij hy
    · exact h.un i j y z hij (by omega) hy hz
theorem StF.skip {al : List VC} {k c n : Nat} (h : StF al k c n) {x : VC} (hx : al[k]? = some x) (h0 : x.ad ≠ 0) (hu : ∀ (i : Nat) (y : VC), i < k → al[i]? = some y → y.ad ≠ x.ad) (hm : mkS x = false) : StF al (k + 1) c n := by
  obtain ⟨h1, h2⟩ := h.step hx h0 hu
  refine ⟨h1, h2, fun hn i y hi hy => ?_, fun hn => ?_, fun hn i y hi hy hmy => ?_⟩
  · by_cases e : i = k
    · subst e; rw [hx] at hy; cases hy; exact hm
    · exact h.zero hn i y (by omega) hy
  · obtain ⟨h3, h4⟩ := h.pos hn
    exact ⟨by omega, h4⟩
  · by_cases e : i = k
    · subst e; rw [hx] at hy; cases hy; rw [hm] at hmy; cases hmy
    · exact h.one hn i y (by omega) hy hmy
theorem StF.take {al : List VC} {k c n : Nat} (h : StF al k c n) {x : VC} (hx : al[k]? = some x) (h0 : x.ad ≠ 0) (hu : ∀ (i : Nat) (y : VC), i < k → al[i]? = some y → y.ad ≠ x.ad) (hm : mkS x = true) : StF al (k + 1) k (n + 1) := by
  obtain ⟨h1, h2⟩ := h.step hx h0 hu
  refine ⟨h1, h2, fun hn => by omega, fun hn => ⟨by omega, x, hx, hm⟩, fun hn i y hi hy hmy => ?_⟩
  by_cases e : i = k
  · exact e
  · have := h.zero (by omega) i y (by omega) hy
    rw [this] at hmy; cases hmy
theorem mkS_ch {x : VC} (h0 : x.ad ≠ 0) : (x.el && x.ch) = mkS x := by
  have e : (x.ad == x.dr) = (x.dr == x.ad) := beq_turn _ _
  have h0' : (x.ad == 0) = false := by simpa using h0
  simp only [mkS, VC.ch, VC.is, h0', Bool.not_false, Bool.true_and, e]
/-- .. of all: who says so is designated. -/
theorem StF.whole {s : VC} {l : List VC} {c : Nat} (h : StF (s :: l) (s :: l).length c 1) : ∃ x, (s :: l)[c]? = some x ∧ c < (s :: l).length ∧ elD s l = x.ad ∧ elB s l ≠ x.ad := by
  obtain ⟨hc, x, hx, hm⟩ := h.pos (by omega)
  have hne : ∀ v ∈ s :: l, v.ad ≠ 0 := fun v hv => by
    obtain ⟨i, hi, rfl⟩ := List.getElem_of_mem hv
    exact h.ne i _ hi (List.getElem?_eq_getElem hi)
  have hxm : x ∈ s :: l := List.mem_of_getElem? hx
  refine ⟨x, hx, hc, ?_⟩
  refine el_stays hxm (by rw [mkS_ch (hne x hxm)]; exact hm) (fun v hv hv2 => ?_) ?_ hne
  · obtain ⟨i, hi, rfl⟩ := List.getElem_of_mem hv
    rw [mkS_ch (hne _ hv)] at hv2
    have hic := h.one rfl i _ hi (List.getElem?_eq_getElem hi) hv2
    subst hic
    rw [List.getElem?_eq_getElem hi] at hx
    exact Option.some.inj hx
  · rw [List.pairwise_iff_getElem]
    intro i j hi hj hij
    exact h.un i j _ _ hij hj (List.getElem?_eq_getElem hi) (List.getElem?_eq_getElem hj)
structure StR (al : List VC) (N : Nat) (w1 : World) (gg : Nat) (s6 s7 s8 : Value) (wr : World) : Prop where
  out : ∃ k c n : Nat, k ≤ N ∧ N - k ≤ gg ∧ s8 = .int .i64 k ∧ s6 = .int .i64 c ∧ s7 = .int .i64 n ∧ n ≤ k ∧ StF al k c n ∧ Touch (fun _ => False) w1 wr
structure InR (al : List VC) (w1 : World) (k : Nat) (x : VC) (gg : Nat) (s9 : Value) (wr : World) : Prop where
  out : ∃ m : Nat, m ≤ k ∧ k - m ≤ gg ∧ s9 = .int .i64 m ∧ (∀ (i : Nat) (y : VC), i < m → al[i]? = some y → y.ad ≠ x.ad) ∧ Touch (fun _ => False) w1 wr
set_option maxHeartbeats 8000000 in
theorem estays_any (s : VC) (v : Value) (l : List VC) (w : World) (hs : s.Ok) (hv : VcsAt w v l) : CB 6 #[s.agg, v] true w := by
  unfold CB
  by_cases hn : l.length ≤ 300
  rotate_left
  · obtain ⟨va, vc, rfl, -⟩ := hv.form
    have hn' : (300 : Int) < (l.length : Int) := by omega
    clear hv hn
    go_enter Try.func6, Try.ntmps6
    go_wp2_with fail
    refine (works_any _).mono ?_
    rintro e wz ⟨rfl, tz⟩
    have T9 : Hid (Touch (fun _ => False) w wz) := ((Touch.refl _ w).alloc _).trans tz
    clear tz
    go_wp2_with fail
    go_ret
    exact ⟨rfl, T9.out⟩
  have hn' : ¬ (300 : Int) < (l.length : Int) := by omega
  have HCP := fun w' (t : Touch (fun _ => False) w w') => copied_any l v w' (hv.keep t) (by omega)
  have HL : Hid (∀ w' : World, VcsAt (w'.alloc (.cells #[.int .u32 s.r, .int .u32 s.ad, .int .u8 s.p, .int .u32 s.dr, .int .u32 s.bd] 33)) (.slice (some ⟨w'.heap.size, 0, none⟩) 1 1) [s]) := fun w' => VR.at (VR.lit 33 (Touch.refl _ w') [s] #[.int .u32 s.r, .int .u32 s.ad, .int .u8 s.p, .int .u32 s.dr, .int .u32 s.bd] (by simp [vcC, VC.cells]) (by simp)) (by simpa using hs)
  have HC1 := fun w' g (h : VcsAt w' (.slice (some ⟨g, 0, none⟩) 1 1) [s]) => copied_any [s] (.slice (some ⟨g, 0, none⟩) 1 1) w' h (by simp)
  have HEL := fun w' u (h : VcsAt w' u l) => elect_any s l u w' h hs (by omega)
  have HBX : Hid (∀ w', Touch (fun _ => False) (w.alloc (.cells #[.int .u32 s.r, .int .u32 s.ad, .int .u8 s.p, .int .u32 s.dr, .int .u32 s.bd] 33)) w' → VcD w' w.heap.size 0 s) := fun w' t => (dbox w s).keep t
  have HB0 : Hid (Touch (fun _ => False) w (w.alloc (.cells #[.int .u32 s.r, .int .u32 s.ad, .int .u8 s.p, .int .u32 s.dr, .int .u32 s.bd] 33))) := (Touch.refl _ w).alloc _
  have HOK : Hid (∀ x ∈ l, x.Ok) := hv.ok
  have HSK : Hid s.Ok := hs
  have HV : Hid (∀ w', Touch (fun _ => False) w w' → VcsAt w' v l) := fun w' t => hv.keep t
  obtain ⟨va, vc, rfl, -⟩ := hv.form
  have HWH : Hid (∀ c, StF (s :: l) (s :: l).length c 1 → ∃ x, (s :: l)[c]? = some x ∧ c < (s :: l).length ∧ elD s l = x.ad ∧ elB s l ≠ x.ad) := fun c h => h.whole
  generalize elD s l = D at *
  generalize elB s l = B at *
  have hn0 : (l.length : Int) ≤ 300 := by omega
  have HL1 : Hid (VR 33 (w.alloc (.cells #[.int .u32 s.r, .int .u32 s.ad, .int .u8 s.p, .int .u32 s.dr, .int .u32 s.bd] 33)) ((w.alloc (.cells #[.int .u32 s.r, .int .u32 s.ad, .int .u8 s.p, .int .u32 s.dr, .int .u32 s.bd] 33)).alloc (.cells #[.int .u32 s.r, .int .u32 s.ad, .int .u8 s.p, .int .u32 s.dr, .int .u32 s.bd] 33)) (.slice (some ⟨w.heap.size + 1, 0, none⟩) 1 1) [s]) := by
    have := VR.lit 33 (Touch.refl _ (w.alloc (.cells #[.int .u32 s.r, .int .u32 s.ad, .int .u8 s.p, .int .u32 s.dr, .int .u32 s.bd] 33))) [s] #[.int .u32 s.r, .int .u32 s.ad, .int .u8 s.p, .int .u32 s.dr, .int .u32 s.bd] (by simp [vcC, VC.cells]) (by simp)
    have e : (w.alloc (.cells #[.int .u32 s.r, .int .u32 s.ad, .int .u8 s.p, .int .u32 s.dr, .int .u32 s.bd] 33)).heap.size = w.heap.size + 1 := by simp
    rw [e] at this
    exact this
  have hnn : l.length ≤ 300 := hn
  clear hv hn hs
  go_enter Try.func6, Try.ntmps6
  go_wp2_with (first | (refine vcappD rfl (.tmp 18) (.tmp 19) rfl (w.alloc (.cells #[.int .u32 s.r, .int .u32 s.ad, .int .u8 s.p, .int .u32 s.dr, .int .u32 s.bd] 33)) _ [s] rfl HL1.out _ l rfl (HV.out _ (((Touch.refl _ w).alloc _).alloc _)) (by simp; omega) ?_; intro u1 w1 b1; have HU : Hid (VR 33 (w.alloc (.cells #[.int .u32 s.r, .int .u32 s.ad, .int .u8 s.p, .int .u32 s.dr, .int .u32 s.bd] 33)) w1 u1 (s :: l)) := b1; clear b1))
  obtain ⟨g, c, rfl, -, -⟩ := VR.slot HU.out (by simp)
  have HR : Hid (∀ w', Touch (fun _ => False) w1 w' → ∀ (j : Nat) (x : VC), (s :: l)[j]? = some x → VcD w' g (j * 5) x) := fun w' t j x hj => by
    obtain ⟨gR, off, cR, eR, -, -, hcell⟩ := (VR.at (VBuf.keep HU.out t) (by simpa using ⟨HSK.out, HOK.out⟩)).at (by simp)
    cases eR
    have := hcell j x hj
    rwa [Nat.zero_add] at this
  have TW1 : Hid (Touch (fun _ => False) (w.alloc (.cells #[.int .u32 s.r, .int .u32 s.ad, .int .u8 s.p, .int .u32 s.dr, .int .u32 s.bd] 33)) w1) := HU.out.t
  clear HL1 HV
  go_wp2_with fail
  go_loopg [6, 7, 8, 9] (l.length + 1) (fun gg s6 s7 s8 _ wr => StR (s :: l) (l.length + 1) w1 gg s6 s7 s8 wr)
  case atStart => exact ⟨0, 0, 0, by omega, by omega, rfl, rfl, rfl, by omega, StF.start _, Touch.refl _ _⟩
  case round =>
    obtain ⟨k, c0, n, hk, hg, rfl, rfl, rfl, hnk, stf, tr⟩ := hrel.out
    have TR : Hid (Touch (fun _ => False) w1 wr) := tr
    have HF : Hid (StF (s :: l) k c0 n) := stf
    clear hrel stf tr
    by_cases hlt : k < l.length + 1
    · have hlt' : (k : Int) < ((l.length : Int) + 1) := by omega
      have hk00 : (0 : Int) ≤ (k : Int) := by omega
      have hkw : wrap64 ((k : Int) + 1) = (k : Int) + 1 := by unfold wrap64; omega
      have hnw : wrap64 ((n : Int) + 1) = (n : Int) + 1 := by unfold wrap64; omega
      obtain ⟨x, hx⟩ : ∃ x, (s :: l)[k]? = some x := get_cons hlt
      have HX : Hid ((s :: l)[k]? = some x) := hx
      obtain ⟨e0, e1, e2, e3, e4⟩ := HR.out wr TR.out k x hx
      clear hx e0 e2 e3 e4
      by_cases hx0 : x.ad = 0
      · obtain ⟨r, ad, p, dr, bd⟩ := x
        simp only at hx0 e1
        subst hx0
        go_wp2_with fail
        refine (works_any _).mono ?_
        rintro e wz ⟨rfl, tz⟩
        have T9 : Hid (Touch (fun _ => False) w wz) := (HB0.out.trans (TW1.out.trans TR.out)).trans tz
        clear tz
        go_wp2_with fail
        go_ret
        exact ⟨rfl, T9.out⟩
      have hx0' : (x.ad == 0) = false := by simpa using hx0
      go_wp2_with fail
      clear e1
      go_loopg [9] k (fun gg s9 wr' => InR (s :: l) w1 k x gg s9 wr')
      case atStart => exact ⟨0, by omega, by omega, rfl, fun i y hi => by omega, TR.out⟩
      case round =>
        obtain ⟨m, hm, hgm, rfl, hum, trm⟩ := hrel.out
        have TM : Hid (Touch (fun _ => False) w1 _) := trm
        have HUM : Hid (∀ (i : Nat) (y : VC), i < m → (s :: l)[i]? = some y → y.ad ≠ x.ad) := hum
        clear hrel hum trm
        by_cases hmk : m < k
        · have hmk' : (m : Int) < (k : Int) := by omega
          have hm0 : (0 : Int) ≤ (m : Int) := by omega
          have hml : (m : Int) < ((l.length : Int) + 1) := by omega
          have hmw : wrap64 ((m : Int) + 1) = (m : Int) + 1 := by unfold wrap64; omega
          obtain ⟨y, hy⟩ : ∃ y, (s :: l)[m]? = some y := get_cons (Nat.lt_trans hmk hlt)
          have HY : Hid ((s :: l)[m]? = some y) := hy
          obtain ⟨y0, y1, y2, y3, y4⟩ := HR.out _ TM.out m y hy
          obtain ⟨e0, e1, e2, e3, e4⟩ := HR.out _ TM.out k x HX.out
          have d1 := aft_cell y1
          have c1 := aft_cell e1
          clear hy y0 y1 y2 y3 y4 e0 e1 e2 e3 e4
          by_cases hq : y.ad = x.ad
          · have hq' : (y.ad == x.ad) = true := by simpa using hq
            clear hq
            go_upto_region 15 with fail
            refine wp_region_aft (by kernel_rfl) (by kernel_rfl) ?_
            repeat (first | go_big_quiet_skip | (go_big_quiet_want; go_big_quiet_op; first | go_big_quiet_on | (refine Exists.intro _ ⟨fun _ => rfl, ?_⟩; go_big_quiet_on)))
            refine wpQuiet_nil ?_
            rintro wq ⟨⟨_, hgq⟩, rfl⟩
            have T3 : Hid (Touch (fun _ => False) w wq) := (HB0.out.trans (TW1.out.trans TM.out)).trans hgq
            clear hgq d1 c1
            go_wp2_with fail
            refine (works_any _).mono ?_
            rintro e wz ⟨rfl, tz⟩
            have T9 : Hid (Touch (fun _ => False) w wz) := T3.out.trans tz
            clear tz
            go_wp2_with fail
            go_ret
            exact ⟨rfl, T9.out⟩
          · have hq' : (y.ad == x.ad) = false := by simpa using hq
            have HU2 : Hid (∀ (i : Nat) (z : VC), i < m + 1 → (s :: l)[i]? = some z → z.ad ≠ x.ad) := un_step HUM.out HY.out hq
            clear hq
            go_upto_region 15 with fail
            refine wp_region_aft (by kernel_rfl) (by kernel_rfl) ?_
            repeat (first | go_big_quiet_skip | (go_big_quiet_want; go_big_quiet_op; first | go_big_quiet_on | (refine Exists.intro _ ⟨fun _ => rfl, ?_⟩; go_big_quiet_on)))
            refine wpQuiet_nil ?_
            rintro wq ⟨⟨_, hgq⟩, rfl⟩
            have T3 : Hid (Touch (fun _ => False) w1 wq) := TM.out.trans hgq
            clear hgq d1 c1 hnw hkw hml hlt' hx0 hx0' hn0
            go_wp2_with fail
            go_roundg (k - (m + 1))
            case measure => omega
            case rel => exact ⟨m + 1, by omega, by omega, by go_num, HU2.out, T3.out⟩
        · have hmk' : ¬ (m : Int) < (k : Int) := by omega
          obtain rfl : m = k := by omega
          obtain ⟨e0, e1, e2, e3, e4⟩ := HR.out _ TM.out m x HX.out
          have c1 := aft_cell e1
          have c2 := aft_cell e2
          have c3 := aft_cell e3
          clear e0 e1 e2 e3 e4
          by_cases hp : 0 < x.p
          · by_cases hd : x.dr = x.ad
            · have hd' : (x.dr == x.ad) = true := by simpa using hd
              have HN : Hid (StF (s :: l) (m + 1) m (n + 1)) := HF.out.take HX.out hx0 HUM.out (by simp [mkS, VC.el, hp, hd])
              clear hd
              go_upto_region 17 with fail
              refine wp_region_aft (by kernel_rfl) (by kernel_rfl) ?_
              repeat (first | go_big_quiet_skip | (go_big_quiet_want; go_big_quiet_op; first | go_big_quiet_on | (refine Exists.intro _ ⟨fun _ => rfl, ?_⟩; go_big_quiet_on)))
              refine wpQuiet_nil ?_
              rintro wq ⟨⟨_, hgq⟩, rfl⟩
              have T3 : Hid (Touch (fun _ => False) w1 wq) := TM.out.trans hgq
              clear hgq c1 c2 c3 hlt' hx0 hx0' hn0 hmk'
              go_wp2_with fail
              go_roundg (l.length + 1 - (m + 1))
              case measure => omega
              case rel => exact ⟨m + 1, m, n + 1, by omega, by omega, by go_num, rfl, by go_num, by omega, HN.out, T3.out⟩
            · have hd' : (x.dr == x.ad) = false := by simpa using hd
              have HN : Hid (StF (s :: l) (m + 1) c0 n) := HF.out.skip HX.out hx0 HUM.out (by simp [mkS, hd])
              clear hd
              go_upto_region 17 with fail
              refine wp_region_aft (by kernel_rfl) (by kernel_rfl) ?_
              repeat (first | go_big_quiet_skip | (go_big_quiet_want; go_big_quiet_op; first | go_big_quiet_on | (refine Exists.intro _ ⟨fun _ => rfl, ?_⟩; go_big_quiet_on)))
              refine wpQuiet_nil ?_
              rintro wq ⟨⟨_, hgq⟩, rfl⟩
              have T3 : Hid (Touch (fun _ => False) w1 wq) := TM.out.trans hgq
              clear hgq c1 c2 c3 hlt' hx0 hx0' hn0 hmk'
              go_wp2_with fail
              go_roundg (l.length + 1 - (m + 1))
              case measure => omega
              case rel => exact ⟨m + 1, c0, n, by omega, by omega, by go_num, rfl, rfl, by omega, HN.out, T3.out⟩
          · have HN : Hid (StF (s :: l) (m + 1) c0 n) := HF.out.skip HX.out hx0 HUM.out (by simp [mkS, VC.el, hp])
            have hp' : decide (0 < x.p) = false := by simpa using hp
            go_upto_region 17 with fail
            refine wp_region_aft (by kernel_rfl) (by kernel_rfl) ?_
            repeat (first | go_big_quiet_skip | (go_big_quiet_want; go_big_quiet_op; first | go_big_quiet_on | (refine Exists.intro _ ⟨fun _ => rfl, ?_⟩; go_big_quiet_on)))
            refine wpQuiet_nil ?_
            rintro wq ⟨⟨_, hgq⟩, rfl⟩
            have T3 : Hid (Touch (fun _ => False) w1 wq) := TM.out.trans hgq
            clear hgq c1 c2 c3 hlt' hx0 hx0' hn0 hmk' hnw
            go_wp2_with fail
            go_roundg (l.length + 1 - (m + 1))
            case measure => omega
            case rel => exact ⟨m + 1, c0, n, by omega, by omega, by go_num, rfl, rfl, by omega, HN.out, T3.out⟩
    · have hlt' : ¬ (k : Int) < ((l.length : Int) + 1) := by omega
      obtain rfl : k = l.length + 1 := by omega
      have TW : Hid (Touch (fun _ => False) (w.alloc (.cells #[.int .u32 s.r, .int .u32 s.ad, .int .u8 s.p, .int .u32 s.dr, .int .u32 s.bd] 33)) wr) := TW1.out.trans TR.out
      by_cases hn1 : n = 1
      · subst hn1
        obtain ⟨x, hx, hc0, hD, hB⟩ := HWH.out c0 HF.out
        subst hD
        have hB' : (B == x.ad) = false := by simpa using hB
        have hcl : (c0 : Int) < ((l.length : Int) + 1) := by simp at hc0; omega
        have hc00 : (0 : Int) ≤ (c0 : Int) := by omega
        have HXC : Hid (∀ w', Touch (fun _ => False) w1 w' → VcD w' g (c0 * 5) x) := fun w' t => HR.out w' t c0 x hx
        clear hx hc0 HWH HF HR hlt'
        go_wp2_with fail
        obtain ⟨a0, a1, a2, a3, a4⟩ := (HBX.out wr TW.out).open0
        have c0 := snT_cell a0
        have c1 := snT_cell a1
        have c2 := snT_cell a2
        have c3 := snT_cell a3
        have c4 := snT_cell a4
        clear a0 a1 a2 a3 a4
        go_upto_region 22 with fail
        refine wp_region_held_drew (S := fun w' => SnT wr w') (by kernel_rfl) ⟨(Touch.refl _ _).drew⟩ (fun hHeld => ?_)
        refine wpAnyH_take (i := 0) (oi := ⟨some 77, _, _, _, _, _⟩) (v := .agg #[.int .u32 s.r, .int .u32 s.ad, .int .u8 s.p, .int .u32 s.dr, .int .u32 s.bd]) rfl (by kernel_rfl) (by kernel_rfl) (by kernel_rfl) (fun _ _ _ h => h) (Or.inl ⟨by rfl, fun w hw => by go_simp⟩) (by assumption) ?_
        simp only [Act.put, List.setIfInBounds_toArray, List.set_cons_zero, List.set_cons_succ]
        refine wpAnyH_take (i := 5) (oi := ⟨some 82, _, _, _, _, _⟩) (v := .slice va l.length vc) rfl (by kernel_rfl) (by kernel_rfl) (by kernel_rfl) (fun _ _ _ h => h) (Or.inl ⟨by rfl, fun w hw => by go_simp⟩) (by assumption) ?_
        simp only [Act.put, List.setIfInBounds_toArray, List.set_cons_zero, List.set_cons_succ]
        refine wpAnyH_ready (rs := [1]) (by kernel_rfl) (by simp) ?_
        refine AllReadyH.cons (o := ⟨some 78, _, _, _, _, _⟩) rfl (fun K hK => ?_) AllReadyH.nil
        go_simp
        have hv1 : VcsAt (wr.alloc (.cells #[.int .u32 s.r, .int .u32 s.ad, .int .u8 s.p, .int .u32 s.dr, .int .u32 s.bd] 33)).drew (.slice (some ⟨wr.heap.size, 0, none⟩) 1 1) [s] := (HL.out wr).keep ((Touch.refl _ _).drew)
        have hs1 : SnT wr (wr.alloc (.cells #[.int .u32 s.r, .int .u32 s.ad, .int .u8 s.p, .int .u32 s.dr, .int .u32 s.bd] 33)).drew := ⟨((Touch.refl _ _).alloc _).drew⟩
        refine hK.out _ _ hs1 (fun hHeld => ?_)
        clear hK K
        generalize (wr.alloc (.cells #[.int .u32 s.r, .int .u32 s.ad, .int .u8 s.p, .int .u32 s.dr, .int .u32 s.bd] 33)).drew = wA at hv1 hs1 hHeld ⊢
        generalize wr.heap.size = gA at hv1 ⊢
        refine wpAnyH_ready (rs := [2]) (by kernel_rfl) (by simp) ?_
        refine AllReadyH.cons (o := ⟨some 79, _, _, _, _, _⟩) rfl (fun K hK => ?_) AllReadyH.nil
        go_simp
        refine Calls.mono (HC1 _ _ hv1) ?_
        rintro e wB ⟨uB, rfl, vrB⟩
        obtain ⟨gB, cB, rfl, -, -⟩ := VR.slot vrB (by simp)
        have hsB : SnT wr wB := ⟨hs1.t.trans vrB.t⟩
        have HVB : Hid (∀ w', Touch (fun _ => False) wB w' → VcsAt w' (.slice (some ⟨gB, 0, none⟩) [s].length cB) [s]) := fun w' t => VR.at (VBuf.keep vrB t) (by simpa using HSK.out)
        refine hK.out _ _ hsB (fun hHeld => ?_)
        clear hK K hv1 vrB
        refine wpAnyH_take (i := 3) (oi := ⟨some 80, _, _, _, _, _⟩) (v := .pointer (some ⟨gB, 0, none⟩)) rfl (by kernel_rfl) (by kernel_rfl) (by kernel_rfl) (fun _ _ _ h => h) (Or.inl ⟨by rfl, fun w hw => by go_simp <;> first | omega | (intro hh; omega)⟩) (by assumption) ?_
        simp only [Act.put, List.setIfInBounds_toArray, List.set_cons_zero, List.set_cons_succ]
        refine wpAnyH_ready (rs := [4, 6]) (by kernel_rfl) (by simp) ?_
        refine AllReadyH.cons (o := ⟨some 81, _, _, _, _, _⟩) rfl (fun K hK => ?_) (AllReadyH.cons (o := ⟨some 83, _, _, _, _, _⟩) rfl (fun K hK => ?_) AllReadyH.nil)
        · obtain ⟨b0, b1, b2, b3, b4⟩ := one_cells (HVB.out wB (Touch.refl _ _))
          go_simp
          refine hK.out _ _ hsB (fun hHeld => ?_)
          clear hK K b0 b1 b2 b3 b4
          refine wpAnyH_ready (rs := [6]) (by kernel_rfl) (by simp) ?_
          refine AllReadyH.cons (o := ⟨some 83, _, _, _, _, _⟩) rfl (fun K hK => ?_) AllReadyH.nil
          go_simp
          refine Calls.mono (HCP _ (HB0.out.trans (TW.out.trans hsB.t))) ?_
          rintro e wC ⟨uC, rfl, vrC⟩
          have hsC : SnT wr wC := ⟨hsB.t.trans vrC.t⟩
          have hvC : VcsAt wC uC l := VR.at vrC HOK.out
          refine hK.out _ _ hsC (fun hHeld => ?_)
          clear hK K vrC
          refine wpAnyH_ready (rs := [7]) (by kernel_rfl) (by simp) ?_
          refine AllReadyH.cons (o := ⟨some 84, _, _, _, _, _⟩) rfl (fun K hK => ?_) AllReadyH.nil
          go_simp
          refine (HEL _ _ hvC).mono ?_
          rintro e wE ⟨rfl, tE⟩
          have T5 : Hid (Touch (fun _ => False) w wE) := (HB0.out.trans (TW.out.trans hsC.t)).trans tE
          refine hK.out _ _ ⟨hsC.t.trans tE⟩ (fun hHeld => ?_)
          have TEE : Hid (Touch (fun _ => False) wC wE) := tE
          clear hK K tE
          refine wpAnyH_take (i := 8) (oi := ⟨some 76, _, _, _, _, _⟩) (v := .tuple #[.int .u32 x.ad, .int .u32 B]) rfl (by kernel_rfl) (by kernel_rfl) (by kernel_rfl) (fun _ _ _ h => h) (Or.inl ⟨by rfl, fun w hw => by go_simp⟩) (by assumption) ?_
          simp only [Act.put, List.setIfInBounds_toArray, List.set_cons_zero, List.set_cons_succ]
          refine wpAnyH_take (i := 9) (oi := ⟨some 85, _, _, _, _, _⟩) (v := .int .u32 x.ad) rfl (by kernel_rfl) (by kernel_rfl) (by kernel_rfl) (fun _ _ _ h => h) (Or.inl ⟨by rfl, fun w hw => by go_simp⟩) (by assumption) ?_
          simp only [Act.put, List.setIfInBounds_toArray, List.set_cons_zero, List.set_cons_succ]
          refine wpAnyH_take (i := 10) (oi := ⟨some 86, _, _, _, _, _⟩) (v := .int .u32 B) rfl (by kernel_rfl) (by kernel_rfl) (by kernel_rfl) (fun _ _ _ h => h) (Or.inl ⟨by rfl, fun w hw => by go_simp⟩) (by assumption) ?_
          simp only [Act.put, List.setIfInBounds_toArray, List.set_cons_zero, List.set_cons_succ]
          refine wpAnyH_take (i := 11) (oi := ⟨some 10, _, _, _, _, _⟩) (v := .int .u32 x.ad) rfl (by kernel_rfl) (by kernel_rfl) (by kernel_rfl) (fun _ _ _ h => h) (Or.inl ⟨by rfl, fun w hw => by go_simp⟩) (by assumption) ?_
          simp only [Act.put, List.setIfInBounds_toArray, List.set_cons_zero, List.set_cons_succ]
          refine wpAnyH_take (i := 12) (oi := ⟨some 11, _, _, _, _, _⟩) (v := .int .u32 B) rfl (by kernel_rfl) (by kernel_rfl) (by kernel_rfl) (fun _ _ _ h => h) (Or.inl ⟨by rfl, fun w hw => by go_simp⟩) (by assumption) ?_
          simp only [Act.put, List.setIfInBounds_toArray, List.set_cons_zero, List.set_cons_succ]
          refine wpAnyH_done (by kernel_rfl) ?_ _
          obtain ⟨e0, e1, e2, e3, e4⟩ := HXC.out wE (TR.out.trans (hsC.t.trans TEE.out))
          clear e0 e2 e3 e4
          go_wp2_with fail
          refine (works_any _).mono ?_
          rintro e wz ⟨rfl, tz⟩
          have T9 : Hid (Touch (fun _ => False) w wz) := T5.out.trans tz
          clear tz
          go_wp2_with fail
          go_ret
          exact ⟨ret_bool (bne_iff_ne.2 hB), T9.out⟩
        · go_simp
          refine Calls.mono (HCP _ (HB0.out.trans (TW.out.trans hsB.t))) ?_
          rintro e wC ⟨uC, rfl, vrC⟩
          have hsC : SnT wr wC := ⟨hsB.t.trans vrC.t⟩
          have hvC : VcsAt wC uC l := VR.at vrC HOK.out
          have tBC := vrC.t
          refine hK.out _ _ hsC (fun hHeld => ?_)
          clear hK K vrC
          obtain ⟨b0, b1, b2, b3, b4⟩ := one_cells (HVB.out wC tBC)
          clear tBC
          refine wpAnyH_ready (rs := [4]) (by kernel_rfl) (by simp) ?_
          refine AllReadyH.cons (o := ⟨some 81, _, _, _, _, _⟩) rfl (fun K hK => ?_) AllReadyH.nil
          go_simp
          refine hK.out _ _ hsC (fun hHeld => ?_)
          clear hK K b0 b1 b2 b3 b4
          refine wpAnyH_ready (rs := [7]) (by kernel_rfl) (by simp) ?_
          refine AllReadyH.cons (o := ⟨some 84, _, _, _, _, _⟩) rfl (fun K hK => ?_) AllReadyH.nil
          go_simp
          refine (HEL _ _ hvC).mono ?_
          rintro e wE ⟨rfl, tE⟩
          have T5 : Hid (Touch (fun _ => False) w wE) := (HB0.out.trans (TW.out.trans hsC.t)).trans tE
          refine hK.out _ _ ⟨hsC.t.trans tE⟩ (fun hHeld => ?_)
          have TEE : Hid (Touch (fun _ => False) wC wE) := tE
          clear hK K tE
          refine wpAnyH_take (i := 8) (oi := ⟨some 76, _, _, _, _, _⟩) (v := .tuple #[.int .u32 x.ad, .int .u32 B]) rfl (by kernel_rfl) (by kernel_rfl) (by kernel_rfl) (fun _ _ _ h => h) (Or.inl ⟨by rfl, fun w hw => by go_simp⟩) (by assumption) ?_
          simp only [Act.put, List.setIfInBounds_toArray, List.set_cons_zero, List.set_cons_succ]
          refine wpAnyH_take (i := 9) (oi := ⟨some 85, _, _, _, _, _⟩) (v := .int .u32 x.ad) rfl (by kernel_rfl) (by kernel_rfl) (by kernel_rfl) (fun _ _ _ h => h) (Or.inl ⟨by rfl, fun w hw => by go_simp⟩) (by assumption) ?_
          simp only [Act.put, List.setIfInBounds_toArray, List.set_cons_zero, List.set_cons_succ]
          refine wpAnyH_take (i := 10) (oi := ⟨some 86, _, _, _, _, _⟩) (v := .int .u32 B) rfl (by kernel_rfl) (by kernel_rfl) (by kernel_rfl) (fun _ _ _ h => h) (Or.inl ⟨by rfl, fun w hw => by go_simp⟩) (by assumption) ?_
          simp only [Act.put, List.setIfInBounds_toArray, List.set_cons_zero, List.set_cons_succ]
          refine wpAnyH_take (i := 11) (oi := ⟨some 10, _, _, _, _, _⟩) (v := .int .u32 x.ad) rfl (by kernel_rfl) (by kernel_rfl) (by kernel_rfl) (fun _ _ _ h => h) (Or.inl ⟨by rfl, fun w hw => by go_simp⟩) (by assumption) ?_
          simp only [Act.put, List.setIfInBounds_toArray, List.set_cons_zero, List.set_cons_succ]
          refine wpAnyH_take (i := 12) (oi := ⟨some 11, _, _, _, _, _⟩) (v := .int .u32 B) rfl (by kernel_rfl) (by kernel_rfl) (by kernel_rfl) (fun _ _ _ h => h) (Or.inl ⟨by rfl, fun w hw => by go_simp⟩) (by assumption) ?_
          simp only [Act.put, List.setIfInBounds_toArray, List.set_cons_zero, List.set_cons_succ]
          refine wpAnyH_done (by kernel_rfl) ?_ _
          obtain ⟨e0, e1, e2, e3, e4⟩ := HXC.out wE (TR.out.trans (hsC.t.trans TEE.out))
          clear e0 e2 e3 e4
          go_wp2_with fail
          refine (works_any _).mono ?_
          rintro e wz ⟨rfl, tz⟩
          have T9 : Hid (Touch (fun _ => False) w wz) := T5.out.trans tz
          clear tz
          go_wp2_with fail
          go_ret
          exact ⟨ret_bool (bne_iff_ne.2 hB), T9.out⟩
      · have hn1' : ((n : Int) == 1) = false := by simp; omega
        clear HWH HF HR
        go_wp2_with fail
        refine (works_any _).mono ?_
        rintro e wz ⟨rfl, tz⟩
        have T9 : Hid (Touch (fun _ => False) w wz) := (HB0.out.trans TW.out).trans tz
        clear tz
        go_wp2_with fail
        go_ret
        exact ⟨rfl, T9.out⟩
end Go.Proofs.Ytcmkhhdjhemmbaa
