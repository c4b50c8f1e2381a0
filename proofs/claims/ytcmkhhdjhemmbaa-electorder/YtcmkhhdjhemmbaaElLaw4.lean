
/- The walk of the statement: the order in which others are heard is no matter. -/
import Derived.Test.YtcmkhhdjhemmbaaElLaw3
namespace Go.Proofs.Ytcmkhhdjhemmbaa
open Go.RowKit
set_option linter.unusedVariables false
set_option maxRecDepth 100000

theorem vcC_drop (l : List VC) (k j : Nat) : (vcC (l.drop k))[j]? = (vcC l)[k * 5 + j]? := by
  have e : vcC l = vcC (l.take k) ++ vcC (l.drop k) := by rw [← vcC_append, List.take_append_drop]
  rcases Nat.lt_or_ge l.length k with h | h
  · rw [List.drop_of_length_le (by omega)]
    have : (vcC l).length ≤ k * 5 + j := by rw [length_vcC]; omega
    rw [List.getElem?_eq_none this]
    rfl
  · have hl : (vcC (l.take k)).length = k * 5 := by rw [length_vcC, List.length_take]; omega
    rw [e, List.getElem?_append_right (by omega), hl, Nat.add_sub_cancel_left]
/-- l[i:]. -/
theorem vcut_from {w : World} {va : Option Addr} {vc n : Nat} {l : List VC} (h : VcsAt w (.slice va n vc) l) (hn : n = l.length) (i : Nat) (hi : i < n) :
    ∃ v, (∀ w, Sem.run Try.prog (Instr.slice 22 (.slice va n vc) (some (.int .i64 (i : Int))) none none) w = .ok v w) ∧ VcsAt w v (l.drop i) := by
  subst hn
  obtain ⟨g, off, c, e, h1, h2, hcell⟩ := h.vals.cells (by omega) (by omega)
  cases e
  have hc2' : (vc : Int) ≤ 9223372036854775807 := by unfold maxLen at h2; omega
  have h0 : (0 : Int) ≤ (i : Int) := by omega
  have h3 : (l.length : Int) ≤ (vc : Int) := by omega
  have hz : ¬ vc = i := by omega
  refine ⟨.slice (some ⟨g, off + i * 5, none⟩) (l.length - i) (vc - i), fun w => ?_, ⟨?_, fun x hx => h.ok x (List.mem_of_mem_drop hx)⟩⟩
  · simp [Instr.slice, Instr.sliceBounds, Instr.sliceBound, go_sem, h0, hz]
    intro hh
    omega
  · refine ⟨by rw [length_vcC], Or.inr ⟨⟨g, off + i * 5, none⟩, vc - i, by rw [List.length_drop], by rw [List.length_drop]; omega, by omega, fun j u hj => ?_⟩⟩
    rw [add_plain, Nat.add_assoc]
    exact hcell _ u (by rw [← vcC_drop]; exact hj)
/-- l[:i]. -/
theorem vcut_to {w : World} {va : Option Addr} {vc n : Nat} {l : List VC} (h : VcsAt w (.slice va n vc) l) (hn : n = l.length) (i : Nat) (hi : i < n) :
    ∃ v, (∀ w, Sem.run Try.prog (Instr.slice 22 (.slice va n vc) none (some (.int .i64 (i : Int))) none) w = .ok v w) ∧ VcsAt w v (l.take i) := by
  subst hn
  obtain ⟨g, off, c, e, h1, h2, hcell⟩ := h.vals.cells (by omega) (by omega)
  cases e
  have hc2' : (vc : Int) ≤ 9223372036854775807 := by unfold maxLen at h2; omega
  have h0 : (0 : Int) ≤ (i : Int) := by omega
  have h3 : (l.length : Int) ≤ (vc : Int) := by omega
  refine ⟨.slice (some ⟨g, off, none⟩) i vc, fun w => ?_, ⟨?_, fun x hx => h.ok x (List.mem_of_mem_take hx)⟩⟩
  · simp [Instr.slice, Instr.sliceBounds, Instr.sliceBound, go_sem, h0]
    intro hh
    omega
  · refine ⟨by rw [length_vcC], Or.inr ⟨⟨g, off, none⟩, vc, by rw [List.length_take, Nat.min_eq_left (by omega)], by rw [List.length_take]; omega, h2, fun j u hj => ?_⟩⟩
    rw [add_plain]
    have e : vcC l = vcC (l.take i) ++ vcC (l.drop i) := by rw [← vcC_append, List.take_append_drop]
    exact hcell j u (by rw [e, List.getElem?_append_left (List.getElem?_eq_some_iff.mp hj).1]; exact hj)
/-- What is known of the first k: unlike routers. -/
structure OrF (s : VC) (l : List VC) (k : Nat) : Prop where
  ne : ∀ (i : Nat) (x : VC), i < k → l[i]? = some x → x.r ≠ s.r
  un : ∀ (i j : Nat) (x y : VC), i < j → j < k → l[i]? = some x → l[j]? = some y → x.r ≠ y.r
theorem OrF.start (s : VC) (l : List VC) : OrF s l 0 := ⟨fun i x h => by omega, fun i j x y h h2 => by omega⟩
theorem OrF.step {s : VC} {l : List VC} {k : Nat} (h : OrF s l k) {x : VC} (hx : l[k]? = some x) (h0 : ¬ x.r = s.r) (hu : ∀ (i : Nat) (y : VC), i < k → l[i]? = some y → y.r ≠ x.r) : OrF s l (k + 1) := by
  refine ⟨fun i y hi hy => ?_, fun i j y z hij hj hy hz => ?_⟩
  · by_cases e : i = k
    · subst e; rw [hx] at hy; cases hy; exact h0
    · exact h.ne i y (by omega) hy
  · by_cases e : j = k
    · subst e; rw [hx] at hz; cases hz; exact hu i y hij hy
    · exact h.un i j y z hij (by omega) hy hz
theorem OrF.whole {s : VC} {l : List VC} (h : OrF s l l.length) (k : Nat) : elD s l = elD s (l.drop k ++ l.take k) ∧ elB s l = elB s (l.drop k ++ l.take k) := by
  refine el_mem (fun v => ?_) (pair_r ?_) (fun v hv => ?_)
  · rw [List.mem_append, or_comm, ← List.mem_append, List.take_append_drop]
  · rw [List.pairwise_iff_getElem]
    intro i j hi hj hij
    exact h.un i j _ _ hij hj (List.getElem?_eq_getElem hi) (List.getElem?_eq_getElem hj)
  · obtain ⟨i, hi, rfl⟩ := List.getElem_of_mem hv
    exact h.ne i _ hi (List.getElem?_eq_getElem hi)
theorem ur_step {al : List VC} {m : Nat} {x y : VC} (h : ∀ (i : Nat) (z : VC), i < m → al[i]? = some z → z.r ≠ x.r) (hy : al[m]? = some y) (hq : ¬ y.r = x.r) : ∀ (i : Nat) (z : VC), i < m + 1 → al[i]? = some z → z.r ≠ x.r := fun i z hi hz => by
  by_cases e : i = m
  · subst e; rw [hy] at hz; cases hz; exact hq
  · exact h i z (by omega) hz
theorem get_l {l : List VC} {i : Nat} (h : i < l.length) : ∃ x, l[i]? = some x := ⟨_, List.getElem?_eq_getElem h⟩
structure OrR (s : VC) (l : List VC) (w1 : World) (gg : Nat) (s7 : Value) (wr : World) : Prop where
  out : ∃ k : Nat, k ≤ l.length ∧ l.length - k ≤ gg ∧ s7 = .int .i64 k ∧ OrF s l k ∧ Touch (fun _ => False) w1 wr
structure OiR (l : List VC) (w1 : World) (k : Nat) (x : VC) (gg : Nat) (s8 : Value) (wr : World) : Prop where
  out : ∃ m : Nat, m ≤ k ∧ k - m ≤ gg ∧ s8 = .int .i64 m ∧ (∀ (i : Nat) (y : VC), i < m → l[i]? = some y → y.r ≠ x.r) ∧ Touch (fun _ => False) w1 wr
set_option maxHeartbeats 8000000 in
theorem eorder_any (s : VC) (v : Value) (l : List VC) (by8 : Int) (w : World) (hs : s.Ok) (hv : VcsAt w v l) (hb0 : 0 ≤ by8) (hb1 : by8 < 256) : CB 7 #[s.agg, v, .int .u8 by8] true w := by
  unfold CB
  by_cases hn : l.length ≤ 300
  rotate_left
  · obtain ⟨va, vc, rfl, -⟩ := hv.form
    have hn' : (300 : Int) < (l.length : Int) := by omega
    clear hv hn
    go_enter Try.func7, Try.ntmps7
    go_wp2_with fail
    refine (works_any _).mono ?_
    rintro e wz ⟨rfl, tz⟩
    have T9 : Hid (Touch (fun _ => False) w wz) := ((Touch.refl _ w).alloc _).trans tz
    clear tz
    go_wp2_with fail
    go_ret
    exact ⟨rfl, T9.out⟩
  have hn' : ¬ (300 : Int) < (l.length : Int) := by omega
  by_cases hz : l.length = 0
  · obtain ⟨va, vc, rfl, -⟩ := hv.form
    rw [hz]
    clear hv hn hn' hz
    go_enter Try.func7, Try.ntmps7
    go_wp2_with fail
    refine (works_any _).mono ?_
    rintro e wz ⟨rfl, tz⟩
    have T9 : Hid (Touch (fun _ => False) w wz) := ((Touch.refl _ w).alloc _).trans tz
    clear tz
    go_wp2_with fail
    go_ret
    exact ⟨rfl, T9.out⟩
  have hz' : ((l.length : Int) == 0) = false := by simp; intro h; exact hz (by simp [h])
  have HCP := fun w' (t : Touch (fun _ => False) w w') => copied_any l v w' (hv.keep t) (by omega)
  have HCL := fun w' u m (h : VcsAt w' u m) (hm : m.length ≤ 1000) => copied_any m u w' h hm
  have HL : Hid (∀ w' : World, VcsAt (w'.alloc (.cells #[.int .u32 s.r, .int .u32 s.ad, .int .u8 s.p, .int .u32 s.dr, .int .u32 s.bd] 33)) (.slice (some ⟨w'.heap.size, 0, none⟩) 1 1) [s]) := fun w' => VR.at (VR.lit 33 (Touch.refl _ w') [s] #[.int .u32 s.r, .int .u32 s.ad, .int .u8 s.p, .int .u32 s.dr, .int .u32 s.bd] (by simp [vcC, VC.cells]) (by simp)) (by simpa using hs)
  have HC1 := fun w' g (h : VcsAt w' (.slice (some ⟨g, 0, none⟩) 1 1) [s]) => copied_any [s] (.slice (some ⟨g, 0, none⟩) 1 1) w' h (by simp)
  have HEL := fun w' u (h : VcsAt w' u l) => elect_any s l u w' h hs (by omega)
  have HBX : Hid (∀ w', Touch (fun _ => False) (w.alloc (.cells #[.int .u32 s.r, .int .u32 s.ad, .int .u8 s.p, .int .u32 s.dr, .int .u32 s.bd] 33)) w' → VcD w' w.heap.size 0 s) := fun w' t => (dbox w s).keep t
  have HB0 : Hid (Touch (fun _ => False) w (w.alloc (.cells #[.int .u32 s.r, .int .u32 s.ad, .int .u8 s.p, .int .u32 s.dr, .int .u32 s.bd] 33))) := (Touch.refl _ w).alloc _
  have HOK : Hid (∀ x ∈ l, x.Ok) := hv.ok
  have HSK : Hid s.Ok := hs
  have HV : Hid (∀ w', Touch (fun _ => False) w w' → VcsAt w' v l) := fun w' t => hv.keep t
  obtain ⟨va, vc, rfl, -⟩ := hv.form
  obtain ⟨kb, hkb⟩ : ∃ kb : Nat, kb = by8.toNat % l.length := ⟨_, rfl⟩
  have hkl : kb < l.length := by rw [hkb]; exact Nat.mod_lt _ (by omega)
  have hkm : by8.tmod (l.length : Int) = (kb : Int) := by
    have e : by8 = (by8.toNat : Int) := (Int.toNat_of_nonneg hb0).symm
    rw [hkb]
    generalize by8.toNat = bn at e
    subst e
    rfl
  obtain ⟨vF, HrF, hvF⟩ := vcut_from hv rfl kb hkl
  obtain ⟨vT, HrT, hvT⟩ := vcut_to hv rfl kb hkl
  have HVF : Hid (∀ w', Touch (fun _ => False) w w' → VcsAt w' vF (l.drop kb)) := fun w' t => hvF.keep t
  have HVT : Hid (∀ w', Touch (fun _ => False) w w' → VcsAt w' vT (l.take kb)) := fun w' t => hvT.keep t
  have HRF : Hid (∀ w, Sem.run Try.prog (Instr.slice 22 (.slice va l.length vc) (some (.int .i64 (kb : Int))) none none) w = .ok vF w) := HrF
  have HRT : Hid (∀ w, Sem.run Try.prog (Instr.slice 22 (.slice va l.length vc) none (some (.int .i64 (kb : Int))) none) w = .ok vT w) := HrT
  have hlF : (l.drop kb).length ≤ 300 := by rw [List.length_drop]; omega
  have hlT : (l.take kb).length ≤ 300 := by rw [List.length_take]; omega
  have HOK2 : Hid (∀ x ∈ l.drop kb ++ l.take kb, x.Ok) := fun x hx => by
    rcases List.mem_append.1 hx with h | h
    · exact HOK.out x (List.mem_of_mem_drop h)
    · exact HOK.out x (List.mem_of_mem_take h)
  have HEL2 := fun w' u (h : VcsAt w' u (l.drop kb ++ l.take kb)) => elect_any s (l.drop kb ++ l.take kb) u w' h hs (by rw [List.length_append]; omega)
  have HWH : Hid (OrF s l l.length → elD s l = elD s (l.drop kb ++ l.take kb) ∧ elB s l = elB s (l.drop kb ++ l.take kb)) := fun h => h.whole kb
  generalize elD s l = D at *
  generalize elB s l = B at *
  generalize elD s (l.drop kb ++ l.take kb) = D2 at *
  generalize elB s (l.drop kb ++ l.take kb) = B2 at *
  have HKM : Hid (by8.tmod (l.length : Int) = (kb : Int)) := hkm
  have HB8 : Hid (0 ≤ by8 ∧ by8 < 256) := ⟨hb0, hb1⟩
  have HKL : Hid (kb < l.length) := hkl
  have HLF : Hid ((l.drop kb).length ≤ 300 ∧ (l.take kb).length ≤ 300 ∧ l.length ≤ 300 ∧ l.length ≠ 0) := ⟨hlF, hlT, hn, hz⟩
  clear hv hn hs hkb HrF HrT hvF hvT hz hkm hb0 hb1 hkl hlF hlT
  go_enter Try.func7, Try.ntmps7
  go_wp2_with fail
  go_loopg [7, 8] l.length (fun gg s7 _ wr => OrR s l (w.alloc (.cells #[.int .u32 s.r, .int .u32 s.ad, .int .u8 s.p, .int .u32 s.dr, .int .u32 s.bd] 33)) gg s7 wr)
  case atStart => exact ⟨0, by omega, by omega, rfl, OrF.start _ _, Touch.refl _ _⟩
  case round =>
    obtain ⟨k, hk, hg, rfl, orf, tr⟩ := hrel.out
    have TR : Hid (Touch (fun _ => False) (w.alloc (.cells #[.int .u32 s.r, .int .u32 s.ad, .int .u8 s.p, .int .u32 s.dr, .int .u32 s.bd] 33)) wr) := tr
    have HF : Hid (OrF s l k) := orf
    clear hrel orf tr
    by_cases hlt : k < l.length
    · have hlt' : (k : Int) < (l.length : Int) := by omega
      have hk00 : (0 : Int) ≤ (k : Int) := by omega
      have hkw : wrap64 ((k : Int) + 1) = (k : Int) + 1 := by have := HLF.out.2.2.1; unfold wrap64; omega
      obtain ⟨x, hx⟩ : ∃ x, l[k]? = some x := get_l hlt
      have HX : Hid (l[k]? = some x) := hx
      obtain ⟨gR, off, cR, eR, -, -, hcell⟩ := (HV.out wr (HB0.out.trans TR.out)).at (by omega)
      have HR : Hid (∀ w', Touch (fun _ => False) (w.alloc (.cells #[.int .u32 s.r, .int .u32 s.ad, .int .u8 s.p, .int .u32 s.dr, .int .u32 s.bd] 33)) w' → ∀ (j : Nat) (y : VC), l[j]? = some y → VcD w' gR (off + j * 5) y) := fun w' t j y hj => by
        obtain ⟨g', off', c', e', -, -, hc'⟩ := (HV.out w' (HB0.out.trans t)).at (by omega)
        rw [eR] at e'
        cases e'
        exact hc' j y hj
      cases eR
      obtain ⟨e0, -, -, -, -⟩ := hcell k x hx
      obtain ⟨s0, -, -, -, -⟩ := (HBX.out wr TR.out).open0
      have c0 := aft_cell e0
      have d0 := aft_cell s0
      clear hx hcell e0 s0
      by_cases hx0 : x.r = s.r
      · have hx0' : (x.r == s.r) = true := by simpa using hx0
        clear hx0
        go_wp2_with fail
        refine wp_region_aft (by kernel_rfl) (by kernel_rfl) ?_
        repeat (first | go_big_quiet_skip | (go_big_quiet_want; go_big_quiet_op; first | go_big_quiet_on | (refine Exists.intro _ ⟨fun _ => rfl, ?_⟩; go_big_quiet_on)))
        refine wpQuiet_nil ?_
        rintro wq ⟨⟨_, hgq⟩, rfl⟩
        have T3 : Hid (Touch (fun _ => False) w wq) := (HB0.out.trans TR.out).trans hgq
        clear hgq c0 d0
        go_wp2_with fail
        refine (works_any _).mono ?_
        rintro e wz ⟨rfl, tz⟩
        have T9 : Hid (Touch (fun _ => False) w wz) := T3.out.trans tz
        clear tz
        go_wp2_with fail
        go_ret
        exact ⟨rfl, T9.out⟩
      have hx0' : (x.r == s.r) = false := by simpa using hx0
      go_wp2_with fail
      refine wp_region_aft (by kernel_rfl) (by kernel_rfl) ?_
      repeat (first | go_big_quiet_skip | (go_big_quiet_want; go_big_quiet_op; first | go_big_quiet_on | (refine Exists.intro _ ⟨fun _ => rfl, ?_⟩; go_big_quiet_on)))
      refine wpQuiet_nil ?_
      rintro wq ⟨⟨_, hgq⟩, rfl⟩
      have TQ : Hid (Touch (fun _ => False) (w.alloc (.cells #[.int .u32 s.r, .int .u32 s.ad, .int .u8 s.p, .int .u32 s.dr, .int .u32 s.bd] 33)) wq) := TR.out.trans hgq
      clear hgq c0 d0 hx0'
      go_wp2_with fail
      go_loopg [8] k (fun gg s8 wr' => OiR l (w.alloc (.cells #[.int .u32 s.r, .int .u32 s.ad, .int .u8 s.p, .int .u32 s.dr, .int .u32 s.bd] 33)) k x gg s8 wr')
      case atStart => exact ⟨0, by omega, by omega, rfl, fun i y hi => by omega, TQ.out⟩
      case round =>
        obtain ⟨m, hm, hgm, rfl, hum, trm⟩ := hrel.out
        have TM : Hid (Touch (fun _ => False) (w.alloc (.cells #[.int .u32 s.r, .int .u32 s.ad, .int .u8 s.p, .int .u32 s.dr, .int .u32 s.bd] 33)) _) := trm
        have HUM : Hid (∀ (i : Nat) (y : VC), i < m → l[i]? = some y → y.r ≠ x.r) := hum
        clear hrel hum trm
        by_cases hmk : m < k
        · have hmk' : (m : Int) < (k : Int) := by omega
          have hm0 : (0 : Int) ≤ (m : Int) := by omega
          have hml : (m : Int) < (l.length : Int) := by omega
          have hmw : wrap64 ((m : Int) + 1) = (m : Int) + 1 := by have := HLF.out.2.2.1; unfold wrap64; omega
          obtain ⟨y, hy⟩ : ∃ y, l[m]? = some y := get_l (Nat.lt_trans hmk hlt)
          have HY : Hid (l[m]? = some y) := hy
          obtain ⟨y0, -, -, -, -⟩ := HR.out _ TM.out m y hy
          obtain ⟨e0, -, -, -, -⟩ := HR.out _ TM.out k x HX.out
          have d0 := aft_cell y0
          have c0 := aft_cell e0
          clear hy y0 e0
          by_cases hq : y.r = x.r
          · have hq' : (y.r == x.r) = true := by simpa using hq
            clear hq
            go_wp2_with fail
            refine wp_region_aft (by kernel_rfl) (by kernel_rfl) ?_
            repeat (first | go_big_quiet_skip | (go_big_quiet_want; go_big_quiet_op; first | go_big_quiet_on | (refine Exists.intro _ ⟨fun _ => rfl, ?_⟩; go_big_quiet_on)))
            refine wpQuiet_nil ?_
            rintro wq ⟨⟨_, hgq⟩, rfl⟩
            have T3 : Hid (Touch (fun _ => False) w wq) := (HB0.out.trans TM.out).trans hgq
            clear hgq d0 c0
            go_wp2_with fail
            refine (works_any _).mono ?_
            rintro e wz ⟨rfl, tz⟩
            have T9 : Hid (Touch (fun _ => False) w wz) := T3.out.trans tz
            clear tz
            go_wp2_with fail
            go_ret
            exact ⟨rfl, T9.out⟩
          · have hq' : (y.r == x.r) = false := by simpa using hq
            have HU2 : Hid (∀ (i : Nat) (z : VC), i < m + 1 → l[i]? = some z → z.r ≠ x.r) := ur_step HUM.out HY.out hq
            clear hq
            go_wp2_with fail
            refine wp_region_aft (by kernel_rfl) (by kernel_rfl) ?_
            repeat (first | go_big_quiet_skip | (go_big_quiet_want; go_big_quiet_op; first | go_big_quiet_on | (refine Exists.intro _ ⟨fun _ => rfl, ?_⟩; go_big_quiet_on)))
            refine wpQuiet_nil ?_
            rintro wq ⟨⟨_, hgq⟩, rfl⟩
            have T3 : Hid (Touch (fun _ => False) (w.alloc (.cells #[.int .u32 s.r, .int .u32 s.ad, .int .u8 s.p, .int .u32 s.dr, .int .u32 s.bd] 33)) wq) := TM.out.trans hgq
            clear hgq d0 c0 hkw hml hlt' hx0 hn' hz' hk00
            go_wp2_with fail
            go_roundg (k - (m + 1))
            case measure => omega
            case rel => exact ⟨m + 1, by omega, by omega, by go_num, HU2.out, T3.out⟩
        · have hmk' : ¬ (m : Int) < (k : Int) := by omega
          obtain rfl : m = k := by omega
          have HN : Hid (OrF s l (m + 1)) := HF.out.step HX.out hx0 HUM.out
          clear hlt' hx0 hn' hz'
          go_wp2_with fail
          go_roundg (l.length - (m + 1))
          case measure => omega
          case rel => exact ⟨m + 1, by omega, by omega, by go_num, HN.out, TM.out⟩
    · have hlt' : ¬ (k : Int) < (l.length : Int) := by omega
      obtain rfl : k = l.length := by omega
      obtain ⟨hD, hB⟩ := HWH.out HF.out
      subst hD hB
      have hrF := HRF.out
      have hrT := HRT.out
      have hkm := HKM.out
      obtain ⟨hlF, hlT, hn, hz⟩ := HLF.out
      obtain ⟨hb0, hb1⟩ := HB8.out
      have hkl := HKL.out
      have hl0 : (0 : Int) < (l.length : Int) := by omega
      have hlne : ¬ (l.length : Int) = 0 := by omega
      clear HWH HF
      go_wp2_with fail
      refine Calls.mono (HCL _ vF (l.drop kb) (HVF.out wr (HB0.out.trans TR.out)) (by omega)) ?_
      rintro e wF ⟨uF, rfl, vrF⟩
      have VF : Hid (VR 35 wr wF uF (l.drop kb)) := vrF
      obtain ⟨fa, fc, ef⟩ := vrF.form
      rw [List.length_drop] at ef
      subst ef
      clear vrF hrF
      go_wp2_with fail
      refine Calls.mono (HCL _ vT (l.take kb) (HVT.out wF (HB0.out.trans (TR.out.trans VF.out.t))) (by omega)) ?_
      rintro e wT ⟨uT, rfl, vrT⟩
      have VT : Hid (VR 35 wF wT uT (l.take kb)) := vrT
      obtain ⟨ta, tc, et⟩ := vrT.form
      rw [List.length_take, Nat.min_eq_left (by omega)] at et
      subst et
      have HO3 : Hid (∀ x ∈ l.take kb, x.Ok) := fun x hx => HOK.out x (List.mem_of_mem_take hx)
      clear vrT hrT
      go_wp2_with (first | (refine vcappE rfl (.tmp 65) (.tmp 69) rfl wr _ (l.drop kb) rfl (VBuf.keep VF.out VT.out.t) _ (l.take kb) rfl (VR.at VT.out HO3.out) (by omega) ?_; intro u2 W b2; have HU2 : Hid (VR 35 wr W u2 (l.drop kb ++ l.take kb)) := b2; clear b2))
      have TW : Hid (Touch (fun _ => False) (w.alloc (.cells #[.int .u32 s.r, .int .u32 s.ad, .int .u8 s.p, .int .u32 s.dr, .int .u32 s.bd] 33)) W) := TR.out.trans HU2.out.t
      clear hlt' hkm hlF hlT hn hz hb0 hb1 hkl hl0 hlne hk hg hlt hz' VF VT HV HVF HVT HRF HRT HKM HLF HB8 HKL
      obtain ⟨a0, a1, a2, a3, a4⟩ := (HBX.out W TW.out).open0
      have c0 := snT_cell a0
      have c1 := snT_cell a1
      have c2 := snT_cell a2
      have c3 := snT_cell a3
      have c4 := snT_cell a4
      clear a0 a1 a2 a3 a4
      go_upto_region 16 with fail
      refine wp_region_held_drew (S := fun w' => SnT W w') (by kernel_rfl) ⟨(Touch.refl _ _).drew⟩ (fun hHeld => ?_)
      refine wpAnyH_take (i := 0) (oi := ⟨some 72, _, _, _, _, _⟩) (v := .agg #[.int .u32 s.r, .int .u32 s.ad, .int .u8 s.p, .int .u32 s.dr, .int .u32 s.bd]) rfl (by kernel_rfl) (by kernel_rfl) (by kernel_rfl) (fun _ _ _ h => h) (Or.inl ⟨by rfl, fun w hw => by go_simp⟩) (by assumption) ?_
      simp only [Act.put, List.setIfInBounds_toArray, List.set_cons_zero, List.set_cons_succ]
      refine wpAnyH_take (i := 5) (oi := ⟨some 77, _, _, _, _, _⟩) (v := .slice va l.length vc) rfl (by kernel_rfl) (by kernel_rfl) (by kernel_rfl) (fun _ _ _ h => h) (Or.inl ⟨by rfl, fun w hw => by go_simp⟩) (by assumption) ?_
      simp only [Act.put, List.setIfInBounds_toArray, List.set_cons_zero, List.set_cons_succ]
      refine wpAnyH_ready (rs := [1]) (by kernel_rfl) (by simp) ?_
      refine AllReadyH.cons (o := ⟨some 73, _, _, _, _, _⟩) rfl (fun K hK => ?_) AllReadyH.nil
      go_simp
      have hv1 : VcsAt (W.alloc (.cells #[.int .u32 s.r, .int .u32 s.ad, .int .u8 s.p, .int .u32 s.dr, .int .u32 s.bd] 33)).drew (.slice (some ⟨W.heap.size, 0, none⟩) 1 1) [s] := (HL.out W).keep ((Touch.refl _ _).drew)
      have hs1 : SnT W (W.alloc (.cells #[.int .u32 s.r, .int .u32 s.ad, .int .u8 s.p, .int .u32 s.dr, .int .u32 s.bd] 33)).drew := ⟨((Touch.refl _ _).alloc _).drew⟩
      refine hK.out _ _ hs1 (fun hHeld => ?_)
      clear hK K
      generalize (W.alloc (.cells #[.int .u32 s.r, .int .u32 s.ad, .int .u8 s.p, .int .u32 s.dr, .int .u32 s.bd] 33)).drew = wA at hv1 hs1 hHeld ⊢
      generalize W.heap.size = gA at hv1 ⊢
      refine wpAnyH_ready (rs := [2]) (by kernel_rfl) (by simp) ?_
      refine AllReadyH.cons (o := ⟨some 74, _, _, _, _, _⟩) rfl (fun K hK => ?_) AllReadyH.nil
      go_simp
      refine Calls.mono (HC1 _ _ hv1) ?_
      rintro e wB ⟨uB, rfl, vrB⟩
      obtain ⟨gB, cB, rfl, -, -⟩ := VR.slot vrB (by simp)
      have hsB : SnT W wB := ⟨hs1.t.trans vrB.t⟩
      have HVB : Hid (∀ w', Touch (fun _ => False) wB w' → VcsAt w' (.slice (some ⟨gB, 0, none⟩) [s].length cB) [s]) := fun w' t => VR.at (VBuf.keep vrB t) (by simpa using HSK.out)
      refine hK.out _ _ hsB (fun hHeld => ?_)
      clear hK K hv1 vrB
      refine wpAnyH_take (i := 3) (oi := ⟨some 75, _, _, _, _, _⟩) (v := .pointer (some ⟨gB, 0, none⟩)) rfl (by kernel_rfl) (by kernel_rfl) (by kernel_rfl) (fun _ _ _ h => h) (Or.inl ⟨by rfl, fun w hw => by go_simp <;> first | omega | (intro hh; omega)⟩) (by assumption) ?_
      simp only [Act.put, List.setIfInBounds_toArray, List.set_cons_zero, List.set_cons_succ]
      refine wpAnyH_ready (rs := [4, 6]) (by kernel_rfl) (by simp) ?_
      refine AllReadyH.cons (o := ⟨some 76, _, _, _, _, _⟩) rfl (fun K hK => ?_) (AllReadyH.cons (o := ⟨some 78, _, _, _, _, _⟩) rfl (fun K hK => ?_) AllReadyH.nil)
      · obtain ⟨b0, b1, b2, b3, b4⟩ := one_cells (HVB.out wB (Touch.refl _ _))
        go_simp
        refine hK.out _ _ hsB (fun hHeld => ?_)
        clear hK K b0 b1 b2 b3 b4
        refine wpAnyH_ready (rs := [6]) (by kernel_rfl) (by simp) ?_
        refine AllReadyH.cons (o := ⟨some 78, _, _, _, _, _⟩) rfl (fun K hK => ?_) AllReadyH.nil
        go_simp
        refine Calls.mono (HCP _ (HB0.out.trans (TW.out.trans hsB.t))) ?_
        rintro e wC ⟨uC, rfl, vrC⟩
        have hsC : SnT W wC := ⟨hsB.t.trans vrC.t⟩
        have hvC : VcsAt wC uC l := VR.at vrC HOK.out
        refine hK.out _ _ hsC (fun hHeld => ?_)
        clear hK K vrC
        refine wpAnyH_ready (rs := [7]) (by kernel_rfl) (by simp) ?_
        refine AllReadyH.cons (o := ⟨some 79, _, _, _, _, _⟩) rfl (fun K hK => ?_) AllReadyH.nil
        go_simp
        refine (HEL _ _ hvC).mono ?_
        rintro e wE ⟨rfl, tE⟩
        have T5 : Hid (Touch (fun _ => False) w wE) := (HB0.out.trans (TW.out.trans hsC.t)).trans tE
        refine hK.out _ _ ⟨hsC.t.trans tE⟩ (fun hHeld => ?_)
        have TEE : Hid (Touch (fun _ => False) wC wE) := tE
        clear hK K tE
        refine wpAnyH_take (i := 8) (oi := ⟨some 71, _, _, _, _, _⟩) (v := .tuple #[.int .u32 D, .int .u32 B]) rfl (by kernel_rfl) (by kernel_rfl) (by kernel_rfl) (fun _ _ _ h => h) (Or.inl ⟨by rfl, fun w hw => by go_simp⟩) (by assumption) ?_
        simp only [Act.put, List.setIfInBounds_toArray, List.set_cons_zero, List.set_cons_succ]
        refine wpAnyH_take (i := 9) (oi := ⟨some 80, _, _, _, _, _⟩) (v := .int .u32 D) rfl (by kernel_rfl) (by kernel_rfl) (by kernel_rfl) (fun _ _ _ h => h) (Or.inl ⟨by rfl, fun w hw => by go_simp⟩) (by assumption) ?_
        simp only [Act.put, List.setIfInBounds_toArray, List.set_cons_zero, List.set_cons_succ]
        refine wpAnyH_take (i := 10) (oi := ⟨some 81, _, _, _, _, _⟩) (v := .int .u32 B) rfl (by kernel_rfl) (by kernel_rfl) (by kernel_rfl) (fun _ _ _ h => h) (Or.inl ⟨by rfl, fun w hw => by go_simp⟩) (by assumption) ?_
        simp only [Act.put, List.setIfInBounds_toArray, List.set_cons_zero, List.set_cons_succ]
        refine wpAnyH_take (i := 11) (oi := ⟨some 11, _, _, _, _, _⟩) (v := .int .u32 D) rfl (by kernel_rfl) (by kernel_rfl) (by kernel_rfl) (fun _ _ _ h => h) (Or.inl ⟨by rfl, fun w hw => by go_simp⟩) (by assumption) ?_
        simp only [Act.put, List.setIfInBounds_toArray, List.set_cons_zero, List.set_cons_succ]
        refine wpAnyH_take (i := 12) (oi := ⟨some 12, _, _, _, _, _⟩) (v := .int .u32 B) rfl (by kernel_rfl) (by kernel_rfl) (by kernel_rfl) (fun _ _ _ h => h) (Or.inl ⟨by rfl, fun w hw => by go_simp⟩) (by assumption) ?_
        simp only [Act.put, List.setIfInBounds_toArray, List.set_cons_zero, List.set_cons_succ]
        refine wpAnyH_done (by kernel_rfl) ?_ _
        obtain ⟨a0, a1, a2, a3, a4⟩ := (HBX.out wE (TW.out.trans (hsC.t.trans TEE.out))).open0
        have HUE : Hid _ := VBuf.keep HU2.out (hsC.t.trans TEE.out)
        go_wp2_with fail
        refine Calls.mono (HC1 _ _ (HL.out wE)) ?_
        rintro e wG ⟨uG, rfl, vrG⟩
        obtain ⟨gG, cG, rfl, -, -⟩ := VR.slot vrG (by simp)
        obtain ⟨b0, b1, b2, b3, b4⟩ := one_cells (VR.at vrG (by simpa using HSK.out))
        have tG : Touch (fun _ => False) wE wG := ((Touch.refl _ wE).alloc _).trans vrG.t
        have HUG : Hid _ := VBuf.keep HUE.out tG
        clear vrG a0 a1 a2 a3 a4
        go_wp2_with fail
        refine (HEL2 _ _ (VR.at HUG.out HOK2.out)).mono ?_
        rintro e wH ⟨rfl, tH⟩
        have T8 : Hid (Touch (fun _ => False) w wH) := (T5.out.trans tG).trans tH
        clear tG tH b0 b1 b2 b3 b4
        go_wp2_with fail
        refine (works_any _).mono ?_
        rintro e wz ⟨rfl, tz⟩
        have T9 : Hid (Touch (fun _ => False) w wz) := T8.out.trans tz
        clear tz
        go_wp2_with fail
        go_ret
        exact ⟨rfl, T9.out⟩
      · go_simp
        refine Calls.mono (HCP _ (HB0.out.trans (TW.out.trans hsB.t))) ?_
        rintro e wC ⟨uC, rfl, vrC⟩
        have hsC : SnT W wC := ⟨hsB.t.trans vrC.t⟩
        have hvC : VcsAt wC uC l := VR.at vrC HOK.out
        have tBC := vrC.t
        refine hK.out _ _ hsC (fun hHeld => ?_)
        clear hK K vrC
        obtain ⟨b0, b1, b2, b3, b4⟩ := one_cells (HVB.out wC tBC)
        clear tBC
        refine wpAnyH_ready (rs := [4]) (by kernel_rfl) (by simp) ?_
        refine AllReadyH.cons (o := ⟨some 76, _, _, _, _, _⟩) rfl (fun K hK => ?_) AllReadyH.nil
        go_simp
        refine hK.out _ _ hsC (fun hHeld => ?_)
        clear hK K b0 b1 b2 b3 b4
        refine wpAnyH_ready (rs := [7]) (by kernel_rfl) (by simp) ?_
        refine AllReadyH.cons (o := ⟨some 79, _, _, _, _, _⟩) rfl (fun K hK => ?_) AllReadyH.nil
        go_simp
        refine (HEL _ _ hvC).mono ?_
        rintro e wE ⟨rfl, tE⟩
        have T5 : Hid (Touch (fun _ => False) w wE) := (HB0.out.trans (TW.out.trans hsC.t)).trans tE
        refine hK.out _ _ ⟨hsC.t.trans tE⟩ (fun hHeld => ?_)
        have TEE : Hid (Touch (fun _ => False) wC wE) := tE
        clear hK K tE
        refine wpAnyH_take (i := 8) (oi := ⟨some 71, _, _, _, _, _⟩) (v := .tuple #[.int .u32 D, .int .u32 B]) rfl (by kernel_rfl) (by kernel_rfl) (by kernel_rfl) (fun _ _ _ h => h) (Or.inl ⟨by rfl, fun w hw => by go_simp⟩) (by assumption) ?_
        simp only [Act.put, List.setIfInBounds_toArray, List.set_cons_zero, List.set_cons_succ]
        refine wpAnyH_take (i := 9) (oi := ⟨some 80, _, _, _, _, _⟩) (v := .int .u32 D) rfl (by kernel_rfl) (by kernel_rfl) (by kernel_rfl) (fun _ _ _ h => h) (Or.inl ⟨by rfl, fun w hw => by go_simp⟩) (by assumption) ?_
        simp only [Act.put, List.setIfInBounds_toArray, List.set_cons_zero, List.set_cons_succ]
        refine wpAnyH_take (i := 10) (oi := ⟨some 81, _, _, _, _, _⟩) (v := .int .u32 B) rfl (by kernel_rfl) (by kernel_rfl) (by kernel_rfl) (fun _ _ _ h => h) (Or.inl ⟨by rfl, fun w hw => by go_simp⟩) (by assumption) ?_
        simp only [Act.put, List.setIfInBounds_toArray, List.set_cons_zero, List.set_cons_succ]
        refine wpAnyH_take (i := 11) (oi := ⟨some 11, _, _, _, _, _⟩) (v := .int .u32 D) rfl (by kernel_rfl) (by kernel_rfl) (by kernel_rfl) (fun _ _ _ h => h) (Or.inl ⟨by rfl, fun w hw => by go_simp⟩) (by assumption) ?_
        simp only [Act.put, List.setIfInBounds_toArray, List.set_cons_zero, List.set_cons_succ]
        refine wpAnyH_take (i := 12) (oi := ⟨some 12, _, _, _, _, _⟩) (v := .int .u32 B) rfl (by kernel_rfl) (by kernel_rfl) (by kernel_rfl) (fun _ _ _ h => h) (Or.inl ⟨by rfl, fun w hw => by go_simp⟩) (by assumption) ?_
        simp only [Act.put, List.setIfInBounds_toArray, List.set_cons_zero, List.set_cons_succ]
        refine wpAnyH_done (by kernel_rfl) ?_ _
        obtain ⟨a0, a1, a2, a3, a4⟩ := (HBX.out wE (TW.out.trans (hsC.t.trans TEE.out))).open0
        have HUE : Hid _ := VBuf.keep HU2.out (hsC.t.trans TEE.out)
        go_wp2_with fail
        refine Calls.mono (HC1 _ _ (HL.out wE)) ?_
        rintro e wG ⟨uG, rfl, vrG⟩
        obtain ⟨gG, cG, rfl, -, -⟩ := VR.slot vrG (by simp)
        obtain ⟨b0, b1, b2, b3, b4⟩ := one_cells (VR.at vrG (by simpa using HSK.out))
        have tG : Touch (fun _ => False) wE wG := ((Touch.refl _ wE).alloc _).trans vrG.t
        have HUG : Hid _ := VBuf.keep HUE.out tG
        clear vrG a0 a1 a2 a3 a4
        go_wp2_with fail
        refine (HEL2 _ _ (VR.at HUG.out HOK2.out)).mono ?_
        rintro e wH ⟨rfl, tH⟩
        have T8 : Hid (Touch (fun _ => False) w wH) := (T5.out.trans tG).trans tH
        clear tG tH b0 b1 b2 b3 b4
        go_wp2_with fail
        refine (works_any _).mono ?_
        rintro e wz ⟨rfl, tz⟩
        have T9 : Hid (Touch (fun _ => False) w wz) := T8.out.trans tz
        clear tz
        go_wp2_with fail
        go_ret
        exact ⟨rfl, T9.out⟩
end Go.Proofs.Ytcmkhhdjhemmbaa
