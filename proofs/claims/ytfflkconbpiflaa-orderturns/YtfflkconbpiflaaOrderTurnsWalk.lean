/- 'lodestarlaw05.OrderTurns': the walk. -/
import Derived.Test.YtfflkconbpiflaaOrdHead
import Derived.Deep.DeepCutAuto
namespace Go.Proofs.Ytfflkconbpiflaa
open Go.RowKit
set_option linter.unusedVariables false
set_option maxRecDepth 100000

theorem fstI_range {x y : Int} (h0 : -1 ≤ x ∧ x ≤ 1) (h1 : -1 ≤ y ∧ y ≤ 1) : -1 ≤ fstI x y ∧ fstI x y ≤ 1 := by unfold fstI; split <;> omega
theorem aloneI_range (x y : Int) : -1 ≤ aloneI x y ∧ aloneI x y ≤ 1 := by unfold aloneI; split <;> (try split) <;> omega
theorem youngI_range (x y : Int) : -1 ≤ youngI x y ∧ youngI x y ≤ 1 := by
  unfold youngI
  split
  · omega
  · exact cmpI_range _ _
theorem new_range (a b : HV) : -1 ≤ a.new b ∧ a.new b ≤ 1 := fstI_range (cmpI_range _ _) (fstI_range (cmpI_range _ _) (fstI_range (aloneI_range _ _) (youngI_range _ _)))

theorem next_sym (x : Int) (h0 : -2147483648 ≤ x) (h1 : x ≤ 2147483647) : ∃ n is, (∀ w, Calls Try.prog 5 #[.int .i32 x] w fun e w' => e = .returned (.tuple #[.int .i32 n, .bool is]) ∧ w = w') ∧ ((is = true ∧ n = x + 1 ∧ x ≠ 2147483647) ∨ (is = false ∧ x = 2147483647 ∧ n = 0)) := by
  by_cases h : x = 2147483647
  · subst h
    exact ⟨0, false, next_last, Or.inr ⟨rfl, rfl, rfl⟩⟩
  · exact ⟨x + 1, true, fun w => next_more x h0 (by omega) w, Or.inl ⟨rfl, rfl, h⟩⟩

set_option maxHeartbeats 4000000 in
theorem turns_any (a b c : HV) (p q : Int) (ha : a.Ok) (hb : b.Ok) (hc : c.Ok) (hp0 : 0 ≤ p) (hp : p < 65536) (hq0 : 0 ≤ q) (hq : q < 65536) (w : World) :
    Calls Try.prog 4 #[a.v, b.v, c.v, .int .u16 p, .int .u16 q] w fun e w' => e = .returned (.bool true) ∧ Touch (fun _ => False) w w' := by
  have HA : Hid a.Ok := ha
  have HB : Hid b.Ok := hb
  have HC : Hid c.Ok := hc
  clear ha hb hc
  show Calls Try.prog 4 #[.agg #[.int .u16 a.age, .int .u8 a.opts, .int .u8 a.typ, .int .u32 a.id, .int .u32 a.adv, .int .i32 a.seq, .int .u16 a.sum, .int .u16 a.len], .agg #[.int .u16 b.age, .int .u8 b.opts, .int .u8 b.typ, .int .u32 b.id, .int .u32 b.adv, .int .i32 b.seq, .int .u16 b.sum, .int .u16 b.len], .agg #[.int .u16 c.age, .int .u8 c.opts, .int .u8 c.typ, .int .u32 c.id, .int .u32 c.adv, .int .i32 c.seq, .int .u16 c.sum, .int .u16 c.len], .int .u16 p, .int .u16 q] w _
  go_enter Try.func4, Try.ntmps4
  go_upto_region 1 with fail
  have z1 : (w.alloc (.cells #[.int .u16 a.age, .int .u8 a.opts, .int .u8 a.typ, .int .u32 a.id, .int .u32 a.adv, .int .i32 a.seq, .int .u16 a.sum, .int .u16 a.len] 25)).heap.size = w.heap.size + 1 := by simp [go_sem]
  have z2 : ((w.alloc (.cells #[.int .u16 a.age, .int .u8 a.opts, .int .u8 a.typ, .int .u32 a.id, .int .u32 a.adv, .int .i32 a.seq, .int .u16 a.sum, .int .u16 a.len] 25)).alloc (.cells #[.int .u16 b.age, .int .u8 b.opts, .int .u8 b.typ, .int .u32 b.id, .int .u32 b.adv, .int .i32 b.seq, .int .u16 b.sum, .int .u16 b.len] 25)).heap.size = w.heap.size + 1 + 1 := by simp [go_sem]
  have K0a : Hid (Hd (((w.alloc (.cells #[.int .u16 a.age, .int .u8 a.opts, .int .u8 a.typ, .int .u32 a.id, .int .u32 a.adv, .int .i32 a.seq, .int .u16 a.sum, .int .u16 a.len] 25)).alloc (.cells #[.int .u16 b.age, .int .u8 b.opts, .int .u8 b.typ, .int .u32 b.id, .int .u32 b.adv, .int .i32 b.seq, .int .u16 b.sum, .int .u16 b.len] 25)).alloc (.cells #[.int .u16 c.age, .int .u8 c.opts, .int .u8 c.typ, .int .u32 c.id, .int .u32 c.adv, .int .i32 c.seq, .int .u16 c.sum, .int .u16 c.len] 25)) w.heap.size a) := ((Hd.new w a _).keep ((Touch.refl _ _).alloc _)).keep ((Touch.refl _ _).alloc _)
  have K0b : Hid (Hd (((w.alloc (.cells #[.int .u16 a.age, .int .u8 a.opts, .int .u8 a.typ, .int .u32 a.id, .int .u32 a.adv, .int .i32 a.seq, .int .u16 a.sum, .int .u16 a.len] 25)).alloc (.cells #[.int .u16 b.age, .int .u8 b.opts, .int .u8 b.typ, .int .u32 b.id, .int .u32 b.adv, .int .i32 b.seq, .int .u16 b.sum, .int .u16 b.len] 25)).alloc (.cells #[.int .u16 c.age, .int .u8 c.opts, .int .u8 c.typ, .int .u32 c.id, .int .u32 c.adv, .int .i32 c.seq, .int .u16 c.sum, .int .u16 c.len] 25)) (w.heap.size + 1) b) := z1 ▸ (Hd.new (w.alloc (.cells #[.int .u16 a.age, .int .u8 a.opts, .int .u8 a.typ, .int .u32 a.id, .int .u32 a.adv, .int .i32 a.seq, .int .u16 a.sum, .int .u16 a.len] 25)) b _).keep ((Touch.refl _ _).alloc _)
  have K0c : Hid (Hd (((w.alloc (.cells #[.int .u16 a.age, .int .u8 a.opts, .int .u8 a.typ, .int .u32 a.id, .int .u32 a.adv, .int .i32 a.seq, .int .u16 a.sum, .int .u16 a.len] 25)).alloc (.cells #[.int .u16 b.age, .int .u8 b.opts, .int .u8 b.typ, .int .u32 b.id, .int .u32 b.adv, .int .i32 b.seq, .int .u16 b.sum, .int .u16 b.len] 25)).alloc (.cells #[.int .u16 c.age, .int .u8 c.opts, .int .u8 c.typ, .int .u32 c.id, .int .u32 c.adv, .int .i32 c.seq, .int .u16 c.sum, .int .u16 c.len] 25)) (w.heap.size + 1 + 1) c) := z2 ▸ Hd.new ((w.alloc (.cells #[.int .u16 a.age, .int .u8 a.opts, .int .u8 a.typ, .int .u32 a.id, .int .u32 a.adv, .int .i32 a.seq, .int .u16 a.sum, .int .u16 a.len] 25)).alloc (.cells #[.int .u16 b.age, .int .u8 b.opts, .int .u8 b.typ, .int .u32 b.id, .int .u32 b.adv, .int .i32 b.seq, .int .u16 b.sum, .int .u16 b.len] 25)) c _
  have T0 : Hid (Touch (fun _ => False) w (((w.alloc (.cells #[.int .u16 a.age, .int .u8 a.opts, .int .u8 a.typ, .int .u32 a.id, .int .u32 a.adv, .int .i32 a.seq, .int .u16 a.sum, .int .u16 a.len] 25)).alloc (.cells #[.int .u16 b.age, .int .u8 b.opts, .int .u8 b.typ, .int .u32 b.id, .int .u32 b.adv, .int .i32 b.seq, .int .u16 b.sum, .int .u16 b.len] 25)).alloc (.cells #[.int .u16 c.age, .int .u8 c.opts, .int .u8 c.typ, .int .u32 c.id, .int .u32 c.adv, .int .i32 c.seq, .int .u16 c.sum, .int .u16 c.len] 25))) := (((Touch.refl _ _).alloc _).alloc _).alloc _
  clear z1 z2
  generalize (((w.alloc (.cells #[.int .u16 a.age, .int .u8 a.opts, .int .u8 a.typ, .int .u32 a.id, .int .u32 a.adv, .int .i32 a.seq, .int .u16 a.sum, .int .u16 a.len] 25)).alloc (.cells #[.int .u16 b.age, .int .u8 b.opts, .int .u8 b.typ, .int .u32 b.id, .int .u32 b.adv, .int .i32 b.seq, .int .u16 b.sum, .int .u16 b.len] 25)).alloc (.cells #[.int .u16 c.age, .int .u8 c.opts, .int .u8 c.typ, .int .u32 c.id, .int .u32 c.adv, .int .i32 c.seq, .int .u16 c.sum, .int .u16 c.len] 25)) = w0 at K0a K0b K0c T0 ⊢
  generalize w.heap.size + 1 + 1 = gc at K0c ⊢
  generalize w.heap.size + 1 = gb at K0b ⊢
  generalize w.heap.size = ga at K0a ⊢
  go_cut [44] (fun r wx => r = .bool false ∧ Hid (Touch (fun _ => False) w wx ∧ Hd wx ga a ∧ Hd wx gb b ∧ Hd wx gc c))
  case first =>
    as_aux_lemma =>
      obtain ⟨a0, a1, a2, a3, a4, a5, a6, a7⟩ := K0a.out
      obtain ⟨b0, b1, b2, b3, b4, b5, b6, b7⟩ := K0b.out
      obtain ⟨c0, c1, c2, c3, c4, c5, c6, c7⟩ := K0c.out
      have pa0 := aft_cell a0
      have pa1 := aft_cell a1
      have pa2 := aft_cell a2
      have pa3 := aft_cell a3
      have pa4 := aft_cell a4
      have pa5 := aft_cell a5
      have pa6 := aft_cell a6
      have pa7 := aft_cell a7
      have pb0 := aft_cell b0
      have pb1 := aft_cell b1
      have pb2 := aft_cell b2
      have pb3 := aft_cell b3
      have pb4 := aft_cell b4
      have pb5 := aft_cell b5
      have pb6 := aft_cell b6
      have pb7 := aft_cell b7
      clear a0 a1 a2 a3 a4 a5 a6 a7 b0 b1 b2 b3 b4 b5 b6 b7 c0 c1 c2 c3 c4 c5 c6 c7

      obtain ⟨x, hx⟩ : ∃ x, a.new b = x := ⟨_, rfl⟩
      obtain ⟨x2, hx2⟩ : ∃ x, b.new a = x := ⟨_, rfl⟩
      obtain ⟨y, hy⟩ : ∃ y, cmpI a.seq b.seq = y := ⟨_, rfl⟩
      obtain ⟨y2, hy2⟩ : ∃ y, cmpI b.seq a.seq = y := ⟨_, rfl⟩
      have hxx : x2 = -x := by rw [← hx, ← hx2]; exact newI_turn _ _ _ _ _ _
      have hyy : y2 = -y := by rw [← hy, ← hy2]; exact cmpI_turn _ _
      have hxr := hx ▸ new_range a b
      have hyr := hy ▸ cmpI_range a.seq b.seq
      have hn1 : y = 1 → x = 1 := fun e => by rw [← hx]; exact newI_seq (cmpI_one (hy.trans e)) _ _ _ _
      have hn2 : y2 = 1 → x2 = 1 := fun e => by rw [← hx2]; exact newI_seq (cmpI_one (hy2.trans e)) _ _ _ _
      have HX : (x = -1 ∧ x2 = 1 ∧ y = -1 ∧ y2 = 1) ∨ (x = 1 ∧ x2 = -1 ∧ y = 1 ∧ y2 = -1) ∨ (x = -1 ∧ x2 = 1 ∧ y = 0 ∧ y2 = 0) ∨ (x = 0 ∧ x2 = 0 ∧ y = 0 ∧ y2 = 0) ∨ (x = 1 ∧ x2 = -1 ∧ y = 0 ∧ y2 = 0) := by omega
      have G1 : Hid (a.new b = x) := hx
      have G2 : Hid (b.new a = x2) := hx2
      have G3 : Hid (cmpI a.seq b.seq = y) := hy
      have G4 : Hid (cmpI b.seq a.seq = y2) := hy2
      clear hx hx2 hy hy2 hxx hyy hxr hyr hn1 hn2
      rcases HX with ⟨rfl, rfl, rfl, rfl⟩ | ⟨rfl, rfl, rfl, rfl⟩ | ⟨rfl, rfl, rfl, rfl⟩ | ⟨rfl, rfl, rfl, rfl⟩ | ⟨rfl, rfl, rfl, rfl⟩
      all_goals (
        refine wp_region_aft (by kernel_rfl) (by kernel_rfl) ?_
        repeat (first | go_big_quiet_skip | (go_big_quiet_want; go_big_quiet_op; first | go_big_quiet_on | (refine Exists.intro _ ⟨fun _ => rfl, ?_⟩; go_big_quiet_on)))
        go_big_quiet_want; go_big_quiet_op; refine Exists.intro _ ⟨fun u => Aft.call (newer_hv a b HA.out HB.out _ G1.out _), ?_⟩; go_big_quiet_on
        repeat (first | go_big_quiet_skip | (go_big_quiet_want; go_big_quiet_op; first | go_big_quiet_on | (refine Exists.intro _ ⟨fun _ => rfl, ?_⟩; go_big_quiet_on)))
        go_big_quiet_want; go_big_quiet_op; refine Exists.intro _ ⟨fun u => Aft.call (newer_hv b a HB.out HA.out _ G2.out _), ?_⟩; go_big_quiet_on
        repeat (first | go_big_quiet_skip | (go_big_quiet_want; go_big_quiet_op; first | go_big_quiet_on | (refine Exists.intro _ ⟨fun _ => rfl, ?_⟩; go_big_quiet_on)))
        go_big_quiet_want; go_big_quiet_op; refine Exists.intro _ ⟨fun u => Aft.call (newer_hv a a HA.out HA.out 0 (newI_self _ _ _) _), ?_⟩; go_big_quiet_on
        repeat (first | go_big_quiet_skip | (go_big_quiet_want; go_big_quiet_op; first | go_big_quiet_on | (refine Exists.intro _ ⟨fun _ => rfl, ?_⟩; go_big_quiet_on)))
        go_big_quiet_want; go_big_quiet_op; refine Exists.intro _ ⟨fun u => Aft.call (seq_hv _ _ _ G3.out _), ?_⟩; go_big_quiet_on
        repeat (first | go_big_quiet_skip | (go_big_quiet_want; go_big_quiet_op; first | go_big_quiet_on | (refine Exists.intro _ ⟨fun _ => rfl, ?_⟩; go_big_quiet_on)))
        go_big_quiet_want; go_big_quiet_op; refine Exists.intro _ ⟨fun u => Aft.call (seq_hv _ _ _ G4.out _), ?_⟩; go_big_quiet_on
        repeat (first | go_big_quiet_skip | (go_big_quiet_want; go_big_quiet_op; first | go_big_quiet_on | (refine Exists.intro _ ⟨fun _ => rfl, ?_⟩; go_big_quiet_on)))
        refine wpQuiet_nil ?_
        rintro wq ⟨⟨_, hgq⟩, rfl⟩
        clear pa0 pa1 pa2 pa3 pa4 pa5 pa6 pa7 pb0 pb1 pb2 pb3 pb4 pb5 pb6 pb7
        go_wp2_with fail
        go_meet
        case rel => exact ⟨rfl, T0.out.trans hgq, K0a.out.keep hgq, K0b.out.keep hgq, K0c.out.keep hgq⟩)
  case rest =>
    as_aux_lemma =>
      obtain ⟨rfl, HW⟩ := hcut
      have T1 : Hid (Touch (fun _ => False) w wc) := HW.out.1
      have K1a : Hid (Hd wc ga a) := HW.out.2.1
      have K1b : Hid (Hd wc gb b) := HW.out.2.2.1
      have K1c : Hid (Hd wc gc c) := HW.out.2.2.2
      clear HW
      clear T0 K0a K0b K0c
      obtain ⟨a0, a1, a2, a3, a4, a5, a6, a7⟩ := K1a.out
      obtain ⟨b0, b1, b2, b3, b4, b5, b6, b7⟩ := K1b.out
      obtain ⟨c0, c1, c2, c3, c4, c5, c6, c7⟩ := K1c.out
      go_upto_region 3 with fail
      go_cut [95] (fun r wx => r = .bool false ∧ Hid (Touch (fun _ => False) w wx ∧ Hd wx ga a ∧ Hd wx gb b ∧ Hd wx gc c))
      case first =>
        as_aux_lemma =>
          rcases Int.lt_trichotomy a.seq b.seq with h | h | h
          · have hb1 : (a.seq == b.seq) = false := beq_eq_false_iff_ne.mpr (by omega)
            have G3 : Hid (cmpI a.seq b.seq = -1) := cmpI_lt h
            clear h
            go_wp2_with fail
            refine Calls.mono (seq_hv _ _ _ G3.out _) ?_
            rintro e w2 ⟨rfl, t2⟩
            clear a0 a1 a2 a3 a4 a5 a6 a7 b0 b1 b2 b3 b4 b5 b6 b7 c0 c1 c2 c3 c4 c5 c6 c7
            have K2a : Hid (Hd w2 ga a) := K1a.out.keep t2
            have K2b : Hid (Hd w2 gb b) := K1b.out.keep t2
            have K2c : Hid (Hd w2 gc c) := K1c.out.keep t2
            have T2 : Hid (Touch (fun _ => False) w w2) := T1.out.trans t2
            clear t2 T1 K1a K1b K1c
            obtain ⟨a0, a1, a2, a3, a4, a5, a6, a7⟩ := K2a.out
            obtain ⟨b0, b1, b2, b3, b4, b5, b6, b7⟩ := K2b.out
            obtain ⟨c0, c1, c2, c3, c4, c5, c6, c7⟩ := K2c.out
            go_wp2_with fail
            go_meet
            case rel => exact ⟨rfl, T2.out, K2a.out, K2b.out, K2c.out⟩
          · have hb1 : (a.seq == b.seq) = true := beq_iff_eq.mpr h
            have G3 : Hid (cmpI a.seq b.seq = 0) := by show _ = _; rw [h]; exact cmpI_eq _
            have HE : Hid (a.seq = b.seq) := h
            clear h
            by_cases h2 : b.seq = c.seq
            · have hb2 : (b.seq == c.seq) = true := beq_iff_eq.mpr h2
              have HE2 : Hid (b.seq = c.seq) := h2
              clear h2
              by_cases h3 : a.new b = 1
              · have G4 : Hid (a.new b = 1) := h3
                clear h3
                by_cases h4 : b.new c = 1
                · have G5 : Hid (b.new c = 1) := h4
                  clear h4
                  by_cases h5 : a.sum = b.sum
                  · have hb5 : (a.sum != b.sum) = false := by rw [h5]; exact bne_self_eq_false _
                    clear h5
                    go_wp2_with fail
                    refine Calls.mono (seq_hv _ _ _ G3.out _) ?_
                    rintro e w2 ⟨rfl, t2⟩
                    clear a0 a1 a2 a3 a4 a5 a6 a7 b0 b1 b2 b3 b4 b5 b6 b7 c0 c1 c2 c3 c4 c5 c6 c7
                    have K2a : Hid (Hd w2 ga a) := K1a.out.keep t2
                    have K2b : Hid (Hd w2 gb b) := K1b.out.keep t2
                    have K2c : Hid (Hd w2 gc c) := K1c.out.keep t2
                    have T2 : Hid (Touch (fun _ => False) w w2) := T1.out.trans t2
                    clear t2 T1 K1a K1b K1c
                    obtain ⟨a0, a1, a2, a3, a4, a5, a6, a7⟩ := K2a.out
                    obtain ⟨b0, b1, b2, b3, b4, b5, b6, b7⟩ := K2b.out
                    obtain ⟨c0, c1, c2, c3, c4, c5, c6, c7⟩ := K2c.out
                    go_wp2_with fail
                    refine Calls.mono (newer_hv a b HA.out HB.out _ G4.out _) ?_
                    rintro e w3 ⟨rfl, t3⟩
                    clear a0 a1 a2 a3 a4 a5 a6 a7 b0 b1 b2 b3 b4 b5 b6 b7 c0 c1 c2 c3 c4 c5 c6 c7
                    have K3a : Hid (Hd w3 ga a) := K2a.out.keep t3
                    have K3b : Hid (Hd w3 gb b) := K2b.out.keep t3
                    have K3c : Hid (Hd w3 gc c) := K2c.out.keep t3
                    have T3 : Hid (Touch (fun _ => False) w w3) := T2.out.trans t3
                    clear t3 T2 K2a K2b K2c
                    obtain ⟨a0, a1, a2, a3, a4, a5, a6, a7⟩ := K3a.out
                    obtain ⟨b0, b1, b2, b3, b4, b5, b6, b7⟩ := K3b.out
                    obtain ⟨c0, c1, c2, c3, c4, c5, c6, c7⟩ := K3c.out
                    go_wp2_with fail
                    refine Calls.mono (newer_hv b c HB.out HC.out _ G5.out _) ?_
                    rintro e w4 ⟨rfl, t4⟩
                    clear a0 a1 a2 a3 a4 a5 a6 a7 b0 b1 b2 b3 b4 b5 b6 b7 c0 c1 c2 c3 c4 c5 c6 c7
                    have K4a : Hid (Hd w4 ga a) := K3a.out.keep t4
                    have K4b : Hid (Hd w4 gb b) := K3b.out.keep t4
                    have K4c : Hid (Hd w4 gc c) := K3c.out.keep t4
                    have T4 : Hid (Touch (fun _ => False) w w4) := T3.out.trans t4
                    clear t4 T3 K3a K3b K3c
                    obtain ⟨a0, a1, a2, a3, a4, a5, a6, a7⟩ := K4a.out
                    obtain ⟨b0, b1, b2, b3, b4, b5, b6, b7⟩ := K4b.out
                    obtain ⟨c0, c1, c2, c3, c4, c5, c6, c7⟩ := K4c.out
                    go_wp2_with fail
                    go_meet
                    case rel => exact ⟨rfl, T4.out, K4a.out, K4b.out, K4c.out⟩
                  · have hb5 : (a.sum != b.sum) = true := bne_iff_ne.mpr h5
                    have G6 : Hid (a.new c = 1) := by
                      have q1 := HE.out
                      have q2 := HE2.out
                      have g : newI a.seq a.sum a.age a.seq b.sum b.age = 1 := by
                        have := G4.out
                        unfold HV.new at this
                        rwa [← q1] at this
                      have g2 : newI a.seq b.sum b.age a.seq c.sum c.age = 1 := by
                        have := G5.out
                        unfold HV.new at this
                        rwa [← q2, ← q1] at this
                      show newI _ _ _ _ _ _ = 1
                      rw [← q2, ← q1]
                      exact newI_three g g2 h5
                    go_wp2_with fail
                    refine Calls.mono (seq_hv _ _ _ G3.out _) ?_
                    rintro e w2 ⟨rfl, t2⟩
                    clear a0 a1 a2 a3 a4 a5 a6 a7 b0 b1 b2 b3 b4 b5 b6 b7 c0 c1 c2 c3 c4 c5 c6 c7
                    have K2a : Hid (Hd w2 ga a) := K1a.out.keep t2
                    have K2b : Hid (Hd w2 gb b) := K1b.out.keep t2
                    have K2c : Hid (Hd w2 gc c) := K1c.out.keep t2
                    have T2 : Hid (Touch (fun _ => False) w w2) := T1.out.trans t2
                    clear t2 T1 K1a K1b K1c
                    obtain ⟨a0, a1, a2, a3, a4, a5, a6, a7⟩ := K2a.out
                    obtain ⟨b0, b1, b2, b3, b4, b5, b6, b7⟩ := K2b.out
                    obtain ⟨c0, c1, c2, c3, c4, c5, c6, c7⟩ := K2c.out
                    go_wp2_with fail
                    refine Calls.mono (newer_hv a b HA.out HB.out _ G4.out _) ?_
                    rintro e w3 ⟨rfl, t3⟩
                    clear a0 a1 a2 a3 a4 a5 a6 a7 b0 b1 b2 b3 b4 b5 b6 b7 c0 c1 c2 c3 c4 c5 c6 c7
                    have K3a : Hid (Hd w3 ga a) := K2a.out.keep t3
                    have K3b : Hid (Hd w3 gb b) := K2b.out.keep t3
                    have K3c : Hid (Hd w3 gc c) := K2c.out.keep t3
                    have T3 : Hid (Touch (fun _ => False) w w3) := T2.out.trans t3
                    clear t3 T2 K2a K2b K2c
                    obtain ⟨a0, a1, a2, a3, a4, a5, a6, a7⟩ := K3a.out
                    obtain ⟨b0, b1, b2, b3, b4, b5, b6, b7⟩ := K3b.out
                    obtain ⟨c0, c1, c2, c3, c4, c5, c6, c7⟩ := K3c.out
                    go_wp2_with fail
                    refine Calls.mono (newer_hv b c HB.out HC.out _ G5.out _) ?_
                    rintro e w4 ⟨rfl, t4⟩
                    clear a0 a1 a2 a3 a4 a5 a6 a7 b0 b1 b2 b3 b4 b5 b6 b7 c0 c1 c2 c3 c4 c5 c6 c7
                    have K4a : Hid (Hd w4 ga a) := K3a.out.keep t4
                    have K4b : Hid (Hd w4 gb b) := K3b.out.keep t4
                    have K4c : Hid (Hd w4 gc c) := K3c.out.keep t4
                    have T4 : Hid (Touch (fun _ => False) w w4) := T3.out.trans t4
                    clear t4 T3 K3a K3b K3c
                    obtain ⟨a0, a1, a2, a3, a4, a5, a6, a7⟩ := K4a.out
                    obtain ⟨b0, b1, b2, b3, b4, b5, b6, b7⟩ := K4b.out
                    obtain ⟨c0, c1, c2, c3, c4, c5, c6, c7⟩ := K4c.out
                    go_wp2_with fail
                    refine Calls.mono (newer_hv a c HA.out HC.out _ G6.out _) ?_
                    rintro e w5 ⟨rfl, t5⟩
                    clear a0 a1 a2 a3 a4 a5 a6 a7 b0 b1 b2 b3 b4 b5 b6 b7 c0 c1 c2 c3 c4 c5 c6 c7
                    have K5a : Hid (Hd w5 ga a) := K4a.out.keep t5
                    have K5b : Hid (Hd w5 gb b) := K4b.out.keep t5
                    have K5c : Hid (Hd w5 gc c) := K4c.out.keep t5
                    have T5 : Hid (Touch (fun _ => False) w w5) := T4.out.trans t5
                    clear t5 T4 K4a K4b K4c
                    obtain ⟨a0, a1, a2, a3, a4, a5, a6, a7⟩ := K5a.out
                    obtain ⟨b0, b1, b2, b3, b4, b5, b6, b7⟩ := K5b.out
                    obtain ⟨c0, c1, c2, c3, c4, c5, c6, c7⟩ := K5c.out
                    go_wp2_with fail
                    go_meet
                    case rel => exact ⟨rfl, T5.out, K5a.out, K5b.out, K5c.out⟩
                · have hb4 : (b.new c == 1) = false := beq_eq_false_iff_ne.mpr h4
                  obtain ⟨u, hu⟩ : ∃ u, b.new c = u := ⟨_, rfl⟩
                  rw [hu] at hb4
                  have G5 : Hid (b.new c = u) := hu
                  clear h4 hu
                  go_wp2_with fail
                  refine Calls.mono (seq_hv _ _ _ G3.out _) ?_
                  rintro e w2 ⟨rfl, t2⟩
                  clear a0 a1 a2 a3 a4 a5 a6 a7 b0 b1 b2 b3 b4 b5 b6 b7 c0 c1 c2 c3 c4 c5 c6 c7
                  have K2a : Hid (Hd w2 ga a) := K1a.out.keep t2
                  have K2b : Hid (Hd w2 gb b) := K1b.out.keep t2
                  have K2c : Hid (Hd w2 gc c) := K1c.out.keep t2
                  have T2 : Hid (Touch (fun _ => False) w w2) := T1.out.trans t2
                  clear t2 T1 K1a K1b K1c
                  obtain ⟨a0, a1, a2, a3, a4, a5, a6, a7⟩ := K2a.out
                  obtain ⟨b0, b1, b2, b3, b4, b5, b6, b7⟩ := K2b.out
                  obtain ⟨c0, c1, c2, c3, c4, c5, c6, c7⟩ := K2c.out
                  go_wp2_with fail
                  refine Calls.mono (newer_hv a b HA.out HB.out _ G4.out _) ?_
                  rintro e w3 ⟨rfl, t3⟩
                  clear a0 a1 a2 a3 a4 a5 a6 a7 b0 b1 b2 b3 b4 b5 b6 b7 c0 c1 c2 c3 c4 c5 c6 c7
                  have K3a : Hid (Hd w3 ga a) := K2a.out.keep t3
                  have K3b : Hid (Hd w3 gb b) := K2b.out.keep t3
                  have K3c : Hid (Hd w3 gc c) := K2c.out.keep t3
                  have T3 : Hid (Touch (fun _ => False) w w3) := T2.out.trans t3
                  clear t3 T2 K2a K2b K2c
                  obtain ⟨a0, a1, a2, a3, a4, a5, a6, a7⟩ := K3a.out
                  obtain ⟨b0, b1, b2, b3, b4, b5, b6, b7⟩ := K3b.out
                  obtain ⟨c0, c1, c2, c3, c4, c5, c6, c7⟩ := K3c.out
                  go_wp2_with fail
                  refine Calls.mono (newer_hv b c HB.out HC.out _ G5.out _) ?_
                  rintro e w4 ⟨rfl, t4⟩
                  clear a0 a1 a2 a3 a4 a5 a6 a7 b0 b1 b2 b3 b4 b5 b6 b7 c0 c1 c2 c3 c4 c5 c6 c7
                  have K4a : Hid (Hd w4 ga a) := K3a.out.keep t4
                  have K4b : Hid (Hd w4 gb b) := K3b.out.keep t4
                  have K4c : Hid (Hd w4 gc c) := K3c.out.keep t4
                  have T4 : Hid (Touch (fun _ => False) w w4) := T3.out.trans t4
                  clear t4 T3 K3a K3b K3c
                  obtain ⟨a0, a1, a2, a3, a4, a5, a6, a7⟩ := K4a.out
                  obtain ⟨b0, b1, b2, b3, b4, b5, b6, b7⟩ := K4b.out
                  obtain ⟨c0, c1, c2, c3, c4, c5, c6, c7⟩ := K4c.out
                  go_wp2_with fail
                  go_meet
                  case rel => exact ⟨rfl, T4.out, K4a.out, K4b.out, K4c.out⟩
              · have hb4 : (a.new b == 1) = false := beq_eq_false_iff_ne.mpr h3
                obtain ⟨u, hu⟩ : ∃ u, a.new b = u := ⟨_, rfl⟩
                rw [hu] at hb4
                have G4 : Hid (a.new b = u) := hu
                clear h3 hu
                go_wp2_with fail
                refine Calls.mono (seq_hv _ _ _ G3.out _) ?_
                rintro e w2 ⟨rfl, t2⟩
                clear a0 a1 a2 a3 a4 a5 a6 a7 b0 b1 b2 b3 b4 b5 b6 b7 c0 c1 c2 c3 c4 c5 c6 c7
                have K2a : Hid (Hd w2 ga a) := K1a.out.keep t2
                have K2b : Hid (Hd w2 gb b) := K1b.out.keep t2
                have K2c : Hid (Hd w2 gc c) := K1c.out.keep t2
                have T2 : Hid (Touch (fun _ => False) w w2) := T1.out.trans t2
                clear t2 T1 K1a K1b K1c
                obtain ⟨a0, a1, a2, a3, a4, a5, a6, a7⟩ := K2a.out
                obtain ⟨b0, b1, b2, b3, b4, b5, b6, b7⟩ := K2b.out
                obtain ⟨c0, c1, c2, c3, c4, c5, c6, c7⟩ := K2c.out
                go_wp2_with fail
                refine Calls.mono (newer_hv a b HA.out HB.out _ G4.out _) ?_
                rintro e w3 ⟨rfl, t3⟩
                clear a0 a1 a2 a3 a4 a5 a6 a7 b0 b1 b2 b3 b4 b5 b6 b7 c0 c1 c2 c3 c4 c5 c6 c7
                have K3a : Hid (Hd w3 ga a) := K2a.out.keep t3
                have K3b : Hid (Hd w3 gb b) := K2b.out.keep t3
                have K3c : Hid (Hd w3 gc c) := K2c.out.keep t3
                have T3 : Hid (Touch (fun _ => False) w w3) := T2.out.trans t3
                clear t3 T2 K2a K2b K2c
                obtain ⟨a0, a1, a2, a3, a4, a5, a6, a7⟩ := K3a.out
                obtain ⟨b0, b1, b2, b3, b4, b5, b6, b7⟩ := K3b.out
                obtain ⟨c0, c1, c2, c3, c4, c5, c6, c7⟩ := K3c.out
                go_wp2_with fail
                go_meet
                case rel => exact ⟨rfl, T3.out, K3a.out, K3b.out, K3c.out⟩
            · have hb2 : (b.seq == c.seq) = false := beq_eq_false_iff_ne.mpr h2
              clear h2
              go_wp2_with fail
              refine Calls.mono (seq_hv _ _ _ G3.out _) ?_
              rintro e w2 ⟨rfl, t2⟩
              clear a0 a1 a2 a3 a4 a5 a6 a7 b0 b1 b2 b3 b4 b5 b6 b7 c0 c1 c2 c3 c4 c5 c6 c7
              have K2a : Hid (Hd w2 ga a) := K1a.out.keep t2
              have K2b : Hid (Hd w2 gb b) := K1b.out.keep t2
              have K2c : Hid (Hd w2 gc c) := K1c.out.keep t2
              have T2 : Hid (Touch (fun _ => False) w w2) := T1.out.trans t2
              clear t2 T1 K1a K1b K1c
              obtain ⟨a0, a1, a2, a3, a4, a5, a6, a7⟩ := K2a.out
              obtain ⟨b0, b1, b2, b3, b4, b5, b6, b7⟩ := K2b.out
              obtain ⟨c0, c1, c2, c3, c4, c5, c6, c7⟩ := K2c.out
              go_wp2_with fail
              go_meet
              case rel => exact ⟨rfl, T2.out, K2a.out, K2b.out, K2c.out⟩
          · have hb1 : (a.seq == b.seq) = false := beq_eq_false_iff_ne.mpr (by omega)
            have G3 : Hid (cmpI a.seq b.seq = 1) := cmpI_gt h
            have G4 : Hid (a.new b = 1) := newI_seq h _ _ _ _
            clear h
            go_wp2_with fail
            refine Calls.mono (seq_hv _ _ _ G3.out _) ?_
            rintro e w2 ⟨rfl, t2⟩
            clear a0 a1 a2 a3 a4 a5 a6 a7 b0 b1 b2 b3 b4 b5 b6 b7 c0 c1 c2 c3 c4 c5 c6 c7
            have K2a : Hid (Hd w2 ga a) := K1a.out.keep t2
            have K2b : Hid (Hd w2 gb b) := K1b.out.keep t2
            have K2c : Hid (Hd w2 gc c) := K1c.out.keep t2
            have T2 : Hid (Touch (fun _ => False) w w2) := T1.out.trans t2
            clear t2 T1 K1a K1b K1c
            obtain ⟨a0, a1, a2, a3, a4, a5, a6, a7⟩ := K2a.out
            obtain ⟨b0, b1, b2, b3, b4, b5, b6, b7⟩ := K2b.out
            obtain ⟨c0, c1, c2, c3, c4, c5, c6, c7⟩ := K2c.out
            go_wp2_with fail
            refine Calls.mono (newer_hv a b HA.out HB.out _ G4.out _) ?_
            rintro e w3 ⟨rfl, t3⟩
            clear a0 a1 a2 a3 a4 a5 a6 a7 b0 b1 b2 b3 b4 b5 b6 b7 c0 c1 c2 c3 c4 c5 c6 c7
            have K3a : Hid (Hd w3 ga a) := K2a.out.keep t3
            have K3b : Hid (Hd w3 gb b) := K2b.out.keep t3
            have K3c : Hid (Hd w3 gc c) := K2c.out.keep t3
            have T3 : Hid (Touch (fun _ => False) w w3) := T2.out.trans t3
            clear t3 T2 K2a K2b K2c
            obtain ⟨a0, a1, a2, a3, a4, a5, a6, a7⟩ := K3a.out
            obtain ⟨b0, b1, b2, b3, b4, b5, b6, b7⟩ := K3b.out
            obtain ⟨c0, c1, c2, c3, c4, c5, c6, c7⟩ := K3c.out
            go_wp2_with fail
            go_meet
            case rel => exact ⟨rfl, T3.out, K3a.out, K3b.out, K3c.out⟩
      case rest =>
        as_aux_lemma =>
          obtain ⟨rfl, HW⟩ := hcut
          have T6 : Hid (Touch (fun _ => False) w wc) := HW.out.1
          have K6a : Hid (Hd wc ga a) := HW.out.2.1
          have K6b : Hid (Hd wc gb b) := HW.out.2.2.1
          have K6c : Hid (Hd wc gc c) := HW.out.2.2.2
          clear HW
          clear a0 a1 a2 a3 a4 a5 a6 a7 b0 b1 b2 b3 b4 b5 b6 b7 c0 c1 c2 c3 c4 c5 c6 c7
          clear T1 K1a K1b K1c
          obtain ⟨a0, a1, a2, a3, a4, a5, a6, a7⟩ := K6a.out
          obtain ⟨b0, b1, b2, b3, b4, b5, b6, b7⟩ := K6b.out
          obtain ⟨c0, c1, c2, c3, c4, c5, c6, c7⟩ := K6c.out
          obtain ⟨n, is, HN, hn⟩ := next_sym a.seq HA.out.s0 HA.out.s1
          have HNN : Hid _ := hn
          clear hn
          go_wp2_with fail
          refine Calls.mono (HN _) ?_
          rintro e w7 ⟨rfl, rfl⟩
          clear HN
          go_upto_region 8 with fail
          clear a0 a1 a2 a3 a4 a5 a6 a7 b0 b1 b2 b3 b4 b5 b6 b7 c0 c1 c2 c3 c4 c5 c6 c7
          have K8n : Hid (Hd (wc.alloc (.cells #[.int .u16 b.age, .int .u8 b.opts, .int .u8 b.typ, .int .u32 b.id, .int .u32 b.adv, .int .i32 n, .int .u16 b.sum, .int .u16 b.len] 25)) wc.heap.size ⟨b.age, b.opts, b.typ, b.id, b.adv, n, b.sum, b.len⟩) := Hd.new wc ⟨b.age, b.opts, b.typ, b.id, b.adv, n, b.sum, b.len⟩ _
          have K8a : Hid (Hd (wc.alloc (.cells #[.int .u16 b.age, .int .u8 b.opts, .int .u8 b.typ, .int .u32 b.id, .int .u32 b.adv, .int .i32 n, .int .u16 b.sum, .int .u16 b.len] 25)) ga a) := K6a.out.keep ((Touch.refl _ _).alloc _)
          have K8b : Hid (Hd (wc.alloc (.cells #[.int .u16 b.age, .int .u8 b.opts, .int .u8 b.typ, .int .u32 b.id, .int .u32 b.adv, .int .i32 n, .int .u16 b.sum, .int .u16 b.len] 25)) gb b) := K6b.out.keep ((Touch.refl _ _).alloc _)
          have K8c : Hid (Hd (wc.alloc (.cells #[.int .u16 b.age, .int .u8 b.opts, .int .u8 b.typ, .int .u32 b.id, .int .u32 b.adv, .int .i32 n, .int .u16 b.sum, .int .u16 b.len] 25)) gc c) := K6c.out.keep ((Touch.refl _ _).alloc _)
          have T8 : Hid (Touch (fun _ => False) w (wc.alloc (.cells #[.int .u16 b.age, .int .u8 b.opts, .int .u8 b.typ, .int .u32 b.id, .int .u32 b.adv, .int .i32 n, .int .u16 b.sum, .int .u16 b.len] 25))) := T6.out.alloc _
          clear T6 K6a K6b K6c
          generalize wc.alloc (.cells #[.int .u16 b.age, .int .u8 b.opts, .int .u8 b.typ, .int .u32 b.id, .int .u32 b.adv, .int .i32 n, .int .u16 b.sum, .int .u16 b.len] 25) = w8 at K8n K8a K8b K8c T8 ⊢
          generalize wc.heap.size = gn at K8n ⊢
          obtain ⟨n0, n1, n2, n3, n4, n5, n6, n7⟩ := K8n.out
          dsimp only at n0 n1 n2 n3 n4 n5 n6 n7
          obtain ⟨a0, a1, a2, a3, a4, a5, a6, a7⟩ := K8a.out
          obtain ⟨b0, b1, b2, b3, b4, b5, b6, b7⟩ := K8b.out
          obtain ⟨c0, c1, c2, c3, c4, c5, c6, c7⟩ := K8c.out
          go_cut [120] (fun r wx => r = .bool false ∧ Hid (Touch (fun _ => False) w wx ∧ Hd wx ga a ∧ Hd wx gb b ∧ Hd wx gc c))
          case first =>
            as_aux_lemma =>
              rcases HNN.out with ⟨rfl, rfl, h⟩ | ⟨rfl, h, rfl⟩
              · have G7 : Hid (HV.new ⟨b.age, b.opts, b.typ, b.id, b.adv, a.seq + 1, b.sum, b.len⟩ a = 1) := newI_seq (show a.seq < a.seq + 1 by omega) _ _ _ _
                have ON : Hid (HV.Ok ⟨b.age, b.opts, b.typ, b.id, b.adv, a.seq + 1, b.sum, b.len⟩) := ⟨HB.out.a0, HB.out.a1, by have := HA.out.s0; show -2147483648 ≤ a.seq + 1; omega, by have := HA.out.s1; show a.seq + 1 ≤ 2147483647; omega⟩
                clear h HNN
                go_wp2_with fail
                clear n0 n1 n2 n3 n4 n5 n6 n7 K8n
                refine Calls.mono (newer_hv ⟨b.age, b.opts, b.typ, b.id, b.adv, a.seq + 1, b.sum, b.len⟩ a ON.out HA.out _ G7.out _) ?_
                rintro e w9 ⟨rfl, t9⟩
                clear a0 a1 a2 a3 a4 a5 a6 a7 b0 b1 b2 b3 b4 b5 b6 b7 c0 c1 c2 c3 c4 c5 c6 c7
                have K9a : Hid (Hd w9 ga a) := K8a.out.keep t9
                have K9b : Hid (Hd w9 gb b) := K8b.out.keep t9
                have K9c : Hid (Hd w9 gc c) := K8c.out.keep t9
                have T9 : Hid (Touch (fun _ => False) w w9) := T8.out.trans t9
                clear t9 T8 K8a K8b K8c
                obtain ⟨a0, a1, a2, a3, a4, a5, a6, a7⟩ := K9a.out
                obtain ⟨b0, b1, b2, b3, b4, b5, b6, b7⟩ := K9b.out
                obtain ⟨c0, c1, c2, c3, c4, c5, c6, c7⟩ := K9c.out
                go_wp2_with fail
                go_meet
                case rel => exact ⟨rfl, T9.out, K9a.out, K9b.out, K9c.out⟩
              · have hb : (a.seq != 2147483647) = false := by rw [h]; exact bne_self_eq_false _
                clear h HNN
                go_wp2_with fail
                go_meet
                case rel => exact ⟨rfl, T8.out, K8a.out, K8b.out, K8c.out⟩
          case rest =>
            as_aux_lemma =>
              obtain ⟨rfl, HW⟩ := hcut
              have T10 : Hid (Touch (fun _ => False) w wc) := HW.out.1
              have K10a : Hid (Hd wc ga a) := HW.out.2.1
              have K10b : Hid (Hd wc gb b) := HW.out.2.2.1
              have K10c : Hid (Hd wc gc c) := HW.out.2.2.2
              clear HW
              clear n0 n1 n2 n3 n4 n5 n6 n7 a0 a1 a2 a3 a4 a5 a6 a7 b0 b1 b2 b3 b4 b5 b6 b7 c0 c1 c2 c3 c4 c5 c6 c7
              clear T8 K8n K8a K8b K8c
              obtain ⟨a0, a1, a2, a3, a4, a5, a6, a7⟩ := K10a.out
              obtain ⟨b0, b1, b2, b3, b4, b5, b6, b7⟩ := K10b.out
              obtain ⟨c0, c1, c2, c3, c4, c5, c6, c7⟩ := K10c.out
              go_upto_region 12 with fail
              clear a0 a1 a2 a3 a4 a5 a6 a7 b0 b1 b2 b3 b4 b5 b6 b7 c0 c1 c2 c3 c4 c5 c6 c7
              have K11o : Hid (Hd (wc.alloc (.cells #[.int .u16 3600, .int .u8 a.opts, .int .u8 a.typ, .int .u32 a.id, .int .u32 a.adv, .int .i32 a.seq, .int .u16 a.sum, .int .u16 a.len] 25)) wc.heap.size ⟨3600, a.opts, a.typ, a.id, a.adv, a.seq, a.sum, a.len⟩) := Hd.new wc ⟨3600, a.opts, a.typ, a.id, a.adv, a.seq, a.sum, a.len⟩ _
              have K11a : Hid (Hd (wc.alloc (.cells #[.int .u16 3600, .int .u8 a.opts, .int .u8 a.typ, .int .u32 a.id, .int .u32 a.adv, .int .i32 a.seq, .int .u16 a.sum, .int .u16 a.len] 25)) ga a) := K10a.out.keep ((Touch.refl _ _).alloc _)
              have K11b : Hid (Hd (wc.alloc (.cells #[.int .u16 3600, .int .u8 a.opts, .int .u8 a.typ, .int .u32 a.id, .int .u32 a.adv, .int .i32 a.seq, .int .u16 a.sum, .int .u16 a.len] 25)) gb b) := K10b.out.keep ((Touch.refl _ _).alloc _)
              have K11c : Hid (Hd (wc.alloc (.cells #[.int .u16 3600, .int .u8 a.opts, .int .u8 a.typ, .int .u32 a.id, .int .u32 a.adv, .int .i32 a.seq, .int .u16 a.sum, .int .u16 a.len] 25)) gc c) := K10c.out.keep ((Touch.refl _ _).alloc _)
              have T11 : Hid (Touch (fun _ => False) w (wc.alloc (.cells #[.int .u16 3600, .int .u8 a.opts, .int .u8 a.typ, .int .u32 a.id, .int .u32 a.adv, .int .i32 a.seq, .int .u16 a.sum, .int .u16 a.len] 25))) := T10.out.alloc _
              clear T10 K10a K10b K10c
              generalize wc.alloc (.cells #[.int .u16 3600, .int .u8 a.opts, .int .u8 a.typ, .int .u32 a.id, .int .u32 a.adv, .int .i32 a.seq, .int .u16 a.sum, .int .u16 a.len] 25) = w11 at K11o K11a K11b K11c T11 ⊢
              generalize wc.heap.size = go at K11o ⊢
              obtain ⟨o0, o1, o2, o3, o4, o5, o6, o7⟩ := K11o.out
              dsimp only at o0 o1 o2 o3 o4 o5 o6 o7
              obtain ⟨a0, a1, a2, a3, a4, a5, a6, a7⟩ := K11a.out
              obtain ⟨b0, b1, b2, b3, b4, b5, b6, b7⟩ := K11b.out
              obtain ⟨c0, c1, c2, c3, c4, c5, c6, c7⟩ := K11c.out
              clear b0 b1 b2 b3 b4 b5 b6 b7 c0 c1 c2 c3 c4 c5 c6 c7 K11b K11c
              obtain ⟨z, HZ⟩ : ∃ z, Hid (ageI a.age (p + q) = z) := ⟨_, rfl⟩
              obtain ⟨y, HY⟩ : ∃ y, Hid (ageI a.age p = y) := ⟨_, rfl⟩
              have HZZ : Hid (ageI y q = z) := by show _ = _; rw [← HZ.out, ← HY.out]; exact (ageI_two HA.out.a0 HA.out.a1 hp0 hq0).symm
              have HYB : Hid (0 ≤ y ∧ y < 65536) := by show _ ∧ _; rw [← HY.out]; exact ageI_bound HA.out.a0 HA.out.a1
              have HZB : Hid (0 ≤ z ∧ z < 65536) := by show _ ∧ _; rw [← HZ.out]; exact ageI_bound HA.out.a0 HA.out.a1
              have OO : Hid (HV.Ok ⟨3600, a.opts, a.typ, a.id, a.adv, a.seq, a.sum, a.len⟩) := ⟨by show (0 : Int) ≤ 3600; omega, by show (3600 : Int) < 65536; omega, HA.out.s0, HA.out.s1⟩
              have HR : Hid (HV.new ⟨3600, a.opts, a.typ, a.id, a.adv, a.seq, a.sum, a.len⟩ a = if yrs a.age = 3600 then 0 else 1) := newI_old _ _ _
              by_cases ho : yrs a.age = 3600
              · have HO : Hid (decide (yrs a.age = 3600) = true) := decide_eq_true ho
                have HS : Hid (HV.new ⟨3600, a.opts, a.typ, a.id, a.adv, a.seq, a.sum, a.len⟩ a = 0) := HR.out.trans (if_pos ho)
                have HOZ : Hid (decide (yrs z = 3600) = true) := by show _ = _; rw [← HZ.out]; exact decide_eq_true (ageI_old ho)
                clear ho HR
                go_wp2_with fail
                refine Calls.mono (old_hv 3600 (by omega) (by omega) true (by decide) _) ?_
                rintro e w12 ⟨rfl, t12⟩
                clear a0 a1 a2 a3 a4 a5 a6 a7 o0 o1 o2 o3 o4 o5 o6 o7
                have K12a : Hid (Hd w12 ga a) := K11a.out.keep t12
                have K12o : Hid (Hd w12 go ⟨3600, a.opts, a.typ, a.id, a.adv, a.seq, a.sum, a.len⟩) := K11o.out.keep t12
                have T12 : Hid (Touch (fun _ => False) w w12) := T11.out.trans t12
                clear t12 T11 K11a K11o
                obtain ⟨a0, a1, a2, a3, a4, a5, a6, a7⟩ := K12a.out
                obtain ⟨o0, o1, o2, o3, o4, o5, o6, o7⟩ := K12o.out
                dsimp only at o0 o1 o2 o3 o4 o5 o6 o7
                go_wp2_with fail
                refine Calls.mono (newer_hv ⟨3600, a.opts, a.typ, a.id, a.adv, a.seq, a.sum, a.len⟩ a OO.out HA.out _ HS.out _) ?_
                rintro e w13 ⟨rfl, t13⟩
                clear a0 a1 a2 a3 a4 a5 a6 a7 o0 o1 o2 o3 o4 o5 o6 o7
                have K13a : Hid (Hd w13 ga a) := K12a.out.keep t13
                have K13o : Hid (Hd w13 go ⟨3600, a.opts, a.typ, a.id, a.adv, a.seq, a.sum, a.len⟩) := K12o.out.keep t13
                have T13 : Hid (Touch (fun _ => False) w w13) := T12.out.trans t13
                clear t13 T12 K12a K12o
                obtain ⟨a0, a1, a2, a3, a4, a5, a6, a7⟩ := K13a.out
                obtain ⟨o0, o1, o2, o3, o4, o5, o6, o7⟩ := K13o.out
                dsimp only at o0 o1 o2 o3 o4 o5 o6 o7
                go_wp2_with fail
                refine Calls.mono (old_hv a.age HA.out.a0 HA.out.a1 true HO.out _) ?_
                rintro e w14 ⟨rfl, t14⟩
                clear a0 a1 a2 a3 a4 a5 a6 a7 o0 o1 o2 o3 o4 o5 o6 o7
                have K14a : Hid (Hd w14 ga a) := K13a.out.keep t14
                have K14o : Hid (Hd w14 go ⟨3600, a.opts, a.typ, a.id, a.adv, a.seq, a.sum, a.len⟩) := K13o.out.keep t14
                have T14 : Hid (Touch (fun _ => False) w w14) := T13.out.trans t14
                clear t14 T13 K13a K13o
                obtain ⟨a0, a1, a2, a3, a4, a5, a6, a7⟩ := K14a.out
                obtain ⟨o0, o1, o2, o3, o4, o5, o6, o7⟩ := K14o.out
                dsimp only at o0 o1 o2 o3 o4 o5 o6 o7
                go_wp2_with fail
                refine Calls.mono (newer_hv ⟨3600, a.opts, a.typ, a.id, a.adv, a.seq, a.sum, a.len⟩ a OO.out HA.out _ HS.out _) ?_
                rintro e w15 ⟨rfl, t15⟩
                clear a0 a1 a2 a3 a4 a5 a6 a7 o0 o1 o2 o3 o4 o5 o6 o7
                have K15a : Hid (Hd w15 ga a) := K14a.out.keep t15
                have K15o : Hid (Hd w15 go ⟨3600, a.opts, a.typ, a.id, a.adv, a.seq, a.sum, a.len⟩) := K14o.out.keep t15
                have T15 : Hid (Touch (fun _ => False) w w15) := T14.out.trans t15
                clear t15 T14 K14a K14o
                obtain ⟨a0, a1, a2, a3, a4, a5, a6, a7⟩ := K15a.out
                obtain ⟨o0, o1, o2, o3, o4, o5, o6, o7⟩ := K15o.out
                dsimp only at o0 o1 o2 o3 o4 o5 o6 o7
                go_wp2_with fail
                refine Calls.mono (age_hv a.age (p + q) HA.out.a0 HA.out.a1 z HZ.out _) ?_
                rintro e w16 ⟨rfl, t16⟩
                clear a0 a1 a2 a3 a4 a5 a6 a7 o0 o1 o2 o3 o4 o5 o6 o7
                have K16a : Hid (Hd w16 ga a) := K15a.out.keep t16
                have K16o : Hid (Hd w16 go ⟨3600, a.opts, a.typ, a.id, a.adv, a.seq, a.sum, a.len⟩) := K15o.out.keep t16
                have T16 : Hid (Touch (fun _ => False) w w16) := T15.out.trans t16
                clear t16 T15 K15a K15o
                obtain ⟨a0, a1, a2, a3, a4, a5, a6, a7⟩ := K16a.out
                obtain ⟨o0, o1, o2, o3, o4, o5, o6, o7⟩ := K16o.out
                dsimp only at o0 o1 o2 o3 o4 o5 o6 o7
                go_wp2_with fail
                refine Calls.mono (age_hv a.age p HA.out.a0 HA.out.a1 y HY.out _) ?_
                rintro e w17 ⟨rfl, t17⟩
                clear a0 a1 a2 a3 a4 a5 a6 a7 o0 o1 o2 o3 o4 o5 o6 o7
                have K17a : Hid (Hd w17 ga a) := K16a.out.keep t17
                have K17o : Hid (Hd w17 go ⟨3600, a.opts, a.typ, a.id, a.adv, a.seq, a.sum, a.len⟩) := K16o.out.keep t17
                have T17 : Hid (Touch (fun _ => False) w w17) := T16.out.trans t17
                clear t17 T16 K16a K16o
                obtain ⟨a0, a1, a2, a3, a4, a5, a6, a7⟩ := K17a.out
                obtain ⟨o0, o1, o2, o3, o4, o5, o6, o7⟩ := K17o.out
                dsimp only at o0 o1 o2 o3 o4 o5 o6 o7
                go_wp2_with fail
                refine Calls.mono (age_hv y q HYB.out.1 HYB.out.2 z HZZ.out _) ?_
                rintro e w18 ⟨rfl, t18⟩
                clear a0 a1 a2 a3 a4 a5 a6 a7 o0 o1 o2 o3 o4 o5 o6 o7
                have K18a : Hid (Hd w18 ga a) := K17a.out.keep t18
                have K18o : Hid (Hd w18 go ⟨3600, a.opts, a.typ, a.id, a.adv, a.seq, a.sum, a.len⟩) := K17o.out.keep t18
                have T18 : Hid (Touch (fun _ => False) w w18) := T17.out.trans t18
                clear t18 T17 K17a K17o
                obtain ⟨a0, a1, a2, a3, a4, a5, a6, a7⟩ := K18a.out
                obtain ⟨o0, o1, o2, o3, o4, o5, o6, o7⟩ := K18o.out
                dsimp only at o0 o1 o2 o3 o4 o5 o6 o7
                go_wp2_with fail
                refine Calls.mono (old_hv a.age HA.out.a0 HA.out.a1 true HO.out _) ?_
                rintro e w19 ⟨rfl, t19⟩
                clear a0 a1 a2 a3 a4 a5 a6 a7 o0 o1 o2 o3 o4 o5 o6 o7
                have K19a : Hid (Hd w19 ga a) := K18a.out.keep t19
                have K19o : Hid (Hd w19 go ⟨3600, a.opts, a.typ, a.id, a.adv, a.seq, a.sum, a.len⟩) := K18o.out.keep t19
                have T19 : Hid (Touch (fun _ => False) w w19) := T18.out.trans t19
                clear t19 T18 K18a K18o
                obtain ⟨a0, a1, a2, a3, a4, a5, a6, a7⟩ := K19a.out
                obtain ⟨o0, o1, o2, o3, o4, o5, o6, o7⟩ := K19o.out
                dsimp only at o0 o1 o2 o3 o4 o5 o6 o7
                go_wp2_with fail
                refine Calls.mono (old_hv z HZB.out.1 HZB.out.2 true HOZ.out _) ?_
                rintro e w20 ⟨rfl, t20⟩
                clear a0 a1 a2 a3 a4 a5 a6 a7 o0 o1 o2 o3 o4 o5 o6 o7
                have K20a : Hid (Hd w20 ga a) := K19a.out.keep t20
                have K20o : Hid (Hd w20 go ⟨3600, a.opts, a.typ, a.id, a.adv, a.seq, a.sum, a.len⟩) := K19o.out.keep t20
                have T20 : Hid (Touch (fun _ => False) w w20) := T19.out.trans t20
                clear t20 T19 K19a K19o
                obtain ⟨a0, a1, a2, a3, a4, a5, a6, a7⟩ := K20a.out
                obtain ⟨o0, o1, o2, o3, o4, o5, o6, o7⟩ := K20o.out
                dsimp only at o0 o1 o2 o3 o4 o5 o6 o7
                go_wp2_with fail
                refine Calls.mono (lives_any _) ?_
                rintro e w21 ⟨rfl, t21⟩
                clear a0 a1 a2 a3 a4 a5 a6 a7 o0 o1 o2 o3 o4 o5 o6 o7
                have K21a : Hid (Hd w21 ga a) := K20a.out.keep t21
                have K21o : Hid (Hd w21 go ⟨3600, a.opts, a.typ, a.id, a.adv, a.seq, a.sum, a.len⟩) := K20o.out.keep t21
                have T21 : Hid (Touch (fun _ => False) w w21) := T20.out.trans t21
                clear t21 T20 K20a K20o
                obtain ⟨a0, a1, a2, a3, a4, a5, a6, a7⟩ := K21a.out
                obtain ⟨o0, o1, o2, o3, o4, o5, o6, o7⟩ := K21o.out
                dsimp only at o0 o1 o2 o3 o4 o5 o6 o7
                go_wp2_with fail
                go_ret
                exact ⟨rfl, T21.out⟩
              · have HO : Hid (decide (yrs a.age = 3600) = false) := decide_eq_false ho
                have HS : Hid (HV.new ⟨3600, a.opts, a.typ, a.id, a.adv, a.seq, a.sum, a.len⟩ a = 1) := HR.out.trans (if_neg ho)
                clear ho HR
                go_wp2_with fail
                refine Calls.mono (old_hv 3600 (by omega) (by omega) true (by decide) _) ?_
                rintro e w12 ⟨rfl, t12⟩
                clear a0 a1 a2 a3 a4 a5 a6 a7 o0 o1 o2 o3 o4 o5 o6 o7
                have K12a : Hid (Hd w12 ga a) := K11a.out.keep t12
                have K12o : Hid (Hd w12 go ⟨3600, a.opts, a.typ, a.id, a.adv, a.seq, a.sum, a.len⟩) := K11o.out.keep t12
                have T12 : Hid (Touch (fun _ => False) w w12) := T11.out.trans t12
                clear t12 T11 K11a K11o
                obtain ⟨a0, a1, a2, a3, a4, a5, a6, a7⟩ := K12a.out
                obtain ⟨o0, o1, o2, o3, o4, o5, o6, o7⟩ := K12o.out
                dsimp only at o0 o1 o2 o3 o4 o5 o6 o7
                go_wp2_with fail
                refine Calls.mono (newer_hv ⟨3600, a.opts, a.typ, a.id, a.adv, a.seq, a.sum, a.len⟩ a OO.out HA.out _ HS.out _) ?_
                rintro e w13 ⟨rfl, t13⟩
                clear a0 a1 a2 a3 a4 a5 a6 a7 o0 o1 o2 o3 o4 o5 o6 o7
                have K13a : Hid (Hd w13 ga a) := K12a.out.keep t13
                have K13o : Hid (Hd w13 go ⟨3600, a.opts, a.typ, a.id, a.adv, a.seq, a.sum, a.len⟩) := K12o.out.keep t13
                have T13 : Hid (Touch (fun _ => False) w w13) := T12.out.trans t13
                clear t13 T12 K12a K12o
                obtain ⟨a0, a1, a2, a3, a4, a5, a6, a7⟩ := K13a.out
                obtain ⟨o0, o1, o2, o3, o4, o5, o6, o7⟩ := K13o.out
                dsimp only at o0 o1 o2 o3 o4 o5 o6 o7
                go_wp2_with fail
                refine Calls.mono (newer_hv ⟨3600, a.opts, a.typ, a.id, a.adv, a.seq, a.sum, a.len⟩ a OO.out HA.out _ HS.out _) ?_
                rintro e w14 ⟨rfl, t14⟩
                clear a0 a1 a2 a3 a4 a5 a6 a7 o0 o1 o2 o3 o4 o5 o6 o7
                have K14a : Hid (Hd w14 ga a) := K13a.out.keep t14
                have K14o : Hid (Hd w14 go ⟨3600, a.opts, a.typ, a.id, a.adv, a.seq, a.sum, a.len⟩) := K13o.out.keep t14
                have T14 : Hid (Touch (fun _ => False) w w14) := T13.out.trans t14
                clear t14 T13 K13a K13o
                obtain ⟨a0, a1, a2, a3, a4, a5, a6, a7⟩ := K14a.out
                obtain ⟨o0, o1, o2, o3, o4, o5, o6, o7⟩ := K14o.out
                dsimp only at o0 o1 o2 o3 o4 o5 o6 o7
                go_wp2_with fail
                refine Calls.mono (old_hv a.age HA.out.a0 HA.out.a1 false HO.out _) ?_
                rintro e w15 ⟨rfl, t15⟩
                clear a0 a1 a2 a3 a4 a5 a6 a7 o0 o1 o2 o3 o4 o5 o6 o7
                have K15a : Hid (Hd w15 ga a) := K14a.out.keep t15
                have K15o : Hid (Hd w15 go ⟨3600, a.opts, a.typ, a.id, a.adv, a.seq, a.sum, a.len⟩) := K14o.out.keep t15
                have T15 : Hid (Touch (fun _ => False) w w15) := T14.out.trans t15
                clear t15 T14 K14a K14o
                obtain ⟨a0, a1, a2, a3, a4, a5, a6, a7⟩ := K15a.out
                obtain ⟨o0, o1, o2, o3, o4, o5, o6, o7⟩ := K15o.out
                dsimp only at o0 o1 o2 o3 o4 o5 o6 o7
                go_wp2_with fail
                refine Calls.mono (age_hv a.age (p + q) HA.out.a0 HA.out.a1 z HZ.out _) ?_
                rintro e w16 ⟨rfl, t16⟩
                clear a0 a1 a2 a3 a4 a5 a6 a7 o0 o1 o2 o3 o4 o5 o6 o7
                have K16a : Hid (Hd w16 ga a) := K15a.out.keep t16
                have K16o : Hid (Hd w16 go ⟨3600, a.opts, a.typ, a.id, a.adv, a.seq, a.sum, a.len⟩) := K15o.out.keep t16
                have T16 : Hid (Touch (fun _ => False) w w16) := T15.out.trans t16
                clear t16 T15 K15a K15o
                obtain ⟨a0, a1, a2, a3, a4, a5, a6, a7⟩ := K16a.out
                obtain ⟨o0, o1, o2, o3, o4, o5, o6, o7⟩ := K16o.out
                dsimp only at o0 o1 o2 o3 o4 o5 o6 o7
                go_wp2_with fail
                refine Calls.mono (age_hv a.age p HA.out.a0 HA.out.a1 y HY.out _) ?_
                rintro e w17 ⟨rfl, t17⟩
                clear a0 a1 a2 a3 a4 a5 a6 a7 o0 o1 o2 o3 o4 o5 o6 o7
                have K17a : Hid (Hd w17 ga a) := K16a.out.keep t17
                have K17o : Hid (Hd w17 go ⟨3600, a.opts, a.typ, a.id, a.adv, a.seq, a.sum, a.len⟩) := K16o.out.keep t17
                have T17 : Hid (Touch (fun _ => False) w w17) := T16.out.trans t17
                clear t17 T16 K16a K16o
                obtain ⟨a0, a1, a2, a3, a4, a5, a6, a7⟩ := K17a.out
                obtain ⟨o0, o1, o2, o3, o4, o5, o6, o7⟩ := K17o.out
                dsimp only at o0 o1 o2 o3 o4 o5 o6 o7
                go_wp2_with fail
                refine Calls.mono (age_hv y q HYB.out.1 HYB.out.2 z HZZ.out _) ?_
                rintro e w18 ⟨rfl, t18⟩
                clear a0 a1 a2 a3 a4 a5 a6 a7 o0 o1 o2 o3 o4 o5 o6 o7
                have K18a : Hid (Hd w18 ga a) := K17a.out.keep t18
                have K18o : Hid (Hd w18 go ⟨3600, a.opts, a.typ, a.id, a.adv, a.seq, a.sum, a.len⟩) := K17o.out.keep t18
                have T18 : Hid (Touch (fun _ => False) w w18) := T17.out.trans t18
                clear t18 T17 K17a K17o
                obtain ⟨a0, a1, a2, a3, a4, a5, a6, a7⟩ := K18a.out
                obtain ⟨o0, o1, o2, o3, o4, o5, o6, o7⟩ := K18o.out
                dsimp only at o0 o1 o2 o3 o4 o5 o6 o7
                go_wp2_with fail
                refine Calls.mono (old_hv a.age HA.out.a0 HA.out.a1 false HO.out _) ?_
                rintro e w19 ⟨rfl, t19⟩
                clear a0 a1 a2 a3 a4 a5 a6 a7 o0 o1 o2 o3 o4 o5 o6 o7
                have K19a : Hid (Hd w19 ga a) := K18a.out.keep t19
                have K19o : Hid (Hd w19 go ⟨3600, a.opts, a.typ, a.id, a.adv, a.seq, a.sum, a.len⟩) := K18o.out.keep t19
                have T19 : Hid (Touch (fun _ => False) w w19) := T18.out.trans t19
                clear t19 T18 K18a K18o
                obtain ⟨a0, a1, a2, a3, a4, a5, a6, a7⟩ := K19a.out
                obtain ⟨o0, o1, o2, o3, o4, o5, o6, o7⟩ := K19o.out
                dsimp only at o0 o1 o2 o3 o4 o5 o6 o7
                go_wp2_with fail
                refine Calls.mono (lives_any _) ?_
                rintro e w20 ⟨rfl, t20⟩
                clear a0 a1 a2 a3 a4 a5 a6 a7 o0 o1 o2 o3 o4 o5 o6 o7
                have K20a : Hid (Hd w20 ga a) := K19a.out.keep t20
                have K20o : Hid (Hd w20 go ⟨3600, a.opts, a.typ, a.id, a.adv, a.seq, a.sum, a.len⟩) := K19o.out.keep t20
                have T20 : Hid (Touch (fun _ => False) w w20) := T19.out.trans t20
                clear t20 T19 K19a K19o
                obtain ⟨a0, a1, a2, a3, a4, a5, a6, a7⟩ := K20a.out
                obtain ⟨o0, o1, o2, o3, o4, o5, o6, o7⟩ := K20o.out
                dsimp only at o0 o1 o2 o3 o4 o5 o6 o7
                go_wp2_with fail
                go_ret
                exact ⟨rfl, T20.out⟩
end Go.Proofs.Ytfflkconbpiflaa
