/- Package packet's writer: room, number, put: they answer, or give up with 11. -/
import Derived.Test.YtjgeklipeeooaaaGreatDoorReader
import Derived.Test.YtjgeklipeeooaaaGreatDoorStWr
import Derived.Test.YtjgeklipeeooaaaGreatDoorDigBuf
import Derived.Deep.RegionHeld3
import Derived.Deep.DeepCutAuto
namespace Go.Proofs.YtjgeklipeeooaaaGreatDoor
open Go.RowKit
set_option linter.unusedVariables false
set_option maxRecDepth 100000

theorem wlen_any (b : Nat) (v : Value) (bs : List Int) (most err : Int) (w : World) (h : WrS w b v bs most err) : Calls Tryz.prog 132 #[.pointer (some ⟨b, 0, none⟩)] w fun e w' => e = .returned (.int .i64 bs.length) ∧ w = w' := by
  obtain ⟨va, vc, rfl⟩ : ∃ va vc, v = .slice va bs.length vc := by
    rcases h.own.2 with ⟨rfl, e⟩ | ⟨g, cap, cur, rfl, _⟩
    · exact ⟨none, 0, by rw [e]⟩
    · exact ⟨_, _, rfl⟩
  have h1 := h.row
  clear h
  go_enter Tryz.func132, Tryz.ntmps132
  go_wp2
  go_ret
  exact ⟨rfl, rfl⟩
theorem len_w (X : Nat → Prop) (b : Nat) (L : List Int) (most : Int) (w : World) (h : Wr X w b L most) (hl : (L.length : Int) ≤ most) :
    Calls Tryz.prog 132 #[.pointer (some ⟨b, 0, none⟩)] w fun e w' => e = .returned (.int .i64 L.length) ∧ w = w' := by
  obtain ⟨v, ⟨_, h⟩ | ⟨hl', _⟩, _⟩ := h
  · exact wlen_any b v L most 0 w h
  · omega
theorem proom_ok (X : Nat → Prop) (b : Nat) (L : List Int) (n : Nat) (w : World) (h : Wr X w b L 65535) (hL : L.length ≤ 65535) (hn : n ≤ 1099511627776) (hl : L.length + n ≤ 65535) :
    Calls Tryz.prog 156 #[.agg #[.pointer (some ⟨b, 0, none⟩)], .int .i64 (n : Int)] w fun e w' => e = .returned (.tuple #[]) ∧ Touch (fun _ => False) w w' := by
  have HW : Hid (Wr X w b L 65535) := h
  have hw64 : wrap64 ((L.length : Int) + (n : Int)) = (L.length : Int) + (n : Int) := by simp [wrap64]; omega
  have hd : decide ((L.length : Int) + (n : Int) ≤ 65535) = true := by simp; omega
  have hL' : (L.length : Int) ≤ 65535 := by omega
  clear h hL hn hl
  go_enter Tryz.func156, Tryz.ntmps156
  go_wp2_with fail
  refine Calls.mono (len_w X b L 65535 _ (HW.out.keep ((Touch.refl _ _).alloc _)) hL') ?_
  rintro e w1 ⟨rfl, rfl⟩
  go_wp2_with fail
  refine Calls.mono (pneed_t _ 11 _ (by first | rfl | exact hd | simpa using hd)) ?_
  rintro e w2 ⟨rfl, rfl⟩
  go_wp2
  go_end0
  exact ⟨rfl, (Touch.refl _ _).alloc _⟩
theorem proom_no (X : Nat → Prop) (b : Nat) (L : List Int) (n : Nat) (w : World) (h : Wr X w b L 65535) (hL : L.length ≤ 65535) (hn : n ≤ 1099511627776) (hl : 65535 < L.length + n) :
    Calls Tryz.prog 156 #[.agg #[.pointer (some ⟨b, 0, none⟩)], .int .i64 (n : Int)] w fun e w' => e = .panicked (pflawC 11) ∧ Touch (fun _ => False) w w' := by
  have HW : Hid (Wr X w b L 65535) := h
  have hw64 : wrap64 ((L.length : Int) + (n : Int)) = (L.length : Int) + (n : Int) := by simp [wrap64]; omega
  have hd : decide ((L.length : Int) + (n : Int) ≤ 65535) = false := by simp; omega
  have hL' : (L.length : Int) ≤ 65535 := by omega
  clear h hL hn hl
  go_enter Tryz.func156, Tryz.ntmps156
  go_wp2_with fail
  refine Calls.mono (len_w X b L 65535 _ (HW.out.keep ((Touch.refl _ _).alloc _)) hL') ?_
  rintro e w1 ⟨rfl, rfl⟩
  go_wp2_with fail
  refine Calls.mono (pneed_f _ 11 _ (by first | rfl | exact hd | simpa using hd)) ?_
  rintro e w2 ⟨rfl, rfl⟩
  exact ⟨rfl, rfl, (Touch.refl _ _).alloc _⟩

set_option maxHeartbeats 1000000 in
theorem pwnum_ok (n : Nat) (hn : n = 1 ∨ n = 2 ∨ n = 3 ∨ n = 4) (x : Int) (X : Nat → Prop) (b : Nat) (L : List Int) (w : World) (h : Wr X w b L 65535) (hL : L.length ≤ 65535) (hx : 0 ≤ x ∧ x < 256 ^ n) (hl : L.length + n ≤ 65535) :
    Calls Tryz.prog 125 #[.agg #[.pointer (some ⟨b, 0, none⟩)], .int .u32 x, .int .i64 (n : Int)] w fun e w' => e = .returned (.agg #[.pointer (some ⟨b, 0, none⟩)]) ∧ Wr X w' b (L ++ numBytes n x) 65535 ∧ Kept X w w' := by
  obtain ⟨wa, hwa⟩ : ∃ wa, wa = (w.alloc (.cells #[.pointer (some ⟨b, 0, none⟩)] 137)).alloc (.cells #[.pointer none] 137) := ⟨_, rfl⟩
  have ta : Touch (fun _ => False) w wa := by rw [hwa]; exact ((Touch.refl _ w).alloc _).alloc _
  have ca : wa.cell? ⟨w.heap.size, 0, none⟩ = some (.pointer (some ⟨b, 0, none⟩)) := by rw [hwa]; simp [go_sem]
  have cb : wa.cell? ⟨w.heap.size + 1, 0, none⟩ = some (.pointer none) := by rw [hwa]; simp [go_sem]
  have fb : wa.frozen? ⟨w.heap.size + 1, 0, none⟩ = false := by rw [hwa]; simp [go_sem]
  have za : wa.heap.size = w.heap.size + 2 := by rw [hwa]; simp
  obtain ⟨Y, hY⟩ : ∃ Y : Nat → Prop, Y = fun k => X k ∨ (w.heap.size ≤ k ∧ k < wa.heap.size) := ⟨_, rfl⟩
  have HA : Hid (Wr Y wa b L 65535) := by subst hY; exact h.more ta (fun k hk => hk)
  have y0 : Hid (Y w.heap.size) := by subst hY; exact Or.inr (by omega)
  have y1 : Hid (Y (w.heap.size + 1)) := by subst hY; exact Or.inr (by omega)
  have YX : Hid (∀ k, X k → Y k) := by subst hY; exact fun k hk => Or.inl hk
  have TA : Hid (Touch (fun _ => False) w wa) := ta
  have HR := proom_ok Y b L n wa HA.out hL (by omega) hl
  clear hY h ta za
  go_enter Tryz.func125, Tryz.ntmps125
  go_wp2_with fail
  rw [← hwa]
  refine Calls.mono HR ?_
  rintro e w1 ⟨rfl, t1⟩
  have H1 : Hid (Wr Y w1 b L 65535) := HA.out.keep t1
  have T1 : Hid (Touch (fun _ => False) w w1) := TA.out.trans t1
  have d0 := (t1.cell (p := ⟨w.heap.size, 0, none⟩) (lt_of_cellA ca) (fun h => h)).trans ca
  have d1 := (t1.cell (p := ⟨w.heap.size + 1, 0, none⟩) (lt_of_cellA cb) (fun h => h)).trans cb
  have f1 := (t1.frozen (p := ⟨w.heap.size + 1, 0, none⟩) (lt_of_cellA cb) (fun h => h)).trans fb
  have HX : Hid (0 ≤ x ∧ x < 256 ^ n) := hx
  clear hx
  clear HR hwa ca cb fb HA t1 TA
  go_wp2_with fail
  refine Calls.mono (number_w n hn Y b L 65535 x _ H1.out (by omega) HX.out) ?_
  rintro e w2 ⟨rfl, h2, k2⟩
  have e0 := k2.cell d0 y0.out
  have e1 := k2.cell d1 y1.out
  have g1 := k2.frozen (lt_of_cellA d1) f1 y1.out
  have H2 : Hid (Wr Y w2 b (L ++ numBytes n x) 65535) := h2
  have K2 : Hid (Kept X w w2) := (Kept.of T1.out).trans (k2.less (fun k _ hk => YX.out k hk))
  have hne : Hid (w.heap.size ≤ w.heap.size + 1) := Nat.le_succ _
  clear d0 d1 f1 k2 h2 H1
  have de : (w2.setCell ⟨w.heap.size + 1, 0, none⟩ (.pointer (some ⟨b, 0, none⟩))).cell? ⟨w.heap.size + 1, 0, none⟩ = some (.pointer (some ⟨b, 0, none⟩)) := by simp [e1, go_sem]
  have H3 : Hid (Wr X (w2.setCell ⟨w.heap.size + 1, 0, none⟩ (.pointer (some ⟨b, 0, none⟩))) b (L ++ numBytes n x) 65535) := by
    have q : Touch (fun k => k = w.heap.size + 1) w2 (w2.setCell ⟨w.heap.size + 1, 0, none⟩ (.pointer (some ⟨b, 0, none⟩))) := Touch.setCell (F := fun k => k = w.heap.size + 1) (p := ⟨w.heap.size + 1, 0, none⟩) (Touch.refl _ _) (Or.inl rfl) _
    exact (H2.out.touch q (fun k hk => by rw [hk]; exact y1.out)).less YX.out
  have K3 : Hid (Kept X w (w2.setCell ⟨w.heap.size + 1, 0, none⟩ (.pointer (some ⟨b, 0, none⟩)))) := Touch.setCell (p := ⟨w.heap.size + 1, 0, none⟩) K2.out (Or.inr hne.out) _
  go_wp2_with fail
  refine bodyPost_ret (v := .agg #[.pointer (some ⟨b, 0, none⟩)]) (by simp [results, Tryz.results125, go_sem, de]) rfl ?_
  exact ⟨rfl, H3.out, K3.out⟩

set_option maxHeartbeats 1000000 in
theorem pwnum_no (n : Nat) (hn : n = 1 ∨ n = 2 ∨ n = 3 ∨ n = 4) (x : Int) (X : Nat → Prop) (b : Nat) (L : List Int) (w : World) (h : Wr X w b L 65535) (hL : L.length ≤ 65535) (hx : 0 ≤ x ∧ x < 256 ^ n) (hl : 65535 < L.length + n) :
    Calls Tryz.prog 125 #[.agg #[.pointer (some ⟨b, 0, none⟩)], .int .u32 x, .int .i64 (n : Int)] w fun e w' => e = .panicked (pflawC 11) ∧ Kept X w w' := by
  obtain ⟨wa, hwa⟩ : ∃ wa, wa = (w.alloc (.cells #[.pointer (some ⟨b, 0, none⟩)] 137)).alloc (.cells #[.pointer none] 137) := ⟨_, rfl⟩
  have ta : Touch (fun _ => False) w wa := by rw [hwa]; exact ((Touch.refl _ w).alloc _).alloc _
  have ca : wa.cell? ⟨w.heap.size, 0, none⟩ = some (.pointer (some ⟨b, 0, none⟩)) := by rw [hwa]; simp [go_sem]
  have cb : wa.cell? ⟨w.heap.size + 1, 0, none⟩ = some (.pointer none) := by rw [hwa]; simp [go_sem]
  have fb : wa.frozen? ⟨w.heap.size + 1, 0, none⟩ = false := by rw [hwa]; simp [go_sem]
  have za : wa.heap.size = w.heap.size + 2 := by rw [hwa]; simp
  obtain ⟨Y, hY⟩ : ∃ Y : Nat → Prop, Y = fun k => X k ∨ (w.heap.size ≤ k ∧ k < wa.heap.size) := ⟨_, rfl⟩
  have HA : Hid (Wr Y wa b L 65535) := by subst hY; exact h.more ta (fun k hk => hk)
  have y0 : Hid (Y w.heap.size) := by subst hY; exact Or.inr (by omega)
  have y1 : Hid (Y (w.heap.size + 1)) := by subst hY; exact Or.inr (by omega)
  have YX : Hid (∀ k, X k → Y k) := by subst hY; exact fun k hk => Or.inl hk
  have TA : Hid (Touch (fun _ => False) w wa) := ta
  have HR := proom_no Y b L n wa HA.out hL (by omega) hl
  clear hY h ta za
  go_enter Tryz.func125, Tryz.ntmps125
  go_wp2_with fail
  rw [← hwa]
  refine Calls.mono HR ?_
  rintro e w1 ⟨rfl, t1⟩
  exact ⟨rfl, rfl, Kept.of (TA.out.trans t1)⟩

set_option maxHeartbeats 1000000 in
theorem pwput_ok (s : Value) (ns : List Int) (X : Nat → Prop) (b : Nat) (L : List Int) (w : World) (h : Wr X w b L 65535) (hL : L.length ≤ 65535) (hs : ArgAt w s ns) (hc : ns.length ≤ 1099511627776) (hl : L.length + ns.length ≤ 65535) :
    Calls Tryz.prog 124 #[.agg #[.pointer (some ⟨b, 0, none⟩)], s] w fun e w' => e = .returned (.agg #[.pointer (some ⟨b, 0, none⟩)]) ∧ Wr X w' b (L ++ ns) 65535 ∧ Kept X w w' := by
  have HS : Hid (ArgAt w s ns) := hs
  obtain ⟨sa, sc, rfl, -⟩ := hs.form
  clear hs
  obtain ⟨wa, hwa⟩ : ∃ wa, wa = (w.alloc (.cells #[.pointer (some ⟨b, 0, none⟩)] 137)).alloc (.cells #[.pointer none] 137) := ⟨_, rfl⟩
  have ta : Touch (fun _ => False) w wa := by rw [hwa]; exact ((Touch.refl _ w).alloc _).alloc _
  have ca : wa.cell? ⟨w.heap.size, 0, none⟩ = some (.pointer (some ⟨b, 0, none⟩)) := by rw [hwa]; simp [go_sem]
  have cb : wa.cell? ⟨w.heap.size + 1, 0, none⟩ = some (.pointer none) := by rw [hwa]; simp [go_sem]
  have fb : wa.frozen? ⟨w.heap.size + 1, 0, none⟩ = false := by rw [hwa]; simp [go_sem]
  have za : wa.heap.size = w.heap.size + 2 := by rw [hwa]; simp
  obtain ⟨Y, hY⟩ : ∃ Y : Nat → Prop, Y = fun k => X k ∨ (w.heap.size ≤ k ∧ k < wa.heap.size) := ⟨_, rfl⟩
  have HA : Hid (Wr Y wa b L 65535) := by subst hY; exact h.more ta (fun k hk => hk)
  have y0 : Hid (Y w.heap.size) := by subst hY; exact Or.inr (by omega)
  have y1 : Hid (Y (w.heap.size + 1)) := by subst hY; exact Or.inr (by omega)
  have YX : Hid (∀ k, X k → Y k) := by subst hY; exact fun k hk => Or.inl hk
  have TA : Hid (Touch (fun _ => False) w wa) := ta
  have HR := proom_ok Y b L ns.length wa HA.out hL (by omega) hl
  clear hY h ta za
  go_enter Tryz.func124, Tryz.ntmps124
  go_wp2_with fail
  rw [← hwa]
  refine Calls.mono HR ?_
  rintro e w1 ⟨rfl, t1⟩
  have H1 : Hid (Wr Y w1 b L 65535) := HA.out.keep t1
  have T1 : Hid (Touch (fun _ => False) w w1) := TA.out.trans t1
  have d0 := (t1.cell (p := ⟨w.heap.size, 0, none⟩) (lt_of_cellA ca) (fun h => h)).trans ca
  have d1 := (t1.cell (p := ⟨w.heap.size + 1, 0, none⟩) (lt_of_cellA cb) (fun h => h)).trans cb
  have f1 := (t1.frozen (p := ⟨w.heap.size + 1, 0, none⟩) (lt_of_cellA cb) (fun h => h)).trans fb
  have HS1 : Hid (ArgAt w1 (.slice sa ns.length sc) ns) := HS.out.keep T1.out (fun _ _ h => h)
  clear HS
  clear HR hwa ca cb fb HA t1 TA
  go_wp2_with fail
  refine Calls.mono (put_arg Y b L 65535 _ ns _ H1.out (by omega) HS1.out (by omega)) ?_
  rintro e w2 ⟨rfl, h2, k2⟩
  have e0 := k2.cell d0 y0.out
  have e1 := k2.cell d1 y1.out
  have g1 := k2.frozen (lt_of_cellA d1) f1 y1.out
  have H2 : Hid (Wr Y w2 b (L ++ ns) 65535) := h2
  have K2 : Hid (Kept X w w2) := (Kept.of T1.out).trans (k2.less (fun k _ hk => YX.out k hk))
  have hne : Hid (w.heap.size ≤ w.heap.size + 1) := Nat.le_succ _
  clear d0 d1 f1 k2 h2 H1
  have de : (w2.setCell ⟨w.heap.size + 1, 0, none⟩ (.pointer (some ⟨b, 0, none⟩))).cell? ⟨w.heap.size + 1, 0, none⟩ = some (.pointer (some ⟨b, 0, none⟩)) := by simp [e1, go_sem]
  have H3 : Hid (Wr X (w2.setCell ⟨w.heap.size + 1, 0, none⟩ (.pointer (some ⟨b, 0, none⟩))) b (L ++ ns) 65535) := by
    have q : Touch (fun k => k = w.heap.size + 1) w2 (w2.setCell ⟨w.heap.size + 1, 0, none⟩ (.pointer (some ⟨b, 0, none⟩))) := Touch.setCell (F := fun k => k = w.heap.size + 1) (p := ⟨w.heap.size + 1, 0, none⟩) (Touch.refl _ _) (Or.inl rfl) _
    exact (H2.out.touch q (fun k hk => by rw [hk]; exact y1.out)).less YX.out
  have K3 : Hid (Kept X w (w2.setCell ⟨w.heap.size + 1, 0, none⟩ (.pointer (some ⟨b, 0, none⟩)))) := Touch.setCell (p := ⟨w.heap.size + 1, 0, none⟩) K2.out (Or.inr hne.out) _
  go_wp2_with fail
  refine bodyPost_ret (v := .agg #[.pointer (some ⟨b, 0, none⟩)]) (by simp [results, Tryz.results124, go_sem, de]) rfl ?_
  exact ⟨rfl, H3.out, K3.out⟩

set_option maxHeartbeats 1000000 in
theorem pwput_no (s : Value) (ns : List Int) (X : Nat → Prop) (b : Nat) (L : List Int) (w : World) (h : Wr X w b L 65535) (hL : L.length ≤ 65535) (hs : ArgAt w s ns) (hc : ns.length ≤ 1099511627776) (hl : 65535 < L.length + ns.length) :
    Calls Tryz.prog 124 #[.agg #[.pointer (some ⟨b, 0, none⟩)], s] w fun e w' => e = .panicked (pflawC 11) ∧ Kept X w w' := by
  have HS : Hid (ArgAt w s ns) := hs
  obtain ⟨sa, sc, rfl, -⟩ := hs.form
  clear hs
  obtain ⟨wa, hwa⟩ : ∃ wa, wa = (w.alloc (.cells #[.pointer (some ⟨b, 0, none⟩)] 137)).alloc (.cells #[.pointer none] 137) := ⟨_, rfl⟩
  have ta : Touch (fun _ => False) w wa := by rw [hwa]; exact ((Touch.refl _ w).alloc _).alloc _
  have ca : wa.cell? ⟨w.heap.size, 0, none⟩ = some (.pointer (some ⟨b, 0, none⟩)) := by rw [hwa]; simp [go_sem]
  have cb : wa.cell? ⟨w.heap.size + 1, 0, none⟩ = some (.pointer none) := by rw [hwa]; simp [go_sem]
  have fb : wa.frozen? ⟨w.heap.size + 1, 0, none⟩ = false := by rw [hwa]; simp [go_sem]
  have za : wa.heap.size = w.heap.size + 2 := by rw [hwa]; simp
  obtain ⟨Y, hY⟩ : ∃ Y : Nat → Prop, Y = fun k => X k ∨ (w.heap.size ≤ k ∧ k < wa.heap.size) := ⟨_, rfl⟩
  have HA : Hid (Wr Y wa b L 65535) := by subst hY; exact h.more ta (fun k hk => hk)
  have y0 : Hid (Y w.heap.size) := by subst hY; exact Or.inr (by omega)
  have y1 : Hid (Y (w.heap.size + 1)) := by subst hY; exact Or.inr (by omega)
  have YX : Hid (∀ k, X k → Y k) := by subst hY; exact fun k hk => Or.inl hk
  have TA : Hid (Touch (fun _ => False) w wa) := ta
  have HR := proom_no Y b L ns.length wa HA.out hL (by omega) hl
  clear hY h ta za
  go_enter Tryz.func124, Tryz.ntmps124
  go_wp2_with fail
  rw [← hwa]
  refine Calls.mono HR ?_
  rintro e w1 ⟨rfl, t1⟩
  exact ⟨rfl, rfl, Kept.of (TA.out.trans t1)⟩
end Go.Proofs.YtjgeklipeeooaaaGreatDoor
