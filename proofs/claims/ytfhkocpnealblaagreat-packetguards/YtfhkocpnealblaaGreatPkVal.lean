/- Package packet's writer: room, number, put: they answer, or give up with 11. -/
import Derived.Test.YtfhkocpnealblaaGreatReader
import Derived.Test.YtfhkocpnealblaaGreatStWr
import Derived.Test.YtfhkocpnealblaaGreatNumber
import Derived.Deep.RegionHeld3
import Derived.Deep.DeepCutAuto
import Derived.Test.YtfhkocpnealblaaGreatParts
namespace Go.Proofs.YtfhkocpnealblaaGreat
open Go.RowKit
set_option linter.unusedVariables false
set_option maxRecDepth 100000

theorem wlen_any (b : Nat) (v : Value) (bs : List Int) (most err : Int) (w : World) (h : WrS w b v bs most err) : Calls Tryz.prog 71 #[.pointer (some ⟨b, 0, none⟩)] w fun e w' => e = .returned (.int .i64 bs.length) ∧ w = w' := by
  obtain ⟨va, vc, rfl⟩ : ∃ va vc, v = .slice va bs.length vc := by
    rcases h.own.2 with ⟨rfl, e⟩ | ⟨g, cap, cur, rfl, _⟩
    · exact ⟨none, 0, by rw [e]⟩
    · exact ⟨_, _, rfl⟩
  have h1 := h.row
  clear h
  go_enter Tryz.func71, Tryz.ntmps71
  go_wp2
  go_ret
  exact ⟨rfl, rfl⟩
theorem len_w (X : Nat → Prop) (b : Nat) (L : List Int) (most : Int) (w : World) (h : Wr X w b L most) (hl : (L.length : Int) ≤ most) :
    Calls Tryz.prog 71 #[.pointer (some ⟨b, 0, none⟩)] w fun e w' => e = .returned (.int .i64 L.length) ∧ w = w' := by
  obtain ⟨v, ⟨_, h⟩ | ⟨hl', _⟩, _⟩ := h
  · exact wlen_any b v L most 0 w h
  · omega
theorem proom_ok (X : Nat → Prop) (b : Nat) (L : List Int) (n : Nat) (w : World) (h : Wr X w b L 65535) (hL : L.length ≤ 65535) (hn : n ≤ 1099511627776) (hl : L.length + n ≤ 65535) :
    Calls Tryz.prog 91 #[.agg #[.pointer (some ⟨b, 0, none⟩)], .int .i64 (n : Int)] w fun e w' => e = .returned (.tuple #[]) ∧ Touch (fun _ => False) w w' := by
  have HW : Hid (Wr X w b L 65535) := h
  have hw64 : wrap64 ((L.length : Int) + (n : Int)) = (L.length : Int) + (n : Int) := by simp [wrap64]; omega
  have hd : decide ((L.length : Int) + (n : Int) ≤ 65535) = true := by simp; omega
  have hL' : (L.length : Int) ≤ 65535 := by omega
  clear h hL hn hl
  go_enter Tryz.func91, Tryz.ntmps91
  go_wp2_with fail
  refine Calls.mono (len_w X b L 65535 _ (HW.out.keep ((Touch.refl _ _).alloc _)) hL') ?_
  rintro e w1 ⟨rfl, rfl⟩
  go_wp2_with fail
  refine Calls.mono (pneed_t _ 11 _ (by first | rfl | exact hd | simpa using hd)) ?_
  rintro e w2 ⟨rfl, rfl⟩
  go_wp2
  go_end0
  exact ⟨rfl, (Touch.refl _ _).alloc _⟩
theorem proom_no (X : Nat → Prop) (b : Nat) (L : List Int) (n : Nat) (w : World) (h : Wr X w b L 65535) (hL : L.length ≤ 65535) (hn : n ≤ 1099511627776) (hl : 65535 < L.length + n) :
    Calls Tryz.prog 91 #[.agg #[.pointer (some ⟨b, 0, none⟩)], .int .i64 (n : Int)] w fun e w' => e = .panicked (pflawC 11) ∧ Touch (fun _ => False) w w' := by
  have HW : Hid (Wr X w b L 65535) := h
  have hw64 : wrap64 ((L.length : Int) + (n : Int)) = (L.length : Int) + (n : Int) := by simp [wrap64]; omega
  have hd : decide ((L.length : Int) + (n : Int) ≤ 65535) = false := by simp; omega
  have hL' : (L.length : Int) ≤ 65535 := by omega
  clear h hL hn hl
  go_enter Tryz.func91, Tryz.ntmps91
  go_wp2_with fail
  refine Calls.mono (len_w X b L 65535 _ (HW.out.keep ((Touch.refl _ _).alloc _)) hL') ?_
  rintro e w1 ⟨rfl, rfl⟩
  go_wp2_with fail
  refine Calls.mono (pneed_f _ 11 _ (by first | rfl | exact hd | simpa using hd)) ?_
  rintro e w2 ⟨rfl, rfl⟩
  exact ⟨rfl, rfl, (Touch.refl _ _).alloc _⟩

set_option maxHeartbeats 1000000 in
theorem pwnum_ok (n : Nat) (hn : n = 1 ∨ n = 2 ∨ n = 3 ∨ n = 4) (x : Int) (X : Nat → Prop) (b : Nat) (L : List Int) (w : World) (h : Wr X w b L 65535) (hL : L.length ≤ 65535) (hx : 0 ≤ x ∧ x < 256 ^ n) (hl : L.length + n ≤ 65535) :
    Calls Tryz.prog 64 #[.agg #[.pointer (some ⟨b, 0, none⟩)], .int .u32 x, .int .i64 (n : Int)] w fun e w' => e = .returned (.agg #[.pointer (some ⟨b, 0, none⟩)]) ∧ Wr X w' b (L ++ numBytes n x) 65535 ∧ Kept X w w' := by
  obtain ⟨wa, hwa⟩ : ∃ wa, wa = (w.alloc (.cells #[.pointer (some ⟨b, 0, none⟩)] 89)).alloc (.cells #[.pointer none] 89) := ⟨_, rfl⟩
  have ta : Touch (fun _ => False) w wa := by rw [hwa]; exact ((Touch.refl _ w).alloc _).alloc _
  have ca : wa.cell? ⟨w.heap.size, 0, none⟩ = some (.pointer (some ⟨b, 0, none⟩)) := by rw [hwa]; simp [go_sem]
  have cb : wa.cell? ⟨w.heap.size + 1, 0, none⟩ = some (.pointer none) := by rw [hwa]; simp [go_sem]
  have fb : wa.frozen? ⟨w.heap.size + 1, 0, none⟩ = false := by rw [hwa]; simp [go_sem]
  have za : wa.heap.size = w.heap.size + 2 := by rw [hwa]; simp
  obtain ⟨Y, hY⟩ : ∃ Y : Nat → Prop, Y = fun k => X k ∨ (w.heap.size ≤ k ∧ k < wa.heap.size) := ⟨_, rfl⟩
  have HA : Hid (Wr Y wa b L 65535) := by subst hY; exact h.more ta (fun k hk => hk)
  have y0 : Hid (Y w.heap.size) := by subst hY; exact Or.inr (by omega)
  have y1 : Hid (Y (w.heap.size + 1)) := by subst hY; exact Or.inr (by omega)
  have YX : Hid (∀ k, X k → Y k) := by subst hY; exact fun k hk => Or.inl hk
  have TA : Hid (Touch (fun _ => False) w wa) := ta
  have HR := proom_ok Y b L n wa HA.out hL (by omega) hl
  clear hY h ta za
  go_enter Tryz.func64, Tryz.ntmps64
  go_wp2_with fail
  rw [← hwa]
  refine Calls.mono HR ?_
  rintro e w1 ⟨rfl, t1⟩
  have H1 : Hid (Wr Y w1 b L 65535) := HA.out.keep t1
  have T1 : Hid (Touch (fun _ => False) w w1) := TA.out.trans t1
  have d0 := (t1.cell (p := ⟨w.heap.size, 0, none⟩) (lt_of_cellA ca) (fun h => h)).trans ca
  have d1 := (t1.cell (p := ⟨w.heap.size + 1, 0, none⟩) (lt_of_cellA cb) (fun h => h)).trans cb
  have f1 := (t1.frozen (p := ⟨w.heap.size + 1, 0, none⟩) (lt_of_cellA cb) (fun h => h)).trans fb
  have HX : Hid (0 ≤ x ∧ x < 256 ^ n) := hx
  clear hx
  clear HR hwa ca cb fb HA t1 TA
  go_wp2_with fail
  refine Calls.mono (number_w n hn Y b L 65535 x _ H1.out (by omega) HX.out) ?_
  rintro e w2 ⟨rfl, h2, k2⟩
  have e0 := k2.cell d0 y0.out
  have e1 := k2.cell d1 y1.out
  have g1 := k2.frozen (lt_of_cellA d1) f1 y1.out
  have H2 : Hid (Wr Y w2 b (L ++ numBytes n x) 65535) := h2
  have K2 : Hid (Kept X w w2) := (Kept.of T1.out).trans (k2.less (fun k _ hk => YX.out k hk))
  have hne : Hid (w.heap.size ≤ w.heap.size + 1) := Nat.le_succ _
  clear d0 d1 f1 k2 h2 H1
  have de : (w2.setCell ⟨w.heap.size + 1, 0, none⟩ (.pointer (some ⟨b, 0, none⟩))).cell? ⟨w.heap.size + 1, 0, none⟩ = some (.pointer (some ⟨b, 0, none⟩)) := by simp [e1, go_sem]
  have H3 : Hid (Wr X (w2.setCell ⟨w.heap.size + 1, 0, none⟩ (.pointer (some ⟨b, 0, none⟩))) b (L ++ numBytes n x) 65535) := by
    have q : Touch (fun k => k = w.heap.size + 1) w2 (w2.setCell ⟨w.heap.size + 1, 0, none⟩ (.pointer (some ⟨b, 0, none⟩))) := Touch.setCell (F := fun k => k = w.heap.size + 1) (p := ⟨w.heap.size + 1, 0, none⟩) (Touch.refl _ _) (Or.inl rfl) _
    exact (H2.out.touch q (fun k hk => by rw [hk]; exact y1.out)).less YX.out
  have K3 : Hid (Kept X w (w2.setCell ⟨w.heap.size + 1, 0, none⟩ (.pointer (some ⟨b, 0, none⟩)))) := Touch.setCell (p := ⟨w.heap.size + 1, 0, none⟩) K2.out (Or.inr hne.out) _
  go_wp2_with fail
  refine bodyPost_ret (v := .agg #[.pointer (some ⟨b, 0, none⟩)]) (by simp [results, Tryz.results64, go_sem, de]) rfl ?_
  exact ⟨rfl, H3.out, K3.out⟩

set_option maxHeartbeats 1000000 in
theorem pwnum_no (n : Nat) (hn : n = 1 ∨ n = 2 ∨ n = 3 ∨ n = 4) (x : Int) (X : Nat → Prop) (b : Nat) (L : List Int) (w : World) (h : Wr X w b L 65535) (hL : L.length ≤ 65535) (hx : 0 ≤ x ∧ x < 256 ^ n) (hl : 65535 < L.length + n) :
    Calls Tryz.prog 64 #[.agg #[.pointer (some ⟨b, 0, none⟩)], .int .u32 x, .int .i64 (n : Int)] w fun e w' => e = .panicked (pflawC 11) ∧ Kept X w w' := by
  obtain ⟨wa, hwa⟩ : ∃ wa, wa = (w.alloc (.cells #[.pointer (some ⟨b, 0, none⟩)] 89)).alloc (.cells #[.pointer none] 89) := ⟨_, rfl⟩
  have ta : Touch (fun _ => False) w wa := by rw [hwa]; exact ((Touch.refl _ w).alloc _).alloc _
  have ca : wa.cell? ⟨w.heap.size, 0, none⟩ = some (.pointer (some ⟨b, 0, none⟩)) := by rw [hwa]; simp [go_sem]
  have cb : wa.cell? ⟨w.heap.size + 1, 0, none⟩ = some (.pointer none) := by rw [hwa]; simp [go_sem]
  have fb : wa.frozen? ⟨w.heap.size + 1, 0, none⟩ = false := by rw [hwa]; simp [go_sem]
  have za : wa.heap.size = w.heap.size + 2 := by rw [hwa]; simp
  obtain ⟨Y, hY⟩ : ∃ Y : Nat → Prop, Y = fun k => X k ∨ (w.heap.size ≤ k ∧ k < wa.heap.size) := ⟨_, rfl⟩
  have HA : Hid (Wr Y wa b L 65535) := by subst hY; exact h.more ta (fun k hk => hk)
  have y0 : Hid (Y w.heap.size) := by subst hY; exact Or.inr (by omega)
  have y1 : Hid (Y (w.heap.size + 1)) := by subst hY; exact Or.inr (by omega)
  have YX : Hid (∀ k, X k → Y k) := by subst hY; exact fun k hk => Or.inl hk
  have TA : Hid (Touch (fun _ => False) w wa) := ta
  have HR := proom_no Y b L n wa HA.out hL (by omega) hl
  clear hY h ta za
  go_enter Tryz.func64, Tryz.ntmps64
  go_wp2_with fail
  rw [← hwa]
  refine Calls.mono HR ?_
  rintro e w1 ⟨rfl, t1⟩
  exact ⟨rfl, rfl, Kept.of (TA.out.trans t1)⟩

set_option maxHeartbeats 1000000 in
theorem pwput_ok (s : Value) (ns : List Int) (X : Nat → Prop) (b : Nat) (L : List Int) (w : World) (h : Wr X w b L 65535) (hL : L.length ≤ 65535) (hs : ArgAt w s ns) (hc : ns.length ≤ 1099511627776) (hl : L.length + ns.length ≤ 65535) :
    Calls Tryz.prog 63 #[.agg #[.pointer (some ⟨b, 0, none⟩)], s] w fun e w' => e = .returned (.agg #[.pointer (some ⟨b, 0, none⟩)]) ∧ Wr X w' b (L ++ ns) 65535 ∧ Kept X w w' := by
  have HS : Hid (ArgAt w s ns) := hs
  obtain ⟨sa, sc, rfl, -⟩ := hs.form
  clear hs
  obtain ⟨wa, hwa⟩ : ∃ wa, wa = (w.alloc (.cells #[.pointer (some ⟨b, 0, none⟩)] 89)).alloc (.cells #[.pointer none] 89) := ⟨_, rfl⟩
  have ta : Touch (fun _ => False) w wa := by rw [hwa]; exact ((Touch.refl _ w).alloc _).alloc _
  have ca : wa.cell? ⟨w.heap.size, 0, none⟩ = some (.pointer (some ⟨b, 0, none⟩)) := by rw [hwa]; simp [go_sem]
  have cb : wa.cell? ⟨w.heap.size + 1, 0, none⟩ = some (.pointer none) := by rw [hwa]; simp [go_sem]
  have fb : wa.frozen? ⟨w.heap.size + 1, 0, none⟩ = false := by rw [hwa]; simp [go_sem]
  have za : wa.heap.size = w.heap.size + 2 := by rw [hwa]; simp
  obtain ⟨Y, hY⟩ : ∃ Y : Nat → Prop, Y = fun k => X k ∨ (w.heap.size ≤ k ∧ k < wa.heap.size) := ⟨_, rfl⟩
  have HA : Hid (Wr Y wa b L 65535) := by subst hY; exact h.more ta (fun k hk => hk)
  have y0 : Hid (Y w.heap.size) := by subst hY; exact Or.inr (by omega)
  have y1 : Hid (Y (w.heap.size + 1)) := by subst hY; exact Or.inr (by omega)
  have YX : Hid (∀ k, X k → Y k) := by subst hY; exact fun k hk => Or.inl hk
  have TA : Hid (Touch (fun _ => False) w wa) := ta
  have HR := proom_ok Y b L ns.length wa HA.out hL (by omega) hl
  clear hY h ta za
  go_enter Tryz.func63, Tryz.ntmps63
  go_wp2_with fail
  rw [← hwa]
  refine Calls.mono HR ?_
  rintro e w1 ⟨rfl, t1⟩
  have H1 : Hid (Wr Y w1 b L 65535) := HA.out.keep t1
  have T1 : Hid (Touch (fun _ => False) w w1) := TA.out.trans t1
  have d0 := (t1.cell (p := ⟨w.heap.size, 0, none⟩) (lt_of_cellA ca) (fun h => h)).trans ca
  have d1 := (t1.cell (p := ⟨w.heap.size + 1, 0, none⟩) (lt_of_cellA cb) (fun h => h)).trans cb
  have f1 := (t1.frozen (p := ⟨w.heap.size + 1, 0, none⟩) (lt_of_cellA cb) (fun h => h)).trans fb
  have HS1 : Hid (ArgAt w1 (.slice sa ns.length sc) ns) := HS.out.keep T1.out (fun _ _ h => h)
  clear HS
  clear HR hwa ca cb fb HA t1 TA
  go_wp2_with fail
  refine Calls.mono (put_arg Y b L 65535 _ ns _ H1.out (by omega) HS1.out (by omega)) ?_
  rintro e w2 ⟨rfl, h2, k2⟩
  have e0 := k2.cell d0 y0.out
  have e1 := k2.cell d1 y1.out
  have g1 := k2.frozen (lt_of_cellA d1) f1 y1.out
  have H2 : Hid (Wr Y w2 b (L ++ ns) 65535) := h2
  have K2 : Hid (Kept X w w2) := (Kept.of T1.out).trans (k2.less (fun k _ hk => YX.out k hk))
  have hne : Hid (w.heap.size ≤ w.heap.size + 1) := Nat.le_succ _
  clear d0 d1 f1 k2 h2 H1
  have de : (w2.setCell ⟨w.heap.size + 1, 0, none⟩ (.pointer (some ⟨b, 0, none⟩))).cell? ⟨w.heap.size + 1, 0, none⟩ = some (.pointer (some ⟨b, 0, none⟩)) := by simp [e1, go_sem]
  have H3 : Hid (Wr X (w2.setCell ⟨w.heap.size + 1, 0, none⟩ (.pointer (some ⟨b, 0, none⟩))) b (L ++ ns) 65535) := by
    have q : Touch (fun k => k = w.heap.size + 1) w2 (w2.setCell ⟨w.heap.size + 1, 0, none⟩ (.pointer (some ⟨b, 0, none⟩))) := Touch.setCell (F := fun k => k = w.heap.size + 1) (p := ⟨w.heap.size + 1, 0, none⟩) (Touch.refl _ _) (Or.inl rfl) _
    exact (H2.out.touch q (fun k hk => by rw [hk]; exact y1.out)).less YX.out
  have K3 : Hid (Kept X w (w2.setCell ⟨w.heap.size + 1, 0, none⟩ (.pointer (some ⟨b, 0, none⟩)))) := Touch.setCell (p := ⟨w.heap.size + 1, 0, none⟩) K2.out (Or.inr hne.out) _
  go_wp2_with fail
  refine bodyPost_ret (v := .agg #[.pointer (some ⟨b, 0, none⟩)]) (by simp [results, Tryz.results63, go_sem, de]) rfl ?_
  exact ⟨rfl, H3.out, K3.out⟩

set_option maxHeartbeats 1000000 in
theorem pwput_no (s : Value) (ns : List Int) (X : Nat → Prop) (b : Nat) (L : List Int) (w : World) (h : Wr X w b L 65535) (hL : L.length ≤ 65535) (hs : ArgAt w s ns) (hc : ns.length ≤ 1099511627776) (hl : 65535 < L.length + ns.length) :
    Calls Tryz.prog 63 #[.agg #[.pointer (some ⟨b, 0, none⟩)], s] w fun e w' => e = .panicked (pflawC 11) ∧ Kept X w w' := by
  have HS : Hid (ArgAt w s ns) := hs
  obtain ⟨sa, sc, rfl, -⟩ := hs.form
  clear hs
  obtain ⟨wa, hwa⟩ : ∃ wa, wa = (w.alloc (.cells #[.pointer (some ⟨b, 0, none⟩)] 89)).alloc (.cells #[.pointer none] 89) := ⟨_, rfl⟩
  have ta : Touch (fun _ => False) w wa := by rw [hwa]; exact ((Touch.refl _ w).alloc _).alloc _
  have ca : wa.cell? ⟨w.heap.size, 0, none⟩ = some (.pointer (some ⟨b, 0, none⟩)) := by rw [hwa]; simp [go_sem]
  have cb : wa.cell? ⟨w.heap.size + 1, 0, none⟩ = some (.pointer none) := by rw [hwa]; simp [go_sem]
  have fb : wa.frozen? ⟨w.heap.size + 1, 0, none⟩ = false := by rw [hwa]; simp [go_sem]
  have za : wa.heap.size = w.heap.size + 2 := by rw [hwa]; simp
  obtain ⟨Y, hY⟩ : ∃ Y : Nat → Prop, Y = fun k => X k ∨ (w.heap.size ≤ k ∧ k < wa.heap.size) := ⟨_, rfl⟩
  have HA : Hid (Wr Y wa b L 65535) := by subst hY; exact h.more ta (fun k hk => hk)
  have y0 : Hid (Y w.heap.size) := by subst hY; exact Or.inr (by omega)
  have y1 : Hid (Y (w.heap.size + 1)) := by subst hY; exact Or.inr (by omega)
  have YX : Hid (∀ k, X k → Y k) := by subst hY; exact fun k hk => Or.inl hk
  have TA : Hid (Touch (fun _ => False) w wa) := ta
  have HR := proom_no Y b L ns.length wa HA.out hL (by omega) hl
  clear hY h ta za
  go_enter Tryz.func63, Tryz.ntmps63
  go_wp2_with fail
  rw [← hwa]
  refine Calls.mono HR ?_
  rintro e w1 ⟨rfl, t1⟩
  exact ⟨rfl, rfl, Kept.of (TA.out.trans t1)⟩
end Go.Proofs.YtfhkocpnealblaaGreat

namespace Go.Proofs.YtfhkocpnealblaaGreat
open Go.RowKit
set_option linter.unusedVariables false
set_option maxRecDepth 100000

/-- A packet's numbers. -/
structure PV where
  typ : Int
  router : Int
  area : Int
  mask : Int
  iv : Int
  opts : Int
  prio : Int
  dead : Int
  dr : Int
  bdr : Int
  mtu : Int
  dopts : Int
  dflags : Int
  dseq : Int
/-- They fit their kinds. -/
structure PV.Ok (P : PV) : Prop where
  typ : 0 ≤ P.typ ∧ P.typ < 256
  router : 0 ≤ P.router ∧ P.router < 4294967296
  area : 0 ≤ P.area ∧ P.area < 4294967296
  mask : 0 ≤ P.mask ∧ P.mask < 4294967296
  iv : 0 ≤ P.iv ∧ P.iv < 65536
  opts : 0 ≤ P.opts ∧ P.opts < 256
  prio : 0 ≤ P.prio ∧ P.prio < 256
  dead : 0 ≤ P.dead ∧ P.dead < 4294967296
  dr : 0 ≤ P.dr ∧ P.dr < 4294967296
  bdr : 0 ≤ P.bdr ∧ P.bdr < 4294967296
  mtu : 0 ≤ P.mtu ∧ P.mtu < 65536
  dopts : 0 ≤ P.dopts ∧ P.dopts < 256
  dflags : 0 ≤ P.dflags ∧ P.dflags < 256
  dseq : 0 ≤ P.dseq ∧ P.dseq < 4294967296
def PV.v (P : PV) (vn vd vk vs vh : Value) : Value := .agg #[.int .u8 P.typ, .int .u32 P.router, .int .u32 P.area, .int .u32 P.mask, .int .u16 P.iv, .int .u8 P.opts, .int .u8 P.prio, .int .u32 P.dead, .int .u32 P.dr, .int .u32 P.bdr, vn, .int .u16 P.mtu, .int .u8 P.dopts, .int .u8 P.dflags, .int .u32 P.dseq, vd, vk, vs, vh]
/-- It lies in block g. -/
structure Pd (w : World) (g : Nat) (P : PV) (vn vd vk vs vh : Value) : Prop where
  c0 : w.cell? ⟨g, 0, none⟩ = some (.int .u8 P.typ)
  c1 : w.cell? ⟨g, 1, none⟩ = some (.int .u32 P.router)
  c2 : w.cell? ⟨g, 2, none⟩ = some (.int .u32 P.area)
  c3 : w.cell? ⟨g, 3, none⟩ = some (.int .u32 P.mask)
  c4 : w.cell? ⟨g, 4, none⟩ = some (.int .u16 P.iv)
  c5 : w.cell? ⟨g, 5, none⟩ = some (.int .u8 P.opts)
  c6 : w.cell? ⟨g, 6, none⟩ = some (.int .u8 P.prio)
  c7 : w.cell? ⟨g, 7, none⟩ = some (.int .u32 P.dead)
  c8 : w.cell? ⟨g, 8, none⟩ = some (.int .u32 P.dr)
  c9 : w.cell? ⟨g, 9, none⟩ = some (.int .u32 P.bdr)
  c10 : w.cell? ⟨g, 10, none⟩ = some (vn)
  c11 : w.cell? ⟨g, 11, none⟩ = some (.int .u16 P.mtu)
  c12 : w.cell? ⟨g, 12, none⟩ = some (.int .u8 P.dopts)
  c13 : w.cell? ⟨g, 13, none⟩ = some (.int .u8 P.dflags)
  c14 : w.cell? ⟨g, 14, none⟩ = some (.int .u32 P.dseq)
  c15 : w.cell? ⟨g, 15, none⟩ = some (vd)
  c16 : w.cell? ⟨g, 16, none⟩ = some (vk)
  c17 : w.cell? ⟨g, 17, none⟩ = some (vs)
  c18 : w.cell? ⟨g, 18, none⟩ = some (vh)
theorem Pd.keep {w w' : World} {g : Nat} {P : PV} {vn vd vk vs vh : Value} (k : Pd w g P vn vd vk vs vh) (t : Touch (fun _ => False) w w') : Pd w' g P vn vd vk vs vh :=
  ⟨t.cellN k.c0, t.cellN k.c1, t.cellN k.c2, t.cellN k.c3, t.cellN k.c4, t.cellN k.c5, t.cellN k.c6, t.cellN k.c7, t.cellN k.c8, t.cellN k.c9, t.cellN k.c10, t.cellN k.c11, t.cellN k.c12, t.cellN k.c13, t.cellN k.c14, t.cellN k.c15, t.cellN k.c16, t.cellN k.c17, t.cellN k.c18⟩
theorem Pd.new (w : World) (P : PV) (vn vd vk vs vh : Value) (t : TypeId) : Pd (w.alloc (.cells #[.int .u8 P.typ, .int .u32 P.router, .int .u32 P.area, .int .u32 P.mask, .int .u16 P.iv, .int .u8 P.opts, .int .u8 P.prio, .int .u32 P.dead, .int .u32 P.dr, .int .u32 P.bdr, vn, .int .u16 P.mtu, .int .u8 P.dopts, .int .u8 P.dflags, .int .u32 P.dseq, vd, vk, vs, vh] t)) w.heap.size P vn vd vk vs vh :=
  ⟨by simp [go_sem], by simp [go_sem], by simp [go_sem], by simp [go_sem], by simp [go_sem], by simp [go_sem], by simp [go_sem], by simp [go_sem], by simp [go_sem], by simp [go_sem], by simp [go_sem], by simp [go_sem], by simp [go_sem], by simp [go_sem], by simp [go_sem], by simp [go_sem], by simp [go_sem], by simp [go_sem], by simp [go_sem]⟩
/-- An Auth's numbers. -/
structure AuV where
  kind : Int
  d0 : Int
  d1 : Int
  d2 : Int
  d3 : Int
  d4 : Int
  d5 : Int
  d6 : Int
  d7 : Int
structure AuV.Ok (A : AuV) : Prop where
  kind : 0 ≤ A.kind ∧ A.kind < 65536
  d0 : 0 ≤ A.d0 ∧ A.d0 < 256
  d1 : 0 ≤ A.d1 ∧ A.d1 < 256
  d2 : 0 ≤ A.d2 ∧ A.d2 < 256
  d3 : 0 ≤ A.d3 ∧ A.d3 < 256
  d4 : 0 ≤ A.d4 ∧ A.d4 < 256
  d5 : 0 ≤ A.d5 ∧ A.d5 < 256
  d6 : 0 ≤ A.d6 ∧ A.d6 < 256
  d7 : 0 ≤ A.d7 ∧ A.d7 < 256
def AuV.v (A : AuV) : Value := .agg #[.int .u16 A.kind, .int .u8 A.d0, .int .u8 A.d1, .int .u8 A.d2, .int .u8 A.d3, .int .u8 A.d4, .int .u8 A.d5, .int .u8 A.d6, .int .u8 A.d7]
def AuV.data (A : AuV) : List Int := [A.d0, A.d1, A.d2, A.d3, A.d4, A.d5, A.d6, A.d7]
structure Ad (w : World) (g : Nat) (A : AuV) : Prop where
  c0 : w.cell? ⟨g, 0, none⟩ = some (.int .u16 A.kind)
  c1 : w.cell? ⟨g, 1, none⟩ = some (.int .u8 A.d0)
  c2 : w.cell? ⟨g, 2, none⟩ = some (.int .u8 A.d1)
  c3 : w.cell? ⟨g, 3, none⟩ = some (.int .u8 A.d2)
  c4 : w.cell? ⟨g, 4, none⟩ = some (.int .u8 A.d3)
  c5 : w.cell? ⟨g, 5, none⟩ = some (.int .u8 A.d4)
  c6 : w.cell? ⟨g, 6, none⟩ = some (.int .u8 A.d5)
  c7 : w.cell? ⟨g, 7, none⟩ = some (.int .u8 A.d6)
  c8 : w.cell? ⟨g, 8, none⟩ = some (.int .u8 A.d7)
theorem Ad.keep {w w' : World} {g : Nat} {A : AuV} (k : Ad w g A) (t : Touch (fun _ => False) w w') : Ad w' g A :=
  ⟨t.cellN k.c0, t.cellN k.c1, t.cellN k.c2, t.cellN k.c3, t.cellN k.c4, t.cellN k.c5, t.cellN k.c6, t.cellN k.c7, t.cellN k.c8⟩
theorem Ad.new (w : World) (A : AuV) (t : TypeId) : Ad (w.alloc (.cells #[.int .u16 A.kind, .int .u8 A.d0, .int .u8 A.d1, .int .u8 A.d2, .int .u8 A.d3, .int .u8 A.d4, .int .u8 A.d5, .int .u8 A.d6, .int .u8 A.d7] t)) w.heap.size A :=
  ⟨by simp [go_sem], by simp [go_sem], by simp [go_sem], by simp [go_sem], by simp [go_sem], by simp [go_sem], by simp [go_sem], by simp [go_sem], by simp [go_sem]⟩
theorem Ad.arg {w : World} {g : Nat} {A : AuV} (k : Ad w g A) : ArgAt w (.slice (some ⟨g, 1, none⟩) 8 8) A.data := by
  refine Or.inr ⟨_, 8, rfl, by simp [AuV.data], by simp [maxLen], ?_⟩
  intro j u hj
  unfold AuV.data at hj
  match j, hj with
  | 0, h => cases h; exact k.c1
  | 1, h => cases h; exact k.c2
  | 2, h => cases h; exact k.c3
  | 3, h => cases h; exact k.c4
  | 4, h => cases h; exact k.c5
  | 5, h => cases h; exact k.c6
  | 6, h => cases h; exact k.c7
  | 7, h => cases h; exact k.c8
  | j + 8, h => simp [bytesOf] at h
theorem two_arg {w : World} {g : Nat} {a b : Int} (h0 : w.cell? ⟨g, 0, none⟩ = some (.int .u8 a)) (h1 : w.cell? ⟨g, 1, none⟩ = some (.int .u8 b)) : ArgAt w (.slice (some ⟨g, 0, none⟩) 2 2) [a, b] := by
  refine Or.inr ⟨_, 2, rfl, by simp, by simp [maxLen], ?_⟩
  intro j u hj
  match j, hj with
  | 0, h => cases h; exact h0
  | 1, h => cases h; exact h1
  | j + 2, h => simp [bytesOf] at h
end Go.Proofs.YtfhkocpnealblaaGreat
