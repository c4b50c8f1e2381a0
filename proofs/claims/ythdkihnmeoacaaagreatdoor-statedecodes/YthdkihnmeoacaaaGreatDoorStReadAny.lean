/- Contracts: mask and nought both ways; readSummary, readBorder. -/
import Derived.Test.YthdkihnmeoacaaaGreatDoorRefRead
import Derived.Test.YthdkihnmeoacaaaGreatDoorRefRdH
namespace Go.Proofs.YthdkihnmeoacaaaGreatDoor
open Go.RowKit
set_option linter.unusedVariables false
set_option maxRecDepth 100000

theorem rmask_any (N b : Nat) (rs : List Int) (q : Option Nat) (w : World) (h : Rdr N w b rs q) :
    Calls Tryz.prog 134 #[.agg #[.pointer (some ⟨b, 0, none⟩)]] w fun e w' => (e = .returned (.int .u32 (numAt rs q 4)) ∧ pbok (numAt rs q 4) = true ∧ Rdr N w' b rs (nextAt rs q 4) ∧ Touch (fun k => k = b) w w') ∨ (e = .panicked (flawC 28) ∧ pbok (numAt rs q 4) = false ∧ Touch (fun k => k = b) w w') := by
  cases hm : pbok (numAt rs q 4) with
  | true =>
    refine (rmask_ok N b rs q w h hm).mono ?_
    rintro e w' ⟨rfl, hr, t⟩
    exact Or.inl ⟨rfl, rfl, hr, t⟩
  | false =>
    refine (rmask_no N b rs q w h hm).mono ?_
    rintro e w' ⟨rfl, t⟩
    exact Or.inr ⟨rfl, rfl, t⟩
theorem nought_any (N b : Nat) (n : Int) (hn : n = 1 ∨ n = 2 ∨ n = 3 ∨ n = 4) (rs : List Int) (q : Option Nat) (w : World) (h : Rdr N w b rs q) :
    Calls Tryz.prog 142 #[.agg #[.pointer (some ⟨b, 0, none⟩)], .int .i64 n] w fun e w' => (e = .returned (.tuple #[]) ∧ numAt rs q n.toNat = 0 ∧ Rdr N w' b rs (nextAt rs q n.toNat) ∧ Touch (fun k => k = b) w w') ∨ (e = .panicked (flawC 28) ∧ numAt rs q n.toNat ≠ 0 ∧ Touch (fun k => k = b) w w') := by
  by_cases hz : numAt rs q n.toNat = 0
  · refine (nought_ok N b n hn rs q w h hz).mono ?_
    rintro e w' ⟨rfl, hr, t⟩
    exact Or.inl ⟨rfl, hz, hr, t⟩
  · refine (nought_no N b n hn rs q w h hz).mono ?_
    rintro e w' ⟨rfl, t⟩
    exact Or.inr ⟨rfl, hz, t⟩
theorem nought_1 (N b : Nat) (rs : List Int) (q : Option Nat) (w : World) (h : Rdr N w b rs q) :
    Calls Tryz.prog 142 #[.agg #[.pointer (some ⟨b, 0, none⟩)], .int .i64 1] w fun e w' => (e = .returned (.tuple #[]) ∧ numAt rs q 1 = 0 ∧ Rdr N w' b rs (nextAt rs q 1) ∧ Touch (fun k => k = b) w w') ∨ (e = .panicked (flawC 28) ∧ numAt rs q 1 ≠ 0 ∧ Touch (fun k => k = b) w w') := nought_any N b 1 (by omega) rs q w h
theorem nought_4 (N b : Nat) (rs : List Int) (q : Option Nat) (w : World) (h : Rdr N w b rs q) :
    Calls Tryz.prog 142 #[.agg #[.pointer (some ⟨b, 0, none⟩)], .int .i64 4] w fun e w' => (e = .returned (.tuple #[]) ∧ numAt rs q 4 = 0 ∧ Rdr N w' b rs (nextAt rs q 4) ∧ Touch (fun k => k = b) w w') ∨ (e = .panicked (flawC 28) ∧ numAt rs q 4 ≠ 0 ∧ Touch (fun k => k = b) w w') := nought_any N b 4 (by omega) rs q w h
/-- What eight bytes say. -/
theorem at8 {rs : List Int} (h : rs.length = 8) : ∃ a b c d e f g i, rs = [a, b, c, d, e, f, g, i] ∧ numAt rs (some 0) 4 = numOf [a, b, c, d] ∧ numAt rs (nextAt rs (some 0) 4) 1 = e ∧ numAt rs (nextAt rs (nextAt rs (some 0) 4) 1) 3 = numOf [f, g, i] := by
  obtain ⟨a, b, c, d, e, f, g, i, rfl⟩ := list8 h
  refine ⟨a, b, c, d, e, f, g, i, rfl, ?_, ?_, ?_⟩
  · simp [numAt]
  · simp [numAt, nextAt, numOf1]
  · simp [numAt, nextAt]
theorem q8 (rs : List Int) : nextAt rs (nextAt rs (nextAt rs (some 0) 4) 1) 3 = nextAt rs (some 0) 8 := by rw [nextAt_add, nextAt_add]
theorem q8_len {rs : List Int} : nextAt rs (some 0) 8 = some rs.length ↔ rs.length = 8 := by
  unfold nextAt
  dsimp only
  split
  · simp; omega
  · simp; omega
theorem sum_yes {rs : List Int} (hb : ∀ z ∈ rs, 0 ≤ z ∧ z < 256) (hm : pbok (numAt rs (some 0) 4) = true) (hz : numAt rs (nextAt rs (some 0) 4) 1 = 0) :
    decB 3 rs = (if nextAt rs (nextAt rs (nextAt rs (some 0) 4) 1) 3 = some rs.length then some ⟨0, [], numAt rs (some 0) 4, [], numAt rs (nextAt rs (nextAt rs (some 0) 4) 1) 3, false, 0, 0, []⟩ else none) := by
  by_cases h8 : rs.length = 8
  · obtain ⟨a, b, c, d, e, f, g, i, hrs, e1, e2, e3⟩ := at8 h8
    rw [q8, if_pos (q8_len.2 h8), e1, e3]
    rw [e1] at hm
    rw [e2] at hz
    rw [hrs] at hb ⊢
    rw [dec3_eq hb, if_pos ⟨hm, hz⟩]
  · rw [q8, if_neg (fun h => h8 (q8_len.1 h)), dec34_len (Or.inl rfl) h8]
theorem sum_no {rs : List Int} (hb : ∀ z ∈ rs, 0 ≤ z ∧ z < 256) (h : pbok (numAt rs (some 0) 4) = false ∨ numAt rs (nextAt rs (some 0) 4) 1 ≠ 0) : decB 3 rs = none := by
  by_cases h8 : rs.length = 8
  · obtain ⟨a, b, c, d, e, f, g, i, hrs, e1, e2, e3⟩ := at8 h8
    rw [e1, e2] at h
    rw [hrs] at hb ⊢
    rw [dec3_eq hb, if_neg]
    rintro ⟨h1, h2⟩
    rcases h with h | h
    · rw [h1] at h; cases h
    · exact h h2
  · exact dec34_len (Or.inl rfl) h8
theorem bor_yes {rs : List Int} (hb : ∀ z ∈ rs, 0 ≤ z ∧ z < 256) (hm : numAt rs (some 0) 4 = 0) (hz : numAt rs (nextAt rs (some 0) 4) 1 = 0) :
    decB 4 rs = (if nextAt rs (nextAt rs (nextAt rs (some 0) 4) 1) 3 = some rs.length then some ⟨0, [], 0, [], numAt rs (nextAt rs (nextAt rs (some 0) 4) 1) 3, false, 0, 0, []⟩ else none) := by
  by_cases h8 : rs.length = 8
  · obtain ⟨a, b, c, d, e, f, g, i, hrs, e1, e2, e3⟩ := at8 h8
    rw [q8, if_pos (q8_len.2 h8), e3]
    rw [e1] at hm
    rw [e2] at hz
    rw [hrs] at hb ⊢
    rw [dec4_eq hb, if_pos ⟨hm, hz⟩]
  · rw [q8, if_neg (fun h => h8 (q8_len.1 h)), dec34_len (Or.inr rfl) h8]
theorem bor_no {rs : List Int} (hb : ∀ z ∈ rs, 0 ≤ z ∧ z < 256) (h : numAt rs (some 0) 4 ≠ 0 ∨ numAt rs (nextAt rs (some 0) 4) 1 ≠ 0) : decB 4 rs = none := by
  by_cases h8 : rs.length = 8
  · obtain ⟨a, b, c, d, e, f, g, i, hrs, e1, e2, e3⟩ := at8 h8
    rw [e1, e2] at h
    rw [hrs] at hb ⊢
    rw [dec4_eq hb, if_neg]
    rintro ⟨h1, h2⟩
    rcases h with h | h
    · exact h h1
    · exact h h2
  · exact dec34_len (Or.inr rfl) h8
set_option maxHeartbeats 1000000 in
theorem rborder_any (N b : Nat) (rs : List Int) (w : World) (h : Rdr N w b rs (some 0)) (hN : N ≤ w.heap.size) :
    Calls Tryz.prog 125 #[.agg #[.pointer (some ⟨b, 0, none⟩)]] w (RdPost 4 N b rs w) := by
  have hb := h.low
  have HBy : Hid (∀ z ∈ rs, 0 ≤ z ∧ z < 256) := h.byte
  have HM := fun w h => nought_4 N b rs (some 0) w h
  have HZ := fun w h => nought_1 N b rs (nextAt rs (some 0) 4) w h
  have HC := fun w h => rmetric_any N b rs (nextAt rs (nextAt rs (some 0) 4) 1) w h
  have YES : Hid (numAt rs (some 0) 4 = 0 → numAt rs (nextAt rs (some 0) 4) 1 = 0 → _) := fun h1 h2 => bor_yes h.byte h1 h2
  have NO : Hid (numAt rs (some 0) 4 ≠ 0 ∨ numAt rs (nextAt rs (some 0) 4) 1 ≠ 0 → decB 4 rs = none) := bor_no h.byte
  generalize numAt rs (some 0) 4 = M at *
  generalize nextAt rs (some 0) 4 = q1 at *
  generalize numAt rs q1 1 = Z at *
  generalize nextAt rs q1 1 = q2 at *
  generalize numAt rs q2 3 = C at *
  generalize nextAt rs q2 3 = q3 at *
  go_enter Tryz.func125, Tryz.ntmps125
  go_wp2_with fail
  refine Calls.mono (HM _ (h.keep (((Touch.refl _ _).alloc _).alloc _))) ?_
  rintro e w1 (⟨rfl, hM, h1, t1⟩ | ⟨rfl, hM, t1⟩)
  rotate_left
  · exact ⟨rfl, Or.inr ⟨rfl, (((Touch.refl _ w).alloc _).alloc _).trans t1, NO.out (Or.inl hM)⟩⟩
  have R1 : Hid (Room w1 (w.heap.size + 1) 9) := by
    have := (Room.new (w.alloc (.cells #[.pointer (some ⟨b, 0, none⟩)] 167)) #[.int .u8 0, .slice none 0 0, .int .u32 0, .slice none 0 0, .int .u32 0, .bool false, .int .u32 0, .int .u32 0, .slice none 0 0] 30).touch t1 (by simp; omega)
    show Room _ _ _
    simpa using this
  have c1 : w1.cell? ⟨w.heap.size, 0, none⟩ = some (.pointer (some ⟨b, 0, none⟩)) := (t1.cell (p := ⟨w.heap.size, 0, none⟩) (by simp; omega) (by show ¬ w.heap.size = b; omega)).trans (by simp [go_sem])
  have T1 : Hid (Touch (fun k => k = b) w w1) := (((Touch.refl _ w).alloc _).alloc _).trans t1
  have hs1 : w.heap.size + 1 < w1.heap.size := by have := t1.size; simp at this; omega
  have HMz : Hid (M = 0) := hM
  clear t1 HM h hM
  go_wp2_with fail
  refine Calls.mono (HZ _ h1) ?_
  rintro e w2 (⟨rfl, hZ, h2, t2⟩ | ⟨rfl, hZ, t2⟩)
  rotate_left
  · exact ⟨rfl, Or.inr ⟨rfl, T1.out.trans t2, NO.out (Or.inr hZ)⟩⟩
  have c2 : w2.cell? ⟨w.heap.size, 0, none⟩ = some (.pointer (some ⟨b, 0, none⟩)) := (t2.cell (p := ⟨w.heap.size, 0, none⟩) (by show w.heap.size < _; omega) (by show ¬ w.heap.size = b; omega)).trans c1
  have R2 : Hid (Room w2 (w.heap.size + 1) 9) := R1.out.touch t2 (by show ¬ w.heap.size + 1 = b; omega)
  have T2 : Hid (Touch (fun k => k = b) w w2) := T1.out.trans t2
  have hs2 : w.heap.size + 1 < w2.heap.size := by have := t2.size; omega
  have HYthdkihnmeoacaaaGreatDoor : Hid (Z = 0) := hZ
  clear t2 HZ h1 c1 R1 T1 hZ hs1
  go_wp2_with fail
  refine Calls.mono (HC _ h2) ?_
  rintro e w3 ⟨rfl, h3, t3⟩
  have R3 : Hid (Room w3 (w.heap.size + 1) 9) := R2.out.touch t3 (by show ¬ w.heap.size + 1 = b; omega)
  have T3 : Hid (Touch (fun k => k = b) w w3) := T2.out.trans t3
  have H3 : Hid (Rdr N w3 b rs q3) := h3
  clear t3 HC h2 h3 c2 R2 T2
  generalize hg : w.heap.size + 1 = g at *
  have HG : Hid (w.heap.size + 1 = g) := hg
  have HN : Hid (N ≤ w.heap.size) := hN
  clear hg hN
  obtain ⟨zz0, zc0, zf0⟩ := R3.out 0 (by omega)
  obtain ⟨zz1, zc1, zf1⟩ := R3.out 1 (by omega)
  obtain ⟨zz2, zc2, zf2⟩ := R3.out 2 (by omega)
  obtain ⟨zz3, zc3, zf3⟩ := R3.out 3 (by omega)
  obtain ⟨zz4, zc4, zf4⟩ := R3.out 4 (by omega)
  obtain ⟨zz5, zc5, zf5⟩ := R3.out 5 (by omega)
  obtain ⟨zz6, zc6, zf6⟩ := R3.out 6 (by omega)
  obtain ⟨zz7, zc7, zf7⟩ := R3.out 7 (by omega)
  obtain ⟨zz8, zc8, zf8⟩ := R3.out 8 (by omega)
  obtain ⟨wz, hwz⟩ : ∃ wz, wz = (((((((((w3.setCell ⟨g, 0, none⟩ (.int .u8 0)).setCell ⟨g, 1, none⟩ (.slice none 0 0)).setCell ⟨g, 2, none⟩ (.int .u32 0)).setCell ⟨g, 3, none⟩ (.slice none 0 0)).setCell ⟨g, 4, none⟩ (.int .u32 C)).setCell ⟨g, 5, none⟩ (.bool false)).setCell ⟨g, 6, none⟩ (.int .u32 0)).setCell ⟨g, 7, none⟩ (.int .u32 0)).setCell ⟨g, 8, none⟩ (.slice none 0 0)) := ⟨_, rfl⟩
  have zd0 : wz.cell? ⟨g, 0, none⟩ = some (.int .u8 0) := by rw [hwz]; simp [zc0, go_sem]
  have zd1 : wz.cell? ⟨g, 1, none⟩ = some (.slice none 0 0) := by rw [hwz]; simp [zc1, go_sem]
  have zd2 : wz.cell? ⟨g, 2, none⟩ = some (.int .u32 0) := by rw [hwz]; simp [zc2, go_sem]
  have zd3 : wz.cell? ⟨g, 3, none⟩ = some (.slice none 0 0) := by rw [hwz]; simp [zc3, go_sem]
  have zd4 : wz.cell? ⟨g, 4, none⟩ = some (.int .u32 C) := by rw [hwz]; simp [zc4, go_sem]
  have zd5 : wz.cell? ⟨g, 5, none⟩ = some (.bool false) := by rw [hwz]; simp [zc5, go_sem]
  have zd6 : wz.cell? ⟨g, 6, none⟩ = some (.int .u32 0) := by rw [hwz]; simp [zc6, go_sem]
  have zd7 : wz.cell? ⟨g, 7, none⟩ = some (.int .u32 0) := by rw [hwz]; simp [zc7, go_sem]
  have zd8 : wz.cell? ⟨g, 8, none⟩ = some (.slice none 0 0) := by rw [hwz]; simp [zc8, go_sem]
  have HUz : Hid (Touch (fun k => k = g) w3 wz) := by show Touch _ _ _; rw [hwz]; refine Touch.setCell (F := fun k => k = g) (p := ⟨g, 8, none⟩) ?_ (Or.inl rfl) _; refine Touch.setCell (F := fun k => k = g) (p := ⟨g, 7, none⟩) ?_ (Or.inl rfl) _; refine Touch.setCell (F := fun k => k = g) (p := ⟨g, 6, none⟩) ?_ (Or.inl rfl) _; refine Touch.setCell (F := fun k => k = g) (p := ⟨g, 5, none⟩) ?_ (Or.inl rfl) _; refine Touch.setCell (F := fun k => k = g) (p := ⟨g, 4, none⟩) ?_ (Or.inl rfl) _; refine Touch.setCell (F := fun k => k = g) (p := ⟨g, 3, none⟩) ?_ (Or.inl rfl) _; refine Touch.setCell (F := fun k => k = g) (p := ⟨g, 2, none⟩) ?_ (Or.inl rfl) _; refine Touch.setCell (F := fun k => k = g) (p := ⟨g, 1, none⟩) ?_ (Or.inl rfl) _; refine Touch.setCell (F := fun k => k = g) (p := ⟨g, 0, none⟩) ?_ (Or.inl rfl) _; exact Touch.refl _ _
  have HWz : Hid (wz = (((((((((w3.setCell ⟨g, 0, none⟩ (.int .u8 0)).setCell ⟨g, 1, none⟩ (.slice none 0 0)).setCell ⟨g, 2, none⟩ (.int .u32 0)).setCell ⟨g, 3, none⟩ (.slice none 0 0)).setCell ⟨g, 4, none⟩ (.int .u32 C)).setCell ⟨g, 5, none⟩ (.bool false)).setCell ⟨g, 6, none⟩ (.int .u32 0)).setCell ⟨g, 7, none⟩ (.int .u32 0)).setCell ⟨g, 8, none⟩ (.slice none 0 0))) := hwz
  clear hwz
  go_wp2_with fail
  rw [← HWz.out]
  clear HWz zc0 zf0 zc1 zf1 zc2 zf2 zc3 zf3 zc4 zf4 zc5 zf5 zc6 zf6 zc7 zf7 zc8 zf8
  refine bodyPost_ret (v := .agg #[.int .u8 0, .slice none 0 0, .int .u32 0, .slice none 0 0, .int .u32 C, .bool false, .int .u32 0, .int .u32 0, .slice none 0 0]) (by simp [results, Tryz.results125, go_sem, zd0, zd1, zd2, zd3, zd4, zd5, zd6, zd7, zd8]) rfl ?_
  exact Or.inl ⟨⟨0, [], 0, [], C, false, 0, 0, []⟩, _, _, _, q3, rfl, H3.out.touch HUz.out (fun k hk e => by have := HG.out; have := HN.out; omega), BOwn.flat _ _ _ _ _ _ _ _, T3.out.trans' HUz.out (fun i hi e => by have := HG.out; omega), YES.out HMz.out HYthdkihnmeoacaaaGreatDoor.out⟩
set_option maxHeartbeats 1000000 in
theorem rsum_any (N b : Nat) (rs : List Int) (w : World) (h : Rdr N w b rs (some 0)) (hN : N ≤ w.heap.size) :
    Calls Tryz.prog 123 #[.agg #[.pointer (some ⟨b, 0, none⟩)]] w (RdPost 3 N b rs w) := by
  have hb := h.low
  have HM := fun w h => rmask_any N b rs (some 0) w h
  have HZ := fun w h => nought_1 N b rs (nextAt rs (some 0) 4) w h
  have HC := fun w h => rmetric_any N b rs (nextAt rs (nextAt rs (some 0) 4) 1) w h
  have YES : Hid (pbok (numAt rs (some 0) 4) = true → numAt rs (nextAt rs (some 0) 4) 1 = 0 → _) := fun h1 h2 => sum_yes h.byte h1 h2
  have NO : Hid (pbok (numAt rs (some 0) 4) = false ∨ numAt rs (nextAt rs (some 0) 4) 1 ≠ 0 → decB 3 rs = none) := sum_no h.byte
  generalize numAt rs (some 0) 4 = M at *
  generalize nextAt rs (some 0) 4 = q1 at *
  generalize numAt rs q1 1 = Z at *
  generalize nextAt rs q1 1 = q2 at *
  generalize numAt rs q2 3 = C at *
  generalize nextAt rs q2 3 = q3 at *
  go_enter Tryz.func123, Tryz.ntmps123
  go_wp2_with fail
  refine Calls.mono (HM _ (h.keep (((Touch.refl _ _).alloc _).alloc _))) ?_
  rintro e w1 (⟨rfl, hM, h1, t1⟩ | ⟨rfl, hM, t1⟩)
  rotate_left
  · exact ⟨rfl, Or.inr ⟨rfl, (((Touch.refl _ w).alloc _).alloc _).trans t1, NO.out (Or.inl hM)⟩⟩
  have R1 : Hid (Room w1 (w.heap.size + 1) 9) := by
    have := (Room.new (w.alloc (.cells #[.pointer (some ⟨b, 0, none⟩)] 167)) #[.int .u8 0, .slice none 0 0, .int .u32 0, .slice none 0 0, .int .u32 0, .bool false, .int .u32 0, .int .u32 0, .slice none 0 0] 30).touch t1 (by simp; omega)
    show Room _ _ _
    simpa using this
  have c1 : w1.cell? ⟨w.heap.size, 0, none⟩ = some (.pointer (some ⟨b, 0, none⟩)) := (t1.cell (p := ⟨w.heap.size, 0, none⟩) (by simp; omega) (by show ¬ w.heap.size = b; omega)).trans (by simp [go_sem])
  have T1 : Hid (Touch (fun k => k = b) w w1) := (((Touch.refl _ w).alloc _).alloc _).trans t1
  have hs1 : w.heap.size + 1 < w1.heap.size := by have := t1.size; simp at this; omega
  have HMz : Hid (pbok M = true) := hM
  clear t1 HM h hM
  have hlt : w.heap.size < w1.heap.size := by omega
  have hn1 : ¬ w.heap.size = w1.heap.size := by omega
  have hn2 : ¬ w1.heap.size = w.heap.size := by omega
  go_wp2_with fail
  refine Calls.mono (HZ _ (h1.keep ((Touch.refl _ _).alloc _))) ?_
  rintro e w2 (⟨rfl, hZ, h2, t2⟩ | ⟨rfl, hZ, t2⟩)
  rotate_left
  · exact ⟨rfl, Or.inr ⟨rfl, (T1.out.alloc _).trans t2, NO.out (Or.inr hZ)⟩⟩
  have HYthdkihnmeoacaaaGreatDoor : Hid (Z = 0) := hZ
  have O2 : OutB w2 w1.heap.size ⟨0, [], M, [], 0, false, 0, 0, []⟩ (.slice none 0 0) (.slice none 0 0) (.slice none 0 0) := by
    have k := OutB.new w1 ⟨0, [], M, [], 0, false, 0, 0, []⟩ (.slice none 0 0) (.slice none 0 0) (.slice none 0 0) 30
    exact OutB.kept (X := fun k => k = w1.heap.size) k (Touch.mono t2 (fun i _ e hx => by omega)) rfl
  have c2 : w2.cell? ⟨w.heap.size, 0, none⟩ = some (.pointer (some ⟨b, 0, none⟩)) := (t2.cell (p := ⟨w.heap.size, 0, none⟩) (by simp; omega) (by show ¬ w.heap.size = b; omega)).trans (((Touch.refl _ _).alloc _).cellN c1)
  have R2 : Hid (Room w2 (w.heap.size + 1) 9) := (R1.out.keep ((Touch.refl _ _).alloc _)).touch t2 (by show ¬ w.heap.size + 1 = b; omega)
  have T2 : Hid (Touch (fun k => k = b) w w2) := (T1.out.alloc _).trans t2
  have hs2 : w1.heap.size < w2.heap.size := O2.lt
  have HO2 : Hid (OutB w2 w1.heap.size ⟨0, [], M, [], 0, false, 0, 0, []⟩ (.slice none 0 0) (.slice none 0 0) (.slice none 0 0)) := O2
  clear t2 HZ h1 c1 R1 T1 O2 hZ
  go_wp2_with fail
  refine Calls.mono (HC _ h2) ?_
  rintro e w3 ⟨rfl, h3, t3⟩
  have HO3 : Hid (OutB w3 w1.heap.size ⟨0, [], M, [], 0, false, 0, 0, []⟩ (.slice none 0 0) (.slice none 0 0) (.slice none 0 0)) := OutB.kept (X := fun k => k = w1.heap.size) HO2.out (Touch.mono t3 (fun i _ e hx => by omega)) rfl
  have R3 : Hid (Room (w3.setCell ⟨w1.heap.size, 4, none⟩ (.int .u32 C)) (w.heap.size + 1) 9) := (R2.out.touch t3 (by show ¬ w.heap.size + 1 = b; omega)).touch (Touch.setCell (F := fun k => k = w1.heap.size) (p := ⟨w1.heap.size, 4, none⟩) (Touch.refl _ _) (Or.inl rfl) _) (by show ¬ w.heap.size + 1 = w1.heap.size; omega)
  have T3 : Hid (Touch (fun k => k = b) w (w3.setCell ⟨w1.heap.size, 4, none⟩ (.int .u32 C))) := (T2.out.trans t3).setCell (Or.inr (by show w.heap.size ≤ w1.heap.size; omega)) _
  have H3 : Hid (Rdr N (w3.setCell ⟨w1.heap.size, 4, none⟩ (.int .u32 C)) b rs q3) := h3.touch (Touch.setCell (F := fun k => k = w1.heap.size) (p := ⟨w1.heap.size, 4, none⟩) (Touch.refl _ _) (Or.inl rfl) _) (fun k hk e => by omega)
  obtain ⟨⟨d0, d1, d2, d3, d4, d5, d6, d7, d8⟩, fz⟩ := HO3.out
  dsimp only at d0 d1 d2 d3 d4 d5 d6 d7 d8
  have f4 := fz 4 (by omega)
  clear t3 HC h2 h3 c2 R2 T2 HO2 fz
  go_upto_region 4 with fail
  have E0 : Hid (OutB (w3.setCell ⟨w1.heap.size, 4, none⟩ (.int .u32 C)) w1.heap.size ⟨0, [], M, [], C, false, 0, 0, []⟩ (.slice none 0 0) (.slice none 0 0) (.slice none 0 0)) := by
    obtain ⟨⟨c0, c1, c2, c3, c4, c5, c6, c7, c8⟩, fz⟩ := HO3.out
    exact ⟨⟨by simp [c0, go_sem], by simp [c1, go_sem], by simp [c2, go_sem], by simp [c3, go_sem], by simp [c4, go_sem], by simp [c5, go_sem], by simp [c6, go_sem], by simp [c7, go_sem], by simp [c8, go_sem]⟩, fun i hi => by simp [fz i hi, go_sem]⟩
  clear d0 d1 d2 d3 d4 d5 d6 d7 d8 f4 HO3
  generalize w3.setCell ⟨w1.heap.size, 4, none⟩ (.int .u32 C) = w4 at *
  obtain ⟨⟨d0, d1, d2, d3, d4, d5, d6, d7, d8⟩, -⟩ := E0.out
  dsimp only at d0 d1 d2 d3 d4 d5 d6 d7 d8
  have hm1 : ¬ w.heap.size + 1 = w1.heap.size := by omega
  have hm2 : ¬ w1.heap.size = w.heap.size + 1 := by omega
  generalize hg : w.heap.size + 1 = g at *
  have HG : Hid (w.heap.size + 1 = g) := hg
  have HN : Hid (N ≤ w.heap.size) := hN
  clear hg hN
  obtain ⟨zz0, zc0, zf0⟩ := R3.out 0 (by omega)
  obtain ⟨zz1, zc1, zf1⟩ := R3.out 1 (by omega)
  obtain ⟨zz2, zc2, zf2⟩ := R3.out 2 (by omega)
  obtain ⟨zz3, zc3, zf3⟩ := R3.out 3 (by omega)
  obtain ⟨zz4, zc4, zf4⟩ := R3.out 4 (by omega)
  obtain ⟨zz5, zc5, zf5⟩ := R3.out 5 (by omega)
  obtain ⟨zz6, zc6, zf6⟩ := R3.out 6 (by omega)
  obtain ⟨zz7, zc7, zf7⟩ := R3.out 7 (by omega)
  obtain ⟨zz8, zc8, zf8⟩ := R3.out 8 (by omega)
  obtain ⟨wz, hwz⟩ : ∃ wz, wz = (((((((((w4.setCell ⟨g, 0, none⟩ (.int .u8 0)).setCell ⟨g, 1, none⟩ (.slice none 0 0)).setCell ⟨g, 2, none⟩ (.int .u32 M)).setCell ⟨g, 3, none⟩ (.slice none 0 0)).setCell ⟨g, 4, none⟩ (.int .u32 C)).setCell ⟨g, 5, none⟩ (.bool false)).setCell ⟨g, 6, none⟩ (.int .u32 0)).setCell ⟨g, 7, none⟩ (.int .u32 0)).setCell ⟨g, 8, none⟩ (.slice none 0 0)) := ⟨_, rfl⟩
  have zd0 : wz.cell? ⟨g, 0, none⟩ = some (.int .u8 0) := by rw [hwz]; simp [zc0, go_sem]
  have zd1 : wz.cell? ⟨g, 1, none⟩ = some (.slice none 0 0) := by rw [hwz]; simp [zc1, go_sem]
  have zd2 : wz.cell? ⟨g, 2, none⟩ = some (.int .u32 M) := by rw [hwz]; simp [zc2, go_sem]
  have zd3 : wz.cell? ⟨g, 3, none⟩ = some (.slice none 0 0) := by rw [hwz]; simp [zc3, go_sem]
  have zd4 : wz.cell? ⟨g, 4, none⟩ = some (.int .u32 C) := by rw [hwz]; simp [zc4, go_sem]
  have zd5 : wz.cell? ⟨g, 5, none⟩ = some (.bool false) := by rw [hwz]; simp [zc5, go_sem]
  have zd6 : wz.cell? ⟨g, 6, none⟩ = some (.int .u32 0) := by rw [hwz]; simp [zc6, go_sem]
  have zd7 : wz.cell? ⟨g, 7, none⟩ = some (.int .u32 0) := by rw [hwz]; simp [zc7, go_sem]
  have zd8 : wz.cell? ⟨g, 8, none⟩ = some (.slice none 0 0) := by rw [hwz]; simp [zc8, go_sem]
  have HUz : Hid (Touch (fun k => k = g) w4 wz) := by show Touch _ _ _; rw [hwz]; refine Touch.setCell (F := fun k => k = g) (p := ⟨g, 8, none⟩) ?_ (Or.inl rfl) _; refine Touch.setCell (F := fun k => k = g) (p := ⟨g, 7, none⟩) ?_ (Or.inl rfl) _; refine Touch.setCell (F := fun k => k = g) (p := ⟨g, 6, none⟩) ?_ (Or.inl rfl) _; refine Touch.setCell (F := fun k => k = g) (p := ⟨g, 5, none⟩) ?_ (Or.inl rfl) _; refine Touch.setCell (F := fun k => k = g) (p := ⟨g, 4, none⟩) ?_ (Or.inl rfl) _; refine Touch.setCell (F := fun k => k = g) (p := ⟨g, 3, none⟩) ?_ (Or.inl rfl) _; refine Touch.setCell (F := fun k => k = g) (p := ⟨g, 2, none⟩) ?_ (Or.inl rfl) _; refine Touch.setCell (F := fun k => k = g) (p := ⟨g, 1, none⟩) ?_ (Or.inl rfl) _; refine Touch.setCell (F := fun k => k = g) (p := ⟨g, 0, none⟩) ?_ (Or.inl rfl) _; exact Touch.refl _ _
  have HWz : Hid (wz = (((((((((w4.setCell ⟨g, 0, none⟩ (.int .u8 0)).setCell ⟨g, 1, none⟩ (.slice none 0 0)).setCell ⟨g, 2, none⟩ (.int .u32 M)).setCell ⟨g, 3, none⟩ (.slice none 0 0)).setCell ⟨g, 4, none⟩ (.int .u32 C)).setCell ⟨g, 5, none⟩ (.bool false)).setCell ⟨g, 6, none⟩ (.int .u32 0)).setCell ⟨g, 7, none⟩ (.int .u32 0)).setCell ⟨g, 8, none⟩ (.slice none 0 0))) := hwz
  clear hwz
  go_wp2_with fail
  rw [← HWz.out]
  clear HWz zc0 zf0 zc1 zf1 zc2 zf2 zc3 zf3 zc4 zf4 zc5 zf5 zc6 zf6 zc7 zf7 zc8 zf8
  refine bodyPost_ret (v := .agg #[.int .u8 0, .slice none 0 0, .int .u32 M, .slice none 0 0, .int .u32 C, .bool false, .int .u32 0, .int .u32 0, .slice none 0 0]) (by simp [results, Tryz.results123, go_sem, zd0, zd1, zd2, zd3, zd4, zd5, zd6, zd7, zd8]) rfl ?_
  exact Or.inl ⟨⟨0, [], M, [], C, false, 0, 0, []⟩, _, _, _, q3, rfl, H3.out.touch HUz.out (fun k hk e => by have := HG.out; have := HN.out; omega), BOwn.flat _ _ _ _ _ _ _ _, T3.out.trans' HUz.out (fun i hi e => by have := HG.out; omega), YES.out HMz.out HYthdkihnmeoacaaaGreatDoor.out⟩
end Go.Proofs.YthdkihnmeoacaaaGreatDoor

namespace Go.Proofs.YthdkihnmeoacaaaGreatDoor
open Go.RowKit
set_option linter.unusedVariables false
set_option maxRecDepth 100000

/-- What read makes of the bytes rs. -/
def RdAns (t : Int) (rs : List Int) (w : World) : Ending → World → Prop := fun e w' =>
  (∃ B vl vr vd, e = .returned (B.v vl vr vd) ∧ decB t rs = some B ∧ BOwn w.heap.size w' B vl vr vd ∧ Touch (fun _ => False) w w') ∨ (e = .panicked (flawC 28) ∧ decB t rs = none ∧ Touch (fun _ => False) w w')
theorem left_none (N b : Nat) (rs : List Int) (w : World) (h : Rdr N w b rs none) : Calls Tryz.prog 100 #[.pointer (some ⟨b, 0, none⟩)] w fun e w' => e = .returned (.int .i64 0) ∧ ∃ n, w' = w.drewN n := left_r N b rs none w h
theorem left_some (N b p : Nat) (rs : List Int) (w : World) (h : Rdr N w b rs (some p)) : Calls Tryz.prog 100 #[.pointer (some ⟨b, 0, none⟩)] w fun e w' => e = .returned (.int .i64 ((rs.length : Int) - p)) ∧ ∃ n, w' = w.drewN n := left_r N b rs (some p) w h
set_option maxHeartbeats 2000000 in
theorem read_any (G1 G2 : Nat) (hG : ∀ (x : Array Value) w, (callFunc G2 x).run Tryz.prog w = .ok (.enter G2 x) w) (t : Int) (v : Value) (rs : List Int) (w : World) (hv : ArgAt w v rs) (hby : ∀ z ∈ rs, 0 ≤ z ∧ z < 256) (hl : rs.length ≤ 1000000)
    (HR : ∀ (N b : Nat) (w : World), Rdr N w b rs (some 0) → N ≤ w.heap.size → Calls Tryz.prog G2 #[.agg #[.pointer (some ⟨b, 0, none⟩)]] w (RdPost t N b rs w)) :
    Calls Tryz.prog 72 #[.agg #[.func (.func G1) #[] #[], .func (.func G2) #[] #[]], v] w (RdAns t rs w) := by
  have hsf : ∀ (w : World) (a : Addr) (f : Fn) (x y : Array Value) (m : Mode), (store a (.func f x y) m).run Tryz.prog w = stored Tryz.prog w a (.func f x y) m := fun w a f x y m => run_store Tryz.prog w a _ m rfl
  have HVA : Hid (ArgAt w v rs) := hv
  have HBy : Hid (∀ z ∈ rs, 0 ≤ z ∧ z < 256) := hby
  have HRs : Hid (∀ (N b : Nat) (w : World), Rdr N w b rs (some 0) → N ≤ w.heap.size → Calls Tryz.prog G2 #[.agg #[.pointer (some ⟨b, 0, none⟩)]] w (RdPost t N b rs w)) := HR
  clear hv hby HR
  go_enter Tryz.func72, Tryz.ntmps72
  go_wp2_with fail
  refine Calls.mono (read_r v rs _ (HVA.out.keepN (((Touch.refl _ _).alloc _).alloc _)) HBy.out (by omega)) ?_
  rintro e w1 ⟨b, rfl, hb, hr, t1⟩
  have R1 : Hid (Room w1 (w.heap.size + 1) 9) := by
    have := (Room.new (w.alloc (.cells #[.func (.func G1) #[] #[], .func (.func G2) #[] #[]] 99)) #[.int .u8 0, .slice none 0 0, .int .u32 0, .slice none 0 0, .int .u32 0, .bool false, .int .u32 0, .int .u32 0, .slice none 0 0] 30).keep t1
    show Room _ _ _
    simpa using this
  have c0 : w1.cell? ⟨w.heap.size, 0, none⟩ = some (.func (.func G1) #[] #[]) := t1.cellN (by simp [go_sem])
  have c1 : w1.cell? ⟨w.heap.size, 1, none⟩ = some (.func (.func G2) #[] #[]) := t1.cellN (by simp [go_sem])
  have T1 : Hid (Touch (fun _ => False) w w1) := (((Touch.refl _ w).alloc _).alloc _).trans t1
  have hbw : w.heap.size + 1 < b := by simp at hb; omega
  have hs1 : w.heap.size + 1 < w1.heap.size := by have := t1.size; simp at this; omega
  have hlt : w.heap.size < w1.heap.size := by omega
  have hbl : b < w1.heap.size := hr.low
  have hn1 : ¬ w.heap.size = w1.heap.size := by omega
  have HR : Hid (Rdr w1.heap.size w1 b rs (some 0)) := hr
  clear t1 hb hr
  go_wp2_with fail
  refine Calls.mono (HRs.out w1.heap.size b _ (HR.out.keep ((Touch.refl _ _).alloc _)) (by simp)) ?_
  rintro e w2 (⟨B, vl, vr, vd, q, rfl, h2, o2, t2, hd⟩ | ⟨rfl, t2, hd⟩)
  rotate_left
  · exact ⟨rfl, Or.inr ⟨rfl, hd, (T1.out.alloc _).trans' t2 (fun i hi e => by omega)⟩⟩
  have c2 : w2.cell? ⟨w1.heap.size, 0, none⟩ = some (.pointer (some ⟨b, 0, none⟩)) := (t2.cell (p := ⟨w1.heap.size, 0, none⟩) (by simp) (by show ¬ w1.heap.size = b; omega)).trans (by simp [go_sem])
  have R2 : Hid (Room w2 (w.heap.size + 1) 9) := (R1.out.keep ((Touch.refl _ _).alloc _)).touch t2 (by show ¬ w.heap.size + 1 = b; omega)
  have T2 : Hid (Touch (fun _ => False) w w2) := (T1.out.alloc _).trans' t2 (fun i hi e => by omega)
  have hs2 : w1.heap.size < w2.heap.size := by have := t2.size; simp at this; omega
  have H2 : Hid (Rdr w1.heap.size w2 b rs q) := h2
  have hn3 : ¬ w1.heap.size = w2.heap.size := by omega
  have O2 : Hid (BOwn (w1.heap.size + 1) w2 B vl vr vd) := by show BOwn _ _ _ _ _ _; simpa using o2
  have HD : Hid (decB t rs = (if q = some rs.length then some B else none)) := hd
  obtain ⟨a1, q1, a3, q3, a8, q8, rfl, rfl, rfl⟩ := o2.form
  clear t2 h2 HRs HR R1 T1 c0 c1 hsf o2 hd hG
  unfold BV.v
  have TB : Hid (Touch (fun _ => False) w (w2.alloc (.cells #[.int .u8 B.flags, .slice a1 B.links.length q1, .int .u32 B.mask, .slice a3 B.routers.length q3, .int .u32 B.metric, .bool B.type2, .int .u32 B.fwd, .int .u32 B.tag, .slice a8 B.data.length q8] 30))) := T2.out.alloc _
  cases q with
  | none =>
    go_wp2_with (first | (go_at_call 99; refine Calls.mono (err_none _ b rs _ (H2.out.keep ((Touch.refl _ _).alloc _))) ?_; rintro e wx ⟨rfl, rfl⟩) | (go_at_call 70; refine Calls.mono (need_f _ 28 _ rfl) ?_; rintro e wx ⟨rfl, rfl⟩))
    exact ⟨rfl, Or.inr ⟨rfl, by rw [HD.out, if_neg (by simp)], TB.out⟩⟩
  | some p =>
    have hpl : p ≤ rs.length := H2.out.ple
    by_cases hp : p = rs.length
    · subst hp
      have HDD : Hid (decB t rs = some B) := by show _ = _; rw [HD.out, if_pos rfl]
      have hzz : ((rs.length : Int) - (rs.length : Int)) = 0 := by omega
      have HLF : ∀ (N b : Nat) (w : World), Rdr N w b rs (some rs.length) → Calls Tryz.prog 100 #[.pointer (some ⟨b, 0, none⟩)] w fun e w' => e = .returned (.int .i64 0) ∧ ∃ n, w' = w.drewN n := fun N b w h => by
        have := left_some N b rs.length rs w h
        rwa [hzz] at this
      clear hzz hpl HD
      go_upto_region 4 with (first | (go_at_call 99; refine Calls.mono (err_some _ b rs rs.length _ (H2.out.keep ((Touch.refl _ _).alloc _))) ?_; rintro e wx ⟨rfl, rfl⟩) | (go_at_call 100; refine Calls.mono (HLF _ b _ (H2.out.keep ((Touch.refl _ _).alloc _))) ?_; rintro e wx ⟨rfl, nl, rfl⟩) | (go_at_call 70; refine Calls.mono (need_t _ 28 _ rfl) ?_; rintro e wx ⟨rfl, rfl⟩))
      have O3 : OutB ((w2.alloc (.cells #[.int .u8 B.flags, .slice a1 B.links.length q1, .int .u32 B.mask, .slice a3 B.routers.length q3, .int .u32 B.metric, .bool B.type2, .int .u32 B.fwd, .int .u32 B.tag, .slice a8 B.data.length q8] 30)).drewN nl) w2.heap.size B (.slice a1 B.links.length q1) (.slice a3 B.routers.length q3) (.slice a8 B.data.length q8) := (OutB.new w2 B (.slice a1 B.links.length q1) (.slice a3 B.routers.length q3) (.slice a8 B.data.length q8) 30).keep ((Touch.refl _ _).drewN nl)
      have R3 : Hid (Room ((w2.alloc (.cells #[.int .u8 B.flags, .slice a1 B.links.length q1, .int .u32 B.mask, .slice a3 B.routers.length q3, .int .u32 B.metric, .bool B.type2, .int .u32 B.fwd, .int .u32 B.tag, .slice a8 B.data.length q8] 30)).drewN nl) (w.heap.size + 1) 9) := R2.out.keep (((Touch.refl _ _).alloc _).drewN nl)
      have T3 : Hid (Touch (fun _ => False) w ((w2.alloc (.cells #[.int .u8 B.flags, .slice a1 B.links.length q1, .int .u32 B.mask, .slice a3 B.routers.length q3, .int .u32 B.metric, .bool B.type2, .int .u32 B.fwd, .int .u32 B.tag, .slice a8 B.data.length q8] 30)).drewN nl)) := (T2.out.alloc _).drewN nl
      have P3 : Hid (BOwn (w1.heap.size + 1) ((w2.alloc (.cells #[.int .u8 B.flags, .slice a1 B.links.length q1, .int .u32 B.mask, .slice a3 B.routers.length q3, .int .u32 B.metric, .bool B.type2, .int .u32 B.fwd, .int .u32 B.tag, .slice a8 B.data.length q8] 30)).drewN nl) B (.slice a1 B.links.length q1) (.slice a3 B.routers.length q3) (.slice a8 B.data.length q8)) := O2.out.keep (((Touch.refl _ _).alloc _).drewN nl)
      clear R2 T2 H2 HLF c2 TB O2
      generalize (w2.alloc (.cells #[.int .u8 B.flags, .slice a1 B.links.length q1, .int .u32 B.mask, .slice a3 B.routers.length q3, .int .u32 B.metric, .bool B.type2, .int .u32 B.fwd, .int .u32 B.tag, .slice a8 B.data.length q8] 30)).drewN nl = w3 at *
      obtain ⟨⟨d0, d1, d2, d3, d4, d5, d6, d7, d8⟩, -⟩ := O3
      have hm1 : ¬ w.heap.size + 1 = w2.heap.size := by omega
      have hm2 : ¬ w2.heap.size = w.heap.size + 1 := by omega
      generalize hg : w.heap.size + 1 = g at *
      have HG : Hid (w.heap.size + 1 = g) := hg
      have HS1 : Hid (g < w1.heap.size) := hs1
      clear hg
      obtain ⟨zz0, zc0, zf0⟩ := R3.out 0 (by omega)
      obtain ⟨zz1, zc1, zf1⟩ := R3.out 1 (by omega)
      obtain ⟨zz2, zc2, zf2⟩ := R3.out 2 (by omega)
      obtain ⟨zz3, zc3, zf3⟩ := R3.out 3 (by omega)
      obtain ⟨zz4, zc4, zf4⟩ := R3.out 4 (by omega)
      obtain ⟨zz5, zc5, zf5⟩ := R3.out 5 (by omega)
      obtain ⟨zz6, zc6, zf6⟩ := R3.out 6 (by omega)
      obtain ⟨zz7, zc7, zf7⟩ := R3.out 7 (by omega)
      obtain ⟨zz8, zc8, zf8⟩ := R3.out 8 (by omega)
      obtain ⟨wz, hwz⟩ : ∃ wz, wz = (((((((((w3.setCell ⟨g, 0, none⟩ (.int .u8 B.flags)).setCell ⟨g, 1, none⟩ (.slice a1 B.links.length q1)).setCell ⟨g, 2, none⟩ (.int .u32 B.mask)).setCell ⟨g, 3, none⟩ (.slice a3 B.routers.length q3)).setCell ⟨g, 4, none⟩ (.int .u32 B.metric)).setCell ⟨g, 5, none⟩ (.bool B.type2)).setCell ⟨g, 6, none⟩ (.int .u32 B.fwd)).setCell ⟨g, 7, none⟩ (.int .u32 B.tag)).setCell ⟨g, 8, none⟩ (.slice a8 B.data.length q8)) := ⟨_, rfl⟩
      have zd0 : wz.cell? ⟨g, 0, none⟩ = some (.int .u8 B.flags) := by rw [hwz]; simp [zc0, go_sem]
      have zd1 : wz.cell? ⟨g, 1, none⟩ = some (.slice a1 B.links.length q1) := by rw [hwz]; simp [zc1, go_sem]
      have zd2 : wz.cell? ⟨g, 2, none⟩ = some (.int .u32 B.mask) := by rw [hwz]; simp [zc2, go_sem]
      have zd3 : wz.cell? ⟨g, 3, none⟩ = some (.slice a3 B.routers.length q3) := by rw [hwz]; simp [zc3, go_sem]
      have zd4 : wz.cell? ⟨g, 4, none⟩ = some (.int .u32 B.metric) := by rw [hwz]; simp [zc4, go_sem]
      have zd5 : wz.cell? ⟨g, 5, none⟩ = some (.bool B.type2) := by rw [hwz]; simp [zc5, go_sem]
      have zd6 : wz.cell? ⟨g, 6, none⟩ = some (.int .u32 B.fwd) := by rw [hwz]; simp [zc6, go_sem]
      have zd7 : wz.cell? ⟨g, 7, none⟩ = some (.int .u32 B.tag) := by rw [hwz]; simp [zc7, go_sem]
      have zd8 : wz.cell? ⟨g, 8, none⟩ = some (.slice a8 B.data.length q8) := by rw [hwz]; simp [zc8, go_sem]
      have HUz : Hid (Touch (fun k => k = g) w3 wz) := by show Touch _ _ _; rw [hwz]; refine Touch.setCell (F := fun k => k = g) (p := ⟨g, 8, none⟩) ?_ (Or.inl rfl) _; refine Touch.setCell (F := fun k => k = g) (p := ⟨g, 7, none⟩) ?_ (Or.inl rfl) _; refine Touch.setCell (F := fun k => k = g) (p := ⟨g, 6, none⟩) ?_ (Or.inl rfl) _; refine Touch.setCell (F := fun k => k = g) (p := ⟨g, 5, none⟩) ?_ (Or.inl rfl) _; refine Touch.setCell (F := fun k => k = g) (p := ⟨g, 4, none⟩) ?_ (Or.inl rfl) _; refine Touch.setCell (F := fun k => k = g) (p := ⟨g, 3, none⟩) ?_ (Or.inl rfl) _; refine Touch.setCell (F := fun k => k = g) (p := ⟨g, 2, none⟩) ?_ (Or.inl rfl) _; refine Touch.setCell (F := fun k => k = g) (p := ⟨g, 1, none⟩) ?_ (Or.inl rfl) _; refine Touch.setCell (F := fun k => k = g) (p := ⟨g, 0, none⟩) ?_ (Or.inl rfl) _; exact Touch.refl _ _
      have HWz : Hid (wz = (((((((((w3.setCell ⟨g, 0, none⟩ (.int .u8 B.flags)).setCell ⟨g, 1, none⟩ (.slice a1 B.links.length q1)).setCell ⟨g, 2, none⟩ (.int .u32 B.mask)).setCell ⟨g, 3, none⟩ (.slice a3 B.routers.length q3)).setCell ⟨g, 4, none⟩ (.int .u32 B.metric)).setCell ⟨g, 5, none⟩ (.bool B.type2)).setCell ⟨g, 6, none⟩ (.int .u32 B.fwd)).setCell ⟨g, 7, none⟩ (.int .u32 B.tag)).setCell ⟨g, 8, none⟩ (.slice a8 B.data.length q8))) := hwz
      clear hwz
      go_wp2_with fail
      rw [← HWz.out]
      clear HWz zc0 zf0 zc1 zf1 zc2 zf2 zc3 zf3 zc4 zf4 zc5 zf5 zc6 zf6 zc7 zf7 zc8 zf8
      refine bodyPost_ret (v := .agg #[.int .u8 B.flags, .slice a1 B.links.length q1, .int .u32 B.mask, .slice a3 B.routers.length q3, .int .u32 B.metric, .bool B.type2, .int .u32 B.fwd, .int .u32 B.tag, .slice a8 B.data.length q8]) (by simp [results, Tryz.results72, go_sem, zd0, zd1, zd2, zd3, zd4, zd5, zd6, zd7, zd8]) rfl ?_
      refine Or.inl ⟨B, _, _, _, rfl, HDD.out, (P3.out.touch HUz.out (fun k hk e => by have := HS1.out; omega)).lower (by have := HS1.out; have := HG.out; omega), T3.out.trans' HUz.out (fun i hi e => by have := HG.out; omega)⟩
    · have hzz : (((rs.length : Int) - (p : Int)) == 0) = false := by simp; omega
      have HDD : Hid (decB t rs = none) := by show _ = _; rw [HD.out, if_neg (by simpa using hp)]
      have HLF := fun w h => left_some w1.heap.size b p rs w h
      generalize (rs.length : Int) - (p : Int) = lf at hzz HLF
      clear HD hp hpl
      go_wp2_with (first | (go_at_call 99; refine Calls.mono (err_some _ b rs p _ (H2.out.keep ((Touch.refl _ _).alloc _))) ?_; rintro e wx ⟨rfl, rfl⟩) | (go_at_call 100; refine Calls.mono (HLF _ (H2.out.keep ((Touch.refl _ _).alloc _))) ?_; rintro e wx ⟨rfl, nl, rfl⟩) | (go_at_call 70; refine Calls.mono (need_f _ 28 _ (by first | rfl | exact hzz)) ?_; rintro e wx ⟨rfl, rfl⟩))
      exact ⟨rfl, Or.inr ⟨rfl, HDD.out, TB.out.drewN nl⟩⟩
end Go.Proofs.YthdkihnmeoacaaaGreatDoor
