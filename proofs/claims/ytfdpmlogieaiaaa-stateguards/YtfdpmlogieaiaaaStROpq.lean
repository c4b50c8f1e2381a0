/- Contract: readOpaque. -/
import Derived.Test.YtfdpmlogieaiaaaStRd4
import Derived.Test.YtfdpmlogieaiaaaStReadAny
import Derived.Deep.RegionHeld3
import Derived.Test.YtfdpmlogieaiaaaStRead1
namespace Go.Proofs.Ytfdpmlogieaiaaa
open Go.RowKit
set_option linter.unusedVariables false
set_option maxRecDepth 100000

theorem left_0 (N b : Nat) (rs : List Int) (w : World) (h : Rdr N w b rs (some 0)) : Calls Try.prog 50 #[.pointer (some ⟨b, 0, none⟩)] w fun e w' => e = .returned (.int .i64 (rs.length : Int)) ∧ ∃ n, w' = w.drewN n := by
  have := left_some N b 0 rs w h
  rwa [show (rs.length : Int) - ((0 : Nat) : Int) = (rs.length : Int) by omega] at this
theorem rbytes_0 (N b : Nat) (rs : List Int) (w : World) (h : Rdr N w b rs (some 0)) (hc : rs.length ≤ 1099511627776) :
    Calls Try.prog 83 #[.pointer (some ⟨b, 0, none⟩), .int .i64 (rs.length : Int)] w fun e w' => ∃ v, e = .returned v ∧ w'.ownsRow w.heap.size 5 1 v rs.length (bytesOf rs) ∧ Rdr N w' b rs (some rs.length) ∧ Touch (fun k => k = b) w w' := by
  have := rbytes_r N b 0 rs w h hc
  rwa [show (rs.length : Int) - ((0 : Nat) : Int) = (rs.length : Int) by omega, Nat.sub_zero, List.drop_zero] at this
set_option maxHeartbeats 2000000 in
theorem ropaque_any (t : Int) (ht : 9 ≤ t) (N b : Nat) (rs : List Int) (w : World) (h : Rdr N w b rs (some 0)) (hN : N ≤ w.heap.size) (hc : rs.length ≤ 1000000) :
    Calls Try.prog 63 #[.agg #[.pointer (some ⟨b, 0, none⟩)]] w (RdPost t N b rs w) := by
  have hlow := h.low
  have DEC : Hid (decB t rs = _) := dec9_eq (t := t) (rs := rs) ht
  have HL := fun w h => left_0 N b rs w h
  have HB := fun w h => rbytes_0 N b rs w h (by omega)
  have hl0 : (0 : Int) ≤ (rs.length : Int) := by omega
  have hl1 : (rs.length : Int) ≤ 1000000 := by omega
  clear ht
  by_cases h4 : rs.length % 4 = 0
  · have h4' : (((rs.length : Int) % 4) == 0) = true := by simp; omega
    have HD : Hid (decB t rs = some ⟨0, [], 0, [], 0, false, 0, 0, rs⟩) := by show _ = _; rw [DEC.out, if_pos h4]
    clear h4 DEC hc
    go_enter Try.func63, Try.ntmps63
    go_wp2_with fail
    refine Calls.mono (HL _ (h.keep (((Touch.refl _ _).alloc _).alloc _))) ?_
    rintro e wl ⟨rfl, nl, rfl⟩
    go_upto_region 2 with (go_at_call 26; refine Calls.mono (need_t _ 28 _ (by first | rfl | exact h4')) ?_; rintro e wn ⟨rfl, rfl⟩)
    clear h4'
    have T1 : Hid (Touch (fun k => k = b) w ((((w.alloc (.cells #[.pointer (some ⟨b, 0, none⟩)] 89)).alloc (.cells #[.int .u8 0, .slice none 0 0, .int .u32 0, .slice none 0 0, .int .u32 0, .bool false, .int .u32 0, .int .u32 0, .slice none 0 0] 30))).drewN nl).drew) := ((((Touch.refl _ w).alloc _).alloc _).drewN nl).drew
    have h1 : Rdr N ((((w.alloc (.cells #[.pointer (some ⟨b, 0, none⟩)] 89)).alloc (.cells #[.int .u8 0, .slice none 0 0, .int .u32 0, .slice none 0 0, .int .u32 0, .bool false, .int .u32 0, .int .u32 0, .slice none 0 0] 30))).drewN nl).drew b rs (some 0) := h.keep (((((Touch.refl _ w).alloc _).alloc _).drewN nl).drew)
    have y0 : ((((w.alloc (.cells #[.pointer (some ⟨b, 0, none⟩)] 89)).alloc (.cells #[.int .u8 0, .slice none 0 0, .int .u32 0, .slice none 0 0, .int .u32 0, .bool false, .int .u32 0, .int .u32 0, .slice none 0 0] 30))).drewN nl).drew.cell? ⟨w.heap.size, 0, none⟩ = some (.pointer (some ⟨b, 0, none⟩)) := by simp [go_sem]
    have R1 : Hid (Room ((((w.alloc (.cells #[.pointer (some ⟨b, 0, none⟩)] 89)).alloc (.cells #[.int .u8 0, .slice none 0 0, .int .u32 0, .slice none 0 0, .int .u32 0, .bool false, .int .u32 0, .int .u32 0, .slice none 0 0] 30))).drewN nl).drew (w.heap.size + 1) 9) := by
      have := (Room.new (w.alloc (.cells #[.pointer (some ⟨b, 0, none⟩)] 89)) #[.int .u8 0, .slice none 0 0, .int .u32 0, .slice none 0 0, .int .u32 0, .bool false, .int .u32 0, .int .u32 0, .slice none 0 0] 30).keep (((Touch.refl _ _).drewN nl).drew)
      show Room _ _ _
      simpa using this
    have hn1 : Hid (¬ w.heap.size = b) := by show ¬ _; omega
    have hn2 : Hid (¬ w.heap.size + 1 = b) := by show ¬ _; omega
    have HN : Hid (N ≤ w.heap.size) := hN
    have HSZ : Hid (w.heap.size + 1 < ((((w.alloc (.cells #[.pointer (some ⟨b, 0, none⟩)] 89)).alloc (.cells #[.int .u8 0, .slice none 0 0, .int .u32 0, .slice none 0 0, .int .u32 0, .bool false, .int .u32 0, .int .u32 0, .slice none 0 0] 30))).drewN nl).heap.size) := by show _ < _; show _ < (((w.alloc (.cells #[.pointer (some ⟨b, 0, none⟩)] 89)).alloc (.cells #[.int .u8 0, .slice none 0 0, .int .u32 0, .slice none 0 0, .int .u32 0, .bool false, .int .u32 0, .int .u32 0, .slice none 0 0] 30))).heap.size; simp
    generalize hg2 : w.heap.size + 1 = g2 at *
    generalize (((w.alloc (.cells #[.pointer (some ⟨b, 0, none⟩)] 89)).alloc (.cells #[.int .u8 0, .slice none 0 0, .int .u32 0, .slice none 0 0, .int .u32 0, .bool false, .int .u32 0, .int .u32 0, .slice none 0 0] 30))).drewN nl = w1 at *
    clear h hN hlow
    generalize hg1 : w.heap.size = g1 at *
    have HG1 : Hid (w.heap.size = g1) := hg1
    have HG2 : Hid (g1 + 1 = g2) := hg2
    clear hg1 hg2
    have hr2 : g1 ≠ g2 := by have := HG2.out; omega
    go_region_held3 (fun w' => w'.cell? ⟨g1, 0, none⟩ = some (.pointer (some ⟨b, 0, none⟩))) (first | with_reducible exact y0 | with_reducible exact yx | with_reducible exact yz | with_reducible exact (cell_far9 hr2 0 _ _ _ _ _ _ _ _ _).trans yz) (first
      | (go_at_call 50; refine Calls.mono (HL _ h1) ?_; rintro e wx ⟨rfl, nx, hwx⟩; have tx : Touch (fun _ => False) w1.drew wx := hwx ▸ (Touch.refl _ _).drewN nx; clear hwx; have hx := h1.keep tx; have yx := tx.cellN y0; have Tx : Hid (Touch (fun k => k = b) w wx) := T1.out.trans (Touch.mono tx (fun _ _ h => h.elim)); have Rx : Hid (Room wx g2 9) := R1.out.keep tx; have HSx : Hid (w1.heap.size ≤ wx.heap.size) := tx.size; clear tx)
      | (go_at_call 83; refine Calls.mono (HB _ hx) ?_; rintro e w5 ⟨v5, rfl, o5, h5, t5⟩; obtain ⟨xa, xc, rfl⟩ := own_fm o5; have yz := (t5.cell (p := ⟨g1, 0, none⟩) (lt_of_cell yx) hn1.out).trans yx; have T5 : Hid (Touch (fun k => k = b) w w5) := Tx.out.trans t5; have R9 := Rx.out.touch t5 hn2.out; have HR5 : Hid (Rdr N w5 b rs (some rs.length)) := h5; have O5 : Hid (w5.ownsRow wx.heap.size 5 1 (.slice xa rs.length xc) rs.length (bytesOf rs)) := o5; clear t5 h5 o5; obtain ⟨zz0, zc0, zf0⟩ := R9 0 (by omega); obtain ⟨zz1, zc1, zf1⟩ := R9 1 (by omega); obtain ⟨zz2, zc2, zf2⟩ := R9 2 (by omega); obtain ⟨zz3, zc3, zf3⟩ := R9 3 (by omega); obtain ⟨zz4, zc4, zf4⟩ := R9 4 (by omega); obtain ⟨zz5, zc5, zf5⟩ := R9 5 (by omega); obtain ⟨zz6, zc6, zf6⟩ := R9 6 (by omega); obtain ⟨zz7, zc7, zf7⟩ := R9 7 (by omega); obtain ⟨zz8, zc8, zf8⟩ := R9 8 (by omega); clear R9))
    clear HL HB h1 hx y0 yx yz T1 Tx R1 Rx
    obtain ⟨wz, hwz⟩ : ∃ wz, wz = (((((((((w5.setCell ⟨g2, 0, none⟩ (.int .u8 0)).setCell ⟨g2, 1, none⟩ (.slice none 0 0)).setCell ⟨g2, 2, none⟩ (.int .u32 0)).setCell ⟨g2, 3, none⟩ (.slice none 0 0)).setCell ⟨g2, 4, none⟩ (.int .u32 0)).setCell ⟨g2, 5, none⟩ (.bool false)).setCell ⟨g2, 6, none⟩ (.int .u32 0)).setCell ⟨g2, 7, none⟩ (.int .u32 0)).setCell ⟨g2, 8, none⟩ (.slice xa rs.length xc)) := ⟨_, rfl⟩
    have zd0 : wz.cell? ⟨g2, 0, none⟩ = some (.int .u8 0) := by rw [hwz]; simp [zc0, go_sem]
    have zd1 : wz.cell? ⟨g2, 1, none⟩ = some (.slice none 0 0) := by rw [hwz]; simp [zc1, go_sem]
    have zd2 : wz.cell? ⟨g2, 2, none⟩ = some (.int .u32 0) := by rw [hwz]; simp [zc2, go_sem]
    have zd3 : wz.cell? ⟨g2, 3, none⟩ = some (.slice none 0 0) := by rw [hwz]; simp [zc3, go_sem]
    have zd4 : wz.cell? ⟨g2, 4, none⟩ = some (.int .u32 0) := by rw [hwz]; simp [zc4, go_sem]
    have zd5 : wz.cell? ⟨g2, 5, none⟩ = some (.bool false) := by rw [hwz]; simp [zc5, go_sem]
    have zd6 : wz.cell? ⟨g2, 6, none⟩ = some (.int .u32 0) := by rw [hwz]; simp [zc6, go_sem]
    have zd7 : wz.cell? ⟨g2, 7, none⟩ = some (.int .u32 0) := by rw [hwz]; simp [zc7, go_sem]
    have zd8 : wz.cell? ⟨g2, 8, none⟩ = some (.slice xa rs.length xc) := by rw [hwz]; simp [zc8, go_sem]
    have HUz : Hid (Touch (fun k => k = g2) w5 wz) := by show Touch _ _ _; rw [hwz]; refine Touch.setCell (F := fun k => k = g2) (p := ⟨g2, 8, none⟩) ?_ (Or.inl rfl) _; refine Touch.setCell (F := fun k => k = g2) (p := ⟨g2, 7, none⟩) ?_ (Or.inl rfl) _; refine Touch.setCell (F := fun k => k = g2) (p := ⟨g2, 6, none⟩) ?_ (Or.inl rfl) _; refine Touch.setCell (F := fun k => k = g2) (p := ⟨g2, 5, none⟩) ?_ (Or.inl rfl) _; refine Touch.setCell (F := fun k => k = g2) (p := ⟨g2, 4, none⟩) ?_ (Or.inl rfl) _; refine Touch.setCell (F := fun k => k = g2) (p := ⟨g2, 3, none⟩) ?_ (Or.inl rfl) _; refine Touch.setCell (F := fun k => k = g2) (p := ⟨g2, 2, none⟩) ?_ (Or.inl rfl) _; refine Touch.setCell (F := fun k => k = g2) (p := ⟨g2, 1, none⟩) ?_ (Or.inl rfl) _; refine Touch.setCell (F := fun k => k = g2) (p := ⟨g2, 0, none⟩) ?_ (Or.inl rfl) _; exact Touch.refl _ _
    rw [← hwz]
    clear hwz zc0 zf0 zc1 zf1 zc2 zf2 zc3 zf3 zc4 zf4 zc5 zf5 zc6 zf6 zc7 zf7 zc8 zf8
    go_wp2_with fail
    refine bodyPost_ret (v := .agg #[.int .u8 0, .slice none 0 0, .int .u32 0, .slice none 0 0, .int .u32 0, .bool false, .int .u32 0, .int .u32 0, .slice xa rs.length xc]) (by simp [results, Try.results63, go_sem, zd0, zd1, zd2, zd3, zd4, zd5, zd6, zd7, zd8]) rfl ?_
    exact Or.inl ⟨⟨0, [], 0, [], 0, false, 0, 0, rs⟩, _, _, _, some rs.length, rfl, HR5.out.touch HUz.out (fun k hk e => by have := HG2.out; have := HG1.out; have := HN.out; omega), ⟨World.ownsRow_nil _ _ _ _, World.ownsRow_nil _ _ _ _, own_lower (own_touch O5.out HUz.out (fun k hk e => by have := (O5.out.lt k hk).1; have := HSZ.out; have := HSx.out; omega)) (by have := HSZ.out; have := HSx.out; have := HG1.out; have := HG2.out; omega)⟩, T5.out.trans' HUz.out (fun i hi e => by have := HG1.out; have := HG2.out; omega), by rw [HD.out, if_pos rfl]⟩
  · have h4' : (((rs.length : Int) % 4) == 0) = false := by simp; omega
    have HD : Hid (decB t rs = none) := by show _ = _; rw [DEC.out, if_neg h4]
    clear h4 DEC hc
    go_enter Try.func63, Try.ntmps63
    go_wp2_with fail
    refine Calls.mono (HL _ (h.keep (((Touch.refl _ _).alloc _).alloc _))) ?_
    rintro e wl ⟨rfl, nl, rfl⟩
    go_wp2_with fail
    refine Calls.mono (need_f _ 28 _ (by first | rfl | exact h4')) ?_
    rintro e wn ⟨rfl, rfl⟩
    exact ⟨rfl, Or.inr ⟨rfl, (((Touch.refl _ w).alloc _).alloc _).drewN nl, HD.out⟩⟩
end Go.Proofs.Ytfdpmlogieaiaaa
