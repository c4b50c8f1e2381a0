/- Contract: readOpaque. -/
import Derived.Test.YtjffcflhbnmjmaaGreatStRd4
import Derived.Test.YtjffcflhbnmjmaaGreatStReadAny
import Derived.Deep.RegionHeld3
import Derived.Test.YtjffcflhbnmjmaaGreatStChkAny
import Derived.Test.YtjffcflhbnmjmaaGreatStPairs
import Derived.Test.YtjffcflhbnmjmaaGreatStRRtr
import Derived.Test.YtjffcflhbnmjmaaGreatStROut
import Derived.Test.YtjffcflhbnmjmaaGreatStRd2
import Derived.Test.YtjffcflhbnmjmaaGreatStFace
namespace Go.Proofs.YtjffcflhbnmjmaaGreat
open Go.RowKit
set_option linter.unusedVariables false
set_option maxRecDepth 100000

theorem left_0 (N b : Nat) (rs : List Int) (w : World) (h : Rdr N w b rs (some 0)) : Calls Tryz.prog 103 #[.pointer (some ⟨b, 0, none⟩)] w fun e w' => e = .returned (.int .i64 (rs.length : Int)) ∧ ∃ n, w' = w.drewN n := by
  have := left_some N b 0 rs w h
  rwa [show (rs.length : Int) - ((0 : Nat) : Int) = (rs.length : Int) by omega] at this
theorem rbytes_0 (N b : Nat) (rs : List Int) (w : World) (h : Rdr N w b rs (some 0)) (hc : rs.length ≤ 1099511627776) :
    Calls Tryz.prog 155 #[.pointer (some ⟨b, 0, none⟩), .int .i64 (rs.length : Int)] w fun e w' => ∃ v, e = .returned v ∧ w'.ownsRow w.heap.size 5 1 v rs.length (bytesOf rs) ∧ Rdr N w' b rs (some rs.length) ∧ Touch (fun k => k = b) w w' := by
  have := rbytes_r N b 0 rs w h hc
  rwa [show (rs.length : Int) - ((0 : Nat) : Int) = (rs.length : Int) by omega, Nat.sub_zero, List.drop_zero] at this
set_option maxHeartbeats 2000000 in
theorem ropaque_any (t : Int) (ht : 9 ≤ t) (N b : Nat) (rs : List Int) (w : World) (h : Rdr N w b rs (some 0)) (hN : N ≤ w.heap.size) (hc : rs.length ≤ 1000000) :
    Calls Tryz.prog 122 #[.agg #[.pointer (some ⟨b, 0, none⟩)]] w (RdPost t N b rs w) := by
  have hlow := h.low
  have DEC : Hid (decB t rs = _) := dec9_eq (t := t) (rs := rs) ht
  have HL := fun w h => left_0 N b rs w h
  have HB := fun w h => rbytes_0 N b rs w h (by omega)
  have hl0 : (0 : Int) ≤ (rs.length : Int) := by omega
  have hl1 : (rs.length : Int) ≤ 1000000 := by omega
  clear ht
  by_cases h4 : rs.length % 4 = 0
  · have h4' : (((rs.length : Int) % 4) == 0) = true := by simp; omega
    have HD : Hid (decB t rs = some ⟨0, [], 0, [], 0, false, 0, 0, rs⟩) := by show _ = _; rw [DEC.out, if_pos h4]
    clear h4 DEC hc
    go_enter Tryz.func122, Tryz.ntmps122
    go_wp2_with fail
    refine Calls.mono (HL _ (h.keep (((Touch.refl _ _).alloc _).alloc _))) ?_
    rintro e wl ⟨rfl, nl, rfl⟩
    go_upto_region 2 with (go_at_call 74; refine Calls.mono (need_t _ 28 _ (by first | rfl | exact h4')) ?_; rintro e wn ⟨rfl, rfl⟩)
    clear h4'
    have T1 : Hid (Touch (fun k => k = b) w ((((w.alloc (.cells #[.pointer (some ⟨b, 0, none⟩)] 178)).alloc (.cells #[.int .u8 0, .slice none 0 0, .int .u32 0, .slice none 0 0, .int .u32 0, .bool false, .int .u32 0, .int .u32 0, .slice none 0 0] 67))).drewN nl).drew) := ((((Touch.refl _ w).alloc _).alloc _).drewN nl).drew
    have h1 : Rdr N ((((w.alloc (.cells #[.pointer (some ⟨b, 0, none⟩)] 178)).alloc (.cells #[.int .u8 0, .slice none 0 0, .int .u32 0, .slice none 0 0, .int .u32 0, .bool false, .int .u32 0, .int .u32 0, .slice none 0 0] 67))).drewN nl).drew b rs (some 0) := h.keep (((((Touch.refl _ w).alloc _).alloc _).drewN nl).drew)
    have y0 : ((((w.alloc (.cells #[.pointer (some ⟨b, 0, none⟩)] 178)).alloc (.cells #[.int .u8 0, .slice none 0 0, .int .u32 0, .slice none 0 0, .int .u32 0, .bool false, .int .u32 0, .int .u32 0, .slice none 0 0] 67))).drewN nl).drew.cell? ⟨w.heap.size, 0, none⟩ = some (.pointer (some ⟨b, 0, none⟩)) := by simp [go_sem]
    have R1 : Hid (Room ((((w.alloc (.cells #[.pointer (some ⟨b, 0, none⟩)] 178)).alloc (.cells #[.int .u8 0, .slice none 0 0, .int .u32 0, .slice none 0 0, .int .u32 0, .bool false, .int .u32 0, .int .u32 0, .slice none 0 0] 67))).drewN nl).drew (w.heap.size + 1) 9) := by
      have := (Room.new (w.alloc (.cells #[.pointer (some ⟨b, 0, none⟩)] 178)) #[.int .u8 0, .slice none 0 0, .int .u32 0, .slice none 0 0, .int .u32 0, .bool false, .int .u32 0, .int .u32 0, .slice none 0 0] 67).keep (((Touch.refl _ _).drewN nl).drew)
      show Room _ _ _
      simpa using this
    have hn1 : Hid (¬ w.heap.size = b) := by show ¬ _; omega
    have hn2 : Hid (¬ w.heap.size + 1 = b) := by show ¬ _; omega
    have HN : Hid (N ≤ w.heap.size) := hN
    have HSZ : Hid (w.heap.size + 1 < ((((w.alloc (.cells #[.pointer (some ⟨b, 0, none⟩)] 178)).alloc (.cells #[.int .u8 0, .slice none 0 0, .int .u32 0, .slice none 0 0, .int .u32 0, .bool false, .int .u32 0, .int .u32 0, .slice none 0 0] 67))).drewN nl).heap.size) := by show _ < _; show _ < (((w.alloc (.cells #[.pointer (some ⟨b, 0, none⟩)] 178)).alloc (.cells #[.int .u8 0, .slice none 0 0, .int .u32 0, .slice none 0 0, .int .u32 0, .bool false, .int .u32 0, .int .u32 0, .slice none 0 0] 67))).heap.size; simp
    generalize hg2 : w.heap.size + 1 = g2 at *
    generalize (((w.alloc (.cells #[.pointer (some ⟨b, 0, none⟩)] 178)).alloc (.cells #[.int .u8 0, .slice none 0 0, .int .u32 0, .slice none 0 0, .int .u32 0, .bool false, .int .u32 0, .int .u32 0, .slice none 0 0] 67))).drewN nl = w1 at *
    clear h hN hlow
    generalize hg1 : w.heap.size = g1 at *
    have HG1 : Hid (w.heap.size = g1) := hg1
    have HG2 : Hid (g1 + 1 = g2) := hg2
    clear hg1 hg2
    have hr2 : g1 ≠ g2 := by have := HG2.out; omega
    go_region_held3 (fun w' => w'.cell? ⟨g1, 0, none⟩ = some (.pointer (some ⟨b, 0, none⟩))) (first | with_reducible exact y0 | with_reducible exact yx | with_reducible exact yz | with_reducible exact (cell_far9 hr2 0 _ _ _ _ _ _ _ _ _).trans yz) (first
      | (go_at_call 103; refine Calls.mono (HL _ h1) ?_; rintro e wx ⟨rfl, nx, hwx⟩; have tx : Touch (fun _ => False) w1.drew wx := hwx ▸ (Touch.refl _ _).drewN nx; clear hwx; have hx := h1.keep tx; have yx := tx.cellN y0; have Tx : Hid (Touch (fun k => k = b) w wx) := T1.out.trans (Touch.mono tx (fun _ _ h => h.elim)); have Rx : Hid (Room wx g2 9) := R1.out.keep tx; have HSx : Hid (w1.heap.size ≤ wx.heap.size) := tx.size; clear tx)
      | (go_at_call 155; refine Calls.mono (HB _ hx) ?_; rintro e w5 ⟨v5, rfl, o5, h5, t5⟩; obtain ⟨xa, xc, rfl⟩ := own_fm o5; have yz := (t5.cell (p := ⟨g1, 0, none⟩) (lt_of_cell yx) hn1.out).trans yx; have T5 : Hid (Touch (fun k => k = b) w w5) := Tx.out.trans t5; have R9 := Rx.out.touch t5 hn2.out; have HR5 : Hid (Rdr N w5 b rs (some rs.length)) := h5; have O5 : Hid (w5.ownsRow wx.heap.size 5 1 (.slice xa rs.length xc) rs.length (bytesOf rs)) := o5; clear t5 h5 o5; obtain ⟨zz0, zc0, zf0⟩ := R9 0 (by omega); obtain ⟨zz1, zc1, zf1⟩ := R9 1 (by omega); obtain ⟨zz2, zc2, zf2⟩ := R9 2 (by omega); obtain ⟨zz3, zc3, zf3⟩ := R9 3 (by omega); obtain ⟨zz4, zc4, zf4⟩ := R9 4 (by omega); obtain ⟨zz5, zc5, zf5⟩ := R9 5 (by omega); obtain ⟨zz6, zc6, zf6⟩ := R9 6 (by omega); obtain ⟨zz7, zc7, zf7⟩ := R9 7 (by omega); obtain ⟨zz8, zc8, zf8⟩ := R9 8 (by omega); clear R9))
    clear HL HB h1 hx y0 yx yz T1 Tx R1 Rx
    obtain ⟨wz, hwz⟩ : ∃ wz, wz = (((((((((w5.setCell ⟨g2, 0, none⟩ (.int .u8 0)).setCell ⟨g2, 1, none⟩ (.slice none 0 0)).setCell ⟨g2, 2, none⟩ (.int .u32 0)).setCell ⟨g2, 3, none⟩ (.slice none 0 0)).setCell ⟨g2, 4, none⟩ (.int .u32 0)).setCell ⟨g2, 5, none⟩ (.bool false)).setCell ⟨g2, 6, none⟩ (.int .u32 0)).setCell ⟨g2, 7, none⟩ (.int .u32 0)).setCell ⟨g2, 8, none⟩ (.slice xa rs.length xc)) := ⟨_, rfl⟩
    have zd0 : wz.cell? ⟨g2, 0, none⟩ = some (.int .u8 0) := by rw [hwz]; simp [zc0, go_sem]
    have zd1 : wz.cell? ⟨g2, 1, none⟩ = some (.slice none 0 0) := by rw [hwz]; simp [zc1, go_sem]
    have zd2 : wz.cell? ⟨g2, 2, none⟩ = some (.int .u32 0) := by rw [hwz]; simp [zc2, go_sem]
    have zd3 : wz.cell? ⟨g2, 3, none⟩ = some (.slice none 0 0) := by rw [hwz]; simp [zc3, go_sem]
    have zd4 : wz.cell? ⟨g2, 4, none⟩ = some (.int .u32 0) := by rw [hwz]; simp [zc4, go_sem]
    have zd5 : wz.cell? ⟨g2, 5, none⟩ = some (.bool false) := by rw [hwz]; simp [zc5, go_sem]
    have zd6 : wz.cell? ⟨g2, 6, none⟩ = some (.int .u32 0) := by rw [hwz]; simp [zc6, go_sem]
    have zd7 : wz.cell? ⟨g2, 7, none⟩ = some (.int .u32 0) := by rw [hwz]; simp [zc7, go_sem]
    have zd8 : wz.cell? ⟨g2, 8, none⟩ = some (.slice xa rs.length xc) := by rw [hwz]; simp [zc8, go_sem]
    have HUz : Hid (Touch (fun k => k = g2) w5 wz) := by show Touch _ _ _; rw [hwz]; refine Touch.setCell (F := fun k => k = g2) (p := ⟨g2, 8, none⟩) ?_ (Or.inl rfl) _; refine Touch.setCell (F := fun k => k = g2) (p := ⟨g2, 7, none⟩) ?_ (Or.inl rfl) _; refine Touch.setCell (F := fun k => k = g2) (p := ⟨g2, 6, none⟩) ?_ (Or.inl rfl) _; refine Touch.setCell (F := fun k => k = g2) (p := ⟨g2, 5, none⟩) ?_ (Or.inl rfl) _; refine Touch.setCell (F := fun k => k = g2) (p := ⟨g2, 4, none⟩) ?_ (Or.inl rfl) _; refine Touch.setCell (F := fun k => k = g2) (p := ⟨g2, 3, none⟩) ?_ (Or.inl rfl) _; refine Touch.setCell (F := fun k => k = g2) (p := ⟨g2, 2, none⟩) ?_ (Or.inl rfl) _; refine Touch.setCell (F := fun k => k = g2) (p := ⟨g2, 1, none⟩) ?_ (Or.inl rfl) _; refine Touch.setCell (F := fun k => k = g2) (p := ⟨g2, 0, none⟩) ?_ (Or.inl rfl) _; exact Touch.refl _ _
    rw [← hwz]
    clear hwz zc0 zf0 zc1 zf1 zc2 zf2 zc3 zf3 zc4 zf4 zc5 zf5 zc6 zf6 zc7 zf7 zc8 zf8
    go_wp2_with fail
    refine bodyPost_ret (v := .agg #[.int .u8 0, .slice none 0 0, .int .u32 0, .slice none 0 0, .int .u32 0, .bool false, .int .u32 0, .int .u32 0, .slice xa rs.length xc]) (by simp [results, Tryz.results122, go_sem, zd0, zd1, zd2, zd3, zd4, zd5, zd6, zd7, zd8]) rfl ?_
    exact Or.inl ⟨⟨0, [], 0, [], 0, false, 0, 0, rs⟩, _, _, _, some rs.length, rfl, HR5.out.touch HUz.out (fun k hk e => by have := HG2.out; have := HG1.out; have := HN.out; omega), ⟨World.ownsRow_nil _ _ _ _, World.ownsRow_nil _ _ _ _, own_lower (own_touch O5.out HUz.out (fun k hk e => by have := (O5.out.lt k hk).1; have := HSZ.out; have := HSx.out; omega)) (by have := HSZ.out; have := HSx.out; have := HG1.out; have := HG2.out; omega)⟩, T5.out.trans' HUz.out (fun i hi e => by have := HG1.out; have := HG2.out; omega), by rw [HD.out, if_pos rfl]⟩
  · have h4' : (((rs.length : Int) % 4) == 0) = false := by simp; omega
    have HD : Hid (decB t rs = none) := by show _ = _; rw [DEC.out, if_neg h4]
    clear h4 DEC hc
    go_enter Tryz.func122, Tryz.ntmps122
    go_wp2_with fail
    refine Calls.mono (HL _ (h.keep (((Touch.refl _ _).alloc _).alloc _))) ?_
    rintro e wl ⟨rfl, nl, rfl⟩
    go_wp2_with fail
    refine Calls.mono (need_f _ 28 _ (by first | rfl | exact h4')) ?_
    rintro e wn ⟨rfl, rfl⟩
    exact ⟨rfl, Or.inr ⟨rfl, (((Touch.refl _ w).alloc _).alloc _).drewN nl, HD.out⟩⟩
end Go.Proofs.YtjffcflhbnmjmaaGreat

namespace Go.Proofs.YtjffcflhbnmjmaaGreat
open Go.RowKit
set_option linter.unusedVariables false
set_option maxRecDepth 100000

/-- How a type's bodies are read. -/
structure TypeRd (t : Int) (G1 G2 : Nat) : Prop where
  p : ∀ w, Calls Tryz.prog 78 #[.int .u8 t] w fun e w' => e = .returned (.agg #[.func (.func G1) #[] #[], .func (.func G2) #[] #[]]) ∧ Touch (fun _ => False) w w'
  r : ∀ (v : Value) (rs : List Int) (w : World), ArgAt w v rs → (∀ z ∈ rs, 0 ≤ z ∧ z < 256) → rs.length < 65536 → Calls Tryz.prog 79 #[.agg #[.func (.func G1) #[] #[], .func (.func G2) #[] #[]], v] w (RdAns t rs w)
theorem known_cases {t : Int} (h : knownB t = true) : t = 1 ∨ t = 2 ∨ t = 3 ∨ t = 4 ∨ t = 5 ∨ t = 7 ∨ t = 9 ∨ t = 10 ∨ t = 11 := by
  simp [knownB] at h
  omega
theorem unknown_cases {t : Int} (h0 : 0 ≤ t) (h : knownB t = false) : t = 0 ∨ t = 6 ∨ t = 8 ∨ 12 ≤ t := by
  simp [knownB] at h
  omega
theorem typeRd_1 : TypeRd 1 123 124 :=
  ⟨pairOf_1, fun v rs w hv hby hl => read_any _ _ (fun _ _ => rfl) 1 v rs w hv hby (by omega) (fun N b w h hN => rrtr_any N b rs w h hN (by omega))⟩
theorem typeRd_2 : TypeRd 2 125 126 :=
  ⟨pairOf_2, fun v rs w hv hby hl => read_any _ _ (fun _ _ => rfl) 2 v rs w hv hby (by omega) (fun N b w h hN => rnet_any N b rs w h hN (by omega))⟩
theorem typeRd_3 : TypeRd 3 127 128 :=
  ⟨pairOf_3, fun v rs w hv hby hl => read_any _ _ (fun _ _ => rfl) 3 v rs w hv hby (by omega) (fun N b w h hN => rsum_any N b rs w h hN)⟩
theorem typeRd_4 : TypeRd 4 129 130 :=
  ⟨pairOf_4, fun v rs w hv hby hl => read_any _ _ (fun _ _ => rfl) 4 v rs w hv hby (by omega) (fun N b w h hN => rborder_any N b rs w h hN)⟩
theorem typeRd_5 : TypeRd 5 119 120 :=
  ⟨pairOf_5, fun v rs w hv hby hl => read_any _ _ (fun _ _ => rfl) 5 v rs w hv hby (by omega) (fun N b w h hN => router_any 5 (by omega) N b rs w h hN)⟩
theorem typeRd_7 : TypeRd 7 119 120 :=
  ⟨pairOf_7, fun v rs w hv hby hl => read_any _ _ (fun _ _ => rfl) 7 v rs w hv hby (by omega) (fun N b w h hN => router_any 7 (by omega) N b rs w h hN)⟩
theorem typeRd_9 : TypeRd 9 121 122 :=
  ⟨pairOf_9, fun v rs w hv hby hl => read_any _ _ (fun _ _ => rfl) 9 v rs w hv hby (by omega) (fun N b w h hN => ropaque_any 9 (by omega) N b rs w h hN (by omega))⟩
theorem typeRd_10 : TypeRd 10 121 122 :=
  ⟨pairOf_10, fun v rs w hv hby hl => read_any _ _ (fun _ _ => rfl) 10 v rs w hv hby (by omega) (fun N b w h hN => ropaque_any 10 (by omega) N b rs w h hN (by omega))⟩
theorem typeRd_11 : TypeRd 11 121 122 :=
  ⟨pairOf_11, fun v rs w hv hby hl => read_any _ _ (fun _ _ => rfl) 11 v rs w hv hby (by omega) (fun N b w h hN => ropaque_any 11 (by omega) N b rs w h hN (by omega))⟩
theorem typeRd {t : Int} (h : knownB t = true) : ∃ G1 G2, TypeRd t G1 G2 := by
  rcases known_cases h with rfl | rfl | rfl | rfl | rfl | rfl | rfl | rfl | rfl
  · exact ⟨_, _, typeRd_1⟩
  · exact ⟨_, _, typeRd_2⟩
  · exact ⟨_, _, typeRd_3⟩
  · exact ⟨_, _, typeRd_4⟩
  · exact ⟨_, _, typeRd_5⟩
  · exact ⟨_, _, typeRd_7⟩
  · exact ⟨_, _, typeRd_9⟩
  · exact ⟨_, _, typeRd_10⟩
  · exact ⟨_, _, typeRd_11⟩
theorem typeNone {t : Int} (h0 : 0 ≤ t) (h1 : t < 256) (h : knownB t = false) (w : World) : Calls Tryz.prog 78 #[.int .u8 t] w fun e w' => e = .panicked (flawC 21) ∧ Touch (fun _ => False) w w' := by
  rcases unknown_cases h0 h with rfl | rfl | rfl | h
  · exact pairOf_0 w
  · exact pairOf_6 w
  · exact pairOf_8 w
  · exact pairOf_over t h h1 w
theorem decode_good (h : HV) (ok : h.All) (v : Value) (rs : List Int) (w : World) (B : BV) (hv : ArgAt w v rs) (hby : ∀ z ∈ rs, 0 ≤ z ∧ z < 256) (hlen : h.len = 20 + (rs.length : Int)) (hk : knownB h.typ = true) (hB : decB h.typ rs = some B) :
    Calls Tryz.prog 81 #[h.sv v] w fun e w' => ∃ vl vr vd, e = .returned (.tuple #[B.v vl vr vd, .int .i64 0]) ∧ BOwn w.heap.size w' B vl vr vd ∧ Touch (fun _ => False) w w' := by
  obtain ⟨G1, G2, T⟩ := typeRd hk
  obtain ⟨a, c, rfl, hm⟩ := hv.form
  have hl := ok.l
  exact decode_yes h a rs.length c rs w B hB (fun w' t S => dec1_any w.heap.size h a rs.length c G1 G2 rs w' S ok.l (by omega) hlen T.p (fun w'' t' => T.r _ rs w'' ((hv.keepN t).keepN t') hby (by omega)))
/-- What Check answers. -/
def chkE (h : HV) (rs : List Int) : Int :=
  if h.len ≠ 20 + (rs.length : Int) then 22 else if h.sum = 0 ∨ whole ((headB h ++ rs).drop 2) = false then 23 else if knownB h.typ = false then 21
  else if h.seq = -2147483648 ∨ ¬ bits BinOp.andNot .u16 h.age 32768 ≤ 3600 then 24 else if decB h.typ rs = none then 28 else 0
theorem check_any (h : HV) (ok : h.All) (v : Value) (rs : List Int) (w : World) (hv : ArgAt w v rs) (hby : ∀ z ∈ rs, 0 ≤ z ∧ z < 256) (hn : rs.length ≤ 1000000) :
    Calls Tryz.prog 53 #[h.sv v] w fun e w' => e = .returned (.int .i64 (chkE h rs)) ∧ Touch (fun _ => False) w w' := by
  obtain ⟨a, c, rfl, hm⟩ := hv.form
  have hl := ok.l
  by_cases h1 : h.len = 20 + (rs.length : Int)
  · by_cases h2 : h.sum = 0
    · have e : chkE h rs = 23 := by simp [chkE, h1, h2]
      rw [e]
      exact check_no h a rs.length c 23 w (fun w' t S => chk1_sum0 w.heap.size h ok _ rs w' S (hv.keepN t) hby hn h1 h2)
    · cases h3 : whole ((headB h ++ rs).drop 2) with
      | false =>
        have e : chkE h rs = 23 := by simp [chkE, h1, h3]
        rw [e]
        exact check_no h a rs.length c 23 w (fun w' t S => chk1_whole w.heap.size h ok _ rs w' S (hv.keepN t) hby hn h1 h2 h3)
      | true =>
        cases hk : knownB h.typ with
        | false =>
          have e : chkE h rs = 21 := by simp [chkE, h1, h2, h3, hk]
          rw [e]
          exact check_no h a rs.length c 21 w (fun w' t S => chk1_typ w.heap.size h ok _ rs w' S (hv.keepN t) hby hn h1 h2 h3 (fun w => typeNone ok.t.1 ok.t.2 hk w))
        | true =>
          obtain ⟨G1, G2, T⟩ := typeRd hk
          by_cases h4 : h.seq = -2147483648
          · have e : chkE h rs = 24 := by simp [chkE, h1, h2, h3, hk, h4]
            rw [e]
            exact check_no h a rs.length c 24 w (fun w' t S => chk1_seq w.heap.size h ok _ rs G1 G2 w' S (hv.keepN t) hby hn h1 h2 h3 h4 T.p)
          · by_cases h5 : bits BinOp.andNot .u16 h.age 32768 ≤ 3600
            · have HA : ∀ w', Touch (fun _ => False) w w' → Sd w' w.heap.size h (.slice a rs.length c) → Calls Tryz.prog 73 #[.pointer (some ⟨w.heap.size, 0, none⟩)] w' (RdAns h.typ rs w') := fun w' t S => chk1_any w.heap.size h ok _ rs G1 G2 w' S (hv.keepN t) hby hn h1 h2 h3 h4 h5 T.p (fun w'' t' => T.r _ rs w'' ((hv.keepN t).keepN t') hby (by omega))
              cases hd : decB h.typ rs with
              | some B =>
                have e : chkE h rs = 0 := by simp [chkE, h1, h2, h3, hk, h4, h5, hd]
                rw [e]
                exact check_yes h a rs.length c rs w B hd HA
              | none =>
                have e : chkE h rs = 28 := by simp [chkE, h1, h2, h3, hk, h4, h5, hd]
                rw [e]
                refine check_no h a rs.length c 28 w (fun w' t S => (HA w' t S).mono ?_)
                rintro e w'' (⟨B, vl, vr, vd, rfl, hd', -⟩ | ⟨rfl, -, t'⟩)
                · rw [hd] at hd'
                  cases hd'
                · exact ⟨rfl, t'⟩
            · have e : chkE h rs = 24 := by simp [chkE, h1, h2, h3, hk, h4, h5]
              rw [e]
              exact check_no h a rs.length c 24 w (fun w' t S => chk1_age w.heap.size h ok _ rs G1 G2 w' S (hv.keepN t) hby hn h1 h2 h3 h4 h5 T.p)
  · have e : chkE h rs = 22 := by simp [chkE, h1]
    rw [e]
    exact check_no h a rs.length c 22 w (fun w' t S => chk1_len w.heap.size h ok _ rs w' S (hv.keepN t) hby hn h1)
end Go.Proofs.YtjffcflhbnmjmaaGreat

namespace Go.Proofs.YtjffcflhbnmjmaaGreat
open Go.RowKit
set_option linter.unusedVariables false
set_option maxRecDepth 100000

/-- A state: its head, its body's row and bytes. -/
structure SE where
  h : HV
  v : Value
  rs : List Int
def SE.cells (x : SE) : List Value := [.int .u16 x.h.age, .int .u8 x.h.opts, .int .u8 x.h.typ, .int .u32 x.h.id, .int .u32 x.h.adv, .int .i32 x.h.seq, .int .u16 x.h.sum, .int .u16 x.h.len, x.v]
def statesC (l : List SE) : List Value := l.flatMap SE.cells
theorem length_statesC (l : List SE) : (statesC l).length = l.length * 9 := by
  induction l with
  | nil => rfl
  | cons x r ih => unfold statesC at *; rw [List.flatMap_cons, List.length_append, ih, List.length_cons]; simp [SE.cells]; omega
theorem statesC_at (l : List SE) (j i : Nat) (x : SE) (hj : l[j]? = some x) (hi : i < 9) : (statesC l)[j * 9 + i]? = x.cells[i]? := by
  induction l generalizing j with
  | nil => simp at hj
  | cons y r ih =>
    have e : statesC (y :: r) = y.cells ++ statesC r := by simp [statesC]
    have hl : y.cells.length = 9 := rfl
    rw [e]
    cases j with
    | zero =>
      obtain rfl : y = x := by simpa using hj
      rw [List.getElem?_append_left (by omega), Nat.zero_mul, Nat.zero_add]
    | succ j =>
      rw [List.getElem?_append_right (by omega), hl, show (j + 1) * 9 + i - 9 = j * 9 + i by omega]
      exact ih j (by simpa using hj)
structure SE.Ok (w : World) (x : SE) : Prop where
  all : x.h.All
  arg : ArgAt w x.v x.rs
  byte : ∀ z ∈ x.rs, 0 ≤ z ∧ z < 256
/-- A row of states that came in. -/
structure StatesAt (w : World) (v : Value) (l : List SE) : Prop where
  vals : ValsAt w 9 v l.length (statesC l)
  ok : ∀ x ∈ l, x.Ok w
theorem SE.Ok.keep {w w' : World} {x : SE} (h : x.Ok w) (t : Touch (fun _ => False) w w') : x.Ok w' := ⟨h.all, h.arg.keepN t, h.byte⟩
theorem StatesAt.keep {w w' : World} {v : Value} {l : List SE} (h : StatesAt w v l) (t : Touch (fun _ => False) w w') : StatesAt w' v l := ⟨h.vals.keep t, fun x hx => (h.ok x hx).keep t⟩
/-- One of them. -/
theorem StatesAt.one {w : World} {v : Value} {l : List SE} (h : StatesAt w v l) {j : Nat} {x : SE} (hj : l[j]? = some x) : x.Ok w ∧ ∃ g off c, v = .slice (some ⟨g, off, none⟩) l.length c ∧ ∀ i u, x.cells[i]? = some u → w.cell? ⟨g, off + (j * 9 + i), none⟩ = some u := by
  have hlt := (List.getElem?_eq_some_iff.mp hj).1
  obtain ⟨g, off, c, e, _, _, hc⟩ := h.vals.cells (by omega) (by omega)
  refine ⟨h.ok x (List.mem_of_getElem? hj), g, off, c, e, fun i u hu => hc _ _ ?_⟩
  have hi : i < 9 := (List.getElem?_eq_some_iff.mp hu).1
  rw [statesC_at l j i x hj hi]
  exact hu
end Go.Proofs.YtjffcflhbnmjmaaGreat
