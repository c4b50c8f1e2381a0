/- Package packet's reader: stateHead, key. -/
import Derived.Test.YtbfplepmgbkajaaGreatDoorPkWr
import Derived.Test.YtbfplepmgbkajaaGreatDoorPkPure
import Derived.Test.YtbfplepmgbkajaaGreatDoorStReadH
import Derived.Test.YtbfplepmgbkajaaGreatDoorBagKm
import Derived.Deep.RegionHeld3
import Derived.Deep.DeepCutAuto
import Derived.Deep.LoopGhost
namespace Go.Proofs.YtbfplepmgbkajaaGreatDoor
open Go.RowKit
set_option linter.unusedVariables false
set_option maxRecDepth 100000

set_option maxHeartbeats 2000000 in
theorem prhead (N b p : Nat) (rs : List Int) (w : World) (h : Rdr N w b rs (some p)) (hN : N ≤ w.heap.size) (hp : p + 20 ≤ rs.length) (hc : rs.length ≤ 1000000) (H : HV) (hH : rdHead ((rs.drop p).take 20) = H) :
  Calls Tryz.prog 172 #[.agg #[.pointer (some ⟨b, 0, none⟩)]] w fun e w' => e = .returned (.agg #[.int .u16 H.age, .int .u8 H.opts, .int .u8 H.typ, .int .u32 H.id, .int .u32 H.adv, .int .i32 H.seq, .int .u16 H.sum, .int .u16 H.len]) ∧ Rdr N w' b rs (some (p + 20)) ∧ Touch (fun k => k = b) w w' := by
 have hb := h.lt
 have hby : ∀ z ∈ (rs.drop p).take 20, 0 ≤ z ∧ z < 256 := fun z hz => h.byte z (List.mem_of_mem_drop (List.mem_of_mem_take hz))
 have hl : ((rs.drop p).take 20).length = 20 := by rw [List.length_take, List.length_drop]; omega
 have HB := pbytes_n 20 N b p rs _ (h.keep (((Touch.refl _ _).alloc (.cells #[.pointer (some ⟨b, 0, none⟩)] 189)).alloc (.cells #[.int .u16 0, .int .u8 0, .int .u8 0, .int .u32 0, .int .u32 0, .int .i32 0, .int .u16 0, .int .u16 0] 93))) hp hc
 have HR : Hid (∀ v w', ArgAt w' v ((rs.drop p).take 20) → Calls Tryz.prog 185 #[v] w' fun e w'' => e = .returned (.tuple #[.agg #[.int .u16 H.age, .int .u8 H.opts, .int .u8 H.typ, .int .u32 H.id, .int .u32 H.adv, .int .i32 H.seq, .int .u16 H.sum, .int .u16 H.len], .int .i64 0]) ∧ Touch (fun _ => False) w' w'') := fun v w' ha => readH_good v _ w' ha hby (by omega) (by omega) H (by rw [← hH, List.take_of_length_le (by omega)])
 have R0 := Room.new (w.alloc (.cells #[.pointer (some ⟨b, 0, none⟩)] 189)) #[.int .u16 0, .int .u8 0, .int .u8 0, .int .u32 0, .int .u32 0, .int .i32 0, .int .u16 0, .int .u16 0] 93
 have s0 : ((w.alloc (.cells #[.pointer (some ⟨b, 0, none⟩)] 189)).alloc (.cells #[.int .u16 0, .int .u8 0, .int .u8 0, .int .u32 0, .int .u32 0, .int .i32 0, .int .u16 0, .int .u16 0] 93)).heap.size = w.heap.size + 2 := by simp
 have RR : Hid (Room ((w.alloc (.cells #[.pointer (some ⟨b, 0, none⟩)] 189)).alloc (.cells #[.int .u16 0, .int .u8 0, .int .u8 0, .int .u32 0, .int .u32 0, .int .i32 0, .int .u16 0, .int .u16 0] 93)) (w.heap.size + 1) 8) := by show Room _ _ _; simpa using R0
 clear hby hl hH h hp R0
 go_enter Tryz.func172, Tryz.ntmps172
 go_wp2_with fail
 refine Calls.mono HB ?_
 rintro e w1 ⟨v1, rfl, o1, r1, t1⟩
 have A1 : ArgAt w1 v1 ((rs.drop p).take 20) := (own_rowAt o1).arg
 have R1 : Hid (Room w1 (w.heap.size + 1) 8) := RR.out.touch t1 (by show ¬ (_ = _); omega)
 have T1 : Hid (Touch (fun k => k = b) w w1) := (((Touch.refl _ w).alloc _).alloc _).trans t1
 have H1 : Hid (Rdr N w1 b rs (some (p + 20))) := r1
 have z1 : w.heap.size + 1 < w1.heap.size := by have := t1.size; omega
 clear HB t1 r1 o1 RR s0
 go_wp2_with fail
 refine Calls.mono (HR.out v1 w1 A1) ?_
 rintro e w2 ⟨rfl, t2⟩
 obtain ⟨w3, hw3⟩ : ∃ w3, w3 = w2.alloc (.cells #[.int .u16 H.age, .int .u8 H.opts, .int .u8 H.typ, .int .u32 H.id, .int .u32 H.adv, .int .i32 H.seq, .int .u16 H.sum, .int .u16 H.len] 93) := ⟨_, rfl⟩
 have t3 : Touch (fun _ => False) w1 w3 := by rw [hw3]; exact t2.alloc _
 have D3 : Hd w3 w2.heap.size H := by rw [hw3]; exact Hd.new w2 H _
 obtain ⟨x0, x1, x2, x3, x4, x5, x6, x7⟩ := D3
 have R3 : Room w3 (w.heap.size + 1) 8 := R1.out.keep t3
 have T3 : Hid (Touch (fun k => k = b) w w3) := T1.out.trans' t3 (fun _ _ f => f.elim)
 have H3 : Hid (Rdr N w3 b rs (some (p + 20))) := H1.out.keep t3
 have z3 : Hid (w.heap.size + 1 < w3.heap.size) := by have := t3.size; show _ < _; omega
 clear A1 R1 T1 H1 z1 t2 t3 HR
 go_upto_region 2 with fail
 rw [← hw3]
 clear hw3
 generalize w2.heap.size = g3 at *
 go_wp2_with fail
 refine Calls.mono (pneed_ok 22 _) ?_
 rintro e w4 ⟨rfl, rfl⟩
 obtain ⟨zz0, zc0, zf0⟩ := R3 0 (by omega)
 obtain ⟨zz1, zc1, zf1⟩ := R3 1 (by omega)
 obtain ⟨zz2, zc2, zf2⟩ := R3 2 (by omega)
 obtain ⟨zz3, zc3, zf3⟩ := R3 3 (by omega)
 obtain ⟨zz4, zc4, zf4⟩ := R3 4 (by omega)
 obtain ⟨zz5, zc5, zf5⟩ := R3 5 (by omega)
 obtain ⟨zz6, zc6, zf6⟩ := R3 6 (by omega)
 obtain ⟨zz7, zc7, zf7⟩ := R3 7 (by omega)
 obtain ⟨wz, hwz⟩ : ∃ wz, wz = ((((((((w3.setCell ⟨(w.heap.size + 1), 0, none⟩ (.int .u16 H.age)).setCell ⟨(w.heap.size + 1), 1, none⟩ (.int .u8 H.opts)).setCell ⟨(w.heap.size + 1), 2, none⟩ (.int .u8 H.typ)).setCell ⟨(w.heap.size + 1), 3, none⟩ (.int .u32 H.id)).setCell ⟨(w.heap.size + 1), 4, none⟩ (.int .u32 H.adv)).setCell ⟨(w.heap.size + 1), 5, none⟩ (.int .i32 H.seq)).setCell ⟨(w.heap.size + 1), 6, none⟩ (.int .u16 H.sum)).setCell ⟨(w.heap.size + 1), 7, none⟩ (.int .u16 H.len)) := ⟨_, rfl⟩
 have zd0 : wz.cell? ⟨(w.heap.size + 1), 0, none⟩ = some (.int .u16 H.age) := by rw [hwz]; simp [zc0, go_sem]
 have zd1 : wz.cell? ⟨(w.heap.size + 1), 1, none⟩ = some (.int .u8 H.opts) := by rw [hwz]; simp [zc1, go_sem]
 have zd2 : wz.cell? ⟨(w.heap.size + 1), 2, none⟩ = some (.int .u8 H.typ) := by rw [hwz]; simp [zc2, go_sem]
 have zd3 : wz.cell? ⟨(w.heap.size + 1), 3, none⟩ = some (.int .u32 H.id) := by rw [hwz]; simp [zc3, go_sem]
 have zd4 : wz.cell? ⟨(w.heap.size + 1), 4, none⟩ = some (.int .u32 H.adv) := by rw [hwz]; simp [zc4, go_sem]
 have zd5 : wz.cell? ⟨(w.heap.size + 1), 5, none⟩ = some (.int .i32 H.seq) := by rw [hwz]; simp [zc5, go_sem]
 have zd6 : wz.cell? ⟨(w.heap.size + 1), 6, none⟩ = some (.int .u16 H.sum) := by rw [hwz]; simp [zc6, go_sem]
 have zd7 : wz.cell? ⟨(w.heap.size + 1), 7, none⟩ = some (.int .u16 H.len) := by rw [hwz]; simp [zc7, go_sem]
 have HUz : Hid (Touch (fun k => k = (w.heap.size + 1)) w3 wz) := by show Touch _ _ _; rw [hwz]; refine Touch.setCell (F := fun k => k = (w.heap.size + 1)) (p := ⟨(w.heap.size + 1), 7, none⟩) ?_ (Or.inl rfl) _; refine Touch.setCell (F := fun k => k = (w.heap.size + 1)) (p := ⟨(w.heap.size + 1), 6, none⟩) ?_ (Or.inl rfl) _; refine Touch.setCell (F := fun k => k = (w.heap.size + 1)) (p := ⟨(w.heap.size + 1), 5, none⟩) ?_ (Or.inl rfl) _; refine Touch.setCell (F := fun k => k = (w.heap.size + 1)) (p := ⟨(w.heap.size + 1), 4, none⟩) ?_ (Or.inl rfl) _; refine Touch.setCell (F := fun k => k = (w.heap.size + 1)) (p := ⟨(w.heap.size + 1), 3, none⟩) ?_ (Or.inl rfl) _; refine Touch.setCell (F := fun k => k = (w.heap.size + 1)) (p := ⟨(w.heap.size + 1), 2, none⟩) ?_ (Or.inl rfl) _; refine Touch.setCell (F := fun k => k = (w.heap.size + 1)) (p := ⟨(w.heap.size + 1), 1, none⟩) ?_ (Or.inl rfl) _; refine Touch.setCell (F := fun k => k = (w.heap.size + 1)) (p := ⟨(w.heap.size + 1), 0, none⟩) ?_ (Or.inl rfl) _; exact Touch.refl _ _
 have HWz : Hid (wz = ((((((((w3.setCell ⟨(w.heap.size + 1), 0, none⟩ (.int .u16 H.age)).setCell ⟨(w.heap.size + 1), 1, none⟩ (.int .u8 H.opts)).setCell ⟨(w.heap.size + 1), 2, none⟩ (.int .u8 H.typ)).setCell ⟨(w.heap.size + 1), 3, none⟩ (.int .u32 H.id)).setCell ⟨(w.heap.size + 1), 4, none⟩ (.int .u32 H.adv)).setCell ⟨(w.heap.size + 1), 5, none⟩ (.int .i32 H.seq)).setCell ⟨(w.heap.size + 1), 6, none⟩ (.int .u16 H.sum)).setCell ⟨(w.heap.size + 1), 7, none⟩ (.int .u16 H.len))) := hwz
 clear hwz
 go_wp2_with fail
 rw [← HWz.out]
 clear HWz zc0 zf0 zc1 zf1 zc2 zf2 zc3 zf3 zc4 zf4 zc5 zf5 zc6 zf6 zc7 zf7
 refine bodyPost_ret (v := .agg #[.int .u16 H.age, .int .u8 H.opts, .int .u8 H.typ, .int .u32 H.id, .int .u32 H.adv, .int .i32 H.seq, .int .u16 H.sum, .int .u16 H.len]) (by simp [results, Tryz.results172, go_sem, zd0, zd1, zd2, zd3, zd4, zd5, zd6, zd7]) rfl ?_
 exact ⟨rfl, H3.out.touch HUz.out (fun k hk e => by omega), T3.out.trans' HUz.out (fun i hi e => by omega)⟩

/-- Either a key, or given up with 24. -/
structure KP (N : Nat) (w : World) (b : Nat) (rs : List Int) (p : Nat) (e : Ending) (w' : World) : Prop where
 out : (e = .returned (.agg #[.int .u8 (nAt rs p 4), .int .u32 (nAt rs (p + 4) 4), .int .u32 (nAt rs (p + 8) 4)]) ∧ nAt rs p 4 ≤ 255 ∧ Rdr N w' b rs (some (p + 12)) ∧ Touch (fun k => k = b) w w') ∨ (e = .panicked (pflawC 24) ∧ 255 < nAt rs p 4 ∧ Touch (fun k => k = b) w w')
set_option maxHeartbeats 2000000 in
theorem prkey (N b p : Nat) (rs : List Int) (w : World) (h : Rdr N w b rs (some p)) (hN : N ≤ w.heap.size) (hp : p + 12 ≤ rs.length) :
  Calls Tryz.prog 174 #[.agg #[.pointer (some ⟨b, 0, none⟩)]] w (KP N w b rs p) := by
 have hb := h.lt
 have hb0 := h.low
 have HB := prnum 4 (by omega) N b p rs _ (h.keep (((Touch.refl _ _).alloc (.cells #[.pointer (some ⟨b, 0, none⟩)] 189)).alloc (.cells #[.int .u8 0, .int .u32 0, .int .u32 0] 125)))
 have R0 := Room.new (w.alloc (.cells #[.pointer (some ⟨b, 0, none⟩)] 189)) #[.int .u8 0, .int .u32 0, .int .u32 0] 125
 have s0 : ((w.alloc (.cells #[.pointer (some ⟨b, 0, none⟩)] 189)).alloc (.cells #[.int .u8 0, .int .u32 0, .int .u32 0] 125)).heap.size = w.heap.size + 2 := by simp
 have RR : Hid (Room ((w.alloc (.cells #[.pointer (some ⟨b, 0, none⟩)] 189)).alloc (.cells #[.int .u8 0, .int .u32 0, .int .u32 0] 125)) (w.heap.size + 1) 3) := by show Room _ _ _; simpa using R0
 have cc : ((w.alloc (.cells #[.pointer (some ⟨b, 0, none⟩)] 189)).alloc (.cells #[.int .u8 0, .int .u32 0, .int .u32 0] 125)).cell? ⟨w.heap.size, 0, none⟩ = some (.pointer (some ⟨b, 0, none⟩)) := by simp [go_sem]
 have HBy := h.byte
 clear h R0
 go_enter Tryz.func174, Tryz.ntmps174
 go_wp2_with fail
 refine Calls.mono HB ?_
 intro e w1 h1
 rcases h1.out with ⟨rfl, l1, r1, t1⟩ | ⟨rfl, l1, t1⟩
 rotate_left
 ·exact absurd l1 (by simp; omega)
 have hnb := nAt_bound HBy p 4 (by omega)
 have hnb2 := nAt_bound HBy (p + 4) 4 (by omega)
 have hnb3 := nAt_bound HBy (p + 8) 4 (by omega)
 have R1 : Hid (Room w1 (w.heap.size + 1) 3) := RR.out.touch t1 (by show ¬ (_ = _); omega)
 have T1 : Hid (Touch (fun k => k = b) w w1) := (((Touch.refl _ w).alloc _).alloc _).trans t1
 have r1' : Rdr N w1 b rs (some (p + 4)) := r1
 have z1 : w.heap.size + 1 < w1.heap.size := by have := t1.size; omega
 have c1 : w1.cell? ⟨w.heap.size, 0, none⟩ = some (.pointer (some ⟨b, 0, none⟩)) := (t1.cell (p := ⟨w.heap.size, 0, none⟩) (by show w.heap.size < _; rw [s0]; omega) (by show ¬ (w.heap.size = b); omega)).trans cc
 clear h1 l1 r1 t1 HB RR s0 cc HBy
 simp only [show (4 : Int).toNat = 4 from rfl]
 generalize hn0 : nAt rs p 4 = n0 at *
 generalize hn1 : nAt rs (p + 4) 4 = n1 at *
 generalize hn2 : nAt rs (p + 8) 4 = n2 at *
 have N0 : Hid (nAt rs p 4 = n0) := hn0
 have N1 : Hid (nAt rs (p + 4) 4 = n1) := hn1
 have N2 : Hid (nAt rs (p + 8) 4 = n2) := hn2
 clear hn0 hn1 hn2
 by_cases hk : n0 ≤ 255
 rotate_left
 ·have hkd : decide (n0 ≤ 255) = false := decide_eq_false hk
  go_wp2_with fail
  refine Calls.mono (pneed_no 24 _) ?_
  rintro e w2 ⟨rfl, rfl⟩
  exact ⟨rfl, ⟨Or.inr ⟨rfl, by rw [N0.out]; omega, T1.out⟩⟩⟩
 have hkd : decide (n0 ≤ 255) = true := decide_eq_true hk
 have hw : IntKind.u8.wrap n0 = n0 := by simp [IntKind.wrap, IntKind.bits, IntKind.signed]; omega
 go_wp2_with fail
 refine Calls.mono (pneed_ok 24 _) ?_
 rintro e w2 ⟨rfl, rfl⟩
 obtain ⟨Fb, hFb⟩ : ∃ Fb : Nat → Prop, Fb = fun k => k = b ∨ k = w.heap.size + 1 := ⟨_, rfl⟩
 have fb : ∀ k, k = b → Fb k := by subst hFb; exact fun k hk => Or.inl hk
 have fg : Fb (w.heap.size + 1) := by subst hFb; exact Or.inr rfl
 have fn : ¬ Fb w.heap.size := by subst hFb; show ¬ (_ ∨ _); omega
 have q0 := onl_cell c1 fn
 have HK0 : Hid (n0 ≤ 255) := hk
 have FI : Hid (∀ k, k < w.heap.size → Fb k → k = b) := by subst hFb; exact fun k h1 h2 => by rcases h2 with h2 | h2; exact h2; omega
 have st : Onl Fb w1 w1.drew := ⟨(Touch.refl _ _).drew⟩
 have rd : Rdr N w1.drew b rs (some (p + 4)) := r1'.keep ((Touch.refl _ _).drew)
 have rm : RoomL w1.drew (w.heap.size + 1) 3 := ⟨R1.out.keep ((Touch.refl _ _).drew)⟩
 have HL : Hid (p + 12 ≤ rs.length) := hp
 have ne : b ≠ w.heap.size + 1 := by omega
 have HNN : Hid (N ≤ w.heap.size) := hN
 clear r1' c1 R1 hkd hk hp hFb fn hb hb0 hN
 go_upto_region 3 with fail
 generalize hg1 : w.heap.size + 1 = g2 at *
 generalize hg0 : w.heap.size = g1 at *
 have G1 : Hid (w.heap.size = g1) := hg0
 have G2 : Hid (g1 + 1 = g2) := hg1
 clear hg0 hg1
 go_region_held3 (fun w' => Onl Fb w1 w') (first | with_reducible assumption | with_reducible exact Onl.set (Onl.set (Onl.set s3 fg _ _) fg _ _) fg _ _) (first
  | (go_at_call 140; refine Calls.mono (prnum 4 (by omega) N b _ rs _ (by with_reducible assumption)) ?_; intro e w3 h3; rcases h3.out with ⟨rfl, l3, r3, t3⟩ | ⟨rfl, l3, t3⟩; rotate_left; exact absurd l3 (by have := HL.out; simp; omega); have s3 : Onl Fb w1 w3 := Onl.step (by with_reducible assumption) t3 fb; have m3 : RoomL w3 g2 3 := RoomL.touch (by with_reducible assumption) t3 ne; obtain ⟨zz0, zc0, zf0⟩ := m3.out 0 (by omega); obtain ⟨zz1, zc1, zf1⟩ := m3.out 1 (by omega); obtain ⟨zz2, zc2, zf2⟩ := m3.out 2 (by omega); simp only [show (4 : Int).toNat = 4 from rfl, Nat.add_assoc, Nat.reduceAdd, N1.out, N2.out])
  )
 obtain ⟨wz, hwz⟩ : ∃ wz, wz = (((w3.setCell ⟨g2, 0, none⟩ (.int .u8 n0)).setCell ⟨g2, 1, none⟩ (.int .u32 n1)).setCell ⟨g2, 2, none⟩ (.int .u32 n2)) := ⟨_, rfl⟩
 have zd0 : wz.cell? ⟨g2, 0, none⟩ = some (.int .u8 n0) := by rw [hwz]; simp [zc0, go_sem]
 have zd1 : wz.cell? ⟨g2, 1, none⟩ = some (.int .u32 n1) := by rw [hwz]; simp [zc1, go_sem]
 have zd2 : wz.cell? ⟨g2, 2, none⟩ = some (.int .u32 n2) := by rw [hwz]; simp [zc2, go_sem]
 have HUz : Hid (Touch (fun k => k = g2) w3 wz) := by show Touch _ _ _; rw [hwz]; refine Touch.setCell (F := fun k => k = g2) (p := ⟨g2, 2, none⟩) ?_ (Or.inl rfl) _; refine Touch.setCell (F := fun k => k = g2) (p := ⟨g2, 1, none⟩) ?_ (Or.inl rfl) _; refine Touch.setCell (F := fun k => k = g2) (p := ⟨g2, 0, none⟩) ?_ (Or.inl rfl) _; exact Touch.refl _ _
 rw [← hwz]
 clear hwz zc0 zf0 zc1 zf1 zc2 zf2
 go_wp2_with fail
 refine bodyPost_ret (v := .agg #[.int .u8 n0, .int .u32 n1, .int .u32 n2]) (by simp [results, Tryz.results174, go_sem, zd0, zd1, zd2]) rfl ?_
 refine ⟨Or.inl ⟨by rw [N0.out, N1.out, N2.out], by rw [N0.out]; exact HK0.out, ?_, ?_⟩⟩
 ·have := r3.touch HUz.out (fun k hk e => by have := HNN.out; have := G1.out; have := G2.out; omega)
  simpa [Nat.add_assoc] using this
 ·refine (T1.out.trans' s3.t ?_).trans' HUz.out ?_
  ·intro i hi e
   exact FI.out i (by have := G1.out; omega) e
  ·intro i hi e
   have := G1.out; have := G2.out; omega
end Go.Proofs.YtbfplepmgbkajaaGreatDoor

namespace Go.Proofs.YtbfplepmgbkajaaGreatDoor
open Go.RowKit
set_option linter.unusedVariables false
set_option maxRecDepth 100000

section
variable {ops : Array Oper} {rest : List Oper} {o : Oper} {a : Act} {Q : Exit → Act → World → Prop} {w : World}
/-- append(p, x...), of any element type, to a row of one's own. -/
theorem vapp_own (hgd : o.guard = none) (s x : Operand) (t : TypeId) (ho : o.op = .call { callee := .builtin .append, args := #[s, x], argTypes := #[t, t] })
  (e k bytes : Nat) (z : Value) (ht : Tryz.prog.underlying t = some (.slice e)) (hi : (Tryz.prog.info? e).map (fun i => (i.zero, i.size, i.bytes)) = some (some z, k, bytes)) (hzs : z.cells.size = k) (hk : 0 < k) (hby : bytes ≤ 64)
  (base : Nat) (v : Value) (n : Nat) (xs : List Value) (hs : a.eval s = v) (hb : w.ownsRow base e k v n xs) (hbase : base ≤ w.heap.size) (ad : Addr) (m c : Nat) (news : List Value) (hx : a.eval x = .slice (some ad) m c) (hnl : news.length = m * k) (hr : ∀ j u, news[j]? = some u → w.cell? (ad.add j) = some u) (h1 : ∀ u ∈ news, u.oneCell' = true) (hl : n + m ≤ 1099511627776)
  (h : ∀ v' w', w'.ownsRow base e k v' (n + m) (xs ++ news) → Touch (fun j => base ≤ j) w w' → wpList Tryz.prog ops Q rest (a.put o.dst v') w') : wpList Tryz.prog ops Q (o :: rest) a w := by
 obtain ⟨i0, hi, hz0, hz1, hz2⟩ := info_parts hi
 have hmul : (n + m) * bytes ≤ 1099511627776 * 64 := Nat.mul_le_mul hl hby
 refine wpList_append_own_at w hgd s x t ho base e i0 z k bytes ht hi hz0 hz1 hz2 hzs hk v n xs hs hb ad m c news hx hnl hr h1 (by unfold maxLen; omega) (by omega) hbase ?_
 intro v' w' hown hg _ _
 exact h v' w' hown ((Touch.refl _ _).grown hg (fun k hk => Or.inl (hb.lt k hk).1))
end
theorem left_t (N b p : Nat) (rs : List Int) (w : World) (h : Rdr N w b rs (some p)) :
  Calls Tryz.prog 175 #[.pointer (some ⟨b, 0, none⟩)] w fun e w' => e = .returned (.int .i64 ((rs.length : Int) - p)) ∧ Touch (fun _ => False) w w' := by
 refine (left_r N b rs (some p) w h).mono ?_
 rintro e w' ⟨rfl, n, rfl⟩
 exact ⟨rfl, (Touch.refl _ _).drewN n⟩
theorem cutAt_drop (k : Nat) (rs : List Int) (p i : Nat) : cutAt k (rs.drop p) i = (rs.drop (p + k * i)).take k := by unfold cutAt; rw [List.drop_drop]
theorem Tryz.infoU4 : (Tryz.prog.info? 22).map (fun i => (i.zero, i.size, i.bytes)) = some (some (.int .u32 0), 1, 4) := by kernel_rfl
theorem Tryz.infoH8 : (Tryz.prog.info? 93).map (fun i => (i.zero, i.size, i.bytes)) = some (some (.agg #[.int .u16 0, .int .u8 0, .int .u8 0, .int .u32 0, .int .u32 0, .int .i32 0, .int .u16 0, .int .u16 0]), 8, 20) := by kernel_rfl
theorem Tryz.infoK3 : (Tryz.prog.info? 125).map (fun i => (i.zero, i.size, i.bytes)) = some (some (.agg #[.int .u8 0, .int .u32 0, .int .u32 0]), 3, 12) := by kernel_rfl
theorem headsC_snoc (l : List HV) (x : List HV) : headsC (l ++ x) = headsC l ++ headsC x := by simp [headsC]
theorem keysC_snoc (l : List KV) (x : List KV) : keysC (l ++ x) = keysC l ++ keysC x := by simp [keysC]
theorem mem_cuts_at {α : Type} {k : Nat} {f : List Int → α} {c : List Int} {i : Nat} (h : i < c.length / k) : f (cutAt k c i) ∈ cuts k f c := by
 unfold cuts
 exact List.mem_map.2 ⟨i, by simpa using h, rfl⟩
theorem rdKey_at (rs : List Int) (p j : Nat) : rdKey (cutAt 12 (rs.drop p) j) = ⟨nAt rs (p + 12 * j) 4, nAt rs (p + 12 * j + 4) 4, nAt rs (p + 12 * j + 8) 4⟩ := by
 rw [cutAt_drop]
 unfold rdKey nAt
 rw [List.take_take, List.drop_take, List.drop_take, List.take_take, List.take_take, List.drop_drop, List.drop_drop]
 rfl
end Go.Proofs.YtbfplepmgbkajaaGreatDoor

namespace Go.Proofs.YtbfplepmgbkajaaGreatDoor
open Go.RowKit
set_option linter.unusedVariables false
set_option maxRecDepth 100000

/-- Read, or given up. -/
structure ItP4 (N : Nat) (w : World) (b : Nat) (rs : List Int) (p : Nat) (e : Ending) (w' : World) : Prop where
 out : (∃ v, e = .returned v ∧ (rs.length - p) % 4 = 0 ∧ Rdr N w' b rs (some rs.length) ∧ w'.ownsRow w.heap.size 22 1 v (cuts 4 numOf (rs.drop p)).length (wordsC (cuts 4 numOf (rs.drop p))) ∧ Touch (fun k => k = b) w w') ∨ (e = .panicked (pflawC 22) ∧ (rs.length - p) % 4 ≠ 0 ∧ Touch (fun k => k = b) w w')
structure ItR4 (N b : Nat) (rs : List Int) (p : Nat) (w : World) (gg : Nat) (s7 : Value) (wx : World) : Prop where
 out : ∃ (j : Nat) (va : Option Addr) (vc : Nat), j ≤ (rs.length - p) / 4 ∧ gg = (rs.length - p) / 4 - j ∧ s7 = .slice va j vc ∧ Rdr N wx b rs (some (p + 4 * j)) ∧ wx.ownsRow (w.heap.size + 1) 22 1 (.slice va j vc) j (wordsC ((List.range j).map fun i => numOf (cutAt 4 (rs.drop p) i))) ∧ Touch (fun k => k = b) w wx ∧ wx.cell? ⟨w.heap.size, 0, none⟩ = some (.pointer (some ⟨b, 0, none⟩)) ∧ w.heap.size < wx.heap.size

set_option maxHeartbeats 2000000 in
theorem pritems4 (N b p : Nat) (rs : List Int) (w : World) (h : Rdr N w b rs (some p)) (hN : N ≤ w.heap.size) (hc : rs.length ≤ 1000000) :
  Calls Tryz.prog 169 #[.agg #[.pointer (some ⟨b, 0, none⟩)], .int .i64 4, .func (.func 170) #[.agg #[.pointer (some ⟨b, 0, none⟩)]] #[]] w (ItP4 N w b rs p) := by
 have hb := h.lt
 have hple := h.ple
 have hne : ¬ w.heap.size = b := by omega
 have h0 := h.keep ((Touch.refl _ _).alloc (.cells #[.pointer (some ⟨b, 0, none⟩)] 189))
 have HL := left_t N b p rs _ h0
 have HBy : Hid (∀ z ∈ rs, 0 ≤ z ∧ z < 256) := h.byte
 have HNN : Hid (N ≤ w.heap.size) := hN
 have REL : Hid (∀ w', Touch (fun _ => False) (w.alloc (.cells #[.pointer (some ⟨b, 0, none⟩)] 189)) w' → ItR4 N b rs p w ((rs.length - p) / 4) (.slice none 0 0) w') := fun w' t => ⟨0, none, 0, by omega, by omega, rfl, h0.keep t, by have := World.ownsRow_nil w' (w.heap.size + 1) 22 1; simpa [wordsC] using this, (((Touch.refl _ w).alloc _).trans' t (fun _ _ f => f.elim)), t.cellN (by simp [go_sem]), by have := t.size; simp at this; omega⟩
 have T0 : Hid (∀ w', Touch (fun _ => False) (w.alloc (.cells #[.pointer (some ⟨b, 0, none⟩)] 189)) w' → Touch (fun k => k = b) w w') := fun w' t => ((Touch.refl _ w).alloc _).trans' t (fun _ _ f => f.elim)
 obtain ⟨LV, hLV⟩ : ∃ LV : Nat, LV = rs.length - p := ⟨_, rfl⟩
 have hLV2 : (rs.length : Int) - p = (LV : Int) := by omega
 rw [hLV2] at HL
 have HLVe : Hid (LV = rs.length - p) := hLV
 have HPL : Hid (p ≤ rs.length) := hple
 clear h h0 hN hLV hLV2
 go_enter Tryz.func169, Tryz.ntmps169
 go_wp2_with fail
 refine Calls.mono HL ?_
 rintro e w1 ⟨rfl, t1⟩
 by_cases hm : LV % 4 = 0
 rotate_left
 ·have hmi : ¬ ((LV : Int) % 4 = 0) := by omega
  have hmb : (((LV : Int) % 4) == 0) = false := by simpa using hmi
  clear HL
  go_wp2_with fail
  refine Calls.mono (pneed_f _ 22 _ (by first | exact hmb | (simp; done) | simp [hmi])) ?_
  rintro e w2 ⟨rfl, rfl⟩
  exact ⟨rfl, ⟨Or.inr ⟨rfl, by rw [← HLVe.out]; exact hm, T0.out _ t1⟩⟩⟩
 have hmi : (LV : Int) % 4 = 0 := by omega
 have hmb : (((LV : Int) % 4) == 0) = true := by simpa using hmi
 have HM : Hid (LV % 4 = 0) := hm
 have RELw : Hid (ItR4 N b rs p w ((rs.length - p) / 4) (.slice none 0 0) w1) := REL.out _ t1
 clear HL REL T0 t1 hm hple
 go_wp2_with fail
 refine Calls.mono (pneed_t _ 22 _ (by first | exact hmb | (simp; done) | simp [hmi])) ?_
 rintro e w2 ⟨rfl, rfl⟩
 clear hmi hmb
 go_wp2_with fail
 go_loopg [7] ((rs.length - p) / 4) (fun gg s7 wx => ItR4 N b rs p w gg s7 wx)
 case atStart => exact RELw.out
 case round =>
  clear RELw
  obtain ⟨j, va, vc, hj, hgg, rfl, rr, ow, tw, cw, zw⟩ := hrel.out
  have HLj := left_t N b _ rs _ rr
  have hqq : (rs.length : Int) - ((p + 4 * j : Nat) : Int) = ((LV - 4 * j : Nat) : Int) := by have := HLVe.out; have := HPL.out; omega
  rw [hqq] at HLj
  have RR : Hid (Rdr N wr b rs (some (p + 4 * j))) := rr
  have OW : Hid (wr.ownsRow (w.heap.size + 1) 22 1 (.slice va j vc) j (wordsC ((List.range j).map fun i => numOf (cutAt 4 (rs.drop p) i)))) := ow
  have TW : Hid (Touch (fun k => k = b) w wr) := tw
  clear hrel rr ow tw hqq
  by_cases hlt : j < (rs.length - p) / 4
  ·have hfit : p + 4 * j + 4 ≤ rs.length := by have := HLVe.out; have := HPL.out; omega
   have hpos : (0 : Int) < ((LV - 4 * j : Nat) : Int) := by have := HLVe.out; omega
   generalize ((LV - 4 * j : Nat) : Int) = LJ at *
   go_wp2_with fail
   refine Calls.mono HLj ?_
   rintro e w2 ⟨rfl, t2⟩
   have R2 := RR.out.keep t2
   have O2 : Hid (w2.ownsRow (w.heap.size + 1) 22 1 (.slice va j vc) j (wordsC ((List.range j).map fun i => numOf (cutAt 4 (rs.drop p) i)))) := own_touch OW.out t2 (fun _ _ f => f)
   have T2 : Hid (Touch (fun k => k = b) w w2) := TW.out.trans' t2 (fun _ _ f => f.elim)
   have c2 := t2.cellN cw
   have z2 : w.heap.size < w2.heap.size := by have := t2.size; omega
   skip
   clear HLj RR OW TW cw zw t2
   go_wp2_with fail
   refine Calls.mono (prnb N b _ rs _ R2) ?_
   intro e w3 h3
   rcases h3.out with ⟨rfl, l3, r3, t3⟩ | ⟨rfl, l3, t3⟩
   rotate_left
   ·exact absurd l3 (by omega)
   have EX : Hid (wordsC [numOf (cutAt 4 (rs.drop p) j)] = [.int .u32 (nAt rs (p + 4 * j) 4)]) := by show _ = _; rw [cutAt_drop]; rfl
   generalize nAt rs (p + 4 * j) 4 = x at *
   clear h3 l3
   have O3 : Hid (w3.ownsRow (w.heap.size + 1) 22 1 (.slice va j vc) j (wordsC ((List.range j).map fun i => numOf (cutAt 4 (rs.drop p) i)))) := own_touch O2.out t3 (fun k hk e => by have := (O2.out.lt k hk).1; omega)
   have T3 : Hid (Touch (fun k => k = b) w w3) := T2.out.trans t3
   have c3 : w3.cell? ⟨w.heap.size, 0, none⟩ = some (.pointer (some ⟨b, 0, none⟩)) := (t3.cell (p := ⟨w.heap.size, 0, none⟩) z2 hne).trans c2
   have z3 : w.heap.size < w3.heap.size := by have := t3.size; omega
   have R3 : Hid (Rdr N w3 b rs (some (p + 4 * j + 4))) := r3
   clear t3 r3 O2 T2 c2 z2 R2
   go_wp2_with (at_builtin; refine vapp_own rfl (.tmp 19) (.tmp 22) 24 rfl 22 1 4 (.int .u32 0) Tryz.underlying24 Tryz.infoU4 rfl (by decide) (by decide) (w.heap.size + 1) (.slice va j vc) j _ rfl (O3.out.alloc _) (by simp; omega) ⟨w3.heap.size, 0, none⟩ 1 1 ([.int .u32 x]) rfl rfl ?c1 ?c2 ?c3 ?_)
   case c1 =>
    intro i u hi
    rw [add_plain]
    match i, hi with
    | 0, hi => cases hi; simp [go_sem]
    | i + 1, hi => simp at hi
   case c2 => intro u hu; simp at hu; rcases hu with rfl <;> rfl
   case c3 => omega
   intro v4 w4 o4 t4
   have T4 : Hid (Touch (fun k => k = b) w w4) := (T3.out.alloc _).trans' t4 (fun i hi e => by omega)
   have R4 : Hid (Rdr N w4 b rs (some (p + 4 * (j + 1)))) := by
    have := (R3.out.keep ((Touch.refl _ _).alloc _)).touch t4 (fun k hk e => by have := HNN.out; omega)
    rw [show p + 4 * (j + 1) = p + 4 * j + 4 by omega]
    exact this
   have c4 : w4.cell? ⟨w.heap.size, 0, none⟩ = some (.pointer (some ⟨b, 0, none⟩)) := (t4.cell (p := ⟨w.heap.size, 0, none⟩) (by show w.heap.size < _; simp; omega) (by show ¬ (w.heap.size + 1 ≤ w.heap.size); omega)).trans (((Touch.refl _ _).alloc _).cellN c3)
   have z4 : w.heap.size < w4.heap.size := by have := t4.size; simp at this; omega
   have O4 : Hid (w4.ownsRow (w.heap.size + 1) 22 1 v4 (j + 1) (wordsC ((List.range (j + 1)).map fun i => numOf (cutAt 4 (rs.drop p) i)))) := by
    show World.ownsRow _ _ _ _ _ _ _
    rw [range_snoc, wordsC_append, EX.out]
    exact o4
   obtain ⟨va4, vc4, ev⟩ : ∃ a c, v4 = .slice a (j + 1) c := by
    rcases o4.2 with ⟨rfl, e⟩ | ⟨g, cap, cur, rfl, _⟩
    ·omega
    ·exact ⟨_, cap, rfl⟩
   subst ev
   clear o4 t4 O3 T3 R3 c3 z3
   go_wp2_with fail
   go_roundg ((rs.length - p) / 4 - (j + 1))
   case measure => omega
   case rel => exact ⟨j + 1, va4, vc4, by omega, by omega, rfl, R4.out, O4.out, T4.out, c4, z4⟩
  ·obtain rfl : j = (rs.length - p) / 4 := by omega
   have hz : ((LV - 4 * ((rs.length - p) / 4) : Nat) : Int) = 0 := by have := HLVe.out; have := HM.out; omega
   rw [hz] at HLj
   have hpe : p + 4 * ((rs.length - p) / 4) = rs.length := by have := HLVe.out; have := HM.out; have := HPL.out; omega
   go_wp2_with fail
   refine Calls.mono HLj ?_
   rintro e w2 ⟨rfl, t2⟩
   have FIN : Hid (ItP4 N w b rs p (.returned (.slice va ((rs.length - p) / 4) vc)) w2) := by
    refine ⟨Or.inl ⟨_, rfl, by rw [← HLVe.out]; exact HM.out, by have := RR.out.keep t2; rwa [hpe] at this, ?_, TW.out.trans' t2 (fun _ _ f => f.elim)⟩⟩
    have := own_lower (own_touch OW.out t2 (fun _ _ f => f)) (show w.heap.size ≤ w.heap.size + 1 by omega)
    unfold cuts
    rw [List.length_map, List.length_range, List.length_drop]
    exact this
   clear HLj
   go_wp2_with fail
   go_ret
   exact FIN.out
end Go.Proofs.YtbfplepmgbkajaaGreatDoor
