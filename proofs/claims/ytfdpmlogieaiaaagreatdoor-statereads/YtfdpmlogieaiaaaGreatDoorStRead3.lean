/- Contract: Read. -/
import Derived.Test.YtfdpmlogieaiaaaGreatDoorStRead1
namespace Go.Proofs.YtfdpmlogieaiaaaGreatDoor
open Go.RowKit
set_option linter.unusedVariables false
set_option maxRecDepth 100000

theorem Room.set {w : World} {g n : Nat} (h : Room w g n) (j : Nat) (u : Value) : Room (w.setCell ⟨g, j, none⟩ u) g n := fun i hi => by
  obtain ⟨v, hc, hf⟩ := h i hi
  by_cases e : i = j
  · subst e; exact ⟨u, by simp [hc, go_sem], by simp [hf, go_sem]⟩
  · exact ⟨v, by simp [hc, go_sem], by simp [hf, go_sem]⟩
theorem own_keep2 {w w1 w2 : World} {base g : Nat} {v : Value} {l : List Int} (h : w1.ownsRow base 5 1 v l.length (bytesOf l)) (t : Touch (fun k => k = g ∨ k = g + 1) w1 w2) (hg : g + 1 < base) : w2.ownsRow base 5 1 v l.length (bytesOf l) :=
  own_touch h t (fun k hk e => by have := (h.lt k hk).1; omega)

set_option maxHeartbeats 1000000 in
theorem read_good (v : Value) (rs : List Int) (w : World) (hv : ArgAt w v rs) (hby : ∀ z ∈ rs, 0 ≤ z ∧ z < 256) (hl : 20 ≤ rs.length) (hl2 : rs.length ≤ 1099511627776) (H : HV) (hH : rdHead (rs.take 20) = H) (hlo : 20 ≤ H.len) (hhi : H.len ≤ (rs.length : Int)) :
    Calls Tryz.prog 37 #[v] w fun e w' => ∃ u, e = .returned (.tuple #[H.sv u, .int .i64 H.len, .int .i64 0]) ∧ Buf w w' u ((rs.drop 20).take (H.len.toNat - 20)) := by
  obtain ⟨va, vc, rfl, hm⟩ := hv.form
  have hmf : ∀ (fn : Fn) (first cap : Array Value) (w : World), (Instr.makeFunc fn first cap).run Tryz.prog w = .ok (.func fn first cap) w := fun _ _ _ _ => rfl
  have hln := rdHead_len (rs := rs.take 20) (fun z hz => hby z (List.mem_of_mem_take hz))
  rw [hH] at hln
  obtain ⟨hln0, hln1⟩ := hln
  have hw64 : IntKind.i64.wrap H.len = H.len := by simp [IntKind.wrap, IntKind.bits, IntKind.signed]; omega
  have HC := read1_ok w.heap.size (.slice va rs.length vc) rs ((((w.alloc (.cells #[.slice va rs.length vc] 28)).alloc (.cells #[.int .u16 0, .int .u8 0, .int .u8 0, .int .u32 0, .int .u32 0, .int .i32 0, .int .u16 0, .int .u16 0, .slice none 0 0] 35)).alloc (.cells #[.int .u16 0, .int .u8 0, .int .u8 0, .int .u32 0, .int .u32 0, .int .i32 0, .int .u16 0, .int .u16 0, .slice none 0 0] 35)).alloc (.cells #[.int .i64 0] 36)) (by simp [go_sem]) (hv.keepN (((((Touch.refl _ w).alloc _).alloc _).alloc _).alloc _)) hby hl hl2 H hH hlo hhi
  generalize (rs.drop 20).take (H.len.toNat - 20) = bd at HC ⊢
  clear hH hlo hhi hl hby hv
  have HF := faceS_ok 98 #[.pointer (some ⟨w.heap.size, 0, none⟩)] (fun _ => rfl) ((w.alloc (.cells #[.slice va rs.length vc] 28)).alloc (.cells #[.int .u16 0, .int .u8 0, .int .u8 0, .int .u32 0, .int .u32 0, .int .i32 0, .int .u16 0, .int .u16 0, .slice none 0 0] 35)) H.age H.opts H.typ H.id H.adv H.seq H.sum H.len (fun u w' => w'.ownsRow (w.heap.size + 4) 5 1 u bd.length (bytesOf bd)) (HC.mono (by
    rintro e w' ⟨u, rfl, b⟩
    obtain ⟨xa, xc, rfl⟩ := b.form
    exact ⟨xa, bd.length, xc, rfl, b.t, by have := b.own; simpa using this⟩)) (by
    intro a n c w1 w2 hk _ t
    simp only [World.size_alloc] at t
    exact own_touch hk t (fun k hkk e => by have := (hk.lt k hkk).1; omega))
  clear HC
  go_enter Tryz.func37, Tryz.ntmps37
  go_wp2_with fail
  refine Calls.mono HF ?_
  rintro e w1 ⟨a, n, c, rfl, t1, hk⟩
  have HKK : Hid (w1.ownsRow (w.heap.size + 4) 5 1 (.slice a n c) bd.length (bytesOf bd)) := hk
  clear HF hk hmf
  have R1 : Room w1 (w.heap.size + 1) 9 := by
    have := (Room.new (w.alloc (.cells #[.slice va rs.length vc] 28)) #[.int .u16 0, .int .u8 0, .int .u8 0, .int .u32 0, .int .u32 0, .int .i32 0, .int .u16 0, .int .u16 0, .slice none 0 0] 35).keep t1
    simpa using this
  obtain ⟨zz0, zc0, zf0⟩ := R1 0 (by omega)
  obtain ⟨zz1, zc1, zf1⟩ := R1 1 (by omega)
  obtain ⟨zz2, zc2, zf2⟩ := R1 2 (by omega)
  obtain ⟨zz3, zc3, zf3⟩ := R1 3 (by omega)
  obtain ⟨zz4, zc4, zf4⟩ := R1 4 (by omega)
  obtain ⟨zz5, zc5, zf5⟩ := R1 5 (by omega)
  obtain ⟨zz6, zc6, zf6⟩ := R1 6 (by omega)
  obtain ⟨zz7, zc7, zf7⟩ := R1 7 (by omega)
  obtain ⟨zz8, zc8, zf8⟩ := R1 8 (by omega)
  obtain ⟨w3, hw3⟩ : ∃ w3, w3 = (((((((((w1.setCell ⟨(w.heap.size + 1), 0, none⟩ (.int .u16 H.age)).setCell ⟨(w.heap.size + 1), 1, none⟩ (.int .u8 H.opts)).setCell ⟨(w.heap.size + 1), 2, none⟩ (.int .u8 H.typ)).setCell ⟨(w.heap.size + 1), 3, none⟩ (.int .u32 H.id)).setCell ⟨(w.heap.size + 1), 4, none⟩ (.int .u32 H.adv)).setCell ⟨(w.heap.size + 1), 5, none⟩ (.int .i32 H.seq)).setCell ⟨(w.heap.size + 1), 6, none⟩ (.int .u16 H.sum)).setCell ⟨(w.heap.size + 1), 7, none⟩ (.int .u16 H.len)).setCell ⟨(w.heap.size + 1), 8, none⟩ (.slice a n c)) := ⟨_, rfl⟩
  have xd0 : w3.cell? ⟨w.heap.size + 1, 0, none⟩ = some (.int .u16 H.age) := by rw [hw3]; simp [zc0, go_sem]
  have xd1 : w3.cell? ⟨w.heap.size + 1, 1, none⟩ = some (.int .u8 H.opts) := by rw [hw3]; simp [zc1, go_sem]
  have xd2 : w3.cell? ⟨w.heap.size + 1, 2, none⟩ = some (.int .u8 H.typ) := by rw [hw3]; simp [zc2, go_sem]
  have xd3 : w3.cell? ⟨w.heap.size + 1, 3, none⟩ = some (.int .u32 H.id) := by rw [hw3]; simp [zc3, go_sem]
  have xd4 : w3.cell? ⟨w.heap.size + 1, 4, none⟩ = some (.int .u32 H.adv) := by rw [hw3]; simp [zc4, go_sem]
  have xd5 : w3.cell? ⟨w.heap.size + 1, 5, none⟩ = some (.int .i32 H.seq) := by rw [hw3]; simp [zc5, go_sem]
  have xd6 : w3.cell? ⟨w.heap.size + 1, 6, none⟩ = some (.int .u16 H.sum) := by rw [hw3]; simp [zc6, go_sem]
  have xd7 : w3.cell? ⟨w.heap.size + 1, 7, none⟩ = some (.int .u16 H.len) := by rw [hw3]; simp [zc7, go_sem]
  have xd8 : w3.cell? ⟨w.heap.size + 1, 8, none⟩ = some (.slice a n c) := by rw [hw3]; simp [zc8, go_sem]
  have R3 : Hid (Room w3 (w.heap.size + 1) 9) := by show Room _ _ _; rw [hw3]; exact (((((((((R1.set 0 _).set 1 _).set 2 _).set 3 _).set 4 _).set 5 _).set 6 _).set 7 _).set 8 _)
  have U3 : Hid (Touch (fun k => k = w.heap.size + 1) w1 w3) := by show Touch _ _ _; rw [hw3]; refine Touch.setCell (F := fun k => k = w.heap.size + 1) (p := ⟨w.heap.size + 1, 8, none⟩) ?_ (Or.inl rfl) _; refine Touch.setCell (F := fun k => k = w.heap.size + 1) (p := ⟨w.heap.size + 1, 7, none⟩) ?_ (Or.inl rfl) _; refine Touch.setCell (F := fun k => k = w.heap.size + 1) (p := ⟨w.heap.size + 1, 6, none⟩) ?_ (Or.inl rfl) _; refine Touch.setCell (F := fun k => k = w.heap.size + 1) (p := ⟨w.heap.size + 1, 5, none⟩) ?_ (Or.inl rfl) _; refine Touch.setCell (F := fun k => k = w.heap.size + 1) (p := ⟨w.heap.size + 1, 4, none⟩) ?_ (Or.inl rfl) _; refine Touch.setCell (F := fun k => k = w.heap.size + 1) (p := ⟨w.heap.size + 1, 3, none⟩) ?_ (Or.inl rfl) _; refine Touch.setCell (F := fun k => k = w.heap.size + 1) (p := ⟨w.heap.size + 1, 2, none⟩) ?_ (Or.inl rfl) _; refine Touch.setCell (F := fun k => k = w.heap.size + 1) (p := ⟨w.heap.size + 1, 1, none⟩) ?_ (Or.inl rfl) _; refine Touch.setCell (F := fun k => k = w.heap.size + 1) (p := ⟨w.heap.size + 1, 0, none⟩) ?_ (Or.inl rfl) _; exact Touch.refl _ _
  have HT1 : Hid (Touch (fun _ => False) ((w.alloc (.cells #[.slice va rs.length vc] 28)).alloc (.cells #[.int .u16 0, .int .u8 0, .int .u8 0, .int .u32 0, .int .u32 0, .int .i32 0, .int .u16 0, .int .u16 0, .slice none 0 0] 35)) w1) := t1
  have HW3 : Hid (w3 = (((((((((w1.setCell ⟨(w.heap.size + 1), 0, none⟩ (.int .u16 H.age)).setCell ⟨(w.heap.size + 1), 1, none⟩ (.int .u8 H.opts)).setCell ⟨(w.heap.size + 1), 2, none⟩ (.int .u8 H.typ)).setCell ⟨(w.heap.size + 1), 3, none⟩ (.int .u32 H.id)).setCell ⟨(w.heap.size + 1), 4, none⟩ (.int .u32 H.adv)).setCell ⟨(w.heap.size + 1), 5, none⟩ (.int .i32 H.seq)).setCell ⟨(w.heap.size + 1), 6, none⟩ (.int .u16 H.sum)).setCell ⟨(w.heap.size + 1), 7, none⟩ (.int .u16 H.len)).setCell ⟨(w.heap.size + 1), 8, none⟩ (.slice a n c))) := hw3
  clear hw3 t1 R1
  go_upto_region 2 with fail
  rw [← HW3.out]
  clear HW3 zc0 zf0 zc1 zf1 zc2 zf2 zc3 zf3 zc4 zf4 zc5 zf5 zc6 zf6 zc7 zf7 zc8 zf8
  have HTA : Hid (Touch (fun _ => False) w ((w.alloc (.cells #[.slice va rs.length vc] 28)).alloc (.cells #[.int .u16 0, .int .u8 0, .int .u8 0, .int .u32 0, .int .u32 0, .int .i32 0, .int .u16 0, .int .u16 0, .slice none 0 0] 35))) := ((Touch.refl _ w).alloc _).alloc _
  generalize hg : w.heap.size + 1 = g at *
  have HG : Hid (w.heap.size + 1 = g) := hg
  clear hg
  obtain ⟨zz0, zc0, zf0⟩ := R3.out 0 (by omega)
  obtain ⟨zz1, zc1, zf1⟩ := R3.out 1 (by omega)
  obtain ⟨zz2, zc2, zf2⟩ := R3.out 2 (by omega)
  obtain ⟨zz3, zc3, zf3⟩ := R3.out 3 (by omega)
  obtain ⟨zz4, zc4, zf4⟩ := R3.out 4 (by omega)
  obtain ⟨zz5, zc5, zf5⟩ := R3.out 5 (by omega)
  obtain ⟨zz6, zc6, zf6⟩ := R3.out 6 (by omega)
  obtain ⟨zz7, zc7, zf7⟩ := R3.out 7 (by omega)
  obtain ⟨zz8, zc8, zf8⟩ := R3.out 8 (by omega)
  obtain ⟨wz, hwz⟩ : ∃ wz, wz = (((((((((w3.setCell ⟨g, 0, none⟩ (.int .u16 H.age)).setCell ⟨g, 1, none⟩ (.int .u8 H.opts)).setCell ⟨g, 2, none⟩ (.int .u8 H.typ)).setCell ⟨g, 3, none⟩ (.int .u32 H.id)).setCell ⟨g, 4, none⟩ (.int .u32 H.adv)).setCell ⟨g, 5, none⟩ (.int .i32 H.seq)).setCell ⟨g, 6, none⟩ (.int .u16 H.sum)).setCell ⟨g, 7, none⟩ (.int .u16 H.len)).setCell ⟨g, 8, none⟩ (.slice a n c)) := ⟨_, rfl⟩
  have zd0 : wz.cell? ⟨g, 0, none⟩ = some (.int .u16 H.age) := by rw [hwz]; simp [zc0, go_sem]
  have zd1 : wz.cell? ⟨g, 1, none⟩ = some (.int .u8 H.opts) := by rw [hwz]; simp [zc1, go_sem]
  have zd2 : wz.cell? ⟨g, 2, none⟩ = some (.int .u8 H.typ) := by rw [hwz]; simp [zc2, go_sem]
  have zd3 : wz.cell? ⟨g, 3, none⟩ = some (.int .u32 H.id) := by rw [hwz]; simp [zc3, go_sem]
  have zd4 : wz.cell? ⟨g, 4, none⟩ = some (.int .u32 H.adv) := by rw [hwz]; simp [zc4, go_sem]
  have zd5 : wz.cell? ⟨g, 5, none⟩ = some (.int .i32 H.seq) := by rw [hwz]; simp [zc5, go_sem]
  have zd6 : wz.cell? ⟨g, 6, none⟩ = some (.int .u16 H.sum) := by rw [hwz]; simp [zc6, go_sem]
  have zd7 : wz.cell? ⟨g, 7, none⟩ = some (.int .u16 H.len) := by rw [hwz]; simp [zc7, go_sem]
  have zd8 : wz.cell? ⟨g, 8, none⟩ = some (.slice a n c) := by rw [hwz]; simp [zc8, go_sem]
  have HUz : Hid (Touch (fun k => k = g) w3 wz) := by show Touch _ _ _; rw [hwz]; refine Touch.setCell (F := fun k => k = g) (p := ⟨g, 8, none⟩) ?_ (Or.inl rfl) _; refine Touch.setCell (F := fun k => k = g) (p := ⟨g, 7, none⟩) ?_ (Or.inl rfl) _; refine Touch.setCell (F := fun k => k = g) (p := ⟨g, 6, none⟩) ?_ (Or.inl rfl) _; refine Touch.setCell (F := fun k => k = g) (p := ⟨g, 5, none⟩) ?_ (Or.inl rfl) _; refine Touch.setCell (F := fun k => k = g) (p := ⟨g, 4, none⟩) ?_ (Or.inl rfl) _; refine Touch.setCell (F := fun k => k = g) (p := ⟨g, 3, none⟩) ?_ (Or.inl rfl) _; refine Touch.setCell (F := fun k => k = g) (p := ⟨g, 2, none⟩) ?_ (Or.inl rfl) _; refine Touch.setCell (F := fun k => k = g) (p := ⟨g, 1, none⟩) ?_ (Or.inl rfl) _; refine Touch.setCell (F := fun k => k = g) (p := ⟨g, 0, none⟩) ?_ (Or.inl rfl) _; exact Touch.refl _ _
  have HWz : Hid (wz = (((((((((w3.setCell ⟨g, 0, none⟩ (.int .u16 H.age)).setCell ⟨g, 1, none⟩ (.int .u8 H.opts)).setCell ⟨g, 2, none⟩ (.int .u8 H.typ)).setCell ⟨g, 3, none⟩ (.int .u32 H.id)).setCell ⟨g, 4, none⟩ (.int .u32 H.adv)).setCell ⟨g, 5, none⟩ (.int .i32 H.seq)).setCell ⟨g, 6, none⟩ (.int .u16 H.sum)).setCell ⟨g, 7, none⟩ (.int .u16 H.len)).setCell ⟨g, 8, none⟩ (.slice a n c))) := hwz
  clear hwz
  go_wp2_with fail
  rw [← HWz.out]
  clear HWz zc0 zf0 zc1 zf1 zc2 zf2 zc3 zf3 zc4 zf4 zc5 zf5 zc6 zf6 zc7 zf7 zc8 zf8
  refine bodyPost_ret (v := .tuple #[.agg #[.int .u16 H.age, .int .u8 H.opts, .int .u8 H.typ, .int .u32 H.id, .int .u32 H.adv, .int .i32 H.seq, .int .u16 H.sum, .int .u16 H.len, .slice a n c], .int .i64 H.len, .int .i64 0]) (by simp [results, Tryz.results37, go_sem, zd0, zd1, zd2, zd3, zd4, zd5, zd6, zd7, zd8]) rfl ?_
  refine ⟨_, rfl, ⟨?_, ?_⟩⟩
  · exact own_lower (own_touch (own_touch HKK.out U3.out (fun k hk e => by have := (HKK.out.lt k hk).1; have := HG.out; omega)) HUz.out (fun k hk e => by have := (HKK.out.lt k hk).1; have := HG.out; omega)) (by omega)
  · exact ((HTA.out.trans HT1.out).trans' U3.out (fun i hi e => by have := HG.out; omega)).trans' HUz.out (fun i hi e => by have := HG.out; omega)
end Go.Proofs.YtfdpmlogieaiaaaGreatDoor

namespace Go.Proofs.YtfdpmlogieaiaaaGreatDoor
open Go.RowKit
set_option linter.unusedVariables false
set_option maxRecDepth 100000

set_option maxHeartbeats 1000000 in
theorem read_no (v : Value) (rs : List Int) (err : Int) (w : World) (hv : ArgAt w v rs)
    (HC1 : ∀ w', Touch (fun _ => False) w w' → w'.cell? ⟨w.heap.size, 0, none⟩ = some v → Calls Tryz.prog 98 #[.pointer (some ⟨w.heap.size, 0, none⟩)] w' fun e w'' => e = .panicked (flawC err) ∧ Touch (fun _ => False) w' w'') :
    Calls Tryz.prog 37 #[v] w fun e w' => e = .returned (.tuple #[.agg #[.int .u16 0, .int .u8 0, .int .u8 0, .int .u32 0, .int .u32 0, .int .i32 0, .int .u16 0, .int .u16 0, .slice none 0 0], .int .i64 0, .int .i64 err]) ∧ Touch (fun _ => False) w w' := by
  obtain ⟨va, vc, rfl, hm⟩ := hv.form
  have hmf : ∀ (fn : Fn) (first cap : Array Value) (w : World), (Instr.makeFunc fn first cap).run Tryz.prog w = .ok (.func fn first cap) w := fun _ _ _ _ => rfl
  have HC := HC1 ((((w.alloc (.cells #[.slice va rs.length vc] 28)).alloc (.cells #[.int .u16 0, .int .u8 0, .int .u8 0, .int .u32 0, .int .u32 0, .int .i32 0, .int .u16 0, .int .u16 0, .slice none 0 0] 35)).alloc (.cells #[.int .u16 0, .int .u8 0, .int .u8 0, .int .u32 0, .int .u32 0, .int .i32 0, .int .u16 0, .int .u16 0, .slice none 0 0] 35)).alloc (.cells #[.int .i64 0] 36)) (((((Touch.refl _ w).alloc _).alloc _).alloc _).alloc _) (by simp [go_sem])
  clear HC1 hv
  have HF := faceS_no 98 #[.pointer (some ⟨w.heap.size, 0, none⟩)] (fun _ => rfl) ((w.alloc (.cells #[.slice va rs.length vc] 28)).alloc (.cells #[.int .u16 0, .int .u8 0, .int .u8 0, .int .u32 0, .int .u32 0, .int .i32 0, .int .u16 0, .int .u16 0, .slice none 0 0] 35)) err HC
  clear HC
  go_enter Tryz.func37, Tryz.ntmps37
  go_wp2_with fail
  refine Calls.mono HF ?_
  rintro e w1 ⟨rfl, t1⟩
  clear HF hmf
  have R1 : Room w1 (w.heap.size + 1) 9 := by
    have := (Room.new (w.alloc (.cells #[.slice va rs.length vc] 28)) #[.int .u16 0, .int .u8 0, .int .u8 0, .int .u32 0, .int .u32 0, .int .i32 0, .int .u16 0, .int .u16 0, .slice none 0 0] 35).keep t1
    simpa using this
  obtain ⟨zz0, zc0, zf0⟩ := R1 0 (by omega)
  obtain ⟨zz1, zc1, zf1⟩ := R1 1 (by omega)
  obtain ⟨zz2, zc2, zf2⟩ := R1 2 (by omega)
  obtain ⟨zz3, zc3, zf3⟩ := R1 3 (by omega)
  obtain ⟨zz4, zc4, zf4⟩ := R1 4 (by omega)
  obtain ⟨zz5, zc5, zf5⟩ := R1 5 (by omega)
  obtain ⟨zz6, zc6, zf6⟩ := R1 6 (by omega)
  obtain ⟨zz7, zc7, zf7⟩ := R1 7 (by omega)
  obtain ⟨zz8, zc8, zf8⟩ := R1 8 (by omega)
  obtain ⟨w3, hw3⟩ : ∃ w3, w3 = (((((((((w1.setCell ⟨(w.heap.size + 1), 0, none⟩ (.int .u16 0)).setCell ⟨(w.heap.size + 1), 1, none⟩ (.int .u8 0)).setCell ⟨(w.heap.size + 1), 2, none⟩ (.int .u8 0)).setCell ⟨(w.heap.size + 1), 3, none⟩ (.int .u32 0)).setCell ⟨(w.heap.size + 1), 4, none⟩ (.int .u32 0)).setCell ⟨(w.heap.size + 1), 5, none⟩ (.int .i32 0)).setCell ⟨(w.heap.size + 1), 6, none⟩ (.int .u16 0)).setCell ⟨(w.heap.size + 1), 7, none⟩ (.int .u16 0)).setCell ⟨(w.heap.size + 1), 8, none⟩ (.slice none 0 0)) := ⟨_, rfl⟩
  have xd0 : w3.cell? ⟨w.heap.size + 1, 0, none⟩ = some (.int .u16 0) := by rw [hw3]; simp [zc0, go_sem]
  have xd1 : w3.cell? ⟨w.heap.size + 1, 1, none⟩ = some (.int .u8 0) := by rw [hw3]; simp [zc1, go_sem]
  have xd2 : w3.cell? ⟨w.heap.size + 1, 2, none⟩ = some (.int .u8 0) := by rw [hw3]; simp [zc2, go_sem]
  have xd3 : w3.cell? ⟨w.heap.size + 1, 3, none⟩ = some (.int .u32 0) := by rw [hw3]; simp [zc3, go_sem]
  have xd4 : w3.cell? ⟨w.heap.size + 1, 4, none⟩ = some (.int .u32 0) := by rw [hw3]; simp [zc4, go_sem]
  have xd5 : w3.cell? ⟨w.heap.size + 1, 5, none⟩ = some (.int .i32 0) := by rw [hw3]; simp [zc5, go_sem]
  have xd6 : w3.cell? ⟨w.heap.size + 1, 6, none⟩ = some (.int .u16 0) := by rw [hw3]; simp [zc6, go_sem]
  have xd7 : w3.cell? ⟨w.heap.size + 1, 7, none⟩ = some (.int .u16 0) := by rw [hw3]; simp [zc7, go_sem]
  have xd8 : w3.cell? ⟨w.heap.size + 1, 8, none⟩ = some (.slice none 0 0) := by rw [hw3]; simp [zc8, go_sem]
  have R3 : Hid (Room w3 (w.heap.size + 1) 9) := by show Room _ _ _; rw [hw3]; exact (((((((((R1.set 0 _).set 1 _).set 2 _).set 3 _).set 4 _).set 5 _).set 6 _).set 7 _).set 8 _)
  have U3 : Hid (Touch (fun k => k = w.heap.size + 1) w1 w3) := by show Touch _ _ _; rw [hw3]; refine Touch.setCell (F := fun k => k = w.heap.size + 1) (p := ⟨w.heap.size + 1, 8, none⟩) ?_ (Or.inl rfl) _; refine Touch.setCell (F := fun k => k = w.heap.size + 1) (p := ⟨w.heap.size + 1, 7, none⟩) ?_ (Or.inl rfl) _; refine Touch.setCell (F := fun k => k = w.heap.size + 1) (p := ⟨w.heap.size + 1, 6, none⟩) ?_ (Or.inl rfl) _; refine Touch.setCell (F := fun k => k = w.heap.size + 1) (p := ⟨w.heap.size + 1, 5, none⟩) ?_ (Or.inl rfl) _; refine Touch.setCell (F := fun k => k = w.heap.size + 1) (p := ⟨w.heap.size + 1, 4, none⟩) ?_ (Or.inl rfl) _; refine Touch.setCell (F := fun k => k = w.heap.size + 1) (p := ⟨w.heap.size + 1, 3, none⟩) ?_ (Or.inl rfl) _; refine Touch.setCell (F := fun k => k = w.heap.size + 1) (p := ⟨w.heap.size + 1, 2, none⟩) ?_ (Or.inl rfl) _; refine Touch.setCell (F := fun k => k = w.heap.size + 1) (p := ⟨w.heap.size + 1, 1, none⟩) ?_ (Or.inl rfl) _; refine Touch.setCell (F := fun k => k = w.heap.size + 1) (p := ⟨w.heap.size + 1, 0, none⟩) ?_ (Or.inl rfl) _; exact Touch.refl _ _
  have HT1 : Hid (Touch (fun _ => False) ((w.alloc (.cells #[.slice va rs.length vc] 28)).alloc (.cells #[.int .u16 0, .int .u8 0, .int .u8 0, .int .u32 0, .int .u32 0, .int .i32 0, .int .u16 0, .int .u16 0, .slice none 0 0] 35)) w1) := t1
  have HW3 : Hid (w3 = (((((((((w1.setCell ⟨(w.heap.size + 1), 0, none⟩ (.int .u16 0)).setCell ⟨(w.heap.size + 1), 1, none⟩ (.int .u8 0)).setCell ⟨(w.heap.size + 1), 2, none⟩ (.int .u8 0)).setCell ⟨(w.heap.size + 1), 3, none⟩ (.int .u32 0)).setCell ⟨(w.heap.size + 1), 4, none⟩ (.int .u32 0)).setCell ⟨(w.heap.size + 1), 5, none⟩ (.int .i32 0)).setCell ⟨(w.heap.size + 1), 6, none⟩ (.int .u16 0)).setCell ⟨(w.heap.size + 1), 7, none⟩ (.int .u16 0)).setCell ⟨(w.heap.size + 1), 8, none⟩ (.slice none 0 0))) := hw3
  clear hw3 t1 R1
  go_upto_region 2 with fail
  rw [← HW3.out]
  clear HW3 zc0 zf0 zc1 zf1 zc2 zf2 zc3 zf3 zc4 zf4 zc5 zf5 zc6 zf6 zc7 zf7 zc8 zf8
  have HTA : Hid (Touch (fun _ => False) w ((w.alloc (.cells #[.slice va rs.length vc] 28)).alloc (.cells #[.int .u16 0, .int .u8 0, .int .u8 0, .int .u32 0, .int .u32 0, .int .i32 0, .int .u16 0, .int .u16 0, .slice none 0 0] 35))) := ((Touch.refl _ w).alloc _).alloc _
  generalize hg : w.heap.size + 1 = g at *
  have HG : Hid (w.heap.size + 1 = g) := hg
  clear hg
  obtain ⟨zz0, zc0, zf0⟩ := R3.out 0 (by omega)
  obtain ⟨zz1, zc1, zf1⟩ := R3.out 1 (by omega)
  obtain ⟨zz2, zc2, zf2⟩ := R3.out 2 (by omega)
  obtain ⟨zz3, zc3, zf3⟩ := R3.out 3 (by omega)
  obtain ⟨zz4, zc4, zf4⟩ := R3.out 4 (by omega)
  obtain ⟨zz5, zc5, zf5⟩ := R3.out 5 (by omega)
  obtain ⟨zz6, zc6, zf6⟩ := R3.out 6 (by omega)
  obtain ⟨zz7, zc7, zf7⟩ := R3.out 7 (by omega)
  obtain ⟨zz8, zc8, zf8⟩ := R3.out 8 (by omega)
  obtain ⟨wz, hwz⟩ : ∃ wz, wz = (((((((((w3.setCell ⟨g, 0, none⟩ (.int .u16 0)).setCell ⟨g, 1, none⟩ (.int .u8 0)).setCell ⟨g, 2, none⟩ (.int .u8 0)).setCell ⟨g, 3, none⟩ (.int .u32 0)).setCell ⟨g, 4, none⟩ (.int .u32 0)).setCell ⟨g, 5, none⟩ (.int .i32 0)).setCell ⟨g, 6, none⟩ (.int .u16 0)).setCell ⟨g, 7, none⟩ (.int .u16 0)).setCell ⟨g, 8, none⟩ (.slice none 0 0)) := ⟨_, rfl⟩
  have zd0 : wz.cell? ⟨g, 0, none⟩ = some (.int .u16 0) := by rw [hwz]; simp [zc0, go_sem]
  have zd1 : wz.cell? ⟨g, 1, none⟩ = some (.int .u8 0) := by rw [hwz]; simp [zc1, go_sem]
  have zd2 : wz.cell? ⟨g, 2, none⟩ = some (.int .u8 0) := by rw [hwz]; simp [zc2, go_sem]
  have zd3 : wz.cell? ⟨g, 3, none⟩ = some (.int .u32 0) := by rw [hwz]; simp [zc3, go_sem]
  have zd4 : wz.cell? ⟨g, 4, none⟩ = some (.int .u32 0) := by rw [hwz]; simp [zc4, go_sem]
  have zd5 : wz.cell? ⟨g, 5, none⟩ = some (.int .i32 0) := by rw [hwz]; simp [zc5, go_sem]
  have zd6 : wz.cell? ⟨g, 6, none⟩ = some (.int .u16 0) := by rw [hwz]; simp [zc6, go_sem]
  have zd7 : wz.cell? ⟨g, 7, none⟩ = some (.int .u16 0) := by rw [hwz]; simp [zc7, go_sem]
  have zd8 : wz.cell? ⟨g, 8, none⟩ = some (.slice none 0 0) := by rw [hwz]; simp [zc8, go_sem]
  have HUz : Hid (Touch (fun k => k = g) w3 wz) := by show Touch _ _ _; rw [hwz]; refine Touch.setCell (F := fun k => k = g) (p := ⟨g, 8, none⟩) ?_ (Or.inl rfl) _; refine Touch.setCell (F := fun k => k = g) (p := ⟨g, 7, none⟩) ?_ (Or.inl rfl) _; refine Touch.setCell (F := fun k => k = g) (p := ⟨g, 6, none⟩) ?_ (Or.inl rfl) _; refine Touch.setCell (F := fun k => k = g) (p := ⟨g, 5, none⟩) ?_ (Or.inl rfl) _; refine Touch.setCell (F := fun k => k = g) (p := ⟨g, 4, none⟩) ?_ (Or.inl rfl) _; refine Touch.setCell (F := fun k => k = g) (p := ⟨g, 3, none⟩) ?_ (Or.inl rfl) _; refine Touch.setCell (F := fun k => k = g) (p := ⟨g, 2, none⟩) ?_ (Or.inl rfl) _; refine Touch.setCell (F := fun k => k = g) (p := ⟨g, 1, none⟩) ?_ (Or.inl rfl) _; refine Touch.setCell (F := fun k => k = g) (p := ⟨g, 0, none⟩) ?_ (Or.inl rfl) _; exact Touch.refl _ _
  have HWz : Hid (wz = (((((((((w3.setCell ⟨g, 0, none⟩ (.int .u16 0)).setCell ⟨g, 1, none⟩ (.int .u8 0)).setCell ⟨g, 2, none⟩ (.int .u8 0)).setCell ⟨g, 3, none⟩ (.int .u32 0)).setCell ⟨g, 4, none⟩ (.int .u32 0)).setCell ⟨g, 5, none⟩ (.int .i32 0)).setCell ⟨g, 6, none⟩ (.int .u16 0)).setCell ⟨g, 7, none⟩ (.int .u16 0)).setCell ⟨g, 8, none⟩ (.slice none 0 0))) := hwz
  clear hwz
  go_wp2_with fail
  rw [← HWz.out]
  clear HWz zc0 zf0 zc1 zf1 zc2 zf2 zc3 zf3 zc4 zf4 zc5 zf5 zc6 zf6 zc7 zf7 zc8 zf8
  refine bodyPost_ret (v := .tuple #[.agg #[.int .u16 0, .int .u8 0, .int .u8 0, .int .u32 0, .int .u32 0, .int .i32 0, .int .u16 0, .int .u16 0, .slice none 0 0], .int .i64 0, .int .i64 err]) (by simp [results, Tryz.results37, go_sem, zd0, zd1, zd2, zd3, zd4, zd5, zd6, zd7, zd8]) rfl ?_
  refine ⟨rfl, ?_⟩
  exact ((HTA.out.trans HT1.out).trans' U3.out (fun i hi e => by have := HG.out; omega)).trans' HUz.out (fun i hi e => by have := HG.out; omega)
/-- What Read tells of bytes that it refuses. -/
def readE (rs : List Int) : Int := if rs.length < 20 then 10 else if (rdHead (rs.take 20)).len < 20 then 22 else if (rs.length : Int) < (rdHead (rs.take 20)).len then 10 else 0
theorem read_bad (v : Value) (rs : List Int) (w : World) (hv : ArgAt w v rs) (hby : ∀ z ∈ rs, 0 ≤ z ∧ z < 256) (hl2 : rs.length ≤ 1099511627776) (he : readE rs ≠ 0) :
    Calls Tryz.prog 37 #[v] w fun e w' => e = .returned (.tuple #[.agg #[.int .u16 0, .int .u8 0, .int .u8 0, .int .u32 0, .int .u32 0, .int .i32 0, .int .u16 0, .int .u16 0, .slice none 0 0], .int .i64 0, .int .i64 (readE rs)]) ∧ Touch (fun _ => False) w w' := by
  by_cases h1 : rs.length < 20
  · have e : readE rs = 10 := by simp [readE, h1]
    rw [e]
    exact read_no v rs 10 w hv (fun w' t hc => read1_short _ v rs w' hc (hv.keepN t) hby h1)
  · by_cases h2 : (rdHead (rs.take 20)).len < 20
    · have e : readE rs = 22 := by simp [readE, h1, h2]
      rw [e]
      exact read_no v rs 22 w hv (fun w' t hc => read1_low _ v rs w' hc (hv.keepN t) hby (by omega) hl2 h2)
    · by_cases h3 : (rs.length : Int) < (rdHead (rs.take 20)).len
      · have e : readE rs = 10 := by simp [readE, h1, h2, h3]
        rw [e]
        exact read_no v rs 10 w hv (fun w' t hc => read1_miss _ v rs w' hc (hv.keepN t) hby (by omega) hl2 (by omega) h3)
      · simp [readE, h1, h2, h3] at he
end Go.Proofs.YtfdpmlogieaiaaaGreatDoor
