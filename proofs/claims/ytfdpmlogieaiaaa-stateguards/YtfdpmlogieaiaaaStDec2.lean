/- Contract: Decode. -/
import Derived.Test.YtfdpmlogieaiaaaStDec
namespace Go.Proofs.Ytfdpmlogieaiaaa
open Go.RowKit
set_option linter.unusedVariables false
set_option maxRecDepth 100000

set_option maxHeartbeats 1000000 in
theorem decode_flat (h : HV) (a : Option Addr) (n c : Nat) (x0 x2 x4 x6 x7 : Int) (x5 : Bool) (w : World)
    (HC : ∀ w', Touch (fun _ => False) w w' → Sd w' w.heap.size h (.slice a n c) → Calls Try.prog 25 #[.pointer (some ⟨w.heap.size, 0, none⟩)] w' fun e w'' => e = .returned (.agg #[.int .u8 x0, .slice none 0 0, .int .u32 x2, .slice none 0 0, .int .u32 x4, .bool x5, .int .u32 x6, .int .u32 x7, .slice none 0 0]) ∧ Touch (fun _ => False) w' w'') :
    Calls Try.prog 9 #[h.sv (.slice a n c)] w fun e w' => e = .returned (.tuple #[.agg #[.int .u8 x0, .slice none 0 0, .int .u32 x2, .slice none 0 0, .int .u32 x4, .bool x5, .int .u32 x6, .int .u32 x7, .slice none 0 0], .int .i64 0]) ∧ Touch (fun _ => False) w w' := by
  have hmf : ∀ (fn : Fn) (first cap : Array Value) (w : World), (Instr.makeFunc fn first cap).run Try.prog w = .ok (.func fn first cap) w := fun _ _ _ _ => rfl
  have HC4 := HC ((((w.alloc (.cells #[.int .u16 h.age, .int .u8 h.opts, .int .u8 h.typ, .int .u32 h.id, .int .u32 h.adv, .int .i32 h.seq, .int .u16 h.sum, .int .u16 h.len, .slice a n c] 34)).alloc (.cells #[.int .u8 0, .slice none 0 0, .int .u32 0, .slice none 0 0, .int .u32 0, .bool false, .int .u32 0, .int .u32 0, .slice none 0 0] 30)).alloc (.cells #[.int .u8 0, .slice none 0 0, .int .u32 0, .slice none 0 0, .int .u32 0, .bool false, .int .u32 0, .int .u32 0, .slice none 0 0] 30)).alloc (.cells #[.int .i64 0] 35)) ((((Touch.refl _ w).alloc _).alloc _).alloc _ |>.alloc _) ((Sd.new w h (.slice a n c) 34).keep ((((Touch.refl _ _).alloc _).alloc _).alloc _))
  have HF := faceB_ok 25 #[.pointer (some ⟨w.heap.size, 0, none⟩)] (fun _ => rfl) ((w.alloc (.cells #[.int .u16 h.age, .int .u8 h.opts, .int .u8 h.typ, .int .u32 h.id, .int .u32 h.adv, .int .i32 h.seq, .int .u16 h.sum, .int .u16 h.len, .slice a n c] 34)).alloc (.cells #[.int .u8 0, .slice none 0 0, .int .u32 0, .slice none 0 0, .int .u32 0, .bool false, .int .u32 0, .int .u32 0, .slice none 0 0] 30)) x0 x2 x4 x6 x7 x5 (fun s1 s3 s8 w' => s1 = .slice none 0 0 ∧ s3 = .slice none 0 0 ∧ s8 = .slice none 0 0) (HC4.mono (by
    rintro e w' ⟨rfl, t⟩
    exact ⟨none, 0, 0, none, 0, 0, none, 0, 0, rfl, t, rfl, rfl, rfl⟩)) (by
    intro a1 n1 q1 a3 n3 q3 a8 n8 q8 w1 w2 hk _ _
    exact hk)
  clear HC HC4
  show Calls Try.prog 9 #[.agg #[.int .u16 h.age, .int .u8 h.opts, .int .u8 h.typ, .int .u32 h.id, .int .u32 h.adv, .int .i32 h.seq, .int .u16 h.sum, .int .u16 h.len, .slice a n c]] w _
  go_enter Try.func9, Try.ntmps9
  go_wp2_with fail
  refine Calls.mono HF ?_
  rintro e w1 ⟨a1, n1, q1, a3, n3, q3, a8, n8, q8, rfl, t1, k1, k3, k8⟩
  cases k1; cases k3; cases k8
  have R1 : Hid (Room w1 (w.heap.size + 1) 9) := by
    have := (Room.new (w.alloc (.cells #[.int .u16 h.age, .int .u8 h.opts, .int .u8 h.typ, .int .u32 h.id, .int .u32 h.adv, .int .i32 h.seq, .int .u16 h.sum, .int .u16 h.len, .slice a n c] 34)) #[.int .u8 0, .slice none 0 0, .int .u32 0, .slice none 0 0, .int .u32 0, .bool false, .int .u32 0, .int .u32 0, .slice none 0 0] 30).keep t1
    show Room _ _ _
    simpa using this
  have HT : Hid (Touch (fun _ => False) w w1) := (((Touch.refl _ w).alloc _).alloc _).trans t1
  clear HF t1 hmf
  generalize hg : w.heap.size + 1 = g at *
  have HG : Hid (w.heap.size + 1 = g) := hg
  clear hg
  obtain ⟨zz0, zc0, zf0⟩ := R1.out 0 (by omega)
  obtain ⟨zz1, zc1, zf1⟩ := R1.out 1 (by omega)
  obtain ⟨zz2, zc2, zf2⟩ := R1.out 2 (by omega)
  obtain ⟨zz3, zc3, zf3⟩ := R1.out 3 (by omega)
  obtain ⟨zz4, zc4, zf4⟩ := R1.out 4 (by omega)
  obtain ⟨zz5, zc5, zf5⟩ := R1.out 5 (by omega)
  obtain ⟨zz6, zc6, zf6⟩ := R1.out 6 (by omega)
  obtain ⟨zz7, zc7, zf7⟩ := R1.out 7 (by omega)
  obtain ⟨zz8, zc8, zf8⟩ := R1.out 8 (by omega)
  obtain ⟨wz, hwz⟩ : ∃ wz, wz = (((((((((w1.setCell ⟨g, 0, none⟩ (.int .u8 x0)).setCell ⟨g, 1, none⟩ (.slice none 0 0)).setCell ⟨g, 2, none⟩ (.int .u32 x2)).setCell ⟨g, 3, none⟩ (.slice none 0 0)).setCell ⟨g, 4, none⟩ (.int .u32 x4)).setCell ⟨g, 5, none⟩ (.bool x5)).setCell ⟨g, 6, none⟩ (.int .u32 x6)).setCell ⟨g, 7, none⟩ (.int .u32 x7)).setCell ⟨g, 8, none⟩ (.slice none 0 0)) := ⟨_, rfl⟩
  have zd0 : wz.cell? ⟨g, 0, none⟩ = some (.int .u8 x0) := by rw [hwz]; simp [zc0, go_sem]
  have zd1 : wz.cell? ⟨g, 1, none⟩ = some (.slice none 0 0) := by rw [hwz]; simp [zc1, go_sem]
  have zd2 : wz.cell? ⟨g, 2, none⟩ = some (.int .u32 x2) := by rw [hwz]; simp [zc2, go_sem]
  have zd3 : wz.cell? ⟨g, 3, none⟩ = some (.slice none 0 0) := by rw [hwz]; simp [zc3, go_sem]
  have zd4 : wz.cell? ⟨g, 4, none⟩ = some (.int .u32 x4) := by rw [hwz]; simp [zc4, go_sem]
  have zd5 : wz.cell? ⟨g, 5, none⟩ = some (.bool x5) := by rw [hwz]; simp [zc5, go_sem]
  have zd6 : wz.cell? ⟨g, 6, none⟩ = some (.int .u32 x6) := by rw [hwz]; simp [zc6, go_sem]
  have zd7 : wz.cell? ⟨g, 7, none⟩ = some (.int .u32 x7) := by rw [hwz]; simp [zc7, go_sem]
  have zd8 : wz.cell? ⟨g, 8, none⟩ = some (.slice none 0 0) := by rw [hwz]; simp [zc8, go_sem]
  have HUz : Hid (Touch (fun k => k = g) w1 wz) := by show Touch _ _ _; rw [hwz]; refine Touch.setCell (F := fun k => k = g) (p := ⟨g, 8, none⟩) ?_ (Or.inl rfl) _; refine Touch.setCell (F := fun k => k = g) (p := ⟨g, 7, none⟩) ?_ (Or.inl rfl) _; refine Touch.setCell (F := fun k => k = g) (p := ⟨g, 6, none⟩) ?_ (Or.inl rfl) _; refine Touch.setCell (F := fun k => k = g) (p := ⟨g, 5, none⟩) ?_ (Or.inl rfl) _; refine Touch.setCell (F := fun k => k = g) (p := ⟨g, 4, none⟩) ?_ (Or.inl rfl) _; refine Touch.setCell (F := fun k => k = g) (p := ⟨g, 3, none⟩) ?_ (Or.inl rfl) _; refine Touch.setCell (F := fun k => k = g) (p := ⟨g, 2, none⟩) ?_ (Or.inl rfl) _; refine Touch.setCell (F := fun k => k = g) (p := ⟨g, 1, none⟩) ?_ (Or.inl rfl) _; refine Touch.setCell (F := fun k => k = g) (p := ⟨g, 0, none⟩) ?_ (Or.inl rfl) _; exact Touch.refl _ _
  have HWz : Hid (wz = (((((((((w1.setCell ⟨g, 0, none⟩ (.int .u8 x0)).setCell ⟨g, 1, none⟩ (.slice none 0 0)).setCell ⟨g, 2, none⟩ (.int .u32 x2)).setCell ⟨g, 3, none⟩ (.slice none 0 0)).setCell ⟨g, 4, none⟩ (.int .u32 x4)).setCell ⟨g, 5, none⟩ (.bool x5)).setCell ⟨g, 6, none⟩ (.int .u32 x6)).setCell ⟨g, 7, none⟩ (.int .u32 x7)).setCell ⟨g, 8, none⟩ (.slice none 0 0))) := hwz
  clear hwz
  go_wp2_with fail
  rw [← HWz.out]
  clear HWz zc0 zf0 zc1 zf1 zc2 zf2 zc3 zf3 zc4 zf4 zc5 zf5 zc6 zf6 zc7 zf7 zc8 zf8
  refine bodyPost_ret (v := .tuple #[.agg #[.int .u8 x0, .slice none 0 0, .int .u32 x2, .slice none 0 0, .int .u32 x4, .bool x5, .int .u32 x6, .int .u32 x7, .slice none 0 0], .int .i64 0]) (by simp [results, Try.results9, go_sem, zd0, zd1, zd2, zd3, zd4, zd5, zd6, zd7, zd8]) rfl ?_
  exact ⟨rfl, HT.out.trans' HUz.out (fun i hi e => by have := HG.out; omega)⟩
end Go.Proofs.Ytfdpmlogieaiaaa
