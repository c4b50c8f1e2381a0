/- Contract: lives. -/
import Derived.Test.YtlcgklbmkfiglaaSumFletch
import Derived.Test.YtlcgklbmkfiglaaSumWords3
namespace Go.Proofs.Ytlcgklbmkfiglaa
open Go.RowKit
set_option linter.unusedVariables false
set_option maxRecDepth 100000

theorem lit_arg (w : World) (l : List Int) (C : Array Value) (hC : C.toList = bytesOf l) (hm : l.length ≤ 1000) : ArgAt (w.alloc (.cells C 5)) (.slice (some ⟨w.heap.size, 0, none⟩) l.length l.length) l :=
  Or.inr ⟨⟨w.heap.size, 0, none⟩, l.length, rfl, Nat.le_refl _, by unfold maxLen; omega, src_new w C 5 0 l (by simpa using hC)⟩

theorem lv1 : 256 * flx [1, 2, 0, 0] 2 + fly [1, 2, 0, 0] 2 = 63492 := by decide
theorem lv2 : 65535 - fold (W true [1, 2, 3]) = 64509 := by decide
theorem lv3 : (fold (W true [0, 1, 255, 254]) == 65535) = true := by decide
theorem lv4 : whole [1, 2, 248, 4] = true := by decide
theorem lv5 : whole [1] = false := by decide

theorem l_f (w : World) : Calls Try.prog 7 #[.slice (some ⟨w.heap.size, 0, none⟩) 4 4, .int .i64 2] (w.alloc (.cells #[.int .u8 1, .int .u8 2, .int .u8 0, .int .u8 0] 5)) fun e w' => e = .returned (.tuple #[.int .u16 63492, .int .i64 0]) ∧ Touch (fun _ => False) (w.alloc (.cells #[.int .u8 1, .int .u8 2, .int .u8 0, .int .u8 0] 5)) w' := by
  have h := fletcher_any (.slice (some ⟨w.heap.size, 0, none⟩) 4 4) [1, 2, 0, 0] 2 (w.alloc (.cells #[.int .u8 1, .int .u8 2, .int .u8 0, .int .u8 0] 5)) (lit_arg w [1, 2, 0, 0] #[.int .u8 1, .int .u8 2, .int .u8 0, .int .u8 0] rfl (by simp)) (by decide) (by simp)
  rw [lv1] at h
  exact h
theorem l_o (w : World) : Calls Try.prog 7 #[(.slice (some ⟨w.heap.size, 0, none⟩) 2 2), .int .i64 1] (w.alloc (.cells #[.int .u8 1, .int .u8 2] 5)) fun e w' => e = .returned (.tuple #[.int .u16 0, .int .i64 1]) ∧ Touch (fun _ => False) (w.alloc (.cells #[.int .u8 1, .int .u8 2] 5)) w' :=
  Calls.mono (fletcher_out (.slice (some ⟨w.heap.size, 0, none⟩) 2 2) [1, 2] 1 (w.alloc (.cells #[.int .u8 1, .int .u8 2] 5)) (lit_arg w [1, 2] #[.int .u8 1, .int .u8 2] rfl (by simp)) (by simp)) (fun _ _ ⟨h, e⟩ => ⟨h, e ▸ Touch.refl _ _⟩)
theorem l_p (w : World) : Calls Try.prog 9 #[.slice (some ⟨w.heap.size, 0, none⟩) 3 3] (w.alloc (.cells #[.int .u8 1, .int .u8 2, .int .u8 3] 5)) fun e w' => e = .returned (.int .u16 64509) ∧ Touch (fun _ => False) (w.alloc (.cells #[.int .u8 1, .int .u8 2, .int .u8 3] 5)) w' := by
  have h := plain_any (.slice (some ⟨w.heap.size, 0, none⟩) 3 3) [1, 2, 3] (w.alloc (.cells #[.int .u8 1, .int .u8 2, .int .u8 3] 5)) (lit_arg w [1, 2, 3] #[.int .u8 1, .int .u8 2, .int .u8 3] rfl (by simp)) (by decide)
  rw [lv2] at h
  exact h
theorem l_r (w : World) : Calls Try.prog 11 #[.slice (some ⟨w.heap.size, 0, none⟩) 4 4] (w.alloc (.cells #[.int .u8 0, .int .u8 1, .int .u8 255, .int .u8 254] 5)) fun e w' => e = .returned (.bool true) ∧ Touch (fun _ => False) (w.alloc (.cells #[.int .u8 0, .int .u8 1, .int .u8 255, .int .u8 254] 5)) w' := by
  have h := right_any (.slice (some ⟨w.heap.size, 0, none⟩) 4 4) [0, 1, 255, 254] (w.alloc (.cells #[.int .u8 0, .int .u8 1, .int .u8 255, .int .u8 254] 5)) (lit_arg w [0, 1, 255, 254] #[.int .u8 0, .int .u8 1, .int .u8 255, .int .u8 254] rfl (by simp)) (by decide)
  rw [lv3] at h
  exact h
theorem l_w (w : World) : Calls Try.prog 13 #[.slice (some ⟨w.heap.size, 0, none⟩) 4 4] (w.alloc (.cells #[.int .u8 1, .int .u8 2, .int .u8 248, .int .u8 4] 5)) fun e w' => e = .returned (.bool true) ∧ Touch (fun _ => False) (w.alloc (.cells #[.int .u8 1, .int .u8 2, .int .u8 248, .int .u8 4] 5)) w' := by
  have h := whole_any (.slice (some ⟨w.heap.size, 0, none⟩) 4 4) [1, 2, 248, 4] (w.alloc (.cells #[.int .u8 1, .int .u8 2, .int .u8 248, .int .u8 4] 5)) (lit_arg w [1, 2, 248, 4] #[.int .u8 1, .int .u8 2, .int .u8 248, .int .u8 4] rfl (by simp)) (by decide)
  rw [lv4] at h
  exact h
theorem l_v (w : World) : Calls Try.prog 13 #[.slice (some ⟨w.heap.size, 0, none⟩) 1 1] (w.alloc (.cells #[.int .u8 1] 5)) fun e w' => e = .returned (.bool false) ∧ Touch (fun _ => False) (w.alloc (.cells #[.int .u8 1] 5)) w' := by
  have h := whole_any (.slice (some ⟨w.heap.size, 0, none⟩) 1 1) [1] (w.alloc (.cells #[.int .u8 1] 5)) (lit_arg w [1] #[.int .u8 1] rfl (by simp)) (by decide)
  rw [lv5] at h
  exact h

set_option maxHeartbeats 400000 in
theorem lives_any (w : World) : Calls Try.prog 5 #[] w fun e w' => e = .returned (.bool true) ∧ Touch (fun _ => False) w w' := by
  go_enter Try.func5, Try.ntmps5
  go_wp2_with fail
  refine (l_f _).mono ?_
  rintro e w1 ⟨rfl, t1⟩
  go_wp2_with fail
  refine (l_o _).mono ?_
  rintro e w2 ⟨rfl, t2⟩
  go_wp2_with fail
  refine (l_p _).mono ?_
  rintro e w3 ⟨rfl, t3⟩
  go_wp2_with fail
  refine (l_r _).mono ?_
  rintro e w4 ⟨rfl, t4⟩
  go_wp2_with fail
  refine (l_w _).mono ?_
  rintro e w5 ⟨rfl, t5⟩
  go_wp2_with fail
  refine (l_v _).mono ?_
  rintro e w6 ⟨rfl, t6⟩
  go_wp2
  go_ret
  refine ⟨rfl, ?_⟩
  have n0 : ∀ (w : World) (o : Obj), Touch (fun _ => False) w (w.alloc o) := fun w o => (Touch.refl _ w).alloc o
  exact (n0 _ _).trans (t1.trans ((n0 _ _).trans (t2.trans ((n0 _ _).trans (t3.trans ((n0 _ _).trans (t4.trans ((n0 _ _).trans (t5.trans ((n0 _ _).trans t6))))))))))
end Go.Proofs.Ytlcgklbmkfiglaa
