
/- May a head be? Does a description fit? -/
import Derived.Test.YtojlnabhaglejaaAdTake2
namespace Go.Proofs.Ytojlnabhaglejaa
open Go.RowKit
set_option linter.unusedVariables false
set_option maxRecDepth 100000

set_option maxHeartbeats 1000000 in
theorem mb1_no (w : World) (b gc : Nat) (x : AJ) (h : Ads w b x) (ht : x.types = 65535) (hc : w.cell? ⟨gc, 0, none⟩ = some (.pointer (some ⟨b, 0, none⟩))) : Calls Try.prog 60 #[.agg #[.int .u16 0, .int .u8 0, .int .u8 1, .int .u32 2, .int .u32 2, .int .i32 (-2147483647), .int .u16 0, .int .u16 0], .pointer (some ⟨gc, 0, none⟩)] w fun e w' => e = .returned (.bool false) ∧ Touch (fun _ => False) w w' := by
  have c6 : w.cell? ⟨b, 6, none⟩ = some (.int .u16 65535) := by rw [← ht]; exact h.cell 6
  have hb := h.lt
  have hcl := lt_of_cell hc
  clear h ht
  go_enter Try.func60, Try.ntmps60
  go_wp2_with fail
  go_region
  go_wp2_with fail
  go_ret
  exact ⟨rfl, ((Touch.refl _ _).alloc _).drew⟩
set_option maxHeartbeats 1000000 in
theorem indexFunc_one (w : World) (b gc gh : Nat) (x : AJ) (h : Ads w b x) (ht : x.types = 65535) (hc : w.cell? ⟨gc, 0, none⟩ = some (.pointer (some ⟨b, 0, none⟩))) (hr : Row w gh 50 [.int .u16 0, .int .u8 0, .int .u8 1, .int .u32 2, .int .u32 2, .int .i32 (-2147483647), .int .u16 0, .int .u16 0]) : Calls Try.prog 72 #[.slice (some ⟨gh, 0, none⟩) 1 1, .func (.func 60) #[] #[.pointer (some ⟨gc, 0, none⟩)]] w fun e w' => e = .returned (.int .i64 (-1)) ∧ Touch (fun _ => False) w w' := by
  have q0 : w.cell? ⟨gh, 0, none⟩ = some (.int .u16 0) := hr.cell 0
  have q1 : w.cell? ⟨gh, 1, none⟩ = some (.int .u8 0) := hr.cell 1
  have q2 : w.cell? ⟨gh, 2, none⟩ = some (.int .u8 1) := hr.cell 2
  have q3 : w.cell? ⟨gh, 3, none⟩ = some (.int .u32 2) := hr.cell 3
  have q4 : w.cell? ⟨gh, 4, none⟩ = some (.int .u32 2) := hr.cell 4
  have q5 : w.cell? ⟨gh, 5, none⟩ = some (.int .i32 (-2147483647)) := hr.cell 5
  have q6 : w.cell? ⟨gh, 6, none⟩ = some (.int .u16 0) := hr.cell 6
  have q7 : w.cell? ⟨gh, 7, none⟩ = some (.int .u16 0) := hr.cell 7
  have hg := hr.lt
  have HP := mb1_no w b gc x h ht hc
  clear h ht hc hr
  go_enter Try.func72, Try.ntmps72
  go_wp2_with fail
  go_loopw [8] (fun i wr => (i = .int .i64 0 ∧ wr = w) ∨ (i = .int .i64 1 ∧ Touch (fun _ => False) w wr)) (fun i _ => 1 - (intOf i).toNat)
  case atStart => exact Or.inl ⟨rfl, rfl⟩
  case round =>
    rcases hrel with ⟨rfl, rfl⟩ | ⟨rfl, t⟩
    · go_wp2_with (go_at_call 60; refine Calls.mono HP ?_; rintro e w1 ⟨rfl, t1⟩)
      go_roundw
      case rel => exact Or.inr ⟨by go_num, t1⟩
      case measure => simp [intOf]
    · go_wp2_with fail
      go_ret
      exact ⟨rfl, t⟩
set_option maxHeartbeats 1000000 in
theorem mayBe_one (w : World) (b gh : Nat) (x : AJ) (h : Ads w b x) (ht : x.types = 65535) (hr : Row w gh 50 [.int .u16 0, .int .u8 0, .int .u8 1, .int .u32 2, .int .u32 2, .int .i32 (-2147483647), .int .u16 0, .int .u16 0]) : Calls Try.prog 47 #[.pointer (some ⟨b, 0, none⟩), .slice (some ⟨gh, 0, none⟩) 1 1] w fun e w' => e = .returned (.bool true) ∧ Touch (fun _ => False) w w' := by
  have hmf : ∀ (fn : Fn) (first cap : Array Value) (w : World), (Instr.makeFunc fn first cap).run Try.prog w = .ok (.func fn first cap) w := fun _ _ _ _ => rfl
  have T1 : Touch (fun _ => False) w (w.alloc (.cells #[.pointer (some ⟨b, 0, none⟩)] 30)) := (Touch.refl _ _).alloc _
  have HC : Hid (Calls Try.prog 59 #[.slice (some ⟨gh, 0, none⟩) 1 1, .func (.func 60) #[] #[.pointer (some ⟨w.heap.size, 0, none⟩)]] (w.alloc (.cells #[.pointer (some ⟨b, 0, none⟩)] 30)) fun e w' => e = .returned (.bool false) ∧ Touch (fun _ => False) (w.alloc (.cells #[.pointer (some ⟨b, 0, none⟩)] 30)) w') := by
    have hc : (w.alloc (.cells #[.pointer (some ⟨b, 0, none⟩)] 30)).cell? ⟨w.heap.size, 0, none⟩ = some (.pointer (some ⟨b, 0, none⟩)) := by simp [go_sem]
    have HI := indexFunc_one _ b w.heap.size gh x (h.keep T1) ht hc (hr.keep T1)
    show Calls _ _ _ _ _
    generalize w.alloc (.cells #[.pointer (some ⟨b, 0, none⟩)] 30) = wa at *
    clear h ht hr hc T1 hmf
    go_enter Try.func59, Try.ntmps59
    go_wp2_with (go_at_call 72; refine Calls.mono HI ?_; rintro e w1 ⟨rfl, t1⟩)
    go_ret
    exact ⟨rfl, t1⟩
  clear h ht hr
  go_enter Try.func47, Try.ntmps47
  go_wp2_with (go_at_call 59; refine Calls.mono HC.out ?_; rintro e w1 ⟨rfl, t1⟩)
  go_ret
  exact ⟨rfl, T1.trans t1⟩
set_option maxHeartbeats 4000000 in
theorem fits_one (w : World) (b gh : Nat) (x : AJ) (m o s : Int) (h : Ads w b x) (ht : x.types = 65535) (hm : x.master = false) (ho : x.topts = o) (hs : IntKind.u32.wrap (x.number + 1) = s) (hr : Row w gh 50 [.int .u16 0, .int .u8 0, .int .u8 1, .int .u32 2, .int .u32 2, .int .i32 (-2147483647), .int .u16 0, .int .u16 0]) : Calls Try.prog 53 #[.pointer (some ⟨b, 0, none⟩), .agg #[.int .u16 m, .int .u8 o, .int .u8 1, .int .u32 s, .slice (some ⟨gh, 0, none⟩) 1 1]] w fun e w' => e = .returned (.bool true) ∧ Touch (fun _ => False) w w' := by
  have T1 : Touch (fun _ => False) w (w.alloc (.cells #[.int .u16 m, .int .u8 o, .int .u8 1, .int .u32 s, .slice (some ⟨gh, 0, none⟩) 1 1] 54)) := (Touch.refl _ _).alloc _
  have R1 : Row (w.alloc (.cells #[.int .u16 m, .int .u8 o, .int .u8 1, .int .u32 s, .slice (some ⟨gh, 0, none⟩) 1 1] 54)) w.heap.size 54 [.int .u16 m, .int .u8 o, .int .u8 1, .int .u32 s, .slice (some ⟨gh, 0, none⟩) 1 1] := row_new _ _ _
  have HM : Hid (∀ w', SnX (w.alloc (.cells #[.int .u16 m, .int .u8 o, .int .u8 1, .int .u32 s, .slice (some ⟨gh, 0, none⟩) 1 1] 54)) w' → Calls Try.prog 47 #[.pointer (some ⟨b, 0, none⟩), .slice (some ⟨gh, 0, none⟩) 1 1] w' fun e w'' => e = .returned (.bool true) ∧ Touch (fun _ => False) w' w'') := fun w' sx => mayBe_one w' b gh x ((h.keep T1).keep sx.t) ht ((hr.keep T1).keep sx.t)
  have h1 := h.keep T1
  have hb := h1.lt
  have c7 : (w.alloc (.cells #[.int .u16 m, .int .u8 o, .int .u8 1, .int .u32 s, .slice (some ⟨gh, 0, none⟩) 1 1] 54)).cell? ⟨b, 7, none⟩ = some (.int .u32 x.number) := h1.cell 7
  have c15 : (w.alloc (.cells #[.int .u16 m, .int .u8 o, .int .u8 1, .int .u32 s, .slice (some ⟨gh, 0, none⟩) 1 1] 54)).cell? ⟨b, 15, none⟩ = some (.bool false) := by rw [← hm]; exact h1.cell 15
  have c18 : (w.alloc (.cells #[.int .u16 m, .int .u8 o, .int .u8 1, .int .u32 s, .slice (some ⟨gh, 0, none⟩) 1 1] 54)).cell? ⟨b, 18, none⟩ = some (.int .u8 o) := (h1.cell 18).trans (by show some (Value.int .u8 x.topts) = _; rw [ho])
  have hp := R1.lt
  have p0 : (w.alloc (.cells #[.int .u16 m, .int .u8 o, .int .u8 1, .int .u32 s, .slice (some ⟨gh, 0, none⟩) 1 1] 54)).cell? ⟨w.heap.size, 0, none⟩ = some (.int .u16 m) := R1.cell 0
  have p1 : (w.alloc (.cells #[.int .u16 m, .int .u8 o, .int .u8 1, .int .u32 s, .slice (some ⟨gh, 0, none⟩) 1 1] 54)).cell? ⟨w.heap.size, 1, none⟩ = some (.int .u8 o) := R1.cell 1
  have p2 : (w.alloc (.cells #[.int .u16 m, .int .u8 o, .int .u8 1, .int .u32 s, .slice (some ⟨gh, 0, none⟩) 1 1] 54)).cell? ⟨w.heap.size, 2, none⟩ = some (.int .u8 1) := R1.cell 2
  have p3 : (w.alloc (.cells #[.int .u16 m, .int .u8 o, .int .u8 1, .int .u32 s, .slice (some ⟨gh, 0, none⟩) 1 1] 54)).cell? ⟨w.heap.size, 3, none⟩ = some (.int .u32 s) := R1.cell 3
  have p4 : (w.alloc (.cells #[.int .u16 m, .int .u8 o, .int .u8 1, .int .u32 s, .slice (some ⟨gh, 0, none⟩) 1 1] 54)).cell? ⟨w.heap.size, 4, none⟩ = some (.slice (some ⟨gh, 0, none⟩) 1 1) := R1.cell 4
  have HT1 : Hid (Touch (fun _ => False) w (w.alloc (.cells #[.int .u16 m, .int .u8 o, .int .u8 1, .int .u32 s, .slice (some ⟨gh, 0, none⟩) 1 1] 54))) := T1
  clear h h1 ht hm ho hr T1 R1
  go_enter Try.func53, Try.ntmps53
  go_upto_region 1 with fail
  generalize w.alloc (.cells #[.int .u16 m, .int .u8 o, .int .u8 1, .int .u32 s, .slice (some ⟨gh, 0, none⟩) 1 1] 54) = wa at *
  generalize w.heap.size = gp at *
  go_upto_region 5 with fail
  have st := SnX.start wa
  have z1 := snX_cell p1
  have z2 := snX_cell p2
  have z3 := snX_cell p3
  have z4 := snX_cell p4
  have y15 := snX_cell c15
  have y18 := snX_cell c18
  clear p0 p1 p2 p3 p4 c7 c15 c18
  go_region_held3 (fun w' => SnX wa w') (with_reducible assumption) ((go_at_call 47; refine Calls.mono (HM.out _ (by with_reducible assumption)) ?_; rintro e wx ⟨rfl, tu⟩; have stx : SnX wa wx := SnX.trans (by with_reducible assumption) tu))
  go_wp2_with fail
  go_ret
  exact ⟨rfl, HT1.out.trans stx.t⟩
end Go.Proofs.Ytojlnabhaglejaa
