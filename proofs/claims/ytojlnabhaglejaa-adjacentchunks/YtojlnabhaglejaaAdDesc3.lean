
/- A description without heads is taken. -/
import Derived.Test.YtojlnabhaglejaaAdTk2
import Derived.Test.YtojlnabhaglejaaAdDesc2
namespace Go.Proofs.Ytojlnabhaglejaa
open Go.RowKit
set_option linter.unusedVariables false
set_option maxRecDepth 100000

set_option maxHeartbeats 4000000 in
theorem take_lead (w : World) (b : Nat) (x : AJ) (m o f s : Int) (Q : Value → World → Prop) (h : Ads w b x) (hm : x.master = true) (own : List HV) (ov : Value) (ho : HdsB (fun k => k ≠ b) w ov own) (hol : own.length ≤ 1000000) (hof : ∀ h ∈ own, h.Fine)
    (HQ : ∀ w3, Touch (fun k => k = b) w w3 → Ads w3 b { x with tflags := f, topts := o, tnum := s } → Calls Try.prog 67 #[.pointer (some ⟨b, 0, none⟩), .agg #[.int .u16 m, .int .u8 o, .int .u8 f, .int .u32 s, .slice none 0 0]] w3 fun e w' => ∃ v, e = .returned v ∧ Q v w') :
    Calls Try.prog 50 #[.pointer (some ⟨b, 0, none⟩), .agg #[.int .u16 m, .int .u8 o, .int .u8 f, .int .u32 s, .slice none 0 0], ov] w fun e w' => ∃ v, e = .returned v ∧ Q v w' := by
  have HQ' : Hid (∀ w3, Touch (fun k => k = b) w w3 → Ads w3 b { x with tflags := f, topts := o, tnum := s } → Calls Try.prog 67 #[.pointer (some ⟨b, 0, none⟩), .agg #[.int .u16 m, .int .u8 o, .int .u8 f, .int .u32 s, .slice none 0 0]] w3 fun e w' => ∃ v, e = .returned v ∧ Q v w') := HQ
  have HO : Hid (HdsB (fun k => k ≠ b) w ov own) := ho
  obtain ⟨oa, oc, rfl, -⟩ := ValsAt.form ho.at_
  have HA : Hid (Ads w b x) := h
  have hbw := h.lt
  have T0 : Touch (fun _ => False) w (w.alloc (.cells #[.int .u16 m, .int .u8 o, .int .u8 f, .int .u32 s, .slice none 0 0] 54)) := (Touch.refl _ _).alloc _
  have R0 : Row (w.alloc (.cells #[.int .u16 m, .int .u8 o, .int .u8 f, .int .u32 s, .slice none 0 0] 54)) w.heap.size 54 [.int .u16 m, .int .u8 o, .int .u8 f, .int .u32 s, .slice none 0 0] := row_new _ _ _
  obtain ⟨gp, hgp⟩ : ∃ g, w.heap.size = g := ⟨_, rfl⟩
  rw [hgp] at R0
  clear h HQ ho
  go_enter Try.func50, Try.ntmps50
  go_wp2_with fail
  generalize w.alloc (.cells #[.int .u16 m, .int .u8 o, .int .u8 f, .int .u32 s, .slice none 0 0] 54) = wa at *
  refine Calls.mono (markOf_any _ m o f s (.slice none 0 0)) ?_
  rintro e w1 ⟨rfl, t1⟩
  have HA1 := HA.out.keep (T0.trans t1)
  have R1 := R0.keep t1
  have T1 := T0.trans t1
  have c17 : w1.cell? ⟨b, 17, none⟩ = some (.int .u8 x.tflags) := HA1.cell 17
  have c18 : w1.cell? ⟨b, 18, none⟩ = some (.int .u8 x.topts) := HA1.cell 18
  have c19 : w1.cell? ⟨b, 19, none⟩ = some (.int .u32 x.tnum) := HA1.cell 19
  have hf := HA1.frozen
  have hb1 := HA1.lt
  have HA2 := ((HA1.set17 f).set18 o).set19 s
  have R2 : Row (((w1.setCell ⟨b, 17, none⟩ (.int .u8 f)).setCell ⟨b, 18, none⟩ (.int .u8 o)).setCell ⟨b, 19, none⟩ (.int .u32 s)) gp 54 [.int .u16 m, .int .u8 o, .int .u8 f, .int .u32 s, .slice none 0 0] := ((R1.other (by show gp ≠ b; omega) _).other (by show gp ≠ b; omega) _).other (by show gp ≠ b; omega) _
  have t2 : Touch (fun k => k = b) w1 (((w1.setCell ⟨b, 17, none⟩ (.int .u8 f)).setCell ⟨b, 18, none⟩ (.int .u8 o)).setCell ⟨b, 19, none⟩ (.int .u32 s)) := (((Touch.refl (fun k => k = b) w1).setCell (p := ⟨b, 17, none⟩) (Or.inl rfl) _).setCell (p := ⟨b, 18, none⟩) (Or.inl rfl) _).setCell (p := ⟨b, 19, none⟩) (Or.inl rfl) _
  have X2 : Hid (Ads (((w1.setCell ⟨b, 17, none⟩ (.int .u8 f)).setCell ⟨b, 18, none⟩ (.int .u8 o)).setCell ⟨b, 19, none⟩ (.int .u32 s)) b { x with tflags := f, topts := o, tnum := s } ∧ Touch (fun k => k = b) w (((w1.setCell ⟨b, 17, none⟩ (.int .u8 f)).setCell ⟨b, 18, none⟩ (.int .u8 o)).setCell ⟨b, 19, none⟩ (.int .u32 s))) := ⟨HA2, (T1.mono (fun _ _ f => f.elim)).trans t2⟩
  clear HA1 HA2 T0 T1 R0 t1 t2 R1
  go_wp2_with fail
  generalize (((w1.setCell ⟨b, 17, none⟩ (.int .u8 f)).setCell ⟨b, 18, none⟩ (.int .u8 o)).setCell ⟨b, 19, none⟩ (.int .u32 s)) = w2 at *
  clear c17 c18 c19 hf hb1
  have HBK := byKey_any w2 _ own (HO.out.touch X2.out.2 (fun h => h rfl)).at_ hol hof
  refine Calls.mono HBK ?_
  rintro e w3 ⟨mm, rfl, t3⟩
  have HA3 := X2.out.1.keep t3
  have T3 := X2.out.2.trans (t3.mono (fun _ _ f => f.elim))
  have R3 := R2.keep t3
  have p0 : w3.cell? ⟨gp, 0, none⟩ = some (.int .u16 m) := R3.cell 0
  have p1 : w3.cell? ⟨gp, 1, none⟩ = some (.int .u8 o) := R3.cell 1
  have p2 : w3.cell? ⟨gp, 2, none⟩ = some (.int .u8 f) := R3.cell 2
  have p3 : w3.cell? ⟨gp, 3, none⟩ = some (.int .u32 s) := R3.cell 3
  have p4 : w3.cell? ⟨gp, 4, none⟩ = some (.slice none 0 0) := R3.cell 4
  have c15 : w3.cell? ⟨b, 15, none⟩ = some (.bool true) := by rw [← hm]; exact HA3.cell 15
  have hb3 := HA3.lt
  have hp3 := R3.lt
  have HC := HQ'.out w3 T3 HA3
  clear X2 t3 HA3 T3 R2 R3 HBK HQ' HO hof
  go_wp2_with fail
  go_loopw [23] (fun i wr => i = .int .i64 0 ∧ wr = w3) (fun _ _ => 0)
  case atStart => exact ⟨rfl, rfl⟩
  case round =>
    obtain ⟨rfl, rfl⟩ := hrel
    go_wp2_with fail
    refine Calls.mono HC ?_
    rintro e w4 ⟨v, rfl, hq⟩
    clear p0 p1 p2 p3 p4 c15 hp3 HC
    go_wp2_with fail
    go_ret
    exact ⟨v, rfl, hq⟩
set_option maxHeartbeats 4000000 in
theorem take_follow (w : World) (b : Nat) (x : AJ) (m o f s : Int) (Q : Value → World → Prop) (h : Ads w b x) (hm : x.master = false) (own : List HV) (ov : Value) (ho : HdsB (fun k => k ≠ b) w ov own) (hol : own.length ≤ 1000000) (hof : ∀ h ∈ own, h.Fine)
    (HQ : ∀ w3, Touch (fun k => k = b) w w3 → Ads w3 b { x with tflags := f, topts := o, tnum := s } → Calls Try.prog 68 #[.pointer (some ⟨b, 0, none⟩), .agg #[.int .u16 m, .int .u8 o, .int .u8 f, .int .u32 s, .slice none 0 0]] w3 fun e w' => ∃ v, e = .returned v ∧ Q v w') :
    Calls Try.prog 50 #[.pointer (some ⟨b, 0, none⟩), .agg #[.int .u16 m, .int .u8 o, .int .u8 f, .int .u32 s, .slice none 0 0], ov] w fun e w' => ∃ v, e = .returned v ∧ Q v w' := by
  have HQ' : Hid (∀ w3, Touch (fun k => k = b) w w3 → Ads w3 b { x with tflags := f, topts := o, tnum := s } → Calls Try.prog 68 #[.pointer (some ⟨b, 0, none⟩), .agg #[.int .u16 m, .int .u8 o, .int .u8 f, .int .u32 s, .slice none 0 0]] w3 fun e w' => ∃ v, e = .returned v ∧ Q v w') := HQ
  have HO : Hid (HdsB (fun k => k ≠ b) w ov own) := ho
  obtain ⟨oa, oc, rfl, -⟩ := ValsAt.form ho.at_
  have HA : Hid (Ads w b x) := h
  have hbw := h.lt
  have T0 : Touch (fun _ => False) w (w.alloc (.cells #[.int .u16 m, .int .u8 o, .int .u8 f, .int .u32 s, .slice none 0 0] 54)) := (Touch.refl _ _).alloc _
  have R0 : Row (w.alloc (.cells #[.int .u16 m, .int .u8 o, .int .u8 f, .int .u32 s, .slice none 0 0] 54)) w.heap.size 54 [.int .u16 m, .int .u8 o, .int .u8 f, .int .u32 s, .slice none 0 0] := row_new _ _ _
  obtain ⟨gp, hgp⟩ : ∃ g, w.heap.size = g := ⟨_, rfl⟩
  rw [hgp] at R0
  clear h HQ ho
  go_enter Try.func50, Try.ntmps50
  go_wp2_with fail
  generalize w.alloc (.cells #[.int .u16 m, .int .u8 o, .int .u8 f, .int .u32 s, .slice none 0 0] 54) = wa at *
  refine Calls.mono (markOf_any _ m o f s (.slice none 0 0)) ?_
  rintro e w1 ⟨rfl, t1⟩
  have HA1 := HA.out.keep (T0.trans t1)
  have R1 := R0.keep t1
  have T1 := T0.trans t1
  have c17 : w1.cell? ⟨b, 17, none⟩ = some (.int .u8 x.tflags) := HA1.cell 17
  have c18 : w1.cell? ⟨b, 18, none⟩ = some (.int .u8 x.topts) := HA1.cell 18
  have c19 : w1.cell? ⟨b, 19, none⟩ = some (.int .u32 x.tnum) := HA1.cell 19
  have hf := HA1.frozen
  have hb1 := HA1.lt
  have HA2 := ((HA1.set17 f).set18 o).set19 s
  have R2 : Row (((w1.setCell ⟨b, 17, none⟩ (.int .u8 f)).setCell ⟨b, 18, none⟩ (.int .u8 o)).setCell ⟨b, 19, none⟩ (.int .u32 s)) gp 54 [.int .u16 m, .int .u8 o, .int .u8 f, .int .u32 s, .slice none 0 0] := ((R1.other (by show gp ≠ b; omega) _).other (by show gp ≠ b; omega) _).other (by show gp ≠ b; omega) _
  have t2 : Touch (fun k => k = b) w1 (((w1.setCell ⟨b, 17, none⟩ (.int .u8 f)).setCell ⟨b, 18, none⟩ (.int .u8 o)).setCell ⟨b, 19, none⟩ (.int .u32 s)) := (((Touch.refl (fun k => k = b) w1).setCell (p := ⟨b, 17, none⟩) (Or.inl rfl) _).setCell (p := ⟨b, 18, none⟩) (Or.inl rfl) _).setCell (p := ⟨b, 19, none⟩) (Or.inl rfl) _
  have X2 : Hid (Ads (((w1.setCell ⟨b, 17, none⟩ (.int .u8 f)).setCell ⟨b, 18, none⟩ (.int .u8 o)).setCell ⟨b, 19, none⟩ (.int .u32 s)) b { x with tflags := f, topts := o, tnum := s } ∧ Touch (fun k => k = b) w (((w1.setCell ⟨b, 17, none⟩ (.int .u8 f)).setCell ⟨b, 18, none⟩ (.int .u8 o)).setCell ⟨b, 19, none⟩ (.int .u32 s))) := ⟨HA2, (T1.mono (fun _ _ f => f.elim)).trans t2⟩
  clear HA1 HA2 T0 T1 R0 t1 t2 R1
  go_wp2_with fail
  generalize (((w1.setCell ⟨b, 17, none⟩ (.int .u8 f)).setCell ⟨b, 18, none⟩ (.int .u8 o)).setCell ⟨b, 19, none⟩ (.int .u32 s)) = w2 at *
  clear c17 c18 c19 hf hb1
  have HBK := byKey_any w2 _ own (HO.out.touch X2.out.2 (fun h => h rfl)).at_ hol hof
  refine Calls.mono HBK ?_
  rintro e w3 ⟨mm, rfl, t3⟩
  have HA3 := X2.out.1.keep t3
  have T3 := X2.out.2.trans (t3.mono (fun _ _ f => f.elim))
  have R3 := R2.keep t3
  have p0 : w3.cell? ⟨gp, 0, none⟩ = some (.int .u16 m) := R3.cell 0
  have p1 : w3.cell? ⟨gp, 1, none⟩ = some (.int .u8 o) := R3.cell 1
  have p2 : w3.cell? ⟨gp, 2, none⟩ = some (.int .u8 f) := R3.cell 2
  have p3 : w3.cell? ⟨gp, 3, none⟩ = some (.int .u32 s) := R3.cell 3
  have p4 : w3.cell? ⟨gp, 4, none⟩ = some (.slice none 0 0) := R3.cell 4
  have c15 : w3.cell? ⟨b, 15, none⟩ = some (.bool false) := by rw [← hm]; exact HA3.cell 15
  have hb3 := HA3.lt
  have hp3 := R3.lt
  have HC := HQ'.out w3 T3 HA3
  clear X2 t3 HA3 T3 R2 R3 HBK HQ' HO hof
  go_wp2_with fail
  go_loopw [23] (fun i wr => i = .int .i64 0 ∧ wr = w3) (fun _ _ => 0)
  case atStart => exact ⟨rfl, rfl⟩
  case round =>
    obtain ⟨rfl, rfl⟩ := hrel
    go_wp2_with fail
    refine Calls.mono HC ?_
    rintro e w4 ⟨v, rfl, hq⟩
    clear p0 p1 p2 p3 p4 c15 hp3 HC
    go_wp2_with fail
    go_ret
    exact ⟨v, rfl, hq⟩
set_option maxHeartbeats 4000000 in
theorem fits_master (w : World) (b : Nat) (x : AJ) (m o s : Int) (h : Ads w b x) (hm : x.master = true) (ho : x.topts = o) (hs : x.number = s) : Calls Try.prog 53 #[.pointer (some ⟨b, 0, none⟩), .agg #[.int .u16 m, .int .u8 o, .int .u8 0, .int .u32 s, .slice none 0 0]] w fun e w' => e = .returned (.bool true) ∧ Touch (fun _ => False) w w' := by
  have T1 : Touch (fun _ => False) w (w.alloc (.cells #[.int .u16 m, .int .u8 o, .int .u8 0, .int .u32 s, .slice none 0 0] 54)) := (Touch.refl _ _).alloc _
  have R1 : Row (w.alloc (.cells #[.int .u16 m, .int .u8 o, .int .u8 0, .int .u32 s, .slice none 0 0] 54)) w.heap.size 54 [.int .u16 m, .int .u8 o, .int .u8 0, .int .u32 s, .slice none 0 0] := row_new _ _ _
  have h1 := h.keep T1
  have hb := h1.lt
  have c7 : (w.alloc (.cells #[.int .u16 m, .int .u8 o, .int .u8 0, .int .u32 s, .slice none 0 0] 54)).cell? ⟨b, 7, none⟩ = some (.int .u32 s) := (h1.cell 7).trans (by show some (Value.int .u32 x.number) = _; rw [hs])
  have c15 : (w.alloc (.cells #[.int .u16 m, .int .u8 o, .int .u8 0, .int .u32 s, .slice none 0 0] 54)).cell? ⟨b, 15, none⟩ = some (.bool true) := by rw [← hm]; exact h1.cell 15
  have c18 : (w.alloc (.cells #[.int .u16 m, .int .u8 o, .int .u8 0, .int .u32 s, .slice none 0 0] 54)).cell? ⟨b, 18, none⟩ = some (.int .u8 o) := (h1.cell 18).trans (by show some (Value.int .u8 x.topts) = _; rw [ho])
  have hp := R1.lt
  have p0 : (w.alloc (.cells #[.int .u16 m, .int .u8 o, .int .u8 0, .int .u32 s, .slice none 0 0] 54)).cell? ⟨w.heap.size, 0, none⟩ = some (.int .u16 m) := R1.cell 0
  have p1 : (w.alloc (.cells #[.int .u16 m, .int .u8 o, .int .u8 0, .int .u32 s, .slice none 0 0] 54)).cell? ⟨w.heap.size, 1, none⟩ = some (.int .u8 o) := R1.cell 1
  have p2 : (w.alloc (.cells #[.int .u16 m, .int .u8 o, .int .u8 0, .int .u32 s, .slice none 0 0] 54)).cell? ⟨w.heap.size, 2, none⟩ = some (.int .u8 0) := R1.cell 2
  have p3 : (w.alloc (.cells #[.int .u16 m, .int .u8 o, .int .u8 0, .int .u32 s, .slice none 0 0] 54)).cell? ⟨w.heap.size, 3, none⟩ = some (.int .u32 s) := R1.cell 3
  have p4 : (w.alloc (.cells #[.int .u16 m, .int .u8 o, .int .u8 0, .int .u32 s, .slice none 0 0] 54)).cell? ⟨w.heap.size, 4, none⟩ = some (.slice none 0 0) := R1.cell 4
  have HT1 : Hid (Touch (fun _ => False) w (w.alloc (.cells #[.int .u16 m, .int .u8 o, .int .u8 0, .int .u32 s, .slice none 0 0] 54))) := T1
  clear h h1 hm ho T1 R1 hs
  go_enter Try.func53, Try.ntmps53
  go_upto_region 1 with fail
  generalize (w.alloc (.cells #[.int .u16 m, .int .u8 o, .int .u8 0, .int .u32 s, .slice none 0 0] 54)) = wa at *
  generalize w.heap.size = gp at *
  go_upto_region 5 with fail
  have st := SnX.start wa
  have z1 := snX_cell p1
  have z2 := snX_cell p2
  have z3 := snX_cell p3
  have z4 := snX_cell p4
  have y15 := snX_cell c15
  have y18 := snX_cell c18
  clear p0 p1 p2 p3 p4 c7 c15 c18
  go_region_held3 (fun w' => SnX wa w') (with_reducible assumption) ((go_at_call 47; refine Calls.mono (mayBe_nil _ b) ?_; rintro e wx ⟨rfl, tu⟩; have stx : SnX wa wx := SnX.trans (by with_reducible assumption) tu))
  go_wp2_with fail
  go_ret
  exact ⟨rfl, HT1.out.trans stx.t⟩
set_option maxHeartbeats 4000000 in
theorem fits_slave (w : World) (b : Nat) (x : AJ) (m o s : Int) (h : Ads w b x) (hm : x.master = false) (ho : x.topts = o) (hs : IntKind.u32.wrap (x.number + 1) = s) : Calls Try.prog 53 #[.pointer (some ⟨b, 0, none⟩), .agg #[.int .u16 m, .int .u8 o, .int .u8 1, .int .u32 s, .slice none 0 0]] w fun e w' => e = .returned (.bool true) ∧ Touch (fun _ => False) w w' := by
  have T1 : Touch (fun _ => False) w (w.alloc (.cells #[.int .u16 m, .int .u8 o, .int .u8 1, .int .u32 s, .slice none 0 0] 54)) := (Touch.refl _ _).alloc _
  have R1 : Row (w.alloc (.cells #[.int .u16 m, .int .u8 o, .int .u8 1, .int .u32 s, .slice none 0 0] 54)) w.heap.size 54 [.int .u16 m, .int .u8 o, .int .u8 1, .int .u32 s, .slice none 0 0] := row_new _ _ _
  have h1 := h.keep T1
  have hb := h1.lt
  have c7 : (w.alloc (.cells #[.int .u16 m, .int .u8 o, .int .u8 1, .int .u32 s, .slice none 0 0] 54)).cell? ⟨b, 7, none⟩ = some (.int .u32 x.number) := h1.cell 7
  have c15 : (w.alloc (.cells #[.int .u16 m, .int .u8 o, .int .u8 1, .int .u32 s, .slice none 0 0] 54)).cell? ⟨b, 15, none⟩ = some (.bool false) := by rw [← hm]; exact h1.cell 15
  have c18 : (w.alloc (.cells #[.int .u16 m, .int .u8 o, .int .u8 1, .int .u32 s, .slice none 0 0] 54)).cell? ⟨b, 18, none⟩ = some (.int .u8 o) := (h1.cell 18).trans (by show some (Value.int .u8 x.topts) = _; rw [ho])
  have hp := R1.lt
  have p0 : (w.alloc (.cells #[.int .u16 m, .int .u8 o, .int .u8 1, .int .u32 s, .slice none 0 0] 54)).cell? ⟨w.heap.size, 0, none⟩ = some (.int .u16 m) := R1.cell 0
  have p1 : (w.alloc (.cells #[.int .u16 m, .int .u8 o, .int .u8 1, .int .u32 s, .slice none 0 0] 54)).cell? ⟨w.heap.size, 1, none⟩ = some (.int .u8 o) := R1.cell 1
  have p2 : (w.alloc (.cells #[.int .u16 m, .int .u8 o, .int .u8 1, .int .u32 s, .slice none 0 0] 54)).cell? ⟨w.heap.size, 2, none⟩ = some (.int .u8 1) := R1.cell 2
  have p3 : (w.alloc (.cells #[.int .u16 m, .int .u8 o, .int .u8 1, .int .u32 s, .slice none 0 0] 54)).cell? ⟨w.heap.size, 3, none⟩ = some (.int .u32 s) := R1.cell 3
  have p4 : (w.alloc (.cells #[.int .u16 m, .int .u8 o, .int .u8 1, .int .u32 s, .slice none 0 0] 54)).cell? ⟨w.heap.size, 4, none⟩ = some (.slice none 0 0) := R1.cell 4
  have HT1 : Hid (Touch (fun _ => False) w (w.alloc (.cells #[.int .u16 m, .int .u8 o, .int .u8 1, .int .u32 s, .slice none 0 0] 54))) := T1
  clear h h1 hm ho T1 R1
  go_enter Try.func53, Try.ntmps53
  go_upto_region 1 with fail
  generalize (w.alloc (.cells #[.int .u16 m, .int .u8 o, .int .u8 1, .int .u32 s, .slice none 0 0] 54)) = wa at *
  generalize w.heap.size = gp at *
  go_upto_region 5 with fail
  have st := SnX.start wa
  have z1 := snX_cell p1
  have z2 := snX_cell p2
  have z3 := snX_cell p3
  have z4 := snX_cell p4
  have y15 := snX_cell c15
  have y18 := snX_cell c18
  clear p0 p1 p2 p3 p4 c7 c15 c18
  go_region_held3 (fun w' => SnX wa w') (with_reducible assumption) ((go_at_call 47; refine Calls.mono (mayBe_nil _ b) ?_; rintro e wx ⟨rfl, tu⟩; have stx : SnX wa wx := SnX.trans (by with_reducible assumption) tu))
  go_wp2_with fail
  go_ret
  exact ⟨rfl, HT1.out.trans stx.t⟩
set_option maxHeartbeats 4000000 in
theorem exchange_gen (w : World) (b : Nat) (m o f s : Int) (ov : Value) (oa : Option Addr) (on oc : Nat) (hov : ov = .slice oa on oc) (Q : Value → World → Prop)
    (HF : ∀ w1, Touch (fun _ => False) w w1 → Calls Try.prog 53 #[.pointer (some ⟨b, 0, none⟩), .agg #[.int .u16 m, .int .u8 o, .int .u8 f, .int .u32 s, .slice none 0 0]] w1 fun e w' => e = .returned (.bool true) ∧ Touch (fun _ => False) w1 w')
    (HQ : ∀ w1, Touch (fun _ => False) w w1 → Calls Try.prog 50 #[.pointer (some ⟨b, 0, none⟩), .agg #[.int .u16 m, .int .u8 o, .int .u8 f, .int .u32 s, .slice none 0 0], ov] w1 fun e w' => ∃ v, e = .returned v ∧ Q v w') :
    Calls Try.prog 40 #[.pointer (some ⟨b, 0, none⟩), .agg #[.int .u16 m, .int .u8 o, .int .u8 f, .int .u32 s, .slice none 0 0], ov] w fun e w' => ∃ v, e = .returned (.tuple #[v, .int .i64 0]) ∧ Q v w' := by
  subst hov
  have T1 : Touch (fun _ => False) w (w.alloc (.cells #[.int .u16 m, .int .u8 o, .int .u8 f, .int .u32 s, .slice none 0 0] 54)) := (Touch.refl _ _).alloc _
  have R1 : Row (w.alloc (.cells #[.int .u16 m, .int .u8 o, .int .u8 f, .int .u32 s, .slice none 0 0] 54)) w.heap.size 54 [.int .u16 m, .int .u8 o, .int .u8 f, .int .u32 s, .slice none 0 0] := row_new _ _ _
  have HF1 := HF _ T1
  have HQ' : Hid (∀ w1, Touch (fun _ => False) w w1 → Calls Try.prog 50 #[.pointer (some ⟨b, 0, none⟩), .agg #[.int .u16 m, .int .u8 o, .int .u8 f, .int .u32 s, .slice none 0 0], .slice oa on oc] w1 fun e w' => ∃ v, e = .returned v ∧ Q v w') := HQ
  clear HF HQ
  go_enter Try.func40, Try.ntmps40
  go_wp2_with fail
  generalize (w.alloc (.cells #[.int .u16 m, .int .u8 o, .int .u8 f, .int .u32 s, .slice none 0 0] 54)) = wa at *
  generalize w.heap.size = gp at *
  refine Calls.mono HF1 ?_
  rintro e w1 ⟨rfl, t1⟩
  have R2 := R1.keep t1
  have p0 : w1.cell? ⟨gp, 0, none⟩ = some (.int .u16 m) := R2.cell 0
  have p1 : w1.cell? ⟨gp, 1, none⟩ = some (.int .u8 o) := R2.cell 1
  have p2 : w1.cell? ⟨gp, 2, none⟩ = some (.int .u8 f) := R2.cell 2
  have p3 : w1.cell? ⟨gp, 3, none⟩ = some (.int .u32 s) := R2.cell 3
  have p4 : w1.cell? ⟨gp, 4, none⟩ = some (.slice none 0 0) := R2.cell 4
  have hp2 := R2.lt
  have HC := HQ'.out w1 (T1.trans t1)
  clear HF1 HQ' R1 R2 t1 T1
  go_wp2_with fail
  refine Calls.mono HC ?_
  rintro e w2 ⟨v, rfl, hq⟩
  clear p0 p1 p2 p3 p4 hp2 HC
  go_wp2_with fail
  refine bodyPost_ret (v := .tuple #[v, .int .i64 0]) (by simp [results, Try.results40, go_sem]) rfl ⟨v, rfl, hq⟩
set_option maxHeartbeats 4000000 in
theorem describe_start (w : World) (b : Nat) (x : AJ) (m o f s : Int) (ov : Value) (oa : Option Addr) (on oc : Nat) (hov : ov = .slice oa on oc) (Q : Value → World → Prop) (h : Ads w b x) (hself : ¬ x.self = 0) (hst : x.state = 0) (hmtu : x.mtu = 0)
    (HQ : ∀ w1, Touch (fun _ => False) w w1 → Calls Try.prog 36 #[.pointer (some ⟨b, 0, none⟩), .agg #[.int .u16 m, .int .u8 o, .int .u8 f, .int .u32 s, .slice none 0 0], ov] w1 fun e w' => ∃ v, e = .returned (.tuple #[v, .int .i64 0]) ∧ Q v w') :
    Calls Try.prog 16 #[.pointer (some ⟨b, 0, none⟩), .agg #[.int .u16 m, .int .u8 o, .int .u8 f, .int .u32 s, .slice none 0 0], ov] w fun e w' => ∃ v, e = .returned (.tuple #[v, .int .i64 0]) ∧ Q v w' := by
  subst hov
  have T1 : Touch (fun _ => False) w (w.alloc (.cells #[.int .u16 m, .int .u8 o, .int .u8 f, .int .u32 s, .slice none 0 0] 54)) := (Touch.refl _ _).alloc _
  have R1 : Row (w.alloc (.cells #[.int .u16 m, .int .u8 o, .int .u8 f, .int .u32 s, .slice none 0 0] 54)) w.heap.size 54 [.int .u16 m, .int .u8 o, .int .u8 f, .int .u32 s, .slice none 0 0] := row_new _ _ _
  have HA : Hid (Ads (w.alloc (.cells #[.int .u16 m, .int .u8 o, .int .u8 f, .int .u32 s, .slice none 0 0] 54)) b x ∧ Touch (fun _ => False) w (w.alloc (.cells #[.int .u16 m, .int .u8 o, .int .u8 f, .int .u32 s, .slice none 0 0] 54)) ∧ Row (w.alloc (.cells #[.int .u16 m, .int .u8 o, .int .u8 f, .int .u32 s, .slice none 0 0] 54)) w.heap.size 54 [.int .u16 m, .int .u8 o, .int .u8 f, .int .u32 s, .slice none 0 0]) := ⟨h.keep T1, T1, R1⟩
  have HQ' : Hid (∀ w1, Touch (fun _ => False) w w1 → Calls Try.prog 36 #[.pointer (some ⟨b, 0, none⟩), .agg #[.int .u16 m, .int .u8 o, .int .u8 f, .int .u32 s, .slice none 0 0], .slice oa on oc] w1 fun e w' => ∃ v, e = .returned (.tuple #[v, .int .i64 0]) ∧ Q v w') := HQ
  clear h T1 R1 HQ
  go_enter Try.func16, Try.ntmps16
  go_wp2_with fail
  generalize (w.alloc (.cells #[.int .u16 m, .int .u8 o, .int .u8 f, .int .u32 s, .slice none 0 0] 54)) = wa at *
  obtain ⟨gp, hgp⟩ : ∃ g, w.heap.size = g := ⟨_, rfl⟩
  rw [hgp] at HA ⊢
  clear hgp
  obtain ⟨h1, T1, R1⟩ := HA.out
  refine Calls.mono (made_yes wa b x h1 hself) ?_
  rintro e w1 ⟨rfl, rfl⟩
  have c2 : wa.cell? ⟨b, 2, none⟩ = some (.int .u16 0) := (h1.cell 2).trans (by show some (Value.int .u16 x.mtu) = _; rw [hmtu])
  have hb1 := h1.lt
  have p0 : wa.cell? ⟨gp, 0, none⟩ = some (.int .u16 m) := R1.cell 0
  have p1 : wa.cell? ⟨gp, 1, none⟩ = some (.int .u8 o) := R1.cell 1
  have p2 : wa.cell? ⟨gp, 2, none⟩ = some (.int .u8 f) := R1.cell 2
  have p3 : wa.cell? ⟨gp, 3, none⟩ = some (.int .u32 s) := R1.cell 3
  have p4 : wa.cell? ⟨gp, 4, none⟩ = some (.slice none 0 0) := R1.cell 4
  have hp1 := R1.lt
  go_wp2_with fail
  go_region
  go_upto_region 5 with fail
  have hfl : ∀ w, (Instr.field 79 (.agg #[.func (.func 36) #[.pointer (some ⟨b, 0, none⟩)] #[], .func (.func 37) #[.pointer (some ⟨b, 0, none⟩)] #[], .func (.func 38) #[.pointer (some ⟨b, 0, none⟩)] #[], .func (.func 39) #[.pointer (some ⟨b, 0, none⟩)] #[]]) 0).run Try.prog w = .ok (.func (.func 36) #[.pointer (some ⟨b, 0, none⟩)] #[]) w := fun _ => rfl
  have HTN := turn_start wa.drew.drew b x h1.drew.drew hst
  have HCL : Hid (∀ w1, Touch (fun _ => False) wa.drew.drew w1 → Calls Try.prog 36 #[.pointer (some ⟨b, 0, none⟩), .agg #[.int .u16 m, .int .u8 o, .int .u8 f, .int .u32 s, .slice none 0 0], .slice oa on oc] w1 fun e w' => ∃ v, e = .returned (.tuple #[v, .int .i64 0]) ∧ Q v w') := fun w1 t => HQ'.out w1 (T1.drew.drew.trans t)
  clear HA h1 T1 R1 c2 HQ'
  go_region_with (first | (go_at_call 28; refine Calls.mono HTN ?_; rintro e w1 ⟨rfl, t1⟩; have z0 := t1.cellN p0; have z1 := t1.cellN p1; have z2 := t1.cellN p2; have z3 := t1.cellN p3; have z4 := t1.cellN p4; have hz := lt_of_cell z0) | (go_at_call 36; refine Calls.mono (HCL.out _ t1) ?_; rintro e w2 ⟨v, rfl, hq⟩))
  all_goals
    clear p0 p1 p2 p3 p4 z0 z1 z2 z3 z4 hz HCL HTN
    go_wp2_with fail
    refine bodyPost_ret (v := .tuple #[v, .int .i64 0]) (by simp [results, Try.results16, go_sem]) rfl ⟨v, rfl, hq⟩
set_option maxHeartbeats 4000000 in
theorem describe_master (w : World) (b : Nat) (x : AJ) (m o f s : Int) (ov : Value) (oa : Option Addr) (on oc : Nat) (hov : ov = .slice oa on oc) (Q : Value → World → Prop) (h : Ads w b x) (hself : ¬ x.self = 0) (hst : x.state = 1) (hm : x.master = true) (hmtu : x.mtu = 0)
    (HQ : ∀ w1, Touch (fun _ => False) w w1 → Calls Try.prog 40 #[.pointer (some ⟨b, 0, none⟩), .agg #[.int .u16 m, .int .u8 o, .int .u8 f, .int .u32 s, .slice none 0 0], ov] w1 fun e w' => ∃ v, e = .returned (.tuple #[v, .int .i64 0]) ∧ Q v w') :
    Calls Try.prog 16 #[.pointer (some ⟨b, 0, none⟩), .agg #[.int .u16 m, .int .u8 o, .int .u8 f, .int .u32 s, .slice none 0 0], ov] w fun e w' => ∃ v, e = .returned (.tuple #[v, .int .i64 0]) ∧ Q v w' := by
  subst hov
  have T1 : Touch (fun _ => False) w (w.alloc (.cells #[.int .u16 m, .int .u8 o, .int .u8 f, .int .u32 s, .slice none 0 0] 54)) := (Touch.refl _ _).alloc _
  have R1 : Row (w.alloc (.cells #[.int .u16 m, .int .u8 o, .int .u8 f, .int .u32 s, .slice none 0 0] 54)) w.heap.size 54 [.int .u16 m, .int .u8 o, .int .u8 f, .int .u32 s, .slice none 0 0] := row_new _ _ _
  have HA : Hid (Ads (w.alloc (.cells #[.int .u16 m, .int .u8 o, .int .u8 f, .int .u32 s, .slice none 0 0] 54)) b x ∧ Touch (fun _ => False) w (w.alloc (.cells #[.int .u16 m, .int .u8 o, .int .u8 f, .int .u32 s, .slice none 0 0] 54)) ∧ Row (w.alloc (.cells #[.int .u16 m, .int .u8 o, .int .u8 f, .int .u32 s, .slice none 0 0] 54)) w.heap.size 54 [.int .u16 m, .int .u8 o, .int .u8 f, .int .u32 s, .slice none 0 0]) := ⟨h.keep T1, T1, R1⟩
  have HQ' : Hid (∀ w1, Touch (fun _ => False) w w1 → Calls Try.prog 40 #[.pointer (some ⟨b, 0, none⟩), .agg #[.int .u16 m, .int .u8 o, .int .u8 f, .int .u32 s, .slice none 0 0], .slice oa on oc] w1 fun e w' => ∃ v, e = .returned (.tuple #[v, .int .i64 0]) ∧ Q v w') := HQ
  clear h T1 R1 HQ
  go_enter Try.func16, Try.ntmps16
  go_wp2_with fail
  generalize (w.alloc (.cells #[.int .u16 m, .int .u8 o, .int .u8 f, .int .u32 s, .slice none 0 0] 54)) = wa at *
  obtain ⟨gp, hgp⟩ : ∃ g, w.heap.size = g := ⟨_, rfl⟩
  rw [hgp] at HA ⊢
  clear hgp
  obtain ⟨h1, T1, R1⟩ := HA.out
  refine Calls.mono (made_yes wa b x h1 hself) ?_
  rintro e w1 ⟨rfl, rfl⟩
  have c2 : wa.cell? ⟨b, 2, none⟩ = some (.int .u16 0) := (h1.cell 2).trans (by show some (Value.int .u16 x.mtu) = _; rw [hmtu])
  have hb1 := h1.lt
  have p0 : wa.cell? ⟨gp, 0, none⟩ = some (.int .u16 m) := R1.cell 0
  have p1 : wa.cell? ⟨gp, 1, none⟩ = some (.int .u8 o) := R1.cell 1
  have p2 : wa.cell? ⟨gp, 2, none⟩ = some (.int .u8 f) := R1.cell 2
  have p3 : wa.cell? ⟨gp, 3, none⟩ = some (.int .u32 s) := R1.cell 3
  have p4 : wa.cell? ⟨gp, 4, none⟩ = some (.slice none 0 0) := R1.cell 4
  have hp1 := R1.lt
  go_wp2_with fail
  go_region
  go_upto_region 5 with fail
  have hfl : ∀ w, (Instr.field 79 (.agg #[.func (.func 40) #[.pointer (some ⟨b, 0, none⟩)] #[], .func (.func 41) #[.pointer (some ⟨b, 0, none⟩)] #[], .func (.func 38) #[.pointer (some ⟨b, 0, none⟩)] #[], .func (.func 39) #[.pointer (some ⟨b, 0, none⟩)] #[]]) 0).run Try.prog w = .ok (.func (.func 40) #[.pointer (some ⟨b, 0, none⟩)] #[]) w := fun _ => rfl
  have HTN := turn_master wa.drew.drew b x h1.drew.drew hst hm
  have HCL : Hid (∀ w1, Touch (fun _ => False) wa.drew.drew w1 → Calls Try.prog 40 #[.pointer (some ⟨b, 0, none⟩), .agg #[.int .u16 m, .int .u8 o, .int .u8 f, .int .u32 s, .slice none 0 0], .slice oa on oc] w1 fun e w' => ∃ v, e = .returned (.tuple #[v, .int .i64 0]) ∧ Q v w') := fun w1 t => HQ'.out w1 (T1.drew.drew.trans t)
  clear HA h1 T1 R1 c2 HQ'
  go_region_with (first | (go_at_call 28; refine Calls.mono HTN ?_; rintro e w1 ⟨rfl, t1⟩; have z0 := t1.cellN p0; have z1 := t1.cellN p1; have z2 := t1.cellN p2; have z3 := t1.cellN p3; have z4 := t1.cellN p4; have hz := lt_of_cell z0) | (go_at_call 40; refine Calls.mono (HCL.out _ t1) ?_; rintro e w2 ⟨v, rfl, hq⟩))
  all_goals
    clear p0 p1 p2 p3 p4 z0 z1 z2 z3 z4 hz HCL HTN
    go_wp2_with fail
    refine bodyPost_ret (v := .tuple #[v, .int .i64 0]) (by simp [results, Try.results16, go_sem]) rfl ⟨v, rfl, hq⟩
set_option maxHeartbeats 4000000 in
theorem describe_slave (w : World) (b : Nat) (x : AJ) (m o f s : Int) (ov : Value) (oa : Option Addr) (on oc : Nat) (hov : ov = .slice oa on oc) (Q : Value → World → Prop) (h : Ads w b x) (hself : ¬ x.self = 0) (hst : x.state = 1) (hm : x.master = false) (hmtu : x.mtu = 0)
    (HQ : ∀ w1, Touch (fun _ => False) w w1 → Calls Try.prog 40 #[.pointer (some ⟨b, 0, none⟩), .agg #[.int .u16 m, .int .u8 o, .int .u8 f, .int .u32 s, .slice none 0 0], ov] w1 fun e w' => ∃ v, e = .returned (.tuple #[v, .int .i64 0]) ∧ Q v w') :
    Calls Try.prog 16 #[.pointer (some ⟨b, 0, none⟩), .agg #[.int .u16 m, .int .u8 o, .int .u8 f, .int .u32 s, .slice none 0 0], ov] w fun e w' => ∃ v, e = .returned (.tuple #[v, .int .i64 0]) ∧ Q v w' := by
  subst hov
  have T1 : Touch (fun _ => False) w (w.alloc (.cells #[.int .u16 m, .int .u8 o, .int .u8 f, .int .u32 s, .slice none 0 0] 54)) := (Touch.refl _ _).alloc _
  have R1 : Row (w.alloc (.cells #[.int .u16 m, .int .u8 o, .int .u8 f, .int .u32 s, .slice none 0 0] 54)) w.heap.size 54 [.int .u16 m, .int .u8 o, .int .u8 f, .int .u32 s, .slice none 0 0] := row_new _ _ _
  have HA : Hid (Ads (w.alloc (.cells #[.int .u16 m, .int .u8 o, .int .u8 f, .int .u32 s, .slice none 0 0] 54)) b x ∧ Touch (fun _ => False) w (w.alloc (.cells #[.int .u16 m, .int .u8 o, .int .u8 f, .int .u32 s, .slice none 0 0] 54)) ∧ Row (w.alloc (.cells #[.int .u16 m, .int .u8 o, .int .u8 f, .int .u32 s, .slice none 0 0] 54)) w.heap.size 54 [.int .u16 m, .int .u8 o, .int .u8 f, .int .u32 s, .slice none 0 0]) := ⟨h.keep T1, T1, R1⟩
  have HQ' : Hid (∀ w1, Touch (fun _ => False) w w1 → Calls Try.prog 40 #[.pointer (some ⟨b, 0, none⟩), .agg #[.int .u16 m, .int .u8 o, .int .u8 f, .int .u32 s, .slice none 0 0], .slice oa on oc] w1 fun e w' => ∃ v, e = .returned (.tuple #[v, .int .i64 0]) ∧ Q v w') := HQ
  clear h T1 R1 HQ
  go_enter Try.func16, Try.ntmps16
  go_wp2_with fail
  generalize (w.alloc (.cells #[.int .u16 m, .int .u8 o, .int .u8 f, .int .u32 s, .slice none 0 0] 54)) = wa at *
  obtain ⟨gp, hgp⟩ : ∃ g, w.heap.size = g := ⟨_, rfl⟩
  rw [hgp] at HA ⊢
  clear hgp
  obtain ⟨h1, T1, R1⟩ := HA.out
  refine Calls.mono (made_yes wa b x h1 hself) ?_
  rintro e w1 ⟨rfl, rfl⟩
  have c2 : wa.cell? ⟨b, 2, none⟩ = some (.int .u16 0) := (h1.cell 2).trans (by show some (Value.int .u16 x.mtu) = _; rw [hmtu])
  have hb1 := h1.lt
  have p0 : wa.cell? ⟨gp, 0, none⟩ = some (.int .u16 m) := R1.cell 0
  have p1 : wa.cell? ⟨gp, 1, none⟩ = some (.int .u8 o) := R1.cell 1
  have p2 : wa.cell? ⟨gp, 2, none⟩ = some (.int .u8 f) := R1.cell 2
  have p3 : wa.cell? ⟨gp, 3, none⟩ = some (.int .u32 s) := R1.cell 3
  have p4 : wa.cell? ⟨gp, 4, none⟩ = some (.slice none 0 0) := R1.cell 4
  have hp1 := R1.lt
  go_wp2_with fail
  go_region
  go_upto_region 5 with fail
  have hfl : ∀ w, (Instr.field 79 (.agg #[.func (.func 40) #[.pointer (some ⟨b, 0, none⟩)] #[], .func (.func 41) #[.pointer (some ⟨b, 0, none⟩)] #[], .func (.func 38) #[.pointer (some ⟨b, 0, none⟩)] #[], .nilFunc]) 0).run Try.prog w = .ok (.func (.func 40) #[.pointer (some ⟨b, 0, none⟩)] #[]) w := fun _ => rfl
  have HTN := turn_slave wa.drew.drew b x h1.drew.drew hst hm
  have HCL : Hid (∀ w1, Touch (fun _ => False) wa.drew.drew w1 → Calls Try.prog 40 #[.pointer (some ⟨b, 0, none⟩), .agg #[.int .u16 m, .int .u8 o, .int .u8 f, .int .u32 s, .slice none 0 0], .slice oa on oc] w1 fun e w' => ∃ v, e = .returned (.tuple #[v, .int .i64 0]) ∧ Q v w') := fun w1 t => HQ'.out w1 (T1.drew.drew.trans t)
  clear HA h1 T1 R1 c2 HQ'
  go_region_with (first | (go_at_call 28; refine Calls.mono HTN ?_; rintro e w1 ⟨rfl, t1⟩; have z0 := t1.cellN p0; have z1 := t1.cellN p1; have z2 := t1.cellN p2; have z3 := t1.cellN p3; have z4 := t1.cellN p4; have hz := lt_of_cell z0) | (go_at_call 40; refine Calls.mono (HCL.out _ t1) ?_; rintro e w2 ⟨v, rfl, hq⟩))
  all_goals
    clear p0 p1 p2 p3 p4 z0 z1 z2 z3 z4 hz HCL HTN
    go_wp2_with fail
    refine bodyPost_ret (v := .tuple #[v, .int .i64 0]) (by simp [results, Try.results16, go_sem]) rfl ⟨v, rfl, hq⟩
set_option maxHeartbeats 4000000 in
theorem meet_lead (w : World) (b : Nat) (x : AJ) (m o s : Int) (Q : Value → World → Prop) (G : Nat → Prop) (hG : ¬ G b) (hG0 : ∀ k, w.heap.size ≤ k → G k) (h : Ads w b x) (hlt : x.other < x.self) (hs : x.number = s) (own : List HV) (ov : Value) (ho : HdsB (fun k => k ≠ b) w ov own) (hol : own.length ≤ 1000000) (hof : ∀ h ∈ own, h.Fine)
    (HQ : ∀ w6 u, Touch (fun k => k = b) w w6 → Ads w6 b { x with state := 1, master := true, left := u } → HdsB G w6 u own → Calls Try.prog 50 #[.pointer (some ⟨b, 0, none⟩), .agg #[.int .u16 m, .int .u8 o, .int .u8 0, .int .u32 s, .slice none 0 0], ov] w6 fun e w' => ∃ v, e = .returned v ∧ Q v w') :
    Calls Try.prog 36 #[.pointer (some ⟨b, 0, none⟩), .agg #[.int .u16 m, .int .u8 o, .int .u8 0, .int .u32 s, .slice none 0 0], ov] w fun e w' => ∃ v, e = .returned (.tuple #[v, .int .i64 0]) ∧ Q v w' := by
  have T1 : Touch (fun _ => False) w (w.alloc (.cells #[.int .u16 m, .int .u8 o, .int .u8 0, .int .u32 s, .slice none 0 0] 54)) := (Touch.refl _ _).alloc _
  have R1 : Row (w.alloc (.cells #[.int .u16 m, .int .u8 o, .int .u8 0, .int .u32 s, .slice none 0 0] 54)) w.heap.size 54 [.int .u16 m, .int .u8 o, .int .u8 0, .int .u32 s, .slice none 0 0] := row_new _ _ _
  have HO : Hid (HdsB (fun k => k ≠ b) w ov own) := ho
  obtain ⟨oa, oc, rfl, -⟩ := ValsAt.form ho.at_
  have HQ' : Hid (∀ w6 u, Touch (fun k => k = b) w w6 → Ads w6 b { x with state := 1, master := true, left := u } → HdsB G w6 u own → Calls Try.prog 50 #[.pointer (some ⟨b, 0, none⟩), .agg #[.int .u16 m, .int .u8 o, .int .u8 0, .int .u32 s, .slice none 0 0], .slice oa own.length oc] w6 fun e w' => ∃ v, e = .returned v ∧ Q v w') := HQ
  have h1 := h.keep T1
  have hb := h1.lt
  have hp := R1.lt
  have hbw := h.lt
  have HBW : Hid (b < w.heap.size) := hbw
  have HA : Hid (Ads (w.alloc (.cells #[.int .u16 m, .int .u8 o, .int .u8 0, .int .u32 s, .slice none 0 0] 54)) b x ∧ Touch (fun _ => False) w (w.alloc (.cells #[.int .u16 m, .int .u8 o, .int .u8 0, .int .u32 s, .slice none 0 0] 54)) ∧ Row (w.alloc (.cells #[.int .u16 m, .int .u8 o, .int .u8 0, .int .u32 s, .slice none 0 0] 54)) w.heap.size 54 [.int .u16 m, .int .u8 o, .int .u8 0, .int .u32 s, .slice none 0 0]) := ⟨h1, T1, R1⟩
  clear h h1 T1 R1 ho HQ
  go_enter Try.func36, Try.ntmps36
  go_wp2_with fail
  generalize (w.alloc (.cells #[.int .u16 m, .int .u8 o, .int .u8 0, .int .u32 s, .slice none 0 0] 54)) = wa at *
  obtain ⟨gp, hgp⟩ : ∃ g, w.heap.size = g := ⟨_, rfl⟩
  rw [hgp] at HA hp hbw ⊢
  obtain ⟨h1, T1, R1⟩ := HA.out
  refine Calls.mono (leads_yes wa b x m o s h1 hlt hs) ?_
  rintro e w2 ⟨rfl, t1⟩
  have R2 := R1.keep t1
  have h2 := h1.keep t1
  have T2 := T1.trans t1
  have R3 := R2
  have q0 : w2.cell? ⟨gp, 0, none⟩ = some (.int .u16 m) := R3.cell 0
  have q1 : w2.cell? ⟨gp, 1, none⟩ = some (.int .u8 o) := R3.cell 1
  have q2 : w2.cell? ⟨gp, 2, none⟩ = some (.int .u8 0) := R3.cell 2
  have q3 : w2.cell? ⟨gp, 3, none⟩ = some (.int .u32 s) := R3.cell 3
  have q4 : w2.cell? ⟨gp, 4, none⟩ = some (.slice none 0 0) := R3.cell 4
  have hp3 := R3.lt
  have h3 := h2
  have T3 := T2
  go_wp2_with fail
  refine Calls.mono (mayBe_nil w2 b) ?_
  rintro e w3 ⟨rfl, t3⟩
  have R4 := R3.keep t3
  have h4 := h3.keep t3
  have T4 := T3.trans t3
  have HYG := young_any w3 _ own (HO.out.keep T4).at_ hol hof
  clear q0 q1 q2 q3 q4 hp3
  have HX4 : Hid (Ads w3 b x ∧ Touch (fun _ => False) w w3 ∧ Row w3 gp 54 [.int .u16 m, .int .u8 o, .int .u8 0, .int .u32 s, .slice none 0 0]) := ⟨h4, T4, R4⟩
  clear h1 T1 R1 h2 T2 R2 h3 T3 R3 h4 T4 R4 t1 t3 HA
  go_upto_region 7 with (go_at_call 49; refine Calls.mono HYG ?_; rintro e w9 ⟨u, rfl, vb⟩; obtain ⟨ua, uc, rfl⟩ := vb.form; have h9 := HX4.out.1.keep vb.t; have c14 : w9.cell? ⟨b, 14, none⟩ = some (.int .u8 x.state) := h9.cell 14; have c15 : w9.cell? ⟨b, 15, none⟩ = some (.bool x.master) := h9.cell 15; have c16 : w9.cell? ⟨b, 16, none⟩ = some x.left := h9.cell 16; have hf := h9.frozen; have hb4 := h9.lt)
  have T9 := HX4.out.2.1.trans vb.t
  have R9 := HX4.out.2.2.keep vb.t
  have h5 := ((h9.set14 1).set15 true).set16 (.slice ua own.length uc)
  have t5 : Touch (fun k => k = b) w9 (((w9.setCell ⟨b, 14, none⟩ (.int .u8 1)).setCell ⟨b, 15, none⟩ (.bool true)).setCell ⟨b, 16, none⟩ (.slice ua own.length uc)) := (((Touch.refl (fun k => k = b) w9).setCell (p := ⟨b, 14, none⟩) (Or.inl rfl) _).setCell (p := ⟨b, 15, none⟩) (Or.inl rfl) _).setCell (p := ⟨b, 16, none⟩) (Or.inl rfl) _
  have T5 : Touch (fun k => k = b) w (((w9.setCell ⟨b, 14, none⟩ (.int .u8 1)).setCell ⟨b, 15, none⟩ (.bool true)).setCell ⟨b, 16, none⟩ (.slice ua own.length uc)) := (T9.mono (fun _ _ f => f.elim)).trans t5
  have R5 : Row (((w9.setCell ⟨b, 14, none⟩ (.int .u8 1)).setCell ⟨b, 15, none⟩ (.bool true)).setCell ⟨b, 16, none⟩ (.slice ua own.length uc)) gp 54 [.int .u16 m, .int .u8 o, .int .u8 0, .int .u32 s, .slice none 0 0] := (t5.block gp R9.lt (fun e => by omega)).trans R9
  have hub : HdsB G w9 (.slice ua own.length uc) own := ⟨vb.vals, fun a n c he hpos => by
    rcases vb.own.2 with ⟨e, _⟩ | ⟨g, cap, cur, e, hg, _⟩
    · rw [e] at he; cases he
    · rw [e] at he
      simp only [Value.slice.injEq, Option.some.injEq] at he
      have h2 := HX4.out.2.1.size
      rw [← he.1]
      exact hG0 g (by omega)⟩
  have HC := HQ'.out _ _ T5 h5 (hub.touch t5 hG)
  have HR5 : Hid (Row (((w9.setCell ⟨b, 14, none⟩ (.int .u8 1)).setCell ⟨b, 15, none⟩ (.bool true)).setCell ⟨b, 16, none⟩ (.slice ua own.length uc)) gp 54 [.int .u16 m, .int .u8 o, .int .u8 0, .int .u32 s, .slice none 0 0]) := R5
  clear T9 R9 h5 t5 T5 R5 hub vb h9 HX4 HQ' HO HYG
  clear c14 c15 c16 hf hb4
  generalize (((w9.setCell ⟨b, 14, none⟩ (.int .u8 1)).setCell ⟨b, 15, none⟩ (.bool true)).setCell ⟨b, 16, none⟩ (.slice ua own.length uc)) = w6 at *
  have R6 := HR5.out
  have p0 : w6.cell? ⟨gp, 0, none⟩ = some (.int .u16 m) := R6.cell 0
  have p1 : w6.cell? ⟨gp, 1, none⟩ = some (.int .u8 o) := R6.cell 1
  have p2 : w6.cell? ⟨gp, 2, none⟩ = some (.int .u8 0) := R6.cell 2
  have p3 : w6.cell? ⟨gp, 3, none⟩ = some (.int .u32 s) := R6.cell 3
  have p4 : w6.cell? ⟨gp, 4, none⟩ = some (.slice none 0 0) := R6.cell 4
  have hp6 := R6.lt
  clear R6 HR5
  go_wp2_with fail
  refine Calls.mono HC ?_
  rintro e w7 ⟨v, rfl, hq⟩
  clear p0 p1 p2 p3 p4 hp6 HC
  go_wp2_with fail
  refine bodyPost_ret (v := .tuple #[v, .int .i64 0]) (by simp [results, Try.results36, go_sem]) rfl ⟨v, rfl, hq⟩
set_option maxHeartbeats 4000000 in
theorem meet_follow (w : World) (b : Nat) (x : AJ) (m o s : Int) (Q : Value → World → Prop) (G : Nat → Prop) (hG : ¬ G b) (hG0 : ∀ k, w.heap.size ≤ k → G k) (h : Ads w b x) (hlt : x.self < x.other) (own : List HV) (ov : Value) (ho : HdsB (fun k => k ≠ b) w ov own) (hol : own.length ≤ 1000000) (hof : ∀ h ∈ own, h.Fine)
    (HQ : ∀ w6 u, Touch (fun k => k = b) w w6 → Ads w6 b { x with state := 1, master := false, left := u } → HdsB G w6 u own → Calls Try.prog 50 #[.pointer (some ⟨b, 0, none⟩), .agg #[.int .u16 m, .int .u8 o, .int .u8 7, .int .u32 s, .slice none 0 0], ov] w6 fun e w' => ∃ v, e = .returned v ∧ Q v w') :
    Calls Try.prog 36 #[.pointer (some ⟨b, 0, none⟩), .agg #[.int .u16 m, .int .u8 o, .int .u8 7, .int .u32 s, .slice none 0 0], ov] w fun e w' => ∃ v, e = .returned (.tuple #[v, .int .i64 0]) ∧ Q v w' := by
  have T1 : Touch (fun _ => False) w (w.alloc (.cells #[.int .u16 m, .int .u8 o, .int .u8 7, .int .u32 s, .slice none 0 0] 54)) := (Touch.refl _ _).alloc _
  have R1 : Row (w.alloc (.cells #[.int .u16 m, .int .u8 o, .int .u8 7, .int .u32 s, .slice none 0 0] 54)) w.heap.size 54 [.int .u16 m, .int .u8 o, .int .u8 7, .int .u32 s, .slice none 0 0] := row_new _ _ _
  have HO : Hid (HdsB (fun k => k ≠ b) w ov own) := ho
  obtain ⟨oa, oc, rfl, -⟩ := ValsAt.form ho.at_
  have HQ' : Hid (∀ w6 u, Touch (fun k => k = b) w w6 → Ads w6 b { x with state := 1, master := false, left := u } → HdsB G w6 u own → Calls Try.prog 50 #[.pointer (some ⟨b, 0, none⟩), .agg #[.int .u16 m, .int .u8 o, .int .u8 7, .int .u32 s, .slice none 0 0], .slice oa own.length oc] w6 fun e w' => ∃ v, e = .returned v ∧ Q v w') := HQ
  have h1 := h.keep T1
  have hb := h1.lt
  have hp := R1.lt
  have hbw := h.lt
  have HBW : Hid (b < w.heap.size) := hbw
  have HA : Hid (Ads (w.alloc (.cells #[.int .u16 m, .int .u8 o, .int .u8 7, .int .u32 s, .slice none 0 0] 54)) b x ∧ Touch (fun _ => False) w (w.alloc (.cells #[.int .u16 m, .int .u8 o, .int .u8 7, .int .u32 s, .slice none 0 0] 54)) ∧ Row (w.alloc (.cells #[.int .u16 m, .int .u8 o, .int .u8 7, .int .u32 s, .slice none 0 0] 54)) w.heap.size 54 [.int .u16 m, .int .u8 o, .int .u8 7, .int .u32 s, .slice none 0 0]) := ⟨h1, T1, R1⟩
  clear h h1 T1 R1 ho HQ
  go_enter Try.func36, Try.ntmps36
  go_wp2_with fail
  generalize (w.alloc (.cells #[.int .u16 m, .int .u8 o, .int .u8 7, .int .u32 s, .slice none 0 0] 54)) = wa at *
  obtain ⟨gp, hgp⟩ : ∃ g, w.heap.size = g := ⟨_, rfl⟩
  rw [hgp] at HA hp hbw ⊢
  obtain ⟨h1, T1, R1⟩ := HA.out
  refine Calls.mono (leads_no wa b x m o 7 s _ h1 (by omega)) ?_
  rintro e w1 ⟨rfl, t1⟩
  have R2 := R1.keep t1
  have p0 : w1.cell? ⟨gp, 0, none⟩ = some (.int .u16 m) := R2.cell 0
  have p1 : w1.cell? ⟨gp, 1, none⟩ = some (.int .u8 o) := R2.cell 1
  have p2 : w1.cell? ⟨gp, 2, none⟩ = some (.int .u8 7) := R2.cell 2
  have p3 : w1.cell? ⟨gp, 3, none⟩ = some (.int .u32 s) := R2.cell 3
  have p4 : w1.cell? ⟨gp, 4, none⟩ = some (.slice none 0 0) := R2.cell 4
  have hp2 := R2.lt
  have h2 := h1.keep t1
  have T2 := T1.trans t1
  go_wp2_with fail
  refine Calls.mono (follows_yes w1 b x m o s h2 hlt) ?_
  rintro e w2 ⟨rfl, t2⟩
  have R3 := R2.keep t2
  have q0 : w2.cell? ⟨gp, 0, none⟩ = some (.int .u16 m) := R3.cell 0
  have q1 : w2.cell? ⟨gp, 1, none⟩ = some (.int .u8 o) := R3.cell 1
  have q2 : w2.cell? ⟨gp, 2, none⟩ = some (.int .u8 7) := R3.cell 2
  have q3 : w2.cell? ⟨gp, 3, none⟩ = some (.int .u32 s) := R3.cell 3
  have q4 : w2.cell? ⟨gp, 4, none⟩ = some (.slice none 0 0) := R3.cell 4
  have hp3 := R3.lt
  have h3 := h2.keep t2
  have T3 := T2.trans t2
  clear p0 p1 p2 p3 p4 hp2
  go_wp2_with fail
  refine Calls.mono (mayBe_nil w2 b) ?_
  rintro e w3 ⟨rfl, t3⟩
  have R4 := R3.keep t3
  have h4 := h3.keep t3
  have T4 := T3.trans t3
  have HYG := young_any w3 _ own (HO.out.keep T4).at_ hol hof
  clear q0 q1 q2 q3 q4 hp3
  have HX4 : Hid (Ads w3 b x ∧ Touch (fun _ => False) w w3 ∧ Row w3 gp 54 [.int .u16 m, .int .u8 o, .int .u8 7, .int .u32 s, .slice none 0 0]) := ⟨h4, T4, R4⟩
  clear h1 T1 R1 h2 T2 R2 h3 T3 R3 h4 T4 R4 t1 t3 HA t2
  go_upto_region 7 with (go_at_call 49; refine Calls.mono HYG ?_; rintro e w9 ⟨u, rfl, vb⟩; obtain ⟨ua, uc, rfl⟩ := vb.form; have h9 := HX4.out.1.keep vb.t; have c14 : w9.cell? ⟨b, 14, none⟩ = some (.int .u8 x.state) := h9.cell 14; have c15 : w9.cell? ⟨b, 15, none⟩ = some (.bool x.master) := h9.cell 15; have c16 : w9.cell? ⟨b, 16, none⟩ = some x.left := h9.cell 16; have hf := h9.frozen; have hb4 := h9.lt)
  have T9 := HX4.out.2.1.trans vb.t
  have R9 := HX4.out.2.2.keep vb.t
  have h5 := ((h9.set14 1).set15 false).set16 (.slice ua own.length uc)
  have t5 : Touch (fun k => k = b) w9 (((w9.setCell ⟨b, 14, none⟩ (.int .u8 1)).setCell ⟨b, 15, none⟩ (.bool false)).setCell ⟨b, 16, none⟩ (.slice ua own.length uc)) := (((Touch.refl (fun k => k = b) w9).setCell (p := ⟨b, 14, none⟩) (Or.inl rfl) _).setCell (p := ⟨b, 15, none⟩) (Or.inl rfl) _).setCell (p := ⟨b, 16, none⟩) (Or.inl rfl) _
  have T5 : Touch (fun k => k = b) w (((w9.setCell ⟨b, 14, none⟩ (.int .u8 1)).setCell ⟨b, 15, none⟩ (.bool false)).setCell ⟨b, 16, none⟩ (.slice ua own.length uc)) := (T9.mono (fun _ _ f => f.elim)).trans t5
  have R5 : Row (((w9.setCell ⟨b, 14, none⟩ (.int .u8 1)).setCell ⟨b, 15, none⟩ (.bool false)).setCell ⟨b, 16, none⟩ (.slice ua own.length uc)) gp 54 [.int .u16 m, .int .u8 o, .int .u8 7, .int .u32 s, .slice none 0 0] := (t5.block gp R9.lt (fun e => by omega)).trans R9
  have hub : HdsB G w9 (.slice ua own.length uc) own := ⟨vb.vals, fun a n c he hpos => by
    rcases vb.own.2 with ⟨e, _⟩ | ⟨g, cap, cur, e, hg, _⟩
    · rw [e] at he; cases he
    · rw [e] at he
      simp only [Value.slice.injEq, Option.some.injEq] at he
      have h2 := HX4.out.2.1.size
      rw [← he.1]
      exact hG0 g (by omega)⟩
  have HC := HQ'.out _ _ T5 h5 (hub.touch t5 hG)
  have HR5 : Hid (Row (((w9.setCell ⟨b, 14, none⟩ (.int .u8 1)).setCell ⟨b, 15, none⟩ (.bool false)).setCell ⟨b, 16, none⟩ (.slice ua own.length uc)) gp 54 [.int .u16 m, .int .u8 o, .int .u8 7, .int .u32 s, .slice none 0 0]) := R5
  clear T9 R9 h5 t5 T5 R5 hub vb h9 HX4 HQ' HO HYG
  clear c14 c15 c16 hf hb4
  generalize (((w9.setCell ⟨b, 14, none⟩ (.int .u8 1)).setCell ⟨b, 15, none⟩ (.bool false)).setCell ⟨b, 16, none⟩ (.slice ua own.length uc)) = w6 at *
  have R6 := HR5.out
  have p0 : w6.cell? ⟨gp, 0, none⟩ = some (.int .u16 m) := R6.cell 0
  have p1 : w6.cell? ⟨gp, 1, none⟩ = some (.int .u8 o) := R6.cell 1
  have p2 : w6.cell? ⟨gp, 2, none⟩ = some (.int .u8 7) := R6.cell 2
  have p3 : w6.cell? ⟨gp, 3, none⟩ = some (.int .u32 s) := R6.cell 3
  have p4 : w6.cell? ⟨gp, 4, none⟩ = some (.slice none 0 0) := R6.cell 4
  have hp6 := R6.lt
  clear R6 HR5
  go_wp2_with fail
  refine Calls.mono HC ?_
  rintro e w7 ⟨v, rfl, hq⟩
  clear p0 p1 p2 p3 p4 hp6 HC
  go_wp2_with fail
  refine bodyPost_ret (v := .tuple #[v, .int .i64 0]) (by simp [results, Try.results36, go_sem]) rfl ⟨v, rfl, hq⟩
end Go.Proofs.Ytojlnabhaglejaa
