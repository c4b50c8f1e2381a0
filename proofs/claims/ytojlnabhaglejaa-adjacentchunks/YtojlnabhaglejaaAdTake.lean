
/- A description is taken. -/
import Derived.Test.YtojlnabhaglejaaAdFol
namespace Go.Proofs.Ytojlnabhaglejaa
open Go.RowKit
set_option linter.unusedVariables false
set_option maxRecDepth 100000

set_option maxHeartbeats 4000000 in
theorem take_first (w : World) (b : Nat) (x : AJ) (m o s : Int) (h : Ads w b x) (hm : x.master = false) (hl : x.left = .slice none 0 0) : Calls Try.prog 50 #[.pointer (some ⟨b, 0, none⟩), .agg #[.int .u16 m, .int .u8 o, .int .u8 7, .int .u32 s, .slice none 0 0], .slice none 0 0] w fun e w' => ∃ v, e = .returned v ∧ OneDD w.heap.size w' v x.mtu x.opts 0 s ∧ Ads w' b { x with tflags := 7, topts := o, tnum := s, number := s, smtu := x.mtu, sopts := x.opts, sflags := 0, sseq := s, sheads := .slice none 0 0, waited := 0, left := .slice none 0 0 } ∧ Touch (fun k => k = b) w w' := by
  have HA : Hid (Ads w b x) := h
  have hbw := h.lt
  have T0 : Touch (fun _ => False) w (w.alloc (.cells #[.int .u16 m, .int .u8 o, .int .u8 7, .int .u32 s, .slice none 0 0] 54)) := (Touch.refl _ _).alloc _
  have R0 : Row (w.alloc (.cells #[.int .u16 m, .int .u8 o, .int .u8 7, .int .u32 s, .slice none 0 0] 54)) w.heap.size 54 [.int .u16 m, .int .u8 o, .int .u8 7, .int .u32 s, .slice none 0 0] := row_new _ _ _
  obtain ⟨gp, hgp⟩ : ∃ g, w.heap.size = g := ⟨_, rfl⟩
  rw [hgp] at R0
  clear h
  go_enter Try.func50, Try.ntmps50
  go_wp2_with fail
  generalize w.alloc (.cells #[.int .u16 m, .int .u8 o, .int .u8 7, .int .u32 s, .slice none 0 0] 54) = wa at *
  refine Calls.mono (markOf_any _ m o 7 s (.slice none 0 0)) ?_
  rintro e w1 ⟨rfl, t1⟩
  have HA1 := HA.out.keep (T0.trans t1)
  have R1 := R0.keep t1
  have T1 := T0.trans t1
  have c17 : w1.cell? ⟨b, 17, none⟩ = some (.int .u8 x.tflags) := HA1.cell 17
  have c18 : w1.cell? ⟨b, 18, none⟩ = some (.int .u8 x.topts) := HA1.cell 18
  have c19 : w1.cell? ⟨b, 19, none⟩ = some (.int .u32 x.tnum) := HA1.cell 19
  have hf := HA1.frozen
  have hb1 := HA1.lt
  have HA2 := ((HA1.set17 7).set18 o).set19 s
  have R2 : Row (((w1.setCell ⟨b, 17, none⟩ (.int .u8 7)).setCell ⟨b, 18, none⟩ (.int .u8 o)).setCell ⟨b, 19, none⟩ (.int .u32 s)) gp 54 [.int .u16 m, .int .u8 o, .int .u8 7, .int .u32 s, .slice none 0 0] := ((R1.other (by show gp ≠ b; omega) _).other (by show gp ≠ b; omega) _).other (by show gp ≠ b; omega) _
  have t2 : Touch (fun k => k = b) w1 (((w1.setCell ⟨b, 17, none⟩ (.int .u8 7)).setCell ⟨b, 18, none⟩ (.int .u8 o)).setCell ⟨b, 19, none⟩ (.int .u32 s)) := (((Touch.refl (fun k => k = b) w1).setCell (p := ⟨b, 17, none⟩) (Or.inl rfl) _).setCell (p := ⟨b, 18, none⟩) (Or.inl rfl) _).setCell (p := ⟨b, 19, none⟩) (Or.inl rfl) _
  have X2 : Hid (Ads (((w1.setCell ⟨b, 17, none⟩ (.int .u8 7)).setCell ⟨b, 18, none⟩ (.int .u8 o)).setCell ⟨b, 19, none⟩ (.int .u32 s)) b { x with tflags := 7, topts := o, tnum := s } ∧ Touch (fun k => k = b) w (((w1.setCell ⟨b, 17, none⟩ (.int .u8 7)).setCell ⟨b, 18, none⟩ (.int .u8 o)).setCell ⟨b, 19, none⟩ (.int .u32 s))) := ⟨HA2, (T1.mono (fun _ _ f => f.elim)).trans t2⟩
  clear HA1 HA2 T0 T1 R0 t1 t2 R1
  go_wp2_with fail
  generalize ((w1.setCell ⟨b, 17, none⟩ (.int .u8 7)).setCell ⟨b, 18, none⟩ (.int .u8 o)).setCell ⟨b, 19, none⟩ (.int .u32 s) = w2 at *
  clear c17 c18 c19 hf hb1
  refine Calls.mono (byKey_nil w2) ?_
  rintro e w3 ⟨rfl, hm3, t3⟩
  have HA3 := X2.out.1.keep t3
  have T3 := X2.out.2.trans (t3.mono (fun _ _ f => f.elim))
  have R3 := R2.keep t3
  have hmg : w.heap.size ≤ w2.heap.size := X2.out.2.size
  generalize w2.heap.size = gm at *
  have p0 : w3.cell? ⟨gp, 0, none⟩ = some (.int .u16 m) := R3.cell 0
  have p1 : w3.cell? ⟨gp, 1, none⟩ = some (.int .u8 o) := R3.cell 1
  have p2 : w3.cell? ⟨gp, 2, none⟩ = some (.int .u8 7) := R3.cell 2
  have p3 : w3.cell? ⟨gp, 3, none⟩ = some (.int .u32 s) := R3.cell 3
  have p4 : w3.cell? ⟨gp, 4, none⟩ = some (.slice none 0 0) := R3.cell 4
  have c15 : w3.cell? ⟨b, 15, none⟩ = some (.bool false) := by rw [← hm]; exact HA3.cell 15
  have hb3 := HA3.lt
  have hp3 := R3.lt
  have X3 : Hid (Ads w3 b { x with tflags := 7, topts := o, tnum := s } ∧ Touch (fun k => k = b) w w3) := ⟨HA3, T3⟩
  clear X2 t3 HA3 T3 R2 R3 hm3
  go_wp2_with fail
  go_loopw [23] (fun i wr => i = .int .i64 0 ∧ wr = w3) (fun _ _ => 0)
  case atStart => exact ⟨rfl, rfl⟩
  case round =>
    obtain ⟨rfl, rfl⟩ := hrel
    go_wp2_with fail
    refine Calls.mono (follow_first _ b _ m o s X3.out.1 hm hl) ?_
    rintro e w4 ⟨v, rfl, od, ha, t⟩
    clear p0 p1 p2 p3 p4 c15 hp3
    go_wp2_with fail
    go_ret
    exact ⟨v, rfl, od.low X3.out.2.size, ha, X3.out.2.trans t⟩
end Go.Proofs.Ytojlnabhaglejaa
