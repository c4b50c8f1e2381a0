
/- A description comes. -/
import Derived.Test.YtojlnabhaglejaaAdMay
namespace Go.Proofs.Ytojlnabhaglejaa
open Go.RowKit
set_option linter.unusedVariables false
set_option maxRecDepth 100000

set_option maxHeartbeats 400000 in
theorem made_yes (w : World) (b : Nat) (x : AJ) (h : Ads w b x) (hs : ¬ x.self = 0) : Calls Try.prog 27 #[.pointer (some ⟨b, 0, none⟩)] w fun e w' => e = .returned (.bool true) ∧ w = w' := by
  have c0 : w.cell? ⟨b, 0, none⟩ = some (.int .u32 x.self) := h.cell 0
  have e0 : (x.self != 0) = true := by simpa using hs
  have hb := h.lt
  clear h
  go_enter Try.func27, Try.ntmps27
  go_wp2
  go_ret
  exact ⟨rfl, rfl⟩
set_option maxHeartbeats 4000000 in
theorem meet_first (w : World) (b : Nat) (x : AJ) (m o s : Int) (h : Ads w b x) (hlt : x.self < x.other) : Calls Try.prog 36 #[.pointer (some ⟨b, 0, none⟩), .agg #[.int .u16 m, .int .u8 o, .int .u8 7, .int .u32 s, .slice none 0 0], .slice none 0 0] w fun e w' => ∃ v, e = .returned (.tuple #[v, .int .i64 0]) ∧ Ads w' b { x with state := 1, master := false, tflags := 7, topts := o, tnum := s, number := s, smtu := x.mtu, sopts := x.opts, sflags := 0, sseq := s, sheads := .slice none 0 0, waited := 0, left := .slice none 0 0 } ∧ Touch (fun k => k = b) w w' := by
  have T1 : Touch (fun _ => False) w (w.alloc (.cells #[.int .u16 m, .int .u8 o, .int .u8 7, .int .u32 s, .slice none 0 0] 54)) := (Touch.refl _ _).alloc _
  have R1 : Row (w.alloc (.cells #[.int .u16 m, .int .u8 o, .int .u8 7, .int .u32 s, .slice none 0 0] 54)) w.heap.size 54 [.int .u16 m, .int .u8 o, .int .u8 7, .int .u32 s, .slice none 0 0] := row_new _ _ _
  have h1 := h.keep T1
  have hb := h1.lt
  have hp := R1.lt
  have hbw := h.lt
  have HA : Hid (Ads (w.alloc (.cells #[.int .u16 m, .int .u8 o, .int .u8 7, .int .u32 s, .slice none 0 0] 54)) b x ∧ Touch (fun _ => False) w (w.alloc (.cells #[.int .u16 m, .int .u8 o, .int .u8 7, .int .u32 s, .slice none 0 0] 54)) ∧ Row (w.alloc (.cells #[.int .u16 m, .int .u8 o, .int .u8 7, .int .u32 s, .slice none 0 0] 54)) w.heap.size 54 [.int .u16 m, .int .u8 o, .int .u8 7, .int .u32 s, .slice none 0 0]) := ⟨h1, T1, R1⟩
  clear h h1 T1 R1
  go_enter Try.func36, Try.ntmps36
  go_wp2_with fail
  generalize w.alloc (.cells #[.int .u16 m, .int .u8 o, .int .u8 7, .int .u32 s, .slice none 0 0] 54) = wa at *
  generalize w.heap.size = gp at *
  obtain ⟨h1, T1, R1⟩ := HA.out
  refine Calls.mono (leads_no wa b x m o 7 s _ h1 (by omega)) ?_
  rintro e w1 ⟨rfl, t1⟩
  have R2 := R1.keep t1
  have p0 : w1.cell? ⟨gp, 0, none⟩ = some (.int .u16 m) := R2.cell 0
  have p1 : w1.cell? ⟨gp, 1, none⟩ = some (.int .u8 o) := R2.cell 1
  have p2 : w1.cell? ⟨gp, 2, none⟩ = some (.int .u8 7) := R2.cell 2
  have p3 : w1.cell? ⟨gp, 3, none⟩ = some (.int .u32 s) := R2.cell 3
  have p4 : w1.cell? ⟨gp, 4, none⟩ = some (.slice none 0 0) := R2.cell 4
  have hp2 := R2.lt
  have h2 := h1.keep t1
  have T2 := T1.trans t1
  go_wp2_with fail
  refine Calls.mono (follows_yes w1 b x m o s h2 hlt) ?_
  rintro e w2 ⟨rfl, t2⟩
  have R3 := R2.keep t2
  have q0 : w2.cell? ⟨gp, 0, none⟩ = some (.int .u16 m) := R3.cell 0
  have q1 : w2.cell? ⟨gp, 1, none⟩ = some (.int .u8 o) := R3.cell 1
  have q2 : w2.cell? ⟨gp, 2, none⟩ = some (.int .u8 7) := R3.cell 2
  have q3 : w2.cell? ⟨gp, 3, none⟩ = some (.int .u32 s) := R3.cell 3
  have q4 : w2.cell? ⟨gp, 4, none⟩ = some (.slice none 0 0) := R3.cell 4
  have hp3 := R3.lt
  have h3 := h2.keep t2
  have T3 := T2.trans t2
  clear p0 p1 p2 p3 p4 hp2
  go_wp2_with fail
  refine Calls.mono (mayBe_nil w2 b) ?_
  rintro e w3 ⟨rfl, t3⟩
  have R4 := R3.keep t3
  have h4 := h3.keep t3
  have T4 := T3.trans t3
  clear q0 q1 q2 q3 q4 hp3
  have c14 : w3.cell? ⟨b, 14, none⟩ = some (.int .u8 x.state) := h4.cell 14
  have c15 : w3.cell? ⟨b, 15, none⟩ = some (.bool x.master) := h4.cell 15
  have c16 : w3.cell? ⟨b, 16, none⟩ = some x.left := h4.cell 16
  have hf := h4.frozen
  have hb4 := h4.lt
  have h5 := ((h4.set14 1).set15 false).set16 (.slice none 0 0)
  have t5 : Touch (fun k => k = b) w3 (((w3.setCell ⟨b, 14, none⟩ (.int .u8 1)).setCell ⟨b, 15, none⟩ (.bool false)).setCell ⟨b, 16, none⟩ (.slice none 0 0)) := (((Touch.refl (fun k => k = b) w3).setCell (p := ⟨b, 14, none⟩) (Or.inl rfl) _).setCell (p := ⟨b, 15, none⟩) (Or.inl rfl) _).setCell (p := ⟨b, 16, none⟩) (Or.inl rfl) _
  have T5 := (T4.mono (G := fun k => k = b) (fun _ _ f => f.elim)).trans t5
  have R5 : Row _ gp 54 [.int .u16 m, .int .u8 o, .int .u8 7, .int .u32 s, .slice none 0 0] := (t5.block gp R4.lt (fun e => by omega)).trans R4
  have HX : Hid (Ads (((w3.setCell ⟨b, 14, none⟩ (.int .u8 1)).setCell ⟨b, 15, none⟩ (.bool false)).setCell ⟨b, 16, none⟩ (.slice none 0 0)) b { x with state := 1, master := false, left := .slice none 0 0 } ∧ Touch (fun k => k = b) w (((w3.setCell ⟨b, 14, none⟩ (.int .u8 1)).setCell ⟨b, 15, none⟩ (.bool false)).setCell ⟨b, 16, none⟩ (.slice none 0 0)) ∧ Row (((w3.setCell ⟨b, 14, none⟩ (.int .u8 1)).setCell ⟨b, 15, none⟩ (.bool false)).setCell ⟨b, 16, none⟩ (.slice none 0 0)) gp 54 [.int .u16 m, .int .u8 o, .int .u8 7, .int .u32 s, .slice none 0 0]) := ⟨h5, T5, R5⟩
  clear h1 T1 R1 h2 T2 R2 h3 T3 R3 h4 T4 R4 h5 T5 R5 t1 t2 t3 t5 HA
  go_upto_region 7 with (go_at_call 49; refine Calls.mono (young_nil _) ?_; rintro e w9 ⟨rfl, rfl⟩)
  generalize ((w3.setCell ⟨b, 14, none⟩ (.int .u8 1)).setCell ⟨b, 15, none⟩ (.bool false)).setCell ⟨b, 16, none⟩ (.slice none 0 0) = w6 at *
  obtain ⟨h6, T6, R6⟩ := HX.out
  have p0 : w6.cell? ⟨gp, 0, none⟩ = some (.int .u16 m) := R6.cell 0
  have p1 : w6.cell? ⟨gp, 1, none⟩ = some (.int .u8 o) := R6.cell 1
  have p2 : w6.cell? ⟨gp, 2, none⟩ = some (.int .u8 7) := R6.cell 2
  have p3 : w6.cell? ⟨gp, 3, none⟩ = some (.int .u32 s) := R6.cell 3
  have p4 : w6.cell? ⟨gp, 4, none⟩ = some (.slice none 0 0) := R6.cell 4
  have hp6 := R6.lt
  clear c14 c15 c16 hf hb4 R6
  go_wp2_with fail
  refine Calls.mono (take_first w6 b _ m o s h6 rfl rfl) ?_
  rintro e w7 ⟨v, rfl, od, ha, t7⟩
  clear p0 p1 p2 p3 p4 hp6
  go_wp2_with fail
  refine bodyPost_ret (v := .tuple #[v, .int .i64 0]) (by simp [results, Try.results36, go_sem]) rfl ⟨v, rfl, ha, T6.trans t7⟩
set_option maxHeartbeats 4000000 in
theorem exchange_one (w : World) (b mm c gh : Nat) (x : AJ) (m o s : Int) (h : Ads w b x) (hm : x.master = false) (hl : x.left = .slice none 0 0) (hk : x.keys = .slice none 0 0) (hw : x.wm = .map (some mm)) (hmm : w.heap[mm]? = some (.map #[] c)) (hbm : b ≠ mm) (hr : Row w gh 50 [.int .u16 0, .int .u8 0, .int .u8 1, .int .u32 2, .int .u32 2, .int .i32 (-2147483647), .int .u16 0, .int .u16 0]) (hgb : gh ≠ b) (ht : x.types = 65535) (ho : x.topts = o) (hs : IntKind.u32.wrap (x.number + 1) = s) :
    Calls Try.prog 40 #[.pointer (some ⟨b, 0, none⟩), .agg #[.int .u16 m, .int .u8 o, .int .u8 1, .int .u32 s, .slice (some ⟨gh, 0, none⟩) 1 1], .slice none 0 0] w fun e w' => ∃ v kv, e = .returned (.tuple #[v, .int .i64 0]) ∧ TwoOut w' v ∧ Ads w' b { x with tflags := 1, topts := o, tnum := s, keys := kv, number := s, smtu := x.mtu, sopts := x.opts, sflags := 0, sseq := s, sheads := .slice none 0 0, waited := 0, left := .slice none 0 0, state := 2, asked := 1 } ∧ KR w.heap.size w' kv ∧ w'.heap[mm]? = some (.map #[⟨K1, .agg #[.int .u16 0, .int .u8 0, .int .u8 1, .int .u32 2, .int .u32 2, .int .i32 (-2147483647), .int .u16 0, .int .u16 0], c⟩] (c + 1)) ∧ Touch (fun k => k = b ∨ k = mm) w w' := by
  have T1 : Touch (fun _ => False) w (w.alloc (.cells #[.int .u16 m, .int .u8 o, .int .u8 1, .int .u32 s, .slice (some ⟨gh, 0, none⟩) 1 1] 54)) := (Touch.refl _ _).alloc _
  have R1 : Row (w.alloc (.cells #[.int .u16 m, .int .u8 o, .int .u8 1, .int .u32 s, .slice (some ⟨gh, 0, none⟩) 1 1] 54)) w.heap.size 54 [.int .u16 m, .int .u8 o, .int .u8 1, .int .u32 s, .slice (some ⟨gh, 0, none⟩) 1 1] := row_new _ _ _
  have h1 := h.keep T1
  have hbw := h.lt
  have hp := R1.lt
  have HA : Hid (Ads (w.alloc (.cells #[.int .u16 m, .int .u8 o, .int .u8 1, .int .u32 s, .slice (some ⟨gh, 0, none⟩) 1 1] 54)) b x ∧ Touch (fun _ => False) w (w.alloc (.cells #[.int .u16 m, .int .u8 o, .int .u8 1, .int .u32 s, .slice (some ⟨gh, 0, none⟩) 1 1] 54)) ∧ Row (w.alloc (.cells #[.int .u16 m, .int .u8 o, .int .u8 1, .int .u32 s, .slice (some ⟨gh, 0, none⟩) 1 1] 54)) w.heap.size 54 [.int .u16 m, .int .u8 o, .int .u8 1, .int .u32 s, .slice (some ⟨gh, 0, none⟩) 1 1] ∧ Row (w.alloc (.cells #[.int .u16 m, .int .u8 o, .int .u8 1, .int .u32 s, .slice (some ⟨gh, 0, none⟩) 1 1] 54)) gh 50 [.int .u16 0, .int .u8 0, .int .u8 1, .int .u32 2, .int .u32 2, .int .i32 (-2147483647), .int .u16 0, .int .u16 0] ∧ (w.alloc (.cells #[.int .u16 m, .int .u8 o, .int .u8 1, .int .u32 s, .slice (some ⟨gh, 0, none⟩) 1 1] 54)).heap[mm]? = some (.map #[] c)) := ⟨h1, T1, R1, hr.keep T1, T1.heapN hmm⟩
  clear h h1 T1 R1 hr hmm
  go_enter Try.func40, Try.ntmps40
  go_wp2_with fail
  generalize w.alloc (.cells #[.int .u16 m, .int .u8 o, .int .u8 1, .int .u32 s, .slice (some ⟨gh, 0, none⟩) 1 1] 54) = wa at *
  obtain ⟨gp, hgp⟩ : ∃ g, w.heap.size = g := ⟨_, rfl⟩
  rw [hgp] at HA hp ⊢
  clear hgp
  obtain ⟨h1, T1, R1, r1, m1⟩ := HA.out
  refine Calls.mono (fits_one wa b gh x m o s h1 ht hm ho hs r1) ?_
  rintro e w1 ⟨rfl, t1⟩
  have R2 := R1.keep t1
  have p0 : w1.cell? ⟨gp, 0, none⟩ = some (.int .u16 m) := R2.cell 0
  have p1 : w1.cell? ⟨gp, 1, none⟩ = some (.int .u8 o) := R2.cell 1
  have p2 : w1.cell? ⟨gp, 2, none⟩ = some (.int .u8 1) := R2.cell 2
  have p3 : w1.cell? ⟨gp, 3, none⟩ = some (.int .u32 s) := R2.cell 3
  have p4 : w1.cell? ⟨gp, 4, none⟩ = some (.slice (some ⟨gh, 0, none⟩) 1 1) := R2.cell 4
  have hp2 := R2.lt
  have HTK := take_second w1 b mm c gh x m o s (h1.keep t1) hm hl hk hw (t1.heapN m1) hbm (r1.keep t1) hgb
  have T2 : Hid (Touch (fun _ => False) w w1) := T1.trans t1
  clear HA h1 T1 R1 r1 m1 R2 t1
  go_wp2_with fail
  refine Calls.mono HTK ?_
  rintro e w2 ⟨v, kv, rfl, tw, ha, kr, hm2, t2⟩
  clear p0 p1 p2 p3 p4 hp2 HTK
  go_wp2_with fail
  refine bodyPost_ret (v := .tuple #[v, .int .i64 0]) (by simp [results, Try.results40, go_sem]) rfl ⟨v, kv, rfl, tw, ha, kr.low T2.out.size, hm2, (T2.out.mono (fun _ _ f => f.elim)).trans t2⟩
end Go.Proofs.Ytojlnabhaglejaa
