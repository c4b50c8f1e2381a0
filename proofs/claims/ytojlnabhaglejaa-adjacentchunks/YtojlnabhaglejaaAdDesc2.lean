
/- Describe. -/
import Derived.Test.YtojlnabhaglejaaAdDesc
namespace Go.Proofs.Ytojlnabhaglejaa
open Go.RowKit
set_option linter.unusedVariables false
set_option maxRecDepth 100000

set_option maxHeartbeats 4000000 in
theorem describe_first (w : World) (b : Nat) (x : AJ) (m o s : Int) (h : Ads w b x) (hself : ¬ x.self = 0) (hlt : x.self < x.other) (hst : x.state = 0) (hmtu : x.mtu = 0) : Calls Try.prog 16 #[.pointer (some ⟨b, 0, none⟩), .agg #[.int .u16 m, .int .u8 o, .int .u8 7, .int .u32 s, .slice none 0 0], .slice none 0 0] w fun e w' => ∃ v, e = .returned (.tuple #[v, .int .i64 0]) ∧ Ads w' b { x with state := 1, master := false, tflags := 7, topts := o, tnum := s, number := s, smtu := x.mtu, sopts := x.opts, sflags := 0, sseq := s, sheads := .slice none 0 0, waited := 0, left := .slice none 0 0 } ∧ Touch (fun k => k = b) w w' := by
  have T1 : Touch (fun _ => False) w (w.alloc (.cells #[.int .u16 m, .int .u8 o, .int .u8 7, .int .u32 s, .slice none 0 0] 54)) := (Touch.refl _ _).alloc _
  have R1 : Row (w.alloc (.cells #[.int .u16 m, .int .u8 o, .int .u8 7, .int .u32 s, .slice none 0 0] 54)) w.heap.size 54 [.int .u16 m, .int .u8 o, .int .u8 7, .int .u32 s, .slice none 0 0] := row_new _ _ _
  have HA : Hid (Ads (w.alloc (.cells #[.int .u16 m, .int .u8 o, .int .u8 7, .int .u32 s, .slice none 0 0] 54)) b x ∧ Touch (fun _ => False) w (w.alloc (.cells #[.int .u16 m, .int .u8 o, .int .u8 7, .int .u32 s, .slice none 0 0] 54)) ∧ Row (w.alloc (.cells #[.int .u16 m, .int .u8 o, .int .u8 7, .int .u32 s, .slice none 0 0] 54)) w.heap.size 54 [.int .u16 m, .int .u8 o, .int .u8 7, .int .u32 s, .slice none 0 0]) := ⟨h.keep T1, T1, R1⟩
  clear h T1 R1
  go_enter Try.func16, Try.ntmps16
  go_wp2_with fail
  generalize w.alloc (.cells #[.int .u16 m, .int .u8 o, .int .u8 7, .int .u32 s, .slice none 0 0] 54) = wa at *
  obtain ⟨gp, hgp⟩ : ∃ g, w.heap.size = g := ⟨_, rfl⟩
  rw [hgp] at HA ⊢
  clear hgp
  obtain ⟨h1, T1, R1⟩ := HA.out
  refine Calls.mono (made_yes wa b x h1 hself) ?_
  rintro e w1 ⟨rfl, rfl⟩
  have c2 : wa.cell? ⟨b, 2, none⟩ = some (.int .u16 0) := (h1.cell 2).trans (by show some (Value.int .u16 x.mtu) = _; rw [hmtu])
  have hb1 := h1.lt
  have p0 : wa.cell? ⟨gp, 0, none⟩ = some (.int .u16 m) := R1.cell 0
  have p1 : wa.cell? ⟨gp, 1, none⟩ = some (.int .u8 o) := R1.cell 1
  have p2 : wa.cell? ⟨gp, 2, none⟩ = some (.int .u8 7) := R1.cell 2
  have p3 : wa.cell? ⟨gp, 3, none⟩ = some (.int .u32 s) := R1.cell 3
  have p4 : wa.cell? ⟨gp, 4, none⟩ = some (.slice none 0 0) := R1.cell 4
  have hp1 := R1.lt
  go_wp2_with fail
  go_region
  go_upto_region 5 with fail
  have hfl : ∀ w, (Instr.field 79 (.agg #[.func (.func 36) #[.pointer (some ⟨b, 0, none⟩)] #[], .func (.func 37) #[.pointer (some ⟨b, 0, none⟩)] #[], .func (.func 38) #[.pointer (some ⟨b, 0, none⟩)] #[], .func (.func 39) #[.pointer (some ⟨b, 0, none⟩)] #[]]) 0).run Try.prog w = .ok (.func (.func 36) #[.pointer (some ⟨b, 0, none⟩)] #[]) w := fun _ => rfl
  have HTN := turn_start wa.drew.drew b x h1.drew.drew hst
  have HCL : Hid (∀ w1, Touch (fun _ => False) wa.drew.drew w1 → Calls Try.prog 36 #[.pointer (some ⟨b, 0, none⟩), .agg #[.int .u16 m, .int .u8 o, .int .u8 7, .int .u32 s, .slice none 0 0], .slice none 0 0] w1 fun e w' => ∃ v, e = .returned (.tuple #[v, .int .i64 0]) ∧ Ads w' b { x with state := 1, master := false, tflags := 7, topts := o, tnum := s, number := s, smtu := x.mtu, sopts := x.opts, sflags := 0, sseq := s, sheads := .slice none 0 0, waited := 0, left := .slice none 0 0 } ∧ Touch (fun k => k = b) w1 w') := fun w1 t => meet_first w1 b x m o s (h1.keep (((Touch.refl _ _).drew.drew).trans t)) hlt
  have HT1 : Hid (Touch (fun _ => False) w wa) := T1
  clear HA h1 T1 R1 c2
  go_region_with (first | (go_at_call 28; refine Calls.mono HTN ?_; rintro e w1 ⟨rfl, t1⟩; have z0 := t1.cellN p0; have z1 := t1.cellN p1; have z2 := t1.cellN p2; have z3 := t1.cellN p3; have z4 := t1.cellN p4; have hz := lt_of_cell z0) | (go_at_call 36; refine Calls.mono (HCL.out _ t1) ?_; rintro e w2 ⟨v, rfl, ha, t2⟩))
  all_goals
    clear p0 p1 p2 p3 p4 z0 z1 z2 z3 z4 hz HCL HTN
    go_wp2_with fail
    refine bodyPost_ret (v := .tuple #[v, .int .i64 0]) (by simp [results, Try.results16, go_sem]) rfl ⟨v, rfl, ha, ((HT1.out.drew.drew.trans t1).mono (fun _ _ f => f.elim)).trans t2⟩
set_option maxHeartbeats 4000000 in
theorem describe_second (w : World) (b mm c gh : Nat) (x : AJ) (m o s : Int) (h : Ads w b x) (hm : x.master = false) (hl : x.left = .slice none 0 0) (hk : x.keys = .slice none 0 0) (hw : x.wm = .map (some mm)) (hmm : w.heap[mm]? = some (.map #[] c)) (hbm : b ≠ mm) (hr : Row w gh 50 [.int .u16 0, .int .u8 0, .int .u8 1, .int .u32 2, .int .u32 2, .int .i32 (-2147483647), .int .u16 0, .int .u16 0]) (hgb : gh ≠ b) (ht : x.types = 65535) (ho : x.topts = o) (hs : IntKind.u32.wrap (x.number + 1) = s) (hself : ¬ x.self = 0) (hst : x.state = 1) (hmtu : x.mtu = 0) : Calls Try.prog 16 #[.pointer (some ⟨b, 0, none⟩), .agg #[.int .u16 m, .int .u8 o, .int .u8 1, .int .u32 s, .slice (some ⟨gh, 0, none⟩) 1 1], .slice none 0 0] w fun e w' => ∃ v kv, e = .returned (.tuple #[v, .int .i64 0]) ∧ TwoOut w' v ∧ Ads w' b { x with tflags := 1, topts := o, tnum := s, keys := kv, number := s, smtu := x.mtu, sopts := x.opts, sflags := 0, sseq := s, sheads := .slice none 0 0, waited := 0, left := .slice none 0 0, state := 2, asked := 1 } ∧ KR w.heap.size w' kv ∧ w'.heap[mm]? = some (.map #[⟨K1, .agg #[.int .u16 0, .int .u8 0, .int .u8 1, .int .u32 2, .int .u32 2, .int .i32 (-2147483647), .int .u16 0, .int .u16 0], c⟩] (c + 1)) ∧ Touch (fun k => k = b ∨ k = mm) w w' := by
  have T1 : Touch (fun _ => False) w (w.alloc (.cells #[.int .u16 m, .int .u8 o, .int .u8 1, .int .u32 s, .slice (some ⟨gh, 0, none⟩) 1 1] 54)) := (Touch.refl _ _).alloc _
  have R1 : Row (w.alloc (.cells #[.int .u16 m, .int .u8 o, .int .u8 1, .int .u32 s, .slice (some ⟨gh, 0, none⟩) 1 1] 54)) w.heap.size 54 [.int .u16 m, .int .u8 o, .int .u8 1, .int .u32 s, .slice (some ⟨gh, 0, none⟩) 1 1] := row_new _ _ _
  have HA : Hid (Ads (w.alloc (.cells #[.int .u16 m, .int .u8 o, .int .u8 1, .int .u32 s, .slice (some ⟨gh, 0, none⟩) 1 1] 54)) b x ∧ Touch (fun _ => False) w (w.alloc (.cells #[.int .u16 m, .int .u8 o, .int .u8 1, .int .u32 s, .slice (some ⟨gh, 0, none⟩) 1 1] 54)) ∧ Row (w.alloc (.cells #[.int .u16 m, .int .u8 o, .int .u8 1, .int .u32 s, .slice (some ⟨gh, 0, none⟩) 1 1] 54)) w.heap.size 54 [.int .u16 m, .int .u8 o, .int .u8 1, .int .u32 s, .slice (some ⟨gh, 0, none⟩) 1 1] ∧ Row (w.alloc (.cells #[.int .u16 m, .int .u8 o, .int .u8 1, .int .u32 s, .slice (some ⟨gh, 0, none⟩) 1 1] 54)) gh 50 [.int .u16 0, .int .u8 0, .int .u8 1, .int .u32 2, .int .u32 2, .int .i32 (-2147483647), .int .u16 0, .int .u16 0] ∧ (w.alloc (.cells #[.int .u16 m, .int .u8 o, .int .u8 1, .int .u32 s, .slice (some ⟨gh, 0, none⟩) 1 1] 54)).heap[mm]? = some (.map #[] c)) := ⟨h.keep T1, T1, R1, hr.keep T1, T1.heapN hmm⟩
  clear h T1 R1 hr hmm
  go_enter Try.func16, Try.ntmps16
  go_wp2_with fail
  generalize w.alloc (.cells #[.int .u16 m, .int .u8 o, .int .u8 1, .int .u32 s, .slice (some ⟨gh, 0, none⟩) 1 1] 54) = wa at *
  obtain ⟨gp, hgp⟩ : ∃ g, w.heap.size = g := ⟨_, rfl⟩
  rw [hgp] at HA ⊢
  clear hgp
  obtain ⟨h1, T1, R1, r1, m1⟩ := HA.out
  refine Calls.mono (made_yes wa b x h1 hself) ?_
  rintro e w1 ⟨rfl, rfl⟩
  have c2 : wa.cell? ⟨b, 2, none⟩ = some (.int .u16 0) := (h1.cell 2).trans (by show some (Value.int .u16 x.mtu) = _; rw [hmtu])
  have hb1 := h1.lt
  have p0 : wa.cell? ⟨gp, 0, none⟩ = some (.int .u16 m) := R1.cell 0
  have p1 : wa.cell? ⟨gp, 1, none⟩ = some (.int .u8 o) := R1.cell 1
  have p2 : wa.cell? ⟨gp, 2, none⟩ = some (.int .u8 1) := R1.cell 2
  have p3 : wa.cell? ⟨gp, 3, none⟩ = some (.int .u32 s) := R1.cell 3
  have p4 : wa.cell? ⟨gp, 4, none⟩ = some (.slice (some ⟨gh, 0, none⟩) 1 1) := R1.cell 4
  have hp1 := R1.lt
  go_wp2_with fail
  go_region
  go_upto_region 5 with fail
  have hfl : ∀ w, (Instr.field 79 (.agg #[.func (.func 40) #[.pointer (some ⟨b, 0, none⟩)] #[], .func (.func 41) #[.pointer (some ⟨b, 0, none⟩)] #[], .func (.func 38) #[.pointer (some ⟨b, 0, none⟩)] #[], .nilFunc]) 0).run Try.prog w = .ok (.func (.func 40) #[.pointer (some ⟨b, 0, none⟩)] #[]) w := fun _ => rfl
  have HTN := turn_slave wa.drew.drew b x h1.drew.drew hst hm
  have HCL : Hid (∀ w1, Touch (fun _ => False) wa.drew.drew w1 → Calls Try.prog 40 #[.pointer (some ⟨b, 0, none⟩), .agg #[.int .u16 m, .int .u8 o, .int .u8 1, .int .u32 s, .slice (some ⟨gh, 0, none⟩) 1 1], .slice none 0 0] w1 fun e w' => ∃ v kv, e = .returned (.tuple #[v, .int .i64 0]) ∧ TwoOut w' v ∧ Ads w' b { x with tflags := 1, topts := o, tnum := s, keys := kv, number := s, smtu := x.mtu, sopts := x.opts, sflags := 0, sseq := s, sheads := .slice none 0 0, waited := 0, left := .slice none 0 0, state := 2, asked := 1 } ∧ KR w1.heap.size w' kv ∧ w'.heap[mm]? = some (.map #[⟨K1, .agg #[.int .u16 0, .int .u8 0, .int .u8 1, .int .u32 2, .int .u32 2, .int .i32 (-2147483647), .int .u16 0, .int .u16 0], c⟩] (c + 1)) ∧ Touch (fun k => k = b ∨ k = mm) w1 w') := fun w1 t => exchange_one w1 b mm c gh x m o s (h1.keep (((Touch.refl _ _).drew.drew).trans t)) hm hl hk hw ((((Touch.refl _ _).drew.drew).trans t).heapN m1) hbm (r1.keep (((Touch.refl _ _).drew.drew).trans t)) hgb ht ho hs
  have HT1 : Hid (Touch (fun _ => False) w wa) := T1
  clear HA h1 T1 R1 c2 r1 m1
  go_region_with (first | (go_at_call 28; refine Calls.mono HTN ?_; rintro e w1 ⟨rfl, t1⟩; have z0 := t1.cellN p0; have z1 := t1.cellN p1; have z2 := t1.cellN p2; have z3 := t1.cellN p3; have z4 := t1.cellN p4; have hz := lt_of_cell z0) | (go_at_call 40; refine Calls.mono (HCL.out _ t1) ?_; rintro e w2 ⟨v, kv, rfl, tw, ha, kr, hm2, t2⟩))
  all_goals
    clear p0 p1 p2 p3 p4 z0 z1 z2 z3 z4 hz HCL HTN
    go_wp2_with fail
    refine bodyPost_ret (v := .tuple #[v, .int .i64 0]) (by simp [results, Try.results16, go_sem]) rfl ⟨v, kv, rfl, tw, ha, kr.low (HT1.out.drew.drew.trans t1).size, hm2, ((HT1.out.drew.drew.trans t1).mono (fun _ _ f => f.elim)).trans t2⟩
end Go.Proofs.Ytojlnabhaglejaa
