
/- A description with one head is taken. -/
import Derived.Test.YtojlnabhaglejaaAdTake
import Derived.Deep.DeepCutAuto
namespace Go.Proofs.Ytojlnabhaglejaa
open Go.RowKit
set_option linter.unusedVariables false
set_option maxRecDepth 100000

/-- The head is wanted. -/
structure Wd (w : World) (b mm c gp : Nat) (x : AJ) (m o s : Int) (gh : Nat) (wr : World) : Prop where
  out : ∃ kv, Ads wr b { x with tflags := 1, topts := o, tnum := s, keys := kv } ∧ KR w.heap.size wr kv ∧ wr.heap[mm]? = some (.map #[⟨K1, .agg #[.int .u16 0, .int .u8 0, .int .u8 1, .int .u32 2, .int .u32 2, .int .i32 (-2147483647), .int .u16 0, .int .u16 0], c⟩] (c + 1))
  r : Row wr gp 54 [.int .u16 m, .int .u8 o, .int .u8 1, .int .u32 s, .slice (some ⟨gh, 0, none⟩) 1 1]
  t : Touch (fun k => k = b ∨ k = mm) w wr
set_option maxHeartbeats 8000000 in
theorem take_second (w : World) (b mm c gh : Nat) (x : AJ) (m o s : Int) (h : Ads w b x) (hm : x.master = false) (hl : x.left = .slice none 0 0) (hk : x.keys = .slice none 0 0) (hw : x.wm = .map (some mm)) (hmm : w.heap[mm]? = some (.map #[] c)) (hbm : b ≠ mm) (hr : Row w gh 50 [.int .u16 0, .int .u8 0, .int .u8 1, .int .u32 2, .int .u32 2, .int .i32 (-2147483647), .int .u16 0, .int .u16 0]) (hgb : gh ≠ b) :
    Calls Try.prog 50 #[.pointer (some ⟨b, 0, none⟩), .agg #[.int .u16 m, .int .u8 o, .int .u8 1, .int .u32 s, .slice (some ⟨gh, 0, none⟩) 1 1], .slice none 0 0] w fun e w' => ∃ v kv, e = .returned v ∧ TwoOut w' v ∧ Ads w' b { x with tflags := 1, topts := o, tnum := s, keys := kv, number := s, smtu := x.mtu, sopts := x.opts, sflags := 0, sseq := s, sheads := .slice none 0 0, waited := 0, left := .slice none 0 0, state := 2, asked := 1 } ∧ KR w.heap.size w' kv ∧ w'.heap[mm]? = some (.map #[⟨K1, .agg #[.int .u16 0, .int .u8 0, .int .u8 1, .int .u32 2, .int .u32 2, .int .i32 (-2147483647), .int .u16 0, .int .u16 0], c⟩] (c + 1)) ∧ Touch (fun k => k = b ∨ k = mm) w w' := by
  have HR : Hid (Row w gh 50 [.int .u16 0, .int .u8 0, .int .u8 1, .int .u32 2, .int .u32 2, .int .i32 (-2147483647), .int .u16 0, .int .u16 0]) := hr
  have HMM : Hid (w.heap[mm]? = some (.map #[] c)) := hmm
  clear hr hmm
  have HA : Hid (Ads w b x) := h
  have hbw := h.lt
  have T0 : Touch (fun _ => False) w (w.alloc (.cells #[.int .u16 m, .int .u8 o, .int .u8 1, .int .u32 s, .slice (some ⟨gh, 0, none⟩) 1 1] 54)) := (Touch.refl _ _).alloc _
  have R0 : Row (w.alloc (.cells #[.int .u16 m, .int .u8 o, .int .u8 1, .int .u32 s, .slice (some ⟨gh, 0, none⟩) 1 1] 54)) w.heap.size 54 [.int .u16 m, .int .u8 o, .int .u8 1, .int .u32 s, .slice (some ⟨gh, 0, none⟩) 1 1] := row_new _ _ _
  obtain ⟨gp, hgp⟩ : ∃ g, w.heap.size = g := ⟨_, rfl⟩
  rw [hgp] at R0
  clear h
  go_enter Try.func50, Try.ntmps50
  go_wp2_with fail
  generalize w.alloc (.cells #[.int .u16 m, .int .u8 o, .int .u8 1, .int .u32 s, .slice (some ⟨gh, 0, none⟩) 1 1] 54) = wa at *
  refine Calls.mono (markOf_any _ m o 1 s (.slice (some ⟨gh, 0, none⟩) 1 1)) ?_
  rintro e w1 ⟨rfl, t1⟩
  have HA1 := HA.out.keep (T0.trans t1)
  have R1 := R0.keep t1
  have T1 := T0.trans t1
  have c17 : w1.cell? ⟨b, 17, none⟩ = some (.int .u8 x.tflags) := HA1.cell 17
  have c18 : w1.cell? ⟨b, 18, none⟩ = some (.int .u8 x.topts) := HA1.cell 18
  have c19 : w1.cell? ⟨b, 19, none⟩ = some (.int .u32 x.tnum) := HA1.cell 19
  have hf := HA1.frozen
  have hb1 := HA1.lt
  have HA2 := ((HA1.set17 1).set18 o).set19 s
  have R2 : Row (((w1.setCell ⟨b, 17, none⟩ (.int .u8 1)).setCell ⟨b, 18, none⟩ (.int .u8 o)).setCell ⟨b, 19, none⟩ (.int .u32 s)) gp 54 [.int .u16 m, .int .u8 o, .int .u8 1, .int .u32 s, .slice (some ⟨gh, 0, none⟩) 1 1] := ((R1.other (by show gp ≠ b; omega) _).other (by show gp ≠ b; omega) _).other (by show gp ≠ b; omega) _
  have t2 : Touch (fun k => k = b) w1 (((w1.setCell ⟨b, 17, none⟩ (.int .u8 1)).setCell ⟨b, 18, none⟩ (.int .u8 o)).setCell ⟨b, 19, none⟩ (.int .u32 s)) := (((Touch.refl (fun k => k = b) w1).setCell (p := ⟨b, 17, none⟩) (Or.inl rfl) _).setCell (p := ⟨b, 18, none⟩) (Or.inl rfl) _).setCell (p := ⟨b, 19, none⟩) (Or.inl rfl) _
  have X2 : Hid (Ads (((w1.setCell ⟨b, 17, none⟩ (.int .u8 1)).setCell ⟨b, 18, none⟩ (.int .u8 o)).setCell ⟨b, 19, none⟩ (.int .u32 s)) b { x with tflags := 1, topts := o, tnum := s } ∧ Touch (fun k => k = b) w (((w1.setCell ⟨b, 17, none⟩ (.int .u8 1)).setCell ⟨b, 18, none⟩ (.int .u8 o)).setCell ⟨b, 19, none⟩ (.int .u32 s))) := ⟨HA2, (T1.mono (fun _ _ f => f.elim)).trans t2⟩
  clear HA1 HA2 T0 T1 R0 t1 t2 R1
  go_wp2_with fail
  generalize ((w1.setCell ⟨b, 17, none⟩ (.int .u8 1)).setCell ⟨b, 18, none⟩ (.int .u8 o)).setCell ⟨b, 19, none⟩ (.int .u32 s) = w2 at *
  clear c17 c18 c19 hf hb1
  refine Calls.mono (byKey_nil w2) ?_
  rintro e w3 ⟨rfl, hm3, t3⟩
  have HA3 := X2.out.1.keep t3
  have T3 := X2.out.2.trans (t3.mono (fun _ _ f => f.elim))
  have R3 := R2.keep t3
  have hmg : w.heap.size ≤ w2.heap.size := X2.out.2.size
  generalize w2.heap.size = gm at *
  have M3 : w3.heap[mm]? = some (.map #[] c) := (T3.block mm (lt_of_heap HMM.out) (fun e => hbm e.symm)).trans HMM.out
  have H3 : Row w3 gh 50 [.int .u16 0, .int .u8 0, .int .u8 1, .int .u32 2, .int .u32 2, .int .i32 (-2147483647), .int .u16 0, .int .u16 0] := (T3.block gh HR.out.lt hgb).trans HR.out
  have hmw := lt_of_heap HMM.out
  have p0 : w3.cell? ⟨gp, 0, none⟩ = some (.int .u16 m) := R3.cell 0
  have p1 : w3.cell? ⟨gp, 1, none⟩ = some (.int .u8 o) := R3.cell 1
  have p2 : w3.cell? ⟨gp, 2, none⟩ = some (.int .u8 1) := R3.cell 2
  have p3 : w3.cell? ⟨gp, 3, none⟩ = some (.int .u32 s) := R3.cell 3
  have p4 : w3.cell? ⟨gp, 4, none⟩ = some (.slice (some ⟨gh, 0, none⟩) 1 1) := R3.cell 4
  have hb3 := HA3.lt
  have hp3 := R3.lt
  have X3 : Hid (Ads w3 b { x with tflags := 1, topts := o, tnum := s } ∧ Touch (fun k => k = b) w w3 ∧ Row w3 gp 54 [.int .u16 m, .int .u8 o, .int .u8 1, .int .u32 s, .slice (some ⟨gh, 0, none⟩) 1 1] ∧ w3.heap[mm]? = some (.map #[] c) ∧ Row w3 gh 50 [.int .u16 0, .int .u8 0, .int .u8 1, .int .u32 2, .int .u32 2, .int .i32 (-2147483647), .int .u16 0, .int .u16 0] ∧ w3.heap[gm]? = some (.map #[] 0)) := ⟨HA3, T3, R3, M3, H3, hm3⟩
  clear X2 t3 HA3 T3 R2 R3 hm3 M3 H3
  go_wp2_with fail
  clear p0 p1 p2 p3 p4
  go_loopw [23] (fun i wr => (i = .int .i64 0 ∧ wr = w3) ∨ (i = .int .i64 1 ∧ Wd w b mm c gp x m o s gh wr)) (fun i _ => 1 - (intOf i).toNat)
  case atStart => exact Or.inl ⟨rfl, rfl⟩
  case round =>
    rcases hrel with ⟨rfl, rfl⟩ | ⟨rfl, wd⟩
    · obtain ⟨HA3, T3, R3, M3, H3, G3⟩ := X3.out
      have q0 : wr.cell? ⟨gh, 0, none⟩ = some (.int .u16 0) := H3.cell 0
      have q1 : wr.cell? ⟨gh, 1, none⟩ = some (.int .u8 0) := H3.cell 1
      have q2 : wr.cell? ⟨gh, 2, none⟩ = some (.int .u8 1) := H3.cell 2
      have q3 : wr.cell? ⟨gh, 3, none⟩ = some (.int .u32 2) := H3.cell 3
      have q4 : wr.cell? ⟨gh, 4, none⟩ = some (.int .u32 2) := H3.cell 4
      have q5 : wr.cell? ⟨gh, 5, none⟩ = some (.int .i32 (-2147483647)) := H3.cell 5
      have q6 : wr.cell? ⟨gh, 6, none⟩ = some (.int .u16 0) := H3.cell 6
      have q7 : wr.cell? ⟨gh, 7, none⟩ = some (.int .u16 0) := H3.cell 7
      have hg3 := H3.lt
      have hnwr : w.heap.size ≤ wr.heap.size := T3.size
      go_wp2_with fail
      have t5 : Touch (fun _ => False) wr (wr.alloc (.cells #[.int .u16 0, .int .u8 0, .int .u8 1, .int .u32 2, .int .u32 2, .int .i32 (-2147483647), .int .u16 0, .int .u16 0] 50)) := (Touch.refl _ _).alloc _
      have r5 : Row (wr.alloc (.cells #[.int .u16 0, .int .u8 0, .int .u8 1, .int .u32 2, .int .u32 2, .int .i32 (-2147483647), .int .u16 0, .int .u16 0] 50)) wr.heap.size 50 [.int .u16 0, .int .u8 0, .int .u8 1, .int .u32 2, .int .u32 2, .int .i32 (-2147483647), .int .u16 0, .int .u16 0] := row_new _ _ _
      have hs5 : wr.heap.size < (wr.alloc (.cells #[.int .u16 0, .int .u8 0, .int .u8 1, .int .u32 2, .int .u32 2, .int .i32 (-2147483647), .int .u16 0, .int .u16 0] 50)).heap.size := by simp
      generalize wr.alloc (.cells #[.int .u16 0, .int .u8 0, .int .u8 1, .int .u32 2, .int .u32 2, .int .i32 (-2147483647), .int .u16 0, .int .u16 0] 50) = w5 at *
      obtain ⟨g9, hg9⟩ : ∃ g, wr.heap.size = g := ⟨_, rfl⟩
      rw [hg9] at r5 hnwr ⊢
      clear hg9 hs5 q0 q1 q2 q3 q4 q5 q6 q7
      refine Calls.mono (keyOf_one _) ?_
      rintro e w6 ⟨rfl, t6⟩
      have t56 := t5.trans t6
      have r6 := r5.keep t6
      have hl6 := mlook_none (t56.heapN G3)
      unfold K1 at hl6
      have Y6 : Hid (Touch (fun _ => False) wr w6 ∧ Row w6 g9 50 [.int .u16 0, .int .u8 0, .int .u8 1, .int .u32 2, .int .u32 2, .int .i32 (-2147483647), .int .u16 0, .int .u16 0]) := ⟨t56, r6⟩
      clear t5 t6 r5 r6 t56
      go_upto_region 8 with fail
      have t7 : Touch (fun _ => False) wr ((w6.alloc (.cells #[.int .u16 0, .int .u8 0, .int .u8 0, .int .u32 0, .int .u32 0, .int .i32 0, .int .u16 0, .int .u16 0] 50)).drew) := (Y6.out.1.alloc _).drew
      have r7 : Row ((w6.alloc (.cells #[.int .u16 0, .int .u8 0, .int .u8 0, .int .u32 0, .int .u32 0, .int .i32 0, .int .u16 0, .int .u16 0] 50)).drew) g9 50 [.int .u16 0, .int .u8 0, .int .u8 1, .int .u32 2, .int .u32 2, .int .i32 (-2147483647), .int .u16 0, .int .u16 0] := Y6.out.2.keep (((Touch.refl _ _).alloc _).drew)
      have HADD := add_one ((w6.alloc (.cells #[.int .u16 0, .int .u8 0, .int .u8 0, .int .u32 0, .int .u32 0, .int .i32 0, .int .u16 0, .int .u16 0] 50)).drew) b mm c _ (HA3.keep t7) hw hk (t7.heapN M3) hbm
      have q0 : ((w6.alloc (.cells #[.int .u16 0, .int .u8 0, .int .u8 0, .int .u32 0, .int .u32 0, .int .i32 0, .int .u16 0, .int .u16 0] 50)).drew).cell? ⟨g9, 0, none⟩ = some (.int .u16 0) := r7.cell 0
      have q1 : ((w6.alloc (.cells #[.int .u16 0, .int .u8 0, .int .u8 0, .int .u32 0, .int .u32 0, .int .i32 0, .int .u16 0, .int .u16 0] 50)).drew).cell? ⟨g9, 1, none⟩ = some (.int .u8 0) := r7.cell 1
      have q2 : ((w6.alloc (.cells #[.int .u16 0, .int .u8 0, .int .u8 0, .int .u32 0, .int .u32 0, .int .i32 0, .int .u16 0, .int .u16 0] 50)).drew).cell? ⟨g9, 2, none⟩ = some (.int .u8 1) := r7.cell 2
      have q3 : ((w6.alloc (.cells #[.int .u16 0, .int .u8 0, .int .u8 0, .int .u32 0, .int .u32 0, .int .i32 0, .int .u16 0, .int .u16 0] 50)).drew).cell? ⟨g9, 3, none⟩ = some (.int .u32 2) := r7.cell 3
      have q4 : ((w6.alloc (.cells #[.int .u16 0, .int .u8 0, .int .u8 0, .int .u32 0, .int .u32 0, .int .i32 0, .int .u16 0, .int .u16 0] 50)).drew).cell? ⟨g9, 4, none⟩ = some (.int .u32 2) := r7.cell 4
      have q5 : ((w6.alloc (.cells #[.int .u16 0, .int .u8 0, .int .u8 0, .int .u32 0, .int .u32 0, .int .i32 0, .int .u16 0, .int .u16 0] 50)).drew).cell? ⟨g9, 5, none⟩ = some (.int .i32 (-2147483647)) := r7.cell 5
      have q6 : ((w6.alloc (.cells #[.int .u16 0, .int .u8 0, .int .u8 0, .int .u32 0, .int .u32 0, .int .i32 0, .int .u16 0, .int .u16 0] 50)).drew).cell? ⟨g9, 6, none⟩ = some (.int .u16 0) := r7.cell 6
      have q7 : ((w6.alloc (.cells #[.int .u16 0, .int .u8 0, .int .u8 0, .int .u32 0, .int .u32 0, .int .i32 0, .int .u16 0, .int .u16 0] 50)).drew).cell? ⟨g9, 7, none⟩ = some (.int .u16 0) := r7.cell 7
      have hg7 : g9 < (w6.alloc (.cells #[.int .u16 0, .int .u8 0, .int .u8 0, .int .u32 0, .int .u32 0, .int .i32 0, .int .u16 0, .int .u16 0] 50)).heap.size := lt_of_cell (w := (w6.alloc (.cells #[.int .u16 0, .int .u8 0, .int .u8 0, .int .u32 0, .int .u32 0, .int .i32 0, .int .u16 0, .int .u16 0] 50)).drew) q0
      have Z : Hid (∀ w8, (∃ v, Ads w8 b { x with tflags := 1, topts := o, tnum := s, keys := v } ∧ KR ((w6.alloc (.cells #[.int .u16 0, .int .u8 0, .int .u8 0, .int .u32 0, .int .u32 0, .int .i32 0, .int .u16 0, .int .u16 0] 50)).drew).heap.size w8 v ∧ w8.heap[mm]? = some (.map #[⟨K1, .agg #[.int .u16 0, .int .u8 0, .int .u8 1, .int .u32 2, .int .u32 2, .int .i32 (-2147483647), .int .u16 0, .int .u16 0], c⟩] (c + 1)) ∧ Touch (fun k => k = b ∨ k = mm) ((w6.alloc (.cells #[.int .u16 0, .int .u8 0, .int .u8 0, .int .u32 0, .int .u32 0, .int .i32 0, .int .u16 0, .int .u16 0] 50)).drew) w8) → Wd w b mm c gp x m o s gh w8) := by
        rintro w8 ⟨v, ha, kr, hm8, t8⟩
        have R7 := R3.keep t7
        refine ⟨⟨v, ha, kr.low (Nat.le_trans T3.size t7.size), hm8⟩, (t8.block gp R7.lt (fun e => by rcases e with e | e <;> omega)).trans R7, ((T3.mono (fun _ _ e => Or.inl e)).trans (t7.mono (fun _ _ f => f.elim))).trans t8⟩
      clear t7 r7 T3 R3 HA3 M3 G3 H3 hl6 X3
      go_region_with (go_at_call 66; refine Calls.mono HADD ?_; rintro e w8 ⟨rfl, hz⟩)
      all_goals
        have hwd := Z.out _ hz
        clear Z hz HADD
        go_wp2_with fail
        go_roundw
        case rel => exact Or.inr ⟨by go_num, hwd⟩
        case measure => simp [intOf]
    · obtain ⟨kv, HA8, KR8, M8⟩ := wd.out
      have R8 := wd.r
      have T8 : Hid (Touch (fun k => k = b ∨ k = mm) w wr) := wd.t
      have p0 : wr.cell? ⟨gp, 0, none⟩ = some (.int .u16 m) := R8.cell 0
      have p1 : wr.cell? ⟨gp, 1, none⟩ = some (.int .u8 o) := R8.cell 1
      have p2 : wr.cell? ⟨gp, 2, none⟩ = some (.int .u8 1) := R8.cell 2
      have p3 : wr.cell? ⟨gp, 3, none⟩ = some (.int .u32 s) := R8.cell 3
      have p4 : wr.cell? ⟨gp, 4, none⟩ = some (.slice (some ⟨gh, 0, none⟩) 1 1) := R8.cell 4
      have hp8 := R8.lt
      have c15 : wr.cell? ⟨b, 15, none⟩ = some (.bool false) := by rw [← hm]; exact HA8.cell 15
      have hb8 := HA8.lt
      have HFO : Hid (Calls Try.prog 68 #[.pointer (some ⟨b, 0, none⟩), .agg #[.int .u16 m, .int .u8 o, .int .u8 1, .int .u32 s, .slice (some ⟨gh, 0, none⟩) 1 1]] wr fun e w' => ∃ v, e = .returned v ∧ TwoOut w' v ∧ Ads w' b { x with tflags := 1, topts := o, tnum := s, keys := kv, number := s, smtu := x.mtu, sopts := x.opts, sflags := 0, sseq := s, sheads := .slice none 0 0, waited := 0, left := .slice none 0 0, state := 2, asked := 1 } ∧ Touch (fun k => k = b) wr w') := follow_last w.heap.size wr b _ m o s _ HA8 hm hl KR8 hbw
      have HM8 : Hid (wr.heap[mm]? = some (.map #[⟨K1, .agg #[.int .u16 0, .int .u8 0, .int .u8 1, .int .u32 2, .int .u32 2, .int .i32 (-2147483647), .int .u16 0, .int .u16 0], c⟩] (c + 1)) ∧ KR w.heap.size wr kv) := ⟨M8, KR8⟩
      clear wd R8 HA8 KR8 M8 X3
      go_wp2_with fail
      refine Calls.mono HFO.out ?_
      rintro e w9 ⟨v, rfl, tw, ha, t9⟩
      clear p0 p1 p2 p3 p4 c15 hp8 hb8 HFO
      go_wp2_with fail
      go_ret
      refine ⟨v, kv, rfl, tw, ha, own_touch HM8.out.2 t9 (fun k hk' e => by have := (HM8.out.2.lt k hk').1; omega), (t9.block mm (lt_of_heap HM8.out.1) (fun e => hbm e.symm)).trans HM8.out.1, T8.out.trans (t9.mono (fun _ _ e => Or.inl e))⟩
end Go.Proofs.Ytojlnabhaglejaa
