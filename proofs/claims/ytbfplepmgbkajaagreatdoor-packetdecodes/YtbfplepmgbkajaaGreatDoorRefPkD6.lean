/- The document's side of stage 7: Decode. -/
import Derived.Test.YtbfplepmgbkajaaGreatDoorRefPkD5
import Derived.Test.YtbfplepmgbkajaaGreatDoorRefSum
import Derived.Deep.DeepCutAuto
namespace Go.Proofs.YtbfplepmgbkajaaGreatDoor
open Go.RowKit
set_option linter.unusedVariables false
set_option maxRecDepth 100000

/-- What Decode answers. -/
structure DdP (w : World) (rs : List Int) (e : Ending) (w' : World) : Prop where
 t : Touch (fun _ => False) w w'
 out : ∃ vn vd vk vs vh, e = .returned (.tuple #[(pdecC rs).P.v vn vd vk vs vh, (pdecA rs).v, .int .i64 (pdecE rs)]) ∧ PkAt w' (pdecC rs) vn vd vk vs vh
theorem ddp_no {w w' : World} {rs : List Int} {E : Int} (hE : pdecE rs = E) (hn : E ≠ 0) (t : Touch (fun _ => False) w w') : DdP w rs (.returned (.tuple #[.agg #[.int .u8 0, .int .u32 0, .int .u32 0, .int .u32 0, .int .u16 0, .int .u8 0, .int .u8 0, .int .u32 0, .int .u32 0, .int .u32 0, .slice none 0 0, .int .u16 0, .int .u8 0, .int .u8 0, .int .u32 0, .slice none 0 0, .slice none 0 0, .slice none 0 0, .slice none 0 0], .agg #[.int .u16 0, .int .u8 0, .int .u8 0, .int .u8 0, .int .u8 0, .int .u8 0, .int .u8 0, .int .u8 0, .int .u8 0], .int .i64 E])) w' := by
 have h0 : pdecE rs ≠ 0 := by rw [hE]; exact hn
 have e1 : pdecC rs = PkC.zero := by unfold pdecC; rw [if_neg h0]
 have e2 : pdecA rs = AuV.zero := by unfold pdecA; rw [if_neg h0]
 refine ⟨t, .slice none 0 0, .slice none 0 0, .slice none 0 0, .slice none 0 0, .slice none 0 0, ?_, ?_⟩
 ·rw [e1, e2, hE]; rfl
 ·rw [e1]; exact nil_at w' PV.zero
/-- An Auth whose first j bytes are laid. -/
def auL (kd d0 d1 d2 d3 d4 d5 d6 d7 : Int) (j : Nat) : List Value := [.int .u16 kd, .int .u8 (if 0 < j then d0 else 0), .int .u8 (if 1 < j then d1 else 0), .int .u8 (if 2 < j then d2 else 0), .int .u8 (if 3 < j then d3 else 0), .int .u8 (if 4 < j then d4 else 0), .int .u8 (if 5 < j then d5 else 0), .int .u8 (if 6 < j then d6 else 0), .int .u8 (if 7 < j then d7 else 0)]
structure DcR (g7 : Nat) (w0 : World) (kd d0 d1 d2 d3 d4 d5 d6 d7 : Int) (gg : Nat) (i : Value) (wr : World) : Prop where
 out : ∃ j : Nat, j ≤ 8 ∧ gg = 8 - j ∧ i = .int .i64 (j : Int) ∧ Row wr g7 36 (auL kd d0 d1 d2 d3 d4 d5 d6 d7 j) ∧ Touch (fun _ => False) w0 wr
set_option maxHeartbeats 2000000 in
theorem ddec_len (v : Value) (rs : List Int) (w : World) (hv : ArgAt w v rs) (hby : ∀ z ∈ rs, 0 ≤ z ∧ z < 256) (hl : rs.length ≤ 1000000) (hE : pLenE rs ≠ 0) : Calls Tryz.prog 18 #[v] w (DdP w rs) := by
 obtain ⟨va, vc, rfl, -⟩ := hv.form
 obtain ⟨w0, hw0⟩ : ∃ w0, w0 = (w.alloc (.cells #[.int .u8 0, .int .u32 0, .int .u32 0, .int .u32 0, .int .u16 0, .int .u8 0, .int .u8 0, .int .u32 0, .int .u32 0, .int .u32 0, .slice none 0 0, .int .u16 0, .int .u8 0, .int .u8 0, .int .u32 0, .slice none 0 0, .slice none 0 0, .slice none 0 0, .slice none 0 0] 33)).alloc (.cells #[.int .u16 0, .int .u8 0, .int .u8 0, .int .u8 0, .int .u8 0, .int .u8 0, .int .u8 0, .int .u8 0, .int .u8 0] 36) := ⟨_, rfl⟩
 have ta : Touch (fun _ => False) w w0 := by rw [hw0]; exact ((Touch.refl _ w).alloc _).alloc _
 have A0 : Row w0 w.heap.size 33 [.int .u8 0, .int .u32 0, .int .u32 0, .int .u32 0, .int .u16 0, .int .u8 0, .int .u8 0, .int .u32 0, .int .u32 0, .int .u32 0, .slice none 0 0, .int .u16 0, .int .u8 0, .int .u8 0, .int .u32 0, .slice none 0 0, .slice none 0 0, .slice none 0 0, .slice none 0 0] := by rw [hw0]; exact (row_new w 33 #[.int .u8 0, .int .u32 0, .int .u32 0, .int .u32 0, .int .u16 0, .int .u8 0, .int .u8 0, .int .u32 0, .int .u32 0, .int .u32 0, .slice none 0 0, .int .u16 0, .int .u8 0, .int .u8 0, .int .u32 0, .slice none 0 0, .slice none 0 0, .slice none 0 0, .slice none 0 0]).keep ((Touch.refl _ _).alloc _)
 have B0 : Row w0 (w.heap.size + 1) 36 [.int .u16 0, .int .u8 0, .int .u8 0, .int .u8 0, .int .u8 0, .int .u8 0, .int .u8 0, .int .u8 0, .int .u8 0] := by
  have := row_new (w.alloc (.cells #[.int .u8 0, .int .u32 0, .int .u32 0, .int .u32 0, .int .u16 0, .int .u8 0, .int .u8 0, .int .u32 0, .int .u32 0, .int .u32 0, .slice none 0 0, .int .u16 0, .int .u8 0, .int .u8 0, .int .u32 0, .slice none 0 0, .slice none 0 0, .slice none 0 0, .slice none 0 0] 33)) 36 #[.int .u16 0, .int .u8 0, .int .u8 0, .int .u8 0, .int .u8 0, .int .u8 0, .int .u8 0, .int .u8 0, .int .u8 0]
  rw [← hw0] at this
  simpa using this
 have TA : Hid (Touch (fun _ => False) w w0) := ta
 have HZ0 : Hid (w0.heap.size = w.heap.size + 2) := by show _ = _; rw [hw0]; simp
 have BK2 : Hid (∀ w', Touch (fun _ => False) w0 w' → Row w' w.heap.size 33 [.int .u8 0, .int .u32 0, .int .u32 0, .int .u32 0, .int .u16 0, .int .u8 0, .int .u8 0, .int .u32 0, .int .u32 0, .int .u32 0, .slice none 0 0, .int .u16 0, .int .u8 0, .int .u8 0, .int .u32 0, .slice none 0 0, .slice none 0 0, .slice none 0 0, .slice none 0 0]) := fun w' t => A0.keep t
 have BK3 : Hid (∀ w', Touch (fun _ => False) w0 w' → Row w' (w.heap.size + 1) 36 [.int .u16 0, .int .u8 0, .int .u8 0, .int .u8 0, .int .u8 0, .int .u8 0, .int .u8 0, .int .u8 0, .int .u8 0]) := fun w' t => B0.keep t
 have HV' : Hid (∀ w', Touch (fun _ => False) w0 w' → ArgAt w' (.slice va rs.length vc) rs) := fun w' t => hv.keepN (ta.trans t)
 have HBY : Hid (∀ z ∈ rs, 0 ≤ z ∧ z < 256) := hby
 have HL := dlen_any _ rs w0 (HV'.out w0 (Touch.refl _ _)) hby
 have HE : Hid (pdecE rs = pLenE rs) := by show _ = _; unfold pdecE; rw [if_pos hE]
 have HEN : Hid (pLenE rs ≠ 0) := hE
 have hEb : (pLenE rs != 0) = true := by simpa using hE
 generalize pLenE rs = E at *
 generalize pLenN rs = N at *
 clear ta A0 B0 hv hby hE
 go_enter Tryz.func18, Tryz.ntmps18
 go_upto_region 1 with fail
 rw [← hw0]
 clear hw0
 have ng32 : ¬ w.heap.size + 1 = w.heap.size := by omega
 have ng23 : ¬ w.heap.size = w.heap.size + 1 := by omega
 generalize hg3 : w.heap.size + 1 = g3 at *
 generalize hg2 : w.heap.size = g2 at *
 have HZ : Hid (w.heap.size = g2 ∧ g2 + 1 = g3) := ⟨hg2, hg3⟩
 clear hg2 hg3
 go_wp2_with fail
 refine Calls.mono HL ?_
 rintro e w1 ⟨rfl, nn, rfl⟩
 have T1 : Hid (Touch (fun _ => False) w0 (w0.drewN nn)) := (Touch.refl _ _).drewN nn
 generalize w0.drewN nn = w1 at *
 clear HL
 have R2e : Row w1 g2 33 [.int .u8 0, .int .u32 0, .int .u32 0, .int .u32 0, .int .u16 0, .int .u8 0, .int .u8 0, .int .u32 0, .int .u32 0, .int .u32 0, .slice none 0 0, .int .u16 0, .int .u8 0, .int .u8 0, .int .u32 0, .slice none 0 0, .slice none 0 0, .slice none 0 0, .slice none 0 0] := BK2.out _ T1.out
 have R3e : Row (w1.setRow g2 #[.int .u8 0, .int .u32 0, .int .u32 0, .int .u32 0, .int .u16 0, .int .u8 0, .int .u8 0, .int .u32 0, .int .u32 0, .int .u32 0, .slice none 0 0, .int .u16 0, .int .u8 0, .int .u8 0, .int .u32 0, .slice none 0 0, .slice none 0 0, .slice none 0 0, .slice none 0 0]) g3 36 [.int .u16 0, .int .u8 0, .int .u8 0, .int .u8 0, .int .u8 0, .int .u8 0, .int .u8 0, .int .u8 0, .int .u8 0] := (BK3.out _ T1.out).otherRow ng32 _
 go_wp2_with (first | refine wpList_store_row rfl 33 (.tmp 2) (.tmp 17) rfl g2 #[.int .u8 0, .int .u32 0, .int .u32 0, .int .u32 0, .int .u16 0, .int .u8 0, .int .u8 0, .int .u32 0, .int .u32 0, .int .u32 0, .slice none 0 0, .int .u16 0, .int .u8 0, .int .u8 0, .int .u32 0, .slice none 0 0, .slice none 0 0, .slice none 0 0, .slice none 0 0] rfl rfl 33 _ R2e (by kernel_rfl) rfl (by simp [Value.oneCell']) ?_ | refine wpList_store_row rfl 36 (.tmp 3) (.tmp 18) rfl g3 #[.int .u16 0, .int .u8 0, .int .u8 0, .int .u8 0, .int .u8 0, .int .u8 0, .int .u8 0, .int .u8 0, .int .u8 0] rfl rfl 36 _ R3e (by kernel_rfl) rfl (by simp [Value.oneCell']) ?_)
 refine bodyPost_ret (v := .tuple #[.agg #[.int .u8 0, .int .u32 0, .int .u32 0, .int .u32 0, .int .u16 0, .int .u8 0, .int .u8 0, .int .u32 0, .int .u32 0, .int .u32 0, .slice none 0 0, .int .u16 0, .int .u8 0, .int .u8 0, .int .u32 0, .slice none 0 0, .slice none 0 0, .slice none 0 0, .slice none 0 0], .agg #[.int .u16 0, .int .u8 0, .int .u8 0, .int .u8 0, .int .u8 0, .int .u8 0, .int .u8 0, .int .u8 0, .int .u8 0], .int .i64 E]) ?hr rfl ?_
 case hr => exact results_three (p := 2) (q := 3) (s := 4) rfl _ _ g2 g3 33 36 [.int .u8 0, .int .u32 0, .int .u32 0, .int .u32 0, .int .u16 0, .int .u8 0, .int .u8 0, .int .u32 0, .int .u32 0, .int .u32 0, .slice none 0 0, .int .u16 0, .int .u8 0, .int .u8 0, .int .u32 0, .slice none 0 0, .slice none 0 0, .slice none 0 0, .slice none 0 0] [.int .u16 0, .int .u8 0, .int .u8 0, .int .u8 0, .int .u8 0, .int .u8 0, .int .u8 0, .int .u8 0, .int .u8 0] _ _ _ (by rfl) (by rfl) (by rfl) ((R2e.setRow _).otherRow ng23 _) (R3e.setRow _) Tryz.underlying33 rfl (by kernel_rfl) Tryz.underlying36 rfl (by kernel_rfl)
 exact ddp_no HE.out HEN.out (((TA.out.trans T1.out).setRow (Or.inr (by have := HZ.out; omega)) _).setRow (Or.inr (by have := HZ.out; omega)) _)
theorem dparts7 (P : PV) (v : Value) (c : List Int) (w : World) (hv : ArgAt w v c) (hby : ∀ z ∈ c, 0 ≤ z ∧ z < 256) (hl : c.length ≤ 1000000) : Calls Tryz.prog 74 #[P.v (.slice none 0 0) (.slice none 0 0) (.slice none 0 0) (.slice none 0 0) (.slice none 0 0), v] w (DpP w P c) := by
 exact dparts_any P v c w hv hby hl
end Go.Proofs.YtbfplepmgbkajaaGreatDoor
