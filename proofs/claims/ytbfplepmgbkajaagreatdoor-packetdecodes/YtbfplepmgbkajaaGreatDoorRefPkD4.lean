/- The document's side of stage 7: a Hello that is read. -/
import Derived.Test.YtbfplepmgbkajaaGreatDoorRefPkD3
import Derived.Test.YtbfplepmgbkajaaGreatDoorPkRows
import Derived.Test.YtbfplepmgbkajaaGreatDoorPkHd
namespace Go.Proofs.YtbfplepmgbkajaaGreatDoor
open Go.RowKit
set_option linter.unusedVariables false
set_option maxRecDepth 100000

/-- What hello answers. -/
structure DhP (w : World) (rs : List Int) (e : Ending) (w' : World) : Prop where
 t : Touch (fun _ => False) w w'
 out : (20 ≤ rs.length ∧ rs.length % 4 = 0 ∧ ∃ vn, e = .returned (.tuple #[.agg #[.int .u32 (numOf (rs.take 4)), .int .u16 (numOf ((rs.drop 4).take 2)), .int .u8 (rs.getD 6 0), .int .u8 (rs.getD 7 0), .int .u32 (numOf ((rs.drop 8).take 4)), .int .u32 (numOf ((rs.drop 12).take 4)), .int .u32 (numOf ((rs.drop 16).take 4)), vn], .bool true]) ∧ w'.ownsRow w.heap.size 22 1 vn (cuts 4 numOf (rs.drop 20)).length (wordsC (cuts 4 numOf (rs.drop 20)))) ∨
  (¬ (20 ≤ rs.length ∧ rs.length % 4 = 0) ∧ e = .returned (.tuple #[.agg #[.int .u32 0, .int .u16 0, .int .u8 0, .int .u8 0, .int .u32 0, .int .u32 0, .int .u32 0, .slice none 0 0], .bool false]))
structure DhR (g2 g : Nat) (w : World) (rs : List Int) (n0 n1 m6 m7 n2 n3 n4 : Int) (gg : Nat) (i : Value) (wr : World) : Prop where
 out : ∃ (j : Nat) (na : Option Addr) (nc : Nat), 20 + 4 * j ≤ rs.length ∧ gg = (rs.length - 20) / 4 - j ∧ i = .int .i64 ((20 + 4 * j : Nat) : Int) ∧ Row wr g2 26 [.int .u32 0, .int .u16 0, .int .u8 0, .int .u8 0, .int .u32 0, .int .u32 0, .int .u32 0, .slice none 0 0] ∧ Row wr g 26 [.int .u32 n0, .int .u16 n1, .int .u8 m6, .int .u8 m7, .int .u32 n2, .int .u32 n3, .int .u32 n4, .slice na j nc] ∧ wr.ownsRow (g + 1) 22 1 (.slice na j nc) j (wordsC ((List.range j).map fun i => numOf (cutAt 4 (rs.drop 20) i))) ∧ Touch (fun _ => False) w wr
/-- A row and a slot. -/
theorem results_rs {P : Program} {fn : Func} {p s : Tmp} {ty : TypeId} (h : fn.results = #[.cell p ty, .tmp s]) (tmps : Array Value) (w : World) (g : Nat) (t : TypeId) (cs : List Value) (d : TypeDesc) (v : Value)
  (hp : tmps.getD p undef = .pointer (some ⟨g, 0, none⟩)) (hs : tmps.getD s undef = v) (hg : Row w g t cs)
  (hu : P.underlying ty = some d) (hd : (match d with | .struct _ | .array _ _ => true | _ => false) = true) (hi : (P.info? ty).map (·.size) = some cs.length) :
  (results fn tmps).run P w = .ok (.tuple #[.agg cs.toArray, v]) w := by
 have hp' : tmps[p]?.getD undef = .pointer (some ⟨g, 0, none⟩) := by simpa using hp
 have hs' : tmps[s]?.getD undef = v := by simpa using hs
 simp [results, h, hp', hs', asAddr, run_loadVar_row w g t ty cs.toArray (0, 0) d hg hu hd (by simpa using hi)]
set_option maxHeartbeats 2000000 in
theorem dhello_no (v : Value) (rs : List Int) (w : World) (hv : ArgAt w v rs) (hn : ¬ (20 ≤ rs.length ∧ rs.length % 4 = 0)) : Calls Tryz.prog 113 #[v] w (DhP w rs) := by
 obtain ⟨va, vc, rfl, -⟩ := hv.form
 have A0 : Row (w.alloc (.cells #[.int .u32 0, .int .u16 0, .int .u8 0, .int .u8 0, .int .u32 0, .int .u32 0, .int .u32 0, .slice none 0 0] 26)) w.heap.size 26 [.int .u32 0, .int .u16 0, .int .u8 0, .int .u8 0, .int .u32 0, .int .u32 0, .int .u32 0, .slice none 0 0] := row_new w 26 #[.int .u32 0, .int .u16 0, .int .u8 0, .int .u8 0, .int .u32 0, .int .u32 0, .int .u32 0, .slice none 0 0]
 have FIN : Hid (∀ w', Touch (fun _ => False) w w' → DhP w rs (.returned (.tuple #[.agg #[.int .u32 0, .int .u16 0, .int .u8 0, .int .u8 0, .int .u32 0, .int .u32 0, .int .u32 0, .slice none 0 0], .bool false])) w') := fun w' t => ⟨t, Or.inr ⟨hn, rfl⟩⟩
 have TA : Hid (Touch (fun _ => False) w (w.alloc (.cells #[.int .u32 0, .int .u16 0, .int .u8 0, .int .u8 0, .int .u32 0, .int .u32 0, .int .u32 0, .slice none 0 0] 26))) := (Touch.refl _ w).alloc _
 clear hv
 have h20c : (rs.length : Int) < 20 ∨ (¬ (rs.length : Int) < 20 ∧ ((rs.length : Int).tmod 4 != 0) = true ∧ (((rs.length : Int) % 4) != 0) = true) := by
  by_cases h : rs.length < 20
  ·exact Or.inl (by omega)
  ·have h4 : ¬ ((rs.length : Int) % 4 = 0) := by omega
   exact Or.inr ⟨by omega, by rw [Int.tmod_eq_emod_of_nonneg (by omega)]; simpa using h4, by simpa using h4⟩
 clear hn
 go_enter Tryz.func113, Tryz.ntmps113
 go_upto_region 1 with fail
 generalize w.alloc (.cells #[.int .u32 0, .int .u16 0, .int .u8 0, .int .u8 0, .int .u32 0, .int .u32 0, .int .u32 0, .slice none 0 0] 26) = w0 at *
 generalize hg : w.heap.size = g2 at *
 have HG : Hid (w.heap.size = g2) := hg
 clear hg
 rcases h20c with h20' | ⟨h20', h4t, h4m⟩
 ·go_wp2_with (refine wpList_store_row rfl 26 (.tmp 2) (.tmp 15) rfl g2 #[.int .u32 0, .int .u16 0, .int .u8 0, .int .u8 0, .int .u32 0, .int .u32 0, .int .u32 0, .slice none 0 0] rfl rfl 26 _ A0 (by kernel_rfl) rfl (by simp [Value.oneCell']) ?_)
  refine bodyPost_ret (v := .tuple #[.agg #[.int .u32 0, .int .u16 0, .int .u8 0, .int .u8 0, .int .u32 0, .int .u32 0, .int .u32 0, .slice none 0 0], .bool false]) ?hr rfl ?_
  case hr => exact results_rs (p := 2) (s := 3) rfl _ _ g2 26 [.int .u32 0, .int .u16 0, .int .u8 0, .int .u8 0, .int .u32 0, .int .u32 0, .int .u32 0, .slice none 0 0] _ _ (by rfl) (by rfl) (A0.setRow _) Tryz.underlying26 rfl (by kernel_rfl)
  exact FIN.out _ (TA.out.setRow (Or.inr (by have := HG.out; omega)) _)
 ·go_wp2_with (refine wpList_store_row rfl 26 (.tmp 2) (.tmp 15) rfl g2 #[.int .u32 0, .int .u16 0, .int .u8 0, .int .u8 0, .int .u32 0, .int .u32 0, .int .u32 0, .slice none 0 0] rfl rfl 26 _ A0 (by kernel_rfl) rfl (by simp [Value.oneCell']) ?_)
  refine bodyPost_ret (v := .tuple #[.agg #[.int .u32 0, .int .u16 0, .int .u8 0, .int .u8 0, .int .u32 0, .int .u32 0, .int .u32 0, .slice none 0 0], .bool false]) ?hr rfl ?_
  case hr => exact results_rs (p := 2) (s := 3) rfl _ _ g2 26 [.int .u32 0, .int .u16 0, .int .u8 0, .int .u8 0, .int .u32 0, .int .u32 0, .int .u32 0, .slice none 0 0] _ _ (by rfl) (by rfl) (A0.setRow _) Tryz.underlying26 rfl (by kernel_rfl)
  exact FIN.out _ (TA.out.setRow (Or.inr (by have := HG.out; omega)) _)
set_option maxHeartbeats 8000000 in
theorem dhello_ok (v : Value) (rs : List Int) (w : World) (hv : ArgAt w v rs) (hby : ∀ z ∈ rs, 0 ≤ z ∧ z < 256) (hl : rs.length ≤ 1000000) (h20 : 20 ≤ rs.length) (hm : rs.length % 4 = 0) : Calls Tryz.prog 113 #[v] w (DhP w rs) := by
 obtain ⟨va, vc, rfl, -⟩ := hv.form
 have HV' : Hid (∀ w', Touch (fun _ => False) w w' → ArgAt w' (.slice va rs.length vc) rs) := fun w' t => hv.keepN t
 have HBY : Hid (∀ z ∈ rs, 0 ≤ z ∧ z < 256) := hby
 have h20' : ¬ (rs.length : Int) < 20 := by omega
 have h4m : (((rs.length : Int) % 4) != 0) = false := by
  have : (rs.length : Int) % 4 = 0 := by omega
  simpa using this
 have h4t : ((rs.length : Int).tmod 4 != 0) = false := by rw [Int.tmod_eq_emod_of_nonneg (by omega)]; exact h4m
 obtain ⟨u0, hu0, a0⟩ := cut_to hv rfl (by omega) 4 (by omega)
 have s0 : ∀ w, Sem.run Tryz.prog (Instr.slice 40 (.slice va rs.length vc) none (some (.int .i64 4)) none) w = .ok u0 w := hu0
 obtain ⟨u1, hu1, a1⟩ := cut_mid hv rfl (by omega) 4 6 (by omega) (by omega)
 have s1 : ∀ w, Sem.run Tryz.prog (Instr.slice 40 (.slice va rs.length vc) (some (.int .i64 4)) (some (.int .i64 6)) none) w = .ok u1 w := hu1
 obtain ⟨u2, hu2, a2⟩ := cut_mid hv rfl (by omega) 8 12 (by omega) (by omega)
 have s2 : ∀ w, Sem.run Tryz.prog (Instr.slice 40 (.slice va rs.length vc) (some (.int .i64 8)) (some (.int .i64 12)) none) w = .ok u2 w := hu2
 obtain ⟨u3, hu3, a3⟩ := cut_mid hv rfl (by omega) 12 16 (by omega) (by omega)
 have s3 : ∀ w, Sem.run Tryz.prog (Instr.slice 40 (.slice va rs.length vc) (some (.int .i64 12)) (some (.int .i64 16)) none) w = .ok u3 w := hu3
 obtain ⟨u4, hu4, a4⟩ := cut_mid hv rfl (by omega) 16 20 (by omega) (by omega)
 have s4 : ∀ w, Sem.run Tryz.prog (Instr.slice 40 (.slice va rs.length vc) (some (.int .i64 16)) (some (.int .i64 20)) none) w = .ok u4 w := hu4
 obtain ⟨ga, oa, rfl⟩ := rowAt_some (hv.row (by omega)) (by omega)
 have b6 := rowAt_cell (hv.row (by omega)) 6 (by omega)
 have b7 := rowAt_cell (hv.row (by omega)) 7 (by omega)
 obtain ⟨m6, hm6⟩ : ∃ m, rs.getD 6 0 = m := ⟨_, rfl⟩
 obtain ⟨m7, hm7⟩ : ∃ m, rs.getD 7 0 = m := ⟨_, rfl⟩
 rw [hm6] at b6
 rw [hm7] at b7
 obtain ⟨n0, hn0⟩ : ∃ n, numOf (rs.take 4) = n := ⟨_, rfl⟩
 obtain ⟨n1, hn1⟩ : ∃ n, numOf ((rs.drop 4).take (6 - 4)) = n := ⟨_, rfl⟩
 obtain ⟨n2, hn2⟩ : ∃ n, numOf ((rs.drop 8).take (12 - 8)) = n := ⟨_, rfl⟩
 obtain ⟨n3, hn3⟩ : ∃ n, numOf ((rs.drop 12).take (16 - 12)) = n := ⟨_, rfl⟩
 obtain ⟨n4, hn4⟩ : ∃ n, numOf ((rs.drop 16).take (20 - 16)) = n := ⟨_, rfl⟩
 have hn1b : 0 ≤ n1 ∧ n1 < 65536 := by
  rw [← hn1]
  obtain ⟨q0, q1⟩ := numOf_bound ((rs.drop 4).take (6 - 4)) (fun z hz => hby z (List.mem_of_mem_drop (List.mem_of_mem_take hz)))
  refine ⟨q0, Int.lt_of_lt_of_le q1 ?_⟩
  have : ((rs.drop 4).take (6 - 4)).length = 2 := by simp; omega
  rw [this]
  decide
 have hu16 : IntKind.u16.wrap n1 = n1 := by simp [IntKind.wrap, IntKind.bits, IntKind.signed]; omega
 have FIN : Hid (∀ w' vn, Touch (fun _ => False) w w' → w'.ownsRow w.heap.size 22 1 vn (cuts 4 numOf (rs.drop 20)).length (wordsC (cuts 4 numOf (rs.drop 20))) → DhP w rs (.returned (.tuple #[.agg #[.int .u32 n0, .int .u16 n1, .int .u8 m6, .int .u8 m7, .int .u32 n2, .int .u32 n3, .int .u32 n4, vn], .bool true])) w') := fun w' vn t h => ⟨t, Or.inl ⟨h20, hm, vn, by rw [← hn0, ← hn1, ← hn2, ← hn3, ← hn4, ← hm6, ← hm7], h⟩⟩
 have A0 : Row (w.alloc (.cells #[.int .u32 0, .int .u16 0, .int .u8 0, .int .u8 0, .int .u32 0, .int .u32 0, .int .u32 0, .slice none 0 0] 26)) w.heap.size 26 [.int .u32 0, .int .u16 0, .int .u8 0, .int .u8 0, .int .u32 0, .int .u32 0, .int .u32 0, .slice none 0 0] := row_new w 26 #[.int .u32 0, .int .u16 0, .int .u8 0, .int .u8 0, .int .u32 0, .int .u32 0, .int .u32 0, .slice none 0 0]
 have TA : Hid (Touch (fun _ => False) w (w.alloc (.cells #[.int .u32 0, .int .u16 0, .int .u8 0, .int .u8 0, .int .u32 0, .int .u32 0, .int .u32 0, .slice none 0 0] 26))) := (Touch.refl _ w).alloc _
 have hzz : (w.alloc (.cells #[.int .u32 0, .int .u16 0, .int .u8 0, .int .u8 0, .int .u32 0, .int .u32 0, .int .u32 0, .slice none 0 0] 26)).heap.size = w.heap.size + 1 := by simp
 have h6' : (6 : Int) < (rs.length : Int) := by omega
 have h7' : (7 : Int) < (rs.length : Int) := by omega
 go_enter Tryz.func113, Tryz.ntmps113
 go_upto_region 3 with fail
 generalize w.alloc (.cells #[.int .u32 0, .int .u16 0, .int .u8 0, .int .u8 0, .int .u32 0, .int .u32 0, .int .u32 0, .slice none 0 0] 26) = x at *
 generalize hg : w.heap.size = g2 at *
 have HG : Hid (w.heap.size = g2 ∧ x.heap.size = g2 + 1) := ⟨hg, hzz⟩
 have Y6 : Hid (∀ w', Touch (fun _ => False) x w' → w'.cell? ⟨ga, oa + 6, none⟩ = some (.int .u8 m6)) := fun w' t => (TA.out.trans t).cellN b6
 have Y7 : Hid (∀ w', Touch (fun _ => False) x w' → w'.cell? ⟨ga, oa + 7, none⟩ = some (.int .u8 m7)) := fun w' t => (TA.out.trans t).cellN b7
 have HN0 : Hid (∀ w', Touch (fun _ => False) x w' → Calls Tryz.prog 73 #[u0] w' fun e w'' => e = .returned (.int .u32 n0) ∧ w' = w'') := fun w' t => by
  have := pnumber_any u0 (rs.take 4) w' (a0.keepN (TA.out.trans t)) (fun z hz => hby z (List.mem_of_mem_take hz)) (by simp; omega)
  rw [hn0] at this
  exact this
 have HN1 : Hid (∀ w', Touch (fun _ => False) x w' → Calls Tryz.prog 73 #[u1] w' fun e w'' => e = .returned (.int .u32 n1) ∧ w' = w'') := fun w' t => by
  have := pnumber_any u1 ((rs.drop 4).take (6 - 4)) w' (a1.keepN (TA.out.trans t)) (fun z hz => hby z (List.mem_of_mem_drop (List.mem_of_mem_take hz))) (by simp; omega)
  rw [hn1] at this
  exact this
 have HN2 : Hid (∀ w', Touch (fun _ => False) x w' → Calls Tryz.prog 73 #[u2] w' fun e w'' => e = .returned (.int .u32 n2) ∧ w' = w'') := fun w' t => by
  have := pnumber_any u2 ((rs.drop 8).take (12 - 8)) w' (a2.keepN (TA.out.trans t)) (fun z hz => hby z (List.mem_of_mem_drop (List.mem_of_mem_take hz))) (by simp; omega)
  rw [hn2] at this
  exact this
 have HN3 : Hid (∀ w', Touch (fun _ => False) x w' → Calls Tryz.prog 73 #[u3] w' fun e w'' => e = .returned (.int .u32 n3) ∧ w' = w'') := fun w' t => by
  have := pnumber_any u3 ((rs.drop 12).take (16 - 12)) w' (a3.keepN (TA.out.trans t)) (fun z hz => hby z (List.mem_of_mem_drop (List.mem_of_mem_take hz))) (by simp; omega)
  rw [hn3] at this
  exact this
 have HN4 : Hid (∀ w', Touch (fun _ => False) x w' → Calls Tryz.prog 73 #[u4] w' fun e w'' => e = .returned (.int .u32 n4) ∧ w' = w'') := fun w' t => by
  have := pnumber_any u4 ((rs.drop 16).take (20 - 16)) w' (a4.keepN (TA.out.trans t)) (fun z hz => hby z (List.mem_of_mem_drop (List.mem_of_mem_take hz))) (by simp; omega)
  rw [hn4] at this
  exact this
 have Sa : Touch (fun _ => False) x x.drew := (Touch.refl _ _).drew
 have Sb : Touch (fun _ => False) x ((x.alloc (.cells #[.int .u32 0, .int .u16 0, .int .u8 0, .int .u8 0, .int .u32 0, .int .u32 0, .int .u32 0, .slice none 0 0] 26)).drew) := ((Touch.refl _ _).alloc _).drew
 have RB : Hid (Row ((x.alloc (.cells #[.int .u32 0, .int .u16 0, .int .u8 0, .int .u8 0, .int .u32 0, .int .u32 0, .int .u32 0, .slice none 0 0] 26)).drew) x.heap.size 26 [.int .u32 0, .int .u16 0, .int .u8 0, .int .u8 0, .int .u32 0, .int .u32 0, .int .u32 0, .slice none 0 0]) := (row_new x 26 #[.int .u32 0, .int .u16 0, .int .u8 0, .int .u8 0, .int .u32 0, .int .u32 0, .int .u32 0, .slice none 0 0]).keep ((Touch.refl _ _).drew)
 obtain ⟨g, hgx⟩ : ∃ g, x.heap.size = g := ⟨_, rfl⟩
 have HGX : Hid (g = g2 + 1) := by show _ = _; rw [← hgx]; exact hzz
 have Sc : Touch (fun _ => False) x (((x.alloc (.cells #[.int .u32 0, .int .u16 0, .int .u8 0, .int .u8 0, .int .u32 0, .int .u32 0, .int .u32 0, .slice none 0 0] 26)).drew).setRow g #[.int .u32 n0, .int .u16 n1, .int .u8 m6, .int .u8 m7, .int .u32 n2, .int .u32 n3, .int .u32 n4, .slice none 0 0]) := Sb.setRow (Or.inr (by have := HGX.out; omega)) _
 rw [hgx] at RB
 clear hv hby hu0 hu1 hu2 hu3 hu4 a0 a1 a2 a3 a4 b6 b7 hn0 hn1 hn2 hn3 hn4 hm6 hm7 hn1b hg hzz
 go_cut [4] (fun s4 wx => s4 = .pointer (some ⟨g, 0, none⟩) ∧ Row wx g 26 [.int .u32 n0, .int .u16 n1, .int .u8 m6, .int .u8 m7, .int .u32 n2, .int .u32 n3, .int .u32 n4, .slice none 0 0] ∧ Hid (Touch (fun _ => False) x wx))
 case first =>
  have RW : Row (((x.alloc (.cells #[.int .u32 0, .int .u16 0, .int .u8 0, .int .u8 0, .int .u32 0, .int .u32 0, .int .u32 0, .slice none 0 0] 26)).drew).setRow g #[.int .u32 n0, .int .u16 n1, .int .u8 m6, .int .u8 m7, .int .u32 n2, .int .u32 n3, .int .u32 n4, .slice none 0 0]) g 26 [.int .u32 n0, .int .u16 n1, .int .u8 m6, .int .u8 m7, .int .u32 n2, .int .u32 n3, .int .u32 n4, .slice none 0 0] := RB.out.setRow _
  refine wp_region_held_drew (S := fun w' => Touch (fun _ => False) x w') (by kernel_rfl) Sa (fun hHeld => ?_)
  refine wpAnyH_take (i := 0) (oi := ⟨some 16, _, _, _, _, _⟩) (v := .slice (some ⟨ga, oa, none⟩) rs.length vc) rfl (by kernel_rfl) (by kernel_rfl) (by kernel_rfl) (fun _ _ _ h => h) (Or.inl ⟨by rfl, fun w hw => by go_simp⟩) (by assumption) ?_
  simp only [Act.put, List.setIfInBounds_toArray, List.set_cons_zero, List.set_cons_succ]
  refine wpAnyH_take (i := 1) (oi := ⟨some 17, _, _, _, _, _⟩) (v := u0) rfl (by kernel_rfl) (by kernel_rfl) (by kernel_rfl) (fun _ _ _ h => h) (Or.inl ⟨by rfl, fun w hw => by go_simp⟩) (by assumption) ?_
  simp only [Act.put, List.setIfInBounds_toArray, List.set_cons_zero, List.set_cons_succ]
  refine wpAnyH_take (i := 3) (oi := ⟨some 19, _, _, _, _, _⟩) (v := .slice (some ⟨ga, oa, none⟩) rs.length vc) rfl (by kernel_rfl) (by kernel_rfl) (by kernel_rfl) (fun _ _ _ h => h) (Or.inl ⟨by rfl, fun w hw => by go_simp⟩) (by assumption) ?_
  simp only [Act.put, List.setIfInBounds_toArray, List.set_cons_zero, List.set_cons_succ]
  refine wpAnyH_take (i := 4) (oi := ⟨some 20, _, _, _, _, _⟩) (v := u1) rfl (by kernel_rfl) (by kernel_rfl) (by kernel_rfl) (fun _ _ _ h => h) (Or.inl ⟨by rfl, fun w hw => by go_simp⟩) (by assumption) ?_
  simp only [Act.put, List.setIfInBounds_toArray, List.set_cons_zero, List.set_cons_succ]
  refine wpAnyH_take (i := 7) (oi := ⟨some 23, _, _, _, _, _⟩) (v := .slice (some ⟨ga, oa, none⟩) rs.length vc) rfl (by kernel_rfl) (by kernel_rfl) (by kernel_rfl) (fun _ _ _ h => h) (Or.inl ⟨by rfl, fun w hw => by go_simp⟩) (by assumption) ?_
  simp only [Act.put, List.setIfInBounds_toArray, List.set_cons_zero, List.set_cons_succ]
  refine wpAnyH_take (i := 8) (oi := ⟨some 24, _, _, _, _, _⟩) (v := .pointer (some ⟨ga, oa + 6, none⟩)) rfl (by kernel_rfl) (by kernel_rfl) (by kernel_rfl) (fun _ _ _ h => h) (Or.inl ⟨by rfl, fun w hw => by go_simp <;> first | omega | (intro hh; omega)⟩) (by assumption) ?_
  simp only [Act.put, List.setIfInBounds_toArray, List.set_cons_zero, List.set_cons_succ]
  refine wpAnyH_take (i := 9) (oi := ⟨some 25, _, _, _, _, _⟩) (v := .int .u8 m6) rfl (by kernel_rfl) (by kernel_rfl) (by kernel_rfl) (fun _ _ _ h => h) (Or.inl ⟨by rfl, fun w hw => by have kk := Y6.out w hw; go_simp⟩) (by assumption) ?_
  simp only [Act.put, List.setIfInBounds_toArray, List.set_cons_zero, List.set_cons_succ]
  refine wpAnyH_take (i := 10) (oi := ⟨some 26, _, _, _, _, _⟩) (v := .slice (some ⟨ga, oa, none⟩) rs.length vc) rfl (by kernel_rfl) (by kernel_rfl) (by kernel_rfl) (fun _ _ _ h => h) (Or.inl ⟨by rfl, fun w hw => by go_simp⟩) (by assumption) ?_
  simp only [Act.put, List.setIfInBounds_toArray, List.set_cons_zero, List.set_cons_succ]
  refine wpAnyH_take (i := 11) (oi := ⟨some 27, _, _, _, _, _⟩) (v := .pointer (some ⟨ga, oa + 7, none⟩)) rfl (by kernel_rfl) (by kernel_rfl) (by kernel_rfl) (fun _ _ _ h => h) (Or.inl ⟨by rfl, fun w hw => by go_simp <;> first | omega | (intro hh; omega)⟩) (by assumption) ?_
  simp only [Act.put, List.setIfInBounds_toArray, List.set_cons_zero, List.set_cons_succ]
  refine wpAnyH_take (i := 12) (oi := ⟨some 28, _, _, _, _, _⟩) (v := .int .u8 m7) rfl (by kernel_rfl) (by kernel_rfl) (by kernel_rfl) (fun _ _ _ h => h) (Or.inl ⟨by rfl, fun w hw => by have kk := Y7.out w hw; go_simp⟩) (by assumption) ?_
  simp only [Act.put, List.setIfInBounds_toArray, List.set_cons_zero, List.set_cons_succ]
  refine wpAnyH_take (i := 13) (oi := ⟨some 29, _, _, _, _, _⟩) (v := .slice (some ⟨ga, oa, none⟩) rs.length vc) rfl (by kernel_rfl) (by kernel_rfl) (by kernel_rfl) (fun _ _ _ h => h) (Or.inl ⟨by rfl, fun w hw => by go_simp⟩) (by assumption) ?_
  simp only [Act.put, List.setIfInBounds_toArray, List.set_cons_zero, List.set_cons_succ]
  refine wpAnyH_take (i := 14) (oi := ⟨some 30, _, _, _, _, _⟩) (v := u2) rfl (by kernel_rfl) (by kernel_rfl) (by kernel_rfl) (fun _ _ _ h => h) (Or.inl ⟨by rfl, fun w hw => by go_simp⟩) (by assumption) ?_
  simp only [Act.put, List.setIfInBounds_toArray, List.set_cons_zero, List.set_cons_succ]
  refine wpAnyH_take (i := 16) (oi := ⟨some 32, _, _, _, _, _⟩) (v := .slice (some ⟨ga, oa, none⟩) rs.length vc) rfl (by kernel_rfl) (by kernel_rfl) (by kernel_rfl) (fun _ _ _ h => h) (Or.inl ⟨by rfl, fun w hw => by go_simp⟩) (by assumption) ?_
  simp only [Act.put, List.setIfInBounds_toArray, List.set_cons_zero, List.set_cons_succ]
  refine wpAnyH_take (i := 17) (oi := ⟨some 33, _, _, _, _, _⟩) (v := u3) rfl (by kernel_rfl) (by kernel_rfl) (by kernel_rfl) (fun _ _ _ h => h) (Or.inl ⟨by rfl, fun w hw => by go_simp⟩) (by assumption) ?_
  simp only [Act.put, List.setIfInBounds_toArray, List.set_cons_zero, List.set_cons_succ]
  refine wpAnyH_take (i := 19) (oi := ⟨some 35, _, _, _, _, _⟩) (v := .slice (some ⟨ga, oa, none⟩) rs.length vc) rfl (by kernel_rfl) (by kernel_rfl) (by kernel_rfl) (fun _ _ _ h => h) (Or.inl ⟨by rfl, fun w hw => by go_simp⟩) (by assumption) ?_
  simp only [Act.put, List.setIfInBounds_toArray, List.set_cons_zero, List.set_cons_succ]
  refine wpAnyH_take (i := 20) (oi := ⟨some 36, _, _, _, _, _⟩) (v := u4) rfl (by kernel_rfl) (by kernel_rfl) (by kernel_rfl) (fun _ _ _ h => h) (Or.inl ⟨by rfl, fun w hw => by go_simp⟩) (by assumption) ?_
  simp only [Act.put, List.setIfInBounds_toArray, List.set_cons_zero, List.set_cons_succ]
  refine wpAnyH_ready (rs := [2, 23]) (by kernel_rfl) (by simp) ?_
  refine AllReadyH.cons (o := ⟨some 18, _, _, _, _, _⟩) rfl (fun K hK => ?_) (AllReadyH.cons (o := ⟨some 4, _, _, _, _, _⟩) rfl (fun K hK => ?_) AllReadyH.nil)
  rotate_left
  focus
   go_simp
   refine hK.out _ _ Sb (fun hHeld => ?_)
   clear hK K
   refine wpAnyH_ready (rs := [2]) (by kernel_rfl) (by simp) ?_
   refine AllReadyH.cons (o := ⟨some 18, _, _, _, _, _⟩) rfl (fun K hK => ?_) AllReadyH.nil
   go_simp
   refine Calls.mono (HN0.out _ Sb) ?_
   rintro e wx ⟨rfl, rfl⟩
   refine hK.out _ _ Sb (fun hHeld => ?_)
   clear hK K
   refine wpAnyH_ready (rs := [5]) (by kernel_rfl) (by simp) ?_
   refine AllReadyH.cons (o := ⟨some 21, _, _, _, _, _⟩) rfl (fun K hK => ?_) AllReadyH.nil
   go_simp
   refine Calls.mono (HN1.out _ Sb) ?_
   rintro e wx ⟨rfl, rfl⟩
   refine hK.out _ _ Sb (fun hHeld => ?_)
   clear hK K
   refine wpAnyH_take (i := 6) (oi := ⟨some 22, _, _, _, _, _⟩) (v := .int .u16 n1) rfl (by kernel_rfl) (by kernel_rfl) (by kernel_rfl) (fun _ _ _ h => h) (Or.inl ⟨by rfl, fun w hw => by go_simp⟩) (by assumption) ?_
   simp only [Act.put, List.setIfInBounds_toArray, List.set_cons_zero, List.set_cons_succ]
   refine wpAnyH_ready (rs := [15]) (by kernel_rfl) (by simp) ?_
   refine AllReadyH.cons (o := ⟨some 31, _, _, _, _, _⟩) rfl (fun K hK => ?_) AllReadyH.nil
   go_simp
   refine Calls.mono (HN2.out _ Sb) ?_
   rintro e wx ⟨rfl, rfl⟩
   refine hK.out _ _ Sb (fun hHeld => ?_)
   clear hK K
   refine wpAnyH_ready (rs := [18]) (by kernel_rfl) (by simp) ?_
   refine AllReadyH.cons (o := ⟨some 34, _, _, _, _, _⟩) rfl (fun K hK => ?_) AllReadyH.nil
   go_simp
   refine Calls.mono (HN3.out _ Sb) ?_
   rintro e wx ⟨rfl, rfl⟩
   refine hK.out _ _ Sb (fun hHeld => ?_)
   clear hK K
   refine wpAnyH_ready (rs := [21]) (by kernel_rfl) (by simp) ?_
   refine AllReadyH.cons (o := ⟨some 37, _, _, _, _, _⟩) rfl (fun K hK => ?_) AllReadyH.nil
   go_simp
   refine Calls.mono (HN4.out _ Sb) ?_
   rintro e wx ⟨rfl, rfl⟩
   refine hK.out _ _ Sb (fun hHeld => ?_)
   clear hK K
   refine wpAnyH_take (i := 22) (oi := ⟨some 38, _, _, _, _, _⟩) (v := .agg #[.int .u32 n0, .int .u16 n1, .int .u8 m6, .int .u8 m7, .int .u32 n2, .int .u32 n3, .int .u32 n4, .slice none 0 0]) rfl (by kernel_rfl) (by kernel_rfl) (by kernel_rfl) (fun _ _ _ h => h) (Or.inl ⟨by rfl, fun w hw => by go_simp⟩) (by assumption) ?_
   simp only [Act.put, List.setIfInBounds_toArray, List.set_cons_zero, List.set_cons_succ]
  rotate_left
  focus
   go_simp
   refine Calls.mono (HN0.out _ Sa) ?_
   rintro e wx ⟨rfl, rfl⟩
   refine hK.out _ _ Sa (fun hHeld => ?_)
   clear hK K
   refine wpAnyH_ready (rs := [5, 23]) (by kernel_rfl) (by simp) ?_
   refine AllReadyH.cons (o := ⟨some 21, _, _, _, _, _⟩) rfl (fun K hK => ?_) (AllReadyH.cons (o := ⟨some 4, _, _, _, _, _⟩) rfl (fun K hK => ?_) AllReadyH.nil)
   rotate_left
   focus
    go_simp
    refine hK.out _ _ Sb (fun hHeld => ?_)
    clear hK K
    refine wpAnyH_ready (rs := [5]) (by kernel_rfl) (by simp) ?_
    refine AllReadyH.cons (o := ⟨some 21, _, _, _, _, _⟩) rfl (fun K hK => ?_) AllReadyH.nil
    go_simp
    refine Calls.mono (HN1.out _ Sb) ?_
    rintro e wx ⟨rfl, rfl⟩
    refine hK.out _ _ Sb (fun hHeld => ?_)
    clear hK K
    refine wpAnyH_take (i := 6) (oi := ⟨some 22, _, _, _, _, _⟩) (v := .int .u16 n1) rfl (by kernel_rfl) (by kernel_rfl) (by kernel_rfl) (fun _ _ _ h => h) (Or.inl ⟨by rfl, fun w hw => by go_simp⟩) (by assumption) ?_
    simp only [Act.put, List.setIfInBounds_toArray, List.set_cons_zero, List.set_cons_succ]
    refine wpAnyH_ready (rs := [15]) (by kernel_rfl) (by simp) ?_
    refine AllReadyH.cons (o := ⟨some 31, _, _, _, _, _⟩) rfl (fun K hK => ?_) AllReadyH.nil
    go_simp
    refine Calls.mono (HN2.out _ Sb) ?_
    rintro e wx ⟨rfl, rfl⟩
    refine hK.out _ _ Sb (fun hHeld => ?_)
    clear hK K
    refine wpAnyH_ready (rs := [18]) (by kernel_rfl) (by simp) ?_
    refine AllReadyH.cons (o := ⟨some 34, _, _, _, _, _⟩) rfl (fun K hK => ?_) AllReadyH.nil
    go_simp
    refine Calls.mono (HN3.out _ Sb) ?_
    rintro e wx ⟨rfl, rfl⟩
    refine hK.out _ _ Sb (fun hHeld => ?_)
    clear hK K
    refine wpAnyH_ready (rs := [21]) (by kernel_rfl) (by simp) ?_
    refine AllReadyH.cons (o := ⟨some 37, _, _, _, _, _⟩) rfl (fun K hK => ?_) AllReadyH.nil
    go_simp
    refine Calls.mono (HN4.out _ Sb) ?_
    rintro e wx ⟨rfl, rfl⟩
    refine hK.out _ _ Sb (fun hHeld => ?_)
    clear hK K
    refine wpAnyH_take (i := 22) (oi := ⟨some 38, _, _, _, _, _⟩) (v := .agg #[.int .u32 n0, .int .u16 n1, .int .u8 m6, .int .u8 m7, .int .u32 n2, .int .u32 n3, .int .u32 n4, .slice none 0 0]) rfl (by kernel_rfl) (by kernel_rfl) (by kernel_rfl) (fun _ _ _ h => h) (Or.inl ⟨by rfl, fun w hw => by go_simp⟩) (by assumption) ?_
    simp only [Act.put, List.setIfInBounds_toArray, List.set_cons_zero, List.set_cons_succ]
   rotate_left
   focus
    go_simp
    refine Calls.mono (HN1.out _ Sa) ?_
    rintro e wx ⟨rfl, rfl⟩
    refine hK.out _ _ Sa (fun hHeld => ?_)
    clear hK K
    refine wpAnyH_take (i := 6) (oi := ⟨some 22, _, _, _, _, _⟩) (v := .int .u16 n1) rfl (by kernel_rfl) (by kernel_rfl) (by kernel_rfl) (fun _ _ _ h => h) (Or.inl ⟨by rfl, fun w hw => by go_simp⟩) (by assumption) ?_
    simp only [Act.put, List.setIfInBounds_toArray, List.set_cons_zero, List.set_cons_succ]
    refine wpAnyH_ready (rs := [15, 23]) (by kernel_rfl) (by simp) ?_
    refine AllReadyH.cons (o := ⟨some 31, _, _, _, _, _⟩) rfl (fun K hK => ?_) (AllReadyH.cons (o := ⟨some 4, _, _, _, _, _⟩) rfl (fun K hK => ?_) AllReadyH.nil)
    rotate_left
    focus
     go_simp
     refine hK.out _ _ Sb (fun hHeld => ?_)
     clear hK K
     refine wpAnyH_ready (rs := [15]) (by kernel_rfl) (by simp) ?_
     refine AllReadyH.cons (o := ⟨some 31, _, _, _, _, _⟩) rfl (fun K hK => ?_) AllReadyH.nil
     go_simp
     refine Calls.mono (HN2.out _ Sb) ?_
     rintro e wx ⟨rfl, rfl⟩
     refine hK.out _ _ Sb (fun hHeld => ?_)
     clear hK K
     refine wpAnyH_ready (rs := [18]) (by kernel_rfl) (by simp) ?_
     refine AllReadyH.cons (o := ⟨some 34, _, _, _, _, _⟩) rfl (fun K hK => ?_) AllReadyH.nil
     go_simp
     refine Calls.mono (HN3.out _ Sb) ?_
     rintro e wx ⟨rfl, rfl⟩
     refine hK.out _ _ Sb (fun hHeld => ?_)
     clear hK K
     refine wpAnyH_ready (rs := [21]) (by kernel_rfl) (by simp) ?_
     refine AllReadyH.cons (o := ⟨some 37, _, _, _, _, _⟩) rfl (fun K hK => ?_) AllReadyH.nil
     go_simp
     refine Calls.mono (HN4.out _ Sb) ?_
     rintro e wx ⟨rfl, rfl⟩
     refine hK.out _ _ Sb (fun hHeld => ?_)
     clear hK K
     refine wpAnyH_take (i := 22) (oi := ⟨some 38, _, _, _, _, _⟩) (v := .agg #[.int .u32 n0, .int .u16 n1, .int .u8 m6, .int .u8 m7, .int .u32 n2, .int .u32 n3, .int .u32 n4, .slice none 0 0]) rfl (by kernel_rfl) (by kernel_rfl) (by kernel_rfl) (fun _ _ _ h => h) (Or.inl ⟨by rfl, fun w hw => by go_simp⟩) (by assumption) ?_
     simp only [Act.put, List.setIfInBounds_toArray, List.set_cons_zero, List.set_cons_succ]
    rotate_left
    focus
     go_simp
     refine Calls.mono (HN2.out _ Sa) ?_
     rintro e wx ⟨rfl, rfl⟩
     refine hK.out _ _ Sa (fun hHeld => ?_)
     clear hK K
     refine wpAnyH_ready (rs := [18, 23]) (by kernel_rfl) (by simp) ?_
     refine AllReadyH.cons (o := ⟨some 34, _, _, _, _, _⟩) rfl (fun K hK => ?_) (AllReadyH.cons (o := ⟨some 4, _, _, _, _, _⟩) rfl (fun K hK => ?_) AllReadyH.nil)
     rotate_left
     focus
      go_simp
      refine hK.out _ _ Sb (fun hHeld => ?_)
      clear hK K
      refine wpAnyH_ready (rs := [18]) (by kernel_rfl) (by simp) ?_
      refine AllReadyH.cons (o := ⟨some 34, _, _, _, _, _⟩) rfl (fun K hK => ?_) AllReadyH.nil
      go_simp
      refine Calls.mono (HN3.out _ Sb) ?_
      rintro e wx ⟨rfl, rfl⟩
      refine hK.out _ _ Sb (fun hHeld => ?_)
      clear hK K
      refine wpAnyH_ready (rs := [21]) (by kernel_rfl) (by simp) ?_
      refine AllReadyH.cons (o := ⟨some 37, _, _, _, _, _⟩) rfl (fun K hK => ?_) AllReadyH.nil
      go_simp
      refine Calls.mono (HN4.out _ Sb) ?_
      rintro e wx ⟨rfl, rfl⟩
      refine hK.out _ _ Sb (fun hHeld => ?_)
      clear hK K
      refine wpAnyH_take (i := 22) (oi := ⟨some 38, _, _, _, _, _⟩) (v := .agg #[.int .u32 n0, .int .u16 n1, .int .u8 m6, .int .u8 m7, .int .u32 n2, .int .u32 n3, .int .u32 n4, .slice none 0 0]) rfl (by kernel_rfl) (by kernel_rfl) (by kernel_rfl) (fun _ _ _ h => h) (Or.inl ⟨by rfl, fun w hw => by go_simp⟩) (by assumption) ?_
      simp only [Act.put, List.setIfInBounds_toArray, List.set_cons_zero, List.set_cons_succ]
     rotate_left
     focus
      go_simp
      refine Calls.mono (HN3.out _ Sa) ?_
      rintro e wx ⟨rfl, rfl⟩
      refine hK.out _ _ Sa (fun hHeld => ?_)
      clear hK K
      refine wpAnyH_ready (rs := [21, 23]) (by kernel_rfl) (by simp) ?_
      refine AllReadyH.cons (o := ⟨some 37, _, _, _, _, _⟩) rfl (fun K hK => ?_) (AllReadyH.cons (o := ⟨some 4, _, _, _, _, _⟩) rfl (fun K hK => ?_) AllReadyH.nil)
      rotate_left
      focus
       go_simp
       refine hK.out _ _ Sb (fun hHeld => ?_)
       clear hK K
       refine wpAnyH_ready (rs := [21]) (by kernel_rfl) (by simp) ?_
       refine AllReadyH.cons (o := ⟨some 37, _, _, _, _, _⟩) rfl (fun K hK => ?_) AllReadyH.nil
       go_simp
       refine Calls.mono (HN4.out _ Sb) ?_
       rintro e wx ⟨rfl, rfl⟩
       refine hK.out _ _ Sb (fun hHeld => ?_)
       clear hK K
       refine wpAnyH_take (i := 22) (oi := ⟨some 38, _, _, _, _, _⟩) (v := .agg #[.int .u32 n0, .int .u16 n1, .int .u8 m6, .int .u8 m7, .int .u32 n2, .int .u32 n3, .int .u32 n4, .slice none 0 0]) rfl (by kernel_rfl) (by kernel_rfl) (by kernel_rfl) (fun _ _ _ h => h) (Or.inl ⟨by rfl, fun w hw => by go_simp⟩) (by assumption) ?_
       simp only [Act.put, List.setIfInBounds_toArray, List.set_cons_zero, List.set_cons_succ]
      rotate_left
      focus
       go_simp
       refine Calls.mono (HN4.out _ Sa) ?_
       rintro e wx ⟨rfl, rfl⟩
       refine hK.out _ _ Sa (fun hHeld => ?_)
       clear hK K
       refine wpAnyH_take (i := 22) (oi := ⟨some 38, _, _, _, _, _⟩) (v := .agg #[.int .u32 n0, .int .u16 n1, .int .u8 m6, .int .u8 m7, .int .u32 n2, .int .u32 n3, .int .u32 n4, .slice none 0 0]) rfl (by kernel_rfl) (by kernel_rfl) (by kernel_rfl) (fun _ _ _ h => h) (Or.inl ⟨by rfl, fun w hw => by go_simp⟩) (by assumption) ?_
       simp only [Act.put, List.setIfInBounds_toArray, List.set_cons_zero, List.set_cons_succ]
       refine wpAnyH_ready (rs := [23]) (by kernel_rfl) (by simp) ?_
       refine AllReadyH.cons (o := ⟨some 4, _, _, _, _, _⟩) rfl (fun K hK => ?_) AllReadyH.nil
       go_simp
       refine hK.out _ _ Sb (fun hHeld => ?_)
       clear hK K
  all_goals
   refine wpAnyH_ready (rs := [24]) (by kernel_rfl) (by simp) ?_
   refine AllReadyH.cons rfl (fun K hK => ?_) AllReadyH.nil
   refine step_row (by rfl) 26 (.tmp 4) (.tmp 38) (by rfl) g [.int .u32 n0, .int .u16 n1, .int .u8 m6, .int .u8 m7, .int .u32 n2, .int .u32 n3, .int .u32 n4, .slice none 0 0] (by rfl) (by rfl) 26 _ RB.out (by kernel_rfl) rfl (by simp [Value.oneCell']) ?_
   refine hK.out _ _ Sc (fun hHeld => ?_)
   clear hK K
   refine wpAnyH_done (by kernel_rfl) ?_ _
   go_wp2_with fail
   go_meet
   case rel => exact ⟨rfl, RW, Sc⟩
 case rest =>
  obtain ⟨rfl, RW, TXX⟩ := hcut
  have REL : Hid (DhR g2 g w rs n0 n1 m6 m7 n2 n3 n4 ((rs.length - 20) / 4) (.int .i64 20) _) := ⟨0, none, 0, by omega, by omega, rfl, A0.keep TXX.out, RW, World.ownsRow_nil _ _ _ _, TA.out.trans TXX.out⟩
  have HGW : Hid (w.heap.size ≤ g) := by have h1 := HG.out; have h2 := HGX.out; show _ ≤ _; omega
  clear RW RB Sa Sb Sc A0 TXX HN0 HN1 HN2 HN3 HN4 Y6 Y7 s0 s1 s2 s3 s4 h4m h4t
  go_wp2_with fail
  go_loopg [5] ((rs.length - 20) / 4) (fun gg i wr => DhR g2 g w rs n0 n1 m6 m7 n2 n3 n4 gg i wr)
  case atStart => exact REL.out
  case round =>
   clear REL
   obtain ⟨j, na, nc, hj, hgg, rfl, r2, rg, ow, tw⟩ := hrel.out
   obtain ⟨p, hp⟩ : ∃ p, p = 20 + 4 * j := ⟨_, rfl⟩
   rw [← hp]
   have HP : Hid (p = 20 + 4 * j) := hp
   by_cases hlt : p < rs.length
   ·have hlt' : (p : Int) < (rs.length : Int) := by omega
    have hp4 : p + 4 ≤ rs.length := by omega
    have hjn : j < (rs.length - 20) / 4 := by omega
    have hjb : j ≤ 1000000 := by omega
    have va' := HV'.out wr tw
    obtain ⟨u, hu, a0⟩ := cut_mid va' rfl (by omega) p (p + 4) (by omega) (by omega)
    have s0 : ∀ w, Sem.run Tryz.prog (Instr.slice 40 (.slice (some ⟨ga, oa, none⟩) rs.length vc) (some (.int .i64 (p : Int))) (some (.int .i64 ((p : Int) + 4))) none) w = .ok u w := by have := hu; push_cast at this; exact this
    obtain ⟨t, ht⟩ : ∃ t, numOf ((rs.drop p).take 4) = t := ⟨_, rfl⟩
    have HKJ : Hid (numOf (cutAt 4 (rs.drop 20) j) = t) := by
     show _ = _
     rw [← ht]
     unfold cutAt
     rw [List.drop_drop, ← hp]
    have HN := pnumber_any u _ wr.drew (a0.keepN ((Touch.refl _ _).drew)) (fun z hz => HBY.out z (List.mem_of_mem_drop (List.mem_of_mem_take hz))) (by simp; omega)
    rw [show p + 4 - p = 4 by omega, ht] at HN
    have hw4 : wrap64 ((p : Int) + 4) = (p : Int) + 4 := by unfold wrap64; omega
    have hx4 : IntKind.i64.wrap ((p : Int) + 4) = (p : Int) + 4 := by simp [IntKind.wrap, IntKind.bits, IntKind.signed]; omega
    have DA : Touch (fun _ => False) wr (wr.drew.alloc (.cells #[.int .u32 t] 22)) := (Touch.refl _ _).drew.alloc _
    have C7a : Hid (wr.drew.cell? ⟨g, 7, none⟩ = some (.slice na j nc)) := (rg.keep ((Touch.refl _ _).drew)).cell 7
    have C7b : Hid ((wr.drew.alloc (.cells #[.int .u32 t] 22)).cell? ⟨g, 7, none⟩ = some (.slice na j nc)) := (rg.keep DA).cell 7
    have O5 : Hid ((wr.drew.alloc (.cells #[.int .u32 t] 22)).ownsRow (g + 1) 22 1 (.slice na j nc) j (wordsC ((List.range j).map fun i => numOf (cutAt 4 (rs.drop 20) i)))) := own_touch ow DA (fun _ _ f => f)
    have R5 : Hid (Row (wr.drew.alloc (.cells #[.int .u32 t] 22)) g 26 [.int .u32 n0, .int .u16 n1, .int .u8 m6, .int .u8 m7, .int .u32 n2, .int .u32 n3, .int .u32 n4, .slice na j nc]) := rg.keep DA
    have A5 : Hid (Row (wr.drew.alloc (.cells #[.int .u32 t] 22)) g2 26 [.int .u32 0, .int .u16 0, .int .u8 0, .int .u8 0, .int .u32 0, .int .u32 0, .int .u32 0, .slice none 0 0]) := r2.keep DA
    have LC : Hid (∀ i u, [.int .u32 t][i]? = some u → (wr.drew.alloc (.cells #[.int .u32 t] 22)).cell? ((⟨wr.drew.heap.size, 0, none⟩ : Addr).add i) = some u) := by
     intro i u hi
     rw [add_plain, Nat.zero_add, cell_of_row _ _ i _ _ _ (heap_alloc_new wr.drew _), ← Array.getElem?_toList]
     exact hi
    have T5 : Hid (Touch (fun _ => False) w wr.drew) := tw.drew
    have SZ5 : Hid (g + 1 ≤ (wr.drew.alloc (.cells #[.int .u32 t] 22)).heap.size) := by have := R5.out.lt; show _ ≤ _; omega
    have hTr : True := trivial
    have HJ1 : Hid (20 + 4 * (j + 1) ≤ rs.length) := by show _ ≤ _; omega
    have HJ2 : Hid (((p : Int) + 4) = ((20 + 4 * (j + 1) : Nat) : Int)) := by show _ = _; omega
    clear hu a0 va' ht hrel hp r2 rg ow tw DA
    go_upto_region 7 with fail
    refine wp_region_held_drew (S := fun w' => True) (by kernel_rfl) hTr (fun hHeld => ?_)
    refine wpAnyH_take (i := 0) (oi := ⟨some 45, _, _, _, _, _⟩) (v := .pointer (some ⟨g, 7, none⟩)) rfl (by kernel_rfl) (by kernel_rfl) (by kernel_rfl) (fun _ _ _ h => h) (Or.inl ⟨by rfl, fun w hw => by go_simp⟩) (by assumption) ?_
    simp only [Act.put, List.setIfInBounds_toArray, List.set_cons_zero, List.set_cons_succ]
    refine wpAnyH_take (i := 2) (oi := ⟨some 47, _, _, _, _, _⟩) (v := .slice (some ⟨ga, oa, none⟩) rs.length vc) rfl (by kernel_rfl) (by kernel_rfl) (by kernel_rfl) (fun _ _ _ h => h) (Or.inl ⟨by rfl, fun w hw => by go_simp⟩) (by assumption) ?_
    simp only [Act.put, List.setIfInBounds_toArray, List.set_cons_zero, List.set_cons_succ]
    refine wpAnyH_take (i := 3) (oi := ⟨some 48, _, _, _, _, _⟩) (v := .int .i64 (p : Int)) rfl (by kernel_rfl) (by kernel_rfl) (by kernel_rfl) (fun _ _ _ h => h) (Or.inl ⟨by rfl, fun w hw => by go_simp⟩) (by assumption) ?_
    simp only [Act.put, List.setIfInBounds_toArray, List.set_cons_zero, List.set_cons_succ]
    refine wpAnyH_take (i := 4) (oi := ⟨some 49, _, _, _, _, _⟩) (v := .int .i64 (p : Int)) rfl (by kernel_rfl) (by kernel_rfl) (by kernel_rfl) (fun _ _ _ h => h) (Or.inl ⟨by rfl, fun w hw => by go_simp⟩) (by assumption) ?_
    simp only [Act.put, List.setIfInBounds_toArray, List.set_cons_zero, List.set_cons_succ]
    refine wpAnyH_take (i := 5) (oi := ⟨some 50, _, _, _, _, _⟩) (v := .int .i64 ((p : Int) + 4)) rfl (by kernel_rfl) (by kernel_rfl) (by kernel_rfl) (fun _ _ _ h => h) (Or.inl ⟨by rfl, fun w hw => by go_simp⟩) (by assumption) ?_
    simp only [Act.put, List.setIfInBounds_toArray, List.set_cons_zero, List.set_cons_succ]
    refine wpAnyH_take (i := 6) (oi := ⟨some 51, _, _, _, _, _⟩) (v := u) rfl (by kernel_rfl) (by kernel_rfl) (by kernel_rfl) (fun _ _ _ h => h) (Or.inl ⟨by rfl, fun w hw => by go_simp⟩) (by assumption) ?_
    simp only [Act.put, List.setIfInBounds_toArray, List.set_cons_zero, List.set_cons_succ]
    refine wpAnyH_ready (rs := [1, 7]) (by kernel_rfl) (by simp) ?_
    refine AllReadyH.cons (o := ⟨some 46, _, _, _, _, _⟩) rfl (fun K hK => ?_) (AllReadyH.cons (o := ⟨some 52, _, _, _, _, _⟩) rfl (fun K hK => ?_) AllReadyH.nil)
    focus
     have cq := C7a.out
     go_simp
     refine hK.out _ _ trivial (fun hHeld => ?_)
     clear hK K cq
     refine wpAnyH_ready (rs := [7]) (by kernel_rfl) (by simp) ?_
     refine AllReadyH.cons (o := ⟨some 52, _, _, _, _, _⟩) rfl (fun K hK => ?_) AllReadyH.nil
     go_simp
     refine Calls.mono HN ?_
     rintro e wx ⟨rfl, rfl⟩
     refine hK.out _ _ trivial (fun hHeld => ?_)
     clear hK K
     refine wpAnyH_ready (rs := [8]) (by kernel_rfl) (by simp) ?_
     refine AllReadyH.cons (o := ⟨some 53, _, _, _, _, _⟩) rfl (fun K hK => ?_) AllReadyH.nil
     go_simp
     refine hK.out _ _ trivial (fun hHeld => ?_)
     clear hK K
    rotate_left
    focus
     go_simp
     refine Calls.mono HN ?_
     rintro e wx ⟨rfl, rfl⟩
     refine hK.out _ _ trivial (fun hHeld => ?_)
     clear hK K
     refine wpAnyH_ready (rs := [1, 8]) (by kernel_rfl) (by simp) ?_
     refine AllReadyH.cons (o := ⟨some 46, _, _, _, _, _⟩) rfl (fun K hK => ?_) (AllReadyH.cons (o := ⟨some 53, _, _, _, _, _⟩) rfl (fun K hK => ?_) AllReadyH.nil)
     focus
      have cq := C7a.out
      go_simp
      refine hK.out _ _ trivial (fun hHeld => ?_)
      clear hK K cq
      refine wpAnyH_ready (rs := [8]) (by kernel_rfl) (by simp) ?_
      refine AllReadyH.cons (o := ⟨some 53, _, _, _, _, _⟩) rfl (fun K hK => ?_) AllReadyH.nil
      go_simp
      refine hK.out _ _ trivial (fun hHeld => ?_)
      clear hK K
     rotate_left
     focus
      go_simp
      refine hK.out _ _ trivial (fun hHeld => ?_)
      clear hK K
      refine wpAnyH_ready (rs := [1]) (by kernel_rfl) (by simp) ?_
      refine AllReadyH.cons (o := ⟨some 46, _, _, _, _, _⟩) rfl (fun K hK => ?_) AllReadyH.nil
      have cq : (wr.alloc (.cells #[.int .u32 t] 22)).cell? ⟨g, 7, none⟩ = some (.slice na j nc) := C7b.out
      go_simp
      refine hK.out _ _ trivial (fun hHeld => ?_)
      clear hK K cq
    all_goals
     refine wpAnyH_ready (rs := [9]) (by kernel_rfl) (by simp) ?_
     refine AllReadyH.cons (o := ⟨some 54, _, _, _, _, _⟩) rfl (fun K hK => ?_) AllReadyH.nil
     refine step_own (by rfl) (.tmp 46) (.tmp 53) 24 (by rfl) (g + 1) 22 (.int .u32 0) 1 4 Tryz.underlying24 Tryz.infoU4 rfl (by decide) (by decide) (.slice na j nc) j _ (by rfl) O5.out ⟨wr.drew.heap.size, 0, none⟩ 1 1 [.int .u32 t] (by rfl) rfl LC.out (by simp [Value.oneCell']) (by omega) SZ5.out ?_
     intro l' w7 o7 t7
     obtain ⟨na7, nc7, el⟩ := own_form o7
     subst el
     have R7 : Row w7 g 26 [.int .u32 n0, .int .u16 n1, .int .u8 m6, .int .u8 m7, .int .u32 n2, .int .u32 n3, .int .u32 n4, .slice na j nc] := (R5.out).touch t7 (fun e => by have := (O5.out.lt g e).1; omega)
     have c7 : w7.cell? ⟨g, 7, none⟩ = some (.slice na j nc) := R7.cell 7
     have f7 : w7.frozen? ⟨g, 7, none⟩ = false := R7.frozen 7
     refine hK.out _ _ trivial (fun hHeld => ?_)
     clear hK K
     refine wpAnyH_take (i := 10) (oi := ⟨some 55, _, _, _, _, _⟩) (v := .pointer (some ⟨g, 7, none⟩)) rfl (by kernel_rfl) (by kernel_rfl) (by kernel_rfl) (fun _ _ _ h => h) (Or.inl ⟨by rfl, fun w hw => by go_simp⟩) (by assumption) ?_
     simp only [Act.put, List.setIfInBounds_toArray, List.set_cons_zero, List.set_cons_succ]
     refine wpAnyH_ready (rs := [11]) (by kernel_rfl) (by simp) ?_
     refine AllReadyH.cons rfl (fun K hK => ?_) AllReadyH.nil
     go_simp
     refine hK.out _ _ trivial (fun hHeld => ?_)
     clear hK K
     refine wpAnyH_done (by kernel_rfl) ?_ _
     have R8 : Row (w7.setCell ⟨g, 7, none⟩ (.slice na7 (j + 1) nc7)) g 26 [.int .u32 n0, .int .u16 n1, .int .u8 m6, .int .u8 m7, .int .u32 n2, .int .u32 n3, .int .u32 n4, .slice na7 (j + 1) nc7] := R7.set 7 _
     have U8 : Touch (fun k => k = g) w7 (w7.setCell ⟨g, 7, none⟩ (.slice na7 (j + 1) nc7)) := Touch.setCell (F := fun k => k = g) (p := ⟨g, 7, none⟩) (Touch.refl _ _) (Or.inl rfl) _
     have REL : Hid (DhR g2 g w rs n0 n1 m6 m7 n2 n3 n4 ((rs.length - 20) / 4 - (j + 1)) (.int .i64 ((p : Int) + 4)) (w7.setCell ⟨g, 7, none⟩ (.slice na7 (j + 1) nc7))) := by
      clear hgg hjn hm h20 hl hj hlt hlt' hp4 hjb hw4 hx4 h20'
      have hg := HGW.out
      have hgx := HGX.out
      refine ⟨j + 1, na7, nc7, HJ1.out, rfl, congrArg (Value.int IntKind.i64) HJ2.out, (A5.out.touch t7 (fun e => by have := (O5.out.lt g2 e).1; omega)).touch U8 (by show ¬ g2 = g; omega), R8, ?_, ?_⟩
      ·have e : wordsC ((List.range (j + 1)).map fun i => numOf (cutAt 4 (rs.drop 20) i)) = wordsC ((List.range j).map fun i => numOf (cutAt 4 (rs.drop 20) i)) ++ [.int .u32 t] := by
        rw [range_snoc, HKJ.out]
        simp [wordsC]
       rw [e]
       exact own_touch o7 U8 (fun k hk e => by have := (o7.lt k hk).1; omega)
      ·exact ((T5.out.alloc _).trans' t7 (fun i hi e => by have := (O5.out.lt i e).1; omega)).trans' U8 (fun i hi e => by omega)
     clear o7 t7 R7 R8 U8 c7 f7
     go_wp2_with fail
     go_roundg ((rs.length - 20) / 4 - (j + 1))
     case measure => omega
     case rel => exact REL.out
   ·have hlt' : ¬ (p : Int) < (rs.length : Int) := by omega
    have hjn : j = (rs.length - 20) / 4 := by omega
    have HWS : Hid (∀ w', Touch (fun k => k = g2) wr w' → w'.ownsRow w.heap.size 22 1 (.slice na j nc) (cuts 4 numOf (rs.drop 20)).length (wordsC (cuts 4 numOf (rs.drop 20)))) := fun w' tt => by
     have e : (List.range j).map (fun i => numOf (cutAt 4 (rs.drop 20) i)) = cuts 4 numOf (rs.drop 20) := by rw [← cuts_all, List.length_drop, ← hjn]
     have o2 := own_touch ow tt (fun k hk e => by have := (ow.lt k hk).1; have := HGX.out; omega)
     rw [e] at o2
     have o3 := own_lower o2 (show w.heap.size ≤ g + 1 by have := HGW.out; omega)
     have e2 : (cuts 4 numOf (rs.drop 20)).length = j := by rw [length_cuts, List.length_drop, ← hjn]
     rw [e2]
     exact o3
    have L4 := rg.range
    have R2 := r2
    have TW : Hid (Touch (fun _ => False) w wr) := tw
    clear hjn hp ow tw rg r2 hrel HP
    go_wp2_with (first | refine wpList_load_mid rfl 26 (.tmp 4) rfl g 0 rfl [.int .u32 n0, .int .u16 n1, .int .u8 m6, .int .u8 m7, .int .u32 n2, .int .u32 n3, .int .u32 n4, .slice na j nc] _ L4 Tryz.underlying26 rfl (by kernel_rfl) ?_ | refine wpList_store_row rfl 26 (.tmp 2) (.tmp 56) rfl g2 #[.int .u32 n0, .int .u16 n1, .int .u8 m6, .int .u8 m7, .int .u32 n2, .int .u32 n3, .int .u32 n4, .slice na j nc] rfl rfl 26 _ R2 (by kernel_rfl) rfl (by simp [Value.oneCell']) ?_)
    have U2 : Touch (fun k => k = g2) wr (wr.setRow g2 #[.int .u32 n0, .int .u16 n1, .int .u8 m6, .int .u8 m7, .int .u32 n2, .int .u32 n3, .int .u32 n4, .slice na j nc]) := Touch.setRow (F := fun k => k = g2) (Touch.refl _ _) (Or.inl rfl) _
    refine bodyPost_ret (v := .tuple #[.agg #[.int .u32 n0, .int .u16 n1, .int .u8 m6, .int .u8 m7, .int .u32 n2, .int .u32 n3, .int .u32 n4, .slice na j nc], .bool true]) ?hr rfl ?_
    case hr => exact results_rs (p := 2) (s := 3) rfl _ _ g2 26 [.int .u32 n0, .int .u16 n1, .int .u8 m6, .int .u8 m7, .int .u32 n2, .int .u32 n3, .int .u32 n4, .slice na j nc] _ _ (by rfl) (by rfl) (R2.setRow _) Tryz.underlying26 rfl (by kernel_rfl)
    exact FIN.out _ _ (TW.out.trans' U2 (fun i hi e => by have := HG.out; omega)) (by have h8 := HWS.out _ U2; rw [HG.out.1] at h8; exact h8)
theorem dhello7 (v : Value) (rs : List Int) (w : World) (hv : ArgAt w v rs) (hby : ∀ z ∈ rs, 0 ≤ z ∧ z < 256) (hl : rs.length ≤ 1000000) : Calls Tryz.prog 113 #[v] w (DhP w rs) := by
 by_cases h : 20 ≤ rs.length ∧ rs.length % 4 = 0
 ·exact dhello_ok v rs w hv hby hl h.1 h.2
 ·exact dhello_no v rs w hv h
end Go.Proofs.YtbfplepmgbkajaaGreatDoor
