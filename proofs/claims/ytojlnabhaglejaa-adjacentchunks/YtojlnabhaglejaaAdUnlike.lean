
/- The law's list of unlike heads. -/
import Derived.Test.YtojlnabhaglejaaAdYoung
namespace Go.Proofs.Ytojlnabhaglejaa
open Go.RowKit
set_option linter.unusedVariables false
set_option maxRecDepth 100000

theorem ryears_any (a : Int) (h0 : 0 ≤ a) (h : a < 65536) (w : World) : Calls Try.prog 31 #[.int .u16 a] w fun e w' => e = .returned (.int .i64 (yrs a)) ∧ w = w' := by
  have hb : 0 ≤ a % 32768 ∧ a % 32768 < 32768 := by omega
  have e1 : a.tmod 32768 = a % 32768 := Int.tmod_eq_emod_of_nonneg h0
  have e2 : Hid (yrs a = if a % 32768 < 3600 then a % 32768 else 3600) := rfl
  generalize yrs a = y at e2 ⊢
  by_cases hm : a % 32768 ≤ 3600
  · have H : Hid (y = a % 32768) := by show _ = _; have := e2.out; split at this <;> omega
    clear e2
    go_enter Try.func31, Try.ntmps31
    go_wp2
    go_ret
    exact ⟨ret_int H.out.symm, rfl⟩
  · have H : Hid (y = 3600) := by show _ = _; have := e2.out; split at this <;> omega
    clear e2
    go_enter Try.func31, Try.ntmps31
    go_wp2
    go_ret
    exact ⟨ret_int H.out.symm, rfl⟩
theorem rold_any (a : Int) (h0 : 0 ≤ a) (h : a < 65536) (b : Bool) (hb : decide (yrs a = 3600) = b) (w : World) : Calls Try.prog 24 #[.int .u16 a] w fun e w' => e = .returned (.bool b) ∧ w = w' := by
  have HY := fun w => ryears_any a h0 h w
  have HB : Hid (decide (yrs a = 3600) = b) := hb
  clear hb
  generalize yrs a = y at HY HB
  by_cases hy : y = 3600
  · subst hy
    go_enter Try.func24, Try.ntmps24
    go_wp2_with fail
    refine (HY _).mono ?_
    rintro e w1 ⟨rfl, rfl⟩
    go_wp2
    go_ret
    exact ⟨ret_bool HB.out, rfl⟩
  · have H : Hid (b = false) := by show _ = _; rw [← HB.out]; exact decide_eq_false hy
    clear HB
    go_enter Try.func24, Try.ntmps24
    go_wp2_with fail
    refine (HY _).mono ?_
    rintro e w1 ⟨rfl, rfl⟩
    go_wp2
    go_ret
    exact ⟨ret_bool (by rw [H.out]; exact beq_eq_false_iff_ne.mpr hy), rfl⟩
theorem rkey14 (w : World) (x : HV) : Calls Try.prog 14 #[.agg #[.int .u16 x.age, .int .u8 x.opts, .int .u8 x.typ, .int .u32 x.id, .int .u32 x.adv, .int .i32 x.seq, .int .u16 x.sum, .int .u16 x.len]] w fun e w' => e = .returned (.agg #[.int .u8 x.typ, .int .u32 x.id, .int .u32 x.adv]) ∧ Touch (fun _ => False) w w' := by
  go_enter Try.func14, Try.ntmps14
  go_wp2_with fail
  refine bodyPost_ret (v := .agg #[.int .u8 x.typ, .int .u32 x.id, .int .u32 x.adv]) (by simp [results, Try.results14, go_sem]) rfl ⟨rfl, ?_⟩
  exact ((Touch.refl _ _).alloc _).alloc _
theorem keq (w0 : World) {x y : Value} {lx ly : Lit} (hx : Go.keyOf Try.prog 47 x = some lx) (hy : Go.keyOf Try.prog 47 y = some ly) : ∃ r : Bool, ∀ w, (Op.equal 47 x y).run Try.prog w = .ok r w := by
  have H := fun w => run_equal_deep (P := Try.prog) (m := 2) w (by omega) (k := 47) (by kernel_rfl) (by kernel_rfl) hx hy
  obtain ⟨r0, -, h0⟩ := H w0
  refine ⟨r0, fun w => ?_⟩
  obtain ⟨r, h1, h2⟩ := H w
  have e : r = r0 := by cases r <;> cases r0 <;> simp_all
  rw [h1, e]
set_option maxHeartbeats 4000000 in
theorem find14 (w : World) (v : Value) (l : List HV) (a b c : Int) (hv : HeadsAt w v l) (hl : l.length ≤ 1000000) (ok : ∀ x ∈ l, x.Fine) (ha : 0 ≤ a ∧ a < 256) (hb : 0 ≤ b ∧ b < 4294967296) (hc : 0 ≤ c ∧ c < 4294967296) : Calls Try.prog 13 #[v, .agg #[.int .u8 a, .int .u32 b, .int .u32 c]] w fun e w' => ∃ r : Int, e = .returned (.int .i64 r) ∧ Touch (fun _ => False) w w' := by
  obtain ⟨aa, ca, rfl, hm⟩ := ValsAt.form hv
  obtain ⟨ly, hky⟩ := key_any ha hb hc
  have T0 : Touch (fun _ => False) w (w.alloc (.cells #[.int .u8 a, .int .u32 b, .int .u32 c] 47)) := (Touch.refl _ _).alloc _
  have HA : Hid (HeadsAt (w.alloc (.cells #[.int .u8 a, .int .u32 b, .int .u32 c] 47)) (.slice aa l.length ca) l) := ValsAt.keep hv T0
  have RK : Row (w.alloc (.cells #[.int .u8 a, .int .u32 b, .int .u32 c] 47)) w.heap.size 47 [.int .u8 a, .int .u32 b, .int .u32 c] := row_new _ _ _
  have HRK : Hid (Row (w.alloc (.cells #[.int .u8 a, .int .u32 b, .int .u32 c] 47)) w.heap.size 47 [.int .u8 a, .int .u32 b, .int .u32 c]) := RK
  have HOK : Hid (∀ x ∈ l, x.Fine) := ok
  have HT0 : Hid (Touch (fun _ => False) w (w.alloc (.cells #[.int .u8 a, .int .u32 b, .int .u32 c] 47))) := T0
  clear hv hm ok RK T0
  go_enter Try.func13, Try.ntmps13
  go_wp2_with fail
  generalize w.alloc (.cells #[.int .u8 a, .int .u32 b, .int .u32 c] 47) = wk at *
  generalize w.heap.size = gk at *
  go_loopw [5] (fun i wr => ∃ k : Nat, k ≤ l.length ∧ i = .int .i64 k ∧ Touch (fun _ => False) wk wr) (fun i _ => l.length - (intOf i).toNat)
  case atStart => exact ⟨0, Nat.zero_le _, rfl, Touch.refl _ _⟩
  case round =>
    obtain ⟨j, hk, rfl, t⟩ := hrel
    by_cases hlt : j < l.length
    · obtain ⟨x, hx⟩ : ∃ x, l[j]? = some x := ⟨l[j], by simp [hlt]⟩
      have HX := HOK.out x (List.mem_of_getElem? hx)
      obtain ⟨lx, hkx⟩ := key_any HX.t HX.i HX.v
      obtain ⟨r, hre⟩ := keq w hkx hky
      have heq : ∀ w', Sem.run Try.prog (binOp .eql 47 (.agg #[.int .u8 x.typ, .int .u32 x.id, .int .u32 x.adv]) (.agg #[.int .u8 a, .int .u32 b, .int .u32 c])) w' = .ok (.bool r) w' := fun w' => by simp [binOp, hre w', go_sem]
      obtain ⟨ga, oa, _, ea, -, -, za⟩ := ValsAt.cells (ValsAt.keep HA.out t) (by omega) (by omega)
      cases ea
      have SD : wr.drew.rangeAt ga (oa + j * 8) [.int .u16 x.age, .int .u8 x.opts, .int .u8 x.typ, .int .u32 x.id, .int .u32 x.adv, .int .i32 x.seq, .int .u16 x.sum, .int .u16 x.len] ∧ wr.drew.rangeAt gk 0 [.int .u8 a, .int .u32 b, .int .u32 c] := ⟨fun i u hi => by
        have hi8 : i < 8 := (List.getElem?_eq_some_iff.mp hi).1
        have := za (j * 8 + i) u (by rw [headsC_at l j i x hx hi8]; exact hi)
        rw [Nat.add_assoc]
        exact this, row_range (HRK.out.keep (t.drew))⟩
      have HKO := fun w => rkey14 w x
      have HT : Hid (Touch (fun _ => False) wk wr) := t
      have hjl : (j : Int) < (l.length : Int) := by omega
      clear hx HA HOK HX t za hre hkx hky
      go_upto_region 4 with fail
      refine wp_region_held_drew (S := fun w' => w'.rangeAt ga (oa + j * 8) [.int .u16 x.age, .int .u8 x.opts, .int .u8 x.typ, .int .u32 x.id, .int .u32 x.adv, .int .i32 x.seq, .int .u16 x.sum, .int .u16 x.len] ∧ w'.rangeAt gk 0 [.int .u8 a, .int .u32 b, .int .u32 c]) (by kernel_rfl) SD (fun hHeld => ?_)
      refine wpAnyH_take (i := 0) (oi := ⟨some 12, _, _, _, _, _⟩) (v := .slice (some ⟨ga, oa, none⟩) l.length ca) rfl (by kernel_rfl) (by kernel_rfl) (by kernel_rfl) (fun _ _ _ h => h) (Or.inl ⟨by rfl, fun w hw => by go_simp⟩) (by assumption) ?_
      simp only [Act.put, List.setIfInBounds_toArray, List.set_cons_zero, List.set_cons_succ]
      refine wpAnyH_take (i := 1) (oi := ⟨some 13, _, _, _, _, _⟩) (v := .int .i64 (j : Int)) rfl (by kernel_rfl) (by kernel_rfl) (by kernel_rfl) (fun _ _ _ h => h) (Or.inl ⟨by rfl, fun w hw => by go_simp⟩) (by assumption) ?_
      simp only [Act.put, List.setIfInBounds_toArray, List.set_cons_zero, List.set_cons_succ]
      refine wpAnyH_take (i := 2) (oi := ⟨some 14, _, _, _, _, _⟩) (v := .pointer (some ⟨ga, oa + j * 8, none⟩)) rfl (by kernel_rfl) (by kernel_rfl) (by kernel_rfl) (fun _ _ _ h => h) (Or.inl ⟨by rfl, fun w hw => by go_simp <;> first | omega | (intro hh; omega)⟩) (by assumption) ?_
      simp only [Act.put, List.setIfInBounds_toArray, List.set_cons_zero, List.set_cons_succ]
      refine wpAnyH_take (i := 3) (oi := ⟨some 15, _, _, _, _, _⟩) (v := .agg #[.int .u16 x.age, .int .u8 x.opts, .int .u8 x.typ, .int .u32 x.id, .int .u32 x.adv, .int .i32 x.seq, .int .u16 x.sum, .int .u16 x.len]) rfl (by kernel_rfl) (by kernel_rfl) (by kernel_rfl) (fun _ _ _ h => h) (yieldsIf_load_mid (by rfl) _ _ rfl _ _ rfl [.int .u16 x.age, .int .u8 x.opts, .int .u8 x.typ, .int .u32 x.id, .int .u32 x.adv, .int .i32 x.seq, .int .u16 x.sum, .int .u16 x.len] _ (fun w h => h.1) Try.underlying50 rfl (by kernel_rfl)) (by assumption) ?_
      simp only [Act.put, List.setIfInBounds_toArray, List.set_cons_zero, List.set_cons_succ]
      refine wpAnyH_take (i := 5) (oi := ⟨some 17, _, _, _, _, _⟩) (v := .agg #[.int .u8 a, .int .u32 b, .int .u32 c]) rfl (by kernel_rfl) (by kernel_rfl) (by kernel_rfl) (fun _ _ _ h => h) (yieldsIf_load_mid (by rfl) _ _ rfl _ _ rfl [.int .u8 a, .int .u32 b, .int .u32 c] _ (fun w h => h.2) Try.underlying47 rfl (by kernel_rfl)) (by assumption) ?_
      simp only [Act.put, List.setIfInBounds_toArray, List.set_cons_zero, List.set_cons_succ]
      refine wpAnyH_ready (rs := [4]) (by kernel_rfl) (by simp) ?_
      refine AllReadyH.cons (o := ⟨some 16, _, _, _, _, _⟩) rfl (fun K hK => ?_) AllReadyH.nil
      go_simp
      refine Calls.mono (HKO _) ?_
      rintro e wx ⟨rfl, tx⟩
      refine hK.out _ _ ⟨fun i u hi => tx.cellN (SD.1 i u hi), fun i u hi => tx.cellN (SD.2 i u hi)⟩ (fun hHeld => ?_)
      clear hK K
      refine wpAnyH_take (i := 6) (oi := ⟨some 18, _, _, _, _, _⟩) (v := .bool r) rfl (by kernel_rfl) (by kernel_rfl) (by kernel_rfl) (fun _ _ _ h => h) (Or.inl ⟨by rfl, fun w hw => by go_simp⟩) (by assumption) ?_
      simp only [Act.put, List.setIfInBounds_toArray, List.set_cons_zero, List.set_cons_succ]
      refine wpAnyH_done (by kernel_rfl) ?_ _
      have TN : Hid (Touch (fun _ => False) wk wx) := HT.out.trans (((Touch.refl _ _).drew).trans tx)
      clear SD tx
      cases r with
      | true =>
        go_wp2_with fail
        go_ret
        exact ⟨_, rfl, HT0.out.trans TN.out⟩
      | false =>
        go_wp2_with fail
        go_roundw
        case rel => exact ⟨j + 1, by omega, by go_num, TN.out⟩
        case measure => simp [intOf]; omega
    · have HT : Hid (Touch (fun _ => False) wk wr) := t
      clear t
      go_wp2_with fail
      go_ret
      exact ⟨_, rfl, HT0.out.trans HT.out⟩
end Go.Proofs.Ytojlnabhaglejaa
