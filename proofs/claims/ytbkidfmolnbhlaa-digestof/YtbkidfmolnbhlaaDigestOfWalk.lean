/- The walk of DigestOf. -/
import Derived.Test.YtbkidfmolnbhlaaDigestSameWalk
import Derived.Test.YtbkidfmolnbhlaaRefOf2
import Derived.Deep.RegionHeld3
namespace Go.Proofs.Ytbkidfmolnbhlaa
open Go.RowKit
set_option linter.unusedVariables false
set_option maxRecDepth 100000

theorem row_row {w : World} {g : Nat} {T : TypeId} {l : List Int} (h : Row w g T (bytesOf l)) (hl : l.length ≤ 1000) (n : Nat) (hn : n = l.length) : RowAt w (.slice (some ⟨g, 0, none⟩) n n) l := by
  subst hn
  refine Or.inr ⟨g, 0, l.length, rfl, Nat.le_refl _, by unfold maxLen; omega, fun j u hj => ?_⟩
  rw [Nat.zero_add, h.cell j]
  exact hj
set_option maxHeartbeats 2000000 in
theorem of_long (v vk : Value) (ns ks : List Nat) (w : World) (hv : ArgAt w v (natB ns)) (hk : ArgAt w vk (natB ks)) (h : 16384 < ns.length ∨ 16384 < ks.length) :
    Calls Try.prog 3 #[v, vk] w fun e w' => e = .returned (.bool true) ∧ Touch (fun _ => False) w w' := by
  obtain ⟨aa, ac, rfl, -⟩ := hv.form
  obtain ⟨ba, bc, rfl, -⟩ := hk.form
  rw [length_natB, length_natB]
  by_cases h1 : 16384 < ns.length
  · have h' : (16384 : Int) < (ns.length : Int) := by omega
    clear hv hk h h1
    go_enter Try.func3, Try.ntmps3
    go_wp2_with fail
    refine (lives_any _).mono ?_
    rintro e w1 ⟨rfl, t1⟩
    go_wp2
    go_ret
    exact ⟨rfl, t1⟩
  · have h' : ¬ (16384 : Int) < (ns.length : Int) := by omega
    have h2 : (16384 : Int) < (ks.length : Int) := by omega
    clear hv hk h h1
    go_enter Try.func3, Try.ntmps3
    go_wp2_with fail
    refine (lives_any _).mono ?_
    rintro e w1 ⟨rfl, t1⟩
    go_wp2
    go_ret
    exact ⟨rfl, t1⟩

set_option maxHeartbeats 4000000 in
theorem of_short (v vk : Value) (ns ks : List Nat) (w : World) (hv : ArgAt w v (natB ns)) (hk : ArgAt w vk (natB ks)) (hby : ∀ x ∈ ns, x < 256) (hbk : ∀ x ∈ ks, x < 256) (hl1 : ns.length ≤ 16384) (hl2 : ks.length ≤ 16384) :
    Calls Try.prog 3 #[v, vk] w fun e w' => e = .returned (.bool true) ∧ Touch (fun _ => False) w w' := by
  obtain ⟨aa, ac, rfl, -⟩ := hv.form
  obtain ⟨ba, bc, rfl, -⟩ := hk.form
  have HW1 := wide_any _ (natB ns) w hv (natB_byte hby) (by rw [length_natB]; omega)
  have HW2 : Hid (∀ w', Touch (fun _ => False) w w' → _) := fun w' t => wide_any _ (natB ks) w' (hk.keep t (fun _ _ h => h)) (natB_byte hbk) (by rw [length_natB]; omega)
  have HOf : Hid (∀ v1 w', ArgAt w' v1 (natB ns) → _) := fun v1 w' h => of_any v1 ns w' h hby (by omega)
  have HKy : Hid (∀ v1 v2 w', ArgAt w' v1 (natB ks) → ArgAt w' v2 (natB ns) → _) := fun v1 v2 w' h1 h2 => keyed_any v1 v2 ks ns w' h1 h2 hbk hby (by omega)
  have HRo : Hid (∀ v1 w', ArgAt w' v1 (natB ns) → _) := fun v1 w' h => rof_any v1 ns w' h hby (by omega)
  have HRk : Hid (∀ v1 v2 w', ArgAt w' v1 (natB ks) → ArgAt w' v2 (natB ns) → _) := fun v1 v2 w' h1 h2 => rkeyed_any v1 v2 ks ns w' h1 h2 hbk hby hl1
  have hO1l : (natB (ofN ns)).length = 16 := by rw [length_natB]; exact length_outN _
  have hO2l : (natB (keyedN ks ns)).length = 16 := by rw [length_natB]; exact length_outN _
  have hc1 := oneCell_bytesOf (natB (ofN ns))
  have hc2 := oneCell_bytesOf (natB (keyedN ks ns))
  have HA : Hid (ArgAt w (.slice aa (natB ns).length ac) (natB ns)) := hv
  have HB : Hid (ArgAt w (.slice ba (natB ks).length bc) (natB ks)) := hk
  have hn1 : (natB ns).length ≤ 16384 := by rw [length_natB]; exact hl1
  have hn2 : (natB ks).length ≤ 16384 := by rw [length_natB]; exact hl2
  have hbl1 : (bytesOf (natB (ofN ns))).length = 16 := by rw [length_bytesOf, hO1l]
  have hbl2 : (bytesOf (natB (keyedN ks ns))).length = 16 := by rw [length_bytesOf, hO2l]
  generalize natB (ofN ns) = X at HOf HRo hO1l hc1 hbl1
  generalize natB (keyedN ks ns) = Y at HKy HRk hO2l hc2 hbl2
  clear hv hk hby hbk hl1 hl2
  generalize natB ns = RS at *
  generalize natB ks = RK at *
  have h' : ¬ (16384 : Int) < (RS.length : Int) := by omega
  have h2 : ¬ (16384 : Int) < (RK.length : Int) := by omega
  go_enter Try.func3, Try.ntmps3
  go_wp2_with fail
  refine HW1.mono ?_
  rintro e w1 ⟨rfl, hh1, t1⟩
  have HH1 : Hid (w1.heap[w.heap.size]? = some (.cells (bytesOf (RS ++ spareMarks RS.length)).toArray 5 (0, 0))) := hh1
  have HT1 : Hid (Touch (fun _ => False) w w1) := t1
  clear HW1 hh1 t1
  go_wp2_with fail
  refine (HW2.out w1 HT1.out).mono ?_
  rintro e w2 ⟨rfl, hh2, t2⟩
  have HX : Hid (∀ w', Touch (fun _ => False) w2 w' → w'.heap[w.heap.size]? = some (.cells (bytesOf (RS ++ spareMarks RS.length)).toArray 5 (0, 0))) := fun w' t => (t2.trans t).heapN HH1.out
  have HY : Hid (∀ w', Touch (fun _ => False) w2 w' → w'.heap[w1.heap.size]? = some (.cells (bytesOf (RK ++ spareMarks RK.length)).toArray 5 (0, 0))) := fun w' t => t.heapN hh2
  have HX2 : Hid (∀ w', Touch (fun _ => False) w2 w' → RowAt w' (.slice (some ⟨w.heap.size, 0, none⟩) RS.length (RS.length + 64)) RS) := fun w' t => heap_arg ((t2.trans t).heapN HH1.out) _ (by omega) (by unfold maxLen; omega)
  have HY2 : Hid (∀ w', Touch (fun _ => False) w2 w' → RowAt w' (.slice (some ⟨w1.heap.size, 0, none⟩) RK.length (RK.length + 64)) RK) := fun w' t => heap_arg (t.heapN hh2) _ (by omega) (by unfold maxLen; omega)
  have HA2 : Hid (∀ w', Touch (fun _ => False) w2 w' → ArgAt w' (.slice aa RS.length ac) RS) := fun w' t => HA.out.keep (HT1.out.trans (t2.trans t)) (fun _ _ h => h)
  have HB2 : Hid (∀ w', Touch (fun _ => False) w2 w' → ArgAt w' (.slice ba RK.length bc) RK) := fun w' t => HB.out.keep (HT1.out.trans (t2.trans t)) (fun _ _ h => h)
  have HT2 : Hid (Touch (fun _ => False) w w2) := HT1.out.trans t2
  have r2 := Touch.refl (fun _ => False) w2
  generalize w.heap.size = g1 at HX HX2 ⊢
  generalize w1.heap.size = g2 at HY HY2 ⊢
  clear HW2 hh2 t2 HH1 HT1 HA HB
  go_wp2_with fail
  refine (HOf.out _ w2 (HX2.out _ r2).arg).mono ?_
  rintro e w3 ⟨rfl, t3⟩
  have HT3 : Hid (Touch (fun _ => False) w2 w3) := t3
  clear t3 r2 HOf
  go_wp2_with (refine wpList_store_row rfl 25 (.tmp 7) (.tmp 23) rfl w3.heap.size (bytesOf X).toArray rfl rfl 25 _ (row_new w3 25 _) (by rw [Try.info16, List.size_toArray, hbl1]) (by simp [hbl1]) (all_oneCell hc1) ?_)
  generalize hw4 : World.setRow (World.alloc w3 _) _ _ = w4
  have HT4 : Hid (Touch (fun _ => False) w2 w4) := by subst hw4; exact Touch.setRow (HT3.out.alloc _) (Or.inr HT3.out.size) _
  have HR4 : Hid (Row w4 w3.heap.size 25 (bytesOf X)) := by subst hw4; exact (row_new w3 25 _).setRow (bytesOf X).toArray
  generalize w3.heap.size = g7 at HR4 ⊢
  clear hw4 HT3
  refine (HKy.out _ _ w4 (HY2.out _ HT4.out).arg (HX2.out _ HT4.out).arg).mono ?_
  rintro e w5 ⟨rfl, t5⟩
  have HT5 : Hid (Touch (fun _ => False) w2 w5) := HT4.out.trans t5
  have HR5 : Hid (Row w5 g7 25 (bytesOf X)) := HR4.out.keep t5
  clear t5 HT4 HR4 HKy
  go_wp2_with (refine wpList_store_row rfl 25 (.tmp 8) (.tmp 26) rfl w5.heap.size (bytesOf Y).toArray rfl rfl 25 _ (row_new w5 25 _) (by rw [Try.info16, List.size_toArray, hbl2]) (by simp [hbl2]) (all_oneCell hc2) ?_)
  generalize hw6 : World.setRow (World.alloc w5 _) _ _ = w6
  have HT6 : Hid (Touch (fun _ => False) w2 w6) := by subst hw6; exact Touch.setRow (HT5.out.alloc _) (Or.inr HT5.out.size) _
  have HR6 : Hid (Row w6 w5.heap.size 25 (bytesOf Y)) := by subst hw6; exact (row_new w5 25 _).setRow (bytesOf Y).toArray
  have HQ6 : Hid (Row w6 g7 25 (bytesOf X)) := by
    subst hw6
    have k := HR5.out.keep ((Touch.refl _ w5).alloc (.cells z16 25))
    exact (setRow_other _ w5.heap.size g7 _ (Nat.ne_of_lt HR5.out.lt)).trans k
  generalize w5.heap.size = g8 at HR6 ⊢
  clear hw6 HT5 HR5
  have HR7 : Hid (∀ w', Touch (fun _ => False) w6 w' → RowAt w' (.slice (some ⟨g7, 0, none⟩) 16 16) X) := fun w' t => row_row (HQ6.out.keep t) (by omega) 16 hO1l.symm
  have HR8 : Hid (∀ w', Touch (fun _ => False) w6 w' → RowAt w' (.slice (some ⟨g8, 0, none⟩) 16 16) Y) := fun w' t => row_row (HR6.out.keep t) (by omega) 16 hO2l.symm
  have d6 : Touch (fun _ => False) w6 w6.drew := (Touch.refl _ _).drew
  clear HR6 HQ6 hc1 hc2 hbl1 hbl2
  go_region_held3 (fun _ => True) (trivial) (first | (go_at_call 11; refine (HRo.out _ w6.drew (HA2.out _ (HT6.out.trans d6))).mono ?_; rintro e w7 ⟨p7, rfl, b7⟩; have r7 := HR7.out w7 (d6.trans b7.t); have a7 := b7.arg; have t7 := d6.trans b7.t; clear b7) | (go_at_call 12; refine (HRk.out _ _ _ (HB2.out _ (HT6.out.trans (t7.drewN n8))) (HA2.out _ (HT6.out.trans (t7.drewN n8)))).mono ?_; rintro e w9 ⟨p9, rfl, b9⟩; have r9 := HR8.out w9 ((t7.drewN n8).trans b9.t); have a9 := b9.arg; have t9 := (t7.drewN n8).trans b9.t; clear b9 a7 r7 t7) | (go_at_call 10; refine (eq_true _ _ _ _ (by assumption) (by assumption)).mono ?_; rintro e w8 ⟨rfl, n8, rfl⟩))
  have HT10 : Hid (Touch (fun _ => False) w2 (w9.drewN n8)) := HT6.out.trans (t9.drewN n8)
  generalize w9.drewN n8 = w10 at HT10 ⊢
  clear t9 a9 r9 HR7 HR8 d6 HRo HRk
  go_wp2_with fail
  refine (eq_true _ _ RS _ (HX2.out _ HT10.out) (HA2.out _ HT10.out)).mono ?_
  rintro e w11 ⟨rfl, n11, rfl⟩
  have HT11 : Hid (Touch (fun _ => False) w2 (w10.drewN n11)) := HT10.out.drewN n11
  generalize w10.drewN n11 = w11 at HT11 ⊢
  go_wp2_with fail
  refine (spare_any _ RS _ (HX.out _ HT11.out) (by omega)).mono ?_
  rintro e w12 ⟨rfl, rfl⟩
  go_wp2_with fail
  refine (eq_true _ _ RK _ (HY2.out _ HT11.out) (HB2.out _ HT11.out)).mono ?_
  rintro e w13 ⟨rfl, n13, rfl⟩
  have HT13 : Hid (Touch (fun _ => False) w2 (w11.drewN n13)) := HT11.out.drewN n13
  generalize w11.drewN n13 = w13 at HT13 ⊢
  go_wp2_with fail
  refine (spare_any _ RK _ (HY.out _ HT13.out) (by omega)).mono ?_
  rintro e w14 ⟨rfl, rfl⟩
  go_wp2_with fail
  refine (lives_any _).mono ?_
  rintro e w15 ⟨rfl, t15⟩
  go_wp2
  go_ret
  exact ⟨rfl, HT2.out.trans (HT13.out.trans t15)⟩

theorem dof_any (v : Value) (rs : List Int) (vk : Value) (rk : List Int) (w : World) (hv : ArgAt w v rs) (hx : ∀ x ∈ rs, 0 ≤ x ∧ x < 256) (hk : ArgAt w vk rk) (hy : ∀ x ∈ rk, 0 ≤ x ∧ x < 256) :
    Calls Try.prog 3 #[v, vk] w fun e w' => e = .returned (.bool true) ∧ Touch (fun _ => False) w w' := by
  obtain ⟨ns, rfl, h1⟩ := natB_of hx
  obtain ⟨ks, rfl, h2⟩ := natB_of hy
  by_cases h : 16384 < ns.length ∨ 16384 < ks.length
  · exact of_long v vk ns ks w hv hk h
  · exact of_short v vk ns ks w hv hk h1 h2 (by omega) (by omega)
end Go.Proofs.Ytbkidfmolnbhlaa
