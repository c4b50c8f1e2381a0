/- What a head says of its authentication. -/
import Derived.Test.YtjjgbcjgmjggnaaGreatAuArr
namespace Go.Proofs.YtjjgbcjgmjggnaaGreat
open Go.RowKit
set_option linter.unusedVariables false
set_option maxRecDepth 100000

/-- So many bytes of what is left. -/
theorem abytes_n (n : Nat) (N b p : Nat) (rs : List Int) (w : World) (h : Rdr N w b rs (some p)) (hp : p + n ≤ rs.length) (hc : rs.length ≤ 1000000) :
    Calls Tryz.prog 103 #[.pointer (some ⟨b, 0, none⟩), .int .i64 (n : Int)] w fun e w' => ∃ v, e = .returned v ∧ w'.ownsRow w.heap.size 5 1 v ((rs.drop p).take n).length (bytesOf ((rs.drop p).take n)) ∧ Rdr N w' b rs (some (p + n)) ∧ Touch (fun k => k = b) w w' := by
  obtain ⟨rv, p', err, h, hb, ho, ⟨e, rfl⟩ | ⟨e, rfl⟩⟩ := h
  · cases e
    have hs : stepR rs.length p 0 (n : Int) = (p + n, 0, true) := by
      rw [stepR_ok _ _ _ (by omega) (by omega)]
      simp
    refine (rbytes_all b p _ 0 rv rs w h (by omega) (by omega)).mono ?_
    rintro e w' ⟨v, rfl, hown, hr, t⟩
    have hg : gotR rs p 0 (n : Int) = (rs.drop p).take n := by
      simp only [gotR, hs, if_true, Int.toNat_natCast]
    rw [hg] at hown
    rw [hs] at hr
    exact ⟨v, rfl, hown, ⟨rv, _, _, hr, hb, ho, Or.inl ⟨rfl, rfl⟩⟩, t⟩
  · cases e
/-- A slot and a row for results. -/
theorem results_tr {P : Program} {fn : Func} {s p : Tmp} {ty : TypeId} (h : fn.results = #[.tmp s, .cell p ty]) (tmps : Array Value) (w : World) (g : Nat) (t : TypeId) (cs : List Value) (d : TypeDesc) (v : Value)
    (hs : tmps.getD s undef = v) (hp : tmps.getD p undef = .pointer (some ⟨g, 0, none⟩)) (hg : Row w g t cs)
    (hu : P.underlying ty = some d) (hd : (match d with | .struct _ | .array _ _ => true | _ => false) = true) (hi : (P.info? ty).map (·.size) = some cs.length) :
    (results fn tmps).run P w = .ok (.tuple #[v, .agg cs.toArray]) w := by
  have hp' : tmps[p]?.getD undef = .pointer (some ⟨g, 0, none⟩) := by simpa using hp
  have hs' : tmps[s]?.getD undef = v := by simpa using hs
  simp [results, h, hp', hs', asAddr, run_loadVar_row w g t ty cs.toArray (0, 0) d hg hu hd (by simpa using hi)]
theorem kind_cut (rs : List Int) (h : 24 ≤ rs.length) : numAt ((rs.drop 14).take (24 - 14)) (some 0) 2 = kindB rs ∧ nextAt ((rs.drop 14).take (24 - 14)) (some 0) 2 = some 2 ∧ (((rs.drop 14).take (24 - 14)).drop 2).take 8 = dataB rs := by
  have hl : ((rs.drop 14).take (24 - 14)).length = 10 := by simp; omega
  refine ⟨?_, ?_, ?_⟩
  · unfold numAt kindB
    dsimp only
    rw [if_pos (by omega), List.drop_zero, List.take_take]
    rfl
  · unfold nextAt
    dsimp only
    rw [if_pos (by omega)]
  · unfold dataB
    rw [List.drop_take, List.take_take, List.drop_drop]
    rfl
theorem kindB_bound {rs : List Int} (hb : ∀ z ∈ rs, 0 ≤ z ∧ z < 256) : 0 ≤ kindB rs ∧ kindB rs < 65536 := by
  have h := numOf_bound ((rs.drop 14).take 2) (fun z hz => hb z (List.mem_of_mem_drop (List.mem_of_mem_take hz)))
  have hl : ((rs.drop 14).take 2).length ≤ 2 := List.length_take_le _ _
  refine ⟨h.1, Int.lt_of_lt_of_le h.2 ?_⟩
  generalize ((rs.drop 14).take 2).length = n at hl
  rcases (by omega : n = 0 ∨ n = 1 ∨ n = 2) with rfl | rfl | rfl <;> decide
theorem length_dataB {rs : List Int} (h : 24 ≤ rs.length) : (dataB rs).length = 8 := by simp [dataB]; omega
set_option maxHeartbeats 2000000 in
theorem said_any (v : Value) (rs : List Int) (w : World) (hv : ArgAt w v rs) (hby : ∀ z ∈ rs, 0 ≤ z ∧ z < 256) (hl : 24 ≤ rs.length) (hn : rs.length ≤ 1000000) :
    Calls Tryz.prog 69 #[v] w fun e w' => e = .returned (.tuple #[.int .u16 (kindB rs), .agg (bytesOf (dataB rs)).toArray]) ∧ Touch (fun _ => False) w w' := by
  obtain ⟨va, vc, rfl, hmx⟩ := hv.form
  obtain ⟨v1, hs1, hv1⟩ := cut_mid hv rfl (by omega) 14 24 (by omega) (by omega)
  replace hs1 : ∀ w, Sem.run Tryz.prog (Instr.slice 43 (.slice va rs.length vc) (some (.int .i64 14)) (some (.int .i64 24)) none) w = .ok v1 w := hs1
  obtain ⟨k1, k2, k3⟩ := kind_cut rs hl
  have hl1 : ((rs.drop 14).take (24 - 14)).length = 10 := by simp; omega
  have hkb := kindB_bound hby
  have hby1 : ∀ z ∈ (rs.drop 14).take (24 - 14), 0 ≤ z ∧ z < 256 := fun z hz => hby z (List.mem_of_mem_drop (List.mem_of_mem_take hz))
  have hOl' : (bytesOf (dataB rs)).length = 8 := by rw [length_bytesOf, length_dataB hl]
  have hO1 := oneCell_bytesOf (dataB rs)
  have HD : Hid ((((rs.drop 14).take (24 - 14)).drop 2).take 8 = dataB rs) := k3
  have HLd : Hid ((dataB rs).length = 8) := length_dataB hl
  have HK1 : Hid (numAt ((rs.drop 14).take (24 - 14)) (some 0) 2 = kindB rs) := k1
  have HK2 : Hid (nextAt ((rs.drop 14).take (24 - 14)) (some 0) 2 = some 2) := k2
  have HV1 : Hid (∀ w', Touch (fun _ => False) w w' → ArgAt w' v1 ((rs.drop 14).take (24 - 14))) := fun w' t => hv1.keep t (fun _ _ h => h)
  have HB1 : Hid (∀ z ∈ (rs.drop 14).take (24 - 14), 0 ≤ z ∧ z < 256) := hby1
  have HL1 : Hid (((rs.drop 14).take (24 - 14)).length = 10) := hl1
  have hcv : IntKind.u16.wrap (kindB rs) = kindB rs := by simp [IntKind.wrap, IntKind.bits, IntKind.signed]; omega
  generalize kindB rs = KD at *
  generalize dataB rs = DB at *
  generalize (rs.drop 14).take (24 - 14) = R1 at *
  generalize hOO : bytesOf DB = O at hOl' hO1 ⊢
  generalize rs.length = n at *
  clear hv hby hmx k1 k2 k3 hl1 hby1 hv1 hl hn hkb
  go_enter Tryz.func69, Tryz.ntmps69
  go_wp2_with fail
  have z0 := row_new w 122 #[.int .u8 0, .int .u8 0, .int .u8 0, .int .u8 0, .int .u8 0, .int .u8 0, .int .u8 0, .int .u8 0]
  have t0 : Hid (Touch (fun _ => False) w (w.alloc (.cells #[.int .u8 0, .int .u8 0, .int .u8 0, .int .u8 0, .int .u8 0, .int .u8 0, .int .u8 0, .int .u8 0] 122))) := (Touch.refl _ w).alloc _
  generalize hwa : w.alloc (.cells #[.int .u8 0, .int .u8 0, .int .u8 0, .int .u8 0, .int .u8 0, .int .u8 0, .int .u8 0, .int .u8 0] 122) = wa at z0 t0 ⊢
  have hws : w.heap.size < wa.heap.size := z0.lt
  clear hwa
  refine Calls.mono (read_r v1 R1 wa (HV1.out wa t0.out) HB1.out (by have := HL1.out; omega)) ?_
  rintro e w1 ⟨rb, rfl, hrb, r1, t1⟩
  have z1 := z0.keep t1
  have T1 : Hid (Touch (fun _ => False) w w1) := t0.out.trans t1
  generalize w1.heap.size = N at r1
  clear z0 t0 t1
  go_wp2_with fail
  refine Calls.mono (rnum2 N rb R1 (some 0) w1 r1) ?_
  rintro e w2 ⟨rfl, r2, t2⟩
  rw [HK1.out]
  rw [HK2.out] at r2
  have z2 := au_row_touch z1 t2 (by omega)
  have T2 : Hid (Touch (fun _ => False) w w2) := T1.out.trans' t2 (fun i hi e => by omega)
  clear z1 T1 t2 r1
  go_upto_region 3 with fail
  have z3 : Row w2.drew w.heap.size 122 (bytesOf (List.replicate 8 0)) := z2.keep ((Touch.refl _ _).drew)
  have r3 : Rdr N w2.drew rb R1 (some 2) := r2.keep ((Touch.refl _ _).drew)
  refine wp_region_held_drew (S := fun _ => True) (by kernel_rfl) trivial (fun hHeld => ?_)
  refine wpAnyH_take (i := 0) (oi := ⟨some 11, _, _, _, _, _⟩) (v := .slice (some ⟨w.heap.size, 0, none⟩) 8 8) rfl (by kernel_rfl) (by kernel_rfl) (by kernel_rfl) (fun _ _ _ h => h) (Or.inl ⟨by rfl, fun w hw => by go_simp⟩) (by assumption) ?_
  simp only [Act.put, List.setIfInBounds_toArray, List.set_cons_zero, List.set_cons_succ]
  refine wpAnyH_take (i := 1) (oi := ⟨some 12, _, _, _, _, _⟩) (v := .pointer (some ⟨rb, 0, none⟩)) rfl (by kernel_rfl) (by kernel_rfl) (by kernel_rfl) (fun _ _ _ h => h) (Or.inl ⟨by rfl, fun w hw => by go_simp⟩) (by assumption) ?_
  simp only [Act.put, List.setIfInBounds_toArray, List.set_cons_zero, List.set_cons_succ]
  refine wpAnyH_ready (rs := [2]) (by kernel_rfl) (by simp) ?_
  refine AllReadyH.cons rfl (fun K hK => ?_) AllReadyH.nil
  go_simp
  have HBY := abytes_n 8 N rb 2 R1 w2.drew r3 (by have := HL1.out; omega) (by have := HL1.out; omega)
  rw [HD.out] at HBY
  refine Calls.mono HBY ?_
  rintro e wy ⟨vy, rfl, oy, ry, ty⟩
  have zy := au_row_touch z3 ty (by omega)
  have Ty : Hid (Touch (fun _ => False) w wy) := (T2.out.trans ((Touch.refl _ _).drew)).trans' ty (fun i hi e => by omega)
  have ay := (own_rowAt oy).arg
  clear oy ry HBY r3 z3 r2 z2 ty
  rcases ay with ⟨_, h0⟩ | ⟨ad, cp, ev, -, -, hsrc⟩
  · have := HLd.out; rw [h0] at this; simp at this
  rw [HLd.out] at ev
  subst ev
  rw [hOO] at hsrc
  have HSR : Hid (∀ j v, O[j]? = some v → wy.cell? (ad.add j) = some v) := hsrc
  clear hsrc
  refine hK.out _ _ trivial (fun hHeld => ?_)
  clear hK K
  refine wpAnyH_ready (rs := [3]) (by kernel_rfl) (by simp) ?_
  refine AllReadyH.cons (o := ⟨some 14, _, _, _, _, _⟩) rfl (fun K hK => ?_) AllReadyH.nil
  refine step_copy_exact (by rfl) (.tmp 11) (.tmp 13) 43 43 (by rfl) 5 Tryz.underlying43 (by kernel_rfl) ad 8 8 8 cp w.heap.size 0 (by rfl) (by rfl) (bytesOf (List.replicate 8 0)) 122 zy O (by rw [hOl']; rfl) HSR.out (by rw [hOl']; simp [bytesOf]) hO1 ?_
  simp only [Act.put, List.setIfInBounds_toArray, List.set_cons_zero, List.set_cons_succ]
  have hspl : splice (bytesOf (List.replicate 8 0)) 0 O = O := by unfold splice; rw [hOl', List.drop_eq_nil_of_le (by simp [bytesOf])]; simp
  rw [hspl]
  have R2 := zy.setRow O.toArray
  rw [List.toList_toArray] at R2
  have t4 : Hid (Touch (fun _ => False) w (wy.setRow w.heap.size O.toArray)) := Touch.setRow Ty.out (Or.inr (Nat.le_refl _)) _
  generalize wy.setRow w.heap.size O.toArray = w4 at R2 t4 ⊢
  refine hK.out _ _ trivial (fun hHeld => ?_)
  clear hK K
  refine wpAnyH_done (by kernel_rfl) ?_ _
  clear zy Ty hspl HSR
  go_upto_region 4 with fail
  have R3 : Row w4.drew w.heap.size 122 O := R2.keep ((Touch.refl _ _).drew)
  refine wp_region_held_drew (S := fun w' => Row w' w.heap.size 122 O) (by kernel_rfl) R3 (fun hHeld => ?_)
  refine wpAnyH_take (i := 0) (oi := ⟨some 15, _, _, _, _, _⟩) (v := .int .u16 KD) rfl (by kernel_rfl) (by kernel_rfl) (by kernel_rfl) (fun _ _ _ h => h) (Or.inl ⟨by rfl, fun w hw => by go_simp⟩) (by assumption) ?_
  simp only [Act.put, List.setIfInBounds_toArray, List.set_cons_zero, List.set_cons_succ]
  refine wpAnyH_take (i := 1) (oi := ⟨some 16, _, _, _, _, _⟩) (v := .agg O.toArray) rfl (by kernel_rfl) (by kernel_rfl) (by kernel_rfl) (fun _ _ _ h => h) (yieldsIf_load_mid (by rfl) _ _ rfl _ _ rfl O _ (fun w h => au_range h) Tryz.underlying122 rfl (by rw [Tryz.info8d, hOl'])) (by assumption) ?_
  simp only [Act.put, List.setIfInBounds_toArray, List.set_cons_zero, List.set_cons_succ]
  refine wpAnyH_take (i := 2) (oi := ⟨some 2, _, _, _, _, _⟩) (v := .int .u16 KD) rfl (by kernel_rfl) (by kernel_rfl) (by kernel_rfl) (fun _ _ _ h => h) (Or.inl ⟨by rfl, fun w hw => by go_simp⟩) (by assumption) ?_
  simp only [Act.put, List.setIfInBounds_toArray, List.set_cons_zero, List.set_cons_succ]
  refine wpAnyH_ready (rs := [3]) (by kernel_rfl) (by simp) ?_
  refine AllReadyH.cons (o := ⟨none, _, _, _, _, _⟩) rfl (fun K hK => ?_) AllReadyH.nil
  refine au_step_row (by rfl) 122 (.tmp 3) (.tmp 16) (by rfl) w.heap.size O (by rfl) (by rfl) 122 _ R3 (by rw [Tryz.info8d, hOl']) rfl hO1 ?_
  simp only [Act.put]
  have R4 := R3.setRow O.toArray
  rw [List.toList_toArray] at R4
  have t5 : Hid (Touch (fun _ => False) w (w4.drew.setRow w.heap.size O.toArray)) := Touch.setRow (t4.out.trans ((Touch.refl _ _).drew)) (Or.inr (Nat.le_refl _)) _
  generalize w4.drew.setRow w.heap.size O.toArray = w5 at R4 t5 ⊢
  refine hK.out _ _ R4 (fun hHeld => ?_)
  clear hK K
  refine wpAnyH_done (by kernel_rfl) ?_ _
  go_wp2_with fail
  refine bodyPost_ret (results_tr Tryz.results69 _ _ w.heap.size 122 O _ (.int .u16 KD) (by rfl) (by rfl) R4 Tryz.underlying122 rfl (by rw [Tryz.info8d, hOl'])) rfl ?_
  exact ⟨rfl, t5.out⟩
end Go.Proofs.YtjjgbcjgmjggnaaGreat
