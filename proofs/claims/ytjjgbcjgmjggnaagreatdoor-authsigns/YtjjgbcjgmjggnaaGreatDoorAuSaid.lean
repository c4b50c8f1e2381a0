/- Eight bytes of a head: a password, what a head says, the mark of a digest. -/
import Derived.Test.YtjjgbcjgmjggnaaGreatDoorAuMay
import Derived.Test.YtjjgbcjgmjggnaaGreatDoorReader
import Derived.Test.YtjjgbcjgmjggnaaGreatDoorStWr
import Derived.Test.YtjjgbcjgmjggnaaGreatDoorStRd
import Derived.Test.YtjjgbcjgmjggnaaGreatDoorHeadV
import Derived.Deep.DeepCutAuto
import Derived.Deep.RegionHeld3
import Derived.Deep.MidRow
import Derived.Laws.CopyOwn
namespace Go.Proofs.YtjjgbcjgmjggnaaGreatDoor
open Go.RowKit
set_option linter.unusedVariables false
set_option maxRecDepth 100000

theorem Tryz.info8d : (Tryz.prog.info? 82).map (·.size) = some 8 := by kernel_rfl
theorem au_row_touch {F : Nat → Prop} {w w' : World} {g : Nat} {T : TypeId} {xs : List Value} (h : Row w g T xs) (t : Touch F w w') (hg : ¬ F g) : Row w' g T xs := (t.block g h.lt hg).trans h
theorem au_range {w : World} {g : Nat} {T : TypeId} {xs : List Value} (h : Row w g T xs) : w.rangeAt g 0 xs := fun j v hj => by
  rw [Nat.zero_add, h.cell j]
  exact hj
theorem au_step_row {P : Program} {ops : Array Oper} {o : Oper} {a : Act} {w : World} {K : Act → World → Prop} {Q : Exit → Act → World → Prop} {E : Prop} (hgd : o.guard = none) (ty : TypeId) (x y : Operand) (ho : o.op = .store ty x y)
    (g : Nat) (cells : List Value) (hx : a.eval x = .pointer (some ⟨g, 0, none⟩)) (hy : a.eval y = .agg cells.toArray) (T : TypeId) (old : List Value) (hg : Row w g T old) (hi : (P.info? ty).map (·.size) = some cells.length) (hold : old.length = cells.length) (h1 : ∀ v ∈ cells, v.oneCell' = true)
    (h : K (a.put o.dst undef) (w.setRow g cells.toArray)) : if Region.wanted o (yielded ops a.tmps) = true then Oper.wp P o a w K Q else E := by
  have hw : Region.wanted o (yielded ops a.tmps) = true := by simp [Region.wanted, hgd]
  rw [if_pos hw]
  exact wp_store_row ty x y ho g cells.toArray hx hy T old.toArray hg (by rw [hi]; simp) (by simpa using hold) (all_oneCell h1) h
theorem pass_splice (sec : List Int) : splice (bytesOf (List.replicate 8 0)) 0 (bytesOf (sec.take 8)) = bytesOf (passB sec) := by
  unfold splice passB
  rw [bytesOf_append]
  simp only [List.take_zero, List.nil_append, Nat.zero_add]
  congr 1
  rw [length_bytesOf]
  simp only [bytesOf, List.map_replicate, List.drop_replicate, List.length_take]
  congr 1
  omega
set_option maxHeartbeats 1000000 in
theorem password_any (x : KE) (w : World) (ok : x.Ok w) (hp : 0 < x.p.sec.length) :
    Calls Tryz.prog 63 #[x.agg] w fun e w' => e = .returned (.agg (bytesOf (passB x.p.sec)).toArray) ∧ Touch (fun _ => False) w w' := by
  have harg := ok.arg
  obtain ⟨⟨i, kd, sec, sf, su, tf, tu⟩, a0, kc⟩ := x
  dsimp only [KE.agg, KE.sv] at *
  rcases harg with ⟨_, h0⟩ | ⟨ad, c, e, h1, h2, h3⟩
  · subst h0; simp at hp
  cases e
  have hOl' : (bytesOf (passB sec)).length = 8 := by rw [length_bytesOf, length_passB]
  have hO1 := oneCell_bytesOf (passB sec)
  have HSp : Hid (splice (bytesOf (List.replicate 8 0)) 0 (bytesOf (sec.take 8)) = bytesOf (passB sec)) := pass_splice sec
  have hcl : (bytesOf (sec.take 8)).length = Nat.min sec.length 8 := by rw [length_bytesOf, List.length_take]; exact Nat.min_comm _ _
  have HS : Hid (∀ j v, (bytesOf (sec.take 8))[j]? = some v → w.cell? (ad.add j) = some v) := fun j v hj => h3 j v (by
    simp only [bytesOf, List.getElem?_map, List.getElem?_take] at hj ⊢
    split at hj
    · exact hj
    · simp at hj)
  have hc1 := oneCell_bytesOf (sec.take 8)
  have hfit : 0 + (bytesOf (sec.take 8)).length ≤ (bytesOf (List.replicate 8 0)).length := by rw [hcl, length_bytesOf]; simp; exact Nat.min_le_right _ _
  generalize bytesOf (passB sec) = O at *
  generalize bytesOf (sec.take 8) = CS at *
  generalize sec.length = kn at *
  clear ok h1 h2 h3 hp
  go_enter Tryz.func63, Tryz.ntmps63
  go_upto_region 1 with fail
  have k0 := (kbox_new w i kd (some ad) kn kc sf su tf tu).keep ((Touch.refl _ _).alloc (.cells #[.int .u8 0, .int .u8 0, .int .u8 0, .int .u8 0, .int .u8 0, .int .u8 0, .int .u8 0, .int .u8 0] 82))
  have z0 := row_new (w.alloc (.cells #[.int .u8 i, .int .u16 kd, .slice (some ad) kn kc, .int .i64 sf, .int .i64 su, .int .i64 tf, .int .i64 tu] 61)) 82 #[.int .u8 0, .int .u8 0, .int .u8 0, .int .u8 0, .int .u8 0, .int .u8 0, .int .u8 0, .int .u8 0]
  rw [World.size_alloc] at z0
  have t0 : Hid (Touch (fun _ => False) w ((w.alloc (.cells #[.int .u8 i, .int .u16 kd, .slice (some ad) kn kc, .int .i64 sf, .int .i64 su, .int .i64 tf, .int .i64 tu] 61)).alloc (.cells #[.int .u8 0, .int .u8 0, .int .u8 0, .int .u8 0, .int .u8 0, .int .u8 0, .int .u8 0, .int .u8 0] 82))) := ((Touch.refl _ w).alloc _).alloc _
  generalize (w.alloc (.cells #[.int .u8 i, .int .u16 kd, .slice (some ad) kn kc, .int .i64 sf, .int .i64 su, .int .i64 tf, .int .i64 tu] 61)).alloc (.cells #[.int .u8 0, .int .u8 0, .int .u8 0, .int .u8 0, .int .u8 0, .int .u8 0, .int .u8 0, .int .u8 0] 82) = wa at k0 z0 t0 ⊢
  have c2 := k0.c2
  have z1 : Row wa.drew (w.heap.size + 1) 82 (bytesOf (List.replicate 8 0)) := z0.keep ((Touch.refl _ _).drew)
  generalize bytesOf (List.replicate 8 0) = ZZ at hfit HSp z1
  clear k0 z0
  refine wp_region_held_drew (S := fun w' => w'.cell? ⟨w.heap.size, 2, none⟩ = some (.slice (some ad) kn kc)) (by kernel_rfl) c2 (fun hHeld => ?_)
  refine wpAnyH_take (i := 0) (oi := ⟨some 3, _, _, _, _, _⟩) (v := .slice (some ⟨w.heap.size + 1, 0, none⟩) 8 8) rfl (by kernel_rfl) (by kernel_rfl) (by kernel_rfl) (fun _ _ _ h => h) (Or.inl ⟨by rfl, fun w hw => by go_simp⟩) (by assumption) ?_
  simp only [Act.put, List.setIfInBounds_toArray, List.set_cons_zero, List.set_cons_succ]
  refine wpAnyH_take (i := 1) (oi := ⟨some 4, _, _, _, _, _⟩) (v := .pointer (some ⟨w.heap.size, 2, none⟩)) rfl (by kernel_rfl) (by kernel_rfl) (by kernel_rfl) (fun _ _ _ h => h) (Or.inl ⟨by rfl, fun w hw => by go_simp⟩) (by assumption) ?_
  simp only [Act.put, List.setIfInBounds_toArray, List.set_cons_zero, List.set_cons_succ]
  refine wpAnyH_take (i := 2) (oi := ⟨some 5, _, _, _, _, _⟩) (v := .slice (some ad) kn kc) rfl (by kernel_rfl) (by kernel_rfl) (by kernel_rfl) (fun _ _ _ h => h) (Or.inl ⟨by rfl, fun w hw => by go_simp⟩) (by assumption) ?_
  simp only [Act.put, List.setIfInBounds_toArray, List.set_cons_zero, List.set_cons_succ]
  refine wpAnyH_ready (rs := [3]) (by kernel_rfl) (by simp) ?_
  refine AllReadyH.cons (o := ⟨some 6, _, _, _, _, _⟩) rfl (fun K hK => ?_) AllReadyH.nil
  refine step_copy_exact (by rfl) (.tmp 3) (.tmp 5) 22 22 (by rfl) 5 Tryz.underlying22 (by kernel_rfl) ad 8 8 kn kc (w.heap.size + 1) 0 (by rfl) (by rfl) ZZ 82 z1 CS hcl (fun j v hj => (t0.out.trans ((Touch.refl _ _).drew)).cellN (HS.out j v hj)) hfit hc1 ?_
  simp only [Act.put, List.setIfInBounds_toArray, List.set_cons_zero, List.set_cons_succ]
  have R2 := z1.setRow (splice ZZ 0 CS).toArray
  have hh2 : (wa.drew.setRow (w.heap.size + 1) (splice ZZ 0 CS).toArray).cell? ⟨w.heap.size, 2, none⟩ = some (.slice (some ad) kn kc) := by rw [cell_setRow_other _ _ _ _ (by simp)]; exact hHeld
  have t2 : Hid (Touch (fun _ => False) w (wa.drew.setRow (w.heap.size + 1) (splice ZZ 0 CS).toArray)) := Touch.setRow (t0.out.trans ((Touch.refl _ _).drew)) (Or.inr (by omega)) _
  generalize wa.drew.setRow (w.heap.size + 1) (splice ZZ 0 CS).toArray = w2 at R2 hh2 t2 ⊢
  rw [List.toList_toArray, HSp.out] at R2
  refine hK.out _ _ hh2 (fun hHeld => ?_)
  clear hK K
  refine wpAnyH_done (by kernel_rfl) ?_ _
  clear z1 c2 hh2
  have HR2 : Hid (Row w2 (w.heap.size + 1) 82 O) := R2
  clear R2
  go_wp2_with (first | refine wpList_load_row rfl 82 (.tmp 2) rfl (w.heap.size + 1) rfl 82 _ (0, 0) _ HR2.out Tryz.underlying82 rfl (by rw [Tryz.info8d, List.size_toArray, hOl']) ?_ | refine wpList_store_row rfl 82 (.tmp 2) (.tmp 7) rfl (w.heap.size + 1) O.toArray rfl rfl 82 _ HR2.out (by rw [Tryz.info8d, List.size_toArray, hOl']) (by simp [hOl']) (all_oneCell hO1) ?_)
  refine bodyPost_ret (results_cell_row Tryz.results63 _ _ (w.heap.size + 1) 82 O.toArray (0, 0) _ rfl (HR2.out.setRow O.toArray) Tryz.underlying82 rfl (by rw [Tryz.info8d, List.size_toArray, hOl'])) rfl ?_
  exact ⟨rfl, Touch.setRow t2.out (Or.inr (by omega)) _⟩
end Go.Proofs.YtjjgbcjgmjggnaaGreatDoor

namespace Go.Proofs.YtjjgbcjgmjggnaaGreatDoor
open Go.RowKit
set_option linter.unusedVariables false
set_option maxRecDepth 100000

/-- So many bytes of what is left. -/
theorem abytes_n (n : Nat) (N b p : Nat) (rs : List Int) (w : World) (h : Rdr N w b rs (some p)) (hp : p + n ≤ rs.length) (hc : rs.length ≤ 1000000) :
    Calls Tryz.prog 84 #[.pointer (some ⟨b, 0, none⟩), .int .i64 (n : Int)] w fun e w' => ∃ v, e = .returned v ∧ w'.ownsRow w.heap.size 5 1 v ((rs.drop p).take n).length (bytesOf ((rs.drop p).take n)) ∧ Rdr N w' b rs (some (p + n)) ∧ Touch (fun k => k = b) w w' := by
  obtain ⟨rv, p', err, h, hb, ho, ⟨e, rfl⟩ | ⟨e, rfl⟩⟩ := h
  · cases e
    have hs : stepR rs.length p 0 (n : Int) = (p + n, 0, true) := by
      rw [stepR_ok _ _ _ (by omega) (by omega)]
      simp
    refine (rbytes_all b p _ 0 rv rs w h (by omega) (by omega)).mono ?_
    rintro e w' ⟨v, rfl, hown, hr, t⟩
    have hg : gotR rs p 0 (n : Int) = (rs.drop p).take n := by
      simp only [gotR, hs, if_true, Int.toNat_natCast]
    rw [hg] at hown
    rw [hs] at hr
    exact ⟨v, rfl, hown, ⟨rv, _, _, hr, hb, ho, Or.inl ⟨rfl, rfl⟩⟩, t⟩
  · cases e
/-- A slot and a row for results. -/
theorem results_tr {P : Program} {fn : Func} {s p : Tmp} {ty : TypeId} (h : fn.results = #[.tmp s, .cell p ty]) (tmps : Array Value) (w : World) (g : Nat) (t : TypeId) (cs : List Value) (d : TypeDesc) (v : Value)
    (hs : tmps.getD s undef = v) (hp : tmps.getD p undef = .pointer (some ⟨g, 0, none⟩)) (hg : Row w g t cs)
    (hu : P.underlying ty = some d) (hd : (match d with | .struct _ | .array _ _ => true | _ => false) = true) (hi : (P.info? ty).map (·.size) = some cs.length) :
    (results fn tmps).run P w = .ok (.tuple #[v, .agg cs.toArray]) w := by
  have hp' : tmps[p]?.getD undef = .pointer (some ⟨g, 0, none⟩) := by simpa using hp
  have hs' : tmps[s]?.getD undef = v := by simpa using hs
  simp [results, h, hp', hs', asAddr, run_loadVar_row w g t ty cs.toArray (0, 0) d hg hu hd (by simpa using hi)]
theorem kind_cut (rs : List Int) (h : 24 ≤ rs.length) : numAt ((rs.drop 14).take (24 - 14)) (some 0) 2 = kindB rs ∧ nextAt ((rs.drop 14).take (24 - 14)) (some 0) 2 = some 2 ∧ (((rs.drop 14).take (24 - 14)).drop 2).take 8 = dataB rs := by
  have hl : ((rs.drop 14).take (24 - 14)).length = 10 := by simp; omega
  refine ⟨?_, ?_, ?_⟩
  · unfold numAt kindB
    dsimp only
    rw [if_pos (by omega), List.drop_zero, List.take_take]
    rfl
  · unfold nextAt
    dsimp only
    rw [if_pos (by omega)]
  · unfold dataB
    rw [List.drop_take, List.take_take, List.drop_drop]
    rfl
theorem kindB_bound {rs : List Int} (hb : ∀ z ∈ rs, 0 ≤ z ∧ z < 256) : 0 ≤ kindB rs ∧ kindB rs < 65536 := by
  have h := numOf_bound ((rs.drop 14).take 2) (fun z hz => hb z (List.mem_of_mem_drop (List.mem_of_mem_take hz)))
  have hl : ((rs.drop 14).take 2).length ≤ 2 := List.length_take_le _ _
  refine ⟨h.1, Int.lt_of_lt_of_le h.2 ?_⟩
  generalize ((rs.drop 14).take 2).length = n at hl
  rcases (by omega : n = 0 ∨ n = 1 ∨ n = 2) with rfl | rfl | rfl <;> decide
theorem length_dataB {rs : List Int} (h : 24 ≤ rs.length) : (dataB rs).length = 8 := by simp [dataB]; omega
set_option maxHeartbeats 2000000 in
theorem said_any (v : Value) (rs : List Int) (w : World) (hv : ArgAt w v rs) (hby : ∀ z ∈ rs, 0 ≤ z ∧ z < 256) (hl : 24 ≤ rs.length) (hn : rs.length ≤ 1000000) :
    Calls Tryz.prog 53 #[v] w fun e w' => e = .returned (.tuple #[.int .u16 (kindB rs), .agg (bytesOf (dataB rs)).toArray]) ∧ Touch (fun _ => False) w w' := by
  obtain ⟨va, vc, rfl, hmx⟩ := hv.form
  obtain ⟨v1, hs1, hv1⟩ := cut_mid hv rfl (by omega) 14 24 (by omega) (by omega)
  replace hs1 : ∀ w, Sem.run Tryz.prog (Instr.slice 22 (.slice va rs.length vc) (some (.int .i64 14)) (some (.int .i64 24)) none) w = .ok v1 w := hs1
  obtain ⟨k1, k2, k3⟩ := kind_cut rs hl
  have hl1 : ((rs.drop 14).take (24 - 14)).length = 10 := by simp; omega
  have hkb := kindB_bound hby
  have hby1 : ∀ z ∈ (rs.drop 14).take (24 - 14), 0 ≤ z ∧ z < 256 := fun z hz => hby z (List.mem_of_mem_drop (List.mem_of_mem_take hz))
  have hOl' : (bytesOf (dataB rs)).length = 8 := by rw [length_bytesOf, length_dataB hl]
  have hO1 := oneCell_bytesOf (dataB rs)
  have HD : Hid ((((rs.drop 14).take (24 - 14)).drop 2).take 8 = dataB rs) := k3
  have HLd : Hid ((dataB rs).length = 8) := length_dataB hl
  have HK1 : Hid (numAt ((rs.drop 14).take (24 - 14)) (some 0) 2 = kindB rs) := k1
  have HK2 : Hid (nextAt ((rs.drop 14).take (24 - 14)) (some 0) 2 = some 2) := k2
  have HV1 : Hid (∀ w', Touch (fun _ => False) w w' → ArgAt w' v1 ((rs.drop 14).take (24 - 14))) := fun w' t => hv1.keep t (fun _ _ h => h)
  have HB1 : Hid (∀ z ∈ (rs.drop 14).take (24 - 14), 0 ≤ z ∧ z < 256) := hby1
  have HL1 : Hid (((rs.drop 14).take (24 - 14)).length = 10) := hl1
  have hcv : IntKind.u16.wrap (kindB rs) = kindB rs := by simp [IntKind.wrap, IntKind.bits, IntKind.signed]; omega
  generalize kindB rs = KD at *
  generalize dataB rs = DB at *
  generalize (rs.drop 14).take (24 - 14) = R1 at *
  generalize hOO : bytesOf DB = O at hOl' hO1 ⊢
  generalize rs.length = n at *
  clear hv hby hmx k1 k2 k3 hl1 hby1 hv1 hl hn hkb
  go_enter Tryz.func53, Tryz.ntmps53
  go_wp2_with fail
  have z0 := row_new w 82 #[.int .u8 0, .int .u8 0, .int .u8 0, .int .u8 0, .int .u8 0, .int .u8 0, .int .u8 0, .int .u8 0]
  have t0 : Hid (Touch (fun _ => False) w (w.alloc (.cells #[.int .u8 0, .int .u8 0, .int .u8 0, .int .u8 0, .int .u8 0, .int .u8 0, .int .u8 0, .int .u8 0] 82))) := (Touch.refl _ w).alloc _
  generalize hwa : w.alloc (.cells #[.int .u8 0, .int .u8 0, .int .u8 0, .int .u8 0, .int .u8 0, .int .u8 0, .int .u8 0, .int .u8 0] 82) = wa at z0 t0 ⊢
  have hws : w.heap.size < wa.heap.size := z0.lt
  clear hwa
  refine Calls.mono (read_r v1 R1 wa (HV1.out wa t0.out) HB1.out (by have := HL1.out; omega)) ?_
  rintro e w1 ⟨rb, rfl, hrb, r1, t1⟩
  have z1 := z0.keep t1
  have T1 : Hid (Touch (fun _ => False) w w1) := t0.out.trans t1
  generalize w1.heap.size = N at r1
  clear z0 t0 t1
  go_wp2_with fail
  refine Calls.mono (rnum2 N rb R1 (some 0) w1 r1) ?_
  rintro e w2 ⟨rfl, r2, t2⟩
  rw [HK1.out]
  rw [HK2.out] at r2
  have z2 := au_row_touch z1 t2 (by omega)
  have T2 : Hid (Touch (fun _ => False) w w2) := T1.out.trans' t2 (fun i hi e => by omega)
  clear z1 T1 t2 r1
  go_upto_region 3 with fail
  have z3 : Row w2.drew w.heap.size 82 (bytesOf (List.replicate 8 0)) := z2.keep ((Touch.refl _ _).drew)
  have r3 : Rdr N w2.drew rb R1 (some 2) := r2.keep ((Touch.refl _ _).drew)
  refine wp_region_held_drew (S := fun _ => True) (by kernel_rfl) trivial (fun hHeld => ?_)
  refine wpAnyH_take (i := 0) (oi := ⟨some 11, _, _, _, _, _⟩) (v := .slice (some ⟨w.heap.size, 0, none⟩) 8 8) rfl (by kernel_rfl) (by kernel_rfl) (by kernel_rfl) (fun _ _ _ h => h) (Or.inl ⟨by rfl, fun w hw => by go_simp⟩) (by assumption) ?_
  simp only [Act.put, List.setIfInBounds_toArray, List.set_cons_zero, List.set_cons_succ]
  refine wpAnyH_take (i := 1) (oi := ⟨some 12, _, _, _, _, _⟩) (v := .pointer (some ⟨rb, 0, none⟩)) rfl (by kernel_rfl) (by kernel_rfl) (by kernel_rfl) (fun _ _ _ h => h) (Or.inl ⟨by rfl, fun w hw => by go_simp⟩) (by assumption) ?_
  simp only [Act.put, List.setIfInBounds_toArray, List.set_cons_zero, List.set_cons_succ]
  refine wpAnyH_ready (rs := [2]) (by kernel_rfl) (by simp) ?_
  refine AllReadyH.cons rfl (fun K hK => ?_) AllReadyH.nil
  go_simp
  have HBY := abytes_n 8 N rb 2 R1 w2.drew r3 (by have := HL1.out; omega) (by have := HL1.out; omega)
  rw [HD.out] at HBY
  refine Calls.mono HBY ?_
  rintro e wy ⟨vy, rfl, oy, ry, ty⟩
  have zy := au_row_touch z3 ty (by omega)
  have Ty : Hid (Touch (fun _ => False) w wy) := (T2.out.trans ((Touch.refl _ _).drew)).trans' ty (fun i hi e => by omega)
  have ay := (own_rowAt oy).arg
  clear oy ry HBY r3 z3 r2 z2 ty
  rcases ay with ⟨_, h0⟩ | ⟨ad, cp, ev, -, -, hsrc⟩
  · have := HLd.out; rw [h0] at this; simp at this
  rw [HLd.out] at ev
  subst ev
  rw [hOO] at hsrc
  have HSR : Hid (∀ j v, O[j]? = some v → wy.cell? (ad.add j) = some v) := hsrc
  clear hsrc
  refine hK.out _ _ trivial (fun hHeld => ?_)
  clear hK K
  refine wpAnyH_ready (rs := [3]) (by kernel_rfl) (by simp) ?_
  refine AllReadyH.cons (o := ⟨some 14, _, _, _, _, _⟩) rfl (fun K hK => ?_) AllReadyH.nil
  refine step_copy_exact (by rfl) (.tmp 11) (.tmp 13) 22 22 (by rfl) 5 Tryz.underlying22 (by kernel_rfl) ad 8 8 8 cp w.heap.size 0 (by rfl) (by rfl) (bytesOf (List.replicate 8 0)) 82 zy O (by rw [hOl']; rfl) HSR.out (by rw [hOl']; simp [bytesOf]) hO1 ?_
  simp only [Act.put, List.setIfInBounds_toArray, List.set_cons_zero, List.set_cons_succ]
  have hspl : splice (bytesOf (List.replicate 8 0)) 0 O = O := by unfold splice; rw [hOl', List.drop_eq_nil_of_le (by simp [bytesOf])]; simp
  rw [hspl]
  have R2 := zy.setRow O.toArray
  rw [List.toList_toArray] at R2
  have t4 : Hid (Touch (fun _ => False) w (wy.setRow w.heap.size O.toArray)) := Touch.setRow Ty.out (Or.inr (Nat.le_refl _)) _
  generalize wy.setRow w.heap.size O.toArray = w4 at R2 t4 ⊢
  refine hK.out _ _ trivial (fun hHeld => ?_)
  clear hK K
  refine wpAnyH_done (by kernel_rfl) ?_ _
  clear zy Ty hspl HSR
  go_upto_region 4 with fail
  have R3 : Row w4.drew w.heap.size 82 O := R2.keep ((Touch.refl _ _).drew)
  refine wp_region_held_drew (S := fun w' => Row w' w.heap.size 82 O) (by kernel_rfl) R3 (fun hHeld => ?_)
  refine wpAnyH_take (i := 0) (oi := ⟨some 15, _, _, _, _, _⟩) (v := .int .u16 KD) rfl (by kernel_rfl) (by kernel_rfl) (by kernel_rfl) (fun _ _ _ h => h) (Or.inl ⟨by rfl, fun w hw => by go_simp⟩) (by assumption) ?_
  simp only [Act.put, List.setIfInBounds_toArray, List.set_cons_zero, List.set_cons_succ]
  refine wpAnyH_take (i := 1) (oi := ⟨some 16, _, _, _, _, _⟩) (v := .agg O.toArray) rfl (by kernel_rfl) (by kernel_rfl) (by kernel_rfl) (fun _ _ _ h => h) (yieldsIf_load_mid (by rfl) _ _ rfl _ _ rfl O _ (fun w h => au_range h) Tryz.underlying82 rfl (by rw [Tryz.info8d, hOl'])) (by assumption) ?_
  simp only [Act.put, List.setIfInBounds_toArray, List.set_cons_zero, List.set_cons_succ]
  refine wpAnyH_take (i := 2) (oi := ⟨some 2, _, _, _, _, _⟩) (v := .int .u16 KD) rfl (by kernel_rfl) (by kernel_rfl) (by kernel_rfl) (fun _ _ _ h => h) (Or.inl ⟨by rfl, fun w hw => by go_simp⟩) (by assumption) ?_
  simp only [Act.put, List.setIfInBounds_toArray, List.set_cons_zero, List.set_cons_succ]
  refine wpAnyH_ready (rs := [3]) (by kernel_rfl) (by simp) ?_
  refine AllReadyH.cons (o := ⟨none, _, _, _, _, _⟩) rfl (fun K hK => ?_) AllReadyH.nil
  refine au_step_row (by rfl) 82 (.tmp 3) (.tmp 16) (by rfl) w.heap.size O (by rfl) (by rfl) 82 _ R3 (by rw [Tryz.info8d, hOl']) rfl hO1 ?_
  simp only [Act.put]
  have R4 := R3.setRow O.toArray
  rw [List.toList_toArray] at R4
  have t5 : Hid (Touch (fun _ => False) w (w4.drew.setRow w.heap.size O.toArray)) := Touch.setRow (t4.out.trans ((Touch.refl _ _).drew)) (Or.inr (Nat.le_refl _)) _
  generalize w4.drew.setRow w.heap.size O.toArray = w5 at R4 t5 ⊢
  refine hK.out _ _ R4 (fun hHeld => ?_)
  clear hK K
  refine wpAnyH_done (by kernel_rfl) ?_ _
  go_wp2_with fail
  refine bodyPost_ret (results_tr Tryz.results53 _ _ w.heap.size 82 O _ (.int .u16 KD) (by rfl) (by rfl) R4 Tryz.underlying82 rfl (by rw [Tryz.info8d, hOl'])) rfl ?_
  exact ⟨rfl, t5.out⟩
end Go.Proofs.YtjjgbcjgmjggnaaGreatDoor
