/- A row of bytes cut: what the code's slice expressions give, in every world. -/
import Derived.Test.YthilfealloakdaaEqB
import Derived.Test.YthilfealloakdaaAuMay
import Derived.Test.YthilfealloakdaaReader
import Derived.Test.YthilfealloakdaaStWr
import Derived.Test.YthilfealloakdaaStRd
import Derived.Deep.DeepCutAuto
import Derived.Deep.RegionHeld3
import Derived.Deep.MidRow
import Derived.Laws.CopyOwn
namespace Go.Proofs.Ythilfealloakdaa
open Go.RowKit
set_option linter.unusedVariables false
set_option maxRecDepth 100000

theorem cap_of {w : World} {g off c n : Nat} {rs : List Int} (h : RowAt w (.slice (some ⟨g, off, none⟩) n c) rs) : n = rs.length ∧ n ≤ c ∧ c ≤ maxLen := by
  rcases h with ⟨h, _⟩ | ⟨g', off', c', h, h1, h2, _⟩
  · cases h
  · cases h; exact ⟨rfl, h1, h2⟩
theorem drop_row {w : World} {g off c n : Nat} {rs : List Int} (h : RowAt w (.slice (some ⟨g, off, none⟩) n c) rs) (m : Nat) (hm : m ≤ n) : RowAt w (.slice (some ⟨g, off + m, none⟩) (n - m) (c - m)) (rs.drop m) := by
  rcases h with ⟨h, _⟩ | ⟨g', off', c', h, h1, h2, h3⟩
  · cases h
  · cases h
    refine Or.inr ⟨g, off + m, c - m, by simp, by simp; omega, by omega, fun j u hj => ?_⟩
    rw [Nat.add_assoc]
    refine h3 (m + j) u ?_
    simpa [bytesOf, List.getElem?_drop] using hj
theorem take_row {w : World} {g off c n : Nat} {rs : List Int} (h : RowAt w (.slice (some ⟨g, off, none⟩) n c) rs) (m : Nat) (hm : m ≤ n) : RowAt w (.slice (some ⟨g, off, none⟩) m c) (rs.take m) := by
  rcases h with ⟨h, _⟩ | ⟨g', off', c', h, h1, h2, h3⟩
  · cases h
  · cases h
    refine Or.inr ⟨g, off, c, by simp; omega, by simp; omega, by omega, fun j u hj => ?_⟩
    refine h3 j u ?_
    simp only [bytesOf, List.getElem?_map, List.getElem?_take] at hj ⊢
    split at hj
    · exact hj
    · simp at hj
theorem empty_arg (w : World) (ad : Addr) (c : Nat) (hc : c ≤ maxLen) : ArgAt w (.slice (some ad) 0 c) [] := Or.inr ⟨ad, c, rfl, Nat.zero_le _, hc, fun j u hj => by simp [bytesOf] at hj⟩

/-- b[i:j], of a row that is not empty. -/
theorem cut_mid {w : World} {va : Option Addr} {vc n : Nat} {rs : List Int} (h : ArgAt w (.slice va n vc) rs) (hn : n = rs.length) (hp : 0 < n) (i j : Nat) (hij : i ≤ j) (hj : j ≤ n) :
    ∃ v, (∀ w, Sem.run Try.prog (Instr.slice 47 (.slice va n vc) (some (.int .i64 (i : Int))) (some (.int .i64 (j : Int))) none) w = .ok v w) ∧ ArgAt w v ((rs.drop i).take (j - i)) := by
  subst hn
  have hr := h.row hp
  obtain ⟨ga, oa, rfl⟩ := rowAt_some hr hp
  obtain ⟨-, hc1, hc2⟩ := cap_of hr
  have hc2' : (vc : Int) ≤ 9223372036854775807 := by unfold maxLen at hc2; omega
  have h0 : (0 : Int) ≤ (i : Int) := by omega
  have h0' : (0 : Int) ≤ (j : Int) := by omega
  have h1 : (j : Int) ≤ (vc : Int) := by omega
  have h2 : (i : Int) ≤ (j : Int) := by omega
  by_cases hz : vc = i
  · refine ⟨.slice (some ⟨ga, oa, none⟩) (j - i) (vc - i), fun w => ?_, ?_⟩
    · simp [Instr.slice, Instr.sliceBounds, Instr.sliceBound, go_sem, h0, h0', hz]
      rw [if_pos (by omega), if_pos (by omega)]
    · have : j - i = 0 := by omega
      rw [this, List.take_zero]
      exact empty_arg w _ _ (by unfold maxLen; omega)
  · refine ⟨.slice (some ⟨ga, oa + i, none⟩) (j - i) (vc - i), fun w => ?_, (take_row (drop_row hr i (by omega)) (j - i) (by omega)).arg⟩
    simp [Instr.slice, Instr.sliceBounds, Instr.sliceBound, go_sem, h0, h0', hz]
    rw [if_pos (by omega), if_pos hij]
/-- b[i:]. -/
theorem cut_from {w : World} {va : Option Addr} {vc n : Nat} {rs : List Int} (h : ArgAt w (.slice va n vc) rs) (hn : n = rs.length) (hp : 0 < n) (i : Nat) (hi : i ≤ n) :
    ∃ v, (∀ w, Sem.run Try.prog (Instr.slice 47 (.slice va n vc) (some (.int .i64 (i : Int))) none none) w = .ok v w) ∧ ArgAt w v (rs.drop i) := by
  subst hn
  have hr := h.row hp
  obtain ⟨ga, oa, rfl⟩ := rowAt_some hr hp
  obtain ⟨-, hc1, hc2⟩ := cap_of hr
  have hc2' : (vc : Int) ≤ 9223372036854775807 := by unfold maxLen at hc2; omega
  have h0 : (0 : Int) ≤ (i : Int) := by omega
  have h2 : (i : Int) ≤ (rs.length : Int) := by omega
  have h3 : (rs.length : Int) ≤ (vc : Int) := by omega
  by_cases hz : vc = i
  · refine ⟨.slice (some ⟨ga, oa, none⟩) (rs.length - i) (vc - i), fun w => ?_, ?_⟩
    · simp [Instr.slice, Instr.sliceBounds, Instr.sliceBound, go_sem, h0, hz]
      omega
    · have : rs.length - i = 0 := by omega
      rw [this, List.drop_eq_nil_of_le (by omega)]
      exact empty_arg w _ _ (by unfold maxLen; omega)
  · refine ⟨.slice (some ⟨ga, oa + i, none⟩) (rs.length - i) (vc - i), fun w => ?_, (drop_row hr i hi).arg⟩
    simp [Instr.slice, Instr.sliceBounds, Instr.sliceBound, go_sem, h0, hz]
    omega
/-- b[:j]. -/
theorem cut_to {w : World} {va : Option Addr} {vc n : Nat} {rs : List Int} (h : ArgAt w (.slice va n vc) rs) (hn : n = rs.length) (hp : 0 < n) (j : Nat) (hj : j ≤ n) :
    ∃ v, (∀ w, Sem.run Try.prog (Instr.slice 47 (.slice va n vc) none (some (.int .i64 (j : Int))) none) w = .ok v w) ∧ ArgAt w v (rs.take j) := by
  subst hn
  have hr := h.row hp
  obtain ⟨ga, oa, rfl⟩ := rowAt_some hr hp
  obtain ⟨-, hc1, hc2⟩ := cap_of hr
  have hc2' : (vc : Int) ≤ 9223372036854775807 := by unfold maxLen at hc2; omega
  have h0 : (0 : Int) ≤ (j : Int) := by omega
  have h1 : (j : Int) ≤ (vc : Int) := by omega
  have hne : ¬ vc = 0 := by omega
  refine ⟨.slice (some ⟨ga, oa, none⟩) j vc, fun w => ?_, (take_row hr j hj).arg⟩
  simp [Instr.slice, Instr.sliceBounds, Instr.sliceBound, go_sem, h0]
  intro hh; omega
end Go.Proofs.Ythilfealloakdaa

namespace Go.Proofs.Ythilfealloakdaa
open Go.RowKit
set_option linter.unusedVariables false
set_option maxRecDepth 100000

theorem Try.info8d : (Try.prog.info? 87).map (·.size) = some 8 := by kernel_rfl
theorem au_row_touch {F : Nat → Prop} {w w' : World} {g : Nat} {T : TypeId} {xs : List Value} (h : Row w g T xs) (t : Touch F w w') (hg : ¬ F g) : Row w' g T xs := (t.block g h.lt hg).trans h
theorem au_range {w : World} {g : Nat} {T : TypeId} {xs : List Value} (h : Row w g T xs) : w.rangeAt g 0 xs := fun j v hj => by
  rw [Nat.zero_add, h.cell j]
  exact hj
theorem au_step_row {P : Program} {ops : Array Oper} {o : Oper} {a : Act} {w : World} {K : Act → World → Prop} {Q : Exit → Act → World → Prop} {E : Prop} (hgd : o.guard = none) (ty : TypeId) (x y : Operand) (ho : o.op = .store ty x y)
    (g : Nat) (cells : List Value) (hx : a.eval x = .pointer (some ⟨g, 0, none⟩)) (hy : a.eval y = .agg cells.toArray) (T : TypeId) (old : List Value) (hg : Row w g T old) (hi : (P.info? ty).map (·.size) = some cells.length) (hold : old.length = cells.length) (h1 : ∀ v ∈ cells, v.oneCell' = true)
    (h : K (a.put o.dst undef) (w.setRow g cells.toArray)) : if Region.wanted o (yielded ops a.tmps) = true then Oper.wp P o a w K Q else E := by
  have hw : Region.wanted o (yielded ops a.tmps) = true := by simp [Region.wanted, hgd]
  rw [if_pos hw]
  exact wp_store_row ty x y ho g cells.toArray hx hy T old.toArray hg (by rw [hi]; simp) (by simpa using hold) (all_oneCell h1) h
theorem pass_splice (sec : List Int) : splice (bytesOf (List.replicate 8 0)) 0 (bytesOf (sec.take 8)) = bytesOf (passB sec) := by
  unfold splice passB
  rw [bytesOf_append]
  simp only [List.take_zero, List.nil_append, Nat.zero_add]
  congr 1
  rw [length_bytesOf]
  simp only [bytesOf, List.map_replicate, List.drop_replicate, List.length_take]
  congr 1
  omega
set_option maxHeartbeats 1000000 in
theorem password_any (x : KE) (w : World) (ok : x.Ok w) (hp : 0 < x.p.sec.length) :
    Calls Try.prog 52 #[x.agg] w fun e w' => e = .returned (.agg (bytesOf (passB x.p.sec)).toArray) ∧ Touch (fun _ => False) w w' := by
  have harg := ok.arg
  obtain ⟨⟨i, kd, sec, sf, su, tf, tu⟩, a0, kc⟩ := x
  dsimp only [KE.agg, KE.sv] at *
  rcases harg with ⟨_, h0⟩ | ⟨ad, c, e, h1, h2, h3⟩
  · subst h0; simp at hp
  cases e
  have hOl' : (bytesOf (passB sec)).length = 8 := by rw [length_bytesOf, length_passB]
  have hO1 := oneCell_bytesOf (passB sec)
  have HSp : Hid (splice (bytesOf (List.replicate 8 0)) 0 (bytesOf (sec.take 8)) = bytesOf (passB sec)) := pass_splice sec
  have hcl : (bytesOf (sec.take 8)).length = Nat.min sec.length 8 := by rw [length_bytesOf, List.length_take]; exact Nat.min_comm _ _
  have HS : Hid (∀ j v, (bytesOf (sec.take 8))[j]? = some v → w.cell? (ad.add j) = some v) := fun j v hj => h3 j v (by
    simp only [bytesOf, List.getElem?_map, List.getElem?_take] at hj ⊢
    split at hj
    · exact hj
    · simp at hj)
  have hc1 := oneCell_bytesOf (sec.take 8)
  have hfit : 0 + (bytesOf (sec.take 8)).length ≤ (bytesOf (List.replicate 8 0)).length := by rw [hcl, length_bytesOf]; simp; exact Nat.min_le_right _ _
  generalize bytesOf (passB sec) = O at *
  generalize bytesOf (sec.take 8) = CS at *
  generalize sec.length = kn at *
  clear ok h1 h2 h3 hp
  go_enter Try.func52, Try.ntmps52
  go_upto_region 1 with fail
  have k0 := (kbox_new w i kd (some ad) kn kc sf su tf tu).keep ((Touch.refl _ _).alloc (.cells #[.int .u8 0, .int .u8 0, .int .u8 0, .int .u8 0, .int .u8 0, .int .u8 0, .int .u8 0, .int .u8 0] 87))
  have z0 := row_new (w.alloc (.cells #[.int .u8 i, .int .u16 kd, .slice (some ad) kn kc, .int .i64 sf, .int .i64 su, .int .i64 tf, .int .i64 tu] 50)) 87 #[.int .u8 0, .int .u8 0, .int .u8 0, .int .u8 0, .int .u8 0, .int .u8 0, .int .u8 0, .int .u8 0]
  rw [World.size_alloc] at z0
  have t0 : Hid (Touch (fun _ => False) w ((w.alloc (.cells #[.int .u8 i, .int .u16 kd, .slice (some ad) kn kc, .int .i64 sf, .int .i64 su, .int .i64 tf, .int .i64 tu] 50)).alloc (.cells #[.int .u8 0, .int .u8 0, .int .u8 0, .int .u8 0, .int .u8 0, .int .u8 0, .int .u8 0, .int .u8 0] 87))) := ((Touch.refl _ w).alloc _).alloc _
  generalize (w.alloc (.cells #[.int .u8 i, .int .u16 kd, .slice (some ad) kn kc, .int .i64 sf, .int .i64 su, .int .i64 tf, .int .i64 tu] 50)).alloc (.cells #[.int .u8 0, .int .u8 0, .int .u8 0, .int .u8 0, .int .u8 0, .int .u8 0, .int .u8 0, .int .u8 0] 87) = wa at k0 z0 t0 ⊢
  have c2 := k0.c2
  have z1 : Row wa.drew (w.heap.size + 1) 87 (bytesOf (List.replicate 8 0)) := z0.keep ((Touch.refl _ _).drew)
  generalize bytesOf (List.replicate 8 0) = ZZ at hfit HSp z1
  clear k0 z0
  refine wp_region_held_drew (S := fun w' => w'.cell? ⟨w.heap.size, 2, none⟩ = some (.slice (some ad) kn kc)) (by kernel_rfl) c2 (fun hHeld => ?_)
  refine wpAnyH_take (i := 0) (oi := ⟨some 3, _, _, _, _, _⟩) (v := .slice (some ⟨w.heap.size + 1, 0, none⟩) 8 8) rfl (by kernel_rfl) (by kernel_rfl) (by kernel_rfl) (fun _ _ _ h => h) (Or.inl ⟨by rfl, fun w hw => by go_simp⟩) (by assumption) ?_
  simp only [Act.put, List.setIfInBounds_toArray, List.set_cons_zero, List.set_cons_succ]
  refine wpAnyH_take (i := 1) (oi := ⟨some 4, _, _, _, _, _⟩) (v := .pointer (some ⟨w.heap.size, 2, none⟩)) rfl (by kernel_rfl) (by kernel_rfl) (by kernel_rfl) (fun _ _ _ h => h) (Or.inl ⟨by rfl, fun w hw => by go_simp⟩) (by assumption) ?_
  simp only [Act.put, List.setIfInBounds_toArray, List.set_cons_zero, List.set_cons_succ]
  refine wpAnyH_take (i := 2) (oi := ⟨some 5, _, _, _, _, _⟩) (v := .slice (some ad) kn kc) rfl (by kernel_rfl) (by kernel_rfl) (by kernel_rfl) (fun _ _ _ h => h) (Or.inl ⟨by rfl, fun w hw => by go_simp⟩) (by assumption) ?_
  simp only [Act.put, List.setIfInBounds_toArray, List.set_cons_zero, List.set_cons_succ]
  refine wpAnyH_ready (rs := [3]) (by kernel_rfl) (by simp) ?_
  refine AllReadyH.cons (o := ⟨some 6, _, _, _, _, _⟩) rfl (fun K hK => ?_) AllReadyH.nil
  refine step_copy_exact (by rfl) (.tmp 3) (.tmp 5) 47 47 (by rfl) 5 Try.underlying47 (by kernel_rfl) ad 8 8 kn kc (w.heap.size + 1) 0 (by rfl) (by rfl) ZZ 87 z1 CS hcl (fun j v hj => (t0.out.trans ((Touch.refl _ _).drew)).cellN (HS.out j v hj)) hfit hc1 ?_
  simp only [Act.put, List.setIfInBounds_toArray, List.set_cons_zero, List.set_cons_succ]
  have R2 := z1.setRow (splice ZZ 0 CS).toArray
  have hh2 : (wa.drew.setRow (w.heap.size + 1) (splice ZZ 0 CS).toArray).cell? ⟨w.heap.size, 2, none⟩ = some (.slice (some ad) kn kc) := by rw [cell_setRow_other _ _ _ _ (by simp)]; exact hHeld
  have t2 : Hid (Touch (fun _ => False) w (wa.drew.setRow (w.heap.size + 1) (splice ZZ 0 CS).toArray)) := Touch.setRow (t0.out.trans ((Touch.refl _ _).drew)) (Or.inr (by omega)) _
  generalize wa.drew.setRow (w.heap.size + 1) (splice ZZ 0 CS).toArray = w2 at R2 hh2 t2 ⊢
  rw [List.toList_toArray, HSp.out] at R2
  refine hK.out _ _ hh2 (fun hHeld => ?_)
  clear hK K
  refine wpAnyH_done (by kernel_rfl) ?_ _
  clear z1 c2 hh2
  have HR2 : Hid (Row w2 (w.heap.size + 1) 87 O) := R2
  clear R2
  go_wp2_with (first | refine wpList_load_row rfl 87 (.tmp 2) rfl (w.heap.size + 1) rfl 87 _ (0, 0) _ HR2.out Try.underlying87 rfl (by rw [Try.info8d, List.size_toArray, hOl']) ?_ | refine wpList_store_row rfl 87 (.tmp 2) (.tmp 7) rfl (w.heap.size + 1) O.toArray rfl rfl 87 _ HR2.out (by rw [Try.info8d, List.size_toArray, hOl']) (by simp [hOl']) (all_oneCell hO1) ?_)
  refine bodyPost_ret (results_cell_row Try.results52 _ _ (w.heap.size + 1) 87 O.toArray (0, 0) _ rfl (HR2.out.setRow O.toArray) Try.underlying87 rfl (by rw [Try.info8d, List.size_toArray, hOl'])) rfl ?_
  exact ⟨rfl, Touch.setRow t2.out (Or.inr (by omega)) _⟩
end Go.Proofs.Ythilfealloakdaa
