/- Eight bytes of a head: a password, what a head says, the mark of a digest. -/
import Derived.Test.YthilfealloakdabAuMay
import Derived.Test.YthilfealloakdabReader
import Derived.Test.YthilfealloakdabStWr
import Derived.Test.YthilfealloakdabStRd
import Derived.Test.YthilfealloakdabCutB
import Derived.Deep.DeepCutAuto
import Derived.Deep.RegionHeld3
import Derived.Deep.MidRow
import Derived.Laws.CopyOwn
namespace Go.Proofs.Ythilfealloakdab
open Go.RowKit
set_option linter.unusedVariables false
set_option maxRecDepth 100000

theorem Try.info8d : (Try.prog.info? 56).map (·.size) = some 8 := by kernel_rfl
theorem au_row_touch {F : Nat → Prop} {w w' : World} {g : Nat} {T : TypeId} {xs : List Value} (h : Row w g T xs) (t : Touch F w w') (hg : ¬ F g) : Row w' g T xs := (t.block g h.lt hg).trans h
theorem au_range {w : World} {g : Nat} {T : TypeId} {xs : List Value} (h : Row w g T xs) : w.rangeAt g 0 xs := fun j v hj => by
  rw [Nat.zero_add, h.cell j]
  exact hj
theorem au_step_row {P : Program} {ops : Array Oper} {o : Oper} {a : Act} {w : World} {K : Act → World → Prop} {Q : Exit → Act → World → Prop} {E : Prop} (hgd : o.guard = none) (ty : TypeId) (x y : Operand) (ho : o.op = .store ty x y)
    (g : Nat) (cells : List Value) (hx : a.eval x = .pointer (some ⟨g, 0, none⟩)) (hy : a.eval y = .agg cells.toArray) (T : TypeId) (old : List Value) (hg : Row w g T old) (hi : (P.info? ty).map (·.size) = some cells.length) (hold : old.length = cells.length) (h1 : ∀ v ∈ cells, v.oneCell' = true)
    (h : K (a.put o.dst undef) (w.setRow g cells.toArray)) : if Region.wanted o (yielded ops a.tmps) = true then Oper.wp P o a w K Q else E := by
  have hw : Region.wanted o (yielded ops a.tmps) = true := by simp [Region.wanted, hgd]
  rw [if_pos hw]
  exact wp_store_row ty x y ho g cells.toArray hx hy T old.toArray hg (by rw [hi]; simp) (by simpa using hold) (all_oneCell h1) h
theorem pass_splice (sec : List Int) : splice (bytesOf (List.replicate 8 0)) 0 (bytesOf (sec.take 8)) = bytesOf (passB sec) := by
  unfold splice passB
  rw [bytesOf_append]
  simp only [List.take_zero, List.nil_append, Nat.zero_add]
  congr 1
  rw [length_bytesOf]
  simp only [bytesOf, List.map_replicate, List.drop_replicate, List.length_take]
  congr 1
  omega
set_option maxHeartbeats 1000000 in
theorem password_any (x : KE) (w : World) (ok : x.Ok w) (hp : 0 < x.p.sec.length) :
    Calls Try.prog 30 #[x.agg] w fun e w' => e = .returned (.agg (bytesOf (passB x.p.sec)).toArray) ∧ Touch (fun _ => False) w w' := by
  have harg := ok.arg
  obtain ⟨⟨i, kd, sec, sf, su, tf, tu⟩, a0, kc⟩ := x
  dsimp only [KE.agg, KE.sv] at *
  rcases harg with ⟨_, h0⟩ | ⟨ad, c, e, h1, h2, h3⟩
  · subst h0; simp at hp
  cases e
  have hOl' : (bytesOf (passB sec)).length = 8 := by rw [length_bytesOf, length_passB]
  have hO1 := oneCell_bytesOf (passB sec)
  have HSp : Hid (splice (bytesOf (List.replicate 8 0)) 0 (bytesOf (sec.take 8)) = bytesOf (passB sec)) := pass_splice sec
  have hcl : (bytesOf (sec.take 8)).length = Nat.min sec.length 8 := by rw [length_bytesOf, List.length_take]; exact Nat.min_comm _ _
  have HS : Hid (∀ j v, (bytesOf (sec.take 8))[j]? = some v → w.cell? (ad.add j) = some v) := fun j v hj => h3 j v (by
    simp only [bytesOf, List.getElem?_map, List.getElem?_take] at hj ⊢
    split at hj
    · exact hj
    · simp at hj)
  have hc1 := oneCell_bytesOf (sec.take 8)
  have hfit : 0 + (bytesOf (sec.take 8)).length ≤ (bytesOf (List.replicate 8 0)).length := by rw [hcl, length_bytesOf]; simp; exact Nat.min_le_right _ _
  generalize bytesOf (passB sec) = O at *
  generalize bytesOf (sec.take 8) = CS at *
  generalize sec.length = kn at *
  clear ok h1 h2 h3 hp
  go_enter Try.func30, Try.ntmps30
  go_upto_region 1 with fail
  have k0 := (kbox_new w i kd (some ad) kn kc sf su tf tu).keep ((Touch.refl _ _).alloc (.cells #[.int .u8 0, .int .u8 0, .int .u8 0, .int .u8 0, .int .u8 0, .int .u8 0, .int .u8 0, .int .u8 0] 56))
  have z0 := row_new (w.alloc (.cells #[.int .u8 i, .int .u16 kd, .slice (some ad) kn kc, .int .i64 sf, .int .i64 su, .int .i64 tf, .int .i64 tu] 37)) 56 #[.int .u8 0, .int .u8 0, .int .u8 0, .int .u8 0, .int .u8 0, .int .u8 0, .int .u8 0, .int .u8 0]
  rw [World.size_alloc] at z0
  have t0 : Hid (Touch (fun _ => False) w ((w.alloc (.cells #[.int .u8 i, .int .u16 kd, .slice (some ad) kn kc, .int .i64 sf, .int .i64 su, .int .i64 tf, .int .i64 tu] 37)).alloc (.cells #[.int .u8 0, .int .u8 0, .int .u8 0, .int .u8 0, .int .u8 0, .int .u8 0, .int .u8 0, .int .u8 0] 56))) := ((Touch.refl _ w).alloc _).alloc _
  generalize (w.alloc (.cells #[.int .u8 i, .int .u16 kd, .slice (some ad) kn kc, .int .i64 sf, .int .i64 su, .int .i64 tf, .int .i64 tu] 37)).alloc (.cells #[.int .u8 0, .int .u8 0, .int .u8 0, .int .u8 0, .int .u8 0, .int .u8 0, .int .u8 0, .int .u8 0] 56) = wa at k0 z0 t0 ⊢
  have c2 := k0.c2
  have z1 : Row wa.drew (w.heap.size + 1) 56 (bytesOf (List.replicate 8 0)) := z0.keep ((Touch.refl _ _).drew)
  generalize bytesOf (List.replicate 8 0) = ZZ at hfit HSp z1
  clear k0 z0
  refine wp_region_held_drew (S := fun w' => w'.cell? ⟨w.heap.size, 2, none⟩ = some (.slice (some ad) kn kc)) (by kernel_rfl) c2 (fun hHeld => ?_)
  refine wpAnyH_take (i := 0) (oi := ⟨some 3, _, _, _, _, _⟩) (v := .slice (some ⟨w.heap.size + 1, 0, none⟩) 8 8) rfl (by kernel_rfl) (by kernel_rfl) (by kernel_rfl) (fun _ _ _ h => h) (Or.inl ⟨by rfl, fun w hw => by go_simp⟩) (by assumption) ?_
  simp only [Act.put, List.setIfInBounds_toArray, List.set_cons_zero, List.set_cons_succ]
  refine wpAnyH_take (i := 1) (oi := ⟨some 4, _, _, _, _, _⟩) (v := .pointer (some ⟨w.heap.size, 2, none⟩)) rfl (by kernel_rfl) (by kernel_rfl) (by kernel_rfl) (fun _ _ _ h => h) (Or.inl ⟨by rfl, fun w hw => by go_simp⟩) (by assumption) ?_
  simp only [Act.put, List.setIfInBounds_toArray, List.set_cons_zero, List.set_cons_succ]
  refine wpAnyH_take (i := 2) (oi := ⟨some 5, _, _, _, _, _⟩) (v := .slice (some ad) kn kc) rfl (by kernel_rfl) (by kernel_rfl) (by kernel_rfl) (fun _ _ _ h => h) (Or.inl ⟨by rfl, fun w hw => by go_simp⟩) (by assumption) ?_
  simp only [Act.put, List.setIfInBounds_toArray, List.set_cons_zero, List.set_cons_succ]
  refine wpAnyH_ready (rs := [3]) (by kernel_rfl) (by simp) ?_
  refine AllReadyH.cons (o := ⟨some 6, _, _, _, _, _⟩) rfl (fun K hK => ?_) AllReadyH.nil
  refine step_copy_exact (by rfl) (.tmp 3) (.tmp 5) 35 35 (by rfl) 5 Try.underlying35 (by kernel_rfl) ad 8 8 kn kc (w.heap.size + 1) 0 (by rfl) (by rfl) ZZ 56 z1 CS hcl (fun j v hj => (t0.out.trans ((Touch.refl _ _).drew)).cellN (HS.out j v hj)) hfit hc1 ?_
  simp only [Act.put, List.setIfInBounds_toArray, List.set_cons_zero, List.set_cons_succ]
  have R2 := z1.setRow (splice ZZ 0 CS).toArray
  have hh2 : (wa.drew.setRow (w.heap.size + 1) (splice ZZ 0 CS).toArray).cell? ⟨w.heap.size, 2, none⟩ = some (.slice (some ad) kn kc) := by rw [cell_setRow_other _ _ _ _ (by simp)]; exact hHeld
  have t2 : Hid (Touch (fun _ => False) w (wa.drew.setRow (w.heap.size + 1) (splice ZZ 0 CS).toArray)) := Touch.setRow (t0.out.trans ((Touch.refl _ _).drew)) (Or.inr (by omega)) _
  generalize wa.drew.setRow (w.heap.size + 1) (splice ZZ 0 CS).toArray = w2 at R2 hh2 t2 ⊢
  rw [List.toList_toArray, HSp.out] at R2
  refine hK.out _ _ hh2 (fun hHeld => ?_)
  clear hK K
  refine wpAnyH_done (by kernel_rfl) ?_ _
  clear z1 c2 hh2
  have HR2 : Hid (Row w2 (w.heap.size + 1) 56 O) := R2
  clear R2
  go_wp2_with (first | refine wpList_load_row rfl 56 (.tmp 2) rfl (w.heap.size + 1) rfl 56 _ (0, 0) _ HR2.out Try.underlying56 rfl (by rw [Try.info8d, List.size_toArray, hOl']) ?_ | refine wpList_store_row rfl 56 (.tmp 2) (.tmp 7) rfl (w.heap.size + 1) O.toArray rfl rfl 56 _ HR2.out (by rw [Try.info8d, List.size_toArray, hOl']) (by simp [hOl']) (all_oneCell hO1) ?_)
  refine bodyPost_ret (results_cell_row Try.results30 _ _ (w.heap.size + 1) 56 O.toArray (0, 0) _ rfl (HR2.out.setRow O.toArray) Try.underlying56 rfl (by rw [Try.info8d, List.size_toArray, hOl'])) rfl ?_
  exact ⟨rfl, Touch.setRow t2.out (Or.inr (by omega)) _⟩
end Go.Proofs.Ythilfealloakdab
