/- May a key be? -/
import Derived.Test.YtjjgbcjgmjggnaaGreatAuRow
import Derived.Test.YtjjgbcjgmjggnaaGreatPkSeal
import Derived.Test.YtjjgbcjgmjggnaaGreatStWr
import Derived.Test.YtjjgbcjgmjggnaaGreatStRow0
import Derived.Test.YtjjgbcjgmjggnaaGreatCutB
import Derived.Deep.DeepCutAuto
import Derived.Deep.RegionHeld3
import Derived.Deep.MidRow
import Derived.Laws.CopyOwn
namespace Go.Proofs.YtjjgbcjgmjggnaaGreat
open Go.RowKit
set_option linter.unusedVariables false
set_option maxRecDepth 100000

/-- A key in a block of its own. -/
def KBox (w : World) (b : Nat) (i kd : Int) (ka : Option Addr) (kn kc : Nat) (sf su tf tu : Int) : Prop := Row w b 56 [.int .u8 i, .int .u16 kd, .slice ka kn kc, .int .i64 sf, .int .i64 su, .int .i64 tf, .int .i64 tu]
theorem KBox.keep {w w' : World} {b : Nat} {i kd : Int} {ka : Option Addr} {kn kc : Nat} {sf su tf tu : Int} (h : KBox w b i kd ka kn kc sf su tf tu) (t : Touch (fun _ => False) w w') : KBox w' b i kd ka kn kc sf su tf tu := Row.keep h t
theorem kbox_new (w : World) (i kd : Int) (ka : Option Addr) (kn kc : Nat) (sf su tf tu : Int) : KBox (w.alloc (.cells #[.int .u8 i, .int .u16 kd, .slice ka kn kc, .int .i64 sf, .int .i64 su, .int .i64 tf, .int .i64 tu] 56)) w.heap.size i kd ka kn kc sf su tf tu := row_new w 56 _
theorem KBox.c0 {w : World} {b : Nat} {i kd : Int} {ka : Option Addr} {kn kc : Nat} {sf su tf tu : Int} (h : KBox w b i kd ka kn kc sf su tf tu) : w.cell? ⟨b, 0, none⟩ = some (.int .u8 i) := Row.cell h 0
theorem KBox.c1 {w : World} {b : Nat} {i kd : Int} {ka : Option Addr} {kn kc : Nat} {sf su tf tu : Int} (h : KBox w b i kd ka kn kc sf su tf tu) : w.cell? ⟨b, 1, none⟩ = some (.int .u16 kd) := Row.cell h 1
theorem KBox.c2 {w : World} {b : Nat} {i kd : Int} {ka : Option Addr} {kn kc : Nat} {sf su tf tu : Int} (h : KBox w b i kd ka kn kc sf su tf tu) : w.cell? ⟨b, 2, none⟩ = some (.slice ka kn kc) := Row.cell h 2
theorem KBox.c3 {w : World} {b : Nat} {i kd : Int} {ka : Option Addr} {kn kc : Nat} {sf su tf tu : Int} (h : KBox w b i kd ka kn kc sf su tf tu) : w.cell? ⟨b, 3, none⟩ = some (.int .i64 sf) := Row.cell h 3
theorem KBox.c4 {w : World} {b : Nat} {i kd : Int} {ka : Option Addr} {kn kc : Nat} {sf su tf tu : Int} (h : KBox w b i kd ka kn kc sf su tf tu) : w.cell? ⟨b, 4, none⟩ = some (.int .i64 su) := Row.cell h 4
theorem KBox.c5 {w : World} {b : Nat} {i kd : Int} {ka : Option Addr} {kn kc : Nat} {sf su tf tu : Int} (h : KBox w b i kd ka kn kc sf su tf tu) : w.cell? ⟨b, 5, none⟩ = some (.int .i64 tf) := Row.cell h 5
theorem KBox.c6 {w : World} {b : Nat} {i kd : Int} {ka : Option Addr} {kn kc : Nat} {sf su tf tu : Int} (h : KBox w b i kd ka kn kc sf su tf tu) : w.cell? ⟨b, 6, none⟩ = some (.int .i64 tu) := Row.cell h 6
set_option maxHeartbeats 1000000 in
theorem may_a (w : World) (i kd : Int) (ka : Option Addr) (kn kc : Nat) (sf su tf tu : Int) (hA : spanB sf su = false) :
    Calls Tryz.prog 22 #[.agg #[.int .u8 i, .int .u16 kd, .slice ka kn kc, .int .i64 sf, .int .i64 su, .int .i64 tf, .int .i64 tu]] w fun e w' => e = .returned (.bool false) ∧ Touch (fun _ => False) w w' := by
  have HS := fun w => sending_any w i kd ka kn kc sf su tf tu
  have HT := fun w => taking_any w i kd ka kn kc sf su tf tu
  have HP := fun w => span_any w sf su
  have HQ := fun w => span_any w tf tu
  have HL := fun w => longest_any w kd
  go_enter Tryz.func22, Tryz.ntmps22
  go_wp2_with fail
  have r0 := kbox_new w i kd ka kn kc sf su tf tu
  have t0 : Hid (Touch (fun _ => False) w (w.alloc (.cells #[.int .u8 i, .int .u16 kd, .slice ka kn kc, .int .i64 sf, .int .i64 su, .int .i64 tf, .int .i64 tu] 56))) := (Touch.refl _ _).alloc _
  generalize w.alloc (.cells #[.int .u8 i, .int .u16 kd, .slice ka kn kc, .int .i64 sf, .int .i64 su, .int .i64 tf, .int .i64 tu] 56) = wa at r0 t0 ⊢
  refine Calls.mono (HS _) ?_
  rintro e w1 ⟨rfl, t1⟩
  have r1 := r0.keep t1
  replace t1 : Hid (Touch (fun _ => False) w w1) := t0.out.trans t1
  clear r0 t0
  go_wp2_with fail
  refine Calls.mono (HP _) ?_
  rintro e w2 ⟨rfl, rfl⟩
  rw [hA]
  go_wp2_with fail
  go_region
  go_wp2_with fail
  go_ret
  exact ⟨rfl, t1.out.trans ((Touch.refl _ _).drew)⟩
set_option maxHeartbeats 1000000 in
theorem may_b (w : World) (i kd : Int) (ka : Option Addr) (kn kc : Nat) (sf su tf tu : Int) (hA : spanB sf su = true) (hB : spanB tf tu = false) :
    Calls Tryz.prog 22 #[.agg #[.int .u8 i, .int .u16 kd, .slice ka kn kc, .int .i64 sf, .int .i64 su, .int .i64 tf, .int .i64 tu]] w fun e w' => e = .returned (.bool false) ∧ Touch (fun _ => False) w w' := by
  have HS := fun w => sending_any w i kd ka kn kc sf su tf tu
  have HT := fun w => taking_any w i kd ka kn kc sf su tf tu
  have HP := fun w => span_any w sf su
  have HQ := fun w => span_any w tf tu
  have HL := fun w => longest_any w kd
  go_enter Tryz.func22, Tryz.ntmps22
  go_wp2_with fail
  have r0 := kbox_new w i kd ka kn kc sf su tf tu
  have t0 : Hid (Touch (fun _ => False) w (w.alloc (.cells #[.int .u8 i, .int .u16 kd, .slice ka kn kc, .int .i64 sf, .int .i64 su, .int .i64 tf, .int .i64 tu] 56))) := (Touch.refl _ _).alloc _
  generalize w.alloc (.cells #[.int .u8 i, .int .u16 kd, .slice ka kn kc, .int .i64 sf, .int .i64 su, .int .i64 tf, .int .i64 tu] 56) = wa at r0 t0 ⊢
  refine Calls.mono (HS _) ?_
  rintro e w1 ⟨rfl, t1⟩
  have r1 := r0.keep t1
  replace t1 : Hid (Touch (fun _ => False) w w1) := t0.out.trans t1
  clear r0 t0
  go_wp2_with fail
  refine Calls.mono (HP _) ?_
  rintro e w2 ⟨rfl, rfl⟩
  rw [hA]
  have c0 := r1.c0
  have c1 := r1.c1
  have c2 := r1.c2
  have c3 := r1.c3
  have c4 := r1.c4
  have c5 := r1.c5
  have c6 := r1.c6
  go_wp2_with fail
  refine Calls.mono (HT _) ?_
  rintro e w2 ⟨rfl, t2⟩
  have r2 := r1.keep t2
  replace t2 : Hid (Touch (fun _ => False) w w2) := t1.out.trans t2
  clear r1 t1 c0 c1 c2 c3 c4 c5 c6
  go_wp2_with fail
  refine Calls.mono (HQ _) ?_
  rintro e w3 ⟨rfl, rfl⟩
  rw [hB]
  go_wp2_with fail
  go_region
  go_wp2_with fail
  go_ret
  exact ⟨rfl, t2.out.trans ((Touch.refl _ _).drew)⟩
set_option maxHeartbeats 1000000 in
theorem may_c (w : World) (i kd : Int) (ka : Option Addr) (kn kc : Nat) (sf su tf tu : Int) (hA : spanB sf su = true) (hB : spanB tf tu = true) (hC : ¬ (1 : Int) ≤ (kn : Int)) :
    Calls Tryz.prog 22 #[.agg #[.int .u8 i, .int .u16 kd, .slice ka kn kc, .int .i64 sf, .int .i64 su, .int .i64 tf, .int .i64 tu]] w fun e w' => e = .returned (.bool false) ∧ Touch (fun _ => False) w w' := by
  have HS := fun w => sending_any w i kd ka kn kc sf su tf tu
  have HT := fun w => taking_any w i kd ka kn kc sf su tf tu
  have HP := fun w => span_any w sf su
  have HQ := fun w => span_any w tf tu
  have HL := fun w => longest_any w kd
  have hd : decide ((1 : Int) ≤ (kn : Int)) = false := decide_eq_false hC
  go_enter Tryz.func22, Tryz.ntmps22
  go_wp2_with fail
  have r0 := kbox_new w i kd ka kn kc sf su tf tu
  have t0 : Hid (Touch (fun _ => False) w (w.alloc (.cells #[.int .u8 i, .int .u16 kd, .slice ka kn kc, .int .i64 sf, .int .i64 su, .int .i64 tf, .int .i64 tu] 56))) := (Touch.refl _ _).alloc _
  generalize w.alloc (.cells #[.int .u8 i, .int .u16 kd, .slice ka kn kc, .int .i64 sf, .int .i64 su, .int .i64 tf, .int .i64 tu] 56) = wa at r0 t0 ⊢
  refine Calls.mono (HS _) ?_
  rintro e w1 ⟨rfl, t1⟩
  have r1 := r0.keep t1
  replace t1 : Hid (Touch (fun _ => False) w w1) := t0.out.trans t1
  clear r0 t0
  go_wp2_with fail
  refine Calls.mono (HP _) ?_
  rintro e w2 ⟨rfl, rfl⟩
  rw [hA]
  have c0 := r1.c0
  have c1 := r1.c1
  have c2 := r1.c2
  have c3 := r1.c3
  have c4 := r1.c4
  have c5 := r1.c5
  have c6 := r1.c6
  go_wp2_with fail
  refine Calls.mono (HT _) ?_
  rintro e w2 ⟨rfl, t2⟩
  have r2 := r1.keep t2
  replace t2 : Hid (Touch (fun _ => False) w w2) := t1.out.trans t2
  clear r1 t1 c0 c1 c2 c3 c4 c5 c6
  go_wp2_with fail
  refine Calls.mono (HQ _) ?_
  rintro e w3 ⟨rfl, rfl⟩
  rw [hB]
  have c2 := r2.c2
  go_wp2_with fail
  go_region
  go_wp2_with fail
  go_ret
  exact ⟨rfl, t2.out.trans ((Touch.refl _ _).drew)⟩
set_option maxHeartbeats 1000000 in
theorem may_d (w : World) (i kd : Int) (ka : Option Addr) (kn kc : Nat) (sf su tf tu : Int) (hA : spanB sf su = true) (hB : spanB tf tu = true) (hC : (1 : Int) ≤ (kn : Int)) (N : Int) (hN : longN kd = N) :
    Calls Tryz.prog 22 #[.agg #[.int .u8 i, .int .u16 kd, .slice ka kn kc, .int .i64 sf, .int .i64 su, .int .i64 tf, .int .i64 tu]] w fun e w' => e = .returned (.bool (decide ((kn : Int) ≤ N))) ∧ Touch (fun _ => False) w w' := by
  have HS := fun w => sending_any w i kd ka kn kc sf su tf tu
  have HT := fun w => taking_any w i kd ka kn kc sf su tf tu
  have HP := fun w => span_any w sf su
  have HQ := fun w => span_any w tf tu
  have HL := fun w => longest_any w kd
  rw [hN] at HL
  go_enter Tryz.func22, Tryz.ntmps22
  go_wp2_with fail
  have r0 := kbox_new w i kd ka kn kc sf su tf tu
  have t0 : Hid (Touch (fun _ => False) w (w.alloc (.cells #[.int .u8 i, .int .u16 kd, .slice ka kn kc, .int .i64 sf, .int .i64 su, .int .i64 tf, .int .i64 tu] 56))) := (Touch.refl _ _).alloc _
  generalize w.alloc (.cells #[.int .u8 i, .int .u16 kd, .slice ka kn kc, .int .i64 sf, .int .i64 su, .int .i64 tf, .int .i64 tu] 56) = wa at r0 t0 ⊢
  refine Calls.mono (HS _) ?_
  rintro e w1 ⟨rfl, t1⟩
  have r1 := r0.keep t1
  replace t1 : Hid (Touch (fun _ => False) w w1) := t0.out.trans t1
  clear r0 t0
  go_wp2_with fail
  refine Calls.mono (HP _) ?_
  rintro e w2 ⟨rfl, rfl⟩
  rw [hA]
  have c0 := r1.c0
  have c1 := r1.c1
  have c2 := r1.c2
  have c3 := r1.c3
  have c4 := r1.c4
  have c5 := r1.c5
  have c6 := r1.c6
  go_wp2_with fail
  refine Calls.mono (HT _) ?_
  rintro e w2 ⟨rfl, t2⟩
  have r2 := r1.keep t2
  replace t2 : Hid (Touch (fun _ => False) w w2) := t1.out.trans t2
  clear r1 t1 c0 c1 c2 c3 c4 c5 c6
  go_wp2_with fail
  refine Calls.mono (HQ _) ?_
  rintro e w3 ⟨rfl, rfl⟩
  rw [hB]
  go_wp2_with fail
  have d1 := snA_cell r2.c1
  have d2 := snA_cell r2.c2
  have st := SnA.start w2
  clear r2
  go_region_held3 (fun w' => SnA w2 w') (with_reducible assumption) (first | (go_at_call 51; refine Calls.mono (HL _) ?_; rintro e w4 ⟨rfl, rfl⟩))
  go_wp2_with fail
  go_ret
  exact ⟨rfl, t2.out.trans ((Touch.refl _ _).drew)⟩
/-- mayBe, every way. -/
theorem may_any (x : KE) (w : World) : Calls Tryz.prog 22 #[x.agg] w fun e w' => e = .returned (.bool x.p.may) ∧ Touch (fun _ => False) w w' := by
  unfold AKP.may
  cases hA : spanB x.p.sf x.p.su
  · exact may_a w _ _ _ _ _ _ _ _ _ hA
  · cases hB : spanB x.p.tf x.p.tu
    · exact may_b w _ _ _ _ _ _ _ _ _ hA hB
    · by_cases hC : (1 : Int) ≤ (x.p.sec.length : Int)
      · have e : decide (1 ≤ (x.p.sec.length : Int) ∧ (x.p.sec.length : Int) ≤ longN x.p.kind) = decide ((x.p.sec.length : Int) ≤ longN x.p.kind) := decide_eq_decide.mpr ⟨fun h => h.2, fun h => ⟨hC, h⟩⟩
        rw [e]
        exact may_d w _ _ _ _ _ _ _ _ _ hA hB hC _ rfl
      · rw [decide_eq_false (fun h => hC h.1)]
        exact may_c w _ _ _ _ _ _ _ _ _ hA hB hC
end Go.Proofs.YtjjgbcjgmjggnaaGreat

namespace Go.Proofs.YtjjgbcjgmjggnaaGreat
open Go.RowKit
set_option linter.unusedVariables false
set_option maxRecDepth 100000

theorem Tryz.info8d : (Tryz.prog.info? 122).map (·.size) = some 8 := by kernel_rfl
theorem au_row_touch {F : Nat → Prop} {w w' : World} {g : Nat} {T : TypeId} {xs : List Value} (h : Row w g T xs) (t : Touch F w w') (hg : ¬ F g) : Row w' g T xs := (t.block g h.lt hg).trans h
theorem au_range {w : World} {g : Nat} {T : TypeId} {xs : List Value} (h : Row w g T xs) : w.rangeAt g 0 xs := fun j v hj => by
  rw [Nat.zero_add, h.cell j]
  exact hj
theorem au_step_row {P : Program} {ops : Array Oper} {o : Oper} {a : Act} {w : World} {K : Act → World → Prop} {Q : Exit → Act → World → Prop} {E : Prop} (hgd : o.guard = none) (ty : TypeId) (x y : Operand) (ho : o.op = .store ty x y)
    (g : Nat) (cells : List Value) (hx : a.eval x = .pointer (some ⟨g, 0, none⟩)) (hy : a.eval y = .agg cells.toArray) (T : TypeId) (old : List Value) (hg : Row w g T old) (hi : (P.info? ty).map (·.size) = some cells.length) (hold : old.length = cells.length) (h1 : ∀ v ∈ cells, v.oneCell' = true)
    (h : K (a.put o.dst undef) (w.setRow g cells.toArray)) : if Region.wanted o (yielded ops a.tmps) = true then Oper.wp P o a w K Q else E := by
  have hw : Region.wanted o (yielded ops a.tmps) = true := by simp [Region.wanted, hgd]
  rw [if_pos hw]
  exact wp_store_row ty x y ho g cells.toArray hx hy T old.toArray hg (by rw [hi]; simp) (by simpa using hold) (all_oneCell h1) h
theorem pass_splice (sec : List Int) : splice (bytesOf (List.replicate 8 0)) 0 (bytesOf (sec.take 8)) = bytesOf (passB sec) := by
  unfold splice passB
  rw [bytesOf_append]
  simp only [List.take_zero, List.nil_append, Nat.zero_add]
  congr 1
  rw [length_bytesOf]
  simp only [bytesOf, List.map_replicate, List.drop_replicate, List.length_take]
  congr 1
  omega
set_option maxHeartbeats 1000000 in
theorem password_any (x : KE) (w : World) (ok : x.Ok w) (hp : 0 < x.p.sec.length) :
    Calls Tryz.prog 73 #[x.agg] w fun e w' => e = .returned (.agg (bytesOf (passB x.p.sec)).toArray) ∧ Touch (fun _ => False) w w' := by
  have harg := ok.arg
  obtain ⟨⟨i, kd, sec, sf, su, tf, tu⟩, a0, kc⟩ := x
  dsimp only [KE.agg, KE.sv] at *
  rcases harg with ⟨_, h0⟩ | ⟨ad, c, e, h1, h2, h3⟩
  · subst h0; simp at hp
  cases e
  have hOl' : (bytesOf (passB sec)).length = 8 := by rw [length_bytesOf, length_passB]
  have hO1 := oneCell_bytesOf (passB sec)
  have HSp : Hid (splice (bytesOf (List.replicate 8 0)) 0 (bytesOf (sec.take 8)) = bytesOf (passB sec)) := pass_splice sec
  have hcl : (bytesOf (sec.take 8)).length = Nat.min sec.length 8 := by rw [length_bytesOf, List.length_take]; exact Nat.min_comm _ _
  have HS : Hid (∀ j v, (bytesOf (sec.take 8))[j]? = some v → w.cell? (ad.add j) = some v) := fun j v hj => h3 j v (by
    simp only [bytesOf, List.getElem?_map, List.getElem?_take] at hj ⊢
    split at hj
    · exact hj
    · simp at hj)
  have hc1 := oneCell_bytesOf (sec.take 8)
  have hfit : 0 + (bytesOf (sec.take 8)).length ≤ (bytesOf (List.replicate 8 0)).length := by rw [hcl, length_bytesOf]; simp; exact Nat.min_le_right _ _
  generalize bytesOf (passB sec) = O at *
  generalize bytesOf (sec.take 8) = CS at *
  generalize sec.length = kn at *
  clear ok h1 h2 h3 hp
  go_enter Tryz.func73, Tryz.ntmps73
  go_upto_region 1 with fail
  have k0 := (kbox_new w i kd (some ad) kn kc sf su tf tu).keep ((Touch.refl _ _).alloc (.cells #[.int .u8 0, .int .u8 0, .int .u8 0, .int .u8 0, .int .u8 0, .int .u8 0, .int .u8 0, .int .u8 0] 122))
  have z0 := row_new (w.alloc (.cells #[.int .u8 i, .int .u16 kd, .slice (some ad) kn kc, .int .i64 sf, .int .i64 su, .int .i64 tf, .int .i64 tu] 56)) 122 #[.int .u8 0, .int .u8 0, .int .u8 0, .int .u8 0, .int .u8 0, .int .u8 0, .int .u8 0, .int .u8 0]
  rw [World.size_alloc] at z0
  have t0 : Hid (Touch (fun _ => False) w ((w.alloc (.cells #[.int .u8 i, .int .u16 kd, .slice (some ad) kn kc, .int .i64 sf, .int .i64 su, .int .i64 tf, .int .i64 tu] 56)).alloc (.cells #[.int .u8 0, .int .u8 0, .int .u8 0, .int .u8 0, .int .u8 0, .int .u8 0, .int .u8 0, .int .u8 0] 122))) := ((Touch.refl _ w).alloc _).alloc _
  generalize (w.alloc (.cells #[.int .u8 i, .int .u16 kd, .slice (some ad) kn kc, .int .i64 sf, .int .i64 su, .int .i64 tf, .int .i64 tu] 56)).alloc (.cells #[.int .u8 0, .int .u8 0, .int .u8 0, .int .u8 0, .int .u8 0, .int .u8 0, .int .u8 0, .int .u8 0] 122) = wa at k0 z0 t0 ⊢
  have c2 := k0.c2
  have z1 : Row wa.drew (w.heap.size + 1) 122 (bytesOf (List.replicate 8 0)) := z0.keep ((Touch.refl _ _).drew)
  generalize bytesOf (List.replicate 8 0) = ZZ at hfit HSp z1
  clear k0 z0
  refine wp_region_held_drew (S := fun w' => w'.cell? ⟨w.heap.size, 2, none⟩ = some (.slice (some ad) kn kc)) (by kernel_rfl) c2 (fun hHeld => ?_)
  refine wpAnyH_take (i := 0) (oi := ⟨some 3, _, _, _, _, _⟩) (v := .slice (some ⟨w.heap.size + 1, 0, none⟩) 8 8) rfl (by kernel_rfl) (by kernel_rfl) (by kernel_rfl) (fun _ _ _ h => h) (Or.inl ⟨by rfl, fun w hw => by go_simp⟩) (by assumption) ?_
  simp only [Act.put, List.setIfInBounds_toArray, List.set_cons_zero, List.set_cons_succ]
  refine wpAnyH_take (i := 1) (oi := ⟨some 4, _, _, _, _, _⟩) (v := .pointer (some ⟨w.heap.size, 2, none⟩)) rfl (by kernel_rfl) (by kernel_rfl) (by kernel_rfl) (fun _ _ _ h => h) (Or.inl ⟨by rfl, fun w hw => by go_simp⟩) (by assumption) ?_
  simp only [Act.put, List.setIfInBounds_toArray, List.set_cons_zero, List.set_cons_succ]
  refine wpAnyH_take (i := 2) (oi := ⟨some 5, _, _, _, _, _⟩) (v := .slice (some ad) kn kc) rfl (by kernel_rfl) (by kernel_rfl) (by kernel_rfl) (fun _ _ _ h => h) (Or.inl ⟨by rfl, fun w hw => by go_simp⟩) (by assumption) ?_
  simp only [Act.put, List.setIfInBounds_toArray, List.set_cons_zero, List.set_cons_succ]
  refine wpAnyH_ready (rs := [3]) (by kernel_rfl) (by simp) ?_
  refine AllReadyH.cons (o := ⟨some 6, _, _, _, _, _⟩) rfl (fun K hK => ?_) AllReadyH.nil
  refine step_copy_exact (by rfl) (.tmp 3) (.tmp 5) 43 43 (by rfl) 5 Tryz.underlying43 (by kernel_rfl) ad 8 8 kn kc (w.heap.size + 1) 0 (by rfl) (by rfl) ZZ 122 z1 CS hcl (fun j v hj => (t0.out.trans ((Touch.refl _ _).drew)).cellN (HS.out j v hj)) hfit hc1 ?_
  simp only [Act.put, List.setIfInBounds_toArray, List.set_cons_zero, List.set_cons_succ]
  have R2 := z1.setRow (splice ZZ 0 CS).toArray
  have hh2 : (wa.drew.setRow (w.heap.size + 1) (splice ZZ 0 CS).toArray).cell? ⟨w.heap.size, 2, none⟩ = some (.slice (some ad) kn kc) := by rw [cell_setRow_other _ _ _ _ (by simp)]; exact hHeld
  have t2 : Hid (Touch (fun _ => False) w (wa.drew.setRow (w.heap.size + 1) (splice ZZ 0 CS).toArray)) := Touch.setRow (t0.out.trans ((Touch.refl _ _).drew)) (Or.inr (by omega)) _
  generalize wa.drew.setRow (w.heap.size + 1) (splice ZZ 0 CS).toArray = w2 at R2 hh2 t2 ⊢
  rw [List.toList_toArray, HSp.out] at R2
  refine hK.out _ _ hh2 (fun hHeld => ?_)
  clear hK K
  refine wpAnyH_done (by kernel_rfl) ?_ _
  clear z1 c2 hh2
  have HR2 : Hid (Row w2 (w.heap.size + 1) 122 O) := R2
  clear R2
  go_wp2_with (first | refine wpList_load_row rfl 122 (.tmp 2) rfl (w.heap.size + 1) rfl 122 _ (0, 0) _ HR2.out Tryz.underlying122 rfl (by rw [Tryz.info8d, List.size_toArray, hOl']) ?_ | refine wpList_store_row rfl 122 (.tmp 2) (.tmp 7) rfl (w.heap.size + 1) O.toArray rfl rfl 122 _ HR2.out (by rw [Tryz.info8d, List.size_toArray, hOl']) (by simp [hOl']) (all_oneCell hO1) ?_)
  refine bodyPost_ret (results_cell_row Tryz.results73 _ _ (w.heap.size + 1) 122 O.toArray (0, 0) _ rfl (HR2.out.setRow O.toArray) Tryz.underlying122 rfl (by rw [Tryz.info8d, List.size_toArray, hOl'])) rfl ?_
  exact ⟨rfl, Touch.setRow t2.out (Or.inr (by omega)) _⟩
end Go.Proofs.YtjjgbcjgmjggnaaGreat
