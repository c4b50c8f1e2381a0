/- Contract: Keyed. -/
import Derived.Test.YtjjgbcjgmjggnaaGreatDoorDigThru
import Derived.Laws.CopyOwn
import Derived.Test.YtjjgbcjgmjggnaaGreatDoorWideB
import Derived.Laws.BytesArg
import Derived.Lib.Bytes
namespace Go.Proofs.YtjjgbcjgmjggnaaGreatDoor
open Go.RowKit
set_option linter.unusedVariables false
set_option maxRecDepth 100000

theorem Tryz.info5s : (Tryz.prog.info? 5).map (·.size) = some 1 := by kernel_rfl
theorem key_splice (ks : List Nat) : splice (bytesOf (List.replicate 16 0)) 0 (bytesOf (natB (ks.take 16))) = bytesOf (natB (keyN ks)) := by
  unfold splice keyN
  rw [natB_append, bytesOf_append]
  simp only [List.take_zero, List.nil_append, Nat.zero_add]
  congr 1
  rw [length_bytesOf, length_natB]
  simp only [bytesOf, natB, List.map_replicate, List.drop_replicate, List.length_take]
  congr 1
  omega
theorem keyN_byte {ks : List Nat} (h : ∀ x ∈ ks, x < 256) : ∀ x ∈ keyN ks, x < 256 := by
  intro x hx
  unfold keyN at hx
  rcases List.mem_append.mp hx with hx | hx
  · exact h x (List.mem_of_mem_take hx)
  · have := (List.mem_replicate.mp hx).2
    omega
theorem row_arg {w : World} {g : Nat} {T : TypeId} {l : List Int} (h : Row w g T (bytesOf l)) (hl : l.length ≤ 1000) (n : Nat) (hn : n = l.length) : ArgAt w (.slice (some ⟨g, 0, none⟩) n n) l := by
  subst hn
  refine RowAt.arg (Or.inr ⟨g, 0, l.length, rfl, Nat.le_refl _, by unfold maxLen; omega, fun j u hj => ?_⟩)
  rw [Nat.zero_add, h.cell j]
  exact hj
abbrev z16 : Array Value := #[.int .u8 0, .int .u8 0, .int .u8 0, .int .u8 0, .int .u8 0, .int .u8 0, .int .u8 0, .int .u8 0, .int .u8 0, .int .u8 0, .int .u8 0, .int .u8 0, .int .u8 0, .int .u8 0, .int .u8 0, .int .u8 0]
abbrev kW (w : World) : World := (w.alloc (.cells z16 95)).alloc (.cells z16 95)
theorem kW_one (w : World) : Row (kW w) w.heap.size 95 (bytesOf (List.replicate 16 0)) := (row_new w 95 z16).keep ((Touch.refl _ _).alloc _)
theorem kW_two (w : World) : Row (kW w) (w.heap.size + 1) 95 (bytesOf (List.replicate 16 0)) := by
  have := row_new (w.alloc (.cells z16 95)) 95 z16
  simp only [World.size_alloc] at this
  exact this
theorem kW_touch (w : World) : Touch (fun _ => False) w (kW w) := ((Touch.refl _ _).alloc _).alloc _
theorem key_pos {w w' : World} {ka : Option Addr} {kc : Nat} {ks : List Nat} (h : ArgAt w (.slice ka ks.length kc) (natB ks)) (t : Touch (fun _ => False) w w') :
    0 < (bytesOf (natB (ks.take 16))).length → ∃ ad, ka = some ad ∧ ∀ j v, (bytesOf (natB (ks.take 16)))[j]? = some v → w'.cell? (ad.add j) = some v := by
  intro hp
  rcases h with ⟨hv, hn⟩ | ⟨ad, c, hv, h1, h2, h3⟩
  · have : ks = [] := by simpa [natB] using hn
    subst this
    simp [bytesOf, natB] at hp
  · injection hv with hka _ _
    subst hka
    refine ⟨ad, rfl, fun j v hj => t.cellN (h3 j v ?_)⟩
    simp only [natB_take, bytesOf, List.getElem?_map, List.getElem?_take] at hj ⊢
    split at hj
    · exact hj
    · simp at hj
theorem key_len (ks : List Nat) : (bytesOf (natB (ks.take 16))).length = Nat.min ks.length 16 := by
  rw [length_bytesOf, length_natB, List.length_take]
  exact Nat.min_comm _ _
set_option maxHeartbeats 1000000 in
theorem keyed_any (vk v : Value) (ks ns : List Nat) (w : World) (hk : ArgAt w vk (natB ks)) (hv : ArgAt w v (natB ns)) (hbk : ∀ x ∈ ks, x < 256) (hby : ∀ x ∈ ns, x < 256) (hl : ns.length ≤ 1073741824) :
    Calls Tryz.prog 65 #[vk, v] w fun e w' => e = .returned (.agg (bytesOf (natB (keyedN ks ns))).toArray) ∧ Touch (fun _ => False) w w' := by
  obtain ⟨ka, kc, rfl, -⟩ := hk.form
  rw [length_natB] at hk ⊢
  have HC : Hid (∀ w' vb, Touch (fun _ => False) w w' → ArgAt w' vb (natB (keyN ks)) → Calls Tryz.prog 99 #[v, vb] w' fun e w'' => e = .returned (.agg (bytesOf (natB (keyedN ks ns))).toArray) ∧ Touch (fun _ => False) w' w'') := fun w' vb t hb =>
    through_any v vb ns (keyN ks) w' (hv.keep t (fun _ _ h => h)) hb hby (keyN_byte hbk) hl (by rw [length_keyN]; omega)
  have hOl' : (bytesOf (natB (keyedN ks ns))).length = 16 := by rw [length_bytesOf, length_natB]; exact length_outN _
  have hO1 := oneCell_bytesOf (natB (keyedN ks ns))
  generalize hOO : bytesOf (natB (keyedN ks ns)) = O at hOl' hO1 HC ⊢
  have HK : Hid (ArgAt w (.slice ka ks.length kc) (natB ks)) := hk
  clear hv hby hOO hbk hk
  go_enter Tryz.func65, Tryz.ntmps65
  have HK2 := key_pos HK.out (kW_touch w)
  have hcl := key_len ks
  have hfit : 0 + (bytesOf (natB (ks.take 16))).length ≤ (bytesOf (List.replicate 16 0)).length := by
    rw [key_len, length_bytesOf]
    simp
    exact Nat.min_le_right _ _
  have hc1 := oneCell_bytesOf (natB (ks.take 16))
  have HSp : Hid (splice (bytesOf (List.replicate 16 0)) 0 (bytesOf (natB (ks.take 16))) = bytesOf (natB (keyN ks))) := key_splice ks
  generalize bytesOf (natB (ks.take 16)) = CS at HK2 hcl hfit hc1 HSp
  have hkw := kW_two w
  generalize bytesOf (List.replicate 16 0) = Z at hfit HSp hkw
  go_wp2_with (refine wpList_copy_splice rfl (.tmp 6) (.tmp 7) 22 22 rfl 5 Tryz.underlying22 Tryz.info5s (some ⟨w.heap.size + 1, 0, none⟩) ka 16 16 ks.length kc rfl rfl (w.heap.size + 1) 0 Z 95 hkw CS hcl (fun hp => ⟨rfl, HK2 hp⟩) hfit hc1 (w.heap.size + 1) (kW w) (Below.refl _ _) (Nat.le_refl _) ?_; intro w3 hr3 hb3)
  have HA3 : Hid (ArgAt w3 (.slice (some ⟨w.heap.size + 1, 0, none⟩) 16 16) (natB (keyN ks))) := by
    have := hr3.out
    rw [HSp.out] at this
    exact row_arg (T := 95) this (by rw [length_natB, length_keyN]; omega) 16 (by rw [length_natB, length_keyN])
  have HT3 : Hid (Touch (fun _ => False) w w3) := ⟨hb3.os, hb3.tape, hb3.output, Nat.le_trans (kW_touch w).size hb3.size, fun k hk hn => (hb3.block k (by omega)).trans ((kW_touch w).block k hk hn)⟩
  have HR3 : Hid (Row w3 w.heap.size 95 (bytesOf (List.replicate 16 0))) := (hb3.block _ (by omega)).trans (kW_one w)
  clear hr3 hb3 HK2 HK hcl hfit hc1 HSp hkw
  go_wp2_with fail
  refine (HC.out w3 _ HT3.out HA3.out).mono ?_
  rintro e w4 ⟨rfl, t4⟩
  have HT4 : Hid (Touch (fun _ => False) w w4) := HT3.out.trans t4
  have HR4 : Hid (Row w4 w.heap.size 95 (bytesOf (List.replicate 16 0))) := HR3.out.keep t4
  clear t4 HT3 HR3 HC HA3
  go_wp2_with (refine wpList_store_row rfl 95 (.tmp 4) (.tmp 11) rfl w.heap.size O.toArray rfl rfl 95 _ HR4.out (by rw [Tryz.info16, List.size_toArray, hOl']) (by simp [length_bytesOf, hOl']) (all_oneCell hO1) ?_)
  refine bodyPost_ret (results_cell_row Tryz.results65 _ _ w.heap.size 95 O.toArray (0, 0) _ rfl (HR4.out.setRow O.toArray) Tryz.underlying95 rfl (by rw [Tryz.info16, List.size_toArray, hOl'])) rfl ?_
  exact ⟨rfl, Touch.setRow HT4.out (Or.inr (Nat.le_refl _)) _⟩
end Go.Proofs.YtjjgbcjgmjggnaaGreatDoor

namespace Go.Proofs.YtjjgbcjgmjggnaaGreatDoor
open Go.RowKit
set_option linter.unusedVariables false
set_option maxRecDepth 100000

theorem conv_any {w : World} {v : Value} {rs : List Int} (h : ArgAt w v rs) : (convert 22 9 v).run Tryz.prog w = .ok (.string (strOfNums rs)) w := by
  have hd : Tryz.prog.underlying 9 = some .string := Tryz.underlying9
  by_cases hp : 0 < rs.length
  · have hr := h.row hp
    obtain ⟨va, vc, rfl, _⟩ := h.form
    obtain ⟨ga, oa, rfl⟩ := rowAt_some hr hp
    exact run_convert_bytes_arg (P := Tryz.prog) w 22 5 Tryz.underlying22 Tryz.underlying5 ga oa rs.length vc rs rfl (fun i hi => rowAt_cell hr i hi) _ hd
  · obtain rfl : rs = [] := List.eq_nil_of_length_eq_zero (by omega)
    obtain ⟨va, vc, rfl, _⟩ := h.form
    rw [run_convert_bytes_string w 22 9 5 _ _ vc Tryz.underlying22 Tryz.underlying5 hd]
    cases va <;> simp [Conv.bytesToString, loadCells]
    all_goals rfl
theorem nums_inj {xs ys : List Int} (hx : ∀ x ∈ xs, 0 ≤ x ∧ x < 256) (hy : ∀ x ∈ ys, 0 ≤ x ∧ x < 256) (e : Lib.bytesOf xs = Lib.bytesOf ys) : xs = ys := by
  unfold Lib.bytesOf at e
  induction xs generalizing ys with
  | nil => cases ys with
    | nil => rfl
    | cons y ys => simp at e
  | cons x xs ih => cases ys with
    | nil => simp at e
    | cons y ys =>
      simp only [List.map_cons, List.cons.injEq] at e
      have h1 := hx x (by simp)
      have h2 := hy y (by simp)
      have h3 := congrArg UInt8.toNat e.1
      simp only [UInt8.toNat_ofNat'] at h3
      have h4 : x = y := by omega
      rw [h4, ih (fun z hz => hx z (List.mem_cons_of_mem _ hz)) (fun z hz => hy z (List.mem_cons_of_mem _ hz)) e.2]
theorem nums_eq {xs ys : List Int} (hx : ∀ x ∈ xs, 0 ≤ x ∧ x < 256) (hy : ∀ x ∈ ys, 0 ≤ x ∧ x < 256) : ((strOfNums xs).toList == (strOfNums ys).toList) = decide (xs = ys) := by
  rw [Lib.strOfNums_toList, Lib.strOfNums_toList]
  by_cases h : xs = ys
  · subst h; simp
  · have : ¬ Lib.bytesOf xs = Lib.bytesOf ys := fun e => h (nums_inj hx hy e)
    simp [h, this]
theorem equal_any (va vb : Value) (xs ys : List Int) (w : World) (ha : ArgAt w va xs) (hb : ArgAt w vb ys) (hx : ∀ x ∈ xs, 0 ≤ x ∧ x < 256) (hy : ∀ x ∈ ys, 0 ≤ x ∧ x < 256) :
    Calls Tryz.prog 139 #[va, vb] w fun e w' => e = .returned (.bool (decide (xs = ys))) ∧ w = w' := by
  have h1 := conv_any ha
  have h2 := conv_any hb
  have h3 := nums_eq hx hy
  generalize decide (xs = ys) = D at h3 ⊢
  clear hx hy ha hb
  go_enter Tryz.func139, Tryz.ntmps139
  go_wp2
  go_ret
  exact ⟨rfl, rfl⟩
theorem same_any (va vb : Value) (xs ys : List Int) (w : World) (ha : ArgAt w va xs) (hb : ArgAt w vb ys) (hx : ∀ x ∈ xs, 0 ≤ x ∧ x < 256) (hy : ∀ x ∈ ys, 0 ≤ x ∧ x < 256) :
    Calls Tryz.prog 129 #[va, vb] w fun e w' => e = .returned (.bool (decide (xs = ys))) ∧ w = w' := by
  have HC := equal_any va vb xs ys w ha hb hx hy
  generalize decide (xs = ys) = D at HC ⊢
  clear hx hy ha hb
  go_enter Tryz.func129, Tryz.ntmps129
  go_wp2_with fail
  refine HC.mono ?_
  rintro e w1 ⟨rfl, rfl⟩
  go_wp2
  go_ret
  exact ⟨rfl, rfl⟩

end Go.Proofs.YtjjgbcjgmjggnaaGreatDoor
