/- Contract: Keyed. -/
import Derived.Test.YtbkidfmolnbhlaaDigThru
import Derived.Laws.CopyOwn
namespace Go.Proofs.Ytbkidfmolnbhlaa
open Go.RowKit
set_option linter.unusedVariables false
set_option maxRecDepth 100000

theorem Try.info5s : (Try.prog.info? 5).map (·.size) = some 1 := by kernel_rfl
theorem key_splice (ks : List Nat) : splice (bytesOf (List.replicate 16 0)) 0 (bytesOf (natB (ks.take 16))) = bytesOf (natB (keyN ks)) := by
  unfold splice keyN
  rw [natB_append, bytesOf_append]
  simp only [List.take_zero, List.nil_append, Nat.zero_add]
  congr 1
  rw [length_bytesOf, length_natB]
  simp only [bytesOf, natB, List.map_replicate, List.drop_replicate, List.length_take]
  congr 1
  omega
theorem keyN_byte {ks : List Nat} (h : ∀ x ∈ ks, x < 256) : ∀ x ∈ keyN ks, x < 256 := by
  intro x hx
  unfold keyN at hx
  rcases List.mem_append.mp hx with hx | hx
  · exact h x (List.mem_of_mem_take hx)
  · have := (List.mem_replicate.mp hx).2
    omega
theorem row_arg {w : World} {g : Nat} {T : TypeId} {l : List Int} (h : Row w g T (bytesOf l)) (hl : l.length ≤ 1000) (n : Nat) (hn : n = l.length) : ArgAt w (.slice (some ⟨g, 0, none⟩) n n) l := by
  subst hn
  refine RowAt.arg (Or.inr ⟨g, 0, l.length, rfl, Nat.le_refl _, by unfold maxLen; omega, fun j u hj => ?_⟩)
  rw [Nat.zero_add, h.cell j]
  exact hj
abbrev z16 : Array Value := #[.int .u8 0, .int .u8 0, .int .u8 0, .int .u8 0, .int .u8 0, .int .u8 0, .int .u8 0, .int .u8 0, .int .u8 0, .int .u8 0, .int .u8 0, .int .u8 0, .int .u8 0, .int .u8 0, .int .u8 0, .int .u8 0]
abbrev kW (w : World) : World := (w.alloc (.cells z16 25)).alloc (.cells z16 25)
theorem kW_one (w : World) : Row (kW w) w.heap.size 25 (bytesOf (List.replicate 16 0)) := (row_new w 25 z16).keep ((Touch.refl _ _).alloc _)
theorem kW_two (w : World) : Row (kW w) (w.heap.size + 1) 25 (bytesOf (List.replicate 16 0)) := by
  have := row_new (w.alloc (.cells z16 25)) 25 z16
  simp only [World.size_alloc] at this
  exact this
theorem kW_touch (w : World) : Touch (fun _ => False) w (kW w) := ((Touch.refl _ _).alloc _).alloc _
theorem kW_size (w : World) : (kW w).heap.size = w.heap.size + 2 := by simp
theorem key_pos {w w' : World} {ka : Option Addr} {kc : Nat} {ks : List Nat} (h : ArgAt w (.slice ka ks.length kc) (natB ks)) (t : Touch (fun _ => False) w w') :
    0 < (bytesOf (natB (ks.take 16))).length → ∃ ad, ka = some ad ∧ ∀ j v, (bytesOf (natB (ks.take 16)))[j]? = some v → w'.cell? (ad.add j) = some v := by
  intro hp
  rcases h with ⟨hv, hn⟩ | ⟨ad, c, hv, h1, h2, h3⟩
  · have : ks = [] := by simpa [natB] using hn
    subst this
    simp [bytesOf, natB] at hp
  · injection hv with hka _ _
    subst hka
    refine ⟨ad, rfl, fun j v hj => t.cellN (h3 j v ?_)⟩
    simp only [natB_take, bytesOf, List.getElem?_map, List.getElem?_take] at hj ⊢
    split at hj
    · exact hj
    · simp at hj
theorem key_len (ks : List Nat) : (bytesOf (natB (ks.take 16))).length = Nat.min ks.length 16 := by
  rw [length_bytesOf, length_natB, List.length_take]
  exact Nat.min_comm _ _
set_option maxHeartbeats 1000000 in
theorem keyed_any (vk v : Value) (ks ns : List Nat) (w : World) (hk : ArgAt w vk (natB ks)) (hv : ArgAt w v (natB ns)) (hbk : ∀ x ∈ ks, x < 256) (hby : ∀ x ∈ ns, x < 256) (hl : ns.length ≤ 1073741824) :
    Calls Try.prog 9 #[vk, v] w fun e w' => e = .returned (.agg (bytesOf (natB (keyedN ks ns))).toArray) ∧ Touch (fun _ => False) w w' := by
  obtain ⟨ka, kc, rfl, -⟩ := hk.form
  rw [length_natB] at hk ⊢
  have HC : Hid (∀ w' vb, Touch (fun _ => False) w w' → ArgAt w' vb (natB (keyN ks)) → Calls Try.prog 17 #[v, vb] w' fun e w'' => e = .returned (.agg (bytesOf (natB (keyedN ks ns))).toArray) ∧ Touch (fun _ => False) w' w'') := fun w' vb t hb =>
    through_any v vb ns (keyN ks) w' (hv.keep t (fun _ _ h => h)) hb hby (keyN_byte hbk) hl (by rw [length_keyN]; omega)
  have hOl' : (bytesOf (natB (keyedN ks ns))).length = 16 := by rw [length_bytesOf, length_natB]; exact length_outN _
  have hO1 := oneCell_bytesOf (natB (keyedN ks ns))
  generalize hOO : bytesOf (natB (keyedN ks ns)) = O at hOl' hO1 HC ⊢
  have HK : Hid (ArgAt w (.slice ka ks.length kc) (natB ks)) := hk
  clear hv hby hOO hbk hk
  go_enter Try.func9, Try.ntmps9
  have HK2 := key_pos HK.out (kW_touch w)
  have hcl := key_len ks
  have hfit : 0 + (bytesOf (natB (ks.take 16))).length ≤ (bytesOf (List.replicate 16 0)).length := by
    rw [key_len, length_bytesOf]
    simp
    exact Nat.min_le_right _ _
  have hc1 := oneCell_bytesOf (natB (ks.take 16))
  have HSp : Hid (splice (bytesOf (List.replicate 16 0)) 0 (bytesOf (natB (ks.take 16))) = bytesOf (natB (keyN ks))) := key_splice ks
  generalize bytesOf (natB (ks.take 16)) = CS at HK2 hcl hfit hc1 HSp
  have hkw := kW_two w
  generalize bytesOf (List.replicate 16 0) = Z at hfit HSp hkw
  go_wp2_with (refine wpList_copy_splice rfl (.tmp 6) (.tmp 7) 22 22 rfl 5 Try.underlying22 Try.info5s (some ⟨w.heap.size + 1, 0, none⟩) ka 16 16 ks.length kc rfl rfl (w.heap.size + 1) 0 Z 25 hkw CS hcl (fun hp => ⟨rfl, HK2 hp⟩) hfit hc1 (w.heap.size + 1) (kW w) (Below.refl _ _) (Nat.le_refl _) ?_; intro w3 hr3 hb3)
  have HA3 : Hid (ArgAt w3 (.slice (some ⟨w.heap.size + 1, 0, none⟩) 16 16) (natB (keyN ks))) := by
    have := hr3.out
    rw [HSp.out] at this
    exact row_arg (T := 25) this (by rw [length_natB, length_keyN]; omega) 16 (by rw [length_natB, length_keyN])
  have HT3 : Hid (Touch (fun _ => False) w w3) := ⟨hb3.os, hb3.tape, hb3.output, Nat.le_trans (kW_touch w).size hb3.size, fun k hk hn => (hb3.block k (by omega)).trans ((kW_touch w).block k hk hn)⟩
  have HR3 : Hid (Row w3 w.heap.size 25 (bytesOf (List.replicate 16 0))) := (hb3.block _ (by omega)).trans (kW_one w)
  clear hr3 hb3 HK2 HK hcl hfit hc1 HSp hkw
  go_wp2_with fail
  refine (HC.out w3 _ HT3.out HA3.out).mono ?_
  rintro e w4 ⟨rfl, t4⟩
  have HT4 : Hid (Touch (fun _ => False) w w4) := HT3.out.trans t4
  have HR4 : Hid (Row w4 w.heap.size 25 (bytesOf (List.replicate 16 0))) := HR3.out.keep t4
  clear t4 HT3 HR3 HC HA3
  go_wp2_with (refine wpList_store_row rfl 25 (.tmp 4) (.tmp 11) rfl w.heap.size O.toArray rfl rfl 25 _ HR4.out (by rw [Try.info16, List.size_toArray, hOl']) (by simp [length_bytesOf, hOl']) (all_oneCell hO1) ?_)
  refine bodyPost_ret (results_cell_row Try.results9 _ _ w.heap.size 25 O.toArray (0, 0) _ rfl (HR4.out.setRow O.toArray) Try.underlying25 rfl (by rw [Try.info16, List.size_toArray, hOl'])) rfl ?_
  exact ⟨rfl, Touch.setRow HT4.out (Or.inr (Nat.le_refl _)) _⟩
end Go.Proofs.Ytbkidfmolnbhlaa
