/- Contract: lives; two digests that are the same. -/
import Derived.Test.YtbkidfmolnbhlaaDigThru
import Derived.Test.YtbkidfmolnbhlaaDigSame
import Derived.Stop.BytesEq
import Derived.Lib.SlBytesConst
namespace Go.Proofs.Ytbkidfmolnbhlaa
open Go.RowKit
set_option linter.unusedVariables false
set_option maxRecDepth 100000

theorem cells_of {l : List Nat} (h : ∀ x ∈ l, x < 256) : bytesOf (natB l) = (l.map UInt8.ofNat).map Extern.Stop.cell := by
  unfold bytesOf natB
  rw [List.map_map, List.map_map]
  apply List.map_congr_left
  intro x hx
  have := h x hx
  simp [Extern.Stop.cell]
  omega
/-- Sixteen bytes and the same: equal. -/
theorem eq16 (l : List Nat) (h : ∀ x ∈ l, x < 256) (hl : l.length = 16) (w : World) :
    (Op.equalIn 10000 25 (.agg (bytesOf (natB l)).toArray) (.agg (bytesOf (natB l)).toArray)).run Try.prog w = .ok true w := by
  obtain ⟨i0, hi, hz0, hz1, hz2⟩ := info_parts Try.info5w
  rw [cells_of h]
  have := run_equalIn_bytes (P := Try.prog) w 9998 25 5 16 Try.underlying25 Try.underlying5 (by intro w; simp [sizeOf, typeInfo, hi, hz1]) (l.map UInt8.ofNat) (l.map UInt8.ofNat) (by simp [hl]) (by simp [hl])
  simpa using this
def abcD : List Nat := [0x90, 0x01, 0x50, 0x98, 0x3c, 0xd2, 0x4f, 0xb0, 0xd6, 0x96, 0x3f, 0x7d, 0x28, 0xe1, 0x7f, 0x72]
theorem lit_arg (w : World) (l : List Int) (C : Array Value) (hC : C.toList = bytesOf l) (hm : l.length ≤ 1000) : ArgAt (w.alloc (.cells C 5)) (.slice (some ⟨w.heap.size, 0, none⟩) l.length l.length) l :=
  Or.inr ⟨⟨w.heap.size, 0, none⟩, l.length, rfl, Nat.le_refl _, by unfold maxLen; omega, src_new w C 5 0 l (by simpa using hC)⟩
theorem abc_any (w : World) : Calls Try.prog 8 #[.slice (some ⟨w.heap.size, 0, none⟩) 3 3] (w.alloc (.cells #[.int .u8 97, .int .u8 98, .int .u8 99] 5 (3, 4))) fun e w' => e = .returned (.agg (bytesOf (natB abcD)).toArray) ∧ Touch (fun _ => False) w w' := by
  have ha : ArgAt (w.alloc (.cells #[.int .u8 97, .int .u8 98, .int .u8 99] 5 (3, 4))) (.slice (some ⟨w.heap.size, 0, none⟩) 3 3) (natB [97, 98, 99]) := by
    refine Or.inr ⟨⟨w.heap.size, 0, none⟩, 3, rfl, Nat.le_refl _, by simp [maxLen], fun j u hj => ?_⟩
    rw [add_plain, cell_of_row _ w.heap.size (0 + j) #[.int .u8 97, .int .u8 98, .int .u8 99] 5 (3, 4) (by show (w.heap.push _)[w.heap.size]? = _; simp), Nat.zero_add]
    have e : (#[.int .u8 97, .int .u8 98, .int .u8 99] : Array Value)[j]? = (bytesOf (natB [97, 98, 99]))[j]? := by
      rw [show (#[.int .u8 97, .int .u8 98, .int .u8 99] : Array Value) = (bytesOf (natB [97, 98, 99])).toArray from rfl, List.getElem?_toArray]
    rw [e]
    exact hj
  have h := of_any (.slice (some ⟨w.heap.size, 0, none⟩) 3 3) [97, 98, 99] _ ha (by decide) (by decide)
  rw [abc_is] at h
  exact h.mono fun e w' ⟨h1, h2⟩ => ⟨h1, ((Touch.refl _ w).alloc _).trans h2⟩
theorem ones_any (w : World) (n : Nat) (hn : w.heap.size = n) : Calls Try.prog 14 #[.slice (some ⟨n, 0, none⟩) 1 1, .slice (some ⟨n + 1, 0, none⟩) 1 1] ((w.alloc (.cells #[.int .u8 1] 5)).alloc (.cells #[.int .u8 1] 5)) fun e w' => e = .returned (.bool true) ∧ Touch (fun _ => False) w w' := by
  subst hn
  have a1 : ArgAt ((w.alloc (.cells #[.int .u8 1] 5)).alloc (.cells #[.int .u8 1] 5)) (.slice (some ⟨w.heap.size, 0, none⟩) 1 1) [1] := (lit_arg w [1] #[.int .u8 1] rfl (by simp)).keep ((Touch.refl _ _).alloc _) (fun _ _ h => h)
  have a2 : ArgAt ((w.alloc (.cells #[.int .u8 1] 5)).alloc (.cells #[.int .u8 1] 5)) (.slice (some ⟨w.heap.size + 1, 0, none⟩) 1 1) [1] := by
    have := lit_arg (w.alloc (.cells #[.int .u8 1] 5)) [1] #[.int .u8 1] rfl (by simp)
    simpa using this
  exact (same_any _ _ [1] [1] _ a1 a2 (by decide) (by decide)).mono fun e w' ⟨h1, h2⟩ => ⟨h1, h2 ▸ ((Touch.refl _ w).alloc _).alloc _⟩
theorem noll_any (w : World) : Calls Try.prog 14 #[.slice none 0 0, .slice (some ⟨w.heap.size, 0, none⟩) 1 1] (w.alloc (.cells #[.int .u8 0] 5)) fun e w' => e = .returned (.bool false) ∧ Touch (fun _ => False) w w' := by
  have a2 : ArgAt (w.alloc (.cells #[.int .u8 0] 5)) (.slice (some ⟨w.heap.size, 0, none⟩) 1 1) [0] := lit_arg w [0] #[.int .u8 0] rfl (by simp)
  exact (same_any _ _ [] [0] _ (Or.inl ⟨rfl, rfl⟩) a2 (by decide) (by decide)).mono fun e w' ⟨h1, h2⟩ => ⟨h1, h2 ▸ (Touch.refl _ w).alloc _⟩
theorem abcD_cells : bytesOf (natB abcD) = [.int .u8 144, .int .u8 1, .int .u8 80, .int .u8 152, .int .u8 60, .int .u8 210, .int .u8 79, .int .u8 176, .int .u8 214, .int .u8 150, .int .u8 63, .int .u8 125, .int .u8 40, .int .u8 225, .int .u8 127, .int .u8 114] := rfl

set_option maxHeartbeats 1000000 in
theorem lives_any (w : World) : Calls Try.prog 6 #[] w fun e w' => e = .returned (.bool true) ∧ Touch (fun _ => False) w w' := by
  have heq := eq16 abcD (by decide) rfl
  have hOl : (bytesOf (natB abcD)).length = 16 := rfl
  have hO1 := oneCell_bytesOf (natB abcD)
  have kc := fun (w : World) (C : Array Value) (n c : Nat) => Lib.run_convert_bytes_const (P := Try.prog) w 22 5 C n c Try.underlying22 Try.underlying5
  go_enter Try.func6, Try.ntmps6
  go_wp2_with fail
  refine (abc_any w).mono ?_
  rintro e w1 ⟨rfl, t1⟩
  rw [abcD_cells] at heq hO1 ⊢
  have HT1 : Hid (Touch (fun _ => False) w w1) := t1
  clear t1 hOl kc
  go_wp2_with (first | refine wpList_store_row rfl 25 (.tmp 1) (.tmp 4) rfl w1.heap.size _ rfl rfl 25 _ (row_new w1 25 _) (by rw [Try.info16]; rfl) rfl (all_oneCell hO1) ?_ | refine wpList_load_row rfl 25 (.tmp 1) rfl w1.heap.size rfl 25 _ (0, 0) _ ((row_new w1 25 _).setRow _) Try.underlying25 rfl (by rw [Try.info16]; rfl) ?_)
  refine (ones_any _ (w1.heap.size + 1) (by simp)).mono ?_
  rintro e w2 ⟨rfl, t2⟩
  have HT2 : Hid (Touch (fun _ => False) w w2) := (Touch.setRow (HT1.out.alloc _) (Or.inr HT1.out.size) _).trans t2
  clear t2 heq hO1
  go_wp2_with fail
  refine (noll_any w2).mono ?_
  rintro e w3 ⟨rfl, t3⟩
  go_wp2_with fail
  go_ret
  exact ⟨rfl, HT2.out.trans t3⟩
end Go.Proofs.Ytbkidfmolnbhlaa
