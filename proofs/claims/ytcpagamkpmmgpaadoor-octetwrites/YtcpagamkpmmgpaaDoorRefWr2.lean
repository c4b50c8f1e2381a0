/- Contracts of the document's writer (lodestarref01.Writer): Four, Number. -/
import Derived.Test.YtcpagamkpmmgpaaDoorRefWr
import Derived.Test.YtcpagamkpmmgpaaDoorBagTwo
namespace Go.Proofs.YtcpagamkpmmgpaaDoor
open Go.RowKit
set_option linter.unusedVariables false
set_option maxRecDepth 100000

/-- Four so far: k bytes are laid. -/
structure FourAt (w wr : World) (l : Value) (m k : Nat) (x : Int) : Prop where
  own : wr.ownsRow w.heap.size 5 1 l k (bytesOf ((numBytes m x).take k))
  touch : Touch (fun _ => False) w wr

theorem FourAt.next {w wr w1 : World} {o : Obj} {l l' : Value} {m k : Nat} {x z : Int} (h : FourAt w wr l m k x) (hg : (wr.alloc o).grownBy w1 l.ownBlock) (ho : w1.ownsRow w.heap.size 5 1 l' (k + 1) (bytesOf ((numBytes m x).take k) ++ [.int .u8 z]))
    (hz : (numBytes m x).take (k + 1) = (numBytes m x).take k ++ [z]) : FourAt w w1 l' m (k + 1) x := by
  refine ⟨by rw [hz, bytesOf_append]; exact ho, ?_⟩
  exact (h.touch.alloc _).grown hg (fun kb e => Or.inr (h.own.lt kb e).1)

theorem four_ok1 (x : Int) (w : World) (hx0 : 0 ≤ x) (hx : x < 4294967296) :
    Calls Tryd.prog 63 #[.int .u32 x, .int .i64 1] w fun e w' => ∃ v, e = .returned v ∧ w'.ownsRow w.heap.size 5 1 v 1 (bytesOf (numBytes 1 x)) ∧ Touch (fun _ => False) w w' := by
  obtain ⟨i0, hi, hz0, hz1, hz2⟩ := info_parts Tryd.info5f
  go_enter Tryd.func63, Tryd.ntmps63
  go_wp2
  go_loopw [5, 6] (fun l i wr => ∃ k : Nat, k ≤ 1 ∧ i = .int .i64 (0 - k) ∧ FourAt w wr l 1 k x) (fun _ i _ => (intOf i + 1).toNat)
  case atStart => exact ⟨0, Nat.zero_le _, by simp, ⟨World.ownsRow_nil _ _ _ _, Touch.refl _ _⟩⟩
  case round =>
    obtain ⟨k, hk, rfl, hf⟩ := hrel
    rcases (by omega : k = 0 ∨ k = 1) with rfl | rfl
    · obtain ⟨la, lc, rfl⟩ := own_form hf.own
      have HF : Hid (FourAt w wr (.slice la 0 lc) 1 0 x) := hf
      have hsz := hf.touch.size
      clear hf
      go_wp2_with (at_builtin; refine wpList_append_own_at _ rfl (.tmp 13) (.tmp 19) 22 rfl w.heap.size 5 i0 (.int .u8 0) 1 1 Tryd.underlying22 hi hz0 hz1 hz2 rfl (by decide) (.slice la 0 lc) 0 _ rfl (HF.out.own.alloc _) ⟨wr.heap.size, 0, none⟩ 1 1 [.int .u8 (x % 256)] rfl rfl ?c1 ?c2 ?c3 ?c4 ?c5 ?_)
      case c1 => exact cell_one_new _ _ _
      case c2 => intro u hu; obtain rfl := List.mem_singleton.mp hu; rfl
      case c3 => unfold maxLen; omega
      case c4 => omega
      case c5 => simp; omega
      intro l' w1 hown' hgrow _ hat
      have HN : Hid (FourAt w w1 l' 1 1 x) := HF.out.next hgrow hown' (by simp [numBytes])
      clear hown' hgrow hat
      go_wp2
      go_roundw
      case rel => exact ⟨1, by omega, by simp, HN.out⟩
      case measure => simp [intOf]
    · have HF : Hid (FourAt w wr _ 1 1 x) := hf
      go_wp2
      go_ret
      exact ⟨_, rfl, by have := HF.out.own; simpa [numBytes] using this, HF.out.touch⟩

theorem four_ok2 (x : Int) (w : World) (hx0 : 0 ≤ x) (hx : x < 4294967296) :
    Calls Tryd.prog 63 #[.int .u32 x, .int .i64 2] w fun e w' => ∃ v, e = .returned v ∧ w'.ownsRow w.heap.size 5 1 v 2 (bytesOf (numBytes 2 x)) ∧ Touch (fun _ => False) w w' := by
  obtain ⟨i0, hi, hz0, hz1, hz2⟩ := info_parts Tryd.info5f
  go_enter Tryd.func63, Tryd.ntmps63
  go_wp2
  go_loopw [5, 6] (fun l i wr => ∃ k : Nat, k ≤ 2 ∧ i = .int .i64 (1 - k) ∧ FourAt w wr l 2 k x) (fun _ i _ => (intOf i + 1).toNat)
  case atStart => exact ⟨0, Nat.zero_le _, by simp, ⟨World.ownsRow_nil _ _ _ _, Touch.refl _ _⟩⟩
  case round =>
    obtain ⟨k, hk, rfl, hf⟩ := hrel
    rcases (by omega : k = 0 ∨ k = 1 ∨ k = 2) with rfl | rfl | rfl
    · obtain ⟨la, lc, rfl⟩ := own_form hf.own
      have HF : Hid (FourAt w wr (.slice la 0 lc) 2 0 x) := hf
      have hsz := hf.touch.size
      clear hf
      go_wp2_with (at_builtin; refine wpList_append_own_at _ rfl (.tmp 13) (.tmp 19) 22 rfl w.heap.size 5 i0 (.int .u8 0) 1 1 Tryd.underlying22 hi hz0 hz1 hz2 rfl (by decide) (.slice la 0 lc) 0 _ rfl (HF.out.own.alloc _) ⟨wr.heap.size, 0, none⟩ 1 1 [.int .u8 (x / 256 % 256)] rfl rfl ?c1 ?c2 ?c3 ?c4 ?c5 ?_)
      case c1 => exact cell_one_new _ _ _
      case c2 => intro u hu; obtain rfl := List.mem_singleton.mp hu; rfl
      case c3 => unfold maxLen; omega
      case c4 => omega
      case c5 => simp; omega
      intro l' w1 hown' hgrow _ hat
      have HN : Hid (FourAt w w1 l' 2 1 x) := HF.out.next hgrow hown' (by simp [numBytes])
      clear hown' hgrow hat
      go_wp2
      go_roundw
      case rel => exact ⟨1, by omega, by simp, HN.out⟩
      case measure => simp [intOf]
    · obtain ⟨la, lc, rfl⟩ := own_form hf.own
      have HF : Hid (FourAt w wr (.slice la 1 lc) 2 1 x) := hf
      have hsz := hf.touch.size
      clear hf
      go_wp2_with (at_builtin; refine wpList_append_own_at _ rfl (.tmp 13) (.tmp 19) 22 rfl w.heap.size 5 i0 (.int .u8 0) 1 1 Tryd.underlying22 hi hz0 hz1 hz2 rfl (by decide) (.slice la 1 lc) 1 _ rfl (HF.out.own.alloc _) ⟨wr.heap.size, 0, none⟩ 1 1 [.int .u8 (x % 256)] rfl rfl ?c1 ?c2 ?c3 ?c4 ?c5 ?_)
      case c1 => exact cell_one_new _ _ _
      case c2 => intro u hu; obtain rfl := List.mem_singleton.mp hu; rfl
      case c3 => unfold maxLen; omega
      case c4 => omega
      case c5 => simp; omega
      intro l' w1 hown' hgrow _ hat
      have HN : Hid (FourAt w w1 l' 2 2 x) := HF.out.next hgrow hown' (by simp [numBytes])
      clear hown' hgrow hat
      go_wp2
      go_roundw
      case rel => exact ⟨2, by omega, by simp, HN.out⟩
      case measure => simp [intOf]
    · have HF : Hid (FourAt w wr _ 2 2 x) := hf
      go_wp2
      go_ret
      exact ⟨_, rfl, by have := HF.out.own; simpa [numBytes] using this, HF.out.touch⟩

theorem four_ok3 (x : Int) (w : World) (hx0 : 0 ≤ x) (hx : x < 4294967296) :
    Calls Tryd.prog 63 #[.int .u32 x, .int .i64 3] w fun e w' => ∃ v, e = .returned v ∧ w'.ownsRow w.heap.size 5 1 v 3 (bytesOf (numBytes 3 x)) ∧ Touch (fun _ => False) w w' := by
  obtain ⟨i0, hi, hz0, hz1, hz2⟩ := info_parts Tryd.info5f
  go_enter Tryd.func63, Tryd.ntmps63
  go_wp2
  go_loopw [5, 6] (fun l i wr => ∃ k : Nat, k ≤ 3 ∧ i = .int .i64 (2 - k) ∧ FourAt w wr l 3 k x) (fun _ i _ => (intOf i + 1).toNat)
  case atStart => exact ⟨0, Nat.zero_le _, by simp, ⟨World.ownsRow_nil _ _ _ _, Touch.refl _ _⟩⟩
  case round =>
    obtain ⟨k, hk, rfl, hf⟩ := hrel
    rcases (by omega : k = 0 ∨ k = 1 ∨ k = 2 ∨ k = 3) with rfl | rfl | rfl | rfl
    · obtain ⟨la, lc, rfl⟩ := own_form hf.own
      have HF : Hid (FourAt w wr (.slice la 0 lc) 3 0 x) := hf
      have hsz := hf.touch.size
      clear hf
      go_wp2_with (at_builtin; refine wpList_append_own_at _ rfl (.tmp 13) (.tmp 19) 22 rfl w.heap.size 5 i0 (.int .u8 0) 1 1 Tryd.underlying22 hi hz0 hz1 hz2 rfl (by decide) (.slice la 0 lc) 0 _ rfl (HF.out.own.alloc _) ⟨wr.heap.size, 0, none⟩ 1 1 [.int .u8 (x / 65536 % 256)] rfl rfl ?c1 ?c2 ?c3 ?c4 ?c5 ?_)
      case c1 => exact cell_one_new _ _ _
      case c2 => intro u hu; obtain rfl := List.mem_singleton.mp hu; rfl
      case c3 => unfold maxLen; omega
      case c4 => omega
      case c5 => simp; omega
      intro l' w1 hown' hgrow _ hat
      have HN : Hid (FourAt w w1 l' 3 1 x) := HF.out.next hgrow hown' (by simp [numBytes])
      clear hown' hgrow hat
      go_wp2
      go_roundw
      case rel => exact ⟨1, by omega, by simp, HN.out⟩
      case measure => simp [intOf]
    · obtain ⟨la, lc, rfl⟩ := own_form hf.own
      have HF : Hid (FourAt w wr (.slice la 1 lc) 3 1 x) := hf
      have hsz := hf.touch.size
      clear hf
      go_wp2_with (at_builtin; refine wpList_append_own_at _ rfl (.tmp 13) (.tmp 19) 22 rfl w.heap.size 5 i0 (.int .u8 0) 1 1 Tryd.underlying22 hi hz0 hz1 hz2 rfl (by decide) (.slice la 1 lc) 1 _ rfl (HF.out.own.alloc _) ⟨wr.heap.size, 0, none⟩ 1 1 [.int .u8 (x / 256 % 256)] rfl rfl ?c1 ?c2 ?c3 ?c4 ?c5 ?_)
      case c1 => exact cell_one_new _ _ _
      case c2 => intro u hu; obtain rfl := List.mem_singleton.mp hu; rfl
      case c3 => unfold maxLen; omega
      case c4 => omega
      case c5 => simp; omega
      intro l' w1 hown' hgrow _ hat
      have HN : Hid (FourAt w w1 l' 3 2 x) := HF.out.next hgrow hown' (by simp [numBytes])
      clear hown' hgrow hat
      go_wp2
      go_roundw
      case rel => exact ⟨2, by omega, by simp, HN.out⟩
      case measure => simp [intOf]
    · obtain ⟨la, lc, rfl⟩ := own_form hf.own
      have HF : Hid (FourAt w wr (.slice la 2 lc) 3 2 x) := hf
      have hsz := hf.touch.size
      clear hf
      go_wp2_with (at_builtin; refine wpList_append_own_at _ rfl (.tmp 13) (.tmp 19) 22 rfl w.heap.size 5 i0 (.int .u8 0) 1 1 Tryd.underlying22 hi hz0 hz1 hz2 rfl (by decide) (.slice la 2 lc) 2 _ rfl (HF.out.own.alloc _) ⟨wr.heap.size, 0, none⟩ 1 1 [.int .u8 (x % 256)] rfl rfl ?c1 ?c2 ?c3 ?c4 ?c5 ?_)
      case c1 => exact cell_one_new _ _ _
      case c2 => intro u hu; obtain rfl := List.mem_singleton.mp hu; rfl
      case c3 => unfold maxLen; omega
      case c4 => omega
      case c5 => simp; omega
      intro l' w1 hown' hgrow _ hat
      have HN : Hid (FourAt w w1 l' 3 3 x) := HF.out.next hgrow hown' (by simp [numBytes])
      clear hown' hgrow hat
      go_wp2
      go_roundw
      case rel => exact ⟨3, by omega, by simp, HN.out⟩
      case measure => simp [intOf]
    · have HF : Hid (FourAt w wr _ 3 3 x) := hf
      go_wp2
      go_ret
      exact ⟨_, rfl, by have := HF.out.own; simpa [numBytes] using this, HF.out.touch⟩

theorem four_ok4 (x : Int) (w : World) (hx0 : 0 ≤ x) (hx : x < 4294967296) :
    Calls Tryd.prog 63 #[.int .u32 x, .int .i64 4] w fun e w' => ∃ v, e = .returned v ∧ w'.ownsRow w.heap.size 5 1 v 4 (bytesOf (numBytes 4 x)) ∧ Touch (fun _ => False) w w' := by
  obtain ⟨i0, hi, hz0, hz1, hz2⟩ := info_parts Tryd.info5f
  go_enter Tryd.func63, Tryd.ntmps63
  go_wp2
  go_loopw [5, 6] (fun l i wr => ∃ k : Nat, k ≤ 4 ∧ i = .int .i64 (3 - k) ∧ FourAt w wr l 4 k x) (fun _ i _ => (intOf i + 1).toNat)
  case atStart => exact ⟨0, Nat.zero_le _, by simp, ⟨World.ownsRow_nil _ _ _ _, Touch.refl _ _⟩⟩
  case round =>
    obtain ⟨k, hk, rfl, hf⟩ := hrel
    rcases (by omega : k = 0 ∨ k = 1 ∨ k = 2 ∨ k = 3 ∨ k = 4) with rfl | rfl | rfl | rfl | rfl
    · obtain ⟨la, lc, rfl⟩ := own_form hf.own
      have HF : Hid (FourAt w wr (.slice la 0 lc) 4 0 x) := hf
      have hsz := hf.touch.size
      clear hf
      go_wp2_with (at_builtin; refine wpList_append_own_at _ rfl (.tmp 13) (.tmp 19) 22 rfl w.heap.size 5 i0 (.int .u8 0) 1 1 Tryd.underlying22 hi hz0 hz1 hz2 rfl (by decide) (.slice la 0 lc) 0 _ rfl (HF.out.own.alloc _) ⟨wr.heap.size, 0, none⟩ 1 1 [.int .u8 (x / 16777216)] rfl rfl ?c1 ?c2 ?c3 ?c4 ?c5 ?_)
      case c1 => exact cell_one_new _ _ _
      case c2 => intro u hu; obtain rfl := List.mem_singleton.mp hu; rfl
      case c3 => unfold maxLen; omega
      case c4 => omega
      case c5 => simp; omega
      intro l' w1 hown' hgrow _ hat
      have HN : Hid (FourAt w w1 l' 4 1 x) := HF.out.next hgrow hown' (by simp [numBytes]; omega)
      clear hown' hgrow hat
      go_wp2
      go_roundw
      case rel => exact ⟨1, by omega, by simp, HN.out⟩
      case measure => simp [intOf]
    · obtain ⟨la, lc, rfl⟩ := own_form hf.own
      have HF : Hid (FourAt w wr (.slice la 1 lc) 4 1 x) := hf
      have hsz := hf.touch.size
      clear hf
      go_wp2_with (at_builtin; refine wpList_append_own_at _ rfl (.tmp 13) (.tmp 19) 22 rfl w.heap.size 5 i0 (.int .u8 0) 1 1 Tryd.underlying22 hi hz0 hz1 hz2 rfl (by decide) (.slice la 1 lc) 1 _ rfl (HF.out.own.alloc _) ⟨wr.heap.size, 0, none⟩ 1 1 [.int .u8 (x / 65536 % 256)] rfl rfl ?c1 ?c2 ?c3 ?c4 ?c5 ?_)
      case c1 => exact cell_one_new _ _ _
      case c2 => intro u hu; obtain rfl := List.mem_singleton.mp hu; rfl
      case c3 => unfold maxLen; omega
      case c4 => omega
      case c5 => simp; omega
      intro l' w1 hown' hgrow _ hat
      have HN : Hid (FourAt w w1 l' 4 2 x) := HF.out.next hgrow hown' (by simp [numBytes])
      clear hown' hgrow hat
      go_wp2
      go_roundw
      case rel => exact ⟨2, by omega, by simp, HN.out⟩
      case measure => simp [intOf]
    · obtain ⟨la, lc, rfl⟩ := own_form hf.own
      have HF : Hid (FourAt w wr (.slice la 2 lc) 4 2 x) := hf
      have hsz := hf.touch.size
      clear hf
      go_wp2_with (at_builtin; refine wpList_append_own_at _ rfl (.tmp 13) (.tmp 19) 22 rfl w.heap.size 5 i0 (.int .u8 0) 1 1 Tryd.underlying22 hi hz0 hz1 hz2 rfl (by decide) (.slice la 2 lc) 2 _ rfl (HF.out.own.alloc _) ⟨wr.heap.size, 0, none⟩ 1 1 [.int .u8 (x / 256 % 256)] rfl rfl ?c1 ?c2 ?c3 ?c4 ?c5 ?_)
      case c1 => exact cell_one_new _ _ _
      case c2 => intro u hu; obtain rfl := List.mem_singleton.mp hu; rfl
      case c3 => unfold maxLen; omega
      case c4 => omega
      case c5 => simp; omega
      intro l' w1 hown' hgrow _ hat
      have HN : Hid (FourAt w w1 l' 4 3 x) := HF.out.next hgrow hown' (by simp [numBytes])
      clear hown' hgrow hat
      go_wp2
      go_roundw
      case rel => exact ⟨3, by omega, by simp, HN.out⟩
      case measure => simp [intOf]
    · obtain ⟨la, lc, rfl⟩ := own_form hf.own
      have HF : Hid (FourAt w wr (.slice la 3 lc) 4 3 x) := hf
      have hsz := hf.touch.size
      clear hf
      go_wp2_with (at_builtin; refine wpList_append_own_at _ rfl (.tmp 13) (.tmp 19) 22 rfl w.heap.size 5 i0 (.int .u8 0) 1 1 Tryd.underlying22 hi hz0 hz1 hz2 rfl (by decide) (.slice la 3 lc) 3 _ rfl (HF.out.own.alloc _) ⟨wr.heap.size, 0, none⟩ 1 1 [.int .u8 (x % 256)] rfl rfl ?c1 ?c2 ?c3 ?c4 ?c5 ?_)
      case c1 => exact cell_one_new _ _ _
      case c2 => intro u hu; obtain rfl := List.mem_singleton.mp hu; rfl
      case c3 => unfold maxLen; omega
      case c4 => omega
      case c5 => simp; omega
      intro l' w1 hown' hgrow _ hat
      have HN : Hid (FourAt w w1 l' 4 4 x) := HF.out.next hgrow hown' (by simp [numBytes])
      clear hown' hgrow hat
      go_wp2
      go_roundw
      case rel => exact ⟨4, by omega, by simp, HN.out⟩
      case measure => simp [intOf]
    · have HF : Hid (FourAt w wr _ 4 4 x) := hf
      go_wp2
      go_ret
      exact ⟨_, rfl, by have := HF.out.own; simpa [numBytes] using this, HF.out.touch⟩

instance (x n : Int) : Decidable (Bad x n) := by unfold Bad; infer_instance

/-- What Number does to a writer's bytes and error. -/
def numB (bs : List Int) (most err x n : Int) : List Int := if Bad x n then bs else putB bs most err (numBytes n.toNat x)
def numE (bs : List Int) (most err x n : Int) : Int := if err = 0 then (if Bad x n then 1 else putE bs most 0 (numBytes n.toNat x)) else err

theorem dwnumber_dead (b : Nat) (v : Value) (bs : List Int) (most err : Int) (x n : Int) (w : World) (h : DwS w b v bs most err) (he : ¬ err = 0) :
    Calls Tryd.prog 28 #[.pointer (some ⟨b, 0, none⟩), .int .u32 x, .int .i64 n] w fun e w' => e = .returned (.tuple #[]) ∧ w = w' := by
  have h2 := h.err
  have he' : (err != 0) = true := by simpa using he
  go_enter Tryd.func28, Tryd.ntmps28
  go_wp2
  go_returns
  exact ⟨rfl, rfl⟩

theorem dwnumber_arg (b : Nat) (v : Value) (bs : List Int) (most : Int) (x n : Int) (w : World) (h : DwS w b v bs most 0) (hx : 0 ≤ x ∧ x < 4294967296) (hn : Bad x n) :
    Calls Tryd.prog 28 #[.pointer (some ⟨b, 0, none⟩), .int .u32 x, .int .i64 n] w fun e w' => e = .returned (.tuple #[]) ∧ w.setCell ⟨b, 2, none⟩ (.int .i64 1) = w' := by
  have h2 := h.err
  have hf2 := h.f2
  have hf := fits_no x n w hx hn
  clear hn
  go_enter Tryd.func28, Tryd.ntmps28
  go_wp2_with (go_at_call 62; refine hf.mono ?_; rintro e w' ⟨rfl, rfl⟩)
  go_returns
  exact ⟨rfl, rfl⟩

theorem dwnumber_put1 (b : Nat) (v : Value) (bs : List Int) (most : Int) (x : Int) (w : World) (h : DwS w b v bs most 0) (hx0 : 0 ≤ x) (hx : x < 256) (hcap : bs.length ≤ 1048576) (hmb : most ≤ 9223372036854775807) :
    Calls Tryd.prog 28 #[.pointer (some ⟨b, 0, none⟩), .int .u32 x, .int .i64 1] w fun e w' => e = .returned (.tuple #[]) ∧
      ∃ v', DwS w' b v' (putB bs (max most 0) 0 (numBytes 1 x)) most (putE bs (max most 0) 0 (numBytes 1 x)) ∧ Touch (wrF b v) w w' ∧ Moved w v v' := by
  have h2 := h.err
  have hf : Calls Tryd.prog 62 #[.int .u32 x, .int .i64 1] w fun e w' => e = .returned (.bool true) ∧ w = w' := fits_yes x 1 w hx0 (by omega) (by omega) (by simpa using hx)
  have hb4 := four_ok1 x w hx0 (by omega)
  have HD : Hid (DwS w b v bs most 0) := h
  clear h
  go_enter Tryd.func28, Tryd.ntmps28
  go_wp2_with (first | (go_at_call 62; refine hf.mono ?_; rintro e w' ⟨rfl, rfl⟩) | (go_at_call 63; refine hb4.mono ?_; rintro e w1 ⟨s, rfl, hs, t1⟩))
  have hs' : ArgAt w1 s (numBytes 1 x) := (own_rowAt (bs := numBytes 1 x) (by simpa [numBytes] using hs)).arg
  refine (dput_all b v bs most 0 s (numBytes 1 x) w1 (HD.out.touch t1 (fun h => h) (fun _ _ h => h)) hs' (by simp [numBytes]; omega) hmb).mono ?_
  rintro e w' ⟨rfl, v', hw, ht, ha⟩
  clear hf hb4 hs hs'
  go_wp2
  go_end0
  refine ⟨rfl, v', hw, (t1.mono (fun _ _ h => h.elim)).trans ht, ?_⟩
  rcases ha with ha | ⟨g, hg, hl⟩
  · exact Or.inl ha
  · exact Or.inr ⟨g, hg, Nat.le_trans t1.size hl⟩

theorem dwnumber_put2 (b : Nat) (v : Value) (bs : List Int) (most : Int) (x : Int) (w : World) (h : DwS w b v bs most 0) (hx0 : 0 ≤ x) (hx : x < 65536) (hcap : bs.length ≤ 1048576) (hmb : most ≤ 9223372036854775807) :
    Calls Tryd.prog 28 #[.pointer (some ⟨b, 0, none⟩), .int .u32 x, .int .i64 2] w fun e w' => e = .returned (.tuple #[]) ∧
      ∃ v', DwS w' b v' (putB bs (max most 0) 0 (numBytes 2 x)) most (putE bs (max most 0) 0 (numBytes 2 x)) ∧ Touch (wrF b v) w w' ∧ Moved w v v' := by
  have h2 := h.err
  have hf : Calls Tryd.prog 62 #[.int .u32 x, .int .i64 2] w fun e w' => e = .returned (.bool true) ∧ w = w' := fits_yes x 2 w hx0 (by omega) (by omega) (by simpa using hx)
  have hb4 := four_ok2 x w hx0 (by omega)
  have HD : Hid (DwS w b v bs most 0) := h
  clear h
  go_enter Tryd.func28, Tryd.ntmps28
  go_wp2_with (first | (go_at_call 62; refine hf.mono ?_; rintro e w' ⟨rfl, rfl⟩) | (go_at_call 63; refine hb4.mono ?_; rintro e w1 ⟨s, rfl, hs, t1⟩))
  have hs' : ArgAt w1 s (numBytes 2 x) := (own_rowAt (bs := numBytes 2 x) (by simpa [numBytes] using hs)).arg
  refine (dput_all b v bs most 0 s (numBytes 2 x) w1 (HD.out.touch t1 (fun h => h) (fun _ _ h => h)) hs' (by simp [numBytes]; omega) hmb).mono ?_
  rintro e w' ⟨rfl, v', hw, ht, ha⟩
  clear hf hb4 hs hs'
  go_wp2
  go_end0
  refine ⟨rfl, v', hw, (t1.mono (fun _ _ h => h.elim)).trans ht, ?_⟩
  rcases ha with ha | ⟨g, hg, hl⟩
  · exact Or.inl ha
  · exact Or.inr ⟨g, hg, Nat.le_trans t1.size hl⟩

theorem dwnumber_put3 (b : Nat) (v : Value) (bs : List Int) (most : Int) (x : Int) (w : World) (h : DwS w b v bs most 0) (hx0 : 0 ≤ x) (hx : x < 16777216) (hcap : bs.length ≤ 1048576) (hmb : most ≤ 9223372036854775807) :
    Calls Tryd.prog 28 #[.pointer (some ⟨b, 0, none⟩), .int .u32 x, .int .i64 3] w fun e w' => e = .returned (.tuple #[]) ∧
      ∃ v', DwS w' b v' (putB bs (max most 0) 0 (numBytes 3 x)) most (putE bs (max most 0) 0 (numBytes 3 x)) ∧ Touch (wrF b v) w w' ∧ Moved w v v' := by
  have h2 := h.err
  have hf : Calls Tryd.prog 62 #[.int .u32 x, .int .i64 3] w fun e w' => e = .returned (.bool true) ∧ w = w' := fits_yes x 3 w hx0 (by omega) (by omega) (by simpa using hx)
  have hb4 := four_ok3 x w hx0 (by omega)
  have HD : Hid (DwS w b v bs most 0) := h
  clear h
  go_enter Tryd.func28, Tryd.ntmps28
  go_wp2_with (first | (go_at_call 62; refine hf.mono ?_; rintro e w' ⟨rfl, rfl⟩) | (go_at_call 63; refine hb4.mono ?_; rintro e w1 ⟨s, rfl, hs, t1⟩))
  have hs' : ArgAt w1 s (numBytes 3 x) := (own_rowAt (bs := numBytes 3 x) (by simpa [numBytes] using hs)).arg
  refine (dput_all b v bs most 0 s (numBytes 3 x) w1 (HD.out.touch t1 (fun h => h) (fun _ _ h => h)) hs' (by simp [numBytes]; omega) hmb).mono ?_
  rintro e w' ⟨rfl, v', hw, ht, ha⟩
  clear hf hb4 hs hs'
  go_wp2
  go_end0
  refine ⟨rfl, v', hw, (t1.mono (fun _ _ h => h.elim)).trans ht, ?_⟩
  rcases ha with ha | ⟨g, hg, hl⟩
  · exact Or.inl ha
  · exact Or.inr ⟨g, hg, Nat.le_trans t1.size hl⟩

theorem dwnumber_put4 (b : Nat) (v : Value) (bs : List Int) (most : Int) (x : Int) (w : World) (h : DwS w b v bs most 0) (hx0 : 0 ≤ x) (hx : x < 4294967296) (hcap : bs.length ≤ 1048576) (hmb : most ≤ 9223372036854775807) :
    Calls Tryd.prog 28 #[.pointer (some ⟨b, 0, none⟩), .int .u32 x, .int .i64 4] w fun e w' => e = .returned (.tuple #[]) ∧
      ∃ v', DwS w' b v' (putB bs (max most 0) 0 (numBytes 4 x)) most (putE bs (max most 0) 0 (numBytes 4 x)) ∧ Touch (wrF b v) w w' ∧ Moved w v v' := by
  have h2 := h.err
  have hf : Calls Tryd.prog 62 #[.int .u32 x, .int .i64 4] w fun e w' => e = .returned (.bool true) ∧ w = w' := fits_yes x 4 w hx0 (by omega) (by omega) (by simpa using hx)
  have hb4 := four_ok4 x w hx0 (by omega)
  have HD : Hid (DwS w b v bs most 0) := h
  clear h
  go_enter Tryd.func28, Tryd.ntmps28
  go_wp2_with (first | (go_at_call 62; refine hf.mono ?_; rintro e w' ⟨rfl, rfl⟩) | (go_at_call 63; refine hb4.mono ?_; rintro e w1 ⟨s, rfl, hs, t1⟩))
  have hs' : ArgAt w1 s (numBytes 4 x) := (own_rowAt (bs := numBytes 4 x) (by simpa [numBytes] using hs)).arg
  refine (dput_all b v bs most 0 s (numBytes 4 x) w1 (HD.out.touch t1 (fun h => h) (fun _ _ h => h)) hs' (by simp [numBytes]; omega) hmb).mono ?_
  rintro e w' ⟨rfl, v', hw, ht, ha⟩
  clear hf hb4 hs hs'
  go_wp2
  go_end0
  refine ⟨rfl, v', hw, (t1.mono (fun _ _ h => h.elim)).trans ht, ?_⟩
  rcases ha with ha | ⟨g, hg, hl⟩
  · exact Or.inl ha
  · exact Or.inr ⟨g, hg, Nat.le_trans t1.size hl⟩

theorem dwnumber_all (b : Nat) (v : Value) (bs : List Int) (most err : Int) (x n : Int) (w : World) (h : DwS w b v bs most err) (hx : 0 ≤ x ∧ x < 4294967296) (hcap : bs.length ≤ 1048576) (hmb : most ≤ 9223372036854775807) :
    Calls Tryd.prog 28 #[.pointer (some ⟨b, 0, none⟩), .int .u32 x, .int .i64 n] w fun e w' => e = .returned (.tuple #[]) ∧
      ∃ v', DwS w' b v' (numB bs (max most 0) err x n) most (numE bs (max most 0) err x n) ∧ Touch (wrF b v) w w' ∧ Moved w v v' := by
  by_cases he : err = 0
  · subst he
    by_cases hn : Bad x n
    · refine (dwnumber_arg b v bs most x n w h hx hn).mono ?_
      rintro e w' ⟨rfl, rfl⟩
      exact ⟨rfl, v, by simpa [numB, numE, hn] using h.setErr 1, DwS.touchErr _, Or.inl rfl⟩
    · have hbn := hn
      unfold Bad at hn
      rcases (by omega : (n = 1 ∧ x < 256) ∨ (n = 2 ∧ x < 65536) ∨ (n = 3 ∧ x < 16777216) ∨ (n = 4 ∧ x < 4294967296)) with ⟨rfl, h4⟩ | ⟨rfl, h4⟩ | ⟨rfl, h4⟩ | ⟨rfl, h4⟩
      · simpa [numB, numE, hbn] using dwnumber_put1 b v bs most x w h hx.1 h4 hcap hmb
      · simpa [numB, numE, hbn] using dwnumber_put2 b v bs most x w h hx.1 h4 hcap hmb
      · simpa [numB, numE, hbn] using dwnumber_put3 b v bs most x w h hx.1 h4 hcap hmb
      · simpa [numB, numE, hbn] using dwnumber_put4 b v bs most x w h hx.1 h4 hcap hmb
  · refine (dwnumber_dead b v bs most err x n w h he).mono ?_
    rintro e w' ⟨rfl, rfl⟩
    exact ⟨rfl, v, by simpa [numB, numE, putB, he] using h, Touch.refl _ _, Or.inl rfl⟩

theorem wnumber_all (b : Nat) (v : Value) (bs : List Int) (most err : Int) (x n : Int) (w : World) (h : WrS w b v bs most err) (hx : 0 ≤ x ∧ x < 4294967296) (hcap : bs.length ≤ 1048576) :
    Calls Tryd.prog 27 #[.pointer (some ⟨b, 0, none⟩), .int .u32 x, .int .i64 n] w fun e w' => e = .returned (.pointer (some ⟨b, 0, none⟩)) ∧
      ∃ v', WrS w' b v' (numB bs most err x n) most (numE bs most err x n) ∧ Touch (wrF b v) w w' ∧ Moved w v v' := by
  by_cases he : err = 0
  · subst he
    by_cases hn : Bad x n
    · refine (wnumber_arg b v bs most x n w h hx hn).mono ?_
      rintro e w' ⟨rfl, rfl⟩
      exact ⟨rfl, v, by simpa [numB, numE, hn] using h.setErr 1, WrS.touchErr _, Or.inl rfl⟩
    · have hbn := hn
      unfold Bad at hn
      rcases (by omega : (n = 1 ∧ x < 256) ∨ (n = 2 ∧ x < 65536) ∨ (n = 3 ∧ x < 16777216) ∨ (n = 4 ∧ x < 4294967296)) with ⟨rfl, h4⟩ | ⟨rfl, h4⟩ | ⟨rfl, h4⟩ | ⟨rfl, h4⟩
      · simpa [numB, numE, hbn] using wnumber_put1 b v bs most x w h ⟨hx.1, h4⟩ hcap
      · simpa [numB, numE, hbn] using wnumber_put2 b v bs most x w h ⟨hx.1, h4⟩ hcap
      · simpa [numB, numE, hbn] using wnumber_put3 b v bs most x w h ⟨hx.1, h4⟩ hcap
      · simpa [numB, numE, hbn] using wnumber_put4 b v bs most x w h ⟨hx.1, h4⟩ hcap
  · refine (wnumber_dead b v bs most err x n w h he).mono ?_
    rintro e w' ⟨rfl, rfl⟩
    exact ⟨rfl, v, by simpa [numB, numE, putB, he] using h, Touch.refl _ _, Or.inl rfl⟩

end Go.Proofs.YtcpagamkpmmgpaaDoor
