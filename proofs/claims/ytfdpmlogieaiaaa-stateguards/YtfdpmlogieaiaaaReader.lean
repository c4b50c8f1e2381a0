/- Contracts of Clone, Write, Done, Read and of the reader's methods. -/
import Derived.Test.YtfdpmlogieaiaaaParts
import Derived.Lib.SliceRun
namespace Go.Proofs.Ytfdpmlogieaiaaa
open Go.RowKit
set_option linter.unusedVariables false
set_option maxRecDepth 100000

theorem Try.info5r : (Try.prog.info? 5).map (fun i => (i.zero, i.size, i.bytes)) = some (some (.int .u8 0), 1, 1) := by kernel_rfl

theorem clone_some (ad : Addr) (c : Nat) (ns : List Int) (w : World) (hs : ∀ j u, (bytesOf ns)[j]? = some u → w.cell? (ad.add j) = some u) (hcap : ns.length ≤ 1099511627776) :
    Calls Try.prog 38 #[.slice (some ad) ns.length c] w fun e w' => ∃ v, e = .returned v ∧ w'.ownsRow w.heap.size 5 1 v ns.length (bytesOf ns) ∧ Touch (fun _ => False) w w' ∧ v.ownBlock ≠ none := by
  obtain ⟨i0, hi, hz0, hz1, hz2⟩ := info_parts Try.info5r
  have hq := fun (w : World) (a : Option Addr) (n c n' c' : Nat) => Lib.run_eql_slice_nil (P := Try.prog) w 28 5 a n c n' c' Try.underlying28
  go_enter Try.func38, Try.ntmps38
  go_wp2_with (at_builtin; refine wpList_append_own_at _ rfl (.tmp 5) (.tmp 6) 28 rfl w.heap.size 5 i0 (.int .u8 0) 1 1 Try.underlying28 hi hz0 hz1 hz2 rfl (by decide) (.slice (some ⟨w.heap.size, 0, none⟩) 0 0) 0 [] rfl ?c0 ad ns.length c (bytesOf ns) rfl ?c6 ?c1 ?c2 ?c3 ?c4 ?c5 ?_)
  case c0 => exact World.ownsRow_lit w #[] 0 (Nat.le_refl _) (by simp [maxLen]) (by simp)
  case c6 => simp [length_bytesOf]
  case c1 => exact fun j u hj => ((Touch.refl _ w).alloc _).cellN (hs j u hj)
  case c2 => exact oneCell_bytesOf ns
  case c3 => unfold maxLen; omega
  case c4 => omega
  case c5 => simp
  intro v' w1 hown' hgrow _ hat
  have t1 : Touch (fun _ => False) w w1 := ((Touch.refl _ w).alloc _).grown hgrow (fun k hk => Or.inr (by simp [Value.ownBlock] at hk; omega))
  have hne : v'.ownBlock ≠ none := by rcases hat with h | h <;> rw [h] <;> simp [Value.ownBlock]
  clear hgrow hat
  go_wp2
  go_ret
  exact ⟨v', rfl, by simpa using hown', t1, hne⟩

theorem clone_nil (w : World) :
    Calls Try.prog 38 #[.slice none 0 0] w fun e w' => e = .returned (.slice none 0 0) ∧ w = w' := by
  have hq := fun (w : World) (a : Option Addr) (n c n' c' : Nat) => Lib.run_eql_slice_nil (P := Try.prog) w 28 5 a n c n' c' Try.underlying28
  go_enter Try.func38, Try.ntmps38
  go_wp2
  go_ret
  exact ⟨rfl, rfl⟩

theorem write_any (most : Int) (w : World) (hm : 0 ≤ most) :
    Calls Try.prog 39 #[.int .i64 most] w fun e w' => e = .returned (.pointer (some ⟨w.heap.size, 0, none⟩)) ∧ WrS w' w.heap.size (.slice none 0 0) [] most 0 ∧ Touch (fun _ => False) w w' := by
  go_enter Try.func39, Try.ntmps39
  go_wp2
  go_ret
  refine ⟨rfl, ⟨by simp, by simp, by simp, by simp, by simp, by simp, World.ownsRow_nil _ _ _ _⟩, (Touch.refl _ w).alloc _⟩

theorem err_any (b : Nat) (err : Int) (w : World) (h0 : w.cell? ⟨b, 0, none⟩ = some (.bool true)) (h3 : w.cell? ⟨b, 3, none⟩ = some (.int .i64 err)) :
    Calls Try.prog 49 #[.pointer (some ⟨b, 0, none⟩)] w fun e w' => e = .returned (.int .i64 err) ∧ w = w' := by
  go_enter Try.func49, Try.ntmps49
  go_wp2
  go_ret
  exact ⟨rfl, rfl⟩

theorem rwhole_any (b : Nat) (err : Int) (w : World) (h0 : w.cell? ⟨b, 0, none⟩ = some (.bool true)) (h3 : w.cell? ⟨b, 3, none⟩ = some (.int .i64 err)) :
    Calls Try.prog 59 #[.pointer (some ⟨b, 0, none⟩)] w fun e w' => e = .returned (.bool (err == 0)) ∧ w = w' := by
  go_enter Try.func59, Try.ntmps59
  go_wp2_with (go_at_call 49; refine (err_any _ err _ (by assumption) (by assumption)).mono ?_; rintro e w' ⟨rfl, rfl⟩)
  go_ret
  exact ⟨rfl, rfl⟩

theorem left_ok (b p : Nat) (rv : Value) (rs : List Int) (w : World) (h : RdS w b rv rs p 0) :
    Calls Try.prog 50 #[.pointer (some ⟨b, 0, none⟩)] w fun e w' => e = .returned (.int .i64 ((rs.length : Int) - p)) ∧ ∃ n, w' = w.drewN n := by
  obtain ⟨a, c, rfl, hm⟩ := rowAt_form h.rowAt
  unfold maxLen at hm
  have h0 := h.made
  have h1 := h.row
  have h2 := h.pos
  have h3 := h.err
  have hp := h.ple
  go_enter Try.func50, Try.ntmps50
  go_wp2_with (go_at_call 59; refine (rwhole_any _ 0 _ (by assumption) (by assumption)).mono ?_; rintro e w' ⟨rfl, rfl⟩)
  go_quiet (fail)
  go_wp2
  go_ret
  exact ⟨rfl, _, rfl⟩

theorem left_dead (b : Nat) (err : Int) (w : World) (h0 : w.cell? ⟨b, 0, none⟩ = some (.bool true)) (h3 : w.cell? ⟨b, 3, none⟩ = some (.int .i64 err)) (he : (err == 0) = false) :
    Calls Try.prog 50 #[.pointer (some ⟨b, 0, none⟩)] w fun e w' => e = .returned (.int .i64 0) ∧ w = w' := by
  go_enter Try.func50, Try.ntmps50
  go_wp2_with (go_at_call 59; refine (rwhole_any _ err _ (by assumption) (by assumption)).mono ?_; rintro e w' ⟨rfl, rfl⟩)
  go_ret
  exact ⟨rfl, rfl⟩

/-- refuse: a whole reader takes the error, another one stays. -/
theorem refuse_ok (b : Nat) (q : Int) (w : World) (h0 : w.cell? ⟨b, 0, none⟩ = some (.bool true)) (h3 : w.cell? ⟨b, 3, none⟩ = some (.int .i64 0)) (hf : w.frozen? ⟨b, 3, none⟩ = false) :
    Calls Try.prog 90 #[.pointer (some ⟨b, 0, none⟩), .int .i64 q] w fun e w' => e = .returned (.tuple #[]) ∧ w.setCell ⟨b, 3, none⟩ (.int .i64 q) = w' := by
  go_enter Try.func90, Try.ntmps90
  go_wp2_with (go_at_call 59; refine (rwhole_any _ 0 _ (by assumption) (by assumption)).mono ?_; rintro e w' ⟨rfl, rfl⟩)
  go_end0
  exact ⟨rfl, rfl⟩

theorem refuse_dead (b : Nat) (q err : Int) (w : World) (h0 : w.cell? ⟨b, 0, none⟩ = some (.bool true)) (h3 : w.cell? ⟨b, 3, none⟩ = some (.int .i64 err)) (he : (err == 0) = false) :
    Calls Try.prog 90 #[.pointer (some ⟨b, 0, none⟩), .int .i64 q] w fun e w' => e = .returned (.tuple #[]) ∧ w = w' := by
  go_enter Try.func90, Try.ntmps90
  go_wp2_with (go_at_call 59; refine (rwhole_any _ err _ (by assumption) (by assumption)).mono ?_; rintro e w' ⟨rfl, rfl⟩)
  go_end0
  exact ⟨rfl, rfl⟩
end Go.Proofs.Ytfdpmlogieaiaaa
