
/- Contracts of Clone, Write, Done, Read and of the reader's methods. -/
import Derived.Test.YtedolfggbgmklaaParts
import Derived.Lib.SliceRun
namespace Go.Proofs.Ytedolfggbgmklaa
open Go.RowKit
set_option linter.unusedVariables false
set_option maxRecDepth 100000

theorem Try.info5r : (Try.prog.info? 5).map (fun i => (i.zero, i.size, i.bytes)) = some (some (.int .u8 0), 1, 1) := by kernel_rfl

theorem clone_some (ad : Addr) (c : Nat) (ns : List Int) (w : World) (hs : ∀ j u, (bytesOf ns)[j]? = some u → w.cell? (ad.add j) = some u) (hcap : ns.length ≤ 1099511627776) :
    Calls Try.prog 50 #[.slice (some ad) ns.length c] w fun e w' => ∃ v, e = .returned v ∧ w'.ownsRow w.heap.size 5 1 v ns.length (bytesOf ns) ∧ Touch (fun _ => False) w w' ∧ v.ownBlock ≠ none := by
  obtain ⟨i0, hi, hz0, hz1, hz2⟩ := info_parts Try.info5r
  have hq := fun (w : World) (a : Option Addr) (n c n' c' : Nat) => Lib.run_eql_slice_nil (P := Try.prog) w 51 5 a n c n' c' Try.underlying51
  go_enter Try.func50, Try.ntmps50
  go_wp2_with (at_builtin; refine wpList_append_own_at _ rfl (.tmp 5) (.tmp 6) 51 rfl w.heap.size 5 i0 (.int .u8 0) 1 1 Try.underlying51 hi hz0 hz1 hz2 rfl (by decide) (.slice (some ⟨w.heap.size, 0, none⟩) 0 0) 0 [] rfl ?c0 ad ns.length c (bytesOf ns) rfl ?c6 ?c1 ?c2 ?c3 ?c4 ?c5 ?_)
  case c0 => exact World.ownsRow_lit w #[] 0 (Nat.le_refl _) (by simp [maxLen]) (by simp)
  case c6 => simp [length_bytesOf]
  case c1 => exact fun j u hj => ((Touch.refl _ w).alloc _).cellN (hs j u hj)
  case c2 => exact oneCell_bytesOf ns
  case c3 => unfold maxLen; omega
  case c4 => omega
  case c5 => simp
  intro v' w1 hown' hgrow _ hat
  have t1 : Touch (fun _ => False) w w1 := ((Touch.refl _ w).alloc _).grown hgrow (fun k hk => Or.inr (by simp [Value.ownBlock] at hk; omega))
  have hne : v'.ownBlock ≠ none := by rcases hat with h | h <;> rw [h] <;> simp [Value.ownBlock]
  clear hgrow hat
  go_wp2
  go_ret
  exact ⟨v', rfl, by simpa using hown', t1, hne⟩

theorem clone_nil (w : World) :
    Calls Try.prog 50 #[.slice none 0 0] w fun e w' => e = .returned (.slice none 0 0) ∧ w = w' := by
  have hq := fun (w : World) (a : Option Addr) (n c n' c' : Nat) => Lib.run_eql_slice_nil (P := Try.prog) w 51 5 a n c n' c' Try.underlying51
  go_enter Try.func50, Try.ntmps50
  go_wp2
  go_ret
  exact ⟨rfl, rfl⟩

end Go.Proofs.Ytedolfggbgmklaa
