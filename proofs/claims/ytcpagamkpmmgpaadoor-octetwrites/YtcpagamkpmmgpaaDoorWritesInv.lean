/- What stays between two calls of OctetWrites; 'heavy' by its sum. -/
import Derived.Test.YtcpagamkpmmgpaaDoorRefWr3
import Derived.Test.YtcpagamkpmmgpaaDoorHeavy
import Derived.Test.YtcpagamkpmmgpaaDoorReadsInv
namespace Go.Proofs.YtcpagamkpmmgpaaDoor
open Go.RowKit
set_option linter.unusedVariables false
set_option maxRecDepth 100000

/-- How many bytes the first k calls bring. -/
def tot (ops : Nat → OpD) : Nat → Nat
  | 0 => 0
  | k + 1 => tot ops k + (ops k).bs.length
theorem tot_mono (ops : Nat → OpD) {i k : Nat} (h : i ≤ k) : tot ops i ≤ tot ops k := by
  induction k with
  | zero => obtain rfl : i = 0 := by omega
            exact Nat.le_refl _
  | succ k ih =>
    by_cases he : i = k + 1
    · subst he; exact Nat.le_refl _
    · have := ih (by omega)
      simp only [tot]
      omega

structure HeavySum (w : World) (len0 len1 : Nat) (ops : Nat → OpD) (e : Ending) (w' : World) : Prop where
  ex : ∃ r : Bool, e = .returned (.bool r) ∧ w = w' ∧ (r = false → len1 ≤ 200 ∧ len0 + tot ops len1 ≤ 65536)

theorem heavy_sum (a0 : Option Addr) (len0 cap0 : Nat) (a1 : Option Addr) (len1 cap1 : Nat) (g off : Nat) (ops : Nat → OpD) (w : World) (h0 : len0 ≤ 140737488355328) (h1 : len1 ≤ 140737488355328) (ha : 0 < len1 → a1 = some ⟨g, off, none⟩) (hops : ∀ i, i < len1 → OpAt w g off i (ops i)) :
    Calls Tryd.prog 5 #[.slice a0 len0 cap0, .slice a1 len1 cap1] w fun e w' => HeavySum w len0 len1 ops e w' := by
  go_enter Tryd.func5, Tryd.ntmps5
  go_wp2
  go_loop [5, 6] (fun n i => ∃ (k : Nat) (N : Nat), k ≤ len1 ∧ i = .int .i64 k ∧ n = .int .i64 N ∧ N ≤ 281474976710656 ∧ Hid (N = len0 + tot ops k)) (fun _ i => len1 - (intOf i).toNat)
  case atStart => exact ⟨0, len0, Nat.zero_le _, rfl, rfl, by omega, rfl⟩
  case round =>
    obtain ⟨k, N, hk, rfl, rfl, hN, HI⟩ := hrel
    by_cases hlt : k < len1
    · by_cases hn : N ≤ 65536
      · obtain rfl := ha (by omega)
        have ho := hops k hlt
        obtain ⟨ba, bc, hbf, _⟩ := ho.arg.form
        have hc4 := ho.c4
        have hsm := ho.small
        rw [hbf] at hc4
        obtain ⟨L, hL⟩ : ∃ L, (ops k).bs.length = L := ⟨_, rfl⟩
        rw [hL] at hc4 hsm
        have HN : Hid (N + L = len0 + tot ops (k + 1)) := by
          show _ = _
          have := HI.out
          simp only [tot, hL]
          omega
        have hn' : (N : Int) ≤ 65536 := by omega
        clear ho hbf hL hops HI
        go_wp2
        go_round
        case rel => exact ⟨k + 1, N + L, by omega, by go_num, by go_num, by omega, HN⟩
        case measure => simp [intOf] <;> omega
      · have hn' : ¬ (N : Int) ≤ 65536 := by omega
        have hn2 : (65536 : Int) < (N : Int) := by omega
        go_wp2
        go_ret
        exact ⟨⟨_, rfl, rfl, by simp⟩⟩
    · obtain rfl : k = len1 := by omega
      by_cases hn : N ≤ 65536
      · have hn2 : ¬ (65536 : Int) < (N : Int) := by omega
        have hn3 : decide ((65536 : Int) < (N : Int)) = false := by simpa using hn2
        go_wp2
        go_ret
        refine ⟨⟨_, rfl, rfl, fun hr => ?_⟩⟩
        have hI := HI.out
        simp at hr
        exact ⟨by omega, by omega⟩
      · have hn2 : (65536 : Int) < (N : Int) := by omega
        go_wp2
        go_ret
        exact ⟨⟨_, rfl, rfl, by simp⟩⟩

/-- Both writers, in blocks apart, alike. -/
structure TwoW (w : World) (b : Nat) (v : Value) (d : Nat) (dv : Value) (bs : List Int) (most err : Int) : Prop where
  wr : WrS w b v bs (max most 0) err
  dw : DwS w d dv bs most err
  nbd : b ≠ d
  nv : v.ownBlock ≠ some d
  nd : dv.ownBlock ≠ some b
  apart : ∀ k, v.ownBlock = some k → dv.ownBlock = some k → False

theorem TwoW.touch {F : Nat → Prop} {w w' : World} {b : Nat} {v : Value} {d : Nat} {dv : Value} {bs : List Int} {most err : Int} (h : TwoW w b v d dv bs most err) (t : Touch F w w') (hb : ¬ F b) (hd : ¬ F d) (hv : ∀ k, v.ownBlock = some k → ¬ F k) (hdv : ∀ k, dv.ownBlock = some k → ¬ F k) : TwoW w' b v d dv bs most err :=
  ⟨h.wr.touch t hb hv, h.dw.touch t hd hdv, h.nbd, h.nv, h.nd, h.apart⟩
theorem TwoW.keep {w w' : World} {b : Nat} {v : Value} {d : Nat} {dv : Value} {bs : List Int} {most err : Int} (h : TwoW w b v d dv bs most err) (t : Touch (fun _ => False) w w') : TwoW w' b v d dv bs most err :=
  h.touch t (fun h => h) (fun h => h) (fun _ _ h => h) (fun _ _ h => h)

/-- The blocks of both writers. -/
def wtwoF (b : Nat) (v : Value) (d : Nat) (dv : Value) : Nat → Prop := fun k => wrF b v k ∨ wrF d dv k

/-- The document's writer stands while the other one writes. -/
theorem TwoW.first {w w1 : World} {b : Nat} {v : Value} {d : Nat} {dv : Value} {bs : List Int} {most err : Int} (h : TwoW w b v d dv bs most err) (t : Touch (wrF b v) w w1) : DwS w1 d dv bs most err :=
  h.dw.touch t (by rintro (e | e); exact h.nbd e.symm; exact h.nv e) (by
    rintro k hk (e | e)
    · subst e; exact h.nd hk
    · exact h.apart k e hk)

theorem TwoW.both {w w1 w2 : World} {b : Nat} {v v' : Value} {d : Nat} {dv dv' : Value} {bs bs' : List Int} {most err err' : Int} (h : TwoW w b v d dv bs most err) (h1 : WrS w1 b v' bs' (max most 0) err') (t1 : Touch (wrF b v) w w1) (m1 : Moved w v v')
    (h2 : DwS w2 d dv' bs' most err') (t2 : Touch (wrF d dv) w1 w2) (m2 : Moved w1 dv dv') : TwoW w2 b v' d dv' bs' most err' ∧ Touch (wtwoF b v d dv) w w2 := by
  have hbl := lt_of_cell h.wr.made
  have hdl := lt_of_cell h.dw.row
  have s1 := t1.size
  have hv'd : ∀ k, v'.ownBlock = some k → ¬ wrF d dv k := by
    rintro k hk (e | e)
    · subst e
      rcases m1 with m | ⟨g, hg, hl⟩
      · exact h.nv (m ▸ hk)
      · have := hg.symm.trans hk
        simp at this
        omega
    · rcases m1 with m | ⟨g, hg, hl⟩
      · exact h.apart k (m ▸ hk) e
      · have := hg.symm.trans hk
        simp at this
        have := own_lt h.dw.own e
        omega
  refine ⟨⟨h1.touch t2 (by rintro (e | e); exact h.nbd e; exact h.nd e) hv'd, h2, h.nbd, fun e => hv'd d e (Or.inl rfl), ?_, ?_⟩, (t1.mono (fun i _ e => Or.inl e)).trans (t2.mono (fun i _ e => Or.inr e))⟩
  · intro e
    rcases m2 with m | ⟨g, hg, hl⟩
    · exact h.nd (m ▸ e)
    · have := hg.symm.trans e
      simp at this
      omega
  · intro k hk e
    rcases m2 with m | ⟨g, hg, hl⟩
    · exact hv'd k hk (Or.inr (m ▸ e))
    · have := hg.symm.trans e
      simp at this
      have := own_lt h1.own hk
      omega

/-- Done, every way. -/
theorem done_all (b : Nat) (v : Value) (bs : List Int) (most err : Int) (w : World) (h : WrS w b v bs most err) (hcap : bs.length ≤ 1099511627776) :
    Calls Tryd.prog 30 #[.pointer (some ⟨b, 0, none⟩)] w fun e w' => ∃ v', e = .returned (.tuple #[v', .int .i64 err]) ∧ w'.ownsRow w.heap.size 5 1 v' (if err = 0 then bs else []).length (bytesOf (if err = 0 then bs else [])) ∧ Touch (fun _ => False) w w' := by
  by_cases he : err = 0
  · subst he
    simpa using done_ok b v bs most w h hcap
  · refine (done_dead b v bs most err w h he).mono ?_
    rintro e w' ⟨rfl, rfl⟩
    exact ⟨_, rfl, by rw [if_neg he]; exact World.ownsRow_nil _ _ _ _, Touch.refl _ _⟩

theorem write_all (most : Int) (w : World) :
    Calls Tryd.prog 22 #[.int .i64 most] w fun e w' => e = .returned (.pointer (some ⟨w.heap.size, 0, none⟩)) ∧ WrS w' w.heap.size (.slice none 0 0) [] (max most 0) 0 ∧ Touch (fun _ => False) w w' := by
  by_cases hm : 0 ≤ most
  · rw [Int.max_eq_left hm]
    exact write_any most w hm
  · rw [Int.max_eq_right (by omega)]
    exact write_neg most w (by omega)

theorem putB_len (bs : List Int) (most err : Int) (ns : List Int) : (putB bs most err ns).length ≤ bs.length + ns.length := by
  unfold putB; split
  · simp
  · omega
theorem numB_len (bs : List Int) (most err x n : Int) : (numB bs most err x n).length ≤ bs.length + 4 := by
  unfold numB; split
  · omega
  · have := putB_len bs most err (numBytes n.toNat x)
    have h : (numBytes n.toNat x).length ≤ 4 := by simp [numBytes]
    omega
theorem patB_len (bs : List Int) (err a x n : Int) : (patB bs err a x n).length = bs.length := by
  unfold patB; split
  · rename_i h
    obtain ⟨_, hb, h1, h2⟩ := h
    unfold Bad at hb
    apply length_splice
    have : (numBytes n.toNat x).length = n.toNat := by simp [numBytes]; omega
    omega
  · rfl

/-- What holds at a round's head: k calls were played. -/
structure In6 (w wr : World) (b d : Nat) (most : Int) (ops : Nat → OpD) (k : Nat) : Prop where
  ex : ∃ v dv bs err, TwoW wr b v d dv bs most err ∧ bs.length ≤ tot ops k + 4 * k
  touch : Touch (fun _ => False) w wr

theorem wtwoF_new {w wr : World} {b : Nat} {v : Value} {d : Nat} {dv : Value} {bs : List Int} {most err : Int} (h : TwoW wr b v d dv bs most err) (hb : w.heap.size ≤ b) (hd : w.heap.size ≤ d) : ∀ i, i < w.heap.size → wtwoF b v d dv i → False := by
  rintro i hi ((e | e) | (e | e))
  · omega
  · have := (h.wr.own.lt i e).1; omega
  · omega
  · have := (h.dw.own.lt i e).1; omega
end Go.Proofs.YtcpagamkpmmgpaaDoor
