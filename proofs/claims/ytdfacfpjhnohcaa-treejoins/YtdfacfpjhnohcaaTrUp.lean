
/- container/heap: going up. -/
import Derived.Test.YtdfacfpjhnohcaaTrMeth
namespace Go.Proofs.Ytdfacfpjhnohcaa
open Go.RowKit
set_option linter.unusedVariables false
set_option maxRecDepth 100000

/-- What is left of a line whose steps were laid otherwise. -/
structure Laid (w : World) (b : Nat) (v : Value) (B : Nat) (l : List Sp) (N : Nat) (w' : World) (l' : List Sp) : Prop where
  ps : LS w' b v B l'
  perm : l'.Perm l
  far : ∀ k, N ≤ k → gt l' k = gt l k
  t : Touch (fun k => v.ownBlock = some k) w w'
theorem Laid.start {w : World} {b : Nat} {v : Value} {B : Nat} {l : List Sp} (h : LS w b v B l) (N : Nat) : Laid w b v B l N w l := ⟨h, List.Perm.refl _, fun _ _ => rfl, Touch.refl _ _⟩
theorem Laid.len {w : World} {b : Nat} {v : Value} {B : Nat} {l : List Sp} {N : Nat} {w' : World} {l' : List Sp} (h : Laid w b v B l N w' l') : l'.length = l.length := h.perm.length_eq
theorem Laid.keep {w : World} {b : Nat} {v : Value} {B : Nat} {l : List Sp} {N : Nat} {w' w'' : World} {l' : List Sp} (h : Laid w b v B l N w' l') (t : Touch (fun _ => False) w' w'') : Laid w b v B l N w'' l' :=
  ⟨h.ps.keep t, h.perm, h.far, h.t.trans (t.mono (fun _ _ h => h.elim))⟩
theorem Laid.swap {w : World} {b : Nat} {v : Value} {B : Nat} {l : List Sp} {N : Nat} {w' w'' : World} {l' : List Sp} (h : Laid w b v B l N w' l') {i j : Nat} (hi : i < l.length) (hj : j < l.length) (iN : i < N) (jN : j < N) {e : Ending}
    (s : SwP w' b v B l' i j e w'') : Laid w b v B l N w'' (sw l' i j) := by
  obtain ⟨_, ps, t⟩ := s
  have hi' : i < l'.length := by rw [h.len]; exact hi
  have hj' : j < l'.length := by rw [h.len]; exact hj
  refine ⟨ps, (sw_perm hi' hj').trans h.perm, fun k kn => ?_, h.t.trans t⟩
  rw [gt_sw hi' hj', if_neg (by omega), if_neg (by omega)]
  exact h.far k kn

/-- A place in a heap whose steps but that one are in order. -/
structure UpR (w : World) (b : Nat) (v : Value) (B : Nat) (l : List Sp) (N : Nat) (w' : World) (t : Nat) : Prop where
  out : ∃ l', Laid w b v B l N w' l' ∧ t < N ∧ UpI N (gt l') t
/-- .. all of whose steps are. -/
structure HpP (w : World) (b : Nat) (v : Value) (B : Nat) (l : List Sp) (N : Nat) (e : Ending) (w' : World) : Prop where
  e : e = .returned (.tuple #[])
  out : ∃ l', Laid w b v B l N w' l' ∧ HP N (gt l')

set_option maxHeartbeats 2000000 in
theorem up_any (w : World) (b : Nat) (v : Value) (B : Nat) (l : List Sp) (P : LS w b v B l) (N : Nat) (hN : N ≤ l.length) (j : Nat) (x : Int) (hx : x = (j : Int)) (hj : j < N) (U : UpI N (gt l) j) :
    Calls Try.prog 50 #[.iface 79 (.pointer (some ⟨b, 0, none⟩)), .int .i64 x] w (HpP w b v B l N) := by
  subst hx
  have hl := P.hl
  have R0 : UpR w b v B l N w j := ⟨l, Laid.start P N, hj, U⟩
  have HR : Hid _ := R0
  have HL : Hid (l.length ≤ 1099511627776) := hl
  have HN : Hid (N ≤ l.length) := hN
  clear P U hl hN R0 hj
  go_enter Try.func50, Try.ntmps50
  go_wp2_with fail
  go_loopw [1] (fun s1 wx => ∃ t : Nat, s1 = .int .i64 t ∧ UpR w b v B l N wx t) (fun s1 _ => (intOf s1).toNat)
  case atStart => exact ⟨j, rfl, HR.out⟩
  case round =>
    clear HR
    obtain ⟨t, rfl, ⟨l', L, ht, U⟩⟩ := hrel
    have hlt : t ≤ 1099511627776 := by have := HL.out; have := HN.out; omega
    by_cases h0 : t = 0
    · subst h0
      go_wp2_with fail
      exact bodyPost_end (results_none rfl _ _ _) rfl ⟨rfl, l', L, up_end U (Or.inl rfl)⟩
    · have e1 : ((t : Int) - 1) / 2 = (((t - 1) / 2 : Nat) : Int) := by omega
      have hp : (t - 1) / 2 < t := by omega
      have t1 : (1 : Int) ≤ (t : Int) := by omega
      have h00 : 0 < t := by omega
      have HS : Hid (∀ g' : Nat → Sp, (gt l' t).lt (gt l' ((t - 1) / 2)) → (∀ k, g' k = if k = t then gt l' ((t - 1) / 2) else if k = (t - 1) / 2 then gt l' t else gt l' k) → UpI N g' ((t - 1) / 2)) := fun g' a b => up_step U ht h00 a b
      have HE : Hid ((gt l' ((t - 1) / 2)).le (gt l' t) → HP N (gt l')) := fun a => up_end U (Or.inr a)
      generalize (t - 1) / 2 = p at *
      have hne : ¬ (p : Int) = (t : Int) := by omega
      have hpl : p < l'.length := by have := L.len; have := HN.out; omega
      have htl : t < l'.length := by have := L.len; have := HN.out; omega
      have m1 := meth_less b v wr L.ps.c0
      have HT : Hid (t < N) := ht
      have LL : Hid _ := L
      clear U ht L h0 h00
      by_cases hb' : (gt l' t).lt (gt l' p)
      · have HB : Hid _ := hb'
        clear hb'
        go_wp2_with ((go_at_call 73; refine Calls.mono (less_any wr b v B l' LL.out.ps t p _ _ rfl rfl htl hpl true (ltB_true HB.out)) ?_; rintro e wx ⟨rfl, tx⟩; have m2 := meth_swap b v wx (LL.out.keep tx).ps.c0))
        have LX := LL.out.keep tx
        refine Calls.mono (swap_any wx b v B l' LX.ps p t _ _ rfl rfl hpl htl) ?_
        rintro e wy sy
        have es := sy.e
        subst es
        have LY := LX.swap (by have := LX.len; omega) (by have := LX.len; omega) (by have := HT.out; omega) HT.out sy
        have UY : UpI N (gt (sw l' p t)) p := HS.out _ HB.out (fun k => gt_sw hpl htl k)
        clear sy m1 m2
        have LZ : Hid _ := LY
        clear LY LX
        go_wp2_with fail
        go_roundw
        case rel => exact ⟨p, rfl, ⟨_, LZ.out, by have := HT.out; omega, UY⟩⟩
        case measure => simp [intOf]; omega
      · have HB : Hid _ := HE.out hb'
        have HZ : Hid _ := ltB_false hb'
        clear hb'
        go_wp2_with ((go_at_call 73; refine Calls.mono (less_any wr b v B l' LL.out.ps t p _ _ rfl rfl htl hpl false HZ.out) ?_; rintro e wx ⟨rfl, tx⟩))
        exact bodyPost_end (results_none rfl _ _ _) rfl ⟨rfl, l', LL.out.keep tx, HB.out⟩
end Go.Proofs.Ytdfacfpjhnohcaa
