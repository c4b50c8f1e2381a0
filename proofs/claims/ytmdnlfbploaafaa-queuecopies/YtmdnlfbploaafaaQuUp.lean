
/- container/heap: going up. -/
import Derived.Test.YtmdnlfbploaafaaQuSwap
namespace Go.Proofs.Ytmdnlfbploaafaa
open Go.RowKit
set_option linter.unusedVariables false
set_option maxRecDepth 100000

/-- What is left of a pile whose entries were laid otherwise. -/
structure Laid (w : World) (b : Nat) (v : Value) (m n : Nat) (l : List En) (f : Int → Option Int) (N : Nat) (w' : World) (l' : List En) (f' : Int → Option Int) : Prop where
  ps : PS w' b v m n l' f'
  perm : l'.Perm l
  far : ∀ k, N ≤ k → gt l' k = gt l k
  keys : ∀ k, (∀ x ∈ l, x.k ≠ k) → f' k = f k
  t : Touch (fun k => v.ownBlock = some k ∨ k = m) w w'
theorem Laid.start {w : World} {b : Nat} {v : Value} {m n : Nat} {l : List En} {f : Int → Option Int} (h : PS w b v m n l f) (N : Nat) : Laid w b v m n l f N w l f := ⟨h, List.Perm.refl _, fun _ _ => rfl, fun _ _ => rfl, Touch.refl _ _⟩
theorem Laid.len {w : World} {b : Nat} {v : Value} {m n : Nat} {l : List En} {f : Int → Option Int} {N : Nat} {w' : World} {l' : List En} {f' : Int → Option Int} (h : Laid w b v m n l f N w' l' f') : l'.length = l.length := h.perm.length_eq
theorem Laid.keep {w : World} {b : Nat} {v : Value} {m n : Nat} {l : List En} {f : Int → Option Int} {N : Nat} {w' w'' : World} {l' : List En} {f' : Int → Option Int} (h : Laid w b v m n l f N w' l' f') (t : Touch (fun _ => False) w' w'') : Laid w b v m n l f N w'' l' f' :=
  ⟨h.ps.keep t, h.perm, h.far, h.keys, h.t.trans (t.mono (fun _ _ h => h.elim))⟩
theorem Laid.swap {w : World} {b : Nat} {v : Value} {m n : Nat} {l : List En} {f : Int → Option Int} {N : Nat} {w' w'' : World} {l' : List En} {f' : Int → Option Int} (h : Laid w b v m n l f N w' l' f') {i j : Nat} (hi : i < l.length) (hj : j < l.length) (iN : i < N) (jN : j < N) {e : Ending}
    (s : SwP w' b v m n l' f' i j e w'') : ∃ f'', Laid w b v m n l f N w'' (sw l' i j) f'' := by
  obtain ⟨_, ⟨f'', ps, hk⟩, t⟩ := s
  have hi' : i < l'.length := by rw [h.len]; exact hi
  have hj' : j < l'.length := by rw [h.len]; exact hj
  refine ⟨f'', ps, (sw_perm hi' hj').trans h.perm, fun k kn => ?_, fun k kk => ?_, h.t.trans t⟩
  · rw [gt_sw hi' hj', if_neg (by omega), if_neg (by omega)]
    exact h.far k kn
  · rw [hk k (fun x hx => kk x (h.perm.mem_iff.1 hx))]
    exact h.keys k kk
/-- Less, by the places. -/
theorem less_any (w : World) (b : Nat) (v : Value) (m n : Nat) (l : List En) (f : Int → Option Int) (P : PS w b v m n l f) (i j : Nat) (hi : i < l.length) (hj : j < l.length) :
    Calls Try.prog 84 #[.agg #[.pointer (some ⟨b, 0, none⟩)], .int .i64 i, .int .i64 j] w fun e w' => e = .returned (.bool (ltB (gt l i) (gt l j))) ∧ Touch (fun _ => False) w w' := by
  obtain ⟨g, cap, rfl, hcap, hg⟩ := P.re.form (by omega)
  obtain ⟨x0, x1, x2⟩ := P.re.cells hi
  obtain ⟨y0, y1, y2⟩ := P.re.cells hj
  exact less_cells w b g l.length cap i j _ _ hi hj P.c0 x0 x1 x2 y0 y1 y2 _ rfl

/-- A place in a heap whose entries but that one are in order. -/
structure UpR (w : World) (b : Nat) (v : Value) (m n : Nat) (l : List En) (f : Int → Option Int) (N : Nat) (w' : World) (t : Nat) : Prop where
  out : ∃ l' f', Laid w b v m n l f N w' l' f' ∧ t < N ∧ UpI N (gt l') t
/-- .. all of whose entries are. -/
structure HpP (w : World) (b : Nat) (v : Value) (m n : Nat) (l : List En) (f : Int → Option Int) (N : Nat) (e : Ending) (w' : World) : Prop where
  e : e = .returned (.tuple #[])
  out : ∃ l' f', Laid w b v m n l f N w' l' f' ∧ HP N (gt l')

set_option maxHeartbeats 2000000 in
theorem up_any (w : World) (b : Nat) (v : Value) (m n : Nat) (l : List En) (f : Int → Option Int) (P : PS w b v m n l f) (N : Nat) (hN : N ≤ l.length) (j : Nat) (hj : j < N) (U : UpI N (gt l) j) :
    Calls Try.prog 60 #[.iface 85 (.agg #[.pointer (some ⟨b, 0, none⟩)]), .int .i64 j] w (HpP w b v m n l f N) := by
  have hl := P.hl
  have R0 : UpR w b v m n l f N w j := ⟨l, f, Laid.start P N, hj, U⟩
  have HR : Hid _ := R0
  have HL : Hid (l.length ≤ 2000000) := hl
  have HN : Hid (N ≤ l.length) := hN
  clear P U hl hN R0 hj
  go_enter Try.func60, Try.ntmps60
  go_wp2_with fail
  go_loopw [1] (fun s1 wx => ∃ t : Nat, s1 = .int .i64 t ∧ UpR w b v m n l f N wx t) (fun s1 _ => (intOf s1).toNat)
  case atStart => exact ⟨j, rfl, HR.out⟩
  case round =>
    clear HR
    obtain ⟨t, rfl, ⟨l', f', L, ht, U⟩⟩ := hrel
    have hlt : t ≤ 2000000 := by have := HL.out; have := HN.out; omega
    by_cases h0 : t = 0
    · subst h0
      go_wp2_with fail
      exact bodyPost_end (results_none rfl _ _ _) rfl ⟨rfl, l', f', L, up_end U (Or.inl rfl)⟩
    · have e1 : ((t : Int) - 1) / 2 = (((t - 1) / 2 : Nat) : Int) := by omega
      have hp : (t - 1) / 2 < t := by omega
      have t1 : (1 : Int) ≤ (t : Int) := by omega
      have h00 : 0 < t := by omega
      have HS : Hid (∀ g' : Nat → En, (gt l' t).lt (gt l' ((t - 1) / 2)) → (∀ k, g' k = if k = t then gt l' ((t - 1) / 2) else if k = (t - 1) / 2 then gt l' t else gt l' k) → UpI N g' ((t - 1) / 2)) := fun g' a b => up_step U ht h00 a b
      have HE : Hid ((gt l' ((t - 1) / 2)).le (gt l' t) → HP N (gt l')) := fun a => up_end U (Or.inr a)
      generalize (t - 1) / 2 = p at *
      have hne : ¬ (p : Int) = (t : Int) := by omega
      have hpl : p < l'.length := by have := L.len; have := HN.out; omega
      have htl : t < l'.length := by have := L.len; have := HN.out; omega
      have HLs : Hid _ := less_any wr b v m n l' f' L.ps t p htl hpl
      have HT : Hid (t < N) := ht
      have LL : Hid _ := L
      clear U ht L h0 h00
      by_cases hb : (gt l' t).lt (gt l' p)
      · rw [ltB_true hb] at HLs
        have HB : Hid _ := hb
        clear hb
        go_wp2_with ((go_at_call 84; refine Calls.mono HLs.out ?_; rintro e wx ⟨rfl, tx⟩))
        have LX := LL.out.keep tx
        refine Calls.mono (swap_any wx b v m n l' f' LX.ps p t hpl htl (by omega)) ?_
        rintro e wy sy
        have es := sy.e
        subst es
        obtain ⟨f'', LY⟩ := LX.swap (by have := LX.len; omega) (by have := LX.len; omega) (by have := HT.out; omega) HT.out sy
        have UY : UpI N (gt (sw l' p t)) p := HS.out _ HB.out (fun k => gt_sw hpl htl k)
        clear sy
        have LZ : Hid _ := LY
        clear LY LX
        go_wp2_with fail
        go_roundw
        case rel => exact ⟨p, rfl, ⟨_, f'', LZ.out, by have := HT.out; omega, UY⟩⟩
        case measure => simp [intOf]; omega
      · rw [ltB_false hb] at HLs
        have HB : Hid _ := HE.out hb
        clear hb
        go_wp2_with ((go_at_call 84; refine Calls.mono HLs.out ?_; rintro e wx ⟨rfl, tx⟩))
        exact bodyPost_end (results_none rfl _ _ _) rfl ⟨rfl, l', f', LL.out.keep tx, HB.out⟩
end Go.Proofs.Ytmdnlfbploaafaa
