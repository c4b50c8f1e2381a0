
/- container/heap: Remove. -/
import Derived.Test.YtmdnlfbploaafaaQuHeap
namespace Go.Proofs.Ytmdnlfbploaafaa
open Go.RowKit
set_option linter.unusedVariables false
set_option maxRecDepth 100000

theorem HP.fixN {n : Nat} {g g' : Nat → En} {i : Nat} (h : HP n g) (hg : ∀ k, k < n → k ≠ i → g' k = g k) : FixI n g' i :=
  ⟨fun c c0 cn ce pe => by rw [hg _ (by omega) pe, hg _ cn ce]; exact h c c0 cn, fun c c0 cn pe i0 => by
    rw [hg _ (by omega) (by omega), hg _ cn (by omega)]
    have h1 := h c c0 cn
    have h2 := h i i0 (by omega)
    rw [pe] at h1
    exact le_trans' h2 h1⟩
theorem take_last {l : List En} {k : Nat} (h : l.length = k + 1) : l = l.take k ++ [gt l k] := by
  have h1 : l.take (k + 1) = l := List.take_of_length_le (by omega)
  have h2 := List.take_succ_eq_append_getElem (l := l) (i := k) (by omega)
  rw [h1] at h2
  have h3 : gt l k = l[k]'(by omega) := by simp [gt, List.getElem?_eq_getElem (show k < l.length by omega)]
  rw [h3]
  exact h2

/-- The entry at i is gone, and what is left is a heap. -/
structure RemP (w : World) (b : Nat) (v : Value) (m n : Nat) (l : List En) (f : Int → Option Int) (x : En) (e : Ending) (w' : World) : Prop where
  e : e = .returned (.iface 41 (.agg #[.int .i64 x.a, .int .i64 x.r, .int .u64 x.k]))
  out : ∃ v' l' f' q, PS w' b v' m n l' f' ∧ (x :: l').Perm l ∧ HP l'.length (gt l') ∧ (∀ k, (∀ y ∈ l, y.k ≠ k) → f' k = f k) ∧ f' x.k = some q ∧ (∀ y ∈ l', y.k ≠ x.k) ∧ v'.ownBlock = v.ownBlock
  t : TouchB b (fun k => v.ownBlock = some k ∨ k = m) w w'

theorem rem_end {w w1 w2 : World} {b : Nat} {v : Value} {m n : Nat} {l L : List En} {f f' : Int → Option Int} {k : Nat} {x : En} {e : Ending} (P : PS w1 b v m n L f') (hL : L.length = k + 1) (hp : L.Perm l) (H : HP k (gt L)) (hk : ∀ k, (∀ y ∈ l, y.k ≠ k) → f' k = f k) (hx : gt L k = x)
    (T : TouchB b (fun k => v.ownBlock = some k ∨ k = m) w w1) (p : PopP w1 b v m n L f' k e w2) : RemP w b v m n l f x e w2 := by
  obtain ⟨he, ⟨v', P', hv⟩, t⟩ := p
  have ht : (L.take k).length = k := by simp; omega
  refine ⟨by rw [he, hx], ⟨v', L.take k, f', k, P', ?_, ?_, hk, ?_, ?_, hv⟩, T.trans t (fun _ _ h => h.elim)⟩
  · refine List.Perm.trans ?_ hp
    rw [← hx]
    conv => rhs; rw [take_last hL]
    exact (List.perm_append_singleton _ _).symm
  · rw [ht]
    exact H.mono (Nat.le_refl _) (fun q hq => gt_take hq)
  · rw [← hx]
    exact P.d1 k (by omega)
  · intro y hy e1
    obtain ⟨j, hj, rfl⟩ := mem_gt hy
    rw [ht] at hj
    rw [gt_take hj, ← hx] at e1
    have := P.inj (by omega) (by omega) e1
    omega

set_option maxHeartbeats 2000000 in
theorem hremove_any (w : World) (b : Nat) (v : Value) (m n : Nat) (l : List En) (f : Int → Option Int) (P : PS w b v m n l f) (hh : HP l.length (gt l)) (i k : Nat) (hi : i < l.length) (hk : l.length = k + 1) :
    Calls Try.prog 46 #[.iface 85 (.agg #[.pointer (some ⟨b, 0, none⟩)]), .int .i64 i] w (RemP w b v m n l f (gt l i)) := by
  have hb := P.lt
  have hm := P.mb
  have hl := P.hl
  have HP0 : Hid _ := P
  have HH : Hid (HP l.length (gt l)) := hh
  clear P hh
  have hLk : (l.length : Int) = (k : Int) + 1 := by omega
  have k2 : (k : Int) ≤ 2000000 := by omega
  have k0 : (0 : Int) ≤ (k : Int) := by omega
  have HK : Hid (l.length = k + 1) := hk
  have HI : Hid (i < l.length) := hi
  clear hk hi hl
  generalize hx : gt l i = x
  have HX : Hid _ := hx
  clear hx
  by_cases hik : i = k
  · subst hik
    go_enter Try.func46, Try.ntmps46
    go_wp2_with fail
    refine Calls.mono (flen_at w b v m n l f HP0.out) ?_
    rintro e w1 ⟨rfl, t1⟩
    have HT1 : Hid _ := t1
    have HP1 : Hid _ := HP0.out.keep t1
    clear t1
    go_wp2_with fail
    refine Calls.mono (fpop_any w1 b v m n l f HP1.out i HK.out) ?_
    rintro e w2 p2
    have R := rem_end (l := l) (f := f) (x := x) HP1.out HK.out (List.Perm.refl _) (HP.mono HH.out (by have := HK.out; omega) (fun _ _ => rfl)) (fun _ _ => rfl) HX.out ⟨(TouchB.of HT1.out hb (fun h => h)).t.mono (fun _ _ e => e.elim Or.inl (fun h => h.elim)), (TouchB.of HT1.out hb (fun h => h)).rest⟩ p2
    have e2 := R.e
    subst e2
    have HR : Hid _ := R
    clear R p2
    go_wp2_with fail
    go_ret
    exact HR.out
  · have hne : ¬ (k : Int) = (i : Int) := by omega
    have hik2 : i < k := by have := HK.out; have := HI.out; omega
    go_enter Try.func46, Try.ntmps46
    go_wp2_with fail
    refine Calls.mono (flen_at w b v m n l f HP0.out) ?_
    rintro e w1 ⟨rfl, t1⟩
    have HT1 : Hid _ := t1
    have HP1 : Hid _ := HP0.out.keep t1
    clear t1
    go_wp2_with fail
    refine Calls.mono (swap_at w1 b v m n l f HP1.out i k _ _ rfl (by omega) HI.out (by have := HK.out; omega) hik) ?_
    rintro e w2 ⟨rfl, ⟨f2, P2, K2⟩, T2⟩
    have hb1 := HP1.out.lt
    have TB2 : Hid (TouchB b (fun k => v.ownBlock = some k ∨ k = m) w w2) := (⟨(TouchB.of HT1.out hb (fun h => h)).t.mono (fun _ _ e => e.elim Or.inl (fun h => h.elim)), (TouchB.of HT1.out hb (fun h => h)).rest⟩ : TouchB b (fun k => v.ownBlock = some k ∨ k = m) w w1).trans (TouchB.of T2 hb1 (fun e => e.elim P2.bv (fun e => hm e.symm))) (fun _ _ h => h)
    have HP2 : Hid _ := P2
    have HK2 : Hid _ := K2
    clear P2 K2 T2
    have il : i < l.length := HI.out
    have kl : k < l.length := by have := HK.out; omega
    have sl : (sw l i k).length = k + 1 := by rw [sw_length]; exact HK.out
    have FX : Hid (FixI k (gt (sw l i k)) i) := HP.fixN (n := k) (g := gt l) (HP.mono HH.out (by omega) (fun _ _ => rfl)) (fun q hq hqi => by rw [gt_sw il kl, if_neg (by omega), if_neg hqi])
    have SX : Hid (gt (sw l i k) k = x) := by unfold Hid; rw [gt_sw il kl, if_pos rfl]; exact HX.out
    have SP : Hid ((sw l i k).Perm l) := sw_perm il kl
    have SL : Hid ((sw l i k).length = k + 1) := sl
    clear il kl sl
    go_wp2_with fail
    refine Calls.mono (down_at w2 b v m n (sw l i k) f2 HP2.out k (by have := SL.out; omega) i _ _ rfl (by omega) hik2 FX.out) ?_
    rintro e w3 ⟨l3, f3, z, rfl, L3, H3⟩
    have HL3 : Hid _ := L3
    clear L3
    have TB3 : Hid (TouchB b (fun k => v.ownBlock = some k ∨ k = m) w w3) := TB2.out.trans (HL3.out.touchB HP2.out.lt hm) (fun _ _ h => h)
    have HK3 : Hid (∀ k, (∀ y ∈ l, y.k ≠ k) → f3 k = f k) := fun q hq => by rw [HL3.out.keys q (fun y hy => hq y (SP.out.mem_iff.1 hy)), HK2.out q hq]
    rcases H3 with ⟨rfl, H3⟩ | ⟨rfl, rfl, U3⟩
    · have HH3 : Hid _ := H3
      clear H3
      go_wp2_with fail
      refine Calls.mono (fpop_any w3 b v m n l3 f3 HL3.out.ps k (by rw [HL3.out.len]; exact SL.out)) ?_
      rintro e w4 p4
      have R := rem_end (l := l) (f := f) (x := x) HL3.out.ps (by rw [HL3.out.len]; exact SL.out) (HL3.out.perm.trans SP.out) HH3.out HK3.out (by rw [HL3.out.far k (Nat.le_refl _)]; exact SX.out) TB3.out p4
      have e2 := R.e
      subst e2
      have HR : Hid _ := R
      clear R p4
      go_wp2_with fail
      go_ret
      exact HR.out
    · have HU : Hid _ := U3
      clear U3
      go_wp2_with fail
      refine Calls.mono (up_at w3 b v m n _ f3 HL3.out.ps k (by have := SL.out; omega) i _ rfl hik2 HU.out) ?_
      rintro e w4 ⟨rfl, l4, f4, L4, H4⟩
      have HL4 : Hid _ := L4
      have HH4 : Hid _ := H4
      clear L4 H4
      have TB4 : Hid (TouchB b (fun k => v.ownBlock = some k ∨ k = m) w w4) := TB3.out.trans (HL4.out.touchB HL3.out.ps.lt hm) (fun _ _ h => h)
      go_wp2_with fail
      refine Calls.mono (fpop_any w4 b v m n l4 f4 HL4.out.ps k (by rw [HL4.out.len]; exact SL.out)) ?_
      rintro e w5 p5
      have R := rem_end (l := l) (f := f) (x := x) HL4.out.ps (by rw [HL4.out.len]; exact SL.out) (HL4.out.perm.trans SP.out) HH4.out (fun q hq => by rw [HL4.out.keys q (fun y hy => hq y (SP.out.mem_iff.1 hy)), HK3.out q hq]) (by rw [HL4.out.far k (Nat.le_refl _)]; exact SX.out) TB4.out p5
      have e2 := R.e
      subst e2
      have HR : Hid _ := R
      clear R p5
      go_wp2_with fail
      go_ret
      exact HR.out
end Go.Proofs.Ytmdnlfbploaafaa
