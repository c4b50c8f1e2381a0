
/- container/heap: Push, Fix, Remove. -/
import Derived.Test.YtmdnlfbploaafaaQuPop
namespace Go.Proofs.Ytmdnlfbploaafaa
open Go.RowKit
set_option linter.unusedVariables false
set_option maxRecDepth 100000

/-- A pile that is a heap of the entries L. -/
structure Heaped (w : World) (b : Nat) (v : Value) (m n : Nat) (L : List En) (f : Int → Option Int) (w' : World) : Prop where
  out : ∃ v' l' f', PS w' b v' m n l' f' ∧ l'.Perm L ∧ HP l'.length (gt l') ∧ (∀ k, (∀ y ∈ L, y.k ≠ k) → f' k = f k) ∧ (v'.ownBlock = v.ownBlock ∨ ∃ g, v'.ownBlock = some g ∧ w.heap.size ≤ g)
  t : TouchB b (fun k => v.ownBlock = some k ∨ k = m) w w'

theorem up_at (w : World) (b : Nat) (v : Value) (m n : Nat) (l : List En) (f : Int → Option Int) (P : PS w b v m n l f) (N : Nat) (hN : N ≤ l.length) (j : Nat) (x : Int) (hx : x = (j : Int)) (hj : j < N) (U : UpI N (gt l) j) :
    Calls Try.prog 60 #[.iface 85 (.agg #[.pointer (some ⟨b, 0, none⟩)]), .int .i64 x] w (HpP w b v m n l f N) := by
  subst hx
  exact up_any w b v m n l f P N hN j hj U
theorem down_at (w : World) (b : Nat) (v : Value) (m n : Nat) (l : List En) (f : Int → Option Int) (P : PS w b v m n l f) (N : Nat) (hN : N ≤ l.length) (i0 : Nat) (x y : Int) (hx : x = (i0 : Int)) (hy : y = (N : Int)) (hi : i0 < N) (F : FixI N (gt l) i0) :
    Calls Try.prog 59 #[.iface 85 (.agg #[.pointer (some ⟨b, 0, none⟩)]), .int .i64 x, .int .i64 y] w (DnP w b v m n l f N i0) := by
  subst hx; subst hy
  exact down_any w b v m n l f P N hN i0 hi F
theorem flen_at (w : World) (b : Nat) (v : Value) (m n : Nat) (l : List En) (f : Int → Option Int) (P : PS w b v m n l f) :
    Calls Try.prog 83 #[.agg #[.pointer (some ⟨b, 0, none⟩)]] w fun e w' => e = .returned (.int .i64 l.length) ∧ Touch (fun _ => False) w w' := by
  obtain ⟨a, c, rfl⟩ := P.re.shape
  exact flen_any w b l.length a c P.c0
theorem Laid.touchB {w : World} {b : Nat} {v : Value} {m n : Nat} {l : List En} {f : Int → Option Int} {N : Nat} {w' : World} {l' : List En} {f' : Int → Option Int} (h : Laid w b v m n l f N w' l' f') (hb : b < w.heap.size) (hm : m ≠ b) : TouchB b (fun k => v.ownBlock = some k ∨ k = m) w w' :=
  TouchB.of h.t hb (fun e => e.elim h.ps.bv (fun e => hm e.symm))

set_option maxHeartbeats 1000000 in
theorem hpush_any (w : World) (b : Nat) (v : Value) (m n : Nat) (l : List En) (f : Int → Option Int) (P : PS w b v m n l f) (hh : HP l.length (gt l)) (x : En) (hx : x.Ok) (hf : f x.k = some (l.length : Int)) (hl : l.length + 1 ≤ 2000000) :
    Calls Try.prog 45 #[.iface 85 (.agg #[.pointer (some ⟨b, 0, none⟩)]), .iface 41 (.agg #[.int .i64 x.a, .int .i64 x.r, .int .u64 x.k])] w fun e w' => e = .returned (.tuple #[]) ∧ Heaped w b v m n (l ++ [x]) f w' := by
  have hb := P.lt
  have hm := P.mb
  have HP0 : Hid _ := P
  have HH : Hid _ := hh
  have HX : Hid _ := hx
  have HF : Hid _ := hf
  clear P hh hx hf
  go_enter Try.func45, Try.ntmps45
  go_wp2_with fail
  refine Calls.mono (fpush_any w b v m n l f HP0.out x HX.out HF.out hl) ?_
  rintro e w1 p1
  have e1 := p1.e
  subst e1
  obtain ⟨-, ⟨v1, P1, hv⟩, T1⟩ := p1
  have HP1 : Hid _ := P1
  have HT1 : Hid _ := T1
  have HV : Hid _ := hv
  clear P1 T1 hv
  go_wp2_with fail
  refine Calls.mono (flen_at w1 b v1 m n _ f HP1.out) ?_
  rintro e w2 ⟨rfl, t2⟩
  have P2 := HP1.out.keep t2
  have HP2 : Hid _ := P2
  have HT2 : Hid _ := t2
  clear P2 t2
  have hl2 : (l ++ [x]).length = l.length + 1 := by simp
  have hl3 : ((l ++ [x]).length : Int) ≤ 2000000 := by omega
  have hl4 : (1 : Int) ≤ ((l ++ [x]).length : Int) := by omega
  have HL2 : Hid _ := hl2
  clear hl2
  go_wp2_with fail
  refine Calls.mono (up_at w2 b v1 m n _ f HP2.out (l.length + 1) (Nat.le_of_eq HL2.out.symm) l.length _ (by have := HL2.out; omega) (by omega) (HP.up HH.out (fun k hk => by
    by_cases h : k < l.length
    · rw [gt_append_left h]
    · simp [gt, List.getElem?_eq_none (show l.length ≤ k by omega), List.getElem?_eq_none (show (l ++ [x]).length ≤ k by simp; omega)]))) ?_
  rintro e w3 ⟨rfl, l', f', L, H⟩
  have HLL : Hid _ := L
  have HHH : Hid _ := H
  clear L H
  go_wp2_with fail
  refine bodyPost_end (results_none rfl _ _ _) rfl ?_
  have hb1 := HP1.out.lt
  have hb2 := HP2.out.lt
  have hlen := HLL.out.len
  have hl2 := HL2.out
  refine ⟨rfl, ⟨v1, l', f', HLL.out.ps, HLL.out.perm, ?_, HLL.out.keys, HV.out⟩, ?_⟩
  · rw [hlen, hl2]; exact HHH.out
  · have tb : TouchB b (fun k => v.ownBlock = some k ∨ k = m) w w1 := ⟨HT1.out.t.mono (fun _ _ e => e.elim Or.inl (fun e => Or.inr (Or.inl e))), HT1.out.rest⟩
    refine (tb.trans (TouchB.of HT2.out hb1 (fun h => h)) (fun _ _ h => h.elim)).trans (HLL.out.touchB hb2 hm) (fun i hi e => ?_)
    rcases e with e | e
    · rcases HV.out with e2 | ⟨g, e2, hg⟩
      · exact Or.inl (by rw [← e2]; exact e)
      · rw [e2] at e; injection e with e; omega
    · exact Or.inr e

set_option maxHeartbeats 1000000 in
theorem hfix_any (w : World) (b : Nat) (v : Value) (m n : Nat) (l : List En) (f : Int → Option Int) (P : PS w b v m n l f) (i : Nat) (hi : i < l.length) (F : FixI l.length (gt l) i) :
    Calls Try.prog 44 #[.iface 85 (.agg #[.pointer (some ⟨b, 0, none⟩)]), .int .i64 i] w fun e w' => e = .returned (.tuple #[]) ∧ Heaped w b v m n l f w' := by
  have hb := P.lt
  have hm := P.mb
  have HP0 : Hid _ := P
  have HF : Hid _ := F
  clear P F
  go_enter Try.func44, Try.ntmps44
  go_wp2_with fail
  refine Calls.mono (flen_at w b v m n l f HP0.out) ?_
  rintro e w1 ⟨rfl, t1⟩
  have HT1 : Hid _ := t1
  have HP1 : Hid _ := HP0.out.keep t1
  clear t1
  go_wp2_with fail
  refine Calls.mono (down_at w1 b v m n l f HP1.out l.length (Nat.le_refl _) i _ _ rfl rfl hi HF.out) ?_
  rintro e w2 ⟨l2, f2, z, rfl, L2, H2⟩
  have HL2 : Hid _ := L2
  clear L2
  have hb1 := HP1.out.lt
  have tb : Hid (TouchB b (fun k => v.ownBlock = some k ∨ k = m) w w2) := (⟨(TouchB.of HT1.out hb (fun h => h)).t.mono (fun _ _ e => e.elim Or.inl (fun h => h.elim)), (TouchB.of HT1.out hb (fun h => h)).rest⟩ : TouchB b (fun k => v.ownBlock = some k ∨ k = m) w w1).trans (HL2.out.touchB hb1 hm) (fun _ _ h => h)
  rcases H2 with ⟨rfl, H2⟩ | ⟨rfl, rfl, U2⟩
  · have HH : Hid _ := H2
    clear H2
    go_wp2_with fail
    refine bodyPost_end (results_none rfl _ _ _) rfl ?_
    refine ⟨rfl, ⟨v, l2, f2, HL2.out.ps, HL2.out.perm, ?_, HL2.out.keys, Or.inl rfl⟩, tb.out⟩
    rw [HL2.out.len]; exact HH.out
  · have HU : Hid _ := U2
    clear U2
    go_wp2_with fail
    refine Calls.mono (up_at w2 b v m n l2 f2 HL2.out.ps l2.length (Nat.le_refl _) i _ rfl hi HU.out) ?_
    rintro e w3 ⟨rfl, l3, f3, L3, H3⟩
    have HL3 : Hid _ := L3
    have HH : Hid _ := H3
    clear L3 H3
    go_wp2_with fail
    refine bodyPost_end (results_none rfl _ _ _) rfl ?_
    refine ⟨rfl, ⟨v, l3, f3, HL3.out.ps, HL3.out.perm, ?_, fun k hk => ?_, Or.inl rfl⟩, tb.out.trans (HL3.out.touchB HL2.out.ps.lt hm) (fun _ _ h => h)⟩
    · rw [HL3.out.len]; exact HH.out
    · rw [HL3.out.keys k hk, HL2.out.keys k hk]
end Go.Proofs.Ytmdnlfbploaafaa
