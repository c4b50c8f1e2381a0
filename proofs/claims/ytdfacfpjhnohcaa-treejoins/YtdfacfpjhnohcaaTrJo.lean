
/- Package tree: Join. -/
import Derived.Test.YtdfacfpjhnohcaaTrSrt
namespace Go.Proofs.Ytdfacfpjhnohcaa
open Go.RowKit Go.Shelf
set_option linter.unusedVariables false
set_option maxRecDepth 100000

theorem join0_any (w : World) (mv : Value) (S c : List HK) (M : HopsAt w mv S) (hl : S.length ≤ 1000000) (hc : jn [] S = c) :
    Calls Try.prog 24 #[.slice none 0 0, mv] w fun e w' => ∃ r, e = .returned r ∧ HV3 w' r c ∧ Touch (fun _ => False) w w' := by
  refine (join_any w w.heap.size (.slice none 0 0) mv [] S (World.ownsRow_nil _ _ _ _) M (fun k h => by cases h) (Nat.le_refl _) (by simp; omega)).mono (fun e w' X => ?_)
  obtain ⟨⟨v', h1, h2, -⟩, t⟩ := X
  have t' : Touch (fun _ => False) w w' := t.mono (fun _ _ h => by cases h)
  rw [hc] at h2
  exact ⟨v', h1, VBuf.vals (w0 := w) ⟨h2, t'⟩, t'⟩
theorem hops_at {w : World} {g c : Nat} {n : Nat} {S : List HK} (hn : n = S.length) (h : HV3 w (.slice (some ⟨g, 0, none⟩) n c) S) : HopsAt w (.slice (some ⟨g, 0, none⟩) n c) S := by
  subst hn
  refine ⟨_, c, rfl, Or.inr ⟨g, rfl, fun i x hx d u hd => ?_⟩⟩
  rcases h.2 with ⟨h1, -⟩ | ⟨ad, c', e, -, -, hc⟩
  · cases h1
  · injection e with e1 e2 e3
    injection e1 with e1
    subst e1
    have hd3 : d < 3 := (List.getElem?_eq_some_iff.1 hd).1
    have := hc (i * 3 + d) u (by rw [cellsG_get HK.len _ _ _ hd3, hx]; exact hd)
    rwa [add_plain, Nat.zero_add] at this
theorem sort_any (w w1 : World) (p : Value) (L : List HK) (X : HB w w1 p L) (hn : L.length ≤ 1000000) :
    Calls Try.prog 22 #[p, .func (.func 23) #[] #[]] w1 fun e w2 => e = .returned (.tuple #[]) ∧ ∃ S, S.Perm L ∧ S.Pairwise HK.le ∧ HopsAt w2 p S ∧ Touch (fun _ => False) w w2 := by
  rcases X.own.2 with ⟨rfl, h0⟩ | ⟨g, cap, cur, rfl, hb, hh, h1, h2, h3, h4⟩
  · have e : L = [] := List.length_eq_zero_iff.1 h0
    subst e
    refine Calls.mono (AnyF.slices_SortFunc_none sortHd none 0 (.func (.func 23) #[] #[]) w1) ?_
    rintro e w2 ⟨rfl, rfl⟩
    exact ⟨rfl, [], List.Perm.refl _, List.Pairwise.nil, ⟨none, 0, rfl, Or.inl rfl⟩, X.t⟩
  · refine Calls.mono (sortH_any w w1 g cap L X h2 h1 hn) ?_
    rintro e w2 ⟨rfl, S, hp, hs, hv, t⟩
    exact ⟨rfl, S, hp, hs, hops_at hp.length_eq.symm hv, t⟩
set_option maxHeartbeats 4000000 in
theorem join2_any (w : World) (u v : Value) (a b c : List HK) (A : HV3 w u a) (B : HV3 w v b) (hl : a.length + b.length ≤ 1000000) (hr : c.Pairwise HK.lt) (hm : ∀ x, x ∈ c ↔ x ∈ a ∨ x ∈ b) :
    Calls Try.prog 12 #[u, v] w fun e w' => ∃ r, e = .returned r ∧ HV3 w' r c ∧ Touch (fun _ => False) w w' := by
  have HA : Hid (HV3 w u a) := A
  have HVB : Hid (HV3 w v b) := B
  have HL : Hid (a.length + b.length ≤ 1000000) := hl
  have HC : Hid (∀ S : List HK, S.Perm (a ++ b) → S.Pairwise HK.le → jn [] S = c) := fun S hp hs => by
    refine rises_eq (jn_rises [] S List.Pairwise.nil hs (fun x hx => by cases hx)) hr (fun x => ?_)
    rw [mem_jn, hm, hp.mem_iff]
    simp
  have HCC : Hid (∀ w1, Touch (fun _ => False) w w1 → w1.cell? ⟨w.heap.size, 0, none⟩ = some u → w1.cell? ⟨w.heap.size, 1, none⟩ = some v → Calls Try.prog 21 #[.slice (some ⟨w.heap.size, 0, none⟩) 2 2] w1 fun e w' => ∃ v', e = .returned v' ∧ HB w1 w' v' (a ++ b)) := fun w1 t c1 c2 => concat_any _ u v a b w1 c1 c2 (HA.out.keep t) (HVB.out.keep t) (by have := HL.out; omega) (by have := HL.out; omega)
  clear A B hl hr hm
  obtain ⟨ua, uc, rfl, -⟩ := HA.out.form
  obtain ⟨vaa, vc, rfl, -⟩ := HVB.out.form
  have HLN : Hid ((a ++ b).length ≤ 1000000) := by show _ ≤ _; rw [List.length_append]; exact HL.out
  generalize hN : a.length = N at *
  generalize hM : b.length = M at *
  clear hN hM
  go_enter Try.func12, Try.ntmps12
  go_wp2_with (first
    | (go_at_call 21; refine (HCC.out _ (by first | exact (Touch.refl _ _).alloc _ | exact ((Touch.refl _ _).alloc _).drew) (by simp [go_sem]) (by simp [go_sem])).mono ?_; rintro e w1 ⟨p, rfl, h1⟩)
    | (go_at_call 22; refine (sort_any _ w1 p (a ++ b) h1 HLN.out).mono ?_; rintro e w2 ⟨rfl, S, hp, hs, hh, t⟩; have HT : Hid (Touch (fun _ => False) w w2) := ((Touch.refl _ _).alloc _).trans t; clear t h1)
    | (go_at_call 24; go_loud (refine (join0_any w2 p S c hh (by rw [hp.length_eq]; exact HLN.out) (HC.out S hp hs)).mono ?_); rintro e w3 ⟨r, rfl, h3, t3⟩))
  go_ret
  exact ⟨r, rfl, h3, HT.out.trans t3⟩
end Go.Proofs.Ytdfacfpjhnohcaa
