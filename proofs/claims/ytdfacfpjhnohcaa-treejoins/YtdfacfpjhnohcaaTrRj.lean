
/- The document's hops, two rows joined. -/
import Derived.Test.YtdfacfpjhnohcaaTrPut
namespace Go.Proofs.Ytdfacfpjhnohcaa
open Go.RowKit
set_option linter.unusedVariables false
set_option maxRecDepth 100000

set_option maxHeartbeats 4000000 in
theorem rjoin_any (w : World) (va vb : Value) (a b : List HK) (A : RA w va a) (B : RA w vb b) (hl : a.length + b.length ≤ 1000000) :
    Calls Try.prog 14 #[va, vb] w fun e w' => ∃ v', e = .returned v' ∧ HD w w' v' (rj a b) := by
  obtain ⟨aa, ac, rfl, ha⟩ := A.out
  obtain ⟨ba, bc, rfl, hb⟩ := B.out
  have HA : Hid (RwAt HK.cs 3 w aa a) := ha
  have HB : Hid (RwAt HK.cs 3 w ba b) := hb
  have R0 : Hid (HD w w (.slice none 0 0) (pts [] (a.take 0))) := VBuf.nil _ _ (Touch.refl _ _)
  have HL : Hid (a.length + b.length ≤ 1000000) := hl
  have hl1 : (a.length : Int) ≤ 1000000 := by omega
  have hl2 : (b.length : Int) ≤ 1000000 := by omega
  generalize hN : a.length = N at *
  generalize hM : b.length = M at *
  have HN : Hid (a.length = N) := hN
  have HM : Hid (b.length = M) := hM
  clear ha hb hN hM hl A B
  go_enter Try.func14, Try.ntmps14
  go_wp2_with fail
  go_loopw [5, 6] (fun s5 s6 wx => ∃ i : Nat, s6 = .int .i64 i ∧ i ≤ N ∧ HD w wx s5 (pts [] (a.take i))) (fun _ s6 _ => N - (intOf s6).toNat)
  case atStart => exact ⟨0, rfl, Nat.zero_le _, R0.out⟩
  case round =>
    clear R0
    obtain ⟨i, rfl, hi, X⟩ := hrel
    have HX : Hid (HD w wr _ (pts [] (a.take i))) := X
    by_cases hiN : i < N
    · obtain ⟨x, hx⟩ : ∃ x, a[i]? = some x := ⟨_, List.getElem?_eq_getElem (by have := HN.out; omega)⟩
      rcases HA.out with e | ⟨g, o, rfl, hc⟩
      · rw [e] at hx; cases hx
      have q := fun d u hd => X.t.cellN (hc i x hx d u hd)
      have q0 : wr.cell? ⟨g, o + i * 3, none⟩ = some (.int .u32 x.out) := q 0 _ rfl
      have q1 : wr.cell? ⟨g, o + i * 3 + 1, none⟩ = some (.int .u32 x.via) := q 1 _ rfl
      have q2 : wr.cell? ⟨g, o + i * 3 + 2, none⟩ = some (.bool x.vr) := q 2 _ rfl
      have hi0 : (0 : Int) ≤ (i : Int) := by omega
      have hi1 : (i : Int) < (N : Int) := by omega
      have HS : Hid (pts [] (a.take (i + 1)) = pt x (pts [] (a.take i))) := pts_step _ _ _ _ hx
      have HLN : Hid ((pts [] (a.take i)).length ≤ 1000000) := by
        have h1 := pts_length [] (a.take i)
        have h2 := HL.out
        have h3 := HN.out
        show _ ≤ _
        simp at h1
        omega
      have HP : Hid _ := fun w' (t : Touch (fun _ => False) wr w') => put_any w w' _ _ x (VBuf.keep HX.out t) HLN.out
      clear q hc hx X
      go_wp2_with (first | (go_at_call 25; go_loud (refine (HP.out _ (by first | exact Touch.refl _ _ | exact (Touch.refl _ _).drew | exact (Touch.refl _ _).drewN _)).mono ?_); rintro e w1 ⟨v1, rfl, h1⟩; have H1 : Hid (HD w w1 v1 (pt x (pts [] (a.take i)))) := h1; clear h1))
      go_roundw
      case rel => exact ⟨i + 1, by go_num, by omega, by rw [HS.out]; exact H1.out⟩
      case measure => simp [intOf]; omega
    · have hii : i = N := by omega
      subst hii
      have r1 := HX.out
      rw [List.take_of_length_le (by have := HN.out; omega)] at r1
      have R1 : Hid (HD w wr _ (pts (pts [] a) (b.take 0))) := r1
      clear r1
      clear X HX
      go_wp2_with fail
      go_loopw [5, 7] (fun s5 s7 wx => ∃ j : Nat, s7 = .int .i64 j ∧ j ≤ M ∧ HD w wx s5 (pts (pts [] a) (b.take j))) (fun _ s7 _ => M - (intOf s7).toNat)
      case atStart => exact ⟨0, rfl, Nat.zero_le _, R1.out⟩
      case round =>
        clear R1
        obtain ⟨j, rfl, hj, Y⟩ := hrel
        have HY : Hid (HD w wr _ (pts (pts [] a) (b.take j))) := Y
        by_cases hjM : j < M
        · obtain ⟨x, hx⟩ : ∃ x, b[j]? = some x := ⟨_, List.getElem?_eq_getElem (by have := HM.out; omega)⟩
          rcases HB.out with e | ⟨g, o, rfl, hc⟩
          · rw [e] at hx; cases hx
          have q := fun d u hd => Y.t.cellN (hc j x hx d u hd)
          have q0 : wr.cell? ⟨g, o + j * 3, none⟩ = some (.int .u32 x.out) := q 0 _ rfl
          have q1 : wr.cell? ⟨g, o + j * 3 + 1, none⟩ = some (.int .u32 x.via) := q 1 _ rfl
          have q2 : wr.cell? ⟨g, o + j * 3 + 2, none⟩ = some (.bool x.vr) := q 2 _ rfl
          have hj0 : (0 : Int) ≤ (j : Int) := by omega
          have hj1 : (j : Int) < (M : Int) := by omega
          have HS : Hid (pts (pts [] a) (b.take (j + 1)) = pt x (pts (pts [] a) (b.take j))) := pts_step _ _ _ _ hx
          have HLN : Hid ((pts (pts [] a) (b.take j)).length ≤ 1000000) := by
            have h1 := pts_length [] a
            have h4 := pts_length (pts [] a) (b.take j)
            have h2 := HL.out
            have h3 := HM.out
            have h5 := HN.out
            show _ ≤ _
            simp at h1 h4
            omega
          have HP : Hid _ := fun w' (t : Touch (fun _ => False) wr w') => put_any w w' _ _ x (VBuf.keep HY.out t) HLN.out
          clear q hc hx Y
          go_wp2_with (first | (go_at_call 25; go_loud (refine (HP.out _ (by first | exact Touch.refl _ _ | exact (Touch.refl _ _).drew | exact (Touch.refl _ _).drewN _)).mono ?_); rintro e w1 ⟨v1, rfl, h1⟩; have H1 : Hid (HD w w1 v1 (pt x (pts (pts [] a) (b.take j)))) := h1; clear h1))
          go_roundw
          case rel => exact ⟨j + 1, by go_num, by omega, by rw [HS.out]; exact H1.out⟩
          case measure => simp [intOf]; omega
        · have hjj : j = M := by omega
          subst hjj
          have rz := HY.out
          rw [List.take_of_length_le (by have := HM.out; omega)] at rz
          have RZ : Hid (HD w wr _ (rj a b)) := rz
          clear rz
          clear Y HY
          go_wp2_with fail
          go_ret
          exact ⟨_, rfl, RZ.out⟩
end Go.Proofs.Ytdfacfpjhnohcaa
