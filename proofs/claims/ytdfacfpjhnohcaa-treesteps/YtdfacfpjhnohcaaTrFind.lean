
/- The place of a node; two ways one behind the other. -/
import Derived.Test.YtdfacfpjhnohcaaTrLeast
namespace Go.Proofs.Ytdfacfpjhnohcaa
open Go.RowKit
set_option linter.unusedVariables false
set_option maxRecDepth 100000

/-- Is it that node? -/
def isN (nt : Bool) (id : Int) (x : NM) : Bool := x.t.net == nt && x.t.id == id
/-- The first such place, or -1. -/
def fdI (ns : List NM) (nt : Bool) (id : Int) : Int := if (ns.findIdx (isN nt id)) < ns.length then ((ns.findIdx (isN nt id) : Nat) : Int) else -1
theorem fdI_none {ns : List NM} {nt : Bool} {id : Int} (h : ∀ x ∈ ns, isN nt id x = false) : fdI ns nt id = -1 := by
  unfold fdI
  rw [if_neg]
  rw [List.findIdx_lt_length]
  rintro ⟨x, hx, hp⟩
  rw [h x hx] at hp
  cases hp
theorem fdI_at {ns : List NM} {nt : Bool} {id : Int} {j : Nat} {x : NM} (hx : ns[j]? = some x) (hp : isN nt id x = true) (hb : ∀ k y, k < j → ns[k]? = some y → isN nt id y = false) : fdI ns nt id = (j : Int) := by
  have hj := (List.getElem?_eq_some_iff.1 hx).1
  have e : ns.findIdx (isN nt id) = j := by
    rw [List.findIdx_eq hj]
    refine ⟨by rw [(List.getElem?_eq_some_iff.1 hx).2]; exact hp, fun k hk => ?_⟩
    exact hb k ns[k] hk (List.getElem?_eq_getElem (by omega))
  unfold fdI
  rw [e, if_pos hj]

set_option maxHeartbeats 2000000 in
theorem find17 (w : World) (v : Value) (ns : List NM) (A : ArAt w v ns) (nt : Bool) (id : Int) (r : Int) (hr : fdI ns nt id = r) :
    Calls Try.prog 10 #[v, .bool nt, .int .u32 id] w fun e w' => e = .returned (.int .i64 r) ∧ w = w' := by
  obtain ⟨⟨a, c, rfl, hl, hsh⟩, -⟩ := A
  have HSH : Hid _ := hsh
  have HR : Hid (fdI ns nt id = r) := hr
  have hl1 : (ns.length : Int) ≤ 140737488355328 := by omega
  generalize hN : ns.length = N at *
  have HN : Hid _ := hN
  clear hsh hN hl hr
  go_enter Try.func10, Try.ntmps10
  go_wp2_with fail
  go_loopw [7] (fun s7 wx => ∃ j : Nat, s7 = .int .i64 j ∧ j ≤ N ∧ w = wx ∧ Hid (∀ k y, k < j → ns[k]? = some y → isN nt id y = false)) (fun s7 _ => N - (intOf s7).toNat)
  case atStart => exact ⟨0, rfl, Nat.zero_le _, rfl, fun k y h => by omega⟩
  case round =>
    obtain ⟨j, rfl, hj, rfl, HB⟩ := hrel
    by_cases hjN : j < N
    · obtain ⟨x, hx⟩ : ∃ x, ns[j]? = some x := ⟨_, List.getElem?_eq_getElem (by have := HN.out; omega)⟩
      rcases HSH.out with e | ⟨g, o, rfl, hc⟩
      · rw [e] at hx; cases hx
      have q0 : w.cell? ⟨g, o + j * 7, none⟩ = some (.bool x.t.net) := hc j x hx 0 _ rfl
      have q1 : w.cell? ⟨g, o + j * 7 + 1, none⟩ = some (.int .u32 x.t.id) := hc j x hx 1 _ rfl
      have hj0 : (0 : Int) ≤ (j : Int) := by omega
      have hj1 : (j : Int) < (N : Int) := by omega
      have HX : Hid _ := hx
      have HNX : Hid (isN nt id x = false → ∀ k y, k < j + 1 → ns[k]? = some y → isN nt id y = false) := by
        intro hf k y hk hy
        rcases Nat.lt_or_ge k j with h1 | h1
        · exact HB.out k y h1 hy
        · have : k = j := by omega
          subst this
          rw [hx] at hy
          injection hy with hy
          rw [← hy]; exact hf
      have HYX : Hid (isN nt id x = true → r = (j : Int)) := fun hf => by rw [← HR.out]; exact fdI_at hx hf HB.out
      clear hc hx
      by_cases h1 : x.t.net = nt
      · by_cases h2 : x.t.id = id
        · have hrj := HYX.out (by unfold isN; simp [h1, h2])
          have HRJ : Hid _ := hrj
          rw [h1] at q0
          rw [h2] at q1
          clear hrj h1 h2
          go_wp2_with fail
          go_ret
          exact ⟨ret_int HRJ.out.symm, rfl⟩
        · have h3 : (x.t.id == id) = false := by simpa using h2
          have HNY : Hid _ := HNX.out (by unfold isN; simp [h2])
          rw [h1] at q0
          clear h1
          go_wp2_with fail
          go_roundw
          case rel => exact ⟨j + 1, by go_num, by omega, trivial, HNY⟩
          case measure => simp [intOf]; omega
      · have h3 : (x.t.net == nt) = false := by simpa using h1
        have HNY : Hid _ := HNX.out (by unfold isN; simp [h3])
        go_wp2_with fail
        go_roundw
        case rel => exact ⟨j + 1, by go_num, by omega, trivial, HNY⟩
        case measure => simp [intOf]; omega
    · have hjj : j = N := by omega
      subst hjj
      have HE : Hid (r = -1) := by
        show r = -1
        rw [← HR.out]
        refine fdI_none (fun x hx => ?_)
        obtain ⟨k, hk, e⟩ := List.mem_iff_getElem.1 hx
        exact HB.out k x (by have := HN.out; omega) (by rw [List.getElem?_eq_getElem hk, e])
      go_wp2_with fail
      go_ret
      exact ⟨ret_int HE.out.symm, rfl⟩

theorem Wk.lt {g : List TN} {u v : Nat} {c : Int} (W : Wk g u v c) : u < g.length ∧ v < g.length := by
  induction W with
  | nil h => exact ⟨h, h⟩
  | snoc _ _ _ h ih => exact ⟨ih.1, h⟩
theorem Wk.trans {g : List TN} {u v x : Nat} {c d : Int} (W : Wk g u v c) (W2 : Wk g v x d) : Wk g u x (c + d) := by
  induction W2 with
  | nil h => rw [Int.add_zero]; exact W
  | snoc _ he hd hx ih => rw [← Int.add_assoc]; exact ih.snoc he hd hx
theorem Wk.nonneg {g : List TN} {M : Int} {E : Nat} (G : GOk g M E) {u v : Nat} {c : Int} (W : Wk g u v c) : 0 ≤ c := by
  induction W with
  | nil h => exact Int.le_refl _
  | snoc W he hd hx ih =>
    have := G.ed _ (gn_mem W.lt.2) _ he
    omega
end Go.Proofs.Ytdfacfpjhnohcaa
