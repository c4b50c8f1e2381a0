/- A chain of keys that came in, with its sizes. -/
import Derived.Test.YtjjgbcjgmjggnaaGreatDoorAuMay
import Derived.Test.YtjjgbcjgmjggnaaGreatDoorWideB
import Derived.SizedLaws
import Derived.ProofKit
import Derived.OpenShut
import Derived.ChangeOld
import Derived.Deep.Slices
import Derived.Deep.Matrix
namespace Go.Proofs.YtjjgbcjgmjggnaaGreatDoor
open Go.ChangeShapes Go.WideShapes Go.ChangeAt Go.RowKit
set_option linter.unusedVariables false
set_option maxRecDepth 100000

section
variable {H : Type} {enc : TypeId × Value → H} {w : World} {base : Nat} {held : Bool}
theorem k_flat_cell {sp : Nat → Bool} {fuel : Nat} {t : TypeId} {fs : Array Field} {cs : List Value} {x : DataW H × List MemPlace} (ht : Tryz.prog.underlying t = some (.struct fs)) (h : DataW.trod enc Tryz.prog w base sp held fuel t cs = some x)
    (i : Nat) (f : Field) (hf : fs[i]? = some f) (ho : f.offset = i) (k : IntKind) (hk : Tryz.prog.underlying f.type = some (.int k)) (hc : Tryz.prog.cellsOf f.type = 1) : ∃ n, (cs.drop i).take 1 = [.int k n] ∧ (Lit.int k n).wf = true := by
  obtain ⟨xs, m, _, _, _, hlen, hall⟩ := DataW.trod_struct ht h
  have hi : i < xs.length := by
    have := (Array.getElem?_eq_some_iff.mp hf).1
    omega
  have := hall i f hf
  rw [ho, hc, List.getElem?_eq_getElem hi] at this
  obtain ⟨n, e, _, wf⟩ := DataW.trod_int hk this
  exact ⟨n, e, wf⟩
theorem k_open_bytes_c {fuel : Nat} {cs : List Value} {x : DataW H × List MemPlace} (h : DataW.trod enc Tryz.prog w base (fun _ => true) held fuel 22 cs = some x) :
    ∃ a len cap rs, cs = [.slice a len cap] ∧ rs.length = len ∧ ArgAt w (.slice a len cap) rs ∧ ∀ z ∈ rs, 0 ≤ z ∧ z < 256 := by
  have hs : ∃ a len cap, cs = [.slice a len cap] := by
    rcases open_ints Tryz.underlying22 Tryz.underlying5 (by kernel_rfl) h with ⟨hcs, _⟩ | ⟨ad, l, c, zs, hcs, _⟩
    · exact ⟨_, _, _, hcs⟩
    · exact ⟨_, _, _, hcs⟩
  obtain ⟨a, len, cap, rfl⟩ := hs
  obtain ⟨rs, h1, h2, h3, _⟩ := open_bytes h
  exact ⟨a, len, cap, rs, rfl, h1, h2, h3⟩
/-- No row in it is larger than memory is. -/
def k_Light (t : TypeId) (d : DataW H) : Prop := ∀ n ∈ d.weights Tryz.prog t, n ≤ 140737488355328
theorem k_field_light {sp : Nat → Bool} {fuel : Nat} {t : TypeId} {fs : Array Field} {cs : List Value} {x : DataW H × List MemPlace} (ht : Tryz.prog.underlying t = some (.struct fs)) (h : DataW.trod enc Tryz.prog w base sp held fuel t cs = some x) (hL : k_Light t x.1)
    (i : Nat) (f : Field) (hf : fs[i]? = some f) (o n : Nat) (ho : f.offset = o) (hc : Tryz.prog.cellsOf f.type = n) : ∃ m y, DataW.trod enc Tryz.prog w base sp held m f.type ((cs.drop o).take n) = some y ∧ k_Light f.type y.1 := by
  obtain ⟨xs, m, _, hx, _, hlen, hall⟩ := DataW.trod_struct ht h
  have hi : i < xs.length := by
    have := (Array.getElem?_eq_some_iff.mp hf).1
    omega
  have h1 := hall i f hf
  rw [ho, hc, List.getElem?_eq_getElem hi] at h1
  refine ⟨m, _, h1, fun n hn => hL n ?_⟩
  rw [hx]
  simp only [DataW.weights, ht]
  exact DataW.weights_mem_each (j := i) (t := f.type) (d := xs[i].1) (by simp [hf]) (by simp [hi]) n hn
theorem k_slice_light {t e : TypeId} {fuel : Nat} {cs : List Value} {x : DataW H × List MemPlace} (ht : Tryz.prog.underlying t = some (.slice e)) (he : 0 < Tryz.prog.bytesOf e) (h : DataW.trod enc Tryz.prog w base (fun _ => true) held fuel t cs = some x) (hL : k_Light t x.1) :
    ∀ a len cap, cs = [.slice a len cap] → len ≤ 140737488355328 := by
  intro a len cap hcs
  rcases Deep.open_slice ht h with ⟨h0, _⟩ | ⟨ad, l, c, m, n, D, Pl, h0, _, hl, hm, hmm, hx, hel⟩
  · rw [hcs] at h0
    simp at h0
    omega
  · rw [hcs] at h0
    simp at h0
    obtain ⟨-, rfl, -⟩ := h0
    have := hL ((len + (m - len)) * Tryz.prog.bytesOf e) (by rw [hx]; simp [DataW.weights, ht])
    have h2 : len * 1 ≤ (len + (m - len)) * Tryz.prog.bytesOf e := Nat.mul_le_mul (by omega) he
    omega
theorem k_elem_light {t e : TypeId} {l k : Nat} {D : Nat → DataW H} {x : DataW H × List MemPlace} {q : List (DataW H)} {p : List MemPlace} (ht : Tryz.prog.underlying t = some (.slice e)) (hx : x = (.slice ((List.range l).map D) q, p)) (hL : k_Light t x.1) (i : Nat) (hi : i < l) : k_Light e (D i) := by
  intro n hn
  refine hL n ?_
  rw [hx]
  simp only [DataW.weights, ht, List.mem_cons, List.mem_append]
  refine Or.inr (Or.inl ?_)
  have G : ∀ (ds : List (DataW H)) (d : DataW H), d ∈ ds → n ∈ d.weights Tryz.prog e → n ∈ DataW.weightsAll Tryz.prog e ds := by
    intro ds
    induction ds with
    | nil => intro d hd; cases hd
    | cons a r ih =>
      intro d hd hn
      simp only [DataW.weightsAll, List.mem_append]
      rcases List.mem_cons.mp hd with rfl | hd
      · exact Or.inl hn
      · exact Or.inr (ih d hd hn)
  exact G _ (D i) (by simp only [List.mem_map, List.mem_range]; exact ⟨i, hi, rfl⟩) hn
theorem k_len {sp : Nat → Bool} {fuel : Nat} {t : TypeId} {fs : Array Field} {cs : List Value} {x : DataW H × List MemPlace} (ht : Tryz.prog.underlying t = some (.struct fs)) (h : DataW.trod enc Tryz.prog w base sp held fuel t cs = some x) : cs.length = Tryz.prog.cellsOf t := by
  obtain ⟨xs, m, _, _, hl, _⟩ := DataW.trod_struct ht h
  exact hl
theorem open_ke {fuel : Nat} {cs : List Value} {x : DataW H × List MemPlace} (h : DataW.trod enc Tryz.prog w base (fun _ => true) held fuel 61 cs = some x) (hL : k_Light 61 x.1) : ∃ s : KE, cs = s.cells ∧ s.Ok w ∧ s.p.sec.length ≤ 140737488355328 := by
  have hl := k_len Tryz.underlying61 h
  have hc : Tryz.prog.cellsOf 61 = 7 := by kernel_rfl
  rw [hc] at hl
  obtain ⟨n0, e0, w0⟩ := k_flat_cell Tryz.underlying61 h 0 _ rfl rfl .u8 Tryz.underlying5 (by kernel_rfl)
  obtain ⟨n1, e1, w1⟩ := k_flat_cell Tryz.underlying61 h 1 _ rfl rfl .u16 Tryz.underlying59 (by kernel_rfl)
  obtain ⟨n3, e3, w3⟩ := k_flat_cell Tryz.underlying61 h 3 _ rfl rfl .i64 Tryz.underlying3 (by kernel_rfl)
  obtain ⟨n4, e4, w4⟩ := k_flat_cell Tryz.underlying61 h 4 _ rfl rfl .i64 Tryz.underlying3 (by kernel_rfl)
  obtain ⟨n5, e5, w5⟩ := k_flat_cell Tryz.underlying61 h 5 _ rfl rfl .i64 Tryz.underlying3 (by kernel_rfl)
  obtain ⟨n6, e6, w6⟩ := k_flat_cell Tryz.underlying61 h 6 _ rfl rfl .i64 Tryz.underlying3 (by kernel_rfl)
  obtain ⟨m2, y2, a2, l2⟩ := k_field_light Tryz.underlying61 h hL 2 _ rfl 2 1 rfl (by kernel_rfl)
  have hz := k_slice_light Tryz.underlying22 (of_decide_eq_true (by kernel_rfl)) a2 l2
  obtain ⟨ba, bl, bc, rs, eb, hrl, harg, hby⟩ := k_open_bytes_c a2
  have hz' := hz _ _ _ eb
  match cs, hl with
  | [c0, c1, c2, c3, c4, c5, c6], _ =>
    simp only [List.drop, List.take, List.cons.injEq, and_true] at e0 e1 e3 e4 e5 e6 eb
    subst e0 e1 e3 e4 e5 e6 eb
    have b0 := bounds_u8 w0
    have b1 := bounds_u16 w1
    have b3 := bounds_i64 w3
    have b4 := bounds_i64 w4
    have b5 := bounds_i64 w5
    have b6 := bounds_i64 w6
    subst hrl
    exact ⟨⟨⟨n0, n1, rs, n3, n4, n5, n6⟩, ba, bc⟩, rfl, ⟨⟨by dsimp only; omega, by dsimp only; omega, hby, by dsimp only; omega, by dsimp only; omega, by dsimp only; omega, by dsimp only; omega⟩, harg⟩, hz'⟩
theorem open_chain {a : Option Addr} {len cap : Nat} {d : DataW H} {p : List MemPlace} (hd : DataW.Trod enc Tryz.prog w base (fun _ => true) held 23 (.slice a len cap) d p) (hL : k_Light 23 d) :
    ∃ ls : List KE, ChainAt w (.slice a len cap) ls ∧ (∀ y ∈ ls, y.p.sec.length ≤ 140737488355328) ∧ ls.length ≤ 140737488355328 := by
  obtain ⟨fuel, hf⟩ := hd
  have h : DataW.trod enc Tryz.prog w base (fun _ => true) held fuel 23 [.slice a len cap] = some (d, p) := by simpa [Value.cells] using hf
  have hcl : Tryz.prog.cellsOf 61 = 7 := by kernel_rfl
  have hz := k_slice_light Tryz.underlying23 (of_decide_eq_true (by kernel_rfl)) h hL
  rcases Deep.open_slice Tryz.underlying23 h with ⟨hcs, _⟩ | ⟨ad, l, c, m, n, D, Pl, hcs, _, hl, hm, hmm, hx, hel⟩
  · simp at hcs
    obtain ⟨rfl, rfl, rfl⟩ := hcs
    exact ⟨[], ⟨⟨rfl, Or.inl ⟨rfl, rfl⟩⟩, by simp⟩, by simp, by simp⟩
  · have hzl := hz _ _ _ hcs
    simp at hcs
    obtain ⟨rfl, rfl, rfl⟩ := hcs
    simp at hmm
    subst hmm
    have each : ∀ i, i < len → ∃ s : KE, (s.Ok w ∧ s.p.sec.length ≤ 140737488355328) ∧ ∀ r u, s.cells[r]? = some u → w.cell? (ad.add (i * 7 + r)) = some u := by
      intro i hi
      obtain ⟨cs', h1, h2⟩ := hel i (by omega)
      rw [hcl] at h1
      obtain ⟨_, hlen, hcell⟩ := World.cells?_some h1
      obtain ⟨s, rfl, ok, sl⟩ := open_ke h2 (k_elem_light (k := 0) Tryz.underlying23 hx hL i hi)
      refine ⟨s, ⟨ok, sl⟩, fun r u hu => ?_⟩
      have hr : r < 7 := (List.getElem?_eq_some_iff.mp hu).1
      have q := hcell r (by omega)
      rw [Deep.add_add] at q
      rw [q]
      exact hu
    haveI : Inhabited KE := ⟨⟨⟨0, 0, [], 0, 0, 0, 0⟩, none, 0⟩⟩
    obtain ⟨f, hf⟩ := Deep.choose_lt each
    have hok : ∀ y ∈ (List.range len).map f, KE.Ok w y ∧ y.p.sec.length ≤ 140737488355328 := by
      intro x hx
      simp only [List.mem_map, List.mem_range] at hx
      obtain ⟨i, hi, rfl⟩ := hx
      exact (hf i hi).1
    refine ⟨(List.range len).map f, ⟨⟨by simp [length_chainC], Or.inr ⟨ad, _, by rw [List.length_map, List.length_range], by rw [List.length_map, List.length_range]; exact hl, hm, fun j u hj => ?_⟩⟩, fun x hx => (hok x hx).1⟩, fun y hy => (hok y hy).2, by rw [List.length_map, List.length_range]; exact hzl⟩
    have hjl := (List.getElem?_eq_some_iff.mp hj).1
    rw [length_chainC, List.length_map, List.length_range] at hjl
    have hi : j / 7 < len := by omega
    have e := chainC_at ((List.range len).map f) (j / 7) (j % 7) (f (j / 7)) (by simp [hi]) (Nat.mod_lt _ (by omega))
    have hdm : j / 7 * 7 + j % 7 = j := by omega
    rw [hdm] at e
    rw [e] at hj
    have := (hf (j / 7) hi).2 (j % 7) u hj
    rwa [hdm] at this
end
end Go.Proofs.YtjjgbcjgmjggnaaGreatDoor

namespace Go.Proofs.YtjjgbcjgmjggnaaGreatDoor
open Go.ChangeShapes Go.WideShapes Go.ChangeAt Go.RowKit
set_option linter.unusedVariables false
set_option maxRecDepth 100000

theorem open_bytesL {H : Type} {enc : TypeId × Value → H} {w : World} {base : Nat} {held : Bool} {a : Option Addr} {len cap : Nat} {d : DataW H} {p : List MemPlace} (hd : DataW.Trod enc Tryz.prog w base (fun _ => true) held 22 (.slice a len cap) d p) (hL : k_Light 22 d) :
    ∃ rs : List Int, ArgAt w (.slice a len cap) rs ∧ (∀ z ∈ rs, 0 ≤ z ∧ z < 256) ∧ rs.length ≤ 140737488355328 := by
  obtain ⟨fuel, hf⟩ := hd
  have h : DataW.trod enc Tryz.prog w base (fun _ => true) held fuel 22 [.slice a len cap] = some (d, p) := by simpa [Value.cells] using hf
  have hz := k_slice_light Tryz.underlying22 (of_decide_eq_true (by kernel_rfl)) h hL _ _ _ rfl
  obtain ⟨ba, bl, bc, rs, eb, hrl, harg, hby⟩ := k_open_bytes_c h
  cases eb
  exact ⟨rs, harg, hby, by omega⟩
end Go.Proofs.YtjjgbcjgmjggnaaGreatDoor
