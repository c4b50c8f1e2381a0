
/- A row of heads that came in. -/
import Derived.Test.YtojlnabhaglejaaAdUnl2
import Derived.ProofKit
import Derived.OpenShut
import Derived.ChangeOld
import Derived.Deep.Slices
import Derived.Deep.Matrix
namespace Go.Proofs.Ytojlnabhaglejaa
open Go.ChangeShapes Go.WideShapes Go.ChangeAt Go.RowKit
set_option linter.unusedVariables false
set_option maxRecDepth 100000

def HV.z14 : HV := ⟨0, 0, 0, 0, 0, 0, 0, 0⟩
section
variable {H : Type} {enc : TypeId × Value → H} {w : World} {base : Nat} {held : Bool}
theorem open_head_c {sp : Nat → Bool} {fuel : Nat} {cs : List Value} {x : DataW H × List MemPlace} (h : DataW.trod enc Try.prog w base sp held fuel 50 cs = some x) : ∃ s : HV, cs = s.cells ∧ s.Wd := by
  have hl := flat_len Try.underlying50 h
  have hc : Try.prog.cellsOf 50 = 8 := by kernel_rfl
  rw [hc] at hl
  obtain ⟨n0, e0, w0⟩ := flat_cell Try.underlying50 h 0 _ rfl rfl .u16 Try.underlying39 (by kernel_rfl)
  obtain ⟨n1, e1, w1⟩ := flat_cell Try.underlying50 h 1 _ rfl rfl .u8 Try.underlying5 (by kernel_rfl)
  obtain ⟨n2, e2, w2⟩ := flat_cell Try.underlying50 h 2 _ rfl rfl .u8 Try.underlying5 (by kernel_rfl)
  obtain ⟨n3, e3, w3⟩ := flat_cell Try.underlying50 h 3 _ rfl rfl .u32 Try.underlying24 (by kernel_rfl)
  obtain ⟨n4, e4, w4⟩ := flat_cell Try.underlying50 h 4 _ rfl rfl .u32 Try.underlying24 (by kernel_rfl)
  obtain ⟨n5, e5, w5⟩ := flat_cell Try.underlying50 h 5 _ rfl rfl .i32 Try.underlying21 (by kernel_rfl)
  obtain ⟨n6, e6, w6⟩ := flat_cell Try.underlying50 h 6 _ rfl rfl .u16 Try.underlying39 (by kernel_rfl)
  obtain ⟨n7, e7, w7⟩ := flat_cell Try.underlying50 h 7 _ rfl rfl .u16 Try.underlying39 (by kernel_rfl)
  match cs, hl with
  | [c0, c1, c2, c3, c4, c5, c6, c7], _ =>
    simp only [List.drop, List.take, List.cons.injEq, and_true] at e0 e1 e2 e3 e4 e5 e6 e7
    subst e0 e1 e2 e3 e4 e5 e6 e7
    have b0 := bounds_u16 w0
    have b1 := bounds_u8 w1
    have b2 := bounds_u8 w2
    have b3 := bounds_u32 w3
    have b4 := bounds_u32 w4
    have b5 := bounds_i32 w5
    have b6 := bounds_u16 w6
    have b7 := bounds_u16 w7
    exact ⟨⟨n0, n1, n2, n3, n4, n5, n6, n7⟩, rfl, ⟨⟨by dsimp only; omega, by dsimp only; omega, by dsimp only; omega, by dsimp only; omega⟩, ⟨by dsimp only; omega, by dsimp only; omega⟩, ⟨by dsimp only; omega, by dsimp only; omega⟩, ⟨by dsimp only; omega, by dsimp only; omega⟩⟩⟩
theorem open_headsA {a : Option Addr} {len cap : Nat} {d : DataW H} {p : List MemPlace} (hd : DataW.Trod enc Try.prog w base (fun _ => true) held 22 (.slice a len cap) d p) :
    ∃ ls : List HV, HeadsAt w (.slice a len cap) ls ∧ ∀ x ∈ ls, HV.Wd x := by
  obtain ⟨fuel, hf⟩ := hd
  have h : DataW.trod enc Try.prog w base (fun _ => true) held fuel 22 [.slice a len cap] = some (d, p) := by simpa [Value.cells] using hf
  have hcl : Try.prog.cellsOf 50 = 8 := by kernel_rfl
  rcases Deep.open_slice Try.underlying22 h with ⟨hcs, _⟩ | ⟨ad, l, c, m, n, D, Pl, hcs, _, hl, hm, hmm, hx, hel⟩
  · simp at hcs
    obtain ⟨rfl, rfl, rfl⟩ := hcs
    exact ⟨[], ⟨rfl, Or.inl ⟨rfl, rfl⟩⟩, by simp⟩
  · simp at hcs
    obtain ⟨rfl, rfl, rfl⟩ := hcs
    simp at hmm
    subst hmm
    have each : ∀ i, i < len → ∃ s : HV, s.Wd ∧ ∀ r u, s.cells[r]? = some u → w.cell? (ad.add (i * 8 + r)) = some u := by
      intro i hi
      obtain ⟨cs', h1, h2⟩ := hel i (by omega)
      rw [hcl] at h1
      obtain ⟨_, hlen, hcell⟩ := World.cells?_some h1
      obtain ⟨s, rfl, ok⟩ := open_head_c h2
      refine ⟨s, ok, fun r u hu => ?_⟩
      have hr : r < 8 := (List.getElem?_eq_some_iff.mp hu).1
      have q := hcell r (by omega)
      rw [Deep.add_add] at q
      rw [q]
      exact hu
    haveI : Inhabited HV := ⟨HV.z14⟩
    obtain ⟨f, hf⟩ := Deep.choose_lt each
    refine ⟨(List.range len).map f, ⟨by simp [length_headsC], Or.inr ⟨ad, _, by rw [List.length_map, List.length_range], by rw [List.length_map, List.length_range]; exact hl, hm, fun j u hj => ?_⟩⟩, fun x hx => ?_⟩
    · have hjl := (List.getElem?_eq_some_iff.mp hj).1
      rw [length_headsC, List.length_map, List.length_range] at hjl
      have hi : j / 8 < len := by omega
      have e := headsC_at ((List.range len).map f) (j / 8) (j % 8) (f (j / 8)) (by simp [hi]) (Nat.mod_lt _ (by omega))
      have hdm : j / 8 * 8 + j % 8 = j := by omega
      rw [hdm] at e
      rw [e] at hj
      have := (hf (j / 8) hi).2 (j % 8) u hj
      rwa [hdm] at this
    · simp only [List.mem_map, List.mem_range] at hx
      obtain ⟨i, hi, rfl⟩ := hx
      exact (hf i hi).1
end
end Go.Proofs.Ytojlnabhaglejaa
