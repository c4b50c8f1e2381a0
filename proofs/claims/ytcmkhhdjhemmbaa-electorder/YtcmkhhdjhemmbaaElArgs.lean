
/- A voice, and a row of voices, that came in. -/
import Derived.Test.YtcmkhhdjhemmbaaElRow
import Derived.ProofKit
import Derived.OpenShut
import Derived.ChangeOld
import Derived.Deep.Slices
import Derived.Deep.Matrix
namespace Go.Proofs.Ytcmkhhdjhemmbaa
open Go.ChangeShapes Go.WideShapes Go.ChangeAt Go.RowKit
set_option linter.unusedVariables false
set_option maxRecDepth 100000

section
variable {H : Type} {enc : TypeId × Value → H} {w : World} {base : Nat} {held : Bool}
theorem el_flat {sp : Nat → Bool} {fuel : Nat} {t : TypeId} {fs : Array Field} {cs : List Value} {x : DataW H × List MemPlace} (ht : Try.prog.underlying t = some (.struct fs)) (h : DataW.trod enc Try.prog w base sp held fuel t cs = some x)
    (i : Nat) (f : Field) (hf : fs[i]? = some f) (ho : f.offset = i) (k : IntKind) (hk : Try.prog.underlying f.type = some (.int k)) (hc : Try.prog.cellsOf f.type = 1) : ∃ n, (cs.drop i).take 1 = [.int k n] ∧ (Lit.int k n).wf = true := by
  obtain ⟨xs, m, _, _, _, hlen, hall⟩ := DataW.trod_struct ht h
  have hi : i < xs.length := by
    have := (Array.getElem?_eq_some_iff.mp hf).1
    omega
  have := hall i f hf
  rw [ho, hc, List.getElem?_eq_getElem hi] at this
  obtain ⟨n, e, _, wf⟩ := DataW.trod_int hk this
  exact ⟨n, e, wf⟩
theorem el_len {sp : Nat → Bool} {fuel : Nat} {t : TypeId} {fs : Array Field} {cs : List Value} {x : DataW H × List MemPlace} (ht : Try.prog.underlying t = some (.struct fs)) (h : DataW.trod enc Try.prog w base sp held fuel t cs = some x) : cs.length = Try.prog.cellsOf t := by
  obtain ⟨xs, m, _, _, hl, _⟩ := DataW.trod_struct ht h
  exact hl
theorem open_voice_c {sp : Nat → Bool} {fuel : Nat} {cs : List Value} {x : DataW H × List MemPlace} (h : DataW.trod enc Try.prog w base sp held fuel 33 cs = some x) : ∃ s : VC, cs = s.cells ∧ s.Ok := by
  have hl := el_len Try.underlying33 h
  have hc : Try.prog.cellsOf 33 = 5 := by kernel_rfl
  rw [hc] at hl
  obtain ⟨n0, e0, w0⟩ := el_flat Try.underlying33 h 0 _ rfl rfl .u32 Try.underlying26 (by kernel_rfl)
  obtain ⟨n1, e1, w1⟩ := el_flat Try.underlying33 h 1 _ rfl rfl .u32 Try.underlying26 (by kernel_rfl)
  obtain ⟨n2, e2, w2⟩ := el_flat Try.underlying33 h 2 _ rfl rfl .u8 Try.underlying5 (by kernel_rfl)
  obtain ⟨n3, e3, w3⟩ := el_flat Try.underlying33 h 3 _ rfl rfl .u32 Try.underlying26 (by kernel_rfl)
  obtain ⟨n4, e4, w4⟩ := el_flat Try.underlying33 h 4 _ rfl rfl .u32 Try.underlying26 (by kernel_rfl)
  match cs, hl with
  | [c0, c1, c2, c3, c4], _ =>
    simp only [List.drop, List.take, List.cons.injEq, and_true] at e0 e1 e2 e3 e4
    subst e0 e1 e2 e3 e4
    have b0 := bounds_u32 w0
    have b1 := bounds_u32 w1
    have b2 := bounds_u8 w2
    have b3 := bounds_u32 w3
    have b4 := bounds_u32 w4
    exact ⟨⟨n0, n1, n2, n3, n4⟩, rfl, ⟨by dsimp only; omega, by dsimp only; omega, by dsimp only; omega, by dsimp only; omega, by dsimp only; omega, by dsimp only; omega, by dsimp only; omega, by dsimp only; omega, by dsimp only; omega, by dsimp only; omega⟩⟩
theorem open_voice {sp : Nat → Bool} {r : Reach} {b0 : Nat} {v : Value} {d : DataW H} {ps : List MemPlace} (hval : Value.okWide Try.prog w r b0 33 v) (hd : DataW.Trod enc Try.prog w base sp held 33 v d ps) :
    ∃ s : VC, v = s.agg ∧ s.Ok := by
  obtain ⟨cs, rfl, _⟩ := okWide_struct Try.underlying33 hval
  obtain ⟨fuel, hf⟩ := hd
  obtain ⟨s, e, ok⟩ := open_voice_c hf
  refine ⟨s, ?_, ok⟩
  simp only [Value.cells] at e
  obtain ⟨cs⟩ := cs
  simp only at e
  rw [e]
  rfl
theorem open_voices {a : Option Addr} {len cap : Nat} {d : DataW H} {p : List MemPlace} (hd : DataW.Trod enc Try.prog w base (fun _ => true) held 22 (.slice a len cap) d p) :
    ∃ ls : List VC, VcsAt w (.slice a len cap) ls := by
  obtain ⟨fuel, hf⟩ := hd
  have h : DataW.trod enc Try.prog w base (fun _ => true) held fuel 22 [.slice a len cap] = some (d, p) := by simpa [Value.cells] using hf
  have hcl : Try.prog.cellsOf 33 = 5 := by kernel_rfl
  rcases Deep.open_slice Try.underlying22 h with ⟨hcs, _⟩ | ⟨ad, l, c, m, n, D, Pl, hcs, _, hl, hm, hmm, hx, hel⟩
  · simp at hcs
    obtain ⟨rfl, rfl, rfl⟩ := hcs
    exact ⟨[], ⟨rfl, Or.inl ⟨rfl, rfl⟩⟩, by simp⟩
  · simp at hcs
    obtain ⟨rfl, rfl, rfl⟩ := hcs
    simp at hmm
    subst hmm
    have each : ∀ i, i < len → ∃ s : VC, s.Ok ∧ ∀ r u, s.cells[r]? = some u → w.cell? (ad.add (i * 5 + r)) = some u := by
      intro i hi
      obtain ⟨cs', h1, h2⟩ := hel i (by omega)
      rw [hcl] at h1
      obtain ⟨_, hlen, hcell⟩ := World.cells?_some h1
      obtain ⟨s, rfl, ok⟩ := open_voice_c h2
      refine ⟨s, ok, fun r u hu => ?_⟩
      have hr : r < 5 := (List.getElem?_eq_some_iff.mp hu).1
      have q := hcell r (by omega)
      rw [Deep.add_add] at q
      rw [q]
      exact hu
    haveI : Inhabited VC := ⟨VC.zero⟩
    obtain ⟨f, hf⟩ := Deep.choose_lt each
    refine ⟨(List.range len).map f, ⟨by simp [length_vcC], Or.inr ⟨ad, _, by rw [List.length_map, List.length_range], by rw [List.length_map, List.length_range]; exact hl, hm, fun j u hj => ?_⟩⟩, fun x hx => ?_⟩
    · have hjl := (List.getElem?_eq_some_iff.mp hj).1
      rw [length_vcC, List.length_map, List.length_range] at hjl
      have hi : j / 5 < len := by omega
      have e := vcC_at ((List.range len).map f) (j / 5) (j % 5) (f (j / 5)) (by simp [hi]) (Nat.mod_lt _ (by omega))
      have hdm : j / 5 * 5 + j % 5 = j := by omega
      rw [hdm] at e
      rw [e] at hj
      have := (hf (j / 5) hi).2 (j % 5) u hj
      rwa [hdm] at this
    · simp only [List.mem_map, List.mem_range] at hx
      obtain ⟨i, hi, rfl⟩ := hx
      exact (hf i hi).1
end
end Go.Proofs.Ytcmkhhdjhemmbaa
