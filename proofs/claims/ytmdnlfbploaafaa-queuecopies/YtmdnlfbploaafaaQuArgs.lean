
/- Rows of calls and of numbers that came in. -/
import Derived.Test.YtmdnlfbploaafaaQuSet
import Derived.ProofKit
import Derived.OpenShut
import Derived.ChangeOld
import Derived.Deep.Slices
import Derived.Deep.Matrix
namespace Go.Proofs.Ytmdnlfbploaafaa
open Go.ChangeShapes Go.WideShapes Go.ChangeAt Go.RowKit
set_option linter.unusedVariables false
set_option maxRecDepth 100000

/-- A call that came in: which, and its entry. -/
structure OpE where
  d : Int
  e : En
def OpE.zero : OpE := ⟨0, En0⟩
structure OpQ (w : World) (g off i : Nat) (o : OpE) : Prop where
  c0 : w.cell? ⟨g, off + i * 4, none⟩ = some (.int .u8 o.d)
  c1 : w.cell? ⟨g, off + i * 4 + 1, none⟩ = some (.int .i64 o.e.a)
  c2 : w.cell? ⟨g, off + i * 4 + 2, none⟩ = some (.int .i64 o.e.r)
  c3 : w.cell? ⟨g, off + i * 4 + 3, none⟩ = some (.int .u64 o.e.k)
  ok : o.e.Ok
  d0 : 0 ≤ o.d
  d1 : o.d < 256
theorem OpQ.keep {w w' : World} {g off i : Nat} {o : OpE} (h : OpQ w g off i o) (t : Touch (fun _ => False) w w') : OpQ w' g off i o := ⟨t.cellN h.c0, t.cellN h.c1, t.cellN h.c2, t.cellN h.c3, h.ok, h.d0, h.d1⟩
/-- A row of calls. -/
structure OpsAt (w : World) (v : Value) (os : List OpE) : Prop where
  out : ∃ g off c, (v = .slice (some ⟨g, off, none⟩) os.length c ∨ (os = [] ∧ ∃ a, v = .slice a 0 c)) ∧ ∀ i, i < os.length → OpQ w g off i (os.getD i OpE.zero)
theorem OpsAt.keep {w w' : World} {v : Value} {os : List OpE} (h : OpsAt w v os) (t : Touch (fun _ => False) w w') : OpsAt w' v os := by
  obtain ⟨g, off, c, hv, hc⟩ := h.out
  exact ⟨g, off, c, hv, fun i hi => (hc i hi).keep t⟩
theorem OpsAt.form {w : World} {v : Value} {os : List OpE} (h : OpsAt w v os) : ∃ a c, v = .slice a os.length c := by
  obtain ⟨g, off, c, hv | ⟨rfl, a, hv⟩, hc⟩ := h.out
  · exact ⟨_, _, hv⟩
  · exact ⟨a, c, hv⟩
theorem OpsAt.at {w : World} {v : Value} {os : List OpE} (h : OpsAt w v os) (hl : 0 < os.length) : ∃ g off c, v = .slice (some ⟨g, off, none⟩) os.length c ∧ ∀ i, i < os.length → OpQ w g off i (os.getD i OpE.zero) := by
  obtain ⟨g, off, c, hv | ⟨rfl, a, hv⟩, hc⟩ := h.out
  · exact ⟨g, off, c, hv, hc⟩
  · simp at hl
theorem add_plainq (g off j : Nat) : (⟨g, off, none⟩ : Addr).add j = ⟨g, off + j, none⟩ := by by_cases h : j = 0 <;> simp [Addr.add, h]

/-- A row of small numbers. -/
structure NumsAt (w : World) (v : Value) (ns : List Int) : Prop where
  out : ∃ g off c, (v = .slice (some ⟨g, off, none⟩) ns.length c ∨ (ns = [] ∧ ∃ a, v = .slice a 0 c)) ∧ ∀ i, i < ns.length → w.cell? ⟨g, off + i, none⟩ = some (.int .u16 (ns.getD i 0))
  rng : ∀ i, 0 ≤ ns.getD i 0 ∧ ns.getD i 0 < 65536
theorem NumsAt.keep {w w' : World} {v : Value} {ns : List Int} (h : NumsAt w v ns) (t : Touch (fun _ => False) w w') : NumsAt w' v ns := by
  obtain ⟨⟨g, off, c, hv, hc⟩, r⟩ := h
  exact ⟨⟨g, off, c, hv, fun i hi => t.cellN (hc i hi)⟩, r⟩
theorem NumsAt.form {w : World} {v : Value} {ns : List Int} (h : NumsAt w v ns) : ∃ a c, v = .slice a ns.length c := by
  obtain ⟨⟨g, off, c, hv | ⟨rfl, a, hv⟩, hc⟩, r⟩ := h
  · exact ⟨_, _, hv⟩
  · exact ⟨a, c, hv⟩
theorem NumsAt.at {w : World} {v : Value} {ns : List Int} (h : NumsAt w v ns) (hl : 0 < ns.length) : ∃ g off c, v = .slice (some ⟨g, off, none⟩) ns.length c ∧ ∀ i, i < ns.length → w.cell? ⟨g, off + i, none⟩ = some (.int .u16 (ns.getD i 0)) := by
  obtain ⟨⟨g, off, c, hv | ⟨rfl, a, hv⟩, hc⟩, r⟩ := h
  · exact ⟨g, off, c, hv, hc⟩
  · simp at hl

section
variable {H : Type} {enc : TypeId × Value → H} {w : World} {base : Nat} {held : Bool}
theorem open_opsq {a : Option Addr} {len cap : Nat} {d : DataW H} {p : List MemPlace} (hd : DataW.Trod enc Try.prog w base (fun _ => true) held 22 (.slice a len cap) d p) :
    ∃ os : List OpE, OpsAt w (.slice a len cap) os := by
  obtain ⟨fuel, hf⟩ := hd
  have h : DataW.trod enc Try.prog w base (fun _ => true) held fuel 22 [.slice a len cap] = some (d, p) := by simpa [Value.cells] using hf
  have hcl : Try.prog.cellsOf 34 = 4 := by kernel_rfl
  have hc8 : Try.prog.cellsOf 5 = 1 := by kernel_rfl
  have hci : Try.prog.cellsOf 3 = 1 := by kernel_rfl
  have hcu : Try.prog.cellsOf 32 = 1 := by kernel_rfl
  rcases Deep.open_slice Try.underlying22 h with ⟨hcs, _⟩ | ⟨ad, l, c, m, n, D, Pl, hcs, _, hl, hm, hmm, hx, hel⟩
  · simp at hcs
    obtain ⟨rfl, rfl, rfl⟩ := hcs
    exact ⟨[], ⟨0, 0, 0, Or.inr ⟨rfl, none, rfl⟩, fun i hi => by simp at hi⟩⟩
  · simp at hcs
    obtain ⟨rfl, rfl, rfl⟩ := hcs
    simp at hmm
    subst hmm
    by_cases hl0 : len = 0
    · subst hl0
      exact ⟨[], ⟨0, 0, _, Or.inr ⟨rfl, some ad, rfl⟩, fun i hi => by simp at hi⟩⟩
    have each : ∀ i, i < len → ∃ o : OpE, w.cell? (ad.add (i * 4)) = some (.int .u8 o.d) ∧ w.cell? (ad.add (i * 4 + 1)) = some (.int .i64 o.e.a) ∧ w.cell? (ad.add (i * 4 + 2)) = some (.int .i64 o.e.r) ∧ w.cell? (ad.add (i * 4 + 3)) = some (.int .u64 o.e.k) ∧ o.e.Ok ∧ 0 ≤ o.d ∧ o.d < 256 := by
      intro i hi
      obtain ⟨cs', h1, h2⟩ := hel i (by omega)
      rw [hcl] at h1
      obtain ⟨_, hlen, hcell⟩ := World.cells?_some h1
      obtain ⟨xs, k, hk, hxy, _, hxl, hf⟩ := DataW.trod_struct Try.underlying34 h2
      match xs, hxl, cs', hlen with
      | [y0, y1, y2, y3], _, [v0, v1, v2, v3], _ =>
        have g0 := hf 0 _ rfl
        have g1 := hf 1 _ rfl
        have g2 := hf 2 _ rfl
        have g3 := hf 3 _ rfl
        simp [hc8, hci, hcu] at g0 g1 g2 g3
        obtain ⟨n0, e0, _, k0⟩ := DataW.trod_int Try.underlying5 g0
        obtain ⟨n1, e1, _, k1⟩ := DataW.trod_int Try.underlying3 g1
        obtain ⟨n2, e2, _, k2⟩ := DataW.trod_int Try.underlying3 g2
        obtain ⟨n3, e3, _, k3⟩ := DataW.trod_int Try.underlying32 g3
        simp at e0 e1 e2 e3
        subst e0 e1 e2 e3
        have q0 := hcell 0 (by omega)
        have q1 := hcell 1 (by omega)
        have q2 := hcell 2 (by omega)
        have q3 := hcell 3 (by omega)
        rw [Deep.add_add] at q0 q1 q2 q3
        have b0 := bounds_u8 k0
        have b1 := bounds_i64 k1
        have b2 := bounds_i64 k2
        have b3 := bounds_u64 k3
        refine ⟨⟨n0, ⟨n1, n2, n3⟩⟩, by simpa using q0, by simpa using q1, by simpa using q2, by simpa using q3, ⟨?_, ?_, ?_, ?_, ?_, ?_⟩, ?_, ?_⟩ <;> simp only [] <;> omega
    obtain ⟨g, off, spot⟩ := ad
    have hspot : spot = none := by
      obtain ⟨o, q0, _⟩ := each 0 (by omega)
      simpa [Addr.add] using World.cell?_spot q0
    subst hspot
    haveI : Inhabited OpE := ⟨OpE.zero⟩
    obtain ⟨f, hf⟩ := Deep.choose_lt each
    refine ⟨(List.range len).map f, ⟨g, off, _, Or.inl (by rw [List.length_map, List.length_range]), fun i hi => ?_⟩⟩
    simp at hi
    have e : ((List.range len).map f).getD i OpE.zero = f i := by simp [List.getD, hi]
    rw [e]
    obtain ⟨q0, q1, q2, q3, r1, r2, r3⟩ := hf i hi
    rw [add_plainq] at q0 q1 q2 q3
    exact ⟨q0, q1, q2, q3, r1, r2, r3⟩
theorem open_numsq {a : Option Addr} {len cap : Nat} {d : DataW H} {p : List MemPlace} (hd : DataW.Trod enc Try.prog w base (fun _ => true) held 45 (.slice a len cap) d p) :
    ∃ ns : List Int, NumsAt w (.slice a len cap) ns := by
  obtain ⟨fuel, hf⟩ := hd
  have h : DataW.trod enc Try.prog w base (fun _ => true) held fuel 45 [.slice a len cap] = some (d, p) := by simpa [Value.cells] using hf
  have hcl : Try.prog.cellsOf 47 = 1 := by kernel_rfl
  rcases Deep.open_slice Try.underlying45 h with ⟨hcs, _⟩ | ⟨ad, l, c, m, n, D, Pl, hcs, _, hl, hm, hmm, hx, hel⟩
  · simp at hcs
    obtain ⟨rfl, rfl, rfl⟩ := hcs
    exact ⟨[], ⟨0, 0, 0, Or.inr ⟨rfl, none, rfl⟩, fun i hi => by simp at hi⟩, fun i => by simp⟩
  · simp at hcs
    obtain ⟨rfl, rfl, rfl⟩ := hcs
    simp at hmm
    subst hmm
    by_cases hl0 : len = 0
    · subst hl0
      exact ⟨[], ⟨0, 0, _, Or.inr ⟨rfl, some ad, rfl⟩, fun i hi => by simp at hi⟩, fun i => by simp⟩
    have each : ∀ i, i < len → ∃ x : Int, w.cell? (ad.add i) = some (.int .u16 x) ∧ 0 ≤ x ∧ x < 65536 := by
      intro i hi
      obtain ⟨cs', h1, h2⟩ := hel i (by omega)
      rw [hcl] at h1
      obtain ⟨_, hlen, hcell⟩ := World.cells?_some h1
      match cs', hlen with
      | [v0], _ =>
        obtain ⟨n0, e0, _, k0⟩ := DataW.trod_int Try.underlying47 h2
        simp at e0
        subst e0
        have q0 := hcell 0 (by omega)
        rw [Deep.add_add] at q0
        have b0 := bounds_u16 k0
        exact ⟨n0, by simpa using q0, by omega, by omega⟩
    obtain ⟨g, off, spot⟩ := ad
    have hspot : spot = none := by
      obtain ⟨o, q0, _⟩ := each 0 (by omega)
      simpa [Addr.add] using World.cell?_spot q0
    subst hspot
    obtain ⟨f, hf⟩ := Deep.choose_lt each
    have e : ∀ i, i < len → ((List.range len).map f).getD i 0 = f i := fun i hi => by simp [List.getD, hi]
    refine ⟨(List.range len).map f, ⟨g, off, _, Or.inl (by rw [List.length_map, List.length_range]), fun i hi => ?_⟩, fun i => ?_⟩
    · simp at hi
      rw [e i hi]
      have := (hf i hi).1
      rwa [add_plainq] at this
    · by_cases hi : i < len
      · rw [e i hi]; exact (hf i hi).2
      · have : ((List.range len).map f).getD i 0 = 0 := by simp [List.getD, hi]
        rw [this]
        omega
end
end Go.Proofs.Ytmdnlfbploaafaa
