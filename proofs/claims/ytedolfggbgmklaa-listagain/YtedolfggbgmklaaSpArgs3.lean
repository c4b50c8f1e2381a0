
/- Rows of states and of truth values that came in. -/
import Derived.Test.YtedolfggbgmklaaSpArgs
import Derived.Test.YtedolfggbgmklaaArgB
import Derived.ProofKit
import Derived.OpenShut
import Derived.ChangeOld
import Derived.Deep.Slices
import Derived.Deep.Matrix
namespace Go.Proofs.Ytedolfggbgmklaa
open Go.ChangeShapes Go.WideShapes Go.ChangeAt Go.RowKit
set_option linter.unusedVariables false
set_option maxRecDepth 100000

/-- A state that came in: its head, its body, the body's bytes. -/
structure SB where
  h : HV
  v : Value
  rs : List Int
def SB.cells (x : SB) : List Value := x.h.c8 ++ [x.v]
structure SB.Ok (w : World) (x : SB) : Prop where
  al : x.h.Al
  arg : ArgAt w x.v x.rs
/-- v is the row of these states. -/
structure SbsAt (w : World) (v : Value) (l : List SB) : Prop where
  at_ : ((∃ a c, v = .slice a 0 c) ∧ l = []) ∨ ∃ g off c, v = .slice (some ⟨g, off, none⟩) l.length c ∧ l.length ≤ c ∧ c ≤ maxLen ∧ ∀ j x, l[j]? = some x → ∀ i u, x.cells[i]? = some u → w.cell? ⟨g, off + (j * 9 + i), none⟩ = some u
  ok : ∀ x ∈ l, x.Ok w
theorem SB.Ok.keep {w w' : World} {x : SB} (h : x.Ok w) (t : Touch (fun _ => False) w w') : x.Ok w' := ⟨h.al, h.arg.keep t (fun _ _ f => f)⟩
theorem SbsAt.keep {w w' : World} {v : Value} {l : List SB} (h : SbsAt w v l) (t : Touch (fun _ => False) w w') : SbsAt w' v l := by
  refine ⟨?_, fun x hx => (h.ok x hx).keep t⟩
  rcases h.at_ with h | ⟨g, off, c, h1, h2, h3, h4⟩
  · exact Or.inl h
  · exact Or.inr ⟨g, off, c, h1, h2, h3, fun j x hj i u hu => t.cellN (h4 j x hj i u hu)⟩
theorem SbsAt.form {w : World} {v : Value} {l : List SB} (h : SbsAt w v l) : ∃ a c, v = .slice a l.length c := by
  rcases h.at_ with ⟨⟨a, c, e⟩, rfl⟩ | ⟨g, off, c, h1, _⟩
  · exact ⟨a, c, e⟩
  · exact ⟨_, _, h1⟩
theorem SbsAt.one {w : World} {a : Option Addr} {n c : Nat} {l : List SB} (h : SbsAt w (.slice a n c) l) {j : Nat} {x : SB} (hj : l[j]? = some x) : x.Ok w ∧ ∃ g off, a = some ⟨g, off, none⟩ ∧ ∀ i u, x.cells[i]? = some u → w.cell? ⟨g, off + (j * 9 + i), none⟩ = some u := by
  refine ⟨h.ok x (List.mem_of_getElem? hj), ?_⟩
  rcases h.at_ with ⟨_, rfl⟩ | ⟨g, off, c', h1, _, _, h4⟩
  · simp at hj
  · injection h1 with e1 e2 e3
    exact ⟨g, off, e1, fun i u hu => h4 j x hj i u hu⟩
/-- v is the row of these truth values. -/
def BlsAt (w : World) (v : Value) (l : List Bool) : Prop := ((∃ a c, v = .slice a 0 c) ∧ l = []) ∨ ∃ g off c, v = .slice (some ⟨g, off, none⟩) l.length c ∧ ∀ j b, l[j]? = some b → w.cell? ⟨g, off + j, none⟩ = some (.bool b)
theorem BlsAt.keep {w w' : World} {v : Value} {l : List Bool} (h : BlsAt w v l) (t : Touch (fun _ => False) w w') : BlsAt w' v l := by
  rcases h with h | ⟨g, off, c, h1, h2⟩
  · exact Or.inl h
  · exact Or.inr ⟨g, off, c, h1, fun j b hj => t.cellN (h2 j b hj)⟩
theorem BlsAt.form {w : World} {v : Value} {l : List Bool} (h : BlsAt w v l) : ∃ a c, v = .slice a l.length c := by
  rcases h with ⟨⟨a, c, e⟩, rfl⟩ | ⟨g, off, c, h1, _⟩
  · exact ⟨a, c, e⟩
  · exact ⟨_, _, h1⟩
theorem BlsAt.one {w : World} {a : Option Addr} {n c : Nat} {l : List Bool} (h : BlsAt w (.slice a n c) l) {j : Nat} {b : Bool} (hj : l[j]? = some b) : ∃ g off, a = some ⟨g, off, none⟩ ∧ w.cell? ⟨g, off + j, none⟩ = some (.bool b) := by
  rcases h with ⟨_, rfl⟩ | ⟨g, off, c', h1, h4⟩
  · simp at hj
  · injection h1 with e1 e2 e3
    exact ⟨g, off, e1, h4 j b hj⟩
section
variable {H : Type} {enc : TypeId × Value → H} {w : World} {base : Nat} {held : Bool}
theorem open_sb_c {fuel : Nat} {cs : List Value} {x : DataW H × List MemPlace} (h : DataW.trod enc Try.prog w base (fun _ => true) held fuel 53 cs = some x) : ∃ s : SB, cs = s.cells ∧ s.Ok w := by
  have hl := sp_len Try.underlying53 h
  have hc : Try.prog.cellsOf 53 = 9 := by kernel_rfl
  rw [hc] at hl
  obtain ⟨m0, y0, a0⟩ := sp_field Try.underlying53 h 0 _ rfl 0 8 rfl (by kernel_rfl)
  obtain ⟨m1, y1, a1⟩ := sp_field Try.underlying53 h 1 _ rfl 8 1 rfl (by kernel_rfl)
  obtain ⟨hv, e0, ok0⟩ := open_head_c a0
  have hb : ∃ a len cap rs, (cs.drop 8).take 1 = [.slice a len cap] ∧ ArgAt w (.slice a len cap) rs := by
    have hs : ∃ a len cap, (cs.drop 8).take 1 = [.slice a len cap] := by
      rcases open_ints Try.underlying51 Try.underlying5 (by kernel_rfl) a1 with ⟨hcs, _⟩ | ⟨ad, l, c, zs, hcs, _⟩
      · exact ⟨_, _, _, hcs⟩
      · exact ⟨_, _, _, hcs⟩
    obtain ⟨a, len, cap, e⟩ := hs
    rw [e] at a1
    obtain ⟨rs, h1, h2, h3, _⟩ := open_bytes a1
    exact ⟨a, len, cap, rs, e, h2⟩
  obtain ⟨ba, bl, bc, rs, eb, harg⟩ := hb
  refine ⟨⟨hv, .slice ba bl bc, rs⟩, ?_, ok0, harg⟩
  match cs, hl with
  | [c0, c1, c2, c3, c4, c5, c6, c7, c8], _ =>
    simp only [HV.c8, List.drop, List.take, List.cons.injEq, and_true] at e0 eb
    obtain ⟨rfl, rfl, rfl, rfl, rfl, rfl, rfl, rfl⟩ := e0
    subst eb
    rfl
theorem open_sbs {a : Option Addr} {len cap : Nat} {d : DataW H} {p : List MemPlace} (hd : DataW.Trod enc Try.prog w base (fun _ => true) held 45 (.slice a len cap) d p) :
    ∃ ls : List SB, SbsAt w (.slice a len cap) ls := by
  obtain ⟨fuel, hf⟩ := hd
  have h : DataW.trod enc Try.prog w base (fun _ => true) held fuel 45 [.slice a len cap] = some (d, p) := by simpa [Value.cells] using hf
  have hcl : Try.prog.cellsOf 53 = 9 := by kernel_rfl
  rcases Deep.open_slice Try.underlying45 h with ⟨hcs, _⟩ | ⟨ad, l, c, m, n, D, Pl, hcs, _, hl, hm, hmm, hx, hel⟩
  · simp at hcs
    obtain ⟨rfl, rfl, rfl⟩ := hcs
    exact ⟨[], Or.inl ⟨⟨_, _, rfl⟩, rfl⟩, by simp⟩
  · simp at hcs
    obtain ⟨rfl, rfl, rfl⟩ := hcs
    simp at hmm
    subst hmm
    have each : ∀ i, i < len → ∃ s : SB, s.Ok w ∧ ∀ r u, s.cells[r]? = some u → w.cell? (ad.add (i * 9 + r)) = some u := by
      intro i hi
      obtain ⟨cs', h1, h2⟩ := hel i (by omega)
      rw [hcl] at h1
      obtain ⟨_, hlen, hcell⟩ := World.cells?_some h1
      obtain ⟨s, rfl, ok⟩ := open_sb_c h2
      refine ⟨s, ok, fun r u hu => ?_⟩
      have hr : r < 9 := (List.getElem?_eq_some_iff.mp hu).1
      have q := hcell r (by omega)
      rw [Deep.add_add] at q
      rw [q]
      exact hu
    haveI : Inhabited SB := ⟨⟨⟨0, 0, 0, 0, 0, 0, 0, 0⟩, .slice none 0 0, []⟩⟩
    obtain ⟨f, hf⟩ := Deep.choose_lt each
    cases len with
    | zero => exact ⟨[], Or.inl ⟨⟨_, _, rfl⟩, rfl⟩, by simp⟩
    | succ len =>
      obtain ⟨g, off, spot⟩ := ad
      have hc0 := (hf 0 (by omega)).2 0 (.int .u16 (f 0).h.age) rfl
      have hspot : spot = none := by simpa [Addr.add] using World.cell?_spot hc0
      subst hspot
      refine ⟨(List.range (len + 1)).map f, Or.inr ⟨g, off, _, by rw [List.length_map, List.length_range], by rw [List.length_map, List.length_range]; exact hl, hm, fun j x hj i u hu => ?_⟩, fun x hx => ?_⟩
      · have hjl : j < len + 1 := by have := (List.getElem?_eq_some_iff.mp hj).1; simpa using this
        have ex : f j = x := by simpa [List.getElem?_map, List.getElem?_range hjl] using hj
        subst ex
        have := (hf j hjl).2 i u hu
        rwa [add_plain] at this
      · simp only [List.mem_map, List.mem_range] at hx
        obtain ⟨i, hi, rfl⟩ := hx
        exact (hf i hi).1
theorem open_bls {a : Option Addr} {len cap : Nat} {d : DataW H} {p : List MemPlace} (hd : DataW.Trod enc Try.prog w base (fun _ => true) held 46 (.slice a len cap) d p) :
    ∃ ls : List Bool, BlsAt w (.slice a len cap) ls := by
  obtain ⟨fuel, hf⟩ := hd
  have h : DataW.trod enc Try.prog w base (fun _ => true) held fuel 46 [.slice a len cap] = some (d, p) := by simpa [Value.cells] using hf
  have hcl : Try.prog.cellsOf 4 = 1 := by kernel_rfl
  rcases Deep.open_slice Try.underlying46 h with ⟨hcs, _⟩ | ⟨ad, l, c, m, n, D, Pl, hcs, _, hl, hm, hmm, hx, hel⟩
  · simp at hcs
    obtain ⟨rfl, rfl, rfl⟩ := hcs
    exact ⟨[], Or.inl ⟨⟨_, _, rfl⟩, rfl⟩⟩
  · simp at hcs
    obtain ⟨rfl, rfl, rfl⟩ := hcs
    simp at hmm
    subst hmm
    have each : ∀ i, i < len → ∃ b : Bool, w.cell? (ad.add i) = some (.bool b) := by
      intro i hi
      obtain ⟨cs', h1, h2⟩ := hel i (by omega)
      rw [hcl] at h1
      obtain ⟨_, hlen, hcell⟩ := World.cells?_some h1
      obtain ⟨b, rfl, _⟩ := DataW.trod_bool Try.underlying4 h2
      refine ⟨b, ?_⟩
      have q := hcell 0 (by omega)
      rw [Deep.add_add] at q
      simpa using q
    obtain ⟨f, hf⟩ := Deep.choose_lt each
    cases len with
    | zero => exact ⟨[], Or.inl ⟨⟨_, _, rfl⟩, rfl⟩⟩
    | succ len =>
      obtain ⟨g, off, spot⟩ := ad
      have hc0 := hf 0 (by omega)
      have hspot : spot = none := by simpa [Addr.add] using World.cell?_spot hc0
      subst hspot
      refine ⟨(List.range (len + 1)).map f, Or.inr ⟨g, off, _, by rw [List.length_map, List.length_range], fun j x hj => ?_⟩⟩
      have hjl : j < len + 1 := by have := (List.getElem?_eq_some_iff.mp hj).1; simpa using this
      have ex : f j = x := by simpa [List.getElem?_map, List.getElem?_range hjl] using hj
      subst ex
      have := hf j hjl
      rwa [add_plain] at this
end
end Go.Proofs.Ytedolfggbgmklaa
