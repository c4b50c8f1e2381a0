/- Arguments: a list of bytes that came in, a list of calls that came in. -/
import Derived.Test.YtcpagamkpmmgpaaDoorReader
import Derived.Deep.Slices
import Derived.SizedLaws
import Derived.OpenShut
namespace Go.Proofs.YtcpagamkpmmgpaaDoor
open Go.RowKit Go.ChangeShapes Go.WideShapes Go.ChangeAt
set_option linter.unusedVariables false
set_option maxRecDepth 100000

/-- A slice that came in reads as rs; of the address of one without cells nothing is known. -/
def ArgAt (w : World) (v : Value) (rs : List Int) : Prop :=
  (v = .slice none 0 0 ∧ rs = []) ∨ ∃ ad c, v = .slice (some ad) rs.length c ∧ rs.length ≤ c ∧ c ≤ maxLen ∧ ∀ j u, (bytesOf rs)[j]? = some u → w.cell? (ad.add j) = some u

theorem RowAt.arg {w : World} {v : Value} {rs : List Int} (h : RowAt w v rs) : ArgAt w v rs := by
  rcases h with h | ⟨g, off, c, rfl, h1, h2, h3⟩
  · exact Or.inl h
  · exact Or.inr ⟨_, c, rfl, h1, h2, fun j u hj => by rw [add_plain]; exact h3 j u hj⟩
theorem ArgAt.form {w : World} {v : Value} {rs : List Int} (h : ArgAt w v rs) : ∃ a c, v = .slice a rs.length c ∧ rs.length ≤ maxLen := by
  rcases h with ⟨rfl, rfl⟩ | ⟨ad, c, rfl, h1, h2, h3⟩
  · exact ⟨_, _, rfl, Nat.zero_le _⟩
  · exact ⟨_, _, rfl, Nat.le_trans h1 h2⟩
theorem ArgAt.row {w : World} {v : Value} {rs : List Int} (h : ArgAt w v rs) (hp : 0 < rs.length) : RowAt w v rs := by
  rcases h with ⟨rfl, rfl⟩ | ⟨ad, c, rfl, h1, h2, h3⟩
  · exact Or.inl ⟨rfl, rfl⟩
  · obtain ⟨g, off, spot⟩ := ad
    have hc := h3 0 (.int .u8 rs[0]) (by simp [bytesOf, hp])
    have hspot : spot = none := by simpa [Addr.add] using World.cell?_spot hc
    subst hspot
    exact Or.inr ⟨g, off, c, rfl, h1, h2, fun j u hj => by have := h3 j u hj; rwa [add_plain] at this⟩
theorem add_block (ad : Addr) (j : Nat) : (ad.add j).block = ad.block := by by_cases h : j = 0 <;> simp [Addr.add, h]
theorem ArgAt.keep {F : Nat → Prop} {w w' : World} {v : Value} {rs : List Int} (h : ArgAt w v rs) (t : Touch F w w') (hF : ∀ k, k < w.heap.size → ¬ F k) : ArgAt w' v rs := by
  rcases h with h | ⟨ad, c, rfl, h1, h2, h3⟩
  · exact Or.inl h
  · refine Or.inr ⟨ad, c, rfl, h1, h2, fun j u hj => ?_⟩
    have hc := h3 j u hj
    exact (t.cell (lt_of_cellA hc) (hF _ (lt_of_cellA hc))).trans hc

section
variable {H : Type} {enc : TypeId × Value → H} {w : World} {base : Nat} {held : Bool}

theorem open_bytes {fuel : Nat} {a : Option Addr} {len cap : Nat} {x : DataW H × List MemPlace} (h : DataW.trod enc Tryd.prog w base (fun _ => true) held fuel 22 [.slice a len cap] = some x) :
    ∃ rs : List Int, rs.length = len ∧ ArgAt w (.slice a len cap) rs ∧ (∀ z ∈ rs, 0 ≤ z ∧ z < 256) ∧ (x.1 = .nil ∧ len = 0 ∨ ∃ el sp, x.1 = .slice el sp ∧ el.length = len) := by
  rcases open_ints Tryd.underlying22 Tryd.underlying5 (by kernel_rfl) h with ⟨hcs, hx⟩ | ⟨ad, l, c, zs, hcs, _, hl, hm, hz, hx, hcell, hwz⟩
  · simp at hcs
    obtain ⟨rfl, rfl, rfl⟩ := hcs
    exact ⟨[], rfl, Or.inl ⟨rfl, rfl⟩, by simp, Or.inl ⟨by rw [hx], rfl⟩⟩
  · simp at hcs
    obtain ⟨rfl, rfl, rfl⟩ := hcs
    have hz' : zs.length = cap := by simpa using hz
    have hlen : (zs.take len).length = len := by simp; omega
    refine ⟨zs.take len, hlen, Or.inr ⟨ad, cap, by rw [hlen], by omega, hm, fun j u hj => ?_⟩, fun z hzm => ?_, Or.inr ⟨_, _, by rw [hx], by simp [lits]; omega⟩⟩
    · have hjl : j < len := by
        have := (List.getElem?_eq_some_iff.mp hj).1
        simp [bytesOf] at this
        omega
      have := hcell j (by omega)
      rw [this]
      simp only [bytesOf, List.getElem?_map, List.getElem?_take, if_pos hjl] at hj
      rw [List.getElem?_eq_getElem (by omega)] at hj
      rw [← hj]
      simp [List.getD, show j < zs.length by omega]
    · have := bounds_u8 (hwz z (List.mem_of_mem_take hzm))
      omega

/-- One call that came in. -/
structure OpD where
  what : Int
  n : Int
  pos : Int
  v : Int
  bv : Value
  bs : List Int

structure OpAt (w : World) (g off i : Nat) (o : OpD) : Prop where
  c0 : w.cell? ⟨g, off + i * 5, none⟩ = some (.int .i64 o.what)
  c1 : w.cell? ⟨g, off + i * 5 + 1, none⟩ = some (.int .i64 o.n)
  c2 : w.cell? ⟨g, off + i * 5 + 2, none⟩ = some (.int .i64 o.pos)
  c3 : w.cell? ⟨g, off + i * 5 + 3, none⟩ = some (.int .u32 o.v)
  c4 : w.cell? ⟨g, off + i * 5 + 4, none⟩ = some o.bv
  arg : ArgAt w o.bv o.bs
  byte : ∀ z ∈ o.bs, 0 ≤ z ∧ z < 256
  wn : (Lit.int .i64 o.n).wf = true
  wp : (Lit.int .i64 o.pos).wf = true
  wv : (Lit.int .u32 o.v).wf = true
  small : o.bs.length ≤ 140737488355328

theorem OpAt.keep {F : Nat → Prop} {w w' : World} {g off i : Nat} {o : OpD} (h : OpAt w g off i o) (t : Touch F w w') (hF : ∀ k, k < w.heap.size → ¬ F k) : OpAt w' g off i o := by
  have hl := lt_of_cell h.c0
  exact ⟨(t.cell hl (hF _ hl)).trans h.c0, (t.cell hl (hF _ hl)).trans h.c1, (t.cell hl (hF _ hl)).trans h.c2, (t.cell hl (hF _ hl)).trans h.c3, (t.cell hl (hF _ hl)).trans h.c4, h.arg.keep t hF, h.byte, h.wn, h.wp, h.wv, h.small⟩

theorem weights_all {P : Program} {e : TypeId} : ∀ {l : List (DataW H)} {i : Nat} {d : DataW H}, l[i]? = some d → ∀ n ∈ d.weights P e, n ∈ DataW.weightsAll P e l
  | x :: r, 0, d, h, n, hn => by simp at h; subst h; simp [DataW.weightsAll, hn]
  | x :: r, i + 1, d, h, n, hn => by simp at h; simp only [DataW.weightsAll, List.mem_append]; exact Or.inr (weights_all h n hn)
  | [], i, d, h, n, hn => by simp at h

theorem Tryd.cellsOp : Tryd.prog.cellsOf 58 = 5 := by kernel_rfl
theorem Tryd.cells1 : Tryd.prog.cellsOf 3 = 1 := by kernel_rfl
theorem Tryd.cells2 : Tryd.prog.cellsOf 56 = 1 := by kernel_rfl
theorem Tryd.cells3 : Tryd.prog.cellsOf 22 = 1 := by kernel_rfl
theorem Tryd.bytesOp : Tryd.prog.bytesOf 58 = 56 := by kernel_rfl
theorem Tryd.bytes1 : Tryd.prog.bytesOf 5 = 1 := by kernel_rfl

theorem open_ops {fuel : Nat} {a : Option Addr} {len cap : Nat} {x : DataW H × List MemPlace} (h : DataW.trod enc Tryd.prog w base (fun _ => true) held fuel 23 [.slice a len cap] = some x)
    (hsz : (x.1.weights Tryd.prog 23).all (· ≤ reachBytes) = true) :
    ∃ (g off : Nat) (ops : Nat → OpD), (0 < len → a = some ⟨g, off, none⟩) ∧ len ≤ 140737488355328 ∧ ∀ i, i < len → OpAt w g off i (ops i) := by
  rcases Deep.open_slice Tryd.underlying23 h with ⟨hcs, _⟩ | ⟨ad, l, c, m, n, D, Pl, hcs, _, hl, hm, hmm, hx, hel⟩
  · simp at hcs
    obtain ⟨rfl, rfl, rfl⟩ := hcs
    exact ⟨0, 0, fun _ => ⟨0, 0, 0, 0, undef, []⟩, by simp, by simp, by simp⟩
  · simp at hcs
    obtain ⟨rfl, rfl, rfl⟩ := hcs
    simp at hmm
    subst hmm
    subst hx
    have hreach := List.all_eq_true.1 hsz
    by_cases hl0 : len = 0
    · subst hl0
      exact ⟨0, 0, fun _ => ⟨0, 0, 0, 0, undef, []⟩, by simp, by simp, by simp⟩
    have hlenb : len ≤ 140737488355328 := by
      have := hreach ((((List.range len).map D).length + ((List.range (m - len)).map fun j => D (len + j)).length) * Tryd.prog.bytesOf 58) (by simp [DataW.weights, Tryd.underlying23])
      rw [Tryd.bytesOp] at this
      simp [reachBytes] at this
      omega
    have each : ∀ i, i < len → ∃ o : OpD, w.cell? (ad.add (i * 5)) = some (.int .i64 o.what) ∧ w.cell? (ad.add (i * 5 + 1)) = some (.int .i64 o.n) ∧ w.cell? (ad.add (i * 5 + 2)) = some (.int .i64 o.pos) ∧ w.cell? (ad.add (i * 5 + 3)) = some (.int .u32 o.v) ∧
        w.cell? (ad.add (i * 5 + 4)) = some o.bv ∧ ArgAt w o.bv o.bs ∧ (∀ z ∈ o.bs, 0 ≤ z ∧ z < 256) ∧ (Lit.int .i64 o.n).wf = true ∧ (Lit.int .i64 o.pos).wf = true ∧ (Lit.int .u32 o.v).wf = true ∧ o.bs.length ≤ 140737488355328 := by
      intro i hi
      obtain ⟨cs', h1, h2⟩ := hel i (by omega)
      rw [Tryd.cellsOp] at h1
      obtain ⟨_, hlen, hcell⟩ := World.cells?_some h1
      obtain ⟨xs, k, hk, hxy, _, hxl, hf⟩ := DataW.trod_struct Tryd.underlying58 h2
      match xs, hxl, cs', hlen with
      | [y0, y1, y2, y3, y4], _, [v0, v1, v2, v3, v4], _ =>
        have g0 := hf 0 _ rfl
        have g1 := hf 1 _ rfl
        have g2 := hf 2 _ rfl
        have g3 := hf 3 _ rfl
        have g4 := hf 4 _ rfl
        simp [Tryd.cells1, Tryd.cells2, Tryd.cells3] at g0 g1 g2 g3 g4
        obtain ⟨n0, e0, _, k0⟩ := DataW.trod_int Tryd.underlying3 g0
        obtain ⟨n1, e1, _, k1⟩ := DataW.trod_int Tryd.underlying3 g1
        obtain ⟨n2, e2, _, k2⟩ := DataW.trod_int Tryd.underlying3 g2
        obtain ⟨n3, e3, _, k3⟩ := DataW.trod_int Tryd.underlying56 g3
        simp at e0 e1 e2 e3
        subst e0 e1 e2 e3
        have q0 := hcell 0 (by omega)
        have q1 := hcell 1 (by omega)
        have q2 := hcell 2 (by omega)
        have q3 := hcell 3 (by omega)
        have q4 := hcell 4 (by omega)
        rw [Deep.add_add] at q0 q1 q2 q3 q4
        have hv4 : ∃ a l c, v4 = .slice a l c := by
          rcases open_ints Tryd.underlying22 Tryd.underlying5 (by kernel_rfl) g4 with ⟨hcs, _⟩ | ⟨ad, l, c, zs, hcs, _⟩
          · simp at hcs; exact ⟨_, _, _, hcs⟩
          · simp at hcs; exact ⟨_, _, _, hcs⟩
        obtain ⟨a4, l4, c4, rfl⟩ := hv4
        obtain ⟨rs, hrl, harg, hrb, hd4⟩ := open_bytes g4
        refine ⟨⟨n0, n1, n2, n3, .slice a4 l4 c4, rs⟩, by simpa using q0, by simpa using q1, by simpa using q2, by simpa using q3, by simpa using q4, harg, hrb, k1, k2, k3, ?_⟩
        show rs.length ≤ _
        rcases hd4 with ⟨_, e⟩ | ⟨el, sp, hy4, hel4⟩
        · omega
        · have hDi : D i = .agg [y0.1, y1.1, y2.1, y3.1, y4.1] := by simp only [Prod.mk.injEq] at hxy; simpa using hxy.1
          have hmem : (el.length + sp.length) * Tryd.prog.bytesOf 5 ∈ (D i).weights Tryd.prog 58 := by
            rw [hDi]
            simp only [DataW.weights, Tryd.underlying58]
            refine DataW.weights_mem_each (j := 4) (t := 22) rfl rfl _ ?_
            rw [hy4]
            simp [DataW.weights, Tryd.underlying22]
          have hmem2 : (el.length + sp.length) * Tryd.prog.bytesOf 5 ∈ DataW.weights Tryd.prog 23 (.slice ((List.range len).map D) ((List.range (m - len)).map fun j => D (len + j))) := by
            simp only [DataW.weights, Tryd.underlying23]
            refine List.mem_cons_of_mem _ (List.mem_append_left _ ?_)
            exact weights_all (i := i) (d := D i) (by simp [hi]) _ hmem
          have := hreach _ hmem2
          rw [Tryd.bytes1] at this
          simp [reachBytes] at this
          omega
    obtain ⟨g, off, spot⟩ := ad
    have hspot : spot = none := by
      obtain ⟨o, q0, _⟩ := each 0 (by omega)
      simpa [Addr.add] using World.cell?_spot q0
    subst hspot
    have each' : ∀ i, i < len → ∃ o : OpD, OpAt w g off i o := by
      intro i hi
      obtain ⟨o, q0, q1, q2, q3, q4, r1, r2, r3, r4, r5, r6⟩ := each i hi
      rw [add_plain] at q0 q1 q2 q3 q4
      exact ⟨o, q0, q1, q2, q3, q4, r1, r2, r3, r4, r5, r6⟩
    have : Inhabited OpD := ⟨⟨0, 0, 0, 0, undef, []⟩⟩
    obtain ⟨ops, hops⟩ := Deep.choose_lt each'
    exact ⟨g, off, ops, fun _ => rfl, hlenb, hops⟩
end
end Go.Proofs.YtcpagamkpmmgpaaDoor
