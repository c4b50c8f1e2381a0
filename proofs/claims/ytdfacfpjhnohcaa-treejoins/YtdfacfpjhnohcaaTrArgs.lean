
/- A row of nodes that came in, with its sizes. -/
import Derived.Test.YtdfacfpjhnohcaaTrAr
import Derived.SizedLaws
import Derived.ProofKit
import Derived.OpenShut
import Derived.ChangeOld
import Derived.Deep.Slices
import Derived.Deep.Matrix
namespace Go.Proofs.Ytdfacfpjhnohcaa
open Go.ChangeShapes Go.WideShapes Go.ChangeAt Go.RowKit
set_option linter.unusedVariables false
set_option maxRecDepth 100000

section
variable {H : Type} {enc : TypeId × Value → H} {w : World} {base : Nat} {held : Bool}
/-- One cell of a struct of numbers. -/
theorem flat_at {sp : Nat → Bool} {fuel : Nat} {t : TypeId} {fs : Array Field} {cs : List Value} {x : DataW H × List MemPlace} (ht : Try.prog.underlying t = some (.struct fs)) (h : DataW.trod enc Try.prog w base sp held fuel t cs = some x)
    (i : Nat) (f : Field) (hf : fs[i]? = some f) (o : Nat) (ho : f.offset = o) (k : IntKind) (hk : Try.prog.underlying f.type = some (.int k)) (hc : Try.prog.cellsOf f.type = 1) : ∃ n, (cs.drop o).take 1 = [.int k n] ∧ (Lit.int k n).wf = true := by
  obtain ⟨xs, m, _, _, _, hlen, hall⟩ := DataW.trod_struct ht h
  have hi : i < xs.length := by
    have := (Array.getElem?_eq_some_iff.mp hf).1
    omega
  have := hall i f hf
  rw [ho, hc, List.getElem?_eq_getElem hi] at this
  obtain ⟨n, e, _, wf⟩ := DataW.trod_int hk this
  exact ⟨n, e, wf⟩
theorem len_of {sp : Nat → Bool} {fuel : Nat} {t : TypeId} {fs : Array Field} {cs : List Value} {x : DataW H × List MemPlace} (ht : Try.prog.underlying t = some (.struct fs)) (h : DataW.trod enc Try.prog w base sp held fuel t cs = some x) : cs.length = Try.prog.cellsOf t := by
  obtain ⟨xs, m, _, _, hl, _⟩ := DataW.trod_struct ht h
  exact hl
/-- No row in it is larger than memory is. -/
def LightG (t : TypeId) (d : DataW H) : Prop := ∀ n ∈ d.weights Try.prog t, n ≤ 140737488355328
theorem field_lightG {sp : Nat → Bool} {fuel : Nat} {t : TypeId} {fs : Array Field} {cs : List Value} {x : DataW H × List MemPlace} (ht : Try.prog.underlying t = some (.struct fs)) (h : DataW.trod enc Try.prog w base sp held fuel t cs = some x) (hL : LightG t x.1)
    (i : Nat) (f : Field) (hf : fs[i]? = some f) (o n : Nat) (ho : f.offset = o) (hc : Try.prog.cellsOf f.type = n) : ∃ m y, DataW.trod enc Try.prog w base sp held m f.type ((cs.drop o).take n) = some y ∧ LightG f.type y.1 := by
  obtain ⟨xs, m, _, hx, _, hlen, hall⟩ := DataW.trod_struct ht h
  have hi : i < xs.length := by
    have := (Array.getElem?_eq_some_iff.mp hf).1
    omega
  have h1 := hall i f hf
  rw [ho, hc, List.getElem?_eq_getElem hi] at h1
  refine ⟨m, _, h1, fun n hn => hL n ?_⟩
  rw [hx]
  simp only [DataW.weights, ht]
  exact DataW.weights_mem_each (j := i) (t := f.type) (d := xs[i].1) (by simp [hf]) (by simp [hi]) n hn
theorem slice_lightG {t e : TypeId} {fuel : Nat} {cs : List Value} {x : DataW H × List MemPlace} (ht : Try.prog.underlying t = some (.slice e)) (he : 0 < Try.prog.bytesOf e) (h : DataW.trod enc Try.prog w base (fun _ => true) held fuel t cs = some x) (hL : LightG t x.1) :
    ∀ a len cap, cs = [.slice a len cap] → len ≤ 140737488355328 := by
  intro a len cap hcs
  rcases Deep.open_slice ht h with ⟨h0, _⟩ | ⟨ad, l, c, m, n, D, Pl, h0, _, hl, hm, hmm, hx, hel⟩
  · rw [hcs] at h0
    simp at h0
    omega
  · rw [hcs] at h0
    simp at h0
    obtain ⟨-, rfl, -⟩ := h0
    have := hL ((len + (m - len)) * Try.prog.bytesOf e) (by rw [hx]; simp [DataW.weights, ht])
    have h2 : len * 1 ≤ (len + (m - len)) * Try.prog.bytesOf e := Nat.mul_le_mul (by omega) he
    omega
theorem elem_lightG {t e : TypeId} {l k : Nat} {D : Nat → DataW H} {x : DataW H × List MemPlace} {q : List (DataW H)} {p : List MemPlace} (ht : Try.prog.underlying t = some (.slice e)) (hx : x = (.slice ((List.range l).map D) q, p)) (hL : LightG t x.1) (i : Nat) (hi : i < l) : LightG e (D i) := by
  intro n hn
  refine hL n ?_
  rw [hx]
  simp only [DataW.weights, ht, List.mem_cons, List.mem_append]
  refine Or.inr (Or.inl ?_)
  have G : ∀ (ds : List (DataW H)) (d : DataW H), d ∈ ds → n ∈ d.weights Try.prog e → n ∈ DataW.weightsAll Try.prog e ds := by
    intro ds
    induction ds with
    | nil => intro d hd; cases hd
    | cons a r ih =>
      intro d hd hn
      simp only [DataW.weightsAll, List.mem_append]
      rcases List.mem_cons.mp hd with rfl | hd
      · exact Or.inl hn
      · exact Or.inr (ih d hd hn)
  exact G _ (D i) (by simp only [List.mem_map, List.mem_range]; exact ⟨i, hi, rfl⟩) hn

/-- A row of elements of k cells, at any place. -/
def RwAt {α : Type} (cs : α → List Value) (k : Nat) (w : World) (a : Option Addr) (l : List α) : Prop := l = [] ∨ ∃ g o, a = some ⟨g, o, none⟩ ∧ ∀ i x, l[i]? = some x → ∀ d u, (cs x)[d]? = some u → w.cell? ⟨g, o + i * k + d, none⟩ = some u
/-- A row is opened, each element by a lemma of its own. -/
theorem open_row {α : Type} [Inhabited α] {cs : α → List Value} {k : Nat} (hk0 : 0 < k) (hk : ∀ x, (cs x).length = k) {P : α → Prop} {t e : TypeId} (ht : Try.prog.underlying t = some (.slice e)) (he : 0 < Try.prog.bytesOf e) (hcl : Try.prog.cellsOf e = k)
    (each : ∀ {fuel : Nat} {c : List Value} {x : DataW H × List MemPlace}, DataW.trod enc Try.prog w base (fun _ => true) held fuel e c = some x → LightG e x.1 → ∃ y : α, c = cs y ∧ P y)
    {fuel : Nat} {c : List Value} {x : DataW H × List MemPlace} (h : DataW.trod enc Try.prog w base (fun _ => true) held fuel t c = some x) (hL : LightG t x.1) :
    ∃ a cap l, c = [.slice a (List.length l) cap] ∧ RwAt cs k w a l ∧ (∀ y ∈ l, P y) ∧ l.length ≤ 140737488355328 := by
  have hz := slice_lightG ht he h hL
  rcases Deep.open_slice ht h with ⟨hcs, _⟩ | ⟨ad, l, cp, m, n, D, Pl, hcs, _, hl, hm, hmm, hx, hel⟩
  · exact ⟨none, 0, [], hcs, Or.inl rfl, by simp, by simp⟩
  · simp at hmm
    subst hmm
    have each' : ∀ i, i < l → ∃ s : α, P s ∧ ∀ r u, (cs s)[r]? = some u → w.cell? (ad.add (i * k + r)) = some u := by
      intro i hi
      obtain ⟨cs', h1, h2⟩ := hel i (by omega)
      rw [hcl] at h1
      obtain ⟨_, hlen, hcell⟩ := World.cells?_some h1
      obtain ⟨s, rfl, ok⟩ := each h2 (elem_lightG (k := 0) ht hx hL i hi)
      refine ⟨s, ok, fun r u hu => ?_⟩
      have hr : r < k := by rw [← hk s]; exact (List.getElem?_eq_some_iff.mp hu).1
      have q := hcell r (by rw [← hcl] at hr; omega)
      rw [Deep.add_add] at q
      rw [q]
      exact hu
    obtain ⟨f, hf⟩ := Deep.choose_lt each'
    have hln : ((List.range l).map f).length = l := by simp
    refine ⟨some ad, _, (List.range l).map f, by rw [hln]; exact hcs, ?_, fun y hy => ?_, by rw [hln]; exact hz _ _ _ hcs⟩
    · rcases Nat.eq_zero_or_pos l with h0 | h0
      · subst h0; exact Or.inl rfl
      · obtain ⟨g, off, spot⟩ := ad
        obtain ⟨u0, hu0⟩ : ∃ u, (cs (f 0))[0]? = some u := ⟨_, List.getElem?_eq_getElem (by rw [hk]; exact hk0)⟩
        have hc := (hf 0 h0).2 0 u0 hu0
        have hspot : spot = none := by simpa [Addr.add] using World.cell?_spot hc
        subst hspot
        refine Or.inr ⟨g, off, rfl, fun i x hx d u hd => ?_⟩
        have hi : i < l := by have := (List.getElem?_eq_some_iff.mp hx).1; simpa using this
        have e1 : x = f i := by simpa [hi] using hx.symm
        subst e1
        have := (hf i hi).2 d u hd
        rw [add_plain] at this
        rw [Nat.add_assoc]
        exact this
    · simp only [List.mem_map, List.mem_range] at hy
      obtain ⟨i, hi, rfl⟩ := hy
      exact (hf i hi).1

theorem open_edge {fuel : Nat} {cs : List Value} {x : DataW H × List MemPlace} (h : DataW.trod enc Try.prog w base (fun _ => true) held fuel 33 cs = some x) (hL : LightG 33 x.1) : ∃ e : TE, cs = e.cs ∧ ((-9223372036854775808 ≤ e.dst ∧ e.dst ≤ 9223372036854775807) ∧ (0 ≤ e.cost ∧ e.cost ≤ 4294967295) ∧ (0 ≤ e.data ∧ e.data ≤ 4294967295)) := by
  have hl := len_of Try.underlying33 h
  have hc : Try.prog.cellsOf 33 = 4 := by kernel_rfl
  rw [hc] at hl
  obtain ⟨n0, e0, w0⟩ := flat_at Try.underlying33 h 0 _ rfl 0 rfl .i64 Try.underlying3 (by kernel_rfl)
  obtain ⟨n1, e1, w1⟩ := flat_at Try.underlying33 h 1 _ rfl 1 rfl .u32 Try.underlying25 (by kernel_rfl)
  obtain ⟨n2, e2, w2⟩ := flat_at Try.underlying33 h 2 _ rfl 2 rfl .u32 Try.underlying25 (by kernel_rfl)
  obtain ⟨m3, y3, a3, -⟩ := field_lightG Try.underlying33 h hL 3 _ rfl 3 1 rfl (by kernel_rfl)
  obtain ⟨n3, e3, _⟩ := DataW.trod_bool Try.underlying4 a3
  match cs, hl with
  | [c0, c1, c2, c3], _ =>
    simp only [List.drop, List.take, List.cons.injEq, and_true] at e0 e1 e2 e3
    subst e0 e1 e2 e3
    have b0 := bounds_i64 w0
    have b1 := bounds_u32 w1
    have b2 := bounds_u32 w2
    exact ⟨⟨n0, n1, n2, n3⟩, rfl, by dsimp only; omega, by dsimp only; omega, by dsimp only; omega⟩
theorem open_stubs {fuel : Nat} {c : List Value} {x : DataW H × List MemPlace} (h : DataW.trod enc Try.prog w base (fun _ => true) held fuel 29 c = some x) : ∃ a n cap, c = [.slice a n cap] := by
  rcases Deep.open_slice Try.underlying29 h with ⟨hcs, _⟩ | ⟨ad, l, cp, m, n, D, Pl, hcs, _⟩
  · exact ⟨_, _, _, hcs⟩
  · exact ⟨_, _, _, hcs⟩
/-- What a node that came in says of its edges. -/
def NdP (w : World) (x : NM) : Prop := NOk x ∧ RwAt TE.cs 4 w x.ea x.t.edges
theorem open_node {fuel : Nat} {cs : List Value} {x : DataW H × List MemPlace} (h : DataW.trod enc Try.prog w base (fun _ => true) held fuel 31 cs = some x) (hL : LightG 31 x.1) : ∃ y : NM, cs = y.cs ∧ NdP w y := by
  haveI : Inhabited TE := ⟨⟨0, 0, 0, false⟩⟩
  have hl := len_of Try.underlying31 h
  have hc : Try.prog.cellsOf 31 = 7 := by kernel_rfl
  rw [hc] at hl
  obtain ⟨m0, y0, a0, -⟩ := field_lightG Try.underlying31 h hL 0 _ rfl 0 1 rfl (by kernel_rfl)
  obtain ⟨n0, e0, _⟩ := DataW.trod_bool Try.underlying4 a0
  obtain ⟨n1, e1, w1⟩ := flat_at Try.underlying31 h 1 _ rfl 1 rfl .u32 Try.underlying25 (by kernel_rfl)
  obtain ⟨m2, y2, a2, -⟩ := field_lightG Try.underlying31 h hL 2 _ rfl 2 2 rfl (by kernel_rfl)
  obtain ⟨n2, e2, w2⟩ := flat_at Try.underlying27 a2 0 _ rfl 0 rfl .u32 Try.underlying25 (by kernel_rfl)
  obtain ⟨n3, e3, w3⟩ := flat_at Try.underlying27 a2 1 _ rfl 1 rfl .u8 Try.underlying5 (by kernel_rfl)
  obtain ⟨n4, e4, w4⟩ := flat_at Try.underlying31 h 3 _ rfl 4 rfl .u8 Try.underlying5 (by kernel_rfl)
  obtain ⟨m5, y5, a5, l5⟩ := field_lightG Try.underlying31 h hL 4 _ rfl 5 1 rfl (by kernel_rfl)
  obtain ⟨m6, y6, a6, -⟩ := field_lightG Try.underlying31 h hL 5 _ rfl 6 1 rfl (by kernel_rfl)
  obtain ⟨ea, ec, es, e5, r5, ok5, hn5⟩ := open_row (cs := TE.cs) (k := 4) (by omega) (fun _ => rfl) (P := fun e => (-9223372036854775808 ≤ e.dst ∧ e.dst ≤ 9223372036854775807) ∧ (0 ≤ e.cost ∧ e.cost ≤ 4294967295) ∧ (0 ≤ e.data ∧ e.data ≤ 4294967295)) Try.underlying28 (of_decide_eq_true (by kernel_rfl)) (by kernel_rfl) (fun h hL => open_edge h hL) a5 l5
  obtain ⟨sa, sn, sc, e6⟩ := open_stubs a6
  match cs, hl with
  | [c0, c1, c2, c3, c4, c5, c6], _ =>
    simp only [List.drop, List.take, List.cons.injEq, and_true] at e0 e1 e2 e3 e4 e5 e6
    subst e0 e1 e2 e3 e4 e5 e6
    have b1 := bounds_u32 w1
    exact ⟨⟨⟨n0, n1, es⟩, n2, n3, n4, ea, ec, sa, sn, sc⟩, rfl, ⟨by dsimp only; omega, hn5, ok5⟩, r5⟩
theorem open_nodes {a : Option Addr} {len cap : Nat} {d : DataW H} {p : List MemPlace} (hd : DataW.Trod enc Try.prog w base (fun _ => true) held 22 (.slice a len cap) d p) (hL : LightG 22 d) :
    ∃ ns : List NM, ArAt w (.slice a len cap) ns ∧ ∀ x ∈ ns, NOk x := by
  haveI : Inhabited NM := ⟨⟨TN0, 0, 0, 0, none, 0, none, 0, 0⟩⟩
  obtain ⟨fuel, hf⟩ := hd
  have h : DataW.trod enc Try.prog w base (fun _ => true) held fuel 22 [.slice a len cap] = some (d, p) := by simpa [Value.cells] using hf
  obtain ⟨a', cap', ns, e, r, ok, hn⟩ := open_row (cs := NM.cs) (k := 7) (by omega) (fun _ => rfl) (P := NdP w) Try.underlying22 (of_decide_eq_true (by kernel_rfl)) (by kernel_rfl) (fun h hL => open_node h hL) h hL
  simp at e
  obtain ⟨rfl, rfl, rfl⟩ := e
  exact ⟨ns, ⟨⟨_, _, rfl, hn, r⟩, fun x hx => (ok x hx).2⟩, fun x hx => (ok x hx).1⟩
end
end Go.Proofs.Ytdfacfpjhnohcaa
