
/- A graph that came in; how heavy it is. -/
import Derived.Test.YtdfacfpjhnohcaaTrWorks
namespace Go.Proofs.Ytdfacfpjhnohcaa
open Go.RowKit
set_option linter.unusedVariables false
set_option maxRecDepth 100000

/-- A row of nodes that came in. -/
structure ArAt (w : World) (v : Value) (ns : List NM) : Prop where
  sh : ∃ a c, v = .slice a ns.length c ∧ ns.length ≤ 140737488355328 ∧ (ns = [] ∨ ∃ g o, a = some ⟨g, o, none⟩ ∧ ∀ i x, ns[i]? = some x → ∀ d u, x.cs[d]? = some u → w.cell? ⟨g, o + i * 7 + d, none⟩ = some u)
  ed : ∀ x ∈ ns, x.t.edges = [] ∨ ∃ g o, x.ea = some ⟨g, o, none⟩ ∧ ∀ j e, x.t.edges[j]? = some e → ∀ d u, e.cs[d]? = some u → w.cell? ⟨g, o + j * 4 + d, none⟩ = some u
theorem ArAt.keep {w w' : World} {v : Value} {ns : List NM} (h : ArAt w v ns) (t : Touch (fun _ => False) w w') : ArAt w' v ns := by
  obtain ⟨⟨a, c, h1, hl, h2⟩, h3⟩ := h
  refine ⟨⟨a, c, h1, hl, ?_⟩, fun x hx => ?_⟩
  · rcases h2 with h2 | ⟨g, o, h2, h4⟩
    · exact Or.inl h2
    · exact Or.inr ⟨g, o, h2, fun i x hx d u hd => t.cellN (h4 i x hx d u hd)⟩
  · rcases h3 x hx with h4 | ⟨g, o, h4, h5⟩
    · exact Or.inl h4
    · exact Or.inr ⟨g, o, h4, fun j e he d u hd => t.cellN (h5 j e he d u hd)⟩
/-- Its numbers are what they may be. -/
structure NOk (x : NM) : Prop where
  id : 0 ≤ x.t.id ∧ x.t.id ≤ 4294967295
  ln : x.t.edges.length ≤ 140737488355328
  ed : ∀ e ∈ x.t.edges, (-9223372036854775808 ≤ e.dst ∧ e.dst ≤ 9223372036854775807) ∧ (0 ≤ e.cost ∧ e.cost ≤ 4294967295) ∧ (0 ≤ e.data ∧ e.data ≤ 4294967295)
def esum (ns : List NM) : Nat := (ns.map (fun x => x.t.edges.length)).sum
theorem esum_snoc {ns : List NM} {j : Nat} {x : NM} (h : ns[j]? = some x) : esum (ns.take (j + 1)) = esum (ns.take j) + x.t.edges.length := by
  unfold esum
  rw [List.take_add_one, h]
  simp
theorem esum_le {ns : List NM} (h : ∀ x ∈ ns, NOk x) : esum ns ≤ ns.length * 140737488355328 := by
  unfold esum
  induction ns with
  | nil => simp
  | cons a l ih =>
    have h1 := (h a (by simp)).ln
    have h2 := ih (fun x hx => h x (by simp [hx]))
    simp only [List.map_cons, List.sum_cons, List.length_cons, Nat.add_mul, Nat.one_mul]
    omega
theorem esum_mem {ns : List NM} {x : NM} (h : x ∈ ns) : x.t.edges.length ≤ esum ns := by
  unfold esum
  induction ns with
  | nil => cases h
  | cons a l ih =>
    simp only [List.map_cons, List.sum_cons]
    rcases List.mem_cons.1 h with rfl | h
    · omega
    · have := ih h; omega

/-- How many edges have been counted. -/
def HvN (ns : List NM) (j : Nat) (m : Int) : Prop := ns.length ≤ 40 → m = (esum (ns.take j) : Int)
set_option maxHeartbeats 1000000 in
theorem heavy17 (w : World) (v : Value) (ns : List NM) (A : ArAt w v ns) (ok : ∀ x ∈ ns, NOk x) (b : Bool) (hb : decide (40 < ns.length ∨ 200 < esum ns) = b) :
    Calls Try.prog 6 #[v] w fun e w' => e = .returned (.bool b) ∧ w = w' := by
  obtain ⟨⟨a, c, rfl, hl, hsh⟩, -⟩ := A
  have HSH : Hid _ := hsh
  have HOK : Hid _ := ok
  have hl1 : (ns.length : Int) ≤ 140737488355328 := by omega
  have HRES : Hid (∀ m : Int, HvN ns ns.length m → (decide ((40 : Int) < (ns.length : Int)) || decide ((200 : Int) < m)) = b) := by
    intro m hm
    rw [← hb]
    by_cases h : 40 < ns.length
    · rw [decide_eq_true (show (40 : Int) < (ns.length : Int) by omega), decide_eq_true (Or.inl h : 40 < ns.length ∨ 200 < esum ns)]; rfl
    · have := hm (by omega)
      rw [List.take_length] at this
      rw [decide_eq_false (show ¬ (40 : Int) < (ns.length : Int) by omega), Bool.false_or]
      exact decide_eq_decide.2 ⟨fun h2 => Or.inr (by omega), fun h2 => h2.elim (fun h3 => (h h3).elim) (fun h3 => by omega)⟩
  have HLN : Hid (ns.length ≤ 140737488355328) := hl
  generalize hN : ns.length = N at *
  have HN : Hid _ := hN
  clear hsh ok hN hl hb
  go_enter Try.func6, Try.ntmps6
  go_wp2_with fail
  go_loopw [3, 4] (fun s3 s4 wx => ∃ (j : Nat) (m : Int), s4 = .int .i64 j ∧ j ≤ N ∧ s3 = .int .i64 m ∧ Hid (HvN ns j m) ∧ wx = w) (fun _ s4 _ => N - (intOf s4).toNat)
  case atStart => exact ⟨0, 0, rfl, Nat.zero_le _, rfl, fun _ => by simp [esum], rfl⟩
  case round =>
    obtain ⟨j, m, rfl, hj, rfl, hm, rfl⟩ := hrel
    by_cases hjN : j < N
    · obtain ⟨x, hx⟩ : ∃ x, ns[j]? = some x := ⟨_, List.getElem?_eq_getElem (by have := HN.out; omega)⟩
      rcases HSH.out with e | ⟨g, o, rfl, hc⟩
      · rw [e] at hx; cases hx
      have q5 : wr.cell? ⟨g, o + j * 7 + 5, none⟩ = some (.slice x.ea x.t.edges.length x.ec) := hc j x hx 5 _ rfl
      have hj0 : (0 : Int) ≤ (j : Int) := by omega
      have hj1 : (j : Int) < (N : Int) := by omega
      have HM : Hid (HvN ns (j + 1) (wrap64 (m + (x.t.edges.length : Int)))) := by
        intro h40
        have h1 := hm.out h40
        have h2 := esum_snoc hx
        have h3 := esum_le (ns := ns.take (j + 1)) (fun y hy => HOK.out y (List.mem_of_mem_take hy))
        have h4 : (ns.take (j + 1)).length ≤ 40 := by simp; omega
        have h5 : (ns.take (j + 1)).length * 140737488355328 ≤ 40 * 140737488355328 := Nat.mul_le_mul_right _ h4
        rw [IntWalk.wrap64_in _ (by omega), h1, h2]
        omega
      clear hm hc hx
      go_wp2_with fail
      exact ⟨⟨j + 1, _, by go_num, by omega, rfl, HM, trivial⟩, by simp [intOf]; omega⟩
    · have hjj : j = N := by omega
      subst hjj
      have HE := HRES.out m hm.out
      clear hm HRES
      by_cases hA : (40 : Int) < (j : Int)
      · have hA1 : decide ((40 : Int) < (j : Int)) = true := decide_eq_true hA
        rw [hA1, Bool.true_or] at HE
        have HEE : Hid _ := HE
        clear HE
        go_wp2_with fail
        go_ret
        exact ⟨ret_boolq HEE.out, rfl⟩
      · have hA1 : decide ((40 : Int) < (j : Int)) = false := decide_eq_false hA
        rw [hA1, Bool.false_or] at HE
        have HEE : Hid _ := HE
        clear HE
        go_wp2_with fail
        go_ret
        exact ⟨ret_boolq HEE.out, rfl⟩
end Go.Proofs.Ytdfacfpjhnohcaa
