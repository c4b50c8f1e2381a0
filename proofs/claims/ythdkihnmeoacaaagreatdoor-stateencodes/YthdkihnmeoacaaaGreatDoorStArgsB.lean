/- A head and a body that came in. -/
import Derived.Test.YthdkihnmeoacaaaGreatDoorStArgs1
import Derived.Test.YthdkihnmeoacaaaGreatDoorRefRead
import Derived.Deep.Matrix
namespace Go.Proofs.YthdkihnmeoacaaaGreatDoor
open Go.ChangeShapes Go.WideShapes Go.ChangeAt Go.RowKit
set_option linter.unusedVariables false
set_option maxRecDepth 100000

section
variable {H : Type} {enc : TypeId × Value → H} {w : World} {base : Nat} {held : Bool}

theorem open_head_c {fuel : Nat} {cs : List Value} {x : DataW H × List MemPlace} (a0 : DataW.trod enc Tryz.prog w base (fun _ => true) held fuel 25 cs = some x) : ∃ h : HV, cs = [.int .u16 h.age, .int .u8 h.opts, .int .u8 h.typ, .int .u32 h.id, .int .u32 h.adv, .int .i32 h.seq, .int .u16 h.sum, .int .u16 h.len] ∧ h.All := by
  have hl := len_of Tryz.underlying25 a0
  have hc : Tryz.prog.cellsOf 25 = 8 := by kernel_rfl
  rw [hc] at hl
  obtain ⟨n0, e0, w0⟩ := flat_cell Tryz.underlying25 a0 0 _ rfl rfl .u16 Tryz.underlying22 (by kernel_rfl)
  obtain ⟨n1, e1, w1⟩ := flat_cell Tryz.underlying25 a0 1 _ rfl rfl .u8 Tryz.underlying5 (by kernel_rfl)
  obtain ⟨n2, e2, w2⟩ := flat_cell Tryz.underlying25 a0 2 _ rfl rfl .u8 Tryz.underlying5 (by kernel_rfl)
  obtain ⟨n3, e3, w3⟩ := flat_cell Tryz.underlying25 a0 3 _ rfl rfl .u32 Tryz.underlying23 (by kernel_rfl)
  obtain ⟨n4, e4, w4⟩ := flat_cell Tryz.underlying25 a0 4 _ rfl rfl .u32 Tryz.underlying23 (by kernel_rfl)
  obtain ⟨n5, e5, w5⟩ := flat_cell Tryz.underlying25 a0 5 _ rfl rfl .i32 Tryz.underlying21 (by kernel_rfl)
  obtain ⟨n6, e6, w6⟩ := flat_cell Tryz.underlying25 a0 6 _ rfl rfl .u16 Tryz.underlying22 (by kernel_rfl)
  obtain ⟨n7, e7, w7⟩ := flat_cell Tryz.underlying25 a0 7 _ rfl rfl .u16 Tryz.underlying22 (by kernel_rfl)
  match cs, hl with
  | [c0, c1, c2, c3, c4, c5, c6, c7], _ =>
    simp only [List.drop, List.take, List.cons.injEq, and_true] at e0 e1 e2 e3 e4 e5 e6 e7
    subst e0 e1 e2 e3 e4 e5 e6 e7
    have b0 := bounds_u16 w0
    have b1 := bounds_u8 w1
    have b2 := bounds_u8 w2
    have b3 := bounds_u32 w3
    have b4 := bounds_u32 w4
    have b5 := bounds_i32 w5
    have b6 := bounds_u16 w6
    have b7 := bounds_u16 w7
    refine ⟨⟨n0, n1, n2, n3, n4, n5, n6, n7⟩, rfl, ⟨?_, ?_, ?_, ?_, ?_, ?_, ?_, ?_⟩⟩ <;> (dsimp only; omega)
theorem open_headA {r : Reach} {b0 : Nat} {v : Value} {d : DataW H} {ps : List MemPlace} (hval : Value.okWide Tryz.prog w r b0 25 v) (hd : DataW.Trod enc Tryz.prog w base (fun _ => true) held 25 v d ps) : ∃ h : HV, v = h.v ∧ h.All := by
  obtain ⟨cs, rfl, _⟩ := okWide_struct Tryz.underlying25 hval
  obtain ⟨fuel, hf⟩ := hd
  obtain ⟨h, e, ok⟩ := open_head_c hf
  simp only [Value.cells] at e
  obtain ⟨cs⟩ := cs
  simp only at e
  subst e
  exact ⟨h, rfl, ok⟩
theorem open_link_c {fuel : Nat} {cs : List Value} {x : DataW H × List MemPlace} (a0 : DataW.trod enc Tryz.prog w base (fun _ => true) held fuel 120 cs = some x) : ∃ y : LV, cs = y.cells ∧ y.Ok := by
  have hl := len_of Tryz.underlying120 a0
  have hc : Tryz.prog.cellsOf 120 = 4 := by kernel_rfl
  rw [hc] at hl
  obtain ⟨n0, e0, w0⟩ := flat_cell Tryz.underlying120 a0 0 _ rfl rfl .u32 Tryz.underlying23 (by kernel_rfl)
  obtain ⟨n1, e1, w1⟩ := flat_cell Tryz.underlying120 a0 1 _ rfl rfl .u32 Tryz.underlying23 (by kernel_rfl)
  obtain ⟨n2, e2, w2⟩ := flat_cell Tryz.underlying120 a0 2 _ rfl rfl .u8 Tryz.underlying5 (by kernel_rfl)
  obtain ⟨n3, e3, w3⟩ := flat_cell Tryz.underlying120 a0 3 _ rfl rfl .u16 Tryz.underlying22 (by kernel_rfl)
  match cs, hl with
  | [c0, c1, c2, c3], _ =>
    simp only [List.drop, List.take, List.cons.injEq, and_true] at e0 e1 e2 e3
    subst e0 e1 e2 e3
    have b0 := bounds_u32 w0
    have b1 := bounds_u32 w1
    have b2 := bounds_u8 w2
    have b3 := bounds_u16 w3
    refine ⟨⟨n0, n1, n2, n3⟩, rfl, ⟨?_, ?_, ?_, ?_⟩⟩ <;> (dsimp only; omega)
theorem open_links {fuel : Nat} {cs : List Value} {x : DataW H × List MemPlace} (h : DataW.trod enc Tryz.prog w base (fun _ => true) held fuel 26 cs = some x) :
    ∃ a len cap ls, cs = [.slice a len cap] ∧ List.length ls = len ∧ LinksAt w (.slice a len cap) ls ∧ ∀ y ∈ ls, LV.Ok y := by
  have hcl : Tryz.prog.cellsOf 120 = 4 := by kernel_rfl
  rcases Deep.open_slice Tryz.underlying26 h with ⟨hcs, _⟩ | ⟨ad, l, c, m, n, D, Pl, hcs, _, hl, hm, hmm, hx, hel⟩
  · exact ⟨none, 0, 0, [], hcs, rfl, ⟨rfl, Or.inl ⟨rfl, rfl⟩⟩, by simp⟩
  · simp at hmm
    subst hmm
    have each : ∀ i, i < l → ∃ y : LV, y.Ok ∧ ∀ r u, y.cells[r]? = some u → w.cell? (ad.add (i * 4 + r)) = some u := by
      intro i hi
      obtain ⟨cs', h1, h2⟩ := hel i (by omega)
      rw [hcl] at h1
      obtain ⟨_, hlen, hcell⟩ := World.cells?_some h1
      obtain ⟨s, rfl, ok⟩ := open_link_c h2
      refine ⟨s, ok, fun r u hu => ?_⟩
      have hr : r < 4 := (List.getElem?_eq_some_iff.mp hu).1
      have q := hcell r (by omega)
      rw [Deep.add_add] at q
      rw [q]
      exact hu
    haveI : Inhabited LV := ⟨⟨0, 0, 0, 0⟩⟩
    obtain ⟨f, hf⟩ := Deep.choose_lt each
    refine ⟨some ad, l, _, (List.range l).map f, hcs, by simp, ⟨by simp [length_linksC], Or.inr ⟨ad, _, by rw [List.length_map, List.length_range], by rw [List.length_map, List.length_range]; exact hl, hm, fun j u hj => ?_⟩⟩, fun y hy => ?_⟩
    · have hjl := (List.getElem?_eq_some_iff.mp hj).1
      rw [length_linksC, List.length_map, List.length_range] at hjl
      have hi : j / 4 < l := by omega
      have e := linksC_at ((List.range l).map f) (j / 4) (j % 4) (f (j / 4)) (by simp [hi]) (Nat.mod_lt _ (by omega))
      have hdm : j / 4 * 4 + j % 4 = j := by omega
      rw [hdm] at e
      rw [e] at hj
      have := (hf (j / 4) hi).2 (j % 4) u hj
      rwa [hdm] at this
    · simp only [List.mem_map, List.mem_range] at hy
      obtain ⟨i, hi, rfl⟩ := hy
      exact (hf i hi).1
theorem open_words {fuel : Nat} {cs : List Value} {x : DataW H × List MemPlace} (h : DataW.trod enc Tryz.prog w base (fun _ => true) held fuel 27 cs = some x) :
    ∃ a len cap ls, cs = [.slice a len cap] ∧ List.length ls = len ∧ WordsAt w (.slice a len cap) ls ∧ ∀ z ∈ ls, (0 : Int) ≤ z ∧ z < 4294967296 := by
  rcases open_ints Tryz.underlying27 Tryz.underlying23 (by kernel_rfl) h with ⟨hcs, hx⟩ | ⟨ad, l, c, zs, hcs, _, hl, hm, hz, hx, hcell, hwz⟩
  · exact ⟨none, 0, 0, [], hcs, rfl, ⟨rfl, Or.inl ⟨rfl, rfl⟩⟩, by simp⟩
  · have hz' : zs.length = c := by simpa using hz
    have hlen : (zs.take l).length = l := by simp; omega
    refine ⟨some ad, l, c, zs.take l, hcs, hlen, ⟨by simp [wordsC], Or.inr ⟨ad, c, by rw [hlen], by rw [hlen]; exact hl, hm, fun j u hj => ?_⟩⟩, fun z hzm => ?_⟩
    · have hjl : j < l := by
        have := (List.getElem?_eq_some_iff.mp hj).1
        simp [wordsC] at this
        omega
      have := hcell j (by omega)
      rw [this]
      simp only [wordsC, List.getElem?_map, List.getElem?_take, if_pos hjl] at hj
      rw [List.getElem?_eq_getElem (by omega)] at hj
      rw [← hj]
      simp [List.getD, show j < zs.length by omega]
    · have := bounds_u32 (hwz z (List.mem_of_mem_take hzm))
      omega
/-- One bool of a struct. -/
theorem bool_cell {sp : Nat → Bool} {fuel : Nat} {t : TypeId} {cs : List Value} {x : DataW H × List MemPlace} (ht : Tryz.prog.underlying t = some .bool) (h : DataW.trod enc Tryz.prog w base sp held fuel t cs = some x) : ∃ b, cs = [.bool b] := by
  obtain ⟨b, e, _⟩ := DataW.trod_bool ht h
  exact ⟨b, e⟩
theorem open_body {r : Reach} {b0 : Nat} {v : Value} {d : DataW H} {ps : List MemPlace} (hval : Value.okWide Tryz.prog w r b0 30 v) (hd : DataW.Trod enc Tryz.prog w base (fun _ => true) held 30 v d ps) :
    ∃ (B : BV) (a1 : Option Addr) (q1 : Nat) (a3 : Option Addr) (q3 : Nat) (a8 : Option Addr) (q8 : Nat), v = B.v (.slice a1 B.links.length q1) (.slice a3 B.routers.length q3) (.slice a8 B.data.length q8) ∧ B.Ok ∧ BArg w B (.slice a1 B.links.length q1) (.slice a3 B.routers.length q3) (.slice a8 B.data.length q8) := by
  obtain ⟨cs, rfl, _⟩ := okWide_struct Tryz.underlying30 hval
  obtain ⟨fuel, h⟩ := hd
  have hl := len_of Tryz.underlying30 h
  have hc : Tryz.prog.cellsOf 30 = 9 := by kernel_rfl
  rw [hc] at hl
  obtain ⟨n0, e0, w0⟩ := flat_cell Tryz.underlying30 h 0 _ rfl rfl .u8 Tryz.underlying5 (by kernel_rfl)
  obtain ⟨m1, y1, h1⟩ := field_at Tryz.underlying30 h 1 _ rfl 1 1 rfl (by kernel_rfl)
  obtain ⟨n2, e2, w2⟩ := flat_cell Tryz.underlying30 h 2 _ rfl rfl .u32 Tryz.underlying23 (by kernel_rfl)
  obtain ⟨m3, y3, h3⟩ := field_at Tryz.underlying30 h 3 _ rfl 3 1 rfl (by kernel_rfl)
  obtain ⟨n4, e4, w4⟩ := flat_cell Tryz.underlying30 h 4 _ rfl rfl .u32 Tryz.underlying23 (by kernel_rfl)
  obtain ⟨m5, y5, h5⟩ := field_at Tryz.underlying30 h 5 _ rfl 5 1 rfl (by kernel_rfl)
  obtain ⟨n6, e6, w6⟩ := flat_cell Tryz.underlying30 h 6 _ rfl rfl .u32 Tryz.underlying23 (by kernel_rfl)
  obtain ⟨n7, e7, w7⟩ := flat_cell Tryz.underlying30 h 7 _ rfl rfl .u32 Tryz.underlying23 (by kernel_rfl)
  obtain ⟨m8, y8, h8⟩ := field_at Tryz.underlying30 h 8 _ rfl 8 1 rfl (by kernel_rfl)
  obtain ⟨a1, l1, q1, ls, e1, hl1, hA1, hO1⟩ := open_links h1
  obtain ⟨a3, l3, q3, ws, e3, hl3, hA3, hO3⟩ := open_words h3
  obtain ⟨b5, e5⟩ := bool_cell Tryz.underlying4 h5
  obtain ⟨a8, l8, q8, rs, e8, hl8, hA8, hO8⟩ := open_bytes_c h8
  clear h h1 h3 h5 h8
  simp only [Value.cells] at *
  obtain ⟨cs⟩ := cs
  simp only at *
  match cs, hl with
  | [c0, c1, c2, c3, c4, c5, c6, c7, c8], _ =>
    simp only [List.drop, List.take, List.cons.injEq, and_true] at e0 e1 e2 e3 e4 e5 e6 e7 e8
    subst e0 e1 e2 e3 e4 e5 e6 e7 e8 hl1 hl3 hl8
    have b0 := bounds_u8 w0
    have b2 := bounds_u32 w2
    have b4 := bounds_u32 w4
    have b6 := bounds_u32 w6
    have b7 := bounds_u32 w7
    refine ⟨⟨n0, ls, n2, ws, n4, b5, n6, n7, rs⟩, a1, q1, a3, q3, a8, q8, rfl, ⟨?_, hO1, ?_, hO3, ?_, ?_, ?_, hO8⟩, ⟨hA1, hA3, hA8⟩⟩ <;> (dsimp only; omega)
end
end Go.Proofs.YthdkihnmeoacaaaGreatDoor
