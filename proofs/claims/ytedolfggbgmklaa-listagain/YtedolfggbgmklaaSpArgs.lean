
/- A head, what is asked of Judge, what is asked of Goes, that came in. -/
import Derived.Test.YtedolfggbgmklaaHeadV
import Derived.ProofKit
import Derived.OpenShut
import Derived.ChangeOld
import Derived.ChangeArms
namespace Go.Proofs.Ytedolfggbgmklaa
open Go.ChangeShapes Go.WideShapes Go.ChangeAt Go.RowKit
set_option linter.unusedVariables false
set_option maxRecDepth 100000

/-- A head's cells. -/
def HV.c8 (x : HV) : List Value := [.int .u16 x.age, .int .u8 x.opts, .int .u8 x.typ, .int .u32 x.id, .int .u32 x.adv, .int .i32 x.seq, .int .u16 x.sum, .int .u16 x.len]
/-- Its numbers fit their kinds. -/
structure HV.Al (h : HV) : Prop where
  a : 0 ≤ h.age ∧ h.age < 65536
  o : 0 ≤ h.opts ∧ h.opts < 256
  t : 0 ≤ h.typ ∧ h.typ < 256
  i : 0 ≤ h.id ∧ h.id < 4294967296
  v : 0 ≤ h.adv ∧ h.adv < 4294967296
  s : -2147483648 ≤ h.seq ∧ h.seq ≤ 2147483647
  m : 0 ≤ h.sum ∧ h.sum < 65536
  l : 0 ≤ h.len ∧ h.len < 65536
theorem HV.Al.ok {h : HV} (k : h.Al) : h.Ok := ⟨k.a.1, k.a.2, k.s.1, k.s.2⟩
theorem HV.Al.oks {h : HV} (k : h.Al) : h.OkS := k.m
section
variable {H : Type} {enc : TypeId × Value → H} {w : World} {base : Nat} {held : Bool}
theorem sp_flat {sp : Nat → Bool} {fuel : Nat} {t : TypeId} {fs : Array Field} {cs : List Value} {x : DataW H × List MemPlace} (ht : Try.prog.underlying t = some (.struct fs)) (h : DataW.trod enc Try.prog w base sp held fuel t cs = some x)
    (i : Nat) (f : Field) (hf : fs[i]? = some f) (ho : f.offset = i) (k : IntKind) (hk : Try.prog.underlying f.type = some (.int k)) (hc : Try.prog.cellsOf f.type = 1) : ∃ n, (cs.drop i).take 1 = [.int k n] ∧ (Lit.int k n).wf = true := by
  obtain ⟨xs, m, _, _, _, hlen, hall⟩ := DataW.trod_struct ht h
  have hi : i < xs.length := by
    have := (Array.getElem?_eq_some_iff.mp hf).1
    omega
  have := hall i f hf
  rw [ho, hc, List.getElem?_eq_getElem hi] at this
  obtain ⟨n, e, _, wf⟩ := DataW.trod_int hk this
  exact ⟨n, e, wf⟩
theorem sp_field {sp : Nat → Bool} {fuel : Nat} {t : TypeId} {fs : Array Field} {cs : List Value} {x : DataW H × List MemPlace} (ht : Try.prog.underlying t = some (.struct fs)) (h : DataW.trod enc Try.prog w base sp held fuel t cs = some x)
    (i : Nat) (f : Field) (hf : fs[i]? = some f) (o n : Nat) (ho : f.offset = o) (hc : Try.prog.cellsOf f.type = n) : ∃ m y, DataW.trod enc Try.prog w base sp held m f.type ((cs.drop o).take n) = some y := by
  obtain ⟨xs, m, _, _, _, hlen, hall⟩ := DataW.trod_struct ht h
  have hi : i < xs.length := by
    have := (Array.getElem?_eq_some_iff.mp hf).1
    omega
  have := hall i f hf
  rw [ho, hc, List.getElem?_eq_getElem hi] at this
  exact ⟨m, _, this⟩
theorem sp_len {sp : Nat → Bool} {fuel : Nat} {t : TypeId} {fs : Array Field} {cs : List Value} {x : DataW H × List MemPlace} (ht : Try.prog.underlying t = some (.struct fs)) (h : DataW.trod enc Try.prog w base sp held fuel t cs = some x) : cs.length = Try.prog.cellsOf t := by
  obtain ⟨xs, m, _, _, hl, _⟩ := DataW.trod_struct ht h
  exact hl
theorem open_head_c {sp : Nat → Bool} {fuel : Nat} {cs : List Value} {x : DataW H × List MemPlace} (a0 : DataW.trod enc Try.prog w base sp held fuel 25 cs = some x) : ∃ h : HV, cs = h.c8 ∧ h.Al := by
  have hl := sp_len Try.underlying25 a0
  have hc : Try.prog.cellsOf 25 = 8 := by kernel_rfl
  rw [hc] at hl
  obtain ⟨n0, en0, wn0⟩ := sp_flat Try.underlying25 a0 0 _ rfl rfl .u16 Try.underlying22 (by kernel_rfl)
  obtain ⟨n1, en1, wn1⟩ := sp_flat Try.underlying25 a0 1 _ rfl rfl .u8 Try.underlying5 (by kernel_rfl)
  obtain ⟨n2, en2, wn2⟩ := sp_flat Try.underlying25 a0 2 _ rfl rfl .u8 Try.underlying5 (by kernel_rfl)
  obtain ⟨n3, en3, wn3⟩ := sp_flat Try.underlying25 a0 3 _ rfl rfl .u32 Try.underlying23 (by kernel_rfl)
  obtain ⟨n4, en4, wn4⟩ := sp_flat Try.underlying25 a0 4 _ rfl rfl .u32 Try.underlying23 (by kernel_rfl)
  obtain ⟨n5, en5, wn5⟩ := sp_flat Try.underlying25 a0 5 _ rfl rfl .i32 Try.underlying21 (by kernel_rfl)
  obtain ⟨n6, en6, wn6⟩ := sp_flat Try.underlying25 a0 6 _ rfl rfl .u16 Try.underlying22 (by kernel_rfl)
  obtain ⟨n7, en7, wn7⟩ := sp_flat Try.underlying25 a0 7 _ rfl rfl .u16 Try.underlying22 (by kernel_rfl)
  match cs, hl with
  | [c0, c1, c2, c3, c4, c5, c6, c7], _ =>
    simp only [List.drop, List.take, List.cons.injEq, and_true] at en0 en1 en2 en3 en4 en5 en6 en7
    subst en0 en1 en2 en3 en4 en5 en6 en7
    have b0 := bounds_u16 wn0
    have b1 := bounds_u8 wn1
    have b2 := bounds_u8 wn2
    have b3 := bounds_u32 wn3
    have b4 := bounds_u32 wn4
    have b5 := bounds_i32 wn5
    have b6 := bounds_u16 wn6
    have b7 := bounds_u16 wn7
    refine ⟨⟨n0, n1, n2, n3, n4, n5, n6, n7⟩, rfl, ⟨?_, ?_, ?_, ?_, ?_, ?_, ?_, ?_⟩⟩ <;> (dsimp only; omega)
theorem open_head {sp : Nat → Bool} {r : Reach} {b0 : Nat} {v : Value} {d : DataW H} {ps : List MemPlace} (hval : Value.okWide Try.prog w r b0 25 v) (hd : DataW.Trod enc Try.prog w base sp held 25 v d ps) :
    ∃ h : HV, v = h.v ∧ h.Ok ∧ h.OkS := by
  obtain ⟨cs, rfl, _⟩ := okWide_struct Try.underlying25 hval
  obtain ⟨fuel, hf⟩ := hd
  obtain ⟨h, e, ok⟩ := open_head_c hf
  simp only [Value.cells] at e
  obtain ⟨cs⟩ := cs
  simp only at e
  subst e
  exact ⟨h, rfl, ok.ok, ok.oks⟩
theorem open_came {sp : Nat → Bool} {r : Reach} {b0 : Nat} {v : Value} {d : DataW H} {ps : List MemPlace} (hval : Value.okWide Try.prog w r b0 27 v) (hd : DataW.Trod enc Try.prog w base sp held 27 v d ps) :
    ∃ (a b : HV) (has busy asked mine : Bool) (since sent : Int), v = .agg #[.int .u16 a.age, .int .u8 a.opts, .int .u8 a.typ, .int .u32 a.id, .int .u32 a.adv, .int .i32 a.seq, .int .u16 a.sum, .int .u16 a.len, .bool has, .int .u16 b.age, .int .u8 b.opts, .int .u8 b.typ, .int .u32 b.id, .int .u32 b.adv, .int .i32 b.seq, .int .u16 b.sum, .int .u16 b.len, .int .u32 since, .int .u32 sent, .bool busy, .bool asked, .bool mine] ∧ (a.Ok ∧ a.OkS) ∧ (b.Ok ∧ b.OkS) := by
  obtain ⟨cs, rfl, _⟩ := okWide_struct Try.underlying27 hval
  obtain ⟨fuel, hf⟩ := hd
  have hl := sp_len Try.underlying27 hf
  have hc : Try.prog.cellsOf 27 = 22 := by kernel_rfl
  rw [hc] at hl
  obtain ⟨m0, y0, a0⟩ := sp_field Try.underlying27 hf 0 _ rfl 0 8 rfl (by kernel_rfl)
  obtain ⟨m1, y1, a1⟩ := sp_field Try.underlying27 hf 1 _ rfl 8 1 rfl (by kernel_rfl)
  obtain ⟨m2, y2, a2⟩ := sp_field Try.underlying27 hf 2 _ rfl 9 8 rfl (by kernel_rfl)
  obtain ⟨m3, y3, a3⟩ := sp_field Try.underlying27 hf 3 _ rfl 17 1 rfl (by kernel_rfl)
  obtain ⟨m4, y4, a4⟩ := sp_field Try.underlying27 hf 4 _ rfl 18 1 rfl (by kernel_rfl)
  obtain ⟨m5, y5, a5⟩ := sp_field Try.underlying27 hf 5 _ rfl 19 1 rfl (by kernel_rfl)
  obtain ⟨m6, y6, a6⟩ := sp_field Try.underlying27 hf 6 _ rfl 20 1 rfl (by kernel_rfl)
  obtain ⟨m7, y7, a7⟩ := sp_field Try.underlying27 hf 7 _ rfl 21 1 rfl (by kernel_rfl)
  obtain ⟨a, e0, ok0⟩ := open_head_c a0
  obtain ⟨b, e2, ok2⟩ := open_head_c a2
  obtain ⟨has, e1, _⟩ := DataW.trod_bool Try.underlying4 a1
  obtain ⟨since, e3, _⟩ := DataW.trod_int Try.underlying23 a3
  obtain ⟨sent, e4, _⟩ := DataW.trod_int Try.underlying23 a4
  obtain ⟨busy, e5, _⟩ := DataW.trod_bool Try.underlying4 a5
  obtain ⟨asked, e6, _⟩ := DataW.trod_bool Try.underlying4 a6
  obtain ⟨mine, e7, _⟩ := DataW.trod_bool Try.underlying4 a7
  simp only [Value.cells] at *
  obtain ⟨cs⟩ := cs
  simp only at *
  match cs, hl with
  | [c0, c1, c2, c3, c4, c5, c6, c7, c8, c9, c10, c11, c12, c13, c14, c15, c16, c17, c18, c19, c20, c21], _ =>
    simp only [HV.c8, List.drop, List.take, List.cons.injEq, and_true] at e0 e1 e2 e3 e4 e5 e6 e7
    obtain ⟨rfl, rfl, rfl, rfl, rfl, rfl, rfl, rfl⟩ := e0
    obtain ⟨rfl, rfl, rfl, rfl, rfl, rfl, rfl, rfl⟩ := e2
    subst e1 e3 e4 e5 e6 e7
    exact ⟨a, b, has, busy, asked, mine, since, sent, rfl, ⟨ok0.ok, ok0.oks⟩, ⟨ok2.ok, ok2.oks⟩⟩
theorem open_asked {sp : Nat → Bool} {r : Reach} {b0 : Nat} {v : Value} {d : DataW H} {ps : List MemPlace} (hval : Value.okWide Try.prog w r b0 34 v) (hd : DataW.Trod enc Try.prog w base sp held 34 v d ps) :
    ∃ (adj : Int) (a b : HV) (q : Int), v = .agg #[.int .u8 adj, .int .u16 a.age, .int .u8 a.opts, .int .u8 a.typ, .int .u32 a.id, .int .u32 a.adv, .int .i32 a.seq, .int .u16 a.sum, .int .u16 a.len, .int .u16 b.age, .int .u8 b.opts, .int .u8 b.typ, .int .u32 b.id, .int .u32 b.adv, .int .i32 b.seq, .int .u16 b.sum, .int .u16 b.len, .int .u16 q] ∧ (0 ≤ adj ∧ adj < 256) ∧ (a.Ok ∧ a.OkS) ∧ (b.Ok ∧ b.OkS) ∧ 0 ≤ q ∧ q < 65536 := by
  obtain ⟨cs, rfl, _⟩ := okWide_struct Try.underlying34 hval
  obtain ⟨fuel, hf⟩ := hd
  have hl := sp_len Try.underlying34 hf
  have hc : Try.prog.cellsOf 34 = 18 := by kernel_rfl
  rw [hc] at hl
  obtain ⟨m0, y0, a0⟩ := sp_field Try.underlying34 hf 0 _ rfl 0 1 rfl (by kernel_rfl)
  obtain ⟨m1, y1, a1⟩ := sp_field Try.underlying34 hf 1 _ rfl 1 8 rfl (by kernel_rfl)
  obtain ⟨m2, y2, a2⟩ := sp_field Try.underlying34 hf 2 _ rfl 9 8 rfl (by kernel_rfl)
  obtain ⟨m3, y3, a3⟩ := sp_field Try.underlying34 hf 3 _ rfl 17 1 rfl (by kernel_rfl)
  obtain ⟨a, e1, ok0⟩ := open_head_c a1
  obtain ⟨b, e2, ok2⟩ := open_head_c a2
  obtain ⟨adj, e0, _, w0⟩ := DataW.trod_int Try.underlying5 a0
  obtain ⟨q, e3, _, w3⟩ := DataW.trod_int Try.underlying22 a3
  simp only [Value.cells] at *
  obtain ⟨cs⟩ := cs
  simp only at *
  match cs, hl with
  | [c0, c1, c2, c3, c4, c5, c6, c7, c8, c9, c10, c11, c12, c13, c14, c15, c16, c17], _ =>
    simp only [HV.c8, List.drop, List.take, List.cons.injEq, and_true] at e0 e1 e2 e3
    obtain ⟨rfl, rfl, rfl, rfl, rfl, rfl, rfl, rfl⟩ := e1
    obtain ⟨rfl, rfl, rfl, rfl, rfl, rfl, rfl, rfl⟩ := e2
    subst e0 e3
    have b0 := bounds_u8 w0
    have b3 := bounds_u16 w3
    exact ⟨adj, a, b, q, rfl, ⟨by omega, by omega⟩, ⟨ok0.ok, ok0.oks⟩, ⟨ok2.ok, ok2.oks⟩, by omega, by omega⟩
end
end Go.Proofs.Ytedolfggbgmklaa
