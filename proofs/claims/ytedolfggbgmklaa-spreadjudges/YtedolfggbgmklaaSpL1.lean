
/- SpreadJudges: the walk. -/
import Derived.Test.YtedolfggbgmklaaSpC6
import Derived.Deep.MidRow
namespace Go.Proofs.Ytedolfggbgmklaa
open Go.RowKit
set_option linter.unusedVariables false
set_option maxRecDepth 100000

theorem Row.range {w : World} {g : Nat} {T : TypeId} {xs : List Value} (h : Row w g T xs) : w.rangeAt g 0 xs := fun j v hj => by rw [Nat.zero_add]; exact (h.cell j).trans hj
set_option maxHeartbeats 8000000 in
theorem sjudges_any (a b : HV) (has busy asked mine : Bool) (since sent : Int) (w : World) (ha : a.Ok ∧ a.OkS) (hb : b.Ok ∧ b.OkS) : Calls Try.prog 3 #[.agg #[.int .u16 a.age, .int .u8 a.opts, .int .u8 a.typ, .int .u32 a.id, .int .u32 a.adv, .int .i32 a.seq, .int .u16 a.sum, .int .u16 a.len, .bool has, .int .u16 b.age, .int .u8 b.opts, .int .u8 b.typ, .int .u32 b.id, .int .u32 b.adv, .int .i32 b.seq, .int .u16 b.sum, .int .u16 b.len, .int .u32 since, .int .u32 sent, .bool busy, .bool asked, .bool mine]] w fun e w' => e = .returned (.bool true) ∧ Touch (fun _ => False) w w' := by
  obtain ⟨z, hz⟩ : ∃ z, judgeI a b has busy asked mine since sent = z := ⟨_, rfl⟩
  have HP : ∀ w', Calls Try.prog 8 #[.agg #[.int .u16 a.age, .int .u8 a.opts, .int .u8 a.typ, .int .u32 a.id, .int .u32 a.adv, .int .i32 a.seq, .int .u16 a.sum, .int .u16 a.len, .bool has, .int .u16 b.age, .int .u8 b.opts, .int .u8 b.typ, .int .u32 b.id, .int .u32 b.adv, .int .i32 b.seq, .int .u16 b.sum, .int .u16 b.len, .int .u32 since, .int .u32 sent, .bool busy, .bool asked, .bool mine]] w' fun e w'' => e = .returned (.int .u8 z) ∧ Touch (fun _ => False) w' w'' := fun w' => by rw [← hz]; exact pjudge15 a b ha.1 hb.1 has busy asked mine since sent w'
  have HR : ∀ w', Calls Try.prog 9 #[.agg #[.int .u16 a.age, .int .u8 a.opts, .int .u8 a.typ, .int .u32 a.id, .int .u32 a.adv, .int .i32 a.seq, .int .u16 a.sum, .int .u16 a.len, .bool has, .int .u16 b.age, .int .u8 b.opts, .int .u8 b.typ, .int .u32 b.id, .int .u32 b.adv, .int .i32 b.seq, .int .u16 b.sum, .int .u16 b.len, .int .u32 since, .int .u32 sent, .bool busy, .bool asked, .bool mine]] w' fun e w'' => e = .returned (.int .u8 z) ∧ Touch (fun _ => False) w' w'' := fun w' => by rw [← hz]; exact judge15 a b ha.1 hb.1 ha.2 hb.2 has busy asked mine since sent w'
  have HPh : Hid (∀ w', Calls Try.prog 8 #[.agg #[.int .u16 a.age, .int .u8 a.opts, .int .u8 a.typ, .int .u32 a.id, .int .u32 a.adv, .int .i32 a.seq, .int .u16 a.sum, .int .u16 a.len, .bool has, .int .u16 b.age, .int .u8 b.opts, .int .u8 b.typ, .int .u32 b.id, .int .u32 b.adv, .int .i32 b.seq, .int .u16 b.sum, .int .u16 b.len, .int .u32 since, .int .u32 sent, .bool busy, .bool asked, .bool mine]] w' fun e w'' => e = .returned (.int .u8 z) ∧ Touch (fun _ => False) w' w'') := HP
  have HRh : Hid (∀ w', Calls Try.prog 9 #[.agg #[.int .u16 a.age, .int .u8 a.opts, .int .u8 a.typ, .int .u32 a.id, .int .u32 a.adv, .int .i32 a.seq, .int .u16 a.sum, .int .u16 a.len, .bool has, .int .u16 b.age, .int .u8 b.opts, .int .u8 b.typ, .int .u32 b.id, .int .u32 b.adv, .int .i32 b.seq, .int .u16 b.sum, .int .u16 b.len, .int .u32 since, .int .u32 sent, .bool busy, .bool asked, .bool mine]] w' fun e w'' => e = .returned (.int .u8 z) ∧ Touch (fun _ => False) w' w'') := HR
  have T1 : Touch (fun _ => False) w (w.alloc (.cells #[.int .u16 a.age, .int .u8 a.opts, .int .u8 a.typ, .int .u32 a.id, .int .u32 a.adv, .int .i32 a.seq, .int .u16 a.sum, .int .u16 a.len, .bool has, .int .u16 b.age, .int .u8 b.opts, .int .u8 b.typ, .int .u32 b.id, .int .u32 b.adv, .int .i32 b.seq, .int .u16 b.sum, .int .u16 b.len, .int .u32 since, .int .u32 sent, .bool busy, .bool asked, .bool mine] 27)) := (Touch.refl _ _).alloc _
  have R1 : Row (w.alloc (.cells #[.int .u16 a.age, .int .u8 a.opts, .int .u8 a.typ, .int .u32 a.id, .int .u32 a.adv, .int .i32 a.seq, .int .u16 a.sum, .int .u16 a.len, .bool has, .int .u16 b.age, .int .u8 b.opts, .int .u8 b.typ, .int .u32 b.id, .int .u32 b.adv, .int .i32 b.seq, .int .u16 b.sum, .int .u16 b.len, .int .u32 since, .int .u32 sent, .bool busy, .bool asked, .bool mine] 27)) w.heap.size 27 [.int .u16 a.age, .int .u8 a.opts, .int .u8 a.typ, .int .u32 a.id, .int .u32 a.adv, .int .i32 a.seq, .int .u16 a.sum, .int .u16 a.len, .bool has, .int .u16 b.age, .int .u8 b.opts, .int .u8 b.typ, .int .u32 b.id, .int .u32 b.adv, .int .i32 b.seq, .int .u16 b.sum, .int .u16 b.len, .int .u32 since, .int .u32 sent, .bool busy, .bool asked, .bool mine] := row_new _ _ _
  clear hz ha hb HP HR
  go_enter Try.func3, Try.ntmps3
  go_upto_region 1 with fail
  generalize (w.alloc (.cells #[.int .u16 a.age, .int .u8 a.opts, .int .u8 a.typ, .int .u32 a.id, .int .u32 a.adv, .int .i32 a.seq, .int .u16 a.sum, .int .u16 a.len, .bool has, .int .u16 b.age, .int .u8 b.opts, .int .u8 b.typ, .int .u32 b.id, .int .u32 b.adv, .int .i32 b.seq, .int .u16 b.sum, .int .u16 b.len, .int .u32 since, .int .u32 sent, .bool busy, .bool asked, .bool mine] 27)) = w1 at *
  generalize w.heap.size = g at *
  have T1h : Hid (Touch (fun _ => False) w w1) := T1
  have R1h : Hid (Row w1 g 27 [.int .u16 a.age, .int .u8 a.opts, .int .u8 a.typ, .int .u32 a.id, .int .u32 a.adv, .int .i32 a.seq, .int .u16 a.sum, .int .u16 a.len, .bool has, .int .u16 b.age, .int .u8 b.opts, .int .u8 b.typ, .int .u32 b.id, .int .u32 b.adv, .int .i32 b.seq, .int .u16 b.sum, .int .u16 b.len, .int .u32 since, .int .u32 sent, .bool busy, .bool asked, .bool mine]) := R1
  clear T1 R1
  have p0 : w1.cell? ⟨g, 0, none⟩ = some (.int .u16 a.age) := R1h.out.cell 0
  have p1 : w1.cell? ⟨g, 1, none⟩ = some (.int .u8 a.opts) := R1h.out.cell 1
  have p2 : w1.cell? ⟨g, 2, none⟩ = some (.int .u8 a.typ) := R1h.out.cell 2
  have p3 : w1.cell? ⟨g, 3, none⟩ = some (.int .u32 a.id) := R1h.out.cell 3
  have p4 : w1.cell? ⟨g, 4, none⟩ = some (.int .u32 a.adv) := R1h.out.cell 4
  have p5 : w1.cell? ⟨g, 5, none⟩ = some (.int .i32 a.seq) := R1h.out.cell 5
  have p6 : w1.cell? ⟨g, 6, none⟩ = some (.int .u16 a.sum) := R1h.out.cell 6
  have p7 : w1.cell? ⟨g, 7, none⟩ = some (.int .u16 a.len) := R1h.out.cell 7
  have p8 : w1.cell? ⟨g, 8, none⟩ = some (.bool has) := R1h.out.cell 8
  have p9 : w1.cell? ⟨g, 9, none⟩ = some (.int .u16 b.age) := R1h.out.cell 9
  have p10 : w1.cell? ⟨g, 10, none⟩ = some (.int .u8 b.opts) := R1h.out.cell 10
  have p11 : w1.cell? ⟨g, 11, none⟩ = some (.int .u8 b.typ) := R1h.out.cell 11
  have p12 : w1.cell? ⟨g, 12, none⟩ = some (.int .u32 b.id) := R1h.out.cell 12
  have p13 : w1.cell? ⟨g, 13, none⟩ = some (.int .u32 b.adv) := R1h.out.cell 13
  have p14 : w1.cell? ⟨g, 14, none⟩ = some (.int .i32 b.seq) := R1h.out.cell 14
  have p15 : w1.cell? ⟨g, 15, none⟩ = some (.int .u16 b.sum) := R1h.out.cell 15
  have p16 : w1.cell? ⟨g, 16, none⟩ = some (.int .u16 b.len) := R1h.out.cell 16
  have p17 : w1.cell? ⟨g, 17, none⟩ = some (.int .u32 since) := R1h.out.cell 17
  have p18 : w1.cell? ⟨g, 18, none⟩ = some (.int .u32 sent) := R1h.out.cell 18
  have p19 : w1.cell? ⟨g, 19, none⟩ = some (.bool busy) := R1h.out.cell 19
  have p20 : w1.cell? ⟨g, 20, none⟩ = some (.bool asked) := R1h.out.cell 20
  have p21 : w1.cell? ⟨g, 21, none⟩ = some (.bool mine) := R1h.out.cell 21
  have hp := R1h.out.lt
  have RZ : (w1.alloc (.cells #[.int .u16 0, .int .u8 0, .int .u8 0, .int .u32 0, .int .u32 0, .int .i32 0, .int .u16 0, .int .u16 0, .bool false, .int .u16 0, .int .u8 0, .int .u8 0, .int .u32 0, .int .u32 0, .int .i32 0, .int .u16 0, .int .u16 0, .int .u32 0, .int .u32 0, .bool false, .bool false, .bool false] 28)).heap[w1.heap.size]? = some (.cells #[.int .u16 0, .int .u8 0, .int .u8 0, .int .u32 0, .int .u32 0, .int .i32 0, .int .u16 0, .int .u16 0, .bool false, .int .u16 0, .int .u8 0, .int .u8 0, .int .u32 0, .int .u32 0, .int .i32 0, .int .u16 0, .int .u16 0, .int .u32 0, .int .u32 0, .bool false, .bool false, .bool false] 28 (0, 0)) := row_new w1 28 #[.int .u16 0, .int .u8 0, .int .u8 0, .int .u32 0, .int .u32 0, .int .i32 0, .int .u16 0, .int .u16 0, .bool false, .int .u16 0, .int .u8 0, .int .u8 0, .int .u32 0, .int .u32 0, .int .i32 0, .int .u16 0, .int .u16 0, .int .u32 0, .int .u32 0, .bool false, .bool false, .bool false]
  have TZ : Hid (Touch (fun _ => False) w1 ((w1.alloc (.cells #[.int .u16 0, .int .u8 0, .int .u8 0, .int .u32 0, .int .u32 0, .int .i32 0, .int .u16 0, .int .u16 0, .bool false, .int .u16 0, .int .u8 0, .int .u8 0, .int .u32 0, .int .u32 0, .int .i32 0, .int .u16 0, .int .u16 0, .int .u32 0, .int .u32 0, .bool false, .bool false, .bool false] 28)).setRow w1.heap.size #[.int .u16 a.age, .int .u8 a.opts, .int .u8 a.typ, .int .u32 a.id, .int .u32 a.adv, .int .i32 a.seq, .int .u16 a.sum, .int .u16 a.len, .bool has, .int .u16 b.age, .int .u8 b.opts, .int .u8 b.typ, .int .u32 b.id, .int .u32 b.adv, .int .i32 b.seq, .int .u16 b.sum, .int .u16 b.len, .int .u32 since, .int .u32 sent, .bool busy, .bool asked, .bool mine])) := ((Touch.refl _ _).alloc _).setRow (Or.inr (Nat.le_refl _)) _
  have RW : Hid (Row ((w1.alloc (.cells #[.int .u16 0, .int .u8 0, .int .u8 0, .int .u32 0, .int .u32 0, .int .i32 0, .int .u16 0, .int .u16 0, .bool false, .int .u16 0, .int .u8 0, .int .u8 0, .int .u32 0, .int .u32 0, .int .i32 0, .int .u16 0, .int .u16 0, .int .u32 0, .int .u32 0, .bool false, .bool false, .bool false] 28)).setRow w1.heap.size #[.int .u16 a.age, .int .u8 a.opts, .int .u8 a.typ, .int .u32 a.id, .int .u32 a.adv, .int .i32 a.seq, .int .u16 a.sum, .int .u16 a.len, .bool has, .int .u16 b.age, .int .u8 b.opts, .int .u8 b.typ, .int .u32 b.id, .int .u32 b.adv, .int .i32 b.seq, .int .u16 b.sum, .int .u16 b.len, .int .u32 since, .int .u32 sent, .bool busy, .bool asked, .bool mine]) w1.heap.size 28 [.int .u16 a.age, .int .u8 a.opts, .int .u8 a.typ, .int .u32 a.id, .int .u32 a.adv, .int .i32 a.seq, .int .u16 a.sum, .int .u16 a.len, .bool has, .int .u16 b.age, .int .u8 b.opts, .int .u8 b.typ, .int .u32 b.id, .int .u32 b.adv, .int .i32 b.seq, .int .u16 b.sum, .int .u16 b.len, .int .u32 since, .int .u32 sent, .bool busy, .bool asked, .bool mine]) := Row.setRow RZ #[.int .u16 a.age, .int .u8 a.opts, .int .u8 a.typ, .int .u32 a.id, .int .u32 a.adv, .int .i32 a.seq, .int .u16 a.sum, .int .u16 a.len, .bool has, .int .u16 b.age, .int .u8 b.opts, .int .u8 b.typ, .int .u32 b.id, .int .u32 b.adv, .int .i32 b.seq, .int .u16 b.sum, .int .u16 b.len, .int .u32 since, .int .u32 sent, .bool busy, .bool asked, .bool mine]
  go_upto_region 2 with (refine wpList_store_row rfl 28 (.tmp 3) (.tmp 20) rfl w1.heap.size #[.int .u16 a.age, .int .u8 a.opts, .int .u8 a.typ, .int .u32 a.id, .int .u32 a.adv, .int .i32 a.seq, .int .u16 a.sum, .int .u16 a.len, .bool has, .int .u16 b.age, .int .u8 b.opts, .int .u8 b.typ, .int .u32 b.id, .int .u32 b.adv, .int .i32 b.seq, .int .u16 b.sum, .int .u16 b.len, .int .u32 since, .int .u32 sent, .bool busy, .bool asked, .bool mine] rfl rfl 28 _ RZ (by kernel_rfl) rfl (by simp [Value.oneCell']) ?_)
  clear hp p0 p1 p2 p3 p4 p5 p6 p7 p8 p9 p10 p11 p12 p13 p14 p15 p16 p17 p18 p19 p20 p21 RZ
  simp only [Act.put]
  have TT : Hid (Touch (fun _ => False) w ((w1.alloc (.cells #[.int .u16 0, .int .u8 0, .int .u8 0, .int .u32 0, .int .u32 0, .int .i32 0, .int .u16 0, .int .u16 0, .bool false, .int .u16 0, .int .u8 0, .int .u8 0, .int .u32 0, .int .u32 0, .int .i32 0, .int .u16 0, .int .u16 0, .int .u32 0, .int .u32 0, .bool false, .bool false, .bool false] 28)).setRow w1.heap.size #[.int .u16 a.age, .int .u8 a.opts, .int .u8 a.typ, .int .u32 a.id, .int .u32 a.adv, .int .i32 a.seq, .int .u16 a.sum, .int .u16 a.len, .bool has, .int .u16 b.age, .int .u8 b.opts, .int .u8 b.typ, .int .u32 b.id, .int .u32 b.adv, .int .i32 b.seq, .int .u16 b.sum, .int .u16 b.len, .int .u32 since, .int .u32 sent, .bool busy, .bool asked, .bool mine])) := T1h.out.trans TZ.out
  have Q1 : Row ((w1.alloc (.cells #[.int .u16 0, .int .u8 0, .int .u8 0, .int .u32 0, .int .u32 0, .int .i32 0, .int .u16 0, .int .u16 0, .bool false, .int .u16 0, .int .u8 0, .int .u8 0, .int .u32 0, .int .u32 0, .int .i32 0, .int .u16 0, .int .u16 0, .int .u32 0, .int .u32 0, .bool false, .bool false, .bool false] 28)).setRow w1.heap.size #[.int .u16 a.age, .int .u8 a.opts, .int .u8 a.typ, .int .u32 a.id, .int .u32 a.adv, .int .i32 a.seq, .int .u16 a.sum, .int .u16 a.len, .bool has, .int .u16 b.age, .int .u8 b.opts, .int .u8 b.typ, .int .u32 b.id, .int .u32 b.adv, .int .i32 b.seq, .int .u16 b.sum, .int .u16 b.len, .int .u32 since, .int .u32 sent, .bool busy, .bool asked, .bool mine]) g 27 [.int .u16 a.age, .int .u8 a.opts, .int .u8 a.typ, .int .u32 a.id, .int .u32 a.adv, .int .i32 a.seq, .int .u16 a.sum, .int .u16 a.len, .bool has, .int .u16 b.age, .int .u8 b.opts, .int .u8 b.typ, .int .u32 b.id, .int .u32 b.adv, .int .i32 b.seq, .int .u16 b.sum, .int .u16 b.len, .int .u32 since, .int .u32 sent, .bool busy, .bool asked, .bool mine] := R1h.out.keep TZ.out
  have Q2 := RW.out
  clear TZ RW
  generalize ((w1.alloc (.cells #[.int .u16 0, .int .u8 0, .int .u8 0, .int .u32 0, .int .u32 0, .int .i32 0, .int .u16 0, .int .u16 0, .bool false, .int .u16 0, .int .u8 0, .int .u8 0, .int .u32 0, .int .u32 0, .int .i32 0, .int .u16 0, .int .u16 0, .int .u32 0, .int .u32 0, .bool false, .bool false, .bool false] 28)).setRow w1.heap.size #[.int .u16 a.age, .int .u8 a.opts, .int .u8 a.typ, .int .u32 a.id, .int .u32 a.adv, .int .i32 a.seq, .int .u16 a.sum, .int .u16 a.len, .bool has, .int .u16 b.age, .int .u8 b.opts, .int .u8 b.typ, .int .u32 b.id, .int .u32 b.adv, .int .i32 b.seq, .int .u16 b.sum, .int .u16 b.len, .int .u32 since, .int .u32 sent, .bool busy, .bool asked, .bool mine]) = w2 at *
  generalize w1.heap.size = g' at *
  have ra : ∀ w', SnL w2 w' → w'.rangeAt g 0 [.int .u16 a.age, .int .u8 a.opts, .int .u8 a.typ, .int .u32 a.id, .int .u32 a.adv, .int .i32 a.seq, .int .u16 a.sum, .int .u16 a.len, .bool has, .int .u16 b.age, .int .u8 b.opts, .int .u8 b.typ, .int .u32 b.id, .int .u32 b.adv, .int .i32 b.seq, .int .u16 b.sum, .int .u16 b.len, .int .u32 since, .int .u32 sent, .bool busy, .bool asked, .bool mine] := fun w' s => (Q1.keep s.t).range
  have rb : ∀ w', SnL w2 w' → w'.rangeAt g' 0 [.int .u16 a.age, .int .u8 a.opts, .int .u8 a.typ, .int .u32 a.id, .int .u32 a.adv, .int .i32 a.seq, .int .u16 a.sum, .int .u16 a.len, .bool has, .int .u16 b.age, .int .u8 b.opts, .int .u8 b.typ, .int .u32 b.id, .int .u32 b.adv, .int .i32 b.seq, .int .u16 b.sum, .int .u16 b.len, .int .u32 since, .int .u32 sent, .bool busy, .bool asked, .bool mine] := fun w' s => (Q2.keep s.t).range
  clear Q1 Q2 T1h R1h
  as_aux_lemma =>
    refine wp_region_held_drew (S := fun w' => SnL w2 w') (by kernel_rfl) (SnL.start w2) (fun hHeld => ?_)
    refine wpAnyH_take (i := 0) (oi := ⟨some 21, _, _, _, _, _⟩) (v := .agg #[.int .u16 a.age, .int .u8 a.opts, .int .u8 a.typ, .int .u32 a.id, .int .u32 a.adv, .int .i32 a.seq, .int .u16 a.sum, .int .u16 a.len, .bool has, .int .u16 b.age, .int .u8 b.opts, .int .u8 b.typ, .int .u32 b.id, .int .u32 b.adv, .int .i32 b.seq, .int .u16 b.sum, .int .u16 b.len, .int .u32 since, .int .u32 sent, .bool busy, .bool asked, .bool mine]) rfl (by kernel_rfl) (by kernel_rfl) (by kernel_rfl) (fun _ _ _ h => h) (yieldsIf_load_mid (by rfl) _ _ rfl _ _ rfl [.int .u16 a.age, .int .u8 a.opts, .int .u8 a.typ, .int .u32 a.id, .int .u32 a.adv, .int .i32 a.seq, .int .u16 a.sum, .int .u16 a.len, .bool has, .int .u16 b.age, .int .u8 b.opts, .int .u8 b.typ, .int .u32 b.id, .int .u32 b.adv, .int .i32 b.seq, .int .u16 b.sum, .int .u16 b.len, .int .u32 since, .int .u32 sent, .bool busy, .bool asked, .bool mine] _ (fun w h => rb w h) Try.underlying28 rfl (by kernel_rfl)) (by assumption) ?_
    simp only [Act.put, List.setIfInBounds_toArray, List.set_cons_zero, List.set_cons_succ]
    refine wpAnyH_take (i := 2) (oi := ⟨some 23, _, _, _, _, _⟩) (v := .agg #[.int .u16 a.age, .int .u8 a.opts, .int .u8 a.typ, .int .u32 a.id, .int .u32 a.adv, .int .i32 a.seq, .int .u16 a.sum, .int .u16 a.len, .bool has, .int .u16 b.age, .int .u8 b.opts, .int .u8 b.typ, .int .u32 b.id, .int .u32 b.adv, .int .i32 b.seq, .int .u16 b.sum, .int .u16 b.len, .int .u32 since, .int .u32 sent, .bool busy, .bool asked, .bool mine]) rfl (by kernel_rfl) (by kernel_rfl) (by kernel_rfl) (fun _ _ _ h => h) (yieldsIf_load_mid (by rfl) _ _ rfl _ _ rfl [.int .u16 a.age, .int .u8 a.opts, .int .u8 a.typ, .int .u32 a.id, .int .u32 a.adv, .int .i32 a.seq, .int .u16 a.sum, .int .u16 a.len, .bool has, .int .u16 b.age, .int .u8 b.opts, .int .u8 b.typ, .int .u32 b.id, .int .u32 b.adv, .int .i32 b.seq, .int .u16 b.sum, .int .u16 b.len, .int .u32 since, .int .u32 sent, .bool busy, .bool asked, .bool mine] _ (fun w h => ra w h) Try.underlying27 rfl (by kernel_rfl)) (by assumption) ?_
    simp only [Act.put, List.setIfInBounds_toArray, List.set_cons_zero, List.set_cons_succ]
    refine wpAnyH_ready (rs := [1]) (by kernel_rfl) (by simp) ?_
    refine AllReadyH.cons (o := ⟨some 22, _, _, _, _, _⟩) rfl (fun K hK => ?_) AllReadyH.nil
    go_simp
    refine Calls.mono (HPh.out _) ?_
    rintro e y1 ⟨rfl, u1⟩
    have s1 : SnL w2 y1 := SnL.trans (SnL.start w2) u1
    refine hK.out _ _ s1 (fun hHeld => ?_)
    clear hK K u1
    refine wpAnyH_ready (rs := [3]) (by kernel_rfl) (by simp) ?_
    refine AllReadyH.cons (o := ⟨some 24, _, _, _, _, _⟩) rfl (fun K hK => ?_) AllReadyH.nil
    go_simp
    refine Calls.mono (HRh.out _) ?_
    rintro e y2 ⟨rfl, u2⟩
    have s2 : SnL w2 y2 := SnL.trans s1 u2
    refine hK.out _ _ s2 (fun hHeld => ?_)
    clear hK K u2
    refine wpAnyH_take (i := 4) (oi := ⟨some 25, _, _, _, _, _⟩) (v := .bool true) rfl (by kernel_rfl) (by kernel_rfl) (by kernel_rfl) (fun _ _ _ h => h) (Or.inl ⟨by rfl, fun w hw => by go_simp⟩) (by assumption) ?_
    simp only [Act.put, List.setIfInBounds_toArray, List.set_cons_zero, List.set_cons_succ]
    refine wpAnyH_take (i := 5) (oi := ⟨some 26, _, _, _, _, _⟩) (v := .bool true) rfl (by kernel_rfl) (by kernel_rfl) (by kernel_rfl) (fun _ _ _ h => h) (Or.inl ⟨by rfl, fun w hw => by go_simp⟩) (by assumption) ?_
    simp only [Act.put, List.setIfInBounds_toArray, List.set_cons_zero, List.set_cons_succ]
    refine wpAnyH_ready (rs := [6]) (by kernel_rfl) (by simp) ?_
    refine AllReadyH.cons (o := ⟨some 27, _, _, _, _, _⟩) rfl (fun K hK => ?_) AllReadyH.nil
    go_simp
    refine Calls.mono (works15 _) ?_
    rintro e y3 ⟨rfl, u3⟩
    have s3 : SnL w2 y3 := SnL.trans s2 u3
    refine hK.out _ _ s3 (fun hHeld => ?_)
    clear hK K u3
    refine wpAnyH_take (i := 7) (oi := ⟨some 28, _, _, _, _, _⟩) (v := .bool true) rfl (by kernel_rfl) (by kernel_rfl) (by kernel_rfl) (fun _ _ _ h => h) (Or.inl ⟨by rfl, fun w hw => by go_simp⟩) (by assumption) ?_
    simp only [Act.put, List.setIfInBounds_toArray, List.set_cons_zero, List.set_cons_succ]
    refine wpAnyH_take (i := 8) (oi := ⟨some 2, _, _, _, _, _⟩) (v := .bool true) rfl (by kernel_rfl) (by kernel_rfl) (by kernel_rfl) (fun _ _ _ h => h) (Or.inl ⟨by rfl, fun w hw => by go_simp⟩) (by assumption) ?_
    simp only [Act.put, List.setIfInBounds_toArray, List.set_cons_zero, List.set_cons_succ]
    refine wpAnyH_done (by kernel_rfl) ?_ _
    go_wp2_with fail
    go_ret
    exact ⟨rfl, TT.out.trans s3.t⟩
end Go.Proofs.Ytedolfggbgmklaa
