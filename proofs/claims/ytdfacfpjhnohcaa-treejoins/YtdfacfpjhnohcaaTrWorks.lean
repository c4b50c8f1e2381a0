
/- Two routers. -/
import Derived.Test.YtdfacfpjhnohcaaTrFrom
namespace Go.Proofs.Ytdfacfpjhnohcaa
open Go.RowKit
set_option linter.unusedVariables false
set_option maxRecDepth 100000

/-- What was found is the least: no way is shorter. -/
theorem Inv.opt {g : List TN} {M : Int} {E : Nat} (G : GOk g M E) {root x i : Nat} {cur : Sp} {R : Nat → RV} {Z : Nat → Sp} (I : Inv g M root x i cur [] R Z) (hf : (gn g x).edges.length ≤ i) (hM : M * (g.length : Int) ≤ 4294967295) {v : Nat} {c : Int} (W : Wk g root v c) : (R v).is = true ∧ (R v).cost ≤ c ∧ St root R v := by
  have st : ∀ v, v < g.length → (R v).is = true → St root R v := by
    intro v hv h
    by_cases e : v = root
    · exact Or.inl e
    · rcases I.wt v hv e h with h | ⟨s, h, _⟩
      · exact Or.inr h
      · cases h
  have hcn : M * (cnt g root R : Int) ≤ M * (g.length : Int) := Int.mul_le_mul_of_nonneg_left (by have := cnt_le g root R; omega) G.m0
  induction W with
  | nil hu => rw [I.rr]; exact ⟨rfl, Int.le_refl _, Or.inl rfl⟩
  | @snoc v y c e W he hd hy ih =>
    obtain ⟨h1, h2, h3⟩ := ih
    have hv : v < g.length := by
      rcases Nat.lt_or_ge v g.length with h | h
      · exact h
      · unfold gn at he
        rw [List.getD_eq_getElem?_getD, List.getElem?_eq_none h] at he
        simp [TN0] at he
    have hE := G.ed _ (gn_mem hv) e he
    have hb := I.bs v hv h3
    obtain ⟨j, hj, hje⟩ := List.mem_iff_getElem.1 he
    have hje' : (gn g v).edges[j]? = some e := by rw [List.getElem?_eq_getElem hj, hje]
    obtain ⟨a1, a2⟩ := I.cl v hv h3 j e hje' (fun hvx => by subst hvx; omega) y hd hy (by omega)
    exact ⟨a1, by omega, st y hy a1⟩
theorem Inv.hopsN {g : List TN} {M : Int} {root x i : Nat} {cur : Sp} {R : Nat → RV} {Z : Nat → Sp} (I : Inv g M root x i cur [] R Z) {v : Nat} (hv : v < g.length) (h : (R v).is = true) (hr : v ≠ root) : (R v).hops ≠ [] := by
  rcases I.wt v hv hr h with h | ⟨s, h, _⟩
  · exact h
  · cases h

def n17 (b : Nat) : NM := ⟨⟨false, 1, [⟨1, 3, 7, false⟩]⟩, 0, 0, 0, some ⟨b, 0, none⟩, 1, none, 0, 0⟩
def m17 (b : Nat) : NM := ⟨⟨false, 2, [⟨0, 3, 8, false⟩]⟩, 0, 0, 0, some ⟨b, 0, none⟩, 1, none, 0, 0⟩
def g17 : List TN := [⟨false, 1, [⟨1, 3, 7, false⟩]⟩, ⟨false, 2, [⟨0, 3, 8, false⟩]⟩]
theorem g17_of (a b : Nat) : [n17 a, m17 b].map (·.t) = g17 := rfl
theorem g17_ok : GOk g17 3 1 := by
  refine ⟨?_, ?_, ?_, ?_, by omega⟩ <;> (intro t ht; simp [g17] at ht; rcases ht with rfl | rfl <;> simp)
theorem walk17 {u v : Nat} {c : Int} (W : Wk g17 u v c) : 0 ≤ c ∧ (u ≠ v → 3 ≤ c) := by
  induction W with
  | nil hu => exact ⟨Int.le_refl _, fun h => (h rfl).elim⟩
  | @snoc v y c e W he hd hy ih =>
    have hc : e.cost = 3 := by
      rcases Nat.lt_or_ge v 2 with h | h
      · rcases (by omega : v = 0 ∨ v = 1) with rfl | rfl <;> (simp [gn, g17] at he; rw [he])
      · simp [gn, g17, List.getElem?_eq_none (show [(⟨false, 1, [⟨1, 3, 7, false⟩]⟩ : TN), ⟨false, 2, [⟨0, 3, 8, false⟩]⟩].length ≤ v from h), TN0] at he
    have := ih.1
    exact ⟨by omega, fun _ => by omega⟩
theorem one_all {l : List HK} {k : HK} (hp : l.Pairwise HK.lt) (hn : l ≠ []) (h : ∀ x ∈ l, x = k) : l = [k] := by
  match l, hp, hn, h with
  | [], _, hn, _ => exact (hn rfl).elim
  | [a], _, _, h => rw [h a (by simp)]
  | a :: b :: t, hp, _, h =>
    have h1 := (List.pairwise_cons.1 hp).1 b (by simp)
    rw [h a (by simp), h b (by simp)] at h1
    exact (HK.lt_irrefl _ h1).elim
theorem works17_pure {x i : Nat} {s : Sp} {R : Nat → RV} {Z : Nat → Sp} (I : Inv g17 3 0 x i s [] R Z) (hf : (gn g17 x).edges.length ≤ i) : R 0 = ⟨true, 0, []⟩ ∧ R 1 = ⟨true, 3, [⟨7, 2, false⟩]⟩ := by
  refine ⟨I.rr, ?_⟩
  have W : Wk g17 0 1 (0 + 3) := Wk.snoc (e := ⟨1, 3, 7, false⟩) (Wk.nil 0 (by decide)) (by simp [gn, g17]) rfl (by decide)
  obtain ⟨h1, h2, h3⟩ := I.opt g17_ok hf (by decide) W
  have h4 := (walk17 (I.wk 1 (by decide) h1)).2 (by omega)
  have hc : (R 1).cost = 3 := by omega
  have hh : (R 1).hops = [⟨7, 2, false⟩] := by
    refine one_all (I.so 1) (I.hopsN (by decide) h1 (by omega)) (fun h hm => ?_)
    obtain ⟨⟨e, he, t, hd, ht, hr, -, -, hk⟩, -, -⟩ := (I.hc 1 h hm).1
    simp [gn, g17] at he
    subst he
    have : t = 1 := by simp at hd; omega
    subst this
    exact hk rfl
  cases hR : R 1 with
  | mk a b c => rw [hR] at h1 hc hh; simp at h1 hc hh; rw [h1, hc, hh]

set_option maxHeartbeats 400000 in
theorem from_out (w : World) (a : Option Addr) (n c : Nat) (r : Int) (h : (n : Int) ≤ r) : Calls Try.prog 8 #[.slice a n c, .int .i64 r] w fun e w' => e = .returned (.slice none 0 0) ∧ w = w' := by
  have h1 : decide ((n : Int) ≤ r) = true := decide_eq_true h
  have h2 : decide (r < 0) = false := decide_eq_false (by omega)
  go_enter Try.func8, Try.ntmps8
  go_wp2_with fail
  go_ret
  exact ⟨rfl, rfl⟩

set_option maxHeartbeats 4000000 in
theorem works17 (w : World) : Calls Try.prog 7 #[] w fun e w' => e = .returned (.bool true) ∧ Touch (fun _ => False) w w' := by
  have hb1 : ∀ w, (Instr.build 52 #[(0, .int .i64 1), (1, .int .u32 3), (2, .int .u32 7)]).run Try.prog w = .ok (.agg #[.int .i64 1, .int .u32 3, .int .u32 7, .bool false]) w := fun w => run_build w 52 _ _ (by kernel_rfl)
  have hb2 : ∀ w, (Instr.build 52 #[(0, .int .i64 0), (1, .int .u32 3), (2, .int .u32 8)]).run Try.prog w = .ok (.agg #[.int .i64 0, .int .u32 3, .int .u32 8, .bool false]) w := fun w => run_build w 52 _ _ (by kernel_rfl)
  have hb3 : ∀ (w : World) (b : Nat) (k : Int), (Instr.build 56 #[(1, .int .u32 k), (4, .slice (some ⟨b, 0, none⟩) 1 1)]).run Try.prog w = .ok (.agg #[.bool false, .int .u32 k, .int .u32 0, .int .u8 0, .int .u8 0, .slice (some ⟨b, 0, none⟩) 1 1, .slice none 0 0]) w := fun w b k => run_build w 56 _ _ (by kernel_rfl)
  have hb4 : ∀ w, (Instr.build 45 #[(0, .int .u32 7), (1, .int .u32 2)]).run Try.prog w = .ok (.agg #[.int .u32 7, .int .u32 2, .bool false]) w := fun w => run_build w 45 _ _ (by kernel_rfl)
  have hEQ : ∀ w, (Op.equalIn 10000 45 (.agg #[.int .u32 7, .int .u32 2, .bool false]) (.agg #[.int .u32 7, .int .u32 2, .bool false])).run Try.prog w = .ok true w := fun w => by have := eqHop ⟨7, 2, false⟩ ⟨7, 2, false⟩ w; simpa using this
  go_enter Try.func7, Try.ntmps7
  go_wp2_with fail
  have a1 := row_new w 52 #[.int .i64 1, .int .u32 3, .int .u32 7, .bool false]
  have t1 : Touch (fun _ => False) w (w.alloc (.cells #[.int .i64 1, .int .u32 3, .int .u32 7, .bool false] 52)) := (Touch.refl _ _).alloc _
  have z1 : (w.alloc (.cells #[.int .i64 1, .int .u32 3, .int .u32 7, .bool false] 52)).heap.size = w.heap.size + 1 := by simp
  generalize w.alloc (.cells #[.int .i64 1, .int .u32 3, .int .u32 7, .bool false] 52) = w1 at *
  have a2 := row_new w1 52 #[.int .i64 0, .int .u32 3, .int .u32 8, .bool false]
  have t2 : Touch (fun _ => False) w1 (w1.alloc (.cells #[.int .i64 0, .int .u32 3, .int .u32 8, .bool false] 52)) := (Touch.refl _ _).alloc _
  have z2 : (w1.alloc (.cells #[.int .i64 0, .int .u32 3, .int .u32 8, .bool false] 52)).heap.size = w1.heap.size + 1 := by simp
  generalize w1.alloc (.cells #[.int .i64 0, .int .u32 3, .int .u32 8, .bool false] 52) = w2 at *
  have a3 := row_new w2 56 #[.bool false, .int .u32 1, .int .u32 0, .int .u8 0, .int .u8 0, .slice (some ⟨w.heap.size, 0, none⟩) 1 1, .slice none 0 0, .bool false, .int .u32 2, .int .u32 0, .int .u8 0, .int .u8 0, .slice (some ⟨w.heap.size + 1, 0, none⟩) 1 1, .slice none 0 0]
  have t3 : Touch (fun _ => False) w2 (w2.alloc (.cells #[.bool false, .int .u32 1, .int .u32 0, .int .u8 0, .int .u8 0, .slice (some ⟨w.heap.size, 0, none⟩) 1 1, .slice none 0 0, .bool false, .int .u32 2, .int .u32 0, .int .u8 0, .int .u8 0, .slice (some ⟨w.heap.size + 1, 0, none⟩) 1 1, .slice none 0 0] 56)) := (Touch.refl _ _).alloc _
  generalize w2.alloc (.cells #[.bool false, .int .u32 1, .int .u32 0, .int .u8 0, .int .u8 0, .slice (some ⟨w.heap.size, 0, none⟩) 1 1, .slice none 0 0, .bool false, .int .u32 2, .int .u32 0, .int .u8 0, .int .u8 0, .slice (some ⟨w.heap.size + 1, 0, none⟩) 1 1, .slice none 0 0] 56) = w3 at *
  rw [z1] at a2
  rw [z2, z1] at a3
  have T3 : Touch (fun _ => False) w w3 := t1.trans (t2.trans t3)
  have b1 := Row.keep a1 (t2.trans t3)
  have b2 := Row.keep a2 t3
  have GA : GrAt w3 (.slice (some ⟨w.heap.size + 1 + 1, 0, none⟩) 2 2) [n17 w.heap.size, m17 (w.heap.size + 1)] := by
    refine ⟨⟨_, 2, rfl, Or.inr ⟨_, rfl, fun i x hi d u hu => ?_⟩⟩, fun x hx => Or.inr ?_⟩
    · rw [Row.cell a3]
      have hd : d < 7 := by have := (List.getElem?_eq_some_iff.1 hu).1; simpa [NM.cs] using this
      match i, hi with
      | 0, hi =>
        simp at hi
        subst hi
        rw [← hu]
        rcases (by omega : d = 0 ∨ d = 1 ∨ d = 2 ∨ d = 3 ∨ d = 4 ∨ d = 5 ∨ d = 6) with rfl | rfl | rfl | rfl | rfl | rfl | rfl <;> rfl
      | 1, hi =>
        simp at hi
        subst hi
        rw [← hu]
        rcases (by omega : d = 0 ∨ d = 1 ∨ d = 2 ∨ d = 3 ∨ d = 4 ∨ d = 5 ∨ d = 6) with rfl | rfl | rfl | rfl | rfl | rfl | rfl <;> rfl
      | k + 2, hi => simp at hi
    · simp at hx
      rcases hx with rfl | rfl
      · refine ⟨w.heap.size, rfl, fun j e hj d u hu => ?_⟩
        match j, hj with
        | 0, hj =>
          simp [n17] at hj
          subst hj
          rw [Row.cell b1, ← hu, Nat.zero_mul, Nat.zero_add]
          rfl
        | k + 1, hj => simp [n17] at hj
      · refine ⟨w.heap.size + 1, rfl, fun j e hj d u hu => ?_⟩
        match j, hj with
        | 0, hj =>
          simp [m17] at hj
          subst hj
          rw [Row.cell b2, ← hu, Nat.zero_mul, Nat.zero_add]
          rfl
        | k + 1, hj => simp [m17] at hj
  have HF : Hid _ := from_any w3 _ _ GA 0 (show 0 < 2 by decide) 3 1 g17_ok (show 2 ≤ 1000000 by decide) (show 1 * (2 * (1 * ((2 + 1) * 2)) + 1) + 1 ≤ 1099511627776 by decide)
  have HT3 : Hid _ := T3
  clear a1 a2 a3 b1 b2 t1 t2 t3 z1 z2 GA T3
  refine Calls.mono HF.out ?_
  rintro en w4 ⟨⟨rb, R, H, Z, x, i, s, rfl, rr, hh, I, hf⟩, T4⟩
  obtain ⟨R0, R1⟩ := works17_pure I hf
  have hh0 := hh 0 (show 0 < 2 by decide)
  have hh1 := hh 1 (show 1 < 2 by decide)
  rw [R0] at hh0
  rw [R1] at hh1
  obtain ⟨ha, hac, hH0⟩ := RG.shape hh0
  obtain ⟨hb, hbc, hH1, hbc1, -, -⟩ := RG.form hh1 (by decide)
  rw [hH1] at hh1
  have r0 : w4.cell? ⟨rb, 0, none⟩ = some (.bool true) := by have := RG.cell (i := 0) (d := 0) rcs_len rr (tab_get _ (show 0 < 2 by decide)) rfl; rw [R0] at this; exact this
  have r2 : w4.cell? ⟨rb, 2, none⟩ = some (.slice ha 0 hac) := by have := RG.cell (i := 0) (d := 2) rcs_len rr (tab_get _ (show 0 < 2 by decide)) rfl; rw [hH0] at this; exact this
  have r3 : w4.cell? ⟨rb, 3, none⟩ = some (.bool true) := by have := RG.cell (i := 1) (d := 0) rcs_len rr (tab_get _ (show 1 < 2 by decide)) rfl; rw [R1] at this; exact this
  have r4 : w4.cell? ⟨rb, 4, none⟩ = some (.int .u32 3) := by have := RG.cell (i := 1) (d := 1) rcs_len rr (tab_get _ (show 1 < 2 by decide)) rfl; rw [R1] at this; exact this
  have r5 : w4.cell? ⟨rb, 5, none⟩ = some (.slice (some ⟨hb, 0, none⟩) 1 hbc) := by have := RG.cell (i := 1) (d := 2) rcs_len rr (tab_get _ (show 1 < 2 by decide)) rfl; rw [hH1] at this; exact this
  have h0 : w4.cell? ⟨hb, 0, none⟩ = some (.int .u32 7) := RG.cell (i := 0) (d := 0) HK.len hh1 rfl rfl
  have h1 : w4.cell? ⟨hb, 1, none⟩ = some (.int .u32 2) := RG.cell (i := 0) (d := 1) HK.len hh1 rfl rfl
  have h2 : w4.cell? ⟨hb, 2, none⟩ = some (.bool false) := RG.cell (i := 0) (d := 2) HK.len hh1 rfl rfl
  have HT4 : Hid (Touch (fun _ => False) w w4) := HT3.out.trans T4
  clear rr hh I hf R0 R1 hh0 hh1 hH0 hH1 T4
  have e2 : ([n17 w.heap.size, m17 (w.heap.size + 1)] : List NM).length = 2 := rfl
  simp only [e2]
  clear e2
  go_wp2_with ((go_at_call 8; refine Calls.mono (from_out _ _ 2 2 2 (by decide)) ?_; rintro en wx ⟨rfl, rfl⟩))
  go_ret
  exact ⟨rfl, HT4.out⟩
end Go.Proofs.Ytdfacfpjhnohcaa
