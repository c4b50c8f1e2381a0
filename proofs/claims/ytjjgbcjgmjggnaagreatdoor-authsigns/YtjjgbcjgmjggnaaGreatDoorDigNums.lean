/- Contracts: constants, rounds. -/
import Derived.Test.YtjjgbcjgmjggnaaGreatDoorDigRow
namespace Go.Proofs.YtjjgbcjgmjggnaaGreatDoor
open Go.RowKit
set_option linter.unusedVariables false
set_option maxRecDepth 100000

theorem Tryz.info64 : (Tryz.prog.info? 202).map (·.size) = some 64 := by kernel_rfl
theorem oneCell_tabV : tabV.toArray.all (·.oneCell') = true := by decide +kernel
set_option maxHeartbeats 1000000 in
theorem const_any (w : World) : Calls Tryz.prog 134 #[] w fun e w' => e = .returned (.agg tabV.toArray) ∧ Touch (fun _ => False) w w' := by
  go_enter Tryz.func134, Tryz.ntmps134
  go_wp2_with (refine wpList_store_row rfl 202 (.tmp 0) (.tmp 1) rfl w.heap.size tabV.toArray rfl rfl 202 _ (row_new w 202 _) (by rw [Tryz.info64]; rfl) rfl oneCell_tabV ?_)
  refine bodyPost_ret (results_cell_row Tryz.results134 _ _ w.heap.size 202 tabV.toArray (0, 0) _ rfl ((row_new w 202 _).setRow tabV.toArray) Tryz.underlying202 rfl (by rw [Tryz.info64]; rfl)) rfl ?_
  exact ⟨rfl, ((Touch.refl _ w).alloc _).setRow (Or.inr (Nat.le_refl _)) _⟩
/-- The four rounds' cells. -/
def rndV : List Value := [
  .func (.func 141) #[] #[], .int .i64 1, .int .i64 0, .int .i64 7, .int .i64 12, .int .i64 17, .int .i64 22,
  .func (.func 142) #[] #[], .int .i64 5, .int .i64 1, .int .i64 5, .int .i64 9, .int .i64 14, .int .i64 20,
  .func (.func 143) #[] #[], .int .i64 3, .int .i64 5, .int .i64 4, .int .i64 11, .int .i64 16, .int .i64 23,
  .func (.func 144) #[] #[], .int .i64 7, .int .i64 0, .int .i64 6, .int .i64 10, .int .i64 15, .int .i64 21]
theorem Tryz.info28 : (Tryz.prog.info? 208).map (·.size) = some 28 := by kernel_rfl
theorem oneCell_rndV : rndV.toArray.all (·.oneCell') = true := by decide +kernel
set_option maxHeartbeats 1000000 in
theorem rounds_any (w : World) : Calls Tryz.prog 135 #[] w fun e w' => e = .returned (.agg rndV.toArray) ∧ Touch (fun _ => False) w w' := by
  go_enter Tryz.func135, Tryz.ntmps135
  go_wp2_with (refine wpList_store_row rfl 208 (.tmp 0) (.tmp 9) rfl w.heap.size rndV.toArray rfl rfl 208 _ (row_new w 208 _) (by rw [Tryz.info28]; rfl) rfl oneCell_rndV ?_)
  refine bodyPost_ret (results_cell_row Tryz.results135 _ _ w.heap.size 208 rndV.toArray (0, 0) _ rfl ((row_new w 208 _).setRow rndV.toArray) Tryz.underlying208 rfl (by rw [Tryz.info28]; rfl)) rfl ?_
  exact ⟨rfl, ((Touch.refl _ w).alloc _).setRow (Or.inr (Nat.le_refl _)) _⟩
end Go.Proofs.YtjjgbcjgmjggnaaGreatDoor

namespace Go.Proofs.YtjjgbcjgmjggnaaGreatDoor
open Go.RowKit
set_option linter.unusedVariables false
set_option maxRecDepth 100000

/-- The mill's cells. -/
def millV (q : Q4) : List Value := .int .u32 (q.a : Int) :: .int .u32 (q.b : Int) :: .int .u32 (q.c : Int) :: .int .u32 (q.d : Int) :: (tabV ++ rndV)
def Mill (w : World) (g : Nat) (q : Q4) : Prop := Row w g 211 (millV q)
theorem wpList_build_is {P : Program} {ops : Array Oper} {rest : List Oper} {o : Oper} {a : Act} {w : World} {Q : Exit → Act → World → Prop} (hg : o.guard = none) (t : TypeId) (parts : List (Nat × Operand)) (ho : o.op = .build t parts.toArray) (C : Array Value)
    (hb : P.built t (parts.map fun p => (p.1, a.eval p.2)) = some C) (h : wpList P ops Q rest (a.put o.dst (.agg C)) w) : wpList P ops Q (o :: rest) a w :=
  have e : P.built t (parts.toArray.map fun (i, x) => (i, a.eval x)).toList = some C := by
    rw [← hb]
    simp
  wpList_build hg t parts.toArray ho (by rw [e]; rfl) (by rw [e]; exact h)
set_option maxHeartbeats 1000000 in
theorem begin_any (w : World) : Calls Tryz.prog 119 #[] w fun e w' => (∃ g, e = .returned (.pointer (some ⟨g, 0, none⟩)) ∧ Mill w' g startN ∧ w.heap.size ≤ g) ∧ Touch (fun _ => False) w w' := by
  have HC := const_any
  have HR := rounds_any
  generalize hT : tabV.toArray = TV at HC
  generalize hN : rndV.toArray = RV at HR
  have HB : Hid (Tryz.prog.built 211 [(0, .agg #[.int .u32 1732584193, .int .u32 4023233417, .int .u32 2562383102, .int .u32 271733878]), (1, .agg TV), (2, .agg RV)] = some (millV startN).toArray) := by
    subst hT hN
    show _ = _
    kernel_rfl
  clear hT hN
  go_enter Tryz.func119, Tryz.ntmps119
  have hM : (millV startN).length = 96 := by decide
  generalize hMV : (millV startN).toArray = MV at HB
  have HM : Hid ((millV startN).toArray = MV) := hMV
  have hMs : MV.size = 96 := by rw [← hMV, List.size_toArray, hM]
  clear hMV hM
  go_wp2_with (first | refine (HC _).mono ?_; rintro e w1 ⟨rfl, t1⟩ | refine (HR _).mono ?_; rintro e w2 ⟨rfl, t2⟩ | refine wpList_build_is rfl 211 _ rfl MV HB.out ?_)
  trace_state
  go_ret
  refine ⟨⟨w2.heap.size, rfl, ?_, ?_⟩, ?_⟩
  · have := row_new w2 211 MV
    rw [← HM.out] at this ⊢
    exact this
  · exact (t1.trans t2).size
  · exact (t1.trans t2).alloc _
end Go.Proofs.YtjjgbcjgmjggnaaGreatDoor

namespace Go.Proofs.YtjjgbcjgmjggnaaGreatDoor
open Go.RowKit
set_option linter.unusedVariables false
set_option maxRecDepth 100000

def numsV (l : List Nat) : List Value := l.map (fun n : Nat => Value.int .u32 (n : Int))
theorem length_numsV (l : List Nat) : (numsV l).length = l.length := by simp [numsV]
theorem numsV_at {l : List Nat} {j : Nat} (h : j < l.length) : (numsV l)[j]? = some (.int .u32 ((l.getD j 0 : Nat) : Int)) := by
  simp [numsV, List.getElem?_map, List.getD, List.getElem?_eq_getElem h]
theorem numsV_set (l : List Nat) (j x : Nat) : numsV (l.set j x) = (numsV l).set j (.int .u32 (x : Int)) := by simp [numsV, List.map_set]
theorem oneCell_numsV (l : List Nat) : ∀ u ∈ numsV l, u.oneCell' = true := by
  intro u hu
  obtain ⟨x, _, rfl⟩ := List.mem_map.mp hu
  rfl
/-- The first j bytes of word i. -/
def wpN (ns : List Nat) (i : Nat) : Nat → Nat
  | 0 => 0
  | j + 1 => wpN ns i j ||| ns.getD (4 * i + j) 0 * 2 ^ (8 * j)
theorem wpN_four (ns : List Nat) (i : Nat) : wpN ns i 4 = wordN ns (4 * i) := by
  simp [wpN, wordN]
theorem wpN_lt {ns : List Nat} (h : ∀ x ∈ ns, x < 256) (i : Nat) : ∀ j, j ≤ 4 → wpN ns i j < 4294967296
  | 0, _ => by simp [wpN]
  | j + 1, hj => by
    have hb := getD_lt h (4 * i + j)
    refine or_lt32 (wpN_lt h i j (by omega)) ?_
    have : 2 ^ (8 * j) ≤ 2 ^ 24 := Nat.pow_le_pow_right (by omega) (by omega)
    calc ns.getD (4 * i + j) 0 * 2 ^ (8 * j) ≤ 255 * 2 ^ 24 := Nat.mul_le_mul (by omega) this
      _ < 4294967296 := by decide
/-- The sixteen numbers, as far as they are reckoned. -/
def layN (ns : List Nat) (i j : Nat) : List Nat := (List.range 16).map (fun x => if x < i then wordN ns (4 * x) else if x = i then wpN ns i j else 0)
def wordsN (ns : List Nat) : List Nat := (List.range 16).map (fun x => wordN ns (4 * x))
theorem length_layN (ns : List Nat) (i j : Nat) : (layN ns i j).length = 16 := by simp [layN]
theorem length_wordsN (ns : List Nat) : (wordsN ns).length = 16 := by simp [wordsN]
theorem layN_at (ns : List Nat) (i j : Nat) (hi : i < 16) : (layN ns i j).getD i 0 = wpN ns i j := by
  simp [layN, List.getD, hi]
theorem layN_set (ns : List Nat) (i j : Nat) (hi : i < 16) : (layN ns i j).set i (wpN ns i (j + 1)) = layN ns i (j + 1) := by
  apply List.ext_getElem?
  intro x
  rw [List.getElem?_set]
  simp only [layN, List.getElem?_map, List.length_map, List.length_range]
  by_cases hx : i = x
  · subst hx
    simp [hi]
  · rw [if_neg hx]
    by_cases hx2 : x < 16
    · have hne : ¬ x = i := fun e => hx e.symm
      simp only [List.getElem?_range hx2, Option.map_some, if_neg hne]
    · simp [hx2]
theorem layN_next (ns : List Nat) (i : Nat) : layN ns i 4 = layN ns (i + 1) 0 := by
  unfold layN
  apply List.map_congr_left
  intro x _
  by_cases h1 : x < i
  · rw [if_pos h1, if_pos (by omega)]
  · rw [if_neg h1]
    by_cases h2 : x = i
    · subst h2
      rw [if_pos rfl, if_pos (by omega), wpN_four]
    · rw [if_neg h2, if_neg (by omega)]
      simp [wpN]
theorem layN_zero (ns : List Nat) : layN ns 0 0 = List.replicate 16 0 := by
  unfold layN
  simp [wpN, List.map_const']
theorem layN_all (ns : List Nat) : layN ns 16 0 = wordsN ns := by
  unfold layN wordsN
  apply List.map_congr_left
  intro x hx
  rw [if_pos (by simpa using hx)]
theorem wordsN_at (ns : List Nat) (i : Nat) (hi : i < 16) : (wordsN ns).getD i 0 = wordN ns (4 * i) := by
  simp [wordsN, List.getD, hi]

theorem Tryz.info58 : (Tryz.prog.info? 213).map (·.size) = some 16 := by kernel_rfl
def NmR (ns : List Nat) (g1 : Nat) (w0 : World) (i : Value) (wr : World) : Prop :=
  ∃ k : Nat, k ≤ 16 ∧ i = .int .i64 (k : Int) ∧ Row wr g1 213 (numsV (layN ns k 0)) ∧ Touch (fun j => j = g1) w0 wr
def NmI (ns : List Nat) (g1 k : Nat) (w0 : World) (i : Value) (wr : World) : Prop :=
  ∃ j : Nat, j ≤ 4 ∧ i = .int .i64 (j : Int) ∧ Row wr g1 213 (numsV (layN ns k j)) ∧ Touch (fun j => j = g1) w0 wr
set_option maxHeartbeats 1000000 in
theorem numbers_any (ga oa vc : Nat) (ns : List Nat) (w : World) (hv : RowAt w (.slice (some ⟨ga, oa, none⟩) (natB ns).length vc) (natB ns)) (hby : ∀ x ∈ ns, x < 256) (hl : 64 ≤ ns.length) (hm : ns.length ≤ 1099511627776) :
    Calls Tryz.prog 137 #[.slice (some ⟨ga, oa, none⟩) (natB ns).length vc] w fun e w' => e = .returned (.agg (numsV (wordsN ns)).toArray) ∧ Touch (fun _ => False) w w' := by
  have HV : Hid (RowAt w (.slice (some ⟨ga, oa, none⟩) (natB ns).length vc) (natB ns)) := hv
  have HBy : Hid (∀ x ∈ ns, x < 256) := hby
  have hgl : ga < w.heap.size := lt_of_cell (rowAt_cell hv 0 (by rw [length_natB]; omega))
  clear hv hby
  rw [length_natB]
  go_enter Tryz.func137, Tryz.ntmps137
  go_wp2_with fail
  generalize hw2 : World.alloc (World.alloc w _) _ = w2
  have HR1 : Hid (Row w2 w.heap.size 213 (numsV (List.replicate 16 0))) := by
    subst hw2
    exact (row_new w _ _).keep ((Touch.refl _ _).alloc _)
  have HR2 : Hid (Row w2 (w.heap.size + 1) 213 (numsV (layN ns 0 0))) := by
    subst hw2
    rw [layN_zero]
    have := row_new (w.alloc (.cells #[.int .u32 0, .int .u32 0, .int .u32 0, .int .u32 0, .int .u32 0, .int .u32 0, .int .u32 0, .int .u32 0, .int .u32 0, .int .u32 0, .int .u32 0, .int .u32 0, .int .u32 0, .int .u32 0, .int .u32 0, .int .u32 0] 213)) 213 #[.int .u32 0, .int .u32 0, .int .u32 0, .int .u32 0, .int .u32 0, .int .u32 0, .int .u32 0, .int .u32 0, .int .u32 0, .int .u32 0, .int .u32 0, .int .u32 0, .int .u32 0, .int .u32 0, .int .u32 0, .int .u32 0]
    simp only [World.size_alloc] at this
    exact this
  have HT2 : Hid (Touch (fun _ => False) w w2) := by
    subst hw2
    exact ((Touch.refl _ _).alloc _).alloc _
  have HS2 : Hid (w2.heap.size = w.heap.size + 2) := by
    subst hw2
    simp [Hid]
  clear hw2
  go_loopw [6] (fun i wr => NmR ns (w.heap.size + 1) w2 i wr) (fun i _ => 16 - (intOf i).toNat)
  case atStart => exact ⟨0, by omega, rfl, HR2.out, Touch.refl _ _⟩
  case round =>
    obtain ⟨k, hk, rfl, hr, t⟩ := hrel
    by_cases hlt : k < 16
    · have hlt' : (k : Int) < 16 := by omega
      have HI : Hid (NmI ns (w.heap.size + 1) k w2 (.int .i64 ((0 : Nat) : Int)) wr) := ⟨0, by omega, rfl, hr, t⟩
      clear hr t
      go_wp2_with fail
      go_loopw [9] (fun i wr => NmI ns (w.heap.size + 1) k w2 i wr) (fun i _ => 4 - (intOf i).toNat)
      case atStart => exact HI.out
      case round =>
        clear HI
        obtain ⟨j, hj, rfl, hr, t⟩ := hrel
        by_cases hjl : j < 4
        · have hjl' : (j : Int) < 4 := by omega
          have hfz := hr.frozen k
          have hcell := hr.cell k
          rw [numsV_at (by rw [length_layN]; exact hlt), layN_at ns k j hlt] at hcell
          have hwl := wpN_lt HBy.out k j hj
          have hc := HT2.out.cellN (rowAt_cell HV.out (4 * k + j) (by rw [length_natB]; omega))
          have hcx := (t.cell (lt_of_cell hc) (by show ¬ ga = _; omega)).trans hc
          rw [natB_getD] at hcx
          have hb := getD_lt HBy.out (4 * k + j)
          have HN : Hid (NmI ns (w.heap.size + 1) k w2 (.int .i64 ((j : Int) + 1)) (wr.setCell ⟨w.heap.size + 1, k, none⟩ (.int .u32 ((wpN ns k (j + 1) : Nat) : Int))).drew) :=
            ⟨j + 1, by omega, by rw [Int.natCast_add]; rfl, by rw [← layN_set ns k j hlt, numsV_set]; exact (hr.set k _).keep (Touch.refl _ _).drew, (Touch.setCell (p := ⟨w.heap.size + 1, k, none⟩) t (Or.inl rfl) _).drew⟩
          have hsh : (ns.getD (4 * k + j) 0 : Int) * 2 ^ (8 * j) % 4294967296 = ((ns.getD (4 * k + j) 0 * 2 ^ (8 * j) : Nat) : Int) ∧ ns.getD (4 * k + j) 0 * 2 ^ (8 * j) < 4294967296 := by
            have h2 : 2 ^ (8 * j) ≤ 2 ^ 24 := Nat.pow_le_pow_right (by omega) (by omega)
            have h3 : ns.getD (4 * k + j) 0 * 2 ^ (8 * j) < 4294967296 := calc ns.getD (4 * k + j) 0 * 2 ^ (8 * j) ≤ 255 * 2 ^ 24 := Nat.mul_le_mul (by omega) h2
              _ < 4294967296 := by decide
            refine ⟨?_, h3⟩
            have : ((ns.getD (4 * k + j) 0 : Int) * 2 ^ (8 * j)) = ((ns.getD (4 * k + j) 0 * 2 ^ (8 * j) : Nat) : Int) := by simp
            rw [this]
            omega
          obtain ⟨hs1, hs2⟩ := hsh
          have hor := bor hwl hs2
          rw [show wpN ns k (j + 1) = wpN ns k j ||| ns.getD (4 * k + j) 0 * 2 ^ (8 * j) from rfl] at HN
          generalize ns.getD (4 * k + j) 0 * 2 ^ (8 * j) = Z at hs1 hs2 hor HN
          generalize wpN ns k j = P at hcell hwl hor HN
          generalize P ||| Z = R at hor HN
          generalize ns.getD (4 * k + j) 0 = b at hcx hb hs1
          have s1 : (8 * (j : Int)).toNat = 8 * j := by omega
          have s2 : min (8 * j) 32 = 8 * j := by omega
          have s3 : (0 : Int) ≤ 8 * (j : Int) := by omega
          generalize hmm : 4 * k + j = m at hcx
          have s4 : 4 * (k : Int) + (j : Int) = (m : Int) := by omega
          have s5 : m < 64 := by omega
          clear hr t hc HV HBy HR1 HR2 HT2 hgl hmm
          go_wp2_with fail
          go_region
          go_wp2
          go_roundw
          case rel => exact HN.out
          case measure => simp [intOf]; omega
        · obtain rfl : j = 4 := by omega
          have HN : Hid (NmR ns (w.heap.size + 1) w2 (.int .i64 ((k : Int) + 1)) wr) := ⟨k + 1, by omega, by rw [Int.natCast_add]; rfl, by rw [← layN_next]; exact hr, t⟩
          clear hr t HV HBy HR1 HR2 HT2 hgl
          go_wp2
          go_roundw
          case rel => exact HN.out
          case measure => simp [intOf]; omega
    · obtain rfl : k = 16 := by omega
      rw [layN_all] at hr
      have hr1 : Row wr w.heap.size 213 (numsV (List.replicate 16 0)) := (t.block _ (by have := HS2.out; omega) (by show ¬ _ = _; omega)).trans HR1.out
      have HRa : Hid (Row wr (w.heap.size + 1) 213 (numsV (wordsN ns))) := hr
      have HRb : Hid (Row wr w.heap.size 213 (numsV (List.replicate 16 0))) := hr1
      have HTe : Hid (Touch (fun _ => False) w wr) := HT2.out.trans' t (fun i hi e => by have : i = w.heap.size + 1 := e; omega)
      have hOl' : (numsV (wordsN ns)).length = 16 := by rw [length_numsV, length_wordsN]
      have hO1 := oneCell_numsV (wordsN ns)
      generalize hOO : numsV (wordsN ns) = O at HRa hOl' hO1 ⊢
      have HO : Hid (numsV (wordsN ns) = O) := hOO
      clear hr hr1 t HR1 HR2 HT2 HS2 HV HBy hOO
      go_wp2_with (first | refine wpList_load_row rfl 213 (.tmp 3) rfl (w.heap.size + 1) rfl 213 _ (0, 0) _ HRa.out Tryz.underlying213 rfl (by rw [Tryz.info58, List.size_toArray, hOl']) ?_ | refine wpList_store_row rfl 213 (.tmp 2) (.tmp 30) rfl w.heap.size O.toArray rfl rfl 213 _ HRb.out (by rw [Tryz.info58, List.size_toArray, hOl']) (by simp [length_numsV, hOl']) (all_oneCell hO1) ?_)
      refine bodyPost_ret (results_cell_row Tryz.results137 _ _ w.heap.size 213 O.toArray (0, 0) _ rfl (HRb.out.setRow O.toArray) Tryz.underlying213 rfl (by rw [Tryz.info58, List.size_toArray, hOl'])) rfl ?_
      exact ⟨by rw [HO.out], HTe.out.setRow (Or.inr (Nat.le_refl _)) _⟩
end Go.Proofs.YtjjgbcjgmjggnaaGreatDoor
