/- Rows of a block, whole; the mill in memory; told. -/
import Derived.Test.YthilfealloakdaaRowB
import Derived.Laws.Rows
import Derived.Laws.Tables
import Derived.WalkKit
namespace Go.Proofs.Ythilfealloakdaa
open Go.RowKit
set_option linter.unusedVariables false
set_option maxRecDepth 100000

theorem Try.info16 : (Try.prog.info? 94).map (·.size) = some 16 := by kernel_rfl
theorem quad_of {w : World} {g : Nat} {T : TypeId} {q : Q4} {rest : List Value} (h : Row w g T (.int .u32 (q.a : Int) :: .int .u32 (q.b : Int) :: .int .u32 (q.c : Int) :: .int .u32 (q.d : Int) :: rest)) : Quad w g q := ⟨h.cell 0, h.cell 1, h.cell 2, h.cell 3⟩

/-- The number of a place. -/
def Q4.at (q : Q4) (j : Nat) : Nat := if j = 0 then q.a else if j = 1 then q.b else if j = 2 then q.c else q.d
theorem Quad.at {w : World} {g : Nat} {q : Q4} (h : Quad w g q) (j : Nat) (hj : j < 4) : w.cell? ⟨g, j, none⟩ = some (.int .u32 (q.at j : Int)) := by
  match j, hj with
  | 0, _ => exact h.c0
  | 1, _ => exact h.c1
  | 2, _ => exact h.c2
  | 3, _ => exact h.c3
  | n + 4, h => omega
theorem Q4.at_lt {q : Q4} (h : q.ok) (j : Nat) : q.at j < 4294967296 := by
  obtain ⟨h1, h2, h3, h4⟩ := h
  unfold Q4.at
  split
  · exact h1
  split
  · exact h2
  split
  · exact h3
  · exact h4
theorem out_at (q : Q4) (k : Nat) (hk : k < 16) : (outN q).getD k 0 = q.at (k / 4) / 2 ^ (k % 4 * 8) % 256 := by
  match k, hk with
  | 0, _ | 4, _ | 8, _ | 12, _ => simp [outN, lowN, Q4.at]
  | 1, _ | 2, _ | 3, _ | 5, _ | 6, _ | 7, _ | 9, _ | 10, _ | 11, _ | 13, _ | 14, _ | 15, _ => simp [outN, lowN, Q4.at, Nat.div_div_eq_div_mul]
  | n + 16, h => omega
theorem outN_byte (q : Q4) : ∀ x ∈ outN q, x < 256 := by
  intro x hx
  simp only [outN, List.mem_append] at hx
  rcases hx with h | h | h | h <;> exact lowN_byte _ _ x h

def TdR (q : Q4) (g1 : Nat) (w0 : World) (i : Value) (wr : World) : Prop :=
  ∃ k : Nat, k ≤ 16 ∧ i = .int .i64 (k : Int) ∧ Row wr g1 94 (bytesOf (laying (natB (outN q)) k)) ∧ Touch (fun j => j = g1) w0 wr
set_option maxHeartbeats 1000000 in
theorem told_any (g : Nat) (q : Q4) (w : World) (hq : q.ok) (h : Quad w g q) :
    Calls Try.prog 92 #[.pointer (some ⟨g, 0, none⟩)] w fun e w' => e = .returned (.agg (bytesOf (natB (outN q))).toArray) ∧ Touch (fun _ => False) w w' := by
  have hOl : (natB (outN q)).length = 16 := by rw [length_natB, length_outN]
  have HQ : Hid (Quad w g q) := h
  have HOk : Hid q.ok := hq
  clear h hq
  go_enter Try.func92, Try.ntmps92
  go_wp2_with fail
  generalize hw2 : World.alloc (World.alloc w _) _ = w2
  have HR1 : Hid (Row w2 w.heap.size 94 (bytesOf (List.replicate 16 0))) := by
    subst hw2
    exact (row_new w _ _).keep ((Touch.refl _ _).alloc _)
  have HR2 : Hid (Row w2 (w.heap.size + 1) 94 (bytesOf (laying (natB (outN q)) 0))) := by
    subst hw2
    rw [laying_zero, hOl]
    have := row_new (w.alloc (.cells #[.int .u8 0, .int .u8 0, .int .u8 0, .int .u8 0, .int .u8 0, .int .u8 0, .int .u8 0, .int .u8 0, .int .u8 0, .int .u8 0, .int .u8 0, .int .u8 0, .int .u8 0, .int .u8 0, .int .u8 0, .int .u8 0] 94)) 94 #[.int .u8 0, .int .u8 0, .int .u8 0, .int .u8 0, .int .u8 0, .int .u8 0, .int .u8 0, .int .u8 0, .int .u8 0, .int .u8 0, .int .u8 0, .int .u8 0, .int .u8 0, .int .u8 0, .int .u8 0, .int .u8 0]
    simp only [World.size_alloc] at this
    exact this
  have HT2 : Hid (Touch (fun _ => False) w w2) := by
    subst hw2
    exact ((Touch.refl _ _).alloc _).alloc _
  have HS2 : Hid (w2.heap.size = w.heap.size + 2) := by
    subst hw2
    simp [Hid]
  clear hw2
  go_loopw [5] (fun i wr => TdR q (w.heap.size + 1) w2 i wr) (fun i _ => 16 - (intOf i).toNat)
  case atStart => exact ⟨0, by omega, rfl, HR2.out, Touch.refl _ _⟩
  case round =>
    obtain ⟨k, hk, rfl, hr, t⟩ := hrel
    have hfz := hr.frozen k
    by_cases hlt : k < 16
    · have hlt' : (k : Int) < 16 := by omega
      have hgl := lt_of_cell HQ.out.c0
      have hc := (HT2.out.cellN (HQ.out.at (k / 4) (by omega)))
      have hcx := (t.cell (lt_of_cell hc) (by show ¬ g = _; omega)).trans hc
      have hS := Q4.at_lt HOk.out (k / 4)
      have HX : Hid ((natB (outN q)).getD k 0 = ((q.at (k / 4) / 2 ^ (k % 4 * 8) % 256 : Nat) : Int)) := by show _ = _; rw [natB_getD, out_at q k hlt]
      have hcell : wr.cell? ⟨w.heap.size + 1, k, none⟩ = some (.int .u8 0) := by
        rw [hr.cell k]
        simp only [bytesOf, List.getElem?_map]
        rw [laying_get _ k k (by omega), if_pos (by omega), if_neg (by omega)]
        rfl
      have HN : Hid (TdR q (w.heap.size + 1) w2 (.int .i64 ((k : Int) + 1)) (wr.setCell ⟨w.heap.size + 1, k, none⟩ (.int .u8 ((natB (outN q)).getD k 0)))) :=
        ⟨k + 1, by omega, by rw [Int.natCast_add]; rfl, by rw [← laying_step _ k (by omega), bytesOf_set]; exact hr.set k _, Touch.setCell (p := ⟨w.heap.size + 1, k, none⟩) t (Or.inl rfl) _⟩
      rw [HX.out] at HN
      generalize q.at (k / 4) = S at hS hcx HN
      have s1 : ((k : Int) % 4 * 8).toNat = k % 4 * 8 := by omega
      have s2 : min (k % 4 * 8) 32 = k % 4 * 8 := by omega
      have s3 : (0 : Int) ≤ (k : Int) % 4 * 8 := by omega
      have s4 : (S : Int) / 2 ^ (k % 4 * 8) % 256 = ((S / 2 ^ (k % 4 * 8) % 256 : Nat) : Int) := by simp
      generalize S / 2 ^ (k % 4 * 8) % 256 = B at s4 HN
      have s5 : ((k : Int) / 4).toNat = k / 4 := by omega
      have s6 : (k : Int) / 4 < 4 := by omega
      have s7 : (0 : Int) ≤ (k : Int) / 4 := by omega
      clear HX hr t hc HQ HOk HR1 HR2 HT2 hgl hOl
      go_wp2
      go_roundw
      case rel => exact HN.out
      case measure => simp [intOf]; omega
    · obtain rfl : k = 16 := by omega
      rw [← hOl, laying_all] at hr
      have hr1 : Row wr w.heap.size 94 (bytesOf (List.replicate 16 0)) := (t.block _ (by have := HS2.out; omega) (by show ¬ _ = _; omega)).trans HR1.out
      have HRa : Hid (Row wr (w.heap.size + 1) 94 (bytesOf (natB (outN q)))) := hr
      have HRb : Hid (Row wr w.heap.size 94 (bytesOf (List.replicate 16 0))) := hr1
      have HTe : Hid (Touch (fun _ => False) w wr) := HT2.out.trans' t (fun i hi e => by have : i = w.heap.size + 1 := e; omega)
      clear hr hr1 t HR1 HR2 HT2 hfz HS2 HQ HOk
      have hOl' : (bytesOf (natB (outN q))).length = 16 := by rw [length_bytesOf, hOl]
      have hO1 := oneCell_bytesOf (natB (outN q))
      generalize hOO : bytesOf (natB (outN q)) = O at HRa hOl' hO1 ⊢
      have HO : Hid (bytesOf (natB (outN q)) = O) := hOO
      clear hOl hOO
      go_wp2_with (first | refine wpList_load_row rfl 94 (.tmp 3) rfl (w.heap.size + 1) rfl 94 _ (0, 0) _ HRa.out Try.underlying94 rfl (by rw [Try.info16, List.size_toArray, hOl']) ?_ | refine wpList_store_row rfl 94 (.tmp 2) (.tmp 23) rfl w.heap.size O.toArray rfl rfl 94 _ HRb.out (by rw [Try.info16, List.size_toArray, hOl']) (by simp [length_bytesOf, hOl']) (all_oneCell hO1) ?_)
      refine bodyPost_ret (results_cell_row Try.results92 _ _ w.heap.size 94 O.toArray (0, 0) _ rfl (HRb.out.setRow O.toArray) Try.underlying94 rfl (by rw [Try.info16, List.size_toArray, hOl'])) rfl ?_
      exact ⟨by rw [HO.out], HTe.out.setRow (Or.inr (Nat.le_refl _)) _⟩
end Go.Proofs.Ythilfealloakdaa

namespace Go.Proofs.Ythilfealloakdaa
set_option linter.unusedVariables false

def numBytes (n : Nat) (x : Int) : List Int := [x / 16777216 % 256, x / 65536 % 256, x / 256 % 256, x % 256].drop (4 - n)
theorem length_numBytes {n : Nat} (h : n ≤ 4) (x : Int) : (numBytes n x).length = n := by simp [numBytes]; omega
theorem numBytes_byte (n : Nat) (x : Int) : ∀ z ∈ numBytes n x, 0 ≤ z ∧ z < 256 := by
  intro z hz
  have := List.mem_of_mem_drop hz
  simp at this
  omega
theorem numBytes2 (x : Int) : numBytes 2 x = [x / 256 % 256, x % 256] := rfl
theorem numBytes4 (x : Int) : numBytes 4 x = [x / 16777216 % 256, x / 65536 % 256, x / 256 % 256, x % 256] := rfl
theorem numBytes3 (x : Int) : numBytes 3 x = [x / 65536 % 256, x / 256 % 256, x % 256] := rfl
/-- The number of bytes. -/
def numOf (l : List Int) : Int := l.foldl (fun v z => 256 * v + z) 0
theorem numOf_snoc (l : List Int) (z : Int) : numOf (l ++ [z]) = 256 * numOf l + z := by simp [numOf]
theorem foldl_bound (l : List Int) (h : ∀ z ∈ l, 0 ≤ z ∧ z < 256) : ∀ v : Int, 0 ≤ v → 0 ≤ l.foldl (fun v z => 256 * v + z) v ∧ l.foldl (fun v z => 256 * v + z) v < (v + 1) * 256 ^ l.length := by
  induction l with
  | nil => intro v hv; simp; omega
  | cons z r ih =>
    intro v hv
    have hz := h z (by simp)
    have := ih (fun z hz => h z (by simp [hz])) (256 * v + z) (by omega)
    refine ⟨this.1, Int.lt_of_lt_of_le this.2 ?_⟩
    rw [List.length_cons, Int.pow_succ, Int.mul_comm (256 ^ r.length) 256, ← Int.mul_assoc]
    exact Int.mul_le_mul_of_nonneg_right (by omega) (Int.pow_nonneg (by omega))
theorem numOf_bound (l : List Int) (h : ∀ z ∈ l, 0 ≤ z ∧ z < 256) : 0 ≤ numOf l ∧ numOf l < 256 ^ l.length := by
  have := foldl_bound l h 0 (by omega)
  rw [show (0 : Int) + 1 = 1 by omega, Int.one_mul] at this
  exact this
theorem numOf_two (x : Int) (h0 : 0 ≤ x) (h : x < 65536) : numOf (numBytes 2 x) = x := by simp [numOf, numBytes2]; omega
theorem numOf_three (x : Int) (h0 : 0 ≤ x) (h : x < 16777216) : numOf (numBytes 3 x) = x := by simp [numOf, numBytes3]; omega
theorem numOf_four (x : Int) (h0 : 0 ≤ x) (h : x < 4294967296) : numOf (numBytes 4 x) = x := by simp [numOf, numBytes4]; omega
theorem numBytes_two (a b : Int) (ha : 0 ≤ a ∧ a < 256) (hb : 0 ≤ b ∧ b < 256) : numBytes 2 (numOf [a, b]) = [a, b] := by simp [numOf, numBytes2]; omega
theorem numBytes_four (a b c d : Int) (ha : 0 ≤ a ∧ a < 256) (hb : 0 ≤ b ∧ b < 256) (hc : 0 ≤ c ∧ c < 256) (hd : 0 ≤ d ∧ d < 256) : numBytes 4 (numOf [a, b, c, d]) = [a, b, c, d] := by
  simp [numOf, numBytes4]; omega
end Go.Proofs.Ythilfealloakdaa
