/- whole, unsigned, kindOf; the mark of a digest, there and back. -/
import Derived.Test.YtjjgbcjgmjggnaaGreatDoorPkFace
import Derived.Test.YtjjgbcjgmjggnaaGreatDoorPkLen2
import Derived.Test.YtjjgbcjgmjggnaaGreatDoorDigSame
namespace Go.Proofs.YtjjgbcjgmjggnaaGreatDoor
open Go.RowKit
set_option linter.unusedVariables false
set_option maxRecDepth 100000

set_option maxHeartbeats 1000000 in
theorem whole_pk (v : Value) (rs : List Int) (n : Int) (w : World) (hv : ArgAt w v rs) (hby : ∀ z ∈ rs, 0 ≤ z ∧ z < 256) (hn : rs.length ≤ 1000000) :
    Calls Tryz.prog 81 #[v, .int .i64 n] w fun e w' => e = .returned (.int .i64 (wholeE rs n)) ∧ Touch (fun _ => False) w w' := by
  have HR := pright_any v rs w hv hby hn
  obtain ⟨va, vc, rfl, hmx⟩ := hv.form
  unfold wholeE
  by_cases h1 : n < (rs.length : Int)
  · rw [if_pos h1]
    clear HR hv hby hn
    generalize rs.length = m at *
    go_enter Tryz.func81, Tryz.ntmps81
    go_wp2
    go_ret
    exact ⟨rfl, Touch.refl _ _⟩
  · rw [if_neg h1]
    generalize pRight rs = R at HR ⊢
    clear hv hby hn
    generalize rs.length = m at *
    cases R
    · rw [if_pos rfl]
      go_enter Tryz.func81, Tryz.ntmps81
      go_wp2_with fail
      refine Calls.mono HR ?_
      rintro e w1 ⟨rfl, t1⟩
      go_wp2
      go_ret
      exact ⟨rfl, t1⟩
    · rw [if_neg (by simp)]
      go_enter Tryz.func81, Tryz.ntmps81
      go_wp2_with fail
      refine Calls.mono HR ?_
      rintro e w1 ⟨rfl, t1⟩
      go_wp2
      go_ret
      exact ⟨rfl, t1⟩
set_option maxHeartbeats 1000000 in
theorem kindOf_any (v : Value) (ks : List KE) (w : World) (hv : ChainAt w v ks) :
    Calls Tryz.prog 77 #[v] w fun e w' => e = .returned (.int .u16 (kindOfL (pureL ks))) ∧ w = w' := by
  obtain ⟨va, vc, rfl, hmx⟩ := ValsAt.form hv.vals
  cases ks with
  | nil =>
    rw [show kindOfL (pureL []) = 0 from rfl]
    go_enter Tryz.func77, Tryz.ntmps77
    go_wp2
    go_ret
    exact ⟨rfl, rfl⟩
  | cons y r =>
    rw [show kindOfL (pureL (y :: r)) = y.p.kind from rfl]
    obtain ⟨-, g, off, c, e, hcell⟩ := hv.one (j := 0) (x := y) rfl
    cases e
    have y1 : w.cell? ⟨g, off + 1, none⟩ = some (.int .u16 y.p.kind) := by have := hcell 1 _ rfl; simpa using this
    have hl : (0 : Int) < ((y :: r).length : Int) := by rw [List.length_cons]; omega
    have hl' : ¬ (((y :: r).length : Int) = 0) := by rw [List.length_cons]; omega
    clear hv hmx hcell
    generalize (y :: r).length = m at *
    go_enter Tryz.func77, Tryz.ntmps77
    go_wp2
    go_ret
    exact ⟨rfl, rfl⟩
set_option maxHeartbeats 2000000 in
theorem unsigned_any (v : Value) (rs : List Int) (w : World) (hv : ArgAt w v rs) (hby : ∀ z ∈ rs, 0 ≤ z ∧ z < 256) (hn : rs.length ≤ 1000000) :
    Calls Tryz.prog 17 #[v] w fun e w' => e = .returned (.int .i64 (unsE rs)) ∧ Touch (fun _ => False) w w' := by
  have HL := plenP_any v rs w hv hby hn
  by_cases hE : pLenE rs = 0
  · have P := pLenE_ok hE
    have HS : Hid (∀ w', Touch (fun _ => False) w w' → Calls Tryz.prog 53 #[v] w' fun e w'' => e = .returned (.tuple #[.int .u16 (kindB rs), .agg (bytesOf (dataB rs)).toArray]) ∧ Touch (fun _ => False) w' w'') := fun w' t => said_any v rs w' (hv.keep t (fun _ _ h => h)) hby P.l hn
    have HR : Hid (∀ w', Touch (fun _ => False) w w' → Calls Tryz.prog 54 #[v] w' fun e w'' => e = .returned (.bool (pRight rs)) ∧ Touch (fun _ => False) w' w'') := fun w' t => pright_any v rs w' (hv.keep t (fun _ _ h => h)) hby hn
    have hOl' : (bytesOf (dataB rs)).length = 8 := by rw [length_bytesOf, length_dataB P.l]
    have hO1 := oneCell_bytesOf (dataB rs)
    have hU : unsE rs = if pTold rs < (rs.length : Int) then 22 else if kindB rs ≠ 0 then 25 else if pRight rs = false then 23 else 0 := by unfold unsE; rw [if_neg (fun h => h hE)]
    have hPN : pLenN rs = pTold rs := by unfold pLenN; rw [if_pos hE]
    rw [hU]
    rw [hE, hPN] at HL
    generalize bytesOf (dataB rs) = O at *
    generalize pTold rs = N at *
    generalize kindB rs = K at *
    generalize pRight rs = R at *
    obtain ⟨va, vc, rfl, hmx⟩ := hv.form
    clear hv hby hE hU hPN P hn
    generalize rs.length = m at *
    by_cases h1 : N < (m : Int)
    · rw [if_pos h1]
      go_enter Tryz.func17, Tryz.ntmps17
      go_wp2_with fail
      refine Calls.mono HL ?_
      rintro e w1 ⟨rfl, t1⟩
      have T1 : Hid (Touch (fun _ => False) w w1) := t1
      clear t1
      go_wp2_with fail
      refine Calls.mono (HS.out w1 T1.out) ?_
      rintro e w2 ⟨rfl, t2⟩
      have T2 : Hid (Touch (fun _ => False) w w2) := T1.out.trans t2
      clear t2 T1
      go_wp2_with (refine wpList_store_row rfl 82 (.tmp 6) (.tmp 19) rfl w2.heap.size O.toArray rfl rfl 82 _ (row_new w2 82 _) (by rw [Tryz.info8d, List.size_toArray, hOl']) (by simp [hOl']) (all_oneCell hO1) ?_)
      go_ret
      exact ⟨rfl, (Touch.setRow (T2.out.alloc _) (Or.inr T2.out.size) _)⟩
    rw [if_neg h1]
    by_cases h2 : K = 0
    · subst h2
      rw [if_neg (by simp)]
      cases R
      · rw [if_pos rfl]
        go_enter Tryz.func17, Tryz.ntmps17
        go_wp2_with fail
        refine Calls.mono HL ?_
        rintro e w1 ⟨rfl, t1⟩
        have T1 : Hid (Touch (fun _ => False) w w1) := t1
        clear t1
        go_wp2_with fail
        refine Calls.mono (HS.out w1 T1.out) ?_
        rintro e w2 ⟨rfl, t2⟩
        have T2 : Hid (Touch (fun _ => False) w w2) := T1.out.trans t2
        clear t2 T1
        go_wp2_with (refine wpList_store_row rfl 82 (.tmp 6) (.tmp 19) rfl w2.heap.size O.toArray rfl rfl 82 _ (row_new w2 82 _) (by rw [Tryz.info8d, List.size_toArray, hOl']) (by simp [hOl']) (all_oneCell hO1) ?_)
        have T3 : Hid (Touch (fun _ => False) w ((w2.alloc (.cells #[.int .u8 0, .int .u8 0, .int .u8 0, .int .u8 0, .int .u8 0, .int .u8 0, .int .u8 0, .int .u8 0] 82)).setRow w2.heap.size O.toArray)) := Touch.setRow (T2.out.alloc _) (Or.inr T2.out.size) _
        refine Calls.mono (HR.out _ T3.out) ?_
        rintro e w4 ⟨rfl, t4⟩
        have T4 : Hid (Touch (fun _ => False) w w4) := T3.out.trans t4
        clear t4 T3
        go_wp2
        go_ret
        exact ⟨rfl, T4.out⟩
      · rw [if_neg (by simp)]
        go_enter Tryz.func17, Tryz.ntmps17
        go_wp2_with fail
        refine Calls.mono HL ?_
        rintro e w1 ⟨rfl, t1⟩
        have T1 : Hid (Touch (fun _ => False) w w1) := t1
        clear t1
        go_wp2_with fail
        refine Calls.mono (HS.out w1 T1.out) ?_
        rintro e w2 ⟨rfl, t2⟩
        have T2 : Hid (Touch (fun _ => False) w w2) := T1.out.trans t2
        clear t2 T1
        go_wp2_with (refine wpList_store_row rfl 82 (.tmp 6) (.tmp 19) rfl w2.heap.size O.toArray rfl rfl 82 _ (row_new w2 82 _) (by rw [Tryz.info8d, List.size_toArray, hOl']) (by simp [hOl']) (all_oneCell hO1) ?_)
        have T3 : Hid (Touch (fun _ => False) w ((w2.alloc (.cells #[.int .u8 0, .int .u8 0, .int .u8 0, .int .u8 0, .int .u8 0, .int .u8 0, .int .u8 0, .int .u8 0] 82)).setRow w2.heap.size O.toArray)) := Touch.setRow (T2.out.alloc _) (Or.inr T2.out.size) _
        refine Calls.mono (HR.out _ T3.out) ?_
        rintro e w4 ⟨rfl, t4⟩
        have T4 : Hid (Touch (fun _ => False) w w4) := T3.out.trans t4
        clear t4 T3
        go_wp2
        go_ret
        exact ⟨rfl, T4.out⟩
    · rw [if_pos h2]
      go_enter Tryz.func17, Tryz.ntmps17
      go_wp2_with fail
      refine Calls.mono HL ?_
      rintro e w1 ⟨rfl, t1⟩
      have T1 : Hid (Touch (fun _ => False) w w1) := t1
      clear t1
      go_wp2_with fail
      refine Calls.mono (HS.out w1 T1.out) ?_
      rintro e w2 ⟨rfl, t2⟩
      have T2 : Hid (Touch (fun _ => False) w w2) := T1.out.trans t2
      clear t2 T1
      go_wp2_with (refine wpList_store_row rfl 82 (.tmp 6) (.tmp 19) rfl w2.heap.size O.toArray rfl rfl 82 _ (row_new w2 82 _) (by rw [Tryz.info8d, List.size_toArray, hOl']) (by simp [hOl']) (all_oneCell hO1) ?_)
      go_ret
      exact ⟨rfl, (Touch.setRow (T2.out.alloc _) (Or.inr T2.out.size) _)⟩
  · have hU : unsE rs = pLenE rs := by unfold unsE; rw [if_pos hE]
    rw [hU]
    obtain ⟨va, vc, rfl, hmx⟩ := hv.form
    clear hv hby hU hn
    generalize pLenE rs = E at *
    generalize pLenN rs = N at *
    go_enter Tryz.func17, Tryz.ntmps17
    go_wp2_with fail
    refine Calls.mono HL ?_
    rintro e w1 ⟨rfl, t1⟩
    go_wp2
    go_ret
    exact ⟨rfl, t1⟩
end Go.Proofs.YtjjgbcjgmjggnaaGreatDoor

namespace Go.Proofs.YtjjgbcjgmjggnaaGreatDoor
open Go.RowKit
set_option linter.unusedVariables false
set_option maxRecDepth 100000

theorem touch_below_after {w a b : World} (t : Touch (fun _ => False) w a) (h : Below w.heap.size a b) : Touch (fun _ => False) w b :=
  ⟨h.os.trans t.os, h.tape.trans t.tape, h.output.trans t.output, Nat.le_trans t.size h.size, fun k hk hn => (h.block k hk).trans (t.block k hk hn)⟩
theorem length_markB (id seq : Int) : (markB id seq).length = 8 := by simp [markB, numBytes]
theorem au_two_arg (w : World) (x y : Int) : ArgAt (w.alloc (.cells #[.int .u8 x, .int .u8 y] 5)) (.slice (some ⟨w.heap.size, 0, none⟩) 2 2) [x, y] :=
  Or.inr ⟨⟨w.heap.size, 0, none⟩, 2, rfl, by simp, by simp [maxLen], src_new w #[.int .u8 x, .int .u8 y] 5 0 [x, y] rfl⟩
set_option maxHeartbeats 2000000 in
theorem mark_any (id seq : Int) (w : World) (hi : 0 ≤ id ∧ id < 256) (hs : 0 ≤ seq ∧ seq < 4294967296) :
    Calls Tryz.prog 64 #[.int .u8 id, .int .u32 seq] w fun e w' => e = .returned (.agg (bytesOf (markB id seq)).toArray) ∧ Touch (fun _ => False) w w' := by
  have HM : Hid (((([] ++ numBytes 2 0) ++ [id, 16]) ++ numBytes 4 seq) = markB id seq) := rfl
  have HML : Hid ((markB id seq).length = 8) := length_markB id seq
  have hOl' : (bytesOf (markB id seq)).length = 8 := by rw [length_bytesOf, length_markB]
  have hO1 := oneCell_bytesOf (markB id seq)
  generalize markB id seq = MB at *
  generalize hOO : bytesOf MB = O at hOl' hO1 ⊢
  go_enter Tryz.func64, Tryz.ntmps64
  go_wp2_with fail
  have z0 := row_new w 82 #[.int .u8 0, .int .u8 0, .int .u8 0, .int .u8 0, .int .u8 0, .int .u8 0, .int .u8 0, .int .u8 0]
  have t0 : Hid (Touch (fun _ => False) w (w.alloc (.cells #[.int .u8 0, .int .u8 0, .int .u8 0, .int .u8 0, .int .u8 0, .int .u8 0, .int .u8 0, .int .u8 0] 82))) := (Touch.refl _ w).alloc _
  generalize w.alloc (.cells #[.int .u8 0, .int .u8 0, .int .u8 0, .int .u8 0, .int .u8 0, .int .u8 0, .int .u8 0, .int .u8 0] 82) = wa at z0 t0 ⊢
  have hza := z0.lt
  refine Calls.mono (write_w 8 wa (by omega)) ?_
  rintro e w1 ⟨rfl, W1, t1⟩
  have T1 : Hid (Touch (fun _ => False) wa w1) := t1
  clear t1
  go_wp2_with fail
  refine Calls.mono (number_w2 _ _ _ 8 0 _ W1 (by omega) (by omega)) ?_
  rintro e w2 ⟨rfl, W2, k2⟩
  have T2 : Hid (Touch (fun _ => False) wa w2) := k2.after T1.out (fun i hi => hi)
  clear W1 k2 T1
  go_wp2_with fail
  have W2' := W2.keep ((Touch.refl _ _).alloc (.cells #[.int .u8 id, .int .u8 16] 5))
  have a2 := au_two_arg w2 id 16
  have T2' : Hid (Touch (fun _ => False) wa (w2.alloc (.cells #[.int .u8 id, .int .u8 16] 5))) := T2.out.alloc _
  refine Calls.mono (put_arg _ _ _ 8 _ [id, 16] _ W2' (by omega) a2 (by simp)) ?_
  rintro e w3 ⟨rfl, W3, k3⟩
  have T3 : Hid (Touch (fun _ => False) wa w3) := k3.after T2'.out (fun i hi => hi)
  clear W2 W2' a2 k3 T2 T2'
  go_wp2_with fail
  refine Calls.mono (number_w4 _ _ _ 8 seq _ W3 (by omega) hs) ?_
  rintro e w4 ⟨rfl, W4, k4⟩
  rw [HM.out] at W4
  have T4 : Hid (Touch (fun _ => False) wa w4) := k4.after T3.out (fun i hi => hi)
  clear W3 k4 T3
  go_wp2_with fail
  refine Calls.mono (done_w _ _ MB 8 w4 W4 (by rw [HML.out]; omega) (by omega)) ?_
  rintro e w5 ⟨u, rfl, bu⟩
  have T5 : Hid (Touch (fun _ => False) wa w5) := T4.out.trans bu.t
  have ay := bu.arg
  rcases ay with ⟨_, h0⟩ | ⟨ad, cp, ev, -, -, hsrc⟩
  · have := HML.out; rw [h0] at this; simp at this
  rw [HML.out] at ev
  subst ev
  rw [hOO] at hsrc
  have HSR : Hid (∀ j v, O[j]? = some v → w5.cell? (ad.add j) = some v) := hsrc
  clear hsrc bu W4 T4
  have z5 : w5.heap[w.heap.size]? = some (.cells (bytesOf (List.replicate 8 0)).toArray 82 (0, 0)) := z0.keep T5.out
  have hspl : splice (bytesOf (List.replicate 8 0)) 0 O = O := by unfold splice; rw [hOl', List.drop_eq_nil_of_le (by simp [bytesOf])]; simp
  clear z0
  have T6' : Hid (Touch (fun _ => False) w w5) := t0.out.trans T5.out
  clear T5 t0
  go_wp2_with (first | (refine wpList_copy_splice rfl (.tmp 18) (.tmp 19) 22 22 rfl 5 Tryz.underlying22 (by kernel_rfl) (some ⟨w.heap.size, 0, none⟩) (some ad) 8 8 8 cp rfl rfl w.heap.size 0 (bytesOf (List.replicate 8 0)) 82 z5 O (by rw [hOl']; rfl) (fun _ => ⟨rfl, ad, rfl, HSR.out⟩) (by rw [hOl']; simp [bytesOf]) hO1 w.heap.size w5 (Below.refl _ _) (Nat.le_refl _) ?_; intro w6 hr6 hb6; rw [hspl] at hr6; have HR6 : Hid (Row w6 w.heap.size 82 O) := hr6.out; have T6 : Hid (Touch (fun _ => False) w w6) := touch_below_after T6'.out hb6; clear hr6 hb6 z5) | refine wpList_load_row rfl 82 (.tmp 4) rfl w.heap.size rfl 82 _ (0, 0) _ HR6.out Tryz.underlying82 rfl (by rw [Tryz.info8d, List.size_toArray, hOl']) ?_ | refine wpList_store_row rfl 82 (.tmp 4) (.tmp 21) rfl w.heap.size O.toArray rfl rfl 82 _ HR6.out (by rw [Tryz.info8d, List.size_toArray, hOl']) (by simp [hOl']) (all_oneCell hO1) ?_)
  refine bodyPost_ret (results_cell_row Tryz.results64 _ _ w.heap.size 82 O.toArray (0, 0) _ rfl (HR6.out.setRow O.toArray) Tryz.underlying82 rfl (by rw [Tryz.info8d, List.size_toArray, hOl'])) rfl ?_
  exact ⟨rfl, Touch.setRow T6.out (Or.inr (by omega)) _⟩
theorem mark_cut {d : List Int} (h : d.length = 8) : numAt (d.drop 2) (some 0) 1 = markId d ∧ nextAt (d.drop 2) (some 0) 1 = some 1 ∧ numAt (d.drop 2) (some 2) 4 = markSeq d := by
  have hl : (d.drop 2).length = 6 := by simp; omega
  refine ⟨?_, ?_, ?_⟩
  · unfold numAt markId
    dsimp only
    rw [if_pos (by omega), List.drop_zero]
  · unfold nextAt
    dsimp only
    rw [if_pos (by omega)]
  · unfold numAt markSeq
    dsimp only
    rw [if_pos (by omega), List.drop_drop]
theorem num_bound {l : List Int} (hb : ∀ z ∈ l, 0 ≤ z ∧ z < 256) (p : Nat) : (0 ≤ numOf ((l.drop p).take 1) ∧ numOf ((l.drop p).take 1) < 256) ∧ (0 ≤ numOf ((l.drop p).take 4) ∧ numOf ((l.drop p).take 4) < 4294967296) := by
  have h1 := numOf_bound ((l.drop p).take 1) (fun z hz => hb z (List.mem_of_mem_drop (List.mem_of_mem_take hz)))
  have h4 := numOf_bound ((l.drop p).take 4) (fun z hz => hb z (List.mem_of_mem_drop (List.mem_of_mem_take hz)))
  have l1 : ((l.drop p).take 1).length ≤ 1 := List.length_take_le _ _
  have l4 : ((l.drop p).take 4).length ≤ 4 := List.length_take_le _ _
  refine ⟨⟨h1.1, Int.lt_of_lt_of_le h1.2 ?_⟩, h4.1, Int.lt_of_lt_of_le h4.2 ?_⟩
  · generalize ((l.drop p).take 1).length = n at l1
    rcases (by omega : n = 0 ∨ n = 1) with rfl | rfl <;> decide
  · generalize ((l.drop p).take 4).length = n at l4
    rcases (by omega : n = 0 ∨ n = 1 ∨ n = 2 ∨ n = 3 ∨ n = 4) with rfl | rfl | rfl | rfl | rfl <;> decide
theorem arr_from {w : World} {g : Nat} {d : List Int} (h : Row w g 82 (bytesOf d)) (hd : d.length = 8) : ArgAt w (.slice (some ⟨g, 2, none⟩) 6 6) (d.drop 2) := by
  refine RowAt.arg (Or.inr ⟨g, 2, 6, by simp [hd], by simp [hd], by simp [maxLen], fun j u hj => ?_⟩)
  rw [h.cell (2 + j)]
  simpa [bytesOf, List.getElem?_drop] using hj
set_option maxHeartbeats 2000000 in
theorem marked_any (d : List Int) (w : World) (hby : ∀ z ∈ d, 0 ≤ z ∧ z < 256) (hd : d.length = 8) :
    Calls Tryz.prog 106 #[.agg (bytesOf d).toArray] w fun e w' => e = .returned (.tuple #[.int .u8 (markId d), .int .u32 (markSeq d)]) ∧ Touch (fun _ => False) w w' := by
  obtain ⟨k1, k2, k3⟩ := mark_cut hd
  have hb1 := (num_bound hby 2).1
  have HA : Hid (∀ w' g, Row w' g 82 (bytesOf d) → ArgAt w' (.slice (some ⟨g, 2, none⟩) 6 6) (d.drop 2)) := fun w' g h => arr_from h hd
  have HB1 : Hid (∀ z ∈ d.drop 2, 0 ≤ z ∧ z < 256) := fun z hz => hby z (List.mem_of_mem_drop hz)
  have HL1 : Hid ((d.drop 2).length = 6) := by show _ = _; simp; omega
  have HK1 : Hid (numAt (d.drop 2) (some 0) 1 = markId d) := k1
  have HK2 : Hid (nextAt (d.drop 2) (some 0) 1 = some 1) := k2
  have HK3 : Hid (numAt (d.drop 2) (some 2) 4 = markSeq d) := k3
  have hcv : IntKind.u8.wrap (markId d) = markId d := by unfold markId; simp [IntKind.wrap, IntKind.bits, IntKind.signed]; omega
  generalize markId d = MI at *
  generalize markSeq d = MS at *
  generalize d.drop 2 = R1 at *
  generalize bytesOf d = O at *
  clear k1 k2 k3 hby hd
  go_enter Tryz.func106, Tryz.ntmps106
  go_wp2_with fail
  have z0 := row_new w 82 O.toArray
  rw [List.toList_toArray] at z0
  have t0 : Hid (Touch (fun _ => False) w (w.alloc (.cells O.toArray 82))) := (Touch.refl _ w).alloc _
  generalize w.alloc (.cells O.toArray 82) = wa at z0 t0 ⊢
  refine Calls.mono (read_r _ R1 wa (HA.out wa w.heap.size z0) HB1.out (by have := HL1.out; omega)) ?_
  rintro e w1 ⟨rb, rfl, hrb, r1, t1⟩
  have hza := z0.lt
  have T1 : Hid (Touch (fun _ => False) w w1) := t0.out.trans t1
  generalize w1.heap.size = N at r1
  clear z0 t0 t1
  go_wp2_with fail
  refine Calls.mono (rnum1 N rb R1 (some 0) w1 r1) ?_
  rintro e w2 ⟨rfl, r2, t2⟩
  rw [HK1.out]
  rw [HK2.out] at r2
  have T2 : Hid (Touch (fun _ => False) w w2) := T1.out.trans' t2 (fun i hi e => by omega)
  clear T1 t2 r1
  go_wp2_with fail
  refine Calls.mono (abytes_n 1 N rb 1 R1 w2 r2 (by have := HL1.out; omega) (by have := HL1.out; omega)) ?_
  rintro e w3 ⟨vy, rfl, oy, r3, t3⟩
  have T3 : Hid (Touch (fun _ => False) w w3) := T2.out.trans' t3 (fun i hi e => by omega)
  clear T2 t3 r2 oy
  go_wp2_with fail
  refine Calls.mono (rnum4 N rb R1 (some (1 + 1)) w3 r3) ?_
  rintro e w4 ⟨rfl, r4, t4⟩
  rw [show (1 + 1 : Nat) = 2 from rfl, HK3.out]
  have T4 : Hid (Touch (fun _ => False) w w4) := T3.out.trans' t4 (fun i hi e => by omega)
  clear T3 t4 r3 r4
  go_wp2_with fail
  go_ret2
  exact ⟨rfl, T4.out⟩
end Go.Proofs.YtjjgbcjgmjggnaaGreatDoor
