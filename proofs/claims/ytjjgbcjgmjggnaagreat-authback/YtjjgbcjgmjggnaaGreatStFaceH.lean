/- Package packet's reader: number, small, short, neighbor. -/
import Derived.Test.YtjjgbcjgmjggnaaGreatReader
import Derived.Test.YtjjgbcjgmjggnaaGreatStRow0
import Derived.Test.YtjjgbcjgmjggnaaGreatDigBuf
import Derived.Test.YtjjgbcjgmjggnaaGreatCutB
namespace Go.Proofs.YtjjgbcjgmjggnaaGreat
open Go.RowKit
set_option linter.unusedVariables false
set_option maxRecDepth 100000

/-- The number of n bytes at a place. -/
def nAt (rs : List Int) (p n : Nat) : Int := numOf ((rs.drop p).take n)
theorem nAt_bound {rs : List Int} (hb : ∀ x ∈ rs, 0 ≤ x ∧ x < 256) (p n : Nat) (h : p + n ≤ rs.length) : 0 ≤ nAt rs p n ∧ nAt rs p n < 256 ^ n := by
  have := numOf_bound ((rs.drop p).take n) (fun z hz => hb z (List.mem_of_mem_drop (List.mem_of_mem_take hz)))
  rw [show ((rs.drop p).take n).length = n by simp; omega] at this
  exact this
theorem nAt_one {rs : List Int} {p : Nat} (h : p < rs.length) : nAt rs p 1 = rs.getD p 0 := by
  unfold nAt
  rw [List.drop_eq_getElem_cons h, List.take_succ_cons, List.take_zero]
  simp [numOf, List.getD, h]
/-- Either it is read, or it is given up with 22. -/
structure RP (N : Nat) (w : World) (b : Nat) (rs : List Int) (p n : Nat) (v : Value) (e : Ending) (w' : World) : Prop where
  out : (e = .returned v ∧ p + n ≤ rs.length ∧ Rdr N w' b rs (some (p + n)) ∧ Touch (fun k => k = b) w w') ∨ (e = .panicked (pflawC 22) ∧ rs.length < p + n ∧ Touch (fun k => k = b) w w')
set_option maxHeartbeats 1000000 in
theorem prnum_n (n : Nat) (h1 : 1 ≤ n) (h4 : n ≤ 4) (N b p : Nat) (rs : List Int) (w : World) (h : Rdr N w b rs (some p)) :
    Calls Tryz.prog 113 #[.agg #[.pointer (some ⟨b, 0, none⟩)], .int .i64 (n : Int)] w (RP N w b rs p n (.int .u32 (nAt rs p n))) := by
  have hb := h.lt
  have HN := rnum_r N b n rs (some p) _ (h.keep ((Touch.refl _ _).alloc (.cells #[.pointer (some ⟨b, 0, none⟩)] 140))) h1 h4
  have hne : ¬ w.heap.size = b := by omega
  by_cases hp : p + n ≤ rs.length
  · rw [show numAt rs (some p) n = nAt rs p n by simp [numAt, nAt, hp], show nextAt rs (some p) n = some (p + n) by simp [nextAt, hp]] at HN
    go_enter Tryz.func113, Tryz.ntmps113
    go_wp2_with fail
    refine Calls.mono HN ?_
    rintro e w1 ⟨rfl, r1, t1⟩
    have c1 : w1.cell? ⟨w.heap.size, 0, none⟩ = some (.pointer (some ⟨b, 0, none⟩)) := (t1.cell (p := ⟨w.heap.size, 0, none⟩) (by simp) hne).trans (by simp [go_sem])
    have HE := err_r N b rs (some (p + n)) w1 r1
    rw [if_neg (by simp)] at HE
    have T1 : Hid (Touch (fun k => k = b) w w1) := ((Touch.refl _ w).alloc _).trans t1
    clear t1 HN h
    go_wp2_with fail
    refine Calls.mono HE ?_
    rintro e w2 ⟨rfl, rfl⟩
    go_wp2_with (go_at_call 58; refine (pneed_ok 22 _).mono ?_; rintro e w2 ⟨rfl, rfl⟩)
    go_ret
    exact ⟨Or.inl ⟨rfl, hp, r1, T1.out⟩⟩
  · rw [show numAt rs (some p) n = 0 by simp [numAt, hp], show nextAt rs (some p) n = none by simp [nextAt, hp]] at HN
    go_enter Tryz.func113, Tryz.ntmps113
    go_wp2_with fail
    refine Calls.mono HN ?_
    rintro e w1 ⟨rfl, r1, t1⟩
    have c1 : w1.cell? ⟨w.heap.size, 0, none⟩ = some (.pointer (some ⟨b, 0, none⟩)) := (t1.cell (p := ⟨w.heap.size, 0, none⟩) (by simp) hne).trans (by simp [go_sem])
    have HE := err_r N b rs none w1 r1
    rw [if_pos rfl] at HE
    have T1 : Hid (Touch (fun k => k = b) w w1) := ((Touch.refl _ w).alloc _).trans t1
    clear t1 HN h
    go_wp2_with fail
    refine Calls.mono HE ?_
    rintro e w2 ⟨rfl, rfl⟩
    go_wp2_with (go_at_call 58; refine (pneed_no 22 _).mono ?_; rintro e w2 ⟨rfl, rfl⟩)
    exact ⟨rfl, ⟨Or.inr ⟨rfl, by omega, T1.out⟩⟩⟩
theorem prnum (n : Int) (hn : n = 1 ∨ n = 2 ∨ n = 4) (N b p : Nat) (rs : List Int) (w : World) (h : Rdr N w b rs (some p)) :
    Calls Tryz.prog 113 #[.agg #[.pointer (some ⟨b, 0, none⟩)], .int .i64 n] w (RP N w b rs p n.toNat (.int .u32 (nAt rs p n.toNat))) := by
  rcases hn with rfl | rfl | rfl
  · exact prnum_n 1 (by omega) (by omega) N b p rs w  h
  · exact prnum_n 2 (by omega) (by omega) N b p rs w  h
  · exact prnum_n 4 (by omega) (by omega) N b p rs w  h

set_option maxHeartbeats 1000000 in
theorem prsmall (N b p : Nat) (rs : List Int) (w : World) (h : Rdr N w b rs (some p)) :
    Calls Tryz.prog 111 #[.agg #[.pointer (some ⟨b, 0, none⟩)]] w (RP N w b rs p 1 (.int .u8 (nAt rs p 1))) := by
  have HN := prnum 1 (by omega) N b p rs _ (h.keep ((Touch.refl _ _).alloc (.cells #[.pointer (some ⟨b, 0, none⟩)] 140)))
  go_enter Tryz.func111, Tryz.ntmps111
  go_wp2_with fail
  refine Calls.mono HN ?_
  intro e w1 h1
  rcases h1.out with ⟨rfl, l1, r1, t1⟩ | ⟨rfl, l1, t1⟩
  · have T1 : Hid (Touch (fun k => k = b) w w1) := ((Touch.refl _ w).alloc _).trans t1
    have hw : IntKind.u8.wrap (nAt rs p 1) = nAt rs p 1 := by have := nAt_bound h.byte p 1 l1; simp [IntKind.wrap, IntKind.bits, IntKind.signed]; omega
    clear HN h1 t1
    go_wp2
    go_ret
    exact ⟨Or.inl ⟨rfl, l1, r1, T1.out⟩⟩
  · exact ⟨rfl, ⟨Or.inr ⟨rfl, l1, ((Touch.refl _ w).alloc _).trans t1⟩⟩⟩

set_option maxHeartbeats 1000000 in
theorem prshort (N b p : Nat) (rs : List Int) (w : World) (h : Rdr N w b rs (some p)) :
    Calls Tryz.prog 112 #[.agg #[.pointer (some ⟨b, 0, none⟩)]] w (RP N w b rs p 2 (.int .u16 (nAt rs p 2))) := by
  have HN := prnum 2 (by omega) N b p rs _ (h.keep ((Touch.refl _ _).alloc (.cells #[.pointer (some ⟨b, 0, none⟩)] 140)))
  go_enter Tryz.func112, Tryz.ntmps112
  go_wp2_with fail
  refine Calls.mono HN ?_
  intro e w1 h1
  rcases h1.out with ⟨rfl, l1, r1, t1⟩ | ⟨rfl, l1, t1⟩
  · have T1 : Hid (Touch (fun k => k = b) w w1) := ((Touch.refl _ w).alloc _).trans t1
    have hw : IntKind.u16.wrap (nAt rs p 2) = nAt rs p 2 := by have := nAt_bound h.byte p 2 l1; simp [IntKind.wrap, IntKind.bits, IntKind.signed]; omega
    clear HN h1 t1
    go_wp2
    go_ret
    exact ⟨Or.inl ⟨rfl, l1, r1, T1.out⟩⟩
  · exact ⟨rfl, ⟨Or.inr ⟨rfl, l1, ((Touch.refl _ w).alloc _).trans t1⟩⟩⟩

set_option maxHeartbeats 1000000 in
theorem prnb (N b p : Nat) (rs : List Int) (w : World) (h : Rdr N w b rs (some p)) :
    Calls Tryz.prog 141 #[.agg #[.pointer (some ⟨b, 0, none⟩)]] w (RP N w b rs p 4 (.int .u32 (nAt rs p 4))) := by
  have HN := prnum 4 (by omega) N b p rs _ (h.keep ((Touch.refl _ _).alloc (.cells #[.pointer (some ⟨b, 0, none⟩)] 140)))
  go_enter Tryz.func141, Tryz.ntmps141
  go_wp2_with fail
  refine Calls.mono HN ?_
  intro e w1 h1
  rcases h1.out with ⟨rfl, l1, r1, t1⟩ | ⟨rfl, l1, t1⟩
  · have T1 : Hid (Touch (fun k => k = b) w w1) := ((Touch.refl _ w).alloc _).trans t1
    clear HN h1 t1
    go_wp2
    go_ret
    exact ⟨Or.inl ⟨rfl, l1, r1, T1.out⟩⟩
  · exact ⟨rfl, ⟨Or.inr ⟨rfl, l1, ((Touch.refl _ w).alloc _).trans t1⟩⟩⟩

/-- So many bytes, as new ones. -/
theorem pbytes_n (n : Nat) (N b p : Nat) (rs : List Int) (w : World) (h : Rdr N w b rs (some p)) (hp : p + n ≤ rs.length) (hc : rs.length ≤ 1000000) :
    Calls Tryz.prog 103 #[.pointer (some ⟨b, 0, none⟩), .int .i64 (n : Int)] w fun e w' => ∃ v, e = .returned v ∧ w'.ownsRow w.heap.size 5 1 v ((rs.drop p).take n).length (bytesOf ((rs.drop p).take n)) ∧ Rdr N w' b rs (some (p + n)) ∧ Touch (fun k => k = b) w w' := by
  obtain ⟨rv, p', err, h, hb, ho, ⟨e, rfl⟩ | ⟨e, rfl⟩⟩ := h
  · cases e
    have hs : stepR rs.length p 0 (n : Int) = (p + n, 0, true) := by
      rw [stepR_ok _ _ _ (by omega) (by omega)]
      simp
    refine (rbytes_all b p _ 0 rv rs w h (by omega) (by omega)).mono ?_
    rintro e w' ⟨v, rfl, hown, hr, t⟩
    have hg : gotR rs p 0 (n : Int) = (rs.drop p).take n := by
      simp only [gotR, hs, if_true, Int.toNat_natCast]
    rw [hg] at hown
    rw [hs] at hr
    exact ⟨v, rfl, hown, ⟨rv, _, _, hr, hb, ho, Or.inl ⟨rfl, rfl⟩⟩, t⟩
  · cases e
/-- Of x nothing outside F has turned. -/
structure Onl (F : Nat → Prop) (x w : World) : Prop where
  t : Touch F x w
theorem onl_cell {F : Nat → Prop} {x : World} {p : Addr} {v : Value} (h : x.cell? p = some v) (hf : ¬ F p.block) : ∀ w, Onl F x w → w.cell? p = some v := fun w s => (s.t.cell (lt_of_cellA h) hf).trans h
theorem Onl.step {F G : Nat → Prop} {x w w' : World} (h : Onl F x w) (t : Touch G w w') (hG : ∀ k, G k → F k) : Onl F x w' := ⟨h.t.trans' t (fun i _ g => hG i g)⟩
theorem Onl.keep {F : Nat → Prop} {x w w' : World} (h : Onl F x w) (t : Touch (fun _ => False) w w') : Onl F x w' := h.step t (fun _ f => f.elim)
theorem Onl.set {F : Nat → Prop} {x w : World} (h : Onl F x w) {g : Nat} (hg : F g) (i : Nat) (v : Value) : Onl F x (w.setCell ⟨g, i, none⟩ v) := ⟨Touch.setCell h.t (Or.inl hg) _⟩
end Go.Proofs.YtjjgbcjgmjggnaaGreat

namespace Go.Proofs.YtjjgbcjgmjggnaaGreat
open Go.RowKit
set_option linter.unusedVariables false
set_option maxRecDepth 100000

theorem catchH_idle (b : Nat) (w : World) :
    CallsD Tryz.prog 173 #[.pointer (some ⟨b, 0, none⟩)] .returning w fun r u' w' => r = .returned (.tuple #[]) ∧ u' = .returning ∧ w' = w := by
  refine callsD_of_wpS Tryz.func173 rfl fun c₀ cs hu => ?_
  apply wpS_seq
  apply wpS_region
  simp [wpOpsS, go_sem, recoverD, hu, ta_nil, Tryz.ntmps173, Exit.thenS]
  apply wpS_seq
  apply wpS_region
  simp [wpOpsS, go_sem, Exit.thenS]
  refine wpS_cond (t := false) (by simp [Act.eval, Array.replicate]) ?_
  simp only [Bool.false_eq_true, if_false]
  refine wpS_of_wp (wp_skip ?_)
  cases c₀
  simp_all [bodyPostS, results, Tryz.results173]
/-- The face where its function answers. -/
theorem faceH_ok (G : Nat) (cap : Array Value) (hG : ∀ w, (callFunc G cap).run Tryz.prog w = .ok (.enter G cap) w) (w : World) (x0 x1 x2 x3 x4 x5 x6 x7 : Int) (K : World → Prop)
    (h : Calls Tryz.prog G cap ((w.alloc (.cells #[.int .u16 0, .int .u8 0, .int .u8 0, .int .u32 0, .int .u32 0, .int .i32 0, .int .u16 0, .int .u16 0] 93)).alloc (.cells #[.int .i64 0] 39)) fun e w' => e = .returned (.agg #[.int .u16 x0, .int .u8 x1, .int .u8 x2, .int .u32 x3, .int .u32 x4, .int .i32 x5, .int .u16 x6, .int .u16 x7]) ∧ Touch (fun _ => False) ((w.alloc (.cells #[.int .u16 0, .int .u8 0, .int .u8 0, .int .u32 0, .int .u32 0, .int .i32 0, .int .u16 0, .int .u16 0] 93)).alloc (.cells #[.int .i64 0] 39)) w' ∧ K w')
    (hK : ∀  w1 w2, K w1 → Touch (fun _ => False) ((w.alloc (.cells #[.int .u16 0, .int .u8 0, .int .u8 0, .int .u32 0, .int .u32 0, .int .i32 0, .int .u16 0, .int .u16 0] 93)).alloc (.cells #[.int .i64 0] 39)) w1 → Touch (fun k => k = w.heap.size ∨ k = w.heap.size + 1) w1 w2 → K w2) :
    Calls Tryz.prog 169 #[.func (.func G) #[] cap] w fun e w' => e = .returned (.tuple #[.agg #[.int .u16 x0, .int .u8 x1, .int .u8 x2, .int .u32 x3, .int .u32 x4, .int .i32 x5, .int .u16 x6, .int .u16 x7], .int .i64 0]) ∧ Touch (fun _ => False) w w' ∧ K w' := by
  have hmf : ∀ (fn : Fn) (first cap : Array Value) (w : World), (Instr.makeFunc fn first cap).run Tryz.prog w = .ok (.func fn first cap) w := fun _ _ _ _ => rfl
  go_enter_defers Tryz.func169, Tryz.ntmps169
  go_wp2_with fail
  refine h.mono ?_
  rintro e w1 ⟨rfl, t1, k1⟩
  have t0 := (((Touch.refl (fun _ => False) w).alloc _).alloc _).trans t1
  have FZ : Hid (∀ i, i < 8 → w1.frozen? ⟨w.heap.size, i, none⟩ = false) := fun i hi => (t1.frozen (p := ⟨w.heap.size, i, none⟩) (by simp; omega) (fun h => h)).trans (by simp [go_sem])
  have fz1 : w1.frozen? ⟨w.heap.size + 1, 0, none⟩ = false := (t1.frozen (p := ⟨w.heap.size + 1, 0, none⟩) (by simp) (fun h => h)).trans (by simp [go_sem])
  have ce1 : w1.cell? ⟨w.heap.size + 1, 0, none⟩ = some (.int .i64 0) := t1.cellN (by simp [go_sem])
  have c0 : w1.cell? ⟨w.heap.size, 0, none⟩ = some (.int .u16 0) := t1.cellN (by simp [go_sem])
  have z0 := FZ.out 0 (by omega)
  have c1 : w1.cell? ⟨w.heap.size, 1, none⟩ = some (.int .u8 0) := t1.cellN (by simp [go_sem])
  have z1 := FZ.out 1 (by omega)
  have c2 : w1.cell? ⟨w.heap.size, 2, none⟩ = some (.int .u8 0) := t1.cellN (by simp [go_sem])
  have z2 := FZ.out 2 (by omega)
  have c3 : w1.cell? ⟨w.heap.size, 3, none⟩ = some (.int .u32 0) := t1.cellN (by simp [go_sem])
  have z3 := FZ.out 3 (by omega)
  have c4 : w1.cell? ⟨w.heap.size, 4, none⟩ = some (.int .u32 0) := t1.cellN (by simp [go_sem])
  have z4 := FZ.out 4 (by omega)
  have c5 : w1.cell? ⟨w.heap.size, 5, none⟩ = some (.int .i32 0) := t1.cellN (by simp [go_sem])
  have z5 := FZ.out 5 (by omega)
  have c6 : w1.cell? ⟨w.heap.size, 6, none⟩ = some (.int .u16 0) := t1.cellN (by simp [go_sem])
  have z6 := FZ.out 6 (by omega)
  have c7 : w1.cell? ⟨w.heap.size, 7, none⟩ = some (.int .u16 0) := t1.cellN (by simp [go_sem])
  have z7 := FZ.out 7 (by omega)
  clear FZ
  have HT : Hid (Touch (fun _ => False) w w1) := t0
  have HK : Hid (K w1) := k1
  have HT1 : Hid (Touch (fun _ => False) ((w.alloc (.cells #[.int .u16 0, .int .u8 0, .int .u8 0, .int .u32 0, .int .u32 0, .int .i32 0, .int .u16 0, .int .u16 0] 93)).alloc (.cells #[.int .i64 0] 39)) w1) := t1
  obtain ⟨w2, hw2⟩ : ∃ w2, w2 = ((((((((w1.setCell ⟨w.heap.size, 0, none⟩ (.int .u16 x0)).setCell ⟨w.heap.size, 1, none⟩ (.int .u8 x1)).setCell ⟨w.heap.size, 2, none⟩ (.int .u8 x2)).setCell ⟨w.heap.size, 3, none⟩ (.int .u32 x3)).setCell ⟨w.heap.size, 4, none⟩ (.int .u32 x4)).setCell ⟨w.heap.size, 5, none⟩ (.int .i32 x5)).setCell ⟨w.heap.size, 6, none⟩ (.int .u16 x6)).setCell ⟨w.heap.size, 7, none⟩ (.int .u16 x7)).setCell ⟨w.heap.size + 1, 0, none⟩ (.int .i64 0) := ⟨_, rfl⟩
  have d0 : w2.cell? ⟨w.heap.size, 0, none⟩ = some (.int .u16 x0) := by rw [hw2]; simp [c0, go_sem]
  have d1 : w2.cell? ⟨w.heap.size, 1, none⟩ = some (.int .u8 x1) := by rw [hw2]; simp [c1, go_sem]
  have d2 : w2.cell? ⟨w.heap.size, 2, none⟩ = some (.int .u8 x2) := by rw [hw2]; simp [c2, go_sem]
  have d3 : w2.cell? ⟨w.heap.size, 3, none⟩ = some (.int .u32 x3) := by rw [hw2]; simp [c3, go_sem]
  have d4 : w2.cell? ⟨w.heap.size, 4, none⟩ = some (.int .u32 x4) := by rw [hw2]; simp [c4, go_sem]
  have d5 : w2.cell? ⟨w.heap.size, 5, none⟩ = some (.int .i32 x5) := by rw [hw2]; simp [c5, go_sem]
  have d6 : w2.cell? ⟨w.heap.size, 6, none⟩ = some (.int .u16 x6) := by rw [hw2]; simp [c6, go_sem]
  have d7 : w2.cell? ⟨w.heap.size, 7, none⟩ = some (.int .u16 x7) := by rw [hw2]; simp [c7, go_sem]
  have de : w2.cell? ⟨w.heap.size + 1, 0, none⟩ = some (.int .i64 0) := by rw [hw2]; simp [ce1, go_sem]
  have HU : Hid (Touch (fun k => k = w.heap.size ∨ k = w.heap.size + 1) w1 w2) := by
    show Touch _ _ _
    rw [hw2]
    exact Touch.setCell (Touch.setCell (Touch.setCell (Touch.setCell (Touch.setCell (Touch.setCell (Touch.setCell (Touch.setCell (Touch.setCell (Touch.refl _ _) (Or.inl (Or.inl rfl)) _) (Or.inl (Or.inl rfl)) _) (Or.inl (Or.inl rfl)) _) (Or.inl (Or.inl rfl)) _) (Or.inl (Or.inl rfl)) _) (Or.inl (Or.inl rfl)) _) (Or.inl (Or.inl rfl)) _) (Or.inl (Or.inl rfl)) _) (Or.inl (Or.inr rfl)) _
  have HW : Hid (w2 = ((((((((w1.setCell ⟨w.heap.size, 0, none⟩ (.int .u16 x0)).setCell ⟨w.heap.size, 1, none⟩ (.int .u8 x1)).setCell ⟨w.heap.size, 2, none⟩ (.int .u8 x2)).setCell ⟨w.heap.size, 3, none⟩ (.int .u32 x3)).setCell ⟨w.heap.size, 4, none⟩ (.int .u32 x4)).setCell ⟨w.heap.size, 5, none⟩ (.int .i32 x5)).setCell ⟨w.heap.size, 6, none⟩ (.int .u16 x6)).setCell ⟨w.heap.size, 7, none⟩ (.int .u16 x7)).setCell ⟨w.heap.size + 1, 0, none⟩ (.int .i64 0)) := hw2
  clear t0 t1 k1 h hw2
  go_wp2_with fail
  rw [← HW.out]
  clear HW c0 z0 c1 z1 c2 z2 c3 z3 c4 z4 c5 z5 c6 z6 c7 z7 fz1 ce1
  refine leaves_cons (f := 173) (args := #[.pointer (some ⟨w.heap.size + 1, 0, none⟩)]) (by simp) (by simp [go_sem]) ?_
  refine (catchH_idle (w.heap.size + 1) _).mono ?_
  rintro e u' w'' ⟨rfl, rfl, rfl⟩
  refine ⟨.tuple #[.agg #[.int .u16 x0, .int .u8 x1, .int .u8 x2, .int .u32 x3, .int .u32 x4, .int .i32 x5, .int .u16 x6, .int .u16 x7], .int .i64 0], by simp [results, Tryz.results169, go_sem, d0, d1, d2, d3, d4, d5, d6, d7, de], rfl, ?_, hK _ _ HK.out HT1.out HU.out⟩
  exact HT.out.trans' HU.out (fun i hi hf => by omega)
end Go.Proofs.YtjjgbcjgmjggnaaGreat
