/- A reader of bytes as a whole: where it is, or that it was short. -/
import Derived.Test.YtjgeklipeeooaaaGreatDoorDigBuf
import Derived.Test.YtjgeklipeeooaaaGreatDoorReader
namespace Go.Proofs.YtjgeklipeeooaaaGreatDoor
open Go.RowKit
set_option linter.unusedVariables false
set_option maxRecDepth 100000

theorem numVal_numOf (l : List Int) : numVal l = numOf l := by
  unfold numVal numOf
  congr 1
  funext a x
  rw [Int.mul_comm]

/-- A reader in block b: at the place q, or short; it and its row lie below N. -/
structure Rdr (N : Nat) (w : World) (b : Nat) (rs : List Int) (q : Option Nat) : Prop where
  out : ∃ rv p err, RdS w b rv rs p err ∧ b < N ∧ (∀ k, rv.ownBlock = some k → k < N) ∧ ((q = some p ∧ err = 0) ∨ (q = none ∧ err = 10))
theorem Rdr.touch {F : Nat → Prop} {N : Nat} {w w' : World} {b : Nat} {rs : List Int} {q : Option Nat} (h : Rdr N w b rs q) (t : Touch F w w') (hF : ∀ k, k < N → ¬ F k) : Rdr N w' b rs q := by
  obtain ⟨rv, p, err, h, hb, ho, hq⟩ := h
  exact ⟨rv, p, err, h.touch t (hF b hb) (fun k hk => hF k (ho k hk)), hb, ho, hq⟩
theorem Rdr.keep {N : Nat} {w w' : World} {b : Nat} {rs : List Int} {q : Option Nat} (h : Rdr N w b rs q) (t : Touch (fun _ => False) w w') : Rdr N w' b rs q := h.touch t (fun _ _ h => h)
theorem Rdr.low {N : Nat} {w : World} {b : Nat} {rs : List Int} {q : Option Nat} (h : Rdr N w b rs q) : b < N := by obtain ⟨_, _, _, _, hb, _⟩ := h; exact hb
theorem Rdr.lt {N : Nat} {w : World} {b : Nat} {rs : List Int} {q : Option Nat} (h : Rdr N w b rs q) : b < w.heap.size := by obtain ⟨_, _, _, h, _⟩ := h; exact lt_of_cell h.made
theorem Rdr.byte {N : Nat} {w : World} {b : Nat} {rs : List Int} {q : Option Nat} (h : Rdr N w b rs q) : ∀ x ∈ rs, 0 ≤ x ∧ x < 256 := by obtain ⟨_, _, _, h, _⟩ := h; exact h.byte
theorem Rdr.ple {N : Nat} {w : World} {b : Nat} {rs : List Int} {p : Nat} (h : Rdr N w b rs (some p)) : p ≤ rs.length := by
  obtain ⟨_, _, _, h, _, _, ⟨e, _⟩ | ⟨e, _⟩⟩ := h
  · cases e; exact h.ple
  · cases e
/-- What n bytes at a place are as a number; the place behind them. -/
def numAt (rs : List Int) (q : Option Nat) (n : Nat) : Int := match q with
  | some p => if p + n ≤ rs.length then numOf ((rs.drop p).take n) else 0
  | none => 0
def nextAt (rs : List Int) (q : Option Nat) (n : Nat) : Option Nat := match q with
  | some p => if p + n ≤ rs.length then some (p + n) else none
  | none => none
def leftAt (rs : List Int) (q : Option Nat) : Int := match q with
  | some p => (rs.length : Int) - p
  | none => 0
theorem numAt_bound {rs : List Int} (hb : ∀ x ∈ rs, 0 ≤ x ∧ x < 256) (q : Option Nat) (n : Nat) : 0 ≤ numAt rs q n ∧ numAt rs q n < 256 ^ n := by
  have hp : (0 : Int) < 256 ^ n := Int.pow_pos (by decide)
  unfold numAt
  split
  · split
    · rename_i p h
      have := numOf_bound ((rs.drop p).take n) (fun z hz => hb z (List.mem_of_mem_drop (List.mem_of_mem_take hz)))
      rw [show ((rs.drop p).take n).length = n by simp; omega] at this
      exact this
    · omega
  · omega

theorem rnum_r (N b n : Nat) (rs : List Int) (q : Option Nat) (w : World) (h : Rdr N w b rs q) (h1 : 1 ≤ n) (h4 : n ≤ 4) :
    Calls Tryz.prog 117 #[.pointer (some ⟨b, 0, none⟩), .int .i64 n] w fun e w' => e = .returned (.int .u32 (numAt rs q n)) ∧ Rdr N w' b rs (nextAt rs q n) ∧ Touch (fun k => k = b) w w' := by
  obtain ⟨rv, p, err, h, hb, ho, ⟨rfl, rfl⟩ | ⟨rfl, rfl⟩⟩ := h
  · by_cases hp : p + n ≤ rs.length
    · refine (rnumber_ok b p n rv rs w h (by omega) (by omega) (by omega)).mono ?_
      rintro e w' ⟨rfl, hr, t, _⟩
      refine ⟨?_, ⟨rv, _, _, hr, hb, ho, Or.inl ⟨?_, rfl⟩⟩, t⟩
      · simp only [numAt, if_pos hp, numVal_numOf]
      · simp only [nextAt, if_pos hp]
    · refine (rnumber_short b p n rv rs w h (by omega) (by omega) (by omega)).mono ?_
      rintro e w' ⟨rfl, hr, t, _⟩
      refine ⟨?_, ⟨rv, _, _, hr, hb, ho, Or.inr ⟨?_, rfl⟩⟩, t⟩
      · simp only [numAt, if_neg hp]
      · simp only [nextAt, if_neg hp]
  · refine (rnumber_dead b p n 10 rv rs w h (by omega)).mono ?_
    rintro e w' ⟨rfl, rfl⟩
    exact ⟨rfl, ⟨rv, p, 10, h, hb, ho, Or.inr ⟨rfl, rfl⟩⟩, Touch.refl _ _⟩
theorem rnum1 (N b : Nat) (rs : List Int) (q : Option Nat) (w : World) (h : Rdr N w b rs q) :
    Calls Tryz.prog 117 #[.pointer (some ⟨b, 0, none⟩), .int .i64 1] w fun e w' => e = .returned (.int .u32 (numAt rs q 1)) ∧ Rdr N w' b rs (nextAt rs q 1) ∧ Touch (fun k => k = b) w w' := rnum_r N b 1 rs q w h (by omega) (by omega)
theorem rnum2 (N b : Nat) (rs : List Int) (q : Option Nat) (w : World) (h : Rdr N w b rs q) :
    Calls Tryz.prog 117 #[.pointer (some ⟨b, 0, none⟩), .int .i64 2] w fun e w' => e = .returned (.int .u32 (numAt rs q 2)) ∧ Rdr N w' b rs (nextAt rs q 2) ∧ Touch (fun k => k = b) w w' := rnum_r N b 2 rs q w h (by omega) (by omega)
theorem rnum3 (N b : Nat) (rs : List Int) (q : Option Nat) (w : World) (h : Rdr N w b rs q) :
    Calls Tryz.prog 117 #[.pointer (some ⟨b, 0, none⟩), .int .i64 3] w fun e w' => e = .returned (.int .u32 (numAt rs q 3)) ∧ Rdr N w' b rs (nextAt rs q 3) ∧ Touch (fun k => k = b) w w' := rnum_r N b 3 rs q w h (by omega) (by omega)
theorem rnum4 (N b : Nat) (rs : List Int) (q : Option Nat) (w : World) (h : Rdr N w b rs q) :
    Calls Tryz.prog 117 #[.pointer (some ⟨b, 0, none⟩), .int .i64 4] w fun e w' => e = .returned (.int .u32 (numAt rs q 4)) ∧ Rdr N w' b rs (nextAt rs q 4) ∧ Touch (fun k => k = b) w w' := rnum_r N b 4 rs q w h (by omega) (by omega)

theorem left_r (N b : Nat) (rs : List Int) (q : Option Nat) (w : World) (h : Rdr N w b rs q) :
    Calls Tryz.prog 175 #[.pointer (some ⟨b, 0, none⟩)] w fun e w' => e = .returned (.int .i64 (leftAt rs q)) ∧ ∃ n, w' = w.drewN n := by
  obtain ⟨rv, p, err, h, hb, ho, ⟨rfl, rfl⟩ | ⟨rfl, rfl⟩⟩ := h
  · exact left_ok b p rv rs w h
  · refine (left_dead b 10 w h.made h.err (by decide)).mono ?_
    rintro e w' ⟨rfl, rfl⟩
    exact ⟨rfl, 0, rfl⟩
theorem err_r (N b : Nat) (rs : List Int) (q : Option Nat) (w : World) (h : Rdr N w b rs q) :
    Calls Tryz.prog 168 #[.pointer (some ⟨b, 0, none⟩)] w fun e w' => e = .returned (.int .i64 (if q = none then 10 else 0)) ∧ w = w' := by
  obtain ⟨rv, p, err, h, hb, ho, ⟨rfl, rfl⟩ | ⟨rfl, rfl⟩⟩ := h
  · exact err_any b 0 w h.made h.err
  · exact err_any b 10 w h.made h.err
/-- Read: a reader of a copy. -/
theorem read_r (v : Value) (bs : List Int) (w : World) (h : ArgAt w v bs) (hby : ∀ x ∈ bs, 0 ≤ x ∧ x < 256) (hcap : bs.length ≤ 1099511627776) :
    Calls Tryz.prog 110 #[v] w fun e w' => ∃ b, e = .returned (.pointer (some ⟨b, 0, none⟩)) ∧ w.heap.size ≤ b ∧ Rdr w'.heap.size w' b bs (some 0) ∧ Touch (fun _ => False) w w' := by
  have fin : ∀ (b : Nat) (rv : Value) (w' : World), w.heap.size ≤ b → RdS w' b rv bs 0 0 → Touch (fun _ => False) w w' →
      ∃ b', (Ending.returned (.pointer (some ⟨b, 0, none⟩))) = .returned (.pointer (some ⟨b', 0, none⟩)) ∧ w.heap.size ≤ b' ∧ Rdr w'.heap.size w' b' bs (some 0) ∧ Touch (fun _ => False) w w' :=
    fun b rv w' hb hr t => ⟨b, rfl, hb, ⟨rv, 0, 0, hr, lt_of_cell hr.made, hr.blk, Or.inl ⟨rfl, rfl⟩⟩, t⟩
  rcases h with ⟨rfl, rfl⟩ | ⟨ad, c, rfl, hlc, hcm, hs⟩
  · go_enter Tryz.func110, Tryz.ntmps110
    go_wp2_with (go_at_call 137; refine (clone_nil _).mono ?_; rintro e w' ⟨rfl, rfl⟩)
    go_ret
    exact fin _ _ _ (Nat.le_refl _) ⟨by simp, by simp, by simp, by simp, by simp, by simp, by simp, Or.inl ⟨rfl, rfl⟩, by simp [Value.ownBlock], by simp, by simp [Value.ownBlock]⟩ ((Touch.refl _ _).alloc _)
  · go_enter Tryz.func110, Tryz.ntmps110
    go_wp2_with (go_at_call 137; refine (clone_some _ _ bs _ hs hcap).mono ?_; rintro e w' ⟨v', rfl, hown, ht, hne⟩; obtain ⟨va, vc, rfl, _⟩ := rowAt_form (own_rowAt hown))
    go_ret
    refine fin _ (.slice va bs.length vc) _ ht.size ⟨by simp, by simp, by simp, by simp, by simp, by simp, by simp, ?_, ?_, hby, fun k hk => by have := (hown.lt k hk).2; simp; omega⟩ (ht.alloc _)
    · exact (own_rowAt hown).touch ((Touch.refl (fun _ => False) _).alloc _) (fun _ _ h => h)
    · intro hk; have := (hown.lt _ hk).2; omega
end Go.Proofs.YtjgeklipeeooaaaGreatDoor

namespace Go.Proofs.YtjgeklipeeooaaaGreatDoor
open Go.RowKit
set_option linter.unusedVariables false
set_option maxRecDepth 100000

/-- The number of n bytes at a place. -/
def nAt (rs : List Int) (p n : Nat) : Int := numOf ((rs.drop p).take n)
theorem nAt_bound {rs : List Int} (hb : ∀ x ∈ rs, 0 ≤ x ∧ x < 256) (p n : Nat) (h : p + n ≤ rs.length) : 0 ≤ nAt rs p n ∧ nAt rs p n < 256 ^ n := by
  have := numOf_bound ((rs.drop p).take n) (fun z hz => hb z (List.mem_of_mem_drop (List.mem_of_mem_take hz)))
  rw [show ((rs.drop p).take n).length = n by simp; omega] at this
  exact this
theorem nAt_one {rs : List Int} {p : Nat} (h : p < rs.length) : nAt rs p 1 = rs.getD p 0 := by
  unfold nAt
  rw [List.drop_eq_getElem_cons h, List.take_succ_cons, List.take_zero]
  simp [numOf, List.getD, h]
/-- Either it is read, or it is given up with 22. -/
structure RP (N : Nat) (w : World) (b : Nat) (rs : List Int) (p n : Nat) (v : Value) (e : Ending) (w' : World) : Prop where
  out : (e = .returned v ∧ p + n ≤ rs.length ∧ Rdr N w' b rs (some (p + n)) ∧ Touch (fun k => k = b) w w') ∨ (e = .panicked (pflawC 22) ∧ rs.length < p + n ∧ Touch (fun k => k = b) w w')
set_option maxHeartbeats 1000000 in
theorem prnum_n (n : Nat) (h1 : 1 ≤ n) (h4 : n ≤ 4) (N b p : Nat) (rs : List Int) (w : World) (h : Rdr N w b rs (some p)) :
    Calls Tryz.prog 140 #[.agg #[.pointer (some ⟨b, 0, none⟩)], .int .i64 (n : Int)] w (RP N w b rs p n (.int .u32 (nAt rs p n))) := by
  have hb := h.lt
  have HN := rnum_r N b n rs (some p) _ (h.keep ((Touch.refl _ _).alloc (.cells #[.pointer (some ⟨b, 0, none⟩)] 189))) h1 h4
  have hne : ¬ w.heap.size = b := by omega
  by_cases hp : p + n ≤ rs.length
  · rw [show numAt rs (some p) n = nAt rs p n by simp [numAt, nAt, hp], show nextAt rs (some p) n = some (p + n) by simp [nextAt, hp]] at HN
    go_enter Tryz.func140, Tryz.ntmps140
    go_wp2_with fail
    refine Calls.mono HN ?_
    rintro e w1 ⟨rfl, r1, t1⟩
    have c1 : w1.cell? ⟨w.heap.size, 0, none⟩ = some (.pointer (some ⟨b, 0, none⟩)) := (t1.cell (p := ⟨w.heap.size, 0, none⟩) (by simp) hne).trans (by simp [go_sem])
    have HE := err_r N b rs (some (p + n)) w1 r1
    rw [if_neg (by simp)] at HE
    have T1 : Hid (Touch (fun k => k = b) w w1) := ((Touch.refl _ w).alloc _).trans t1
    clear t1 HN h
    go_wp2_with fail
    refine Calls.mono HE ?_
    rintro e w2 ⟨rfl, rfl⟩
    go_wp2_with (go_at_call 90; refine (pneed_ok 22 _).mono ?_; rintro e w2 ⟨rfl, rfl⟩)
    go_ret
    exact ⟨Or.inl ⟨rfl, hp, r1, T1.out⟩⟩
  · rw [show numAt rs (some p) n = 0 by simp [numAt, hp], show nextAt rs (some p) n = none by simp [nextAt, hp]] at HN
    go_enter Tryz.func140, Tryz.ntmps140
    go_wp2_with fail
    refine Calls.mono HN ?_
    rintro e w1 ⟨rfl, r1, t1⟩
    have c1 : w1.cell? ⟨w.heap.size, 0, none⟩ = some (.pointer (some ⟨b, 0, none⟩)) := (t1.cell (p := ⟨w.heap.size, 0, none⟩) (by simp) hne).trans (by simp [go_sem])
    have HE := err_r N b rs none w1 r1
    rw [if_pos rfl] at HE
    have T1 : Hid (Touch (fun k => k = b) w w1) := ((Touch.refl _ w).alloc _).trans t1
    clear t1 HN h
    go_wp2_with fail
    refine Calls.mono HE ?_
    rintro e w2 ⟨rfl, rfl⟩
    go_wp2_with (go_at_call 90; refine (pneed_no 22 _).mono ?_; rintro e w2 ⟨rfl, rfl⟩)
    exact ⟨rfl, ⟨Or.inr ⟨rfl, by omega, T1.out⟩⟩⟩
theorem prnum (n : Int) (hn : n = 1 ∨ n = 2 ∨ n = 4) (N b p : Nat) (rs : List Int) (w : World) (h : Rdr N w b rs (some p)) :
    Calls Tryz.prog 140 #[.agg #[.pointer (some ⟨b, 0, none⟩)], .int .i64 n] w (RP N w b rs p n.toNat (.int .u32 (nAt rs p n.toNat))) := by
  rcases hn with rfl | rfl | rfl
  · exact prnum_n 1 (by omega) (by omega) N b p rs w  h
  · exact prnum_n 2 (by omega) (by omega) N b p rs w  h
  · exact prnum_n 4 (by omega) (by omega) N b p rs w  h

set_option maxHeartbeats 1000000 in
theorem prsmall (N b p : Nat) (rs : List Int) (w : World) (h : Rdr N w b rs (some p)) :
    Calls Tryz.prog 138 #[.agg #[.pointer (some ⟨b, 0, none⟩)]] w (RP N w b rs p 1 (.int .u8 (nAt rs p 1))) := by
  have HN := prnum 1 (by omega) N b p rs _ (h.keep ((Touch.refl _ _).alloc (.cells #[.pointer (some ⟨b, 0, none⟩)] 189)))
  go_enter Tryz.func138, Tryz.ntmps138
  go_wp2_with fail
  refine Calls.mono HN ?_
  intro e w1 h1
  rcases h1.out with ⟨rfl, l1, r1, t1⟩ | ⟨rfl, l1, t1⟩
  · have T1 : Hid (Touch (fun k => k = b) w w1) := ((Touch.refl _ w).alloc _).trans t1
    have hw : IntKind.u8.wrap (nAt rs p 1) = nAt rs p 1 := by have := nAt_bound h.byte p 1 l1; simp [IntKind.wrap, IntKind.bits, IntKind.signed]; omega
    clear HN h1 t1
    go_wp2
    go_ret
    exact ⟨Or.inl ⟨rfl, l1, r1, T1.out⟩⟩
  · exact ⟨rfl, ⟨Or.inr ⟨rfl, l1, ((Touch.refl _ w).alloc _).trans t1⟩⟩⟩

set_option maxHeartbeats 1000000 in
theorem prshort (N b p : Nat) (rs : List Int) (w : World) (h : Rdr N w b rs (some p)) :
    Calls Tryz.prog 139 #[.agg #[.pointer (some ⟨b, 0, none⟩)]] w (RP N w b rs p 2 (.int .u16 (nAt rs p 2))) := by
  have HN := prnum 2 (by omega) N b p rs _ (h.keep ((Touch.refl _ _).alloc (.cells #[.pointer (some ⟨b, 0, none⟩)] 189)))
  go_enter Tryz.func139, Tryz.ntmps139
  go_wp2_with fail
  refine Calls.mono HN ?_
  intro e w1 h1
  rcases h1.out with ⟨rfl, l1, r1, t1⟩ | ⟨rfl, l1, t1⟩
  · have T1 : Hid (Touch (fun k => k = b) w w1) := ((Touch.refl _ w).alloc _).trans t1
    have hw : IntKind.u16.wrap (nAt rs p 2) = nAt rs p 2 := by have := nAt_bound h.byte p 2 l1; simp [IntKind.wrap, IntKind.bits, IntKind.signed]; omega
    clear HN h1 t1
    go_wp2
    go_ret
    exact ⟨Or.inl ⟨rfl, l1, r1, T1.out⟩⟩
  · exact ⟨rfl, ⟨Or.inr ⟨rfl, l1, ((Touch.refl _ w).alloc _).trans t1⟩⟩⟩

set_option maxHeartbeats 1000000 in
theorem prnb (N b p : Nat) (rs : List Int) (w : World) (h : Rdr N w b rs (some p)) :
    Calls Tryz.prog 170 #[.agg #[.pointer (some ⟨b, 0, none⟩)]] w (RP N w b rs p 4 (.int .u32 (nAt rs p 4))) := by
  have HN := prnum 4 (by omega) N b p rs _ (h.keep ((Touch.refl _ _).alloc (.cells #[.pointer (some ⟨b, 0, none⟩)] 189)))
  go_enter Tryz.func170, Tryz.ntmps170
  go_wp2_with fail
  refine Calls.mono HN ?_
  intro e w1 h1
  rcases h1.out with ⟨rfl, l1, r1, t1⟩ | ⟨rfl, l1, t1⟩
  · have T1 : Hid (Touch (fun k => k = b) w w1) := ((Touch.refl _ w).alloc _).trans t1
    clear HN h1 t1
    go_wp2
    go_ret
    exact ⟨Or.inl ⟨rfl, l1, r1, T1.out⟩⟩
  · exact ⟨rfl, ⟨Or.inr ⟨rfl, l1, ((Touch.refl _ w).alloc _).trans t1⟩⟩⟩

/-- So many bytes, as new ones. -/
theorem pbytes_n (n : Nat) (N b p : Nat) (rs : List Int) (w : World) (h : Rdr N w b rs (some p)) (hp : p + n ≤ rs.length) (hc : rs.length ≤ 1000000) :
    Calls Tryz.prog 141 #[.pointer (some ⟨b, 0, none⟩), .int .i64 (n : Int)] w fun e w' => ∃ v, e = .returned v ∧ w'.ownsRow w.heap.size 5 1 v ((rs.drop p).take n).length (bytesOf ((rs.drop p).take n)) ∧ Rdr N w' b rs (some (p + n)) ∧ Touch (fun k => k = b) w w' := by
  obtain ⟨rv, p', err, h, hb, ho, ⟨e, rfl⟩ | ⟨e, rfl⟩⟩ := h
  · cases e
    have hs : stepR rs.length p 0 (n : Int) = (p + n, 0, true) := by
      rw [stepR_ok _ _ _ (by omega) (by omega)]
      simp
    refine (rbytes_all b p _ 0 rv rs w h (by omega) (by omega)).mono ?_
    rintro e w' ⟨v, rfl, hown, hr, t⟩
    have hg : gotR rs p 0 (n : Int) = (rs.drop p).take n := by
      simp only [gotR, hs, if_true, Int.toNat_natCast]
    rw [hg] at hown
    rw [hs] at hr
    exact ⟨v, rfl, hown, ⟨rv, _, _, hr, hb, ho, Or.inl ⟨rfl, rfl⟩⟩, t⟩
  · cases e
/-- Of x nothing outside F has turned. -/
structure Onl (F : Nat → Prop) (x w : World) : Prop where
  t : Touch F x w
theorem onl_cell {F : Nat → Prop} {x : World} {p : Addr} {v : Value} (h : x.cell? p = some v) (hf : ¬ F p.block) : ∀ w, Onl F x w → w.cell? p = some v := fun w s => (s.t.cell (lt_of_cellA h) hf).trans h
theorem Onl.step {F G : Nat → Prop} {x w w' : World} (h : Onl F x w) (t : Touch G w w') (hG : ∀ k, G k → F k) : Onl F x w' := ⟨h.t.trans' t (fun i _ g => hG i g)⟩
theorem Onl.keep {F : Nat → Prop} {x w w' : World} (h : Onl F x w) (t : Touch (fun _ => False) w w') : Onl F x w' := h.step t (fun _ f => f.elim)
theorem Onl.set {F : Nat → Prop} {x w : World} (h : Onl F x w) {g : Nat} (hg : F g) (i : Nat) (v : Value) : Onl F x (w.setCell ⟨g, i, none⟩ v) := ⟨Touch.setCell h.t (Or.inl hg) _⟩
end Go.Proofs.YtjgeklipeeooaaaGreatDoor

namespace Go.Proofs.YtjgeklipeeooaaaGreatDoor
open Go.RowKit
set_option linter.unusedVariables false
set_option maxRecDepth 100000

theorem run_append_keep {P : Program} (w : World) (base : Nat) (t ty e : TypeId) (i : TypeInfo) (z : Value) (size bytes : Nat) (ht : P.underlying t = some (.slice e)) (hi : P.info? e = some i) (hz : i.zero = some z)
    (hsize : i.size = size) (hby : i.bytes = bytes) (hzs : z.cells.size = size) (hsz : 0 < size)
    (v : Value) (n : Nat) (xs : List Value) (hown : w.ownsRow base e size v n xs)
    (a : Addr) (m c : Nat) (news : List Value) (hl : news.length = m * size) (hnews : ∀ j u, news[j]? = some u → w.cell? (a.add j) = some u) (h1 : ∀ u ∈ news, u.oneCell' = true)
    (h63 : n + m ≤ maxLen) (hbytes : (n + m) * bytes ≤ 140737488355328) (hbase : base ≤ w.heap.size) :
    ∃ v' w', (Builtin.append_ #[t, t] ty #[v, .slice (some a) m c]).run P w = .ok v' w' ∧ w'.ownsRow base e size v' (n + m) (xs ++ news) ∧ w'.ownsRow base e size v n xs ∧ w.grownBy w' v.ownBlock ∧
      (v'.ownBlock = v.ownBlock ∨ v'.ownBlock = some w.heap.size) := by
  obtain ⟨v', w', hr, h2, h3, h4, h5⟩ := run_append_own_at (P := P) w base t ty e i z size bytes ht hi hz hsize hby hzs hsz v n xs hown a m c news hl hnews h1 h63 hbytes hbase
  refine ⟨v', w', hr, h2, ?_, h3, h5⟩
  subst hsize
  subst hby
  rcases hown.2 with ⟨rfl, rfl⟩ | ⟨g, cap, cur, rfl, hbg, hg, hnc, hcm, hcs, htake⟩
  · have hx : xs = [] := List.eq_nil_of_length_eq_zero (by simpa using hown.1)
    subst hx
    exact World.ownsRow_nil _ _ _ _
  · by_cases hroom : n + m ≤ cap
    · have hfit : n * i.size + news.length ≤ cur.size := by rw [hl, hcs, ← Nat.add_mul]; exact Nat.mul_le_mul_right _ hroom
      have hr' := run_append_room (P := P) w t ty e i ht hi g n cap cur hg a m c news hl hnews h1 hroom hfit
      rw [hr'] at hr
      obtain ⟨-, rfl⟩ : _ ∧ _ = w' := by simpa using hr
      refine ⟨hown.1, .inr ⟨g, cap, _, rfl, hbg, setRow_heap w g cur _ e _ hg, hnc, hcm, ?_, ?_⟩⟩
      · simp only [List.size_toArray, List.length_append, List.length_take, List.length_drop, Array.length_toList]
        omega
      · rw [htake, ← hown.1]
        exact List.take_left
    · have holds : ∀ j u, xs[j]? = some u → w.cell? ((⟨g, 0, none⟩ : Addr).add j) = some u := hown.cells (g := g) rfl
      have hr' := run_append_grow (P := P) w t ty e i z ht hi hz ⟨g, 0, none⟩ n cap xs hown.1 holds a m c news hl hnews (by omega) (by simp only [maxLen] at h63; omega) (growslice_fits (by omega) hbytes)
      rw [hr'] at hr
      obtain ⟨-, rfl⟩ : _ ∧ _ = w' := by simpa using hr
      exact World.ownsRow.alloc (w := w.drew) hown _

theorem wpList_append_keep {P : Program} (w : World) {ops : Array Oper} {rest : List Oper} {o : Oper} {a : Act} {Q : Exit → Act → World → Prop} (hgd : o.guard = none) (s x : Operand) (t : TypeId)
    (ho : o.op = .call { callee := .builtin .append, args := #[s, x], argTypes := #[t, t] })
    (base : Nat) (e : TypeId) (i : TypeInfo) (z : Value) (size bytes : Nat) (ht : P.underlying t = some (.slice e)) (hi : P.info? e = some i) (hz : i.zero = some z)
    (hsize : i.size = size) (hby : i.bytes = bytes) (hzs : z.cells.size = size) (hsz : 0 < size)
    (v : Value) (n : Nat) (xs : List Value) (hs : a.eval s = v) (hown : w.ownsRow base e size v n xs)
    (ad : Addr) (m c : Nat) (news : List Value) (hx : a.eval x = .slice (some ad) m c) (hl : news.length = m * size) (hnews : ∀ j u, news[j]? = some u → w.cell? (ad.add j) = some u) (h1 : ∀ u ∈ news, u.oneCell' = true)
    (h63 : n + m ≤ maxLen) (hbytes : (n + m) * bytes ≤ 140737488355328) (hbase : base ≤ w.heap.size)
    (h : ∀ v' w', w'.ownsRow base e size v' (n + m) (xs ++ news) → w'.ownsRow base e size v n xs → w.grownBy w' v.ownBlock → (v'.ownBlock = v.ownBlock ∨ v'.ownBlock = some w.heap.size) → wpList P ops Q rest (a.put o.dst v') w') :
    wpList P ops Q (o :: rest) a w := by
  refine wpList_plain hgd fun K hK => ?_
  obtain ⟨v', w', hr, h2, h3, h4, h5⟩ := run_append_keep (P := P) w base t o.type e i z size bytes ht hi hz hsize hby hzs hsz v n xs hown ad m c news hl hnews h1 h63 hbytes hbase
  unfold Oper.wp execOp
  simp only [ho, resolve, invoke, builtin, Sem.run_bind, Sem.run_pure, Result.andThen_ok, List.map_toArray, List.map_cons, List.map_nil, hs, hx, hr]
  exact hK _ _ (h v' w' h2 h3 h4 h5)

/-- What a value that owns a row looks like. -/
theorem own_form {w : World} {base : Nat} {e : TypeId} {size : Nat} {v : Value} {n : Nat} {xs : List Value} (h : w.ownsRow base e size v n xs) : ∃ a c, v = .slice a n c := by
  rcases h.2 with ⟨rfl, rfl⟩ | ⟨g, cap, cur, rfl, _⟩
  · exact ⟨_, _, rfl⟩
  · exact ⟨_, _, rfl⟩
end Go.Proofs.YtjgeklipeeooaaaGreatDoor
