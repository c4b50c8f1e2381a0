/- Package packet: a flaw is thrown and caught: need, face. -/
import Derived.Test.YtbfplepmgbkajaaGreatDoorWideV
import Derived.Recover
import Derived.Defers
import Derived.Test.YtbfplepmgbkajaaGreatDoorStFace
import Derived.Test.YtbfplepmgbkajaaGreatDoorNumber
import Derived.Test.YtbfplepmgbkajaaGreatDoorStWr
import Derived.Deep.RegionHeld3
import Derived.Deep.DeepCutAuto
namespace Go.Proofs.YtbfplepmgbkajaaGreatDoor
open Go.RowKit
set_option linter.unusedVariables false
set_option maxRecDepth 100000

/-- A flaw of a packet on its way. -/
def pflawC (e : Int) : List PanicEntry := [{ v := .iface 128 (.int .i64 e), recovered := false }]
theorem pneed_ok (e : Int) (w : World) : Calls Tryz.prog 90 #[.bool true, .int .i64 e] w fun x w' => x = .returned (.tuple #[]) ∧ w = w' := by
 go_enter Tryz.func90, Tryz.ntmps90
 go_wp2
 go_end0
 exact ⟨rfl, rfl⟩
theorem pneed_no (e : Int) (w : World) : Calls Tryz.prog 90 #[.bool false, .int .i64 e] w fun x w' => x = .panicked (pflawC e) ∧ w = w' := by
 go_enter Tryz.func90, Tryz.ntmps90
 go_wp2
 exact ⟨rfl, rfl, rfl⟩
theorem pneed_t (t : Bool) (e : Int) (w : World) (ht : t = true) : Calls Tryz.prog 90 #[.bool t, .int .i64 e] w fun x w' => x = .returned (.tuple #[]) ∧ w = w' := by subst ht; exact pneed_ok e w
theorem pneed_f (t : Bool) (e : Int) (w : World) (ht : t = false) : Calls Tryz.prog 90 #[.bool t, .int .i64 e] w fun x w' => x = .panicked (pflawC e) ∧ w = w' := by subst ht; exact pneed_no e w
theorem pta_flaw (e : Int) (w : World) : (Instr.typeAssert (.iface 128 (.int .i64 e)) 20 128 true).run Tryz.prog w = .ok (.tuple #[.int .i64 e, .bool true]) w := by kernel_rfl
theorem pta_nil (w : World) : (Instr.typeAssert .nilIface 20 128 true).run Tryz.prog w = .ok (.tuple #[.int .i64 0, .bool false]) w := by kernel_rfl
theorem pcatch_flaw (b : Nat) (x e : Int) (w : World) (hc : w.cell? ⟨b, 0, none⟩ = some (.int .i64 x)) (hz : w.frozen? ⟨b, 0, none⟩ = false) :
  CallsD Tryz.prog 89 #[.pointer (some ⟨b, 0, none⟩)] (.panicking (pflawC e)) w fun r u' w' =>
   r = .returned (.tuple #[]) ∧ u' = .panicking [{ v := .iface 128 (.int .i64 e), recovered := true }] ∧ w' = w.setCell ⟨b, 0, none⟩ (.int .i64 e) := by
 refine callsD_of_wpS Tryz.func89 rfl fun c₀ cs hu => ?_
 apply wpS_seq
 apply wpS_region
 simp [wpOpsS, go_sem, recoverD, hu, pflawC, pta_flaw, Tryz.ntmps89, Exit.thenS]
 apply wpS_seq
 apply wpS_region
 simp [wpOpsS, go_sem, Exit.thenS]
 refine wpS_cond (t := true) (by simp [Act.eval, Array.replicate]) ?_
 simp only [if_true]
 apply wpS_region
 simp [wpOpsS, go_sem, hc, hz, bodyPostS, results, Tryz.results89]
theorem pcatch_idle (b : Nat) (w : World) :
  CallsD Tryz.prog 89 #[.pointer (some ⟨b, 0, none⟩)] .returning w fun r u' w' => r = .returned (.tuple #[]) ∧ u' = .returning ∧ w' = w := by
 refine callsD_of_wpS Tryz.func89 rfl fun c₀ cs hu => ?_
 apply wpS_seq
 apply wpS_region
 simp [wpOpsS, go_sem, recoverD, hu, pta_nil, Tryz.ntmps89, Exit.thenS]
 apply wpS_seq
 apply wpS_region
 simp [wpOpsS, go_sem, Exit.thenS]
 refine wpS_cond (t := false) (by simp [Act.eval, Array.replicate]) ?_
 simp only [Bool.false_eq_true, if_false]
 refine wpS_of_wp (wp_skip ?_)
 cases c₀
 simp_all [bodyPostS, results, Tryz.results89]
/-- The face where its function ends by itself: K is what it leaves. -/
theorem pface_ok (G : Nat) (cap : Array Value) (hG : ∀ w, (callFunc G cap).run Tryz.prog w = .ok (.enter G cap) w) (w : World) (F : Nat → Prop) (hF : ¬ F w.heap.size) (K : World → Prop)
  (h : Calls Tryz.prog G cap (w.alloc (.cells #[.int .i64 0] 41)) fun e w' => e = .returned (.tuple #[]) ∧ Touch F (w.alloc (.cells #[.int .i64 0] 41)) w' ∧ K w')
  (hK : ∀ w1 w2, K w1 → Touch (fun k => k = w.heap.size) w1 w2 → K w2) :
  Calls Tryz.prog 33 #[.func (.func G) #[] cap] w fun e w' => e = .returned (.int .i64 0) ∧ Touch F w w' ∧ K w' := by
 have hmf : ∀ (fn : Fn) (first cap : Array Value) (w : World), (Instr.makeFunc fn first cap).run Tryz.prog w = .ok (.func fn first cap) w := fun _ _ _ _ => rfl
 go_enter_defers Tryz.func33, Tryz.ntmps33
 go_wp2_with fail
 refine h.mono ?_
 rintro e w1 ⟨rfl, t1, k1⟩
 have fz1 : w1.frozen? ⟨w.heap.size, 0, none⟩ = false := (t1.frozen (p := ⟨w.heap.size, 0, none⟩) (by simp) hF).trans (by simp [go_sem])
 have ce1 : w1.cell? ⟨w.heap.size, 0, none⟩ = some (.int .i64 0) := (t1.cell (p := ⟨w.heap.size, 0, none⟩) (by simp) hF).trans (by simp [go_sem])
 have HT : Hid (Touch F w w1) := ((Touch.refl F w).alloc _).trans t1
 have HK : Hid (K w1) := k1
 have U : Hid (Touch (fun k => k = w.heap.size) w1 (w1.setCell ⟨w.heap.size, 0, none⟩ (.int .i64 0))) := Touch.setCell (F := fun k => k = w.heap.size) (p := ⟨w.heap.size, 0, none⟩) (Touch.refl _ _) (Or.inl rfl) _
 have de : (w1.setCell ⟨w.heap.size, 0, none⟩ (.int .i64 0)).cell? ⟨w.heap.size, 0, none⟩ = some (.int .i64 0) := by simp [ce1, go_sem]
 clear t1 k1 h
 go_wp2_with fail
 generalize w1.setCell ⟨w.heap.size, 0, none⟩ (.int .i64 0) = w2 at *
 clear ce1 fz1
 refine leaves_cons (f := 89) (args := #[.pointer (some ⟨w.heap.size, 0, none⟩)]) (by simp) (by simp [go_sem]) ?_
 refine (pcatch_idle w.heap.size _).mono ?_
 rintro e u' w'' ⟨rfl, rfl, rfl⟩
 exact ⟨.int .i64 0, by simp [results, Tryz.results33, go_sem, de], rfl, HT.out.trans' U.out (fun i hi e => by omega), hK _ _ HK.out U.out⟩
/-- The face where its function gives up. -/
theorem pface_no (G : Nat) (cap : Array Value) (hG : ∀ w, (callFunc G cap).run Tryz.prog w = .ok (.enter G cap) w) (w : World) (F : Nat → Prop) (hF : ¬ F w.heap.size) (err : Int) (K : World → Prop)
  (h : Calls Tryz.prog G cap (w.alloc (.cells #[.int .i64 0] 41)) fun e w' => e = .panicked (pflawC err) ∧ Touch F (w.alloc (.cells #[.int .i64 0] 41)) w' ∧ K w')
  (hK : ∀ w1 w2, K w1 → Touch (fun k => k = w.heap.size) w1 w2 → K w2) :
  Calls Tryz.prog 33 #[.func (.func G) #[] cap] w fun e w' => e = .returned (.int .i64 err) ∧ Touch F w w' ∧ K w' := by
 have hmf : ∀ (fn : Fn) (first cap : Array Value) (w : World), (Instr.makeFunc fn first cap).run Tryz.prog w = .ok (.func fn first cap) w := fun _ _ _ _ => rfl
 go_enter_defers Tryz.func33, Tryz.ntmps33
 go_wp2_with fail
 refine h.mono ?_
 rintro e w1 ⟨rfl, t1, k1⟩
 have fz1 : w1.frozen? ⟨w.heap.size, 0, none⟩ = false := (t1.frozen (p := ⟨w.heap.size, 0, none⟩) (by simp) hF).trans (by simp [go_sem])
 have ce1 : w1.cell? ⟨w.heap.size, 0, none⟩ = some (.int .i64 0) := (t1.cell (p := ⟨w.heap.size, 0, none⟩) (by simp) hF).trans (by simp [go_sem])
 have HT : Hid (Touch F w w1) := ((Touch.refl F w).alloc _).trans t1
 have U : Touch (fun k => k = w.heap.size) w1 (w1.setCell ⟨w.heap.size, 0, none⟩ (.int .i64 err)) := Touch.setCell (F := fun k => k = w.heap.size) (p := ⟨w.heap.size, 0, none⟩) (Touch.refl _ _) (Or.inl rfl) _
 refine leaves_cons (f := 89) (args := #[.pointer (some ⟨w.heap.size, 0, none⟩)]) (by simp) (by simp [go_sem]) ?_
 refine (pcatch_flaw w.heap.size 0 err _ ce1 fz1).mono ?_
 rintro e u' w'' ⟨rfl, rfl, rfl⟩
 exact ⟨.int .i64 err, by simp [results, Tryz.results33, go_sem, ce1], rfl, HT.out.trans' U (fun i hi e => by omega), hK _ _ k1 U⟩
end Go.Proofs.YtbfplepmgbkajaaGreatDoor

namespace Go.Proofs.YtbfplepmgbkajaaGreatDoor
open Go.RowKit
set_option linter.unusedVariables false
set_option maxRecDepth 100000

/-- The number of n bytes at a place. -/
def nAt (rs : List Int) (p n : Nat) : Int := numOf ((rs.drop p).take n)
theorem nAt_bound {rs : List Int} (hb : ∀ x ∈ rs, 0 ≤ x ∧ x < 256) (p n : Nat) (h : p + n ≤ rs.length) : 0 ≤ nAt rs p n ∧ nAt rs p n < 256 ^ n := by
 have := numOf_bound ((rs.drop p).take n) (fun z hz => hb z (List.mem_of_mem_drop (List.mem_of_mem_take hz)))
 rw [show ((rs.drop p).take n).length = n by simp; omega] at this
 exact this
theorem nAt_one {rs : List Int} {p : Nat} (h : p < rs.length) : nAt rs p 1 = rs.getD p 0 := by
 unfold nAt
 rw [List.drop_eq_getElem_cons h, List.take_succ_cons, List.take_zero]
 simp [numOf, List.getD, h]
/-- Either it is read, or it is given up with 22. -/
structure RP (N : Nat) (w : World) (b : Nat) (rs : List Int) (p n : Nat) (v : Value) (e : Ending) (w' : World) : Prop where
 out : (e = .returned v ∧ p + n ≤ rs.length ∧ Rdr N w' b rs (some (p + n)) ∧ Touch (fun k => k = b) w w') ∨ (e = .panicked (pflawC 22) ∧ rs.length < p + n ∧ Touch (fun k => k = b) w w')
set_option maxHeartbeats 1000000 in
theorem prnum_n (n : Nat) (h1 : 1 ≤ n) (h4 : n ≤ 4) (N b p : Nat) (rs : List Int) (w : World) (h : Rdr N w b rs (some p)) :
  Calls Tryz.prog 140 #[.agg #[.pointer (some ⟨b, 0, none⟩)], .int .i64 (n : Int)] w (RP N w b rs p n (.int .u32 (nAt rs p n))) := by
 have hb := h.lt
 have HN := rnum_r N b n rs (some p) _ (h.keep ((Touch.refl _ _).alloc (.cells #[.pointer (some ⟨b, 0, none⟩)] 189))) h1 h4
 have hne : ¬ w.heap.size = b := by omega
 by_cases hp : p + n ≤ rs.length
 ·rw [show numAt rs (some p) n = nAt rs p n by simp [numAt, nAt, hp], show nextAt rs (some p) n = some (p + n) by simp [nextAt, hp]] at HN
  go_enter Tryz.func140, Tryz.ntmps140
  go_wp2_with fail
  refine Calls.mono HN ?_
  rintro e w1 ⟨rfl, r1, t1⟩
  have c1 : w1.cell? ⟨w.heap.size, 0, none⟩ = some (.pointer (some ⟨b, 0, none⟩)) := (t1.cell (p := ⟨w.heap.size, 0, none⟩) (by simp) hne).trans (by simp [go_sem])
  have HE := err_r N b rs (some (p + n)) w1 r1
  rw [if_neg (by simp)] at HE
  have T1 : Hid (Touch (fun k => k = b) w w1) := ((Touch.refl _ w).alloc _).trans t1
  clear t1 HN h
  go_wp2_with fail
  refine Calls.mono HE ?_
  rintro e w2 ⟨rfl, rfl⟩
  go_wp2_with (go_at_call 90; refine (pneed_ok 22 _).mono ?_; rintro e w2 ⟨rfl, rfl⟩)
  go_ret
  exact ⟨Or.inl ⟨rfl, hp, r1, T1.out⟩⟩
 ·rw [show numAt rs (some p) n = 0 by simp [numAt, hp], show nextAt rs (some p) n = none by simp [nextAt, hp]] at HN
  go_enter Tryz.func140, Tryz.ntmps140
  go_wp2_with fail
  refine Calls.mono HN ?_
  rintro e w1 ⟨rfl, r1, t1⟩
  have c1 : w1.cell? ⟨w.heap.size, 0, none⟩ = some (.pointer (some ⟨b, 0, none⟩)) := (t1.cell (p := ⟨w.heap.size, 0, none⟩) (by simp) hne).trans (by simp [go_sem])
  have HE := err_r N b rs none w1 r1
  rw [if_pos rfl] at HE
  have T1 : Hid (Touch (fun k => k = b) w w1) := ((Touch.refl _ w).alloc _).trans t1
  clear t1 HN h
  go_wp2_with fail
  refine Calls.mono HE ?_
  rintro e w2 ⟨rfl, rfl⟩
  go_wp2_with (go_at_call 90; refine (pneed_no 22 _).mono ?_; rintro e w2 ⟨rfl, rfl⟩)
  exact ⟨rfl, ⟨Or.inr ⟨rfl, by omega, T1.out⟩⟩⟩
theorem prnum (n : Int) (hn : n = 1 ∨ n = 2 ∨ n = 4) (N b p : Nat) (rs : List Int) (w : World) (h : Rdr N w b rs (some p)) :
  Calls Tryz.prog 140 #[.agg #[.pointer (some ⟨b, 0, none⟩)], .int .i64 n] w (RP N w b rs p n.toNat (.int .u32 (nAt rs p n.toNat))) := by
 rcases hn with rfl | rfl | rfl
 ·exact prnum_n 1 (by omega) (by omega) N b p rs w  h
 ·exact prnum_n 2 (by omega) (by omega) N b p rs w  h
 ·exact prnum_n 4 (by omega) (by omega) N b p rs w  h

set_option maxHeartbeats 1000000 in
theorem prsmall (N b p : Nat) (rs : List Int) (w : World) (h : Rdr N w b rs (some p)) :
  Calls Tryz.prog 138 #[.agg #[.pointer (some ⟨b, 0, none⟩)]] w (RP N w b rs p 1 (.int .u8 (nAt rs p 1))) := by
 have HN := prnum 1 (by omega) N b p rs _ (h.keep ((Touch.refl _ _).alloc (.cells #[.pointer (some ⟨b, 0, none⟩)] 189)))
 go_enter Tryz.func138, Tryz.ntmps138
 go_wp2_with fail
 refine Calls.mono HN ?_
 intro e w1 h1
 rcases h1.out with ⟨rfl, l1, r1, t1⟩ | ⟨rfl, l1, t1⟩
 ·have T1 : Hid (Touch (fun k => k = b) w w1) := ((Touch.refl _ w).alloc _).trans t1
  have hw : IntKind.u8.wrap (nAt rs p 1) = nAt rs p 1 := by have := nAt_bound h.byte p 1 l1; simp [IntKind.wrap, IntKind.bits, IntKind.signed]; omega
  clear HN h1 t1
  go_wp2
  go_ret
  exact ⟨Or.inl ⟨rfl, l1, r1, T1.out⟩⟩
 ·exact ⟨rfl, ⟨Or.inr ⟨rfl, l1, ((Touch.refl _ w).alloc _).trans t1⟩⟩⟩

set_option maxHeartbeats 1000000 in
theorem prshort (N b p : Nat) (rs : List Int) (w : World) (h : Rdr N w b rs (some p)) :
  Calls Tryz.prog 139 #[.agg #[.pointer (some ⟨b, 0, none⟩)]] w (RP N w b rs p 2 (.int .u16 (nAt rs p 2))) := by
 have HN := prnum 2 (by omega) N b p rs _ (h.keep ((Touch.refl _ _).alloc (.cells #[.pointer (some ⟨b, 0, none⟩)] 189)))
 go_enter Tryz.func139, Tryz.ntmps139
 go_wp2_with fail
 refine Calls.mono HN ?_
 intro e w1 h1
 rcases h1.out with ⟨rfl, l1, r1, t1⟩ | ⟨rfl, l1, t1⟩
 ·have T1 : Hid (Touch (fun k => k = b) w w1) := ((Touch.refl _ w).alloc _).trans t1
  have hw : IntKind.u16.wrap (nAt rs p 2) = nAt rs p 2 := by have := nAt_bound h.byte p 2 l1; simp [IntKind.wrap, IntKind.bits, IntKind.signed]; omega
  clear HN h1 t1
  go_wp2
  go_ret
  exact ⟨Or.inl ⟨rfl, l1, r1, T1.out⟩⟩
 ·exact ⟨rfl, ⟨Or.inr ⟨rfl, l1, ((Touch.refl _ w).alloc _).trans t1⟩⟩⟩

set_option maxHeartbeats 1000000 in
theorem prnb (N b p : Nat) (rs : List Int) (w : World) (h : Rdr N w b rs (some p)) :
  Calls Tryz.prog 170 #[.agg #[.pointer (some ⟨b, 0, none⟩)]] w (RP N w b rs p 4 (.int .u32 (nAt rs p 4))) := by
 have HN := prnum 4 (by omega) N b p rs _ (h.keep ((Touch.refl _ _).alloc (.cells #[.pointer (some ⟨b, 0, none⟩)] 189)))
 go_enter Tryz.func170, Tryz.ntmps170
 go_wp2_with fail
 refine Calls.mono HN ?_
 intro e w1 h1
 rcases h1.out with ⟨rfl, l1, r1, t1⟩ | ⟨rfl, l1, t1⟩
 ·have T1 : Hid (Touch (fun k => k = b) w w1) := ((Touch.refl _ w).alloc _).trans t1
  clear HN h1 t1
  go_wp2
  go_ret
  exact ⟨Or.inl ⟨rfl, l1, r1, T1.out⟩⟩
 ·exact ⟨rfl, ⟨Or.inr ⟨rfl, l1, ((Touch.refl _ w).alloc _).trans t1⟩⟩⟩

/-- So many bytes, as new ones. -/
theorem pbytes_n (n : Nat) (N b p : Nat) (rs : List Int) (w : World) (h : Rdr N w b rs (some p)) (hp : p + n ≤ rs.length) (hc : rs.length ≤ 1000000) :
  Calls Tryz.prog 141 #[.pointer (some ⟨b, 0, none⟩), .int .i64 (n : Int)] w fun e w' => ∃ v, e = .returned v ∧ w'.ownsRow w.heap.size 5 1 v ((rs.drop p).take n).length (bytesOf ((rs.drop p).take n)) ∧ Rdr N w' b rs (some (p + n)) ∧ Touch (fun k => k = b) w w' := by
 obtain ⟨rv, p', err, h, hb, ho, ⟨e, rfl⟩ | ⟨e, rfl⟩⟩ := h
 ·cases e
  have hs : stepR rs.length p 0 (n : Int) = (p + n, 0, true) := by
   rw [stepR_ok _ _ _ (by omega) (by omega)]
   simp
  refine (rbytes_all b p _ 0 rv rs w h (by omega) (by omega)).mono ?_
  rintro e w' ⟨v, rfl, hown, hr, t⟩
  have hg : gotR rs p 0 (n : Int) = (rs.drop p).take n := by
   simp only [gotR, hs, if_true, Int.toNat_natCast]
  rw [hg] at hown
  rw [hs] at hr
  exact ⟨v, rfl, hown, ⟨rv, _, _, hr, hb, ho, Or.inl ⟨rfl, rfl⟩⟩, t⟩
 ·cases e
/-- Of x nothing outside F has turned. -/
structure Onl (F : Nat → Prop) (x w : World) : Prop where
 t : Touch F x w
theorem onl_cell {F : Nat → Prop} {x : World} {p : Addr} {v : Value} (h : x.cell? p = some v) (hf : ¬ F p.block) : ∀ w, Onl F x w → w.cell? p = some v := fun w s => (s.t.cell (lt_of_cellA h) hf).trans h
theorem Onl.step {F G : Nat → Prop} {x w w' : World} (h : Onl F x w) (t : Touch G w w') (hG : ∀ k, G k → F k) : Onl F x w' := ⟨h.t.trans' t (fun i _ g => hG i g)⟩
theorem Onl.keep {F : Nat → Prop} {x w w' : World} (h : Onl F x w) (t : Touch (fun _ => False) w w') : Onl F x w' := h.step t (fun _ f => f.elim)
theorem Onl.set {F : Nat → Prop} {x w : World} (h : Onl F x w) {g : Nat} (hg : F g) (i : Nat) (v : Value) : Onl F x (w.setCell ⟨g, i, none⟩ v) := ⟨Touch.setCell h.t (Or.inl hg) _⟩
end Go.Proofs.YtbfplepmgbkajaaGreatDoor

namespace Go.Proofs.YtbfplepmgbkajaaGreatDoor
open Go.RowKit
set_option linter.unusedVariables false
set_option maxRecDepth 100000

theorem wlen_any (b : Nat) (v : Value) (bs : List Int) (most err : Int) (w : World) (h : WrS w b v bs most err) : Calls Tryz.prog 132 #[.pointer (some ⟨b, 0, none⟩)] w fun e w' => e = .returned (.int .i64 bs.length) ∧ w = w' := by
 obtain ⟨va, vc, rfl⟩ : ∃ va vc, v = .slice va bs.length vc := by
  rcases h.own.2 with ⟨rfl, e⟩ | ⟨g, cap, cur, rfl, _⟩
  ·exact ⟨none, 0, by rw [e]⟩
  ·exact ⟨_, _, rfl⟩
 have h1 := h.row
 clear h
 go_enter Tryz.func132, Tryz.ntmps132
 go_wp2
 go_ret
 exact ⟨rfl, rfl⟩
theorem len_w (X : Nat → Prop) (b : Nat) (L : List Int) (most : Int) (w : World) (h : Wr X w b L most) (hl : (L.length : Int) ≤ most) :
  Calls Tryz.prog 132 #[.pointer (some ⟨b, 0, none⟩)] w fun e w' => e = .returned (.int .i64 L.length) ∧ w = w' := by
 obtain ⟨v, ⟨_, h⟩ | ⟨hl', _⟩, _⟩ := h
 ·exact wlen_any b v L most 0 w h
 ·omega
theorem proom_ok (X : Nat → Prop) (b : Nat) (L : List Int) (n : Nat) (w : World) (h : Wr X w b L 65535) (hL : L.length ≤ 65535) (hn : n ≤ 1099511627776) (hl : L.length + n ≤ 65535) :
  Calls Tryz.prog 156 #[.agg #[.pointer (some ⟨b, 0, none⟩)], .int .i64 (n : Int)] w fun e w' => e = .returned (.tuple #[]) ∧ Touch (fun _ => False) w w' := by
 have HW : Hid (Wr X w b L 65535) := h
 have hw64 : wrap64 ((L.length : Int) + (n : Int)) = (L.length : Int) + (n : Int) := by simp [wrap64]; omega
 have hd : decide ((L.length : Int) + (n : Int) ≤ 65535) = true := by simp; omega
 have hL' : (L.length : Int) ≤ 65535 := by omega
 clear h hL hn hl
 go_enter Tryz.func156, Tryz.ntmps156
 go_wp2_with fail
 refine Calls.mono (len_w X b L 65535 _ (HW.out.keep ((Touch.refl _ _).alloc _)) hL') ?_
 rintro e w1 ⟨rfl, rfl⟩
 go_wp2_with fail
 refine Calls.mono (pneed_t _ 11 _ (by first | rfl | exact hd | simpa using hd)) ?_
 rintro e w2 ⟨rfl, rfl⟩
 go_wp2
 go_end0
 exact ⟨rfl, (Touch.refl _ _).alloc _⟩
theorem proom_no (X : Nat → Prop) (b : Nat) (L : List Int) (n : Nat) (w : World) (h : Wr X w b L 65535) (hL : L.length ≤ 65535) (hn : n ≤ 1099511627776) (hl : 65535 < L.length + n) :
  Calls Tryz.prog 156 #[.agg #[.pointer (some ⟨b, 0, none⟩)], .int .i64 (n : Int)] w fun e w' => e = .panicked (pflawC 11) ∧ Touch (fun _ => False) w w' := by
 have HW : Hid (Wr X w b L 65535) := h
 have hw64 : wrap64 ((L.length : Int) + (n : Int)) = (L.length : Int) + (n : Int) := by simp [wrap64]; omega
 have hd : decide ((L.length : Int) + (n : Int) ≤ 65535) = false := by simp; omega
 have hL' : (L.length : Int) ≤ 65535 := by omega
 clear h hL hn hl
 go_enter Tryz.func156, Tryz.ntmps156
 go_wp2_with fail
 refine Calls.mono (len_w X b L 65535 _ (HW.out.keep ((Touch.refl _ _).alloc _)) hL') ?_
 rintro e w1 ⟨rfl, rfl⟩
 go_wp2_with fail
 refine Calls.mono (pneed_f _ 11 _ (by first | rfl | exact hd | simpa using hd)) ?_
 rintro e w2 ⟨rfl, rfl⟩
 exact ⟨rfl, rfl, (Touch.refl _ _).alloc _⟩

set_option maxHeartbeats 1000000 in
theorem pwnum_ok (n : Nat) (hn : n = 1 ∨ n = 2 ∨ n = 3 ∨ n = 4) (x : Int) (X : Nat → Prop) (b : Nat) (L : List Int) (w : World) (h : Wr X w b L 65535) (hL : L.length ≤ 65535) (hx : 0 ≤ x ∧ x < 256 ^ n) (hl : L.length + n ≤ 65535) :
  Calls Tryz.prog 125 #[.agg #[.pointer (some ⟨b, 0, none⟩)], .int .u32 x, .int .i64 (n : Int)] w fun e w' => e = .returned (.agg #[.pointer (some ⟨b, 0, none⟩)]) ∧ Wr X w' b (L ++ numBytes n x) 65535 ∧ Kept X w w' := by
 obtain ⟨wa, hwa⟩ : ∃ wa, wa = (w.alloc (.cells #[.pointer (some ⟨b, 0, none⟩)] 137)).alloc (.cells #[.pointer none] 137) := ⟨_, rfl⟩
 have ta : Touch (fun _ => False) w wa := by rw [hwa]; exact ((Touch.refl _ w).alloc _).alloc _
 have ca : wa.cell? ⟨w.heap.size, 0, none⟩ = some (.pointer (some ⟨b, 0, none⟩)) := by rw [hwa]; simp [go_sem]
 have cb : wa.cell? ⟨w.heap.size + 1, 0, none⟩ = some (.pointer none) := by rw [hwa]; simp [go_sem]
 have fb : wa.frozen? ⟨w.heap.size + 1, 0, none⟩ = false := by rw [hwa]; simp [go_sem]
 have za : wa.heap.size = w.heap.size + 2 := by rw [hwa]; simp
 obtain ⟨Y, hY⟩ : ∃ Y : Nat → Prop, Y = fun k => X k ∨ (w.heap.size ≤ k ∧ k < wa.heap.size) := ⟨_, rfl⟩
 have HA : Hid (Wr Y wa b L 65535) := by subst hY; exact h.more ta (fun k hk => hk)
 have y0 : Hid (Y w.heap.size) := by subst hY; exact Or.inr (by omega)
 have y1 : Hid (Y (w.heap.size + 1)) := by subst hY; exact Or.inr (by omega)
 have YX : Hid (∀ k, X k → Y k) := by subst hY; exact fun k hk => Or.inl hk
 have TA : Hid (Touch (fun _ => False) w wa) := ta
 have HR := proom_ok Y b L n wa HA.out hL (by omega) hl
 clear hY h ta za
 go_enter Tryz.func125, Tryz.ntmps125
 go_wp2_with fail
 rw [← hwa]
 refine Calls.mono HR ?_
 rintro e w1 ⟨rfl, t1⟩
 have H1 : Hid (Wr Y w1 b L 65535) := HA.out.keep t1
 have T1 : Hid (Touch (fun _ => False) w w1) := TA.out.trans t1
 have d0 := (t1.cell (p := ⟨w.heap.size, 0, none⟩) (lt_of_cellA ca) (fun h => h)).trans ca
 have d1 := (t1.cell (p := ⟨w.heap.size + 1, 0, none⟩) (lt_of_cellA cb) (fun h => h)).trans cb
 have f1 := (t1.frozen (p := ⟨w.heap.size + 1, 0, none⟩) (lt_of_cellA cb) (fun h => h)).trans fb
 have HX : Hid (0 ≤ x ∧ x < 256 ^ n) := hx
 clear hx
 clear HR hwa ca cb fb HA t1 TA
 go_wp2_with fail
 refine Calls.mono (number_w n hn Y b L 65535 x _ H1.out (by omega) HX.out) ?_
 rintro e w2 ⟨rfl, h2, k2⟩
 have e0 := k2.cell d0 y0.out
 have e1 := k2.cell d1 y1.out
 have g1 := k2.frozen (lt_of_cellA d1) f1 y1.out
 have H2 : Hid (Wr Y w2 b (L ++ numBytes n x) 65535) := h2
 have K2 : Hid (Kept X w w2) := (Kept.of T1.out).trans (k2.less (fun k _ hk => YX.out k hk))
 have hne : Hid (w.heap.size ≤ w.heap.size + 1) := Nat.le_succ _
 clear d0 d1 f1 k2 h2 H1
 have de : (w2.setCell ⟨w.heap.size + 1, 0, none⟩ (.pointer (some ⟨b, 0, none⟩))).cell? ⟨w.heap.size + 1, 0, none⟩ = some (.pointer (some ⟨b, 0, none⟩)) := by simp [e1, go_sem]
 have H3 : Hid (Wr X (w2.setCell ⟨w.heap.size + 1, 0, none⟩ (.pointer (some ⟨b, 0, none⟩))) b (L ++ numBytes n x) 65535) := by
  have q : Touch (fun k => k = w.heap.size + 1) w2 (w2.setCell ⟨w.heap.size + 1, 0, none⟩ (.pointer (some ⟨b, 0, none⟩))) := Touch.setCell (F := fun k => k = w.heap.size + 1) (p := ⟨w.heap.size + 1, 0, none⟩) (Touch.refl _ _) (Or.inl rfl) _
  exact (H2.out.touch q (fun k hk => by rw [hk]; exact y1.out)).less YX.out
 have K3 : Hid (Kept X w (w2.setCell ⟨w.heap.size + 1, 0, none⟩ (.pointer (some ⟨b, 0, none⟩)))) := Touch.setCell (p := ⟨w.heap.size + 1, 0, none⟩) K2.out (Or.inr hne.out) _
 go_wp2_with fail
 refine bodyPost_ret (v := .agg #[.pointer (some ⟨b, 0, none⟩)]) (by simp [results, Tryz.results125, go_sem, de]) rfl ?_
 exact ⟨rfl, H3.out, K3.out⟩

set_option maxHeartbeats 1000000 in
theorem pwput_ok (s : Value) (ns : List Int) (X : Nat → Prop) (b : Nat) (L : List Int) (w : World) (h : Wr X w b L 65535) (hL : L.length ≤ 65535) (hs : ArgAt w s ns) (hc : ns.length ≤ 1099511627776) (hl : L.length + ns.length ≤ 65535) :
  Calls Tryz.prog 124 #[.agg #[.pointer (some ⟨b, 0, none⟩)], s] w fun e w' => e = .returned (.agg #[.pointer (some ⟨b, 0, none⟩)]) ∧ Wr X w' b (L ++ ns) 65535 ∧ Kept X w w' := by
 have HS : Hid (ArgAt w s ns) := hs
 obtain ⟨sa, sc, rfl, -⟩ := hs.form
 clear hs
 obtain ⟨wa, hwa⟩ : ∃ wa, wa = (w.alloc (.cells #[.pointer (some ⟨b, 0, none⟩)] 137)).alloc (.cells #[.pointer none] 137) := ⟨_, rfl⟩
 have ta : Touch (fun _ => False) w wa := by rw [hwa]; exact ((Touch.refl _ w).alloc _).alloc _
 have ca : wa.cell? ⟨w.heap.size, 0, none⟩ = some (.pointer (some ⟨b, 0, none⟩)) := by rw [hwa]; simp [go_sem]
 have cb : wa.cell? ⟨w.heap.size + 1, 0, none⟩ = some (.pointer none) := by rw [hwa]; simp [go_sem]
 have fb : wa.frozen? ⟨w.heap.size + 1, 0, none⟩ = false := by rw [hwa]; simp [go_sem]
 have za : wa.heap.size = w.heap.size + 2 := by rw [hwa]; simp
 obtain ⟨Y, hY⟩ : ∃ Y : Nat → Prop, Y = fun k => X k ∨ (w.heap.size ≤ k ∧ k < wa.heap.size) := ⟨_, rfl⟩
 have HA : Hid (Wr Y wa b L 65535) := by subst hY; exact h.more ta (fun k hk => hk)
 have y0 : Hid (Y w.heap.size) := by subst hY; exact Or.inr (by omega)
 have y1 : Hid (Y (w.heap.size + 1)) := by subst hY; exact Or.inr (by omega)
 have YX : Hid (∀ k, X k → Y k) := by subst hY; exact fun k hk => Or.inl hk
 have TA : Hid (Touch (fun _ => False) w wa) := ta
 have HR := proom_ok Y b L ns.length wa HA.out hL (by omega) hl
 clear hY h ta za
 go_enter Tryz.func124, Tryz.ntmps124
 go_wp2_with fail
 rw [← hwa]
 refine Calls.mono HR ?_
 rintro e w1 ⟨rfl, t1⟩
 have H1 : Hid (Wr Y w1 b L 65535) := HA.out.keep t1
 have T1 : Hid (Touch (fun _ => False) w w1) := TA.out.trans t1
 have d0 := (t1.cell (p := ⟨w.heap.size, 0, none⟩) (lt_of_cellA ca) (fun h => h)).trans ca
 have d1 := (t1.cell (p := ⟨w.heap.size + 1, 0, none⟩) (lt_of_cellA cb) (fun h => h)).trans cb
 have f1 := (t1.frozen (p := ⟨w.heap.size + 1, 0, none⟩) (lt_of_cellA cb) (fun h => h)).trans fb
 have HS1 : Hid (ArgAt w1 (.slice sa ns.length sc) ns) := HS.out.keep T1.out (fun _ _ h => h)
 clear HS
 clear HR hwa ca cb fb HA t1 TA
 go_wp2_with fail
 refine Calls.mono (put_arg Y b L 65535 _ ns _ H1.out (by omega) HS1.out (by omega)) ?_
 rintro e w2 ⟨rfl, h2, k2⟩
 have e0 := k2.cell d0 y0.out
 have e1 := k2.cell d1 y1.out
 have g1 := k2.frozen (lt_of_cellA d1) f1 y1.out
 have H2 : Hid (Wr Y w2 b (L ++ ns) 65535) := h2
 have K2 : Hid (Kept X w w2) := (Kept.of T1.out).trans (k2.less (fun k _ hk => YX.out k hk))
 have hne : Hid (w.heap.size ≤ w.heap.size + 1) := Nat.le_succ _
 clear d0 d1 f1 k2 h2 H1
 have de : (w2.setCell ⟨w.heap.size + 1, 0, none⟩ (.pointer (some ⟨b, 0, none⟩))).cell? ⟨w.heap.size + 1, 0, none⟩ = some (.pointer (some ⟨b, 0, none⟩)) := by simp [e1, go_sem]
 have H3 : Hid (Wr X (w2.setCell ⟨w.heap.size + 1, 0, none⟩ (.pointer (some ⟨b, 0, none⟩))) b (L ++ ns) 65535) := by
  have q : Touch (fun k => k = w.heap.size + 1) w2 (w2.setCell ⟨w.heap.size + 1, 0, none⟩ (.pointer (some ⟨b, 0, none⟩))) := Touch.setCell (F := fun k => k = w.heap.size + 1) (p := ⟨w.heap.size + 1, 0, none⟩) (Touch.refl _ _) (Or.inl rfl) _
  exact (H2.out.touch q (fun k hk => by rw [hk]; exact y1.out)).less YX.out
 have K3 : Hid (Kept X w (w2.setCell ⟨w.heap.size + 1, 0, none⟩ (.pointer (some ⟨b, 0, none⟩)))) := Touch.setCell (p := ⟨w.heap.size + 1, 0, none⟩) K2.out (Or.inr hne.out) _
 go_wp2_with fail
 refine bodyPost_ret (v := .agg #[.pointer (some ⟨b, 0, none⟩)]) (by simp [results, Tryz.results124, go_sem, de]) rfl ?_
 exact ⟨rfl, H3.out, K3.out⟩

set_option maxHeartbeats 1000000 in
theorem pwput_no (s : Value) (ns : List Int) (X : Nat → Prop) (b : Nat) (L : List Int) (w : World) (h : Wr X w b L 65535) (hL : L.length ≤ 65535) (hs : ArgAt w s ns) (hc : ns.length ≤ 1099511627776) (hl : 65535 < L.length + ns.length) :
  Calls Tryz.prog 124 #[.agg #[.pointer (some ⟨b, 0, none⟩)], s] w fun e w' => e = .panicked (pflawC 11) ∧ Kept X w w' := by
 have HS : Hid (ArgAt w s ns) := hs
 obtain ⟨sa, sc, rfl, -⟩ := hs.form
 clear hs
 obtain ⟨wa, hwa⟩ : ∃ wa, wa = (w.alloc (.cells #[.pointer (some ⟨b, 0, none⟩)] 137)).alloc (.cells #[.pointer none] 137) := ⟨_, rfl⟩
 have ta : Touch (fun _ => False) w wa := by rw [hwa]; exact ((Touch.refl _ w).alloc _).alloc _
 have ca : wa.cell? ⟨w.heap.size, 0, none⟩ = some (.pointer (some ⟨b, 0, none⟩)) := by rw [hwa]; simp [go_sem]
 have cb : wa.cell? ⟨w.heap.size + 1, 0, none⟩ = some (.pointer none) := by rw [hwa]; simp [go_sem]
 have fb : wa.frozen? ⟨w.heap.size + 1, 0, none⟩ = false := by rw [hwa]; simp [go_sem]
 have za : wa.heap.size = w.heap.size + 2 := by rw [hwa]; simp
 obtain ⟨Y, hY⟩ : ∃ Y : Nat → Prop, Y = fun k => X k ∨ (w.heap.size ≤ k ∧ k < wa.heap.size) := ⟨_, rfl⟩
 have HA : Hid (Wr Y wa b L 65535) := by subst hY; exact h.more ta (fun k hk => hk)
 have y0 : Hid (Y w.heap.size) := by subst hY; exact Or.inr (by omega)
 have y1 : Hid (Y (w.heap.size + 1)) := by subst hY; exact Or.inr (by omega)
 have YX : Hid (∀ k, X k → Y k) := by subst hY; exact fun k hk => Or.inl hk
 have TA : Hid (Touch (fun _ => False) w wa) := ta
 have HR := proom_no Y b L ns.length wa HA.out hL (by omega) hl
 clear hY h ta za
 go_enter Tryz.func124, Tryz.ntmps124
 go_wp2_with fail
 rw [← hwa]
 refine Calls.mono HR ?_
 rintro e w1 ⟨rfl, t1⟩
 exact ⟨rfl, rfl, Kept.of (TA.out.trans t1)⟩
end Go.Proofs.YtbfplepmgbkajaaGreatDoor
