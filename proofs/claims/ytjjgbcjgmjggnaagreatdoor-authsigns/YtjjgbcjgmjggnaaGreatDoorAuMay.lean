/- Rows of values of any element type: that came in, and that grow by append. -/
import Derived.Test.YtjjgbcjgmjggnaaGreatDoorDigBuf
import Derived.Test.YtjjgbcjgmjggnaaGreatDoorAuPure
namespace Go.Proofs.YtjjgbcjgmjggnaaGreatDoor
open Go.RowKit
set_option linter.unusedVariables false
set_option maxRecDepth 100000

/-- A slice of n elements of k cells each reads, cell by cell, as xs; of the address of one without cells nothing is known. -/
def ValsAt (w : World) (k : Nat) (v : Value) (n : Nat) (xs : List Value) : Prop :=
  xs.length = n * k ∧ ((v = .slice none 0 0 ∧ n = 0) ∨ ∃ ad c, v = .slice (some ad) n c ∧ n ≤ c ∧ c ≤ maxLen ∧ ∀ j u, xs[j]? = some u → w.cell? (ad.add j) = some u)
theorem ValsAt.form {w : World} {k : Nat} {v : Value} {n : Nat} {xs : List Value} (h : ValsAt w k v n xs) : ∃ a c, v = .slice a n c ∧ n ≤ maxLen := by
  rcases h.2 with ⟨rfl, rfl⟩ | ⟨ad, c, rfl, h1, h2, _⟩
  · exact ⟨_, _, rfl, Nat.zero_le _⟩
  · exact ⟨_, _, rfl, Nat.le_trans h1 h2⟩
theorem ValsAt.keep {w w' : World} {k : Nat} {v : Value} {n : Nat} {xs : List Value} (h : ValsAt w k v n xs) (t : Touch (fun _ => False) w w') : ValsAt w' k v n xs := by
  refine ⟨h.1, ?_⟩
  rcases h.2 with h | ⟨ad, c, rfl, h1, h2, h3⟩
  · exact Or.inl h
  · exact Or.inr ⟨ad, c, rfl, h1, h2, fun j u hj => t.cellN (h3 j u hj)⟩
/-- Where there is an element: its cells. -/
theorem ValsAt.cells {w : World} {k : Nat} {v : Value} {n : Nat} {xs : List Value} (h : ValsAt w k v n xs) (hn : 0 < n) (hk : 0 < k) :
    ∃ g off c, v = .slice (some ⟨g, off, none⟩) n c ∧ n ≤ c ∧ c ≤ maxLen ∧ ∀ j u, xs[j]? = some u → w.cell? ⟨g, off + j, none⟩ = some u := by
  obtain ⟨hl, h⟩ := h
  rcases h with ⟨_, rfl⟩ | ⟨ad, c, rfl, h1, h2, h3⟩
  · omega
  · have hp : 0 < xs.length := by rw [hl]; exact Nat.mul_pos hn hk
    obtain ⟨g, off, spot⟩ := ad
    have hc := h3 0 xs[0] (by simp [hp])
    have hspot : spot = none := by simpa [Addr.add] using World.cell?_spot hc
    subst hspot
    exact ⟨g, off, c, rfl, h1, h2, fun j u hj => by have := h3 j u hj; rwa [add_plain] at this⟩
theorem ArgAt.vals {w : World} {v : Value} {rs : List Int} (h : ArgAt w v rs) : ValsAt w 1 v rs.length (bytesOf rs) := by
  refine ⟨by simp [bytesOf], ?_⟩
  rcases h with ⟨rfl, rfl⟩ | h
  · exact Or.inl ⟨rfl, rfl⟩
  · exact Or.inr h

/-- v is a row of n elements (type e, k cells each) that was made since w0, and reads as xs; nothing of w0 has turned. -/
structure VBuf (e k : Nat) (w0 w : World) (v : Value) (n : Nat) (xs : List Value) : Prop where
  own : w.ownsRow w0.heap.size e k v n xs
  t : Touch (fun _ => False) w0 w
theorem VBuf.keep {e k : Nat} {w0 w w' : World} {v : Value} {n : Nat} {xs : List Value} (h : VBuf e k w0 w v n xs) (t : Touch (fun _ => False) w w') : VBuf e k w0 w' v n xs := ⟨own_touch h.own t (fun _ _ h => h), h.t.trans t⟩
theorem VBuf.back {e k : Nat} {w0 w w' : World} {v : Value} {n : Nat} {xs : List Value} (h : VBuf e k w w' v n xs) (t : Touch (fun _ => False) w0 w) : VBuf e k w0 w' v n xs := by
  refine ⟨⟨h.own.1, ?_⟩, t.trans h.t⟩
  rcases h.own.2 with h2 | ⟨g, cap, cur, hv, hb, hr⟩
  · exact Or.inl h2
  · exact Or.inr ⟨g, cap, cur, hv, Nat.le_trans t.size hb, hr⟩
theorem VBuf.nil (e k : Nat) {w0 w : World} (t : Touch (fun _ => False) w0 w) : VBuf e k w0 w (.slice none 0 0) 0 [] := ⟨World.ownsRow_nil _ _ _ _, t⟩
theorem VBuf.form {e k : Nat} {w0 w : World} {v : Value} {n : Nat} {xs : List Value} (h : VBuf e k w0 w v n xs) : ∃ a c, v = .slice a n c := by
  rcases h.own.2 with ⟨rfl, e⟩ | ⟨g, cap, cur, rfl, _⟩
  · exact ⟨none, 0, by rw [e]⟩
  · exact ⟨_, cap, rfl⟩
theorem VBuf.vals {e k : Nat} {w0 w : World} {v : Value} {n : Nat} {xs : List Value} (h : VBuf e k w0 w v n xs) : ValsAt w k v n xs := by
  refine ⟨h.own.1, ?_⟩
  rcases h.own.2 with h2 | ⟨g, cap, cur, hv, hb, hh, h1, h2, h3, h4⟩
  · exact Or.inl h2
  · refine Or.inr ⟨_, cap, hv, h1, h2, fun j u hj => ?_⟩
    have hjl := (List.getElem?_eq_some_iff.mp hj).1
    have hl := h.own.1
    rw [add_plain, Nat.zero_add]
    rw [← h4, List.getElem?_take, if_pos (by omega)] at hj
    simp [World.cell?, hh]
    simpa using hj
theorem VBuf.bytes {w0 w : World} {v : Value} {l : List Int} (h : VBuf 5 1 w0 w v l.length (bytesOf l)) : Buf w0 w v l := ⟨h.own, h.t⟩
section
variable {ops : Array Oper} {rest : List Oper} {o : Oper} {a : Act} {Q : Exit → Act → World → Prop} {w : World}
end
end Go.Proofs.YtjjgbcjgmjggnaaGreatDoor

namespace Go.Proofs.YtjjgbcjgmjggnaaGreatDoor
open Go.RowKit
set_option linter.unusedVariables false
set_option maxRecDepth 100000

/-- A key: its numbers, and where its secret lies. -/
structure KE where
  p : AKP
  a : Option Addr
  c : Nat
abbrev KE.sv (x : KE) : Value := .slice x.a x.p.sec.length x.c
def KE.cells (x : KE) : List Value := [.int .u8 x.p.id, .int .u16 x.p.kind, x.sv, .int .i64 x.p.sf, .int .i64 x.p.su, .int .i64 x.p.tf, .int .i64 x.p.tu]
abbrev KE.agg (x : KE) : Value := .agg #[.int .u8 x.p.id, .int .u16 x.p.kind, .slice x.a x.p.sec.length x.c, .int .i64 x.p.sf, .int .i64 x.p.su, .int .i64 x.p.tf, .int .i64 x.p.tu]
def chainC (l : List KE) : List Value := l.flatMap KE.cells
abbrev pureL (l : List KE) : List AKP := l.map KE.p
theorem length_chainC (l : List KE) : (chainC l).length = l.length * 7 := by
  induction l with
  | nil => rfl
  | cons x r ih => unfold chainC at *; rw [List.flatMap_cons, List.length_append, ih, List.length_cons]; simp [KE.cells]; omega
theorem chainC_at (l : List KE) (j i : Nat) (x : KE) (hj : l[j]? = some x) (hi : i < 7) : (chainC l)[j * 7 + i]? = x.cells[i]? := by
  induction l generalizing j with
  | nil => simp at hj
  | cons y r ih =>
    have e : chainC (y :: r) = y.cells ++ chainC r := by simp [chainC]
    have hl : y.cells.length = 7 := rfl
    rw [e]
    cases j with
    | zero =>
      obtain rfl : y = x := by simpa using hj
      rw [List.getElem?_append_left (by omega), Nat.zero_mul, Nat.zero_add]
    | succ j =>
      rw [List.getElem?_append_right (by omega), hl, show (j + 1) * 7 + i - 7 = j * 7 + i by omega]
      exact ih j (by simpa using hj)
structure KE.Ok (w : World) (x : KE) : Prop where
  all : x.p.Ok
  arg : ArgAt w x.sv x.p.sec
theorem KE.Ok.keep {w w' : World} {x : KE} (h : x.Ok w) (t : Touch (fun _ => False) w w') : x.Ok w' := ⟨h.all, h.arg.keep t (fun _ _ h => h)⟩
/-- A row of keys that came in. -/
structure ChainAt (w : World) (v : Value) (l : List KE) : Prop where
  vals : ValsAt w 7 v l.length (chainC l)
  ok : ∀ x ∈ l, x.Ok w
theorem ChainAt.keep {w w' : World} {v : Value} {l : List KE} (h : ChainAt w v l) (t : Touch (fun _ => False) w w') : ChainAt w' v l := ⟨h.vals.keep t, fun x hx => (h.ok x hx).keep t⟩
/-- One of them. -/
theorem ChainAt.one {w : World} {v : Value} {l : List KE} (h : ChainAt w v l) {j : Nat} {x : KE} (hj : l[j]? = some x) : x.Ok w ∧ ∃ g off c, v = .slice (some ⟨g, off, none⟩) l.length c ∧ ∀ i u, x.cells[i]? = some u → w.cell? ⟨g, off + (j * 7 + i), none⟩ = some u := by
  have hlt := (List.getElem?_eq_some_iff.mp hj).1
  obtain ⟨g, off, c, e, _, _, hc⟩ := h.vals.cells (by omega) (by omega)
  refine ⟨h.ok x (List.mem_of_getElem? hj), g, off, c, e, fun i u hu => hc _ _ ?_⟩
  have hi : i < 7 := (List.getElem?_eq_some_iff.mp hu).1
  rw [chainC_at l j i x hj hi]
  exact hu
end Go.Proofs.YtjjgbcjgmjggnaaGreatDoor

namespace Go.Proofs.YtjjgbcjgmjggnaaGreatDoor
open Go.RowKit
set_option linter.unusedVariables false
set_option maxRecDepth 100000

/-- A key in a block of its own. -/
def KBox (w : World) (b : Nat) (i kd : Int) (ka : Option Addr) (kn kc : Nat) (sf su tf tu : Int) : Prop := Row w b 61 [.int .u8 i, .int .u16 kd, .slice ka kn kc, .int .i64 sf, .int .i64 su, .int .i64 tf, .int .i64 tu]
theorem KBox.keep {w w' : World} {b : Nat} {i kd : Int} {ka : Option Addr} {kn kc : Nat} {sf su tf tu : Int} (h : KBox w b i kd ka kn kc sf su tf tu) (t : Touch (fun _ => False) w w') : KBox w' b i kd ka kn kc sf su tf tu := Row.keep h t
theorem kbox_new (w : World) (i kd : Int) (ka : Option Addr) (kn kc : Nat) (sf su tf tu : Int) : KBox (w.alloc (.cells #[.int .u8 i, .int .u16 kd, .slice ka kn kc, .int .i64 sf, .int .i64 su, .int .i64 tf, .int .i64 tu] 61)) w.heap.size i kd ka kn kc sf su tf tu := row_new w 61 _
theorem KBox.c0 {w : World} {b : Nat} {i kd : Int} {ka : Option Addr} {kn kc : Nat} {sf su tf tu : Int} (h : KBox w b i kd ka kn kc sf su tf tu) : w.cell? ⟨b, 0, none⟩ = some (.int .u8 i) := Row.cell h 0
theorem KBox.c1 {w : World} {b : Nat} {i kd : Int} {ka : Option Addr} {kn kc : Nat} {sf su tf tu : Int} (h : KBox w b i kd ka kn kc sf su tf tu) : w.cell? ⟨b, 1, none⟩ = some (.int .u16 kd) := Row.cell h 1
theorem KBox.c2 {w : World} {b : Nat} {i kd : Int} {ka : Option Addr} {kn kc : Nat} {sf su tf tu : Int} (h : KBox w b i kd ka kn kc sf su tf tu) : w.cell? ⟨b, 2, none⟩ = some (.slice ka kn kc) := Row.cell h 2
theorem KBox.c3 {w : World} {b : Nat} {i kd : Int} {ka : Option Addr} {kn kc : Nat} {sf su tf tu : Int} (h : KBox w b i kd ka kn kc sf su tf tu) : w.cell? ⟨b, 3, none⟩ = some (.int .i64 sf) := Row.cell h 3
theorem KBox.c4 {w : World} {b : Nat} {i kd : Int} {ka : Option Addr} {kn kc : Nat} {sf su tf tu : Int} (h : KBox w b i kd ka kn kc sf su tf tu) : w.cell? ⟨b, 4, none⟩ = some (.int .i64 su) := Row.cell h 4
theorem KBox.c5 {w : World} {b : Nat} {i kd : Int} {ka : Option Addr} {kn kc : Nat} {sf su tf tu : Int} (h : KBox w b i kd ka kn kc sf su tf tu) : w.cell? ⟨b, 5, none⟩ = some (.int .i64 tf) := Row.cell h 5
theorem KBox.c6 {w : World} {b : Nat} {i kd : Int} {ka : Option Addr} {kn kc : Nat} {sf su tf tu : Int} (h : KBox w b i kd ka kn kc sf su tf tu) : w.cell? ⟨b, 6, none⟩ = some (.int .i64 tu) := Row.cell h 6
set_option maxHeartbeats 1000000 in
theorem may_a (w : World) (i kd : Int) (ka : Option Addr) (kn kc : Nat) (sf su tf tu : Int) (hA : spanB sf su = false) :
    Calls Tryz.prog 58 #[.agg #[.int .u8 i, .int .u16 kd, .slice ka kn kc, .int .i64 sf, .int .i64 su, .int .i64 tf, .int .i64 tu]] w fun e w' => e = .returned (.bool false) ∧ Touch (fun _ => False) w w' := by
  have HS := fun w => sending_any w i kd ka kn kc sf su tf tu
  have HT := fun w => taking_any w i kd ka kn kc sf su tf tu
  have HP := fun w => span_any w sf su
  have HQ := fun w => span_any w tf tu
  have HL := fun w => longest_any w kd
  go_enter Tryz.func58, Tryz.ntmps58
  go_wp2_with fail
  have r0 := kbox_new w i kd ka kn kc sf su tf tu
  have t0 : Hid (Touch (fun _ => False) w (w.alloc (.cells #[.int .u8 i, .int .u16 kd, .slice ka kn kc, .int .i64 sf, .int .i64 su, .int .i64 tf, .int .i64 tu] 61))) := (Touch.refl _ _).alloc _
  generalize w.alloc (.cells #[.int .u8 i, .int .u16 kd, .slice ka kn kc, .int .i64 sf, .int .i64 su, .int .i64 tf, .int .i64 tu] 61) = wa at r0 t0 ⊢
  refine Calls.mono (HS _) ?_
  rintro e w1 ⟨rfl, t1⟩
  have r1 := r0.keep t1
  replace t1 : Hid (Touch (fun _ => False) w w1) := t0.out.trans t1
  clear r0 t0
  go_wp2_with fail
  refine Calls.mono (HP _) ?_
  rintro e w2 ⟨rfl, rfl⟩
  rw [hA]
  go_wp2_with fail
  go_region
  go_wp2_with fail
  go_ret
  exact ⟨rfl, t1.out.trans ((Touch.refl _ _).drew)⟩
set_option maxHeartbeats 1000000 in
theorem may_b (w : World) (i kd : Int) (ka : Option Addr) (kn kc : Nat) (sf su tf tu : Int) (hA : spanB sf su = true) (hB : spanB tf tu = false) :
    Calls Tryz.prog 58 #[.agg #[.int .u8 i, .int .u16 kd, .slice ka kn kc, .int .i64 sf, .int .i64 su, .int .i64 tf, .int .i64 tu]] w fun e w' => e = .returned (.bool false) ∧ Touch (fun _ => False) w w' := by
  have HS := fun w => sending_any w i kd ka kn kc sf su tf tu
  have HT := fun w => taking_any w i kd ka kn kc sf su tf tu
  have HP := fun w => span_any w sf su
  have HQ := fun w => span_any w tf tu
  have HL := fun w => longest_any w kd
  go_enter Tryz.func58, Tryz.ntmps58
  go_wp2_with fail
  have r0 := kbox_new w i kd ka kn kc sf su tf tu
  have t0 : Hid (Touch (fun _ => False) w (w.alloc (.cells #[.int .u8 i, .int .u16 kd, .slice ka kn kc, .int .i64 sf, .int .i64 su, .int .i64 tf, .int .i64 tu] 61))) := (Touch.refl _ _).alloc _
  generalize w.alloc (.cells #[.int .u8 i, .int .u16 kd, .slice ka kn kc, .int .i64 sf, .int .i64 su, .int .i64 tf, .int .i64 tu] 61) = wa at r0 t0 ⊢
  refine Calls.mono (HS _) ?_
  rintro e w1 ⟨rfl, t1⟩
  have r1 := r0.keep t1
  replace t1 : Hid (Touch (fun _ => False) w w1) := t0.out.trans t1
  clear r0 t0
  go_wp2_with fail
  refine Calls.mono (HP _) ?_
  rintro e w2 ⟨rfl, rfl⟩
  rw [hA]
  have c0 := r1.c0
  have c1 := r1.c1
  have c2 := r1.c2
  have c3 := r1.c3
  have c4 := r1.c4
  have c5 := r1.c5
  have c6 := r1.c6
  go_wp2_with fail
  refine Calls.mono (HT _) ?_
  rintro e w2 ⟨rfl, t2⟩
  have r2 := r1.keep t2
  replace t2 : Hid (Touch (fun _ => False) w w2) := t1.out.trans t2
  clear r1 t1 c0 c1 c2 c3 c4 c5 c6
  go_wp2_with fail
  refine Calls.mono (HQ _) ?_
  rintro e w3 ⟨rfl, rfl⟩
  rw [hB]
  go_wp2_with fail
  go_region
  go_wp2_with fail
  go_ret
  exact ⟨rfl, t2.out.trans ((Touch.refl _ _).drew)⟩
set_option maxHeartbeats 1000000 in
theorem may_c (w : World) (i kd : Int) (ka : Option Addr) (kn kc : Nat) (sf su tf tu : Int) (hA : spanB sf su = true) (hB : spanB tf tu = true) (hC : ¬ (1 : Int) ≤ (kn : Int)) :
    Calls Tryz.prog 58 #[.agg #[.int .u8 i, .int .u16 kd, .slice ka kn kc, .int .i64 sf, .int .i64 su, .int .i64 tf, .int .i64 tu]] w fun e w' => e = .returned (.bool false) ∧ Touch (fun _ => False) w w' := by
  have HS := fun w => sending_any w i kd ka kn kc sf su tf tu
  have HT := fun w => taking_any w i kd ka kn kc sf su tf tu
  have HP := fun w => span_any w sf su
  have HQ := fun w => span_any w tf tu
  have HL := fun w => longest_any w kd
  have hd : decide ((1 : Int) ≤ (kn : Int)) = false := decide_eq_false hC
  go_enter Tryz.func58, Tryz.ntmps58
  go_wp2_with fail
  have r0 := kbox_new w i kd ka kn kc sf su tf tu
  have t0 : Hid (Touch (fun _ => False) w (w.alloc (.cells #[.int .u8 i, .int .u16 kd, .slice ka kn kc, .int .i64 sf, .int .i64 su, .int .i64 tf, .int .i64 tu] 61))) := (Touch.refl _ _).alloc _
  generalize w.alloc (.cells #[.int .u8 i, .int .u16 kd, .slice ka kn kc, .int .i64 sf, .int .i64 su, .int .i64 tf, .int .i64 tu] 61) = wa at r0 t0 ⊢
  refine Calls.mono (HS _) ?_
  rintro e w1 ⟨rfl, t1⟩
  have r1 := r0.keep t1
  replace t1 : Hid (Touch (fun _ => False) w w1) := t0.out.trans t1
  clear r0 t0
  go_wp2_with fail
  refine Calls.mono (HP _) ?_
  rintro e w2 ⟨rfl, rfl⟩
  rw [hA]
  have c0 := r1.c0
  have c1 := r1.c1
  have c2 := r1.c2
  have c3 := r1.c3
  have c4 := r1.c4
  have c5 := r1.c5
  have c6 := r1.c6
  go_wp2_with fail
  refine Calls.mono (HT _) ?_
  rintro e w2 ⟨rfl, t2⟩
  have r2 := r1.keep t2
  replace t2 : Hid (Touch (fun _ => False) w w2) := t1.out.trans t2
  clear r1 t1 c0 c1 c2 c3 c4 c5 c6
  go_wp2_with fail
  refine Calls.mono (HQ _) ?_
  rintro e w3 ⟨rfl, rfl⟩
  rw [hB]
  have c2 := r2.c2
  go_wp2_with fail
  go_region
  go_wp2_with fail
  go_ret
  exact ⟨rfl, t2.out.trans ((Touch.refl _ _).drew)⟩
set_option maxHeartbeats 1000000 in
theorem may_d (w : World) (i kd : Int) (ka : Option Addr) (kn kc : Nat) (sf su tf tu : Int) (hA : spanB sf su = true) (hB : spanB tf tu = true) (hC : (1 : Int) ≤ (kn : Int)) (N : Int) (hN : longN kd = N) :
    Calls Tryz.prog 58 #[.agg #[.int .u8 i, .int .u16 kd, .slice ka kn kc, .int .i64 sf, .int .i64 su, .int .i64 tf, .int .i64 tu]] w fun e w' => e = .returned (.bool (decide ((kn : Int) ≤ N))) ∧ Touch (fun _ => False) w w' := by
  have HS := fun w => sending_any w i kd ka kn kc sf su tf tu
  have HT := fun w => taking_any w i kd ka kn kc sf su tf tu
  have HP := fun w => span_any w sf su
  have HQ := fun w => span_any w tf tu
  have HL := fun w => longest_any w kd
  rw [hN] at HL
  go_enter Tryz.func58, Tryz.ntmps58
  go_wp2_with fail
  have r0 := kbox_new w i kd ka kn kc sf su tf tu
  have t0 : Hid (Touch (fun _ => False) w (w.alloc (.cells #[.int .u8 i, .int .u16 kd, .slice ka kn kc, .int .i64 sf, .int .i64 su, .int .i64 tf, .int .i64 tu] 61))) := (Touch.refl _ _).alloc _
  generalize w.alloc (.cells #[.int .u8 i, .int .u16 kd, .slice ka kn kc, .int .i64 sf, .int .i64 su, .int .i64 tf, .int .i64 tu] 61) = wa at r0 t0 ⊢
  refine Calls.mono (HS _) ?_
  rintro e w1 ⟨rfl, t1⟩
  have r1 := r0.keep t1
  replace t1 : Hid (Touch (fun _ => False) w w1) := t0.out.trans t1
  clear r0 t0
  go_wp2_with fail
  refine Calls.mono (HP _) ?_
  rintro e w2 ⟨rfl, rfl⟩
  rw [hA]
  have c0 := r1.c0
  have c1 := r1.c1
  have c2 := r1.c2
  have c3 := r1.c3
  have c4 := r1.c4
  have c5 := r1.c5
  have c6 := r1.c6
  go_wp2_with fail
  refine Calls.mono (HT _) ?_
  rintro e w2 ⟨rfl, t2⟩
  have r2 := r1.keep t2
  replace t2 : Hid (Touch (fun _ => False) w w2) := t1.out.trans t2
  clear r1 t1 c0 c1 c2 c3 c4 c5 c6
  go_wp2_with fail
  refine Calls.mono (HQ _) ?_
  rintro e w3 ⟨rfl, rfl⟩
  rw [hB]
  go_wp2_with fail
  have d1 := snA_cell r2.c1
  have d2 := snA_cell r2.c2
  have st := SnA.start w2
  clear r2
  go_region_held3 (fun w' => SnA w2 w') (with_reducible assumption) (first | (go_at_call 92; refine Calls.mono (HL _) ?_; rintro e w4 ⟨rfl, rfl⟩))
  go_wp2_with fail
  go_ret
  exact ⟨rfl, t2.out.trans ((Touch.refl _ _).drew)⟩
/-- mayBe, every way. -/
theorem may_any (x : KE) (w : World) : Calls Tryz.prog 58 #[x.agg] w fun e w' => e = .returned (.bool x.p.may) ∧ Touch (fun _ => False) w w' := by
  unfold AKP.may
  cases hA : spanB x.p.sf x.p.su
  · exact may_a w _ _ _ _ _ _ _ _ _ hA
  · cases hB : spanB x.p.tf x.p.tu
    · exact may_b w _ _ _ _ _ _ _ _ _ hA hB
    · by_cases hC : (1 : Int) ≤ (x.p.sec.length : Int)
      · have e : decide (1 ≤ (x.p.sec.length : Int) ∧ (x.p.sec.length : Int) ≤ longN x.p.kind) = decide ((x.p.sec.length : Int) ≤ longN x.p.kind) := decide_eq_decide.mpr ⟨fun h => h.2, fun h => ⟨hC, h⟩⟩
        rw [e]
        exact may_d w _ _ _ _ _ _ _ _ _ hA hB hC _ rfl
      · rw [decide_eq_false (fun h => hC h.1)]
        exact may_c w _ _ _ _ _ _ _ _ _ hA hB hC
end Go.Proofs.YtjjgbcjgmjggnaaGreatDoor
