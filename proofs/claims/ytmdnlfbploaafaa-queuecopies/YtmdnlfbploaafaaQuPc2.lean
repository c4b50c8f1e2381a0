
/- Law 10: one (a call of both). -/
import Derived.Test.YtmdnlfbploaafaaQuPc1
namespace Go.Proofs.Ytmdnlfbploaafaa
open Go.RowKit
set_option linter.unusedVariables false
set_option maxRecDepth 100000

/-- A call's box. -/
structure OX (w : World) (g : Nat) (dd : Int) (x : En) : Prop where
  c0 : w.cell? ⟨g, 0, none⟩ = some (.int .u8 dd)
  c1 : w.cell? ⟨g, 1, none⟩ = some (.int .i64 x.a)
  c2 : w.cell? ⟨g, 2, none⟩ = some (.int .i64 x.r)
  c3 : w.cell? ⟨g, 3, none⟩ = some (.int .u64 x.k)
theorem OX.keep {F : Nat → Prop} {w w' : World} {g : Nat} {dd : Int} {x : En} (h : OX w g dd x) (t : Touch F w w') (hF : ¬ F g) : OX w' g dd x :=
  ⟨(t.cell (p := ⟨g, 0, none⟩) (lt_of_cell h.c0) hF).trans h.c0, (t.cell (p := ⟨g, 1, none⟩) (lt_of_cell h.c0) hF).trans h.c1, (t.cell (p := ⟨g, 2, none⟩) (lt_of_cell h.c0) hF).trans h.c2, (t.cell (p := ⟨g, 3, none⟩) (lt_of_cell h.c0) hF).trans h.c3⟩
theorem ox_new (w : World) (dd : Int) (x : En) : OX (w.alloc (.cells #[.int .u8 dd, .int .i64 x.a, .int .i64 x.r, .int .u64 x.k] 34)) w.heap.size dd x := by
  constructor <;> simp
/-- Both after a call of the first. -/
structure B1 (G : Nat → Prop) (W : World) (b m : Nat) (most : Int) (d : Nat) (u : Value) (k L : List En) (g : Nat) (dd : Int) (x : En) (w' : World) : Prop where
  out : ∃ v l, BothG G W w' b v m most l d u k ∧ l.Perm L
  ox : OX w' g dd x
/-- .. of both. -/
structure OneP (G : Nat → Prop) (W : World) (b m : Nat) (most : Int) (d : Nat) (w' : World) : Prop where
  out : ∃ v l u k, BothG G W w' b v m most l d u k ∧ l.Perm k
theorem OneP.keep {G : Nat → Prop} {W w w' : World} {b m : Nat} {most : Int} {d : Nat} (h : OneP G W b m most d w) (t : Touch (fun _ => False) w w') : OneP G W b m most d w' := by
  obtain ⟨v, l, u, k, B, p⟩ := h.out
  exact ⟨v, l, u, k, B.keepN t, p⟩
structure BX (G : Nat → Prop) (W w : World) (b : Nat) (v : Value) (m : Nat) (most : Int) (l : List En) (d : Nat) (u : Value) (k : List En) (g : Nat) (dd : Int) (x : En) : Prop where
  B : BothG G W w b v m most l d u k
  p : l.Perm k
  ox : OX w g dd x
  gq : ¬ qB b v m g
  gd : ¬ dB d u g
  ok : x.Ok
theorem BX.b1 {G : Nat → Prop} {W w w' : World} {b : Nat} {v : Value} {m : Nat} {most : Int} {l L : List En} {d : Nat} {u : Value} {k : List En} {g : Nat} {dd : Int} {x : En} (h : BX G W w b v m most l d u k g dd x) (n : QN w b v m most L w') : B1 G W b m most d u k L g dd x w' := by
  obtain ⟨v', l', B', p'⟩ := h.B.step1 n
  exact ⟨⟨v', l', B', p'⟩, h.ox.keep n.t h.gq⟩
theorem BX.keep {G : Nat → Prop} {W w w' : World} {b : Nat} {v : Value} {m : Nat} {most : Int} {l : List En} {d : Nat} {u : Value} {k : List En} {g : Nat} {dd : Int} {x : En} (h : BX G W w b v m most l d u k g dd x) (t : Touch (fun _ => False) w w') : BX G W w' b v m most l d u k g dd x :=
  ⟨h.B.keepN t, h.p, h.ox.keep t (fun e => e), h.gq, h.gd, h.ok⟩
theorem BX.one {G : Nat → Prop} {W w : World} {b : Nat} {v : Value} {m : Nat} {most : Int} {l : List En} {d : Nat} {u : Value} {k : List En} {g : Nat} {dd : Int} {x : En} (h : BX G W w b v m most l d u k g dd x) : OneP G W b m most d w := ⟨v, l, u, k, h.B, h.p⟩
structure B2 (G : Nat → Prop) (W : World) (b m : Nat) (most : Int) (d : Nat) (u : Value) (g : Nat) (dd : Int) (x : En) (w1 w' : World) : Prop where
  one : OneP G W b m most d w'
  ox : OX w' g dd x
  t : Touch (dB d u) w1 w'
theorem B1.keep {G : Nat → Prop} {W w1 w' : World} {b m : Nat} {most : Int} {d : Nat} {u : Value} {k L : List En} {g : Nat} {dd : Int} {x : En} (h : B1 G W b m most d u k L g dd x w1) (t : Touch (fun _ => False) w1 w') : B1 G W b m most d u k L g dd x w' := by
  obtain ⟨v', l', B', p'⟩ := h.out
  exact ⟨⟨v', l', B'.keepN t, p'⟩, h.ox.keep t (fun e => e)⟩
theorem B1.two {G : Nat → Prop} {W w1 w' : World} {b m : Nat} {most : Int} {d : Nat} {u : Value} {k L L2 : List En} {g : Nat} {dd : Int} {x : En} (h : B1 G W b m most d u k L g dd x w1) (n : DN w1 d u most L2 w') (p : L.Perm L2) (gd : ¬ dB d u g) : B2 G W b m most d u g dd x w1 w' := by
  obtain ⟨v', l', B', p'⟩ := h.out
  obtain ⟨u', BB⟩ := B'.step2 n
  exact ⟨⟨v', l', u', L2, BB, p'.trans p⟩, h.ox.keep n.t gd, n.t⟩
theorem B1.ds {G : Nat → Prop} {W w1 : World} {b m : Nat} {most : Int} {d : Nat} {u : Value} {k L : List En} {g : Nat} {dd : Int} {x : En} (h : B1 G W b m most d u k L g dd x w1) : DS w1 d u most k := by
  obtain ⟨v', l', B', p'⟩ := h.out
  exact B'.ds
section calls
variable {G : Nat → Prop} {W w : World} {b : Nat} {v : Value} {m : Nat} {most : Int} {l : List En} {d : Nat} {u : Value} {k : List En} {g : Nat} {dd : Int} {x : En}
theorem put1 (h : BX G W w b v m most l d u k g dd x) {z : Bool} (hz : putB l most x = z) :
    Calls Try.prog 17 #[.pointer (some ⟨b, 0, none⟩), .int .i64 x.a, .int .i64 x.r, .int .u64 x.k] w fun e w' => e = .returned (.bool z) ∧ B1 G W b m most d u k (putL l most x) g dd x w' := by
  refine Calls.mono (put_any w b v m most l x h.ok h.B.q) ?_
  rintro e w' ⟨rfl, n⟩
  exact ⟨by rw [hz], h.b1 n⟩
theorem put2 {w1 : World} (hB : B1 G W b m most d u k (putL l most x) g dd x w1) (p : l.Perm k) (gd : ¬ dB d u g) (ok : x.Ok) {z : Bool} (hz : putB l most x = z) :
    Calls Try.prog 22 #[.pointer (some ⟨d, 0, none⟩), .int .i64 x.a, .int .i64 x.r, .int .u64 x.k] w1 fun e w' => e = .returned (.bool z) ∧ B2 G W b m most d u g dd x w1 w' := by
  refine Calls.mono (dput_any w1 d u most k x ok hB.ds) ?_
  rintro e w' ⟨rfl, L, n, pL⟩
  have pp := putL_perm p most x
  exact ⟨by rw [← pp.1, hz], hB.two n (pp.2.trans pL.symm) gd⟩
theorem drop1 (h : BX G W w b v m most l d u k g dd x) {z : Bool} (hz : hasK l x.k = z) :
    Calls Try.prog 20 #[.pointer (some ⟨b, 0, none⟩), .int .u64 x.k] w fun e w' => e = .returned (.bool z) ∧ B1 G W b m most d u k (noK l x.k) g dd x w' := by
  refine Calls.mono (drop_any w b v m most l x.k h.ok.k0 h.ok.k1 h.B.q) ?_
  rintro e w' ⟨rfl, n⟩
  exact ⟨by rw [hz], h.b1 n⟩
theorem drop2 {w1 : World} (hB : B1 G W b m most d u k (noK l x.k) g dd x w1) (p : l.Perm k) (gd : ¬ dB d u g) {z : Bool} (hz : hasK l x.k = z) :
    Calls Try.prog 23 #[.pointer (some ⟨d, 0, none⟩), .int .u64 x.k] w1 fun e w' => e = .returned (.bool z) ∧ B2 G W b m most d u g dd x w1 w' := by
  refine Calls.mono (ddrop_any w1 d u most k x.k hB.ds) ?_
  rintro e w' ⟨rfl, n⟩
  exact ⟨by rw [← hasK_perm p, hz], hB.two n (noK_perm p _) gd⟩
theorem NextP.one {l l' : List En} {x y : En} {z z' : Bool} (h : NextP l x z) (h' : NextP l' y z') (p : l.Perm l') : x = y ∧ z = z' := by
  by_cases hl : l = []
  · subst hl
    have e := p.nil_eq
    have h1 := h.no rfl
    have h2 := h'.no e.symm
    exact ⟨h1.1.trans h2.1.symm, h1.2.trans h2.2.symm⟩
  · have h1 := h.yes hl
    have h2 := h'.yes (fun e => hl (by subst e; exact p.eq_nil))
    exact ⟨h1.1.one h2.1 p, h1.2.trans h2.2.symm⟩
theorem next1 (h : BX G W w b v m most l d u k g dd x) :
    ∃ y z, NextP l y z ∧ Calls Try.prog 19 #[.pointer (some ⟨b, 0, none⟩)] w fun e w' => e = .returned (.tuple #[.agg #[.int .i64 y.a, .int .i64 y.r, .int .u64 y.k], .bool z]) ∧ Touch (fun _ => False) w w' := next_any w b v m most l h.B.q
theorem next2 {w1 : World} (h : BX G W w1 b v m most l d u k g dd x) {y : En} {z : Bool} (hn : NextP l y z) :
    Calls Try.prog 24 #[.pointer (some ⟨d, 0, none⟩)] w1 fun e w' => e = .returned (.tuple #[.agg #[.int .i64 y.a, .int .i64 y.r, .int .u64 y.k], .bool z]) ∧ Touch (fun _ => False) w1 w' := by
  refine Calls.mono (dnext_any w1 d u most k h.B.ds) ?_
  rintro e w' ⟨y', z', hn', rfl, t⟩
  obtain ⟨rfl, rfl⟩ := hn.one hn' h.p
  exact ⟨rfl, t⟩
theorem when1 (h : BX G W w b v m most l d u k g dd x) :
    ∃ a z, WhenP l x.k a z ∧ Calls Try.prog 21 #[.pointer (some ⟨b, 0, none⟩), .int .u64 x.k] w fun e w' => e = .returned (.tuple #[.int .i64 a, .bool z]) ∧ Touch (fun _ => False) w w' := when_any w b v m most l x.k h.ok.k0 h.ok.k1 h.B.q
theorem when2 {w1 : World} (h : BX G W w1 b v m most l d u k g dd x) {a : Int} {z : Bool} (hn : WhenP l x.k a z) :
    Calls Try.prog 27 #[.pointer (some ⟨d, 0, none⟩), .int .u64 x.k] w1 fun e w' => e = .returned (.tuple #[.int .i64 a, .bool z]) ∧ Touch (fun _ => False) w1 w' := by
  refine Calls.mono (dwhen_any w1 d u most k x.k h.B.ds) ?_
  rintro e w' ⟨a', z', rfl, t, hn'⟩
  obtain ⟨rfl, rfl⟩ := hn.one hn' h.p
  exact ⟨rfl, t⟩
/-- What Take answers. -/
structure TkV (l : List En) (now : Int) (y : En) (z : Bool) : Prop where
  out : (y = En0 ∧ z = false ∧ (l = [] ∨ ∃ y, IsMin y l ∧ now < y.a) ∧ True) ∨ (z = true ∧ IsMin y l ∧ y.a ≤ now ∧ True)
theorem take1 (h : BX G W w b v m most l d u k g dd x) :
    Calls Try.prog 18 #[.pointer (some ⟨b, 0, none⟩), .int .i64 x.a] w fun e w' => ∃ y z, e = .returned (.tuple #[.agg #[.int .i64 y.a, .int .i64 y.r, .int .u64 y.k], .bool z]) ∧ TkV l x.a y z ∧ B1 G W b m most d u k (tk l z y) g dd x w' := by
  refine Calls.mono (take_any w b v m most l x.a h.B.q) ?_
  rintro e w' ⟨y, z, rfl, hh⟩
  refine ⟨y, z, rfl, ⟨?_⟩, h.b1 (takeQ hh)⟩
  rcases hh with ⟨a1, a2, a3, _⟩ | ⟨a1, a2, a3, _⟩
  · exact Or.inl ⟨a1, a2, a3, trivial⟩
  · exact Or.inr ⟨a1, a2, a3, trivial⟩
theorem take2 {w1 : World} {y : En} {z : Bool} (hB : B1 G W b m most d u k (tk l z y) g dd x w1) (p : l.Perm k) (gd : ¬ dB d u g) (hn : TkV l x.a y z) :
    Calls Try.prog 26 #[.pointer (some ⟨d, 0, none⟩), .int .i64 x.a] w1 fun e w' => e = .returned (.tuple #[.agg #[.int .i64 y.a, .int .i64 y.r, .int .u64 y.k], .bool z]) ∧ B2 G W b m most d u g dd x w1 w' := by
  refine Calls.mono (dtake_any w1 d u most k x.a hB.ds) ?_
  rintro e w' ⟨y', z', rfl, hh⟩
  rcases take_alike p hn.out hh with ⟨rfl, rfl, rfl, rfl, _, _, n⟩ | ⟨rfl, rfl, rfl, hm, _, _, n⟩
  · exact ⟨rfl, hB.two n p gd⟩
  · exact ⟨rfl, hB.two n (noK_perm p _) gd⟩
end calls

set_option maxHeartbeats 1000000 in
theorem one0 (G : Nat → Prop) (W w : World) (b : Nat) (v : Value) (m : Nat) (most : Int) (l : List En) (d : Nat) (u : Value) (k : List En) (dd : Int) (x : En) (hr : dd.tmod 6 = 0)
    (h : BX G W (w.alloc (.cells #[.int .u8 dd, .int .i64 x.a, .int .i64 x.r, .int .u64 x.k] 34)) b v m most l d u k w.heap.size dd x) :
    Calls Try.prog 11 #[.pointer (some ⟨b, 0, none⟩), .pointer (some ⟨d, 0, none⟩), .agg #[.int .u8 dd, .int .i64 x.a, .int .i64 x.r, .int .u64 x.k]] w fun e w' => e = .returned (.bool true) ∧ OneP G W b m most d w' := by
  have HX : Hid _ := h
  clear h
  go_enter Try.func11, Try.ntmps11
  go_wp2_with fail
  clear hr
  generalize w.alloc (.cells #[.int .u8 dd, .int .i64 x.a, .int .i64 x.r, .int .u64 x.k] 34) = wa at HX ⊢
  generalize w.heap.size = g at HX ⊢
  have st : OX wa.drew g dd x := HX.out.ox.keep ((Touch.refl (fun _ => False) _).drew) (fun e => e)
  have HXd : Hid (BX G W wa.drew b v m most l d u k g dd x) := HX.out.keep ((Touch.refl _ _).drew)
  obtain ⟨z, hz⟩ : ∃ z, putB l most x = z := ⟨_, rfl⟩
  have HZ : Hid _ := hz
  clear hz HX
  have f1 : ∀ w', OX w' g dd x → w'.cell? ⟨g, 1, none⟩ = some (.int .i64 x.a) := fun _ h => h.c1
  have f2 : ∀ w', OX w' g dd x → w'.cell? ⟨g, 2, none⟩ = some (.int .i64 x.r) := fun _ h => h.c2
  have f3 : ∀ w', OX w' g dd x → w'.cell? ⟨g, 3, none⟩ = some (.int .u64 x.k) := fun _ h => h.c3
  go_region_held3 (fun w' => OX w' g dd x) (with_reducible assumption) (first | (go_at_call 17; refine Calls.mono (put1 HXd.out HZ.out) ?_; rintro e w1 ⟨rfl, q1⟩; have o1 := q1.ox) | (go_at_call 22; refine Calls.mono (put2 (by assumption) HXd.out.p HXd.out.gd HXd.out.ok HZ.out) ?_; rintro e w2 ⟨rfl, q2⟩; have o2 := q2.ox))
  go_wp2_with fail
  go_ret
  exact ⟨rfl, q2.one⟩

set_option maxHeartbeats 1000000 in
theorem one1 (G : Nat → Prop) (W w : World) (b : Nat) (v : Value) (m : Nat) (most : Int) (l : List En) (d : Nat) (u : Value) (k : List En) (dd : Int) (x : En) (hr : dd.tmod 6 = 1)
    (h : BX G W (w.alloc (.cells #[.int .u8 dd, .int .i64 x.a, .int .i64 x.r, .int .u64 x.k] 34)) b v m most l d u k w.heap.size dd x) :
    Calls Try.prog 11 #[.pointer (some ⟨b, 0, none⟩), .pointer (some ⟨d, 0, none⟩), .agg #[.int .u8 dd, .int .i64 x.a, .int .i64 x.r, .int .u64 x.k]] w fun e w' => e = .returned (.bool true) ∧ OneP G W b m most d w' := by
  have HX : Hid _ := h
  clear h
  go_enter Try.func11, Try.ntmps11
  go_wp2_with fail
  clear hr
  generalize w.alloc (.cells #[.int .u8 dd, .int .i64 x.a, .int .i64 x.r, .int .u64 x.k] 34) = wa at HX ⊢
  generalize w.heap.size = g at HX ⊢
  have st : OX wa.drew g dd x := HX.out.ox.keep ((Touch.refl (fun _ => False) _).drew) (fun e => e)
  have HXd : Hid (BX G W wa.drew b v m most l d u k g dd x) := HX.out.keep ((Touch.refl _ _).drew)
  obtain ⟨z, hz⟩ : ∃ z, putB l most x = z := ⟨_, rfl⟩
  have HZ : Hid _ := hz
  clear hz HX
  have f1 : ∀ w', OX w' g dd x → w'.cell? ⟨g, 1, none⟩ = some (.int .i64 x.a) := fun _ h => h.c1
  have f2 : ∀ w', OX w' g dd x → w'.cell? ⟨g, 2, none⟩ = some (.int .i64 x.r) := fun _ h => h.c2
  have f3 : ∀ w', OX w' g dd x → w'.cell? ⟨g, 3, none⟩ = some (.int .u64 x.k) := fun _ h => h.c3
  go_region_held3 (fun w' => OX w' g dd x) (with_reducible assumption) (first | (go_at_call 17; refine Calls.mono (put1 HXd.out HZ.out) ?_; rintro e w1 ⟨rfl, q1⟩; have o1 := q1.ox) | (go_at_call 22; refine Calls.mono (put2 (by assumption) HXd.out.p HXd.out.gd HXd.out.ok HZ.out) ?_; rintro e w2 ⟨rfl, q2⟩; have o2 := q2.ox))
  go_wp2_with fail
  go_ret
  exact ⟨rfl, q2.one⟩

set_option maxHeartbeats 1000000 in
theorem one2 (G : Nat → Prop) (W w : World) (b : Nat) (v : Value) (m : Nat) (most : Int) (l : List En) (d : Nat) (u : Value) (k : List En) (dd : Int) (x : En) (hr : dd.tmod 6 = 2)
    (h : BX G W (w.alloc (.cells #[.int .u8 dd, .int .i64 x.a, .int .i64 x.r, .int .u64 x.k] 34)) b v m most l d u k w.heap.size dd x) :
    Calls Try.prog 11 #[.pointer (some ⟨b, 0, none⟩), .pointer (some ⟨d, 0, none⟩), .agg #[.int .u8 dd, .int .i64 x.a, .int .i64 x.r, .int .u64 x.k]] w fun e w' => e = .returned (.bool true) ∧ OneP G W b m most d w' := by
  have HX : Hid _ := h
  clear h
  go_enter Try.func11, Try.ntmps11
  go_wp2_with fail
  clear hr
  generalize w.alloc (.cells #[.int .u8 dd, .int .i64 x.a, .int .i64 x.r, .int .u64 x.k] 34) = wa at HX ⊢
  generalize w.heap.size = g at HX ⊢
  have st : OX wa.drew g dd x := HX.out.ox.keep ((Touch.refl (fun _ => False) _).drew) (fun e => e)
  have HXd : Hid (BX G W wa.drew b v m most l d u k g dd x) := HX.out.keep ((Touch.refl _ _).drew)
  obtain ⟨z, hz⟩ : ∃ z, hasK l x.k = z := ⟨_, rfl⟩
  have HZ : Hid _ := hz
  clear hz HX
  have f3 : ∀ w', OX w' g dd x → w'.cell? ⟨g, 3, none⟩ = some (.int .u64 x.k) := fun _ h => h.c3
  go_region_held3 (fun w' => OX w' g dd x) (with_reducible assumption) (first | (go_at_call 20; refine Calls.mono (drop1 HXd.out HZ.out) ?_; rintro e w1 ⟨rfl, q1⟩; have o1 := q1.ox) | (go_at_call 23; refine Calls.mono (drop2 (by assumption) HXd.out.p HXd.out.gd HZ.out) ?_; rintro e w2 ⟨rfl, q2⟩; have o2 := q2.ox))
  go_wp2_with fail
  go_ret
  exact ⟨rfl, q2.one⟩

set_option maxHeartbeats 1000000 in
theorem one3 (G : Nat → Prop) (W w : World) (b : Nat) (v : Value) (m : Nat) (most : Int) (l : List En) (d : Nat) (u : Value) (k : List En) (dd : Int) (x : En) (hr : dd.tmod 6 = 3)
    (h : BX G W (w.alloc (.cells #[.int .u8 dd, .int .i64 x.a, .int .i64 x.r, .int .u64 x.k] 34)) b v m most l d u k w.heap.size dd x) :
    Calls Try.prog 11 #[.pointer (some ⟨b, 0, none⟩), .pointer (some ⟨d, 0, none⟩), .agg #[.int .u8 dd, .int .i64 x.a, .int .i64 x.r, .int .u64 x.k]] w fun e w' => e = .returned (.bool true) ∧ OneP G W b m most d w' := by
  have HX : Hid _ := h
  clear h
  go_enter Try.func11, Try.ntmps11
  go_wp2_with fail
  clear hr
  generalize w.alloc (.cells #[.int .u8 dd, .int .i64 x.a, .int .i64 x.r, .int .u64 x.k] 34) = wa at HX ⊢
  generalize w.heap.size = g at HX ⊢
  obtain ⟨y, z, hn, HC⟩ := next1 HX.out
  have HN : Hid _ := hn
  clear hn
  refine Calls.mono HC ?_
  rintro e w1 ⟨rfl, t1⟩
  clear HC
  have HX2 : Hid _ := HX.out.keep (t1.alloc (.cells #[.int .i64 y.a, .int .i64 y.r, .int .u64 y.k] 41))
  go_wp2_with fail
  refine Calls.mono (next2 HX2.out HN.out) ?_
  rintro e w2 ⟨rfl, t2⟩
  have R1 : Row w2 w1.heap.size 41 [.int .i64 y.a, .int .i64 y.r, .int .u64 y.k] := (row_new w1 _ _).keep t2
  have y0 : w2.cell? ⟨w1.heap.size, 0, none⟩ = some (.int .i64 y.a) := R1.cell 0
  have y1 : w2.cell? ⟨w1.heap.size, 1, none⟩ = some (.int .i64 y.r) := R1.cell 1
  have y2 : w2.cell? ⟨w1.heap.size, 2, none⟩ = some (.int .u64 y.k) := R1.cell 2
  have hlt := R1.lt
  clear R1
  have HX3 : Hid _ := HX2.out.keep (t2.alloc (.cells #[.int .i64 y.a, .int .i64 y.r, .int .u64 y.k] 62))
  clear t1 t2
  go_wp2_with (go_at_call 25; refine Calls.mono (eq_any y _) ?_; rintro e w3 ⟨rfl, t3⟩)
  go_ret
  exact ⟨rfl, (HX3.out.keep t3).one⟩

set_option maxHeartbeats 1000000 in
theorem one4 (G : Nat → Prop) (W w : World) (b : Nat) (v : Value) (m : Nat) (most : Int) (l : List En) (d : Nat) (u : Value) (k : List En) (dd : Int) (x : En) (hr : dd.tmod 6 = 4)
    (h : BX G W (w.alloc (.cells #[.int .u8 dd, .int .i64 x.a, .int .i64 x.r, .int .u64 x.k] 34)) b v m most l d u k w.heap.size dd x) :
    Calls Try.prog 11 #[.pointer (some ⟨b, 0, none⟩), .pointer (some ⟨d, 0, none⟩), .agg #[.int .u8 dd, .int .i64 x.a, .int .i64 x.r, .int .u64 x.k]] w fun e w' => e = .returned (.bool true) ∧ OneP G W b m most d w' := by
  have HX : Hid _ := h
  clear h
  go_enter Try.func11, Try.ntmps11
  have c1 := HX.out.ox.c1
  go_wp2_with fail
  clear hr
  generalize w.alloc (.cells #[.int .u8 dd, .int .i64 x.a, .int .i64 x.r, .int .u64 x.k] 34) = wa at HX c1 ⊢
  generalize w.heap.size = g at HX c1 ⊢
  refine Calls.mono (take1 HX.out) ?_
  rintro e w1 ⟨y, z, rfl, hn, q1⟩
  have HN : Hid _ := hn
  have HP : Hid _ := HX.out.p
  have HG : Hid _ := HX.out.gd
  have e1 := q1.ox.c1
  have hg := lt_of_cell e1
  have HQ : Hid _ := q1.keep ((Touch.refl (fun _ => False) _).alloc (.cells #[.int .i64 y.a, .int .i64 y.r, .int .u64 y.k] 41))
  have HL : Hid (∀ j, dB d u j → j < w1.heap.size) := q1.ds.lt
  clear hn q1 HX c1
  go_wp2_with fail
  refine Calls.mono (take2 HQ.out HP.out HG.out HN.out) ?_
  rintro e w2 ⟨rfl, q2⟩
  have R1 : Row w2 w1.heap.size 41 [.int .i64 y.a, .int .i64 y.r, .int .u64 y.k] := (q2.t.block _ (by simp) (fun e => by have := HL.out _ e; omega)).trans (row_new w1 _ _)
  have y0 : w2.cell? ⟨w1.heap.size, 0, none⟩ = some (.int .i64 y.a) := R1.cell 0
  have y1 : w2.cell? ⟨w1.heap.size, 1, none⟩ = some (.int .i64 y.r) := R1.cell 1
  have y2 : w2.cell? ⟨w1.heap.size, 2, none⟩ = some (.int .u64 y.k) := R1.cell 2
  have hlt := R1.lt
  clear R1
  have HO : Hid _ := q2.one.keep ((Touch.refl (fun _ => False) _).alloc (.cells #[.int .i64 y.a, .int .i64 y.r, .int .u64 y.k] 62))
  clear q2 e1 hg
  go_wp2_with (go_at_call 25; refine Calls.mono (eq_any y _) ?_; rintro e w3 ⟨rfl, t3⟩)
  go_ret
  exact ⟨rfl, HO.out.keep t3⟩

set_option maxHeartbeats 1000000 in
theorem one5 (G : Nat → Prop) (W w : World) (b : Nat) (v : Value) (m : Nat) (most : Int) (l : List En) (d : Nat) (u : Value) (k : List En) (dd : Int) (x : En) (hr : dd.tmod 6 = 5)
    (h : BX G W (w.alloc (.cells #[.int .u8 dd, .int .i64 x.a, .int .i64 x.r, .int .u64 x.k] 34)) b v m most l d u k w.heap.size dd x) :
    Calls Try.prog 11 #[.pointer (some ⟨b, 0, none⟩), .pointer (some ⟨d, 0, none⟩), .agg #[.int .u8 dd, .int .i64 x.a, .int .i64 x.r, .int .u64 x.k]] w fun e w' => e = .returned (.bool true) ∧ OneP G W b m most d w' := by
  have HX : Hid _ := h
  clear h
  go_enter Try.func11, Try.ntmps11
  have c1 := HX.out.ox.c3
  go_wp2_with fail
  clear hr
  generalize w.alloc (.cells #[.int .u8 dd, .int .i64 x.a, .int .i64 x.r, .int .u64 x.k] 34) = wa at HX c1 ⊢
  generalize w.heap.size = g at HX c1 ⊢
  obtain ⟨a, z, hn, HC⟩ := when1 HX.out
  have HN : Hid _ := hn
  clear hn
  refine Calls.mono HC ?_
  rintro e w1 ⟨rfl, t1⟩
  clear HC
  have e1 := t1.cellN c1
  have HX2 : Hid _ := HX.out.keep t1
  clear t1 c1 HX
  go_wp2_with fail
  refine Calls.mono (when2 HX2.out HN.out) ?_
  rintro e w2 ⟨rfl, t2⟩
  go_wp2_with fail
  go_ret
  exact ⟨rfl, (HX2.out.keep t2).one⟩

theorem one_any (G : Nat → Prop) (W w : World) (b : Nat) (v : Value) (m : Nat) (most : Int) (l : List En) (d : Nat) (u : Value) (k : List En) (h : BothG G W w b v m most l d u k) (p : l.Perm k) (dd : Int) (d0 : 0 ≤ dd) (d1 : dd < 256) (x : En) (hx : x.Ok) :
    Calls Try.prog 11 #[.pointer (some ⟨b, 0, none⟩), .pointer (some ⟨d, 0, none⟩), .agg #[.int .u8 dd, .int .i64 x.a, .int .i64 x.r, .int .u64 x.k]] w fun e w' => e = .returned (.bool true) ∧ OneP G W b m most d w' := by
  have HX : BX G W (w.alloc (.cells #[.int .u8 dd, .int .i64 x.a, .int .i64 x.r, .int .u64 x.k] 34)) b v m most l d u k w.heap.size dd x :=
    ⟨h.keepN ((Touch.refl _ _).alloc _), p, ox_new w dd x, fun e => (by have := h.q.lt _ e; omega), fun e => (by have := h.ds.lt _ e; omega), hx⟩
  have hr : dd.tmod 6 = 0 ∨ dd.tmod 6 = 1 ∨ dd.tmod 6 = 2 ∨ dd.tmod 6 = 3 ∨ dd.tmod 6 = 4 ∨ dd.tmod 6 = 5 := by
    rw [Int.tmod_eq_emod_of_nonneg d0]; omega
  rcases hr with hr | hr | hr | hr | hr | hr
  · exact one0 G W w b v m most l d u k dd x hr HX
  · exact one1 G W w b v m most l d u k dd x hr HX
  · exact one2 G W w b v m most l d u k dd x hr HX
  · exact one3 G W w b v m most l d u k dd x hr HX
  · exact one4 G W w b v m most l d u k dd x hr HX
  · exact one5 G W w b v m most l d u k dd x hr HX
end Go.Proofs.Ytmdnlfbploaafaa
