
/- The document's side of stage 15: Goes, Out, Confirms. -/
import Derived.Test.YtedolfggbgmklaaRefSp
namespace Go.Proofs.Ytedolfggbgmklaa
open Go.RowKit
set_option linter.unusedVariables false
set_option maxRecDepth 100000

/-- To whom it goes on. -/
def goesB (adj : Int) (wants frm : Bool) (x : Int) : Bool × Bool :=
  if adj < 1 ∨ 3 < adj then (false, false) else if adj = 3 ∨ wants = false then (!frm, false) else if 0 < x then (false, false) else (decide (x < 0) && !frm, true)
def outB (shared chief backup came fc fb : Bool) : Bool := !came || (!fc && !fb && !(shared && backup))
def confI (v : Int) (back backup fc implied : Bool) : Int :=
  if v = 1 then 2 else if v = 2 then (if back then 0 else if backup then (if fc then 1 else 0) else 1) else if v = 4 then (if implied then (if backup then (if fc then 1 else 0) else 0) else 2) else 0
set_option maxHeartbeats 4000000 in
theorem rout15 (shared chief backup came fc fb : Bool) (w : World) : Calls Try.prog 15 #[.bool shared, .bool chief, .bool backup, .bool came, .bool fc, .bool fb] w fun e w' => e = .returned (.bool (outB shared chief backup came fc fb)) ∧ w = w' := by
  obtain ⟨z, hz⟩ : ∃ z, outB shared chief backup came fc fb = z := ⟨_, rfl⟩
  rw [hz]
  have HZ : Hid (outB shared chief backup came fc fb = z) := hz
  clear hz
  cases came
  · have e : Hid (z = true) := by show _ = _; rw [← HZ.out]; rfl
    clear HZ
    go_enter Try.func15, Try.ntmps15
    go_wp2
    go_ret
    exact ⟨ret_bool e.out.symm, rfl⟩
  · cases fc
    · cases fb
      · cases shared
        · have e : Hid (z = true) := by show _ = _; rw [← HZ.out]; rfl
          clear HZ
          go_enter Try.func15, Try.ntmps15
          go_wp2
          go_ret
          exact ⟨ret_bool e.out.symm, rfl⟩
        · cases backup
          · have e : Hid (z = true) := by show _ = _; rw [← HZ.out]; rfl
            clear HZ
            go_enter Try.func15, Try.ntmps15
            go_wp2
            go_ret
            exact ⟨ret_bool e.out.symm, rfl⟩
          · have e : Hid (z = false) := by show _ = _; rw [← HZ.out]; rfl
            clear HZ
            go_enter Try.func15, Try.ntmps15
            go_wp2
            go_ret
            exact ⟨ret_bool e.out.symm, rfl⟩
      · have e : Hid (z = false) := by show _ = _; rw [← HZ.out]; rfl
        clear HZ
        go_enter Try.func15, Try.ntmps15
        go_wp2
        go_ret
        exact ⟨ret_bool e.out.symm, rfl⟩
    · have e : Hid (z = false) := by show _ = _; rw [← HZ.out]; rfl
      clear HZ
      go_enter Try.func15, Try.ntmps15
      go_wp2
      go_ret
      exact ⟨ret_bool e.out.symm, rfl⟩
set_option maxHeartbeats 8000000 in
theorem rconf15 (v : Int) (back backup fc implied : Bool) (w : World) : Calls Try.prog 17 #[.int .u8 v, .bool back, .bool backup, .bool fc, .bool implied] w fun e w' => e = .returned (.int .u8 (confI v back backup fc implied)) ∧ w = w' := by
  obtain ⟨z, hz⟩ : ∃ z, confI v back backup fc implied = z := ⟨_, rfl⟩
  rw [hz]
  by_cases h1 : v = 1
  · subst h1
    have HZ : Hid (2 = z) := hz
    clear hz
    cases fc
    all_goals
      go_enter Try.func17, Try.ntmps17
      go_wp2
      go_ret
      exact ⟨ret_u8 HZ.out, rfl⟩
  by_cases h2 : v = 2
  · subst h2
    have HZ : Hid ((if back then 0 else if backup then (if fc then 1 else 0) else 1) = z) := hz
    clear hz h1
    cases fc <;> cases back <;> cases backup
    all_goals
      go_enter Try.func17, Try.ntmps17
      go_wp2
      go_ret
      exact ⟨ret_u8 HZ.out, rfl⟩
  by_cases h4 : v = 4
  · subst h4
    have HZ : Hid ((if implied then (if backup then (if fc then 1 else 0) else 0) else 2) = z) := hz
    clear hz h1 h2
    cases fc <;> cases implied <;> cases backup
    all_goals
      go_enter Try.func17, Try.ntmps17
      go_wp2
      go_ret
      exact ⟨ret_u8 HZ.out, rfl⟩
  · have HZ : Hid (0 = z) := by show _ = _; rw [← hz]; unfold confI; rw [if_neg h1, if_neg h2, if_neg h4]
    have b1 : (v == 1) = false := by simpa using h1
    have b2 : (v == 2) = false := by simpa using h2
    have b4 : (v == 4) = false := by simpa using h4
    clear hz
    cases fc
    all_goals
      go_enter Try.func17, Try.ntmps17
      go_wp2
      go_ret
      exact ⟨ret_u8 HZ.out, rfl⟩
set_option maxHeartbeats 8000000 in
theorem rgoes15 (adj : Int) (wants frm : Bool) (a b : HV) (ha : a.Ok) (hb : b.Ok) (sa : a.OkS) (sb : b.OkS) (w : World) : Calls Try.prog 13 #[.int .u8 adj, .bool wants, .agg #[.int .u16 a.age, .int .u8 a.opts, .int .u8 a.typ, .int .u32 a.id, .int .u32 a.adv, .int .i32 a.seq, .int .u16 a.sum, .int .u16 a.len], .agg #[.int .u16 b.age, .int .u8 b.opts, .int .u8 b.typ, .int .u32 b.id, .int .u32 b.adv, .int .i32 b.seq, .int .u16 b.sum, .int .u16 b.len], .bool frm] w fun e w' => e = .returned (.tuple #[.bool (goesB adj wants frm (a.new15 b)).1, .bool (goesB adj wants frm (a.new15 b)).2]) ∧ Touch (fun _ => False) w w' := by
  obtain ⟨x, hx⟩ : ∃ x, a.new15 b = x := ⟨_, rfl⟩
  rw [hx]
  obtain ⟨y, z, hyz⟩ : ∃ y z, goesB adj wants frm x = (y, z) := ⟨_, _, rfl⟩
  rw [hyz]
  have HN := fun w => rnew15 a b ha hb sa sb x hx w
  have TT : Hid (Touch (fun _ => False) w ((w.alloc (.cells #[.int .u16 a.age, .int .u8 a.opts, .int .u8 a.typ, .int .u32 a.id, .int .u32 a.adv, .int .i32 a.seq, .int .u16 a.sum, .int .u16 a.len] 25)).alloc (.cells #[.int .u16 b.age, .int .u8 b.opts, .int .u8 b.typ, .int .u32 b.id, .int .u32 b.adv, .int .i32 b.seq, .int .u16 b.sum, .int .u16 b.len] 25))) := ((Touch.refl _ _).alloc _).alloc _
  clear hx ha hb sa sb
  by_cases h1 : adj < 1 ∨ 3 < adj
  · have e : Hid (y = false ∧ z = false) := by
      unfold goesB at hyz
      rw [if_pos h1] at hyz
      cases hyz
      exact ⟨rfl, rfl⟩
    clear hyz HN
    rcases h1 with h1 | h1
    · go_enter Try.func13, Try.ntmps13
      go_wp2
      go_ret2
      exact ⟨by rw [e.out.1, e.out.2]; rfl, TT.out⟩
    · have h0 : ¬ adj < 1 := by omega
      go_enter Try.func13, Try.ntmps13
      go_wp2
      go_ret2
      exact ⟨by rw [e.out.1, e.out.2]; rfl, TT.out⟩
  have h0 : ¬ adj < 1 := fun h => h1 (Or.inl h)
  have h3 : ¬ 3 < adj := fun h => h1 (Or.inr h)
  by_cases h2 : adj = 3 ∨ wants = false
  · have e : Hid (y = !frm ∧ z = false) := by
      unfold goesB at hyz
      rw [if_neg h1, if_pos h2] at hyz
      cases hyz
      exact ⟨rfl, rfl⟩
    clear hyz HN h1
    by_cases h4 : adj = 3
    · subst h4
      clear h2
      cases frm
      all_goals
        go_enter Try.func13, Try.ntmps13
        go_wp2
        go_ret2
        exact ⟨by rw [e.out.1, e.out.2]; rfl, TT.out⟩
    · have h5 : (adj == 3) = false := by simpa using h4
      have h6 : wants = false := h2.resolve_left h4
      subst h6
      clear h2
      cases frm
      all_goals
        go_enter Try.func13, Try.ntmps13
        go_wp2
        go_ret2
        exact ⟨by rw [e.out.1, e.out.2]; rfl, TT.out⟩
  have h4 : ¬ adj = 3 := fun h => h2 (Or.inl h)
  have h5 : (adj == 3) = false := by simpa using h4
  have h6 : wants = true := by cases wants; exact absurd (Or.inr rfl) h2; rfl
  subst h6
  unfold goesB at hyz
  rw [if_neg h1, if_neg h2] at hyz
  have TN : Hid (∀ w', Touch (fun _ => False) ((w.alloc (.cells #[.int .u16 a.age, .int .u8 a.opts, .int .u8 a.typ, .int .u32 a.id, .int .u32 a.adv, .int .i32 a.seq, .int .u16 a.sum, .int .u16 a.len] 25)).alloc (.cells #[.int .u16 b.age, .int .u8 b.opts, .int .u8 b.typ, .int .u32 b.id, .int .u32 b.adv, .int .i32 b.seq, .int .u16 b.sum, .int .u16 b.len] 25)) w' → Touch (fun _ => False) w w') := fun w' t => TT.out.trans t
  have HC := HN ((w.alloc (.cells #[.int .u16 a.age, .int .u8 a.opts, .int .u8 a.typ, .int .u32 a.id, .int .u32 a.adv, .int .i32 a.seq, .int .u16 a.sum, .int .u16 a.len] 25)).alloc (.cells #[.int .u16 b.age, .int .u8 b.opts, .int .u8 b.typ, .int .u32 b.id, .int .u32 b.adv, .int .i32 b.seq, .int .u16 b.sum, .int .u16 b.len] 25))
  by_cases hx0 : 0 < x
  · have e : Hid (y = false ∧ z = false) := by
      rw [if_pos hx0] at hyz
      cases hyz
      exact ⟨rfl, rfl⟩
    clear hyz HN h1 h2 TT
    go_enter Try.func13, Try.ntmps13
    go_wp2_with fail
    refine Calls.mono HC ?_
    rintro e' w1 ⟨rfl, t1⟩
    have tt := TN.out w1 t1
    clear HC t1 TN
    go_wp2
    go_ret2
    exact ⟨by rw [e.out.1, e.out.2]; rfl, tt⟩
  · have e : Hid (y = (decide (x < 0) && !frm) ∧ z = true) := by
      rw [if_neg hx0] at hyz
      cases hyz
      exact ⟨rfl, rfl⟩
    clear hyz HN h1 h2 TT
    by_cases hx1 : x < 0
    · have d1 : Hid (y = !frm) := by have := e.out.1; rw [decide_eq_true hx1] at this; exact this
      cases frm
      all_goals
        go_enter Try.func13, Try.ntmps13
        go_wp2_with fail
        refine Calls.mono HC ?_
        rintro e' w1 ⟨rfl, t1⟩
        have tt := TN.out w1 t1
        clear t1
        go_wp2
        go_ret2
        exact ⟨by rw [d1.out, e.out.2]; rfl, tt⟩
    · have d1 : Hid (y = false) := by have := e.out.1; rw [decide_eq_false hx1] at this; exact this
      go_enter Try.func13, Try.ntmps13
      go_wp2_with fail
      refine Calls.mono HC ?_
      rintro e' w1 ⟨rfl, t1⟩
      have tt := TN.out w1 t1
      clear t1
      go_wp2
      go_ret2
      exact ⟨by rw [d1.out, e.out.2]; rfl, tt⟩
end Go.Proofs.Ytedolfggbgmklaa
