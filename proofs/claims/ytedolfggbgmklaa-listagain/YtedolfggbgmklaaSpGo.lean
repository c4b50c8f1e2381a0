
/- The program's Out, Confirms, Goes. -/
import Derived.Test.YtedolfggbgmklaaRefSp2
import Derived.Test.YtedolfggbgmklaaSpJu
namespace Go.Proofs.Ytedolfggbgmklaa
open Go.RowKit
set_option linter.unusedVariables false
set_option maxRecDepth 100000

set_option maxHeartbeats 4000000 in
theorem pout15 (shared chief backup came fc fb : Bool) (w : World) : Calls Try.prog 14 #[.bool shared, .bool chief, .bool backup, .bool came, .bool fc, .bool fb] w fun e w' => e = .returned (.bool (outB shared chief backup came fc fb)) ∧ w = w' := by
  obtain ⟨z, hz⟩ : ∃ z, outB shared chief backup came fc fb = z := ⟨_, rfl⟩
  rw [hz]
  have HZ : Hid (outB shared chief backup came fc fb = z) := hz
  clear hz
  cases came <;> cases fc <;> cases fb <;> cases shared <;> cases backup
  all_goals
    obtain ⟨y, hy⟩ : ∃ y, y = z := ⟨_, rfl⟩
    have e : Hid (_ = y) := HZ.out.trans hy.symm
    rw [← hy]
    clear HZ hy
    go_enter Try.func14, Try.ntmps14
    go_wp2
    go_ret
    exact ⟨ret_bool e.out, rfl⟩
set_option maxHeartbeats 8000000 in
theorem pconf15 (v : Int) (back backup fc implied : Bool) (w : World) : Calls Try.prog 16 #[.int .u8 v, .bool back, .bool backup, .bool fc, .bool implied] w fun e w' => e = .returned (.int .u8 (confI v back backup fc implied)) ∧ w = w' := by
  obtain ⟨z, hz⟩ : ∃ z, confI v back backup fc implied = z := ⟨_, rfl⟩
  rw [hz]
  by_cases h1 : v = 1
  · subst h1
    have HZ : Hid (2 = z) := hz
    clear hz
    go_enter Try.func16, Try.ntmps16
    go_wp2
    go_ret
    exact ⟨ret_u8 HZ.out, rfl⟩
  by_cases h2 : v = 2
  · subst h2
    have HZ : Hid ((if back then 0 else if backup then (if fc then 1 else 0) else 1) = z) := hz
    clear hz h1
    cases fc <;> cases back <;> cases backup
    all_goals
      go_enter Try.func16, Try.ntmps16
      go_wp2
      go_ret
      exact ⟨ret_u8 HZ.out, rfl⟩
  by_cases h4 : v = 4
  · subst h4
    have HZ : Hid ((if implied then (if backup then (if fc then 1 else 0) else 0) else 2) = z) := hz
    clear hz h1 h2
    cases fc <;> cases implied <;> cases backup
    all_goals
      go_enter Try.func16, Try.ntmps16
      go_wp2
      go_ret
      exact ⟨ret_u8 HZ.out, rfl⟩
  · have HZ : Hid (0 = z) := by show _ = _; rw [← hz]; unfold confI; rw [if_neg h1, if_neg h2, if_neg h4]
    have b1 : (v == 1) = false := by simpa using h1
    have b2 : (v == 2) = false := by simpa using h2
    have b4 : (v == 4) = false := by simpa using h4
    clear hz
    go_enter Try.func16, Try.ntmps16
    go_wp2
    go_ret
    exact ⟨ret_u8 HZ.out, rfl⟩
/-- The state of an adjacency: it is none of the three, or full, or one of the two. -/
theorem adj_cases (adj : Int) : ((adj == 1) = false ∧ (adj == 2) = false ∧ (adj == 3) = false ∧ (adj < 1 ∨ 3 < adj)) ∨ adj = 3 ∨ adj = 1 ∨ adj = 2 := by
  by_cases h1 : adj = 1
  · exact Or.inr (Or.inr (Or.inl h1))
  by_cases h2 : adj = 2
  · exact Or.inr (Or.inr (Or.inr h2))
  by_cases h3 : adj = 3
  · exact Or.inr (Or.inl h3)
  · exact Or.inl ⟨by simpa using h1, by simpa using h2, by simpa using h3, by omega⟩
set_option maxHeartbeats 8000000 in
theorem pgoes15 (adj : Int) (wants frm : Bool) (a b : HV) (ha : a.Ok) (hb : b.Ok) (w : World) : Calls Try.prog 11 #[.int .u8 adj, .bool wants, .agg #[.int .u16 a.age, .int .u8 a.opts, .int .u8 a.typ, .int .u32 a.id, .int .u32 a.adv, .int .i32 a.seq, .int .u16 a.sum, .int .u16 a.len], .agg #[.int .u16 b.age, .int .u8 b.opts, .int .u8 b.typ, .int .u32 b.id, .int .u32 b.adv, .int .i32 b.seq, .int .u16 b.sum, .int .u16 b.len], .bool frm] w fun e w' => e = .returned (.tuple #[.bool (goesB adj wants frm (a.new15 b)).1, .bool (goesB adj wants frm (a.new15 b)).2]) ∧ Touch (fun _ => False) w w' := by
  obtain ⟨x, hx⟩ : ∃ x, a.new15 b = x := ⟨_, rfl⟩
  rw [hx]
  obtain ⟨y, z, hyz⟩ : ∃ y z, goesB adj wants frm x = (y, z) := ⟨_, _, rfl⟩
  rw [hyz]
  have HN := fun w => pnew15 a b ha hb x hx w
  have TT : Hid (Touch (fun _ => False) w ((w.alloc (.cells #[.int .u16 a.age, .int .u8 a.opts, .int .u8 a.typ, .int .u32 a.id, .int .u32 a.adv, .int .i32 a.seq, .int .u16 a.sum, .int .u16 a.len] 25)).alloc (.cells #[.int .u16 b.age, .int .u8 b.opts, .int .u8 b.typ, .int .u32 b.id, .int .u32 b.adv, .int .i32 b.seq, .int .u16 b.sum, .int .u16 b.len] 25))) := ((Touch.refl _ _).alloc _).alloc _
  have TN : Hid (∀ w', Touch (fun _ => False) ((w.alloc (.cells #[.int .u16 a.age, .int .u8 a.opts, .int .u8 a.typ, .int .u32 a.id, .int .u32 a.adv, .int .i32 a.seq, .int .u16 a.sum, .int .u16 a.len] 25)).alloc (.cells #[.int .u16 b.age, .int .u8 b.opts, .int .u8 b.typ, .int .u32 b.id, .int .u32 b.adv, .int .i32 b.seq, .int .u16 b.sum, .int .u16 b.len] 25)) w' → Touch (fun _ => False) w w') := fun w' t => TT.out.trans t
  have HC := HN ((w.alloc (.cells #[.int .u16 a.age, .int .u8 a.opts, .int .u8 a.typ, .int .u32 a.id, .int .u32 a.adv, .int .i32 a.seq, .int .u16 a.sum, .int .u16 a.len] 25)).alloc (.cells #[.int .u16 b.age, .int .u8 b.opts, .int .u8 b.typ, .int .u32 b.id, .int .u32 b.adv, .int .i32 b.seq, .int .u16 b.sum, .int .u16 b.len] 25))
  clear hx ha hb HN
  rcases adj_cases adj with ⟨n1, n2, n3, hn⟩ | h3 | h12
  · have e : Hid (y = false ∧ z = false) := by
      unfold goesB at hyz
      rw [if_pos hn] at hyz
      cases hyz
      exact ⟨rfl, rfl⟩
    clear hyz HC TN hn
    go_enter Try.func11, Try.ntmps11
    go_wp2
    go_ret2
    exact ⟨by rw [e.out.1, e.out.2]; rfl, TT.out⟩
  · subst h3
    have e : Hid (y = !frm ∧ z = false) := by
      unfold goesB at hyz
      rw [if_neg (by omega), if_pos (Or.inl rfl)] at hyz
      cases hyz
      exact ⟨rfl, rfl⟩
    clear hyz HC TN
    cases frm
    all_goals
      go_enter Try.func11, Try.ntmps11
      go_wp2
      go_ret2
      exact ⟨by rw [e.out.1, e.out.2]; rfl, TT.out⟩
  · cases wants
    · have e : Hid (y = !frm ∧ z = false) := by
        unfold goesB at hyz
        rw [if_neg (by omega), if_pos (Or.inr rfl)] at hyz
        cases hyz
        exact ⟨rfl, rfl⟩
      clear hyz HC TN
      rcases h12 with rfl | rfl <;> cases frm
      all_goals
        go_enter Try.func11, Try.ntmps11
        go_wp2
        go_ret2
        exact ⟨by rw [e.out.1, e.out.2]; rfl, TT.out⟩
    · unfold goesB at hyz
      rw [if_neg (by omega), if_neg (by rintro (h | h); omega; cases h)] at hyz
      rcases Int.lt_trichotomy x 0 with hx | hx | hx
      · have e : Hid (y = !frm ∧ z = true) := by
          rw [if_neg (by omega), decide_eq_true hx] at hyz
          cases hyz
          exact ⟨rfl, rfl⟩
        have hx1 : ¬ 0 ≤ x := by omega
        clear hyz TT
        rcases h12 with rfl | rfl <;> cases frm
        all_goals
          go_enter Try.func11, Try.ntmps11
          go_wp2_with fail
          refine Calls.mono HC ?_
          rintro e' w1 ⟨rfl, t1⟩
          have tt := TN.out w1 t1
          clear HC t1 TN
          go_wp2
          go_ret2
          exact ⟨by rw [e.out.1, e.out.2]; rfl, tt⟩
      · subst hx
        have e : Hid (y = false ∧ z = true) := by
          rw [if_neg (by omega), decide_eq_false (by omega)] at hyz
          cases hyz
          exact ⟨rfl, rfl⟩
        clear hyz TT
        rcases h12 with rfl | rfl
        all_goals
          go_enter Try.func11, Try.ntmps11
          go_wp2_with fail
          refine Calls.mono HC ?_
          rintro e' w1 ⟨rfl, t1⟩
          have tt := TN.out w1 t1
          clear HC t1 TN
          go_wp2
          go_ret2
          exact ⟨by rw [e.out.1, e.out.2]; rfl, tt⟩
      · have e : Hid (y = false ∧ z = false) := by
          rw [if_pos hx] at hyz
          cases hyz
          exact ⟨rfl, rfl⟩
        have hx1 : 0 ≤ x := by omega
        have hx2 : (x == 0) = false := by simp; omega
        clear hyz TT
        rcases h12 with rfl | rfl
        all_goals
          go_enter Try.func11, Try.ntmps11
          go_wp2_with fail
          refine Calls.mono HC ?_
          rintro e' w1 ⟨rfl, t1⟩
          have tt := TN.out w1 t1
          clear HC t1 TN
          go_wp2
          go_ret2
          exact ⟨by rw [e.out.1, e.out.2]; rfl, tt⟩
end Go.Proofs.Ytedolfggbgmklaa
