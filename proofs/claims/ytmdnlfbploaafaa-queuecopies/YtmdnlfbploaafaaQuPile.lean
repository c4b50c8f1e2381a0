
/- The pile of a queue: an entry added, changed, cut out. -/
import Derived.Test.YtmdnlfbploaafaaQuRem
namespace Go.Proofs.Ytmdnlfbploaafaa
open Go.RowKit
set_option linter.unusedVariables false
set_option maxRecDepth 100000

theorem add_math {l : List En} {f : Int → Option Int} {x : En} (d1 : ∀ i : Nat, i < l.length → f (gt l i).k = some (i : Int)) (hx : ∀ y ∈ l, y.k ≠ x.k) : ∀ i : Nat, i < l.length → upd f x.k (some (l.length : Int)) (gt l i).k = some (i : Int) := by
  intro i hi
  rw [upd_other _ _ (hx _ (gt_mem hi))]
  exact d1 i hi

set_option maxHeartbeats 2000000 in
theorem add_any (w : World) (b : Nat) (v : Value) (m n : Nat) (l : List En) (f : Int → Option Int) (P : PS w b v m n l f) (hh : HP l.length (gt l)) (x : En) (hx : x.Ok) (hf : f x.k = none) (hn : n + 1 ≤ 2000000) (hl : l.length + 1 ≤ 2000000) (hk : ∀ y ∈ l, y.k ≠ x.k) :
    Calls Try.prog 34 #[.pointer (some ⟨b, 0, none⟩), .agg #[.int .i64 x.a, .int .i64 x.r, .int .u64 x.k]] w fun e w' => e = .returned (.tuple #[]) ∧ Heaped w b v m (n + 1) (l ++ [x]) (upd f x.k (some (l.length : Int))) w' := by
  have hb := P.lt
  have hm := P.mb
  have HP0 : Hid _ := P
  have HH : Hid (HP l.length (gt l)) := hh
  have HX : Hid _ := hx
  have HF : Hid _ := hf
  have HKK : Hid _ := hk
  obtain ⟨a, c, rfl⟩ := P.re.shape
  have c0 := P.c0
  have c1 := P.c1
  clear P hh hx hf hk
  go_enter Try.func34, Try.ntmps34
  go_wp2_with fail
  have T : Touch (fun _ => False) w (w.alloc (.cells #[.int .i64 x.a, .int .i64 x.r, .int .u64 x.k] 41)) := (Touch.refl _ _).alloc _
  have y0 : (w.alloc (.cells #[.int .i64 x.a, .int .i64 x.r, .int .u64 x.k] 41)).cell? ⟨w.heap.size, 0, none⟩ = some (.int .i64 x.a) := by simp [go_sem]
  have y1 : (w.alloc (.cells #[.int .i64 x.a, .int .i64 x.r, .int .u64 x.k] 41)).cell? ⟨w.heap.size, 1, none⟩ = some (.int .i64 x.r) := by simp [go_sem]
  have y2 : (w.alloc (.cells #[.int .i64 x.a, .int .i64 x.r, .int .u64 x.k] 41)).cell? ⟨w.heap.size, 2, none⟩ = some (.int .u64 x.k) := by simp [go_sem]
  generalize w.alloc (.cells #[.int .i64 x.a, .int .i64 x.r, .int .u64 x.k] 41) = wa at T y0 y1 y2 ⊢
  have P1 := HP0.out.keep T
  have P2 := P1.keep ((Touch.refl (fun _ => False) _).drew)
  obtain ⟨w2, E1, M2, U2⟩ := P2.mp.store (x := (l.length : Int)) HX.out.k0 HX.out.k1 (by omega) (by omega) (by omega)
  rw [HF.out] at M2
  have s0 : SnqF wa m wa.drew := SnqF.start wa m
  have s2 : SnqF wa m w2 := s0.turn U2
  have hmH : w.heap.size ≠ m := by have := HP0.out.mp.lt; omega
  have x0 := snqF_cell hmH y0
  have x1 := snqF_cell hmH y1
  have x2 := snqF_cell hmH y2
  have d0 := snqF_cell (Ne.symm hm) P1.c0
  have d1 := snqF_cell (Ne.symm hm) P1.c1
  have HP2 : Hid (PS w2 b (.slice a l.length c) m (n + 1) l (upd f x.k (some (l.length : Int)))) := by
    have t2 := touch_turned U2
    exact ⟨d0 _ s2, d1 _ s2, (t2.frozen (p := ⟨b, 0, none⟩) P2.lt (Ne.symm hm)).trans P2.f0, P2.re.keep t2 (fun k hk e => P2.mv (by rw [hk, e])), M2, add_math HP0.out.d1 HKK.out, HP0.out.ok, HP0.out.bv, hn, by omega⟩
  have TT : Hid (TouchB b (fun k => k = m) w w2) := TouchB.of (((T.drew).mono (fun _ _ h => h.elim)).trans (touch_turned U2)) hb (Ne.symm hm)
  clear P1 P2 M2 U2 c0 c1 y0 y1 y2 T
  go_region_held3 (fun w' => SnqF wa m w') (with_reducible assumption) (fail)
  have z0 := x0 _ s2
  have z1 := x1 _ s2
  have z2 := x2 _ s2
  clear x0 x1 x2 d0 d1 E1 s0 s2
  go_wp2_with fail
  refine Calls.mono (hpush_any w2 b _ m (n + 1) l _ HP2.out HH.out x HX.out (upd_same _ _ _) hl) ?_
  rintro e w3 ⟨rfl, H3⟩
  have HH3 : Hid _ := H3
  clear H3
  go_wp2_with fail
  refine bodyPost_end (results_none rfl _ _ _) rfl ?_
  obtain ⟨⟨v', l', f', P3, pe, h3, k3, hv⟩, t3⟩ := HH3.out
  have hsz := TT.out.t.size
  refine ⟨rfl, ⟨v', l', f', P3, pe, h3, k3, ?_⟩, ?_⟩
  · rcases hv with e | ⟨g, e, hg⟩
    · exact Or.inl e
    · exact Or.inr ⟨g, e, Nat.le_trans hsz hg⟩
  · exact (⟨TT.out.t.mono (fun _ _ e => e.elim Or.inl (fun e => Or.inr (Or.inr e))), TT.out.rest⟩ : TouchB b (fun k => Value.ownBlock (.slice a l.length c) = some k ∨ k = m) w w2).trans t3 (fun _ _ h => h)

set_option maxHeartbeats 2000000 in
theorem change_any (w : World) (b : Nat) (v : Value) (m n : Nat) (l : List En) (f : Int → Option Int) (P : PS w b v m n l f) (hh : HP l.length (gt l)) (i : Nat) (hi : i < l.length) (x : En) (hx : x.Ok) (hk : x.k = (gt l i).k) :
    Calls Try.prog 33 #[.pointer (some ⟨b, 0, none⟩), .int .i64 i, .agg #[.int .i64 x.a, .int .i64 x.r, .int .u64 x.k]] w fun e w' => e = .returned (.tuple #[]) ∧ Heaped w b v m n (l.set i x) f w' := by
  have hb := P.lt
  have hm := P.mb
  have hmv := P.mv
  have HP0 : Hid _ := P
  have HH : Hid (HP l.length (gt l)) := hh
  have HX : Hid _ := hx
  have HKK : Hid _ := hk
  obtain ⟨g, cap, rfl, hcap, hg⟩ := P.re.form (by omega)
  have hf := P.re.fz
  have c0 := P.c0
  have hbg : b ≠ g := fun e => P.bv (by subst e; rfl)
  have hmg : m ≠ g := fun e => hmv (by subst e; rfl)
  clear P hh hx hk hcap
  have i0 : (0 : Int) ≤ (i : Int) := by omega
  have i1 : (i : Int) < (l.length : Int) := by omega
  go_enter Try.func33, Try.ntmps33
  go_wp2_with fail
  have T : Touch (fun _ => False) w (w.alloc (.cells #[.int .i64 x.a, .int .i64 x.r, .int .u64 x.k] 41)) := (Touch.refl _ _).alloc _
  have y0 : (w.alloc (.cells #[.int .i64 x.a, .int .i64 x.r, .int .u64 x.k] 41)).cell? ⟨w.heap.size, 0, none⟩ = some (.int .i64 x.a) := by simp [go_sem]
  have y1 : (w.alloc (.cells #[.int .i64 x.a, .int .i64 x.r, .int .u64 x.k] 41)).cell? ⟨w.heap.size, 1, none⟩ = some (.int .i64 x.r) := by simp [go_sem]
  have y2 : (w.alloc (.cells #[.int .i64 x.a, .int .i64 x.r, .int .u64 x.k] 41)).cell? ⟨w.heap.size, 2, none⟩ = some (.int .u64 x.k) := by simp [go_sem]
  generalize w.alloc (.cells #[.int .i64 x.a, .int .i64 x.r, .int .u64 x.k] 41) = wa at T y0 y1 y2 ⊢
  have P1 := HP0.out.keep T
  have F0 : ∀ k, wa.frozen? ⟨g, k, none⟩ = false := fun k => (T.frozen (p := ⟨g, k, none⟩) hg (fun h => h)).trans (hf k)
  obtain ⟨q0, q1, q2⟩ := P1.re.cells hi
  have U1 : Touch (fun k => k = g) wa (((wa.setCell ⟨g, i * 3, none⟩ (.int .i64 x.a)).setCell ⟨g, i * 3 + 1, none⟩ (.int .i64 x.r)).setCell ⟨g, i * 3 + 2, none⟩ (.int .u64 x.k)) := by
    refine Touch.setCell (F := fun k => k = g) (p := ⟨g, i * 3 + 2, none⟩) ?_ (Or.inl rfl) _
    refine Touch.setCell (F := fun k => k = g) (p := ⟨g, i * 3 + 1, none⟩) ?_ (Or.inl rfl) _
    refine Touch.setCell (F := fun k => k = g) (p := ⟨g, i * 3, none⟩) ?_ (Or.inl rfl) _
    exact Touch.refl _ _
  have s0 : SnqF wa g wa.drew := SnqF.start wa g
  have s1 : SnqF wa g (((wa.setCell ⟨g, i * 3, none⟩ (.int .i64 x.a)).setCell ⟨g, i * 3 + 1, none⟩ (.int .i64 x.r)).setCell ⟨g, i * 3 + 2, none⟩ (.int .u64 x.k)).drew := ⟨U1.drew⟩
  have hgH : w.heap.size ≠ g := by omega
  have x0 := snqF_cell hgH y0
  have x1 := snqF_cell hgH y1
  have x2 := snqF_cell hgH y2
  have d0 := snqF_cell hbg P1.c0
  have d1 := snqF_cell hbg P1.c1
  have HPN : Hid (PS (((wa.setCell ⟨g, i * 3, none⟩ (.int .i64 x.a)).setCell ⟨g, i * 3 + 1, none⟩ (.int .i64 x.r)).setCell ⟨g, i * 3 + 2, none⟩ (.int .u64 x.k)).drew b (.slice (some ⟨g, 0, none⟩) l.length cap) m n (l.set i x) f) := by
    refine ⟨d0 _ s1, d1 _ s1, (s1.t.frozen (p := ⟨b, 0, none⟩) P1.lt hbg).trans P1.f0, (P1.re.set hi x).keep ((Touch.refl (fun _ => False) _).drew) (fun _ _ h => h), P1.mp.keep s1.t hmg, fun t ht => ?_, fun e he => ?_, HP0.out.bv, HP0.out.hn, by rw [List.length_set]; exact HP0.out.hl⟩
    · rw [List.length_set] at ht
      rw [gt_set hi]
      by_cases e : t = i
      · subst e; rw [if_pos rfl, HKK.out]; exact HP0.out.d1 t ht
      · rw [if_neg e]; exact HP0.out.d1 t ht
    · rcases List.mem_or_eq_of_mem_set he with h | h
      · exact HP0.out.ok e h
      · rw [h]; exact HX.out
  have TT : Hid (TouchB b (fun k => k = g) w (((wa.setCell ⟨g, i * 3, none⟩ (.int .i64 x.a)).setCell ⟨g, i * 3 + 1, none⟩ (.int .i64 x.r)).setCell ⟨g, i * 3 + 2, none⟩ (.int .u64 x.k)).drew) := TouchB.of ((T.mono (fun _ _ h => h.elim)).trans U1.drew) hb hbg
  clear P1 U1 T y0 y1 y2 hf c0
  go_region_held3 (fun w' => SnqF wa g w') (with_reducible assumption) (fail)
  generalize (((wa.setCell ⟨g, i * 3, none⟩ (.int .i64 x.a)).setCell ⟨g, i * 3 + 1, none⟩ (.int .i64 x.r)).setCell ⟨g, i * 3 + 2, none⟩ (.int .u64 x.k)).drew = w2 at HPN TT s1 ⊢
  clear q0 q1 q2 F0 s0 x0 x1 x2 d0 d1 s1
  go_wp2_with fail
  refine Calls.mono (hfix_any w2 b _ m n (l.set i x) f HPN.out i (by rw [List.length_set]; exact hi) (by rw [List.length_set]; exact HP.fix HH.out (fun k hk => by rw [gt_set hi, if_neg hk]))) ?_
  rintro e w3 ⟨rfl, H3⟩
  have HH3 : Hid _ := H3
  clear H3
  go_wp2_with fail
  refine bodyPost_end (results_none rfl _ _ _) rfl ?_
  obtain ⟨⟨v', l', f', P3, pe, h3, k3, hv⟩, t3⟩ := HH3.out
  have hsz := TT.out.t.size
  refine ⟨rfl, ⟨v', l', f', P3, pe, h3, k3, ?_⟩, ?_⟩
  · rcases hv with e | ⟨g, e, hg⟩
    · exact Or.inl e
    · exact Or.inr ⟨g, e, Nat.le_trans hsz hg⟩
  · exact (⟨TT.out.t.mono (fun _ _ e => e.elim Or.inl (fun e => Or.inr (Or.inl (by rw [e]; rfl)))), TT.out.rest⟩ : TouchB b (fun k => Value.ownBlock (.slice (some ⟨g, 0, none⟩) l.length cap) = some k ∨ k = m) w w2).trans t3 (fun _ _ h => h)

/-- What a cut leaves. -/
structure CutP (w : World) (b : Nat) (v : Value) (m n : Nat) (l : List En) (f : Int → Option Int) (x : En) (e : Ending) (w' : World) : Prop where
  e : e = .returned (.agg #[.int .i64 x.a, .int .i64 x.r, .int .u64 x.k])
  out : ∃ v' l' f', PS w' b v' m n l' f' ∧ (x :: l').Perm l ∧ HP l'.length (gt l') ∧ (∀ k, (∀ y ∈ l, y.k ≠ k) → f' k = f k) ∧ f' x.k = none ∧ v'.ownBlock = v.ownBlock
  t : TouchB b (fun k => v.ownBlock = some k ∨ k = m) w w'

set_option maxHeartbeats 2000000 in
theorem cut_any (w : World) (b : Nat) (v : Value) (m n : Nat) (l : List En) (f : Int → Option Int) (P : PS w b v m (n + 1) l f) (hh : HP l.length (gt l)) (i : Nat) (hi : i < l.length) :
    Calls Try.prog 35 #[.pointer (some ⟨b, 0, none⟩), .int .i64 i] w (CutP w b v m n l f (gt l i)) := by
  have hb := P.lt
  have hm := P.mb
  have HP0 : Hid _ := P
  have HH : Hid (HP l.length (gt l)) := hh
  have hxo := P.ok _ (gt_mem hi)
  have HX : Hid _ := hxo
  have HM : Hid (gt l i ∈ l) := gt_mem hi
  clear P hh hxo
  generalize hx : gt l i = x at *
  have HXX : Hid _ := hx
  clear hx
  go_enter Try.func35, Try.ntmps35
  go_wp2_with fail
  have T : Touch (fun _ => False) w (w.alloc (.cells #[.int .i64 0, .int .i64 0, .int .u64 0] 41)) := (Touch.refl _ _).alloc _
  have R0 : Row (w.alloc (.cells #[.int .i64 0, .int .i64 0, .int .u64 0] 41)) w.heap.size 41 [.int .i64 0, .int .i64 0, .int .u64 0] := row_new w _ _
  generalize w.alloc (.cells #[.int .i64 0, .int .i64 0, .int .u64 0] 41) = wa at T R0 ⊢
  have P1 := HP0.out.keep T
  refine Calls.mono (hremove_any wa b v m (n + 1) l f P1 HH.out i (l.length - 1) hi (by omega)) ?_
  rintro e w1 p1
  rw [HXX.out] at p1
  have e1 := p1.e
  subst e1
  have hta := assert_entry x.a x.r x.k
  have HR : Hid _ := p1
  have HT : Hid _ := T
  have HR0 : Hid _ := R0
  clear p1 P1 T R0
  go_wp2_with fail
  obtain ⟨-, ⟨v3, l3, f3, q3, P3, pe3, h3, k3, x3, n3, hv3⟩, T3⟩ := HR.out
  have T4 : Touch (fun _ => False) w1 (w1.alloc (.cells #[.int .i64 x.a, .int .i64 x.r, .int .u64 x.k] 41)) := (Touch.refl _ _).alloc _
  have y0 : (w1.alloc (.cells #[.int .i64 x.a, .int .i64 x.r, .int .u64 x.k] 41)).cell? ⟨w1.heap.size, 0, none⟩ = some (.int .i64 x.a) := by simp [go_sem]
  have y1 : (w1.alloc (.cells #[.int .i64 x.a, .int .i64 x.r, .int .u64 x.k] 41)).cell? ⟨w1.heap.size, 1, none⟩ = some (.int .i64 x.r) := by simp [go_sem]
  have y2 : (w1.alloc (.cells #[.int .i64 x.a, .int .i64 x.r, .int .u64 x.k] 41)).cell? ⟨w1.heap.size, 2, none⟩ = some (.int .u64 x.k) := by simp [go_sem]
  generalize w1.alloc (.cells #[.int .i64 x.a, .int .i64 x.r, .int .u64 x.k] 41) = wb at T4 y0 y1 y2 ⊢
  have P4 := P3.keep T4
  have P5 := P4.keep ((Touch.refl (fun _ => False) _).drew)
  obtain ⟨w2, E1, M2, U2⟩ := P5.mp.drop HX.out.k0 HX.out.k1 x3 0
  have s0 : SnqF wb m wb.drew := SnqF.start wb m
  have s2 : SnqF wb m w2 := s0.turn U2
  have hm1 : m < w1.heap.size := P3.mp.lt
  have hmw : m < w.heap.size := HP0.out.mp.lt
  have hsz1 : w.heap.size < w1.heap.size := Nat.lt_of_lt_of_le (lt_of_heap HR0.out) T3.t.size
  have hb1 : b < w1.heap.size := P3.lt
  have z0 := snqF_cell (show w1.heap.size ≠ m by omega) y0
  have z1 := snqF_cell (show w1.heap.size ≠ m by omega) y1
  have z2 := snqF_cell (show w1.heap.size ≠ m by omega) y2
  have d1 := snqF_cell (Ne.symm hm) P4.c1
  have hvH : v.ownBlock ≠ some w.heap.size := fun e => by have := (World.ownsRow.lt HP0.out.re _ e).2; omega
  have R1 : Row w1 w.heap.size 41 [.int .i64 0, .int .i64 0, .int .u64 0] := (T3.t.block _ (lt_of_heap HR0.out) (fun e => by rcases e with e | e | e; omega; exact hvH e; omega)).trans HR0.out
  have R2 : Row w2 w.heap.size 41 [.int .i64 0, .int .i64 0, .int .u64 0] := (s2.t.block _ (by have := T4.size; omega) (by omega)).trans (R1.keep T4)
  have r0 := R2.cell 0
  have r1 := R2.cell 1
  have r2 := R2.cell 2
  have rf := R2.frozen
  have ts : Touch (fun k => k = w.heap.size) w2 (((w2.setCell ⟨w.heap.size, 0, none⟩ (.int .i64 x.a)).setCell ⟨w.heap.size, 1, none⟩ (.int .i64 x.r)).setCell ⟨w.heap.size, 2, none⟩ (.int .u64 x.k)) := by
    refine Touch.setCell (F := fun k => k = w.heap.size) (p := ⟨w.heap.size, 2, none⟩) ?_ (Or.inl rfl) _
    refine Touch.setCell (F := fun k => k = w.heap.size) (p := ⟨w.heap.size, 1, none⟩) ?_ (Or.inl rfl) _
    refine Touch.setCell (F := fun k => k = w.heap.size) (p := ⟨w.heap.size, 0, none⟩) ?_ (Or.inl rfl) _
    exact Touch.refl _ _
  have FIN : Hid (CutP w b v m n l f x (.returned (.agg #[.int .i64 x.a, .int .i64 x.r, .int .u64 x.k])) (((w2.setCell ⟨w.heap.size, 0, none⟩ (.int .i64 x.a)).setCell ⟨w.heap.size, 1, none⟩ (.int .i64 x.r)).setCell ⟨w.heap.size, 2, none⟩ (.int .u64 x.k))) := by
    have t2 := touch_turned U2
    have hmv := P5.mv
    have hv3H : v3.ownBlock ≠ some w.heap.size := by rw [hv3]; exact hvH
    have P6 : PS w2 b v3 m n l3 (upd f3 x.k none) := ⟨(t2.cell (p := ⟨b, 0, none⟩) P5.lt (Ne.symm hm)).trans P5.c0, (t2.cell (p := ⟨b, 1, none⟩) P5.lt (Ne.symm hm)).trans P5.c1, (t2.frozen (p := ⟨b, 0, none⟩) P5.lt (Ne.symm hm)).trans P5.f0, P5.re.keep t2 (fun k hk e => hmv (by rw [hk, e])), M2, fun i hi => by
      rw [upd_other _ _ (n3 _ (gt_mem hi))]; exact P5.d1 i hi, P5.ok, P5.bv, by have := P5.hn; omega, P5.hl⟩
    have hb2 := P6.lt
    have hbw : ¬ b = w.heap.size := by omega
    have P7 : PS (((w2.setCell ⟨w.heap.size, 0, none⟩ (.int .i64 x.a)).setCell ⟨w.heap.size, 1, none⟩ (.int .i64 x.r)).setCell ⟨w.heap.size, 2, none⟩ (.int .u64 x.k)) b v3 m n l3 (upd f3 x.k none) := ⟨(ts.cell (p := ⟨b, 0, none⟩) hb2 hbw).trans P6.c0, (ts.cell (p := ⟨b, 1, none⟩) hb2 hbw).trans P6.c1, (ts.frozen (p := ⟨b, 0, none⟩) hb2 hbw).trans P6.f0, P6.re.keep ts (fun k hk e => hv3H (by rw [hk, e])), P6.mp.keep ts (by omega), P6.d1, P6.ok, P6.bv, P6.hn, P6.hl⟩
    refine ⟨rfl, ⟨v3, l3, _, P7, pe3, h3, fun k hk => ?_, upd_same _ _ _, hv3⟩, ?_⟩
    · rw [upd_other _ _ (fun e => hk x HM.out e.symm)]
      exact k3 k hk
    · have a1 : TouchB b (fun k => v.ownBlock = some k ∨ k = m) w wa := TouchB.of (HT.out.mono (fun _ _ h => h.elim)) hb (fun e => by rcases e with e | e; exact HP0.out.bv e; exact hm e.symm)
      have a2 : TouchB b (fun k => k = m) w1 w2 := TouchB.of ((T4.drew.mono (fun _ _ h => h.elim)).trans t2) hb1 (Ne.symm hm)
      have a3 : TouchB b (fun k => k = w.heap.size) w2 (((w2.setCell ⟨w.heap.size, 0, none⟩ (.int .i64 x.a)).setCell ⟨w.heap.size, 1, none⟩ (.int .i64 x.r)).setCell ⟨w.heap.size, 2, none⟩ (.int .u64 x.k)) := TouchB.of ts hb2 (by omega)
      exact ((a1.trans T3 (fun _ _ h => h)).trans a2 (fun _ _ e => Or.inr e)).trans a3 (fun i hi e => by omega)
  clear P3 P4 P5 pe3 h3 k3 x3 n3 hv3 T3 T4 M2 U2 y0 y1 y2 R1 R2 ts
  go_region_held3 (fun w' => SnqF wb m w') (with_reducible assumption) (fail)
  have u0 := z0 _ s2
  have u1 := z1 _ s2
  have u2 := z2 _ s2
  clear z0 z1 z2 d1 E1 s0 s2
  go_wp2_with fail
  exact bodyPost_ret (v := .agg #[.int .i64 x.a, .int .i64 x.r, .int .u64 x.k]) (by simp [results, Try.results35, go_sem, r0, r1, r2]) rfl FIN.out
end Go.Proofs.Ytmdnlfbploaafaa
