
/- The document's queue: Drop of any key, Next, Take. -/
import Derived.Test.YtmdnlfbploaafaaQuDoc3
namespace Go.Proofs.Ytmdnlfbploaafaa
open Go.RowKit
set_option linter.unusedVariables false
set_option maxRecDepth 100000

set_option maxHeartbeats 1000000 in
theorem ddrop_any (w : World) (b : Nat) (v : Value) (most : Int) (l : List En) (k : Int) (h : DS w b v most l) :
    Calls Try.prog 23 #[.pointer (some ⟨b, 0, none⟩), .int .u64 k] w fun e w' => e = .returned (.bool (hasK l k)) ∧ DN w b v most (noK l k) w' := by
  cases hk : hasK l k with
  | true => exact ddrop_there w b v most l k h hk
  | false =>
    rw [noK_self (hasK_false.1 hk)]
    have HF := dfind_any w b v most l k h
    have HD : Hid _ := h
    clear h
    go_enter Try.func23, Try.ntmps23
    go_wp2_with fail
    refine Calls.mono HF ?_
    rintro e w1 ⟨z, rfl, rfl, hz⟩
    rcases hz.out with ⟨rfl, hn⟩ | ⟨i, hi, rfl, hk2⟩
    · clear hz HF
      go_wp2_with fail
      go_ret
      exact ⟨rfl, DN.same HD.out (Touch.refl _ _)⟩
    · exact absurd hk2 (hasK_false.1 hk _ (gt_mem hi))

/-- The least of the first t, in a variable. -/
structure MinR (W w : World) (l : List En) (t : Nat) (x : En) : Prop where
  le : t ≤ l.length
  t0 : 0 < t
  mem : x ∈ l
  min : ∀ j, j < t → x.le (gt l j)
  r0 : Row w W.heap.size 62 [.int .i64 0, .int .i64 0, .int .u64 0]
  r1 : Row w (W.heap.size + 1) 62 [.int .i64 x.a, .int .i64 x.r, .int .u64 x.k]
  t : Touch (fun _ => False) W w

set_option maxHeartbeats 400000 in
theorem dnext_none (w : World) (b : Nat) (v : Value) (most : Int) (h : DS w b v most []) :
    Calls Try.prog 24 #[.pointer (some ⟨b, 0, none⟩)] w fun e w' => e = .returned (.tuple #[.agg #[.int .i64 0, .int .i64 0, .int .u64 0], .bool false]) ∧ Touch (fun _ => False) w w' := by
  obtain ⟨a, c, rfl⟩ := h.rd.shape
  have c0 := h.c0
  have hb := lt_of_cell c0
  simp only [List.length_nil] at c0
  clear h
  go_enter Try.func24, Try.ntmps24
  go_wp2
  refine bodyPost_ret (v := .tuple #[.agg #[.int .i64 0, .int .i64 0, .int .u64 0], .bool false]) (by simp [results, Try.results24, go_sem]) rfl ⟨rfl, ?_⟩
  exact (Touch.refl _ _).alloc _

set_option maxHeartbeats 2000000 in
theorem dnext_some (w : World) (b : Nat) (v : Value) (most : Int) (l : List En) (h : DS w b v most l) (hl : 0 < l.length) :
    Calls Try.prog 24 #[.pointer (some ⟨b, 0, none⟩)] w fun e w' => ∃ x, IsMin x l ∧ e = .returned (.tuple #[.agg #[.int .i64 x.a, .int .i64 x.r, .int .u64 x.k], .bool true]) ∧ Touch (fun _ => False) w w' := by
  obtain ⟨g, cap, rfl, hcap, hg⟩ := h.rd.form hl
  have c0 := h.c0
  have hb := lt_of_cell c0
  have hsm : (l.length : Int) ≤ 1048576 := by have := h.ml; have := h.m2; omega
  obtain ⟨x0, x1, x2⟩ := h.rd.cells hl
  simp only [Nat.zero_mul, Nat.zero_add] at x0 x1 x2
  have l0 : (0 : Int) < (l.length : Int) := by omega
  have l1n : ¬ (l.length : Int) = 0 := by omega
  have l1 : ((l.length : Int) == 0) = false := beq_eq_false_iff_ne.2 l1n
  clear l1n
  have HD : Hid _ := h
  have HL : Hid (0 < l.length) := hl
  have rnew := row_new (w.alloc (.cells #[.int .i64 0, .int .i64 0, .int .u64 0] 62)) 62 #[.int .i64 (gt l 0).a, .int .i64 (gt l 0).r, .int .u64 (gt l 0).k]
  rw [show (w.alloc (.cells #[.int .i64 0, .int .i64 0, .int .u64 0] 62)).heap.size = w.heap.size + 1 by simp] at rnew
  have R0 : Hid (MinR w ((w.alloc (.cells #[.int .i64 0, .int .i64 0, .int .u64 0] 62)).alloc (.cells #[.int .i64 (gt l 0).a, .int .i64 (gt l 0).r, .int .u64 (gt l 0).k] 62)) l 1 (gt l 0)) :=
    ⟨hl, by omega, gt_mem hl, fun j hj => (by obtain rfl : j = 0 := (by omega); exact le_refl' _), (row_new w _ _).keep ((Touch.refl _ _).alloc _), rnew, ((Touch.refl _ _).alloc _).alloc _⟩
  clear rnew
  generalize gt l 0 = x at *
  clear h hl hcap
  go_enter Try.func24, Try.ntmps24
  go_wp2_with fail
  clear x0 x1 x2
  go_loopw [5] (fun s5 wx => ∃ (t : Nat) (x : En), s5 = .int .i64 t ∧ MinR w wx l t x) (fun s5 _ => l.length - (intOf s5).toNat)
  case atStart => exact ⟨1, _, rfl, R0.out⟩
  case round =>
    clear R0
    obtain ⟨t, y, rfl, R⟩ := hrel
    have HR : Hid _ := R
    have ht2 : (t : Int) ≤ 1048576 := by have := R.le; omega
    have d0 := R.t.cellN c0
    have hH := R.r1.lt
    by_cases hlt : t < l.length
    · have hlt' : (t : Int) < (l.length : Int) := by omega
      have t0 : (0 : Int) ≤ (t : Int) := by omega
      obtain ⟨z0, z1, z2⟩ := HD.out.rd.cells hlt
      replace z0 := R.t.cellN z0
      replace z1 := R.t.cellN z1
      replace z2 := R.t.cellN z2
      have y0 : wr.cell? ⟨w.heap.size + 1, 0, none⟩ = some (.int .i64 y.a) := R.r1.cell 0
      have y1 : wr.cell? ⟨w.heap.size + 1, 1, none⟩ = some (.int .i64 y.r) := R.r1.cell 1
      have y2 : wr.cell? ⟨w.heap.size + 1, 2, none⟩ = some (.int .u64 y.k) := R.r1.cell 2
      have HX : Hid (gt l t ∈ l) := gt_mem hlt
      generalize hxx : gt l t = x at *
      have HXX : Hid _ := hxx
      clear hxx
      have Z0 : Hid _ := z0
      have Z1 : Hid _ := z1
      have Z2 : Hid _ := z2
      have Y0 : Hid _ := y0
      have Y1 : Hid _ := y1
      have Y2 : Hid _ := y2
      have D0 : Hid _ := d0
      replace z0 := snq_cell z0
      replace z1 := snq_cell z1
      replace z2 := snq_cell z2
      replace y0 := snq_cell y0
      replace y1 := snq_cell y1
      replace y2 := snq_cell y2
      have st : Snq wr wr.drew := Snq.start wr
      clear R
      by_cases hb2 : x.lt y
      · have HLs : Hid _ := dless_any x y
        rw [ltB_true hb2] at HLs
        have HB : Hid _ := hb2
        clear hb2
        go_wp2_with fail
        replace d0 := snq_cell d0
        go_region_held3 (fun w' => Snq wr w') (with_reducible assumption) ((go_at_call 37; refine Calls.mono (HLs.out _) ?_; rintro e wx ⟨rfl, tx⟩; have sx := Snq.trans (by assumption) tx))
        have z0' := z0 _ sx
        have z1' := z1 _ sx
        have z2' := z2 _ sx
        have d0' := d0 _ sx
        have R1 := HR.out.r1.keep sx.t
        have y0' : wx.cell? ⟨w.heap.size + 1, 0, none⟩ = some (.int .i64 y.a) := R1.cell 0
        have y1' : wx.cell? ⟨w.heap.size + 1, 1, none⟩ = some (.int .i64 y.r) := R1.cell 1
        have y2' : wx.cell? ⟨w.heap.size + 1, 2, none⟩ = some (.int .u64 y.k) := R1.cell 2
        have yf := R1.frozen
        have T3 : Touch (fun _ => False) w (((wx.setCell ⟨w.heap.size + 1, 0, none⟩ (.int .i64 x.a)).setCell ⟨w.heap.size + 1, 1, none⟩ (.int .i64 x.r)).setCell ⟨w.heap.size + 1, 2, none⟩ (.int .u64 x.k)) := by
          refine Touch.setCell (p := ⟨w.heap.size + 1, 2, none⟩) ?_ (Or.inr (Nat.le_succ _)) _
          refine Touch.setCell (p := ⟨w.heap.size + 1, 1, none⟩) ?_ (Or.inr (Nat.le_succ _)) _
          refine Touch.setCell (p := ⟨w.heap.size + 1, 0, none⟩) ?_ (Or.inr (Nat.le_succ _)) _
          exact HR.out.t.trans sx.t
        have FIN : Hid (MinR w (((wx.setCell ⟨w.heap.size + 1, 0, none⟩ (.int .i64 x.a)).setCell ⟨w.heap.size + 1, 1, none⟩ (.int .i64 x.r)).setCell ⟨w.heap.size + 1, 2, none⟩ (.int .u64 x.k)) l (t + 1) x) :=
          ⟨hlt, by omega, HX.out, fun j hj => by
            by_cases e : j = t
            · subst e; rw [HXX.out]; exact le_refl' _
            · exact le_trans' (le_of_lt' HB.out) (HR.out.min j (by omega)), (((HR.out.r0.keep sx.t).other (p := ⟨w.heap.size + 1, 0, none⟩) (by simp) _).other (p := ⟨w.heap.size + 1, 1, none⟩) (by simp) _).other (p := ⟨w.heap.size + 1, 2, none⟩) (by simp) _, ((R1.set 0 (.int .i64 x.a)).set 1 (.int .i64 x.r)).set 2 (.int .u64 x.k), T3⟩
        clear z0 z1 z2 y0 y1 y2 d0 sx tx T3 R1 st
        go_wp2_with fail
        go_roundw
        case rel => exact ⟨t + 1, x, by go_num, FIN.out⟩
        case measure => simp [intOf]; omega
      · have HLs : Hid _ := dless_any x y
        rw [ltB_false hb2] at HLs
        have HB : Hid _ := hb2
        clear hb2
        go_wp2_with fail
        replace d0 := snq_cell d0
        go_region_held3 (fun w' => Snq wr w') (with_reducible assumption) ((go_at_call 37; refine Calls.mono (HLs.out _) ?_; rintro e wx ⟨rfl, tx⟩; have sx := Snq.trans (by assumption) tx))
        have FIN : Hid (MinR w wx l (t + 1) y) :=
          ⟨hlt, by omega, HR.out.mem, fun j hj => by
            by_cases e : j = t
            · subst e; rw [HXX.out]; exact HB.out
            · exact HR.out.min j (by omega), HR.out.r0.keep sx.t, HR.out.r1.keep sx.t, HR.out.t.trans sx.t⟩
        clear z0 z1 z2 y0 y1 y2 d0 sx tx st
        go_wp2_with fail
        go_roundw
        case rel => exact ⟨t + 1, y, by go_num, FIN.out⟩
        case measure => simp [intOf]; omega
    · have hlt' : ¬ (t : Int) < (l.length : Int) := by omega
      have y0 : wr.cell? ⟨w.heap.size + 1, 0, none⟩ = some (.int .i64 y.a) := R.r1.cell 0
      have y1 : wr.cell? ⟨w.heap.size + 1, 1, none⟩ = some (.int .i64 y.r) := R.r1.cell 1
      have y2 : wr.cell? ⟨w.heap.size + 1, 2, none⟩ = some (.int .u64 y.k) := R.r1.cell 2
      have q0 : wr.cell? ⟨w.heap.size, 0, none⟩ = some (.int .i64 0) := R.r0.cell 0
      have q1 : wr.cell? ⟨w.heap.size, 1, none⟩ = some (.int .i64 0) := R.r0.cell 1
      have q2 : wr.cell? ⟨w.heap.size, 2, none⟩ = some (.int .u64 0) := R.r0.cell 2
      have qf := R.r0.frozen
      clear R
      go_wp2_with fail
      refine bodyPost_ret (v := .tuple #[.agg #[.int .i64 y.a, .int .i64 y.r, .int .u64 y.k], .bool true]) (by simp [results, Try.results24, go_sem, q0, q1, q2]) rfl ⟨y, ?_, rfl, ?_⟩
      · exact ⟨HR.out.mem, fun z hz => by obtain ⟨j, hj, rfl⟩ := mem_gt hz; exact HR.out.min j (by omega)⟩
      · refine Touch.setCell (p := ⟨w.heap.size, 2, none⟩) ?_ (Or.inr (Nat.le_refl _)) _
        refine Touch.setCell (p := ⟨w.heap.size, 1, none⟩) ?_ (Or.inr (Nat.le_refl _)) _
        refine Touch.setCell (p := ⟨w.heap.size, 0, none⟩) ?_ (Or.inr (Nat.le_refl _)) _
        exact HR.out.t

theorem dnext_any (w : World) (b : Nat) (v : Value) (most : Int) (l : List En) (h : DS w b v most l) :
    Calls Try.prog 24 #[.pointer (some ⟨b, 0, none⟩)] w fun e w' => ∃ x z, NextP l x z ∧ e = .returned (.tuple #[.agg #[.int .i64 x.a, .int .i64 x.r, .int .u64 x.k], .bool z]) ∧ Touch (fun _ => False) w w' := by
  by_cases hl : l = []
  · subst hl
    exact (dnext_none w b v most h).mono fun e w' ⟨he, t⟩ => ⟨En0, false, ⟨fun _ => ⟨rfl, rfl⟩, fun h => absurd rfl h⟩, he, t⟩
  · exact (dnext_some w b v most l h (List.length_pos_iff.2 hl)).mono fun e w' ⟨x, hx, he, t⟩ => ⟨x, true, ⟨fun h => absurd h hl, fun _ => ⟨hx, rfl⟩⟩, he, t⟩

/-- What the document takes, and what is left. -/
structure DTakeP (w : World) (b : Nat) (v : Value) (most : Int) (l : List En) (now : Int) (e : Ending) (w' : World) : Prop where
  out : ∃ x z, e = .returned (.tuple #[.agg #[.int .i64 x.a, .int .i64 x.r, .int .u64 x.k], .bool z]) ∧
    ((x = En0 ∧ z = false ∧ (l = [] ∨ ∃ y, IsMin y l ∧ now < y.a) ∧ DN w b v most l w') ∨ (z = true ∧ IsMin x l ∧ x.a ≤ now ∧ DN w b v most (noK l x.k) w'))
theorem DN.back {w wx w2 w3 : World} {b : Nat} {v : Value} {most : Int} {L : List En} {G : Nat → Prop} (T : Touch (fun _ => False) w wx) (hq : ∀ k, dB b v k → k < w.heap.size) (q : DN wx b v most L w2) (t : Touch G w2 w3) (hG : ∀ k, G k → w.heap.size ≤ k ∧ k < wx.heap.size) : DN w b v most L w3 := by
  obtain ⟨⟨v', Q, hv⟩, tt⟩ := q
  refine ⟨⟨v', Q.keep t (fun k hk g => ?_), fun k hk => ?_⟩, ?_⟩
  · have h1 := hG k g
    rcases hk with e | e
    · have := hq k (Or.inl e); omega
    · rcases hv k e with e2 | e2
      · have := hq k (Or.inr e2); omega
      · omega
  · rcases hv k hk with e2 | e2
    · exact Or.inl e2
    · exact Or.inr (Nat.le_trans T.size e2)
  · exact ((T.mono (fun _ _ h => h.elim)).trans tt).trans' t (fun i hi g => by have := hG i g; omega)

set_option maxHeartbeats 1000000 in
theorem dtake_any (w : World) (b : Nat) (v : Value) (most : Int) (l : List En) (now : Int) (h : DS w b v most l) :
    Calls Try.prog 26 #[.pointer (some ⟨b, 0, none⟩), .int .i64 now] w (DTakeP w b v most l now) := by
  have HL : Hid _ := fun w' t => dnext_any w' b v most l (DS.keep (F := fun _ => False) h t (fun _ _ h => h))
  have HD : Hid _ := h
  have hqb : Hid (∀ k, dB b v k → k < w.heap.size) := h.lt
  clear h
  go_enter Try.func26, Try.ntmps26
  go_wp2_with fail
  have T : Touch (fun _ => False) w (w.alloc (.cells #[.int .i64 0, .int .i64 0, .int .u64 0] 62)) := (Touch.refl _ _).alloc _
  have R0 : Row (w.alloc (.cells #[.int .i64 0, .int .i64 0, .int .u64 0] 62)) w.heap.size 62 [.int .i64 0, .int .i64 0, .int .u64 0] := row_new w _ _
  generalize w.alloc (.cells #[.int .i64 0, .int .i64 0, .int .u64 0] 62) = wa at T R0 ⊢
  refine Calls.mono (HL.out wa T) ?_
  rintro e w1 ⟨x, z, hn, rfl, t1⟩
  have R1 := R0.keep t1
  have hlt := R1.lt
  have HT : Hid (Touch (fun _ => False) w w1) := T.trans t1
  have hcase : (x = En0 ∧ z = false ∧ l = []) ∨ (z = true ∧ IsMin x l ∧ now < x.a) ∨ (z = true ∧ IsMin x l ∧ x.a ≤ now) := by
    by_cases hl : l = []
    · obtain ⟨a1, a2⟩ := hn.no hl
      exact Or.inl ⟨a1, a2, hl⟩
    · obtain ⟨a1, a2⟩ := hn.yes hl
      by_cases hx : now < x.a
      · exact Or.inr (Or.inl ⟨a2, a1, hx⟩)
      · exact Or.inr (Or.inr ⟨a2, a1, by omega⟩)
  clear R0 t1 T HL hn
  rcases hcase with ⟨rfl, rfl, hl⟩ | ⟨rfl, hm, hx⟩ | ⟨rfl, hm, hx⟩
  · have HLn : Hid _ := hl
    clear hl
    have r0 : w1.cell? ⟨w.heap.size, 0, none⟩ = some (.int .i64 0) := R1.cell 0
    have r1 : w1.cell? ⟨w.heap.size, 1, none⟩ = some (.int .i64 0) := R1.cell 1
    have r2 : w1.cell? ⟨w.heap.size, 2, none⟩ = some (.int .u64 0) := R1.cell 2
    have rf := R1.frozen
    clear R1
    go_wp2_with fail
    refine bodyPost_ret (v := .tuple #[.agg #[.int .i64 0, .int .i64 0, .int .u64 0], .bool false]) (by simp [results, Try.results26, go_sem, r0, r1, r2, hlt]) rfl ?_
    refine ⟨En0, false, rfl, Or.inl ⟨rfl, rfl, Or.inl HLn.out, DN.same HD.out ?_⟩⟩
    refine Touch.alloc ?_ _
    refine Touch.setCell (p := ⟨w.heap.size, 2, none⟩) ?_ (Or.inr (Nat.le_refl _)) _
    refine Touch.setCell (p := ⟨w.heap.size, 1, none⟩) ?_ (Or.inr (Nat.le_refl _)) _
    refine Touch.setCell (p := ⟨w.heap.size, 0, none⟩) ?_ (Or.inr (Nat.le_refl _)) _
    exact HT.out
  · have HMN : Hid _ := hm
    clear hm
    have r0 : w1.cell? ⟨w.heap.size, 0, none⟩ = some (.int .i64 0) := R1.cell 0
    have r1 : w1.cell? ⟨w.heap.size, 1, none⟩ = some (.int .i64 0) := R1.cell 1
    have r2 : w1.cell? ⟨w.heap.size, 2, none⟩ = some (.int .u64 0) := R1.cell 2
    have rf := R1.frozen
    clear R1
    go_wp2_with fail
    refine bodyPost_ret (v := .tuple #[.agg #[.int .i64 0, .int .i64 0, .int .u64 0], .bool false]) (by simp [results, Try.results26, go_sem, r0, r1, r2, hlt]) rfl ?_
    refine ⟨En0, false, rfl, Or.inl ⟨rfl, rfl, Or.inr ⟨x, HMN.out, hx⟩, DN.same HD.out ?_⟩⟩
    refine Touch.alloc ?_ _
    refine Touch.setCell (p := ⟨w.heap.size, 2, none⟩) ?_ (Or.inr (Nat.le_refl _)) _
    refine Touch.setCell (p := ⟨w.heap.size, 1, none⟩) ?_ (Or.inr (Nat.le_refl _)) _
    refine Touch.setCell (p := ⟨w.heap.size, 0, none⟩) ?_ (Or.inr (Nat.le_refl _)) _
    exact HT.out
  · have HMN : Hid _ := hm
    have hnn : ¬ now < x.a := by omega
    clear hm
    go_wp2_with fail
    refine Calls.mono (ddrop_any _ b v most l x.k (HD.out.keep (HT.out.alloc (.cells #[.int .i64 x.a, .int .i64 x.r, .int .u64 x.k] 62)) (fun _ _ h => h))) ?_
    rintro e w2 ⟨rfl, q2⟩
    have R2 : Row w2 w.heap.size 62 [.int .i64 0, .int .i64 0, .int .u64 0] := (q2.t.block _ (by simp; omega) (fun e => by have := hqb.out _ e; omega)).trans (R1.keep ((Touch.refl _ _).alloc _))
    have hsz1 : w.heap.size ≤ w1.heap.size := HT.out.size
    have X2 : Row w2 w1.heap.size 62 [.int .i64 x.a, .int .i64 x.r, .int .u64 x.k] := (q2.t.block _ (by simp) (fun e => by have := hqb.out _ e; omega)).trans (row_new w1 _ _)
    have r0 : w2.cell? ⟨w.heap.size, 0, none⟩ = some (.int .i64 0) := R2.cell 0
    have r1 : w2.cell? ⟨w.heap.size, 1, none⟩ = some (.int .i64 0) := R2.cell 1
    have r2 : w2.cell? ⟨w.heap.size, 2, none⟩ = some (.int .u64 0) := R2.cell 2
    have rf := R2.frozen
    have y0 : w2.cell? ⟨w1.heap.size, 0, none⟩ = some (.int .i64 x.a) := X2.cell 0
    have y1 : w2.cell? ⟨w1.heap.size, 1, none⟩ = some (.int .i64 x.r) := X2.cell 1
    have y2 : w2.cell? ⟨w1.heap.size, 2, none⟩ = some (.int .u64 x.k) := X2.cell 2
    have HQ2 : Hid _ := q2
    clear R1 R2 X2 q2
    go_wp2_with fail
    refine bodyPost_ret (v := .tuple #[.agg #[.int .i64 x.a, .int .i64 x.r, .int .u64 x.k], .bool true]) (by simp [results, Try.results26, go_sem, r0, r1, r2]) rfl ?_
    refine ⟨x, true, rfl, Or.inr ⟨rfl, HMN.out, hx, ?_⟩⟩
    refine DN.back (G := fun k => k = w.heap.size) (HT.out.alloc _) hqb.out HQ2.out ?_ (fun k e => by subst e; simp; omega)
    refine Touch.setCell (F := fun k => k = w.heap.size) (p := ⟨w.heap.size, 2, none⟩) ?_ (Or.inl rfl) _
    refine Touch.setCell (F := fun k => k = w.heap.size) (p := ⟨w.heap.size, 1, none⟩) ?_ (Or.inl rfl) _
    refine Touch.setCell (F := fun k => k = w.heap.size) (p := ⟨w.heap.size, 0, none⟩) ?_ (Or.inl rfl) _
    exact Touch.refl _ _
end Go.Proofs.Ytmdnlfbploaafaa
