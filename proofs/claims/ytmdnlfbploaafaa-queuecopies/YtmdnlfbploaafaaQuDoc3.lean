
/- The document's queue: Drop, Next, Take. -/
import Derived.Test.YtmdnlfbploaafaaQuDoc2
namespace Go.Proofs.Ytmdnlfbploaafaa
open Go.RowKit
set_option linter.unusedVariables false
set_option maxRecDepth 100000

theorem noK_take {l : List En} (h : NK l) {i : Nat} (hi : i < l.length) {t : Nat} (ht : t < l.length) : noK (l.take (t + 1)) (gt l i).k = noK (l.take t) (gt l i).k ++ (if t = i then [] else [gt l t]) := by
  have e : l.take (t + 1) = l.take t ++ [gt l t] := by rw [List.take_succ_eq_append_getElem ht, gt_get ht]
  rw [e, noK_append]
  congr 1
  by_cases hti : t = i
  · subst hti; simp [noK]
  · have : (gt l t).k ≠ (gt l i).k := fun e => hti (h t i ht hi e)
    simp [noK, hti, this]
/-- While a new row is laid without one key. -/
structure DropR (W w : World) (v' : Value) (L : List En) : Prop where
  own : w.ownsRow W.heap.size 62 3 v' L.length (cellsOf L)
  t : Touch (fun _ => False) W w

set_option maxHeartbeats 2000000 in
theorem ddrop_there (w : World) (b : Nat) (v : Value) (most : Int) (l : List En) (k : Int) (h : DS w b v most l) (hk : hasK l k = true) :
    Calls Try.prog 23 #[.pointer (some ⟨b, 0, none⟩), .int .u64 k] w fun e w' => e = .returned (.bool true) ∧ DN w b v most (noK l k) w' := by
  have HF := dfind_any w b v most l k h
  have HD : Hid _ := h
  have hb := lt_of_cell h.c0
  obtain ⟨a, c, rfl⟩ := h.rd.shape
  have hsm : (l.length : Int) ≤ 1048576 := by have := h.ml; have := h.m2; omega
  clear h
  go_enter Try.func23, Try.ntmps23
  go_wp2_with fail
  refine Calls.mono HF ?_
  rintro e w1 ⟨z, rfl, rfl, hz⟩
  clear HF
  rcases hz.out with ⟨rfl, hn⟩ | ⟨i, hi, rfl, hk2⟩
  · obtain ⟨y, hy, e⟩ := hasK_true.1 hk
    exact absurd e (hn y hy)
  obtain ⟨g, cap, e1, hcap, hg⟩ := HD.out.rd.form (by omega)
  injection e1 with e1 e2 e3
  subst e1
  subst e3
  have hi0 : (0 : Int) ≤ (i : Int) := by omega
  have hi1 : (i : Int) < (l.length : Int) := by omega
  have HK : Hid _ := hk2
  have HI : Hid (i < l.length) := hi
  clear hz hk2 e2 hcap hi
  obtain ⟨in0, hin0, hz0, hz1, hz2⟩ := infoParts infoDe
  go_wp2_with fail
  go_loopw [6, 7] (fun s6 s7 wx => ∃ t : Nat, t ≤ l.length ∧ s7 = .int .i64 t ∧ DropR w wx s6 (noK (l.take t) k)) (fun _ s7 _ => l.length - (intOf s7).toNat)
  case atStart => exact ⟨0, Nat.zero_le _, rfl, ⟨World.ownsRow_nil _ _ _ _, Touch.refl _ _⟩⟩
  case round =>
    obtain ⟨t, htl, rfl, R⟩ := hrel
    have HR : Hid _ := R
    have ht2 : (t : Int) ≤ 1048576 := by omega
    have c0 := R.t.cellN HD.out.c0
    obtain ⟨ua, uc, hu⟩ := own_shape R.own
    subst hu
    by_cases hlt : t < l.length
    · have hlt' : (t : Int) < (l.length : Int) := by omega
      have t0 : (0 : Int) ≤ (t : Int) := by omega
      have hst := noK_take HD.out.nk HI.out hlt
      rw [HK.out] at hst
      by_cases hti : t = i
      · subst hti
        rw [if_pos rfl, List.append_nil] at hst
        have HS : Hid _ := hst
        clear hst R
        go_wp2_with fail
        go_roundw
        case rel => exact ⟨t + 1, hlt, by go_num, by rw [HS.out]; exact HR.out⟩
        case measure => simp [intOf]; omega
      · rw [if_neg hti] at hst
        have hti' : ¬ (t : Int) = (i : Int) := by omega
        obtain ⟨x0, x1, x2⟩ := HD.out.rd.cells hlt
        replace x0 := R.t.cellN x0
        replace x1 := R.t.cellN x1
        replace x2 := R.t.cellN x2
        generalize gt l t = x at *
        have HS : Hid _ := hst
        clear hst
        have T1 : Touch (fun _ => False) wr (wr.alloc (.cells #[.int .i64 x.a, .int .i64 x.r, .int .u64 x.k] 62)) := (Touch.refl _ _).alloc _
        have hcell : ∀ j u, x.cs[j]? = some u → (wr.alloc (.cells #[.int .i64 x.a, .int .i64 x.r, .int .u64 x.k] 62)).cell? ((⟨wr.heap.size, 0, none⟩ : Addr).add j) = some u := by
          intro j u hj
          rcases (by have := (List.getElem?_eq_some_iff.1 hj).1; simp [En.cs] at this; omega : j = 0 ∨ j = 1 ∨ j = 2) with rfl | rfl | rfl
          · simp [En.cs] at hj; subst hj; simp [Addr.add]
          · simp [En.cs] at hj; subst hj; simp [Addr.add]
          · simp [En.cs] at hj; subst hj; simp [Addr.add]
        have ow := own_touch R.own T1 (fun _ _ h => h)
        have hle : (noK (l.take t) k).length ≤ 1048576 := by have := noK_len (l.take t) k; simp at this; omega
        have hsz := R.t.size
        clear R
        go_wp2_with (first
          | (at_len; fail)
          | (at_builtin; refine wpList_append_own_at _ rfl (.tmp 25) (.tmp 33) 28 rfl w.heap.size 62 in0 _ 3 24 Try.underlying28 hin0 hz0 hz1 hz2 rfl (by omega) (.slice ua (noK (l.take t) k).length uc) (noK (l.take t) k).length (cellsOf (noK (l.take t) k)) rfl ow ⟨wr.heap.size, 0, none⟩ 1 1 x.cs rfl rfl hcell (fun u hu => by simp [En.cs] at hu; rcases hu with rfl | rfl | rfl <;> rfl) (by unfold maxLen; omega) (by omega) (by simp; omega) ?_; intro v' w2 own' gr' _ hat))
        go_roundw
        case rel =>
          refine ⟨t + 1, hlt, by go_num, ?_, ?_⟩
          · have e1 : (noK (l.take (t + 1)) k).length = (noK (l.take t) k).length + 1 := by rw [HS.out]; simp
            have e2 : cellsOf (noK (l.take (t + 1)) k) = cellsOf (noK (l.take t) k) ++ x.cs := by rw [HS.out, cellsOf_append]; rfl
            rw [e1, e2]
            exact own'
          · exact (HR.out.t.trans T1).trans' (Touch.grown (F := fun j => Value.ownBlock (.slice ua (noK (l.take t) k).length uc) = some j) (Touch.refl _ _) gr' (fun j hj => Or.inl hj)) (fun j hj e => by have := (World.ownsRow.lt HR.out.own j e).1; omega)
        case measure => simp [intOf]; omega
    · have hlt' : ¬ (t : Int) < (l.length : Int) := by omega
      have et : l.take t = l := List.take_of_length_le (by omega)
      have HR2 : Hid (DropR w wr (.slice ua (noK l k).length uc) (noK l k)) := by have := HR.out; rw [et] at this; exact this
      rw [et]
      have f0 := (R.t.frozen (p := ⟨b, 0, none⟩) hb (fun h => h)).trans HD.out.f0
      have c1 := R.t.cellN HD.out.c1
      clear R
      go_wp2_with fail
      go_ret
      have hvb : Value.ownBlock (.slice ua (noK l k).length uc) ≠ some b := fun e => by have := (World.ownsRow.lt HR2.out.own b e).1; omega
      have ts : Touch (fun j => j = b) wr (wr.setCell ⟨b, 0, none⟩ (.slice ua (noK l k).length uc)) := Touch.setCell (F := fun j => j = b) (p := ⟨b, 0, none⟩) (Touch.refl _ _) (Or.inl rfl) _
      refine ⟨rfl, ⟨.slice ua (noK l k).length uc, ⟨?_, ?_, ?_, ?_, hvb, HD.out.nk.noK k, fun e he => HD.out.ok e (mem_noK.1 he).1, HD.out.m2, by have := noK_len l k; have := HD.out.ml; omega⟩, ?_⟩, ?_⟩
      · simp [go_sem, c0]
      · simpa [go_sem] using c1
      · simpa [go_sem] using f0
      · have o2 := own_touch HR2.out.own ts (fun j hj e => hvb (by rw [hj, e]))
        refine ⟨o2.1, ?_⟩
        rcases o2.2 with h2 | ⟨g2, cap2, cur2, a1, _, a3⟩
        · exact Or.inl h2
        · exact Or.inr ⟨g2, cap2, cur2, a1, Nat.zero_le _, a3⟩
      · exact fun j hj => Or.inr (World.ownsRow.lt HR2.out.own j hj).1
      · exact (HR2.out.t.mono (fun _ _ h => h.elim)).trans (ts.mono (fun _ _ e => Or.inl e))
end Go.Proofs.Ytmdnlfbploaafaa
