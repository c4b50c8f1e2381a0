/- Contract: the writer of one link. -/
import Derived.Test.YtfdpmlogieaiaaaStWAny
namespace Go.Proofs.Ytfdpmlogieaiaaa
open Go.RowKit
set_option linter.unusedVariables false
set_option maxRecDepth 100000

/-- A writer while a link is laid: the link lies in block gl. -/
structure LnkA (X1 : Nat → Prop) (w0 : World) (b g1 gl : Nat) (x : LV) (most : Int) (wx : World) (L : List Int) : Prop where
  wr : Wr X1 wx b L most
  k : Kept X1 w0 wx
  c : wx.cell? ⟨g1, 0, none⟩ = some (.pointer (some ⟨b, 0, none⟩)) ∧ wx.cell? ⟨gl, 0, none⟩ = some (.int .u32 x.id) ∧ wx.cell? ⟨gl, 1, none⟩ = some (.int .u32 x.data) ∧ wx.cell? ⟨gl, 2, none⟩ = some (.int .u8 x.typ) ∧ wx.cell? ⟨gl, 3, none⟩ = some (.int .u16 x.cost)
  m1 : X1 g1
  ml : X1 gl
/-- .. and two bytes lie ready in block gs. -/
structure LnkB (X1 : Nat → Prop) (w0 : World) (b g1 gl : Nat) (x : LV) (most : Int) (gs : Nat) (wx : World) (L : List Int) : Prop where
  wr : ∃ X : Nat → Prop, (∀ k, X1 k → X k) ∧ X gs ∧ Wr X wx b L most
  k : Kept X1 w0 wx
  c : wx.cell? ⟨g1, 0, none⟩ = some (.pointer (some ⟨b, 0, none⟩)) ∧ wx.cell? ⟨gl, 0, none⟩ = some (.int .u32 x.id) ∧ wx.cell? ⟨gl, 1, none⟩ = some (.int .u32 x.data) ∧ wx.cell? ⟨gl, 2, none⟩ = some (.int .u8 x.typ) ∧ wx.cell? ⟨gl, 3, none⟩ = some (.int .u16 x.cost)
  s0 : wx.cell? ⟨gs, 0, none⟩ = some (.int .u8 x.typ)
  s1 : wx.cell? ⟨gs, 1, none⟩ = some (.int .u8 0)
  m1 : X1 g1
  ml : X1 gl
theorem lnk_cells {X1 : Nat → Prop} {wx w' : World} {b g1 gl : Nat} {x : LV} (c : wx.cell? ⟨g1, 0, none⟩ = some (.pointer (some ⟨b, 0, none⟩)) ∧ wx.cell? ⟨gl, 0, none⟩ = some (.int .u32 x.id) ∧ wx.cell? ⟨gl, 1, none⟩ = some (.int .u32 x.data) ∧ wx.cell? ⟨gl, 2, none⟩ = some (.int .u8 x.typ) ∧ wx.cell? ⟨gl, 3, none⟩ = some (.int .u16 x.cost)) (k : Kept X1 wx w') (m1 : X1 g1) (ml : X1 gl) : w'.cell? ⟨g1, 0, none⟩ = some (.pointer (some ⟨b, 0, none⟩)) ∧ w'.cell? ⟨gl, 0, none⟩ = some (.int .u32 x.id) ∧ w'.cell? ⟨gl, 1, none⟩ = some (.int .u32 x.data) ∧ w'.cell? ⟨gl, 2, none⟩ = some (.int .u8 x.typ) ∧ w'.cell? ⟨gl, 3, none⟩ = some (.int .u16 x.cost) := by
  obtain ⟨c0, c1, c2, c3, c4⟩ := c
  exact ⟨k.cell c0 m1, k.cell c1 ml, k.cell c2 ml, k.cell c3 ml, k.cell c4 ml⟩
theorem LnkA.two {X1 : Nat → Prop} {w0 : World} {b g1 gl : Nat} {x : LV} {most : Int} {wx : World} {L : List Int} (h : LnkA X1 w0 b g1 gl x most wx L) : LnkB X1 w0 b g1 gl x most wx.heap.size (wx.alloc (.cells #[.int .u8 x.typ, .int .u8 0] 5)) L := by
  have t : Touch (fun _ => False) wx (wx.alloc (.cells #[.int .u8 x.typ, .int .u8 0] 5)) := (Touch.refl _ _).alloc _
  exact ⟨⟨fun k => X1 k ∨ k = wx.heap.size, fun k hk => Or.inl hk, Or.inr rfl, h.wr.more t (fun k hk => by rcases hk with hk | hk; exact Or.inl hk; exact Or.inr ⟨by omega, by simp; omega⟩)⟩, h.k.trans (Kept.of t), lnk_cells h.c (X1 := X1) (Kept.of t) h.m1 h.ml, by simp [go_sem], by simp [go_sem], h.m1, h.ml⟩
theorem LnkA.drew {X1 : Nat → Prop} {w0 : World} {b g1 gl : Nat} {x : LV} {most : Int} {wx : World} {L : List Int} (h : LnkA X1 w0 b g1 gl x most wx L) : LnkA X1 w0 b g1 gl x most wx.drew L :=
  ⟨h.wr.keep ((Touch.refl _ _).drew), h.k.trans (Kept.of ((Touch.refl _ _).drew)), h.c, h.m1, h.ml⟩
theorem LnkB.drew {X1 : Nat → Prop} {w0 : World} {b g1 gl gs : Nat} {x : LV} {most : Int} {wx : World} {L : List Int} (h : LnkB X1 w0 b g1 gl x most gs wx L) : LnkB X1 w0 b g1 gl x most gs wx.drew L := by
  obtain ⟨X, h1, h2, h3⟩ := h.wr
  exact ⟨⟨X, h1, h2, h3.keep ((Touch.refl _ _).drew)⟩, h.k.trans (Kept.of ((Touch.refl _ _).drew)), h.c, h.s0, h.s1, h.m1, h.ml⟩
theorem lnkA_num (n : Int) (hn : n = 1 ∨ n = 2 ∨ n = 3 ∨ n = 4) {X1 : Nat → Prop} {w0 : World} {b g1 gl : Nat} {x : LV} {most : Int} {wx : World} {L : List Int} (v : Int) (hm : most ≤ 1048576) (hv : 0 ≤ v ∧ v < 256 ^ n.toNat) (h : LnkA X1 w0 b g1 gl x most wx L) :
    Calls Try.prog 54 #[.pointer (some ⟨b, 0, none⟩), .int .u32 v, .int .i64 n] wx fun e w' => e = .returned (.pointer (some ⟨b, 0, none⟩)) ∧ LnkA X1 w0 b g1 gl x most w' (L ++ numBytes n.toNat v) := by
  have C : Calls Try.prog 54 #[.pointer (some ⟨b, 0, none⟩), .int .u32 v, .int .i64 n] wx fun e w' => e = .returned (.pointer (some ⟨b, 0, none⟩)) ∧ Wr X1 w' b (L ++ numBytes n.toNat v) most ∧ Kept X1 wx w' := by
    rcases hn with rfl | rfl | rfl | rfl
    · exact number_w1 X1 b L most v wx h.wr hm hv
    · exact number_w2 X1 b L most v wx h.wr hm hv
    · exact number_w3 X1 b L most v wx h.wr hm hv
    · exact number_w4 X1 b L most v wx h.wr hm hv
  refine C.mono ?_
  rintro e w' ⟨rfl, h2, k2⟩
  exact ⟨rfl, h2, h.k.trans k2, lnk_cells h.c k2 h.m1 h.ml, h.m1, h.ml⟩
theorem lnkB_num (n : Int) (hn : n = 1 ∨ n = 2 ∨ n = 3 ∨ n = 4) {X1 : Nat → Prop} {w0 : World} {b g1 gl gs : Nat} {x : LV} {most : Int} {wx : World} {L : List Int} (v : Int) (hm : most ≤ 1048576) (hv : 0 ≤ v ∧ v < 256 ^ n.toNat) (h : LnkB X1 w0 b g1 gl x most gs wx L) :
    Calls Try.prog 54 #[.pointer (some ⟨b, 0, none⟩), .int .u32 v, .int .i64 n] wx fun e w' => e = .returned (.pointer (some ⟨b, 0, none⟩)) ∧ LnkB X1 w0 b g1 gl x most gs w' (L ++ numBytes n.toNat v) := by
  obtain ⟨X, h1, h2, h3⟩ := h.wr
  have C : Calls Try.prog 54 #[.pointer (some ⟨b, 0, none⟩), .int .u32 v, .int .i64 n] wx fun e w' => e = .returned (.pointer (some ⟨b, 0, none⟩)) ∧ Wr X w' b (L ++ numBytes n.toNat v) most ∧ Kept X wx w' := by
    rcases hn with rfl | rfl | rfl | rfl
    · exact number_w1 X b L most v wx h3 hm hv
    · exact number_w2 X b L most v wx h3 hm hv
    · exact number_w3 X b L most v wx h3 hm hv
    · exact number_w4 X b L most v wx h3 hm hv
  refine C.mono ?_
  rintro e w' ⟨rfl, hw, k2⟩
  have k1 : Kept X1 wx w' := k2.less (fun k _ hk => h1 k hk)
  exact ⟨rfl, ⟨X, h1, h2, hw⟩, h.k.trans k1, lnk_cells h.c k1 h.m1 h.ml, k2.cell h.s0 h2, k2.cell h.s1 h2, h.m1, h.ml⟩
theorem lnkB_put {X1 : Nat → Prop} {w0 : World} {b g1 gl gs : Nat} {x : LV} {most : Int} {wx : World} {L : List Int} (hm : most ≤ 1048576) (h : LnkB X1 w0 b g1 gl x most gs wx L) :
    Calls Try.prog 42 #[.pointer (some ⟨b, 0, none⟩), .slice (some ⟨gs, 0, none⟩) 2 2] wx fun e w' => e = .returned (.pointer (some ⟨b, 0, none⟩)) ∧ LnkA X1 w0 b g1 gl x most w' (L ++ [x.typ, 0]) := by
  obtain ⟨X, h1, h2, h3⟩ := h.wr
  refine (put_some X b L most ⟨gs, 0, none⟩ 2 [x.typ, 0] wx h3 hm (fun j u hj => ?_) (by simp)).mono ?_
  · rw [add_plain]
    match j, hj with
    | 0, hj => simp [bytesOf] at hj; subst hj; exact h.s0
    | 1, hj => simp [bytesOf] at hj; subst hj; exact h.s1
    | j + 2, hj => simp [bytesOf] at hj
  · rintro e w' ⟨rfl, hw, k2⟩
    have k1 : Kept X1 wx w' := k2.less (fun k _ hk => h1 k hk)
    exact ⟨rfl, hw.less h1, h.k.trans k1, lnk_cells h.c k1 h.m1 h.ml, h.m1, h.ml⟩
set_option maxHeartbeats 2000000 in
theorem wlink_any (X : Nat → Prop) (b : Nat) (L : List Int) (most : Int) (x : LV) (ok : x.Ok) (w : World) (hw : Wr X w b L most) (hm : most ≤ 1048576) :
    Calls Try.prog 86 #[.agg #[.pointer (some ⟨b, 0, none⟩)], .agg #[.int .u32 x.id, .int .u32 x.data, .int .u8 x.typ, .int .u16 x.cost]] w fun e w' => (e = .returned (.tuple #[]) ∧ (1 ≤ x.typ ∧ x.typ ≤ 4) ∧ Wr X w' b (L ++ linkB x) most ∧ Kept X w w') ∨ (e = .panicked (flawC 28) ∧ ¬ (1 ≤ x.typ ∧ x.typ ≤ 4) ∧ Kept X w w') := by
  have OK : Hid x.Ok := ok
  have HIL := isLink_any x
  have hwc : IntKind.u32.wrap x.cost = x.cost := by have := ok.c; simp [IntKind.wrap, IntKind.bits, IntKind.signed]; omega
  have t0 : Touch (fun _ => False) w ((w.alloc (.cells #[.pointer (some ⟨b, 0, none⟩)] 76)).alloc (.cells #[.int .u32 x.id, .int .u32 x.data, .int .u8 x.typ, .int .u16 x.cost] 95)) := ((Touch.refl _ w).alloc _).alloc _
  obtain ⟨X1, hX1⟩ : ∃ X1 : Nat → Prop, X1 = fun k => X k ∨ k = w.heap.size ∨ k = w.heap.size + 1 := ⟨_, rfl⟩
  have XX : Hid (∀ k, X k → X1 k) := by show ∀ k, _; rw [hX1]; exact fun k hk => Or.inl hk
  have hA : LnkA X1 ((w.alloc (.cells #[.pointer (some ⟨b, 0, none⟩)] 76)).alloc (.cells #[.int .u32 x.id, .int .u32 x.data, .int .u8 x.typ, .int .u16 x.cost] 95)) b w.heap.size (w.heap.size + 1) x most ((w.alloc (.cells #[.pointer (some ⟨b, 0, none⟩)] 76)).alloc (.cells #[.int .u32 x.id, .int .u32 x.data, .int .u8 x.typ, .int .u16 x.cost] 95)) L :=
    ⟨hw.more t0 (fun k hk => by rw [hX1] at hk; rcases hk with hk | hk | hk; exact Or.inl hk; exact Or.inr ⟨by omega, by simp; omega⟩; exact Or.inr ⟨by omega, by simp; omega⟩), Kept.refl _ _, by simp [go_sem], by rw [hX1]; exact Or.inr (Or.inl rfl), by rw [hX1]; exact Or.inr (Or.inr rfl)⟩
  have HT0 : Hid (Touch (fun _ => False) w ((w.alloc (.cells #[.pointer (some ⟨b, 0, none⟩)] 76)).alloc (.cells #[.int .u32 x.id, .int .u32 x.data, .int .u8 x.typ, .int .u16 x.cost] 95))) := t0
  clear hX1 hw t0 ok
  go_enter Try.func86, Try.ntmps86
  go_upto_region 1 with fail
  generalize ((w.alloc (.cells #[.pointer (some ⟨b, 0, none⟩)] 76)).alloc (.cells #[.int .u32 x.id, .int .u32 x.data, .int .u8 x.typ, .int .u16 x.cost] 95)) = w2 at *
  generalize w.heap.size + 1 = gl at *
  generalize w.heap.size = g1 at *
  obtain ⟨c0, c1, c2, c3, c4⟩ := hA.c
  go_wp2_with fail
  refine Calls.mono (HIL _) ?_
  rintro e w3 ⟨rfl, t3⟩
  have A3 : LnkA X1 w2 b g1 gl x most w3 L := ⟨hA.wr.keep t3, Kept.of t3, lnk_cells hA.c (X1 := X1) (Kept.of t3) hA.m1 hA.ml, hA.m1, hA.ml⟩
  clear HIL t3 c0 c1 c2 c3 c4 hA
  by_cases ht : 1 ≤ x.typ ∧ x.typ ≤ 4
  rotate_left
  · have hdt : (decide (1 ≤ x.typ) && decide (x.typ ≤ 4)) = false := by simpa using ht
    go_wp2_with fail
    refine Calls.mono (need_f _ 28 _ (by first | rfl | exact hdt)) ?_
    rintro e w4 ⟨rfl, rfl⟩
    exact ⟨rfl, Or.inr ⟨rfl, ht, ((Kept.of HT0.out).trans A3.k).less (fun k _ hk => XX.out k hk)⟩⟩
  have hdt : (decide (1 ≤ x.typ) && decide (x.typ ≤ 4)) = true := by simpa using ht
  have HTY : Hid (1 ≤ x.typ ∧ x.typ ≤ 4) := ht
  clear ht
  go_upto_region 2 with (go_at_call 26; refine Calls.mono (need_t _ 28 _ (by first | rfl | exact hdt)) ?_; rintro e w4 ⟨rfl, rfl⟩)
  clear hdt
  have hI := OK.out.i
  have hD := OK.out.d
  have hC : 0 ≤ x.cost ∧ x.cost < 256 ^ (2 : Int).toNat := OK.out.c
  have A4 := A3.drew
  have B4 := A3.two.drew
  obtain ⟨e0, e1, e2, e3, e4⟩ := A4.c
  clear A3
  go_region_held3 (fun w' => w'.cell? ⟨g1, 0, none⟩ = some (.pointer (some ⟨b, 0, none⟩)) ∧ w'.cell? ⟨gl, 0, none⟩ = some (.int .u32 x.id) ∧ w'.cell? ⟨gl, 1, none⟩ = some (.int .u32 x.data) ∧ w'.cell? ⟨gl, 2, none⟩ = some (.int .u8 x.typ) ∧ w'.cell? ⟨gl, 3, none⟩ = some (.int .u16 x.cost)) (first | with_reducible exact ⟨e0, e1, e2, e3, e4⟩ | exact LnkA.c (by assumption) | exact LnkB.c (by assumption)) (first
    | (go_at_call 42; refine Calls.mono (lnkB_put hm (by assumption)) ?_; rintro e wp ⟨rfl, Ap⟩)
    | (go_at_call 54; refine Calls.mono (lnkA_num _ (by omega) _ hm (by first | exact hI | exact hD | exact hC) (by assumption)) ?_; rintro e wn ⟨rfl, An⟩; have Bn := An.two)
    | (go_at_call 54; refine Calls.mono (lnkB_num _ (by omega) _ hm (by first | exact hI | exact hD | exact hC) (by assumption)) ?_; rintro e wn ⟨rfl, Bn⟩))
  all_goals
    go_end0
    have e9 : Wr X _ b (L ++ numBytes 4 x.id ++ numBytes 4 x.data ++ [x.typ, 0] ++ numBytes 2 x.cost) most := (LnkA.wr (by assumption)).less XX.out
    have e8 := (LnkA.k (wx := _) (by assumption : LnkA X1 w2 b g1 gl x most _ (L ++ numBytes 4 x.id ++ numBytes 4 x.data ++ [x.typ, 0] ++ numBytes 2 x.cost)))
    exact Or.inl ⟨rfl, HTY.out, by simpa [linkB, List.append_assoc] using e9, ((Kept.of HT0.out).trans e8).less (fun k _ hk => XX.out k hk)⟩
end Go.Proofs.Ytfdpmlogieaiaaa
