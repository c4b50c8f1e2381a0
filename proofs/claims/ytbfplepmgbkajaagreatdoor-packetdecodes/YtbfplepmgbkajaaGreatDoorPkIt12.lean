/- Package packet's reader: items of 20 bytes. -/
import Derived.Test.YtbfplepmgbkajaaGreatDoorPkIt4
namespace Go.Proofs.YtbfplepmgbkajaaGreatDoor
open Go.RowKit
set_option linter.unusedVariables false
set_option maxRecDepth 100000

/-- Read, or given up. -/
structure ItP20 (N : Nat) (w : World) (b : Nat) (rs : List Int) (p : Nat) (e : Ending) (w' : World) : Prop where
 out : (∃ v, e = .returned v ∧ (rs.length - p) % 20 = 0 ∧ Rdr N w' b rs (some rs.length) ∧ w'.ownsRow w.heap.size 93 8 v (cuts 20 rdHead (rs.drop p)).length (headsC (cuts 20 rdHead (rs.drop p))) ∧ Touch (fun k => k = b) w w') ∨ (e = .panicked (pflawC 22) ∧ (rs.length - p) % 20 ≠ 0 ∧ Touch (fun k => k = b) w w')
structure ItR20 (N b : Nat) (rs : List Int) (p : Nat) (w : World) (gg : Nat) (s7 : Value) (wx : World) : Prop where
 out : ∃ (j : Nat) (va : Option Addr) (vc : Nat), j ≤ (rs.length - p) / 20 ∧ gg = (rs.length - p) / 20 - j ∧ s7 = .slice va j vc ∧ Rdr N wx b rs (some (p + 20 * j)) ∧ wx.ownsRow (w.heap.size + 1) 93 8 (.slice va j vc) j (headsC ((List.range j).map fun i => rdHead (cutAt 20 (rs.drop p) i))) ∧ Touch (fun k => k = b) w wx ∧ wx.cell? ⟨w.heap.size, 0, none⟩ = some (.pointer (some ⟨b, 0, none⟩)) ∧ w.heap.size < wx.heap.size

set_option maxHeartbeats 2000000 in
theorem pritems20 (N b p : Nat) (rs : List Int) (w : World) (h : Rdr N w b rs (some p)) (hN : N ≤ w.heap.size) (hc : rs.length ≤ 1000000) :
  Calls Tryz.prog 171 #[.agg #[.pointer (some ⟨b, 0, none⟩)], .int .i64 20, .func (.func 172) #[.agg #[.pointer (some ⟨b, 0, none⟩)]] #[]] w (ItP20 N w b rs p) := by
 have hb := h.lt
 have hple := h.ple
 have hne : ¬ w.heap.size = b := by omega
 have h0 := h.keep ((Touch.refl _ _).alloc (.cells #[.pointer (some ⟨b, 0, none⟩)] 189))
 have HL := left_t N b p rs _ h0
 have HBy : Hid (∀ z ∈ rs, 0 ≤ z ∧ z < 256) := h.byte
 have HNN : Hid (N ≤ w.heap.size) := hN
 have REL : Hid (∀ w', Touch (fun _ => False) (w.alloc (.cells #[.pointer (some ⟨b, 0, none⟩)] 189)) w' → ItR20 N b rs p w ((rs.length - p) / 20) (.slice none 0 0) w') := fun w' t => ⟨0, none, 0, by omega, by omega, rfl, h0.keep t, by have := World.ownsRow_nil w' (w.heap.size + 1) 93 8; simpa [headsC] using this, (((Touch.refl _ w).alloc _).trans' t (fun _ _ f => f.elim)), t.cellN (by simp [go_sem]), by have := t.size; simp at this; omega⟩
 have T0 : Hid (∀ w', Touch (fun _ => False) (w.alloc (.cells #[.pointer (some ⟨b, 0, none⟩)] 189)) w' → Touch (fun k => k = b) w w') := fun w' t => ((Touch.refl _ w).alloc _).trans' t (fun _ _ f => f.elim)
 obtain ⟨LV, hLV⟩ : ∃ LV : Nat, LV = rs.length - p := ⟨_, rfl⟩
 have hLV2 : (rs.length : Int) - p = (LV : Int) := by omega
 rw [hLV2] at HL
 have HLVe : Hid (LV = rs.length - p) := hLV
 have HPL : Hid (p ≤ rs.length) := hple
 clear h h0 hN hLV hLV2
 go_enter Tryz.func171, Tryz.ntmps171
 go_wp2_with fail
 refine Calls.mono HL ?_
 rintro e w1 ⟨rfl, t1⟩
 by_cases hm : LV % 20 = 0
 rotate_left
 ·have hmi : ¬ ((LV : Int) % 20 = 0) := by omega
  have hmb : (((LV : Int) % 20) == 0) = false := by simpa using hmi
  clear HL
  go_wp2_with fail
  refine Calls.mono (pneed_f _ 22 _ (by first | exact hmb | (simp; done) | simp [hmi])) ?_
  rintro e w2 ⟨rfl, rfl⟩
  exact ⟨rfl, ⟨Or.inr ⟨rfl, by rw [← HLVe.out]; exact hm, T0.out _ t1⟩⟩⟩
 have hmi : (LV : Int) % 20 = 0 := by omega
 have hmb : (((LV : Int) % 20) == 0) = true := by simpa using hmi
 have HM : Hid (LV % 20 = 0) := hm
 have RELw : Hid (ItR20 N b rs p w ((rs.length - p) / 20) (.slice none 0 0) w1) := REL.out _ t1
 clear HL REL T0 t1 hm hple
 go_wp2_with fail
 refine Calls.mono (pneed_t _ 22 _ (by first | exact hmb | (simp; done) | simp [hmi])) ?_
 rintro e w2 ⟨rfl, rfl⟩
 clear hmi hmb
 go_wp2_with fail
 go_loopg [7] ((rs.length - p) / 20) (fun gg s7 wx => ItR20 N b rs p w gg s7 wx)
 case atStart => exact RELw.out
 case round =>
  clear RELw
  obtain ⟨j, va, vc, hj, hgg, rfl, rr, ow, tw, cw, zw⟩ := hrel.out
  have HLj := left_t N b _ rs _ rr
  have hqq : (rs.length : Int) - ((p + 20 * j : Nat) : Int) = ((LV - 20 * j : Nat) : Int) := by have := HLVe.out; have := HPL.out; omega
  rw [hqq] at HLj
  have RR : Hid (Rdr N wr b rs (some (p + 20 * j))) := rr
  have OW : Hid (wr.ownsRow (w.heap.size + 1) 93 8 (.slice va j vc) j (headsC ((List.range j).map fun i => rdHead (cutAt 20 (rs.drop p) i)))) := ow
  have TW : Hid (Touch (fun k => k = b) w wr) := tw
  clear hrel rr ow tw hqq
  by_cases hlt : j < (rs.length - p) / 20
  ·have hfit : p + 20 * j + 20 ≤ rs.length := by have := HLVe.out; have := HPL.out; omega
   have hpos : (0 : Int) < ((LV - 20 * j : Nat) : Int) := by have := HLVe.out; omega
   generalize ((LV - 20 * j : Nat) : Int) = LJ at *
   go_wp2_with fail
   refine Calls.mono HLj ?_
   rintro e w2 ⟨rfl, t2⟩
   have R2 := RR.out.keep t2
   have O2 : Hid (w2.ownsRow (w.heap.size + 1) 93 8 (.slice va j vc) j (headsC ((List.range j).map fun i => rdHead (cutAt 20 (rs.drop p) i)))) := own_touch OW.out t2 (fun _ _ f => f)
   have T2 : Hid (Touch (fun k => k = b) w w2) := TW.out.trans' t2 (fun _ _ f => f.elim)
   have c2 := t2.cellN cw
   have z2 : w.heap.size < w2.heap.size := by have := t2.size; omega
   skip
   clear HLj RR OW TW cw zw t2
   go_wp2_with fail
   refine Calls.mono (prhead N b _ rs _ R2 (by have := HNN.out; omega) (by omega) hc _ rfl) ?_
   rintro e w3 ⟨rfl, r3, t3⟩
   have EX : Hid (rdHead (cutAt 20 (rs.drop p) j) = rdHead ((rs.drop (p + 20 * j)).take 20)) := by show _ = _; rw [cutAt_drop]
   generalize rdHead ((rs.drop (p + 20 * j)).take 20) = x at *
   have O3 : Hid (w3.ownsRow (w.heap.size + 1) 93 8 (.slice va j vc) j (headsC ((List.range j).map fun i => rdHead (cutAt 20 (rs.drop p) i)))) := own_touch O2.out t3 (fun k hk e => by have := (O2.out.lt k hk).1; omega)
   have T3 : Hid (Touch (fun k => k = b) w w3) := T2.out.trans t3
   have c3 : w3.cell? ⟨w.heap.size, 0, none⟩ = some (.pointer (some ⟨b, 0, none⟩)) := (t3.cell (p := ⟨w.heap.size, 0, none⟩) z2 hne).trans c2
   have z3 : w.heap.size < w3.heap.size := by have := t3.size; omega
   have R3 : Hid (Rdr N w3 b rs (some (p + 20 * j + 20))) := r3
   clear t3 r3 O2 T2 c2 z2 R2
   go_wp2_with (at_builtin; refine vapp_own rfl (.tmp 19) (.tmp 22) 27 rfl 93 8 20 (.agg #[.int .u16 0, .int .u8 0, .int .u8 0, .int .u32 0, .int .u32 0, .int .i32 0, .int .u16 0, .int .u16 0]) Tryz.underlying27 Tryz.infoH8 rfl (by decide) (by decide) (w.heap.size + 1) (.slice va j vc) j _ rfl (O3.out.alloc _) (by simp; omega) ⟨w3.heap.size, 0, none⟩ 1 1 ([.int .u16 x.age, .int .u8 x.opts, .int .u8 x.typ, .int .u32 x.id, .int .u32 x.adv, .int .i32 x.seq, .int .u16 x.sum, .int .u16 x.len]) rfl rfl ?c1 ?c2 ?c3 ?_)
   case c1 =>
    intro i u hi
    rw [add_plain]
    match i, hi with
    | 0, hi => cases hi; simp [go_sem]
    | 1, hi => cases hi; simp [go_sem]
    | 2, hi => cases hi; simp [go_sem]
    | 3, hi => cases hi; simp [go_sem]
    | 4, hi => cases hi; simp [go_sem]
    | 5, hi => cases hi; simp [go_sem]
    | 6, hi => cases hi; simp [go_sem]
    | 7, hi => cases hi; simp [go_sem]
    | i + 8, hi => simp at hi
   case c2 => intro u hu; simp at hu; rcases hu with rfl | rfl | rfl | rfl | rfl | rfl | rfl | rfl <;> rfl
   case c3 => omega
   intro v4 w4 o4 t4
   have T4 : Hid (Touch (fun k => k = b) w w4) := (T3.out.alloc _).trans' t4 (fun i hi e => by omega)
   have R4 : Hid (Rdr N w4 b rs (some (p + 20 * (j + 1)))) := by
    have := (R3.out.keep ((Touch.refl _ _).alloc _)).touch t4 (fun k hk e => by have := HNN.out; omega)
    rw [show p + 20 * (j + 1) = p + 20 * j + 20 by omega]
    exact this
   have c4 : w4.cell? ⟨w.heap.size, 0, none⟩ = some (.pointer (some ⟨b, 0, none⟩)) := (t4.cell (p := ⟨w.heap.size, 0, none⟩) (by show w.heap.size < _; simp; omega) (by show ¬ (w.heap.size + 1 ≤ w.heap.size); omega)).trans (((Touch.refl _ _).alloc _).cellN c3)
   have z4 : w.heap.size < w4.heap.size := by have := t4.size; simp at this; omega
   have O4 : Hid (w4.ownsRow (w.heap.size + 1) 93 8 v4 (j + 1) (headsC ((List.range (j + 1)).map fun i => rdHead (cutAt 20 (rs.drop p) i)))) := by
    show World.ownsRow _ _ _ _ _ _ _
    rw [range_snoc, headsC_snoc, EX.out]
    exact o4
   obtain ⟨va4, vc4, ev⟩ : ∃ a c, v4 = .slice a (j + 1) c := by
    rcases o4.2 with ⟨rfl, e⟩ | ⟨g, cap, cur, rfl, _⟩
    ·omega
    ·exact ⟨_, cap, rfl⟩
   subst ev
   clear o4 t4 O3 T3 R3 c3 z3
   go_wp2_with fail
   go_roundg ((rs.length - p) / 20 - (j + 1))
   case measure => omega
   case rel => exact ⟨j + 1, va4, vc4, by omega, by omega, rfl, R4.out, O4.out, T4.out, c4, z4⟩
  ·obtain rfl : j = (rs.length - p) / 20 := by omega
   have hz : ((LV - 20 * ((rs.length - p) / 20) : Nat) : Int) = 0 := by have := HLVe.out; have := HM.out; omega
   rw [hz] at HLj
   have hpe : p + 20 * ((rs.length - p) / 20) = rs.length := by have := HLVe.out; have := HM.out; have := HPL.out; omega
   go_wp2_with fail
   refine Calls.mono HLj ?_
   rintro e w2 ⟨rfl, t2⟩
   have FIN : Hid (ItP20 N w b rs p (.returned (.slice va ((rs.length - p) / 20) vc)) w2) := by
    refine ⟨Or.inl ⟨_, rfl, by rw [← HLVe.out]; exact HM.out, by have := RR.out.keep t2; rwa [hpe] at this, ?_, TW.out.trans' t2 (fun _ _ f => f.elim)⟩⟩
    have := own_lower (own_touch OW.out t2 (fun _ _ f => f)) (show w.heap.size ≤ w.heap.size + 1 by omega)
    unfold cuts
    rw [List.length_map, List.length_range, List.length_drop]
    exact this
   clear HLj
   go_wp2_with fail
   go_ret
   exact FIN.out
end Go.Proofs.YtbfplepmgbkajaaGreatDoor

namespace Go.Proofs.YtbfplepmgbkajaaGreatDoor
open Go.RowKit
set_option linter.unusedVariables false
set_option maxRecDepth 100000

/-- Read, or given up. -/
structure ItP12 (N : Nat) (w : World) (b : Nat) (rs : List Int) (p : Nat) (e : Ending) (w' : World) : Prop where
 out : (∃ v, e = .returned v ∧ (rs.length - p) % 12 = 0 ∧ (∀ k ∈ cuts 12 rdKey (rs.drop p), k.typ ≤ 255) ∧ Rdr N w' b rs (some rs.length) ∧ w'.ownsRow w.heap.size 125 3 v (cuts 12 rdKey (rs.drop p)).length (keysC (cuts 12 rdKey (rs.drop p))) ∧ Touch (fun k => k = b) w w') ∨ (e = .panicked (pflawC 22) ∧ (rs.length - p) % 12 ≠ 0 ∧ Touch (fun k => k = b) w w') ∨ (e = .panicked (pflawC 24) ∧ (rs.length - p) % 12 = 0 ∧ (∃ k ∈ cuts 12 rdKey (rs.drop p), 255 < k.typ) ∧ Touch (fun k => k = b) w w')
structure ItR12 (N b : Nat) (rs : List Int) (p : Nat) (w : World) (gg : Nat) (s7 : Value) (wx : World) : Prop where
 out : ∃ (j : Nat) (va : Option Addr) (vc : Nat), j ≤ (rs.length - p) / 12 ∧ gg = (rs.length - p) / 12 - j ∧ s7 = .slice va j vc ∧ Rdr N wx b rs (some (p + 12 * j)) ∧ wx.ownsRow (w.heap.size + 1) 125 3 (.slice va j vc) j (keysC ((List.range j).map fun i => rdKey (cutAt 12 (rs.drop p) i))) ∧ Touch (fun k => k = b) w wx ∧ wx.cell? ⟨w.heap.size, 0, none⟩ = some (.pointer (some ⟨b, 0, none⟩)) ∧ w.heap.size < wx.heap.size ∧ Hid (∀ i, i < j → (rdKey (cutAt 12 (rs.drop p) i)).typ ≤ 255)

set_option maxHeartbeats 2000000 in
theorem pritems12 (N b p : Nat) (rs : List Int) (w : World) (h : Rdr N w b rs (some p)) (hN : N ≤ w.heap.size) (hc : rs.length ≤ 1000000) :
  Calls Tryz.prog 173 #[.agg #[.pointer (some ⟨b, 0, none⟩)], .int .i64 12, .func (.func 174) #[.agg #[.pointer (some ⟨b, 0, none⟩)]] #[]] w (ItP12 N w b rs p) := by
 have hb := h.lt
 have hple := h.ple
 have hne : ¬ w.heap.size = b := by omega
 have h0 := h.keep ((Touch.refl _ _).alloc (.cells #[.pointer (some ⟨b, 0, none⟩)] 189))
 have HL := left_t N b p rs _ h0
 have HBy : Hid (∀ z ∈ rs, 0 ≤ z ∧ z < 256) := h.byte
 have HNN : Hid (N ≤ w.heap.size) := hN
 have REL : Hid (∀ w', Touch (fun _ => False) (w.alloc (.cells #[.pointer (some ⟨b, 0, none⟩)] 189)) w' → ItR12 N b rs p w ((rs.length - p) / 12) (.slice none 0 0) w') := fun w' t => ⟨0, none, 0, by omega, by omega, rfl, h0.keep t, by have := World.ownsRow_nil w' (w.heap.size + 1) 125 3; simpa [keysC] using this, (((Touch.refl _ w).alloc _).trans' t (fun _ _ f => f.elim)), t.cellN (by simp [go_sem]), by have := t.size; simp at this; omega, fun i hi => by omega⟩
 have T0 : Hid (∀ w', Touch (fun _ => False) (w.alloc (.cells #[.pointer (some ⟨b, 0, none⟩)] 189)) w' → Touch (fun k => k = b) w w') := fun w' t => ((Touch.refl _ w).alloc _).trans' t (fun _ _ f => f.elim)
 obtain ⟨LV, hLV⟩ : ∃ LV : Nat, LV = rs.length - p := ⟨_, rfl⟩
 have hLV2 : (rs.length : Int) - p = (LV : Int) := by omega
 rw [hLV2] at HL
 have HLVe : Hid (LV = rs.length - p) := hLV
 have HPL : Hid (p ≤ rs.length) := hple
 clear h h0 hN hLV hLV2
 go_enter Tryz.func173, Tryz.ntmps173
 go_wp2_with fail
 refine Calls.mono HL ?_
 rintro e w1 ⟨rfl, t1⟩
 by_cases hm : LV % 12 = 0
 rotate_left
 ·have hmi : ¬ ((LV : Int) % 12 = 0) := by omega
  have hmb : (((LV : Int) % 12) == 0) = false := by simpa using hmi
  clear HL
  go_wp2_with fail
  refine Calls.mono (pneed_f _ 22 _ (by first | exact hmb | (simp; done) | simp [hmi])) ?_
  rintro e w2 ⟨rfl, rfl⟩
  exact ⟨rfl, ⟨Or.inr (Or.inl ⟨rfl, by rw [← HLVe.out]; exact hm, T0.out _ t1⟩)⟩⟩
 have hmi : (LV : Int) % 12 = 0 := by omega
 have hmb : (((LV : Int) % 12) == 0) = true := by simpa using hmi
 have HM : Hid (LV % 12 = 0) := hm
 have RELw : Hid (ItR12 N b rs p w ((rs.length - p) / 12) (.slice none 0 0) w1) := REL.out _ t1
 clear HL REL T0 t1 hm hple
 go_wp2_with fail
 refine Calls.mono (pneed_t _ 22 _ (by first | exact hmb | (simp; done) | simp [hmi])) ?_
 rintro e w2 ⟨rfl, rfl⟩
 clear hmi hmb
 go_wp2_with fail
 go_loopg [7] ((rs.length - p) / 12) (fun gg s7 wx => ItR12 N b rs p w gg s7 wx)
 case atStart => exact RELw.out
 case round =>
  clear RELw
  obtain ⟨j, va, vc, hj, hgg, rfl, rr, ow, tw, cw, zw, hpre⟩ := hrel.out
  have HLj := left_t N b _ rs _ rr
  have hqq : (rs.length : Int) - ((p + 12 * j : Nat) : Int) = ((LV - 12 * j : Nat) : Int) := by have := HLVe.out; have := HPL.out; omega
  rw [hqq] at HLj
  have RR : Hid (Rdr N wr b rs (some (p + 12 * j))) := rr
  have OW : Hid (wr.ownsRow (w.heap.size + 1) 125 3 (.slice va j vc) j (keysC ((List.range j).map fun i => rdKey (cutAt 12 (rs.drop p) i)))) := ow
  have TW : Hid (Touch (fun k => k = b) w wr) := tw
  clear hrel rr ow tw hqq
  by_cases hlt : j < (rs.length - p) / 12
  ·have hfit : p + 12 * j + 12 ≤ rs.length := by have := HLVe.out; have := HPL.out; omega
   have hpos : (0 : Int) < ((LV - 12 * j : Nat) : Int) := by have := HLVe.out; omega
   generalize ((LV - 12 * j : Nat) : Int) = LJ at *
   go_wp2_with fail
   refine Calls.mono HLj ?_
   rintro e w2 ⟨rfl, t2⟩
   have R2 := RR.out.keep t2
   have O2 : Hid (w2.ownsRow (w.heap.size + 1) 125 3 (.slice va j vc) j (keysC ((List.range j).map fun i => rdKey (cutAt 12 (rs.drop p) i)))) := own_touch OW.out t2 (fun _ _ f => f)
   have T2 : Hid (Touch (fun k => k = b) w w2) := TW.out.trans' t2 (fun _ _ f => f.elim)
   have c2 := t2.cellN cw
   have z2 : w.heap.size < w2.heap.size := by have := t2.size; omega
   skip
   clear HLj RR OW TW cw zw t2
   go_wp2_with fail
   refine Calls.mono (prkey N b _ rs _ R2 (by have := HNN.out; omega) (by omega)) ?_
   intro e w3 h3
   have EK : rdKey (cutAt 12 (rs.drop p) j) = ⟨nAt rs (p + 12 * j) 4, nAt rs (p + 12 * j + 4) 4, nAt rs (p + 12 * j + 8) 4⟩ := rdKey_at rs p j
   rcases h3.out with ⟨rfl, l3, r3, t3⟩ | ⟨rfl, l3, t3⟩
   rotate_left
   ·exact ⟨rfl, ⟨Or.inr (Or.inr ⟨rfl, by rw [← HLVe.out]; exact HM.out, ⟨_, mem_cuts_at (k := 12) (f := rdKey) (c := rs.drop p) (i := j) (by rw [List.length_drop]; omega), by rw [EK]; exact l3⟩, T2.out.trans t3⟩)⟩⟩
   have KJ : Hid (∀ i, i < j + 1 → (rdKey (cutAt 12 (rs.drop p) i)).typ ≤ 255) := by
    intro i hi
    by_cases e : i = j
    ·subst e; rw [EK]; exact l3
    ·exact hpre.out i (by omega)
   have EX : Hid (rdKey (cutAt 12 (rs.drop p) j) = ⟨nAt rs (p + 12 * j) 4, nAt rs (p + 12 * j + 4) 4, nAt rs (p + 12 * j + 8) 4⟩) := EK
   clear EK
   generalize nAt rs (p + 12 * j) 4 = x0 at *
   generalize nAt rs (p + 12 * j + 4) 4 = x1 at *
   generalize nAt rs (p + 12 * j + 8) 4 = x2 at *
   clear h3 l3
   have O3 : Hid (w3.ownsRow (w.heap.size + 1) 125 3 (.slice va j vc) j (keysC ((List.range j).map fun i => rdKey (cutAt 12 (rs.drop p) i)))) := own_touch O2.out t3 (fun k hk e => by have := (O2.out.lt k hk).1; omega)
   have T3 : Hid (Touch (fun k => k = b) w w3) := T2.out.trans t3
   have c3 : w3.cell? ⟨w.heap.size, 0, none⟩ = some (.pointer (some ⟨b, 0, none⟩)) := (t3.cell (p := ⟨w.heap.size, 0, none⟩) z2 hne).trans c2
   have z3 : w.heap.size < w3.heap.size := by have := t3.size; omega
   have R3 : Hid (Rdr N w3 b rs (some (p + 12 * j + 12))) := r3
   clear t3 r3 O2 T2 c2 z2 R2
   go_wp2_with (at_builtin; refine vapp_own rfl (.tmp 19) (.tmp 22) 30 rfl 125 3 12 (.agg #[.int .u8 0, .int .u32 0, .int .u32 0]) Tryz.underlying30 Tryz.infoK3 rfl (by decide) (by decide) (w.heap.size + 1) (.slice va j vc) j _ rfl (O3.out.alloc _) (by simp; omega) ⟨w3.heap.size, 0, none⟩ 1 1 ([.int .u8 x0, .int .u32 x1, .int .u32 x2]) rfl rfl ?c1 ?c2 ?c3 ?_)
   case c1 =>
    intro i u hi
    rw [add_plain]
    match i, hi with
    | 0, hi => cases hi; simp [go_sem]
    | 1, hi => cases hi; simp [go_sem]
    | 2, hi => cases hi; simp [go_sem]
    | i + 3, hi => simp at hi
   case c2 => intro u hu; simp at hu; rcases hu with rfl | rfl | rfl <;> rfl
   case c3 => omega
   intro v4 w4 o4 t4
   have T4 : Hid (Touch (fun k => k = b) w w4) := (T3.out.alloc _).trans' t4 (fun i hi e => by omega)
   have R4 : Hid (Rdr N w4 b rs (some (p + 12 * (j + 1)))) := by
    have := (R3.out.keep ((Touch.refl _ _).alloc _)).touch t4 (fun k hk e => by have := HNN.out; omega)
    rw [show p + 12 * (j + 1) = p + 12 * j + 12 by omega]
    exact this
   have c4 : w4.cell? ⟨w.heap.size, 0, none⟩ = some (.pointer (some ⟨b, 0, none⟩)) := (t4.cell (p := ⟨w.heap.size, 0, none⟩) (by show w.heap.size < _; simp; omega) (by show ¬ (w.heap.size + 1 ≤ w.heap.size); omega)).trans (((Touch.refl _ _).alloc _).cellN c3)
   have z4 : w.heap.size < w4.heap.size := by have := t4.size; simp at this; omega
   have O4 : Hid (w4.ownsRow (w.heap.size + 1) 125 3 v4 (j + 1) (keysC ((List.range (j + 1)).map fun i => rdKey (cutAt 12 (rs.drop p) i)))) := by
    show World.ownsRow _ _ _ _ _ _ _
    rw [range_snoc, keysC_snoc, EX.out]
    exact o4
   obtain ⟨va4, vc4, ev⟩ : ∃ a c, v4 = .slice a (j + 1) c := by
    rcases o4.2 with ⟨rfl, e⟩ | ⟨g, cap, cur, rfl, _⟩
    ·omega
    ·exact ⟨_, cap, rfl⟩
   subst ev
   clear o4 t4 O3 T3 R3 c3 z3
   go_wp2_with fail
   go_roundg ((rs.length - p) / 12 - (j + 1))
   case measure => omega
   case rel => exact ⟨j + 1, va4, vc4, by omega, by omega, rfl, R4.out, O4.out, T4.out, c4, z4, KJ.out⟩
  ·obtain rfl : j = (rs.length - p) / 12 := by omega
   have hz : ((LV - 12 * ((rs.length - p) / 12) : Nat) : Int) = 0 := by have := HLVe.out; have := HM.out; omega
   rw [hz] at HLj
   have hpe : p + 12 * ((rs.length - p) / 12) = rs.length := by have := HLVe.out; have := HM.out; have := HPL.out; omega
   go_wp2_with fail
   refine Calls.mono HLj ?_
   rintro e w2 ⟨rfl, t2⟩
   have FIN : Hid (ItP12 N w b rs p (.returned (.slice va ((rs.length - p) / 12) vc)) w2) := by
    refine ⟨Or.inl ⟨_, rfl, by rw [← HLVe.out]; exact HM.out, ?kk, by have := RR.out.keep t2; rwa [hpe] at this, ?_, TW.out.trans' t2 (fun _ _ f => f.elim)⟩⟩
    case kk =>
     intro k hk
     obtain ⟨i, hi, rfl⟩ := mem_cuts hk
     exact hpre.out i (by rw [List.length_drop] at hi; omega)
    have := own_lower (own_touch OW.out t2 (fun _ _ f => f)) (show w.heap.size ≤ w.heap.size + 1 by omega)
    unfold cuts
    rw [List.length_map, List.length_range, List.length_drop]
    exact this
   clear HLj
   go_wp2_with fail
   go_ret
   exact FIN.out
end Go.Proofs.YtbfplepmgbkajaaGreatDoor
