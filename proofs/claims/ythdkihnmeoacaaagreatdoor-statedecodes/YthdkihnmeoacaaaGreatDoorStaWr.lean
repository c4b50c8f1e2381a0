/- EqState where both are the same. -/
import Derived.Test.YthdkihnmeoacaaaGreatDoorRefRdH
import Derived.Test.YthdkihnmeoacaaaGreatDoorRefRead
import Derived.Deep.RegionHeld2
import Derived.Deep.RegionHeld3
import Derived.Test.YthdkihnmeoacaaaGreatDoorStaRd
namespace Go.Proofs.YthdkihnmeoacaaaGreatDoor
open Go.RowKit
set_option linter.unusedVariables false
set_option maxRecDepth 100000

/-- Two states that are the same. -/
theorem estate_true (h : HV) (va vb : Value) (rs : List Int) (w : World) (ha : RowAt w va rs) (hb : ArgAt w vb rs) : Calls Tryz.prog 11 #[h.sv va, h.sv vb] w fun e w' => e = .returned (.bool true) ∧ Touch (fun _ => False) w w' := by
  obtain ⟨aa, ca, rfl, _⟩ := rowAt_form ha
  obtain ⟨ab, cb, rfl, _⟩ := hb.form
  have HE := fun w ha hb => eq_true (.slice aa rs.length ca) (.slice ab rs.length cb) rs w ha hb
  have HA : Hid (RowAt w (.slice aa rs.length ca) rs) := ha
  have HB : Hid (ArgAt w (.slice ab rs.length cb) rs) := hb
  clear ha hb
  show Calls Tryz.prog 11 #[.agg #[.int .u16 h.age, .int .u8 h.opts, .int .u8 h.typ, .int .u32 h.id, .int .u32 h.adv, .int .i32 h.seq, .int .u16 h.sum, .int .u16 h.len, .slice aa rs.length ca], .agg #[.int .u16 h.age, .int .u8 h.opts, .int .u8 h.typ, .int .u32 h.id, .int .u32 h.adv, .int .i32 h.seq, .int .u16 h.sum, .int .u16 h.len, .slice ab rs.length cb]] w _
  go_enter Tryz.func11, Tryz.ntmps11
  go_wp2_with fail
  refine Calls.mono (HE _ (HA.out.touch (((Touch.refl (fun _ => False) w).alloc _).alloc _) (fun _ _ h => h)) (HB.out.keepN (((Touch.refl _ w).alloc _).alloc _))) ?_
  rintro e w1 ⟨rfl, nd, rfl⟩
  go_wp2
  go_ret
  exact ⟨rfl, (((Touch.refl _ w).alloc _).alloc _).drewN nd⟩
end Go.Proofs.YthdkihnmeoacaaaGreatDoor

namespace Go.Proofs.YthdkihnmeoacaaaGreatDoor
open Go.RowKit
set_option linter.unusedVariables false
set_option maxRecDepth 100000

end Go.Proofs.YthdkihnmeoacaaaGreatDoor

namespace Go.Proofs.YthdkihnmeoacaaaGreatDoor
open Go.RowKit
set_option linter.unusedVariables false
set_option maxRecDepth 100000

/-- What was kept but for a block. -/
def but (X : Nat → Prop) (g : Nat) : Nat → Prop := fun k => X k ∧ k ≠ g
theorem Kept.store {X : Nat → Prop} {w : World} (g i : Nat) (u : Value) : Kept (but X g) w (w.setCell ⟨g, i, none⟩ u) :=
  Touch.setCell (F := fun k => ¬ but X g k) (p := ⟨g, i, none⟩) (Touch.refl _ _) (Or.inl (fun h => h.2 rfl)) u
theorem Kept.but {X : Nat → Prop} {w w' : World} (k : Kept X w w') (g : Nat) : Kept (but X g) w w' := k.less (fun i _ h => h.1)
theorem Wr.store {X : Nat → Prop} {w : World} {b : Nat} {L : List Int} {most : Int} (h : Wr X w b L most) {g : Nat} (hg : X g) (i : Nat) (u : Value) : Wr X (w.setCell ⟨g, i, none⟩ u) b L most :=
  h.touch (Touch.setCell (F := fun k => k = g) (p := ⟨g, i, none⟩) (Touch.refl _ _) (Or.inl rfl) u) (fun k hk => hk ▸ hg)
set_option maxHeartbeats 2000000 in
theorem wsum_ok (X : Nat → Prop) (b g : Nat) (L : List Int) (most : Int) (B : BV) (vl vr vd : Value) (ok : B.Ok) (w : World) (hw : Wr X w b L most) (hm : most ≤ 1048576) (hg : X g) (hB : OutB w g B vl vr vd)
    (hp : pbok B.mask = true) (hq : B.metric ≤ 16777215) :
    Calls Tryz.prog 122 #[.agg #[.pointer (some ⟨b, 0, none⟩)], .pointer (some ⟨g, 0, none⟩)] w fun e w' => e = .returned (.tuple #[]) ∧ Wr X w' b (L ++ numBytes 4 B.mask ++ [0] ++ numBytes 3 B.metric) most ∧ OutB w' g { B with mask := 0, metric := 0 } vl vr vd ∧ Kept (but X g) w w' := by
  have OK : Hid B.Ok := ok
  have hgl := hB.lt
  go_enter Tryz.func122, Tryz.ntmps122
  go_upto_region 1 with fail
  obtain ⟨X1, hX1⟩ : ∃ X1 : Nat → Prop, X1 = fun k => X k ∨ k = w.heap.size := ⟨_, rfl⟩
  have XG : Hid (X1 g) := by show X1 g; rw [hX1]; exact Or.inl hg
  have XM : Hid (X1 w.heap.size) := by show X1 _; rw [hX1]; exact Or.inr rfl
  have XX : Hid (∀ k, X k → X1 k) := by show ∀ k, _; rw [hX1]; exact fun k hk => Or.inl hk
  have ta : Touch (fun _ => False) w (w.alloc (.cells #[.pointer (some ⟨b, 0, none⟩)] 112)).drew := ((Touch.refl _ w).alloc _).drew
  have hW : Wr X1 (w.alloc (.cells #[.pointer (some ⟨b, 0, none⟩)] 112)).drew b L most := hw.more ta (fun k hk => by rw [hX1] at hk; rcases hk with hk | hk; exact Or.inl hk; exact Or.inr ⟨by omega, by simp [World.drew]; omega⟩)
  have OB := hB.keep ta
  have c0 : (w.alloc (.cells #[.pointer (some ⟨b, 0, none⟩)] 112)).drew.cell? ⟨w.heap.size, 0, none⟩ = some (.pointer (some ⟨b, 0, none⟩)) := by simp [go_sem]
  have hne : ¬ w.heap.size = g := by omega
  have hne' : ¬ g = w.heap.size := by omega
  have HTA : Hid (Touch (fun _ => False) w (w.alloc (.cells #[.pointer (some ⟨b, 0, none⟩)] 112))) := (Touch.refl _ w).alloc _
  clear hX1 hw hB ta
  generalize (w.alloc (.cells #[.pointer (some ⟨b, 0, none⟩)] 112)) = w1 at *
  generalize w.heap.size = g1 at *
  have dw1 : w1.drew.cell? ⟨g, 2, none⟩ = some (.int .u32 B.mask) := OB.bd.c2
  have fw1 : w1.drew.frozen? ⟨g, 2, none⟩ = false := OB.fz 2 (by omega)
  have HWtw1 : Hid (Wr X1 (w1.drew.setCell ⟨g, 2, none⟩ (.int .u32 0)) b L most) := hW.store XG.out _ _
  have HOtw1 : Hid (OutB (w1.drew.setCell ⟨g, 2, none⟩ (.int .u32 0)) g { B with mask := 0 } vl vr vd) := OB.set2
  have HKtw1 : Hid (Kept (but X1 g) w1.drew (w1.drew.setCell ⟨g, 2, none⟩ (.int .u32 0))) := Kept.store _ _ _
  have HCtw1 : Hid ((w1.drew.setCell ⟨g, 2, none⟩ (.int .u32 0)).cell? ⟨g1, 0, none⟩ = some (.pointer (some ⟨b, 0, none⟩))) := HKtw1.out.cell c0 ⟨XM.out, hne⟩
  have HKw1 : Hid (Kept (but X1 g) w1 w1.drew) := Kept.of ((Touch.refl _ _).drew)
  go_region_held3 (fun w' => w'.cell? ⟨g1, 0, none⟩ = some (.pointer (some ⟨b, 0, none⟩))) (go_keep) (first
    | (go_at_call 131; refine Calls.mono (take_u32 g 2 B.mask _ (by assumption) (by assumption)) ?_; rintro e wx ⟨rfl, hwx⟩; have yx : wx.cell? ⟨g1, 0, none⟩ = some (.pointer (some ⟨b, 0, none⟩)) := hwx ▸ HCtw1.out; have HWx : Hid (Wr X1 wx b L most) := hwx ▸ HWtw1; have HOx : Hid (OutB wx g { B with mask := 0 } vl vr vd) := hwx ▸ HOtw1; have HKx : Hid (Kept (but X1 g) w1.drew wx) := hwx ▸ HKtw1; clear hwx)
    | (go_at_call 130; refine Calls.mono (wmask_ok X1 b L most B.mask _ HWx.out hm OK.out.m.1 OK.out.m.2 hp) ?_; rintro e w2 ⟨rfl, hw2, k2⟩; have yw2 : w2.cell? ⟨g1, 0, none⟩ = some (.pointer (some ⟨b, 0, none⟩)) := k2.cell yx XM.out; have HWw2 : Hid (Wr X1 w2 b (L ++ numBytes 4 B.mask) most) := hw2; have HOw2 : Hid (OutB w2 g { B with mask := 0 } vl vr vd) := HOx.out.kept k2 XG.out; have HKw2 : Hid (Kept (but X1 g) w1 w2) := HKw1.out.trans (HKx.out.trans (k2.but g)); clear hw2 k2))
  clear dw1 fw1 HWtw1 HOtw1 HKtw1 HCtw1 yx HWx HOx HKx
  go_wp2_with fail
  refine Calls.mono (put_some X1 b _ most ⟨w2.heap.size, 0, none⟩ 1 [0] _ (HWw2.out.keep ((Touch.refl _ _).alloc _)) hm (src_new _ _ _ _ _ (by simp [bytesOf])) (by simp)) ?_
  rintro e w3 ⟨rfl, hw3, k3⟩
  have ta3 : Touch (fun _ => False) w2 (w2.alloc (.cells #[.int .u8 0] 5)) := (Touch.refl _ _).alloc _
  have c3 := k3.cell (p := ⟨g1, 0, none⟩) (v := .pointer (some ⟨b, 0, none⟩)) (ta3.cellN yw2) XM.out
  have OB3 := (HOw2.out.keep ta3).kept k3 XG.out
  have HK3 : Hid (Kept (but X1 g) w1 w3) := HKw2.out.trans ((Kept.of ta3).trans (k3.but g))
  have c3d : w3.drew.cell? ⟨g1, 0, none⟩ = some (.pointer (some ⟨b, 0, none⟩)) := c3
  have OB3d := OB3.keep ((Touch.refl (fun _ => False) w3).drew)
  have hW3 := hw3.keep ((Touch.refl (fun _ => False) w3).drew)
  clear ta3 k3 yw2 c3 hw3 OB3
  go_upto_region 3 with fail
  have dw3 : w3.drew.cell? ⟨g, 4, none⟩ = some (.int .u32 B.metric) := OB3d.bd.c4
  have fw3 : w3.drew.frozen? ⟨g, 4, none⟩ = false := OB3d.fz 4 (by omega)
  have HWtw3 : Hid (Wr X1 (w3.drew.setCell ⟨g, 4, none⟩ (.int .u32 0)) b (L ++ numBytes 4 B.mask ++ [0]) most) := hW3.store XG.out _ _
  have HOtw3 : Hid (OutB (w3.drew.setCell ⟨g, 4, none⟩ (.int .u32 0)) g { { B with mask := 0 } with metric := 0 } vl vr vd) := OB3d.set4
  have HKtw3 : Hid (Kept (but X1 g) w3.drew (w3.drew.setCell ⟨g, 4, none⟩ (.int .u32 0))) := Kept.store _ _ _
  have HCtw3 : Hid ((w3.drew.setCell ⟨g, 4, none⟩ (.int .u32 0)).cell? ⟨g1, 0, none⟩ = some (.pointer (some ⟨b, 0, none⟩))) := HKtw3.out.cell c3d ⟨XM.out, hne⟩
  have HKw3 : Hid (Kept (but X1 g) w3 w3.drew) := Kept.of ((Touch.refl _ _).drew)
  go_region_held3 (fun w' => w'.cell? ⟨g1, 0, none⟩ = some (.pointer (some ⟨b, 0, none⟩))) (go_keep) (first
    | (go_at_call 131; refine Calls.mono (take_u32 g 4 B.metric _ (by assumption) (by assumption)) ?_; rintro e wx ⟨rfl, hwx⟩; have yx : wx.cell? ⟨g1, 0, none⟩ = some (.pointer (some ⟨b, 0, none⟩)) := hwx ▸ HCtw3.out; have HWx : Hid (Wr X1 wx b (L ++ numBytes 4 B.mask ++ [0]) most) := hwx ▸ HWtw3; have HOx : Hid (OutB wx g { { B with mask := 0 } with metric := 0 } vl vr vd) := hwx ▸ HOtw3; have HKx : Hid (Kept (but X1 g) w3.drew wx) := hwx ▸ HKtw3; clear hwx)
    | (go_at_call 133; refine Calls.mono (wmetric_ok X1 b (L ++ numBytes 4 B.mask ++ [0]) most B.metric _ HWx.out hm OK.out.e.1 OK.out.e.2 hq) ?_; rintro e w4 ⟨rfl, hw2, k2⟩; have yw4 : w4.cell? ⟨g1, 0, none⟩ = some (.pointer (some ⟨b, 0, none⟩)) := k2.cell yx XM.out; have HWw4 : Hid (Wr X1 w4 b ((L ++ numBytes 4 B.mask ++ [0]) ++ numBytes 3 B.metric) most) := hw2; have HOw4 : Hid (OutB w4 g { { B with mask := 0 } with metric := 0 } vl vr vd) := HOx.out.kept k2 XG.out; have HKw4 : Hid (Kept (but X1 g) w3 w4) := HKw3.out.trans (HKx.out.trans (k2.but g)); clear hw2 k2))
  clear dw3 fw3 HWtw3 HOtw3 HKtw3 HCtw3 yx HWx HOx HKx
  clear yw4
  go_wp2
  go_end0
  refine ⟨rfl, HWw4.out.less XX.out, HOw4.out, ?_⟩
  have hk : Kept (but X1 g) w w4 := (Kept.of HTA.out).trans (HK3.out.trans HKw4.out)
  exact hk.less (fun k _ h => ⟨XX.out k h.1, h.2⟩)
end Go.Proofs.YthdkihnmeoacaaaGreatDoor

namespace Go.Proofs.YthdkihnmeoacaaaGreatDoor
set_option linter.unusedVariables false
set_option maxRecDepth 100000

/-- Is nothing in it? -/
def bareB (b : BV) : Bool := ((b.links.length : Int) + b.routers.length + b.data.length == 0) && (b.flags == 0) && (b.mask == 0) && (b.metric == 0) && (!b.type2) && (b.fwd == 0) && (b.tag == 0)
theorem bareB_iff (b : BV) : bareB b = true ↔ (b.links.length = 0 ∧ b.routers.length = 0 ∧ b.data.length = 0 ∧ b.flags = 0 ∧ b.mask = 0 ∧ b.metric = 0 ∧ b.type2 = false ∧ b.fwd = 0 ∧ b.tag = 0) := by
  unfold bareB
  simp only [Bool.and_eq_true, beq_iff_eq, Bool.not_eq_true']
  constructor
  · rintro ⟨⟨⟨⟨⟨⟨h1, h2⟩, h3⟩, h4⟩, h5⟩, h6⟩, h7⟩
    exact ⟨by omega, by omega, by omega, h2, h3, h4, h5, h6, h7⟩
  · rintro ⟨h1, h2, h3, h4, h5, h6, h7, h8, h9⟩
    exact ⟨⟨⟨⟨⟨⟨by omega, h4⟩, h5⟩, h6⟩, h7⟩, h8⟩, h9⟩
theorem may1 {B : BV} (hl : ∀ x ∈ B.links, 1 ≤ x.typ ∧ x.typ ≤ 4) : bareB { B with links := [], flags := 0 } = mayB 1 B := by
  rw [Bool.eq_iff_iff, bareB_iff, mayB_iff]
  constructor
  · rintro ⟨-, h2, h3, -, h5, h6, h7, h8, h9⟩
    dsimp only at h2 h3 h5 h6 h7 h8 h9
    exact ⟨Or.inl rfl, Or.inr h2, by omega, by omega, Or.inr (Or.inr ⟨h7, h8, h9⟩), Or.inr h3, by rw [h5]; exact pbok_zero, by omega, by omega, by omega, hl⟩
  · rintro ⟨a1, a2, a3, a4, a5, a6, -, -, -, -, -⟩
    obtain ⟨h7, h8, h9⟩ : B.type2 = false ∧ B.fwd = 0 ∧ B.tag = 0 := by rcases a5 with h | h | h; omega; omega; exact h
    exact ⟨rfl, by dsimp only; omega, by dsimp only; omega, rfl, by dsimp only; omega, by dsimp only; omega, h7, h8, h9⟩
theorem may1_no {B : BV} {x : LV} (hx : x ∈ B.links) (hl : ¬ (1 ≤ x.typ ∧ x.typ ≤ 4)) : mayB 1 B = false := by
  rw [Bool.eq_false_iff]
  exact fun h => hl (((mayB_iff _ _).1 h).lin x hx)
theorem may2 {B : BV} (hm : pbok B.mask = true) (hr : 0 < B.routers.length) : bareB { B with mask := 0, routers := [] } = mayB 2 B := by
  rw [Bool.eq_iff_iff, bareB_iff, mayB_iff]
  constructor
  · rintro ⟨h1, -, h3, h4, -, h6, h7, h8, h9⟩
    dsimp only at h1 h3 h4 h6 h7 h8 h9
    exact ⟨Or.inr ⟨h4, h1⟩, Or.inl rfl, Or.inl rfl, by omega, Or.inr (Or.inr ⟨h7, h8, h9⟩), Or.inr h3, hm, by omega, by omega, fun _ => hr, by rw [List.length_eq_zero_iff.1 h1]; simp⟩
  · rintro ⟨a1, a2, a3, a4, a5, a6, -, -, -, -, -⟩
    obtain ⟨h7, h8, h9⟩ : B.type2 = false ∧ B.fwd = 0 ∧ B.tag = 0 := by rcases a5 with h | h | h; omega; omega; exact h
    exact ⟨by dsimp only; omega, rfl, by dsimp only; omega, by dsimp only; omega, rfl, by dsimp only; omega, h7, h8, h9⟩
theorem may_mask_no {t : Int} {B : BV} (hm : pbok B.mask = false) : mayB t B = false := by
  rw [Bool.eq_false_iff]
  intro h
  have := ((mayB_iff _ _).1 h).mask
  rw [hm] at this
  cases this
theorem may_metric_no {t : Int} {B : BV} (hm : ¬ B.metric ≤ 16777215) : mayB t B = false := by
  rw [Bool.eq_false_iff]
  exact fun h => hm ((mayB_iff _ _).1 h).met
theorem may_data_no {t : Int} {B : BV} (hm : ¬ B.data.length % 4 = 0) : mayB t B = false := by
  rw [Bool.eq_false_iff]
  exact fun h => hm ((mayB_iff _ _).1 h).dat
theorem may2_no {B : BV} (hr : ¬ 0 < B.routers.length) : mayB 2 B = false := by
  rw [Bool.eq_false_iff]
  exact fun h => hr (((mayB_iff _ _).1 h).rou rfl)
theorem may3 {B : BV} (hm : pbok B.mask = true) (he : B.metric ≤ 16777215) : bareB { B with mask := 0, metric := 0 } = mayB 3 B := by
  rw [Bool.eq_iff_iff, bareB_iff, mayB_iff]
  constructor
  · rintro ⟨h1, h2, h3, h4, -, -, h7, h8, h9⟩
    dsimp only at h1 h2 h3 h4 h7 h8 h9
    exact ⟨Or.inr ⟨h4, h1⟩, Or.inr h2, by omega, by omega, Or.inr (Or.inr ⟨h7, h8, h9⟩), Or.inr h3, hm, he, by omega, by omega, by rw [List.length_eq_zero_iff.1 h1]; simp⟩
  · rintro ⟨a1, a2, a3, a4, a5, a6, -, -, -, -, -⟩
    obtain ⟨h7, h8, h9⟩ : B.type2 = false ∧ B.fwd = 0 ∧ B.tag = 0 := by rcases a5 with h | h | h; omega; omega; exact h
    exact ⟨by dsimp only; omega, by dsimp only; omega, by dsimp only; omega, by dsimp only; omega, rfl, rfl, h7, h8, h9⟩
theorem may4 {B : BV} (he : B.metric ≤ 16777215) : bareB { B with metric := 0 } = mayB 4 B := by
  rw [Bool.eq_iff_iff, bareB_iff, mayB_iff]
  constructor
  · rintro ⟨h1, h2, h3, h4, h5, -, h7, h8, h9⟩
    dsimp only at h1 h2 h3 h4 h5 h7 h8 h9
    exact ⟨Or.inr ⟨h4, h1⟩, Or.inr h2, by omega, by omega, Or.inr (Or.inr ⟨h7, h8, h9⟩), Or.inr h3, by rw [h5]; exact pbok_zero, he, by omega, by omega, by rw [List.length_eq_zero_iff.1 h1]; simp⟩
  · rintro ⟨a1, a2, a3, a4, a5, a6, -, -, -, -, -⟩
    obtain ⟨h7, h8, h9⟩ : B.type2 = false ∧ B.fwd = 0 ∧ B.tag = 0 := by rcases a5 with h | h | h; omega; omega; exact h
    exact ⟨by dsimp only; omega, by dsimp only; omega, by dsimp only; omega, by dsimp only; omega, by dsimp only; omega, rfl, h7, h8, h9⟩
theorem may5 {t : Int} {B : BV} (ht : t = 5 ∨ t = 7) (hm : pbok B.mask = true) (he : B.metric ≤ 16777215) : bareB { B with mask := 0, type2 := false, metric := 0, fwd := 0, tag := 0 } = mayB t B := by
  rw [Bool.eq_iff_iff, bareB_iff, mayB_iff]
  constructor
  · rintro ⟨h1, h2, h3, h4, -, -, -, -, -⟩
    dsimp only at h1 h2 h3 h4
    exact ⟨Or.inr ⟨h4, h1⟩, Or.inr h2, by omega, by omega, by omega, Or.inr h3, hm, he, by omega, by omega, by rw [List.length_eq_zero_iff.1 h1]; simp⟩
  · rintro ⟨a1, a2, a3, a4, a5, a6, -, -, -, -, -⟩
    exact ⟨by dsimp only; omega, by dsimp only; omega, by dsimp only; omega, by dsimp only; omega, rfl, rfl, rfl, rfl, rfl⟩
theorem may9 {t : Int} {B : BV} (ht : 9 ≤ t) (hd : B.data.length % 4 = 0) : bareB { B with data := [] } = mayB t B := by
  rw [Bool.eq_iff_iff, bareB_iff, mayB_iff]
  constructor
  · rintro ⟨h1, h2, -, h4, h5, h6, h7, h8, h9⟩
    dsimp only at h1 h2 h4 h5 h6 h7 h8 h9
    exact ⟨Or.inr ⟨h4, h1⟩, Or.inr h2, by omega, by omega, Or.inr (Or.inr ⟨h7, h8, h9⟩), Or.inl ht, by rw [h5]; exact pbok_zero, by omega, hd, by omega, by rw [List.length_eq_zero_iff.1 h1]; simp⟩
  · rintro ⟨a1, a2, a3, a4, a5, a6, -, -, -, -, -⟩
    obtain ⟨h7, h8, h9⟩ : B.type2 = false ∧ B.fwd = 0 ∧ B.tag = 0 := by rcases a5 with h | h | h; omega; omega; exact h
    exact ⟨by dsimp only; omega, by dsimp only; omega, rfl, by dsimp only; omega, by dsimp only; omega, by dsimp only; omega, h7, h8, h9⟩
theorem num4_3 {x : Int} (h0 : 0 ≤ x) (h : x ≤ 16777215) : numBytes 4 x = 0 :: numBytes 3 x := by
  rw [numBytes4, numBytes3]
  congr 1
  omega
theorem num4_128 {x : Int} (h0 : 0 ≤ x) (h : x ≤ 16777215) : numBytes 4 ((x + 2147483648) % 4294967296) = 128 :: numBytes 3 x := by
  rw [numBytes4, numBytes3]
  simp
  omega
theorem lay1 (B : BV) : layB 1 B = [B.flags, 0] ++ numBytes 2 ((B.links.length : Int) % 65536) ++ linksB B.links := by simp [layB]
theorem lay2 (B : BV) : layB 2 B = numBytes 4 B.mask ++ routersB B.routers := by simp [layB]
theorem lay3 {B : BV} (h0 : 0 ≤ B.metric) (he : B.metric ≤ 16777215) : layB 3 B = numBytes 4 B.mask ++ [0] ++ numBytes 3 B.metric := by
  unfold layB
  rw [if_neg (by omega), if_neg (by omega), if_pos (Or.inl rfl), num4_3 h0 he]
  simp
theorem lay4 {B : BV} (h0 : 0 ≤ B.metric) (he : B.metric ≤ 16777215) : layB 4 { B with mask := 0 } = [0, 0, 0, 0, 0] ++ numBytes 3 B.metric := by
  unfold layB
  rw [if_neg (by omega), if_neg (by omega), if_pos (Or.inr rfl)]
  dsimp only
  rw [num4_3 h0 he]
  rfl
theorem lay5 {t : Int} {B : BV} (ht : t = 5 ∨ t = 7) (h0 : 0 ≤ B.metric) (he : B.metric ≤ 16777215) : layB t B = numBytes 4 B.mask ++ [if B.type2 = true then 128 else 0] ++ numBytes 3 B.metric ++ numBytes 4 B.fwd ++ numBytes 4 B.tag := by
  unfold layB
  rw [if_neg (by omega), if_neg (by omega), if_neg (by omega), if_pos ht]
  unfold metricN
  cases B.type2 with
  | true => simp only [if_true]; rw [num4_128 h0 he]; simp
  | false => simp only [Bool.false_eq_true, if_false]; rw [num4_3 h0 he]; simp
theorem lay9 {t : Int} {B : BV} (ht : 9 ≤ t) : layB t B = B.data := by
  unfold layB
  rw [if_neg (by omega), if_neg (by omega), if_neg (by omega), if_neg (by omega)]
theorem layB_byte {t : Int} {B : BV} (ok : B.Ok) : ∀ z ∈ layB t B, 0 ≤ z ∧ z < 256 := by
  intro z hz
  unfold layB at hz
  split at hz
  · simp only [List.mem_append] at hz
    rcases hz with (hz | hz) | hz
    · have := ok.f
      simp at hz
      rcases hz with rfl | rfl <;> omega
    · exact numBytes_byte _ _ z hz
    · simp only [linksB, List.mem_flatMap] at hz
      obtain ⟨x, hx, hz⟩ := hz
      have hxt := (ok.l x hx).t
      simp only [linkB, List.mem_append] at hz
      rcases hz with ((hz | hz) | hz) | hz
      · exact numBytes_byte _ _ z hz
      · exact numBytes_byte _ _ z hz
      · simp at hz
        rcases hz with rfl | rfl <;> omega
      · exact numBytes_byte _ _ z hz
  · split at hz
    · simp only [List.mem_append] at hz
      rcases hz with hz | hz
      · exact numBytes_byte _ _ z hz
      · simp only [routersB, List.mem_flatMap] at hz
        obtain ⟨x, hx, hz⟩ := hz
        exact numBytes_byte _ _ z hz
    · split at hz
      · simp only [List.mem_append] at hz
        rcases hz with hz | hz
        · exact numBytes_byte _ _ z hz
        · exact numBytes_byte _ _ z hz
      · split at hz
        · simp only [List.mem_append] at hz
          rcases hz with ((hz | hz) | hz) | hz
          · exact numBytes_byte _ _ z hz
          · exact numBytes_byte _ _ z hz
          · exact numBytes_byte _ _ z hz
          · exact numBytes_byte _ _ z hz
        · exact ok.d z hz
end Go.Proofs.YthdkihnmeoacaaaGreatDoor
