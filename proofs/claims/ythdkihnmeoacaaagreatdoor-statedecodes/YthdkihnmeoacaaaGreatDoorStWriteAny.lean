/- Contracts: the writers of summaries, borders, outers and opaques, every way. -/
import Derived.Test.YthdkihnmeoacaaaGreatDoorStaWr
import Derived.Test.YthdkihnmeoacaaaGreatDoorRefRead
import Derived.Deep.RegionHeld2
import Derived.Test.YthdkihnmeoacaaaGreatDoorStPairs
import Derived.Test.YthdkihnmeoacaaaGreatDoorStEnc1
namespace Go.Proofs.YthdkihnmeoacaaaGreatDoor
open Go.RowKit
set_option linter.unusedVariables false
set_option maxRecDepth 100000

/-- What a writer of a body of type t makes. -/
def WrPost (t : Int) (X : Nat → Prop) (b g : Nat) (L : List Int) (most : Int) (B : BV) (w : World) : Ending → World → Prop := fun e w' =>
  (e = .returned (.tuple #[]) ∧ ∃ (l : List Int) (B' : BV) (a1 : Option Addr) (q1 : Nat) (a3 : Option Addr) (q3 : Nat) (a8 : Option Addr) (q8 : Nat), Wr X w' b (L ++ l) most ∧ OutB w' g B' (.slice a1 B'.links.length q1) (.slice a3 B'.routers.length q3) (.slice a8 B'.data.length q8) ∧ Kept (but X g) w w' ∧ (B'.links.length ≤ B.links.length ∧ B'.routers.length ≤ B.routers.length ∧ B'.data.length ≤ B.data.length) ∧ bareB B' = mayB t B ∧ (mayB t B = true → l = layB t B)) ∨
  (e = .panicked (flawC 28) ∧ Kept (but X g) w w' ∧ mayB t B = false)
theorem wr_good {t : Int} {X : Nat → Prop} {b g : Nat} {L : List Int} {most : Int} {B : BV} {w w' : World} {l : List Int} {B' : BV} {a1 : Option Addr} {q1 : Nat} {a3 : Option Addr} {q3 : Nat} {a8 : Option Addr} {q8 n1 n3 n8 : Nat} (h1 : Wr X w' b (L ++ l) most) (h2 : OutB w' g B' (.slice a1 n1 q1) (.slice a3 n3 q3) (.slice a8 n8 q8)) (h3 : Kept (but X g) w w') (h4 : bareB B' = mayB t B) (h5 : mayB t B = true → l = layB t B) (e1 : n1 = B'.links.length := by rfl) (e3 : n3 = B'.routers.length := by rfl) (e8 : n8 = B'.data.length := by rfl) (l1 : B'.links.length ≤ B.links.length := by simp) (l3 : B'.routers.length ≤ B.routers.length := by simp) (l8 : B'.data.length ≤ B.data.length := by simp) :
    WrPost t X b g L most B w (.returned (.tuple #[])) w' := by
  subst e1 e3 e8
  exact Or.inl ⟨rfl, l, B', a1, q1, a3, q3, a8, q8, h1, h2, h3, ⟨l1, l3, l8⟩, h4, h5⟩
theorem wr_flaw {t : Int} {X X1 : Nat → Prop} {b g : Nat} {L : List Int} {most : Int} {B : BV} {w w1 w' : World} (h1 : Kept (but X1 g) w w1) (h2 : Kept (but X1 g) w1 w') (hX : ∀ k, X k → X1 k) (h : mayB t B = false) :
    WrPost t X b g L most B w (.panicked (flawC 28)) w' := Or.inr ⟨rfl, (h1.trans h2).less (fun k _ h => ⟨hX k h.1, h.2⟩), h⟩
theorem wmask_any (X : Nat → Prop) (b : Nat) (L : List Int) (most x : Int) (w : World) (hw : Wr X w b L most) (hm : most ≤ 1048576) (h0 : 0 ≤ x) (h1 : x < 4294967296) :
    Calls Tryz.prog 130 #[.agg #[.pointer (some ⟨b, 0, none⟩)], .int .u32 x] w fun e w' => (e = .returned (.tuple #[]) ∧ pbok x = true ∧ Wr X w' b (L ++ numBytes 4 x) most ∧ Kept X w w') ∨ (e = .panicked (flawC 28) ∧ pbok x = false ∧ Kept X w w') := by
  by_cases hp : pbok x = true
  · refine (wmask_ok X b L most x w hw hm h0 h1 hp).mono ?_
    rintro e w' ⟨rfl, h2, k2⟩
    exact Or.inl ⟨rfl, hp, h2, k2⟩
  · have hp' : pbok x = false := by simpa using hp
    refine (wmask_no X b x w h0 h1 hp').mono ?_
    rintro e w' ⟨rfl, k2⟩
    exact Or.inr ⟨rfl, hp', k2⟩
theorem wmetric_any (X : Nat → Prop) (b : Nat) (L : List Int) (most x : Int) (w : World) (hw : Wr X w b L most) (hm : most ≤ 1048576) (h0 : 0 ≤ x) (h1 : x < 4294967296) :
    Calls Tryz.prog 133 #[.agg #[.pointer (some ⟨b, 0, none⟩)], .int .u32 x] w fun e w' => (e = .returned (.tuple #[]) ∧ x ≤ 16777215 ∧ Wr X w' b (L ++ numBytes 3 x) most ∧ Kept X w w') ∨ (e = .panicked (flawC 28) ∧ ¬ x ≤ 16777215 ∧ Kept X w w') := by
  by_cases hp : x ≤ 16777215
  · refine (wmetric_ok X b L most x w hw hm h0 h1 hp).mono ?_
    rintro e w' ⟨rfl, h2, k2⟩
    exact Or.inl ⟨rfl, hp, h2, k2⟩
  · have hp' : ¬ x ≤ 16777215 := by simpa using hp
    refine (wmetric_no X b x w h0 h1 hp').mono ?_
    rintro e w' ⟨rfl, k2⟩
    exact Or.inr ⟨rfl, hp', k2⟩
set_option maxHeartbeats 4000000 in
theorem wsum_any (X : Nat → Prop) (b g : Nat) (L : List Int) (most : Int) (B : BV) (a1 a3 a8 : Option Addr) (q1 q3 q8 : Nat) (ok : B.Ok) (w : World) (hw : Wr X w b L most) (hm : most ≤ 1048576) (hg : X g) (hB : OutB w g B (.slice a1 B.links.length q1) (.slice a3 B.routers.length q3) (.slice a8 B.data.length q8)) :
    Calls Tryz.prog 122 #[.agg #[.pointer (some ⟨b, 0, none⟩)], .pointer (some ⟨g, 0, none⟩)] w (WrPost 3 X b g L most B w) := by
  have OK : Hid B.Ok := ok
  have hgl := hB.lt
  go_enter Tryz.func122, Tryz.ntmps122
  obtain ⟨X1, hX1⟩ : ∃ X1 : Nat → Prop, X1 = fun k => X k ∨ k = w.heap.size := ⟨_, rfl⟩
  have XG : Hid (X1 g) := by show X1 g; rw [hX1]; exact Or.inl hg
  have XM : Hid (X1 w.heap.size) := by show X1 _; rw [hX1]; exact Or.inr rfl
  have XX : Hid (∀ k, X k → X1 k) := by show ∀ k, _; rw [hX1]; exact fun k hk => Or.inl hk
  have ta : Touch (fun _ => False) w (w.alloc (.cells #[.pointer (some ⟨b, 0, none⟩)] 112)) := (Touch.refl _ w).alloc _
  have HW1 : Hid (Wr X1 (w.alloc (.cells #[.pointer (some ⟨b, 0, none⟩)] 112)) b L most) := hw.more ta (fun k hk => by rw [hX1] at hk; rcases hk with hk | hk; exact Or.inl hk; exact Or.inr ⟨by omega, by simp; omega⟩)
  have HO1 : Hid (OutB (w.alloc (.cells #[.pointer (some ⟨b, 0, none⟩)] 112)) g B (.slice a1 B.links.length q1) (.slice a3 B.routers.length q3) (.slice a8 B.data.length q8)) := hB.keep ta
  have y1 : (w.alloc (.cells #[.pointer (some ⟨b, 0, none⟩)] 112)).cell? ⟨w.heap.size, 0, none⟩ = some (.pointer (some ⟨b, 0, none⟩)) := by simp [go_sem]
  have hne : ¬ w.heap.size = g := by omega
  have hne' : ¬ g = w.heap.size := by omega
  have HK1 : Hid (Kept (but X1 g) w (w.alloc (.cells #[.pointer (some ⟨b, 0, none⟩)] 112))) := Kept.of ta
  clear hX1 hw hB ta hgl ok
  go_upto_region 1 with fail
  generalize (w.alloc (.cells #[.pointer (some ⟨b, 0, none⟩)] 112)) = w1 at *
  generalize w.heap.size = g1 at *
  have d1 : w1.drew.cell? ⟨g, 2, none⟩ = some (.int .u32 B.mask) := HO1.out.bd.c2
  have f1 : w1.drew.frozen? ⟨g, 2, none⟩ = false := HO1.out.fz 2 (by omega)
  have y1d : w1.drew.cell? ⟨g1, 0, none⟩ = some (.pointer (some ⟨b, 0, none⟩)) := y1
  have HWt1 : Hid (Wr X1 (w1.drew.setCell ⟨g, 2, none⟩ (.int .u32 0)) b L most) := (HW1.out.keep ((Touch.refl _ _).drew)).store XG.out _ _
  have HOt1 : Hid (OutB (w1.drew.setCell ⟨g, 2, none⟩ (.int .u32 0)) g { B with mask := 0 } (.slice a1 B.links.length q1) (.slice a3 B.routers.length q3) (.slice a8 B.data.length q8)) := (HO1.out.keep ((Touch.refl _ _).drew)).set2
  have HKt1 : Hid (Kept (but X1 g) w1 (w1.drew.setCell ⟨g, 2, none⟩ (.int .u32 0))) := (Kept.of ((Touch.refl _ _).drew)).trans (Kept.store _ _ _)
  have HCt1 : Hid ((w1.drew.setCell ⟨g, 2, none⟩ (.int .u32 0)).cell? ⟨g1, 0, none⟩ = some (.pointer (some ⟨b, 0, none⟩))) := HKt1.out.cell y1 ⟨XM.out, hne⟩
  go_region_held2 (fun w' => w'.cell? ⟨g1, 0, none⟩ = some (.pointer (some ⟨b, 0, none⟩))) (first | with_reducible exact y1d | with_reducible exact yx1 | with_reducible exact y2) (first
    | (go_at_call 131; refine Calls.mono (take_u32 g 2 B.mask _ d1 f1) ?_; rintro e wx1 ⟨rfl, hwx⟩; have yx1 : wx1.cell? ⟨g1, 0, none⟩ = some (.pointer (some ⟨b, 0, none⟩)) := hwx ▸ HCt1.out; have HWx : Hid (Wr X1 wx1 b L most) := hwx ▸ HWt1; have HOx : Hid (OutB wx1 g { B with mask := 0 } (.slice a1 B.links.length q1) (.slice a3 B.routers.length q3) (.slice a8 B.data.length q8)) := hwx ▸ HOt1; have HKx : Hid (Kept (but X1 g) w1 wx1) := hwx ▸ HKt1; clear hwx)
    | (go_at_call 130; refine Calls.mono (wmask_any X1 b L most B.mask _ HWx.out hm OK.out.m.1 OK.out.m.2) ?_; rintro e w2 (⟨rfl, hp, hw2, k2⟩ | ⟨rfl, hp, k2⟩); rotate_left; exact ⟨rfl, wr_flaw HK1.out (HKx.out.trans (k2.but g)) XX.out (may_mask_no hp)⟩; have HP1 : Hid (pbok B.mask = true) := hp; clear hp; have y2 : w2.cell? ⟨g1, 0, none⟩ = some (.pointer (some ⟨b, 0, none⟩)) := k2.cell yx1 XM.out; have HW2 : Hid (Wr X1 w2 b (L ++ numBytes 4 B.mask) most) := hw2; have HO2 : Hid (OutB w2 g { B with mask := 0 } (.slice a1 B.links.length q1) (.slice a3 B.routers.length q3) (.slice a8 B.data.length q8)) := HOx.out.kept k2 XG.out; have HK2 : Hid (Kept (but X1 g) w w2) := HK1.out.trans (HKx.out.trans (k2.but g)); clear hw2 k2))
  first | refine (‹∀ (a : Act) (w_1 : World), Code.wp Tryz.prog _ _ a w_1 → _›) _ _ ?_ | skip
  clear d1 f1 y1d HWt1 HOt1 HKt1 HCt1 yx1 HWx HOx HKx HW1 HO1 HK1 y1
  go_wp2_with fail
  refine Calls.mono (put_some X1 b _ most ⟨w2.heap.size, 0, none⟩ 1 [0] _ (HW2.out.keep ((Touch.refl _ _).alloc _)) hm (src_new _ _ _ _ _ (by simp [bytesOf])) (by simp)) ?_
  rintro e w3 ⟨rfl, hw2, k2⟩
  have ta2 : Touch (fun _ => False) w2 (w2.alloc (.cells #[.int .u8 0] 5)) := (Touch.refl _ _).alloc _
  have y3 := k2.cell (p := ⟨g1, 0, none⟩) (v := .pointer (some ⟨b, 0, none⟩)) (ta2.cellN y2) XM.out
  have HO3 : Hid (OutB w3 g { B with mask := 0 } (.slice a1 B.links.length q1) (.slice a3 B.routers.length q3) (.slice a8 B.data.length q8)) := (HO2.out.keep ta2).kept k2 XG.out
  have HK3 : Hid (Kept (but X1 g) w w3) := HK2.out.trans ((Kept.of ta2).trans (k2.but g))
  have HW3 : Hid (Wr X1 w3 b ((L ++ numBytes 4 B.mask) ++ [0]) most) := hw2
  clear ta2 k2 hw2 HO2 HK2 HW2 y2
  go_upto_region 3 with fail
  have d3 : w3.drew.cell? ⟨g, 4, none⟩ = some (.int .u32 B.metric) := HO3.out.bd.c4
  have f3 : w3.drew.frozen? ⟨g, 4, none⟩ = false := HO3.out.fz 4 (by omega)
  have y3d : w3.drew.cell? ⟨g1, 0, none⟩ = some (.pointer (some ⟨b, 0, none⟩)) := y3
  have HWt3 : Hid (Wr X1 (w3.drew.setCell ⟨g, 4, none⟩ (.int .u32 0)) b ((L ++ numBytes 4 B.mask) ++ [0]) most) := (HW3.out.keep ((Touch.refl _ _).drew)).store XG.out _ _
  have HOt3 : Hid (OutB (w3.drew.setCell ⟨g, 4, none⟩ (.int .u32 0)) g { { B with mask := 0 } with metric := 0 } (.slice a1 B.links.length q1) (.slice a3 B.routers.length q3) (.slice a8 B.data.length q8)) := (HO3.out.keep ((Touch.refl _ _).drew)).set4
  have HKt3 : Hid (Kept (but X1 g) w3 (w3.drew.setCell ⟨g, 4, none⟩ (.int .u32 0))) := (Kept.of ((Touch.refl _ _).drew)).trans (Kept.store _ _ _)
  have HCt3 : Hid ((w3.drew.setCell ⟨g, 4, none⟩ (.int .u32 0)).cell? ⟨g1, 0, none⟩ = some (.pointer (some ⟨b, 0, none⟩))) := HKt3.out.cell y3 ⟨XM.out, hne⟩
  go_region_held2 (fun w' => w'.cell? ⟨g1, 0, none⟩ = some (.pointer (some ⟨b, 0, none⟩))) (first | with_reducible exact y3d | with_reducible exact yx3 | with_reducible exact y4) (first
    | (go_at_call 131; refine Calls.mono (take_u32 g 4 B.metric _ d3 f3) ?_; rintro e wx3 ⟨rfl, hwx⟩; have yx3 : wx3.cell? ⟨g1, 0, none⟩ = some (.pointer (some ⟨b, 0, none⟩)) := hwx ▸ HCt3.out; have HWx : Hid (Wr X1 wx3 b ((L ++ numBytes 4 B.mask) ++ [0]) most) := hwx ▸ HWt3; have HOx : Hid (OutB wx3 g { { B with mask := 0 } with metric := 0 } (.slice a1 B.links.length q1) (.slice a3 B.routers.length q3) (.slice a8 B.data.length q8)) := hwx ▸ HOt3; have HKx : Hid (Kept (but X1 g) w3 wx3) := hwx ▸ HKt3; clear hwx)
    | (go_at_call 133; refine Calls.mono (wmetric_any X1 b ((L ++ numBytes 4 B.mask) ++ [0]) most B.metric _ HWx.out hm OK.out.e.1 OK.out.e.2) ?_; rintro e w4 (⟨rfl, hp, hw2, k2⟩ | ⟨rfl, hp, k2⟩); rotate_left; exact ⟨rfl, wr_flaw HK3.out (HKx.out.trans (k2.but g)) XX.out (may_metric_no hp)⟩; have HP3 : Hid (B.metric ≤ 16777215) := hp; clear hp; have y4 : w4.cell? ⟨g1, 0, none⟩ = some (.pointer (some ⟨b, 0, none⟩)) := k2.cell yx3 XM.out; have HW4 : Hid (Wr X1 w4 b (((L ++ numBytes 4 B.mask) ++ [0]) ++ numBytes 3 B.metric) most) := hw2; have HO4 : Hid (OutB w4 g { { B with mask := 0 } with metric := 0 } (.slice a1 B.links.length q1) (.slice a3 B.routers.length q3) (.slice a8 B.data.length q8)) := HOx.out.kept k2 XG.out; have HK4 : Hid (Kept (but X1 g) w w4) := HK3.out.trans (HKx.out.trans (k2.but g)); clear hw2 k2))
  first | refine (‹∀ (a : Act) (w_1 : World), Code.wp Tryz.prog _ _ a w_1 → _›) _ _ ?_ | skip
  clear d3 f3 y3d HWt3 HOt3 HKt3 HCt3 yx3 HWx HOx HKx HW3 HO3 HK3 y3
  go_end0
  have e1 : bareB { { B with mask := 0 } with metric := 0 } = mayB 3 B := may3 HP1.out HP3.out
  have e2 : mayB 3 B = true → numBytes 4 B.mask ++ [0] ++ numBytes 3 B.metric = layB 3 B := fun _ => (lay3 OK.out.e.1 HP3.out).symm
  have e3 : Wr X w4 b (L ++ (numBytes 4 B.mask ++ [0] ++ numBytes 3 B.metric)) most := by
    have := HW4.out.less XX.out
    simpa [List.append_assoc] using this
  have e4 := HK4.out.less (Y := but X g) (fun k _ h => ⟨XX.out k h.1, h.2⟩)
  have e5 := HO4.out
  exact wr_good e3 e5 e4 e1 e2
theorem lay4_may {B : BV} (h0 : 0 ≤ B.metric) (he : B.metric ≤ 16777215) (h : mayB 4 B = true) : [0, 0, 0, 0, 0] ++ numBytes 3 B.metric = layB 4 B := by
  have hm : B.mask = 0 := by have := ((mayB_iff _ _).1 h).a3; omega
  have e : B = { B with mask := 0 } := by cases B; simp only at hm; subst hm; rfl
  rw [e]
  exact (lay4 h0 he).symm
set_option maxHeartbeats 4000000 in
theorem wborder_any (X : Nat → Prop) (b g : Nat) (L : List Int) (most : Int) (B : BV) (a1 a3 a8 : Option Addr) (q1 q3 q8 : Nat) (ok : B.Ok) (w : World) (hw : Wr X w b L most) (hm : most ≤ 1048576) (hg : X g) (hB : OutB w g B (.slice a1 B.links.length q1) (.slice a3 B.routers.length q3) (.slice a8 B.data.length q8)) :
    Calls Tryz.prog 124 #[.agg #[.pointer (some ⟨b, 0, none⟩)], .pointer (some ⟨g, 0, none⟩)] w (WrPost 4 X b g L most B w) := by
  have OK : Hid B.Ok := ok
  have hgl := hB.lt
  go_enter Tryz.func124, Tryz.ntmps124
  obtain ⟨X1, hX1⟩ : ∃ X1 : Nat → Prop, X1 = fun k => X k ∨ k = w.heap.size := ⟨_, rfl⟩
  have XG : Hid (X1 g) := by show X1 g; rw [hX1]; exact Or.inl hg
  have XM : Hid (X1 w.heap.size) := by show X1 _; rw [hX1]; exact Or.inr rfl
  have XX : Hid (∀ k, X k → X1 k) := by show ∀ k, _; rw [hX1]; exact fun k hk => Or.inl hk
  have ta : Touch (fun _ => False) w (w.alloc (.cells #[.pointer (some ⟨b, 0, none⟩)] 112)) := (Touch.refl _ w).alloc _
  have HW1 : Hid (Wr X1 (w.alloc (.cells #[.pointer (some ⟨b, 0, none⟩)] 112)) b L most) := hw.more ta (fun k hk => by rw [hX1] at hk; rcases hk with hk | hk; exact Or.inl hk; exact Or.inr ⟨by omega, by simp; omega⟩)
  have HO1 : Hid (OutB (w.alloc (.cells #[.pointer (some ⟨b, 0, none⟩)] 112)) g B (.slice a1 B.links.length q1) (.slice a3 B.routers.length q3) (.slice a8 B.data.length q8)) := hB.keep ta
  have y1 : (w.alloc (.cells #[.pointer (some ⟨b, 0, none⟩)] 112)).cell? ⟨w.heap.size, 0, none⟩ = some (.pointer (some ⟨b, 0, none⟩)) := by simp [go_sem]
  have hne : ¬ w.heap.size = g := by omega
  have hne' : ¬ g = w.heap.size := by omega
  have HK1 : Hid (Kept (but X1 g) w (w.alloc (.cells #[.pointer (some ⟨b, 0, none⟩)] 112))) := Kept.of ta
  clear hX1 hw hB ta hgl ok
  go_upto_region 1 with fail
  generalize (w.alloc (.cells #[.pointer (some ⟨b, 0, none⟩)] 112)) = w1 at *
  generalize w.heap.size = g1 at *
  go_wp2_with fail
  refine Calls.mono (put_some X1 b _ most ⟨w1.heap.size, 0, none⟩ 5 [0, 0, 0, 0, 0] _ (HW1.out.keep ((Touch.refl _ _).alloc _)) hm (src_new _ _ _ _ _ (by simp [bytesOf])) (by simp)) ?_
  rintro e w2 ⟨rfl, hw2, k2⟩
  have ta1 : Touch (fun _ => False) w1 (w1.alloc (.cells #[.int .u8 0, .int .u8 0, .int .u8 0, .int .u8 0, .int .u8 0] 5)) := (Touch.refl _ _).alloc _
  have y2 := k2.cell (p := ⟨g1, 0, none⟩) (v := .pointer (some ⟨b, 0, none⟩)) (ta1.cellN y1) XM.out
  have HO2 : Hid (OutB w2 g B (.slice a1 B.links.length q1) (.slice a3 B.routers.length q3) (.slice a8 B.data.length q8)) := (HO1.out.keep ta1).kept k2 XG.out
  have HK2 : Hid (Kept (but X1 g) w w2) := HK1.out.trans ((Kept.of ta1).trans (k2.but g))
  have HW2 : Hid (Wr X1 w2 b (L ++ [0, 0, 0, 0, 0]) most) := hw2
  clear ta1 k2 hw2 HO1 HK1 HW1 y1
  go_upto_region 2 with fail
  have d2 : w2.drew.cell? ⟨g, 4, none⟩ = some (.int .u32 B.metric) := HO2.out.bd.c4
  have f2 : w2.drew.frozen? ⟨g, 4, none⟩ = false := HO2.out.fz 4 (by omega)
  have y2d : w2.drew.cell? ⟨g1, 0, none⟩ = some (.pointer (some ⟨b, 0, none⟩)) := y2
  have HWt2 : Hid (Wr X1 (w2.drew.setCell ⟨g, 4, none⟩ (.int .u32 0)) b (L ++ [0, 0, 0, 0, 0]) most) := (HW2.out.keep ((Touch.refl _ _).drew)).store XG.out _ _
  have HOt2 : Hid (OutB (w2.drew.setCell ⟨g, 4, none⟩ (.int .u32 0)) g { B with metric := 0 } (.slice a1 B.links.length q1) (.slice a3 B.routers.length q3) (.slice a8 B.data.length q8)) := (HO2.out.keep ((Touch.refl _ _).drew)).set4
  have HKt2 : Hid (Kept (but X1 g) w2 (w2.drew.setCell ⟨g, 4, none⟩ (.int .u32 0))) := (Kept.of ((Touch.refl _ _).drew)).trans (Kept.store _ _ _)
  have HCt2 : Hid ((w2.drew.setCell ⟨g, 4, none⟩ (.int .u32 0)).cell? ⟨g1, 0, none⟩ = some (.pointer (some ⟨b, 0, none⟩))) := HKt2.out.cell y2 ⟨XM.out, hne⟩
  go_region_held2 (fun w' => w'.cell? ⟨g1, 0, none⟩ = some (.pointer (some ⟨b, 0, none⟩))) (first | with_reducible exact y2d | with_reducible exact yx2 | with_reducible exact y3) (first
    | (go_at_call 131; refine Calls.mono (take_u32 g 4 B.metric _ d2 f2) ?_; rintro e wx2 ⟨rfl, hwx⟩; have yx2 : wx2.cell? ⟨g1, 0, none⟩ = some (.pointer (some ⟨b, 0, none⟩)) := hwx ▸ HCt2.out; have HWx : Hid (Wr X1 wx2 b (L ++ [0, 0, 0, 0, 0]) most) := hwx ▸ HWt2; have HOx : Hid (OutB wx2 g { B with metric := 0 } (.slice a1 B.links.length q1) (.slice a3 B.routers.length q3) (.slice a8 B.data.length q8)) := hwx ▸ HOt2; have HKx : Hid (Kept (but X1 g) w2 wx2) := hwx ▸ HKt2; clear hwx)
    | (go_at_call 133; refine Calls.mono (wmetric_any X1 b (L ++ [0, 0, 0, 0, 0]) most B.metric _ HWx.out hm OK.out.e.1 OK.out.e.2) ?_; rintro e w3 (⟨rfl, hp, hw2, k2⟩ | ⟨rfl, hp, k2⟩); rotate_left; exact ⟨rfl, wr_flaw HK2.out (HKx.out.trans (k2.but g)) XX.out (may_metric_no hp)⟩; have HP2 : Hid (B.metric ≤ 16777215) := hp; clear hp; have y3 : w3.cell? ⟨g1, 0, none⟩ = some (.pointer (some ⟨b, 0, none⟩)) := k2.cell yx2 XM.out; have HW3 : Hid (Wr X1 w3 b ((L ++ [0, 0, 0, 0, 0]) ++ numBytes 3 B.metric) most) := hw2; have HO3 : Hid (OutB w3 g { B with metric := 0 } (.slice a1 B.links.length q1) (.slice a3 B.routers.length q3) (.slice a8 B.data.length q8)) := HOx.out.kept k2 XG.out; have HK3 : Hid (Kept (but X1 g) w w3) := HK2.out.trans (HKx.out.trans (k2.but g)); clear hw2 k2))
  first | refine (‹∀ (a : Act) (w_1 : World), Code.wp Tryz.prog _ _ a w_1 → _›) _ _ ?_ | skip
  clear d2 f2 y2d HWt2 HOt2 HKt2 HCt2 yx2 HWx HOx HKx HW2 HO2 HK2 y2
  go_end0
  have e1 : bareB { B with metric := 0 } = mayB 4 B := may4 HP2.out
  have e2 : mayB 4 B = true → [0, 0, 0, 0, 0] ++ numBytes 3 B.metric = layB 4 B := fun h => lay4_may OK.out.e.1 HP2.out h
  have e3 : Wr X w3 b (L ++ ([0, 0, 0, 0, 0] ++ numBytes 3 B.metric)) most := by
    have := HW3.out.less XX.out
    simpa [List.append_assoc] using this
  have e4 := HK3.out.less (Y := but X g) (fun k _ h => ⟨XX.out k h.1, h.2⟩)
  have e5 := HO3.out
  exact wr_good e3 e5 e4 e1 e2
set_option maxHeartbeats 4000000 in
theorem wopaque_any (t : Int) (ht : 9 ≤ t) (X : Nat → Prop) (b g : Nat) (L : List Int) (most : Int) (B : BV) (a1 a3 a8 : Option Addr) (q1 q3 q8 : Nat) (ok : B.Ok) (w : World) (hw : Wr X w b L most) (hm : most ≤ 1048576) (hg : X g) (hB : OutB w g B (.slice a1 B.links.length q1) (.slice a3 B.routers.length q3) (.slice a8 B.data.length q8)) (hA : ∀ w', Kept (but X g) w w' → ArgAt w' (.slice a8 B.data.length q8) B.data) (hdl : B.data.length ≤ 68719476736) :
    Calls Tryz.prog 116 #[.agg #[.pointer (some ⟨b, 0, none⟩)], .pointer (some ⟨g, 0, none⟩)] w (WrPost t X b g L most B w) := by
  have OK : Hid B.Ok := ok
  have hgl := hB.lt
  have HA : Hid (∀ w', Kept (but X g) w w' → ArgAt w' (.slice a8 B.data.length q8) B.data) := hA
  have HDL : Hid (B.data.length ≤ 68719476736) := hdl
  clear hA hdl
  go_enter Tryz.func116, Tryz.ntmps116
  obtain ⟨X1, hX1⟩ : ∃ X1 : Nat → Prop, X1 = fun k => X k ∨ k = w.heap.size := ⟨_, rfl⟩
  have XG : Hid (X1 g) := by show X1 g; rw [hX1]; exact Or.inl hg
  have XM : Hid (X1 w.heap.size) := by show X1 _; rw [hX1]; exact Or.inr rfl
  have XX : Hid (∀ k, X k → X1 k) := by show ∀ k, _; rw [hX1]; exact fun k hk => Or.inl hk
  have ta : Touch (fun _ => False) w (w.alloc (.cells #[.pointer (some ⟨b, 0, none⟩)] 112)) := (Touch.refl _ w).alloc _
  have HW1 : Hid (Wr X1 (w.alloc (.cells #[.pointer (some ⟨b, 0, none⟩)] 112)) b L most) := hw.more ta (fun k hk => by rw [hX1] at hk; rcases hk with hk | hk; exact Or.inl hk; exact Or.inr ⟨by omega, by simp; omega⟩)
  have HO1 : Hid (OutB (w.alloc (.cells #[.pointer (some ⟨b, 0, none⟩)] 112)) g B (.slice a1 B.links.length q1) (.slice a3 B.routers.length q3) (.slice a8 B.data.length q8)) := hB.keep ta
  have y1 : (w.alloc (.cells #[.pointer (some ⟨b, 0, none⟩)] 112)).cell? ⟨w.heap.size, 0, none⟩ = some (.pointer (some ⟨b, 0, none⟩)) := by simp [go_sem]
  have hne : ¬ w.heap.size = g := by omega
  have hne' : ¬ g = w.heap.size := by omega
  have HK1 : Hid (Kept (but X1 g) w (w.alloc (.cells #[.pointer (some ⟨b, 0, none⟩)] 112))) := Kept.of ta
  clear hX1 hw hB ta hgl ok
  have d8 := HO1.out.bd.c8
  have hdl0 : (0 : Int) ≤ (B.data.length : Int) := by omega
  by_cases h4 : B.data.length % 4 = 0
  rotate_left
  · have h4' : (((B.data.length : Int) % 4) == 0) = false := by simp; omega
    go_wp2_with fail
    refine Calls.mono (need_f _ 28 _ (by first | rfl | exact h4')) ?_
    rintro e wn ⟨rfl, rfl⟩
    exact ⟨rfl, wr_flaw HK1.out (Kept.refl _ _) XX.out (may_data_no h4)⟩
  have h4' : (((B.data.length : Int) % 4) == 0) = true := by simp; omega
  have H4 : Hid (B.data.length % 4 = 0) := h4
  clear h4
  go_upto_region 2 with (go_at_call 70; refine Calls.mono (need_t _ 28 _ (by first | rfl | exact h4')) ?_; rintro e wn ⟨rfl, rfl⟩)
  clear d8 h4' hdl0
  generalize (w.alloc (.cells #[.pointer (some ⟨b, 0, none⟩)] 112)) = w1 at *
  generalize w.heap.size = g1 at *
  have d1 : w1.drew.cell? ⟨g, 8, none⟩ = some (.slice a8 B.data.length q8) := HO1.out.bd.c8
  have f1 : w1.drew.frozen? ⟨g, 8, none⟩ = false := HO1.out.fz 8 (by omega)
  have y1d : w1.drew.cell? ⟨g1, 0, none⟩ = some (.pointer (some ⟨b, 0, none⟩)) := y1
  have HWt1 : Hid (Wr X1 (w1.drew.setCell ⟨g, 8, none⟩ (.slice none 0 0)) b L most) := (HW1.out.keep ((Touch.refl _ _).drew)).store XG.out _ _
  have HOt1 : Hid (OutB (w1.drew.setCell ⟨g, 8, none⟩ (.slice none 0 0)) g { B with data := [] } (.slice a1 B.links.length q1) (.slice a3 B.routers.length q3) (.slice none 0 0)) := (HO1.out.keep ((Touch.refl _ _).drew)).set8
  have HKt1 : Hid (Kept (but X1 g) w1 (w1.drew.setCell ⟨g, 8, none⟩ (.slice none 0 0))) := (Kept.of ((Touch.refl _ _).drew)).trans (Kept.store _ _ _)
  have HCt1 : Hid ((w1.drew.setCell ⟨g, 8, none⟩ (.slice none 0 0)).cell? ⟨g1, 0, none⟩ = some (.pointer (some ⟨b, 0, none⟩))) := HKt1.out.cell y1 ⟨XM.out, hne⟩
  go_region_held2 (fun w' => w'.cell? ⟨g1, 0, none⟩ = some (.pointer (some ⟨b, 0, none⟩))) (first | with_reducible exact y1d | with_reducible exact yx1 | with_reducible exact y2) (first
    | (go_at_call 137; refine Calls.mono (take_bytes g 8 a8 B.data.length q8 _ d1 f1) ?_; rintro e wx1 ⟨rfl, hwx⟩; have yx1 : wx1.cell? ⟨g1, 0, none⟩ = some (.pointer (some ⟨b, 0, none⟩)) := hwx ▸ HCt1.out; have HWx : Hid (Wr X1 wx1 b L most) := hwx ▸ HWt1; have HOx : Hid (OutB wx1 g { B with data := [] } (.slice a1 B.links.length q1) (.slice a3 B.routers.length q3) (.slice none 0 0)) := hwx ▸ HOt1; have HKx : Hid (Kept (but X1 g) w1 wx1) := hwx ▸ HKt1; clear hwx)
    | (go_at_call 84; refine Calls.mono (put_arg X1 b L most (.slice a8 B.data.length q8) B.data _ HWx.out hm (HA.out _ ((HK1.out.trans HKx.out).less (fun k _ h => ⟨XX.out k h.1, h.2⟩))) HDL.out) ?_; rintro e w2 ⟨rfl, hw2, k2⟩; have y2 : w2.cell? ⟨g1, 0, none⟩ = some (.pointer (some ⟨b, 0, none⟩)) := k2.cell yx1 XM.out; have HW2 : Hid (Wr X1 w2 b (L ++ B.data) most) := hw2; have HO2 : Hid (OutB w2 g { B with data := [] } (.slice a1 B.links.length q1) (.slice a3 B.routers.length q3) (.slice none 0 0)) := HOx.out.kept k2 XG.out; have HK2 : Hid (Kept (but X1 g) w w2) := HK1.out.trans (HKx.out.trans (k2.but g)); clear hw2 k2))
  first | refine (‹∀ (a : Act) (w_1 : World), Code.wp Tryz.prog _ _ a w_1 → _›) _ _ ?_ | skip
  clear d1 f1 y1d HWt1 HOt1 HKt1 HCt1 yx1 HWx HOx HKx HW1 HO1 HK1 y1
  go_end0
  have e1 : bareB { B with data := [] } = mayB t B := may9 ht H4.out
  have e2 : mayB t B = true → B.data = layB t B := fun _ => (lay9 ht).symm
  have e3 : Wr X w2 b (L ++ (B.data)) most := by
    have := HW2.out.less XX.out
    simpa [List.append_assoc] using this
  have e4 := HK2.out.less (Y := but X g) (fun k _ h => ⟨XX.out k h.1, h.2⟩)
  have e5 := HO2.out
  exact wr_good e3 e5 e4 e1 e2
end Go.Proofs.YthdkihnmeoacaaaGreatDoor

namespace Go.Proofs.YthdkihnmeoacaaaGreatDoor
open Go.RowKit
set_option linter.unusedVariables false
set_option maxRecDepth 100000

theorem ValsAt.kept {X : Nat → Prop} {w w' : World} {k : Nat} {v : Value} {n : Nat} {xs : List Value} (h : ValsAt w k v n xs) (t : Kept X w w') (hX : ∀ k, k < w.heap.size → X k) : ValsAt w' k v n xs := by
  refine ⟨h.1, ?_⟩
  rcases h.2 with h | ⟨ad, c, rfl, h1, h2, h3⟩
  · exact Or.inl h
  · exact Or.inr ⟨ad, c, rfl, h1, h2, fun j u hj => t.cell (h3 j u hj) (hX _ (lt_of_cellA (h3 j u hj)))⟩
theorem ArgAt.keptX {X : Nat → Prop} {w w' : World} {v : Value} {rs : List Int} (h : ArgAt w v rs) (t : Kept X w w') (hX : ∀ k, k < w.heap.size → X k) : ArgAt w' v rs := by
  rcases h with h | ⟨ad, c, rfl, h1, h2, h3⟩
  · exact Or.inl h
  · exact Or.inr ⟨ad, c, rfl, h1, h2, fun j u hj => t.cell (h3 j u hj) (hX _ (lt_of_cellA (h3 j u hj)))⟩
theorem BArg.kept {X : Nat → Prop} {w w' : World} {b : BV} {vl vr vd : Value} (h : BArg w b vl vr vd) (t : Kept X w w') (hX : ∀ k, k < w.heap.size → X k) : BArg w' b vl vr vd := ⟨ValsAt.kept h.l t hX, ValsAt.kept h.r t hX, h.d.keptX t hX⟩
/-- What write makes of a body of type t. -/
def WAns (t : Int) (B : BV) (w : World) : Ending → World → Prop := fun e w' =>
  (mayB t B = true ∧ (layB t B).length ≤ 65515 ∧ ∃ u, e = .returned u ∧ Buf w w' u (layB t B)) ∨ (mayB t B = false ∧ e = .panicked (flawC 28) ∧ Touch (fun _ => False) w w') ∨ (mayB t B = true ∧ 65515 < (layB t B).length ∧ e = .panicked (flawC 11) ∧ Touch (fun _ => False) w w')
set_option maxHeartbeats 2000000 in
theorem writeB_any (G1 G2 : Nat) (hG : ∀ (x : Array Value) w, (callFunc G1 x).run Tryz.prog w = .ok (.enter G1 x) w) (hfl : ∀ w, (Instr.field 99 (.agg #[.func (.func G1) #[] #[], .func (.func G2) #[] #[]]) 0).run Tryz.prog w = .ok (.func (.func G1) #[] #[]) w)
    (t : Int) (B : BV) (ok : B.Ok) (a1 a3 a8 : Option Addr) (q1 q3 q8 : Nat) (w : World) (hA : BArg w B (.slice a1 B.links.length q1) (.slice a3 B.routers.length q3) (.slice a8 B.data.length q8)) (hN : B.links.length ≤ 140737488355328 ∧ B.routers.length ≤ 140737488355328 ∧ B.data.length ≤ 140737488355328)
    (HP : ∀ w, Calls Tryz.prog 73 #[.int .u8 t] w fun e w' => e = .returned (.agg #[.func (.func G1) #[] #[], .func (.func G2) #[] #[]]) ∧ Touch (fun _ => False) w w')
    (HWt : ∀ (X : Nat → Prop) (b g : Nat) (w : World), Wr X w b [] 65515 → X g → OutB w g B (.slice a1 B.links.length q1) (.slice a3 B.routers.length q3) (.slice a8 B.data.length q8) → (∀ w', Kept (but X g) w w' → BArg w' B (.slice a1 B.links.length q1) (.slice a3 B.routers.length q3) (.slice a8 B.data.length q8)) → Calls Tryz.prog G1 #[.agg #[.pointer (some ⟨b, 0, none⟩)], .pointer (some ⟨g, 0, none⟩)] w (WrPost t X b g [] 65515 B w)) :
    Calls Tryz.prog 39 #[.int .u8 t, .agg #[.int .u8 B.flags, .slice a1 B.links.length q1, .int .u32 B.mask, .slice a3 B.routers.length q3, .int .u32 B.metric, .bool B.type2, .int .u32 B.fwd, .int .u32 B.tag, .slice a8 B.data.length q8]] w (WAns t B w) := by
  have HPh : Hid (∀ w, Calls Tryz.prog 73 #[.int .u8 t] w fun e w' => e = .returned (.agg #[.func (.func G1) #[] #[], .func (.func G2) #[] #[]]) ∧ Touch (fun _ => False) w w') := HP
  have HWh : Hid (∀ (X : Nat → Prop) (b g : Nat) (w : World), Wr X w b [] 65515 → X g → OutB w g B (.slice a1 B.links.length q1) (.slice a3 B.routers.length q3) (.slice a8 B.data.length q8) → (∀ w', Kept (but X g) w w' → BArg w' B (.slice a1 B.links.length q1) (.slice a3 B.routers.length q3) (.slice a8 B.data.length q8)) → Calls Tryz.prog G1 #[.agg #[.pointer (some ⟨b, 0, none⟩)], .pointer (some ⟨g, 0, none⟩)] w (WrPost t X b g [] 65515 B w)) := HWt
  have HA : Hid (BArg w B (.slice a1 B.links.length q1) (.slice a3 B.routers.length q3) (.slice a8 B.data.length q8)) := hA
  clear HP HWt hA
  go_enter Tryz.func39, Tryz.ntmps39
  go_wp2_with fail
  refine Calls.mono (write_w 65515 _ (by omega)) ?_
  rintro e w1 ⟨rfl, hw1, t1⟩
  have O1 := (OutB.new w B (.slice a1 B.links.length q1) (.slice a3 B.routers.length q3) (.slice a8 B.data.length q8) 30).keep t1
  have T1 : Hid (Touch (fun _ => False) w w1) := ((Touch.refl _ w).alloc _).trans t1
  simp only [World.size_alloc] at hw1 t1 ⊢
  have hsz : w.heap.size + 1 < w1.heap.size := hw1.lt
  have HO1 : Hid (OutB w1 w.heap.size B (.slice a1 B.links.length q1) (.slice a3 B.routers.length q3) (.slice a8 B.data.length q8)) := O1
  have HW1 : Hid (Wr (fun k => k < w.heap.size + 1) w1 (w.heap.size + 1) [] 65515) := hw1
  clear t1 hw1 O1
  go_upto_region 2 with fail
  have HW2 : Hid (Wr (fun k => k < w.heap.size + 1 ∨ k = w1.heap.size) (w1.alloc (.cells #[.pointer (some ⟨w.heap.size + 1, 0, none⟩)] 112)).drew (w.heap.size + 1) [] 65515) := HW1.out.more (((Touch.refl _ _).alloc _).drew) (fun k hk => by rcases hk with hk | hk; exact Or.inl hk; exact Or.inr ⟨by omega, by simp [World.drew]; omega⟩)
  have HO2 : Hid (OutB (w1.alloc (.cells #[.pointer (some ⟨w.heap.size + 1, 0, none⟩)] 112)).drew w.heap.size B (.slice a1 B.links.length q1) (.slice a3 B.routers.length q3) (.slice a8 B.data.length q8)) := HO1.out.keep (((Touch.refl _ _).alloc _).drew)
  have TB : Hid (Touch (fun _ => False) w (w1.alloc (.cells #[.pointer (some ⟨w.heap.size + 1, 0, none⟩)] 112)).drew) := (T1.out.alloc _).drew
  have y0 : (w1.alloc (.cells #[.pointer (some ⟨w.heap.size + 1, 0, none⟩)] 112)).drew.cell? ⟨w1.heap.size, 0, none⟩ = some (.pointer (some ⟨w.heap.size + 1, 0, none⟩)) := by simp [go_sem]
  clear HW1 HO1 T1
  generalize (w1.alloc (.cells #[.pointer (some ⟨w.heap.size + 1, 0, none⟩)] 112)) = w2 at *
  go_region_held2 (fun w' => w'.cell? ⟨w1.heap.size, 0, none⟩ = some (.pointer (some ⟨w.heap.size + 1, 0, none⟩))) (first | with_reducible exact y0 | with_reducible exact y1 | with_reducible exact y4) (first
    | (go_at_call 73; refine Calls.mono (HPh.out _) ?_; rintro e w3 ⟨rfl, t3⟩; have y1 := t3.cellN y0; have HW3 : Hid (Wr (fun k => k < w.heap.size + 1 ∨ k = w1.heap.size) w3 (w.heap.size + 1) [] 65515) := HW2.out.keep t3; have HO3 : Hid (OutB w3 w.heap.size B (.slice a1 B.links.length q1) (.slice a3 B.routers.length q3) (.slice a8 B.data.length q8)) := HO2.out.keep t3; have T3 : Hid (Touch (fun _ => False) w w3) := TB.out.trans t3; clear t3)
    | (refine Calls.mono (HWh.out (fun k => k < w.heap.size + 1 ∨ k = w1.heap.size) (w.heap.size + 1) w.heap.size _ HW3.out (Or.inl (by omega)) HO3.out (fun w' k => BArg.kept (X := but (fun k => k < w.heap.size + 1 ∨ k = w1.heap.size) w.heap.size) HA.out ((Kept.of T3.out).trans k) (fun i hi => ⟨Or.inl (by omega), by omega⟩))) ?_; rintro e w4 (⟨rfl, l, B', b1, p1, b3, p3, b8, p8, hw4, o4, k4, hln, hbm, hly⟩ | ⟨rfl, k4, hno⟩); rotate_left; exact ⟨rfl, Or.inr (Or.inl ⟨hno, rfl, Kept.after k4 T3.out (fun i hi => ⟨Or.inl (by omega), by omega⟩)⟩)⟩; have y4 := k4.cell y1 ⟨Or.inr rfl, (by show w1.heap.size ≠ w.heap.size; omega)⟩; have T4 : Hid (Touch (fun _ => False) w w4) := Kept.after k4 T3.out (fun i hi => ⟨Or.inl (by omega), by omega⟩); have HW4 : Hid (Wr (fun k => k < w.heap.size + 1 ∨ k = w1.heap.size) w4 (w.heap.size + 1) ([] ++ l) 65515) := hw4; have HO4 : Hid (OutB w4 w.heap.size B' (.slice b1 B'.links.length p1) (.slice b3 B'.routers.length p3) (.slice b8 B'.data.length p8)) := o4; have HN1 : Hid (B'.links.length ≤ 140737488355328 ∧ B'.routers.length ≤ 140737488355328 ∧ B'.data.length ≤ 140737488355328) := ⟨Nat.le_trans hln.1 hN.1, Nat.le_trans hln.2.1 hN.2.1, Nat.le_trans hln.2.2 hN.2.2⟩; have HBM : Hid (bareB B' = mayB t B) := hbm; have HLY : Hid (mayB t B = true → l = layB t B) := hly; clear k4 hw4 o4 hbm hly hln))
  first | refine (‹∀ (a : Act) (w_1 : World), Code.wp Tryz.prog _ _ a w_1 → _›) _ _ ?_ | skip
  clear y0 y1 HW3 HO3 T3 HW2 HO2 TB HPh HWh HA hfl hG
  obtain ⟨⟨d0, d1, d2, d3, d4, d5, d6, d7, d8⟩, -⟩ := HO4.out
  have HB0 : Hid (bareB B' = true → B'.links.length = 0 ∧ B'.routers.length = 0 ∧ B'.data.length = 0) := fun h => by obtain ⟨h1, h2, h3, -⟩ := (bareB_iff B').1 h; exact ⟨h1, h2, h3⟩
  have hba := bare_any B'.flags B'.mask B'.metric B'.fwd B'.tag B'.type2 b1 b3 b8 B'.links.length p1 B'.routers.length p3 B'.data.length p8 w4 HN1.out.1 HN1.out.2.1 HN1.out.2.2
  rw [show ((((B'.links.length : Int) + B'.routers.length + B'.data.length == 0) && (B'.flags == 0) && (B'.mask == 0) && (B'.metric == 0) && (!B'.type2) && (B'.fwd == 0) && (B'.tag == 0))) = mayB t B from HBM.out] at hba
  go_wp2_with fail
  refine Calls.mono hba ?_
  rintro e w5 ⟨rfl, t5⟩
  have y5 := t5.cellN y4
  have HW5 : Hid (Wr (fun k => k < w.heap.size + 1 ∨ k = w1.heap.size) w5 (w.heap.size + 1) ([] ++ l) 65515) := HW4.out.keep t5
  have T5 : Hid (Touch (fun _ => False) w w5) := T4.out.trans t5
  clear t5 y4 d0 d1 d2 d3 d4 d5 d6 d7 d8 HO4 HW4 T4 hba
  cases hm : mayB t B with
  | false =>
    go_wp2_with fail
    refine Calls.mono (need_f _ 28 _ (by first | rfl | exact hm)) ?_
    rintro e w6 ⟨rfl, rfl⟩
    exact ⟨rfl, Or.inr (Or.inl ⟨hm, rfl, T5.out⟩)⟩
  | true =>
    have hl : l = layB t B := HLY.out hm
    subst hl
    have HM : Hid (mayB t B = true) := hm
    clear hm HLY HBM
    go_wp2_with fail
    refine Calls.mono (need_t _ 28 _ rfl) ?_
    rintro e w6 ⟨rfl, rfl⟩
    by_cases hlen : (layB t B).length ≤ 65515
    · have HLE : Hid ((layB t B).length ≤ 65515) := hlen
      have hdw := done_w _ (w.heap.size + 1) _ 65515 _ HW5.out (by simp; omega) (by omega)
      clear hlen
      rw [List.nil_append] at hdw
      go_wp2_with fail
      refine Calls.mono hdw ?_
      rintro e w6 ⟨u, rfl, b6⟩
      obtain ⟨ua, uc, rfl⟩ := b6.form
      have B6 : Hid (Buf w w6 _ (layB t B)) := b6.back T5.out
      clear b6 y5 hdw
      go_wp2_with fail
      refine Calls.mono (need_t _ _ _ rfl) ?_
      rintro e w7 ⟨rfl, rfl⟩
      go_wp2
      go_ret
      exact Or.inl ⟨HM.out, HLE.out, _, rfl, B6.out⟩
    · have HLE : Hid (65515 < (layB t B).length) := by show _ < _; omega
      have hdo := done_over _ (w.heap.size + 1) _ 65515 _ HW5.out (by simp; omega)
      clear hlen
      go_wp2_with fail
      refine Calls.mono hdo ?_
      rintro e w6 ⟨rfl, rfl⟩
      go_wp2_with fail
      refine Calls.mono (need_f _ 11 _ rfl) ?_
      rintro e w7 ⟨rfl, rfl⟩
      exact ⟨rfl, Or.inr (Or.inr ⟨HM.out, HLE.out, rfl, T5.out⟩)⟩
end Go.Proofs.YthdkihnmeoacaaaGreatDoor
