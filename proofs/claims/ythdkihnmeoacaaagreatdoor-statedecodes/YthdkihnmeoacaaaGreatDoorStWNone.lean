/- Contract: the writer of routers. -/
import Derived.Test.YthdkihnmeoacaaaGreatDoorStWLink
import Derived.Deep.LoopGhost
import Derived.Deep.RegionHeld3
import Derived.Test.YthdkihnmeoacaaaGreatDoorStaWr
import Derived.Test.YthdkihnmeoacaaaGreatDoorStPairs
import Derived.Test.YthdkihnmeoacaaaGreatDoorStEnc1
namespace Go.Proofs.YthdkihnmeoacaaaGreatDoor
open Go.RowKit
set_option linter.unusedVariables false
set_option maxRecDepth 100000

structure RtrW (X1 : Nat → Prop) (w : World) (b g g1 : Nat) (L : List Int) (most : Int) (ls : List LV) (B : BV) (vl vr vd : Value) (k : Nat) (i : Value) (wx : World) : Prop where
  out : ∃ j : Nat, j ≤ ls.length ∧ k = ls.length - j ∧ i = .int .i64 j ∧ Wr X1 wx b (L ++ linksB (ls.take j)) most ∧ OutB wx g B vl vr vd ∧ wx.cell? ⟨g1, 0, none⟩ = some (.pointer (some ⟨b, 0, none⟩)) ∧ Kept (but X1 g) w wx ∧ ∀ x ∈ ls.take j, 1 ≤ x.typ ∧ x.typ ≤ 4
set_option maxHeartbeats 4000000 in
theorem wrtr_any (X : Nat → Prop) (b g : Nat) (L : List Int) (most : Int) (B : BV) (a1 a3 a8 : Option Addr) (q1 q3 q8 : Nat) (ok : B.Ok) (w : World) (hw : Wr X w b L most) (hm : most ≤ 1048576) (hg : X g) (hB : OutB w g B (.slice a1 B.links.length q1) (.slice a3 B.routers.length q3) (.slice a8 B.data.length q8)) (hA : ∀ w', Kept (but X g) w w' → LinksAt w' (.slice a1 B.links.length q1) B.links) :
    Calls Tryz.prog 118 #[.agg #[.pointer (some ⟨b, 0, none⟩)], .pointer (some ⟨g, 0, none⟩)] w (WrPost 1 X b g L most B w) := by
  have OK : Hid B.Ok := ok
  have hgl := hB.lt
  have HA : Hid (∀ w', Kept (but X g) w w' → LinksAt w' (.slice a1 B.links.length q1) B.links) := hA
  clear hA
  go_enter Tryz.func118, Tryz.ntmps118
  obtain ⟨X1, hX1⟩ : ∃ X1 : Nat → Prop, X1 = fun k => X k ∨ k = w.heap.size := ⟨_, rfl⟩
  have XG : Hid (X1 g) := by show X1 g; rw [hX1]; exact Or.inl hg
  have XM : Hid (X1 w.heap.size) := by show X1 _; rw [hX1]; exact Or.inr rfl
  have XX : Hid (∀ k, X k → X1 k) := by show ∀ k, _; rw [hX1]; exact fun k hk => Or.inl hk
  have ta : Touch (fun _ => False) w (w.alloc (.cells #[.pointer (some ⟨b, 0, none⟩)] 112)) := (Touch.refl _ w).alloc _
  have HW1 : Hid (Wr X1 (w.alloc (.cells #[.pointer (some ⟨b, 0, none⟩)] 112)) b L most) := hw.more ta (fun k hk => by rw [hX1] at hk; rcases hk with hk | hk; exact Or.inl hk; exact Or.inr ⟨by omega, by simp; omega⟩)
  have HO1 : Hid (OutB (w.alloc (.cells #[.pointer (some ⟨b, 0, none⟩)] 112)) g B (.slice a1 B.links.length q1) (.slice a3 B.routers.length q3) (.slice a8 B.data.length q8)) := hB.keep ta
  have y1 : (w.alloc (.cells #[.pointer (some ⟨b, 0, none⟩)] 112)).cell? ⟨w.heap.size, 0, none⟩ = some (.pointer (some ⟨b, 0, none⟩)) := by simp [go_sem]
  have hne : ¬ w.heap.size = g := by omega
  have hne' : ¬ g = w.heap.size := by omega
  have HK1 : Hid (Kept (but X1 g) w (w.alloc (.cells #[.pointer (some ⟨b, 0, none⟩)] 112))) := Kept.of ta
  clear hX1 hw hB ta hgl ok
  go_upto_region 1 with fail
  generalize (w.alloc (.cells #[.pointer (some ⟨b, 0, none⟩)] 112)) = w1 at *
  generalize w.heap.size = g1 at *
  have d1 : w1.cell? ⟨g, 1, none⟩ = some (.slice a1 B.links.length q1) := HO1.out.bd.c1
  have f1 : w1.frozen? ⟨g, 1, none⟩ = false := HO1.out.fz 1 (by omega)
  have HW2 : Hid (Wr X1 (w1.setCell ⟨g, 1, none⟩ (.slice none 0 0)) b L most) := HW1.out.store XG.out _ _
  have HO2 : Hid (OutB (w1.setCell ⟨g, 1, none⟩ (.slice none 0 0)) g { B with links := [] } (.slice none 0 0) (.slice a3 B.routers.length q3) (.slice a8 B.data.length q8)) := HO1.out.set1
  have HK2 : Hid (Kept (but X1 g) w (w1.setCell ⟨g, 1, none⟩ (.slice none 0 0))) := HK1.out.trans (Kept.store _ _ _)
  have y2 : (w1.setCell ⟨g, 1, none⟩ (.slice none 0 0)).cell? ⟨g1, 0, none⟩ = some (.pointer (some ⟨b, 0, none⟩)) := (Kept.store (X := X1) g 1 (.slice none 0 0)).cell y1 ⟨XM.out, hne⟩
  go_upto_region 2 with (go_at_call 139; refine Calls.mono (take_links g 1 a1 B.links.length q1 _ d1 f1) ?_; rintro e w2 ⟨rfl, rfl⟩)
  clear d1 f1 HW1 HO1 HK1 y1
  generalize w1.setCell ⟨g, 1, none⟩ (.slice none 0 0) = w2 at *
  have d2 : w2.drew.cell? ⟨g, 0, none⟩ = some (.int .u8 B.flags) := HO2.out.bd.c0
  have f2 : w2.drew.frozen? ⟨g, 0, none⟩ = false := HO2.out.fz 0 (by omega)
  have y2d : w2.drew.cell? ⟨g1, 0, none⟩ = some (.pointer (some ⟨b, 0, none⟩)) := y2
  have HWt : Hid (Wr X1 (w2.drew.setCell ⟨g, 0, none⟩ (.int .u8 0)) b L most) := (HW2.out.keep ((Touch.refl _ _).drew)).store XG.out _ _
  have HOt : Hid (OutB (w2.drew.setCell ⟨g, 0, none⟩ (.int .u8 0)) g { { B with links := [] } with flags := 0 } (.slice none 0 0) (.slice a3 B.routers.length q3) (.slice a8 B.data.length q8)) := (HO2.out.keep ((Touch.refl _ _).drew)).set0
  have HKt : Hid (Kept (but X1 g) w2 (w2.drew.setCell ⟨g, 0, none⟩ (.int .u8 0))) := (Kept.of ((Touch.refl _ _).drew)).trans (Kept.store _ _ _)
  have HCt : Hid ((w2.drew.setCell ⟨g, 0, none⟩ (.int .u8 0)).cell? ⟨g1, 0, none⟩ = some (.pointer (some ⟨b, 0, none⟩))) := HKt.out.cell y2 ⟨XM.out, hne⟩
  have hl0 : (0 : Int) ≤ (B.links.length : Int) := by omega
  have hlu : IntKind.u16.wrap (B.links.length : Int) = (B.links.length : Int) % 65536 := by simp [IntKind.wrap, IntKind.bits, IntKind.signed]
  have hlv : IntKind.u32.wrap ((B.links.length : Int) % 65536) = (B.links.length : Int) % 65536 := by simp [IntKind.wrap, IntKind.bits, IntKind.signed]; omega
  have hlr : 0 ≤ (B.links.length : Int) % 65536 ∧ (B.links.length : Int) % 65536 < 65536 := by omega
  have HLE : Hid (numBytes 2 ((B.links.length : Int) % 65536) = numBytes 2 ((B.links.length : Int) % 65536)) := rfl
  go_region_held3 (fun w' => w'.cell? ⟨g1, 0, none⟩ = some (.pointer (some ⟨b, 0, none⟩))) (first | with_reducible exact y2d | with_reducible exact yx | with_reducible exact yxa | with_reducible exact yp | with_reducible exact y5) (first
    | (go_at_call 105; refine Calls.mono (number_w2 X1 b (L ++ [B.flags, 0]) most _ _ HWp.out hm hlr) ?_; rintro e w5 ⟨rfl, hw2, k2⟩; have y5 : w5.cell? ⟨g1, 0, none⟩ = some (.pointer (some ⟨b, 0, none⟩)) := k2.cell yp XM.out; have HW5 : Hid (Wr X1 w5 b (L ++ [B.flags, 0] ++ numBytes 2 ((B.links.length : Int) % 65536)) most) := hw2; have HO5 : Hid (OutB w5 g { { B with links := [] } with flags := 0 } (.slice none 0 0) (.slice a3 B.routers.length q3) (.slice a8 B.data.length q8)) := HOp.out.kept k2 XG.out; have HK5 : Hid (Kept (but X1 g) w w5) := HKp.out.trans (k2.but g); clear hw2 k2)
    | (go_at_call 84; refine Calls.mono (put_some X1 b L most ⟨wx.heap.size, 0, none⟩ 2 [B.flags, 0] _ (HWx.out.keep ((Touch.refl _ _).alloc _)) hm (src_new _ _ _ _ _ (by simp [bytesOf])) (by simp)) ?_; rintro e wp ⟨rfl, hw2, k2⟩; have yp : wp.cell? ⟨g1, 0, none⟩ = some (.pointer (some ⟨b, 0, none⟩)) := k2.cell yxa XM.out; have HWp : Hid (Wr X1 wp b (L ++ [B.flags, 0]) most) := hw2; have HOp : Hid (OutB wp g { { B with links := [] } with flags := 0 } (.slice none 0 0) (.slice a3 B.routers.length q3) (.slice a8 B.data.length q8)) := (HOx.out.keep ((Touch.refl _ _).alloc _)).kept k2 XG.out; have HKp : Hid (Kept (but X1 g) w wp) := (HKx.out.trans (Kept.of ((Touch.refl _ _).alloc _))).trans (k2.but g); clear hw2 k2)
    | (go_at_call 140; refine Calls.mono (take_u8 g 0 B.flags _ d2 f2) ?_; rintro e wx ⟨rfl, hwx⟩; have yx : wx.cell? ⟨g1, 0, none⟩ = some (.pointer (some ⟨b, 0, none⟩)) := hwx ▸ HCt.out; have HWx : Hid (Wr X1 wx b L most) := hwx ▸ HWt; have HOx : Hid (OutB wx g { { B with links := [] } with flags := 0 } (.slice none 0 0) (.slice a3 B.routers.length q3) (.slice a8 B.data.length q8)) := hwx ▸ HOt; have HKx : Hid (Kept (but X1 g) w wx) := HK2.out.trans (hwx ▸ HKt.out); have yxa : (wx.alloc (.cells #[.int .u8 B.flags, .int .u8 0] 5)).cell? ⟨g1, 0, none⟩ = some (.pointer (some ⟨b, 0, none⟩)) := ((Touch.refl _ _).alloc _).cellN yx; clear hwx))
  first | refine (‹∀ (a : Act) (w_1 : World), Code.wp Tryz.prog _ _ a w_1 → _›) _ _ ?_ | skip
  clear d2 f2 y2d HWt HOt HKt HCt yx yxa HWx HOx HKx yp HWp HOp HKp HW2 HO2 HK2 y2 hlu hlv hlr HLE
  have REL : Hid (RtrW X1 w b g g1 (L ++ [B.flags, 0] ++ numBytes 2 ((B.links.length : Int) % 65536)) most B.links { { B with links := [] } with flags := 0 } (.slice none 0 0) (.slice a3 B.routers.length q3) (.slice a8 B.data.length q8) B.links.length (.int .i64 0) w5) := ⟨0, Nat.zero_le _, by omega, rfl, by simpa [linksB] using HW5.out, HO5.out, y5, HK5.out, by simp⟩
  clear HW5 HO5 HK5 y5
  go_wp2_with fail
  go_loopg [26] B.links.length (fun k i wx => RtrW X1 w b g g1 (L ++ [B.flags, 0] ++ numBytes 2 ((B.links.length : Int) % 65536)) most B.links { { B with links := [] } with flags := 0 } (.slice none 0 0) (.slice a3 B.routers.length q3) (.slice a8 B.data.length q8) k i wx)
  case atStart => exact REL.out
  case round =>
    clear REL
    obtain ⟨k, hk, hgk, rfl, hw3, ho3, y3, hk3, hty⟩ := hrel.out
    have HW3 : Hid (Wr X1 wr b ((L ++ [B.flags, 0] ++ numBytes 2 ((B.links.length : Int) % 65536)) ++ linksB (B.links.take k)) most) := hw3
    have HO3 : Hid (OutB wr g { { B with links := [] } with flags := 0 } (.slice none 0 0) (.slice a3 B.routers.length q3) (.slice a8 B.data.length q8)) := ho3
    have HK3 : Hid (Kept (but X1 g) w wr) := hk3
    have HTY : Hid (∀ x ∈ B.links.take k, 1 ≤ x.typ ∧ x.typ ≤ 4) := hty
    clear hw3 ho3 hk3 hrel hty
    by_cases hlt : k < B.links.length
    · have hlt' : (k : Int) < (B.links.length : Int) := by omega
      have hk0 : (0 : Int) ≤ (k : Int) := by omega
      obtain ⟨x, hx⟩ : ∃ x, B.links[k]? = some x := ⟨B.links[k], by simp [hlt]⟩
      obtain ⟨gR, off, cR, eR, hc1, hc2, hcell⟩ := ValsAt.cells (HA.out wr (HK3.out.less (fun k _ h => ⟨XX.out k h.1, h.2⟩))) (by omega) (by omega)
      cases eR
      have hca : ∀ i u, i < 4 → x.cells[i]? = some u → wr.cell? ⟨gR, off + (k * 4 + i), none⟩ = some u := fun i u hi hu => hcell (k * 4 + i) u (by rw [linksC_at B.links k i x hx hi]; exact hu)
      have c0 : wr.cell? ⟨gR, off + k * 4, none⟩ = some (.int .u32 x.id) := hca 0 _ (by omega) rfl
      have c1 : wr.cell? ⟨gR, off + k * 4 + 1, none⟩ = some (.int .u32 x.data) := by rw [Nat.add_assoc]; exact hca 1 _ (by omega) rfl
      have c2 : wr.cell? ⟨gR, off + k * 4 + 2, none⟩ = some (.int .u8 x.typ) := by rw [Nat.add_assoc]; exact hca 2 _ (by omega) rfl
      have c3 : wr.cell? ⟨gR, off + k * 4 + 3, none⟩ = some (.int .u16 x.cost) := by rw [Nat.add_assoc]; exact hca 3 _ (by omega) rfl
      have hmem : x ∈ B.links := List.mem_of_getElem? hx
      have OKx : Hid x.Ok := OK.out.l x hmem
      have HX : Hid (B.links.take (k + 1) = B.links.take k ++ [x]) := by show _ = _; rw [List.take_add_one, hx]; rfl
      have HMM : Hid (x ∈ B.links) := hmem
      have hkw : wrap64 ((k : Int) + 1) = (k : Int) + 1 := by unfold wrap64; unfold maxLen at hc2; omega
      have hg1l : g1 < wr.heap.size := lt_of_cell y3
      have hg1n : ¬ g1 = wr.heap.size := by omega
      have ta3 : Hid (Touch (fun _ => False) wr (wr.alloc (.cells #[.int .u32 x.id, .int .u32 x.data, .int .u8 x.typ, .int .u16 x.cost] 120))) := (Touch.refl _ _).alloc _
      clear hcell hca hx hmem
      go_wp2_with fail
      refine Calls.mono (wlink_any X1 b _ most x OKx.out _ (HW3.out.keep ta3.out) hm) ?_
      rintro e w4 (⟨rfl, hp, hw4, k4⟩ | ⟨rfl, hp, k4⟩)
      rotate_left
      · exact ⟨rfl, wr_flaw HK3.out ((Kept.of ta3.out).trans (k4.but g)) XX.out (may1_no HMM.out hp)⟩
      have y4 := k4.cell (p := ⟨g1, 0, none⟩) (v := .pointer (some ⟨b, 0, none⟩)) (ta3.out.cellN y3) XM.out
      have HW4 : Hid (Wr X1 w4 b ((L ++ [B.flags, 0] ++ numBytes 2 ((B.links.length : Int) % 65536)) ++ linksB (B.links.take k) ++ linkB x) most) := hw4
      have HO4 : Hid (OutB w4 g { { B with links := [] } with flags := 0 } (.slice none 0 0) (.slice a3 B.routers.length q3) (.slice a8 B.data.length q8)) := (HO3.out.keep ta3.out).kept k4 XG.out
      have HK4 : Hid (Kept (but X1 g) w w4) := HK3.out.trans ((Kept.of ta3.out).trans (k4.but g))
      have HP4 : Hid (1 ≤ x.typ ∧ x.typ ≤ 4) := hp
      clear hw4 k4 y3 HW3 HO3 HK3 c0 c1 c2 c3 hp ta3 hg1l hg1n
      go_wp2_with fail
      go_roundg (B.links.length - (k + 1))
      case measure => omega
      case rel =>
        refine ⟨k + 1, by omega, by omega, by go_num, ?_, HO4.out, y4, HK4.out, ?_⟩
        · rw [HX.out, linksB_snoc]
          simpa [List.append_assoc] using HW4.out
        · rw [HX.out]
          intro z hz
          rcases List.mem_append.1 hz with hz | hz
          · exact HTY.out z hz
          · obtain rfl := List.mem_singleton.1 hz
            exact HP4.out
    · obtain rfl : k = B.links.length := by omega
      have HW5 : Hid (Wr X1 wr b ((L ++ [B.flags, 0] ++ numBytes 2 ((B.links.length : Int) % 65536)) ++ linksB B.links) most) := by have := HW3.out; rwa [List.take_length] at this
      have HTZ : Hid (∀ x ∈ B.links, 1 ≤ x.typ ∧ x.typ ≤ 4) := by have := HTY.out; rwa [List.take_length] at this
      clear HW3
      go_wp2_with fail
      go_end0
      exact wr_good (l := [B.flags, 0] ++ numBytes 2 ((B.links.length : Int) % 65536) ++ linksB B.links) (by have := HW5.out.less XX.out; simpa [List.append_assoc] using this) HO3.out (HK3.out.less (Y := but X g) (fun k _ h => ⟨XX.out k h.1, h.2⟩)) (may1 HTZ.out) (fun _ => (lay1 B).symm)
end Go.Proofs.YthdkihnmeoacaaaGreatDoor

namespace Go.Proofs.YthdkihnmeoacaaaGreatDoor
open Go.RowKit
set_option linter.unusedVariables false
set_option maxRecDepth 100000

theorem write_none (B : BV) (t : Int) (a1 a3 a8 : Option Addr) (n1 q1 n3 q3 n8 q8 : Nat) (w : World) (HP : ∀ w, Calls Tryz.prog 73 #[.int .u8 t] w fun e w' => e = .panicked (flawC 21) ∧ Touch (fun _ => False) w w') :
    Calls Tryz.prog 39 #[.int .u8 t, .agg #[.int .u8 B.flags, .slice a1 n1 q1, .int .u32 B.mask, .slice a3 n3 q3, .int .u32 B.metric, .bool B.type2, .int .u32 B.fwd, .int .u32 B.tag, .slice a8 n8 q8]] w fun e w' => e = .panicked (flawC 21) ∧ Touch (fun _ => False) w w' := by
  have HPh : Hid (∀ w, Calls Tryz.prog 73 #[.int .u8 t] w fun e w' => e = .panicked (flawC 21) ∧ Touch (fun _ => False) w w') := HP
  clear HP
  have hfl : ∀ w, (Instr.field 99 (.agg #[.func (.func 122) #[] #[], .func (.func 123) #[] #[]]) 0).run Tryz.prog w = .ok (.func (.func 122) #[] #[]) w := fun _ => by kernel_rfl
  go_enter Tryz.func39, Tryz.ntmps39
  go_wp2_with fail
  refine Calls.mono (write_w 65515 _ (by omega)) ?_
  rintro e w1 ⟨rfl, hw1, t1⟩
  have T1 : Hid (Touch (fun _ => False) w w1) := ((Touch.refl _ w).alloc _).trans t1
  clear t1 hw1
  go_upto_region 2 with fail
  have TB : Hid (Touch (fun _ => False) w (w1.alloc (.cells #[.pointer (some ⟨w.heap.size + 1, 0, none⟩)] 112)).drew) := (T1.out.alloc _).drew
  have y0 : (w1.alloc (.cells #[.pointer (some ⟨w.heap.size + 1, 0, none⟩)] 112)).drew.cell? ⟨w1.heap.size, 0, none⟩ = some (.pointer (some ⟨w.heap.size + 1, 0, none⟩)) := by simp [go_sem]
  generalize (w1.alloc (.cells #[.pointer (some ⟨w.heap.size + 1, 0, none⟩)] 112)) = w2 at *
  go_region_held2 (fun w' => w'.cell? ⟨w1.heap.size, 0, none⟩ = some (.pointer (some ⟨w.heap.size + 1, 0, none⟩))) (first | with_reducible exact y0 | with_reducible exact y1) (first
    | (go_at_call 73; refine Calls.mono (Calls.never (.agg #[.func (.func 122) #[] #[], .func (.func 123) #[] #[]]) (HPh.out _)) ?_; rintro e w3 (⟨rfl, t3⟩ | ⟨HF, rfl⟩); exact ⟨rfl, rfl, TB.out.trans t3⟩; have y1 : w3.cell? ⟨w1.heap.size, 0, none⟩ = some (.pointer (some ⟨w.heap.size + 1, 0, none⟩)) := HF.out.elim)
    | (go_at_call 122; refine Calls.mono (HF.out.elim : Calls Tryz.prog 122 #[_, _] w3 fun e w' => e = .returned (.tuple #[]) ∧ w3 = w') ?_; rintro e w5 ⟨rfl, rfl⟩))
  exact HF.out.elim
end Go.Proofs.YthdkihnmeoacaaaGreatDoor
