/- A packet, an Auth: their numbers, their cells. -/
import Derived.Test.YtbfplepmgbkajaaGreatDoorKeep
import Derived.Test.YtbfplepmgbkajaaGreatDoorWideV
import Derived.Test.YtbfplepmgbkajaaGreatDoorPkWr
import Derived.Test.YtbfplepmgbkajaaGreatDoorStRd3
import Derived.Deep.RegionHeld3
import Derived.Deep.DeepCutAuto
import Derived.Deep.RegionHeld2
import Derived.Test.YtbfplepmgbkajaaGreatDoorNumber
namespace Go.Proofs.YtbfplepmgbkajaaGreatDoor
open Go.RowKit
set_option linter.unusedVariables false
set_option maxRecDepth 100000

/-- A packet's numbers. -/
structure PV where
 typ : Int
 router : Int
 area : Int
 mask : Int
 iv : Int
 opts : Int
 prio : Int
 dead : Int
 dr : Int
 bdr : Int
 mtu : Int
 dopts : Int
 dflags : Int
 dseq : Int
/-- They fit their kinds. -/
structure PV.Ok (P : PV) : Prop where
 typ : 0 ≤ P.typ ∧ P.typ < 256
 router : 0 ≤ P.router ∧ P.router < 4294967296
 area : 0 ≤ P.area ∧ P.area < 4294967296
 mask : 0 ≤ P.mask ∧ P.mask < 4294967296
 iv : 0 ≤ P.iv ∧ P.iv < 65536
 opts : 0 ≤ P.opts ∧ P.opts < 256
 prio : 0 ≤ P.prio ∧ P.prio < 256
 dead : 0 ≤ P.dead ∧ P.dead < 4294967296
 dr : 0 ≤ P.dr ∧ P.dr < 4294967296
 bdr : 0 ≤ P.bdr ∧ P.bdr < 4294967296
 mtu : 0 ≤ P.mtu ∧ P.mtu < 65536
 dopts : 0 ≤ P.dopts ∧ P.dopts < 256
 dflags : 0 ≤ P.dflags ∧ P.dflags < 256
 dseq : 0 ≤ P.dseq ∧ P.dseq < 4294967296
def PV.v (P : PV) (vn vd vk vs vh : Value) : Value := .agg #[.int .u8 P.typ, .int .u32 P.router, .int .u32 P.area, .int .u32 P.mask, .int .u16 P.iv, .int .u8 P.opts, .int .u8 P.prio, .int .u32 P.dead, .int .u32 P.dr, .int .u32 P.bdr, vn, .int .u16 P.mtu, .int .u8 P.dopts, .int .u8 P.dflags, .int .u32 P.dseq, vd, vk, vs, vh]
/-- It lies in block g. -/
structure Pd (w : World) (g : Nat) (P : PV) (vn vd vk vs vh : Value) : Prop where
 c0 : w.cell? ⟨g, 0, none⟩ = some (.int .u8 P.typ)
 c1 : w.cell? ⟨g, 1, none⟩ = some (.int .u32 P.router)
 c2 : w.cell? ⟨g, 2, none⟩ = some (.int .u32 P.area)
 c3 : w.cell? ⟨g, 3, none⟩ = some (.int .u32 P.mask)
 c4 : w.cell? ⟨g, 4, none⟩ = some (.int .u16 P.iv)
 c5 : w.cell? ⟨g, 5, none⟩ = some (.int .u8 P.opts)
 c6 : w.cell? ⟨g, 6, none⟩ = some (.int .u8 P.prio)
 c7 : w.cell? ⟨g, 7, none⟩ = some (.int .u32 P.dead)
 c8 : w.cell? ⟨g, 8, none⟩ = some (.int .u32 P.dr)
 c9 : w.cell? ⟨g, 9, none⟩ = some (.int .u32 P.bdr)
 c10 : w.cell? ⟨g, 10, none⟩ = some (vn)
 c11 : w.cell? ⟨g, 11, none⟩ = some (.int .u16 P.mtu)
 c12 : w.cell? ⟨g, 12, none⟩ = some (.int .u8 P.dopts)
 c13 : w.cell? ⟨g, 13, none⟩ = some (.int .u8 P.dflags)
 c14 : w.cell? ⟨g, 14, none⟩ = some (.int .u32 P.dseq)
 c15 : w.cell? ⟨g, 15, none⟩ = some (vd)
 c16 : w.cell? ⟨g, 16, none⟩ = some (vk)
 c17 : w.cell? ⟨g, 17, none⟩ = some (vs)
 c18 : w.cell? ⟨g, 18, none⟩ = some (vh)
theorem Pd.keep {w w' : World} {g : Nat} {P : PV} {vn vd vk vs vh : Value} (k : Pd w g P vn vd vk vs vh) (t : Touch (fun _ => False) w w') : Pd w' g P vn vd vk vs vh :=
 ⟨t.cellN k.c0, t.cellN k.c1, t.cellN k.c2, t.cellN k.c3, t.cellN k.c4, t.cellN k.c5, t.cellN k.c6, t.cellN k.c7, t.cellN k.c8, t.cellN k.c9, t.cellN k.c10, t.cellN k.c11, t.cellN k.c12, t.cellN k.c13, t.cellN k.c14, t.cellN k.c15, t.cellN k.c16, t.cellN k.c17, t.cellN k.c18⟩
theorem Pd.new (w : World) (P : PV) (vn vd vk vs vh : Value) (t : TypeId) : Pd (w.alloc (.cells #[.int .u8 P.typ, .int .u32 P.router, .int .u32 P.area, .int .u32 P.mask, .int .u16 P.iv, .int .u8 P.opts, .int .u8 P.prio, .int .u32 P.dead, .int .u32 P.dr, .int .u32 P.bdr, vn, .int .u16 P.mtu, .int .u8 P.dopts, .int .u8 P.dflags, .int .u32 P.dseq, vd, vk, vs, vh] t)) w.heap.size P vn vd vk vs vh :=
 ⟨by simp [go_sem], by simp [go_sem], by simp [go_sem], by simp [go_sem], by simp [go_sem], by simp [go_sem], by simp [go_sem], by simp [go_sem], by simp [go_sem], by simp [go_sem], by simp [go_sem], by simp [go_sem], by simp [go_sem], by simp [go_sem], by simp [go_sem], by simp [go_sem], by simp [go_sem], by simp [go_sem], by simp [go_sem]⟩
/-- An Auth's numbers. -/
structure AuV where
 kind : Int
 d0 : Int
 d1 : Int
 d2 : Int
 d3 : Int
 d4 : Int
 d5 : Int
 d6 : Int
 d7 : Int
structure AuV.Ok (A : AuV) : Prop where
 kind : 0 ≤ A.kind ∧ A.kind < 65536
 d0 : 0 ≤ A.d0 ∧ A.d0 < 256
 d1 : 0 ≤ A.d1 ∧ A.d1 < 256
 d2 : 0 ≤ A.d2 ∧ A.d2 < 256
 d3 : 0 ≤ A.d3 ∧ A.d3 < 256
 d4 : 0 ≤ A.d4 ∧ A.d4 < 256
 d5 : 0 ≤ A.d5 ∧ A.d5 < 256
 d6 : 0 ≤ A.d6 ∧ A.d6 < 256
 d7 : 0 ≤ A.d7 ∧ A.d7 < 256
def AuV.v (A : AuV) : Value := .agg #[.int .u16 A.kind, .int .u8 A.d0, .int .u8 A.d1, .int .u8 A.d2, .int .u8 A.d3, .int .u8 A.d4, .int .u8 A.d5, .int .u8 A.d6, .int .u8 A.d7]
def AuV.data (A : AuV) : List Int := [A.d0, A.d1, A.d2, A.d3, A.d4, A.d5, A.d6, A.d7]
structure Ad (w : World) (g : Nat) (A : AuV) : Prop where
 c0 : w.cell? ⟨g, 0, none⟩ = some (.int .u16 A.kind)
 c1 : w.cell? ⟨g, 1, none⟩ = some (.int .u8 A.d0)
 c2 : w.cell? ⟨g, 2, none⟩ = some (.int .u8 A.d1)
 c3 : w.cell? ⟨g, 3, none⟩ = some (.int .u8 A.d2)
 c4 : w.cell? ⟨g, 4, none⟩ = some (.int .u8 A.d3)
 c5 : w.cell? ⟨g, 5, none⟩ = some (.int .u8 A.d4)
 c6 : w.cell? ⟨g, 6, none⟩ = some (.int .u8 A.d5)
 c7 : w.cell? ⟨g, 7, none⟩ = some (.int .u8 A.d6)
 c8 : w.cell? ⟨g, 8, none⟩ = some (.int .u8 A.d7)
theorem Ad.keep {w w' : World} {g : Nat} {A : AuV} (k : Ad w g A) (t : Touch (fun _ => False) w w') : Ad w' g A :=
 ⟨t.cellN k.c0, t.cellN k.c1, t.cellN k.c2, t.cellN k.c3, t.cellN k.c4, t.cellN k.c5, t.cellN k.c6, t.cellN k.c7, t.cellN k.c8⟩
theorem Ad.new (w : World) (A : AuV) (t : TypeId) : Ad (w.alloc (.cells #[.int .u16 A.kind, .int .u8 A.d0, .int .u8 A.d1, .int .u8 A.d2, .int .u8 A.d3, .int .u8 A.d4, .int .u8 A.d5, .int .u8 A.d6, .int .u8 A.d7] t)) w.heap.size A :=
 ⟨by simp [go_sem], by simp [go_sem], by simp [go_sem], by simp [go_sem], by simp [go_sem], by simp [go_sem], by simp [go_sem], by simp [go_sem], by simp [go_sem]⟩
theorem Ad.arg {w : World} {g : Nat} {A : AuV} (k : Ad w g A) : ArgAt w (.slice (some ⟨g, 1, none⟩) 8 8) A.data := by
 refine Or.inr ⟨_, 8, rfl, by simp [AuV.data], by simp [maxLen], ?_⟩
 intro j u hj
 unfold AuV.data at hj
 match j, hj with
 | 0, h => cases h; exact k.c1
 | 1, h => cases h; exact k.c2
 | 2, h => cases h; exact k.c3
 | 3, h => cases h; exact k.c4
 | 4, h => cases h; exact k.c5
 | 5, h => cases h; exact k.c6
 | 6, h => cases h; exact k.c7
 | 7, h => cases h; exact k.c8
 | j + 8, h => simp [bytesOf] at h
theorem two_arg {w : World} {g : Nat} {a b : Int} (h0 : w.cell? ⟨g, 0, none⟩ = some (.int .u8 a)) (h1 : w.cell? ⟨g, 1, none⟩ = some (.int .u8 b)) : ArgAt w (.slice (some ⟨g, 0, none⟩) 2 2) [a, b] := by
 refine Or.inr ⟨_, 2, rfl, by simp, by simp [maxLen], ?_⟩
 intro j u hj
 match j, hj with
 | 0, h => cases h; exact h0
 | 1, h => cases h; exact h1
 | j + 2, h => simp [bytesOf] at h
end Go.Proofs.YtbfplepmgbkajaaGreatDoor

namespace Go.Proofs.YtbfplepmgbkajaaGreatDoor
open Go.RowKit
set_option linter.unusedVariables false
set_option maxRecDepth 100000

/-- Of x nothing in Y has turned. -/
structure Hold (Y : Nat → Prop) (x w : World) : Prop where
 k : Kept Y x w
theorem Hold.step {Y : Nat → Prop} {x w w' : World} (h : Hold Y x w) (t : Touch (fun _ => False) w w') : Hold Y x w' := ⟨h.k.trans (Kept.of t)⟩
theorem hold_cell {Y : Nat → Prop} {x : World} {p : Addr} {v : Value} (h : x.cell? p = some v) (hy : Y p.block) : ∀ w, Hold Y x w → w.cell? p = some v := fun w s => s.k.cell h hy
/-- A writer that holds L, of m bytes at most. -/
structure WL (Y : Nat → Prop) (x w : World) (b : Nat) (L : List Int) (m : Nat) : Prop where
 k : Hold Y x w
 wr : Wr Y w b L 65535
 le : L.length ≤ m
theorem WL.step {Y : Nat → Prop} {x w w' : World} {b : Nat} {L : List Int} {m : Nat} (h : WL Y x w b L m) (t : Touch (fun _ => False) w w') : WL Y x w' b L m := ⟨h.k.step t, h.wr.keep t, h.le⟩
theorem pnum_i (n : Int) (hn : n = 1 ∨ n = 2 ∨ n = 4) {Y : Nat → Prop} {x0 w : World} {b : Nat} {L : List Int} {m : Nat} (x : Int) (h : WL Y x0 w b L m) (h0 : 0 ≤ x) (hx : x < numTop n) (hm : m + n.toNat ≤ 65535) :
  Calls Tryz.prog 125 #[.agg #[.pointer (some ⟨b, 0, none⟩)], .int .u32 x, .int .i64 n] w fun e w' => e = .returned (.agg #[.pointer (some ⟨b, 0, none⟩)]) ∧ WL Y x0 w' b (L ++ numBytes n.toNat x) (m + n.toNat) := by
 have hL := h.le
 have key : ∀ k : Nat, (k = 1 ∨ k = 2 ∨ k = 4) → n = (k : Int) → x < 256 ^ k → Calls Tryz.prog 125 #[.agg #[.pointer (some ⟨b, 0, none⟩)], .int .u32 x, .int .i64 n] w fun e w' => e = .returned (.agg #[.pointer (some ⟨b, 0, none⟩)]) ∧ WL Y x0 w' b (L ++ numBytes n.toNat x) (m + n.toNat) := by
  intro k hk e hk2
  subst e
  rw [Int.toNat_natCast] at hm ⊢
  refine (pwnum_ok k (by omega) x Y b L w h.wr (by omega) ⟨h0, hk2⟩ (by omega)).mono ?_
  rintro e w' ⟨rfl, h', k'⟩
  exact ⟨rfl, ⟨h.k.k.trans k'⟩, h', by rw [List.length_append, length_numBytes (by omega)]; omega⟩
 rcases hn with rfl | rfl | rfl
 ·exact key 1 (by omega) rfl (by simpa [numTop] using hx)
 ·exact key 2 (by omega) rfl (by simpa [numTop] using hx)
 ·exact key 4 (by omega) rfl (by simpa [numTop] using hx)
theorem pput_i {Y : Nat → Prop} {x0 w : World} {b : Nat} {L : List Int} {m : Nat} (s : Value) (ns : List Int) (h : WL Y x0 w b L m) (hs : ArgAt w s ns) (hm : m + ns.length ≤ 65535) :
  Calls Tryz.prog 124 #[.agg #[.pointer (some ⟨b, 0, none⟩)], s] w fun e w' => e = .returned (.agg #[.pointer (some ⟨b, 0, none⟩)]) ∧ WL Y x0 w' b (L ++ ns) (m + ns.length) := by
 have hL := h.le
 refine (pwput_ok s ns Y b L w h.wr (by omega) hs (by omega) (by omega)).mono ?_
 rintro e w' ⟨rfl, h', k'⟩
 exact ⟨rfl, ⟨h.k.k.trans k'⟩, h', by rw [List.length_append]; omega⟩
/-- The head, its length and its sum 0. -/
def pheadB (P : PV) (A : AuV) : List Int := [2, P.typ] ++ numBytes 2 0 ++ numBytes 4 P.router ++ numBytes 4 P.area ++ numBytes 2 0 ++ numBytes 2 A.kind ++ A.data

set_option maxHeartbeats 4000000 in
theorem pwhead_any (X : Nat → Prop) (b : Nat) (P : PV) (ok : P.Ok) (vn vd vk vs vh : Value) (A : AuV) (oa : A.Ok) (w : World) (hw : Wr X w b [] 65535) :
  Calls Tryz.prog 96 #[.agg #[.pointer (some ⟨b, 0, none⟩)], P.v vn vd vk vs vh, A.v] w fun e w' => e = .returned (.tuple #[]) ∧ Wr X w' b (pheadB P A) 65535 ∧ Kept X w w' := by
 obtain ⟨ot0, ot1⟩ := ok.typ
 obtain ⟨or0, or1⟩ := ok.router
 obtain ⟨oe0, oe1⟩ := ok.area
 obtain ⟨ok0, ok1⟩ := oa.kind
 clear ok oa
 have qk := wrap_u32 ok0 (by omega)
 obtain ⟨wa, hwa⟩ : ∃ wa, wa = ((w.alloc (.cells #[.pointer (some ⟨b, 0, none⟩)] 137)).alloc (.cells #[.int .u8 P.typ, .int .u32 P.router, .int .u32 P.area, .int .u32 P.mask, .int .u16 P.iv, .int .u8 P.opts, .int .u8 P.prio, .int .u32 P.dead, .int .u32 P.dr, .int .u32 P.bdr, vn, .int .u16 P.mtu, .int .u8 P.dopts, .int .u8 P.dflags, .int .u32 P.dseq, vd, vk, vs, vh] 33)).alloc (.cells #[.int .u16 A.kind, .int .u8 A.d0, .int .u8 A.d1, .int .u8 A.d2, .int .u8 A.d3, .int .u8 A.d4, .int .u8 A.d5, .int .u8 A.d6, .int .u8 A.d7] 44) := ⟨_, rfl⟩
 have ta : Touch (fun _ => False) w wa := by rw [hwa]; exact (((Touch.refl _ w).alloc _).alloc _).alloc _
 have za : wa.heap.size = w.heap.size + 3 := by rw [hwa]; simp
 have ca : wa.cell? ⟨w.heap.size, 0, none⟩ = some (.pointer (some ⟨b, 0, none⟩)) := by rw [hwa]; simp [go_sem]
 have pa : Pd wa (w.heap.size + 1) P vn vd vk vs vh := by
  have := (Pd.new (w.alloc (.cells #[.pointer (some ⟨b, 0, none⟩)] 137)) P vn vd vk vs vh 33).keep ((Touch.refl _ _).alloc (.cells #[.int .u16 A.kind, .int .u8 A.d0, .int .u8 A.d1, .int .u8 A.d2, .int .u8 A.d3, .int .u8 A.d4, .int .u8 A.d5, .int .u8 A.d6, .int .u8 A.d7] 44))
  rw [← hwa] at this
  simpa using this
 have aa : Ad wa (w.heap.size + 1 + 1) A := by
  have := Ad.new ((w.alloc (.cells #[.pointer (some ⟨b, 0, none⟩)] 137)).alloc (.cells #[.int .u8 P.typ, .int .u32 P.router, .int .u32 P.area, .int .u32 P.mask, .int .u16 P.iv, .int .u8 P.opts, .int .u8 P.prio, .int .u32 P.dead, .int .u32 P.dr, .int .u32 P.bdr, vn, .int .u16 P.mtu, .int .u8 P.dopts, .int .u8 P.dflags, .int .u32 P.dseq, vd, vk, vs, vh] 33)) A 44
  rw [← hwa] at this
  simpa using this
 obtain ⟨Y, hY⟩ : ∃ Y : Nat → Prop, Y = fun k => X k ∨ (w.heap.size ≤ k ∧ k < wa.heap.size) := ⟨_, rfl⟩
 have ya : ∀ k, w.heap.size ≤ k → k < w.heap.size + 3 → Y k := by subst hY; exact fun k h1 h2 => Or.inr (by omega)
 have WA : WL Y wa wa.drew b [] 0 := ⟨⟨Kept.of ((Touch.refl _ _).drew)⟩, by subst hY; exact (hw.more ta (fun k hk => hk)).keep ((Touch.refl _ _).drew), by simp⟩
 have YX : Hid (∀ k, X k → Y k) := by subst hY; exact fun k hk => Or.inl hk
 have TA : Hid (Touch (fun _ => False) w wa) := ta
 have c0 := hold_cell ca (ya _ (by dsimp only; omega) (by dsimp only; omega))
 have p0 := hold_cell pa.c0 (ya _ (by dsimp only; omega) (by dsimp only; omega))
 have p1 := hold_cell pa.c1 (ya _ (by dsimp only; omega) (by dsimp only; omega))
 have p2 := hold_cell pa.c2 (ya _ (by dsimp only; omega) (by dsimp only; omega))
 have a0 := hold_cell aa.c0 (ya _ (by dsimp only; omega) (by dsimp only; omega))
 have AA : Hid (∀ w', Hold Y wa w' → ArgAt w' (.slice (some ⟨w.heap.size + 1 + 1, 1, none⟩) 8 8) A.data) := fun w' s => (⟨hold_cell aa.c0 (ya _ (by dsimp only; omega) (by dsimp only; omega)) w' s, hold_cell aa.c1 (ya _ (by dsimp only; omega) (by dsimp only; omega)) w' s, hold_cell aa.c2 (ya _ (by dsimp only; omega) (by dsimp only; omega)) w' s, hold_cell aa.c3 (ya _ (by dsimp only; omega) (by dsimp only; omega)) w' s, hold_cell aa.c4 (ya _ (by dsimp only; omega) (by dsimp only; omega)) w' s, hold_cell aa.c5 (ya _ (by dsimp only; omega) (by dsimp only; omega)) w' s, hold_cell aa.c6 (ya _ (by dsimp only; omega) (by dsimp only; omega)) w' s, hold_cell aa.c7 (ya _ (by dsimp only; omega) (by dsimp only; omega)) w' s, hold_cell aa.c8 (ya _ (by dsimp only; omega) (by dsimp only; omega)) w' s⟩ : Ad w' (w.heap.size + 1 + 1) A).arg
 have st : Hold Y wa wa.drew := WA.k
 show Calls Tryz.prog 96 #[.agg #[.pointer (some ⟨b, 0, none⟩)], .agg #[.int .u8 P.typ, .int .u32 P.router, .int .u32 P.area, .int .u32 P.mask, .int .u16 P.iv, .int .u8 P.opts, .int .u8 P.prio, .int .u32 P.dead, .int .u32 P.dr, .int .u32 P.bdr, vn, .int .u16 P.mtu, .int .u8 P.dopts, .int .u8 P.dflags, .int .u32 P.dseq, vd, vk, vs, vh], .agg #[.int .u16 A.kind, .int .u8 A.d0, .int .u8 A.d1, .int .u8 A.d2, .int .u8 A.d3, .int .u8 A.d4, .int .u8 A.d5, .int .u8 A.d6, .int .u8 A.d7]] w _
 clear hw ta za ca pa aa hY ya
 go_enter Tryz.func96, Tryz.ntmps96
 go_upto_region 1 with fail
 rw [← hwa]
 clear hwa
 generalize w.heap.size + 1 + 1 = g3 at *
 generalize w.heap.size + 1 = g2 at *
 generalize w.heap.size = g1 at *
 go_region_held3 (fun w' => Hold Y wa w') (first | with_reducible assumption | exact Hold.step (by assumption) ((Touch.refl _ _).alloc _) | exact Hold.step (by assumption) ((Touch.refl _ _).drew)) (first
  | (go_at_call 124; refine Calls.mono (pput_i _ [2, P.typ] (WL.step WA ((Touch.refl _ _).alloc _)) (two_arg (by simp [go_sem]) (by simp [go_sem])) (by simp)) ?_; rintro e wx ⟨rfl, hx⟩; have sx := hx.k)
  | (go_at_call 125; refine Calls.mono (pnum_i _ (by omega) _ (by assumption) (by omega) (by simp [numTop] <;> omega) (by simp)) ?_; rintro e wx ⟨rfl, hx⟩; have sx := hx.k))
 have WB := hx.step ((Touch.refl _ _).drew)
 have st2 : Hold Y wa wx.drew := WB.k
 clear hx sx
 go_upto_region 2 with fail
 go_region_held3 (fun w' => Hold Y wa w') (first | with_reducible assumption | exact Hold.step (by assumption) ((Touch.refl _ _).drew)) (first
  | (go_at_call 124; refine Calls.mono (pput_i _ A.data (by assumption) (AA.out _ (by assumption)) (by simp [AuV.data])) ?_; rintro e wy ⟨rfl, hy⟩; have sy := hy.k)
  | (go_at_call 125; refine Calls.mono (pnum_i _ (by omega) _ (by assumption) (by omega) (by simp [numTop] <;> omega) (by simp)) ?_; rintro e wy ⟨rfl, hy⟩; have sy := hy.k))
 go_wp2
 go_end0
 refine ⟨rfl, ?_, ?_⟩
 ·have := hy.wr.less YX.out
  simpa [pheadB, List.append_assoc] using this
 ·exact (Kept.of TA.out).trans (hy.k.k.less (fun k _ hk => YX.out k hk))
end Go.Proofs.YtbfplepmgbkajaaGreatDoor

namespace Go.Proofs.YtbfplepmgbkajaaGreatDoor
open Go.RowKit
set_option linter.unusedVariables false
set_option maxRecDepth 100000

theorem shead_any (h : HV) (ok : h.All) (w : World) : Calls Tryz.prog 181 #[.agg #[.int .u16 h.age, .int .u8 h.opts, .int .u8 h.typ, .int .u32 h.id, .int .u32 h.adv, .int .i32 h.seq, .int .u16 h.sum, .int .u16 h.len]] w fun e w' => ∃ u, e = .returned u ∧ Buf w w' u (headB h) := by
 have HB := fun o => bytes_any h ok (.slice none 0 0) [] (w.alloc o) (Or.inl ⟨rfl, rfl⟩) (by simp)
 unfold HV.sv at HB
 simp only [List.append_nil] at HB
 clear ok
 generalize headB h = l at HB ⊢
 go_enter Tryz.func181, Tryz.ntmps181
 go_wp2_with fail
 refine Calls.mono (HB _) ?_
 rintro e w1 ⟨u, rfl, b1⟩
 obtain ⟨xa, xc, rfl⟩ := b1.form
 have B1 : Hid (Buf w w1 (.slice xa l.length xc) l) := b1.back ((Touch.refl _ w).alloc _)
 clear b1 HB
 go_wp2
 go_ret
 exact ⟨.slice xa l.length xc, rfl, B1.out⟩
end Go.Proofs.YtbfplepmgbkajaaGreatDoor

namespace Go.Proofs.YtbfplepmgbkajaaGreatDoor
open Go.RowKit
set_option linter.unusedVariables false
set_option maxRecDepth 100000

def HV.cells (x : HV) : List Value := [.int .u16 x.age, .int .u8 x.opts, .int .u8 x.typ, .int .u32 x.id, .int .u32 x.adv, .int .i32 x.seq, .int .u16 x.sum, .int .u16 x.len]
def headsC (l : List HV) : List Value := l.flatMap HV.cells
theorem headsC_at (l : List HV) (j i : Nat) (x : HV) (hj : l[j]? = some x) (hi : i < 8) : (headsC l)[j * 8 + i]? = x.cells[i]? := by
 induction l generalizing j with
 | nil => simp at hj
 | cons y r ih =>
  have e : headsC (y :: r) = y.cells ++ headsC r := by simp [headsC]
  have hl : y.cells.length = 8 := rfl
  rw [e]
  cases j with
  | zero =>
   obtain rfl : y = x := by simpa using hj
   rw [List.getElem?_append_left (by omega), Nat.zero_mul, Nat.zero_add]
  | succ j =>
   rw [List.getElem?_append_right (by omega), hl, show (j + 1) * 8 + i - 8 = j * 8 + i by omega]
   exact ih j (by simpa using hj)
def HeadsAt (w : World) (v : Value) (l : List HV) : Prop := ValsAt w 8 v l.length (headsC l)
theorem HeadsAt.one {w : World} {v : Value} {l : List HV} (h : HeadsAt w v l) {j : Nat} {x : HV} (hj : l[j]? = some x) : ∃ g off c, v = .slice (some ⟨g, off, none⟩) l.length c ∧ ∀ i u, x.cells[i]? = some u → w.cell? ⟨g, off + (j * 8 + i), none⟩ = some u := by
 have hlt := (List.getElem?_eq_some_iff.mp hj).1
 obtain ⟨g, off, c, e, _, _, hc⟩ := ValsAt.cells h (by omega) (by omega)
 refine ⟨g, off, c, e, fun i u hu => hc _ _ ?_⟩
 have hi : i < 8 := (List.getElem?_eq_some_iff.mp hu).1
 rw [headsC_at l j i x hj hi]
 exact hu
def headsB (l : List HV) : List Int := l.flatMap headB
theorem headsB_snoc (l : List HV) (x : HV) : headsB (l ++ [x]) = headsB l ++ headB x := by simp [headsB]
theorem length_headsB (l : List HV) : (headsB l).length = 20 * l.length := by
 induction l with
 | nil => rfl
 | cons x r ih => rw [show headsB (x :: r) = headB x ++ headsB r by simp [headsB], List.length_append, ih, length_headB, List.length_cons]; omega
theorem pwput_or (s : Value) (ns : List Int) {Y : Nat → Prop} {x0 w : World} {b : Nat} {L : List Int} {m : Nat} (h : WL Y x0 w b L m) (hm : m ≤ 65535) (hs : ArgAt w s ns) (hc : ns.length ≤ 1099511627776) :
  Calls Tryz.prog 124 #[.agg #[.pointer (some ⟨b, 0, none⟩)], s] w fun e w' => (e = .returned (.agg #[.pointer (some ⟨b, 0, none⟩)]) ∧ L.length + ns.length ≤ 65535 ∧ Hold Y x0 w' ∧ Wr Y w' b (L ++ ns) 65535) ∨ (e = .panicked (pflawC 11) ∧ 65535 < L.length + ns.length ∧ Hold Y x0 w') := by
 have hL := h.le
 by_cases hl : L.length + ns.length ≤ 65535
 ·refine (pwput_ok s ns Y b L w h.wr (by omega) hs hc hl).mono ?_
  rintro e w' ⟨rfl, h', k'⟩
  exact Or.inl ⟨rfl, hl, ⟨h.k.k.trans k'⟩, h'⟩
 ·refine (pwput_no s ns Y b L w h.wr (by omega) hs hc (by omega)).mono ?_
  rintro e w' ⟨rfl, k'⟩
  exact Or.inr ⟨rfl, by omega, ⟨h.k.k.trans k'⟩⟩
/-- What the writers behind the head leave: all of l laid, or given up. -/
structure PW (X : Nat → Prop) (w : World) (b : Nat) (L l : List Int) (e : Ending) (w' : World) : Prop where
 out : (e = .returned (.tuple #[]) ∧ L.length + l.length ≤ 65535 ∧ Wr X w' b (L ++ l) 65535 ∧ Kept X w w') ∨ (e = .panicked (pflawC 11) ∧ 65535 < L.length + l.length ∧ Kept X w w')
/-- The loop of heads. -/
structure HdsR (Y : Nat → Prop) (wa : World) (b : Nat) (L : List Int) (hs : List HV) (k : Nat) (i : Value) (wx : World) : Prop where
 out : ∃ j : Nat, j ≤ hs.length ∧ k = hs.length - j ∧ i = .int .i64 (j : Int) ∧ WL Y wa wx b (L ++ headsB (hs.take j)) 65535

set_option maxHeartbeats 4000000 in
theorem pwheads_any (X : Nat → Prop) (b : Nat) (L : List Int) (hs : List HV) (v : Value) (w : World) (hw : Wr X w b L 65535) (hL : L.length ≤ 65535) (hv : ∀ w', Kept X w w' → HeadsAt w' v hs) (ok : ∀ h ∈ hs, h.All) :
  Calls Tryz.prog 159 #[.agg #[.pointer (some ⟨b, 0, none⟩)], v] w fun e w' => PW X w b L (headsB hs) e w' := by
 obtain ⟨va, vc, rfl, hmx⟩ := ValsAt.form (hv w (Kept.refl _ _))
 obtain ⟨wa, hwa⟩ : ∃ wa, wa = w.alloc (.cells #[.pointer (some ⟨b, 0, none⟩)] 137) := ⟨_, rfl⟩
 have ta : Touch (fun _ => False) w wa := by rw [hwa]; exact (Touch.refl _ w).alloc _
 have za : wa.heap.size = w.heap.size + 1 := by rw [hwa]; simp
 have ca : wa.cell? ⟨w.heap.size, 0, none⟩ = some (.pointer (some ⟨b, 0, none⟩)) := by rw [hwa]; simp [go_sem]
 obtain ⟨Y, hY⟩ : ∃ Y : Nat → Prop, Y = fun k => X k ∨ (w.heap.size ≤ k ∧ k < wa.heap.size) := ⟨_, rfl⟩
 have ya : Y w.heap.size := by subst hY; exact Or.inr (by omega)
 have YX : Hid (∀ k, X k → Y k) := by subst hY; exact fun k hk => Or.inl hk
 have REL : Hid (HdsR Y wa b L hs hs.length (.int .i64 0) wa) := ⟨0, by omega, by omega, rfl, ⟨⟨Kept.refl _ _⟩, by subst hY; simpa [headsB] using hw.more ta (fun k hk => hk), by simpa [headsB] using hL⟩⟩
 have TA : Hid (Touch (fun _ => False) w wa) := ta
 have KX : Hid (∀ w', Hold Y wa w' → Kept X w w') := fun w' h => (Kept.of TA.out).trans (h.k.less (fun k _ hk => YX.out k hk))
 have HV' : Hid (∀ w', Hold Y wa w' → HeadsAt w' (.slice va hs.length vc) hs) := fun w' h => hv w' (KX.out w' h)
 have c0 := hold_cell ca ya
 have YA : Hid (Y w.heap.size) := ya
 have OK : Hid (∀ h ∈ hs, h.All) := ok
 have hmx' : (hs.length : Int) ≤ 9223372036854775807 := by unfold maxLen at hmx; omega
 clear hw hL hv ok ta za ca hY ya hmx
 go_enter Tryz.func159, Tryz.ntmps159
 go_wp2_with fail
 rw [← hwa]
 clear hwa
 generalize w.heap.size = g1 at *
 go_loopg [8] hs.length (fun k i wx => HdsR Y wa b L hs k i wx)
 case atStart => exact REL.out
 case round =>
  clear REL
  obtain ⟨k, hk, hgk, rfl, hwl⟩ := hrel.out
  have WLr : Hid (WL Y wa wr b (L ++ headsB (hs.take k)) 65535) := hwl
  have d0 := c0 _ hwl.k
  clear hwl
  by_cases hlt : k < hs.length
  ·have hlt' : (k : Int) < (hs.length : Int) := by omega
   have hk0 : (0 : Int) ≤ (k : Int) := by omega
   obtain ⟨x, hx⟩ : ∃ x, hs[k]? = some x := ⟨hs[k], by simp [hlt]⟩
   obtain ⟨gR, off, cR, eR, hcell⟩ := HeadsAt.one (HV'.out wr WLr.out.k) hx
   cases eR
   have e0 : wr.cell? ⟨gR, off + k * 8, none⟩ = some (.int .u16 x.age) := by exact hcell 0 _ rfl
   have e1 : wr.cell? ⟨gR, off + k * 8 + 1, none⟩ = some (.int .u8 x.opts) := by rw [Nat.add_assoc]; exact hcell 1 _ rfl
   have e2 : wr.cell? ⟨gR, off + k * 8 + 2, none⟩ = some (.int .u8 x.typ) := by rw [Nat.add_assoc]; exact hcell 2 _ rfl
   have e3 : wr.cell? ⟨gR, off + k * 8 + 3, none⟩ = some (.int .u32 x.id) := by rw [Nat.add_assoc]; exact hcell 3 _ rfl
   have e4 : wr.cell? ⟨gR, off + k * 8 + 4, none⟩ = some (.int .u32 x.adv) := by rw [Nat.add_assoc]; exact hcell 4 _ rfl
   have e5 : wr.cell? ⟨gR, off + k * 8 + 5, none⟩ = some (.int .i32 x.seq) := by rw [Nat.add_assoc]; exact hcell 5 _ rfl
   have e6 : wr.cell? ⟨gR, off + k * 8 + 6, none⟩ = some (.int .u16 x.sum) := by rw [Nat.add_assoc]; exact hcell 6 _ rfl
   have e7 : wr.cell? ⟨gR, off + k * 8 + 7, none⟩ = some (.int .u16 x.len) := by rw [Nat.add_assoc]; exact hcell 7 _ rfl
   have HX : Hid (hs.take (k + 1) = hs.take k ++ [x]) := by show _ = _; rw [List.take_add_one, hx]; rfl
   have OX : Hid x.All := OK.out x (List.mem_of_getElem? hx)
   have hkw : wrap64 ((k : Int) + 1) = (k : Int) + 1 := by unfold wrap64; omega
   clear hcell hx
   have NO : Hid (65535 < (L ++ headsB (hs.take k)).length + (headB x).length → 65535 < L.length + (headsB hs).length) := by
    intro h
    rw [List.length_append, length_headsB, length_headB, List.length_take] at h
    rw [length_headsB]
    omega
   have HN : Hid (L ++ headsB (hs.take (k + 1)) = (L ++ headsB (hs.take k)) ++ headB x) := by show _ = _; rw [HX.out, headsB_snoc, List.append_assoc]
   have H4 := Hd.new wr x 93
   have t4 : Touch (fun _ => False) wr (wr.alloc (.cells #[.int .u16 x.age, .int .u8 x.opts, .int .u8 x.typ, .int .u32 x.id, .int .u32 x.adv, .int .i32 x.seq, .int .u16 x.sum, .int .u16 x.len] 93)) := (Touch.refl _ _).alloc _
   go_upto_region 4 with fail
   generalize wr.alloc (.cells #[.int .u16 x.age, .int .u8 x.opts, .int .u8 x.typ, .int .u32 x.id, .int .u32 x.adv, .int .i32 x.seq, .int .u16 x.sum, .int .u16 x.len] 93) = w4 at *
   have hg5 := lt_of_cell H4.c0
   obtain ⟨Y5, hY5⟩ : ∃ Y5 : Nat → Prop, Y5 = fun k => Y k ∨ (wr.heap.size ≤ k ∧ k < w4.heap.size) := ⟨_, rfl⟩
   have y5 : Y5 wr.heap.size := by subst hY5; exact Or.inr (by omega)
   have Y5Y : ∀ k, Y k → Y5 k := by subst hY5; exact fun k hk => Or.inl hk
   have W4 : WL Y5 w4 w4.drew b (L ++ headsB (hs.take k)) 65535 := ⟨⟨Kept.of ((Touch.refl _ _).drew)⟩, by subst hY5; exact (WLr.out.wr.more t4 (fun k hk => hk)).keep ((Touch.refl _ _).drew), WLr.out.le⟩
   have BK : Hid (∀ w', Hold Y5 w4 w' → Hold Y wa w') := fun w' h => ⟨WLr.out.k.k.trans ((Kept.of t4).trans (h.k.less (fun k _ hk => Y5Y k hk)))⟩
   have LS : Hid (∀ w' l, Wr Y5 w' b l 65535 → Wr Y w' b l 65535) := fun w' l h => h.less Y5Y
   have d1 := hold_cell (t4.cellN d0) (Y5Y _ YA.out)
   have h0 := hold_cell H4.c0 y5
   have h1 := hold_cell H4.c1 y5
   have h2 := hold_cell H4.c2 y5
   have h3 := hold_cell H4.c3 y5
   have h4 := hold_cell H4.c4 y5
   have h5 := hold_cell H4.c5 y5
   have h6 := hold_cell H4.c6 y5
   have h7 := hold_cell H4.c7 y5
   have s4 := W4.k
   clear hY5 y5 Y5Y t4 d0 H4 hg5 WLr e0 e1 e2 e3 e4 e5 e6 e7
   generalize wr.heap.size = g5 at *
   generalize L ++ headsB (hs.take k) = LL at *
   go_region_held2 (fun w' => Hold Y5 w4 w') (with_reducible assumption) (first
    | (go_at_call 181; refine Calls.mono (shead_any x OX.out _) ?_; rintro e w5 ⟨u5, rfl, b5⟩; have W5 := W4.step b5.t; have s5 := W5.k; have a5 := b5.arg)
    | (go_at_call 124; refine Calls.mono (pwput_or _ (headB x) W5 (by omega) a5 (by rw [length_headB]; omega)) ?_; rintro e w6 (⟨rfl, l6, s6, r6⟩ | ⟨rfl, l6, s6⟩); rotate_left; exact ⟨rfl, ⟨Or.inr ⟨rfl, NO.out l6, KX.out _ (BK.out _ s6)⟩⟩⟩))
   have W7 : Hid (WL Y wa w6 b (LL ++ headB x) 65535) := ⟨BK.out _ s6, LS.out _ _ r6, by rw [List.length_append]; omega⟩
   clear s6 r6 l6 W5 s5 a5 b5 W4 s4 d1
   go_wp2_with fail
   go_roundg (hs.length - (k + 1))
   case measure => omega
   case rel => exact ⟨k + 1, by omega, by omega, by go_num, by rw [HN.out]; exact W7.out⟩
  ·obtain rfl : k = hs.length := by omega
   have W5 : Hid (WL Y wa wr b (L ++ headsB hs) 65535) := by have := WLr.out; rwa [List.take_length] at this
   clear WLr
   go_wp2_with fail
   go_end0
   exact ⟨Or.inl ⟨rfl, by have := W5.out.le; rwa [List.length_append] at this, W5.out.wr.less YX.out, KX.out _ W5.out.k⟩⟩
end Go.Proofs.YtbfplepmgbkajaaGreatDoor

namespace Go.Proofs.YtbfplepmgbkajaaGreatDoor
open Go.RowKit
set_option linter.unusedVariables false
set_option maxRecDepth 100000

theorem PW.back {X Y : Nat → Prop} {w wa w' : World} {b : Nat} {L l : List Int} {e : Ending} (h : PW Y wa b L l e w') (YX : ∀ k, X k → Y k) (KX : Kept Y wa w' → Kept X w w') : PW X w b L l e w' := by
 rcases h.out with ⟨h1, h2, h3, h4⟩ | ⟨h1, h2, h3⟩
 ·exact ⟨Or.inl ⟨h1, h2, h3.less YX, KX h4⟩⟩
 ·exact ⟨Or.inr ⟨h1, h2, KX h3⟩⟩

set_option maxHeartbeats 4000000 in
theorem pwack_any (X : Nat → Prop) (b : Nat) (L : List Int) (P : PV) (ok : P.Ok) (vn vd vk vs vh : Value) (w : World) (hw : Wr X w b L 65535) (hL : L.length ≤ 65535) (hs : List HV) (hv : ∀ w', Kept X w w' → HeadsAt w' vh hs) (oh : ∀ h ∈ hs, h.All) :
  Calls Tryz.prog 130 #[.agg #[.pointer (some ⟨b, 0, none⟩)], P.v vn vd vk vs vh] w fun e w' => PW X w b L (headsB hs) e w' := by
 obtain ⟨wa, hwa⟩ : ∃ wa, wa = (w.alloc (.cells #[.pointer (some ⟨b, 0, none⟩)] 137)).alloc (.cells #[.int .u8 P.typ, .int .u32 P.router, .int .u32 P.area, .int .u32 P.mask, .int .u16 P.iv, .int .u8 P.opts, .int .u8 P.prio, .int .u32 P.dead, .int .u32 P.dr, .int .u32 P.bdr, vn, .int .u16 P.mtu, .int .u8 P.dopts, .int .u8 P.dflags, .int .u32 P.dseq, vd, vk, vs, vh] 33) := ⟨_, rfl⟩
 have ta : Touch (fun _ => False) w wa := by rw [hwa]; exact ((Touch.refl _ w).alloc _).alloc _
 have za : wa.heap.size = w.heap.size + 2 := by rw [hwa]; simp
 have ca : wa.cell? ⟨w.heap.size, 0, none⟩ = some (.pointer (some ⟨b, 0, none⟩)) := by rw [hwa]; simp [go_sem]
 have pa : Pd wa (w.heap.size + 1) P vn vd vk vs vh := by
  have := Pd.new (w.alloc (.cells #[.pointer (some ⟨b, 0, none⟩)] 137)) P vn vd vk vs vh 33
  rw [← hwa] at this
  simpa using this
 obtain ⟨Y, hY⟩ : ∃ Y : Nat → Prop, Y = fun k => X k ∨ (w.heap.size ≤ k ∧ k < wa.heap.size) := ⟨_, rfl⟩
 have ya : ∀ k, w.heap.size ≤ k → k < w.heap.size + 2 → Y k := by subst hY; exact fun k h1 h2 => Or.inr (by omega)
 have WA : Hid (Wr Y wa b L 65535) := by subst hY; exact hw.more ta (fun k hk => hk)
 have YX : Hid (∀ k, X k → Y k) := by subst hY; exact fun k hk => Or.inl hk
 have TA : Hid (Touch (fun _ => False) w wa) := ta
 have KX : Hid (∀ w', Kept Y wa w' → Kept X w w') := fun w' h => (Kept.of TA.out).trans (h.less (fun k _ hk => YX.out k hk))
 have c0 := hold_cell ca (ya _ (by dsimp only; omega) (by dsimp only; omega))
 have p18 := hold_cell pa.c18 (ya _ (by dsimp only; omega) (by dsimp only; omega))
 show Calls Tryz.prog 130 #[.agg #[.pointer (some ⟨b, 0, none⟩)], .agg #[.int .u8 P.typ, .int .u32 P.router, .int .u32 P.area, .int .u32 P.mask, .int .u16 P.iv, .int .u8 P.opts, .int .u8 P.prio, .int .u32 P.dead, .int .u32 P.dr, .int .u32 P.bdr, vn, .int .u16 P.mtu, .int .u8 P.dopts, .int .u8 P.dflags, .int .u32 P.dseq, vd, vk, vs, vh]] w _
 have HC := pwheads_any Y b L hs vh wa WA.out hL (fun w' h => hv w' (KX.out w' h)) oh
 have d0 := c0 wa ⟨Kept.refl _ _⟩
 have d18 := p18 wa ⟨Kept.refl _ _⟩
 clear hw ta za ca pa hY ya c0 p18 hv oh ok hL
 go_enter Tryz.func130, Tryz.ntmps130
 go_wp2_with fail
 rw [← hwa]
 clear hwa
 refine Calls.mono HC ?_
 intro e w1 h1
 rcases h1.out with ⟨rfl, l1, r1, k1⟩ | ⟨rfl, l1, k1⟩
 ·have Q : Hid (PW X w b L (headsB hs) (.returned (.tuple #[])) w1) := h1.back YX.out (KX.out w1)
  clear l1 r1 k1 h1 HC
  go_wp2
  go_end0
  exact Q.out
 ·exact ⟨rfl, h1.back YX.out (KX.out w1)⟩
end Go.Proofs.YtbfplepmgbkajaaGreatDoor

namespace Go.Proofs.YtbfplepmgbkajaaGreatDoor
open Go.RowKit
set_option linter.unusedVariables false
set_option maxRecDepth 100000

/-- What a description's first eight bytes are. -/
def descB (P : PV) : List Int := numBytes 2 P.mtu ++ [P.dopts, P.dflags] ++ numBytes 4 P.dseq
end Go.Proofs.YtbfplepmgbkajaaGreatDoor

namespace Go.Proofs.YtbfplepmgbkajaaGreatDoor
open Go.RowKit
set_option linter.unusedVariables false
set_option maxRecDepth 100000

def wordsB (l : List Int) : List Int := l.flatMap (numBytes 4)
theorem length_wordsB (l : List Int) : (wordsB l).length = 4 * l.length := by
 induction l with
 | nil => rfl
 | cons x r ih => rw [show wordsB (x :: r) = numBytes 4 x ++ wordsB r by simp [wordsB], List.length_append, ih, length_numBytes (by omega), List.length_cons]; omega
def helloB (P : PV) : List Int := numBytes 4 P.mask ++ numBytes 2 P.iv ++ [P.opts, P.prio] ++ numBytes 4 P.dead ++ numBytes 4 P.dr ++ numBytes 4 P.bdr
end Go.Proofs.YtbfplepmgbkajaaGreatDoor

namespace Go.Proofs.YtbfplepmgbkajaaGreatDoor
open Go.RowKit
set_option linter.unusedVariables false
set_option maxRecDepth 100000

def KV.cells (x : KV) : List Value := [.int .u8 x.typ, .int .u32 x.id, .int .u32 x.adv]
def keysC (l : List KV) : List Value := l.flatMap KV.cells
theorem keysC_at (l : List KV) (j i : Nat) (x : KV) (hj : l[j]? = some x) (hi : i < 3) : (keysC l)[j * 3 + i]? = x.cells[i]? := by
 induction l generalizing j with
 | nil => simp at hj
 | cons y r ih =>
  have e : keysC (y :: r) = y.cells ++ keysC r := by simp [keysC]
  have hl : y.cells.length = 3 := rfl
  rw [e]
  cases j with
  | zero =>
   obtain rfl : y = x := by simpa using hj
   rw [List.getElem?_append_left (by omega), Nat.zero_mul, Nat.zero_add]
  | succ j =>
   rw [List.getElem?_append_right (by omega), hl, show (j + 1) * 3 + i - 3 = j * 3 + i by omega]
   exact ih j (by simpa using hj)
def KeysAt (w : World) (v : Value) (l : List KV) : Prop := ValsAt w 3 v l.length (keysC l)
structure KV.All (x : KV) : Prop where
 t : 0 ≤ x.typ ∧ x.typ < 256
 i : 0 ≤ x.id ∧ x.id < 4294967296
 a : 0 ≤ x.adv ∧ x.adv < 4294967296
def keyB (x : KV) : List Int := numBytes 4 x.typ ++ numBytes 4 x.id ++ numBytes 4 x.adv
theorem length_keyB (x : KV) : (keyB x).length = 12 := by simp [keyB, numBytes]
def keysB (l : List KV) : List Int := l.flatMap keyB
theorem length_keysB (l : List KV) : (keysB l).length = 12 * l.length := by
 induction l with
 | nil => rfl
 | cons x r ih => rw [show keysB (x :: r) = keyB x ++ keysB r by simp [keysB], List.length_append, ih, length_keyB, List.length_cons]; omega
end Go.Proofs.YtbfplepmgbkajaaGreatDoor

namespace Go.Proofs.YtbfplepmgbkajaaGreatDoor
open Go.RowKit
set_option linter.unusedVariables false
set_option maxRecDepth 100000

/-- A state: its head, its body's row and bytes. -/
structure SE where
 h : HV
 v : Value
 rs : List Int
def SE.cells (x : SE) : List Value := [.int .u16 x.h.age, .int .u8 x.h.opts, .int .u8 x.h.typ, .int .u32 x.h.id, .int .u32 x.h.adv, .int .i32 x.h.seq, .int .u16 x.h.sum, .int .u16 x.h.len, x.v]
def statesC (l : List SE) : List Value := l.flatMap SE.cells
theorem statesC_at (l : List SE) (j i : Nat) (x : SE) (hj : l[j]? = some x) (hi : i < 9) : (statesC l)[j * 9 + i]? = x.cells[i]? := by
 induction l generalizing j with
 | nil => simp at hj
 | cons y r ih =>
  have e : statesC (y :: r) = y.cells ++ statesC r := by simp [statesC]
  have hl : y.cells.length = 9 := rfl
  rw [e]
  cases j with
  | zero =>
   obtain rfl : y = x := by simpa using hj
   rw [List.getElem?_append_left (by omega), Nat.zero_mul, Nat.zero_add]
  | succ j =>
   rw [List.getElem?_append_right (by omega), hl, show (j + 1) * 9 + i - 9 = j * 9 + i by omega]
   exact ih j (by simpa using hj)
structure SE.Ok (w : World) (x : SE) : Prop where
 all : x.h.All
 arg : ArgAt w x.v x.rs
 byte : ∀ z ∈ x.rs, 0 ≤ z ∧ z < 256
/-- A row of states that came in. -/
structure StatesAt (w : World) (v : Value) (l : List SE) : Prop where
 vals : ValsAt w 9 v l.length (statesC l)
 ok : ∀ x ∈ l, x.Ok w
theorem SE.Ok.keep {w w' : World} {x : SE} (h : x.Ok w) (t : Touch (fun _ => False) w w') : x.Ok w' := ⟨h.all, h.arg.keepN t, h.byte⟩
theorem StatesAt.keep {w w' : World} {v : Value} {l : List SE} (h : StatesAt w v l) (t : Touch (fun _ => False) w w') : StatesAt w' v l := ⟨h.vals.keep t, fun x hx => (h.ok x hx).keep t⟩
/-- One of them. -/
theorem StatesAt.one {w : World} {v : Value} {l : List SE} (h : StatesAt w v l) {j : Nat} {x : SE} (hj : l[j]? = some x) : x.Ok w ∧ ∃ g off c, v = .slice (some ⟨g, off, none⟩) l.length c ∧ ∀ i u, x.cells[i]? = some u → w.cell? ⟨g, off + (j * 9 + i), none⟩ = some u := by
 have hlt := (List.getElem?_eq_some_iff.mp hj).1
 obtain ⟨g, off, c, e, _, _, hc⟩ := h.vals.cells (by omega) (by omega)
 refine ⟨h.ok x (List.mem_of_getElem? hj), g, off, c, e, fun i u hu => hc _ _ ?_⟩
 have hi : i < 9 := (List.getElem?_eq_some_iff.mp hu).1
 rw [statesC_at l j i x hj hi]
 exact hu
end Go.Proofs.YtbfplepmgbkajaaGreatDoor
