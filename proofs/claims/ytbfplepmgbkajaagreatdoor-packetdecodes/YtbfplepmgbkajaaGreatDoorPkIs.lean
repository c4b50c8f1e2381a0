/- Package packet's writer: parts. -/
import Derived.Test.YtbfplepmgbkajaaGreatDoorStRow0
import Derived.Deep.RegionHeld2
import Derived.Deep.DeepCutAuto
import Derived.Test.YtbfplepmgbkajaaGreatDoorPkPure
import Derived.Test.YtbfplepmgbkajaaGreatDoorBagKm
import Derived.Deep.RegionHeld3
import Derived.Test.YtbfplepmgbkajaaGreatDoorRowB
import Derived.Deep.LoopGhost
namespace Go.Proofs.YtbfplepmgbkajaaGreatDoor
open Go.RowKit
set_option linter.unusedVariables false
set_option maxRecDepth 100000

set_option maxHeartbeats 1000000 in
theorem pwparts_any (b : Nat) (w : World) : Calls Tryz.prog 97 #[.agg #[.pointer (some ⟨b, 0, none⟩)]] w fun e w' => e = .returned (.agg #[.nilFunc, .func (.func 126) #[.agg #[.pointer (some ⟨b, 0, none⟩)]] #[], .func (.func 127) #[.agg #[.pointer (some ⟨b, 0, none⟩)]] #[], .func (.func 128) #[.agg #[.pointer (some ⟨b, 0, none⟩)]] #[], .func (.func 129) #[.agg #[.pointer (some ⟨b, 0, none⟩)]] #[], .func (.func 130) #[.agg #[.pointer (some ⟨b, 0, none⟩)]] #[]]) ∧ Touch (fun _ => False) w w' := by
 have hmf : ∀ (fn : Fn) (first cap : Array Value) (w : World), (Instr.makeFunc fn first cap).run Tryz.prog w = .ok (.func fn first cap) w := fun _ _ _ _ => rfl
 have hsf : ∀ (w : World) (a : Addr) (f : Fn) (x y : Array Value) (m : Mode), (store a (.func f x y) m).run Tryz.prog w = stored Tryz.prog w a (.func f x y) m := fun w a f x y m => run_store Tryz.prog w a _ m rfl
 have hsn : ∀ (w : World) (a : Addr) (m : Mode), (store a .nilFunc m).run Tryz.prog w = stored Tryz.prog w a .nilFunc m := fun w a m => run_store Tryz.prog w a _ m rfl
 go_enter Tryz.func97, Tryz.ntmps97
 go_wp2_with fail
 refine bodyPost_ret (v := .agg #[.nilFunc, .func (.func 126) #[.agg #[.pointer (some ⟨b, 0, none⟩)]] #[], .func (.func 127) #[.agg #[.pointer (some ⟨b, 0, none⟩)]] #[], .func (.func 128) #[.agg #[.pointer (some ⟨b, 0, none⟩)]] #[], .func (.func 129) #[.agg #[.pointer (some ⟨b, 0, none⟩)]] #[], .func (.func 130) #[.agg #[.pointer (some ⟨b, 0, none⟩)]] #[]]) (by simp [results, Tryz.results97, go_sem]) rfl ?_
 exact ⟨rfl, ((Touch.refl _ _).alloc _).alloc _⟩
/-- The function of each type. -/
theorem pwparts_at (b : Nat) (w : World) (t : Int) (f : Nat) (h : (t = 1 ∧ f = 126) ∨ (t = 2 ∧ f = 127) ∨ (t = 3 ∧ f = 128) ∨ (t = 4 ∧ f = 129) ∨ (t = 5 ∧ f = 130)) :
  (Instr.index 139 (.agg #[.nilFunc, .func (.func 126) #[.agg #[.pointer (some ⟨b, 0, none⟩)]] #[], .func (.func 127) #[.agg #[.pointer (some ⟨b, 0, none⟩)]] #[], .func (.func 128) #[.agg #[.pointer (some ⟨b, 0, none⟩)]] #[], .func (.func 129) #[.agg #[.pointer (some ⟨b, 0, none⟩)]] #[], .func (.func 130) #[.agg #[.pointer (some ⟨b, 0, none⟩)]] #[]]) (.int .u8 t)).run Tryz.prog w = .ok (.func (.func f) #[.agg #[.pointer (some ⟨b, 0, none⟩)]] #[]) w := by
 rcases h with ⟨rfl, rfl⟩ | ⟨rfl, rfl⟩ | ⟨rfl, rfl⟩ | ⟨rfl, rfl⟩ | ⟨rfl, rfl⟩ <;> kernel_rfl

set_option maxHeartbeats 1000000 in
theorem hasDD_any (m o f s : Int) (va : Option Addr) (n c : Nat) (w : World) : Calls Tryz.prog 155 #[.agg #[.int .u16 m, .int .u8 o, .int .u8 f, .int .u32 s, .slice va n c]] w fun e w' => e = .returned (.bool (decide (m ≠ 0 ∨ o ≠ 0 ∨ f ≠ 0 ∨ s ≠ 0 ∨ 0 < n))) ∧ Touch (fun _ => False) w w' := by
 have HK : Hid ((decide (m ≠ 0 ∨ o ≠ 0 ∨ f ≠ 0 ∨ s ≠ 0 ∨ 0 < n) = true) ↔ (m ≠ 0 ∨ o ≠ 0 ∨ f ≠ 0 ∨ s ≠ 0 ∨ 0 < n)) := by show _ ↔ _; exact decide_eq_true_iff
 generalize decide (m ≠ 0 ∨ o ≠ 0 ∨ f ≠ 0 ∨ s ≠ 0 ∨ 0 < n) = k at HK ⊢
 go_enter Tryz.func155, Tryz.ntmps155
 go_wp2
 all_goals go_ret
 all_goals refine ⟨ret_bool ?_, (Touch.refl _ _).alloc _⟩
 all_goals (rw [Bool.eq_iff_iff, HK.out]; simp_all <;> omega)
end Go.Proofs.YtbfplepmgbkajaaGreatDoor

namespace Go.Proofs.YtbfplepmgbkajaaGreatDoor
open Go.RowKit
set_option linter.unusedVariables false
set_option maxRecDepth 100000


set_option maxHeartbeats 1000000 in
theorem hasHello_any (m i o p d r q : Int) (va : Option Addr) (n c : Nat) (w : World) : Calls Tryz.prog 154 #[.agg #[.int .u32 m, .int .u16 i, .int .u8 o, .int .u8 p, .int .u32 d, .int .u32 r, .int .u32 q, .slice va n c]] w fun e w' => e = .returned (.bool (decide (i ≠ 0 ∨ d ≠ 0 ∨ r ≠ 0 ∨ q ≠ 0 ∨ 0 < n ∨ m ≠ 0 ∨ o ≠ 0 ∨ p ≠ 0))) ∧ Touch (fun _ => False) w w' := by
 have HK : Hid ((decide (i ≠ 0 ∨ d ≠ 0 ∨ r ≠ 0 ∨ q ≠ 0 ∨ 0 < n ∨ m ≠ 0 ∨ o ≠ 0 ∨ p ≠ 0) = true) ↔ (i ≠ 0 ∨ d ≠ 0 ∨ r ≠ 0 ∨ q ≠ 0 ∨ 0 < n ∨ m ≠ 0 ∨ o ≠ 0 ∨ p ≠ 0)) := by show _ ↔ _; exact decide_eq_true_iff
 generalize decide (i ≠ 0 ∨ d ≠ 0 ∨ r ≠ 0 ∨ q ≠ 0 ∨ 0 < n ∨ m ≠ 0 ∨ o ≠ 0 ∨ p ≠ 0) = k at HK ⊢
 go_enter Tryz.func154, Tryz.ntmps154
 go_wp2
 all_goals go_ret
 all_goals refine ⟨ret_bool ?_, (Touch.refl _ _).alloc _⟩
 all_goals (rw [Bool.eq_iff_iff, HK.out]; simp_all <;> omega)
end Go.Proofs.YtbfplepmgbkajaaGreatDoor

namespace Go.Proofs.YtbfplepmgbkajaaGreatDoor
open Go.RowKit
set_option linter.unusedVariables false
set_option maxRecDepth 100000

theorem Hold.set {Y : Nat → Prop} {x w : World} (h : Hold Y x w) {g : Nat} (hg : ¬ Y g) (i : Nat) (v : Value) : Hold Y x (w.setCell ⟨g, i, none⟩ v) := ⟨h.k.trans (Touch.setCell (Touch.refl _ _) (Or.inl hg) _)⟩
theorem Hold.set6 {Y : Nat → Prop} {x w : World} (h : Hold Y x w) {g : Nat} (hg : ¬ Y g) (v0 v1 v2 v3 v4 v5 : Value) : Hold Y x ((((((w.setCell ⟨g, 0, none⟩ v0).setCell ⟨g, 1, none⟩ v1).setCell ⟨g, 2, none⟩ v2).setCell ⟨g, 3, none⟩ v3).setCell ⟨g, 4, none⟩ v4).setCell ⟨g, 5, none⟩ v5) :=
 (((((h.set hg 0 v0).set hg 1 v1).set hg 2 v2).set hg 3 v3).set hg 4 v4).set hg 5 v5
def hasHb (P : PV) (n : Nat) : Bool := decide (P.iv ≠ 0 ∨ P.dead ≠ 0 ∨ P.dr ≠ 0 ∨ P.bdr ≠ 0 ∨ 0 < n ∨ P.mask ≠ 0 ∨ P.opts ≠ 0 ∨ P.prio ≠ 0)
def hasDb (P : PV) (n : Nat) : Bool := decide (P.mtu ≠ 0 ∨ P.dopts ≠ 0 ∨ P.dflags ≠ 0 ∨ P.dseq ≠ 0 ∨ 0 < n)
def posB (n : Nat) : Bool := decide (0 < n)

set_option maxHeartbeats 4000000 in
theorem partsOf_any (P : PV) (na da ka sa ha : Option Addr) (nn nc dn dc kn kc sn sc hn hc : Nat) (w : World) :
  Calls Tryz.prog 122 #[P.v (.slice na nn nc) (.slice da dn dc) (.slice ka kn kc) (.slice sa sn sc) (.slice ha hn hc)] w fun e w' => e = .returned (.agg #[.bool false, .bool (hasHb P nn), .bool (hasDb P dn), .bool (posB kn), .bool (posB sn), .bool (posB hn)]) ∧ Touch (fun _ => False) w w' := by
 have HH : ∀ w', Calls Tryz.prog 154 #[.agg #[.int .u32 P.mask, .int .u16 P.iv, .int .u8 P.opts, .int .u8 P.prio, .int .u32 P.dead, .int .u32 P.dr, .int .u32 P.bdr, .slice na nn nc]] w' fun e w'' => e = .returned (.bool (hasHb P nn)) ∧ Touch (fun _ => False) w' w'' := fun w' => hasHello_any _ _ _ _ _ _ _ _ _ _ w'
 have HD : ∀ w', Calls Tryz.prog 155 #[.agg #[.int .u16 P.mtu, .int .u8 P.dopts, .int .u8 P.dflags, .int .u32 P.dseq, .slice da dn dc]] w' fun e w'' => e = .returned (.bool (hasDb P dn)) ∧ Touch (fun _ => False) w' w'' := fun w' => hasDD_any _ _ _ _ _ _ _ w'
 have eK : decide (0 < kn) = posB kn := rfl
 have eS : decide (0 < sn) = posB sn := rfl
 have eA : decide (0 < hn) = posB hn := rfl
 generalize hasHb P nn = kH at *
 generalize hasDb P dn = kD at *
 generalize posB kn = kK at *
 generalize posB sn = kS at *
 generalize posB hn = kA at *
 obtain ⟨wa, hwa⟩ : ∃ wa, wa = (w.alloc (.cells #[.int .u8 P.typ, .int .u32 P.router, .int .u32 P.area, .int .u32 P.mask, .int .u16 P.iv, .int .u8 P.opts, .int .u8 P.prio, .int .u32 P.dead, .int .u32 P.dr, .int .u32 P.bdr, .slice na nn nc, .int .u16 P.mtu, .int .u8 P.dopts, .int .u8 P.dflags, .int .u32 P.dseq, .slice da dn dc, .slice ka kn kc, .slice sa sn sc, .slice ha hn hc] 33)).alloc (.cells #[.bool false, .bool false, .bool false, .bool false, .bool false, .bool false] 209) := ⟨_, rfl⟩
 have ta : Touch (fun _ => False) w wa := by rw [hwa]; exact ((Touch.refl _ w).alloc _).alloc _
 have pa : Pd wa w.heap.size P (.slice na nn nc) (.slice da dn dc) (.slice ka kn kc) (.slice sa sn sc) (.slice ha hn hc) := by rw [hwa]; exact (Pd.new w P (.slice na nn nc) (.slice da dn dc) (.slice ka kn kc) (.slice sa sn sc) (.slice ha hn hc) _).keep ((Touch.refl _ _).alloc _)
 have R1 : Hid (Room wa (w.heap.size + 1) 6) := by have := Room.new (w.alloc (.cells #[.int .u8 P.typ, .int .u32 P.router, .int .u32 P.area, .int .u32 P.mask, .int .u16 P.iv, .int .u8 P.opts, .int .u8 P.prio, .int .u32 P.dead, .int .u32 P.dr, .int .u32 P.bdr, .slice na nn nc, .int .u16 P.mtu, .int .u8 P.dopts, .int .u8 P.dflags, .int .u32 P.dseq, .slice da dn dc, .slice ka kn kc, .slice sa sn sc, .slice ha hn hc] 33)) #[.bool false, .bool false, .bool false, .bool false, .bool false, .bool false] 209; rw [← hwa] at this; show Room _ _ _; simpa using this
 obtain ⟨Y, hY⟩ : ∃ Y : Nat → Prop, Y = fun k => k = w.heap.size := ⟨_, rfl⟩
 have ya : Y w.heap.size := by subst hY; rfl
 have yn : ¬ Y (w.heap.size + 1) := by subst hY; show ¬ (_ = _); omega
 have TA : Hid (Touch (fun _ => False) w wa) := ta
 have st : Hold Y wa wa.drew := ⟨Kept.of ((Touch.refl _ _).drew)⟩
 have p3 := hold_cell pa.c3 ya
 have p4 := hold_cell pa.c4 ya
 have p5 := hold_cell pa.c5 ya
 have p6 := hold_cell pa.c6 ya
 have p7 := hold_cell pa.c7 ya
 have p8 := hold_cell pa.c8 ya
 have p9 := hold_cell pa.c9 ya
 have p10 := hold_cell pa.c10 ya
 have p11 := hold_cell pa.c11 ya
 have p12 := hold_cell pa.c12 ya
 have p13 := hold_cell pa.c13 ya
 have p14 := hold_cell pa.c14 ya
 have p15 := hold_cell pa.c15 ya
 have p16 := hold_cell pa.c16 ya
 have p17 := hold_cell pa.c17 ya
 have p18 := hold_cell pa.c18 ya
 have HG : Hid (w.heap.size ≤ w.heap.size + 1) := by show _ ≤ _; omega
 show Calls Tryz.prog 122 #[.agg #[.int .u8 P.typ, .int .u32 P.router, .int .u32 P.area, .int .u32 P.mask, .int .u16 P.iv, .int .u8 P.opts, .int .u8 P.prio, .int .u32 P.dead, .int .u32 P.dr, .int .u32 P.bdr, .slice na nn nc, .int .u16 P.mtu, .int .u8 P.dopts, .int .u8 P.dflags, .int .u32 P.dseq, .slice da dn dc, .slice ka kn kc, .slice sa sn sc, .slice ha hn hc]] w _
 clear ta pa hY ya
 go_enter Tryz.func122, Tryz.ntmps122
 go_upto_region 1 with fail
 rw [← hwa]
 clear hwa
 have HW : Hid (∃ s, w.heap.size = s) := ⟨_, rfl⟩
 generalize hG : w.heap.size + 1 = g2 at *
 generalize hG1 : w.heap.size = g1 at *
 have HGG : Hid (w.heap.size + 1 = g2) := by show _ = _; rw [hG1, hG]
 clear hG hG1 HW HG
 go_region_held3 (fun w' => Hold Y wa w') (first | with_reducible assumption | with_reducible exact Hold.set6 s5 yn _ _ _ _ _ _) (first
  | (go_at_call 154; refine Calls.mono (HH _) ?_; rintro e w4 ⟨rfl, t4⟩; have s4 := st.step t4)
  | (go_at_call 155; refine Calls.mono (HD _) ?_; rintro e w5 ⟨rfl, t5⟩; have s5 := s4.step t5; have R5 := ((R1.out.keep ((Touch.refl _ _).drew)).keep t4).keep t5; obtain ⟨zz0, zc0, zf0⟩ := R5 0 (by omega); obtain ⟨zz1, zc1, zf1⟩ := R5 1 (by omega); obtain ⟨zz2, zc2, zf2⟩ := R5 2 (by omega); obtain ⟨zz3, zc3, zf3⟩ := R5 3 (by omega); obtain ⟨zz4, zc4, zf4⟩ := R5 4 (by omega); obtain ⟨zz5, zc5, zf5⟩ := R5 5 (by omega)))
 obtain ⟨wz, hwz⟩ : ∃ wz, wz = ((((((w5.setCell ⟨g2, 0, none⟩ (.bool false)).setCell ⟨g2, 1, none⟩ (.bool kH)).setCell ⟨g2, 2, none⟩ (.bool kD)).setCell ⟨g2, 3, none⟩ (.bool kK)).setCell ⟨g2, 4, none⟩ (.bool kS)).setCell ⟨g2, 5, none⟩ (.bool kA)) := ⟨_, rfl⟩
 have zd0 : wz.cell? ⟨g2, 0, none⟩ = some (.bool false) := by rw [hwz]; simp [zc0, go_sem]
 have zd1 : wz.cell? ⟨g2, 1, none⟩ = some (.bool kH) := by rw [hwz]; simp [zc1, go_sem]
 have zd2 : wz.cell? ⟨g2, 2, none⟩ = some (.bool kD) := by rw [hwz]; simp [zc2, go_sem]
 have zd3 : wz.cell? ⟨g2, 3, none⟩ = some (.bool kK) := by rw [hwz]; simp [zc3, go_sem]
 have zd4 : wz.cell? ⟨g2, 4, none⟩ = some (.bool kS) := by rw [hwz]; simp [zc4, go_sem]
 have zd5 : wz.cell? ⟨g2, 5, none⟩ = some (.bool kA) := by rw [hwz]; simp [zc5, go_sem]
 have HUz : Hid (Touch (fun k => k = g2) w5 wz) := by show Touch _ _ _; rw [hwz]; refine Touch.setCell (F := fun k => k = g2) (p := ⟨g2, 5, none⟩) ?_ (Or.inl rfl) _; refine Touch.setCell (F := fun k => k = g2) (p := ⟨g2, 4, none⟩) ?_ (Or.inl rfl) _; refine Touch.setCell (F := fun k => k = g2) (p := ⟨g2, 3, none⟩) ?_ (Or.inl rfl) _; refine Touch.setCell (F := fun k => k = g2) (p := ⟨g2, 2, none⟩) ?_ (Or.inl rfl) _; refine Touch.setCell (F := fun k => k = g2) (p := ⟨g2, 1, none⟩) ?_ (Or.inl rfl) _; refine Touch.setCell (F := fun k => k = g2) (p := ⟨g2, 0, none⟩) ?_ (Or.inl rfl) _; exact Touch.refl _ _
 rw [← hwz]
 clear hwz zc0 zf0 zc1 zf1 zc2 zf2 zc3 zf3 zc4 zf4 zc5 zf5
 go_wp2_with fail
 refine bodyPost_ret (v := .agg #[.bool false, .bool kH, .bool kD, .bool kK, .bool kS, .bool kA]) (by simp [results, Tryz.results122, go_sem, zd0, zd1, zd2, zd3, zd4, zd5]) rfl ?_
 refine ⟨rfl, ?_⟩
 have := ((TA.out.drew.trans t4).trans t5).trans' HUz.out (fun i hi e => by have := HGG.out; omega)
 exact this
end Go.Proofs.YtbfplepmgbkajaaGreatDoor

namespace Go.Proofs.YtbfplepmgbkajaaGreatDoor
open Go.RowKit
set_option linter.unusedVariables false
set_option maxRecDepth 100000

/-- The part of each number. -/
def hasN (a b c d e : Bool) (k : Nat) : Bool := [false, a, b, c, d, e].getD k false
def pureB (t : Int) (a b c d e : Bool) : Bool := (List.range 6).all fun k => !(hasN a b c d e k) || decide ((k : Int) = t)
theorem pureB_iff (t : Int) (a b c d e : Bool) : pureB t a b c d e = true ↔ ∀ k, k < 6 → hasN a b c d e k = true → (k : Int) = t := by
 unfold pureB
 rw [List.all_eq_true]
 constructor
 ·intro h k hk hh
  have := h k (List.mem_range.2 hk)
  rw [hh] at this
  simpa using this
 ·intro h k hk
  cases hx : hasN a b c d e k
  ·rfl
  ·simpa using h k (List.mem_range.1 hk) hx
theorem hasN_at (a b c d e : Bool) (k : Nat) (hk : k < 6) (w : World) : (Instr.index 209 (.agg #[.bool false, .bool a, .bool b, .bool c, .bool d, .bool e]) (.int .i64 (k : Int))).run Tryz.prog w = .ok (.bool (hasN a b c d e k)) w := by
 obtain rfl | rfl | rfl | rfl | rfl | rfl : k = 0 ∨ k = 1 ∨ k = 2 ∨ k = 3 ∨ k = 4 ∨ k = 5 := by omega
 all_goals kernel_rfl

set_option maxHeartbeats 2000000 in
theorem isPure_any (P : PV) (ok : P.Ok) (na da ka sa ha : Option Addr) (nn nc dn dc kn kc sn sc hn hc : Nat) (w : World) :
  Calls Tryz.prog 92 #[P.v (.slice na nn nc) (.slice da dn dc) (.slice ka kn kc) (.slice sa sn sc) (.slice ha hn hc)] w fun e w' => e = .returned (.bool (pureB P.typ (hasHb P nn) (hasDb P dn) (posB kn) (posB sn) (posB hn))) ∧ Touch (fun _ => False) w w' := by
 have HP : ∀ w', Calls Tryz.prog 122 #[.agg #[.int .u8 P.typ, .int .u32 P.router, .int .u32 P.area, .int .u32 P.mask, .int .u16 P.iv, .int .u8 P.opts, .int .u8 P.prio, .int .u32 P.dead, .int .u32 P.dr, .int .u32 P.bdr, .slice na nn nc, .int .u16 P.mtu, .int .u8 P.dopts, .int .u8 P.dflags, .int .u32 P.dseq, .slice da dn dc, .slice ka kn kc, .slice sa sn sc, .slice ha hn hc]] w' fun e w'' => e = .returned (.agg #[.bool false, .bool (hasHb P nn), .bool (hasDb P dn), .bool (posB kn), .bool (posB sn), .bool (posB hn)]) ∧ Touch (fun _ => False) w' w'' := fun w' => partsOf_any P na da ka sa ha nn nc dn dc kn kc sn sc hn hc w'
 obtain ⟨ot0, ot1⟩ := ok.typ
 have qt : IntKind.i64.wrap P.typ = P.typ := by simp [IntKind.wrap, IntKind.bits, IntKind.signed]; omega
 generalize hasHb P nn = kH at *
 generalize hasDb P dn = kD at *
 generalize posB kn = kK at *
 generalize posB sn = kS at *
 generalize posB hn = kA at *
 have YES : Hid ((∀ k, k < 6 → hasN kH kD kK kS kA k = true → (k : Int) = P.typ) → pureB P.typ kH kD kK kS kA = true) := (pureB_iff _ _ _ _ _ _).2
 have NO : Hid (∀ k, k < 6 → hasN kH kD kK kS kA k = true → (k : Int) ≠ P.typ → pureB P.typ kH kD kK kS kA = false) := fun k h1 h2 h3 => Bool.eq_false_iff.2 (fun h => h3 ((pureB_iff _ _ _ _ _ _).1 h k h1 h2))
 have IX : Hid (∀ k : Nat, k < 6 → ∀ w, (Instr.index 209 (.agg #[.bool false, .bool kH, .bool kD, .bool kK, .bool kS, .bool kA]) (.int .i64 (k : Int))).run Tryz.prog w = .ok (.bool (hasN kH kD kK kS kA k)) w) := fun k hk w => hasN_at _ _ _ _ _ k hk w
 generalize pureB P.typ kH kD kK kS kA = R at *
 have pa := Pd.new w P (.slice na nn nc) (.slice da dn dc) (.slice ka kn kc) (.slice sa sn sc) (.slice ha hn hc) 33
 have ta : Touch (fun _ => False) w (w.alloc (.cells #[.int .u8 P.typ, .int .u32 P.router, .int .u32 P.area, .int .u32 P.mask, .int .u16 P.iv, .int .u8 P.opts, .int .u8 P.prio, .int .u32 P.dead, .int .u32 P.dr, .int .u32 P.bdr, .slice na nn nc, .int .u16 P.mtu, .int .u8 P.dopts, .int .u8 P.dflags, .int .u32 P.dseq, .slice da dn dc, .slice ka kn kc, .slice sa sn sc, .slice ha hn hc] 33)) := (Touch.refl _ _).alloc _
 show Calls Tryz.prog 92 #[.agg #[.int .u8 P.typ, .int .u32 P.router, .int .u32 P.area, .int .u32 P.mask, .int .u16 P.iv, .int .u8 P.opts, .int .u8 P.prio, .int .u32 P.dead, .int .u32 P.dr, .int .u32 P.bdr, .slice na nn nc, .int .u16 P.mtu, .int .u8 P.dopts, .int .u8 P.dflags, .int .u32 P.dseq, .slice da dn dc, .slice ka kn kc, .slice sa sn sc, .slice ha hn hc]] w _
 go_enter Tryz.func92, Tryz.ntmps92
 go_wp2_with (refine wpList_load_row rfl 33 (.tmp 1) rfl w.heap.size rfl 33 _ (0, 0) _ (row_new w _ _) Tryz.underlying33 rfl (by kernel_rfl) ?_)
 generalize w.alloc (.cells #[.int .u8 P.typ, .int .u32 P.router, .int .u32 P.area, .int .u32 P.mask, .int .u16 P.iv, .int .u8 P.opts, .int .u8 P.prio, .int .u32 P.dead, .int .u32 P.dr, .int .u32 P.bdr, .slice na nn nc, .int .u16 P.mtu, .int .u8 P.dopts, .int .u8 P.dflags, .int .u32 P.dseq, .slice da dn dc, .slice ka kn kc, .slice sa sn sc, .slice ha hn hc] 33) = wa at *
 generalize w.heap.size = g at *
 refine Calls.mono (HP wa) ?_
 rintro e w1 ⟨rfl, t1⟩
 have T1 : Hid (Touch (fun _ => False) w w1) := ta.trans t1
 have c0 := t1.cellN pa.c0
 clear ta t1 pa HP ok
 go_wp2_with fail
 generalize Value.agg #[.int .u8 P.typ, .int .u32 P.router, .int .u32 P.area, .int .u32 P.mask, .int .u16 P.iv, .int .u8 P.opts, .int .u8 P.prio, .int .u32 P.dead, .int .u32 P.dr, .int .u32 P.bdr, .slice na nn nc, .int .u16 P.mtu, .int .u8 P.dopts, .int .u8 P.dflags, .int .u32 P.dseq, .slice da dn dc, .slice ka kn kc, .slice sa sn sc, .slice ha hn hc] = ag
 go_loopg [3, 4, 7] 6 (fun gg _ _ s7 wr => ∃ k : Nat, k ≤ 6 ∧ 6 - k ≤ gg ∧ s7 = .int .i64 k ∧ wr = w1 ∧ Hid (∀ j, j < k → hasN kH kD kK kS kA j = true → (j : Int) = P.typ))
 case atStart => exact ⟨0, by omega, by omega, rfl, rfl, fun j hj => by omega⟩
 case round =>
  obtain ⟨k, hk, hg, rfl, rfl, hpre⟩ := hrel
  by_cases hlt : k < 6
  ·have hlt' : (k : Int) < 6 := by omega
   have hi := IX.out k hlt
   have hkw : wrap64 ((k : Int) + 1) = (k : Int) + 1 := by unfold wrap64; omega
   have NK : Hid (hasN kH kD kK kS kA k = true → (k : Int) ≠ P.typ → R = false) := NO.out k hlt
   cases hx : hasN kH kD kK kS kA k
   ·rw [hx] at hi
    have HX : Hid (hasN kH kD kK kS kA k = false) := hx
    clear hx NK
    as_aux_lemma =>
     go_wp2
     go_roundg (6 - (k + 1))
     case measure => omega
     case rel => exact ⟨k + 1, by omega, by omega, by go_num, rfl, fun j hj hj2 => by by_cases e : j = k; (subst e; rw [HX.out] at hj2; cases hj2); exact hpre.out j (by omega) hj2⟩
   ·rw [hx] at hi
    have HX : Hid (hasN kH kD kK kS kA k = true) := hx
    clear hx
    by_cases he : (k : Int) = P.typ
    ·have HE : Hid ((k : Int) = P.typ) := he
     have he1 : ((k : Int) != P.typ) = false := by simpa using he
     have he2 : ((k : Int) == P.typ) = true := by simpa using he
     clear he NK
     as_aux_lemma =>
      go_wp2
      go_roundg (6 - (k + 1))
      case measure => omega
      case rel => exact ⟨k + 1, by omega, by omega, by go_num, rfl, fun j hj hj2 => by by_cases e : j = k; (subst e; exact HE.out); exact hpre.out j (by omega) hj2⟩
    ·have hR := NK.out HX.out he
     have he1 : ((k : Int) != P.typ) = true := by simpa using he
     have he2 : ((k : Int) == P.typ) = false := by simpa using he
     subst hR
     clear he NK
     as_aux_lemma =>
      go_wp2
      go_ret
      exact ⟨rfl, T1.out⟩
  ·obtain rfl : k = 6 := by omega
   have hR := YES.out (fun j h1 h2 => hpre.out j h1 h2)
   subst hR
   clear YES NO IX hpre
   go_wp2
   go_ret
   exact ⟨rfl, T1.out⟩

def mwB (l : Int) (n : Nat) : Bool := !(l == 20 + (n : Int))
set_option maxHeartbeats 1000000 in
theorem mwrong_any (x : SE) (xa : Option Addr) (xc : Nat) (w : World) (ok : x.h.All) (hn : x.rs.length ≤ 1000000) : Calls Tryz.prog 94 #[.agg #[.int .u16 x.h.age, .int .u8 x.h.opts, .int .u8 x.h.typ, .int .u32 x.h.id, .int .u32 x.h.adv, .int .i32 x.h.seq, .int .u16 x.h.sum, .int .u16 x.h.len, .slice xa x.rs.length xc]] w fun e w' => e = .returned (.bool (mwB x.h.len x.rs.length)) ∧ Touch (fun _ => False) w w' := by
 obtain ⟨l0, l1⟩ := ok.l
 have hw1 : IntKind.i64.wrap x.h.len = x.h.len := by simp [IntKind.wrap, IntKind.bits, IntKind.signed]; omega
 have hw2 : wrap64 (20 + (x.rs.length : Int)) = 20 + (x.rs.length : Int) := by unfold wrap64; omega
 have hn' : (x.rs.length : Int) ≤ 1000000 := by omega
 unfold mwB
 generalize x.rs.length = n at *
 clear ok hn
 go_enter Tryz.func94, Tryz.ntmps94
 go_wp2
 go_ret
 refine ⟨ret_bool ?_, (Touch.refl _ _).alloc _⟩
 first | rfl | simp [bne]
structure IdxR (ks : List SE) (w : World) (k0 gg : Nat) (s8 : Value) (wr : World) : Prop where
 out : ∃ k : Nat, k ≤ k0 ∧ ks.length - k ≤ gg ∧ s8 = .int .i64 k ∧ Touch (fun _ => False) w wr

set_option maxHeartbeats 2000000 in
/-- The first that is measured wrong, or none. -/
theorem midx_any (v : Value) (ks : List SE) (w : World) (hv : StatesAt w v ks) (hn : ks.length ≤ 1000000) (hr : ∀ x ∈ ks, x.rs.length ≤ 1000000) (k0 : Nat) (hk0 : k0 ≤ ks.length)
  (hpre : ∀ j x, j < k0 → ks[j]? = some x → mwB x.h.len x.rs.length = false) (hhit : ∀ x, ks[k0]? = some x → mwB x.h.len x.rs.length = true) :
  Calls Tryz.prog 123 #[v, .func (.func 94) #[] #[]] w fun e w' => e = .returned (.int .i64 (if k0 < ks.length then (k0 : Int) else -1)) ∧ Touch (fun _ => False) w w' := by
 obtain ⟨va, vc, rfl, hmx⟩ := ValsAt.form hv.vals
 have HV' : Hid (∀ w', Touch (fun _ => False) w w' → StatesAt w' (.slice va ks.length vc) ks) := fun w' t => hv.keep t
 have HR : Hid (∀ x ∈ ks, x.rs.length ≤ 1000000) := hr
 have HPR : Hid (∀ j x, j < k0 → ks[j]? = some x → mwB x.h.len x.rs.length = false) := hpre
 have HIT : Hid (∀ x, ks[k0]? = some x → mwB x.h.len x.rs.length = true) := hhit
 have hmx' : (ks.length : Int) ≤ 1000000 := by omega
 have R1 : Hid (k0 < ks.length → (if k0 < ks.length then (k0 : Int) else -1) = k0) := fun h => if_pos h
 have R2 : Hid (¬ k0 < ks.length → (if k0 < ks.length then (k0 : Int) else -1) = -1) := fun h => if_neg h
 generalize (if k0 < ks.length then (k0 : Int) else -1) = RR at *
 clear hv hr hpre hhit hmx hn
 go_enter Tryz.func123, Tryz.ntmps123
 go_wp2_with fail
 go_loopg [5, 8] ks.length (fun gg _ s8 wr => IdxR ks w k0 gg s8 wr)
 case atStart => exact ⟨0, by omega, by omega, rfl, Touch.refl _ _⟩
 case round =>
  obtain ⟨k, hk, hg, rfl, tr⟩ := hrel.out
  have TR : Hid (Touch (fun _ => False) w wr) := tr
  clear tr hrel
  by_cases hlt : k < ks.length
  ·have hlt' : (k : Int) < (ks.length : Int) := by omega
   have hk00 : (0 : Int) ≤ (k : Int) := by omega
   obtain ⟨x, hx⟩ : ∃ x, ks[k]? = some x := ⟨ks[k], by simp [hlt]⟩
   obtain ⟨ox, gR, off, cR, eR, hcell⟩ := StatesAt.one (HV'.out wr TR.out) hx
   obtain ⟨xa, xc, ex, -⟩ := ox.arg.form
   cases eR
   have e0 : wr.cell? ⟨gR, off + k * 9, none⟩ = some (.int .u16 x.h.age) := by exact hcell 0 _ rfl
   have e1 : wr.cell? ⟨gR, off + k * 9 + 1, none⟩ = some (.int .u8 x.h.opts) := by rw [Nat.add_assoc]; exact hcell 1 _ rfl
   have e2 : wr.cell? ⟨gR, off + k * 9 + 2, none⟩ = some (.int .u8 x.h.typ) := by rw [Nat.add_assoc]; exact hcell 2 _ rfl
   have e3 : wr.cell? ⟨gR, off + k * 9 + 3, none⟩ = some (.int .u32 x.h.id) := by rw [Nat.add_assoc]; exact hcell 3 _ rfl
   have e4 : wr.cell? ⟨gR, off + k * 9 + 4, none⟩ = some (.int .u32 x.h.adv) := by rw [Nat.add_assoc]; exact hcell 4 _ rfl
   have e5 : wr.cell? ⟨gR, off + k * 9 + 5, none⟩ = some (.int .i32 x.h.seq) := by rw [Nat.add_assoc]; exact hcell 5 _ rfl
   have e6 : wr.cell? ⟨gR, off + k * 9 + 6, none⟩ = some (.int .u16 x.h.sum) := by rw [Nat.add_assoc]; exact hcell 6 _ rfl
   have e7 : wr.cell? ⟨gR, off + k * 9 + 7, none⟩ = some (.int .u16 x.h.len) := by rw [Nat.add_assoc]; exact hcell 7 _ rfl
   have e8 : wr.cell? ⟨gR, off + k * 9 + 8, none⟩ = some (.slice xa x.rs.length xc) := by rw [← ex]; rw [Nat.add_assoc]; exact hcell 8 _ rfl
   have hkw : wrap64 ((k : Int) + 1) = (k : Int) + 1 := by unfold wrap64; omega
   have HM := mwrong_any x xa xc wr ox.all (HR.out x (List.mem_of_getElem? hx))
   by_cases hke : k < k0
   ·rw [HPR.out k x hke hx] at HM
    clear hcell hx ox ex
    go_wp2_with fail
    refine Calls.mono HM ?_
    rintro e w2 ⟨rfl, t2⟩
    have T2 : Hid (Touch (fun _ => False) w w2) := TR.out.trans t2
    clear t2 HM e0 e1 e2 e3 e4 e5 e6 e7 e8
    go_wp2_with fail
    go_roundg (ks.length - (k + 1))
    case measure => omega
    case rel => exact ⟨k + 1, by omega, by omega, by go_num, T2.out⟩
   ·obtain rfl : k = k0 := by omega
    rw [HIT.out x hx] at HM
    have hRR := R1.out hlt
    subst hRR
    clear hcell hx ox ex
    go_wp2_with fail
    refine Calls.mono HM ?_
    rintro e w2 ⟨rfl, t2⟩
    have T2 : Hid (Touch (fun _ => False) w w2) := TR.out.trans t2
    clear t2 HM e0 e1 e2 e3 e4 e5 e6 e7 e8
    go_wp2
    go_ret
    exact ⟨rfl, T2.out⟩
  ·have hRR := R2.out (by omega)
   subst hRR
   have hlt' : ¬ (k : Int) < (ks.length : Int) := by omega
   go_wp2
   go_ret
   exact ⟨rfl, TR.out⟩
/-- Where the first is. -/
theorem first_of (f : SE → Bool) : ∀ l : List SE, ∃ k0, k0 ≤ l.length ∧ (∀ j x, j < k0 → l[j]? = some x → f x = false) ∧ (∀ x, l[k0]? = some x → f x = true) ∧ (k0 < l.length ↔ l.any f = true)
 | [] => ⟨0, by simp, fun j x h => by omega, fun x h => by simp at h, by simp⟩
 | y :: r => by
  cases hy : f y
  ·obtain ⟨k0, h1, h2, h3, h4⟩ := first_of f r
   refine ⟨k0 + 1, by simpa using h1, ?_, ?_, ?_⟩
   ·intro j x hj hx
    cases j with
    | zero =>
     obtain rfl : y = x := by simpa using hx
     exact hy
    | succ j => exact h2 j x (by omega) (by simpa using hx)
   ·intro x hx
    exact h3 x (by simpa using hx)
   ·rw [List.any_cons, hy, Bool.false_or, ← h4, List.length_cons]
    omega
  ·refine ⟨0, by simp, fun j x h => by omega, fun x hx => ?_, by simp [hy]⟩
   have e : some y = some x := hx
   cases e
   exact hy
theorem mcont_any (v : Value) (ks : List SE) (w : World) (hv : StatesAt w v ks) (hn : ks.length ≤ 1000000) (hr : ∀ x ∈ ks, x.rs.length ≤ 1000000) :
  Calls Tryz.prog 93 #[v, .func (.func 94) #[] #[]] w fun e w' => e = .returned (.bool (ks.any fun x => mwB x.h.len x.rs.length)) ∧ Touch (fun _ => False) w w' := by
 obtain ⟨k0, h1, h2, h3, h4⟩ := first_of (fun x => mwB x.h.len x.rs.length) ks
 have HI := midx_any v ks w hv hn hr k0 h1 h2 h3
 obtain ⟨va, vc, rfl, -⟩ := ValsAt.form hv.vals
 by_cases hk : k0 < ks.length
 ·rw [if_pos hk] at HI
  rw [h4.1 hk]
  clear h2 h3 h4 hv hr
  have hk0 : (0 : Int) ≤ (k0 : Int) := by omega
  go_enter Tryz.func93, Tryz.ntmps93
  go_wp2_with fail
  refine Calls.mono HI ?_
  rintro e w2 ⟨rfl, t2⟩
  go_wp2
  go_ret
  exact ⟨rfl, t2⟩
 ·rw [if_neg hk] at HI
  rw [show (ks.any fun x => mwB x.h.len x.rs.length) = false from Bool.eq_false_iff.2 (fun h => hk (h4.2 h))]
  clear h2 h3 h4 hv hr
  go_enter Tryz.func93, Tryz.ntmps93
  go_wp2_with fail
  refine Calls.mono HI ?_
  rintro e w2 ⟨rfl, t2⟩
  go_wp2
  go_ret
  exact ⟨rfl, t2⟩
end Go.Proofs.YtbfplepmgbkajaaGreatDoor
