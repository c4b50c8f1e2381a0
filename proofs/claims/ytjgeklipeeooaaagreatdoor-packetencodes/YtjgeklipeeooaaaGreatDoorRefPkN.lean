/- The document's side of stage 7: numbers, what stands alone. -/
import Derived.Test.YtjgeklipeeooaaaGreatDoorRefFour
import Derived.Test.YtjgeklipeeooaaaGreatDoorPkIs
import Derived.Test.YtjgeklipeeooaaaGreatDoorPkRows
import Derived.Test.YtjgeklipeeooaaaGreatDoorOwnUn
namespace Go.Proofs.YtjgeklipeeooaaaGreatDoor
open Go.RowKit
set_option linter.unusedVariables false
set_option maxRecDepth 100000

theorem dtwo7 (x : Int) (w : World) (hx0 : 0 ≤ x) (hx : x < 65536) :
    Calls Tryz.prog 38 #[.int .u16 x] w fun e w' => ∃ v, e = .returned v ∧ Buf w w' v (numBytes 2 x) := by
  go_enter Tryz.func38, Tryz.ntmps38
  go_wp2_with fail
  refine (four2_any x _ hx0 (by omega)).mono ?_
  rintro e w1 ⟨v, rfl, hb⟩
  go_wp2
  go_ret
  exact ⟨v, rfl, hb⟩
theorem dfour7 (x : Int) (w : World) (hx0 : 0 ≤ x) (hx : x < 4294967296) :
    Calls Tryz.prog 39 #[.int .u32 x] w fun e w' => ∃ v, e = .returned v ∧ Buf w w' v (numBytes 4 x) := by
  go_enter Tryz.func39, Tryz.ntmps39
  go_wp2_with fail
  refine (four4_any x _ hx0 (by omega)).mono ?_
  rintro e w1 ⟨v, rfl, hb⟩
  go_wp2
  go_ret
  exact ⟨v, rfl, hb⟩
set_option maxHeartbeats 1000000 in
theorem noHello_any (m i o p d r q : Int) (va : Option Addr) (n c : Nat) (w : World) : Calls Tryz.prog 99 #[.agg #[.int .u32 m, .int .u16 i, .int .u8 o, .int .u8 p, .int .u32 d, .int .u32 r, .int .u32 q, .slice va n c]] w fun e w' => e = .returned (.bool (!(decide (i ≠ 0 ∨ d ≠ 0 ∨ r ≠ 0 ∨ q ≠ 0 ∨ 0 < n ∨ m ≠ 0 ∨ o ≠ 0 ∨ p ≠ 0)))) ∧ Touch (fun _ => False) w w' := by
  have HK : Hid (((!(decide (i ≠ 0 ∨ d ≠ 0 ∨ r ≠ 0 ∨ q ≠ 0 ∨ 0 < n ∨ m ≠ 0 ∨ o ≠ 0 ∨ p ≠ 0))) = true) ↔ ¬ (i ≠ 0 ∨ d ≠ 0 ∨ r ≠ 0 ∨ q ≠ 0 ∨ 0 < n ∨ m ≠ 0 ∨ o ≠ 0 ∨ p ≠ 0)) := by show _ ↔ _; rw [Bool.not_eq_true', decide_eq_false_iff_not]
  generalize (!(decide (i ≠ 0 ∨ d ≠ 0 ∨ r ≠ 0 ∨ q ≠ 0 ∨ 0 < n ∨ m ≠ 0 ∨ o ≠ 0 ∨ p ≠ 0))) = k at HK ⊢
  go_enter Tryz.func99, Tryz.ntmps99
  go_wp2
  all_goals go_ret
  all_goals refine ⟨ret_bool ?_, (Touch.refl _ _).alloc _⟩
  all_goals (rw [Bool.eq_iff_iff, HK.out]; simp_all <;> omega)
set_option maxHeartbeats 1000000 in
theorem noDD_any (m o f q : Int) (va : Option Addr) (n c : Nat) (w : World) : Calls Tryz.prog 100 #[.agg #[.int .u16 m, .int .u8 o, .int .u8 f, .int .u32 q, .slice va n c]] w fun e w' => e = .returned (.bool (!(decide (m ≠ 0 ∨ o ≠ 0 ∨ f ≠ 0 ∨ q ≠ 0 ∨ 0 < n)))) ∧ Touch (fun _ => False) w w' := by
  have HK : Hid (((!(decide (m ≠ 0 ∨ o ≠ 0 ∨ f ≠ 0 ∨ q ≠ 0 ∨ 0 < n))) = true) ↔ ¬ (m ≠ 0 ∨ o ≠ 0 ∨ f ≠ 0 ∨ q ≠ 0 ∨ 0 < n)) := by show _ ↔ _; rw [Bool.not_eq_true', decide_eq_false_iff_not]
  generalize (!(decide (m ≠ 0 ∨ o ≠ 0 ∨ f ≠ 0 ∨ q ≠ 0 ∨ 0 < n))) = k at HK ⊢
  go_enter Tryz.func100, Tryz.ntmps100
  go_wp2
  all_goals go_ret
  all_goals refine ⟨ret_bool ?_, (Touch.refl _ _).alloc _⟩
  all_goals (rw [Bool.eq_iff_iff, HK.out]; simp_all <;> omega)
theorem palone_iff (C : PkC) : PAlone C ↔ ((C.P.typ ≠ 1 → hasHb C.P C.nb.length = false) ∧ (C.P.typ ≠ 2 → hasDb C.P C.dh.length = false) ∧ (C.P.typ ≠ 3 → C.ks.length = 0) ∧ (C.P.typ ≠ 4 → C.ss.length = 0) ∧ (C.P.typ ≠ 5 → C.hs.length = 0)) := by
  simp only [List.length_eq_zero_iff]
  exact ⟨fun h => ⟨h.h, h.d, h.k, h.s, h.a⟩, fun ⟨h1, h2, h3, h4, h5⟩ => ⟨h1, h2, h3, h4, h5⟩⟩
set_option maxHeartbeats 4000000 in
theorem dalone_any (C : PkC) (na da ka sa ha : Option Addr) (nc dc kc sc hc : Nat) (w : World) : Calls Tryz.prog 36 #[C.P.v (.slice na C.nb.length nc) (.slice da C.dh.length dc) (.slice ka C.ks.length kc) (.slice sa C.ss.length sc) (.slice ha C.hs.length hc)] w fun e w' => ∃ k : Bool, e = .returned (.bool k) ∧ (k = true ↔ PAlone C) ∧ Touch (fun _ => False) w w' := by
  open Classical in
  suffices H : ∀ k : Bool, (k = true ↔ PAlone C) → Calls Tryz.prog 36 #[C.P.v (.slice na C.nb.length nc) (.slice da C.dh.length dc) (.slice ka C.ks.length kc) (.slice sa C.ss.length sc) (.slice ha C.hs.length hc)] w fun e w' => e = .returned (.bool k) ∧ Touch (fun _ => False) w w' by
    refine (H (decide (PAlone C)) (by simp)).mono ?_
    rintro e w' ⟨rfl, t⟩
    exact ⟨_, rfl, by simp, t⟩
  intro k hk
  rw [palone_iff] at hk
  have HK : Hid ((k = true) ↔ ((C.P.typ ≠ 1 → hasHb C.P C.nb.length = false) ∧ (C.P.typ ≠ 2 → hasDb C.P C.dh.length = false) ∧ (C.P.typ ≠ 3 → C.ks.length = 0) ∧ (C.P.typ ≠ 4 → C.ss.length = 0) ∧ (C.P.typ ≠ 5 → C.hs.length = 0))) := hk
  clear hk
  have HH : ∀ w', Calls Tryz.prog 99 #[.agg #[.int .u32 C.P.mask, .int .u16 C.P.iv, .int .u8 C.P.opts, .int .u8 C.P.prio, .int .u32 C.P.dead, .int .u32 C.P.dr, .int .u32 C.P.bdr, .slice na C.nb.length nc]] w' fun e w'' => e = .returned (.bool (!(hasHb C.P C.nb.length))) ∧ Touch (fun _ => False) w' w'' := fun w' => noHello_any _ _ _ _ _ _ _ _ _ _ w'
  have HD : ∀ w', Calls Tryz.prog 100 #[.agg #[.int .u16 C.P.mtu, .int .u8 C.P.dopts, .int .u8 C.P.dflags, .int .u32 C.P.dseq, .slice da C.dh.length dc]] w' fun e w'' => e = .returned (.bool (!(hasDb C.P C.dh.length))) ∧ Touch (fun _ => False) w' w'' := fun w' => noDD_any _ _ _ _ _ _ _ w'
  unfold PV.v
  obtain ⟨hb, hhb⟩ : ∃ b, hasHb C.P C.nb.length = b := ⟨_, rfl⟩
  obtain ⟨db, hdb⟩ : ∃ b, hasDb C.P C.dh.length = b := ⟨_, rfl⟩
  rw [hhb, hdb] at HK
  rw [hhb] at HH
  rw [hdb] at HD
  clear hhb hdb
  obtain ⟨w0, hw0⟩ : ∃ w0, w0 = w.alloc (.cells #[.int .u8 C.P.typ, .int .u32 C.P.router, .int .u32 C.P.area, .int .u32 C.P.mask, .int .u16 C.P.iv, .int .u8 C.P.opts, .int .u8 C.P.prio, .int .u32 C.P.dead, .int .u32 C.P.dr, .int .u32 C.P.bdr, .slice na C.nb.length nc, .int .u16 C.P.mtu, .int .u8 C.P.dopts, .int .u8 C.P.dflags, .int .u32 C.P.dseq, .slice da C.dh.length dc, .slice ka C.ks.length kc, .slice sa C.ss.length sc, .slice ha C.hs.length hc] 33) := ⟨_, rfl⟩
  have ta : Touch (fun _ => False) w w0 := by rw [hw0]; exact (Touch.refl _ w).alloc _
  have A0 : Row w0 w.heap.size 33 [.int .u8 C.P.typ, .int .u32 C.P.router, .int .u32 C.P.area, .int .u32 C.P.mask, .int .u16 C.P.iv, .int .u8 C.P.opts, .int .u8 C.P.prio, .int .u32 C.P.dead, .int .u32 C.P.dr, .int .u32 C.P.bdr, .slice na C.nb.length nc, .int .u16 C.P.mtu, .int .u8 C.P.dopts, .int .u8 C.P.dflags, .int .u32 C.P.dseq, .slice da C.dh.length dc, .slice ka C.ks.length kc, .slice sa C.ss.length sc, .slice ha C.hs.length hc] := by rw [hw0]; exact row_new w 33 #[.int .u8 C.P.typ, .int .u32 C.P.router, .int .u32 C.P.area, .int .u32 C.P.mask, .int .u16 C.P.iv, .int .u8 C.P.opts, .int .u8 C.P.prio, .int .u32 C.P.dead, .int .u32 C.P.dr, .int .u32 C.P.bdr, .slice na C.nb.length nc, .int .u16 C.P.mtu, .int .u8 C.P.dopts, .int .u8 C.P.dflags, .int .u32 C.P.dseq, .slice da C.dh.length dc, .slice ka C.ks.length kc, .slice sa C.ss.length sc, .slice ha C.hs.length hc]
  have AK : Hid (∀ w', Touch (fun _ => False) w0 w' → Row w' w.heap.size 33 [.int .u8 C.P.typ, .int .u32 C.P.router, .int .u32 C.P.area, .int .u32 C.P.mask, .int .u16 C.P.iv, .int .u8 C.P.opts, .int .u8 C.P.prio, .int .u32 C.P.dead, .int .u32 C.P.dr, .int .u32 C.P.bdr, .slice na C.nb.length nc, .int .u16 C.P.mtu, .int .u8 C.P.dopts, .int .u8 C.P.dflags, .int .u32 C.P.dseq, .slice da C.dh.length dc, .slice ka C.ks.length kc, .slice sa C.ss.length sc, .slice ha C.hs.length hc]) := fun w' t => A0.keep t
  have TA : Hid (Touch (fun _ => False) w w0) := ta
  clear ta
  go_enter Tryz.func36, Tryz.ntmps36
  go_upto_region 1 with fail
  rw [← hw0]
  clear hw0
  generalize w.heap.size = g at *
  have c0 : w0.cell? ⟨g, 0, none⟩ = some (.int .u8 C.P.typ) := A0.cell 0
  have c1 : w0.cell? ⟨g, 1, none⟩ = some (.int .u32 C.P.router) := A0.cell 1
  have c2 : w0.cell? ⟨g, 2, none⟩ = some (.int .u32 C.P.area) := A0.cell 2
  have c3 : w0.cell? ⟨g, 3, none⟩ = some (.int .u32 C.P.mask) := A0.cell 3
  have c4 : w0.cell? ⟨g, 4, none⟩ = some (.int .u16 C.P.iv) := A0.cell 4
  have c5 : w0.cell? ⟨g, 5, none⟩ = some (.int .u8 C.P.opts) := A0.cell 5
  have c6 : w0.cell? ⟨g, 6, none⟩ = some (.int .u8 C.P.prio) := A0.cell 6
  have c7 : w0.cell? ⟨g, 7, none⟩ = some (.int .u32 C.P.dead) := A0.cell 7
  have c8 : w0.cell? ⟨g, 8, none⟩ = some (.int .u32 C.P.dr) := A0.cell 8
  have c9 : w0.cell? ⟨g, 9, none⟩ = some (.int .u32 C.P.bdr) := A0.cell 9
  have c10 : w0.cell? ⟨g, 10, none⟩ = some (.slice na C.nb.length nc) := A0.cell 10
  have c11 : w0.cell? ⟨g, 11, none⟩ = some (.int .u16 C.P.mtu) := A0.cell 11
  have c12 : w0.cell? ⟨g, 12, none⟩ = some (.int .u8 C.P.dopts) := A0.cell 12
  have c13 : w0.cell? ⟨g, 13, none⟩ = some (.int .u8 C.P.dflags) := A0.cell 13
  have c14 : w0.cell? ⟨g, 14, none⟩ = some (.int .u32 C.P.dseq) := A0.cell 14
  have c15 : w0.cell? ⟨g, 15, none⟩ = some (.slice da C.dh.length dc) := A0.cell 15
  have c16 : w0.cell? ⟨g, 16, none⟩ = some (.slice ka C.ks.length kc) := A0.cell 16
  have c17 : w0.cell? ⟨g, 17, none⟩ = some (.slice sa C.ss.length sc) := A0.cell 17
  have c18 : w0.cell? ⟨g, 18, none⟩ = some (.slice ha C.hs.length hc) := A0.cell 18
  clear A0
  have TY : C.P.typ = 1 ∨ C.P.typ = 2 ∨ C.P.typ = 3 ∨ C.P.typ = 4 ∨ C.P.typ = 5 ∨ (¬ C.P.typ = 1 ∧ ¬ C.P.typ = 2 ∧ ¬ C.P.typ = 3 ∧ ¬ C.P.typ = 4 ∧ ¬ C.P.typ = 5) := by omega
  rcases TY with ht | ht | ht | ht | ht | ht
  · have n1 : (C.P.typ != 1) = false := by simp [ht]
    have n2 : (C.P.typ != 2) = true := by simp [ht]
    have n3 : (C.P.typ == 3) = false := by simp [ht]
    have n4 : (C.P.typ == 4) = false := by simp [ht]
    have n5 : (C.P.typ == 5) = false := by simp [ht]
    cases db with
    | true =>
      go_wp2_with (first | (go_at_call 100; refine Calls.mono (HD _) ?_; rintro e w2 ⟨rfl, t2⟩; have f0 : w2.cell? ⟨g, 0, none⟩ = some (.int .u8 C.P.typ) := (AK.out w2 t2).cell 0; have f11 : w2.cell? ⟨g, 11, none⟩ = some (.int .u16 C.P.mtu) := (AK.out w2 t2).cell 11; have f12 : w2.cell? ⟨g, 12, none⟩ = some (.int .u8 C.P.dopts) := (AK.out w2 t2).cell 12; have f13 : w2.cell? ⟨g, 13, none⟩ = some (.int .u8 C.P.dflags) := (AK.out w2 t2).cell 13; have f14 : w2.cell? ⟨g, 14, none⟩ = some (.int .u32 C.P.dseq) := (AK.out w2 t2).cell 14; have f15 : w2.cell? ⟨g, 15, none⟩ = some (.slice da C.dh.length dc) := (AK.out w2 t2).cell 15; have f16 : w2.cell? ⟨g, 16, none⟩ = some (.slice ka C.ks.length kc) := (AK.out w2 t2).cell 16; have f17 : w2.cell? ⟨g, 17, none⟩ = some (.slice sa C.ss.length sc) := (AK.out w2 t2).cell 17; have f18 : w2.cell? ⟨g, 18, none⟩ = some (.slice ha C.hs.length hc) := (AK.out w2 t2).cell 18))
      go_ret
      have E : k = false := by
        cases k with
        | false => rfl
        | true =>
          have p := HK.out.1 rfl
          have q := p.2.1 (by omega); cases q
      rw [E]
      exact ⟨by first | rfl | exact ret_bool (by simp_all), (TA.out.trans t2)⟩
    | false =>
      have kq : C.ks.length = 0 ∨ ¬ C.ks.length = 0 := by omega
      rcases kq with kz | kz
      · have kb : ((C.ks.length : Int) == 0) = true := by simp [kz]
        have sq : C.ss.length = 0 ∨ ¬ C.ss.length = 0 := by omega
        rcases sq with sz | sz
        · have sb : ((C.ss.length : Int) == 0) = true := by simp [sz]
          have aq : C.hs.length = 0 ∨ ¬ C.hs.length = 0 := by omega
          rcases aq with az | az
          · have ab : ((C.hs.length : Int) == 0) = true := by simp [az]
            go_wp2_with (first | (go_at_call 100; refine Calls.mono (HD _) ?_; rintro e w2 ⟨rfl, t2⟩; have f0 : w2.cell? ⟨g, 0, none⟩ = some (.int .u8 C.P.typ) := (AK.out w2 t2).cell 0; have f11 : w2.cell? ⟨g, 11, none⟩ = some (.int .u16 C.P.mtu) := (AK.out w2 t2).cell 11; have f12 : w2.cell? ⟨g, 12, none⟩ = some (.int .u8 C.P.dopts) := (AK.out w2 t2).cell 12; have f13 : w2.cell? ⟨g, 13, none⟩ = some (.int .u8 C.P.dflags) := (AK.out w2 t2).cell 13; have f14 : w2.cell? ⟨g, 14, none⟩ = some (.int .u32 C.P.dseq) := (AK.out w2 t2).cell 14; have f15 : w2.cell? ⟨g, 15, none⟩ = some (.slice da C.dh.length dc) := (AK.out w2 t2).cell 15; have f16 : w2.cell? ⟨g, 16, none⟩ = some (.slice ka C.ks.length kc) := (AK.out w2 t2).cell 16; have f17 : w2.cell? ⟨g, 17, none⟩ = some (.slice sa C.ss.length sc) := (AK.out w2 t2).cell 17; have f18 : w2.cell? ⟨g, 18, none⟩ = some (.slice ha C.hs.length hc) := (AK.out w2 t2).cell 18))
            go_ret
            have E : k = true := HK.out.2 ⟨(fun h => by first | trivial | rfl | omega), (fun h => by first | trivial | rfl | omega), (fun h => by omega), (fun h => by omega), (fun h => by omega)⟩
            rw [E]
            exact ⟨by first | rfl | exact ret_bool (by simp_all), (TA.out.trans t2)⟩
          · have ab : ((C.hs.length : Int) == 0) = false := by rw [beq_eq_false_iff_ne]; omega
            go_wp2_with (first | (go_at_call 100; refine Calls.mono (HD _) ?_; rintro e w2 ⟨rfl, t2⟩; have f0 : w2.cell? ⟨g, 0, none⟩ = some (.int .u8 C.P.typ) := (AK.out w2 t2).cell 0; have f11 : w2.cell? ⟨g, 11, none⟩ = some (.int .u16 C.P.mtu) := (AK.out w2 t2).cell 11; have f12 : w2.cell? ⟨g, 12, none⟩ = some (.int .u8 C.P.dopts) := (AK.out w2 t2).cell 12; have f13 : w2.cell? ⟨g, 13, none⟩ = some (.int .u8 C.P.dflags) := (AK.out w2 t2).cell 13; have f14 : w2.cell? ⟨g, 14, none⟩ = some (.int .u32 C.P.dseq) := (AK.out w2 t2).cell 14; have f15 : w2.cell? ⟨g, 15, none⟩ = some (.slice da C.dh.length dc) := (AK.out w2 t2).cell 15; have f16 : w2.cell? ⟨g, 16, none⟩ = some (.slice ka C.ks.length kc) := (AK.out w2 t2).cell 16; have f17 : w2.cell? ⟨g, 17, none⟩ = some (.slice sa C.ss.length sc) := (AK.out w2 t2).cell 17; have f18 : w2.cell? ⟨g, 18, none⟩ = some (.slice ha C.hs.length hc) := (AK.out w2 t2).cell 18))
            go_ret
            have E : k = false := by
              cases k with
              | false => rfl
              | true =>
                have p := HK.out.1 rfl
                have q := p.2.2.2.2 (by omega); omega
            rw [E]
            exact ⟨by first | rfl | exact ret_bool (by simp_all), (TA.out.trans t2)⟩
        · have sb : ((C.ss.length : Int) == 0) = false := by rw [beq_eq_false_iff_ne]; omega
          go_wp2_with (first | (go_at_call 100; refine Calls.mono (HD _) ?_; rintro e w2 ⟨rfl, t2⟩; have f0 : w2.cell? ⟨g, 0, none⟩ = some (.int .u8 C.P.typ) := (AK.out w2 t2).cell 0; have f11 : w2.cell? ⟨g, 11, none⟩ = some (.int .u16 C.P.mtu) := (AK.out w2 t2).cell 11; have f12 : w2.cell? ⟨g, 12, none⟩ = some (.int .u8 C.P.dopts) := (AK.out w2 t2).cell 12; have f13 : w2.cell? ⟨g, 13, none⟩ = some (.int .u8 C.P.dflags) := (AK.out w2 t2).cell 13; have f14 : w2.cell? ⟨g, 14, none⟩ = some (.int .u32 C.P.dseq) := (AK.out w2 t2).cell 14; have f15 : w2.cell? ⟨g, 15, none⟩ = some (.slice da C.dh.length dc) := (AK.out w2 t2).cell 15; have f16 : w2.cell? ⟨g, 16, none⟩ = some (.slice ka C.ks.length kc) := (AK.out w2 t2).cell 16; have f17 : w2.cell? ⟨g, 17, none⟩ = some (.slice sa C.ss.length sc) := (AK.out w2 t2).cell 17; have f18 : w2.cell? ⟨g, 18, none⟩ = some (.slice ha C.hs.length hc) := (AK.out w2 t2).cell 18))
          go_ret
          have E : k = false := by
            cases k with
            | false => rfl
            | true =>
              have p := HK.out.1 rfl
              have q := p.2.2.2.1 (by omega); omega
          rw [E]
          exact ⟨by first | rfl | exact ret_bool (by simp_all), (TA.out.trans t2)⟩
      · have kb : ((C.ks.length : Int) == 0) = false := by rw [beq_eq_false_iff_ne]; omega
        go_wp2_with (first | (go_at_call 100; refine Calls.mono (HD _) ?_; rintro e w2 ⟨rfl, t2⟩; have f0 : w2.cell? ⟨g, 0, none⟩ = some (.int .u8 C.P.typ) := (AK.out w2 t2).cell 0; have f11 : w2.cell? ⟨g, 11, none⟩ = some (.int .u16 C.P.mtu) := (AK.out w2 t2).cell 11; have f12 : w2.cell? ⟨g, 12, none⟩ = some (.int .u8 C.P.dopts) := (AK.out w2 t2).cell 12; have f13 : w2.cell? ⟨g, 13, none⟩ = some (.int .u8 C.P.dflags) := (AK.out w2 t2).cell 13; have f14 : w2.cell? ⟨g, 14, none⟩ = some (.int .u32 C.P.dseq) := (AK.out w2 t2).cell 14; have f15 : w2.cell? ⟨g, 15, none⟩ = some (.slice da C.dh.length dc) := (AK.out w2 t2).cell 15; have f16 : w2.cell? ⟨g, 16, none⟩ = some (.slice ka C.ks.length kc) := (AK.out w2 t2).cell 16; have f17 : w2.cell? ⟨g, 17, none⟩ = some (.slice sa C.ss.length sc) := (AK.out w2 t2).cell 17; have f18 : w2.cell? ⟨g, 18, none⟩ = some (.slice ha C.hs.length hc) := (AK.out w2 t2).cell 18))
        go_ret
        have E : k = false := by
          cases k with
          | false => rfl
          | true =>
            have p := HK.out.1 rfl
            have q := p.2.2.1 (by omega); omega
        rw [E]
        exact ⟨by first | rfl | exact ret_bool (by simp_all), (TA.out.trans t2)⟩
  · have n1 : (C.P.typ != 1) = true := by simp [ht]
    have n2 : (C.P.typ != 2) = false := by simp [ht]
    have n3 : (C.P.typ == 3) = false := by simp [ht]
    have n4 : (C.P.typ == 4) = false := by simp [ht]
    have n5 : (C.P.typ == 5) = false := by simp [ht]
    cases hb with
    | true =>
      go_wp2_with (first | (go_at_call 99; refine Calls.mono (HH _) ?_; rintro e w1 ⟨rfl, t1⟩; have e0 : w1.cell? ⟨g, 0, none⟩ = some (.int .u8 C.P.typ) := (AK.out w1 t1).cell 0; have e11 : w1.cell? ⟨g, 11, none⟩ = some (.int .u16 C.P.mtu) := (AK.out w1 t1).cell 11; have e12 : w1.cell? ⟨g, 12, none⟩ = some (.int .u8 C.P.dopts) := (AK.out w1 t1).cell 12; have e13 : w1.cell? ⟨g, 13, none⟩ = some (.int .u8 C.P.dflags) := (AK.out w1 t1).cell 13; have e14 : w1.cell? ⟨g, 14, none⟩ = some (.int .u32 C.P.dseq) := (AK.out w1 t1).cell 14; have e15 : w1.cell? ⟨g, 15, none⟩ = some (.slice da C.dh.length dc) := (AK.out w1 t1).cell 15; have e16 : w1.cell? ⟨g, 16, none⟩ = some (.slice ka C.ks.length kc) := (AK.out w1 t1).cell 16; have e17 : w1.cell? ⟨g, 17, none⟩ = some (.slice sa C.ss.length sc) := (AK.out w1 t1).cell 17; have e18 : w1.cell? ⟨g, 18, none⟩ = some (.slice ha C.hs.length hc) := (AK.out w1 t1).cell 18))
      go_ret
      have E : k = false := by
        cases k with
        | false => rfl
        | true =>
          have p := HK.out.1 rfl
          have q := p.1 (by omega); cases q
      rw [E]
      exact ⟨by first | rfl | exact ret_bool (by simp_all), (TA.out.trans t1)⟩
    | false =>
      have kq : C.ks.length = 0 ∨ ¬ C.ks.length = 0 := by omega
      rcases kq with kz | kz
      · have kb : ((C.ks.length : Int) == 0) = true := by simp [kz]
        have sq : C.ss.length = 0 ∨ ¬ C.ss.length = 0 := by omega
        rcases sq with sz | sz
        · have sb : ((C.ss.length : Int) == 0) = true := by simp [sz]
          have aq : C.hs.length = 0 ∨ ¬ C.hs.length = 0 := by omega
          rcases aq with az | az
          · have ab : ((C.hs.length : Int) == 0) = true := by simp [az]
            go_wp2_with (first | (go_at_call 99; refine Calls.mono (HH _) ?_; rintro e w1 ⟨rfl, t1⟩; have e0 : w1.cell? ⟨g, 0, none⟩ = some (.int .u8 C.P.typ) := (AK.out w1 t1).cell 0; have e11 : w1.cell? ⟨g, 11, none⟩ = some (.int .u16 C.P.mtu) := (AK.out w1 t1).cell 11; have e12 : w1.cell? ⟨g, 12, none⟩ = some (.int .u8 C.P.dopts) := (AK.out w1 t1).cell 12; have e13 : w1.cell? ⟨g, 13, none⟩ = some (.int .u8 C.P.dflags) := (AK.out w1 t1).cell 13; have e14 : w1.cell? ⟨g, 14, none⟩ = some (.int .u32 C.P.dseq) := (AK.out w1 t1).cell 14; have e15 : w1.cell? ⟨g, 15, none⟩ = some (.slice da C.dh.length dc) := (AK.out w1 t1).cell 15; have e16 : w1.cell? ⟨g, 16, none⟩ = some (.slice ka C.ks.length kc) := (AK.out w1 t1).cell 16; have e17 : w1.cell? ⟨g, 17, none⟩ = some (.slice sa C.ss.length sc) := (AK.out w1 t1).cell 17; have e18 : w1.cell? ⟨g, 18, none⟩ = some (.slice ha C.hs.length hc) := (AK.out w1 t1).cell 18))
            go_ret
            have E : k = true := HK.out.2 ⟨(fun h => by first | trivial | rfl | omega), (fun h => by first | trivial | rfl | omega), (fun h => by omega), (fun h => by omega), (fun h => by omega)⟩
            rw [E]
            exact ⟨by first | rfl | exact ret_bool (by simp_all), (TA.out.trans t1)⟩
          · have ab : ((C.hs.length : Int) == 0) = false := by rw [beq_eq_false_iff_ne]; omega
            go_wp2_with (first | (go_at_call 99; refine Calls.mono (HH _) ?_; rintro e w1 ⟨rfl, t1⟩; have e0 : w1.cell? ⟨g, 0, none⟩ = some (.int .u8 C.P.typ) := (AK.out w1 t1).cell 0; have e11 : w1.cell? ⟨g, 11, none⟩ = some (.int .u16 C.P.mtu) := (AK.out w1 t1).cell 11; have e12 : w1.cell? ⟨g, 12, none⟩ = some (.int .u8 C.P.dopts) := (AK.out w1 t1).cell 12; have e13 : w1.cell? ⟨g, 13, none⟩ = some (.int .u8 C.P.dflags) := (AK.out w1 t1).cell 13; have e14 : w1.cell? ⟨g, 14, none⟩ = some (.int .u32 C.P.dseq) := (AK.out w1 t1).cell 14; have e15 : w1.cell? ⟨g, 15, none⟩ = some (.slice da C.dh.length dc) := (AK.out w1 t1).cell 15; have e16 : w1.cell? ⟨g, 16, none⟩ = some (.slice ka C.ks.length kc) := (AK.out w1 t1).cell 16; have e17 : w1.cell? ⟨g, 17, none⟩ = some (.slice sa C.ss.length sc) := (AK.out w1 t1).cell 17; have e18 : w1.cell? ⟨g, 18, none⟩ = some (.slice ha C.hs.length hc) := (AK.out w1 t1).cell 18))
            go_ret
            have E : k = false := by
              cases k with
              | false => rfl
              | true =>
                have p := HK.out.1 rfl
                have q := p.2.2.2.2 (by omega); omega
            rw [E]
            exact ⟨by first | rfl | exact ret_bool (by simp_all), (TA.out.trans t1)⟩
        · have sb : ((C.ss.length : Int) == 0) = false := by rw [beq_eq_false_iff_ne]; omega
          go_wp2_with (first | (go_at_call 99; refine Calls.mono (HH _) ?_; rintro e w1 ⟨rfl, t1⟩; have e0 : w1.cell? ⟨g, 0, none⟩ = some (.int .u8 C.P.typ) := (AK.out w1 t1).cell 0; have e11 : w1.cell? ⟨g, 11, none⟩ = some (.int .u16 C.P.mtu) := (AK.out w1 t1).cell 11; have e12 : w1.cell? ⟨g, 12, none⟩ = some (.int .u8 C.P.dopts) := (AK.out w1 t1).cell 12; have e13 : w1.cell? ⟨g, 13, none⟩ = some (.int .u8 C.P.dflags) := (AK.out w1 t1).cell 13; have e14 : w1.cell? ⟨g, 14, none⟩ = some (.int .u32 C.P.dseq) := (AK.out w1 t1).cell 14; have e15 : w1.cell? ⟨g, 15, none⟩ = some (.slice da C.dh.length dc) := (AK.out w1 t1).cell 15; have e16 : w1.cell? ⟨g, 16, none⟩ = some (.slice ka C.ks.length kc) := (AK.out w1 t1).cell 16; have e17 : w1.cell? ⟨g, 17, none⟩ = some (.slice sa C.ss.length sc) := (AK.out w1 t1).cell 17; have e18 : w1.cell? ⟨g, 18, none⟩ = some (.slice ha C.hs.length hc) := (AK.out w1 t1).cell 18))
          go_ret
          have E : k = false := by
            cases k with
            | false => rfl
            | true =>
              have p := HK.out.1 rfl
              have q := p.2.2.2.1 (by omega); omega
          rw [E]
          exact ⟨by first | rfl | exact ret_bool (by simp_all), (TA.out.trans t1)⟩
      · have kb : ((C.ks.length : Int) == 0) = false := by rw [beq_eq_false_iff_ne]; omega
        go_wp2_with (first | (go_at_call 99; refine Calls.mono (HH _) ?_; rintro e w1 ⟨rfl, t1⟩; have e0 : w1.cell? ⟨g, 0, none⟩ = some (.int .u8 C.P.typ) := (AK.out w1 t1).cell 0; have e11 : w1.cell? ⟨g, 11, none⟩ = some (.int .u16 C.P.mtu) := (AK.out w1 t1).cell 11; have e12 : w1.cell? ⟨g, 12, none⟩ = some (.int .u8 C.P.dopts) := (AK.out w1 t1).cell 12; have e13 : w1.cell? ⟨g, 13, none⟩ = some (.int .u8 C.P.dflags) := (AK.out w1 t1).cell 13; have e14 : w1.cell? ⟨g, 14, none⟩ = some (.int .u32 C.P.dseq) := (AK.out w1 t1).cell 14; have e15 : w1.cell? ⟨g, 15, none⟩ = some (.slice da C.dh.length dc) := (AK.out w1 t1).cell 15; have e16 : w1.cell? ⟨g, 16, none⟩ = some (.slice ka C.ks.length kc) := (AK.out w1 t1).cell 16; have e17 : w1.cell? ⟨g, 17, none⟩ = some (.slice sa C.ss.length sc) := (AK.out w1 t1).cell 17; have e18 : w1.cell? ⟨g, 18, none⟩ = some (.slice ha C.hs.length hc) := (AK.out w1 t1).cell 18))
        go_ret
        have E : k = false := by
          cases k with
          | false => rfl
          | true =>
            have p := HK.out.1 rfl
            have q := p.2.2.1 (by omega); omega
        rw [E]
        exact ⟨by first | rfl | exact ret_bool (by simp_all), (TA.out.trans t1)⟩
  · have n1 : (C.P.typ != 1) = true := by simp [ht]
    have n2 : (C.P.typ != 2) = true := by simp [ht]
    have n3 : (C.P.typ == 3) = true := by simp [ht]
    have n4 : (C.P.typ == 4) = false := by simp [ht]
    have n5 : (C.P.typ == 5) = false := by simp [ht]
    cases hb with
    | true =>
      go_wp2_with (first | (go_at_call 99; refine Calls.mono (HH _) ?_; rintro e w1 ⟨rfl, t1⟩; have e0 : w1.cell? ⟨g, 0, none⟩ = some (.int .u8 C.P.typ) := (AK.out w1 t1).cell 0; have e11 : w1.cell? ⟨g, 11, none⟩ = some (.int .u16 C.P.mtu) := (AK.out w1 t1).cell 11; have e12 : w1.cell? ⟨g, 12, none⟩ = some (.int .u8 C.P.dopts) := (AK.out w1 t1).cell 12; have e13 : w1.cell? ⟨g, 13, none⟩ = some (.int .u8 C.P.dflags) := (AK.out w1 t1).cell 13; have e14 : w1.cell? ⟨g, 14, none⟩ = some (.int .u32 C.P.dseq) := (AK.out w1 t1).cell 14; have e15 : w1.cell? ⟨g, 15, none⟩ = some (.slice da C.dh.length dc) := (AK.out w1 t1).cell 15; have e16 : w1.cell? ⟨g, 16, none⟩ = some (.slice ka C.ks.length kc) := (AK.out w1 t1).cell 16; have e17 : w1.cell? ⟨g, 17, none⟩ = some (.slice sa C.ss.length sc) := (AK.out w1 t1).cell 17; have e18 : w1.cell? ⟨g, 18, none⟩ = some (.slice ha C.hs.length hc) := (AK.out w1 t1).cell 18))
      go_ret
      have E : k = false := by
        cases k with
        | false => rfl
        | true =>
          have p := HK.out.1 rfl
          have q := p.1 (by omega); cases q
      rw [E]
      exact ⟨by first | rfl | exact ret_bool (by simp_all), (TA.out.trans t1)⟩
    | false =>
      cases db with
      | true =>
        go_wp2_with (first | (go_at_call 99; refine Calls.mono (HH _) ?_; rintro e w1 ⟨rfl, t1⟩; have e0 : w1.cell? ⟨g, 0, none⟩ = some (.int .u8 C.P.typ) := (AK.out w1 t1).cell 0; have e11 : w1.cell? ⟨g, 11, none⟩ = some (.int .u16 C.P.mtu) := (AK.out w1 t1).cell 11; have e12 : w1.cell? ⟨g, 12, none⟩ = some (.int .u8 C.P.dopts) := (AK.out w1 t1).cell 12; have e13 : w1.cell? ⟨g, 13, none⟩ = some (.int .u8 C.P.dflags) := (AK.out w1 t1).cell 13; have e14 : w1.cell? ⟨g, 14, none⟩ = some (.int .u32 C.P.dseq) := (AK.out w1 t1).cell 14; have e15 : w1.cell? ⟨g, 15, none⟩ = some (.slice da C.dh.length dc) := (AK.out w1 t1).cell 15; have e16 : w1.cell? ⟨g, 16, none⟩ = some (.slice ka C.ks.length kc) := (AK.out w1 t1).cell 16; have e17 : w1.cell? ⟨g, 17, none⟩ = some (.slice sa C.ss.length sc) := (AK.out w1 t1).cell 17; have e18 : w1.cell? ⟨g, 18, none⟩ = some (.slice ha C.hs.length hc) := (AK.out w1 t1).cell 18) | (go_at_call 100; refine Calls.mono (HD _) ?_; rintro e w2 ⟨rfl, t2⟩; have f0 : w2.cell? ⟨g, 0, none⟩ = some (.int .u8 C.P.typ) := (AK.out w2 (t1.trans t2)).cell 0; have f11 : w2.cell? ⟨g, 11, none⟩ = some (.int .u16 C.P.mtu) := (AK.out w2 (t1.trans t2)).cell 11; have f12 : w2.cell? ⟨g, 12, none⟩ = some (.int .u8 C.P.dopts) := (AK.out w2 (t1.trans t2)).cell 12; have f13 : w2.cell? ⟨g, 13, none⟩ = some (.int .u8 C.P.dflags) := (AK.out w2 (t1.trans t2)).cell 13; have f14 : w2.cell? ⟨g, 14, none⟩ = some (.int .u32 C.P.dseq) := (AK.out w2 (t1.trans t2)).cell 14; have f15 : w2.cell? ⟨g, 15, none⟩ = some (.slice da C.dh.length dc) := (AK.out w2 (t1.trans t2)).cell 15; have f16 : w2.cell? ⟨g, 16, none⟩ = some (.slice ka C.ks.length kc) := (AK.out w2 (t1.trans t2)).cell 16; have f17 : w2.cell? ⟨g, 17, none⟩ = some (.slice sa C.ss.length sc) := (AK.out w2 (t1.trans t2)).cell 17; have f18 : w2.cell? ⟨g, 18, none⟩ = some (.slice ha C.hs.length hc) := (AK.out w2 (t1.trans t2)).cell 18))
        go_ret
        have E : k = false := by
          cases k with
          | false => rfl
          | true =>
            have p := HK.out.1 rfl
            have q := p.2.1 (by omega); cases q
        rw [E]
        exact ⟨by first | rfl | exact ret_bool (by simp_all), ((TA.out.trans t1).trans t2)⟩
      | false =>
        have sq : C.ss.length = 0 ∨ ¬ C.ss.length = 0 := by omega
        rcases sq with sz | sz
        · have sb : ((C.ss.length : Int) == 0) = true := by simp [sz]
          have aq : C.hs.length = 0 ∨ ¬ C.hs.length = 0 := by omega
          rcases aq with az | az
          · have ab : ((C.hs.length : Int) == 0) = true := by simp [az]
            go_wp2_with (first | (go_at_call 99; refine Calls.mono (HH _) ?_; rintro e w1 ⟨rfl, t1⟩; have e0 : w1.cell? ⟨g, 0, none⟩ = some (.int .u8 C.P.typ) := (AK.out w1 t1).cell 0; have e11 : w1.cell? ⟨g, 11, none⟩ = some (.int .u16 C.P.mtu) := (AK.out w1 t1).cell 11; have e12 : w1.cell? ⟨g, 12, none⟩ = some (.int .u8 C.P.dopts) := (AK.out w1 t1).cell 12; have e13 : w1.cell? ⟨g, 13, none⟩ = some (.int .u8 C.P.dflags) := (AK.out w1 t1).cell 13; have e14 : w1.cell? ⟨g, 14, none⟩ = some (.int .u32 C.P.dseq) := (AK.out w1 t1).cell 14; have e15 : w1.cell? ⟨g, 15, none⟩ = some (.slice da C.dh.length dc) := (AK.out w1 t1).cell 15; have e16 : w1.cell? ⟨g, 16, none⟩ = some (.slice ka C.ks.length kc) := (AK.out w1 t1).cell 16; have e17 : w1.cell? ⟨g, 17, none⟩ = some (.slice sa C.ss.length sc) := (AK.out w1 t1).cell 17; have e18 : w1.cell? ⟨g, 18, none⟩ = some (.slice ha C.hs.length hc) := (AK.out w1 t1).cell 18) | (go_at_call 100; refine Calls.mono (HD _) ?_; rintro e w2 ⟨rfl, t2⟩; have f0 : w2.cell? ⟨g, 0, none⟩ = some (.int .u8 C.P.typ) := (AK.out w2 (t1.trans t2)).cell 0; have f11 : w2.cell? ⟨g, 11, none⟩ = some (.int .u16 C.P.mtu) := (AK.out w2 (t1.trans t2)).cell 11; have f12 : w2.cell? ⟨g, 12, none⟩ = some (.int .u8 C.P.dopts) := (AK.out w2 (t1.trans t2)).cell 12; have f13 : w2.cell? ⟨g, 13, none⟩ = some (.int .u8 C.P.dflags) := (AK.out w2 (t1.trans t2)).cell 13; have f14 : w2.cell? ⟨g, 14, none⟩ = some (.int .u32 C.P.dseq) := (AK.out w2 (t1.trans t2)).cell 14; have f15 : w2.cell? ⟨g, 15, none⟩ = some (.slice da C.dh.length dc) := (AK.out w2 (t1.trans t2)).cell 15; have f16 : w2.cell? ⟨g, 16, none⟩ = some (.slice ka C.ks.length kc) := (AK.out w2 (t1.trans t2)).cell 16; have f17 : w2.cell? ⟨g, 17, none⟩ = some (.slice sa C.ss.length sc) := (AK.out w2 (t1.trans t2)).cell 17; have f18 : w2.cell? ⟨g, 18, none⟩ = some (.slice ha C.hs.length hc) := (AK.out w2 (t1.trans t2)).cell 18))
            go_ret
            have E : k = true := HK.out.2 ⟨(fun h => by first | trivial | rfl | omega), (fun h => by first | trivial | rfl | omega), (fun h => by omega), (fun h => by omega), (fun h => by omega)⟩
            rw [E]
            exact ⟨by first | rfl | exact ret_bool (by simp_all), ((TA.out.trans t1).trans t2)⟩
          · have ab : ((C.hs.length : Int) == 0) = false := by rw [beq_eq_false_iff_ne]; omega
            go_wp2_with (first | (go_at_call 99; refine Calls.mono (HH _) ?_; rintro e w1 ⟨rfl, t1⟩; have e0 : w1.cell? ⟨g, 0, none⟩ = some (.int .u8 C.P.typ) := (AK.out w1 t1).cell 0; have e11 : w1.cell? ⟨g, 11, none⟩ = some (.int .u16 C.P.mtu) := (AK.out w1 t1).cell 11; have e12 : w1.cell? ⟨g, 12, none⟩ = some (.int .u8 C.P.dopts) := (AK.out w1 t1).cell 12; have e13 : w1.cell? ⟨g, 13, none⟩ = some (.int .u8 C.P.dflags) := (AK.out w1 t1).cell 13; have e14 : w1.cell? ⟨g, 14, none⟩ = some (.int .u32 C.P.dseq) := (AK.out w1 t1).cell 14; have e15 : w1.cell? ⟨g, 15, none⟩ = some (.slice da C.dh.length dc) := (AK.out w1 t1).cell 15; have e16 : w1.cell? ⟨g, 16, none⟩ = some (.slice ka C.ks.length kc) := (AK.out w1 t1).cell 16; have e17 : w1.cell? ⟨g, 17, none⟩ = some (.slice sa C.ss.length sc) := (AK.out w1 t1).cell 17; have e18 : w1.cell? ⟨g, 18, none⟩ = some (.slice ha C.hs.length hc) := (AK.out w1 t1).cell 18) | (go_at_call 100; refine Calls.mono (HD _) ?_; rintro e w2 ⟨rfl, t2⟩; have f0 : w2.cell? ⟨g, 0, none⟩ = some (.int .u8 C.P.typ) := (AK.out w2 (t1.trans t2)).cell 0; have f11 : w2.cell? ⟨g, 11, none⟩ = some (.int .u16 C.P.mtu) := (AK.out w2 (t1.trans t2)).cell 11; have f12 : w2.cell? ⟨g, 12, none⟩ = some (.int .u8 C.P.dopts) := (AK.out w2 (t1.trans t2)).cell 12; have f13 : w2.cell? ⟨g, 13, none⟩ = some (.int .u8 C.P.dflags) := (AK.out w2 (t1.trans t2)).cell 13; have f14 : w2.cell? ⟨g, 14, none⟩ = some (.int .u32 C.P.dseq) := (AK.out w2 (t1.trans t2)).cell 14; have f15 : w2.cell? ⟨g, 15, none⟩ = some (.slice da C.dh.length dc) := (AK.out w2 (t1.trans t2)).cell 15; have f16 : w2.cell? ⟨g, 16, none⟩ = some (.slice ka C.ks.length kc) := (AK.out w2 (t1.trans t2)).cell 16; have f17 : w2.cell? ⟨g, 17, none⟩ = some (.slice sa C.ss.length sc) := (AK.out w2 (t1.trans t2)).cell 17; have f18 : w2.cell? ⟨g, 18, none⟩ = some (.slice ha C.hs.length hc) := (AK.out w2 (t1.trans t2)).cell 18))
            go_ret
            have E : k = false := by
              cases k with
              | false => rfl
              | true =>
                have p := HK.out.1 rfl
                have q := p.2.2.2.2 (by omega); omega
            rw [E]
            exact ⟨by first | rfl | exact ret_bool (by simp_all), ((TA.out.trans t1).trans t2)⟩
        · have sb : ((C.ss.length : Int) == 0) = false := by rw [beq_eq_false_iff_ne]; omega
          go_wp2_with (first | (go_at_call 99; refine Calls.mono (HH _) ?_; rintro e w1 ⟨rfl, t1⟩; have e0 : w1.cell? ⟨g, 0, none⟩ = some (.int .u8 C.P.typ) := (AK.out w1 t1).cell 0; have e11 : w1.cell? ⟨g, 11, none⟩ = some (.int .u16 C.P.mtu) := (AK.out w1 t1).cell 11; have e12 : w1.cell? ⟨g, 12, none⟩ = some (.int .u8 C.P.dopts) := (AK.out w1 t1).cell 12; have e13 : w1.cell? ⟨g, 13, none⟩ = some (.int .u8 C.P.dflags) := (AK.out w1 t1).cell 13; have e14 : w1.cell? ⟨g, 14, none⟩ = some (.int .u32 C.P.dseq) := (AK.out w1 t1).cell 14; have e15 : w1.cell? ⟨g, 15, none⟩ = some (.slice da C.dh.length dc) := (AK.out w1 t1).cell 15; have e16 : w1.cell? ⟨g, 16, none⟩ = some (.slice ka C.ks.length kc) := (AK.out w1 t1).cell 16; have e17 : w1.cell? ⟨g, 17, none⟩ = some (.slice sa C.ss.length sc) := (AK.out w1 t1).cell 17; have e18 : w1.cell? ⟨g, 18, none⟩ = some (.slice ha C.hs.length hc) := (AK.out w1 t1).cell 18) | (go_at_call 100; refine Calls.mono (HD _) ?_; rintro e w2 ⟨rfl, t2⟩; have f0 : w2.cell? ⟨g, 0, none⟩ = some (.int .u8 C.P.typ) := (AK.out w2 (t1.trans t2)).cell 0; have f11 : w2.cell? ⟨g, 11, none⟩ = some (.int .u16 C.P.mtu) := (AK.out w2 (t1.trans t2)).cell 11; have f12 : w2.cell? ⟨g, 12, none⟩ = some (.int .u8 C.P.dopts) := (AK.out w2 (t1.trans t2)).cell 12; have f13 : w2.cell? ⟨g, 13, none⟩ = some (.int .u8 C.P.dflags) := (AK.out w2 (t1.trans t2)).cell 13; have f14 : w2.cell? ⟨g, 14, none⟩ = some (.int .u32 C.P.dseq) := (AK.out w2 (t1.trans t2)).cell 14; have f15 : w2.cell? ⟨g, 15, none⟩ = some (.slice da C.dh.length dc) := (AK.out w2 (t1.trans t2)).cell 15; have f16 : w2.cell? ⟨g, 16, none⟩ = some (.slice ka C.ks.length kc) := (AK.out w2 (t1.trans t2)).cell 16; have f17 : w2.cell? ⟨g, 17, none⟩ = some (.slice sa C.ss.length sc) := (AK.out w2 (t1.trans t2)).cell 17; have f18 : w2.cell? ⟨g, 18, none⟩ = some (.slice ha C.hs.length hc) := (AK.out w2 (t1.trans t2)).cell 18))
          go_ret
          have E : k = false := by
            cases k with
            | false => rfl
            | true =>
              have p := HK.out.1 rfl
              have q := p.2.2.2.1 (by omega); omega
          rw [E]
          exact ⟨by first | rfl | exact ret_bool (by simp_all), ((TA.out.trans t1).trans t2)⟩
  · have n1 : (C.P.typ != 1) = true := by simp [ht]
    have n2 : (C.P.typ != 2) = true := by simp [ht]
    have n3 : (C.P.typ == 3) = false := by simp [ht]
    have n4 : (C.P.typ == 4) = true := by simp [ht]
    have n5 : (C.P.typ == 5) = false := by simp [ht]
    cases hb with
    | true =>
      go_wp2_with (first | (go_at_call 99; refine Calls.mono (HH _) ?_; rintro e w1 ⟨rfl, t1⟩; have e0 : w1.cell? ⟨g, 0, none⟩ = some (.int .u8 C.P.typ) := (AK.out w1 t1).cell 0; have e11 : w1.cell? ⟨g, 11, none⟩ = some (.int .u16 C.P.mtu) := (AK.out w1 t1).cell 11; have e12 : w1.cell? ⟨g, 12, none⟩ = some (.int .u8 C.P.dopts) := (AK.out w1 t1).cell 12; have e13 : w1.cell? ⟨g, 13, none⟩ = some (.int .u8 C.P.dflags) := (AK.out w1 t1).cell 13; have e14 : w1.cell? ⟨g, 14, none⟩ = some (.int .u32 C.P.dseq) := (AK.out w1 t1).cell 14; have e15 : w1.cell? ⟨g, 15, none⟩ = some (.slice da C.dh.length dc) := (AK.out w1 t1).cell 15; have e16 : w1.cell? ⟨g, 16, none⟩ = some (.slice ka C.ks.length kc) := (AK.out w1 t1).cell 16; have e17 : w1.cell? ⟨g, 17, none⟩ = some (.slice sa C.ss.length sc) := (AK.out w1 t1).cell 17; have e18 : w1.cell? ⟨g, 18, none⟩ = some (.slice ha C.hs.length hc) := (AK.out w1 t1).cell 18))
      go_ret
      have E : k = false := by
        cases k with
        | false => rfl
        | true =>
          have p := HK.out.1 rfl
          have q := p.1 (by omega); cases q
      rw [E]
      exact ⟨by first | rfl | exact ret_bool (by simp_all), (TA.out.trans t1)⟩
    | false =>
      cases db with
      | true =>
        go_wp2_with (first | (go_at_call 99; refine Calls.mono (HH _) ?_; rintro e w1 ⟨rfl, t1⟩; have e0 : w1.cell? ⟨g, 0, none⟩ = some (.int .u8 C.P.typ) := (AK.out w1 t1).cell 0; have e11 : w1.cell? ⟨g, 11, none⟩ = some (.int .u16 C.P.mtu) := (AK.out w1 t1).cell 11; have e12 : w1.cell? ⟨g, 12, none⟩ = some (.int .u8 C.P.dopts) := (AK.out w1 t1).cell 12; have e13 : w1.cell? ⟨g, 13, none⟩ = some (.int .u8 C.P.dflags) := (AK.out w1 t1).cell 13; have e14 : w1.cell? ⟨g, 14, none⟩ = some (.int .u32 C.P.dseq) := (AK.out w1 t1).cell 14; have e15 : w1.cell? ⟨g, 15, none⟩ = some (.slice da C.dh.length dc) := (AK.out w1 t1).cell 15; have e16 : w1.cell? ⟨g, 16, none⟩ = some (.slice ka C.ks.length kc) := (AK.out w1 t1).cell 16; have e17 : w1.cell? ⟨g, 17, none⟩ = some (.slice sa C.ss.length sc) := (AK.out w1 t1).cell 17; have e18 : w1.cell? ⟨g, 18, none⟩ = some (.slice ha C.hs.length hc) := (AK.out w1 t1).cell 18) | (go_at_call 100; refine Calls.mono (HD _) ?_; rintro e w2 ⟨rfl, t2⟩; have f0 : w2.cell? ⟨g, 0, none⟩ = some (.int .u8 C.P.typ) := (AK.out w2 (t1.trans t2)).cell 0; have f11 : w2.cell? ⟨g, 11, none⟩ = some (.int .u16 C.P.mtu) := (AK.out w2 (t1.trans t2)).cell 11; have f12 : w2.cell? ⟨g, 12, none⟩ = some (.int .u8 C.P.dopts) := (AK.out w2 (t1.trans t2)).cell 12; have f13 : w2.cell? ⟨g, 13, none⟩ = some (.int .u8 C.P.dflags) := (AK.out w2 (t1.trans t2)).cell 13; have f14 : w2.cell? ⟨g, 14, none⟩ = some (.int .u32 C.P.dseq) := (AK.out w2 (t1.trans t2)).cell 14; have f15 : w2.cell? ⟨g, 15, none⟩ = some (.slice da C.dh.length dc) := (AK.out w2 (t1.trans t2)).cell 15; have f16 : w2.cell? ⟨g, 16, none⟩ = some (.slice ka C.ks.length kc) := (AK.out w2 (t1.trans t2)).cell 16; have f17 : w2.cell? ⟨g, 17, none⟩ = some (.slice sa C.ss.length sc) := (AK.out w2 (t1.trans t2)).cell 17; have f18 : w2.cell? ⟨g, 18, none⟩ = some (.slice ha C.hs.length hc) := (AK.out w2 (t1.trans t2)).cell 18))
        go_ret
        have E : k = false := by
          cases k with
          | false => rfl
          | true =>
            have p := HK.out.1 rfl
            have q := p.2.1 (by omega); cases q
        rw [E]
        exact ⟨by first | rfl | exact ret_bool (by simp_all), ((TA.out.trans t1).trans t2)⟩
      | false =>
        have kq : C.ks.length = 0 ∨ ¬ C.ks.length = 0 := by omega
        rcases kq with kz | kz
        · have kb : ((C.ks.length : Int) == 0) = true := by simp [kz]
          have aq : C.hs.length = 0 ∨ ¬ C.hs.length = 0 := by omega
          rcases aq with az | az
          · have ab : ((C.hs.length : Int) == 0) = true := by simp [az]
            go_wp2_with (first | (go_at_call 99; refine Calls.mono (HH _) ?_; rintro e w1 ⟨rfl, t1⟩; have e0 : w1.cell? ⟨g, 0, none⟩ = some (.int .u8 C.P.typ) := (AK.out w1 t1).cell 0; have e11 : w1.cell? ⟨g, 11, none⟩ = some (.int .u16 C.P.mtu) := (AK.out w1 t1).cell 11; have e12 : w1.cell? ⟨g, 12, none⟩ = some (.int .u8 C.P.dopts) := (AK.out w1 t1).cell 12; have e13 : w1.cell? ⟨g, 13, none⟩ = some (.int .u8 C.P.dflags) := (AK.out w1 t1).cell 13; have e14 : w1.cell? ⟨g, 14, none⟩ = some (.int .u32 C.P.dseq) := (AK.out w1 t1).cell 14; have e15 : w1.cell? ⟨g, 15, none⟩ = some (.slice da C.dh.length dc) := (AK.out w1 t1).cell 15; have e16 : w1.cell? ⟨g, 16, none⟩ = some (.slice ka C.ks.length kc) := (AK.out w1 t1).cell 16; have e17 : w1.cell? ⟨g, 17, none⟩ = some (.slice sa C.ss.length sc) := (AK.out w1 t1).cell 17; have e18 : w1.cell? ⟨g, 18, none⟩ = some (.slice ha C.hs.length hc) := (AK.out w1 t1).cell 18) | (go_at_call 100; refine Calls.mono (HD _) ?_; rintro e w2 ⟨rfl, t2⟩; have f0 : w2.cell? ⟨g, 0, none⟩ = some (.int .u8 C.P.typ) := (AK.out w2 (t1.trans t2)).cell 0; have f11 : w2.cell? ⟨g, 11, none⟩ = some (.int .u16 C.P.mtu) := (AK.out w2 (t1.trans t2)).cell 11; have f12 : w2.cell? ⟨g, 12, none⟩ = some (.int .u8 C.P.dopts) := (AK.out w2 (t1.trans t2)).cell 12; have f13 : w2.cell? ⟨g, 13, none⟩ = some (.int .u8 C.P.dflags) := (AK.out w2 (t1.trans t2)).cell 13; have f14 : w2.cell? ⟨g, 14, none⟩ = some (.int .u32 C.P.dseq) := (AK.out w2 (t1.trans t2)).cell 14; have f15 : w2.cell? ⟨g, 15, none⟩ = some (.slice da C.dh.length dc) := (AK.out w2 (t1.trans t2)).cell 15; have f16 : w2.cell? ⟨g, 16, none⟩ = some (.slice ka C.ks.length kc) := (AK.out w2 (t1.trans t2)).cell 16; have f17 : w2.cell? ⟨g, 17, none⟩ = some (.slice sa C.ss.length sc) := (AK.out w2 (t1.trans t2)).cell 17; have f18 : w2.cell? ⟨g, 18, none⟩ = some (.slice ha C.hs.length hc) := (AK.out w2 (t1.trans t2)).cell 18))
            go_ret
            have E : k = true := HK.out.2 ⟨(fun h => by first | trivial | rfl | omega), (fun h => by first | trivial | rfl | omega), (fun h => by omega), (fun h => by omega), (fun h => by omega)⟩
            rw [E]
            exact ⟨by first | rfl | exact ret_bool (by simp_all), ((TA.out.trans t1).trans t2)⟩
          · have ab : ((C.hs.length : Int) == 0) = false := by rw [beq_eq_false_iff_ne]; omega
            go_wp2_with (first | (go_at_call 99; refine Calls.mono (HH _) ?_; rintro e w1 ⟨rfl, t1⟩; have e0 : w1.cell? ⟨g, 0, none⟩ = some (.int .u8 C.P.typ) := (AK.out w1 t1).cell 0; have e11 : w1.cell? ⟨g, 11, none⟩ = some (.int .u16 C.P.mtu) := (AK.out w1 t1).cell 11; have e12 : w1.cell? ⟨g, 12, none⟩ = some (.int .u8 C.P.dopts) := (AK.out w1 t1).cell 12; have e13 : w1.cell? ⟨g, 13, none⟩ = some (.int .u8 C.P.dflags) := (AK.out w1 t1).cell 13; have e14 : w1.cell? ⟨g, 14, none⟩ = some (.int .u32 C.P.dseq) := (AK.out w1 t1).cell 14; have e15 : w1.cell? ⟨g, 15, none⟩ = some (.slice da C.dh.length dc) := (AK.out w1 t1).cell 15; have e16 : w1.cell? ⟨g, 16, none⟩ = some (.slice ka C.ks.length kc) := (AK.out w1 t1).cell 16; have e17 : w1.cell? ⟨g, 17, none⟩ = some (.slice sa C.ss.length sc) := (AK.out w1 t1).cell 17; have e18 : w1.cell? ⟨g, 18, none⟩ = some (.slice ha C.hs.length hc) := (AK.out w1 t1).cell 18) | (go_at_call 100; refine Calls.mono (HD _) ?_; rintro e w2 ⟨rfl, t2⟩; have f0 : w2.cell? ⟨g, 0, none⟩ = some (.int .u8 C.P.typ) := (AK.out w2 (t1.trans t2)).cell 0; have f11 : w2.cell? ⟨g, 11, none⟩ = some (.int .u16 C.P.mtu) := (AK.out w2 (t1.trans t2)).cell 11; have f12 : w2.cell? ⟨g, 12, none⟩ = some (.int .u8 C.P.dopts) := (AK.out w2 (t1.trans t2)).cell 12; have f13 : w2.cell? ⟨g, 13, none⟩ = some (.int .u8 C.P.dflags) := (AK.out w2 (t1.trans t2)).cell 13; have f14 : w2.cell? ⟨g, 14, none⟩ = some (.int .u32 C.P.dseq) := (AK.out w2 (t1.trans t2)).cell 14; have f15 : w2.cell? ⟨g, 15, none⟩ = some (.slice da C.dh.length dc) := (AK.out w2 (t1.trans t2)).cell 15; have f16 : w2.cell? ⟨g, 16, none⟩ = some (.slice ka C.ks.length kc) := (AK.out w2 (t1.trans t2)).cell 16; have f17 : w2.cell? ⟨g, 17, none⟩ = some (.slice sa C.ss.length sc) := (AK.out w2 (t1.trans t2)).cell 17; have f18 : w2.cell? ⟨g, 18, none⟩ = some (.slice ha C.hs.length hc) := (AK.out w2 (t1.trans t2)).cell 18))
            go_ret
            have E : k = false := by
              cases k with
              | false => rfl
              | true =>
                have p := HK.out.1 rfl
                have q := p.2.2.2.2 (by omega); omega
            rw [E]
            exact ⟨by first | rfl | exact ret_bool (by simp_all), ((TA.out.trans t1).trans t2)⟩
        · have kb : ((C.ks.length : Int) == 0) = false := by rw [beq_eq_false_iff_ne]; omega
          go_wp2_with (first | (go_at_call 99; refine Calls.mono (HH _) ?_; rintro e w1 ⟨rfl, t1⟩; have e0 : w1.cell? ⟨g, 0, none⟩ = some (.int .u8 C.P.typ) := (AK.out w1 t1).cell 0; have e11 : w1.cell? ⟨g, 11, none⟩ = some (.int .u16 C.P.mtu) := (AK.out w1 t1).cell 11; have e12 : w1.cell? ⟨g, 12, none⟩ = some (.int .u8 C.P.dopts) := (AK.out w1 t1).cell 12; have e13 : w1.cell? ⟨g, 13, none⟩ = some (.int .u8 C.P.dflags) := (AK.out w1 t1).cell 13; have e14 : w1.cell? ⟨g, 14, none⟩ = some (.int .u32 C.P.dseq) := (AK.out w1 t1).cell 14; have e15 : w1.cell? ⟨g, 15, none⟩ = some (.slice da C.dh.length dc) := (AK.out w1 t1).cell 15; have e16 : w1.cell? ⟨g, 16, none⟩ = some (.slice ka C.ks.length kc) := (AK.out w1 t1).cell 16; have e17 : w1.cell? ⟨g, 17, none⟩ = some (.slice sa C.ss.length sc) := (AK.out w1 t1).cell 17; have e18 : w1.cell? ⟨g, 18, none⟩ = some (.slice ha C.hs.length hc) := (AK.out w1 t1).cell 18) | (go_at_call 100; refine Calls.mono (HD _) ?_; rintro e w2 ⟨rfl, t2⟩; have f0 : w2.cell? ⟨g, 0, none⟩ = some (.int .u8 C.P.typ) := (AK.out w2 (t1.trans t2)).cell 0; have f11 : w2.cell? ⟨g, 11, none⟩ = some (.int .u16 C.P.mtu) := (AK.out w2 (t1.trans t2)).cell 11; have f12 : w2.cell? ⟨g, 12, none⟩ = some (.int .u8 C.P.dopts) := (AK.out w2 (t1.trans t2)).cell 12; have f13 : w2.cell? ⟨g, 13, none⟩ = some (.int .u8 C.P.dflags) := (AK.out w2 (t1.trans t2)).cell 13; have f14 : w2.cell? ⟨g, 14, none⟩ = some (.int .u32 C.P.dseq) := (AK.out w2 (t1.trans t2)).cell 14; have f15 : w2.cell? ⟨g, 15, none⟩ = some (.slice da C.dh.length dc) := (AK.out w2 (t1.trans t2)).cell 15; have f16 : w2.cell? ⟨g, 16, none⟩ = some (.slice ka C.ks.length kc) := (AK.out w2 (t1.trans t2)).cell 16; have f17 : w2.cell? ⟨g, 17, none⟩ = some (.slice sa C.ss.length sc) := (AK.out w2 (t1.trans t2)).cell 17; have f18 : w2.cell? ⟨g, 18, none⟩ = some (.slice ha C.hs.length hc) := (AK.out w2 (t1.trans t2)).cell 18))
          go_ret
          have E : k = false := by
            cases k with
            | false => rfl
            | true =>
              have p := HK.out.1 rfl
              have q := p.2.2.1 (by omega); omega
          rw [E]
          exact ⟨by first | rfl | exact ret_bool (by simp_all), ((TA.out.trans t1).trans t2)⟩
  · have n1 : (C.P.typ != 1) = true := by simp [ht]
    have n2 : (C.P.typ != 2) = true := by simp [ht]
    have n3 : (C.P.typ == 3) = false := by simp [ht]
    have n4 : (C.P.typ == 4) = false := by simp [ht]
    have n5 : (C.P.typ == 5) = true := by simp [ht]
    cases hb with
    | true =>
      go_wp2_with (first | (go_at_call 99; refine Calls.mono (HH _) ?_; rintro e w1 ⟨rfl, t1⟩; have e0 : w1.cell? ⟨g, 0, none⟩ = some (.int .u8 C.P.typ) := (AK.out w1 t1).cell 0; have e11 : w1.cell? ⟨g, 11, none⟩ = some (.int .u16 C.P.mtu) := (AK.out w1 t1).cell 11; have e12 : w1.cell? ⟨g, 12, none⟩ = some (.int .u8 C.P.dopts) := (AK.out w1 t1).cell 12; have e13 : w1.cell? ⟨g, 13, none⟩ = some (.int .u8 C.P.dflags) := (AK.out w1 t1).cell 13; have e14 : w1.cell? ⟨g, 14, none⟩ = some (.int .u32 C.P.dseq) := (AK.out w1 t1).cell 14; have e15 : w1.cell? ⟨g, 15, none⟩ = some (.slice da C.dh.length dc) := (AK.out w1 t1).cell 15; have e16 : w1.cell? ⟨g, 16, none⟩ = some (.slice ka C.ks.length kc) := (AK.out w1 t1).cell 16; have e17 : w1.cell? ⟨g, 17, none⟩ = some (.slice sa C.ss.length sc) := (AK.out w1 t1).cell 17; have e18 : w1.cell? ⟨g, 18, none⟩ = some (.slice ha C.hs.length hc) := (AK.out w1 t1).cell 18))
      go_ret
      have E : k = false := by
        cases k with
        | false => rfl
        | true =>
          have p := HK.out.1 rfl
          have q := p.1 (by omega); cases q
      rw [E]
      exact ⟨by first | rfl | exact ret_bool (by simp_all), (TA.out.trans t1)⟩
    | false =>
      cases db with
      | true =>
        go_wp2_with (first | (go_at_call 99; refine Calls.mono (HH _) ?_; rintro e w1 ⟨rfl, t1⟩; have e0 : w1.cell? ⟨g, 0, none⟩ = some (.int .u8 C.P.typ) := (AK.out w1 t1).cell 0; have e11 : w1.cell? ⟨g, 11, none⟩ = some (.int .u16 C.P.mtu) := (AK.out w1 t1).cell 11; have e12 : w1.cell? ⟨g, 12, none⟩ = some (.int .u8 C.P.dopts) := (AK.out w1 t1).cell 12; have e13 : w1.cell? ⟨g, 13, none⟩ = some (.int .u8 C.P.dflags) := (AK.out w1 t1).cell 13; have e14 : w1.cell? ⟨g, 14, none⟩ = some (.int .u32 C.P.dseq) := (AK.out w1 t1).cell 14; have e15 : w1.cell? ⟨g, 15, none⟩ = some (.slice da C.dh.length dc) := (AK.out w1 t1).cell 15; have e16 : w1.cell? ⟨g, 16, none⟩ = some (.slice ka C.ks.length kc) := (AK.out w1 t1).cell 16; have e17 : w1.cell? ⟨g, 17, none⟩ = some (.slice sa C.ss.length sc) := (AK.out w1 t1).cell 17; have e18 : w1.cell? ⟨g, 18, none⟩ = some (.slice ha C.hs.length hc) := (AK.out w1 t1).cell 18) | (go_at_call 100; refine Calls.mono (HD _) ?_; rintro e w2 ⟨rfl, t2⟩; have f0 : w2.cell? ⟨g, 0, none⟩ = some (.int .u8 C.P.typ) := (AK.out w2 (t1.trans t2)).cell 0; have f11 : w2.cell? ⟨g, 11, none⟩ = some (.int .u16 C.P.mtu) := (AK.out w2 (t1.trans t2)).cell 11; have f12 : w2.cell? ⟨g, 12, none⟩ = some (.int .u8 C.P.dopts) := (AK.out w2 (t1.trans t2)).cell 12; have f13 : w2.cell? ⟨g, 13, none⟩ = some (.int .u8 C.P.dflags) := (AK.out w2 (t1.trans t2)).cell 13; have f14 : w2.cell? ⟨g, 14, none⟩ = some (.int .u32 C.P.dseq) := (AK.out w2 (t1.trans t2)).cell 14; have f15 : w2.cell? ⟨g, 15, none⟩ = some (.slice da C.dh.length dc) := (AK.out w2 (t1.trans t2)).cell 15; have f16 : w2.cell? ⟨g, 16, none⟩ = some (.slice ka C.ks.length kc) := (AK.out w2 (t1.trans t2)).cell 16; have f17 : w2.cell? ⟨g, 17, none⟩ = some (.slice sa C.ss.length sc) := (AK.out w2 (t1.trans t2)).cell 17; have f18 : w2.cell? ⟨g, 18, none⟩ = some (.slice ha C.hs.length hc) := (AK.out w2 (t1.trans t2)).cell 18))
        go_ret
        have E : k = false := by
          cases k with
          | false => rfl
          | true =>
            have p := HK.out.1 rfl
            have q := p.2.1 (by omega); cases q
        rw [E]
        exact ⟨by first | rfl | exact ret_bool (by simp_all), ((TA.out.trans t1).trans t2)⟩
      | false =>
        have kq : C.ks.length = 0 ∨ ¬ C.ks.length = 0 := by omega
        rcases kq with kz | kz
        · have kb : ((C.ks.length : Int) == 0) = true := by simp [kz]
          have sq : C.ss.length = 0 ∨ ¬ C.ss.length = 0 := by omega
          rcases sq with sz | sz
          · have sb : ((C.ss.length : Int) == 0) = true := by simp [sz]
            go_wp2_with (first | (go_at_call 99; refine Calls.mono (HH _) ?_; rintro e w1 ⟨rfl, t1⟩; have e0 : w1.cell? ⟨g, 0, none⟩ = some (.int .u8 C.P.typ) := (AK.out w1 t1).cell 0; have e11 : w1.cell? ⟨g, 11, none⟩ = some (.int .u16 C.P.mtu) := (AK.out w1 t1).cell 11; have e12 : w1.cell? ⟨g, 12, none⟩ = some (.int .u8 C.P.dopts) := (AK.out w1 t1).cell 12; have e13 : w1.cell? ⟨g, 13, none⟩ = some (.int .u8 C.P.dflags) := (AK.out w1 t1).cell 13; have e14 : w1.cell? ⟨g, 14, none⟩ = some (.int .u32 C.P.dseq) := (AK.out w1 t1).cell 14; have e15 : w1.cell? ⟨g, 15, none⟩ = some (.slice da C.dh.length dc) := (AK.out w1 t1).cell 15; have e16 : w1.cell? ⟨g, 16, none⟩ = some (.slice ka C.ks.length kc) := (AK.out w1 t1).cell 16; have e17 : w1.cell? ⟨g, 17, none⟩ = some (.slice sa C.ss.length sc) := (AK.out w1 t1).cell 17; have e18 : w1.cell? ⟨g, 18, none⟩ = some (.slice ha C.hs.length hc) := (AK.out w1 t1).cell 18) | (go_at_call 100; refine Calls.mono (HD _) ?_; rintro e w2 ⟨rfl, t2⟩; have f0 : w2.cell? ⟨g, 0, none⟩ = some (.int .u8 C.P.typ) := (AK.out w2 (t1.trans t2)).cell 0; have f11 : w2.cell? ⟨g, 11, none⟩ = some (.int .u16 C.P.mtu) := (AK.out w2 (t1.trans t2)).cell 11; have f12 : w2.cell? ⟨g, 12, none⟩ = some (.int .u8 C.P.dopts) := (AK.out w2 (t1.trans t2)).cell 12; have f13 : w2.cell? ⟨g, 13, none⟩ = some (.int .u8 C.P.dflags) := (AK.out w2 (t1.trans t2)).cell 13; have f14 : w2.cell? ⟨g, 14, none⟩ = some (.int .u32 C.P.dseq) := (AK.out w2 (t1.trans t2)).cell 14; have f15 : w2.cell? ⟨g, 15, none⟩ = some (.slice da C.dh.length dc) := (AK.out w2 (t1.trans t2)).cell 15; have f16 : w2.cell? ⟨g, 16, none⟩ = some (.slice ka C.ks.length kc) := (AK.out w2 (t1.trans t2)).cell 16; have f17 : w2.cell? ⟨g, 17, none⟩ = some (.slice sa C.ss.length sc) := (AK.out w2 (t1.trans t2)).cell 17; have f18 : w2.cell? ⟨g, 18, none⟩ = some (.slice ha C.hs.length hc) := (AK.out w2 (t1.trans t2)).cell 18))
            go_ret
            have E : k = true := HK.out.2 ⟨(fun h => by first | trivial | rfl | omega), (fun h => by first | trivial | rfl | omega), (fun h => by omega), (fun h => by omega), (fun h => by omega)⟩
            rw [E]
            exact ⟨by first | rfl | exact ret_bool (by simp_all), ((TA.out.trans t1).trans t2)⟩
          · have sb : ((C.ss.length : Int) == 0) = false := by rw [beq_eq_false_iff_ne]; omega
            go_wp2_with (first | (go_at_call 99; refine Calls.mono (HH _) ?_; rintro e w1 ⟨rfl, t1⟩; have e0 : w1.cell? ⟨g, 0, none⟩ = some (.int .u8 C.P.typ) := (AK.out w1 t1).cell 0; have e11 : w1.cell? ⟨g, 11, none⟩ = some (.int .u16 C.P.mtu) := (AK.out w1 t1).cell 11; have e12 : w1.cell? ⟨g, 12, none⟩ = some (.int .u8 C.P.dopts) := (AK.out w1 t1).cell 12; have e13 : w1.cell? ⟨g, 13, none⟩ = some (.int .u8 C.P.dflags) := (AK.out w1 t1).cell 13; have e14 : w1.cell? ⟨g, 14, none⟩ = some (.int .u32 C.P.dseq) := (AK.out w1 t1).cell 14; have e15 : w1.cell? ⟨g, 15, none⟩ = some (.slice da C.dh.length dc) := (AK.out w1 t1).cell 15; have e16 : w1.cell? ⟨g, 16, none⟩ = some (.slice ka C.ks.length kc) := (AK.out w1 t1).cell 16; have e17 : w1.cell? ⟨g, 17, none⟩ = some (.slice sa C.ss.length sc) := (AK.out w1 t1).cell 17; have e18 : w1.cell? ⟨g, 18, none⟩ = some (.slice ha C.hs.length hc) := (AK.out w1 t1).cell 18) | (go_at_call 100; refine Calls.mono (HD _) ?_; rintro e w2 ⟨rfl, t2⟩; have f0 : w2.cell? ⟨g, 0, none⟩ = some (.int .u8 C.P.typ) := (AK.out w2 (t1.trans t2)).cell 0; have f11 : w2.cell? ⟨g, 11, none⟩ = some (.int .u16 C.P.mtu) := (AK.out w2 (t1.trans t2)).cell 11; have f12 : w2.cell? ⟨g, 12, none⟩ = some (.int .u8 C.P.dopts) := (AK.out w2 (t1.trans t2)).cell 12; have f13 : w2.cell? ⟨g, 13, none⟩ = some (.int .u8 C.P.dflags) := (AK.out w2 (t1.trans t2)).cell 13; have f14 : w2.cell? ⟨g, 14, none⟩ = some (.int .u32 C.P.dseq) := (AK.out w2 (t1.trans t2)).cell 14; have f15 : w2.cell? ⟨g, 15, none⟩ = some (.slice da C.dh.length dc) := (AK.out w2 (t1.trans t2)).cell 15; have f16 : w2.cell? ⟨g, 16, none⟩ = some (.slice ka C.ks.length kc) := (AK.out w2 (t1.trans t2)).cell 16; have f17 : w2.cell? ⟨g, 17, none⟩ = some (.slice sa C.ss.length sc) := (AK.out w2 (t1.trans t2)).cell 17; have f18 : w2.cell? ⟨g, 18, none⟩ = some (.slice ha C.hs.length hc) := (AK.out w2 (t1.trans t2)).cell 18))
            go_ret
            have E : k = false := by
              cases k with
              | false => rfl
              | true =>
                have p := HK.out.1 rfl
                have q := p.2.2.2.1 (by omega); omega
            rw [E]
            exact ⟨by first | rfl | exact ret_bool (by simp_all), ((TA.out.trans t1).trans t2)⟩
        · have kb : ((C.ks.length : Int) == 0) = false := by rw [beq_eq_false_iff_ne]; omega
          go_wp2_with (first | (go_at_call 99; refine Calls.mono (HH _) ?_; rintro e w1 ⟨rfl, t1⟩; have e0 : w1.cell? ⟨g, 0, none⟩ = some (.int .u8 C.P.typ) := (AK.out w1 t1).cell 0; have e11 : w1.cell? ⟨g, 11, none⟩ = some (.int .u16 C.P.mtu) := (AK.out w1 t1).cell 11; have e12 : w1.cell? ⟨g, 12, none⟩ = some (.int .u8 C.P.dopts) := (AK.out w1 t1).cell 12; have e13 : w1.cell? ⟨g, 13, none⟩ = some (.int .u8 C.P.dflags) := (AK.out w1 t1).cell 13; have e14 : w1.cell? ⟨g, 14, none⟩ = some (.int .u32 C.P.dseq) := (AK.out w1 t1).cell 14; have e15 : w1.cell? ⟨g, 15, none⟩ = some (.slice da C.dh.length dc) := (AK.out w1 t1).cell 15; have e16 : w1.cell? ⟨g, 16, none⟩ = some (.slice ka C.ks.length kc) := (AK.out w1 t1).cell 16; have e17 : w1.cell? ⟨g, 17, none⟩ = some (.slice sa C.ss.length sc) := (AK.out w1 t1).cell 17; have e18 : w1.cell? ⟨g, 18, none⟩ = some (.slice ha C.hs.length hc) := (AK.out w1 t1).cell 18) | (go_at_call 100; refine Calls.mono (HD _) ?_; rintro e w2 ⟨rfl, t2⟩; have f0 : w2.cell? ⟨g, 0, none⟩ = some (.int .u8 C.P.typ) := (AK.out w2 (t1.trans t2)).cell 0; have f11 : w2.cell? ⟨g, 11, none⟩ = some (.int .u16 C.P.mtu) := (AK.out w2 (t1.trans t2)).cell 11; have f12 : w2.cell? ⟨g, 12, none⟩ = some (.int .u8 C.P.dopts) := (AK.out w2 (t1.trans t2)).cell 12; have f13 : w2.cell? ⟨g, 13, none⟩ = some (.int .u8 C.P.dflags) := (AK.out w2 (t1.trans t2)).cell 13; have f14 : w2.cell? ⟨g, 14, none⟩ = some (.int .u32 C.P.dseq) := (AK.out w2 (t1.trans t2)).cell 14; have f15 : w2.cell? ⟨g, 15, none⟩ = some (.slice da C.dh.length dc) := (AK.out w2 (t1.trans t2)).cell 15; have f16 : w2.cell? ⟨g, 16, none⟩ = some (.slice ka C.ks.length kc) := (AK.out w2 (t1.trans t2)).cell 16; have f17 : w2.cell? ⟨g, 17, none⟩ = some (.slice sa C.ss.length sc) := (AK.out w2 (t1.trans t2)).cell 17; have f18 : w2.cell? ⟨g, 18, none⟩ = some (.slice ha C.hs.length hc) := (AK.out w2 (t1.trans t2)).cell 18))
          go_ret
          have E : k = false := by
            cases k with
            | false => rfl
            | true =>
              have p := HK.out.1 rfl
              have q := p.2.2.1 (by omega); omega
          rw [E]
          exact ⟨by first | rfl | exact ret_bool (by simp_all), ((TA.out.trans t1).trans t2)⟩
  · have n1 : (C.P.typ != 1) = true := by simp [ht]
    have n2 : (C.P.typ != 2) = true := by simp [ht]
    have n3 : (C.P.typ == 3) = false := by simp [ht]
    have n4 : (C.P.typ == 4) = false := by simp [ht]
    have n5 : (C.P.typ == 5) = false := by simp [ht]
    cases hb with
    | true =>
      go_wp2_with (first | (go_at_call 99; refine Calls.mono (HH _) ?_; rintro e w1 ⟨rfl, t1⟩; have e0 : w1.cell? ⟨g, 0, none⟩ = some (.int .u8 C.P.typ) := (AK.out w1 t1).cell 0; have e11 : w1.cell? ⟨g, 11, none⟩ = some (.int .u16 C.P.mtu) := (AK.out w1 t1).cell 11; have e12 : w1.cell? ⟨g, 12, none⟩ = some (.int .u8 C.P.dopts) := (AK.out w1 t1).cell 12; have e13 : w1.cell? ⟨g, 13, none⟩ = some (.int .u8 C.P.dflags) := (AK.out w1 t1).cell 13; have e14 : w1.cell? ⟨g, 14, none⟩ = some (.int .u32 C.P.dseq) := (AK.out w1 t1).cell 14; have e15 : w1.cell? ⟨g, 15, none⟩ = some (.slice da C.dh.length dc) := (AK.out w1 t1).cell 15; have e16 : w1.cell? ⟨g, 16, none⟩ = some (.slice ka C.ks.length kc) := (AK.out w1 t1).cell 16; have e17 : w1.cell? ⟨g, 17, none⟩ = some (.slice sa C.ss.length sc) := (AK.out w1 t1).cell 17; have e18 : w1.cell? ⟨g, 18, none⟩ = some (.slice ha C.hs.length hc) := (AK.out w1 t1).cell 18))
      go_ret
      have E : k = false := by
        cases k with
        | false => rfl
        | true =>
          have p := HK.out.1 rfl
          have q := p.1 (by omega); cases q
      rw [E]
      exact ⟨by first | rfl | exact ret_bool (by simp_all), (TA.out.trans t1)⟩
    | false =>
      cases db with
      | true =>
        go_wp2_with (first | (go_at_call 99; refine Calls.mono (HH _) ?_; rintro e w1 ⟨rfl, t1⟩; have e0 : w1.cell? ⟨g, 0, none⟩ = some (.int .u8 C.P.typ) := (AK.out w1 t1).cell 0; have e11 : w1.cell? ⟨g, 11, none⟩ = some (.int .u16 C.P.mtu) := (AK.out w1 t1).cell 11; have e12 : w1.cell? ⟨g, 12, none⟩ = some (.int .u8 C.P.dopts) := (AK.out w1 t1).cell 12; have e13 : w1.cell? ⟨g, 13, none⟩ = some (.int .u8 C.P.dflags) := (AK.out w1 t1).cell 13; have e14 : w1.cell? ⟨g, 14, none⟩ = some (.int .u32 C.P.dseq) := (AK.out w1 t1).cell 14; have e15 : w1.cell? ⟨g, 15, none⟩ = some (.slice da C.dh.length dc) := (AK.out w1 t1).cell 15; have e16 : w1.cell? ⟨g, 16, none⟩ = some (.slice ka C.ks.length kc) := (AK.out w1 t1).cell 16; have e17 : w1.cell? ⟨g, 17, none⟩ = some (.slice sa C.ss.length sc) := (AK.out w1 t1).cell 17; have e18 : w1.cell? ⟨g, 18, none⟩ = some (.slice ha C.hs.length hc) := (AK.out w1 t1).cell 18) | (go_at_call 100; refine Calls.mono (HD _) ?_; rintro e w2 ⟨rfl, t2⟩; have f0 : w2.cell? ⟨g, 0, none⟩ = some (.int .u8 C.P.typ) := (AK.out w2 (t1.trans t2)).cell 0; have f11 : w2.cell? ⟨g, 11, none⟩ = some (.int .u16 C.P.mtu) := (AK.out w2 (t1.trans t2)).cell 11; have f12 : w2.cell? ⟨g, 12, none⟩ = some (.int .u8 C.P.dopts) := (AK.out w2 (t1.trans t2)).cell 12; have f13 : w2.cell? ⟨g, 13, none⟩ = some (.int .u8 C.P.dflags) := (AK.out w2 (t1.trans t2)).cell 13; have f14 : w2.cell? ⟨g, 14, none⟩ = some (.int .u32 C.P.dseq) := (AK.out w2 (t1.trans t2)).cell 14; have f15 : w2.cell? ⟨g, 15, none⟩ = some (.slice da C.dh.length dc) := (AK.out w2 (t1.trans t2)).cell 15; have f16 : w2.cell? ⟨g, 16, none⟩ = some (.slice ka C.ks.length kc) := (AK.out w2 (t1.trans t2)).cell 16; have f17 : w2.cell? ⟨g, 17, none⟩ = some (.slice sa C.ss.length sc) := (AK.out w2 (t1.trans t2)).cell 17; have f18 : w2.cell? ⟨g, 18, none⟩ = some (.slice ha C.hs.length hc) := (AK.out w2 (t1.trans t2)).cell 18))
        go_ret
        have E : k = false := by
          cases k with
          | false => rfl
          | true =>
            have p := HK.out.1 rfl
            have q := p.2.1 (by omega); cases q
        rw [E]
        exact ⟨by first | rfl | exact ret_bool (by simp_all), ((TA.out.trans t1).trans t2)⟩
      | false =>
        have kq : C.ks.length = 0 ∨ ¬ C.ks.length = 0 := by omega
        rcases kq with kz | kz
        · have kb : ((C.ks.length : Int) == 0) = true := by simp [kz]
          have sq : C.ss.length = 0 ∨ ¬ C.ss.length = 0 := by omega
          rcases sq with sz | sz
          · have sb : ((C.ss.length : Int) == 0) = true := by simp [sz]
            have aq : C.hs.length = 0 ∨ ¬ C.hs.length = 0 := by omega
            rcases aq with az | az
            · have ab : ((C.hs.length : Int) == 0) = true := by simp [az]
              go_wp2_with (first | (go_at_call 99; refine Calls.mono (HH _) ?_; rintro e w1 ⟨rfl, t1⟩; have e0 : w1.cell? ⟨g, 0, none⟩ = some (.int .u8 C.P.typ) := (AK.out w1 t1).cell 0; have e11 : w1.cell? ⟨g, 11, none⟩ = some (.int .u16 C.P.mtu) := (AK.out w1 t1).cell 11; have e12 : w1.cell? ⟨g, 12, none⟩ = some (.int .u8 C.P.dopts) := (AK.out w1 t1).cell 12; have e13 : w1.cell? ⟨g, 13, none⟩ = some (.int .u8 C.P.dflags) := (AK.out w1 t1).cell 13; have e14 : w1.cell? ⟨g, 14, none⟩ = some (.int .u32 C.P.dseq) := (AK.out w1 t1).cell 14; have e15 : w1.cell? ⟨g, 15, none⟩ = some (.slice da C.dh.length dc) := (AK.out w1 t1).cell 15; have e16 : w1.cell? ⟨g, 16, none⟩ = some (.slice ka C.ks.length kc) := (AK.out w1 t1).cell 16; have e17 : w1.cell? ⟨g, 17, none⟩ = some (.slice sa C.ss.length sc) := (AK.out w1 t1).cell 17; have e18 : w1.cell? ⟨g, 18, none⟩ = some (.slice ha C.hs.length hc) := (AK.out w1 t1).cell 18) | (go_at_call 100; refine Calls.mono (HD _) ?_; rintro e w2 ⟨rfl, t2⟩; have f0 : w2.cell? ⟨g, 0, none⟩ = some (.int .u8 C.P.typ) := (AK.out w2 (t1.trans t2)).cell 0; have f11 : w2.cell? ⟨g, 11, none⟩ = some (.int .u16 C.P.mtu) := (AK.out w2 (t1.trans t2)).cell 11; have f12 : w2.cell? ⟨g, 12, none⟩ = some (.int .u8 C.P.dopts) := (AK.out w2 (t1.trans t2)).cell 12; have f13 : w2.cell? ⟨g, 13, none⟩ = some (.int .u8 C.P.dflags) := (AK.out w2 (t1.trans t2)).cell 13; have f14 : w2.cell? ⟨g, 14, none⟩ = some (.int .u32 C.P.dseq) := (AK.out w2 (t1.trans t2)).cell 14; have f15 : w2.cell? ⟨g, 15, none⟩ = some (.slice da C.dh.length dc) := (AK.out w2 (t1.trans t2)).cell 15; have f16 : w2.cell? ⟨g, 16, none⟩ = some (.slice ka C.ks.length kc) := (AK.out w2 (t1.trans t2)).cell 16; have f17 : w2.cell? ⟨g, 17, none⟩ = some (.slice sa C.ss.length sc) := (AK.out w2 (t1.trans t2)).cell 17; have f18 : w2.cell? ⟨g, 18, none⟩ = some (.slice ha C.hs.length hc) := (AK.out w2 (t1.trans t2)).cell 18))
              go_ret
              have E : k = true := HK.out.2 ⟨(fun h => by first | trivial | rfl | omega), (fun h => by first | trivial | rfl | omega), (fun h => by omega), (fun h => by omega), (fun h => by omega)⟩
              rw [E]
              exact ⟨by first | rfl | exact ret_bool (by simp_all), ((TA.out.trans t1).trans t2)⟩
            · have ab : ((C.hs.length : Int) == 0) = false := by rw [beq_eq_false_iff_ne]; omega
              go_wp2_with (first | (go_at_call 99; refine Calls.mono (HH _) ?_; rintro e w1 ⟨rfl, t1⟩; have e0 : w1.cell? ⟨g, 0, none⟩ = some (.int .u8 C.P.typ) := (AK.out w1 t1).cell 0; have e11 : w1.cell? ⟨g, 11, none⟩ = some (.int .u16 C.P.mtu) := (AK.out w1 t1).cell 11; have e12 : w1.cell? ⟨g, 12, none⟩ = some (.int .u8 C.P.dopts) := (AK.out w1 t1).cell 12; have e13 : w1.cell? ⟨g, 13, none⟩ = some (.int .u8 C.P.dflags) := (AK.out w1 t1).cell 13; have e14 : w1.cell? ⟨g, 14, none⟩ = some (.int .u32 C.P.dseq) := (AK.out w1 t1).cell 14; have e15 : w1.cell? ⟨g, 15, none⟩ = some (.slice da C.dh.length dc) := (AK.out w1 t1).cell 15; have e16 : w1.cell? ⟨g, 16, none⟩ = some (.slice ka C.ks.length kc) := (AK.out w1 t1).cell 16; have e17 : w1.cell? ⟨g, 17, none⟩ = some (.slice sa C.ss.length sc) := (AK.out w1 t1).cell 17; have e18 : w1.cell? ⟨g, 18, none⟩ = some (.slice ha C.hs.length hc) := (AK.out w1 t1).cell 18) | (go_at_call 100; refine Calls.mono (HD _) ?_; rintro e w2 ⟨rfl, t2⟩; have f0 : w2.cell? ⟨g, 0, none⟩ = some (.int .u8 C.P.typ) := (AK.out w2 (t1.trans t2)).cell 0; have f11 : w2.cell? ⟨g, 11, none⟩ = some (.int .u16 C.P.mtu) := (AK.out w2 (t1.trans t2)).cell 11; have f12 : w2.cell? ⟨g, 12, none⟩ = some (.int .u8 C.P.dopts) := (AK.out w2 (t1.trans t2)).cell 12; have f13 : w2.cell? ⟨g, 13, none⟩ = some (.int .u8 C.P.dflags) := (AK.out w2 (t1.trans t2)).cell 13; have f14 : w2.cell? ⟨g, 14, none⟩ = some (.int .u32 C.P.dseq) := (AK.out w2 (t1.trans t2)).cell 14; have f15 : w2.cell? ⟨g, 15, none⟩ = some (.slice da C.dh.length dc) := (AK.out w2 (t1.trans t2)).cell 15; have f16 : w2.cell? ⟨g, 16, none⟩ = some (.slice ka C.ks.length kc) := (AK.out w2 (t1.trans t2)).cell 16; have f17 : w2.cell? ⟨g, 17, none⟩ = some (.slice sa C.ss.length sc) := (AK.out w2 (t1.trans t2)).cell 17; have f18 : w2.cell? ⟨g, 18, none⟩ = some (.slice ha C.hs.length hc) := (AK.out w2 (t1.trans t2)).cell 18))
              go_ret
              have E : k = false := by
                cases k with
                | false => rfl
                | true =>
                  have p := HK.out.1 rfl
                  have q := p.2.2.2.2 (by omega); omega
              rw [E]
              exact ⟨by first | rfl | exact ret_bool (by simp_all), ((TA.out.trans t1).trans t2)⟩
          · have sb : ((C.ss.length : Int) == 0) = false := by rw [beq_eq_false_iff_ne]; omega
            go_wp2_with (first | (go_at_call 99; refine Calls.mono (HH _) ?_; rintro e w1 ⟨rfl, t1⟩; have e0 : w1.cell? ⟨g, 0, none⟩ = some (.int .u8 C.P.typ) := (AK.out w1 t1).cell 0; have e11 : w1.cell? ⟨g, 11, none⟩ = some (.int .u16 C.P.mtu) := (AK.out w1 t1).cell 11; have e12 : w1.cell? ⟨g, 12, none⟩ = some (.int .u8 C.P.dopts) := (AK.out w1 t1).cell 12; have e13 : w1.cell? ⟨g, 13, none⟩ = some (.int .u8 C.P.dflags) := (AK.out w1 t1).cell 13; have e14 : w1.cell? ⟨g, 14, none⟩ = some (.int .u32 C.P.dseq) := (AK.out w1 t1).cell 14; have e15 : w1.cell? ⟨g, 15, none⟩ = some (.slice da C.dh.length dc) := (AK.out w1 t1).cell 15; have e16 : w1.cell? ⟨g, 16, none⟩ = some (.slice ka C.ks.length kc) := (AK.out w1 t1).cell 16; have e17 : w1.cell? ⟨g, 17, none⟩ = some (.slice sa C.ss.length sc) := (AK.out w1 t1).cell 17; have e18 : w1.cell? ⟨g, 18, none⟩ = some (.slice ha C.hs.length hc) := (AK.out w1 t1).cell 18) | (go_at_call 100; refine Calls.mono (HD _) ?_; rintro e w2 ⟨rfl, t2⟩; have f0 : w2.cell? ⟨g, 0, none⟩ = some (.int .u8 C.P.typ) := (AK.out w2 (t1.trans t2)).cell 0; have f11 : w2.cell? ⟨g, 11, none⟩ = some (.int .u16 C.P.mtu) := (AK.out w2 (t1.trans t2)).cell 11; have f12 : w2.cell? ⟨g, 12, none⟩ = some (.int .u8 C.P.dopts) := (AK.out w2 (t1.trans t2)).cell 12; have f13 : w2.cell? ⟨g, 13, none⟩ = some (.int .u8 C.P.dflags) := (AK.out w2 (t1.trans t2)).cell 13; have f14 : w2.cell? ⟨g, 14, none⟩ = some (.int .u32 C.P.dseq) := (AK.out w2 (t1.trans t2)).cell 14; have f15 : w2.cell? ⟨g, 15, none⟩ = some (.slice da C.dh.length dc) := (AK.out w2 (t1.trans t2)).cell 15; have f16 : w2.cell? ⟨g, 16, none⟩ = some (.slice ka C.ks.length kc) := (AK.out w2 (t1.trans t2)).cell 16; have f17 : w2.cell? ⟨g, 17, none⟩ = some (.slice sa C.ss.length sc) := (AK.out w2 (t1.trans t2)).cell 17; have f18 : w2.cell? ⟨g, 18, none⟩ = some (.slice ha C.hs.length hc) := (AK.out w2 (t1.trans t2)).cell 18))
            go_ret
            have E : k = false := by
              cases k with
              | false => rfl
              | true =>
                have p := HK.out.1 rfl
                have q := p.2.2.2.1 (by omega); omega
            rw [E]
            exact ⟨by first | rfl | exact ret_bool (by simp_all), ((TA.out.trans t1).trans t2)⟩
        · have kb : ((C.ks.length : Int) == 0) = false := by rw [beq_eq_false_iff_ne]; omega
          go_wp2_with (first | (go_at_call 99; refine Calls.mono (HH _) ?_; rintro e w1 ⟨rfl, t1⟩; have e0 : w1.cell? ⟨g, 0, none⟩ = some (.int .u8 C.P.typ) := (AK.out w1 t1).cell 0; have e11 : w1.cell? ⟨g, 11, none⟩ = some (.int .u16 C.P.mtu) := (AK.out w1 t1).cell 11; have e12 : w1.cell? ⟨g, 12, none⟩ = some (.int .u8 C.P.dopts) := (AK.out w1 t1).cell 12; have e13 : w1.cell? ⟨g, 13, none⟩ = some (.int .u8 C.P.dflags) := (AK.out w1 t1).cell 13; have e14 : w1.cell? ⟨g, 14, none⟩ = some (.int .u32 C.P.dseq) := (AK.out w1 t1).cell 14; have e15 : w1.cell? ⟨g, 15, none⟩ = some (.slice da C.dh.length dc) := (AK.out w1 t1).cell 15; have e16 : w1.cell? ⟨g, 16, none⟩ = some (.slice ka C.ks.length kc) := (AK.out w1 t1).cell 16; have e17 : w1.cell? ⟨g, 17, none⟩ = some (.slice sa C.ss.length sc) := (AK.out w1 t1).cell 17; have e18 : w1.cell? ⟨g, 18, none⟩ = some (.slice ha C.hs.length hc) := (AK.out w1 t1).cell 18) | (go_at_call 100; refine Calls.mono (HD _) ?_; rintro e w2 ⟨rfl, t2⟩; have f0 : w2.cell? ⟨g, 0, none⟩ = some (.int .u8 C.P.typ) := (AK.out w2 (t1.trans t2)).cell 0; have f11 : w2.cell? ⟨g, 11, none⟩ = some (.int .u16 C.P.mtu) := (AK.out w2 (t1.trans t2)).cell 11; have f12 : w2.cell? ⟨g, 12, none⟩ = some (.int .u8 C.P.dopts) := (AK.out w2 (t1.trans t2)).cell 12; have f13 : w2.cell? ⟨g, 13, none⟩ = some (.int .u8 C.P.dflags) := (AK.out w2 (t1.trans t2)).cell 13; have f14 : w2.cell? ⟨g, 14, none⟩ = some (.int .u32 C.P.dseq) := (AK.out w2 (t1.trans t2)).cell 14; have f15 : w2.cell? ⟨g, 15, none⟩ = some (.slice da C.dh.length dc) := (AK.out w2 (t1.trans t2)).cell 15; have f16 : w2.cell? ⟨g, 16, none⟩ = some (.slice ka C.ks.length kc) := (AK.out w2 (t1.trans t2)).cell 16; have f17 : w2.cell? ⟨g, 17, none⟩ = some (.slice sa C.ss.length sc) := (AK.out w2 (t1.trans t2)).cell 17; have f18 : w2.cell? ⟨g, 18, none⟩ = some (.slice ha C.hs.length hc) := (AK.out w2 (t1.trans t2)).cell 18))
          go_ret
          have E : k = false := by
            cases k with
            | false => rfl
            | true =>
              have p := HK.out.1 rfl
              have q := p.2.2.1 (by omega); omega
          rw [E]
          exact ⟨by first | rfl | exact ret_bool (by simp_all), ((TA.out.trans t1).trans t2)⟩
end Go.Proofs.YtjgeklipeeooaaaGreatDoor
