/- The document's side of stage 7: Encode, where it refuses. -/
import Derived.Test.YtjgeklipeeooaaaGreatDoorRefPkB
import Derived.Test.YtjgeklipeeooaaaGreatDoorOwnUn
import Derived.Test.YtjgeklipeeooaaaGreatDoorWideK
import Derived.Test.YtjgeklipeeooaaaGreatDoorCutB
import Derived.Deep.DeepCutAuto
namespace Go.Proofs.YtjgeklipeeooaaaGreatDoor
open Go.RowKit
set_option linter.unusedVariables false
set_option maxRecDepth 100000

theorem meas_len {C : PkC} (ok : C.Ok) (h : pmeas C = true) : ∀ s ∈ C.ss, s.2.length ≤ 65515 := fun s hs => by
  unfold pmeas at h
  have h1 := List.all_eq_true.1 h s hs
  have h2 : s.1.len = 20 + (s.2.length : Int) := by simpa using h1
  have h3 := (ok.sh s hs).l
  omega
/-- Every type. -/
theorem dbody_any (C : PkC) (ok : C.Ok) (ln : C.Ln) (hm : pmeas C = true) (lt : C.Lt) (na da ka sa ha : Option Addr) (nc dc kc sc hc : Nat) (w : World) (hp : PkAt w C (.slice na C.nb.length nc) (.slice da C.dh.length dc) (.slice ka C.ks.length kc) (.slice sa C.ss.length sc) (.slice ha C.hs.length hc)) :
    Calls Tryz.prog 37 #[C.P.v (.slice na C.nb.length nc) (.slice da C.dh.length dc) (.slice ka C.ks.length kc) (.slice sa C.ss.length sc) (.slice ha C.hs.length hc)] w fun e w' => ∃ v, e = .returned v ∧ Buf w w' v (pbodyB C) := by
  unfold pbodyB
  by_cases h1 : C.P.typ = 1
  · rw [if_pos h1]; exact dbody_1 C ok h1 na da ka sa ha nc dc kc sc hc w ln.n hp.n
  rw [if_neg h1]
  by_cases h2 : C.P.typ = 2
  · rw [if_pos h2]; exact dbody_2 C ok h2 na da ka sa ha nc dc kc sc hc w ln.d hp.d
  rw [if_neg h2]
  by_cases h3 : C.P.typ = 3
  · rw [if_pos h3]; exact dbody_3 C ok h3 na da ka sa ha nc dc kc sc hc w ln.k hp.k
  rw [if_neg h3]
  by_cases h4 : C.P.typ = 4
  · rw [if_pos h4]
    obtain ⟨l, hl, hs⟩ := hp.s
    exact dbody_4 C ok h4 na da ka sa ha nc dc kc sc hc w l hl lt.n (fun x hx => by have := meas_len ok hm x.p (by rw [← hl]; exact List.mem_map_of_mem hx); have e : x.p.2 = x.rs := rfl; rw [e] at this; omega) hs
  rw [if_neg h4]
  exact dbody_5 C ok h1 h2 h3 h4 na da ka sa ha nc dc kc sc hc w ln.h hp.h
set_option maxHeartbeats 2000000 in
theorem denc_21 (C : PkC) (ok : C.Ok) (lt : C.Lt) (ln : C.Ln) (A : AuV) (oa : A.Ok) (na da ka sa ha : Option Addr) (nc dc kc sc hc : Nat) (w : World) (hp : PkAt w C (.slice na C.nb.length nc) (.slice da C.dh.length dc) (.slice ka C.ks.length kc) (.slice sa C.ss.length sc) (.slice ha C.hs.length hc)) (ht : ¬ (1 ≤ C.P.typ ∧ C.P.typ ≤ 5)) : Calls Tryz.prog 10 #[C.P.v (.slice na C.nb.length nc) (.slice da C.dh.length dc) (.slice ka C.ks.length kc) (.slice sa C.ss.length sc) (.slice ha C.hs.length hc), A.v] w fun e w' => ∃ v, e = .returned (.tuple #[v, .int .i64 (pencE C A)]) ∧ Buf w w' v (pencB C A) := by
  have E := pencE_21 (A := A) ht
  have EB : pencB C A = [] := by unfold pencB; rw [if_neg (by rw [E]; omega)]
  rw [E, EB]
  clear E EB hp lt ln
  have hty := ok.P.typ
  have hor : C.P.typ < 1 ∨ 5 < C.P.typ := by omega
  clear ok ht
  unfold PV.v AuV.v

  obtain ⟨w0, hw0⟩ : ∃ w0, w0 = (w.alloc (.cells #[.int .u8 C.P.typ, .int .u32 C.P.router, .int .u32 C.P.area, .int .u32 C.P.mask, .int .u16 C.P.iv, .int .u8 C.P.opts, .int .u8 C.P.prio, .int .u32 C.P.dead, .int .u32 C.P.dr, .int .u32 C.P.bdr, .slice na C.nb.length nc, .int .u16 C.P.mtu, .int .u8 C.P.dopts, .int .u8 C.P.dflags, .int .u32 C.P.dseq, .slice da C.dh.length dc, .slice ka C.ks.length kc, .slice sa C.ss.length sc, .slice ha C.hs.length hc] 33)).alloc (.cells #[.int .u16 A.kind, .int .u8 A.d0, .int .u8 A.d1, .int .u8 A.d2, .int .u8 A.d3, .int .u8 A.d4, .int .u8 A.d5, .int .u8 A.d6, .int .u8 A.d7] 36) := ⟨_, rfl⟩
  have ta : Touch (fun _ => False) w w0 := by rw [hw0]; exact ((Touch.refl _ w).alloc _).alloc _
  have A0 : Row w0 w.heap.size 33 [.int .u8 C.P.typ, .int .u32 C.P.router, .int .u32 C.P.area, .int .u32 C.P.mask, .int .u16 C.P.iv, .int .u8 C.P.opts, .int .u8 C.P.prio, .int .u32 C.P.dead, .int .u32 C.P.dr, .int .u32 C.P.bdr, .slice na C.nb.length nc, .int .u16 C.P.mtu, .int .u8 C.P.dopts, .int .u8 C.P.dflags, .int .u32 C.P.dseq, .slice da C.dh.length dc, .slice ka C.ks.length kc, .slice sa C.ss.length sc, .slice ha C.hs.length hc] := by rw [hw0]; exact (row_new w 33 #[.int .u8 C.P.typ, .int .u32 C.P.router, .int .u32 C.P.area, .int .u32 C.P.mask, .int .u16 C.P.iv, .int .u8 C.P.opts, .int .u8 C.P.prio, .int .u32 C.P.dead, .int .u32 C.P.dr, .int .u32 C.P.bdr, .slice na C.nb.length nc, .int .u16 C.P.mtu, .int .u8 C.P.dopts, .int .u8 C.P.dflags, .int .u32 C.P.dseq, .slice da C.dh.length dc, .slice ka C.ks.length kc, .slice sa C.ss.length sc, .slice ha C.hs.length hc]).keep ((Touch.refl _ _).alloc _)
  have D0 : Row w0 (w.heap.size + 1) 36 [.int .u16 A.kind, .int .u8 A.d0, .int .u8 A.d1, .int .u8 A.d2, .int .u8 A.d3, .int .u8 A.d4, .int .u8 A.d5, .int .u8 A.d6, .int .u8 A.d7] := by
    have := row_new (w.alloc (.cells #[.int .u8 C.P.typ, .int .u32 C.P.router, .int .u32 C.P.area, .int .u32 C.P.mask, .int .u16 C.P.iv, .int .u8 C.P.opts, .int .u8 C.P.prio, .int .u32 C.P.dead, .int .u32 C.P.dr, .int .u32 C.P.bdr, .slice na C.nb.length nc, .int .u16 C.P.mtu, .int .u8 C.P.dopts, .int .u8 C.P.dflags, .int .u32 C.P.dseq, .slice da C.dh.length dc, .slice ka C.ks.length kc, .slice sa C.ss.length sc, .slice ha C.hs.length hc] 33)) 36 #[.int .u16 A.kind, .int .u8 A.d0, .int .u8 A.d1, .int .u8 A.d2, .int .u8 A.d3, .int .u8 A.d4, .int .u8 A.d5, .int .u8 A.d6, .int .u8 A.d7]
    rw [← hw0] at this
    simpa using this
  have AK : Hid (∀ w', Touch (fun _ => False) w0 w' → Row w' w.heap.size 33 [.int .u8 C.P.typ, .int .u32 C.P.router, .int .u32 C.P.area, .int .u32 C.P.mask, .int .u16 C.P.iv, .int .u8 C.P.opts, .int .u8 C.P.prio, .int .u32 C.P.dead, .int .u32 C.P.dr, .int .u32 C.P.bdr, .slice na C.nb.length nc, .int .u16 C.P.mtu, .int .u8 C.P.dopts, .int .u8 C.P.dflags, .int .u32 C.P.dseq, .slice da C.dh.length dc, .slice ka C.ks.length kc, .slice sa C.ss.length sc, .slice ha C.hs.length hc]) := fun w' t => A0.keep t
  have DK : Hid (∀ w', Touch (fun _ => False) w0 w' → Row w' (w.heap.size + 1) 36 [.int .u16 A.kind, .int .u8 A.d0, .int .u8 A.d1, .int .u8 A.d2, .int .u8 A.d3, .int .u8 A.d4, .int .u8 A.d5, .int .u8 A.d6, .int .u8 A.d7]) := fun w' t => D0.keep t
  have TA : Hid (Touch (fun _ => False) w w0) := ta
  clear ta D0
  go_enter Tryz.func10, Tryz.ntmps10
  go_upto_region 1 with fail
  rw [← hw0]
  clear hw0
  generalize w.heap.size + 1 = g2 at *
  generalize w.heap.size = g1 at *
  have c0 : w0.cell? ⟨g1, 0, none⟩ = some (.int .u8 C.P.typ) := A0.cell 0
  rcases hor with h1 | h5
  · go_wp2_with fail
    go_ret2
    exact ⟨_, rfl, Buf.nil TA.out⟩
  · have h1 : ¬ C.P.typ < 1 := by omega
    go_wp2_with fail
    go_ret2
    exact ⟨_, rfl, Buf.nil TA.out⟩
set_option maxHeartbeats 2000000 in
theorem denc_24 (C : PkC) (ok : C.Ok) (lt : C.Lt) (ln : C.Ln) (A : AuV) (oa : A.Ok) (na da ka sa ha : Option Addr) (nc dc kc sc hc : Nat) (w : World) (hp : PkAt w C (.slice na C.nb.length nc) (.slice da C.dh.length dc) (.slice ka C.ks.length kc) (.slice sa C.ss.length sc) (.slice ha C.hs.length hc)) (ht : 1 ≤ C.P.typ ∧ C.P.typ ≤ 5) (ha2 : ¬ PAlone C) : Calls Tryz.prog 10 #[C.P.v (.slice na C.nb.length nc) (.slice da C.dh.length dc) (.slice ka C.ks.length kc) (.slice sa C.ss.length sc) (.slice ha C.hs.length hc), A.v] w fun e w' => ∃ v, e = .returned (.tuple #[v, .int .i64 (pencE C A)]) ∧ Buf w w' v (pencB C A) := by
  have E := pencE_24 (A := A) ht ha2
  have EB : pencB C A = [] := by unfold pencB; rw [if_neg (by rw [E]; omega)]
  rw [E, EB]
  have HPA : Hid (¬ PAlone C) := ha2
  clear E EB hp lt ln ok ha2
  have HAL := fun w' => dalone_any C na da ka sa ha nc dc kc sc hc w'
  unfold PV.v at HAL
  unfold PV.v AuV.v

  obtain ⟨w0, hw0⟩ : ∃ w0, w0 = (w.alloc (.cells #[.int .u8 C.P.typ, .int .u32 C.P.router, .int .u32 C.P.area, .int .u32 C.P.mask, .int .u16 C.P.iv, .int .u8 C.P.opts, .int .u8 C.P.prio, .int .u32 C.P.dead, .int .u32 C.P.dr, .int .u32 C.P.bdr, .slice na C.nb.length nc, .int .u16 C.P.mtu, .int .u8 C.P.dopts, .int .u8 C.P.dflags, .int .u32 C.P.dseq, .slice da C.dh.length dc, .slice ka C.ks.length kc, .slice sa C.ss.length sc, .slice ha C.hs.length hc] 33)).alloc (.cells #[.int .u16 A.kind, .int .u8 A.d0, .int .u8 A.d1, .int .u8 A.d2, .int .u8 A.d3, .int .u8 A.d4, .int .u8 A.d5, .int .u8 A.d6, .int .u8 A.d7] 36) := ⟨_, rfl⟩
  have ta : Touch (fun _ => False) w w0 := by rw [hw0]; exact ((Touch.refl _ w).alloc _).alloc _
  have A0 : Row w0 w.heap.size 33 [.int .u8 C.P.typ, .int .u32 C.P.router, .int .u32 C.P.area, .int .u32 C.P.mask, .int .u16 C.P.iv, .int .u8 C.P.opts, .int .u8 C.P.prio, .int .u32 C.P.dead, .int .u32 C.P.dr, .int .u32 C.P.bdr, .slice na C.nb.length nc, .int .u16 C.P.mtu, .int .u8 C.P.dopts, .int .u8 C.P.dflags, .int .u32 C.P.dseq, .slice da C.dh.length dc, .slice ka C.ks.length kc, .slice sa C.ss.length sc, .slice ha C.hs.length hc] := by rw [hw0]; exact (row_new w 33 #[.int .u8 C.P.typ, .int .u32 C.P.router, .int .u32 C.P.area, .int .u32 C.P.mask, .int .u16 C.P.iv, .int .u8 C.P.opts, .int .u8 C.P.prio, .int .u32 C.P.dead, .int .u32 C.P.dr, .int .u32 C.P.bdr, .slice na C.nb.length nc, .int .u16 C.P.mtu, .int .u8 C.P.dopts, .int .u8 C.P.dflags, .int .u32 C.P.dseq, .slice da C.dh.length dc, .slice ka C.ks.length kc, .slice sa C.ss.length sc, .slice ha C.hs.length hc]).keep ((Touch.refl _ _).alloc _)
  have D0 : Row w0 (w.heap.size + 1) 36 [.int .u16 A.kind, .int .u8 A.d0, .int .u8 A.d1, .int .u8 A.d2, .int .u8 A.d3, .int .u8 A.d4, .int .u8 A.d5, .int .u8 A.d6, .int .u8 A.d7] := by
    have := row_new (w.alloc (.cells #[.int .u8 C.P.typ, .int .u32 C.P.router, .int .u32 C.P.area, .int .u32 C.P.mask, .int .u16 C.P.iv, .int .u8 C.P.opts, .int .u8 C.P.prio, .int .u32 C.P.dead, .int .u32 C.P.dr, .int .u32 C.P.bdr, .slice na C.nb.length nc, .int .u16 C.P.mtu, .int .u8 C.P.dopts, .int .u8 C.P.dflags, .int .u32 C.P.dseq, .slice da C.dh.length dc, .slice ka C.ks.length kc, .slice sa C.ss.length sc, .slice ha C.hs.length hc] 33)) 36 #[.int .u16 A.kind, .int .u8 A.d0, .int .u8 A.d1, .int .u8 A.d2, .int .u8 A.d3, .int .u8 A.d4, .int .u8 A.d5, .int .u8 A.d6, .int .u8 A.d7]
    rw [← hw0] at this
    simpa using this
  have AK : Hid (∀ w', Touch (fun _ => False) w0 w' → Row w' w.heap.size 33 [.int .u8 C.P.typ, .int .u32 C.P.router, .int .u32 C.P.area, .int .u32 C.P.mask, .int .u16 C.P.iv, .int .u8 C.P.opts, .int .u8 C.P.prio, .int .u32 C.P.dead, .int .u32 C.P.dr, .int .u32 C.P.bdr, .slice na C.nb.length nc, .int .u16 C.P.mtu, .int .u8 C.P.dopts, .int .u8 C.P.dflags, .int .u32 C.P.dseq, .slice da C.dh.length dc, .slice ka C.ks.length kc, .slice sa C.ss.length sc, .slice ha C.hs.length hc]) := fun w' t => A0.keep t
  have DK : Hid (∀ w', Touch (fun _ => False) w0 w' → Row w' (w.heap.size + 1) 36 [.int .u16 A.kind, .int .u8 A.d0, .int .u8 A.d1, .int .u8 A.d2, .int .u8 A.d3, .int .u8 A.d4, .int .u8 A.d5, .int .u8 A.d6, .int .u8 A.d7]) := fun w' t => D0.keep t
  have TA : Hid (Touch (fun _ => False) w w0) := ta
  clear ta D0
  go_enter Tryz.func10, Tryz.ntmps10
  go_upto_region 1 with fail
  rw [← hw0]
  clear hw0
  generalize w.heap.size + 1 = g2 at *
  generalize w.heap.size = g1 at *
  have c0 : w0.cell? ⟨g1, 0, none⟩ = some (.int .u8 C.P.typ) := A0.cell 0
  have h1 : ¬ C.P.typ < 1 := by omega
  have h5 : ¬ 5 < C.P.typ := by omega
  go_upto_region 3 with fail
  clear c0
  have R0 := A0.range
  go_wp2_with (refine wpList_load_mid rfl 33 (.tmp 2) rfl g1 0 rfl [.int .u8 C.P.typ, .int .u32 C.P.router, .int .u32 C.P.area, .int .u32 C.P.mask, .int .u16 C.P.iv, .int .u8 C.P.opts, .int .u8 C.P.prio, .int .u32 C.P.dead, .int .u32 C.P.dr, .int .u32 C.P.bdr, .slice na C.nb.length nc, .int .u16 C.P.mtu, .int .u8 C.P.dopts, .int .u8 C.P.dflags, .int .u32 C.P.dseq, .slice da C.dh.length dc, .slice ka C.ks.length kc, .slice sa C.ss.length sc, .slice ha C.hs.length hc] _ R0 Tryz.underlying33 rfl (by kernel_rfl) ?_)
  refine Calls.mono (HAL _) ?_
  rintro e w1 ⟨k, rfl, hk, t1⟩
  obtain rfl : k = false := by cases k; rfl; exact (HPA.out (hk.1 rfl)).elim
  have T1 : Hid (Touch (fun _ => False) w0 w1) := t1
  clear t1 R0 A0 HAL hk
  go_wp2_with fail
  go_ret2
  exact ⟨_, rfl, Buf.nil (TA.out.trans T1.out)⟩
set_option maxHeartbeats 4000000 in
theorem denc_22 (C : PkC) (ok : C.Ok) (lt : C.Lt) (ln : C.Ln) (A : AuV) (oa : A.Ok) (na da ka sa ha : Option Addr) (nc dc kc sc hc : Nat) (w : World) (hp : PkAt w C (.slice na C.nb.length nc) (.slice da C.dh.length dc) (.slice ka C.ks.length kc) (.slice sa C.ss.length sc) (.slice ha C.hs.length hc)) (ht : 1 ≤ C.P.typ ∧ C.P.typ ≤ 5) (ha2 : PAlone C) (hm : pmeas C = false) : Calls Tryz.prog 10 #[C.P.v (.slice na C.nb.length nc) (.slice da C.dh.length dc) (.slice ka C.ks.length kc) (.slice sa C.ss.length sc) (.slice ha C.hs.length hc), A.v] w fun e w' => ∃ v, e = .returned (.tuple #[v, .int .i64 (pencE C A)]) ∧ Buf w w' v (pencB C A) := by
  have E := pencE_22 (A := A) ht ha2 hm
  have EB : pencB C A = [] := by unfold pencB; rw [if_neg (by rw [E]; omega)]
  rw [E, EB]
  have HPA : Hid (PAlone C) := ha2
  obtain ⟨l, hl, hs⟩ := hp.s
  have hnn : C.ss.length ≤ 1000000 := lt.n
  have HLL : Hid (l.length = C.ss.length) := by show _ = _; rw [← hl, List.length_map]
  have HS : Hid (∀ w', Touch (fun _ => False) w w' → StatesAt w' (.slice sa C.ss.length sc) l) := fun w' t => hs.keep t
  have HLB : Hid (∀ x ∈ l, x.rs.length ≤ 1000000) := fun x hx => lt.b x.p (by rw [← hl]; exact List.mem_map_of_mem hx)
  have HM : Hid (¬ ∀ x ∈ l, x.h.len = 20 + (x.rs.length : Int)) := fun h => by
    have : pmeas C = true := by
      unfold pmeas
      rw [← hl]
      refine List.all_eq_true.2 (fun s hs => ?_)
      obtain ⟨x, hx, rfl⟩ := List.mem_map.1 hs
      exact decide_eq_true (h x hx)
    rw [this] at hm
    cases hm
  clear E EB hp ln ok ha2 hm hs hl lt
  have HAL := fun w' => dalone_any C na da ka sa ha nc dc kc sc hc w'
  unfold PV.v at HAL
  unfold PV.v AuV.v

  obtain ⟨w0, hw0⟩ : ∃ w0, w0 = (w.alloc (.cells #[.int .u8 C.P.typ, .int .u32 C.P.router, .int .u32 C.P.area, .int .u32 C.P.mask, .int .u16 C.P.iv, .int .u8 C.P.opts, .int .u8 C.P.prio, .int .u32 C.P.dead, .int .u32 C.P.dr, .int .u32 C.P.bdr, .slice na C.nb.length nc, .int .u16 C.P.mtu, .int .u8 C.P.dopts, .int .u8 C.P.dflags, .int .u32 C.P.dseq, .slice da C.dh.length dc, .slice ka C.ks.length kc, .slice sa C.ss.length sc, .slice ha C.hs.length hc] 33)).alloc (.cells #[.int .u16 A.kind, .int .u8 A.d0, .int .u8 A.d1, .int .u8 A.d2, .int .u8 A.d3, .int .u8 A.d4, .int .u8 A.d5, .int .u8 A.d6, .int .u8 A.d7] 36) := ⟨_, rfl⟩
  have ta : Touch (fun _ => False) w w0 := by rw [hw0]; exact ((Touch.refl _ w).alloc _).alloc _
  have A0 : Row w0 w.heap.size 33 [.int .u8 C.P.typ, .int .u32 C.P.router, .int .u32 C.P.area, .int .u32 C.P.mask, .int .u16 C.P.iv, .int .u8 C.P.opts, .int .u8 C.P.prio, .int .u32 C.P.dead, .int .u32 C.P.dr, .int .u32 C.P.bdr, .slice na C.nb.length nc, .int .u16 C.P.mtu, .int .u8 C.P.dopts, .int .u8 C.P.dflags, .int .u32 C.P.dseq, .slice da C.dh.length dc, .slice ka C.ks.length kc, .slice sa C.ss.length sc, .slice ha C.hs.length hc] := by rw [hw0]; exact (row_new w 33 #[.int .u8 C.P.typ, .int .u32 C.P.router, .int .u32 C.P.area, .int .u32 C.P.mask, .int .u16 C.P.iv, .int .u8 C.P.opts, .int .u8 C.P.prio, .int .u32 C.P.dead, .int .u32 C.P.dr, .int .u32 C.P.bdr, .slice na C.nb.length nc, .int .u16 C.P.mtu, .int .u8 C.P.dopts, .int .u8 C.P.dflags, .int .u32 C.P.dseq, .slice da C.dh.length dc, .slice ka C.ks.length kc, .slice sa C.ss.length sc, .slice ha C.hs.length hc]).keep ((Touch.refl _ _).alloc _)
  have D0 : Row w0 (w.heap.size + 1) 36 [.int .u16 A.kind, .int .u8 A.d0, .int .u8 A.d1, .int .u8 A.d2, .int .u8 A.d3, .int .u8 A.d4, .int .u8 A.d5, .int .u8 A.d6, .int .u8 A.d7] := by
    have := row_new (w.alloc (.cells #[.int .u8 C.P.typ, .int .u32 C.P.router, .int .u32 C.P.area, .int .u32 C.P.mask, .int .u16 C.P.iv, .int .u8 C.P.opts, .int .u8 C.P.prio, .int .u32 C.P.dead, .int .u32 C.P.dr, .int .u32 C.P.bdr, .slice na C.nb.length nc, .int .u16 C.P.mtu, .int .u8 C.P.dopts, .int .u8 C.P.dflags, .int .u32 C.P.dseq, .slice da C.dh.length dc, .slice ka C.ks.length kc, .slice sa C.ss.length sc, .slice ha C.hs.length hc] 33)) 36 #[.int .u16 A.kind, .int .u8 A.d0, .int .u8 A.d1, .int .u8 A.d2, .int .u8 A.d3, .int .u8 A.d4, .int .u8 A.d5, .int .u8 A.d6, .int .u8 A.d7]
    rw [← hw0] at this
    simpa using this
  have AK : Hid (∀ w', Touch (fun _ => False) w0 w' → Row w' w.heap.size 33 [.int .u8 C.P.typ, .int .u32 C.P.router, .int .u32 C.P.area, .int .u32 C.P.mask, .int .u16 C.P.iv, .int .u8 C.P.opts, .int .u8 C.P.prio, .int .u32 C.P.dead, .int .u32 C.P.dr, .int .u32 C.P.bdr, .slice na C.nb.length nc, .int .u16 C.P.mtu, .int .u8 C.P.dopts, .int .u8 C.P.dflags, .int .u32 C.P.dseq, .slice da C.dh.length dc, .slice ka C.ks.length kc, .slice sa C.ss.length sc, .slice ha C.hs.length hc]) := fun w' t => A0.keep t
  have DK : Hid (∀ w', Touch (fun _ => False) w0 w' → Row w' (w.heap.size + 1) 36 [.int .u16 A.kind, .int .u8 A.d0, .int .u8 A.d1, .int .u8 A.d2, .int .u8 A.d3, .int .u8 A.d4, .int .u8 A.d5, .int .u8 A.d6, .int .u8 A.d7]) := fun w' t => D0.keep t
  have TA : Hid (Touch (fun _ => False) w w0) := ta
  clear ta D0
  go_enter Tryz.func10, Tryz.ntmps10
  go_upto_region 1 with fail
  rw [← hw0]
  clear hw0
  generalize w.heap.size + 1 = g2 at *
  generalize w.heap.size = g1 at *
  have c0 : w0.cell? ⟨g1, 0, none⟩ = some (.int .u8 C.P.typ) := A0.cell 0
  have h1 : ¬ C.P.typ < 1 := by omega
  have h5 : ¬ 5 < C.P.typ := by omega
  go_upto_region 3 with fail
  clear c0
  have R0 := A0.range
  go_wp2_with (refine wpList_load_mid rfl 33 (.tmp 2) rfl g1 0 rfl [.int .u8 C.P.typ, .int .u32 C.P.router, .int .u32 C.P.area, .int .u32 C.P.mask, .int .u16 C.P.iv, .int .u8 C.P.opts, .int .u8 C.P.prio, .int .u32 C.P.dead, .int .u32 C.P.dr, .int .u32 C.P.bdr, .slice na C.nb.length nc, .int .u16 C.P.mtu, .int .u8 C.P.dopts, .int .u8 C.P.dflags, .int .u32 C.P.dseq, .slice da C.dh.length dc, .slice ka C.ks.length kc, .slice sa C.ss.length sc, .slice ha C.hs.length hc] _ R0 Tryz.underlying33 rfl (by kernel_rfl) ?_)
  refine Calls.mono (HAL _) ?_
  rintro e w1 ⟨k, rfl, hk, t1⟩
  obtain rfl : k = true := hk.2 HPA.out
  have T1 : Hid (Touch (fun _ => False) w0 w1) := t1
  clear t1 R0 A0 HAL hk
  go_wp2_with fail
  go_loopg [6] C.ss.length (fun gg i wr => ∃ j : Nat, j ≤ C.ss.length ∧ C.ss.length - j ≤ gg ∧ i = .int .i64 (j : Int) ∧ Hid ((∀ i x, i < j → l[i]? = some x → x.h.len = 20 + (x.rs.length : Int)) ∧ Touch (fun _ => False) w0 wr))
  case atStart => exact ⟨0, Nat.zero_le _, by omega, rfl, ⟨fun i x hi => by omega, T1.out⟩⟩
  case round =>
    clear T1
    obtain ⟨j, hj, hg, rfl, B0⟩ := hrel
    have q17 := (AK.out _ B0.out.2).cell 17
    rcases Nat.lt_or_ge j C.ss.length with hlt | hge
    · have hlt' : (j : Int) < (C.ss.length : Int) := by omega
      have hk0 : (0 : Int) ≤ (j : Int) := by omega
      obtain ⟨x, hx⟩ : ∃ x, l[j]? = some x := ⟨l[j]'(by have := HLL.out; omega), List.getElem?_eq_getElem _⟩
      obtain ⟨ox, gR, off, cR, eR, hcell⟩ := StatesAt.one (HS.out wr (TA.out.trans B0.out.2)) hx
      simp only [Value.slice.injEq] at eR
      obtain ⟨rfl, -, rfl⟩ := eR
      obtain ⟨xa, xc, hxv, -⟩ := ox.arg.form
      have r7 : wr.cell? ⟨gR, off + j * 9 + 7, none⟩ = some (.int .u16 x.h.len) := by rw [Nat.add_assoc]; exact hcell 7 _ rfl
      have r8 : wr.cell? ⟨gR, off + j * 9 + 8, none⟩ = some (.slice xa x.rs.length xc) := by rw [Nat.add_assoc]; exact hcell 8 _ (by simp [SE.cells, hxv])
      have hb := ox.all.l
      have HX : Hid (l[j]? = some x) := hx
      have hxr : x.rs.length ≤ 1000000 := HLB.out x (List.mem_of_getElem? hx)
      have hkw : wrap64 ((j : Int) + 1) = (j : Int) + 1 := by unfold wrap64; omega
      have z17 := aft_cell q17
      have z7 := aft_cell r7
      have z8 := aft_cell r8
      clear hcell hx ox hxv
      go_upto_region 8 with fail
      refine wp_region_aft (by kernel_rfl) (by kernel_rfl) ?_
      repeat (first | go_big_quiet_skip | (go_big_quiet_want; go_big_quiet_op; first | go_big_quiet_on | (refine Exists.intro _ ⟨fun _ => rfl, ?_⟩; go_big_quiet_on)))
      refine wpQuiet_nil ?_
      rintro wq ⟨⟨_, hgq⟩, rfl⟩
      have TQ : Hid (Touch (fun _ => False) w0 wq) := B0.out.2.trans hgq
      have BQ : Hid (∀ i x, i < j → l[i]? = some x → x.h.len = 20 + (x.rs.length : Int)) := B0.out.1
      clear q17 r7 r8 z17 z7 z8 hgq B0
      by_cases hx7 : x.h.len = 20 + (x.rs.length : Int)
      · have hme : (x.h.len != 20 + (x.rs.length : Int)) = false := by simpa using hx7
        have H7 : Hid (x.h.len = 20 + (x.rs.length : Int)) := hx7
        clear hx7
        go_wp2_with fail
        go_roundg (C.ss.length - (j + 1))
        case measure => omega
        case rel =>
          refine ⟨j + 1, by omega, by omega, by go_num, ⟨fun i y hi hy => ?_, TQ.out⟩⟩
          rcases Nat.lt_or_ge i j with h | h
          · exact BQ.out i y h hy
          · obtain rfl : i = j := by omega
            have e : y = x := Option.some.inj (hy.symm.trans HX.out)
            rw [e]
            exact H7.out
      · have hme : (x.h.len != 20 + (x.rs.length : Int)) = true := by simpa using hx7
        clear hx7 HX
        go_wp2_with fail
        go_ret2
        exact ⟨_, rfl, Buf.nil (TA.out.trans TQ.out)⟩
    · obtain rfl : j = C.ss.length := by omega
      have hlt' : ¬ (C.ss.length : Int) < (C.ss.length : Int) := by omega
      exfalso
      refine HM.out (fun x hx => ?_)
      obtain ⟨i, hi⟩ := List.getElem?_of_mem hx
      exact B0.out.1 i x (by have := (List.getElem?_eq_some_iff.mp hi).1; have := HLL.out; omega) hi
set_option maxHeartbeats 4000000 in
theorem denc_25 (C : PkC) (ok : C.Ok) (lt : C.Lt) (ln : C.Ln) (A : AuV) (oa : A.Ok) (na da ka sa ha : Option Addr) (nc dc kc sc hc : Nat) (w : World) (hp : PkAt w C (.slice na C.nb.length nc) (.slice da C.dh.length dc) (.slice ka C.ks.length kc) (.slice sa C.ss.length sc) (.slice ha C.hs.length hc)) (ht : 1 ≤ C.P.typ ∧ C.P.typ ≤ 5) (ha2 : PAlone C) (hm : pmeas C = true) (hk2 : 2 < A.kind) : Calls Tryz.prog 10 #[C.P.v (.slice na C.nb.length nc) (.slice da C.dh.length dc) (.slice ka C.ks.length kc) (.slice sa C.ss.length sc) (.slice ha C.hs.length hc), A.v] w fun e w' => ∃ v, e = .returned (.tuple #[v, .int .i64 (pencE C A)]) ∧ Buf w w' v (pencB C A) := by
  have E := pencE_25 (A := A) ht ha2 hm hk2
  have EB : pencB C A = [] := by unfold pencB; rw [if_neg (by rw [E]; omega)]
  rw [E, EB]
  have HPA : Hid (PAlone C) := ha2
  obtain ⟨l, hl, hs⟩ := hp.s
  have hnn : C.ss.length ≤ 1000000 := lt.n
  have HLL : Hid (l.length = C.ss.length) := by show _ = _; rw [← hl, List.length_map]
  have HS : Hid (∀ w', Touch (fun _ => False) w w' → StatesAt w' (.slice sa C.ss.length sc) l) := fun w' t => hs.keep t
  have HLB : Hid (∀ x ∈ l, x.rs.length ≤ 1000000) := fun x hx => lt.b x.p (by rw [← hl]; exact List.mem_map_of_mem hx)
  have HM : Hid (∀ x ∈ l, x.h.len = 20 + (x.rs.length : Int)) := fun x hx => by
    unfold pmeas at hm
    have h1 := List.all_eq_true.1 hm x.p (by rw [← hl]; exact List.mem_map_of_mem hx)
    exact of_decide_eq_true h1
  clear E EB hp ln ok ha2 hm hs hl lt
  have HAL := fun w' => dalone_any C na da ka sa ha nc dc kc sc hc w'
  unfold PV.v at HAL
  unfold PV.v AuV.v

  obtain ⟨w0, hw0⟩ : ∃ w0, w0 = (w.alloc (.cells #[.int .u8 C.P.typ, .int .u32 C.P.router, .int .u32 C.P.area, .int .u32 C.P.mask, .int .u16 C.P.iv, .int .u8 C.P.opts, .int .u8 C.P.prio, .int .u32 C.P.dead, .int .u32 C.P.dr, .int .u32 C.P.bdr, .slice na C.nb.length nc, .int .u16 C.P.mtu, .int .u8 C.P.dopts, .int .u8 C.P.dflags, .int .u32 C.P.dseq, .slice da C.dh.length dc, .slice ka C.ks.length kc, .slice sa C.ss.length sc, .slice ha C.hs.length hc] 33)).alloc (.cells #[.int .u16 A.kind, .int .u8 A.d0, .int .u8 A.d1, .int .u8 A.d2, .int .u8 A.d3, .int .u8 A.d4, .int .u8 A.d5, .int .u8 A.d6, .int .u8 A.d7] 36) := ⟨_, rfl⟩
  have ta : Touch (fun _ => False) w w0 := by rw [hw0]; exact ((Touch.refl _ w).alloc _).alloc _
  have A0 : Row w0 w.heap.size 33 [.int .u8 C.P.typ, .int .u32 C.P.router, .int .u32 C.P.area, .int .u32 C.P.mask, .int .u16 C.P.iv, .int .u8 C.P.opts, .int .u8 C.P.prio, .int .u32 C.P.dead, .int .u32 C.P.dr, .int .u32 C.P.bdr, .slice na C.nb.length nc, .int .u16 C.P.mtu, .int .u8 C.P.dopts, .int .u8 C.P.dflags, .int .u32 C.P.dseq, .slice da C.dh.length dc, .slice ka C.ks.length kc, .slice sa C.ss.length sc, .slice ha C.hs.length hc] := by rw [hw0]; exact (row_new w 33 #[.int .u8 C.P.typ, .int .u32 C.P.router, .int .u32 C.P.area, .int .u32 C.P.mask, .int .u16 C.P.iv, .int .u8 C.P.opts, .int .u8 C.P.prio, .int .u32 C.P.dead, .int .u32 C.P.dr, .int .u32 C.P.bdr, .slice na C.nb.length nc, .int .u16 C.P.mtu, .int .u8 C.P.dopts, .int .u8 C.P.dflags, .int .u32 C.P.dseq, .slice da C.dh.length dc, .slice ka C.ks.length kc, .slice sa C.ss.length sc, .slice ha C.hs.length hc]).keep ((Touch.refl _ _).alloc _)
  have D0 : Row w0 (w.heap.size + 1) 36 [.int .u16 A.kind, .int .u8 A.d0, .int .u8 A.d1, .int .u8 A.d2, .int .u8 A.d3, .int .u8 A.d4, .int .u8 A.d5, .int .u8 A.d6, .int .u8 A.d7] := by
    have := row_new (w.alloc (.cells #[.int .u8 C.P.typ, .int .u32 C.P.router, .int .u32 C.P.area, .int .u32 C.P.mask, .int .u16 C.P.iv, .int .u8 C.P.opts, .int .u8 C.P.prio, .int .u32 C.P.dead, .int .u32 C.P.dr, .int .u32 C.P.bdr, .slice na C.nb.length nc, .int .u16 C.P.mtu, .int .u8 C.P.dopts, .int .u8 C.P.dflags, .int .u32 C.P.dseq, .slice da C.dh.length dc, .slice ka C.ks.length kc, .slice sa C.ss.length sc, .slice ha C.hs.length hc] 33)) 36 #[.int .u16 A.kind, .int .u8 A.d0, .int .u8 A.d1, .int .u8 A.d2, .int .u8 A.d3, .int .u8 A.d4, .int .u8 A.d5, .int .u8 A.d6, .int .u8 A.d7]
    rw [← hw0] at this
    simpa using this
  have AK : Hid (∀ w', Touch (fun _ => False) w0 w' → Row w' w.heap.size 33 [.int .u8 C.P.typ, .int .u32 C.P.router, .int .u32 C.P.area, .int .u32 C.P.mask, .int .u16 C.P.iv, .int .u8 C.P.opts, .int .u8 C.P.prio, .int .u32 C.P.dead, .int .u32 C.P.dr, .int .u32 C.P.bdr, .slice na C.nb.length nc, .int .u16 C.P.mtu, .int .u8 C.P.dopts, .int .u8 C.P.dflags, .int .u32 C.P.dseq, .slice da C.dh.length dc, .slice ka C.ks.length kc, .slice sa C.ss.length sc, .slice ha C.hs.length hc]) := fun w' t => A0.keep t
  have DK : Hid (∀ w', Touch (fun _ => False) w0 w' → Row w' (w.heap.size + 1) 36 [.int .u16 A.kind, .int .u8 A.d0, .int .u8 A.d1, .int .u8 A.d2, .int .u8 A.d3, .int .u8 A.d4, .int .u8 A.d5, .int .u8 A.d6, .int .u8 A.d7]) := fun w' t => D0.keep t
  have TA : Hid (Touch (fun _ => False) w w0) := ta
  clear ta D0
  go_enter Tryz.func10, Tryz.ntmps10
  go_upto_region 1 with fail
  rw [← hw0]
  clear hw0
  generalize w.heap.size + 1 = g2 at *
  generalize w.heap.size = g1 at *
  have c0 : w0.cell? ⟨g1, 0, none⟩ = some (.int .u8 C.P.typ) := A0.cell 0
  have h1 : ¬ C.P.typ < 1 := by omega
  have h5 : ¬ 5 < C.P.typ := by omega
  go_upto_region 3 with fail
  clear c0
  have R0 := A0.range
  go_wp2_with (refine wpList_load_mid rfl 33 (.tmp 2) rfl g1 0 rfl [.int .u8 C.P.typ, .int .u32 C.P.router, .int .u32 C.P.area, .int .u32 C.P.mask, .int .u16 C.P.iv, .int .u8 C.P.opts, .int .u8 C.P.prio, .int .u32 C.P.dead, .int .u32 C.P.dr, .int .u32 C.P.bdr, .slice na C.nb.length nc, .int .u16 C.P.mtu, .int .u8 C.P.dopts, .int .u8 C.P.dflags, .int .u32 C.P.dseq, .slice da C.dh.length dc, .slice ka C.ks.length kc, .slice sa C.ss.length sc, .slice ha C.hs.length hc] _ R0 Tryz.underlying33 rfl (by kernel_rfl) ?_)
  refine Calls.mono (HAL _) ?_
  rintro e w1 ⟨k, rfl, hk, t1⟩
  obtain rfl : k = true := hk.2 HPA.out
  have T1 : Hid (Touch (fun _ => False) w0 w1) := t1
  clear t1 R0 A0 HAL hk
  go_wp2_with fail
  go_loopg [6] C.ss.length (fun gg i wr => ∃ j : Nat, j ≤ C.ss.length ∧ C.ss.length - j ≤ gg ∧ i = .int .i64 (j : Int) ∧ Hid ((∀ i x, i < j → l[i]? = some x → x.h.len = 20 + (x.rs.length : Int)) ∧ Touch (fun _ => False) w0 wr))
  case atStart => exact ⟨0, Nat.zero_le _, by omega, rfl, ⟨fun i x hi => by omega, T1.out⟩⟩
  case round =>
    clear T1
    obtain ⟨j, hj, hg, rfl, B0⟩ := hrel
    have q17 := (AK.out _ B0.out.2).cell 17
    rcases Nat.lt_or_ge j C.ss.length with hlt | hge
    · have hlt' : (j : Int) < (C.ss.length : Int) := by omega
      have hk0 : (0 : Int) ≤ (j : Int) := by omega
      obtain ⟨x, hx⟩ : ∃ x, l[j]? = some x := ⟨l[j]'(by have := HLL.out; omega), List.getElem?_eq_getElem _⟩
      obtain ⟨ox, gR, off, cR, eR, hcell⟩ := StatesAt.one (HS.out wr (TA.out.trans B0.out.2)) hx
      simp only [Value.slice.injEq] at eR
      obtain ⟨rfl, -, rfl⟩ := eR
      obtain ⟨xa, xc, hxv, -⟩ := ox.arg.form
      have r7 : wr.cell? ⟨gR, off + j * 9 + 7, none⟩ = some (.int .u16 x.h.len) := by rw [Nat.add_assoc]; exact hcell 7 _ rfl
      have r8 : wr.cell? ⟨gR, off + j * 9 + 8, none⟩ = some (.slice xa x.rs.length xc) := by rw [Nat.add_assoc]; exact hcell 8 _ (by simp [SE.cells, hxv])
      have hb := ox.all.l
      have HX : Hid (l[j]? = some x) := hx
      have hxr : x.rs.length ≤ 1000000 := HLB.out x (List.mem_of_getElem? hx)
      have hkw : wrap64 ((j : Int) + 1) = (j : Int) + 1 := by unfold wrap64; omega
      have z17 := aft_cell q17
      have z7 := aft_cell r7
      have z8 := aft_cell r8
      clear hcell hx ox hxv
      go_upto_region 8 with fail
      refine wp_region_aft (by kernel_rfl) (by kernel_rfl) ?_
      repeat (first | go_big_quiet_skip | (go_big_quiet_want; go_big_quiet_op; first | go_big_quiet_on | (refine Exists.intro _ ⟨fun _ => rfl, ?_⟩; go_big_quiet_on)))
      refine wpQuiet_nil ?_
      rintro wq ⟨⟨_, hgq⟩, rfl⟩
      have TQ : Hid (Touch (fun _ => False) w0 wq) := B0.out.2.trans hgq
      have BQ : Hid (∀ i x, i < j → l[i]? = some x → x.h.len = 20 + (x.rs.length : Int)) := B0.out.1
      clear q17 r7 r8 z17 z7 z8 hgq B0
      by_cases hx7 : x.h.len = 20 + (x.rs.length : Int)
      · have hme : (x.h.len != 20 + (x.rs.length : Int)) = false := by simpa using hx7
        have H7 : Hid (x.h.len = 20 + (x.rs.length : Int)) := hx7
        clear hx7
        go_wp2_with fail
        go_roundg (C.ss.length - (j + 1))
        case measure => omega
        case rel =>
          refine ⟨j + 1, by omega, by omega, by go_num, ⟨fun i y hi hy => ?_, TQ.out⟩⟩
          rcases Nat.lt_or_ge i j with h | h
          · exact BQ.out i y h hy
          · obtain rfl : i = j := by omega
            have e : y = x := Option.some.inj (hy.symm.trans HX.out)
            rw [e]
            exact H7.out
      · exact (hx7 (HM.out x (List.mem_of_getElem? HX.out))).elim
    · obtain rfl : j = C.ss.length := by omega
      have hlt' : ¬ (C.ss.length : Int) < (C.ss.length : Int) := by omega
      have TZ : Hid (Touch (fun _ => False) w0 wr) := B0.out.2
      have k0 := (DK.out _ B0.out.2).cell 0
      clear B0
      go_wp2_with fail
      go_ret2
      exact ⟨_, rfl, Buf.nil (TA.out.trans TZ.out)⟩
end Go.Proofs.YtjgeklipeeooaaaGreatDoor
