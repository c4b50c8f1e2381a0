/- The walk of PacketRound. -/
import Derived.Test.YtfhkocpnealblaaGreatPkHvA
import Derived.Test.YtfhkocpnealblaaGreatPkBackW
import Derived.Deep.DeepCutAuto
namespace Go.Proofs.YtfhkocpnealblaaGreat
open Go.RowKit
set_option linter.unusedVariables false
set_option maxRecDepth 100000

attribute [local go_sem ↓] Go.wp_at_zero Go.wp_at_succ
theorem pLenN_of {L : List Int} (h : pLenE L = 0) (ht : pTold L = (L.length : Nat)) : pLenN L = (L.length : Int) := by unfold pLenN; rw [if_pos h, ht]
set_option maxHeartbeats 4000000 in
theorem pround_any (C : PkC) (ok : C.Ok) (sz : C.Sz) (A : AuV) (oa : A.Ok) (vn vd vk vs vh : Value) (w : World) (hp : PkAt w C vn vd vk vs vh) :
    Calls Tryz.prog 3 #[C.P.v vn vd vk vs vh, A.v] w fun e w' => e = .returned (.bool true) ∧ Touch (fun _ => False) w w' := by
  obtain ⟨l, hl, hst⟩ := hp.s
  have HPA : Hid (∀ w', Touch (fun _ => False) w w' → PkAt w' C vn vd vk vs vh) := fun w' t => hp.keep t
  have HH : ∀ w', Touch (fun _ => False) w w' → Calls Tryz.prog 6 #[C.P.v vn vd vk vs vh] w' fun e w'' => ∃ b : Bool, e = .returned (.bool b) ∧ (b = false → C.Lt ∧ C.Ln) ∧ Touch (fun _ => False) w' w'' := fun w' t => pheavy C sz vn vd vk vs vh w' (hp.keep t)
  obtain ⟨na, nc, rfl, -⟩ := ValsAt.form hp.n
  obtain ⟨da, dc, rfl, -⟩ := ValsAt.form hp.d
  obtain ⟨ka, kc, rfl, -⟩ := ValsAt.form hp.k
  obtain ⟨sa, sc, rfl, -⟩ := ValsAt.form hst.vals
  obtain ⟨ha, hc, rfl, -⟩ := ValsAt.form hp.h
  have hll : l.length = C.ss.length := by rw [← hl, List.length_map]
  rw [hll] at HH HPA ⊢
  clear hp hst hl hll sz
  have HAu : Hid (∀ w, Calls Tryz.prog 10 #[.agg #[.int .u16 A.kind, .int .u8 A.d0, .int .u8 A.d1, .int .u8 A.d2, .int .u8 A.d3, .int .u8 A.d4, .int .u8 A.d5, .int .u8 A.d6, .int .u8 A.d7]] w fun e w' => e = .returned (.agg #[.int .u16 A.kind, .int .u8 A.d0, .int .u8 A.d1, .int .u8 A.d2, .int .u8 A.d3, .int .u8 A.d4, .int .u8 A.d5, .int .u8 A.d6, .int .u8 A.d7]) ∧ Touch (fun _ => False) w w') := fun w => pauth A w
  have HQA : Hid (∀ w, Calls Tryz.prog 14 #[.agg #[.int .u16 A.kind, .int .u8 A.d0, .int .u8 A.d1, .int .u8 A.d2, .int .u8 A.d3, .int .u8 A.d4, .int .u8 A.d5, .int .u8 A.d6, .int .u8 A.d7], .agg #[.int .u16 A.kind, .int .u8 A.d0, .int .u8 A.d1, .int .u8 A.d2, .int .u8 A.d3, .int .u8 A.d4, .int .u8 A.d5, .int .u8 A.d6, .int .u8 A.d7]] w fun e w' => e = .returned (.bool true) ∧ Touch (fun _ => False) w w') := fun w => peqA A oa w
  have OK : Hid C.Ok := ok
  have OA : Hid A.Ok := oa
  clear ok oa
  unfold PV.v at HH
  unfold PV.v AuV.v
  obtain ⟨w0, hw0⟩ : ∃ w0, w0 = (w.alloc (.cells #[.int .u8 C.P.typ, .int .u32 C.P.router, .int .u32 C.P.area, .int .u32 C.P.mask, .int .u16 C.P.iv, .int .u8 C.P.opts, .int .u8 C.P.prio, .int .u32 C.P.dead, .int .u32 C.P.dr, .int .u32 C.P.bdr, .slice na C.nb.length nc, .int .u16 C.P.mtu, .int .u8 C.P.dopts, .int .u8 C.P.dflags, .int .u32 C.P.dseq, .slice da C.dh.length dc, .slice ka C.ks.length kc, .slice sa C.ss.length sc, .slice ha C.hs.length hc] 33)).alloc (.cells #[.int .u16 A.kind, .int .u8 A.d0, .int .u8 A.d1, .int .u8 A.d2, .int .u8 A.d3, .int .u8 A.d4, .int .u8 A.d5, .int .u8 A.d6, .int .u8 A.d7] 36) := ⟨_, rfl⟩
  have ta : Touch (fun _ => False) w w0 := by rw [hw0]; exact ((Touch.refl _ w).alloc _).alloc _
  have A0 : Row w0 w.heap.size 33 [.int .u8 C.P.typ, .int .u32 C.P.router, .int .u32 C.P.area, .int .u32 C.P.mask, .int .u16 C.P.iv, .int .u8 C.P.opts, .int .u8 C.P.prio, .int .u32 C.P.dead, .int .u32 C.P.dr, .int .u32 C.P.bdr, .slice na C.nb.length nc, .int .u16 C.P.mtu, .int .u8 C.P.dopts, .int .u8 C.P.dflags, .int .u32 C.P.dseq, .slice da C.dh.length dc, .slice ka C.ks.length kc, .slice sa C.ss.length sc, .slice ha C.hs.length hc] := by rw [hw0]; exact (row_new w 33 #[.int .u8 C.P.typ, .int .u32 C.P.router, .int .u32 C.P.area, .int .u32 C.P.mask, .int .u16 C.P.iv, .int .u8 C.P.opts, .int .u8 C.P.prio, .int .u32 C.P.dead, .int .u32 C.P.dr, .int .u32 C.P.bdr, .slice na C.nb.length nc, .int .u16 C.P.mtu, .int .u8 C.P.dopts, .int .u8 C.P.dflags, .int .u32 C.P.dseq, .slice da C.dh.length dc, .slice ka C.ks.length kc, .slice sa C.ss.length sc, .slice ha C.hs.length hc]).keep ((Touch.refl _ _).alloc _)
  have B0 : Row w0 (w.heap.size + 1) 36 [.int .u16 A.kind, .int .u8 A.d0, .int .u8 A.d1, .int .u8 A.d2, .int .u8 A.d3, .int .u8 A.d4, .int .u8 A.d5, .int .u8 A.d6, .int .u8 A.d7] := by
    have := row_new (w.alloc (.cells #[.int .u8 C.P.typ, .int .u32 C.P.router, .int .u32 C.P.area, .int .u32 C.P.mask, .int .u16 C.P.iv, .int .u8 C.P.opts, .int .u8 C.P.prio, .int .u32 C.P.dead, .int .u32 C.P.dr, .int .u32 C.P.bdr, .slice na C.nb.length nc, .int .u16 C.P.mtu, .int .u8 C.P.dopts, .int .u8 C.P.dflags, .int .u32 C.P.dseq, .slice da C.dh.length dc, .slice ka C.ks.length kc, .slice sa C.ss.length sc, .slice ha C.hs.length hc] 33)) 36 #[.int .u16 A.kind, .int .u8 A.d0, .int .u8 A.d1, .int .u8 A.d2, .int .u8 A.d3, .int .u8 A.d4, .int .u8 A.d5, .int .u8 A.d6, .int .u8 A.d7]
    rw [← hw0] at this
    simpa using this
  have R0 := A0.range
  have HQ := HH w0 ta
  have TA : Hid (Touch (fun _ => False) w w0) := ta
  obtain ⟨cB, hcB⟩ : ∃ cB, pencB C A = cB := ⟨_, rfl⟩
  have HcB : Hid (pencB C A = cB) := hcB
  obtain ⟨E, hE⟩ : ∃ E, pencE C A = E := ⟨_, rfl⟩
  have HE : Hid (pencE C A = E) := hE
  have A0h : Hid (∀ w', Touch (fun _ => False) w0 w' → Row w' w.heap.size 33 [.int .u8 C.P.typ, .int .u32 C.P.router, .int .u32 C.P.area, .int .u32 C.P.mask, .int .u16 C.P.iv, .int .u8 C.P.opts, .int .u8 C.P.prio, .int .u32 C.P.dead, .int .u32 C.P.dr, .int .u32 C.P.bdr, .slice na C.nb.length nc, .int .u16 C.P.mtu, .int .u8 C.P.dopts, .int .u8 C.P.dflags, .int .u32 C.P.dseq, .slice da C.dh.length dc, .slice ka C.ks.length kc, .slice sa C.ss.length sc, .slice ha C.hs.length hc]) := fun w' t => A0.keep t
  have B0h : Hid (∀ w', Touch (fun _ => False) w0 w' → Row w' (w.heap.size + 1) 36 [.int .u16 A.kind, .int .u8 A.d0, .int .u8 A.d1, .int .u8 A.d2, .int .u8 A.d3, .int .u8 A.d4, .int .u8 A.d5, .int .u8 A.d6, .int .u8 A.d7]) := fun w' t => B0.keep t
  clear HH ta A0 B0 hcB hE
  go_enter Tryz.func3, Tryz.ntmps3
  go_upto_region 1 with fail
  rw [← hw0]
  clear hw0
  generalize w.heap.size + 1 = g3 at *
  generalize w.heap.size = g2 at *
  go_wp2_with (refine wpList_load_mid rfl 33 (.tmp 2) rfl g2 0 rfl [.int .u8 C.P.typ, .int .u32 C.P.router, .int .u32 C.P.area, .int .u32 C.P.mask, .int .u16 C.P.iv, .int .u8 C.P.opts, .int .u8 C.P.prio, .int .u32 C.P.dead, .int .u32 C.P.dr, .int .u32 C.P.bdr, .slice na C.nb.length nc, .int .u16 C.P.mtu, .int .u8 C.P.dopts, .int .u8 C.P.dflags, .int .u32 C.P.dseq, .slice da C.dh.length dc, .slice ka C.ks.length kc, .slice sa C.ss.length sc, .slice ha C.hs.length hc] _ R0 Tryz.underlying33 rfl (by kernel_rfl) ?_)
  refine Calls.mono HQ ?_
  rintro e w1 ⟨b, rfl, hb, t1⟩
  have T1 : Hid (Touch (fun _ => False) w w1) := TA.out.trans t1
  have RG2 : Hid (∀ w', Touch (fun _ => False) w1 w' → Row w' g2 33 [.int .u8 C.P.typ, .int .u32 C.P.router, .int .u32 C.P.area, .int .u32 C.P.mask, .int .u16 C.P.iv, .int .u8 C.P.opts, .int .u8 C.P.prio, .int .u32 C.P.dead, .int .u32 C.P.dr, .int .u32 C.P.bdr, .slice na C.nb.length nc, .int .u16 C.P.mtu, .int .u8 C.P.dopts, .int .u8 C.P.dflags, .int .u32 C.P.dseq, .slice da C.dh.length dc, .slice ka C.ks.length kc, .slice sa C.ss.length sc, .slice ha C.hs.length hc]) := fun w' t => A0h.out w' (t1.trans t)
  have RG3 : Hid (∀ w', Touch (fun _ => False) w1 w' → Row w' g3 36 [.int .u16 A.kind, .int .u8 A.d0, .int .u8 A.d1, .int .u8 A.d2, .int .u8 A.d3, .int .u8 A.d4, .int .u8 A.d5, .int .u8 A.d6, .int .u8 A.d7]) := fun w' t => B0h.out w' (t1.trans t)
  have PR1 : Hid (∀ w', Touch (fun _ => False) w1 w' → PkAt w' C (.slice na C.nb.length nc) (.slice da C.dh.length dc) (.slice ka C.ks.length kc) (.slice sa C.ss.length sc) (.slice ha C.hs.length hc)) := fun w' t => HPA.out w' (T1.out.trans t)
  clear HQ R0 TA A0h B0h HPA t1
  cases b with
  | true =>
    have H1 := plives w1
    clear hb
    go_wp2_with (go_at_call 7; refine Calls.mono H1 ?_; rintro e w2 ⟨rfl, t2⟩)
    go_ret
    exact ⟨rfl, T1.out.trans t2⟩
  | false =>
    obtain ⟨lt, ln⟩ := hb rfl
    have LT : Hid C.Lt := lt
    have LN : Hid C.Ln := ln
    clear lt ln hb
    go_upto_region 3 with fail
    go_cut [5, 6] (fun s5 s6 wx => ∃ ca cc, s5 = .slice ca cB.length cc ∧ s6 = .int .i64 E ∧ Hid (∀ w', Touch (fun _ => False) wx w' → RowAt w' (.slice ca cB.length cc) cB ∧ ArgAt w' (.slice ca cB.length cc) cB) ∧ Hid (Touch (fun _ => False) w1 wx))
    case first =>
      have Sw1drew : Touch (fun _ => False) w1 w1.drew := (Touch.refl _ _).drew
      refine wp_region_held_drew (S := fun w' => Touch (fun _ => False) w1 w') (by kernel_rfl) Sw1drew (fun hHeld => ?_)
      refine wpAnyH_take (i := 0) (oi := ⟨some 18, _, _, _, _, _⟩) (v := .agg #[.int .u8 C.P.typ, .int .u32 C.P.router, .int .u32 C.P.area, .int .u32 C.P.mask, .int .u16 C.P.iv, .int .u8 C.P.opts, .int .u8 C.P.prio, .int .u32 C.P.dead, .int .u32 C.P.dr, .int .u32 C.P.bdr, .slice na C.nb.length nc, .int .u16 C.P.mtu, .int .u8 C.P.dopts, .int .u8 C.P.dflags, .int .u32 C.P.dseq, .slice da C.dh.length dc, .slice ka C.ks.length kc, .slice sa C.ss.length sc, .slice ha C.hs.length hc]) rfl (by kernel_rfl) (by kernel_rfl) (by kernel_rfl) (fun _ _ _ h => h) (yieldsIf_load_mid (by rfl) _ _ rfl _ _ rfl [.int .u8 C.P.typ, .int .u32 C.P.router, .int .u32 C.P.area, .int .u32 C.P.mask, .int .u16 C.P.iv, .int .u8 C.P.opts, .int .u8 C.P.prio, .int .u32 C.P.dead, .int .u32 C.P.dr, .int .u32 C.P.bdr, .slice na C.nb.length nc, .int .u16 C.P.mtu, .int .u8 C.P.dopts, .int .u8 C.P.dflags, .int .u32 C.P.dseq, .slice da C.dh.length dc, .slice ka C.ks.length kc, .slice sa C.ss.length sc, .slice ha C.hs.length hc] _ (fun w h => (RG2.out w h).range) Tryz.underlying33 rfl (by kernel_rfl)) (by assumption) ?_
      simp only [Act.put, List.setIfInBounds_toArray, List.set_cons_zero, List.set_cons_succ]
      refine wpAnyH_take (i := 2) (oi := ⟨some 20, _, _, _, _, _⟩) (v := .agg #[.int .u16 A.kind, .int .u8 A.d0, .int .u8 A.d1, .int .u8 A.d2, .int .u8 A.d3, .int .u8 A.d4, .int .u8 A.d5, .int .u8 A.d6, .int .u8 A.d7]) rfl (by kernel_rfl) (by kernel_rfl) (by kernel_rfl) (fun _ _ _ h => h) (yieldsIf_load_mid (by rfl) _ _ rfl _ _ rfl [.int .u16 A.kind, .int .u8 A.d0, .int .u8 A.d1, .int .u8 A.d2, .int .u8 A.d3, .int .u8 A.d4, .int .u8 A.d5, .int .u8 A.d6, .int .u8 A.d7] _ (fun w h => (RG3.out w h).range) Tryz.underlying36 rfl (by kernel_rfl)) (by assumption) ?_
      simp only [Act.put, List.setIfInBounds_toArray, List.set_cons_zero, List.set_cons_succ]
      refine wpAnyH_ready (rs := [1]) (by kernel_rfl) (by simp) ?_
      refine AllReadyH.cons (o := ⟨some 19, _, _, _, _, _⟩) rfl (fun K hK => ?_) AllReadyH.nil
      go_simp
      refine Calls.mono (cpacket C LT.out LN.out _ _ _ _ _ w1.drew (PR1.out _ Sw1drew)) ?_
      rintro e w4 ⟨un, ud, uk, us, uh, rfl, po, tw4⟩
      have Sw4 : Touch (fun _ => False) w1 w4 := Sw1drew.trans tw4
      unfold PV.v
      refine hK.out _ _ Sw4 (fun hHeld => ?_)
      clear hK K
      refine wpAnyH_ready (rs := [3]) (by kernel_rfl) (by simp) ?_
      refine AllReadyH.cons (o := ⟨some 21, _, _, _, _, _⟩) rfl (fun K hK => ?_) AllReadyH.nil
      go_simp
      refine Calls.mono (HAu.out w4) ?_
      rintro e w5 ⟨rfl, tw5⟩
      have Sw5 : Touch (fun _ => False) w1 w5 := Sw4.trans tw5
      refine hK.out _ _ Sw5 (fun hHeld => ?_)
      clear hK K
      have HEn := penc_any C OK.out LT.out A OA.out un ud uk us uh w5 ((po.at_ OK.out).keep tw5)
      rw [HcB.out, HE.out] at HEn
      unfold PV.v AuV.v at HEn
      refine wpAnyH_ready (rs := [4]) (by kernel_rfl) (by simp) ?_
      refine AllReadyH.cons (o := ⟨some 22, _, _, _, _, _⟩) rfl (fun K hK => ?_) AllReadyH.nil
      go_simp
      refine Calls.mono HEn ?_
      rintro e w6 ⟨v6, rfl, b6⟩
      obtain ⟨ca, cc, rfl⟩ := b6.form
      have S6 : Touch (fun _ => False) w1 w6 := Sw5.trans b6.t
      refine hK.out _ _ S6 (fun hHeld => ?_)
      clear hK K
      refine wpAnyH_take (i := 5) (oi := ⟨some 17, _, _, _, _, _⟩) (v := .tuple #[.slice ca cB.length cc, .int .i64 E]) rfl (by kernel_rfl) (by kernel_rfl) (by kernel_rfl) (fun _ _ _ h => h) (Or.inl ⟨by rfl, fun w hw => by go_simp⟩) (by assumption) ?_
      simp only [Act.put, List.setIfInBounds_toArray, List.set_cons_zero, List.set_cons_succ]
      refine wpAnyH_take (i := 6) (oi := ⟨some 23, _, _, _, _, _⟩) (v := .slice ca cB.length cc) rfl (by kernel_rfl) (by kernel_rfl) (by kernel_rfl) (fun _ _ _ h => h) (Or.inl ⟨by rfl, fun w hw => by go_simp⟩) (by assumption) ?_
      simp only [Act.put, List.setIfInBounds_toArray, List.set_cons_zero, List.set_cons_succ]
      refine wpAnyH_take (i := 7) (oi := ⟨some 24, _, _, _, _, _⟩) (v := .int .i64 E) rfl (by kernel_rfl) (by kernel_rfl) (by kernel_rfl) (fun _ _ _ h => h) (Or.inl ⟨by rfl, fun w hw => by go_simp⟩) (by assumption) ?_
      simp only [Act.put, List.setIfInBounds_toArray, List.set_cons_zero, List.set_cons_succ]
      refine wpAnyH_take (i := 8) (oi := ⟨some 5, _, _, _, _, _⟩) (v := .slice ca cB.length cc) rfl (by kernel_rfl) (by kernel_rfl) (by kernel_rfl) (fun _ _ _ h => h) (Or.inl ⟨by rfl, fun w hw => by go_simp⟩) (by assumption) ?_
      simp only [Act.put, List.setIfInBounds_toArray, List.set_cons_zero, List.set_cons_succ]
      refine wpAnyH_take (i := 9) (oi := ⟨some 6, _, _, _, _, _⟩) (v := .int .i64 E) rfl (by kernel_rfl) (by kernel_rfl) (by kernel_rfl) (fun _ _ _ h => h) (Or.inl ⟨by rfl, fun w hw => by go_simp⟩) (by assumption) ?_
      simp only [Act.put, List.setIfInBounds_toArray, List.set_cons_zero, List.set_cons_succ]
      refine wpAnyH_done (by kernel_rfl) ?_ _
      go_wp2_with fail
      go_meet
      case rel => exact ⟨ca, cc, rfl, rfl, fun w' t => ⟨(b6.keep t).row, (b6.keep t).arg⟩, S6⟩
    case rest =>
      obtain ⟨ca, cc, rfl, rfl, HRo, HT⟩ := hcut
      by_cases hE : E = 0
      · subst hE
        have PRD := pround OK.out OA.out HE.out
        rw [HcB.out] at PRD
        have hln : pLenN cB = (cB.length : Int) := pLenN_of PRD.len PRD.told
        have hle : pLenE cB = 0 := PRD.len
        have hsm := PRD.small
        have BT : Hid (∀ z ∈ cB, 0 ≤ z ∧ z < 256) := PRD.bt
        have RI : Hid (A.kind ≠ 2 → pRight cB = true) := PRD.right
        have HCBc : Hid (∀ w', Touch (fun _ => False) wc w' → Calls Tryz.prog 12 #[.slice ca cB.length cc] w' fun e w'' => ∃ u, e = .returned u ∧ Buf w' w'' u cB) := fun w' t => cbytes_any _ cB w' (HRo.out w' t).2 (by omega)
        have HD : Hid (∀ v w', ArgAt w' v cB → Calls Tryz.prog 11 #[v] w' fun e w'' => ∃ vn vd vk vs vh, e = .returned (.tuple #[C.P.v vn vd vk vs vh, A.v, .int .i64 0]) ∧ POwn w'.heap.size w'' C vn vd vk vs vh ∧ Touch (fun _ => False) w' w'') := fun v w' h => by
          have := pdec_any v cB w' h PRD.bt (by omega)
          rw [PRD.e, PRD.c, PRD.a] at this
          exact this
        have HLe : Hid (∀ v w', ArgAt w' v cB → Calls Tryz.prog 13 #[v] w' fun e w'' => e = .returned (.tuple #[.int .i64 (cB.length : Int), .int .i64 0]) ∧ Touch (fun _ => False) w' w'') := fun v w' h => by
          have := plenP_any v cB w' h PRD.bt (by omega)
          rw [hln, hle] at this
          exact this
        have HEN : Hid (∀ un ud uk us uh w', PkAt w' C un ud uk us uh → Calls Tryz.prog 8 #[C.P.v un ud uk us uh, A.v] w' fun e w'' => ∃ v, e = .returned (.tuple #[v, .int .i64 0]) ∧ Buf w' w'' v cB) := fun un ud uk us uh w' h => by
          have := penc_any C OK.out LT.out A OA.out un ud uk us uh w' h
          rw [HcB.out, HE.out] at this
          exact this
        have HSM : Hid (cB.length ≤ 65535) := hsm
        have TC : Hid (Touch (fun _ => False) w wc) := T1.out.trans HT.out
        have RG2c : Hid (∀ w', Touch (fun _ => False) wc w' → Row w' g2 33 [.int .u8 C.P.typ, .int .u32 C.P.router, .int .u32 C.P.area, .int .u32 C.P.mask, .int .u16 C.P.iv, .int .u8 C.P.opts, .int .u8 C.P.prio, .int .u32 C.P.dead, .int .u32 C.P.dr, .int .u32 C.P.bdr, .slice na C.nb.length nc, .int .u16 C.P.mtu, .int .u8 C.P.dopts, .int .u8 C.P.dflags, .int .u32 C.P.dseq, .slice da C.dh.length dc, .slice ka C.ks.length kc, .slice sa C.ss.length sc, .slice ha C.hs.length hc]) := fun w' t => RG2.out w' (HT.out.trans t)
        have RG3c : Hid (∀ w', Touch (fun _ => False) wc w' → Row w' g3 36 [.int .u16 A.kind, .int .u8 A.d0, .int .u8 A.d1, .int .u8 A.d2, .int .u8 A.d3, .int .u8 A.d4, .int .u8 A.d5, .int .u8 A.d6, .int .u8 A.d7]) := fun w' t => RG3.out w' (HT.out.trans t)
        have PRc : Hid (∀ w', Touch (fun _ => False) wc w' → PkAt w' C (.slice na C.nb.length nc) (.slice da C.dh.length dc) (.slice ka C.ks.length kc) (.slice sa C.ss.length sc) (.slice ha C.hs.length hc)) := fun w' t => PR1.out w' (HT.out.trans t)
        clear PRD hln hle hsm LN RG2 RG3 PR1 T1 HT HAu
        go_wp2_with fail
        refine Calls.mono (HCBc.out wc (Touch.refl _ _)) ?_
        rintro e w7 ⟨u7, rfl, b7⟩
        have H7 := HD.out u7 w7 b7.arg
        have T7 : Hid (Touch (fun _ => False) wc w7) := b7.t
        clear HD b7
        go_wp2_with fail
        refine Calls.mono H7 ?_
        rintro e w8 ⟨vn, vd, vk, vs, vh, rfl, po, t8⟩
        obtain ⟨xn, yn, xd, yd, xk, yk, xs, ys, xh, yh, rfl, rfl, rfl, rfl, rfl⟩ := po.rw.forms
        have PW : Hid (∀ w', Touch (fun _ => False) w8 w' → PkRw w' C (.slice xn C.nb.length yn) (.slice xd C.dh.length yd) (.slice xk C.ks.length yk) (.slice xs C.ss.length ys) (.slice xh C.hs.length yh) ∧ PkAt w' C (.slice xn C.nb.length yn) (.slice xd C.dh.length yd) (.slice xk C.ks.length yk) (.slice xs C.ss.length ys) (.slice xh C.hs.length yh)) := fun w' t => ⟨po.rw.keep t, (po.at_ OK.out).keep t⟩
        have T8 : Hid (Touch (fun _ => False) wc w8) := T7.out.trans t8
        unfold PV.v AuV.v
        clear H7 po t8 T7
        obtain ⟨w9, hw9⟩ : ∃ w9, w9 = (((w8.alloc (.cells #[.int .u8 0, .int .u32 0, .int .u32 0, .int .u32 0, .int .u16 0, .int .u8 0, .int .u8 0, .int .u32 0, .int .u32 0, .int .u32 0, .slice none 0 0, .int .u16 0, .int .u8 0, .int .u8 0, .int .u32 0, .slice none 0 0, .slice none 0 0, .slice none 0 0, .slice none 0 0] 33)).alloc (.cells #[.int .u16 0, .int .u8 0, .int .u8 0, .int .u8 0, .int .u8 0, .int .u8 0, .int .u8 0, .int .u8 0, .int .u8 0] 44)).setRow w8.heap.size #[.int .u8 C.P.typ, .int .u32 C.P.router, .int .u32 C.P.area, .int .u32 C.P.mask, .int .u16 C.P.iv, .int .u8 C.P.opts, .int .u8 C.P.prio, .int .u32 C.P.dead, .int .u32 C.P.dr, .int .u32 C.P.bdr, .slice xn C.nb.length yn, .int .u16 C.P.mtu, .int .u8 C.P.dopts, .int .u8 C.P.dflags, .int .u32 C.P.dseq, .slice xd C.dh.length yd, .slice xk C.ks.length yk, .slice xs C.ss.length ys, .slice xh C.hs.length yh]).setRow (w8.heap.size + 1) #[.int .u16 A.kind, .int .u8 A.d0, .int .u8 A.d1, .int .u8 A.d2, .int .u8 A.d3, .int .u8 A.d4, .int .u8 A.d5, .int .u8 A.d6, .int .u8 A.d7] := ⟨_, rfl⟩
        have ra : Row ((w8.alloc (.cells #[.int .u8 0, .int .u32 0, .int .u32 0, .int .u32 0, .int .u16 0, .int .u8 0, .int .u8 0, .int .u32 0, .int .u32 0, .int .u32 0, .slice none 0 0, .int .u16 0, .int .u8 0, .int .u8 0, .int .u32 0, .slice none 0 0, .slice none 0 0, .slice none 0 0, .slice none 0 0] 33)).alloc (.cells #[.int .u16 0, .int .u8 0, .int .u8 0, .int .u8 0, .int .u8 0, .int .u8 0, .int .u8 0, .int .u8 0, .int .u8 0] 44)) w8.heap.size 33 [.int .u8 0, .int .u32 0, .int .u32 0, .int .u32 0, .int .u16 0, .int .u8 0, .int .u8 0, .int .u32 0, .int .u32 0, .int .u32 0, .slice none 0 0, .int .u16 0, .int .u8 0, .int .u8 0, .int .u32 0, .slice none 0 0, .slice none 0 0, .slice none 0 0, .slice none 0 0] := (row_new w8 33 #[.int .u8 0, .int .u32 0, .int .u32 0, .int .u32 0, .int .u16 0, .int .u8 0, .int .u8 0, .int .u32 0, .int .u32 0, .int .u32 0, .slice none 0 0, .int .u16 0, .int .u8 0, .int .u8 0, .int .u32 0, .slice none 0 0, .slice none 0 0, .slice none 0 0, .slice none 0 0]).keep ((Touch.refl _ _).alloc _)
        have rb : Row ((w8.alloc (.cells #[.int .u8 0, .int .u32 0, .int .u32 0, .int .u32 0, .int .u16 0, .int .u8 0, .int .u8 0, .int .u32 0, .int .u32 0, .int .u32 0, .slice none 0 0, .int .u16 0, .int .u8 0, .int .u8 0, .int .u32 0, .slice none 0 0, .slice none 0 0, .slice none 0 0, .slice none 0 0] 33)).alloc (.cells #[.int .u16 0, .int .u8 0, .int .u8 0, .int .u8 0, .int .u8 0, .int .u8 0, .int .u8 0, .int .u8 0, .int .u8 0] 44)) (w8.heap.size + 1) 44 [.int .u16 0, .int .u8 0, .int .u8 0, .int .u8 0, .int .u8 0, .int .u8 0, .int .u8 0, .int .u8 0, .int .u8 0] := by
          have := row_new (w8.alloc (.cells #[.int .u8 0, .int .u32 0, .int .u32 0, .int .u32 0, .int .u16 0, .int .u8 0, .int .u8 0, .int .u32 0, .int .u32 0, .int .u32 0, .slice none 0 0, .int .u16 0, .int .u8 0, .int .u8 0, .int .u32 0, .slice none 0 0, .slice none 0 0, .slice none 0 0, .slice none 0 0] 33)) 44 #[.int .u16 0, .int .u8 0, .int .u8 0, .int .u8 0, .int .u8 0, .int .u8 0, .int .u8 0, .int .u8 0, .int .u8 0]
          simpa using this
        have rb2 : Row (((w8.alloc (.cells #[.int .u8 0, .int .u32 0, .int .u32 0, .int .u32 0, .int .u16 0, .int .u8 0, .int .u8 0, .int .u32 0, .int .u32 0, .int .u32 0, .slice none 0 0, .int .u16 0, .int .u8 0, .int .u8 0, .int .u32 0, .slice none 0 0, .slice none 0 0, .slice none 0 0, .slice none 0 0] 33)).alloc (.cells #[.int .u16 0, .int .u8 0, .int .u8 0, .int .u8 0, .int .u8 0, .int .u8 0, .int .u8 0, .int .u8 0, .int .u8 0] 44)).setRow w8.heap.size #[.int .u8 C.P.typ, .int .u32 C.P.router, .int .u32 C.P.area, .int .u32 C.P.mask, .int .u16 C.P.iv, .int .u8 C.P.opts, .int .u8 C.P.prio, .int .u32 C.P.dead, .int .u32 C.P.dr, .int .u32 C.P.bdr, .slice xn C.nb.length yn, .int .u16 C.P.mtu, .int .u8 C.P.dopts, .int .u8 C.P.dflags, .int .u32 C.P.dseq, .slice xd C.dh.length yd, .slice xk C.ks.length yk, .slice xs C.ss.length ys, .slice xh C.hs.length yh]) (w8.heap.size + 1) 44 [.int .u16 0, .int .u8 0, .int .u8 0, .int .u8 0, .int .u8 0, .int .u8 0, .int .u8 0, .int .u8 0, .int .u8 0] := rb.otherRow (by omega) _
        have t9 : Touch (fun _ => False) w8 w9 := by rw [hw9]; exact ((((Touch.refl _ _).alloc _).alloc _).setRow (Or.inr (by omega)) _).setRow (Or.inr (by omega)) _
        have G7 : Row w9 w8.heap.size 33 [.int .u8 C.P.typ, .int .u32 C.P.router, .int .u32 C.P.area, .int .u32 C.P.mask, .int .u16 C.P.iv, .int .u8 C.P.opts, .int .u8 C.P.prio, .int .u32 C.P.dead, .int .u32 C.P.dr, .int .u32 C.P.bdr, .slice xn C.nb.length yn, .int .u16 C.P.mtu, .int .u8 C.P.dopts, .int .u8 C.P.dflags, .int .u32 C.P.dseq, .slice xd C.dh.length yd, .slice xk C.ks.length yk, .slice xs C.ss.length ys, .slice xh C.hs.length yh] := by rw [hw9]; exact (ra.setRow _).otherRow (by omega) _
        have G8 : Row w9 (w8.heap.size + 1) 44 [.int .u16 A.kind, .int .u8 A.d0, .int .u8 A.d1, .int .u8 A.d2, .int .u8 A.d3, .int .u8 A.d4, .int .u8 A.d5, .int .u8 A.d6, .int .u8 A.d7] := by rw [hw9]; exact rb2.setRow _
        go_upto_region 7 with (first | refine wpList_store_row rfl 33 (.tmp 7) (.tmp 37) rfl w8.heap.size #[.int .u8 C.P.typ, .int .u32 C.P.router, .int .u32 C.P.area, .int .u32 C.P.mask, .int .u16 C.P.iv, .int .u8 C.P.opts, .int .u8 C.P.prio, .int .u32 C.P.dead, .int .u32 C.P.dr, .int .u32 C.P.bdr, .slice xn C.nb.length yn, .int .u16 C.P.mtu, .int .u8 C.P.dopts, .int .u8 C.P.dflags, .int .u32 C.P.dseq, .slice xd C.dh.length yd, .slice xk C.ks.length yk, .slice xs C.ss.length ys, .slice xh C.hs.length yh] rfl rfl 33 _ ra (by kernel_rfl) rfl (by simp [Value.oneCell']) ?_ | refine wpList_store_row rfl 44 (.tmp 8) (.tmp 38) rfl (w8.heap.size + 1) #[.int .u16 A.kind, .int .u8 A.d0, .int .u8 A.d1, .int .u8 A.d2, .int .u8 A.d3, .int .u8 A.d4, .int .u8 A.d5, .int .u8 A.d6, .int .u8 A.d7] rfl rfl 44 _ rb2 (by kernel_rfl) rfl (by simp [Value.oneCell']) ?_)
        rw [← hw9]
        clear hw9 ra rb rb2
        generalize w8.heap.size + 1 = g8 at *
        generalize w8.heap.size = g7 at *
        have T9 : Hid (Touch (fun _ => False) wc w9) := T8.out.trans t9
        have PW9 : Hid (∀ w', Touch (fun _ => False) w9 w' → PkRw w' C (.slice xn C.nb.length yn) (.slice xd C.dh.length yd) (.slice xk C.ks.length yk) (.slice xs C.ss.length ys) (.slice xh C.hs.length yh) ∧ PkAt w' C (.slice xn C.nb.length yn) (.slice xd C.dh.length yd) (.slice xk C.ks.length yk) (.slice xs C.ss.length ys) (.slice xh C.hs.length yh)) := fun w' t => PW.out w' (t9.trans t)
        have G7h : Hid (∀ w', Touch (fun _ => False) w9 w' → Row w' g7 33 [.int .u8 C.P.typ, .int .u32 C.P.router, .int .u32 C.P.area, .int .u32 C.P.mask, .int .u16 C.P.iv, .int .u8 C.P.opts, .int .u8 C.P.prio, .int .u32 C.P.dead, .int .u32 C.P.dr, .int .u32 C.P.bdr, .slice xn C.nb.length yn, .int .u16 C.P.mtu, .int .u8 C.P.dopts, .int .u8 C.P.dflags, .int .u32 C.P.dseq, .slice xd C.dh.length yd, .slice xk C.ks.length yk, .slice xs C.ss.length ys, .slice xh C.hs.length yh]) := fun w' t => G7.keep t
        have G8h : Hid (∀ w', Touch (fun _ => False) w9 w' → Row w' g8 44 [.int .u16 A.kind, .int .u8 A.d0, .int .u8 A.d1, .int .u8 A.d2, .int .u8 A.d3, .int .u8 A.d4, .int .u8 A.d5, .int .u8 A.d6, .int .u8 A.d7]) := fun w' t => G8.keep t
        clear T8 t9 G7 G8 PW
        go_wp2_with fail
        refine Calls.mono (HCBc.out w9 T9.out) ?_
        rintro e w95 ⟨u9, rfl, b9⟩
        have H9 := HLe.out u9 w95 b9.arg
        have T95 : Hid (Touch (fun _ => False) w9 w95) := b9.t
        clear HLe b9
        go_wp2_with fail
        refine Calls.mono H9 ?_
        rintro e w10 ⟨rfl, t10⟩
        have T10 : Hid (Touch (fun _ => False) w9 w10) := T95.out.trans t10
        have TX : Hid (Touch (fun _ => False) wc w10) := T9.out.trans T10.out
        have RG7 : Hid (∀ w', Touch (fun _ => False) w10 w' → Row w' g7 33 [.int .u8 C.P.typ, .int .u32 C.P.router, .int .u32 C.P.area, .int .u32 C.P.mask, .int .u16 C.P.iv, .int .u8 C.P.opts, .int .u8 C.P.prio, .int .u32 C.P.dead, .int .u32 C.P.dr, .int .u32 C.P.bdr, .slice xn C.nb.length yn, .int .u16 C.P.mtu, .int .u8 C.P.dopts, .int .u8 C.P.dflags, .int .u32 C.P.dseq, .slice xd C.dh.length yd, .slice xk C.ks.length yk, .slice xs C.ss.length ys, .slice xh C.hs.length yh]) := fun w' t => G7h.out w' (T10.out.trans t)
        have RG8 : Hid (∀ w', Touch (fun _ => False) w10 w' → Row w' g8 44 [.int .u16 A.kind, .int .u8 A.d0, .int .u8 A.d1, .int .u8 A.d2, .int .u8 A.d3, .int .u8 A.d4, .int .u8 A.d5, .int .u8 A.d6, .int .u8 A.d7]) := fun w' t => G8h.out w' (T10.out.trans t)
        have RG2 : Hid (∀ w', Touch (fun _ => False) w10 w' → Row w' g2 33 [.int .u8 C.P.typ, .int .u32 C.P.router, .int .u32 C.P.area, .int .u32 C.P.mask, .int .u16 C.P.iv, .int .u8 C.P.opts, .int .u8 C.P.prio, .int .u32 C.P.dead, .int .u32 C.P.dr, .int .u32 C.P.bdr, .slice na C.nb.length nc, .int .u16 C.P.mtu, .int .u8 C.P.dopts, .int .u8 C.P.dflags, .int .u32 C.P.dseq, .slice da C.dh.length dc, .slice ka C.ks.length kc, .slice sa C.ss.length sc, .slice ha C.hs.length hc]) := fun w' t => RG2c.out w' (TX.out.trans t)
        have RG3 : Hid (∀ w', Touch (fun _ => False) w10 w' → Row w' g3 36 [.int .u16 A.kind, .int .u8 A.d0, .int .u8 A.d1, .int .u8 A.d2, .int .u8 A.d3, .int .u8 A.d4, .int .u8 A.d5, .int .u8 A.d6, .int .u8 A.d7]) := fun w' t => RG3c.out w' (TX.out.trans t)
        have K3 : Hid (∀ w', Touch (fun _ => False) w10 w' → w'.cell? ⟨g3, 0, none⟩ = some (.int .u16 A.kind)) := fun w' t => (RG3.out w' t).cell 0
        have HQP : Hid (∀ w', Touch (fun _ => False) w10 w' → Calls Tryz.prog 15 #[.agg #[.int .u8 C.P.typ, .int .u32 C.P.router, .int .u32 C.P.area, .int .u32 C.P.mask, .int .u16 C.P.iv, .int .u8 C.P.opts, .int .u8 C.P.prio, .int .u32 C.P.dead, .int .u32 C.P.dr, .int .u32 C.P.bdr, .slice xn C.nb.length yn, .int .u16 C.P.mtu, .int .u8 C.P.dopts, .int .u8 C.P.dflags, .int .u32 C.P.dseq, .slice xd C.dh.length yd, .slice xk C.ks.length yk, .slice xs C.ss.length ys, .slice xh C.hs.length yh], .agg #[.int .u8 C.P.typ, .int .u32 C.P.router, .int .u32 C.P.area, .int .u32 C.P.mask, .int .u16 C.P.iv, .int .u8 C.P.opts, .int .u8 C.P.prio, .int .u32 C.P.dead, .int .u32 C.P.dr, .int .u32 C.P.bdr, .slice na C.nb.length nc, .int .u16 C.P.mtu, .int .u8 C.P.dopts, .int .u8 C.P.dflags, .int .u32 C.P.dseq, .slice da C.dh.length dc, .slice ka C.ks.length kc, .slice sa C.ss.length sc, .slice ha C.hs.length hc]] w' fun e w'' => e = .returned (.bool true) ∧ Touch (fun _ => False) w' w'') := fun w' t => epacket C _ _ _ _ _ _ _ _ _ _ w' (PW9.out w' (T10.out.trans t)).1 (PRc.out w' (TX.out.trans t))
        have PWx : Hid (∀ w', Touch (fun _ => False) w10 w' → PkAt w' C (.slice xn C.nb.length yn) (.slice xd C.dh.length yd) (.slice xk C.ks.length yk) (.slice xs C.ss.length ys) (.slice xh C.hs.length yh)) := fun w' t => (PW9.out w' (T10.out.trans t)).2
        have HCB : Hid (∀ w', Touch (fun _ => False) w10 w' → Calls Tryz.prog 12 #[.slice ca cB.length cc] w' fun e w'' => ∃ u, e = .returned u ∧ Buf w' w'' u cB) := fun w' t => HCBc.out w' (TX.out.trans t)
        have ROx : Hid (∀ w', Touch (fun _ => False) w10 w' → RowAt w' (.slice ca cB.length cc) cB ∧ ArgAt w' (.slice ca cB.length cc) cB) := fun w' t => HRo.out w' (TX.out.trans t)
        have TW : Hid (Touch (fun _ => False) w w10) := TC.out.trans TX.out
        clear H9 T95 t10 T10 TX G7h G8h RG2c RG3c PW9 PRc HCBc HRo TC T9
        go_upto_region 8 with fail
        go_cut [83] (fun s83 wx => s83 = .bool false ∧ Hid (Touch (fun _ => False) w10 wx))
        case first =>
          have S10 : Touch (fun _ => False) w10 w10.drew := (Touch.refl _ _).drew
          have W3 : (A.kind ≠ 2 ∧ pRight cB = true) ∨ (A.kind = 2 ∧ pRight cB = true) ∨ (A.kind = 2 ∧ pRight cB = false) := by
            by_cases h : A.kind = 2
            · cases h2 : pRight cB
              · exact Or.inr (Or.inr ⟨h, rfl⟩)
              · exact Or.inr (Or.inl ⟨h, rfl⟩)
            · exact Or.inl ⟨h, RI.out h⟩
          rcases W3 with ⟨hk, hr⟩ | ⟨hk, hr⟩ | ⟨hk, hr⟩
          · have hkb : ((A.kind : Int) != 2) = true := by simpa using hk
            have HRi : Hid (∀ v w', ArgAt w' v cB → Calls Tryz.prog 16 #[v] w' fun e w'' => e = .returned (.bool true) ∧ Touch (fun _ => False) w' w'') := fun v w' h => by
              have := pright_any v cB w' h BT.out (by have := HSM.out; omega)
              rwa [hr] at this
            clear hk hr
            refine wp_region_held_drew (S := fun w' => Touch (fun _ => False) w10 w') (by kernel_rfl) S10 (fun hHeld => ?_)
            refine wpAnyH_take (i := 0) (oi := ⟨some 46, _, _, _, _, _⟩) (v := .int .i64 0) rfl (by kernel_rfl) (by kernel_rfl) (by kernel_rfl) (fun _ _ _ h => h) (Or.inl ⟨by rfl, fun w hw => by go_simp⟩) (by assumption) ?_
            simp only [Act.put, List.setIfInBounds_toArray, List.set_cons_zero, List.set_cons_succ]
            refine wpAnyH_take (i := 1) (oi := ⟨some 47, _, _, _, _, _⟩) (v := .bool false) rfl (by kernel_rfl) (by kernel_rfl) (by kernel_rfl) (fun _ _ _ h => h) (Or.inl ⟨by rfl, fun w hw => by go_simp⟩) (by assumption) ?_
            simp only [Act.put, List.setIfInBounds_toArray, List.set_cons_zero, List.set_cons_succ]
            refine wpAnyH_take (i := 2) (oi := ⟨some 48, _, _, _, _, _⟩) (v := .bool false) rfl (by kernel_rfl) (by kernel_rfl) (by kernel_rfl) (fun _ _ _ h => h) (Or.inl ⟨by rfl, fun w hw => by go_simp⟩) (by assumption) ?_
            simp only [Act.put, List.setIfInBounds_toArray, List.set_cons_zero, List.set_cons_succ]
            refine wpAnyH_take (i := 3) (oi := ⟨some 49, _, _, _, _, _⟩) (v := .int .i64 0) rfl (by kernel_rfl) (by kernel_rfl) (by kernel_rfl) (fun _ _ _ h => h) (Or.inl ⟨by rfl, fun w hw => by go_simp⟩) (by assumption) ?_
            simp only [Act.put, List.setIfInBounds_toArray, List.set_cons_zero, List.set_cons_succ]
            refine wpAnyH_take (i := 4) (oi := ⟨some 50, _, _, _, _, _⟩) (v := .bool false) rfl (by kernel_rfl) (by kernel_rfl) (by kernel_rfl) (fun _ _ _ h => h) (Or.inl ⟨by rfl, fun w hw => by go_simp⟩) (by assumption) ?_
            simp only [Act.put, List.setIfInBounds_toArray, List.set_cons_zero, List.set_cons_succ]
            refine wpAnyH_take (i := 5) (oi := ⟨some 51, _, _, _, _, _⟩) (v := .bool false) rfl (by kernel_rfl) (by kernel_rfl) (by kernel_rfl) (fun _ _ _ h => h) (Or.inl ⟨by rfl, fun w hw => by go_simp⟩) (by assumption) ?_
            simp only [Act.put, List.setIfInBounds_toArray, List.set_cons_zero, List.set_cons_succ]
            refine wpAnyH_take (i := 6) (oi := ⟨some 52, _, _, _, _, _⟩) (v := .bool false) rfl (by kernel_rfl) (by kernel_rfl) (by kernel_rfl) (fun _ _ _ h => h) (Or.inl ⟨by rfl, fun w hw => by go_simp⟩) (by assumption) ?_
            simp only [Act.put, List.setIfInBounds_toArray, List.set_cons_zero, List.set_cons_succ]
            refine wpAnyH_take (i := 7) (oi := ⟨some 53, _, _, _, _, _⟩) (v := .int .i64 (cB.length : Int)) rfl (by kernel_rfl) (by kernel_rfl) (by kernel_rfl) (fun _ _ _ h => h) (Or.inl ⟨by rfl, fun w hw => by go_simp⟩) (by assumption) ?_
            simp only [Act.put, List.setIfInBounds_toArray, List.set_cons_zero, List.set_cons_succ]
            refine wpAnyH_take (i := 8) (oi := ⟨some 54, _, _, _, _, _⟩) (v := .slice ca cB.length cc) rfl (by kernel_rfl) (by kernel_rfl) (by kernel_rfl) (fun _ _ _ h => h) (Or.inl ⟨by rfl, fun w hw => by go_simp⟩) (by assumption) ?_
            simp only [Act.put, List.setIfInBounds_toArray, List.set_cons_zero, List.set_cons_succ]
            refine wpAnyH_take (i := 9) (oi := ⟨some 55, _, _, _, _, _⟩) (v := .int .i64 (cB.length : Int)) rfl (by kernel_rfl) (by kernel_rfl) (by kernel_rfl) (fun _ _ _ h => h) (Or.inl ⟨by rfl, fun w hw => by go_simp⟩) (by assumption) ?_
            simp only [Act.put, List.setIfInBounds_toArray, List.set_cons_zero, List.set_cons_succ]
            refine wpAnyH_take (i := 10) (oi := ⟨some 56, _, _, _, _, _⟩) (v := .bool false) rfl (by kernel_rfl) (by kernel_rfl) (by kernel_rfl) (fun _ _ _ h => h) (Or.inl ⟨by rfl, fun w hw => by go_simp⟩) (by assumption) ?_
            simp only [Act.put, List.setIfInBounds_toArray, List.set_cons_zero, List.set_cons_succ]
            refine wpAnyH_take (i := 11) (oi := ⟨some 57, _, _, _, _, _⟩) (v := .bool false) rfl (by kernel_rfl) (by kernel_rfl) (by kernel_rfl) (fun _ _ _ h => h) (Or.inl ⟨by rfl, fun w hw => by go_simp⟩) (by assumption) ?_
            simp only [Act.put, List.setIfInBounds_toArray, List.set_cons_zero, List.set_cons_succ]
            refine wpAnyH_take (i := 12) (oi := ⟨some 58, _, _, _, _, _⟩) (v := .bool false) rfl (by kernel_rfl) (by kernel_rfl) (by kernel_rfl) (fun _ _ _ h => h) (Or.inl ⟨by rfl, fun w hw => by go_simp⟩) (by assumption) ?_
            simp only [Act.put, List.setIfInBounds_toArray, List.set_cons_zero, List.set_cons_succ]
            refine wpAnyH_take (i := 13) (oi := ⟨some 59, _, _, _, _, _⟩) (v := .agg #[.int .u16 A.kind, .int .u8 A.d0, .int .u8 A.d1, .int .u8 A.d2, .int .u8 A.d3, .int .u8 A.d4, .int .u8 A.d5, .int .u8 A.d6, .int .u8 A.d7]) rfl (by kernel_rfl) (by kernel_rfl) (by kernel_rfl) (fun _ _ _ h => h) (yieldsIf_load_mid (by rfl) _ _ rfl _ _ rfl [.int .u16 A.kind, .int .u8 A.d0, .int .u8 A.d1, .int .u8 A.d2, .int .u8 A.d3, .int .u8 A.d4, .int .u8 A.d5, .int .u8 A.d6, .int .u8 A.d7] _ (fun w h => (RG8.out w h).range) Tryz.underlying44 rfl (by kernel_rfl)) (by assumption) ?_
            simp only [Act.put, List.setIfInBounds_toArray, List.set_cons_zero, List.set_cons_succ]
            refine wpAnyH_take (i := 14) (oi := ⟨some 60, _, _, _, _, _⟩) (v := .agg #[.int .u16 A.kind, .int .u8 A.d0, .int .u8 A.d1, .int .u8 A.d2, .int .u8 A.d3, .int .u8 A.d4, .int .u8 A.d5, .int .u8 A.d6, .int .u8 A.d7]) rfl (by kernel_rfl) (by kernel_rfl) (by kernel_rfl) (fun _ _ _ h => h) (yieldsIf_load_mid (by rfl) _ _ rfl _ _ rfl [.int .u16 A.kind, .int .u8 A.d0, .int .u8 A.d1, .int .u8 A.d2, .int .u8 A.d3, .int .u8 A.d4, .int .u8 A.d5, .int .u8 A.d6, .int .u8 A.d7] _ (fun w h => (RG3.out w h).range) Tryz.underlying36 rfl (by kernel_rfl)) (by assumption) ?_
            simp only [Act.put, List.setIfInBounds_toArray, List.set_cons_zero, List.set_cons_succ]
            refine wpAnyH_ready (rs := [15]) (by kernel_rfl) (by simp) ?_
            refine AllReadyH.cons (o := ⟨some 61, _, _, _, _, _⟩) rfl (fun K hK => ?_) AllReadyH.nil
            go_simp
            refine Calls.mono (HQA.out _) ?_
            rintro e w11 ⟨rfl, t11⟩
            have S11 : Touch (fun _ => False) w10 w11 := S10.trans t11
            refine hK.out _ _ S11 (fun hHeld => ?_)
            clear hK K
            refine wpAnyH_take (i := 16) (oi := ⟨some 62, _, _, _, _, _⟩) (v := .bool false) rfl (by kernel_rfl) (by kernel_rfl) (by kernel_rfl) (fun _ _ _ h => h) (Or.inl ⟨by rfl, fun w hw => by go_simp⟩) (by assumption) ?_
            simp only [Act.put, List.setIfInBounds_toArray, List.set_cons_zero, List.set_cons_succ]
            refine wpAnyH_take (i := 17) (oi := ⟨some 63, _, _, _, _, _⟩) (v := .bool false) rfl (by kernel_rfl) (by kernel_rfl) (by kernel_rfl) (fun _ _ _ h => h) (Or.inl ⟨by rfl, fun w hw => by go_simp⟩) (by assumption) ?_
            simp only [Act.put, List.setIfInBounds_toArray, List.set_cons_zero, List.set_cons_succ]
            refine wpAnyH_take (i := 18) (oi := ⟨some 64, _, _, _, _, _⟩) (v := .bool false) rfl (by kernel_rfl) (by kernel_rfl) (by kernel_rfl) (fun _ _ _ h => h) (Or.inl ⟨by rfl, fun w hw => by go_simp⟩) (by assumption) ?_
            simp only [Act.put, List.setIfInBounds_toArray, List.set_cons_zero, List.set_cons_succ]
            refine wpAnyH_take (i := 19) (oi := ⟨some 65, _, _, _, _, _⟩) (v := .agg #[.int .u8 C.P.typ, .int .u32 C.P.router, .int .u32 C.P.area, .int .u32 C.P.mask, .int .u16 C.P.iv, .int .u8 C.P.opts, .int .u8 C.P.prio, .int .u32 C.P.dead, .int .u32 C.P.dr, .int .u32 C.P.bdr, .slice xn C.nb.length yn, .int .u16 C.P.mtu, .int .u8 C.P.dopts, .int .u8 C.P.dflags, .int .u32 C.P.dseq, .slice xd C.dh.length yd, .slice xk C.ks.length yk, .slice xs C.ss.length ys, .slice xh C.hs.length yh]) rfl (by kernel_rfl) (by kernel_rfl) (by kernel_rfl) (fun _ _ _ h => h) (yieldsIf_load_mid (by rfl) _ _ rfl _ _ rfl [.int .u8 C.P.typ, .int .u32 C.P.router, .int .u32 C.P.area, .int .u32 C.P.mask, .int .u16 C.P.iv, .int .u8 C.P.opts, .int .u8 C.P.prio, .int .u32 C.P.dead, .int .u32 C.P.dr, .int .u32 C.P.bdr, .slice xn C.nb.length yn, .int .u16 C.P.mtu, .int .u8 C.P.dopts, .int .u8 C.P.dflags, .int .u32 C.P.dseq, .slice xd C.dh.length yd, .slice xk C.ks.length yk, .slice xs C.ss.length ys, .slice xh C.hs.length yh] _ (fun w h => (RG7.out w h).range) Tryz.underlying33 rfl (by kernel_rfl)) (by assumption) ?_
            simp only [Act.put, List.setIfInBounds_toArray, List.set_cons_zero, List.set_cons_succ]
            refine wpAnyH_take (i := 20) (oi := ⟨some 66, _, _, _, _, _⟩) (v := .agg #[.int .u8 C.P.typ, .int .u32 C.P.router, .int .u32 C.P.area, .int .u32 C.P.mask, .int .u16 C.P.iv, .int .u8 C.P.opts, .int .u8 C.P.prio, .int .u32 C.P.dead, .int .u32 C.P.dr, .int .u32 C.P.bdr, .slice na C.nb.length nc, .int .u16 C.P.mtu, .int .u8 C.P.dopts, .int .u8 C.P.dflags, .int .u32 C.P.dseq, .slice da C.dh.length dc, .slice ka C.ks.length kc, .slice sa C.ss.length sc, .slice ha C.hs.length hc]) rfl (by kernel_rfl) (by kernel_rfl) (by kernel_rfl) (fun _ _ _ h => h) (yieldsIf_load_mid (by rfl) _ _ rfl _ _ rfl [.int .u8 C.P.typ, .int .u32 C.P.router, .int .u32 C.P.area, .int .u32 C.P.mask, .int .u16 C.P.iv, .int .u8 C.P.opts, .int .u8 C.P.prio, .int .u32 C.P.dead, .int .u32 C.P.dr, .int .u32 C.P.bdr, .slice na C.nb.length nc, .int .u16 C.P.mtu, .int .u8 C.P.dopts, .int .u8 C.P.dflags, .int .u32 C.P.dseq, .slice da C.dh.length dc, .slice ka C.ks.length kc, .slice sa C.ss.length sc, .slice ha C.hs.length hc] _ (fun w h => (RG2.out w h).range) Tryz.underlying33 rfl (by kernel_rfl)) (by assumption) ?_
            simp only [Act.put, List.setIfInBounds_toArray, List.set_cons_zero, List.set_cons_succ]
            refine wpAnyH_ready (rs := [21]) (by kernel_rfl) (by simp) ?_
            refine AllReadyH.cons (o := ⟨some 67, _, _, _, _, _⟩) rfl (fun K hK => ?_) AllReadyH.nil
            go_simp
            refine Calls.mono (HQP.out w11 S11) ?_
            rintro e w12 ⟨rfl, t12⟩
            have S12 : Touch (fun _ => False) w10 w12 := S11.trans t12
            refine hK.out _ _ S12 (fun hHeld => ?_)
            clear hK K
            refine wpAnyH_take (i := 22) (oi := ⟨some 68, _, _, _, _, _⟩) (v := .bool false) rfl (by kernel_rfl) (by kernel_rfl) (by kernel_rfl) (fun _ _ _ h => h) (Or.inl ⟨by rfl, fun w hw => by go_simp⟩) (by assumption) ?_
            simp only [Act.put, List.setIfInBounds_toArray, List.set_cons_zero, List.set_cons_succ]
            refine wpAnyH_take (i := 23) (oi := ⟨some 69, _, _, _, _, _⟩) (v := .bool false) rfl (by kernel_rfl) (by kernel_rfl) (by kernel_rfl) (fun _ _ _ h => h) (Or.inl ⟨by rfl, fun w hw => by go_simp⟩) (by assumption) ?_
            simp only [Act.put, List.setIfInBounds_toArray, List.set_cons_zero, List.set_cons_succ]
            refine wpAnyH_take (i := 24) (oi := ⟨some 70, _, _, _, _, _⟩) (v := .bool false) rfl (by kernel_rfl) (by kernel_rfl) (by kernel_rfl) (fun _ _ _ h => h) (Or.inl ⟨by rfl, fun w hw => by go_simp⟩) (by assumption) ?_
            simp only [Act.put, List.setIfInBounds_toArray, List.set_cons_zero, List.set_cons_succ]
            refine wpAnyH_take (i := 25) (oi := ⟨some 71, _, _, _, _, _⟩) (v := .slice ca cB.length cc) rfl (by kernel_rfl) (by kernel_rfl) (by kernel_rfl) (fun _ _ _ h => h) (Or.inl ⟨by rfl, fun w hw => by go_simp⟩) (by assumption) ?_
            simp only [Act.put, List.setIfInBounds_toArray, List.set_cons_zero, List.set_cons_succ]
            refine wpAnyH_take (i := 28) (oi := ⟨some 74, _, _, _, _, _⟩) (v := .pointer (some ⟨g3, 0, none⟩)) rfl (by kernel_rfl) (by kernel_rfl) (by kernel_rfl) (fun _ _ _ h => h) (Or.inl ⟨by rfl, fun w hw => by go_simp⟩) (by assumption) ?_
            simp only [Act.put, List.setIfInBounds_toArray, List.set_cons_zero, List.set_cons_succ]
            refine wpAnyH_take (i := 29) (oi := ⟨some 75, _, _, _, _, _⟩) (v := .int .u16 A.kind) rfl (by kernel_rfl) (by kernel_rfl) (by kernel_rfl) (fun _ _ _ h => h) (Or.inl ⟨by rfl, fun w hw => by have kk := K3.out w hw; go_simp⟩) (by assumption) ?_
            simp only [Act.put, List.setIfInBounds_toArray, List.set_cons_zero, List.set_cons_succ]
            refine wpAnyH_take (i := 30) (oi := ⟨some 76, _, _, _, _, _⟩) (v := .bool true) rfl (by kernel_rfl) (by kernel_rfl) (by kernel_rfl) (fun _ _ _ h => h) (Or.inl ⟨by rfl, fun w hw => by go_simp⟩) (by assumption) ?_
            simp only [Act.put, List.setIfInBounds_toArray, List.set_cons_zero, List.set_cons_succ]
            refine wpAnyH_ready (rs := [26]) (by kernel_rfl) (by simp) ?_
            refine AllReadyH.cons (o := ⟨some 72, _, _, _, _, _⟩) rfl (fun K hK => ?_) AllReadyH.nil
            go_simp
            refine Calls.mono (HCB.out w12 S12) ?_
            rintro e w13 ⟨u13, rfl, b13⟩
            have S13 : Touch (fun _ => False) w10 w13 := S12.trans b13.t
            have HRt := HRi.out u13 w13 b13.arg
            refine hK.out _ _ S13 (fun hHeld => ?_)
            clear hK K
            refine wpAnyH_ready (rs := [27]) (by kernel_rfl) (by simp) ?_
            refine AllReadyH.cons (o := ⟨some 73, _, _, _, _, _⟩) rfl (fun K hK => ?_) AllReadyH.nil
            go_simp
            refine Calls.mono HRt ?_
            rintro e w14 ⟨rfl, t14⟩
            have S14 : Touch (fun _ => False) w10 w14 := S13.trans t14
            refine hK.out _ _ S14 (fun hHeld => ?_)
            clear hK K
            refine wpAnyH_take (i := 31) (oi := ⟨some 77, _, _, _, _, _⟩) (v := .bool false) rfl (by kernel_rfl) (by kernel_rfl) (by kernel_rfl) (fun _ _ _ h => h) (Or.inl ⟨by rfl, fun w hw => by go_simp⟩) (by assumption) ?_
            simp only [Act.put, List.setIfInBounds_toArray, List.set_cons_zero, List.set_cons_succ]
            refine wpAnyH_take (i := 32) (oi := ⟨some 78, _, _, _, _, _⟩) (v := .bool false) rfl (by kernel_rfl) (by kernel_rfl) (by kernel_rfl) (fun _ _ _ h => h) (Or.inl ⟨by rfl, fun w hw => by go_simp⟩) (by assumption) ?_
            simp only [Act.put, List.setIfInBounds_toArray, List.set_cons_zero, List.set_cons_succ]
            refine wpAnyH_take (i := 33) (oi := ⟨some 79, _, _, _, _, _⟩) (v := undef) rfl (by kernel_rfl) (by kernel_rfl) (by kernel_rfl) (fun _ _ _ h => h) (Or.inr ⟨by rfl, rfl⟩) (by assumption) ?_
            simp only [Act.put, List.setIfInBounds_toArray, List.set_cons_zero, List.set_cons_succ]
            refine wpAnyH_take (i := 34) (oi := ⟨some 80, _, _, _, _, _⟩) (v := undef) rfl (by kernel_rfl) (by kernel_rfl) (by kernel_rfl) (fun _ _ _ h => h) (Or.inr ⟨by rfl, rfl⟩) (by assumption) ?_
            simp only [Act.put, List.setIfInBounds_toArray, List.set_cons_zero, List.set_cons_succ]
            refine wpAnyH_take (i := 35) (oi := ⟨some 81, _, _, _, _, _⟩) (v := undef) rfl (by kernel_rfl) (by kernel_rfl) (by kernel_rfl) (fun _ _ _ h => h) (Or.inr ⟨by rfl, rfl⟩) (by assumption) ?_
            simp only [Act.put, List.setIfInBounds_toArray, List.set_cons_zero, List.set_cons_succ]
            refine wpAnyH_take (i := 36) (oi := ⟨some 82, _, _, _, _, _⟩) (v := .bool false) rfl (by kernel_rfl) (by kernel_rfl) (by kernel_rfl) (fun _ _ _ h => h) (Or.inl ⟨by rfl, fun w hw => by go_simp⟩) (by assumption) ?_
            simp only [Act.put, List.setIfInBounds_toArray, List.set_cons_zero, List.set_cons_succ]
            refine wpAnyH_take (i := 37) (oi := ⟨some 83, _, _, _, _, _⟩) (v := .bool false) rfl (by kernel_rfl) (by kernel_rfl) (by kernel_rfl) (fun _ _ _ h => h) (Or.inl ⟨by rfl, fun w hw => by go_simp⟩) (by assumption) ?_
            simp only [Act.put, List.setIfInBounds_toArray, List.set_cons_zero, List.set_cons_succ]
            refine wpAnyH_done (by kernel_rfl) ?_ _
            go_wp2_with fail
            go_meet
            case rel => exact ⟨rfl, S14⟩
          · have hkb : ((A.kind : Int) != 2) = false := by simpa using hk
            have HRi : Hid (∀ v w', ArgAt w' v cB → Calls Tryz.prog 16 #[v] w' fun e w'' => e = .returned (.bool true) ∧ Touch (fun _ => False) w' w'') := fun v w' h => by
              have := pright_any v cB w' h BT.out (by have := HSM.out; omega)
              rwa [hr] at this
            clear hk hr
            refine wp_region_held_drew (S := fun w' => Touch (fun _ => False) w10 w') (by kernel_rfl) S10 (fun hHeld => ?_)
            refine wpAnyH_take (i := 0) (oi := ⟨some 46, _, _, _, _, _⟩) (v := .int .i64 0) rfl (by kernel_rfl) (by kernel_rfl) (by kernel_rfl) (fun _ _ _ h => h) (Or.inl ⟨by rfl, fun w hw => by go_simp⟩) (by assumption) ?_
            simp only [Act.put, List.setIfInBounds_toArray, List.set_cons_zero, List.set_cons_succ]
            refine wpAnyH_take (i := 1) (oi := ⟨some 47, _, _, _, _, _⟩) (v := .bool false) rfl (by kernel_rfl) (by kernel_rfl) (by kernel_rfl) (fun _ _ _ h => h) (Or.inl ⟨by rfl, fun w hw => by go_simp⟩) (by assumption) ?_
            simp only [Act.put, List.setIfInBounds_toArray, List.set_cons_zero, List.set_cons_succ]
            refine wpAnyH_take (i := 2) (oi := ⟨some 48, _, _, _, _, _⟩) (v := .bool false) rfl (by kernel_rfl) (by kernel_rfl) (by kernel_rfl) (fun _ _ _ h => h) (Or.inl ⟨by rfl, fun w hw => by go_simp⟩) (by assumption) ?_
            simp only [Act.put, List.setIfInBounds_toArray, List.set_cons_zero, List.set_cons_succ]
            refine wpAnyH_take (i := 3) (oi := ⟨some 49, _, _, _, _, _⟩) (v := .int .i64 0) rfl (by kernel_rfl) (by kernel_rfl) (by kernel_rfl) (fun _ _ _ h => h) (Or.inl ⟨by rfl, fun w hw => by go_simp⟩) (by assumption) ?_
            simp only [Act.put, List.setIfInBounds_toArray, List.set_cons_zero, List.set_cons_succ]
            refine wpAnyH_take (i := 4) (oi := ⟨some 50, _, _, _, _, _⟩) (v := .bool false) rfl (by kernel_rfl) (by kernel_rfl) (by kernel_rfl) (fun _ _ _ h => h) (Or.inl ⟨by rfl, fun w hw => by go_simp⟩) (by assumption) ?_
            simp only [Act.put, List.setIfInBounds_toArray, List.set_cons_zero, List.set_cons_succ]
            refine wpAnyH_take (i := 5) (oi := ⟨some 51, _, _, _, _, _⟩) (v := .bool false) rfl (by kernel_rfl) (by kernel_rfl) (by kernel_rfl) (fun _ _ _ h => h) (Or.inl ⟨by rfl, fun w hw => by go_simp⟩) (by assumption) ?_
            simp only [Act.put, List.setIfInBounds_toArray, List.set_cons_zero, List.set_cons_succ]
            refine wpAnyH_take (i := 6) (oi := ⟨some 52, _, _, _, _, _⟩) (v := .bool false) rfl (by kernel_rfl) (by kernel_rfl) (by kernel_rfl) (fun _ _ _ h => h) (Or.inl ⟨by rfl, fun w hw => by go_simp⟩) (by assumption) ?_
            simp only [Act.put, List.setIfInBounds_toArray, List.set_cons_zero, List.set_cons_succ]
            refine wpAnyH_take (i := 7) (oi := ⟨some 53, _, _, _, _, _⟩) (v := .int .i64 (cB.length : Int)) rfl (by kernel_rfl) (by kernel_rfl) (by kernel_rfl) (fun _ _ _ h => h) (Or.inl ⟨by rfl, fun w hw => by go_simp⟩) (by assumption) ?_
            simp only [Act.put, List.setIfInBounds_toArray, List.set_cons_zero, List.set_cons_succ]
            refine wpAnyH_take (i := 8) (oi := ⟨some 54, _, _, _, _, _⟩) (v := .slice ca cB.length cc) rfl (by kernel_rfl) (by kernel_rfl) (by kernel_rfl) (fun _ _ _ h => h) (Or.inl ⟨by rfl, fun w hw => by go_simp⟩) (by assumption) ?_
            simp only [Act.put, List.setIfInBounds_toArray, List.set_cons_zero, List.set_cons_succ]
            refine wpAnyH_take (i := 9) (oi := ⟨some 55, _, _, _, _, _⟩) (v := .int .i64 (cB.length : Int)) rfl (by kernel_rfl) (by kernel_rfl) (by kernel_rfl) (fun _ _ _ h => h) (Or.inl ⟨by rfl, fun w hw => by go_simp⟩) (by assumption) ?_
            simp only [Act.put, List.setIfInBounds_toArray, List.set_cons_zero, List.set_cons_succ]
            refine wpAnyH_take (i := 10) (oi := ⟨some 56, _, _, _, _, _⟩) (v := .bool false) rfl (by kernel_rfl) (by kernel_rfl) (by kernel_rfl) (fun _ _ _ h => h) (Or.inl ⟨by rfl, fun w hw => by go_simp⟩) (by assumption) ?_
            simp only [Act.put, List.setIfInBounds_toArray, List.set_cons_zero, List.set_cons_succ]
            refine wpAnyH_take (i := 11) (oi := ⟨some 57, _, _, _, _, _⟩) (v := .bool false) rfl (by kernel_rfl) (by kernel_rfl) (by kernel_rfl) (fun _ _ _ h => h) (Or.inl ⟨by rfl, fun w hw => by go_simp⟩) (by assumption) ?_
            simp only [Act.put, List.setIfInBounds_toArray, List.set_cons_zero, List.set_cons_succ]
            refine wpAnyH_take (i := 12) (oi := ⟨some 58, _, _, _, _, _⟩) (v := .bool false) rfl (by kernel_rfl) (by kernel_rfl) (by kernel_rfl) (fun _ _ _ h => h) (Or.inl ⟨by rfl, fun w hw => by go_simp⟩) (by assumption) ?_
            simp only [Act.put, List.setIfInBounds_toArray, List.set_cons_zero, List.set_cons_succ]
            refine wpAnyH_take (i := 13) (oi := ⟨some 59, _, _, _, _, _⟩) (v := .agg #[.int .u16 A.kind, .int .u8 A.d0, .int .u8 A.d1, .int .u8 A.d2, .int .u8 A.d3, .int .u8 A.d4, .int .u8 A.d5, .int .u8 A.d6, .int .u8 A.d7]) rfl (by kernel_rfl) (by kernel_rfl) (by kernel_rfl) (fun _ _ _ h => h) (yieldsIf_load_mid (by rfl) _ _ rfl _ _ rfl [.int .u16 A.kind, .int .u8 A.d0, .int .u8 A.d1, .int .u8 A.d2, .int .u8 A.d3, .int .u8 A.d4, .int .u8 A.d5, .int .u8 A.d6, .int .u8 A.d7] _ (fun w h => (RG8.out w h).range) Tryz.underlying44 rfl (by kernel_rfl)) (by assumption) ?_
            simp only [Act.put, List.setIfInBounds_toArray, List.set_cons_zero, List.set_cons_succ]
            refine wpAnyH_take (i := 14) (oi := ⟨some 60, _, _, _, _, _⟩) (v := .agg #[.int .u16 A.kind, .int .u8 A.d0, .int .u8 A.d1, .int .u8 A.d2, .int .u8 A.d3, .int .u8 A.d4, .int .u8 A.d5, .int .u8 A.d6, .int .u8 A.d7]) rfl (by kernel_rfl) (by kernel_rfl) (by kernel_rfl) (fun _ _ _ h => h) (yieldsIf_load_mid (by rfl) _ _ rfl _ _ rfl [.int .u16 A.kind, .int .u8 A.d0, .int .u8 A.d1, .int .u8 A.d2, .int .u8 A.d3, .int .u8 A.d4, .int .u8 A.d5, .int .u8 A.d6, .int .u8 A.d7] _ (fun w h => (RG3.out w h).range) Tryz.underlying36 rfl (by kernel_rfl)) (by assumption) ?_
            simp only [Act.put, List.setIfInBounds_toArray, List.set_cons_zero, List.set_cons_succ]
            refine wpAnyH_ready (rs := [15]) (by kernel_rfl) (by simp) ?_
            refine AllReadyH.cons (o := ⟨some 61, _, _, _, _, _⟩) rfl (fun K hK => ?_) AllReadyH.nil
            go_simp
            refine Calls.mono (HQA.out _) ?_
            rintro e w11 ⟨rfl, t11⟩
            have S11 : Touch (fun _ => False) w10 w11 := S10.trans t11
            refine hK.out _ _ S11 (fun hHeld => ?_)
            clear hK K
            refine wpAnyH_take (i := 16) (oi := ⟨some 62, _, _, _, _, _⟩) (v := .bool false) rfl (by kernel_rfl) (by kernel_rfl) (by kernel_rfl) (fun _ _ _ h => h) (Or.inl ⟨by rfl, fun w hw => by go_simp⟩) (by assumption) ?_
            simp only [Act.put, List.setIfInBounds_toArray, List.set_cons_zero, List.set_cons_succ]
            refine wpAnyH_take (i := 17) (oi := ⟨some 63, _, _, _, _, _⟩) (v := .bool false) rfl (by kernel_rfl) (by kernel_rfl) (by kernel_rfl) (fun _ _ _ h => h) (Or.inl ⟨by rfl, fun w hw => by go_simp⟩) (by assumption) ?_
            simp only [Act.put, List.setIfInBounds_toArray, List.set_cons_zero, List.set_cons_succ]
            refine wpAnyH_take (i := 18) (oi := ⟨some 64, _, _, _, _, _⟩) (v := .bool false) rfl (by kernel_rfl) (by kernel_rfl) (by kernel_rfl) (fun _ _ _ h => h) (Or.inl ⟨by rfl, fun w hw => by go_simp⟩) (by assumption) ?_
            simp only [Act.put, List.setIfInBounds_toArray, List.set_cons_zero, List.set_cons_succ]
            refine wpAnyH_take (i := 19) (oi := ⟨some 65, _, _, _, _, _⟩) (v := .agg #[.int .u8 C.P.typ, .int .u32 C.P.router, .int .u32 C.P.area, .int .u32 C.P.mask, .int .u16 C.P.iv, .int .u8 C.P.opts, .int .u8 C.P.prio, .int .u32 C.P.dead, .int .u32 C.P.dr, .int .u32 C.P.bdr, .slice xn C.nb.length yn, .int .u16 C.P.mtu, .int .u8 C.P.dopts, .int .u8 C.P.dflags, .int .u32 C.P.dseq, .slice xd C.dh.length yd, .slice xk C.ks.length yk, .slice xs C.ss.length ys, .slice xh C.hs.length yh]) rfl (by kernel_rfl) (by kernel_rfl) (by kernel_rfl) (fun _ _ _ h => h) (yieldsIf_load_mid (by rfl) _ _ rfl _ _ rfl [.int .u8 C.P.typ, .int .u32 C.P.router, .int .u32 C.P.area, .int .u32 C.P.mask, .int .u16 C.P.iv, .int .u8 C.P.opts, .int .u8 C.P.prio, .int .u32 C.P.dead, .int .u32 C.P.dr, .int .u32 C.P.bdr, .slice xn C.nb.length yn, .int .u16 C.P.mtu, .int .u8 C.P.dopts, .int .u8 C.P.dflags, .int .u32 C.P.dseq, .slice xd C.dh.length yd, .slice xk C.ks.length yk, .slice xs C.ss.length ys, .slice xh C.hs.length yh] _ (fun w h => (RG7.out w h).range) Tryz.underlying33 rfl (by kernel_rfl)) (by assumption) ?_
            simp only [Act.put, List.setIfInBounds_toArray, List.set_cons_zero, List.set_cons_succ]
            refine wpAnyH_take (i := 20) (oi := ⟨some 66, _, _, _, _, _⟩) (v := .agg #[.int .u8 C.P.typ, .int .u32 C.P.router, .int .u32 C.P.area, .int .u32 C.P.mask, .int .u16 C.P.iv, .int .u8 C.P.opts, .int .u8 C.P.prio, .int .u32 C.P.dead, .int .u32 C.P.dr, .int .u32 C.P.bdr, .slice na C.nb.length nc, .int .u16 C.P.mtu, .int .u8 C.P.dopts, .int .u8 C.P.dflags, .int .u32 C.P.dseq, .slice da C.dh.length dc, .slice ka C.ks.length kc, .slice sa C.ss.length sc, .slice ha C.hs.length hc]) rfl (by kernel_rfl) (by kernel_rfl) (by kernel_rfl) (fun _ _ _ h => h) (yieldsIf_load_mid (by rfl) _ _ rfl _ _ rfl [.int .u8 C.P.typ, .int .u32 C.P.router, .int .u32 C.P.area, .int .u32 C.P.mask, .int .u16 C.P.iv, .int .u8 C.P.opts, .int .u8 C.P.prio, .int .u32 C.P.dead, .int .u32 C.P.dr, .int .u32 C.P.bdr, .slice na C.nb.length nc, .int .u16 C.P.mtu, .int .u8 C.P.dopts, .int .u8 C.P.dflags, .int .u32 C.P.dseq, .slice da C.dh.length dc, .slice ka C.ks.length kc, .slice sa C.ss.length sc, .slice ha C.hs.length hc] _ (fun w h => (RG2.out w h).range) Tryz.underlying33 rfl (by kernel_rfl)) (by assumption) ?_
            simp only [Act.put, List.setIfInBounds_toArray, List.set_cons_zero, List.set_cons_succ]
            refine wpAnyH_ready (rs := [21]) (by kernel_rfl) (by simp) ?_
            refine AllReadyH.cons (o := ⟨some 67, _, _, _, _, _⟩) rfl (fun K hK => ?_) AllReadyH.nil
            go_simp
            refine Calls.mono (HQP.out w11 S11) ?_
            rintro e w12 ⟨rfl, t12⟩
            have S12 : Touch (fun _ => False) w10 w12 := S11.trans t12
            refine hK.out _ _ S12 (fun hHeld => ?_)
            clear hK K
            refine wpAnyH_take (i := 22) (oi := ⟨some 68, _, _, _, _, _⟩) (v := .bool false) rfl (by kernel_rfl) (by kernel_rfl) (by kernel_rfl) (fun _ _ _ h => h) (Or.inl ⟨by rfl, fun w hw => by go_simp⟩) (by assumption) ?_
            simp only [Act.put, List.setIfInBounds_toArray, List.set_cons_zero, List.set_cons_succ]
            refine wpAnyH_take (i := 23) (oi := ⟨some 69, _, _, _, _, _⟩) (v := .bool false) rfl (by kernel_rfl) (by kernel_rfl) (by kernel_rfl) (fun _ _ _ h => h) (Or.inl ⟨by rfl, fun w hw => by go_simp⟩) (by assumption) ?_
            simp only [Act.put, List.setIfInBounds_toArray, List.set_cons_zero, List.set_cons_succ]
            refine wpAnyH_take (i := 24) (oi := ⟨some 70, _, _, _, _, _⟩) (v := .bool false) rfl (by kernel_rfl) (by kernel_rfl) (by kernel_rfl) (fun _ _ _ h => h) (Or.inl ⟨by rfl, fun w hw => by go_simp⟩) (by assumption) ?_
            simp only [Act.put, List.setIfInBounds_toArray, List.set_cons_zero, List.set_cons_succ]
            refine wpAnyH_take (i := 25) (oi := ⟨some 71, _, _, _, _, _⟩) (v := .slice ca cB.length cc) rfl (by kernel_rfl) (by kernel_rfl) (by kernel_rfl) (fun _ _ _ h => h) (Or.inl ⟨by rfl, fun w hw => by go_simp⟩) (by assumption) ?_
            simp only [Act.put, List.setIfInBounds_toArray, List.set_cons_zero, List.set_cons_succ]
            refine wpAnyH_take (i := 28) (oi := ⟨some 74, _, _, _, _, _⟩) (v := .pointer (some ⟨g3, 0, none⟩)) rfl (by kernel_rfl) (by kernel_rfl) (by kernel_rfl) (fun _ _ _ h => h) (Or.inl ⟨by rfl, fun w hw => by go_simp⟩) (by assumption) ?_
            simp only [Act.put, List.setIfInBounds_toArray, List.set_cons_zero, List.set_cons_succ]
            refine wpAnyH_take (i := 29) (oi := ⟨some 75, _, _, _, _, _⟩) (v := .int .u16 A.kind) rfl (by kernel_rfl) (by kernel_rfl) (by kernel_rfl) (fun _ _ _ h => h) (Or.inl ⟨by rfl, fun w hw => by have kk := K3.out w hw; go_simp⟩) (by assumption) ?_
            simp only [Act.put, List.setIfInBounds_toArray, List.set_cons_zero, List.set_cons_succ]
            refine wpAnyH_take (i := 30) (oi := ⟨some 76, _, _, _, _, _⟩) (v := .bool false) rfl (by kernel_rfl) (by kernel_rfl) (by kernel_rfl) (fun _ _ _ h => h) (Or.inl ⟨by rfl, fun w hw => by go_simp⟩) (by assumption) ?_
            simp only [Act.put, List.setIfInBounds_toArray, List.set_cons_zero, List.set_cons_succ]
            refine wpAnyH_ready (rs := [26]) (by kernel_rfl) (by simp) ?_
            refine AllReadyH.cons (o := ⟨some 72, _, _, _, _, _⟩) rfl (fun K hK => ?_) AllReadyH.nil
            go_simp
            refine Calls.mono (HCB.out w12 S12) ?_
            rintro e w13 ⟨u13, rfl, b13⟩
            have S13 : Touch (fun _ => False) w10 w13 := S12.trans b13.t
            have HRt := HRi.out u13 w13 b13.arg
            refine hK.out _ _ S13 (fun hHeld => ?_)
            clear hK K
            refine wpAnyH_ready (rs := [27]) (by kernel_rfl) (by simp) ?_
            refine AllReadyH.cons (o := ⟨some 73, _, _, _, _, _⟩) rfl (fun K hK => ?_) AllReadyH.nil
            go_simp
            refine Calls.mono HRt ?_
            rintro e w14 ⟨rfl, t14⟩
            have S14 : Touch (fun _ => False) w10 w14 := S13.trans t14
            refine hK.out _ _ S14 (fun hHeld => ?_)
            clear hK K
            refine wpAnyH_take (i := 31) (oi := ⟨some 77, _, _, _, _, _⟩) (v := .bool true) rfl (by kernel_rfl) (by kernel_rfl) (by kernel_rfl) (fun _ _ _ h => h) (Or.inl ⟨by rfl, fun w hw => by go_simp⟩) (by assumption) ?_
            simp only [Act.put, List.setIfInBounds_toArray, List.set_cons_zero, List.set_cons_succ]
            refine wpAnyH_take (i := 32) (oi := ⟨some 78, _, _, _, _, _⟩) (v := .bool true) rfl (by kernel_rfl) (by kernel_rfl) (by kernel_rfl) (fun _ _ _ h => h) (Or.inl ⟨by rfl, fun w hw => by go_simp⟩) (by assumption) ?_
            simp only [Act.put, List.setIfInBounds_toArray, List.set_cons_zero, List.set_cons_succ]
            refine wpAnyH_take (i := 33) (oi := ⟨some 79, _, _, _, _, _⟩) (v := .pointer (some ⟨g3, 0, none⟩)) rfl (by kernel_rfl) (by kernel_rfl) (by kernel_rfl) (fun _ _ _ h => h) (Or.inl ⟨by rfl, fun w hw => by go_simp⟩) (by assumption) ?_
            simp only [Act.put, List.setIfInBounds_toArray, List.set_cons_zero, List.set_cons_succ]
            refine wpAnyH_take (i := 34) (oi := ⟨some 80, _, _, _, _, _⟩) (v := .int .u16 A.kind) rfl (by kernel_rfl) (by kernel_rfl) (by kernel_rfl) (fun _ _ _ h => h) (Or.inl ⟨by rfl, fun w hw => by have kk := K3.out w hw; go_simp⟩) (by assumption) ?_
            simp only [Act.put, List.setIfInBounds_toArray, List.set_cons_zero, List.set_cons_succ]
            refine wpAnyH_take (i := 35) (oi := ⟨some 81, _, _, _, _, _⟩) (v := .bool false) rfl (by kernel_rfl) (by kernel_rfl) (by kernel_rfl) (fun _ _ _ h => h) (Or.inl ⟨by rfl, fun w hw => by go_simp⟩) (by assumption) ?_
            simp only [Act.put, List.setIfInBounds_toArray, List.set_cons_zero, List.set_cons_succ]
            refine wpAnyH_take (i := 36) (oi := ⟨some 82, _, _, _, _, _⟩) (v := .bool false) rfl (by kernel_rfl) (by kernel_rfl) (by kernel_rfl) (fun _ _ _ h => h) (Or.inl ⟨by rfl, fun w hw => by go_simp⟩) (by assumption) ?_
            simp only [Act.put, List.setIfInBounds_toArray, List.set_cons_zero, List.set_cons_succ]
            refine wpAnyH_take (i := 37) (oi := ⟨some 83, _, _, _, _, _⟩) (v := .bool false) rfl (by kernel_rfl) (by kernel_rfl) (by kernel_rfl) (fun _ _ _ h => h) (Or.inl ⟨by rfl, fun w hw => by go_simp⟩) (by assumption) ?_
            simp only [Act.put, List.setIfInBounds_toArray, List.set_cons_zero, List.set_cons_succ]
            refine wpAnyH_done (by kernel_rfl) ?_ _
            go_wp2_with fail
            go_meet
            case rel => exact ⟨rfl, S14⟩
          · have hkb : ((A.kind : Int) != 2) = false := by simpa using hk
            have HRi : Hid (∀ v w', ArgAt w' v cB → Calls Tryz.prog 16 #[v] w' fun e w'' => e = .returned (.bool false) ∧ Touch (fun _ => False) w' w'') := fun v w' h => by
              have := pright_any v cB w' h BT.out (by have := HSM.out; omega)
              rwa [hr] at this
            clear hk hr
            refine wp_region_held_drew (S := fun w' => Touch (fun _ => False) w10 w') (by kernel_rfl) S10 (fun hHeld => ?_)
            refine wpAnyH_take (i := 0) (oi := ⟨some 46, _, _, _, _, _⟩) (v := .int .i64 0) rfl (by kernel_rfl) (by kernel_rfl) (by kernel_rfl) (fun _ _ _ h => h) (Or.inl ⟨by rfl, fun w hw => by go_simp⟩) (by assumption) ?_
            simp only [Act.put, List.setIfInBounds_toArray, List.set_cons_zero, List.set_cons_succ]
            refine wpAnyH_take (i := 1) (oi := ⟨some 47, _, _, _, _, _⟩) (v := .bool false) rfl (by kernel_rfl) (by kernel_rfl) (by kernel_rfl) (fun _ _ _ h => h) (Or.inl ⟨by rfl, fun w hw => by go_simp⟩) (by assumption) ?_
            simp only [Act.put, List.setIfInBounds_toArray, List.set_cons_zero, List.set_cons_succ]
            refine wpAnyH_take (i := 2) (oi := ⟨some 48, _, _, _, _, _⟩) (v := .bool false) rfl (by kernel_rfl) (by kernel_rfl) (by kernel_rfl) (fun _ _ _ h => h) (Or.inl ⟨by rfl, fun w hw => by go_simp⟩) (by assumption) ?_
            simp only [Act.put, List.setIfInBounds_toArray, List.set_cons_zero, List.set_cons_succ]
            refine wpAnyH_take (i := 3) (oi := ⟨some 49, _, _, _, _, _⟩) (v := .int .i64 0) rfl (by kernel_rfl) (by kernel_rfl) (by kernel_rfl) (fun _ _ _ h => h) (Or.inl ⟨by rfl, fun w hw => by go_simp⟩) (by assumption) ?_
            simp only [Act.put, List.setIfInBounds_toArray, List.set_cons_zero, List.set_cons_succ]
            refine wpAnyH_take (i := 4) (oi := ⟨some 50, _, _, _, _, _⟩) (v := .bool false) rfl (by kernel_rfl) (by kernel_rfl) (by kernel_rfl) (fun _ _ _ h => h) (Or.inl ⟨by rfl, fun w hw => by go_simp⟩) (by assumption) ?_
            simp only [Act.put, List.setIfInBounds_toArray, List.set_cons_zero, List.set_cons_succ]
            refine wpAnyH_take (i := 5) (oi := ⟨some 51, _, _, _, _, _⟩) (v := .bool false) rfl (by kernel_rfl) (by kernel_rfl) (by kernel_rfl) (fun _ _ _ h => h) (Or.inl ⟨by rfl, fun w hw => by go_simp⟩) (by assumption) ?_
            simp only [Act.put, List.setIfInBounds_toArray, List.set_cons_zero, List.set_cons_succ]
            refine wpAnyH_take (i := 6) (oi := ⟨some 52, _, _, _, _, _⟩) (v := .bool false) rfl (by kernel_rfl) (by kernel_rfl) (by kernel_rfl) (fun _ _ _ h => h) (Or.inl ⟨by rfl, fun w hw => by go_simp⟩) (by assumption) ?_
            simp only [Act.put, List.setIfInBounds_toArray, List.set_cons_zero, List.set_cons_succ]
            refine wpAnyH_take (i := 7) (oi := ⟨some 53, _, _, _, _, _⟩) (v := .int .i64 (cB.length : Int)) rfl (by kernel_rfl) (by kernel_rfl) (by kernel_rfl) (fun _ _ _ h => h) (Or.inl ⟨by rfl, fun w hw => by go_simp⟩) (by assumption) ?_
            simp only [Act.put, List.setIfInBounds_toArray, List.set_cons_zero, List.set_cons_succ]
            refine wpAnyH_take (i := 8) (oi := ⟨some 54, _, _, _, _, _⟩) (v := .slice ca cB.length cc) rfl (by kernel_rfl) (by kernel_rfl) (by kernel_rfl) (fun _ _ _ h => h) (Or.inl ⟨by rfl, fun w hw => by go_simp⟩) (by assumption) ?_
            simp only [Act.put, List.setIfInBounds_toArray, List.set_cons_zero, List.set_cons_succ]
            refine wpAnyH_take (i := 9) (oi := ⟨some 55, _, _, _, _, _⟩) (v := .int .i64 (cB.length : Int)) rfl (by kernel_rfl) (by kernel_rfl) (by kernel_rfl) (fun _ _ _ h => h) (Or.inl ⟨by rfl, fun w hw => by go_simp⟩) (by assumption) ?_
            simp only [Act.put, List.setIfInBounds_toArray, List.set_cons_zero, List.set_cons_succ]
            refine wpAnyH_take (i := 10) (oi := ⟨some 56, _, _, _, _, _⟩) (v := .bool false) rfl (by kernel_rfl) (by kernel_rfl) (by kernel_rfl) (fun _ _ _ h => h) (Or.inl ⟨by rfl, fun w hw => by go_simp⟩) (by assumption) ?_
            simp only [Act.put, List.setIfInBounds_toArray, List.set_cons_zero, List.set_cons_succ]
            refine wpAnyH_take (i := 11) (oi := ⟨some 57, _, _, _, _, _⟩) (v := .bool false) rfl (by kernel_rfl) (by kernel_rfl) (by kernel_rfl) (fun _ _ _ h => h) (Or.inl ⟨by rfl, fun w hw => by go_simp⟩) (by assumption) ?_
            simp only [Act.put, List.setIfInBounds_toArray, List.set_cons_zero, List.set_cons_succ]
            refine wpAnyH_take (i := 12) (oi := ⟨some 58, _, _, _, _, _⟩) (v := .bool false) rfl (by kernel_rfl) (by kernel_rfl) (by kernel_rfl) (fun _ _ _ h => h) (Or.inl ⟨by rfl, fun w hw => by go_simp⟩) (by assumption) ?_
            simp only [Act.put, List.setIfInBounds_toArray, List.set_cons_zero, List.set_cons_succ]
            refine wpAnyH_take (i := 13) (oi := ⟨some 59, _, _, _, _, _⟩) (v := .agg #[.int .u16 A.kind, .int .u8 A.d0, .int .u8 A.d1, .int .u8 A.d2, .int .u8 A.d3, .int .u8 A.d4, .int .u8 A.d5, .int .u8 A.d6, .int .u8 A.d7]) rfl (by kernel_rfl) (by kernel_rfl) (by kernel_rfl) (fun _ _ _ h => h) (yieldsIf_load_mid (by rfl) _ _ rfl _ _ rfl [.int .u16 A.kind, .int .u8 A.d0, .int .u8 A.d1, .int .u8 A.d2, .int .u8 A.d3, .int .u8 A.d4, .int .u8 A.d5, .int .u8 A.d6, .int .u8 A.d7] _ (fun w h => (RG8.out w h).range) Tryz.underlying44 rfl (by kernel_rfl)) (by assumption) ?_
            simp only [Act.put, List.setIfInBounds_toArray, List.set_cons_zero, List.set_cons_succ]
            refine wpAnyH_take (i := 14) (oi := ⟨some 60, _, _, _, _, _⟩) (v := .agg #[.int .u16 A.kind, .int .u8 A.d0, .int .u8 A.d1, .int .u8 A.d2, .int .u8 A.d3, .int .u8 A.d4, .int .u8 A.d5, .int .u8 A.d6, .int .u8 A.d7]) rfl (by kernel_rfl) (by kernel_rfl) (by kernel_rfl) (fun _ _ _ h => h) (yieldsIf_load_mid (by rfl) _ _ rfl _ _ rfl [.int .u16 A.kind, .int .u8 A.d0, .int .u8 A.d1, .int .u8 A.d2, .int .u8 A.d3, .int .u8 A.d4, .int .u8 A.d5, .int .u8 A.d6, .int .u8 A.d7] _ (fun w h => (RG3.out w h).range) Tryz.underlying36 rfl (by kernel_rfl)) (by assumption) ?_
            simp only [Act.put, List.setIfInBounds_toArray, List.set_cons_zero, List.set_cons_succ]
            refine wpAnyH_ready (rs := [15]) (by kernel_rfl) (by simp) ?_
            refine AllReadyH.cons (o := ⟨some 61, _, _, _, _, _⟩) rfl (fun K hK => ?_) AllReadyH.nil
            go_simp
            refine Calls.mono (HQA.out _) ?_
            rintro e w11 ⟨rfl, t11⟩
            have S11 : Touch (fun _ => False) w10 w11 := S10.trans t11
            refine hK.out _ _ S11 (fun hHeld => ?_)
            clear hK K
            refine wpAnyH_take (i := 16) (oi := ⟨some 62, _, _, _, _, _⟩) (v := .bool false) rfl (by kernel_rfl) (by kernel_rfl) (by kernel_rfl) (fun _ _ _ h => h) (Or.inl ⟨by rfl, fun w hw => by go_simp⟩) (by assumption) ?_
            simp only [Act.put, List.setIfInBounds_toArray, List.set_cons_zero, List.set_cons_succ]
            refine wpAnyH_take (i := 17) (oi := ⟨some 63, _, _, _, _, _⟩) (v := .bool false) rfl (by kernel_rfl) (by kernel_rfl) (by kernel_rfl) (fun _ _ _ h => h) (Or.inl ⟨by rfl, fun w hw => by go_simp⟩) (by assumption) ?_
            simp only [Act.put, List.setIfInBounds_toArray, List.set_cons_zero, List.set_cons_succ]
            refine wpAnyH_take (i := 18) (oi := ⟨some 64, _, _, _, _, _⟩) (v := .bool false) rfl (by kernel_rfl) (by kernel_rfl) (by kernel_rfl) (fun _ _ _ h => h) (Or.inl ⟨by rfl, fun w hw => by go_simp⟩) (by assumption) ?_
            simp only [Act.put, List.setIfInBounds_toArray, List.set_cons_zero, List.set_cons_succ]
            refine wpAnyH_take (i := 19) (oi := ⟨some 65, _, _, _, _, _⟩) (v := .agg #[.int .u8 C.P.typ, .int .u32 C.P.router, .int .u32 C.P.area, .int .u32 C.P.mask, .int .u16 C.P.iv, .int .u8 C.P.opts, .int .u8 C.P.prio, .int .u32 C.P.dead, .int .u32 C.P.dr, .int .u32 C.P.bdr, .slice xn C.nb.length yn, .int .u16 C.P.mtu, .int .u8 C.P.dopts, .int .u8 C.P.dflags, .int .u32 C.P.dseq, .slice xd C.dh.length yd, .slice xk C.ks.length yk, .slice xs C.ss.length ys, .slice xh C.hs.length yh]) rfl (by kernel_rfl) (by kernel_rfl) (by kernel_rfl) (fun _ _ _ h => h) (yieldsIf_load_mid (by rfl) _ _ rfl _ _ rfl [.int .u8 C.P.typ, .int .u32 C.P.router, .int .u32 C.P.area, .int .u32 C.P.mask, .int .u16 C.P.iv, .int .u8 C.P.opts, .int .u8 C.P.prio, .int .u32 C.P.dead, .int .u32 C.P.dr, .int .u32 C.P.bdr, .slice xn C.nb.length yn, .int .u16 C.P.mtu, .int .u8 C.P.dopts, .int .u8 C.P.dflags, .int .u32 C.P.dseq, .slice xd C.dh.length yd, .slice xk C.ks.length yk, .slice xs C.ss.length ys, .slice xh C.hs.length yh] _ (fun w h => (RG7.out w h).range) Tryz.underlying33 rfl (by kernel_rfl)) (by assumption) ?_
            simp only [Act.put, List.setIfInBounds_toArray, List.set_cons_zero, List.set_cons_succ]
            refine wpAnyH_take (i := 20) (oi := ⟨some 66, _, _, _, _, _⟩) (v := .agg #[.int .u8 C.P.typ, .int .u32 C.P.router, .int .u32 C.P.area, .int .u32 C.P.mask, .int .u16 C.P.iv, .int .u8 C.P.opts, .int .u8 C.P.prio, .int .u32 C.P.dead, .int .u32 C.P.dr, .int .u32 C.P.bdr, .slice na C.nb.length nc, .int .u16 C.P.mtu, .int .u8 C.P.dopts, .int .u8 C.P.dflags, .int .u32 C.P.dseq, .slice da C.dh.length dc, .slice ka C.ks.length kc, .slice sa C.ss.length sc, .slice ha C.hs.length hc]) rfl (by kernel_rfl) (by kernel_rfl) (by kernel_rfl) (fun _ _ _ h => h) (yieldsIf_load_mid (by rfl) _ _ rfl _ _ rfl [.int .u8 C.P.typ, .int .u32 C.P.router, .int .u32 C.P.area, .int .u32 C.P.mask, .int .u16 C.P.iv, .int .u8 C.P.opts, .int .u8 C.P.prio, .int .u32 C.P.dead, .int .u32 C.P.dr, .int .u32 C.P.bdr, .slice na C.nb.length nc, .int .u16 C.P.mtu, .int .u8 C.P.dopts, .int .u8 C.P.dflags, .int .u32 C.P.dseq, .slice da C.dh.length dc, .slice ka C.ks.length kc, .slice sa C.ss.length sc, .slice ha C.hs.length hc] _ (fun w h => (RG2.out w h).range) Tryz.underlying33 rfl (by kernel_rfl)) (by assumption) ?_
            simp only [Act.put, List.setIfInBounds_toArray, List.set_cons_zero, List.set_cons_succ]
            refine wpAnyH_ready (rs := [21]) (by kernel_rfl) (by simp) ?_
            refine AllReadyH.cons (o := ⟨some 67, _, _, _, _, _⟩) rfl (fun K hK => ?_) AllReadyH.nil
            go_simp
            refine Calls.mono (HQP.out w11 S11) ?_
            rintro e w12 ⟨rfl, t12⟩
            have S12 : Touch (fun _ => False) w10 w12 := S11.trans t12
            refine hK.out _ _ S12 (fun hHeld => ?_)
            clear hK K
            refine wpAnyH_take (i := 22) (oi := ⟨some 68, _, _, _, _, _⟩) (v := .bool false) rfl (by kernel_rfl) (by kernel_rfl) (by kernel_rfl) (fun _ _ _ h => h) (Or.inl ⟨by rfl, fun w hw => by go_simp⟩) (by assumption) ?_
            simp only [Act.put, List.setIfInBounds_toArray, List.set_cons_zero, List.set_cons_succ]
            refine wpAnyH_take (i := 23) (oi := ⟨some 69, _, _, _, _, _⟩) (v := .bool false) rfl (by kernel_rfl) (by kernel_rfl) (by kernel_rfl) (fun _ _ _ h => h) (Or.inl ⟨by rfl, fun w hw => by go_simp⟩) (by assumption) ?_
            simp only [Act.put, List.setIfInBounds_toArray, List.set_cons_zero, List.set_cons_succ]
            refine wpAnyH_take (i := 24) (oi := ⟨some 70, _, _, _, _, _⟩) (v := .bool false) rfl (by kernel_rfl) (by kernel_rfl) (by kernel_rfl) (fun _ _ _ h => h) (Or.inl ⟨by rfl, fun w hw => by go_simp⟩) (by assumption) ?_
            simp only [Act.put, List.setIfInBounds_toArray, List.set_cons_zero, List.set_cons_succ]
            refine wpAnyH_take (i := 25) (oi := ⟨some 71, _, _, _, _, _⟩) (v := .slice ca cB.length cc) rfl (by kernel_rfl) (by kernel_rfl) (by kernel_rfl) (fun _ _ _ h => h) (Or.inl ⟨by rfl, fun w hw => by go_simp⟩) (by assumption) ?_
            simp only [Act.put, List.setIfInBounds_toArray, List.set_cons_zero, List.set_cons_succ]
            refine wpAnyH_take (i := 28) (oi := ⟨some 74, _, _, _, _, _⟩) (v := .pointer (some ⟨g3, 0, none⟩)) rfl (by kernel_rfl) (by kernel_rfl) (by kernel_rfl) (fun _ _ _ h => h) (Or.inl ⟨by rfl, fun w hw => by go_simp⟩) (by assumption) ?_
            simp only [Act.put, List.setIfInBounds_toArray, List.set_cons_zero, List.set_cons_succ]
            refine wpAnyH_take (i := 29) (oi := ⟨some 75, _, _, _, _, _⟩) (v := .int .u16 A.kind) rfl (by kernel_rfl) (by kernel_rfl) (by kernel_rfl) (fun _ _ _ h => h) (Or.inl ⟨by rfl, fun w hw => by have kk := K3.out w hw; go_simp⟩) (by assumption) ?_
            simp only [Act.put, List.setIfInBounds_toArray, List.set_cons_zero, List.set_cons_succ]
            refine wpAnyH_take (i := 30) (oi := ⟨some 76, _, _, _, _, _⟩) (v := .bool false) rfl (by kernel_rfl) (by kernel_rfl) (by kernel_rfl) (fun _ _ _ h => h) (Or.inl ⟨by rfl, fun w hw => by go_simp⟩) (by assumption) ?_
            simp only [Act.put, List.setIfInBounds_toArray, List.set_cons_zero, List.set_cons_succ]
            refine wpAnyH_ready (rs := [26]) (by kernel_rfl) (by simp) ?_
            refine AllReadyH.cons (o := ⟨some 72, _, _, _, _, _⟩) rfl (fun K hK => ?_) AllReadyH.nil
            go_simp
            refine Calls.mono (HCB.out w12 S12) ?_
            rintro e w13 ⟨u13, rfl, b13⟩
            have S13 : Touch (fun _ => False) w10 w13 := S12.trans b13.t
            have HRt := HRi.out u13 w13 b13.arg
            refine hK.out _ _ S13 (fun hHeld => ?_)
            clear hK K
            refine wpAnyH_ready (rs := [27]) (by kernel_rfl) (by simp) ?_
            refine AllReadyH.cons (o := ⟨some 73, _, _, _, _, _⟩) rfl (fun K hK => ?_) AllReadyH.nil
            go_simp
            refine Calls.mono HRt ?_
            rintro e w14 ⟨rfl, t14⟩
            have S14 : Touch (fun _ => False) w10 w14 := S13.trans t14
            refine hK.out _ _ S14 (fun hHeld => ?_)
            clear hK K
            refine wpAnyH_take (i := 31) (oi := ⟨some 77, _, _, _, _, _⟩) (v := .bool false) rfl (by kernel_rfl) (by kernel_rfl) (by kernel_rfl) (fun _ _ _ h => h) (Or.inl ⟨by rfl, fun w hw => by go_simp⟩) (by assumption) ?_
            simp only [Act.put, List.setIfInBounds_toArray, List.set_cons_zero, List.set_cons_succ]
            refine wpAnyH_take (i := 32) (oi := ⟨some 78, _, _, _, _, _⟩) (v := .bool false) rfl (by kernel_rfl) (by kernel_rfl) (by kernel_rfl) (fun _ _ _ h => h) (Or.inl ⟨by rfl, fun w hw => by go_simp⟩) (by assumption) ?_
            simp only [Act.put, List.setIfInBounds_toArray, List.set_cons_zero, List.set_cons_succ]
            refine wpAnyH_take (i := 33) (oi := ⟨some 79, _, _, _, _, _⟩) (v := undef) rfl (by kernel_rfl) (by kernel_rfl) (by kernel_rfl) (fun _ _ _ h => h) (Or.inr ⟨by rfl, rfl⟩) (by assumption) ?_
            simp only [Act.put, List.setIfInBounds_toArray, List.set_cons_zero, List.set_cons_succ]
            refine wpAnyH_take (i := 34) (oi := ⟨some 80, _, _, _, _, _⟩) (v := undef) rfl (by kernel_rfl) (by kernel_rfl) (by kernel_rfl) (fun _ _ _ h => h) (Or.inr ⟨by rfl, rfl⟩) (by assumption) ?_
            simp only [Act.put, List.setIfInBounds_toArray, List.set_cons_zero, List.set_cons_succ]
            refine wpAnyH_take (i := 35) (oi := ⟨some 81, _, _, _, _, _⟩) (v := undef) rfl (by kernel_rfl) (by kernel_rfl) (by kernel_rfl) (fun _ _ _ h => h) (Or.inr ⟨by rfl, rfl⟩) (by assumption) ?_
            simp only [Act.put, List.setIfInBounds_toArray, List.set_cons_zero, List.set_cons_succ]
            refine wpAnyH_take (i := 36) (oi := ⟨some 82, _, _, _, _, _⟩) (v := .bool false) rfl (by kernel_rfl) (by kernel_rfl) (by kernel_rfl) (fun _ _ _ h => h) (Or.inl ⟨by rfl, fun w hw => by go_simp⟩) (by assumption) ?_
            simp only [Act.put, List.setIfInBounds_toArray, List.set_cons_zero, List.set_cons_succ]
            refine wpAnyH_take (i := 37) (oi := ⟨some 83, _, _, _, _, _⟩) (v := .bool false) rfl (by kernel_rfl) (by kernel_rfl) (by kernel_rfl) (fun _ _ _ h => h) (Or.inl ⟨by rfl, fun w hw => by go_simp⟩) (by assumption) ?_
            simp only [Act.put, List.setIfInBounds_toArray, List.set_cons_zero, List.set_cons_succ]
            refine wpAnyH_done (by kernel_rfl) ?_ _
            go_wp2_with fail
            go_meet
            case rel => exact ⟨rfl, S14⟩
        case rest =>
          obtain ⟨rfl, HT⟩ := hcut
          have R7 := (RG7.out wc HT.out).range
          have R8 := (RG8.out wc HT.out).range
          have H10 := HEN.out _ _ _ _ _ wc (PWx.out wc HT.out)
          unfold PV.v AuV.v at H10
          go_wp2_with (first | refine wpList_load_mid rfl 33 (.tmp 7) rfl g7 0 rfl [.int .u8 C.P.typ, .int .u32 C.P.router, .int .u32 C.P.area, .int .u32 C.P.mask, .int .u16 C.P.iv, .int .u8 C.P.opts, .int .u8 C.P.prio, .int .u32 C.P.dead, .int .u32 C.P.dr, .int .u32 C.P.bdr, .slice xn C.nb.length yn, .int .u16 C.P.mtu, .int .u8 C.P.dopts, .int .u8 C.P.dflags, .int .u32 C.P.dseq, .slice xd C.dh.length yd, .slice xk C.ks.length yk, .slice xs C.ss.length ys, .slice xh C.hs.length yh] _ R7 Tryz.underlying33 rfl (by kernel_rfl) ?_ | refine wpList_load_mid rfl 44 (.tmp 8) rfl g8 0 rfl [.int .u16 A.kind, .int .u8 A.d0, .int .u8 A.d1, .int .u8 A.d2, .int .u8 A.d3, .int .u8 A.d4, .int .u8 A.d5, .int .u8 A.d6, .int .u8 A.d7] _ R8 Tryz.underlying44 rfl (by kernel_rfl) ?_)
          refine Calls.mono H10 ?_
          rintro e w15 ⟨v15, rfl, b15⟩
          obtain ⟨pa, pc, rfl⟩ := b15.form
          have HEb := eq_true _ _ cB w15 b15.row (ROx.out w15 (HT.out.trans b15.t)).2
          have T15 : Hid (Touch (fun _ => False) w w15) := (TW.out.trans HT.out).trans b15.t
          clear R7 R8 H10 b15
          go_wp2_with (first | (go_at_call 17; refine Calls.mono HEb ?_; rintro e w16 ⟨rfl, n16, rfl⟩) | (go_at_call 7; refine Calls.mono (plives _) ?_; rintro e w17 ⟨rfl, t17⟩))
          go_ret
          exact ⟨rfl, (T15.out.drewN n16).trans t17⟩
      · have hcb : cB = [] := by
          have := HcB.out
          unfold pencB at this
          rw [if_neg (by rw [HE.out]; exact hE)] at this
          exact this.symm
        subst hcb
        have hEb : (E != 0) = true := by simpa using hE
        have HTT : Hid (Touch (fun _ => False) w wc) := T1.out.trans HT.out
        have HL := plives wc
        clear HE HcB HRo HT HAu HQA RG2 RG3 PR1
        go_wp2_with (go_at_call 7; refine Calls.mono HL ?_; rintro e w17 ⟨rfl, t17⟩)
        go_ret
        exact ⟨rfl, HTT.out.trans t17⟩
end Go.Proofs.YtfhkocpnealblaaGreat
