/- Package packet: Encode, of an Ack or of no type. -/
import Derived.Test.YtbfplepmgbkajaaGreatDoorPkRp
import Derived.Deep.RegionHeld2
import Derived.Deep.DeepCutAuto
namespace Go.Proofs.YtbfplepmgbkajaaGreatDoor
open Go.RowKit
set_option linter.unusedVariables false
set_option maxRecDepth 100000

/-- The writer of an Ack. -/
theorem pwtype5 (b : Nat) (C : PkC) (ok : C.Ok) (lt : C.Lt) (vn vd vk vs vh : Value) (w0 : World) (hp : PkAt w0 C vn vd vk vs vh) (L : List Int) (hL : L.length ≤ 24) (h5 : C.P.typ = 5) : ∃ f : Nat,
  (∀ w, (Instr.index 139 (.agg #[.nilFunc, .func (.func 126) #[.agg #[.pointer (some ⟨b, 0, none⟩)]] #[], .func (.func 127) #[.agg #[.pointer (some ⟨b, 0, none⟩)]] #[], .func (.func 128) #[.agg #[.pointer (some ⟨b, 0, none⟩)]] #[], .func (.func 129) #[.agg #[.pointer (some ⟨b, 0, none⟩)]] #[], .func (.func 130) #[.agg #[.pointer (some ⟨b, 0, none⟩)]] #[]]) (.int .u8 C.P.typ)).run Tryz.prog w = .ok (.func (.func f) #[.agg #[.pointer (some ⟨b, 0, none⟩)]] #[]) w) ∧ (∀ args w, (callFunc f args).run Tryz.prog w = .ok (.enter f args) w) ∧
  ∀ (X : Nat → Prop) (w : World), Wr X w b L 65535 → Touch (fun _ => False) w0 w → (∀ i, i < w0.heap.size → X i) → Calls Tryz.prog f #[.agg #[.pointer (some ⟨b, 0, none⟩)], C.P.v vn vd vk vs vh] w fun e w' => PW X w b L (pbodyB C) e w' := by
 have hk : ∀ {X : Nat → Prop} {w w' : World}, Touch (fun _ => False) w0 w → (∀ i, i < w0.heap.size → X i) → Kept X w w' → PkAt w' C vn vd vk vs vh := fun t hX k => hp.keep (k.after t hX)
 refine ⟨130, fun w => pwparts_at b w _ _ (by omega), fun _ _ => rfl, fun X w hw t hX => ?_⟩
 have := pwack_any X b L C.P ok.P vn vd vk vs vh w hw (by omega) C.hs (fun w' k => (hk t hX k).h) ok.hs
 unfold pbodyB
 rw [if_neg (by omega), if_neg (by omega), if_neg (by omega), if_neg (by omega)]
 exact this
set_option maxHeartbeats 4000000 in
theorem pwrite5 (C : PkC) (ok : C.Ok) (lt : C.Lt) (A : AuV) (oa : A.Ok) (vn vd vk vs vh : Value) (w : World) (hp : PkAt w C vn vd vk vs vh) (h5 : C.P.typ = 5 ∨ ¬ (1 ≤ C.P.typ ∧ C.P.typ ≤ 5)) :
  Calls Tryz.prog 35 #[C.P.v vn vd vk vs vh, A.v] w (PEnd C A w) := by
 obtain ⟨na, nc, da, dc, ka, kc, sa, sc, ha, hc, rfl, rfl, rfl, rfl, rfl⟩ := hp.forms
 obtain ⟨wa, hwa⟩ : ∃ wa, wa = (w.alloc (.cells #[.int .u8 C.P.typ, .int .u32 C.P.router, .int .u32 C.P.area, .int .u32 C.P.mask, .int .u16 C.P.iv, .int .u8 C.P.opts, .int .u8 C.P.prio, .int .u32 C.P.dead, .int .u32 C.P.dr, .int .u32 C.P.bdr, .slice na C.nb.length nc, .int .u16 C.P.mtu, .int .u8 C.P.dopts, .int .u8 C.P.dflags, .int .u32 C.P.dseq, .slice da C.dh.length dc, .slice ka C.ks.length kc, .slice sa C.ss.length sc, .slice ha C.hs.length hc] 33)).alloc (.cells #[.int .u16 A.kind, .int .u8 A.d0, .int .u8 A.d1, .int .u8 A.d2, .int .u8 A.d3, .int .u8 A.d4, .int .u8 A.d5, .int .u8 A.d6, .int .u8 A.d7] 44) := ⟨_, rfl⟩
 have ta : Touch (fun _ => False) w wa := by rw [hwa]; exact ((Touch.refl _ w).alloc _).alloc _
 have za : wa.heap.size = w.heap.size + 2 := by rw [hwa]; simp
 have pa : Pd wa w.heap.size C.P (.slice na C.nb.length nc) (.slice da C.dh.length dc) (.slice ka C.ks.length kc) (.slice sa C.ss.length sc) (.slice ha C.hs.length hc) := by rw [hwa]; exact (Pd.new w C.P (.slice na C.nb.length nc) (.slice da C.dh.length dc) (.slice ka C.ks.length kc) (.slice sa C.ss.length sc) (.slice ha C.hs.length hc) _).keep ((Touch.refl _ _).alloc _)
 have aa : Ad wa (w.heap.size + 1) A := by
  have := Ad.new (w.alloc (.cells #[.int .u8 C.P.typ, .int .u32 C.P.router, .int .u32 C.P.area, .int .u32 C.P.mask, .int .u16 C.P.iv, .int .u8 C.P.opts, .int .u8 C.P.prio, .int .u32 C.P.dead, .int .u32 C.P.dr, .int .u32 C.P.bdr, .slice na C.nb.length nc, .int .u16 C.P.mtu, .int .u8 C.P.dopts, .int .u8 C.P.dflags, .int .u32 C.P.dseq, .slice da C.dh.length dc, .slice ka C.ks.length kc, .slice sa C.ss.length sc, .slice ha C.hs.length hc] 33)) A 44
  rw [← hwa] at this
  simpa using this
 have TA : Hid (Touch (fun _ => False) w wa) := ta
 have ZA : Hid (wa.heap.size = w.heap.size + 2) := za
 have PA : Hid (∀ w', Touch (fun _ => False) wa w' → Pd w' w.heap.size C.P (.slice na C.nb.length nc) (.slice da C.dh.length dc) (.slice ka C.ks.length kc) (.slice sa C.ss.length sc) (.slice ha C.hs.length hc)) := fun w' t => pa.keep t
 have AA : Hid (∀ w', Touch (fun _ => False) wa w' → Ad w' (w.heap.size + 1) A) := fun w' t => aa.keep t
 have HPK : Hid (PkAt w C (.slice na C.nb.length nc) (.slice da C.dh.length dc) (.slice ka C.ks.length kc) (.slice sa C.ss.length sc) (.slice ha C.hs.length hc)) := hp
 have OK : Hid C.Ok := ok
 have OA : Hid A.Ok := oa
 have LT : Hid C.Lt := lt
 have c0 := pa.c0
 have HTY := fun w => pisType_any C.P.typ w ok.P.typ.1
 have H5 : Hid (C.P.typ = 5 ∨ ¬ (1 ≤ C.P.typ ∧ C.P.typ ≤ 5)) := h5
 clear ta za pa aa hp ok oa lt h5
 show Calls Tryz.prog 35 #[.agg #[.int .u8 C.P.typ, .int .u32 C.P.router, .int .u32 C.P.area, .int .u32 C.P.mask, .int .u16 C.P.iv, .int .u8 C.P.opts, .int .u8 C.P.prio, .int .u32 C.P.dead, .int .u32 C.P.dr, .int .u32 C.P.bdr, .slice na C.nb.length nc, .int .u16 C.P.mtu, .int .u8 C.P.dopts, .int .u8 C.P.dflags, .int .u32 C.P.dseq, .slice da C.dh.length dc, .slice ka C.ks.length kc, .slice sa C.ss.length sc, .slice ha C.hs.length hc], .agg #[.int .u16 A.kind, .int .u8 A.d0, .int .u8 A.d1, .int .u8 A.d2, .int .u8 A.d3, .int .u8 A.d4, .int .u8 A.d5, .int .u8 A.d6, .int .u8 A.d7]] w _
 go_enter Tryz.func35, Tryz.ntmps35
 go_upto_region 1 with fail
 rw [← hwa]
 clear hwa
 generalize hg2 : w.heap.size + 1 = g2 at *
 generalize hg1 : w.heap.size = g1 at *
 have G1 : Hid (w.heap.size = g1) := hg1
 have G2 : Hid (g1 + 1 = g2) := hg2
 clear hg1 hg2
 go_wp2_with fail
 refine Calls.mono (HTY _) ?_
 rintro e w1 ⟨rfl, rfl⟩
 by_cases ht : 1 ≤ C.P.typ ∧ C.P.typ ≤ 5
 rotate_left
 ·rw [decide_eq_false ht]
  have E : Hid (pencE C A = 21) := pencE_21 ht
  clear ht
  go_wp2_with fail
  refine Calls.mono (pneed_no 21 _) ?_
  rintro e w2 ⟨rfl, rfl⟩
  exact ⟨rfl, pend_bad E.out (by decide) TA.out⟩
 rw [decide_eq_true ht]
 have HT : Hid (1 ≤ C.P.typ ∧ C.P.typ ≤ 5) := ht
 clear ht HTY
 go_wp2_with fail
 refine Calls.mono (pneed_ok 21 _) ?_
 rintro e w2 ⟨rfl, rfl⟩
 go_wp2_with (refine wpList_load_mid rfl 33 (.tmp 2) rfl g1 0 rfl [.int .u8 C.P.typ, .int .u32 C.P.router, .int .u32 C.P.area, .int .u32 C.P.mask, .int .u16 C.P.iv, .int .u8 C.P.opts, .int .u8 C.P.prio, .int .u32 C.P.dead, .int .u32 C.P.dr, .int .u32 C.P.bdr, .slice na C.nb.length nc, .int .u16 C.P.mtu, .int .u8 C.P.dopts, .int .u8 C.P.dflags, .int .u32 C.P.dseq, .slice da C.dh.length dc, .slice ka C.ks.length kc, .slice sa C.ss.length sc, .slice ha C.hs.length hc] _ (PA.out _ (Touch.refl _ _)).range Tryz.underlying33 rfl (by kernel_rfl) ?_)
 refine Calls.mono (isPure_any C.P OK.out.P na da ka sa ha C.nb.length nc C.dh.length dc C.ks.length kc C.ss.length sc C.hs.length hc _) ?_
 rintro e w2 ⟨rfl, t2⟩
 by_cases hpu : PAlone C
 rotate_left
 ·rw [Bool.eq_false_iff.2 (fun h => hpu ((pure_alone C).1 h))]
  have E : Hid (pencE C A = 24) := pencE_24 HT.out hpu
  clear hpu
  go_wp2_with fail
  refine Calls.mono (pneed_no 24 _) ?_
  rintro e w3 ⟨rfl, rfl⟩
  exact ⟨rfl, pend_bad E.out (by decide) (TA.out.trans t2)⟩
 rw [(pure_alone C).2 hpu]
 have HPU : Hid (PAlone C) := hpu
 have T2 : Hid (Touch (fun _ => False) wa w2) := t2
 have c17 := (PA.out _ t2).c17
 clear hpu t2 c0
 go_wp2_with fail
 refine Calls.mono (pneed_ok 24 _) ?_
 rintro e w3 ⟨rfl, rfl⟩
 obtain ⟨l, hl, hsa⟩ := HPK.out.s
 have HM := mcont_any (.slice sa C.ss.length sc) l w2 (hsa.keep (TA.out.trans T2.out)) (by have := LT.out.n; rw [← hl, List.length_map] at this; exact this) (fun x hx => LT.out.b x.p (by rw [← hl]; exact List.mem_map_of_mem hx))
 rw [any_meas C l hl] at HM
 clear hsa hl
 go_wp2_with fail
 refine Calls.mono HM ?_
 rintro e w3 ⟨rfl, t3⟩
 cases hme : pmeas C
 ·have E : Hid (pencE C A = 22) := pencE_22 HT.out HPU.out hme
  clear hme HM
  go_wp2_with fail
  refine Calls.mono (pneed_no 22 _) ?_
  rintro e w4 ⟨rfl, rfl⟩
  exact ⟨rfl, pend_bad E.out (by decide) ((TA.out.trans T2.out).trans t3)⟩
 have HME : Hid (pmeas C = true) := hme
 have T3 : Hid (Touch (fun _ => False) wa w3) := T2.out.trans t3
 have a0 := (AA.out _ T3.out).c0
 clear hme HM t3 T2 c17
 go_wp2_with fail
 refine Calls.mono (pneed_ok 22 _) ?_
 rintro e w4 ⟨rfl, rfl⟩
 by_cases hk : A.kind ≤ 2
 rotate_left
 ·have hkd : decide (A.kind ≤ 2) = false := decide_eq_false hk
  have E : Hid (pencE C A = 25) := pencE_25 HT.out HPU.out HME.out (by omega)
  clear hk
  go_wp2_with fail
  refine Calls.mono (pneed_no 25 _) ?_
  rintro e w4 ⟨rfl, rfl⟩
  exact ⟨rfl, pend_bad E.out (by decide) (TA.out.trans T3.out)⟩
 have hkd : decide (A.kind ≤ 2) = true := decide_eq_true hk
 have HK : Hid (A.kind ≤ 2) := hk
 clear hk
 go_wp2_with fail
 refine Calls.mono (pneed_ok 25 _) ?_
 rintro e w4 ⟨rfl, rfl⟩
 clear a0 hkd
 go_wp2_with fail
 refine Calls.mono (write_w 65535 _ (by omega)) ?_
 rintro e w4 ⟨rfl, W4, t4⟩
 have hb3 : w3.heap.size < w4.heap.size := W4.lt
 obtain ⟨w5, hw5⟩ : ∃ w5, w5 = w4.alloc (.cells #[.pointer (some ⟨w3.heap.size, 0, none⟩)] 137) := ⟨_, rfl⟩
 have t5 : Touch (fun _ => False) w4 w5 := by rw [hw5]; exact (Touch.refl _ _).alloc _
 have z5 : w5.heap.size = w4.heap.size + 1 := by rw [hw5]; simp
 have k5 : w5.cell? ⟨w4.heap.size, 0, none⟩ = some (.pointer (some ⟨w3.heap.size, 0, none⟩)) := by rw [hw5]; simp [go_sem]
 obtain ⟨X, hX⟩ : ∃ X : Nat → Prop, X = fun k => k < w3.heap.size ∨ k = w4.heap.size := ⟨_, rfl⟩
 have W5 : Wr X w5 w3.heap.size [] 65535 := W4.more t5 (fun k hk => by subst hX; rcases hk with hk | hk; exact Or.inl hk; exact Or.inr (by omega))
 have T5 : Hid (Touch (fun _ => False) wa w5) := (T3.out.trans t4).trans t5
 have X3 : Hid (∀ k, k < w3.heap.size → X k) := by subst hX; exact fun k hk => Or.inl hk
 have X4 : Hid (X w4.heap.size) := by subst hX; exact Or.inr rfl
 have P5 := (PA.out _ T5.out).range
 have A5 := (AA.out _ T5.out).range
 have XW : Hid (∀ i, i < wa.heap.size → X i) := fun i hi => X3.out i (Nat.lt_of_lt_of_le hi T3.out.size)
 have HH := pwhead_any X w3.heap.size C.P OK.out.P (.slice na C.nb.length nc) (.slice da C.dh.length dc) (.slice ka C.ks.length kc) (.slice sa C.ss.length sc) (.slice ha C.hs.length hc) A OA.out w5 W5
 clear t5 z5 W4 t4 hX
 go_upto_region 6 with fail
 first | rw [← hw5] | (rw [hw5])
 clear hw5
 generalize w3.heap.size = b at *
 generalize w4.heap.size = g5 at *
 go_wp2_with (first | refine wpList_load_mid rfl 33 (.tmp 2) rfl g1 0 rfl [.int .u8 C.P.typ, .int .u32 C.P.router, .int .u32 C.P.area, .int .u32 C.P.mask, .int .u16 C.P.iv, .int .u8 C.P.opts, .int .u8 C.P.prio, .int .u32 C.P.dead, .int .u32 C.P.dr, .int .u32 C.P.bdr, .slice na C.nb.length nc, .int .u16 C.P.mtu, .int .u8 C.P.dopts, .int .u8 C.P.dflags, .int .u32 C.P.dseq, .slice da C.dh.length dc, .slice ka C.ks.length kc, .slice sa C.ss.length sc, .slice ha C.hs.length hc] _ P5 Tryz.underlying33 rfl (by kernel_rfl) ?_ | refine wpList_load_mid rfl 44 (.tmp 3) rfl g2 0 rfl [.int .u16 A.kind, .int .u8 A.d0, .int .u8 A.d1, .int .u8 A.d2, .int .u8 A.d3, .int .u8 A.d4, .int .u8 A.d5, .int .u8 A.d6, .int .u8 A.d7] _ A5 Tryz.underlying44 rfl (by kernel_rfl) ?_)
 refine Calls.mono HH ?_
 rintro e w6 ⟨rfl, W6, k6⟩
 clear HH P5 A5 W5
 have xg1 : X g1 := XW.out g1 (by have := ZA.out; have := G1.out; omega)
 have xg2 : X g2 := XW.out g2 (by have := ZA.out; have := G1.out; have := G2.out; omega)
 have pw5 := PA.out _ T5.out
 have aw5 := AA.out _ T5.out
 have q0 := hold_cell k5 X4.out
 have p0 := hold_cell pw5.c0 xg1
 have RG : Hid (∀ w', Hold X w5 w' → w'.rangeAt g1 0 [.int .u8 C.P.typ, .int .u32 C.P.router, .int .u32 C.P.area, .int .u32 C.P.mask, .int .u16 C.P.iv, .int .u8 C.P.opts, .int .u8 C.P.prio, .int .u32 C.P.dead, .int .u32 C.P.dr, .int .u32 C.P.bdr, .slice na C.nb.length nc, .int .u16 C.P.mtu, .int .u8 C.P.dopts, .int .u8 C.P.dflags, .int .u32 C.P.dseq, .slice da C.dh.length dc, .slice ka C.ks.length kc, .slice sa C.ss.length sc, .slice ha C.hs.length hc]) := fun w' h => (⟨hold_cell pw5.c0 xg1 w' h, hold_cell pw5.c1 xg1 w' h, hold_cell pw5.c2 xg1 w' h, hold_cell pw5.c3 xg1 w' h, hold_cell pw5.c4 xg1 w' h, hold_cell pw5.c5 xg1 w' h, hold_cell pw5.c6 xg1 w' h, hold_cell pw5.c7 xg1 w' h, hold_cell pw5.c8 xg1 w' h, hold_cell pw5.c9 xg1 w' h, hold_cell pw5.c10 xg1 w' h, hold_cell pw5.c11 xg1 w' h, hold_cell pw5.c12 xg1 w' h, hold_cell pw5.c13 xg1 w' h, hold_cell pw5.c14 xg1 w' h, hold_cell pw5.c15 xg1 w' h, hold_cell pw5.c16 xg1 w' h, hold_cell pw5.c17 xg1 w' h, hold_cell pw5.c18 xg1 w' h⟩ : Pd w' g1 C.P (.slice na C.nb.length nc) (.slice da C.dh.length dc) (.slice ka C.ks.length kc) (.slice sa C.ss.length sc) (.slice ha C.hs.length hc)).range
 have a0 := hold_cell aw5.c0 xg2
 have X0 : Hid (∀ i, i < w.heap.size → X i) := fun i hi => XW.out i (Nat.lt_of_lt_of_le hi TA.out.size)
 have T6 : Hid (Touch (fun _ => False) w w6.drew) := (k6.after (TA.out.trans T5.out) X0.out).drew
 have S6 : Hold X w5 w6.drew := Hold.step ⟨k6⟩ ((Touch.refl _ _).drew)
 have W6d : Hid (Wr X w6.drew b (pheadB C.P A) 65535) := W6.keep ((Touch.refl _ _).drew)
 obtain ⟨f, hix, hcf, HF⟩ := pwtype5 b C OK.out LT.out (.slice na C.nb.length nc) (.slice da C.dh.length dc) (.slice ka C.ks.length kc) (.slice sa C.ss.length sc) (.slice ha C.hs.length hc) w HPK.out (pheadB C.P A) (by rw [length_pheadB]; omega) (H5.out.resolve_right (fun h => h HT.out))
 have HFn : Hid (∀ (X : Nat → Prop) (w' : World), Wr X w' b (pheadB C.P A) 65535 → Touch (fun _ => False) w w' → (∀ i, i < w.heap.size → X i) → Calls Tryz.prog f #[.agg #[.pointer (some ⟨b, 0, none⟩)], .agg #[.int .u8 C.P.typ, .int .u32 C.P.router, .int .u32 C.P.area, .int .u32 C.P.mask, .int .u16 C.P.iv, .int .u8 C.P.opts, .int .u8 C.P.prio, .int .u32 C.P.dead, .int .u32 C.P.dr, .int .u32 C.P.bdr, .slice na C.nb.length nc, .int .u16 C.P.mtu, .int .u8 C.P.dopts, .int .u8 C.P.dflags, .int .u32 C.P.dseq, .slice da C.dh.length dc, .slice ka C.ks.length kc, .slice sa C.ss.length sc, .slice ha C.hs.length hc]] w' fun e w'' => PW X w' b (pheadB C.P A) (pbodyB C) e w'') := HF
 have E11 : Hid (65535 < 24 + (pbodyB C).length → pencE C A = 11) := fun h => pencE_11 HT.out HPU.out HME.out (by have := HK.out; omega) h
 clear HF k6 W6 pw5 aw5 k5 xg1 xg2 hb3
 generalize Value.agg #[.int .u8 C.P.typ, .int .u32 C.P.router, .int .u32 C.P.area, .int .u32 C.P.mask, .int .u16 C.P.iv, .int .u8 C.P.opts, .int .u8 C.P.prio, .int .u32 C.P.dead, .int .u32 C.P.dr, .int .u32 C.P.bdr, .slice na C.nb.length nc, .int .u16 C.P.mtu, .int .u8 C.P.dopts, .int .u8 C.P.dflags, .int .u32 C.P.dseq, .slice da C.dh.length dc, .slice ka C.ks.length kc, .slice sa C.ss.length sc, .slice ha C.hs.length hc] = ag1
 generalize Value.agg #[.int .u16 A.kind, .int .u8 A.d0, .int .u8 A.d1, .int .u8 A.d2, .int .u8 A.d3, .int .u8 A.d4, .int .u8 A.d5, .int .u8 A.d6, .int .u8 A.d7] = ag2
 as_aux_lemma =>
  go_upto_region 7 with fail
  refine wp_region_held_drew (S := fun w' => Hold X w5 w') (by kernel_rfl) S6 (fun hHeld => ?_)
  refine wpAnyH_take (i := 0) (oi := ⟨some 28, _, _, _, _, _⟩) (v := .agg #[.pointer (some ⟨b, 0, none⟩)]) rfl (by kernel_rfl) (by kernel_rfl) (by kernel_rfl) (fun _ _ _ h => h) (Or.inl ⟨by rfl, fun w hw => by go_simp⟩) (by assumption) ?_
  simp only [Act.put, List.setIfInBounds_toArray, List.set_cons_zero, List.set_cons_succ]
  refine wpAnyH_take (i := 2) (oi := ⟨some 30, _, _, _, _, _⟩) (v := .pointer (some ⟨g1, 0, none⟩)) rfl (by kernel_rfl) (by kernel_rfl) (by kernel_rfl) (fun _ _ _ h => h) (Or.inl ⟨by rfl, fun w hw => by go_simp⟩) (by assumption) ?_
  simp only [Act.put, List.setIfInBounds_toArray, List.set_cons_zero, List.set_cons_succ]
  refine wpAnyH_take (i := 3) (oi := ⟨some 31, _, _, _, _, _⟩) (v := .int .u8 C.P.typ) rfl (by kernel_rfl) (by kernel_rfl) (by kernel_rfl) (fun _ _ _ h => h) (Or.inl ⟨by rfl, fun w hw => by go_simp⟩) (by assumption) ?_
  simp only [Act.put, List.setIfInBounds_toArray, List.set_cons_zero, List.set_cons_succ]
  refine wpAnyH_take (i := 5) (oi := ⟨some 33, _, _, _, _, _⟩) (v := .agg #[.int .u8 C.P.typ, .int .u32 C.P.router, .int .u32 C.P.area, .int .u32 C.P.mask, .int .u16 C.P.iv, .int .u8 C.P.opts, .int .u8 C.P.prio, .int .u32 C.P.dead, .int .u32 C.P.dr, .int .u32 C.P.bdr, .slice na C.nb.length nc, .int .u16 C.P.mtu, .int .u8 C.P.dopts, .int .u8 C.P.dflags, .int .u32 C.P.dseq, .slice da C.dh.length dc, .slice ka C.ks.length kc, .slice sa C.ss.length sc, .slice ha C.hs.length hc]) rfl (by kernel_rfl) (by kernel_rfl) (by kernel_rfl) (fun _ _ _ h => h) (yieldsIf_load_mid (by rfl) _ _ rfl _ _ rfl [.int .u8 C.P.typ, .int .u32 C.P.router, .int .u32 C.P.area, .int .u32 C.P.mask, .int .u16 C.P.iv, .int .u8 C.P.opts, .int .u8 C.P.prio, .int .u32 C.P.dead, .int .u32 C.P.dr, .int .u32 C.P.bdr, .slice na C.nb.length nc, .int .u16 C.P.mtu, .int .u8 C.P.dopts, .int .u8 C.P.dflags, .int .u32 C.P.dseq, .slice da C.dh.length dc, .slice ka C.ks.length kc, .slice sa C.ss.length sc, .slice ha C.hs.length hc] _ (fun w h => RG.out w h) Tryz.underlying33 rfl (by kernel_rfl)) (by assumption) ?_
  simp only [Act.put, List.setIfInBounds_toArray, List.set_cons_zero, List.set_cons_succ]
  refine wpAnyH_ready (rs := [1]) (by kernel_rfl) (by simp) ?_
  refine AllReadyH.cons rfl (fun K hK => ?_) AllReadyH.nil
  go_simp
  go_wp2_with (go_at_call 97; refine Calls.mono (pwparts_any b _) ?_; rintro e w7 ⟨rfl, t7⟩; have S7 := S6.step t7; have W7 : Hid (Wr X w7 b (pheadB C.P A) 65535) := W6d.out.keep t7; have T7 : Hid (Touch (fun _ => False) w w7) := T6.out.trans t7)
  refine hK.out _ _ S7 (fun hHeld => ?_)
  clear hK K
  refine wpAnyH_take (i := 4) (oi := ⟨some 32, _, _, _, _, _⟩) (v := .func (.func f) #[.agg #[.pointer (some ⟨b, 0, none⟩)]] #[]) rfl (by kernel_rfl) (by kernel_rfl) (by kernel_rfl) (fun _ _ _ h => h) (Or.inl ⟨by rfl, fun w hw => by go_simp⟩) (by assumption) ?_
  simp only [Act.put, List.setIfInBounds_toArray, List.set_cons_zero, List.set_cons_succ]
  refine wpAnyH_ready (rs := [6]) (by kernel_rfl) (by simp) ?_
  refine AllReadyH.cons rfl (fun K hK => ?_) AllReadyH.nil
  go_simp
  go_wp2_with fail
  refine Calls.mono (HFn.out X w7 W7.out T7.out X0.out) ?_
  intro e w8 h8
  rcases h8.out with ⟨rfl, l8, r8, k8⟩ | ⟨rfl, l8, k8⟩
  rotate_left
  ·exact ⟨rfl, pend_bad (E11.out (by rw [length_pheadB] at l8; exact l8)) (by decide) (k8.after T7.out X0.out)⟩
  have S8 : Hold X w5 w8 := ⟨S7.k.trans k8⟩
  refine hK.out _ _ S8 (fun hHeld => ?_)
  clear hK K
  refine wpAnyH_done (by kernel_rfl) ?_ _
  have T8 : Hid (Touch (fun _ => False) w w8) := k8.after T7.out X0.out
  have L8 : Hid (24 + (pbodyB C).length ≤ 65535) := by rw [length_pheadB] at l8; exact l8
  have HSE := sealed_any X b (pheadB C.P A ++ pbodyB C) A.kind w8 r8 (by rw [List.length_append, length_pheadB]; omega) (by rw [List.length_append, length_pheadB]; exact L8.out) (app_bt (phead_bt C.P OK.out.P A OA.out) (pbody_bt C OK.out))
  have e0 := q0 _ S8
  have e1 := a0 _ S8
  clear h8 l8 r8 k8 S8 S7 S6 t7 q0 a0 hix hcf p0
  go_wp2_with fail
  refine Calls.mono HSE ?_
  rintro e w9 ⟨v9, w10, rfl, k9, b9⟩
  have FIN : Hid (PEnd C A w (.returned v9) w9) := pend_good ⟨HT.out, HPU.out, HME.out, HK.out, L8.out⟩ (b9.back (k9.after T8.out X0.out))
  clear HSE k9 b9
  go_wp2
  go_ret
  exact FIN.out
set_option maxHeartbeats 2000000 in
theorem penc1_5 (g1 g2 g3 : Nat) (C : PkC) (ok : C.Ok) (lt : C.Lt) (A : AuV) (oa : A.Ok) (vn vd vk vs vh u : Value) (w : World) (hp : PkAt w C vn vd vk vs vh) (h5 : C.P.typ = 5 ∨ ¬ (1 ≤ C.P.typ ∧ C.P.typ ≤ 5)) (pa : Pd w g1 C.P vn vd vk vs vh) (aa : Ad w g2 A)
  (c3 : w.cell? ⟨g3, 0, none⟩ = some (.slice none 0 0)) (f3 : w.frozen? ⟨g3, 0, none⟩ = false) :
  Calls Tryz.prog 34 #[.pointer (some ⟨g1, 0, none⟩), .pointer (some ⟨g2, 0, none⟩), .pointer (some ⟨g3, 0, none⟩)] w fun e w' =>
   (pencE C A = 0 ∧ e = .returned (.tuple #[]) ∧ Touch (fun k => k = g3) w w' ∧ ∃ v, w'.cell? ⟨g3, 0, none⟩ = some v ∧ w'.frozen? ⟨g3, 0, none⟩ = false ∧ w'.ownsRow w.heap.size 5 1 v (pencB C A).length (bytesOf (pencB C A))) ∨
   (pencE C A ≠ 0 ∧ e = .panicked (pflawC (pencE C A)) ∧ Touch (fun k => k = g3) w w' ∧ w'.cell? ⟨g3, 0, none⟩ = some (.slice none 0 0) ∧ w'.frozen? ⟨g3, 0, none⟩ = false) := by
 have HW := pwrite5 C ok lt A oa vn vd vk vs vh w hp h5
 have hg3 := lt_of_cell c3
 obtain ⟨na, nc, da, dc, ka, kc, sa, sc, ha, hc, rfl, rfl, rfl, rfl, rfl⟩ := hp.forms
 have P5 := pa.range
 have A5 := aa.range
 have C3 : Hid (w.cell? ⟨g3, 0, none⟩ = some (.slice none 0 0)) := c3
 have F3 : Hid (w.frozen? ⟨g3, 0, none⟩ = false) := f3
 clear ok lt oa hp pa aa c3 f3 h5
 go_enter Tryz.func34, Tryz.ntmps34
 go_wp2_with (first | refine wpList_load_mid rfl 33 (.tmp 0) rfl g1 0 rfl [.int .u8 C.P.typ, .int .u32 C.P.router, .int .u32 C.P.area, .int .u32 C.P.mask, .int .u16 C.P.iv, .int .u8 C.P.opts, .int .u8 C.P.prio, .int .u32 C.P.dead, .int .u32 C.P.dr, .int .u32 C.P.bdr, .slice na C.nb.length nc, .int .u16 C.P.mtu, .int .u8 C.P.dopts, .int .u8 C.P.dflags, .int .u32 C.P.dseq, .slice da C.dh.length dc, .slice ka C.ks.length kc, .slice sa C.ss.length sc, .slice ha C.hs.length hc] _ P5 Tryz.underlying33 rfl (by kernel_rfl) ?_ | refine wpList_load_mid rfl 44 (.tmp 1) rfl g2 0 rfl [.int .u16 A.kind, .int .u8 A.d0, .int .u8 A.d1, .int .u8 A.d2, .int .u8 A.d3, .int .u8 A.d4, .int .u8 A.d5, .int .u8 A.d6, .int .u8 A.d7] _ A5 Tryz.underlying44 rfl (by kernel_rfl) ?_)
 refine Calls.mono HW ?_
 intro e w1 h1
 rcases h1.out with ⟨hE, v, rfl, b1⟩ | ⟨hE, rfl, t1⟩
 ·obtain ⟨va, vc, rfl⟩ := b1.form
  have d3 : w1.cell? ⟨g3, 0, none⟩ = some (.slice none 0 0) := b1.t.cellN C3.out
  have e3 : w1.frozen? ⟨g3, 0, none⟩ = false := (b1.t.frozen (p := ⟨g3, 0, none⟩) hg3 (fun h => h)).trans F3.out
  have B1 : Hid (Buf w w1 (.slice va (pencB C A).length vc) (pencB C A)) := b1
  have HE : Hid (pencE C A = 0) := hE
  have hz : (w1.setCell ⟨g3, 0, none⟩ (.slice va (pencB C A).length vc)).cell? ⟨g3, 0, none⟩ = some (.slice va (pencB C A).length vc) := by simp [d3, go_sem]
  have hfz : (w1.setCell ⟨g3, 0, none⟩ (.slice va (pencB C A).length vc)).frozen? ⟨g3, 0, none⟩ = false := by simp [e3, go_sem]
  have U : Hid (Touch (fun k => k = g3) w1 (w1.setCell ⟨g3, 0, none⟩ (.slice va (pencB C A).length vc))) := Touch.setCell (F := fun k => k = g3) (p := ⟨g3, 0, none⟩) (Touch.refl _ _) (Or.inl rfl) _
  have HZ : Hid ((w1.setCell ⟨g3, 0, none⟩ (.slice va (pencB C A).length vc)).cell? ⟨g3, 0, none⟩ = some (.slice va (pencB C A).length vc) ∧ (w1.setCell ⟨g3, 0, none⟩ (.slice va (pencB C A).length vc)).frozen? ⟨g3, 0, none⟩ = false) := ⟨hz, hfz⟩
  clear HW h1 P5 A5 b1 hE hz hfz
  go_wp2_with fail
  go_end0
  exact Or.inl ⟨HE.out, rfl, (B1.out.t.mono (fun _ _ h => h.elim)).trans U.out, _, HZ.out.1, HZ.out.2, own_touch B1.out.own U.out (fun k hk e => by have := (B1.out.own.lt k hk).1; omega)⟩
 ·exact ⟨rfl, Or.inr ⟨hE, rfl, t1.mono (fun _ _ h => h.elim), t1.cellN C3.out, (t1.frozen (p := ⟨g3, 0, none⟩) hg3 (fun h => h)).trans F3.out⟩⟩
/-- A packet that was handed over: its box, its rows. -/
theorem Calls.left5 {P : Program} {f : FuncId} {args : Array Value} {w : World} {R1 R2 : Prop} {Q1 Q2 : Ending → World → Prop} (h : Calls P f args w fun e w' => (R1 ∧ Q1 e w') ∨ (R2 ∧ Q2 e w')) (h2 : ¬ R2) : Calls P f args w Q1 :=
 h.mono (fun e w' g => by rcases g with g | g; exact g.2; exact (h2 g.1).elim)
theorem Calls.right5 {P : Program} {f : FuncId} {args : Array Value} {w : World} {R1 R2 : Prop} {Q1 Q2 : Ending → World → Prop} (h : Calls P f args w fun e w' => (R1 ∧ Q1 e w') ∨ (R2 ∧ Q2 e w')) (h1 : ¬ R1) : Calls P f args w Q2 :=
 h.mono (fun e w' g => by rcases g with g | g; exact (h1 g.1).elim; exact g.2)

set_option maxHeartbeats 2000000 in
theorem penc5 (C : PkC) (ok : C.Ok) (lt : C.Lt) (A : AuV) (oa : A.Ok) (vn vd vk vs vh : Value) (w : World) (hp : PkAt w C vn vd vk vs vh) (h5 : C.P.typ = 5 ∨ ¬ (1 ≤ C.P.typ ∧ C.P.typ ≤ 5)) :
  Calls Tryz.prog 8 #[C.P.v vn vd vk vs vh, A.v] w fun e w' => ∃ v, e = .returned (.tuple #[v, .int .i64 (pencE C A)]) ∧ Buf w w' v (pencB C A) := by
 obtain ⟨na, nc, da, dc, ka, kc, sa, sc, ha, hc, rfl, rfl, rfl, rfl, rfl⟩ := hp.forms
 have hmf : ∀ (fn : Fn) (first cap : Array Value) (w : World), (Instr.makeFunc fn first cap).run Tryz.prog w = .ok (.func fn first cap) w := fun _ _ _ _ => rfl
 obtain ⟨wa, hwa⟩ : ∃ wa, wa = ((w.alloc (.cells #[.int .u8 C.P.typ, .int .u32 C.P.router, .int .u32 C.P.area, .int .u32 C.P.mask, .int .u16 C.P.iv, .int .u8 C.P.opts, .int .u8 C.P.prio, .int .u32 C.P.dead, .int .u32 C.P.dr, .int .u32 C.P.bdr, .slice na C.nb.length nc, .int .u16 C.P.mtu, .int .u8 C.P.dopts, .int .u8 C.P.dflags, .int .u32 C.P.dseq, .slice da C.dh.length dc, .slice ka C.ks.length kc, .slice sa C.ss.length sc, .slice ha C.hs.length hc] 33)).alloc (.cells #[.int .u16 A.kind, .int .u8 A.d0, .int .u8 A.d1, .int .u8 A.d2, .int .u8 A.d3, .int .u8 A.d4, .int .u8 A.d5, .int .u8 A.d6, .int .u8 A.d7] 44)).alloc (.cells #[.slice none 0 0] 40) := ⟨_, rfl⟩
 have ta : Touch (fun _ => False) w wa := by rw [hwa]; exact (((Touch.refl _ w).alloc _).alloc _).alloc _
 have za : wa.heap.size = w.heap.size + 3 := by rw [hwa]; simp
 have pa : Pd wa w.heap.size C.P (.slice na C.nb.length nc) (.slice da C.dh.length dc) (.slice ka C.ks.length kc) (.slice sa C.ss.length sc) (.slice ha C.hs.length hc) := by rw [hwa]; exact ((Pd.new w C.P (.slice na C.nb.length nc) (.slice da C.dh.length dc) (.slice ka C.ks.length kc) (.slice sa C.ss.length sc) (.slice ha C.hs.length hc) _).keep ((Touch.refl _ _).alloc _)).keep ((Touch.refl _ _).alloc _)
 have aa : Ad wa (w.heap.size + 1) A := by
  have := (Ad.new (w.alloc (.cells #[.int .u8 C.P.typ, .int .u32 C.P.router, .int .u32 C.P.area, .int .u32 C.P.mask, .int .u16 C.P.iv, .int .u8 C.P.opts, .int .u8 C.P.prio, .int .u32 C.P.dead, .int .u32 C.P.dr, .int .u32 C.P.bdr, .slice na C.nb.length nc, .int .u16 C.P.mtu, .int .u8 C.P.dopts, .int .u8 C.P.dflags, .int .u32 C.P.dseq, .slice da C.dh.length dc, .slice ka C.ks.length kc, .slice sa C.ss.length sc, .slice ha C.hs.length hc] 33)) A 44).keep ((Touch.refl _ _).alloc (.cells #[.slice none 0 0] 40))
  rw [← hwa] at this
  simpa using this
 have ca : wa.cell? ⟨w.heap.size + 1 + 1, 0, none⟩ = some (.slice none 0 0) := by rw [hwa]; simp [go_sem]
 have fa : wa.frozen? ⟨w.heap.size + 1 + 1, 0, none⟩ = false := by rw [hwa]; simp [go_sem]
 have tf : Touch (fun _ => False) wa (wa.alloc (.cells #[.int .i64 0] 41)) := (Touch.refl _ wa).alloc _
 have zf : (wa.alloc (.cells #[.int .i64 0] 41)).heap.size = wa.heap.size + 1 := by simp
 have HC := penc1_5 w.heap.size (w.heap.size + 1) (w.heap.size + 1 + 1) C ok lt A oa (.slice na C.nb.length nc) (.slice da C.dh.length dc) (.slice ka C.ks.length kc) (.slice sa C.ss.length sc) (.slice ha C.hs.length hc) (.slice none 0 0) (wa.alloc (.cells #[.int .i64 0] 41)) (hp.keep (ta.trans tf)) h5 (pa.keep tf) (aa.keep tf) (tf.cellN ca) ((tf.frozen (p := ⟨w.heap.size + 1 + 1, 0, none⟩) (by simp only; omega) (fun h => h)).trans fa)
 have TA : Hid (Touch (fun _ => False) w wa) := ta
 have ZA : Hid (wa.heap.size = w.heap.size + 3) := za
 by_cases hE : pencE C A = 0
 ·have HF := pface_ok 34 #[.pointer (some ⟨w.heap.size, 0, none⟩), .pointer (some ⟨w.heap.size + 1, 0, none⟩), .pointer (some ⟨w.heap.size + 1 + 1, 0, none⟩)] (fun _ => rfl) wa (fun k => k = w.heap.size + 1 + 1) (by omega) (fun w' => ∃ v, w'.cell? ⟨w.heap.size + 1 + 1, 0, none⟩ = some v ∧ w'.frozen? ⟨w.heap.size + 1 + 1, 0, none⟩ = false ∧ w'.ownsRow (wa.alloc (.cells #[.int .i64 0] 41)).heap.size 5 1 v (pencB C A).length (bytesOf (pencB C A))) (Calls.left5 HC (fun h => h hE))
   (fun w1 w2 h1 t => by
    obtain ⟨v, h1, h2, h3⟩ := h1
    exact ⟨v, (t.cell (lt_of_cellA h1) (by simp only; omega)).trans h1, (t.frozen (lt_of_cellA h1) (by simp only; omega)).trans h2, own_touch h3 t (fun k hk e => by have := (h3.lt k hk).1; omega)⟩)
  have ZF : Hid ((wa.alloc (.cells #[.int .i64 0] 41)).heap.size = wa.heap.size + 1) := zf
  rw [hE]
  clear HC ok lt oa hp h5 pa aa ca fa tf zf ta za hE
  generalize pencB C A = EB at *
  show Calls Tryz.prog 8 #[.agg #[.int .u8 C.P.typ, .int .u32 C.P.router, .int .u32 C.P.area, .int .u32 C.P.mask, .int .u16 C.P.iv, .int .u8 C.P.opts, .int .u8 C.P.prio, .int .u32 C.P.dead, .int .u32 C.P.dr, .int .u32 C.P.bdr, .slice na C.nb.length nc, .int .u16 C.P.mtu, .int .u8 C.P.dopts, .int .u8 C.P.dflags, .int .u32 C.P.dseq, .slice da C.dh.length dc, .slice ka C.ks.length kc, .slice sa C.ss.length sc, .slice ha C.hs.length hc], .agg #[.int .u16 A.kind, .int .u8 A.d0, .int .u8 A.d1, .int .u8 A.d2, .int .u8 A.d3, .int .u8 A.d4, .int .u8 A.d5, .int .u8 A.d6, .int .u8 A.d7]] w _
  go_enter Tryz.func8, Tryz.ntmps8
  go_wp2_with fail
  rw [← hwa]
  refine Calls.mono HF ?_
  rintro e w1 ⟨rfl, t1, v, k1, f1, o1⟩
  have O1 : Hid (w1.ownsRow (wa.alloc (.cells #[.int .i64 0] 41)).heap.size 5 1 v EB.length (bytesOf EB)) := o1
  obtain ⟨va, vc, rfl, -⟩ := rowAt_form (own_rowAt o1)
  have T1 : Hid (Touch (fun _ => False) w w1) := TA.out.trans' t1 (fun i hi e => by omega)
  clear t1 HF hwa hmf o1
  have de : (w1.setCell ⟨w.heap.size + 1 + 1, 0, none⟩ (.slice va EB.length vc)).cell? ⟨w.heap.size + 1 + 1, 0, none⟩ = some (.slice va EB.length vc) := by simp [k1, go_sem]
  have U : Hid (Touch (fun k => k = w.heap.size + 1 + 1) w1 (w1.setCell ⟨w.heap.size + 1 + 1, 0, none⟩ (.slice va EB.length vc))) := Touch.setCell (F := fun k => k = w.heap.size + 1 + 1) (p := ⟨w.heap.size + 1 + 1, 0, none⟩) (Touch.refl _ _) (Or.inl rfl) _
  go_wp2_with fail
  refine bodyPost_ret (v := .tuple #[.slice va EB.length vc, .int .i64 0]) (by simp [results, Tryz.results8, go_sem, de]) rfl ?_
  refine ⟨_, rfl, own_lower (own_touch O1.out U.out (fun k hk e => by have := (O1.out.lt k hk).1; have := ZF.out; have := ZA.out; omega)) (by have := ZF.out; have := ZA.out; omega), T1.out.trans' U.out (fun i hi e => by omega)⟩
 ·have HF := pface_no 34 #[.pointer (some ⟨w.heap.size, 0, none⟩), .pointer (some ⟨w.heap.size + 1, 0, none⟩), .pointer (some ⟨w.heap.size + 1 + 1, 0, none⟩)] (fun _ => rfl) wa (fun k => k = w.heap.size + 1 + 1) (by omega) (pencE C A) (fun w' => w'.cell? ⟨w.heap.size + 1 + 1, 0, none⟩ = some (.slice none 0 0) ∧ w'.frozen? ⟨w.heap.size + 1 + 1, 0, none⟩ = false) (Calls.right5 HC hE)
   (fun w1 w2 h1 t => ⟨(t.cell (lt_of_cellA h1.1) (by simp only; omega)).trans h1.1, (t.frozen (lt_of_cellA h1.1) (by simp only; omega)).trans h1.2⟩)
  rw [show pencB C A = [] by unfold pencB; rw [if_neg hE]]
  clear HC ok lt oa hp h5 pa aa ca fa tf zf ta za hE
  generalize pencE C A = EE at *
  show Calls Tryz.prog 8 #[.agg #[.int .u8 C.P.typ, .int .u32 C.P.router, .int .u32 C.P.area, .int .u32 C.P.mask, .int .u16 C.P.iv, .int .u8 C.P.opts, .int .u8 C.P.prio, .int .u32 C.P.dead, .int .u32 C.P.dr, .int .u32 C.P.bdr, .slice na C.nb.length nc, .int .u16 C.P.mtu, .int .u8 C.P.dopts, .int .u8 C.P.dflags, .int .u32 C.P.dseq, .slice da C.dh.length dc, .slice ka C.ks.length kc, .slice sa C.ss.length sc, .slice ha C.hs.length hc], .agg #[.int .u16 A.kind, .int .u8 A.d0, .int .u8 A.d1, .int .u8 A.d2, .int .u8 A.d3, .int .u8 A.d4, .int .u8 A.d5, .int .u8 A.d6, .int .u8 A.d7]] w _
  go_enter Tryz.func8, Tryz.ntmps8
  go_wp2_with fail
  rw [← hwa]
  refine Calls.mono HF ?_
  rintro e w1 ⟨rfl, t1, k1, f1⟩
  have T1 : Hid (Touch (fun _ => False) w w1) := TA.out.trans' t1 (fun i hi e => by omega)
  clear t1 HF hwa hmf
  have de : (w1.setCell ⟨w.heap.size + 1 + 1, 0, none⟩ (.slice none 0 0)).cell? ⟨w.heap.size + 1 + 1, 0, none⟩ = some (.slice none 0 0) := by simp [k1, go_sem]
  have T2 : Hid (Touch (fun _ => False) w (w1.setCell ⟨w.heap.size + 1 + 1, 0, none⟩ (.slice none 0 0))) := Touch.setCell (p := ⟨w.heap.size + 1 + 1, 0, none⟩) T1.out (Or.inr (by simp only; omega)) _
  go_wp2_with fail
  refine bodyPost_ret (v := .tuple #[.slice none 0 0, .int .i64 EE]) (by simp [results, Tryz.results8, go_sem, de]) rfl ?_
  exact ⟨_, rfl, Buf.nil T2.out⟩
end Go.Proofs.YtbfplepmgbkajaaGreatDoor
