/- The walk of PacketBack where the bytes are a packet. -/
import Derived.Test.YtfhkocpnealblaaGreatPkBackW
namespace Go.Proofs.YtfhkocpnealblaaGreat
open Go.RowKit
set_option linter.unusedVariables false
set_option maxRecDepth 100000

attribute [local go_sem ↓] Go.wp_at_zero Go.wp_at_succ
structure BkR (m : Nat) (w : World) (gg : Nat) (s8 : Value) (wr : World) : Prop where
  out : ∃ k : Nat, k ≤ m ∧ gg = m - k ∧ s8 = .int .i64 (k : Int) ∧ Touch (fun _ => False) w wr
set_option maxHeartbeats 4000000 in
theorem pback_good (va : Option Addr) (vc : Nat) (rs : List Int) (w : World) (hv : ArgAt w (.slice va rs.length vc) rs) (hby : ∀ z ∈ rs, 0 ≤ z ∧ z < 256) (hl : rs.length ≤ 65536) (hE : pdecE rs = 0) :
    Calls Tryz.prog 4 #[.slice va rs.length vc] w fun e w' => e = .returned (.bool true) ∧ Touch (fun _ => False) w w' := by
  have PB := pback hby hE (by omega)
  have hl' : ¬ (65536 : Int) < (rs.length : Int) := by omega
  have h24 : 24 ≤ rs.length := (pdecE_ok hE).l.l
  have HCB := cbytes_any (.slice va rs.length vc) rs w hv (by omega)
  have HV' : Hid (∀ w', Touch (fun _ => False) w w' → RowAt w' (.slice va rs.length vc) rs) := fun w' t => (hv.keepN t).row (by omega)
  have HD : Hid (∀ v w', ArgAt w' v rs → Calls Tryz.prog 11 #[v] w' fun e w'' => ∃ vn vd vk vs vh, e = .returned (.tuple #[(pdecC rs).P.v vn vd vk vs vh, (pdecA rs).v, .int .i64 0]) ∧ POwn w'.heap.size w'' (pdecC rs) vn vd vk vs vh ∧ Touch (fun _ => False) w' w'') := fun v w' h => by
    have := pdec_any v rs w' h hby (by omega)
    rw [hE] at this
    exact this
  obtain ⟨lt, ln⟩ := enc_small (pencE_ok PB.e)
  generalize pdecC rs = C at *
  generalize pdecA rs = A at *
  have HPB : Hid (PBack rs C A) := PB
  have LT : Hid C.Lt := lt
  have LN : Hid C.Ln := ln
  have HL24 : Hid (24 ≤ rs.length) := h24
  obtain ⟨cB, hcB⟩ : ∃ cB, pencB C A = cB := ⟨_, rfl⟩
  have HcB : Hid (pencB C A = cB) := hcB
  have m1 : cB.length ≤ rs.length := by rw [← hcB]; exact PB.le
  have m2 : 24 ≤ cB.length := by rw [← hcB]; exact PB.ge
  have m3 : Hid (A.kind ≠ 2 → cB.length = rs.length) := by rw [← hcB]; exact PB.eq
  have M4 : Hid (∀ i, i < cB.length → cB.getD i 0 ≠ rs.getD i 0 → (i = 12 ∨ i = 13) ∧ (A.kind = 2 ∨ (rs.getD 12 0 = 255 ∧ rs.getD 13 0 = 255))) := by rw [← hcB]; exact PB.at_
  clear hv hby PB hE h24 lt ln hcB hl
  go_enter Tryz.func4, Tryz.ntmps4
  go_wp2_with fail
  refine Calls.mono HCB ?_
  rintro e w1 ⟨u1, rfl, b1⟩
  have H1 := HD.out u1 w1 b1.arg
  have T1 : Hid (Touch (fun _ => False) w w1) := b1.t
  clear HCB HD b1
  go_wp2_with fail
  refine Calls.mono H1 ?_
  rintro e w2 ⟨vn, vd, vk, vs, vh, rfl, po, t2⟩
  obtain ⟨na, nc, da, dc, ka, kc, sa, sc, ha, hc, rfl, rfl, rfl, rfl, rfl⟩ := po.rw.forms
  have PR : Hid (∀ w', Touch (fun _ => False) w2 w' → PkAt w' C (.slice na C.nb.length nc) (.slice da C.dh.length dc) (.slice ka C.ks.length kc) (.slice sa C.ss.length sc) (.slice ha C.hs.length hc)) := fun w' t => (po.at_ HPB.out.ok).keep t
  have T2 : Hid (Touch (fun _ => False) w w2) := T1.out.trans t2
  unfold PV.v AuV.v
  clear H1 po t2 T1
  obtain ⟨w3, hw3⟩ : ∃ w3, w3 = (((w2.alloc (.cells #[.int .u8 0, .int .u32 0, .int .u32 0, .int .u32 0, .int .u16 0, .int .u8 0, .int .u8 0, .int .u32 0, .int .u32 0, .int .u32 0, .slice none 0 0, .int .u16 0, .int .u8 0, .int .u8 0, .int .u32 0, .slice none 0 0, .slice none 0 0, .slice none 0 0, .slice none 0 0] 33)).alloc (.cells #[.int .u16 0, .int .u8 0, .int .u8 0, .int .u8 0, .int .u8 0, .int .u8 0, .int .u8 0, .int .u8 0, .int .u8 0] 44)).setRow w2.heap.size #[.int .u8 C.P.typ, .int .u32 C.P.router, .int .u32 C.P.area, .int .u32 C.P.mask, .int .u16 C.P.iv, .int .u8 C.P.opts, .int .u8 C.P.prio, .int .u32 C.P.dead, .int .u32 C.P.dr, .int .u32 C.P.bdr, .slice na C.nb.length nc, .int .u16 C.P.mtu, .int .u8 C.P.dopts, .int .u8 C.P.dflags, .int .u32 C.P.dseq, .slice da C.dh.length dc, .slice ka C.ks.length kc, .slice sa C.ss.length sc, .slice ha C.hs.length hc]).setRow (w2.heap.size + 1) #[.int .u16 A.kind, .int .u8 A.d0, .int .u8 A.d1, .int .u8 A.d2, .int .u8 A.d3, .int .u8 A.d4, .int .u8 A.d5, .int .u8 A.d6, .int .u8 A.d7] := ⟨_, rfl⟩
  have ra : Row ((w2.alloc (.cells #[.int .u8 0, .int .u32 0, .int .u32 0, .int .u32 0, .int .u16 0, .int .u8 0, .int .u8 0, .int .u32 0, .int .u32 0, .int .u32 0, .slice none 0 0, .int .u16 0, .int .u8 0, .int .u8 0, .int .u32 0, .slice none 0 0, .slice none 0 0, .slice none 0 0, .slice none 0 0] 33)).alloc (.cells #[.int .u16 0, .int .u8 0, .int .u8 0, .int .u8 0, .int .u8 0, .int .u8 0, .int .u8 0, .int .u8 0, .int .u8 0] 44)) w2.heap.size 33 [.int .u8 0, .int .u32 0, .int .u32 0, .int .u32 0, .int .u16 0, .int .u8 0, .int .u8 0, .int .u32 0, .int .u32 0, .int .u32 0, .slice none 0 0, .int .u16 0, .int .u8 0, .int .u8 0, .int .u32 0, .slice none 0 0, .slice none 0 0, .slice none 0 0, .slice none 0 0] := (row_new w2 33 #[.int .u8 0, .int .u32 0, .int .u32 0, .int .u32 0, .int .u16 0, .int .u8 0, .int .u8 0, .int .u32 0, .int .u32 0, .int .u32 0, .slice none 0 0, .int .u16 0, .int .u8 0, .int .u8 0, .int .u32 0, .slice none 0 0, .slice none 0 0, .slice none 0 0, .slice none 0 0]).keep ((Touch.refl _ _).alloc _)
  have rb : Row ((w2.alloc (.cells #[.int .u8 0, .int .u32 0, .int .u32 0, .int .u32 0, .int .u16 0, .int .u8 0, .int .u8 0, .int .u32 0, .int .u32 0, .int .u32 0, .slice none 0 0, .int .u16 0, .int .u8 0, .int .u8 0, .int .u32 0, .slice none 0 0, .slice none 0 0, .slice none 0 0, .slice none 0 0] 33)).alloc (.cells #[.int .u16 0, .int .u8 0, .int .u8 0, .int .u8 0, .int .u8 0, .int .u8 0, .int .u8 0, .int .u8 0, .int .u8 0] 44)) (w2.heap.size + 1) 44 [.int .u16 0, .int .u8 0, .int .u8 0, .int .u8 0, .int .u8 0, .int .u8 0, .int .u8 0, .int .u8 0, .int .u8 0] := by
    have := row_new (w2.alloc (.cells #[.int .u8 0, .int .u32 0, .int .u32 0, .int .u32 0, .int .u16 0, .int .u8 0, .int .u8 0, .int .u32 0, .int .u32 0, .int .u32 0, .slice none 0 0, .int .u16 0, .int .u8 0, .int .u8 0, .int .u32 0, .slice none 0 0, .slice none 0 0, .slice none 0 0, .slice none 0 0] 33)) 44 #[.int .u16 0, .int .u8 0, .int .u8 0, .int .u8 0, .int .u8 0, .int .u8 0, .int .u8 0, .int .u8 0, .int .u8 0]
    simpa using this
  have rb2 : Row (((w2.alloc (.cells #[.int .u8 0, .int .u32 0, .int .u32 0, .int .u32 0, .int .u16 0, .int .u8 0, .int .u8 0, .int .u32 0, .int .u32 0, .int .u32 0, .slice none 0 0, .int .u16 0, .int .u8 0, .int .u8 0, .int .u32 0, .slice none 0 0, .slice none 0 0, .slice none 0 0, .slice none 0 0] 33)).alloc (.cells #[.int .u16 0, .int .u8 0, .int .u8 0, .int .u8 0, .int .u8 0, .int .u8 0, .int .u8 0, .int .u8 0, .int .u8 0] 44)).setRow w2.heap.size #[.int .u8 C.P.typ, .int .u32 C.P.router, .int .u32 C.P.area, .int .u32 C.P.mask, .int .u16 C.P.iv, .int .u8 C.P.opts, .int .u8 C.P.prio, .int .u32 C.P.dead, .int .u32 C.P.dr, .int .u32 C.P.bdr, .slice na C.nb.length nc, .int .u16 C.P.mtu, .int .u8 C.P.dopts, .int .u8 C.P.dflags, .int .u32 C.P.dseq, .slice da C.dh.length dc, .slice ka C.ks.length kc, .slice sa C.ss.length sc, .slice ha C.hs.length hc]) (w2.heap.size + 1) 44 [.int .u16 0, .int .u8 0, .int .u8 0, .int .u8 0, .int .u8 0, .int .u8 0, .int .u8 0, .int .u8 0, .int .u8 0] := rb.otherRow (by omega) _
  have t3 : Touch (fun _ => False) w2 w3 := by rw [hw3]; exact ((((Touch.refl _ _).alloc _).alloc _).setRow (Or.inr (by omega)) _).setRow (Or.inr (by omega)) _
  have G3 : Row w3 w2.heap.size 33 [.int .u8 C.P.typ, .int .u32 C.P.router, .int .u32 C.P.area, .int .u32 C.P.mask, .int .u16 C.P.iv, .int .u8 C.P.opts, .int .u8 C.P.prio, .int .u32 C.P.dead, .int .u32 C.P.dr, .int .u32 C.P.bdr, .slice na C.nb.length nc, .int .u16 C.P.mtu, .int .u8 C.P.dopts, .int .u8 C.P.dflags, .int .u32 C.P.dseq, .slice da C.dh.length dc, .slice ka C.ks.length kc, .slice sa C.ss.length sc, .slice ha C.hs.length hc] := by rw [hw3]; exact (ra.setRow _).otherRow (by omega) _
  have G4 : Row w3 (w2.heap.size + 1) 44 [.int .u16 A.kind, .int .u8 A.d0, .int .u8 A.d1, .int .u8 A.d2, .int .u8 A.d3, .int .u8 A.d4, .int .u8 A.d5, .int .u8 A.d6, .int .u8 A.d7] := by rw [hw3]; exact rb2.setRow _
  go_upto_region 4 with (first | refine wpList_store_row rfl 33 (.tmp 3) (.tmp 17) rfl w2.heap.size #[.int .u8 C.P.typ, .int .u32 C.P.router, .int .u32 C.P.area, .int .u32 C.P.mask, .int .u16 C.P.iv, .int .u8 C.P.opts, .int .u8 C.P.prio, .int .u32 C.P.dead, .int .u32 C.P.dr, .int .u32 C.P.bdr, .slice na C.nb.length nc, .int .u16 C.P.mtu, .int .u8 C.P.dopts, .int .u8 C.P.dflags, .int .u32 C.P.dseq, .slice da C.dh.length dc, .slice ka C.ks.length kc, .slice sa C.ss.length sc, .slice ha C.hs.length hc] rfl rfl 33 _ ra (by kernel_rfl) rfl (by simp [Value.oneCell']) ?_ | refine wpList_store_row rfl 44 (.tmp 4) (.tmp 18) rfl (w2.heap.size + 1) #[.int .u16 A.kind, .int .u8 A.d0, .int .u8 A.d1, .int .u8 A.d2, .int .u8 A.d3, .int .u8 A.d4, .int .u8 A.d5, .int .u8 A.d6, .int .u8 A.d7] rfl rfl 44 _ rb2 (by kernel_rfl) rfl (by simp [Value.oneCell']) ?_)
  rw [← hw3]
  clear hw3 ra rb rb2
  generalize w2.heap.size + 1 = g4 at *
  generalize w2.heap.size = g3 at *
  have T3 : Hid (Touch (fun _ => False) w w3) := T2.out.trans t3
  have PR3 : Hid (∀ w', Touch (fun _ => False) w3 w' → PkAt w' C (.slice na C.nb.length nc) (.slice da C.dh.length dc) (.slice ka C.ks.length kc) (.slice sa C.ss.length sc) (.slice ha C.hs.length hc)) := fun w' t => PR.out w' (t3.trans t)
  have RG3 : Hid (∀ w', Touch (fun _ => False) w3 w' → Row w' g3 33 [.int .u8 C.P.typ, .int .u32 C.P.router, .int .u32 C.P.area, .int .u32 C.P.mask, .int .u16 C.P.iv, .int .u8 C.P.opts, .int .u8 C.P.prio, .int .u32 C.P.dead, .int .u32 C.P.dr, .int .u32 C.P.bdr, .slice na C.nb.length nc, .int .u16 C.P.mtu, .int .u8 C.P.dopts, .int .u8 C.P.dflags, .int .u32 C.P.dseq, .slice da C.dh.length dc, .slice ka C.ks.length kc, .slice sa C.ss.length sc, .slice ha C.hs.length hc]) := fun w' t => G3.keep t
  have RG4 : Hid (∀ w', Touch (fun _ => False) w3 w' → Row w' g4 44 [.int .u16 A.kind, .int .u8 A.d0, .int .u8 A.d1, .int .u8 A.d2, .int .u8 A.d3, .int .u8 A.d4, .int .u8 A.d5, .int .u8 A.d6, .int .u8 A.d7]) := fun w' t => G4.keep t
  clear T2 t3 G3 G4 PR
  go_upto_region 6 with fail
  have S3 : Touch (fun _ => False) w3 w3.drew := (Touch.refl _ _).drew
  refine wp_region_held_drew (S := fun w' => Touch (fun _ => False) w3 w') (by kernel_rfl) S3 (fun hHeld => ?_)
  refine wpAnyH_take (i := 0) (oi := ⟨some 34, _, _, _, _, _⟩) (v := .agg #[.int .u8 C.P.typ, .int .u32 C.P.router, .int .u32 C.P.area, .int .u32 C.P.mask, .int .u16 C.P.iv, .int .u8 C.P.opts, .int .u8 C.P.prio, .int .u32 C.P.dead, .int .u32 C.P.dr, .int .u32 C.P.bdr, .slice na C.nb.length nc, .int .u16 C.P.mtu, .int .u8 C.P.dopts, .int .u8 C.P.dflags, .int .u32 C.P.dseq, .slice da C.dh.length dc, .slice ka C.ks.length kc, .slice sa C.ss.length sc, .slice ha C.hs.length hc]) rfl (by kernel_rfl) (by kernel_rfl) (by kernel_rfl) (fun _ _ _ h => h) (yieldsIf_load_mid (by rfl) _ _ rfl _ _ rfl [.int .u8 C.P.typ, .int .u32 C.P.router, .int .u32 C.P.area, .int .u32 C.P.mask, .int .u16 C.P.iv, .int .u8 C.P.opts, .int .u8 C.P.prio, .int .u32 C.P.dead, .int .u32 C.P.dr, .int .u32 C.P.bdr, .slice na C.nb.length nc, .int .u16 C.P.mtu, .int .u8 C.P.dopts, .int .u8 C.P.dflags, .int .u32 C.P.dseq, .slice da C.dh.length dc, .slice ka C.ks.length kc, .slice sa C.ss.length sc, .slice ha C.hs.length hc] _ (fun w h => (RG3.out w h).range) Tryz.underlying33 rfl (by kernel_rfl)) (by assumption) ?_
  simp only [Act.put, List.setIfInBounds_toArray, List.set_cons_zero, List.set_cons_succ]
  refine wpAnyH_take (i := 2) (oi := ⟨some 36, _, _, _, _, _⟩) (v := .agg #[.int .u16 A.kind, .int .u8 A.d0, .int .u8 A.d1, .int .u8 A.d2, .int .u8 A.d3, .int .u8 A.d4, .int .u8 A.d5, .int .u8 A.d6, .int .u8 A.d7]) rfl (by kernel_rfl) (by kernel_rfl) (by kernel_rfl) (fun _ _ _ h => h) (yieldsIf_load_mid (by rfl) _ _ rfl _ _ rfl [.int .u16 A.kind, .int .u8 A.d0, .int .u8 A.d1, .int .u8 A.d2, .int .u8 A.d3, .int .u8 A.d4, .int .u8 A.d5, .int .u8 A.d6, .int .u8 A.d7] _ (fun w h => (RG4.out w h).range) Tryz.underlying44 rfl (by kernel_rfl)) (by assumption) ?_
  simp only [Act.put, List.setIfInBounds_toArray, List.set_cons_zero, List.set_cons_succ]
  refine wpAnyH_ready (rs := [1]) (by kernel_rfl) (by simp) ?_
  refine AllReadyH.cons (o := ⟨some 35, _, _, _, _, _⟩) rfl (fun K hK => ?_) AllReadyH.nil
  go_simp
  refine Calls.mono (cpacket C LT.out LN.out _ _ _ _ _ w3.drew (PR3.out _ S3)) ?_
  rintro e w4 ⟨un, ud, uk, us, uh, rfl, po4, t4⟩
  have S4 : Touch (fun _ => False) w3 w4 := S3.trans t4
  have HEn := penc_any C HPB.out.ok LT.out A HPB.out.oa un ud uk us uh w4 (po4.at_ HPB.out.ok)
  rw [HPB.out.e, HcB.out] at HEn
  unfold PV.v AuV.v at HEn
  unfold PV.v
  refine hK.out _ _ S4 (fun hHeld => ?_)
  clear hK K
  refine wpAnyH_ready (rs := [3]) (by kernel_rfl) (by simp) ?_
  refine AllReadyH.cons (o := ⟨some 37, _, _, _, _, _⟩) rfl (fun K hK => ?_) AllReadyH.nil
  go_simp
  refine Calls.mono HEn ?_
  rintro e w5 ⟨v5, rfl, b5⟩
  obtain ⟨ca, cc, rfl⟩ := b5.form
  have S5 : Touch (fun _ => False) w3 w5 := S4.trans b5.t
  refine hK.out _ _ S5 (fun hHeld => ?_)
  clear hK K
  refine wpAnyH_take (i := 4) (oi := ⟨some 33, _, _, _, _, _⟩) (v := .tuple #[.slice ca cB.length cc, .int .i64 0]) rfl (by kernel_rfl) (by kernel_rfl) (by kernel_rfl) (fun _ _ _ h => h) (Or.inl ⟨by rfl, fun w hw => by go_simp⟩) (by assumption) ?_
  simp only [Act.put, List.setIfInBounds_toArray, List.set_cons_zero, List.set_cons_succ]
  refine wpAnyH_take (i := 5) (oi := ⟨some 38, _, _, _, _, _⟩) (v := .slice ca cB.length cc) rfl (by kernel_rfl) (by kernel_rfl) (by kernel_rfl) (fun _ _ _ h => h) (Or.inl ⟨by rfl, fun w hw => by go_simp⟩) (by assumption) ?_
  simp only [Act.put, List.setIfInBounds_toArray, List.set_cons_zero, List.set_cons_succ]
  refine wpAnyH_take (i := 6) (oi := ⟨some 39, _, _, _, _, _⟩) (v := .int .i64 0) rfl (by kernel_rfl) (by kernel_rfl) (by kernel_rfl) (fun _ _ _ h => h) (Or.inl ⟨by rfl, fun w hw => by go_simp⟩) (by assumption) ?_
  simp only [Act.put, List.setIfInBounds_toArray, List.set_cons_zero, List.set_cons_succ]
  refine wpAnyH_take (i := 7) (oi := ⟨some 6, _, _, _, _, _⟩) (v := .slice ca cB.length cc) rfl (by kernel_rfl) (by kernel_rfl) (by kernel_rfl) (fun _ _ _ h => h) (Or.inl ⟨by rfl, fun w hw => by go_simp⟩) (by assumption) ?_
  simp only [Act.put, List.setIfInBounds_toArray, List.set_cons_zero, List.set_cons_succ]
  refine wpAnyH_take (i := 8) (oi := ⟨some 7, _, _, _, _, _⟩) (v := .int .i64 0) rfl (by kernel_rfl) (by kernel_rfl) (by kernel_rfl) (fun _ _ _ h => h) (Or.inl ⟨by rfl, fun w hw => by go_simp⟩) (by assumption) ?_
  simp only [Act.put, List.setIfInBounds_toArray, List.set_cons_zero, List.set_cons_succ]
  refine wpAnyH_done (by kernel_rfl) ?_ _
  have B5 : Hid (∀ w', Touch (fun _ => False) w5 w' → RowAt w' (.slice ca cB.length cc) cB) := fun w' t => (b5.keep t).row
  have T5 : Hid (Touch (fun _ => False) w w5) := T3.out.trans S5
  have K5 : Hid (∀ w', Touch (fun _ => False) w5 w' → w'.cell? ⟨g4, 0, none⟩ = some (.int .u16 A.kind)) := fun w' t => (RG4.out w' (S5.trans t)).cell 0
  have HVr : Hid (∀ w', Touch (fun _ => False) w5 w' → RowAt w' (.slice va rs.length vc) rs) := fun w' t => HV'.out w' (T5.out.trans t)
  clear b5 S5 S4 S3 t4 po4 HEn PR3 RG3 RG4 T3 hHeld HcB LT LN HPB HV'
  have k5 := K5.out w5 (Touch.refl _ _)
  have n1 : ¬ (rs.length : Int) < (cB.length : Int) := by omega
  have n2 : ¬ (cB.length : Int) < 24 := by omega
  have REL : Hid (BkR cB.length w5 cB.length (.int .i64 0) w5) := ⟨0, by omega, by omega, rfl, Touch.refl _ _⟩
  have W3 : (A.kind ≠ 2 ∧ cB.length = rs.length) ∨ (A.kind = 2 ∧ cB.length = rs.length) ∨ (A.kind = 2 ∧ ¬ cB.length = rs.length) := by
    by_cases h : A.kind = 2
    · by_cases h2 : cB.length = rs.length
      · exact Or.inr (Or.inl ⟨h, h2⟩)
      · exact Or.inr (Or.inr ⟨h, h2⟩)
    · exact Or.inl ⟨h, m3.out h⟩
  have SAV : Hid (cB.length ≤ rs.length ∧ 24 ≤ cB.length) := ⟨m1, m2⟩
  clear m3
  rcases W3 with ⟨hk, hm⟩ | ⟨hk, hm⟩ | ⟨hk, hm⟩
  · have hmb : (((cB.length : Nat) : Int) != ((rs.length : Nat) : Int)) = false := by simp [hm]
    have hkb : ((A.kind : Int) != 2) = true := by simpa using hk
    have KK : Hid (((A.kind : Int) != 2) = true ∧ A.kind ≠ 2) := ⟨hkb, hk⟩
    clear hm m1 m2 hk
    go_upto_region 9 with fail
    clear n1 n2 hmb k5
    go_wp2_with fail
    go_loopg [8] cB.length (fun gg s8 wr => BkR cB.length w5 gg s8 wr)
    case atStart => exact REL.out
    case round =>
      clear REL
      obtain ⟨k, hk, hgg, rfl, tr⟩ := hrel.out
      have TR : Hid (Touch (fun _ => False) w5 wr) := tr
      clear tr hrel
      by_cases hlt : k < cB.length
      · have hlt' : (k : Int) < (cB.length : Int) := by omega
        have hk0 : (0 : Int) ≤ (k : Int) := by omega
        have hlr : (k : Int) < (rs.length : Int) := by have := SAV.out; omega
        have RB := B5.out wr TR.out
        have RV := HVr.out wr TR.out
        have RVs : Hid (RowAt wr (.slice va rs.length vc) rs) := RV
        obtain ⟨gc, oc, ec⟩ := rowAt_some RB (by omega)
        obtain ⟨gv, ov, ev⟩ := rowAt_some RV (by have := SAV.out; omega)
        subst ec ev
        have kk := K5.out wr TR.out
        have xc := rowAt_cell RB k (by omega)
        have xv := rowAt_cell RV k (by have := SAV.out; omega)
        have hkw : wrap64 ((k : Int) + 1) = (k : Int) + 1 := by unfold wrap64; omega
        have MK := M4.out k (by omega)
        clear RB RV
        by_cases hne : cB.getD k 0 = rs.getD k 0
        · rw [hne] at xc
          clear MK hne
          generalize rs.getD k 0 = xx at *
          go_upto_region 12 with fail
          go_quiet (fail)
          go_wp2_with fail
          go_roundg (cB.length - (k + 1))
          case measure => omega
          case rel => exact ⟨k + 1, by omega, by omega, by go_num, TR.out.drewN _⟩
        · obtain ⟨hi, hw⟩ := MK hne
          have hneb : ((cB.getD k 0 : Int) != rs.getD k 0) = true := by simpa using hne
          have hones : rs.getD 12 0 = 255 ∧ rs.getD 13 0 = 255 := by
            rcases hw with h | h
            · exact (KK.out.2 h).elim
            · exact h
          have HO : ∀ n, Calls Tryz.prog 18 #[.slice (some ⟨gv, ov, none⟩) rs.length vc, .int .i64 (k : Int)] (wr.drewN n) fun e w'' => e = .returned (.bool true) ∧ w'' = wr.drewN n := fun n => ones_true _ vc rs k _ (RVs.out.touch ((Touch.refl (fun _ => False) _).drewN n) (fun _ _ f => f)) (by have := SAV.out; omega) hi hones.1 hones.2
          clear hw hones
          rcases hi with hi | hi
          · have h1 : (((k : Nat) : Int) != 12) = false := by subst hi; rfl
            have h2 : (((k : Nat) : Int) != 13) = true := by subst hi; rfl
            clear hi
            generalize cB.getD k 0 = xx at *
            generalize rs.getD k 0 = yy at xv hneb hne
            go_upto_region 12 with fail
            go_quiet ((go_at_call 18; exact Calls.quiet_of_same (HO _)))
            go_wp2_with fail
            go_roundg (cB.length - (k + 1))
            case measure => omega
            case rel => exact ⟨k + 1, by omega, by omega, by go_num, TR.out.drewN _⟩
          · have h1 : (((k : Nat) : Int) != 12) = true := by subst hi; rfl
            have h2 : (((k : Nat) : Int) != 13) = false := by subst hi; rfl
            clear hi
            generalize cB.getD k 0 = xx at *
            generalize rs.getD k 0 = yy at xv hneb hne
            go_upto_region 12 with fail
            go_quiet ((go_at_call 18; exact Calls.quiet_of_same (HO _)))
            go_wp2_with fail
            go_roundg (cB.length - (k + 1))
            case measure => omega
            case rel => exact ⟨k + 1, by omega, by omega, by go_num, TR.out.drewN _⟩
      · obtain rfl : k = cB.length := by omega
        have hlt' : ¬ (cB.length : Int) < (cB.length : Int) := by omega
        have H9 := plives wr
        go_wp2_with (go_at_call 7; refine Calls.mono H9 ?_; rintro e w9 ⟨rfl, t9⟩)
        go_ret
        exact ⟨rfl, (T5.out.trans TR.out).trans t9⟩
  · have hmb : (((cB.length : Nat) : Int) != ((rs.length : Nat) : Int)) = false := by simp [hm]
    have hkb : ((A.kind : Int) != 2) = false := by simpa using hk
    clear hm m1 m2 hk
    go_upto_region 9 with fail
    clear n1 n2 hmb k5
    go_wp2_with fail
    go_loopg [8] cB.length (fun gg s8 wr => BkR cB.length w5 gg s8 wr)
    case atStart => exact REL.out
    case round =>
      clear REL
      obtain ⟨k, hk, hgg, rfl, tr⟩ := hrel.out
      have TR : Hid (Touch (fun _ => False) w5 wr) := tr
      clear tr hrel
      by_cases hlt : k < cB.length
      · have hlt' : (k : Int) < (cB.length : Int) := by omega
        have hk0 : (0 : Int) ≤ (k : Int) := by omega
        have hlr : (k : Int) < (rs.length : Int) := by have := SAV.out; omega
        have RB := B5.out wr TR.out
        have RV := HVr.out wr TR.out
        have RVs : Hid (RowAt wr (.slice va rs.length vc) rs) := RV
        obtain ⟨gc, oc, ec⟩ := rowAt_some RB (by omega)
        obtain ⟨gv, ov, ev⟩ := rowAt_some RV (by have := SAV.out; omega)
        subst ec ev
        have kk := K5.out wr TR.out
        have xc := rowAt_cell RB k (by omega)
        have xv := rowAt_cell RV k (by have := SAV.out; omega)
        have hkw : wrap64 ((k : Int) + 1) = (k : Int) + 1 := by unfold wrap64; omega
        have MK := M4.out k (by omega)
        clear RB RV
        by_cases hne : cB.getD k 0 = rs.getD k 0
        · rw [hne] at xc
          clear MK hne
          generalize rs.getD k 0 = xx at *
          go_upto_region 12 with fail
          go_quiet (fail)
          go_wp2_with fail
          go_roundg (cB.length - (k + 1))
          case measure => omega
          case rel => exact ⟨k + 1, by omega, by omega, by go_num, TR.out.drewN _⟩
        · obtain ⟨hi, hw⟩ := MK hne
          have hneb : ((cB.getD k 0 : Int) != rs.getD k 0) = true := by simpa using hne
          clear hw
          rcases hi with hi | hi
          · have h1 : (((k : Nat) : Int) != 12) = false := by subst hi; rfl
            have h2 : (((k : Nat) : Int) != 13) = true := by subst hi; rfl
            clear hi
            generalize cB.getD k 0 = xx at *
            generalize rs.getD k 0 = yy at xv hneb hne
            go_upto_region 12 with fail
            go_quiet (fail)
            go_wp2_with fail
            go_roundg (cB.length - (k + 1))
            case measure => omega
            case rel => exact ⟨k + 1, by omega, by omega, by go_num, TR.out.drewN _⟩
          · have h1 : (((k : Nat) : Int) != 12) = true := by subst hi; rfl
            have h2 : (((k : Nat) : Int) != 13) = false := by subst hi; rfl
            clear hi
            generalize cB.getD k 0 = xx at *
            generalize rs.getD k 0 = yy at xv hneb hne
            go_upto_region 12 with fail
            go_quiet (fail)
            go_wp2_with fail
            go_roundg (cB.length - (k + 1))
            case measure => omega
            case rel => exact ⟨k + 1, by omega, by omega, by go_num, TR.out.drewN _⟩
      · obtain rfl : k = cB.length := by omega
        have hlt' : ¬ (cB.length : Int) < (cB.length : Int) := by omega
        have H9 := plives wr
        go_wp2_with (go_at_call 7; refine Calls.mono H9 ?_; rintro e w9 ⟨rfl, t9⟩)
        go_ret
        exact ⟨rfl, (T5.out.trans TR.out).trans t9⟩
  · have hmb : (((cB.length : Nat) : Int) != ((rs.length : Nat) : Int)) = true := by simp; omega
    have hkb : ((A.kind : Int) != 2) = false := by simpa using hk
    clear hm m1 m2 hk
    go_upto_region 9 with fail
    clear n1 n2 hmb k5
    go_wp2_with fail
    go_loopg [8] cB.length (fun gg s8 wr => BkR cB.length w5 gg s8 wr)
    case atStart => exact REL.out
    case round =>
      clear REL
      obtain ⟨k, hk, hgg, rfl, tr⟩ := hrel.out
      have TR : Hid (Touch (fun _ => False) w5 wr) := tr
      clear tr hrel
      by_cases hlt : k < cB.length
      · have hlt' : (k : Int) < (cB.length : Int) := by omega
        have hk0 : (0 : Int) ≤ (k : Int) := by omega
        have hlr : (k : Int) < (rs.length : Int) := by have := SAV.out; omega
        have RB := B5.out wr TR.out
        have RV := HVr.out wr TR.out
        have RVs : Hid (RowAt wr (.slice va rs.length vc) rs) := RV
        obtain ⟨gc, oc, ec⟩ := rowAt_some RB (by omega)
        obtain ⟨gv, ov, ev⟩ := rowAt_some RV (by have := SAV.out; omega)
        subst ec ev
        have kk := K5.out wr TR.out
        have xc := rowAt_cell RB k (by omega)
        have xv := rowAt_cell RV k (by have := SAV.out; omega)
        have hkw : wrap64 ((k : Int) + 1) = (k : Int) + 1 := by unfold wrap64; omega
        have MK := M4.out k (by omega)
        clear RB RV
        by_cases hne : cB.getD k 0 = rs.getD k 0
        · rw [hne] at xc
          clear MK hne
          generalize rs.getD k 0 = xx at *
          go_upto_region 12 with fail
          go_quiet (fail)
          go_wp2_with fail
          go_roundg (cB.length - (k + 1))
          case measure => omega
          case rel => exact ⟨k + 1, by omega, by omega, by go_num, TR.out.drewN _⟩
        · obtain ⟨hi, hw⟩ := MK hne
          have hneb : ((cB.getD k 0 : Int) != rs.getD k 0) = true := by simpa using hne
          clear hw
          rcases hi with hi | hi
          · have h1 : (((k : Nat) : Int) != 12) = false := by subst hi; rfl
            have h2 : (((k : Nat) : Int) != 13) = true := by subst hi; rfl
            clear hi
            generalize cB.getD k 0 = xx at *
            generalize rs.getD k 0 = yy at xv hneb hne
            go_upto_region 12 with fail
            go_quiet (fail)
            go_wp2_with fail
            go_roundg (cB.length - (k + 1))
            case measure => omega
            case rel => exact ⟨k + 1, by omega, by omega, by go_num, TR.out.drewN _⟩
          · have h1 : (((k : Nat) : Int) != 12) = true := by subst hi; rfl
            have h2 : (((k : Nat) : Int) != 13) = false := by subst hi; rfl
            clear hi
            generalize cB.getD k 0 = xx at *
            generalize rs.getD k 0 = yy at xv hneb hne
            go_upto_region 12 with fail
            go_quiet (fail)
            go_wp2_with fail
            go_roundg (cB.length - (k + 1))
            case measure => omega
            case rel => exact ⟨k + 1, by omega, by omega, by go_num, TR.out.drewN _⟩
      · obtain rfl : k = cB.length := by omega
        have hlt' : ¬ (cB.length : Int) < (cB.length : Int) := by omega
        have H9 := plives wr
        go_wp2_with (go_at_call 7; refine Calls.mono H9 ?_; rintro e w9 ⟨rfl, t9⟩)
        go_ret
        exact ⟨rfl, (T5.out.trans TR.out).trans t9⟩
theorem pback_any (v : Value) (rs : List Int) (w : World) (hv : ArgAt w v rs) (hby : ∀ z ∈ rs, 0 ≤ z ∧ z < 256) :
    Calls Tryz.prog 4 #[v] w fun e w' => e = .returned (.bool true) ∧ Touch (fun _ => False) w w' := by
  obtain ⟨va, vc, rfl, -⟩ := hv.form
  by_cases hl : rs.length ≤ 65536
  · by_cases hE : pdecE rs = 0
    · exact pback_good va vc rs w hv hby hl hE
    · exact pback_bad va vc rs w hv hby hl hE
  · exact pback_long va vc rs w (by omega)
end Go.Proofs.YtfhkocpnealblaaGreat
