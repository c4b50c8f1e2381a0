/- The document's side of stage 7: Encode, every way. -/
import Derived.Test.YtjgeklipeeooaaaGreatDoorRefPkE0
import Derived.Test.YtjgeklipeeooaaaGreatDoorRefPk
import Derived.Test.YtjgeklipeeooaaaGreatDoorWideK
import Derived.Deep.DeepCutAuto
namespace Go.Proofs.YtjgeklipeeooaaaGreatDoor
open Go.RowKit
set_option linter.unusedVariables false
set_option maxRecDepth 100000

theorem buf_lit2 {w0 y : World} (t : Touch (fun _ => False) w0 y) (a b : Int) : Buf w0 (y.alloc (.cells #[.int .u8 a, .int .u8 b] 5)) (.slice (some ⟨y.heap.size, 0, none⟩) 2 2) [a, b] :=
  ⟨⟨by simp [bytesOf], Or.inr ⟨y.heap.size, 2, _, rfl, t.size, row_new y 5 #[.int .u8 a, .int .u8 b], by simp, by simp [maxLen], by simp, by simp [bytesOf]⟩⟩, t.alloc _⟩
theorem row_ad {w : World} {g T : Nat} {A : AuV} (h : Row w g T [.int .u16 A.kind, .int .u8 A.d0, .int .u8 A.d1, .int .u8 A.d2, .int .u8 A.d3, .int .u8 A.d4, .int .u8 A.d5, .int .u8 A.d6, .int .u8 A.d7]) : Ad w g A := ⟨h.cell 0, h.cell 1, h.cell 2, h.cell 3, h.cell 4, h.cell 5, h.cell 6, h.cell 7, h.cell 8⟩
theorem enc_list (P : PV) (A : AuV) (bd : List Int) : [2, P.typ] ++ numBytes 2 ((bd.length : Int) + 24) ++ numBytes 4 P.router ++ numBytes 4 P.area ++ [0, 0] ++ numBytes 2 A.kind ++ A.data ++ bd = phead2 P A (24 + (bd.length : Int)) 0 ++ bd := by
  unfold phead2
  rw [show numBytes 2 0 = [0, 0] by rfl, Int.add_comm (bd.length : Int) 24]
theorem head_bt (P : PV) (ok : P.Ok) (A : AuV) (oa : A.Ok) (n : Int) (body : List Int) (hb : ∀ z ∈ body, 0 ≤ z ∧ z < 256) : ∀ z ∈ phead2 P A n 0 ++ body, 0 ≤ z ∧ z < 256 := by
  unfold phead2
  exact app_bt (app_bt (app_bt (app_bt (app_bt (app_bt (app_bt (two_bt (by omega) ok.typ) (numBytes_byte _ _)) (numBytes_byte _ _)) (numBytes_byte _ _)) (numBytes_byte _ _)) (numBytes_byte _ _)) (data_bt A oa)) hb
theorem stsP_len : ∀ (l : List ST), (∀ x ∈ l, x.2.length ≤ 65515) → (stsP l).length ≤ 65535 * l.length
  | [], _ => by simp [stsP]
  | x :: r, h => by
    have h1 := stsP_len r (fun y hy => h y (List.mem_cons_of_mem _ hy))
    have h2 := h x (List.mem_cons_self ..)
    have e : stsP (x :: r) = stP x ++ stsP r := by simp [stsP]
    have h3 : (stP x).length = 20 + x.2.length := by show (headB x.1 ++ x.2).length = _; rw [List.length_append, length_headB]
    rw [e, List.length_append, List.length_cons]
    omega
theorem pbody_len (C : PkC) (ok : C.Ok) (ln : C.Ln) (lt : C.Lt) (hm : pmeas C = true) : (pbodyB C).length ≤ 70000000000 := by
  have h1 := stsP_len C.ss (meas_len ok hm)
  have h2 := lt.n
  have h3 := ln.n
  have h4 := ln.d
  have h5 := ln.k
  have h6 := ln.h
  have e4 : (numBytes 4 (C.ss.length : Int)).length = 4 := by simp [numBytes]
  unfold pbodyB
  split
  · rw [List.length_append, length_helloB, length_wordsB]; omega
  split
  · rw [List.length_append, length_descB, length_headsB]; omega
  split
  · rw [length_keysB]; omega
  split
  · rw [List.length_append, e4]; omega
  · rw [length_headsB]; omega
theorem splice_set (L : List Int) (a b : Int) (h : 14 ≤ L.length) : (L.set 12 a).set 13 b = splice L 12 [a, b] := by
  match L, h with
  | x0 :: x1 :: x2 :: x3 :: x4 :: x5 :: x6 :: x7 :: x8 :: x9 :: x10 :: x11 :: x12 :: x13 :: r, _ => simp [splice]
theorem buf_two {y : World} {base gv cap : Nat} {L : List Int} {S : Int} (h : y.ownsRow base 5 1 (.slice (some ⟨gv, 0, none⟩) L.length cap) L.length (bytesOf L)) (hl : 14 ≤ L.length) (h0 : 0 ≤ S) (h1 : S < 65536) :
    ((y.setCell ⟨gv, 12, none⟩ (.int .u8 (S / 256))).setCell ⟨gv, 13, none⟩ (.int .u8 (S % 256))).ownsRow base 5 1 (.slice (some ⟨gv, 0, none⟩) L.length cap) (splice L 12 (numBytes 2 S)).length (bytesOf (splice L 12 (numBytes 2 S))) := by
  have e := own_putAll [.int .u8 (S / 256), .int .u8 (S % 256)] y _ 12 0 h
  have e1 : setAll (bytesOf L) 12 [.int .u8 (S / 256), .int .u8 (S % 256)] 0 = bytesOf (splice L 12 (numBytes 2 S)) := by
    have e2 : numBytes 2 S = [S / 256, S % 256] := by rw [numBytes2]; congr 1; omega
    rw [e2, ← splice_set L _ _ hl]
    simp [setAll, bytesOf, List.map_set]
  have e3 : (splice L 12 (numBytes 2 S)).length = L.length := by
    have := congrArg List.length e1
    rw [setAll_len] at this
    simpa [bytesOf] using this.symm
  rw [e1] at e
  rw [e3]
  exact e
theorem length_summedB (L : List Int) : (summedB L).length ≤ L.length := by unfold summedB; simp; omega
theorem bytesOf_at {l : List Int} {i : Nat} (h : i < l.length) : (bytesOf l)[i]? = some (.int .u8 (l.getD i 0)) := by
  unfold bytesOf
  rw [List.getElem?_map, List.getElem?_eq_getElem h, List.getD_eq_getElem?_getD, List.getElem?_eq_getElem h]
  rfl
set_option maxHeartbeats 8000000 in
theorem denc_11 (C : PkC) (ok : C.Ok) (lt : C.Lt) (ln : C.Ln) (A : AuV) (oa : A.Ok) (na da ka sa ha : Option Addr) (nc dc kc sc hc : Nat) (w : World) (hp : PkAt w C (.slice na C.nb.length nc) (.slice da C.dh.length dc) (.slice ka C.ks.length kc) (.slice sa C.ss.length sc) (.slice ha C.hs.length hc)) (ht : 1 ≤ C.P.typ ∧ C.P.typ ≤ 5) (ha2 : PAlone C) (hm : pmeas C = true) (hk2 : A.kind ≤ 2) (hbig : 65535 < 24 + (pbodyB C).length) : Calls Tryz.prog 10 #[C.P.v (.slice na C.nb.length nc) (.slice da C.dh.length dc) (.slice ka C.ks.length kc) (.slice sa C.ss.length sc) (.slice ha C.hs.length hc), A.v] w fun e w' => ∃ v, e = .returned (.tuple #[v, .int .i64 (pencE C A)]) ∧ Buf w w' v (pencB C A) := by
  have hbl := pbody_len C ok ln lt hm
  have E := pencE_11 (A := A) ht ha2 hm (by omega) hbig
  have EB : pencB C A = [] := by unfold pencB; rw [if_neg (by rw [E]; omega)]
  rw [E, EB]
  clear EB
  have HPA : Hid (PAlone C) := ha2
  have OK : Hid C.Ok := ok
  have OA : Hid A.Ok := oa
  obtain ⟨l, hl, hs⟩ := hp.s
  have hnn : C.ss.length ≤ 1000000 := lt.n
  have HLL : Hid (l.length = C.ss.length) := by show _ = _; rw [← hl, List.length_map]
  have HS : Hid (∀ w', Touch (fun _ => False) w w' → StatesAt w' (.slice sa C.ss.length sc) l) := fun w' t => hs.keep t
  have HLB : Hid (∀ x ∈ l, x.rs.length ≤ 1000000) := fun x hx => lt.b x.p (by rw [← hl]; exact List.mem_map_of_mem hx)
  have HM : Hid (∀ x ∈ l, x.h.len = 20 + (x.rs.length : Int)) := fun x hx => by
    unfold pmeas at hm
    have h1 := List.all_eq_true.1 hm x.p (by rw [← hl]; exact List.mem_map_of_mem hx)
    exact of_decide_eq_true h1
  have HBDT : Hid (∀ z ∈ pbodyB C, 0 ≤ z ∧ z < 256) := pbody_bt C ok
  have HBD : Hid (∀ w', Touch (fun _ => False) w w' → Calls Tryz.prog 37 #[C.P.v (.slice na C.nb.length nc) (.slice da C.dh.length dc) (.slice ka C.ks.length kc) (.slice sa C.ss.length sc) (.slice ha C.hs.length hc)] w' fun e w'' => ∃ v, e = .returned v ∧ Buf w' w'' v (pbodyB C)) := fun w' t => dbody_any C ok ln hm lt na da ka sa ha nc dc kc sc hc w' (hp.keep t)
  unfold PV.v at HBD
  clear E
  generalize pbodyB C = bd at *
  clear hp ln ok oa ha2 hm hs hl lt
  have HBL : Hid (65535 < (bd.length : Int) + 24 ∧ (bd.length : Int) ≤ 70000000000) := ⟨by omega, by omega⟩
  clear hbig hbl
  have HAL := fun w' => dalone_any C na da ka sa ha nc dc kc sc hc w'
  unfold PV.v at HAL
  unfold PV.v AuV.v

  obtain ⟨w0, hw0⟩ : ∃ w0, w0 = (w.alloc (.cells #[.int .u8 C.P.typ, .int .u32 C.P.router, .int .u32 C.P.area, .int .u32 C.P.mask, .int .u16 C.P.iv, .int .u8 C.P.opts, .int .u8 C.P.prio, .int .u32 C.P.dead, .int .u32 C.P.dr, .int .u32 C.P.bdr, .slice na C.nb.length nc, .int .u16 C.P.mtu, .int .u8 C.P.dopts, .int .u8 C.P.dflags, .int .u32 C.P.dseq, .slice da C.dh.length dc, .slice ka C.ks.length kc, .slice sa C.ss.length sc, .slice ha C.hs.length hc] 33)).alloc (.cells #[.int .u16 A.kind, .int .u8 A.d0, .int .u8 A.d1, .int .u8 A.d2, .int .u8 A.d3, .int .u8 A.d4, .int .u8 A.d5, .int .u8 A.d6, .int .u8 A.d7] 36) := ⟨_, rfl⟩
  have ta : Touch (fun _ => False) w w0 := by rw [hw0]; exact ((Touch.refl _ w).alloc _).alloc _
  have A0 : Row w0 w.heap.size 33 [.int .u8 C.P.typ, .int .u32 C.P.router, .int .u32 C.P.area, .int .u32 C.P.mask, .int .u16 C.P.iv, .int .u8 C.P.opts, .int .u8 C.P.prio, .int .u32 C.P.dead, .int .u32 C.P.dr, .int .u32 C.P.bdr, .slice na C.nb.length nc, .int .u16 C.P.mtu, .int .u8 C.P.dopts, .int .u8 C.P.dflags, .int .u32 C.P.dseq, .slice da C.dh.length dc, .slice ka C.ks.length kc, .slice sa C.ss.length sc, .slice ha C.hs.length hc] := by rw [hw0]; exact (row_new w 33 #[.int .u8 C.P.typ, .int .u32 C.P.router, .int .u32 C.P.area, .int .u32 C.P.mask, .int .u16 C.P.iv, .int .u8 C.P.opts, .int .u8 C.P.prio, .int .u32 C.P.dead, .int .u32 C.P.dr, .int .u32 C.P.bdr, .slice na C.nb.length nc, .int .u16 C.P.mtu, .int .u8 C.P.dopts, .int .u8 C.P.dflags, .int .u32 C.P.dseq, .slice da C.dh.length dc, .slice ka C.ks.length kc, .slice sa C.ss.length sc, .slice ha C.hs.length hc]).keep ((Touch.refl _ _).alloc _)
  have D0 : Row w0 (w.heap.size + 1) 36 [.int .u16 A.kind, .int .u8 A.d0, .int .u8 A.d1, .int .u8 A.d2, .int .u8 A.d3, .int .u8 A.d4, .int .u8 A.d5, .int .u8 A.d6, .int .u8 A.d7] := by
    have := row_new (w.alloc (.cells #[.int .u8 C.P.typ, .int .u32 C.P.router, .int .u32 C.P.area, .int .u32 C.P.mask, .int .u16 C.P.iv, .int .u8 C.P.opts, .int .u8 C.P.prio, .int .u32 C.P.dead, .int .u32 C.P.dr, .int .u32 C.P.bdr, .slice na C.nb.length nc, .int .u16 C.P.mtu, .int .u8 C.P.dopts, .int .u8 C.P.dflags, .int .u32 C.P.dseq, .slice da C.dh.length dc, .slice ka C.ks.length kc, .slice sa C.ss.length sc, .slice ha C.hs.length hc] 33)) 36 #[.int .u16 A.kind, .int .u8 A.d0, .int .u8 A.d1, .int .u8 A.d2, .int .u8 A.d3, .int .u8 A.d4, .int .u8 A.d5, .int .u8 A.d6, .int .u8 A.d7]
    rw [← hw0] at this
    simpa using this
  have AK : Hid (∀ w', Touch (fun _ => False) w0 w' → Row w' w.heap.size 33 [.int .u8 C.P.typ, .int .u32 C.P.router, .int .u32 C.P.area, .int .u32 C.P.mask, .int .u16 C.P.iv, .int .u8 C.P.opts, .int .u8 C.P.prio, .int .u32 C.P.dead, .int .u32 C.P.dr, .int .u32 C.P.bdr, .slice na C.nb.length nc, .int .u16 C.P.mtu, .int .u8 C.P.dopts, .int .u8 C.P.dflags, .int .u32 C.P.dseq, .slice da C.dh.length dc, .slice ka C.ks.length kc, .slice sa C.ss.length sc, .slice ha C.hs.length hc]) := fun w' t => A0.keep t
  have DK : Hid (∀ w', Touch (fun _ => False) w0 w' → Row w' (w.heap.size + 1) 36 [.int .u16 A.kind, .int .u8 A.d0, .int .u8 A.d1, .int .u8 A.d2, .int .u8 A.d3, .int .u8 A.d4, .int .u8 A.d5, .int .u8 A.d6, .int .u8 A.d7]) := fun w' t => D0.keep t
  have TA : Hid (Touch (fun _ => False) w w0) := ta
  clear ta D0
  go_enter Tryz.func10, Tryz.ntmps10
  go_upto_region 1 with fail
  rw [← hw0]
  clear hw0
  generalize w.heap.size + 1 = g2 at *
  generalize w.heap.size = g1 at *
  have c0 : w0.cell? ⟨g1, 0, none⟩ = some (.int .u8 C.P.typ) := A0.cell 0
  have h1 : ¬ C.P.typ < 1 := by omega
  have h5 : ¬ 5 < C.P.typ := by omega
  go_upto_region 3 with fail
  clear c0
  have R0 := A0.range
  go_wp2_with (refine wpList_load_mid rfl 33 (.tmp 2) rfl g1 0 rfl [.int .u8 C.P.typ, .int .u32 C.P.router, .int .u32 C.P.area, .int .u32 C.P.mask, .int .u16 C.P.iv, .int .u8 C.P.opts, .int .u8 C.P.prio, .int .u32 C.P.dead, .int .u32 C.P.dr, .int .u32 C.P.bdr, .slice na C.nb.length nc, .int .u16 C.P.mtu, .int .u8 C.P.dopts, .int .u8 C.P.dflags, .int .u32 C.P.dseq, .slice da C.dh.length dc, .slice ka C.ks.length kc, .slice sa C.ss.length sc, .slice ha C.hs.length hc] _ R0 Tryz.underlying33 rfl (by kernel_rfl) ?_)
  refine Calls.mono (HAL _) ?_
  rintro e w1 ⟨k, rfl, hk, t1⟩
  obtain rfl : k = true := hk.2 HPA.out
  have T1 : Hid (Touch (fun _ => False) w0 w1) := t1
  clear t1 R0 A0 HAL hk
  go_wp2_with fail
  go_loopg [6] C.ss.length (fun gg i wr => ∃ j : Nat, j ≤ C.ss.length ∧ C.ss.length - j ≤ gg ∧ i = .int .i64 (j : Int) ∧ Hid ((∀ i x, i < j → l[i]? = some x → x.h.len = 20 + (x.rs.length : Int)) ∧ Touch (fun _ => False) w0 wr))
  case atStart => exact ⟨0, Nat.zero_le _, by omega, rfl, ⟨fun i x hi => by omega, T1.out⟩⟩
  case round =>
    clear T1
    obtain ⟨j, hj, hg, rfl, B0⟩ := hrel
    have q17 := (AK.out _ B0.out.2).cell 17
    rcases Nat.lt_or_ge j C.ss.length with hlt | hge
    · have hlt' : (j : Int) < (C.ss.length : Int) := by omega
      have hk0 : (0 : Int) ≤ (j : Int) := by omega
      obtain ⟨x, hx⟩ : ∃ x, l[j]? = some x := ⟨l[j]'(by have := HLL.out; omega), List.getElem?_eq_getElem _⟩
      obtain ⟨ox, gR, off, cR, eR, hcell⟩ := StatesAt.one (HS.out wr (TA.out.trans B0.out.2)) hx
      simp only [Value.slice.injEq] at eR
      obtain ⟨rfl, -, rfl⟩ := eR
      obtain ⟨xa, xc, hxv, -⟩ := ox.arg.form
      have r7 : wr.cell? ⟨gR, off + j * 9 + 7, none⟩ = some (.int .u16 x.h.len) := by rw [Nat.add_assoc]; exact hcell 7 _ rfl
      have r8 : wr.cell? ⟨gR, off + j * 9 + 8, none⟩ = some (.slice xa x.rs.length xc) := by rw [Nat.add_assoc]; exact hcell 8 _ (by simp [SE.cells, hxv])
      have hb := ox.all.l
      have HX : Hid (l[j]? = some x) := hx
      have hxr : x.rs.length ≤ 1000000 := HLB.out x (List.mem_of_getElem? hx)
      have hkw : wrap64 ((j : Int) + 1) = (j : Int) + 1 := by unfold wrap64; omega
      have z17 := aft_cell q17
      have z7 := aft_cell r7
      have z8 := aft_cell r8
      clear hcell hx ox hxv
      go_upto_region 8 with fail
      refine wp_region_aft (by kernel_rfl) (by kernel_rfl) ?_
      repeat (first | go_big_quiet_skip | (go_big_quiet_want; go_big_quiet_op; first | go_big_quiet_on | (refine Exists.intro _ ⟨fun _ => rfl, ?_⟩; go_big_quiet_on)))
      refine wpQuiet_nil ?_
      rintro wq ⟨⟨_, hgq⟩, rfl⟩
      have TQ : Hid (Touch (fun _ => False) w0 wq) := B0.out.2.trans hgq
      have BQ : Hid (∀ i x, i < j → l[i]? = some x → x.h.len = 20 + (x.rs.length : Int)) := B0.out.1
      clear q17 r7 r8 z17 z7 z8 hgq B0
      by_cases hx7 : x.h.len = 20 + (x.rs.length : Int)
      · have hme : (x.h.len != 20 + (x.rs.length : Int)) = false := by simpa using hx7
        have H7 : Hid (x.h.len = 20 + (x.rs.length : Int)) := hx7
        clear hx7
        go_wp2_with fail
        go_roundg (C.ss.length - (j + 1))
        case measure => omega
        case rel =>
          refine ⟨j + 1, by omega, by omega, by go_num, ⟨fun i y hi hy => ?_, TQ.out⟩⟩
          rcases Nat.lt_or_ge i j with h | h
          · exact BQ.out i y h hy
          · obtain rfl : i = j := by omega
            have e : y = x := Option.some.inj (hy.symm.trans HX.out)
            rw [e]
            exact H7.out
      · exact (hx7 (HM.out x (List.mem_of_getElem? HX.out))).elim
    · obtain rfl : j = C.ss.length := by omega
      have hlt' : ¬ (C.ss.length : Int) < (C.ss.length : Int) := by omega
      have TZ : Hid (Touch (fun _ => False) w0 wr) := B0.out.2
      have k0 := (DK.out _ B0.out.2).cell 0
      have A1 := AK.out _ B0.out.2
      clear B0 HM HS HLL HLB
      go_upto_region 12 with fail
      clear k0 q17
      have R0 := A1.range
      go_wp2_with (refine wpList_load_mid rfl 33 (.tmp 2) rfl g1 0 rfl [.int .u8 C.P.typ, .int .u32 C.P.router, .int .u32 C.P.area, .int .u32 C.P.mask, .int .u16 C.P.iv, .int .u8 C.P.opts, .int .u8 C.P.prio, .int .u32 C.P.dead, .int .u32 C.P.dr, .int .u32 C.P.bdr, .slice na C.nb.length nc, .int .u16 C.P.mtu, .int .u8 C.P.dopts, .int .u8 C.P.dflags, .int .u32 C.P.dseq, .slice da C.dh.length dc, .slice ka C.ks.length kc, .slice sa C.ss.length sc, .slice ha C.hs.length hc] _ R0 Tryz.underlying33 rfl (by kernel_rfl) ?_)
      refine Calls.mono (HBD.out _ (TA.out.trans TZ.out)) ?_
      rintro e wb ⟨vb, rfl, bb⟩
      obtain ⟨ba, bc, eb⟩ := bb.form
      subst eb
      have TB : Hid (Touch (fun _ => False) w0 wb) := TZ.out.trans bb.t
      have HBB : Hid (∀ w', Touch (fun _ => False) wb w' → ArgAt w' (.slice ba bd.length bc) bd) := fun w' t => bb.arg.keepN t
      clear bb R0 A1 HBD TZ
      obtain ⟨N, hN⟩ : ∃ N : Int, N = (bd.length : Int) + 24 := ⟨_, rfl⟩
      have HN : Hid (N = (bd.length : Int) + 24) := hN
      have hwr : wrap64 ((bd.length : Int) + 24) = N := by have := HBL.out; rw [hN]; unfold wrap64; omega
      have hN0 : 0 ≤ N := by omega
      have hN1 : 65535 < N := by have := HBL.out; omega
      clear hN
      go_wp2_with fail
      go_ret2
      exact ⟨_, rfl, Buf.nil (TA.out.trans TB.out)⟩
set_option maxHeartbeats 8000000 in
theorem denc_k2 (C : PkC) (ok : C.Ok) (lt : C.Lt) (ln : C.Ln) (A : AuV) (oa : A.Ok) (na da ka sa ha : Option Addr) (nc dc kc sc hc : Nat) (w : World) (hp : PkAt w C (.slice na C.nb.length nc) (.slice da C.dh.length dc) (.slice ka C.ks.length kc) (.slice sa C.ss.length sc) (.slice ha C.hs.length hc)) (ht : 1 ≤ C.P.typ ∧ C.P.typ ≤ 5) (ha2 : PAlone C) (hm : pmeas C = true) (hk2 : A.kind ≤ 2) (hbig : 24 + (pbodyB C).length ≤ 65535) (hk : A.kind = 2) : Calls Tryz.prog 10 #[C.P.v (.slice na C.nb.length nc) (.slice da C.dh.length dc) (.slice ka C.ks.length kc) (.slice sa C.ss.length sc) (.slice ha C.hs.length hc), A.v] w fun e w' => ∃ v, e = .returned (.tuple #[v, .int .i64 (pencE C A)]) ∧ Buf w w' v (pencB C A) := by
  have E : PEnc C A := ⟨ht, ha2, hm, hk2, hbig⟩
  have EB : pencB C A = phead2 C.P A (24 + ((pbodyB C).length : Int)) (psum C.P A (24 + ((pbodyB C).length : Int)) (pbodyB C)) ++ pbodyB C := by unfold pencB; rw [if_pos E.zero, sealed_form]
  rw [E.zero, EB]
  clear EB
  rw [show psum C.P A (24 + ((pbodyB C).length : Int)) (pbodyB C) = 0 by unfold psum; rw [if_pos hk]]
  have HPA : Hid (PAlone C) := ha2
  have OK : Hid C.Ok := ok
  have OA : Hid A.Ok := oa
  obtain ⟨l, hl, hs⟩ := hp.s
  have hnn : C.ss.length ≤ 1000000 := lt.n
  have HLL : Hid (l.length = C.ss.length) := by show _ = _; rw [← hl, List.length_map]
  have HS : Hid (∀ w', Touch (fun _ => False) w w' → StatesAt w' (.slice sa C.ss.length sc) l) := fun w' t => hs.keep t
  have HLB : Hid (∀ x ∈ l, x.rs.length ≤ 1000000) := fun x hx => lt.b x.p (by rw [← hl]; exact List.mem_map_of_mem hx)
  have HM : Hid (∀ x ∈ l, x.h.len = 20 + (x.rs.length : Int)) := fun x hx => by
    unfold pmeas at hm
    have h1 := List.all_eq_true.1 hm x.p (by rw [← hl]; exact List.mem_map_of_mem hx)
    exact of_decide_eq_true h1
  have HBDT : Hid (∀ z ∈ pbodyB C, 0 ≤ z ∧ z < 256) := pbody_bt C ok
  have HBD : Hid (∀ w', Touch (fun _ => False) w w' → Calls Tryz.prog 37 #[C.P.v (.slice na C.nb.length nc) (.slice da C.dh.length dc) (.slice ka C.ks.length kc) (.slice sa C.ss.length sc) (.slice ha C.hs.length hc)] w' fun e w'' => ∃ v, e = .returned v ∧ Buf w' w'' v (pbodyB C)) := fun w' t => dbody_any C ok ln hm lt na da ka sa ha nc dc kc sc hc w' (hp.keep t)
  unfold PV.v at HBD
  clear E
  generalize pbodyB C = bd at *
  clear hp ln ok oa ha2 hm hs hl lt
  obtain ⟨FL, hFL⟩ : ∃ FL, FL = phead2 C.P A (24 + (bd.length : Int)) 0 ++ bd := ⟨_, rfl⟩
  rw [← hFL]
  have HFL : Hid (FL = phead2 C.P A (24 + (bd.length : Int)) 0 ++ bd) := hFL
  clear hFL
  have HBL : Hid ((bd.length : Int) + 24 ≤ 65535 ∧ True) := ⟨by omega, trivial⟩
  clear hbig
  have HKB : Hid ((A.kind != 2) = false) := by show _ = _; simp [hk]
  clear hk
  have HAL := fun w' => dalone_any C na da ka sa ha nc dc kc sc hc w'
  unfold PV.v at HAL
  unfold PV.v AuV.v

  obtain ⟨w0, hw0⟩ : ∃ w0, w0 = (w.alloc (.cells #[.int .u8 C.P.typ, .int .u32 C.P.router, .int .u32 C.P.area, .int .u32 C.P.mask, .int .u16 C.P.iv, .int .u8 C.P.opts, .int .u8 C.P.prio, .int .u32 C.P.dead, .int .u32 C.P.dr, .int .u32 C.P.bdr, .slice na C.nb.length nc, .int .u16 C.P.mtu, .int .u8 C.P.dopts, .int .u8 C.P.dflags, .int .u32 C.P.dseq, .slice da C.dh.length dc, .slice ka C.ks.length kc, .slice sa C.ss.length sc, .slice ha C.hs.length hc] 33)).alloc (.cells #[.int .u16 A.kind, .int .u8 A.d0, .int .u8 A.d1, .int .u8 A.d2, .int .u8 A.d3, .int .u8 A.d4, .int .u8 A.d5, .int .u8 A.d6, .int .u8 A.d7] 36) := ⟨_, rfl⟩
  have ta : Touch (fun _ => False) w w0 := by rw [hw0]; exact ((Touch.refl _ w).alloc _).alloc _
  have A0 : Row w0 w.heap.size 33 [.int .u8 C.P.typ, .int .u32 C.P.router, .int .u32 C.P.area, .int .u32 C.P.mask, .int .u16 C.P.iv, .int .u8 C.P.opts, .int .u8 C.P.prio, .int .u32 C.P.dead, .int .u32 C.P.dr, .int .u32 C.P.bdr, .slice na C.nb.length nc, .int .u16 C.P.mtu, .int .u8 C.P.dopts, .int .u8 C.P.dflags, .int .u32 C.P.dseq, .slice da C.dh.length dc, .slice ka C.ks.length kc, .slice sa C.ss.length sc, .slice ha C.hs.length hc] := by rw [hw0]; exact (row_new w 33 #[.int .u8 C.P.typ, .int .u32 C.P.router, .int .u32 C.P.area, .int .u32 C.P.mask, .int .u16 C.P.iv, .int .u8 C.P.opts, .int .u8 C.P.prio, .int .u32 C.P.dead, .int .u32 C.P.dr, .int .u32 C.P.bdr, .slice na C.nb.length nc, .int .u16 C.P.mtu, .int .u8 C.P.dopts, .int .u8 C.P.dflags, .int .u32 C.P.dseq, .slice da C.dh.length dc, .slice ka C.ks.length kc, .slice sa C.ss.length sc, .slice ha C.hs.length hc]).keep ((Touch.refl _ _).alloc _)
  have D0 : Row w0 (w.heap.size + 1) 36 [.int .u16 A.kind, .int .u8 A.d0, .int .u8 A.d1, .int .u8 A.d2, .int .u8 A.d3, .int .u8 A.d4, .int .u8 A.d5, .int .u8 A.d6, .int .u8 A.d7] := by
    have := row_new (w.alloc (.cells #[.int .u8 C.P.typ, .int .u32 C.P.router, .int .u32 C.P.area, .int .u32 C.P.mask, .int .u16 C.P.iv, .int .u8 C.P.opts, .int .u8 C.P.prio, .int .u32 C.P.dead, .int .u32 C.P.dr, .int .u32 C.P.bdr, .slice na C.nb.length nc, .int .u16 C.P.mtu, .int .u8 C.P.dopts, .int .u8 C.P.dflags, .int .u32 C.P.dseq, .slice da C.dh.length dc, .slice ka C.ks.length kc, .slice sa C.ss.length sc, .slice ha C.hs.length hc] 33)) 36 #[.int .u16 A.kind, .int .u8 A.d0, .int .u8 A.d1, .int .u8 A.d2, .int .u8 A.d3, .int .u8 A.d4, .int .u8 A.d5, .int .u8 A.d6, .int .u8 A.d7]
    rw [← hw0] at this
    simpa using this
  have AK : Hid (∀ w', Touch (fun _ => False) w0 w' → Row w' w.heap.size 33 [.int .u8 C.P.typ, .int .u32 C.P.router, .int .u32 C.P.area, .int .u32 C.P.mask, .int .u16 C.P.iv, .int .u8 C.P.opts, .int .u8 C.P.prio, .int .u32 C.P.dead, .int .u32 C.P.dr, .int .u32 C.P.bdr, .slice na C.nb.length nc, .int .u16 C.P.mtu, .int .u8 C.P.dopts, .int .u8 C.P.dflags, .int .u32 C.P.dseq, .slice da C.dh.length dc, .slice ka C.ks.length kc, .slice sa C.ss.length sc, .slice ha C.hs.length hc]) := fun w' t => A0.keep t
  have DK : Hid (∀ w', Touch (fun _ => False) w0 w' → Row w' (w.heap.size + 1) 36 [.int .u16 A.kind, .int .u8 A.d0, .int .u8 A.d1, .int .u8 A.d2, .int .u8 A.d3, .int .u8 A.d4, .int .u8 A.d5, .int .u8 A.d6, .int .u8 A.d7]) := fun w' t => D0.keep t
  have TA : Hid (Touch (fun _ => False) w w0) := ta
  clear ta D0
  go_enter Tryz.func10, Tryz.ntmps10
  go_upto_region 1 with fail
  rw [← hw0]
  clear hw0
  generalize w.heap.size + 1 = g2 at *
  generalize w.heap.size = g1 at *
  have c0 : w0.cell? ⟨g1, 0, none⟩ = some (.int .u8 C.P.typ) := A0.cell 0
  have h1 : ¬ C.P.typ < 1 := by omega
  have h5 : ¬ 5 < C.P.typ := by omega
  go_upto_region 3 with fail
  clear c0
  have R0 := A0.range
  go_wp2_with (refine wpList_load_mid rfl 33 (.tmp 2) rfl g1 0 rfl [.int .u8 C.P.typ, .int .u32 C.P.router, .int .u32 C.P.area, .int .u32 C.P.mask, .int .u16 C.P.iv, .int .u8 C.P.opts, .int .u8 C.P.prio, .int .u32 C.P.dead, .int .u32 C.P.dr, .int .u32 C.P.bdr, .slice na C.nb.length nc, .int .u16 C.P.mtu, .int .u8 C.P.dopts, .int .u8 C.P.dflags, .int .u32 C.P.dseq, .slice da C.dh.length dc, .slice ka C.ks.length kc, .slice sa C.ss.length sc, .slice ha C.hs.length hc] _ R0 Tryz.underlying33 rfl (by kernel_rfl) ?_)
  refine Calls.mono (HAL _) ?_
  rintro e w1 ⟨k, rfl, hk, t1⟩
  obtain rfl : k = true := hk.2 HPA.out
  have T1 : Hid (Touch (fun _ => False) w0 w1) := t1
  clear t1 R0 A0 HAL hk
  go_wp2_with fail
  go_loopg [6] C.ss.length (fun gg i wr => ∃ j : Nat, j ≤ C.ss.length ∧ C.ss.length - j ≤ gg ∧ i = .int .i64 (j : Int) ∧ Hid ((∀ i x, i < j → l[i]? = some x → x.h.len = 20 + (x.rs.length : Int)) ∧ Touch (fun _ => False) w0 wr))
  case atStart => exact ⟨0, Nat.zero_le _, by omega, rfl, ⟨fun i x hi => by omega, T1.out⟩⟩
  case round =>
    clear T1
    obtain ⟨j, hj, hg, rfl, B0⟩ := hrel
    have q17 := (AK.out _ B0.out.2).cell 17
    rcases Nat.lt_or_ge j C.ss.length with hlt | hge
    · have hlt' : (j : Int) < (C.ss.length : Int) := by omega
      have hk0 : (0 : Int) ≤ (j : Int) := by omega
      obtain ⟨x, hx⟩ : ∃ x, l[j]? = some x := ⟨l[j]'(by have := HLL.out; omega), List.getElem?_eq_getElem _⟩
      obtain ⟨ox, gR, off, cR, eR, hcell⟩ := StatesAt.one (HS.out wr (TA.out.trans B0.out.2)) hx
      simp only [Value.slice.injEq] at eR
      obtain ⟨rfl, -, rfl⟩ := eR
      obtain ⟨xa, xc, hxv, -⟩ := ox.arg.form
      have r7 : wr.cell? ⟨gR, off + j * 9 + 7, none⟩ = some (.int .u16 x.h.len) := by rw [Nat.add_assoc]; exact hcell 7 _ rfl
      have r8 : wr.cell? ⟨gR, off + j * 9 + 8, none⟩ = some (.slice xa x.rs.length xc) := by rw [Nat.add_assoc]; exact hcell 8 _ (by simp [SE.cells, hxv])
      have hb := ox.all.l
      have HX : Hid (l[j]? = some x) := hx
      have hxr : x.rs.length ≤ 1000000 := HLB.out x (List.mem_of_getElem? hx)
      have hkw : wrap64 ((j : Int) + 1) = (j : Int) + 1 := by unfold wrap64; omega
      have z17 := aft_cell q17
      have z7 := aft_cell r7
      have z8 := aft_cell r8
      clear hcell hx ox hxv
      go_upto_region 8 with fail
      refine wp_region_aft (by kernel_rfl) (by kernel_rfl) ?_
      repeat (first | go_big_quiet_skip | (go_big_quiet_want; go_big_quiet_op; first | go_big_quiet_on | (refine Exists.intro _ ⟨fun _ => rfl, ?_⟩; go_big_quiet_on)))
      refine wpQuiet_nil ?_
      rintro wq ⟨⟨_, hgq⟩, rfl⟩
      have TQ : Hid (Touch (fun _ => False) w0 wq) := B0.out.2.trans hgq
      have BQ : Hid (∀ i x, i < j → l[i]? = some x → x.h.len = 20 + (x.rs.length : Int)) := B0.out.1
      clear q17 r7 r8 z17 z7 z8 hgq B0
      by_cases hx7 : x.h.len = 20 + (x.rs.length : Int)
      · have hme : (x.h.len != 20 + (x.rs.length : Int)) = false := by simpa using hx7
        have H7 : Hid (x.h.len = 20 + (x.rs.length : Int)) := hx7
        clear hx7
        go_wp2_with fail
        go_roundg (C.ss.length - (j + 1))
        case measure => omega
        case rel =>
          refine ⟨j + 1, by omega, by omega, by go_num, ⟨fun i y hi hy => ?_, TQ.out⟩⟩
          rcases Nat.lt_or_ge i j with h | h
          · exact BQ.out i y h hy
          · obtain rfl : i = j := by omega
            have e : y = x := Option.some.inj (hy.symm.trans HX.out)
            rw [e]
            exact H7.out
      · exact (hx7 (HM.out x (List.mem_of_getElem? HX.out))).elim
    · obtain rfl : j = C.ss.length := by omega
      have hlt' : ¬ (C.ss.length : Int) < (C.ss.length : Int) := by omega
      have TZ : Hid (Touch (fun _ => False) w0 wr) := B0.out.2
      have k0 := (DK.out _ B0.out.2).cell 0
      have A1 := AK.out _ B0.out.2
      clear B0 HM HS HLL HLB
      go_upto_region 12 with fail
      clear k0 q17
      have R0 := A1.range
      go_wp2_with (refine wpList_load_mid rfl 33 (.tmp 2) rfl g1 0 rfl [.int .u8 C.P.typ, .int .u32 C.P.router, .int .u32 C.P.area, .int .u32 C.P.mask, .int .u16 C.P.iv, .int .u8 C.P.opts, .int .u8 C.P.prio, .int .u32 C.P.dead, .int .u32 C.P.dr, .int .u32 C.P.bdr, .slice na C.nb.length nc, .int .u16 C.P.mtu, .int .u8 C.P.dopts, .int .u8 C.P.dflags, .int .u32 C.P.dseq, .slice da C.dh.length dc, .slice ka C.ks.length kc, .slice sa C.ss.length sc, .slice ha C.hs.length hc] _ R0 Tryz.underlying33 rfl (by kernel_rfl) ?_)
      refine Calls.mono (HBD.out _ (TA.out.trans TZ.out)) ?_
      rintro e wb ⟨vb, rfl, bb⟩
      obtain ⟨ba, bc, eb⟩ := bb.form
      subst eb
      have TB : Hid (Touch (fun _ => False) w0 wb) := TZ.out.trans bb.t
      have HBB : Hid (∀ w', Touch (fun _ => False) wb w' → ArgAt w' (.slice ba bd.length bc) bd) := fun w' t => bb.arg.keepN t
      clear bb R0 A1 HBD TZ
      obtain ⟨N, hN⟩ : ∃ N : Int, N = (bd.length : Int) + 24 := ⟨_, rfl⟩
      have HN : Hid (N = (bd.length : Int) + 24) := hN
      have hwr : wrap64 ((bd.length : Int) + 24) = N := by have := HBL.out; rw [hN]; unfold wrap64; omega
      have hN0 : 0 ≤ N := by omega
      have hN1 : N ≤ 65535 := by have := HBL.out; omega
      clear hN
      have q0 := (AK.out _ TB.out).cell 0
      go_upto_region 16 with fail
      clear q0
      have B1 : Hid (Buf wb (wb.alloc (.cells #[.int .u8 2, .int .u8 C.P.typ] 5)) (.slice (some ⟨wb.heap.size, 0, none⟩) 2 2) [2, C.P.typ]) := buf_lit2 (Touch.refl _ _) 2 C.P.typ
      generalize wb.alloc (.cells #[.int .u8 2, .int .u8 C.P.typ] 5) = x1 at *
      generalize Option.some (⟨wb.heap.size, 0, none⟩ : Addr) = gb at *
      have hu16 : IntKind.u16.wrap N = N := by simp [IntKind.wrap, IntKind.bits, IntKind.signed]; omega
      go_wp2_with fail
      refine Calls.mono (dtwo7 N _ (by omega) (by omega)) ?_
      rintro e y1 ⟨u1, rfl, d1⟩
      have D1 : Hid (ArgAt y1 u1 (numBytes 2 N)) := d1.arg
      have E1 : Hid (Buf wb y1 _ ([2, C.P.typ])) := B1.out.keep d1.t
      clear d1 B1
      go_wp2_with (at_builtin; refine app_arg rfl (.tmp 57) (.tmp 62) rfl wb _ _ rfl E1.out _ _ rfl D1.out (by simp [numBytes]) ?_)
      intro v2 x2 b2
      have B2 : Hid (Buf wb x2 v2 ([2, C.P.typ] ++ numBytes 2 N)) := by show Buf _ _ _ _; simpa using b2
      clear b2 D1 E1
      have qAK1 := (AK.out _ (TB.out.trans B2.out.t)).cell 1
      go_wp2_with fail
      refine Calls.mono (dfour7 C.P.router _ OK.out.P.router.1 OK.out.P.router.2) ?_
      rintro e y2 ⟨u2, rfl, d2⟩
      have D2 : Hid (ArgAt y2 u2 (numBytes 4 C.P.router)) := d2.arg
      have E2 : Hid (Buf wb y2 _ ([2, C.P.typ] ++ numBytes 2 N)) := B2.out.keep d2.t
      clear d2 B2 qAK1
      go_wp2_with (at_builtin; refine app_arg rfl (.tmp 64) (.tmp 67) rfl wb _ _ rfl E2.out _ _ rfl D2.out (by simp [numBytes]) ?_)
      intro v3 x3 b3
      have B3 : Hid (Buf wb x3 v3 ([2, C.P.typ] ++ numBytes 2 N ++ numBytes 4 C.P.router)) := by show Buf _ _ _ _; simpa using b3
      clear b3 D2 E2
      have qAK2 := (AK.out _ (TB.out.trans B3.out.t)).cell 2
      go_wp2_with fail
      refine Calls.mono (dfour7 C.P.area _ OK.out.P.area.1 OK.out.P.area.2) ?_
      rintro e y3 ⟨u3, rfl, d3⟩
      have D3 : Hid (ArgAt y3 u3 (numBytes 4 C.P.area)) := d3.arg
      have E3 : Hid (Buf wb y3 _ ([2, C.P.typ] ++ numBytes 2 N ++ numBytes 4 C.P.router)) := B3.out.keep d3.t
      clear d3 B3 qAK2
      go_wp2_with (at_builtin; refine app_arg rfl (.tmp 69) (.tmp 72) rfl wb _ _ rfl E3.out _ _ rfl D3.out (by simp [numBytes]) ?_)
      intro v4 x4 b4
      have B4 : Hid (Buf wb x4 v4 ([2, C.P.typ] ++ numBytes 2 N ++ numBytes 4 C.P.router ++ numBytes 4 C.P.area)) := by show Buf _ _ _ _; simpa using b4
      clear b4 D3 E3
      go_wp2_with (at_builtin; refine app_two rfl (.tmp 74) (.tmp 75) rfl wb _ _ rfl B4.out 0 0 rfl (by simp [numBytes]) ?_)
      intro v5 x5 b5
      have B5 : Hid (Buf wb x5 v5 ([2, C.P.typ] ++ numBytes 2 N ++ numBytes 4 C.P.router ++ numBytes 4 C.P.area ++ [0, 0])) := b5
      clear b5 B4
      have qDK0 := (DK.out _ (TB.out.trans B5.out.t)).cell 0
      go_wp2_with fail
      refine Calls.mono (dtwo7 A.kind _ OA.out.kind.1 OA.out.kind.2) ?_
      rintro e y5 ⟨u5, rfl, d5⟩
      have D5 : Hid (ArgAt y5 u5 (numBytes 2 A.kind)) := d5.arg
      have E5 : Hid (Buf wb y5 _ ([2, C.P.typ] ++ numBytes 2 N ++ numBytes 4 C.P.router ++ numBytes 4 C.P.area ++ [0, 0])) := B5.out.keep d5.t
      clear d5 B5 qDK0
      go_wp2_with (at_builtin; refine app_arg rfl (.tmp 77) (.tmp 80) rfl wb _ _ rfl E5.out _ _ rfl D5.out (by simp [numBytes]) ?_)
      intro v6 x6 b6
      have B6 : Hid (Buf wb x6 v6 ([2, C.P.typ] ++ numBytes 2 N ++ numBytes 4 C.P.router ++ numBytes 4 C.P.area ++ [0, 0] ++ numBytes 2 A.kind)) := by show Buf _ _ _ _; simpa using b6
      clear b6 D5 E5
      go_wp2_with (at_builtin; refine app_arg rfl (.tmp 82) (.tmp 84) rfl wb _ _ rfl B6.out _ A.data rfl (row_ad (DK.out _ (TB.out.trans B6.out.t))).arg (by simp [numBytes, AuV.data]) ?_)
      intro v7 x7 b7
      have B7 : Hid (Buf wb x7 v7 ([2, C.P.typ] ++ numBytes 2 N ++ numBytes 4 C.P.router ++ numBytes 4 C.P.area ++ [0, 0] ++ numBytes 2 A.kind ++ A.data)) := b7
      clear b7 B6
      go_upto_region 23 with (at_builtin; refine app_arg rfl (.tmp 86) (.tmp 87) rfl wb _ _ rfl B7.out _ bd rfl (HBB.out _ B7.out.t) (by have := HBL.out; simp [numBytes, AuV.data]; omega) ?_; intro v8 x8 b8)
      have B8 : Hid (Buf wb x8 v8 (phead2 C.P A (24 + (bd.length : Int)) 0 ++ bd)) := by show Buf _ _ _ _; rw [← enc_list, ← HN.out]; exact b8
      clear b8 B7 HBB
      obtain ⟨v8a, v8c, e8⟩ := B8.out.form
      subst e8
      have qk := (DK.out _ (TB.out.trans B8.out.t)).cell 0
      have hkb := HKB.out
      clear hk2 HKB
      have HLN : Hid ((phead2 C.P A (24 + (bd.length : Int)) 0 ++ bd).length = 24 + bd.length) := by show _ = _; rw [List.length_append, length_phead2]
      have HBT : Hid (∀ z ∈ phead2 C.P A (24 + (bd.length : Int)) 0 ++ bd, 0 ≤ z ∧ z < 256) := head_bt C.P OK.out.P A OA.out _ bd HBDT.out
      generalize phead2 C.P A (24 + (bd.length : Int)) 0 ++ bd = L0 at *
      have FE : FL = L0 := HFL.out
      subst FE
      go_wp2_with fail
      go_ret2
      exact ⟨_, rfl, B8.out.back (TA.out.trans TB.out)⟩
set_option maxHeartbeats 8000000 in
theorem denc_ok (C : PkC) (ok : C.Ok) (lt : C.Lt) (ln : C.Ln) (A : AuV) (oa : A.Ok) (na da ka sa ha : Option Addr) (nc dc kc sc hc : Nat) (w : World) (hp : PkAt w C (.slice na C.nb.length nc) (.slice da C.dh.length dc) (.slice ka C.ks.length kc) (.slice sa C.ss.length sc) (.slice ha C.hs.length hc)) (ht : 1 ≤ C.P.typ ∧ C.P.typ ≤ 5) (ha2 : PAlone C) (hm : pmeas C = true) (hk2 : A.kind ≤ 2) (hbig : 24 + (pbodyB C).length ≤ 65535) (hk : ¬ A.kind = 2) : Calls Tryz.prog 10 #[C.P.v (.slice na C.nb.length nc) (.slice da C.dh.length dc) (.slice ka C.ks.length kc) (.slice sa C.ss.length sc) (.slice ha C.hs.length hc), A.v] w fun e w' => ∃ v, e = .returned (.tuple #[v, .int .i64 (pencE C A)]) ∧ Buf w w' v (pencB C A) := by
  have E : PEnc C A := ⟨ht, ha2, hm, hk2, hbig⟩
  have EB : pencB C A = phead2 C.P A (24 + ((pbodyB C).length : Int)) (psum C.P A (24 + ((pbodyB C).length : Int)) (pbodyB C)) ++ pbodyB C := by unfold pencB; rw [if_pos E.zero, sealed_form]
  rw [E.zero, EB]
  clear EB
  have HPS : psum C.P A (24 + ((pbodyB C).length : Int)) (pbodyB C) = 65535 - fold (W true (summedB (phead2 C.P A (24 + ((pbodyB C).length : Int)) 0 ++ pbodyB C))) := by unfold psum; rw [if_neg hk]
  rw [HPS]
  clear HPS
  have HPA : Hid (PAlone C) := ha2
  have OK : Hid C.Ok := ok
  have OA : Hid A.Ok := oa
  obtain ⟨l, hl, hs⟩ := hp.s
  have hnn : C.ss.length ≤ 1000000 := lt.n
  have HLL : Hid (l.length = C.ss.length) := by show _ = _; rw [← hl, List.length_map]
  have HS : Hid (∀ w', Touch (fun _ => False) w w' → StatesAt w' (.slice sa C.ss.length sc) l) := fun w' t => hs.keep t
  have HLB : Hid (∀ x ∈ l, x.rs.length ≤ 1000000) := fun x hx => lt.b x.p (by rw [← hl]; exact List.mem_map_of_mem hx)
  have HM : Hid (∀ x ∈ l, x.h.len = 20 + (x.rs.length : Int)) := fun x hx => by
    unfold pmeas at hm
    have h1 := List.all_eq_true.1 hm x.p (by rw [← hl]; exact List.mem_map_of_mem hx)
    exact of_decide_eq_true h1
  have HBDT : Hid (∀ z ∈ pbodyB C, 0 ≤ z ∧ z < 256) := pbody_bt C ok
  have HBD : Hid (∀ w', Touch (fun _ => False) w w' → Calls Tryz.prog 37 #[C.P.v (.slice na C.nb.length nc) (.slice da C.dh.length dc) (.slice ka C.ks.length kc) (.slice sa C.ss.length sc) (.slice ha C.hs.length hc)] w' fun e w'' => ∃ v, e = .returned v ∧ Buf w' w'' v (pbodyB C)) := fun w' t => dbody_any C ok ln hm lt na da ka sa ha nc dc kc sc hc w' (hp.keep t)
  unfold PV.v at HBD
  clear E
  generalize pbodyB C = bd at *
  clear hp ln ok oa ha2 hm hs hl lt
  obtain ⟨FL, hFL⟩ : ∃ FL, FL = phead2 C.P A (24 + (bd.length : Int)) (65535 - fold (W true (summedB (phead2 C.P A (24 + (bd.length : Int)) 0 ++ bd)))) ++ bd := ⟨_, rfl⟩
  rw [← hFL]
  have HFL : Hid (FL = phead2 C.P A (24 + (bd.length : Int)) (65535 - fold (W true (summedB (phead2 C.P A (24 + (bd.length : Int)) 0 ++ bd)))) ++ bd) := hFL
  clear hFL
  have HBL : Hid ((bd.length : Int) + 24 ≤ 65535 ∧ True) := ⟨by omega, trivial⟩
  clear hbig
  have HKB : Hid ((A.kind != 2) = true) := by show _ = _; simp [hk]
  clear hk
  have HAL := fun w' => dalone_any C na da ka sa ha nc dc kc sc hc w'
  unfold PV.v at HAL
  unfold PV.v AuV.v

  obtain ⟨w0, hw0⟩ : ∃ w0, w0 = (w.alloc (.cells #[.int .u8 C.P.typ, .int .u32 C.P.router, .int .u32 C.P.area, .int .u32 C.P.mask, .int .u16 C.P.iv, .int .u8 C.P.opts, .int .u8 C.P.prio, .int .u32 C.P.dead, .int .u32 C.P.dr, .int .u32 C.P.bdr, .slice na C.nb.length nc, .int .u16 C.P.mtu, .int .u8 C.P.dopts, .int .u8 C.P.dflags, .int .u32 C.P.dseq, .slice da C.dh.length dc, .slice ka C.ks.length kc, .slice sa C.ss.length sc, .slice ha C.hs.length hc] 33)).alloc (.cells #[.int .u16 A.kind, .int .u8 A.d0, .int .u8 A.d1, .int .u8 A.d2, .int .u8 A.d3, .int .u8 A.d4, .int .u8 A.d5, .int .u8 A.d6, .int .u8 A.d7] 36) := ⟨_, rfl⟩
  have ta : Touch (fun _ => False) w w0 := by rw [hw0]; exact ((Touch.refl _ w).alloc _).alloc _
  have A0 : Row w0 w.heap.size 33 [.int .u8 C.P.typ, .int .u32 C.P.router, .int .u32 C.P.area, .int .u32 C.P.mask, .int .u16 C.P.iv, .int .u8 C.P.opts, .int .u8 C.P.prio, .int .u32 C.P.dead, .int .u32 C.P.dr, .int .u32 C.P.bdr, .slice na C.nb.length nc, .int .u16 C.P.mtu, .int .u8 C.P.dopts, .int .u8 C.P.dflags, .int .u32 C.P.dseq, .slice da C.dh.length dc, .slice ka C.ks.length kc, .slice sa C.ss.length sc, .slice ha C.hs.length hc] := by rw [hw0]; exact (row_new w 33 #[.int .u8 C.P.typ, .int .u32 C.P.router, .int .u32 C.P.area, .int .u32 C.P.mask, .int .u16 C.P.iv, .int .u8 C.P.opts, .int .u8 C.P.prio, .int .u32 C.P.dead, .int .u32 C.P.dr, .int .u32 C.P.bdr, .slice na C.nb.length nc, .int .u16 C.P.mtu, .int .u8 C.P.dopts, .int .u8 C.P.dflags, .int .u32 C.P.dseq, .slice da C.dh.length dc, .slice ka C.ks.length kc, .slice sa C.ss.length sc, .slice ha C.hs.length hc]).keep ((Touch.refl _ _).alloc _)
  have D0 : Row w0 (w.heap.size + 1) 36 [.int .u16 A.kind, .int .u8 A.d0, .int .u8 A.d1, .int .u8 A.d2, .int .u8 A.d3, .int .u8 A.d4, .int .u8 A.d5, .int .u8 A.d6, .int .u8 A.d7] := by
    have := row_new (w.alloc (.cells #[.int .u8 C.P.typ, .int .u32 C.P.router, .int .u32 C.P.area, .int .u32 C.P.mask, .int .u16 C.P.iv, .int .u8 C.P.opts, .int .u8 C.P.prio, .int .u32 C.P.dead, .int .u32 C.P.dr, .int .u32 C.P.bdr, .slice na C.nb.length nc, .int .u16 C.P.mtu, .int .u8 C.P.dopts, .int .u8 C.P.dflags, .int .u32 C.P.dseq, .slice da C.dh.length dc, .slice ka C.ks.length kc, .slice sa C.ss.length sc, .slice ha C.hs.length hc] 33)) 36 #[.int .u16 A.kind, .int .u8 A.d0, .int .u8 A.d1, .int .u8 A.d2, .int .u8 A.d3, .int .u8 A.d4, .int .u8 A.d5, .int .u8 A.d6, .int .u8 A.d7]
    rw [← hw0] at this
    simpa using this
  have AK : Hid (∀ w', Touch (fun _ => False) w0 w' → Row w' w.heap.size 33 [.int .u8 C.P.typ, .int .u32 C.P.router, .int .u32 C.P.area, .int .u32 C.P.mask, .int .u16 C.P.iv, .int .u8 C.P.opts, .int .u8 C.P.prio, .int .u32 C.P.dead, .int .u32 C.P.dr, .int .u32 C.P.bdr, .slice na C.nb.length nc, .int .u16 C.P.mtu, .int .u8 C.P.dopts, .int .u8 C.P.dflags, .int .u32 C.P.dseq, .slice da C.dh.length dc, .slice ka C.ks.length kc, .slice sa C.ss.length sc, .slice ha C.hs.length hc]) := fun w' t => A0.keep t
  have DK : Hid (∀ w', Touch (fun _ => False) w0 w' → Row w' (w.heap.size + 1) 36 [.int .u16 A.kind, .int .u8 A.d0, .int .u8 A.d1, .int .u8 A.d2, .int .u8 A.d3, .int .u8 A.d4, .int .u8 A.d5, .int .u8 A.d6, .int .u8 A.d7]) := fun w' t => D0.keep t
  have TA : Hid (Touch (fun _ => False) w w0) := ta
  clear ta D0
  go_enter Tryz.func10, Tryz.ntmps10
  go_upto_region 1 with fail
  rw [← hw0]
  clear hw0
  generalize w.heap.size + 1 = g2 at *
  generalize w.heap.size = g1 at *
  have c0 : w0.cell? ⟨g1, 0, none⟩ = some (.int .u8 C.P.typ) := A0.cell 0
  have h1 : ¬ C.P.typ < 1 := by omega
  have h5 : ¬ 5 < C.P.typ := by omega
  go_upto_region 3 with fail
  clear c0
  have R0 := A0.range
  go_wp2_with (refine wpList_load_mid rfl 33 (.tmp 2) rfl g1 0 rfl [.int .u8 C.P.typ, .int .u32 C.P.router, .int .u32 C.P.area, .int .u32 C.P.mask, .int .u16 C.P.iv, .int .u8 C.P.opts, .int .u8 C.P.prio, .int .u32 C.P.dead, .int .u32 C.P.dr, .int .u32 C.P.bdr, .slice na C.nb.length nc, .int .u16 C.P.mtu, .int .u8 C.P.dopts, .int .u8 C.P.dflags, .int .u32 C.P.dseq, .slice da C.dh.length dc, .slice ka C.ks.length kc, .slice sa C.ss.length sc, .slice ha C.hs.length hc] _ R0 Tryz.underlying33 rfl (by kernel_rfl) ?_)
  refine Calls.mono (HAL _) ?_
  rintro e w1 ⟨k, rfl, hk, t1⟩
  obtain rfl : k = true := hk.2 HPA.out
  have T1 : Hid (Touch (fun _ => False) w0 w1) := t1
  clear t1 R0 A0 HAL hk
  go_wp2_with fail
  go_loopg [6] C.ss.length (fun gg i wr => ∃ j : Nat, j ≤ C.ss.length ∧ C.ss.length - j ≤ gg ∧ i = .int .i64 (j : Int) ∧ Hid ((∀ i x, i < j → l[i]? = some x → x.h.len = 20 + (x.rs.length : Int)) ∧ Touch (fun _ => False) w0 wr))
  case atStart => exact ⟨0, Nat.zero_le _, by omega, rfl, ⟨fun i x hi => by omega, T1.out⟩⟩
  case round =>
    clear T1
    obtain ⟨j, hj, hg, rfl, B0⟩ := hrel
    have q17 := (AK.out _ B0.out.2).cell 17
    rcases Nat.lt_or_ge j C.ss.length with hlt | hge
    · have hlt' : (j : Int) < (C.ss.length : Int) := by omega
      have hk0 : (0 : Int) ≤ (j : Int) := by omega
      obtain ⟨x, hx⟩ : ∃ x, l[j]? = some x := ⟨l[j]'(by have := HLL.out; omega), List.getElem?_eq_getElem _⟩
      obtain ⟨ox, gR, off, cR, eR, hcell⟩ := StatesAt.one (HS.out wr (TA.out.trans B0.out.2)) hx
      simp only [Value.slice.injEq] at eR
      obtain ⟨rfl, -, rfl⟩ := eR
      obtain ⟨xa, xc, hxv, -⟩ := ox.arg.form
      have r7 : wr.cell? ⟨gR, off + j * 9 + 7, none⟩ = some (.int .u16 x.h.len) := by rw [Nat.add_assoc]; exact hcell 7 _ rfl
      have r8 : wr.cell? ⟨gR, off + j * 9 + 8, none⟩ = some (.slice xa x.rs.length xc) := by rw [Nat.add_assoc]; exact hcell 8 _ (by simp [SE.cells, hxv])
      have hb := ox.all.l
      have HX : Hid (l[j]? = some x) := hx
      have hxr : x.rs.length ≤ 1000000 := HLB.out x (List.mem_of_getElem? hx)
      have hkw : wrap64 ((j : Int) + 1) = (j : Int) + 1 := by unfold wrap64; omega
      have z17 := aft_cell q17
      have z7 := aft_cell r7
      have z8 := aft_cell r8
      clear hcell hx ox hxv
      go_upto_region 8 with fail
      refine wp_region_aft (by kernel_rfl) (by kernel_rfl) ?_
      repeat (first | go_big_quiet_skip | (go_big_quiet_want; go_big_quiet_op; first | go_big_quiet_on | (refine Exists.intro _ ⟨fun _ => rfl, ?_⟩; go_big_quiet_on)))
      refine wpQuiet_nil ?_
      rintro wq ⟨⟨_, hgq⟩, rfl⟩
      have TQ : Hid (Touch (fun _ => False) w0 wq) := B0.out.2.trans hgq
      have BQ : Hid (∀ i x, i < j → l[i]? = some x → x.h.len = 20 + (x.rs.length : Int)) := B0.out.1
      clear q17 r7 r8 z17 z7 z8 hgq B0
      by_cases hx7 : x.h.len = 20 + (x.rs.length : Int)
      · have hme : (x.h.len != 20 + (x.rs.length : Int)) = false := by simpa using hx7
        have H7 : Hid (x.h.len = 20 + (x.rs.length : Int)) := hx7
        clear hx7
        go_wp2_with fail
        go_roundg (C.ss.length - (j + 1))
        case measure => omega
        case rel =>
          refine ⟨j + 1, by omega, by omega, by go_num, ⟨fun i y hi hy => ?_, TQ.out⟩⟩
          rcases Nat.lt_or_ge i j with h | h
          · exact BQ.out i y h hy
          · obtain rfl : i = j := by omega
            have e : y = x := Option.some.inj (hy.symm.trans HX.out)
            rw [e]
            exact H7.out
      · exact (hx7 (HM.out x (List.mem_of_getElem? HX.out))).elim
    · obtain rfl : j = C.ss.length := by omega
      have hlt' : ¬ (C.ss.length : Int) < (C.ss.length : Int) := by omega
      have TZ : Hid (Touch (fun _ => False) w0 wr) := B0.out.2
      have k0 := (DK.out _ B0.out.2).cell 0
      have A1 := AK.out _ B0.out.2
      clear B0 HM HS HLL HLB
      go_upto_region 12 with fail
      clear k0 q17
      have R0 := A1.range
      go_wp2_with (refine wpList_load_mid rfl 33 (.tmp 2) rfl g1 0 rfl [.int .u8 C.P.typ, .int .u32 C.P.router, .int .u32 C.P.area, .int .u32 C.P.mask, .int .u16 C.P.iv, .int .u8 C.P.opts, .int .u8 C.P.prio, .int .u32 C.P.dead, .int .u32 C.P.dr, .int .u32 C.P.bdr, .slice na C.nb.length nc, .int .u16 C.P.mtu, .int .u8 C.P.dopts, .int .u8 C.P.dflags, .int .u32 C.P.dseq, .slice da C.dh.length dc, .slice ka C.ks.length kc, .slice sa C.ss.length sc, .slice ha C.hs.length hc] _ R0 Tryz.underlying33 rfl (by kernel_rfl) ?_)
      refine Calls.mono (HBD.out _ (TA.out.trans TZ.out)) ?_
      rintro e wb ⟨vb, rfl, bb⟩
      obtain ⟨ba, bc, eb⟩ := bb.form
      subst eb
      have TB : Hid (Touch (fun _ => False) w0 wb) := TZ.out.trans bb.t
      have HBB : Hid (∀ w', Touch (fun _ => False) wb w' → ArgAt w' (.slice ba bd.length bc) bd) := fun w' t => bb.arg.keepN t
      clear bb R0 A1 HBD TZ
      obtain ⟨N, hN⟩ : ∃ N : Int, N = (bd.length : Int) + 24 := ⟨_, rfl⟩
      have HN : Hid (N = (bd.length : Int) + 24) := hN
      have hwr : wrap64 ((bd.length : Int) + 24) = N := by have := HBL.out; rw [hN]; unfold wrap64; omega
      have hN0 : 0 ≤ N := by omega
      have hN1 : N ≤ 65535 := by have := HBL.out; omega
      clear hN
      have q0 := (AK.out _ TB.out).cell 0
      go_upto_region 16 with fail
      clear q0
      have B1 : Hid (Buf wb (wb.alloc (.cells #[.int .u8 2, .int .u8 C.P.typ] 5)) (.slice (some ⟨wb.heap.size, 0, none⟩) 2 2) [2, C.P.typ]) := buf_lit2 (Touch.refl _ _) 2 C.P.typ
      generalize wb.alloc (.cells #[.int .u8 2, .int .u8 C.P.typ] 5) = x1 at *
      generalize Option.some (⟨wb.heap.size, 0, none⟩ : Addr) = gb at *
      have hu16 : IntKind.u16.wrap N = N := by simp [IntKind.wrap, IntKind.bits, IntKind.signed]; omega
      go_wp2_with fail
      refine Calls.mono (dtwo7 N _ (by omega) (by omega)) ?_
      rintro e y1 ⟨u1, rfl, d1⟩
      have D1 : Hid (ArgAt y1 u1 (numBytes 2 N)) := d1.arg
      have E1 : Hid (Buf wb y1 _ ([2, C.P.typ])) := B1.out.keep d1.t
      clear d1 B1
      go_wp2_with (at_builtin; refine app_arg rfl (.tmp 57) (.tmp 62) rfl wb _ _ rfl E1.out _ _ rfl D1.out (by simp [numBytes]) ?_)
      intro v2 x2 b2
      have B2 : Hid (Buf wb x2 v2 ([2, C.P.typ] ++ numBytes 2 N)) := by show Buf _ _ _ _; simpa using b2
      clear b2 D1 E1
      have qAK1 := (AK.out _ (TB.out.trans B2.out.t)).cell 1
      go_wp2_with fail
      refine Calls.mono (dfour7 C.P.router _ OK.out.P.router.1 OK.out.P.router.2) ?_
      rintro e y2 ⟨u2, rfl, d2⟩
      have D2 : Hid (ArgAt y2 u2 (numBytes 4 C.P.router)) := d2.arg
      have E2 : Hid (Buf wb y2 _ ([2, C.P.typ] ++ numBytes 2 N)) := B2.out.keep d2.t
      clear d2 B2 qAK1
      go_wp2_with (at_builtin; refine app_arg rfl (.tmp 64) (.tmp 67) rfl wb _ _ rfl E2.out _ _ rfl D2.out (by simp [numBytes]) ?_)
      intro v3 x3 b3
      have B3 : Hid (Buf wb x3 v3 ([2, C.P.typ] ++ numBytes 2 N ++ numBytes 4 C.P.router)) := by show Buf _ _ _ _; simpa using b3
      clear b3 D2 E2
      have qAK2 := (AK.out _ (TB.out.trans B3.out.t)).cell 2
      go_wp2_with fail
      refine Calls.mono (dfour7 C.P.area _ OK.out.P.area.1 OK.out.P.area.2) ?_
      rintro e y3 ⟨u3, rfl, d3⟩
      have D3 : Hid (ArgAt y3 u3 (numBytes 4 C.P.area)) := d3.arg
      have E3 : Hid (Buf wb y3 _ ([2, C.P.typ] ++ numBytes 2 N ++ numBytes 4 C.P.router)) := B3.out.keep d3.t
      clear d3 B3 qAK2
      go_wp2_with (at_builtin; refine app_arg rfl (.tmp 69) (.tmp 72) rfl wb _ _ rfl E3.out _ _ rfl D3.out (by simp [numBytes]) ?_)
      intro v4 x4 b4
      have B4 : Hid (Buf wb x4 v4 ([2, C.P.typ] ++ numBytes 2 N ++ numBytes 4 C.P.router ++ numBytes 4 C.P.area)) := by show Buf _ _ _ _; simpa using b4
      clear b4 D3 E3
      go_wp2_with (at_builtin; refine app_two rfl (.tmp 74) (.tmp 75) rfl wb _ _ rfl B4.out 0 0 rfl (by simp [numBytes]) ?_)
      intro v5 x5 b5
      have B5 : Hid (Buf wb x5 v5 ([2, C.P.typ] ++ numBytes 2 N ++ numBytes 4 C.P.router ++ numBytes 4 C.P.area ++ [0, 0])) := b5
      clear b5 B4
      have qDK0 := (DK.out _ (TB.out.trans B5.out.t)).cell 0
      go_wp2_with fail
      refine Calls.mono (dtwo7 A.kind _ OA.out.kind.1 OA.out.kind.2) ?_
      rintro e y5 ⟨u5, rfl, d5⟩
      have D5 : Hid (ArgAt y5 u5 (numBytes 2 A.kind)) := d5.arg
      have E5 : Hid (Buf wb y5 _ ([2, C.P.typ] ++ numBytes 2 N ++ numBytes 4 C.P.router ++ numBytes 4 C.P.area ++ [0, 0])) := B5.out.keep d5.t
      clear d5 B5 qDK0
      go_wp2_with (at_builtin; refine app_arg rfl (.tmp 77) (.tmp 80) rfl wb _ _ rfl E5.out _ _ rfl D5.out (by simp [numBytes]) ?_)
      intro v6 x6 b6
      have B6 : Hid (Buf wb x6 v6 ([2, C.P.typ] ++ numBytes 2 N ++ numBytes 4 C.P.router ++ numBytes 4 C.P.area ++ [0, 0] ++ numBytes 2 A.kind)) := by show Buf _ _ _ _; simpa using b6
      clear b6 D5 E5
      go_wp2_with (at_builtin; refine app_arg rfl (.tmp 82) (.tmp 84) rfl wb _ _ rfl B6.out _ A.data rfl (row_ad (DK.out _ (TB.out.trans B6.out.t))).arg (by simp [numBytes, AuV.data]) ?_)
      intro v7 x7 b7
      have B7 : Hid (Buf wb x7 v7 ([2, C.P.typ] ++ numBytes 2 N ++ numBytes 4 C.P.router ++ numBytes 4 C.P.area ++ [0, 0] ++ numBytes 2 A.kind ++ A.data)) := b7
      clear b7 B6
      go_upto_region 23 with (at_builtin; refine app_arg rfl (.tmp 86) (.tmp 87) rfl wb _ _ rfl B7.out _ bd rfl (HBB.out _ B7.out.t) (by have := HBL.out; simp [numBytes, AuV.data]; omega) ?_; intro v8 x8 b8)
      have B8 : Hid (Buf wb x8 v8 (phead2 C.P A (24 + (bd.length : Int)) 0 ++ bd)) := by show Buf _ _ _ _; rw [← enc_list, ← HN.out]; exact b8
      clear b8 B7 HBB
      obtain ⟨v8a, v8c, e8⟩ := B8.out.form
      subst e8
      have qk := (DK.out _ (TB.out.trans B8.out.t)).cell 0
      have hkb := HKB.out
      clear hk2 HKB
      have HLN : Hid ((phead2 C.P A (24 + (bd.length : Int)) 0 ++ bd).length = 24 + bd.length) := by show _ = _; rw [List.length_append, length_phead2]
      have HBT : Hid (∀ z ∈ phead2 C.P A (24 + (bd.length : Int)) 0 ++ bd, 0 ≤ z ∧ z < 256) := head_bt C.P OK.out.P A OA.out _ bd HBDT.out
      have HSP : Hid (∀ s, phead2 C.P A (24 + (bd.length : Int)) s ++ bd = splice (phead2 C.P A (24 + (bd.length : Int)) 0 ++ bd) 12 (numBytes 2 s)) := fun s => by show _ = _; simp [phead2, splice, numBytes2, numBytes4, AuV.data]
      generalize phead2 C.P A (24 + (bd.length : Int)) 0 ++ bd = L0 at *
      have hl12 : 12 < L0.length := by have := HLN.out; omega
      have hl13 : 13 < L0.length := by have := HLN.out; omega
      have HSM := dsummed_any _ L0 x8 B8.out.arg (by have := HLN.out; omega) (by have := HLN.out; have := HBL.out; omega)
      go_wp2_with fail
      refine Calls.mono HSM ?_
      rintro e y9 ⟨u9, rfl, b9⟩
      have B9 : Hid (Buf wb y9 (.slice v8a L0.length v8c) L0) := B8.out.keep b9.t
      have HPL := rplain_any u9 (summedB L0) y9 b9.arg (summedB_byte HBT.out) (by have := length_summedB L0; have := HLN.out; have := HBL.out; omega)
      have hfb := fold_bound (W true (summedB L0))
      clear b9 HSM B8 qk
      have HF2 := HFL.out
      rw [HSP.out] at HF2
      clear HFL
      generalize hS : 65535 - fold (W true (summedB L0)) = S at *
      have hS0 : 0 ≤ S := by omega
      have hS1 : S < 65536 := by omega
      clear hfb hS
      have HFL : Hid (FL = splice L0 12 (numBytes 2 S)) := HF2
      clear HF2
      go_wp2_with fail
      refine Calls.mono HPL ?_
      rintro e y10 ⟨rfl, rfl⟩
      clear HPL
      obtain ⟨gv, ev, hgv⟩ : ∃ g, v8a = some ⟨g, 0, none⟩ ∧ wb.heap.size ≤ g := by
        rcases B9.out.own.2 with ⟨h, h2⟩ | ⟨g, cap, cur, h, hg, _⟩
        · omega
        · cases h; exact ⟨g, rfl, hg⟩
      subst ev
      have HOW : Hid (y9.ownsRow wb.heap.size 5 1 (.slice (some ⟨gv, 0, none⟩) L0.length v8c) L0.length (bytesOf L0)) := B9.out.own
      have z12 : y9.cell? ⟨gv, 12, none⟩ = some (.int .u8 (L0.getD 12 0)) := by
        have e := HOW.out.cellAt 12 (by omega)
        rw [e, bytesOf_at (by omega)]
      have z13 : y9.cell? ⟨gv, 13, none⟩ = some (.int .u8 (L0.getD 13 0)) := by
        have e := HOW.out.cellAt 13 (by omega)
        rw [e, bytesOf_at (by omega)]
      have f12 : y9.frozen? ⟨gv, 12, none⟩ = false := HOW.out.frozenAt 12
      have f13 : y9.frozen? ⟨gv, 13, none⟩ = false := HOW.out.frozenAt 13
      have TT : Hid (Touch (fun _ => False) w y9) := TA.out.trans (TB.out.trans B9.out.t)
      have TSZ : Hid (w.heap.size ≤ wb.heap.size) := (TA.out.trans TB.out).size
      have HGV : Hid (wb.heap.size ≤ gv) := hgv
      clear B9 hgv
      go_wp2_with fail
      go_ret2
      have hlen : 14 ≤ L0.length := by omega
      have h1 := HGV.out
      have h2 := TSZ.out
      rw [HFL.out]
      exact ⟨_, rfl, own_lower (buf_two HOW.out hlen hS0 hS1) h2, (TT.out.setCell (Or.inr (by show _ ≤ gv; omega)) _).setCell (Or.inr (by show _ ≤ gv; omega)) _⟩
/-- Every way. -/
theorem denc_any (C : PkC) (ok : C.Ok) (lt : C.Lt) (ln : C.Ln) (A : AuV) (oa : A.Ok) (vn vd vk vs vh : Value) (w : World) (hp : PkAt w C vn vd vk vs vh) :
    Calls Tryz.prog 10 #[C.P.v vn vd vk vs vh, A.v] w fun e w' => ∃ v, e = .returned (.tuple #[v, .int .i64 (pencE C A)]) ∧ Buf w w' v (pencB C A) := by
  obtain ⟨na, nc, da, dc, ka, kc, sa, sc, ha, hc, rfl, rfl, rfl, rfl, rfl⟩ := hp.forms
  by_cases h1 : 1 ≤ C.P.typ ∧ C.P.typ ≤ 5
  rotate_left
  · exact denc_21 C ok lt ln A oa na da ka sa ha nc dc kc sc hc w hp h1
  by_cases h2 : PAlone C
  rotate_left
  · exact denc_24 C ok lt ln A oa na da ka sa ha nc dc kc sc hc w hp h1 h2
  cases h3 : pmeas C
  · exact denc_22 C ok lt ln A oa na da ka sa ha nc dc kc sc hc w hp h1 h2 h3
  by_cases h4 : 2 < A.kind
  · exact denc_25 C ok lt ln A oa na da ka sa ha nc dc kc sc hc w hp h1 h2 h3 h4
  by_cases h5 : 65535 < 24 + (pbodyB C).length
  · exact denc_11 C ok lt ln A oa na da ka sa ha nc dc kc sc hc w hp h1 h2 h3 (by omega) h5
  by_cases h6 : A.kind = 2
  · exact denc_k2 C ok lt ln A oa na da ka sa ha nc dc kc sc hc w hp h1 h2 h3 (by omega) (by omega) h6
  · exact denc_ok C ok lt ln A oa na da ka sa ha nc dc kc sc hc w hp h1 h2 h3 (by omega) (by omega) h6
end Go.Proofs.YtjgeklipeeooaaaGreatDoor
