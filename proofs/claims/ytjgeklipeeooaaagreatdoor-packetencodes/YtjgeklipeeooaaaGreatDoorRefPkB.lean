/- The document's side of stage 7: the bytes behind the head. -/
import Derived.Test.YtjgeklipeeooaaaGreatDoorRefPkN
import Derived.Test.YtjgeklipeeooaaaGreatDoorRefSeal
import Derived.Test.YtjgeklipeeooaaaGreatDoorStFaceH
import Derived.Test.YtjgeklipeeooaaaGreatDoorPkRows
namespace Go.Proofs.YtjgeklipeeooaaaGreatDoor
open Go.RowKit
set_option linter.unusedVariables false
set_option maxRecDepth 100000

theorem wordsB_take {l : List Int} {j : Nat} {x : Int} (h : l[j]? = some x) : wordsB (l.take (j + 1)) = wordsB (l.take j) ++ numBytes 4 x := by rw [take_snoc7 h, wordsB_snoc]
theorem keysB_take {l : List KV} {j : Nat} {x : KV} (h : l[j]? = some x) : keysB (l.take (j + 1)) = keysB (l.take j) ++ keyB x := by rw [take_snoc7 h, keysB_snoc]
theorem stsB_take {l : List SE} {j : Nat} {x : SE} (h : l[j]? = some x) : stsB (l.take (j + 1)) = stsB (l.take j) ++ stB x := by rw [take_snoc7 h, stsB_snoc]
set_option maxHeartbeats 4000000 in
theorem dbody_1 (C : PkC) (ok : C.Ok) (ht : C.P.typ = 1) (na da ka sa ha : Option Addr) (nc dc kc sc hc : Nat) (w : World) (hn : C.nb.length ≤ 1000000) (hv : WordsAt w (.slice na C.nb.length nc) C.nb) :
    Calls Tryz.prog 37 #[C.P.v (.slice na C.nb.length nc) (.slice da C.dh.length dc) (.slice ka C.ks.length kc) (.slice sa C.ss.length sc) (.slice ha C.hs.length hc)] w fun e w' => ∃ v, e = .returned v ∧ Buf w w' v (helloB C.P ++ wordsB C.nb) := by
  unfold PV.v
  have OK : Hid C.Ok := ok
  have n1 : (C.P.typ == 1) = true := by simp [ht]
  clear ht
  have HVQ : Hid (∀ w', Touch (fun _ => False) w w' → WordsAt w' (.slice na C.nb.length nc) C.nb) := fun w' t => ValsAt.keep hv t
  clear hv
  obtain ⟨w0, hw0⟩ : ∃ w0, w0 = w.alloc (.cells #[.int .u8 C.P.typ, .int .u32 C.P.router, .int .u32 C.P.area, .int .u32 C.P.mask, .int .u16 C.P.iv, .int .u8 C.P.opts, .int .u8 C.P.prio, .int .u32 C.P.dead, .int .u32 C.P.dr, .int .u32 C.P.bdr, .slice na C.nb.length nc, .int .u16 C.P.mtu, .int .u8 C.P.dopts, .int .u8 C.P.dflags, .int .u32 C.P.dseq, .slice da C.dh.length dc, .slice ka C.ks.length kc, .slice sa C.ss.length sc, .slice ha C.hs.length hc] 33) := ⟨_, rfl⟩
  have ta : Touch (fun _ => False) w w0 := by rw [hw0]; exact (Touch.refl _ w).alloc _
  have A0 : Row w0 w.heap.size 33 [.int .u8 C.P.typ, .int .u32 C.P.router, .int .u32 C.P.area, .int .u32 C.P.mask, .int .u16 C.P.iv, .int .u8 C.P.opts, .int .u8 C.P.prio, .int .u32 C.P.dead, .int .u32 C.P.dr, .int .u32 C.P.bdr, .slice na C.nb.length nc, .int .u16 C.P.mtu, .int .u8 C.P.dopts, .int .u8 C.P.dflags, .int .u32 C.P.dseq, .slice da C.dh.length dc, .slice ka C.ks.length kc, .slice sa C.ss.length sc, .slice ha C.hs.length hc] := by rw [hw0]; exact row_new w 33 #[.int .u8 C.P.typ, .int .u32 C.P.router, .int .u32 C.P.area, .int .u32 C.P.mask, .int .u16 C.P.iv, .int .u8 C.P.opts, .int .u8 C.P.prio, .int .u32 C.P.dead, .int .u32 C.P.dr, .int .u32 C.P.bdr, .slice na C.nb.length nc, .int .u16 C.P.mtu, .int .u8 C.P.dopts, .int .u8 C.P.dflags, .int .u32 C.P.dseq, .slice da C.dh.length dc, .slice ka C.ks.length kc, .slice sa C.ss.length sc, .slice ha C.hs.length hc]
  have AK : Hid (∀ w', Touch (fun _ => False) w0 w' → Row w' w.heap.size 33 [.int .u8 C.P.typ, .int .u32 C.P.router, .int .u32 C.P.area, .int .u32 C.P.mask, .int .u16 C.P.iv, .int .u8 C.P.opts, .int .u8 C.P.prio, .int .u32 C.P.dead, .int .u32 C.P.dr, .int .u32 C.P.bdr, .slice na C.nb.length nc, .int .u16 C.P.mtu, .int .u8 C.P.dopts, .int .u8 C.P.dflags, .int .u32 C.P.dseq, .slice da C.dh.length dc, .slice ka C.ks.length kc, .slice sa C.ss.length sc, .slice ha C.hs.length hc]) := fun w' t => A0.keep t
  have TA : Hid (Touch (fun _ => False) w w0) := ta
  clear ta ok
  go_enter Tryz.func37, Tryz.ntmps37
  go_upto_region 2 with fail
  rw [← hw0]
  clear hw0
  generalize w.heap.size = g at *
  have c0 : w0.cell? ⟨g, 0, none⟩ = some (.int .u8 C.P.typ) := A0.cell 0
  have c3 : w0.cell? ⟨g, 3, none⟩ = some (.int .u32 C.P.mask) := A0.cell 3
  have c4 : w0.cell? ⟨g, 4, none⟩ = some (.int .u16 C.P.iv) := A0.cell 4
  have c5 : w0.cell? ⟨g, 5, none⟩ = some (.int .u8 C.P.opts) := A0.cell 5
  have c6 : w0.cell? ⟨g, 6, none⟩ = some (.int .u8 C.P.prio) := A0.cell 6
  have c7 : w0.cell? ⟨g, 7, none⟩ = some (.int .u32 C.P.dead) := A0.cell 7
  have c8 : w0.cell? ⟨g, 8, none⟩ = some (.int .u32 C.P.dr) := A0.cell 8
  have c9 : w0.cell? ⟨g, 9, none⟩ = some (.int .u32 C.P.bdr) := A0.cell 9
  have c10 : w0.cell? ⟨g, 10, none⟩ = some (.slice na C.nb.length nc) := A0.cell 10
  go_upto_region 6 with fail
  clear c0 c3 c4 c5 c6 c7 c8 c9 c10
  have HR0 : Row (w0.alloc (.cells #[.int .u32 C.P.mask, .int .u16 C.P.iv, .int .u8 C.P.opts, .int .u8 C.P.prio, .int .u32 C.P.dead, .int .u32 C.P.dr, .int .u32 C.P.bdr, .slice na C.nb.length nc] 26)) w0.heap.size 26 [.int .u32 C.P.mask, .int .u16 C.P.iv, .int .u8 C.P.opts, .int .u8 C.P.prio, .int .u32 C.P.dead, .int .u32 C.P.dr, .int .u32 C.P.bdr, .slice na C.nb.length nc] := row_new w0 26 #[.int .u32 C.P.mask, .int .u16 C.P.iv, .int .u8 C.P.opts, .int .u8 C.P.prio, .int .u32 C.P.dead, .int .u32 C.P.dr, .int .u32 C.P.bdr, .slice na C.nb.length nc]
  have TB : Hid (Touch (fun _ => False) w (w0.alloc (.cells #[.int .u32 C.P.mask, .int .u16 C.P.iv, .int .u8 C.P.opts, .int .u8 C.P.prio, .int .u32 C.P.dead, .int .u32 C.P.dr, .int .u32 C.P.bdr, .slice na C.nb.length nc] 26))) := TA.out.alloc _
  clear A0 AK TA
  generalize w0.alloc (.cells #[.int .u32 C.P.mask, .int .u16 C.P.iv, .int .u8 C.P.opts, .int .u8 C.P.prio, .int .u32 C.P.dead, .int .u32 C.P.dr, .int .u32 C.P.bdr, .slice na C.nb.length nc] 26) = wa at *
  generalize w0.heap.size = g2 at *
  have HK : Hid (∀ w', Touch (fun _ => False) wa w' → Row w' g2 26 [.int .u32 C.P.mask, .int .u16 C.P.iv, .int .u8 C.P.opts, .int .u8 C.P.prio, .int .u32 C.P.dead, .int .u32 C.P.dr, .int .u32 C.P.bdr, .slice na C.nb.length nc]) := fun w' t => HR0.keep t
  clear HR0
  have B0 : Hid (Buf wa wa (.slice none 0 0) []) := Buf.nil (Touch.refl _ _)
  have q0 : _ := (HK.out _ B0.out.t).cell 0
  go_wp2_with fail
  refine Calls.mono (dfour7 C.P.mask _ OK.out.P.mask.1 OK.out.P.mask.2) ?_
  rintro e y0 ⟨u0, rfl, d0⟩
  have D0 : Hid (ArgAt y0 u0 (numBytes 4 C.P.mask)) := d0.arg
  have E0 : Hid (Buf wa y0 _ ([])) := B0.out.keep d0.t
  clear d0 B0 q0
  go_wp2_with (at_builtin; refine app_arg rfl (.tmp 17) (.tmp 20) rfl wa _ _ rfl E0.out _ _ rfl D0.out (by simp [numBytes]) ?_)
  intro v1 x1 b1
  have B1 : Hid (Buf wa x1 v1 (numBytes 4 C.P.mask)) := b1
  clear b1 D0 E0
  have q1 : _ := (HK.out _ B1.out.t).cell 1
  go_wp2_with fail
  refine Calls.mono (dtwo7 C.P.iv _ OK.out.P.iv.1 OK.out.P.iv.2) ?_
  rintro e y1 ⟨u1, rfl, d1⟩
  have D1 : Hid (ArgAt y1 u1 (numBytes 2 C.P.iv)) := d1.arg
  have E1 : Hid (Buf wa y1 _ (numBytes 4 C.P.mask)) := B1.out.keep d1.t
  clear d1 B1 q1
  go_wp2_with (at_builtin; refine app_arg rfl (.tmp 22) (.tmp 25) rfl wa _ _ rfl E1.out _ _ rfl D1.out (by simp [numBytes]) ?_)
  intro v2 x2 b2
  have B2 : Hid (Buf wa x2 v2 (numBytes 4 C.P.mask ++ numBytes 2 C.P.iv)) := b2
  clear b2 D1 E1
  have q2 : _ := (HK.out _ B2.out.t).cell 2
  have q3 : _ := (HK.out _ B2.out.t).cell 3
  go_wp2_with (at_builtin; refine app_two rfl (.tmp 27) (.tmp 32) rfl wa _ _ rfl B2.out _ _ rfl (by simp [numBytes]) ?_)
  intro v3 x3 b3
  have B3 : Hid (Buf wa x3 v3 (numBytes 4 C.P.mask ++ numBytes 2 C.P.iv ++ [C.P.opts, C.P.prio])) := b3
  clear b3 B2 q2 q3
  have q4 : _ := (HK.out _ B3.out.t).cell 4
  go_wp2_with fail
  refine Calls.mono (dfour7 C.P.dead _ OK.out.P.dead.1 OK.out.P.dead.2) ?_
  rintro e y3 ⟨u3, rfl, d3⟩
  have D3 : Hid (ArgAt y3 u3 (numBytes 4 C.P.dead)) := d3.arg
  have E3 : Hid (Buf wa y3 _ (numBytes 4 C.P.mask ++ numBytes 2 C.P.iv ++ [C.P.opts, C.P.prio])) := B3.out.keep d3.t
  clear d3 B3 q4
  go_wp2_with (at_builtin; refine app_arg rfl (.tmp 34) (.tmp 37) rfl wa _ _ rfl E3.out _ _ rfl D3.out (by simp [numBytes]) ?_)
  intro v4 x4 b4
  have B4 : Hid (Buf wa x4 v4 (numBytes 4 C.P.mask ++ numBytes 2 C.P.iv ++ [C.P.opts, C.P.prio] ++ numBytes 4 C.P.dead)) := b4
  clear b4 D3 E3
  have q5 : _ := (HK.out _ B4.out.t).cell 5
  go_wp2_with fail
  refine Calls.mono (dfour7 C.P.dr _ OK.out.P.dr.1 OK.out.P.dr.2) ?_
  rintro e y4 ⟨u4, rfl, d4⟩
  have D4 : Hid (ArgAt y4 u4 (numBytes 4 C.P.dr)) := d4.arg
  have E4 : Hid (Buf wa y4 _ (numBytes 4 C.P.mask ++ numBytes 2 C.P.iv ++ [C.P.opts, C.P.prio] ++ numBytes 4 C.P.dead)) := B4.out.keep d4.t
  clear d4 B4 q5
  go_wp2_with (at_builtin; refine app_arg rfl (.tmp 39) (.tmp 42) rfl wa _ _ rfl E4.out _ _ rfl D4.out (by simp [numBytes]) ?_)
  intro v5 x5 b5
  have B5 : Hid (Buf wa x5 v5 (numBytes 4 C.P.mask ++ numBytes 2 C.P.iv ++ [C.P.opts, C.P.prio] ++ numBytes 4 C.P.dead ++ numBytes 4 C.P.dr)) := b5
  clear b5 D4 E4
  have q6 : _ := (HK.out _ B5.out.t).cell 6
  go_wp2_with fail
  refine Calls.mono (dfour7 C.P.bdr _ OK.out.P.bdr.1 OK.out.P.bdr.2) ?_
  rintro e y5 ⟨u5, rfl, d5⟩
  have D5 : Hid (ArgAt y5 u5 (numBytes 4 C.P.bdr)) := d5.arg
  have E5 : Hid (Buf wa y5 _ (numBytes 4 C.P.mask ++ numBytes 2 C.P.iv ++ [C.P.opts, C.P.prio] ++ numBytes 4 C.P.dead ++ numBytes 4 C.P.dr)) := B5.out.keep d5.t
  clear d5 B5 q6
  go_wp2_with (at_builtin; refine app_arg rfl (.tmp 44) (.tmp 47) rfl wa _ _ rfl E5.out _ _ rfl D5.out (by simp [numBytes]) ?_)
  intro v6 x6 b6
  have B6 : Hid (Buf wa x6 v6 (numBytes 4 C.P.mask ++ numBytes 2 C.P.iv ++ [C.P.opts, C.P.prio] ++ numBytes 4 C.P.dead ++ numBytes 4 C.P.dr ++ numBytes 4 C.P.bdr)) := b6
  clear b6 D5 E5
  have BZ : Hid (Buf wa x6 v6 (helloB C.P ++ wordsB (C.nb.take 0))) := by show Buf _ _ _ _; have := B6.out; simpa [helloB, wordsB] using this
  clear B6
  go_wp2_with fail
  go_loopg [3, 5] C.nb.length (fun gg acc i wr => ∃ j : Nat, j ≤ C.nb.length ∧ C.nb.length - j ≤ gg ∧ i = .int .i64 (j : Int) ∧ Hid (Buf wa wr acc (helloB C.P ++ wordsB (C.nb.take j))))
  case atStart => exact ⟨0, Nat.zero_le _, by omega, rfl, BZ⟩
  case round =>
    clear BZ
    obtain ⟨j, hj, hg, rfl, B0⟩ := hrel
    have q7 := (HK.out _ B0.out.t).cell 7
    rcases Nat.lt_or_ge j C.nb.length with hlt | hge
    · have hlt' : (j : Int) < (C.nb.length : Int) := by omega
      have hk0 : (0 : Int) ≤ (j : Int) := by omega
      obtain ⟨x, hx⟩ : ∃ x, C.nb[j]? = some x := ⟨C.nb[j], List.getElem?_eq_getElem _⟩
      obtain ⟨gr, off, cc, e, _, _, h3⟩ := ValsAt.cells (HVQ.out wr (TB.out.trans B0.out.t)) (by omega) (by omega)
      cases e
      have r0 : wr.cell? ⟨gr, off + j, none⟩ = some (.int .u32 x) := h3 j _ (by rw [wordsC, List.getElem?_map, hx]; rfl)
      have hxb := OK.out.nb x (List.mem_of_getElem? hx)
      have HX : Hid (wordsB (C.nb.take (j + 1)) = wordsB (C.nb.take j) ++ numBytes 4 x) := wordsB_take hx
      have hkw : wrap64 ((j : Int) + 1) = (j : Int) + 1 := by unfold wrap64; omega
      have hln : Hid ((helloB C.P ++ wordsB (C.nb.take j)).length + 4 ≤ 1099511627776) := by show _ ≤ _; rw [List.length_append, length_wordsB, length_helloB]; simp; omega
      have H4 := dfour7 x wr hxb.1 hxb.2
      clear h3 hx hxb
      go_wp2_with fail
      refine Calls.mono H4 ?_
      rintro e y2 ⟨uv, rfl, d2⟩
      have D2 : Hid (ArgAt y2 uv (numBytes 4 x)) := d2.arg
      have E2 : Hid (Buf wa y2 _ (helloB C.P ++ wordsB (C.nb.take j))) := B0.out.keep d2.t
      clear d2 B0 H4 r0 q7
      go_wp2_with (at_builtin; refine app_arg rfl (.tmp 56) (.tmp 62) rfl wa _ _ rfl E2.out _ _ rfl D2.out (by have := hln.out; rw [length_numBytes (by omega)]; omega) ?_)
      intro v3 w3 b3
      have B3 : Hid (Buf wa w3 v3 (helloB C.P ++ wordsB (C.nb.take (j + 1)))) := by show Buf _ _ _ _; rw [HX.out, ← List.append_assoc]; exact b3
      clear b3 D2 E2 hln HX
      go_wp2_with fail
      go_roundg (C.nb.length - (j + 1))
      case measure => omega
      case rel => exact ⟨j + 1, by omega, by omega, by go_num, B3⟩
    · obtain rfl : j = C.nb.length := by omega
      have hlt' : ¬ (C.nb.length : Int) < (C.nb.length : Int) := by omega
      have BE0 := B0.out
      rw [List.take_length] at BE0
      have BE : Hid _ := BE0
      clear B0 BE0
      go_wp2_with fail
      go_ret
      exact ⟨_, rfl, BE.out.back TB.out⟩
set_option maxHeartbeats 4000000 in
theorem dbody_2 (C : PkC) (ok : C.Ok) (ht : C.P.typ = 2) (na da ka sa ha : Option Addr) (nc dc kc sc hc : Nat) (w : World) (hn : C.dh.length ≤ 1000000) (hv : HeadsAt w (.slice da C.dh.length dc) C.dh) :
    Calls Tryz.prog 37 #[C.P.v (.slice na C.nb.length nc) (.slice da C.dh.length dc) (.slice ka C.ks.length kc) (.slice sa C.ss.length sc) (.slice ha C.hs.length hc)] w fun e w' => ∃ v, e = .returned v ∧ Buf w w' v (descB C.P ++ headsB C.dh) := by
  unfold PV.v
  have OK : Hid C.Ok := ok
  have n1 : (C.P.typ == 1) = false := by simp [ht]
  have n2 : (C.P.typ == 2) = true := by simp [ht]
  clear ht
  have HVQ : Hid (∀ w', Touch (fun _ => False) w w' → HeadsAt w' (.slice da C.dh.length dc) C.dh) := fun w' t => ValsAt.keep hv t
  clear hv
  obtain ⟨w0, hw0⟩ : ∃ w0, w0 = w.alloc (.cells #[.int .u8 C.P.typ, .int .u32 C.P.router, .int .u32 C.P.area, .int .u32 C.P.mask, .int .u16 C.P.iv, .int .u8 C.P.opts, .int .u8 C.P.prio, .int .u32 C.P.dead, .int .u32 C.P.dr, .int .u32 C.P.bdr, .slice na C.nb.length nc, .int .u16 C.P.mtu, .int .u8 C.P.dopts, .int .u8 C.P.dflags, .int .u32 C.P.dseq, .slice da C.dh.length dc, .slice ka C.ks.length kc, .slice sa C.ss.length sc, .slice ha C.hs.length hc] 33) := ⟨_, rfl⟩
  have ta : Touch (fun _ => False) w w0 := by rw [hw0]; exact (Touch.refl _ w).alloc _
  have A0 : Row w0 w.heap.size 33 [.int .u8 C.P.typ, .int .u32 C.P.router, .int .u32 C.P.area, .int .u32 C.P.mask, .int .u16 C.P.iv, .int .u8 C.P.opts, .int .u8 C.P.prio, .int .u32 C.P.dead, .int .u32 C.P.dr, .int .u32 C.P.bdr, .slice na C.nb.length nc, .int .u16 C.P.mtu, .int .u8 C.P.dopts, .int .u8 C.P.dflags, .int .u32 C.P.dseq, .slice da C.dh.length dc, .slice ka C.ks.length kc, .slice sa C.ss.length sc, .slice ha C.hs.length hc] := by rw [hw0]; exact row_new w 33 #[.int .u8 C.P.typ, .int .u32 C.P.router, .int .u32 C.P.area, .int .u32 C.P.mask, .int .u16 C.P.iv, .int .u8 C.P.opts, .int .u8 C.P.prio, .int .u32 C.P.dead, .int .u32 C.P.dr, .int .u32 C.P.bdr, .slice na C.nb.length nc, .int .u16 C.P.mtu, .int .u8 C.P.dopts, .int .u8 C.P.dflags, .int .u32 C.P.dseq, .slice da C.dh.length dc, .slice ka C.ks.length kc, .slice sa C.ss.length sc, .slice ha C.hs.length hc]
  have AK : Hid (∀ w', Touch (fun _ => False) w0 w' → Row w' w.heap.size 33 [.int .u8 C.P.typ, .int .u32 C.P.router, .int .u32 C.P.area, .int .u32 C.P.mask, .int .u16 C.P.iv, .int .u8 C.P.opts, .int .u8 C.P.prio, .int .u32 C.P.dead, .int .u32 C.P.dr, .int .u32 C.P.bdr, .slice na C.nb.length nc, .int .u16 C.P.mtu, .int .u8 C.P.dopts, .int .u8 C.P.dflags, .int .u32 C.P.dseq, .slice da C.dh.length dc, .slice ka C.ks.length kc, .slice sa C.ss.length sc, .slice ha C.hs.length hc]) := fun w' t => A0.keep t
  have TA : Hid (Touch (fun _ => False) w w0) := ta
  clear ta ok
  go_enter Tryz.func37, Tryz.ntmps37
  go_upto_region 2 with fail
  rw [← hw0]
  clear hw0
  generalize w.heap.size = g at *
  have c0 : w0.cell? ⟨g, 0, none⟩ = some (.int .u8 C.P.typ) := A0.cell 0
  go_upto_region 17 with fail
  clear c0
  clear A0
  have B0 : Hid (Buf w0 w0 (.slice none 0 0) []) := Buf.nil (Touch.refl _ _)
  have q11 : _ := (AK.out _ B0.out.t).cell 11
  go_wp2_with fail
  refine Calls.mono (dtwo7 C.P.mtu _ OK.out.P.mtu.1 OK.out.P.mtu.2) ?_
  rintro e y0 ⟨u0, rfl, d0⟩
  have D0 : Hid (ArgAt y0 u0 (numBytes 2 C.P.mtu)) := d0.arg
  have E0 : Hid (Buf w0 y0 _ ([])) := B0.out.keep d0.t
  clear d0 B0 q11
  go_wp2_with (at_builtin; refine app_arg rfl (.tmp 66) (.tmp 70) rfl w0 _ _ rfl E0.out _ _ rfl D0.out (by simp [numBytes]) ?_)
  intro v1 x1 b1
  have B1 : Hid (Buf w0 x1 v1 (numBytes 2 C.P.mtu)) := b1
  clear b1 D0 E0
  have q12 : _ := (AK.out _ B1.out.t).cell 12
  have q13 : _ := (AK.out _ B1.out.t).cell 13
  go_wp2_with (at_builtin; refine app_two rfl (.tmp 72) (.tmp 79) rfl w0 _ _ rfl B1.out _ _ rfl (by simp [numBytes]) ?_)
  intro v2 x2 b2
  have B2 : Hid (Buf w0 x2 v2 (numBytes 2 C.P.mtu ++ [C.P.dopts, C.P.dflags])) := b2
  clear b2 B1 q12 q13
  have q14 : _ := (AK.out _ B2.out.t).cell 14
  go_wp2_with fail
  refine Calls.mono (dfour7 C.P.dseq _ OK.out.P.dseq.1 OK.out.P.dseq.2) ?_
  rintro e y2 ⟨u2, rfl, d2⟩
  have D2 : Hid (ArgAt y2 u2 (numBytes 4 C.P.dseq)) := d2.arg
  have E2 : Hid (Buf w0 y2 _ (numBytes 2 C.P.mtu ++ [C.P.dopts, C.P.dflags])) := B2.out.keep d2.t
  clear d2 B2 q14
  go_wp2_with (at_builtin; refine app_arg rfl (.tmp 81) (.tmp 85) rfl w0 _ _ rfl E2.out _ _ rfl D2.out (by simp [numBytes]) ?_)
  intro v3 x3 b3
  have B3 : Hid (Buf w0 x3 v3 (numBytes 2 C.P.mtu ++ [C.P.dopts, C.P.dflags] ++ numBytes 4 C.P.dseq)) := b3
  clear b3 D2 E2
  have q15 : _ := (AK.out _ B3.out.t).cell 15
  go_wp2_with fail
  refine Calls.mono (dheads7 _ C.dh _ (HVQ.out _ (TA.out.trans B3.out.t)) OK.out.dh hn) ?_
  rintro e y3 ⟨u3, rfl, d3⟩
  have D3 : Hid (ArgAt y3 u3 (headsB C.dh)) := d3.arg
  have E3 : Hid (Buf w0 y3 _ (numBytes 2 C.P.mtu ++ [C.P.dopts, C.P.dflags] ++ numBytes 4 C.P.dseq)) := B3.out.keep d3.t
  clear d3 B3 q15
  go_wp2_with (at_builtin; refine app_arg rfl (.tmp 87) (.tmp 91) rfl w0 _ _ rfl E3.out _ _ rfl D3.out (by have := length_headsB C.dh; simp [numBytes]; omega) ?_)
  intro v4 x4 b4
  have B4 : Hid (Buf w0 x4 v4 (numBytes 2 C.P.mtu ++ [C.P.dopts, C.P.dflags] ++ numBytes 4 C.P.dseq ++ headsB C.dh)) := b4
  clear b4 D3 E3
  have BE : Hid (Buf w0 x4 v4 (descB C.P ++ headsB C.dh)) := B4.out
  clear B4
  go_wp2_with fail
  go_ret
  exact ⟨_, rfl, BE.out.back TA.out⟩
set_option maxHeartbeats 4000000 in
theorem dbody_5 (C : PkC) (ok : C.Ok) (h1 : ¬ C.P.typ = 1) (h2 : ¬ C.P.typ = 2) (h3 : ¬ C.P.typ = 3) (h4 : ¬ C.P.typ = 4) (na da ka sa ha : Option Addr) (nc dc kc sc hc : Nat) (w : World) (hn : C.hs.length ≤ 1000000) (hv : HeadsAt w (.slice ha C.hs.length hc) C.hs) :
    Calls Tryz.prog 37 #[C.P.v (.slice na C.nb.length nc) (.slice da C.dh.length dc) (.slice ka C.ks.length kc) (.slice sa C.ss.length sc) (.slice ha C.hs.length hc)] w fun e w' => ∃ v, e = .returned v ∧ Buf w w' v (headsB C.hs) := by
  unfold PV.v
  have OK : Hid C.Ok := ok
  have n1 : (C.P.typ == 1) = false := by simpa using h1
  have n2 : (C.P.typ == 2) = false := by simpa using h2
  have n3 : (C.P.typ == 3) = false := by simpa using h3
  have n4 : (C.P.typ == 4) = false := by simpa using h4
  clear h1 h2 h3 h4
  have HVQ : Hid (∀ w', Touch (fun _ => False) w w' → HeadsAt w' (.slice ha C.hs.length hc) C.hs) := fun w' t => ValsAt.keep hv t
  clear hv
  obtain ⟨w0, hw0⟩ : ∃ w0, w0 = w.alloc (.cells #[.int .u8 C.P.typ, .int .u32 C.P.router, .int .u32 C.P.area, .int .u32 C.P.mask, .int .u16 C.P.iv, .int .u8 C.P.opts, .int .u8 C.P.prio, .int .u32 C.P.dead, .int .u32 C.P.dr, .int .u32 C.P.bdr, .slice na C.nb.length nc, .int .u16 C.P.mtu, .int .u8 C.P.dopts, .int .u8 C.P.dflags, .int .u32 C.P.dseq, .slice da C.dh.length dc, .slice ka C.ks.length kc, .slice sa C.ss.length sc, .slice ha C.hs.length hc] 33) := ⟨_, rfl⟩
  have ta : Touch (fun _ => False) w w0 := by rw [hw0]; exact (Touch.refl _ w).alloc _
  have A0 : Row w0 w.heap.size 33 [.int .u8 C.P.typ, .int .u32 C.P.router, .int .u32 C.P.area, .int .u32 C.P.mask, .int .u16 C.P.iv, .int .u8 C.P.opts, .int .u8 C.P.prio, .int .u32 C.P.dead, .int .u32 C.P.dr, .int .u32 C.P.bdr, .slice na C.nb.length nc, .int .u16 C.P.mtu, .int .u8 C.P.dopts, .int .u8 C.P.dflags, .int .u32 C.P.dseq, .slice da C.dh.length dc, .slice ka C.ks.length kc, .slice sa C.ss.length sc, .slice ha C.hs.length hc] := by rw [hw0]; exact row_new w 33 #[.int .u8 C.P.typ, .int .u32 C.P.router, .int .u32 C.P.area, .int .u32 C.P.mask, .int .u16 C.P.iv, .int .u8 C.P.opts, .int .u8 C.P.prio, .int .u32 C.P.dead, .int .u32 C.P.dr, .int .u32 C.P.bdr, .slice na C.nb.length nc, .int .u16 C.P.mtu, .int .u8 C.P.dopts, .int .u8 C.P.dflags, .int .u32 C.P.dseq, .slice da C.dh.length dc, .slice ka C.ks.length kc, .slice sa C.ss.length sc, .slice ha C.hs.length hc]
  have AK : Hid (∀ w', Touch (fun _ => False) w0 w' → Row w' w.heap.size 33 [.int .u8 C.P.typ, .int .u32 C.P.router, .int .u32 C.P.area, .int .u32 C.P.mask, .int .u16 C.P.iv, .int .u8 C.P.opts, .int .u8 C.P.prio, .int .u32 C.P.dead, .int .u32 C.P.dr, .int .u32 C.P.bdr, .slice na C.nb.length nc, .int .u16 C.P.mtu, .int .u8 C.P.dopts, .int .u8 C.P.dflags, .int .u32 C.P.dseq, .slice da C.dh.length dc, .slice ka C.ks.length kc, .slice sa C.ss.length sc, .slice ha C.hs.length hc]) := fun w' t => A0.keep t
  have TA : Hid (Touch (fun _ => False) w w0) := ta
  clear ta ok
  go_enter Tryz.func37, Tryz.ntmps37
  go_upto_region 2 with fail
  rw [← hw0]
  clear hw0
  generalize w.heap.size = g at *
  have c0 : w0.cell? ⟨g, 0, none⟩ = some (.int .u8 C.P.typ) := A0.cell 0
  have c18 : w0.cell? ⟨g, 18, none⟩ = some (.slice ha C.hs.length hc) := A0.cell 18
  go_wp2_with fail
  refine Calls.mono (dheads7 _ C.hs _ (HVQ.out _ TA.out) OK.out.hs hn) ?_
  rintro e y1 ⟨u1, rfl, d1⟩
  have BE : Hid (Buf w0 y1 u1 (headsB C.hs)) := d1
  clear d1 c0 c18 A0 AK
  go_wp2_with fail
  go_ret
  exact ⟨_, rfl, BE.out.back TA.out⟩
set_option maxHeartbeats 4000000 in
theorem dbody_3 (C : PkC) (ok : C.Ok) (ht : C.P.typ = 3) (na da ka sa ha : Option Addr) (nc dc kc sc hc : Nat) (w : World) (hn : C.ks.length ≤ 1000000) (hv : KeysAt w (.slice ka C.ks.length kc) C.ks) :
    Calls Tryz.prog 37 #[C.P.v (.slice na C.nb.length nc) (.slice da C.dh.length dc) (.slice ka C.ks.length kc) (.slice sa C.ss.length sc) (.slice ha C.hs.length hc)] w fun e w' => ∃ v, e = .returned v ∧ Buf w w' v (keysB C.ks) := by
  unfold PV.v
  have OK : Hid C.Ok := ok
  have n1 : (C.P.typ == 1) = false := by simp [ht]
  have n2 : (C.P.typ == 2) = false := by simp [ht]
  have n3 : (C.P.typ == 3) = true := by simp [ht]
  clear ht
  have HVQ : Hid (∀ w', Touch (fun _ => False) w w' → KeysAt w' (.slice ka C.ks.length kc) C.ks) := fun w' t => ValsAt.keep hv t
  clear hv
  obtain ⟨w0, hw0⟩ : ∃ w0, w0 = w.alloc (.cells #[.int .u8 C.P.typ, .int .u32 C.P.router, .int .u32 C.P.area, .int .u32 C.P.mask, .int .u16 C.P.iv, .int .u8 C.P.opts, .int .u8 C.P.prio, .int .u32 C.P.dead, .int .u32 C.P.dr, .int .u32 C.P.bdr, .slice na C.nb.length nc, .int .u16 C.P.mtu, .int .u8 C.P.dopts, .int .u8 C.P.dflags, .int .u32 C.P.dseq, .slice da C.dh.length dc, .slice ka C.ks.length kc, .slice sa C.ss.length sc, .slice ha C.hs.length hc] 33) := ⟨_, rfl⟩
  have ta : Touch (fun _ => False) w w0 := by rw [hw0]; exact (Touch.refl _ w).alloc _
  have A0 : Row w0 w.heap.size 33 [.int .u8 C.P.typ, .int .u32 C.P.router, .int .u32 C.P.area, .int .u32 C.P.mask, .int .u16 C.P.iv, .int .u8 C.P.opts, .int .u8 C.P.prio, .int .u32 C.P.dead, .int .u32 C.P.dr, .int .u32 C.P.bdr, .slice na C.nb.length nc, .int .u16 C.P.mtu, .int .u8 C.P.dopts, .int .u8 C.P.dflags, .int .u32 C.P.dseq, .slice da C.dh.length dc, .slice ka C.ks.length kc, .slice sa C.ss.length sc, .slice ha C.hs.length hc] := by rw [hw0]; exact row_new w 33 #[.int .u8 C.P.typ, .int .u32 C.P.router, .int .u32 C.P.area, .int .u32 C.P.mask, .int .u16 C.P.iv, .int .u8 C.P.opts, .int .u8 C.P.prio, .int .u32 C.P.dead, .int .u32 C.P.dr, .int .u32 C.P.bdr, .slice na C.nb.length nc, .int .u16 C.P.mtu, .int .u8 C.P.dopts, .int .u8 C.P.dflags, .int .u32 C.P.dseq, .slice da C.dh.length dc, .slice ka C.ks.length kc, .slice sa C.ss.length sc, .slice ha C.hs.length hc]
  have AK : Hid (∀ w', Touch (fun _ => False) w0 w' → Row w' w.heap.size 33 [.int .u8 C.P.typ, .int .u32 C.P.router, .int .u32 C.P.area, .int .u32 C.P.mask, .int .u16 C.P.iv, .int .u8 C.P.opts, .int .u8 C.P.prio, .int .u32 C.P.dead, .int .u32 C.P.dr, .int .u32 C.P.bdr, .slice na C.nb.length nc, .int .u16 C.P.mtu, .int .u8 C.P.dopts, .int .u8 C.P.dflags, .int .u32 C.P.dseq, .slice da C.dh.length dc, .slice ka C.ks.length kc, .slice sa C.ss.length sc, .slice ha C.hs.length hc]) := fun w' t => A0.keep t
  have TA : Hid (Touch (fun _ => False) w w0) := ta
  clear ta ok
  go_enter Tryz.func37, Tryz.ntmps37
  go_upto_region 2 with fail
  rw [← hw0]
  clear hw0
  generalize w.heap.size = g at *
  have c0 : w0.cell? ⟨g, 0, none⟩ = some (.int .u8 C.P.typ) := A0.cell 0
  clear A0
  have BZ : Hid (Buf w0 w0 (.slice none 0 0) (keysB (C.ks.take 0))) := Buf.nil (Touch.refl _ _)
  go_wp2_with fail
  clear c0
  go_loopg [3, 6] C.ks.length (fun gg acc i wr => ∃ j : Nat, j ≤ C.ks.length ∧ C.ks.length - j ≤ gg ∧ i = .int .i64 (j : Int) ∧ Hid (Buf w0 wr acc (keysB (C.ks.take j))))
  case atStart => exact ⟨0, Nat.zero_le _, by omega, rfl, BZ⟩
  case round =>
    clear BZ
    obtain ⟨j, hj, hg, rfl, B0⟩ := hrel
    rcases Nat.lt_or_ge j C.ks.length with hlt | hge
    · have hlt' : (j : Int) < (C.ks.length : Int) := by omega
      have hk0 : (0 : Int) ≤ (j : Int) := by omega
      obtain ⟨x, hx⟩ : ∃ x, C.ks[j]? = some x := ⟨C.ks[j], List.getElem?_eq_getElem _⟩
      obtain ⟨gr, off, cc, e, _, _, h3⟩ := ValsAt.cells (HVQ.out w0 TA.out) (by omega) (by omega)
      cases e
      have RC : Hid (∀ w', Touch (fun _ => False) w0 w' → ∀ i u, x.cells[i]? = some u → w'.cell? ⟨gr, off + (j * 3 + i), none⟩ = some u) := fun w' t i u hu => t.cellN (h3 _ _ (by rw [keysC_at C.ks j i x hx (List.getElem?_eq_some_iff.mp hu).1]; exact hu))
      have hA := OK.out.ks x (List.mem_of_getElem? hx)
      have HX : Hid (keysB (C.ks.take (j + 1)) = keysB (C.ks.take j) ++ numBytes 4 x.typ ++ numBytes 4 x.id ++ numBytes 4 x.adv) := by show _ = _; rw [keysB_take hx]; simp [keyB]
      have hkw : wrap64 ((j : Int) + 1) = (j : Int) + 1 := by unfold wrap64; omega
      have hln : Hid ((keysB (C.ks.take j)).length + 12 ≤ 1099511627776) := by show _ ≤ _; rw [length_keysB]; simp; omega
      have HA : Hid (x.All) := hA
      have hty : IntKind.u32.wrap x.typ = x.typ := by have := hA.t; simp [IntKind.wrap, IntKind.bits, IntKind.signed]; omega
      clear h3 hx hA
      have q16 := (AK.out _ B0.out.t).cell 16
      have r0 : wr.cell? ⟨gr, off + j * 3, none⟩ = some (.int .u8 x.typ) := by exact RC.out _ B0.out.t 0 _ rfl
      go_wp2_with fail
      refine Calls.mono (dfour7 x.typ _ HA.out.t.1 (by have := HA.out.t; omega)) ?_
      rintro e y0 ⟨u0, rfl, d0⟩
      have D0 : Hid (ArgAt y0 u0 (numBytes 4 x.typ)) := d0.arg
      have E0 : Hid (Buf w0 y0 _ (keysB (C.ks.take j))) := B0.out.keep d0.t
      clear d0 B0 q16 r0
      go_wp2_with (at_builtin; refine app_arg rfl (.tmp 102) (.tmp 110) rfl w0 _ _ rfl E0.out _ _ rfl D0.out (by have := hln.out; simp [numBytes] at this ⊢; omega) ?_)
      intro v1 x1 b1
      have B1 : Hid (Buf w0 x1 v1 (keysB (C.ks.take j) ++ numBytes 4 x.typ)) := by show Buf _ _ _ _; simpa only [List.append_assoc] using b1
      clear b1 D0 E0
      have q16 := (AK.out _ B1.out.t).cell 16
      have r1 : x1.cell? ⟨gr, off + j * 3 + 1, none⟩ = some (.int .u32 x.id) := by rw [Nat.add_assoc]; exact RC.out _ B1.out.t 1 _ rfl
      go_wp2_with fail
      refine Calls.mono (dfour7 x.id _ HA.out.i.1 (by have := HA.out.i; omega)) ?_
      rintro e y1 ⟨u1, rfl, d1⟩
      have D1 : Hid (ArgAt y1 u1 (numBytes 4 x.id)) := d1.arg
      have E1 : Hid (Buf w0 y1 _ (keysB (C.ks.take j) ++ numBytes 4 x.typ)) := B1.out.keep d1.t
      clear d1 B1 q16 r1
      go_wp2_with (at_builtin; refine app_arg rfl (.tmp 112) (.tmp 119) rfl w0 _ _ rfl E1.out _ _ rfl D1.out (by have := hln.out; simp [numBytes] at this ⊢; omega) ?_)
      intro v2 x2 b2
      have B2 : Hid (Buf w0 x2 v2 (keysB (C.ks.take j) ++ numBytes 4 x.typ ++ numBytes 4 x.id)) := by show Buf _ _ _ _; simpa only [List.append_assoc] using b2
      clear b2 D1 E1
      have q16 := (AK.out _ B2.out.t).cell 16
      have r2 : x2.cell? ⟨gr, off + j * 3 + 2, none⟩ = some (.int .u32 x.adv) := by rw [Nat.add_assoc]; exact RC.out _ B2.out.t 2 _ rfl
      go_wp2_with fail
      refine Calls.mono (dfour7 x.adv _ HA.out.a.1 (by have := HA.out.a; omega)) ?_
      rintro e y2 ⟨u2, rfl, d2⟩
      have D2 : Hid (ArgAt y2 u2 (numBytes 4 x.adv)) := d2.arg
      have E2 : Hid (Buf w0 y2 _ (keysB (C.ks.take j) ++ numBytes 4 x.typ ++ numBytes 4 x.id)) := B2.out.keep d2.t
      clear d2 B2 q16 r2
      go_wp2_with (at_builtin; refine app_arg rfl (.tmp 121) (.tmp 128) rfl w0 _ _ rfl E2.out _ _ rfl D2.out (by have := hln.out; simp [numBytes] at this ⊢; omega) ?_)
      intro v3 x3 b3
      have B3 : Hid (Buf w0 x3 v3 (keysB (C.ks.take j) ++ numBytes 4 x.typ ++ numBytes 4 x.id ++ numBytes 4 x.adv)) := by show Buf _ _ _ _; simpa only [List.append_assoc] using b3
      clear b3 D2 E2
      have B4 : Hid (Buf w0 x3 v3 (keysB (C.ks.take (j + 1)))) := by show Buf _ _ _ _; rw [HX.out]; exact B3.out
      clear B3 hln HX RC
      go_wp2_with fail
      go_roundg (C.ks.length - (j + 1))
      case measure => omega
      case rel => exact ⟨j + 1, by omega, by omega, by go_num, B4⟩
    · obtain rfl : j = C.ks.length := by omega
      have q16 := (AK.out _ B0.out.t).cell 16
      have hlt' : ¬ (C.ks.length : Int) < (C.ks.length : Int) := by omega
      have BE0 := B0.out
      rw [List.take_length] at BE0
      have BE : Hid _ := BE0
      clear B0 BE0
      go_wp2_with fail
      go_ret
      exact ⟨_, rfl, BE.out.back TA.out⟩
theorem stsB_len : ∀ (l : List SE), (∀ x ∈ l, x.rs.length ≤ 131072) → (stsB l).length ≤ 131092 * l.length
  | [], _ => by simp [stsB]
  | x :: r, h => by
    have h1 := stsB_len r (fun y hy => h y (List.mem_cons_of_mem _ hy))
    have h2 := h x (List.mem_cons_self ..)
    have e : stsB (x :: r) = stB x ++ stsB r := by simp [stsB]
    have h3 : (stB x).length = 20 + x.rs.length := by show (headB x.h ++ x.rs).length = _; rw [List.length_append, length_headB]
    rw [e, List.length_append, List.length_cons]
    omega
set_option maxHeartbeats 4000000 in
theorem dbody_4 (C : PkC) (ok : C.Ok) (ht : C.P.typ = 4) (na da ka sa ha : Option Addr) (nc dc kc sc hc : Nat) (w : World) (l : List SE) (hl : l.map SE.p = C.ss) (hn : C.ss.length ≤ 1000000) (hr : ∀ x ∈ l, x.rs.length ≤ 131072) (hv : StatesAt w (.slice sa C.ss.length sc) l) :
    Calls Tryz.prog 37 #[C.P.v (.slice na C.nb.length nc) (.slice da C.dh.length dc) (.slice ka C.ks.length kc) (.slice sa C.ss.length sc) (.slice ha C.hs.length hc)] w fun e w' => ∃ v, e = .returned v ∧ Buf w w' v (numBytes 4 (C.ss.length : Int) ++ stsP C.ss) := by
  unfold PV.v
  have OK : Hid C.Ok := ok
  have n1 : (C.P.typ == 1) = false := by simp [ht]
  have n2 : (C.P.typ == 2) = false := by simp [ht]
  have n3 : (C.P.typ == 3) = false := by simp [ht]
  have n4 : (C.P.typ == 4) = true := by simp [ht]
  clear ht
  have hll : l.length = C.ss.length := by rw [← hl, List.length_map]
  rw [← hll] at hv ⊢
  have HSB : Hid (stsP C.ss = stsB l) := by show _ = _; rw [← hl]; exact stsP_of l
  rw [show stsP C.ss = stsB l from HSB.out]
  rw [← hll] at hn
  have HVQ : Hid (∀ w', Touch (fun _ => False) w w' → StatesAt w' (.slice sa l.length sc) l) := fun w' t => hv.keep t
  have HR : Hid (∀ x ∈ l, x.rs.length ≤ 131072) := hr
  clear hv hr hl HSB hll
  obtain ⟨w0, hw0⟩ : ∃ w0, w0 = w.alloc (.cells #[.int .u8 C.P.typ, .int .u32 C.P.router, .int .u32 C.P.area, .int .u32 C.P.mask, .int .u16 C.P.iv, .int .u8 C.P.opts, .int .u8 C.P.prio, .int .u32 C.P.dead, .int .u32 C.P.dr, .int .u32 C.P.bdr, .slice na C.nb.length nc, .int .u16 C.P.mtu, .int .u8 C.P.dopts, .int .u8 C.P.dflags, .int .u32 C.P.dseq, .slice da C.dh.length dc, .slice ka C.ks.length kc, .slice sa l.length sc, .slice ha C.hs.length hc] 33) := ⟨_, rfl⟩
  have ta : Touch (fun _ => False) w w0 := by rw [hw0]; exact (Touch.refl _ w).alloc _
  have A0 : Row w0 w.heap.size 33 [.int .u8 C.P.typ, .int .u32 C.P.router, .int .u32 C.P.area, .int .u32 C.P.mask, .int .u16 C.P.iv, .int .u8 C.P.opts, .int .u8 C.P.prio, .int .u32 C.P.dead, .int .u32 C.P.dr, .int .u32 C.P.bdr, .slice na C.nb.length nc, .int .u16 C.P.mtu, .int .u8 C.P.dopts, .int .u8 C.P.dflags, .int .u32 C.P.dseq, .slice da C.dh.length dc, .slice ka C.ks.length kc, .slice sa l.length sc, .slice ha C.hs.length hc] := by rw [hw0]; exact row_new w 33 #[.int .u8 C.P.typ, .int .u32 C.P.router, .int .u32 C.P.area, .int .u32 C.P.mask, .int .u16 C.P.iv, .int .u8 C.P.opts, .int .u8 C.P.prio, .int .u32 C.P.dead, .int .u32 C.P.dr, .int .u32 C.P.bdr, .slice na C.nb.length nc, .int .u16 C.P.mtu, .int .u8 C.P.dopts, .int .u8 C.P.dflags, .int .u32 C.P.dseq, .slice da C.dh.length dc, .slice ka C.ks.length kc, .slice sa l.length sc, .slice ha C.hs.length hc]
  have AK : Hid (∀ w', Touch (fun _ => False) w0 w' → Row w' w.heap.size 33 [.int .u8 C.P.typ, .int .u32 C.P.router, .int .u32 C.P.area, .int .u32 C.P.mask, .int .u16 C.P.iv, .int .u8 C.P.opts, .int .u8 C.P.prio, .int .u32 C.P.dead, .int .u32 C.P.dr, .int .u32 C.P.bdr, .slice na C.nb.length nc, .int .u16 C.P.mtu, .int .u8 C.P.dopts, .int .u8 C.P.dflags, .int .u32 C.P.dseq, .slice da C.dh.length dc, .slice ka C.ks.length kc, .slice sa l.length sc, .slice ha C.hs.length hc]) := fun w' t => A0.keep t
  have TA : Hid (Touch (fun _ => False) w w0) := ta
  clear ta ok
  go_enter Tryz.func37, Tryz.ntmps37
  go_upto_region 2 with fail
  rw [← hw0]
  clear hw0
  generalize w.heap.size = g at *
  have c0 : w0.cell? ⟨g, 0, none⟩ = some (.int .u8 C.P.typ) := A0.cell 0
  go_upto_region 29 with fail
  clear c0
  clear A0
  have B0 : Hid (Buf w0 w0 (.slice none 0 0) []) := Buf.nil (Touch.refl _ _)
  have hlw : IntKind.u32.wrap (l.length : Int) = (l.length : Int) := by simp [IntKind.wrap, IntKind.bits, IntKind.signed]; omega
  have q17 : _ := (AK.out _ B0.out.t).cell 17
  go_wp2_with fail
  refine Calls.mono (dfour7 (l.length : Int) _ (by omega) (by omega)) ?_
  rintro e y0 ⟨u0, rfl, d0⟩
  have D0 : Hid (ArgAt y0 u0 (numBytes 4 (l.length : Int))) := d0.arg
  have E0 : Hid (Buf w0 y0 _ ([])) := B0.out.keep d0.t
  clear d0 B0 q17
  go_wp2_with (at_builtin; refine app_arg rfl (.tmp 132) (.tmp 137) rfl w0 _ _ rfl E0.out _ _ rfl D0.out (by simp [numBytes]) ?_)
  intro v1 x1 b1
  have B1 : Hid (Buf w0 x1 v1 (numBytes 4 (l.length : Int))) := b1
  clear b1 D0 E0
  have BZ : Hid (Buf w0 x1 v1 (numBytes 4 (l.length : Int) ++ stsB (l.take 0))) := by show Buf _ _ _ _; have := B1.out; simpa [stsB] using this
  clear B1
  go_wp2_with fail
  go_loopg [3, 7] l.length (fun gg acc i wr => ∃ j : Nat, j ≤ l.length ∧ l.length - j ≤ gg ∧ i = .int .i64 (j : Int) ∧ Hid (Buf w0 wr acc (numBytes 4 (l.length : Int) ++ stsB (l.take j))))
  case atStart => exact ⟨0, Nat.zero_le _, by omega, rfl, BZ⟩
  case round =>
    clear BZ
    obtain ⟨j, hj, hg, rfl, B0⟩ := hrel
    have q17 := (AK.out _ B0.out.t).cell 17
    rcases Nat.lt_or_ge j l.length with hlt | hge
    · have hlt' : (j : Int) < (l.length : Int) := by omega
      have hk0 : (0 : Int) ≤ (j : Int) := by omega
      obtain ⟨x, hx⟩ : ∃ x, l[j]? = some x := ⟨l[j], List.getElem?_eq_getElem _⟩
      obtain ⟨ox, gr, off, cR, eR, hcell⟩ := StatesAt.one (HVQ.out wr (TA.out.trans B0.out.t)) hx
      cases eR
      have r0 : wr.cell? ⟨gr, off + j * 9, none⟩ = some (.int .u16 x.h.age) := by exact hcell 0 _ rfl
      have r1 : wr.cell? ⟨gr, off + j * 9 + 1, none⟩ = some (.int .u8 x.h.opts) := by rw [Nat.add_assoc]; exact hcell 1 _ rfl
      have r2 : wr.cell? ⟨gr, off + j * 9 + 2, none⟩ = some (.int .u8 x.h.typ) := by rw [Nat.add_assoc]; exact hcell 2 _ rfl
      have r3 : wr.cell? ⟨gr, off + j * 9 + 3, none⟩ = some (.int .u32 x.h.id) := by rw [Nat.add_assoc]; exact hcell 3 _ rfl
      have r4 : wr.cell? ⟨gr, off + j * 9 + 4, none⟩ = some (.int .u32 x.h.adv) := by rw [Nat.add_assoc]; exact hcell 4 _ rfl
      have r5 : wr.cell? ⟨gr, off + j * 9 + 5, none⟩ = some (.int .i32 x.h.seq) := by rw [Nat.add_assoc]; exact hcell 5 _ rfl
      have r6 : wr.cell? ⟨gr, off + j * 9 + 6, none⟩ = some (.int .u16 x.h.sum) := by rw [Nat.add_assoc]; exact hcell 6 _ rfl
      have r7 : wr.cell? ⟨gr, off + j * 9 + 7, none⟩ = some (.int .u16 x.h.len) := by rw [Nat.add_assoc]; exact hcell 7 _ rfl
      have r8 : wr.cell? ⟨gr, off + j * 9 + 8, none⟩ = some (x.v) := by rw [Nat.add_assoc]; exact hcell 8 _ rfl
      have hxr := HR.out x (List.mem_of_getElem? hx)
      have HX : Hid (stsB (l.take (j + 1)) = stsB (l.take j) ++ (headB x.h ++ x.rs)) := stsB_take hx
      have hkw : wrap64 ((j : Int) + 1) = (j : Int) + 1 := by unfold wrap64; omega
      have hln : Hid ((numBytes 4 (l.length : Int) ++ stsB (l.take j)).length + (headB x.h ++ x.rs).length ≤ 1099511627776) := by
        have h1 := stsB_len (l.take j) (fun y hy => HR.out y (List.mem_of_mem_take hy))
        have h2 : (l.take j).length ≤ 1000000 := by simp; omega
        have h3 := length_headB x.h
        have h4 : (numBytes 4 (l.length : Int)).length = 4 := by simp [numBytes]
        show _ ≤ _
        rw [List.length_append, List.length_append, h4, h3]
        omega
      have HBy := rbytes_any x.h ox.all x.v x.rs wr ox.arg hxr
      unfold HV.sv at HBy
      clear hcell hx ox
      go_wp2_with fail
      refine Calls.mono HBy ?_
      rintro e y2 ⟨uv, rfl, d2⟩
      have D2 : Hid (ArgAt y2 uv (headB x.h ++ x.rs)) := d2.arg
      have E2 : Hid (Buf w0 y2 _ (numBytes 4 (l.length : Int) ++ stsB (l.take j))) := B0.out.keep d2.t
      clear d2 B0 HBy q17 r0 r1 r2 r3 r4 r5 r6 r7 r8
      go_wp2_with (at_builtin; refine app_arg rfl (.tmp 146) (.tmp 152) rfl w0 _ _ rfl E2.out _ _ rfl D2.out hln.out ?_)
      intro v3 w3 b3
      have B3 : Hid (Buf w0 w3 v3 (numBytes 4 (l.length : Int) ++ stsB (l.take (j + 1)))) := by show Buf _ _ _ _; rw [HX.out, ← List.append_assoc]; exact b3
      clear b3 D2 E2 hln HX
      go_wp2_with fail
      go_roundg (l.length - (j + 1))
      case measure => omega
      case rel => exact ⟨j + 1, by omega, by omega, by go_num, B3⟩
    · obtain rfl : j = l.length := by omega
      have hlt' : ¬ (l.length : Int) < (l.length : Int) := by omega
      have BE0 := B0.out
      rw [List.take_length] at BE0
      have BE : Hid _ := BE0
      clear B0 BE0
      go_wp2_with fail
      go_ret
      exact ⟨_, rfl, BE.out.back TA.out⟩
end Go.Proofs.YtjgeklipeeooaaaGreatDoor
