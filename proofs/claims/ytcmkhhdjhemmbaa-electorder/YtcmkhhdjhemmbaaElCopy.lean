
/- The voices for the program; are they what they were? -/
import Derived.Test.YtcmkhhdjhemmbaaElBuf
import Derived.Deep.LoopGhost
import Derived.Deep.DeepCutAuto
import Derived.Deep.RegionHeld3
import Derived.Test.YtcmkhhdjhemmbaaElPick
namespace Go.Proofs.Ytcmkhhdjhemmbaa
open Go.RowKit
set_option linter.unusedVariables false
set_option maxRecDepth 100000

/-- append in a region that draws: one new voice in a block of its own. -/
theorem step_vc_app {ops : Array Oper} {o : Oper} {a : Act} {w : World} {K : Act → World → Prop} {Q : Exit → Act → World → Prop} {E : Prop} (hgd : o.guard = none) (s x : Operand)
    (ho : o.op = .call { callee := .builtin .append, args := #[s, x], argTypes := #[24, 24] })
    (w0 : World) (v : Value) (ls : List VC) (hs : a.eval s = v) (hb : VR 35 w0 w v ls) (y : VC) (ad : Addr) (hx : a.eval x = .slice (some ad) 1 1) (hy : ∀ j u, y.cells[j]? = some u → w.cell? (ad.add j) = some u) (hl : ls.length ≤ 1000000)
    (h : ∀ v' w', VR 35 w0 w' v' (ls ++ [y]) → w.grownBy w' v.ownBlock → K (a.put o.dst v') w') :
    if Region.wanted o (yielded ops a.tmps) = true then Oper.wp Try.prog o a w K Q else E := by
  have hw : Region.wanted o (yielded ops a.tmps) = true := by simp [Region.wanted, hgd]
  rw [if_pos hw]
  obtain ⟨i0, hi, hz0, hz1, hz2⟩ := info_parts infoVE
  obtain ⟨v', w', hr, h2, h3, h4, h5⟩ := run_append_own_at (P := Try.prog) w w0.heap.size 24 o.type 35 i0 _ 5 20 Try.underlying24 hi hz0 hz1 hz2 rfl (by decide) v ls.length (vcC ls) hb.own ad 1 1 y.cells rfl hy (by intro u hu; simp only [VC.cells, List.mem_cons, List.not_mem_nil, or_false] at hu; rcases hu with rfl | rfl | rfl | rfl | rfl <;> rfl) (by unfold maxLen; omega) (by omega) hb.t.size
  unfold Oper.wp execOp
  simp only [ho, resolve, invoke, builtin, Sem.run_bind, Sem.run_pure, Result.andThen_ok, List.map_toArray, List.map_cons, List.map_nil, hs, hx, hr]
  refine h v' w' ⟨?_, hb.t.grown h3 (fun k hk => Or.inr (hb.own.lt k hk).1)⟩ h3
  rw [List.length_append, show vcC (ls ++ [y]) = vcC ls ++ y.cells by simp [vcC]]
  exact h2
/-- Of x the block ob has not turned. -/
structure SnB (ob : Nat) (x w : World) : Prop where
  t : Touch (fun g => g ≠ ob) x w
theorem SnB.start (ob : Nat) (x : World) : SnB ob x x.drew := ⟨(Touch.refl _ _).drew⟩
theorem SnB.trans {ob : Nat} {x w w' : World} (h : SnB ob x w) (t : Touch (fun _ => False) w w') : SnB ob x w' := ⟨h.t.trans' t (fun _ _ h => h.elim)⟩
theorem snB_cell {ob : Nat} {x : World} {i : Nat} {v : Value} (h : x.cell? ⟨ob, i, none⟩ = some v) : ∀ w, SnB ob x w → w.cell? ⟨ob, i, none⟩ = some v := fun w s => (s.t.cell (lt_of_cellA h) (fun h => h rfl)).trans h
structure CpR (w : World) (l : List VC) (gg : Nat) (s3 s4 : Value) (wr : World) : Prop where
  out : ∃ (k : Nat) (v' : Value), k ≤ l.length ∧ l.length - k ≤ gg ∧ s4 = .int .i64 k ∧ s3 = v' ∧ VR 35 w wr v' (l.take k)
set_option maxHeartbeats 2000000 in
theorem copied_any (l : List VC) (v : Value) (w : World) (hv : VcsAt w v l) (hn : l.length ≤ 1000) :
    Calls Try.prog 9 #[v] w fun e w' => ∃ u, e = .returned u ∧ VR 35 w w' u l := by
  obtain ⟨va, vc, rfl, -⟩ := hv.form
  have HV : Hid (VcsAt w (.slice va l.length vc) l) := hv
  have hn' : (l.length : Int) ≤ 1000 := by omega
  clear hv
  go_enter Try.func9, Try.ntmps9
  go_wp2_with fail
  go_loopg [3, 4] l.length (fun gg s3 s4 wr => CpR w l gg s3 s4 wr)
  case atStart => exact ⟨0, _, by omega, by omega, rfl, rfl, VBuf.nil _ _ (Touch.refl _ _)⟩
  case round =>
    obtain ⟨k, v', hk, hg, rfl, hv3, vr⟩ := hrel.out
    have hkt : (l.take k).length = k := by rw [List.length_take]; omega
    obtain ⟨sa, sc, es⟩ := vr.form
    rw [hkt] at es
    subst es
    subst hv3
    have VRr : Hid (VR 35 w wr (.slice sa k sc) (l.take k)) := vr
    clear hrel vr
    by_cases hlt : k < l.length
    · have hlt' : (k : Int) < (l.length : Int) := by omega
      have hk0 : (0 : Int) ≤ (k : Int) := by omega
      have hkw : wrap64 ((k : Int) + 1) = (k : Int) + 1 := by unfold wrap64; omega
      obtain ⟨x, hx⟩ : ∃ x, l[k]? = some x := ⟨l[k], List.getElem?_eq_getElem hlt⟩
      obtain ⟨gR, off, cR, eR, -, -, hcell⟩ := HV.out.at (by omega)
      cases eR
      have hd := hcell k x hx
      have hgw : gR < w.heap.size := lt_of_cell hd.c0
      obtain ⟨r0, r1, r2, r3, r4⟩ := hd.keep VRr.out.t
      have HTK : Hid (l.take (k + 1) = l.take k ++ [x]) := by
        show _ = _
        have e := (List.getElem?_eq_some_iff.mp hx).2
        rw [List.take_succ_eq_append_getElem hlt, e]
      have HOB : Hid (∀ g, (Value.slice sa k sc).ownBlock = some g → g ≠ gR) := fun g hg h => by have := (VRr.out.own.lt g hg).1; omega
      have c0 := snB_cell r0
      have c1 := snB_cell r1
      have c2 := snB_cell r2
      have c3 := snB_cell r3
      have c4 := snB_cell r4
      clear hcell hx hd r0 r1 r2 r3 r4 hgw
      go_upto_region 5 with fail
      have hS : SnB gR wr wr.drew := SnB.start gR wr
      refine wp_region_held_drew (S := fun w' => SnB gR wr w') (by kernel_rfl) hS (fun hHeld => ?_)
      refine wpAnyH_take (i := 0) (oi := ⟨some 11, _, _, _, _, _⟩) (v := .slice sa k sc) rfl (by kernel_rfl) (by kernel_rfl) (by kernel_rfl) (fun _ _ _ h => h) (Or.inl ⟨by rfl, fun w hw => by go_simp⟩) (by assumption) ?_
      simp only [Act.put, List.setIfInBounds_toArray, List.set_cons_zero, List.set_cons_succ]
      refine wpAnyH_take (i := 1) (oi := ⟨some 12, _, _, _, _, _⟩) (v := .slice (some ⟨gR, off, none⟩) l.length vc) rfl (by kernel_rfl) (by kernel_rfl) (by kernel_rfl) (fun _ _ _ h => h) (Or.inl ⟨by rfl, fun w hw => by go_simp⟩) (by assumption) ?_
      simp only [Act.put, List.setIfInBounds_toArray, List.set_cons_zero, List.set_cons_succ]
      refine wpAnyH_take (i := 2) (oi := ⟨some 13, _, _, _, _, _⟩) (v := .int .i64 k) rfl (by kernel_rfl) (by kernel_rfl) (by kernel_rfl) (fun _ _ _ h => h) (Or.inl ⟨by rfl, fun w hw => by go_simp⟩) (by assumption) ?_
      simp only [Act.put, List.setIfInBounds_toArray, List.set_cons_zero, List.set_cons_succ]
      refine wpAnyH_take (i := 3) (oi := ⟨some 14, _, _, _, _, _⟩) (v := .pointer (some ⟨gR, off + k * 5, none⟩)) rfl (by kernel_rfl) (by kernel_rfl) (by kernel_rfl) (fun _ _ _ h => h) (Or.inl ⟨by rfl, fun w hw => by go_simp <;> first | omega | (intro hh; omega)⟩) (by assumption) ?_
      simp only [Act.put, List.setIfInBounds_toArray, List.set_cons_zero, List.set_cons_succ]
      refine wpAnyH_take (i := 4) (oi := ⟨some 15, _, _, _, _, _⟩) (v := .pointer (some ⟨gR, off + k * 5, none⟩)) rfl (by kernel_rfl) (by kernel_rfl) (by kernel_rfl) (fun _ _ _ h => h) (Or.inl ⟨by rfl, fun w hw => by go_simp⟩) (by assumption) ?_
      simp only [Act.put, List.setIfInBounds_toArray, List.set_cons_zero, List.set_cons_succ]
      refine wpAnyH_take (i := 5) (oi := ⟨some 16, _, _, _, _, _⟩) (v := .int .u32 x.r) rfl (by kernel_rfl) (by kernel_rfl) (by kernel_rfl) (fun _ _ _ h => h) (Or.inl ⟨by rfl, fun w hw => by go_simp⟩) (by assumption) ?_
      simp only [Act.put, List.setIfInBounds_toArray, List.set_cons_zero, List.set_cons_succ]
      refine wpAnyH_take (i := 6) (oi := ⟨some 17, _, _, _, _, _⟩) (v := .slice (some ⟨gR, off, none⟩) l.length vc) rfl (by kernel_rfl) (by kernel_rfl) (by kernel_rfl) (fun _ _ _ h => h) (Or.inl ⟨by rfl, fun w hw => by go_simp⟩) (by assumption) ?_
      simp only [Act.put, List.setIfInBounds_toArray, List.set_cons_zero, List.set_cons_succ]
      refine wpAnyH_take (i := 7) (oi := ⟨some 18, _, _, _, _, _⟩) (v := .int .i64 k) rfl (by kernel_rfl) (by kernel_rfl) (by kernel_rfl) (fun _ _ _ h => h) (Or.inl ⟨by rfl, fun w hw => by go_simp⟩) (by assumption) ?_
      simp only [Act.put, List.setIfInBounds_toArray, List.set_cons_zero, List.set_cons_succ]
      refine wpAnyH_take (i := 8) (oi := ⟨some 19, _, _, _, _, _⟩) (v := .pointer (some ⟨gR, off + k * 5, none⟩)) rfl (by kernel_rfl) (by kernel_rfl) (by kernel_rfl) (fun _ _ _ h => h) (Or.inl ⟨by rfl, fun w hw => by go_simp <;> first | omega | (intro hh; omega)⟩) (by assumption) ?_
      simp only [Act.put, List.setIfInBounds_toArray, List.set_cons_zero, List.set_cons_succ]
      refine wpAnyH_take (i := 9) (oi := ⟨some 20, _, _, _, _, _⟩) (v := .pointer (some ⟨gR, off + k * 5 + 1, none⟩)) rfl (by kernel_rfl) (by kernel_rfl) (by kernel_rfl) (fun _ _ _ h => h) (Or.inl ⟨by rfl, fun w hw => by go_simp⟩) (by assumption) ?_
      simp only [Act.put, List.setIfInBounds_toArray, List.set_cons_zero, List.set_cons_succ]
      refine wpAnyH_take (i := 10) (oi := ⟨some 21, _, _, _, _, _⟩) (v := .int .u32 x.ad) rfl (by kernel_rfl) (by kernel_rfl) (by kernel_rfl) (fun _ _ _ h => h) (Or.inl ⟨by rfl, fun w hw => by go_simp⟩) (by assumption) ?_
      simp only [Act.put, List.setIfInBounds_toArray, List.set_cons_zero, List.set_cons_succ]
      refine wpAnyH_take (i := 11) (oi := ⟨some 22, _, _, _, _, _⟩) (v := .slice (some ⟨gR, off, none⟩) l.length vc) rfl (by kernel_rfl) (by kernel_rfl) (by kernel_rfl) (fun _ _ _ h => h) (Or.inl ⟨by rfl, fun w hw => by go_simp⟩) (by assumption) ?_
      simp only [Act.put, List.setIfInBounds_toArray, List.set_cons_zero, List.set_cons_succ]
      refine wpAnyH_take (i := 12) (oi := ⟨some 23, _, _, _, _, _⟩) (v := .int .i64 k) rfl (by kernel_rfl) (by kernel_rfl) (by kernel_rfl) (fun _ _ _ h => h) (Or.inl ⟨by rfl, fun w hw => by go_simp⟩) (by assumption) ?_
      simp only [Act.put, List.setIfInBounds_toArray, List.set_cons_zero, List.set_cons_succ]
      refine wpAnyH_take (i := 13) (oi := ⟨some 24, _, _, _, _, _⟩) (v := .pointer (some ⟨gR, off + k * 5, none⟩)) rfl (by kernel_rfl) (by kernel_rfl) (by kernel_rfl) (fun _ _ _ h => h) (Or.inl ⟨by rfl, fun w hw => by go_simp <;> first | omega | (intro hh; omega)⟩) (by assumption) ?_
      simp only [Act.put, List.setIfInBounds_toArray, List.set_cons_zero, List.set_cons_succ]
      refine wpAnyH_take (i := 14) (oi := ⟨some 25, _, _, _, _, _⟩) (v := .pointer (some ⟨gR, off + k * 5 + 2, none⟩)) rfl (by kernel_rfl) (by kernel_rfl) (by kernel_rfl) (fun _ _ _ h => h) (Or.inl ⟨by rfl, fun w hw => by go_simp⟩) (by assumption) ?_
      simp only [Act.put, List.setIfInBounds_toArray, List.set_cons_zero, List.set_cons_succ]
      refine wpAnyH_take (i := 15) (oi := ⟨some 26, _, _, _, _, _⟩) (v := .int .u8 x.p) rfl (by kernel_rfl) (by kernel_rfl) (by kernel_rfl) (fun _ _ _ h => h) (Or.inl ⟨by rfl, fun w hw => by go_simp⟩) (by assumption) ?_
      simp only [Act.put, List.setIfInBounds_toArray, List.set_cons_zero, List.set_cons_succ]
      refine wpAnyH_take (i := 16) (oi := ⟨some 27, _, _, _, _, _⟩) (v := .slice (some ⟨gR, off, none⟩) l.length vc) rfl (by kernel_rfl) (by kernel_rfl) (by kernel_rfl) (fun _ _ _ h => h) (Or.inl ⟨by rfl, fun w hw => by go_simp⟩) (by assumption) ?_
      simp only [Act.put, List.setIfInBounds_toArray, List.set_cons_zero, List.set_cons_succ]
      refine wpAnyH_take (i := 17) (oi := ⟨some 28, _, _, _, _, _⟩) (v := .int .i64 k) rfl (by kernel_rfl) (by kernel_rfl) (by kernel_rfl) (fun _ _ _ h => h) (Or.inl ⟨by rfl, fun w hw => by go_simp⟩) (by assumption) ?_
      simp only [Act.put, List.setIfInBounds_toArray, List.set_cons_zero, List.set_cons_succ]
      refine wpAnyH_take (i := 18) (oi := ⟨some 29, _, _, _, _, _⟩) (v := .pointer (some ⟨gR, off + k * 5, none⟩)) rfl (by kernel_rfl) (by kernel_rfl) (by kernel_rfl) (fun _ _ _ h => h) (Or.inl ⟨by rfl, fun w hw => by go_simp <;> first | omega | (intro hh; omega)⟩) (by assumption) ?_
      simp only [Act.put, List.setIfInBounds_toArray, List.set_cons_zero, List.set_cons_succ]
      refine wpAnyH_take (i := 19) (oi := ⟨some 30, _, _, _, _, _⟩) (v := .pointer (some ⟨gR, off + k * 5 + 3, none⟩)) rfl (by kernel_rfl) (by kernel_rfl) (by kernel_rfl) (fun _ _ _ h => h) (Or.inl ⟨by rfl, fun w hw => by go_simp⟩) (by assumption) ?_
      simp only [Act.put, List.setIfInBounds_toArray, List.set_cons_zero, List.set_cons_succ]
      refine wpAnyH_take (i := 20) (oi := ⟨some 31, _, _, _, _, _⟩) (v := .int .u32 x.dr) rfl (by kernel_rfl) (by kernel_rfl) (by kernel_rfl) (fun _ _ _ h => h) (Or.inl ⟨by rfl, fun w hw => by go_simp⟩) (by assumption) ?_
      simp only [Act.put, List.setIfInBounds_toArray, List.set_cons_zero, List.set_cons_succ]
      refine wpAnyH_take (i := 21) (oi := ⟨some 32, _, _, _, _, _⟩) (v := .slice (some ⟨gR, off, none⟩) l.length vc) rfl (by kernel_rfl) (by kernel_rfl) (by kernel_rfl) (fun _ _ _ h => h) (Or.inl ⟨by rfl, fun w hw => by go_simp⟩) (by assumption) ?_
      simp only [Act.put, List.setIfInBounds_toArray, List.set_cons_zero, List.set_cons_succ]
      refine wpAnyH_take (i := 22) (oi := ⟨some 33, _, _, _, _, _⟩) (v := .int .i64 k) rfl (by kernel_rfl) (by kernel_rfl) (by kernel_rfl) (fun _ _ _ h => h) (Or.inl ⟨by rfl, fun w hw => by go_simp⟩) (by assumption) ?_
      simp only [Act.put, List.setIfInBounds_toArray, List.set_cons_zero, List.set_cons_succ]
      refine wpAnyH_take (i := 23) (oi := ⟨some 34, _, _, _, _, _⟩) (v := .pointer (some ⟨gR, off + k * 5, none⟩)) rfl (by kernel_rfl) (by kernel_rfl) (by kernel_rfl) (fun _ _ _ h => h) (Or.inl ⟨by rfl, fun w hw => by go_simp <;> first | omega | (intro hh; omega)⟩) (by assumption) ?_
      simp only [Act.put, List.setIfInBounds_toArray, List.set_cons_zero, List.set_cons_succ]
      refine wpAnyH_take (i := 24) (oi := ⟨some 35, _, _, _, _, _⟩) (v := .pointer (some ⟨gR, off + k * 5 + 4, none⟩)) rfl (by kernel_rfl) (by kernel_rfl) (by kernel_rfl) (fun _ _ _ h => h) (Or.inl ⟨by rfl, fun w hw => by go_simp⟩) (by assumption) ?_
      simp only [Act.put, List.setIfInBounds_toArray, List.set_cons_zero, List.set_cons_succ]
      refine wpAnyH_take (i := 25) (oi := ⟨some 36, _, _, _, _, _⟩) (v := .int .u32 x.bd) rfl (by kernel_rfl) (by kernel_rfl) (by kernel_rfl) (fun _ _ _ h => h) (Or.inl ⟨by rfl, fun w hw => by go_simp⟩) (by assumption) ?_
      simp only [Act.put, List.setIfInBounds_toArray, List.set_cons_zero, List.set_cons_succ]
      refine wpAnyH_take (i := 26) (oi := ⟨some 37, _, _, _, _, _⟩) (v := .agg #[.int .u32 x.r, .int .u32 x.ad, .int .u8 x.p, .int .u32 x.dr, .int .u32 x.bd]) rfl (by kernel_rfl) (by kernel_rfl) (by kernel_rfl) (fun _ _ _ h => h) (Or.inl ⟨by rfl, fun w hw => by go_simp⟩) (by assumption) ?_
      simp only [Act.put, List.setIfInBounds_toArray, List.set_cons_zero, List.set_cons_succ]
      refine wpAnyH_ready (rs := [27]) (by kernel_rfl) (by simp) ?_
      refine AllReadyH.cons rfl (fun K hK => ?_) AllReadyH.nil
      go_simp
      have hvr5 : VR 35 w (wr.alloc (.cells #[.int .u32 x.r, .int .u32 x.ad, .int .u8 x.p, .int .u32 x.dr, .int .u32 x.bd] 35)).drew (.slice sa k sc) (l.take k) := VBuf.keep VRr.out (((Touch.refl _ _).alloc _).drew)
      have hc5 : ∀ (j : Nat) (u : Value), x.cells[j]? = some u → (wr.alloc (.cells #[.int .u32 x.r, .int .u32 x.ad, .int .u8 x.p, .int .u32 x.dr, .int .u32 x.bd] 35)).drew.cell? (Addr.add ⟨wr.heap.size, 0, none⟩ j) = some u := fun j u hj => by
        rw [show (Addr.add ⟨wr.heap.size, 0, none⟩ j) = ⟨wr.heap.size, j, none⟩ by by_cases h : j = 0 <;> simp [Addr.add, h]]
        exact (cell_of_row _ _ j _ _ _ (heap_alloc_new wr _)).trans (by rw [← hj]; simp only [VC.cells, List.getElem?_toArray])
      have hs5 : SnB gR wr (wr.alloc (.cells #[.int .u32 x.r, .int .u32 x.ad, .int .u8 x.p, .int .u32 x.dr, .int .u32 x.bd] 35)).drew := ⟨((Touch.refl _ _).alloc _).drew⟩
      refine hK.out _ _ hs5 (fun _ => ?_)
      clear hK K
      generalize (wr.alloc (.cells #[.int .u32 x.r, .int .u32 x.ad, .int .u8 x.p, .int .u32 x.dr, .int .u32 x.bd] 35)).drew = w5 at hvr5 hc5 hs5 ⊢
      have VR5 : Hid (VR 35 w w5 (.slice sa k sc) (l.take k)) := hvr5
      clear hvr5
      refine wpAnyH_ready (rs := [28]) (by kernel_rfl) (by simp) ?_
      refine AllReadyH.cons rfl (fun K hK => ?_) AllReadyH.nil
      refine step_vc_app rfl (.tmp 11) (.tmp 38) rfl w (.slice sa k sc) (l.take k) rfl VR5.out x ⟨_, 0, none⟩ rfl hc5 (by omega) (fun v6 w6 hv6 hg6 => ?_)
      have VR6 : Hid (VR 35 w w6 v6 (l.take (k + 1))) := by show VR _ _ _ _ _; rw [HTK.out]; exact hv6
      simp only [Act.put, List.setIfInBounds_toArray]
      refine hK.out _ _ (⟨hs5.t.grown hg6 (fun g hg => Or.inl (HOB.out g hg))⟩) (fun hHeld => ?_)
      clear hK K hv6 hg6
      refine wpAnyH_take (i := 29) (oi := ⟨some 3, _, _, _, _, _⟩) (v := v6) rfl (by kernel_rfl) (by kernel_rfl) (by kernel_rfl) (fun _ _ _ h => h) (Or.inl ⟨by rfl, fun w hw => by go_simp⟩) (by assumption) ?_
      simp only [Act.put]
      refine wpAnyH_done (by kernel_rfl) ?_ _
      go_wp2_with fail
      go_roundg (l.length - (k + 1))
      case measure => omega
      case rel => exact ⟨k + 1, _, by omega, by omega, by go_num, rfl, VR6.out⟩
    · have hlt' : ¬ ((k : Int) < (l.length : Int)) := by omega
      have e : l.take k = l := List.take_of_length_le (by omega)
      rw [e] at VRr
      go_wp2_with fail
      go_ret
      exact ⟨_, rfl, VRr.out⟩
end Go.Proofs.Ytcmkhhdjhemmbaa
