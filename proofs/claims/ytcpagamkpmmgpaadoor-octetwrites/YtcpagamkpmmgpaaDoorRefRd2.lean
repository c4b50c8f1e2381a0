/- Contracts of the document's reader: Read, Number, Bytes, Part; of 'alike'. -/
import Derived.Test.YtcpagamkpmmgpaaDoorRefRd
namespace Go.Proofs.YtcpagamkpmmgpaaDoor
open Go.RowKit
set_option linter.unusedVariables false
set_option maxRecDepth 100000

theorem Tryd.info5d : (Tryd.prog.info? 5).map (fun i => (i.zero, i.size, i.bytes)) = some (some (.int .u8 0), 1, 1) := by kernel_rfl

theorem alike_any (b p : Nat) (err : Int) (rv : Value) (rs : List Int) (d : Nat) (dv : Value) (w : World) (h : RdS w b rv rs p err) (hd : DdS w d dv rs p err) :
    Calls Tryd.prog 10 #[.pointer (some ⟨b, 0, none⟩), .pointer (some ⟨d, 0, none⟩)] w fun e w' => e = .returned (.bool true) ∧ ∃ n, w' = w.drewN n := by
  have h0 := h.made
  have h2 := h.pos
  have h3 := h.err
  have d1 := hd.pos
  have d2 := hd.err
  go_enter Tryd.func10, Tryd.ntmps10
  go_wp2
  go_quiet ((first | (go_at_call 31; exact Calls.quiet_of_same ((err_any _ _ _ (h.drewN _).made (h.drewN _).err).mono (fun e w' hh => ⟨hh.1, hh.2.symm⟩))) | (go_at_call 32; exact Calls.quiet_of_same ((at_any _ _ _ (h.drewN _).pos).mono (fun e w' hh => ⟨hh.1, hh.2.symm⟩))) | (go_at_call 34; exact Calls.quiet_of (left_all _ _ _ _ _ _ (h.drewN _))) | (go_at_call 35; exact Calls.quiet_of (dleft_all _ _ _ _ _ _ (hd.drewN _)))))
  go_wp2
  all_goals go_ret
  all_goals exact ⟨rfl, _, rfl⟩

theorem dmay_eq (b p : Nat) (n err : Int) (rv : Value) (rs : List Int) (w : World) (h : DdS w b rv rs p err) (hn : n ≤ 9223372036854775807) (q : Nat) (e' : Int) (y : Bool) (hs : stepR rs.length p err n = (q, e', y)) :
    Calls Tryd.prog 37 #[.pointer (some ⟨b, 0, none⟩), .int .i64 n] w fun e w' => e = .returned (.bool y) ∧
      DdS w' b rv rs p e' ∧ Touch (fun k => k = b) w w' ∧ w'.heap.size = w.heap.size := by
  have hm := dmay_all b p n err rv rs w h hn
  rw [hs] at hm
  exact hm

theorem dnumber_all (b p : Nat) (n err : Int) (rv : Value) (rs : List Int) (w : World) (h : DdS w b rv rs p err) (hn : n ≤ 9223372036854775807) :
    Calls Tryd.prog 20 #[.pointer (some ⟨b, 0, none⟩), .int .i64 n] w fun e w' => e = .returned (.int .u32 (numVal (gotN rs p err n))) ∧
      DdS w' b rv rs (stepN rs.length p err n).1 (stepN rs.length p err n).2.1 ∧ Touch (fun k => k = b) w w' ∧ w'.heap.size = w.heap.size := by
  have h2 := h.err
  have hf := h.f2
  by_cases he : err = 0
  · subst he
    by_cases hr : n < 1 ∨ 4 < n
    · have hs : stepN rs.length p 0 n = (p, 1, false) := by simp [stepN, hr]
      have hg : gotN rs p 0 n = [] := by simp [gotN, hs]
      rw [hs, hg]
      have h' := h.setErr 1
      have hm := dmay_eq b p n 1 rv rs _ h' hn _ _ _ (stepR_dead _ _ _ _ (by decide))
      clear h'
      by_cases h1 : n < 1
      · clear hr
        go_enter Tryd.func20, Tryd.ntmps20
        go_wp2_with (go_at_call 37; refine hm.mono ?_; rintro e w' ⟨rfl, hd, ht, hz⟩)
        go_ret
        exact ⟨rfl, hd, (Touch.setCell (F := fun k => k = b) (p := ⟨b, 2, none⟩) (Touch.refl _ w) (Or.inl rfl) _).trans ht, by rw [hz]; simp [World.setCell]⟩
      · have h1' : decide (n < 1) = false := by simpa using h1
        have h4 : 4 < n := by omega
        clear hr
        go_enter Tryd.func20, Tryd.ntmps20
        go_wp2_with (go_at_call 37; refine hm.mono ?_; rintro e w' ⟨rfl, hd, ht, hz⟩)
        go_ret
        exact ⟨rfl, hd, (Touch.setCell (F := fun k => k = b) (p := ⟨b, 2, none⟩) (Touch.refl _ w) (Or.inl rfl) _).trans ht, by rw [hz]; simp [World.setCell]⟩
    · have hs : stepN rs.length p 0 n = stepR rs.length p 0 n := by simp [stepN, hr]
      have h0 : ¬ n < 0 := by omega
      have h1' : decide (n < 1) = false := by simp; omega
      have h4' : decide (4 < n) = false := by simp; omega
      by_cases hsh : (rs.length : Int) < p + n
      · rw [stepR_short _ _ _ h0 hsh] at hs
        have hm := dmay_eq b p n 0 rv rs _ h hn _ _ _ (stepR_short _ _ _ h0 hsh)
        have hg : gotN rs p 0 n = [] := by simp [gotN, hs]
        rw [hs, hg]
        clear hr hsh
        go_enter Tryd.func20, Tryd.ntmps20
        go_wp2_with (go_at_call 37; refine hm.mono ?_; rintro e w' ⟨rfl, hd, ht, hz⟩)
        go_ret
        exact ⟨rfl, hd, ht, hz⟩
      · rw [stepR_ok _ _ _ h0 hsh] at hs
        have hm := dmay_eq b p n 0 rv rs _ h hn _ _ _ (stepR_ok _ _ _ h0 hsh)
        obtain ⟨m, rfl⟩ : ∃ m : Nat, n = m := ⟨n.toNat, by omega⟩
        have hg : gotN rs p 0 m = (rs.drop p).take m := by simp [gotN, hs]
        rw [hs, hg]
        obtain ⟨zs, hzs⟩ : ∃ zs, zs = (rs.drop p).take m := ⟨_, rfl⟩
        have hzl : zs.length = m := by rw [hzs]; simp; omega
        have hzb : Hid (∀ x ∈ zs, 0 ≤ x ∧ x < 256) := by rw [hzs]; exact bytes_sub h.byte p m
        have HZ : Hid (zs = (rs.drop p).take m) := hzs
        rw [← hzs]
        have hfit : p + m ≤ rs.length := by omega
        have hm1 : 1 ≤ m := by omega
        have hm4 : m ≤ 4 := by omega
        clear hr hsh hzs hs hg
        go_enter Tryd.func20, Tryd.ntmps20
        go_wp2_with (go_at_call 37; refine hm.mono ?_; rintro e w1 ⟨rfl, hd1, ht1, hz1⟩)
        go_loopw [5, 6] (fun v i wr => ∃ k : Nat, k ≤ m ∧ i = .int .i64 k ∧ v = .int .u32 (numVal (zs.take k)) ∧ DdS wr b rv rs (p + k) 0 ∧ Touch (fun k => k = b) w wr ∧ wr.heap.size = w.heap.size) (fun _ i _ => m - (intOf i).toNat)
        case atStart => exact ⟨0, Nat.zero_le _, rfl, rfl, hd1, ht1, hz1⟩
        case round =>
          obtain ⟨k, hk, rfl, rfl, hdk, htk, hzk⟩ := hrel
          by_cases hlt : k < m
          · have hrow := hdk.rowAt
            obtain ⟨ra, rc, rfl, hml⟩ := rowAt_form hrow
            unfold maxLen at hml
            rcases hrow with ⟨e, e'⟩ | ⟨g, off, c, e, hlc, hcm, hcells⟩
            · rw [e'] at hfit; simp at hfit; omega
            · simp only [Value.slice.injEq, true_and] at e
              obtain ⟨rfl, rfl⟩ := e
              have hc0 : wr.cell? ⟨g, off + (p + k), none⟩ = some (.int .u8 (zs.getD k 0)) := by
                refine hcells (p + k) _ ?_
                simp only [bytesOf, List.getElem?_map]
                rw [HZ.out, List.getElem?_eq_getElem (by omega)]
                simp [List.getD, hlt, List.getElem?_drop, List.getElem?_eq_getElem (show p + k < rs.length by omega)]
              obtain ⟨z, hz⟩ : ∃ z, z = zs.getD k 0 := ⟨_, rfl⟩
              rw [← hz] at hc0
              have hx := hzb.out z (by rw [hz]; simp [List.getD, show k < zs.length by omega])
              obtain ⟨hx0, hx1⟩ := hx
              obtain ⟨V, hV⟩ : ∃ V, V = numVal (zs.take k) := ⟨_, rfl⟩
              have hb := numVal_bd zs hzb.out k
              have hb3 := pow_3 k (by omega)
              have HS : Hid (numVal (zs.take (k + 1)) = V * 256 + z) := by show _ = _; rw [numVal_take zs k (by omega), hV, hz]
              rw [← hV] at hb ⊢
              have hV1 : V < 16777216 := by omega
              have hV0 : 0 ≤ V := hb.1
              obtain ⟨q, hq⟩ : ∃ q, q = p + k := ⟨_, rfl⟩
              rw [← hq] at hdk hc0
              have e0 := hdk.row
              have e1 := hdk.pos
              have ef := hdk.f1
              have hidx : (q : Int) < (rs.length : Int) := by omega
              have hq1 : q + 1 ≤ rs.length := by omega
              have HQ : Hid (p + (k + 1) = q + 1) := by show _ = _; omega
              have HD : ∀ d, Hid (DdS ((wr.drewN d).setCell ⟨b, 1, none⟩ (.int .i64 ((q : Int) + 1))) b (.slice (some ⟨g, off, none⟩) rs.length rc) rs (q + 1) 0) := fun d => (hdk.drewN d).setPos (q + 1) hq1
              have HT : ∀ d, Hid (Touch (fun k => k = b) w ((wr.drewN d).setCell ⟨b, 1, none⟩ (.int .i64 ((q : Int) + 1)))) := fun d => Touch.setCell (F := fun k => k = b) (p := ⟨b, 1, none⟩) (htk.drewN d) (Or.inl rfl) _
              have HZ2 : ∀ d, Hid (((wr.drewN d).setCell ⟨b, 1, none⟩ (.int .i64 ((q : Int) + 1))).heap.size = w.heap.size) := fun d => by show _ = _; simpa [World.setCell, World.drewN] using hzk
              have hbl := lt_of_cell e0
              clear hb hb3 hV hz hcells hdk h2 hf hm hd1 ht1 hz1 hq htk hzk
              go_wp2
              go_quiet (fail)
              go_wp2
              go_roundw
              case rel => exact ⟨k + 1, by omega, by go_num, by rw [HS.out]; go_num, by rw [HQ.out]; exact (HD _).out, (HT _).out, (HZ2 _).out⟩
              case measure => simp [intOf]; omega
          · obtain rfl : k = m := by omega
            go_wp2
            go_ret
            exact ⟨ret_int (by rw [List.take_of_length_le (by omega)]), by simpa using hdk, htk, hzk⟩
  · have hs : stepN rs.length p err n = (p, err, false) := by simp [stepN, he, stepR_dead _ _ _ _ he]
    have hg : gotN rs p err n = [] := by simp [gotN, hs]
    rw [hs, hg]
    have hm := dmay_eq b p n err rv rs _ h hn _ _ _ (stepR_dead _ _ _ _ he)
    have he' : (err == 0) = false := by simpa using he
    go_enter Tryd.func20, Tryd.ntmps20
    go_wp2_with (go_at_call 37; refine hm.mono ?_; rintro e w' ⟨rfl, hd, ht, hz⟩)
    go_ret
    exact ⟨rfl, hd, ht, hz⟩
end Go.Proofs.YtcpagamkpmmgpaaDoor
