/- Contracts of 'part', of AddBytes. -/
import Derived.Test.YtcpagamkpmmgpaaDoorRefRd3
import Derived.Test.YtcpagamkpmmgpaaDoorBagAll
namespace Go.Proofs.YtcpagamkpmmgpaaDoor
open Go.RowKit
set_option linter.unusedVariables false
set_option maxRecDepth 100000

/-- A reader and the document's, in one state, apart from each other. -/
structure Two (w : World) (b : Nat) (rv : Value) (d : Nat) (dv : Value) (rs : List Int) (p : Nat) (err : Int) : Prop where
  rd : RdS w b rv rs p err
  dd : DdS w d dv rs p err
  ne : b ≠ d
  nr : rv.ownBlock ≠ some d
  nd : dv.ownBlock ≠ some b

theorem Two.touch {F : Nat → Prop} {w w' : World} {b d p : Nat} {rv dv : Value} {rs : List Int} {err : Int} (h : Two w b rv d dv rs p err) (t : Touch F w w') (hb : ¬ F b) (hd : ¬ F d) (hr : ∀ k, rv.ownBlock = some k → ¬ F k) (hv : ∀ k, dv.ownBlock = some k → ¬ F k) : Two w' b rv d dv rs p err :=
  ⟨h.rd.touch t hb hr, h.dd.touch t hd hv, h.ne, h.nr, h.nd⟩

def twoF (b d : Nat) : Nat → Prop := fun k => k = b ∨ k = d

theorem two_number (b : Nat) (rv : Value) (d : Nat) (dv : Value) (rs : List Int) (p : Nat) (err n : Int) (w : World) (h : Two w b rv d dv rs p err) (w1 w2 : World) (p' : Nat) (e' : Int)
    (h1 : RdS w1 b rv rs p' e') (t1 : Touch (fun k => k = b) w w1) (h2 : DdS w2 d dv rs p' e') (t2 : Touch (fun k => k = d) w1 w2) : Two w2 b rv d dv rs p' e' ∧ Touch (twoF b d) w w2 :=
  ⟨⟨h1.touch t2 (fun e => h.ne e) (fun k hk e => h.nr (by rw [hk, e])), h2, h.ne, h.nr, h.nd⟩, (t1.mono (fun i _ e => Or.inl e)).trans' t2 (fun i _ e => Or.inr e)⟩

theorem two_after (b : Nat) (rv : Value) (d : Nat) (dv : Value) (rs : List Int) (p : Nat) (err : Int) (w : World) (h : Two w b rv d dv rs p err) (w1 : World) (t1 : Touch (fun k => k = b) w w1) : DdS w1 d dv rs p err :=
  h.dd.touch t1 (fun e => h.ne e.symm) (fun k hk e => h.nd (by rw [hk, e]))

set_option maxHeartbeats 1000000 in
theorem part_any (b : Nat) (rv : Value) (d : Nat) (dv : Value) (rs : List Int) (p : Nat) (err : Int) (w : World) (h : Two w b rv d dv rs p err) :
    Calls Tryd.prog 18 #[.pointer (some ⟨b, 0, none⟩), .pointer (some ⟨d, 0, none⟩)] w fun e w' => e = .returned (.bool true) ∧ Touch (twoF b d) w w' := by
  go_enter Tryd.func18, Tryd.ntmps18
  go_wp2
  go_loopw [5] (fun i wr => ∃ (k q : Nat) (e : Int), k ≤ 70 ∧ i = .int .i64 k ∧ Two wr b rv d dv rs q e ∧ Touch (twoF b d) w wr) (fun i _ => 70 - (intOf i).toNat)
  case atStart => exact ⟨0, p, err, Nat.zero_le _, rfl, h, Touch.refl _ _⟩
  case round =>
    obtain ⟨k, q, e, hk, rfl, hq, tq⟩ := hrel
    by_cases hlt : k < 70
    · go_wp2_with fail
      refine (rnumber_all b q 1 e rv rs wr hq.rd).mono ?_
      rintro e1 w1 ⟨rfl, hr1, t1, _⟩
      go_wp2_with fail
      refine (dnumber_all d q 1 e dv rs w1 (two_after b rv d dv rs q e wr hq w1 t1) (by omega)).mono ?_
      rintro e2 w2 ⟨rfl, hd2, t2, _⟩
      obtain ⟨hq2, tq2⟩ := two_number b rv d dv rs q e 1 wr hq w1 w2 _ _ hr1 t1 hd2 t2
      generalize numVal (gotN rs q e 1) = x
      generalize stepN rs.length q e 1 = st at hq2 hr1 hd2
      clear hr1 t1 hd2 t2
      go_wp2_with fail
      refine (alike_any b _ _ rv rs d dv w2 hq2.rd hq2.dd).mono ?_
      rintro e3 w3 ⟨rfl, nn, rfl⟩
      have hq3 := hq2.touch ((Touch.refl (fun _ => False) w2).drewN nn) (fun h => h) (fun h => h) (fun _ _ h => h) (fun _ _ h => h)
      have tq3 := (tq.trans tq2).drewN nn
      clear hq2 tq2 hq tq
      go_wp2
      go_roundw
      case rel => exact ⟨k + 1, _, _, by omega, by go_num, hq3, tq3⟩
      case measure => simp [intOf] <;> omega
    · go_wp2
      go_ret
      exact ⟨rfl, tq⟩

theorem Tryd.infoA : (Tryd.prog.info? 22).map (fun i => (i.zero, i.size, i.bytes)) = some (some (.slice none 0 0), 1, 24) := by kernel_rfl

theorem cell_other (w : World) (b j : Nat) (v : Value) (h : 0 < j) : (w.setCell ⟨b, 0, none⟩ v).cell? ⟨b, j, none⟩ = w.cell? ⟨b, j, none⟩ :=
  World.cell?_setCell_other w ⟨b, 0, none⟩ ⟨b, j, none⟩ v (by intro e; injection e with _ e2; omega)

theorem bag_added {w w1 : World} {b : Nat} {gv gv' v : Value} {vs : List Value} {xs : List Int} (h : BagB w b gv vs) (hv : w.ownsRow 0 5 1 v xs.length (bytesOf xs)) (hvl : lenOf v = xs.length) (hlen : xs.length ≤ 1048576)
    (hnew : ∀ k, v.ownBlock = some k → k ≠ b ∧ gv.ownBlock ≠ some k ∧ ∀ (m : Nat) (u : Value), vs[m]? = some u → u.ownBlock ≠ some k) (hroom : vs.length < 300) (hbase : ∀ k, gv.ownBlock = some k → b < k)
    (hf : w.frozen? ⟨b, 0, none⟩ = false) (t : Touch (fun k => gv.ownBlock = some k) w w1) (hown : w1.ownsRow 0 22 1 gv' (vs.length + 1) (vs ++ [v])) (hat : gv'.ownBlock = gv.ownBlock ∨ gv'.ownBlock = some (w.heap.size + 1)) :
    BagB (w1.setCell ⟨b, 0, none⟩ gv') b gv' (vs ++ [v]) ∧ (w1.setCell ⟨b, 0, none⟩ gv').frozen? ⟨b, 0, none⟩ = false ∧ (∀ k, gv'.ownBlock = some k → b < k) ∧ (gv'.ownBlock = gv.ownBlock ∨ ∃ k, gv'.ownBlock = some k ∧ w.heap.size ≤ k) ∧ Touch (fun k => k = b ∨ gv.ownBlock = some k) w (w1.setCell ⟨b, 0, none⟩ gv') ∧ ∀ j v, 1 ≤ j → w.cell? ⟨b, j, none⟩ = some v → (w1.setCell ⟨b, 0, none⟩ gv').cell? ⟨b, j, none⟩ = some v := by
  have hbl := lt_of_cell h.cell
  have hgb : ∀ k, gv'.ownBlock = some k → b < k := by
    intro k hk
    rcases hat with e | e
    · exact hbase k (by rw [← e]; exact hk)
    · rw [e] at hk; simp at hk; omega
  have hc1 : w1.cell? ⟨b, 0, none⟩ = some gv := (t.cell (p := ⟨b, 0, none⟩) hbl h.nbg).trans h.cell
  have hf1 : w1.frozen? ⟨b, 0, none⟩ = false := (t.frozen (p := ⟨b, 0, none⟩) hbl h.nbg).trans hf
  have tc : Touch (fun k => k = b) w1 (w1.setCell ⟨b, 0, none⟩ gv') := Touch.setCell (F := fun k => k = b) (p := ⟨b, 0, none⟩) (Touch.refl _ w1) (Or.inl rfl) _
  have tt : Touch (fun k => k = b ∨ gv.ownBlock = some k) w (w1.setCell ⟨b, 0, none⟩ gv') := (t.mono (fun i _ e => Or.inr e)).trans' tc (fun i _ e => Or.inl e)
  have hat' : ∀ k, gv'.ownBlock = some k → k < w.heap.size → gv.ownBlock = some k := by
    intro k hk hl
    rcases hat with e | e
    · rw [← e]; exact hk
    · rw [e] at hk; simp at hk; omega
  have ap : ∀ (m : Nat) (u : Value), (vs ++ [v])[m]? = some u → (m < vs.length ∧ vs[m]? = some u) ∨ (m = vs.length ∧ u = v) := by
    intro m u hu
    rcases Nat.lt_or_ge m vs.length with hm | hm
    · left; rw [List.getElem?_append_left hm] at hu; exact ⟨hm, hu⟩
    · right
      rw [List.getElem?_append_right hm] at hu
      have : m - vs.length < [v].length := (List.getElem?_eq_some_iff.mp hu).1
      simp at this
      have e : m - vs.length = 0 := by omega
      rw [e] at hu
      simp at hu
      exact ⟨by omega, hu.symm⟩
  refine ⟨⟨by simp [hc1, go_sem], ?_, ?_, ?_, ?_, ?_, ?_, by simp; omega, ?_⟩, by simp [hf1, go_sem], hgb, ?_, tt, fun j v hj hc => (cell_other w1 b j gv' (by omega)).trans ((t.cell (p := ⟨b, j, none⟩) hbl h.nbg).trans hc)⟩
  · have := own_touch hown tc (fun k hk e => by have := hgb k hk; omega)
    simpa using this
  · intro m u hu
    rcases ap m u hu with ⟨hm, hu'⟩ | ⟨rfl, rfl⟩
    · obtain ⟨ys, k1, k2⟩ := h.rows m u hu'
      exact ⟨ys, k1, own_touch k2 tt (fun k hk e => by rcases e with e | e; exact h.nb m u hu' (by rw [hk, e]); exact h.ng m u k hu' hk e)⟩
    · exact ⟨xs, hvl.symm, by rw [hvl]; exact own_touch hv tt (fun k hk e => by have := hnew k hk; rcases e with e | e; exact this.1 e; exact this.2.1 e)⟩
  · intro m m' u u' k hu hu' hk hk'
    rcases ap m u hu with ⟨hm, h1⟩ | ⟨rfl, rfl⟩ <;> rcases ap m' u' hu' with ⟨hm', h2⟩ | ⟨rfl, rfl⟩
    · exact h.apart m m' u u' k h1 h2 hk hk'
    · exact absurd hk ((hnew k hk').2.2 m u h1)
    · exact absurd hk' ((hnew k hk).2.2 m' u' h2)
    · rfl
  · intro m u hu
    rcases ap m u hu with ⟨hm, hu'⟩ | ⟨rfl, rfl⟩
    · exact h.nb m u hu'
    · intro e; exact (hnew b e).1 rfl
  · intro m u k hu hk e
    rcases ap m u hu with ⟨hm, hu'⟩ | ⟨rfl, rfl⟩
    · obtain ⟨ys, k1, k2⟩ := h.rows m u hu'
      exact h.ng m u k hu' hk (hat' k e (own_lt k2 hk))
    · exact (hnew k hk).2.1 (hat' k e (own_lt hv hk))
  · intro e; have := hgb b e; omega
  · intro m u hu
    rcases ap m u hu with ⟨hm, hu'⟩ | ⟨rfl, rfl⟩
    · exact h.small m u hu'
    · rw [hvl]; exact hlen
  · rcases hat with e | e
    · exact Or.inl e
    · exact Or.inr ⟨_, e, by omega⟩

/-- AddBytes: one list more, that lies apart from the others. -/
theorem add_any (b : Nat) (gv : Value) (vs : List Value) (v : Value) (xs : List Int) (w : World) (h : BagB w b gv vs) (hf : w.frozen? ⟨b, 0, none⟩ = false) (hv : w.ownsRow 0 5 1 v xs.length (bytesOf xs)) (hlen : xs.length ≤ 1048576)
    (hnew : ∀ k, v.ownBlock = some k → k ≠ b ∧ gv.ownBlock ≠ some k ∧ ∀ (m : Nat) (u : Value), vs[m]? = some u → u.ownBlock ≠ some k) (hroom : vs.length < 300) (hbase : ∀ k, gv.ownBlock = some k → b < k) :
    Calls Tryd.prog 15 #[.pointer (some ⟨b, 0, none⟩), v] w fun e w' => e = .returned (.tuple #[]) ∧ ∃ gv', BagB w' b gv' (vs ++ [v]) ∧ w'.frozen? ⟨b, 0, none⟩ = false ∧
      (∀ k, gv'.ownBlock = some k → b < k) ∧ (gv'.ownBlock = gv.ownBlock ∨ ∃ k, gv'.ownBlock = some k ∧ w.heap.size ≤ k) ∧ Touch (fun k => k = b ∨ gv.ownBlock = some k) w w' ∧ ∀ j v, 1 ≤ j → w.cell? ⟨b, j, none⟩ = some v → w'.cell? ⟨b, j, none⟩ = some v := by
  obtain ⟨i1, hj, hy0, hy1, hy2⟩ := info_parts Tryd.infoA
  obtain ⟨va, vc, rfl⟩ := own_form hv
  obtain ⟨ga, gc, rfl⟩ := own_form h.own
  have hc := h.cell
  have hbl := lt_of_cell hc
  have HB : Hid (BagB w b (.slice ga vs.length gc) vs) := h
  have HV : Hid (w.ownsRow 0 5 1 (.slice va xs.length vc) xs.length (bytesOf xs)) := hv
  have HW : Hid (∀ k, (Value.slice va xs.length vc).ownBlock = some k → k ≠ b ∧ (Value.slice ga vs.length gc).ownBlock ≠ some k ∧ ∀ (m : Nat) (u : Value), vs[m]? = some u → u.ownBlock ≠ some k) := hnew
  have HBB : Hid (∀ k, (Value.slice ga vs.length gc).ownBlock = some k → b < k) := hbase
  clear h hv hnew hbase
  go_enter Tryd.func15, Tryd.ntmps15
  go_wp2_with (at_builtin; refine wpList_append_own_at _ rfl (.tmp 14) (.tmp 16) 35 rfl 0 22 i1 (.slice none 0 0) 1 24 Tryd.underlying35 hj hy0 hy1 hy2 rfl (by decide) (.slice ga vs.length gc) vs.length vs rfl (HB.out.own.alloc _) ⟨w.heap.size, 0, none⟩ 1 1 [.slice va xs.length vc] rfl rfl ?c1 ?c2 ?c3 ?c4 ?c5 ?_)
  case c1 => exact cell_one_new _ _ _
  case c2 => intro u hu; obtain rfl := List.mem_singleton.mp hu; rfl
  case c3 => unfold maxLen; omega
  case c4 => omega
  case c5 => exact Nat.zero_le _
  intro gv' w1 hown hgrow _ hat
  obtain ⟨ga', gc', rfl⟩ := own_form hown
  have t1 : Touch (fun k => (Value.slice ga vs.length gc).ownBlock = some k) w w1 := ((Touch.refl _ w).alloc _).grown hgrow (fun k hk => Or.inl hk)
  have hnb := HB.out.nbg
  have hc1 : w1.cell? ⟨b, 0, none⟩ = some (.slice ga vs.length gc) := (t1.cell (p := ⟨b, 0, none⟩) hbl hnb).trans hc
  have hf1 : w1.frozen? ⟨b, 0, none⟩ = false := (t1.frozen (p := ⟨b, 0, none⟩) hbl hnb).trans hf
  have HR : Hid _ := bag_added HB.out HV.out rfl hlen HW.out hroom HBB.out hf t1 hown hat
  clear t1 hown hgrow hat hc hf hnb
  go_wp2
  go_end0
  exact ⟨rfl, .slice ga' (vs.length + 1) gc', HR.out⟩
end Go.Proofs.YtcpagamkpmmgpaaDoor
