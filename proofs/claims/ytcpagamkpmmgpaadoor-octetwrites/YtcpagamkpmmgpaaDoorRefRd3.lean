/- Contracts of the document's reader: Read, Bytes, Part. -/
import Derived.Test.YtcpagamkpmmgpaaDoorRefRd2
import Derived.Test.YtcpagamkpmmgpaaDoorKeep
import Derived.Test.YtcpagamkpmmgpaaDoorArgs
namespace Go.Proofs.YtcpagamkpmmgpaaDoor
open Go.RowKit
set_option linter.unusedVariables false
set_option maxRecDepth 100000

/-- An append to a row of one's own, as a step of a region that draws its order. -/
theorem step_append_at {P : Program} {w : World} {ops : Array Oper} {o : Oper} {a : Act} {K : Act → World → Prop} {Q : Exit → Act → World → Prop} {E : Prop} (hgd : o.guard = none) (s x : Operand) (t : TypeId)
    (ho : o.op = .call { callee := .builtin .append, args := #[s, x], argTypes := #[t, t] })
    (base : Nat) (e : TypeId) (i : TypeInfo) (z : Value) (size bytes : Nat) (ht : P.underlying t = some (.slice e)) (hi : P.info? e = some i) (hz : i.zero = some z)
    (hsize : i.size = size) (hby : i.bytes = bytes) (hzs : z.cells.size = size) (hsz : 0 < size)
    (v : Value) (n : Nat) (xs : List Value) (hs : a.eval s = v) (hown : w.ownsRow base e size v n xs)
    (ad : Addr) (m c : Nat) (news : List Value) (hx : a.eval x = .slice (some ad) m c) (hl : news.length = m * size) (hnews : ∀ j u, news[j]? = some u → w.cell? (ad.add j) = some u) (h1 : ∀ u ∈ news, u.oneCell' = true)
    (h63 : n + m ≤ maxLen) (hbytes : (n + m) * bytes ≤ 140737488355328) (hbase : base ≤ w.heap.size)
    (h : ∀ v' w', w'.ownsRow base e size v' (n + m) (xs ++ news) → w.grownBy w' v.ownBlock → (v'.ownBlock = v.ownBlock ∨ v'.ownBlock = some w.heap.size) → K (a.put o.dst v') w') :
    if Region.wanted o (yielded ops a.tmps) = true then Oper.wp P o a w K Q else E := by
  have hw : Region.wanted o (yielded ops a.tmps) = true := by simp [Region.wanted, hgd]
  rw [if_pos hw]
  obtain ⟨v', w', hr, h2, h3, h4, h5⟩ := run_append_own_at (P := P) w base t o.type e i z size bytes ht hi hz hsize hby hzs hsz v n xs hown ad m c news hl hnews h1 h63 hbytes hbase
  unfold Oper.wp execOp
  simp only [ho, resolve, invoke, builtin, Sem.run_bind, Sem.run_pure, Result.andThen_ok, List.map_toArray, List.map_cons, List.map_nil, hs, hx, hr]
  exact h v' w' h2 h3 h5

theorem step_append_none {P : Program} {w : World} {ops : Array Oper} {o : Oper} {a : Act} {K : Act → World → Prop} {Q : Exit → Act → World → Prop} {E : Prop} (hgd : o.guard = none) (s x : Operand) (t : TypeId)
    (ho : o.op = .call { callee := .builtin .append, args := #[s, x], argTypes := #[t, t] })
    (base : Nat) (e : TypeId) (i : TypeInfo) (size : Nat) (ht : P.underlying t = some (.slice e)) (hi : P.info? e = some i)
    (v : Value) (n : Nat) (xs : List Value) (hs : a.eval s = v) (hown : w.ownsRow base e size v n xs) (hx : a.eval x = .slice none 0 0)
    (h : K (a.put o.dst v) w) : if Region.wanted o (yielded ops a.tmps) = true then Oper.wp P o a w K Q else E := by
  have hw : Region.wanted o (yielded ops a.tmps) = true := by simp [Region.wanted, hgd]
  rw [if_pos hw]
  have hrun := run_append_owned_none (P := P) (w := w) base t o.type e i size ht hi v n xs hown
  unfold Oper.wp
  simp [execOp, ho, resolve, invoke, builtin, hs, hx, hrun, Result.andThen]
  exact h

theorem dread_any (v : Value) (rs : List Int) (w : World) (h : ArgAt w v rs) (hby : ∀ x ∈ rs, 0 ≤ x ∧ x < 256) (hcap : rs.length ≤ 1099511627776) :
    Calls Tryd.prog 9 #[v] w fun e w' => ∃ dv, e = .returned (.pointer (some ⟨w.heap.size, 0, none⟩)) ∧ DdS w' w.heap.size dv rs 0 0 ∧ (∀ k, dv.ownBlock = some k → w.heap.size < k) ∧ Touch (fun _ => False) w w' := by
  obtain ⟨i0, hi, hz0, hz1, hz2⟩ := info_parts Tryd.info5d
  rcases h with ⟨rfl, rfl⟩ | ⟨ad, c, rfl, hlc, hcm, hcells⟩
  · go_enter Tryd.func9, Tryd.ntmps9
    go_wp2_with (at_builtin; refine wpList_append_own_none rfl (.tmp 10) (.tmp 11) 22 rfl 0 5 i0 1 Tryd.underlying22 hi (.slice none 0 0) 0 [] rfl (World.ownsRow_nil _ _ _ _) rfl ?_)
    go_ret
    exact ⟨.slice none 0 0, rfl, ⟨by simp [go_sem], by simp [go_sem], by simp [go_sem], by simp [go_sem], by simp [go_sem], by simp, Or.inl ⟨rfl, rfl⟩, by simp [Value.ownBlock], by simp, by simp [Value.ownBlock]⟩, by simp [Value.ownBlock], by first | exact (Touch.refl _ w).alloc _ | exact Touch.setCell (p := ⟨w.heap.size, 0, none⟩) ((Touch.refl _ w).alloc _) (Or.inr (Nat.le_refl _)) _⟩
  · have hs : ∀ o, ∀ j u, (bytesOf rs)[j]? = some u → (w.alloc o).cell? (ad.add j) = some u := fun o j u hj => ((Touch.refl _ w).alloc o).cellN (hcells j u hj)
    go_enter Tryd.func9, Tryd.ntmps9
    go_wp2_with (at_builtin; refine wpList_append_own_at _ rfl (.tmp 10) (.tmp 11) 22 rfl (w.heap.size + 1) 5 i0 (.int .u8 0) 1 1 Tryd.underlying22 hi hz0 hz1 hz2 rfl (by decide) (.slice none 0 0) 0 [] rfl (World.ownsRow_nil _ _ _ _) ad rs.length c (bytesOf rs) rfl ?c1 ?c2 ?c3 ?c4 ?c5 ?c6 ?_)
    case c1 => simp [length_bytesOf]
    case c2 => exact hs _
    case c3 => exact oneCell_bytesOf rs
    case c4 => unfold maxLen; omega
    case c5 => omega
    case c6 => simp
    intro v' w1 hown hgrow _ hat
    obtain ⟨va, vc, rfl⟩ : ∃ va vc, v' = .slice va rs.length vc := by
      rcases hown.2 with ⟨rfl, e⟩ | ⟨g, cap, cur, rfl, _⟩
      · exact ⟨none, 0, by rw [show rs.length = 0 by omega]⟩
      · exact ⟨_, _, rfl⟩
    have hown' : w1.ownsRow (w.heap.size + 1) 5 1 (.slice va rs.length vc) rs.length (bytesOf rs) := by simpa using hown
    have t1 : Touch (fun _ => False) (w.alloc (.cells #[.slice none 0 0, .int .i64 0, .int .i64 0] 82)) w1 := (Touch.refl _ _).grown hgrow (by simp [Value.ownBlock])
    have c0 : w1.cell? ⟨w.heap.size, 0, none⟩ = some (.slice none 0 0) := t1.cellN (by simp)
    have c1 : w1.cell? ⟨w.heap.size, 1, none⟩ = some (.int .i64 0) := t1.cellN (by simp)
    have c2 : w1.cell? ⟨w.heap.size, 2, none⟩ = some (.int .i64 0) := t1.cellN (by simp)
    have f0 : w1.frozen? ⟨w.heap.size, 0, none⟩ = false := (t1.frozen (p := ⟨w.heap.size, 0, none⟩) (by simp) (fun h => h)).trans (by simp)
    have f1 : w1.frozen? ⟨w.heap.size, 1, none⟩ = false := (t1.frozen (p := ⟨w.heap.size, 1, none⟩) (by simp) (fun h => h)).trans (by simp)
    have f2 : w1.frozen? ⟨w.heap.size, 2, none⟩ = false := (t1.frozen (p := ⟨w.heap.size, 2, none⟩) (by simp) (fun h => h)).trans (by simp)
    have HO : Hid (w1.ownsRow (w.heap.size + 1) 5 1 (.slice va rs.length vc) rs.length (bytesOf rs)) := hown'
    have hlt := HO.out.lt
    clear hown hown' hgrow hat hs hcells
    go_wp2
    go_ret
    have HO2 := own_setCell HO.out (a := ⟨w.heap.size, 0, none⟩) (Nat.lt_succ_self _) (.slice va rs.length vc)
    refine ⟨.slice va rs.length vc, rfl, ⟨by simp [c0, go_sem], by simp [c1, go_sem], by simp [c2, go_sem], by simp [f1, go_sem], by simp [f2, go_sem], Nat.zero_le _, own_rowAt HO2, ?_, hby, fun k hk => (HO2.lt k hk).2⟩, fun k hk => (HO2.lt k hk).1, ?_⟩
    · intro e; have := (HO2.lt _ e).1; omega
    · exact Touch.setCell (p := ⟨w.heap.size, 0, none⟩) (((Touch.refl _ w).alloc _).trans t1) (Or.inr (Nat.le_refl _)) _

set_option maxHeartbeats 4000000 in
theorem dbytes_all (b p : Nat) (n err : Int) (rv : Value) (rs : List Int) (w : World) (h : DdS w b rv rs p err) (hn : n ≤ 9223372036854775807) (hcap : rs.length ≤ 1099511627776) :
    Calls Tryd.prog 14 #[.pointer (some ⟨b, 0, none⟩), .int .i64 n] w fun e w' => ∃ v, e = .returned v ∧ w'.ownsRow w.heap.size 5 1 v (gotR rs p err n).length (bytesOf (gotR rs p err n)) ∧
      DdS w' b rv rs (stepR rs.length p err n).1 (stepR rs.length p err n).2.1 ∧ Touch (fun k => k = b) w w' := by
  obtain ⟨i0, hi, hz0, hz1, hz2⟩ := info_parts Tryd.info5d
  have hbl := lt_of_cell h.row
  by_cases hy : (stepR rs.length p err n).2.2 = true
  · have he : err = 0 := by
      by_cases he : err = 0
      · exact he
      · rw [stepR_dead _ _ _ _ he] at hy; simp at hy
    subst he
    have hn0 : ¬ n < 0 := by intro hc; rw [stepR_arg _ _ _ hc] at hy; simp at hy
    have hs0 : ¬ (rs.length : Int) < p + n := by intro hc; rw [stepR_short _ _ _ hn0 hc] at hy; simp at hy
    have hg : gotR rs p 0 n = (rs.drop p).take n.toNat := by simp [gotR, hy]
    have hst := stepR_ok _ _ _ hn0 hs0
    have hm := dmay_eq b p n 0 rv rs _ h hn _ _ _ hst
    obtain ⟨m, rfl⟩ : ∃ m : Nat, n = m := ⟨n.toNat, by omega⟩
    rw [hg, hst]
    simp only [Int.toNat_natCast]
    have hfit : p + m ≤ rs.length := by omega
    have hgl : ((rs.drop p).take m).length = m := by simp; omega
    rw [hgl]
    clear hs0 hn0 hy hst hg
    have hrow := h.rowAt
    rcases hrow with ⟨rfl, rfl⟩ | ⟨g, off, c, rfl, hlc, hcm, hcells⟩
    · obtain rfl : p = 0 := by simpa using h.ple
      obtain rfl : m = 0 := by simpa using hfit
      go_enter Tryd.func14, Tryd.ntmps14
      go_wp2_with (go_at_call 37; refine hm.mono ?_; rintro e w1 ⟨rfl, hd1, ht1, hz1⟩)
      have e0 := hd1.row
      have e1 := hd1.pos
      have ef := hd1.f1
      have HD : ∀ d, Hid (DdS ((w1.drewN d).setCell ⟨b, 1, none⟩ (.int .i64 0)) b (.slice none 0 0) [] 0 0) := fun d => (hd1.drewN d).setPos 0 (by simp)
      have HT : ∀ d, Hid (Touch (fun k => k = b) w ((w1.drewN d).setCell ⟨b, 1, none⟩ (.int .i64 0))) := fun d => Touch.setCell (F := fun k => k = b) (p := ⟨b, 1, none⟩) (ht1.drewN d) (Or.inl rfl) _
      clear hd1 ht1 hm
      have hw0 : IntKind.i64.wrap 0 = 0 := by decide
      go_region_law (refine step_append_none rfl (.tmp 10) (.tmp 25) 22 rfl 0 5 i0 1 Tryd.underlying22 hi (.slice none 0 0) 0 [] (by simp [Act.eval, Act.put]) (World.ownsRow_nil _ _ _ _) (by simp [Act.eval, Act.put]) ?_)
      all_goals go_wp2
      all_goals go_ret
      all_goals exact ⟨.slice none 0 0, rfl, World.ownsRow_nil _ _ _ _, (HD _).out, (HT _).out⟩
    · have hwr : IntKind.i64.wrap ((p : Int) + (m : Int)) = (p : Int) + (m : Int) := by rw [IntKind.wrap_i64]; unfold maxLen at hcm; omega
      have htn : ((p : Int) + (m : Int)).toNat = p + m := by omega
      have hpm : (p : Int) ≤ (p : Int) + (m : Int) := by omega
      have hpc : (p : Int) + (m : Int) ≤ (c : Int) := by omega
      have hpm' : p ≤ p + m := by omega
      have hpc' : p + m ≤ c := by omega
      have hsub : p + m - p = m := by omega
      obtain ⟨A, hA, hAc⟩ : ∃ A : Addr, (if c = p then some (⟨g, off, none⟩ : Addr) else some ⟨g, off + p, none⟩) = some A ∧ Hid (∀ j u, (bytesOf ((rs.drop p).take m))[j]? = some u → w.cell? (A.add j) = some u) := by
        by_cases hc : c = p
        · refine ⟨_, by rw [if_pos hc], ?_⟩
          intro j u hj
          have : (rs.drop p).take m = [] := List.eq_nil_of_length_eq_zero (by omega)
          rw [this] at hj
          simp [bytesOf] at hj
        · refine ⟨_, by rw [if_neg hc], ?_⟩
          intro j u hj
          rw [add_plain]
          have : (bytesOf rs)[p + j]? = some u := by
            simp only [bytesOf, List.map_take, List.map_drop, List.getElem?_take, List.getElem?_drop] at hj ⊢
            split at hj
            · exact hj
            · simp at hj
          have := hcells _ _ this
          rwa [← Nat.add_assoc] at this
      obtain ⟨got, hgot⟩ : ∃ got, got = (rs.drop p).take m := ⟨_, rfl⟩
      rw [← hgot] at hAc hgl ⊢
      have HG : Hid (got.length = m) := hgl
      clear hcells hgot hgl
      go_enter Tryd.func14, Tryd.ntmps14
      go_wp2_with (go_at_call 37; refine hm.mono ?_; rintro e w1 ⟨rfl, hd1, ht1, hz1⟩)
      have e0 := hd1.row
      have e1 := hd1.pos
      have HA1 : Hid (∀ j u, (bytesOf got)[j]? = some u → w1.drew.cell? (A.add j) = some u) := by
        intro j u hj
        have hc := hAc.out j u hj
        have hab : A.block = g := by
          by_cases hcp : c = p
          · rw [if_pos hcp] at hA; rw [← Option.some.inj hA]
          · rw [if_neg hcp] at hA; rw [← Option.some.inj hA]
        exact (ht1.drew.cell (p := A.add j) (lt_of_cellA hc) (by
          intro e
          have : (A.add j).block = A.block := by by_cases hj0 : j = 0 <;> simp [Addr.add, hj0]
          exact h.ne (by show some g = some b; rw [← hab, ← this, e]))).trans hc
      have HD1 : Hid (DdS w1 b (.slice (some ⟨g, off, none⟩) rs.length c) rs p 0) := hd1
      have HT1 : Hid (Touch (fun k => k = b) w w1) := ht1
      have HZ1 : Hid (w1.heap.size = w.heap.size) := hz1
      clear hd1 ht1 hm hAc hz1
      go_region_law (refine step_append_at rfl (.tmp 10) (.tmp 25) 22 rfl w.heap.size 5 i0 (.int .u8 0) 1 1 Tryd.underlying22 hi hz0 hz1 hz2 rfl (by decide) (.slice none 0 0) 0 [] (by simp [Act.eval, Act.put]) (World.ownsRow_nil _ _ _ _) A m (c - p) (bytesOf got) (by simp [Act.eval, Act.put]) (by simp [length_bytesOf, HG.out]) HA1.out (oneCell_bytesOf _) (by unfold maxLen; omega) (by omega) (by show w.heap.size ≤ w1.heap.size; rw [HZ1.out]; exact Nat.le_refl _) ?_; intro v' w2 hown hgrow hat)
      all_goals
        obtain ⟨va, vc, rfl⟩ := own_form hown
        have t2 : Touch (fun _ => False) w1 w2 := ((Touch.refl _ w1).drew).grown hgrow (by simp [Value.ownBlock])
        have hd2 := HD1.out.touch t2 (fun h => h) (fun _ _ h => h)
        have k1 := hd2.pos
        have kf := hd2.f1
        have HD2 : Hid (DdS (w2.setCell ⟨b, 1, none⟩ (.int .i64 ((p : Int) + (m : Int)))) b (.slice (some ⟨g, off, none⟩) rs.length c) rs (p + m) 0) := hd2.setPos (p + m) hfit
        have HT2 : Hid (Touch (fun k => k = b) w (w2.setCell ⟨b, 1, none⟩ (.int .i64 ((p : Int) + (m : Int))))) := Touch.setCell (F := fun k => k = b) (p := ⟨b, 1, none⟩) (HT1.out.trans' t2 (fun _ _ h => h.elim)) (Or.inl rfl) _
        have HO : Hid (w2.ownsRow w.heap.size 5 1 (.slice va (0 + m) vc) (0 + m) ([] ++ bytesOf got)) := hown
        clear hown hgrow hat hd2 t2 e0 e1
        go_wp2
        go_ret
        refine ⟨_, rfl, ?_, HD2.out, HT2.out⟩
        have := own_setCell HO.out (a := ⟨b, 1, none⟩) (by simpa using hbl) (.int .i64 ((p : Int) + (m : Int)))
        simpa using this
  · have hy' : (stepR rs.length p err n).2.2 = false := by simpa using hy
    have hg : gotR rs p err n = [] := by simp [gotR, hy']
    have hq : (stepR rs.length p err n).1 = p := by
      by_cases he : err = 0
      · subst he
        by_cases h0 : n < 0
        · rw [stepR_arg _ _ _ h0]
        · by_cases h1 : (rs.length : Int) < p + n
          · rw [stepR_short _ _ _ h0 h1]
          · rw [stepR_ok _ _ _ h0 h1] at hy'; simp at hy'
      · rw [stepR_dead _ _ _ _ he]
    have hm := dmay_eq b p n err rv rs _ h hn p (stepR rs.length p err n).2.1 false (Prod.ext hq (Prod.ext rfl hy'))
    rw [hg, hq]
    generalize (stepR rs.length p err n).2.1 = e' at hm ⊢
    clear hy hy' hg hq
    go_enter Tryd.func14, Tryd.ntmps14
    go_wp2_with (go_at_call 37; refine hm.mono ?_; rintro e w1 ⟨rfl, hd1, ht1, hz1⟩)
    go_ret
    exact ⟨.slice none 0 0, rfl, World.ownsRow_nil _ _ _ _, hd1, ht1⟩

theorem dpart_all (b p : Nat) (n err : Int) (rv : Value) (rs : List Int) (w : World) (h : DdS w b rv rs p err) (hn : n ≤ 9223372036854775807) (hcap : rs.length ≤ 1099511627776) :
    Calls Tryd.prog 17 #[.pointer (some ⟨b, 0, none⟩), .int .i64 n] w fun e w' => ∃ d dv, e = .returned (.pointer (some ⟨d, 0, none⟩)) ∧ w.heap.size ≤ d ∧ DdS w' d dv (gotR rs p err n) 0 (stepR rs.length p err n).2.1 ∧
      (∀ k, dv.ownBlock = some k → w.heap.size ≤ k) ∧ DdS w' b rv rs (stepR rs.length p err n).1 (stepR rs.length p err n).2.1 ∧ Touch (fun k => k = b) w w' := by
  have hgb := bytes_got h.byte p err n
  have hby := dbytes_all b p n err rv rs w h hn hcap
  generalize gotR rs p err n = got at hby hgb ⊢
  generalize stepR rs.length p err n = st at hby ⊢
  go_enter Tryd.func17, Tryd.ntmps17
  go_wp2_with fail
  refine hby.mono ?_
  rintro e w1 ⟨v, rfl, hown, hd, ht⟩
  obtain ⟨va, vc, rfl⟩ := own_form hown
  have k2 := hd.err
  have HD : Hid (DdS w1 b rv rs st.1 st.2.1) := hd
  have HO : Hid (w1.ownsRow w.heap.size 5 1 (.slice va got.length vc) got.length (bytesOf got)) := hown
  clear hby hd hown
  go_wp2
  go_ret
  have ta : ∀ o, Touch (fun _ => False) w1 (w1.alloc o) := fun o => (Touch.refl _ w1).alloc o
  refine ⟨w1.heap.size, .slice va got.length vc, rfl, ht.size, ⟨by simp, by simp, by simp, by simp, by simp, Nat.zero_le _, (own_rowAt HO.out).touch (ta _) (fun _ _ h => h), ?_, hgb, ?_⟩, fun k hk => (HO.out.lt k hk).1, HD.out.touch (ta _) (fun h => h) (fun _ _ h => h), ht.alloc _⟩
  · intro e; have := (HO.out.lt _ e).2; omega
  · intro k e; have := (HO.out.lt _ e).2; simp; omega
end Go.Proofs.YtcpagamkpmmgpaaDoor
