/- Layer 16: edges are two by two. -/
import Derived.Test.YtjffcflhbnmjmaaGreatGrTwo
namespace Go.Proofs.YtjffcflhbnmjmaaGreat
open Go.RowKit
set_option linter.unusedVariables false
set_option maxRecDepth 100000

theorem node_get {D : List ND} {P : List SV} (h : D.map ND.n = grB P) {i : Nat} {d : ND} (hd : D[i]? = some d) : ∃ x, P[i]? = some x ∧ d.n = nodeE P i x := by
  have h1 : (D.map ND.n)[i]? = some d.n := by rw [List.getElem?_map, hd]; rfl
  rw [h] at h1
  unfold grB at h1
  rw [List.getElem?_mapIdx] at h1
  cases hx : P[i]? with
  | none => rw [hx] at h1; cases h1
  | some x =>
    rw [hx] at h1
    exact ⟨x, rfl, (Option.some.inj h1).symm⟩
theorem node_len {D : List ND} {P : List SV} (h : D.map ND.n = grB P) : D.length = P.length := by
  have := congrArg List.length h
  simpa [grB] using this
/-- What the statement asks of one edge. -/
structure PairE (D : List ND) (i : Nat) (d : ND) (e : EV) : Prop where
  lt : e.dst < D.length
  ne : e.dst ≠ i
  net : d.n.net = true → e.cost = 0 ∧ ∀ t, D[e.dst]? = some t → t.n.net = false
  back : ∀ t, D[e.dst]? = some t → (t.n.edges.any (fun x => x.dst == i && x.virt == e.virt)) = true
theorem pair_edge {l : List SE} {D : List ND} {P : List SV} (hN : IsN l P) (h : D.map ND.n = grB P) {i : Nat} {d : ND} (hd : D[i]? = some d) {e : EV} (he : e ∈ d.n.edges) : PairE D i d e := by
  obtain ⟨x, hx, e1⟩ := node_get h hd
  have he' : e ∈ edgs P i x := by rw [e1] at he; exact he
  have F := edgs_mem hN.fine hN.nodup hx he'
  have hto : ∀ t y, D[e.dst]? = some t → P[e.dst]? = some y → t.n = nodeE P e.dst y := fun t y ht hy => by
    obtain ⟨y', hy', e2⟩ := node_get h ht
    rw [hy] at hy'
    cases hy'
    exact e2
  refine ⟨by rw [node_len h]; exact F.lt, F.ne, fun hn => ?_, fun t ht => ?_⟩
  · rw [e1] at hn
    obtain ⟨c0, y, hy, hyn⟩ := F.net hn
    refine ⟨c0, fun t ht => ?_⟩
    rw [hto t y ht hy]
    exact hyn
  · obtain ⟨y, hy, b, hb, hb1, hb2⟩ := F.back
    rw [hto t y ht hy]
    exact List.any_eq_true.2 ⟨b, hb, by simp [hb1, hb2]⟩
/-- An edge in memory. -/
theorem edge_one {w : World} {base : Nat} {v : Value} {E : List EV} (h : w.ownsRow base 43 4 v E.length (edgeC E)) {j : Nat} {e : EV} (hj : E[j]? = some e) : ∃ g off c, v = .slice (some ⟨g, off, none⟩) E.length c ∧ ∀ i u, e.cells[i]? = some u → w.cell? ⟨g, off + (j * 4 + i), none⟩ = some u := by
  have hlt := (List.getElem?_eq_some_iff.mp hj).1
  obtain ⟨g, off, c, e', _, _, hc⟩ := ValsAt.cells (own_vals h) (by omega) (by omega)
  refine ⟨g, off, c, e', fun i u hu => hc _ _ ?_⟩
  have hi : i < 4 := (List.getElem?_eq_some_iff.mp hu).1
  rw [edgeC_at E j i e hj hi]
  exact hu
theorem any_step {α : Type} (f : α → Bool) {l : List α} {k : Nat} {a : α} (h : l[k]? = some a) : (l.take (k + 1)).any f = ((l.take k).any f || f a) := by
  rw [List.take_add_one, h, List.any_append]
  simp
set_option maxHeartbeats 8000000 in
theorem gpairs_any (v : Value) (l : List SE) (w : World) (hv : StatesAt w v l) (hb : ∀ x ∈ l, x.rs.length ≤ 140737488355328) (hl : l.length ≤ 140737488355328) :
    Calls Tryz.prog 4 #[v] w fun e w' => e = .returned (.bool true) ∧ Touch (fun _ => False) w w' := by
  have HH := heavy16 v l w hv hl hb
  have HW := works16
  have HV : Hid (StatesAt w v l) := hv
  obtain ⟨va, vc, rfl, -⟩ := ValsAt.form hv.vals
  clear hv hb hl
  go_enter Tryz.func4, Tryz.ntmps4
  go_wp2_with fail
  refine HH.mono ?_
  rintro e w1 ⟨b, rfl, hbb, rfl⟩
  cases b with
  | true =>
    clear HH hbb
    go_wp2_with fail
    refine (HW _).mono ?_
    rintro e w1 ⟨rfl, t1⟩
    have T1 : Hid _ := t1
    clear t1 HW
    go_wp2_with fail
    go_ret
    exact ⟨rfl, T1.out⟩
  | false =>
    obtain ⟨hl60, hb16⟩ := hbb rfl
    have HC := gcstates (.slice va l.length vc) l w HV.out (by omega) (fun x hx => Nat.le_trans (hb16 x hx) (by omega))
    have HB16 : Hid (∀ x ∈ l, x.rs.length ≤ 16384) := hb16
    have HL60 : Hid (l.length ≤ 60) := hl60
    clear HH hbb hb16 hl60
    go_wp2_with fail
    refine HC.mono ?_
    rintro e w1 ⟨u, rfl, t1, l', hp, ho, hbo⟩
    have hA := copied_at HV.out.ok hp ho hbo
    have hln : l'.length = l.length := by have := congrArg List.length hp; simpa using this
    have HB := build_any u l' w1 hA (by have := HL60.out; omega) (fun x hx => by
      have : x.pr ∈ l.map SE.pr := by rw [← hp]; exact List.mem_map.2 ⟨x, hx, rfl⟩
      obtain ⟨y, hy, e⟩ := List.mem_map.1 this
      have e2 : y.rs = x.rs := congrArg Prod.snd e
      rw [← e2]
      exact Nat.le_trans (HB16.out y hy) (by omega))
    obtain ⟨ua, uc, rfl, -⟩ := ValsAt.form hA.vals
    have HT1 : Hid (Touch (fun _ => False) w w1) := t1
    have HN60 : Hid (∀ P, IsN l' P → P.length ≤ 60) := fun P h => by
      have h1 := h.perm.length_eq
      rw [List.length_map] at h1
      have := bests_len l'
      have := HL60.out
      omega
    clear HC hA hp ho hbo t1 HV hln
    generalize l'.length = n1 at *
    go_wp2_with fail
    refine HB.mono ?_
    rintro e w2 ⟨P, g, rfl, hN, ⟨D, hv, hD, hok⟩, t2⟩
    have HPE : Hid (∀ (i : Nat) (d : ND) (e : EV), D[i]? = some d → e ∈ d.n.edges → PairE D i d e) := fun i d e hd he => pair_edge hN hD hd he
    have hDn : D.length ≤ 60 := by rw [node_len hD]; exact HN60.out P hN
    have hDn' : (D.length : Int) ≤ 60 := by omega
    obtain ⟨ga, gc, rfl, -⟩ := ValsAt.form hv
    have HG : Hid (ValsAt w2 7 (.slice ga D.length gc) D.length (nodeC D)) := hv
    have HOK : Hid (∀ d ∈ D, d.Ok 0 w2) := hok
    have HT2 : Hid (Touch (fun _ => False) w w2) := HT1.out.trans t2
    clear hv hok t2 HB hN hD HN60 HT1 hDn
    go_wp2_with fail
    go_loopw [4] (fun i wr => ∃ k : Nat, k ≤ D.length ∧ i = .int .i64 k ∧ Touch (fun _ => False) w2 wr) (fun i _ => D.length - (intOf i).toNat)
    case atStart => exact ⟨0, Nat.zero_le _, rfl, Touch.refl _ _⟩
    case round =>
      obtain ⟨i, hi, rfl, t⟩ := hrel
      have HTi : Hid (Touch (fun _ => False) w2 wr) := t
      clear t
      by_cases hlt : i < D.length
      · have hlt' : (i : Int) < (D.length : Int) := by omega
        obtain ⟨d, hd⟩ : ∃ d, D[i]? = some d := ⟨D[i], by simp [hlt]⟩
        obtain ⟨gg, off, gc', eg, -⟩ := nodes_one HG.out hd
        simp only [Value.slice.injEq] at eg
        obtain ⟨rfl, -, rfl⟩ := eg
        have HCe : Hid (∀ (j : Nat) (t : ND) (k : Nat) (u : Value) (w' : World), Touch (fun _ => False) w2 w' → D[j]? = some t → t.cells[k]? = some u → w'.cell? ⟨gg, off + (j * 7 + k), none⟩ = some u) := fun j t k u w' tt hj hu => by
          obtain ⟨g1, o1, c1, e1, h1⟩ := nodes_one HG.out hj
          simp only [Value.slice.injEq, Option.some.injEq, Addr.mk.injEq, true_and, and_true] at e1
          obtain ⟨⟨rfl, rfl⟩, -⟩ := e1
          exact tt.cellN (h1 k u hu)
        have HDi : Hid (D[i]? = some d) := hd
        obtain ⟨ea, ec, sa, sc, ee, es⟩ := (HOK.out d (List.mem_of_getElem? hd)).forms
        have HEr : Hid (∀ w', Touch (fun _ => False) w2 w' → w'.ownsRow 0 43 4 (.slice ea d.n.edges.length ec) d.n.edges.length (edgeC d.n.edges)) := fun w' t => by rw [← ee]; exact own_touch (HOK.out d (List.mem_of_getElem? hd)).e t (fun _ _ h => h)
        have HC5 : Hid (∀ w', Touch (fun _ => False) w2 w' → w'.cell? ⟨gg, off + i * 7 + 5, none⟩ = some (.slice ea d.n.edges.length ec) ∧ w'.cell? ⟨gg, off + i * 7, none⟩ = some (.bool d.n.net)) := fun w' t => ⟨by rw [← ee, Nat.add_assoc]; exact HCe.out i d 5 _ w' t hd rfl, HCe.out i d 0 _ w' t hd rfl⟩
        have hEn : (d.n.edges.length : Int) ≤ 9223372036854775807 := by
          obtain ⟨_, _, e1, hm⟩ := ValsAt.form (own_vals (HEr.out w2 (Touch.refl _ _)))
          unfold maxLen at hm
          omega
        clear hd ee es
        go_wp2_with fail
        go_loopw [5] (fun q wr => ∃ k : Nat, k ≤ d.n.edges.length ∧ q = .int .i64 k ∧ Touch (fun _ => False) w2 wr) (fun q _ => d.n.edges.length - (intOf q).toNat)
        case atStart => exact ⟨0, Nat.zero_le _, rfl, HTi.out⟩
        case round =>
          obtain ⟨q, hq, rfl, t⟩ := hrel
          have HTq : Hid (Touch (fun _ => False) w2 wr) := t
          have c5 := (HC5.out wr t).1
          have lc := lt_of_cell c5
          clear t
          by_cases hql : q < d.n.edges.length
          · have hql' : (q : Int) < (d.n.edges.length : Int) := by omega
            obtain ⟨e, he⟩ : ∃ e, d.n.edges[q]? = some e := ⟨d.n.edges[q], by simp [hql]⟩
            have PE := HPE.out i d e HDi.out (List.mem_of_getElem? he)
            obtain ⟨ge, oe, ce, eg, hc⟩ := edge_one (HEr.out wr HTq.out) he
            simp only [Value.slice.injEq] at eg
            obtain ⟨rfl, -, rfl⟩ := eg
            have y0 : wr.cell? ⟨ge, oe + q * 4, none⟩ = some (.int .i64 (e.dst : Int)) := hc 0 _ rfl
            have y1 : wr.cell? ⟨ge, oe + q * 4 + 1, none⟩ = some (.int .u32 e.cost) := by rw [Nat.add_assoc]; exact hc 1 _ rfl
            have y2 : wr.cell? ⟨ge, oe + q * 4 + 2, none⟩ = some (.int .u32 e.data) := by rw [Nat.add_assoc]; exact hc 2 _ rfl
            have y3 : wr.cell? ⟨ge, oe + q * 4 + 3, none⟩ = some (.bool e.virt) := by rw [Nat.add_assoc]; exact hc 3 _ rfl
            have ly := lt_of_cell y0
            obtain ⟨tn, htn⟩ : ∃ tn, D[e.dst]? = some tn := ⟨D[e.dst]'PE.lt, by simp [PE.lt]⟩
            obtain ⟨xa, xc, xsa, xsc, xe, xs⟩ := (HOK.out tn (List.mem_of_getElem? htn)).forms
            have HEt : Hid (∀ w', Touch (fun _ => False) w2 w' → w'.ownsRow 0 43 4 (.slice xa tn.n.edges.length xc) tn.n.edges.length (edgeC tn.n.edges)) := fun w' t => by rw [← xe]; exact own_touch (HOK.out tn (List.mem_of_getElem? htn)).e t (fun _ _ h => h)
            have HCt : Hid (∀ w', Touch (fun _ => False) w2 w' → w'.cell? ⟨gg, off + e.dst * 7 + 5, none⟩ = some (.slice xa tn.n.edges.length xc) ∧ w'.cell? ⟨gg, off + e.dst * 7, none⟩ = some (.bool tn.n.net)) := fun w' t => ⟨by rw [← xe, Nat.add_assoc]; exact HCe.out e.dst tn 5 _ w' t htn rfl, HCe.out e.dst tn 0 _ w' t htn rfl⟩
            have HBk : Hid (tn.n.edges.any (fun x => x.dst == i && x.virt == e.virt) = true) := PE.back tn htn
            have h1 : ¬ ((e.dst : Int) < 0) := by omega
            have h2 : ¬ ((D.length : Int) ≤ (e.dst : Int)) := by have := PE.lt; omega
            have h2' : (e.dst : Int) < (D.length : Int) := by have := PE.lt; omega
            have h3 : ((e.dst : Int) == (i : Int)) = false := by have := PE.ne; simp; omega
            have wA : Touch (fun _ => False) wr (wr.alloc (.cells #[.int .i64 (e.dst : Int), .int .u32 e.cost, .int .u32 e.data, .bool e.virt] 43)) := (Touch.refl _ _).alloc _
            have c0 := (HC5.out wr HTq.out).2
            have t0 := (HCt.out wr HTq.out).2
            have HTA : Hid (Touch (fun _ => False) w2 (wr.alloc (.cells #[.int .i64 (e.dst : Int), .int .u32 e.cost, .int .u32 e.data, .bool e.virt] 43))) := HTq.out.trans wA
            have HRE : Hid (Row (wr.alloc (.cells #[.int .i64 (e.dst : Int), .int .u32 e.cost, .int .u32 e.data, .bool e.virt] 43)) wr.heap.size 43 [.int .i64 (e.dst : Int), .int .u32 e.cost, .int .u32 e.data, .bool e.virt]) := row_new _ _ _
            have hxn : (tn.n.edges.length : Int) ≤ 9223372036854775807 := by
              obtain ⟨_, _, e1, hm⟩ := ValsAt.form (own_vals (HEt.out w2 (Touch.refl _ _)))
              unfold maxLen at hm
              omega
            have hnet : d.n.net = false ∨ (d.n.net = true ∧ e.cost = 0 ∧ tn.n.net = false) := by
              cases hn : d.n.net with
              | false => exact Or.inl rfl
              | true => exact Or.inr ⟨rfl, (PE.net hn).1, (PE.net hn).2 tn htn⟩
            clear PE hc he xe xs htn wA HG HOK HPE HCe
            obtain ⟨wE, hwE⟩ : ∃ u, u = wr.alloc (.cells #[.int .i64 (e.dst : Int), .int .u32 e.cost, .int .u32 e.data, .bool e.virt] 43) := ⟨_, rfl⟩
            rw [← hwE] at HTA HRE
            go_upto_region 11 with fail
            rw [← hwE]
            clear hwE y0 y1 y2 y3 ly c0 t0 c5 lc
            have z0 : wE.cell? ⟨wr.heap.size, 0, none⟩ = some (.int .i64 (e.dst : Int)) := HRE.out.cell 0
            have z1 : wE.cell? ⟨wr.heap.size, 1, none⟩ = some (.int .u32 e.cost) := HRE.out.cell 1
            have z3 : wE.cell? ⟨wr.heap.size, 3, none⟩ = some (.bool e.virt) := HRE.out.cell 3
            have lz := HRE.out.lt
            have c0 := (HC5.out wE HTA.out).2
            have t0 := (HCt.out wE HTA.out).2
            have lc := lt_of_cell c0
            generalize hbe : wr.heap.size = be at *
            clear hbe
            have INNER : Hid (∀ (K : Prop), K → K) := fun _ h => h
            rcases hnet with hnet | ⟨hnet, hcost, htnet⟩
            all_goals
              rw [hnet] at c0
            · skip
              go_upto_region 14 with fail
              clear z1 c0 t0
              go_wp2_with fail
              go_loopw [7, 8] (fun s7 s8 wr => ∃ k : Nat, k ≤ tn.n.edges.length ∧ s8 = .int .i64 k ∧ s7 = .bool ((tn.n.edges.take k).any (fun x => x.dst == i && x.virt == e.virt)) ∧ Touch (fun _ => False) wE wr) (fun _ s8 _ => tn.n.edges.length - (intOf s8).toNat)
              case atStart => exact ⟨0, Nat.zero_le _, rfl, by simp, Touch.refl _ _⟩
              case round =>
                obtain ⟨j, hj, rfl, rfl, t⟩ := hrel
                have HTj : Hid (Touch (fun _ => False) w2 wr) := HTA.out.trans t
                have HTe : Hid (Touch (fun _ => False) wE wr) := t
                have z0' : wr.cell? ⟨be, 0, none⟩ = some (.int .i64 (e.dst : Int)) := t.cellN z0
                have z3' : wr.cell? ⟨be, 3, none⟩ = some (.bool e.virt) := t.cellN z3
                have c5 := (HCt.out wr HTj.out).1
                have lw := lt_of_cell c5
                have lz' := lt_of_cell z0'
                clear t
                by_cases hjl : j < tn.n.edges.length
                · have hjl' : (j : Int) < (tn.n.edges.length : Int) := by omega
                  obtain ⟨x, hx⟩ : ∃ x, tn.n.edges[j]? = some x := ⟨tn.n.edges[j], by simp [hjl]⟩
                  obtain ⟨gx, ox, cx, egx, hcx⟩ := edge_one (HEt.out wr HTj.out) hx
                  simp only [Value.slice.injEq] at egx
                  obtain ⟨rfl, -, rfl⟩ := egx
                  have y0 : wr.cell? ⟨gx, ox + j * 4, none⟩ = some (.int .i64 (x.dst : Int)) := hcx 0 _ rfl
                  have y1 : wr.cell? ⟨gx, ox + j * 4 + 1, none⟩ = some (.int .u32 x.cost) := by rw [Nat.add_assoc]; exact hcx 1 _ rfl
                  have y2 : wr.cell? ⟨gx, ox + j * 4 + 2, none⟩ = some (.int .u32 x.data) := by rw [Nat.add_assoc]; exact hcx 2 _ rfl
                  have y3 : wr.cell? ⟨gx, ox + j * 4 + 3, none⟩ = some (.bool x.virt) := by rw [Nat.add_assoc]; exact hcx 3 _ rfl
                  have ly := lt_of_cell y0
                  have HAN : Hid _ := any_step (fun x : EV => x.dst == i && x.virt == e.virt) hx
                  have hcast : ((x.dst : Int) == (i : Int)) = (x.dst == i) := by rw [Bool.eq_iff_iff]; simp; omega
                  have hwA : Touch (fun _ => False) wr (wr.alloc (.cells #[.int .i64 (x.dst : Int), .int .u32 x.cost, .int .u32 x.data, .bool x.virt] 43)) := (Touch.refl _ _).alloc _
                  have HTN : Hid (Touch (fun _ => False) wE (wr.alloc (.cells #[.int .i64 (x.dst : Int), .int .u32 x.cost, .int .u32 x.data, .bool x.virt] 43))) := HTe.out.trans hwA
                  clear hcx hx hwA HEt HCt HC5 HEr HBk
                  generalize hbk : (tn.n.edges.take j).any (fun x => x.dst == i && x.virt == e.virt) = bk at *
                  cases bk with
                  | true =>
                    go_wp2_with fail
                    go_roundw
                    case rel => exact ⟨j + 1, by omega, by go_num, by rw [HAN.out]; rfl, HTN.out⟩
                    case measure => simp [intOf]; omega
                  | false =>
                    cases hd1 : (x.dst == i) with
                    | false =>
                      rw [hd1] at hcast
                      go_wp2_with fail
                      go_roundw
                      case rel => exact ⟨j + 1, by omega, by go_num, by rw [HAN.out, hd1]; rfl, HTN.out⟩
                      case measure => simp [intOf]; omega
                    | true =>
                      rw [hd1] at hcast
                      go_wp2_with fail
                      go_roundw
                      case rel => exact ⟨j + 1, by omega, by go_num, by rw [HAN.out, hd1]; simp, HTN.out⟩
                      case measure => simp [intOf]; omega
                · have hjl' : ¬ (j : Int) < (tn.n.edges.length : Int) := by omega
                  obtain rfl : j = tn.n.edges.length := by omega
                  have hbt : (tn.n.edges.take tn.n.edges.length).any (fun x => x.dst == i && x.virt == e.virt) = true := by rw [List.take_length]; exact HBk.out
                  rw [hbt]
                  clear hbt HBk HEt HCt HC5 HEr
                  go_wp2_with fail
                  go_roundw
                  case rel => exact ⟨q + 1, by omega, by go_num, HTj.out⟩
                  case measure => simp [intOf]; omega
            · rw [htnet] at t0
              have hc0 : (e.cost != 0) = false := by rw [hcost]; rfl
              go_upto_region 14 with fail
              clear z1 c0 t0 hc0
              go_wp2_with fail
              go_loopw [7, 8] (fun s7 s8 wr => ∃ k : Nat, k ≤ tn.n.edges.length ∧ s8 = .int .i64 k ∧ s7 = .bool ((tn.n.edges.take k).any (fun x => x.dst == i && x.virt == e.virt)) ∧ Touch (fun _ => False) wE wr) (fun _ s8 _ => tn.n.edges.length - (intOf s8).toNat)
              case atStart => exact ⟨0, Nat.zero_le _, rfl, by simp, Touch.refl _ _⟩
              case round =>
                obtain ⟨j, hj, rfl, rfl, t⟩ := hrel
                have HTj : Hid (Touch (fun _ => False) w2 wr) := HTA.out.trans t
                have HTe : Hid (Touch (fun _ => False) wE wr) := t
                have z0' : wr.cell? ⟨be, 0, none⟩ = some (.int .i64 (e.dst : Int)) := t.cellN z0
                have z3' : wr.cell? ⟨be, 3, none⟩ = some (.bool e.virt) := t.cellN z3
                have c5 := (HCt.out wr HTj.out).1
                have lw := lt_of_cell c5
                have lz' := lt_of_cell z0'
                clear t
                by_cases hjl : j < tn.n.edges.length
                · have hjl' : (j : Int) < (tn.n.edges.length : Int) := by omega
                  obtain ⟨x, hx⟩ : ∃ x, tn.n.edges[j]? = some x := ⟨tn.n.edges[j], by simp [hjl]⟩
                  obtain ⟨gx, ox, cx, egx, hcx⟩ := edge_one (HEt.out wr HTj.out) hx
                  simp only [Value.slice.injEq] at egx
                  obtain ⟨rfl, -, rfl⟩ := egx
                  have y0 : wr.cell? ⟨gx, ox + j * 4, none⟩ = some (.int .i64 (x.dst : Int)) := hcx 0 _ rfl
                  have y1 : wr.cell? ⟨gx, ox + j * 4 + 1, none⟩ = some (.int .u32 x.cost) := by rw [Nat.add_assoc]; exact hcx 1 _ rfl
                  have y2 : wr.cell? ⟨gx, ox + j * 4 + 2, none⟩ = some (.int .u32 x.data) := by rw [Nat.add_assoc]; exact hcx 2 _ rfl
                  have y3 : wr.cell? ⟨gx, ox + j * 4 + 3, none⟩ = some (.bool x.virt) := by rw [Nat.add_assoc]; exact hcx 3 _ rfl
                  have ly := lt_of_cell y0
                  have HAN : Hid _ := any_step (fun x : EV => x.dst == i && x.virt == e.virt) hx
                  have hcast : ((x.dst : Int) == (i : Int)) = (x.dst == i) := by rw [Bool.eq_iff_iff]; simp; omega
                  have hwA : Touch (fun _ => False) wr (wr.alloc (.cells #[.int .i64 (x.dst : Int), .int .u32 x.cost, .int .u32 x.data, .bool x.virt] 43)) := (Touch.refl _ _).alloc _
                  have HTN : Hid (Touch (fun _ => False) wE (wr.alloc (.cells #[.int .i64 (x.dst : Int), .int .u32 x.cost, .int .u32 x.data, .bool x.virt] 43))) := HTe.out.trans hwA
                  clear hcx hx hwA HEt HCt HC5 HEr HBk
                  generalize hbk : (tn.n.edges.take j).any (fun x => x.dst == i && x.virt == e.virt) = bk at *
                  cases bk with
                  | true =>
                    go_wp2_with fail
                    go_roundw
                    case rel => exact ⟨j + 1, by omega, by go_num, by rw [HAN.out]; rfl, HTN.out⟩
                    case measure => simp [intOf]; omega
                  | false =>
                    cases hd1 : (x.dst == i) with
                    | false =>
                      rw [hd1] at hcast
                      go_wp2_with fail
                      go_roundw
                      case rel => exact ⟨j + 1, by omega, by go_num, by rw [HAN.out, hd1]; rfl, HTN.out⟩
                      case measure => simp [intOf]; omega
                    | true =>
                      rw [hd1] at hcast
                      go_wp2_with fail
                      go_roundw
                      case rel => exact ⟨j + 1, by omega, by go_num, by rw [HAN.out, hd1]; simp, HTN.out⟩
                      case measure => simp [intOf]; omega
                · have hjl' : ¬ (j : Int) < (tn.n.edges.length : Int) := by omega
                  obtain rfl : j = tn.n.edges.length := by omega
                  have hbt : (tn.n.edges.take tn.n.edges.length).any (fun x => x.dst == i && x.virt == e.virt) = true := by rw [List.take_length]; exact HBk.out
                  rw [hbt]
                  clear hbt HBk HEt HCt HC5 HEr
                  go_wp2_with fail
                  go_roundw
                  case rel => exact ⟨q + 1, by omega, by go_num, HTj.out⟩
                  case measure => simp [intOf]; omega
          · have hql' : ¬ (q : Int) < (d.n.edges.length : Int) := by omega
            go_wp2_with fail
            go_roundw
            case rel => exact ⟨i + 1, by omega, by go_num, HTq.out⟩
            case measure => simp [intOf]; omega
      · have hlt' : ¬ (i : Int) < (D.length : Int) := by omega
        clear HPE HG HOK
        go_wp2_with fail
        refine (HW _).mono ?_
        rintro e w3 ⟨rfl, t3⟩
        have T3 : Hid _ := t3
        clear t3 HW
        go_wp2_with fail
        go_ret
        exact ⟨rfl, (HT2.out.trans HTi.out).trans T3.out⟩
end Go.Proofs.YtjffcflhbnmjmaaGreat
