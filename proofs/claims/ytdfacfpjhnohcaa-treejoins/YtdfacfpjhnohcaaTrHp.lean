
/- Hops of the document's are made the package's; the same? -/
import Derived.Test.YtdfacfpjhnohcaaTrCat
import Derived.Test.YtdfacfpjhnohcaaTrArgs
import Derived.Deep.RegionLaw
namespace Go.Proofs.Ytdfacfpjhnohcaa
open Go.RowKit
set_option linter.unusedVariables false
set_option maxRecDepth 100000

/-- A row of hops at any place. -/
structure RA (w : World) (v : Value) (l : List HK) : Prop where
  out : ∃ a c, v = .slice a l.length c ∧ RwAt HK.cs 3 w a l
theorem RA.keep {w w' : World} {v : Value} {l : List HK} (h : RA w v l) (t : Touch (fun _ => False) w w') : RA w' v l := by
  obtain ⟨a, c, rfl, h | ⟨g, o, rfl, hc⟩⟩ := h.out
  · exact ⟨_, _, rfl, Or.inl h⟩
  · exact ⟨_, _, rfl, Or.inr ⟨g, o, rfl, fun i x hx d u hd => t.cellN (hc i x hx d u hd)⟩⟩
theorem HV3.ra {w : World} {v : Value} {l : List HK} (h : HV3 w v l) : RA w v l := by
  rcases Nat.eq_zero_or_pos l.length with h0 | h0
  · obtain ⟨a, c, rfl, -⟩ := h.form
    exact ⟨a, c, rfl, Or.inl (List.length_eq_zero_iff.1 h0)⟩
  · obtain ⟨g, o, c, rfl, -, -, hc⟩ := h.cells h0 (by omega)
    refine ⟨_, c, rfl, Or.inr ⟨g, o, rfl, fun i x hx d u hd => ?_⟩⟩
    have hd3 : d < 3 := (List.getElem?_eq_some_iff.1 hd).1
    have := hc (i * 3 + d) u (by rw [cellsG_get HK.len _ _ _ hd3, hx]; exact hd)
    rw [Nat.add_assoc]
    exact this
theorem tk_one {l : List HK} {i : Nat} {x : HK} (h : l[i]? = some x) : l.take (i + 1) = l.take i ++ [x] := by rw [List.take_add_one, h]; rfl
theorem vb_app {T : Nat} {w w1 w2 w3 : World} {v v3 : Value} {l : List HK} {x : HK} {n : Nat} (X : VBuf T 3 w w1 v l.length (cellsG HK.cs l)) (t : Touch (fun _ => False) w1 w2) (own : w3.ownsRow w.heap.size T 3 v3 n (cellsG HK.cs l ++ x.cs)) (hn : n = l.length + 1) (gr : w2.grownBy w3 v.ownBlock) : VBuf T 3 w w3 v3 (l ++ [x]).length (cellsG HK.cs (l ++ [x])) := by
  subst hn
  refine ⟨?_, ?_⟩
  · rw [List.length_append, cellsG_append]
    simpa [cellsG] using own
  · exact (X.t.trans t).grown gr (fun k hk => Or.inr (X.own.lt k hk).1)

/-- An append to a row of the call's own, as a step of a region that draws. -/
theorem step_append_own {P : Program} {ops : Array Oper} {o : Oper} {a : Act} {w : World} {K : Act → World → Prop} {Q : Exit → Act → World → Prop} {E : Prop}
    (hg : o.guard = none) (s x : Operand) (t : TypeId) (hop : o.op = Op.call { callee := Callee.builtin Builtin.append, args := #[s, x], argTypes := #[t, t] })
    (base : Nat) (e : TypeId) (i : TypeInfo) (z : Value) (size bytes : Nat) (h1 : P.underlying t = some (.slice e)) (h2 : P.info? e = some i) (h3 : i.zero = some z) (h4 : i.size = size) (h5 : i.bytes = bytes) (h6 : z.cells.size = size) (h7 : 0 < size)
    (v : Value) (n : Nat) (xs : List Value) (hs : a.eval s = v) (hown : w.ownsRow base e size v n xs)
    (ad : Addr) (m c : Nat) (news : List Value) (hx : a.eval x = .slice (some ad) m c) (hn : news.length = m * size) (hc : ∀ j u, news[j]? = some u → w.cell? (ad.add j) = some u) (h1c : ∀ u ∈ news, u.oneCell' = true)
    (b1 : n + m ≤ maxLen) (b2 : (n + m) * bytes ≤ 140737488355328) (hb : base ≤ w.heap.size)
    (hK : ∀ v' w', w'.ownsRow base e size v' (n + m) (xs ++ news) → w.grownBy w' v.ownBlock → K (a.put o.dst v') w') :
    if Region.wanted o (yielded ops a.tmps) = true then Oper.wp P o a w K Q else E := by
  have hw : Region.wanted o (yielded ops a.tmps) = true := by simp [Region.wanted, hg]
  rw [if_pos hw]
  obtain ⟨v', w', hrun, r1, r2, _⟩ := run_append_own (P := P) w base t o.type e i z size bytes h1 h2 h3 h4 h5 h6 h7 v n xs hown ad m c news hn hc h1c b1 b2 hb
  unfold Oper.wp
  simp [execOp, hop, resolve, invoke, builtin, hs, hx, hrun, Result.andThen]
  exact hK v' w' r1 r2

set_option maxHeartbeats 4000000 in
theorem hops_any (w : World) (v : Value) (l : List HK) (A : RA w v l) (hl : l.length ≤ 1000000) :
    Calls Try.prog 11 #[v] w fun e w' => ∃ v', e = .returned v' ∧ HB w w' v' l := by
  obtain ⟨a, c, rfl, hsh⟩ := A.out
  have HSH : Hid _ := hsh
  have R0 : HB w w (.slice none 0 0) (l.take 0) := VBuf.nil _ _ (Touch.refl _ _)
  have HR0 : Hid _ := R0
  have hl1 : (l.length : Int) ≤ 1000000 := by omega
  obtain ⟨i0, hin0, hz0, hz1, hz2⟩ := infoParts infoHop
  generalize hN : l.length = N at *
  have HN : Hid _ := hN
  clear hsh R0 hN hl A
  go_enter Try.func11, Try.ntmps11
  go_wp2_with fail
  go_loopw [3, 4] (fun s3 s4 wx => ∃ i : Nat, s4 = .int .i64 i ∧ i ≤ N ∧ HB w wx s3 (l.take i)) (fun _ s4 _ => N - (intOf s4).toNat)
  case atStart => exact ⟨0, rfl, Nat.zero_le _, HR0.out⟩
  case round =>
    clear HR0
    obtain ⟨i, rfl, hi, X⟩ := hrel
    have HX : Hid _ := X
    obtain ⟨ua, uc, rfl⟩ := X.form
    by_cases hiN : i < N
    · obtain ⟨x, hx⟩ : ∃ x, l[i]? = some x := ⟨_, List.getElem?_eq_getElem (by have := HN.out; omega)⟩
      rcases HSH.out with e | ⟨g, o, rfl, hc⟩
      · rw [e] at hx; cases hx
      have q := fun d u hd => X.t.cellN (hc i x hx d u hd)
      have q0 : wr.cell? ⟨g, o + i * 3, none⟩ = some (.int .u32 x.out) := q 0 _ rfl
      have q1 : wr.cell? ⟨g, o + i * 3 + 1, none⟩ = some (.int .u32 x.via) := q 1 _ rfl
      have q2 : wr.cell? ⟨g, o + i * 3 + 2, none⟩ = some (.bool x.vr) := q 2 _ rfl
      have hi0 : (0 : Int) ≤ (i : Int) := by omega
      have hi1 : (i : Int) < (N : Int) := by omega
      have HT : Hid (l.take (i + 1) = l.take i ++ [x]) := tk_one hx
      have HLN : Hid ((l.take i).length ≤ 1000000) := by show _ ≤ _; simp; omega
      have hbld : ∀ w, (Instr.build 45 #[(0, .int .u32 x.out), (1, .int .u32 x.via), (2, .bool x.vr)]).run Try.prog w = .ok (.agg #[.int .u32 x.out, .int .u32 x.via, .bool x.vr]) w := fun w => run_build w 45 _ _ (by kernel_rfl)
      clear q hc hx X
      generalize hlc : l.take i = lc at *
      generalize hLL : lc.length = LL at *
      have HLL : Hid _ := hLL
      clear hLL hlc
      have HST : Hid (∀ w2 w3 v3, Touch (fun _ => False) wr w2 → w3.ownsRow w.heap.size 45 3 v3 (LL + 1) (cellsG HK.cs lc ++ x.cs) → w2.grownBy w3 (Value.ownBlock (.slice ua LL uc)) → HB w w3 v3 (l.take (i + 1))) := by
        intro w2 w3 v3 t own gr
        show HB _ _ _ _
        rw [HT.out]
        have h := HX.out
        rw [← HLL.out] at own gr h
        exact vb_app h t own rfl gr
      have HOW : Hid (∀ w2, Touch (fun _ => False) wr w2 → w2.ownsRow w.heap.size 45 3 (.slice ua LL uc) LL (cellsG HK.cs lc)) := by
        intro w2 t
        have h := HX.out.own
        exact own_touch h t (fun _ _ h => h)
      have HWS : Hid (w.heap.size ≤ wr.heap.size) := HX.out.t.size
      clear HX HT
      go_wp2_with fail
      go_region_law (refine step_append_own rfl (.tmp 11) (.tmp 28) 38 rfl w.heap.size 45 i0 _ 3 12 Try.underlying38 hin0 hz0 hz1 hz2 rfl (by omega) (.slice ua LL uc) LL (cellsG HK.cs lc) (by simp [Act.eval]) (HOW.out _ (by first | exact (Touch.refl _ _).alloc _ | exact ((Touch.refl _ _).drew).alloc _ | exact ((Touch.refl _ _).drewN _).alloc _)) ⟨wr.heap.size, 0, none⟩ 1 1 x.cs (by simp [Act.eval]) rfl (by intro jj u hj; rcases (by have := (List.getElem?_eq_some_iff.1 hj).1; simp [HK.cs] at this; omega : jj = 0 ∨ jj = 1 ∨ jj = 2) with rfl | rfl | rfl <;> (simp [HK.cs] at hj; subst hj; simp [Addr.add, go_sem])) (fun u hu => by simp [HK.cs] at hu; rcases hu with rfl | rfl | rfl <;> rfl) (by have := HLN.out; unfold maxLen; omega) (by have := HLN.out; omega) (Nat.le_trans HWS.out (Touch.size (F := fun _ => False) (by first | exact (Touch.refl _ _).alloc _ | exact ((Touch.refl _ _).drew).alloc _ | exact ((Touch.refl _ _).drewN _).alloc _))) ?_; intro v3 w3 own3 gr3; have XN : Hid (HB w w3 v3 (l.take (i + 1))) := HST.out _ _ _ (by first | exact (Touch.refl _ _).alloc _ | exact ((Touch.refl _ _).drew).alloc _ | exact ((Touch.refl _ _).drewN _).alloc _) own3 gr3; clear own3 gr3)
      all_goals (go_wp2_with fail; go_roundw)
      all_goals first | exact ⟨i + 1, by go_num, by omega, XN.out⟩ | (simp [intOf]; omega)
    · have hii : i = N := by omega
      subst hii
      have HZ : Hid (HB w wr (.slice ua (l.take i).length uc) l) := by
        have e : l.take i = l := List.take_of_length_le (by have := HN.out; omega)
        have h := HX.out
        rw [e] at h ⊢
        exact h
      clear X HX
      generalize (l.take i).length = LL at *
      go_wp2_with fail
      go_ret
      exact ⟨_, rfl, HZ.out⟩

set_option maxHeartbeats 2000000 in
theorem eq_any (w : World) (v u : Value) (j l : List HK) (A : RA w v j) (C : RA w u l) (hj : j.length ≤ 1000000) (hl : l.length ≤ 1000000) (b : Bool) (hb : decide (j = l) = b) :
    Calls Try.prog 13 #[v, u] w fun e w' => e = .returned (.bool b) ∧ Touch (fun _ => False) w w' := by
  have HH : Calls Try.prog 11 #[u] w fun e w' => ∃ pa pc, e = .returned (.slice pa l.length pc) ∧ HB w w' (.slice pa l.length pc) l := (hops_any w u l C hl).mono (fun e w' ⟨v', h1, h2⟩ => by
    obtain ⟨pa, pc, rfl⟩ := h2.form
    exact ⟨pa, pc, h1, h2⟩)
  obtain ⟨a, c, rfl, hsh⟩ := A.out
  obtain ⟨ua, uc, rfl, -⟩ := C.out
  have HSH : Hid _ := hsh
  have HBB : Hid _ := hb
  have hj1 : (j.length : Int) ≤ 1000000 := by omega
  have hl1 : (l.length : Int) ≤ 1000000 := by omega
  generalize hN : j.length = N at *
  have HN : Hid _ := hN
  clear hsh hN hj A C hb
  by_cases hNM : N = l.length
  · have HM : Hid (l.length = N) := hNM.symm
    rw [← hNM] at HH hl1
    rw [← hNM]
    clear hNM hl
    go_enter Try.func13, Try.ntmps13
    go_wp2_with (first | (refine HH.mono ?_; rintro e w1 ⟨pa, pc, rfl, hb⟩))
    have HT : Hid (Touch (fun _ => False) w w1) := hb.t
    have HPS : Hid (RwAt HK.cs 3 w1 pa l) := by
      have h2 : ValsAt w1 3 (.slice pa l.length pc) l.length (cellsG HK.cs l) := by have := hb.vals; rw [HM.out] at this ⊢; exact this
      obtain ⟨a', c', e, h3⟩ := (HV3.ra h2).out
      injection e with e1 e2 e3
      subst e1
      exact h3
    clear hb HH
    go_loopw [6] (fun s6 wx => ∃ i : Nat, s6 = .int .i64 i ∧ i ≤ N ∧ Touch (fun _ => False) w1 wx ∧ Hid (∀ k, k < i → j[k]? = l[k]?)) (fun s6 _ => N - (intOf s6).toNat)
    case atStart => exact ⟨0, rfl, Nat.zero_le _, Touch.refl _ _, fun k h => by omega⟩
    case round =>
      obtain ⟨i, rfl, hi, T, HB⟩ := hrel
      have HTT : Hid _ := T
      by_cases hiN : i < N
      · obtain ⟨x, hx⟩ : ∃ x, j[i]? = some x := ⟨_, List.getElem?_eq_getElem (by have := HN.out; omega)⟩
        obtain ⟨y, hy⟩ : ∃ y, l[i]? = some y := ⟨_, List.getElem?_eq_getElem (by have := HM.out; omega)⟩
        rcases HSH.out with e | ⟨g, o, rfl, hc⟩
        · rw [e] at hx; cases hx
        rcases HPS.out with e | ⟨g2, o2, rfl, hc2⟩
        · rw [e] at hy; cases hy
        have q := fun d u hd => T.cellN (HT.out.cellN (hc i x hx d u hd))
        have r := fun d u hd => T.cellN (hc2 i y hy d u hd)
        have q0 : wr.cell? ⟨g, o + i * 3, none⟩ = some (.int .u32 x.out) := q 0 _ rfl
        have q1 : wr.cell? ⟨g, o + i * 3 + 1, none⟩ = some (.int .u32 x.via) := q 1 _ rfl
        have q2 : wr.cell? ⟨g, o + i * 3 + 2, none⟩ = some (.bool x.vr) := q 2 _ rfl
        have r0 : wr.cell? ⟨g2, o2 + i * 3, none⟩ = some (.int .u32 y.out) := r 0 _ rfl
        have r1 : wr.cell? ⟨g2, o2 + i * 3 + 1, none⟩ = some (.int .u32 y.via) := r 1 _ rfl
        have r2 : wr.cell? ⟨g2, o2 + i * 3 + 2, none⟩ = some (.bool y.vr) := r 2 _ rfl
        have hi0 : (0 : Int) ≤ (i : Int) := by omega
        have hi1 : (i : Int) < (N : Int) := by omega
        have HXY : Hid (j[i]? = some x ∧ l[i]? = some y) := ⟨hx, hy⟩
        clear q r hc hc2 hx hy T
        have HE := eqHop x y
        by_cases hq : x = y
        · subst hq
          have HEE : ∀ w, (Op.equalIn 10000 45 (.agg #[.int .u32 x.out, .int .u32 x.via, .bool x.vr]) (.agg #[.int .u32 x.out, .int .u32 x.via, .bool x.vr])).run Try.prog w = .ok true w := fun w => by rw [eqHop]; simp
          have HB2 : Hid (∀ k, k < i + 1 → j[k]? = l[k]?) := by
            intro k hk
            rcases Nat.lt_or_ge k i with h1 | h1
            · exact HB.out k h1
            · have : k = i := by omega
              subst this
              rw [HXY.out.1, HXY.out.2]
          clear HE
          go_wp2_with fail
          go_quiet (fail)
          go_wp2_with fail
          go_roundw
          case rel => exact ⟨i + 1, by go_num, by omega, by first | exact HTT.out | exact HTT.out.drewN _ | exact HTT.out.drew, HB2⟩
          case measure => simp [intOf]; omega
        · have HEE : ∀ w, (Op.equalIn 10000 45 (.agg #[.int .u32 x.out, .int .u32 x.via, .bool x.vr]) (.agg #[.int .u32 y.out, .int .u32 y.via, .bool y.vr])).run Try.prog w = .ok false w := fun w => by rw [eqHop]; simp [hq]
          have hbf : b = false := by
            rw [← HBB.out]
            refine decide_eq_false (fun e => hq ?_)
            have h1 := HXY.out.1
            rw [e, HXY.out.2] at h1
            injection h1 with h1
            exact h1.symm
          clear HE hq
          subst hbf
          go_wp2_with fail
          go_quiet (fail)
          go_wp2_with fail
          go_ret
          exact ⟨rfl, by first | exact HT.out.trans HTT.out | exact (HT.out.trans HTT.out).drewN _ | exact (HT.out.trans HTT.out).drew⟩
      · have hii : i = N := by omega
        subst hii
        have hbt : b = true := by
          rw [← HBB.out]
          refine decide_eq_true (List.ext_getElem? (fun k => ?_))
          rcases Nat.lt_or_ge k i with h1 | h1
          · exact HB.out k h1
          · rw [List.getElem?_eq_none (by have := HN.out; omega), List.getElem?_eq_none (by have := HM.out; omega)]
        subst hbt
        clear T
        go_wp2_with fail
        go_ret
        exact ⟨rfl, HT.out.trans HTT.out⟩
  · have hbf : b = false := by
      rw [← HBB.out]
      refine decide_eq_false (fun e => hNM ?_)
      rw [← HN.out, e]
    subst hbf
    generalize hM : l.length = M at *
    have hne : ((N : Int) == (M : Int)) = false := by simp; omega
    clear hM hl
    go_enter Try.func13, Try.ntmps13
    go_wp2_with (first | (refine HH.mono ?_; rintro e w1 ⟨pa, pc, rfl, hb⟩))
    go_ret
    exact ⟨rfl, hb.t⟩
end Go.Proofs.Ytdfacfpjhnohcaa
