
/- AdjacentChunks: the walk. -/
import Derived.Test.YtojlnabhaglejaaAdDesc4
import Derived.Test.YtojlnabhaglejaaAdUnl2
import Derived.Test.YtojlnabhaglejaaAdWorks
namespace Go.Proofs.Ytojlnabhaglejaa
open Go.RowKit
set_option linter.unusedVariables false
set_option maxRecDepth 100000

section
variable {ops : Array Oper} {rest : List Oper} {o : Oper} {a : Act} {Q : Exit → Act → World → Prop} {w : World}
theorem vapp_own (hgd : o.guard = none) (s x : Operand) (t : TypeId) (ho : o.op = .call { callee := .builtin .append, args := #[s, x], argTypes := #[t, t] })
    (e k bytes : Nat) (z : Value) (ht : Try.prog.underlying t = some (.slice e)) (hi : (Try.prog.info? e).map (fun i => (i.zero, i.size, i.bytes)) = some (some z, k, bytes)) (hzs : z.cells.size = k) (hk : 0 < k) (hby : bytes ≤ 64)
    (base : Nat) (v : Value) (n : Nat) (xs : List Value) (hs : a.eval s = v) (hb : w.ownsRow base e k v n xs) (hbs : base ≤ w.heap.size) (vx : Value) (m : Nat) (news : List Value) (hx : a.eval x = vx) (hr : ValsAt w k vx m news) (h1 : ∀ u ∈ news, u.oneCell' = true) (hl : n + m ≤ 1099511627776)
    (h : ∀ v' w', w'.ownsRow base e k v' (n + m) (xs ++ news) → Touch (fun j => v.ownBlock = some j) w w' → wpList Try.prog ops Q rest (a.put o.dst v') w') : wpList Try.prog ops Q (o :: rest) a w := by
  obtain ⟨i0, hi, hz0, hz1, hz2⟩ := infoParts hi
  obtain ⟨hnl, hr⟩ := hr
  rcases hr with ⟨rfl, rfl⟩ | ⟨ad, c, rfl, h2, h3, h4⟩
  · have hn0 : news = [] := List.length_eq_zero_iff.1 (by omega)
    subst hn0
    refine wpList_append_own_none hgd s x t ho base e i0 k ht hi v n xs hs hb hx ?_
    exact h v w (by rw [List.append_nil]; exact hb) (Touch.refl _ _)
  · have hmul : (n + m) * bytes ≤ 1099511627776 * 64 := Nat.mul_le_mul hl hby
    refine wpList_append_own_at w hgd s x t ho base e i0 z k bytes ht hi hz0 hz1 hz2 hzs hk v n xs hs hb ad m c news hx hnl h4 h1 (by unfold maxLen; omega) (by omega) hbs ?_
    intro v' w' hown hg _ _
    exact h v' w' hown (Touch.grown (Touch.refl _ _) hg (fun k hk => Or.inl hk))
end
theorem own_form14 {base e k n : Nat} {w : World} {v : Value} {xs : List Value} (h : w.ownsRow base e k v n xs) : ∃ a c, v = .slice a n c := by
  rcases h.2 with ⟨rfl, e⟩ | ⟨g, cap, cur, rfl, _⟩
  · exact ⟨none, 0, by rw [e]⟩
  · exact ⟨_, cap, rfl⟩
theorem own_vals14 {w : World} {base e k n : Nat} {v : Value} {xs : List Value} (h : w.ownsRow base e k v n xs) : ValsAt w k v n xs := by
  refine ⟨h.1, ?_⟩
  rcases h.2 with h2 | ⟨g, cap, cur, hv, hb, hh, h1, h2, h3, h4⟩
  · exact Or.inl h2
  · refine Or.inr ⟨_, cap, hv, h1, h2, fun j u hj => ?_⟩
    have hjl := (List.getElem?_eq_some_iff.mp hj).1
    have hl := h.1
    rw [add_plain, Nat.zero_add]
    rw [← h4, List.getElem?_take, if_pos (by omega)] at hj
    simp [World.cell?, hh]
    simpa using hj
/-- Behind j rounds. -/
structure ChR (ma : Bool) (own : List HV) (w2 : World) (b gp : Nat) (j : Nat) (got : Value) (wr : World) : Prop where
  ex : ∃ (L : Nat) (x : AJ), w2.heap.size ≤ L ∧ L ≤ wr.heap.size ∧ Ads wr b x ∧ St ma (fun k => w2.heap.size ≤ k ∧ (j ≠ 0 → k < L)) own wr b j x ∧ wr.ownsRow L 50 8 got (own.take (16 * j)).length (headsC (own.take (16 * j)))
  p : Row wr gp 54 [.int .u16 0, .int .u8 2, .int .u8 (pfl ma j), .int .u32 (9 + (j : Int)), .slice none 0 0]
  t : Touch (fun k => k = b ∨ k = gp) w2 wr
  jj : j = 0 ∨ 16 * j ≤ own.length + 16
  z : j = 0 → got = .slice none 0 0
theorem St.up {ma : Bool} {G : Nat → Prop} {own : List HV} {w : World} {b j : Nat} {x : AJ} (h : St ma G own w b j x) {G' : Nat → Prop} {w' : World} (ha : j ≠ 0 → HdsB G' w' x.left (own.drop (16 * j))) : St ma G' own w' b j x := ⟨h.self, h.other, h.mtu, h.keys, h.num, h.st, h.ms, h.tk, ha, h.sf⟩
theorem heads_lt {w : World} {v : Value} {l : List HV} (h : HeadsAt w v l) (h0 : 0 < l.length) (a : Addr) (n c : Nat) (e : v = .slice (some a) n c) : a.block < w.heap.size := by
  obtain ⟨g, off, c', e', -, -, hc⟩ := ValsAt.cells h h0 (by omega)
  rw [e] at e'
  cases e'
  have hx : l[0]? = some (l[0]'h0) := by simp [h0]
  have := hc 0 _ (headsC_at l 0 0 (l[0]'h0) hx (by omega))
  exact lt_of_cell this
theorem ch_up (ma : Bool) (own : List HV) (b0 : Nat) (wy : World) (b j L n : Nat) (hn : (own.take (16 * j)).length = n) (got : Value) (hL : b0 ≤ L) (hLs : L ≤ wy.heap.size) (hg : wy.ownsRow L 50 8 got n (headsC (own.take (16 * j)))) (hz : j = 0 → got = .slice none 0 0) :
    ∃ L', b0 ≤ L' ∧ L' ≤ wy.heap.size ∧ wy.ownsRow L' 50 8 got n (headsC (own.take (16 * j))) ∧ ∀ x', St ma (fun k => b0 ≤ k ∧ (j ≠ 0 → k < L)) own wy b (j + 1) x' → St ma (fun k => b0 ≤ k ∧ (j + 1 ≠ 0 → k < L')) own wy b (j + 1) x' := by
  by_cases hj : j = 0
  · have e := hz hj
    subst e
    subst hj
    have hn0 : n = 0 := by rw [← hn]; simp
    subst hn0
    refine ⟨wy.heap.size, by omega, Nat.le_refl _, World.ownsRow_nil _ _ _ _, fun x' st => st.up (fun h => ?_)⟩
    have hl := st.left h
    exact ⟨hl.at_, fun a n c e hp => ⟨(hl.off a n c e hp).1, fun _ => heads_lt hl.at_ hp a n c e⟩⟩
  · refine ⟨L, hL, hLs, hg, fun x' st => st.up (fun h => ?_)⟩
    have hl := st.left h
    exact ⟨hl.at_, fun a n c e hp => ⟨(hl.off a n c e hp).1, fun _ => (hl.off a n c e hp).2 hj⟩⟩
theorem take_step (own : List HV) (j : Nat) : own.take (16 * j) ++ (own.drop (16 * j)).take 16 = own.take (16 * (j + 1)) := by rw [Nat.mul_add, Nat.mul_one, List.take_add]
theorem headsC_app (a b : List HV) : headsC (a ++ b) = headsC a ++ headsC b := by simp only [headsC, List.flatMap_append]
theorem wrap_seq {j : Nat} (h : j ≤ 100) : IntKind.u32.wrap (9 + (j : Int) + 1) = 9 + ((j + 1 : Nat) : Int) := by rw [wrap_small (by omega) (by omega)]; omega
set_option maxHeartbeats 16000000 in
theorem chunks_true (v : Value) (l : List HV) (w : World) (hv : HeadsAt w v l) (ok : ∀ x ∈ l, x.Wd) (hl : l.length ≤ 200) : Calls Try.prog 4 #[v, .bool true] w fun e w' => e = .returned (.bool true) ∧ Touch (fun _ => False) w w' := by
  have HU := unlike_any w v l hv hl ok
  obtain ⟨la, lc, rfl, -⟩ := ValsAt.form hv
  have hl2 : ¬ (200 : Int) < (l.length : Int) := by omega
  clear hv ok
  go_enter Try.func4, Try.ntmps4
  go_wp2_with fail
  refine Calls.mono HU ?_
  rintro e w1 ⟨ou, rfl, own, vbo, h60, hfn⟩
  obtain ⟨oa, oc, rfl⟩ := vbo.form
  have HVO : Hid (VBuf 50 8 w w1 (.slice oa own.length oc) own.length (headsC own)) := vbo
  have HFN : Hid (∀ x ∈ own, x.Fine) := hfn
  have R0 : Row (w1.alloc (.cells #[.int .u16 0, .int .u8 2, .int .u8 0, .int .u32 9, .slice none 0 0] 54)) w1.heap.size 54 [.int .u16 0, .int .u8 2, .int .u8 0, .int .u32 9, .slice none 0 0] := row_new _ _ _
  have T0 : Touch (fun _ => False) w1 (w1.alloc (.cells #[.int .u16 0, .int .u8 2, .int .u8 0, .int .u32 9, .slice none 0 0] 54)) := (Touch.refl _ _).alloc _
  have HNW := new_any (w1.alloc (.cells #[.int .u16 0, .int .u8 2, .int .u8 0, .int .u32 9, .slice none 0 0] 54)) 2 1 0 2 2 9 65535 (by decide) (by decide) (by decide) (by decide)
  have HR0 : Hid (Row (w1.alloc (.cells #[.int .u16 0, .int .u8 2, .int .u8 0, .int .u32 9, .slice none 0 0] 54)) w1.heap.size 54 [.int .u16 0, .int .u8 2, .int .u8 0, .int .u32 9, .slice none 0 0] ∧ Touch (fun _ => False) w1 (w1.alloc (.cells #[.int .u16 0, .int .u8 2, .int .u8 0, .int .u32 9, .slice none 0 0] 54))) := ⟨R0, T0⟩
  clear HU vbo hfn R0 T0
  go_wp2_with fail
  refine Calls.mono HNW ?_
  rintro e w2 ⟨b, v0, mm, rfl, -, ha, -, hb, -, t2⟩
  obtain ⟨gp, hgp⟩ : ∃ g, w1.heap.size = g := ⟨_, rfl⟩
  have HBG : Hid ((w.heap.size ≤ gp ∧ gp < b) ∧ b < w2.heap.size ∧ gp < w2.heap.size) := by
    have h1 := HVO.out.t.size
    have h2 := HR0.out.1.lt
    have h3 := t2.size
    have h4 := ha.lt
    refine ⟨⟨by omega, by omega⟩, h4, by omega⟩
  have HNE : Hid (¬ b = gp) := by have := HBG.out; show ¬ _; omega
  have HOW : Hid (∀ w', Touch (fun k => k = b ∨ k = gp) w2 w' → HeadsAt w' (.slice oa own.length oc) own) := fun w' t => by
    have h0 := ValsAt.keep (ValsAt.keep HVO.out.vals HR0.out.2) t2
    refine ValsAt.touch h0 t (fun a n c he hab => ?_)
    rcases HVO.out.own.2 with ⟨e, _⟩ | ⟨g, cap, cur, e, hg, hh, _⟩
    · rw [e] at he; cases he
    · rw [e] at he
      simp only [Value.slice.injEq, Option.some.injEq] at he
      have h1 := lt_of_heap hh
      have h2 := HBG.out
      rw [← he.1] at hab
      have hab' : g = b ∨ g = gp := hab
      omega
  have HW : Hid (Touch (fun _ => False) w w2) := (HVO.out.t.trans HR0.out.2).trans t2
  have REL0 : Hid (ChR true own w2 b gp 0 (.slice none 0 0) w2) := ⟨⟨w2.heap.size, _, Nat.le_refl _, Nat.le_refl _, ha, ⟨rfl, rfl, rfl, rfl, rfl, rfl, fun h => absurd rfl h, fun h => absurd rfl h, fun h => absurd rfl h, rfl⟩, World.ownsRow_nil _ _ _ _⟩, by rw [← hgp]; exact HR0.out.1.keep t2, Touch.refl _ _, Or.inl rfl, fun _ => rfl⟩
  rw [hgp]
  clear HNW HVO HR0 ha hb t2 hgp
  go_wp2_with fail
  go_loopw [12, 13] (fun got i wr => ∃ j : Nat, j ≤ 39 ∧ i = .int .i64 (j : Int) ∧ Hid (ChR true own w2 b gp j got wr)) (fun _ i _ => 40 - (intOf i).toNat)
  case atStart => exact ⟨0, by omega, rfl, REL0⟩
  case round =>
    clear REL0
    obtain ⟨j, hj39, rfl, hch⟩ := hrel
    obtain ⟨L, x, hL0, hL9, hax, hst0, hgg⟩ := hch.out.ex
    have hz0 := hch.out.z
    obtain ⟨n2, hn2⟩ : ∃ n, (own.take (16 * j)).length = n := ⟨_, rfl⟩
    rw [hn2] at hgg
    have HN2 : Hid ((own.take (16 * j)).length = n2) := hn2
    obtain ⟨ga, gc, hgf⟩ := own_form14 hgg
    subst hgf
    have HZ : Hid (j = 0 → Value.slice ga n2 gc = .slice none 0 0) := hz0
    have HLL : Hid (w2.heap.size ≤ L ∧ L ≤ wr.heap.size) := ⟨hL0, hL9⟩
    have hjj := hch.out.jj
    have HAD : Hid (Ads wr b x) := hax
    have HST : Hid (St true (fun k => w2.heap.size ≤ k ∧ (j ≠ 0 → k < L)) own wr b j x) := hst0
    have HJJ : Hid (j = 0 ∨ 16 * j ≤ own.length + 16) := hjj
    have HG : Hid (wr.ownsRow L 50 8 (.slice ga n2 gc) n2 (headsC (own.take (16 * j)))) := hgg
    have HT : Hid (Touch (fun k => k = b ∨ k = gp) w2 wr) := hch.out.t
    have HPD : Hid (Row wr.drew gp 54 [.int .u16 0, .int .u8 2, .int .u8 (pfl true j), .int .u32 (9 + (j : Int)), .slice none 0 0]) := hch.out.p.keep ((Touch.refl _ _).drew)
    have HCP : Hid (Calls Try.prog 17 #[.slice oa own.length oc] wr.drew fun e w' => ∃ u, e = .returned u ∧ VBuf 50 8 wr.drew w' u own.length (headsC own)) := cheadsP _ own wr.drew (ValsAt.keep (HOW.out wr hch.out.t) ((Touch.refl _ _).drew)) (by omega)
    have hj4 : j ≤ 4 := by omega
    clear hch hax hst0 hgg hL0 hL9 hz0 hn2
    go_upto_region 16 with fail
    refine wp_region_held_drew (S := fun w' => Row w' gp 54 [.int .u16 0, .int .u8 2, .int .u8 (pfl true j), .int .u32 (9 + (j : Int)), .slice none 0 0]) (by kernel_rfl) HPD.out (fun hHeld => ?_)
    refine wpAnyH_take (i := 0) (oi := ⟨some 41, _, _, _, _, _⟩) (v := .pointer (some ⟨b, 0, none⟩)) rfl (by kernel_rfl) (by kernel_rfl) (by kernel_rfl) (fun _ _ _ h => h) (Or.inl ⟨by rfl, fun w hw => by go_simp⟩) (by assumption) ?_
    simp only [Act.put, List.setIfInBounds_toArray, List.set_cons_zero, List.set_cons_succ]
    refine wpAnyH_take (i := 1) (oi := ⟨some 42, _, _, _, _, _⟩) (v := .agg #[.int .u16 0, .int .u8 2, .int .u8 (pfl true j), .int .u32 (9 + (j : Int)), .slice none 0 0]) rfl (by kernel_rfl) (by kernel_rfl) (by kernel_rfl) (fun _ _ _ h => h) (yieldsIf_load_mid (by rfl) _ _ rfl _ _ rfl [.int .u16 0, .int .u8 2, .int .u8 (pfl true j), .int .u32 (9 + (j : Int)), .slice none 0 0] _ (fun w h => row_range h) Try.underlying54 rfl (by kernel_rfl)) (by assumption) ?_
    simp only [Act.put, List.setIfInBounds_toArray, List.set_cons_zero, List.set_cons_succ]
    refine wpAnyH_take (i := 2) (oi := ⟨some 43, _, _, _, _, _⟩) (v := .slice oa own.length oc) rfl (by kernel_rfl) (by kernel_rfl) (by kernel_rfl) (fun _ _ _ h => h) (Or.inl ⟨by rfl, fun w hw => by go_simp⟩) (by assumption) ?_
    simp only [Act.put, List.setIfInBounds_toArray, List.set_cons_zero, List.set_cons_succ]
    refine wpAnyH_ready (rs := [3]) (by kernel_rfl) (by simp) ?_
    refine AllReadyH.cons (o := ⟨some 44, _, _, _, _, _⟩) rfl (fun K hK => ?_) AllReadyH.nil
    go_simp
    refine Calls.mono HCP.out ?_
    rintro e wx ⟨cu, rfl, vb⟩
    refine hK.out _ _ (HPD.out.keep vb.t) (fun hHeld => ?_)
    clear hK K
    have TX : Touch (fun _ => False) wr wx := ((Touch.refl _ _).drew).trans vb.t
    have hcu : HdsB (fun k => k ≠ b) wx cu own := ⟨vb.vals, fun a n c he _ hab => by
      rcases vb.own.2 with ⟨e, _⟩ | ⟨g, cap, cur, e, hg, _⟩
      · rw [e] at he; cases he
      · rw [e] at he
        simp only [Value.slice.injEq, Option.some.injEq] at he
        have h1 := HAD.out.lt
        rw [← he.1] at hab
        have hab' : g = b := hab
        have h2 : wr.heap.size ≤ wr.drew.heap.size := Nat.le_refl _
        omega⟩
    have HDE := describe_any true (fun k => w2.heap.size ≤ k ∧ (j ≠ 0 → k < L)) own wx b j x cu (HAD.out.keep TX) (HST.out.up (fun hj0 => (HST.out.left hj0).keep TX)) (fun h => by have h1 := HBG.out.2.1; have h2 := h.1; omega) (fun hj0 k hk => ⟨by have h1 := HT.out.size; have h2 := TX.size; omega, fun h => absurd hj0 h⟩) (by omega) HJJ.out hcu (by omega) HFN.out
    have HTX : Hid (Touch (fun _ => False) wr wx) := TX
    have HPX : Hid (Row wx gp 54 [.int .u16 0, .int .u8 2, .int .u8 (pfl true j), .int .u32 (9 + (j : Int)), .slice none 0 0]) := HPD.out.keep vb.t
    obtain ⟨ca, cc, rfl⟩ := vb.form
    clear vb hcu TX
    refine wpAnyH_ready (rs := [4]) (by kernel_rfl) (by simp) ?_
    refine AllReadyH.cons (o := ⟨some 45, _, _, _, _, _⟩) rfl (fun K hK => ?_) AllReadyH.nil
    go_simp
    refine Calls.mono HDE ?_
    rintro e wy ⟨vo, rfl, rd⟩
    have HPY : Hid (Row wy gp 54 [.int .u16 0, .int .u8 2, .int .u8 (pfl true j), .int .u32 (9 + (j : Int)), .slice none 0 0]) := (rd.1.block gp HPX.out.lt (fun e => HNE.out e.symm)).trans HPX.out
    refine hK.out _ _ HPY.out (fun hHeld => ?_)
    clear hK K HDE
    obtain ⟨ty, x', hx', hs', hways⟩ := rd
    have HTY : Hid (Touch (fun k => k = b) wx wy) := ty
    have HX' : Hid (Ads wy b x' ∧ ¬ x'.self = 0) := ⟨hx', hs'⟩
    have hgy0 : wy.ownsRow L 50 8 (.slice ga n2 gc) n2 (headsC (own.take (16 * j))) := own_touch (own_touch HG.out HTX.out (fun _ _ f => f)) ty (fun k hk e => by have h1 := (HG.out.lt k hk).1; have h2 := HBG.out.2.1; have h3 := HLL.out.1; omega)
    obtain ⟨L', hL1, hL2, hgy, hup⟩ := ch_up true own w2.heap.size wy b j L n2 HN2.out _ HLL.out.1 (by have h1 := HLL.out.2; have h2 := HTX.out.size; have h3 := ty.size; omega) hgy0 HZ.out
    have HGY : Hid (wy.ownsRow L' 50 8 (.slice ga n2 gc) n2 (headsC (own.take (16 * j)))) := hgy
    have HLL' : Hid (w2.heap.size ≤ L' ∧ L' ≤ wy.heap.size) := ⟨hL1, hL2⟩
    have HUP : Hid (∀ x', St true (fun k => w2.heap.size ≤ k ∧ (j ≠ 0 → k < L)) own wy b (j + 1) x' → St true (fun k => w2.heap.size ≤ k ∧ (j + 1 ≠ 0 → k < L')) own wy b (j + 1) x') := hup
    clear hgy0 hL1 hL2 hgy hup
    have HTW : Hid (Touch (fun k => k = b ∨ k = gp) w2 wy) := (HT.out.trans (HTX.out.mono (fun _ _ f => f.elim))).trans (ty.mono (fun _ _ e => Or.inl e))
    clear ty hx' hs' HPX HPD HG HCP HLL HZ HST HAD
    rcases hways with ⟨rfl, hst, hle⟩ | ⟨m', o', f', s', od, hst⟩
    · refine wpAnyH_take (i := 5) (oi := ⟨some 40, _, _, _, _, _⟩) (v := .tuple #[.slice none 0 0, .int .i64 0]) rfl (by kernel_rfl) (by kernel_rfl) (by kernel_rfl) (fun _ _ _ h => h) (Or.inl ⟨by rfl, fun w hw => by go_simp⟩) (by assumption) ?_
      simp only [Act.put, List.setIfInBounds_toArray, List.set_cons_zero, List.set_cons_succ]
      refine wpAnyH_take (i := 6) (oi := ⟨some 46, _, _, _, _, _⟩) (v := .slice none 0 0) rfl (by kernel_rfl) (by kernel_rfl) (by kernel_rfl) (fun _ _ _ h => h) (Or.inl ⟨by rfl, fun w hw => by go_simp⟩) (by assumption) ?_
      simp only [Act.put, List.setIfInBounds_toArray, List.set_cons_zero, List.set_cons_succ]
      refine wpAnyH_take (i := 7) (oi := ⟨some 47, _, _, _, _, _⟩) (v := .int .i64 0) rfl (by kernel_rfl) (by kernel_rfl) (by kernel_rfl) (fun _ _ _ h => h) (Or.inl ⟨by rfl, fun w hw => by go_simp⟩) (by assumption) ?_
      simp only [Act.put, List.setIfInBounds_toArray, List.set_cons_zero, List.set_cons_succ]
      refine wpAnyH_take (i := 8) (oi := ⟨some 14, _, _, _, _, _⟩) (v := .slice none 0 0) rfl (by kernel_rfl) (by kernel_rfl) (by kernel_rfl) (fun _ _ _ h => h) (Or.inl ⟨by rfl, fun w hw => by go_simp⟩) (by assumption) ?_
      simp only [Act.put, List.setIfInBounds_toArray, List.set_cons_zero, List.set_cons_succ]
      refine wpAnyH_take (i := 9) (oi := ⟨some 15, _, _, _, _, _⟩) (v := .int .i64 0) rfl (by kernel_rfl) (by kernel_rfl) (by kernel_rfl) (fun _ _ _ h => h) (Or.inl ⟨by rfl, fun w hw => by go_simp⟩) (by assumption) ?_
      simp only [Act.put, List.setIfInBounds_toArray, List.set_cons_zero, List.set_cons_succ]
      refine wpAnyH_done (by kernel_rfl) ?_ _
      have HS3 : Calls Try.prog 11 #[.pointer (some ⟨b, 0, none⟩)] wy fun e w' => e = .returned (.int .u8 3) ∧ wy = w' := by
        have := state_any wy b x' HX'.out.1 HX'.out.2
        rw [hst] at this
        exact this
      have HEQ : Hid (Calls Try.prog 18 #[.slice ga n2 gc, .slice oa own.length oc] wy fun e w' => e = .returned (.bool true) ∧ ∃ n, w' = wy.drewN n) := by
        have e1 : own.take (16 * j) = own := List.take_of_length_le hle
        have e2 : own.length = n2 := by rw [← HN2.out, e1]
        have h1 := own_vals14 HGY.out
        rw [e1] at h1
        exact eheadsP _ _ own wy (by unfold HeadsAt; rw [e2]; exact h1) (HOW.out wy HTW.out)
      have HEND : Hid (Touch (fun _ => False) w wy) := HW.out.trans' HTW.out (fun i hi e => by have h1 := HBG.out; omega)
      clear hst
      go_wp2_with fail
      refine Calls.mono HS3 ?_
      rintro e wz ⟨rfl, rfl⟩
      go_wp2_with fail
      refine Calls.mono HS3 ?_
      rintro e wz ⟨rfl, rfl⟩
      go_wp2_with fail
      refine Calls.mono HEQ.out ?_
      rintro e wz ⟨rfl, nn, rfl⟩
      go_wp2_with fail
      refine Calls.mono (works14 _) ?_
      rintro e wz ⟨rfl, tz⟩
      clear HS3
      go_wp2_with fail
      go_ret
      exact ⟨rfl, HEND.out.trans (((Touch.refl _ _).drewN nn).trans tz)⟩
    · obtain ⟨go, hv, rfl, hgo, hrow, hhd, hblk⟩ := od
      obtain ⟨va, vc, hvf, -⟩ := ValsAt.form hhd
      have hlen : ((own.drop (16 * j)).take 16).length ≤ 16 := by rw [List.length_take]; omega
      obtain ⟨n1, hn1⟩ : ∃ n, ((own.drop (16 * j)).take 16).length = n := ⟨_, rfl⟩
      have HN1 : Hid (((own.drop (16 * j)).take 16).length = n1) := hn1
      unfold HeadsAt at hhd
      rw [hn1] at hvf hlen hhd
      subst hvf
      have k0 : wy.cell? ⟨go, 0, none⟩ = some (.bool true) := hrow.cell 0
      have k5 : wy.cell? ⟨go, 5, none⟩ = some (.slice va n1 vc) := hrow.cell 5
      have hgl := hrow.lt
      have HHD : Hid (ValsAt wy 8 (.slice va n1 vc) n1 (headsC ((own.drop (16 * j)).take 16))) := hhd
      have hlt16 : ¬ (16 : Int) < (n1 : Int) := by omega
      refine wpAnyH_take (i := 5) (oi := ⟨some 40, _, _, _, _, _⟩) (v := .tuple #[.slice (some ⟨go, 0, none⟩) 1 1, .int .i64 0]) rfl (by kernel_rfl) (by kernel_rfl) (by kernel_rfl) (fun _ _ _ h => h) (Or.inl ⟨by rfl, fun w hw => by go_simp⟩) (by assumption) ?_
      simp only [Act.put, List.setIfInBounds_toArray, List.set_cons_zero, List.set_cons_succ]
      refine wpAnyH_take (i := 6) (oi := ⟨some 46, _, _, _, _, _⟩) (v := .slice (some ⟨go, 0, none⟩) 1 1) rfl (by kernel_rfl) (by kernel_rfl) (by kernel_rfl) (fun _ _ _ h => h) (Or.inl ⟨by rfl, fun w hw => by go_simp⟩) (by assumption) ?_
      simp only [Act.put, List.setIfInBounds_toArray, List.set_cons_zero, List.set_cons_succ]
      refine wpAnyH_take (i := 7) (oi := ⟨some 47, _, _, _, _, _⟩) (v := .int .i64 0) rfl (by kernel_rfl) (by kernel_rfl) (by kernel_rfl) (fun _ _ _ h => h) (Or.inl ⟨by rfl, fun w hw => by go_simp⟩) (by assumption) ?_
      simp only [Act.put, List.setIfInBounds_toArray, List.set_cons_zero, List.set_cons_succ]
      refine wpAnyH_take (i := 8) (oi := ⟨some 14, _, _, _, _, _⟩) (v := .slice (some ⟨go, 0, none⟩) 1 1) rfl (by kernel_rfl) (by kernel_rfl) (by kernel_rfl) (fun _ _ _ h => h) (Or.inl ⟨by rfl, fun w hw => by go_simp⟩) (by assumption) ?_
      simp only [Act.put, List.setIfInBounds_toArray, List.set_cons_zero, List.set_cons_succ]
      refine wpAnyH_take (i := 9) (oi := ⟨some 15, _, _, _, _, _⟩) (v := .int .i64 0) rfl (by kernel_rfl) (by kernel_rfl) (by kernel_rfl) (fun _ _ _ h => h) (Or.inl ⟨by rfl, fun w hw => by go_simp⟩) (by assumption) ?_
      simp only [Act.put, List.setIfInBounds_toArray, List.set_cons_zero, List.set_cons_succ]
      refine wpAnyH_done (by kernel_rfl) ?_ _
      have HL2 : Hid (n2 + n1 ≤ 1099511627776 ∧ n2 + n1 = (own.take (16 * (j + 1))).length) := by
        have e : n2 + n1 = (own.take (16 * (j + 1))).length := by rw [← take_step own j, List.length_append, HN1.out, HN2.out]
        refine ⟨?_, e⟩
        rw [e, List.length_take]; omega
      have HBY : Hid (L' ≤ wy.heap.size) := HLL'.out.2
      clear hrow hhd hblk hlen hn1 HN1 HN2
      go_wp2_with (at_builtin; refine vapp_own rfl (.tmp 72) (.tmp 77) 22 rfl 50 8 20 (.agg #[.int .u16 0, .int .u8 0, .int .u8 0, .int .u32 0, .int .u32 0, .int .i32 0, .int .u16 0, .int .u16 0]) Try.underlying22 infoH14 rfl (by decide) (by decide) L' (.slice ga n2 gc) n2 (headsC (own.take (16 * j))) rfl HGY.out HBY.out (.slice va n1 vc) n1 (headsC ((own.drop (16 * j)).take 16)) rfl HHD.out (oneCell_headsC _) HL2.out.1 ?_)
      intro got' wz ow tz
      have HOWZ : Hid (wz.ownsRow L' 50 8 got' (n2 + n1) (headsC (own.take (16 * (j + 1))))) := by
        rw [← headsC_app, take_step] at ow
        exact ow
      have HN3 : Hid (n2 + n1 = (own.take (16 * (j + 1))).length) := HL2.out.2
      have HLO : Hid (∀ k, (Value.slice ga n2 gc).ownBlock = some k → L' ≤ k) := fun k hk => (HGY.out.lt k hk).1
      have HXZ : Hid (Ads wz b x' ∧ ¬ x'.self = 0) := ⟨HX'.out.1.touch tz (fun e => by have h1 := HLO.out b e; have h2 := HBG.out.2.1; have h3 := HLL'.out.1; omega), HX'.out.2⟩
      have HPZ : Hid (Row wz gp 54 [.int .u16 0, .int .u8 2, .int .u8 (pfl true j), .int .u32 (9 + (j : Int)), .slice none 0 0]) := (tz.block gp HPY.out.lt (fun e => by have h1 := HLO.out gp e; have h2 := HBG.out.2.2; have h3 := HLL'.out.1; omega)).trans HPY.out
      have HTZ : Hid (Touch (fun k => k = b ∨ k = gp) w2 wz) := HTW.out.trans' tz (fun i hi e => by have h1 := HLO.out i e; have h3 := HLL'.out.1; omega)
      have HZZ : Hid (Touch (fun j => (Value.slice ga n2 gc).ownBlock = some j) wy wz) := tz
      clear ow tz k0 k5 hgl HPY HTW HGY HX' HHD HL2 HBY
      rcases hst with ⟨hst, hle⟩ | ⟨hst, hj16, st'⟩
      · have HS3 : Calls Try.prog 11 #[.pointer (some ⟨b, 0, none⟩)] wz fun e w' => e = .returned (.int .u8 3) ∧ wz = w' := by
          have := state_any wz b x' HXZ.out.1 HXZ.out.2
          rw [hst] at this
          exact this
        obtain ⟨ga', gc', rfl⟩ := own_form14 HOWZ.out
        have HEQ : Hid (Calls Try.prog 18 #[.slice ga' (n2 + n1) gc', .slice oa own.length oc] wz fun e w' => e = .returned (.bool true) ∧ ∃ n, w' = wz.drewN n) := by
          have e1 : own.take (16 * (j + 1)) = own := List.take_of_length_le hle
          have e2 : own.length = n2 + n1 := by rw [HN3.out, e1]
          have h1 := own_vals14 HOWZ.out
          rw [e1] at h1
          exact eheadsP _ _ own wz (by unfold HeadsAt; rw [e2]; exact h1) (HOW.out wz HTZ.out)
        have HEND : Hid (Touch (fun _ => False) w wz) := HW.out.trans' HTZ.out (fun i hi e => by have h1 := HBG.out; omega)
        clear hst HOWZ HXZ HPZ HTZ HZZ
        generalize n2 + n1 = n3 at *
        go_wp2_with fail
        refine Calls.mono HS3 ?_
        rintro e wz ⟨rfl, rfl⟩
        go_wp2_with fail
        refine Calls.mono HS3 ?_
        rintro e wz ⟨rfl, rfl⟩
        go_wp2_with fail
        refine Calls.mono HEQ.out ?_
        rintro e wz ⟨rfl, nn, rfl⟩
        go_wp2_with fail
        refine Calls.mono (works14 _) ?_
        rintro e wz ⟨rfl, tz⟩
        clear HS3
        go_wp2_with fail
        go_ret
        exact ⟨rfl, HEND.out.trans (((Touch.refl _ _).drewN nn).trans tz)⟩
      · have HS1 : Calls Try.prog 11 #[.pointer (some ⟨b, 0, none⟩)] wz fun e w' => e = .returned (.int .u8 1) ∧ wz = w' := by
          have := state_any wz b x' HXZ.out.1 HXZ.out.2
          rw [hst] at this
          exact this
        obtain ⟨ga', gc', rfl⟩ := own_form14 HOWZ.out
        have y2 : wz.cell? ⟨gp, 2, none⟩ = some (.int .u8 (pfl true j)) := HPZ.out.cell 2
        have y3 : wz.cell? ⟨gp, 3, none⟩ = some (.int .u32 (9 + (j : Int))) := HPZ.out.cell 3
        have f2 := HPZ.out.frozen 2
        have f3 := HPZ.out.frozen 3
        have hpl := HPZ.out.lt
        have hwq := wrap_seq (j := j) (by omega)
        have tg : Touch (fun k => k = gp) wz (wz.setCell ⟨gp, 3, none⟩ (.int .u32 (9 + ((j + 1 : Nat) : Int)))) := (Touch.refl (fun k => k = gp) wz).setCell (p := ⟨gp, 3, none⟩) (Or.inl rfl) _
        have REL : Hid (ChR true own w2 b gp (j + 1) (.slice ga' (n2 + n1) gc') (wz.setCell ⟨gp, 3, none⟩ (.int .u32 (9 + ((j + 1 : Nat) : Int))))) := by
          have hbg := HBG.out
          have hxl := HUP.out x' st'
          have hll := HLL'.out
          have hsz := HZZ.out.size
          have hsz2 := tg.size
          refine ⟨⟨L', x', hll.1, by omega, HXZ.out.1.touch tg (fun e => HNE.out e), hxl.up (fun hj => ((hxl.left hj).touchF HZZ.out (fun k hk hh => ?_)).touchF tg (fun k hk hh => ?_)), own_touch (by have h9 := HOWZ.out; have e9 := HN3.out; rw [e9] at h9 ⊢; exact h9) tg (fun k hk e => ?_)⟩, ?_, ?_, Or.inr hj16, fun h => absurd h (Nat.succ_ne_zero j)⟩
          · have h1 := HLO.out k hh
            have h2 := hk.2 (Nat.succ_ne_zero j)
            omega
          · have h1 := hk.1
            have h2 : k = gp := hh
            omega
          · have h1 := (HOWZ.out.lt k hk).1
            have h2 : k = gp := e
            omega
          · exact HPZ.out.set 3 _
          · exact HTZ.out.trans (tg.mono (fun _ _ e => Or.inr e))
        clear hst st' HOWZ HXZ HPZ HTZ HZZ tg
        generalize n2 + n1 = n3 at *
        go_wp2_with fail
        refine Calls.mono HS1 ?_
        rintro e wq ⟨rfl, rfl⟩
        clear HS1
        go_wp2_with fail
        go_roundw
        case rel => exact ⟨j + 1, by omega, by go_num, REL.out⟩
        case measure => simp [intOf]; omega
set_option maxHeartbeats 16000000 in
theorem chunks_false (v : Value) (l : List HV) (w : World) (hv : HeadsAt w v l) (ok : ∀ x ∈ l, x.Wd) (hl : l.length ≤ 200) : Calls Try.prog 4 #[v, .bool false] w fun e w' => e = .returned (.bool true) ∧ Touch (fun _ => False) w w' := by
  have HU := unlike_any w v l hv hl ok
  obtain ⟨la, lc, rfl, -⟩ := ValsAt.form hv
  have hl2 : ¬ (200 : Int) < (l.length : Int) := by omega
  clear hv ok
  go_enter Try.func4, Try.ntmps4
  go_wp2_with fail
  refine Calls.mono HU ?_
  rintro e w1 ⟨ou, rfl, own, vbo, h60, hfn⟩
  obtain ⟨oa, oc, rfl⟩ := vbo.form
  have HVO : Hid (VBuf 50 8 w w1 (.slice oa own.length oc) own.length (headsC own)) := vbo
  have HFN : Hid (∀ x ∈ own, x.Fine) := hfn
  have R0 : Row (w1.alloc (.cells #[.int .u16 0, .int .u8 2, .int .u8 7, .int .u32 9, .slice none 0 0] 54)) w1.heap.size 54 [.int .u16 0, .int .u8 2, .int .u8 7, .int .u32 9, .slice none 0 0] := row_new _ _ _
  have T0 : Touch (fun _ => False) w1 (w1.alloc (.cells #[.int .u16 0, .int .u8 2, .int .u8 7, .int .u32 9, .slice none 0 0] 54)) := (Touch.refl _ _).alloc _
  have HNW := new_any (w1.alloc (.cells #[.int .u16 0, .int .u8 2, .int .u8 7, .int .u32 9, .slice none 0 0] 54)) 1 2 0 2 2 9 65535 (by decide) (by decide) (by decide) (by decide)
  have HR0 : Hid (Row (w1.alloc (.cells #[.int .u16 0, .int .u8 2, .int .u8 7, .int .u32 9, .slice none 0 0] 54)) w1.heap.size 54 [.int .u16 0, .int .u8 2, .int .u8 7, .int .u32 9, .slice none 0 0] ∧ Touch (fun _ => False) w1 (w1.alloc (.cells #[.int .u16 0, .int .u8 2, .int .u8 7, .int .u32 9, .slice none 0 0] 54))) := ⟨R0, T0⟩
  clear HU vbo hfn R0 T0
  go_wp2_with fail
  refine Calls.mono HNW ?_
  rintro e w2 ⟨b, v0, mm, rfl, -, ha, -, hb, -, t2⟩
  obtain ⟨gp, hgp⟩ : ∃ g, w1.heap.size = g := ⟨_, rfl⟩
  have HBG : Hid ((w.heap.size ≤ gp ∧ gp < b) ∧ b < w2.heap.size ∧ gp < w2.heap.size) := by
    have h1 := HVO.out.t.size
    have h2 := HR0.out.1.lt
    have h3 := t2.size
    have h4 := ha.lt
    refine ⟨⟨by omega, by omega⟩, h4, by omega⟩
  have HNE : Hid (¬ b = gp) := by have := HBG.out; show ¬ _; omega
  have HOW : Hid (∀ w', Touch (fun k => k = b ∨ k = gp) w2 w' → HeadsAt w' (.slice oa own.length oc) own) := fun w' t => by
    have h0 := ValsAt.keep (ValsAt.keep HVO.out.vals HR0.out.2) t2
    refine ValsAt.touch h0 t (fun a n c he hab => ?_)
    rcases HVO.out.own.2 with ⟨e, _⟩ | ⟨g, cap, cur, e, hg, hh, _⟩
    · rw [e] at he; cases he
    · rw [e] at he
      simp only [Value.slice.injEq, Option.some.injEq] at he
      have h1 := lt_of_heap hh
      have h2 := HBG.out
      rw [← he.1] at hab
      have hab' : g = b ∨ g = gp := hab
      omega
  have HW : Hid (Touch (fun _ => False) w w2) := (HVO.out.t.trans HR0.out.2).trans t2
  have REL0 : Hid (ChR false own w2 b gp 0 (.slice none 0 0) w2) := ⟨⟨w2.heap.size, _, Nat.le_refl _, Nat.le_refl _, ha, ⟨rfl, rfl, rfl, rfl, rfl, rfl, fun h => absurd rfl h, fun h => absurd rfl h, fun h => absurd rfl h, rfl⟩, World.ownsRow_nil _ _ _ _⟩, by rw [← hgp]; exact HR0.out.1.keep t2, Touch.refl _ _, Or.inl rfl, fun _ => rfl⟩
  rw [hgp]
  clear HNW HVO HR0 ha hb t2 hgp
  go_wp2_with fail
  go_loopw [12, 13] (fun got i wr => ∃ j : Nat, j ≤ 39 ∧ i = .int .i64 (j : Int) ∧ Hid (ChR false own w2 b gp j got wr)) (fun _ i _ => 40 - (intOf i).toNat)
  case atStart => exact ⟨0, by omega, rfl, REL0⟩
  case round =>
    clear REL0
    obtain ⟨j, hj39, rfl, hch⟩ := hrel
    obtain ⟨L, x, hL0, hL9, hax, hst0, hgg⟩ := hch.out.ex
    have hz0 := hch.out.z
    obtain ⟨n2, hn2⟩ : ∃ n, (own.take (16 * j)).length = n := ⟨_, rfl⟩
    rw [hn2] at hgg
    have HN2 : Hid ((own.take (16 * j)).length = n2) := hn2
    obtain ⟨ga, gc, hgf⟩ := own_form14 hgg
    subst hgf
    have HZ : Hid (j = 0 → Value.slice ga n2 gc = .slice none 0 0) := hz0
    have HLL : Hid (w2.heap.size ≤ L ∧ L ≤ wr.heap.size) := ⟨hL0, hL9⟩
    have hjj := hch.out.jj
    have HAD : Hid (Ads wr b x) := hax
    have HST : Hid (St false (fun k => w2.heap.size ≤ k ∧ (j ≠ 0 → k < L)) own wr b j x) := hst0
    have HJJ : Hid (j = 0 ∨ 16 * j ≤ own.length + 16) := hjj
    have HG : Hid (wr.ownsRow L 50 8 (.slice ga n2 gc) n2 (headsC (own.take (16 * j)))) := hgg
    have HT : Hid (Touch (fun k => k = b ∨ k = gp) w2 wr) := hch.out.t
    have HPD : Hid (Row wr.drew gp 54 [.int .u16 0, .int .u8 2, .int .u8 (pfl false j), .int .u32 (9 + (j : Int)), .slice none 0 0]) := hch.out.p.keep ((Touch.refl _ _).drew)
    have HCP : Hid (Calls Try.prog 17 #[.slice oa own.length oc] wr.drew fun e w' => ∃ u, e = .returned u ∧ VBuf 50 8 wr.drew w' u own.length (headsC own)) := cheadsP _ own wr.drew (ValsAt.keep (HOW.out wr hch.out.t) ((Touch.refl _ _).drew)) (by omega)
    have hj4 : j ≤ 4 := by omega
    clear hch hax hst0 hgg hL0 hL9 hz0 hn2
    go_upto_region 16 with fail
    refine wp_region_held_drew (S := fun w' => Row w' gp 54 [.int .u16 0, .int .u8 2, .int .u8 (pfl false j), .int .u32 (9 + (j : Int)), .slice none 0 0]) (by kernel_rfl) HPD.out (fun hHeld => ?_)
    refine wpAnyH_take (i := 0) (oi := ⟨some 41, _, _, _, _, _⟩) (v := .pointer (some ⟨b, 0, none⟩)) rfl (by kernel_rfl) (by kernel_rfl) (by kernel_rfl) (fun _ _ _ h => h) (Or.inl ⟨by rfl, fun w hw => by go_simp⟩) (by assumption) ?_
    simp only [Act.put, List.setIfInBounds_toArray, List.set_cons_zero, List.set_cons_succ]
    refine wpAnyH_take (i := 1) (oi := ⟨some 42, _, _, _, _, _⟩) (v := .agg #[.int .u16 0, .int .u8 2, .int .u8 (pfl false j), .int .u32 (9 + (j : Int)), .slice none 0 0]) rfl (by kernel_rfl) (by kernel_rfl) (by kernel_rfl) (fun _ _ _ h => h) (yieldsIf_load_mid (by rfl) _ _ rfl _ _ rfl [.int .u16 0, .int .u8 2, .int .u8 (pfl false j), .int .u32 (9 + (j : Int)), .slice none 0 0] _ (fun w h => row_range h) Try.underlying54 rfl (by kernel_rfl)) (by assumption) ?_
    simp only [Act.put, List.setIfInBounds_toArray, List.set_cons_zero, List.set_cons_succ]
    refine wpAnyH_take (i := 2) (oi := ⟨some 43, _, _, _, _, _⟩) (v := .slice oa own.length oc) rfl (by kernel_rfl) (by kernel_rfl) (by kernel_rfl) (fun _ _ _ h => h) (Or.inl ⟨by rfl, fun w hw => by go_simp⟩) (by assumption) ?_
    simp only [Act.put, List.setIfInBounds_toArray, List.set_cons_zero, List.set_cons_succ]
    refine wpAnyH_ready (rs := [3]) (by kernel_rfl) (by simp) ?_
    refine AllReadyH.cons (o := ⟨some 44, _, _, _, _, _⟩) rfl (fun K hK => ?_) AllReadyH.nil
    go_simp
    refine Calls.mono HCP.out ?_
    rintro e wx ⟨cu, rfl, vb⟩
    refine hK.out _ _ (HPD.out.keep vb.t) (fun hHeld => ?_)
    clear hK K
    have TX : Touch (fun _ => False) wr wx := ((Touch.refl _ _).drew).trans vb.t
    have hcu : HdsB (fun k => k ≠ b) wx cu own := ⟨vb.vals, fun a n c he _ hab => by
      rcases vb.own.2 with ⟨e, _⟩ | ⟨g, cap, cur, e, hg, _⟩
      · rw [e] at he; cases he
      · rw [e] at he
        simp only [Value.slice.injEq, Option.some.injEq] at he
        have h1 := HAD.out.lt
        rw [← he.1] at hab
        have hab' : g = b := hab
        have h2 : wr.heap.size ≤ wr.drew.heap.size := Nat.le_refl _
        omega⟩
    have HDE := describe_any false (fun k => w2.heap.size ≤ k ∧ (j ≠ 0 → k < L)) own wx b j x cu (HAD.out.keep TX) (HST.out.up (fun hj0 => (HST.out.left hj0).keep TX)) (fun h => by have h1 := HBG.out.2.1; have h2 := h.1; omega) (fun hj0 k hk => ⟨by have h1 := HT.out.size; have h2 := TX.size; omega, fun h => absurd hj0 h⟩) (by omega) HJJ.out hcu (by omega) HFN.out
    have HTX : Hid (Touch (fun _ => False) wr wx) := TX
    have HPX : Hid (Row wx gp 54 [.int .u16 0, .int .u8 2, .int .u8 (pfl false j), .int .u32 (9 + (j : Int)), .slice none 0 0]) := HPD.out.keep vb.t
    obtain ⟨ca, cc, rfl⟩ := vb.form
    clear vb hcu TX
    refine wpAnyH_ready (rs := [4]) (by kernel_rfl) (by simp) ?_
    refine AllReadyH.cons (o := ⟨some 45, _, _, _, _, _⟩) rfl (fun K hK => ?_) AllReadyH.nil
    go_simp
    refine Calls.mono HDE ?_
    rintro e wy ⟨vo, rfl, rd⟩
    have HPY : Hid (Row wy gp 54 [.int .u16 0, .int .u8 2, .int .u8 (pfl false j), .int .u32 (9 + (j : Int)), .slice none 0 0]) := (rd.1.block gp HPX.out.lt (fun e => HNE.out e.symm)).trans HPX.out
    refine hK.out _ _ HPY.out (fun hHeld => ?_)
    clear hK K HDE
    obtain ⟨ty, x', hx', hs', hways⟩ := rd
    have HTY : Hid (Touch (fun k => k = b) wx wy) := ty
    have HX' : Hid (Ads wy b x' ∧ ¬ x'.self = 0) := ⟨hx', hs'⟩
    have hgy0 : wy.ownsRow L 50 8 (.slice ga n2 gc) n2 (headsC (own.take (16 * j))) := own_touch (own_touch HG.out HTX.out (fun _ _ f => f)) ty (fun k hk e => by have h1 := (HG.out.lt k hk).1; have h2 := HBG.out.2.1; have h3 := HLL.out.1; omega)
    obtain ⟨L', hL1, hL2, hgy, hup⟩ := ch_up false own w2.heap.size wy b j L n2 HN2.out _ HLL.out.1 (by have h1 := HLL.out.2; have h2 := HTX.out.size; have h3 := ty.size; omega) hgy0 HZ.out
    have HGY : Hid (wy.ownsRow L' 50 8 (.slice ga n2 gc) n2 (headsC (own.take (16 * j)))) := hgy
    have HLL' : Hid (w2.heap.size ≤ L' ∧ L' ≤ wy.heap.size) := ⟨hL1, hL2⟩
    have HUP : Hid (∀ x', St false (fun k => w2.heap.size ≤ k ∧ (j ≠ 0 → k < L)) own wy b (j + 1) x' → St false (fun k => w2.heap.size ≤ k ∧ (j + 1 ≠ 0 → k < L')) own wy b (j + 1) x') := hup
    clear hgy0 hL1 hL2 hgy hup
    have HTW : Hid (Touch (fun k => k = b ∨ k = gp) w2 wy) := (HT.out.trans (HTX.out.mono (fun _ _ f => f.elim))).trans (ty.mono (fun _ _ e => Or.inl e))
    clear ty hx' hs' HPX HPD HG HCP HLL HZ HST HAD
    rcases hways with ⟨rfl, hst, hle⟩ | ⟨m', o', f', s', od, hst⟩
    · refine wpAnyH_take (i := 5) (oi := ⟨some 40, _, _, _, _, _⟩) (v := .tuple #[.slice none 0 0, .int .i64 0]) rfl (by kernel_rfl) (by kernel_rfl) (by kernel_rfl) (fun _ _ _ h => h) (Or.inl ⟨by rfl, fun w hw => by go_simp⟩) (by assumption) ?_
      simp only [Act.put, List.setIfInBounds_toArray, List.set_cons_zero, List.set_cons_succ]
      refine wpAnyH_take (i := 6) (oi := ⟨some 46, _, _, _, _, _⟩) (v := .slice none 0 0) rfl (by kernel_rfl) (by kernel_rfl) (by kernel_rfl) (fun _ _ _ h => h) (Or.inl ⟨by rfl, fun w hw => by go_simp⟩) (by assumption) ?_
      simp only [Act.put, List.setIfInBounds_toArray, List.set_cons_zero, List.set_cons_succ]
      refine wpAnyH_take (i := 7) (oi := ⟨some 47, _, _, _, _, _⟩) (v := .int .i64 0) rfl (by kernel_rfl) (by kernel_rfl) (by kernel_rfl) (fun _ _ _ h => h) (Or.inl ⟨by rfl, fun w hw => by go_simp⟩) (by assumption) ?_
      simp only [Act.put, List.setIfInBounds_toArray, List.set_cons_zero, List.set_cons_succ]
      refine wpAnyH_take (i := 8) (oi := ⟨some 14, _, _, _, _, _⟩) (v := .slice none 0 0) rfl (by kernel_rfl) (by kernel_rfl) (by kernel_rfl) (fun _ _ _ h => h) (Or.inl ⟨by rfl, fun w hw => by go_simp⟩) (by assumption) ?_
      simp only [Act.put, List.setIfInBounds_toArray, List.set_cons_zero, List.set_cons_succ]
      refine wpAnyH_take (i := 9) (oi := ⟨some 15, _, _, _, _, _⟩) (v := .int .i64 0) rfl (by kernel_rfl) (by kernel_rfl) (by kernel_rfl) (fun _ _ _ h => h) (Or.inl ⟨by rfl, fun w hw => by go_simp⟩) (by assumption) ?_
      simp only [Act.put, List.setIfInBounds_toArray, List.set_cons_zero, List.set_cons_succ]
      refine wpAnyH_done (by kernel_rfl) ?_ _
      have HS3 : Calls Try.prog 11 #[.pointer (some ⟨b, 0, none⟩)] wy fun e w' => e = .returned (.int .u8 3) ∧ wy = w' := by
        have := state_any wy b x' HX'.out.1 HX'.out.2
        rw [hst] at this
        exact this
      have HEQ : Hid (Calls Try.prog 18 #[.slice ga n2 gc, .slice oa own.length oc] wy fun e w' => e = .returned (.bool true) ∧ ∃ n, w' = wy.drewN n) := by
        have e1 : own.take (16 * j) = own := List.take_of_length_le hle
        have e2 : own.length = n2 := by rw [← HN2.out, e1]
        have h1 := own_vals14 HGY.out
        rw [e1] at h1
        exact eheadsP _ _ own wy (by unfold HeadsAt; rw [e2]; exact h1) (HOW.out wy HTW.out)
      have HEND : Hid (Touch (fun _ => False) w wy) := HW.out.trans' HTW.out (fun i hi e => by have h1 := HBG.out; omega)
      clear hst
      go_wp2_with fail
      refine Calls.mono HS3 ?_
      rintro e wz ⟨rfl, rfl⟩
      go_wp2_with fail
      refine Calls.mono HS3 ?_
      rintro e wz ⟨rfl, rfl⟩
      go_wp2_with fail
      refine Calls.mono HEQ.out ?_
      rintro e wz ⟨rfl, nn, rfl⟩
      go_wp2_with fail
      refine Calls.mono (works14 _) ?_
      rintro e wz ⟨rfl, tz⟩
      clear HS3
      go_wp2_with fail
      go_ret
      exact ⟨rfl, HEND.out.trans (((Touch.refl _ _).drewN nn).trans tz)⟩
    · obtain ⟨go, hv, rfl, hgo, hrow, hhd, hblk⟩ := od
      obtain ⟨va, vc, hvf, -⟩ := ValsAt.form hhd
      have hlen : ((own.drop (16 * j)).take 16).length ≤ 16 := by rw [List.length_take]; omega
      obtain ⟨n1, hn1⟩ : ∃ n, ((own.drop (16 * j)).take 16).length = n := ⟨_, rfl⟩
      have HN1 : Hid (((own.drop (16 * j)).take 16).length = n1) := hn1
      unfold HeadsAt at hhd
      rw [hn1] at hvf hlen hhd
      subst hvf
      have k0 : wy.cell? ⟨go, 0, none⟩ = some (.bool true) := hrow.cell 0
      have k5 : wy.cell? ⟨go, 5, none⟩ = some (.slice va n1 vc) := hrow.cell 5
      have hgl := hrow.lt
      have HHD : Hid (ValsAt wy 8 (.slice va n1 vc) n1 (headsC ((own.drop (16 * j)).take 16))) := hhd
      have hlt16 : ¬ (16 : Int) < (n1 : Int) := by omega
      refine wpAnyH_take (i := 5) (oi := ⟨some 40, _, _, _, _, _⟩) (v := .tuple #[.slice (some ⟨go, 0, none⟩) 1 1, .int .i64 0]) rfl (by kernel_rfl) (by kernel_rfl) (by kernel_rfl) (fun _ _ _ h => h) (Or.inl ⟨by rfl, fun w hw => by go_simp⟩) (by assumption) ?_
      simp only [Act.put, List.setIfInBounds_toArray, List.set_cons_zero, List.set_cons_succ]
      refine wpAnyH_take (i := 6) (oi := ⟨some 46, _, _, _, _, _⟩) (v := .slice (some ⟨go, 0, none⟩) 1 1) rfl (by kernel_rfl) (by kernel_rfl) (by kernel_rfl) (fun _ _ _ h => h) (Or.inl ⟨by rfl, fun w hw => by go_simp⟩) (by assumption) ?_
      simp only [Act.put, List.setIfInBounds_toArray, List.set_cons_zero, List.set_cons_succ]
      refine wpAnyH_take (i := 7) (oi := ⟨some 47, _, _, _, _, _⟩) (v := .int .i64 0) rfl (by kernel_rfl) (by kernel_rfl) (by kernel_rfl) (fun _ _ _ h => h) (Or.inl ⟨by rfl, fun w hw => by go_simp⟩) (by assumption) ?_
      simp only [Act.put, List.setIfInBounds_toArray, List.set_cons_zero, List.set_cons_succ]
      refine wpAnyH_take (i := 8) (oi := ⟨some 14, _, _, _, _, _⟩) (v := .slice (some ⟨go, 0, none⟩) 1 1) rfl (by kernel_rfl) (by kernel_rfl) (by kernel_rfl) (fun _ _ _ h => h) (Or.inl ⟨by rfl, fun w hw => by go_simp⟩) (by assumption) ?_
      simp only [Act.put, List.setIfInBounds_toArray, List.set_cons_zero, List.set_cons_succ]
      refine wpAnyH_take (i := 9) (oi := ⟨some 15, _, _, _, _, _⟩) (v := .int .i64 0) rfl (by kernel_rfl) (by kernel_rfl) (by kernel_rfl) (fun _ _ _ h => h) (Or.inl ⟨by rfl, fun w hw => by go_simp⟩) (by assumption) ?_
      simp only [Act.put, List.setIfInBounds_toArray, List.set_cons_zero, List.set_cons_succ]
      refine wpAnyH_done (by kernel_rfl) ?_ _
      have HL2 : Hid (n2 + n1 ≤ 1099511627776 ∧ n2 + n1 = (own.take (16 * (j + 1))).length) := by
        have e : n2 + n1 = (own.take (16 * (j + 1))).length := by rw [← take_step own j, List.length_append, HN1.out, HN2.out]
        refine ⟨?_, e⟩
        rw [e, List.length_take]; omega
      have HBY : Hid (L' ≤ wy.heap.size) := HLL'.out.2
      clear hrow hhd hblk hlen hn1 HN1 HN2
      go_wp2_with (at_builtin; refine vapp_own rfl (.tmp 72) (.tmp 77) 22 rfl 50 8 20 (.agg #[.int .u16 0, .int .u8 0, .int .u8 0, .int .u32 0, .int .u32 0, .int .i32 0, .int .u16 0, .int .u16 0]) Try.underlying22 infoH14 rfl (by decide) (by decide) L' (.slice ga n2 gc) n2 (headsC (own.take (16 * j))) rfl HGY.out HBY.out (.slice va n1 vc) n1 (headsC ((own.drop (16 * j)).take 16)) rfl HHD.out (oneCell_headsC _) HL2.out.1 ?_)
      intro got' wz ow tz
      have HOWZ : Hid (wz.ownsRow L' 50 8 got' (n2 + n1) (headsC (own.take (16 * (j + 1))))) := by
        rw [← headsC_app, take_step] at ow
        exact ow
      have HN3 : Hid (n2 + n1 = (own.take (16 * (j + 1))).length) := HL2.out.2
      have HLO : Hid (∀ k, (Value.slice ga n2 gc).ownBlock = some k → L' ≤ k) := fun k hk => (HGY.out.lt k hk).1
      have HXZ : Hid (Ads wz b x' ∧ ¬ x'.self = 0) := ⟨HX'.out.1.touch tz (fun e => by have h1 := HLO.out b e; have h2 := HBG.out.2.1; have h3 := HLL'.out.1; omega), HX'.out.2⟩
      have HPZ : Hid (Row wz gp 54 [.int .u16 0, .int .u8 2, .int .u8 (pfl false j), .int .u32 (9 + (j : Int)), .slice none 0 0]) := (tz.block gp HPY.out.lt (fun e => by have h1 := HLO.out gp e; have h2 := HBG.out.2.2; have h3 := HLL'.out.1; omega)).trans HPY.out
      have HTZ : Hid (Touch (fun k => k = b ∨ k = gp) w2 wz) := HTW.out.trans' tz (fun i hi e => by have h1 := HLO.out i e; have h3 := HLL'.out.1; omega)
      have HZZ : Hid (Touch (fun j => (Value.slice ga n2 gc).ownBlock = some j) wy wz) := tz
      clear ow tz k0 k5 hgl HPY HTW HGY HX' HHD HL2 HBY
      rcases hst with ⟨hst, hle⟩ | ⟨hst, hj16, st'⟩
      · have HS3 : Calls Try.prog 11 #[.pointer (some ⟨b, 0, none⟩)] wz fun e w' => e = .returned (.int .u8 3) ∧ wz = w' := by
          have := state_any wz b x' HXZ.out.1 HXZ.out.2
          rw [hst] at this
          exact this
        obtain ⟨ga', gc', rfl⟩ := own_form14 HOWZ.out
        have HEQ : Hid (Calls Try.prog 18 #[.slice ga' (n2 + n1) gc', .slice oa own.length oc] wz fun e w' => e = .returned (.bool true) ∧ ∃ n, w' = wz.drewN n) := by
          have e1 : own.take (16 * (j + 1)) = own := List.take_of_length_le hle
          have e2 : own.length = n2 + n1 := by rw [HN3.out, e1]
          have h1 := own_vals14 HOWZ.out
          rw [e1] at h1
          exact eheadsP _ _ own wz (by unfold HeadsAt; rw [e2]; exact h1) (HOW.out wz HTZ.out)
        have HEND : Hid (Touch (fun _ => False) w wz) := HW.out.trans' HTZ.out (fun i hi e => by have h1 := HBG.out; omega)
        clear hst HOWZ HXZ HPZ HTZ HZZ
        generalize n2 + n1 = n3 at *
        go_wp2_with fail
        refine Calls.mono HS3 ?_
        rintro e wz ⟨rfl, rfl⟩
        go_wp2_with fail
        refine Calls.mono HS3 ?_
        rintro e wz ⟨rfl, rfl⟩
        go_wp2_with fail
        refine Calls.mono HEQ.out ?_
        rintro e wz ⟨rfl, nn, rfl⟩
        go_wp2_with fail
        refine Calls.mono (works14 _) ?_
        rintro e wz ⟨rfl, tz⟩
        clear HS3
        go_wp2_with fail
        go_ret
        exact ⟨rfl, HEND.out.trans (((Touch.refl _ _).drewN nn).trans tz)⟩
      · have HS1 : Calls Try.prog 11 #[.pointer (some ⟨b, 0, none⟩)] wz fun e w' => e = .returned (.int .u8 1) ∧ wz = w' := by
          have := state_any wz b x' HXZ.out.1 HXZ.out.2
          rw [hst] at this
          exact this
        obtain ⟨ga', gc', rfl⟩ := own_form14 HOWZ.out
        have y2 : wz.cell? ⟨gp, 2, none⟩ = some (.int .u8 (pfl false j)) := HPZ.out.cell 2
        have y3 : wz.cell? ⟨gp, 3, none⟩ = some (.int .u32 (9 + (j : Int))) := HPZ.out.cell 3
        have f2 := HPZ.out.frozen 2
        have f3 := HPZ.out.frozen 3
        have hpl := HPZ.out.lt
        have hwq := wrap_seq (j := j) (by omega)
        have tg : Touch (fun k => k = gp) wz ((wz.setCell ⟨gp, 2, none⟩ (.int .u8 1)).setCell ⟨gp, 3, none⟩ (.int .u32 (9 + ((j + 1 : Nat) : Int)))) := ((Touch.refl (fun k => k = gp) wz).setCell (p := ⟨gp, 2, none⟩) (Or.inl rfl) _).setCell (p := ⟨gp, 3, none⟩) (Or.inl rfl) _
        have REL : Hid (ChR false own w2 b gp (j + 1) (.slice ga' (n2 + n1) gc') ((wz.setCell ⟨gp, 2, none⟩ (.int .u8 1)).setCell ⟨gp, 3, none⟩ (.int .u32 (9 + ((j + 1 : Nat) : Int))))) := by
          have hbg := HBG.out
          have hxl := HUP.out x' st'
          have hll := HLL'.out
          have hsz := HZZ.out.size
          have hsz2 := tg.size
          refine ⟨⟨L', x', hll.1, by omega, HXZ.out.1.touch tg (fun e => HNE.out e), hxl.up (fun hj => ((hxl.left hj).touchF HZZ.out (fun k hk hh => ?_)).touchF tg (fun k hk hh => ?_)), own_touch (by have h9 := HOWZ.out; have e9 := HN3.out; rw [e9] at h9 ⊢; exact h9) tg (fun k hk e => ?_)⟩, ?_, ?_, Or.inr hj16, fun h => absurd h (Nat.succ_ne_zero j)⟩
          · have h1 := HLO.out k hh
            have h2 := hk.2 (Nat.succ_ne_zero j)
            omega
          · have h1 := hk.1
            have h2 : k = gp := hh
            omega
          · have h1 := (HOWZ.out.lt k hk).1
            have h2 : k = gp := e
            omega
          · exact (HPZ.out.set 2 _).set 3 _
          · exact HTZ.out.trans (tg.mono (fun _ _ e => Or.inr e))
        clear hst st' HOWZ HXZ HPZ HTZ HZZ tg
        generalize n2 + n1 = n3 at *
        go_wp2_with fail
        refine Calls.mono HS1 ?_
        rintro e wq ⟨rfl, rfl⟩
        clear HS1
        go_wp2_with fail
        go_roundw
        case rel => exact ⟨j + 1, by omega, by go_num, REL.out⟩
        case measure => simp [intOf]; omega
theorem chunks_any (ma : Bool) (v : Value) (l : List HV) (w : World) (hv : HeadsAt w v l) (ok : ∀ x ∈ l, x.Wd) : Calls Try.prog 4 #[v, .bool ma] w fun e w' => e = .returned (.bool true) ∧ Touch (fun _ => False) w w' := by
  by_cases hl : l.length ≤ 200
  · cases ma
    · exact chunks_false v l w hv ok hl
    · exact chunks_true v l w hv ok hl
  · obtain ⟨la, lc, rfl, -⟩ := ValsAt.form hv
    have hl2 : (200 : Int) < (l.length : Int) := by omega
    clear hv ok
    go_enter Try.func4, Try.ntmps4
    go_wp2_with fail
    refine Calls.mono (works14 _) ?_
    rintro e w1 ⟨rfl, t1⟩
    go_wp2_with fail
    go_ret
    exact ⟨rfl, t1⟩
end Go.Proofs.Ytojlnabhaglejaa
