/- Package packet's writer: hello. -/
import Derived.Test.YtjjgbcjgmjggnaaGreatPkDesc
import Derived.Test.YtjjgbcjgmjggnaaGreatCutB
import Derived.Deep.RegionHeld3
import Derived.Deep.DeepCutAuto
import Derived.Deep.RegionHeld2
namespace Go.Proofs.YtjjgbcjgmjggnaaGreat
open Go.RowKit
set_option linter.unusedVariables false
set_option maxRecDepth 100000

theorem pnum_or {Y : Nat → Prop} {x0 w : World} {b : Nat} {L : List Int} (x : Int) (h : WL Y x0 w b L 65535) (h0 : 0 ≤ x) (hx : x < 4294967296) :
    Calls Tryz.prog 92 #[.agg #[.pointer (some ⟨b, 0, none⟩)], .int .u32 x, .int .i64 4] w fun e w' => (e = .returned (.agg #[.pointer (some ⟨b, 0, none⟩)]) ∧ WL Y x0 w' b (L ++ numBytes 4 x) 65535) ∨ (e = .panicked (pflawC 11) ∧ 65535 < L.length + 4 ∧ Hold Y x0 w') := by
  have hL := h.le
  by_cases hl : L.length + 4 ≤ 65535
  · refine (pwnum_ok 4 (by omega) x Y b L w h.wr (by omega) ⟨h0, by omega⟩ hl).mono ?_
    rintro e w' ⟨rfl, h', k'⟩
    exact Or.inl ⟨rfl, ⟨⟨h.k.k.trans k'⟩, h', by rw [List.length_append, length_numBytes (by omega)]; omega⟩⟩
  · refine (pwnum_no 4 (by omega) x Y b L w h.wr (by omega) ⟨h0, by omega⟩ (by omega)).mono ?_
    rintro e w' ⟨rfl, k'⟩
    exact Or.inr ⟨rfl, by omega, ⟨h.k.k.trans k'⟩⟩
def wordsB (l : List Int) : List Int := l.flatMap (numBytes 4)
theorem wordsB_snoc (l : List Int) (x : Int) : wordsB (l ++ [x]) = wordsB l ++ numBytes 4 x := by simp [wordsB]
theorem length_wordsB (l : List Int) : (wordsB l).length = 4 * l.length := by
  induction l with
  | nil => rfl
  | cons x r ih => rw [show wordsB (x :: r) = numBytes 4 x ++ wordsB r by simp [wordsB], List.length_append, ih, length_numBytes (by omega), List.length_cons]; omega
def helloB (P : PV) : List Int := numBytes 4 P.mask ++ numBytes 2 P.iv ++ [P.opts, P.prio] ++ numBytes 4 P.dead ++ numBytes 4 P.dr ++ numBytes 4 P.bdr
theorem length_helloB (P : PV) : (helloB P).length = 20 := by simp [helloB, numBytes]
/-- The loop of neighbours. -/
structure NbR (Y : Nat → Prop) (wa : World) (b : Nat) (L : List Int) (ns : List Int) (k : Nat) (i : Value) (wx : World) : Prop where
  out : ∃ j : Nat, j ≤ ns.length ∧ k = ns.length - j ∧ i = .int .i64 (j : Int) ∧ WL Y wa wx b (L ++ wordsB (ns.take j)) 65535

set_option maxHeartbeats 4000000 in
theorem pwhello_any (X : Nat → Prop) (b : Nat) (L : List Int) (P : PV) (ok : P.Ok) (vn vd vk vs vh : Value) (w : World) (hw : Wr X w b L 65535) (hL : L.length ≤ 24) (ns : List Int) (hv : ∀ w', Kept X w w' → WordsAt w' vn ns) (on : ∀ x ∈ ns, 0 ≤ x ∧ x < 4294967296) :
    Calls Tryz.prog 93 #[.agg #[.pointer (some ⟨b, 0, none⟩)], P.v vn vd vk vs vh] w fun e w' => PW X w b L (helloB P ++ wordsB ns) e w' := by
  obtain ⟨da, dc, rfl, hmx⟩ := ValsAt.form (hv w (Kept.refl _ _))
  obtain ⟨wa, hwa⟩ : ∃ wa, wa = (w.alloc (.cells #[.pointer (some ⟨b, 0, none⟩)] 114)).alloc (.cells #[.int .u8 P.typ, .int .u32 P.router, .int .u32 P.area, .int .u32 P.mask, .int .u16 P.iv, .int .u8 P.opts, .int .u8 P.prio, .int .u32 P.dead, .int .u32 P.dr, .int .u32 P.bdr, (.slice da ns.length dc), .int .u16 P.mtu, .int .u8 P.dopts, .int .u8 P.dflags, .int .u32 P.dseq, vd, vk, vs, vh] 33) := ⟨_, rfl⟩
  have ta : Touch (fun _ => False) w wa := by rw [hwa]; exact ((Touch.refl _ w).alloc _).alloc _
  have za : wa.heap.size = w.heap.size + 2 := by rw [hwa]; simp
  have ca : wa.cell? ⟨w.heap.size, 0, none⟩ = some (.pointer (some ⟨b, 0, none⟩)) := by rw [hwa]; simp [go_sem]
  have pa : Pd wa (w.heap.size + 1) P (.slice da ns.length dc) vd vk vs vh := by
    have := Pd.new (w.alloc (.cells #[.pointer (some ⟨b, 0, none⟩)] 114)) P (.slice da ns.length dc) vd vk vs vh 33
    rw [← hwa] at this
    simpa using this
  obtain ⟨Y, hY⟩ : ∃ Y : Nat → Prop, Y = fun k => X k ∨ (w.heap.size ≤ k ∧ k < wa.heap.size) := ⟨_, rfl⟩
  have ya : ∀ k, w.heap.size ≤ k → k < w.heap.size + 2 → Y k := by subst hY; exact fun k h1 h2 => Or.inr (by omega)
  have WA : Hid (Wr Y wa b L 65535) := by subst hY; exact hw.more ta (fun k hk => hk)
  have YX : Hid (∀ k, X k → Y k) := by subst hY; exact fun k hk => Or.inl hk
  have TA : Hid (Touch (fun _ => False) w wa) := ta
  have KX : Hid (∀ w', Kept Y wa w' → Kept X w w') := fun w' h => (Kept.of TA.out).trans (h.less (fun k _ hk => YX.out k hk))
  have c0 := hold_cell ca (ya _ (by dsimp only; omega) (by dsimp only; omega))
  have p3 := hold_cell pa.c3 (ya _ (by dsimp only; omega) (by dsimp only; omega))
  have p4 := hold_cell pa.c4 (ya _ (by dsimp only; omega) (by dsimp only; omega))
  have p5 := hold_cell pa.c5 (ya _ (by dsimp only; omega) (by dsimp only; omega))
  have p6 := hold_cell pa.c6 (ya _ (by dsimp only; omega) (by dsimp only; omega))
  have p7 := hold_cell pa.c7 (ya _ (by dsimp only; omega) (by dsimp only; omega))
  have p8 := hold_cell pa.c8 (ya _ (by dsimp only; omega) (by dsimp only; omega))
  have p9 := hold_cell pa.c9 (ya _ (by dsimp only; omega) (by dsimp only; omega))
  have p10 := hold_cell pa.c10 (ya _ (by dsimp only; omega) (by dsimp only; omega))
  show Calls Tryz.prog 93 #[.agg #[.pointer (some ⟨b, 0, none⟩)], .agg #[.int .u8 P.typ, .int .u32 P.router, .int .u32 P.area, .int .u32 P.mask, .int .u16 P.iv, .int .u8 P.opts, .int .u8 P.prio, .int .u32 P.dead, .int .u32 P.dr, .int .u32 P.bdr, (.slice da ns.length dc), .int .u16 P.mtu, .int .u8 P.dopts, .int .u8 P.dflags, .int .u32 P.dseq, vd, vk, vs, vh]] w _
  obtain ⟨om0, om1⟩ := ok.mask
  obtain ⟨oi0, oi1⟩ := ok.iv
  obtain ⟨od0, od1⟩ := ok.dead
  obtain ⟨or0, or1⟩ := ok.dr
  obtain ⟨ob0, ob1⟩ := ok.bdr
  have qm := wrap_u32 oi0 (by omega)
  have d0 := c0 wa ⟨Kept.refl _ _⟩
  have d3 := p3 wa ⟨Kept.refl _ _⟩
  have d4 := p4 wa ⟨Kept.refl _ _⟩
  have d5 := p5 wa ⟨Kept.refl _ _⟩
  have d6 := p6 wa ⟨Kept.refl _ _⟩
  have d7 := p7 wa ⟨Kept.refl _ _⟩
  have d8 := p8 wa ⟨Kept.refl _ _⟩
  have d9 := p9 wa ⟨Kept.refl _ _⟩
  have d10 := p10 wa ⟨Kept.refl _ _⟩
  obtain ⟨wb, hwb⟩ : ∃ wb, wb = wa.alloc (.cells #[.int .u32 P.mask, .int .u16 P.iv, .int .u8 P.opts, .int .u8 P.prio, .int .u32 P.dead, .int .u32 P.dr, .int .u32 P.bdr, (.slice da ns.length dc)] 26) := ⟨_, rfl⟩
  have tb : Touch (fun _ => False) wa wb := by rw [hwb]; exact (Touch.refl _ _).alloc _
  have zb : wb.heap.size = wa.heap.size + 1 := by rw [hwb]; simp
  have cb0 : wb.cell? ⟨w.heap.size + 1 + 1, 0, none⟩ = some (.int .u32 P.mask) := by rw [hwb, show w.heap.size + 1 + 1 = wa.heap.size by omega]; simp [go_sem]
  have cb1 : wb.cell? ⟨w.heap.size + 1 + 1, 1, none⟩ = some (.int .u16 P.iv) := by rw [hwb, show w.heap.size + 1 + 1 = wa.heap.size by omega]; simp [go_sem]
  have cb2 : wb.cell? ⟨w.heap.size + 1 + 1, 2, none⟩ = some (.int .u8 P.opts) := by rw [hwb, show w.heap.size + 1 + 1 = wa.heap.size by omega]; simp [go_sem]
  have cb3 : wb.cell? ⟨w.heap.size + 1 + 1, 3, none⟩ = some (.int .u8 P.prio) := by rw [hwb, show w.heap.size + 1 + 1 = wa.heap.size by omega]; simp [go_sem]
  have cb4 : wb.cell? ⟨w.heap.size + 1 + 1, 4, none⟩ = some (.int .u32 P.dead) := by rw [hwb, show w.heap.size + 1 + 1 = wa.heap.size by omega]; simp [go_sem]
  have cb5 : wb.cell? ⟨w.heap.size + 1 + 1, 5, none⟩ = some (.int .u32 P.dr) := by rw [hwb, show w.heap.size + 1 + 1 = wa.heap.size by omega]; simp [go_sem]
  have cb6 : wb.cell? ⟨w.heap.size + 1 + 1, 6, none⟩ = some (.int .u32 P.bdr) := by rw [hwb, show w.heap.size + 1 + 1 = wa.heap.size by omega]; simp [go_sem]
  have cb7 : wb.cell? ⟨w.heap.size + 1 + 1, 7, none⟩ = some ((.slice da ns.length dc)) := by rw [hwb, show w.heap.size + 1 + 1 = wa.heap.size by omega]; simp [go_sem]
  obtain ⟨V, hV⟩ : ∃ V : Nat → Prop, V = fun k => Y k ∨ (wa.heap.size ≤ k ∧ k < wb.heap.size) := ⟨_, rfl⟩
  have vb : V (w.heap.size + 1 + 1) := by subst hV; exact Or.inr (by omega)
  have VY : Hid (∀ k, Y k → V k) := by subst hV; exact fun k hk => Or.inl hk
  have VX : Hid (∀ k, X k → V k) := fun k hk => VY.out k (YX.out k hk)
  have KV : Hid (∀ w', Hold V wb w' → Kept X w w') := fun w' h => KX.out _ ((Kept.of tb).trans (h.k.less (fun k _ hk => VY.out k hk)))
  have WB : WG V wb wb.drew b L 24 none := WL.wg ⟨⟨Kept.of ((Touch.refl _ _).drew)⟩, by subst hV; exact (WA.out.more tb (fun k hk => hk)).keep ((Touch.refl _ _).drew), hL⟩
  have b0 := hold_cell (tb.cellN d0) (VY.out _ (ya _ (by dsimp only; omega) (by dsimp only; omega)))
  have b1 := hold_cell cb0 vb
  have b2 := hold_cell cb1 vb
  have b3 := hold_cell cb2 vb
  have b4 := hold_cell cb3 vb
  have b5 := hold_cell cb4 vb
  have b6 := hold_cell cb5 vb
  have b7 := hold_cell cb6 vb
  have b8 := hold_cell cb7 vb
  have HW : Hid (∀ w', Hold V wb w' → WordsAt w' (.slice da ns.length dc) ns) := fun w' h => hv w' (KV.out w' h)
  have ON : Hid (∀ x ∈ ns, 0 ≤ x ∧ x < 4294967296) := on
  have hmx' : (ns.length : Int) ≤ 9223372036854775807 := by unfold maxLen at hmx; omega
  have HLL : Hid (L.length ≤ 24) := hL
  have st := WB.k
  clear hw ta za ca pa hY ya c0 p3 p4 p5 p6 p7 p8 p9 p10 hv on ok hL tb zb hV vb hmx cb0 cb1 cb2 cb3 cb4 cb5 cb6 cb7
  go_enter Tryz.func93, Tryz.ntmps93
  go_upto_region 2 with fail
  rw [← hwa]
  clear hwa
  rw [← hwb]
  clear hwb d0 d3 d4 d5 d6 d7 d8 d9 d10
  generalize w.heap.size + 1 + 1 = g3 at *
  generalize w.heap.size + 1 = g2 at *
  generalize w.heap.size = g1 at *
  go_region_held3 (fun w' => Hold V wb w') (first | with_reducible assumption | exact Hold.step (by assumption) ((Touch.refl _ _).alloc _)) (first
    | (go_at_call 91; refine Calls.mono (pput_g (a := P.opts) (c := P.prio) (by first | assumption | exact WG.new (by assumption) _ _ _) (by simp)) ?_; rintro e wx ⟨rfl, hx⟩; have sx := hx.k)
    | (go_at_call 92; refine Calls.mono (pnum_g _ (by omega) _ (by first | assumption | exact WG.new (by assumption) _ _ _) (by omega) (by simp [numTop] <;> omega) (by simp)) ?_; rintro e wx ⟨rfl, hx⟩; have sx := hx.k))
  all_goals
    have WC : WL V wb wx.drew b (L ++ (numBytes 4 P.mask ++ numBytes 2 P.iv ++ [P.opts, P.prio])) 32 := by
      have := hx.wl.step ((Touch.refl _ _).drew)
      simpa [List.append_assoc] using this
    have s2 := WC.k
    clear hx sx
    go_upto_region 3 with fail
    go_region_held3 (fun w' => Hold V wb w') (with_reducible assumption) (first
      | (go_at_call 92; refine Calls.mono (pnum_i _ (by omega) _ (by assumption) (by omega) (by simp [numTop] <;> omega) (by simp)) ?_; rintro e wy ⟨rfl, hy⟩; have sy := hy.k))
    have WD : WL V wb wy b (L ++ helloB P) 44 := by
      have := hy.wr
      refine ⟨sy, by simpa [helloB, List.append_assoc] using this, ?_⟩
      have := HLL.out
      rw [List.length_append, length_helloB]
      omega
    have e0 := b0 _ sy
    have e8 := b8 _ sy
    have REL : Hid (NbR V wb b (L ++ helloB P) ns ns.length (.int .i64 0) wy) := ⟨0, by omega, by omega, rfl, ⟨sy, by simpa [wordsB] using WD.wr, by have := WD.le; simp [wordsB] at this ⊢; omega⟩⟩
    have KW := KV.out _ sy
    clear WC s2 hy WD b1 b2 b3 b4 b5 b6 b7 b8
    go_wp2_with fail
    clear e0 e8 WB st om0 om1 oi0 oi1 od0 od1 or0 or1 ob0 ob1 qm KW HLL sy WA YX TA KX VY
    go_loopg [36] ns.length (fun k i wz => NbR V wb b (L ++ helloB P) ns k i wz)
    case atStart => exact REL.out
    case round =>
      clear REL
      obtain ⟨k, hk, hgk, rfl, hwl⟩ := hrel.out
      have WLr : Hid (WL V wb wr b ((L ++ helloB P) ++ wordsB (ns.take k)) 65535) := hwl
      have f0 := b0 _ hwl.k
      have KR := KV.out _ hwl.k
      clear hwl
      by_cases hlt : k < ns.length
      · have hlt' : (k : Int) < (ns.length : Int) := by omega
        have hk0 : (0 : Int) ≤ (k : Int) := by omega
        obtain ⟨x, hx⟩ : ∃ x, ns[k]? = some x := ⟨ns[k], by simp [hlt]⟩
        obtain ⟨gR, off, cR, eR, hc1, hc2, hcell⟩ := ValsAt.cells (HW.out wr WLr.out.k) (by omega) (by omega)
        cases eR
        have hc := hcell k (.int .u32 x) (by simp [wordsC, hx])
        have hxr := ON.out x (List.mem_of_getElem? hx)
        have NO : Hid (65535 < ((L ++ helloB P) ++ wordsB (ns.take k)).length + 4 → 65535 < L.length + (helloB P ++ wordsB ns).length) := by
          intro h
          rw [List.length_append, List.length_append, length_wordsB, List.length_take] at h
          rw [List.length_append, length_wordsB]
          omega
        have HN : Hid ((L ++ helloB P) ++ wordsB (ns.take (k + 1)) = ((L ++ helloB P) ++ wordsB (ns.take k)) ++ numBytes 4 x) := by show _ = _; rw [List.take_add_one, hx, show (some x).toList = [x] from rfl, wordsB_snoc, List.append_assoc _ (wordsB _)]
        have hkw : wrap64 ((k : Int) + 1) = (k : Int) + 1 := by unfold wrap64; omega
        clear hcell hx hc1 hc2
        generalize (L ++ helloB P) ++ wordsB (ns.take k) = LL at *
        go_wp2_with fail
        refine Calls.mono (pnum_or x WLr.out hxr.1 hxr.2) ?_
        rintro e w6 (⟨rfl, h6⟩ | ⟨rfl, l6, s6⟩)
        · have W7 : Hid (WL V wb w6 b (LL ++ numBytes 4 x) 65535) := h6
          clear h6 hc f0 hrel KR NO WLr hxr HW ON
          go_wp2_with fail
          go_roundg (ns.length - (k + 1))
          case measure => omega
          case rel => exact ⟨k + 1, by omega, by omega, by go_num, by rw [HN.out]; exact W7.out⟩
        · exact ⟨rfl, ⟨Or.inr ⟨rfl, NO.out l6, KV.out _ s6⟩⟩⟩
      · obtain rfl : k = ns.length := by omega
        have W5 : Hid (WL V wb wr b (L ++ (helloB P ++ wordsB ns)) 65535) := by have := WLr.out; rwa [List.take_length, List.append_assoc] at this
        clear WLr
        go_wp2_with fail
        go_end0
        exact ⟨Or.inl ⟨rfl, by have := W5.out.le; rwa [List.length_append] at this, W5.out.wr.less VX.out, KR⟩⟩
end Go.Proofs.YtjjgbcjgmjggnaaGreat

namespace Go.Proofs.YtjjgbcjgmjggnaaGreat
open Go.RowKit
set_option linter.unusedVariables false
set_option maxRecDepth 100000

def KV.cells (x : KV) : List Value := [.int .u8 x.typ, .int .u32 x.id, .int .u32 x.adv]
def keysC (l : List KV) : List Value := l.flatMap KV.cells
theorem keysC_at (l : List KV) (j i : Nat) (x : KV) (hj : l[j]? = some x) (hi : i < 3) : (keysC l)[j * 3 + i]? = x.cells[i]? := by
  induction l generalizing j with
  | nil => simp at hj
  | cons y r ih =>
    have e : keysC (y :: r) = y.cells ++ keysC r := by simp [keysC]
    have hl : y.cells.length = 3 := rfl
    rw [e]
    cases j with
    | zero =>
      obtain rfl : y = x := by simpa using hj
      rw [List.getElem?_append_left (by omega), Nat.zero_mul, Nat.zero_add]
    | succ j =>
      rw [List.getElem?_append_right (by omega), hl, show (j + 1) * 3 + i - 3 = j * 3 + i by omega]
      exact ih j (by simpa using hj)
def KeysAt (w : World) (v : Value) (l : List KV) : Prop := ValsAt w 3 v l.length (keysC l)
theorem KeysAt.one {w : World} {v : Value} {l : List KV} (h : KeysAt w v l) {j : Nat} {x : KV} (hj : l[j]? = some x) : ∃ g off c, v = .slice (some ⟨g, off, none⟩) l.length c ∧ ∀ i u, x.cells[i]? = some u → w.cell? ⟨g, off + (j * 3 + i), none⟩ = some u := by
  have hlt := (List.getElem?_eq_some_iff.mp hj).1
  obtain ⟨g, off, c, e, _, _, hc⟩ := ValsAt.cells h (by omega) (by omega)
  refine ⟨g, off, c, e, fun i u hu => hc _ _ ?_⟩
  have hi : i < 3 := (List.getElem?_eq_some_iff.mp hu).1
  rw [keysC_at l j i x hj hi]
  exact hu
structure KV.All (x : KV) : Prop where
  t : 0 ≤ x.typ ∧ x.typ < 256
  i : 0 ≤ x.id ∧ x.id < 4294967296
  a : 0 ≤ x.adv ∧ x.adv < 4294967296
def keyB (x : KV) : List Int := numBytes 4 x.typ ++ numBytes 4 x.id ++ numBytes 4 x.adv
theorem length_keyB (x : KV) : (keyB x).length = 12 := by simp [keyB, numBytes]
def keysB (l : List KV) : List Int := l.flatMap keyB
theorem keysB_snoc (l : List KV) (x : KV) : keysB (l ++ [x]) = keysB l ++ keyB x := by simp [keysB]
theorem length_keysB (l : List KV) : (keysB l).length = 12 * l.length := by
  induction l with
  | nil => rfl
  | cons x r ih => rw [show keysB (x :: r) = keyB x ++ keysB r by simp [keysB], List.length_append, ih, length_keyB, List.length_cons]; omega
structure KyR (Y : Nat → Prop) (wa : World) (b : Nat) (L : List Int) (ks : List KV) (k : Nat) (i : Value) (wx : World) : Prop where
  out : ∃ j : Nat, j ≤ ks.length ∧ k = ks.length - j ∧ i = .int .i64 (j : Int) ∧ WL Y wa wx b (L ++ keysB (ks.take j)) 65535

set_option maxHeartbeats 4000000 in
theorem pwreq_any (X : Nat → Prop) (b : Nat) (L : List Int) (P : PV) (ok : P.Ok) (vn vd vk vs vh : Value) (w : World) (hw : Wr X w b L 65535) (hL : L.length ≤ 65535) (ks : List KV) (hv : ∀ w', Kept X w w' → KeysAt w' vk ks) (oh : ∀ h ∈ ks, h.All) :
    Calls Tryz.prog 95 #[.agg #[.pointer (some ⟨b, 0, none⟩)], P.v vn vd vk vs vh] w fun e w' => PW X w b L (keysB ks) e w' := by
  obtain ⟨da, dc, rfl, hmx⟩ := ValsAt.form (hv w (Kept.refl _ _))
  obtain ⟨wa, hwa⟩ : ∃ wa, wa = (w.alloc (.cells #[.pointer (some ⟨b, 0, none⟩)] 114)).alloc (.cells #[.int .u8 P.typ, .int .u32 P.router, .int .u32 P.area, .int .u32 P.mask, .int .u16 P.iv, .int .u8 P.opts, .int .u8 P.prio, .int .u32 P.dead, .int .u32 P.dr, .int .u32 P.bdr, vn, .int .u16 P.mtu, .int .u8 P.dopts, .int .u8 P.dflags, .int .u32 P.dseq, vd, (.slice da ks.length dc), vs, vh] 33) := ⟨_, rfl⟩
  have ta : Touch (fun _ => False) w wa := by rw [hwa]; exact ((Touch.refl _ w).alloc _).alloc _
  have za : wa.heap.size = w.heap.size + 2 := by rw [hwa]; simp
  have ca : wa.cell? ⟨w.heap.size, 0, none⟩ = some (.pointer (some ⟨b, 0, none⟩)) := by rw [hwa]; simp [go_sem]
  have pa : Pd wa (w.heap.size + 1) P vn vd (.slice da ks.length dc) vs vh := by
    have := Pd.new (w.alloc (.cells #[.pointer (some ⟨b, 0, none⟩)] 114)) P vn vd (.slice da ks.length dc) vs vh 33
    rw [← hwa] at this
    simpa using this
  obtain ⟨Y, hY⟩ : ∃ Y : Nat → Prop, Y = fun k => X k ∨ (w.heap.size ≤ k ∧ k < wa.heap.size) := ⟨_, rfl⟩
  have ya : ∀ k, w.heap.size ≤ k → k < w.heap.size + 2 → Y k := by subst hY; exact fun k h1 h2 => Or.inr (by omega)
  have WA : Hid (Wr Y wa b L 65535) := by subst hY; exact hw.more ta (fun k hk => hk)
  have YX : Hid (∀ k, X k → Y k) := by subst hY; exact fun k hk => Or.inl hk
  have TA : Hid (Touch (fun _ => False) w wa) := ta
  have KX : Hid (∀ w', Kept Y wa w' → Kept X w w') := fun w' h => (Kept.of TA.out).trans (h.less (fun k _ hk => YX.out k hk))
  have c0 := hold_cell ca (ya _ (by dsimp only; omega) (by dsimp only; omega))
  have p16 := hold_cell pa.c16 (ya _ (by dsimp only; omega) (by dsimp only; omega))
  show Calls Tryz.prog 95 #[.agg #[.pointer (some ⟨b, 0, none⟩)], .agg #[.int .u8 P.typ, .int .u32 P.router, .int .u32 P.area, .int .u32 P.mask, .int .u16 P.iv, .int .u8 P.opts, .int .u8 P.prio, .int .u32 P.dead, .int .u32 P.dr, .int .u32 P.bdr, vn, .int .u16 P.mtu, .int .u8 P.dopts, .int .u8 P.dflags, .int .u32 P.dseq, vd, (.slice da ks.length dc), vs, vh]] w _
  have d0 := c0 wa ⟨Kept.refl _ _⟩
  have d16 := p16 wa ⟨Kept.refl _ _⟩
  have REL : Hid (KyR Y wa b L ks ks.length (.int .i64 0) wa) := ⟨0, by omega, by omega, rfl, ⟨⟨Kept.refl _ _⟩, by simpa [keysB] using WA.out, by simpa [keysB] using hL⟩⟩
  have HW : Hid (∀ w', Hold Y wa w' → KeysAt w' (.slice da ks.length dc) ks) := fun w' h => hv w' (KX.out w' h.k)
  have OK : Hid (∀ h ∈ ks, h.All) := oh
  have YA : Hid (Y w.heap.size) := ya _ (by omega) (by omega)
  have hmx' : (ks.length : Int) ≤ 9223372036854775807 := by unfold maxLen at hmx; omega
  clear hw hL hv oh ok ta za ca pa hY ya hmx p16
  go_enter Tryz.func95, Tryz.ntmps95
  go_wp2_with fail
  rw [← hwa]
  clear hwa
  clear d0 d16
  generalize w.heap.size = g1 at *
  go_loopg [9] ks.length (fun k i wx => KyR Y wa b L ks k i wx)
  case atStart => exact REL.out
  case round =>
    clear REL
    obtain ⟨k, hk, hgk, rfl, hwl⟩ := hrel.out
    have WLr : Hid (WL Y wa wr b (L ++ keysB (ks.take k)) 65535) := hwl
    have d0 := c0 _ hwl.k
    clear hwl hrel
    by_cases hlt : k < ks.length
    · have hlt' : (k : Int) < (ks.length : Int) := by omega
      have hk0 : (0 : Int) ≤ (k : Int) := by omega
      obtain ⟨x, hx⟩ : ∃ x, ks[k]? = some x := ⟨ks[k], by simp [hlt]⟩
      obtain ⟨gR, off, cR, eR, hcell⟩ := KeysAt.one (HW.out wr WLr.out.k) hx
      cases eR
      have e0 : wr.cell? ⟨gR, off + k * 3, none⟩ = some (.int .u8 x.typ) := by exact hcell 0 _ rfl
      have e1 : wr.cell? ⟨gR, off + k * 3 + 1, none⟩ = some (.int .u32 x.id) := by rw [Nat.add_assoc]; exact hcell 1 _ rfl
      have e2 : wr.cell? ⟨gR, off + k * 3 + 2, none⟩ = some (.int .u32 x.adv) := by rw [Nat.add_assoc]; exact hcell 2 _ rfl
      obtain ⟨⟨xt0, xt1⟩, ⟨xi0, xi1⟩, ⟨xa0, xa1⟩⟩ := OK.out x (List.mem_of_getElem? hx)
      have qx := wrap_u32 xt0 (by omega)
      have hkw : wrap64 ((k : Int) + 1) = (k : Int) + 1 := by unfold wrap64; omega
      have NO : Hid (∀ l : List Int, l.length ≤ (L ++ keysB (ks.take k)).length + 8 → 65535 < l.length + 4 → 65535 < L.length + (keysB ks).length) := by
        intro l h1 h2
        rw [List.length_append, length_keysB, List.length_take] at h1
        rw [length_keysB]
        omega
      have HN : Hid (L ++ keysB (ks.take (k + 1)) = (L ++ keysB (ks.take k)) ++ keyB x) := by show _ = _; rw [List.take_add_one, hx, show (some x).toList = [x] from rfl, keysB_snoc, List.append_assoc]
      clear hcell hx
      have t4 : Touch (fun _ => False) wr (wr.alloc (.cells #[.int .u8 x.typ, .int .u32 x.id, .int .u32 x.adv] 148)) := (Touch.refl _ _).alloc _
      have k0 : (wr.alloc (.cells #[.int .u8 x.typ, .int .u32 x.id, .int .u32 x.adv] 148)).cell? ⟨wr.heap.size, 0, none⟩ = some (.int .u8 x.typ) := by simp [go_sem]
      have k1 : (wr.alloc (.cells #[.int .u8 x.typ, .int .u32 x.id, .int .u32 x.adv] 148)).cell? ⟨wr.heap.size, 1, none⟩ = some (.int .u32 x.id) := by simp [go_sem]
      have k2 : (wr.alloc (.cells #[.int .u8 x.typ, .int .u32 x.id, .int .u32 x.adv] 148)).cell? ⟨wr.heap.size, 2, none⟩ = some (.int .u32 x.adv) := by simp [go_sem]
      have z4 : (wr.alloc (.cells #[.int .u8 x.typ, .int .u32 x.id, .int .u32 x.adv] 148)).heap.size = wr.heap.size + 1 := by simp
      go_upto_region 4 with fail
      generalize wr.alloc (.cells #[.int .u8 x.typ, .int .u32 x.id, .int .u32 x.adv] 148) = w4 at *
      obtain ⟨Y5, hY5⟩ : ∃ Y5 : Nat → Prop, Y5 = fun k => Y k ∨ (wr.heap.size ≤ k ∧ k < w4.heap.size) := ⟨_, rfl⟩
      have y5 : Y5 wr.heap.size := by subst hY5; exact Or.inr (by omega)
      have Y5Y : ∀ k, Y k → Y5 k := by subst hY5; exact fun k hk => Or.inl hk
      have W4 : WL Y5 w4 w4.drew b (L ++ keysB (ks.take k)) 65535 := ⟨⟨Kept.of ((Touch.refl _ _).drew)⟩, by subst hY5; exact (WLr.out.wr.more t4 (fun k hk => hk)).keep ((Touch.refl _ _).drew), WLr.out.le⟩
      have BK : Hid (∀ w', Hold Y5 w4 w' → Hold Y wa w') := fun w' h => ⟨WLr.out.k.k.trans ((Kept.of t4).trans (h.k.less (fun k _ hk => Y5Y k hk)))⟩
      have LS : Hid (∀ w' l, Wr Y5 w' b l 65535 → Wr Y w' b l 65535) := fun w' l h => h.less Y5Y
      have d1 := hold_cell (t4.cellN d0) (Y5Y _ YA.out)
      have h0 := hold_cell k0 y5
      have h1 := hold_cell k1 y5
      have h2 := hold_cell k2 y5
      have s4 := W4.k
      clear hY5 y5 Y5Y t4 d0 k0 k1 k2 z4 WLr e0 e1 e2
      generalize wr.heap.size = g5 at *
      generalize L ++ keysB (ks.take k) = LL at *
      go_region_held2 (fun w' => Hold Y5 w4 w') (with_reducible assumption) (first
        | (go_at_call 92; refine Calls.mono (pnum_or _ (by assumption) (by omega) (by omega)) ?_; rintro e w6 (⟨rfl, h6⟩ | ⟨rfl, l6, s6⟩); rotate_left; exact ⟨rfl, ⟨Or.inr ⟨rfl, NO.out _ (by simp [numBytes]) l6, KX.out _ (BK.out _ s6).k⟩⟩⟩; have s6 := h6.k))
      have W7 : Hid (WL Y wa w6 b (LL ++ keyB x) 65535) := ⟨BK.out _ s6, by have := LS.out _ _ h6.wr; simpa [keyB, List.append_assoc] using this, by have := h6.le; simpa [keyB, List.append_assoc] using this⟩
      clear s6 h6 W4 s4 d1 h0 h1 h2
      go_wp2_with fail
      go_roundg (ks.length - (k + 1))
      case measure => omega
      case rel => exact ⟨k + 1, by omega, by omega, by go_num, by rw [HN.out]; exact W7.out⟩
    · obtain rfl : k = ks.length := by omega
      have W5 : Hid (WL Y wa wr b (L ++ keysB ks) 65535) := by have := WLr.out; rwa [List.take_length] at this
      clear WLr
      go_wp2_with fail
      go_end0
      exact ⟨Or.inl ⟨rfl, by have := W5.out.le; rwa [List.length_append] at this, W5.out.wr.less YX.out, KX.out _ W5.out.k.k⟩⟩
end Go.Proofs.YtjjgbcjgmjggnaaGreat
