/- Package packet's writer: a round of writing in which two bytes are made at some time; description. -/
import Derived.Test.YtjgeklipeeooaaaGreatDoorPkAck
import Derived.Deep.RegionHeld3
import Derived.Deep.DeepCutAuto
import Derived.Test.YtjgeklipeeooaaaGreatDoorStaOut
namespace Go.Proofs.YtjgeklipeeooaaaGreatDoor
open Go.RowKit
set_option linter.unusedVariables false
set_option maxRecDepth 100000

/-- A writer that holds L; and, when they were made, two bytes in a block that is not its own. -/
structure WG (Y : Nat → Prop) (x w : World) (b : Nat) (L : List Int) (m : Nat) (o : Option (Nat × Int × Int)) : Prop where
  k : Hold Y x w
  le : L.length ≤ m
  out : ∃ Z : Nat → Prop, (∀ k, Y k → Z k) ∧ Wr Z w b L 65535 ∧ ∀ g a c, o = some (g, a, c) → Z g ∧ w.cell? ⟨g, 0, none⟩ = some (.int .u8 a) ∧ w.cell? ⟨g, 1, none⟩ = some (.int .u8 c)
theorem WL.wg {Y : Nat → Prop} {x w : World} {b : Nat} {L : List Int} {m : Nat} (h : WL Y x w b L m) : WG Y x w b L m none := ⟨h.k, h.le, Y, fun _ h => h, h.wr, fun _ _ _ h => by cases h⟩
theorem WG.wl {Y : Nat → Prop} {x w : World} {b : Nat} {L : List Int} {m : Nat} {o : Option (Nat × Int × Int)} (h : WG Y x w b L m o) : WL Y x w b L m := by
  obtain ⟨Z, hz, hw, _⟩ := h.out
  exact ⟨h.k, hw.less hz, h.le⟩
theorem WG.new {Y : Nat → Prop} {x w : World} {b : Nat} {L : List Int} {m : Nat} (h : WG Y x w b L m none) (a c : Int) (t : TypeId) : WG Y x (w.alloc (.cells #[.int .u8 a, .int .u8 c] t)) b L m (some (w.heap.size, a, c)) := by
  obtain ⟨Z, hz, hw, _⟩ := h.out
  have ta : Touch (fun _ => False) w (w.alloc (.cells #[.int .u8 a, .int .u8 c] t)) := (Touch.refl _ _).alloc _
  refine ⟨h.k.step ta, h.le, fun k => Z k ∨ (w.heap.size ≤ k ∧ k < (w.alloc (.cells #[.int .u8 a, .int .u8 c] t)).heap.size), fun k hk => Or.inl (hz k hk), hw.more ta (fun k hk => hk), ?_⟩
  intro g a' c' e
  cases e
  exact ⟨Or.inr ⟨Nat.le_refl _, by simp⟩, by simp [go_sem], by simp [go_sem]⟩
theorem pnum_g (n : Int) (hn : n = 1 ∨ n = 2 ∨ n = 4) {Y : Nat → Prop} {x0 w : World} {b : Nat} {L : List Int} {m : Nat} {o : Option (Nat × Int × Int)} (x : Int) (h : WG Y x0 w b L m o) (h0 : 0 ≤ x) (hx : x < numTop n) (hm : m + n.toNat ≤ 65535) :
    Calls Tryz.prog 125 #[.agg #[.pointer (some ⟨b, 0, none⟩)], .int .u32 x, .int .i64 n] w fun e w' => e = .returned (.agg #[.pointer (some ⟨b, 0, none⟩)]) ∧ WG Y x0 w' b (L ++ numBytes n.toNat x) (m + n.toNat) o := by
  obtain ⟨hk, hl, Z, hz, hw, ho⟩ := h
  refine (pnum_i n hn (Y := Z) (x0 := w) (m := m) x ⟨⟨Kept.refl _ _⟩, hw, hl⟩ h0 hx hm).mono ?_
  rintro e w' ⟨rfl, h'⟩
  refine ⟨rfl, ⟨hk.k.trans (h'.k.k.less (fun k _ q => hz k q))⟩, h'.le, Z, hz, h'.wr, ?_⟩
  intro g a c e
  obtain ⟨q0, q1, q2⟩ := ho g a c e
  exact ⟨q0, h'.k.k.cell q1 q0, h'.k.k.cell q2 q0⟩
theorem pput_g {Y : Nat → Prop} {x0 w : World} {b : Nat} {L : List Int} {m : Nat} {g : Nat} {a c : Int} (h : WG Y x0 w b L m (some (g, a, c))) (hm : m + 2 ≤ 65535) :
    Calls Tryz.prog 124 #[.agg #[.pointer (some ⟨b, 0, none⟩)], .slice (some ⟨g, 0, none⟩) 2 2] w fun e w' => e = .returned (.agg #[.pointer (some ⟨b, 0, none⟩)]) ∧ WG Y x0 w' b (L ++ [a, c]) (m + 2) none := by
  have hq := h.wl
  obtain ⟨hk, hl, Z, hz, hw, ho⟩ := h
  obtain ⟨q0, q1, q2⟩ := ho g a c rfl
  refine (pput_i _ [a, c] hq (two_arg q1 q2) hm).mono ?_
  rintro e w' ⟨rfl, h'⟩
  exact ⟨rfl, h'.wg⟩
/-- What a description's first eight bytes are. -/
def descB (P : PV) : List Int := numBytes 2 P.mtu ++ [P.dopts, P.dflags] ++ numBytes 4 P.dseq
theorem length_descB (P : PV) : (descB P).length = 8 := by simp [descB, numBytes]
theorem PW.pre {X : Nat → Prop} {w wa w' : World} {b : Nat} {L p l : List Int} {e : Ending} (h : PW X wa b (L ++ p) l e w') (KX : Kept X w wa) : PW X w b L (p ++ l) e w' := by
  rcases h.out with ⟨h1, h2, h3, h4⟩ | ⟨h1, h2, h3⟩
  · exact ⟨Or.inl ⟨h1, by simp only [List.length_append] at h2 ⊢; omega, by rw [← List.append_assoc]; exact h3, KX.trans h4⟩⟩
  · exact ⟨Or.inr ⟨h1, by simp only [List.length_append] at h2 ⊢; omega, KX.trans h3⟩⟩

set_option maxHeartbeats 4000000 in
theorem pwdesc_any (X : Nat → Prop) (b : Nat) (L : List Int) (P : PV) (ok : P.Ok) (vn vd vk vs vh : Value) (w : World) (hw : Wr X w b L 65535) (hL : L.length ≤ 24) (hs : List HV) (hv : ∀ w', Kept X w w' → HeadsAt w' vd hs) (oh : ∀ h ∈ hs, h.All) :
    Calls Tryz.prog 127 #[.agg #[.pointer (some ⟨b, 0, none⟩)], P.v vn vd vk vs vh] w fun e w' => PW X w b L (descB P ++ headsB hs) e w' := by
  obtain ⟨da, dc, rfl, -⟩ := ValsAt.form (hv w (Kept.refl _ _))
  obtain ⟨wa, hwa⟩ : ∃ wa, wa = (w.alloc (.cells #[.pointer (some ⟨b, 0, none⟩)] 137)).alloc (.cells #[.int .u8 P.typ, .int .u32 P.router, .int .u32 P.area, .int .u32 P.mask, .int .u16 P.iv, .int .u8 P.opts, .int .u8 P.prio, .int .u32 P.dead, .int .u32 P.dr, .int .u32 P.bdr, vn, .int .u16 P.mtu, .int .u8 P.dopts, .int .u8 P.dflags, .int .u32 P.dseq, (.slice da hs.length dc), vk, vs, vh] 33) := ⟨_, rfl⟩
  have ta : Touch (fun _ => False) w wa := by rw [hwa]; exact ((Touch.refl _ w).alloc _).alloc _
  have za : wa.heap.size = w.heap.size + 2 := by rw [hwa]; simp
  have ca : wa.cell? ⟨w.heap.size, 0, none⟩ = some (.pointer (some ⟨b, 0, none⟩)) := by rw [hwa]; simp [go_sem]
  have pa : Pd wa (w.heap.size + 1) P vn (.slice da hs.length dc) vk vs vh := by
    have := Pd.new (w.alloc (.cells #[.pointer (some ⟨b, 0, none⟩)] 137)) P vn (.slice da hs.length dc) vk vs vh 33
    rw [← hwa] at this
    simpa using this
  obtain ⟨Y, hY⟩ : ∃ Y : Nat → Prop, Y = fun k => X k ∨ (w.heap.size ≤ k ∧ k < wa.heap.size) := ⟨_, rfl⟩
  have ya : ∀ k, w.heap.size ≤ k → k < w.heap.size + 2 → Y k := by subst hY; exact fun k h1 h2 => Or.inr (by omega)
  have WA : Hid (Wr Y wa b L 65535) := by subst hY; exact hw.more ta (fun k hk => hk)
  have YX : Hid (∀ k, X k → Y k) := by subst hY; exact fun k hk => Or.inl hk
  have TA : Hid (Touch (fun _ => False) w wa) := ta
  have KX : Hid (∀ w', Kept Y wa w' → Kept X w w') := fun w' h => (Kept.of TA.out).trans (h.less (fun k _ hk => YX.out k hk))
  have c0 := hold_cell ca (ya _ (by dsimp only; omega) (by dsimp only; omega))
  have p11 := hold_cell pa.c11 (ya _ (by dsimp only; omega) (by dsimp only; omega))
  have p12 := hold_cell pa.c12 (ya _ (by dsimp only; omega) (by dsimp only; omega))
  have p13 := hold_cell pa.c13 (ya _ (by dsimp only; omega) (by dsimp only; omega))
  have p14 := hold_cell pa.c14 (ya _ (by dsimp only; omega) (by dsimp only; omega))
  have p15 := hold_cell pa.c15 (ya _ (by dsimp only; omega) (by dsimp only; omega))
  show Calls Tryz.prog 127 #[.agg #[.pointer (some ⟨b, 0, none⟩)], .agg #[.int .u8 P.typ, .int .u32 P.router, .int .u32 P.area, .int .u32 P.mask, .int .u16 P.iv, .int .u8 P.opts, .int .u8 P.prio, .int .u32 P.dead, .int .u32 P.dr, .int .u32 P.bdr, vn, .int .u16 P.mtu, .int .u8 P.dopts, .int .u8 P.dflags, .int .u32 P.dseq, (.slice da hs.length dc), vk, vs, vh]] w _
  obtain ⟨om0, om1⟩ := ok.mtu
  obtain ⟨os0, os1⟩ := ok.dseq
  have qm := wrap_u32 om0 (by omega)
  have d0 := c0 wa ⟨Kept.refl _ _⟩
  have d11 := p11 wa ⟨Kept.refl _ _⟩
  have d12 := p12 wa ⟨Kept.refl _ _⟩
  have d13 := p13 wa ⟨Kept.refl _ _⟩
  have d14 := p14 wa ⟨Kept.refl _ _⟩
  have d15 := p15 wa ⟨Kept.refl _ _⟩
  obtain ⟨wb, hwb⟩ : ∃ wb, wb = wa.alloc (.cells #[.int .u16 P.mtu, .int .u8 P.dopts, .int .u8 P.dflags, .int .u32 P.dseq, (.slice da hs.length dc)] 29) := ⟨_, rfl⟩
  have tb : Touch (fun _ => False) wa wb := by rw [hwb]; exact (Touch.refl _ _).alloc _
  have zb : wb.heap.size = wa.heap.size + 1 := by rw [hwb]; simp
  have cb0 : wb.cell? ⟨w.heap.size + 1 + 1, 0, none⟩ = some (.int .u16 P.mtu) := by rw [hwb, show w.heap.size + 1 + 1 = wa.heap.size by omega]; simp [go_sem]
  have cb1 : wb.cell? ⟨w.heap.size + 1 + 1, 1, none⟩ = some (.int .u8 P.dopts) := by rw [hwb, show w.heap.size + 1 + 1 = wa.heap.size by omega]; simp [go_sem]
  have cb2 : wb.cell? ⟨w.heap.size + 1 + 1, 2, none⟩ = some (.int .u8 P.dflags) := by rw [hwb, show w.heap.size + 1 + 1 = wa.heap.size by omega]; simp [go_sem]
  have cb3 : wb.cell? ⟨w.heap.size + 1 + 1, 3, none⟩ = some (.int .u32 P.dseq) := by rw [hwb, show w.heap.size + 1 + 1 = wa.heap.size by omega]; simp [go_sem]
  have cb4 : wb.cell? ⟨w.heap.size + 1 + 1, 4, none⟩ = some ((.slice da hs.length dc)) := by rw [hwb, show w.heap.size + 1 + 1 = wa.heap.size by omega]; simp [go_sem]
  obtain ⟨V, hV⟩ : ∃ V : Nat → Prop, V = fun k => Y k ∨ (wa.heap.size ≤ k ∧ k < wb.heap.size) := ⟨_, rfl⟩
  have vb : V (w.heap.size + 1 + 1) := by subst hV; exact Or.inr (by omega)
  have VY : Hid (∀ k, Y k → V k) := by subst hV; exact fun k hk => Or.inl hk
  have VX : Hid (∀ k, X k → V k) := fun k hk => VY.out k (YX.out k hk)
  have KV : Hid (∀ w', Hold V wb w' → Kept X w w') := fun w' h => KX.out _ ((Kept.of tb).trans (h.k.less (fun k _ hk => VY.out k hk)))
  have WB : WG V wb wb.drew b L 24 none := WL.wg ⟨⟨Kept.of ((Touch.refl _ _).drew)⟩, by subst hV; exact (WA.out.more tb (fun k hk => hk)).keep ((Touch.refl _ _).drew), hL⟩
  have b0 := hold_cell (tb.cellN d0) (VY.out _ (ya _ (by dsimp only; omega) (by dsimp only; omega)))
  have b1 := hold_cell cb0 vb
  have b2 := hold_cell cb1 vb
  have b3 := hold_cell cb2 vb
  have b4 := hold_cell cb3 vb
  have b5 := hold_cell cb4 vb
  have HH : Hid (∀ w1, Hold V wb w1 → WL V wb w1 b (L ++ descB P) 32 → Calls Tryz.prog 159 #[.agg #[.pointer (some ⟨b, 0, none⟩)], (.slice da hs.length dc)] w1 fun e w' => PW V w1 b (L ++ descB P) (headsB hs) e w') := fun w1 k1 h1 => pwheads_any V b (L ++ descB P) hs (.slice da hs.length dc) w1 h1.wr (by have := h1.le; omega) (fun w' h => hv w' (KV.out w' ⟨k1.k.trans h⟩)) oh
  have st := WB.k
  clear hw ta za ca pa hY ya c0 p11 p12 p13 p14 p15 hv oh ok hL tb zb hV vb cb0 cb1 cb2 cb3 cb4
  go_enter Tryz.func127, Tryz.ntmps127
  go_upto_region 2 with fail
  rw [← hwa]
  clear hwa
  rw [← hwb]
  clear hwb d0 d11 d12 d13 d14 d15
  generalize w.heap.size + 1 + 1 = g3 at *
  generalize w.heap.size + 1 = g2 at *
  generalize w.heap.size = g1 at *
  go_region_held3 (fun w' => Hold V wb w') (first | with_reducible assumption | exact Hold.step (by assumption) ((Touch.refl _ _).alloc _)) (first
    | (go_at_call 124; refine Calls.mono (pput_g (a := P.dopts) (c := P.dflags) (by first | assumption | exact WG.new (by assumption) _ _ _) (by simp)) ?_; rintro e wx ⟨rfl, hx⟩; have sx := hx.k)
    | (go_at_call 125; refine Calls.mono (pnum_g _ (by omega) _ (by first | assumption | exact WG.new (by assumption) _ _ _) (by omega) (by simp [numTop] <;> omega) (by simp)) ?_; rintro e wx ⟨rfl, hx⟩; have sx := hx.k))
  all_goals
    have W7 : WL V wb wx b (L ++ descB P) 32 := by
      have := hx.wl
      simpa [descB, List.append_assoc] using this
    have e0 := b0 _ sx
    have e5 := b5 _ sx
    have HC := HH.out _ sx W7
    have KW := KV.out _ sx
    clear W7 hx sx b0 b1 b2 b3 b4 b5
    go_wp2_with fail
    refine Calls.mono HC ?_
    intro e w9 h9
    have Q : Hid (PW X w b L (descB P ++ headsB hs) e w9) := PW.pre (h9.back VX.out (fun k => k.less (fun i _ hi => VX.out i hi))) KW
    rcases h9.out with ⟨rfl, -, -, -⟩ | ⟨rfl, -, -⟩
    · clear h9 HC e0 e5
      go_wp2
      go_end0
      exact Q.out
    · exact ⟨rfl, Q.out⟩
end Go.Proofs.YtjgeklipeeooaaaGreatDoor

namespace Go.Proofs.YtjgeklipeeooaaaGreatDoor
open Go.RowKit
set_option linter.unusedVariables false
set_option maxRecDepth 100000

theorem pnum_or {Y : Nat → Prop} {x0 w : World} {b : Nat} {L : List Int} (x : Int) (h : WL Y x0 w b L 65535) (h0 : 0 ≤ x) (hx : x < 4294967296) :
    Calls Tryz.prog 125 #[.agg #[.pointer (some ⟨b, 0, none⟩)], .int .u32 x, .int .i64 4] w fun e w' => (e = .returned (.agg #[.pointer (some ⟨b, 0, none⟩)]) ∧ WL Y x0 w' b (L ++ numBytes 4 x) 65535) ∨ (e = .panicked (pflawC 11) ∧ 65535 < L.length + 4 ∧ Hold Y x0 w') := by
  have hL := h.le
  by_cases hl : L.length + 4 ≤ 65535
  · refine (pwnum_ok 4 (by omega) x Y b L w h.wr (by omega) ⟨h0, by omega⟩ hl).mono ?_
    rintro e w' ⟨rfl, h', k'⟩
    exact Or.inl ⟨rfl, ⟨⟨h.k.k.trans k'⟩, h', by rw [List.length_append, length_numBytes (by omega)]; omega⟩⟩
  · refine (pwnum_no 4 (by omega) x Y b L w h.wr (by omega) ⟨h0, by omega⟩ (by omega)).mono ?_
    rintro e w' ⟨rfl, k'⟩
    exact Or.inr ⟨rfl, by omega, ⟨h.k.k.trans k'⟩⟩
def wordsB (l : List Int) : List Int := l.flatMap (numBytes 4)
theorem wordsB_snoc (l : List Int) (x : Int) : wordsB (l ++ [x]) = wordsB l ++ numBytes 4 x := by simp [wordsB]
theorem length_wordsB (l : List Int) : (wordsB l).length = 4 * l.length := by
  induction l with
  | nil => rfl
  | cons x r ih => rw [show wordsB (x :: r) = numBytes 4 x ++ wordsB r by simp [wordsB], List.length_append, ih, length_numBytes (by omega), List.length_cons]; omega
def helloB (P : PV) : List Int := numBytes 4 P.mask ++ numBytes 2 P.iv ++ [P.opts, P.prio] ++ numBytes 4 P.dead ++ numBytes 4 P.dr ++ numBytes 4 P.bdr
theorem length_helloB (P : PV) : (helloB P).length = 20 := by simp [helloB, numBytes]
/-- The loop of neighbours. -/
structure NbR (Y : Nat → Prop) (wa : World) (b : Nat) (L : List Int) (ns : List Int) (k : Nat) (i : Value) (wx : World) : Prop where
  out : ∃ j : Nat, j ≤ ns.length ∧ k = ns.length - j ∧ i = .int .i64 (j : Int) ∧ WL Y wa wx b (L ++ wordsB (ns.take j)) 65535

set_option maxHeartbeats 4000000 in
theorem pwhello_any (X : Nat → Prop) (b : Nat) (L : List Int) (P : PV) (ok : P.Ok) (vn vd vk vs vh : Value) (w : World) (hw : Wr X w b L 65535) (hL : L.length ≤ 24) (ns : List Int) (hv : ∀ w', Kept X w w' → WordsAt w' vn ns) (on : ∀ x ∈ ns, 0 ≤ x ∧ x < 4294967296) :
    Calls Tryz.prog 126 #[.agg #[.pointer (some ⟨b, 0, none⟩)], P.v vn vd vk vs vh] w fun e w' => PW X w b L (helloB P ++ wordsB ns) e w' := by
  obtain ⟨da, dc, rfl, hmx⟩ := ValsAt.form (hv w (Kept.refl _ _))
  obtain ⟨wa, hwa⟩ : ∃ wa, wa = (w.alloc (.cells #[.pointer (some ⟨b, 0, none⟩)] 137)).alloc (.cells #[.int .u8 P.typ, .int .u32 P.router, .int .u32 P.area, .int .u32 P.mask, .int .u16 P.iv, .int .u8 P.opts, .int .u8 P.prio, .int .u32 P.dead, .int .u32 P.dr, .int .u32 P.bdr, (.slice da ns.length dc), .int .u16 P.mtu, .int .u8 P.dopts, .int .u8 P.dflags, .int .u32 P.dseq, vd, vk, vs, vh] 33) := ⟨_, rfl⟩
  have ta : Touch (fun _ => False) w wa := by rw [hwa]; exact ((Touch.refl _ w).alloc _).alloc _
  have za : wa.heap.size = w.heap.size + 2 := by rw [hwa]; simp
  have ca : wa.cell? ⟨w.heap.size, 0, none⟩ = some (.pointer (some ⟨b, 0, none⟩)) := by rw [hwa]; simp [go_sem]
  have pa : Pd wa (w.heap.size + 1) P (.slice da ns.length dc) vd vk vs vh := by
    have := Pd.new (w.alloc (.cells #[.pointer (some ⟨b, 0, none⟩)] 137)) P (.slice da ns.length dc) vd vk vs vh 33
    rw [← hwa] at this
    simpa using this
  obtain ⟨Y, hY⟩ : ∃ Y : Nat → Prop, Y = fun k => X k ∨ (w.heap.size ≤ k ∧ k < wa.heap.size) := ⟨_, rfl⟩
  have ya : ∀ k, w.heap.size ≤ k → k < w.heap.size + 2 → Y k := by subst hY; exact fun k h1 h2 => Or.inr (by omega)
  have WA : Hid (Wr Y wa b L 65535) := by subst hY; exact hw.more ta (fun k hk => hk)
  have YX : Hid (∀ k, X k → Y k) := by subst hY; exact fun k hk => Or.inl hk
  have TA : Hid (Touch (fun _ => False) w wa) := ta
  have KX : Hid (∀ w', Kept Y wa w' → Kept X w w') := fun w' h => (Kept.of TA.out).trans (h.less (fun k _ hk => YX.out k hk))
  have c0 := hold_cell ca (ya _ (by dsimp only; omega) (by dsimp only; omega))
  have p3 := hold_cell pa.c3 (ya _ (by dsimp only; omega) (by dsimp only; omega))
  have p4 := hold_cell pa.c4 (ya _ (by dsimp only; omega) (by dsimp only; omega))
  have p5 := hold_cell pa.c5 (ya _ (by dsimp only; omega) (by dsimp only; omega))
  have p6 := hold_cell pa.c6 (ya _ (by dsimp only; omega) (by dsimp only; omega))
  have p7 := hold_cell pa.c7 (ya _ (by dsimp only; omega) (by dsimp only; omega))
  have p8 := hold_cell pa.c8 (ya _ (by dsimp only; omega) (by dsimp only; omega))
  have p9 := hold_cell pa.c9 (ya _ (by dsimp only; omega) (by dsimp only; omega))
  have p10 := hold_cell pa.c10 (ya _ (by dsimp only; omega) (by dsimp only; omega))
  show Calls Tryz.prog 126 #[.agg #[.pointer (some ⟨b, 0, none⟩)], .agg #[.int .u8 P.typ, .int .u32 P.router, .int .u32 P.area, .int .u32 P.mask, .int .u16 P.iv, .int .u8 P.opts, .int .u8 P.prio, .int .u32 P.dead, .int .u32 P.dr, .int .u32 P.bdr, (.slice da ns.length dc), .int .u16 P.mtu, .int .u8 P.dopts, .int .u8 P.dflags, .int .u32 P.dseq, vd, vk, vs, vh]] w _
  obtain ⟨om0, om1⟩ := ok.mask
  obtain ⟨oi0, oi1⟩ := ok.iv
  obtain ⟨od0, od1⟩ := ok.dead
  obtain ⟨or0, or1⟩ := ok.dr
  obtain ⟨ob0, ob1⟩ := ok.bdr
  have qm := wrap_u32 oi0 (by omega)
  have d0 := c0 wa ⟨Kept.refl _ _⟩
  have d3 := p3 wa ⟨Kept.refl _ _⟩
  have d4 := p4 wa ⟨Kept.refl _ _⟩
  have d5 := p5 wa ⟨Kept.refl _ _⟩
  have d6 := p6 wa ⟨Kept.refl _ _⟩
  have d7 := p7 wa ⟨Kept.refl _ _⟩
  have d8 := p8 wa ⟨Kept.refl _ _⟩
  have d9 := p9 wa ⟨Kept.refl _ _⟩
  have d10 := p10 wa ⟨Kept.refl _ _⟩
  obtain ⟨wb, hwb⟩ : ∃ wb, wb = wa.alloc (.cells #[.int .u32 P.mask, .int .u16 P.iv, .int .u8 P.opts, .int .u8 P.prio, .int .u32 P.dead, .int .u32 P.dr, .int .u32 P.bdr, (.slice da ns.length dc)] 26) := ⟨_, rfl⟩
  have tb : Touch (fun _ => False) wa wb := by rw [hwb]; exact (Touch.refl _ _).alloc _
  have zb : wb.heap.size = wa.heap.size + 1 := by rw [hwb]; simp
  have cb0 : wb.cell? ⟨w.heap.size + 1 + 1, 0, none⟩ = some (.int .u32 P.mask) := by rw [hwb, show w.heap.size + 1 + 1 = wa.heap.size by omega]; simp [go_sem]
  have cb1 : wb.cell? ⟨w.heap.size + 1 + 1, 1, none⟩ = some (.int .u16 P.iv) := by rw [hwb, show w.heap.size + 1 + 1 = wa.heap.size by omega]; simp [go_sem]
  have cb2 : wb.cell? ⟨w.heap.size + 1 + 1, 2, none⟩ = some (.int .u8 P.opts) := by rw [hwb, show w.heap.size + 1 + 1 = wa.heap.size by omega]; simp [go_sem]
  have cb3 : wb.cell? ⟨w.heap.size + 1 + 1, 3, none⟩ = some (.int .u8 P.prio) := by rw [hwb, show w.heap.size + 1 + 1 = wa.heap.size by omega]; simp [go_sem]
  have cb4 : wb.cell? ⟨w.heap.size + 1 + 1, 4, none⟩ = some (.int .u32 P.dead) := by rw [hwb, show w.heap.size + 1 + 1 = wa.heap.size by omega]; simp [go_sem]
  have cb5 : wb.cell? ⟨w.heap.size + 1 + 1, 5, none⟩ = some (.int .u32 P.dr) := by rw [hwb, show w.heap.size + 1 + 1 = wa.heap.size by omega]; simp [go_sem]
  have cb6 : wb.cell? ⟨w.heap.size + 1 + 1, 6, none⟩ = some (.int .u32 P.bdr) := by rw [hwb, show w.heap.size + 1 + 1 = wa.heap.size by omega]; simp [go_sem]
  have cb7 : wb.cell? ⟨w.heap.size + 1 + 1, 7, none⟩ = some ((.slice da ns.length dc)) := by rw [hwb, show w.heap.size + 1 + 1 = wa.heap.size by omega]; simp [go_sem]
  obtain ⟨V, hV⟩ : ∃ V : Nat → Prop, V = fun k => Y k ∨ (wa.heap.size ≤ k ∧ k < wb.heap.size) := ⟨_, rfl⟩
  have vb : V (w.heap.size + 1 + 1) := by subst hV; exact Or.inr (by omega)
  have VY : Hid (∀ k, Y k → V k) := by subst hV; exact fun k hk => Or.inl hk
  have VX : Hid (∀ k, X k → V k) := fun k hk => VY.out k (YX.out k hk)
  have KV : Hid (∀ w', Hold V wb w' → Kept X w w') := fun w' h => KX.out _ ((Kept.of tb).trans (h.k.less (fun k _ hk => VY.out k hk)))
  have WB : WG V wb wb.drew b L 24 none := WL.wg ⟨⟨Kept.of ((Touch.refl _ _).drew)⟩, by subst hV; exact (WA.out.more tb (fun k hk => hk)).keep ((Touch.refl _ _).drew), hL⟩
  have b0 := hold_cell (tb.cellN d0) (VY.out _ (ya _ (by dsimp only; omega) (by dsimp only; omega)))
  have b1 := hold_cell cb0 vb
  have b2 := hold_cell cb1 vb
  have b3 := hold_cell cb2 vb
  have b4 := hold_cell cb3 vb
  have b5 := hold_cell cb4 vb
  have b6 := hold_cell cb5 vb
  have b7 := hold_cell cb6 vb
  have b8 := hold_cell cb7 vb
  have HW : Hid (∀ w', Hold V wb w' → WordsAt w' (.slice da ns.length dc) ns) := fun w' h => hv w' (KV.out w' h)
  have ON : Hid (∀ x ∈ ns, 0 ≤ x ∧ x < 4294967296) := on
  have hmx' : (ns.length : Int) ≤ 9223372036854775807 := by unfold maxLen at hmx; omega
  have HLL : Hid (L.length ≤ 24) := hL
  have st := WB.k
  clear hw ta za ca pa hY ya c0 p3 p4 p5 p6 p7 p8 p9 p10 hv on ok hL tb zb hV vb hmx cb0 cb1 cb2 cb3 cb4 cb5 cb6 cb7
  go_enter Tryz.func126, Tryz.ntmps126
  go_upto_region 2 with fail
  rw [← hwa]
  clear hwa
  rw [← hwb]
  clear hwb d0 d3 d4 d5 d6 d7 d8 d9 d10
  generalize w.heap.size + 1 + 1 = g3 at *
  generalize w.heap.size + 1 = g2 at *
  generalize w.heap.size = g1 at *
  go_region_held3 (fun w' => Hold V wb w') (first | with_reducible assumption | exact Hold.step (by assumption) ((Touch.refl _ _).alloc _)) (first
    | (go_at_call 124; refine Calls.mono (pput_g (a := P.opts) (c := P.prio) (by first | assumption | exact WG.new (by assumption) _ _ _) (by simp)) ?_; rintro e wx ⟨rfl, hx⟩; have sx := hx.k)
    | (go_at_call 125; refine Calls.mono (pnum_g _ (by omega) _ (by first | assumption | exact WG.new (by assumption) _ _ _) (by omega) (by simp [numTop] <;> omega) (by simp)) ?_; rintro e wx ⟨rfl, hx⟩; have sx := hx.k))
  all_goals
    have WC : WL V wb wx.drew b (L ++ (numBytes 4 P.mask ++ numBytes 2 P.iv ++ [P.opts, P.prio])) 32 := by
      have := hx.wl.step ((Touch.refl _ _).drew)
      simpa [List.append_assoc] using this
    have s2 := WC.k
    clear hx sx
    go_upto_region 3 with fail
    go_region_held3 (fun w' => Hold V wb w') (with_reducible assumption) (first
      | (go_at_call 125; refine Calls.mono (pnum_i _ (by omega) _ (by assumption) (by omega) (by simp [numTop] <;> omega) (by simp)) ?_; rintro e wy ⟨rfl, hy⟩; have sy := hy.k))
    have WD : WL V wb wy b (L ++ helloB P) 44 := by
      have := hy.wr
      refine ⟨sy, by simpa [helloB, List.append_assoc] using this, ?_⟩
      have := HLL.out
      rw [List.length_append, length_helloB]
      omega
    have e0 := b0 _ sy
    have e8 := b8 _ sy
    have REL : Hid (NbR V wb b (L ++ helloB P) ns ns.length (.int .i64 0) wy) := ⟨0, by omega, by omega, rfl, ⟨sy, by simpa [wordsB] using WD.wr, by have := WD.le; simp [wordsB] at this ⊢; omega⟩⟩
    have KW := KV.out _ sy
    clear WC s2 hy WD b1 b2 b3 b4 b5 b6 b7 b8
    go_wp2_with fail
    clear e0 e8 WB st om0 om1 oi0 oi1 od0 od1 or0 or1 ob0 ob1 qm KW HLL sy WA YX TA KX VY
    go_loopg [36] ns.length (fun k i wz => NbR V wb b (L ++ helloB P) ns k i wz)
    case atStart => exact REL.out
    case round =>
      clear REL
      obtain ⟨k, hk, hgk, rfl, hwl⟩ := hrel.out
      have WLr : Hid (WL V wb wr b ((L ++ helloB P) ++ wordsB (ns.take k)) 65535) := hwl
      have f0 := b0 _ hwl.k
      have KR := KV.out _ hwl.k
      clear hwl
      by_cases hlt : k < ns.length
      · have hlt' : (k : Int) < (ns.length : Int) := by omega
        have hk0 : (0 : Int) ≤ (k : Int) := by omega
        obtain ⟨x, hx⟩ : ∃ x, ns[k]? = some x := ⟨ns[k], by simp [hlt]⟩
        obtain ⟨gR, off, cR, eR, hc1, hc2, hcell⟩ := ValsAt.cells (HW.out wr WLr.out.k) (by omega) (by omega)
        cases eR
        have hc := hcell k (.int .u32 x) (by simp [wordsC, hx])
        have hxr := ON.out x (List.mem_of_getElem? hx)
        have NO : Hid (65535 < ((L ++ helloB P) ++ wordsB (ns.take k)).length + 4 → 65535 < L.length + (helloB P ++ wordsB ns).length) := by
          intro h
          rw [List.length_append, List.length_append, length_wordsB, List.length_take] at h
          rw [List.length_append, length_wordsB]
          omega
        have HN : Hid ((L ++ helloB P) ++ wordsB (ns.take (k + 1)) = ((L ++ helloB P) ++ wordsB (ns.take k)) ++ numBytes 4 x) := by show _ = _; rw [List.take_add_one, hx, show (some x).toList = [x] from rfl, wordsB_snoc, List.append_assoc _ (wordsB _)]
        have hkw : wrap64 ((k : Int) + 1) = (k : Int) + 1 := by unfold wrap64; omega
        clear hcell hx hc1 hc2
        generalize (L ++ helloB P) ++ wordsB (ns.take k) = LL at *
        go_wp2_with fail
        refine Calls.mono (pnum_or x WLr.out hxr.1 hxr.2) ?_
        rintro e w6 (⟨rfl, h6⟩ | ⟨rfl, l6, s6⟩)
        · have W7 : Hid (WL V wb w6 b (LL ++ numBytes 4 x) 65535) := h6
          clear h6 hc f0 hrel KR NO WLr hxr HW ON
          go_wp2_with fail
          go_roundg (ns.length - (k + 1))
          case measure => omega
          case rel => exact ⟨k + 1, by omega, by omega, by go_num, by rw [HN.out]; exact W7.out⟩
        · exact ⟨rfl, ⟨Or.inr ⟨rfl, NO.out l6, KV.out _ s6⟩⟩⟩
      · obtain rfl : k = ns.length := by omega
        have W5 : Hid (WL V wb wr b (L ++ (helloB P ++ wordsB ns)) 65535) := by have := WLr.out; rwa [List.take_length, List.append_assoc] at this
        clear WLr
        go_wp2_with fail
        go_end0
        exact ⟨Or.inl ⟨rfl, by have := W5.out.le; rwa [List.length_append] at this, W5.out.wr.less VX.out, KR⟩⟩
end Go.Proofs.YtjgeklipeeooaaaGreatDoor
