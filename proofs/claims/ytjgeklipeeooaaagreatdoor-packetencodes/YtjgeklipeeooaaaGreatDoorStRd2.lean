/- Package packet's writer: request. -/
import Derived.Test.YtjgeklipeeooaaaGreatDoorPkHello
import Derived.Deep.RegionHeld2
import Derived.Deep.DeepCutAuto
import Derived.Test.YtjgeklipeeooaaaGreatDoorStaOut
import Derived.Laws.BitsAllLaws
import Derived.Test.YtjgeklipeeooaaaGreatDoorReader
import Derived.Deep.LoopGhost
import Derived.Deep.RegionWith
import Derived.Test.YtjgeklipeeooaaaGreatDoorStKey
import Derived.Test.YtjgeklipeeooaaaGreatDoorCutB
import Derived.Test.YtjgeklipeeooaaaGreatDoorKeep
namespace Go.Proofs.YtjgeklipeeooaaaGreatDoor
open Go.RowKit
set_option linter.unusedVariables false
set_option maxRecDepth 100000

def KV.cells (x : KV) : List Value := [.int .u8 x.typ, .int .u32 x.id, .int .u32 x.adv]
def keysC (l : List KV) : List Value := l.flatMap KV.cells
theorem keysC_at (l : List KV) (j i : Nat) (x : KV) (hj : l[j]? = some x) (hi : i < 3) : (keysC l)[j * 3 + i]? = x.cells[i]? := by
  induction l generalizing j with
  | nil => simp at hj
  | cons y r ih =>
    have e : keysC (y :: r) = y.cells ++ keysC r := by simp [keysC]
    have hl : y.cells.length = 3 := rfl
    rw [e]
    cases j with
    | zero =>
      obtain rfl : y = x := by simpa using hj
      rw [List.getElem?_append_left (by omega), Nat.zero_mul, Nat.zero_add]
    | succ j =>
      rw [List.getElem?_append_right (by omega), hl, show (j + 1) * 3 + i - 3 = j * 3 + i by omega]
      exact ih j (by simpa using hj)
def KeysAt (w : World) (v : Value) (l : List KV) : Prop := ValsAt w 3 v l.length (keysC l)
theorem KeysAt.one {w : World} {v : Value} {l : List KV} (h : KeysAt w v l) {j : Nat} {x : KV} (hj : l[j]? = some x) : ∃ g off c, v = .slice (some ⟨g, off, none⟩) l.length c ∧ ∀ i u, x.cells[i]? = some u → w.cell? ⟨g, off + (j * 3 + i), none⟩ = some u := by
  have hlt := (List.getElem?_eq_some_iff.mp hj).1
  obtain ⟨g, off, c, e, _, _, hc⟩ := ValsAt.cells h (by omega) (by omega)
  refine ⟨g, off, c, e, fun i u hu => hc _ _ ?_⟩
  have hi : i < 3 := (List.getElem?_eq_some_iff.mp hu).1
  rw [keysC_at l j i x hj hi]
  exact hu
structure KV.All (x : KV) : Prop where
  t : 0 ≤ x.typ ∧ x.typ < 256
  i : 0 ≤ x.id ∧ x.id < 4294967296
  a : 0 ≤ x.adv ∧ x.adv < 4294967296
def keyB (x : KV) : List Int := numBytes 4 x.typ ++ numBytes 4 x.id ++ numBytes 4 x.adv
theorem length_keyB (x : KV) : (keyB x).length = 12 := by simp [keyB, numBytes]
def keysB (l : List KV) : List Int := l.flatMap keyB
theorem keysB_snoc (l : List KV) (x : KV) : keysB (l ++ [x]) = keysB l ++ keyB x := by simp [keysB]
theorem length_keysB (l : List KV) : (keysB l).length = 12 * l.length := by
  induction l with
  | nil => rfl
  | cons x r ih => rw [show keysB (x :: r) = keyB x ++ keysB r by simp [keysB], List.length_append, ih, length_keyB, List.length_cons]; omega
structure KyR (Y : Nat → Prop) (wa : World) (b : Nat) (L : List Int) (ks : List KV) (k : Nat) (i : Value) (wx : World) : Prop where
  out : ∃ j : Nat, j ≤ ks.length ∧ k = ks.length - j ∧ i = .int .i64 (j : Int) ∧ WL Y wa wx b (L ++ keysB (ks.take j)) 65535

set_option maxHeartbeats 4000000 in
theorem pwreq_any (X : Nat → Prop) (b : Nat) (L : List Int) (P : PV) (ok : P.Ok) (vn vd vk vs vh : Value) (w : World) (hw : Wr X w b L 65535) (hL : L.length ≤ 65535) (ks : List KV) (hv : ∀ w', Kept X w w' → KeysAt w' vk ks) (oh : ∀ h ∈ ks, h.All) :
    Calls Tryz.prog 128 #[.agg #[.pointer (some ⟨b, 0, none⟩)], P.v vn vd vk vs vh] w fun e w' => PW X w b L (keysB ks) e w' := by
  obtain ⟨da, dc, rfl, hmx⟩ := ValsAt.form (hv w (Kept.refl _ _))
  obtain ⟨wa, hwa⟩ : ∃ wa, wa = (w.alloc (.cells #[.pointer (some ⟨b, 0, none⟩)] 137)).alloc (.cells #[.int .u8 P.typ, .int .u32 P.router, .int .u32 P.area, .int .u32 P.mask, .int .u16 P.iv, .int .u8 P.opts, .int .u8 P.prio, .int .u32 P.dead, .int .u32 P.dr, .int .u32 P.bdr, vn, .int .u16 P.mtu, .int .u8 P.dopts, .int .u8 P.dflags, .int .u32 P.dseq, vd, (.slice da ks.length dc), vs, vh] 33) := ⟨_, rfl⟩
  have ta : Touch (fun _ => False) w wa := by rw [hwa]; exact ((Touch.refl _ w).alloc _).alloc _
  have za : wa.heap.size = w.heap.size + 2 := by rw [hwa]; simp
  have ca : wa.cell? ⟨w.heap.size, 0, none⟩ = some (.pointer (some ⟨b, 0, none⟩)) := by rw [hwa]; simp [go_sem]
  have pa : Pd wa (w.heap.size + 1) P vn vd (.slice da ks.length dc) vs vh := by
    have := Pd.new (w.alloc (.cells #[.pointer (some ⟨b, 0, none⟩)] 137)) P vn vd (.slice da ks.length dc) vs vh 33
    rw [← hwa] at this
    simpa using this
  obtain ⟨Y, hY⟩ : ∃ Y : Nat → Prop, Y = fun k => X k ∨ (w.heap.size ≤ k ∧ k < wa.heap.size) := ⟨_, rfl⟩
  have ya : ∀ k, w.heap.size ≤ k → k < w.heap.size + 2 → Y k := by subst hY; exact fun k h1 h2 => Or.inr (by omega)
  have WA : Hid (Wr Y wa b L 65535) := by subst hY; exact hw.more ta (fun k hk => hk)
  have YX : Hid (∀ k, X k → Y k) := by subst hY; exact fun k hk => Or.inl hk
  have TA : Hid (Touch (fun _ => False) w wa) := ta
  have KX : Hid (∀ w', Kept Y wa w' → Kept X w w') := fun w' h => (Kept.of TA.out).trans (h.less (fun k _ hk => YX.out k hk))
  have c0 := hold_cell ca (ya _ (by dsimp only; omega) (by dsimp only; omega))
  have p16 := hold_cell pa.c16 (ya _ (by dsimp only; omega) (by dsimp only; omega))
  show Calls Tryz.prog 128 #[.agg #[.pointer (some ⟨b, 0, none⟩)], .agg #[.int .u8 P.typ, .int .u32 P.router, .int .u32 P.area, .int .u32 P.mask, .int .u16 P.iv, .int .u8 P.opts, .int .u8 P.prio, .int .u32 P.dead, .int .u32 P.dr, .int .u32 P.bdr, vn, .int .u16 P.mtu, .int .u8 P.dopts, .int .u8 P.dflags, .int .u32 P.dseq, vd, (.slice da ks.length dc), vs, vh]] w _
  have d0 := c0 wa ⟨Kept.refl _ _⟩
  have d16 := p16 wa ⟨Kept.refl _ _⟩
  have REL : Hid (KyR Y wa b L ks ks.length (.int .i64 0) wa) := ⟨0, by omega, by omega, rfl, ⟨⟨Kept.refl _ _⟩, by simpa [keysB] using WA.out, by simpa [keysB] using hL⟩⟩
  have HW : Hid (∀ w', Hold Y wa w' → KeysAt w' (.slice da ks.length dc) ks) := fun w' h => hv w' (KX.out w' h.k)
  have OK : Hid (∀ h ∈ ks, h.All) := oh
  have YA : Hid (Y w.heap.size) := ya _ (by omega) (by omega)
  have hmx' : (ks.length : Int) ≤ 9223372036854775807 := by unfold maxLen at hmx; omega
  clear hw hL hv oh ok ta za ca pa hY ya hmx p16
  go_enter Tryz.func128, Tryz.ntmps128
  go_wp2_with fail
  rw [← hwa]
  clear hwa
  clear d0 d16
  generalize w.heap.size = g1 at *
  go_loopg [9] ks.length (fun k i wx => KyR Y wa b L ks k i wx)
  case atStart => exact REL.out
  case round =>
    clear REL
    obtain ⟨k, hk, hgk, rfl, hwl⟩ := hrel.out
    have WLr : Hid (WL Y wa wr b (L ++ keysB (ks.take k)) 65535) := hwl
    have d0 := c0 _ hwl.k
    clear hwl hrel
    by_cases hlt : k < ks.length
    · have hlt' : (k : Int) < (ks.length : Int) := by omega
      have hk0 : (0 : Int) ≤ (k : Int) := by omega
      obtain ⟨x, hx⟩ : ∃ x, ks[k]? = some x := ⟨ks[k], by simp [hlt]⟩
      obtain ⟨gR, off, cR, eR, hcell⟩ := KeysAt.one (HW.out wr WLr.out.k) hx
      cases eR
      have e0 : wr.cell? ⟨gR, off + k * 3, none⟩ = some (.int .u8 x.typ) := by exact hcell 0 _ rfl
      have e1 : wr.cell? ⟨gR, off + k * 3 + 1, none⟩ = some (.int .u32 x.id) := by rw [Nat.add_assoc]; exact hcell 1 _ rfl
      have e2 : wr.cell? ⟨gR, off + k * 3 + 2, none⟩ = some (.int .u32 x.adv) := by rw [Nat.add_assoc]; exact hcell 2 _ rfl
      obtain ⟨⟨xt0, xt1⟩, ⟨xi0, xi1⟩, ⟨xa0, xa1⟩⟩ := OK.out x (List.mem_of_getElem? hx)
      have qx := wrap_u32 xt0 (by omega)
      have hkw : wrap64 ((k : Int) + 1) = (k : Int) + 1 := by unfold wrap64; omega
      have NO : Hid (∀ l : List Int, l.length ≤ (L ++ keysB (ks.take k)).length + 8 → 65535 < l.length + 4 → 65535 < L.length + (keysB ks).length) := by
        intro l h1 h2
        rw [List.length_append, length_keysB, List.length_take] at h1
        rw [length_keysB]
        omega
      have HN : Hid (L ++ keysB (ks.take (k + 1)) = (L ++ keysB (ks.take k)) ++ keyB x) := by show _ = _; rw [List.take_add_one, hx, show (some x).toList = [x] from rfl, keysB_snoc, List.append_assoc]
      clear hcell hx
      have t4 : Touch (fun _ => False) wr (wr.alloc (.cells #[.int .u8 x.typ, .int .u32 x.id, .int .u32 x.adv] 125)) := (Touch.refl _ _).alloc _
      have k0 : (wr.alloc (.cells #[.int .u8 x.typ, .int .u32 x.id, .int .u32 x.adv] 125)).cell? ⟨wr.heap.size, 0, none⟩ = some (.int .u8 x.typ) := by simp [go_sem]
      have k1 : (wr.alloc (.cells #[.int .u8 x.typ, .int .u32 x.id, .int .u32 x.adv] 125)).cell? ⟨wr.heap.size, 1, none⟩ = some (.int .u32 x.id) := by simp [go_sem]
      have k2 : (wr.alloc (.cells #[.int .u8 x.typ, .int .u32 x.id, .int .u32 x.adv] 125)).cell? ⟨wr.heap.size, 2, none⟩ = some (.int .u32 x.adv) := by simp [go_sem]
      have z4 : (wr.alloc (.cells #[.int .u8 x.typ, .int .u32 x.id, .int .u32 x.adv] 125)).heap.size = wr.heap.size + 1 := by simp
      go_upto_region 4 with fail
      generalize wr.alloc (.cells #[.int .u8 x.typ, .int .u32 x.id, .int .u32 x.adv] 125) = w4 at *
      obtain ⟨Y5, hY5⟩ : ∃ Y5 : Nat → Prop, Y5 = fun k => Y k ∨ (wr.heap.size ≤ k ∧ k < w4.heap.size) := ⟨_, rfl⟩
      have y5 : Y5 wr.heap.size := by subst hY5; exact Or.inr (by omega)
      have Y5Y : ∀ k, Y k → Y5 k := by subst hY5; exact fun k hk => Or.inl hk
      have W4 : WL Y5 w4 w4.drew b (L ++ keysB (ks.take k)) 65535 := ⟨⟨Kept.of ((Touch.refl _ _).drew)⟩, by subst hY5; exact (WLr.out.wr.more t4 (fun k hk => hk)).keep ((Touch.refl _ _).drew), WLr.out.le⟩
      have BK : Hid (∀ w', Hold Y5 w4 w' → Hold Y wa w') := fun w' h => ⟨WLr.out.k.k.trans ((Kept.of t4).trans (h.k.less (fun k _ hk => Y5Y k hk)))⟩
      have LS : Hid (∀ w' l, Wr Y5 w' b l 65535 → Wr Y w' b l 65535) := fun w' l h => h.less Y5Y
      have d1 := hold_cell (t4.cellN d0) (Y5Y _ YA.out)
      have h0 := hold_cell k0 y5
      have h1 := hold_cell k1 y5
      have h2 := hold_cell k2 y5
      have s4 := W4.k
      clear hY5 y5 Y5Y t4 d0 k0 k1 k2 z4 WLr e0 e1 e2
      generalize wr.heap.size = g5 at *
      generalize L ++ keysB (ks.take k) = LL at *
      go_region_held2 (fun w' => Hold Y5 w4 w') (with_reducible assumption) (first
        | (go_at_call 125; refine Calls.mono (pnum_or _ (by assumption) (by omega) (by omega)) ?_; rintro e w6 (⟨rfl, h6⟩ | ⟨rfl, l6, s6⟩); rotate_left; exact ⟨rfl, ⟨Or.inr ⟨rfl, NO.out _ (by simp [numBytes]) l6, KX.out _ (BK.out _ s6).k⟩⟩⟩; have s6 := h6.k))
      have W7 : Hid (WL Y wa w6 b (LL ++ keyB x) 65535) := ⟨BK.out _ s6, by have := LS.out _ _ h6.wr; simpa [keyB, List.append_assoc] using this, by have := h6.le; simpa [keyB, List.append_assoc] using this⟩
      clear s6 h6 W4 s4 d1 h0 h1 h2
      go_wp2_with fail
      go_roundg (ks.length - (k + 1))
      case measure => omega
      case rel => exact ⟨k + 1, by omega, by omega, by go_num, by rw [HN.out]; exact W7.out⟩
    · obtain rfl : k = ks.length := by omega
      have W5 : Hid (WL Y wa wr b (L ++ keysB ks) 65535) := by have := WLr.out; rwa [List.take_length] at this
      clear WLr
      go_wp2_with fail
      go_end0
      exact ⟨Or.inl ⟨rfl, by have := W5.out.le; rwa [List.length_append] at this, W5.out.wr.less YX.out, KX.out _ W5.out.k.k⟩⟩
end Go.Proofs.YtjgeklipeeooaaaGreatDoor

namespace Go.Proofs.YtjgeklipeeooaaaGreatDoor
open Go.RowKit
set_option linter.unusedVariables false

theorem and16 {n : Int} (h0 : 0 ≤ n) (h : n < 4294967296) : bits .and .u32 n 65535 = n % 65536 := by
  rw [u32_and n _ h0 h (by omega) (by omega), show (65535 : Int).toNat = 2 ^ 16 - 1 from rfl, Nat.and_two_pow_sub_one_eq_mod]
  omega
theorem and8 {n : Int} (h0 : 0 ≤ n) (h : n < 4294967296) : bits .and .u32 n 255 = n % 256 := by
  rw [u32_and n _ h0 h (by omega) (by omega), show (255 : Int).toNat = 2 ^ 8 - 1 from rfl, Nat.and_two_pow_sub_one_eq_mod]
  omega
end Go.Proofs.YtjgeklipeeooaaaGreatDoor

namespace Go.Proofs.YtjgeklipeeooaaaGreatDoor
open Go.RowKit
set_option linter.unusedVariables false
set_option maxRecDepth 100000

/-- Two numbers of 32 bits lie in block b. -/
structure Two (w : World) (b : Nat) (x y : Int) : Prop where
  c0 : w.cell? ⟨b, 0, none⟩ = some (.int .u32 x)
  c1 : w.cell? ⟨b, 1, none⟩ = some (.int .u32 y)
  f0 : w.frozen? ⟨b, 0, none⟩ = false
  f1 : w.frozen? ⟨b, 1, none⟩ = false
theorem Two.lt {w : World} {b : Nat} {x y : Int} (h : Two w b x y) : b < w.heap.size := lt_of_cell h.c0
theorem Two.keep {w w' : World} {b : Nat} {x y : Int} (h : Two w b x y) (t : Touch (fun _ => False) w w') : Two w' b x y :=
  ⟨t.cellN h.c0, t.cellN h.c1, (t.frozen h.lt (fun h => h)).trans h.f0, (t.frozen h.lt (fun h => h)).trans h.f1⟩
theorem Two.drew {w : World} {b : Nat} {x y : Int} (h : Two w b x y) : Two w.drew b x y := h.keep ((Touch.refl _ _).drew)
theorem Two.set0 {w : World} {b : Nat} {x y : Int} (h : Two w b x y) (z : Int) : Two (w.setCell ⟨b, 0, none⟩ (.int .u32 z)) b z y := by
  obtain ⟨h0, h1, h2, h3⟩ := h
  exact ⟨by simp [h0, go_sem], by simp [h1, go_sem], by simp [h2, go_sem], by simp [h3, go_sem]⟩
theorem Two.set1 {w : World} {b : Nat} {x y : Int} (h : Two w b x y) (z : Int) : Two (w.setCell ⟨b, 1, none⟩ (.int .u32 z)) b x z := by
  obtain ⟨h0, h1, h2, h3⟩ := h
  exact ⟨by simp [h0, go_sem], by simp [h1, go_sem], by simp [h2, go_sem], by simp [h3, go_sem]⟩
theorem Touch.new {w0 w : World} (t : Touch (fun _ => False) w0 w) {p : Addr} (h : w0.heap.size ≤ p.block) (u : Value) : Touch (fun _ => False) w0 (w.setCell p u) := t.setCell (Or.inr h) u

theorem rowAt_cap {w : World} {g off c : Nat} {rs : List Int} (h : RowAt w (.slice (some ⟨g, off, none⟩) rs.length c) rs) : rs.length ≤ c := by
  rcases h with ⟨h, _⟩ | ⟨g', off', c', h, h1, _⟩
  · cases h
  · cases h; exact h1
theorem rowAt_drop {w : World} {g off c : Nat} {rs : List Int} (h : RowAt w (.slice (some ⟨g, off, none⟩) rs.length c) rs) (n : Nat) (hn : n ≤ rs.length) : RowAt w (.slice (some ⟨g, off + n, none⟩) (rs.length - n) (c - n)) (rs.drop n) := by
  rcases h with ⟨h, _⟩ | ⟨g', off', c', h, h1, h2, h3⟩
  · cases h
  · cases h
    refine Or.inr ⟨g, off + n, c - n, by simp, by simp; omega, by omega, fun j u hj => ?_⟩
    rw [Nat.add_assoc]
    refine h3 (n + j) u ?_
    simpa [bytesOf, List.getElem?_drop] using hj
end Go.Proofs.YtjgeklipeeooaaaGreatDoor

namespace Go.Proofs.YtjgeklipeeooaaaGreatDoor
open Go.RowKit
set_option linter.unusedVariables false
set_option maxRecDepth 100000

def PR (w : World) (b : Nat) (ps : List (Value × List Int)) (g : Nat) (i : Value) (wr : World) : Prop :=
  ∃ (j : Nat) (h k : Int), j + g = ps.length ∧ i = .int .i64 (j : Int) ∧ Two wr b h k ∧ Run ((ps.take j).map Prod.snd).flatten h k ∧ 0 ≤ h ∧ 0 ≤ k ∧ h < 4294967296 ∧ k < 4294967296 ∧ Touch (fun _ => False) w wr

end Go.Proofs.YtjgeklipeeooaaaGreatDoor

namespace Go.Proofs.YtjgeklipeeooaaaGreatDoor
open Go.RowKit
set_option linter.unusedVariables false
set_option maxRecDepth 100000

/-- So many cells lie in block g, and may be stored into. -/
def Room (w : World) (g n : Nat) : Prop := ∀ i, i < n → ∃ v, w.cell? ⟨g, i, none⟩ = some v ∧ w.frozen? ⟨g, i, none⟩ = false
theorem Room.keep {w w' : World} {g n : Nat} (h : Room w g n) (t : Touch (fun _ => False) w w') : Room w' g n := fun i hi => by
  obtain ⟨v, hc, hf⟩ := h i hi
  exact ⟨v, t.cellN hc, (t.frozen (p := ⟨g, i, none⟩) (lt_of_cell hc) (fun h => h)).trans hf⟩
theorem Room.touch {F : Nat → Prop} {w w' : World} {g n : Nat} (h : Room w g n) (t : Touch F w w') (hF : ¬ F g) : Room w' g n := fun i hi => by
  obtain ⟨v, hc, hf⟩ := h i hi
  exact ⟨v, (t.cell (p := ⟨g, i, none⟩) (lt_of_cell hc) hF).trans hc, (t.frozen (p := ⟨g, i, none⟩) (lt_of_cell hc) hF).trans hf⟩
theorem Room.new (w : World) (C : Array Value) (t : TypeId) : Room (w.alloc (.cells C t)) w.heap.size C.size := fun i hi => ⟨C[i], by simp [go_sem, hi], by simp [go_sem]⟩
theorem clone_arg (v : Value) (l : List Int) (w : World) (h : ArgAt w v l) (hl : l.length ≤ 1099511627776) : Calls Tryz.prog 137 #[v] w fun e w' => ∃ u, e = .returned u ∧ Buf w w' u l := by
  rcases h with ⟨rfl, rfl⟩ | ⟨ad, c, rfl, h1, h2, h3⟩
  · refine (clone_nil w).mono ?_
    rintro e w' ⟨rfl, rfl⟩
    exact ⟨_, rfl, Buf.nil (Touch.refl _ _)⟩
  · refine (clone_some ad c l w h3 hl).mono ?_
    rintro e w' ⟨u, rfl, hown, t, _⟩
    exact ⟨u, rfl, hown, t⟩
theorem Out.fits {w : World} {g : Nat} {h : HV} {v : Value} (k : Out w g h v) : Sd w g h v ∧ (w.frozen? ⟨g, 6, none⟩ = false ∧ w.frozen? ⟨g, 7, none⟩ = false ∧ w.frozen? ⟨g, 8, none⟩ = false) := ⟨k.sd, k.fz 6 (by omega), k.fz 7 (by omega), k.fz 8 (by omega)⟩

end Go.Proofs.YtjgeklipeeooaaaGreatDoor

namespace Go.Proofs.YtjgeklipeeooaaaGreatDoor
open Go.RowKit
set_option linter.unusedVariables false
set_option maxRecDepth 100000

/-- A number of n bytes, n given as the program gives it. -/
theorem rnum_i (N b : Nat) (n : Int) (hn : n = 1 ∨ n = 2 ∨ n = 3 ∨ n = 4) (rs : List Int) (q : Option Nat) (w : World) (h : Rdr N w b rs q) :
    Calls Tryz.prog 117 #[.pointer (some ⟨b, 0, none⟩), .int .i64 n] w fun e w' => e = .returned (.int .u32 (numAt rs q n.toNat)) ∧ Rdr N w' b rs (nextAt rs q n.toNat) ∧ Touch (fun k => k = b) w w' := by
  rcases hn with rfl | rfl | rfl | rfl
  · exact rnum1 N b rs q w h
  · exact rnum2 N b rs q w h
  · exact rnum3 N b rs q w h
  · exact rnum4 N b rs q w h
end Go.Proofs.YtjgeklipeeooaaaGreatDoor
