/- The lists of a packet are added to a Bag. -/
import Derived.Test.YtbfplepmgbkajaaGreatDoorPkRows
namespace Go.Proofs.YtbfplepmgbkajaaGreatDoor
open Go.RowKit
set_option linter.unusedVariables false
set_option maxRecDepth 100000

/-- What may be new in the Bag at stage n of AddPacket. -/
def PkS (n : Nat) (vn vd vk vs vh : Value) (l : List SE) : Nat → Value → Prop := fun j u => (j = 5 ∧ u = vn) ∨ (1 ≤ n ∧ j = 7 ∧ u = vd) ∨ (2 ≤ n ∧ j = 8 ∧ u = vk) ∨ (3 ≤ n ∧ j = 14 ∧ u = vs) ∨ (3 ≤ n ∧ j = 0 ∧ ∃ x ∈ l, u = x.v) ∨ (4 ≤ n ∧ j = 7 ∧ u = vh)
/-- What it needs of the packet. -/
structure PkN (b : Nat) (vb : List Value) (V : Nat → List Value) (w : World) (C : PkC) (vn vd vk vh : Value) (sa : Option Addr) (sc : Nat) (l : List SE) : Prop where
 n : w.ownsRow 0 22 1 vn C.nb.length (wordsC C.nb)
 d : w.ownsRow 0 93 8 vd C.dh.length (headsC C.dh)
 k : w.ownsRow 0 125 3 vk C.ks.length (keysC C.ks)
 h : w.ownsRow 0 93 8 vh C.hs.length (headsC C.hs)
 s : StN b vb V w sa sc l
 ln : C.nb.length ≤ 1048576
 ld : C.dh.length ≤ 1048576
 lk : C.ks.length ≤ 1048576
 lh : C.hs.length ≤ 1048576
 nn : ∀ k, vn.ownBlock = some k → k < b ∧ ∀ u ∈ V 5, u.ownBlock ≠ some k
 nd : ∀ k, vd.ownBlock = some k → k < b ∧ ∀ u ∈ V 7, u.ownBlock ≠ some k
 nk : ∀ k, vk.ownBlock = some k → k < b ∧ ∀ u ∈ V 8, u.ownBlock ≠ some k
 nh : ∀ k, vh.ownBlock = some k → k < b ∧ ∀ u ∈ V 7, u.ownBlock ≠ some k
 x : ∀ k, vd.ownBlock = some k → ¬ vh.ownBlock = some k
theorem StN.keep {b : Nat} {vb : List Value} {V : Nat → List Value} {w w' : World} {va : Option Addr} {vc : Nat} {l : List SE} (h : StN b vb V w va vc l) (t : Touch (fun _ => False) w w') : StN b vb V w' va vc l :=
 ⟨own_touch h.row t (fun _ _ f => f), fun x hx => own_touch (h.bod x hx) t (fun _ _ f => f), h.apt, h.few, h.sml, h.new, h.nwb⟩
theorem PkN.keep {b : Nat} {vb : List Value} {V : Nat → List Value} {w w' : World} {C : PkC} {vn vd vk vh : Value} {sa : Option Addr} {sc : Nat} {l : List SE} (h : PkN b vb V w C vn vd vk vh sa sc l) (t : Touch (fun _ => False) w w') : PkN b vb V w' C vn vd vk vh sa sc l :=
 ⟨own_touch h.n t (fun _ _ f => f), own_touch h.d t (fun _ _ f => f), own_touch h.k t (fun _ _ f => f), own_touch h.h t (fun _ _ f => f), h.s.keep t, h.ln, h.ld, h.lk, h.lh, h.nn, h.nd, h.nk, h.nh, h.x⟩
theorem AddP.then {b : Nat} {gb gb' : Value} {vb vb' : List Value} {G G' : Nat → Value} {V V' : Nat → List Value} {w w1 w2 : World} {S S1 S2 : Nat → Value → Prop} {e : Ending} (s1 : BagStep w b gb G w1 gb' G') (b1 : ∀ u ∈ vb', u ∈ vb ∨ S 0 u) (v1 : ∀ j u, 1 ≤ j → u ∈ V' j → u ∈ V j ∨ S j u) (h : AddP b gb' vb' G' V' w1 S1 e w2) (hS : ∀ j u, S j u ∨ S1 j u → S2 j u) :
  e = .returned (.tuple #[]) ∧ AddP b gb vb G V w S2 (.returned (.tuple #[])) w2 := by
 obtain ⟨he, gb2, vb2, G2, V2, p2, s2, b2, v2⟩ := h
 refine ⟨he, rfl, gb2, vb2, G2, V2, p2, s1.trans s2, fun u hu => ?_, fun j u hj hu => ?_⟩
 ·rcases b2 u hu with h1 | h1
  ·exact (b1 u h1).imp id (fun h => hS 0 u (Or.inl h))
  ·exact Or.inr (hS 0 u (Or.inr h1))
 ·rcases v2 j u hj hu with h1 | h1
  ·exact (v1 j u hj h1).imp id (fun h => hS j u (Or.inl h))
  ·exact Or.inr (hS j u (Or.inr h1))
theorem pk_dd (b : Nat) (gb : Value) (vb : List Value) (G : Nat → Value) (V : Nat → List Value) (C : PkC) (na : Option Addr) (nc : Nat) (da : Option Addr) (dc : Nat) (ka : Option Addr) (kc : Nat) (sa : Option Addr) (sc : Nat) (ha : Option Addr) (hc : Nat) (l : List SE) {w wx : World} {e : Ending} (h : BagP w b gb vb G V) (n : PkN b vb V w C (.slice na C.nb.length nc) (.slice da C.dh.length dc) (.slice ka C.ks.length kc) (.slice ha C.hs.length hc) sa sc l) (s : AddP b gb vb G V w (PkS 0 (.slice na C.nb.length nc) (.slice da C.dh.length dc) (.slice ka C.ks.length kc) (.slice sa l.length sc) (.slice ha C.hs.length hc) l) e wx) :
  Calls Tryz.prog 81 #[.pointer (some ⟨b, 0, none⟩), .agg #[.int .u16 C.P.mtu, .int .u8 C.P.dopts, .int .u8 C.P.dflags, .int .u32 C.P.dseq, .slice da C.dh.length dc]] wx fun e w' => e = .returned (.tuple #[]) ∧ AddP b gb vb G V w (PkS 1 (.slice na C.nb.length nc) (.slice da C.dh.length dc) (.slice ka C.ks.length kc) (.slice sa l.length sc) (.slice ha C.hs.length hc) l) (.returned (.tuple #[])) w' := by
 obtain ⟨-, gb', vb', G', V', hP, hS, hB, hV⟩ := s
 have ho := own_touch n.d hS.touch (fun kk hkk => BagStep.off h hS (n.nd kk hkk).1 (own_lt n.d hkk))
 have hw : ∀ u ∈ V' 7, u ∈ V 7 := fun u hu => by
  have h1 := hV 7 u (by omega) hu
  simp [PkS] at h1
  exact h1
 refine Calls.mono (bagAddDD_any b gb' vb' G' V' C da C.dh.length dc _ wx hP ho n.ld (fun kk hkk => ⟨(n.nd kk hkk).1, fun u hu => (n.nd kk hkk).2 u (hw u hu)⟩)) ?_
 intro e w' ha
 exact AddP.then hS hB hV ha (fun j u hj => by
  rcases hj with hj | hj
  ·rcases hj with h1 | ⟨h0, h1⟩ | ⟨h0, h1⟩ | ⟨h0, h1⟩ | ⟨h0, h1⟩ | ⟨h0, h1⟩
   ·exact Or.inl h1
   ·exact Or.inr (Or.inl ⟨by omega, h1⟩)
   ·exact Or.inr (Or.inr (Or.inl ⟨by omega, h1⟩))
   ·exact Or.inr (Or.inr (Or.inr (Or.inl ⟨by omega, h1⟩)))
   ·exact Or.inr (Or.inr (Or.inr (Or.inr (Or.inl ⟨by omega, h1⟩))))
   ·exact Or.inr (Or.inr (Or.inr (Or.inr (Or.inr ⟨by omega, h1⟩))))
  ·exact Or.inr (Or.inl ⟨by omega, hj⟩))
theorem pk_keys (b : Nat) (gb : Value) (vb : List Value) (G : Nat → Value) (V : Nat → List Value) (C : PkC) (na : Option Addr) (nc : Nat) (da : Option Addr) (dc : Nat) (ka : Option Addr) (kc : Nat) (sa : Option Addr) (sc : Nat) (ha : Option Addr) (hc : Nat) (l : List SE) {w wx : World} {e : Ending} (h : BagP w b gb vb G V) (n : PkN b vb V w C (.slice na C.nb.length nc) (.slice da C.dh.length dc) (.slice ka C.ks.length kc) (.slice ha C.hs.length hc) sa sc l) (s : AddP b gb vb G V w (PkS 1 (.slice na C.nb.length nc) (.slice da C.dh.length dc) (.slice ka C.ks.length kc) (.slice sa l.length sc) (.slice ha C.hs.length hc) l) e wx) :
  Calls Tryz.prog 82 #[.pointer (some ⟨b, 0, none⟩), .slice ka C.ks.length kc] wx fun e w' => e = .returned (.tuple #[]) ∧ AddP b gb vb G V w (PkS 2 (.slice na C.nb.length nc) (.slice da C.dh.length dc) (.slice ka C.ks.length kc) (.slice sa l.length sc) (.slice ha C.hs.length hc) l) (.returned (.tuple #[])) w' := by
 obtain ⟨-, gb', vb', G', V', hP, hS, hB, hV⟩ := s
 have ho := own_touch n.k hS.touch (fun kk hkk => BagStep.off h hS (n.nk kk hkk).1 (own_lt n.k hkk))
 have hw : ∀ u ∈ V' 8, u ∈ V 8 := fun u hu => by
  have h1 := hV 8 u (by omega) hu
  simp [PkS] at h1
  exact h1
 refine Calls.mono (bagAddKeys_any b gb' vb' G' V' (.slice ka C.ks.length kc) _ wx hP ho n.lk (fun kk hkk => ⟨(n.nk kk hkk).1, fun u hu => (n.nk kk hkk).2 u (hw u hu)⟩)) ?_
 intro e w' ha
 exact AddP.then hS hB hV ha (fun j u hj => by
  rcases hj with hj | hj
  ·rcases hj with h1 | ⟨h0, h1⟩ | ⟨h0, h1⟩ | ⟨h0, h1⟩ | ⟨h0, h1⟩ | ⟨h0, h1⟩
   ·exact Or.inl h1
   ·exact Or.inr (Or.inl ⟨by omega, h1⟩)
   ·exact Or.inr (Or.inr (Or.inl ⟨by omega, h1⟩))
   ·exact Or.inr (Or.inr (Or.inr (Or.inl ⟨by omega, h1⟩)))
   ·exact Or.inr (Or.inr (Or.inr (Or.inr (Or.inl ⟨by omega, h1⟩))))
   ·exact Or.inr (Or.inr (Or.inr (Or.inr (Or.inr ⟨by omega, h1⟩))))
  ·exact Or.inr (Or.inr (Or.inl ⟨by omega, hj⟩)))
theorem pk_sts (b : Nat) (gb : Value) (vb : List Value) (G : Nat → Value) (V : Nat → List Value) (C : PkC) (na : Option Addr) (nc : Nat) (da : Option Addr) (dc : Nat) (ka : Option Addr) (kc : Nat) (sa : Option Addr) (sc : Nat) (ha : Option Addr) (hc : Nat) (l : List SE) {w wx : World} {e : Ending} (h : BagP w b gb vb G V) (n : PkN b vb V w C (.slice na C.nb.length nc) (.slice da C.dh.length dc) (.slice ka C.ks.length kc) (.slice ha C.hs.length hc) sa sc l) (s : AddP b gb vb G V w (PkS 2 (.slice na C.nb.length nc) (.slice da C.dh.length dc) (.slice ka C.ks.length kc) (.slice sa l.length sc) (.slice ha C.hs.length hc) l) e wx) :
  Calls Tryz.prog 83 #[.pointer (some ⟨b, 0, none⟩), .slice sa l.length sc] wx fun e w' => e = .returned (.tuple #[]) ∧ AddP b gb vb G V w (PkS 3 (.slice na C.nb.length nc) (.slice da C.dh.length dc) (.slice ka C.ks.length kc) (.slice sa l.length sc) (.slice ha C.hs.length hc) l) (.returned (.tuple #[])) w' := by
 obtain ⟨-, gb', vb', G', V', hP, hS, hB, hV⟩ := s
 have hw : ∀ u ∈ V' 14, u ∈ V 14 := fun u hu => by
  have h1 := hV 14 u (by omega) hu
  simp [PkS] at h1
  exact h1
 have hw0 : ∀ u ∈ vb', u ∈ vb := fun u hu => by
  have h1 := hB u hu
  simp [PkS] at h1
  exact h1
 have hn : StN b vb' V' wx sa sc l := ⟨own_touch n.s.row hS.touch (fun kk hkk => BagStep.off h hS (n.s.new kk hkk).1 (own_lt n.s.row hkk)), fun x hx => own_touch (n.s.bod x hx) hS.touch (fun kk hkk => BagStep.off h hS (n.s.nwb x hx kk hkk).1 (own_lt (n.s.bod x hx) hkk)), n.s.apt, n.s.few, n.s.sml, fun kk hkk => ⟨(n.s.new kk hkk).1, fun u hu => (n.s.new kk hkk).2 u (hw u hu)⟩, fun x hx kk hkk => ⟨(n.s.nwb x hx kk hkk).1, fun u hu => (n.s.nwb x hx kk hkk).2 u (hw0 u hu)⟩⟩
 refine Calls.mono (bagAddStates_any b gb' vb' G' V' sa sc l wx hP hn) ?_
 intro e w' ha
 exact AddP.then hS hB hV ha (fun j u hj => by
  rcases hj with hj | hj
  ·rcases hj with h1 | ⟨h0, h1⟩ | ⟨h0, h1⟩ | ⟨h0, h1⟩ | ⟨h0, h1⟩ | ⟨h0, h1⟩
   ·exact Or.inl h1
   ·exact Or.inr (Or.inl ⟨by omega, h1⟩)
   ·exact Or.inr (Or.inr (Or.inl ⟨by omega, h1⟩))
   ·exact Or.inr (Or.inr (Or.inr (Or.inl ⟨by omega, h1⟩)))
   ·exact Or.inr (Or.inr (Or.inr (Or.inr (Or.inl ⟨by omega, h1⟩))))
   ·exact Or.inr (Or.inr (Or.inr (Or.inr (Or.inr ⟨by omega, h1⟩))))
  ·rcases hj with h1 | h1
   ·exact Or.inr (Or.inr (Or.inr (Or.inl ⟨by omega, h1⟩)))
   ·exact Or.inr (Or.inr (Or.inr (Or.inr (Or.inl ⟨by omega, h1⟩)))))
theorem pk_heads (b : Nat) (gb : Value) (vb : List Value) (G : Nat → Value) (V : Nat → List Value) (C : PkC) (na : Option Addr) (nc : Nat) (da : Option Addr) (dc : Nat) (ka : Option Addr) (kc : Nat) (sa : Option Addr) (sc : Nat) (ha : Option Addr) (hc : Nat) (l : List SE) {w wx : World} {e : Ending} (h : BagP w b gb vb G V) (n : PkN b vb V w C (.slice na C.nb.length nc) (.slice da C.dh.length dc) (.slice ka C.ks.length kc) (.slice ha C.hs.length hc) sa sc l) (s : AddP b gb vb G V w (PkS 3 (.slice na C.nb.length nc) (.slice da C.dh.length dc) (.slice ka C.ks.length kc) (.slice sa l.length sc) (.slice ha C.hs.length hc) l) e wx) :
  Calls Tryz.prog 84 #[.pointer (some ⟨b, 0, none⟩), .slice ha C.hs.length hc] wx fun e w' => e = .returned (.tuple #[]) ∧ AddP b gb vb G V w (PkS 4 (.slice na C.nb.length nc) (.slice da C.dh.length dc) (.slice ka C.ks.length kc) (.slice sa l.length sc) (.slice ha C.hs.length hc) l) (.returned (.tuple #[])) w' := by
 obtain ⟨-, gb', vb', G', V', hP, hS, hB, hV⟩ := s
 have ho := own_touch n.h hS.touch (fun kk hkk => BagStep.off h hS (n.nh kk hkk).1 (own_lt n.h hkk))
 have hw : ∀ u ∈ V' 7, u ∈ V 7 ∨ u = .slice da C.dh.length dc := fun u hu => by
  have h1 := hV 7 u (by omega) hu
  simp [PkS] at h1
  exact h1
 refine Calls.mono (bagAddHeads_any b gb' vb' G' V' (.slice ha C.hs.length hc) _ wx hP ho n.lh (fun kk hkk => ⟨(n.nh kk hkk).1, fun u hu => by rcases hw u hu with h1 | h1; exact (n.nh kk hkk).2 u h1; exact fun e => n.x kk (by rw [← h1]; exact e) hkk⟩)) ?_
 intro e w' ha
 exact AddP.then hS hB hV ha (fun j u hj => by
  rcases hj with hj | hj
  ·rcases hj with h1 | ⟨h0, h1⟩ | ⟨h0, h1⟩ | ⟨h0, h1⟩ | ⟨h0, h1⟩ | ⟨h0, h1⟩
   ·exact Or.inl h1
   ·exact Or.inr (Or.inl ⟨by omega, h1⟩)
   ·exact Or.inr (Or.inr (Or.inl ⟨by omega, h1⟩))
   ·exact Or.inr (Or.inr (Or.inr (Or.inl ⟨by omega, h1⟩)))
   ·exact Or.inr (Or.inr (Or.inr (Or.inr (Or.inl ⟨by omega, h1⟩))))
   ·exact Or.inr (Or.inr (Or.inr (Or.inr (Or.inr ⟨by omega, h1⟩))))
  ·exact Or.inr (Or.inr (Or.inr (Or.inr (Or.inr ⟨by omega, hj⟩)))))
set_option maxHeartbeats 4000000 in
theorem bagAddPacket_any (b : Nat) (gb : Value) (vb : List Value) (G : Nat → Value) (V : Nat → List Value) (C : PkC) (na : Option Addr) (nc : Nat) (da : Option Addr) (dc : Nat) (ka : Option Addr) (kc : Nat) (sa : Option Addr) (sc : Nat) (ha : Option Addr) (hc : Nat) (l : List SE) (w : World) (h : BagP w b gb vb G V) (n : PkN b vb V w C (.slice na C.nb.length nc) (.slice da C.dh.length dc) (.slice ka C.ks.length kc) (.slice ha C.hs.length hc) sa sc l) :
  Calls Tryz.prog 24 #[.pointer (some ⟨b, 0, none⟩), C.P.v (.slice na C.nb.length nc) (.slice da C.dh.length dc) (.slice ka C.ks.length kc) (.slice sa l.length sc) (.slice ha C.hs.length hc)] w (AddP b gb vb G V w (PkS 4 (.slice na C.nb.length nc) (.slice da C.dh.length dc) (.slice ka C.ks.length kc) (.slice sa l.length sc) (.slice ha C.hs.length hc) l)) := by
 obtain ⟨w0, hw0⟩ : ∃ w0, w0 = w.alloc (.cells #[.int .u8 C.P.typ, .int .u32 C.P.router, .int .u32 C.P.area, .int .u32 C.P.mask, .int .u16 C.P.iv, .int .u8 C.P.opts, .int .u8 C.P.prio, .int .u32 C.P.dead, .int .u32 C.P.dr, .int .u32 C.P.bdr, .slice na C.nb.length nc, .int .u16 C.P.mtu, .int .u8 C.P.dopts, .int .u8 C.P.dflags, .int .u32 C.P.dseq, .slice da C.dh.length dc, .slice ka C.ks.length kc, .slice sa l.length sc, .slice ha C.hs.length hc] 33) := ⟨_, rfl⟩
 have ta : Touch (fun _ => False) w w0 := by rw [hw0]; exact (Touch.refl _ w).alloc _
 have A0 : Row w0 w.heap.size 33 [.int .u8 C.P.typ, .int .u32 C.P.router, .int .u32 C.P.area, .int .u32 C.P.mask, .int .u16 C.P.iv, .int .u8 C.P.opts, .int .u8 C.P.prio, .int .u32 C.P.dead, .int .u32 C.P.dr, .int .u32 C.P.bdr, .slice na C.nb.length nc, .int .u16 C.P.mtu, .int .u8 C.P.dopts, .int .u8 C.P.dflags, .int .u32 C.P.dseq, .slice da C.dh.length dc, .slice ka C.ks.length kc, .slice sa l.length sc, .slice ha C.hs.length hc] := by rw [hw0]; exact row_new w 33 #[.int .u8 C.P.typ, .int .u32 C.P.router, .int .u32 C.P.area, .int .u32 C.P.mask, .int .u16 C.P.iv, .int .u8 C.P.opts, .int .u8 C.P.prio, .int .u32 C.P.dead, .int .u32 C.P.dr, .int .u32 C.P.bdr, .slice na C.nb.length nc, .int .u16 C.P.mtu, .int .u8 C.P.dopts, .int .u8 C.P.dflags, .int .u32 C.P.dseq, .slice da C.dh.length dc, .slice ka C.ks.length kc, .slice sa l.length sc, .slice ha C.hs.length hc]
 have hz : w.heap.size < w0.heap.size := by rw [hw0]; simp
 have hbs : b < w.heap.size := lt_of_cell h.B.cell
 have AK : Hid (∀ (S : Nat → Value → Prop) wx, AddP b gb vb G V w0 S (.returned (.tuple #[])) wx → Row wx w.heap.size 33 [.int .u8 C.P.typ, .int .u32 C.P.router, .int .u32 C.P.area, .int .u32 C.P.mask, .int .u16 C.P.iv, .int .u8 C.P.opts, .int .u8 C.P.prio, .int .u32 C.P.dead, .int .u32 C.P.dr, .int .u32 C.P.bdr, .slice na C.nb.length nc, .int .u16 C.P.mtu, .int .u8 C.P.dopts, .int .u8 C.P.dflags, .int .u32 C.P.dseq, .slice da C.dh.length dc, .slice ka C.ks.length kc, .slice sa l.length sc, .slice ha C.hs.length hc]) := fun S wx s => by
  obtain ⟨-, gb', vb', G', V', -, hS, -, -⟩ := s
  refine A0.touch hS.touch ?_
  rintro (e | (e | ⟨c, K, hK, e⟩) | e)
  ·omega
  ·have := own_lt h.B.own e; omega
  ·have := own_lt (h.K c K hK).own e; omega
  ·omega
 have HH : Hid (BagP w0 b gb vb G V) := h.keep ta
 have HN : Hid (PkN b vb V w0 C (.slice na C.nb.length nc) (.slice da C.dh.length dc) (.slice ka C.ks.length kc) (.slice ha C.hs.length hc) sa sc l) := n.keep ta
 have HE : Hid (Calls Tryz.prog 80 #[.pointer (some ⟨b, 0, none⟩), .agg #[.int .u32 C.P.mask, .int .u16 C.P.iv, .int .u8 C.P.opts, .int .u8 C.P.prio, .int .u32 C.P.dead, .int .u32 C.P.dr, .int .u32 C.P.bdr, .slice na C.nb.length nc]] w0 fun e w' => e = .returned (.tuple #[]) ∧ AddP b gb vb G V w0 (PkS 0 (.slice na C.nb.length nc) (.slice da C.dh.length dc) (.slice ka C.ks.length kc) (.slice sa l.length sc) (.slice ha C.hs.length hc) l) (.returned (.tuple #[])) w') :=
  Calls.mono (bagAddHello_any b gb vb G V C na C.nb.length nc _ w0 HH.out HN.out.n HN.out.ln HN.out.nn) (fun e w' ha => AddP.then (BagStep.refl _ _ _ _) (fun u hu => Or.inl hu) (fun j u _ hu => Or.inl hu) (S := fun _ _ => False) ha (fun j u hj => Or.inl (hj.resolve_left (fun f => f))))
 have A1 : Hid (Row w0 w.heap.size 33 [.int .u8 C.P.typ, .int .u32 C.P.router, .int .u32 C.P.area, .int .u32 C.P.mask, .int .u16 C.P.iv, .int .u8 C.P.opts, .int .u8 C.P.prio, .int .u32 C.P.dead, .int .u32 C.P.dr, .int .u32 C.P.bdr, .slice na C.nb.length nc, .int .u16 C.P.mtu, .int .u8 C.P.dopts, .int .u8 C.P.dflags, .int .u32 C.P.dseq, .slice da C.dh.length dc, .slice ka C.ks.length kc, .slice sa l.length sc, .slice ha C.hs.length hc]) := A0
 have TA : Hid (Touch (fun _ => False) w w0) := ta
 clear ta h n A0 hz hbs
 show Calls Tryz.prog 24 #[.pointer (some ⟨b, 0, none⟩), .agg #[.int .u8 C.P.typ, .int .u32 C.P.router, .int .u32 C.P.area, .int .u32 C.P.mask, .int .u16 C.P.iv, .int .u8 C.P.opts, .int .u8 C.P.prio, .int .u32 C.P.dead, .int .u32 C.P.dr, .int .u32 C.P.bdr, .slice na C.nb.length nc, .int .u16 C.P.mtu, .int .u8 C.P.dopts, .int .u8 C.P.dflags, .int .u32 C.P.dseq, .slice da C.dh.length dc, .slice ka C.ks.length kc, .slice sa l.length sc, .slice ha C.hs.length hc]] w _
 go_enter Tryz.func24, Tryz.ntmps24
 go_upto_region 1 with fail
 rw [← hw0]
 clear hw0
 generalize w.heap.size = g1 at *
 have y3 : w0.cell? ⟨g1, 3, none⟩ = some (.int .u32 C.P.mask) := A1.out.cell 3
 have y4 : w0.cell? ⟨g1, 4, none⟩ = some (.int .u16 C.P.iv) := A1.out.cell 4
 have y5 : w0.cell? ⟨g1, 5, none⟩ = some (.int .u8 C.P.opts) := A1.out.cell 5
 have y6 : w0.cell? ⟨g1, 6, none⟩ = some (.int .u8 C.P.prio) := A1.out.cell 6
 have y7 : w0.cell? ⟨g1, 7, none⟩ = some (.int .u32 C.P.dead) := A1.out.cell 7
 have y8 : w0.cell? ⟨g1, 8, none⟩ = some (.int .u32 C.P.dr) := A1.out.cell 8
 have y9 : w0.cell? ⟨g1, 9, none⟩ = some (.int .u32 C.P.bdr) := A1.out.cell 9
 have y10 : w0.cell? ⟨g1, 10, none⟩ = some (.slice na C.nb.length nc) := A1.out.cell 10
 go_wp2_with fail
 refine Calls.mono (HE.out) ?_
 rintro e x1 ⟨rfl, t1⟩
 have T1 : Hid (AddP b gb vb G V w0 (PkS 0 (.slice na C.nb.length nc) (.slice da C.dh.length dc) (.slice ka C.ks.length kc) (.slice sa l.length sc) (.slice ha C.hs.length hc) l) (.returned (.tuple #[])) x1) := t1
 clear t1 HE A1 y3 y4 y5 y6 y7 y8 y9 y10
 have y11 : x1.cell? ⟨g1, 11, none⟩ = some (.int .u16 C.P.mtu) := (AK.out _ _ T1.out).cell 11
 have y12 : x1.cell? ⟨g1, 12, none⟩ = some (.int .u8 C.P.dopts) := (AK.out _ _ T1.out).cell 12
 have y13 : x1.cell? ⟨g1, 13, none⟩ = some (.int .u8 C.P.dflags) := (AK.out _ _ T1.out).cell 13
 have y14 : x1.cell? ⟨g1, 14, none⟩ = some (.int .u32 C.P.dseq) := (AK.out _ _ T1.out).cell 14
 have y15 : x1.cell? ⟨g1, 15, none⟩ = some (.slice da C.dh.length dc) := (AK.out _ _ T1.out).cell 15
 go_wp2_with fail
 refine Calls.mono (pk_dd b gb vb G V C na nc da dc ka kc sa sc ha hc l HH.out HN.out T1.out) ?_
 rintro e x2 ⟨rfl, t2⟩
 have T2 : Hid (AddP b gb vb G V w0 (PkS 1 (.slice na C.nb.length nc) (.slice da C.dh.length dc) (.slice ka C.ks.length kc) (.slice sa l.length sc) (.slice ha C.hs.length hc) l) (.returned (.tuple #[])) x2) := t2
 clear t2 T1 y11 y12 y13 y14 y15
 have y16 : x2.cell? ⟨g1, 16, none⟩ = some (.slice ka C.ks.length kc) := (AK.out _ _ T2.out).cell 16
 go_wp2_with fail
 refine Calls.mono (pk_keys b gb vb G V C na nc da dc ka kc sa sc ha hc l HH.out HN.out T2.out) ?_
 rintro e x3 ⟨rfl, t3⟩
 have T3 : Hid (AddP b gb vb G V w0 (PkS 2 (.slice na C.nb.length nc) (.slice da C.dh.length dc) (.slice ka C.ks.length kc) (.slice sa l.length sc) (.slice ha C.hs.length hc) l) (.returned (.tuple #[])) x3) := t3
 clear t3 T2 y16
 have y17 : x3.cell? ⟨g1, 17, none⟩ = some (.slice sa l.length sc) := (AK.out _ _ T3.out).cell 17
 go_wp2_with fail
 refine Calls.mono (pk_sts b gb vb G V C na nc da dc ka kc sa sc ha hc l HH.out HN.out T3.out) ?_
 rintro e x4 ⟨rfl, t4⟩
 have T4 : Hid (AddP b gb vb G V w0 (PkS 3 (.slice na C.nb.length nc) (.slice da C.dh.length dc) (.slice ka C.ks.length kc) (.slice sa l.length sc) (.slice ha C.hs.length hc) l) (.returned (.tuple #[])) x4) := t4
 clear t4 T3 y17
 have y18 : x4.cell? ⟨g1, 18, none⟩ = some (.slice ha C.hs.length hc) := (AK.out _ _ T4.out).cell 18
 go_wp2_with fail
 refine Calls.mono (pk_heads b gb vb G V C na nc da dc ka kc sa sc ha hc l HH.out HN.out T4.out) ?_
 rintro e x5 ⟨rfl, t5⟩
 have T5 : Hid (AddP b gb vb G V w0 (PkS 4 (.slice na C.nb.length nc) (.slice da C.dh.length dc) (.slice ka C.ks.length kc) (.slice sa l.length sc) (.slice ha C.hs.length hc) l) (.returned (.tuple #[])) x5) := t5
 clear t5 T4 y18
 have TZ : Hid _ := AddP.from TA.out T5.out
 clear T5
 go_wp2
 go_end0
 exact TZ.out
end Go.Proofs.YtbfplepmgbkajaaGreatDoor
