/- Package packet: write. -/
import Derived.Test.YtbfplepmgbkajaaGreatDoorPkIs
import Derived.Test.YtbfplepmgbkajaaGreatDoorRowB
import Derived.Test.YtbfplepmgbkajaaGreatDoorStRow0
import Derived.Deep.RegionHeld2
import Derived.Deep.DeepCutAuto
import Derived.Deep.MidRow
import Derived.Test.YtbfplepmgbkajaaGreatDoorPkIt4
import Derived.Test.YtbfplepmgbkajaaGreatDoorPkIt12
namespace Go.Proofs.YtbfplepmgbkajaaGreatDoor
open Go.RowKit
set_option linter.unusedVariables false
set_option maxRecDepth 100000

/-- A packet's rows, as they came in. -/
structure PkAt (w : World) (C : PkC) (vn vd vk vs vh : Value) : Prop where
 n : WordsAt w vn C.nb
 d : HeadsAt w vd C.dh
 k : KeysAt w vk C.ks
 s : ∃ l, l.map SE.p = C.ss ∧ StatesAt w vs l
 h : HeadsAt w vh C.hs
theorem PkAt.keep {w w' : World} {C : PkC} {vn vd vk vs vh : Value} (h : PkAt w C vn vd vk vs vh) (t : Touch (fun _ => False) w w') : PkAt w' C vn vd vk vs vh := by
 obtain ⟨l, hl, hs⟩ := h.s
 exact ⟨h.n.keep t, ValsAt.keep h.d t, ValsAt.keep h.k t, ⟨l, hl, hs.keep t⟩, ValsAt.keep h.h t⟩
theorem PkAt.forms {w : World} {C : PkC} {vn vd vk vs vh : Value} (h : PkAt w C vn vd vk vs vh) : ∃ na nc da dc ka kc sa sc ha hc, vn = .slice na C.nb.length nc ∧ vd = .slice da C.dh.length dc ∧ vk = .slice ka C.ks.length kc ∧ vs = .slice sa C.ss.length sc ∧ vh = .slice ha C.hs.length hc := by
 obtain ⟨na, nc, e1, -⟩ := ValsAt.form h.n
 obtain ⟨da, dc, e2, -⟩ := ValsAt.form h.d
 obtain ⟨ka, kc, e3, -⟩ := ValsAt.form h.k
 obtain ⟨l, hl, hs⟩ := h.s
 obtain ⟨sa, sc, e4, -⟩ := ValsAt.form hs.vals
 obtain ⟨ha, hc, e5, -⟩ := ValsAt.form h.h
 exact ⟨na, nc, da, dc, ka, kc, sa, sc, ha, hc, e1, e2, e3, by rw [e4, ← hl, List.length_map], e5⟩
/-- Not too many. -/
structure PkC.Lt (C : PkC) : Prop where
 n : C.ss.length ≤ 1000000
 b : ∀ s ∈ C.ss, s.2.length ≤ 1000000
theorem pure_alone (C : PkC) : pureB C.P.typ (hasHb C.P C.nb.length) (hasDb C.P C.dh.length) (posB C.ks.length) (posB C.ss.length) (posB C.hs.length) = true ↔ PAlone C := by
 rw [pureB_iff]
 have hl : ∀ {α : Type} (l : List α), posB l.length = true ↔ l ≠ [] := by
  intro α l
  cases l <;> simp [posB]
 have e1 : hasHb C.P C.nb.length = hasH C := rfl
 have e2 : hasDb C.P C.dh.length = hasD C := rfl
 rw [e1, e2]
 constructor
 ·intro h
  refine ⟨fun ne => ?_, fun ne => ?_, fun ne => ?_, fun ne => ?_, fun ne => ?_⟩
  ·exact Bool.eq_false_iff.2 (fun g => ne (h 1 (by omega) g).symm)
  ·exact Bool.eq_false_iff.2 (fun g => ne (h 2 (by omega) g).symm)
  ·exact Decidable.byContradiction (fun g => ne (h 3 (by omega) ((hl C.ks).2 g)).symm)
  ·exact Decidable.byContradiction (fun g => ne (h 4 (by omega) ((hl C.ss).2 g)).symm)
  ·exact Decidable.byContradiction (fun g => ne (h 5 (by omega) ((hl C.hs).2 g)).symm)
 ·intro h k hk hh
  refine Decidable.byContradiction (fun g => ?_)
  obtain rfl | rfl | rfl | rfl | rfl | rfl : k = 0 ∨ k = 1 ∨ k = 2 ∨ k = 3 ∨ k = 4 ∨ k = 5 := by omega
  ·cases hh
  ·have := h.h (fun e => g e.symm); change hasH C = true at hh; rw [this] at hh; cases hh
  ·have := h.d (fun e => g e.symm); change hasD C = true at hh; rw [this] at hh; cases hh
  ·exact (hl _).1 hh (h.k (fun e => g e.symm))
  ·exact (hl _).1 hh (h.s (fun e => g e.symm))
  ·exact (hl _).1 hh (h.a (fun e => g e.symm))
theorem any_meas (C : PkC) (l : List SE) (hl : l.map SE.p = C.ss) : (l.any fun x => mwB x.h.len x.rs.length) = !pmeas C := by
 unfold pmeas
 rw [← hl]
 clear hl
 induction l with
 | nil => rfl
 | cons x r ih =>
  rw [List.any_cons, ih, List.map_cons, List.all_cons, Bool.not_and]
  congr 1
end Go.Proofs.YtbfplepmgbkajaaGreatDoor

namespace Go.Proofs.YtbfplepmgbkajaaGreatDoor
open Go.RowKit
set_option linter.unusedVariables false
set_option maxRecDepth 100000

theorem headB_bt (h : HV) (ok : h.All) : ∀ z ∈ headB h, 0 ≤ z ∧ z < 256 := by
 intro z hz
 unfold headB at hz
 simp only [List.mem_append] at hz
 rcases hz with (((((hz | hz) | hz) | hz) | hz) | hz) | hz
 ·exact numBytes_byte _ _ z hz
 ·simp only [List.mem_cons, List.not_mem_nil, or_false] at hz
  rcases hz with rfl | rfl
  ·exact ok.o
  ·exact ok.t
 all_goals exact numBytes_byte _ _ z hz
theorem flat_bt {α : Type} (f : α → List Int) (l : List α) (h : ∀ x ∈ l, ∀ z ∈ f x, 0 ≤ z ∧ z < 256) : ∀ z ∈ l.flatMap f, 0 ≤ z ∧ z < 256 := by
 intro z hz
 obtain ⟨x, hx, hz⟩ := List.mem_flatMap.1 hz
 exact h x hx z hz
theorem app_bt {a b : List Int} (ha : ∀ z ∈ a, 0 ≤ z ∧ z < 256) (hb : ∀ z ∈ b, 0 ≤ z ∧ z < 256) : ∀ z ∈ a ++ b, 0 ≤ z ∧ z < 256 := by
 intro z hz
 rcases List.mem_append.1 hz with hz | hz
 ·exact ha z hz
 ·exact hb z hz
theorem two_bt {a b : Int} (ha : 0 ≤ a ∧ a < 256) (hb : 0 ≤ b ∧ b < 256) : ∀ z ∈ [a, b], 0 ≤ z ∧ z < 256 := by
 intro z hz
 simp only [List.mem_cons, List.not_mem_nil, or_false] at hz
 rcases hz with rfl | rfl
 ·exact ha
 ·exact hb
theorem data_bt (A : AuV) (oa : A.Ok) : ∀ z ∈ A.data, 0 ≤ z ∧ z < 256 := by
 intro z hz
 simp only [AuV.data, List.mem_cons, List.not_mem_nil, or_false] at hz
 rcases hz with rfl | rfl | rfl | rfl | rfl | rfl | rfl | rfl
 ·exact oa.d0
 ·exact oa.d1
 ·exact oa.d2
 ·exact oa.d3
 ·exact oa.d4
 ·exact oa.d5
 ·exact oa.d6
 ·exact oa.d7
theorem phead_bt (P : PV) (ok : P.Ok) (A : AuV) (oa : A.Ok) : ∀ z ∈ pheadB P A, 0 ≤ z ∧ z < 256 := by
 unfold pheadB
 exact app_bt (app_bt (app_bt (app_bt (app_bt (app_bt (two_bt (by omega) ok.typ) (numBytes_byte _ _)) (numBytes_byte _ _)) (numBytes_byte _ _)) (numBytes_byte _ _)) (numBytes_byte _ _)) (data_bt A oa)
theorem length_pheadB (P : PV) (A : AuV) : (pheadB P A).length = 24 := by simp [pheadB, numBytes, AuV.data]
theorem pbody_bt (C : PkC) (ok : C.Ok) : ∀ z ∈ pbodyB C, 0 ≤ z ∧ z < 256 := by
 unfold pbodyB
 split
 ·unfold helloB wordsB
  exact app_bt (app_bt (app_bt (app_bt (app_bt (app_bt (numBytes_byte _ _) (numBytes_byte _ _)) (two_bt ok.P.opts ok.P.prio)) (numBytes_byte _ _)) (numBytes_byte _ _)) (numBytes_byte _ _)) (flat_bt _ _ (fun x _ => numBytes_byte _ _))
 ·split
  ·unfold descB headsB
   exact app_bt (app_bt (app_bt (numBytes_byte _ _) (two_bt ok.P.dopts ok.P.dflags)) (numBytes_byte _ _)) (flat_bt _ _ (fun x hx => headB_bt x (ok.dh x hx)))
  ·split
   ·unfold keysB keyB
    exact flat_bt _ _ (fun x _ => app_bt (app_bt (numBytes_byte _ _) (numBytes_byte _ _)) (numBytes_byte _ _))
   ·split
    ·unfold stsP stP
     exact app_bt (numBytes_byte _ _) (flat_bt _ _ (fun x hx => app_bt (headB_bt x.1 (ok.sh x hx)) (ok.sb x hx)))
    ·unfold headsB
     exact flat_bt _ _ (fun x hx => headB_bt x (ok.hs x hx))
/-- What write and Encode's inner function leave. -/
structure PEnd (C : PkC) (A : AuV) (w : World) (e : Ending) (w' : World) : Prop where
 out : (pencE C A = 0 ∧ ∃ v, e = .returned v ∧ Buf w w' v (pencB C A)) ∨ (pencE C A ≠ 0 ∧ e = .panicked (pflawC (pencE C A)) ∧ Touch (fun _ => False) w w')
theorem pend_bad {C : PkC} {A : AuV} {w w' : World} {n : Int} (he : pencE C A = n) (hn : n ≠ 0) (t : Touch (fun _ => False) w w') : PEnd C A w (.panicked (pflawC n)) w' := by
 subst he
 exact ⟨Or.inr ⟨hn, rfl, t⟩⟩
theorem pencE_21 {C : PkC} {A : AuV} (h : ¬ (1 ≤ C.P.typ ∧ C.P.typ ≤ 5)) : pencE C A = 21 := by unfold pencE; rw [if_pos h]
theorem pencE_24 {C : PkC} {A : AuV} (h : 1 ≤ C.P.typ ∧ C.P.typ ≤ 5) (h2 : ¬ PAlone C) : pencE C A = 24 := by unfold pencE; rw [if_neg (fun g => g h), if_pos h2]
theorem pencE_22 {C : PkC} {A : AuV} (h : 1 ≤ C.P.typ ∧ C.P.typ ≤ 5) (h2 : PAlone C) (h3 : pmeas C = false) : pencE C A = 22 := by unfold pencE; rw [if_neg (fun g => g h), if_neg (fun g => g h2), if_pos h3]
theorem pencE_25 {C : PkC} {A : AuV} (h : 1 ≤ C.P.typ ∧ C.P.typ ≤ 5) (h2 : PAlone C) (h3 : pmeas C = true) (h4 : 2 < A.kind) : pencE C A = 25 := by unfold pencE; rw [if_neg (fun g => g h), if_neg (fun g => g h2), if_neg (by rw [h3]; simp), if_pos h4]
theorem pencE_11 {C : PkC} {A : AuV} (h : 1 ≤ C.P.typ ∧ C.P.typ ≤ 5) (h2 : PAlone C) (h3 : pmeas C = true) (h4 : ¬ 2 < A.kind) (h5 : 65535 < 24 + (pbodyB C).length) : pencE C A = 11 := by unfold pencE; rw [if_neg (fun g => g h), if_neg (fun g => g h2), if_neg (by rw [h3]; simp), if_neg h4, if_pos h5]
theorem pend_good {C : PkC} {A : AuV} {w w' : World} {v : Value} (h : PEnc C A) (b : Buf w w' v (sealedB A.kind (pheadB C.P A ++ pbodyB C))) : PEnd C A w (.returned v) w' := by
 refine ⟨Or.inl ⟨h.zero, v, rfl, ?_⟩⟩
 unfold pencB
 rw [if_pos h.zero]
 exact b
theorem Pd.range {w : World} {g : Nat} {P : PV} {vn vd vk vs vh : Value} (k : Pd w g P vn vd vk vs vh) : w.rangeAt g 0 [.int .u8 P.typ, .int .u32 P.router, .int .u32 P.area, .int .u32 P.mask, .int .u16 P.iv, .int .u8 P.opts, .int .u8 P.prio, .int .u32 P.dead, .int .u32 P.dr, .int .u32 P.bdr, vn, .int .u16 P.mtu, .int .u8 P.dopts, .int .u8 P.dflags, .int .u32 P.dseq, vd, vk, vs, vh] := by
 intro j v hj
 match j, hj with
 | 0, h => cases h; exact k.c0
 | 1, h => cases h; exact k.c1
 | 2, h => cases h; exact k.c2
 | 3, h => cases h; exact k.c3
 | 4, h => cases h; exact k.c4
 | 5, h => cases h; exact k.c5
 | 6, h => cases h; exact k.c6
 | 7, h => cases h; exact k.c7
 | 8, h => cases h; exact k.c8
 | 9, h => cases h; exact k.c9
 | 10, h => cases h; exact k.c10
 | 11, h => cases h; exact k.c11
 | 12, h => cases h; exact k.c12
 | 13, h => cases h; exact k.c13
 | 14, h => cases h; exact k.c14
 | 15, h => cases h; exact k.c15
 | 16, h => cases h; exact k.c16
 | 17, h => cases h; exact k.c17
 | 18, h => cases h; exact k.c18
 | j + 19, h => simp at h
theorem Ad.range {w : World} {g : Nat} {A : AuV} (k : Ad w g A) : w.rangeAt g 0 [.int .u16 A.kind, .int .u8 A.d0, .int .u8 A.d1, .int .u8 A.d2, .int .u8 A.d3, .int .u8 A.d4, .int .u8 A.d5, .int .u8 A.d6, .int .u8 A.d7] := by
 intro j v hj
 match j, hj with
 | 0, h => cases h; exact k.c0
 | 1, h => cases h; exact k.c1
 | 2, h => cases h; exact k.c2
 | 3, h => cases h; exact k.c3
 | 4, h => cases h; exact k.c4
 | 5, h => cases h; exact k.c5
 | 6, h => cases h; exact k.c6
 | 7, h => cases h; exact k.c7
 | 8, h => cases h; exact k.c8
 | j + 9, h => simp at h
end Go.Proofs.YtbfplepmgbkajaaGreatDoor

namespace Go.Proofs.YtbfplepmgbkajaaGreatDoor
open Go.RowKit
set_option linter.unusedVariables false
set_option maxRecDepth 100000

/-- A packet's rows, made since a base. -/
structure POwn (base : Nat) (w : World) (C : PkC) (vn vd vk vs vh : Value) : Prop where
 n : w.ownsRow base 22 1 vn C.nb.length (wordsC C.nb)
 d : w.ownsRow base 93 8 vd C.dh.length (headsC C.dh)
 k : w.ownsRow base 125 3 vk C.ks.length (keysC C.ks)
 s : ∃ l : List SE, l.map SE.p = C.ss ∧ w.ownsRow base 95 9 vs l.length (statesC l) ∧ ∀ x ∈ l, w.ownsRow base 5 1 x.v x.rs.length (bytesOf x.rs)
 h : w.ownsRow base 93 8 vh C.hs.length (headsC C.hs)
theorem own_nil (base : Nat) (w : World) (e k : Nat) : w.ownsRow base e k (.slice none 0 0) 0 [] := World.ownsRow_nil _ _ _ _
/-- No two bodies share a block. -/
def Apt (x y : SE) : Prop := ∀ k, x.v.ownBlock = some k → ¬ y.v.ownBlock = some k
/-- The same as POwn, and the bodies lie apart. -/
structure POwnA (base : Nat) (w : World) (C : PkC) (vn vd vk vs vh : Value) : Prop where
 n : w.ownsRow base 22 1 vn C.nb.length (wordsC C.nb)
 d : w.ownsRow base 93 8 vd C.dh.length (headsC C.dh)
 k : w.ownsRow base 125 3 vk C.ks.length (keysC C.ks)
 s : ∃ l : List SE, l.map SE.p = C.ss ∧ w.ownsRow base 95 9 vs l.length (statesC l) ∧ (∀ x ∈ l, w.ownsRow base 5 1 x.v x.rs.length (bytesOf x.rs)) ∧ l.Pairwise Apt
 h : w.ownsRow base 93 8 vh C.hs.length (headsC C.hs)
 x : ∀ k, vd.ownBlock = some k → ¬ vh.ownBlock = some k
theorem POwnA.own {base : Nat} {w : World} {C : PkC} {vn vd vk vs vh : Value} (h : POwnA base w C vn vd vk vs vh) : POwn base w C vn vd vk vs vh := by
 obtain ⟨l, h1, h2, h3, _⟩ := h.s
 exact ⟨h.n, h.d, h.k, ⟨l, h1, h2, h3⟩, h.h⟩
theorem statesA_nil (base : Nat) (w : World) : ∃ l : List SE, l.map SE.p = [] ∧ w.ownsRow base 95 9 (.slice none 0 0) l.length (statesC l) ∧ (∀ x ∈ l, w.ownsRow base 5 1 x.v x.rs.length (bytesOf x.rs)) ∧ l.Pairwise Apt := ⟨[], rfl, own_nil _ _ _ _, (fun x hx => by cases hx), List.Pairwise.nil⟩
/-- What is read lies in block gp. -/
structure RdOut (b gp : Nat) (w w' : World) (C : PkC) : Prop where
 out : ∃ vn vd vk vs vh, Pd w' gp C.P vn vd vk vs vh ∧ Room w' gp 19 ∧ POwnA w.heap.size w' C vn vd vk vs vh
/-- The parts of a packet are read, or it is given up. -/
structure PtP (b gp : Nat) (P : PV) (c : List Int) (w : World) (e : Ending) (w' : World) : Prop where
 t : Touch (fun k => k = b ∨ k = gp) w w'
 out : (ppartE P.typ c = 0 ∧ e = .returned (.tuple #[]) ∧ RdOut b gp w w' (ppartC P c)) ∨ (ppartE P.typ c ≠ 0 ∧ e = .panicked (pflawC (ppartE P.typ c)))
theorem ptp_no {b gp : Nat} {P : PV} {c : List Int} {w w' : World} {n : Int} (he : ppartE P.typ c = n) (hn : n ≠ 0) (t : Touch (fun k => k = b ∨ k = gp) w w') : PtP b gp P c w (.panicked (pflawC n)) w' := by
 subst he
 exact ⟨t, Or.inr ⟨hn, rfl⟩⟩
theorem ptp_ok {b gp : Nat} {P : PV} {c : List Int} {w w' : World} (he : ppartE P.typ c = 0) (t : Touch (fun k => k = b ∨ k = gp) w w') {vn vd vk vs vh : Value} (p : Pd w' gp (ppartC P c).P vn vd vk vs vh) (r : Room w' gp 19) (o : POwnA w.heap.size w' (ppartC P c) vn vd vk vs vh) : PtP b gp P c w (.returned (.tuple #[])) w' :=
 ⟨t, Or.inl ⟨he, rfl, ⟨vn, vd, vk, vs, vh, p, r, o⟩⟩⟩
theorem prnum4 (N b p : Nat) (rs : List Int) (w : World) (h : Rdr N w b rs (some p)) : Calls Tryz.prog 140 #[.agg #[.pointer (some ⟨b, 0, none⟩)], .int .i64 4] w (RP N w b rs p 4 (.int .u32 (nAt rs p 4))) := prnum_n 4 (by omega) (by omega) N b p rs w h
theorem Pd.setHello {w : World} {g : Nat} {P : PV} {vn vd vk vs vh : Value} (k : Pd w g P vn vd vk vs vh) (m i o p d r q : Int) (v : Value) : Pd ((((((((w.setCell ⟨g, 3, none⟩ (.int .u32 m)).setCell ⟨g, 4, none⟩ (.int .u16 i)).setCell ⟨g, 5, none⟩ (.int .u8 o)).setCell ⟨g, 6, none⟩ (.int .u8 p)).setCell ⟨g, 7, none⟩ (.int .u32 d)).setCell ⟨g, 8, none⟩ (.int .u32 r)).setCell ⟨g, 9, none⟩ (.int .u32 q)).setCell ⟨g, 10, none⟩ (v)) g { P with mask := m, iv := i, opts := o, prio := p, dead := d, dr := r, bdr := q } v vd vk vs vh :=
 ⟨by simp [go_sem, k.c0], by simp [go_sem, k.c1], by simp [go_sem, k.c2], by simp [go_sem, k.c3], by simp [go_sem, k.c4], by simp [go_sem, k.c5], by simp [go_sem, k.c6], by simp [go_sem, k.c7], by simp [go_sem, k.c8], by simp [go_sem, k.c9], by simp [go_sem, k.c10], by simp [go_sem, k.c11], by simp [go_sem, k.c12], by simp [go_sem, k.c13], by simp [go_sem, k.c14], by simp [go_sem, k.c15], by simp [go_sem, k.c16], by simp [go_sem, k.c17], by simp [go_sem, k.c18]⟩
theorem Pd.setDesc {w : World} {g : Nat} {P : PV} {vn vd vk vs vh : Value} (k : Pd w g P vn vd vk vs vh) (m o f s : Int) (v : Value) : Pd (((((w.setCell ⟨g, 11, none⟩ (.int .u16 m)).setCell ⟨g, 12, none⟩ (.int .u8 o)).setCell ⟨g, 13, none⟩ (.int .u8 f)).setCell ⟨g, 14, none⟩ (.int .u32 s)).setCell ⟨g, 15, none⟩ (v)) g { P with mtu := m, dopts := o, dflags := f, dseq := s } vn v vk vs vh :=
 ⟨by simp [go_sem, k.c0], by simp [go_sem, k.c1], by simp [go_sem, k.c2], by simp [go_sem, k.c3], by simp [go_sem, k.c4], by simp [go_sem, k.c5], by simp [go_sem, k.c6], by simp [go_sem, k.c7], by simp [go_sem, k.c8], by simp [go_sem, k.c9], by simp [go_sem, k.c10], by simp [go_sem, k.c11], by simp [go_sem, k.c12], by simp [go_sem, k.c13], by simp [go_sem, k.c14], by simp [go_sem, k.c15], by simp [go_sem, k.c16], by simp [go_sem, k.c17], by simp [go_sem, k.c18]⟩
theorem Pd.setKeys {w : World} {g : Nat} {P : PV} {vn vd vk vs vh : Value} (k : Pd w g P vn vd vk vs vh) (v : Value) : Pd (w.setCell ⟨g, 16, none⟩ (v)) g P vn vd v vs vh :=
 ⟨by simp [go_sem, k.c0], by simp [go_sem, k.c1], by simp [go_sem, k.c2], by simp [go_sem, k.c3], by simp [go_sem, k.c4], by simp [go_sem, k.c5], by simp [go_sem, k.c6], by simp [go_sem, k.c7], by simp [go_sem, k.c8], by simp [go_sem, k.c9], by simp [go_sem, k.c10], by simp [go_sem, k.c11], by simp [go_sem, k.c12], by simp [go_sem, k.c13], by simp [go_sem, k.c14], by simp [go_sem, k.c15], by simp [go_sem, k.c16], by simp [go_sem, k.c17], by simp [go_sem, k.c18]⟩
theorem Pd.setStates {w : World} {g : Nat} {P : PV} {vn vd vk vs vh : Value} (k : Pd w g P vn vd vk vs vh) (v : Value) : Pd (w.setCell ⟨g, 17, none⟩ (v)) g P vn vd vk v vh :=
 ⟨by simp [go_sem, k.c0], by simp [go_sem, k.c1], by simp [go_sem, k.c2], by simp [go_sem, k.c3], by simp [go_sem, k.c4], by simp [go_sem, k.c5], by simp [go_sem, k.c6], by simp [go_sem, k.c7], by simp [go_sem, k.c8], by simp [go_sem, k.c9], by simp [go_sem, k.c10], by simp [go_sem, k.c11], by simp [go_sem, k.c12], by simp [go_sem, k.c13], by simp [go_sem, k.c14], by simp [go_sem, k.c15], by simp [go_sem, k.c16], by simp [go_sem, k.c17], by simp [go_sem, k.c18]⟩
theorem Pd.setHeads {w : World} {g : Nat} {P : PV} {vn vd vk vs vh : Value} (k : Pd w g P vn vd vk vs vh) (v : Value) : Pd (w.setCell ⟨g, 18, none⟩ (v)) g P vn vd vk vs v :=
 ⟨by simp [go_sem, k.c0], by simp [go_sem, k.c1], by simp [go_sem, k.c2], by simp [go_sem, k.c3], by simp [go_sem, k.c4], by simp [go_sem, k.c5], by simp [go_sem, k.c6], by simp [go_sem, k.c7], by simp [go_sem, k.c8], by simp [go_sem, k.c9], by simp [go_sem, k.c10], by simp [go_sem, k.c11], by simp [go_sem, k.c12], by simp [go_sem, k.c13], by simp [go_sem, k.c14], by simp [go_sem, k.c15], by simp [go_sem, k.c16], by simp [go_sem, k.c17], by simp [go_sem, k.c18]⟩

theorem own_form2 {base e k n : Nat} {w : World} {v : Value} {xs : List Value} (h : w.ownsRow base e k v n xs) : ∃ a c, v = .slice a n c := by
 rcases h.2 with ⟨rfl, e⟩ | ⟨g, cap, cur, rfl, _⟩
 ·exact ⟨none, 0, by rw [e]⟩
 ·exact ⟨_, cap, rfl⟩
theorem Pd.touch {F : Nat → Prop} {w w' : World} {g : Nat} {P : PV} {vn vd vk vs vh : Value} (k : Pd w g P vn vd vk vs vh) (t : Touch F w w') (hg : ¬ F g) : Pd w' g P vn vd vk vs vh :=
 ⟨(t.cell (lt_of_cellA k.c0) hg).trans k.c0, (t.cell (lt_of_cellA k.c1) hg).trans k.c1, (t.cell (lt_of_cellA k.c2) hg).trans k.c2, (t.cell (lt_of_cellA k.c3) hg).trans k.c3, (t.cell (lt_of_cellA k.c4) hg).trans k.c4, (t.cell (lt_of_cellA k.c5) hg).trans k.c5, (t.cell (lt_of_cellA k.c6) hg).trans k.c6, (t.cell (lt_of_cellA k.c7) hg).trans k.c7, (t.cell (lt_of_cellA k.c8) hg).trans k.c8, (t.cell (lt_of_cellA k.c9) hg).trans k.c9, (t.cell (lt_of_cellA k.c10) hg).trans k.c10, (t.cell (lt_of_cellA k.c11) hg).trans k.c11, (t.cell (lt_of_cellA k.c12) hg).trans k.c12, (t.cell (lt_of_cellA k.c13) hg).trans k.c13, (t.cell (lt_of_cellA k.c14) hg).trans k.c14, (t.cell (lt_of_cellA k.c15) hg).trans k.c15, (t.cell (lt_of_cellA k.c16) hg).trans k.c16, (t.cell (lt_of_cellA k.c17) hg).trans k.c17, (t.cell (lt_of_cellA k.c18) hg).trans k.c18⟩
end Go.Proofs.YtbfplepmgbkajaaGreatDoor
