/- The document's side of stage 7: the parts of a packet that are read. -/
import Derived.Test.YtbfplepmgbkajaaGreatDoorRefPkD4
import Derived.Test.YtbfplepmgbkajaaGreatDoorPkRp
import Derived.Test.YtbfplepmgbkajaaGreatDoorPkBk
namespace Go.Proofs.YtbfplepmgbkajaaGreatDoor
open Go.RowKit
set_option linter.unusedVariables false
set_option maxRecDepth 100000

/-- What parts answers. -/
structure DpP (w : World) (P : PV) (c : List Int) (e : Ending) (w' : World) : Prop where
 t : Touch (fun _ => False) w w'
 out : (ppartE P.typ c = 0 ∧ ∃ vn vd vk vs vh, e = .returned (.tuple #[(ppartC P c).P.v vn vd vk vs vh, .int .i64 0]) ∧ ∀ w'', Touch (fun k => k < w.heap.size) w' w'' → PkAt w'' (ppartC P c) vn vd vk vs vh) ∨
  (ppartE P.typ c ≠ 0 ∧ e = .returned (.tuple #[.agg #[.int .u8 0, .int .u32 0, .int .u32 0, .int .u32 0, .int .u16 0, .int .u8 0, .int .u8 0, .int .u32 0, .int .u32 0, .int .u32 0, .slice none 0 0, .int .u16 0, .int .u8 0, .int .u8 0, .int .u32 0, .slice none 0 0, .slice none 0 0, .slice none 0 0, .slice none 0 0], .int .i64 (ppartE P.typ c)]))
theorem words_nil (w : World) : WordsAt w (.slice none 0 0) [] := ⟨rfl, Or.inl ⟨rfl, rfl⟩⟩
theorem heads_nil (w : World) : HeadsAt w (.slice none 0 0) [] := ⟨rfl, Or.inl ⟨rfl, rfl⟩⟩
theorem keys_nil (w : World) : KeysAt w (.slice none 0 0) [] := ⟨rfl, Or.inl ⟨rfl, rfl⟩⟩
theorem sts_nil (w : World) : ∃ l, l.map SE.p = [] ∧ StatesAt w (.slice none 0 0) l := ⟨[], rfl, ⟨⟨rfl, Or.inl ⟨rfl, rfl⟩⟩, fun x h => by cases h⟩⟩
set_option maxHeartbeats 20000000 in
theorem dparts_any (P : PV) (v : Value) (c : List Int) (w : World) (hv : ArgAt w v c) (hby : ∀ z ∈ c, 0 ≤ z ∧ z < 256) (hl : c.length ≤ 1000000) : Calls Tryz.prog 74 #[P.v (.slice none 0 0) (.slice none 0 0) (.slice none 0 0) (.slice none 0 0) (.slice none 0 0), v] w (DpP w P c) := by
 obtain ⟨va, vc, rfl, -⟩ := hv.form
 unfold PV.v
 obtain ⟨w0, hw0⟩ : ∃ w0, w0 = (w.alloc (.cells #[.int .u8 P.typ, .int .u32 P.router, .int .u32 P.area, .int .u32 P.mask, .int .u16 P.iv, .int .u8 P.opts, .int .u8 P.prio, .int .u32 P.dead, .int .u32 P.dr, .int .u32 P.bdr, .slice none 0 0, .int .u16 P.mtu, .int .u8 P.dopts, .int .u8 P.dflags, .int .u32 P.dseq, .slice none 0 0, .slice none 0 0, .slice none 0 0, .slice none 0 0] 33)).alloc (.cells #[.int .u8 0, .int .u32 0, .int .u32 0, .int .u32 0, .int .u16 0, .int .u8 0, .int .u8 0, .int .u32 0, .int .u32 0, .int .u32 0, .slice none 0 0, .int .u16 0, .int .u8 0, .int .u8 0, .int .u32 0, .slice none 0 0, .slice none 0 0, .slice none 0 0, .slice none 0 0] 33) := ⟨_, rfl⟩
 have ta : Touch (fun _ => False) w w0 := by rw [hw0]; exact ((Touch.refl _ w).alloc _).alloc _
 have A0 : Row w0 w.heap.size 33 [.int .u8 P.typ, .int .u32 P.router, .int .u32 P.area, .int .u32 P.mask, .int .u16 P.iv, .int .u8 P.opts, .int .u8 P.prio, .int .u32 P.dead, .int .u32 P.dr, .int .u32 P.bdr, .slice none 0 0, .int .u16 P.mtu, .int .u8 P.dopts, .int .u8 P.dflags, .int .u32 P.dseq, .slice none 0 0, .slice none 0 0, .slice none 0 0, .slice none 0 0] := by rw [hw0]; exact (row_new w 33 #[.int .u8 P.typ, .int .u32 P.router, .int .u32 P.area, .int .u32 P.mask, .int .u16 P.iv, .int .u8 P.opts, .int .u8 P.prio, .int .u32 P.dead, .int .u32 P.dr, .int .u32 P.bdr, .slice none 0 0, .int .u16 P.mtu, .int .u8 P.dopts, .int .u8 P.dflags, .int .u32 P.dseq, .slice none 0 0, .slice none 0 0, .slice none 0 0, .slice none 0 0]).keep ((Touch.refl _ _).alloc _)
 have B0 : Row w0 (w.heap.size + 1) 33 [.int .u8 0, .int .u32 0, .int .u32 0, .int .u32 0, .int .u16 0, .int .u8 0, .int .u8 0, .int .u32 0, .int .u32 0, .int .u32 0, .slice none 0 0, .int .u16 0, .int .u8 0, .int .u8 0, .int .u32 0, .slice none 0 0, .slice none 0 0, .slice none 0 0, .slice none 0 0] := by
  have := row_new (w.alloc (.cells #[.int .u8 P.typ, .int .u32 P.router, .int .u32 P.area, .int .u32 P.mask, .int .u16 P.iv, .int .u8 P.opts, .int .u8 P.prio, .int .u32 P.dead, .int .u32 P.dr, .int .u32 P.bdr, .slice none 0 0, .int .u16 P.mtu, .int .u8 P.dopts, .int .u8 P.dflags, .int .u32 P.dseq, .slice none 0 0, .slice none 0 0, .slice none 0 0, .slice none 0 0] 33)) 33 #[.int .u8 0, .int .u32 0, .int .u32 0, .int .u32 0, .int .u16 0, .int .u8 0, .int .u8 0, .int .u32 0, .int .u32 0, .int .u32 0, .slice none 0 0, .int .u16 0, .int .u8 0, .int .u8 0, .int .u32 0, .slice none 0 0, .slice none 0 0, .slice none 0 0, .slice none 0 0]
  rw [← hw0] at this
  simpa using this
 have TA : Hid (Touch (fun _ => False) w w0) := ta
 have HV' : Hid (∀ w', Touch (fun _ => False) w0 w' → ArgAt w' (.slice va c.length vc) c) := fun w' t => hv.keepN (ta.trans t)
 have HBY : Hid (∀ z ∈ c, 0 ≤ z ∧ z < 256) := hby
 have HGA0 : Hid (∀ g o, va = some ⟨g, o, none⟩ → 0 < c.length → g < w.heap.size) := fun g o e h => by subst e; exact lt_of_cell (rowAt_cell (hv.row h) 0 h)
 have HZ0 : Hid (w0.heap.size = w.heap.size + 2) := by show _ = _; rw [hw0]; simp
 clear ta hv hby
 go_enter Tryz.func74, Tryz.ntmps74
 go_upto_region 3 with fail
 rw [← hw0]
 clear hw0
 have ng41 : ¬ w.heap.size + 1 = w.heap.size := by omega
 generalize hg4 : w.heap.size + 1 = g4 at *
 generalize hg1 : w.heap.size = g1 at *
 have HZ : Hid (w.heap.size = g1 ∧ g1 + 1 = g4) := ⟨hg1, hg4⟩
 clear hg1 hg4
 have c0 : w0.cell? ⟨g1, 0, none⟩ = some (.int .u8 P.typ) := A0.cell 0
 rcases (by omega : P.typ = 4 ∨ P.typ = 3 ∨ (¬ P.typ = 1 ∧ ¬ P.typ = 2 ∧ ¬ P.typ = 3 ∧ ¬ P.typ = 4) ∨ P.typ = 1 ∨ P.typ = 2) with ht | ht | ⟨h1, h2, h3, h4⟩ | ht | ht
 ·have n1 : (P.typ == 1) = false := by simp [ht]
  have n2 : (P.typ == 2) = false := by simp [ht]
  have n3 : (P.typ == 3) = false := by simp [ht]
  have n4 : (P.typ == 4) = true := by simp [ht]
  have HT : Hid (P.typ = 4) := ht
  clear ht
  have Z0 : Hid (w0.heap.size = g1 + 2) := by have := HZ0.out; have := HZ.out; show _ = _; omega
  have HC := dstates7 _ c w0 (HV'.out w0 (Touch.refl _ _)) HBY.out hl
  go_wp2_with fail
  refine Calls.mono HC ?_
  intro e w1 h1
  have T1 := h1.t
  obtain ⟨u, q, rfl, hq, hqt, hqf⟩ := h1.out
  have hu : ∃ a n cc, u = .slice a n cc := by
   cases q with
   | true => obtain ⟨l, _, hs, _⟩ := hqt rfl; obtain ⟨a, cc, e⟩ := own_form hs; exact ⟨a, _, cc, e⟩
   | false => obtain ⟨n, cc, a, e⟩ := hqf rfl; exact ⟨a, n, cc, e⟩
  obtain ⟨sa, sn, sc, rfl⟩ := hu
  have HQ : Hid (q = true ↔ 4 ≤ c.length ∧ (rdAll c).isSome = true) := hq
  have HQT : Hid (q = true → ∃ l : List SE, l.map SE.p = (rdAll c).getD [] ∧ w1.ownsRow w0.heap.size 95 9 (.slice sa sn sc) l.length (statesC l) ∧ (∀ x ∈ l, w1.ownsRow w0.heap.size 5 1 x.v x.rs.length (bytesOf x.rs)) ∧ ∀ x ∈ l, x.h.All ∧ ∀ z ∈ x.rs, 0 ≤ z ∧ z < 256) := hqt
  clear hq hqt hqf h1 HC c0
  have zc0 : w1.cell? ⟨g1, 17, none⟩ = some (.slice none 0 0) := (A0.keep T1).cell 17
  have zf0 : w1.frozen? ⟨g1, 17, none⟩ = false := (A0.keep T1).frozen 17
  obtain ⟨x2, hx2⟩ : ∃ z, z = (w1.setCell ⟨g1, 17, none⟩ (.slice sa sn sc)) := ⟨_, rfl⟩
  have Ux2 : Touch (fun k => k = g1) w1 x2 := by rw [hx2]; refine Touch.setCell (F := fun k => k = g1) (p := ⟨g1, 17, none⟩) ?_ (Or.inl rfl) _; exact Touch.refl _ _
  have Ax2 : Row x2 g1 33 [.int .u8 P.typ, .int .u32 P.router, .int .u32 P.area, .int .u32 P.mask, .int .u16 P.iv, .int .u8 P.opts, .int .u8 P.prio, .int .u32 P.dead, .int .u32 P.dr, .int .u32 P.bdr, .slice none 0 0, .int .u16 P.mtu, .int .u8 P.dopts, .int .u8 P.dflags, .int .u32 P.dseq, .slice none 0 0, .slice none 0 0, .slice sa sn sc, .slice none 0 0] := by rw [hx2]; exact ((A0.keep T1).set 17 _)
  have Bx2 : Row x2 g4 33 [.int .u8 0, .int .u32 0, .int .u32 0, .int .u32 0, .int .u16 0, .int .u8 0, .int .u8 0, .int .u32 0, .int .u32 0, .int .u32 0, .slice none 0 0, .int .u16 0, .int .u8 0, .int .u8 0, .int .u32 0, .slice none 0 0, .slice none 0 0, .slice none 0 0, .slice none 0 0] := (B0.keep T1).touch Ux2 ng41
  go_upto_region 25 with fail
  rw [← hx2]
  clear hx2 zc0 zf0
  have T2 : Hid (Touch (fun _ => False) w x2) := (TA.out.trans T1).trans' Ux2 (fun i hi e => by have := HZ.out; omega)
  have EE : Hid (ppartE P.typ c = if q = true then 0 else 22) := by
   show _ = _
   unfold ppartE
   rw [HT.out, if_neg (by decide), if_neg (by decide), if_neg (by decide), if_pos rfl]
   by_cases h : 4 ≤ c.length ∧ (rdAll c).isSome = true
   ·rw [if_pos h, if_pos (HQ.out.2 h)]
   ·rw [if_neg h, if_neg (fun hh => h (HQ.out.1 hh))]
  cases q with
  | true =>
   obtain ⟨l, hl1, hl2, hl3, hl4⟩ := HQT.out rfl
   have HCE : ppartC P c = ⟨P, [], [], [], (rdAll c).getD [], []⟩ := by unfold ppartC; rw [HT.out, if_neg (by decide), if_neg (by decide), if_neg (by decide), if_pos rfl]
   have HPK : Hid (∀ w', Touch (fun k => k < g1 + 2) w1 w' → PkAt w' (ppartC P c) (.slice none 0 0) (.slice none 0 0) (.slice none 0 0) (.slice sa sn sc) (.slice none 0 0)) := fun w' tt => by
    rw [HCE]
    exact ⟨words_nil _, heads_nil _, keys_nil _, ⟨l, hl1, own_vals (own_touch hl2 tt (fun k hk e => by have h1 := (hl2.lt k hk).1; have h2 := Z0.out; omega)), fun x hx => ⟨(hl4 x hx).1, (own_rowAt (own_touch (hl3 x hx) tt (fun k hk e => by have h1 := ((hl3 x hx).lt k hk).1; have h2 := Z0.out; omega))).arg, (hl4 x hx).2⟩⟩, heads_nil _⟩
   have HPC : Hid ((ppartC P c).P = P) := by show _ = _; rw [HCE]
   have HE : Hid (ppartE P.typ c = 0) := by have := EE.out; show _ = _; simpa using this
   clear hl1 hl2 hl3 hl4 HCE
   have RG := (Ax2).range
   have RE := Bx2
   go_wp2_with (first | refine wpList_load_mid rfl 33 (.tmp 2) rfl g1 0 rfl [.int .u8 P.typ, .int .u32 P.router, .int .u32 P.area, .int .u32 P.mask, .int .u16 P.iv, .int .u8 P.opts, .int .u8 P.prio, .int .u32 P.dead, .int .u32 P.dr, .int .u32 P.bdr, .slice none 0 0, .int .u16 P.mtu, .int .u8 P.dopts, .int .u8 P.dflags, .int .u32 P.dseq, .slice none 0 0, .slice none 0 0, .slice sa sn sc, .slice none 0 0] _ RG Tryz.underlying33 rfl (by kernel_rfl) ?_ | refine wpList_store_row rfl 33 (.tmp 4) (.tmp 93) rfl g4 #[.int .u8 P.typ, .int .u32 P.router, .int .u32 P.area, .int .u32 P.mask, .int .u16 P.iv, .int .u8 P.opts, .int .u8 P.prio, .int .u32 P.dead, .int .u32 P.dr, .int .u32 P.bdr, .slice none 0 0, .int .u16 P.mtu, .int .u8 P.dopts, .int .u8 P.dflags, .int .u32 P.dseq, .slice none 0 0, .slice none 0 0, .slice sa sn sc, .slice none 0 0] rfl rfl 33 _ RE (by kernel_rfl) rfl (by simp [Value.oneCell']) ?_)
   have U4 : Touch (fun k => k = g4) x2 (x2.setRow g4 #[.int .u8 P.typ, .int .u32 P.router, .int .u32 P.area, .int .u32 P.mask, .int .u16 P.iv, .int .u8 P.opts, .int .u8 P.prio, .int .u32 P.dead, .int .u32 P.dr, .int .u32 P.bdr, .slice none 0 0, .int .u16 P.mtu, .int .u8 P.dopts, .int .u8 P.dflags, .int .u32 P.dseq, .slice none 0 0, .slice none 0 0, .slice sa sn sc, .slice none 0 0]) := Touch.setRow (F := fun k => k = g4) (Touch.refl _ _) (Or.inl rfl) _
   refine bodyPost_ret (v := .tuple #[.agg #[.int .u8 P.typ, .int .u32 P.router, .int .u32 P.area, .int .u32 P.mask, .int .u16 P.iv, .int .u8 P.opts, .int .u8 P.prio, .int .u32 P.dead, .int .u32 P.dr, .int .u32 P.bdr, .slice none 0 0, .int .u16 P.mtu, .int .u8 P.dopts, .int .u8 P.dflags, .int .u32 P.dseq, .slice none 0 0, .slice none 0 0, .slice sa sn sc, .slice none 0 0], .int .i64 0]) ?hr rfl ?_
   case hr => exact results_rs (p := 4) (s := 5) rfl _ _ g4 33 [.int .u8 P.typ, .int .u32 P.router, .int .u32 P.area, .int .u32 P.mask, .int .u16 P.iv, .int .u8 P.opts, .int .u8 P.prio, .int .u32 P.dead, .int .u32 P.dr, .int .u32 P.bdr, .slice none 0 0, .int .u16 P.mtu, .int .u8 P.dopts, .int .u8 P.dflags, .int .u32 P.dseq, .slice none 0 0, .slice none 0 0, .slice sa sn sc, .slice none 0 0] _ _ (by rfl) (by rfl) (RE.setRow _) Tryz.underlying33 rfl (by kernel_rfl)
   exact ⟨((T2.out).trans' U4 (fun i hi e => by have := HZ.out; omega)), Or.inl ⟨by rw [HE.out], _, _, _, _, _, by rw [HPC.out]; rfl, fun w2 t2 => HPK.out _ (((Ux2.mono (fun i _ e => by omega)).trans (U4.mono (fun i _ e => by have := HZ.out; omega))).trans (t2.mono (fun i _ e => by have := HZ.out; omega)))⟩⟩
  | false =>
   have HE : Hid (ppartE P.typ c = 22) := by have := EE.out; show _ = _; simpa using this
   have FIN : Hid (∀ w', Touch (fun _ => False) w w' → DpP w P c (.returned (.tuple #[.agg #[.int .u8 0, .int .u32 0, .int .u32 0, .int .u32 0, .int .u16 0, .int .u8 0, .int .u8 0, .int .u32 0, .int .u32 0, .int .u32 0, .slice none 0 0, .int .u16 0, .int .u8 0, .int .u8 0, .int .u32 0, .slice none 0 0, .slice none 0 0, .slice none 0 0, .slice none 0 0], .int .i64 22])) w') := fun w' t => ⟨t, Or.inr ⟨by rw [HE.out]; decide, by rw [HE.out]⟩⟩
   have RE := Bx2
   go_wp2_with (refine wpList_store_row rfl 33 (.tmp 4) (.tmp 91) rfl g4 #[.int .u8 0, .int .u32 0, .int .u32 0, .int .u32 0, .int .u16 0, .int .u8 0, .int .u8 0, .int .u32 0, .int .u32 0, .int .u32 0, .slice none 0 0, .int .u16 0, .int .u8 0, .int .u8 0, .int .u32 0, .slice none 0 0, .slice none 0 0, .slice none 0 0, .slice none 0 0] rfl rfl 33 _ RE (by kernel_rfl) rfl (by simp [Value.oneCell']) ?_)
   refine bodyPost_ret (v := .tuple #[.agg #[.int .u8 0, .int .u32 0, .int .u32 0, .int .u32 0, .int .u16 0, .int .u8 0, .int .u8 0, .int .u32 0, .int .u32 0, .int .u32 0, .slice none 0 0, .int .u16 0, .int .u8 0, .int .u8 0, .int .u32 0, .slice none 0 0, .slice none 0 0, .slice none 0 0, .slice none 0 0], .int .i64 22]) ?hr rfl ?_
   case hr => exact results_rs (p := 4) (s := 5) rfl _ _ g4 33 [.int .u8 0, .int .u32 0, .int .u32 0, .int .u32 0, .int .u16 0, .int .u8 0, .int .u8 0, .int .u32 0, .int .u32 0, .int .u32 0, .slice none 0 0, .int .u16 0, .int .u8 0, .int .u8 0, .int .u32 0, .slice none 0 0, .slice none 0 0, .slice none 0 0, .slice none 0 0] _ _ (by rfl) (by rfl) (RE.setRow _) Tryz.underlying33 rfl (by kernel_rfl)
   exact FIN.out _ ((T2.out).setRow (Or.inr (by have := HZ.out; omega)) _)
 ·have n1 : (P.typ == 1) = false := by simp [ht]
  have n2 : (P.typ == 2) = false := by simp [ht]
  have n3 : (P.typ == 3) = true := by simp [ht]
  have HT : Hid (P.typ = 3) := ht
  clear ht
  have Z0 : Hid (w0.heap.size = g1 + 2) := by have := HZ0.out; have := HZ.out; show _ = _; omega
  have HC := dkeys7 _ c w0 (HV'.out w0 (Touch.refl _ _)) HBY.out hl
  have EE : Hid (ppartE P.typ c = kE c) := by
   show _ = _
   unfold ppartE kE
   rw [HT.out, if_neg (by decide), if_neg (by decide), if_pos rfl]
  go_wp2_with fail
  refine Calls.mono HC ?_
  intro e w1 h1
  have T1 := h1.t
  obtain ⟨u, rfl, hk0, sa, sn, sc, rfl⟩ := h1.out
  have HK0 : Hid (kE c = 0 → VBuf 125 3 w0 w1 (.slice sa sn sc) (cuts 12 rdKey c).length (keysC (cuts 12 rdKey c))) := hk0
  clear hk0 h1 HC c0
  have zc0 : w1.cell? ⟨g1, 16, none⟩ = some (.slice none 0 0) := (A0.keep T1).cell 16
  have zf0 : w1.frozen? ⟨g1, 16, none⟩ = false := (A0.keep T1).frozen 16
  obtain ⟨x2, hx2⟩ : ∃ z, z = (w1.setCell ⟨g1, 16, none⟩ (.slice sa sn sc)) := ⟨_, rfl⟩
  have Ux2 : Touch (fun k => k = g1) w1 x2 := by rw [hx2]; refine Touch.setCell (F := fun k => k = g1) (p := ⟨g1, 16, none⟩) ?_ (Or.inl rfl) _; exact Touch.refl _ _
  have Ax2 : Row x2 g1 33 [.int .u8 P.typ, .int .u32 P.router, .int .u32 P.area, .int .u32 P.mask, .int .u16 P.iv, .int .u8 P.opts, .int .u8 P.prio, .int .u32 P.dead, .int .u32 P.dr, .int .u32 P.bdr, .slice none 0 0, .int .u16 P.mtu, .int .u8 P.dopts, .int .u8 P.dflags, .int .u32 P.dseq, .slice none 0 0, .slice sa sn sc, .slice none 0 0, .slice none 0 0] := by rw [hx2]; exact ((A0.keep T1).set 16 _)
  have Bx2 : Row x2 g4 33 [.int .u8 0, .int .u32 0, .int .u32 0, .int .u32 0, .int .u16 0, .int .u8 0, .int .u8 0, .int .u32 0, .int .u32 0, .int .u32 0, .slice none 0 0, .int .u16 0, .int .u8 0, .int .u8 0, .int .u32 0, .slice none 0 0, .slice none 0 0, .slice none 0 0, .slice none 0 0] := (B0.keep T1).touch Ux2 ng41
  generalize kE c = E at *
  go_upto_region 25 with fail
  rw [← hx2]
  clear hx2 zc0 zf0
  have T2 : Hid (Touch (fun _ => False) w x2) := (TA.out.trans T1).trans' Ux2 (fun i hi e => by have := HZ.out; omega)
  by_cases hE : E = 0
  ·subst hE
   have vb := HK0.out rfl
   have HCE : ppartC P c = ⟨P, [], [], cuts 12 rdKey c, [], []⟩ := by unfold ppartC; rw [HT.out, if_neg (by decide), if_neg (by decide), if_pos rfl]
   have HPK : Hid (∀ w', Touch (fun k => k < g1 + 2) w1 w' → PkAt w' (ppartC P c) (.slice none 0 0) (.slice none 0 0) (.slice sa sn sc) (.slice none 0 0) (.slice none 0 0)) := fun w' tt => by
    rw [HCE]
    exact ⟨words_nil _, heads_nil _, own_vals (own_touch vb.own tt (fun k hk e => by have h1 := (vb.own.lt k hk).1; have h2 := Z0.out; omega)), sts_nil _, heads_nil _⟩
   have HPC : Hid ((ppartC P c).P = P) := by show _ = _; rw [HCE]
   clear vb HCE
   have RG := (Ax2).range
   have RE := Bx2
   go_wp2_with (first | refine wpList_load_mid rfl 33 (.tmp 2) rfl g1 0 rfl [.int .u8 P.typ, .int .u32 P.router, .int .u32 P.area, .int .u32 P.mask, .int .u16 P.iv, .int .u8 P.opts, .int .u8 P.prio, .int .u32 P.dead, .int .u32 P.dr, .int .u32 P.bdr, .slice none 0 0, .int .u16 P.mtu, .int .u8 P.dopts, .int .u8 P.dflags, .int .u32 P.dseq, .slice none 0 0, .slice sa sn sc, .slice none 0 0, .slice none 0 0] _ RG Tryz.underlying33 rfl (by kernel_rfl) ?_ | refine wpList_store_row rfl 33 (.tmp 4) (.tmp 93) rfl g4 #[.int .u8 P.typ, .int .u32 P.router, .int .u32 P.area, .int .u32 P.mask, .int .u16 P.iv, .int .u8 P.opts, .int .u8 P.prio, .int .u32 P.dead, .int .u32 P.dr, .int .u32 P.bdr, .slice none 0 0, .int .u16 P.mtu, .int .u8 P.dopts, .int .u8 P.dflags, .int .u32 P.dseq, .slice none 0 0, .slice sa sn sc, .slice none 0 0, .slice none 0 0] rfl rfl 33 _ RE (by kernel_rfl) rfl (by simp [Value.oneCell']) ?_)
   have U4 : Touch (fun k => k = g4) x2 (x2.setRow g4 #[.int .u8 P.typ, .int .u32 P.router, .int .u32 P.area, .int .u32 P.mask, .int .u16 P.iv, .int .u8 P.opts, .int .u8 P.prio, .int .u32 P.dead, .int .u32 P.dr, .int .u32 P.bdr, .slice none 0 0, .int .u16 P.mtu, .int .u8 P.dopts, .int .u8 P.dflags, .int .u32 P.dseq, .slice none 0 0, .slice sa sn sc, .slice none 0 0, .slice none 0 0]) := Touch.setRow (F := fun k => k = g4) (Touch.refl _ _) (Or.inl rfl) _
   refine bodyPost_ret (v := .tuple #[.agg #[.int .u8 P.typ, .int .u32 P.router, .int .u32 P.area, .int .u32 P.mask, .int .u16 P.iv, .int .u8 P.opts, .int .u8 P.prio, .int .u32 P.dead, .int .u32 P.dr, .int .u32 P.bdr, .slice none 0 0, .int .u16 P.mtu, .int .u8 P.dopts, .int .u8 P.dflags, .int .u32 P.dseq, .slice none 0 0, .slice sa sn sc, .slice none 0 0, .slice none 0 0], .int .i64 0]) ?hr rfl ?_
   case hr => exact results_rs (p := 4) (s := 5) rfl _ _ g4 33 [.int .u8 P.typ, .int .u32 P.router, .int .u32 P.area, .int .u32 P.mask, .int .u16 P.iv, .int .u8 P.opts, .int .u8 P.prio, .int .u32 P.dead, .int .u32 P.dr, .int .u32 P.bdr, .slice none 0 0, .int .u16 P.mtu, .int .u8 P.dopts, .int .u8 P.dflags, .int .u32 P.dseq, .slice none 0 0, .slice sa sn sc, .slice none 0 0, .slice none 0 0] _ _ (by rfl) (by rfl) (RE.setRow _) Tryz.underlying33 rfl (by kernel_rfl)
   exact ⟨((T2.out).trans' U4 (fun i hi e => by have := HZ.out; omega)), Or.inl ⟨by rw [EE.out], _, _, _, _, _, by rw [HPC.out]; rfl, fun w2 t2 => HPK.out _ (((Ux2.mono (fun i _ e => by omega)).trans (U4.mono (fun i _ e => by have := HZ.out; omega))).trans (t2.mono (fun i _ e => by have := HZ.out; omega)))⟩⟩
  ·have hEb : (E != 0) = true := by simpa using hE
   have FIN : Hid (∀ w', Touch (fun _ => False) w w' → DpP w P c (.returned (.tuple #[.agg #[.int .u8 0, .int .u32 0, .int .u32 0, .int .u32 0, .int .u16 0, .int .u8 0, .int .u8 0, .int .u32 0, .int .u32 0, .int .u32 0, .slice none 0 0, .int .u16 0, .int .u8 0, .int .u8 0, .int .u32 0, .slice none 0 0, .slice none 0 0, .slice none 0 0, .slice none 0 0], .int .i64 E])) w') := fun w' t => ⟨t, Or.inr ⟨by rw [EE.out]; exact hE, by rw [EE.out]⟩⟩
   clear hE
   have RE := Bx2
   go_wp2_with (refine wpList_store_row rfl 33 (.tmp 4) (.tmp 91) rfl g4 #[.int .u8 0, .int .u32 0, .int .u32 0, .int .u32 0, .int .u16 0, .int .u8 0, .int .u8 0, .int .u32 0, .int .u32 0, .int .u32 0, .slice none 0 0, .int .u16 0, .int .u8 0, .int .u8 0, .int .u32 0, .slice none 0 0, .slice none 0 0, .slice none 0 0, .slice none 0 0] rfl rfl 33 _ RE (by kernel_rfl) rfl (by simp [Value.oneCell']) ?_)
   refine bodyPost_ret (v := .tuple #[.agg #[.int .u8 0, .int .u32 0, .int .u32 0, .int .u32 0, .int .u16 0, .int .u8 0, .int .u8 0, .int .u32 0, .int .u32 0, .int .u32 0, .slice none 0 0, .int .u16 0, .int .u8 0, .int .u8 0, .int .u32 0, .slice none 0 0, .slice none 0 0, .slice none 0 0, .slice none 0 0], .int .i64 E]) ?hr rfl ?_
   case hr => exact results_rs (p := 4) (s := 5) rfl _ _ g4 33 [.int .u8 0, .int .u32 0, .int .u32 0, .int .u32 0, .int .u16 0, .int .u8 0, .int .u8 0, .int .u32 0, .int .u32 0, .int .u32 0, .slice none 0 0, .int .u16 0, .int .u8 0, .int .u8 0, .int .u32 0, .slice none 0 0, .slice none 0 0, .slice none 0 0, .slice none 0 0] _ _ (by rfl) (by rfl) (RE.setRow _) Tryz.underlying33 rfl (by kernel_rfl)
   exact FIN.out _ ((T2.out).setRow (Or.inr (by have := HZ.out; omega)) _)
 ·have n1 : (P.typ == 1) = false := by simpa using h1
  have n2 : (P.typ == 2) = false := by simpa using h2
  have n3 : (P.typ == 3) = false := by simpa using h3
  have n4 : (P.typ == 4) = false := by simpa using h4
  have HN : Hid (¬ P.typ = 1 ∧ ¬ P.typ = 2 ∧ ¬ P.typ = 3 ∧ ¬ P.typ = 4) := ⟨h1, h2, h3, h4⟩
  clear h1 h2 h3 h4
  have Z0 : Hid (w0.heap.size = g1 + 2) := by have := HZ0.out; have := HZ.out; show _ = _; omega
  have HC := dreadHeads _ c w0 (HV'.out w0 (Touch.refl _ _)) HBY.out hl
  have EE : Hid (ppartE P.typ c = if c.length % 20 = 0 then 0 else 22) := by
   show _ = _
   unfold ppartE
   rw [if_neg HN.out.1, if_neg HN.out.2.1, if_neg HN.out.2.2.1, if_neg HN.out.2.2.2]
  go_wp2_with fail
  refine Calls.mono HC ?_
  rintro e w1 ⟨u, rfl, vb0⟩
  have T1 := vb0.t
  obtain ⟨sa, sc, rfl⟩ := vb0.form
  have VB : Hid (VBuf 93 8 w0 w1 (.slice sa (cuts 20 rdHead c).length sc) (cuts 20 rdHead c).length (headsC (cuts 20 rdHead c))) := vb0
  clear vb0 HC c0
  have zc0 : w1.cell? ⟨g1, 18, none⟩ = some (.slice none 0 0) := (A0.keep T1).cell 18
  have zf0 : w1.frozen? ⟨g1, 18, none⟩ = false := (A0.keep T1).frozen 18
  obtain ⟨x2, hx2⟩ : ∃ z, z = (w1.setCell ⟨g1, 18, none⟩ (.slice sa (cuts 20 rdHead c).length sc)) := ⟨_, rfl⟩
  have Ux2 : Touch (fun k => k = g1) w1 x2 := by rw [hx2]; refine Touch.setCell (F := fun k => k = g1) (p := ⟨g1, 18, none⟩) ?_ (Or.inl rfl) _; exact Touch.refl _ _
  have Ax2 : Row x2 g1 33 [.int .u8 P.typ, .int .u32 P.router, .int .u32 P.area, .int .u32 P.mask, .int .u16 P.iv, .int .u8 P.opts, .int .u8 P.prio, .int .u32 P.dead, .int .u32 P.dr, .int .u32 P.bdr, .slice none 0 0, .int .u16 P.mtu, .int .u8 P.dopts, .int .u8 P.dflags, .int .u32 P.dseq, .slice none 0 0, .slice none 0 0, .slice none 0 0, .slice sa (cuts 20 rdHead c).length sc] := by rw [hx2]; exact ((A0.keep T1).set 18 _)
  have Bx2 : Row x2 g4 33 [.int .u8 0, .int .u32 0, .int .u32 0, .int .u32 0, .int .u16 0, .int .u8 0, .int .u8 0, .int .u32 0, .int .u32 0, .int .u32 0, .slice none 0 0, .int .u16 0, .int .u8 0, .int .u8 0, .int .u32 0, .slice none 0 0, .slice none 0 0, .slice none 0 0, .slice none 0 0] := (B0.keep T1).touch Ux2 ng41
  obtain ⟨q, hq⟩ : ∃ q, decide (c.length % 20 = 0) = q := ⟨_, rfl⟩
  rw [hq]
  have HQ : Hid (q = true ↔ c.length % 20 = 0) := by rw [← hq]; show _ ↔ _; simp
  clear hq
  go_upto_region 25 with fail
  rw [← hx2]
  clear hx2 zc0 zf0
  have T2 : Hid (Touch (fun _ => False) w x2) := (TA.out.trans T1).trans' Ux2 (fun i hi e => by have := HZ.out; omega)
  cases q with
  | true =>
   have hm := HQ.out.1 rfl
   have HE : Hid (ppartE P.typ c = 0) := by show _ = _; rw [EE.out, if_pos hm]
   have HCE : ppartC P c = ⟨P, [], [], [], [], cuts 20 rdHead c⟩ := by unfold ppartC; rw [if_neg HN.out.1, if_neg HN.out.2.1, if_neg HN.out.2.2.1, if_neg HN.out.2.2.2]
   have HPK : Hid (∀ w', Touch (fun k => k < g1 + 2) w1 w' → PkAt w' (ppartC P c) (.slice none 0 0) (.slice none 0 0) (.slice none 0 0) (.slice none 0 0) (.slice sa (cuts 20 rdHead c).length sc)) := fun w' tt => by
    rw [HCE]
    exact ⟨words_nil _, heads_nil _, keys_nil _, sts_nil _, own_vals (own_touch VB.out.own tt (fun k hk e => by have h1 := (VB.out.own.lt k hk).1; have h2 := Z0.out; omega))⟩
   have HPC : Hid ((ppartC P c).P = P) := by show _ = _; rw [HCE]
   clear hm HCE
   have RG := (Ax2).range
   have RE := Bx2
   go_wp2_with (first | refine wpList_load_mid rfl 33 (.tmp 2) rfl g1 0 rfl [.int .u8 P.typ, .int .u32 P.router, .int .u32 P.area, .int .u32 P.mask, .int .u16 P.iv, .int .u8 P.opts, .int .u8 P.prio, .int .u32 P.dead, .int .u32 P.dr, .int .u32 P.bdr, .slice none 0 0, .int .u16 P.mtu, .int .u8 P.dopts, .int .u8 P.dflags, .int .u32 P.dseq, .slice none 0 0, .slice none 0 0, .slice none 0 0, .slice sa (cuts 20 rdHead c).length sc] _ RG Tryz.underlying33 rfl (by kernel_rfl) ?_ | refine wpList_store_row rfl 33 (.tmp 4) (.tmp 93) rfl g4 #[.int .u8 P.typ, .int .u32 P.router, .int .u32 P.area, .int .u32 P.mask, .int .u16 P.iv, .int .u8 P.opts, .int .u8 P.prio, .int .u32 P.dead, .int .u32 P.dr, .int .u32 P.bdr, .slice none 0 0, .int .u16 P.mtu, .int .u8 P.dopts, .int .u8 P.dflags, .int .u32 P.dseq, .slice none 0 0, .slice none 0 0, .slice none 0 0, .slice sa (cuts 20 rdHead c).length sc] rfl rfl 33 _ RE (by kernel_rfl) rfl (by simp [Value.oneCell']) ?_)
   have U4 : Touch (fun k => k = g4) x2 (x2.setRow g4 #[.int .u8 P.typ, .int .u32 P.router, .int .u32 P.area, .int .u32 P.mask, .int .u16 P.iv, .int .u8 P.opts, .int .u8 P.prio, .int .u32 P.dead, .int .u32 P.dr, .int .u32 P.bdr, .slice none 0 0, .int .u16 P.mtu, .int .u8 P.dopts, .int .u8 P.dflags, .int .u32 P.dseq, .slice none 0 0, .slice none 0 0, .slice none 0 0, .slice sa (cuts 20 rdHead c).length sc]) := Touch.setRow (F := fun k => k = g4) (Touch.refl _ _) (Or.inl rfl) _
   refine bodyPost_ret (v := .tuple #[.agg #[.int .u8 P.typ, .int .u32 P.router, .int .u32 P.area, .int .u32 P.mask, .int .u16 P.iv, .int .u8 P.opts, .int .u8 P.prio, .int .u32 P.dead, .int .u32 P.dr, .int .u32 P.bdr, .slice none 0 0, .int .u16 P.mtu, .int .u8 P.dopts, .int .u8 P.dflags, .int .u32 P.dseq, .slice none 0 0, .slice none 0 0, .slice none 0 0, .slice sa (cuts 20 rdHead c).length sc], .int .i64 0]) ?hr rfl ?_
   case hr => exact results_rs (p := 4) (s := 5) rfl _ _ g4 33 [.int .u8 P.typ, .int .u32 P.router, .int .u32 P.area, .int .u32 P.mask, .int .u16 P.iv, .int .u8 P.opts, .int .u8 P.prio, .int .u32 P.dead, .int .u32 P.dr, .int .u32 P.bdr, .slice none 0 0, .int .u16 P.mtu, .int .u8 P.dopts, .int .u8 P.dflags, .int .u32 P.dseq, .slice none 0 0, .slice none 0 0, .slice none 0 0, .slice sa (cuts 20 rdHead c).length sc] _ _ (by rfl) (by rfl) (RE.setRow _) Tryz.underlying33 rfl (by kernel_rfl)
   exact ⟨((T2.out).trans' U4 (fun i hi e => by have := HZ.out; omega)), Or.inl ⟨by rw [HE.out], _, _, _, _, _, by rw [HPC.out]; rfl, fun w2 t2 => HPK.out _ (((Ux2.mono (fun i _ e => by omega)).trans (U4.mono (fun i _ e => by have := HZ.out; omega))).trans (t2.mono (fun i _ e => by have := HZ.out; omega)))⟩⟩
  | false =>
   have HE : Hid (ppartE P.typ c = 22) := by show _ = _; rw [EE.out, if_neg (fun h => by have := HQ.out.2 h; cases this)]
   have FIN : Hid (∀ w', Touch (fun _ => False) w w' → DpP w P c (.returned (.tuple #[.agg #[.int .u8 0, .int .u32 0, .int .u32 0, .int .u32 0, .int .u16 0, .int .u8 0, .int .u8 0, .int .u32 0, .int .u32 0, .int .u32 0, .slice none 0 0, .int .u16 0, .int .u8 0, .int .u8 0, .int .u32 0, .slice none 0 0, .slice none 0 0, .slice none 0 0, .slice none 0 0], .int .i64 22])) w') := fun w' t => ⟨t, Or.inr ⟨by rw [HE.out]; decide, by rw [HE.out]⟩⟩
   have RE := Bx2
   go_wp2_with (refine wpList_store_row rfl 33 (.tmp 4) (.tmp 91) rfl g4 #[.int .u8 0, .int .u32 0, .int .u32 0, .int .u32 0, .int .u16 0, .int .u8 0, .int .u8 0, .int .u32 0, .int .u32 0, .int .u32 0, .slice none 0 0, .int .u16 0, .int .u8 0, .int .u8 0, .int .u32 0, .slice none 0 0, .slice none 0 0, .slice none 0 0, .slice none 0 0] rfl rfl 33 _ RE (by kernel_rfl) rfl (by simp [Value.oneCell']) ?_)
   refine bodyPost_ret (v := .tuple #[.agg #[.int .u8 0, .int .u32 0, .int .u32 0, .int .u32 0, .int .u16 0, .int .u8 0, .int .u8 0, .int .u32 0, .int .u32 0, .int .u32 0, .slice none 0 0, .int .u16 0, .int .u8 0, .int .u8 0, .int .u32 0, .slice none 0 0, .slice none 0 0, .slice none 0 0, .slice none 0 0], .int .i64 22]) ?hr rfl ?_
   case hr => exact results_rs (p := 4) (s := 5) rfl _ _ g4 33 [.int .u8 0, .int .u32 0, .int .u32 0, .int .u32 0, .int .u16 0, .int .u8 0, .int .u8 0, .int .u32 0, .int .u32 0, .int .u32 0, .slice none 0 0, .int .u16 0, .int .u8 0, .int .u8 0, .int .u32 0, .slice none 0 0, .slice none 0 0, .slice none 0 0, .slice none 0 0] _ _ (by rfl) (by rfl) (RE.setRow _) Tryz.underlying33 rfl (by kernel_rfl)
   exact FIN.out _ ((T2.out).setRow (Or.inr (by have := HZ.out; omega)) _)
 ·have n1 : (P.typ == 1) = true := by simp [ht]
  have HT : Hid (P.typ = 1) := ht
  clear ht
  have Z0 : Hid (w0.heap.size = g1 + 2) := by have := HZ0.out; have := HZ.out; show _ = _; omega
  have HC := dhello7 _ c w0 (HV'.out w0 (Touch.refl _ _)) HBY.out hl
  have EE : Hid (ppartE P.typ c = if 20 ≤ c.length ∧ c.length % 4 = 0 then 0 else 22) := by
   show _ = _
   unfold ppartE
   rw [HT.out, if_pos rfl]
  go_wp2_with fail
  refine Calls.mono HC ?_
  intro e w1 h1
  have T1a := h1.t
  have HO := h1.out
  clear h1 HC c0
  obtain ⟨m6, hm6⟩ : ∃ m, c.getD 6 0 = m := ⟨_, rfl⟩
  obtain ⟨m7, hm7⟩ : ∃ m, c.getD 7 0 = m := ⟨_, rfl⟩
  rw [hm6, hm7] at HO
  have HM6 : Hid (c.getD 6 0 = m6) := hm6
  have HM7 : Hid (c.getD 7 0 = m7) := hm7
  clear hm6 hm7
  rcases HO with ⟨h20, hm4, vn, rfl, ow⟩ | ⟨hno, rfl⟩
  ·obtain ⟨sa, sc, rfl⟩ := own_form ow
   have HE : Hid (ppartE P.typ c = 0) := by show _ = _; rw [EE.out, if_pos ⟨h20, hm4⟩]
   clear h20 hm4
   have T1 : Touch (fun _ => False) w0 (w1.alloc (.cells #[.int .u32 (numOf (c.take 4)), .int .u16 (numOf ((c.drop 4).take 2)), .int .u8 m6, .int .u8 m7, .int .u32 (numOf ((c.drop 8).take 4)), .int .u32 (numOf ((c.drop 12).take 4)), .int .u32 (numOf ((c.drop 16).take 4)), .slice sa (cuts 4 numOf (c.drop 20)).length sc] 26)) := T1a.alloc _
   have R8 : Row (w1.alloc (.cells #[.int .u32 (numOf (c.take 4)), .int .u16 (numOf ((c.drop 4).take 2)), .int .u8 m6, .int .u8 m7, .int .u32 (numOf ((c.drop 8).take 4)), .int .u32 (numOf ((c.drop 12).take 4)), .int .u32 (numOf ((c.drop 16).take 4)), .slice sa (cuts 4 numOf (c.drop 20)).length sc] 26)) w1.heap.size 26 [.int .u32 (numOf (c.take 4)), .int .u16 (numOf ((c.drop 4).take 2)), .int .u8 m6, .int .u8 m7, .int .u32 (numOf ((c.drop 8).take 4)), .int .u32 (numOf ((c.drop 12).take 4)), .int .u32 (numOf ((c.drop 16).take 4)), .slice sa (cuts 4 numOf (c.drop 20)).length sc] := row_new w1 26 #[.int .u32 (numOf (c.take 4)), .int .u16 (numOf ((c.drop 4).take 2)), .int .u8 m6, .int .u8 m7, .int .u32 (numOf ((c.drop 8).take 4)), .int .u32 (numOf ((c.drop 12).take 4)), .int .u32 (numOf ((c.drop 16).take 4)), .slice sa (cuts 4 numOf (c.drop 20)).length sc]
   have OW : Hid ((w1.alloc (.cells #[.int .u32 (numOf (c.take 4)), .int .u16 (numOf ((c.drop 4).take 2)), .int .u8 m6, .int .u8 m7, .int .u32 (numOf ((c.drop 8).take 4)), .int .u32 (numOf ((c.drop 12).take 4)), .int .u32 (numOf ((c.drop 16).take 4)), .slice sa (cuts 4 numOf (c.drop 20)).length sc] 26)).ownsRow w0.heap.size 22 1 (.slice sa (cuts 4 numOf (c.drop 20)).length sc) (cuts 4 numOf (c.drop 20)).length (wordsC (cuts 4 numOf (c.drop 20)))) := own_touch ow ((Touch.refl (fun _ => False) _).alloc _) (fun _ _ f => f)
   clear ow
   go_upto_region 10 with fail
   generalize w1.alloc (.cells #[.int .u32 (numOf (c.take 4)), .int .u16 (numOf ((c.drop 4).take 2)), .int .u8 m6, .int .u8 m7, .int .u32 (numOf ((c.drop 8).take 4)), .int .u32 (numOf ((c.drop 12).take 4)), .int .u32 (numOf ((c.drop 16).take 4)), .slice sa (cuts 4 numOf (c.drop 20)).length sc] 26) = y1 at *
   generalize w1.heap.size = gh at *
   have yh0 : y1.cell? ⟨gh, 0, none⟩ = some (.int .u32 (numOf (c.take 4))) := R8.cell 0
   have yh1 : y1.cell? ⟨gh, 1, none⟩ = some (.int .u16 (numOf ((c.drop 4).take 2))) := R8.cell 1
   have yh2 : y1.cell? ⟨gh, 2, none⟩ = some (.int .u8 m6) := R8.cell 2
   have yh3 : y1.cell? ⟨gh, 3, none⟩ = some (.int .u8 m7) := R8.cell 3
   have yh4 : y1.cell? ⟨gh, 4, none⟩ = some (.int .u32 (numOf ((c.drop 8).take 4))) := R8.cell 4
   have yh5 : y1.cell? ⟨gh, 5, none⟩ = some (.int .u32 (numOf ((c.drop 12).take 4))) := R8.cell 5
   have yh6 : y1.cell? ⟨gh, 6, none⟩ = some (.int .u32 (numOf ((c.drop 16).take 4))) := R8.cell 6
   have yh7 : y1.cell? ⟨gh, 7, none⟩ = some (.slice sa (cuts 4 numOf (c.drop 20)).length sc) := R8.cell 7
   have zc0 : y1.cell? ⟨g1, 3, none⟩ = some (.int .u32 P.mask) := (A0.keep T1).cell 3
   have zf0 : y1.frozen? ⟨g1, 3, none⟩ = false := (A0.keep T1).frozen 3
   have zc1 : y1.cell? ⟨g1, 4, none⟩ = some (.int .u16 P.iv) := (A0.keep T1).cell 4
   have zf1 : y1.frozen? ⟨g1, 4, none⟩ = false := (A0.keep T1).frozen 4
   have zc2 : y1.cell? ⟨g1, 5, none⟩ = some (.int .u8 P.opts) := (A0.keep T1).cell 5
   have zf2 : y1.frozen? ⟨g1, 5, none⟩ = false := (A0.keep T1).frozen 5
   have zc3 : y1.cell? ⟨g1, 6, none⟩ = some (.int .u8 P.prio) := (A0.keep T1).cell 6
   have zf3 : y1.frozen? ⟨g1, 6, none⟩ = false := (A0.keep T1).frozen 6
   have zc4 : y1.cell? ⟨g1, 7, none⟩ = some (.int .u32 P.dead) := (A0.keep T1).cell 7
   have zf4 : y1.frozen? ⟨g1, 7, none⟩ = false := (A0.keep T1).frozen 7
   have zc5 : y1.cell? ⟨g1, 8, none⟩ = some (.int .u32 P.dr) := (A0.keep T1).cell 8
   have zf5 : y1.frozen? ⟨g1, 8, none⟩ = false := (A0.keep T1).frozen 8
   have zc6 : y1.cell? ⟨g1, 9, none⟩ = some (.int .u32 P.bdr) := (A0.keep T1).cell 9
   have zf6 : y1.frozen? ⟨g1, 9, none⟩ = false := (A0.keep T1).frozen 9
   have zc7 : y1.cell? ⟨g1, 10, none⟩ = some (.slice none 0 0) := (A0.keep T1).cell 10
   have zf7 : y1.frozen? ⟨g1, 10, none⟩ = false := (A0.keep T1).frozen 10
   obtain ⟨x2, hx2⟩ : ∃ z, z = ((((((((y1.setCell ⟨g1, 3, none⟩ (.int .u32 (numOf (c.take 4)))).setCell ⟨g1, 4, none⟩ (.int .u16 (numOf ((c.drop 4).take 2)))).setCell ⟨g1, 5, none⟩ (.int .u8 m6)).setCell ⟨g1, 6, none⟩ (.int .u8 m7)).setCell ⟨g1, 7, none⟩ (.int .u32 (numOf ((c.drop 8).take 4)))).setCell ⟨g1, 8, none⟩ (.int .u32 (numOf ((c.drop 12).take 4)))).setCell ⟨g1, 9, none⟩ (.int .u32 (numOf ((c.drop 16).take 4)))).setCell ⟨g1, 10, none⟩ (.slice sa (cuts 4 numOf (c.drop 20)).length sc)) := ⟨_, rfl⟩
   have Ux2 : Touch (fun k => k = g1) y1 x2 := by rw [hx2]; refine Touch.setCell (F := fun k => k = g1) (p := ⟨g1, 10, none⟩) ?_ (Or.inl rfl) _; refine Touch.setCell (F := fun k => k = g1) (p := ⟨g1, 9, none⟩) ?_ (Or.inl rfl) _; refine Touch.setCell (F := fun k => k = g1) (p := ⟨g1, 8, none⟩) ?_ (Or.inl rfl) _; refine Touch.setCell (F := fun k => k = g1) (p := ⟨g1, 7, none⟩) ?_ (Or.inl rfl) _; refine Touch.setCell (F := fun k => k = g1) (p := ⟨g1, 6, none⟩) ?_ (Or.inl rfl) _; refine Touch.setCell (F := fun k => k = g1) (p := ⟨g1, 5, none⟩) ?_ (Or.inl rfl) _; refine Touch.setCell (F := fun k => k = g1) (p := ⟨g1, 4, none⟩) ?_ (Or.inl rfl) _; refine Touch.setCell (F := fun k => k = g1) (p := ⟨g1, 3, none⟩) ?_ (Or.inl rfl) _; exact Touch.refl _ _
   have Ax2 : Row x2 g1 33 [.int .u8 P.typ, .int .u32 P.router, .int .u32 P.area, .int .u32 (numOf (c.take 4)), .int .u16 (numOf ((c.drop 4).take 2)), .int .u8 m6, .int .u8 m7, .int .u32 (numOf ((c.drop 8).take 4)), .int .u32 (numOf ((c.drop 12).take 4)), .int .u32 (numOf ((c.drop 16).take 4)), .slice sa (cuts 4 numOf (c.drop 20)).length sc, .int .u16 P.mtu, .int .u8 P.dopts, .int .u8 P.dflags, .int .u32 P.dseq, .slice none 0 0, .slice none 0 0, .slice none 0 0, .slice none 0 0] := by rw [hx2]; exact (((((((((A0.keep T1).set 3 _).set 4 _).set 5 _).set 6 _).set 7 _).set 8 _).set 9 _).set 10 _)
   have Bx2 : Row x2 g4 33 [.int .u8 0, .int .u32 0, .int .u32 0, .int .u32 0, .int .u16 0, .int .u8 0, .int .u8 0, .int .u32 0, .int .u32 0, .int .u32 0, .slice none 0 0, .int .u16 0, .int .u8 0, .int .u8 0, .int .u32 0, .slice none 0 0, .slice none 0 0, .slice none 0 0, .slice none 0 0] := (B0.keep T1).touch Ux2 ng41
   go_upto_region 25 with fail
   rw [← hx2]
   clear hx2 R8 zc0 zf0 yh0 zc1 zf1 yh1 zc2 zf2 yh2 zc3 zf3 yh3 zc4 zf4 yh4 zc5 zf5 yh5 zc6 zf6 yh6 zc7 zf7 yh7
   have T2 : Hid (Touch (fun _ => False) w x2) := (TA.out.trans T1).trans' Ux2 (fun i hi e => by have := HZ.out; omega)
   have HCE : ppartC P c = ⟨{ P with mask := numOf (c.take 4), iv := numOf ((c.drop 4).take 2), opts := c.getD 6 0, prio := c.getD 7 0, dead := numOf ((c.drop 8).take 4), dr := numOf ((c.drop 12).take 4), bdr := numOf ((c.drop 16).take 4) }, cuts 4 numOf (c.drop 20), [], [], [], []⟩ := by unfold ppartC; rw [HT.out, if_pos rfl]
   have HPK : Hid (∀ w', Touch (fun k => k < g1 + 2) y1 w' → PkAt w' (ppartC P c) (.slice sa (cuts 4 numOf (c.drop 20)).length sc) (.slice none 0 0) (.slice none 0 0) (.slice none 0 0) (.slice none 0 0)) := fun w' tt => by
    rw [HCE]
    exact ⟨own_vals (own_touch OW.out tt (fun k hk e => by have h1 := (OW.out.lt k hk).1; have h2 := Z0.out; omega)), heads_nil _, keys_nil _, sts_nil _, heads_nil _⟩
   have HPC : Hid ((ppartC P c).P = { P with mask := numOf (c.take 4), iv := numOf ((c.drop 4).take 2), opts := m6, prio := m7, dead := numOf ((c.drop 8).take 4), dr := numOf ((c.drop 12).take 4), bdr := numOf ((c.drop 16).take 4) }) := by show _ = _; rw [HCE, HM6.out, HM7.out]
   clear HCE
   have RG := (Ax2).range
   have RE := Bx2
   go_wp2_with (first | refine wpList_load_mid rfl 33 (.tmp 2) rfl g1 0 rfl [.int .u8 P.typ, .int .u32 P.router, .int .u32 P.area, .int .u32 (numOf (c.take 4)), .int .u16 (numOf ((c.drop 4).take 2)), .int .u8 m6, .int .u8 m7, .int .u32 (numOf ((c.drop 8).take 4)), .int .u32 (numOf ((c.drop 12).take 4)), .int .u32 (numOf ((c.drop 16).take 4)), .slice sa (cuts 4 numOf (c.drop 20)).length sc, .int .u16 P.mtu, .int .u8 P.dopts, .int .u8 P.dflags, .int .u32 P.dseq, .slice none 0 0, .slice none 0 0, .slice none 0 0, .slice none 0 0] _ RG Tryz.underlying33 rfl (by kernel_rfl) ?_ | refine wpList_store_row rfl 33 (.tmp 4) (.tmp 93) rfl g4 #[.int .u8 P.typ, .int .u32 P.router, .int .u32 P.area, .int .u32 (numOf (c.take 4)), .int .u16 (numOf ((c.drop 4).take 2)), .int .u8 m6, .int .u8 m7, .int .u32 (numOf ((c.drop 8).take 4)), .int .u32 (numOf ((c.drop 12).take 4)), .int .u32 (numOf ((c.drop 16).take 4)), .slice sa (cuts 4 numOf (c.drop 20)).length sc, .int .u16 P.mtu, .int .u8 P.dopts, .int .u8 P.dflags, .int .u32 P.dseq, .slice none 0 0, .slice none 0 0, .slice none 0 0, .slice none 0 0] rfl rfl 33 _ RE (by kernel_rfl) rfl (by simp [Value.oneCell']) ?_)
   have U4 : Touch (fun k => k = g4) x2 (x2.setRow g4 #[.int .u8 P.typ, .int .u32 P.router, .int .u32 P.area, .int .u32 (numOf (c.take 4)), .int .u16 (numOf ((c.drop 4).take 2)), .int .u8 m6, .int .u8 m7, .int .u32 (numOf ((c.drop 8).take 4)), .int .u32 (numOf ((c.drop 12).take 4)), .int .u32 (numOf ((c.drop 16).take 4)), .slice sa (cuts 4 numOf (c.drop 20)).length sc, .int .u16 P.mtu, .int .u8 P.dopts, .int .u8 P.dflags, .int .u32 P.dseq, .slice none 0 0, .slice none 0 0, .slice none 0 0, .slice none 0 0]) := Touch.setRow (F := fun k => k = g4) (Touch.refl _ _) (Or.inl rfl) _
   refine bodyPost_ret (v := .tuple #[.agg #[.int .u8 P.typ, .int .u32 P.router, .int .u32 P.area, .int .u32 (numOf (c.take 4)), .int .u16 (numOf ((c.drop 4).take 2)), .int .u8 m6, .int .u8 m7, .int .u32 (numOf ((c.drop 8).take 4)), .int .u32 (numOf ((c.drop 12).take 4)), .int .u32 (numOf ((c.drop 16).take 4)), .slice sa (cuts 4 numOf (c.drop 20)).length sc, .int .u16 P.mtu, .int .u8 P.dopts, .int .u8 P.dflags, .int .u32 P.dseq, .slice none 0 0, .slice none 0 0, .slice none 0 0, .slice none 0 0], .int .i64 0]) ?hr rfl ?_
   case hr => exact results_rs (p := 4) (s := 5) rfl _ _ g4 33 [.int .u8 P.typ, .int .u32 P.router, .int .u32 P.area, .int .u32 (numOf (c.take 4)), .int .u16 (numOf ((c.drop 4).take 2)), .int .u8 m6, .int .u8 m7, .int .u32 (numOf ((c.drop 8).take 4)), .int .u32 (numOf ((c.drop 12).take 4)), .int .u32 (numOf ((c.drop 16).take 4)), .slice sa (cuts 4 numOf (c.drop 20)).length sc, .int .u16 P.mtu, .int .u8 P.dopts, .int .u8 P.dflags, .int .u32 P.dseq, .slice none 0 0, .slice none 0 0, .slice none 0 0, .slice none 0 0] _ _ (by rfl) (by rfl) (RE.setRow _) Tryz.underlying33 rfl (by kernel_rfl)
   exact ⟨((T2.out).trans' U4 (fun i hi e => by have := HZ.out; omega)), Or.inl ⟨by rw [HE.out], _, _, _, _, _, by rw [HPC.out]; rfl, fun w2 t2 => HPK.out _ (((Ux2.mono (fun i _ e => by omega)).trans (U4.mono (fun i _ e => by have := HZ.out; omega))).trans (t2.mono (fun i _ e => by have := HZ.out; omega)))⟩⟩
  ·have HE : Hid (ppartE P.typ c = 22) := by show _ = _; rw [EE.out, if_neg hno]
   clear hno
   have T1 : Touch (fun _ => False) w0 (w1.alloc (.cells #[.int .u32 0, .int .u16 0, .int .u8 0, .int .u8 0, .int .u32 0, .int .u32 0, .int .u32 0, .slice none 0 0] 26)) := T1a.alloc _
   have R8 : Row (w1.alloc (.cells #[.int .u32 0, .int .u16 0, .int .u8 0, .int .u8 0, .int .u32 0, .int .u32 0, .int .u32 0, .slice none 0 0] 26)) w1.heap.size 26 [.int .u32 0, .int .u16 0, .int .u8 0, .int .u8 0, .int .u32 0, .int .u32 0, .int .u32 0, .slice none 0 0] := row_new w1 26 #[.int .u32 0, .int .u16 0, .int .u8 0, .int .u8 0, .int .u32 0, .int .u32 0, .int .u32 0, .slice none 0 0]
   go_upto_region 10 with fail
   generalize w1.alloc (.cells #[.int .u32 0, .int .u16 0, .int .u8 0, .int .u8 0, .int .u32 0, .int .u32 0, .int .u32 0, .slice none 0 0] 26) = y1 at *
   generalize w1.heap.size = gh at *
   have yh0 : y1.cell? ⟨gh, 0, none⟩ = some (.int .u32 0) := R8.cell 0
   have yh1 : y1.cell? ⟨gh, 1, none⟩ = some (.int .u16 0) := R8.cell 1
   have yh2 : y1.cell? ⟨gh, 2, none⟩ = some (.int .u8 0) := R8.cell 2
   have yh3 : y1.cell? ⟨gh, 3, none⟩ = some (.int .u8 0) := R8.cell 3
   have yh4 : y1.cell? ⟨gh, 4, none⟩ = some (.int .u32 0) := R8.cell 4
   have yh5 : y1.cell? ⟨gh, 5, none⟩ = some (.int .u32 0) := R8.cell 5
   have yh6 : y1.cell? ⟨gh, 6, none⟩ = some (.int .u32 0) := R8.cell 6
   have yh7 : y1.cell? ⟨gh, 7, none⟩ = some (.slice none 0 0) := R8.cell 7
   have zc0 : y1.cell? ⟨g1, 3, none⟩ = some (.int .u32 P.mask) := (A0.keep T1).cell 3
   have zf0 : y1.frozen? ⟨g1, 3, none⟩ = false := (A0.keep T1).frozen 3
   have zc1 : y1.cell? ⟨g1, 4, none⟩ = some (.int .u16 P.iv) := (A0.keep T1).cell 4
   have zf1 : y1.frozen? ⟨g1, 4, none⟩ = false := (A0.keep T1).frozen 4
   have zc2 : y1.cell? ⟨g1, 5, none⟩ = some (.int .u8 P.opts) := (A0.keep T1).cell 5
   have zf2 : y1.frozen? ⟨g1, 5, none⟩ = false := (A0.keep T1).frozen 5
   have zc3 : y1.cell? ⟨g1, 6, none⟩ = some (.int .u8 P.prio) := (A0.keep T1).cell 6
   have zf3 : y1.frozen? ⟨g1, 6, none⟩ = false := (A0.keep T1).frozen 6
   have zc4 : y1.cell? ⟨g1, 7, none⟩ = some (.int .u32 P.dead) := (A0.keep T1).cell 7
   have zf4 : y1.frozen? ⟨g1, 7, none⟩ = false := (A0.keep T1).frozen 7
   have zc5 : y1.cell? ⟨g1, 8, none⟩ = some (.int .u32 P.dr) := (A0.keep T1).cell 8
   have zf5 : y1.frozen? ⟨g1, 8, none⟩ = false := (A0.keep T1).frozen 8
   have zc6 : y1.cell? ⟨g1, 9, none⟩ = some (.int .u32 P.bdr) := (A0.keep T1).cell 9
   have zf6 : y1.frozen? ⟨g1, 9, none⟩ = false := (A0.keep T1).frozen 9
   have zc7 : y1.cell? ⟨g1, 10, none⟩ = some (.slice none 0 0) := (A0.keep T1).cell 10
   have zf7 : y1.frozen? ⟨g1, 10, none⟩ = false := (A0.keep T1).frozen 10
   obtain ⟨x2, hx2⟩ : ∃ z, z = ((((((((y1.setCell ⟨g1, 3, none⟩ (.int .u32 0)).setCell ⟨g1, 4, none⟩ (.int .u16 0)).setCell ⟨g1, 5, none⟩ (.int .u8 0)).setCell ⟨g1, 6, none⟩ (.int .u8 0)).setCell ⟨g1, 7, none⟩ (.int .u32 0)).setCell ⟨g1, 8, none⟩ (.int .u32 0)).setCell ⟨g1, 9, none⟩ (.int .u32 0)).setCell ⟨g1, 10, none⟩ (.slice none 0 0)) := ⟨_, rfl⟩
   have Ux2 : Touch (fun k => k = g1) y1 x2 := by rw [hx2]; refine Touch.setCell (F := fun k => k = g1) (p := ⟨g1, 10, none⟩) ?_ (Or.inl rfl) _; refine Touch.setCell (F := fun k => k = g1) (p := ⟨g1, 9, none⟩) ?_ (Or.inl rfl) _; refine Touch.setCell (F := fun k => k = g1) (p := ⟨g1, 8, none⟩) ?_ (Or.inl rfl) _; refine Touch.setCell (F := fun k => k = g1) (p := ⟨g1, 7, none⟩) ?_ (Or.inl rfl) _; refine Touch.setCell (F := fun k => k = g1) (p := ⟨g1, 6, none⟩) ?_ (Or.inl rfl) _; refine Touch.setCell (F := fun k => k = g1) (p := ⟨g1, 5, none⟩) ?_ (Or.inl rfl) _; refine Touch.setCell (F := fun k => k = g1) (p := ⟨g1, 4, none⟩) ?_ (Or.inl rfl) _; refine Touch.setCell (F := fun k => k = g1) (p := ⟨g1, 3, none⟩) ?_ (Or.inl rfl) _; exact Touch.refl _ _
   have Ax2 : Row x2 g1 33 [.int .u8 P.typ, .int .u32 P.router, .int .u32 P.area, .int .u32 0, .int .u16 0, .int .u8 0, .int .u8 0, .int .u32 0, .int .u32 0, .int .u32 0, .slice none 0 0, .int .u16 P.mtu, .int .u8 P.dopts, .int .u8 P.dflags, .int .u32 P.dseq, .slice none 0 0, .slice none 0 0, .slice none 0 0, .slice none 0 0] := by rw [hx2]; exact (((((((((A0.keep T1).set 3 _).set 4 _).set 5 _).set 6 _).set 7 _).set 8 _).set 9 _).set 10 _)
   have Bx2 : Row x2 g4 33 [.int .u8 0, .int .u32 0, .int .u32 0, .int .u32 0, .int .u16 0, .int .u8 0, .int .u8 0, .int .u32 0, .int .u32 0, .int .u32 0, .slice none 0 0, .int .u16 0, .int .u8 0, .int .u8 0, .int .u32 0, .slice none 0 0, .slice none 0 0, .slice none 0 0, .slice none 0 0] := (B0.keep T1).touch Ux2 ng41
   go_upto_region 25 with fail
   rw [← hx2]
   clear hx2 R8 zc0 zf0 yh0 zc1 zf1 yh1 zc2 zf2 yh2 zc3 zf3 yh3 zc4 zf4 yh4 zc5 zf5 yh5 zc6 zf6 yh6 zc7 zf7 yh7
   have T2 : Hid (Touch (fun _ => False) w x2) := (TA.out.trans T1).trans' Ux2 (fun i hi e => by have := HZ.out; omega)
   have FIN : Hid (∀ w', Touch (fun _ => False) w w' → DpP w P c (.returned (.tuple #[.agg #[.int .u8 0, .int .u32 0, .int .u32 0, .int .u32 0, .int .u16 0, .int .u8 0, .int .u8 0, .int .u32 0, .int .u32 0, .int .u32 0, .slice none 0 0, .int .u16 0, .int .u8 0, .int .u8 0, .int .u32 0, .slice none 0 0, .slice none 0 0, .slice none 0 0, .slice none 0 0], .int .i64 22])) w') := fun w' t => ⟨t, Or.inr ⟨by rw [HE.out]; decide, by rw [HE.out]⟩⟩
   have RE := Bx2
   go_wp2_with (refine wpList_store_row rfl 33 (.tmp 4) (.tmp 91) rfl g4 #[.int .u8 0, .int .u32 0, .int .u32 0, .int .u32 0, .int .u16 0, .int .u8 0, .int .u8 0, .int .u32 0, .int .u32 0, .int .u32 0, .slice none 0 0, .int .u16 0, .int .u8 0, .int .u8 0, .int .u32 0, .slice none 0 0, .slice none 0 0, .slice none 0 0, .slice none 0 0] rfl rfl 33 _ RE (by kernel_rfl) rfl (by simp [Value.oneCell']) ?_)
   refine bodyPost_ret (v := .tuple #[.agg #[.int .u8 0, .int .u32 0, .int .u32 0, .int .u32 0, .int .u16 0, .int .u8 0, .int .u8 0, .int .u32 0, .int .u32 0, .int .u32 0, .slice none 0 0, .int .u16 0, .int .u8 0, .int .u8 0, .int .u32 0, .slice none 0 0, .slice none 0 0, .slice none 0 0, .slice none 0 0], .int .i64 22]) ?hr rfl ?_
   case hr => exact results_rs (p := 4) (s := 5) rfl _ _ g4 33 [.int .u8 0, .int .u32 0, .int .u32 0, .int .u32 0, .int .u16 0, .int .u8 0, .int .u8 0, .int .u32 0, .int .u32 0, .int .u32 0, .slice none 0 0, .int .u16 0, .int .u8 0, .int .u8 0, .int .u32 0, .slice none 0 0, .slice none 0 0, .slice none 0 0, .slice none 0 0] _ _ (by rfl) (by rfl) (RE.setRow _) Tryz.underlying33 rfl (by kernel_rfl)
   exact FIN.out _ ((T2.out).setRow (Or.inr (by have := HZ.out; omega)) _)
 ·have n1 : (P.typ == 1) = false := by simp [ht]
  have n2 : (P.typ == 2) = true := by simp [ht]
  have HT : Hid (P.typ = 2) := ht
  clear ht
  have Z0 : Hid (w0.heap.size = g1 + 2) := by have := HZ0.out; have := HZ.out; show _ = _; omega
  by_cases h8 : c.length < 8
  ·have h8' : (c.length : Int) < 8 := by omega
   have HE : Hid (ppartE P.typ c = 22) := by show _ = _; unfold ppartE; rw [HT.out, if_neg (by decide), if_pos rfl, if_neg (fun h => by omega)]
   have FIN : Hid (∀ w', Touch (fun _ => False) w w' → DpP w P c (.returned (.tuple #[.agg #[.int .u8 0, .int .u32 0, .int .u32 0, .int .u32 0, .int .u16 0, .int .u8 0, .int .u8 0, .int .u32 0, .int .u32 0, .int .u32 0, .slice none 0 0, .int .u16 0, .int .u8 0, .int .u8 0, .int .u32 0, .slice none 0 0, .slice none 0 0, .slice none 0 0, .slice none 0 0], .int .i64 22])) w') := fun w' t => ⟨t, Or.inr ⟨by rw [HE.out]; decide, by rw [HE.out]⟩⟩
   have RE := B0
   go_wp2_with (refine wpList_store_row rfl 33 (.tmp 4) (.tmp 43) rfl g4 #[.int .u8 0, .int .u32 0, .int .u32 0, .int .u32 0, .int .u16 0, .int .u8 0, .int .u8 0, .int .u32 0, .int .u32 0, .int .u32 0, .slice none 0 0, .int .u16 0, .int .u8 0, .int .u8 0, .int .u32 0, .slice none 0 0, .slice none 0 0, .slice none 0 0, .slice none 0 0] rfl rfl 33 _ RE (by kernel_rfl) rfl (by simp [Value.oneCell']) ?_)
   refine bodyPost_ret (v := .tuple #[.agg #[.int .u8 0, .int .u32 0, .int .u32 0, .int .u32 0, .int .u16 0, .int .u8 0, .int .u8 0, .int .u32 0, .int .u32 0, .int .u32 0, .slice none 0 0, .int .u16 0, .int .u8 0, .int .u8 0, .int .u32 0, .slice none 0 0, .slice none 0 0, .slice none 0 0, .slice none 0 0], .int .i64 22]) ?hr rfl ?_
   case hr => exact results_rs (p := 4) (s := 5) rfl _ _ g4 33 [.int .u8 0, .int .u32 0, .int .u32 0, .int .u32 0, .int .u16 0, .int .u8 0, .int .u8 0, .int .u32 0, .int .u32 0, .int .u32 0, .slice none 0 0, .int .u16 0, .int .u8 0, .int .u8 0, .int .u32 0, .slice none 0 0, .slice none 0 0, .slice none 0 0, .slice none 0 0] _ _ (by rfl) (by rfl) (RE.setRow _) Tryz.underlying33 rfl (by kernel_rfl)
   exact FIN.out _ ((TA.out).setRow (Or.inr (by have := HZ.out; omega)) _)
  have h8' : ¬ (c.length : Int) < 8 := by omega
  have va0 := HV'.out w0 (Touch.refl _ _)
  obtain ⟨u8, hu8, a8⟩ := cut_from va0 rfl (by omega) 8 (by omega)
  have s8 : ∀ w, Sem.run Tryz.prog (Instr.slice 40 (.slice va c.length vc) (some (.int .i64 8)) none none) w = .ok u8 w := hu8
  obtain ⟨u0, hu0, a0⟩ := cut_to va0 rfl (by omega) 2 (by omega)
  have s0 : ∀ w, Sem.run Tryz.prog (Instr.slice 40 (.slice va c.length vc) none (some (.int .i64 2)) none) w = .ok u0 w := hu0
  obtain ⟨u1, hu1, a1⟩ := cut_mid va0 rfl (by omega) 4 8 (by omega) (by omega)
  have s1 : ∀ w, Sem.run Tryz.prog (Instr.slice 40 (.slice va c.length vc) (some (.int .i64 4)) (some (.int .i64 8)) none) w = .ok u1 w := hu1
  obtain ⟨ga, oa, rfl⟩ := rowAt_some (va0.row (by omega)) (by omega)
  have b2 := rowAt_cell (va0.row (by omega)) 2 (by omega)
  have b3 := rowAt_cell (va0.row (by omega)) 3 (by omega)
  obtain ⟨m2, hm2⟩ : ∃ m, c.getD 2 0 = m := ⟨_, rfl⟩
  obtain ⟨m3, hm3⟩ : ∃ m, c.getD 3 0 = m := ⟨_, rfl⟩
  rw [hm2] at b2
  rw [hm3] at b3
  obtain ⟨n0, hn0⟩ : ∃ n, numOf (c.take 2) = n := ⟨_, rfl⟩
  obtain ⟨n1, hn1⟩ : ∃ n, numOf ((c.drop 4).take (8 - 4)) = n := ⟨_, rfl⟩
  have hn0b : 0 ≤ n0 ∧ n0 < 65536 := by
   rw [← hn0]
   obtain ⟨q0, q1⟩ := numOf_bound (c.take 2) (fun z hz => HBY.out z (List.mem_of_mem_take hz))
   refine ⟨q0, Int.lt_of_lt_of_le q1 ?_⟩
   have : (c.take 2).length = 2 := by simp; omega
   rw [this]
   decide
  have hu16 : IntKind.u16.wrap n0 = n0 := by simp [IntKind.wrap, IntKind.bits, IntKind.signed]; omega
  have HC := dreadHeads _ (c.drop 8) w0 a8 (fun z hz => HBY.out z (List.mem_of_mem_drop hz)) (by simp; omega)
  have EE : Hid (ppartE P.typ c = if (c.drop 8).length % 20 = 0 then 0 else 22) := by
   show _ = _
   unfold ppartE
   rw [HT.out, if_neg (by decide), if_pos rfl, List.length_drop]
   by_cases h : (c.length - 8) % 20 = 0
   ·rw [if_pos ⟨by omega, h⟩, if_pos h]
   ·rw [if_neg (fun hh => h hh.2), if_neg h]
  have HCE : Hid (ppartC P c = ⟨{ P with mtu := n0, dopts := m2, dflags := m3, dseq := n1 }, [], cuts 20 rdHead (c.drop 8), [], [], []⟩) := by
   show _ = _
   unfold ppartC
   rw [HT.out, if_neg (by decide), if_pos rfl, ← hm2, ← hm3, ← hn0, ← hn1]
  have HN0 : Hid (∀ w', Touch (fun _ => False) w0 w' → Calls Tryz.prog 73 #[u0] w' fun e w'' => e = .returned (.int .u32 n0) ∧ w' = w'') := fun w' t => by
   have := pnumber_any u0 (c.take 2) w' (a0.keepN t) (fun z hz => HBY.out z (List.mem_of_mem_take hz)) (by simp; omega)
   rw [hn0] at this
   exact this
  have HN1 : Hid (∀ w', Touch (fun _ => False) w0 w' → Calls Tryz.prog 73 #[u1] w' fun e w'' => e = .returned (.int .u32 n1) ∧ w' = w'') := fun w' t => by
   have := pnumber_any u1 ((c.drop 4).take (8 - 4)) w' (a1.keepN t) (fun z hz => HBY.out z (List.mem_of_mem_drop (List.mem_of_mem_take hz))) (by simp; omega)
   rw [hn1] at this
   exact this
  have Y2 : Hid (∀ w', Touch (fun _ => False) w0 w' → w'.cell? ⟨ga, oa + 2, none⟩ = some (.int .u8 m2)) := fun w' t => t.cellN b2
  have Y3 : Hid (∀ w', Touch (fun _ => False) w0 w' → w'.cell? ⟨ga, oa + 3, none⟩ = some (.int .u8 m3)) := fun w' t => t.cellN b3
  have HGA : Hid (ga < w0.heap.size ∧ ¬ ga = g1) := ⟨lt_of_cell b2, fun e => by have := HGA0.out ga oa rfl (by omega); omega⟩
  have h2' : (2 : Int) < (c.length : Int) := by omega
  have h3' : (3 : Int) < (c.length : Int) := by omega
  clear hu8 a8 hu0 a0 hu1 a1 va0 b2 b3 hm2 hm3 hn0 hn1 hn0b
  go_wp2_with fail
  refine Calls.mono HC ?_
  rintro e w1 ⟨u, rfl, vb0⟩
  have T1a := vb0.t
  obtain ⟨sa, sc, rfl⟩ := vb0.form
  have VB : Hid (VBuf 93 8 w0 w1 (.slice sa (cuts 20 rdHead (c.drop 8)).length sc) (cuts 20 rdHead (c.drop 8)).length (headsC (cuts 20 rdHead (c.drop 8)))) := vb0
  clear vb0 HC c0
  obtain ⟨q, hq⟩ : ∃ q, decide ((c.drop 8).length % 20 = 0) = q := ⟨_, rfl⟩
  rw [hq]
  have HQ : Hid (q = true ↔ (c.drop 8).length % 20 = 0) := by rw [← hq]; show _ ↔ _; simp
  clear hq
  go_upto_region 16 with fail
  have T1 : Touch (fun _ => False) w0 w1.drew := T1a.drew
  have hga : ga < w0.heap.size ∧ ¬ ga = g1 := HGA.out
  have Y2g : Hid (∀ w', Touch (fun k => k = g1) w0 w' → w'.cell? ⟨ga, oa + 2, none⟩ = some (.int .u8 m2)) := fun w' t => (t.cell (p := ⟨ga, oa + 2, none⟩) hga.1 hga.2).trans (Y2.out w0 (Touch.refl _ _))
  have Y3g : Hid (∀ w', Touch (fun k => k = g1) w0 w' → w'.cell? ⟨ga, oa + 3, none⟩ = some (.int .u8 m3)) := fun w' t => (t.cell (p := ⟨ga, oa + 3, none⟩) hga.1 hga.2).trans (Y3.out w0 (Touch.refl _ _))
  clear hga
  have zc0 : w1.cell? ⟨g1, 11, none⟩ = some (.int .u16 P.mtu) := (A0.keep T1a).cell 11
  have zf0 : w1.frozen? ⟨g1, 11, none⟩ = false := (A0.keep T1a).frozen 11
  have zc1 : w1.cell? ⟨g1, 12, none⟩ = some (.int .u8 P.dopts) := (A0.keep T1a).cell 12
  have zf1 : w1.frozen? ⟨g1, 12, none⟩ = false := (A0.keep T1a).frozen 12
  have zc2 : w1.cell? ⟨g1, 13, none⟩ = some (.int .u8 P.dflags) := (A0.keep T1a).cell 13
  have zf2 : w1.frozen? ⟨g1, 13, none⟩ = false := (A0.keep T1a).frozen 13
  have zc3 : w1.cell? ⟨g1, 14, none⟩ = some (.int .u32 P.dseq) := (A0.keep T1a).cell 14
  have zf3 : w1.frozen? ⟨g1, 14, none⟩ = false := (A0.keep T1a).frozen 14
  have zc4 : w1.cell? ⟨g1, 15, none⟩ = some (.slice none 0 0) := (A0.keep T1a).cell 15
  have zf4 : w1.frozen? ⟨g1, 15, none⟩ = false := (A0.keep T1a).frozen 15
  obtain ⟨x1, hx1⟩ : ∃ z, z = (((((w1.setCell ⟨g1, 11, none⟩ (.int .u16 n0)).setCell ⟨g1, 12, none⟩ (.int .u8 m2)).setCell ⟨g1, 13, none⟩ (.int .u8 m3)).setCell ⟨g1, 14, none⟩ (.int .u32 n1)).setCell ⟨g1, 15, none⟩ (.slice sa (cuts 20 rdHead (c.drop 8)).length sc)) := ⟨_, rfl⟩
  have Ux1 : Touch (fun k => k = g1) w1 x1 := by rw [hx1]; refine Touch.setCell (F := fun k => k = g1) (p := ⟨g1, 15, none⟩) ?_ (Or.inl rfl) _; refine Touch.setCell (F := fun k => k = g1) (p := ⟨g1, 14, none⟩) ?_ (Or.inl rfl) _; refine Touch.setCell (F := fun k => k = g1) (p := ⟨g1, 13, none⟩) ?_ (Or.inl rfl) _; refine Touch.setCell (F := fun k => k = g1) (p := ⟨g1, 12, none⟩) ?_ (Or.inl rfl) _; refine Touch.setCell (F := fun k => k = g1) (p := ⟨g1, 11, none⟩) ?_ (Or.inl rfl) _; exact Touch.refl _ _
  have Ax1 : Row x1 g1 33 [.int .u8 P.typ, .int .u32 P.router, .int .u32 P.area, .int .u32 P.mask, .int .u16 P.iv, .int .u8 P.opts, .int .u8 P.prio, .int .u32 P.dead, .int .u32 P.dr, .int .u32 P.bdr, .slice none 0 0, .int .u16 n0, .int .u8 m2, .int .u8 m3, .int .u32 n1, .slice sa (cuts 20 rdHead (c.drop 8)).length sc, .slice none 0 0, .slice none 0 0, .slice none 0 0] := by rw [hx1]; exact ((((((A0.keep T1a).set 11 _).set 12 _).set 13 _).set 14 _).set 15 _)
  have Bx1 : Row x1 g4 33 [.int .u8 0, .int .u32 0, .int .u32 0, .int .u32 0, .int .u16 0, .int .u8 0, .int .u8 0, .int .u32 0, .int .u32 0, .int .u32 0, .slice none 0 0, .int .u16 0, .int .u8 0, .int .u8 0, .int .u32 0, .slice none 0 0, .slice none 0 0, .slice none 0 0, .slice none 0 0] := (B0.keep T1a).touch Ux1 ng41
  have TX2 : Touch (fun k => k = g1) w0 x1.drew := ((T1a.mono (fun _ _ f => f.elim)).trans Ux1).drew
  have S1 : Touch (fun k => k = g1) w0 w1.drew := T1.mono (fun _ _ f => f.elim)
  refine wp_region_held_drew (S := fun w' => Touch (fun k => k = g1) w0 w') (by kernel_rfl) S1 (fun hHeld => ?_)
  refine wpAnyH_take (i := 0) (oi := ⟨some 51, _, _, _, _, _⟩) (v := .slice (some ⟨ga, oa, none⟩) c.length vc) rfl (by kernel_rfl) (by kernel_rfl) (by kernel_rfl) (fun _ _ _ h => h) (Or.inl ⟨by rfl, fun w hw => by go_simp⟩) (by assumption) ?_
  simp only [Act.put, List.setIfInBounds_toArray, List.set_cons_zero, List.set_cons_succ]
  refine wpAnyH_take (i := 1) (oi := ⟨some 52, _, _, _, _, _⟩) (v := u0) rfl (by kernel_rfl) (by kernel_rfl) (by kernel_rfl) (fun _ _ _ h => h) (Or.inl ⟨by rfl, fun w hw => by go_simp⟩) (by assumption) ?_
  simp only [Act.put, List.setIfInBounds_toArray, List.set_cons_zero, List.set_cons_succ]
  refine wpAnyH_take (i := 4) (oi := ⟨some 55, _, _, _, _, _⟩) (v := .slice (some ⟨ga, oa, none⟩) c.length vc) rfl (by kernel_rfl) (by kernel_rfl) (by kernel_rfl) (fun _ _ _ h => h) (Or.inl ⟨by rfl, fun w hw => by go_simp⟩) (by assumption) ?_
  simp only [Act.put, List.setIfInBounds_toArray, List.set_cons_zero, List.set_cons_succ]
  refine wpAnyH_take (i := 5) (oi := ⟨some 56, _, _, _, _, _⟩) (v := .pointer (some ⟨ga, oa + 2, none⟩)) rfl (by kernel_rfl) (by kernel_rfl) (by kernel_rfl) (fun _ _ _ h => h) (Or.inl ⟨by rfl, fun w hw => by go_simp <;> first | omega | (intro hh; omega)⟩) (by assumption) ?_
  simp only [Act.put, List.setIfInBounds_toArray, List.set_cons_zero, List.set_cons_succ]
  refine wpAnyH_take (i := 6) (oi := ⟨some 57, _, _, _, _, _⟩) (v := .int .u8 m2) rfl (by kernel_rfl) (by kernel_rfl) (by kernel_rfl) (fun _ _ _ h => h) (Or.inl ⟨by rfl, fun w hw => by have kk := Y2g.out w hw; go_simp⟩) (by assumption) ?_
  simp only [Act.put, List.setIfInBounds_toArray, List.set_cons_zero, List.set_cons_succ]
  refine wpAnyH_take (i := 7) (oi := ⟨some 58, _, _, _, _, _⟩) (v := .slice (some ⟨ga, oa, none⟩) c.length vc) rfl (by kernel_rfl) (by kernel_rfl) (by kernel_rfl) (fun _ _ _ h => h) (Or.inl ⟨by rfl, fun w hw => by go_simp⟩) (by assumption) ?_
  simp only [Act.put, List.setIfInBounds_toArray, List.set_cons_zero, List.set_cons_succ]
  refine wpAnyH_take (i := 8) (oi := ⟨some 59, _, _, _, _, _⟩) (v := .pointer (some ⟨ga, oa + 3, none⟩)) rfl (by kernel_rfl) (by kernel_rfl) (by kernel_rfl) (fun _ _ _ h => h) (Or.inl ⟨by rfl, fun w hw => by go_simp <;> first | omega | (intro hh; omega)⟩) (by assumption) ?_
  simp only [Act.put, List.setIfInBounds_toArray, List.set_cons_zero, List.set_cons_succ]
  refine wpAnyH_take (i := 9) (oi := ⟨some 60, _, _, _, _, _⟩) (v := .int .u8 m3) rfl (by kernel_rfl) (by kernel_rfl) (by kernel_rfl) (fun _ _ _ h => h) (Or.inl ⟨by rfl, fun w hw => by have kk := Y3g.out w hw; go_simp⟩) (by assumption) ?_
  simp only [Act.put, List.setIfInBounds_toArray, List.set_cons_zero, List.set_cons_succ]
  refine wpAnyH_take (i := 10) (oi := ⟨some 61, _, _, _, _, _⟩) (v := .slice (some ⟨ga, oa, none⟩) c.length vc) rfl (by kernel_rfl) (by kernel_rfl) (by kernel_rfl) (fun _ _ _ h => h) (Or.inl ⟨by rfl, fun w hw => by go_simp⟩) (by assumption) ?_
  simp only [Act.put, List.setIfInBounds_toArray, List.set_cons_zero, List.set_cons_succ]
  refine wpAnyH_take (i := 11) (oi := ⟨some 62, _, _, _, _, _⟩) (v := u1) rfl (by kernel_rfl) (by kernel_rfl) (by kernel_rfl) (fun _ _ _ h => h) (Or.inl ⟨by rfl, fun w hw => by go_simp⟩) (by assumption) ?_
  simp only [Act.put, List.setIfInBounds_toArray, List.set_cons_zero, List.set_cons_succ]
  refine wpAnyH_take (i := 13) (oi := ⟨some 64, _, _, _, _, _⟩) (v := .slice sa (cuts 20 rdHead (c.drop 8)).length sc) rfl (by kernel_rfl) (by kernel_rfl) (by kernel_rfl) (fun _ _ _ h => h) (Or.inl ⟨by rfl, fun w hw => by go_simp⟩) (by assumption) ?_
  simp only [Act.put, List.setIfInBounds_toArray, List.set_cons_zero, List.set_cons_succ]
  refine wpAnyH_ready (rs := [2]) (by kernel_rfl) (by simp) ?_
  refine AllReadyH.cons (o := ⟨some 53, _, _, _, _, _⟩) rfl (fun K hK => ?_) AllReadyH.nil
  go_simp
  refine Calls.mono (HN0.out _ T1) ?_
  rintro e wx ⟨rfl, rfl⟩
  refine hK.out _ _ S1 (fun hHeld => ?_)
  clear hK K
  refine wpAnyH_take (i := 3) (oi := ⟨some 54, _, _, _, _, _⟩) (v := .int .u16 n0) rfl (by kernel_rfl) (by kernel_rfl) (by kernel_rfl) (fun _ _ _ h => h) (Or.inl ⟨by rfl, fun w hw => by go_simp⟩) (by assumption) ?_
  simp only [Act.put, List.setIfInBounds_toArray, List.set_cons_zero, List.set_cons_succ]
  refine wpAnyH_ready (rs := [12]) (by kernel_rfl) (by simp) ?_
  refine AllReadyH.cons (o := ⟨some 63, _, _, _, _, _⟩) rfl (fun K hK => ?_) AllReadyH.nil
  go_simp
  refine Calls.mono (HN1.out _ T1) ?_
  rintro e wx ⟨rfl, rfl⟩
  refine hK.out _ _ S1 (fun hHeld => ?_)
  clear hK K
  refine wpAnyH_take (i := 14) (oi := ⟨some 65, _, _, _, _, _⟩) (v := .agg #[.int .u16 n0, .int .u8 m2, .int .u8 m3, .int .u32 n1, .slice sa (cuts 20 rdHead (c.drop 8)).length sc]) rfl (by kernel_rfl) (by kernel_rfl) (by kernel_rfl) (fun _ _ _ h => h) (Or.inl ⟨by rfl, fun w hw => by go_simp⟩) (by assumption) ?_
  simp only [Act.put, List.setIfInBounds_toArray, List.set_cons_zero, List.set_cons_succ]
  refine wpAnyH_take (i := 15) (oi := ⟨some 66, _, _, _, _, _⟩) (v := .pointer (some ⟨g1, 11, none⟩)) rfl (by kernel_rfl) (by kernel_rfl) (by kernel_rfl) (fun _ _ _ h => h) (Or.inl ⟨by rfl, fun w hw => by go_simp⟩) (by assumption) ?_
  simp only [Act.put, List.setIfInBounds_toArray, List.set_cons_zero, List.set_cons_succ]
  refine wpAnyH_ready (rs := [16]) (by kernel_rfl) (by simp) ?_
  refine AllReadyH.cons rfl (fun K hK => ?_) AllReadyH.nil
  go_simp
  refine hK.out _ _ (hx1 ▸ TX2) (fun hHeld => ?_)
  clear hK K
  refine wpAnyH_done (by kernel_rfl) ?_ _
  go_upto_region 25 with fail
  rw [← hx1]
  clear hx1 zc0 zf0 zc1 zf1 zc2 zf2 zc3 zf3 zc4 zf4
  have Ax2 := Ax1.keep ((Touch.refl (fun _ => False) _).drew)
  have Bx2 := Bx1.keep ((Touch.refl (fun _ => False) _).drew)
  have Ux2 : Touch (fun k => k = g1) w1 x1.drew := Ux1.drew
  generalize x1.drew = x2 at *
  have T2 : Hid (Touch (fun _ => False) w x2) := (TA.out.trans T1a).trans' Ux2 (fun i hi e => by have := HZ.out; omega)
  cases q with
  | true =>
   have hm := HQ.out.1 rfl
   have HE : Hid (ppartE P.typ c = 0) := by show _ = _; rw [EE.out, if_pos hm]
   have HPK : Hid (∀ w', Touch (fun k => k < g1 + 2) w1 w' → PkAt w' (ppartC P c) (.slice none 0 0) (.slice sa (cuts 20 rdHead (c.drop 8)).length sc) (.slice none 0 0) (.slice none 0 0) (.slice none 0 0)) := fun w' tt => by
    rw [HCE.out]
    have ow := VB.out.own
    exact ⟨words_nil _, own_vals (own_touch ow tt (fun k hk e => by have h1 := (ow.lt k hk).1; have h2 := Z0.out; omega)), keys_nil _, sts_nil _, heads_nil _⟩
   have HPC : Hid ((ppartC P c).P = { P with mtu := n0, dopts := m2, dflags := m3, dseq := n1 }) := by show _ = _; rw [HCE.out]
   clear hm
   have RG := (Ax2).range
   have RE := Bx2
   go_wp2_with (first | refine wpList_load_mid rfl 33 (.tmp 2) rfl g1 0 rfl [.int .u8 P.typ, .int .u32 P.router, .int .u32 P.area, .int .u32 P.mask, .int .u16 P.iv, .int .u8 P.opts, .int .u8 P.prio, .int .u32 P.dead, .int .u32 P.dr, .int .u32 P.bdr, .slice none 0 0, .int .u16 n0, .int .u8 m2, .int .u8 m3, .int .u32 n1, .slice sa (cuts 20 rdHead (c.drop 8)).length sc, .slice none 0 0, .slice none 0 0, .slice none 0 0] _ RG Tryz.underlying33 rfl (by kernel_rfl) ?_ | refine wpList_store_row rfl 33 (.tmp 4) (.tmp 93) rfl g4 #[.int .u8 P.typ, .int .u32 P.router, .int .u32 P.area, .int .u32 P.mask, .int .u16 P.iv, .int .u8 P.opts, .int .u8 P.prio, .int .u32 P.dead, .int .u32 P.dr, .int .u32 P.bdr, .slice none 0 0, .int .u16 n0, .int .u8 m2, .int .u8 m3, .int .u32 n1, .slice sa (cuts 20 rdHead (c.drop 8)).length sc, .slice none 0 0, .slice none 0 0, .slice none 0 0] rfl rfl 33 _ RE (by kernel_rfl) rfl (by simp [Value.oneCell']) ?_)
   have U4 : Touch (fun k => k = g4) x2 (x2.setRow g4 #[.int .u8 P.typ, .int .u32 P.router, .int .u32 P.area, .int .u32 P.mask, .int .u16 P.iv, .int .u8 P.opts, .int .u8 P.prio, .int .u32 P.dead, .int .u32 P.dr, .int .u32 P.bdr, .slice none 0 0, .int .u16 n0, .int .u8 m2, .int .u8 m3, .int .u32 n1, .slice sa (cuts 20 rdHead (c.drop 8)).length sc, .slice none 0 0, .slice none 0 0, .slice none 0 0]) := Touch.setRow (F := fun k => k = g4) (Touch.refl _ _) (Or.inl rfl) _
   refine bodyPost_ret (v := .tuple #[.agg #[.int .u8 P.typ, .int .u32 P.router, .int .u32 P.area, .int .u32 P.mask, .int .u16 P.iv, .int .u8 P.opts, .int .u8 P.prio, .int .u32 P.dead, .int .u32 P.dr, .int .u32 P.bdr, .slice none 0 0, .int .u16 n0, .int .u8 m2, .int .u8 m3, .int .u32 n1, .slice sa (cuts 20 rdHead (c.drop 8)).length sc, .slice none 0 0, .slice none 0 0, .slice none 0 0], .int .i64 0]) ?hr rfl ?_
   case hr => exact results_rs (p := 4) (s := 5) rfl _ _ g4 33 [.int .u8 P.typ, .int .u32 P.router, .int .u32 P.area, .int .u32 P.mask, .int .u16 P.iv, .int .u8 P.opts, .int .u8 P.prio, .int .u32 P.dead, .int .u32 P.dr, .int .u32 P.bdr, .slice none 0 0, .int .u16 n0, .int .u8 m2, .int .u8 m3, .int .u32 n1, .slice sa (cuts 20 rdHead (c.drop 8)).length sc, .slice none 0 0, .slice none 0 0, .slice none 0 0] _ _ (by rfl) (by rfl) (RE.setRow _) Tryz.underlying33 rfl (by kernel_rfl)
   exact ⟨((T2.out).trans' U4 (fun i hi e => by have := HZ.out; omega)), Or.inl ⟨by rw [HE.out], _, _, _, _, _, by rw [HPC.out]; rfl, fun w2 t2 => HPK.out _ (((Ux2.mono (fun i _ e => by omega)).trans (U4.mono (fun i _ e => by have := HZ.out; omega))).trans (t2.mono (fun i _ e => by have := HZ.out; omega)))⟩⟩
  | false =>
   have HE : Hid (ppartE P.typ c = 22) := by show _ = _; rw [EE.out, if_neg (fun h => by have := HQ.out.2 h; cases this)]
   have FIN : Hid (∀ w', Touch (fun _ => False) w w' → DpP w P c (.returned (.tuple #[.agg #[.int .u8 0, .int .u32 0, .int .u32 0, .int .u32 0, .int .u16 0, .int .u8 0, .int .u8 0, .int .u32 0, .int .u32 0, .int .u32 0, .slice none 0 0, .int .u16 0, .int .u8 0, .int .u8 0, .int .u32 0, .slice none 0 0, .slice none 0 0, .slice none 0 0, .slice none 0 0], .int .i64 22])) w') := fun w' t => ⟨t, Or.inr ⟨by rw [HE.out]; decide, by rw [HE.out]⟩⟩
   have RE := Bx2
   go_wp2_with (refine wpList_store_row rfl 33 (.tmp 4) (.tmp 91) rfl g4 #[.int .u8 0, .int .u32 0, .int .u32 0, .int .u32 0, .int .u16 0, .int .u8 0, .int .u8 0, .int .u32 0, .int .u32 0, .int .u32 0, .slice none 0 0, .int .u16 0, .int .u8 0, .int .u8 0, .int .u32 0, .slice none 0 0, .slice none 0 0, .slice none 0 0, .slice none 0 0] rfl rfl 33 _ RE (by kernel_rfl) rfl (by simp [Value.oneCell']) ?_)
   refine bodyPost_ret (v := .tuple #[.agg #[.int .u8 0, .int .u32 0, .int .u32 0, .int .u32 0, .int .u16 0, .int .u8 0, .int .u8 0, .int .u32 0, .int .u32 0, .int .u32 0, .slice none 0 0, .int .u16 0, .int .u8 0, .int .u8 0, .int .u32 0, .slice none 0 0, .slice none 0 0, .slice none 0 0, .slice none 0 0], .int .i64 22]) ?hr rfl ?_
   case hr => exact results_rs (p := 4) (s := 5) rfl _ _ g4 33 [.int .u8 0, .int .u32 0, .int .u32 0, .int .u32 0, .int .u16 0, .int .u8 0, .int .u8 0, .int .u32 0, .int .u32 0, .int .u32 0, .slice none 0 0, .int .u16 0, .int .u8 0, .int .u8 0, .int .u32 0, .slice none 0 0, .slice none 0 0, .slice none 0 0, .slice none 0 0] _ _ (by rfl) (by rfl) (RE.setRow _) Tryz.underlying33 rfl (by kernel_rfl)
   exact FIN.out _ ((T2.out).setRow (Or.inr (by have := HZ.out; omega)) _)
end Go.Proofs.YtbfplepmgbkajaaGreatDoor
