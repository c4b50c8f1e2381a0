/- Package packet: Encode. -/
import Derived.Test.YtbfplepmgbkajaaGreatDoorPkRp
import Derived.Deep.RegionHeld2
import Derived.Deep.DeepCutAuto
import Derived.Test.YtbfplepmgbkajaaGreatDoorPkRead
import Derived.Test.YtbfplepmgbkajaaGreatDoorStRd3
import Derived.Test.YtbfplepmgbkajaaGreatDoorPkIt4
import Derived.Test.YtbfplepmgbkajaaGreatDoorPkRu
import Derived.Test.YtbfplepmgbkajaaGreatDoorBagKm
import Derived.Stop.BytesEq
import Derived.Deep.QuietTactic
import Derived.Test.YtbfplepmgbkajaaGreatDoorPkRows
namespace Go.Proofs.YtbfplepmgbkajaaGreatDoor
open Go.RowKit
set_option linter.unusedVariables false
set_option maxRecDepth 100000

/-- A packet that was handed over: its box, its rows. -/
theorem Calls.left {P : Program} {f : FuncId} {args : Array Value} {w : World} {R1 R2 : Prop} {Q1 Q2 : Ending → World → Prop} (h : Calls P f args w fun e w' => (R1 ∧ Q1 e w') ∨ (R2 ∧ Q2 e w')) (h2 : ¬ R2) : Calls P f args w Q1 :=
 h.mono (fun e w' g => by rcases g with g | g; exact g.2; exact (h2 g.1).elim)
theorem Calls.right {P : Program} {f : FuncId} {args : Array Value} {w : World} {R1 R2 : Prop} {Q1 Q2 : Ending → World → Prop} (h : Calls P f args w fun e w' => (R1 ∧ Q1 e w') ∨ (R2 ∧ Q2 e w')) (h1 : ¬ R1) : Calls P f args w Q2 :=
 h.mono (fun e w' g => by rcases g with g | g; exact (h1 g.1).elim; exact g.2)

end Go.Proofs.YtbfplepmgbkajaaGreatDoor

namespace Go.Proofs.YtbfplepmgbkajaaGreatDoor
open Go.RowKit
set_option linter.unusedVariables false
set_option maxRecDepth 100000

attribute [local go_sem ↓] Go.wp_at_zero Go.wp_at_succ
/-- What lies in the two result blocks. -/
structure DecK (g2 g3 base : Nat) (C : PkC) (A : AuV) (w' : World) : Prop where
 out : ∃ na nc da dc ka kc sa sc ha hc, Row w' g2 33 [.int .u8 C.P.typ, .int .u32 C.P.router, .int .u32 C.P.area, .int .u32 C.P.mask, .int .u16 C.P.iv, .int .u8 C.P.opts, .int .u8 C.P.prio, .int .u32 C.P.dead, .int .u32 C.P.dr, .int .u32 C.P.bdr, .slice na C.nb.length nc, .int .u16 C.P.mtu, .int .u8 C.P.dopts, .int .u8 C.P.dflags, .int .u32 C.P.dseq, .slice da C.dh.length dc, .slice ka C.ks.length kc, .slice sa C.ss.length sc, .slice ha C.hs.length hc] ∧ Row w' g3 44 [.int .u16 A.kind, .int .u8 A.d0, .int .u8 A.d1, .int .u8 A.d2, .int .u8 A.d3, .int .u8 A.d4, .int .u8 A.d5, .int .u8 A.d6, .int .u8 A.d7] ∧ POwnA base w' C (.slice na C.nb.length nc) (.slice da C.dh.length dc) (.slice ka C.ks.length kc) (.slice sa C.ss.length sc) (.slice ha C.hs.length hc)
theorem POwnA.touch {F : Nat → Prop} {base : Nat} {w w' : World} {C : PkC} {vn vd vk vs vh : Value} (h : POwnA base w C vn vd vk vs vh) (t : Touch F w w') (hF : ∀ k, base ≤ k → ¬ F k) : POwnA base w' C vn vd vk vs vh := by
 obtain ⟨l, h1, h2, h3, h4⟩ := h.s
 exact ⟨own_touch h.n t (fun k hk => hF k (h.n.lt k hk).1), own_touch h.d t (fun k hk => hF k (h.d.lt k hk).1), own_touch h.k t (fun k hk => hF k (h.k.lt k hk).1), ⟨l, h1, own_touch h2 t (fun k hk => hF k (h2.lt k hk).1), (fun x hx => own_touch (h3 x hx) t (fun k hk => hF k ((h3 x hx).lt k hk).1)), h4⟩, own_touch h.h t (fun k hk => hF k (h.h.lt k hk).1), h.x⟩
theorem POwnA.lower {base base' : Nat} {w : World} {C : PkC} {vn vd vk vs vh : Value} (h : POwnA base w C vn vd vk vs vh) (hb : base' ≤ base) : POwnA base' w C vn vd vk vs vh := by
 obtain ⟨l, h1, h2, h3, h4⟩ := h.s
 exact ⟨own_lower h.n hb, own_lower h.d hb, own_lower h.k hb, ⟨l, h1, own_lower h2 hb, (fun x hx => own_lower (h3 x hx) hb), h4⟩, own_lower h.h hb, h.x⟩
theorem DecK.touch {F : Nat → Prop} {g2 g3 base : Nat} {C : PkC} {A : AuV} {w w' : World} (h : DecK g2 g3 base C A w) (t : Touch F w w') (h2 : ¬ F g2) (h3 : ¬ F g3) (hF : ∀ k, base ≤ k → ¬ F k) : DecK g2 g3 base C A w' := by
 obtain ⟨na, nc, da, dc, ka, kc, sa, sc, ha, hc, r2, r3, po⟩ := h.out
 exact ⟨na, nc, da, dc, ka, kc, sa, sc, ha, hc, r2.touch t h2, r3.touch t h3, po.touch t hF⟩
set_option maxHeartbeats 4000000 in
theorem pdec1_any (g1 g2 g3 : Nat) (v : Value) (rs : List Int) (w : World) (hv : ArgAt w v rs) (hby : ∀ z ∈ rs, 0 ≤ z ∧ z < 256) (hl : rs.length ≤ 1000000) (c1 : w.cell? ⟨g1, 0, none⟩ = some v)
  (A2 : Row w g2 33 [.int .u8 0, .int .u32 0, .int .u32 0, .int .u32 0, .int .u16 0, .int .u8 0, .int .u8 0, .int .u32 0, .int .u32 0, .int .u32 0, .slice none 0 0, .int .u16 0, .int .u8 0, .int .u8 0, .int .u32 0, .slice none 0 0, .slice none 0 0, .slice none 0 0, .slice none 0 0]) (A3 : Row w g3 44 [.int .u16 0, .int .u8 0, .int .u8 0, .int .u8 0, .int .u8 0, .int .u8 0, .int .u8 0, .int .u8 0, .int .u8 0]) (h23 : ¬ g2 = g3) (h2 : g2 < w.heap.size) (h3 : g3 < w.heap.size) :
  Calls Tryz.prog 71 #[.pointer (some ⟨g1, 0, none⟩), .pointer (some ⟨g2, 0, none⟩), .pointer (some ⟨g3, 0, none⟩)] w fun e w' =>
   (pdecE rs = 0 ∧ e = .returned (.tuple #[]) ∧ Touch (fun k => k = g2 ∨ k = g3) w w' ∧ DecK g2 g3 w.heap.size (pdecC rs) (pdecA rs) w') ∨
   (pdecE rs ≠ 0 ∧ e = .panicked (pflawC (pdecE rs)) ∧ Touch (fun k => k = g2 ∨ k = g3) w w' ∧ DecK g2 g3 w.heap.size (pdecC rs) (pdecA rs) w') := by
 have HW := pread_any v rs w hv hby hl
 obtain ⟨va, vc, rfl, -⟩ := hv.form
 have DZ : Hid (pdecE rs ≠ 0 → ∀ w', Touch (fun _ => False) w w' → DecK g2 g3 w.heap.size (pdecC rs) (pdecA rs) w') := fun hE w' t => by
  unfold pdecC pdecA
  rw [if_neg hE, if_neg hE]
  exact ⟨none, 0, none, 0, none, 0, none, 0, none, 0, A2.keep t, A3.keep t, ⟨own_nil _ _ _ _, own_nil _ _ _ _, own_nil _ _ _ _, statesA_nil _ _, own_nil _ _ _ _, (fun k hk hh => by simp [Value.ownBlock] at hk hh)⟩⟩
 have h32 : ¬ g3 = g2 := fun e => h23 e.symm
 have HW2 : Calls Tryz.prog 72 #[.slice va rs.length vc] w fun e w' => Touch (fun _ => False) w w' ∧ ((pdecE rs = 0 ∧ ∃ vn vd vk vs vh, e = .returned (.tuple #[(pdecC rs).P.v vn vd vk vs vh, (pdecA rs).v]) ∧ POwnA w.heap.size w' (pdecC rs) vn vd vk vs vh) ∨ (pdecE rs ≠ 0 ∧ e = .panicked (pflawC (pdecE rs)))) := HW.mono (fun _ _ h => ⟨h.t, h.out⟩)
 clear hv hby HW
 generalize pdecC rs = C at *
 generalize pdecA rs = A at *
 generalize pdecE rs = E at *
 go_enter Tryz.func71, Tryz.ntmps71
 go_wp2_with fail
 refine Calls.mono HW2 ?_
 rintro e w1 ⟨t1, h1⟩
 rcases h1 with ⟨hE, vn, vd, vk, vs, vh, rfl, po⟩ | ⟨hE, rfl⟩
 rotate_left
 ·exact ⟨rfl, Or.inr ⟨hE, rfl, t1.mono (fun _ _ f => f.elim), DZ.out hE _ t1⟩⟩
 have HE : Hid (E = 0) := hE
 obtain ⟨na, nc, rfl⟩ := own_form po.n
 obtain ⟨da, dc, rfl⟩ := own_form po.d
 obtain ⟨ka, kc, rfl⟩ := own_form po.k
 obtain ⟨sa, sc, rfl⟩ : ∃ a c, vs = .slice a C.ss.length c := by
  obtain ⟨l, hl, hs, _⟩ := po.s
  obtain ⟨a, c, e⟩ := own_form hs
  exact ⟨a, c, by rw [e, ← hl, List.length_map]⟩
 obtain ⟨ha, hc, rfl⟩ := own_form po.h
 have PO : Hid (POwnA w.heap.size w1 C (.slice na C.nb.length nc) (.slice da C.dh.length dc) (.slice ka C.ks.length kc) (.slice sa C.ss.length sc) (.slice ha C.hs.length hc)) := po
 have T1 : Hid (Touch (fun _ => False) w w1) := t1
 have B2 := A2.keep t1
 have B3 := A3.keep t1
 unfold PV.v AuV.v
 have B32 : Row (w1.setRow g2 #[.int .u8 C.P.typ, .int .u32 C.P.router, .int .u32 C.P.area, .int .u32 C.P.mask, .int .u16 C.P.iv, .int .u8 C.P.opts, .int .u8 C.P.prio, .int .u32 C.P.dead, .int .u32 C.P.dr, .int .u32 C.P.bdr, .slice na C.nb.length nc, .int .u16 C.P.mtu, .int .u8 C.P.dopts, .int .u8 C.P.dflags, .int .u32 C.P.dseq, .slice da C.dh.length dc, .slice ka C.ks.length kc, .slice sa C.ss.length sc, .slice ha C.hs.length hc]) g3 44 [.int .u16 0, .int .u8 0, .int .u8 0, .int .u8 0, .int .u8 0, .int .u8 0, .int .u8 0, .int .u8 0, .int .u8 0] := B3.otherRow h32 _
 clear po t1 hE HW2 DZ A2 A3
 go_wp2_with (first | refine wpList_store_row rfl 33 (.tmp 1) (.tmp 6) rfl g2 #[.int .u8 C.P.typ, .int .u32 C.P.router, .int .u32 C.P.area, .int .u32 C.P.mask, .int .u16 C.P.iv, .int .u8 C.P.opts, .int .u8 C.P.prio, .int .u32 C.P.dead, .int .u32 C.P.dr, .int .u32 C.P.bdr, .slice na C.nb.length nc, .int .u16 C.P.mtu, .int .u8 C.P.dopts, .int .u8 C.P.dflags, .int .u32 C.P.dseq, .slice da C.dh.length dc, .slice ka C.ks.length kc, .slice sa C.ss.length sc, .slice ha C.hs.length hc] rfl rfl 33 _ B2 (by kernel_rfl) rfl (by simp [Value.oneCell']) ?_ | refine wpList_store_row rfl 44 (.tmp 2) (.tmp 7) rfl g3 #[.int .u16 A.kind, .int .u8 A.d0, .int .u8 A.d1, .int .u8 A.d2, .int .u8 A.d3, .int .u8 A.d4, .int .u8 A.d5, .int .u8 A.d6, .int .u8 A.d7] rfl rfl 44 _ B32 (by kernel_rfl) rfl (by simp [Value.oneCell']) ?_)
 go_end0
 have U : Touch (fun k => k = g2 ∨ k = g3) w1 ((w1.setRow g2 #[.int .u8 C.P.typ, .int .u32 C.P.router, .int .u32 C.P.area, .int .u32 C.P.mask, .int .u16 C.P.iv, .int .u8 C.P.opts, .int .u8 C.P.prio, .int .u32 C.P.dead, .int .u32 C.P.dr, .int .u32 C.P.bdr, .slice na C.nb.length nc, .int .u16 C.P.mtu, .int .u8 C.P.dopts, .int .u8 C.P.dflags, .int .u32 C.P.dseq, .slice da C.dh.length dc, .slice ka C.ks.length kc, .slice sa C.ss.length sc, .slice ha C.hs.length hc]).setRow g3 #[.int .u16 A.kind, .int .u8 A.d0, .int .u8 A.d1, .int .u8 A.d2, .int .u8 A.d3, .int .u8 A.d4, .int .u8 A.d5, .int .u8 A.d6, .int .u8 A.d7]) := Touch.setRow (F := fun k => k = g2 ∨ k = g3) (Touch.setRow (F := fun k => k = g2 ∨ k = g3) (Touch.refl _ _) (Or.inl (Or.inl rfl)) _) (Or.inl (Or.inr rfl)) _
 exact Or.inl ⟨HE.out, rfl, (T1.out.mono (fun _ _ f => f.elim)).trans U, ⟨na, nc, da, dc, ka, kc, sa, sc, ha, hc, (B2.setRow _).otherRow h23 _, B32.setRow _, PO.out.touch U (fun k hk e => by omega)⟩⟩

set_option maxHeartbeats 4000000 in
theorem pdecA_any (v : Value) (rs : List Int) (w : World) (hv : ArgAt w v rs) (hby : ∀ z ∈ rs, 0 ≤ z ∧ z < 256) (hl : rs.length ≤ 1000000) :
  Calls Tryz.prog 17 #[v] w fun e w' => ∃ vn vd vk vs vh, e = .returned (.tuple #[(pdecC rs).P.v vn vd vk vs vh, (pdecA rs).v, .int .i64 (pdecE rs)]) ∧ POwnA w.heap.size w' (pdecC rs) vn vd vk vs vh ∧ Touch (fun _ => False) w w' := by
 obtain ⟨va, vc, rfl, -⟩ := hv.form
 have hmf : ∀ (fn : Fn) (first cap : Array Value) (w : World), (Instr.makeFunc fn first cap).run Tryz.prog w = .ok (.func fn first cap) w := fun _ _ _ _ => rfl
 obtain ⟨wa, hwa⟩ : ∃ wa, wa = ((w.alloc (.cells #[.slice va rs.length vc] 40)).alloc (.cells #[.int .u8 0, .int .u32 0, .int .u32 0, .int .u32 0, .int .u16 0, .int .u8 0, .int .u8 0, .int .u32 0, .int .u32 0, .int .u32 0, .slice none 0 0, .int .u16 0, .int .u8 0, .int .u8 0, .int .u32 0, .slice none 0 0, .slice none 0 0, .slice none 0 0, .slice none 0 0] 33)).alloc (.cells #[.int .u16 0, .int .u8 0, .int .u8 0, .int .u8 0, .int .u8 0, .int .u8 0, .int .u8 0, .int .u8 0, .int .u8 0] 44) := ⟨_, rfl⟩
 have ta : Touch (fun _ => False) w wa := by rw [hwa]; exact (((Touch.refl _ w).alloc _).alloc _).alloc _
 have za : wa.heap.size = w.heap.size + 3 := by rw [hwa]; simp
 have ca : wa.cell? ⟨w.heap.size, 0, none⟩ = some (.slice va rs.length vc) := by rw [hwa]; simp [go_sem]
 have A0 : Row wa (w.heap.size + 1) 33 [.int .u8 0, .int .u32 0, .int .u32 0, .int .u32 0, .int .u16 0, .int .u8 0, .int .u8 0, .int .u32 0, .int .u32 0, .int .u32 0, .slice none 0 0, .int .u16 0, .int .u8 0, .int .u8 0, .int .u32 0, .slice none 0 0, .slice none 0 0, .slice none 0 0, .slice none 0 0] := by
  have := (row_new (w.alloc (.cells #[.slice va rs.length vc] 40)) 33 #[.int .u8 0, .int .u32 0, .int .u32 0, .int .u32 0, .int .u16 0, .int .u8 0, .int .u8 0, .int .u32 0, .int .u32 0, .int .u32 0, .slice none 0 0, .int .u16 0, .int .u8 0, .int .u8 0, .int .u32 0, .slice none 0 0, .slice none 0 0, .slice none 0 0, .slice none 0 0]).keep ((Touch.refl _ _).alloc (.cells #[.int .u16 0, .int .u8 0, .int .u8 0, .int .u8 0, .int .u8 0, .int .u8 0, .int .u8 0, .int .u8 0, .int .u8 0] 44))
  rw [← hwa] at this
  simpa using this
 have B0 : Row wa (w.heap.size + 1 + 1) 44 [.int .u16 0, .int .u8 0, .int .u8 0, .int .u8 0, .int .u8 0, .int .u8 0, .int .u8 0, .int .u8 0, .int .u8 0] := by
  have := row_new ((w.alloc (.cells #[.slice va rs.length vc] 40)).alloc (.cells #[.int .u8 0, .int .u32 0, .int .u32 0, .int .u32 0, .int .u16 0, .int .u8 0, .int .u8 0, .int .u32 0, .int .u32 0, .int .u32 0, .slice none 0 0, .int .u16 0, .int .u8 0, .int .u8 0, .int .u32 0, .slice none 0 0, .slice none 0 0, .slice none 0 0, .slice none 0 0] 33)) 44 #[.int .u16 0, .int .u8 0, .int .u8 0, .int .u8 0, .int .u8 0, .int .u8 0, .int .u8 0, .int .u8 0, .int .u8 0]
  rw [← hwa] at this
  simpa using this
 have tf : Touch (fun _ => False) wa (wa.alloc (.cells #[.int .i64 0] 41)) := (Touch.refl _ wa).alloc _
 have zf : (wa.alloc (.cells #[.int .i64 0] 41)).heap.size = wa.heap.size + 1 := by simp
 have HC := pdec1_any w.heap.size (w.heap.size + 1) (w.heap.size + 1 + 1) (.slice va rs.length vc) rs (wa.alloc (.cells #[.int .i64 0] 41)) ((hv.keepN ta).keepN tf) hby hl (tf.cellN ca) (A0.keep tf) (B0.keep tf) (by omega) (by omega) (by omega)
 have TA : Hid (Touch (fun _ => False) w wa) := ta
 have ZA : Hid (wa.heap.size = w.heap.size + 3 ∧ (wa.alloc (.cells #[.int .i64 0] 41)).heap.size = wa.heap.size + 1) := ⟨za, zf⟩
 have hK : ∀ w1 w2, DecK (w.heap.size + 1) (w.heap.size + 1 + 1) (wa.alloc (.cells #[.int .i64 0] 41)).heap.size (pdecC rs) (pdecA rs) w1 → Touch (fun k => k = wa.heap.size) w1 w2 → DecK (w.heap.size + 1) (w.heap.size + 1 + 1) (wa.alloc (.cells #[.int .i64 0] 41)).heap.size (pdecC rs) (pdecA rs) w2 := fun w1 w2 h1 t => h1.touch t (by show ¬ (_ = _); omega) (by show ¬ (_ = _); omega) (fun k hk e => by omega)
 have HF : Calls Tryz.prog 33 #[.func (.func 71) #[] #[.pointer (some ⟨w.heap.size, 0, none⟩), .pointer (some ⟨w.heap.size + 1, 0, none⟩), .pointer (some ⟨w.heap.size + 1 + 1, 0, none⟩)]] wa fun e w' => e = .returned (.int .i64 (pdecE rs)) ∧ Touch (fun k => k = w.heap.size + 1 ∨ k = w.heap.size + 1 + 1) wa w' ∧ DecK (w.heap.size + 1) (w.heap.size + 1 + 1) (wa.alloc (.cells #[.int .i64 0] 41)).heap.size (pdecC rs) (pdecA rs) w' := by
  by_cases hE : pdecE rs = 0
  ·rw [hE]
   exact pface_ok 71 _ (fun _ => rfl) wa (fun k => k = w.heap.size + 1 ∨ k = w.heap.size + 1 + 1) (by show ¬ (_ ∨ _); omega) (DecK (w.heap.size + 1) (w.heap.size + 1 + 1) (wa.alloc (.cells #[.int .i64 0] 41)).heap.size (pdecC rs) (pdecA rs)) (Calls.left HC (fun h => h hE)) hK
  ·exact pface_no 71 _ (fun _ => rfl) wa (fun k => k = w.heap.size + 1 ∨ k = w.heap.size + 1 + 1) (by show ¬ (_ ∨ _); omega) (pdecE rs) (DecK (w.heap.size + 1) (w.heap.size + 1 + 1) (wa.alloc (.cells #[.int .i64 0] 41)).heap.size (pdecC rs) (pdecA rs)) (Calls.right HC hE) hK
 clear HC hK hv hby ca A0 B0 tf zf ta za
 generalize pdecC rs = C at *
 generalize pdecA rs = A at *
 generalize pdecE rs = E at *
 go_enter Tryz.func17, Tryz.ntmps17
 go_upto_region 1 with fail
 rw [← hwa]
 clear hwa
 generalize hg3 : w.heap.size + 1 + 1 = g3 at *
 generalize hg2 : w.heap.size + 1 = g2 at *
 generalize hg1 : w.heap.size = g1 at *
 have HZ : Hid (w.heap.size = g1 ∧ g1 + 1 = g2 ∧ g2 + 1 = g3) := ⟨hg1, hg2, hg3⟩
 clear hg1 hg2 hg3
 go_wp2_with fail
 refine Calls.mono HF ?_
 rintro e w1 ⟨rfl, t1, k1⟩
 have T1 : Hid (Touch (fun _ => False) w w1) := TA.out.trans' t1 (fun i hi e => by have := HZ.out; omega)
 obtain ⟨na, nc, da, dc, ka, kc, sa, sc, ha, hc, r2, r3, po⟩ := k1.out
 have PO : Hid (POwnA (wa.alloc (.cells #[.int .i64 0] 41)).heap.size w1 C (.slice na C.nb.length nc) (.slice da C.dh.length dc) (.slice ka C.ks.length kc) (.slice sa C.ss.length sc) (.slice ha C.hs.length hc)) := po
 have Ad_ : Row w1.drew g2 33 [.int .u8 C.P.typ, .int .u32 C.P.router, .int .u32 C.P.area, .int .u32 C.P.mask, .int .u16 C.P.iv, .int .u8 C.P.opts, .int .u8 C.P.prio, .int .u32 C.P.dead, .int .u32 C.P.dr, .int .u32 C.P.bdr, .slice na C.nb.length nc, .int .u16 C.P.mtu, .int .u8 C.P.dopts, .int .u8 C.P.dflags, .int .u32 C.P.dseq, .slice da C.dh.length dc, .slice ka C.ks.length kc, .slice sa C.ss.length sc, .slice ha C.hs.length hc] := r2.keep ((Touch.refl _ _).drew)
 have Bd_ : Row w1.drew g3 44 [.int .u16 A.kind, .int .u8 A.d0, .int .u8 A.d1, .int .u8 A.d2, .int .u8 A.d3, .int .u8 A.d4, .int .u8 A.d5, .int .u8 A.d6, .int .u8 A.d7] := r3.keep ((Touch.refl _ _).drew)
 clear t1 HF hmf k1 po r2 r3
 go_upto_region 2 with fail
 refine wp_region_held_drew (S := fun w' => Row w' g2 33 [.int .u8 C.P.typ, .int .u32 C.P.router, .int .u32 C.P.area, .int .u32 C.P.mask, .int .u16 C.P.iv, .int .u8 C.P.opts, .int .u8 C.P.prio, .int .u32 C.P.dead, .int .u32 C.P.dr, .int .u32 C.P.bdr, .slice na C.nb.length nc, .int .u16 C.P.mtu, .int .u8 C.P.dopts, .int .u8 C.P.dflags, .int .u32 C.P.dseq, .slice da C.dh.length dc, .slice ka C.ks.length kc, .slice sa C.ss.length sc, .slice ha C.hs.length hc] ∧ Row w' g3 44 [.int .u16 A.kind, .int .u8 A.d0, .int .u8 A.d1, .int .u8 A.d2, .int .u8 A.d3, .int .u8 A.d4, .int .u8 A.d5, .int .u8 A.d6, .int .u8 A.d7]) (by kernel_rfl) ⟨Ad_, Bd_⟩ (fun hHeld => ?_)
 refine wpAnyH_take (i := 0) (oi := ⟨some 7, _, _, _, _, _⟩) (v := .agg #[.int .u8 C.P.typ, .int .u32 C.P.router, .int .u32 C.P.area, .int .u32 C.P.mask, .int .u16 C.P.iv, .int .u8 C.P.opts, .int .u8 C.P.prio, .int .u32 C.P.dead, .int .u32 C.P.dr, .int .u32 C.P.bdr, .slice na C.nb.length nc, .int .u16 C.P.mtu, .int .u8 C.P.dopts, .int .u8 C.P.dflags, .int .u32 C.P.dseq, .slice da C.dh.length dc, .slice ka C.ks.length kc, .slice sa C.ss.length sc, .slice ha C.hs.length hc]) rfl (by kernel_rfl) (by kernel_rfl) (by kernel_rfl) (fun _ _ _ h => h) (yieldsIf_load_mid (by rfl) _ _ rfl _ _ rfl [.int .u8 C.P.typ, .int .u32 C.P.router, .int .u32 C.P.area, .int .u32 C.P.mask, .int .u16 C.P.iv, .int .u8 C.P.opts, .int .u8 C.P.prio, .int .u32 C.P.dead, .int .u32 C.P.dr, .int .u32 C.P.bdr, .slice na C.nb.length nc, .int .u16 C.P.mtu, .int .u8 C.P.dopts, .int .u8 C.P.dflags, .int .u32 C.P.dseq, .slice da C.dh.length dc, .slice ka C.ks.length kc, .slice sa C.ss.length sc, .slice ha C.hs.length hc] _ (fun w h => h.1.range) Tryz.underlying33 rfl (by kernel_rfl)) (by assumption) ?_
 simp only [Act.put, List.setIfInBounds_toArray, List.set_cons_zero, List.set_cons_succ]
 refine wpAnyH_take (i := 1) (oi := ⟨some 8, _, _, _, _, _⟩) (v := .agg #[.int .u16 A.kind, .int .u8 A.d0, .int .u8 A.d1, .int .u8 A.d2, .int .u8 A.d3, .int .u8 A.d4, .int .u8 A.d5, .int .u8 A.d6, .int .u8 A.d7]) rfl (by kernel_rfl) (by kernel_rfl) (by kernel_rfl) (fun _ _ _ h => h) (yieldsIf_load_mid (by rfl) _ _ rfl _ _ rfl [.int .u16 A.kind, .int .u8 A.d0, .int .u8 A.d1, .int .u8 A.d2, .int .u8 A.d3, .int .u8 A.d4, .int .u8 A.d5, .int .u8 A.d6, .int .u8 A.d7] _ (fun w h => h.2.range) Tryz.underlying44 rfl (by kernel_rfl)) (by assumption) ?_
 simp only [Act.put, List.setIfInBounds_toArray, List.set_cons_zero, List.set_cons_succ]
 refine wpAnyH_take (i := 2) (oi := ⟨some 9, _, _, _, _, _⟩) (v := .int .i64 E) rfl (by kernel_rfl) (by kernel_rfl) (by kernel_rfl) (fun _ _ _ h => h) (Or.inl ⟨by rfl, fun w hw => by go_simp⟩) (by assumption) ?_
 simp only [Act.put, List.setIfInBounds_toArray, List.set_cons_zero, List.set_cons_succ]
 refine wpAnyH_ready (rs := [3]) (by kernel_rfl) (by simp) ?_
 refine AllReadyH.cons (o := ⟨none, _, _, _, _, _⟩) rfl (fun K hK => ?_) AllReadyH.nil
 refine step_row (by rfl) 33 (.tmp 2) (.tmp 7) (by rfl) g2 [.int .u8 C.P.typ, .int .u32 C.P.router, .int .u32 C.P.area, .int .u32 C.P.mask, .int .u16 C.P.iv, .int .u8 C.P.opts, .int .u8 C.P.prio, .int .u32 C.P.dead, .int .u32 C.P.dr, .int .u32 C.P.bdr, .slice na C.nb.length nc, .int .u16 C.P.mtu, .int .u8 C.P.dopts, .int .u8 C.P.dflags, .int .u32 C.P.dseq, .slice da C.dh.length dc, .slice ka C.ks.length kc, .slice sa C.ss.length sc, .slice ha C.hs.length hc] (by rfl) (by rfl) 33 _ Ad_ (by kernel_rfl) rfl (by simp [Value.oneCell']) ?_
 rw [setRow_self _ _ _ _ _ Ad_]
 simp only [Act.put]
 refine hK.out _ _ ⟨Ad_, Bd_⟩ (fun hHeld => ?_)
 clear hK K
 refine wpAnyH_ready (rs := [4]) (by kernel_rfl) (by simp) ?_
 refine AllReadyH.cons (o := ⟨none, _, _, _, _, _⟩) rfl (fun K hK => ?_) AllReadyH.nil
 refine step_row (by rfl) 44 (.tmp 3) (.tmp 8) (by rfl) g3 [.int .u16 A.kind, .int .u8 A.d0, .int .u8 A.d1, .int .u8 A.d2, .int .u8 A.d3, .int .u8 A.d4, .int .u8 A.d5, .int .u8 A.d6, .int .u8 A.d7] (by rfl) (by rfl) 44 _ Bd_ (by kernel_rfl) rfl (by simp [Value.oneCell']) ?_
 rw [setRow_self _ _ _ _ _ Bd_]
 simp only [Act.put]
 refine hK.out _ _ ⟨Ad_, Bd_⟩ (fun hHeld => ?_)
 clear hK K
 refine wpAnyH_take (i := 5) (oi := ⟨some 4, _, _, _, _, _⟩) (v := .int .i64 E) rfl (by kernel_rfl) (by kernel_rfl) (by kernel_rfl) (fun _ _ _ h => h) (Or.inl ⟨by rfl, fun w hw => by go_simp⟩) (by assumption) ?_
 simp only [Act.put, List.setIfInBounds_toArray, List.set_cons_zero, List.set_cons_succ]
 refine wpAnyH_done (by kernel_rfl) ?_ _
 go_wp2_with fail
 refine bodyPost_ret (v := .tuple #[.agg #[.int .u8 C.P.typ, .int .u32 C.P.router, .int .u32 C.P.area, .int .u32 C.P.mask, .int .u16 C.P.iv, .int .u8 C.P.opts, .int .u8 C.P.prio, .int .u32 C.P.dead, .int .u32 C.P.dr, .int .u32 C.P.bdr, .slice na C.nb.length nc, .int .u16 C.P.mtu, .int .u8 C.P.dopts, .int .u8 C.P.dflags, .int .u32 C.P.dseq, .slice da C.dh.length dc, .slice ka C.ks.length kc, .slice sa C.ss.length sc, .slice ha C.hs.length hc], .agg #[.int .u16 A.kind, .int .u8 A.d0, .int .u8 A.d1, .int .u8 A.d2, .int .u8 A.d3, .int .u8 A.d4, .int .u8 A.d5, .int .u8 A.d6, .int .u8 A.d7], .int .i64 E]) ?hr rfl ?_
 case hr => exact results_three (p := 2) (q := 3) (s := 4) rfl _ _ g2 g3 33 44 [.int .u8 C.P.typ, .int .u32 C.P.router, .int .u32 C.P.area, .int .u32 C.P.mask, .int .u16 C.P.iv, .int .u8 C.P.opts, .int .u8 C.P.prio, .int .u32 C.P.dead, .int .u32 C.P.dr, .int .u32 C.P.bdr, .slice na C.nb.length nc, .int .u16 C.P.mtu, .int .u8 C.P.dopts, .int .u8 C.P.dflags, .int .u32 C.P.dseq, .slice da C.dh.length dc, .slice ka C.ks.length kc, .slice sa C.ss.length sc, .slice ha C.hs.length hc] [.int .u16 A.kind, .int .u8 A.d0, .int .u8 A.d1, .int .u8 A.d2, .int .u8 A.d3, .int .u8 A.d4, .int .u8 A.d5, .int .u8 A.d6, .int .u8 A.d7] _ _ _ (by rfl) (by rfl) (by rfl) Ad_ Bd_ Tryz.underlying33 rfl (by kernel_rfl) Tryz.underlying44 rfl (by kernel_rfl)
 exact ⟨_, _, _, _, _, rfl, (PO.out.touch ((Touch.refl (fun _ => False) _).drew) (fun _ _ f => f)).lower (by have h1 := ZA.out; have h2 := HZ.out; omega), T1.out.drew⟩
theorem pdec_any (v : Value) (rs : List Int) (w : World) (hv : ArgAt w v rs) (hby : ∀ z ∈ rs, 0 ≤ z ∧ z < 256) (hl : rs.length ≤ 1000000) :
  Calls Tryz.prog 17 #[v] w fun e w' => ∃ vn vd vk vs vh, e = .returned (.tuple #[(pdecC rs).P.v vn vd vk vs vh, (pdecA rs).v, .int .i64 (pdecE rs)]) ∧ POwn w.heap.size w' (pdecC rs) vn vd vk vs vh ∧ Touch (fun _ => False) w w' :=
 (pdecA_any v rs w hv hby hl).mono fun e w' ⟨vn, vd, vk, vs, vh, h1, h2, h3⟩ => ⟨vn, vd, vk, vs, vh, h1, h2.own, h3⟩
end Go.Proofs.YtbfplepmgbkajaaGreatDoor

namespace Go.Proofs.YtbfplepmgbkajaaGreatDoor
open Go.RowKit
set_option linter.unusedVariables false
set_option maxRecDepth 100000

/-- Two states that are the same. -/
theorem estate_true (h : HV) (va vb : Value) (rs : List Int) (w : World) (ha : RowAt w va rs) (hb : ArgAt w vb rs) : Calls Tryz.prog 106 #[h.sv va, h.sv vb] w fun e w' => e = .returned (.bool true) ∧ Touch (fun _ => False) w w' := by
 obtain ⟨aa, ca, rfl, _⟩ := rowAt_form ha
 obtain ⟨ab, cb, rfl, _⟩ := hb.form
 have HE := fun w ha hb => eq_true (.slice aa rs.length ca) (.slice ab rs.length cb) rs w ha hb
 have HA : Hid (RowAt w (.slice aa rs.length ca) rs) := ha
 have HB : Hid (ArgAt w (.slice ab rs.length cb) rs) := hb
 clear ha hb
 show Calls Tryz.prog 106 #[.agg #[.int .u16 h.age, .int .u8 h.opts, .int .u8 h.typ, .int .u32 h.id, .int .u32 h.adv, .int .i32 h.seq, .int .u16 h.sum, .int .u16 h.len, .slice aa rs.length ca], .agg #[.int .u16 h.age, .int .u8 h.opts, .int .u8 h.typ, .int .u32 h.id, .int .u32 h.adv, .int .i32 h.seq, .int .u16 h.sum, .int .u16 h.len, .slice ab rs.length cb]] w _
 go_enter Tryz.func106, Tryz.ntmps106
 go_wp2_with fail
 refine Calls.mono (HE _ (HA.out.touch (((Touch.refl (fun _ => False) w).alloc _).alloc _) (fun _ _ h => h)) (HB.out.keepN (((Touch.refl _ w).alloc _).alloc _))) ?_
 rintro e w1 ⟨rfl, nd, rfl⟩
 go_wp2
 go_ret
 exact ⟨rfl, (((Touch.refl _ w).alloc _).alloc _).drewN nd⟩
end Go.Proofs.YtbfplepmgbkajaaGreatDoor

namespace Go.Proofs.YtbfplepmgbkajaaGreatDoor
open Go.RowKit
set_option linter.unusedVariables false
set_option maxRecDepth 100000

section
variable {ops : Array Oper} {rest : List Oper} {o : Oper} {a : Act} {Q : Exit → Act → World → Prop} {w : World}
end
theorem cells_ofI {l : List Int} (h : ∀ x ∈ l, 0 ≤ x ∧ x < 256) : bytesOf l = (l.map fun x => UInt8.ofNat x.toNat).map Extern.Stop.cell := by
 unfold bytesOf
 rw [List.map_map]
 apply List.map_congr_left
 intro x hx
 have := h x hx
 simp [Extern.Stop.cell]
 omega
/-- Eight bytes and the same: equal. -/
theorem eq8 (l : List Int) (h : ∀ x ∈ l, 0 ≤ x ∧ x < 256) (hl : l.length = 8) (d : Nat) (w : World) :
  (Op.equalIn (d + 2) 34 (.agg (bytesOf l).toArray) (.agg (bytesOf l).toArray)).run Tryz.prog w = .ok true w := by
 obtain ⟨i0, hi, hz0, hz1, hz2⟩ := info_parts Tryz.info5w
 rw [cells_ofI h]
 have := run_equalIn_bytes (P := Tryz.prog) w d 34 5 8 Tryz.underlying34 Tryz.underlying5 (by intro w; simp [sizeOf, typeInfo, hi, hz1]) (l.map fun x => UInt8.ofNat x.toNat) (l.map fun x => UInt8.ofNat x.toNat) (by simp [hl]) (by simp [hl])
 simpa using this
set_option maxHeartbeats 1000000 in
theorem ewordsP (va vb : Value) (l : List Int) (w : World) (ha : WordsAt w va l) (hb : WordsAt w vb l) :
  Calls Tryz.prog 105 #[va, vb] w fun e w' => e = .returned (.bool true) ∧ ∃ n, w' = w.drewN n := by
 obtain ⟨aa, ca, rfl, hm⟩ := ValsAt.form ha
 obtain ⟨ab, cb, rfl, _⟩ := ValsAt.form hb
 unfold maxLen at hm
 have HA : Hid (WordsAt w (.slice aa l.length ca) l) := ha
 have HB : Hid (WordsAt w (.slice ab l.length cb) l) := hb
 clear ha hb
 go_enter Tryz.func105, Tryz.ntmps105
 go_wp2
 go_loopw [5] (fun i wr => ∃ k nd : Nat, k ≤ l.length ∧ i = .int .i64 k ∧ wr = w.drewN nd) (fun i _ => l.length - (intOf i).toNat)
 case atStart => exact ⟨0, 0, Nat.zero_le _, rfl, rfl⟩
 case round =>
  obtain ⟨j, nd, hk, rfl, rfl⟩ := hrel
  by_cases hlt : j < l.length
  ·obtain ⟨x, hx⟩ : ∃ x, l[j]? = some x := ⟨l[j], by simp [hlt]⟩
   obtain ⟨ga, oa, _, ea, -, -, za⟩ := ValsAt.cells HA.out (by omega) (by omega)
   obtain ⟨gb, ob, _, eb, -, -, zb⟩ := ValsAt.cells HB.out (by omega) (by omega)
   cases ea
   cases eb
   have pa : ∀ (i : Nat) u, i < 1 → [Value.int .u32 x][i]? = some u → w.cell? ⟨ga, oa + j, none⟩ = some u := fun i u hi hu => za j u (by have hi0 : i = 0 := (by omega); subst hi0; simpa [wordsC, hx] using hu)
   have pb : ∀ (i : Nat) u, i < 1 → [Value.int .u32 x][i]? = some u → w.cell? ⟨gb, ob + j, none⟩ = some u := fun i u hi hu => zb j u (by have hi0 : i = 0 := (by omega); subst hi0; simpa [wordsC, hx] using hu)
   have ha0 : w.cell? ⟨ga, oa + j, none⟩ = some (.int .u32 x) := pa 0 _ (by omega) rfl
   have hb0 : w.cell? ⟨gb, ob + j, none⟩ = some (.int .u32 x) := pb 0 _ (by omega) rfl
   clear za zb pa pb hx HA HB
   go_wp2
   go_quiet (fail)
   go_wp2
   go_roundw
   case rel => exact ⟨j + 1, _, by omega, by go_num, rfl⟩
   case measure => simp [intOf]; omega
  ·go_wp2
   go_ret
   exact ⟨rfl, nd, rfl⟩
set_option maxHeartbeats 1000000 in
theorem eheadsP (va vb : Value) (l : List HV) (w : World) (ha : HeadsAt w va l) (hb : HeadsAt w vb l) :
  Calls Tryz.prog 46 #[va, vb] w fun e w' => e = .returned (.bool true) ∧ ∃ n, w' = w.drewN n := by
 obtain ⟨aa, ca, rfl, hm⟩ := ValsAt.form ha
 obtain ⟨ab, cb, rfl, _⟩ := ValsAt.form hb
 unfold maxLen at hm
 have HA : Hid (HeadsAt w (.slice aa l.length ca) l) := ha
 have HB : Hid (HeadsAt w (.slice ab l.length cb) l) := hb
 clear ha hb
 go_enter Tryz.func46, Tryz.ntmps46
 go_wp2
 go_loopw [5] (fun i wr => ∃ k nd : Nat, k ≤ l.length ∧ i = .int .i64 k ∧ wr = w.drewN nd) (fun i _ => l.length - (intOf i).toNat)
 case atStart => exact ⟨0, 0, Nat.zero_le _, rfl, rfl⟩
 case round =>
  obtain ⟨j, nd, hk, rfl, rfl⟩ := hrel
  by_cases hlt : j < l.length
  ·obtain ⟨x, hx⟩ : ∃ x, l[j]? = some x := ⟨l[j], by simp [hlt]⟩
   obtain ⟨ga, oa, _, ea, -, -, za⟩ := ValsAt.cells HA.out (by omega) (by omega)
   obtain ⟨gb, ob, _, eb, -, -, zb⟩ := ValsAt.cells HB.out (by omega) (by omega)
   cases ea
   cases eb
   have pa : ∀ i u, i < 8 → x.cells[i]? = some u → w.cell? ⟨ga, oa + (j * 8 + i), none⟩ = some u := fun i u hi hu => za (j * 8 + i) u (by rw [headsC_at l j i x hx hi]; exact hu)
   have pb : ∀ i u, i < 8 → x.cells[i]? = some u → w.cell? ⟨gb, ob + (j * 8 + i), none⟩ = some u := fun i u hi hu => zb (j * 8 + i) u (by rw [headsC_at l j i x hx hi]; exact hu)
   have ha0 : w.cell? ⟨ga, oa + j * 8, none⟩ = some (.int .u16 x.age) := pa 0 _ (by omega) rfl
   have ha1 : w.cell? ⟨ga, oa + j * 8 + 1, none⟩ = some (.int .u8 x.opts) := by rw [Nat.add_assoc]; exact pa 1 _ (by omega) rfl
   have ha2 : w.cell? ⟨ga, oa + j * 8 + 2, none⟩ = some (.int .u8 x.typ) := by rw [Nat.add_assoc]; exact pa 2 _ (by omega) rfl
   have ha3 : w.cell? ⟨ga, oa + j * 8 + 3, none⟩ = some (.int .u32 x.id) := by rw [Nat.add_assoc]; exact pa 3 _ (by omega) rfl
   have ha4 : w.cell? ⟨ga, oa + j * 8 + 4, none⟩ = some (.int .u32 x.adv) := by rw [Nat.add_assoc]; exact pa 4 _ (by omega) rfl
   have ha5 : w.cell? ⟨ga, oa + j * 8 + 5, none⟩ = some (.int .i32 x.seq) := by rw [Nat.add_assoc]; exact pa 5 _ (by omega) rfl
   have ha6 : w.cell? ⟨ga, oa + j * 8 + 6, none⟩ = some (.int .u16 x.sum) := by rw [Nat.add_assoc]; exact pa 6 _ (by omega) rfl
   have ha7 : w.cell? ⟨ga, oa + j * 8 + 7, none⟩ = some (.int .u16 x.len) := by rw [Nat.add_assoc]; exact pa 7 _ (by omega) rfl
   have hb0 : w.cell? ⟨gb, ob + j * 8, none⟩ = some (.int .u16 x.age) := pb 0 _ (by omega) rfl
   have hb1 : w.cell? ⟨gb, ob + j * 8 + 1, none⟩ = some (.int .u8 x.opts) := by rw [Nat.add_assoc]; exact pb 1 _ (by omega) rfl
   have hb2 : w.cell? ⟨gb, ob + j * 8 + 2, none⟩ = some (.int .u8 x.typ) := by rw [Nat.add_assoc]; exact pb 2 _ (by omega) rfl
   have hb3 : w.cell? ⟨gb, ob + j * 8 + 3, none⟩ = some (.int .u32 x.id) := by rw [Nat.add_assoc]; exact pb 3 _ (by omega) rfl
   have hb4 : w.cell? ⟨gb, ob + j * 8 + 4, none⟩ = some (.int .u32 x.adv) := by rw [Nat.add_assoc]; exact pb 4 _ (by omega) rfl
   have hb5 : w.cell? ⟨gb, ob + j * 8 + 5, none⟩ = some (.int .i32 x.seq) := by rw [Nat.add_assoc]; exact pb 5 _ (by omega) rfl
   have hb6 : w.cell? ⟨gb, ob + j * 8 + 6, none⟩ = some (.int .u16 x.sum) := by rw [Nat.add_assoc]; exact pb 6 _ (by omega) rfl
   have hb7 : w.cell? ⟨gb, ob + j * 8 + 7, none⟩ = some (.int .u16 x.len) := by rw [Nat.add_assoc]; exact pb 7 _ (by omega) rfl
   clear za zb pa pb hx HA HB
   go_wp2
   go_quiet (fail)
   go_wp2
   go_roundw
   case rel => exact ⟨j + 1, _, by omega, by go_num, rfl⟩
   case measure => simp [intOf]; omega
  ·go_wp2
   go_ret
   exact ⟨rfl, nd, rfl⟩
set_option maxHeartbeats 1000000 in
theorem ekeysP (va vb : Value) (l : List KV) (w : World) (ha : KeysAt w va l) (hb : KeysAt w vb l) :
  Calls Tryz.prog 44 #[va, vb] w fun e w' => e = .returned (.bool true) ∧ ∃ n, w' = w.drewN n := by
 obtain ⟨aa, ca, rfl, hm⟩ := ValsAt.form ha
 obtain ⟨ab, cb, rfl, _⟩ := ValsAt.form hb
 unfold maxLen at hm
 have HA : Hid (KeysAt w (.slice aa l.length ca) l) := ha
 have HB : Hid (KeysAt w (.slice ab l.length cb) l) := hb
 clear ha hb
 go_enter Tryz.func44, Tryz.ntmps44
 go_wp2
 go_loopw [5] (fun i wr => ∃ k nd : Nat, k ≤ l.length ∧ i = .int .i64 k ∧ wr = w.drewN nd) (fun i _ => l.length - (intOf i).toNat)
 case atStart => exact ⟨0, 0, Nat.zero_le _, rfl, rfl⟩
 case round =>
  obtain ⟨j, nd, hk, rfl, rfl⟩ := hrel
  by_cases hlt : j < l.length
  ·obtain ⟨x, hx⟩ : ∃ x, l[j]? = some x := ⟨l[j], by simp [hlt]⟩
   obtain ⟨ga, oa, _, ea, -, -, za⟩ := ValsAt.cells HA.out (by omega) (by omega)
   obtain ⟨gb, ob, _, eb, -, -, zb⟩ := ValsAt.cells HB.out (by omega) (by omega)
   cases ea
   cases eb
   have pa : ∀ i u, i < 3 → x.cells[i]? = some u → w.cell? ⟨ga, oa + (j * 3 + i), none⟩ = some u := fun i u hi hu => za (j * 3 + i) u (by rw [keysC_at l j i x hx hi]; exact hu)
   have pb : ∀ i u, i < 3 → x.cells[i]? = some u → w.cell? ⟨gb, ob + (j * 3 + i), none⟩ = some u := fun i u hi hu => zb (j * 3 + i) u (by rw [keysC_at l j i x hx hi]; exact hu)
   have ha0 : w.cell? ⟨ga, oa + j * 3, none⟩ = some (.int .u8 x.typ) := pa 0 _ (by omega) rfl
   have ha1 : w.cell? ⟨ga, oa + j * 3 + 1, none⟩ = some (.int .u32 x.id) := by rw [Nat.add_assoc]; exact pa 1 _ (by omega) rfl
   have ha2 : w.cell? ⟨ga, oa + j * 3 + 2, none⟩ = some (.int .u32 x.adv) := by rw [Nat.add_assoc]; exact pa 2 _ (by omega) rfl
   have hb0 : w.cell? ⟨gb, ob + j * 3, none⟩ = some (.int .u8 x.typ) := pb 0 _ (by omega) rfl
   have hb1 : w.cell? ⟨gb, ob + j * 3 + 1, none⟩ = some (.int .u32 x.id) := by rw [Nat.add_assoc]; exact pb 1 _ (by omega) rfl
   have hb2 : w.cell? ⟨gb, ob + j * 3 + 2, none⟩ = some (.int .u32 x.adv) := by rw [Nat.add_assoc]; exact pb 2 _ (by omega) rfl
   clear za zb pa pb hx HA HB
   go_wp2
   go_quiet (fail)
   go_wp2
   go_roundw
   case rel => exact ⟨j + 1, _, by omega, by go_num, rfl⟩
   case measure => simp [intOf]; omega
  ·go_wp2
   go_ret
   exact ⟨rfl, nd, rfl⟩
end Go.Proofs.YtbfplepmgbkajaaGreatDoor

namespace Go.Proofs.YtbfplepmgbkajaaGreatDoor
open Go.RowKit
set_option linter.unusedVariables false
set_option maxRecDepth 100000

/-- Lengths that a copy bears. -/
structure PkC.Ln (C : PkC) : Prop where
 n : C.nb.length ≤ 1000000
 d : C.dh.length ≤ 1000000
 k : C.ks.length ≤ 1000000
 h : C.hs.length ≤ 1000000
end Go.Proofs.YtbfplepmgbkajaaGreatDoor
