/- Package packet: Encode. -/
import Derived.Test.YtjjgbcjgmjggnaaGreatPkWrite
import Derived.Test.YtjjgbcjgmjggnaaGreatPkRead
namespace Go.Proofs.YtjjgbcjgmjggnaaGreat
open Go.RowKit
set_option linter.unusedVariables false
set_option maxRecDepth 100000

set_option maxHeartbeats 2000000 in
theorem penc1_any (g1 g2 g3 : Nat) (C : PkC) (ok : C.Ok) (lt : C.Lt) (A : AuV) (oa : A.Ok) (vn vd vk vs vh u : Value) (w : World) (hp : PkAt w C vn vd vk vs vh) (pa : Pd w g1 C.P vn vd vk vs vh) (aa : Ad w g2 A)
    (c3 : w.cell? ⟨g3, 0, none⟩ = some (.slice none 0 0)) (f3 : w.frozen? ⟨g3, 0, none⟩ = false) :
    Calls Tryz.prog 29 #[.pointer (some ⟨g1, 0, none⟩), .pointer (some ⟨g2, 0, none⟩), .pointer (some ⟨g3, 0, none⟩)] w fun e w' =>
      (pencE C A = 0 ∧ e = .returned (.tuple #[]) ∧ Touch (fun k => k = g3) w w' ∧ ∃ v, w'.cell? ⟨g3, 0, none⟩ = some v ∧ w'.frozen? ⟨g3, 0, none⟩ = false ∧ w'.ownsRow w.heap.size 5 1 v (pencB C A).length (bytesOf (pencB C A))) ∨
      (pencE C A ≠ 0 ∧ e = .panicked (pflawC (pencE C A)) ∧ Touch (fun k => k = g3) w w' ∧ w'.cell? ⟨g3, 0, none⟩ = some (.slice none 0 0) ∧ w'.frozen? ⟨g3, 0, none⟩ = false) := by
  have HW := pwrite_any C ok lt A oa vn vd vk vs vh w hp
  have hg3 := lt_of_cell c3
  obtain ⟨na, nc, da, dc, ka, kc, sa, sc, ha, hc, rfl, rfl, rfl, rfl, rfl⟩ := hp.forms
  have P5 := pa.range
  have A5 := aa.range
  have C3 : Hid (w.cell? ⟨g3, 0, none⟩ = some (.slice none 0 0)) := c3
  have F3 : Hid (w.frozen? ⟨g3, 0, none⟩ = false) := f3
  clear ok lt oa hp pa aa c3 f3
  go_enter Tryz.func29, Tryz.ntmps29
  go_wp2_with (first | refine wpList_load_mid rfl 33 (.tmp 0) rfl g1 0 rfl [.int .u8 C.P.typ, .int .u32 C.P.router, .int .u32 C.P.area, .int .u32 C.P.mask, .int .u16 C.P.iv, .int .u8 C.P.opts, .int .u8 C.P.prio, .int .u32 C.P.dead, .int .u32 C.P.dr, .int .u32 C.P.bdr, .slice na C.nb.length nc, .int .u16 C.P.mtu, .int .u8 C.P.dopts, .int .u8 C.P.dflags, .int .u32 C.P.dseq, .slice da C.dh.length dc, .slice ka C.ks.length kc, .slice sa C.ss.length sc, .slice ha C.hs.length hc] _ P5 Tryz.underlying33 rfl (by kernel_rfl) ?_ | refine wpList_load_mid rfl 49 (.tmp 1) rfl g2 0 rfl [.int .u16 A.kind, .int .u8 A.d0, .int .u8 A.d1, .int .u8 A.d2, .int .u8 A.d3, .int .u8 A.d4, .int .u8 A.d5, .int .u8 A.d6, .int .u8 A.d7] _ A5 Tryz.underlying49 rfl (by kernel_rfl) ?_)
  refine Calls.mono HW ?_
  intro e w1 h1
  rcases h1.out with ⟨hE, v, rfl, b1⟩ | ⟨hE, rfl, t1⟩
  · obtain ⟨va, vc, rfl⟩ := b1.form
    have d3 : w1.cell? ⟨g3, 0, none⟩ = some (.slice none 0 0) := b1.t.cellN C3.out
    have e3 : w1.frozen? ⟨g3, 0, none⟩ = false := (b1.t.frozen (p := ⟨g3, 0, none⟩) hg3 (fun h => h)).trans F3.out
    have B1 : Hid (Buf w w1 (.slice va (pencB C A).length vc) (pencB C A)) := b1
    have HE : Hid (pencE C A = 0) := hE
    have hz : (w1.setCell ⟨g3, 0, none⟩ (.slice va (pencB C A).length vc)).cell? ⟨g3, 0, none⟩ = some (.slice va (pencB C A).length vc) := by simp [d3, go_sem]
    have hfz : (w1.setCell ⟨g3, 0, none⟩ (.slice va (pencB C A).length vc)).frozen? ⟨g3, 0, none⟩ = false := by simp [e3, go_sem]
    have U : Hid (Touch (fun k => k = g3) w1 (w1.setCell ⟨g3, 0, none⟩ (.slice va (pencB C A).length vc))) := Touch.setCell (F := fun k => k = g3) (p := ⟨g3, 0, none⟩) (Touch.refl _ _) (Or.inl rfl) _
    have HZ : Hid ((w1.setCell ⟨g3, 0, none⟩ (.slice va (pencB C A).length vc)).cell? ⟨g3, 0, none⟩ = some (.slice va (pencB C A).length vc) ∧ (w1.setCell ⟨g3, 0, none⟩ (.slice va (pencB C A).length vc)).frozen? ⟨g3, 0, none⟩ = false) := ⟨hz, hfz⟩
    clear HW h1 P5 A5 b1 hE hz hfz
    go_wp2_with fail
    go_end0
    exact Or.inl ⟨HE.out, rfl, (B1.out.t.mono (fun _ _ h => h.elim)).trans U.out, _, HZ.out.1, HZ.out.2, own_touch B1.out.own U.out (fun k hk e => by have := (B1.out.own.lt k hk).1; omega)⟩
  · exact ⟨rfl, Or.inr ⟨hE, rfl, t1.mono (fun _ _ h => h.elim), t1.cellN C3.out, (t1.frozen (p := ⟨g3, 0, none⟩) hg3 (fun h => h)).trans F3.out⟩⟩
/-- A packet that was handed over: its box, its rows. -/
theorem Calls.left {P : Program} {f : FuncId} {args : Array Value} {w : World} {R1 R2 : Prop} {Q1 Q2 : Ending → World → Prop} (h : Calls P f args w fun e w' => (R1 ∧ Q1 e w') ∨ (R2 ∧ Q2 e w')) (h2 : ¬ R2) : Calls P f args w Q1 :=
  h.mono (fun e w' g => by rcases g with g | g; exact g.2; exact (h2 g.1).elim)
theorem Calls.right {P : Program} {f : FuncId} {args : Array Value} {w : World} {R1 R2 : Prop} {Q1 Q2 : Ending → World → Prop} (h : Calls P f args w fun e w' => (R1 ∧ Q1 e w') ∨ (R2 ∧ Q2 e w')) (h1 : ¬ R1) : Calls P f args w Q2 :=
  h.mono (fun e w' g => by rcases g with g | g; exact (h1 g.1).elim; exact g.2)

set_option maxHeartbeats 2000000 in
theorem penc_any (C : PkC) (ok : C.Ok) (lt : C.Lt) (A : AuV) (oa : A.Ok) (vn vd vk vs vh : Value) (w : World) (hp : PkAt w C vn vd vk vs vh) :
    Calls Tryz.prog 11 #[C.P.v vn vd vk vs vh, A.v] w fun e w' => ∃ v, e = .returned (.tuple #[v, .int .i64 (pencE C A)]) ∧ Buf w w' v (pencB C A) := by
  obtain ⟨na, nc, da, dc, ka, kc, sa, sc, ha, hc, rfl, rfl, rfl, rfl, rfl⟩ := hp.forms
  have hmf : ∀ (fn : Fn) (first cap : Array Value) (w : World), (Instr.makeFunc fn first cap).run Tryz.prog w = .ok (.func fn first cap) w := fun _ _ _ _ => rfl
  obtain ⟨wa, hwa⟩ : ∃ wa, wa = ((w.alloc (.cells #[.int .u8 C.P.typ, .int .u32 C.P.router, .int .u32 C.P.area, .int .u32 C.P.mask, .int .u16 C.P.iv, .int .u8 C.P.opts, .int .u8 C.P.prio, .int .u32 C.P.dead, .int .u32 C.P.dr, .int .u32 C.P.bdr, .slice na C.nb.length nc, .int .u16 C.P.mtu, .int .u8 C.P.dopts, .int .u8 C.P.dflags, .int .u32 C.P.dseq, .slice da C.dh.length dc, .slice ka C.ks.length kc, .slice sa C.ss.length sc, .slice ha C.hs.length hc] 33)).alloc (.cells #[.int .u16 A.kind, .int .u8 A.d0, .int .u8 A.d1, .int .u8 A.d2, .int .u8 A.d3, .int .u8 A.d4, .int .u8 A.d5, .int .u8 A.d6, .int .u8 A.d7] 49)).alloc (.cells #[.slice none 0 0] 43) := ⟨_, rfl⟩
  have ta : Touch (fun _ => False) w wa := by rw [hwa]; exact (((Touch.refl _ w).alloc _).alloc _).alloc _
  have za : wa.heap.size = w.heap.size + 3 := by rw [hwa]; simp
  have pa : Pd wa w.heap.size C.P (.slice na C.nb.length nc) (.slice da C.dh.length dc) (.slice ka C.ks.length kc) (.slice sa C.ss.length sc) (.slice ha C.hs.length hc) := by rw [hwa]; exact ((Pd.new w C.P (.slice na C.nb.length nc) (.slice da C.dh.length dc) (.slice ka C.ks.length kc) (.slice sa C.ss.length sc) (.slice ha C.hs.length hc) _).keep ((Touch.refl _ _).alloc _)).keep ((Touch.refl _ _).alloc _)
  have aa : Ad wa (w.heap.size + 1) A := by
    have := (Ad.new (w.alloc (.cells #[.int .u8 C.P.typ, .int .u32 C.P.router, .int .u32 C.P.area, .int .u32 C.P.mask, .int .u16 C.P.iv, .int .u8 C.P.opts, .int .u8 C.P.prio, .int .u32 C.P.dead, .int .u32 C.P.dr, .int .u32 C.P.bdr, .slice na C.nb.length nc, .int .u16 C.P.mtu, .int .u8 C.P.dopts, .int .u8 C.P.dflags, .int .u32 C.P.dseq, .slice da C.dh.length dc, .slice ka C.ks.length kc, .slice sa C.ss.length sc, .slice ha C.hs.length hc] 33)) A 49).keep ((Touch.refl _ _).alloc (.cells #[.slice none 0 0] 43))
    rw [← hwa] at this
    simpa using this
  have ca : wa.cell? ⟨w.heap.size + 1 + 1, 0, none⟩ = some (.slice none 0 0) := by rw [hwa]; simp [go_sem]
  have fa : wa.frozen? ⟨w.heap.size + 1 + 1, 0, none⟩ = false := by rw [hwa]; simp [go_sem]
  have tf : Touch (fun _ => False) wa (wa.alloc (.cells #[.int .i64 0] 39)) := (Touch.refl _ wa).alloc _
  have zf : (wa.alloc (.cells #[.int .i64 0] 39)).heap.size = wa.heap.size + 1 := by simp
  have HC := penc1_any w.heap.size (w.heap.size + 1) (w.heap.size + 1 + 1) C ok lt A oa (.slice na C.nb.length nc) (.slice da C.dh.length dc) (.slice ka C.ks.length kc) (.slice sa C.ss.length sc) (.slice ha C.hs.length hc) (.slice none 0 0) (wa.alloc (.cells #[.int .i64 0] 39)) (hp.keep (ta.trans tf)) (pa.keep tf) (aa.keep tf) (tf.cellN ca) ((tf.frozen (p := ⟨w.heap.size + 1 + 1, 0, none⟩) (by simp only; omega) (fun h => h)).trans fa)
  have TA : Hid (Touch (fun _ => False) w wa) := ta
  have ZA : Hid (wa.heap.size = w.heap.size + 3) := za
  by_cases hE : pencE C A = 0
  · have HF := pface_ok 29 #[.pointer (some ⟨w.heap.size, 0, none⟩), .pointer (some ⟨w.heap.size + 1, 0, none⟩), .pointer (some ⟨w.heap.size + 1 + 1, 0, none⟩)] (fun _ => rfl) wa (fun k => k = w.heap.size + 1 + 1) (by omega) (fun w' => ∃ v, w'.cell? ⟨w.heap.size + 1 + 1, 0, none⟩ = some v ∧ w'.frozen? ⟨w.heap.size + 1 + 1, 0, none⟩ = false ∧ w'.ownsRow (wa.alloc (.cells #[.int .i64 0] 39)).heap.size 5 1 v (pencB C A).length (bytesOf (pencB C A))) (Calls.left HC (fun h => h hE))
      (fun w1 w2 h1 t => by
        obtain ⟨v, h1, h2, h3⟩ := h1
        exact ⟨v, (t.cell (lt_of_cellA h1) (by simp only; omega)).trans h1, (t.frozen (lt_of_cellA h1) (by simp only; omega)).trans h2, own_touch h3 t (fun k hk e => by have := (h3.lt k hk).1; omega)⟩)
    have ZF : Hid ((wa.alloc (.cells #[.int .i64 0] 39)).heap.size = wa.heap.size + 1) := zf
    rw [hE]
    clear HC ok lt oa hp pa aa ca fa tf zf ta za hE
    generalize pencB C A = EB at *
    show Calls Tryz.prog 11 #[.agg #[.int .u8 C.P.typ, .int .u32 C.P.router, .int .u32 C.P.area, .int .u32 C.P.mask, .int .u16 C.P.iv, .int .u8 C.P.opts, .int .u8 C.P.prio, .int .u32 C.P.dead, .int .u32 C.P.dr, .int .u32 C.P.bdr, .slice na C.nb.length nc, .int .u16 C.P.mtu, .int .u8 C.P.dopts, .int .u8 C.P.dflags, .int .u32 C.P.dseq, .slice da C.dh.length dc, .slice ka C.ks.length kc, .slice sa C.ss.length sc, .slice ha C.hs.length hc], .agg #[.int .u16 A.kind, .int .u8 A.d0, .int .u8 A.d1, .int .u8 A.d2, .int .u8 A.d3, .int .u8 A.d4, .int .u8 A.d5, .int .u8 A.d6, .int .u8 A.d7]] w _
    go_enter Tryz.func11, Tryz.ntmps11
    go_wp2_with fail
    rw [← hwa]
    refine Calls.mono HF ?_
    rintro e w1 ⟨rfl, t1, v, k1, f1, o1⟩
    have O1 : Hid (w1.ownsRow (wa.alloc (.cells #[.int .i64 0] 39)).heap.size 5 1 v EB.length (bytesOf EB)) := o1
    obtain ⟨va, vc, rfl, -⟩ := rowAt_form (own_rowAt o1)
    have T1 : Hid (Touch (fun _ => False) w w1) := TA.out.trans' t1 (fun i hi e => by omega)
    clear t1 HF hwa hmf o1
    have de : (w1.setCell ⟨w.heap.size + 1 + 1, 0, none⟩ (.slice va EB.length vc)).cell? ⟨w.heap.size + 1 + 1, 0, none⟩ = some (.slice va EB.length vc) := by simp [k1, go_sem]
    have U : Hid (Touch (fun k => k = w.heap.size + 1 + 1) w1 (w1.setCell ⟨w.heap.size + 1 + 1, 0, none⟩ (.slice va EB.length vc))) := Touch.setCell (F := fun k => k = w.heap.size + 1 + 1) (p := ⟨w.heap.size + 1 + 1, 0, none⟩) (Touch.refl _ _) (Or.inl rfl) _
    go_wp2_with fail
    refine bodyPost_ret (v := .tuple #[.slice va EB.length vc, .int .i64 0]) (by simp [results, Tryz.results11, go_sem, de]) rfl ?_
    refine ⟨_, rfl, own_lower (own_touch O1.out U.out (fun k hk e => by have := (O1.out.lt k hk).1; have := ZF.out; have := ZA.out; omega)) (by have := ZF.out; have := ZA.out; omega), T1.out.trans' U.out (fun i hi e => by omega)⟩
  · have HF := pface_no 29 #[.pointer (some ⟨w.heap.size, 0, none⟩), .pointer (some ⟨w.heap.size + 1, 0, none⟩), .pointer (some ⟨w.heap.size + 1 + 1, 0, none⟩)] (fun _ => rfl) wa (fun k => k = w.heap.size + 1 + 1) (by omega) (pencE C A) (fun w' => w'.cell? ⟨w.heap.size + 1 + 1, 0, none⟩ = some (.slice none 0 0) ∧ w'.frozen? ⟨w.heap.size + 1 + 1, 0, none⟩ = false) (Calls.right HC hE)
      (fun w1 w2 h1 t => ⟨(t.cell (lt_of_cellA h1.1) (by simp only; omega)).trans h1.1, (t.frozen (lt_of_cellA h1.1) (by simp only; omega)).trans h1.2⟩)
    rw [show pencB C A = [] by unfold pencB; rw [if_neg hE]]
    clear HC ok lt oa hp pa aa ca fa tf zf ta za hE
    generalize pencE C A = EE at *
    show Calls Tryz.prog 11 #[.agg #[.int .u8 C.P.typ, .int .u32 C.P.router, .int .u32 C.P.area, .int .u32 C.P.mask, .int .u16 C.P.iv, .int .u8 C.P.opts, .int .u8 C.P.prio, .int .u32 C.P.dead, .int .u32 C.P.dr, .int .u32 C.P.bdr, .slice na C.nb.length nc, .int .u16 C.P.mtu, .int .u8 C.P.dopts, .int .u8 C.P.dflags, .int .u32 C.P.dseq, .slice da C.dh.length dc, .slice ka C.ks.length kc, .slice sa C.ss.length sc, .slice ha C.hs.length hc], .agg #[.int .u16 A.kind, .int .u8 A.d0, .int .u8 A.d1, .int .u8 A.d2, .int .u8 A.d3, .int .u8 A.d4, .int .u8 A.d5, .int .u8 A.d6, .int .u8 A.d7]] w _
    go_enter Tryz.func11, Tryz.ntmps11
    go_wp2_with fail
    rw [← hwa]
    refine Calls.mono HF ?_
    rintro e w1 ⟨rfl, t1, k1, f1⟩
    have T1 : Hid (Touch (fun _ => False) w w1) := TA.out.trans' t1 (fun i hi e => by omega)
    clear t1 HF hwa hmf
    have de : (w1.setCell ⟨w.heap.size + 1 + 1, 0, none⟩ (.slice none 0 0)).cell? ⟨w.heap.size + 1 + 1, 0, none⟩ = some (.slice none 0 0) := by simp [k1, go_sem]
    have T2 : Hid (Touch (fun _ => False) w (w1.setCell ⟨w.heap.size + 1 + 1, 0, none⟩ (.slice none 0 0))) := Touch.setCell (p := ⟨w.heap.size + 1 + 1, 0, none⟩) T1.out (Or.inr (by simp only; omega)) _
    go_wp2_with fail
    refine bodyPost_ret (v := .tuple #[.slice none 0 0, .int .i64 EE]) (by simp [results, Tryz.results11, go_sem, de]) rfl ?_
    exact ⟨_, rfl, Buf.nil T2.out⟩
end Go.Proofs.YtjjgbcjgmjggnaaGreat

namespace Go.Proofs.YtjjgbcjgmjggnaaGreat
open Go.RowKit
set_option linter.unusedVariables false
set_option maxRecDepth 100000

attribute [local go_sem ↓] Go.wp_at_zero Go.wp_at_succ
/-- What lies in the two result blocks. -/
structure DecK (g2 g3 base : Nat) (C : PkC) (A : AuV) (w' : World) : Prop where
  out : ∃ na nc da dc ka kc sa sc ha hc, Row w' g2 33 [.int .u8 C.P.typ, .int .u32 C.P.router, .int .u32 C.P.area, .int .u32 C.P.mask, .int .u16 C.P.iv, .int .u8 C.P.opts, .int .u8 C.P.prio, .int .u32 C.P.dead, .int .u32 C.P.dr, .int .u32 C.P.bdr, .slice na C.nb.length nc, .int .u16 C.P.mtu, .int .u8 C.P.dopts, .int .u8 C.P.dflags, .int .u32 C.P.dseq, .slice da C.dh.length dc, .slice ka C.ks.length kc, .slice sa C.ss.length sc, .slice ha C.hs.length hc] ∧ Row w' g3 49 [.int .u16 A.kind, .int .u8 A.d0, .int .u8 A.d1, .int .u8 A.d2, .int .u8 A.d3, .int .u8 A.d4, .int .u8 A.d5, .int .u8 A.d6, .int .u8 A.d7] ∧ POwn base w' C (.slice na C.nb.length nc) (.slice da C.dh.length dc) (.slice ka C.ks.length kc) (.slice sa C.ss.length sc) (.slice ha C.hs.length hc)
theorem POwn.touch {F : Nat → Prop} {base : Nat} {w w' : World} {C : PkC} {vn vd vk vs vh : Value} (h : POwn base w C vn vd vk vs vh) (t : Touch F w w') (hF : ∀ k, base ≤ k → ¬ F k) : POwn base w' C vn vd vk vs vh := by
  obtain ⟨l, h1, h2, h3⟩ := h.s
  exact ⟨own_touch h.n t (fun k hk => hF k (h.n.lt k hk).1), own_touch h.d t (fun k hk => hF k (h.d.lt k hk).1), own_touch h.k t (fun k hk => hF k (h.k.lt k hk).1), ⟨l, h1, own_touch h2 t (fun k hk => hF k (h2.lt k hk).1), fun x hx => own_touch (h3 x hx) t (fun k hk => hF k ((h3 x hx).lt k hk).1)⟩, own_touch h.h t (fun k hk => hF k (h.h.lt k hk).1)⟩
theorem POwn.lower {base base' : Nat} {w : World} {C : PkC} {vn vd vk vs vh : Value} (h : POwn base w C vn vd vk vs vh) (hb : base' ≤ base) : POwn base' w C vn vd vk vs vh := by
  obtain ⟨l, h1, h2, h3⟩ := h.s
  exact ⟨own_lower h.n hb, own_lower h.d hb, own_lower h.k hb, ⟨l, h1, own_lower h2 hb, fun x hx => own_lower (h3 x hx) hb⟩, own_lower h.h hb⟩
theorem DecK.touch {F : Nat → Prop} {g2 g3 base : Nat} {C : PkC} {A : AuV} {w w' : World} (h : DecK g2 g3 base C A w) (t : Touch F w w') (h2 : ¬ F g2) (h3 : ¬ F g3) (hF : ∀ k, base ≤ k → ¬ F k) : DecK g2 g3 base C A w' := by
  obtain ⟨na, nc, da, dc, ka, kc, sa, sc, ha, hc, r2, r3, po⟩ := h.out
  exact ⟨na, nc, da, dc, ka, kc, sa, sc, ha, hc, r2.touch t h2, r3.touch t h3, po.touch t hF⟩
end Go.Proofs.YtjjgbcjgmjggnaaGreat
