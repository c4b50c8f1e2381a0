/- Package packet's reader: number, small, short, neighbor. -/
import Derived.Test.YtjjgbcjgmjggnaaGreatReader
import Derived.Test.YtjjgbcjgmjggnaaGreatStRow0
import Derived.Test.YtjjgbcjgmjggnaaGreatKeep
import Derived.Test.YtjjgbcjgmjggnaaGreatPkPo
import Derived.Test.YtjjgbcjgmjggnaaGreatStRead3
import Derived.Test.YtjjgbcjgmjggnaaGreatCutB
import Derived.Deep.RegionHeld3
import Derived.Recover
import Derived.Defers
import Derived.Deep.DeepCutAuto
import Derived.Deep.LoopGhost
import Derived.Test.YtjjgbcjgmjggnaaGreatPkWrite1
import Derived.Test.YtjjgbcjgmjggnaaGreatParts
import Derived.Deep.MidRow
namespace Go.Proofs.YtjjgbcjgmjggnaaGreat
open Go.RowKit
set_option linter.unusedVariables false
set_option maxRecDepth 100000

/-- Of x nothing outside F has turned. -/
structure Onl (F : Nat → Prop) (x w : World) : Prop where
  t : Touch F x w
theorem onl_cell {F : Nat → Prop} {x : World} {p : Addr} {v : Value} (h : x.cell? p = some v) (hf : ¬ F p.block) : ∀ w, Onl F x w → w.cell? p = some v := fun w s => (s.t.cell (lt_of_cellA h) hf).trans h
theorem Onl.step {F G : Nat → Prop} {x w w' : World} (h : Onl F x w) (t : Touch G w w') (hG : ∀ k, G k → F k) : Onl F x w' := ⟨h.t.trans' t (fun i _ g => hG i g)⟩
theorem Onl.keep {F : Nat → Prop} {x w w' : World} (h : Onl F x w) (t : Touch (fun _ => False) w w') : Onl F x w' := h.step t (fun _ f => f.elim)
theorem Onl.set {F : Nat → Prop} {x w : World} (h : Onl F x w) {g : Nat} (hg : F g) (i : Nat) (v : Value) : Onl F x (w.setCell ⟨g, i, none⟩ v) := ⟨Touch.setCell h.t (Or.inl hg) _⟩
end Go.Proofs.YtjjgbcjgmjggnaaGreat

namespace Go.Proofs.YtjjgbcjgmjggnaaGreat
open Go.RowKit
set_option linter.unusedVariables false
set_option maxRecDepth 100000

section
variable {ops : Array Oper} {rest : List Oper} {o : Oper} {a : Act} {Q : Exit → Act → World → Prop} {w : World}
end
theorem Tryz.infoU4 : (Tryz.prog.info? 22).map (fun i => (i.zero, i.size, i.bytes)) = some (some (.int .u32 0), 1, 4) := by kernel_rfl
theorem Tryz.infoH8 : (Tryz.prog.info? 93).map (fun i => (i.zero, i.size, i.bytes)) = some (some (.agg #[.int .u16 0, .int .u8 0, .int .u8 0, .int .u32 0, .int .u32 0, .int .i32 0, .int .u16 0, .int .u16 0]), 8, 20) := by kernel_rfl
theorem Tryz.infoK3 : (Tryz.prog.info? 148).map (fun i => (i.zero, i.size, i.bytes)) = some (some (.agg #[.int .u8 0, .int .u32 0, .int .u32 0]), 3, 12) := by kernel_rfl
end Go.Proofs.YtjjgbcjgmjggnaaGreat

namespace Go.Proofs.YtjjgbcjgmjggnaaGreat
open Go.RowKit
set_option linter.unusedVariables false
set_option maxRecDepth 100000

/-- A packet's rows, made since a base. -/
structure POwn (base : Nat) (w : World) (C : PkC) (vn vd vk vs vh : Value) : Prop where
  n : w.ownsRow base 22 1 vn C.nb.length (wordsC C.nb)
  d : w.ownsRow base 93 8 vd C.dh.length (headsC C.dh)
  k : w.ownsRow base 148 3 vk C.ks.length (keysC C.ks)
  s : ∃ l : List SE, l.map SE.p = C.ss ∧ w.ownsRow base 95 9 vs l.length (statesC l) ∧ ∀ x ∈ l, w.ownsRow base 5 1 x.v x.rs.length (bytesOf x.rs)
  h : w.ownsRow base 93 8 vh C.hs.length (headsC C.hs)
theorem own_nil (base : Nat) (w : World) (e k : Nat) : w.ownsRow base e k (.slice none 0 0) 0 [] := World.ownsRow_nil _ _ _ _
theorem Pd.touch {F : Nat → Prop} {w w' : World} {g : Nat} {P : PV} {vn vd vk vs vh : Value} (k : Pd w g P vn vd vk vs vh) (t : Touch F w w') (hg : ¬ F g) : Pd w' g P vn vd vk vs vh :=
  ⟨(t.cell (lt_of_cellA k.c0) hg).trans k.c0, (t.cell (lt_of_cellA k.c1) hg).trans k.c1, (t.cell (lt_of_cellA k.c2) hg).trans k.c2, (t.cell (lt_of_cellA k.c3) hg).trans k.c3, (t.cell (lt_of_cellA k.c4) hg).trans k.c4, (t.cell (lt_of_cellA k.c5) hg).trans k.c5, (t.cell (lt_of_cellA k.c6) hg).trans k.c6, (t.cell (lt_of_cellA k.c7) hg).trans k.c7, (t.cell (lt_of_cellA k.c8) hg).trans k.c8, (t.cell (lt_of_cellA k.c9) hg).trans k.c9, (t.cell (lt_of_cellA k.c10) hg).trans k.c10, (t.cell (lt_of_cellA k.c11) hg).trans k.c11, (t.cell (lt_of_cellA k.c12) hg).trans k.c12, (t.cell (lt_of_cellA k.c13) hg).trans k.c13, (t.cell (lt_of_cellA k.c14) hg).trans k.c14, (t.cell (lt_of_cellA k.c15) hg).trans k.c15, (t.cell (lt_of_cellA k.c16) hg).trans k.c16, (t.cell (lt_of_cellA k.c17) hg).trans k.c17, (t.cell (lt_of_cellA k.c18) hg).trans k.c18⟩
end Go.Proofs.YtjjgbcjgmjggnaaGreat

namespace Go.Proofs.YtjjgbcjgmjggnaaGreat
open Go.RowKit
set_option linter.unusedVariables false
set_option maxRecDepth 100000

/-- Rows of unlike elements lie in unlike blocks. -/
theorem own_unlike {w : World} {base base' e e' k k' n n' g : Nat} {v v' : Value} {xs xs' : List Value} (h : w.ownsRow base e k v n xs) (h' : w.ownsRow base' e' k' v' n' xs') (hne : e ≠ e') (hg : v.ownBlock = some g) : v'.ownBlock ≠ some g := by
  intro hg'
  rcases h.2 with ⟨rfl, _⟩ | ⟨g1, c1, cur1, rfl, _, hh1, _⟩
  · simp [Value.ownBlock] at hg
  · rcases h'.2 with ⟨rfl, _⟩ | ⟨g2, c2, cur2, rfl, _, hh2, _⟩
    · simp [Value.ownBlock] at hg'
    · simp only [Value.ownBlock, Option.some.injEq] at hg hg'
      have e1 : g1 = g2 := by
        have a1 : some g1 = some g := by simpa [Value.ownBlock] using hg
        have a2 : some g2 = some g := by simpa [Value.ownBlock] using hg'
        rw [Option.some.inj a1, Option.some.inj a2]
      subst e1
      rw [hh1] at hh2
      simp only [Option.some.injEq, Obj.cells.injEq] at hh2
      exact hne hh2.2.1
end Go.Proofs.YtjjgbcjgmjggnaaGreat

namespace Go.Proofs.YtjjgbcjgmjggnaaGreat
open Go.RowKit
set_option linter.unusedVariables false
set_option maxRecDepth 100000

attribute [local go_sem ↓] Go.wp_at_zero Go.wp_at_succ
theorem Tryz.infoS9 : (Tryz.prog.info? 95).map (fun i => (i.zero, i.size, i.bytes)) = some (some (.agg #[.int .u16 0, .int .u8 0, .int .u8 0, .int .u32 0, .int .u32 0, .int .i32 0, .int .u16 0, .int .u16 0, .slice none 0 0]), 9, 48) := by kernel_rfl
end Go.Proofs.YtjjgbcjgmjggnaaGreat

namespace Go.Proofs.YtjjgbcjgmjggnaaGreat
open Go.RowKit
set_option linter.unusedVariables false
set_option maxRecDepth 100000

theorem cbytes_any (v : Value) (l : List Int) (w : World) (hv : ArgAt w v l) (hl : l.length ≤ 1000000) : Calls Tryz.prog 14 #[v] w fun e w' => ∃ u, e = .returned u ∧ Buf w w' u l := by
  have HV' : Hid (ArgAt w v l) := hv
  clear hv
  go_enter Tryz.func14, Tryz.ntmps14
  go_wp2_with (at_builtin; refine app_arg rfl (.tmp 4) (.tmp 5) rfl w (.slice none 0 0) [] rfl (Buf.nil (Touch.refl _ _)) v l rfl HV'.out (by simp; omega) ?_)
  intro v' w' b
  obtain ⟨xa, xc, rfl⟩ := b.form
  have B : Hid (Buf w w' (.slice xa ([] ++ l).length xc) ([] ++ l)) := b
  clear b
  go_wp2
  go_ret
  exact ⟨_, rfl, by simpa using B.out⟩
set_option maxHeartbeats 1000000 in
theorem cstate_any (h : HV) (v : Value) (rs : List Int) (w : World) (hv : ArgAt w v rs) (hl : rs.length ≤ 1000000) : Calls Tryz.prog 68 #[h.sv v] w fun e w' => ∃ u, e = .returned (h.sv u) ∧ Buf w w' u rs := by
  obtain ⟨a, c, rfl, hm⟩ := hv.form
  have HC := fun w h => cbytes_any (.slice a rs.length c) rs w h hl
  have HV' : Hid (ArgAt w (.slice a rs.length c) rs) := hv
  clear hv
  show Calls Tryz.prog 68 #[.agg #[.int .u16 h.age, .int .u8 h.opts, .int .u8 h.typ, .int .u32 h.id, .int .u32 h.adv, .int .i32 h.seq, .int .u16 h.sum, .int .u16 h.len, .slice a rs.length c]] w _
  go_enter Tryz.func68, Tryz.ntmps68
  go_wp2_with fail
  refine Calls.mono (HC _ (HV'.out.keepN (((Touch.refl _ _).alloc _).alloc _))) ?_
  rintro e w1 ⟨u, rfl, b1⟩
  obtain ⟨xa, xc, rfl⟩ := b1.form
  have O1 : Out w1 w.heap.size h (.slice a rs.length c) := ((Out.new w h (.slice a rs.length c) 95).keep ((Touch.refl _ _).alloc _)).keep b1.t
  have O2 : Hid (Out (w1.setCell ⟨w.heap.size, 8, none⟩ (.slice xa rs.length xc)) w.heap.size h (.slice xa rs.length xc)) := O1.set8 _
  have R1 : Room w1 (w.heap.size + 1) 9 := by
    have := (Room.new (w.alloc (.cells #[.int .u16 h.age, .int .u8 h.opts, .int .u8 h.typ, .int .u32 h.id, .int .u32 h.adv, .int .i32 h.seq, .int .u16 h.sum, .int .u16 h.len, .slice a rs.length c] 95)) #[.int .u16 0, .int .u8 0, .int .u8 0, .int .u32 0, .int .u32 0, .int .i32 0, .int .u16 0, .int .u16 0, .slice none 0 0] 95).keep b1.t
    simpa using this
  have U2 : Touch (fun k => k = w.heap.size) w1 (w1.setCell ⟨w.heap.size, 8, none⟩ (.slice xa rs.length xc)) := Touch.setCell (F := fun k => k = w.heap.size) (p := ⟨w.heap.size, 8, none⟩) (Touch.refl _ _) (Or.inl rfl) _
  have R2 : Hid (Room (w1.setCell ⟨w.heap.size, 8, none⟩ (.slice xa rs.length xc)) (w.heap.size + 1) 9) := R1.touch U2 (by show ¬ w.heap.size + 1 = w.heap.size; omega)
  have hgb : Hid (∀ k, (Value.slice xa rs.length xc).ownBlock = some k → w.heap.size + 1 < k) := fun k hk => by have := (b1.own.lt k hk).1; simp at this; omega
  have B2 : Hid ((w1.setCell ⟨w.heap.size, 8, none⟩ (.slice xa rs.length xc)).ownsRow w.heap.size 5 1 (.slice xa rs.length xc) rs.length (bytesOf rs)) := own_lower (own_touch b1.own U2 (fun k hk e => by have := hgb.out k hk; omega)) (by simp; omega)
  have T2 : Hid (Touch (fun _ => False) w (w1.setCell ⟨w.heap.size, 8, none⟩ (.slice xa rs.length xc))) := ((((Touch.refl _ w).alloc _).alloc _).trans b1.t).setCell (Or.inr (Nat.le_refl _)) _
  obtain ⟨⟨⟨s0, s1, s2, s3, s4, s5, s6, s7⟩, s8⟩, f6, f7, f8⟩ := O1.fits
  clear b1 O1 R1 U2 HC
  go_upto_region 2 with fail
  clear s0 s1 s2 s3 s4 s5 s6 s7 s8 f6 f7 f8
  have hne : ¬ w.heap.size = w.heap.size + 1 := by omega
  have hne' : ¬ w.heap.size + 1 = w.heap.size := by omega
  generalize w1.setCell ⟨w.heap.size, 8, none⟩ (.slice xa rs.length xc) = w2 at *
  obtain ⟨⟨⟨s0, s1, s2, s3, s4, s5, s6, s7⟩, s8⟩, -⟩ := O2.out.fits
  generalize hg : w.heap.size + 1 = g at *
  have HG : Hid (w.heap.size + 1 = g) := hg
  clear hg
  obtain ⟨zz0, zc0, zf0⟩ := R2.out 0 (by omega)
  obtain ⟨zz1, zc1, zf1⟩ := R2.out 1 (by omega)
  obtain ⟨zz2, zc2, zf2⟩ := R2.out 2 (by omega)
  obtain ⟨zz3, zc3, zf3⟩ := R2.out 3 (by omega)
  obtain ⟨zz4, zc4, zf4⟩ := R2.out 4 (by omega)
  obtain ⟨zz5, zc5, zf5⟩ := R2.out 5 (by omega)
  obtain ⟨zz6, zc6, zf6⟩ := R2.out 6 (by omega)
  obtain ⟨zz7, zc7, zf7⟩ := R2.out 7 (by omega)
  obtain ⟨zz8, zc8, zf8⟩ := R2.out 8 (by omega)
  obtain ⟨wz, hwz⟩ : ∃ wz, wz = (((((((((w2.setCell ⟨g, 0, none⟩ (.int .u16 h.age)).setCell ⟨g, 1, none⟩ (.int .u8 h.opts)).setCell ⟨g, 2, none⟩ (.int .u8 h.typ)).setCell ⟨g, 3, none⟩ (.int .u32 h.id)).setCell ⟨g, 4, none⟩ (.int .u32 h.adv)).setCell ⟨g, 5, none⟩ (.int .i32 h.seq)).setCell ⟨g, 6, none⟩ (.int .u16 h.sum)).setCell ⟨g, 7, none⟩ (.int .u16 h.len)).setCell ⟨g, 8, none⟩ (.slice xa rs.length xc)) := ⟨_, rfl⟩
  have zd0 : wz.cell? ⟨g, 0, none⟩ = some (.int .u16 h.age) := by rw [hwz]; simp [zc0, go_sem]
  have zd1 : wz.cell? ⟨g, 1, none⟩ = some (.int .u8 h.opts) := by rw [hwz]; simp [zc1, go_sem]
  have zd2 : wz.cell? ⟨g, 2, none⟩ = some (.int .u8 h.typ) := by rw [hwz]; simp [zc2, go_sem]
  have zd3 : wz.cell? ⟨g, 3, none⟩ = some (.int .u32 h.id) := by rw [hwz]; simp [zc3, go_sem]
  have zd4 : wz.cell? ⟨g, 4, none⟩ = some (.int .u32 h.adv) := by rw [hwz]; simp [zc4, go_sem]
  have zd5 : wz.cell? ⟨g, 5, none⟩ = some (.int .i32 h.seq) := by rw [hwz]; simp [zc5, go_sem]
  have zd6 : wz.cell? ⟨g, 6, none⟩ = some (.int .u16 h.sum) := by rw [hwz]; simp [zc6, go_sem]
  have zd7 : wz.cell? ⟨g, 7, none⟩ = some (.int .u16 h.len) := by rw [hwz]; simp [zc7, go_sem]
  have zd8 : wz.cell? ⟨g, 8, none⟩ = some (.slice xa rs.length xc) := by rw [hwz]; simp [zc8, go_sem]
  have HUz : Hid (Touch (fun k => k = g) w2 wz) := by show Touch _ _ _; rw [hwz]; refine Touch.setCell (F := fun k => k = g) (p := ⟨g, 8, none⟩) ?_ (Or.inl rfl) _; refine Touch.setCell (F := fun k => k = g) (p := ⟨g, 7, none⟩) ?_ (Or.inl rfl) _; refine Touch.setCell (F := fun k => k = g) (p := ⟨g, 6, none⟩) ?_ (Or.inl rfl) _; refine Touch.setCell (F := fun k => k = g) (p := ⟨g, 5, none⟩) ?_ (Or.inl rfl) _; refine Touch.setCell (F := fun k => k = g) (p := ⟨g, 4, none⟩) ?_ (Or.inl rfl) _; refine Touch.setCell (F := fun k => k = g) (p := ⟨g, 3, none⟩) ?_ (Or.inl rfl) _; refine Touch.setCell (F := fun k => k = g) (p := ⟨g, 2, none⟩) ?_ (Or.inl rfl) _; refine Touch.setCell (F := fun k => k = g) (p := ⟨g, 1, none⟩) ?_ (Or.inl rfl) _; refine Touch.setCell (F := fun k => k = g) (p := ⟨g, 0, none⟩) ?_ (Or.inl rfl) _; exact Touch.refl _ _
  have HWz : Hid (wz = (((((((((w2.setCell ⟨g, 0, none⟩ (.int .u16 h.age)).setCell ⟨g, 1, none⟩ (.int .u8 h.opts)).setCell ⟨g, 2, none⟩ (.int .u8 h.typ)).setCell ⟨g, 3, none⟩ (.int .u32 h.id)).setCell ⟨g, 4, none⟩ (.int .u32 h.adv)).setCell ⟨g, 5, none⟩ (.int .i32 h.seq)).setCell ⟨g, 6, none⟩ (.int .u16 h.sum)).setCell ⟨g, 7, none⟩ (.int .u16 h.len)).setCell ⟨g, 8, none⟩ (.slice xa rs.length xc))) := hwz
  clear hwz
  go_wp2_with fail
  rw [← HWz.out]
  clear HWz zc0 zf0 zc1 zf1 zc2 zf2 zc3 zf3 zc4 zf4 zc5 zf5 zc6 zf6 zc7 zf7 zc8 zf8
  refine bodyPost_ret (v := .agg #[.int .u16 h.age, .int .u8 h.opts, .int .u8 h.typ, .int .u32 h.id, .int .u32 h.adv, .int .i32 h.seq, .int .u16 h.sum, .int .u16 h.len, .slice xa rs.length xc]) (by simp [results, Tryz.results68, go_sem, zd0, zd1, zd2, zd3, zd4, zd5, zd6, zd7, zd8]) rfl ?_
  exact ⟨_, rfl, ⟨own_touch B2.out HUz.out (fun k hk e => by have := hgb.out k hk; omega), T2.out.trans' HUz.out (fun i hi e => by have := HG.out; omega)⟩⟩
end Go.Proofs.YtjjgbcjgmjggnaaGreat
