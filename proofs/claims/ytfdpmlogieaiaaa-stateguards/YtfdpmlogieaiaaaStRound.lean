/- The walk of StateRound. -/
import Derived.Test.YtfdpmlogieaiaaaStRead3
import Derived.Test.YtfdpmlogieaiaaaStLives2
import Derived.Test.YtfdpmlogieaiaaaStSealF
import Derived.Deep.RegionHeld3
namespace Go.Proofs.Ytfdpmlogieaiaaa
open Go.RowKit
set_option linter.unusedVariables false
set_option maxRecDepth 100000

theorem rn_pack {w0 : World} {gs : Nat} {wx : World} {S : HV} {l : List Int} {u : Value} (h : RnS w0 gs wx S l u) : ∃ gs' wx', gs' = gs ∧ wx' = wx ∧ RnS w0 gs' wx' S l u := ⟨_, _, rfl, rfl, h⟩
theorem far17 {w : World} {g3 g4 gs : Nat} (hr3 : g3 ≠ gs) (hr4 : g4 ≠ gs) {h : HV} {B : BV} {a1 a3 a8 : Option Addr} {q1 q3 q8 : Nat} {u0 u1 u2 u3 u4 u5 u6 u7 u8 : Value} (hh : w.cell? ⟨g3, 0, none⟩ = some (.int .u16 h.age) ∧ w.cell? ⟨g3, 1, none⟩ = some (.int .u8 h.opts) ∧ w.cell? ⟨g3, 2, none⟩ = some (.int .u8 h.typ) ∧ w.cell? ⟨g3, 3, none⟩ = some (.int .u32 h.id) ∧ w.cell? ⟨g3, 4, none⟩ = some (.int .u32 h.adv) ∧ w.cell? ⟨g3, 5, none⟩ = some (.int .i32 h.seq) ∧ w.cell? ⟨g3, 6, none⟩ = some (.int .u16 h.sum) ∧ w.cell? ⟨g3, 7, none⟩ = some (.int .u16 h.len) ∧ w.cell? ⟨g4, 0, none⟩ = some (.int .u8 B.flags) ∧ w.cell? ⟨g4, 1, none⟩ = some (.slice a1 B.links.length q1) ∧ w.cell? ⟨g4, 2, none⟩ = some (.int .u32 B.mask) ∧ w.cell? ⟨g4, 3, none⟩ = some (.slice a3 B.routers.length q3) ∧ w.cell? ⟨g4, 4, none⟩ = some (.int .u32 B.metric) ∧ w.cell? ⟨g4, 5, none⟩ = some (.bool B.type2) ∧ w.cell? ⟨g4, 6, none⟩ = some (.int .u32 B.fwd) ∧ w.cell? ⟨g4, 7, none⟩ = some (.int .u32 B.tag) ∧ w.cell? ⟨g4, 8, none⟩ = some (.slice a8 B.data.length q8)) : (((((((((w.setCell ⟨gs, 0, none⟩ u0).setCell ⟨gs, 1, none⟩ u1).setCell ⟨gs, 2, none⟩ u2).setCell ⟨gs, 3, none⟩ u3).setCell ⟨gs, 4, none⟩ u4).setCell ⟨gs, 5, none⟩ u5).setCell ⟨gs, 6, none⟩ u6).setCell ⟨gs, 7, none⟩ u7).setCell ⟨gs, 8, none⟩ u8).cell? ⟨g3, 0, none⟩ = some (.int .u16 h.age) ∧ (((((((((w.setCell ⟨gs, 0, none⟩ u0).setCell ⟨gs, 1, none⟩ u1).setCell ⟨gs, 2, none⟩ u2).setCell ⟨gs, 3, none⟩ u3).setCell ⟨gs, 4, none⟩ u4).setCell ⟨gs, 5, none⟩ u5).setCell ⟨gs, 6, none⟩ u6).setCell ⟨gs, 7, none⟩ u7).setCell ⟨gs, 8, none⟩ u8).cell? ⟨g3, 1, none⟩ = some (.int .u8 h.opts) ∧ (((((((((w.setCell ⟨gs, 0, none⟩ u0).setCell ⟨gs, 1, none⟩ u1).setCell ⟨gs, 2, none⟩ u2).setCell ⟨gs, 3, none⟩ u3).setCell ⟨gs, 4, none⟩ u4).setCell ⟨gs, 5, none⟩ u5).setCell ⟨gs, 6, none⟩ u6).setCell ⟨gs, 7, none⟩ u7).setCell ⟨gs, 8, none⟩ u8).cell? ⟨g3, 2, none⟩ = some (.int .u8 h.typ) ∧ (((((((((w.setCell ⟨gs, 0, none⟩ u0).setCell ⟨gs, 1, none⟩ u1).setCell ⟨gs, 2, none⟩ u2).setCell ⟨gs, 3, none⟩ u3).setCell ⟨gs, 4, none⟩ u4).setCell ⟨gs, 5, none⟩ u5).setCell ⟨gs, 6, none⟩ u6).setCell ⟨gs, 7, none⟩ u7).setCell ⟨gs, 8, none⟩ u8).cell? ⟨g3, 3, none⟩ = some (.int .u32 h.id) ∧ (((((((((w.setCell ⟨gs, 0, none⟩ u0).setCell ⟨gs, 1, none⟩ u1).setCell ⟨gs, 2, none⟩ u2).setCell ⟨gs, 3, none⟩ u3).setCell ⟨gs, 4, none⟩ u4).setCell ⟨gs, 5, none⟩ u5).setCell ⟨gs, 6, none⟩ u6).setCell ⟨gs, 7, none⟩ u7).setCell ⟨gs, 8, none⟩ u8).cell? ⟨g3, 4, none⟩ = some (.int .u32 h.adv) ∧ (((((((((w.setCell ⟨gs, 0, none⟩ u0).setCell ⟨gs, 1, none⟩ u1).setCell ⟨gs, 2, none⟩ u2).setCell ⟨gs, 3, none⟩ u3).setCell ⟨gs, 4, none⟩ u4).setCell ⟨gs, 5, none⟩ u5).setCell ⟨gs, 6, none⟩ u6).setCell ⟨gs, 7, none⟩ u7).setCell ⟨gs, 8, none⟩ u8).cell? ⟨g3, 5, none⟩ = some (.int .i32 h.seq) ∧ (((((((((w.setCell ⟨gs, 0, none⟩ u0).setCell ⟨gs, 1, none⟩ u1).setCell ⟨gs, 2, none⟩ u2).setCell ⟨gs, 3, none⟩ u3).setCell ⟨gs, 4, none⟩ u4).setCell ⟨gs, 5, none⟩ u5).setCell ⟨gs, 6, none⟩ u6).setCell ⟨gs, 7, none⟩ u7).setCell ⟨gs, 8, none⟩ u8).cell? ⟨g3, 6, none⟩ = some (.int .u16 h.sum) ∧ (((((((((w.setCell ⟨gs, 0, none⟩ u0).setCell ⟨gs, 1, none⟩ u1).setCell ⟨gs, 2, none⟩ u2).setCell ⟨gs, 3, none⟩ u3).setCell ⟨gs, 4, none⟩ u4).setCell ⟨gs, 5, none⟩ u5).setCell ⟨gs, 6, none⟩ u6).setCell ⟨gs, 7, none⟩ u7).setCell ⟨gs, 8, none⟩ u8).cell? ⟨g3, 7, none⟩ = some (.int .u16 h.len) ∧ (((((((((w.setCell ⟨gs, 0, none⟩ u0).setCell ⟨gs, 1, none⟩ u1).setCell ⟨gs, 2, none⟩ u2).setCell ⟨gs, 3, none⟩ u3).setCell ⟨gs, 4, none⟩ u4).setCell ⟨gs, 5, none⟩ u5).setCell ⟨gs, 6, none⟩ u6).setCell ⟨gs, 7, none⟩ u7).setCell ⟨gs, 8, none⟩ u8).cell? ⟨g4, 0, none⟩ = some (.int .u8 B.flags) ∧ (((((((((w.setCell ⟨gs, 0, none⟩ u0).setCell ⟨gs, 1, none⟩ u1).setCell ⟨gs, 2, none⟩ u2).setCell ⟨gs, 3, none⟩ u3).setCell ⟨gs, 4, none⟩ u4).setCell ⟨gs, 5, none⟩ u5).setCell ⟨gs, 6, none⟩ u6).setCell ⟨gs, 7, none⟩ u7).setCell ⟨gs, 8, none⟩ u8).cell? ⟨g4, 1, none⟩ = some (.slice a1 B.links.length q1) ∧ (((((((((w.setCell ⟨gs, 0, none⟩ u0).setCell ⟨gs, 1, none⟩ u1).setCell ⟨gs, 2, none⟩ u2).setCell ⟨gs, 3, none⟩ u3).setCell ⟨gs, 4, none⟩ u4).setCell ⟨gs, 5, none⟩ u5).setCell ⟨gs, 6, none⟩ u6).setCell ⟨gs, 7, none⟩ u7).setCell ⟨gs, 8, none⟩ u8).cell? ⟨g4, 2, none⟩ = some (.int .u32 B.mask) ∧ (((((((((w.setCell ⟨gs, 0, none⟩ u0).setCell ⟨gs, 1, none⟩ u1).setCell ⟨gs, 2, none⟩ u2).setCell ⟨gs, 3, none⟩ u3).setCell ⟨gs, 4, none⟩ u4).setCell ⟨gs, 5, none⟩ u5).setCell ⟨gs, 6, none⟩ u6).setCell ⟨gs, 7, none⟩ u7).setCell ⟨gs, 8, none⟩ u8).cell? ⟨g4, 3, none⟩ = some (.slice a3 B.routers.length q3) ∧ (((((((((w.setCell ⟨gs, 0, none⟩ u0).setCell ⟨gs, 1, none⟩ u1).setCell ⟨gs, 2, none⟩ u2).setCell ⟨gs, 3, none⟩ u3).setCell ⟨gs, 4, none⟩ u4).setCell ⟨gs, 5, none⟩ u5).setCell ⟨gs, 6, none⟩ u6).setCell ⟨gs, 7, none⟩ u7).setCell ⟨gs, 8, none⟩ u8).cell? ⟨g4, 4, none⟩ = some (.int .u32 B.metric) ∧ (((((((((w.setCell ⟨gs, 0, none⟩ u0).setCell ⟨gs, 1, none⟩ u1).setCell ⟨gs, 2, none⟩ u2).setCell ⟨gs, 3, none⟩ u3).setCell ⟨gs, 4, none⟩ u4).setCell ⟨gs, 5, none⟩ u5).setCell ⟨gs, 6, none⟩ u6).setCell ⟨gs, 7, none⟩ u7).setCell ⟨gs, 8, none⟩ u8).cell? ⟨g4, 5, none⟩ = some (.bool B.type2) ∧ (((((((((w.setCell ⟨gs, 0, none⟩ u0).setCell ⟨gs, 1, none⟩ u1).setCell ⟨gs, 2, none⟩ u2).setCell ⟨gs, 3, none⟩ u3).setCell ⟨gs, 4, none⟩ u4).setCell ⟨gs, 5, none⟩ u5).setCell ⟨gs, 6, none⟩ u6).setCell ⟨gs, 7, none⟩ u7).setCell ⟨gs, 8, none⟩ u8).cell? ⟨g4, 6, none⟩ = some (.int .u32 B.fwd) ∧ (((((((((w.setCell ⟨gs, 0, none⟩ u0).setCell ⟨gs, 1, none⟩ u1).setCell ⟨gs, 2, none⟩ u2).setCell ⟨gs, 3, none⟩ u3).setCell ⟨gs, 4, none⟩ u4).setCell ⟨gs, 5, none⟩ u5).setCell ⟨gs, 6, none⟩ u6).setCell ⟨gs, 7, none⟩ u7).setCell ⟨gs, 8, none⟩ u8).cell? ⟨g4, 7, none⟩ = some (.int .u32 B.tag) ∧ (((((((((w.setCell ⟨gs, 0, none⟩ u0).setCell ⟨gs, 1, none⟩ u1).setCell ⟨gs, 2, none⟩ u2).setCell ⟨gs, 3, none⟩ u3).setCell ⟨gs, 4, none⟩ u4).setCell ⟨gs, 5, none⟩ u5).setCell ⟨gs, 6, none⟩ u6).setCell ⟨gs, 7, none⟩ u7).setCell ⟨gs, 8, none⟩ u8).cell? ⟨g4, 8, none⟩ = some (.slice a8 B.data.length q8) := by
  obtain ⟨v0, v1, v2, v3, v4, v5, v6, v7, v8, v9, v10, v11, v12, v13, v14, v15, v16⟩ := hh
  exact ⟨(cell_far9 hr3 0 _ _ _ _ _ _ _ _ _).trans v0, (cell_far9 hr3 1 _ _ _ _ _ _ _ _ _).trans v1, (cell_far9 hr3 2 _ _ _ _ _ _ _ _ _).trans v2, (cell_far9 hr3 3 _ _ _ _ _ _ _ _ _).trans v3, (cell_far9 hr3 4 _ _ _ _ _ _ _ _ _).trans v4, (cell_far9 hr3 5 _ _ _ _ _ _ _ _ _).trans v5, (cell_far9 hr3 6 _ _ _ _ _ _ _ _ _).trans v6, (cell_far9 hr3 7 _ _ _ _ _ _ _ _ _).trans v7, (cell_far9 hr4 0 _ _ _ _ _ _ _ _ _).trans v8, (cell_far9 hr4 1 _ _ _ _ _ _ _ _ _).trans v9, (cell_far9 hr4 2 _ _ _ _ _ _ _ _ _).trans v10, (cell_far9 hr4 3 _ _ _ _ _ _ _ _ _).trans v11, (cell_far9 hr4 4 _ _ _ _ _ _ _ _ _).trans v12, (cell_far9 hr4 5 _ _ _ _ _ _ _ _ _).trans v13, (cell_far9 hr4 6 _ _ _ _ _ _ _ _ _).trans v14, (cell_far9 hr4 7 _ _ _ _ _ _ _ _ _).trans v15, (cell_far9 hr4 8 _ _ _ _ _ _ _ _ _).trans v16⟩
set_option maxHeartbeats 4000000 in
theorem round_heavy (h : HV) (ok : h.All) (B : BV) (okb : B.Ok) (a1 a3 a8 : Option Addr) (q1 q3 q8 : Nat) (age : Int) (w : World) (hA : BArg w B (.slice a1 B.links.length q1) (.slice a3 B.routers.length q3) (.slice a8 B.data.length q8)) (hv : 8192 < B.links.length ∨ 32768 < B.routers.length ∨ 131072 < B.data.length) :
    Calls Try.prog 3 #[h.v, B.v (.slice a1 B.links.length q1) (.slice a3 B.routers.length q3) (.slice a8 B.data.length q8), .int .u16 age] w fun e w' => e = .returned (.bool true) ∧ Touch (fun _ => False) w w' := by
  have OK : Hid h.All := ok
  have OKB : Hid B.Ok := okb
  have HA : Hid (BArg w B (.slice a1 B.links.length q1) (.slice a3 B.routers.length q3) (.slice a8 B.data.length q8)) := hA
  have T0 : Hid (Touch (fun _ => False) w ((w.alloc (.cells #[.int .u16 h.age, .int .u8 h.opts, .int .u8 h.typ, .int .u32 h.id, .int .u32 h.adv, .int .i32 h.seq, .int .u16 h.sum, .int .u16 h.len] 25)).alloc (.cells #[.int .u8 B.flags, .slice a1 B.links.length q1, .int .u32 B.mask, .slice a3 B.routers.length q3, .int .u32 B.metric, .bool B.type2, .int .u32 B.fwd, .int .u32 B.tag, .slice a8 B.data.length q8] 30))) := ((Touch.refl _ w).alloc _).alloc _
  have HH0 : Hid (Hd ((w.alloc (.cells #[.int .u16 h.age, .int .u8 h.opts, .int .u8 h.typ, .int .u32 h.id, .int .u32 h.adv, .int .i32 h.seq, .int .u16 h.sum, .int .u16 h.len] 25)).alloc (.cells #[.int .u8 B.flags, .slice a1 B.links.length q1, .int .u32 B.mask, .slice a3 B.routers.length q3, .int .u32 B.metric, .bool B.type2, .int .u32 B.fwd, .int .u32 B.tag, .slice a8 B.data.length q8] 30)) w.heap.size h) := (Hd.new w h 25).keep ((Touch.refl _ _).alloc _)
  have HB0 : Hid (Bd ((w.alloc (.cells #[.int .u16 h.age, .int .u8 h.opts, .int .u8 h.typ, .int .u32 h.id, .int .u32 h.adv, .int .i32 h.seq, .int .u16 h.sum, .int .u16 h.len] 25)).alloc (.cells #[.int .u8 B.flags, .slice a1 B.links.length q1, .int .u32 B.mask, .slice a3 B.routers.length q3, .int .u32 B.metric, .bool B.type2, .int .u32 B.fwd, .int .u32 B.tag, .slice a8 B.data.length q8] 30)) (w.heap.size + 1) B (.slice a1 B.links.length q1) (.slice a3 B.routers.length q3) (.slice a8 B.data.length q8)) := by
    have := Bd.new (w.alloc (.cells #[.int .u16 h.age, .int .u8 h.opts, .int .u8 h.typ, .int .u32 h.id, .int .u32 h.adv, .int .i32 h.seq, .int .u16 h.sum, .int .u16 h.len] 25)) B (.slice a1 B.links.length q1) (.slice a3 B.routers.length q3) (.slice a8 B.data.length q8) 30
    show Bd _ _ _ _ _ _
    simpa using this
  have SZ0 : Hid (((w.alloc (.cells #[.int .u16 h.age, .int .u8 h.opts, .int .u8 h.typ, .int .u32 h.id, .int .u32 h.adv, .int .i32 h.seq, .int .u16 h.sum, .int .u16 h.len] 25)).alloc (.cells #[.int .u8 B.flags, .slice a1 B.links.length q1, .int .u32 B.mask, .slice a3 B.routers.length q3, .int .u32 B.metric, .bool B.type2, .int .u32 B.fwd, .int .u32 B.tag, .slice a8 B.data.length q8] 30)).heap.size = w.heap.size + 2) := by show _ = _; simp
  clear ok okb hA
  show Calls Try.prog 3 #[.agg #[.int .u16 h.age, .int .u8 h.opts, .int .u8 h.typ, .int .u32 h.id, .int .u32 h.adv, .int .i32 h.seq, .int .u16 h.sum, .int .u16 h.len], .agg #[.int .u8 B.flags, .slice a1 B.links.length q1, .int .u32 B.mask, .slice a3 B.routers.length q3, .int .u32 B.metric, .bool B.type2, .int .u32 B.fwd, .int .u32 B.tag, .slice a8 B.data.length q8], .int .u16 age] w _
  go_enter Try.func3, Try.ntmps3
  go_upto_region 1 with fail
  generalize ((w.alloc (.cells #[.int .u16 h.age, .int .u8 h.opts, .int .u8 h.typ, .int .u32 h.id, .int .u32 h.adv, .int .i32 h.seq, .int .u16 h.sum, .int .u16 h.len] 25)).alloc (.cells #[.int .u8 B.flags, .slice a1 B.links.length q1, .int .u32 B.mask, .slice a3 B.routers.length q3, .int .u32 B.metric, .bool B.type2, .int .u32 B.fwd, .int .u32 B.tag, .slice a8 B.data.length q8] 30)) = w0 at *
  generalize hg4 : w.heap.size + 1 = g4 at *
  have HG4 : Hid (w.heap.size + 1 = g4) := hg4
  generalize hg3 : w.heap.size = g3 at *
  have HG3 : Hid (w.heap.size = g3) := hg3
  clear hg3 hg4
  obtain ⟨d0, d1, d2, d3, d4, d5, d6, d7, d8⟩ := HB0.out
  go_wp2_with fail
  refine Calls.mono (heavy_yes B a1 a3 a8 q1 q3 q8 _ hv) ?_
  rintro e w1 ⟨rfl, t1⟩
  have T1 : Hid (Touch (fun _ => False) w w1) := T0.out.trans t1
  clear t1 d0 d1 d2 d3 d4 d5 d6 d7 d8
  go_wp2_with fail
  refine Calls.mono (lives6 _) ?_
  rintro e wv ⟨rfl, tv⟩
  go_wp2
  go_ret
  exact ⟨rfl, T1.out.trans tv⟩
set_option maxHeartbeats 4000000 in
theorem round_refused (h : HV) (ok : h.All) (B : BV) (okb : B.Ok) (a1 a3 a8 : Option Addr) (q1 q3 q8 : Nat) (age : Int) (w : World) (hA : BArg w B (.slice a1 B.links.length q1) (.slice a3 B.routers.length q3) (.slice a8 B.data.length q8)) (hv : ¬ (8192 < B.links.length ∨ 32768 < B.routers.length ∨ 131072 < B.data.length)) (hne : encE h.typ B ≠ 0) :
    Calls Try.prog 3 #[h.v, B.v (.slice a1 B.links.length q1) (.slice a3 B.routers.length q3) (.slice a8 B.data.length q8), .int .u16 age] w fun e w' => e = .returned (.bool true) ∧ Touch (fun _ => False) w w' := by
  have OK : Hid h.All := ok
  have OKB : Hid B.Ok := okb
  have HA : Hid (BArg w B (.slice a1 B.links.length q1) (.slice a3 B.routers.length q3) (.slice a8 B.data.length q8)) := hA
  have T0 : Hid (Touch (fun _ => False) w ((w.alloc (.cells #[.int .u16 h.age, .int .u8 h.opts, .int .u8 h.typ, .int .u32 h.id, .int .u32 h.adv, .int .i32 h.seq, .int .u16 h.sum, .int .u16 h.len] 25)).alloc (.cells #[.int .u8 B.flags, .slice a1 B.links.length q1, .int .u32 B.mask, .slice a3 B.routers.length q3, .int .u32 B.metric, .bool B.type2, .int .u32 B.fwd, .int .u32 B.tag, .slice a8 B.data.length q8] 30))) := ((Touch.refl _ w).alloc _).alloc _
  have HH0 : Hid (Hd ((w.alloc (.cells #[.int .u16 h.age, .int .u8 h.opts, .int .u8 h.typ, .int .u32 h.id, .int .u32 h.adv, .int .i32 h.seq, .int .u16 h.sum, .int .u16 h.len] 25)).alloc (.cells #[.int .u8 B.flags, .slice a1 B.links.length q1, .int .u32 B.mask, .slice a3 B.routers.length q3, .int .u32 B.metric, .bool B.type2, .int .u32 B.fwd, .int .u32 B.tag, .slice a8 B.data.length q8] 30)) w.heap.size h) := (Hd.new w h 25).keep ((Touch.refl _ _).alloc _)
  have HB0 : Hid (Bd ((w.alloc (.cells #[.int .u16 h.age, .int .u8 h.opts, .int .u8 h.typ, .int .u32 h.id, .int .u32 h.adv, .int .i32 h.seq, .int .u16 h.sum, .int .u16 h.len] 25)).alloc (.cells #[.int .u8 B.flags, .slice a1 B.links.length q1, .int .u32 B.mask, .slice a3 B.routers.length q3, .int .u32 B.metric, .bool B.type2, .int .u32 B.fwd, .int .u32 B.tag, .slice a8 B.data.length q8] 30)) (w.heap.size + 1) B (.slice a1 B.links.length q1) (.slice a3 B.routers.length q3) (.slice a8 B.data.length q8)) := by
    have := Bd.new (w.alloc (.cells #[.int .u16 h.age, .int .u8 h.opts, .int .u8 h.typ, .int .u32 h.id, .int .u32 h.adv, .int .i32 h.seq, .int .u16 h.sum, .int .u16 h.len] 25)) B (.slice a1 B.links.length q1) (.slice a3 B.routers.length q3) (.slice a8 B.data.length q8) 30
    show Bd _ _ _ _ _ _
    simpa using this
  have SZ0 : Hid (((w.alloc (.cells #[.int .u16 h.age, .int .u8 h.opts, .int .u8 h.typ, .int .u32 h.id, .int .u32 h.adv, .int .i32 h.seq, .int .u16 h.sum, .int .u16 h.len] 25)).alloc (.cells #[.int .u8 B.flags, .slice a1 B.links.length q1, .int .u32 B.mask, .slice a3 B.routers.length q3, .int .u32 B.metric, .bool B.type2, .int .u32 B.fwd, .int .u32 B.tag, .slice a8 B.data.length q8] 30)).heap.size = w.heap.size + 2) := by show _ = _; simp
  clear ok okb hA
  show Calls Try.prog 3 #[.agg #[.int .u16 h.age, .int .u8 h.opts, .int .u8 h.typ, .int .u32 h.id, .int .u32 h.adv, .int .i32 h.seq, .int .u16 h.sum, .int .u16 h.len], .agg #[.int .u8 B.flags, .slice a1 B.links.length q1, .int .u32 B.mask, .slice a3 B.routers.length q3, .int .u32 B.metric, .bool B.type2, .int .u32 B.fwd, .int .u32 B.tag, .slice a8 B.data.length q8], .int .u16 age] w _
  go_enter Try.func3, Try.ntmps3
  go_upto_region 1 with fail
  generalize ((w.alloc (.cells #[.int .u16 h.age, .int .u8 h.opts, .int .u8 h.typ, .int .u32 h.id, .int .u32 h.adv, .int .i32 h.seq, .int .u16 h.sum, .int .u16 h.len] 25)).alloc (.cells #[.int .u8 B.flags, .slice a1 B.links.length q1, .int .u32 B.mask, .slice a3 B.routers.length q3, .int .u32 B.metric, .bool B.type2, .int .u32 B.fwd, .int .u32 B.tag, .slice a8 B.data.length q8] 30)) = w0 at *
  generalize hg4 : w.heap.size + 1 = g4 at *
  have HG4 : Hid (w.heap.size + 1 = g4) := hg4
  generalize hg3 : w.heap.size = g3 at *
  have HG3 : Hid (w.heap.size = g3) := hg3
  clear hg3 hg4
  obtain ⟨d0, d1, d2, d3, d4, d5, d6, d7, d8⟩ := HB0.out
  go_wp2_with fail
  have LT : Hid (Light B) := ⟨by omega, by omega, by omega⟩
  refine Calls.mono (heavy_no B a1 a3 a8 q1 q3 q8 _ hv) ?_
  rintro e w1 ⟨rfl, t1⟩
  have T1 : Hid (Touch (fun _ => False) w w1) := T0.out.trans t1
  have HH1 : Hid (Hd w1 g3 h) := HH0.out.keep t1
  have HB1 : Hid (Bd w1 g4 B (.slice a1 B.links.length q1) (.slice a3 B.routers.length q3) (.slice a8 B.data.length q8)) := HB0.out.keep t1
  have HA1 : Hid (BArg w1 B (.slice a1 B.links.length q1) (.slice a3 B.routers.length q3) (.slice a8 B.data.length q8)) := HA.out.keep T1.out
  have hr1 : g4 < w1.heap.size := lt_of_cell HB1.out.c0
  have hr34 : g3 < g4 := by have := HG4.out; omega
  clear t1 d0 d1 d2 d3 d4 d5 d6 d7 d8 HH0 HB0 SZ0 T0
  go_upto_region 3 with fail
  have HC17 : Hid (w1.cell? ⟨g3, 0, none⟩ = some (.int .u16 h.age) ∧ w1.cell? ⟨g3, 1, none⟩ = some (.int .u8 h.opts) ∧ w1.cell? ⟨g3, 2, none⟩ = some (.int .u8 h.typ) ∧ w1.cell? ⟨g3, 3, none⟩ = some (.int .u32 h.id) ∧ w1.cell? ⟨g3, 4, none⟩ = some (.int .u32 h.adv) ∧ w1.cell? ⟨g3, 5, none⟩ = some (.int .i32 h.seq) ∧ w1.cell? ⟨g3, 6, none⟩ = some (.int .u16 h.sum) ∧ w1.cell? ⟨g3, 7, none⟩ = some (.int .u16 h.len) ∧ w1.cell? ⟨g4, 0, none⟩ = some (.int .u8 B.flags) ∧ w1.cell? ⟨g4, 1, none⟩ = some (.slice a1 B.links.length q1) ∧ w1.cell? ⟨g4, 2, none⟩ = some (.int .u32 B.mask) ∧ w1.cell? ⟨g4, 3, none⟩ = some (.slice a3 B.routers.length q3) ∧ w1.cell? ⟨g4, 4, none⟩ = some (.int .u32 B.metric) ∧ w1.cell? ⟨g4, 5, none⟩ = some (.bool B.type2) ∧ w1.cell? ⟨g4, 6, none⟩ = some (.int .u32 B.fwd) ∧ w1.cell? ⟨g4, 7, none⟩ = some (.int .u32 B.tag) ∧ w1.cell? ⟨g4, 8, none⟩ = some (.slice a8 B.data.length q8)) := by
    obtain ⟨v0, v1, v2, v3, v4, v5, v6, v7⟩ := HH1.out
    obtain ⟨v8, v9, v10, v11, v12, v13, v14, v15, v16⟩ := HB1.out
    exact ⟨v0, v1, v2, v3, v4, v5, v6, v7, v8, v9, v10, v11, v12, v13, v14, v15, v16⟩
  have HC1 : w1.drew.cell? ⟨g3, 0, none⟩ = some (.int .u16 h.age) ∧ w1.drew.cell? ⟨g3, 1, none⟩ = some (.int .u8 h.opts) ∧ w1.drew.cell? ⟨g3, 2, none⟩ = some (.int .u8 h.typ) ∧ w1.drew.cell? ⟨g3, 3, none⟩ = some (.int .u32 h.id) ∧ w1.drew.cell? ⟨g3, 4, none⟩ = some (.int .u32 h.adv) ∧ w1.drew.cell? ⟨g3, 5, none⟩ = some (.int .i32 h.seq) ∧ w1.drew.cell? ⟨g3, 6, none⟩ = some (.int .u16 h.sum) ∧ w1.drew.cell? ⟨g3, 7, none⟩ = some (.int .u16 h.len) ∧ w1.drew.cell? ⟨g4, 0, none⟩ = some (.int .u8 B.flags) ∧ w1.drew.cell? ⟨g4, 1, none⟩ = some (.slice a1 B.links.length q1) ∧ w1.drew.cell? ⟨g4, 2, none⟩ = some (.int .u32 B.mask) ∧ w1.drew.cell? ⟨g4, 3, none⟩ = some (.slice a3 B.routers.length q3) ∧ w1.drew.cell? ⟨g4, 4, none⟩ = some (.int .u32 B.metric) ∧ w1.drew.cell? ⟨g4, 5, none⟩ = some (.bool B.type2) ∧ w1.drew.cell? ⟨g4, 6, none⟩ = some (.int .u32 B.fwd) ∧ w1.drew.cell? ⟨g4, 7, none⟩ = some (.int .u32 B.tag) ∧ w1.drew.cell? ⟨g4, 8, none⟩ = some (.slice a8 B.data.length q8) := HC17.out
  obtain ⟨v0, v1, v2, v3, v4, v5, v6, v7, v8, v9, v10, v11, v12, v13, v14, v15, v16⟩ := HC1
  have A1 : RnA w1 w1.drew := (RnA.mk (Touch.refl _ _)).drew
  have B1 : RnB w1 w1.heap.size (w1.alloc (.cells #[.int .u16 0, .int .u8 0, .int .u8 0, .int .u32 0, .int .u32 0, .int .i32 0, .int .u16 0, .int .u16 0, .slice none 0 0] 34)).drew := ((RnA.mk (Touch.refl _ w1)).two).drew
  have hx3 : g3 ≠ w1.heap.size := by omega
  have hx4 : g4 ≠ w1.heap.size := by omega
  go_region_held3 (fun w' => w'.cell? ⟨g3, 0, none⟩ = some (.int .u16 h.age) ∧ w'.cell? ⟨g3, 1, none⟩ = some (.int .u8 h.opts) ∧ w'.cell? ⟨g3, 2, none⟩ = some (.int .u8 h.typ) ∧ w'.cell? ⟨g3, 3, none⟩ = some (.int .u32 h.id) ∧ w'.cell? ⟨g3, 4, none⟩ = some (.int .u32 h.adv) ∧ w'.cell? ⟨g3, 5, none⟩ = some (.int .i32 h.seq) ∧ w'.cell? ⟨g3, 6, none⟩ = some (.int .u16 h.sum) ∧ w'.cell? ⟨g3, 7, none⟩ = some (.int .u16 h.len) ∧ w'.cell? ⟨g4, 0, none⟩ = some (.int .u8 B.flags) ∧ w'.cell? ⟨g4, 1, none⟩ = some (.slice a1 B.links.length q1) ∧ w'.cell? ⟨g4, 2, none⟩ = some (.int .u32 B.mask) ∧ w'.cell? ⟨g4, 3, none⟩ = some (.slice a3 B.routers.length q3) ∧ w'.cell? ⟨g4, 4, none⟩ = some (.int .u32 B.metric) ∧ w'.cell? ⟨g4, 5, none⟩ = some (.bool B.type2) ∧ w'.cell? ⟨g4, 6, none⟩ = some (.int .u32 B.fwd) ∧ w'.cell? ⟨g4, 7, none⟩ = some (.int .u32 B.tag) ∧ w'.cell? ⟨g4, 8, none⟩ = some (.slice a8 B.data.length q8)) (with_reducible first | exact keep17 (RnA.t (by assumption)) HC17.out | exact keep17 (RnB.t (by assumption)) HC17.out | exact keep17 (RnA2.t (by assumption)) HC17.out | exact keep17 (RnB2.t (by assumption)) HC17.out | exact far17 (by assumption) (by assumption) (keep17 (RnB.t (by assumption)) HC17.out) | exact keep17 (RnS.t (by assumption)) HC17.out) (first
    | (go_at_call 8; refine Calls.mono (rnA_copy LT.out HA1.out (by assumption)) ?_; rintro e wx ⟨b1, p1, b3, p3, b8, p8, rfl, Ax⟩; have Bx := Ax.two; unfold BV.v)
    | (go_at_call 8; refine Calls.mono (rnB_copy LT.out HA1.out (by assumption)) ?_; rintro e wx ⟨b1, p1, b3, p3, b8, p8, rfl, Bx⟩; unfold BV.v)
    | (go_at_call 7; refine Calls.mono (rnA_encN OK.out OKB.out LT.out hne (by assumption)) ?_; rintro e wn ⟨rfl, An⟩; have Bn := An.two; have Cn := rn_alloc0 An)
    | (go_at_call 7; refine Calls.mono (rnB_encN OK.out OKB.out LT.out hne (by assumption)) ?_; rintro e wn ⟨rfl, Bn⟩; have hrm := Bn.rm; obtain ⟨zz0, zc0, zf0⟩ := hrm 0 (by omega); obtain ⟨zz1, zc1, zf1⟩ := hrm 1 (by omega); obtain ⟨zz2, zc2, zf2⟩ := hrm 2 (by omega); obtain ⟨zz3, zc3, zf3⟩ := hrm 3 (by omega); obtain ⟨zz4, zc4, zf4⟩ := hrm 4 (by omega); obtain ⟨zz5, zc5, zf5⟩ := hrm 5 (by omega); obtain ⟨zz6, zc6, zf6⟩ := hrm 6 (by omega); obtain ⟨zz7, zc7, zf7⟩ := hrm 7 (by omega); obtain ⟨zz8, zc8, zf8⟩ := hrm 8 (by omega); have Cn := rn_chain0 Bn))
  all_goals
    obtain ⟨gs, wS, hgs, hwS, D⟩ := rn_pack Cn
    rw [← hwS, ← hgs]
    refine (‹∀ (a : Act) (w_1 : World), Code.wp Try.prog _ _ a w_1 → _›) _ _ ?_
    clear hgs hwS
    try clear Cn; try clear An; try clear Bn; try clear Ax; try clear Bx; try clear A1; try clear B1; try clear HC17; try clear v0; try clear v1; try clear v2; try clear v3; try clear v4; try clear v5; try clear v6; try clear v7; try clear v8; try clear v9; try clear v10; try clear v11; try clear v12; try clear v13; try clear v14; try clear v15; try clear v16; try clear zc0; try clear zc1; try clear zc2; try clear zc3; try clear zc4; try clear zc5; try clear zc6; try clear zc7; try clear zc8; try clear zf0; try clear zf1; try clear zf2; try clear zf3; try clear zf4; try clear zf5; try clear zf6; try clear zf7; try clear zf8; try clear hx3; try clear hx4
    have hneb : (encE h.typ B != 0) = true := by simpa using hne
    generalize encE h.typ B = E at *
    obtain ⟨⟨s0, s1, s2, s3, s4, s5, s6, s7⟩, s8⟩ := D.s
    simp only [HV.zero] at s0 s1 s2 s3 s4 s5 s6 s7
    have TS : Hid (Touch (fun _ => False) w wS) := T1.out.trans D.t
    clear D hne
    go_wp2_with fail
    refine Calls.mono (lives6 _) ?_
    rintro e wv ⟨rfl, tv⟩
    go_wp2
    go_ret
    exact ⟨rfl, TS.out.trans tv⟩
end Go.Proofs.Ytfdpmlogieaiaaa
