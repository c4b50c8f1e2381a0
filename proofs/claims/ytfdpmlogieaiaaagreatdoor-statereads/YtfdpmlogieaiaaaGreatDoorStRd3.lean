/- Contracts: the reader's mask, metric, nought, head; headOf. -/
import Derived.Test.YtfdpmlogieaiaaaGreatDoorCut
import Derived.Test.YtfdpmlogieaiaaaGreatDoorStRd
import Derived.Test.YtfdpmlogieaiaaaGreatDoorStSeal
import Derived.Deep.RegionHeld3
namespace Go.Proofs.YtfdpmlogieaiaaaGreatDoor
open Go.RowKit
set_option linter.unusedVariables false
set_option maxRecDepth 100000

theorem rmask_ok (N b : Nat) (rs : List Int) (q : Option Nat) (w : World) (h : Rdr N w b rs q) (hm : pbok (numAt rs q 4) = true) :
    Calls Tryz.prog 146 #[.agg #[.pointer (some ⟨b, 0, none⟩)]] w fun e w' => e = .returned (.int .u32 (numAt rs q 4)) ∧ Rdr N w' b rs (nextAt rs q 4) ∧ Touch (fun k => k = b) w w' := by
  have hb := numAt_bound h.byte q 4
  have HN := fun w (h : Rdr N w b rs q) => rnum4 N b rs q w h
  generalize numAt rs q 4 = x at hm hb HN ⊢
  go_enter Tryz.func146, Tryz.ntmps146
  go_wp2_with fail
  refine Calls.mono (HN _ (h.keep ((Touch.refl _ _).alloc _))) ?_
  rintro e w1 ⟨rfl, h1, t1⟩
  have T1 : Hid (Touch (fun k => k = b) w w1) := ((Touch.refl _ w).alloc _).trans t1
  have H1 : Hid (Rdr N w1 b rs (nextAt rs q 4)) := h1
  clear t1 h1 HN h
  go_wp2_with fail
  refine Calls.mono (isMask_any x _ hb.1 hb.2) ?_
  rintro e w2 ⟨rfl, rfl⟩
  go_wp2_with fail
  refine Calls.mono (need_t _ 28 _ (by first | rfl | exact hm)) ?_
  rintro e w2 ⟨rfl, rfl⟩
  go_wp2
  go_ret
  exact ⟨rfl, H1.out, T1.out⟩
theorem rmask_no (N b : Nat) (rs : List Int) (q : Option Nat) (w : World) (h : Rdr N w b rs q) (hm : pbok (numAt rs q 4) = false) :
    Calls Tryz.prog 146 #[.agg #[.pointer (some ⟨b, 0, none⟩)]] w fun e w' => e = .panicked (flawC 28) ∧ Touch (fun k => k = b) w w' := by
  have hb := numAt_bound h.byte q 4
  have HN := fun w (h : Rdr N w b rs q) => rnum4 N b rs q w h
  generalize numAt rs q 4 = x at hm hb HN ⊢
  go_enter Tryz.func146, Tryz.ntmps146
  go_wp2_with fail
  refine Calls.mono (HN _ (h.keep ((Touch.refl _ _).alloc _))) ?_
  rintro e w1 ⟨rfl, h1, t1⟩
  have T1 : Hid (Touch (fun k => k = b) w w1) := ((Touch.refl _ w).alloc _).trans t1
  clear t1 h1 HN h
  go_wp2_with fail
  refine Calls.mono (isMask_any x _ hb.1 hb.2) ?_
  rintro e w2 ⟨rfl, rfl⟩
  go_wp2_with fail
  refine Calls.mono (need_f _ 28 _ (by first | rfl | exact hm)) ?_
  rintro e w2 ⟨rfl, rfl⟩
  exact ⟨rfl, rfl, T1.out⟩
theorem rmetric_any (N b : Nat) (rs : List Int) (q : Option Nat) (w : World) (h : Rdr N w b rs q) :
    Calls Tryz.prog 147 #[.agg #[.pointer (some ⟨b, 0, none⟩)]] w fun e w' => e = .returned (.int .u32 (numAt rs q 3)) ∧ Rdr N w' b rs (nextAt rs q 3) ∧ Touch (fun k => k = b) w w' := by
  have HN := fun w (h : Rdr N w b rs q) => rnum3 N b rs q w h
  generalize numAt rs q 3 = x at HN ⊢
  go_enter Tryz.func147, Tryz.ntmps147
  go_wp2_with fail
  refine Calls.mono (HN _ (h.keep ((Touch.refl _ _).alloc _))) ?_
  rintro e w1 ⟨rfl, h1, t1⟩
  have T1 : Hid (Touch (fun k => k = b) w w1) := ((Touch.refl _ w).alloc _).trans t1
  have H1 : Hid (Rdr N w1 b rs (nextAt rs q 3)) := h1
  clear t1 h1 HN h
  go_wp2
  go_ret
  exact ⟨rfl, H1.out, T1.out⟩
/-- A number of n bytes, n given as the program gives it. -/
theorem rnum_i (N b : Nat) (n : Int) (hn : n = 1 ∨ n = 2 ∨ n = 3 ∨ n = 4) (rs : List Int) (q : Option Nat) (w : World) (h : Rdr N w b rs q) :
    Calls Tryz.prog 140 #[.pointer (some ⟨b, 0, none⟩), .int .i64 n] w fun e w' => e = .returned (.int .u32 (numAt rs q n.toNat)) ∧ Rdr N w' b rs (nextAt rs q n.toNat) ∧ Touch (fun k => k = b) w w' := by
  rcases hn with rfl | rfl | rfl | rfl
  · exact rnum1 N b rs q w h
  · exact rnum2 N b rs q w h
  · exact rnum3 N b rs q w h
  · exact rnum4 N b rs q w h
theorem nought_ok (N b : Nat) (n : Int) (hn : n = 1 ∨ n = 2 ∨ n = 3 ∨ n = 4) (rs : List Int) (q : Option Nat) (w : World) (h : Rdr N w b rs q) (hz : numAt rs q n.toNat = 0) :
    Calls Tryz.prog 153 #[.agg #[.pointer (some ⟨b, 0, none⟩)], .int .i64 n] w fun e w' => e = .returned (.tuple #[]) ∧ Rdr N w' b rs (nextAt rs q n.toNat) ∧ Touch (fun k => k = b) w w' := by
  have HN := fun w (h : Rdr N w b rs q) => rnum_i N b n hn rs q w h
  rw [hz] at HN
  go_enter Tryz.func153, Tryz.ntmps153
  go_wp2_with fail
  refine Calls.mono (HN _ (h.keep ((Touch.refl _ _).alloc _))) ?_
  rintro e w1 ⟨rfl, h1, t1⟩
  have T1 : Hid (Touch (fun k => k = b) w w1) := ((Touch.refl _ w).alloc _).trans t1
  have H1 : Hid (Rdr N w1 b rs (nextAt rs q n.toNat)) := h1
  clear t1 h1 HN h
  go_wp2_with fail
  refine Calls.mono (need_t _ 28 _ rfl) ?_
  rintro e w2 ⟨rfl, rfl⟩
  go_wp2
  go_end0
  exact ⟨rfl, H1.out, T1.out⟩
theorem nought_no (N b : Nat) (n : Int) (hn : n = 1 ∨ n = 2 ∨ n = 3 ∨ n = 4) (rs : List Int) (q : Option Nat) (w : World) (h : Rdr N w b rs q) (hz : ¬ numAt rs q n.toNat = 0) :
    Calls Tryz.prog 153 #[.agg #[.pointer (some ⟨b, 0, none⟩)], .int .i64 n] w fun e w' => e = .panicked (flawC 28) ∧ Touch (fun k => k = b) w w' := by
  have HN := fun w (h : Rdr N w b rs q) => rnum_i N b n hn rs q w h
  generalize numAt rs q n.toNat = x at HN hz
  have hzb : (x == 0) = false := by simpa using hz
  go_enter Tryz.func153, Tryz.ntmps153
  go_wp2_with fail
  refine Calls.mono (HN _ (h.keep ((Touch.refl _ _).alloc _))) ?_
  rintro e w1 ⟨rfl, h1, t1⟩
  have T1 : Hid (Touch (fun k => k = b) w w1) := ((Touch.refl _ w).alloc _).trans t1
  clear t1 h1 HN h
  go_wp2_with fail
  refine Calls.mono (need_f _ 28 _ (by first | rfl | exact hzb)) ?_
  rintro e w2 ⟨rfl, rfl⟩
  exact ⟨rfl, rfl, T1.out⟩
end Go.Proofs.YtfdpmlogieaiaaaGreatDoor

namespace Go.Proofs.YtfdpmlogieaiaaaGreatDoor
open Go.RowKit
set_option linter.unusedVariables false
set_option maxRecDepth 100000

def R8 (w : World) (g : Nat) (u0 u1 u2 u3 u4 u5 u6 u7 : Value) : Prop := w.cell? ⟨g, 0, none⟩ = some u0 ∧ w.frozen? ⟨g, 0, none⟩ = false ∧ w.cell? ⟨g, 1, none⟩ = some u1 ∧ w.frozen? ⟨g, 1, none⟩ = false ∧ w.cell? ⟨g, 2, none⟩ = some u2 ∧ w.frozen? ⟨g, 2, none⟩ = false ∧ w.cell? ⟨g, 3, none⟩ = some u3 ∧ w.frozen? ⟨g, 3, none⟩ = false ∧ w.cell? ⟨g, 4, none⟩ = some u4 ∧ w.frozen? ⟨g, 4, none⟩ = false ∧ w.cell? ⟨g, 5, none⟩ = some u5 ∧ w.frozen? ⟨g, 5, none⟩ = false ∧ w.cell? ⟨g, 6, none⟩ = some u6 ∧ w.frozen? ⟨g, 6, none⟩ = false ∧ w.cell? ⟨g, 7, none⟩ = some u7 ∧ w.frozen? ⟨g, 7, none⟩ = false
theorem R8.touch {F : Nat → Prop} {w w' : World} {g : Nat} {u0 u1 u2 u3 u4 u5 u6 u7 : Value} (h : R8 w g u0 u1 u2 u3 u4 u5 u6 u7) (t : Touch F w w') (hF : ¬ F g) : R8 w' g u0 u1 u2 u3 u4 u5 u6 u7 := by
  have hl : g < w.heap.size := lt_of_cell h.1
  have c : ∀ i v, w.cell? ⟨g, i, none⟩ = some v → w'.cell? ⟨g, i, none⟩ = some v := fun i v e => (t.cell (p := ⟨g, i, none⟩) hl hF).trans e
  have f : ∀ i, w.frozen? ⟨g, i, none⟩ = false → w'.frozen? ⟨g, i, none⟩ = false := fun i e => (t.frozen (p := ⟨g, i, none⟩) hl hF).trans e
  obtain ⟨zc0, zf0, zc1, zf1, zc2, zf2, zc3, zf3, zc4, zf4, zc5, zf5, zc6, zf6, zc7, zf7⟩ := h
  exact ⟨c 0 _ zc0, f 0 zf0, c 1 _ zc1, f 1 zf1, c 2 _ zc2, f 2 zf2, c 3 _ zc3, f 3 zf3, c 4 _ zc4, f 4 zf4, c 5 _ zc5, f 5 zf5, c 6 _ zc6, f 6 zf6, c 7 _ zc7, f 7 zf7⟩
theorem next_all (rs : List Int) : ∀ (ns : List Nat) (p : Nat), ns.foldl (nextAt rs) (some p) = if p + ns.sum ≤ rs.length then some (p + ns.sum) else (if ns = [] then some p else none)
  | [], p => by simp
  | n :: r, p => by
    have hn : ∀ m : List Nat, m.foldl (nextAt rs) none = none := fun m => by induction m with | nil => rfl | cons a r ih => simpa [nextAt] using ih
    have hs : (n :: r).sum = n + r.sum := List.sum_cons
    generalize (n :: r).sum = S at hs ⊢
    rw [List.foldl_cons]
    by_cases h : p + n ≤ rs.length
    · rw [show nextAt rs (some p) n = some (p + n) by simp [nextAt, h], next_all rs r (p + n)]
      by_cases h2 : p + n + r.sum ≤ rs.length
      · have h3 : p + S ≤ rs.length := by omega
        rw [if_pos h2, if_pos h3]; congr 1; omega
      · have h3 : ¬ p + S ≤ rs.length := by omega
        have hr : r ≠ [] := fun e => by subst e; simp at h2; omega
        rw [if_neg h2, if_neg h3, if_neg hr, if_neg (by simp)]
    · have h3 : ¬ p + S ≤ rs.length := by omega
      rw [show nextAt rs (some p) n = none by simp [nextAt, h], hn, if_neg h3, if_neg (by simp)]
/-- A head out of bytes. -/
def rdHead (rs : List Int) : HV := ⟨numAt rs (some 0) 2, numAt rs (nextAt rs (some 0) 2) 1, numAt rs (nextAt rs (nextAt rs (some 0) 2) 1) 1, numAt rs (nextAt rs (nextAt rs (nextAt rs (some 0) 2) 1) 1) 4, numAt rs (nextAt rs (nextAt rs (nextAt rs (nextAt rs (some 0) 2) 1) 1) 4) 4, IntKind.i32.wrap (numAt rs (nextAt rs (nextAt rs (nextAt rs (nextAt rs (nextAt rs (some 0) 2) 1) 1) 4) 4) 4), numAt rs (nextAt rs (nextAt rs (nextAt rs (nextAt rs (nextAt rs (nextAt rs (some 0) 2) 1) 1) 4) 4) 4) 2, numAt rs (nextAt rs (nextAt rs (nextAt rs (nextAt rs (nextAt rs (nextAt rs (nextAt rs (some 0) 2) 1) 1) 4) 4) 4) 2) 2⟩
theorem rd_last (rs : List Int) : (nextAt rs (nextAt rs (nextAt rs (nextAt rs (nextAt rs (nextAt rs (nextAt rs (nextAt rs (some 0) 2) 1) 1) 4) 4) 4) 2) 2) = if 20 ≤ rs.length then some 20 else none := next_all rs [2, 1, 1, 4, 4, 4, 2, 2] 0

set_option maxHeartbeats 2000000 in
theorem rhead_any (N b : Nat) (rs : List Int) (w : World) (h : Rdr N w b rs (some 0)) (hN : N ≤ w.heap.size) :
    Calls Tryz.prog 120 #[.agg #[.pointer (some ⟨b, 0, none⟩)]] w fun e w' => e = .returned (rdHead rs).v ∧ Rdr N w' b rs (if 20 ≤ rs.length then some 20 else none) ∧ Touch (fun k => k = b) w w' := by
  have hb2 : ∀ q, IntKind.u16.wrap (numAt rs q 2) = numAt rs q 2 := fun q => by have := numAt_bound h.byte q 2; simp [IntKind.wrap, IntKind.bits, IntKind.signed]; omega
  have hb1 : ∀ q, IntKind.u8.wrap (numAt rs q 1) = numAt rs q 1 := fun q => by have := numAt_bound h.byte q 1; simp [IntKind.wrap, IntKind.bits, IntKind.signed]; omega
  have hlow := h.low
  rw [← rd_last rs]
  go_enter Tryz.func120, Tryz.ntmps120
  go_upto_region 1 with fail
  have T1 : Hid (Touch (fun k => k = b) w ((w.alloc (.cells #[.pointer (some ⟨b, 0, none⟩)] 175)).alloc (.cells #[.int .u16 0, .int .u8 0, .int .u8 0, .int .u32 0, .int .u32 0, .int .i32 0, .int .u16 0, .int .u16 0] 25))) := ((Touch.refl _ w).alloc _).alloc _
  have h1 : Rdr N ((w.alloc (.cells #[.pointer (some ⟨b, 0, none⟩)] 175)).alloc (.cells #[.int .u16 0, .int .u8 0, .int .u8 0, .int .u32 0, .int .u32 0, .int .i32 0, .int .u16 0, .int .u16 0] 25)).drew b rs (some 0) := h.keep ((((Touch.refl _ w).alloc _).alloc _).drew)
  have y0 : ((w.alloc (.cells #[.pointer (some ⟨b, 0, none⟩)] 175)).alloc (.cells #[.int .u16 0, .int .u8 0, .int .u8 0, .int .u32 0, .int .u32 0, .int .i32 0, .int .u16 0, .int .u16 0] 25)).drew.cell? ⟨w.heap.size, 0, none⟩ = some (.pointer (some ⟨b, 0, none⟩)) := by simp [go_sem]
  have HR0 : Hid (R8 ((w.alloc (.cells #[.pointer (some ⟨b, 0, none⟩)] 175)).alloc (.cells #[.int .u16 0, .int .u8 0, .int .u8 0, .int .u32 0, .int .u32 0, .int .i32 0, .int .u16 0, .int .u16 0] 25)).drew (w.heap.size + 1) (.int .u16 0) (.int .u8 0) (.int .u8 0) (.int .u32 0) (.int .u32 0) (.int .i32 0) (.int .u16 0) (.int .u16 0)) := by show R8 _ _ _ _ _ _ _ _ _ _; unfold R8; simp [go_sem]
  have hn1 : Hid (¬ w.heap.size = b) := by show ¬ _; omega
  have hn2 : Hid (¬ w.heap.size + 1 = b) := by show ¬ _; omega
  have hne : ¬ w.heap.size = w.heap.size + 1 := by omega
  have hne' : ¬ w.heap.size + 1 = w.heap.size := by omega
  have HS : Hid (w.heap.size < ((w.alloc (.cells #[.pointer (some ⟨b, 0, none⟩)] 175)).alloc (.cells #[.int .u16 0, .int .u8 0, .int .u8 0, .int .u32 0, .int .u32 0, .int .i32 0, .int .u16 0, .int .u16 0] 25)).heap.size) := by show _ < _; simp; omega
  have HN : Hid (N ≤ w.heap.size) := hN
  generalize hg2 : w.heap.size + 1 = g2 at *
  generalize (w.alloc (.cells #[.pointer (some ⟨b, 0, none⟩)] 175)).alloc (.cells #[.int .u16 0, .int .u8 0, .int .u8 0, .int .u32 0, .int .u32 0, .int .i32 0, .int .u16 0, .int .u16 0] 25) = w1 at *
  clear h hN hlow
  generalize hg1 : w.heap.size = g1 at *
  have HG1 : Hid (w.heap.size = g1) := hg1
  have HG2 : Hid (g1 + 1 = g2) := hg2
  clear hg1 hg2
  have hl1 : Hid (g1 < w1.heap.size) := HS
  have HT0 : Hid (Touch (fun k => k = b) w1 w1.drew) := (Touch.refl _ _).drew
  obtain ⟨zc0, zf0, zc1, zf1, zc2, zf2, zc3, zf3, zc4, zf4, zc5, zf5, zc6, zf6, zc7, zf7⟩ := HR0.out
  go_region_held3 (fun w' => w'.cell? ⟨g1, 0, none⟩ = some (.pointer (some ⟨b, 0, none⟩))) (go_keep) (first
    | (go_at_call 140; refine Calls.mono (rnum_i N b _ (by omega) rs _ _ (by assumption)) ?_; rintro e wx ⟨rfl, hx, tx⟩; have y0 := (tx.cell (p := ⟨g1, 0, none⟩) (Nat.lt_of_lt_of_le hl1.out (Touch.size (Hid.out (by assumption : Hid (Touch (fun k => k = b) w1 _))))) hn1.out).trans (by assumption : World.cell? _ ⟨g1, 0, none⟩ = some (.pointer (some ⟨b, 0, none⟩))); have HRX : Hid (R8 wx g2 (.int .u16 0) (.int .u8 0) (.int .u8 0) (.int .u32 0) (.int .u32 0) (.int .i32 0) (.int .u16 0) (.int .u16 0)) := (Hid.out (by assumption : Hid (R8 _ g2 (.int .u16 0) (.int .u8 0) (.int .u8 0) (.int .u32 0) (.int .u32 0) (.int .i32 0) (.int .u16 0) (.int .u16 0)))).touch tx hn2.out; clear zc0 zf0 zc1 zf1 zc2 zf2 zc3 zf3 zc4 zf4 zc5 zf5 zc6 zf6 zc7 zf7; obtain ⟨zc0, zf0, zc1, zf1, zc2, zf2, zc3, zf3, zc4, zf4, zc5, zf5, zc6, zf6, zc7, zf7⟩ := HRX.out; have HTX : Hid (Touch (fun k => k = b) w1 wx) := Touch.trans (Hid.out (by assumption)) tx; clear tx))
  have HX : Hid (Rdr N wx b rs ((nextAt rs (nextAt rs (nextAt rs (nextAt rs (nextAt rs (nextAt rs (nextAt rs (nextAt rs (some 0) 2) 1) 1) 4) 4) 4) 2) 2))) := hx
  obtain ⟨wz, hwz⟩ : ∃ wz, wz = ((((((((wx.setCell ⟨g2, 0, none⟩ (.int .u16 (numAt rs (some 0) 2))).setCell ⟨g2, 1, none⟩ (.int .u8 (numAt rs (nextAt rs (some 0) 2) 1))).setCell ⟨g2, 2, none⟩ (.int .u8 (numAt rs (nextAt rs (nextAt rs (some 0) 2) 1) 1))).setCell ⟨g2, 3, none⟩ (.int .u32 (numAt rs (nextAt rs (nextAt rs (nextAt rs (some 0) 2) 1) 1) 4))).setCell ⟨g2, 4, none⟩ (.int .u32 (numAt rs (nextAt rs (nextAt rs (nextAt rs (nextAt rs (some 0) 2) 1) 1) 4) 4))).setCell ⟨g2, 5, none⟩ (.int .i32 (IntKind.i32.wrap (numAt rs (nextAt rs (nextAt rs (nextAt rs (nextAt rs (nextAt rs (some 0) 2) 1) 1) 4) 4) 4)))).setCell ⟨g2, 6, none⟩ (.int .u16 (numAt rs (nextAt rs (nextAt rs (nextAt rs (nextAt rs (nextAt rs (nextAt rs (some 0) 2) 1) 1) 4) 4) 4) 2))).setCell ⟨g2, 7, none⟩ (.int .u16 (numAt rs (nextAt rs (nextAt rs (nextAt rs (nextAt rs (nextAt rs (nextAt rs (nextAt rs (some 0) 2) 1) 1) 4) 4) 4) 2) 2))) := ⟨_, rfl⟩
  have zd0 : wz.cell? ⟨g2, 0, none⟩ = some (.int .u16 (numAt rs (some 0) 2)) := by rw [hwz]; simp [zc0, go_sem]
  have zd1 : wz.cell? ⟨g2, 1, none⟩ = some (.int .u8 (numAt rs (nextAt rs (some 0) 2) 1)) := by rw [hwz]; simp [zc1, go_sem]
  have zd2 : wz.cell? ⟨g2, 2, none⟩ = some (.int .u8 (numAt rs (nextAt rs (nextAt rs (some 0) 2) 1) 1)) := by rw [hwz]; simp [zc2, go_sem]
  have zd3 : wz.cell? ⟨g2, 3, none⟩ = some (.int .u32 (numAt rs (nextAt rs (nextAt rs (nextAt rs (some 0) 2) 1) 1) 4)) := by rw [hwz]; simp [zc3, go_sem]
  have zd4 : wz.cell? ⟨g2, 4, none⟩ = some (.int .u32 (numAt rs (nextAt rs (nextAt rs (nextAt rs (nextAt rs (some 0) 2) 1) 1) 4) 4)) := by rw [hwz]; simp [zc4, go_sem]
  have zd5 : wz.cell? ⟨g2, 5, none⟩ = some (.int .i32 (IntKind.i32.wrap (numAt rs (nextAt rs (nextAt rs (nextAt rs (nextAt rs (nextAt rs (some 0) 2) 1) 1) 4) 4) 4))) := by rw [hwz]; simp [zc5, go_sem]
  have zd6 : wz.cell? ⟨g2, 6, none⟩ = some (.int .u16 (numAt rs (nextAt rs (nextAt rs (nextAt rs (nextAt rs (nextAt rs (nextAt rs (some 0) 2) 1) 1) 4) 4) 4) 2)) := by rw [hwz]; simp [zc6, go_sem]
  have zd7 : wz.cell? ⟨g2, 7, none⟩ = some (.int .u16 (numAt rs (nextAt rs (nextAt rs (nextAt rs (nextAt rs (nextAt rs (nextAt rs (nextAt rs (some 0) 2) 1) 1) 4) 4) 4) 2) 2)) := by rw [hwz]; simp [zc7, go_sem]
  have HUz : Hid (Touch (fun k => k = g2) wx wz) := by show Touch _ _ _; rw [hwz]; refine Touch.setCell (F := fun k => k = g2) (p := ⟨g2, 7, none⟩) ?_ (Or.inl rfl) _; refine Touch.setCell (F := fun k => k = g2) (p := ⟨g2, 6, none⟩) ?_ (Or.inl rfl) _; refine Touch.setCell (F := fun k => k = g2) (p := ⟨g2, 5, none⟩) ?_ (Or.inl rfl) _; refine Touch.setCell (F := fun k => k = g2) (p := ⟨g2, 4, none⟩) ?_ (Or.inl rfl) _; refine Touch.setCell (F := fun k => k = g2) (p := ⟨g2, 3, none⟩) ?_ (Or.inl rfl) _; refine Touch.setCell (F := fun k => k = g2) (p := ⟨g2, 2, none⟩) ?_ (Or.inl rfl) _; refine Touch.setCell (F := fun k => k = g2) (p := ⟨g2, 1, none⟩) ?_ (Or.inl rfl) _; refine Touch.setCell (F := fun k => k = g2) (p := ⟨g2, 0, none⟩) ?_ (Or.inl rfl) _; exact Touch.refl _ _
  rw [← hwz]
  clear hwz zc0 zf0 zc1 zf1 zc2 zf2 zc3 zf3 zc4 zf4 zc5 zf5 zc6 zf6 zc7 zf7 hx
  go_wp2_with fail
  refine bodyPost_ret (v := .agg #[.int .u16 (numAt rs (some 0) 2), .int .u8 (numAt rs (nextAt rs (some 0) 2) 1), .int .u8 (numAt rs (nextAt rs (nextAt rs (some 0) 2) 1) 1), .int .u32 (numAt rs (nextAt rs (nextAt rs (nextAt rs (some 0) 2) 1) 1) 4), .int .u32 (numAt rs (nextAt rs (nextAt rs (nextAt rs (nextAt rs (some 0) 2) 1) 1) 4) 4), .int .i32 (IntKind.i32.wrap (numAt rs (nextAt rs (nextAt rs (nextAt rs (nextAt rs (nextAt rs (some 0) 2) 1) 1) 4) 4) 4)), .int .u16 (numAt rs (nextAt rs (nextAt rs (nextAt rs (nextAt rs (nextAt rs (nextAt rs (some 0) 2) 1) 1) 4) 4) 4) 2), .int .u16 (numAt rs (nextAt rs (nextAt rs (nextAt rs (nextAt rs (nextAt rs (nextAt rs (nextAt rs (some 0) 2) 1) 1) 4) 4) 4) 2) 2)]) (by simp [results, Tryz.results120, go_sem, zd0, zd1, zd2, zd3, zd4, zd5, zd6, zd7]) rfl ?_
  refine ⟨rfl, HX.out.touch HUz.out (fun k hk e => by have := HG2.out; have := HN.out; omega), ?_⟩
  exact (T1.out.trans HTX.out).trans' HUz.out (fun i hi e => by have := HG1.out; have := HG2.out; omega)
end Go.Proofs.YtfdpmlogieaiaaaGreatDoor
