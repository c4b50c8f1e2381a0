/- Pure: what was sealed is right, at whatever age; sealing it again changes nothing. -/
import Derived.Test.YtjffcflhbnmjmaaGreatStRow0
import Derived.Test.YtjffcflhbnmjmaaGreatStReadAny
import Derived.Test.YtjffcflhbnmjmaaGreatStEncAny
import Derived.Test.YtjffcflhbnmjmaaGreatStRd2
import Derived.Test.YtjffcflhbnmjmaaGreatParts
namespace Go.Proofs.YtjffcflhbnmjmaaGreat
open Go.RowKit
set_option linter.unusedVariables false
set_option maxRecDepth 100000

theorem sealS_bytes {x y : Int} (hx : 1 ≤ x ∧ x ≤ 255) (hy : 1 ≤ y ∧ y ≤ 255) : numBytes 2 (256 * x + y) = [x, y] := by
  rw [numBytes2]
  congr 1
  · omega
  · congr 1
    omega
theorem head_laid (h : HV) (l : List Int) (s : Int) (x y : Int) (hs : numBytes 2 s = [x, y]) : (headB { h with sum := s } ++ l).drop 2 = laid ((headB h ++ l).drop 2) 14 x y := by
  simp only [headB, hs, numBytes2, numBytes4, List.cons_append, List.nil_append, List.drop, laid, List.set]
theorem head_age (h : HV) (l : List Int) (a : Int) : (headB { h with age := a } ++ l).drop 2 = (headB h ++ l).drop 2 := by
  simp only [headB, numBytes2, numBytes4, List.cons_append, List.nil_append, List.drop]
theorem length_head2 (h : HV) (l : List Int) : ((headB h ++ l).drop 2).length = 18 + l.length := by
  rw [List.length_drop, List.length_append, length_headB]; omega
theorem sealS_bound (h : HV) (l : List Int) : 257 ≤ sealS h l ∧ sealS h l ≤ 65535 := by
  have h1 := flx_bound ((headB { h with len := 20 + (l.length : Int) } ++ l).drop 2) 14
  have h2 := fly_bound ((headB { h with len := 20 + (l.length : Int) } ++ l).drop 2) 14
  unfold sealS
  omega
theorem sealS_num (h : HV) (l : List Int) : numBytes 2 (sealS h l) = [flx ((headB { h with len := 20 + (l.length : Int) } ++ l).drop 2) 14, fly ((headB { h with len := 20 + (l.length : Int) } ++ l).drop 2) 14] := sealS_bytes (flx_bound _ _) (fly_bound _ _)
/-- What was sealed is whole. -/
theorem seal_whole (h : HV) (l : List Int) : whole ((headB (sealH h l) ++ l).drop 2) = true := by
  have e : sealH h l = { { h with len := 20 + (l.length : Int) } with sum := sealS h l } := rfl
  rw [e, head_laid _ l _ _ _ (sealS_num h l)]
  exact whole_laid _ 14 (by rw [length_head2]; omega)
theorem seal_all {h : HV} (ok : h.All) {l : List Int} (hl : l.length ≤ 65515) : (sealH h l).All := by
  obtain ⟨a, o, t, i, v, s, m, n⟩ := ok
  have := sealS_bound h l
  exact ⟨a, o, t, i, v, s, ⟨by show 0 ≤ sealS h l; omega, by show sealS h l < 65536; omega⟩, ⟨by show 0 ≤ 20 + (l.length : Int); omega, by show 20 + (l.length : Int) < 65536; omega⟩⟩
/-- What Check says of it at an age. -/
theorem chk_age {h : HV} {B : BV} (ok : B.Ok) (he : EncOk h.typ B) (a : Int) : chkE { sealH h (layB h.typ B) with age := a } (layB h.typ B) = if h.seq = -2147483648 ∨ ¬ bits BinOp.andNot .u16 a 32768 ≤ 3600 then 24 else 0 := by
  have hd : decB h.typ (layB h.typ B) = some B := decB_layB ok ((mayB_iff _ _).1 he.may)
  have hb := sealS_bound h (layB h.typ B)
  have hw := seal_whole h (layB h.typ B)
  generalize layB h.typ B = l at *
  unfold chkE
  rw [head_age, hw]
  have e1 : (sealH h l).len = 20 + (l.length : Int) := rfl
  have e2 : (sealH h l).sum = sealS h l := rfl
  have e3 : (sealH h l).typ = h.typ := rfl
  have e4 : (sealH h l).seq = h.seq := rfl
  dsimp only
  rw [e1, e2, e3, e4, hd]
  rw [if_neg (by omega), if_neg (by rintro (q | q); omega; cases q), if_neg (by rw [he.known]; decide)]
  split
  · rfl
  · rw [if_neg (by simp)]
end Go.Proofs.YtjffcflhbnmjmaaGreat

namespace Go.Proofs.YtjffcflhbnmjmaaGreat
open Go.RowKit
set_option linter.unusedVariables false
set_option maxRecDepth 100000

theorem cbytes_any (v : Value) (l : List Int) (w : World) (hv : ArgAt w v l) (hl : l.length ≤ 1000000) : Calls Tryz.prog 40 #[v] w fun e w' => ∃ u, e = .returned u ∧ Buf w w' u l := by
  have HV' : Hid (ArgAt w v l) := hv
  clear hv
  go_enter Tryz.func40, Tryz.ntmps40
  go_wp2_with (at_builtin; refine app_arg rfl (.tmp 4) (.tmp 5) rfl w (.slice none 0 0) [] rfl (Buf.nil (Touch.refl _ _)) v l rfl HV'.out (by simp; omega) ?_)
  intro v' w' b
  obtain ⟨xa, xc, rfl⟩ := b.form
  have B : Hid (Buf w w' (.slice xa ([] ++ l).length xc) ([] ++ l)) := b
  clear b
  go_wp2
  go_ret
  exact ⟨_, rfl, by simpa using B.out⟩
set_option maxHeartbeats 1000000 in
theorem cstate_any (h : HV) (v : Value) (rs : List Int) (w : World) (hv : ArgAt w v rs) (hl : rs.length ≤ 1000000) : Calls Tryz.prog 19 #[h.sv v] w fun e w' => ∃ u, e = .returned (h.sv u) ∧ Buf w w' u rs := by
  obtain ⟨a, c, rfl, hm⟩ := hv.form
  have HC := fun w h => cbytes_any (.slice a rs.length c) rs w h hl
  have HV' : Hid (ArgAt w (.slice a rs.length c) rs) := hv
  clear hv
  show Calls Tryz.prog 19 #[.agg #[.int .u16 h.age, .int .u8 h.opts, .int .u8 h.typ, .int .u32 h.id, .int .u32 h.adv, .int .i32 h.seq, .int .u16 h.sum, .int .u16 h.len, .slice a rs.length c]] w _
  go_enter Tryz.func19, Tryz.ntmps19
  go_wp2_with fail
  refine Calls.mono (HC _ (HV'.out.keepN (((Touch.refl _ _).alloc _).alloc _))) ?_
  rintro e w1 ⟨u, rfl, b1⟩
  obtain ⟨xa, xc, rfl⟩ := b1.form
  have O1 : Out w1 w.heap.size h (.slice a rs.length c) := ((Out.new w h (.slice a rs.length c) 52).keep ((Touch.refl _ _).alloc _)).keep b1.t
  have O2 : Hid (Out (w1.setCell ⟨w.heap.size, 8, none⟩ (.slice xa rs.length xc)) w.heap.size h (.slice xa rs.length xc)) := O1.set8 _
  have R1 : Room w1 (w.heap.size + 1) 9 := by
    have := (Room.new (w.alloc (.cells #[.int .u16 h.age, .int .u8 h.opts, .int .u8 h.typ, .int .u32 h.id, .int .u32 h.adv, .int .i32 h.seq, .int .u16 h.sum, .int .u16 h.len, .slice a rs.length c] 52)) #[.int .u16 0, .int .u8 0, .int .u8 0, .int .u32 0, .int .u32 0, .int .i32 0, .int .u16 0, .int .u16 0, .slice none 0 0] 52).keep b1.t
    simpa using this
  have U2 : Touch (fun k => k = w.heap.size) w1 (w1.setCell ⟨w.heap.size, 8, none⟩ (.slice xa rs.length xc)) := Touch.setCell (F := fun k => k = w.heap.size) (p := ⟨w.heap.size, 8, none⟩) (Touch.refl _ _) (Or.inl rfl) _
  have R2 : Hid (Room (w1.setCell ⟨w.heap.size, 8, none⟩ (.slice xa rs.length xc)) (w.heap.size + 1) 9) := R1.touch U2 (by show ¬ w.heap.size + 1 = w.heap.size; omega)
  have hgb : Hid (∀ k, (Value.slice xa rs.length xc).ownBlock = some k → w.heap.size + 1 < k) := fun k hk => by have := (b1.own.lt k hk).1; simp at this; omega
  have B2 : Hid ((w1.setCell ⟨w.heap.size, 8, none⟩ (.slice xa rs.length xc)).ownsRow w.heap.size 5 1 (.slice xa rs.length xc) rs.length (bytesOf rs)) := own_lower (own_touch b1.own U2 (fun k hk e => by have := hgb.out k hk; omega)) (by simp; omega)
  have T2 : Hid (Touch (fun _ => False) w (w1.setCell ⟨w.heap.size, 8, none⟩ (.slice xa rs.length xc))) := ((((Touch.refl _ w).alloc _).alloc _).trans b1.t).setCell (Or.inr (Nat.le_refl _)) _
  obtain ⟨⟨⟨s0, s1, s2, s3, s4, s5, s6, s7⟩, s8⟩, f6, f7, f8⟩ := O1.fits
  clear b1 O1 R1 U2 HC
  go_upto_region 2 with fail
  clear s0 s1 s2 s3 s4 s5 s6 s7 s8 f6 f7 f8
  have hne : ¬ w.heap.size = w.heap.size + 1 := by omega
  have hne' : ¬ w.heap.size + 1 = w.heap.size := by omega
  generalize w1.setCell ⟨w.heap.size, 8, none⟩ (.slice xa rs.length xc) = w2 at *
  obtain ⟨⟨⟨s0, s1, s2, s3, s4, s5, s6, s7⟩, s8⟩, -⟩ := O2.out.fits
  generalize hg : w.heap.size + 1 = g at *
  have HG : Hid (w.heap.size + 1 = g) := hg
  clear hg
  obtain ⟨zz0, zc0, zf0⟩ := R2.out 0 (by omega)
  obtain ⟨zz1, zc1, zf1⟩ := R2.out 1 (by omega)
  obtain ⟨zz2, zc2, zf2⟩ := R2.out 2 (by omega)
  obtain ⟨zz3, zc3, zf3⟩ := R2.out 3 (by omega)
  obtain ⟨zz4, zc4, zf4⟩ := R2.out 4 (by omega)
  obtain ⟨zz5, zc5, zf5⟩ := R2.out 5 (by omega)
  obtain ⟨zz6, zc6, zf6⟩ := R2.out 6 (by omega)
  obtain ⟨zz7, zc7, zf7⟩ := R2.out 7 (by omega)
  obtain ⟨zz8, zc8, zf8⟩ := R2.out 8 (by omega)
  obtain ⟨wz, hwz⟩ : ∃ wz, wz = (((((((((w2.setCell ⟨g, 0, none⟩ (.int .u16 h.age)).setCell ⟨g, 1, none⟩ (.int .u8 h.opts)).setCell ⟨g, 2, none⟩ (.int .u8 h.typ)).setCell ⟨g, 3, none⟩ (.int .u32 h.id)).setCell ⟨g, 4, none⟩ (.int .u32 h.adv)).setCell ⟨g, 5, none⟩ (.int .i32 h.seq)).setCell ⟨g, 6, none⟩ (.int .u16 h.sum)).setCell ⟨g, 7, none⟩ (.int .u16 h.len)).setCell ⟨g, 8, none⟩ (.slice xa rs.length xc)) := ⟨_, rfl⟩
  have zd0 : wz.cell? ⟨g, 0, none⟩ = some (.int .u16 h.age) := by rw [hwz]; simp [zc0, go_sem]
  have zd1 : wz.cell? ⟨g, 1, none⟩ = some (.int .u8 h.opts) := by rw [hwz]; simp [zc1, go_sem]
  have zd2 : wz.cell? ⟨g, 2, none⟩ = some (.int .u8 h.typ) := by rw [hwz]; simp [zc2, go_sem]
  have zd3 : wz.cell? ⟨g, 3, none⟩ = some (.int .u32 h.id) := by rw [hwz]; simp [zc3, go_sem]
  have zd4 : wz.cell? ⟨g, 4, none⟩ = some (.int .u32 h.adv) := by rw [hwz]; simp [zc4, go_sem]
  have zd5 : wz.cell? ⟨g, 5, none⟩ = some (.int .i32 h.seq) := by rw [hwz]; simp [zc5, go_sem]
  have zd6 : wz.cell? ⟨g, 6, none⟩ = some (.int .u16 h.sum) := by rw [hwz]; simp [zc6, go_sem]
  have zd7 : wz.cell? ⟨g, 7, none⟩ = some (.int .u16 h.len) := by rw [hwz]; simp [zc7, go_sem]
  have zd8 : wz.cell? ⟨g, 8, none⟩ = some (.slice xa rs.length xc) := by rw [hwz]; simp [zc8, go_sem]
  have HUz : Hid (Touch (fun k => k = g) w2 wz) := by show Touch _ _ _; rw [hwz]; refine Touch.setCell (F := fun k => k = g) (p := ⟨g, 8, none⟩) ?_ (Or.inl rfl) _; refine Touch.setCell (F := fun k => k = g) (p := ⟨g, 7, none⟩) ?_ (Or.inl rfl) _; refine Touch.setCell (F := fun k => k = g) (p := ⟨g, 6, none⟩) ?_ (Or.inl rfl) _; refine Touch.setCell (F := fun k => k = g) (p := ⟨g, 5, none⟩) ?_ (Or.inl rfl) _; refine Touch.setCell (F := fun k => k = g) (p := ⟨g, 4, none⟩) ?_ (Or.inl rfl) _; refine Touch.setCell (F := fun k => k = g) (p := ⟨g, 3, none⟩) ?_ (Or.inl rfl) _; refine Touch.setCell (F := fun k => k = g) (p := ⟨g, 2, none⟩) ?_ (Or.inl rfl) _; refine Touch.setCell (F := fun k => k = g) (p := ⟨g, 1, none⟩) ?_ (Or.inl rfl) _; refine Touch.setCell (F := fun k => k = g) (p := ⟨g, 0, none⟩) ?_ (Or.inl rfl) _; exact Touch.refl _ _
  have HWz : Hid (wz = (((((((((w2.setCell ⟨g, 0, none⟩ (.int .u16 h.age)).setCell ⟨g, 1, none⟩ (.int .u8 h.opts)).setCell ⟨g, 2, none⟩ (.int .u8 h.typ)).setCell ⟨g, 3, none⟩ (.int .u32 h.id)).setCell ⟨g, 4, none⟩ (.int .u32 h.adv)).setCell ⟨g, 5, none⟩ (.int .i32 h.seq)).setCell ⟨g, 6, none⟩ (.int .u16 h.sum)).setCell ⟨g, 7, none⟩ (.int .u16 h.len)).setCell ⟨g, 8, none⟩ (.slice xa rs.length xc))) := hwz
  clear hwz
  go_wp2_with fail
  rw [← HWz.out]
  clear HWz zc0 zf0 zc1 zf1 zc2 zf2 zc3 zf3 zc4 zf4 zc5 zf5 zc6 zf6 zc7 zf7 zc8 zf8
  refine bodyPost_ret (v := .agg #[.int .u16 h.age, .int .u8 h.opts, .int .u8 h.typ, .int .u32 h.id, .int .u32 h.adv, .int .i32 h.seq, .int .u16 h.sum, .int .u16 h.len, .slice xa rs.length xc]) (by simp [results, Tryz.results19, go_sem, zd0, zd1, zd2, zd3, zd4, zd5, zd6, zd7, zd8]) rfl ?_
  exact ⟨_, rfl, ⟨own_touch B2.out HUz.out (fun k hk e => by have := hgb.out k hk; omega), T2.out.trans' HUz.out (fun i hi e => by have := HG.out; omega)⟩⟩
end Go.Proofs.YtjffcflhbnmjmaaGreat

namespace Go.Proofs.YtjffcflhbnmjmaaGreat
open Go.RowKit
set_option linter.unusedVariables false
set_option maxRecDepth 100000

/-- Rows of unlike elements lie in unlike blocks. -/
theorem own_unlike {w : World} {base base' e e' k k' n n' g : Nat} {v v' : Value} {xs xs' : List Value} (h : w.ownsRow base e k v n xs) (h' : w.ownsRow base' e' k' v' n' xs') (hne : e ≠ e') (hg : v.ownBlock = some g) : v'.ownBlock ≠ some g := by
  intro hg'
  rcases h.2 with ⟨rfl, _⟩ | ⟨g1, c1, cur1, rfl, _, hh1, _⟩
  · simp [Value.ownBlock] at hg
  · rcases h'.2 with ⟨rfl, _⟩ | ⟨g2, c2, cur2, rfl, _, hh2, _⟩
    · simp [Value.ownBlock] at hg'
    · simp only [Value.ownBlock, Option.some.injEq] at hg hg'
      have e1 : g1 = g2 := by
        have a1 : some g1 = some g := by simpa [Value.ownBlock] using hg
        have a2 : some g2 = some g := by simpa [Value.ownBlock] using hg'
        rw [Option.some.inj a1, Option.some.inj a2]
      subst e1
      rw [hh1] at hh2
      simp only [Option.some.injEq, Obj.cells.injEq] at hh2
      exact hne hh2.2.1
end Go.Proofs.YtjffcflhbnmjmaaGreat
