
/- Copies of bytes and of states. -/
import Derived.Test.YtedolfggbgmklaaSpC3
import Derived.Test.YtedolfggbgmklaaDigBuf
namespace Go.Proofs.Ytedolfggbgmklaa
open Go.RowKit
set_option linter.unusedVariables false
set_option maxRecDepth 100000

theorem sclone_any (v : Value) (rs : List Int) (w : World) (h : ArgAt w v rs) (hl : rs.length ≤ 1000000) : Calls Try.prog 50 #[v] w fun e w' => ∃ xa xc, e = .returned (.slice xa rs.length xc) ∧ Buf w w' (.slice xa rs.length xc) rs := by
  rcases h with ⟨rfl, rfl⟩ | ⟨ad, c, rfl, h1, h2, h3⟩
  · exact (clone_nil w).mono fun e w' ⟨e1, e2⟩ => ⟨none, 0, e1, by subst e2; exact Buf.nil (Touch.refl _ _)⟩
  · refine (clone_some ad c rs w h3 (by omega)).mono ?_
    rintro e w' ⟨u, rfl, hown, t, _⟩
    obtain ⟨xa, xc, rfl⟩ := Buf.form ⟨hown, t⟩
    exact ⟨xa, xc, rfl, hown, t⟩
set_option maxHeartbeats 400000 in
theorem scbytes_any (v : Value) (l : List Int) (w : World) (hv : ArgAt w v l) (hl : l.length ≤ 1000000) : Calls Try.prog 41 #[v] w fun e w' => ∃ xa xc, e = .returned (.slice xa l.length xc) ∧ Buf w w' (.slice xa l.length xc) l := by
  have HV' : Hid (ArgAt w v l) := hv
  clear hv
  go_enter Try.func41, Try.ntmps41
  go_wp2_with (at_builtin; refine app_arg rfl (.tmp 4) (.tmp 5) rfl w (.slice none 0 0) [] rfl (Buf.nil (Touch.refl _ _)) v l rfl HV'.out (by simp; omega) ?_)
  intro v' w' b
  obtain ⟨xa, xc, rfl⟩ := b.form
  have B : Hid (Buf w w' (.slice xa ([] ++ l).length xc) ([] ++ l)) := b
  clear b
  go_wp2
  go_ret
  exact ⟨xa, xc, rfl, B.out⟩
set_option maxHeartbeats 2000000 in
theorem scstate_any (x : HV) (v : Value) (rs : List Int) (w : World) (hv : ArgAt w v rs) (hl : rs.length ≤ 1000000) : Calls Try.prog 23 #[.agg #[.int .u16 x.age, .int .u8 x.opts, .int .u8 x.typ, .int .u32 x.id, .int .u32 x.adv, .int .i32 x.seq, .int .u16 x.sum, .int .u16 x.len, v]] w fun e w' => ∃ xa xc, e = .returned (.agg #[.int .u16 x.age, .int .u8 x.opts, .int .u8 x.typ, .int .u32 x.id, .int .u32 x.adv, .int .i32 x.seq, .int .u16 x.sum, .int .u16 x.len, .slice xa rs.length xc]) ∧ Buf w w' (.slice xa rs.length xc) rs := by
  obtain ⟨va, vc, rfl, hm⟩ := hv.form
  have T2 : Touch (fun _ => False) w ((w.alloc (.cells #[.int .u16 x.age, .int .u8 x.opts, .int .u8 x.typ, .int .u32 x.id, .int .u32 x.adv, .int .i32 x.seq, .int .u16 x.sum, .int .u16 x.len, .slice va rs.length vc] 53)).alloc (.cells #[.int .u16 0, .int .u8 0, .int .u8 0, .int .u32 0, .int .u32 0, .int .i32 0, .int .u16 0, .int .u16 0, .slice none 0 0] 53)) := ((Touch.refl _ _).alloc _).alloc _
  have R1 : Row ((w.alloc (.cells #[.int .u16 x.age, .int .u8 x.opts, .int .u8 x.typ, .int .u32 x.id, .int .u32 x.adv, .int .i32 x.seq, .int .u16 x.sum, .int .u16 x.len, .slice va rs.length vc] 53)).alloc (.cells #[.int .u16 0, .int .u8 0, .int .u8 0, .int .u32 0, .int .u32 0, .int .i32 0, .int .u16 0, .int .u16 0, .slice none 0 0] 53)) w.heap.size 53 [.int .u16 x.age, .int .u8 x.opts, .int .u8 x.typ, .int .u32 x.id, .int .u32 x.adv, .int .i32 x.seq, .int .u16 x.sum, .int .u16 x.len, .slice va rs.length vc] := (row_new _ _ _).keep ((Touch.refl _ _).alloc _)
  have R2 : Row ((w.alloc (.cells #[.int .u16 x.age, .int .u8 x.opts, .int .u8 x.typ, .int .u32 x.id, .int .u32 x.adv, .int .i32 x.seq, .int .u16 x.sum, .int .u16 x.len, .slice va rs.length vc] 53)).alloc (.cells #[.int .u16 0, .int .u8 0, .int .u8 0, .int .u32 0, .int .u32 0, .int .i32 0, .int .u16 0, .int .u16 0, .slice none 0 0] 53)) (w.heap.size + 1) 53 [.int .u16 0, .int .u8 0, .int .u8 0, .int .u32 0, .int .u32 0, .int .i32 0, .int .u16 0, .int .u16 0, .slice none 0 0] := by
    have := row_new (w.alloc (.cells #[.int .u16 x.age, .int .u8 x.opts, .int .u8 x.typ, .int .u32 x.id, .int .u32 x.adv, .int .i32 x.seq, .int .u16 x.sum, .int .u16 x.len, .slice va rs.length vc] 53)) 53 #[.int .u16 0, .int .u8 0, .int .u8 0, .int .u32 0, .int .u32 0, .int .i32 0, .int .u16 0, .int .u16 0, .slice none 0 0]
    simpa using this
  have HC := scbytes_any (.slice va rs.length vc) rs ((w.alloc (.cells #[.int .u16 x.age, .int .u8 x.opts, .int .u8 x.typ, .int .u32 x.id, .int .u32 x.adv, .int .i32 x.seq, .int .u16 x.sum, .int .u16 x.len, .slice va rs.length vc] 53)).alloc (.cells #[.int .u16 0, .int .u8 0, .int .u8 0, .int .u32 0, .int .u32 0, .int .i32 0, .int .u16 0, .int .u16 0, .slice none 0 0] 53)) (hv.keep T2 (fun _ _ h => h)) hl
  clear hv hm
  go_enter Try.func23, Try.ntmps23
  go_wp2_with fail
  generalize ((w.alloc (.cells #[.int .u16 x.age, .int .u8 x.opts, .int .u8 x.typ, .int .u32 x.id, .int .u32 x.adv, .int .i32 x.seq, .int .u16 x.sum, .int .u16 x.len, .slice va rs.length vc] 53)).alloc (.cells #[.int .u16 0, .int .u8 0, .int .u8 0, .int .u32 0, .int .u32 0, .int .i32 0, .int .u16 0, .int .u16 0, .slice none 0 0] 53)) = w2 at *
  obtain ⟨g, hg⟩ : ∃ g, w.heap.size = g := ⟨_, rfl⟩
  rw [hg] at R1 R2 ⊢
  have HG : Hid (w.heap.size = g) := hg
  obtain ⟨g2, hg2⟩ : ∃ g2, g + 1 = g2 := ⟨_, rfl⟩
  rw [hg2] at R2 ⊢
  have HG2 : Hid (g + 1 = g2) := hg2
  clear hg hg2
  refine Calls.mono HC ?_
  rintro e w3 ⟨xa, xc, rfl, B⟩
  have R13 := (R1.keep B.t).set 8 (.slice xa rs.length xc)
  have R23 : Row (w3.setCell ⟨g, 8, none⟩ (.slice xa rs.length xc)) g2 53 [.int .u16 0, .int .u8 0, .int .u8 0, .int .u32 0, .int .u32 0, .int .i32 0, .int .u16 0, .int .u16 0, .slice none 0 0] := (R2.keep B.t).other (p := ⟨g, 8, none⟩) (by show g2 ≠ g; have := HG2.out; omega) _
  have q8 : w3.cell? ⟨g, 8, none⟩ = some (.slice va rs.length vc) := (R1.keep B.t).cell 8
  have f8 : w3.frozen? ⟨g, 8, none⟩ = false := (R1.keep B.t).frozen 8
  have hg3 := (R1.keep B.t).lt
  have TB : Hid (Touch (fun k => k = g) w3 (w3.setCell ⟨g, 8, none⟩ (.slice xa rs.length xc))) := (Touch.refl (fun k => k = g) w3).setCell (p := ⟨g, 8, none⟩) (Or.inl rfl) _
  have BH : Hid (Buf w w3 (.slice xa rs.length xc) rs ∧ ∀ k, (Value.slice xa rs.length xc).ownBlock = some k → w2.heap.size ≤ k) := ⟨B.back T2, fun k hk => (B.own.lt k hk).1⟩
  have hg2l : Hid (g < w2.heap.size ∧ g2 < w2.heap.size) := ⟨R1.lt, R2.lt⟩
  clear B R1 R2 HC T2
  go_upto_region 2 with fail
  generalize (w3.setCell ⟨g, 8, none⟩ (.slice xa rs.length xc)) = w5 at *
  clear q8 f8 hg3
  have p0 : w5.cell? ⟨g, 0, none⟩ = some (.int .u16 x.age) := R13.cell 0
  have p1 : w5.cell? ⟨g, 1, none⟩ = some (.int .u8 x.opts) := R13.cell 1
  have p2 : w5.cell? ⟨g, 2, none⟩ = some (.int .u8 x.typ) := R13.cell 2
  have p3 : w5.cell? ⟨g, 3, none⟩ = some (.int .u32 x.id) := R13.cell 3
  have p4 : w5.cell? ⟨g, 4, none⟩ = some (.int .u32 x.adv) := R13.cell 4
  have p5 : w5.cell? ⟨g, 5, none⟩ = some (.int .i32 x.seq) := R13.cell 5
  have p6 : w5.cell? ⟨g, 6, none⟩ = some (.int .u16 x.sum) := R13.cell 6
  have p7 : w5.cell? ⟨g, 7, none⟩ = some (.int .u16 x.len) := R13.cell 7
  have p8 : w5.cell? ⟨g, 8, none⟩ = some (.slice xa rs.length xc) := R13.cell 8
  have zc0 : w5.cell? ⟨g2, 0, none⟩ = some (.int .u16 0) := R23.cell 0
  have zc1 : w5.cell? ⟨g2, 1, none⟩ = some (.int .u8 0) := R23.cell 1
  have zc2 : w5.cell? ⟨g2, 2, none⟩ = some (.int .u8 0) := R23.cell 2
  have zc3 : w5.cell? ⟨g2, 3, none⟩ = some (.int .u32 0) := R23.cell 3
  have zc4 : w5.cell? ⟨g2, 4, none⟩ = some (.int .u32 0) := R23.cell 4
  have zc5 : w5.cell? ⟨g2, 5, none⟩ = some (.int .i32 0) := R23.cell 5
  have zc6 : w5.cell? ⟨g2, 6, none⟩ = some (.int .u16 0) := R23.cell 6
  have zc7 : w5.cell? ⟨g2, 7, none⟩ = some (.int .u16 0) := R23.cell 7
  have zc8 : w5.cell? ⟨g2, 8, none⟩ = some (.slice none 0 0) := R23.cell 8
  have hz1 := R13.lt
  have hz2 := R23.lt
  have zf0 : w5.frozen? ⟨g2, 0, none⟩ = false := R23.frozen 0
  have zf1 : w5.frozen? ⟨g2, 1, none⟩ = false := R23.frozen 1
  have zf2 : w5.frozen? ⟨g2, 2, none⟩ = false := R23.frozen 2
  have zf3 : w5.frozen? ⟨g2, 3, none⟩ = false := R23.frozen 3
  have zf4 : w5.frozen? ⟨g2, 4, none⟩ = false := R23.frozen 4
  have zf5 : w5.frozen? ⟨g2, 5, none⟩ = false := R23.frozen 5
  have zf6 : w5.frozen? ⟨g2, 6, none⟩ = false := R23.frozen 6
  have zf7 : w5.frozen? ⟨g2, 7, none⟩ = false := R23.frozen 7
  have zf8 : w5.frozen? ⟨g2, 8, none⟩ = false := R23.frozen 8
  clear R13 R23
  go_wp2_with fail
  obtain ⟨wz, hwz⟩ : ∃ wz, wz = (((((((((w5.setCell ⟨g2, 0, none⟩ (.int .u16 x.age)).setCell ⟨g2, 1, none⟩ (.int .u8 x.opts)).setCell ⟨g2, 2, none⟩ (.int .u8 x.typ)).setCell ⟨g2, 3, none⟩ (.int .u32 x.id)).setCell ⟨g2, 4, none⟩ (.int .u32 x.adv)).setCell ⟨g2, 5, none⟩ (.int .i32 x.seq)).setCell ⟨g2, 6, none⟩ (.int .u16 x.sum)).setCell ⟨g2, 7, none⟩ (.int .u16 x.len)).setCell ⟨g2, 8, none⟩ (.slice xa rs.length xc)) := ⟨_, rfl⟩
  have zd0 : wz.cell? ⟨g2, 0, none⟩ = some (.int .u16 x.age) := by rw [hwz]; simp [zc0, go_sem]
  have zd1 : wz.cell? ⟨g2, 1, none⟩ = some (.int .u8 x.opts) := by rw [hwz]; simp [zc1, go_sem]
  have zd2 : wz.cell? ⟨g2, 2, none⟩ = some (.int .u8 x.typ) := by rw [hwz]; simp [zc2, go_sem]
  have zd3 : wz.cell? ⟨g2, 3, none⟩ = some (.int .u32 x.id) := by rw [hwz]; simp [zc3, go_sem]
  have zd4 : wz.cell? ⟨g2, 4, none⟩ = some (.int .u32 x.adv) := by rw [hwz]; simp [zc4, go_sem]
  have zd5 : wz.cell? ⟨g2, 5, none⟩ = some (.int .i32 x.seq) := by rw [hwz]; simp [zc5, go_sem]
  have zd6 : wz.cell? ⟨g2, 6, none⟩ = some (.int .u16 x.sum) := by rw [hwz]; simp [zc6, go_sem]
  have zd7 : wz.cell? ⟨g2, 7, none⟩ = some (.int .u16 x.len) := by rw [hwz]; simp [zc7, go_sem]
  have zd8 : wz.cell? ⟨g2, 8, none⟩ = some (.slice xa rs.length xc) := by rw [hwz]; simp [zc8, go_sem]
  have HUz : Hid (Touch (fun k => k = g2) w5 wz) := by show Touch _ _ _; rw [hwz]; refine Touch.setCell (F := fun k => k = g2) (p := ⟨g2, 8, none⟩) ?_ (Or.inl rfl) _; refine Touch.setCell (F := fun k => k = g2) (p := ⟨g2, 7, none⟩) ?_ (Or.inl rfl) _; refine Touch.setCell (F := fun k => k = g2) (p := ⟨g2, 6, none⟩) ?_ (Or.inl rfl) _; refine Touch.setCell (F := fun k => k = g2) (p := ⟨g2, 5, none⟩) ?_ (Or.inl rfl) _; refine Touch.setCell (F := fun k => k = g2) (p := ⟨g2, 4, none⟩) ?_ (Or.inl rfl) _; refine Touch.setCell (F := fun k => k = g2) (p := ⟨g2, 3, none⟩) ?_ (Or.inl rfl) _; refine Touch.setCell (F := fun k => k = g2) (p := ⟨g2, 2, none⟩) ?_ (Or.inl rfl) _; refine Touch.setCell (F := fun k => k = g2) (p := ⟨g2, 1, none⟩) ?_ (Or.inl rfl) _; refine Touch.setCell (F := fun k => k = g2) (p := ⟨g2, 0, none⟩) ?_ (Or.inl rfl) _; exact Touch.refl _ _
  rw [← hwz]
  clear hwz zc0 zf0 zc1 zf1 zc2 zf2 zc3 zf3 zc4 zf4 zc5 zf5 zc6 zf6 zc7 zf7 zc8 zf8
  go_wp2_with fail
  refine bodyPost_ret (v := .agg #[.int .u16 x.age, .int .u8 x.opts, .int .u8 x.typ, .int .u32 x.id, .int .u32 x.adv, .int .i32 x.seq, .int .u16 x.sum, .int .u16 x.len, .slice xa rs.length xc]) (by simp [results, Try.results23, go_sem, zd0, zd1, zd2, zd3, zd4, zd5, zd6, zd7, zd8]) rfl ?_
  have gk := hg2l.out
  have hgg := HG.out
  have hgg2 := HG2.out
  have HT : Touch (fun k => k = g ∨ k = g2) w3 wz := (TB.out.mono (fun k _ q => Or.inl q)).trans (HUz.out.mono (fun k _ q => Or.inr q))
  refine ⟨xa, xc, rfl, own_touch BH.out.1.own HT (fun k hk q => by have := BH.out.2 k hk; omega), BH.out.1.t.trans' HT (fun k hk q => by omega)⟩
end Go.Proofs.Ytedolfggbgmklaa
