
/- What one that is no master does with a description. -/
import Derived.Test.YtojlnabhaglejaaAdEnd
namespace Go.Proofs.Ytojlnabhaglejaa
open Go.RowKit
set_option linter.unusedVariables false
set_option maxRecDepth 100000

set_option maxHeartbeats 4000000 in
theorem follow_first (w : World) (b : Nat) (x : AJ) (m o s : Int) (h : Ads w b x) (hm : x.master = false) (hl : x.left = .slice none 0 0) : Calls Try.prog 68 #[.pointer (some ⟨b, 0, none⟩), .agg #[.int .u16 m, .int .u8 o, .int .u8 7, .int .u32 s, .slice none 0 0]] w fun e w' => ∃ v, e = .returned v ∧ OneDD w.heap.size w' v x.mtu x.opts 0 s ∧ Ads w' b { x with number := s, smtu := x.mtu, sopts := x.opts, sflags := 0, sseq := s, sheads := .slice none 0 0, waited := 0, left := .slice none 0 0 } ∧ Touch (fun k => k = b) w w' := by
  have HA : Hid (Ads w b x) := h
  have c7 : w.cell? ⟨b, 7, none⟩ = some (.int .u32 x.number) := h.cell 7
  have hf := h.frozen
  have hb := h.lt
  have HA1 : Hid (Ads ((w.setCell ⟨b, 7, none⟩ (.int .u32 s)).alloc (.cells #[.int .u16 m, .int .u8 o, .int .u8 7, .int .u32 s, .slice none 0 0] 54)) b { x with number := s }) := (h.set7 s).keep ((Touch.refl _ _).alloc _)
  have T1 : Hid (Touch (fun k => k = b) w ((w.setCell ⟨b, 7, none⟩ (.int .u32 s)).alloc (.cells #[.int .u16 m, .int .u8 o, .int .u8 7, .int .u32 s, .slice none 0 0] 54))) := ((Touch.refl (fun k => k = b) w).setCell (p := ⟨b, 7, none⟩) (Or.inl rfl) _).alloc _
  have R1 : Hid (Row ((w.setCell ⟨b, 7, none⟩ (.int .u32 s)).alloc (.cells #[.int .u16 m, .int .u8 o, .int .u8 7, .int .u32 s, .slice none 0 0] 54)) w.heap.size 54 [.int .u16 m, .int .u8 o, .int .u8 7, .int .u32 s, .slice none 0 0]) := by
    have := row_new (w.setCell ⟨b, 7, none⟩ (.int .u32 s)) 54 #[.int .u16 m, .int .u8 o, .int .u8 7, .int .u32 s, .slice none 0 0]
    have e : (w.setCell ⟨b, 7, none⟩ (.int .u32 s)).heap.size = w.heap.size := by simp [World.setCell]
    rw [e] at this
    exact this
  have hgp : w.heap.size ≠ b := by omega
  obtain ⟨nw, hnw⟩ : ∃ n, n = w.heap.size := ⟨_, rfl⟩
  clear h
  go_enter Try.func68, Try.ntmps68
  go_wp2_with fail
  generalize (w.setCell ⟨b, 7, none⟩ (.int .u32 s)).alloc (.cells #[.int .u16 m, .int .u8 o, .int .u8 7, .int .u32 s, .slice none 0 0] 54) = w1 at *
  have HNW : Hid (nw ≤ w1.heap.size) := by have := T1.out.size; show _ ≤ _; omega
  have HNE : Hid (nw = w.heap.size) := hnw
  clear hnw
  obtain ⟨gp, hgpe⟩ : ∃ g, w.heap.size = g := ⟨_, rfl⟩
  rw [hgpe] at hgp R1 ⊢
  clear hgpe
  refine Calls.mono (next_nil w1 b _ HA1.out hm hl) ?_
  rintro e w2 ⟨v, rfl, od, HA2, t2⟩
  have T2 := T1.out.trans t2
  have R2 : Row w2 gp 54 [.int .u16 m, .int .u8 o, .int .u8 7, .int .u32 s, .slice none 0 0] := (t2.block gp R1.out.lt (fun e => hgp e)).trans R1.out
  have HAx : Hid _ := HA2
  have HT2 : Hid (Touch (fun k => k = b) w w2) := T2
  have HOD : Hid (OneDD nw w2 v x.mtu x.opts 0 s) := od.low HNW.out
  have p0 : w2.cell? ⟨gp, 0, none⟩ = some (.int .u16 m) := R2.cell 0
  have p1 : w2.cell? ⟨gp, 1, none⟩ = some (.int .u8 o) := R2.cell 1
  have p2 : w2.cell? ⟨gp, 2, none⟩ = some (.int .u8 7) := R2.cell 2
  have p3 : w2.cell? ⟨gp, 3, none⟩ = some (.int .u32 s) := R2.cell 3
  have p4 : w2.cell? ⟨gp, 4, none⟩ = some (.slice none 0 0) := R2.cell 4
  have hp := R2.lt
  clear HA1 T1 R1 t2 HA2 T2 c7 hf od
  go_wp2_with fail
  refine Calls.mono (last_7 w2 b _ m o s _ HAx.out rfl) ?_
  rintro e w3 ⟨rfl, t3⟩
  clear p0 p1 p2 p3 p4 hp
  go_wp2_with fail
  go_ret
  obtain ⟨g, hv, hn, hr⟩ := HOD.out
  exact ⟨v, rfl, ⟨g, hv, by rw [← HNE.out]; exact hn, hr.keep t3⟩, HAx.out.keep t3, HT2.out.trans (t3.mono (fun _ _ f => f.elim))⟩
theorem infoOut : (Try.prog.info? 59).map (fun i => (i.zero, i.size, i.bytes)) = some (some (.agg #[.bool false, .int .u16 0, .int .u8 0, .int .u8 0, .int .u32 0, .slice none 0 0, .slice none 0 0]), 7, 64) := by kernel_rfl
/-- Two things to be sent: a description, and a request for one key. -/
def TwoOut (w : World) (v : Value) : Prop := ∃ g c a d, v = .slice (some ⟨g, 0, none⟩) 2 c ∧ g < w.heap.size ∧ 2 ≤ c ∧ w.cell? ⟨g, 13, none⟩ = some (.slice a 1 d)
set_option maxHeartbeats 4000000 in
theorem follow_last (base : Nat) (w : World) (b : Nat) (x : AJ) (m o s : Int) (hv : Value) (h : Ads w b x) (hm : x.master = false) (hl : x.left = .slice none 0 0) (hk : KR base w x.keys) (hbb : b < base) : Calls Try.prog 68 #[.pointer (some ⟨b, 0, none⟩), .agg #[.int .u16 m, .int .u8 o, .int .u8 1, .int .u32 s, hv]] w fun e w' => ∃ v, e = .returned v ∧ TwoOut w' v ∧ Ads w' b { x with number := s, smtu := x.mtu, sopts := x.opts, sflags := 0, sseq := s, sheads := .slice none 0 0, waited := 0, left := .slice none 0 0, state := 2, asked := 1 } ∧ Touch (fun k => k = b) w w' := by
  have HA : Hid (Ads w b x) := h
  have c7 : w.cell? ⟨b, 7, none⟩ = some (.int .u32 x.number) := h.cell 7
  have hf := h.frozen
  have hb := h.lt
  have HA1 : Hid (Ads ((w.setCell ⟨b, 7, none⟩ (.int .u32 s)).alloc (.cells #[.int .u16 m, .int .u8 o, .int .u8 1, .int .u32 s, hv] 54)) b { x with number := s }) := (h.set7 s).keep ((Touch.refl _ _).alloc _)
  have T1 : Hid (Touch (fun k => k = b) w ((w.setCell ⟨b, 7, none⟩ (.int .u32 s)).alloc (.cells #[.int .u16 m, .int .u8 o, .int .u8 1, .int .u32 s, hv] 54))) := ((Touch.refl (fun k => k = b) w).setCell (p := ⟨b, 7, none⟩) (Or.inl rfl) _).alloc _
  have R1 : Hid (Row ((w.setCell ⟨b, 7, none⟩ (.int .u32 s)).alloc (.cells #[.int .u16 m, .int .u8 o, .int .u8 1, .int .u32 s, hv] 54)) w.heap.size 54 [.int .u16 m, .int .u8 o, .int .u8 1, .int .u32 s, hv]) := by
    have := row_new (w.setCell ⟨b, 7, none⟩ (.int .u32 s)) 54 #[.int .u16 m, .int .u8 o, .int .u8 1, .int .u32 s, hv]
    have e : (w.setCell ⟨b, 7, none⟩ (.int .u32 s)).heap.size = w.heap.size := by simp [World.setCell]
    rw [e] at this
    exact this
  have hgp : w.heap.size ≠ b := by omega
  obtain ⟨nw, hnw⟩ : ∃ n, n = w.heap.size := ⟨_, rfl⟩
  have HK : Hid (KR base w x.keys) := hk
  clear h hk
  go_enter Try.func68, Try.ntmps68
  go_wp2_with fail
  generalize (w.setCell ⟨b, 7, none⟩ (.int .u32 s)).alloc (.cells #[.int .u16 m, .int .u8 o, .int .u8 1, .int .u32 s, hv] 54) = w1 at *
  have HNW : Hid (nw ≤ w1.heap.size) := by have := T1.out.size; show _ ≤ _; omega
  have HNE : Hid (nw = w.heap.size) := hnw
  clear hnw
  obtain ⟨gp, hgpe⟩ : ∃ g, w.heap.size = g := ⟨_, rfl⟩
  rw [hgpe] at hgp R1 ⊢
  clear hgpe
  refine Calls.mono (next_nil w1 b _ HA1.out hm hl) ?_
  rintro e w2 ⟨v, rfl, od, HA2, t2⟩
  have T2 := T1.out.trans t2
  have R2 : Row w2 gp 54 [.int .u16 m, .int .u8 o, .int .u8 1, .int .u32 s, hv] := (t2.block gp R1.out.lt (fun e => hgp e)).trans R1.out
  have HAx : Hid _ := HA2
  have HT2 : Hid (Touch (fun k => k = b) w w2) := T2
  have HOD : Hid (OneDD nw w2 v x.mtu x.opts 0 s) := od.low HNW.out
  have p0 : w2.cell? ⟨gp, 0, none⟩ = some (.int .u16 m) := R2.cell 0
  have p1 : w2.cell? ⟨gp, 1, none⟩ = some (.int .u8 o) := R2.cell 1
  have p2 : w2.cell? ⟨gp, 2, none⟩ = some (.int .u8 1) := R2.cell 2
  have p3 : w2.cell? ⟨gp, 3, none⟩ = some (.int .u32 s) := R2.cell 3
  have p4 : w2.cell? ⟨gp, 4, none⟩ = some (hv) := R2.cell 4
  have hp := R2.lt
  clear HA1 T1 R1 t2 HA2 T2 c7 hf od
  go_wp2_with fail
  refine Calls.mono (last_1 w2 b _ m o s _ HAx.out rfl) ?_
  rintro e w3 ⟨rfl, t3⟩
  have HA3 := HAx.out.keep t3
  have T3 := HT2.out.trans (t3.mono (fun _ _ f => f.elim))
  obtain ⟨g1, rfl, hn1, r1⟩ := HOD.out
  have r3 := r1.keep t3
  have hk3 : KR base w3 x.keys := own_touch HK.out T3 (fun k hk' e => by have := (HK.out.lt k hk').1; omega)
  have HE := end_some base w3 b _ HA3 hk3 hbb
  clear p0 p1 p2 p3 p4 hp HAx HT2 HOD HK hk3 t3
  go_wp2_with fail
  refine Calls.mono HE ?_
  rintro e w4 ⟨u, rfl, ⟨g2, ka, kc, rfl, r2⟩, HA4, t4⟩
  have hn2 : w.heap.size ≤ g1 := by have := HNE.out; omega
  have hbw := HA.out.lt
  have hg1 : g1 ≠ b := by omega
  have r4 : Row w4 g1 59 _ := (t4.block g1 r3.lt (fun e => hg1 e)).trans r3
  have T4 := T3.trans t4
  obtain ⟨i0, hi0, hz0, hz1, hz2⟩ := infoParts infoOut
  have ow : w4.ownsRow 0 59 7 (.slice (some ⟨g1, 0, none⟩) 1 1) 1 [.bool true, .int .u16 x.mtu, .int .u8 x.opts, .int .u8 0, .int .u32 s, .slice none 0 0, .slice none 0 0] := ⟨by simp, Or.inr ⟨g1, 1, _, rfl, Nat.zero_le _, r4, by simp, by unfold maxLen; omega, by simp, by simp⟩⟩
  obtain ⟨v', w5, hrun, own5, grown5, -, hat⟩ := run_append_own_at (P := Try.prog) w4 0 35 35 59 i0 _ 7 64 Try.underlying35 hi0 hz0 hz1 hz2 rfl (by omega) (.slice (some ⟨g1, 0, none⟩) 1 1) 1 _ ow ⟨g2, 0, none⟩ 1 1 [.bool false, .int .u16 0, .int .u8 0, .int .u8 0, .int .u32 0, .slice none 0 0, .slice ka 1 kc] rfl (fun j u hj => by
      have e : (⟨g2, 0, none⟩ : Addr).add j = ⟨g2, j, none⟩ := by cases j <;> simp [Addr.add]
      rw [e, r2.cell j]
      exact hj) (by intro u hu; simp only [List.mem_cons, List.not_mem_nil, or_false] at hu; rcases hu with rfl | rfl | rfl | rfl | rfl | rfl | rfl <;> rfl) (by unfold maxLen; omega) (by omega) (Nat.zero_le _)
  have t5 : Touch (fun k => k = g1) w4 w5 := Touch.grown (Touch.refl _ _) grown5 (fun k hk => by simp [Value.ownBlock] at hk; exact Or.inl hk.symm)
  have HA5 : Hid _ := HA4.touch t5 (fun e => hg1 e.symm)
  have T5 : Hid (Touch (fun k => k = b) w w5) := T4.trans' t5 (fun i hi e => by omega)
  have HTW : Hid (TwoOut w5 v') := by
    have own6 := own5
    obtain ⟨h1, ⟨h2, h3⟩ | ⟨g, cap, cur, rfl, hg, hh, hc, hm, hs, hx⟩⟩ := own5
    · cases h3
    · exact ⟨g, cap, ka, kc, rfl, lt_of_heap hh, by omega, World.ownsRow.cells own6 (g := g) rfl 13 _ rfl⟩
  clear own5 grown5 hat ow hi0 hz0 hz1 hz2 r2 r3 r4 t4 t5 HA3 HA4 T3 T4
  go_wp2_with (refine wpList_run_append rfl (.tmp 16) (.tmp 18) 35 rfl _ _ _ _ (by rfl) (by rfl) hrun ?_)
  go_ret
  exact ⟨v', rfl, HTW.out, HA5.out, T5.out⟩
end Go.Proofs.Ytojlnabhaglejaa
