
/- What is done with a description that was taken. -/
import Derived.Test.YtojlnabhaglejaaAdYoung
import Derived.Deep.Upon
import Derived.Laws.IdiomCopy
import Derived.Lib.SliceRun
namespace Go.Proofs.Ytojlnabhaglejaa
open Go.RowKit
set_option linter.unusedVariables false
set_option maxRecDepth 100000

set_option maxHeartbeats 2000000 in
theorem leads_yes (w : World) (b : Nat) (x : AJ) (m o s : Int) (h : Ads w b x) (hlt : x.other < x.self) (hs : x.number = s) : Calls Try.prog 45 #[.pointer (some ⟨b, 0, none⟩), .agg #[.int .u16 m, .int .u8 o, .int .u8 0, .int .u32 s, .slice none 0 0]] w fun e w' => e = .returned (.bool true) ∧ Touch (fun _ => False) w w' := by
  have c0 : w.cell? ⟨b, 0, none⟩ = some (.int .u32 x.self) := h.cell 0
  have c1 : w.cell? ⟨b, 1, none⟩ = some (.int .u32 x.other) := h.cell 1
  have c7 : w.cell? ⟨b, 7, none⟩ = some (.int .u32 x.number) := h.cell 7
  rw [hs] at c7
  have hb := h.lt
  have e1 : decide (x.other < x.self) = true := by simpa using hlt
  have e5 : bits .and .u8 0 5 = 0 := by decide
  clear h
  go_enter Try.func45, Try.ntmps45
  go_wp2_with fail
  go_region
  go_wp2_with fail
  go_ret
  exact ⟨rfl, ((Touch.refl _ _).alloc _).drew⟩
set_option maxHeartbeats 2000000 in
theorem last_gen (w : World) (b : Nat) (x : AJ) (m o f s : Int) (r : Bool) (h : Ads w b x) (hr : (bits .and .u8 (bits .or .u8 f x.sflags) 2 == 0) = r) : Calls Try.prog 79 #[.pointer (some ⟨b, 0, none⟩), .agg #[.int .u16 m, .int .u8 o, .int .u8 f, .int .u32 s, .slice none 0 0]] w fun e w' => e = .returned (.bool r) ∧ Touch (fun _ => False) w w' := by
  have c10 : w.cell? ⟨b, 10, none⟩ = some (.int .u8 x.sflags) := h.cell 10
  have hb := h.lt
  clear h
  go_enter Try.func79, Try.ntmps79
  go_wp2_with fail
  go_region
  go_wp2_with fail
  go_ret
  exact ⟨rfl, ((Touch.refl _ _).alloc _).drew⟩
set_option maxHeartbeats 4000000 in
theorem lead_full (w : World) (b : Nat) (x : AJ) (m o f s : Int) (h : Ads w b x) (hr : (bits .and .u8 (bits .or .u8 f x.sflags) 2 == 0) = true) (hk : x.keys = .slice none 0 0) : Calls Try.prog 67 #[.pointer (some ⟨b, 0, none⟩), .agg #[.int .u16 m, .int .u8 o, .int .u8 f, .int .u32 s, .slice none 0 0]] w fun e w' => e = .returned (.slice none 0 0) ∧ Ads w' b { x with state := 3 } ∧ Touch (fun k => k = b) w w' := by
  have HL := fun w' h' => last_gen w' b x m o f s true h' hr
  have HEN := fun w' h' => end_full w' b x none 0 h' hk
  have HA : Hid (Ads w b x) := h
  clear h
  go_enter Try.func67, Try.ntmps67
  go_wp2_with fail
  have T1 : Touch (fun _ => False) w (w.alloc (.cells #[.int .u16 m, .int .u8 o, .int .u8 f, .int .u32 s, .slice none 0 0] 54)) := (Touch.refl _ _).alloc _
  have h1 := HA.out.keep T1
  generalize w.alloc (.cells #[.int .u16 m, .int .u8 o, .int .u8 f, .int .u32 s, .slice none 0 0] 54) = w1 at *
  refine Calls.mono (HL _ h1) ?_
  rintro e w2 ⟨rfl, t2⟩
  have h2 := HEN _ (h1.keep t2)
  have T2 : Hid (Touch (fun _ => False) w w2) := T1.trans t2
  clear HL HEN h1 T1 t2
  go_wp2_with fail
  refine Calls.mono h2 ?_
  rintro e w3 ⟨rfl, h3, t3⟩
  clear h2
  go_wp2_with fail
  go_ret
  exact ⟨rfl, h3, (T2.out.mono (fun _ _ f => f.elim)).trans t3⟩
set_option maxHeartbeats 4000000 in
theorem lead_next (w : World) (b : Nat) (x : AJ) (m o f s n1 : Int) (l : List HV) (h : Ads w b x) (hr : (bits .and .u8 (bits .or .u8 f x.sflags) 2 == 0) = false) (hn : IntKind.u32.wrap (x.number + 1) = n1) (G : Nat → Prop) (hh : HdsB G w x.left l) (hG : ¬ G b) (hl : l.length ≤ 1000000) : Calls Try.prog 67 #[.pointer (some ⟨b, 0, none⟩), .agg #[.int .u16 m, .int .u8 o, .int .u8 f, .int .u32 s, .slice none 0 0]] w fun e w' => ∃ u v1 v2, e = .returned u ∧ OneDH w.heap.size w' u x.mtu x.opts (flg x.master (decide (16 < l.length))) n1 (l.take 16) ∧ Ads w' b { x with number := n1, smtu := x.mtu, sopts := x.opts, sflags := (flg x.master (decide (16 < l.length))), sseq := n1, sheads := v1, waited := 0, left := v2 } ∧ HdsB G w' v2 (l.drop 16) ∧ Touch (fun k => k = b) w w' := by
  have HL := fun w' h' => last_gen w' b x m o f s false h' hr
  have HA : Hid (Ads w b x) := h
  have HH : Hid (HdsB G w x.left l) := hh
  clear h hh
  go_enter Try.func67, Try.ntmps67
  go_wp2_with fail
  have T1 : Touch (fun _ => False) w (w.alloc (.cells #[.int .u16 m, .int .u8 o, .int .u8 f, .int .u32 s, .slice none 0 0] 54)) := (Touch.refl _ _).alloc _
  have h1 := HA.out.keep T1
  generalize w.alloc (.cells #[.int .u16 m, .int .u8 o, .int .u8 f, .int .u32 s, .slice none 0 0] 54) = w1 at *
  refine Calls.mono (HL _ h1) ?_
  rintro e w2 ⟨rfl, t2⟩
  have h2 := h1.keep t2
  have T2 := T1.trans t2
  have c7 : w2.cell? ⟨b, 7, none⟩ = some (.int .u32 x.number) := h2.cell 7
  have hf := h2.frozen
  have hb := h2.lt
  have h3 := h2.set7 n1
  have t3 : Touch (fun k => k = b) w2 (w2.setCell ⟨b, 7, none⟩ (.int .u32 n1)) := (Touch.refl (fun k => k = b) w2).setCell (p := ⟨b, 7, none⟩) (Or.inl rfl) _
  have T3 : Touch (fun k => k = b) w (w2.setCell ⟨b, 7, none⟩ (.int .u32 n1)) := (T2.mono (fun _ _ f => f.elim)).trans t3
  have HNX := next_any (w2.setCell ⟨b, 7, none⟩ (.int .u32 n1)) b _ l h3 G ((HH.out.keep T2).touch t3 hG) hG hl
  have HT3 : Hid (Touch (fun k => k = b) w (w2.setCell ⟨b, 7, none⟩ (.int .u32 n1))) := T3
  clear HL h1 T1 t2 h2 h3 t3 T2 T3 HH
  go_wp2_with fail
  refine Calls.mono HNX ?_
  rintro e w4 ⟨u, v1, v2, rfl, od, h4, hd, t4⟩
  clear HNX c7 hf
  go_wp2_with fail
  go_ret
  exact ⟨u, v1, v2, rfl, od.low HT3.out.size, h4, hd, HT3.out.trans t4⟩
theorem infoO14 : (Try.prog.info? 59).map (fun i => (i.zero, i.size, i.bytes)) = some (some (.agg #[.bool false, .int .u16 0, .int .u8 0, .int .u8 0, .int .u32 0, .slice none 0 0, .slice none 0 0]), 7, 64) := by kernel_rfl
theorem append_noneO (g : Nat) (ty : TypeId) (w : World) : (Builtin.append_ #[35, 35] ty #[.slice (some ⟨g, 0, none⟩) 1 1, .slice none 0 0]).run Try.prog w = .ok (.slice (some ⟨g, 0, none⟩) 1 1) w := by
  obtain ⟨i0, hi0, hz0, hz1, hz2⟩ := infoParts infoO14
  refine run_append_nothing w 35 35 ty 59 i0 Try.underlying35 hi0 _ 1 1 (Nat.le_refl _) _ ⟨Or.inl ⟨_, Try.underlying35⟩, fun _ => rfl, ?_, ?_, by simp, by simp⟩
  · rfl
  · rfl
/-- What one that is no master answers. -/
def FolP (w : World) (b : Nat) (x : AJ) (s : Int) (l : List HV) (r : Bool) (G : Nat → Prop) (e : Ending) (w' : World) : Prop := ∃ u v1 v2, e = .returned u ∧ OneDH w.heap.size w' u x.mtu x.opts (flg x.master (decide (16 < l.length))) s (l.take 16) ∧ Ads w' b { x with number := s, smtu := x.mtu, sopts := x.opts, sflags := (flg x.master (decide (16 < l.length))), sseq := s, sheads := v1, waited := 0, left := v2, state := if r then 3 else x.state } ∧ HdsB G w' v2 (l.drop 16) ∧ Touch (fun k => k = b) w w'
set_option maxHeartbeats 4000000 in
theorem follow_gen (w : World) (b : Nat) (x : AJ) (m o f s : Int) (l : List HV) (r : Bool) (h : Ads w b x) (hr : (bits .and .u8 (bits .or .u8 f (flg x.master (decide (16 < l.length)))) 2 == 0) = r) (hk : x.keys = .slice none 0 0) (G : Nat → Prop) (hh : HdsB G w x.left l) (hG : ¬ G b) (hl : l.length ≤ 1000000) : Calls Try.prog 68 #[.pointer (some ⟨b, 0, none⟩), .agg #[.int .u16 m, .int .u8 o, .int .u8 f, .int .u32 s, .slice none 0 0]] w (FolP w b x s l r G) := by
  have HA : Hid (Ads w b x) := h
  have c7 : w.cell? ⟨b, 7, none⟩ = some (.int .u32 x.number) := h.cell 7
  have hf := h.frozen
  have hb := h.lt
  have HA1 : Hid (Ads ((w.setCell ⟨b, 7, none⟩ (.int .u32 s)).alloc (.cells #[.int .u16 m, .int .u8 o, .int .u8 f, .int .u32 s, .slice none 0 0] 54)) b { x with number := s }) := (h.set7 s).keep ((Touch.refl _ _).alloc _)
  have T1 : Hid (Touch (fun k => k = b) w ((w.setCell ⟨b, 7, none⟩ (.int .u32 s)).alloc (.cells #[.int .u16 m, .int .u8 o, .int .u8 f, .int .u32 s, .slice none 0 0] 54))) := ((Touch.refl (fun k => k = b) w).setCell (p := ⟨b, 7, none⟩) (Or.inl rfl) _).alloc _
  have R1 : Hid (Row ((w.setCell ⟨b, 7, none⟩ (.int .u32 s)).alloc (.cells #[.int .u16 m, .int .u8 o, .int .u8 f, .int .u32 s, .slice none 0 0] 54)) w.heap.size 54 [.int .u16 m, .int .u8 o, .int .u8 f, .int .u32 s, .slice none 0 0]) := by
    have := row_new (w.setCell ⟨b, 7, none⟩ (.int .u32 s)) 54 #[.int .u16 m, .int .u8 o, .int .u8 f, .int .u32 s, .slice none 0 0]
    have e : (w.setCell ⟨b, 7, none⟩ (.int .u32 s)).heap.size = w.heap.size := by simp [World.setCell]
    rw [e] at this
    exact this
  have hgp : w.heap.size ≠ b := by omega
  have HH1 : Hid (HdsB G ((w.setCell ⟨b, 7, none⟩ (.int .u32 s)).alloc (.cells #[.int .u16 m, .int .u8 o, .int .u8 f, .int .u32 s, .slice none 0 0] 54)) x.left l) := hh.touch T1.out hG
  obtain ⟨nw, hnw⟩ : ∃ n, n = w.heap.size := ⟨_, rfl⟩
  clear h hh
  go_enter Try.func68, Try.ntmps68
  go_wp2_with fail
  generalize (w.setCell ⟨b, 7, none⟩ (.int .u32 s)).alloc (.cells #[.int .u16 m, .int .u8 o, .int .u8 f, .int .u32 s, .slice none 0 0] 54) = w1 at *
  have HNW : Hid (nw ≤ w1.heap.size) := by have := T1.out.size; show _ ≤ _; omega
  have HNE : Hid (nw = w.heap.size) := hnw
  clear hnw
  obtain ⟨gp, hgpe⟩ : ∃ g, w.heap.size = g := ⟨_, rfl⟩
  rw [hgpe] at hgp R1 ⊢
  clear hgpe
  refine Calls.mono (next_any w1 b _ l HA1.out G HH1.out hG hl) ?_
  rintro e w2 ⟨u, v1, v2, rfl, od, HA2, hd2, t2⟩
  have T2 := T1.out.trans t2
  have R2 : Row w2 gp 54 [.int .u16 m, .int .u8 o, .int .u8 f, .int .u32 s, .slice none 0 0] := (t2.block gp R1.out.lt (fun e => hgp e)).trans R1.out
  have HAx : Hid (Ads w2 b { x with number := s, smtu := x.mtu, sopts := x.opts, sflags := (flg x.master (decide (16 < l.length))), sseq := s, sheads := v1, waited := 0, left := v2 }) := HA2
  have HT2 : Hid (Touch (fun k => k = b) w w2) := T2
  have HOD : Hid (OneDH nw w2 u x.mtu x.opts (flg x.master (decide (16 < l.length))) s (l.take 16)) := od.low HNW.out
  have HD2 : Hid (HdsB G w2 v2 (l.drop 16)) := hd2
  have HLA := last_gen w2 b _ m o f s r HA2 hr
  have p0 : w2.cell? ⟨gp, 0, none⟩ = some (.int .u16 m) := R2.cell 0
  have p1 : w2.cell? ⟨gp, 1, none⟩ = some (.int .u8 o) := R2.cell 1
  have p2 : w2.cell? ⟨gp, 2, none⟩ = some (.int .u8 f) := R2.cell 2
  have p3 : w2.cell? ⟨gp, 3, none⟩ = some (.int .u32 s) := R2.cell 3
  have p4 : w2.cell? ⟨gp, 4, none⟩ = some (.slice none 0 0) := R2.cell 4
  have hp := R2.lt
  clear HA1 T1 R1 t2 HA2 T2 c7 hf od HH1 hd2 hr
  go_wp2_with fail
  refine Calls.mono HLA ?_
  rintro e w3 ⟨rfl, t3⟩
  have HOD3 : Hid (OneDH nw w3 u x.mtu x.opts (flg x.master (decide (16 < l.length))) s (l.take 16)) := HOD.out.keep t3
  have HT3 : Hid (Touch (fun _ => False) w2 w3) := t3
  obtain ⟨g, -, rfl, -⟩ := HOD.out
  clear HOD t3 p0 p1 p2 p3 p4 hp HLA
  cases r with
  | false =>
    go_wp2_with fail
    go_ret
    exact ⟨_, v1, v2, rfl, by have := HOD3.out; rw [HNE.out] at this; exact this, HAx.out.keep HT3.out, HD2.out.keep HT3.out, HT2.out.trans (HT3.out.mono (fun _ _ f => f.elim))⟩
  | true =>
    have HEN := end_full w3 b _ none 0 (HAx.out.keep HT3.out) hk
    go_wp2_with fail
    refine Calls.mono HEN ?_
    rintro e w4 ⟨rfl, h4, t4⟩
    have hap := append_noneO g
    clear HEN
    go_wp2_with (refine wpList_run_append rfl (.tmp 16) (.tmp 18) 35 rfl _ _ _ _ (by rfl) (by rfl) (hap _ _) ?_)
    go_ret
    have hlt : b < nw := by have h1 := HNE.out; have h2 := HA.out.lt; omega
    have T4 := (HT3.out.mono (fun _ _ f => f.elim)).trans t4
    exact ⟨_, v1, v2, rfl, by have := HOD3.out.touch t4 hlt; rw [HNE.out] at this; exact this, h4, HD2.out.touch T4 hG, HT2.out.trans T4⟩
end Go.Proofs.Ytojlnabhaglejaa
