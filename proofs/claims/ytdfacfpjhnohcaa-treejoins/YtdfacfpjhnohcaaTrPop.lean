
/- The last step of a line is taken away; container/heap: Push, Pop. -/
import Derived.Test.YtdfacfpjhnohcaaTrPush
namespace Go.Proofs.Ytdfacfpjhnohcaa
open Go.RowKit
set_option linter.unusedVariables false
set_option maxRecDepth 100000

/-- The rows behind a pop. -/
structure PopP (w : World) (b : Nat) (v : Value) (B : Nat) (l : List Sp) (k : Nat) (e : Ending) (w' : World) : Prop where
  e : e = .returned (.iface 68 (gt l k).v)
  out : ∃ v', LS w' b v' B (l.take k) ∧ v'.ownBlock = v.ownBlock
  t : TouchB b (fun _ => False) w w'

set_option maxHeartbeats 2000000 in
theorem lpop_any (w : World) (b : Nat) (v : Value) (B : Nat) (l : List Sp) (P : LS w b v B l) (k : Nat) (hk : l.length = k + 1) :
    Calls Try.prog 74 #[.pointer (some ⟨b, 0, none⟩)] w (PopP w b v B l k) := by
  obtain ⟨c0, f0, re, bv, hl2⟩ := P
  have hb := lt_of_cell c0
  obtain ⟨g, cap, rfl, hcap, hg, hBg⟩ := re.form (by omega)
  obtain ⟨x0, x1, x2, x3, x4⟩ := RS.cells re (i := k) (gt_some (by omega))
  have RE0 : Hid (RS B w (.slice (some ⟨g, 0, none⟩) l.length cap) l) := re
  clear re
  have hbg : b ≠ g := fun e => bv (by subst e; rfl)
  have hLk : (l.length : Int) = (k : Int) + 1 := by omega
  have k0 : (0 : Int) ≤ (k : Int) := by omega
  have k2 : (k : Int) ≤ 1099511627776 := by omega
  have kc : (k : Int) ≤ (cap : Int) := by omega
  have kL : (k : Int) < (l.length : Int) := by omega
  have hc : cap ≠ k := by omega
  have FIN : Hid (∀ cs T, PopP w b (.slice (some ⟨g, 0, none⟩) l.length cap) B l k (.returned (.iface 68 (gt l k).v)) ((w.setCell ⟨b, 0, none⟩ (.slice (some ⟨g, 0, none⟩) k cap)).alloc (.cells cs T))) := by
    intro cs T
    have ts : Touch (fun k => k = b) w ((w.setCell ⟨b, 0, none⟩ (.slice (some ⟨g, 0, none⟩) k cap)).alloc (.cells cs T)) := ((Touch.refl (fun k => k = b) w).setCell (p := ⟨b, 0, none⟩) (Or.inl rfl) _).alloc _
    refine ⟨rfl, ⟨.slice (some ⟨g, 0, none⟩) k cap, ⟨by simp [go_sem, c0, hb], by simpa [go_sem, hb] using f0, ?_, bv, by simp; omega⟩, rfl⟩, ts.mono (fun _ _ e => Or.inl e), ?_⟩
    · exact (RG.cut Sp.len RE0.out (m := k) (by omega)).keep ts (fun j hj e => by cases hj; exact hbg e.symm)
    · intro o ho
      simp [go_sem, hb]
  have HK : Hid (l.length = k + 1) := hk
  have HC : Hid (l.length ≤ cap) := hcap
  generalize gt l k = x at *
  obtain ⟨xn, xc, xo, xv, xr⟩ := x
  simp only at x0 x1 x2 x3 x4
  clear hk hcap
  go_enter Try.func74, Try.ntmps74
  go_wp2_with fail
  go_ret
  exact FIN.out _ _

theorem down_at (w : World) (b : Nat) (v : Value) (B : Nat) (l : List Sp) (P : LS w b v B l) (N : Nat) (hN : N ≤ l.length) (i0 : Nat) (x y : Int) (hx : x = (i0 : Int)) (hy : y = (N : Int)) (hi : i0 < N) (F : FixI N (gt l) i0) :
    Calls Try.prog 38 #[.iface 79 (.pointer (some ⟨b, 0, none⟩)), .int .i64 x, .int .i64 y] w (DnP w b v B l N i0) := by
  subst hx; subst hy
  exact down_any w b v B l P N hN i0 hi F
set_option maxHeartbeats 400000 in
theorem down_nil (w : World) (x : Value) : Calls Try.prog 38 #[x, .int .i64 0, .int .i64 0] w fun e w' => e = .returned (.bool false) ∧ w = w' := by
  go_enter Try.func38, Try.ntmps38
  go_wp2_with fail
  go_loopw [7] (fun s7 wx => s7 = .int .i64 0 ∧ wx = w) (fun _ _ => 0)
  case atStart => exact ⟨rfl, rfl⟩
  case round =>
    obtain ⟨rfl, rfl⟩ := hrel
    go_wp2_with fail
    go_ret
    exact ⟨rfl, rfl⟩
theorem llen_at (w : World) (b : Nat) (v : Value) (B : Nat) (l : List Sp) (P : LS w b v B l) :
    Calls Try.prog 18 #[v] w fun e w' => e = .returned (.int .i64 l.length) ∧ w = w' := by
  obtain ⟨a, c, rfl⟩ := P.re.shape
  exact llen_any w a l.length c

/-- A line that is a heap of the steps L. -/
structure Heaped (w : World) (b : Nat) (v : Value) (B : Nat) (L : List Sp) (w' : World) : Prop where
  out : ∃ v' l', LS w' b v' B l' ∧ l'.Perm L ∧ HP l'.length (gt l') ∧ (v'.ownBlock = v.ownBlock ∨ ∃ g, v'.ownBlock = some g ∧ w.heap.size ≤ g)
  t : TouchB b (fun k => v.ownBlock = some k) w w'
theorem Laid.touchB {w : World} {b : Nat} {v : Value} {B : Nat} {l : List Sp} {N : Nat} {w' : World} {l' : List Sp} (h : Laid w b v B l N w' l') (hb : b < w.heap.size) : TouchB b (fun k => v.ownBlock = some k) w w' := TouchB.of h.t hb h.ps.bv

set_option maxHeartbeats 1000000 in
theorem hpush_any (w : World) (b : Nat) (v : Value) (B : Nat) (l : List Sp) (P : LS w b v B l) (hh : HP l.length (gt l)) (x : Sp) (hB : B ≤ w.heap.size) (hl : l.length + 1 ≤ 1099511627776) :
    Calls Try.prog 37 #[.iface 79 (.pointer (some ⟨b, 0, none⟩)), .iface 68 (.agg #[.int .i64 x.node, .int .u32 x.cost, .int .u32 x.h.out, .int .u32 x.h.via, .bool x.h.vr])] w fun e w' => e = .returned (.tuple #[]) ∧ Heaped w b v B (l ++ [x]) w' := by
  have hb := P.lt
  have HP0 : Hid _ := P
  have HH : Hid _ := hh
  have HBB : Hid _ := hB
  clear P hh hB
  go_enter Try.func37, Try.ntmps37
  go_wp2_with fail
  refine Calls.mono (lpush_any w b v B l HP0.out x HBB.out hl) ?_
  rintro e w1 p1
  have e1 := p1.e
  subst e1
  obtain ⟨-, ⟨v1, P1, hv⟩, T1⟩ := p1
  have m1 := meth_len b v1 w1 P1.c0
  have HP1 : Hid _ := P1
  have HT1 : Hid _ := T1
  have HV : Hid _ := hv
  clear P1 T1 hv
  go_wp2_with fail
  refine Calls.mono (llen_at w1 b v1 B _ HP1.out) ?_
  rintro e w2 ⟨rfl, rfl⟩
  have hl2 : (l ++ [x]).length = l.length + 1 := by simp
  have hl3 : ((l ++ [x]).length : Int) ≤ 1099511627776 := by omega
  have hl4 : (1 : Int) ≤ ((l ++ [x]).length : Int) := by omega
  have HL2 : Hid _ := hl2
  clear hl2 m1
  go_wp2_with fail
  refine Calls.mono (up_any w1 b v1 B _ HP1.out (l.length + 1) (Nat.le_of_eq HL2.out.symm) l.length _ (by have := HL2.out; omega) (by omega) (HP.up HH.out (fun k hk => by
    by_cases h : k < l.length
    · rw [gt_append_left h]
    · simp [gt, List.getElem?_eq_none (show l.length ≤ k by omega), List.getElem?_eq_none (show (l ++ [x]).length ≤ k by simp; omega)]))) ?_
  rintro e w3 ⟨rfl, l', L, H⟩
  have HLL : Hid _ := L
  have HHH : Hid _ := H
  clear L H
  go_wp2_with fail
  refine bodyPost_end (results_none rfl _ _ _) rfl ?_
  have hb1 := HP1.out.lt
  have hlen := HLL.out.len
  have hl2 := HL2.out
  refine ⟨rfl, ⟨v1, l', HLL.out.ps, HLL.out.perm, ?_, HV.out⟩, ?_⟩
  · rw [hlen, hl2]; exact HHH.out
  · refine HT1.out.trans (HLL.out.touchB hb1) (fun i hi e => ?_)
    rcases HV.out with e2 | ⟨g, e2, hg⟩
    · rw [← e2]; exact e
    · rw [e2] at e; injection e with e; omega

/-- What taking the first one leaves. -/
structure TakenP (w : World) (b : Nat) (v : Value) (B : Nat) (l : List Sp) (e : Ending) (w' : World) : Prop where
  out : ∃ s v' l', e = .returned (.iface 68 s.v) ∧ LS w' b v' B l' ∧ l.Perm (l' ++ [s]) ∧ HP l'.length (gt l') ∧ (∀ y ∈ l, s.le y) ∧ v'.ownBlock = v.ownBlock
  t : TouchB b (fun k => v.ownBlock = some k) w w'
theorem taken_math {l l1 l2 : List Sp} {n : Nat} (hn : l.length = n + 1) (h1 : l1 = sw l 0 n) (hp : l2.Perm l1) (far : ∀ k, n ≤ k → gt l2 k = gt l1 k) (hh : HP l.length (gt l)) (h2 : HP n (gt l2)) :
    gt l2 n = gt l 0 ∧ l.Perm (l2.take n ++ [gt l 0]) ∧ HP (l2.take n).length (gt (l2.take n)) ∧ ∀ y ∈ l, (gt l 0).le y := by
  subst h1
  have hp1 : (sw l 0 n).Perm l := sw_perm (by omega) (by omega)
  have hl2 : l2.length = n + 1 := by rw [(hp.trans hp1).length_eq, hn]
  have e1 : gt l2 n = gt l 0 := by rw [far n (Nat.le_refl _), gt_sw (by omega) (by omega), if_pos rfl]
  have e2 : l2 = l2.take n ++ [gt l 0] := by
    have h := List.take_append_drop n l2
    have h3 : l2.drop n = [gt l 0] := by
      rw [← e1]
      apply List.ext_getElem?
      intro j
      rw [List.getElem?_drop]
      rcases j with _ | j
      · rw [Nat.add_zero, gt_some (by omega)]; rfl
      · rw [List.getElem?_eq_none (by omega)]; simp
    rw [h3] at h
    exact h.symm
  refine ⟨e1, ?_, ?_, ?_⟩
  · rw [← e2]; exact (hp.trans hp1).symm
  · have hl : (l2.take n).length = n := by simp; omega
    rw [hl]
    exact h2.mono (Nat.le_refl _) (fun k hk => gt_take hk)
  · intro y hy
    obtain ⟨i, hi, rfl⟩ := mem_gt hy
    exact hh.first i hi

set_option maxHeartbeats 1000000 in
theorem hpop_any (w : World) (b : Nat) (v : Value) (B : Nat) (l : List Sp) (P : LS w b v B l) (hh : HP l.length (gt l)) (hl : 0 < l.length) :
    Calls Try.prog 29 #[.iface 79 (.pointer (some ⟨b, 0, none⟩))] w (TakenP w b v B l) := by
  have hb := P.lt
  have hl2 := P.hl
  have m1 := meth_len b v w P.c0
  have m2 := meth_swap b v w P.c0
  have HP0 : Hid _ := P
  have HH : Hid _ := hh
  clear P hh
  obtain ⟨n, hn⟩ : ∃ n, l.length = n + 1 := ⟨l.length - 1, by omega⟩
  have HN : Hid (l.length = n + 1) := hn
  have hl3 : (l.length : Int) ≤ 1099511627776 := by omega
  have hl4 : (1 : Int) ≤ (l.length : Int) := by omega
  have hln : (l.length : Int) - 1 = (n : Int) := by omega
  clear hn hl hl2
  go_enter Try.func29, Try.ntmps29
  go_wp2_with ((go_at_call 18; refine Calls.mono (llen_at w b v B l HP0.out) ?_; rintro e wx ⟨rfl, rfl⟩))
  refine Calls.mono (swap_any w b v B l HP0.out 0 n _ _ rfl (by omega) (by have := HN.out; omega) (by have := HN.out; omega)) ?_
  rintro e w1 s1
  have e1 := s1.e
  subst e1
  obtain ⟨-, P1, T1⟩ := s1
  have HP1 : Hid _ := P1
  have HT1 : Hid _ := T1
  have hls : (sw l 0 n).length = n + 1 := by rw [sw_length]; exact HN.out
  have HLS : Hid _ := hls
  clear P1 T1 m1 m2 hls
  have hb1 : b < w1.heap.size := HP1.out.lt
  have HDN : Hid (∀ w2 l2, Laid w1 b v B (sw l 0 n) n w2 l2 → HP n (gt l2) → ∀ e w3, PopP w2 b v B l2 n e w3 → TakenP w b v B l e w3) := by
    intro w2 l2 L2 H2 e w3 p3
    obtain ⟨a1, a2, a3, a4⟩ := taken_math HN.out rfl L2.perm L2.far HH.out H2
    obtain ⟨e3, ⟨v3, P3, hv3⟩, T3⟩ := p3
    rw [a1] at e3
    refine ⟨⟨gt l 0, v3, _, e3, P3, a2, a3, a4, hv3⟩, ?_⟩
    exact ((TouchB.of HT1.out hb HP0.out.bv).trans (L2.touchB hb1) (fun _ _ h => h)).trans T3 (fun _ _ h => h.elim)
  by_cases h0 : n = 0
  · have HD0 := HDN.out w1 _ (Laid.start HP1.out n) (fun c _ h => by omega)
    have HD : Hid _ := HD0
    clear HD0 HDN
    have hn0 : (n : Int) = 0 := by omega
    go_wp2_with ((go_at_call 38; refine Calls.mono (down_nil w1 _) ?_; rintro e wx ⟨rfl, rfl⟩))
    refine Calls.mono (lpop_any w1 b v B _ HP1.out n (by rw [HLS.out])) ?_
    rintro e w3 p3
    have hz := HD.out _ _ p3
    have e3 := p3.e
    clear p3
    generalize (gt (sw l 0 n) n).v = G at e3
    subst e3
    have HZ : Hid _ := hz
    clear hz
    go_wp2_with fail
    go_ret
    exact HZ.out
  · have F0 : FixI n (gt (sw l 0 n)) 0 := by
      have h1 : HP n (gt l) := HP.mono HH.out (by have := HN.out; omega) (fun _ _ => rfl)
      have h2 : ∀ k, k < n → k ≠ 0 → gt (sw l 0 n) k = gt l k := fun k hk hk0 => by
        rw [gt_sw (by have := HN.out; omega) (by have := HN.out; omega), if_neg (by omega), if_neg hk0]
      exact ⟨fun c c0 cn ce pe => by rw [h2 _ cn ce, h2 _ (by omega) pe]; exact h1 c c0 cn, fun c c0 cn pe i0 => by omega⟩
    have HF : Hid _ := F0
    have H0 : Hid (n ≠ 0) := h0
    clear F0 h0
    go_wp2_with fail
    refine Calls.mono (down_at w1 b v B _ HP1.out n (by rw [HLS.out]; omega) 0 _ _ (by omega) (by omega) (by have := H0.out; omega) HF.out) ?_
    rintro e w2 ⟨l2, z, rfl, L2, H2⟩
    have H3 : HP n (gt l2) := by
      rcases H2 with ⟨_, H2⟩ | ⟨_, rfl, U2⟩
      · exact H2
      · exact up_end U2 (Or.inl rfl)
    have hl2 : l2.length = n + 1 := by rw [L2.len, HLS.out]
    have HD := HDN.out w2 l2 L2 H3
    have HDD : Hid _ := HD
    have HL2 : Hid _ := L2
    have HLL : Hid _ := hl2
    clear HD L2 H2 H3 hl2 HDN
    go_wp2_with fail
    refine Calls.mono (lpop_any w2 b v B _ HL2.out.ps n HLL.out) ?_
    rintro e w3 p3
    have hz := HDD.out _ _ p3
    have e3 := p3.e
    clear p3
    generalize (gt l2 n).v = G at e3
    subst e3
    have HZ : Hid _ := hz
    clear hz
    go_wp2_with fail
    go_ret
    exact HZ.out
end Go.Proofs.Ytdfacfpjhnohcaa
