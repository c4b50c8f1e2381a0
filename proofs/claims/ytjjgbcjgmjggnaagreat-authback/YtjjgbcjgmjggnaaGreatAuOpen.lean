/- Choose: the key with which a packet is signed. -/
import Derived.Test.YtjjgbcjgmjggnaaGreatAuOpl
import Derived.Test.YtjjgbcjgmjggnaaGreatAuOdg
namespace Go.Proofs.YtjjgbcjgmjggnaaGreat
open Go.RowKit Go.Shelf
set_option linter.unusedVariables false
set_option maxRecDepth 100000
attribute [local go_sem] Oper.semAt_some

/-- The best of those that have come. -/
def bstL (ks : List KE) (pre : List (Fin ks.length)) : Int := pre.foldl (fun b i => better (pureL ks) b i.1) (-1)
theorem bstL_snoc (ks : List KE) (pre : List (Fin ks.length)) (x : Fin ks.length) : bstL ks (pre ++ [x]) = better (pureL ks) (bstL ks pre) x.1 := by simp [bstL]
theorem bstL_is (ks : List KE) (now : Int) : ∀ k, k ≤ ks.length → bstL ks (selK ks (fun x => x.p.sends now) k) = bestI (pureL ks) now k
  | 0, _ => rfl
  | k + 1, h => by
    have ih := bstL_is ks now k (by omega)
    have hk : k < ks.length := by omega
    have hg : (pureL ks)[k]? = some ks[k].p := by rw [List.getElem?_map, List.getElem?_eq_getElem hk]; rfl
    unfold bestI
    rw [hg]
    dsimp only
    cases hs : (ks[k]).p.sends now
    · rw [selK_no hk hs, ih, if_neg (by simp)]
    · rw [selK_yes hk hs, bstL_snoc, ih, if_pos rfl]
theorem bstL_ways (ks : List KE) (pre : List (Fin ks.length)) : bstL ks pre = -1 ∨ ∃ i : Fin ks.length, bstL ks pre = (i.1 : Int) := by
  have : ∀ (pre : List (Fin ks.length)) (b : Int), (b = -1 ∨ ∃ i : Fin ks.length, b = (i.1 : Int)) → (pre.foldl (fun b i => better (pureL ks) b i.1) b = -1 ∨ ∃ i : Fin ks.length, pre.foldl (fun b i => better (pureL ks) b i.1) b = (i.1 : Int)) := by
    intro pre
    induction pre with
    | nil => intro b h; exact h
    | cons x r ih =>
      intro b h
      refine ih _ ?_
      show better (pureL ks) b x.1 = -1 ∨ ∃ i : Fin ks.length, better (pureL ks) b x.1 = (i.1 : Int)
      rcases better_ways (pureL ks) b x.1 with e | e
      · rw [e]; exact h
      · exact Or.inr ⟨x, e⟩
  exact this pre (-1) (Or.inl rfl)
theorem better_low {ks : List KE} {b : Int} (hb : b < 0) (x : Fin ks.length) : better (pureL ks) b x.1 = (x.1 : Int) := by
  unfold better
  rw [List.getElem?_map, List.getElem?_eq_getElem x.2]
  dsimp only [Option.map]
  split
  · rfl
  · rw [if_pos (Or.inl hb)]
theorem better_two {ks : List KE} (i x : Fin ks.length) : better (pureL ks) (i.1 : Int) x.1 = if aheadB ks[x].p ks[i].p = true then (x.1 : Int) else (i.1 : Int) := by
  unfold better
  rw [List.getElem?_map, List.getElem?_eq_getElem x.2]
  dsimp only [Option.map]
  rw [Int.toNat_natCast, List.getElem?_map, List.getElem?_eq_getElem i.2]
  dsimp only [Option.map]
  have h : ¬ ((i.1 : Int) < 0) := by omega
  simp only [h, false_or]
  rfl
set_option maxHeartbeats 4000000 in
theorem choose_any (v : Value) (ks : List KE) (now : Int) (w : World) (hv : ChainAt w v ks) (hl : ks.length ≤ 1000000) :
    Calls Tryz.prog 10 #[v, .int .i64 now] w fun e w' => e = .returned (.int .i64 (chooseI (pureL ks) now)) ∧ Touch (fun _ => False) w w' := by
  obtain ⟨va, vc, rfl, hmx⟩ := ValsAt.form hv.vals
  have HV' : Hid (∀ w', Below w.heap.size w w' → ChainAt w' (.slice va ks.length vc) ks) := fun w' t => hv.keep (below_touch t)
  have HC : Hid (chooseI (pureL ks) now = bstL ks (selK ks (fun x => x.p.sends now) ks.length)) := by show _ = _; rw [bstL_is ks now _ (Nat.le_refl _)]; simp [chooseI]
  generalize chooseI (pureL ks) now = CH at HC ⊢
  clear hv hmx
  refine (callsIn_wide (n := 6)).1 ?_
  refine callsIn_of_wp_marks Tryz.func10 rfl trivial ?_ rfl
  simp only [Tryz.ntmps10, List.size_toArray, List.length_cons, List.length_nil, Nat.reduceAdd, Nat.reduceSub, Array.replicate_succ, Array.replicate_zero, List.push_toArray, List.append_toArray, List.nil_append, List.cons_append]
  gi_wp2_with fail
  have bL := (Boxed.new w 34 (.slice va ks.length vc)).alloc (.cells #[.int .i64 (-1)] 3)
  have bB := Boxed.new (w.alloc (.cells #[.slice va ks.length vc] 34)) 3 (.int .i64 (-1))
  rw [World.size_alloc] at bB
  have t2 : Hid (Touch (fun _ => False) w ((w.alloc (.cells #[.slice va ks.length vc] 34)).alloc (.cells #[.int .i64 (-1)] 3))) := ((Touch.refl _ w).alloc _).alloc _
  generalize (w.alloc (.cells #[.slice va ks.length vc] 34)).alloc (.cells #[.int .i64 (-1)] 3) = w2 at bL bB t2 ⊢
  refine ⟨trivial, ?_⟩
  refine (callsIn_wide.2 (during_any w2 va ks.length vc now 26)).mono ?_
  rintro e w3 ⟨b0, b1, b2, rfl, dd⟩
  have bL3 := boxed_touch bL dd.t
  have bB3 := boxed_touch bB dd.t
  have t3 : Hid (Touch (fun _ => False) w w3) := t2.out.trans dd.t
  have hs2 := bB.lt
  have hs3 := dd.t.size
  clear bL bB
  gi_wp2_with fail
  have hKB : ∀ w', Touch (fun k => k = w.heap.size + 1 ∨ w3.heap.size ≤ k) w3 w' → Below w.heap.size w w' := fun w' tt =>
    ((t3.out.mono (fun _ _ h => h.elim)).trans tt).below (Nat.le_refl _) (fun k hk h => by rcases h with h | h <;> omega)
  have hlow : ∀ (b : Nat) (v : Value) w', Touch (fun k => k = w.heap.size + 1 ∨ w3.heap.size ≤ k) w3 w' → w2.heap.size ≤ b → w3.cell? ⟨b, 0, none⟩ = some v → w'.cell? ⟨b, 0, none⟩ = some v := fun b v w' tt hb hc =>
    (tt.cell (p := ⟨b, 0, none⟩) (lt_of_cell hc) (fun h => by have := lt_of_cell hc; rcases h with h | h <;> (dsimp only at h; omega))).trans hc
  refine wpIn_rangeFunc_ownH rfl (by omega) (gf := 53) (lb := #[.pointer (some ⟨b0, 0, none⟩), .pointer (some ⟨b1, 0, none⟩), .pointer (some ⟨b2, 0, none⟩)]) rfl trivial (enters_of Tryz.func53 (by kernel_rfl) rfl)
    (snd_stops 5 (by omega) b0 b1 b2 (fun k => k = w.heap.size + 1 ∨ w3.heap.size ≤ k) va vc ks now w3 hl (fun w' tt => HV'.out w' (hKB w' tt)) (fun w' tt => hlow _ _ w' tt dd.l0 dd.c0) (fun w' tt => hlow _ _ w' tt dd.l1 dd.c1) (fun w' tt => hlow _ _ w' tt dd.l2 dd.c2))
    (fun h k => h.trans k) (touchK_b (fun k hk => Or.inr hk)) (Below.refl _ _) (fun _ => rfl)
    (fun pre W => Boxed W (w.heap.size + 1) 3 (.int .i64 (bstL ks pre)) ∧ Touch (fun k => k = w.heap.size + 1) w3 W)
    (fun _ _ _ => False)
    (OwnFrom.and (Own.from (boxed_own _ _ (fun pre => .int .i64 (bstL ks pre))) _) (ownFrom_touch (Nat.le_refl _)))
    (fun _ _ _ _ _ hs _ _ => hs)
    ⟨bB3, Touch.refl _ _⟩
    (fun i a' W => ∃ Bx, w3.heap.size ≤ Bx ∧ KBox W Bx ks[i].p.id ks[i].p.kind ks[i].a ks[i].p.sec.length ks[i].c ks[i].p.sf ks[i].p.su ks[i].p.tf ks[i].p.tu ∧ a' = { tmps := #[.slice va ks.length vc, .int .i64 now, .pointer (some ⟨w.heap.size, 0, none⟩), undef, .int .i64 0, .pointer (some ⟨w.heap.size + 1, 0, none⟩), .int .i64 (i.1 : Int), .pointer (some ⟨Bx, 0, none⟩), .slice va ks.length vc, .int .i64 now, .func (.func 53) #[] #[.pointer (some ⟨b0, 0, none⟩), .pointer (some ⟨b1, 0, none⟩), .pointer (some ⟨b2, 0, none⟩)], .int .i64 (i.1 : Int), ks[i].agg, undef, undef, undef, undef, undef, undef, undef, undef, undef, undef, undef, undef], defers := [] })
    (fun x a' s X Y row hs hg hr => by obtain ⟨Bx, h1, h2, h3⟩ := hs; exact ⟨Bx, h1, kbox_own (β := Unit) _ Bx () X Y row h2 hg hr, h3⟩)
    ?assign ?body ?done ?stop
  case assign =>
    rintro l pre x W K ⟨hb, ht⟩ hK
    gi_wp2
    exact hK _ _ ((KeepsOthers.alloc _ _).from _) ((Touch.refl _ W).alloc _) ⟨hb.alloc _, ht.alloc _⟩ ⟨W.heap.size, ht.size, kbox_new W _ _ _ _ _ _ _ _ _, rfl⟩
  case body =>
    rintro l pre x a' W hll ⟨r, hr⟩ ⟨hb, ht⟩ ⟨Bx, hBx, hX, rfl⟩ hlt
    have HN : Hid (bstL ks (pre ++ [x]) = better (pureL ks) (bstL ks pre) x.1) := bstL_snoc ks pre x
    have hcb := aft_cell hb.cell
    have HT : Hid (Touch (fun k => k = w.heap.size + 1) w3 W) := ht
    have HB : Hid (Boxed W (w.heap.size + 1) 3 (.int .i64 (bstL ks pre))) := hb
    gi_wp2_with fail
    rcases bstL_ways ks pre with e | ⟨i, e⟩
    · rw [e] at hcb HN HB
      have HV1 : Hid (better (pureL ks) (-1) x.1 = (x.1 : Int)) := better_low (by omega) x
      refine wpInR_region_aft (by kernel_rfl) (by kernel_rfl) (by kernel_rfl) ?_
      repeat (first | go_big_quiet_skip | (go_big_quiet_want; go_big_quiet_op; first | go_big_quiet_on | (refine Exists.intro _ ⟨fun _ => rfl, ?_⟩; go_big_quiet_on)))
      refine wpQuiet_nil ?_
      rintro wq ⟨⟨_, hgq⟩, rfl⟩
      have hb2 := boxed_touch HB.out hgq
      have hc2 := hb2.cell
      have hf2 := hb2.frozen
      gi_wp2
      exact ⟨(keepsFrom_touch hgq).trans ((KeepsOthers.setCell _ _ _).from _), Touch.setCell (p := ⟨w.heap.size + 1, 0, none⟩) (hgq.mono (fun _ _ h => h.elim)) (Or.inl (Or.inl rfl)) _, by rw [HN.out, HV1.out]; exact hb2.set _, Touch.setCell (p := ⟨w.heap.size + 1, 0, none⟩) (HT.out.trans (hgq.mono (fun _ _ h => h.elim))) (Or.inl rfl) _⟩
    · rw [e] at hcb HN HB
      have HV0 : Hid (better (pureL ks) (i.1 : Int) x.1 = if aheadB ks[x].p ks[i].p = true then (x.1 : Int) else (i.1 : Int)) := better_two i x
      have hwc := HV'.out W (hKB W (HT.out.mono (fun _ _ h => Or.inl h)))
      obtain ⟨-, gR, off, cR, eR, hcell⟩ := ChainAt.one hwc (List.getElem?_eq_getElem i.2)
      cases eR
      have y0 := aft_cell (show W.cell? ⟨gR, off + i.1 * 7, none⟩ = some (.int .u8 ks[i].p.id) by exact hcell 0 _ rfl)
      have y1 := aft_cell (show W.cell? ⟨gR, off + i.1 * 7 + 1, none⟩ = some (.int .u16 ks[i].p.kind) by rw [Nat.add_assoc]; exact hcell 1 _ rfl)
      have y2 := aft_cell (show W.cell? ⟨gR, off + i.1 * 7 + 2, none⟩ = some (.slice ks[i].a ks[i].p.sec.length ks[i].c) by rw [Nat.add_assoc]; exact hcell 2 _ rfl)
      have y3 := aft_cell (show W.cell? ⟨gR, off + i.1 * 7 + 3, none⟩ = some (.int .i64 ks[i].p.sf) by rw [Nat.add_assoc]; exact hcell 3 _ rfl)
      have y4 := aft_cell (show W.cell? ⟨gR, off + i.1 * 7 + 4, none⟩ = some (.int .i64 ks[i].p.su) by rw [Nat.add_assoc]; exact hcell 4 _ rfl)
      have y5 := aft_cell (show W.cell? ⟨gR, off + i.1 * 7 + 5, none⟩ = some (.int .i64 ks[i].p.tf) by rw [Nat.add_assoc]; exact hcell 5 _ rfl)
      have y6 := aft_cell (show W.cell? ⟨gR, off + i.1 * 7 + 6, none⟩ = some (.int .i64 ks[i].p.tu) by rw [Nat.add_assoc]; exact hcell 6 _ rfl)
      have hlb := aft_cell ((HT.out.cell (p := ⟨w.heap.size, 0, none⟩) bL3.lt (fun h => by dsimp only at h; omega)).trans bL3.cell)
      have x0 := aft_cell hX.c0
      have x1 := aft_cell hX.c1
      have x2 := aft_cell hX.c2
      have x3 := aft_cell hX.c3
      have x4 := aft_cell hX.c4
      have x5 := aft_cell hX.c5
      have x6 := aft_cell hX.c6
      have hi0 : ¬ ((i.1 : Int) < 0) := by omega
      have hi1 : (0 : Int) ≤ (i.1 : Int) := by omega
      have hi2 : (i.1 : Int) < (ks.length : Int) := by have := i.2; omega
      have HA := fun w => ahead_any ks[x] ks[i] w
      clear hcell hwc hX
      refine wpInR_region_aft (by kernel_rfl) (by kernel_rfl) (by kernel_rfl) ?_
      repeat (first | go_big_quiet_skip | (go_big_quiet_want; go_big_quiet_op; first | go_big_quiet_on | (refine Exists.intro _ ⟨fun _ => rfl, ?_⟩; go_big_quiet_on)))
      go_big_quiet_want; go_big_quiet_op; refine Exists.intro _ ⟨fun u => Aft.call (HA _), ?_⟩; go_big_quiet_on
      repeat (first | go_big_quiet_skip | (go_big_quiet_want; go_big_quiet_op; first | go_big_quiet_on | (refine Exists.intro _ ⟨fun _ => rfl, ?_⟩; go_big_quiet_on)))
      refine wpQuiet_nil ?_
      rintro wq ⟨⟨_, hgq⟩, rfl⟩
      clear y0 y1 y2 y3 y4 y5 y6 x0 x1 x2 x3 x4 x5 x6 hlb HA
      generalize aheadB ks[x].p ks[i].p = A at *
      cases A
      · have HV1 : Hid (better (pureL ks) (i.1 : Int) x.1 = (i.1 : Int)) := by show _ = _; rw [HV0.out]; rfl
        gi_wp2
        exact ⟨keepsFrom_touch hgq, hgq.mono (fun _ _ h => h.elim), by rw [HN.out, HV1.out]; exact boxed_touch HB.out hgq, HT.out.trans (hgq.mono (fun _ _ h => h.elim))⟩
      · have HV1 : Hid (better (pureL ks) (i.1 : Int) x.1 = (x.1 : Int)) := by show _ = _; rw [HV0.out]; rfl
        have hb2 := boxed_touch HB.out hgq
        have hc2 := hb2.cell
        have hf2 := hb2.frozen
        gi_wp2
        exact ⟨(keepsFrom_touch hgq).trans ((KeepsOthers.setCell _ _ _).from _), Touch.setCell (p := ⟨w.heap.size + 1, 0, none⟩) (hgq.mono (fun _ _ h => h.elim)) (Or.inl (Or.inl rfl)) _, by rw [HN.out, HV1.out]; exact hb2.set _, Touch.setCell (p := ⟨w.heap.size + 1, 0, none⟩) (HT.out.trans (hgq.mono (fun _ _ h => h.elim))) (Or.inl rfl) _⟩
  case done =>
    rintro D xs W hD rfl ⟨hb, ht⟩ hK
    have hcb := hb.cell
    gi_wp2
    refine ⟨by simp, .inl ⟨_, _, rfl, run_takeDeferred hK, ?_⟩⟩
    refine ⟨_, results_tmp rfl _ _ _, by rw [HC.out]; rfl, ?_⟩
    exact (t3.out.trans' ht (fun k hk e => by omega)).grown (grownBy_putObj' W D _) (fun k hk => by cases hk; exact Or.inr (by omega))
  case stop =>
    rintro D c pre W _ _ h _
    exact h.elim
end Go.Proofs.YtjjgbcjgmjggnaaGreat

namespace Go.Proofs.YtjjgbcjgmjggnaaGreat
open Go.RowKit Go.Shelf
set_option linter.unusedVariables false
set_option maxRecDepth 100000

set_option maxHeartbeats 2000000 in
theorem open_key (va ka : Option Addr) (vc kc rn nn : Nat) (ks : List KE) (now KD KO EE SQ : Int) (O : List Value) (w : World) (hE : ¬ EE = 0) (hOl' : O.length = 8) (hO1 : ∀ v ∈ O, v.oneCell' = true)
    (HCK : Calls Tryz.prog 9 #[.slice ka ks.length kc] w fun e w' => e = .returned (.tuple #[.int .i64 EE, .int .i64 SQ]) ∧ Touch (fun _ => False) w w')
    (HSD : Hid (∀ w', Touch (fun _ => False) w w' → Calls Tryz.prog 69 #[.slice va rn vc] w' fun e w'' => e = .returned (.tuple #[.int .u16 KD, .agg O.toArray]) ∧ Touch (fun _ => False) w' w''))
    (HKO : Hid (∀ w', Touch (fun _ => False) w w' → Calls Tryz.prog 78 #[.slice ka ks.length kc] w' fun e w'' => e = .returned (.int .u16 KO) ∧ w' = w'')) :
    Calls Tryz.prog 41 #[.slice va rn vc, .int .i64 nn, .slice ka ks.length kc, .int .i64 now] w fun e w' => e = .returned (.tuple #[.int .u32 0, .int .i64 26]) ∧ Touch (fun _ => False) w w' := by
  go_enter Tryz.func41, Tryz.ntmps41
  go_wp2_with fail
  refine Calls.mono HCK ?_
  rintro e w1 ⟨rfl, t1⟩
  have T1 : Hid (Touch (fun _ => False) w w1) := t1
  clear t1
  go_wp2_with fail
  go_ret2
  exact ⟨rfl, T1.out⟩
set_option maxHeartbeats 2000000 in
theorem open_auth (va ka : Option Addr) (vc kc rn nn : Nat) (ks : List KE) (now KD KO EE SQ : Int) (O : List Value) (w : World) (hK : ¬ KD = KO) (hOl' : O.length = 8) (hO1 : ∀ v ∈ O, v.oneCell' = true)
    (HCK : Calls Tryz.prog 9 #[.slice ka ks.length kc] w fun e w' => e = .returned (.tuple #[.int .i64 0, .int .i64 0]) ∧ Touch (fun _ => False) w w')
    (HSD : Hid (∀ w', Touch (fun _ => False) w w' → Calls Tryz.prog 69 #[.slice va rn vc] w' fun e w'' => e = .returned (.tuple #[.int .u16 KD, .agg O.toArray]) ∧ Touch (fun _ => False) w' w''))
    (HKO : Hid (∀ w', Touch (fun _ => False) w w' → Calls Tryz.prog 78 #[.slice ka ks.length kc] w' fun e w'' => e = .returned (.int .u16 KO) ∧ w' = w'')) :
    Calls Tryz.prog 41 #[.slice va rn vc, .int .i64 nn, .slice ka ks.length kc, .int .i64 now] w fun e w' => e = .returned (.tuple #[.int .u32 0, .int .i64 25]) ∧ Touch (fun _ => False) w w' := by
  go_enter Tryz.func41, Tryz.ntmps41
  go_wp2_with fail
  refine Calls.mono HCK ?_
  rintro e w1 ⟨rfl, t1⟩
  have T1 : Hid (Touch (fun _ => False) w w1) := t1
  clear t1
  go_wp2_with fail
  refine Calls.mono (HSD.out w1 T1.out) ?_
  rintro e w2 ⟨rfl, t2⟩
  have T2 : Hid (Touch (fun _ => False) w w2) := T1.out.trans t2
  clear t2 T1
  have R3 := (row_new w2 122 #[.int .u8 0, .int .u8 0, .int .u8 0, .int .u8 0, .int .u8 0, .int .u8 0, .int .u8 0, .int .u8 0]).setRow O.toArray
  have T3 : Hid (Touch (fun _ => False) w ((w2.alloc (.cells #[.int .u8 0, .int .u8 0, .int .u8 0, .int .u8 0, .int .u8 0, .int .u8 0, .int .u8 0, .int .u8 0] 122)).setRow w2.heap.size O.toArray)) := Touch.setRow (T2.out.alloc _) (Or.inr T2.out.size) _
  rw [List.toList_toArray] at R3
  have hko := HKO.out _ T3.out
  go_wp2_with (refine wpList_store_row rfl 122 (.tmp 13) (.tmp 25) rfl w2.heap.size O.toArray rfl rfl 122 _ (row_new w2 122 _) (by rw [Tryz.info8d, List.size_toArray, hOl']) (by simp [hOl']) (all_oneCell hO1) ?_)
  generalize (w2.alloc (.cells #[.int .u8 0, .int .u8 0, .int .u8 0, .int .u8 0, .int .u8 0, .int .u8 0, .int .u8 0, .int .u8 0] 122)).setRow w2.heap.size O.toArray = w3 at R3 T3 hko ⊢
  generalize w2.heap.size = g3 at R3 ⊢
  refine Calls.mono hko ?_
  rintro e w3' ⟨rfl, rfl⟩
  clear T2 hko
  go_wp2_with fail
  go_ret2
  exact ⟨rfl, T3.out⟩
set_option maxHeartbeats 2000000 in
theorem open_none (va ka : Option Addr) (vc kc rn nn : Nat) (ks : List KE) (now KD KO EE SQ : Int) (O : List Value) (w : World) (hK : KD = KO) (h1 : ¬ KD = 1) (h2 : ¬ KD = 2) (hOl' : O.length = 8) (hO1 : ∀ v ∈ O, v.oneCell' = true)
    (HCK : Calls Tryz.prog 9 #[.slice ka ks.length kc] w fun e w' => e = .returned (.tuple #[.int .i64 0, .int .i64 0]) ∧ Touch (fun _ => False) w w')
    (HSD : Hid (∀ w', Touch (fun _ => False) w w' → Calls Tryz.prog 69 #[.slice va rn vc] w' fun e w'' => e = .returned (.tuple #[.int .u16 KD, .agg O.toArray]) ∧ Touch (fun _ => False) w' w''))
    (HKO : Hid (∀ w', Touch (fun _ => False) w w' → Calls Tryz.prog 78 #[.slice ka ks.length kc] w' fun e w'' => e = .returned (.int .u16 KO) ∧ w' = w''))
    (HWH : Hid (∀ w', Touch (fun _ => False) w w' → Calls Tryz.prog 81 #[.slice va rn vc, .int .i64 nn] w' fun e w'' => e = .returned (.int .i64 EE) ∧ Touch (fun _ => False) w' w'')) :
    Calls Tryz.prog 41 #[.slice va rn vc, .int .i64 nn, .slice ka ks.length kc, .int .i64 now] w fun e w' => e = .returned (.tuple #[.int .u32 0, .int .i64 EE]) ∧ Touch (fun _ => False) w w' := by
  subst hK
  go_enter Tryz.func41, Tryz.ntmps41
  go_wp2_with fail
  refine Calls.mono HCK ?_
  rintro e w1 ⟨rfl, t1⟩
  have T1 : Hid (Touch (fun _ => False) w w1) := t1
  clear t1
  go_wp2_with fail
  refine Calls.mono (HSD.out w1 T1.out) ?_
  rintro e w2 ⟨rfl, t2⟩
  have T2 : Hid (Touch (fun _ => False) w w2) := T1.out.trans t2
  clear t2 T1
  have R3 := (row_new w2 122 #[.int .u8 0, .int .u8 0, .int .u8 0, .int .u8 0, .int .u8 0, .int .u8 0, .int .u8 0, .int .u8 0]).setRow O.toArray
  have T3 : Hid (Touch (fun _ => False) w ((w2.alloc (.cells #[.int .u8 0, .int .u8 0, .int .u8 0, .int .u8 0, .int .u8 0, .int .u8 0, .int .u8 0, .int .u8 0] 122)).setRow w2.heap.size O.toArray)) := Touch.setRow (T2.out.alloc _) (Or.inr T2.out.size) _
  rw [List.toList_toArray] at R3
  have hko := HKO.out _ T3.out
  go_wp2_with (refine wpList_store_row rfl 122 (.tmp 13) (.tmp 25) rfl w2.heap.size O.toArray rfl rfl 122 _ (row_new w2 122 _) (by rw [Tryz.info8d, List.size_toArray, hOl']) (by simp [hOl']) (all_oneCell hO1) ?_)
  generalize (w2.alloc (.cells #[.int .u8 0, .int .u8 0, .int .u8 0, .int .u8 0, .int .u8 0, .int .u8 0, .int .u8 0, .int .u8 0] 122)).setRow w2.heap.size O.toArray = w3 at R3 T3 hko ⊢
  generalize w2.heap.size = g3 at R3 ⊢
  refine Calls.mono hko ?_
  rintro e w3' ⟨rfl, rfl⟩
  clear T2 hko
  go_wp2_with fail
  refine Calls.mono (HWH.out w3 T3.out) ?_
  rintro e w4 ⟨rfl, t4⟩
  have T4 : Hid (Touch (fun _ => False) w w4) := T3.out.trans t4
  go_wp2_with fail
  go_ret2
  exact ⟨rfl, T4.out⟩
set_option maxHeartbeats 2000000 in
theorem open_plain (va ka : Option Addr) (vc kc rn nn : Nat) (ks : List KE) (now KD KO EE SQ : Int) (O : List Value) (w : World) (hK : KD = 1) (hK2 : KO = 1) (hOl' : O.length = 8) (hO1 : ∀ v ∈ O, v.oneCell' = true)
    (HCK : Calls Tryz.prog 9 #[.slice ka ks.length kc] w fun e w' => e = .returned (.tuple #[.int .i64 0, .int .i64 0]) ∧ Touch (fun _ => False) w w')
    (HSD : Hid (∀ w', Touch (fun _ => False) w w' → Calls Tryz.prog 69 #[.slice va rn vc] w' fun e w'' => e = .returned (.tuple #[.int .u16 KD, .agg O.toArray]) ∧ Touch (fun _ => False) w' w''))
    (HKO : Hid (∀ w', Touch (fun _ => False) w w' → Calls Tryz.prog 78 #[.slice ka ks.length kc] w' fun e w'' => e = .returned (.int .u16 KO) ∧ w' = w''))
    (HOP : Hid (∀ w' b0 b1 b2, Touch (fun _ => False) w w' → w'.cell? ⟨b0, 0, none⟩ = some (.slice ka ks.length kc) → w'.cell? ⟨b1, 0, none⟩ = some (.func (.func 50) #[] #[]) → w'.cell? ⟨b2, 0, none⟩ = some (.int .i64 now) → Calls Tryz.prog 79 #[.slice va rn vc, .int .i64 nn, .agg O.toArray, .func (.func 53) #[] #[.pointer (some ⟨b0, 0, none⟩), .pointer (some ⟨b1, 0, none⟩), .pointer (some ⟨b2, 0, none⟩)]] w' fun e w'' => e = .returned (.int .i64 EE) ∧ Touch (fun _ => False) w' w'')) :
    Calls Tryz.prog 41 #[.slice va rn vc, .int .i64 nn, .slice ka ks.length kc, .int .i64 now] w fun e w' => e = .returned (.tuple #[.int .u32 0, .int .i64 EE]) ∧ Touch (fun _ => False) w w' := by
  subst hK hK2
  go_enter Tryz.func41, Tryz.ntmps41
  go_wp2_with fail
  refine Calls.mono HCK ?_
  rintro e w1 ⟨rfl, t1⟩
  have T1 : Hid (Touch (fun _ => False) w w1) := t1
  clear t1
  go_wp2_with fail
  refine Calls.mono (HSD.out w1 T1.out) ?_
  rintro e w2 ⟨rfl, t2⟩
  have T2 : Hid (Touch (fun _ => False) w w2) := T1.out.trans t2
  clear t2 T1
  have R3 := (row_new w2 122 #[.int .u8 0, .int .u8 0, .int .u8 0, .int .u8 0, .int .u8 0, .int .u8 0, .int .u8 0, .int .u8 0]).setRow O.toArray
  have T3 : Hid (Touch (fun _ => False) w ((w2.alloc (.cells #[.int .u8 0, .int .u8 0, .int .u8 0, .int .u8 0, .int .u8 0, .int .u8 0, .int .u8 0, .int .u8 0] 122)).setRow w2.heap.size O.toArray)) := Touch.setRow (T2.out.alloc _) (Or.inr T2.out.size) _
  rw [List.toList_toArray] at R3
  have hko := HKO.out _ T3.out
  go_wp2_with (refine wpList_store_row rfl 122 (.tmp 13) (.tmp 25) rfl w2.heap.size O.toArray rfl rfl 122 _ (row_new w2 122 _) (by rw [Tryz.info8d, List.size_toArray, hOl']) (by simp [hOl']) (all_oneCell hO1) ?_)
  generalize (w2.alloc (.cells #[.int .u8 0, .int .u8 0, .int .u8 0, .int .u8 0, .int .u8 0, .int .u8 0, .int .u8 0, .int .u8 0] 122)).setRow w2.heap.size O.toArray = w3 at R3 T3 hko ⊢
  generalize w2.heap.size = g3 at R3 ⊢
  refine Calls.mono hko ?_
  rintro e w3' ⟨rfl, rfl⟩
  clear T2 hko
  go_upto_region 9 with fail
  have R4 : Row w3.drew g3 122 O := R3.keep ((Touch.refl _ _).drew)
  have T4 : Hid (Touch (fun _ => False) w w3.drew) := T3.out.trans ((Touch.refl _ _).drew)
  refine wp_region_held_drew (S := fun w' => Row w' g3 122 O) (by kernel_rfl) R3 (fun hHeld => ?_)
  refine wpAnyH_take (i := 0) (oi := ⟨some 33, _, _, _, _, _⟩) (v := .slice va rn vc) rfl (by kernel_rfl) (by kernel_rfl) (by kernel_rfl) (fun _ _ _ h => h) (Or.inl ⟨by rfl, fun w hw => by go_simp⟩) (by assumption) ?_
  simp only [Act.put, List.setIfInBounds_toArray, List.set_cons_zero, List.set_cons_succ]
  refine wpAnyH_take (i := 1) (oi := ⟨some 34, _, _, _, _, _⟩) (v := .int .i64 nn) rfl (by kernel_rfl) (by kernel_rfl) (by kernel_rfl) (fun _ _ _ h => h) (Or.inl ⟨by rfl, fun w hw => by go_simp⟩) (by assumption) ?_
  simp only [Act.put, List.setIfInBounds_toArray, List.set_cons_zero, List.set_cons_succ]
  refine wpAnyH_take (i := 2) (oi := ⟨some 35, _, _, _, _, _⟩) (v := .agg O.toArray) rfl (by kernel_rfl) (by kernel_rfl) (by kernel_rfl) (fun _ _ _ h => h) (yieldsIf_load_mid (by rfl) _ _ rfl _ _ rfl O _ (fun w h => au_range h) Tryz.underlying122 rfl (by rw [Tryz.info8d, hOl'])) (by assumption) ?_
  simp only [Act.put, List.setIfInBounds_toArray, List.set_cons_zero, List.set_cons_succ]
  refine wpAnyH_take (i := 3) (oi := ⟨some 36, _, _, _, _, _⟩) (v := .slice ka ks.length kc) rfl (by kernel_rfl) (by kernel_rfl) (by kernel_rfl) (fun _ _ _ h => h) (Or.inl ⟨by rfl, fun w hw => by go_simp⟩) (by assumption) ?_
  simp only [Act.put, List.setIfInBounds_toArray, List.set_cons_zero, List.set_cons_succ]
  refine wpAnyH_take (i := 4) (oi := ⟨some 37, _, _, _, _, _⟩) (v := .int .i64 now) rfl (by kernel_rfl) (by kernel_rfl) (by kernel_rfl) (fun _ _ _ h => h) (Or.inl ⟨by rfl, fun w hw => by go_simp⟩) (by assumption) ?_
  simp only [Act.put, List.setIfInBounds_toArray, List.set_cons_zero, List.set_cons_succ]
  refine wpAnyH_ready (rs := [5]) (by kernel_rfl) (by simp) ?_
  refine AllReadyH.cons rfl (fun K hK => ?_) AllReadyH.nil
  go_simp
  refine Calls.mono (during_any w3.drew ka ks.length kc now 50) ?_
  rintro e w5 ⟨b0, b1, b2, rfl, dd⟩
  have R5 := R4.keep dd.t
  have T5 : Hid (Touch (fun _ => False) w w5) := T4.out.trans dd.t
  have hop := HOP.out w5 b0 b1 b2 T5.out dd.c0 dd.c1 dd.c2
  clear T4 R4
  refine hK.out _ _ R5 (fun hHeld => ?_)
  clear hK K
  refine wpAnyH_ready (rs := [6]) (by kernel_rfl) (by simp) ?_
  refine AllReadyH.cons rfl (fun K hK => ?_) AllReadyH.nil
  go_simp
  refine Calls.mono hop ?_
  rintro e w6 ⟨rfl, t6⟩
  have R6 := R5.keep t6
  have T6 : Hid (Touch (fun _ => False) w w6) := T5.out.trans t6
  clear T5 R5 dd t6 hop
  refine hK.out _ _ R6 (fun hHeld => ?_)
  clear hK K
  refine wpAnyH_take (i := 7) (oi := ⟨some 8, _, _, _, _, _⟩) (v := .int .u32 0) rfl (by kernel_rfl) (by kernel_rfl) (by kernel_rfl) (fun _ _ _ h => h) (Or.inl ⟨by rfl, fun w hw => by go_simp⟩) (by assumption) ?_
  simp only [Act.put, List.setIfInBounds_toArray, List.set_cons_zero, List.set_cons_succ]
  refine wpAnyH_take (i := 8) (oi := ⟨some 9, _, _, _, _, _⟩) (v := .int .i64 EE) rfl (by kernel_rfl) (by kernel_rfl) (by kernel_rfl) (fun _ _ _ h => h) (Or.inl ⟨by rfl, fun w hw => by go_simp⟩) (by assumption) ?_
  simp only [Act.put, List.setIfInBounds_toArray, List.set_cons_zero, List.set_cons_succ]
  refine wpAnyH_done (by kernel_rfl) ?_ _
  go_wp2_with fail
  go_ret2
  exact ⟨rfl, T6.out⟩
set_option maxHeartbeats 2000000 in
theorem open_digest (va ka : Option Addr) (vc kc rn nn : Nat) (ks : List KE) (now KD KO EE SQ : Int) (O : List Value) (w : World) (hK : KD = 2) (hK2 : KO = 2) (hOl' : O.length = 8) (hO1 : ∀ v ∈ O, v.oneCell' = true)
    (HCK : Calls Tryz.prog 9 #[.slice ka ks.length kc] w fun e w' => e = .returned (.tuple #[.int .i64 0, .int .i64 0]) ∧ Touch (fun _ => False) w w')
    (HSD : Hid (∀ w', Touch (fun _ => False) w w' → Calls Tryz.prog 69 #[.slice va rn vc] w' fun e w'' => e = .returned (.tuple #[.int .u16 KD, .agg O.toArray]) ∧ Touch (fun _ => False) w' w''))
    (HKO : Hid (∀ w', Touch (fun _ => False) w w' → Calls Tryz.prog 78 #[.slice ka ks.length kc] w' fun e w'' => e = .returned (.int .u16 KO) ∧ w' = w''))
    (HOD : Hid (∀ w' b0 b1 b2, Touch (fun _ => False) w w' → w'.cell? ⟨b0, 0, none⟩ = some (.slice ka ks.length kc) → w'.cell? ⟨b1, 0, none⟩ = some (.func (.func 50) #[] #[]) → w'.cell? ⟨b2, 0, none⟩ = some (.int .i64 now) → Calls Tryz.prog 80 #[.slice va rn vc, .int .i64 nn, .agg O.toArray, .func (.func 53) #[] #[.pointer (some ⟨b0, 0, none⟩), .pointer (some ⟨b1, 0, none⟩), .pointer (some ⟨b2, 0, none⟩)]] w' fun e w'' => e = .returned (.tuple #[.int .u32 SQ, .int .i64 EE]) ∧ Touch (fun _ => False) w' w'')) :
    Calls Tryz.prog 41 #[.slice va rn vc, .int .i64 nn, .slice ka ks.length kc, .int .i64 now] w fun e w' => e = .returned (.tuple #[.int .u32 SQ, .int .i64 EE]) ∧ Touch (fun _ => False) w w' := by
  subst hK hK2
  go_enter Tryz.func41, Tryz.ntmps41
  go_wp2_with fail
  refine Calls.mono HCK ?_
  rintro e w1 ⟨rfl, t1⟩
  have T1 : Hid (Touch (fun _ => False) w w1) := t1
  clear t1
  go_wp2_with fail
  refine Calls.mono (HSD.out w1 T1.out) ?_
  rintro e w2 ⟨rfl, t2⟩
  have T2 : Hid (Touch (fun _ => False) w w2) := T1.out.trans t2
  clear t2 T1
  have R3 := (row_new w2 122 #[.int .u8 0, .int .u8 0, .int .u8 0, .int .u8 0, .int .u8 0, .int .u8 0, .int .u8 0, .int .u8 0]).setRow O.toArray
  have T3 : Hid (Touch (fun _ => False) w ((w2.alloc (.cells #[.int .u8 0, .int .u8 0, .int .u8 0, .int .u8 0, .int .u8 0, .int .u8 0, .int .u8 0, .int .u8 0] 122)).setRow w2.heap.size O.toArray)) := Touch.setRow (T2.out.alloc _) (Or.inr T2.out.size) _
  rw [List.toList_toArray] at R3
  have hko := HKO.out _ T3.out
  go_wp2_with (refine wpList_store_row rfl 122 (.tmp 13) (.tmp 25) rfl w2.heap.size O.toArray rfl rfl 122 _ (row_new w2 122 _) (by rw [Tryz.info8d, List.size_toArray, hOl']) (by simp [hOl']) (all_oneCell hO1) ?_)
  generalize (w2.alloc (.cells #[.int .u8 0, .int .u8 0, .int .u8 0, .int .u8 0, .int .u8 0, .int .u8 0, .int .u8 0, .int .u8 0] 122)).setRow w2.heap.size O.toArray = w3 at R3 T3 hko ⊢
  generalize w2.heap.size = g3 at R3 ⊢
  refine Calls.mono hko ?_
  rintro e w3' ⟨rfl, rfl⟩
  clear T2 hko
  go_upto_region 11 with fail
  have R4 : Row w3.drew g3 122 O := R3.keep ((Touch.refl _ _).drew)
  have T4 : Hid (Touch (fun _ => False) w w3.drew) := T3.out.trans ((Touch.refl _ _).drew)
  refine wp_region_held_drew (S := fun w' => Row w' g3 122 O) (by kernel_rfl) R3 (fun hHeld => ?_)
  refine wpAnyH_take (i := 0) (oi := ⟨some 42, _, _, _, _, _⟩) (v := .slice va rn vc) rfl (by kernel_rfl) (by kernel_rfl) (by kernel_rfl) (fun _ _ _ h => h) (Or.inl ⟨by rfl, fun w hw => by go_simp⟩) (by assumption) ?_
  simp only [Act.put, List.setIfInBounds_toArray, List.set_cons_zero, List.set_cons_succ]
  refine wpAnyH_take (i := 1) (oi := ⟨some 43, _, _, _, _, _⟩) (v := .int .i64 nn) rfl (by kernel_rfl) (by kernel_rfl) (by kernel_rfl) (fun _ _ _ h => h) (Or.inl ⟨by rfl, fun w hw => by go_simp⟩) (by assumption) ?_
  simp only [Act.put, List.setIfInBounds_toArray, List.set_cons_zero, List.set_cons_succ]
  refine wpAnyH_take (i := 2) (oi := ⟨some 44, _, _, _, _, _⟩) (v := .agg O.toArray) rfl (by kernel_rfl) (by kernel_rfl) (by kernel_rfl) (fun _ _ _ h => h) (yieldsIf_load_mid (by rfl) _ _ rfl _ _ rfl O _ (fun w h => au_range h) Tryz.underlying122 rfl (by rw [Tryz.info8d, hOl'])) (by assumption) ?_
  simp only [Act.put, List.setIfInBounds_toArray, List.set_cons_zero, List.set_cons_succ]
  refine wpAnyH_take (i := 3) (oi := ⟨some 45, _, _, _, _, _⟩) (v := .slice ka ks.length kc) rfl (by kernel_rfl) (by kernel_rfl) (by kernel_rfl) (fun _ _ _ h => h) (Or.inl ⟨by rfl, fun w hw => by go_simp⟩) (by assumption) ?_
  simp only [Act.put, List.setIfInBounds_toArray, List.set_cons_zero, List.set_cons_succ]
  refine wpAnyH_take (i := 4) (oi := ⟨some 46, _, _, _, _, _⟩) (v := .int .i64 now) rfl (by kernel_rfl) (by kernel_rfl) (by kernel_rfl) (fun _ _ _ h => h) (Or.inl ⟨by rfl, fun w hw => by go_simp⟩) (by assumption) ?_
  simp only [Act.put, List.setIfInBounds_toArray, List.set_cons_zero, List.set_cons_succ]
  refine wpAnyH_ready (rs := [5]) (by kernel_rfl) (by simp) ?_
  refine AllReadyH.cons rfl (fun K hK => ?_) AllReadyH.nil
  go_simp
  refine Calls.mono (during_any w3.drew ka ks.length kc now 50) ?_
  rintro e w5 ⟨b0, b1, b2, rfl, dd⟩
  have R5 := R4.keep dd.t
  have T5 : Hid (Touch (fun _ => False) w w5) := T4.out.trans dd.t
  have hop := HOD.out w5 b0 b1 b2 T5.out dd.c0 dd.c1 dd.c2
  clear T4 R4
  refine hK.out _ _ R5 (fun hHeld => ?_)
  clear hK K
  refine wpAnyH_ready (rs := [6]) (by kernel_rfl) (by simp) ?_
  refine AllReadyH.cons rfl (fun K hK => ?_) AllReadyH.nil
  go_simp
  refine Calls.mono hop ?_
  rintro e w6 ⟨rfl, t6⟩
  have R6 := R5.keep t6
  have T6 : Hid (Touch (fun _ => False) w w6) := T5.out.trans t6
  clear T5 R5 dd t6 hop
  refine hK.out _ _ R6 (fun hHeld => ?_)
  clear hK K
  refine wpAnyH_take (i := 7) (oi := ⟨some 49, _, _, _, _, _⟩) (v := .int .u32 SQ) rfl (by kernel_rfl) (by kernel_rfl) (by kernel_rfl) (fun _ _ _ h => h) (Or.inl ⟨by rfl, fun w hw => by go_simp⟩) (by assumption) ?_
  simp only [Act.put, List.setIfInBounds_toArray, List.set_cons_zero, List.set_cons_succ]
  refine wpAnyH_take (i := 8) (oi := ⟨some 50, _, _, _, _, _⟩) (v := .int .i64 EE) rfl (by kernel_rfl) (by kernel_rfl) (by kernel_rfl) (fun _ _ _ h => h) (Or.inl ⟨by rfl, fun w hw => by go_simp⟩) (by assumption) ?_
  simp only [Act.put, List.setIfInBounds_toArray, List.set_cons_zero, List.set_cons_succ]
  refine wpAnyH_take (i := 9) (oi := ⟨some 8, _, _, _, _, _⟩) (v := .int .u32 SQ) rfl (by kernel_rfl) (by kernel_rfl) (by kernel_rfl) (fun _ _ _ h => h) (Or.inl ⟨by rfl, fun w hw => by go_simp⟩) (by assumption) ?_
  simp only [Act.put, List.setIfInBounds_toArray, List.set_cons_zero, List.set_cons_succ]
  refine wpAnyH_take (i := 10) (oi := ⟨some 9, _, _, _, _, _⟩) (v := .int .i64 EE) rfl (by kernel_rfl) (by kernel_rfl) (by kernel_rfl) (fun _ _ _ h => h) (Or.inl ⟨by rfl, fun w hw => by go_simp⟩) (by assumption) ?_
  simp only [Act.put, List.setIfInBounds_toArray, List.set_cons_zero, List.set_cons_succ]
  refine wpAnyH_done (by kernel_rfl) ?_ _
  go_wp2_with fail
  go_ret2
  exact ⟨rfl, T6.out⟩
end Go.Proofs.YtjjgbcjgmjggnaaGreat
