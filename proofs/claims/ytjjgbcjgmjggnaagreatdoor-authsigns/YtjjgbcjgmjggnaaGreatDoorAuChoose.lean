/- Choose: the key with which a packet is signed. -/
import Derived.Test.YtjjgbcjgmjggnaaGreatDoorAuDuring
namespace Go.Proofs.YtjjgbcjgmjggnaaGreatDoor
open Go.RowKit Go.Shelf
set_option linter.unusedVariables false
set_option maxRecDepth 100000
attribute [local go_sem] Oper.semAt_some

/-- The best of those that have come. -/
def bstL (ks : List KE) (pre : List (Fin ks.length)) : Int := pre.foldl (fun b i => better (pureL ks) b i.1) (-1)
theorem bstL_snoc (ks : List KE) (pre : List (Fin ks.length)) (x : Fin ks.length) : bstL ks (pre ++ [x]) = better (pureL ks) (bstL ks pre) x.1 := by simp [bstL]
theorem bstL_is (ks : List KE) (now : Int) : ∀ k, k ≤ ks.length → bstL ks (selK ks (fun x => x.p.sends now) k) = bestI (pureL ks) now k
  | 0, _ => rfl
  | k + 1, h => by
    have ih := bstL_is ks now k (by omega)
    have hk : k < ks.length := by omega
    have hg : (pureL ks)[k]? = some ks[k].p := by rw [List.getElem?_map, List.getElem?_eq_getElem hk]; rfl
    unfold bestI
    rw [hg]
    dsimp only
    cases hs : (ks[k]).p.sends now
    · rw [selK_no hk hs, ih, if_neg (by simp)]
    · rw [selK_yes hk hs, bstL_snoc, ih, if_pos rfl]
theorem bstL_ways (ks : List KE) (pre : List (Fin ks.length)) : bstL ks pre = -1 ∨ ∃ i : Fin ks.length, bstL ks pre = (i.1 : Int) := by
  have : ∀ (pre : List (Fin ks.length)) (b : Int), (b = -1 ∨ ∃ i : Fin ks.length, b = (i.1 : Int)) → (pre.foldl (fun b i => better (pureL ks) b i.1) b = -1 ∨ ∃ i : Fin ks.length, pre.foldl (fun b i => better (pureL ks) b i.1) b = (i.1 : Int)) := by
    intro pre
    induction pre with
    | nil => intro b h; exact h
    | cons x r ih =>
      intro b h
      refine ih _ ?_
      show better (pureL ks) b x.1 = -1 ∨ ∃ i : Fin ks.length, better (pureL ks) b x.1 = (i.1 : Int)
      rcases better_ways (pureL ks) b x.1 with e | e
      · rw [e]; exact h
      · exact Or.inr ⟨x, e⟩
  exact this pre (-1) (Or.inl rfl)
theorem better_low {ks : List KE} {b : Int} (hb : b < 0) (x : Fin ks.length) : better (pureL ks) b x.1 = (x.1 : Int) := by
  unfold better
  rw [List.getElem?_map, List.getElem?_eq_getElem x.2]
  dsimp only [Option.map]
  split
  · rfl
  · rw [if_pos (Or.inl hb)]
theorem better_two {ks : List KE} (i x : Fin ks.length) : better (pureL ks) (i.1 : Int) x.1 = if aheadB ks[x].p ks[i].p = true then (x.1 : Int) else (i.1 : Int) := by
  unfold better
  rw [List.getElem?_map, List.getElem?_eq_getElem x.2]
  dsimp only [Option.map]
  rw [Int.toNat_natCast, List.getElem?_map, List.getElem?_eq_getElem i.2]
  dsimp only [Option.map]
  have h : ¬ ((i.1 : Int) < 0) := by omega
  simp only [h, false_or]
  rfl
set_option maxHeartbeats 4000000 in
theorem choose_any (v : Value) (ks : List KE) (now : Int) (w : World) (hv : ChainAt w v ks) (hl : ks.length ≤ 1000000) :
    Calls Tryz.prog 19 #[v, .int .i64 now] w fun e w' => e = .returned (.int .i64 (chooseI (pureL ks) now)) ∧ Touch (fun _ => False) w w' := by
  obtain ⟨va, vc, rfl, hmx⟩ := ValsAt.form hv.vals
  have HV' : Hid (∀ w', Below w.heap.size w w' → ChainAt w' (.slice va ks.length vc) ks) := fun w' t => hv.keep (below_touch t)
  have HC : Hid (chooseI (pureL ks) now = bstL ks (selK ks (fun x => x.p.sends now) ks.length)) := by show _ = _; rw [bstL_is ks now _ (Nat.le_refl _)]; simp [chooseI]
  generalize chooseI (pureL ks) now = CH at HC ⊢
  clear hv hmx
  refine (callsIn_wide (n := 6)).1 ?_
  refine callsIn_of_wp_marks Tryz.func19 rfl trivial ?_ rfl
  simp only [Tryz.ntmps19, List.size_toArray, List.length_cons, List.length_nil, Nat.reduceAdd, Nat.reduceSub, Array.replicate_succ, Array.replicate_zero, List.push_toArray, List.append_toArray, List.nil_append, List.cons_append]
  gi_wp2_with fail
  have bL := (Boxed.new w 23 (.slice va ks.length vc)).alloc (.cells #[.int .i64 (-1)] 3)
  have bB := Boxed.new (w.alloc (.cells #[.slice va ks.length vc] 23)) 3 (.int .i64 (-1))
  rw [World.size_alloc] at bB
  have t2 : Hid (Touch (fun _ => False) w ((w.alloc (.cells #[.slice va ks.length vc] 23)).alloc (.cells #[.int .i64 (-1)] 3))) := ((Touch.refl _ w).alloc _).alloc _
  generalize (w.alloc (.cells #[.slice va ks.length vc] 23)).alloc (.cells #[.int .i64 (-1)] 3) = w2 at bL bB t2 ⊢
  refine ⟨trivial, ?_⟩
  refine (callsIn_wide.2 (during_any w2 va ks.length vc now 56)).mono ?_
  rintro e w3 ⟨b0, b1, b2, rfl, dd⟩
  have bL3 := boxed_touch bL dd.t
  have bB3 := boxed_touch bB dd.t
  have t3 : Hid (Touch (fun _ => False) w w3) := t2.out.trans dd.t
  have hs2 := bB.lt
  have hs3 := dd.t.size
  clear bL bB
  gi_wp2_with fail
  have hKB : ∀ w', Touch (fun k => k = w.heap.size + 1 ∨ w3.heap.size ≤ k) w3 w' → Below w.heap.size w w' := fun w' tt =>
    ((t3.out.mono (fun _ _ h => h.elim)).trans tt).below (Nat.le_refl _) (fun k hk h => by rcases h with h | h <;> omega)
  have hlow : ∀ (b : Nat) (v : Value) w', Touch (fun k => k = w.heap.size + 1 ∨ w3.heap.size ≤ k) w3 w' → w2.heap.size ≤ b → w3.cell? ⟨b, 0, none⟩ = some v → w'.cell? ⟨b, 0, none⟩ = some v := fun b v w' tt hb hc =>
    (tt.cell (p := ⟨b, 0, none⟩) (lt_of_cell hc) (fun h => by have := lt_of_cell hc; rcases h with h | h <;> (dsimp only at h; omega))).trans hc
  refine wpIn_rangeFunc_ownH rfl (by omega) (gf := 87) (lb := #[.pointer (some ⟨b0, 0, none⟩), .pointer (some ⟨b1, 0, none⟩), .pointer (some ⟨b2, 0, none⟩)]) rfl trivial (enters_of Tryz.func87 (by kernel_rfl) rfl)
    (snd_stops 5 (by omega) b0 b1 b2 (fun k => k = w.heap.size + 1 ∨ w3.heap.size ≤ k) va vc ks now w3 hl (fun w' tt => HV'.out w' (hKB w' tt)) (fun w' tt => hlow _ _ w' tt dd.l0 dd.c0) (fun w' tt => hlow _ _ w' tt dd.l1 dd.c1) (fun w' tt => hlow _ _ w' tt dd.l2 dd.c2))
    (fun h k => h.trans k) (touchK_b (fun k hk => Or.inr hk)) (Below.refl _ _) (fun _ => rfl)
    (fun pre W => Boxed W (w.heap.size + 1) 3 (.int .i64 (bstL ks pre)) ∧ Touch (fun k => k = w.heap.size + 1) w3 W)
    (fun _ _ _ => False)
    (OwnFrom.and (Own.from (boxed_own _ _ (fun pre => .int .i64 (bstL ks pre))) _) (ownFrom_touch (Nat.le_refl _)))
    (fun _ _ _ _ _ hs _ _ => hs)
    ⟨bB3, Touch.refl _ _⟩
    (fun i a' W => ∃ Bx, w3.heap.size ≤ Bx ∧ KBox W Bx ks[i].p.id ks[i].p.kind ks[i].a ks[i].p.sec.length ks[i].c ks[i].p.sf ks[i].p.su ks[i].p.tf ks[i].p.tu ∧ a' = { tmps := #[.slice va ks.length vc, .int .i64 now, .pointer (some ⟨w.heap.size, 0, none⟩), undef, .int .i64 0, .pointer (some ⟨w.heap.size + 1, 0, none⟩), .int .i64 (i.1 : Int), .pointer (some ⟨Bx, 0, none⟩), .slice va ks.length vc, .int .i64 now, .func (.func 87) #[] #[.pointer (some ⟨b0, 0, none⟩), .pointer (some ⟨b1, 0, none⟩), .pointer (some ⟨b2, 0, none⟩)], .int .i64 (i.1 : Int), ks[i].agg, undef, undef, undef, undef, undef, undef, undef, undef, undef, undef, undef, undef], defers := [] })
    (fun x a' s X Y row hs hg hr => by obtain ⟨Bx, h1, h2, h3⟩ := hs; exact ⟨Bx, h1, kbox_own (β := Unit) _ Bx () X Y row h2 hg hr, h3⟩)
    ?assign ?body ?done ?stop
  case assign =>
    rintro l pre x W K ⟨hb, ht⟩ hK
    gi_wp2
    exact hK _ _ ((KeepsOthers.alloc _ _).from _) ((Touch.refl _ W).alloc _) ⟨hb.alloc _, ht.alloc _⟩ ⟨W.heap.size, ht.size, kbox_new W _ _ _ _ _ _ _ _ _, rfl⟩
  case body =>
    rintro l pre x a' W hll ⟨r, hr⟩ ⟨hb, ht⟩ ⟨Bx, hBx, hX, rfl⟩ hlt
    have HN : Hid (bstL ks (pre ++ [x]) = better (pureL ks) (bstL ks pre) x.1) := bstL_snoc ks pre x
    have hcb := aft_cell hb.cell
    have HT : Hid (Touch (fun k => k = w.heap.size + 1) w3 W) := ht
    have HB : Hid (Boxed W (w.heap.size + 1) 3 (.int .i64 (bstL ks pre))) := hb
    gi_wp2_with fail
    rcases bstL_ways ks pre with e | ⟨i, e⟩
    · rw [e] at hcb HN HB
      have HV1 : Hid (better (pureL ks) (-1) x.1 = (x.1 : Int)) := better_low (by omega) x
      refine wpInR_region_aft (by kernel_rfl) (by kernel_rfl) (by kernel_rfl) ?_
      repeat (first | go_big_quiet_skip | (go_big_quiet_want; go_big_quiet_op; first | go_big_quiet_on | (refine Exists.intro _ ⟨fun _ => rfl, ?_⟩; go_big_quiet_on)))
      refine wpQuiet_nil ?_
      rintro wq ⟨⟨_, hgq⟩, rfl⟩
      have hb2 := boxed_touch HB.out hgq
      have hc2 := hb2.cell
      have hf2 := hb2.frozen
      gi_wp2
      exact ⟨(keepsFrom_touch hgq).trans ((KeepsOthers.setCell _ _ _).from _), Touch.setCell (p := ⟨w.heap.size + 1, 0, none⟩) (hgq.mono (fun _ _ h => h.elim)) (Or.inl (Or.inl rfl)) _, by rw [HN.out, HV1.out]; exact hb2.set _, Touch.setCell (p := ⟨w.heap.size + 1, 0, none⟩) (HT.out.trans (hgq.mono (fun _ _ h => h.elim))) (Or.inl rfl) _⟩
    · rw [e] at hcb HN HB
      have HV0 : Hid (better (pureL ks) (i.1 : Int) x.1 = if aheadB ks[x].p ks[i].p = true then (x.1 : Int) else (i.1 : Int)) := better_two i x
      have hwc := HV'.out W (hKB W (HT.out.mono (fun _ _ h => Or.inl h)))
      obtain ⟨-, gR, off, cR, eR, hcell⟩ := ChainAt.one hwc (List.getElem?_eq_getElem i.2)
      cases eR
      have y0 := aft_cell (show W.cell? ⟨gR, off + i.1 * 7, none⟩ = some (.int .u8 ks[i].p.id) by exact hcell 0 _ rfl)
      have y1 := aft_cell (show W.cell? ⟨gR, off + i.1 * 7 + 1, none⟩ = some (.int .u16 ks[i].p.kind) by rw [Nat.add_assoc]; exact hcell 1 _ rfl)
      have y2 := aft_cell (show W.cell? ⟨gR, off + i.1 * 7 + 2, none⟩ = some (.slice ks[i].a ks[i].p.sec.length ks[i].c) by rw [Nat.add_assoc]; exact hcell 2 _ rfl)
      have y3 := aft_cell (show W.cell? ⟨gR, off + i.1 * 7 + 3, none⟩ = some (.int .i64 ks[i].p.sf) by rw [Nat.add_assoc]; exact hcell 3 _ rfl)
      have y4 := aft_cell (show W.cell? ⟨gR, off + i.1 * 7 + 4, none⟩ = some (.int .i64 ks[i].p.su) by rw [Nat.add_assoc]; exact hcell 4 _ rfl)
      have y5 := aft_cell (show W.cell? ⟨gR, off + i.1 * 7 + 5, none⟩ = some (.int .i64 ks[i].p.tf) by rw [Nat.add_assoc]; exact hcell 5 _ rfl)
      have y6 := aft_cell (show W.cell? ⟨gR, off + i.1 * 7 + 6, none⟩ = some (.int .i64 ks[i].p.tu) by rw [Nat.add_assoc]; exact hcell 6 _ rfl)
      have hlb := aft_cell ((HT.out.cell (p := ⟨w.heap.size, 0, none⟩) bL3.lt (fun h => by dsimp only at h; omega)).trans bL3.cell)
      have x0 := aft_cell hX.c0
      have x1 := aft_cell hX.c1
      have x2 := aft_cell hX.c2
      have x3 := aft_cell hX.c3
      have x4 := aft_cell hX.c4
      have x5 := aft_cell hX.c5
      have x6 := aft_cell hX.c6
      have hi0 : ¬ ((i.1 : Int) < 0) := by omega
      have hi1 : (0 : Int) ≤ (i.1 : Int) := by omega
      have hi2 : (i.1 : Int) < (ks.length : Int) := by have := i.2; omega
      have HA := fun w => ahead_any ks[x] ks[i] w
      clear hcell hwc hX
      refine wpInR_region_aft (by kernel_rfl) (by kernel_rfl) (by kernel_rfl) ?_
      repeat (first | go_big_quiet_skip | (go_big_quiet_want; go_big_quiet_op; first | go_big_quiet_on | (refine Exists.intro _ ⟨fun _ => rfl, ?_⟩; go_big_quiet_on)))
      go_big_quiet_want; go_big_quiet_op; refine Exists.intro _ ⟨fun u => Aft.call (HA _), ?_⟩; go_big_quiet_on
      repeat (first | go_big_quiet_skip | (go_big_quiet_want; go_big_quiet_op; first | go_big_quiet_on | (refine Exists.intro _ ⟨fun _ => rfl, ?_⟩; go_big_quiet_on)))
      refine wpQuiet_nil ?_
      rintro wq ⟨⟨_, hgq⟩, rfl⟩
      clear y0 y1 y2 y3 y4 y5 y6 x0 x1 x2 x3 x4 x5 x6 hlb HA
      generalize aheadB ks[x].p ks[i].p = A at *
      cases A
      · have HV1 : Hid (better (pureL ks) (i.1 : Int) x.1 = (i.1 : Int)) := by show _ = _; rw [HV0.out]; rfl
        gi_wp2
        exact ⟨keepsFrom_touch hgq, hgq.mono (fun _ _ h => h.elim), by rw [HN.out, HV1.out]; exact boxed_touch HB.out hgq, HT.out.trans (hgq.mono (fun _ _ h => h.elim))⟩
      · have HV1 : Hid (better (pureL ks) (i.1 : Int) x.1 = (x.1 : Int)) := by show _ = _; rw [HV0.out]; rfl
        have hb2 := boxed_touch HB.out hgq
        have hc2 := hb2.cell
        have hf2 := hb2.frozen
        gi_wp2
        exact ⟨(keepsFrom_touch hgq).trans ((KeepsOthers.setCell _ _ _).from _), Touch.setCell (p := ⟨w.heap.size + 1, 0, none⟩) (hgq.mono (fun _ _ h => h.elim)) (Or.inl (Or.inl rfl)) _, by rw [HN.out, HV1.out]; exact hb2.set _, Touch.setCell (p := ⟨w.heap.size + 1, 0, none⟩) (HT.out.trans (hgq.mono (fun _ _ h => h.elim))) (Or.inl rfl) _⟩
  case done =>
    rintro D xs W hD rfl ⟨hb, ht⟩ hK
    have hcb := hb.cell
    gi_wp2
    refine ⟨by simp, .inl ⟨_, _, rfl, run_takeDeferred hK, ?_⟩⟩
    refine ⟨_, results_tmp rfl _ _ _, by rw [HC.out]; rfl, ?_⟩
    exact (t3.out.trans' ht (fun k hk e => by omega)).grown (grownBy_putObj' W D _) (fun k hk => by cases hk; exact Or.inr (by omega))
  case stop =>
    rintro D c pre W _ _ h _
    exact h.elim
end Go.Proofs.YtjjgbcjgmjggnaaGreatDoor
