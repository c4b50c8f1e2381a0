/- openPlain: a packet with a password. -/
import Derived.Test.YtjjgbcjgmjggnaaGreatDoorAuRS2
import Derived.Test.YtjjgbcjgmjggnaaGreatDoorAuDuring
import Derived.Stop.BytesEq
namespace Go.Proofs.YtjjgbcjgmjggnaaGreatDoor
open Go.RowKit Go.Shelf
set_option linter.unusedVariables false
set_option maxRecDepth 100000
attribute [local go_sem] Oper.semAt_some

theorem au_cells {l : List Int} (h : ∀ x ∈ l, 0 ≤ x ∧ x < 256) : bytesOf l = (l.map fun x => UInt8.ofNat x.toNat).map Extern.Stop.cell := by
  unfold bytesOf
  rw [List.map_map]
  apply List.map_congr_left
  intro x hx
  have := h x hx
  simp [Extern.Stop.cell]
  omega
theorem au_bytes_inj : ∀ {xs ys : List Int}, (∀ x ∈ xs, 0 ≤ x ∧ x < 256) → (∀ x ∈ ys, 0 ≤ x ∧ x < 256) → ((xs.map fun x => UInt8.ofNat x.toNat) = (ys.map fun x => UInt8.ofNat x.toNat) ↔ xs = ys)
  | [], [], _, _ => by simp
  | [], y :: r, _, _ => by simp
  | x :: r, [], _, _ => by simp
  | x :: r, y :: s, hx, hy => by
    have ih := au_bytes_inj (xs := r) (ys := s) (fun z hz => hx z (by simp [hz])) (fun z hz => hy z (by simp [hz]))
    have h1 := hx x (by simp)
    have h2 := hy y (by simp)
    simp only [List.map_cons, List.cons.injEq, ih]
    refine and_congr_left (fun _ => ⟨fun h => ?_, fun h => by rw [h]⟩)
    have := congrArg UInt8.toNat h
    simp only [UInt8.toNat_ofNat'] at this
    omega
/-- Two rows of eight bytes. -/
theorem eqD (xs ys : List Int) (hx : ∀ x ∈ xs, 0 ≤ x ∧ x < 256) (hy : ∀ x ∈ ys, 0 ≤ x ∧ x < 256) (lx : xs.length = 8) (ly : ys.length = 8) (w : World) :
    (Op.equalIn 10000 82 (.agg (bytesOf xs).toArray) (.agg (bytesOf ys).toArray)).run Tryz.prog w = .ok (decide (xs = ys)) w := by
  obtain ⟨i0, hi, hz0, hz1, hz2⟩ := info_parts Tryz.info5w
  rw [au_cells hx, au_cells hy]
  have := run_equalIn_bytes (P := Tryz.prog) w 9998 82 5 8 Tryz.underlying82 Tryz.underlying5 (by intro w; simp [sizeOf, typeInfo, hi, hz1]) (xs.map fun x => UInt8.ofNat x.toNat) (ys.map fun x => UInt8.ofNat x.toNat) (by simp [lx]) (by simp [ly])
  rw [this]
  congr 1
  rw [Bool.eq_iff_iff, beq_iff_eq, decide_eq_true_eq]
  exact au_bytes_inj hx hy
theorem passB_byte {s : List Int} (h : ∀ z ∈ s, 0 ≤ z ∧ z < 256) : ∀ z ∈ passB s, 0 ≤ z ∧ z < 256 := by
  intro z hz
  unfold passB at hz
  rcases List.mem_append.1 hz with hz | hz
  · exact h z (List.mem_of_mem_take hz)
  · rw [(List.mem_replicate.mp hz).2]; omega
theorem au_list8 {l : List Int} (h : l.length = 8) : ∃ d0 d1 d2 d3 d4 d5 d6 d7, l = [d0, d1, d2, d3, d4, d5, d6, d7] := by
  match l, h with
  | [a, b, c, d, e, f, g, k], _ => exact ⟨a, b, c, d, e, f, g, k, rfl⟩
theorem mem_selK (ks : List KE) (f : KE → Bool) (i : Fin ks.length) : ∀ k, i ∈ selK ks f k ↔ i.1 < k ∧ f ks[i] = true
  | 0 => by simp [selK]
  | k + 1 => by
    have ih := mem_selK ks f i k
    by_cases h : k < ks.length
    · cases hf : f ks[k]
      · rw [selK_no h hf, ih]
        constructor
        · rintro ⟨h1, h2⟩; exact ⟨by omega, h2⟩
        · rintro ⟨h1, h2⟩
          refine ⟨?_, h2⟩
          by_cases e : i.1 = k
          · have e2 : ks[i] = ks[k] := by show ks[i.1] = ks[k]; simp only [e]
            rw [e2, hf] at h2; cases h2
          · omega
      · rw [selK_yes h hf, List.mem_append, ih]
        constructor
        · rintro (⟨h1, h2⟩ | h1)
          · exact ⟨by omega, h2⟩
          · simp at h1; subst h1; exact ⟨by simp, hf⟩
        · rintro ⟨h1, h2⟩
          by_cases e : i.1 = k
          · right; simp; exact Fin.ext e
          · left; exact ⟨by omega, h2⟩
    · have hs : selK ks f (k + 1) = selK ks f k := by show (if h : k < ks.length then _ else _) = _; rw [dif_neg h]
      rw [hs, ih]
      have := i.2
      constructor
      · rintro ⟨h1, h2⟩; exact ⟨by omega, h2⟩
      · rintro ⟨h1, h2⟩; exact ⟨by omega, h2⟩
theorem passAny_iff (ks : List KE) (now : Int) (d : List Int) : passAny (pureL ks) now d = true ↔ ∃ i, i ∈ selK ks (fun x => x.p.takes now) ks.length ∧ passB ks[i].p.sec = d := by
  unfold passAny
  rw [List.any_map, List.any_eq_true]
  constructor
  · rintro ⟨x, hx, h⟩
    obtain ⟨j, hj, rfl⟩ := List.getElem_of_mem hx
    simp at h
    exact ⟨⟨j, hj⟩, (mem_selK _ _ _ _).2 ⟨hj, h.1⟩, h.2⟩
  · rintro ⟨i, hi, h⟩
    refine ⟨ks[i], List.getElem_mem _, ?_⟩
    have := ((mem_selK _ _ _ _).1 hi).2
    simp only [Function.comp_apply, Bool.and_eq_true, decide_eq_true_eq]
    exact ⟨this, h⟩
set_option maxHeartbeats 4000000 in
theorem openPlain_any (v : Value) (rs : List Int) (n : Int) (DB : List Int) (va : Option Addr) (vc : Nat) (ks : List KE) (now : Int) (b0 b1 b2 : Nat) (w : World) (hv : ArgAt w v rs) (hby : ∀ z ∈ rs, 0 ≤ z ∧ z < 256) (hn : rs.length ≤ 1000000) (hD : DB.length = 8) (hDb : ∀ z ∈ DB, 0 ≤ z ∧ z < 256)
    (hc : ChainAt w (.slice va ks.length vc) ks) (hl : ks.length ≤ 1000000) (hs : ∀ x ∈ ks, 0 < x.p.sec.length)
    (h0 : w.cell? ⟨b0, 0, none⟩ = some (.slice va ks.length vc)) (h1 : w.cell? ⟨b1, 0, none⟩ = some (.func (.func 79) #[] #[])) (h2 : w.cell? ⟨b2, 0, none⟩ = some (.int .i64 now)) :
    Calls Tryz.prog 78 #[v, .int .i64 n, .agg (bytesOf DB).toArray, .func (.func 87) #[] #[.pointer (some ⟨b0, 0, none⟩), .pointer (some ⟨b1, 0, none⟩), .pointer (some ⟨b2, 0, none⟩)]] w fun e w' => e = .returned (.int .i64 (openPl rs n DB (pureL ks) now)) ∧ Touch (fun _ => False) w w' := by
  have HWH : Hid (∀ w', Touch (fun _ => False) w w' → Calls Tryz.prog 81 #[v, .int .i64 n] w' fun e w'' => e = .returned (.int .i64 (wholeE rs n)) ∧ Touch (fun _ => False) w' w'') := fun w' t => whole_pk v rs n w' (hv.keep t (fun _ _ h => h)) hby hn
  obtain ⟨ra, rc, rfl, -⟩ := hv.form
  have HV' : Hid (∀ w', Below w.heap.size w w' → ChainAt w' (.slice va ks.length vc) ks) := fun w' t => hc.keep (below_touch t)
  have HOP : Hid (openPl rs n DB (pureL ks) now = if wholeE rs n ≠ 0 then wholeE rs n else if passAny (pureL ks) now DB = true then 0 else 26) := rfl
  have HPA : Hid (passAny (pureL ks) now DB = true ↔ ∃ i, i ∈ selK ks (fun x => x.p.takes now) ks.length ∧ passB ks[i].p.sec = DB) := passAny_iff ks now DB
  have HEQ : Hid (∀ (s : List Int), (∀ z ∈ s, 0 ≤ z ∧ z < 256) → ∀ w', (Op.equalIn 10000 82 (.agg (bytesOf (passB s)).toArray) (.agg (bytesOf DB).toArray)).run Tryz.prog w' = .ok (decide (passB s = DB)) w') := fun s h w' => eqD _ _ (passB_byte h) hDb (length_passB _) hD w'
  obtain ⟨d0, d1, d2, d3, d4, d5, d6, d7, rfl⟩ := au_list8 hD
  have HS : Hid (∀ x ∈ ks, 0 < x.p.sec.length) := hs
  generalize openPl rs n [d0, d1, d2, d3, d4, d5, d6, d7] (pureL ks) now = OO at HOP ⊢
  generalize passAny (pureL ks) now [d0, d1, d2, d3, d4, d5, d6, d7] = PA at HOP HPA
  generalize wholeE rs n = WE at HOP HWH
  generalize rs.length = rn at *
  show Calls Tryz.prog 78 #[.slice ra rn rc, .int .i64 n, .agg #[.int .u8 d0, .int .u8 d1, .int .u8 d2, .int .u8 d3, .int .u8 d4, .int .u8 d5, .int .u8 d6, .int .u8 d7], .func (.func 87) #[] #[.pointer (some ⟨b0, 0, none⟩), .pointer (some ⟨b1, 0, none⟩), .pointer (some ⟨b2, 0, none⟩)]] w _
  clear hv hby hn hD hDb hc hs
  refine (callsIn_wide (n := 6)).1 ?_
  refine callsIn_of_wp_marks Tryz.func78 rfl trivial ?_ rfl
  simp only [Tryz.ntmps78, List.size_toArray, List.length_cons, List.length_nil, Nat.reduceAdd, Nat.reduceSub, Array.replicate_succ, Array.replicate_zero, List.push_toArray, List.append_toArray, List.nil_append, List.cons_append]
  gi_wp2_with fail
  have z0 := (row_new w 82 #[.int .u8 d0, .int .u8 d1, .int .u8 d2, .int .u8 d3, .int .u8 d4, .int .u8 d5, .int .u8 d6, .int .u8 d7]).keep ((Touch.refl _ _).alloc (.cells #[.int .i64 0] 29))
  have bB := Boxed.new (w.alloc (.cells #[.int .u8 d0, .int .u8 d1, .int .u8 d2, .int .u8 d3, .int .u8 d4, .int .u8 d5, .int .u8 d6, .int .u8 d7] 82)) 29 (.int .i64 0)
  rw [World.size_alloc] at bB
  have t2 : Hid (Touch (fun _ => False) w ((w.alloc (.cells #[.int .u8 d0, .int .u8 d1, .int .u8 d2, .int .u8 d3, .int .u8 d4, .int .u8 d5, .int .u8 d6, .int .u8 d7] 82)).alloc (.cells #[.int .i64 0] 29))) := ((Touch.refl _ w).alloc _).alloc _
  generalize (w.alloc (.cells #[.int .u8 d0, .int .u8 d1, .int .u8 d2, .int .u8 d3, .int .u8 d4, .int .u8 d5, .int .u8 d6, .int .u8 d7] 82)).alloc (.cells #[.int .i64 0] 29) = w2 at z0 bB t2 ⊢
  refine ⟨trivial, ?_⟩
  refine (callsIn_wide.2 (HWH.out w2 t2.out)).mono ?_
  rintro e w3 ⟨rfl, t3⟩
  have z3 := z0.keep t3
  have bB3 := boxed_touch bB t3
  have T3 : Hid (Touch (fun _ => False) w w3) := t2.out.trans t3
  clear z0 bB t2 t3
  have hs3 := bB3.lt
  by_cases hW : WE = 0
  · subst hW
    rw [if_neg (by simp)] at HOP
    gi_wp2_with fail
    have hKB : ∀ w', Touch (fun k => k = w.heap.size + 1 ∨ w3.heap.size ≤ k) w3 w' → Below w.heap.size w w' := fun w' tt =>
      ((T3.out.mono (fun _ _ h => h.elim)).trans tt).below (Nat.le_refl _) (fun k hk h => by rcases h with h | h <;> omega)
    have hlow : ∀ (b : Nat) (v : Value) w', Touch (fun k => k = w.heap.size + 1 ∨ w3.heap.size ≤ k) w3 w' → w.cell? ⟨b, 0, none⟩ = some v → w'.cell? ⟨b, 0, none⟩ = some v := fun b v w' tt hc =>
      ((hKB w' tt).cell (p := ⟨b, 0, none⟩) (lt_of_cell hc)).trans hc
    refine wpIn_rangeFunc_ownH rfl (by omega) (gf := 87) (lb := #[.pointer (some ⟨b0, 0, none⟩), .pointer (some ⟨b1, 0, none⟩), .pointer (some ⟨b2, 0, none⟩)]) rfl trivial (enters_of Tryz.func87 (by kernel_rfl) rfl)
      (tak_stops 5 (by omega) b0 b1 b2 (fun k => k = w.heap.size + 1 ∨ w3.heap.size ≤ k) va vc ks now w3 hl (fun w' tt => HV'.out w' (hKB w' tt)) (fun w' tt => hlow _ _ w' tt h0) (fun w' tt => hlow _ _ w' tt h1) (fun w' tt => hlow _ _ w' tt h2))
      (fun h k => h.trans k) (touchK_b (fun k hk => Or.inr hk)) (Below.refl _ _) (fun _ => rfl)
      (fun pre W => (∀ i ∈ pre, passB ks[i].p.sec ≠ [d0, d1, d2, d3, d4, d5, d6, d7]) ∧ Boxed W (w.heap.size + 1) 29 (.int .i64 0) ∧ Touch (fun k => k = w.heap.size + 1) w3 W)
      (fun c pre W => (c = .ret ∧ ∃ i ∈ pre, passB ks[i].p.sec = [d0, d1, d2, d3, d4, d5, d6, d7]) ∧ Boxed W (w.heap.size + 1) 29 (.int .i64 0) ∧ Touch (fun k => k = w.heap.size + 1) w3 W)
      (OwnFrom.and (ownFrom_pure _ (fun pre : List (Fin ks.length) => ∀ i ∈ pre, passB ks[i].p.sec ≠ [d0, d1, d2, d3, d4, d5, d6, d7])) (OwnFrom.and (Own.from (boxed_own _ _ (fun _ => .int .i64 0)) _) (ownFrom_touch (Nat.le_refl _))))
      (fun c => OwnFrom.and (ownFrom_pure _ (fun pre : List (Fin ks.length) => c = .ret ∧ ∃ i ∈ pre, passB ks[i].p.sec = [d0, d1, d2, d3, d4, d5, d6, d7])) (OwnFrom.and (Own.from (boxed_own _ _ (fun _ => .int .i64 0)) _) (ownFrom_touch (Nat.le_refl _))))
      ⟨by simp, bB3, Touch.refl _ _⟩
      (fun i a' W => ∃ Bx, w3.heap.size ≤ Bx ∧ KBox W Bx ks[i].p.id ks[i].p.kind ks[i].a ks[i].p.sec.length ks[i].c ks[i].p.sf ks[i].p.su ks[i].p.tf ks[i].p.tu ∧ a' = { tmps := #[.slice ra rn rc, .int .i64 n, .agg #[.int .u8 d0, .int .u8 d1, .int .u8 d2, .int .u8 d3, .int .u8 d4, .int .u8 d5, .int .u8 d6, .int .u8 d7], .func (.func 87) #[] #[.pointer (some ⟨b0, 0, none⟩), .pointer (some ⟨b1, 0, none⟩), .pointer (some ⟨b2, 0, none⟩)], undef, undef, .pointer (some ⟨w.heap.size, 0, none⟩), undef, .pointer (some ⟨w.heap.size + 1, 0, none⟩), .int .i64 0, undef, .pointer (some ⟨Bx, 0, none⟩), .slice ra rn rc, .int .i64 n, .int .i64 0, .int .i64 0, .bool false, undef, .func (.func 87) #[] #[.pointer (some ⟨b0, 0, none⟩), .pointer (some ⟨b1, 0, none⟩), .pointer (some ⟨b2, 0, none⟩)], .int .i64 (i.1 : Int), ks[i].agg, undef, undef, undef, undef], defers := [] })
      (fun x a' s X Y row hs hg hr => by obtain ⟨Bx, h1, h2, h3⟩ := hs; exact ⟨Bx, h1, kbox_own (β := Unit) _ Bx () X Y row h2 hg hr, h3⟩)
      ?assign ?body ?done ?stop
    case assign =>
      rintro l pre x W K ⟨hp, hb, ht⟩ hK
      gi_wp2
      exact hK _ _ ((KeepsOthers.alloc _ _).from _) ((Touch.refl _ W).alloc _) ⟨hp, hb.alloc _, ht.alloc _⟩ ⟨W.heap.size, ht.size, kbox_new W _ _ _ _ _ _ _ _ _, rfl⟩
    case body =>
      rintro l pre x a' W hll ⟨r, hr⟩ ⟨hp, hb, ht⟩ ⟨Bx, hBx, hX, rfl⟩ hlt
      have HT : Hid (Touch (fun k => k = w.heap.size + 1) w3 W) := ht
      have HB : Hid (Boxed W (w.heap.size + 1) 29 (.int .i64 0)) := hb
      have HP : Hid (∀ i ∈ pre, passB ks[i].p.sec ≠ [d0, d1, d2, d3, d4, d5, d6, d7]) := hp
      have hwc := HV'.out W (hKB W (HT.out.mono (fun _ _ h => Or.inl h)))
      have okx := hwc.ok ks[x] (List.getElem_mem _)
      have HPW : ∀ u : Aft W, Calls Tryz.prog 63 #[ks[x].agg] u.w fun e w'' => e = .returned (.agg (bytesOf (passB ks[x].p.sec)).toArray) ∧ Touch (fun _ => False) u.w w'' := fun u => password_any ks[x] u.w (okx.keep u.gr) (HS.out _ (List.getElem_mem _))
      have heq : ∀ w', Sem.run Tryz.prog (Op.equalIn 10000 82 (.agg (bytesOf (passB ks[x].p.sec)).toArray) (.agg #[.int .u8 d0, .int .u8 d1, .int .u8 d2, .int .u8 d3, .int .u8 d4, .int .u8 d5, .int .u8 d6, .int .u8 d7])) w' = .ok (decide (passB ks[x].p.sec = [d0, d1, d2, d3, d4, d5, d6, d7])) w' := fun w' => HEQ.out ks[x].p.sec okx.all.sec w'
      have zW := au_row_touch z3 HT.out (by omega)
      have e0 := aft_cell (zW.cell 0)
      have e1 := aft_cell (zW.cell 1)
      have e2 := aft_cell (zW.cell 2)
      have e3 := aft_cell (zW.cell 3)
      have e4 := aft_cell (zW.cell 4)
      have e5 := aft_cell (zW.cell 5)
      have e6 := aft_cell (zW.cell 6)
      have e7 := aft_cell (zW.cell 7)
      have x0 := aft_cell hX.c0
      have x1 := aft_cell hX.c1
      have x2 := aft_cell hX.c2
      have x3 := aft_cell hX.c3
      have x4 := aft_cell hX.c4
      have x5 := aft_cell hX.c5
      have x6 := aft_cell hX.c6
      have HMt : Hid (∀ B, decide (passB ks[x].p.sec = [d0, d1, d2, d3, d4, d5, d6, d7]) = B → (B = true ↔ passB ks[x].p.sec = [d0, d1, d2, d3, d4, d5, d6, d7])) := fun B hB => by rw [← hB]; simp
      generalize hBB : decide (passB ks[x].p.sec = [d0, d1, d2, d3, d4, d5, d6, d7]) = BB at heq
      have HM := HMt.out BB hBB
      clear hwc okx hX zW hBB HMt
      generalize (bytesOf (passB ks[x].p.sec)).toArray = PP at *
      gi_wp2_with fail
      refine wpInR_region_aft (by kernel_rfl) (by kernel_rfl) (by kernel_rfl) ?_
      repeat (first | go_big_quiet_skip | (go_big_quiet_want; go_big_quiet_op; first | go_big_quiet_on | (refine Exists.intro _ ⟨fun _ => rfl, ?_⟩; go_big_quiet_on)))
      go_big_quiet_want; go_big_quiet_op; refine Exists.intro _ ⟨fun u => Aft.call (HPW u), ?_⟩; go_big_quiet_on
      repeat (first | go_big_quiet_skip | (go_big_quiet_want; go_big_quiet_op; first | go_big_quiet_on | (refine Exists.intro _ ⟨fun _ => rfl, ?_⟩; go_big_quiet_on)))
      refine wpQuiet_nil ?_
      rintro wq ⟨⟨_, hgq⟩, rfl⟩
      clear x0 x1 x2 x3 x4 x5 x6 e0 e1 e2 e3 e4 e5 e6 e7 HPW heq
      cases BB
      · have hne : passB ks[x].p.sec ≠ [d0, d1, d2, d3, d4, d5, d6, d7] := fun h => by have := HM.2 h; cases this
        gi_wp2
        exact ⟨keepsFrom_touch hgq, hgq.mono (fun _ _ h => h.elim), fun i hi => (List.mem_append.1 hi).elim (HP.out i) (fun e => by simp at e; subst e; exact hne), boxed_touch HB.out hgq, HT.out.trans (hgq.mono (fun _ _ h => h.elim))⟩
      · have hee : passB ks[x].p.sec = [d0, d1, d2, d3, d4, d5, d6, d7] := HM.1 rfl
        have hb2 := boxed_touch HB.out hgq
        have hc2 := hb2.cell
        have hf2 := hb2.frozen
        gi_wp2
        exact ⟨(keepsFrom_touch hgq).trans ((KeepsOthers.setCell _ _ _).from _), ⟨rfl, x, by simp, hee⟩, hb2.set _, Touch.setCell (p := ⟨w.heap.size + 1, 0, none⟩) (HT.out.trans (hgq.mono (fun _ _ h => h.elim))) (Or.inl rfl) _⟩
    case done =>
      rintro D xs W hD rfl ⟨hp, hb, ht⟩ hK
      have hO : OO = 26 := by
        rw [HOP.out, if_neg]
        intro h
        obtain ⟨i, hi, e⟩ := HPA.out.1 h
        exact hp i hi e
      subst hO
      have hcb := hb.cell
      have hfb := hb.frozen
      gi_wp2
      have hK' := (KeepsOthers.setCell W ⟨w.heap.size + 1, 0, none⟩ (.int .i64 26)).same D _ hK rfl
      refine ⟨by simp, .inl ⟨_, _, rfl, run_takeDeferred hK', ?_⟩⟩
      have hc5 := cell_kept (World.cell?_setCell_same' W ⟨w.heap.size + 1, 0, none⟩ (.int .i64 26) (by rw [hcb]; rfl)) (grownBy_putObj' _ D (.deferred none)) (fun r e => by cases e; exact ⟨_, hK', rfl⟩)
      refine ⟨.int .i64 26, ?_, rfl, ?_⟩
      · simp [results, Tryz.results78, go_sem, hc5]
      · exact (Touch.setCell (p := ⟨w.heap.size + 1, 0, none⟩) (T3.out.trans' ht (fun k hk e => by omega)) (Or.inr (by simp)) _).grown (grownBy_putObj' _ D _) (fun k hk => by cases hk; exact Or.inr (by omega))
    case stop =>
      rintro D c pre W hD ⟨k, hk, rfl⟩ ⟨⟨rfl, i, hi, e⟩, hb, ht⟩ hK
      have hO : OO = 0 := by
        rw [HOP.out, if_pos]
        have := (mem_selK _ _ _ _).1 hi
        exact HPA.out.2 ⟨i, (mem_selK _ _ _ _).2 ⟨i.2, this.2⟩, e⟩
      subst hO
      gi_wp2
      refine ⟨by simp, .inl ⟨_, _, rfl, run_takeDeferred hK, ?_⟩⟩
      have hc5 := cell_kept hb.cell (grownBy_putObj' W D (.deferred none)) (fun r e => by cases e; exact ⟨_, hK, rfl⟩)
      refine ⟨.int .i64 0, ?_, rfl, ?_⟩
      · simp [results, Tryz.results78, go_sem, hc5]
      · exact (T3.out.trans' ht (fun k hk e => by omega)).grown (grownBy_putObj' _ D _) (fun k hk => by cases hk; exact Or.inr (by omega))
  · rw [if_pos hW] at HOP
    have cB := bB3.cell
    have fB := bB3.frozen
    have hO := HOP.out
    subst hO
    gi_wp2_with fail
    have hc5 := World.cell?_setCell_same' w3 ⟨w.heap.size + 1, 0, none⟩ (.int .i64 OO) (by rw [cB]; rfl)
    refine ⟨.int .i64 OO, ?_, rfl, ?_⟩
    · simp [results, Tryz.results78, go_sem, hc5]
    · exact Touch.setCell (p := ⟨w.heap.size + 1, 0, none⟩) T3.out (Or.inr (by simp)) _
end Go.Proofs.YtjjgbcjgmjggnaaGreatDoor
