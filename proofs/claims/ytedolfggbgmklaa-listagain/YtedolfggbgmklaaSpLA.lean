
/- ListAgain: the walk. -/
import Derived.Test.YtedolfggbgmklaaSpPh2
import Derived.Test.YtedolfggbgmklaaSpArgs3
import Derived.Test.YtedolfggbgmklaaSpL3
namespace Go.Proofs.Ytedolfggbgmklaa
open Go.RowKit
set_option linter.unusedVariables false
set_option maxRecDepth 100000

theorem keq15 (x y : HV) (hx : x.Al) (hy : y.Al) (w : World) : (Op.equal 55 x.ky y.ky).run Try.prog w = .ok (x.sk y) w := by
  obtain ⟨lx, hkx⟩ := key_al hx
  obtain ⟨ly, hky⟩ := key_al hy
  obtain ⟨r, h1, h2⟩ := run_equal_deep (P := Try.prog) (m := 2) w (by omega) (k := 55) (by kernel_rfl) (by kernel_rfl) hkx hky
  rw [h1]
  have e : r = x.sk y := by
    cases hr : x.sk y
    · cases r
      · rfl
      · exact absurd ((ky_iff x y).1 (lawK.inj hkx (by rw [hky, h2.1 rfl]))) (by rw [hr]; simp)
    · cases r
      · refine absurd (h2.2 ?_) (by simp)
        have e1 := (ky_iff x y).2 hr
        rw [e1, hky] at hkx
        injection hkx with e2
        exact e2.symm
      · rfl
  rw [e]
/-- The list, when k states have been added. -/
def LA1 (w : World) (S : List SB) (L m e : Nat) (rx : Int) (k : Nat) (wr : World) : Prop := ∃ its, PhS w wr L m e rx 0 its ∧ its.map (fun i => i.h) = (S.take k).map (fun x => x.h)
theorem LA1.keep {w wr w' : World} {S : List SB} {L m e : Nat} {rx : Int} {k : Nat} (h : LA1 w S L m e rx k wr) (t : Touch (fun _ => False) wr w') : LA1 w S L m e rx k w' := by
  obtain ⟨its, h1, h2⟩ := h
  exact ⟨its, h1.keep t, h2⟩
theorem LA1.t {w wr : World} {S : List SB} {L m e : Nat} {rx : Int} {k : Nat} (h : LA1 w S L m e rx k wr) : Touch (fun _ => False) w wr := by
  obtain ⟨its, h1, h2⟩ := h
  exact h1.t
/-- Is state j kept, being not confirmed? -/
def kp (cf : List Bool) (j : Nat) : Bool := !(cf[j]?.getD false)
/-- The heads of those of the first k that are kept. -/
def AK (S : List SB) (cf : List Bool) : Nat → List HV
  | 0 => []
  | k + 1 => match S[k]? with
    | some x => if kp cf k = true then AK S cf k ++ [x.h] else AK S cf k
    | none => AK S cf k
theorem AK_yes {S : List SB} {cf : List Bool} {k : Nat} {x : SB} (h : S[k]? = some x) (hk : kp cf k = true) : AK S cf (k + 1) = AK S cf k ++ [x.h] := by
  show (match S[k]? with | some x => _ | none => _) = _
  rw [h]
  exact if_pos hk
theorem AK_no {S : List SB} {cf : List Bool} {k : Nat} {x : SB} (h : S[k]? = some x) (hk : kp cf k = false) : AK S cf (k + 1) = AK S cf k := by
  show (match S[k]? with | some x => _ | none => _) = _
  rw [h]
  exact if_neg (by rw [hk]; simp)
theorem AK_len (S : List SB) (cf : List Bool) : ∀ k, (AK S cf k).length ≤ k
  | 0 => Nat.le_refl _
  | k + 1 => by
    have ih := AK_len S cf k
    unfold AK
    split
    · split
      · rw [List.length_append]; simp; omega
      · omega
    · omega
theorem AK_mem {S : List SB} {cf : List Bool} {h : HV} : ∀ k, h ∈ AK S cf k → ∃ j x, j < k ∧ S[j]? = some x ∧ kp cf j = true ∧ x.h = h
  | 0, hm => by cases hm
  | k + 1, hm => by
    cases hs : S[k]? with
    | none =>
      have e : AK S cf (k + 1) = AK S cf k := by show (match S[k]? with | some x => _ | none => _) = _; rw [hs]
      rw [e] at hm
      obtain ⟨j, x, h1, h2⟩ := AK_mem k hm
      exact ⟨j, x, by omega, h2⟩
    | some x =>
      cases hk : kp cf k with
      | false =>
        rw [AK_no hs hk] at hm
        obtain ⟨j, x, h1, h2⟩ := AK_mem k hm
        exact ⟨j, x, by omega, h2⟩
      | true =>
        rw [AK_yes hs hk] at hm
        rcases List.mem_append.1 hm with hm | hm
        · obtain ⟨j, x, h1, h2⟩ := AK_mem k hm
          exact ⟨j, x, by omega, h2⟩
        · simp only [List.mem_singleton] at hm
          exact ⟨k, x, by omega, hs, hk, hm.symm⟩
/-- The list, when of the first k those that are confirmed have been struck. -/
def LA2 (w : World) (S : List SB) (cf : List Bool) (L m e : Nat) (rx : Int) (k : Nat) (wr : World) : Prop := ∃ its, PhS w wr L m e rx 0 its ∧ its.map (fun i => i.h) = AK S cf k ++ (S.drop k).map (fun x => x.h)
theorem LA2.t {w wr : World} {S : List SB} {cf : List Bool} {L m e : Nat} {rx : Int} {k : Nat} (h : LA2 w S cf L m e rx k wr) : Touch (fun _ => False) w wr := by
  obtain ⟨its, h1, h2⟩ := h
  exact h1.t
/-- The list, ahead of tick t. -/
def LA3 (w : World) (S : List SB) (cf : List Bool) (L m e : Nat) (rx : Int) (N t : Nat) (wr : World) : Prop := ∃ its wt, PhS w wr L m e rx wt its ∧ its.map (fun i => i.h) = AK S cf N ∧ 0 ≤ wt ∧ wt < rx ∧ (its ≠ [] → wt = ((t : Int) - 1) % rx)
theorem LA3.t {w wr : World} {S : List SB} {cf : List Bool} {L m e : Nat} {rx : Int} {N t : Nat} (h : LA3 w S cf L m e rx N t wr) : Touch (fun _ => False) w wr := by
  obtain ⟨its, wt, h1, _⟩ := h
  exact h1.t
theorem LA3.keep {w wr w' : World} {S : List SB} {cf : List Bool} {L m e : Nat} {rx : Int} {N t : Nat} (h : LA3 w S cf L m e rx N t wr) (tt : Touch (fun _ => False) wr w') : LA3 w S cf L m e rx N t w' := by
  obtain ⟨its, wt, h1, h2⟩ := h
  exact ⟨its, wt, h1.keep tt, h2⟩
theorem mod_step {t rx wt : Int} (hr : 0 < rx) (h : wt = (t - 1) % rx) : (wt + 1 < rx → t % rx = wt + 1) ∧ (¬ (wt + 1 < rx) → t % rx = 0) := by
  have h0 : 0 ≤ wt := by rw [h]; exact Int.emod_nonneg _ (by omega)
  have h1 : wt < rx := by rw [h]; exact Int.emod_lt_of_pos _ hr
  have e : t % rx = (wt + 1) % rx := by
    rw [h, Int.emod_add_emod]
    congr 1
    omega
  refine ⟨fun g => ?_, fun g => ?_⟩
  · rw [e]
    exact Int.emod_eq_of_lt (by omega) g
  · have : wt + 1 = rx := by omega
    rw [e, this]
    exact Int.emod_self
theorem cellsP_at : ∀ (ps : List (HV × Value)) (a : Nat) (p : HV × Value) (i : Nat), ps[a]? = some p → i < 9 → (cellsP ps)[a * 9 + i]? = (p.1.c8 ++ [p.2])[i]?
  | [], a, p, i, h, _ => by simp at h
  | q :: ps, 0, p, i, h, hi => by
    have e : q = p := by simpa using h
    subst e
    show ((q.1.c8 ++ [q.2]) ++ cellsP ps)[0 * 9 + i]? = _
    rw [List.getElem?_append_left (by simp [HV.c8]; omega)]
    simp
  | q :: ps, a + 1, p, i, h, hi => by
    show ((q.1.c8 ++ [q.2]) ++ cellsP ps)[(a + 1) * 9 + i]? = _
    have hl : (q.1.c8 ++ [q.2]).length = 9 := by simp [HV.c8]
    rw [List.getElem?_append_right (by rw [hl]; omega), hl]
    have e : (a + 1) * 9 + i - 9 = a * 9 + i := by omega
    rw [e]
    exact cellsP_at ps a p i (by simpa using h) hi
theorem self_same (x : HV) : (x.sk x && (x.new15 x == 0)) = true := by
  have h1 : x.sk x = true := (ky_iff x x).1 rfl
  have h2 : x.new15 x = 0 := newI_self _ _ _
  rw [h1, h2]
  rfl
theorem filt_heads {its : List It} {x : HV} {A R : List HV} (hm : its.map (fun i => i.h) = A ++ x :: R) (nd : (its.map (fun i => i.h.ky)).Nodup) : (its.filter (fun i => !(i.h.sk x && (i.h.new15 x == 0)))).map (fun i => i.h) = A ++ R := by
  have e1 : (its.filter (fun i => !(i.h.sk x && (i.h.new15 x == 0)))).map (fun i => i.h) = (its.map (fun i => i.h)).filter (fun h => !(h.sk x && (h.new15 x == 0))) := by
    rw [List.filter_map]
    rfl
  have nd2 : ((A ++ x :: R).map HV.ky).Nodup := by
    rw [← hm, List.map_map]
    exact nd
  rw [List.map_append, List.map_cons] at nd2
  obtain ⟨na, nb, nc⟩ := List.nodup_append.1 nd2
  have a1 : ∀ h ∈ A, (!(h.sk x && (h.new15 x == 0))) = true := fun h hh => by
    have : h.ky ≠ x.ky := fun e => nc h.ky (List.mem_map.2 ⟨h, hh, rfl⟩) x.ky (by simp) e
    rw [ne_eq, ky_iff] at this
    simp [this]
  have a2 : ∀ h ∈ R, (!(h.sk x && (h.new15 x == 0))) = true := fun h hh => by
    have : h.ky ≠ x.ky := fun e => (List.nodup_cons.1 nb).1 (List.mem_map.2 ⟨h, hh, e⟩)
    rw [ne_eq, ky_iff] at this
    simp [this]
  rw [e1, hm, List.filter_append, List.filter_cons, List.filter_eq_self.2 a1, List.filter_eq_self.2 a2, self_same x]
  rfl
theorem cells_head (x : SB) {i : Nat} {u : Value} (h : [.int .u16 x.h.age, .int .u8 x.h.opts, .int .u8 x.h.typ, .int .u32 x.h.id, .int .u32 x.h.adv, .int .i32 x.h.seq, .int .u16 x.h.sum, .int .u16 x.h.len][i]? = some u) : x.cells[i]? = some u := by
  have e : x.cells = [.int .u16 x.h.age, .int .u8 x.h.opts, .int .u8 x.h.typ, .int .u32 x.h.id, .int .u32 x.h.adv, .int .i32 x.h.seq, .int .u16 x.h.sum, .int .u16 x.h.len] ++ [x.v] := rfl
  have hi := (List.getElem?_eq_some_iff.1 h).1
  rw [e, List.getElem?_append_left hi]
  exact h
/-- None of the first j has x's key. -/
def NoK (S : List SB) (x : HV) (j : Nat) : Prop := ∀ i y, i < j → S[i]? = some y → y.h.sk x = false
set_option maxHeartbeats 8000000 in
theorem again_any (rx : Int) (sa ba : Option Addr) (sc bc : Nat) (S : List SB) (cf : List Bool) (w : World) (hr0 : 0 ≤ rx) (hr1 : rx < 65536) (hS : SbsAt w (.slice sa S.length sc) S) (hB : BlsAt w (.slice ba cf.length bc) cf) :
    Calls Try.prog 6 #[.int .u16 rx, .slice sa S.length sc, .slice ba cf.length bc] w fun e w' => e = .returned (.bool true) ∧ Touch (fun _ => False) w w' := by
  have T0 : Touch (fun _ => False) w w := Touch.refl _ _
  by_cases hz : rx = 0
  · subst hz
    go_enter Try.func6, Try.ntmps6
    go_wp2_with fail
    refine Calls.mono (works15 _) ?_
    rintro e' wz ⟨rfl, tz⟩
    have TZ := T0.trans tz
    clear tz
    go_wp2_with fail
    go_ret
    exact ⟨rfl, TZ⟩
  have hzb : (rx == 0) = false := by simpa using hz
  by_cases h20 : 20 < rx
  · clear hS hB
    go_enter Try.func6, Try.ntmps6
    go_wp2_with fail
    refine Calls.mono (works15 _) ?_
    rintro e' wz ⟨rfl, tz⟩
    have TZ := T0.trans tz
    clear tz
    go_wp2_with fail
    go_ret
    exact ⟨rfl, TZ⟩
  obtain ⟨N, hN⟩ : ∃ N, S.length = N := ⟨_, rfl⟩
  obtain ⟨B, hBl⟩ : ∃ B, cf.length = B := ⟨_, rfl⟩
  rw [hN] at hS ⊢
  rw [hBl] at hB ⊢
  by_cases h12 : (12 : Int) < (N : Int)
  · clear hS hB
    go_enter Try.func6, Try.ntmps6
    go_wp2_with fail
    refine Calls.mono (works15 _) ?_
    rintro e' wz ⟨rfl, tz⟩
    have TZ := T0.trans tz
    clear tz
    go_wp2_with fail
    go_ret
    exact ⟨rfl, TZ⟩
  by_cases hn0 : N = 0
  · subst hn0
    clear hS hB
    go_enter Try.func6, Try.ntmps6
    go_wp2_with fail
    refine Calls.mono (works15 _) ?_
    rintro e' wz ⟨rfl, tz⟩
    have TZ := T0.trans tz
    clear tz
    go_wp2_with fail
    go_ret
    exact ⟨rfl, TZ⟩
  have hnb : ((N : Int) == 0) = false := by simp; omega
  have HS : Hid (∀ w', Touch (fun _ => False) w w' → SbsAt w' (.slice sa N sc) S) := fun w' t => hS.keep t
  have HBs : Hid (∀ w', Touch (fun _ => False) w w' → BlsAt w' (.slice ba B bc) cf) := fun w' t => hB.keep t
  have HR : Hid (0 < rx ∧ rx ≤ 20) := ⟨by omega, by omega⟩
  have HNN : Hid (S.length = N ∧ 0 < N ∧ N ≤ 12 ∧ cf.length = B) := ⟨hN, by omega, by omega, hBl⟩
  have HNW := lnew_any w rx hz
  clear hS hB hN hBl T0
  go_enter Try.func6, Try.ntmps6
  go_wp2_with fail
  refine Calls.mono HNW ?_
  rintro e' w1 ⟨L, m, e, rfl, hls, g1, g2, g3, t1⟩
  have P1 : Hid (LA1 w S L m e rx 0 w1) := ⟨[], phs_new hls g1 g2 g3 t1, by simp⟩
  clear HNW hls g1 g2 g3 t1
  go_wp2_with fail
  go_loopw [9] (fun i wr => ∃ k : Nat, k ≤ N ∧ i = .int .i64 k ∧ LA1 w S L m e rx k wr) (fun i _ => N - (intOf i).toNat)
  case atStart => exact ⟨0, Nat.zero_le _, rfl, P1.out⟩
  case round =>
    obtain ⟨k, hk, rfl, hla⟩ := hrel
    obtain ⟨wo, rfl⟩ : ∃ wo, wo = wr := ⟨_, rfl⟩
    by_cases hlt : k < N
    · obtain ⟨x, hx⟩ : ∃ x, S[k]? = some x := ⟨_, List.getElem?_eq_getElem (by rw [HNN.out.1]; exact hlt)⟩
      have tw := hla.t
      obtain ⟨okx, gS, oS, rfl, hcell⟩ := (HS.out wo tw).one hx
      have hlt' : (k : Int) < (N : Int) := by omega
      have hk0 : (0 : Int) ≤ (k : Int) := by omega
      have hkw : wrap64 ((k : Int) + 1) = (k : Int) + 1 := by unfold wrap64; omega
      obtain ⟨va, vc, hxv, hvm⟩ := okx.arg.form
      have e8 : wo.cell? ⟨gS, oS + k * 9 + 8, none⟩ = some (.slice va x.rs.length vc) := by rw [Nat.add_assoc, ← hxv]; exact hcell 8 _ rfl
      have hgl := lt_of_cell e8
      have HX : Hid (S[k]? = some x ∧ x.Ok wo ∧ x.v = .slice va x.rs.length vc ∧ ∀ i u, x.cells[i]? = some u → wo.cell? ⟨gS, oS + (k * 9 + i), none⟩ = some u) := ⟨hx, okx, hxv, hcell⟩
      have HLA : Hid (LA1 w S L m e rx k wo ∧ Touch (fun _ => False) w wo) := ⟨hla, tw⟩
      obtain ⟨n8, hn8⟩ : ∃ n, x.rs.length = n := ⟨_, rfl⟩
      rw [hn8] at e8
      have HN8 : Hid (x.rs.length = n8) := hn8
      clear hx okx hcell hxv hvm hla tw hn8
      by_cases h60 : (60 : Int) < (n8 : Int)
      · have T0 := HLA.out.2
        go_wp2_with fail
        refine Calls.mono (works15 _) ?_
        rintro e' wz ⟨rfl, tz⟩
        have TZ := T0.trans tz
        clear tz
        go_wp2_with fail
        go_ret
        exact ⟨rfl, TZ⟩
      · clear P1
        go_wp2_with fail
        go_loopw [10] (fun i wi => ∃ j : Nat, j ≤ k ∧ i = .int .i64 j ∧ NoK S x.h j ∧ Touch (fun _ => False) wo wi) (fun i _ => k - (intOf i).toNat)
        case atStart => exact ⟨0, Nat.zero_le _, rfl, fun i y hi => by omega, Touch.refl _ _⟩
        case round =>
          obtain ⟨j, hj, rfl, hno, ti⟩ := hrel
          obtain ⟨wi, rfl⟩ : ∃ wi, wi = wr := ⟨_, rfl⟩
          by_cases hjk : j < k
          · obtain ⟨y, hy⟩ : ∃ y, S[j]? = some y := ⟨_, List.getElem?_eq_getElem (by rw [HNN.out.1]; omega)⟩
            obtain ⟨oky, gS', oS', eS, ycell⟩ := (HS.out wi (HLA.out.2.trans ti)).one hy
            cases eS
            have hjk' : (j : Int) < (k : Int) := by omega
            have hj0 : (0 : Int) ≤ (j : Int) := by omega
            have hjN : (j : Int) < (N : Int) := by omega
            have hjw : wrap64 ((j : Int) + 1) = (j : Int) + 1 := by unfold wrap64; omega
            obtain ⟨r, hr⟩ : ∃ r, y.h.sk x.h = r := ⟨_, rfl⟩
            have heq : ∀ w', Sem.run Try.prog (binOp .eql 55 (.agg #[.int .u8 y.h.typ, .int .u32 y.h.id, .int .u32 y.h.adv]) (.agg #[.int .u8 x.h.typ, .int .u32 x.h.id, .int .u32 x.h.adv])) w' = .ok (.bool r) w' := fun w' => by
              have := keq15 y.h x.h oky.al HX.out.2.1.al w'
              unfold HV.ky at this
              rw [← hr]
              simp [binOp, this, go_sem]
            have ry : ∀ w', SnL wi w' → w'.rangeAt gS (oS + j * 9) [.int .u16 y.h.age, .int .u8 y.h.opts, .int .u8 y.h.typ, .int .u32 y.h.id, .int .u32 y.h.adv, .int .i32 y.h.seq, .int .u16 y.h.sum, .int .u16 y.h.len] := fun w' s i u hu => by rw [Nat.add_assoc]; exact s.t.cellN (ycell i u (cells_head y hu))
            have rxx : ∀ w', SnL wi w' → w'.rangeAt gS (oS + k * 9) [.int .u16 x.h.age, .int .u8 x.h.opts, .int .u8 x.h.typ, .int .u32 x.h.id, .int .u32 x.h.adv, .int .i32 x.h.seq, .int .u16 x.h.sum, .int .u16 x.h.len] := fun w' s i u hu => by rw [Nat.add_assoc]; exact s.t.cellN (ti.cellN (HX.out.2.2.2 i u (cells_head x hu)))
            have HNO : Hid (NoK S x.h j ∧ S[j]? = some y ∧ y.h.sk x.h = r ∧ Touch (fun _ => False) wo wi) := ⟨hno, hy, hr, ti⟩
            clear hno hy oky ycell hr ti e8 hgl
            go_upto_region 14 with fail
            refine wp_region_held_drew (S := fun w' => SnL wi w') (by kernel_rfl) (SnL.start wi) (fun hHeld => ?_)
            refine wpAnyH_take (i := 0) (oi := ⟨some 60, _, _, _, _, _⟩) (v := .slice (some ⟨gS, oS, none⟩) N sc) rfl (by kernel_rfl) (by kernel_rfl) (by kernel_rfl) (fun _ _ _ h => h) (Or.inl ⟨by rfl, fun w hw => by go_simp⟩) (by assumption) ?_
            simp only [Act.put, List.setIfInBounds_toArray, List.set_cons_zero, List.set_cons_succ]
            refine wpAnyH_take (i := 1) (oi := ⟨some 61, _, _, _, _, _⟩) (v := .int .i64 (j : Int)) rfl (by kernel_rfl) (by kernel_rfl) (by kernel_rfl) (fun _ _ _ h => h) (Or.inl ⟨by rfl, fun w hw => by go_simp⟩) (by assumption) ?_
            simp only [Act.put, List.setIfInBounds_toArray, List.set_cons_zero, List.set_cons_succ]
            refine wpAnyH_take (i := 2) (oi := ⟨some 62, _, _, _, _, _⟩) (v := .pointer (some ⟨gS, oS + j * 9, none⟩)) rfl (by kernel_rfl) (by kernel_rfl) (by kernel_rfl) (fun _ _ _ h => h) (Or.inl ⟨by rfl, fun w hw => by go_simp <;> first | omega | (intro hh; omega)⟩) (by assumption) ?_
            simp only [Act.put, List.setIfInBounds_toArray, List.set_cons_zero, List.set_cons_succ]
            refine wpAnyH_take (i := 3) (oi := ⟨some 63, _, _, _, _, _⟩) (v := .pointer (some ⟨gS, oS + j * 9, none⟩)) rfl (by kernel_rfl) (by kernel_rfl) (by kernel_rfl) (fun _ _ _ h => h) (Or.inl ⟨by rfl, fun w hw => by go_simp⟩) (by assumption) ?_
            simp only [Act.put, List.setIfInBounds_toArray, List.set_cons_zero, List.set_cons_succ]
            refine wpAnyH_take (i := 4) (oi := ⟨some 64, _, _, _, _, _⟩) (v := .agg #[.int .u16 y.h.age, .int .u8 y.h.opts, .int .u8 y.h.typ, .int .u32 y.h.id, .int .u32 y.h.adv, .int .i32 y.h.seq, .int .u16 y.h.sum, .int .u16 y.h.len]) rfl (by kernel_rfl) (by kernel_rfl) (by kernel_rfl) (fun _ _ _ h => h) (yieldsIf_load_mid (by rfl) _ _ rfl _ _ rfl [.int .u16 y.h.age, .int .u8 y.h.opts, .int .u8 y.h.typ, .int .u32 y.h.id, .int .u32 y.h.adv, .int .i32 y.h.seq, .int .u16 y.h.sum, .int .u16 y.h.len] _ (fun w h => ry w h) Try.underlying25 rfl (by kernel_rfl)) (by assumption) ?_
            simp only [Act.put, List.setIfInBounds_toArray, List.set_cons_zero, List.set_cons_succ]
            refine wpAnyH_take (i := 6) (oi := ⟨some 66, _, _, _, _, _⟩) (v := .slice (some ⟨gS, oS, none⟩) N sc) rfl (by kernel_rfl) (by kernel_rfl) (by kernel_rfl) (fun _ _ _ h => h) (Or.inl ⟨by rfl, fun w hw => by go_simp⟩) (by assumption) ?_
            simp only [Act.put, List.setIfInBounds_toArray, List.set_cons_zero, List.set_cons_succ]
            refine wpAnyH_take (i := 7) (oi := ⟨some 67, _, _, _, _, _⟩) (v := .int .i64 (k : Int)) rfl (by kernel_rfl) (by kernel_rfl) (by kernel_rfl) (fun _ _ _ h => h) (Or.inl ⟨by rfl, fun w hw => by go_simp⟩) (by assumption) ?_
            simp only [Act.put, List.setIfInBounds_toArray, List.set_cons_zero, List.set_cons_succ]
            refine wpAnyH_take (i := 8) (oi := ⟨some 68, _, _, _, _, _⟩) (v := .pointer (some ⟨gS, oS + k * 9, none⟩)) rfl (by kernel_rfl) (by kernel_rfl) (by kernel_rfl) (fun _ _ _ h => h) (Or.inl ⟨by rfl, fun w hw => by go_simp <;> first | omega | (intro hh; omega)⟩) (by assumption) ?_
            simp only [Act.put, List.setIfInBounds_toArray, List.set_cons_zero, List.set_cons_succ]
            refine wpAnyH_take (i := 9) (oi := ⟨some 69, _, _, _, _, _⟩) (v := .pointer (some ⟨gS, oS + k * 9, none⟩)) rfl (by kernel_rfl) (by kernel_rfl) (by kernel_rfl) (fun _ _ _ h => h) (Or.inl ⟨by rfl, fun w hw => by go_simp⟩) (by assumption) ?_
            simp only [Act.put, List.setIfInBounds_toArray, List.set_cons_zero, List.set_cons_succ]
            refine wpAnyH_take (i := 10) (oi := ⟨some 70, _, _, _, _, _⟩) (v := .agg #[.int .u16 x.h.age, .int .u8 x.h.opts, .int .u8 x.h.typ, .int .u32 x.h.id, .int .u32 x.h.adv, .int .i32 x.h.seq, .int .u16 x.h.sum, .int .u16 x.h.len]) rfl (by kernel_rfl) (by kernel_rfl) (by kernel_rfl) (fun _ _ _ h => h) (yieldsIf_load_mid (by rfl) _ _ rfl _ _ rfl [.int .u16 x.h.age, .int .u8 x.h.opts, .int .u8 x.h.typ, .int .u32 x.h.id, .int .u32 x.h.adv, .int .i32 x.h.seq, .int .u16 x.h.sum, .int .u16 x.h.len] _ (fun w h => rxx w h) Try.underlying25 rfl (by kernel_rfl)) (by assumption) ?_
            simp only [Act.put, List.setIfInBounds_toArray, List.set_cons_zero, List.set_cons_succ]
            refine wpAnyH_ready (rs := [5]) (by kernel_rfl) (by simp) ?_
            refine AllReadyH.cons (o := ⟨some 65, _, _, _, _, _⟩) rfl (fun K hK => ?_) AllReadyH.nil
            go_simp
            refine Calls.mono (rkey_any _ y.h) ?_
            rintro e y1 ⟨rfl, u1⟩
            have s1 : SnL wi y1 := SnL.trans (SnL.start wi) u1
            refine hK.out _ _ s1 (fun hHeld => ?_)
            clear hK K u1
            refine wpAnyH_ready (rs := [11]) (by kernel_rfl) (by simp) ?_
            refine AllReadyH.cons (o := ⟨some 71, _, _, _, _, _⟩) rfl (fun K hK => ?_) AllReadyH.nil
            go_simp
            refine Calls.mono (rkey_any _ x.h) ?_
            rintro e y2 ⟨rfl, u2⟩
            have s2 : SnL wi y2 := SnL.trans s1 u2
            refine hK.out _ _ s2 (fun hHeld => ?_)
            clear hK K u2
            refine wpAnyH_take (i := 12) (oi := ⟨some 72, _, _, _, _, _⟩) (v := .bool r) rfl (by kernel_rfl) (by kernel_rfl) (by kernel_rfl) (fun _ _ _ h => h) (Or.inl ⟨by rfl, fun w hw => by go_simp⟩) (by assumption) ?_
            simp only [Act.put, List.setIfInBounds_toArray, List.set_cons_zero, List.set_cons_succ]
            refine wpAnyH_done (by kernel_rfl) ?_ _
            cases r with
            | true =>
              have T0 := HLA.out.2.trans (HNO.out.2.2.2.trans s2.t)
              go_wp2_with fail
              refine Calls.mono (works15 _) ?_
              rintro e' wz ⟨rfl, tz⟩
              have TZ := T0.trans tz
              clear tz
              go_wp2_with fail
              go_ret
              exact ⟨rfl, TZ⟩
            | false =>
              go_wp2_with fail
              go_roundw
              case rel =>
                refine ⟨j + 1, by omega, by go_num, fun i z hi hz => ?_, HNO.out.2.2.2.trans s2.t⟩
                by_cases hij : i < j
                · exact HNO.out.1 i z hij hz
                · have : i = j := by omega
                  subst this
                  have e1 : z = y := by have := HNO.out.2.1; rw [hz] at this; injection this
                  rw [e1]
                  exact HNO.out.2.2.1
              case measure => simp [intOf]; omega
          · have hjk2 : j = k := by omega
            subst hjk2
            have hjk' : ¬ ((j : Int) < (j : Int)) := by omega
            obtain ⟨hx, okx, hxv, hcell⟩ := HX.out
            obtain ⟨hla, tw⟩ := HLA.out
            have q0 : wi.cell? ⟨gS, oS + j * 9, none⟩ = some (.int .u16 x.h.age) := by exact ti.cellN (hcell 0 _ rfl)
            have q1 : wi.cell? ⟨gS, oS + j * 9 + 1, none⟩ = some (.int .u8 x.h.opts) := by rw [Nat.add_assoc]; exact ti.cellN (hcell 1 _ rfl)
            have q2 : wi.cell? ⟨gS, oS + j * 9 + 2, none⟩ = some (.int .u8 x.h.typ) := by rw [Nat.add_assoc]; exact ti.cellN (hcell 2 _ rfl)
            have q3 : wi.cell? ⟨gS, oS + j * 9 + 3, none⟩ = some (.int .u32 x.h.id) := by rw [Nat.add_assoc]; exact ti.cellN (hcell 3 _ rfl)
            have q4 : wi.cell? ⟨gS, oS + j * 9 + 4, none⟩ = some (.int .u32 x.h.adv) := by rw [Nat.add_assoc]; exact ti.cellN (hcell 4 _ rfl)
            have q5 : wi.cell? ⟨gS, oS + j * 9 + 5, none⟩ = some (.int .i32 x.h.seq) := by rw [Nat.add_assoc]; exact ti.cellN (hcell 5 _ rfl)
            have q6 : wi.cell? ⟨gS, oS + j * 9 + 6, none⟩ = some (.int .u16 x.h.sum) := by rw [Nat.add_assoc]; exact ti.cellN (hcell 6 _ rfl)
            have q7 : wi.cell? ⟨gS, oS + j * 9 + 7, none⟩ = some (.int .u16 x.h.len) := by rw [Nat.add_assoc]; exact ti.cellN (hcell 7 _ rfl)
            have q8 : wi.cell? ⟨gS, oS + j * 9 + 8, none⟩ = some (.slice va n8 vc) := by rw [Nat.add_assoc]; exact ti.cellN (hcell 8 _ (by rw [← HN8.out, ← hxv]; rfl))
            have hgi := lt_of_cell q0
            have harg : ArgAt wi (.slice va n8 vc) x.rs := by rw [← HN8.out, ← hxv]; exact okx.arg.keep ti (fun _ _ f => f)
            have HCS : Calls Try.prog 23 #[.agg #[.int .u16 x.h.age, .int .u8 x.h.opts, .int .u8 x.h.typ, .int .u32 x.h.id, .int .u32 x.h.adv, .int .i32 x.h.seq, .int .u16 x.h.sum, .int .u16 x.h.len, .slice va n8 vc]] wi fun e' w' => ∃ xa xc, e' = .returned (.agg #[.int .u16 x.h.age, .int .u8 x.h.opts, .int .u8 x.h.typ, .int .u32 x.h.id, .int .u32 x.h.adv, .int .i32 x.h.seq, .int .u16 x.h.sum, .int .u16 x.h.len, .slice xa n8 xc]) ∧ Buf wi w' (.slice xa n8 xc) x.rs := by
              have := scstate_any x.h (.slice va n8 vc) x.rs wi harg (by rw [HN8.out]; omega)
              rw [HN8.out] at this
              exact this
            have HLI : Hid (LA1 w S L m e rx j wi) := hla.keep ti
            have HNO : Hid (NoK S x.h j ∧ S[j]? = some x ∧ x.h.Al ∧ x.rs.length ≤ 60) := ⟨hno, hx, okx.al, by have := HN8.out; omega⟩
            clear hx okx hxv hcell hla tw harg hno ti HX HLA e8 hgl
            go_wp2_with fail
            refine Calls.mono HCS ?_
            rintro e' w2 ⟨xa, xc, rfl, BF⟩
            obtain ⟨its, P2, hm⟩ := HLI.out
            have hnk : ∀ i ∈ its, i.h.ky ≠ x.h.ky := fun i hi q => by
              have h1 : i.h ∈ (S.take j).map (fun x => x.h) := by rw [← hm]; exact List.mem_map.2 ⟨i, hi, rfl⟩
              obtain ⟨y, hy, e1⟩ := List.mem_map.1 h1
              obtain ⟨i0, hi0⟩ := List.mem_iff_getElem?.1 hy
              have hlt0 : i0 < j := by have := (List.getElem?_eq_some_iff.1 hi0).1; rw [List.length_take] at this; omega
              rw [List.getElem?_take_of_lt hlt0] at hi0
              have h2 := HNO.out.1 i0 y hlt0 hi0
              rw [e1, (ky_iff _ _).1 q] at h2
              cases h2
            have HAD := padd (P2.keep BF.t) (by omega : rx ≠ 0) HNO.out.2.2.1 hnk BF.arg HNO.out.2.2.2 (fun w' t => (BF.row.touch t (fun k hk q => by have h1 := (BF.own.lt k hk).1; have h2 := P2.ls.lb_lt q; omega)).arg)
            have HIT : Hid (its.map (fun i => i.h) = (S.take j).map (fun x => x.h) ∧ S.take (j + 1) = S.take j ++ [x]) := ⟨hm, by rw [List.take_add_one, HNO.out.2.1]; rfl⟩
            clear P2 hnk BF HCS HLI hm q0 q1 q2 q3 q4 q5 q6 q7 q8 hgi
            go_wp2_with fail
            refine Calls.mono HAD ?_
            rintro e' w3 ⟨rfl, u, b, P3, -⟩
            have HL3 : Hid (LA1 w S L m e rx (j + 1) w3) := ⟨_, P3, by rw [List.map_append, HIT.out.1, HIT.out.2, List.map_append]; rfl⟩
            clear P3 HAD HIT
            go_wp2_with fail
            go_roundw
            case rel => exact ⟨j + 1, by omega, by go_num, HL3.out⟩
            case measure => simp [intOf]; omega
    · have hkN : k = N := by omega
      subst hkN
      have hlt' : ¬ ((k : Int) < (k : Int)) := by omega
      have HND : Hid ((S.map (fun x => x.h.ky)).Nodup) := by
        obtain ⟨its, P2, hm⟩ := hla
        have h1 := P2.ls.ky
        have h2 : S.map (fun x => x.h.ky) = its.map (fun i => i.h.ky) := by
          have e1 : S.take k = S := List.take_of_length_le (by rw [HNN.out.1]; exact Nat.le_refl _)
          rw [e1] at hm
          have := congrArg (List.map HV.ky) hm
          rw [List.map_map, List.map_map] at this
          exact this.symm
        show List.Nodup _
        rw [h2]
        exact h1
      have P2 : Hid (LA2 w S cf L m e rx 0 wo) := by
        obtain ⟨its, P2, hm⟩ := hla
        refine ⟨its, P2, ?_⟩
        rw [hm, List.take_of_length_le (by rw [HNN.out.1]; exact Nat.le_refl _)]
        rfl
      clear hla P1
      go_wp2_with fail
      go_loopw [11, 12] (fun lf i wr => ∃ j : Nat, j ≤ k ∧ i = .int .i64 j ∧ lf = .int .i64 ((AK S cf j).length : Int) ∧ LA2 w S cf L m e rx j wr) (fun _ i _ => k - (intOf i).toNat)
      case atStart => exact ⟨0, Nat.zero_le _, rfl, rfl, P2.out⟩
      case round =>
        obtain ⟨j, hj, rfl, rfl, hl2⟩ := hrel
        obtain ⟨wi, rfl⟩ : ∃ wi, wi = wr := ⟨_, rfl⟩
        by_cases hjk : j < k
        · obtain ⟨x, hx⟩ : ∃ x, S[j]? = some x := ⟨_, List.getElem?_eq_getElem (by rw [HNN.out.1]; exact hjk)⟩
          have tw := hl2.t
          obtain ⟨okx, gS, oS, rfl, hcell⟩ := (HS.out wi tw).one hx
          have hjk' : (j : Int) < (k : Int) := by omega
          have hj0 : (0 : Int) ≤ (j : Int) := by omega
          have hjw : wrap64 ((j : Int) + 1) = (j : Int) + 1 := by unfold wrap64; omega
          obtain ⟨lf, hlf⟩ : ∃ lf : Nat, (AK S cf j).length = lf := ⟨_, rfl⟩
          have hlfb : lf ≤ 12 := by have := AK_len S cf j; have := HNN.out; omega
          have hlw : wrap64 ((lf : Int) + 1) = (lf : Int) + 1 := by unfold wrap64; omega
          rw [hlf]
          have HLF : Hid ((AK S cf j).length = lf) := hlf
          have HX : Hid (S[j]? = some x ∧ x.h.Al ∧ LA2 w S cf L m e rx j wi) := ⟨hx, okx.al, hl2⟩
          have hbls := HBs.out wi tw
          have q0 : wi.cell? ⟨gS, oS + j * 9, none⟩ = some (.int .u16 x.h.age) := by exact hcell 0 _ rfl
          have q1 : wi.cell? ⟨gS, oS + j * 9 + 1, none⟩ = some (.int .u8 x.h.opts) := by rw [Nat.add_assoc]; exact hcell 1 _ rfl
          have q2 : wi.cell? ⟨gS, oS + j * 9 + 2, none⟩ = some (.int .u8 x.h.typ) := by rw [Nat.add_assoc]; exact hcell 2 _ rfl
          have q3 : wi.cell? ⟨gS, oS + j * 9 + 3, none⟩ = some (.int .u32 x.h.id) := by rw [Nat.add_assoc]; exact hcell 3 _ rfl
          have q4 : wi.cell? ⟨gS, oS + j * 9 + 4, none⟩ = some (.int .u32 x.h.adv) := by rw [Nat.add_assoc]; exact hcell 4 _ rfl
          have q5 : wi.cell? ⟨gS, oS + j * 9 + 5, none⟩ = some (.int .i32 x.h.seq) := by rw [Nat.add_assoc]; exact hcell 5 _ rfl
          have q6 : wi.cell? ⟨gS, oS + j * 9 + 6, none⟩ = some (.int .u16 x.h.sum) := by rw [Nat.add_assoc]; exact hcell 6 _ rfl
          have q7 : wi.cell? ⟨gS, oS + j * 9 + 7, none⟩ = some (.int .u16 x.h.len) := by rw [Nat.add_assoc]; exact hcell 7 _ rfl
          have hgl := lt_of_cell q0
          clear hx okx hcell tw hlf hl2
          have KEEP : kp cf j = true → Hid (∃ lf' : Nat, lf' = lf + 1 ∧ (AK S cf (j + 1)).length = lf' ∧ LA2 w S cf L m e rx (j + 1) wi) := fun hkp => by
            obtain ⟨hx, al, its, P, hm⟩ := HX.out
            refine ⟨lf + 1, rfl, by rw [AK_yes hx hkp, List.length_append, HLF.out]; rfl, its, P, ?_⟩
            rw [hm, AK_yes hx hkp, List.append_assoc]
            congr 1
            rw [List.drop_eq_getElem_cons (List.getElem?_eq_some_iff.1 hx).1, (List.getElem?_eq_some_iff.1 hx).2]
            rfl
          by_cases hjB : j < B
          · have hjB' : (j : Int) < (B : Int) := by omega
            obtain ⟨bb, hbb⟩ : ∃ bb, cf[j]? = some bb := ⟨_, List.getElem?_eq_getElem (by rw [HNN.out.2.2.2]; exact hjB)⟩
            obtain ⟨gB, oB, rfl, cB⟩ := hbls.one hbb
            have hBl := lt_of_cell cB
            cases bb with
            | false =>
              obtain ⟨lf', e1, e2, hl3⟩ := (KEEP (by simp [kp, hbb])).out
              have HL3 : Hid (LA2 w S cf L m e rx (j + 1) wi ∧ (AK S cf (j + 1)).length = lf + 1) := ⟨hl3, by rw [e2, e1]⟩
              clear hl3 e1 e2 KEEP hbls hbb
              go_wp2_with fail
              go_roundw
              case rel => exact ⟨j + 1, by omega, by go_num, by rw [HL3.out.2]; go_num, HL3.out.1⟩
              case measure => simp [intOf]; omega
            | true =>
              have hkf : kp cf j = false := by simp [kp, hbb]
              have HCF : Calls Try.prog 24 #[.pointer (some ⟨L, 0, none⟩), .agg #[.int .u16 x.h.age, .int .u8 x.h.opts, .int .u8 x.h.typ, .int .u32 x.h.id, .int .u32 x.h.adv, .int .i32 x.h.seq, .int .u16 x.h.sum, .int .u16 x.h.len]] wi fun e' w' => e' = .returned (.bool true) ∧ LA2 w S cf L m e rx (j + 1) w' := by
                obtain ⟨hx, al, its, P, hm⟩ := HX.out
                have hm2 : its.map (fun i => i.h) = AK S cf j ++ x.h :: (S.drop (j + 1)).map (fun x => x.h) := by
                  rw [hm, List.drop_eq_getElem_cons (List.getElem?_eq_some_iff.1 hx).1, (List.getElem?_eq_some_iff.1 hx).2]
                  rfl
                refine (pconf P (by omega) al).mono fun e' w' hh => ?_
                obtain ⟨he, P'⟩ := hh
                refine ⟨?_, _, P', ?_⟩
                · have hmem : x.h ∈ its.map (fun i => i.h) := by rw [hm2]; simp
                  obtain ⟨i, hi, e1⟩ := List.mem_map.1 hmem
                  rw [he, List.any_eq_true.2 ⟨i, hi, by rw [e1]; exact self_same x.h⟩]
                · rw [AK_no hx hkf]
                  exact filt_heads hm2 P.ls.ky
              have HLE : Hid ((AK S cf (j + 1)).length = lf) := by show _ = _; rw [AK_no HX.out.1 hkf, HLF.out]
              clear KEEP hbls hbb hkf HLF
              go_wp2_with fail
              refine Calls.mono HCF ?_
              rintro e' w3 ⟨rfl, hl3⟩
              have HL3 : Hid (LA2 w S cf L m e rx (j + 1) w3) := hl3
              clear hl3 HCF
              go_wp2_with fail
              exact ⟨⟨j + 1, by omega, by go_num, by rw [HLE.out], HL3.out⟩, by simp [intOf]; omega⟩
          · have hjB' : ¬ ((j : Int) < (B : Int)) := by omega
            obtain ⟨lf', e1, e2, hl3⟩ := (KEEP (by simp [kp, List.getElem?_eq_none (by rw [HNN.out.2.2.2]; omega : cf.length ≤ j)])).out
            have HL3 : Hid (LA2 w S cf L m e rx (j + 1) wi ∧ (AK S cf (j + 1)).length = lf + 1) := ⟨hl3, by rw [e2, e1]⟩
            clear hl3 e1 e2 KEEP hbls
            go_wp2_with fail
            go_roundw
            case rel => exact ⟨j + 1, by omega, by go_num, by rw [HL3.out.2]; go_num, HL3.out.1⟩
            case measure => simp [intOf]; omega
        · have hjk2 : j = k := by omega
          subst hjk2
          have hjk' : ¬ ((j : Int) < (j : Int)) := by omega
          have P3 : Hid (LA3 w S cf L m e rx j 1 wi) := by
            obtain ⟨its, P, hm⟩ := hl2
            refine ⟨its, 0, P, ?_, Int.le_refl _, by have := HR.out; omega, fun _ => by simp⟩
            rw [hm, List.drop_of_length_le (by rw [HNN.out.1]; exact Nat.le_refl _)]
            simp
          obtain ⟨lf, hlf⟩ : ∃ lf : Nat, (AK S cf j).length = lf := ⟨_, rfl⟩
          rw [hlf]
          have HLF : Hid ((AK S cf j).length = lf) := hlf
          have hlfb : lf ≤ 12 := by have := AK_len S cf j; have := HNN.out; omega
          have hw3 : wrap64 (3 * rx) = 3 * rx := by unfold wrap64; have := HR.out; omega
          clear hl2 hlf P2
          go_wp2_with fail
          go_loopw [13] (fun i wr => ∃ t : Nat, 1 ≤ t ∧ (t : Int) ≤ 3 * rx + 1 ∧ i = .int .i64 t ∧ LA3 w S cf L m e rx j t wr) (fun i _ => (3 * rx + 1 - intOf i).toNat)
          case atStart => exact ⟨1, Nat.le_refl _, by have := HR.out; omega, rfl, P3.out⟩
          case round =>
            obtain ⟨t, ht1, ht2, rfl, hl3⟩ := hrel
            obtain ⟨wt0, rfl⟩ : ∃ wt0, wt0 = wr := ⟨_, rfl⟩
            by_cases htl : (t : Int) ≤ 3 * rx
            · obtain ⟨its, wt, P4, hm4, hwt0, hwt1, hwt2⟩ := hl3
              have hn12 : its.length ≤ 12 := by have := congrArg List.length hm4; rw [List.length_map, HLF.out] at this; omega
              have HTK := ptick_any P4 HR.out.1 (by omega) hwt0 hwt1 hn12
              have HST : Hid (its.map (fun i => i.h) = AK S cf j ∧ 0 ≤ wt ∧ wt < rx ∧ (its ≠ [] → wt = ((t : Int) - 1) % rx) ∧ its.length = lf) := ⟨hm4, hwt0, hwt1, hwt2, by have := congrArg List.length hm4; rw [List.length_map, HLF.out] at this; exact this⟩
              have htw : wrap64 ((t : Int) + 1) = (t : Int) + 1 := by unfold wrap64; have := HR.out; omega
              clear P4 hm4 hwt0 hwt1 hwt2 hn12
              go_wp2_with fail
              refine Calls.mono HTK ?_
              rintro e' w5 ⟨v, n, ps, wt', rfl, hrow, hpl, hmem, P5, c1, c2⟩
              obtain ⟨va, vc, rfl⟩ := own_shape9 hrow
              have NN : Hid (((t : Int) % rx ≠ 0 → n = 0) ∧ ((t : Int) % rx = 0 → n = lf) ∧ n ≤ 12) := by
                obtain ⟨hm4, hwt0, hwt1, hwt2, hil⟩ := HST.out
                have hl0 := hlfb
                by_cases hi : its = []
                · have h1 := c1 hi
                  have h2 : lf = 0 := by rw [← hil, hi]; rfl
                  exact ⟨fun _ => h1.2, fun _ => by omega, by omega⟩
                · have h1 := c2 hi
                  have h2 := mod_step HR.out.1 (hwt2 hi)
                  by_cases hw : wt + 1 < rx
                  · have h3 := h2.1 hw
                    have h4 := h1.1 hw
                    exact ⟨fun _ => h4.2, fun q => by omega, by omega⟩
                  · have h3 := h2.2 hw
                    have h4 := h1.2 (by omega)
                    exact ⟨fun q => absurd h3 q, fun _ => by omega, by omega⟩
              have ROW : Hid (w5.ownsRow wt0.heap.size 53 9 (.slice va n vc) n (cellsP ps) ∧ ps.length = n ∧ ∀ p ∈ ps, p.1 ∈ AK S cf j) := ⟨hrow, hpl, fun p hp => by obtain ⟨i, hi, e1⟩ := hmem p hp; rw [← HST.out.1, ← e1]; exact List.mem_map.2 ⟨i, hi, rfl⟩⟩
              have P6 : Hid (LA3 w S cf L m e rx j (t + 1) w5) := by
                obtain ⟨hm4, hwt0, hwt1, hwt2, hil⟩ := HST.out
                have hr := HR.out
                have et : (((t + 1 : Nat) : Int) - 1) = (t : Int) := by omega
                by_cases hi : its = []
                · have h1 := c1 hi
                  exact ⟨its, wt', P5, hm4, by omega, by omega, fun q => absurd hi q⟩
                · have h1 := c2 hi
                  have h2 := mod_step HR.out.1 (hwt2 hi)
                  by_cases hw : wt + 1 < rx
                  · have h3 := h2.1 hw
                    have h4 := h1.1 hw
                    exact ⟨its, wt', P5, hm4, by omega, by omega, fun _ => by rw [et, h3, h4.1]⟩
                  · have h3 := h2.2 hw
                    have h4 := h1.2 (by omega)
                    exact ⟨its, wt', P5, hm4, by omega, by omega, fun _ => by rw [et, h3, h4.1]⟩
              clear hrow hpl hmem P5 c1 c2 HTK HST
              by_cases hmod : (t : Int) % rx = 0
              · obtain ⟨-, hnl, hn12⟩ := NN.out
                have hnl := hnl hmod
                subst hnl
                clear NN
                go_wp2_with fail
                go_loopw [15] (fun i wr => ∃ a : Nat, a ≤ n ∧ i = .int .i64 a ∧ Touch (fun _ => False) w5 wr) (fun i _ => n - (intOf i).toNat)
                case atStart => exact ⟨0, Nat.zero_le _, rfl, Touch.refl _ _⟩
                case round =>
                  obtain ⟨a, ha, rfl, ta⟩ := hrel
                  obtain ⟨wa, rfl⟩ : ∃ wa, wa = wr := ⟨_, rfl⟩
                  by_cases han : a < n
                  · have han' : (a : Int) < (n : Int) := by omega
                    have ha0 : (0 : Int) ≤ (a : Int) := by omega
                    have haw : wrap64 ((a : Int) + 1) = (a : Int) + 1 := by unfold wrap64; omega
                    have TA : Hid (Touch (fun _ => False) w5 wa) := ta
                    clear ta
                    go_wp2_with fail
                    go_loopw [16] (fun i wr => ∃ q : Nat, q ≤ j ∧ i = .int .i64 q ∧ Touch (fun _ => False) w5 wr) (fun i _ => j - (intOf i).toNat)
                    case atStart => exact ⟨0, Nat.zero_le _, rfl, TA.out⟩
                    case round =>
                      obtain ⟨q, hq, rfl, tq⟩ := hrel
                      obtain ⟨wi, rfl⟩ : ∃ wi, wi = wr := ⟨_, rfl⟩
                      by_cases hqj : q < j
                      · have hqj' : (q : Int) < (j : Int) := by omega
                        have hq0 : (0 : Int) ≤ (q : Int) := by omega
                        have hqw : wrap64 ((q : Int) + 1) = (q : Int) + 1 := by unfold wrap64; have := HNN.out; omega
                        have tw := P6.out.t.trans tq
                        obtain ⟨y, hy⟩ : ∃ y, S[q]? = some y := ⟨_, List.getElem?_eq_getElem (by rw [HNN.out.1]; exact hqj)⟩
                        obtain ⟨oky, gS, oS, eS, ycell⟩ := (HS.out wi tw).one hy
                        subst eS
                        obtain ⟨hrow, hpl, hmem⟩ := ROW.out
                        obtain ⟨pp, hp⟩ : ∃ pp, ps[a]? = some pp := ⟨_, List.getElem?_eq_getElem (by rw [hpl]; exact han)⟩
                        obtain ⟨j0, x0, hj0, hx0, hk0, e0⟩ := AK_mem j (hmem pp (List.mem_of_getElem? hp))
                        have ok0 := (HS.out wi tw).ok x0 (List.mem_of_getElem? hx0)
                        obtain ⟨ph, pv⟩ := pp
                        have e0 : x0.h = ph := e0
                        obtain ⟨gR, eR⟩ : ∃ gR, va = some ⟨gR, 0, none⟩ := by
                          rcases hrow.2 with ⟨_, e⟩ | ⟨g, cap, cur, hv, _⟩
                          · omega
                          · injection hv with e1 e2 e3
                            exact ⟨g, e1⟩
                        subst eR
                        obtain ⟨r, hr⟩ : ∃ r, y.h.sk ph = r := ⟨_, rfl⟩
                        have heq : ∀ w', Sem.run Try.prog (binOp .eql 55 (.agg #[.int .u8 y.h.typ, .int .u32 y.h.id, .int .u32 y.h.adv]) (.agg #[.int .u8 ph.typ, .int .u32 ph.id, .int .u32 ph.adv])) w' = .ok (.bool r) w' := fun w' => by
                          have := keq15 y.h ph oky.al (by rw [← e0]; exact ok0.al) w'
                          unfold HV.ky at this
                          rw [← hr]
                          simp [binOp, this, go_sem]
                        have ry : ∀ w', SnL wi w' → w'.rangeAt gS (oS + q * 9) [.int .u16 y.h.age, .int .u8 y.h.opts, .int .u8 y.h.typ, .int .u32 y.h.id, .int .u32 y.h.adv, .int .i32 y.h.seq, .int .u16 y.h.sum, .int .u16 y.h.len] := fun w' s i u hu => by rw [Nat.add_assoc]; exact s.t.cellN (ycell i u (cells_head y hu))
                        have rp : ∀ w', SnL wi w' → w'.rangeAt gR (a * 9) [.int .u16 ph.age, .int .u8 ph.opts, .int .u8 ph.typ, .int .u32 ph.id, .int .u32 ph.adv, .int .i32 ph.seq, .int .u16 ph.sum, .int .u16 ph.len] := fun w' s i u hu => by
                          have hi : i < 8 := (List.getElem?_eq_some_iff.1 hu).1
                          have h1 := hrow.cells (g := gR) rfl (a * 9 + i) u (by rw [cellsP_at ps a _ i hp (by omega), List.getElem?_append_left (by simp [HV.c8]; exact hi)]; exact hu)
                          rw [add_plain, Nat.zero_add] at h1
                          exact s.t.cellN (tq.cellN h1)
                        have HKP : Hid (r = true → cf[q]?.getD false = false) := fun hrt => by
                          have hq2 : q = j0 := by
                            have k1 : y.h.ky = x0.h.ky := by rw [e0]; exact (ky_iff _ _).2 (by rw [hr, hrt])
                            have n1 : (S.map (fun x => x.h.ky))[q]? = some y.h.ky := by rw [List.getElem?_map, hy]; rfl
                            have n2 : (S.map (fun x => x.h.ky))[j0]? = some y.h.ky := by rw [List.getElem?_map, hx0, k1]; rfl
                            exact (List.getElem?_inj (List.getElem?_eq_some_iff.1 n1).1 HND.out).1 (n1.trans n2.symm)
                          rw [← hq2] at hk0
                          unfold kp at hk0
                          simpa using hk0
                        have hbls := HBs.out wi tw
                        have TQ : Hid (Touch (fun _ => False) w5 wi) := tq
                        clear tw hy oky ycell hrow hpl hmem hp hj0 hx0 hk0 e0 ok0 hr tq
                        have HBL : Hid (BlsAt wi (.slice ba B bc) cf) := hbls
                        clear hbls
                        go_upto_region 37 with fail
                        refine wp_region_held_drew (S := fun w' => SnL wi w') (by kernel_rfl) (SnL.start wi) (fun hHeld => ?_)
                        refine wpAnyH_take (i := 0) (oi := ⟨some 151, _, _, _, _, _⟩) (v := .slice (some ⟨gS, oS, none⟩) j sc) rfl (by kernel_rfl) (by kernel_rfl) (by kernel_rfl) (fun _ _ _ h => h) (Or.inl ⟨by rfl, fun w hw => by go_simp⟩) (by assumption) ?_
                        simp only [Act.put, List.setIfInBounds_toArray, List.set_cons_zero, List.set_cons_succ]
                        refine wpAnyH_take (i := 1) (oi := ⟨some 152, _, _, _, _, _⟩) (v := .int .i64 (q : Int)) rfl (by kernel_rfl) (by kernel_rfl) (by kernel_rfl) (fun _ _ _ h => h) (Or.inl ⟨by rfl, fun w hw => by go_simp⟩) (by assumption) ?_
                        simp only [Act.put, List.setIfInBounds_toArray, List.set_cons_zero, List.set_cons_succ]
                        refine wpAnyH_take (i := 2) (oi := ⟨some 153, _, _, _, _, _⟩) (v := .pointer (some ⟨gS, oS + q * 9, none⟩)) rfl (by kernel_rfl) (by kernel_rfl) (by kernel_rfl) (fun _ _ _ h => h) (Or.inl ⟨by rfl, fun w hw => by go_simp <;> first | omega | (intro hh; omega)⟩) (by assumption) ?_
                        simp only [Act.put, List.setIfInBounds_toArray, List.set_cons_zero, List.set_cons_succ]
                        refine wpAnyH_take (i := 3) (oi := ⟨some 154, _, _, _, _, _⟩) (v := .pointer (some ⟨gS, oS + q * 9, none⟩)) rfl (by kernel_rfl) (by kernel_rfl) (by kernel_rfl) (fun _ _ _ h => h) (Or.inl ⟨by rfl, fun w hw => by go_simp⟩) (by assumption) ?_
                        simp only [Act.put, List.setIfInBounds_toArray, List.set_cons_zero, List.set_cons_succ]
                        refine wpAnyH_take (i := 4) (oi := ⟨some 155, _, _, _, _, _⟩) (v := .agg #[.int .u16 y.h.age, .int .u8 y.h.opts, .int .u8 y.h.typ, .int .u32 y.h.id, .int .u32 y.h.adv, .int .i32 y.h.seq, .int .u16 y.h.sum, .int .u16 y.h.len]) rfl (by kernel_rfl) (by kernel_rfl) (by kernel_rfl) (fun _ _ _ h => h) (yieldsIf_load_mid (by rfl) _ _ rfl _ _ rfl [.int .u16 y.h.age, .int .u8 y.h.opts, .int .u8 y.h.typ, .int .u32 y.h.id, .int .u32 y.h.adv, .int .i32 y.h.seq, .int .u16 y.h.sum, .int .u16 y.h.len] _ (fun w h => ry w h) Try.underlying25 rfl (by kernel_rfl)) (by assumption) ?_
                        simp only [Act.put, List.setIfInBounds_toArray, List.set_cons_zero, List.set_cons_succ]
                        refine wpAnyH_take (i := 6) (oi := ⟨some 157, _, _, _, _, _⟩) (v := .slice (some ⟨gR, 0, none⟩) n vc) rfl (by kernel_rfl) (by kernel_rfl) (by kernel_rfl) (fun _ _ _ h => h) (Or.inl ⟨by rfl, fun w hw => by go_simp⟩) (by assumption) ?_
                        simp only [Act.put, List.setIfInBounds_toArray, List.set_cons_zero, List.set_cons_succ]
                        refine wpAnyH_take (i := 7) (oi := ⟨some 158, _, _, _, _, _⟩) (v := .int .i64 (a : Int)) rfl (by kernel_rfl) (by kernel_rfl) (by kernel_rfl) (fun _ _ _ h => h) (Or.inl ⟨by rfl, fun w hw => by go_simp⟩) (by assumption) ?_
                        simp only [Act.put, List.setIfInBounds_toArray, List.set_cons_zero, List.set_cons_succ]
                        refine wpAnyH_take (i := 8) (oi := ⟨some 159, _, _, _, _, _⟩) (v := .pointer (some ⟨gR, a * 9, none⟩)) rfl (by kernel_rfl) (by kernel_rfl) (by kernel_rfl) (fun _ _ _ h => h) (Or.inl ⟨by rfl, fun w hw => by go_simp <;> first | omega | (intro hh; omega)⟩) (by assumption) ?_
                        simp only [Act.put, List.setIfInBounds_toArray, List.set_cons_zero, List.set_cons_succ]
                        refine wpAnyH_take (i := 9) (oi := ⟨some 160, _, _, _, _, _⟩) (v := .pointer (some ⟨gR, a * 9, none⟩)) rfl (by kernel_rfl) (by kernel_rfl) (by kernel_rfl) (fun _ _ _ h => h) (Or.inl ⟨by rfl, fun w hw => by go_simp⟩) (by assumption) ?_
                        simp only [Act.put, List.setIfInBounds_toArray, List.set_cons_zero, List.set_cons_succ]
                        refine wpAnyH_take (i := 10) (oi := ⟨some 161, _, _, _, _, _⟩) (v := .agg #[.int .u16 ph.age, .int .u8 ph.opts, .int .u8 ph.typ, .int .u32 ph.id, .int .u32 ph.adv, .int .i32 ph.seq, .int .u16 ph.sum, .int .u16 ph.len]) rfl (by kernel_rfl) (by kernel_rfl) (by kernel_rfl) (fun _ _ _ h => h) (yieldsIf_load_mid (by rfl) _ _ rfl _ _ rfl [.int .u16 ph.age, .int .u8 ph.opts, .int .u8 ph.typ, .int .u32 ph.id, .int .u32 ph.adv, .int .i32 ph.seq, .int .u16 ph.sum, .int .u16 ph.len] _ (fun w h => rp w h) Try.underlying25 rfl (by kernel_rfl)) (by assumption) ?_
                        simp only [Act.put, List.setIfInBounds_toArray, List.set_cons_zero, List.set_cons_succ]
                        refine wpAnyH_ready (rs := [5]) (by kernel_rfl) (by simp) ?_
                        refine AllReadyH.cons (o := ⟨some 156, _, _, _, _, _⟩) rfl (fun K hK => ?_) AllReadyH.nil
                        go_simp
                        refine Calls.mono (rkey_any _ y.h) ?_
                        rintro e y1 ⟨rfl, u1⟩
                        have s1 : SnL wi y1 := SnL.trans (SnL.start wi) u1
                        refine hK.out _ _ s1 (fun hHeld => ?_)
                        clear hK K u1
                        refine wpAnyH_ready (rs := [11]) (by kernel_rfl) (by simp) ?_
                        refine AllReadyH.cons (o := ⟨some 162, _, _, _, _, _⟩) rfl (fun K hK => ?_) AllReadyH.nil
                        go_simp
                        refine Calls.mono (rkey_any _ ph) ?_
                        rintro e y2 ⟨rfl, u2⟩
                        have s2 : SnL wi y2 := SnL.trans s1 u2
                        refine hK.out _ _ s2 (fun hHeld => ?_)
                        clear hK K u2
                        refine wpAnyH_take (i := 12) (oi := ⟨some 163, _, _, _, _, _⟩) (v := .bool r) rfl (by kernel_rfl) (by kernel_rfl) (by kernel_rfl) (fun _ _ _ h => h) (Or.inl ⟨by rfl, fun w hw => by go_simp⟩) (by assumption) ?_
                        simp only [Act.put, List.setIfInBounds_toArray, List.set_cons_zero, List.set_cons_succ]
                        refine wpAnyH_take (i := 13) (oi := ⟨some 164, _, _, _, _, _⟩) (v := .bool r) rfl (by kernel_rfl) (by kernel_rfl) (by kernel_rfl) (fun _ _ _ h => h) (Or.inl ⟨by rfl, fun w hw => by go_simp⟩) (by assumption) ?_
                        simp only [Act.put, List.setIfInBounds_toArray, List.set_cons_zero, List.set_cons_succ]
                        clear heq ry rp
                        cases r with
                        | false =>
                          refine wpAnyH_take (i := 14) (oi := ⟨some 165, _, _, _, _, _⟩) (v := undef) rfl (by kernel_rfl) (by kernel_rfl) (by kernel_rfl) (fun _ _ _ h => h) (Or.inr ⟨by rfl, rfl⟩) (by assumption) ?_
                          simp only [Act.put, List.setIfInBounds_toArray, List.set_cons_zero, List.set_cons_succ]
                          refine wpAnyH_take (i := 15) (oi := ⟨some 166, _, _, _, _, _⟩) (v := undef) rfl (by kernel_rfl) (by kernel_rfl) (by kernel_rfl) (fun _ _ _ h => h) (Or.inr ⟨by rfl, rfl⟩) (by assumption) ?_
                          simp only [Act.put, List.setIfInBounds_toArray, List.set_cons_zero, List.set_cons_succ]
                          refine wpAnyH_take (i := 16) (oi := ⟨some 167, _, _, _, _, _⟩) (v := undef) rfl (by kernel_rfl) (by kernel_rfl) (by kernel_rfl) (fun _ _ _ h => h) (Or.inr ⟨by rfl, rfl⟩) (by assumption) ?_
                          simp only [Act.put, List.setIfInBounds_toArray, List.set_cons_zero, List.set_cons_succ]
                          refine wpAnyH_take (i := 17) (oi := ⟨some 168, _, _, _, _, _⟩) (v := undef) rfl (by kernel_rfl) (by kernel_rfl) (by kernel_rfl) (fun _ _ _ h => h) (Or.inr ⟨by rfl, rfl⟩) (by assumption) ?_
                          simp only [Act.put, List.setIfInBounds_toArray, List.set_cons_zero, List.set_cons_succ]
                          refine wpAnyH_take (i := 18) (oi := ⟨some 169, _, _, _, _, _⟩) (v := .bool false) rfl (by kernel_rfl) (by kernel_rfl) (by kernel_rfl) (fun _ _ _ h => h) (Or.inl ⟨by rfl, fun w hw => by go_simp⟩) (by assumption) ?_
                          simp only [Act.put, List.setIfInBounds_toArray, List.set_cons_zero, List.set_cons_succ]
                          refine wpAnyH_take (i := 19) (oi := ⟨some 170, _, _, _, _, _⟩) (v := .bool false) rfl (by kernel_rfl) (by kernel_rfl) (by kernel_rfl) (fun _ _ _ h => h) (Or.inl ⟨by rfl, fun w hw => by go_simp⟩) (by assumption) ?_
                          simp only [Act.put, List.setIfInBounds_toArray, List.set_cons_zero, List.set_cons_succ]
                          refine wpAnyH_take (i := 20) (oi := ⟨some 171, _, _, _, _, _⟩) (v := undef) rfl (by kernel_rfl) (by kernel_rfl) (by kernel_rfl) (fun _ _ _ h => h) (Or.inr ⟨by rfl, rfl⟩) (by assumption) ?_
                          simp only [Act.put, List.setIfInBounds_toArray, List.set_cons_zero, List.set_cons_succ]
                          refine wpAnyH_take (i := 21) (oi := ⟨some 172, _, _, _, _, _⟩) (v := undef) rfl (by kernel_rfl) (by kernel_rfl) (by kernel_rfl) (fun _ _ _ h => h) (Or.inr ⟨by rfl, rfl⟩) (by assumption) ?_
                          simp only [Act.put, List.setIfInBounds_toArray, List.set_cons_zero, List.set_cons_succ]
                          refine wpAnyH_take (i := 22) (oi := ⟨some 173, _, _, _, _, _⟩) (v := undef) rfl (by kernel_rfl) (by kernel_rfl) (by kernel_rfl) (fun _ _ _ h => h) (Or.inr ⟨by rfl, rfl⟩) (by assumption) ?_
                          simp only [Act.put, List.setIfInBounds_toArray, List.set_cons_zero, List.set_cons_succ]
                          refine wpAnyH_take (i := 23) (oi := ⟨some 174, _, _, _, _, _⟩) (v := undef) rfl (by kernel_rfl) (by kernel_rfl) (by kernel_rfl) (fun _ _ _ h => h) (Or.inr ⟨by rfl, rfl⟩) (by assumption) ?_
                          simp only [Act.put, List.setIfInBounds_toArray, List.set_cons_zero, List.set_cons_succ]
                          refine wpAnyH_take (i := 24) (oi := ⟨some 175, _, _, _, _, _⟩) (v := .bool false) rfl (by kernel_rfl) (by kernel_rfl) (by kernel_rfl) (fun _ _ _ h => h) (Or.inl ⟨by rfl, fun w hw => by go_simp⟩) (by assumption) ?_
                          simp only [Act.put, List.setIfInBounds_toArray, List.set_cons_zero, List.set_cons_succ]
                          refine wpAnyH_done (by kernel_rfl) ?_ _
                          have TS : Hid (Touch (fun _ => False) w5 y2) := TQ.out.trans s2.t
                          clear hHeld s1 s2 TQ hn0 hnb hzb hz hr0 hr1 HS HBs HND ROW P6 HLF hlfb hw3 htl ht1 ht2 han' ha0 TA hqj' hq0 htw HNN hn12 HKP HBL
                          go_wp2_with fail
                          go_roundw
                          case rel => exact ⟨q + 1, by omega, by go_num, TS.out⟩
                          case measure => simp [intOf]; omega
                        | true =>
                          have hkv : Hid (cf[q]?.getD false = false) := HKP.out rfl
                          by_cases hqB : q < B
                          · have hqB' : (q : Int) < (B : Int) := Int.ofNat_lt.2 hqB
                            have hbb : cf[q]? = some false := by
                              have hl : q < cf.length := by rw [HNN.out.2.2.2]; exact hqB
                              have hk2 := hkv.out
                              rw [List.getElem?_eq_getElem hl] at hk2 ⊢
                              simpa using hk2
                            obtain ⟨gB, oB, eB, cB⟩ := HBL.out.one hbb
                            subst eB
                            have zb : ∀ w', SnL wi w' → w'.cell? ⟨gB, oB + q, none⟩ = some (.bool false) := fun w' s => s.t.cellN cB
                            clear hkv hbb cB
                            refine wpAnyH_take (i := 14) (oi := ⟨some 165, _, _, _, _, _⟩) (v := .int .i64 (q : Int)) rfl (by kernel_rfl) (by kernel_rfl) (by kernel_rfl) (fun _ _ _ h => h) (Or.inl ⟨by rfl, fun w hw => by go_simp⟩) (by assumption) ?_
                            simp only [Act.put, List.setIfInBounds_toArray, List.set_cons_zero, List.set_cons_succ]
                            refine wpAnyH_take (i := 15) (oi := ⟨some 166, _, _, _, _, _⟩) (v := .slice (some ⟨gB, oB, none⟩) B bc) rfl (by kernel_rfl) (by kernel_rfl) (by kernel_rfl) (fun _ _ _ h => h) (Or.inl ⟨by rfl, fun w hw => by go_simp⟩) (by assumption) ?_
                            simp only [Act.put, List.setIfInBounds_toArray, List.set_cons_zero, List.set_cons_succ]
                            refine wpAnyH_take (i := 16) (oi := ⟨some 167, _, _, _, _, _⟩) (v := .int .i64 (B : Int)) rfl (by kernel_rfl) (by kernel_rfl) (by kernel_rfl) (fun _ _ _ h => h) (Or.inl ⟨by rfl, fun w hw => by go_simp⟩) (by assumption) ?_
                            simp only [Act.put, List.setIfInBounds_toArray, List.set_cons_zero, List.set_cons_succ]
                            refine wpAnyH_take (i := 17) (oi := ⟨some 168, _, _, _, _, _⟩) (v := .bool true) rfl (by kernel_rfl) (by kernel_rfl) (by kernel_rfl) (fun _ _ _ h => h) (Or.inl ⟨by rfl, fun w hw => by go_simp⟩) (by assumption) ?_
                            simp only [Act.put, List.setIfInBounds_toArray, List.set_cons_zero, List.set_cons_succ]
                            refine wpAnyH_take (i := 18) (oi := ⟨some 169, _, _, _, _, _⟩) (v := .bool true) rfl (by kernel_rfl) (by kernel_rfl) (by kernel_rfl) (fun _ _ _ h => h) (Or.inl ⟨by rfl, fun w hw => by go_simp⟩) (by assumption) ?_
                            simp only [Act.put, List.setIfInBounds_toArray, List.set_cons_zero, List.set_cons_succ]
                            refine wpAnyH_take (i := 19) (oi := ⟨some 170, _, _, _, _, _⟩) (v := .bool true) rfl (by kernel_rfl) (by kernel_rfl) (by kernel_rfl) (fun _ _ _ h => h) (Or.inl ⟨by rfl, fun w hw => by go_simp⟩) (by assumption) ?_
                            simp only [Act.put, List.setIfInBounds_toArray, List.set_cons_zero, List.set_cons_succ]
                            refine wpAnyH_take (i := 20) (oi := ⟨some 171, _, _, _, _, _⟩) (v := .slice (some ⟨gB, oB, none⟩) B bc) rfl (by kernel_rfl) (by kernel_rfl) (by kernel_rfl) (fun _ _ _ h => h) (Or.inl ⟨by rfl, fun w hw => by go_simp⟩) (by assumption) ?_
                            simp only [Act.put, List.setIfInBounds_toArray, List.set_cons_zero, List.set_cons_succ]
                            refine wpAnyH_take (i := 21) (oi := ⟨some 172, _, _, _, _, _⟩) (v := .int .i64 (q : Int)) rfl (by kernel_rfl) (by kernel_rfl) (by kernel_rfl) (fun _ _ _ h => h) (Or.inl ⟨by rfl, fun w hw => by go_simp⟩) (by assumption) ?_
                            simp only [Act.put, List.setIfInBounds_toArray, List.set_cons_zero, List.set_cons_succ]
                            refine wpAnyH_take (i := 22) (oi := ⟨some 173, _, _, _, _, _⟩) (v := .pointer (some ⟨gB, oB + q, none⟩)) rfl (by kernel_rfl) (by kernel_rfl) (by kernel_rfl) (fun _ _ _ h => h) (Or.inl ⟨by rfl, fun w hw => by go_simp <;> first | omega | (intro hh; omega)⟩) (by assumption) ?_
                            simp only [Act.put, List.setIfInBounds_toArray, List.set_cons_zero, List.set_cons_succ]
                            refine wpAnyH_take (i := 23) (oi := ⟨some 174, _, _, _, _, _⟩) (v := .bool false) rfl (by kernel_rfl) (by kernel_rfl) (by kernel_rfl) (fun _ _ _ h => h) (Or.inl ⟨by rfl, fun w hw => by have a0 := zb w hw; go_simp⟩) (by assumption) ?_
                            simp only [Act.put, List.setIfInBounds_toArray, List.set_cons_zero, List.set_cons_succ]
                            refine wpAnyH_take (i := 24) (oi := ⟨some 175, _, _, _, _, _⟩) (v := .bool false) rfl (by kernel_rfl) (by kernel_rfl) (by kernel_rfl) (fun _ _ _ h => h) (Or.inl ⟨by rfl, fun w hw => by go_simp⟩) (by assumption) ?_
                            simp only [Act.put, List.setIfInBounds_toArray, List.set_cons_zero, List.set_cons_succ]
                            refine wpAnyH_done (by kernel_rfl) ?_ _
                            have TS : Hid (Touch (fun _ => False) w5 y2) := TQ.out.trans s2.t
                            clear hHeld s1 s2 TQ hn0 hnb hzb hz hr0 hr1 HS HBs HND ROW P6 HLF hlfb hw3 htl ht1 ht2 han' ha0 TA hqj' hq0 htw HNN hn12 HKP HBL zb hqB hqB'
                            go_wp2_with fail
                            go_roundw
                            case rel => exact ⟨q + 1, by omega, by go_num, TS.out⟩
                            case measure => simp [intOf]; omega
                          · have hqB' : ¬ ((q : Int) < (B : Int)) := fun hh => hqB (Int.ofNat_lt.1 hh)
                            clear hkv
                            refine wpAnyH_take (i := 14) (oi := ⟨some 165, _, _, _, _, _⟩) (v := .int .i64 (q : Int)) rfl (by kernel_rfl) (by kernel_rfl) (by kernel_rfl) (fun _ _ _ h => h) (Or.inl ⟨by rfl, fun w hw => by go_simp⟩) (by assumption) ?_
                            simp only [Act.put, List.setIfInBounds_toArray, List.set_cons_zero, List.set_cons_succ]
                            refine wpAnyH_take (i := 15) (oi := ⟨some 166, _, _, _, _, _⟩) (v := .slice ba B bc) rfl (by kernel_rfl) (by kernel_rfl) (by kernel_rfl) (fun _ _ _ h => h) (Or.inl ⟨by rfl, fun w hw => by go_simp⟩) (by assumption) ?_
                            simp only [Act.put, List.setIfInBounds_toArray, List.set_cons_zero, List.set_cons_succ]
                            refine wpAnyH_take (i := 16) (oi := ⟨some 167, _, _, _, _, _⟩) (v := .int .i64 (B : Int)) rfl (by kernel_rfl) (by kernel_rfl) (by kernel_rfl) (fun _ _ _ h => h) (Or.inl ⟨by rfl, fun w hw => by go_simp⟩) (by assumption) ?_
                            simp only [Act.put, List.setIfInBounds_toArray, List.set_cons_zero, List.set_cons_succ]
                            refine wpAnyH_take (i := 17) (oi := ⟨some 168, _, _, _, _, _⟩) (v := .bool false) rfl (by kernel_rfl) (by kernel_rfl) (by kernel_rfl) (fun _ _ _ h => h) (Or.inl ⟨by rfl, fun w hw => by go_simp⟩) (by assumption) ?_
                            simp only [Act.put, List.setIfInBounds_toArray, List.set_cons_zero, List.set_cons_succ]
                            refine wpAnyH_take (i := 18) (oi := ⟨some 169, _, _, _, _, _⟩) (v := .bool false) rfl (by kernel_rfl) (by kernel_rfl) (by kernel_rfl) (fun _ _ _ h => h) (Or.inl ⟨by rfl, fun w hw => by go_simp⟩) (by assumption) ?_
                            simp only [Act.put, List.setIfInBounds_toArray, List.set_cons_zero, List.set_cons_succ]
                            refine wpAnyH_take (i := 19) (oi := ⟨some 170, _, _, _, _, _⟩) (v := .bool false) rfl (by kernel_rfl) (by kernel_rfl) (by kernel_rfl) (fun _ _ _ h => h) (Or.inl ⟨by rfl, fun w hw => by go_simp⟩) (by assumption) ?_
                            simp only [Act.put, List.setIfInBounds_toArray, List.set_cons_zero, List.set_cons_succ]
                            refine wpAnyH_take (i := 20) (oi := ⟨some 171, _, _, _, _, _⟩) (v := undef) rfl (by kernel_rfl) (by kernel_rfl) (by kernel_rfl) (fun _ _ _ h => h) (Or.inr ⟨by rfl, rfl⟩) (by assumption) ?_
                            simp only [Act.put, List.setIfInBounds_toArray, List.set_cons_zero, List.set_cons_succ]
                            refine wpAnyH_take (i := 21) (oi := ⟨some 172, _, _, _, _, _⟩) (v := undef) rfl (by kernel_rfl) (by kernel_rfl) (by kernel_rfl) (fun _ _ _ h => h) (Or.inr ⟨by rfl, rfl⟩) (by assumption) ?_
                            simp only [Act.put, List.setIfInBounds_toArray, List.set_cons_zero, List.set_cons_succ]
                            refine wpAnyH_take (i := 22) (oi := ⟨some 173, _, _, _, _, _⟩) (v := undef) rfl (by kernel_rfl) (by kernel_rfl) (by kernel_rfl) (fun _ _ _ h => h) (Or.inr ⟨by rfl, rfl⟩) (by assumption) ?_
                            simp only [Act.put, List.setIfInBounds_toArray, List.set_cons_zero, List.set_cons_succ]
                            refine wpAnyH_take (i := 23) (oi := ⟨some 174, _, _, _, _, _⟩) (v := undef) rfl (by kernel_rfl) (by kernel_rfl) (by kernel_rfl) (fun _ _ _ h => h) (Or.inr ⟨by rfl, rfl⟩) (by assumption) ?_
                            simp only [Act.put, List.setIfInBounds_toArray, List.set_cons_zero, List.set_cons_succ]
                            refine wpAnyH_take (i := 24) (oi := ⟨some 175, _, _, _, _, _⟩) (v := .bool false) rfl (by kernel_rfl) (by kernel_rfl) (by kernel_rfl) (fun _ _ _ h => h) (Or.inl ⟨by rfl, fun w hw => by go_simp⟩) (by assumption) ?_
                            simp only [Act.put, List.setIfInBounds_toArray, List.set_cons_zero, List.set_cons_succ]
                            refine wpAnyH_done (by kernel_rfl) ?_ _
                            have TS : Hid (Touch (fun _ => False) w5 y2) := TQ.out.trans s2.t
                            clear hHeld s1 s2 TQ hn0 hnb hzb hz hr0 hr1 HS HBs HND ROW P6 HLF hlfb hw3 htl ht1 ht2 han' ha0 TA hqj' hq0 htw HNN hn12 HKP HBL hqB hqB'
                            go_wp2_with fail
                            go_roundw
                            case rel => exact ⟨q + 1, by omega, by go_num, TS.out⟩
                            case measure => simp [intOf]; omega
                      · have hqj' : ¬ ((q : Int) < (j : Int)) := by omega
                        have TQ : Hid (Touch (fun _ => False) w5 wi) := tq
                        clear tq
                        go_wp2_with fail
                        go_roundw
                        case rel => exact ⟨a + 1, by omega, by go_num, TQ.out⟩
                        case measure => simp [intOf]; omega
                  · have han' : ¬ ((a : Int) < (n : Int)) := by omega
                    have P7 : Hid (LA3 w S cf L m e rx j (t + 1) wa) := P6.out.keep ta
                    clear ta
                    go_wp2_with fail
                    go_roundw
                    case rel => exact ⟨t + 1, by omega, by omega, by go_num, P7.out⟩
                    case measure => simp [intOf]; omega
              · obtain ⟨hn0', -, -⟩ := NN.out
                have hn00 := hn0' hmod
                subst hn00
                clear NN hn0'
                go_wp2_with fail
                go_loopw [15] (fun i wr => i = .int .i64 0 ∧ wr = w5) (fun _ _ => 0)
                case atStart => exact ⟨rfl, rfl⟩
                case round =>
                  obtain ⟨rfl, rfl⟩ := hrel
                  go_wp2_with fail
                  go_roundw
                  case rel => exact ⟨t + 1, by omega, by omega, by go_num, P6.out⟩
                  case measure => simp [intOf]; omega
            · have T0 := hl3.t
              clear hl3
              go_wp2_with fail
              refine Calls.mono (works15 _) ?_
              rintro e' wz ⟨rfl, tz⟩
              have TZ := T0.trans tz
              clear tz
              go_wp2_with fail
              go_ret
              exact ⟨rfl, TZ⟩
theorem again_v (rx : Int) (v1 v2 : Value) (S : List SB) (cf : List Bool) (w : World) (hr0 : 0 ≤ rx) (hr1 : rx < 65536) (h1 : SbsAt w v1 S) (h2 : BlsAt w v2 cf) : Calls Try.prog 6 #[.int .u16 rx, v1, v2] w fun e w' => e = .returned (.bool true) ∧ Touch (fun _ => False) w w' := by
  obtain ⟨a, c, rfl⟩ := h1.form
  obtain ⟨b, d, rfl⟩ := h2.form
  exact again_any rx a b c d S cf w hr0 hr1 h1 h2
end Go.Proofs.Ytedolfggbgmklaa
