/- Package graph: all that count. -/
import Derived.Test.YtjffcflhbnmjmaaGreatGrCnt2
import Derived.Test.YtjffcflhbnmjmaaGreatStRow0
namespace Go.Proofs.YtjffcflhbnmjmaaGreat
open Go.RowKit
set_option linter.unusedVariables false
set_option maxRecDepth 100000

theorem all5 (B : List SE) (h : HV) (rs : List Int) : [q1 h, q2 h, q3 h, q4 B h, chkE h rs == 0].all id = (cntB h rs && q4 B h) := by
  have hy : yrs h.age = 3600 ↔ ¬ h.age % 32768 < 3600 := by unfold yrs; split <;> omega
  rw [Bool.eq_iff_iff]
  simp only [List.all_cons, List.all_nil, id, Bool.and_true, Bool.and_eq_true, beq_iff_eq, q1, q2, q3, cntB, decide_eq_true_eq, Bool.not_eq_true', decide_eq_false_iff_not, hy, Classical.not_not]
  constructor
  · rintro ⟨a, b, c, d, e⟩; exact ⟨⟨a, b, c, e⟩, d⟩
  · rintro ⟨⟨a, b, c, e⟩, d⟩; exact ⟨a, b, c, d, e⟩
theorem putS_no {B : List SE} {x : SE} (h : (cntB x.h x.rs && q4 B x.h) = false) : putS B x = B := by
  unfold putS
  by_cases hc : cntB x.h x.rs = true
  · rw [if_pos hc]
    rw [hc, Bool.true_and] at h
    unfold q4 at h
    split at h
    · rename_i j hj
      rw [hj]
      dsimp only
      rw [if_neg (by rw [h]; simp)]
    · cases h
  · rw [if_neg hc]
theorem putS_new {B : List SE} {x : SE} (h : (cntB x.h x.rs && q4 B x.h) = true) (hp : plAt B x.h.pl = none) : putS B x = B ++ [x] := by
  unfold putS
  rw [Bool.and_eq_true] at h
  rw [if_pos h.1, hp]
theorem putS_old {B : List SE} {x : SE} {j : Nat} (h : (cntB x.h x.rs && q4 B x.h) = true) (hp : plAt B x.h.pl = some j) : putS B x = B.set j x := by
  unfold putS
  rw [Bool.and_eq_true] at h
  have h4 := h.2
  unfold q4 at h4
  rw [hp] at h4
  dsimp only at h4
  rw [if_pos h.1, hp]
  dsimp only
  rw [if_pos h4]
/-- One more state in the map. -/
theorem best_put {w : World} {m : Nat} {B : List SE} {x : SE} (hm : AM w 71 m (bestL B)) (ok : x.h.All) (h : (cntB x.h x.rs && q4 B x.h) = true) :
    ∃ w', (Instr.mapUpdate 113 (.map (some m)) (plV x.h.pl) (x.h.sv x.v)).run Tryz.prog w = .ok () w' ∧ AM w' 71 m (bestL (putS B x)) ∧ Touch (fun k => k = m) w w' := by
  cases hp : plAt B x.h.pl with
  | none =>
    rw [putS_new h hp]
    obtain ⟨q, hq⟩ := key_pl x.h.pl ok.i.1 ok.i.2
    obtain ⟨w', h1, h2, h3⟩ := AM.putNew kindB hm (x.h.sv x.v) hq (fun e he => by
      obtain ⟨y, hy, rfl⟩ := List.mem_map.1 he
      exact fun e => plAt_none hp y hy (plV_inj e))
    exact ⟨w', h1, by unfold bestL; rw [List.map_append]; exact h2, h3⟩
  | some j =>
    rw [putS_old h hp]
    obtain ⟨y, hy, hpl, hj⟩ := plAt_some hp
    have hg : (bestL B)[j]? = some (plV x.h.pl, y.h.sv y.v) := by unfold bestL; rw [List.getElem?_map, hy, ← hpl]; rfl
    obtain ⟨w', h1, h2, h3⟩ := AM.putOld kindB hm (x.h.sv x.v) hg
    exact ⟨w', h1, by unfold bestL; rw [List.map_set]; exact h2, h3⟩
def fvsL (b0 : Nat) : List Value := [.func (.func 46) #[] #[], .func (.func 47) #[] #[], .func (.func 49) #[] #[], .func (.func 51) #[] #[.pointer (some ⟨b0, 0, none⟩)], .func (.func 52) #[] #[]]
/-- What the loop holds. -/
structure CR (w wr : World) (l : List SE) (k m0 b0 f0 : Nat) : Prop where
  t : Touch (fun _ => False) w wr
  m : AM wr 71 m0 (bestL (bests (l.take k)))
  b : wr.cell? ⟨b0, 0, none⟩ = some (.map (some m0))
  f : Row wr f0 106 (fvsL b0)
/-- What stays while the map grows. -/
structure KpS (w : World) (bs b0 m0 : Nat) (xs : List Value) : Prop where
  row : Row w bs 52 xs
  box : w.cell? ⟨b0, 0, none⟩ = some (.map (some m0))
theorem KpS.touch {F : Nat → Prop} {w w' : World} {bs b0 m0 : Nat} {xs : List Value} (h : KpS w bs b0 m0 xs) (t : Touch F w w') (h1 : ¬ F bs) (h2 : ¬ F b0) : KpS w' bs b0 m0 xs := ⟨gr_touch h.row t h1, (t.cell (lt_of_cell h.box) h2).trans h.box⟩
/-- All five questions of one state. -/
theorem ask5 (w : World) (bs b0 f0 m0 cf : Nat) (x : SE) (B : List SE) (xa : Option Addr) (xc : Nat) (hv : x.v = .slice xa x.rs.length xc) (ok : x.Ok w) (hn : x.rs.length ≤ 1000000) (hB : ∀ y ∈ B, ∃ ya yn yc, y.v = .slice ya yn yc)
    (R : Row w bs 52 [.int .u16 x.h.age, .int .u8 x.h.opts, .int .u8 x.h.typ, .int .u32 x.h.id, .int .u32 x.h.adv, .int .i32 x.h.seq, .int .u16 x.h.sum, .int .u16 x.h.len, .slice xa x.rs.length xc]) (hb : w.cell? ⟨b0, 0, none⟩ = some (.map (some m0))) (hm : AM w 71 m0 (bestL B)) (hf : Row w f0 106 (fvsL b0)) :
    Calls Tryz.prog 55 #[.slice (some ⟨f0, 0, none⟩) 5 cf, .func (.func 54) #[] #[.pointer (some ⟨bs, 0, none⟩)]] w fun e w' => e = .returned (.bool (!(cntB x.h x.rs && q4 B x.h))) ∧ Touch (fun _ => False) w w' := by
  have h1 : FB w bs (.func (.func 46) #[] #[]) (q1 x.h) := fails_1 x.h xa x.rs.length xc w bs 0 _ R (fun w' s => cnt1_any _ _ _ _ _)
  have h2 : FB w bs (.func (.func 47) #[] #[]) (q2 x.h) := fails_2 x.h xa x.rs.length xc w bs 0 _ R (fun w' s => cnt2_any _ ok.all _ _ _ _)
  have h3 : FB w bs (.func (.func 49) #[] #[]) (q3 x.h) := fails_3 x.h xa x.rs.length xc w bs 0 _ R (fun w' s => cnt3_any _ _ _ _ _)
  have h4 : FB w bs (.func (.func 51) #[] #[.pointer (some ⟨b0, 0, none⟩)]) (q4 B x.h) := fails_4 x.h xa x.rs.length xc w bs b0 _ R (fun w' s => cnt4_any _ ok.all _ _ _ _ b0 m0 B hB (s.t.cellN hb) (hm.keepN s.t))
  have h5 : FB w bs (.func (.func 52) #[] #[]) (chkE x.h x.rs == 0) := fails_5 x.h xa x.rs.length xc w bs 0 _ R (fun w' s => by rw [← hv]; exact cnt5_any _ ok.all _ _ _ (ok.arg.keepN s.t) ok.byte hn)
  have hc := fcont_any f0 cf bs (fvsL b0) [q1 x.h, q2 x.h, q3 x.h, q4 B x.h, chkE x.h x.rs == 0] w rfl (by simp) hf (fun j fv b hj hb' => by
    match j, hj, hb' with
    | 0, hj, hb' => simp [fvsL] at hj hb'; subst hj; subst hb'; exact h1
    | 1, hj, hb' => simp [fvsL] at hj hb'; subst hj; subst hb'; exact h2
    | 2, hj, hb' => simp [fvsL] at hj hb'; subst hj; subst hb'; exact h3
    | 3, hj, hb' => simp [fvsL] at hj hb'; subst hj; subst hb'; exact h4
    | 4, hj, hb' => simp [fvsL] at hj hb'; subst hj; rw [← hb']; exact h5
    | j + 5, hj, hb' => simp [fvsL] at hj)
  rw [all5] at hc
  exact hc
theorem best_form {w : World} {l : List SE} {k : Nat} (h : ∀ x ∈ l, x.Ok w) : ∀ y ∈ bests (l.take k), ∃ ya yn yc, y.v = .slice ya yn yc := by
  intro y hy
  have := ((bests_all (l.take k)).all y hy).1
  obtain ⟨a, c, e, -⟩ := (h y (List.mem_of_mem_take this)).arg.form
  exact ⟨a, _, c, e⟩
theorem bests_step {l : List SE} {k : Nat} {x : SE} (hx : l[k]? = some x) : bests (l.take (k + 1)) = putS (bests (l.take k)) x := by
  rw [List.take_add_one, hx]
  exact bests_snoc _ _
set_option maxHeartbeats 4000000 in
theorem counting_by (v : Value) (l : List SE) (w : World) (hv : StatesAt w v l) (hl : l.length ≤ 1000000) (hb : ∀ x ∈ l, x.rs.length ≤ 1000000) (Q : Value → World → Prop)
    (HI : ∀ w' m, Touch (fun _ => False) w w' → AM w' 71 m (bestL (bests l)) → Calls Tryz.prog 56 #[.map (some m)] w' fun e w'' => ∃ u, e = .returned u ∧ Q u w'') :
    Calls Tryz.prog 25 #[v] w fun e w' => ∃ u, e = .returned u ∧ Q u w' := by
  obtain ⟨aa, ca, rfl, hm⟩ := ValsAt.form hv.vals
  have HA : Hid (StatesAt w (.slice aa l.length ca) l) := hv
  have HBd : Hid (∀ x ∈ l, x.rs.length ≤ 1000000) := hb
  have HIo : Hid (∀ w' m, Touch (fun _ => False) w w' → AM w' 71 m (bestL (bests l)) → Calls Tryz.prog 56 #[.map (some m)] w' fun e w'' => ∃ u, e = .returned u ∧ Q u w'') := HI
  clear hv hm hb HI
  have hmm := @run_makeMap Tryz.prog
  have hS0 : Hid (CR w (((w.alloc (.map #[] 0)).alloc (.cells #[.map (some w.heap.size)] 113)).alloc (.cells #[.func (.func 46) #[] #[], .func (.func 47) #[] #[], .func (.func 49) #[] #[], .func (.func 51) #[] #[.pointer (some ⟨w.heap.size + 1, 0, none⟩)], .func (.func 52) #[] #[]] 106)) l 0 w.heap.size (w.heap.size + 1) (w.heap.size + 2)) := by
    refine ⟨(((Touch.refl _ _).alloc _).alloc _).alloc _, ?_, ?_, ?_⟩
    · exact ((AM.made w _ 0).keepN ((Touch.refl _ _).alloc _)).keepN ((Touch.refl _ _).alloc _)
    · simp [go_sem]
    · have := row_new ((w.alloc (.map #[] 0)).alloc (.cells #[.map (some w.heap.size)] 113)) 106 #[.func (.func 46) #[] #[], .func (.func 47) #[] #[], .func (.func 49) #[] #[], .func (.func 51) #[] #[.pointer (some ⟨w.heap.size + 1, 0, none⟩)], .func (.func 52) #[] #[]]
      simpa [fvsL] using this
  go_enter Tryz.func25, Tryz.ntmps25
  go_upto_region 3 with fail
  generalize ((w.alloc (.map #[] 0)).alloc (.cells #[.map (some w.heap.size)] 113)).alloc (.cells #[.func (.func 46) #[] #[], .func (.func 47) #[] #[], .func (.func 49) #[] #[], .func (.func 51) #[] #[.pointer (some ⟨w.heap.size + 1, 0, none⟩)], .func (.func 52) #[] #[]] 106) = w0 at *
  have hz0 : Hid (w.heap.size ≤ w.heap.size) := Nat.le_refl _
  have hz1 : Hid (w.heap.size < w.heap.size + 1 ∧ w.heap.size + 1 < w.heap.size + 2) := ⟨by omega, by omega⟩
  generalize hf0 : w.heap.size + 2 = f0 at *
  generalize hb0 : w.heap.size + 1 = b0 at *
  generalize hm0 : w.heap.size = m0 at *
  have HM0 : Hid (w.heap.size = m0) := hm0
  clear hf0 hb0 hm0 hz0 hmm
  go_wp2_with fail
  go_loopw [13] (fun i wr => ∃ k : Nat, k ≤ l.length ∧ i = .int .i64 k ∧ CR w wr l k m0 b0 f0) (fun i _ => l.length - (intOf i).toNat)
  case atStart => exact ⟨0, Nat.zero_le _, rfl, hS0.out⟩
  case round =>
    obtain ⟨j, hk, rfl, cr⟩ := hrel
    have HC : Hid (CR w wr l j m0 b0 f0) := cr
    clear cr hS0
    by_cases hlt : j < l.length
    · have hlt' : (j : Int) < (l.length : Int) := by omega
      obtain ⟨x, hx⟩ : ∃ x, l[j]? = some x := ⟨l[j], by simp [hlt]⟩
      have hA := HA.out.keep HC.out.t
      obtain ⟨ok, g, o, c, eg, hc⟩ := hA.one hx
      simp only [Value.slice.injEq] at eg
      obtain ⟨rfl, -, rfl⟩ := eg
      obtain ⟨xa, xc, hxv, -⟩ := ok.arg.form
      have z0 : wr.cell? ⟨g, o + j * 9, none⟩ = some (.int .u16 x.h.age) := hc 0 _ rfl
      have z1 : wr.cell? ⟨g, o + j * 9 + 1, none⟩ = some (.int .u8 x.h.opts) := by rw [Nat.add_assoc]; exact hc 1 _ rfl
      have z2 : wr.cell? ⟨g, o + j * 9 + 2, none⟩ = some (.int .u8 x.h.typ) := by rw [Nat.add_assoc]; exact hc 2 _ rfl
      have z3 : wr.cell? ⟨g, o + j * 9 + 3, none⟩ = some (.int .u32 x.h.id) := by rw [Nat.add_assoc]; exact hc 3 _ rfl
      have z4 : wr.cell? ⟨g, o + j * 9 + 4, none⟩ = some (.int .u32 x.h.adv) := by rw [Nat.add_assoc]; exact hc 4 _ rfl
      have z5 : wr.cell? ⟨g, o + j * 9 + 5, none⟩ = some (.int .i32 x.h.seq) := by rw [Nat.add_assoc]; exact hc 5 _ rfl
      have z6 : wr.cell? ⟨g, o + j * 9 + 6, none⟩ = some (.int .u16 x.h.sum) := by rw [Nat.add_assoc]; exact hc 6 _ rfl
      have z7 : wr.cell? ⟨g, o + j * 9 + 7, none⟩ = some (.int .u16 x.h.len) := by rw [Nat.add_assoc]; exact hc 7 _ rfl
      have z8 : wr.cell? ⟨g, o + j * 9 + 8, none⟩ = some (.slice xa x.rs.length xc) := by rw [← hxv, Nat.add_assoc]; exact hc 8 _ rfl
      have hn := HBd.out x (List.mem_of_getElem? hx)
      have bl := lt_of_cell z0
      have tA : Touch (fun _ => False) wr (wr.alloc (.cells #[.int .u16 x.h.age, .int .u8 x.h.opts, .int .u8 x.h.typ, .int .u32 x.h.id, .int .u32 x.h.adv, .int .i32 x.h.seq, .int .u16 x.h.sum, .int .u16 x.h.len, .slice xa x.rs.length xc] 52)) := (Touch.refl _ _).alloc _
      have RA : Row (wr.alloc (.cells #[.int .u16 x.h.age, .int .u8 x.h.opts, .int .u8 x.h.typ, .int .u32 x.h.id, .int .u32 x.h.adv, .int .i32 x.h.seq, .int .u16 x.h.sum, .int .u16 x.h.len, .slice xa x.rs.length xc] 52)) wr.heap.size 52 [.int .u16 x.h.age, .int .u8 x.h.opts, .int .u8 x.h.typ, .int .u32 x.h.id, .int .u32 x.h.adv, .int .i32 x.h.seq, .int .u16 x.h.sum, .int .u16 x.h.len, .slice xa x.rs.length xc] := row_new _ _ _
      have HK := ask5 (wr.alloc (.cells #[.int .u16 x.h.age, .int .u8 x.h.opts, .int .u8 x.h.typ, .int .u32 x.h.id, .int .u32 x.h.adv, .int .i32 x.h.seq, .int .u16 x.h.sum, .int .u16 x.h.len, .slice xa x.rs.length xc] 52)) wr.heap.size b0 f0 m0 5 x (bests (l.take j)) xa xc hxv (ok.keep tA) hn (best_form HA.out.ok) RA (tA.cellN HC.out.b) (HC.out.m.keepN tA) (HC.out.f.keep tA)
      have HRA : Hid (Touch (fun _ => False) wr (wr.alloc (.cells #[.int .u16 x.h.age, .int .u8 x.h.opts, .int .u8 x.h.typ, .int .u32 x.h.id, .int .u32 x.h.adv, .int .i32 x.h.seq, .int .u16 x.h.sum, .int .u16 x.h.len, .slice xa x.rs.length xc] 52)) ∧ Row (wr.alloc (.cells #[.int .u16 x.h.age, .int .u8 x.h.opts, .int .u8 x.h.typ, .int .u32 x.h.id, .int .u32 x.h.adv, .int .i32 x.h.seq, .int .u16 x.h.sum, .int .u16 x.h.len, .slice xa x.rs.length xc] 52)) wr.heap.size 52 [.int .u16 x.h.age, .int .u8 x.h.opts, .int .u8 x.h.typ, .int .u32 x.h.id, .int .u32 x.h.adv, .int .i32 x.h.seq, .int .u16 x.h.sum, .int .u16 x.h.len, .slice xa x.rs.length xc]) := ⟨tA, RA⟩
      have HST : Hid (bests (l.take (j + 1)) = putS (bests (l.take j)) x) := bests_step hx
      have HOK : Hid (x.h.All) := ok.all
      have HXV : Hid (x.v = .slice xa x.rs.length xc) := hxv
      have hbz : Hid (b0 < wr.heap.size ∧ m0 < wr.heap.size) := ⟨lt_of_cell HC.out.b, HC.out.m.lt⟩
      have HP := fun w => place_any x.h w
      clear hA ok hc hxv hx hn tA RA HA HBd HIo
      cases hall : (cntB x.h x.rs && q4 (bests (l.take j)) x.h) with
      | false =>
        have HNX : Hid (bests (l.take (j + 1)) = bests (l.take j)) := by rw [Hid, HST.out, putS_no hall]
        rw [hall] at HK
        clear hall HST HP hbz
        go_wp2_with fail
        refine HK.mono ?_
        rintro e w1 ⟨rfl, t1⟩
        have HT1 : Hid (Touch (fun _ => False) wr w1) := HRA.out.1.trans t1
        clear t1 HK HRA z0 z1 z2 z3 z4 z5 z6 z7 z8
        go_wp2_with fail
        go_roundw
        case rel => exact ⟨j + 1, by omega, by go_num, ⟨HC.out.t.trans HT1.out, by rw [HNX.out]; exact HC.out.m.keepN HT1.out, HT1.out.cellN HC.out.b, HC.out.f.keep HT1.out⟩⟩
        case measure => simp [intOf]; omega
      | true =>
        have HAL : Hid ((cntB x.h x.rs && q4 (bests (l.take j)) x.h) = true) := hall
        rw [hall] at HK
        clear hall
        go_wp2_with fail
        refine HK.mono ?_
        rintro e w1 ⟨rfl, t1⟩
        have HT1 : Hid (Touch (fun _ => False) wr w1) := HRA.out.1.trans t1
        have KS : KpS w1 wr.heap.size b0 m0 [.int .u16 x.h.age, .int .u8 x.h.opts, .int .u8 x.h.typ, .int .u32 x.h.id, .int .u32 x.h.adv, .int .i32 x.h.seq, .int .u16 x.h.sum, .int .u16 x.h.len, .slice xa x.rs.length xc] := ⟨HRA.out.2.keep t1, HT1.out.cellN HC.out.b⟩
        clear t1 HK HRA z0 z1 z2 z3 z4 z5 z6 z7 z8
        unfold plV at HP
        generalize hbs : wr.heap.size = bs at *
        go_wp2_with fail
        have KD : KpS w1.drew bs b0 m0 [.int .u16 x.h.age, .int .u8 x.h.opts, .int .u8 x.h.typ, .int .u32 x.h.id, .int .u32 x.h.adv, .int .i32 x.h.seq, .int .u16 x.h.sum, .int .u16 x.h.len, .slice xa x.rs.length xc] := KS.touch (F := fun _ => False) ((Touch.refl _ _).drew) (fun h => h) (fun h => h)
        refine wp_region_held_drew (S := fun w' => KpS w' bs b0 m0 [.int .u16 x.h.age, .int .u8 x.h.opts, .int .u8 x.h.typ, .int .u32 x.h.id, .int .u32 x.h.adv, .int .i32 x.h.seq, .int .u16 x.h.sum, .int .u16 x.h.len, .slice xa x.rs.length xc]) (by kernel_rfl) KD (fun hHeld => ?_)
        refine wpAnyH_take (i := 0) (oi := ⟨some 22, _, _, _, _, _⟩) (v := .map (some m0)) rfl (by kernel_rfl) (by kernel_rfl) (by kernel_rfl) (fun _ _ _ h => h) (Or.inl ⟨by rfl, fun w hw => by have hwb := hw.box; go_simp⟩) (by assumption) ?_
        simp only [Act.put, List.setIfInBounds_toArray, List.set_cons_zero, List.set_cons_succ]
        refine wpAnyH_take (i := 1) (oi := ⟨some 23, _, _, _, _, _⟩) (v := .pointer (some ⟨bs, 0, none⟩)) rfl (by kernel_rfl) (by kernel_rfl) (by kernel_rfl) (fun _ _ _ h => h) (Or.inl ⟨by rfl, fun w hw => by go_simp⟩) (by assumption) ?_
        simp only [Act.put, List.setIfInBounds_toArray, List.set_cons_zero, List.set_cons_succ]
        refine wpAnyH_take (i := 2) (oi := ⟨some 24, _, _, _, _, _⟩) (v := .agg #[.int .u16 x.h.age, .int .u8 x.h.opts, .int .u8 x.h.typ, .int .u32 x.h.id, .int .u32 x.h.adv, .int .i32 x.h.seq, .int .u16 x.h.sum, .int .u16 x.h.len]) rfl (by kernel_rfl) (by kernel_rfl) (by kernel_rfl) (fun _ _ _ h => h) (yieldsIf_load_mid (by rfl) _ _ rfl _ _ rfl [.int .u16 x.h.age, .int .u8 x.h.opts, .int .u8 x.h.typ, .int .u32 x.h.id, .int .u32 x.h.adv, .int .i32 x.h.seq, .int .u16 x.h.sum, .int .u16 x.h.len] _ (fun w h => gr_pre h.row) Tryz.underlying49 rfl (by kernel_rfl)) (by assumption) ?_
        simp only [Act.put, List.setIfInBounds_toArray, List.set_cons_zero, List.set_cons_succ]
        refine wpAnyH_take (i := 4) (oi := ⟨some 26, _, _, _, _, _⟩) (v := .agg #[.int .u16 x.h.age, .int .u8 x.h.opts, .int .u8 x.h.typ, .int .u32 x.h.id, .int .u32 x.h.adv, .int .i32 x.h.seq, .int .u16 x.h.sum, .int .u16 x.h.len, .slice xa x.rs.length xc]) rfl (by kernel_rfl) (by kernel_rfl) (by kernel_rfl) (fun _ _ _ h => h) (yieldsIf_load_mid (by rfl) _ _ rfl _ _ rfl [.int .u16 x.h.age, .int .u8 x.h.opts, .int .u8 x.h.typ, .int .u32 x.h.id, .int .u32 x.h.adv, .int .i32 x.h.seq, .int .u16 x.h.sum, .int .u16 x.h.len, .slice xa x.rs.length xc] _ (fun w h => gr_range h.row) Tryz.underlying52 rfl (by kernel_rfl)) (by assumption) ?_
        simp only [Act.put, List.setIfInBounds_toArray, List.set_cons_zero, List.set_cons_succ]
        refine wpAnyH_ready (rs := [3]) (by kernel_rfl) (by simp) ?_
        refine AllReadyH.cons (o := ⟨some 25, _, _, _, _, _⟩) rfl (fun K hK => ?_) AllReadyH.nil
        go_simp
        refine Calls.mono (HP _) ?_
        rintro e y1 ⟨rfl, u1⟩
        have K1 : KpS y1 bs b0 m0 [.int .u16 x.h.age, .int .u8 x.h.opts, .int .u8 x.h.typ, .int .u32 x.h.id, .int .u32 x.h.adv, .int .i32 x.h.seq, .int .u16 x.h.sum, .int .u16 x.h.len, .slice xa x.rs.length xc] := KD.touch (F := fun _ => False) u1 (fun h => h) (fun h => h)
        have TY : Touch (fun _ => False) wr y1 := (HT1.out.trans ((Touch.refl _ _).drew)).trans u1
        refine hK.out _ _ K1 (fun hHeld => ?_)
        clear hK K u1
        refine wpAnyH_ready (rs := [5]) (by kernel_rfl) (by simp) ?_
        refine AllReadyH.cons rfl (fun K hK => ?_) AllReadyH.nil
        obtain ⟨wm, hput, mk, tm⟩ := best_put (HC.out.m.keepN TY) HOK.out HAL.out
        have HMK : Hid _ := mk
        have HTM : Hid _ := tm
        clear mk tm
        rw [HXV.out] at hput
        unfold plV HV.sv at hput
        go_simp
        have hbz' := hbz.out
        have hz1' := hz1.out
        refine hK.out _ _ (K1.touch HTM.out (by omega) (by omega)) (fun hHeld => ?_)
        clear hK K hput
        refine wpAnyH_done (by kernel_rfl) ?_ _
        go_wp2_with fail
        go_roundw
        case rel => exact ⟨j + 1, by omega, by go_num, ⟨(HC.out.t.trans TY).trans' HTM.out (fun i hi e => by have := HM0.out; omega), by rw [HST.out]; exact HMK.out, (HTM.out.cell (lt_of_cell K1.box) (by show ¬ b0 = m0; omega)).trans K1.box, gr_touch (HC.out.f.keep TY) HTM.out (by omega)⟩⟩
        case measure => simp [intOf]; omega
    · have hlt' : ¬ (j : Int) < (l.length : Int) := by omega
      obtain rfl : j = l.length := by omega
      have cb := HC.out.b
      have HM : Hid (AM wr 71 m0 (bestL (bests l))) := by have := HC.out.m; rw [List.take_length] at this; exact this
      have bl := lt_of_cell cb
      go_wp2_with fail
      refine Calls.mono (HIo.out _ _ HC.out.t HM.out) ?_
      rintro e w1 ⟨u, rfl, hq⟩
      have HQ : Hid _ := hq
      clear hq
      go_wp2_with fail
      go_ret
      exact ⟨_, rfl, HQ.out⟩
end Go.Proofs.YtjffcflhbnmjmaaGreat
