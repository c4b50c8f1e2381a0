/- Check: which chains may be. -/
import Derived.Test.YtjjgbcjgmjggnaaGreatDoorAuMay
import Derived.Test.YtjjgbcjgmjggnaaGreatDoorDigRow
import Derived.Deep.LoopGhost
import Derived.Deep.DeepCutAuto
namespace Go.Proofs.YtjjgbcjgmjggnaaGreatDoor
open Go.RowKit
set_option linter.unusedVariables false
set_option maxRecDepth 100000

theorem ChainAt.take {w : World} {va : Option Addr} {vc n : Nat} {l : List KE} (h : ChainAt w (.slice va n vc) l) (hn : n = l.length) (m : Nat) (hm : m ≤ n) (hp : 0 < n) : ChainAt w (.slice va m vc) (l.take m) := by
  subst hn
  refine ⟨⟨by rw [length_chainC], ?_⟩, fun x hx => h.ok x (List.mem_of_mem_take hx)⟩
  rcases h.vals.2 with ⟨_, h0⟩ | ⟨ad, c, e, h1, h2, h3⟩
  · omega
  · cases e
    refine Or.inr ⟨ad, vc, by rw [List.length_take, Nat.min_eq_left hm], by rw [List.length_take]; omega, h2, fun j u hj => h3 j u ?_⟩
    have e : chainC l = chainC (l.take m) ++ chainC (l.drop m) := by
      unfold chainC
      rw [← List.flatMap_append, List.take_append_drop]
    rw [e, List.getElem?_append_left (List.getElem?_eq_some_iff.mp hj).1]
    exact hj
/-- l[:j]. -/
theorem chain_to {w : World} {va : Option Addr} {vc n : Nat} {l : List KE} (h : ChainAt w (.slice va n vc) l) (hn : n = l.length) (hp : 0 < n) (j : Nat) (hj : j ≤ n) :
    ∀ w, Sem.run Tryz.prog (Instr.slice 23 (.slice va n vc) none (some (.int .i64 (j : Int))) none) w = .ok (.slice va j vc) w := by
  subst hn
  obtain ⟨ga, oa, c, e, hc1, hc2, _⟩ := h.vals.cells hp (by omega)
  cases e
  have hc2' : (vc : Int) ≤ 9223372036854775807 := by unfold maxLen at hc2; omega
  have h0 : (0 : Int) ≤ (j : Int) := by omega
  have h1 : (j : Int) ≤ (vc : Int) := by omega
  have hne : ¬ vc = 0 := by omega
  intro w
  simp [Instr.slice, Instr.sliceBounds, Instr.sliceBound, go_sem, h0]
  intro hh; omega

set_option maxHeartbeats 1000000 in
/-- The closure: has it that ID? -/
theorem sameID_any (x : KE) (kb : Nat) (w : World) {i kd : Int} {ka : Option Addr} {kn kc : Nat} {sf su tf tu : Int} (hk : KBox w kb i kd ka kn kc sf su tf tu) :
    Calls Tryz.prog 60 #[x.agg, .pointer (some ⟨kb, 0, none⟩)] w fun e w' => e = .returned (.bool (x.p.id == i)) ∧ Touch (fun _ => False) w w' := by
  have hl := hk.lt
  have c0 := hk.c0
  clear hk
  go_enter Tryz.func60, Tryz.ntmps60
  go_wp2
  go_ret
  exact ⟨rfl, (Touch.refl _ _).alloc _⟩
structure IdxK (ks : List KE) (w : World) (k0 gg : Nat) (s8 : Value) (wr : World) : Prop where
  out : ∃ k : Nat, k ≤ k0 ∧ ks.length - k ≤ gg ∧ s8 = .int .i64 k ∧ Touch (fun _ => False) w wr
set_option maxHeartbeats 2000000 in
theorem kidx_any (v : Value) (ks : List KE) (w : World) (hv : ChainAt w v ks) (hn : ks.length ≤ 1000000) (kb : Nat) {i kd : Int} {ka : Option Addr} {kn kc : Nat} {sf su tf tu : Int} (hkb : KBox w kb i kd ka kn kc sf su tf tu) (k0 : Nat) (hk0 : k0 ≤ ks.length)
    (hpre : ∀ j x, j < k0 → ks[j]? = some x → (x.p.id == i) = false) (hhit : ∀ x, ks[k0]? = some x → (x.p.id == i) = true) :
    Calls Tryz.prog 93 #[v, .func (.func 60) #[] #[.pointer (some ⟨kb, 0, none⟩)]] w fun e w' => e = .returned (.int .i64 (if k0 < ks.length then (k0 : Int) else -1)) ∧ Touch (fun _ => False) w w' := by
  obtain ⟨va, vc, rfl, hmx⟩ := ValsAt.form hv.vals
  have HV' : Hid (∀ w', Touch (fun _ => False) w w' → ChainAt w' (.slice va ks.length vc) ks) := fun w' t => hv.keep t
  have HKB : Hid (∀ w', Touch (fun _ => False) w w' → KBox w' kb i kd ka kn kc sf su tf tu) := fun w' t => hkb.keep t
  have HPR : Hid (∀ j x, j < k0 → ks[j]? = some x → (x.p.id == i) = false) := hpre
  have HIT : Hid (∀ x, ks[k0]? = some x → (x.p.id == i) = true) := hhit
  have hmx' : (ks.length : Int) ≤ 1000000 := by omega
  have R1 : Hid (k0 < ks.length → (if k0 < ks.length then (k0 : Int) else -1) = k0) := fun h => if_pos h
  have R2 : Hid (¬ k0 < ks.length → (if k0 < ks.length then (k0 : Int) else -1) = -1) := fun h => if_neg h
  generalize (if k0 < ks.length then (k0 : Int) else -1) = RR at *
  clear hv hpre hhit hmx hn hkb
  go_enter Tryz.func93, Tryz.ntmps93
  go_wp2_with fail
  go_loopg [5, 8] ks.length (fun gg _ s8 wr => IdxK ks w k0 gg s8 wr)
  case atStart => exact ⟨0, by omega, by omega, rfl, Touch.refl _ _⟩
  case round =>
    obtain ⟨k, hk, hg, rfl, tr⟩ := hrel.out
    have TR : Hid (Touch (fun _ => False) w wr) := tr
    clear tr hrel
    by_cases hlt : k < ks.length
    · have hlt' : (k : Int) < (ks.length : Int) := by omega
      have hk00 : (0 : Int) ≤ (k : Int) := by omega
      obtain ⟨x, hx⟩ : ∃ x, ks[k]? = some x := ⟨ks[k], by simp [hlt]⟩
      obtain ⟨ox, gR, off, cR, eR, hcell⟩ := ChainAt.one (HV'.out wr TR.out) hx
      cases eR
      have e0 : wr.cell? ⟨gR, off + k * 7, none⟩ = some (.int .u8 x.p.id) := by exact hcell 0 _ rfl
      have e1 : wr.cell? ⟨gR, off + k * 7 + 1, none⟩ = some (.int .u16 x.p.kind) := by rw [Nat.add_assoc]; exact hcell 1 _ rfl
      have e2 : wr.cell? ⟨gR, off + k * 7 + 2, none⟩ = some (.slice x.a x.p.sec.length x.c) := by rw [Nat.add_assoc]; exact hcell 2 _ rfl
      have e3 : wr.cell? ⟨gR, off + k * 7 + 3, none⟩ = some (.int .i64 x.p.sf) := by rw [Nat.add_assoc]; exact hcell 3 _ rfl
      have e4 : wr.cell? ⟨gR, off + k * 7 + 4, none⟩ = some (.int .i64 x.p.su) := by rw [Nat.add_assoc]; exact hcell 4 _ rfl
      have e5 : wr.cell? ⟨gR, off + k * 7 + 5, none⟩ = some (.int .i64 x.p.tf) := by rw [Nat.add_assoc]; exact hcell 5 _ rfl
      have e6 : wr.cell? ⟨gR, off + k * 7 + 6, none⟩ = some (.int .i64 x.p.tu) := by rw [Nat.add_assoc]; exact hcell 6 _ rfl
      have hkw : wrap64 ((k : Int) + 1) = (k : Int) + 1 := by unfold wrap64; omega
      have HM := sameID_any x kb wr (HKB.out wr TR.out)
      by_cases hke : k < k0
      · rw [HPR.out k x hke hx] at HM
        clear hcell hx ox
        go_wp2_with fail
        refine Calls.mono HM ?_
        rintro e w2 ⟨rfl, t2⟩
        have T2 : Hid (Touch (fun _ => False) w w2) := TR.out.trans t2
        clear t2 HM e0 e1 e2 e3 e4 e5 e6
        go_wp2_with fail
        go_roundg (ks.length - (k + 1))
        case measure => omega
        case rel => exact ⟨k + 1, by omega, by omega, by go_num, T2.out⟩
      · obtain rfl : k = k0 := by omega
        rw [HIT.out x hx] at HM
        have hRR := R1.out hlt
        subst hRR
        clear hcell hx ox
        go_wp2_with fail
        refine Calls.mono HM ?_
        rintro e w2 ⟨rfl, t2⟩
        have T2 : Hid (Touch (fun _ => False) w w2) := TR.out.trans t2
        clear t2 HM e0 e1 e2 e3 e4 e5 e6
        go_wp2
        go_ret
        exact ⟨rfl, T2.out⟩
    · have hRR := R2.out (by omega)
      subst hRR
      have hlt' : ¬ (k : Int) < (ks.length : Int) := by omega
      go_wp2
      go_ret
      exact ⟨rfl, TR.out⟩
/-- Where the first is. -/
theorem first_ofK (f : KE → Bool) : ∀ l : List KE, ∃ k0, k0 ≤ l.length ∧ (∀ j x, j < k0 → l[j]? = some x → f x = false) ∧ (∀ x, l[k0]? = some x → f x = true) ∧ (k0 < l.length ↔ l.any f = true)
  | [] => ⟨0, by simp, fun j x h => by omega, fun x h => by simp at h, by simp⟩
  | y :: r => by
    cases hy : f y
    · obtain ⟨k0, h1, h2, h3, h4⟩ := first_ofK f r
      refine ⟨k0 + 1, by simpa using h1, ?_, ?_, ?_⟩
      · intro j x hj hx
        cases j with
        | zero => obtain rfl : y = x := by simpa using hx
                  exact hy
        | succ j => exact h2 j x (by omega) (by simpa using hx)
      · intro x hx
        exact h3 x (by simpa using hx)
      · rw [List.any_cons, hy, Bool.false_or, ← h4, List.length_cons]
        omega
    · refine ⟨0, by simp, fun j x h => by omega, fun x hx => ?_, by simp [hy]⟩
      have e : some y = some x := hx
      cases e
      exact hy
theorem kcont_any (v : Value) (ks : List KE) (w : World) (hv : ChainAt w v ks) (hn : ks.length ≤ 1000000) (kb : Nat) {i kd : Int} {ka : Option Addr} {kn kc : Nat} {sf su tf tu : Int} (hkb : KBox w kb i kd ka kn kc sf su tf tu) :
    Calls Tryz.prog 59 #[v, .func (.func 60) #[] #[.pointer (some ⟨kb, 0, none⟩)]] w fun e w' => e = .returned (.bool (ks.any fun x => x.p.id == i)) ∧ Touch (fun _ => False) w w' := by
  obtain ⟨k0, h1, h2, h3, h4⟩ := first_ofK (fun x => x.p.id == i) ks
  have HI := kidx_any v ks w hv hn kb hkb k0 h1 h2 h3
  obtain ⟨va, vc, rfl, -⟩ := ValsAt.form hv.vals
  by_cases hk : k0 < ks.length
  · rw [if_pos hk] at HI
    rw [h4.1 hk]
    clear h2 h3 h4 hv hkb
    have hk0 : (0 : Int) ≤ (k0 : Int) := by omega
    go_enter Tryz.func59, Tryz.ntmps59
    go_wp2_with fail
    refine Calls.mono HI ?_
    rintro e w2 ⟨rfl, t2⟩
    go_wp2
    go_ret
    exact ⟨rfl, t2⟩
  · rw [if_neg hk] at HI
    rw [show (ks.any fun x => x.p.id == i) = false from Bool.eq_false_iff.2 (fun h => hk (h4.2 h))]
    clear h2 h3 h4 hv hkb
    go_enter Tryz.func59, Tryz.ntmps59
    go_wp2_with fail
    refine Calls.mono HI ?_
    rintro e w2 ⟨rfl, t2⟩
    go_wp2
    go_ret
    exact ⟨rfl, t2⟩

theorem twice_map (ks : List KE) (k : Nat) (id : Int) : twiceB (pureL ks) k id = (ks.take k).any (fun x => x.p.id == id) := by
  unfold twiceB
  rw [← List.map_take, List.any_map]
  rfl
theorem kind_first {ks : List KE} {y : KE} (h : ks[0]? = some y) : kindOfL (pureL ks) = y.p.kind := by
  cases ks with
  | nil => simp at h
  | cons z r => simp at h; subst h; rfl
/-- What Check finds at a key. -/
theorem bad_one {ks : List KE} {k : Nat} {x : KE} (hx : ks[k]? = some x) : badAt (pureL ks) k = if (!x.p.may || x.p.kind != kindOfL (pureL ks)) = true then 26 else if twiceB (pureL ks) k x.p.id = true then 63 else 0 := by
  unfold badAt
  rw [List.getElem?_map, hx]
  rfl
structure ChkR (ks : List KE) (w : World) (gg : Nat) (s11 : Value) (wr : World) : Prop where
  out : ∃ k : Nat, k ≤ ks.length ∧ ks.length - k ≤ gg ∧ s11 = .int .i64 k ∧ Touch (fun _ => False) w wr ∧ ∀ j, j < k → badAt (pureL ks) j = 0
set_option maxHeartbeats 4000000 in
/-- Check, every way. -/
theorem achk_any (v : Value) (ks : List KE) (w : World) (hv : ChainAt w v ks) :
    Calls Tryz.prog 20 #[v] w fun e w' => e = .returned (.tuple #[.int .i64 (achE (pureL ks)), .int .i64 (achI (pureL ks))]) ∧ Touch (fun _ => False) w w' := by
  obtain ⟨va, vc, rfl, hmx⟩ := ValsAt.form hv.vals
  by_cases hbig : 16 < ks.length
  · have hb' : (16 : Int) < (ks.length : Int) := by omega
    obtain ⟨e1, e2⟩ := chk_many (ks := pureL ks) (by simpa using hbig)
    rw [e1, e2]
    clear hv hbig e1 e2 hmx
    go_enter Tryz.func20, Tryz.ntmps20
    go_wp2
    go_ret2
    exact ⟨rfl, Touch.refl _ _⟩
  have hb' : ¬ (16 : Int) < (ks.length : Int) := by omega
  have hl16 : (ks.length : Int) ≤ 16 := by omega
  have HV' : Hid (∀ w', Touch (fun _ => False) w w' → ChainAt w' (.slice va ks.length vc) ks) := fun w' t => hv.keep t
  have HG : Hid ((∀ j, j < ks.length → badAt (pureL ks) j = 0) → achE (pureL ks) = 0 ∧ achI (pureL ks) = 0) := fun h => chk_good (by simp; omega) (fun j hj => h j (by simpa using hj))
  have HB : Hid (∀ m, m < ks.length → badAt (pureL ks) m ≠ 0 → (∀ j, j < m → badAt (pureL ks) j = 0) → achE (pureL ks) = badAt (pureL ks) m ∧ achI (pureL ks) = (m : Int)) := fun m h1 h2 h3 => chk_bad (by simp; omega) (by simpa using h1) h2 h3
  generalize achE (pureL ks) = EE at *
  generalize achI (pureL ks) = II at *
  clear hv hmx hbig
  go_enter Tryz.func20, Tryz.ntmps20
  go_wp2_with fail
  go_loopg [4, 5, 11] ks.length (fun gg _ _ s11 wr => ChkR ks w gg s11 wr)
  case atStart => exact ⟨0, by omega, by omega, rfl, Touch.refl _ _, fun j h => by omega⟩
  case round =>
    obtain ⟨k, hk, hg, rfl, tr, hpre⟩ := hrel.out
    have TR : Hid (Touch (fun _ => False) w wr) := tr
    have HP : Hid (∀ j, j < k → badAt (pureL ks) j = 0) := hpre
    clear tr hrel hpre
    by_cases hlt : k < ks.length
    · have hlt' : (k : Int) < (ks.length : Int) := by omega
      have hk00 : (0 : Int) ≤ (k : Int) := by omega
      obtain ⟨x, hx⟩ : ∃ x, ks[k]? = some x := ⟨ks[k], by simp [hlt]⟩
      obtain ⟨ox, gR, off, cR, eR, hcell⟩ := ChainAt.one (HV'.out wr TR.out) hx
      cases eR
      have e0 : wr.cell? ⟨gR, off + k * 7, none⟩ = some (.int .u8 x.p.id) := by exact hcell 0 _ rfl
      have e1 : wr.cell? ⟨gR, off + k * 7 + 1, none⟩ = some (.int .u16 x.p.kind) := by rw [Nat.add_assoc]; exact hcell 1 _ rfl
      have e2 : wr.cell? ⟨gR, off + k * 7 + 2, none⟩ = some (.slice x.a x.p.sec.length x.c) := by rw [Nat.add_assoc]; exact hcell 2 _ rfl
      have e3 : wr.cell? ⟨gR, off + k * 7 + 3, none⟩ = some (.int .i64 x.p.sf) := by rw [Nat.add_assoc]; exact hcell 3 _ rfl
      have e4 : wr.cell? ⟨gR, off + k * 7 + 4, none⟩ = some (.int .i64 x.p.su) := by rw [Nat.add_assoc]; exact hcell 4 _ rfl
      have e5 : wr.cell? ⟨gR, off + k * 7 + 5, none⟩ = some (.int .i64 x.p.tf) := by rw [Nat.add_assoc]; exact hcell 5 _ rfl
      have e6 : wr.cell? ⟨gR, off + k * 7 + 6, none⟩ = some (.int .i64 x.p.tu) := by rw [Nat.add_assoc]; exact hcell 6 _ rfl
      obtain ⟨y, hy⟩ : ∃ y, ks[0]? = some y := ⟨ks[0]'(by omega), List.getElem?_eq_getElem (by omega)⟩
      obtain ⟨-, gR', off', cR', eR', hcell'⟩ := ChainAt.one (HV'.out wr TR.out) hy
      cases eR'
      have y1 : wr.cell? ⟨gR, off + 1, none⟩ = some (.int .u16 y.p.kind) := by have := hcell' 1 _ rfl; simpa using this
      have hkw : wrap64 ((k : Int) + 1) = (k : Int) + 1 := by unfold wrap64; omega
      have HM := fun w => may_any x w
      have HBO := bad_one hx
      rw [kind_first hy, twice_map] at HBO
      clear hcell hcell'
      go_upto_region 6 with fail
      have r0 := kbox_new wr x.p.id x.p.kind x.a x.p.sec.length x.c x.p.sf x.p.su x.p.tf x.p.tu
      have TA : Hid (Touch (fun _ => False) w (wr.alloc (.cells #[.int .u8 x.p.id, .int .u16 x.p.kind, .slice x.a x.p.sec.length x.c, .int .i64 x.p.sf, .int .i64 x.p.su, .int .i64 x.p.tf, .int .i64 x.p.tu] 61))) := TR.out.trans ((Touch.refl _ _).alloc _)
      replace y1 : (wr.alloc (.cells #[.int .u8 x.p.id, .int .u16 x.p.kind, .slice x.a x.p.sec.length x.c, .int .i64 x.p.sf, .int .i64 x.p.su, .int .i64 x.p.tf, .int .i64 x.p.tu] 61)).cell? ⟨gR, off + 1, none⟩ = some (.int .u16 y.p.kind) := ((Touch.refl (fun _ => False) wr).alloc _).cellN y1
      generalize wr.alloc (.cells #[.int .u8 x.p.id, .int .u16 x.p.kind, .slice x.a x.p.sec.length x.c, .int .i64 x.p.sf, .int .i64 x.p.su, .int .i64 x.p.tf, .int .i64 x.p.tu] 61) = wa at r0 TA y1 ⊢
      generalize wr.heap.size = kb at r0 ⊢
      clear e0 e1 e2 e3 e4 e5 e6 TR
      cases hm : x.p.may
      · rw [hm] at HM
        have hbd : badAt (pureL ks) k = 26 := by rw [HBO, hm]; simp
        obtain ⟨hE, hI⟩ := HB.out k hlt (by rw [hbd]; omega) HP.out
        rw [hbd] at hE
        subst hE hI
        have c0 := aft_cell r0.c0
        have c1 := aft_cell r0.c1
        have c2 := aft_cell r0.c2
        have c3 := aft_cell r0.c3
        have c4 := aft_cell r0.c4
        have c5 := aft_cell r0.c5
        have c6 := aft_cell r0.c6
        clear HBO hbd r0 hx hy ox
        refine wp_region_aft (by kernel_rfl) (by kernel_rfl) ?_
        repeat (first | go_big_quiet_skip | (go_big_quiet_want; go_big_quiet_op; first | go_big_quiet_on | (refine Exists.intro _ ⟨fun _ => rfl, ?_⟩; go_big_quiet_on)))
        go_big_quiet_want; go_big_quiet_op; refine Exists.intro _ ⟨fun u => Aft.call (HM _), ?_⟩; go_big_quiet_on
        repeat (first | go_big_quiet_skip | (go_big_quiet_want; go_big_quiet_op; first | go_big_quiet_on | (refine Exists.intro _ ⟨fun _ => rfl, ?_⟩; go_big_quiet_on)))
        refine wpQuiet_nil ?_
        rintro wq ⟨⟨_, hgq⟩, rfl⟩
        clear c0 c1 c2 c3 c4 c5 c6
        go_wp2_with fail
        go_ret2
        exact ⟨rfl, TA.out.trans hgq⟩
      · rw [hm] at HM
        have c0 := aft_cell r0.c0
        have c1 := aft_cell r0.c1
        have c2 := aft_cell r0.c2
        have c3 := aft_cell r0.c3
        have c4 := aft_cell r0.c4
        have c5 := aft_cell r0.c5
        have c6 := aft_cell r0.c6
        have y2 := aft_cell y1
        by_cases hkk : x.p.kind = y.p.kind
        · have hbk : (x.p.kind != y.p.kind) = false := by simpa using hkk
          have HBO' : Hid (badAt (pureL ks) k = if ((List.take k ks).any fun z => z.p.id == x.p.id) = true then 63 else 0) := by show _ = _; rw [HBO, hm, hbk]; simp
          have R0 := r0
          clear HBO r0 hy hx ox hkk
          have hl0 : (0 : Int) < (ks.length : Int) := by omega
          refine wp_region_aft (by kernel_rfl) (by kernel_rfl) ?_
          repeat (first | go_big_quiet_skip | (go_big_quiet_want; go_big_quiet_op; first | go_big_quiet_on | (refine Exists.intro _ ⟨fun _ => rfl, ?_⟩; go_big_quiet_on)))
          go_big_quiet_want; go_big_quiet_op; refine Exists.intro _ ⟨fun u => Aft.call (HM _), ?_⟩; go_big_quiet_on
          repeat (first | go_big_quiet_skip | (go_big_quiet_want; go_big_quiet_op; first | go_big_quiet_on | (refine Exists.intro _ ⟨fun _ => rfl, ?_⟩; go_big_quiet_on)))
          refine wpQuiet_nil ?_
          rintro wq ⟨⟨_, hgq⟩, rfl⟩
          clear c0 c1 c2 c3 c4 c5 c6 y1 y2
          have TQ : Hid (Touch (fun _ => False) w wq) := TA.out.trans hgq
          have hsl := chain_to (HV'.out wq TQ.out) rfl (by omega) k (by omega)
          have HK := kcont_any _ (ks.take k) wq ((HV'.out wq TQ.out).take rfl k (by omega) (by omega)) (by rw [List.length_take]; omega) kb (R0.keep hgq)
          clear R0 hgq
          go_wp2_with fail
          refine Calls.mono HK ?_
          rintro e w3 ⟨rfl, t3⟩
          have T3 : Hid (Touch (fun _ => False) w w3) := TQ.out.trans t3
          clear t3 HK hsl
          generalize (List.take k ks).any (fun z => z.p.id == x.p.id) = B at HBO' ⊢
          cases B
          · have hbd : badAt (pureL ks) k = 0 := by rw [HBO'.out]; rfl
            have HP2 : Hid (∀ j, j < k + 1 → badAt (pureL ks) j = 0) := fun j hj => by
              by_cases e : j = k
              · rw [e]; exact hbd
              · exact HP.out j (by omega)
            clear hbd HBO' HP
            go_wp2_with fail
            go_roundg (ks.length - (k + 1))
            case measure => omega
            case rel => exact ⟨k + 1, by omega, by omega, by go_num, T3.out, HP2.out⟩
          · have hbd : badAt (pureL ks) k = 63 := by rw [HBO'.out]; rfl
            obtain ⟨hE, hI⟩ := HB.out k hlt (by rw [hbd]; omega) HP.out
            rw [hbd] at hE
            subst hE hI
            clear hbd HBO'
            go_wp2_with fail
            go_ret2
            exact ⟨rfl, T3.out⟩
        · have hbk : (x.p.kind != y.p.kind) = true := by simpa using hkk
          have hbd : badAt (pureL ks) k = 26 := by rw [HBO, hm, hbk]; simp
          obtain ⟨hE, hI⟩ := HB.out k hlt (by rw [hbd]; omega) HP.out
          rw [hbd] at hE
          subst hE hI
          have hl0 : (0 : Int) < (ks.length : Int) := by omega
          clear HBO hbd r0 hx hy ox hkk
          refine wp_region_aft (by kernel_rfl) (by kernel_rfl) ?_
          repeat (first | go_big_quiet_skip | (go_big_quiet_want; go_big_quiet_op; first | go_big_quiet_on | (refine Exists.intro _ ⟨fun _ => rfl, ?_⟩; go_big_quiet_on)))
          go_big_quiet_want; go_big_quiet_op; refine Exists.intro _ ⟨fun u => Aft.call (HM _), ?_⟩; go_big_quiet_on
          repeat (first | go_big_quiet_skip | (go_big_quiet_want; go_big_quiet_op; first | go_big_quiet_on | (refine Exists.intro _ ⟨fun _ => rfl, ?_⟩; go_big_quiet_on)))
          refine wpQuiet_nil ?_
          rintro wq ⟨⟨_, hgq⟩, rfl⟩
          clear c0 c1 c2 c3 c4 c5 c6
          go_wp2_with fail
          go_ret2
          exact ⟨rfl, TA.out.trans hgq⟩
    · have hlt' : ¬ (k : Int) < (ks.length : Int) := by omega
      obtain ⟨hE, hI⟩ := HG.out (fun j hj => HP.out j (by omega))
      subst hE hI
      go_wp2
      go_ret2
      exact ⟨rfl, TR.out⟩
end Go.Proofs.YtjjgbcjgmjggnaaGreatDoor
