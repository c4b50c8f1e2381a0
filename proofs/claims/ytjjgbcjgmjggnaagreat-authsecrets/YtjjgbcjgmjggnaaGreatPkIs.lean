/- Package packet: isPure, isMeasuredWrong, and whether some state is measured wrong. -/
import Derived.Test.YtjjgbcjgmjggnaaGreatPkPo
import Derived.Test.YtjjgbcjgmjggnaaGreatStRead3
import Derived.Deep.LoopGhost
namespace Go.Proofs.YtjjgbcjgmjggnaaGreat
open Go.RowKit
set_option linter.unusedVariables false
set_option maxRecDepth 100000

/-- The part of each number. -/
def hasN (a b c d e : Bool) (k : Nat) : Bool := [false, a, b, c, d, e].getD k false
def pureB (t : Int) (a b c d e : Bool) : Bool := (List.range 6).all fun k => !(hasN a b c d e k) || decide ((k : Int) = t)
theorem pureB_iff (t : Int) (a b c d e : Bool) : pureB t a b c d e = true ↔ ∀ k, k < 6 → hasN a b c d e k = true → (k : Int) = t := by
  unfold pureB
  rw [List.all_eq_true]
  constructor
  · intro h k hk hh
    have := h k (List.mem_range.2 hk)
    rw [hh] at this
    simpa using this
  · intro h k hk
    cases hx : hasN a b c d e k
    · rfl
    · simpa using h k (List.mem_range.1 hk) hx
theorem hasN_at (a b c d e : Bool) (k : Nat) (hk : k < 6) (w : World) : (Instr.index 152 (.agg #[.bool false, .bool a, .bool b, .bool c, .bool d, .bool e]) (.int .i64 (k : Int))).run Tryz.prog w = .ok (.bool (hasN a b c d e k)) w := by
  obtain rfl | rfl | rfl | rfl | rfl | rfl : k = 0 ∨ k = 1 ∨ k = 2 ∨ k = 3 ∨ k = 4 ∨ k = 5 := by omega
  all_goals kernel_rfl

set_option maxHeartbeats 2000000 in
theorem isPure_any (P : PV) (ok : P.Ok) (na da ka sa ha : Option Addr) (nn nc dn dc kn kc sn sc hn hc : Nat) (w : World) :
    Calls Tryz.prog 60 #[P.v (.slice na nn nc) (.slice da dn dc) (.slice ka kn kc) (.slice sa sn sc) (.slice ha hn hc)] w fun e w' => e = .returned (.bool (pureB P.typ (hasHb P nn) (hasDb P dn) (posB kn) (posB sn) (posB hn))) ∧ Touch (fun _ => False) w w' := by
  have HP : ∀ w', Calls Tryz.prog 89 #[.agg #[.int .u8 P.typ, .int .u32 P.router, .int .u32 P.area, .int .u32 P.mask, .int .u16 P.iv, .int .u8 P.opts, .int .u8 P.prio, .int .u32 P.dead, .int .u32 P.dr, .int .u32 P.bdr, .slice na nn nc, .int .u16 P.mtu, .int .u8 P.dopts, .int .u8 P.dflags, .int .u32 P.dseq, .slice da dn dc, .slice ka kn kc, .slice sa sn sc, .slice ha hn hc]] w' fun e w'' => e = .returned (.agg #[.bool false, .bool (hasHb P nn), .bool (hasDb P dn), .bool (posB kn), .bool (posB sn), .bool (posB hn)]) ∧ Touch (fun _ => False) w' w'' := fun w' => partsOf_any P na da ka sa ha nn nc dn dc kn kc sn sc hn hc w'
  obtain ⟨ot0, ot1⟩ := ok.typ
  have qt : IntKind.i64.wrap P.typ = P.typ := by simp [IntKind.wrap, IntKind.bits, IntKind.signed]; omega
  generalize hasHb P nn = kH at *
  generalize hasDb P dn = kD at *
  generalize posB kn = kK at *
  generalize posB sn = kS at *
  generalize posB hn = kA at *
  have YES : Hid ((∀ k, k < 6 → hasN kH kD kK kS kA k = true → (k : Int) = P.typ) → pureB P.typ kH kD kK kS kA = true) := (pureB_iff _ _ _ _ _ _).2
  have NO : Hid (∀ k, k < 6 → hasN kH kD kK kS kA k = true → (k : Int) ≠ P.typ → pureB P.typ kH kD kK kS kA = false) := fun k h1 h2 h3 => Bool.eq_false_iff.2 (fun h => h3 ((pureB_iff _ _ _ _ _ _).1 h k h1 h2))
  have IX : Hid (∀ k : Nat, k < 6 → ∀ w, (Instr.index 152 (.agg #[.bool false, .bool kH, .bool kD, .bool kK, .bool kS, .bool kA]) (.int .i64 (k : Int))).run Tryz.prog w = .ok (.bool (hasN kH kD kK kS kA k)) w) := fun k hk w => hasN_at _ _ _ _ _ k hk w
  generalize pureB P.typ kH kD kK kS kA = R at *
  have pa := Pd.new w P (.slice na nn nc) (.slice da dn dc) (.slice ka kn kc) (.slice sa sn sc) (.slice ha hn hc) 33
  have ta : Touch (fun _ => False) w (w.alloc (.cells #[.int .u8 P.typ, .int .u32 P.router, .int .u32 P.area, .int .u32 P.mask, .int .u16 P.iv, .int .u8 P.opts, .int .u8 P.prio, .int .u32 P.dead, .int .u32 P.dr, .int .u32 P.bdr, .slice na nn nc, .int .u16 P.mtu, .int .u8 P.dopts, .int .u8 P.dflags, .int .u32 P.dseq, .slice da dn dc, .slice ka kn kc, .slice sa sn sc, .slice ha hn hc] 33)) := (Touch.refl _ _).alloc _
  show Calls Tryz.prog 60 #[.agg #[.int .u8 P.typ, .int .u32 P.router, .int .u32 P.area, .int .u32 P.mask, .int .u16 P.iv, .int .u8 P.opts, .int .u8 P.prio, .int .u32 P.dead, .int .u32 P.dr, .int .u32 P.bdr, .slice na nn nc, .int .u16 P.mtu, .int .u8 P.dopts, .int .u8 P.dflags, .int .u32 P.dseq, .slice da dn dc, .slice ka kn kc, .slice sa sn sc, .slice ha hn hc]] w _
  go_enter Tryz.func60, Tryz.ntmps60
  go_wp2_with (refine wpList_load_row rfl 33 (.tmp 1) rfl w.heap.size rfl 33 _ (0, 0) _ (row_new w _ _) Tryz.underlying33 rfl (by kernel_rfl) ?_)
  generalize w.alloc (.cells #[.int .u8 P.typ, .int .u32 P.router, .int .u32 P.area, .int .u32 P.mask, .int .u16 P.iv, .int .u8 P.opts, .int .u8 P.prio, .int .u32 P.dead, .int .u32 P.dr, .int .u32 P.bdr, .slice na nn nc, .int .u16 P.mtu, .int .u8 P.dopts, .int .u8 P.dflags, .int .u32 P.dseq, .slice da dn dc, .slice ka kn kc, .slice sa sn sc, .slice ha hn hc] 33) = wa at *
  generalize w.heap.size = g at *
  refine Calls.mono (HP wa) ?_
  rintro e w1 ⟨rfl, t1⟩
  have T1 : Hid (Touch (fun _ => False) w w1) := ta.trans t1
  have c0 := t1.cellN pa.c0
  clear ta t1 pa HP ok
  go_wp2_with fail
  generalize Value.agg #[.int .u8 P.typ, .int .u32 P.router, .int .u32 P.area, .int .u32 P.mask, .int .u16 P.iv, .int .u8 P.opts, .int .u8 P.prio, .int .u32 P.dead, .int .u32 P.dr, .int .u32 P.bdr, .slice na nn nc, .int .u16 P.mtu, .int .u8 P.dopts, .int .u8 P.dflags, .int .u32 P.dseq, .slice da dn dc, .slice ka kn kc, .slice sa sn sc, .slice ha hn hc] = ag
  go_loopg [3, 4, 7] 6 (fun gg _ _ s7 wr => ∃ k : Nat, k ≤ 6 ∧ 6 - k ≤ gg ∧ s7 = .int .i64 k ∧ wr = w1 ∧ Hid (∀ j, j < k → hasN kH kD kK kS kA j = true → (j : Int) = P.typ))
  case atStart => exact ⟨0, by omega, by omega, rfl, rfl, fun j hj => by omega⟩
  case round =>
    obtain ⟨k, hk, hg, rfl, rfl, hpre⟩ := hrel
    by_cases hlt : k < 6
    · have hlt' : (k : Int) < 6 := by omega
      have hi := IX.out k hlt
      have hkw : wrap64 ((k : Int) + 1) = (k : Int) + 1 := by unfold wrap64; omega
      have NK : Hid (hasN kH kD kK kS kA k = true → (k : Int) ≠ P.typ → R = false) := NO.out k hlt
      cases hx : hasN kH kD kK kS kA k
      · rw [hx] at hi
        have HX : Hid (hasN kH kD kK kS kA k = false) := hx
        clear hx NK
        as_aux_lemma =>
          go_wp2
          go_roundg (6 - (k + 1))
          case measure => omega
          case rel => exact ⟨k + 1, by omega, by omega, by go_num, rfl, fun j hj hj2 => by by_cases e : j = k; (subst e; rw [HX.out] at hj2; cases hj2); exact hpre.out j (by omega) hj2⟩
      · rw [hx] at hi
        have HX : Hid (hasN kH kD kK kS kA k = true) := hx
        clear hx
        by_cases he : (k : Int) = P.typ
        · have HE : Hid ((k : Int) = P.typ) := he
          have he1 : ((k : Int) != P.typ) = false := by simpa using he
          have he2 : ((k : Int) == P.typ) = true := by simpa using he
          clear he NK
          as_aux_lemma =>
            go_wp2
            go_roundg (6 - (k + 1))
            case measure => omega
            case rel => exact ⟨k + 1, by omega, by omega, by go_num, rfl, fun j hj hj2 => by by_cases e : j = k; (subst e; exact HE.out); exact hpre.out j (by omega) hj2⟩
        · have hR := NK.out HX.out he
          have he1 : ((k : Int) != P.typ) = true := by simpa using he
          have he2 : ((k : Int) == P.typ) = false := by simpa using he
          subst hR
          clear he NK
          as_aux_lemma =>
            go_wp2
            go_ret
            exact ⟨rfl, T1.out⟩
    · obtain rfl : k = 6 := by omega
      have hR := YES.out (fun j h1 h2 => hpre.out j h1 h2)
      subst hR
      clear YES NO IX hpre
      go_wp2
      go_ret
      exact ⟨rfl, T1.out⟩

def mwB (l : Int) (n : Nat) : Bool := !(l == 20 + (n : Int))
set_option maxHeartbeats 1000000 in
theorem mwrong_any (x : SE) (xa : Option Addr) (xc : Nat) (w : World) (ok : x.h.All) (hn : x.rs.length ≤ 1000000) : Calls Tryz.prog 62 #[.agg #[.int .u16 x.h.age, .int .u8 x.h.opts, .int .u8 x.h.typ, .int .u32 x.h.id, .int .u32 x.h.adv, .int .i32 x.h.seq, .int .u16 x.h.sum, .int .u16 x.h.len, .slice xa x.rs.length xc]] w fun e w' => e = .returned (.bool (mwB x.h.len x.rs.length)) ∧ Touch (fun _ => False) w w' := by
  obtain ⟨l0, l1⟩ := ok.l
  have hw1 : IntKind.i64.wrap x.h.len = x.h.len := by simp [IntKind.wrap, IntKind.bits, IntKind.signed]; omega
  have hw2 : wrap64 (20 + (x.rs.length : Int)) = 20 + (x.rs.length : Int) := by unfold wrap64; omega
  have hn' : (x.rs.length : Int) ≤ 1000000 := by omega
  unfold mwB
  generalize x.rs.length = n at *
  clear ok hn
  go_enter Tryz.func62, Tryz.ntmps62
  go_wp2
  go_ret
  refine ⟨ret_bool ?_, (Touch.refl _ _).alloc _⟩
  first | rfl | simp [bne]
structure IdxR (ks : List SE) (w : World) (k0 gg : Nat) (s8 : Value) (wr : World) : Prop where
  out : ∃ k : Nat, k ≤ k0 ∧ ks.length - k ≤ gg ∧ s8 = .int .i64 k ∧ Touch (fun _ => False) w wr

set_option maxHeartbeats 2000000 in
/-- The first that is measured wrong, or none. -/
theorem midx_any (v : Value) (ks : List SE) (w : World) (hv : StatesAt w v ks) (hn : ks.length ≤ 1000000) (hr : ∀ x ∈ ks, x.rs.length ≤ 1000000) (k0 : Nat) (hk0 : k0 ≤ ks.length)
    (hpre : ∀ j x, j < k0 → ks[j]? = some x → mwB x.h.len x.rs.length = false) (hhit : ∀ x, ks[k0]? = some x → mwB x.h.len x.rs.length = true) :
    Calls Tryz.prog 90 #[v, .func (.func 62) #[] #[]] w fun e w' => e = .returned (.int .i64 (if k0 < ks.length then (k0 : Int) else -1)) ∧ Touch (fun _ => False) w w' := by
  obtain ⟨va, vc, rfl, hmx⟩ := ValsAt.form hv.vals
  have HV' : Hid (∀ w', Touch (fun _ => False) w w' → StatesAt w' (.slice va ks.length vc) ks) := fun w' t => hv.keep t
  have HR : Hid (∀ x ∈ ks, x.rs.length ≤ 1000000) := hr
  have HPR : Hid (∀ j x, j < k0 → ks[j]? = some x → mwB x.h.len x.rs.length = false) := hpre
  have HIT : Hid (∀ x, ks[k0]? = some x → mwB x.h.len x.rs.length = true) := hhit
  have hmx' : (ks.length : Int) ≤ 1000000 := by omega
  have R1 : Hid (k0 < ks.length → (if k0 < ks.length then (k0 : Int) else -1) = k0) := fun h => if_pos h
  have R2 : Hid (¬ k0 < ks.length → (if k0 < ks.length then (k0 : Int) else -1) = -1) := fun h => if_neg h
  generalize (if k0 < ks.length then (k0 : Int) else -1) = RR at *
  clear hv hr hpre hhit hmx hn
  go_enter Tryz.func90, Tryz.ntmps90
  go_wp2_with fail
  go_loopg [5, 8] ks.length (fun gg _ s8 wr => IdxR ks w k0 gg s8 wr)
  case atStart => exact ⟨0, by omega, by omega, rfl, Touch.refl _ _⟩
  case round =>
    obtain ⟨k, hk, hg, rfl, tr⟩ := hrel.out
    have TR : Hid (Touch (fun _ => False) w wr) := tr
    clear tr hrel
    by_cases hlt : k < ks.length
    · have hlt' : (k : Int) < (ks.length : Int) := by omega
      have hk00 : (0 : Int) ≤ (k : Int) := by omega
      obtain ⟨x, hx⟩ : ∃ x, ks[k]? = some x := ⟨ks[k], by simp [hlt]⟩
      obtain ⟨ox, gR, off, cR, eR, hcell⟩ := StatesAt.one (HV'.out wr TR.out) hx
      obtain ⟨xa, xc, ex, -⟩ := ox.arg.form
      cases eR
      have e0 : wr.cell? ⟨gR, off + k * 9, none⟩ = some (.int .u16 x.h.age) := by exact hcell 0 _ rfl
      have e1 : wr.cell? ⟨gR, off + k * 9 + 1, none⟩ = some (.int .u8 x.h.opts) := by rw [Nat.add_assoc]; exact hcell 1 _ rfl
      have e2 : wr.cell? ⟨gR, off + k * 9 + 2, none⟩ = some (.int .u8 x.h.typ) := by rw [Nat.add_assoc]; exact hcell 2 _ rfl
      have e3 : wr.cell? ⟨gR, off + k * 9 + 3, none⟩ = some (.int .u32 x.h.id) := by rw [Nat.add_assoc]; exact hcell 3 _ rfl
      have e4 : wr.cell? ⟨gR, off + k * 9 + 4, none⟩ = some (.int .u32 x.h.adv) := by rw [Nat.add_assoc]; exact hcell 4 _ rfl
      have e5 : wr.cell? ⟨gR, off + k * 9 + 5, none⟩ = some (.int .i32 x.h.seq) := by rw [Nat.add_assoc]; exact hcell 5 _ rfl
      have e6 : wr.cell? ⟨gR, off + k * 9 + 6, none⟩ = some (.int .u16 x.h.sum) := by rw [Nat.add_assoc]; exact hcell 6 _ rfl
      have e7 : wr.cell? ⟨gR, off + k * 9 + 7, none⟩ = some (.int .u16 x.h.len) := by rw [Nat.add_assoc]; exact hcell 7 _ rfl
      have e8 : wr.cell? ⟨gR, off + k * 9 + 8, none⟩ = some (.slice xa x.rs.length xc) := by rw [← ex]; rw [Nat.add_assoc]; exact hcell 8 _ rfl
      have hkw : wrap64 ((k : Int) + 1) = (k : Int) + 1 := by unfold wrap64; omega
      have HM := mwrong_any x xa xc wr ox.all (HR.out x (List.mem_of_getElem? hx))
      by_cases hke : k < k0
      · rw [HPR.out k x hke hx] at HM
        clear hcell hx ox ex
        go_wp2_with fail
        refine Calls.mono HM ?_
        rintro e w2 ⟨rfl, t2⟩
        have T2 : Hid (Touch (fun _ => False) w w2) := TR.out.trans t2
        clear t2 HM e0 e1 e2 e3 e4 e5 e6 e7 e8
        go_wp2_with fail
        go_roundg (ks.length - (k + 1))
        case measure => omega
        case rel => exact ⟨k + 1, by omega, by omega, by go_num, T2.out⟩
      · obtain rfl : k = k0 := by omega
        rw [HIT.out x hx] at HM
        have hRR := R1.out hlt
        subst hRR
        clear hcell hx ox ex
        go_wp2_with fail
        refine Calls.mono HM ?_
        rintro e w2 ⟨rfl, t2⟩
        have T2 : Hid (Touch (fun _ => False) w w2) := TR.out.trans t2
        clear t2 HM e0 e1 e2 e3 e4 e5 e6 e7 e8
        go_wp2
        go_ret
        exact ⟨rfl, T2.out⟩
    · have hRR := R2.out (by omega)
      subst hRR
      have hlt' : ¬ (k : Int) < (ks.length : Int) := by omega
      go_wp2
      go_ret
      exact ⟨rfl, TR.out⟩
/-- Where the first is. -/
theorem first_of (f : SE → Bool) : ∀ l : List SE, ∃ k0, k0 ≤ l.length ∧ (∀ j x, j < k0 → l[j]? = some x → f x = false) ∧ (∀ x, l[k0]? = some x → f x = true) ∧ (k0 < l.length ↔ l.any f = true)
  | [] => ⟨0, by simp, fun j x h => by omega, fun x h => by simp at h, by simp⟩
  | y :: r => by
    cases hy : f y
    · obtain ⟨k0, h1, h2, h3, h4⟩ := first_of f r
      refine ⟨k0 + 1, by simpa using h1, ?_, ?_, ?_⟩
      · intro j x hj hx
        cases j with
        | zero => obtain rfl : y = x := by simpa using hx
                  exact hy
        | succ j => exact h2 j x (by omega) (by simpa using hx)
      · intro x hx
        exact h3 x (by simpa using hx)
      · rw [List.any_cons, hy, Bool.false_or, ← h4, List.length_cons]
        omega
    · refine ⟨0, by simp, fun j x h => by omega, fun x hx => ?_, by simp [hy]⟩
      have e : some y = some x := hx
      cases e
      exact hy
theorem mcont_any (v : Value) (ks : List SE) (w : World) (hv : StatesAt w v ks) (hn : ks.length ≤ 1000000) (hr : ∀ x ∈ ks, x.rs.length ≤ 1000000) :
    Calls Tryz.prog 61 #[v, .func (.func 62) #[] #[]] w fun e w' => e = .returned (.bool (ks.any fun x => mwB x.h.len x.rs.length)) ∧ Touch (fun _ => False) w w' := by
  obtain ⟨k0, h1, h2, h3, h4⟩ := first_of (fun x => mwB x.h.len x.rs.length) ks
  have HI := midx_any v ks w hv hn hr k0 h1 h2 h3
  obtain ⟨va, vc, rfl, -⟩ := ValsAt.form hv.vals
  by_cases hk : k0 < ks.length
  · rw [if_pos hk] at HI
    rw [h4.1 hk]
    clear h2 h3 h4 hv hr
    have hk0 : (0 : Int) ≤ (k0 : Int) := by omega
    go_enter Tryz.func61, Tryz.ntmps61
    go_wp2_with fail
    refine Calls.mono HI ?_
    rintro e w2 ⟨rfl, t2⟩
    go_wp2
    go_ret
    exact ⟨rfl, t2⟩
  · rw [if_neg hk] at HI
    rw [show (ks.any fun x => mwB x.h.len x.rs.length) = false from Bool.eq_false_iff.2 (fun h => hk (h4.2 h))]
    clear h2 h3 h4 hv hr
    go_enter Tryz.func61, Tryz.ntmps61
    go_wp2_with fail
    refine Calls.mono HI ?_
    rintro e w2 ⟨rfl, t2⟩
    go_wp2
    go_ret
    exact ⟨rfl, t2⟩
end Go.Proofs.YtjjgbcjgmjggnaaGreat
