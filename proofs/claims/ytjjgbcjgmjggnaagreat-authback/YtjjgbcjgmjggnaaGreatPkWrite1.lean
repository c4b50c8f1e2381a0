/- Package packet: isPure, isMeasuredWrong, and whether some state is measured wrong. -/
import Derived.Test.YtjjgbcjgmjggnaaGreatPkPo
import Derived.Test.YtjjgbcjgmjggnaaGreatStRead3
import Derived.Deep.LoopGhost
import Derived.Test.YtjjgbcjgmjggnaaGreatSumWords
import Derived.Test.YtjjgbcjgmjggnaaGreatStWrite
import Derived.Deep.RegionHeld2
import Derived.Deep.MidRow
namespace Go.Proofs.YtjjgbcjgmjggnaaGreat
open Go.RowKit
set_option linter.unusedVariables false
set_option maxRecDepth 100000

/-- The part of each number. -/
def hasN (a b c d e : Bool) (k : Nat) : Bool := [false, a, b, c, d, e].getD k false
def pureB (t : Int) (a b c d e : Bool) : Bool := (List.range 6).all fun k => !(hasN a b c d e k) || decide ((k : Int) = t)
theorem pureB_iff (t : Int) (a b c d e : Bool) : pureB t a b c d e = true ↔ ∀ k, k < 6 → hasN a b c d e k = true → (k : Int) = t := by
  unfold pureB
  rw [List.all_eq_true]
  constructor
  · intro h k hk hh
    have := h k (List.mem_range.2 hk)
    rw [hh] at this
    simpa using this
  · intro h k hk
    cases hx : hasN a b c d e k
    · rfl
    · simpa using h k (List.mem_range.1 hk) hx
theorem hasN_at (a b c d e : Bool) (k : Nat) (hk : k < 6) (w : World) : (Instr.index 152 (.agg #[.bool false, .bool a, .bool b, .bool c, .bool d, .bool e]) (.int .i64 (k : Int))).run Tryz.prog w = .ok (.bool (hasN a b c d e k)) w := by
  obtain rfl | rfl | rfl | rfl | rfl | rfl : k = 0 ∨ k = 1 ∨ k = 2 ∨ k = 3 ∨ k = 4 ∨ k = 5 := by omega
  all_goals kernel_rfl

set_option maxHeartbeats 2000000 in
theorem isPure_any (P : PV) (ok : P.Ok) (na da ka sa ha : Option Addr) (nn nc dn dc kn kc sn sc hn hc : Nat) (w : World) :
    Calls Tryz.prog 60 #[P.v (.slice na nn nc) (.slice da dn dc) (.slice ka kn kc) (.slice sa sn sc) (.slice ha hn hc)] w fun e w' => e = .returned (.bool (pureB P.typ (hasHb P nn) (hasDb P dn) (posB kn) (posB sn) (posB hn))) ∧ Touch (fun _ => False) w w' := by
  have HP : ∀ w', Calls Tryz.prog 89 #[.agg #[.int .u8 P.typ, .int .u32 P.router, .int .u32 P.area, .int .u32 P.mask, .int .u16 P.iv, .int .u8 P.opts, .int .u8 P.prio, .int .u32 P.dead, .int .u32 P.dr, .int .u32 P.bdr, .slice na nn nc, .int .u16 P.mtu, .int .u8 P.dopts, .int .u8 P.dflags, .int .u32 P.dseq, .slice da dn dc, .slice ka kn kc, .slice sa sn sc, .slice ha hn hc]] w' fun e w'' => e = .returned (.agg #[.bool false, .bool (hasHb P nn), .bool (hasDb P dn), .bool (posB kn), .bool (posB sn), .bool (posB hn)]) ∧ Touch (fun _ => False) w' w'' := fun w' => partsOf_any P na da ka sa ha nn nc dn dc kn kc sn sc hn hc w'
  obtain ⟨ot0, ot1⟩ := ok.typ
  have qt : IntKind.i64.wrap P.typ = P.typ := by simp [IntKind.wrap, IntKind.bits, IntKind.signed]; omega
  generalize hasHb P nn = kH at *
  generalize hasDb P dn = kD at *
  generalize posB kn = kK at *
  generalize posB sn = kS at *
  generalize posB hn = kA at *
  have YES : Hid ((∀ k, k < 6 → hasN kH kD kK kS kA k = true → (k : Int) = P.typ) → pureB P.typ kH kD kK kS kA = true) := (pureB_iff _ _ _ _ _ _).2
  have NO : Hid (∀ k, k < 6 → hasN kH kD kK kS kA k = true → (k : Int) ≠ P.typ → pureB P.typ kH kD kK kS kA = false) := fun k h1 h2 h3 => Bool.eq_false_iff.2 (fun h => h3 ((pureB_iff _ _ _ _ _ _).1 h k h1 h2))
  have IX : Hid (∀ k : Nat, k < 6 → ∀ w, (Instr.index 152 (.agg #[.bool false, .bool kH, .bool kD, .bool kK, .bool kS, .bool kA]) (.int .i64 (k : Int))).run Tryz.prog w = .ok (.bool (hasN kH kD kK kS kA k)) w) := fun k hk w => hasN_at _ _ _ _ _ k hk w
  generalize pureB P.typ kH kD kK kS kA = R at *
  have pa := Pd.new w P (.slice na nn nc) (.slice da dn dc) (.slice ka kn kc) (.slice sa sn sc) (.slice ha hn hc) 33
  have ta : Touch (fun _ => False) w (w.alloc (.cells #[.int .u8 P.typ, .int .u32 P.router, .int .u32 P.area, .int .u32 P.mask, .int .u16 P.iv, .int .u8 P.opts, .int .u8 P.prio, .int .u32 P.dead, .int .u32 P.dr, .int .u32 P.bdr, .slice na nn nc, .int .u16 P.mtu, .int .u8 P.dopts, .int .u8 P.dflags, .int .u32 P.dseq, .slice da dn dc, .slice ka kn kc, .slice sa sn sc, .slice ha hn hc] 33)) := (Touch.refl _ _).alloc _
  show Calls Tryz.prog 60 #[.agg #[.int .u8 P.typ, .int .u32 P.router, .int .u32 P.area, .int .u32 P.mask, .int .u16 P.iv, .int .u8 P.opts, .int .u8 P.prio, .int .u32 P.dead, .int .u32 P.dr, .int .u32 P.bdr, .slice na nn nc, .int .u16 P.mtu, .int .u8 P.dopts, .int .u8 P.dflags, .int .u32 P.dseq, .slice da dn dc, .slice ka kn kc, .slice sa sn sc, .slice ha hn hc]] w _
  go_enter Tryz.func60, Tryz.ntmps60
  go_wp2_with (refine wpList_load_row rfl 33 (.tmp 1) rfl w.heap.size rfl 33 _ (0, 0) _ (row_new w _ _) Tryz.underlying33 rfl (by kernel_rfl) ?_)
  generalize w.alloc (.cells #[.int .u8 P.typ, .int .u32 P.router, .int .u32 P.area, .int .u32 P.mask, .int .u16 P.iv, .int .u8 P.opts, .int .u8 P.prio, .int .u32 P.dead, .int .u32 P.dr, .int .u32 P.bdr, .slice na nn nc, .int .u16 P.mtu, .int .u8 P.dopts, .int .u8 P.dflags, .int .u32 P.dseq, .slice da dn dc, .slice ka kn kc, .slice sa sn sc, .slice ha hn hc] 33) = wa at *
  generalize w.heap.size = g at *
  refine Calls.mono (HP wa) ?_
  rintro e w1 ⟨rfl, t1⟩
  have T1 : Hid (Touch (fun _ => False) w w1) := ta.trans t1
  have c0 := t1.cellN pa.c0
  clear ta t1 pa HP ok
  go_wp2_with fail
  generalize Value.agg #[.int .u8 P.typ, .int .u32 P.router, .int .u32 P.area, .int .u32 P.mask, .int .u16 P.iv, .int .u8 P.opts, .int .u8 P.prio, .int .u32 P.dead, .int .u32 P.dr, .int .u32 P.bdr, .slice na nn nc, .int .u16 P.mtu, .int .u8 P.dopts, .int .u8 P.dflags, .int .u32 P.dseq, .slice da dn dc, .slice ka kn kc, .slice sa sn sc, .slice ha hn hc] = ag
  go_loopg [3, 4, 7] 6 (fun gg _ _ s7 wr => ∃ k : Nat, k ≤ 6 ∧ 6 - k ≤ gg ∧ s7 = .int .i64 k ∧ wr = w1 ∧ Hid (∀ j, j < k → hasN kH kD kK kS kA j = true → (j : Int) = P.typ))
  case atStart => exact ⟨0, by omega, by omega, rfl, rfl, fun j hj => by omega⟩
  case round =>
    obtain ⟨k, hk, hg, rfl, rfl, hpre⟩ := hrel
    by_cases hlt : k < 6
    · have hlt' : (k : Int) < 6 := by omega
      have hi := IX.out k hlt
      have hkw : wrap64 ((k : Int) + 1) = (k : Int) + 1 := by unfold wrap64; omega
      have NK : Hid (hasN kH kD kK kS kA k = true → (k : Int) ≠ P.typ → R = false) := NO.out k hlt
      cases hx : hasN kH kD kK kS kA k
      · rw [hx] at hi
        have HX : Hid (hasN kH kD kK kS kA k = false) := hx
        clear hx NK
        as_aux_lemma =>
          go_wp2
          go_roundg (6 - (k + 1))
          case measure => omega
          case rel => exact ⟨k + 1, by omega, by omega, by go_num, rfl, fun j hj hj2 => by by_cases e : j = k; (subst e; rw [HX.out] at hj2; cases hj2); exact hpre.out j (by omega) hj2⟩
      · rw [hx] at hi
        have HX : Hid (hasN kH kD kK kS kA k = true) := hx
        clear hx
        by_cases he : (k : Int) = P.typ
        · have HE : Hid ((k : Int) = P.typ) := he
          have he1 : ((k : Int) != P.typ) = false := by simpa using he
          have he2 : ((k : Int) == P.typ) = true := by simpa using he
          clear he NK
          as_aux_lemma =>
            go_wp2
            go_roundg (6 - (k + 1))
            case measure => omega
            case rel => exact ⟨k + 1, by omega, by omega, by go_num, rfl, fun j hj hj2 => by by_cases e : j = k; (subst e; exact HE.out); exact hpre.out j (by omega) hj2⟩
        · have hR := NK.out HX.out he
          have he1 : ((k : Int) != P.typ) = true := by simpa using he
          have he2 : ((k : Int) == P.typ) = false := by simpa using he
          subst hR
          clear he NK
          as_aux_lemma =>
            go_wp2
            go_ret
            exact ⟨rfl, T1.out⟩
    · obtain rfl : k = 6 := by omega
      have hR := YES.out (fun j h1 h2 => hpre.out j h1 h2)
      subst hR
      clear YES NO IX hpre
      go_wp2
      go_ret
      exact ⟨rfl, T1.out⟩

def mwB (l : Int) (n : Nat) : Bool := !(l == 20 + (n : Int))
set_option maxHeartbeats 1000000 in
theorem mwrong_any (x : SE) (xa : Option Addr) (xc : Nat) (w : World) (ok : x.h.All) (hn : x.rs.length ≤ 1000000) : Calls Tryz.prog 62 #[.agg #[.int .u16 x.h.age, .int .u8 x.h.opts, .int .u8 x.h.typ, .int .u32 x.h.id, .int .u32 x.h.adv, .int .i32 x.h.seq, .int .u16 x.h.sum, .int .u16 x.h.len, .slice xa x.rs.length xc]] w fun e w' => e = .returned (.bool (mwB x.h.len x.rs.length)) ∧ Touch (fun _ => False) w w' := by
  obtain ⟨l0, l1⟩ := ok.l
  have hw1 : IntKind.i64.wrap x.h.len = x.h.len := by simp [IntKind.wrap, IntKind.bits, IntKind.signed]; omega
  have hw2 : wrap64 (20 + (x.rs.length : Int)) = 20 + (x.rs.length : Int) := by unfold wrap64; omega
  have hn' : (x.rs.length : Int) ≤ 1000000 := by omega
  unfold mwB
  generalize x.rs.length = n at *
  clear ok hn
  go_enter Tryz.func62, Tryz.ntmps62
  go_wp2
  go_ret
  refine ⟨ret_bool ?_, (Touch.refl _ _).alloc _⟩
  first | rfl | simp [bne]
structure IdxR (ks : List SE) (w : World) (k0 gg : Nat) (s8 : Value) (wr : World) : Prop where
  out : ∃ k : Nat, k ≤ k0 ∧ ks.length - k ≤ gg ∧ s8 = .int .i64 k ∧ Touch (fun _ => False) w wr

set_option maxHeartbeats 2000000 in
/-- The first that is measured wrong, or none. -/
theorem midx_any (v : Value) (ks : List SE) (w : World) (hv : StatesAt w v ks) (hn : ks.length ≤ 1000000) (hr : ∀ x ∈ ks, x.rs.length ≤ 1000000) (k0 : Nat) (hk0 : k0 ≤ ks.length)
    (hpre : ∀ j x, j < k0 → ks[j]? = some x → mwB x.h.len x.rs.length = false) (hhit : ∀ x, ks[k0]? = some x → mwB x.h.len x.rs.length = true) :
    Calls Tryz.prog 90 #[v, .func (.func 62) #[] #[]] w fun e w' => e = .returned (.int .i64 (if k0 < ks.length then (k0 : Int) else -1)) ∧ Touch (fun _ => False) w w' := by
  obtain ⟨va, vc, rfl, hmx⟩ := ValsAt.form hv.vals
  have HV' : Hid (∀ w', Touch (fun _ => False) w w' → StatesAt w' (.slice va ks.length vc) ks) := fun w' t => hv.keep t
  have HR : Hid (∀ x ∈ ks, x.rs.length ≤ 1000000) := hr
  have HPR : Hid (∀ j x, j < k0 → ks[j]? = some x → mwB x.h.len x.rs.length = false) := hpre
  have HIT : Hid (∀ x, ks[k0]? = some x → mwB x.h.len x.rs.length = true) := hhit
  have hmx' : (ks.length : Int) ≤ 1000000 := by omega
  have R1 : Hid (k0 < ks.length → (if k0 < ks.length then (k0 : Int) else -1) = k0) := fun h => if_pos h
  have R2 : Hid (¬ k0 < ks.length → (if k0 < ks.length then (k0 : Int) else -1) = -1) := fun h => if_neg h
  generalize (if k0 < ks.length then (k0 : Int) else -1) = RR at *
  clear hv hr hpre hhit hmx hn
  go_enter Tryz.func90, Tryz.ntmps90
  go_wp2_with fail
  go_loopg [5, 8] ks.length (fun gg _ s8 wr => IdxR ks w k0 gg s8 wr)
  case atStart => exact ⟨0, by omega, by omega, rfl, Touch.refl _ _⟩
  case round =>
    obtain ⟨k, hk, hg, rfl, tr⟩ := hrel.out
    have TR : Hid (Touch (fun _ => False) w wr) := tr
    clear tr hrel
    by_cases hlt : k < ks.length
    · have hlt' : (k : Int) < (ks.length : Int) := by omega
      have hk00 : (0 : Int) ≤ (k : Int) := by omega
      obtain ⟨x, hx⟩ : ∃ x, ks[k]? = some x := ⟨ks[k], by simp [hlt]⟩
      obtain ⟨ox, gR, off, cR, eR, hcell⟩ := StatesAt.one (HV'.out wr TR.out) hx
      obtain ⟨xa, xc, ex, -⟩ := ox.arg.form
      cases eR
      have e0 : wr.cell? ⟨gR, off + k * 9, none⟩ = some (.int .u16 x.h.age) := by exact hcell 0 _ rfl
      have e1 : wr.cell? ⟨gR, off + k * 9 + 1, none⟩ = some (.int .u8 x.h.opts) := by rw [Nat.add_assoc]; exact hcell 1 _ rfl
      have e2 : wr.cell? ⟨gR, off + k * 9 + 2, none⟩ = some (.int .u8 x.h.typ) := by rw [Nat.add_assoc]; exact hcell 2 _ rfl
      have e3 : wr.cell? ⟨gR, off + k * 9 + 3, none⟩ = some (.int .u32 x.h.id) := by rw [Nat.add_assoc]; exact hcell 3 _ rfl
      have e4 : wr.cell? ⟨gR, off + k * 9 + 4, none⟩ = some (.int .u32 x.h.adv) := by rw [Nat.add_assoc]; exact hcell 4 _ rfl
      have e5 : wr.cell? ⟨gR, off + k * 9 + 5, none⟩ = some (.int .i32 x.h.seq) := by rw [Nat.add_assoc]; exact hcell 5 _ rfl
      have e6 : wr.cell? ⟨gR, off + k * 9 + 6, none⟩ = some (.int .u16 x.h.sum) := by rw [Nat.add_assoc]; exact hcell 6 _ rfl
      have e7 : wr.cell? ⟨gR, off + k * 9 + 7, none⟩ = some (.int .u16 x.h.len) := by rw [Nat.add_assoc]; exact hcell 7 _ rfl
      have e8 : wr.cell? ⟨gR, off + k * 9 + 8, none⟩ = some (.slice xa x.rs.length xc) := by rw [← ex]; rw [Nat.add_assoc]; exact hcell 8 _ rfl
      have hkw : wrap64 ((k : Int) + 1) = (k : Int) + 1 := by unfold wrap64; omega
      have HM := mwrong_any x xa xc wr ox.all (HR.out x (List.mem_of_getElem? hx))
      by_cases hke : k < k0
      · rw [HPR.out k x hke hx] at HM
        clear hcell hx ox ex
        go_wp2_with fail
        refine Calls.mono HM ?_
        rintro e w2 ⟨rfl, t2⟩
        have T2 : Hid (Touch (fun _ => False) w w2) := TR.out.trans t2
        clear t2 HM e0 e1 e2 e3 e4 e5 e6 e7 e8
        go_wp2_with fail
        go_roundg (ks.length - (k + 1))
        case measure => omega
        case rel => exact ⟨k + 1, by omega, by omega, by go_num, T2.out⟩
      · obtain rfl : k = k0 := by omega
        rw [HIT.out x hx] at HM
        have hRR := R1.out hlt
        subst hRR
        clear hcell hx ox ex
        go_wp2_with fail
        refine Calls.mono HM ?_
        rintro e w2 ⟨rfl, t2⟩
        have T2 : Hid (Touch (fun _ => False) w w2) := TR.out.trans t2
        clear t2 HM e0 e1 e2 e3 e4 e5 e6 e7 e8
        go_wp2
        go_ret
        exact ⟨rfl, T2.out⟩
    · have hRR := R2.out (by omega)
      subst hRR
      have hlt' : ¬ (k : Int) < (ks.length : Int) := by omega
      go_wp2
      go_ret
      exact ⟨rfl, TR.out⟩
/-- Where the first is. -/
theorem first_of (f : SE → Bool) : ∀ l : List SE, ∃ k0, k0 ≤ l.length ∧ (∀ j x, j < k0 → l[j]? = some x → f x = false) ∧ (∀ x, l[k0]? = some x → f x = true) ∧ (k0 < l.length ↔ l.any f = true)
  | [] => ⟨0, by simp, fun j x h => by omega, fun x h => by simp at h, by simp⟩
  | y :: r => by
    cases hy : f y
    · obtain ⟨k0, h1, h2, h3, h4⟩ := first_of f r
      refine ⟨k0 + 1, by simpa using h1, ?_, ?_, ?_⟩
      · intro j x hj hx
        cases j with
        | zero => obtain rfl : y = x := by simpa using hx
                  exact hy
        | succ j => exact h2 j x (by omega) (by simpa using hx)
      · intro x hx
        exact h3 x (by simpa using hx)
      · rw [List.any_cons, hy, Bool.false_or, ← h4, List.length_cons]
        omega
    · refine ⟨0, by simp, fun j x h => by omega, fun x hx => ?_, by simp [hy]⟩
      have e : some y = some x := hx
      cases e
      exact hy
theorem mcont_any (v : Value) (ks : List SE) (w : World) (hv : StatesAt w v ks) (hn : ks.length ≤ 1000000) (hr : ∀ x ∈ ks, x.rs.length ≤ 1000000) :
    Calls Tryz.prog 61 #[v, .func (.func 62) #[] #[]] w fun e w' => e = .returned (.bool (ks.any fun x => mwB x.h.len x.rs.length)) ∧ Touch (fun _ => False) w w' := by
  obtain ⟨k0, h1, h2, h3, h4⟩ := first_of (fun x => mwB x.h.len x.rs.length) ks
  have HI := midx_any v ks w hv hn hr k0 h1 h2 h3
  obtain ⟨va, vc, rfl, -⟩ := ValsAt.form hv.vals
  by_cases hk : k0 < ks.length
  · rw [if_pos hk] at HI
    rw [h4.1 hk]
    clear h2 h3 h4 hv hr
    have hk0 : (0 : Int) ≤ (k0 : Int) := by omega
    go_enter Tryz.func61, Tryz.ntmps61
    go_wp2_with fail
    refine Calls.mono HI ?_
    rintro e w2 ⟨rfl, t2⟩
    go_wp2
    go_ret
    exact ⟨rfl, t2⟩
  · rw [if_neg hk] at HI
    rw [show (ks.any fun x => mwB x.h.len x.rs.length) = false from Bool.eq_false_iff.2 (fun h => hk (h4.2 h))]
    clear h2 h3 h4 hv hr
    go_enter Tryz.func61, Tryz.ntmps61
    go_wp2_with fail
    refine Calls.mono HI ?_
    rintro e w2 ⟨rfl, t2⟩
    go_wp2
    go_ret
    exact ⟨rfl, t2⟩
end Go.Proofs.YtjjgbcjgmjggnaaGreat

namespace Go.Proofs.YtjjgbcjgmjggnaaGreat
open Go.RowKit
set_option linter.unusedVariables false
set_option maxRecDepth 100000

/-- A packet's rows, as they came in. -/
structure PkAt (w : World) (C : PkC) (vn vd vk vs vh : Value) : Prop where
  n : WordsAt w vn C.nb
  d : HeadsAt w vd C.dh
  k : KeysAt w vk C.ks
  s : ∃ l, l.map SE.p = C.ss ∧ StatesAt w vs l
  h : HeadsAt w vh C.hs
theorem PkAt.keep {w w' : World} {C : PkC} {vn vd vk vs vh : Value} (h : PkAt w C vn vd vk vs vh) (t : Touch (fun _ => False) w w') : PkAt w' C vn vd vk vs vh := by
  obtain ⟨l, hl, hs⟩ := h.s
  exact ⟨h.n.keep t, ValsAt.keep h.d t, ValsAt.keep h.k t, ⟨l, hl, hs.keep t⟩, ValsAt.keep h.h t⟩
theorem PkAt.forms {w : World} {C : PkC} {vn vd vk vs vh : Value} (h : PkAt w C vn vd vk vs vh) : ∃ na nc da dc ka kc sa sc ha hc, vn = .slice na C.nb.length nc ∧ vd = .slice da C.dh.length dc ∧ vk = .slice ka C.ks.length kc ∧ vs = .slice sa C.ss.length sc ∧ vh = .slice ha C.hs.length hc := by
  obtain ⟨na, nc, e1, -⟩ := ValsAt.form h.n
  obtain ⟨da, dc, e2, -⟩ := ValsAt.form h.d
  obtain ⟨ka, kc, e3, -⟩ := ValsAt.form h.k
  obtain ⟨l, hl, hs⟩ := h.s
  obtain ⟨sa, sc, e4, -⟩ := ValsAt.form hs.vals
  obtain ⟨ha, hc, e5, -⟩ := ValsAt.form h.h
  exact ⟨na, nc, da, dc, ka, kc, sa, sc, ha, hc, e1, e2, e3, by rw [e4, ← hl, List.length_map], e5⟩
/-- Not too many. -/
structure PkC.Lt (C : PkC) : Prop where
  n : C.ss.length ≤ 1000000
  b : ∀ s ∈ C.ss, s.2.length ≤ 1000000
theorem pure_alone (C : PkC) : pureB C.P.typ (hasHb C.P C.nb.length) (hasDb C.P C.dh.length) (posB C.ks.length) (posB C.ss.length) (posB C.hs.length) = true ↔ PAlone C := by
  rw [pureB_iff]
  have hl : ∀ {α : Type} (l : List α), posB l.length = true ↔ l ≠ [] := by
    intro α l
    cases l <;> simp [posB]
  have e1 : hasHb C.P C.nb.length = hasH C := rfl
  have e2 : hasDb C.P C.dh.length = hasD C := rfl
  rw [e1, e2]
  constructor
  · intro h
    refine ⟨fun ne => ?_, fun ne => ?_, fun ne => ?_, fun ne => ?_, fun ne => ?_⟩
    · exact Bool.eq_false_iff.2 (fun g => ne (h 1 (by omega) g).symm)
    · exact Bool.eq_false_iff.2 (fun g => ne (h 2 (by omega) g).symm)
    · exact Decidable.byContradiction (fun g => ne (h 3 (by omega) ((hl C.ks).2 g)).symm)
    · exact Decidable.byContradiction (fun g => ne (h 4 (by omega) ((hl C.ss).2 g)).symm)
    · exact Decidable.byContradiction (fun g => ne (h 5 (by omega) ((hl C.hs).2 g)).symm)
  · intro h k hk hh
    refine Decidable.byContradiction (fun g => ?_)
    obtain rfl | rfl | rfl | rfl | rfl | rfl : k = 0 ∨ k = 1 ∨ k = 2 ∨ k = 3 ∨ k = 4 ∨ k = 5 := by omega
    · cases hh
    · have := h.h (fun e => g e.symm); change hasH C = true at hh; rw [this] at hh; cases hh
    · have := h.d (fun e => g e.symm); change hasD C = true at hh; rw [this] at hh; cases hh
    · exact (hl _).1 hh (h.k (fun e => g e.symm))
    · exact (hl _).1 hh (h.s (fun e => g e.symm))
    · exact (hl _).1 hh (h.a (fun e => g e.symm))
theorem any_meas (C : PkC) (l : List SE) (hl : l.map SE.p = C.ss) : (l.any fun x => mwB x.h.len x.rs.length) = !pmeas C := by
  unfold pmeas
  rw [← hl]
  clear hl
  induction l with
  | nil => rfl
  | cons x r ih =>
    rw [List.any_cons, ih, List.map_cons, List.all_cons, Bool.not_and]
    congr 1
/-- The writer of each type. -/
theorem pwtype (b : Nat) (C : PkC) (ok : C.Ok) (lt : C.Lt) (vn vd vk vs vh : Value) (w0 : World) (hp : PkAt w0 C vn vd vk vs vh) (L : List Int) (hL : L.length ≤ 24) (ht : 1 ≤ C.P.typ ∧ C.P.typ ≤ 5) : ∃ f : Nat,
    (∀ w, (Instr.index 117 (.agg #[.nilFunc, .func (.func 93) #[.agg #[.pointer (some ⟨b, 0, none⟩)]] #[], .func (.func 94) #[.agg #[.pointer (some ⟨b, 0, none⟩)]] #[], .func (.func 95) #[.agg #[.pointer (some ⟨b, 0, none⟩)]] #[], .func (.func 96) #[.agg #[.pointer (some ⟨b, 0, none⟩)]] #[], .func (.func 97) #[.agg #[.pointer (some ⟨b, 0, none⟩)]] #[]]) (.int .u8 C.P.typ)).run Tryz.prog w = .ok (.func (.func f) #[.agg #[.pointer (some ⟨b, 0, none⟩)]] #[]) w) ∧ (∀ args w, (callFunc f args).run Tryz.prog w = .ok (.enter f args) w) ∧
    ∀ (X : Nat → Prop) (w : World), Wr X w b L 65535 → Touch (fun _ => False) w0 w → (∀ i, i < w0.heap.size → X i) → Calls Tryz.prog f #[.agg #[.pointer (some ⟨b, 0, none⟩)], C.P.v vn vd vk vs vh] w fun e w' => PW X w b L (pbodyB C) e w' := by
  have hk : ∀ {X : Nat → Prop} {w w' : World}, Touch (fun _ => False) w0 w → (∀ i, i < w0.heap.size → X i) → Kept X w w' → PkAt w' C vn vd vk vs vh := fun t hX k => hp.keep (k.after t hX)
  obtain h1 | h2 | h3 | h4 | h5 : C.P.typ = 1 ∨ C.P.typ = 2 ∨ C.P.typ = 3 ∨ C.P.typ = 4 ∨ C.P.typ = 5 := by omega
  · refine ⟨93, fun w => pwparts_at b w _ _ (by omega), fun _ _ => rfl, fun X w hw t hX => ?_⟩
    have := pwhello_any X b L C.P ok.P vn vd vk vs vh w hw hL C.nb (fun w' k => (hk t hX k).n) ok.nb
    unfold pbodyB
    rw [if_pos h1]
    exact this
  · refine ⟨94, fun w => pwparts_at b w _ _ (by omega), fun _ _ => rfl, fun X w hw t hX => ?_⟩
    have := pwdesc_any X b L C.P ok.P vn vd vk vs vh w hw hL C.dh (fun w' k => (hk t hX k).d) ok.dh
    unfold pbodyB
    rw [if_neg (by omega), if_pos h2]
    exact this
  · refine ⟨95, fun w => pwparts_at b w _ _ (by omega), fun _ _ => rfl, fun X w hw t hX => ?_⟩
    have := pwreq_any X b L C.P ok.P vn vd vk vs vh w hw (by omega) C.ks (fun w' k => (hk t hX k).k) ok.ks
    unfold pbodyB
    rw [if_neg (by omega), if_neg (by omega), if_pos h3]
    exact this
  · refine ⟨96, fun w => pwparts_at b w _ _ (by omega), fun _ _ => rfl, fun X w hw t hX => ?_⟩
    obtain ⟨l, hl, hs⟩ := hp.s
    have := pwupd_any X b L C.P ok.P vn vd vk vs vh w hw hL l (fun w' k => hs.keep (k.after t hX)) (by have := lt.n; rw [← hl, List.length_map] at this; exact this) (fun x hx => lt.b x.p (by rw [← hl]; exact List.mem_map_of_mem hx))
    unfold pbodyB
    rw [if_neg (by omega), if_neg (by omega), if_neg (by omega), if_pos h4, ← hl, List.length_map, stsP_of]
    exact this
  · refine ⟨97, fun w => pwparts_at b w _ _ (by omega), fun _ _ => rfl, fun X w hw t hX => ?_⟩
    have := pwack_any X b L C.P ok.P vn vd vk vs vh w hw (by omega) C.hs (fun w' k => (hk t hX k).h) ok.hs
    unfold pbodyB
    rw [if_neg (by omega), if_neg (by omega), if_neg (by omega), if_neg (by omega)]
    exact this
end Go.Proofs.YtjjgbcjgmjggnaaGreat

namespace Go.Proofs.YtjjgbcjgmjggnaaGreat
open Go.RowKit
set_option linter.unusedVariables false
set_option maxRecDepth 100000

theorem headB_bt (h : HV) (ok : h.All) : ∀ z ∈ headB h, 0 ≤ z ∧ z < 256 := by
  intro z hz
  unfold headB at hz
  simp only [List.mem_append] at hz
  rcases hz with (((((hz | hz) | hz) | hz) | hz) | hz) | hz
  · exact numBytes_byte _ _ z hz
  · simp only [List.mem_cons, List.not_mem_nil, or_false] at hz
    rcases hz with rfl | rfl
    · exact ok.o
    · exact ok.t
  all_goals exact numBytes_byte _ _ z hz
theorem flat_bt {α : Type} (f : α → List Int) (l : List α) (h : ∀ x ∈ l, ∀ z ∈ f x, 0 ≤ z ∧ z < 256) : ∀ z ∈ l.flatMap f, 0 ≤ z ∧ z < 256 := by
  intro z hz
  obtain ⟨x, hx, hz⟩ := List.mem_flatMap.1 hz
  exact h x hx z hz
theorem app_bt {a b : List Int} (ha : ∀ z ∈ a, 0 ≤ z ∧ z < 256) (hb : ∀ z ∈ b, 0 ≤ z ∧ z < 256) : ∀ z ∈ a ++ b, 0 ≤ z ∧ z < 256 := by
  intro z hz
  rcases List.mem_append.1 hz with hz | hz
  · exact ha z hz
  · exact hb z hz
theorem two_bt {a b : Int} (ha : 0 ≤ a ∧ a < 256) (hb : 0 ≤ b ∧ b < 256) : ∀ z ∈ [a, b], 0 ≤ z ∧ z < 256 := by
  intro z hz
  simp only [List.mem_cons, List.not_mem_nil, or_false] at hz
  rcases hz with rfl | rfl
  · exact ha
  · exact hb
theorem data_bt (A : AuV) (oa : A.Ok) : ∀ z ∈ A.data, 0 ≤ z ∧ z < 256 := by
  intro z hz
  simp only [AuV.data, List.mem_cons, List.not_mem_nil, or_false] at hz
  rcases hz with rfl | rfl | rfl | rfl | rfl | rfl | rfl | rfl
  · exact oa.d0
  · exact oa.d1
  · exact oa.d2
  · exact oa.d3
  · exact oa.d4
  · exact oa.d5
  · exact oa.d6
  · exact oa.d7
theorem phead_bt (P : PV) (ok : P.Ok) (A : AuV) (oa : A.Ok) : ∀ z ∈ pheadB P A, 0 ≤ z ∧ z < 256 := by
  unfold pheadB
  exact app_bt (app_bt (app_bt (app_bt (app_bt (app_bt (two_bt (by omega) ok.typ) (numBytes_byte _ _)) (numBytes_byte _ _)) (numBytes_byte _ _)) (numBytes_byte _ _)) (numBytes_byte _ _)) (data_bt A oa)
theorem length_pheadB (P : PV) (A : AuV) : (pheadB P A).length = 24 := by simp [pheadB, numBytes, AuV.data]
theorem pbody_bt (C : PkC) (ok : C.Ok) : ∀ z ∈ pbodyB C, 0 ≤ z ∧ z < 256 := by
  unfold pbodyB
  split
  · unfold helloB wordsB
    exact app_bt (app_bt (app_bt (app_bt (app_bt (app_bt (numBytes_byte _ _) (numBytes_byte _ _)) (two_bt ok.P.opts ok.P.prio)) (numBytes_byte _ _)) (numBytes_byte _ _)) (numBytes_byte _ _)) (flat_bt _ _ (fun x _ => numBytes_byte _ _))
  · split
    · unfold descB headsB
      exact app_bt (app_bt (app_bt (numBytes_byte _ _) (two_bt ok.P.dopts ok.P.dflags)) (numBytes_byte _ _)) (flat_bt _ _ (fun x hx => headB_bt x (ok.dh x hx)))
    · split
      · unfold keysB keyB
        exact flat_bt _ _ (fun x _ => app_bt (app_bt (numBytes_byte _ _) (numBytes_byte _ _)) (numBytes_byte _ _))
      · split
        · unfold stsP stP
          exact app_bt (numBytes_byte _ _) (flat_bt _ _ (fun x hx => app_bt (headB_bt x.1 (ok.sh x hx)) (ok.sb x hx)))
        · unfold headsB
          exact flat_bt _ _ (fun x hx => headB_bt x (ok.hs x hx))
/-- What write and Encode's inner function leave. -/
structure PEnd (C : PkC) (A : AuV) (w : World) (e : Ending) (w' : World) : Prop where
  out : (pencE C A = 0 ∧ ∃ v, e = .returned v ∧ Buf w w' v (pencB C A)) ∨ (pencE C A ≠ 0 ∧ e = .panicked (pflawC (pencE C A)) ∧ Touch (fun _ => False) w w')
theorem pend_bad {C : PkC} {A : AuV} {w w' : World} {n : Int} (he : pencE C A = n) (hn : n ≠ 0) (t : Touch (fun _ => False) w w') : PEnd C A w (.panicked (pflawC n)) w' := by
  subst he
  exact ⟨Or.inr ⟨hn, rfl, t⟩⟩
theorem pencE_21 {C : PkC} {A : AuV} (h : ¬ (1 ≤ C.P.typ ∧ C.P.typ ≤ 5)) : pencE C A = 21 := by unfold pencE; rw [if_pos h]
theorem pencE_24 {C : PkC} {A : AuV} (h : 1 ≤ C.P.typ ∧ C.P.typ ≤ 5) (h2 : ¬ PAlone C) : pencE C A = 24 := by unfold pencE; rw [if_neg (fun g => g h), if_pos h2]
theorem pencE_22 {C : PkC} {A : AuV} (h : 1 ≤ C.P.typ ∧ C.P.typ ≤ 5) (h2 : PAlone C) (h3 : pmeas C = false) : pencE C A = 22 := by unfold pencE; rw [if_neg (fun g => g h), if_neg (fun g => g h2), if_pos h3]
theorem pencE_25 {C : PkC} {A : AuV} (h : 1 ≤ C.P.typ ∧ C.P.typ ≤ 5) (h2 : PAlone C) (h3 : pmeas C = true) (h4 : 2 < A.kind) : pencE C A = 25 := by unfold pencE; rw [if_neg (fun g => g h), if_neg (fun g => g h2), if_neg (by rw [h3]; simp), if_pos h4]
theorem pencE_11 {C : PkC} {A : AuV} (h : 1 ≤ C.P.typ ∧ C.P.typ ≤ 5) (h2 : PAlone C) (h3 : pmeas C = true) (h4 : ¬ 2 < A.kind) (h5 : 65535 < 24 + (pbodyB C).length) : pencE C A = 11 := by unfold pencE; rw [if_neg (fun g => g h), if_neg (fun g => g h2), if_neg (by rw [h3]; simp), if_neg h4, if_pos h5]
theorem pend_good {C : PkC} {A : AuV} {w w' : World} {v : Value} (h : PEnc C A) (b : Buf w w' v (sealedB A.kind (pheadB C.P A ++ pbodyB C))) : PEnd C A w (.returned v) w' := by
  refine ⟨Or.inl ⟨h.zero, v, rfl, ?_⟩⟩
  unfold pencB
  rw [if_pos h.zero]
  exact b
theorem Pd.range {w : World} {g : Nat} {P : PV} {vn vd vk vs vh : Value} (k : Pd w g P vn vd vk vs vh) : w.rangeAt g 0 [.int .u8 P.typ, .int .u32 P.router, .int .u32 P.area, .int .u32 P.mask, .int .u16 P.iv, .int .u8 P.opts, .int .u8 P.prio, .int .u32 P.dead, .int .u32 P.dr, .int .u32 P.bdr, vn, .int .u16 P.mtu, .int .u8 P.dopts, .int .u8 P.dflags, .int .u32 P.dseq, vd, vk, vs, vh] := by
  intro j v hj
  match j, hj with
  | 0, h => cases h; exact k.c0
  | 1, h => cases h; exact k.c1
  | 2, h => cases h; exact k.c2
  | 3, h => cases h; exact k.c3
  | 4, h => cases h; exact k.c4
  | 5, h => cases h; exact k.c5
  | 6, h => cases h; exact k.c6
  | 7, h => cases h; exact k.c7
  | 8, h => cases h; exact k.c8
  | 9, h => cases h; exact k.c9
  | 10, h => cases h; exact k.c10
  | 11, h => cases h; exact k.c11
  | 12, h => cases h; exact k.c12
  | 13, h => cases h; exact k.c13
  | 14, h => cases h; exact k.c14
  | 15, h => cases h; exact k.c15
  | 16, h => cases h; exact k.c16
  | 17, h => cases h; exact k.c17
  | 18, h => cases h; exact k.c18
  | j + 19, h => simp at h
theorem Ad.range {w : World} {g : Nat} {A : AuV} (k : Ad w g A) : w.rangeAt g 0 [.int .u16 A.kind, .int .u8 A.d0, .int .u8 A.d1, .int .u8 A.d2, .int .u8 A.d3, .int .u8 A.d4, .int .u8 A.d5, .int .u8 A.d6, .int .u8 A.d7] := by
  intro j v hj
  match j, hj with
  | 0, h => cases h; exact k.c0
  | 1, h => cases h; exact k.c1
  | 2, h => cases h; exact k.c2
  | 3, h => cases h; exact k.c3
  | 4, h => cases h; exact k.c4
  | 5, h => cases h; exact k.c5
  | 6, h => cases h; exact k.c6
  | 7, h => cases h; exact k.c7
  | 8, h => cases h; exact k.c8
  | j + 9, h => simp at h
end Go.Proofs.YtjjgbcjgmjggnaaGreat
