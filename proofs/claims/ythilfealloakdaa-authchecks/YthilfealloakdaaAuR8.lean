/- stays: keys are as they were. -/
import Derived.Test.YthilfealloakdaaAuMay
import Derived.Test.YthilfealloakdaaAuChk
import Derived.Test.YthilfealloakdaaRowB
import Derived.Test.YthilfealloakdaaAuGiv
import Derived.Test.YthilfealloakdaaEqB
import Derived.Deep.LoopGhost
import Derived.Deep.DeepCutAuto
namespace Go.Proofs.Ythilfealloakdaa
open Go.RowKit
set_option linter.unusedVariables false
set_option maxRecDepth 100000

structure StyR (ks : List KE) (w : World) (gg : Nat) (s5 : Value) (wr : World) : Prop where
  out : ∃ k : Nat, k ≤ ks.length ∧ ks.length - k ≤ gg ∧ s5 = .int .i64 k ∧ Touch (fun _ => False) w wr
set_option maxHeartbeats 4000000 in
theorem stays_any (va vk : Value) (ks ls : List KE) (base : Nat) (w : World) (hv : ChainAt w va ls) (hk : ChainAt w vk ks) (hs : pureL ls = pureL ks) (hw : ∀ y ∈ ls, WideKE w base y) (hb : ∀ y ∈ ls, y.p.sec.length ≤ 131072) (hl : ks.length ≤ 1000000) :
    Calls Try.prog 12 #[va, vk] w fun e w' => e = .returned (.bool true) ∧ Touch (fun _ => False) w w' := by
  obtain ⟨aa, ac, rfl, -⟩ := ValsAt.form hv.vals
  obtain ⟨ka, kc, rfl, -⟩ := ValsAt.form hk.vals
  have hll : ls.length = ks.length := by have := congrArg List.length hs; simpa using this
  have HV' : Hid (∀ w', Touch (fun _ => False) w w' → ChainAt w' (.slice aa ls.length ac) ls) := fun w' t => hv.keep t
  have HK' : Hid (∀ w', Touch (fun _ => False) w w' → ChainAt w' (.slice ka ks.length kc) ks) := fun w' t => hk.keep t
  have HW : Hid (∀ w', Touch (fun _ => False) w w' → ∀ (k : Nat) (x : KE), ks[k]? = some x → ∃ g, ls[k]? = some ⟨x.p, some ⟨g, 0, none⟩, x.p.sec.length + 64⟩ ∧ x.p.sec.length ≤ 131072 ∧ w'.heap[g]? = some (.cells (bytesOf (x.p.sec ++ spareMarks x.p.sec.length)).toArray 5 (0, 0))) := by
    intro w' t k x hx
    have hlt := (List.getElem?_eq_some_iff.mp hx).1
    have hy : ls[k]? = some (ls[k]'(by omega)) := List.getElem?_eq_getElem (by omega)
    generalize ls[k]'(by omega) = y at hy
    have hp : y.p = x.p := by
      have e := congrArg (fun l => l[k]?) hs
      simp only [List.getElem?_map, hx, hy, Option.map_some, Option.some.injEq] at e
      exact e
    have hm := List.mem_of_getElem? hy
    obtain ⟨g, h1, h2, h3, h4⟩ := (hw y hm).keep t (fun _ _ _ h => h)
    have hb' := hb y hm
    obtain ⟨p, a, c⟩ := y
    dsimp only at hp h1 h2 h4 hb'
    subst hp h1 h2
    exact ⟨g, hy, hb', h4⟩
  rw [hll] at HV' ⊢
  clear hv hk hw hb hs
  go_enter Try.func12, Try.ntmps12
  go_wp2_with fail
  go_loopg [5] ks.length (fun gg s5 wr => StyR ks w gg s5 wr)
  case atStart => exact ⟨0, by omega, by omega, rfl, Touch.refl _ _⟩
  case round =>
    obtain ⟨k, hk, hg, rfl, tr⟩ := hrel.out
    have TR : Hid (Touch (fun _ => False) w wr) := tr
    clear tr hrel
    by_cases hlt : k < ks.length
    · have hlt' : (k : Int) < (ks.length : Int) := by omega
      have hk00 : (0 : Int) ≤ (k : Int) := by omega
      have hkw : wrap64 ((k : Int) + 1) = (k : Int) + 1 := by unfold wrap64; omega
      obtain ⟨x, hx⟩ : ∃ x, ks[k]? = some x := ⟨ks[k], by simp [hlt]⟩
      obtain ⟨g, hy, hbx, hbl⟩ := HW.out wr TR.out k x hx
      obtain ⟨ox, gR, off, cR, eR, hcell⟩ := ChainAt.one (HK'.out wr TR.out) hx
      cases eR
      obtain ⟨-, gA, oA, cA, eA, hcela⟩ := ChainAt.one (HV'.out wr TR.out) hy
      rw [hll] at eA
      cases eA
      have e0 : wr.cell? ⟨gR, off + k * 7, none⟩ = some (.int .u8 x.p.id) := by exact hcell 0 _ rfl
      have e1 : wr.cell? ⟨gR, off + k * 7 + 1, none⟩ = some (.int .u16 x.p.kind) := by rw [Nat.add_assoc]; exact hcell 1 _ rfl
      have e2 : wr.cell? ⟨gR, off + k * 7 + 2, none⟩ = some (.slice x.a x.p.sec.length x.c) := by rw [Nat.add_assoc]; exact hcell 2 _ rfl
      have e3 : wr.cell? ⟨gR, off + k * 7 + 3, none⟩ = some (.int .i64 x.p.sf) := by rw [Nat.add_assoc]; exact hcell 3 _ rfl
      have e6 : wr.cell? ⟨gR, off + k * 7 + 6, none⟩ = some (.int .i64 x.p.tu) := by rw [Nat.add_assoc]; exact hcell 6 _ rfl
      have f0 : wr.cell? ⟨gA, oA + k * 7, none⟩ = some (.int .u8 x.p.id) := by exact hcela 0 _ rfl
      have f1 : wr.cell? ⟨gA, oA + k * 7 + 1, none⟩ = some (.int .u16 x.p.kind) := by rw [Nat.add_assoc]; exact hcela 1 _ rfl
      have f2 : wr.cell? ⟨gA, oA + k * 7 + 2, none⟩ = some (.slice (some ⟨g, 0, none⟩) x.p.sec.length (x.p.sec.length + 64)) := by rw [Nat.add_assoc]; exact hcela 2 _ rfl
      have f3 : wr.cell? ⟨gA, oA + k * 7 + 3, none⟩ = some (.int .i64 x.p.sf) := by rw [Nat.add_assoc]; exact hcela 3 _ rfl
      have f6 : wr.cell? ⟨gA, oA + k * 7 + 6, none⟩ = some (.int .i64 x.p.tu) := by rw [Nat.add_assoc]; exact hcela 6 _ rfl
      have HEQ : Hid (∀ w', Touch (fun _ => False) wr w' → Calls Try.prog 31 #[.slice (some ⟨g, 0, none⟩) x.p.sec.length (x.p.sec.length + 64), .slice x.a x.p.sec.length x.c] w' fun e w'' => e = .returned (.bool true) ∧ Touch (fun _ => False) w' w'') := fun w' t =>
        (eq_true _ _ x.p.sec w' (WideKE.row (x := ⟨x.p, some ⟨g, 0, none⟩, x.p.sec.length + 64⟩) (base := 0) ⟨g, rfl, rfl, Nat.zero_le _, t.heapN hbl⟩ hbx) (ox.arg.keep t (fun _ _ h => h))).mono fun e w'' ⟨h1, n, h2⟩ => ⟨h1, h2 ▸ (Touch.refl _ _).drewN n⟩
      have HSP : Hid (∀ w', Touch (fun _ => False) wr w' → Calls Try.prog 32 #[.slice (some ⟨g, 0, none⟩) x.p.sec.length (x.p.sec.length + 64)] w' fun e w'' => e = .returned (.bool true) ∧ Touch (fun _ => False) w' w'') := fun w' t =>
        (spare_any g x.p.sec w' (t.heapN hbl) (by omega)).mono fun e w'' ⟨h1, h2⟩ => ⟨h1, h2 ▸ Touch.refl _ _⟩
      have c0 := aft_cell e0
      have c1 := aft_cell e1
      have c2 := aft_cell e2
      have c3 := aft_cell e3
      have c6 := aft_cell e6
      have d0 := aft_cell f0
      have d1 := aft_cell f1
      have d2 := aft_cell f2
      have d3 := aft_cell f3
      have d6 := aft_cell f6
      clear hcell hcela hx hy ox hbl
      go_upto_region 4 with fail
      refine wp_region_aft (by kernel_rfl) (by kernel_rfl) ?_
      dsimp only [List.append]
      repeat (first | go_big_quiet_skip | (go_big_quiet_want; go_big_quiet_op; first | go_big_quiet_on | (refine Exists.intro _ ⟨fun _ => rfl, ?_⟩; go_big_quiet_on)))
      go_big_quiet_want; go_big_quiet_op; refine Exists.intro _ ⟨fun u => Aft.call (HEQ.out _ u.gr), ?_⟩; go_big_quiet_on
      repeat (first | go_big_quiet_skip | (go_big_quiet_want; go_big_quiet_op; first | go_big_quiet_on | (refine Exists.intro _ ⟨fun _ => rfl, ?_⟩; go_big_quiet_on)))
      go_big_quiet_want; go_big_quiet_op; refine Exists.intro _ ⟨fun u => Aft.call (HSP.out _ u.gr), ?_⟩; go_big_quiet_on
      repeat (first | go_big_quiet_skip | (go_big_quiet_want; go_big_quiet_op; first | go_big_quiet_on | (refine Exists.intro _ ⟨fun _ => rfl, ?_⟩; go_big_quiet_on)))
      refine wpQuiet_nil ?_
      rintro wq ⟨⟨_, hgq⟩, rfl⟩
      have T3 : Hid (Touch (fun _ => False) w wq) := TR.out.trans hgq
      clear hgq c0 c1 c2 c3 c6 d0 d1 d2 d3 d6 e0 e1 e2 e3 e6 f0 f1 f2 f3 f6
      go_wp2_with fail
      go_roundg (ks.length - (k + 1))
      case measure => omega
      case rel => exact ⟨k + 1, by omega, by omega, by go_num, T3.out⟩
    · have hlt' : ¬ (k : Int) < (ks.length : Int) := by omega
      go_wp2
      go_ret
      exact ⟨rfl, TR.out⟩
end Go.Proofs.Ythilfealloakdaa

namespace Go.Proofs.Ythilfealloakdaa
open Go.RowKit
set_option linter.unusedVariables false
set_option maxRecDepth 100000

def mayB (kd : Int) (kn : Nat) (sf su tf tu : Int) : Bool := (spanB sf su && spanB tf tu) && decide (1 ≤ (kn : Int) ∧ (kn : Int) ≤ longN kd)
theorem mayB_iff {kd : Int} {kn : Nat} {sf su tf tu : Int} : mayB kd kn sf su tf tu = true ↔ ((0 ≤ sf ∧ sf ≤ su) ∧ (0 ≤ tf ∧ tf ≤ tu)) ∧ 1 ≤ (kn : Int) ∧ (kn : Int) ≤ longN kd := by
  simp [mayB, spanB]
set_option maxHeartbeats 2000000 in
theorem rmay_1 (w : World) (i : Int) (ka : Option Addr) (kn kc : Nat) (sf su tf tu : Int) :
    Calls Try.prog 27 #[.agg #[.int .u8 i, .int .u16 1, .slice ka kn kc, .int .i64 sf, .int .i64 su, .int .i64 tf, .int .i64 tu]] w fun e w' => e = .returned (.bool (mayB 1 kn sf su tf tu)) ∧ Touch (fun _ => False) w w' := by
  by_cases h8 : (8 : Int) < (kn : Int)
  · rw [show mayB 1 kn sf su tf tu = false from Bool.eq_false_iff.2 (fun h => by have h := mayB_iff.1 h; rw [show longN 1 = 8 from rfl] at h; omega)]
    go_enter Try.func27, Try.ntmps27
    go_wp2
    go_ret
    exact ⟨rfl, (Touch.refl _ _).alloc _⟩
  by_cases h0 : (kn : Int) = 0
  · rw [show mayB 1 kn sf su tf tu = false from Bool.eq_false_iff.2 (fun h => by have h := mayB_iff.1 h; rw [show longN 1 = 8 from rfl] at h; omega)]
    go_enter Try.func27, Try.ntmps27
    go_wp2
    go_ret
    exact ⟨rfl, (Touch.refl _ _).alloc _⟩
  by_cases ha : 0 ≤ sf
  rotate_left
  · rw [show mayB 1 kn sf su tf tu = false from Bool.eq_false_iff.2 (fun h => by have h := mayB_iff.1 h; rw [show longN 1 = 8 from rfl] at h; omega)]
    go_enter Try.func27, Try.ntmps27
    go_wp2
    go_ret
    exact ⟨rfl, (Touch.refl _ _).alloc _⟩
  by_cases hb : sf ≤ su
  rotate_left
  · rw [show mayB 1 kn sf su tf tu = false from Bool.eq_false_iff.2 (fun h => by have h := mayB_iff.1 h; rw [show longN 1 = 8 from rfl] at h; omega)]
    go_enter Try.func27, Try.ntmps27
    go_wp2
    go_ret
    exact ⟨rfl, (Touch.refl _ _).alloc _⟩
  by_cases hc : 0 ≤ tf
  rotate_left
  · rw [show mayB 1 kn sf su tf tu = false from Bool.eq_false_iff.2 (fun h => by have h := mayB_iff.1 h; rw [show longN 1 = 8 from rfl] at h; omega)]
    go_enter Try.func27, Try.ntmps27
    go_wp2
    go_ret
    exact ⟨rfl, (Touch.refl _ _).alloc _⟩
  by_cases hd : tf ≤ tu
  rotate_left
  · rw [show mayB 1 kn sf su tf tu = false from Bool.eq_false_iff.2 (fun h => by have h := mayB_iff.1 h; rw [show longN 1 = 8 from rfl] at h; omega)]
    go_enter Try.func27, Try.ntmps27
    go_wp2
    go_ret
    exact ⟨rfl, (Touch.refl _ _).alloc _⟩
  rw [show mayB 1 kn sf su tf tu = true from mayB_iff.2 (by rw [show longN 1 = 8 from rfl]; omega)]
  go_enter Try.func27, Try.ntmps27
  go_wp2
  go_ret
  exact ⟨rfl, (Touch.refl _ _).alloc _⟩
set_option maxHeartbeats 2000000 in
theorem rmay_2 (w : World) (i : Int) (ka : Option Addr) (kn kc : Nat) (sf su tf tu : Int) :
    Calls Try.prog 27 #[.agg #[.int .u8 i, .int .u16 2, .slice ka kn kc, .int .i64 sf, .int .i64 su, .int .i64 tf, .int .i64 tu]] w fun e w' => e = .returned (.bool (mayB 2 kn sf su tf tu)) ∧ Touch (fun _ => False) w w' := by
  by_cases h8 : (16 : Int) < (kn : Int)
  · rw [show mayB 2 kn sf su tf tu = false from Bool.eq_false_iff.2 (fun h => by have h := mayB_iff.1 h; rw [show longN 2 = 16 from rfl] at h; omega)]
    go_enter Try.func27, Try.ntmps27
    go_wp2
    go_ret
    exact ⟨rfl, (Touch.refl _ _).alloc _⟩
  by_cases h0 : (kn : Int) = 0
  · rw [show mayB 2 kn sf su tf tu = false from Bool.eq_false_iff.2 (fun h => by have h := mayB_iff.1 h; rw [show longN 2 = 16 from rfl] at h; omega)]
    go_enter Try.func27, Try.ntmps27
    go_wp2
    go_ret
    exact ⟨rfl, (Touch.refl _ _).alloc _⟩
  by_cases ha : 0 ≤ sf
  rotate_left
  · rw [show mayB 2 kn sf su tf tu = false from Bool.eq_false_iff.2 (fun h => by have h := mayB_iff.1 h; rw [show longN 2 = 16 from rfl] at h; omega)]
    go_enter Try.func27, Try.ntmps27
    go_wp2
    go_ret
    exact ⟨rfl, (Touch.refl _ _).alloc _⟩
  by_cases hb : sf ≤ su
  rotate_left
  · rw [show mayB 2 kn sf su tf tu = false from Bool.eq_false_iff.2 (fun h => by have h := mayB_iff.1 h; rw [show longN 2 = 16 from rfl] at h; omega)]
    go_enter Try.func27, Try.ntmps27
    go_wp2
    go_ret
    exact ⟨rfl, (Touch.refl _ _).alloc _⟩
  by_cases hc : 0 ≤ tf
  rotate_left
  · rw [show mayB 2 kn sf su tf tu = false from Bool.eq_false_iff.2 (fun h => by have h := mayB_iff.1 h; rw [show longN 2 = 16 from rfl] at h; omega)]
    go_enter Try.func27, Try.ntmps27
    go_wp2
    go_ret
    exact ⟨rfl, (Touch.refl _ _).alloc _⟩
  by_cases hd : tf ≤ tu
  rotate_left
  · rw [show mayB 2 kn sf su tf tu = false from Bool.eq_false_iff.2 (fun h => by have h := mayB_iff.1 h; rw [show longN 2 = 16 from rfl] at h; omega)]
    go_enter Try.func27, Try.ntmps27
    go_wp2
    go_ret
    exact ⟨rfl, (Touch.refl _ _).alloc _⟩
  rw [show mayB 2 kn sf su tf tu = true from mayB_iff.2 (by rw [show longN 2 = 16 from rfl]; omega)]
  go_enter Try.func27, Try.ntmps27
  go_wp2
  go_ret
  exact ⟨rfl, (Touch.refl _ _).alloc _⟩
set_option maxHeartbeats 2000000 in
theorem rmay_0 (w : World) (i : Int) (kd : Int) (ka : Option Addr) (kn kc : Nat) (sf su tf tu : Int) (h1 : ¬ kd = 1) (h2 : ¬ kd = 2) :
    Calls Try.prog 27 #[.agg #[.int .u8 i, .int .u16 kd, .slice ka kn kc, .int .i64 sf, .int .i64 su, .int .i64 tf, .int .i64 tu]] w fun e w' => e = .returned (.bool (mayB kd kn sf su tf tu)) ∧ Touch (fun _ => False) w w' := by
  by_cases hl : kd < 1
  · rw [show mayB kd kn sf su tf tu = false from Bool.eq_false_iff.2 (fun h => by have h := mayB_iff.1 h; rw [show longN kd = 0 by simp [longN, h1, h2]] at h; omega)]
    go_enter Try.func27, Try.ntmps27
    go_wp2
    go_ret
    exact ⟨rfl, (Touch.refl _ _).alloc _⟩
  · have hg : 2 < kd := by omega
    rw [show mayB kd kn sf su tf tu = false from Bool.eq_false_iff.2 (fun h => by have h := mayB_iff.1 h; rw [show longN kd = 0 by simp [longN, h1, h2]] at h; omega)]
    go_enter Try.func27, Try.ntmps27
    go_wp2
    go_ret
    exact ⟨rfl, (Touch.refl _ _).alloc _⟩
theorem rmay_any (x : KE) (w : World) : Calls Try.prog 27 #[x.agg] w fun e w' => e = .returned (.bool x.p.may) ∧ Touch (fun _ => False) w w' := by
  obtain ⟨⟨i, kd, sec, sf, su, tf, tu⟩, ka, kc⟩ := x
  by_cases h1 : kd = 1
  · subst h1; exact rmay_1 w i ka sec.length kc sf su tf tu
  · by_cases h2 : kd = 2
    · subst h2; exact rmay_2 w i ka sec.length kc sf su tf tu
    · exact rmay_0 w i kd ka sec.length kc sf su tf tu h1 h2
end Go.Proofs.Ythilfealloakdaa
