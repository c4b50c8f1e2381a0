/- stays: keys are as they were. -/
import Derived.Test.YthilfealloakdaaGreatAuMay
import Derived.Test.YthilfealloakdaaGreatAuChk
import Derived.Test.YthilfealloakdaaGreatNumB
import Derived.Test.YthilfealloakdaaGreatAuGiv
import Derived.Test.YthilfealloakdaaGreatWideB
import Derived.Deep.LoopGhost
import Derived.Deep.DeepCutAuto
import Derived.WalkKit
import Derived.Test.YthilfealloakdaaGreatDig1
namespace Go.Proofs.YthilfealloakdaaGreat
open Go.RowKit
set_option linter.unusedVariables false
set_option maxRecDepth 100000

structure StyR (ks : List KE) (w : World) (gg : Nat) (s5 : Value) (wr : World) : Prop where
  out : ∃ k : Nat, k ≤ ks.length ∧ ks.length - k ≤ gg ∧ s5 = .int .i64 k ∧ Touch (fun _ => False) w wr
set_option maxHeartbeats 4000000 in
theorem stays_any (va vk : Value) (ks ls : List KE) (base : Nat) (w : World) (hv : ChainAt w va ls) (hk : ChainAt w vk ks) (hs : pureL ls = pureL ks) (hw : ∀ y ∈ ls, WideKE w base y) (hb : ∀ y ∈ ls, y.p.sec.length ≤ 131072) (hl : ks.length ≤ 1000000) :
    Calls Tryz.prog 14 #[va, vk] w fun e w' => e = .returned (.bool true) ∧ Touch (fun _ => False) w w' := by
  obtain ⟨aa, ac, rfl, -⟩ := ValsAt.form hv.vals
  obtain ⟨ka, kc, rfl, -⟩ := ValsAt.form hk.vals
  have hll : ls.length = ks.length := by have := congrArg List.length hs; simpa using this
  have HV' : Hid (∀ w', Touch (fun _ => False) w w' → ChainAt w' (.slice aa ls.length ac) ls) := fun w' t => hv.keep t
  have HK' : Hid (∀ w', Touch (fun _ => False) w w' → ChainAt w' (.slice ka ks.length kc) ks) := fun w' t => hk.keep t
  have HW : Hid (∀ w', Touch (fun _ => False) w w' → ∀ (k : Nat) (x : KE), ks[k]? = some x → ∃ g, ls[k]? = some ⟨x.p, some ⟨g, 0, none⟩, x.p.sec.length + 64⟩ ∧ x.p.sec.length ≤ 131072 ∧ w'.heap[g]? = some (.cells (bytesOf (x.p.sec ++ spareMarks x.p.sec.length)).toArray 5 (0, 0))) := by
    intro w' t k x hx
    have hlt := (List.getElem?_eq_some_iff.mp hx).1
    have hy : ls[k]? = some (ls[k]'(by omega)) := List.getElem?_eq_getElem (by omega)
    generalize ls[k]'(by omega) = y at hy
    have hp : y.p = x.p := by
      have e := congrArg (fun l => l[k]?) hs
      simp only [List.getElem?_map, hx, hy, Option.map_some, Option.some.injEq] at e
      exact e
    have hm := List.mem_of_getElem? hy
    obtain ⟨g, h1, h2, h3, h4⟩ := (hw y hm).keep t (fun _ _ _ h => h)
    have hb' := hb y hm
    obtain ⟨p, a, c⟩ := y
    dsimp only at hp h1 h2 h4 hb'
    subst hp h1 h2
    exact ⟨g, hy, hb', h4⟩
  rw [hll] at HV' ⊢
  clear hv hk hw hb hs
  go_enter Tryz.func14, Tryz.ntmps14
  go_wp2_with fail
  go_loopg [5] ks.length (fun gg s5 wr => StyR ks w gg s5 wr)
  case atStart => exact ⟨0, by omega, by omega, rfl, Touch.refl _ _⟩
  case round =>
    obtain ⟨k, hk, hg, rfl, tr⟩ := hrel.out
    have TR : Hid (Touch (fun _ => False) w wr) := tr
    clear tr hrel
    by_cases hlt : k < ks.length
    · have hlt' : (k : Int) < (ks.length : Int) := by omega
      have hk00 : (0 : Int) ≤ (k : Int) := by omega
      have hkw : wrap64 ((k : Int) + 1) = (k : Int) + 1 := by unfold wrap64; omega
      obtain ⟨x, hx⟩ : ∃ x, ks[k]? = some x := ⟨ks[k], by simp [hlt]⟩
      obtain ⟨g, hy, hbx, hbl⟩ := HW.out wr TR.out k x hx
      obtain ⟨ox, gR, off, cR, eR, hcell⟩ := ChainAt.one (HK'.out wr TR.out) hx
      cases eR
      obtain ⟨-, gA, oA, cA, eA, hcela⟩ := ChainAt.one (HV'.out wr TR.out) hy
      rw [hll] at eA
      cases eA
      have e0 : wr.cell? ⟨gR, off + k * 7, none⟩ = some (.int .u8 x.p.id) := by exact hcell 0 _ rfl
      have e1 : wr.cell? ⟨gR, off + k * 7 + 1, none⟩ = some (.int .u16 x.p.kind) := by rw [Nat.add_assoc]; exact hcell 1 _ rfl
      have e2 : wr.cell? ⟨gR, off + k * 7 + 2, none⟩ = some (.slice x.a x.p.sec.length x.c) := by rw [Nat.add_assoc]; exact hcell 2 _ rfl
      have e3 : wr.cell? ⟨gR, off + k * 7 + 3, none⟩ = some (.int .i64 x.p.sf) := by rw [Nat.add_assoc]; exact hcell 3 _ rfl
      have e6 : wr.cell? ⟨gR, off + k * 7 + 6, none⟩ = some (.int .i64 x.p.tu) := by rw [Nat.add_assoc]; exact hcell 6 _ rfl
      have f0 : wr.cell? ⟨gA, oA + k * 7, none⟩ = some (.int .u8 x.p.id) := by exact hcela 0 _ rfl
      have f1 : wr.cell? ⟨gA, oA + k * 7 + 1, none⟩ = some (.int .u16 x.p.kind) := by rw [Nat.add_assoc]; exact hcela 1 _ rfl
      have f2 : wr.cell? ⟨gA, oA + k * 7 + 2, none⟩ = some (.slice (some ⟨g, 0, none⟩) x.p.sec.length (x.p.sec.length + 64)) := by rw [Nat.add_assoc]; exact hcela 2 _ rfl
      have f3 : wr.cell? ⟨gA, oA + k * 7 + 3, none⟩ = some (.int .i64 x.p.sf) := by rw [Nat.add_assoc]; exact hcela 3 _ rfl
      have f6 : wr.cell? ⟨gA, oA + k * 7 + 6, none⟩ = some (.int .i64 x.p.tu) := by rw [Nat.add_assoc]; exact hcela 6 _ rfl
      have HEQ : Hid (∀ w', Touch (fun _ => False) wr w' → Calls Tryz.prog 12 #[.slice (some ⟨g, 0, none⟩) x.p.sec.length (x.p.sec.length + 64), .slice x.a x.p.sec.length x.c] w' fun e w'' => e = .returned (.bool true) ∧ Touch (fun _ => False) w' w'') := fun w' t =>
        (eq_true _ _ x.p.sec w' (WideKE.row (x := ⟨x.p, some ⟨g, 0, none⟩, x.p.sec.length + 64⟩) (base := 0) ⟨g, rfl, rfl, Nat.zero_le _, t.heapN hbl⟩ hbx) (ox.arg.keep t (fun _ _ h => h))).mono fun e w'' ⟨h1, n, h2⟩ => ⟨h1, h2 ▸ (Touch.refl _ _).drewN n⟩
      have HSP : Hid (∀ w', Touch (fun _ => False) wr w' → Calls Tryz.prog 13 #[.slice (some ⟨g, 0, none⟩) x.p.sec.length (x.p.sec.length + 64)] w' fun e w'' => e = .returned (.bool true) ∧ Touch (fun _ => False) w' w'') := fun w' t =>
        (spare_any g x.p.sec w' (t.heapN hbl) (by omega)).mono fun e w'' ⟨h1, h2⟩ => ⟨h1, h2 ▸ Touch.refl _ _⟩
      have c0 := aft_cell e0
      have c1 := aft_cell e1
      have c2 := aft_cell e2
      have c3 := aft_cell e3
      have c6 := aft_cell e6
      have d0 := aft_cell f0
      have d1 := aft_cell f1
      have d2 := aft_cell f2
      have d3 := aft_cell f3
      have d6 := aft_cell f6
      clear hcell hcela hx hy ox hbl
      go_upto_region 4 with fail
      refine wp_region_aft (by kernel_rfl) (by kernel_rfl) ?_
      dsimp only [List.append]
      repeat (first | go_big_quiet_skip | (go_big_quiet_want; go_big_quiet_op; first | go_big_quiet_on | (refine Exists.intro _ ⟨fun _ => rfl, ?_⟩; go_big_quiet_on)))
      go_big_quiet_want; go_big_quiet_op; refine Exists.intro _ ⟨fun u => Aft.call (HEQ.out _ u.gr), ?_⟩; go_big_quiet_on
      repeat (first | go_big_quiet_skip | (go_big_quiet_want; go_big_quiet_op; first | go_big_quiet_on | (refine Exists.intro _ ⟨fun _ => rfl, ?_⟩; go_big_quiet_on)))
      go_big_quiet_want; go_big_quiet_op; refine Exists.intro _ ⟨fun u => Aft.call (HSP.out _ u.gr), ?_⟩; go_big_quiet_on
      repeat (first | go_big_quiet_skip | (go_big_quiet_want; go_big_quiet_op; first | go_big_quiet_on | (refine Exists.intro _ ⟨fun _ => rfl, ?_⟩; go_big_quiet_on)))
      refine wpQuiet_nil ?_
      rintro wq ⟨⟨_, hgq⟩, rfl⟩
      have T3 : Hid (Touch (fun _ => False) w wq) := TR.out.trans hgq
      clear hgq c0 c1 c2 c3 c6 d0 d1 d2 d3 d6 e0 e1 e2 e3 e6 f0 f1 f2 f3 f6
      go_wp2_with fail
      go_roundg (ks.length - (k + 1))
      case measure => omega
      case rel => exact ⟨k + 1, by omega, by omega, by go_num, T3.out⟩
    · have hlt' : ¬ (k : Int) < (ks.length : Int) := by omega
      go_wp2
      go_ret
      exact ⟨rfl, TR.out⟩
end Go.Proofs.YthilfealloakdaaGreat

namespace Go.Proofs.YthilfealloakdaaGreat
set_option linter.unusedVariables false

/-- How many addresses a prefix of n bits has. -/
def psz (n : Int) : Int := 2 ^ (32 - n).toNat
/-- The mask of n bits; 0 beyond 32. -/
def pmask (n : Int) : Int := if n ≤ 32 then 4294967296 - psz n else 0
/-- The first n bits of an address, noughts behind. -/
def pcut (a n : Int) : Int := a - a % psz n
/-- Is it a prefix? -/
def pis (a n : Int) : Bool := decide (n ≤ 32 ∧ a % psz n = 0)
/-- Does the prefix a/n have x? -/
def phas (a n x : Int) : Bool := decide (n ≤ 32 ∧ pcut x n = a)
def pcov (a n b m : Int) : Bool := decide (pis b m = true ∧ n ≤ m ∧ phas a n b = true)
def pover (a n b m : Int) : Bool := decide (pcov a n b m = true ∨ pcov b m a n = true)

theorem psz_nat (n : Int) : psz n = ((2 ^ (32 - n).toNat : Nat) : Int) := by unfold psz; exact (Int.natCast_pow 2 _).symm
theorem psz_pos (n : Int) : 0 < psz n := by rw [psz_nat]; exact Int.ofNat_lt.2 (Nat.two_pow_pos _)
theorem psz_le {n : Int} (h : 0 ≤ n) : psz n ≤ 4294967296 := by
  rw [psz_nat]
  have : 2 ^ (32 - n).toNat ≤ 2 ^ 32 := Nat.pow_le_pow_right (by omega) (by omega)
  have e : (2 : Nat) ^ 32 = 4294967296 := by decide
  omega
theorem psz_add {n m : Int} (h1 : n ≤ m) (h2 : m ≤ 32) : psz n = psz m * 2 ^ (m - n).toNat := by
  unfold psz
  rw [← Int.pow_add]
  congr 1; omega
theorem psz_dvd {n m : Int} (h1 : n ≤ m) (h2 : m ≤ 32) : psz m ∣ psz n := ⟨_, psz_add h1 h2⟩
theorem psz_dvd_all {n : Int} (h1 : 0 ≤ n) (h2 : n ≤ 32) : psz n ∣ 4294967296 := by
  have := psz_dvd h1 h2
  rwa [show psz 0 = 4294967296 by decide] at this
theorem psz_lt {n m : Int} (h1 : n < m) (h2 : m ≤ 32) : psz m < psz n := by
  rw [psz_nat, psz_nat]
  exact Int.ofNat_lt.2 (Nat.pow_lt_pow_right (by omega) (by omega))
theorem psz_32 : psz 32 = 1 := by decide

theorem nat_and_high (a k : Nat) (ha : a < 2 ^ 32) (hk : k ≤ 32) : a &&& (2 ^ 32 - 2 ^ k) = a - a % 2 ^ k := by
  have e : a - a % 2 ^ k = 2 ^ k * (a / 2 ^ k) := by have := Nat.div_add_mod a (2 ^ k); omega
  have hp : 0 < 2 ^ k := Nat.two_pow_pos k
  have e2 : 2 ^ 32 - 2 ^ k = 2 ^ 32 - ((2 ^ k - 1) + 1) := by omega
  have hlt : 2 ^ k - 1 < 2 ^ 32 := by have := Nat.pow_le_pow_right (n := 2) (by omega) hk; omega
  rw [e]
  refine Nat.eq_of_testBit_eq fun i => ?_
  rw [Nat.testBit_and, e2, Nat.testBit_two_pow_sub_succ hlt, Nat.testBit_two_pow_sub_one, Nat.testBit_two_pow_mul]
  by_cases hi : k ≤ i
  · rw [Nat.testBit_div_two_pow, Nat.sub_add_cancel hi]
    by_cases h32 : i < 32
    · simp [hi, h32]
    · have : a.testBit i = false := Nat.testBit_lt_two_pow (Nat.lt_of_lt_of_le ha (Nat.pow_le_pow_right (by omega) (by omega)))
      simp [this]
  · simp [hi]; intros; omega

theorem pmask_bd {n : Int} (h : 0 ≤ n) : 0 ≤ pmask n ∧ pmask n < 4294967296 := by
  unfold pmask
  have := psz_pos n; have := psz_le h
  split <;> omega
theorem pmask_le {n : Int} (h : n ≤ 32) : pmask n = 4294967296 - psz n := by rw [pmask, if_pos h]
theorem pmask_gt {n : Int} (h : 32 < n) : pmask n = 0 := by rw [pmask, if_neg (by omega)]

theorem pcut_bd {a n : Int} (h0 : 0 ≤ a) (h1 : a < 4294967296) : 0 ≤ pcut a n ∧ pcut a n < 4294967296 := by
  unfold pcut
  have := psz_pos n
  have h2 := Int.emod_nonneg a (show psz n ≠ 0 by omega)
  have h3 : a % psz n ≤ a := by
    rcases Int.lt_or_le a (psz n) with h | h
    · rw [Int.emod_eq_of_lt h0 h]; omega
    · have := Int.emod_lt_of_pos a (show 0 < psz n by omega); omega
  omega

/-- The address and the mask, bit by bit, is the cut one. -/
theorem and_mask {a n : Int} (h0 : 0 ≤ a) (h1 : a < 4294967296) (hn0 : 0 ≤ n) (hn : n ≤ 32) : bits .and .u32 a (pmask n) = pcut a n := by
  have hb := pmask_bd hn0
  rw [u32_and a _ h0 h1 hb.1 hb.2, pmask_le hn]
  obtain ⟨A, rfl⟩ : ∃ A : Nat, a = A := ⟨a.toNat, by omega⟩
  unfold pcut
  rw [psz_nat]
  have hp : 2 ^ (32 - n).toNat ≤ 2 ^ 32 := Nat.pow_le_pow_right (by omega) (by omega)
  have e : (4294967296 - ((2 ^ (32 - n).toNat : Nat) : Int)).toNat = 2 ^ 32 - 2 ^ (32 - n).toNat := by omega
  rw [e, Int.toNat_natCast, nat_and_high A _ (by omega) (by omega)]
  have := Nat.mod_le A (2 ^ (32 - n).toNat)
  omega

theorem pcut_mod {a n : Int} : pcut a n % psz n = 0 := by
  unfold pcut; exact Int.emod_eq_zero_of_dvd (Int.dvd_self_sub_emod)
theorem pcut_self {a n : Int} (h : a % psz n = 0) : pcut a n = a := by unfold pcut; omega
theorem pis_iff {a n : Int} : pis a n = true ↔ n ≤ 32 ∧ a % psz n = 0 := by simp [pis]
theorem phas_iff {a n x : Int} : phas a n x = true ↔ n ≤ 32 ∧ pcut x n = a := by simp [phas]
theorem phas_self (a n : Int) : phas a n a = pis a n := by
  rw [Bool.eq_iff_iff, phas_iff, pis_iff]
  unfold pcut
  constructor
  · rintro ⟨h, e⟩; exact ⟨h, by omega⟩
  · rintro ⟨h, e⟩; exact ⟨h, by omega⟩
theorem phas_pis {a n x : Int} (h : phas a n x = true) : pis a n = true := by
  obtain ⟨h1, h2⟩ := phas_iff.1 h
  exact pis_iff.2 ⟨h1, by rw [← h2]; exact pcut_mod⟩
/-- A prefix has just the addresses from its own on, so many. -/
theorem phas_range {a n x : Int} (hp : pis a n = true) : phas a n x = true ↔ a ≤ x ∧ x < a + psz n := by
  obtain ⟨h1, h2⟩ := pis_iff.1 hp
  rw [phas_iff]
  have hz := psz_pos n
  constructor
  · rintro ⟨_, e⟩
    unfold pcut at e
    have := Int.emod_nonneg x (show psz n ≠ 0 by omega)
    have := Int.emod_lt_of_pos x hz
    omega
  · rintro ⟨h3, h4⟩
    refine ⟨h1, ?_⟩
    unfold pcut
    have e : x = a + (x - a) := by omega
    have : x % psz n = x - a := by
      rw [e, Int.add_emod, h2, Int.zero_add, Int.emod_emod, Int.emod_eq_of_lt (by omega) (by omega)]; omega
    omega
theorem pcov_iff {a n b m : Int} : pcov a n b m = true ↔ pis b m = true ∧ n ≤ m ∧ phas a n b = true := by simp [pcov]
theorem pover_iff {a n b m : Int} : pover a n b m = true ↔ pcov a n b m = true ∨ pcov b m a n = true := by simp [pover]

/-- Two multiples of z are apart by z, if at all. -/
theorem step_le {z b c : Int} (hz : 0 < z) (hb : b % z = 0) (hc : c % z = 0) (h : b < c) : b + z ≤ c := by
  obtain ⟨k, rfl⟩ := Int.dvd_of_emod_eq_zero hb
  obtain ⟨j, rfl⟩ := Int.dvd_of_emod_eq_zero hc
  have : k < j := by
    rcases Int.lt_or_le k j with h' | h'
    · exact h'
    · have := Int.mul_le_mul_of_nonneg_left h' (Int.le_of_lt hz); omega
  have : z * (k + 1) ≤ z * j := Int.mul_le_mul_of_nonneg_left (by omega) (Int.le_of_lt hz)
  rw [Int.mul_add, Int.mul_one] at this
  exact this

/-- Covering, by the least and the greatest address. -/
theorem pcov_ends {a n b m : Int} : pcov a n b m = true ↔ pis a n = true ∧ pis b m = true ∧ a ≤ b ∧ b + psz m ≤ a + psz n := by
  rw [pcov_iff]
  constructor
  · rintro ⟨hb, hnm, hh⟩
    have ha := phas_pis hh
    obtain ⟨h3, h4⟩ := (phas_range ha).1 hh
    obtain ⟨ha1, ha2⟩ := pis_iff.1 ha
    obtain ⟨hb1, hb2⟩ := pis_iff.1 hb
    refine ⟨ha, hb, h3, step_le (psz_pos m) hb2 ?_ h4⟩
    have hd := psz_dvd hnm hb1
    have h5 : psz m ∣ a := Int.dvd_trans hd (Int.dvd_of_emod_eq_zero ha2)
    exact Int.emod_eq_zero_of_dvd (Int.dvd_add h5 hd)
  · rintro ⟨ha, hb, h3, h4⟩
    obtain ⟨ha1, ha2⟩ := pis_iff.1 ha
    have := psz_pos m
    refine ⟨hb, ?_, (phas_range ha).2 ⟨h3, by omega⟩⟩
    rcases Int.lt_or_le m n with h | h
    · have := psz_lt h ha1; omega
    · exact h
/-- Overlapping, likewise. -/
theorem pover_ends {a n b m : Int} : pover a n b m = true ↔ pis a n = true ∧ pis b m = true ∧ a < b + psz m ∧ b < a + psz n := by
  rw [pover_iff]
  have hpn := psz_pos n; have hpm := psz_pos m
  constructor
  · rintro (h | h)
    · obtain ⟨ha, hb, h3, h4⟩ := pcov_ends.1 h; exact ⟨ha, hb, by omega, by omega⟩
    · obtain ⟨hb, ha, h3, h4⟩ := pcov_ends.1 h; exact ⟨ha, hb, by omega, by omega⟩
  · rintro ⟨ha, hb, h3, h4⟩
    obtain ⟨ha1, ha2⟩ := pis_iff.1 ha
    obtain ⟨hb1, hb2⟩ := pis_iff.1 hb
    rcases Int.le_total n m with h | h
    · left
      have hd := psz_dvd h hb1
      have h5 : a % psz m = 0 := Int.emod_eq_zero_of_dvd (Int.dvd_trans hd (Int.dvd_of_emod_eq_zero ha2))
      have h6 : a ≤ b := by
        rcases Int.lt_or_le b a with h' | h'
        · have := step_le hpm hb2 h5 h'; omega
        · exact h'
      exact pcov_iff.2 ⟨hb, h, (phas_range ha).2 ⟨h6, h4⟩⟩
    · right
      have hd := psz_dvd h ha1
      have h5 : b % psz n = 0 := Int.emod_eq_zero_of_dvd (Int.dvd_trans hd (Int.dvd_of_emod_eq_zero hb2))
      have h6 : b ≤ a := by
        rcases Int.lt_or_le a b with h' | h'
        · have := step_le hpn ha2 h5 h'; omega
        · exact h'
      exact pcov_iff.2 ⟨ha, h, (phas_range hb).2 ⟨h6, h3⟩⟩
end Go.Proofs.YthilfealloakdaaGreat

namespace Go.Proofs.YthilfealloakdaaGreat
open Go.RowKit
set_option linter.unusedVariables false
set_option maxRecDepth 100000

/-- Of how many bits it is the mask. -/
def pfind (a : Int) : Option Nat := (List.range 33).find? fun n => pmask n == a
def pbn (a : Int) : Int := (((pfind a).getD 0 : Nat) : Int)
def pbok (a : Int) : Bool := (pfind a).isSome

theorem pmask_inj {j k : Nat} (hj : j ≤ 32) (hk : k ≤ 32) (h : pmask j = pmask k) : j = k := by
  rw [pmask_le (by omega), pmask_le (by omega)] at h
  rcases Nat.lt_trichotomy j k with h' | h' | h'
  · have := psz_lt (n := j) (m := k) (by omega) (by omega); omega
  · exact h'
  · have := psz_lt (n := k) (m := j) (by omega) (by omega); omega
theorem pfind_some {a : Int} {k : Nat} (hk : k ≤ 32) (h : pmask k = a) : pfind a = some k := by
  unfold pfind
  rw [List.find?_range_eq_some]
  refine ⟨by simp [h], by simp; omega, fun j hj => ?_⟩
  simp
  intro e
  have := pmask_inj (j := j) (k := k) (by omega) hk (by rw [e, h])
  omega
theorem pfind_none {a : Int} (h : ∀ k : Nat, k ≤ 32 → pmask k ≠ a) : pfind a = none := by
  unfold pfind
  rw [List.find?_eq_none]
  intro k hk
  simp at hk ⊢
  exact h k (by omega)

theorem shl_one (a : Int) (k : Nat) : a * 2 ^ k % 4294967296 * 2 % 4294967296 = a * 2 ^ (k + 1) % 4294967296 := by
  rw [Int.pow_succ, ← Int.mul_assoc]
  omega
theorem shl_32 (a : Int) : a * 2 ^ 32 % 4294967296 = 0 := by
  have e : (2 : Int) ^ 32 = 4294967296 := by decide
  rw [e]; omega

/-- The least shift that leaves nothing. -/
theorem pmask_shift {j k : Nat} (hj : j ≤ 32) : pmask j * 2 ^ k % 4294967296 = 0 ↔ j ≤ k := by
  rw [pmask_le (by omega), Int.sub_mul]
  have e : psz j * 2 ^ k = 2 ^ (32 - j + k) := by
    unfold psz
    rw [← Int.pow_add]
    congr 1; omega
  rw [e]
  constructor
  · intro h
    rcases Nat.lt_or_ge k j with h' | h'
    · have h1 : (2 : Int) ^ (32 - j + k) = ((2 ^ (32 - j + k) : Nat) : Int) := (Int.natCast_pow 2 _).symm
      have h2 : 2 ^ (32 - j + k) < 2 ^ 32 := Nat.pow_lt_pow_right (by omega) (by omega)
      have h3 : 0 < 2 ^ (32 - j + k) := Nat.two_pow_pos _
      have h4 : (2 : Nat) ^ 32 = 4294967296 := by decide
      rw [h1] at h
      omega
    · exact h'
  · intro h
    have h1 : (2 : Int) ^ (32 - j + k) = 4294967296 * 2 ^ (k - j) := by
      have e : (4294967296 : Int) = 2 ^ 32 := by decide
      rw [e, ← Int.pow_add]; congr 1; omega
    rw [h1, ← Int.mul_sub]
    exact Int.mul_emod_right _ _

theorem bits_at {a : Int} {k : Nat} (hk : k ≤ 32) (h0 : a * 2 ^ k % 4294967296 = 0) (hl : ∀ j : Nat, j < k → a * 2 ^ j % 4294967296 ≠ 0) : pfind a = if pmask k = a then some k else none := by
  split
  · rename_i h; exact pfind_some hk h
  · rename_i h
    refine pfind_none fun j hj e => h ?_
    have h1 : j ≤ k := (pmask_shift hj).1 (by rw [e]; exact h0)
    rcases Nat.lt_or_ge j k with h2 | h2
    · exact absurd ((pmask_shift (k := j) hj).2 (Nat.le_refl _)) (by rw [e]; exact hl j h2)
    · obtain rfl : j = k := by omega
      exact e

theorem none_next {p : Nat → Prop} {k : Nat} (h : ∀ j : Nat, j < k → ¬ p j) (hk : ¬ p k) : ∀ j : Nat, j < k + 1 → ¬ p j := by
  intro j hj
  rcases Nat.lt_or_ge j k with h' | h'
  · exact h j h'
  · obtain rfl : j = k := by omega
    exact hk

theorem pb_yes {a : Int} {k : Nat} (h : pfind a = some k) : pbn a = k ∧ pbok a = true := by simp [pbn, pbok, h]
theorem pb_no {a : Int} (h : pfind a = none) : pbn a = 0 ∧ pbok a = false := by simp [pbn, pbok, h]

end Go.Proofs.YthilfealloakdaaGreat

namespace Go.Proofs.YthilfealloakdaaGreat
open Go.RowKit
set_option linter.unusedVariables false
set_option maxRecDepth 100000

/-- A head's numbers. -/
structure HV where
  age : Int
  opts : Int
  typ : Int
  id : Int
  adv : Int
  seq : Int
  sum : Int
  len : Int
def HV.v (h : HV) : Value := .agg #[.int .u16 h.age, .int .u8 h.opts, .int .u8 h.typ, .int .u32 h.id, .int .u32 h.adv, .int .i32 h.seq, .int .u16 h.sum, .int .u16 h.len]
/-- Its age and number fit their kinds. -/
structure HV.Ok (h : HV) : Prop where
  a0 : 0 ≤ h.age
  a1 : h.age < 65536
  s0 : -2147483648 ≤ h.seq
  s1 : h.seq ≤ 2147483647
/-- Its sum fits. -/
def HV.OkS (h : HV) : Prop := 0 ≤ h.sum ∧ h.sum < 65536
/-- A key's numbers. -/
structure KV where
  typ : Int
  id : Int
  adv : Int
def KV.v (h : KV) : Value := .agg #[.int .u8 h.typ, .int .u32 h.id, .int .u32 h.adv]
structure KV.Ok (h : KV) : Prop where
  t : 0 ≤ h.typ ∧ h.typ < 256
  i : 0 ≤ h.id ∧ h.id < 4294967296
  a : 0 ≤ h.adv ∧ h.adv < 4294967296
structure Ky (w : World) (g : Nat) (h : KV) : Prop where
  c0 : w.cell? ⟨g, 0, none⟩ = some (.int .u8 h.typ)
  c1 : w.cell? ⟨g, 1, none⟩ = some (.int .u32 h.id)
  c2 : w.cell? ⟨g, 2, none⟩ = some (.int .u32 h.adv)
theorem Ky.keep {w w' : World} {g : Nat} {h : KV} (k : Ky w g h) (t : Touch (fun _ => False) w w') : Ky w' g h := ⟨t.cellN k.c0, t.cellN k.c1, t.cellN k.c2⟩
theorem Ky.new (w : World) (h : KV) (t : TypeId) : Ky (w.alloc (.cells #[.int .u8 h.typ, .int .u32 h.id, .int .u32 h.adv] t)) w.heap.size h :=
  ⟨by simp [go_sem], by simp [go_sem], by simp [go_sem]⟩
/-- It lies in block g. -/
structure Hd (w : World) (g : Nat) (h : HV) : Prop where
  c0 : w.cell? ⟨g, 0, none⟩ = some (.int .u16 h.age)
  c1 : w.cell? ⟨g, 1, none⟩ = some (.int .u8 h.opts)
  c2 : w.cell? ⟨g, 2, none⟩ = some (.int .u8 h.typ)
  c3 : w.cell? ⟨g, 3, none⟩ = some (.int .u32 h.id)
  c4 : w.cell? ⟨g, 4, none⟩ = some (.int .u32 h.adv)
  c5 : w.cell? ⟨g, 5, none⟩ = some (.int .i32 h.seq)
  c6 : w.cell? ⟨g, 6, none⟩ = some (.int .u16 h.sum)
  c7 : w.cell? ⟨g, 7, none⟩ = some (.int .u16 h.len)
theorem Hd.keep {w w' : World} {g : Nat} {h : HV} (k : Hd w g h) (t : Touch (fun _ => False) w w') : Hd w' g h :=
  ⟨t.cellN k.c0, t.cellN k.c1, t.cellN k.c2, t.cellN k.c3, t.cellN k.c4, t.cellN k.c5, t.cellN k.c6, t.cellN k.c7⟩
theorem Hd.new (w : World) (h : HV) (t : TypeId) :
    Hd (w.alloc (.cells #[.int .u16 h.age, .int .u8 h.opts, .int .u8 h.typ, .int .u32 h.id, .int .u32 h.adv, .int .i32 h.seq, .int .u16 h.sum, .int .u16 h.len] t)) w.heap.size h :=
  ⟨by simp [go_sem], by simp [go_sem], by simp [go_sem], by simp [go_sem], by simp [go_sem], by simp [go_sem], by simp [go_sem], by simp [go_sem]⟩
end Go.Proofs.YthilfealloakdaaGreat
