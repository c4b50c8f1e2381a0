/- Pure: a number's bytes, the highest first; and back. -/
import Derived.WalkKit
import Derived.Test.YtjjgbcjgmjggnaaGreatDoorParts
import Derived.Test.YtjjgbcjgmjggnaaGreatDoorDigRow
namespace Go.Proofs.YtjjgbcjgmjggnaaGreatDoor
set_option linter.unusedVariables false

def numBytes (n : Nat) (x : Int) : List Int := [x / 16777216 % 256, x / 65536 % 256, x / 256 % 256, x % 256].drop (4 - n)
theorem length_numBytes {n : Nat} (h : n ≤ 4) (x : Int) : (numBytes n x).length = n := by simp [numBytes]; omega
theorem numBytes_byte (n : Nat) (x : Int) : ∀ z ∈ numBytes n x, 0 ≤ z ∧ z < 256 := by
  intro z hz
  have := List.mem_of_mem_drop hz
  simp at this
  omega
theorem numBytes2 (x : Int) : numBytes 2 x = [x / 256 % 256, x % 256] := rfl
theorem numBytes4 (x : Int) : numBytes 4 x = [x / 16777216 % 256, x / 65536 % 256, x / 256 % 256, x % 256] := rfl
/-- The number of bytes. -/
def numOf (l : List Int) : Int := l.foldl (fun v z => 256 * v + z) 0
theorem numOf_snoc (l : List Int) (z : Int) : numOf (l ++ [z]) = 256 * numOf l + z := by simp [numOf]
theorem foldl_bound (l : List Int) (h : ∀ z ∈ l, 0 ≤ z ∧ z < 256) : ∀ v : Int, 0 ≤ v → 0 ≤ l.foldl (fun v z => 256 * v + z) v ∧ l.foldl (fun v z => 256 * v + z) v < (v + 1) * 256 ^ l.length := by
  induction l with
  | nil => intro v hv; simp; omega
  | cons z r ih =>
    intro v hv
    have hz := h z (by simp)
    have := ih (fun z hz => h z (by simp [hz])) (256 * v + z) (by omega)
    refine ⟨this.1, Int.lt_of_lt_of_le this.2 ?_⟩
    rw [List.length_cons, Int.pow_succ, Int.mul_comm (256 ^ r.length) 256, ← Int.mul_assoc]
    exact Int.mul_le_mul_of_nonneg_right (by omega) (Int.pow_nonneg (by omega))
theorem numOf_bound (l : List Int) (h : ∀ z ∈ l, 0 ≤ z ∧ z < 256) : 0 ≤ numOf l ∧ numOf l < 256 ^ l.length := by
  have := foldl_bound l h 0 (by omega)
  rw [show (0 : Int) + 1 = 1 by omega, Int.one_mul] at this
  exact this
end Go.Proofs.YtjjgbcjgmjggnaaGreatDoor

namespace Go.Proofs.YtjjgbcjgmjggnaaGreatDoor
open Go.RowKit
set_option linter.unusedVariables false

/-- The sum of all bytes. -/
def S0 : List Int → Int
  | [] => 0
  | x :: r => x + S0 r
/-- The bytes, the first n times, each next one once less. -/
def C1 : Int → List Int → Int
  | _, [] => 0
  | n, x :: r => n * x + C1 (n - 1) r
def S1 (l : List Int) : Int := C1 l.length l

/-- What the two cells hold behind the bytes l. -/
structure Run (l : List Int) (a b : Int) : Prop where
  c0 : a % 255 = S0 l % 255
  c1 : b % 255 = S1 l % 255
theorem Run.zero : Run [] 0 0 := ⟨rfl, rfl⟩
/-- The words added up; the flag: the next byte is a higher one. -/
def W : Bool → List Int → Int
  | _, [] => 0
  | true, x :: r => 256 * x + W false r
  | false, x :: r => x + W true r
def par (b : Bool) (n : Nat) : Bool := if n % 2 = 0 then b else !b
theorem par_succ (b : Bool) (n : Nat) : par b (n + 1) = par (!b) n := by
  unfold par
  by_cases h : n % 2 = 0
  · rw [if_neg (by omega), if_pos h]
  · rw [if_pos (by omega), if_neg h]; simp
theorem W_append (b : Bool) (l m : List Int) : W b (l ++ m) = W b l + W (par b l.length) m := by
  induction l generalizing b with
  | nil => simp [W, par]
  | cons x r ih =>
    rw [List.length_cons, par_succ]
    cases b with
    | true => simp only [List.cons_append, W, ih, Bool.not_true]; omega
    | false => simp only [List.cons_append, W, ih, Bool.not_false]; omega
theorem W_even {l : List Int} (h : l.length % 2 = 0) (x : Int) : W true (l ++ [x]) = W true l + 256 * x := by
  rw [W_append]; simp [par, h, W]
theorem W_odd {l : List Int} (h : ¬ l.length % 2 = 0) (x : Int) : W true (l ++ [x]) = W true l + x := by
  rw [W_append]; simp [par, h, W]
/-- The folded sum. -/
def fold (n : Int) : Int := if n = 0 then 0 else (n - 1) % 65535 + 1
theorem fold_small {n : Int} (h0 : 0 ≤ n) (h : n ≤ 65535) : fold n = n := by unfold fold; split <;> omega
theorem fold_bound (n : Int) : 0 ≤ fold n ∧ fold n ≤ 65535 := by unfold fold; split <;> omega
theorem fold_step {n : Int} (h : 65535 < n) : fold (n / 65536 + n % 65536) = fold n := by
  unfold fold
  rw [if_neg (by omega), if_neg (by omega)]
  omega
theorem fold_fold (n : Int) : fold (fold n) = fold n := fold_small (fold_bound n).1 (fold_bound n).2
theorem fold_add {a b : Int} (ha : 0 ≤ a) (hb : 0 ≤ b) (h : fold a = fold b) {x : Int} (hx : 0 ≤ x) : fold (a + x) = fold (b + x) := by
  revert h
  unfold fold
  intro h
  split at h <;> split at h <;> split <;> split <;> omega
/-- What the two cells of words hold behind the bytes l. -/
structure WRun (l : List Int) (h k : Int) : Prop where
  eq : fold (256 * h + k) = fold (W true l)
  h0 : 0 ≤ h
  k0 : 0 ≤ k
  w0 : 0 ≤ W true l
theorem WRun.zero : WRun [] 0 0 := ⟨rfl, Int.le_refl _, Int.le_refl _, Int.le_refl _⟩
theorem WRun.even {l : List Int} {h k : Int} (r : WRun l h k) (e : l.length % 2 = 0) {x : Int} (hx : 0 ≤ x) : WRun (l ++ [x]) (h + x) k := by
  obtain ⟨r1, r2, r3, r4⟩ := r
  refine ⟨?_, by omega, r3, by rw [W_even e]; omega⟩
  rw [W_even e, ← fold_add (by omega) r4 r1 (x := 256 * x) (by omega)]
  congr 1
  omega
theorem WRun.odd {l : List Int} {h k : Int} (r : WRun l h k) (e : ¬ l.length % 2 = 0) {x : Int} (hx : 0 ≤ x) : WRun (l ++ [x]) h (k + x) := by
  obtain ⟨r1, r2, r3, r4⟩ := r
  refine ⟨?_, r2, by omega, by rw [W_odd e]; omega⟩
  rw [W_odd e, ← fold_add (by omega) r4 r1 (x := x) hx]
  congr 1
  omega
theorem WRun.lower {l : List Int} {h k : Int} (r : WRun l h k) : WRun l (fold (256 * h + k) / 256) (fold (256 * h + k) % 256) := by
  obtain ⟨r1, r2, r3, r4⟩ := r
  have hb := fold_bound (256 * h + k)
  refine ⟨?_, by omega, by omega, r4⟩
  rw [show 256 * (fold (256 * h + k) / 256) + fold (256 * h + k) % 256 = fold (256 * h + k) by omega, fold_fold, r1]

/-- The bytes with two others at a place. -/
def laid (l : List Int) (at' : Nat) (x y : Int) : List Int := (l.set at' x).set (at' + 1) y
/-- Both sums are 0. -/
def whole (l : List Int) : Bool := (S0 l % 255 == 0) && (S1 l % 255 == 0)
end Go.Proofs.YtjjgbcjgmjggnaaGreatDoor

namespace Go.Proofs.YtjjgbcjgmjggnaaGreatDoor
set_option linter.unusedVariables false

/-- The length that bytes tell. -/
def pTold (rs : List Int) : Int := numOf ((rs.drop 2).take 2)
/-- What Length finds wrong. -/
def pLenE (rs : List Int) : Int :=
  if rs.length < 24 then 10 else if rs.getD 0 0 ≠ 2 then 20 else if ¬ (1 ≤ rs.getD 1 0 ∧ rs.getD 1 0 ≤ 5) then 21 else if ¬ (24 ≤ pTold rs ∧ pTold rs ≤ (rs.length : Int)) then 22 else 0
def pLenN (rs : List Int) : Int := if pLenE rs = 0 then pTold rs else 0
structure PLen (rs : List Int) : Prop where
  l : 24 ≤ rs.length
  v : rs.getD 0 0 = 2
  t : 1 ≤ rs.getD 1 0 ∧ rs.getD 1 0 ≤ 5
  n : 24 ≤ pTold rs ∧ pTold rs ≤ (rs.length : Int)
theorem pLenE_ok {rs : List Int} (h : pLenE rs = 0) : PLen rs := by
  unfold pLenE at h
  by_cases h1 : rs.length < 24
  · rw [if_pos h1] at h; omega
  · rw [if_neg h1] at h
    by_cases h2 : rs.getD 0 0 = 2
    · rw [if_neg (by omega)] at h
      by_cases h3 : 1 ≤ rs.getD 1 0 ∧ rs.getD 1 0 ≤ 5
      · rw [if_neg (by omega)] at h
        by_cases h4 : 24 ≤ pTold rs ∧ pTold rs ≤ (rs.length : Int)
        · exact ⟨by omega, h2, h3, h4⟩
        · rw [if_pos h4] at h; omega
      · rw [if_pos h3] at h; omega
    · rw [if_pos h2] at h; omega
theorem PLen.zero {rs : List Int} (h : PLen rs) : pLenE rs = 0 := by
  unfold pLenE
  rw [if_neg (by have := h.l; omega), if_neg (by have := h.v; omega), if_neg (by have := h.t; omega), if_neg (by have := h.n; omega)]
/-- A packet's bytes without Data. -/
def summedB (rs : List Int) : List Int := rs.take 16 ++ rs.drop 24
/-- Is its sum right? -/
def pRight (rs : List Int) : Bool := decide (pLenE rs = 0) && (fold (W true (summedB (rs.take (pTold rs).toNat))) == 65535)
end Go.Proofs.YtjjgbcjgmjggnaaGreatDoor

namespace Go.Proofs.YtjjgbcjgmjggnaaGreatDoor
set_option linter.unusedVariables false

/-- A key's numbers and its secret. -/
structure AKP where
  id : Int
  kind : Int
  sec : List Int
  sf : Int
  su : Int
  tf : Int
  tu : Int
structure AKP.Ok (k : AKP) : Prop where
  id : 0 ≤ k.id ∧ k.id < 256
  kind : 0 ≤ k.kind ∧ k.kind < 65536
  sec : ∀ z ∈ k.sec, 0 ≤ z ∧ z < 256
  sf : -9223372036854775808 ≤ k.sf ∧ k.sf ≤ 9223372036854775807
  su : -9223372036854775808 ≤ k.su ∧ k.su ≤ 9223372036854775807
  tf : -9223372036854775808 ≤ k.tf ∧ k.tf ≤ 9223372036854775807
  tu : -9223372036854775808 ≤ k.tu ∧ k.tu ≤ 9223372036854775807
def longN (kind : Int) : Int := if kind = 1 then 8 else if kind = 2 then 16 else 0
def spanB (f u : Int) : Bool := decide (0 ≤ f ∧ f ≤ u)
def AKP.may (k : AKP) : Bool := (spanB k.sf k.su && spanB k.tf k.tu) && decide (1 ≤ (k.sec.length : Int) ∧ (k.sec.length : Int) ≤ longN k.kind)
theorem AKP.may_iff {k : AKP} : k.may = true ↔ ((0 ≤ k.sf ∧ k.sf ≤ k.su) ∧ (0 ≤ k.tf ∧ k.tf ≤ k.tu)) ∧ 1 ≤ (k.sec.length : Int) ∧ (k.sec.length : Int) ≤ longN k.kind := by
  simp [AKP.may, spanB]
theorem longN_ways (kind : Int) : (kind = 1 ∧ longN kind = 8) ∨ (kind = 2 ∧ longN kind = 16) ∨ (kind ≠ 1 ∧ kind ≠ 2 ∧ longN kind = 0) := by
  unfold longN
  by_cases h1 : kind = 1
  · exact Or.inl ⟨h1, by rw [if_pos h1]⟩
  · by_cases h2 : kind = 2
    · exact Or.inr (Or.inl ⟨h2, by rw [if_neg h1, if_pos h2]⟩)
    · exact Or.inr (Or.inr ⟨h1, h2, by rw [if_neg h1, if_neg h2]⟩)
theorem AKP.may_kind {k : AKP} (h : k.may = true) : k.kind = 1 ∨ k.kind = 2 := by
  have := AKP.may_iff.1 h
  rcases longN_ways k.kind with h1 | h1 | ⟨_, _, h1⟩
  · exact Or.inl h1.1
  · exact Or.inr h1.1
  · rw [h1] at this; omega

/-- The kind of a chain: that of its first key. -/
def kindOfL (ks : List AKP) : Int := match ks with
  | [] => 0
  | k :: _ => k.kind
def twiceB (ks : List AKP) (i : Nat) (id : Int) : Bool := (ks.take i).any (fun x => x.id == id)
/-- What is wrong with the key of that number. -/
def badAt (ks : List AKP) (i : Nat) : Int := match ks[i]? with
  | none => 0
  | some k => if (!k.may || k.kind != kindOfL ks) = true then 26 else if twiceB ks i k.id = true then 63 else 0
def firstBad (ks : List AKP) : Nat → Nat → Option Nat
  | _, 0 => none
  | i, n + 1 => if badAt ks i ≠ 0 then some i else firstBad ks (i + 1) n
def achE (ks : List AKP) : Int := if 16 < ks.length then 64 else match firstBad ks 0 ks.length with
  | none => 0
  | some i => badAt ks i
def achI (ks : List AKP) : Int := if 16 < ks.length then 16 else match firstBad ks 0 ks.length with
  | none => 0
  | some i => i
theorem firstBad_none {ks : List AKP} : ∀ (n i : Nat), (∀ j, i ≤ j → j < i + n → badAt ks j = 0) → firstBad ks i n = none
  | 0, _, _ => rfl
  | n + 1, i, h => by
    have h0 := h i (Nat.le_refl _) (by omega)
    unfold firstBad
    rw [if_neg (by omega)]
    exact firstBad_none n (i + 1) (fun j h1 h2 => h j (by omega) (by omega))
theorem firstBad_some {ks : List AKP} {m : Nat} (hm : badAt ks m ≠ 0) : ∀ (n i : Nat), i ≤ m → m < i + n → (∀ j, i ≤ j → j < m → badAt ks j = 0) → firstBad ks i n = some m
  | 0, _, _, h, _ => by omega
  | n + 1, i, h1, h2, h => by
    unfold firstBad
    by_cases e : i = m
    · subst e; rw [if_pos hm]
    · rw [if_neg (by have := h i (Nat.le_refl _) (by omega); omega)]
      exact firstBad_some hm n (i + 1) (by omega) (by omega) (fun j h3 h4 => h j (by omega) h4)
theorem chk_many {ks : List AKP} (h : 16 < ks.length) : achE ks = 64 ∧ achI ks = 16 := by simp [achE, achI, h]
theorem chk_good {ks : List AKP} (h : ks.length ≤ 16) (hb : ∀ j, j < ks.length → badAt ks j = 0) : achE ks = 0 ∧ achI ks = 0 := by
  have e := firstBad_none (ks := ks) ks.length 0 (fun j _ h2 => hb j (by omega))
  simp [achE, achI, e, show ¬ 16 < ks.length by omega]
theorem chk_bad {ks : List AKP} (h : ks.length ≤ 16) {m : Nat} (hm : m < ks.length) (hb : badAt ks m ≠ 0) (h0 : ∀ j, j < m → badAt ks j = 0) : achE ks = badAt ks m ∧ achI ks = (m : Int) := by
  have e := firstBad_some hb ks.length 0 (Nat.zero_le _) (by omega) (fun j _ h2 => h0 j h2)
  simp [achE, achI, e, show ¬ 16 < ks.length by omega]
theorem firstBad_back {ks : List AKP} : ∀ (n i : Nat), firstBad ks i n = none → ∀ j, i ≤ j → j < i + n → badAt ks j = 0
  | 0, _, _, j, h1, h2 => by omega
  | n + 1, i, h, j, h1, h2 => by
    unfold firstBad at h
    by_cases hb : badAt ks i = 0
    · rw [if_neg (by omega)] at h
      by_cases e : j = i
      · rw [e]; exact hb
      · exact firstBad_back n (i + 1) h j (by omega) (by omega)
    · rw [if_pos hb] at h; cases h
theorem firstBad_is {ks : List AKP} : ∀ (n i m : Nat), firstBad ks i n = some m → badAt ks m ≠ 0
  | 0, _, _, h => by cases h
  | n + 1, i, m, h => by
    unfold firstBad at h
    by_cases hb : badAt ks i = 0
    · rw [if_neg (by omega)] at h; exact firstBad_is n (i + 1) m h
    · rw [if_pos hb] at h; cases h; exact hb
/-- A chain that may be. -/
theorem chk_ok {ks : List AKP} (h : achE ks = 0) : ks.length ≤ 16 ∧ ∀ j, j < ks.length → badAt ks j = 0 := by
  unfold achE at h
  by_cases h1 : 16 < ks.length
  · rw [if_pos h1] at h; omega
  · rw [if_neg h1] at h
    refine ⟨by omega, ?_⟩
    cases e : firstBad ks 0 ks.length with
    | none => exact fun j hj => firstBad_back _ _ e j (Nat.zero_le _) (by omega)
    | some m => rw [e] at h; exact absurd h (firstBad_is _ _ _ e)
theorem badAt_ok {ks : List AKP} {j : Nat} {k : AKP} (hk : ks[j]? = some k) (h : badAt ks j = 0) : k.may = true ∧ k.kind = kindOfL ks ∧ twiceB ks j k.id = false := by
  unfold badAt at h
  rw [hk] at h
  dsimp only at h
  by_cases h1 : (!k.may || k.kind != kindOfL ks) = true
  · rw [if_pos h1] at h; omega
  · rw [if_neg h1] at h
    by_cases h2 : twiceB ks j k.id = true
    · rw [if_pos h2] at h; omega
    · simp at h1 h2
      exact ⟨h1.1, h1.2, h2⟩

def AKP.sends (k : AKP) (now : Int) : Bool := decide (k.sf ≤ now ∧ now ≤ k.su)
def AKP.takes (k : AKP) (now : Int) : Bool := decide (k.tf ≤ now ∧ now ≤ k.tu)
def aheadB (a b : AKP) : Bool := decide (b.sf < a.sf ∨ (a.sf = b.sf ∧ b.id < a.id))
/-- The better of the key of that number and the best so far. -/
def better (ks : List AKP) (best : Int) (i : Nat) : Int := match ks[i]? with
  | none => best
  | some k => match ks[best.toNat]? with
    | none => i
    | some b => if best < 0 ∨ aheadB k b = true then i else best
def bestI (ks : List AKP) (now : Int) : Nat → Int
  | 0 => -1
  | i + 1 => match ks[i]? with
    | none => bestI ks now i
    | some k => if k.sends now = true then better ks (bestI ks now i) i else bestI ks now i
def chooseI (ks : List AKP) (now : Int) : Int := bestI ks now ks.length
theorem better_ways (ks : List AKP) (best : Int) (i : Nat) : better ks best i = best ∨ better ks best i = i := by
  unfold better
  split
  · exact Or.inl rfl
  · split
    · exact Or.inr rfl
    · split
      · exact Or.inr rfl
      · exact Or.inl rfl
theorem bestI_bound (ks : List AKP) (now : Int) : ∀ i, -1 ≤ bestI ks now i ∧ bestI ks now i < i
  | 0 => by simp [bestI]
  | i + 1 => by
    have := bestI_bound ks now i
    unfold bestI
    split
    · push_cast; omega
    · split
      · rcases better_ways ks (bestI ks now i) i with e | e <;> rw [e] <;> push_cast <;> omega
      · push_cast; omega

/-- The password of a key. -/
def passB (sec : List Int) : List Int := sec.take 8 ++ List.replicate (8 - sec.length) 0
theorem length_passB (sec : List Int) : (passB sec).length = 8 := by simp [passB]; omega
def kindB (b : List Int) : Int := numOf ((b.drop 14).take 2)
def dataB (b : List Int) : List Int := (b.drop 16).take 8
def sayB (b : List Int) (right kind : Int) (d : List Int) : List Int := b.take 12 ++ numBytes 2 right ++ numBytes 2 kind ++ d ++ b.drop 24
def plainSum (b : List Int) : Int := 65535 - fold (W true (sayB b 0 1 (List.replicate 8 0)))
def signPl (b : List Int) (k : AKP) : List Int := sayB b (plainSum b) 1 (passB k.sec)
def markB (id seq : Int) : List Int := [0, 0, id, 16] ++ numBytes 4 seq
def toN (l : List Int) : List Nat := l.map Int.toNat
theorem natB_toN {l : List Int} (h : ∀ z ∈ l, 0 ≤ z ∧ z < 256) : natB (toN l) = l := by
  induction l with
  | nil => rfl
  | cons z r ih =>
    have h0 := h z (by simp)
    have := ih (fun y hy => h y (by simp [hy]))
    simp only [natB, toN, List.map_cons, List.cons.injEq] at this ⊢
    exact ⟨by omega, this⟩
theorem toN_byte {l : List Int} (h : ∀ z ∈ l, 0 ≤ z ∧ z < 256) : ∀ x ∈ toN l, x < 256 := by
  intro x hx
  simp only [toN, List.mem_map] at hx
  obtain ⟨z, hz, rfl⟩ := hx
  have := h z hz
  omega
theorem length_toN (l : List Int) : (toN l).length = l.length := by simp [toN]
def keyedB (sec b : List Int) : List Int := natB (keyedN (toN sec) (toN b))
def signDg (b : List Int) (k : AKP) (seq : Int) : List Int := sayB b 0 2 (markB k.id seq) ++ keyedB k.sec (sayB b 0 2 (markB k.id seq))
def unsE (b : List Int) : Int := if pLenE b ≠ 0 then pLenE b else if pTold b < (b.length : Int) then 22 else if kindB b ≠ 0 then 25 else if pRight b = false then 23 else 0
def signE (b : List Int) (ks : List AKP) (now : Int) : Int := if unsE b ≠ 0 then unsE b else if ks.length = 0 then 0 else if achE ks ≠ 0 ∨ chooseI ks now < 0 then 26 else 0
def signW (b : List Int) (k : AKP) (seq : Int) : List Int := if k.kind = 1 then signPl b k else signDg b k seq
def signB (b : List Int) (ks : List AKP) (now seq : Int) : List Int := if signE b ks now ≠ 0 then [] else match ks[(chooseI ks now).toNat]? with
  | none => b
  | some k => signW b k seq
def wholeE (b : List Int) (n : Int) : Int := if n < (b.length : Int) then 22 else if pRight b = false then 23 else 0
def passAny (ks : List AKP) (now : Int) (d : List Int) : Bool := ks.any (fun k => k.takes now && decide (passB k.sec = d))
def openPl (b : List Int) (n : Int) (d : List Int) (ks : List AKP) (now : Int) : Int := if wholeE b n ≠ 0 then wholeE b n else if passAny ks now d = true then 0 else 26
def markId (d : List Int) : Int := numOf ((d.drop 2).take 1)
def markSeq (d : List Int) : Int := numOf ((d.drop 4).take 4)
def digK (b : List Int) (n : Int) (k : AKP) (id : Int) : Bool := decide (k.id = id) && decide (b.drop n.toNat = keyedB k.sec (b.take n.toNat))
def digAny (ks : List AKP) (now : Int) (b : List Int) (n : Int) (id : Int) : Bool := ks.any (fun k => k.takes now && digK b n k id)
def openDgE (b : List Int) (n : Int) (d : List Int) (ks : List AKP) (now : Int) : Int :=
  if d ≠ markB (markId d) (markSeq d) then 24 else if (b.length : Int) ≠ n + 16 then 22 else if digAny ks now b n (markId d) = true then 0 else 26
def openDgS (b : List Int) (n : Int) (d : List Int) (ks : List AKP) (now : Int) : Int := if openDgE b n d ks now = 0 then markSeq d else 0
/-- Behind the length. -/
def openE0 (b : List Int) (n : Int) (ks : List AKP) (now : Int) : Int :=
  if achE ks ≠ 0 then 26 else if kindB b ≠ kindOfL ks then 25 else if kindB b = 1 then openPl b n (dataB b) ks now else if kindB b = 2 then openDgE b n (dataB b) ks now else wholeE b n
def openS0 (b : List Int) (n : Int) (ks : List AKP) (now : Int) : Int :=
  if achE ks ≠ 0 then 0 else if kindB b ≠ kindOfL ks then 0 else if kindB b = 1 then 0 else if kindB b = 2 then openDgS b n (dataB b) ks now else 0
def openE (b : List Int) (ks : List AKP) (now : Int) : Int := if pLenE b ≠ 0 then pLenE b else openE0 b (pTold b) ks now
def openN (b : List Int) (ks : List AKP) (now : Int) : Int := if openE b ks now = 0 then pTold b else 0
def openS (b : List Int) (ks : List AKP) (now : Int) : Int := if openE b ks now = 0 then openS0 b (pTold b) ks now else 0
end Go.Proofs.YtjjgbcjgmjggnaaGreatDoor
