/- Plain arithmetic of the two sums: words folded; bytes modulo 255. -/
import Derived.Test.YthilfealloakdaaGreatParts
namespace Go.Proofs.YthilfealloakdaaGreat
open Go.RowKit
set_option linter.unusedVariables false

/-- The sum of all bytes. -/
def S0 : List Int → Int
  | [] => 0
  | x :: r => x + S0 r
/-- The bytes, the first n times, each next one once less. -/
def C1 : Int → List Int → Int
  | _, [] => 0
  | n, x :: r => n * x + C1 (n - 1) r
def S1 (l : List Int) : Int := C1 l.length l

theorem S0_append (a b : List Int) : S0 (a ++ b) = S0 a + S0 b := by
  induction a with
  | nil => simp [S0]
  | cons x r ih => simp only [List.cons_append, S0, ih]; omega
theorem C1_append (n : Int) (a b : List Int) : C1 n (a ++ b) = C1 n a + C1 (n - a.length) b := by
  induction a generalizing n with
  | nil => simp [C1]
  | cons x r ih =>
    simp only [List.cons_append, C1, ih, List.length_cons]
    rw [show n - 1 - (r.length : Int) = n - ((r.length + 1 : Nat) : Int) by omega]
    omega
theorem C1_shift (n d : Int) (l : List Int) : C1 (n + d) l = C1 n l + d * S0 l := by
  induction l generalizing n with
  | nil => simp [C1, S0]
  | cons x r ih =>
    simp only [C1, S0]
    rw [show n + d - 1 = n - 1 + d by omega, ih]
    grind
theorem S1_snoc (l : List Int) (x : Int) : S1 (l ++ [x]) = S1 l + S0 l + x := by
  unfold S1
  rw [C1_append, List.length_append, show ((l.length + [x].length : Nat) : Int) = (l.length : Int) + 1 by simp, C1_shift]
  simp only [C1]
  rw [show (l.length : Int) + 1 - l.length = 1 by omega]
  omega

/-- What the two cells hold behind the bytes l. -/
structure Run (l : List Int) (a b : Int) : Prop where
  c0 : a % 255 = S0 l % 255
  c1 : b % 255 = S1 l % 255
theorem Run.zero : Run [] 0 0 := ⟨rfl, rfl⟩
theorem Run.snoc {l : List Int} {a b : Int} (h : Run l a b) (x : Int) : Run (l ++ [x]) (a + x) (b + (a + x)) := by
  obtain ⟨h0, h1⟩ := h
  refine ⟨?_, ?_⟩
  · rw [S0_append]; simp only [S0]; omega
  · rw [S1_snoc]; omega
theorem Run.mod {l : List Int} {a b : Int} (h : Run l a b) : Run l (a % 255) (b % 255) := by
  obtain ⟨h0, h1⟩ := h
  exact ⟨by omega, by omega⟩

/-- The words added up; the flag: the next byte is a higher one. -/
def W : Bool → List Int → Int
  | _, [] => 0
  | true, x :: r => 256 * x + W false r
  | false, x :: r => x + W true r
def par (b : Bool) (n : Nat) : Bool := if n % 2 = 0 then b else !b
theorem par_succ (b : Bool) (n : Nat) : par b (n + 1) = par (!b) n := by
  unfold par
  by_cases h : n % 2 = 0
  · rw [if_neg (by omega), if_pos h]
  · rw [if_pos (by omega), if_neg h]; simp
theorem W_append (b : Bool) (l m : List Int) : W b (l ++ m) = W b l + W (par b l.length) m := by
  induction l generalizing b with
  | nil => simp [W, par]
  | cons x r ih =>
    rw [List.length_cons, par_succ]
    cases b with
    | true => simp only [List.cons_append, W, ih, Bool.not_true]; omega
    | false => simp only [List.cons_append, W, ih, Bool.not_false]; omega
theorem W_even {l : List Int} (h : l.length % 2 = 0) (x : Int) : W true (l ++ [x]) = W true l + 256 * x := by
  rw [W_append]; simp [par, h, W]
theorem W_odd {l : List Int} (h : ¬ l.length % 2 = 0) (x : Int) : W true (l ++ [x]) = W true l + x := by
  rw [W_append]; simp [par, h, W]
theorem W_nonneg (b : Bool) (l : List Int) (h : ∀ x ∈ l, 0 ≤ x ∧ x < 256) : 0 ≤ W b l := by
  induction l generalizing b with
  | nil => simp [W]
  | cons x r ih =>
    have hx := h x (by simp)
    have hr := fun b => ih b (fun y hy => h y (by simp [hy]))
    cases b with
    | true => have := hr false; simp only [W]; omega
    | false => have := hr true; simp only [W]; omega
theorem W_le (b : Bool) (l : List Int) (h : ∀ x ∈ l, 0 ≤ x ∧ x < 256) : W b l ≤ 65536 * (l.length : Int) := by
  induction l generalizing b with
  | nil => simp [W]
  | cons x r ih =>
    have hx := h x (by simp)
    have hr := fun b => ih b (fun y hy => h y (by simp [hy]))
    rw [List.length_cons]
    cases b with
    | true => have := hr false; simp only [W]; omega
    | false => have := hr true; simp only [W]; omega

/-- The folded sum. -/
def fold (n : Int) : Int := if n = 0 then 0 else (n - 1) % 65535 + 1
theorem fold_small {n : Int} (h0 : 0 ≤ n) (h : n ≤ 65535) : fold n = n := by unfold fold; split <;> omega
theorem fold_bound (n : Int) : 0 ≤ fold n ∧ fold n ≤ 65535 := by unfold fold; split <;> omega
theorem fold_step {n : Int} (h : 65535 < n) : fold (n / 65536 + n % 65536) = fold n := by
  unfold fold
  rw [if_neg (by omega), if_neg (by omega)]
  omega
theorem fold_fold (n : Int) : fold (fold n) = fold n := fold_small (fold_bound n).1 (fold_bound n).2
theorem fold_add {a b : Int} (ha : 0 ≤ a) (hb : 0 ≤ b) (h : fold a = fold b) {x : Int} (hx : 0 ≤ x) : fold (a + x) = fold (b + x) := by
  revert h
  unfold fold
  intro h
  split at h <;> split at h <;> split <;> split <;> omega
theorem fold_whole {a : Int} (ha : 0 ≤ a) : fold (a + (65535 - fold a)) = 65535 := by
  unfold fold
  split <;> split <;> omega

/-- What the two cells of words hold behind the bytes l. -/
structure WRun (l : List Int) (h k : Int) : Prop where
  eq : fold (256 * h + k) = fold (W true l)
  h0 : 0 ≤ h
  k0 : 0 ≤ k
  w0 : 0 ≤ W true l
theorem WRun.zero : WRun [] 0 0 := ⟨rfl, Int.le_refl _, Int.le_refl _, Int.le_refl _⟩
theorem WRun.even {l : List Int} {h k : Int} (r : WRun l h k) (e : l.length % 2 = 0) {x : Int} (hx : 0 ≤ x) : WRun (l ++ [x]) (h + x) k := by
  obtain ⟨r1, r2, r3, r4⟩ := r
  refine ⟨?_, by omega, r3, by rw [W_even e]; omega⟩
  rw [W_even e, ← fold_add (by omega) r4 r1 (x := 256 * x) (by omega)]
  congr 1
  omega
theorem WRun.odd {l : List Int} {h k : Int} (r : WRun l h k) (e : ¬ l.length % 2 = 0) {x : Int} (hx : 0 ≤ x) : WRun (l ++ [x]) h (k + x) := by
  obtain ⟨r1, r2, r3, r4⟩ := r
  refine ⟨?_, r2, by omega, by rw [W_odd e]; omega⟩
  rw [W_odd e, ← fold_add (by omega) r4 r1 (x := x) hx]
  congr 1
  omega
theorem WRun.lower {l : List Int} {h k : Int} (r : WRun l h k) : WRun l (fold (256 * h + k) / 256) (fold (256 * h + k) % 256) := by
  obtain ⟨r1, r2, r3, r4⟩ := r
  have hb := fold_bound (256 * h + k)
  refine ⟨?_, by omega, by omega, r4⟩
  rw [show 256 * (fold (256 * h + k) / 256) + fold (256 * h + k) % 256 = fold (256 * h + k) by omega, fold_fold, r1]

/-- The bytes with two others at a place. -/
def laid (l : List Int) (at' : Nat) (x y : Int) : List Int := (l.set at' x).set (at' + 1) y
theorem length_laid (l : List Int) (a : Nat) (x y : Int) : (laid l a x y).length = l.length := by simp [laid]
theorem laid_laid (l : List Int) (a : Nat) (x y u v : Int) : laid (laid l a x y) a u v = laid l a u v := by
  unfold laid
  rw [List.set_comm _ _ (by omega), List.set_set]
  have e : ((l.set a x).set (a + 1) v).set a u = ((l.set a x).set a u).set (a + 1) v := List.set_comm _ _ (by omega)
  rw [e, List.set_set]
theorem laid_cut (l : List Int) (a : Nat) (x y : Int) (h : a + 2 ≤ l.length) : laid l a x y = l.take a ++ (x :: y :: l.drop (a + 2)) := by
  unfold laid
  rw [List.set_eq_take_append_cons_drop, if_pos (by simp; omega), List.take_set, List.drop_set]
  rw [if_pos (by omega), List.set_eq_take_append_cons_drop, if_pos (by simp; omega)]
  rw [List.take_take, Nat.min_eq_left (by omega), List.append_assoc]
  simp
theorem laid_byte {l : List Int} (h : ∀ x ∈ l, 0 ≤ x ∧ x < 256) (a : Nat) {x y : Int} (hx : 0 ≤ x ∧ x < 256) (hy : 0 ≤ y ∧ y < 256) : ∀ z ∈ laid l a x y, 0 ≤ z ∧ z < 256 := by
  intro z hz
  rcases List.mem_or_eq_of_mem_set hz with hz | rfl
  · rcases List.mem_or_eq_of_mem_set hz with hz | rfl
    · exact h z hz
    · exact hx
  · exact hy

theorem S0_set (l : List Int) (i : Nat) (x : Int) (h : i < l.length) : S0 (l.set i x) = S0 l + (x - l.getD i 0) := by
  induction l generalizing i with
  | nil => simp at h
  | cons y r ih =>
    cases i with
    | zero => simp [S0]; omega
    | succ i =>
      have := ih i (by simpa using h)
      simp only [List.set_cons_succ, S0, this, List.getD_cons_succ]
      omega
theorem C1_set (n : Int) (l : List Int) (i : Nat) (x : Int) (h : i < l.length) : C1 n (l.set i x) = C1 n l + (n - i) * (x - l.getD i 0) := by
  induction l generalizing i n with
  | nil => simp at h
  | cons y r ih =>
    cases i with
    | zero => simp only [List.set_cons_zero, C1, List.getD_cons_zero]; grind
    | succ i =>
      have := ih (n - 1) i (by simpa using h)
      simp only [List.set_cons_succ, C1, this, List.getD_cons_succ]
      rw [show n - 1 - (i : Int) = n - ((i + 1 : Nat) : Int) by omega]
      omega
theorem S1_set (l : List Int) (i : Nat) (x : Int) (h : i < l.length) : S1 (l.set i x) = S1 l + ((l.length : Int) - i) * (x - l.getD i 0) := by
  unfold S1
  rw [List.length_set, C1_set _ _ _ _ h]
theorem W_set (b : Bool) (l : List Int) (i : Nat) (x : Int) (h : i < l.length) : W b (l.set i x) = W b l + (if par b i then 256 * (x - l.getD i 0) else x - l.getD i 0) := by
  induction l generalizing i b with
  | nil => simp at h
  | cons y r ih =>
    cases i with
    | zero => cases b <;> simp [W, par] <;> omega
    | succ i =>
      have ih' := fun b => ih b i (by simpa using h)
      rw [par_succ]
      cases b with
      | true => simp only [List.set_cons_succ, W, ih', List.getD_cons_succ, Bool.not_true]; omega
      | false => simp only [List.set_cons_succ, W, ih', List.getD_cons_succ, Bool.not_false]; omega
theorem getD_set_ne (l : List Int) (i j : Nat) (x : Int) (h : i ≠ j) : (l.set i x).getD j 0 = l.getD j 0 := by simp [List.getD, h]
theorem getD_set_eq (l : List Int) (i : Nat) (x : Int) (h : i < l.length) : (l.set i x).getD i 0 = x := by simp [List.getD, h]

theorem S0_laid (l : List Int) (a : Nat) (x y : Int) (h : a + 2 ≤ l.length) : S0 (laid l a x y) = S0 (laid l a 0 0) + x + y := by
  unfold laid
  rw [S0_set _ _ _ (by simp; omega), S0_set _ _ _ (by omega), S0_set _ _ _ (by simp; omega), S0_set _ _ _ (by omega), getD_set_ne _ _ _ _ (by omega), getD_set_ne _ _ _ _ (by omega)]
  omega
theorem S1_laid (l : List Int) (a : Nat) (x y : Int) (h : a + 2 ≤ l.length) : S1 (laid l a x y) = S1 (laid l a 0 0) + ((l.length : Int) - a) * x + ((l.length : Int) - a - 1) * y := by
  unfold laid
  rw [S1_set _ _ _ (by simp; omega), S1_set _ _ _ (by omega), S1_set _ _ _ (by simp; omega), S1_set _ _ _ (by omega), getD_set_ne _ _ _ _ (by omega), getD_set_ne _ _ _ _ (by omega)]
  simp only [List.length_set]
  rw [show ((a + 1 : Nat) : Int) = (a : Int) + 1 by omega]
  grind

/-- The two bytes of Fletcher, out of the two sums. -/
def fx (t c0 c1 : Int) : Int := (t * c0 + 255 - c1 + 254) % 255 + 1
def fy (c0 x : Int) : Int := (510 - c0 - x + 254) % 255 + 1
theorem fx_bound (t c0 c1 : Int) : 1 ≤ fx t c0 c1 ∧ fx t c0 c1 ≤ 255 := by unfold fx; omega
theorem fy_bound (c0 x : Int) : 1 ≤ fy c0 x ∧ fy c0 x ≤ 255 := by unfold fy; omega
/-- No other pair does it. -/
theorem pair_only {c0 c1 n t x y : Int} (ht : t = (n + 254) % 255) (hx : 1 ≤ x ∧ x ≤ 255) (hy : 1 ≤ y ∧ y ≤ 255) :
    ((c0 + x + y) % 255 = 0 ∧ (c1 + n * x + t * y) % 255 = 0) ↔ x = fx t c0 c1 ∧ y = fy c0 (fx t c0 c1) := by
  obtain ⟨q, hq⟩ : ∃ q, n = t + 1 + 255 * q := ⟨(n + 254) / 255 - 1, by omega⟩
  constructor
  · rintro ⟨h1, h2⟩
    obtain ⟨m, hm⟩ : ∃ m, y = 255 * m - c0 - x := ⟨(c0 + x + y) / 255, by omega⟩
    have e : c1 + n * x + t * y = c1 + x - t * c0 + 255 * (q * x + t * m) := by rw [hq, hm]; grind
    rw [e] at h2
    have hxx : x = fx t c0 c1 := by
      unfold fx
      generalize t * c0 = P at *
      generalize q * x + t * m = R at *
      omega
    refine ⟨hxx, ?_⟩
    rw [← hxx]
    unfold fy
    omega
  · rintro ⟨h1, h2⟩
    rw [← h1] at h2
    have k1 : (c0 + x + y) % 255 = 0 := by rw [h2]; unfold fy; omega
    refine ⟨k1, ?_⟩
    obtain ⟨m, hm⟩ : ∃ m, y = 255 * m - c0 - x := ⟨(c0 + x + y) / 255, by omega⟩
    have e : c1 + n * x + t * y = c1 + x - t * c0 + 255 * (q * x + t * m) := by rw [hq, hm]; grind
    rw [e]
    unfold fx at h1
    generalize t * c0 = P at *
    generalize q * x + t * m = R at *
    omega

def tms (l : List Int) (a : Nat) : Int := ((l.length : Int) - a - 1) % 255
def flx (l : List Int) (a : Nat) : Int := fx (tms l a) (S0 (laid l a 0 0) % 255) (S1 (laid l a 0 0) % 255)
def fly (l : List Int) (a : Nat) : Int := fy (S0 (laid l a 0 0) % 255) (flx l a)
theorem flx_bound (l : List Int) (a : Nat) : 1 ≤ flx l a ∧ flx l a ≤ 255 := fx_bound _ _ _
theorem fly_bound (l : List Int) (a : Nat) : 1 ≤ fly l a ∧ fly l a ≤ 255 := fy_bound _ _
theorem tms_laid (l : List Int) (a : Nat) (x y : Int) : tms (laid l a x y) a = tms l a := by simp [tms, length_laid]
theorem flx_laid (l : List Int) (a : Nat) (x y : Int) : flx (laid l a x y) a = flx l a := by simp [flx, tms_laid, laid_laid]
theorem fly_laid (l : List Int) (a : Nat) (x y : Int) : fly (laid l a x y) a = fly l a := by simp [fly, flx_laid, laid_laid]

/-- Both sums are 0. -/
def whole (l : List Int) : Bool := (S0 l % 255 == 0) && (S1 l % 255 == 0)
theorem whole_iff (l : List Int) : whole l = true ↔ S0 l % 255 = 0 ∧ S1 l % 255 = 0 := by simp [whole]
theorem whole_laid (l : List Int) (a : Nat) (h : a + 2 ≤ l.length) : whole (laid l a (flx l a) (fly l a)) = true := by
  rw [whole_iff, S0_laid _ _ _ _ h, S1_laid _ _ _ _ h]
  have k := (pair_only (c0 := S0 (laid l a 0 0) % 255) (c1 := S1 (laid l a 0 0) % 255) (n := (l.length : Int) - a) (t := ((l.length : Int) - a + 254) % 255) rfl (flx_bound l a) (fly_bound l a)).2
  have ht : tms l a = ((l.length : Int) - a + 254) % 255 := by unfold tms; omega
  have k := k ⟨by rw [← ht]; rfl, by rw [← ht]; rfl⟩
  obtain ⟨k1, k2⟩ := k
  refine ⟨by omega, ?_⟩
  obtain ⟨q, hq⟩ : ∃ q, (l.length : Int) - a - 1 = ((l.length : Int) - a + 254) % 255 + 255 * q := ⟨((l.length : Int) - a - 1) / 255, by omega⟩
  rw [hq]
  have e : (((l.length : Int) - a + 254) % 255 + 255 * q) * fly l a = ((l.length : Int) - a + 254) % 255 * fly l a + 255 * (q * fly l a) := by grind
  rw [e]
  generalize ((l.length : Int) - a + 254) % 255 * fly l a = P at *
  generalize q * fly l a = Q at *
  generalize ((l.length : Int) - a) * flx l a = R at *
  omega
/-- One byte changed. -/
theorem whole_set (l : List Int) (i : Nat) (x : Int) (h : i < l.length) (hw : whole l = true) : whole (l.set i x) = decide (l.getD i 0 % 255 = x % 255) := by
  obtain ⟨w0, w1⟩ := (whole_iff l).1 hw
  rw [Bool.eq_iff_iff, whole_iff, decide_eq_true_iff, S0_set _ _ _ h, S1_set _ _ _ h]
  constructor
  · rintro ⟨h1, _⟩; omega
  · intro e
    refine ⟨by omega, ?_⟩
    obtain ⟨q, hq⟩ : ∃ q, x - l.getD i 0 = 255 * q := ⟨(x - l.getD i 0) / 255, by omega⟩
    rw [hq, show ((l.length : Int) - i) * (255 * q) = 255 * (((l.length : Int) - i) * q) by grind]
    omega
/-- Two neighbours that change places. -/
theorem whole_swap (l : List Int) (i : Nat) (h : i + 1 < l.length) (hw : whole l = true) : whole ((l.set i (l.getD (i + 1) 0)).set (i + 1) (l.getD i 0)) = decide (l.getD i 0 % 255 = l.getD (i + 1) 0 % 255) := by
  obtain ⟨w0, w1⟩ := (whole_iff l).1 hw
  rw [Bool.eq_iff_iff, whole_iff, decide_eq_true_iff, S0_set _ _ _ (by simp; omega), S0_set _ _ _ (by omega), S1_set _ _ _ (by simp; omega), S1_set _ _ _ (by omega), getD_set_ne _ _ _ _ (by omega)]
  simp only [List.length_set]
  generalize l.getD i 0 = u
  generalize l.getD (i + 1) 0 = v
  have e : ((l.length : Int) - i) * (v - u) + ((l.length : Int) - ((i + 1 : Nat) : Int)) * (u - v) = v - u := by
    rw [show ((i + 1 : Nat) : Int) = (i : Int) + 1 by omega]
    grind
  constructor
  · rintro ⟨_, h2⟩; omega
  · intro e'; exact ⟨by omega, by omega⟩
theorem W_laid (l : List Int) (a : Nat) (x y : Int) (h : a + 2 ≤ l.length) (he : a % 2 = 0) : W true (laid l a x y) = W true (laid l a 0 0) + (256 * x + y) := by
  unfold laid
  have p0 : par true a = true := by simp [par, he]
  have p1 : par true (a + 1) = false := by simp [par]; omega
  rw [W_set _ _ _ _ (by simp; omega), W_set _ _ _ _ (by omega), W_set _ _ _ _ (by simp; omega), W_set _ _ _ _ (by omega), p0, p1, getD_set_ne _ _ _ _ (by omega), getD_set_ne _ _ _ _ (by omega)]
  simp
  omega
end Go.Proofs.YthilfealloakdaaGreat
