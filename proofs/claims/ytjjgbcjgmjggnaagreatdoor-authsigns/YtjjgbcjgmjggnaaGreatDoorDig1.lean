/- What a call returned, by an equation. -/
import Derived.Test.YtjjgbcjgmjggnaaGreatDoorParts
import Derived.Laws.BitsAllLaws
namespace Go.Proofs.YtjjgbcjgmjggnaaGreatDoor
open Go.RowKit
set_option linter.unusedVariables false

theorem ret_int {k : IntKind} {a b : Int} (h : a = b) : Ending.returned (.int k a) = .returned (.int k b) := by rw [h]
theorem ret_bool {a b : Bool} (h : a = b) : Ending.returned (.bool a) = .returned (.bool b) := by rw [h]
end Go.Proofs.YtjjgbcjgmjggnaaGreatDoor

namespace Go.Proofs.YtjjgbcjgmjggnaaGreatDoor
open Go.RowKit
set_option linter.unusedVariables false

/-- T0 to T63. -/
def tabN : List Nat := [
  0xd76aa478, 0xe8c7b756, 0x242070db, 0xc1bdceee, 0xf57c0faf, 0x4787c62a, 0xa8304613, 0xfd469501,
  0x698098d8, 0x8b44f7af, 0xffff5bb1, 0x895cd7be, 0x6b901122, 0xfd987193, 0xa679438e, 0x49b40821,
  0xf61e2562, 0xc040b340, 0x265e5a51, 0xe9b6c7aa, 0xd62f105d, 0x02441453, 0xd8a1e681, 0xe7d3fbc8,
  0x21e1cde6, 0xc33707d6, 0xf4d50d87, 0x455a14ed, 0xa9e3e905, 0xfcefa3f8, 0x676f02d9, 0x8d2a4c8a,
  0xfffa3942, 0x8771f681, 0x6d9d6122, 0xfde5380c, 0xa4beea44, 0x4bdecfa9, 0xf6bb4b60, 0xbebfbc70,
  0x289b7ec6, 0xeaa127fa, 0xd4ef3085, 0x04881d05, 0xd9d4d039, 0xe6db99e5, 0x1fa27cf8, 0xc4ac5665,
  0xf4292244, 0x432aff97, 0xab9423a7, 0xfc93a039, 0x655b59c3, 0x8f0ccc92, 0xffeff47d, 0x85845dd1,
  0x6fa87e4f, 0xfe2ce6e0, 0xa3014314, 0x4e0811a1, 0xf7537e82, 0xbd3af235, 0x2ad7d2bb, 0xeb86d391]
def notN (a : Nat) : Nat := 4294967295 - a
def mixN (i b c d : Nat) : Nat :=
  if i / 16 = 0 then (b &&& c) ||| (notN b &&& d)
  else if i / 16 = 1 then (d &&& b) ||| (notN d &&& c)
  else if i / 16 = 2 then (b ^^^ c) ^^^ d
  else c ^^^ (b ||| notN d)
def rotN (v n : Nat) : Nat := (v * 2 ^ n % 4294967296) ||| (v / 2 ^ (32 - n))
def byN (i : Nat) : Nat := [7, 12, 17, 22, 5, 9, 14, 20, 4, 11, 16, 23, 6, 10, 15, 21].getD (4 * (i / 16) + i % 4) 0
def whichN (i : Nat) : Nat := if i / 16 = 0 then i else if i / 16 = 1 then (5 * i + 1) % 16 else if i / 16 = 2 then (3 * i + 5) % 16 else 7 * i % 16
/-- Four bytes from place k on, the lowest first. -/
def wordN (p : List Nat) (k : Nat) : Nat := ((p.getD k 0 ||| p.getD (k + 1) 0 * 256) ||| p.getD (k + 2) 0 * 65536) ||| p.getD (k + 3) 0 * 16777216
/-- The four numbers. -/
structure Q4 where
  a : Nat
  b : Nat
  c : Nat
  d : Nat
def addN (x y : Nat) : Nat := (x + y) % 4294967296
def dstepN (p : List Nat) (i : Nat) (q : Q4) : Q4 :=
  ⟨q.d, addN q.b (rotN (addN (addN (addN q.a (mixN i q.b q.c q.d)) (tabN.getD i 0)) (wordN p (4 * whichN i))) (byN i)), q.b, q.c⟩
/-- The first n steps. -/
def stepsN (p : List Nat) (q : Q4) : Nat → Q4
  | 0 => q
  | n + 1 => dstepN p n (stepsN p q n)
def blockN (s : Q4) (p : List Nat) : Q4 :=
  let q := stepsN p s 64
  ⟨addN s.a q.a, addN s.b q.b, addN s.c q.c, addN s.d q.d⟩
def lowN (n : Nat) : Nat → List Nat
  | 0 => []
  | k + 1 => n % 256 :: lowN (n / 256) k
/-- How many bytes 0 it takes. -/
def gapN (n : Nat) : Nat := (119 - n % 64) % 64
def padN (l : List Nat) : List Nat := l ++ 128 :: (List.replicate (gapN l.length) 0 ++ lowN (8 * l.length) 8)
def startN : Q4 := ⟨0x67452301, 0xefcdab89, 0x98badcfe, 0x10325476⟩
def blocksN : Nat → Q4 → List Nat → Q4
  | 0, s, _ => s
  | n + 1, s, p => blocksN n (blockN s p) (p.drop 64)
def outN (s : Q4) : List Nat := lowN s.a 4 ++ (lowN s.b 4 ++ (lowN s.c 4 ++ lowN s.d 4))
def ofN (l : List Nat) : List Nat := outN (blocksN ((padN l).length / 64) startN (padN l))
def keyN (k : List Nat) : List Nat := k.take 16 ++ List.replicate (16 - k.length) 0
def keyedN (k l : List Nat) : List Nat := ofN (l ++ keyN k)

theorem length_lowN (n k : Nat) : (lowN n k).length = k := by
  induction k generalizing n with
  | zero => rfl
  | succ k ih => simp [lowN, ih]
theorem length_padN (l : List Nat) : (padN l).length = l.length + 9 + gapN l.length := by simp [padN, length_lowN]; omega
theorem length_padN_mod (l : List Nat) : (padN l).length % 64 = 0 := by rw [length_padN]; unfold gapN; omega
theorem length_keyN (k : List Nat) : (keyN k).length = 16 := by simp [keyN]; omega
theorem length_outN (s : Q4) : (outN s).length = 16 := by simp [outN, length_lowN]
theorem lt32_addN (x y : Nat) : addN x y < 4294967296 := Nat.mod_lt _ (by decide)
theorem notN_lt (a : Nat) : notN a < 4294967296 := by unfold notN; omega
theorem or_lt32 {a b : Nat} (ha : a < 4294967296) (hb : b < 4294967296) : a ||| b < 4294967296 := Nat.or_lt_two_pow (n := 32) ha hb
theorem and_lt32 {a : Nat} (b : Nat) (ha : a < 4294967296) : a &&& b < 4294967296 := Nat.lt_of_le_of_lt Nat.and_le_left ha
theorem xor_lt32 {a b : Nat} (ha : a < 4294967296) (hb : b < 4294967296) : a ^^^ b < 4294967296 := Nat.xor_lt_two_pow (n := 32) ha hb
theorem mixN_lt {i b c d : Nat} (hb : b < 4294967296) (hc : c < 4294967296) (hd : d < 4294967296) : mixN i b c d < 4294967296 := by
  unfold mixN
  split
  · exact or_lt32 (and_lt32 _ hb) (and_lt32 _ (notN_lt _))
  split
  · exact or_lt32 (and_lt32 _ hd) (and_lt32 _ (notN_lt _))
  split
  · exact xor_lt32 (xor_lt32 hb hc) hd
  · exact xor_lt32 hc (or_lt32 hb (notN_lt _))
theorem rotN_lt {v : Nat} (n : Nat) (hv : v < 4294967296) : rotN v n < 4294967296 :=
  or_lt32 (Nat.mod_lt _ (by decide)) (Nat.lt_of_le_of_lt (Nat.div_le_self _ _) hv)
theorem tabN_lt (i : Nat) : tabN.getD i 0 < 4294967296 := by
  by_cases h : i < 64
  · exact (by decide +kernel : ∀ i, i < 64 → tabN.getD i 0 < 4294967296) i h
  · have e : tabN[i]? = none := List.getElem?_eq_none (by simpa [tabN] using h)
    simp [List.getD, e]
theorem whichN_lt {i : Nat} (h : i < 64) : whichN i < 16 := (by decide : ∀ i, i < 64 → whichN i < 16) i h
theorem byN_bd {i : Nat} (h : i < 64) : 4 ≤ byN i ∧ byN i ≤ 23 := (by decide : ∀ i, i < 64 → 4 ≤ byN i ∧ byN i ≤ 23) i h
/-- All four are of 32 bits. -/
def Q4.ok (q : Q4) : Prop := q.a < 4294967296 ∧ q.b < 4294967296 ∧ q.c < 4294967296 ∧ q.d < 4294967296
theorem stepN_ok {p : List Nat} {i : Nat} {q : Q4} (h : q.ok) : (dstepN p i q).ok := ⟨h.2.2.2, lt32_addN _ _, h.2.1, h.2.2.1⟩
theorem stepsN_ok {p : List Nat} {q : Q4} (h : q.ok) : ∀ n, (stepsN p q n).ok
  | 0 => h
  | n + 1 => stepN_ok (stepsN_ok h n)
theorem blockN_ok (s : Q4) (p : List Nat) : (blockN s p).ok := ⟨lt32_addN _ _, lt32_addN _ _, lt32_addN _ _, lt32_addN _ _⟩
theorem startN_ok : startN.ok := ⟨by decide, by decide, by decide, by decide⟩
/-- A block's end is all that the next one knows. -/
theorem blocksN_add (m n : Nat) (s : Q4) (p : List Nat) : blocksN (m + n) s p = blocksN n (blocksN m s p) (p.drop (64 * m)) := by
  induction m generalizing s p with
  | zero => simp [blocksN]
  | succ m ih =>
    rw [show m + 1 + n = (m + n) + 1 by omega]
    simp only [blocksN]
    rw [ih, List.drop_drop]
    congr 2
    omega
/-- Only the first 64 bytes count for a block. -/
theorem wordN_take (p : List Nat) {k : Nat} (h : k < 16) : wordN (p.take 64) (4 * k) = wordN p (4 * k) := by
  unfold wordN
  simp only [List.getD, List.getElem?_take]
  rw [if_pos (by omega), if_pos (by omega), if_pos (by omega), if_pos (by omega)]
theorem lowN_byte (n k : Nat) : ∀ x ∈ lowN n k, x < 256 := by
  induction k generalizing n with
  | zero => intro x hx; simp [lowN] at hx
  | succ k ih =>
    intro x hx
    simp only [lowN, List.mem_cons] at hx
    rcases hx with rfl | hx
    · omega
    · exact ih _ x hx
end Go.Proofs.YtjjgbcjgmjggnaaGreatDoor

namespace Go.Proofs.YtjjgbcjgmjggnaaGreatDoor
open Go.RowKit
set_option linter.unusedVariables false
set_option maxRecDepth 100000

theorem xor_ones {b : Nat} (h : b < 4294967296) : 4294967295 ^^^ b = notN b := by
  unfold notN
  apply Nat.eq_of_testBit_eq
  intro i
  have e : 4294967295 - b = 2 ^ 32 - (b + 1) := by omega
  rw [e, Nat.testBit_two_pow_sub_succ (by omega : b < 2 ^ 32), Nat.testBit_xor, show (4294967295 : Nat) = 2 ^ 32 - 1 by rfl, Nat.testBit_two_pow_sub_one]
  by_cases hi : i < 32
  · simp [hi]
  · have h2 : 2 ^ 32 ≤ 2 ^ i := Nat.pow_le_pow_right (by omega) (by omega)
    have : b.testBit i = false := Nat.testBit_lt_two_pow (by omega)
    simp [hi, this]
theorem bx {b : Nat} (h : b < 4294967296) : bits .xor .u32 IntKind.u32.max (b : Int) = ((notN b : Nat) : Int) := by
  have := u32_xor_nat 4294967295 b (by decide) h
  rw [xor_ones h] at this
  exact this
theorem band {a b : Nat} (ha : a < 4294967296) (hb : b < 4294967296) : bits .and .u32 (a : Int) (b : Int) = ((a &&& b : Nat) : Int) := u32_and_nat a b ha hb
theorem bor {a b : Nat} (ha : a < 4294967296) (hb : b < 4294967296) : bits .or .u32 (a : Int) (b : Int) = ((a ||| b : Nat) : Int) := u32_or_nat a b ha hb
theorem bxor {a b : Nat} (ha : a < 4294967296) (hb : b < 4294967296) : bits .xor .u32 (a : Int) (b : Int) = ((a ^^^ b : Nat) : Int) := u32_xor_nat a b ha hb

theorem f1_any (b c d : Nat) (hb : b < 4294967296) (hc : c < 4294967296) (hd : d < 4294967296) (w : World) :
    Calls Tryz.prog 141 #[.int .u32 (b : Int), .int .u32 (c : Int), .int .u32 (d : Int)] w fun e w' => e = .returned (.int .u32 (((b &&& c) ||| (notN b &&& d) : Nat) : Int)) ∧ w = w' := by
  have h1 := band hb hc
  have h2 := bx hb
  have h3 := band (notN_lt b) hd
  have h4 := bor (and_lt32 c hb) (and_lt32 d (notN_lt b))
  go_enter Tryz.func141, Tryz.ntmps141
  go_wp2
  go_ret
  exact ⟨rfl, rfl⟩

theorem f2_any (b c d : Nat) (hb : b < 4294967296) (hc : c < 4294967296) (hd : d < 4294967296) (w : World) :
    Calls Tryz.prog 142 #[.int .u32 (b : Int), .int .u32 (c : Int), .int .u32 (d : Int)] w fun e w' => e = .returned (.int .u32 (((d &&& b) ||| (notN d &&& c) : Nat) : Int)) ∧ w = w' := by
  have h1 := band hd hb
  have h2 := bx hd
  have h3 := band (notN_lt d) hc
  have h4 := bor (and_lt32 b hd) (and_lt32 c (notN_lt d))
  go_enter Tryz.func142, Tryz.ntmps142
  go_wp2
  go_ret
  exact ⟨rfl, rfl⟩

theorem f3_any (b c d : Nat) (hb : b < 4294967296) (hc : c < 4294967296) (hd : d < 4294967296) (w : World) :
    Calls Tryz.prog 143 #[.int .u32 (b : Int), .int .u32 (c : Int), .int .u32 (d : Int)] w fun e w' => e = .returned (.int .u32 (((b ^^^ c) ^^^ d : Nat) : Int)) ∧ w = w' := by
  have h1 := bxor hb hc
  have h2 := bxor (xor_lt32 hb hc) hd
  go_enter Tryz.func143, Tryz.ntmps143
  go_wp2
  go_ret
  exact ⟨rfl, rfl⟩

theorem f4_any (b c d : Nat) (hb : b < 4294967296) (hc : c < 4294967296) (hd : d < 4294967296) (w : World) :
    Calls Tryz.prog 144 #[.int .u32 (b : Int), .int .u32 (c : Int), .int .u32 (d : Int)] w fun e w' => e = .returned (.int .u32 ((c ^^^ (b ||| notN d) : Nat) : Int)) ∧ w = w' := by
  have h1 := bx hd
  have h2 := bor hb (notN_lt d)
  have h3 := bxor hc (or_lt32 hb (notN_lt d))
  go_enter Tryz.func144, Tryz.ntmps144
  go_wp2
  go_ret
  exact ⟨rfl, rfl⟩

theorem rmixed_any (i b c d : Nat) (hi : i < 64) (hb : b < 4294967296) (hc : c < 4294967296) (hd : d < 4294967296) (w : World) :
    Calls Tryz.prog 126 #[.int .i64 (i : Int), .int .u32 (b : Int), .int .u32 (c : Int), .int .u32 (d : Int)] w fun e w' => e = .returned (.int .u32 ((mixN i b c d : Nat) : Int)) ∧ w = w' := by
  by_cases hq0 : i / 16 = 0
  · rw [show mixN i b c d = (b &&& c) ||| (notN b &&& d) by unfold mixN; simp only [hq0, reduceIte, Nat.reduceEqDiff]]
    have g0 : (i : Int) / 16 = 0 := by omega
    have h1 := band hb hc
    have h2 := bx hb
    have h3 := band (notN_lt b) hd
    have h4 := bor (and_lt32 c hb) (and_lt32 d (notN_lt b))
    clear hq0
    go_enter Tryz.func126, Tryz.ntmps126
    go_wp2
    go_ret
    exact ⟨rfl, rfl⟩
  by_cases hq1 : i / 16 = 1
  · rw [show mixN i b c d = (d &&& b) ||| (notN d &&& c) by unfold mixN; simp only [hq1, reduceIte, Nat.reduceEqDiff]]
    have g0 : ((i : Int) / 16 == 0) = false := by simp; omega
    have g1 : (i : Int) / 16 = 1 := by omega
    have h1 := band hd hb
    have h2 := bx hd
    have h3 := band (notN_lt d) hc
    have h4 := bor (and_lt32 b hd) (and_lt32 c (notN_lt d))
    clear hq0 hq1
    go_enter Tryz.func126, Tryz.ntmps126
    go_wp2
    go_ret
    exact ⟨rfl, rfl⟩
  by_cases hq2 : i / 16 = 2
  · rw [show mixN i b c d = (b ^^^ c) ^^^ d by unfold mixN; simp only [hq2, reduceIte, Nat.reduceEqDiff]]
    have g0 : ((i : Int) / 16 == 0) = false := by simp; omega
    have g1 : ((i : Int) / 16 == 1) = false := by simp; omega
    have g2 : (i : Int) / 16 = 2 := by omega
    have h1 := bxor hb hc
    have h2 := bxor (xor_lt32 hb hc) hd
    clear hq0 hq1 hq2
    go_enter Tryz.func126, Tryz.ntmps126
    go_wp2
    go_ret
    exact ⟨rfl, rfl⟩
  · rw [show mixN i b c d = c ^^^ (b ||| notN d) by unfold mixN; simp only [hq0, hq1, hq2, reduceIte]]
    have g0 : ((i : Int) / 16 == 0) = false := by simp; omega
    have g1 : ((i : Int) / 16 == 1) = false := by simp; omega
    have g2 : ((i : Int) / 16 == 2) = false := by simp; omega
    have h1 := bx hd
    have h2 := bor hb (notN_lt d)
    have h3 := bxor hc (or_lt32 hb (notN_lt d))
    clear hq0 hq1 hq2
    go_enter Tryz.func126, Tryz.ntmps126
    go_wp2
    go_ret
    exact ⟨rfl, rfl⟩

theorem rwhich_any (i : Nat) (hi : i < 64) (w : World) :
    Calls Tryz.prog 124 #[.int .i64 (i : Int)] w fun e w' => e = .returned (.int .i64 ((whichN i : Nat) : Int)) ∧ w = w' := by
  by_cases hq0 : i / 16 = 0
  · rw [show whichN i = i by unfold whichN; simp only [hq0, reduceIte, Nat.reduceEqDiff]]
    have g0 : (i : Int) / 16 = 0 := by omega
    clear hq0
    go_enter Tryz.func124, Tryz.ntmps124
    go_wp2
    go_ret
    exact ⟨by simp, rfl⟩
  by_cases hq1 : i / 16 = 1
  · rw [show whichN i = (5 * i + 1) % 16 by unfold whichN; simp only [hq1, reduceIte, Nat.reduceEqDiff]]
    have g0 : ((i : Int) / 16 == 0) = false := by simp; omega
    have g1 : (i : Int) / 16 = 1 := by omega
    clear hq0 hq1
    go_enter Tryz.func124, Tryz.ntmps124
    go_wp2
    go_ret
    exact ⟨by simp, rfl⟩
  by_cases hq2 : i / 16 = 2
  · rw [show whichN i = (3 * i + 5) % 16 by unfold whichN; simp only [hq2, reduceIte, Nat.reduceEqDiff]]
    have g0 : ((i : Int) / 16 == 0) = false := by simp; omega
    have g1 : ((i : Int) / 16 == 1) = false := by simp; omega
    have g2 : (i : Int) / 16 = 2 := by omega
    clear hq0 hq1 hq2
    go_enter Tryz.func124, Tryz.ntmps124
    go_wp2
    go_ret
    exact ⟨by simp, rfl⟩
  · rw [show whichN i = 7 * i % 16 by unfold whichN; simp only [hq0, hq1, hq2, reduceIte]]
    have g0 : ((i : Int) / 16 == 0) = false := by simp; omega
    have g1 : ((i : Int) / 16 == 1) = false := by simp; omega
    have g2 : ((i : Int) / 16 == 2) = false := by simp; omega
    clear hq0 hq1 hq2
    go_enter Tryz.func124, Tryz.ntmps124
    go_wp2
    go_ret
    exact ⟨by simp, rfl⟩

/-- The turn, as the code reckons it. -/
theorem rot_is {v n : Nat} (hv : v < 4294967296) (h4 : 4 ≤ n) (hn : n ≤ 23) : bits .or .u32 ((v : Int) * 2 ^ n % 4294967296) ((v : Int) / 2 ^ (32 - n)) = ((rotN v n : Nat) : Int) := by
  have e1 : (v : Int) * 2 ^ n % 4294967296 = ((v * 2 ^ n % 4294967296 : Nat) : Int) := by simp
  have e2 : (v : Int) / 2 ^ (32 - n) = ((v / 2 ^ (32 - n) : Nat) : Int) := by simp
  rw [e1, e2]
  exact bor (Nat.mod_lt _ (by decide)) (Nat.lt_of_le_of_lt (Nat.div_le_self _ _) hv)
theorem rturned_any (v n : Nat) (hv : v < 4294967296) (h4 : 4 ≤ n) (hn : n ≤ 23) (w : World) :
    Calls Tryz.prog 125 #[.int .u32 (v : Int), .int .i64 (n : Int)] w fun e w' => e = .returned (.int .u32 ((rotN v n : Nat) : Int)) ∧ ∃ k, w' = w.drewN k := by
  have h1 := rot_is hv h4 hn
  have h0 : ¬ (n : Int) < 0 := by omega
  have h2 : (0 : Int) ≤ (32 : Int) - (n : Int) := by omega
  have h3 : ((32 : Int) - (n : Int)).toNat = 32 - n := by omega
  have h5 : min n 32 = n := by omega
  have h6 : min (32 - n) 32 = 32 - n := by omega
  go_enter Tryz.func125, Tryz.ntmps125
  go_wp2
  go_quiet (fail)
  go_wp2
  go_ret
  exact ⟨rfl, _, rfl⟩
theorem rot_any (v n : Nat) (hv : v < 4294967296) (h4 : 4 ≤ n) (hn : n ≤ 23) (w : World) :
    Calls Tryz.prog 145 #[.int .u32 (v : Int), .int .i64 (n : Int)] w fun e w' => e = .returned (.int .u32 ((rotN v n : Nat) : Int)) ∧ w = w' := by
  have h1 := rot_is hv h4 hn
  have h0 : bits .and .u64 (n : Int) 31 = (n : Int) := by
    have : ∀ n : Nat, n < 24 → bits .and .u64 (n : Int) 31 = (n : Int) := by decide
    exact this n (by omega)
  have h2 : (0 : Int) ≤ (32 : Int) - (n : Int) := by omega
  have h3 : ((32 : Int) - (n : Int)).toNat = 32 - n := by omega
  have h5 : min n 32 = n := by omega
  have h6 : min (32 - n) 32 = 32 - n := by omega
  go_enter Tryz.func145, Tryz.ntmps145
  go_wp2
  go_ret
  exact ⟨rfl, rfl⟩

def bySteps : List Nat := [7, 12, 17, 22, 5, 9, 14, 20, 4, 11, 16, 23, 6, 10, 15, 21]
theorem by_cell (j : Nat) (h : j < 16) : ([Value.int .i64 7, .int .i64 12, .int .i64 17, .int .i64 22, .int .i64 5, .int .i64 9, .int .i64 14, .int .i64 20, .int .i64 4, .int .i64 11, .int .i64 16, .int .i64 23, .int .i64 6, .int .i64 10, .int .i64 15, .int .i64 21] : List Value)[j]? = some (.int .i64 ((bySteps.getD j 0 : Nat) : Int)) := by
  match j, h with
  | 0, _ | 1, _ | 2, _ | 3, _ | 4, _ | 5, _ | 6, _ | 7, _ | 8, _ | 9, _ | 10, _ | 11, _ | 12, _ | 13, _ | 14, _ | 15, _ => rfl
  | n + 16, h => omega
theorem rby_any (i : Nat) (hi : i < 64) (w : World) :
    Calls Tryz.prog 127 #[.int .i64 (i : Int)] w fun e w' => e = .returned (.int .i64 ((byN i : Nat) : Int)) ∧ Touch (fun _ => False) w w' := by
  have hb := by_cell (4 * (i / 16) + i % 4) (by omega)
  rw [show bySteps.getD (4 * (i / 16) + i % 4) 0 = byN i from rfl] at hb
  have h1 : 4 * ((i : Int) / 16) + (i : Int) % 4 = ((4 * (i / 16) + i % 4 : Nat) : Int) := by omega
  have h2 : 4 * (i / 16) + i % 4 < 16 := by omega
  revert hb h1 h2
  generalize byN i = B
  generalize 4 * (i / 16) + i % 4 = j
  intro hb h1 h2
  have HB : Hid _ := hb
  clear hb
  go_enter Tryz.func127, Tryz.ntmps127
  go_wp2
  go_ret
  exact ⟨congrArg Ending.returned ((List.getElem?_eq_some_iff.mp HB.out).2), (Touch.refl _ w).alloc _⟩
end Go.Proofs.YtjjgbcjgmjggnaaGreatDoor
