/- What a call returned, by an equation. -/
import Derived.Test.YthilfealloakdaaParts
import Derived.Laws.BitsAllLaws
namespace Go.Proofs.Ythilfealloakdaa
open Go.RowKit
set_option linter.unusedVariables false

theorem ret_int {k : IntKind} {a b : Int} (h : a = b) : Ending.returned (.int k a) = .returned (.int k b) := by rw [h]
theorem ret_bool {a b : Bool} (h : a = b) : Ending.returned (.bool a) = .returned (.bool b) := by rw [h]
theorem ret_bits {a b : Int} {c d : Bool} (h : a = b) (h' : c = d) : Ending.returned (.tuple #[.int .u8 a, .bool c]) = .returned (.tuple #[.int .u8 b, .bool d]) := by rw [h, h']
end Go.Proofs.Ythilfealloakdaa

namespace Go.Proofs.Ythilfealloakdaa
open Go.RowKit
set_option linter.unusedVariables false

/-- T0 to T63. -/
def tabN : List Nat := [
  0xd76aa478, 0xe8c7b756, 0x242070db, 0xc1bdceee, 0xf57c0faf, 0x4787c62a, 0xa8304613, 0xfd469501,
  0x698098d8, 0x8b44f7af, 0xffff5bb1, 0x895cd7be, 0x6b901122, 0xfd987193, 0xa679438e, 0x49b40821,
  0xf61e2562, 0xc040b340, 0x265e5a51, 0xe9b6c7aa, 0xd62f105d, 0x02441453, 0xd8a1e681, 0xe7d3fbc8,
  0x21e1cde6, 0xc33707d6, 0xf4d50d87, 0x455a14ed, 0xa9e3e905, 0xfcefa3f8, 0x676f02d9, 0x8d2a4c8a,
  0xfffa3942, 0x8771f681, 0x6d9d6122, 0xfde5380c, 0xa4beea44, 0x4bdecfa9, 0xf6bb4b60, 0xbebfbc70,
  0x289b7ec6, 0xeaa127fa, 0xd4ef3085, 0x04881d05, 0xd9d4d039, 0xe6db99e5, 0x1fa27cf8, 0xc4ac5665,
  0xf4292244, 0x432aff97, 0xab9423a7, 0xfc93a039, 0x655b59c3, 0x8f0ccc92, 0xffeff47d, 0x85845dd1,
  0x6fa87e4f, 0xfe2ce6e0, 0xa3014314, 0x4e0811a1, 0xf7537e82, 0xbd3af235, 0x2ad7d2bb, 0xeb86d391]
def notN (a : Nat) : Nat := 4294967295 - a
def mixN (i b c d : Nat) : Nat :=
  if i / 16 = 0 then (b &&& c) ||| (notN b &&& d)
  else if i / 16 = 1 then (d &&& b) ||| (notN d &&& c)
  else if i / 16 = 2 then (b ^^^ c) ^^^ d
  else c ^^^ (b ||| notN d)
def rotN (v n : Nat) : Nat := (v * 2 ^ n % 4294967296) ||| (v / 2 ^ (32 - n))
def byN (i : Nat) : Nat := [7, 12, 17, 22, 5, 9, 14, 20, 4, 11, 16, 23, 6, 10, 15, 21].getD (4 * (i / 16) + i % 4) 0
def whichN (i : Nat) : Nat := if i / 16 = 0 then i else if i / 16 = 1 then (5 * i + 1) % 16 else if i / 16 = 2 then (3 * i + 5) % 16 else 7 * i % 16
/-- Four bytes from place k on, the lowest first. -/
def wordN (p : List Nat) (k : Nat) : Nat := ((p.getD k 0 ||| p.getD (k + 1) 0 * 256) ||| p.getD (k + 2) 0 * 65536) ||| p.getD (k + 3) 0 * 16777216
/-- The four numbers. -/
structure Q4 where
  a : Nat
  b : Nat
  c : Nat
  d : Nat
def addN (x y : Nat) : Nat := (x + y) % 4294967296
def dstepN (p : List Nat) (i : Nat) (q : Q4) : Q4 :=
  ⟨q.d, addN q.b (rotN (addN (addN (addN q.a (mixN i q.b q.c q.d)) (tabN.getD i 0)) (wordN p (4 * whichN i))) (byN i)), q.b, q.c⟩
/-- The first n steps. -/
def stepsN (p : List Nat) (q : Q4) : Nat → Q4
  | 0 => q
  | n + 1 => dstepN p n (stepsN p q n)
def blockN (s : Q4) (p : List Nat) : Q4 :=
  let q := stepsN p s 64
  ⟨addN s.a q.a, addN s.b q.b, addN s.c q.c, addN s.d q.d⟩
def lowN (n : Nat) : Nat → List Nat
  | 0 => []
  | k + 1 => n % 256 :: lowN (n / 256) k
/-- How many bytes 0 it takes. -/
def gapN (n : Nat) : Nat := (119 - n % 64) % 64
def padN (l : List Nat) : List Nat := l ++ 128 :: (List.replicate (gapN l.length) 0 ++ lowN (8 * l.length) 8)
def startN : Q4 := ⟨0x67452301, 0xefcdab89, 0x98badcfe, 0x10325476⟩
def blocksN : Nat → Q4 → List Nat → Q4
  | 0, s, _ => s
  | n + 1, s, p => blocksN n (blockN s p) (p.drop 64)
def outN (s : Q4) : List Nat := lowN s.a 4 ++ (lowN s.b 4 ++ (lowN s.c 4 ++ lowN s.d 4))
def ofN (l : List Nat) : List Nat := outN (blocksN ((padN l).length / 64) startN (padN l))
def keyN (k : List Nat) : List Nat := k.take 16 ++ List.replicate (16 - k.length) 0
def keyedN (k l : List Nat) : List Nat := ofN (l ++ keyN k)

theorem abc_is : ofN [97, 98, 99] = [0x90, 0x01, 0x50, 0x98, 0x3c, 0xd2, 0x4f, 0xb0, 0xd6, 0x96, 0x3f, 0x7d, 0x28, 0xe1, 0x7f, 0x72] := by decide +kernel

theorem length_lowN (n k : Nat) : (lowN n k).length = k := by
  induction k generalizing n with
  | zero => rfl
  | succ k ih => simp [lowN, ih]
theorem length_padN (l : List Nat) : (padN l).length = l.length + 9 + gapN l.length := by simp [padN, length_lowN]; omega
theorem length_padN_mod (l : List Nat) : (padN l).length % 64 = 0 := by rw [length_padN]; unfold gapN; omega
theorem length_keyN (k : List Nat) : (keyN k).length = 16 := by simp [keyN]; omega
theorem length_outN (s : Q4) : (outN s).length = 16 := by simp [outN, length_lowN]
/-- A key counts by its first sixteen bytes, with noughts behind. -/
theorem keyN_long (k m : List Nat) : keyN (k ++ (List.replicate (16 - k.length) 0 ++ m)) = keyN k := by
  unfold keyN
  rw [← List.append_assoc]
  by_cases h : 16 ≤ k.length
  · rw [show 16 - k.length = 0 by omega]
    simp [List.take_append_of_le_length h, show 16 - (k.length + m.length) = 0 by omega]
  · have hl : (k ++ List.replicate (16 - k.length) 0).length = 16 := by simp; omega
    rw [List.take_append_of_le_length (by omega), List.take_of_length_le (by omega), List.take_of_length_le (by omega)]
    simp
    omega
theorem lt32_addN (x y : Nat) : addN x y < 4294967296 := Nat.mod_lt _ (by decide)
theorem notN_lt (a : Nat) : notN a < 4294967296 := by unfold notN; omega
theorem or_lt32 {a b : Nat} (ha : a < 4294967296) (hb : b < 4294967296) : a ||| b < 4294967296 := Nat.or_lt_two_pow (n := 32) ha hb
theorem and_lt32 {a : Nat} (b : Nat) (ha : a < 4294967296) : a &&& b < 4294967296 := Nat.lt_of_le_of_lt Nat.and_le_left ha
theorem xor_lt32 {a b : Nat} (ha : a < 4294967296) (hb : b < 4294967296) : a ^^^ b < 4294967296 := Nat.xor_lt_two_pow (n := 32) ha hb
theorem mixN_lt {i b c d : Nat} (hb : b < 4294967296) (hc : c < 4294967296) (hd : d < 4294967296) : mixN i b c d < 4294967296 := by
  unfold mixN
  split
  · exact or_lt32 (and_lt32 _ hb) (and_lt32 _ (notN_lt _))
  split
  · exact or_lt32 (and_lt32 _ hd) (and_lt32 _ (notN_lt _))
  split
  · exact xor_lt32 (xor_lt32 hb hc) hd
  · exact xor_lt32 hc (or_lt32 hb (notN_lt _))
theorem rotN_lt {v : Nat} (n : Nat) (hv : v < 4294967296) : rotN v n < 4294967296 :=
  or_lt32 (Nat.mod_lt _ (by decide)) (Nat.lt_of_le_of_lt (Nat.div_le_self _ _) hv)
theorem tabN_lt (i : Nat) : tabN.getD i 0 < 4294967296 := by
  by_cases h : i < 64
  · exact (by decide +kernel : ∀ i, i < 64 → tabN.getD i 0 < 4294967296) i h
  · have e : tabN[i]? = none := List.getElem?_eq_none (by simpa [tabN] using h)
    simp [List.getD, e]
theorem whichN_lt {i : Nat} (h : i < 64) : whichN i < 16 := (by decide : ∀ i, i < 64 → whichN i < 16) i h
theorem byN_bd {i : Nat} (h : i < 64) : 4 ≤ byN i ∧ byN i ≤ 23 := (by decide : ∀ i, i < 64 → 4 ≤ byN i ∧ byN i ≤ 23) i h
/-- All four are of 32 bits. -/
def Q4.ok (q : Q4) : Prop := q.a < 4294967296 ∧ q.b < 4294967296 ∧ q.c < 4294967296 ∧ q.d < 4294967296
theorem stepN_ok {p : List Nat} {i : Nat} {q : Q4} (h : q.ok) : (dstepN p i q).ok := ⟨h.2.2.2, lt32_addN _ _, h.2.1, h.2.2.1⟩
theorem stepsN_ok {p : List Nat} {q : Q4} (h : q.ok) : ∀ n, (stepsN p q n).ok
  | 0 => h
  | n + 1 => stepN_ok (stepsN_ok h n)
theorem blockN_ok (s : Q4) (p : List Nat) : (blockN s p).ok := ⟨lt32_addN _ _, lt32_addN _ _, lt32_addN _ _, lt32_addN _ _⟩
theorem startN_ok : startN.ok := ⟨by decide, by decide, by decide, by decide⟩
/-- A block's end is all that the next one knows. -/
theorem blocksN_add (m n : Nat) (s : Q4) (p : List Nat) : blocksN (m + n) s p = blocksN n (blocksN m s p) (p.drop (64 * m)) := by
  induction m generalizing s p with
  | zero => simp [blocksN]
  | succ m ih =>
    rw [show m + 1 + n = (m + n) + 1 by omega]
    simp only [blocksN]
    rw [ih, List.drop_drop]
    congr 2
    omega
/-- Only the first 64 bytes count for a block. -/
theorem wordN_take (p : List Nat) {k : Nat} (h : k < 16) : wordN (p.take 64) (4 * k) = wordN p (4 * k) := by
  unfold wordN
  simp only [List.getD, List.getElem?_take]
  rw [if_pos (by omega), if_pos (by omega), if_pos (by omega), if_pos (by omega)]
theorem lowN_byte (n k : Nat) : ∀ x ∈ lowN n k, x < 256 := by
  induction k generalizing n with
  | zero => intro x hx; simp [lowN] at hx
  | succ k ih =>
    intro x hx
    simp only [lowN, List.mem_cons] at hx
    rcases hx with rfl | hx
    · omega
    · exact ih _ x hx
end Go.Proofs.Ythilfealloakdaa
