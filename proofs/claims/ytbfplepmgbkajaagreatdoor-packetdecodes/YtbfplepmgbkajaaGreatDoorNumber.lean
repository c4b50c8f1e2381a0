/- Worlds in which nothing of an older one has turned, for regions that draw their order. -/
import Derived.Test.YtbfplepmgbkajaaGreatDoorWideV
import Derived.WalkKit
import Derived.Test.YtbfplepmgbkajaaGreatDoorKeep
import Derived.Lib.SliceRun
namespace Go.Proofs.YtbfplepmgbkajaaGreatDoor
open Go.RowKit
set_option linter.unusedVariables false
set_option maxRecDepth 100000

/-- Nothing of x has turned in w. -/
structure Since (x w : World) : Prop where
 t : Touch (fun _ => False) x w
theorem Since.start (x : World) : Since x x.drew := ⟨(Touch.refl _ _).drew⟩
theorem since_cell {x : World} {p : Addr} {v : Value} (h : x.cell? p = some v) : ∀ w, Since x w → w.cell? p = some v := fun w s => s.t.cellN h
end Go.Proofs.YtbfplepmgbkajaaGreatDoor

namespace Go.Proofs.YtbfplepmgbkajaaGreatDoor
set_option linter.unusedVariables false

def numBytes (n : Nat) (x : Int) : List Int := [x / 16777216 % 256, x / 65536 % 256, x / 256 % 256, x % 256].drop (4 - n)
theorem length_numBytes {n : Nat} (h : n ≤ 4) (x : Int) : (numBytes n x).length = n := by simp [numBytes]; omega
theorem numBytes_byte (n : Nat) (x : Int) : ∀ z ∈ numBytes n x, 0 ≤ z ∧ z < 256 := by
 intro z hz
 have := List.mem_of_mem_drop hz
 simp at this
 omega
theorem numBytes2 (x : Int) : numBytes 2 x = [x / 256 % 256, x % 256] := rfl
theorem numBytes4 (x : Int) : numBytes 4 x = [x / 16777216 % 256, x / 65536 % 256, x / 256 % 256, x % 256] := rfl
/-- The number of bytes. -/
def numOf (l : List Int) : Int := l.foldl (fun v z => 256 * v + z) 0
theorem numOf_snoc (l : List Int) (z : Int) : numOf (l ++ [z]) = 256 * numOf l + z := by simp [numOf]
theorem foldl_bound (l : List Int) (h : ∀ z ∈ l, 0 ≤ z ∧ z < 256) : ∀ v : Int, 0 ≤ v → 0 ≤ l.foldl (fun v z => 256 * v + z) v ∧ l.foldl (fun v z => 256 * v + z) v < (v + 1) * 256 ^ l.length := by
 induction l with
 | nil => intro v hv; simp; omega
 | cons z r ih =>
  intro v hv
  have hz := h z (by simp)
  have := ih (fun z hz => h z (by simp [hz])) (256 * v + z) (by omega)
  refine ⟨this.1, Int.lt_of_lt_of_le this.2 ?_⟩
  rw [List.length_cons, Int.pow_succ, Int.mul_comm (256 ^ r.length) 256, ← Int.mul_assoc]
  exact Int.mul_le_mul_of_nonneg_right (by omega) (Int.pow_nonneg (by omega))
theorem numOf_bound (l : List Int) (h : ∀ z ∈ l, 0 ≤ z ∧ z < 256) : 0 ≤ numOf l ∧ numOf l < 256 ^ l.length := by
 have := foldl_bound l h 0 (by omega)
 rw [show (0 : Int) + 1 = 1 by omega, Int.one_mul] at this
 exact this
theorem numBytes_two (a b : Int) (ha : 0 ≤ a ∧ a < 256) (hb : 0 ≤ b ∧ b < 256) : numBytes 2 (numOf [a, b]) = [a, b] := by simp [numOf, numBytes2]; omega
theorem numBytes_four (a b c d : Int) (ha : 0 ≤ a ∧ a < 256) (hb : 0 ≤ b ∧ b < 256) (hc : 0 ≤ c ∧ c < 256) (hd : 0 ≤ d ∧ d < 256) : numBytes 4 (numOf [a, b, c, d]) = [a, b, c, d] := by
 simp [numOf, numBytes4]; omega
end Go.Proofs.YtbfplepmgbkajaaGreatDoor

namespace Go.Proofs.YtbfplepmgbkajaaGreatDoor
open Go.RowKit
set_option linter.unusedVariables false

theorem ret_int {k : IntKind} {a b : Int} (h : a = b) : Ending.returned (.int k a) = .returned (.int k b) := by rw [h]
theorem ret_bool {a b : Bool} (h : a = b) : Ending.returned (.bool a) = .returned (.bool b) := by rw [h]
end Go.Proofs.YtbfplepmgbkajaaGreatDoor

namespace Go.Proofs.YtbfplepmgbkajaaGreatDoor
open Go.RowKit
set_option linter.unusedVariables false
set_option maxRecDepth 100000

/-- A head's numbers. -/
structure HV where
 age : Int
 opts : Int
 typ : Int
 id : Int
 adv : Int
 seq : Int
 sum : Int
 len : Int
def HV.v (h : HV) : Value := .agg #[.int .u16 h.age, .int .u8 h.opts, .int .u8 h.typ, .int .u32 h.id, .int .u32 h.adv, .int .i32 h.seq, .int .u16 h.sum, .int .u16 h.len]
/-- A key's numbers. -/
structure KV where
 typ : Int
 id : Int
 adv : Int
/-- It lies in block g. -/
structure Hd (w : World) (g : Nat) (h : HV) : Prop where
 c0 : w.cell? ⟨g, 0, none⟩ = some (.int .u16 h.age)
 c1 : w.cell? ⟨g, 1, none⟩ = some (.int .u8 h.opts)
 c2 : w.cell? ⟨g, 2, none⟩ = some (.int .u8 h.typ)
 c3 : w.cell? ⟨g, 3, none⟩ = some (.int .u32 h.id)
 c4 : w.cell? ⟨g, 4, none⟩ = some (.int .u32 h.adv)
 c5 : w.cell? ⟨g, 5, none⟩ = some (.int .i32 h.seq)
 c6 : w.cell? ⟨g, 6, none⟩ = some (.int .u16 h.sum)
 c7 : w.cell? ⟨g, 7, none⟩ = some (.int .u16 h.len)
theorem Hd.keep {w w' : World} {g : Nat} {h : HV} (k : Hd w g h) (t : Touch (fun _ => False) w w') : Hd w' g h :=
 ⟨t.cellN k.c0, t.cellN k.c1, t.cellN k.c2, t.cellN k.c3, t.cellN k.c4, t.cellN k.c5, t.cellN k.c6, t.cellN k.c7⟩
theorem Hd.new (w : World) (h : HV) (t : TypeId) :
  Hd (w.alloc (.cells #[.int .u16 h.age, .int .u8 h.opts, .int .u8 h.typ, .int .u32 h.id, .int .u32 h.adv, .int .i32 h.seq, .int .u16 h.sum, .int .u16 h.len] t)) w.heap.size h :=
 ⟨by simp [go_sem], by simp [go_sem], by simp [go_sem], by simp [go_sem], by simp [go_sem], by simp [go_sem], by simp [go_sem], by simp [go_sem]⟩
end Go.Proofs.YtbfplepmgbkajaaGreatDoor

namespace Go.Proofs.YtbfplepmgbkajaaGreatDoor
open Go.RowKit
set_option linter.unusedVariables false

/-- The sum of all bytes. -/
def S0 : List Int → Int
 | [] => 0
 | x :: r => x + S0 r
/-- The bytes, the first n times, each next one once less. -/
def C1 : Int → List Int → Int
 | _, [] => 0
 | n, x :: r => n * x + C1 (n - 1) r
def S1 (l : List Int) : Int := C1 l.length l

/-- What the two cells hold behind the bytes l. -/
structure Run (l : List Int) (a b : Int) : Prop where
 c0 : a % 255 = S0 l % 255
 c1 : b % 255 = S1 l % 255
/-- The words added up; the flag: the next byte is a higher one. -/
def W : Bool → List Int → Int
 | _, [] => 0
 | true, x :: r => 256 * x + W false r
 | false, x :: r => x + W true r
def par (b : Bool) (n : Nat) : Bool := if n % 2 = 0 then b else !b
theorem par_succ (b : Bool) (n : Nat) : par b (n + 1) = par (!b) n := by
 unfold par
 by_cases h : n % 2 = 0
 ·rw [if_neg (by omega), if_pos h]
 ·rw [if_pos (by omega), if_neg h]; simp
theorem W_append (b : Bool) (l m : List Int) : W b (l ++ m) = W b l + W (par b l.length) m := by
 induction l generalizing b with
 | nil => simp [W, par]
 | cons x r ih =>
  rw [List.length_cons, par_succ]
  cases b with
  | true => simp only [List.cons_append, W, ih, Bool.not_true]; omega
  | false => simp only [List.cons_append, W, ih, Bool.not_false]; omega
theorem W_even {l : List Int} (h : l.length % 2 = 0) (x : Int) : W true (l ++ [x]) = W true l + 256 * x := by
 rw [W_append]; simp [par, h, W]
theorem W_odd {l : List Int} (h : ¬ l.length % 2 = 0) (x : Int) : W true (l ++ [x]) = W true l + x := by
 rw [W_append]; simp [par, h, W]
theorem W_nonneg (b : Bool) (l : List Int) (h : ∀ x ∈ l, 0 ≤ x ∧ x < 256) : 0 ≤ W b l := by
 induction l generalizing b with
 | nil => simp [W]
 | cons x r ih =>
  have hx := h x (by simp)
  have hr := fun b => ih b (fun y hy => h y (by simp [hy]))
  cases b with
  | true => have := hr false; simp only [W]; omega
  | false => have := hr true; simp only [W]; omega
/-- The folded sum. -/
def fold (n : Int) : Int := if n = 0 then 0 else (n - 1) % 65535 + 1
theorem fold_small {n : Int} (h0 : 0 ≤ n) (h : n ≤ 65535) : fold n = n := by unfold fold; split <;> omega
theorem fold_bound (n : Int) : 0 ≤ fold n ∧ fold n ≤ 65535 := by unfold fold; split <;> omega
theorem fold_step {n : Int} (h : 65535 < n) : fold (n / 65536 + n % 65536) = fold n := by
 unfold fold
 rw [if_neg (by omega), if_neg (by omega)]
 omega
theorem fold_fold (n : Int) : fold (fold n) = fold n := fold_small (fold_bound n).1 (fold_bound n).2
theorem fold_add {a b : Int} (ha : 0 ≤ a) (hb : 0 ≤ b) (h : fold a = fold b) {x : Int} (hx : 0 ≤ x) : fold (a + x) = fold (b + x) := by
 revert h
 unfold fold
 intro h
 split at h <;> split at h <;> split <;> split <;> omega
/-- What the two cells of words hold behind the bytes l. -/
structure WRun (l : List Int) (h k : Int) : Prop where
 eq : fold (256 * h + k) = fold (W true l)
 h0 : 0 ≤ h
 k0 : 0 ≤ k
 w0 : 0 ≤ W true l
theorem WRun.zero : WRun [] 0 0 := ⟨rfl, Int.le_refl _, Int.le_refl _, Int.le_refl _⟩
theorem WRun.even {l : List Int} {h k : Int} (r : WRun l h k) (e : l.length % 2 = 0) {x : Int} (hx : 0 ≤ x) : WRun (l ++ [x]) (h + x) k := by
 obtain ⟨r1, r2, r3, r4⟩ := r
 refine ⟨?_, by omega, r3, by rw [W_even e]; omega⟩
 rw [W_even e, ← fold_add (by omega) r4 r1 (x := 256 * x) (by omega)]
 congr 1
 omega
theorem WRun.odd {l : List Int} {h k : Int} (r : WRun l h k) (e : ¬ l.length % 2 = 0) {x : Int} (hx : 0 ≤ x) : WRun (l ++ [x]) h (k + x) := by
 obtain ⟨r1, r2, r3, r4⟩ := r
 refine ⟨?_, r2, by omega, by rw [W_odd e]; omega⟩
 rw [W_odd e, ← fold_add (by omega) r4 r1 (x := x) hx]
 congr 1
 omega
theorem WRun.lower {l : List Int} {h k : Int} (r : WRun l h k) : WRun l (fold (256 * h + k) / 256) (fold (256 * h + k) % 256) := by
 obtain ⟨r1, r2, r3, r4⟩ := r
 have hb := fold_bound (256 * h + k)
 refine ⟨?_, by omega, by omega, r4⟩
 rw [show 256 * (fold (256 * h + k) / 256) + fold (256 * h + k) % 256 = fold (256 * h + k) by omega, fold_fold, r1]

/-- The bytes with two others at a place. -/
def laid (l : List Int) (at' : Nat) (x y : Int) : List Int := (l.set at' x).set (at' + 1) y
/-- Both sums are 0. -/
def whole (l : List Int) : Bool := (S0 l % 255 == 0) && (S1 l % 255 == 0)
end Go.Proofs.YtbfplepmgbkajaaGreatDoor

namespace Go.Proofs.YtbfplepmgbkajaaGreatDoor
open Go.RowKit
set_option linter.unusedVariables false
set_option maxRecDepth 100000

/-- A link's numbers. -/
structure LV where
 id : Int
 data : Int
 typ : Int
 cost : Int
/-- A head's numbers fit their kinds. -/
structure HV.All (h : HV) : Prop where
 a : 0 ≤ h.age ∧ h.age < 65536
 o : 0 ≤ h.opts ∧ h.opts < 256
 t : 0 ≤ h.typ ∧ h.typ < 256
 i : 0 ≤ h.id ∧ h.id < 4294967296
 v : 0 ≤ h.adv ∧ h.adv < 4294967296
 s : -2147483648 ≤ h.seq ∧ h.seq ≤ 2147483647
 m : 0 ≤ h.sum ∧ h.sum < 65536
 l : 0 ≤ h.len ∧ h.len < 65536

/-- A head's twenty bytes. -/
def headB (h : HV) : List Int := numBytes 2 h.age ++ [h.opts, h.typ] ++ numBytes 4 h.id ++ numBytes 4 h.adv ++ numBytes 4 (h.seq % 4294967296) ++ numBytes 2 h.sum ++ numBytes 2 h.len
theorem length_headB (h : HV) : (headB h).length = 20 := by simp [headB, numBytes]
end Go.Proofs.YtbfplepmgbkajaaGreatDoor

namespace Go.Proofs.YtbfplepmgbkajaaGreatDoor
open Go.RowKit
set_option linter.unusedVariables false
set_option maxRecDepth 100000

def wordsC (l : List Int) : List Value := l.map (Value.int .u32)
theorem wordsC_append (a b : List Int) : wordsC (a ++ b) = wordsC a ++ wordsC b := by simp [wordsC]
def WordsAt (w : World) (v : Value) (l : List Int) : Prop := ValsAt w 1 v l.length (wordsC l)
theorem WordsAt.keep {w w' : World} {v : Value} {l : List Int} (h : WordsAt w v l) (t : Touch (fun _ => False) w w') : WordsAt w' v l := ValsAt.keep h t
theorem ArgAt.keepN {w w' : World} {v : Value} {l : List Int} (h : ArgAt w v l) (t : Touch (fun _ => False) w w') : ArgAt w' v l := h.keep t (fun _ _ h => h)

/-- A state as a value: its head's numbers, the row of its body. -/
def HV.sv (h : HV) (v : Value) : Value := .agg #[.int .u16 h.age, .int .u8 h.opts, .int .u8 h.typ, .int .u32 h.id, .int .u32 h.adv, .int .i32 h.seq, .int .u16 h.sum, .int .u16 h.len, v]
structure Sd (w : World) (g : Nat) (h : HV) (v : Value) : Prop where
 hd : Hd w g h
 c8 : w.cell? ⟨g, 8, none⟩ = some v
theorem Sd.keep {w w' : World} {g : Nat} {h : HV} {v : Value} (k : Sd w g h v) (t : Touch (fun _ => False) w w') : Sd w' g h v := ⟨k.hd.keep t, t.cellN k.c8⟩
theorem Sd.new (w : World) (h : HV) (v : Value) (t : TypeId) :
  Sd (w.alloc (.cells #[.int .u16 h.age, .int .u8 h.opts, .int .u8 h.typ, .int .u32 h.id, .int .u32 h.adv, .int .i32 h.seq, .int .u16 h.sum, .int .u16 h.len, v] t)) w.heap.size h v :=
 ⟨⟨by simp [go_sem], by simp [go_sem], by simp [go_sem], by simp [go_sem], by simp [go_sem], by simp [go_sem], by simp [go_sem], by simp [go_sem]⟩, by simp [go_sem]⟩
end Go.Proofs.YtbfplepmgbkajaaGreatDoor

namespace Go.Proofs.YtbfplepmgbkajaaGreatDoor
open Go.RowKit
set_option linter.unusedVariables false
set_option maxRecDepth 100000

theorem Tryz.info5r : (Tryz.prog.info? 5).map (fun i => (i.zero, i.size, i.bytes)) = some (some (.int .u8 0), 1, 1) := by kernel_rfl

theorem clone_some (ad : Addr) (c : Nat) (ns : List Int) (w : World) (hs : ∀ j u, (bytesOf ns)[j]? = some u → w.cell? (ad.add j) = some u) (hcap : ns.length ≤ 1099511627776) :
  Calls Tryz.prog 137 #[.slice (some ad) ns.length c] w fun e w' => ∃ v, e = .returned v ∧ w'.ownsRow w.heap.size 5 1 v ns.length (bytesOf ns) ∧ Touch (fun _ => False) w w' ∧ v.ownBlock ≠ none := by
 obtain ⟨i0, hi, hz0, hz1, hz2⟩ := info_parts Tryz.info5r
 have hq := fun (w : World) (a : Option Addr) (n c n' c' : Nat) => Lib.run_eql_slice_nil (P := Tryz.prog) w 40 5 a n c n' c' Tryz.underlying40
 go_enter Tryz.func137, Tryz.ntmps137
 go_wp2_with (at_builtin; refine wpList_append_own_at _ rfl (.tmp 5) (.tmp 6) 40 rfl w.heap.size 5 i0 (.int .u8 0) 1 1 Tryz.underlying40 hi hz0 hz1 hz2 rfl (by decide) (.slice (some ⟨w.heap.size, 0, none⟩) 0 0) 0 [] rfl ?c0 ad ns.length c (bytesOf ns) rfl ?c6 ?c1 ?c2 ?c3 ?c4 ?c5 ?_)
 case c0 => exact World.ownsRow_lit w #[] 0 (Nat.le_refl _) (by simp [maxLen]) (by simp)
 case c6 => simp [length_bytesOf]
 case c1 => exact fun j u hj => ((Touch.refl _ w).alloc _).cellN (hs j u hj)
 case c2 => exact oneCell_bytesOf ns
 case c3 => unfold maxLen; omega
 case c4 => omega
 case c5 => simp
 intro v' w1 hown' hgrow _ hat
 have t1 : Touch (fun _ => False) w w1 := ((Touch.refl _ w).alloc _).grown hgrow (fun k hk => Or.inr (by simp [Value.ownBlock] at hk; omega))
 have hne : v'.ownBlock ≠ none := by rcases hat with h | h <;> rw [h] <;> simp [Value.ownBlock]
 clear hgrow hat
 go_wp2
 go_ret
 exact ⟨v', rfl, by simpa using hown', t1, hne⟩

theorem clone_nil (w : World) :
  Calls Tryz.prog 137 #[.slice none 0 0] w fun e w' => e = .returned (.slice none 0 0) ∧ w = w' := by
 have hq := fun (w : World) (a : Option Addr) (n c n' c' : Nat) => Lib.run_eql_slice_nil (P := Tryz.prog) w 40 5 a n c n' c' Tryz.underlying40
 go_enter Tryz.func137, Tryz.ntmps137
 go_wp2
 go_ret
 exact ⟨rfl, rfl⟩

theorem write_any (most : Int) (w : World) (hm : 0 ≤ most) :
  Calls Tryz.prog 95 #[.int .i64 most] w fun e w' => e = .returned (.pointer (some ⟨w.heap.size, 0, none⟩)) ∧ WrS w' w.heap.size (.slice none 0 0) [] most 0 ∧ Touch (fun _ => False) w w' := by
 go_enter Tryz.func95, Tryz.ntmps95
 go_wp2
 go_ret
 refine ⟨rfl, ⟨by simp, by simp, by simp, by simp, by simp, by simp, World.ownsRow_nil _ _ _ _⟩, (Touch.refl _ w).alloc _⟩

theorem err_any (b : Nat) (err : Int) (w : World) (h0 : w.cell? ⟨b, 0, none⟩ = some (.bool true)) (h3 : w.cell? ⟨b, 3, none⟩ = some (.int .i64 err)) :
  Calls Tryz.prog 168 #[.pointer (some ⟨b, 0, none⟩)] w fun e w' => e = .returned (.int .i64 err) ∧ w = w' := by
 go_enter Tryz.func168, Tryz.ntmps168
 go_wp2
 go_ret
 exact ⟨rfl, rfl⟩

theorem rwhole_any (b : Nat) (err : Int) (w : World) (h0 : w.cell? ⟨b, 0, none⟩ = some (.bool true)) (h3 : w.cell? ⟨b, 3, none⟩ = some (.int .i64 err)) :
  Calls Tryz.prog 178 #[.pointer (some ⟨b, 0, none⟩)] w fun e w' => e = .returned (.bool (err == 0)) ∧ w = w' := by
 go_enter Tryz.func178, Tryz.ntmps178
 go_wp2_with (go_at_call 168; refine (err_any _ err _ (by assumption) (by assumption)).mono ?_; rintro e w' ⟨rfl, rfl⟩)
 go_ret
 exact ⟨rfl, rfl⟩

theorem left_ok (b p : Nat) (rv : Value) (rs : List Int) (w : World) (h : RdS w b rv rs p 0) :
  Calls Tryz.prog 175 #[.pointer (some ⟨b, 0, none⟩)] w fun e w' => e = .returned (.int .i64 ((rs.length : Int) - p)) ∧ ∃ n, w' = w.drewN n := by
 obtain ⟨a, c, rfl, hm⟩ := rowAt_form h.rowAt
 unfold maxLen at hm
 have h0 := h.made
 have h1 := h.row
 have h2 := h.pos
 have h3 := h.err
 have hp := h.ple
 go_enter Tryz.func175, Tryz.ntmps175
 go_wp2_with (go_at_call 178; refine (rwhole_any _ 0 _ (by assumption) (by assumption)).mono ?_; rintro e w' ⟨rfl, rfl⟩)
 go_quiet (fail)
 go_wp2
 go_ret
 exact ⟨rfl, _, rfl⟩

theorem left_dead (b : Nat) (err : Int) (w : World) (h0 : w.cell? ⟨b, 0, none⟩ = some (.bool true)) (h3 : w.cell? ⟨b, 3, none⟩ = some (.int .i64 err)) (he : (err == 0) = false) :
  Calls Tryz.prog 175 #[.pointer (some ⟨b, 0, none⟩)] w fun e w' => e = .returned (.int .i64 0) ∧ w = w' := by
 go_enter Tryz.func175, Tryz.ntmps175
 go_wp2_with (go_at_call 178; refine (rwhole_any _ err _ (by assumption) (by assumption)).mono ?_; rintro e w' ⟨rfl, rfl⟩)
 go_ret
 exact ⟨rfl, rfl⟩

/-- refuse: a whole reader takes the error, another one stays. -/
theorem refuse_ok (b : Nat) (q : Int) (w : World) (h0 : w.cell? ⟨b, 0, none⟩ = some (.bool true)) (h3 : w.cell? ⟨b, 3, none⟩ = some (.int .i64 0)) (hf : w.frozen? ⟨b, 3, none⟩ = false) :
  Calls Tryz.prog 149 #[.pointer (some ⟨b, 0, none⟩), .int .i64 q] w fun e w' => e = .returned (.tuple #[]) ∧ w.setCell ⟨b, 3, none⟩ (.int .i64 q) = w' := by
 go_enter Tryz.func149, Tryz.ntmps149
 go_wp2_with (go_at_call 178; refine (rwhole_any _ 0 _ (by assumption) (by assumption)).mono ?_; rintro e w' ⟨rfl, rfl⟩)
 go_end0
 exact ⟨rfl, rfl⟩

theorem refuse_dead (b : Nat) (q err : Int) (w : World) (h0 : w.cell? ⟨b, 0, none⟩ = some (.bool true)) (h3 : w.cell? ⟨b, 3, none⟩ = some (.int .i64 err)) (he : (err == 0) = false) :
  Calls Tryz.prog 149 #[.pointer (some ⟨b, 0, none⟩), .int .i64 q] w fun e w' => e = .returned (.tuple #[]) ∧ w = w' := by
 go_enter Tryz.func149, Tryz.ntmps149
 go_wp2_with (go_at_call 178; refine (rwhole_any _ err _ (by assumption) (by assumption)).mono ?_; rintro e w' ⟨rfl, rfl⟩)
 go_end0
 exact ⟨rfl, rfl⟩
end Go.Proofs.YtbfplepmgbkajaaGreatDoor

namespace Go.Proofs.YtbfplepmgbkajaaGreatDoor
open Go.RowKit
set_option linter.unusedVariables false
set_option maxRecDepth 100000

theorem row_sub {w : World} {g off : Nat} {rs : List Int} (hc : ∀ j u, (bytesOf rs)[j]? = some u → w.cell? ⟨g, off + j, none⟩ = some u) (p m : Nat) (hm : p + m ≤ rs.length) (hcm : rs.length ≤ maxLen) :
  RowAt w (.slice (some ⟨g, off + p, none⟩) m m) ((rs.drop p).take m) := by
 have hl : ((rs.drop p).take m).length = m := by simp; omega
 refine Or.inr ⟨g, off + p, m, by rw [hl], by omega, by omega, ?_⟩
 intro j u hj
 have : (bytesOf rs)[p + j]? = some u := by
  simp only [bytesOf, List.map_take, List.map_drop, List.getElem?_take, List.getElem?_drop] at hj ⊢
  split at hj
  ·exact hj
  ·simp at hj
 have := hc _ _ this
 rwa [← Nat.add_assoc] at this

theorem row_none (w : World) (g off : Nat) : RowAt w (.slice (some ⟨g, off, none⟩) 0 0) [] :=
 Or.inr ⟨g, off, 0, by simp, by simp, by simp [maxLen], by intro j u hj; simp [bytesOf] at hj⟩

theorem cut_ok (b p m : Nat) (rv : Value) (rs : List Int) (w : World) (h : RdS w b rv rs p 0) (hm : p + m ≤ rs.length) :
  Calls Tryz.prog 150 #[.pointer (some ⟨b, 0, none⟩), .int .i64 m] w fun e w' => ∃ sv, e = .returned sv ∧ RowAt w' sv ((rs.drop p).take m) ∧ (sv.ownBlock = none ∨ sv.ownBlock = rv.ownBlock) ∧
   RdS w' b rv rs (p + m) 0 ∧ Touch (fun k => k = b) w w' ∧ w'.heap.size = w.heap.size := by
 have h0 := h.made
 have h1 := h.row
 have h2 := h.pos
 have h3 := h.err
 have hf2 := h.f2
 have hlt := lt_of_cell h0
 have HW : ∀ n, RdS (w.drewN n) b rv rs p 0 := fun n => h.drewN n
 rcases h.rowAt with ⟨rfl, rfl⟩ | ⟨g, off, c, rfl, hlc, hcm, hcells⟩
 ·obtain rfl : p = 0 := by simpa using h.ple
  obtain rfl : m = 0 := by simpa using hm
  go_enter Tryz.func150, Tryz.ntmps150
  go_wp2_with (first | (go_at_call 175; refine (left_ok _ 0 _ [] _ h).mono ?_; rintro e w' ⟨rfl, nl, rfl⟩) | (go_at_call 178; refine (rwhole_any _ 0 _ (HW _).made (HW _).err).mono ?_; rintro e w' ⟨rfl, rfl⟩))
  go_quiet (fail)
  have HB : Hid (RdS ((w.drewN nl).setCell ⟨b, 2, none⟩ (.int .i64 ((0 : Nat) : Int))) b (.slice none 0 0) [] 0 0) := (h.drewN nl).setPos 0 (by simp)
  have HT : Hid (Touch (fun k => k = b) w ((w.drewN nl).setCell ⟨b, 2, none⟩ (.int .i64 ((0 : Nat) : Int)))) := Touch.setCell (F := fun k => k = b) (p := ⟨b, 2, none⟩) ((Touch.refl _ w).drewN nl) (Or.inl rfl) _
  clear h0 h1 h2 h3 hf2 HW h
  go_wp2
  go_ret
  exact ⟨_, rfl, Or.inl ⟨rfl, rfl⟩, Or.inl rfl, HB.out.drewN _, HT.out.drewN _, by simp [World.setCell, World.drewN]⟩
 ·unfold maxLen at hcm
  by_cases hm0 : m = 0
  ·subst hm0
   go_enter Tryz.func150, Tryz.ntmps150
   go_wp2_with (first | (go_at_call 175; refine (left_ok _ p _ rs _ h).mono ?_; rintro e w' ⟨rfl, nl, rfl⟩) | (go_at_call 178; refine (rwhole_any _ 0 _ (HW _).made (HW _).err).mono ?_; rintro e w' ⟨rfl, rfl⟩))
   go_quiet (fail)
   have HB : Hid (RdS ((w.drewN nl).setCell ⟨b, 2, none⟩ (.int .i64 ((p : Nat) : Int))) b (.slice (some ⟨g, off, none⟩) rs.length c) rs p 0) := (h.drewN nl).setPos p hm
   have HT : Hid (Touch (fun k => k = b) w ((w.drewN nl).setCell ⟨b, 2, none⟩ (.int .i64 ((p : Nat) : Int)))) := Touch.setCell (F := fun k => k = b) (p := ⟨b, 2, none⟩) ((Touch.refl _ w).drewN nl) (Or.inl rfl) _
   clear h0 h1 h2 h3 hf2 HW h
   go_wp2
   go_ret
   exact ⟨.slice (some ⟨g, off, none⟩) 0 0, rfl, row_none _ _ _, Or.inr rfl, HB.out.drewN _, HT.out.drewN _, by simp [World.setCell, World.drewN]⟩
  ·have hpm : ¬ p + m = p := by omega
   have hpp : p + m - p = m := by omega
   go_enter Tryz.func150, Tryz.ntmps150
   go_wp2_with (first | (go_at_call 175; refine (left_ok _ p _ rs _ h).mono ?_; rintro e w' ⟨rfl, nl, rfl⟩) | (go_at_call 178; refine (rwhole_any _ 0 _ (HW _).made (HW _).err).mono ?_; rintro e w' ⟨rfl, rfl⟩))
   go_quiet (fail)
   have HB : Hid (RdS ((w.drewN nl).setCell ⟨b, 2, none⟩ (.int .i64 ((p : Int) + (m : Int)))) b (.slice (some ⟨g, off, none⟩) rs.length c) rs (p + m) 0) := (h.drewN nl).setPos (p + m) hm
   have HT : Hid (Touch (fun k => k = b) w ((w.drewN nl).setCell ⟨b, 2, none⟩ (.int .i64 ((p : Int) + (m : Int))))) := Touch.setCell (F := fun k => k = b) (p := ⟨b, 2, none⟩) ((Touch.refl _ w).drewN nl) (Or.inl rfl) _
   clear h0 h1 h2 h3 hf2 HW h
   go_wp2
   go_ret
   refine ⟨.slice (some ⟨g, off + p, none⟩) (p + m - p) (p + m - p), rfl, ?_, Or.inr rfl, HB.out.drewN _, HT.out.drewN _, by simp [World.setCell, World.drewN]⟩
   rw [hpp]
   refine row_sub (fun j u hj => ?_) p m hm (by unfold maxLen; omega)
   exact ((HT.out.drewN _).cell (p := ⟨g, off + j, none⟩) (lt_of_cell (hcells j u hj)) (by have := HB.out.ne; simpa [Value.ownBlock] using this)).trans (hcells j u hj)

/-- Where fewer bytes are left: no bytes, and the reader is short from then on. -/
theorem cut_short (b p : Nat) (m : Int) (rv : Value) (rs : List Int) (w : World) (h : RdS w b rv rs p 0) (hm : (rs.length : Int) < p + m) (hmm : m ≤ 9223372036854775807) :
  Calls Tryz.prog 150 #[.pointer (some ⟨b, 0, none⟩), .int .i64 m] w fun e w' => e = .returned (.slice none 0 0) ∧ RdS w' b rv rs p 10 ∧ Touch (fun k => k = b) w w' ∧ w'.heap.size = w.heap.size := by
 have hple := h.ple
 have hm1 : (rs.length : Int) - p < m := by omega
 have hm2 : ¬ m < 0 := by omega
 have HW : ∀ n, RdS (w.drewN n) b rv rs p 0 := fun n => h.drewN n
 have hlt := lt_of_cell h.made
 clear hm
 go_enter Tryz.func150, Tryz.ntmps150
 go_wp2_with (first | (go_at_call 175; refine (left_ok _ p _ rs _ h).mono ?_; rintro e w' ⟨rfl, nl, rfl⟩) | (go_at_call 149; refine (refuse_ok _ 10 _ (HW _).made (HW _).err (HW _).f3).mono ?_; rintro e w' ⟨rfl, rfl⟩) | (go_at_call 178; refine (rwhole_any _ 10 _ ((HW _).setErr 10).made ((HW _).setErr 10).err).mono ?_; rintro e w' ⟨rfl, rfl⟩))
 go_ret
 exact ⟨rfl, (HW _).setErr 10, Touch.setCell (F := fun k => k = b) (p := ⟨b, 3, none⟩) ((Touch.refl _ w).drewN _) (Or.inl rfl) _, by simp [World.setCell, World.drewN]⟩
end Go.Proofs.YtbfplepmgbkajaaGreatDoor

namespace Go.Proofs.YtbfplepmgbkajaaGreatDoor
open Go.RowKit
set_option linter.unusedVariables false
set_option maxRecDepth 100000

/-- The number that bytes are, the highest first. -/
def numVal (l : List Int) : Int := l.foldl (fun a x => a * 256 + x) 0
theorem numVal_snoc (l : List Int) (x : Int) : numVal (l ++ [x]) = numVal l * 256 + x := by simp [numVal]
theorem numVal_take (l : List Int) (k : Nat) (h : k < l.length) : numVal (l.take (k + 1)) = numVal (l.take k) * 256 + l.getD k 0 := by
 rw [List.take_succ_eq_append_getElem h, numVal_snoc]; simp [List.getD, h]
theorem numVal_bd (l : List Int) (hb : ∀ x ∈ l, 0 ≤ x ∧ x < 256) (k : Nat) : 0 ≤ numVal (l.take k) ∧ numVal (l.take k) < 256 ^ k := by
 induction k with
 | zero => simp [numVal]
 | succ k ih =>
  by_cases h : k < l.length
  ·rw [numVal_take l k h]
   have hx := hb (l.getD k 0) (by simp [List.getD, h])
   have e : (256 : Int) ^ (k + 1) = 256 ^ k * 256 := Int.pow_succ _ _
   omega
  ·rw [List.take_of_length_le (by omega)] at ih ⊢
   have e : (256 : Int) ^ (k + 1) = 256 ^ k * 256 := Int.pow_succ _ _
   have : (0 : Int) < 256 ^ k := Int.pow_pos (by decide)
   omega
theorem pow_3 (k : Nat) (h : k ≤ 3) : (256 : Int) ^ k ≤ 16777216 := by
 rcases (by omega : k = 0 ∨ k = 1 ∨ k = 2 ∨ k = 3) with rfl | rfl | rfl | rfl <;> decide

theorem or_low (x y : Int) (hx : 0 ≤ x) (hx1 : x < 16777216) (hy : 0 ≤ y) (hy1 : y < 256) : bits .or .u32 (x * 256) y = x * 256 + y := by
 rw [u32_or _ _ (by omega) (by omega) (by omega) (by omega)]
 have e1 : (x * 256).toNat = x.toNat <<< 8 := by rw [Nat.shiftLeft_eq]; omega
 rw [e1, ← Nat.shiftLeft_add_eq_or_of_lt (by omega), Nat.shiftLeft_eq]
 omega

theorem bytes_sub {rs : List Int} (hb : ∀ x ∈ rs, 0 ≤ x ∧ x < 256) (p m : Nat) : ∀ x ∈ (rs.drop p).take m, 0 ≤ x ∧ x < 256 :=
 fun x hx => hb x (List.mem_of_mem_drop (List.mem_of_mem_take hx))

theorem cut_num (b p m : Nat) (rv : Value) (rs : List Int) (w : World) (h : RdS w b rv rs p 0) (hm1 : 1 ≤ m) (hm : p + m ≤ rs.length) :
  Calls Tryz.prog 150 #[.pointer (some ⟨b, 0, none⟩), .int .i64 m] w fun e w' => ∃ (g off c : Nat) (zs : List Int), e = .returned (.slice (some ⟨g, off, none⟩) m c) ∧ Hid (zs = (rs.drop p).take m) ∧ zs.length = m ∧
   (∀ j, j < m → w'.cell? ⟨g, off + j, none⟩ = some (.int .u8 (zs.getD j 0))) ∧ Hid (∀ x ∈ zs, 0 ≤ x ∧ x < 256) ∧ Hid (RdS w' b rv rs (p + m) 0 ∧ Touch (fun k => k = b) w w' ∧ w'.heap.size = w.heap.size) := by
 refine (cut_ok b p m rv rs w h hm).mono ?_
 rintro e w' ⟨sv, rfl, hrow, hown, hrd, ht, hsz⟩
 have hl : ((rs.drop p).take m).length = m := by simp; omega
 rcases hrow with ⟨_, e⟩ | ⟨g, off, c, rfl, h1, h2, h3⟩
 ·rw [e] at hl; simp at hl; omega
 ·refine ⟨g, off, c, _, by rw [hl], rfl, hl, fun j hj => h3 j _ ?_, bytes_sub h.byte p m, hrd, ht, hsz⟩
  simp only [bytesOf, List.getElem?_map]
  rw [List.getElem?_eq_getElem (by omega)]
  simp [List.getD, hl, hj]

theorem rnumber_ok (b p m : Nat) (rv : Value) (rs : List Int) (w : World) (h : RdS w b rv rs p 0) (hm1 : 1 ≤ m) (hm4 : m ≤ 4) (hm : p + m ≤ rs.length) :
  Calls Tryz.prog 117 #[.pointer (some ⟨b, 0, none⟩), .int .i64 m] w fun e w' => e = .returned (.int .u32 (numVal ((rs.drop p).take m))) ∧
   RdS w' b rv rs (p + m) 0 ∧ Touch (fun k => k = b) w w' ∧ w'.heap.size = w.heap.size := by
 have hd1 : decide ((m : Int) < 1) = false := by simp; omega
 have hd2 : decide ((4 : Int) < m) = false := by simp; omega
 go_enter Tryz.func117, Tryz.ntmps117
 go_wp2_with (go_at_call 150; refine (cut_num _ p m _ rs _ h hm1 hm).mono ?_; rintro e w' ⟨g, off, c, zs, rfl, hzs, hzl, hcell, hby, hrest⟩)
 go_loop [5, 20] (fun v i => ∃ k : Nat, k ≤ m ∧ i = .int .i64 k ∧ v = .int .u32 (numVal (zs.take k))) (fun _ i => m - (intOf i).toNat)
 case atStart => exact ⟨0, Nat.zero_le _, rfl, rfl⟩
 case round =>
  obtain ⟨k, hk, rfl, rfl⟩ := hrel
  by_cases hlt : k < m
  ·have hc := hcell k hlt
   obtain ⟨z, hz⟩ : ∃ z, z = zs.getD k 0 := ⟨_, rfl⟩
   rw [← hz] at hc
   have hx := hby.out z (by rw [hz]; simp [List.getD, show k < zs.length by omega])
   obtain ⟨hx0, hx1⟩ := hx
   obtain ⟨V, hV⟩ : ∃ V, V = numVal (zs.take k) := ⟨_, rfl⟩
   have hb := numVal_bd zs hby.out k
   have hb3 := pow_3 k (by omega)
   have HS : Hid (numVal (zs.take (k + 1)) = V * 256 + z) := by show _ = _; rw [numVal_take zs k (by omega), hV, hz]
   rw [← hV] at hb ⊢
   have hV1 : V < 16777216 := by omega
   have hV0 : 0 ≤ V := hb.1
   have hor := or_low V z hV0 hV1 hx0 hx1
   clear hb hb3 hV hz hcell
   go_wp2
   go_round
   case rel => exact ⟨k + 1, by omega, by go_num, by rw [HS.out]⟩
   case measure => simp [intOf]; omega
  ·go_wp2
   go_ret
   obtain rfl : k = m := by omega
   obtain ⟨a, b', c'⟩ := hrest.out
   exact ⟨ret_int (by rw [← hzs.out, List.take_of_length_le (by omega)]), a, b', c'⟩
end Go.Proofs.YtbfplepmgbkajaaGreatDoor
