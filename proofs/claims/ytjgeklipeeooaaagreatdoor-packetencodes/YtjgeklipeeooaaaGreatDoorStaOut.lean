/- A packet, an Auth: their numbers, their cells. -/
import Derived.Test.YtjgeklipeeooaaaGreatDoorReader
import Derived.Test.YtjgeklipeeooaaaGreatDoorDigBuf
import Derived.WalkKit
namespace Go.Proofs.YtjgeklipeeooaaaGreatDoor
open Go.RowKit
set_option linter.unusedVariables false
set_option maxRecDepth 100000

/-- A packet's numbers. -/
structure PV where
  typ : Int
  router : Int
  area : Int
  mask : Int
  iv : Int
  opts : Int
  prio : Int
  dead : Int
  dr : Int
  bdr : Int
  mtu : Int
  dopts : Int
  dflags : Int
  dseq : Int
/-- They fit their kinds. -/
structure PV.Ok (P : PV) : Prop where
  typ : 0 ≤ P.typ ∧ P.typ < 256
  router : 0 ≤ P.router ∧ P.router < 4294967296
  area : 0 ≤ P.area ∧ P.area < 4294967296
  mask : 0 ≤ P.mask ∧ P.mask < 4294967296
  iv : 0 ≤ P.iv ∧ P.iv < 65536
  opts : 0 ≤ P.opts ∧ P.opts < 256
  prio : 0 ≤ P.prio ∧ P.prio < 256
  dead : 0 ≤ P.dead ∧ P.dead < 4294967296
  dr : 0 ≤ P.dr ∧ P.dr < 4294967296
  bdr : 0 ≤ P.bdr ∧ P.bdr < 4294967296
  mtu : 0 ≤ P.mtu ∧ P.mtu < 65536
  dopts : 0 ≤ P.dopts ∧ P.dopts < 256
  dflags : 0 ≤ P.dflags ∧ P.dflags < 256
  dseq : 0 ≤ P.dseq ∧ P.dseq < 4294967296
def PV.v (P : PV) (vn vd vk vs vh : Value) : Value := .agg #[.int .u8 P.typ, .int .u32 P.router, .int .u32 P.area, .int .u32 P.mask, .int .u16 P.iv, .int .u8 P.opts, .int .u8 P.prio, .int .u32 P.dead, .int .u32 P.dr, .int .u32 P.bdr, vn, .int .u16 P.mtu, .int .u8 P.dopts, .int .u8 P.dflags, .int .u32 P.dseq, vd, vk, vs, vh]
/-- It lies in block g. -/
structure Pd (w : World) (g : Nat) (P : PV) (vn vd vk vs vh : Value) : Prop where
  c0 : w.cell? ⟨g, 0, none⟩ = some (.int .u8 P.typ)
  c1 : w.cell? ⟨g, 1, none⟩ = some (.int .u32 P.router)
  c2 : w.cell? ⟨g, 2, none⟩ = some (.int .u32 P.area)
  c3 : w.cell? ⟨g, 3, none⟩ = some (.int .u32 P.mask)
  c4 : w.cell? ⟨g, 4, none⟩ = some (.int .u16 P.iv)
  c5 : w.cell? ⟨g, 5, none⟩ = some (.int .u8 P.opts)
  c6 : w.cell? ⟨g, 6, none⟩ = some (.int .u8 P.prio)
  c7 : w.cell? ⟨g, 7, none⟩ = some (.int .u32 P.dead)
  c8 : w.cell? ⟨g, 8, none⟩ = some (.int .u32 P.dr)
  c9 : w.cell? ⟨g, 9, none⟩ = some (.int .u32 P.bdr)
  c10 : w.cell? ⟨g, 10, none⟩ = some (vn)
  c11 : w.cell? ⟨g, 11, none⟩ = some (.int .u16 P.mtu)
  c12 : w.cell? ⟨g, 12, none⟩ = some (.int .u8 P.dopts)
  c13 : w.cell? ⟨g, 13, none⟩ = some (.int .u8 P.dflags)
  c14 : w.cell? ⟨g, 14, none⟩ = some (.int .u32 P.dseq)
  c15 : w.cell? ⟨g, 15, none⟩ = some (vd)
  c16 : w.cell? ⟨g, 16, none⟩ = some (vk)
  c17 : w.cell? ⟨g, 17, none⟩ = some (vs)
  c18 : w.cell? ⟨g, 18, none⟩ = some (vh)
theorem Pd.keep {w w' : World} {g : Nat} {P : PV} {vn vd vk vs vh : Value} (k : Pd w g P vn vd vk vs vh) (t : Touch (fun _ => False) w w') : Pd w' g P vn vd vk vs vh :=
  ⟨t.cellN k.c0, t.cellN k.c1, t.cellN k.c2, t.cellN k.c3, t.cellN k.c4, t.cellN k.c5, t.cellN k.c6, t.cellN k.c7, t.cellN k.c8, t.cellN k.c9, t.cellN k.c10, t.cellN k.c11, t.cellN k.c12, t.cellN k.c13, t.cellN k.c14, t.cellN k.c15, t.cellN k.c16, t.cellN k.c17, t.cellN k.c18⟩
theorem Pd.new (w : World) (P : PV) (vn vd vk vs vh : Value) (t : TypeId) : Pd (w.alloc (.cells #[.int .u8 P.typ, .int .u32 P.router, .int .u32 P.area, .int .u32 P.mask, .int .u16 P.iv, .int .u8 P.opts, .int .u8 P.prio, .int .u32 P.dead, .int .u32 P.dr, .int .u32 P.bdr, vn, .int .u16 P.mtu, .int .u8 P.dopts, .int .u8 P.dflags, .int .u32 P.dseq, vd, vk, vs, vh] t)) w.heap.size P vn vd vk vs vh :=
  ⟨by simp [go_sem], by simp [go_sem], by simp [go_sem], by simp [go_sem], by simp [go_sem], by simp [go_sem], by simp [go_sem], by simp [go_sem], by simp [go_sem], by simp [go_sem], by simp [go_sem], by simp [go_sem], by simp [go_sem], by simp [go_sem], by simp [go_sem], by simp [go_sem], by simp [go_sem], by simp [go_sem], by simp [go_sem]⟩
/-- An Auth's numbers. -/
structure AuV where
  kind : Int
  d0 : Int
  d1 : Int
  d2 : Int
  d3 : Int
  d4 : Int
  d5 : Int
  d6 : Int
  d7 : Int
structure AuV.Ok (A : AuV) : Prop where
  kind : 0 ≤ A.kind ∧ A.kind < 65536
  d0 : 0 ≤ A.d0 ∧ A.d0 < 256
  d1 : 0 ≤ A.d1 ∧ A.d1 < 256
  d2 : 0 ≤ A.d2 ∧ A.d2 < 256
  d3 : 0 ≤ A.d3 ∧ A.d3 < 256
  d4 : 0 ≤ A.d4 ∧ A.d4 < 256
  d5 : 0 ≤ A.d5 ∧ A.d5 < 256
  d6 : 0 ≤ A.d6 ∧ A.d6 < 256
  d7 : 0 ≤ A.d7 ∧ A.d7 < 256
def AuV.v (A : AuV) : Value := .agg #[.int .u16 A.kind, .int .u8 A.d0, .int .u8 A.d1, .int .u8 A.d2, .int .u8 A.d3, .int .u8 A.d4, .int .u8 A.d5, .int .u8 A.d6, .int .u8 A.d7]
def AuV.data (A : AuV) : List Int := [A.d0, A.d1, A.d2, A.d3, A.d4, A.d5, A.d6, A.d7]
structure Ad (w : World) (g : Nat) (A : AuV) : Prop where
  c0 : w.cell? ⟨g, 0, none⟩ = some (.int .u16 A.kind)
  c1 : w.cell? ⟨g, 1, none⟩ = some (.int .u8 A.d0)
  c2 : w.cell? ⟨g, 2, none⟩ = some (.int .u8 A.d1)
  c3 : w.cell? ⟨g, 3, none⟩ = some (.int .u8 A.d2)
  c4 : w.cell? ⟨g, 4, none⟩ = some (.int .u8 A.d3)
  c5 : w.cell? ⟨g, 5, none⟩ = some (.int .u8 A.d4)
  c6 : w.cell? ⟨g, 6, none⟩ = some (.int .u8 A.d5)
  c7 : w.cell? ⟨g, 7, none⟩ = some (.int .u8 A.d6)
  c8 : w.cell? ⟨g, 8, none⟩ = some (.int .u8 A.d7)
theorem Ad.keep {w w' : World} {g : Nat} {A : AuV} (k : Ad w g A) (t : Touch (fun _ => False) w w') : Ad w' g A :=
  ⟨t.cellN k.c0, t.cellN k.c1, t.cellN k.c2, t.cellN k.c3, t.cellN k.c4, t.cellN k.c5, t.cellN k.c6, t.cellN k.c7, t.cellN k.c8⟩
theorem Ad.new (w : World) (A : AuV) (t : TypeId) : Ad (w.alloc (.cells #[.int .u16 A.kind, .int .u8 A.d0, .int .u8 A.d1, .int .u8 A.d2, .int .u8 A.d3, .int .u8 A.d4, .int .u8 A.d5, .int .u8 A.d6, .int .u8 A.d7] t)) w.heap.size A :=
  ⟨by simp [go_sem], by simp [go_sem], by simp [go_sem], by simp [go_sem], by simp [go_sem], by simp [go_sem], by simp [go_sem], by simp [go_sem], by simp [go_sem]⟩
theorem Ad.arg {w : World} {g : Nat} {A : AuV} (k : Ad w g A) : ArgAt w (.slice (some ⟨g, 1, none⟩) 8 8) A.data := by
  refine Or.inr ⟨_, 8, rfl, by simp [AuV.data], by simp [maxLen], ?_⟩
  intro j u hj
  unfold AuV.data at hj
  match j, hj with
  | 0, h => cases h; exact k.c1
  | 1, h => cases h; exact k.c2
  | 2, h => cases h; exact k.c3
  | 3, h => cases h; exact k.c4
  | 4, h => cases h; exact k.c5
  | 5, h => cases h; exact k.c6
  | 6, h => cases h; exact k.c7
  | 7, h => cases h; exact k.c8
  | j + 8, h => simp [bytesOf] at h
theorem two_arg {w : World} {g : Nat} {a b : Int} (h0 : w.cell? ⟨g, 0, none⟩ = some (.int .u8 a)) (h1 : w.cell? ⟨g, 1, none⟩ = some (.int .u8 b)) : ArgAt w (.slice (some ⟨g, 0, none⟩) 2 2) [a, b] := by
  refine Or.inr ⟨_, 2, rfl, by simp, by simp [maxLen], ?_⟩
  intro j u hj
  match j, hj with
  | 0, h => cases h; exact h0
  | 1, h => cases h; exact h1
  | j + 2, h => simp [bytesOf] at h
end Go.Proofs.YtjgeklipeeooaaaGreatDoor

namespace Go.Proofs.YtjgeklipeeooaaaGreatDoor
open Go.RowKit
set_option linter.unusedVariables false
set_option maxRecDepth 100000

/-- A head's numbers. -/
structure HV where
  age : Int
  opts : Int
  typ : Int
  id : Int
  adv : Int
  seq : Int
  sum : Int
  len : Int
def HV.v (h : HV) : Value := .agg #[.int .u16 h.age, .int .u8 h.opts, .int .u8 h.typ, .int .u32 h.id, .int .u32 h.adv, .int .i32 h.seq, .int .u16 h.sum, .int .u16 h.len]
/-- Its age and number fit their kinds. -/
structure HV.Ok (h : HV) : Prop where
  a0 : 0 ≤ h.age
  a1 : h.age < 65536
  s0 : -2147483648 ≤ h.seq
  s1 : h.seq ≤ 2147483647
/-- A key's numbers. -/
structure KV where
  typ : Int
  id : Int
  adv : Int
def KV.v (h : KV) : Value := .agg #[.int .u8 h.typ, .int .u32 h.id, .int .u32 h.adv]
structure KV.Ok (h : KV) : Prop where
  t : 0 ≤ h.typ ∧ h.typ < 256
  i : 0 ≤ h.id ∧ h.id < 4294967296
  a : 0 ≤ h.adv ∧ h.adv < 4294967296
structure Ky (w : World) (g : Nat) (h : KV) : Prop where
  c0 : w.cell? ⟨g, 0, none⟩ = some (.int .u8 h.typ)
  c1 : w.cell? ⟨g, 1, none⟩ = some (.int .u32 h.id)
  c2 : w.cell? ⟨g, 2, none⟩ = some (.int .u32 h.adv)
theorem Ky.keep {w w' : World} {g : Nat} {h : KV} (k : Ky w g h) (t : Touch (fun _ => False) w w') : Ky w' g h := ⟨t.cellN k.c0, t.cellN k.c1, t.cellN k.c2⟩
theorem Ky.new (w : World) (h : KV) (t : TypeId) : Ky (w.alloc (.cells #[.int .u8 h.typ, .int .u32 h.id, .int .u32 h.adv] t)) w.heap.size h :=
  ⟨by simp [go_sem], by simp [go_sem], by simp [go_sem]⟩
/-- It lies in block g. -/
structure Hd (w : World) (g : Nat) (h : HV) : Prop where
  c0 : w.cell? ⟨g, 0, none⟩ = some (.int .u16 h.age)
  c1 : w.cell? ⟨g, 1, none⟩ = some (.int .u8 h.opts)
  c2 : w.cell? ⟨g, 2, none⟩ = some (.int .u8 h.typ)
  c3 : w.cell? ⟨g, 3, none⟩ = some (.int .u32 h.id)
  c4 : w.cell? ⟨g, 4, none⟩ = some (.int .u32 h.adv)
  c5 : w.cell? ⟨g, 5, none⟩ = some (.int .i32 h.seq)
  c6 : w.cell? ⟨g, 6, none⟩ = some (.int .u16 h.sum)
  c7 : w.cell? ⟨g, 7, none⟩ = some (.int .u16 h.len)
theorem Hd.keep {w w' : World} {g : Nat} {h : HV} (k : Hd w g h) (t : Touch (fun _ => False) w w') : Hd w' g h :=
  ⟨t.cellN k.c0, t.cellN k.c1, t.cellN k.c2, t.cellN k.c3, t.cellN k.c4, t.cellN k.c5, t.cellN k.c6, t.cellN k.c7⟩
theorem Hd.new (w : World) (h : HV) (t : TypeId) :
    Hd (w.alloc (.cells #[.int .u16 h.age, .int .u8 h.opts, .int .u8 h.typ, .int .u32 h.id, .int .u32 h.adv, .int .i32 h.seq, .int .u16 h.sum, .int .u16 h.len] t)) w.heap.size h :=
  ⟨by simp [go_sem], by simp [go_sem], by simp [go_sem], by simp [go_sem], by simp [go_sem], by simp [go_sem], by simp [go_sem], by simp [go_sem]⟩
end Go.Proofs.YtjgeklipeeooaaaGreatDoor

namespace Go.Proofs.YtjgeklipeeooaaaGreatDoor
open Go.RowKit
set_option linter.unusedVariables false

/-- The sum of all bytes. -/
def S0 : List Int → Int
  | [] => 0
  | x :: r => x + S0 r
/-- The bytes, the first n times, each next one once less. -/
def C1 : Int → List Int → Int
  | _, [] => 0
  | n, x :: r => n * x + C1 (n - 1) r
def S1 (l : List Int) : Int := C1 l.length l

/-- What the two cells hold behind the bytes l. -/
structure Run (l : List Int) (a b : Int) : Prop where
  c0 : a % 255 = S0 l % 255
  c1 : b % 255 = S1 l % 255
theorem Run.zero : Run [] 0 0 := ⟨rfl, rfl⟩
/-- The words added up; the flag: the next byte is a higher one. -/
def W : Bool → List Int → Int
  | _, [] => 0
  | true, x :: r => 256 * x + W false r
  | false, x :: r => x + W true r
def par (b : Bool) (n : Nat) : Bool := if n % 2 = 0 then b else !b
theorem par_succ (b : Bool) (n : Nat) : par b (n + 1) = par (!b) n := by
  unfold par
  by_cases h : n % 2 = 0
  · rw [if_neg (by omega), if_pos h]
  · rw [if_pos (by omega), if_neg h]; simp
theorem W_append (b : Bool) (l m : List Int) : W b (l ++ m) = W b l + W (par b l.length) m := by
  induction l generalizing b with
  | nil => simp [W, par]
  | cons x r ih =>
    rw [List.length_cons, par_succ]
    cases b with
    | true => simp only [List.cons_append, W, ih, Bool.not_true]; omega
    | false => simp only [List.cons_append, W, ih, Bool.not_false]; omega
theorem W_even {l : List Int} (h : l.length % 2 = 0) (x : Int) : W true (l ++ [x]) = W true l + 256 * x := by
  rw [W_append]; simp [par, h, W]
theorem W_odd {l : List Int} (h : ¬ l.length % 2 = 0) (x : Int) : W true (l ++ [x]) = W true l + x := by
  rw [W_append]; simp [par, h, W]
theorem W_nonneg (b : Bool) (l : List Int) (h : ∀ x ∈ l, 0 ≤ x ∧ x < 256) : 0 ≤ W b l := by
  induction l generalizing b with
  | nil => simp [W]
  | cons x r ih =>
    have hx := h x (by simp)
    have hr := fun b => ih b (fun y hy => h y (by simp [hy]))
    cases b with
    | true => have := hr false; simp only [W]; omega
    | false => have := hr true; simp only [W]; omega
/-- The folded sum. -/
def fold (n : Int) : Int := if n = 0 then 0 else (n - 1) % 65535 + 1
theorem fold_small {n : Int} (h0 : 0 ≤ n) (h : n ≤ 65535) : fold n = n := by unfold fold; split <;> omega
theorem fold_bound (n : Int) : 0 ≤ fold n ∧ fold n ≤ 65535 := by unfold fold; split <;> omega
theorem fold_step {n : Int} (h : 65535 < n) : fold (n / 65536 + n % 65536) = fold n := by
  unfold fold
  rw [if_neg (by omega), if_neg (by omega)]
  omega
theorem fold_fold (n : Int) : fold (fold n) = fold n := fold_small (fold_bound n).1 (fold_bound n).2
theorem fold_add {a b : Int} (ha : 0 ≤ a) (hb : 0 ≤ b) (h : fold a = fold b) {x : Int} (hx : 0 ≤ x) : fold (a + x) = fold (b + x) := by
  revert h
  unfold fold
  intro h
  split at h <;> split at h <;> split <;> split <;> omega
theorem fold_whole {a : Int} (ha : 0 ≤ a) : fold (a + (65535 - fold a)) = 65535 := by
  unfold fold
  split <;> split <;> omega

/-- What the two cells of words hold behind the bytes l. -/
structure WRun (l : List Int) (h k : Int) : Prop where
  eq : fold (256 * h + k) = fold (W true l)
  h0 : 0 ≤ h
  k0 : 0 ≤ k
  w0 : 0 ≤ W true l
theorem WRun.zero : WRun [] 0 0 := ⟨rfl, Int.le_refl _, Int.le_refl _, Int.le_refl _⟩
theorem WRun.even {l : List Int} {h k : Int} (r : WRun l h k) (e : l.length % 2 = 0) {x : Int} (hx : 0 ≤ x) : WRun (l ++ [x]) (h + x) k := by
  obtain ⟨r1, r2, r3, r4⟩ := r
  refine ⟨?_, by omega, r3, by rw [W_even e]; omega⟩
  rw [W_even e, ← fold_add (by omega) r4 r1 (x := 256 * x) (by omega)]
  congr 1
  omega
theorem WRun.odd {l : List Int} {h k : Int} (r : WRun l h k) (e : ¬ l.length % 2 = 0) {x : Int} (hx : 0 ≤ x) : WRun (l ++ [x]) h (k + x) := by
  obtain ⟨r1, r2, r3, r4⟩ := r
  refine ⟨?_, r2, by omega, by rw [W_odd e]; omega⟩
  rw [W_odd e, ← fold_add (by omega) r4 r1 (x := x) hx]
  congr 1
  omega
theorem WRun.lower {l : List Int} {h k : Int} (r : WRun l h k) : WRun l (fold (256 * h + k) / 256) (fold (256 * h + k) % 256) := by
  obtain ⟨r1, r2, r3, r4⟩ := r
  have hb := fold_bound (256 * h + k)
  refine ⟨?_, by omega, by omega, r4⟩
  rw [show 256 * (fold (256 * h + k) / 256) + fold (256 * h + k) % 256 = fold (256 * h + k) by omega, fold_fold, r1]

/-- The bytes with two others at a place. -/
def laid (l : List Int) (at' : Nat) (x y : Int) : List Int := (l.set at' x).set (at' + 1) y
theorem length_laid (l : List Int) (a : Nat) (x y : Int) : (laid l a x y).length = l.length := by simp [laid]
theorem getD_set_ne (l : List Int) (i j : Nat) (x : Int) (h : i ≠ j) : (l.set i x).getD j 0 = l.getD j 0 := by simp [List.getD, h]
theorem getD_set_eq (l : List Int) (i : Nat) (x : Int) (h : i < l.length) : (l.set i x).getD i 0 = x := by simp [List.getD, h]

/-- Both sums are 0. -/
def whole (l : List Int) : Bool := (S0 l % 255 == 0) && (S1 l % 255 == 0)
end Go.Proofs.YtjgeklipeeooaaaGreatDoor

namespace Go.Proofs.YtjgeklipeeooaaaGreatDoor
open Go.RowKit
set_option linter.unusedVariables false
set_option maxRecDepth 100000

/-- A link's numbers. -/
structure LV where
  id : Int
  data : Int
  typ : Int
  cost : Int
/-- A body's numbers. -/
structure BV where
  flags : Int
  links : List LV
  mask : Int
  routers : List Int
  metric : Int
  type2 : Bool
  fwd : Int
  tag : Int
  data : List Int
def BV.zero : BV := ⟨0, [], 0, [], 0, false, 0, 0, []⟩
structure LV.Ok (x : LV) : Prop where
  i : 0 ≤ x.id ∧ x.id < 4294967296
  d : 0 ≤ x.data ∧ x.data < 4294967296
  t : 0 ≤ x.typ ∧ x.typ < 256
  c : 0 ≤ x.cost ∧ x.cost < 65536
structure BV.Ok (b : BV) : Prop where
  f : 0 ≤ b.flags ∧ b.flags < 256
  l : ∀ x ∈ b.links, x.Ok
  m : 0 ≤ b.mask ∧ b.mask < 4294967296
  r : ∀ x ∈ b.routers, 0 ≤ x ∧ x < 4294967296
  e : 0 ≤ b.metric ∧ b.metric < 4294967296
  w : 0 ≤ b.fwd ∧ b.fwd < 4294967296
  t : 0 ≤ b.tag ∧ b.tag < 4294967296
  d : ∀ x ∈ b.data, 0 ≤ x ∧ x < 256
/-- A head's numbers fit their kinds. -/
structure HV.All (h : HV) : Prop where
  a : 0 ≤ h.age ∧ h.age < 65536
  o : 0 ≤ h.opts ∧ h.opts < 256
  t : 0 ≤ h.typ ∧ h.typ < 256
  i : 0 ≤ h.id ∧ h.id < 4294967296
  v : 0 ≤ h.adv ∧ h.adv < 4294967296
  s : -2147483648 ≤ h.seq ∧ h.seq ≤ 2147483647
  m : 0 ≤ h.sum ∧ h.sum < 65536
  l : 0 ≤ h.len ∧ h.len < 65536

/-- A head's twenty bytes. -/
def headB (h : HV) : List Int := numBytes 2 h.age ++ [h.opts, h.typ] ++ numBytes 4 h.id ++ numBytes 4 h.adv ++ numBytes 4 (h.seq % 4294967296) ++ numBytes 2 h.sum ++ numBytes 2 h.len
theorem length_headB (h : HV) : (headB h).length = 20 := by simp [headB, numBytes]
end Go.Proofs.YtjgeklipeeooaaaGreatDoor

namespace Go.Proofs.YtjgeklipeeooaaaGreatDoor
open Go.RowKit
set_option linter.unusedVariables false
set_option maxRecDepth 100000

/-- A slice of n elements of k cells each reads, cell by cell, as xs; of the address of one without cells nothing is known. -/
def ValsAt (w : World) (k : Nat) (v : Value) (n : Nat) (xs : List Value) : Prop :=
  xs.length = n * k ∧ ((v = .slice none 0 0 ∧ n = 0) ∨ ∃ ad c, v = .slice (some ad) n c ∧ n ≤ c ∧ c ≤ maxLen ∧ ∀ j u, xs[j]? = some u → w.cell? (ad.add j) = some u)
theorem ValsAt.form {w : World} {k : Nat} {v : Value} {n : Nat} {xs : List Value} (h : ValsAt w k v n xs) : ∃ a c, v = .slice a n c ∧ n ≤ maxLen := by
  rcases h.2 with ⟨rfl, rfl⟩ | ⟨ad, c, rfl, h1, h2, _⟩
  · exact ⟨_, _, rfl, Nat.zero_le _⟩
  · exact ⟨_, _, rfl, Nat.le_trans h1 h2⟩
theorem ValsAt.keep {w w' : World} {k : Nat} {v : Value} {n : Nat} {xs : List Value} (h : ValsAt w k v n xs) (t : Touch (fun _ => False) w w') : ValsAt w' k v n xs := by
  refine ⟨h.1, ?_⟩
  rcases h.2 with h | ⟨ad, c, rfl, h1, h2, h3⟩
  · exact Or.inl h
  · exact Or.inr ⟨ad, c, rfl, h1, h2, fun j u hj => t.cellN (h3 j u hj)⟩
/-- Where there is an element: its cells. -/
theorem ValsAt.cells {w : World} {k : Nat} {v : Value} {n : Nat} {xs : List Value} (h : ValsAt w k v n xs) (hn : 0 < n) (hk : 0 < k) :
    ∃ g off c, v = .slice (some ⟨g, off, none⟩) n c ∧ n ≤ c ∧ c ≤ maxLen ∧ ∀ j u, xs[j]? = some u → w.cell? ⟨g, off + j, none⟩ = some u := by
  obtain ⟨hl, h⟩ := h
  rcases h with ⟨_, rfl⟩ | ⟨ad, c, rfl, h1, h2, h3⟩
  · omega
  · have hp : 0 < xs.length := by rw [hl]; exact Nat.mul_pos hn hk
    obtain ⟨g, off, spot⟩ := ad
    have hc := h3 0 xs[0] (by simp [hp])
    have hspot : spot = none := by simpa [Addr.add] using World.cell?_spot hc
    subst hspot
    exact ⟨g, off, c, rfl, h1, h2, fun j u hj => by have := h3 j u hj; rwa [add_plain] at this⟩
theorem ArgAt.vals {w : World} {v : Value} {rs : List Int} (h : ArgAt w v rs) : ValsAt w 1 v rs.length (bytesOf rs) := by
  refine ⟨by simp [bytesOf], ?_⟩
  rcases h with ⟨rfl, rfl⟩ | h
  · exact Or.inl ⟨rfl, rfl⟩
  · exact Or.inr h

/-- v is a row of n elements (type e, k cells each) that was made since w0, and reads as xs; nothing of w0 has turned. -/
structure VBuf (e k : Nat) (w0 w : World) (v : Value) (n : Nat) (xs : List Value) : Prop where
  own : w.ownsRow w0.heap.size e k v n xs
  t : Touch (fun _ => False) w0 w
theorem VBuf.keep {e k : Nat} {w0 w w' : World} {v : Value} {n : Nat} {xs : List Value} (h : VBuf e k w0 w v n xs) (t : Touch (fun _ => False) w w') : VBuf e k w0 w' v n xs := ⟨own_touch h.own t (fun _ _ h => h), h.t.trans t⟩
theorem VBuf.back {e k : Nat} {w0 w w' : World} {v : Value} {n : Nat} {xs : List Value} (h : VBuf e k w w' v n xs) (t : Touch (fun _ => False) w0 w) : VBuf e k w0 w' v n xs := by
  refine ⟨⟨h.own.1, ?_⟩, t.trans h.t⟩
  rcases h.own.2 with h2 | ⟨g, cap, cur, hv, hb, hr⟩
  · exact Or.inl h2
  · exact Or.inr ⟨g, cap, cur, hv, Nat.le_trans t.size hb, hr⟩
theorem VBuf.nil (e k : Nat) {w0 w : World} (t : Touch (fun _ => False) w0 w) : VBuf e k w0 w (.slice none 0 0) 0 [] := ⟨World.ownsRow_nil _ _ _ _, t⟩
theorem VBuf.form {e k : Nat} {w0 w : World} {v : Value} {n : Nat} {xs : List Value} (h : VBuf e k w0 w v n xs) : ∃ a c, v = .slice a n c := by
  rcases h.own.2 with ⟨rfl, e⟩ | ⟨g, cap, cur, rfl, _⟩
  · exact ⟨none, 0, by rw [e]⟩
  · exact ⟨_, cap, rfl⟩
theorem VBuf.vals {e k : Nat} {w0 w : World} {v : Value} {n : Nat} {xs : List Value} (h : VBuf e k w0 w v n xs) : ValsAt w k v n xs := by
  refine ⟨h.own.1, ?_⟩
  rcases h.own.2 with h2 | ⟨g, cap, cur, hv, hb, hh, h1, h2, h3, h4⟩
  · exact Or.inl h2
  · refine Or.inr ⟨_, cap, hv, h1, h2, fun j u hj => ?_⟩
    have hjl := (List.getElem?_eq_some_iff.mp hj).1
    have hl := h.own.1
    rw [add_plain, Nat.zero_add]
    rw [← h4, List.getElem?_take, if_pos (by omega)] at hj
    simp [World.cell?, hh]
    simpa using hj
theorem VBuf.bytes {w0 w : World} {v : Value} {l : List Int} (h : VBuf 5 1 w0 w v l.length (bytesOf l)) : Buf w0 w v l := ⟨h.own, h.t⟩
section
variable {ops : Array Oper} {rest : List Oper} {o : Oper} {a : Act} {Q : Exit → Act → World → Prop} {w : World}
end
end Go.Proofs.YtjgeklipeeooaaaGreatDoor

namespace Go.Proofs.YtjgeklipeeooaaaGreatDoor
open Go.RowKit
set_option linter.unusedVariables false
set_option maxRecDepth 100000

def LV.cells (x : LV) : List Value := [.int .u32 x.id, .int .u32 x.data, .int .u8 x.typ, .int .u16 x.cost]
def linksC (l : List LV) : List Value := l.flatMap LV.cells
def wordsC (l : List Int) : List Value := l.map (Value.int .u32)
theorem wordsC_append (a b : List Int) : wordsC (a ++ b) = wordsC a ++ wordsC b := by simp [wordsC]
def LinksAt (w : World) (v : Value) (l : List LV) : Prop := ValsAt w 4 v l.length (linksC l)
def WordsAt (w : World) (v : Value) (l : List Int) : Prop := ValsAt w 1 v l.length (wordsC l)
theorem LinksAt.keep {w w' : World} {v : Value} {l : List LV} (h : LinksAt w v l) (t : Touch (fun _ => False) w w') : LinksAt w' v l := ValsAt.keep h t
theorem WordsAt.keep {w w' : World} {v : Value} {l : List Int} (h : WordsAt w v l) (t : Touch (fun _ => False) w w') : WordsAt w' v l := ValsAt.keep h t
theorem ArgAt.keepN {w w' : World} {v : Value} {l : List Int} (h : ArgAt w v l) (t : Touch (fun _ => False) w w') : ArgAt w' v l := h.keep t (fun _ _ h => h)

/-- A body as a value: its numbers, its three rows. -/
def BV.v (b : BV) (vl vr vd : Value) : Value := .agg #[.int .u8 b.flags, vl, .int .u32 b.mask, vr, .int .u32 b.metric, .bool b.type2, .int .u32 b.fwd, .int .u32 b.tag, vd]
/-- Its rows read so. -/
structure BArg (w : World) (b : BV) (vl vr vd : Value) : Prop where
  l : LinksAt w vl b.links
  r : WordsAt w vr b.routers
  d : ArgAt w vd b.data
theorem BArg.keep {w w' : World} {b : BV} {vl vr vd : Value} (h : BArg w b vl vr vd) (t : Touch (fun _ => False) w w') : BArg w' b vl vr vd := ⟨h.l.keep t, h.r.keep t, h.d.keepN t⟩
/-- It lies in block g. -/
structure Bd (w : World) (g : Nat) (b : BV) (vl vr vd : Value) : Prop where
  c0 : w.cell? ⟨g, 0, none⟩ = some (.int .u8 b.flags)
  c1 : w.cell? ⟨g, 1, none⟩ = some vl
  c2 : w.cell? ⟨g, 2, none⟩ = some (.int .u32 b.mask)
  c3 : w.cell? ⟨g, 3, none⟩ = some vr
  c4 : w.cell? ⟨g, 4, none⟩ = some (.int .u32 b.metric)
  c5 : w.cell? ⟨g, 5, none⟩ = some (.bool b.type2)
  c6 : w.cell? ⟨g, 6, none⟩ = some (.int .u32 b.fwd)
  c7 : w.cell? ⟨g, 7, none⟩ = some (.int .u32 b.tag)
  c8 : w.cell? ⟨g, 8, none⟩ = some vd
theorem Bd.keep {w w' : World} {g : Nat} {b : BV} {vl vr vd : Value} (k : Bd w g b vl vr vd) (t : Touch (fun _ => False) w w') : Bd w' g b vl vr vd :=
  ⟨t.cellN k.c0, t.cellN k.c1, t.cellN k.c2, t.cellN k.c3, t.cellN k.c4, t.cellN k.c5, t.cellN k.c6, t.cellN k.c7, t.cellN k.c8⟩
theorem Bd.new (w : World) (b : BV) (vl vr vd : Value) (t : TypeId) :
    Bd (w.alloc (.cells #[.int .u8 b.flags, vl, .int .u32 b.mask, vr, .int .u32 b.metric, .bool b.type2, .int .u32 b.fwd, .int .u32 b.tag, vd] t)) w.heap.size b vl vr vd :=
  ⟨by simp [go_sem], by simp [go_sem], by simp [go_sem], by simp [go_sem], by simp [go_sem], by simp [go_sem], by simp [go_sem], by simp [go_sem], by simp [go_sem]⟩

/-- A state as a value: its head's numbers, the row of its body. -/
def HV.sv (h : HV) (v : Value) : Value := .agg #[.int .u16 h.age, .int .u8 h.opts, .int .u8 h.typ, .int .u32 h.id, .int .u32 h.adv, .int .i32 h.seq, .int .u16 h.sum, .int .u16 h.len, v]
def HV.zero : HV := ⟨0, 0, 0, 0, 0, 0, 0, 0⟩
structure Sd (w : World) (g : Nat) (h : HV) (v : Value) : Prop where
  hd : Hd w g h
  c8 : w.cell? ⟨g, 8, none⟩ = some v
theorem Sd.keep {w w' : World} {g : Nat} {h : HV} {v : Value} (k : Sd w g h v) (t : Touch (fun _ => False) w w') : Sd w' g h v := ⟨k.hd.keep t, t.cellN k.c8⟩
theorem Sd.new (w : World) (h : HV) (v : Value) (t : TypeId) :
    Sd (w.alloc (.cells #[.int .u16 h.age, .int .u8 h.opts, .int .u8 h.typ, .int .u32 h.id, .int .u32 h.adv, .int .i32 h.seq, .int .u16 h.sum, .int .u16 h.len, v] t)) w.heap.size h v :=
  ⟨⟨by simp [go_sem], by simp [go_sem], by simp [go_sem], by simp [go_sem], by simp [go_sem], by simp [go_sem], by simp [go_sem], by simp [go_sem]⟩, by simp [go_sem]⟩
end Go.Proofs.YtjgeklipeeooaaaGreatDoor

namespace Go.Proofs.YtjgeklipeeooaaaGreatDoor
open Go.RowKit
set_option linter.unusedVariables false
set_option maxRecDepth 100000

/-- A state lies in block g, and may be stored into. -/
structure Out (w : World) (g : Nat) (h : HV) (v : Value) : Prop where
  sd : Sd w g h v
  fz : ∀ i, i < 9 → w.frozen? ⟨g, i, none⟩ = false
theorem Out.lt {w : World} {g : Nat} {h : HV} {v : Value} (k : Out w g h v) : g < w.heap.size := lt_of_cell k.sd.hd.c0
theorem Out.keep {w w' : World} {g : Nat} {h : HV} {v : Value} (k : Out w g h v) (t : Touch (fun _ => False) w w') : Out w' g h v :=
  ⟨k.sd.keep t, fun i hi => (t.frozen (p := ⟨g, i, none⟩) k.lt (fun h => h)).trans (k.fz i hi)⟩
theorem Out.new (w : World) (h : HV) (v : Value) (t : TypeId) :
    Out (w.alloc (.cells #[.int .u16 h.age, .int .u8 h.opts, .int .u8 h.typ, .int .u32 h.id, .int .u32 h.adv, .int .i32 h.seq, .int .u16 h.sum, .int .u16 h.len, v] t)) w.heap.size h v :=
  ⟨Sd.new w h v t, fun i hi => by simp [go_sem]⟩
theorem Out.set6 {w : World} {g : Nat} {h : HV} {v : Value} (k : Out w g h v) (x : Int) : Out (w.setCell ⟨g, 6, none⟩ (.int .u16 x)) g { h with sum := x } v := by
  obtain ⟨⟨⟨c0, c1, c2, c3, c4, c5, c6, c7⟩, c8⟩, fz⟩ := k
  exact ⟨⟨⟨by simp [c0, go_sem], by simp [c1, go_sem], by simp [c2, go_sem], by simp [c3, go_sem], by simp [c4, go_sem], by simp [c5, go_sem], by simp [c6, go_sem], by simp [c7, go_sem]⟩, by simp [c8, go_sem]⟩, fun i hi => by simp [fz i hi, go_sem]⟩
theorem Out.set8 {w : World} {g : Nat} {h : HV} {v : Value} (k : Out w g h v) (u : Value) : Out (w.setCell ⟨g, 8, none⟩ u) g h u := by
  obtain ⟨⟨⟨c0, c1, c2, c3, c4, c5, c6, c7⟩, c8⟩, fz⟩ := k
  exact ⟨⟨⟨by simp [c0, go_sem], by simp [c1, go_sem], by simp [c2, go_sem], by simp [c3, go_sem], by simp [c4, go_sem], by simp [c5, go_sem], by simp [c6, go_sem], by simp [c7, go_sem]⟩, by simp [c8, go_sem]⟩, fun i hi => by simp [fz i hi, go_sem]⟩
theorem Out.other {w : World} {g : Nat} {h : HV} {v : Value} (k : Out w g h v) {p : Addr} (hp : p.block ≠ g) (u : Value) : Out (w.setCell p u) g h v := by
  have t : Touch (fun k => k = p.block) w (w.setCell p u) := Touch.setCell (F := fun k => k = p.block) (Touch.refl _ w) (p := p) (Or.inl rfl) u
  have hl := k.lt
  have ce : ∀ i, (w.setCell p u).cell? ⟨g, i, none⟩ = w.cell? ⟨g, i, none⟩ := fun i => t.cell (p := ⟨g, i, none⟩) hl (fun e => hp e.symm)
  obtain ⟨⟨⟨c0, c1, c2, c3, c4, c5, c6, c7⟩, c8⟩, fz⟩ := k
  exact ⟨⟨⟨(ce 0).trans c0, (ce 1).trans c1, (ce 2).trans c2, (ce 3).trans c3, (ce 4).trans c4, (ce 5).trans c5, (ce 6).trans c6, (ce 7).trans c7⟩, (ce 8).trans c8⟩,
    fun i hi => (t.frozen (p := ⟨g, i, none⟩) hl (fun e => hp e.symm)).trans (fz i hi)⟩
theorem own_lower {w : World} {base base' e k n : Nat} {v : Value} {xs : List Value} (h : w.ownsRow base e k v n xs) (hb : base' ≤ base) : w.ownsRow base' e k v n xs := by
  refine ⟨h.1, ?_⟩
  rcases h.2 with h2 | ⟨g, cap, cur, hv, hg, r⟩
  · exact Or.inl h2
  · exact Or.inr ⟨g, cap, cur, hv, by omega, r⟩
end Go.Proofs.YtjgeklipeeooaaaGreatDoor
