/- What a call returned, by an equation. -/
import Derived.Test.YtjffcflhbnmjmaaGreatParts
import Derived.Test.YtjffcflhbnmjmaaGreatMaskBits
namespace Go.Proofs.YtjffcflhbnmjmaaGreat
open Go.RowKit
set_option linter.unusedVariables false

theorem ret_int {k : IntKind} {a b : Int} (h : a = b) : Ending.returned (.int k a) = .returned (.int k b) := by rw [h]
theorem ret_bool {a b : Bool} (h : a = b) : Ending.returned (.bool a) = .returned (.bool b) := by rw [h]
theorem ret_bits {a b : Int} {c d : Bool} (h : a = b) (h' : c = d) : Ending.returned (.tuple #[.int .u8 a, .bool c]) = .returned (.tuple #[.int .u8 b, .bool d]) := by rw [h, h']
end Go.Proofs.YtjffcflhbnmjmaaGreat

namespace Go.Proofs.YtjffcflhbnmjmaaGreat
open Go.RowKit
set_option linter.unusedVariables false
set_option maxRecDepth 100000

/-- A head's numbers. -/
structure HV where
  age : Int
  opts : Int
  typ : Int
  id : Int
  adv : Int
  seq : Int
  sum : Int
  len : Int
def HV.v (h : HV) : Value := .agg #[.int .u16 h.age, .int .u8 h.opts, .int .u8 h.typ, .int .u32 h.id, .int .u32 h.adv, .int .i32 h.seq, .int .u16 h.sum, .int .u16 h.len]
/-- It lies in block g. -/
structure Hd (w : World) (g : Nat) (h : HV) : Prop where
  c0 : w.cell? ⟨g, 0, none⟩ = some (.int .u16 h.age)
  c1 : w.cell? ⟨g, 1, none⟩ = some (.int .u8 h.opts)
  c2 : w.cell? ⟨g, 2, none⟩ = some (.int .u8 h.typ)
  c3 : w.cell? ⟨g, 3, none⟩ = some (.int .u32 h.id)
  c4 : w.cell? ⟨g, 4, none⟩ = some (.int .u32 h.adv)
  c5 : w.cell? ⟨g, 5, none⟩ = some (.int .i32 h.seq)
  c6 : w.cell? ⟨g, 6, none⟩ = some (.int .u16 h.sum)
  c7 : w.cell? ⟨g, 7, none⟩ = some (.int .u16 h.len)
theorem Hd.keep {w w' : World} {g : Nat} {h : HV} (k : Hd w g h) (t : Touch (fun _ => False) w w') : Hd w' g h :=
  ⟨t.cellN k.c0, t.cellN k.c1, t.cellN k.c2, t.cellN k.c3, t.cellN k.c4, t.cellN k.c5, t.cellN k.c6, t.cellN k.c7⟩
theorem Hd.new (w : World) (h : HV) (t : TypeId) :
    Hd (w.alloc (.cells #[.int .u16 h.age, .int .u8 h.opts, .int .u8 h.typ, .int .u32 h.id, .int .u32 h.adv, .int .i32 h.seq, .int .u16 h.sum, .int .u16 h.len] t)) w.heap.size h :=
  ⟨by simp [go_sem], by simp [go_sem], by simp [go_sem], by simp [go_sem], by simp [go_sem], by simp [go_sem], by simp [go_sem], by simp [go_sem]⟩
end Go.Proofs.YtjffcflhbnmjmaaGreat

namespace Go.Proofs.YtjffcflhbnmjmaaGreat
open Go.RowKit
set_option linter.unusedVariables false

/-- The sum of all bytes. -/
def S0 : List Int → Int
  | [] => 0
  | x :: r => x + S0 r
/-- The bytes, the first n times, each next one once less. -/
def C1 : Int → List Int → Int
  | _, [] => 0
  | n, x :: r => n * x + C1 (n - 1) r
def S1 (l : List Int) : Int := C1 l.length l

theorem S0_append (a b : List Int) : S0 (a ++ b) = S0 a + S0 b := by
  induction a with
  | nil => simp [S0]
  | cons x r ih => simp only [List.cons_append, S0, ih]; omega
theorem C1_append (n : Int) (a b : List Int) : C1 n (a ++ b) = C1 n a + C1 (n - a.length) b := by
  induction a generalizing n with
  | nil => simp [C1]
  | cons x r ih =>
    simp only [List.cons_append, C1, ih, List.length_cons]
    rw [show n - 1 - (r.length : Int) = n - ((r.length + 1 : Nat) : Int) by omega]
    omega
theorem C1_shift (n d : Int) (l : List Int) : C1 (n + d) l = C1 n l + d * S0 l := by
  induction l generalizing n with
  | nil => simp [C1, S0]
  | cons x r ih =>
    simp only [C1, S0]
    rw [show n + d - 1 = n - 1 + d by omega, ih]
    grind
theorem S1_snoc (l : List Int) (x : Int) : S1 (l ++ [x]) = S1 l + S0 l + x := by
  unfold S1
  rw [C1_append, List.length_append, show ((l.length + [x].length : Nat) : Int) = (l.length : Int) + 1 by simp, C1_shift]
  simp only [C1]
  rw [show (l.length : Int) + 1 - l.length = 1 by omega]
  omega

/-- What the two cells hold behind the bytes l. -/
structure Run (l : List Int) (a b : Int) : Prop where
  c0 : a % 255 = S0 l % 255
  c1 : b % 255 = S1 l % 255
theorem Run.zero : Run [] 0 0 := ⟨rfl, rfl⟩
theorem Run.snoc {l : List Int} {a b : Int} (h : Run l a b) (x : Int) : Run (l ++ [x]) (a + x) (b + (a + x)) := by
  obtain ⟨h0, h1⟩ := h
  refine ⟨?_, ?_⟩
  · rw [S0_append]; simp only [S0]; omega
  · rw [S1_snoc]; omega
theorem Run.mod {l : List Int} {a b : Int} (h : Run l a b) : Run l (a % 255) (b % 255) := by
  obtain ⟨h0, h1⟩ := h
  exact ⟨by omega, by omega⟩

/-- The words added up; the flag: the next byte is a higher one. -/
def W : Bool → List Int → Int
  | _, [] => 0
  | true, x :: r => 256 * x + W false r
  | false, x :: r => x + W true r
/-- The bytes with two others at a place. -/
def laid (l : List Int) (at' : Nat) (x y : Int) : List Int := (l.set at' x).set (at' + 1) y
theorem length_laid (l : List Int) (a : Nat) (x y : Int) : (laid l a x y).length = l.length := by simp [laid]
theorem laid_cut (l : List Int) (a : Nat) (x y : Int) (h : a + 2 ≤ l.length) : laid l a x y = l.take a ++ (x :: y :: l.drop (a + 2)) := by
  unfold laid
  rw [List.set_eq_take_append_cons_drop, if_pos (by simp; omega), List.take_set, List.drop_set]
  rw [if_pos (by omega), List.set_eq_take_append_cons_drop, if_pos (by simp; omega)]
  rw [List.take_take, Nat.min_eq_left (by omega), List.append_assoc]
  simp
theorem S0_set (l : List Int) (i : Nat) (x : Int) (h : i < l.length) : S0 (l.set i x) = S0 l + (x - l.getD i 0) := by
  induction l generalizing i with
  | nil => simp at h
  | cons y r ih =>
    cases i with
    | zero => simp [S0]; omega
    | succ i =>
      have := ih i (by simpa using h)
      simp only [List.set_cons_succ, S0, this, List.getD_cons_succ]
      omega
theorem C1_set (n : Int) (l : List Int) (i : Nat) (x : Int) (h : i < l.length) : C1 n (l.set i x) = C1 n l + (n - i) * (x - l.getD i 0) := by
  induction l generalizing i n with
  | nil => simp at h
  | cons y r ih =>
    cases i with
    | zero => simp only [List.set_cons_zero, C1, List.getD_cons_zero]; grind
    | succ i =>
      have := ih (n - 1) i (by simpa using h)
      simp only [List.set_cons_succ, C1, this, List.getD_cons_succ]
      rw [show n - 1 - (i : Int) = n - ((i + 1 : Nat) : Int) by omega]
      omega
theorem S1_set (l : List Int) (i : Nat) (x : Int) (h : i < l.length) : S1 (l.set i x) = S1 l + ((l.length : Int) - i) * (x - l.getD i 0) := by
  unfold S1
  rw [List.length_set, C1_set _ _ _ _ h]
theorem getD_set_ne (l : List Int) (i j : Nat) (x : Int) (h : i ≠ j) : (l.set i x).getD j 0 = l.getD j 0 := by simp [List.getD, h]
theorem getD_set_eq (l : List Int) (i : Nat) (x : Int) (h : i < l.length) : (l.set i x).getD i 0 = x := by simp [List.getD, h]

theorem S0_laid (l : List Int) (a : Nat) (x y : Int) (h : a + 2 ≤ l.length) : S0 (laid l a x y) = S0 (laid l a 0 0) + x + y := by
  unfold laid
  rw [S0_set _ _ _ (by simp; omega), S0_set _ _ _ (by omega), S0_set _ _ _ (by simp; omega), S0_set _ _ _ (by omega), getD_set_ne _ _ _ _ (by omega), getD_set_ne _ _ _ _ (by omega)]
  omega
theorem S1_laid (l : List Int) (a : Nat) (x y : Int) (h : a + 2 ≤ l.length) : S1 (laid l a x y) = S1 (laid l a 0 0) + ((l.length : Int) - a) * x + ((l.length : Int) - a - 1) * y := by
  unfold laid
  rw [S1_set _ _ _ (by simp; omega), S1_set _ _ _ (by omega), S1_set _ _ _ (by simp; omega), S1_set _ _ _ (by omega), getD_set_ne _ _ _ _ (by omega), getD_set_ne _ _ _ _ (by omega)]
  simp only [List.length_set]
  rw [show ((a + 1 : Nat) : Int) = (a : Int) + 1 by omega]
  grind

/-- The two bytes of Fletcher, out of the two sums. -/
def fx (t c0 c1 : Int) : Int := (t * c0 + 255 - c1 + 254) % 255 + 1
def fy (c0 x : Int) : Int := (510 - c0 - x + 254) % 255 + 1
theorem fx_bound (t c0 c1 : Int) : 1 ≤ fx t c0 c1 ∧ fx t c0 c1 ≤ 255 := by unfold fx; omega
theorem fy_bound (c0 x : Int) : 1 ≤ fy c0 x ∧ fy c0 x ≤ 255 := by unfold fy; omega
/-- No other pair does it. -/
theorem pair_only {c0 c1 n t x y : Int} (ht : t = (n + 254) % 255) (hx : 1 ≤ x ∧ x ≤ 255) (hy : 1 ≤ y ∧ y ≤ 255) :
    ((c0 + x + y) % 255 = 0 ∧ (c1 + n * x + t * y) % 255 = 0) ↔ x = fx t c0 c1 ∧ y = fy c0 (fx t c0 c1) := by
  obtain ⟨q, hq⟩ : ∃ q, n = t + 1 + 255 * q := ⟨(n + 254) / 255 - 1, by omega⟩
  constructor
  · rintro ⟨h1, h2⟩
    obtain ⟨m, hm⟩ : ∃ m, y = 255 * m - c0 - x := ⟨(c0 + x + y) / 255, by omega⟩
    have e : c1 + n * x + t * y = c1 + x - t * c0 + 255 * (q * x + t * m) := by rw [hq, hm]; grind
    rw [e] at h2
    have hxx : x = fx t c0 c1 := by
      unfold fx
      generalize t * c0 = P at *
      generalize q * x + t * m = R at *
      omega
    refine ⟨hxx, ?_⟩
    rw [← hxx]
    unfold fy
    omega
  · rintro ⟨h1, h2⟩
    rw [← h1] at h2
    have k1 : (c0 + x + y) % 255 = 0 := by rw [h2]; unfold fy; omega
    refine ⟨k1, ?_⟩
    obtain ⟨m, hm⟩ : ∃ m, y = 255 * m - c0 - x := ⟨(c0 + x + y) / 255, by omega⟩
    have e : c1 + n * x + t * y = c1 + x - t * c0 + 255 * (q * x + t * m) := by rw [hq, hm]; grind
    rw [e]
    unfold fx at h1
    generalize t * c0 = P at *
    generalize q * x + t * m = R at *
    omega

def tms (l : List Int) (a : Nat) : Int := ((l.length : Int) - a - 1) % 255
def flx (l : List Int) (a : Nat) : Int := fx (tms l a) (S0 (laid l a 0 0) % 255) (S1 (laid l a 0 0) % 255)
def fly (l : List Int) (a : Nat) : Int := fy (S0 (laid l a 0 0) % 255) (flx l a)
theorem flx_bound (l : List Int) (a : Nat) : 1 ≤ flx l a ∧ flx l a ≤ 255 := fx_bound _ _ _
theorem fly_bound (l : List Int) (a : Nat) : 1 ≤ fly l a ∧ fly l a ≤ 255 := fy_bound _ _
/-- Both sums are 0. -/
def whole (l : List Int) : Bool := (S0 l % 255 == 0) && (S1 l % 255 == 0)
theorem whole_iff (l : List Int) : whole l = true ↔ S0 l % 255 = 0 ∧ S1 l % 255 = 0 := by simp [whole]
theorem whole_laid (l : List Int) (a : Nat) (h : a + 2 ≤ l.length) : whole (laid l a (flx l a) (fly l a)) = true := by
  rw [whole_iff, S0_laid _ _ _ _ h, S1_laid _ _ _ _ h]
  have k := (pair_only (c0 := S0 (laid l a 0 0) % 255) (c1 := S1 (laid l a 0 0) % 255) (n := (l.length : Int) - a) (t := ((l.length : Int) - a + 254) % 255) rfl (flx_bound l a) (fly_bound l a)).2
  have ht : tms l a = ((l.length : Int) - a + 254) % 255 := by unfold tms; omega
  have k := k ⟨by rw [← ht]; rfl, by rw [← ht]; rfl⟩
  obtain ⟨k1, k2⟩ := k
  refine ⟨by omega, ?_⟩
  obtain ⟨q, hq⟩ : ∃ q, (l.length : Int) - a - 1 = ((l.length : Int) - a + 254) % 255 + 255 * q := ⟨((l.length : Int) - a - 1) / 255, by omega⟩
  rw [hq]
  have e : (((l.length : Int) - a + 254) % 255 + 255 * q) * fly l a = ((l.length : Int) - a + 254) % 255 * fly l a + 255 * (q * fly l a) := by grind
  rw [e]
  generalize ((l.length : Int) - a + 254) % 255 * fly l a = P at *
  generalize q * fly l a = Q at *
  generalize ((l.length : Int) - a) * flx l a = R at *
  omega
end Go.Proofs.YtjffcflhbnmjmaaGreat

namespace Go.Proofs.YtjffcflhbnmjmaaGreat
open Go.RowKit
set_option linter.unusedVariables false
set_option maxRecDepth 100000

/-- A link's numbers. -/
structure LV where
  id : Int
  data : Int
  typ : Int
  cost : Int
/-- A body's numbers. -/
structure BV where
  flags : Int
  links : List LV
  mask : Int
  routers : List Int
  metric : Int
  type2 : Bool
  fwd : Int
  tag : Int
  data : List Int
def BV.zero : BV := ⟨0, [], 0, [], 0, false, 0, 0, []⟩
structure LV.Ok (x : LV) : Prop where
  i : 0 ≤ x.id ∧ x.id < 4294967296
  d : 0 ≤ x.data ∧ x.data < 4294967296
  t : 0 ≤ x.typ ∧ x.typ < 256
  c : 0 ≤ x.cost ∧ x.cost < 65536
structure BV.Ok (b : BV) : Prop where
  f : 0 ≤ b.flags ∧ b.flags < 256
  l : ∀ x ∈ b.links, x.Ok
  m : 0 ≤ b.mask ∧ b.mask < 4294967296
  r : ∀ x ∈ b.routers, 0 ≤ x ∧ x < 4294967296
  e : 0 ≤ b.metric ∧ b.metric < 4294967296
  w : 0 ≤ b.fwd ∧ b.fwd < 4294967296
  t : 0 ≤ b.tag ∧ b.tag < 4294967296
  d : ∀ x ∈ b.data, 0 ≤ x ∧ x < 256
/-- A head's numbers fit their kinds. -/
structure HV.All (h : HV) : Prop where
  a : 0 ≤ h.age ∧ h.age < 65536
  o : 0 ≤ h.opts ∧ h.opts < 256
  t : 0 ≤ h.typ ∧ h.typ < 256
  i : 0 ≤ h.id ∧ h.id < 4294967296
  v : 0 ≤ h.adv ∧ h.adv < 4294967296
  s : -2147483648 ≤ h.seq ∧ h.seq ≤ 2147483647
  m : 0 ≤ h.sum ∧ h.sum < 65536
  l : 0 ≤ h.len ∧ h.len < 65536

/-- A head's twenty bytes. -/
def headB (h : HV) : List Int := numBytes 2 h.age ++ [h.opts, h.typ] ++ numBytes 4 h.id ++ numBytes 4 h.adv ++ numBytes 4 (h.seq % 4294967296) ++ numBytes 2 h.sum ++ numBytes 2 h.len
theorem length_headB (h : HV) : (headB h).length = 20 := by simp [headB, numBytes]
theorem headB_byte {h : HV} (ok : h.All) : ∀ z ∈ headB h, 0 ≤ z ∧ z < 256 := by
  intro z hz
  simp only [headB, List.mem_append] at hz
  rcases hz with ((((((hz | hz) | hz) | hz) | hz) | hz) | hz)
  · exact numBytes_byte _ _ z hz
  · have h1 := ok.o
    have h2 := ok.t
    simp at hz
    rcases hz with rfl | rfl <;> omega
  · exact numBytes_byte _ _ z hz
  · exact numBytes_byte _ _ z hz
  · exact numBytes_byte _ _ z hz
  · exact numBytes_byte _ _ z hz
  · exact numBytes_byte _ _ z hz

def linkB (x : LV) : List Int := numBytes 4 x.id ++ numBytes 4 x.data ++ [x.typ, 0] ++ numBytes 2 x.cost
theorem length_linkB (x : LV) : (linkB x).length = 12 := by simp [linkB, numBytes]
def linksB (l : List LV) : List Int := l.flatMap linkB
def routersB (l : List Int) : List Int := l.flatMap (numBytes 4)
theorem length_linksB (l : List LV) : (linksB l).length = 12 * l.length := by
  induction l with
  | nil => rfl
  | cons x r ih => unfold linksB at *; rw [List.flatMap_cons, List.length_append, ih, length_linkB, List.length_cons]; omega
theorem length_routersB (l : List Int) : (routersB l).length = 4 * l.length := by
  induction l with
  | nil => rfl
  | cons x r ih => unfold routersB at *; rw [List.flatMap_cons, List.length_append, ih, length_numBytes (by omega), List.length_cons]; omega
theorem linksB_snoc (l : List LV) (x : LV) : linksB (l ++ [x]) = linksB l ++ linkB x := by simp [linksB]
theorem routersB_snoc (l : List Int) (x : Int) : routersB (l ++ [x]) = routersB l ++ numBytes 4 x := by simp [routersB]

/-- Metric's four bytes, with the highest bit if Type2. -/
def metricN (b : BV) : Int := if b.type2 then (b.metric + 2147483648) % 4294967296 else b.metric
/-- A body's bytes. -/
def layB (t : Int) (b : BV) : List Int :=
  if t = 1 then [b.flags, 0] ++ numBytes 2 ((b.links.length : Int) % 65536) ++ linksB b.links
  else if t = 2 then numBytes 4 b.mask ++ routersB b.routers
  else if t = 3 ∨ t = 4 then numBytes 4 b.mask ++ numBytes 4 b.metric
  else if t = 5 ∨ t = 7 then numBytes 4 b.mask ++ numBytes 4 (metricN b) ++ numBytes 4 b.fwd ++ numBytes 4 b.tag
  else b.data
/-- How many bytes it has. -/
def sizeB (t : Int) (b : BV) : Int :=
  if t = 1 then 4 + 12 * (b.links.length : Int) else if t = 2 then 4 + 4 * (b.routers.length : Int) else if t = 3 ∨ t = 4 then 8 else if t = 5 ∨ t = 7 then 16 else (b.data.length : Int)
theorem length_layB (t : Int) (b : BV) : ((layB t b).length : Int) = sizeB t b := by
  unfold layB sizeB
  split
  · simp [length_linksB, numBytes]; omega
  · split
    · simp [length_routersB, numBytes]; omega
    · split
      · simp [numBytes]
      · split
        · simp [numBytes]
        · rfl

/-- Is it a type of the table? -/
def knownB (t : Int) : Bool := (decide (1 ≤ t) && decide (t ≤ 5)) || decide (t = 7) || (decide (9 ≤ t) && decide (t ≤ 11))
/-- Are only fields set that its type has? -/
def aloneB (t : Int) (b : BV) : Bool :=
  decide (t = 1 ∨ (b.flags = 0 ∧ b.links.length = 0)) && decide (t = 2 ∨ b.routers.length = 0) && decide (t = 2 ∨ t = 3 ∨ t = 5 ∨ t = 7 ∨ b.mask = 0) && decide (t = 3 ∨ t = 4 ∨ t = 5 ∨ t = 7 ∨ b.metric = 0)
    && decide (t = 5 ∨ t = 7 ∨ (b.type2 = false ∧ b.fwd = 0 ∧ b.tag = 0)) && decide (9 ≤ t ∨ b.data.length = 0)
/-- May it be, of a known type? -/
def mayB (t : Int) (b : BV) : Bool :=
  aloneB t b && pbok b.mask && decide (b.metric ≤ 16777215) && decide (b.data.length % 4 = 0) && decide (t = 2 → 0 < b.routers.length) && b.links.all (fun x => decide (1 ≤ x.typ ∧ x.typ ≤ 4))
structure May (t : Int) (b : BV) : Prop where
  a1 : t = 1 ∨ (b.flags = 0 ∧ b.links.length = 0)
  a2 : t = 2 ∨ b.routers.length = 0
  a3 : t = 2 ∨ t = 3 ∨ t = 5 ∨ t = 7 ∨ b.mask = 0
  a4 : t = 3 ∨ t = 4 ∨ t = 5 ∨ t = 7 ∨ b.metric = 0
  a5 : t = 5 ∨ t = 7 ∨ (b.type2 = false ∧ b.fwd = 0 ∧ b.tag = 0)
  a6 : 9 ≤ t ∨ b.data.length = 0
  mask : pbok b.mask = true
  met : b.metric ≤ 16777215
  dat : b.data.length % 4 = 0
  rou : t = 2 → 0 < b.routers.length
  lin : ∀ x ∈ b.links, 1 ≤ x.typ ∧ x.typ ≤ 4
theorem mayB_iff (t : Int) (b : BV) : mayB t b = true ↔ May t b := by
  unfold mayB aloneB
  simp only [Bool.and_eq_true, decide_eq_true_eq, List.all_eq_true]
  constructor
  · rintro ⟨⟨⟨⟨⟨⟨⟨⟨⟨⟨h1, h2⟩, h3⟩, h4⟩, h5⟩, h6⟩, h7⟩, h8⟩, h9⟩, h10⟩, h11⟩
    exact ⟨h1, h2, h3, h4, h5, h6, h7, h8, h9, h10, h11⟩
  · rintro ⟨h1, h2, h3, h4, h5, h6, h7, h8, h9, h10, h11⟩
    exact ⟨⟨⟨⟨⟨⟨⟨⟨⟨⟨h1, h2⟩, h3⟩, h4⟩, h5⟩, h6⟩, h7⟩, h8⟩, h9⟩, h10⟩, h11⟩

/-- Links out of bytes, twelve each. -/
def readLinks : List Int → List LV
  | a :: b :: c :: d :: e :: f :: g :: h :: i :: j :: k :: l :: r => ⟨numOf [a, b, c, d], numOf [e, f, g, h], i, numOf [k, l]⟩ :: readLinks r
  | _ => []
/-- Routers out of bytes, four each. -/
def readRouters : List Int → List Int
  | a :: b :: c :: d :: r => numOf [a, b, c, d] :: readRouters r
  | _ => []
theorem readLinks_linksB (ls : List LV) (h : ∀ x ∈ ls, x.Ok) : readLinks (linksB ls) = ls := by
  induction ls with
  | nil => rfl
  | cons x r ih =>
    have hx := h x (by simp)
    have hr := ih (fun y hy => h y (by simp [hy]))
    have e : linksB (x :: r) = linkB x ++ linksB r := by simp [linksB]
    rw [e]
    obtain ⟨i, d, t, c⟩ := x
    obtain ⟨⟨i0, i1⟩, ⟨d0, d1⟩, ⟨t0, t1⟩, ⟨c0, c1⟩⟩ := hx
    dsimp only at i0 i1 d0 d1 t0 t1 c0 c1
    have e1 := numOf_four i i0 i1
    have e2 := numOf_four d d0 d1
    have e3 := numOf_two c c0 c1
    rw [numBytes4] at e1 e2
    rw [numBytes2] at e3
    simp only [linkB, numBytes4, numBytes2, List.cons_append, List.nil_append, readLinks, hr]
    rw [e1, e2, e3]
theorem readRouters_routersB (ls : List Int) (h : ∀ x ∈ ls, 0 ≤ x ∧ x < 4294967296) : readRouters (routersB ls) = ls := by
  induction ls with
  | nil => rfl
  | cons x r ih =>
    have hx := h x (by simp)
    have hr := ih (fun y hy => h y (by simp [hy]))
    have e : routersB (x :: r) = numBytes 4 x ++ routersB r := by simp [routersB]
    rw [e]
    have e1 := numOf_four x hx.1 hx.2
    rw [numBytes4] at e1
    simp only [numBytes4, List.cons_append, List.nil_append, readRouters, hr]
    rw [e1]
/-- A body out of bytes, as far as there are enough. -/
def readB (t : Int) (l : List Int) : Option BV :=
  if t = 1 then (if l.length < 4 then none else some ⟨l.getD 0 0, readLinks (l.drop 4), 0, [], 0, false, 0, 0, []⟩)
  else if t = 2 then (if l.length < 4 then none else some ⟨0, [], numOf (l.take 4), readRouters (l.drop 4), 0, false, 0, 0, []⟩)
  else if t = 3 ∨ t = 4 then (if l.length ≠ 8 then none else some ⟨0, [], numOf (l.take 4), [], numOf ((l.drop 4).take 4), false, 0, 0, []⟩)
  else if t = 5 ∨ t = 7 then (if l.length ≠ 16 then none else some ⟨0, [], numOf (l.take 4), [], numOf ((l.drop 5).take 3), l.getD 4 0 == 128, numOf ((l.drop 8).take 4), numOf ((l.drop 12).take 4), []⟩)
  else some ⟨0, [], 0, [], 0, false, 0, 0, l⟩
/-- The body whose bytes these are. -/
def decB (t : Int) (l : List Int) : Option BV :=
  match readB t l with
  | none => none
  | some b => if mayB t b = true ∧ layB t b = l then some b else none
theorem decB_some {t : Int} {l : List Int} {b : BV} (h : decB t l = some b) : readB t l = some b ∧ May t b ∧ layB t b = l := by
  unfold decB at h
  split at h
  · cases h
  · rename_i c hc
    split at h
    · rename_i hm
      cases h
      exact ⟨hc, (mayB_iff _ _).1 hm.1, hm.2⟩
    · cases h
/-- There and back. -/
theorem readB_layB {t : Int} {b : BV} (ok : b.Ok) (m : May t b) : readB t (layB t b) = some b := by
  obtain ⟨fl, ls, ma, rs, me, t2, fw, tg, da⟩ := b
  obtain ⟨⟨f0, f1⟩, okl, ⟨m0, m1⟩, okr, ⟨e0, e1⟩, ⟨w0, w1⟩, ⟨g0, g1⟩, okd⟩ := ok
  obtain ⟨a1, a2, a3, a4, a5, a6, hm, hme, hda, hro, hli⟩ := m
  dsimp only at *
  unfold readB layB
  have n4 := numOf_four ma m0 m1
  rw [numBytes4] at n4
  by_cases h1 : t = 1
  · obtain rfl : da = [] := List.length_eq_zero_iff.1 (by omega)
    obtain rfl : rs = [] := List.length_eq_zero_iff.1 (by omega)
    obtain rfl : ma = 0 := by omega
    obtain rfl : me = 0 := by omega
    obtain ⟨rfl, rfl, rfl⟩ : t2 = false ∧ fw = 0 ∧ tg = 0 := by rcases a5 with h | h | h; omega; omega; exact h
    rw [if_pos h1, if_pos h1, numBytes2]
    simp only [List.cons_append, List.nil_append, List.length_cons]
    rw [if_neg (by omega)]
    simp [List.getD, readLinks_linksB ls okl]
  · have hb : fl = 0 ∧ ls.length = 0 := by rcases a1 with h | h; exact absurd h h1; exact h
    obtain ⟨rfl, hb⟩ := hb
    obtain rfl : ls = [] := List.length_eq_zero_iff.1 hb
    rw [if_neg h1, if_neg h1]
    by_cases h2 : t = 2
    · obtain rfl : da = [] := List.length_eq_zero_iff.1 (by omega)
      obtain rfl : me = 0 := by omega
      obtain ⟨rfl, rfl, rfl⟩ : t2 = false ∧ fw = 0 ∧ tg = 0 := by rcases a5 with h | h | h; omega; omega; exact h
      rw [if_pos h2, if_pos h2, numBytes4]
      simp only [List.cons_append, List.nil_append, List.length_cons]
      rw [if_neg (by omega)]
      simp only [List.take, List.drop, n4, readRouters_routersB rs okr]
    · obtain rfl : rs = [] := List.length_eq_zero_iff.1 (by omega)
      rw [if_neg h2, if_neg h2]
      by_cases h3 : t = 3 ∨ t = 4
      · obtain rfl : da = [] := List.length_eq_zero_iff.1 (by omega)
        obtain ⟨rfl, rfl, rfl⟩ : t2 = false ∧ fw = 0 ∧ tg = 0 := by rcases a5 with h | h | h; omega; omega; exact h
        have n5 := numOf_four me e0 e1
        rw [numBytes4] at n5
        rw [if_pos h3, if_pos h3, numBytes4, numBytes4]
        simp only [List.cons_append, List.nil_append, List.length_cons, List.length_nil]
        rw [if_neg (by omega)]
        simp only [List.take, List.drop, n4, n5]
      · rw [if_neg h3, if_neg h3]
        by_cases h4 : t = 5 ∨ t = 7
        · obtain rfl : da = [] := List.length_eq_zero_iff.1 (by omega)
          rw [if_pos h4, if_pos h4, numBytes4, numBytes4, numBytes4, numBytes4]
          have n6 := numOf_four fw w0 w1
          have n7 := numOf_four tg g0 g1
          rw [numBytes4] at n6 n7
          have n8 := numOf_three me e0 (by omega)
          rw [numBytes3] at n8
          simp only [List.cons_append, List.nil_append, List.length_cons, List.length_nil]
          rw [if_neg (by omega)]
          cases t2 with
          | false =>
            simp only [metricN, Bool.false_eq_true, if_false, List.take, List.drop, List.getD, List.getElem?_cons_succ, List.getElem?_cons_zero, Option.getD, n4, n6, n7]
            rw [n8, show (me / 16777216 % 256 == 128) = false by simp; omega]
          | true =>
            simp only [metricN, if_true, List.take, List.drop, List.getD, List.getElem?_cons_succ, List.getElem?_cons_zero, Option.getD, n4, n6, n7]
            rw [show (me + 2147483648) % 4294967296 = me + 2147483648 by omega]
            rw [show (me + 2147483648) / 65536 % 256 = me / 65536 % 256 by omega, show (me + 2147483648) / 256 % 256 = me / 256 % 256 by omega, show (me + 2147483648) % 256 = me % 256 by omega, n8,
              show ((me + 2147483648) / 16777216 % 256 == 128) = true by simp; omega]
        · have hb : t2 = false ∧ fw = 0 ∧ tg = 0 := by rcases a5 with h | h | h; omega; omega; exact h
          obtain ⟨rfl, rfl, rfl⟩ := hb
          obtain rfl : ma = 0 := by omega
          obtain rfl : me = 0 := by omega
          rw [if_neg h4, if_neg h4]
theorem decB_layB {t : Int} {b : BV} (ok : b.Ok) (m : May t b) : decB t (layB t b) = some b := by
  unfold decB
  rw [readB_layB ok m]
  exact if_pos ⟨(mayB_iff _ _).2 m, rfl⟩

/-- The sum of a state's bytes from the third on, at its own two bytes; the state, sealed. -/
def sealS (h : HV) (l : List Int) : Int := 256 * flx ((headB { h with len := 20 + (l.length : Int) } ++ l).drop 2) 14 + fly ((headB { h with len := 20 + (l.length : Int) } ++ l).drop 2) 14
def sealH (h : HV) (l : List Int) : HV := { h with len := 20 + (l.length : Int), sum := sealS h l }
end Go.Proofs.YtjffcflhbnmjmaaGreat
