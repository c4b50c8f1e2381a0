/- Pure: one byte of a right state that is changed is told. -/
import Derived.Test.YtjgeklipeeooaaaGreatDoorStRead3
import Derived.Test.YtjgeklipeeooaaaGreatDoorStHeadOf
import Derived.Test.YtjgeklipeeooaaaGreatDoorCutB
import Derived.Test.YtjgeklipeeooaaaGreatDoorStRead2
import Derived.Test.YtjgeklipeeooaaaGreatDoorStWrite
import Derived.Deep.RegionHeld2
import Derived.Test.YtjgeklipeeooaaaGreatDoorStRd2
import Derived.Deep.DeepCutAuto
import Derived.Deep.RegionHeld3
import Derived.Test.YtjgeklipeeooaaaGreatDoorPkUpd
import Derived.Test.YtjgeklipeeooaaaGreatDoorSumWords3
namespace Go.Proofs.YtjgeklipeeooaaaGreatDoor
open Go.RowKit
set_option linter.unusedVariables false
set_option maxRecDepth 100000

theorem readE_zero {rs : List Int} (e : readE rs = 0) : 20 ≤ rs.length ∧ 20 ≤ (rdHead (rs.take 20)).len ∧ (rdHead (rs.take 20)).len ≤ (rs.length : Int) := by
  unfold readE at e
  split at e
  · omega
  · split at e
    · omega
    · split at e
      · omega
      · omega
end Go.Proofs.YtjgeklipeeooaaaGreatDoor

namespace Go.Proofs.YtjgeklipeeooaaaGreatDoor
open Go.RowKit
set_option linter.unusedVariables false
set_option maxRecDepth 100000

/-- A state: its head and its body's bytes. -/
abbrev ST := HV × List Int
def SE.p (x : SE) : ST := (x.h, x.rs)
def stP (x : ST) : List Int := headB x.1 ++ x.2
def stsP (l : List ST) : List Int := l.flatMap stP
theorem stsP_of (l : List SE) : stsP (l.map SE.p) = stsB l := by
  unfold stsP stsB
  rw [List.flatMap_map]
  rfl
/-- A packet whole. -/
structure PkC where
  P : PV
  nb : List Int
  dh : List HV
  ks : List KV
  ss : List ST
  hs : List HV
/-- Its parts fit their kinds. -/
structure PkC.Ok (C : PkC) : Prop where
  P : C.P.Ok
  nb : ∀ x ∈ C.nb, 0 ≤ x ∧ x < 4294967296
  dh : ∀ h ∈ C.dh, h.All
  ks : ∀ k ∈ C.ks, k.All
  sh : ∀ s ∈ C.ss, s.1.All
  sb : ∀ s ∈ C.ss, ∀ z ∈ s.2, 0 ≤ z ∧ z < 256
  hs : ∀ h ∈ C.hs, h.All
/-- Has it something of a Hello; of a Description. -/
def hasH (C : PkC) : Bool := decide (C.P.iv ≠ 0 ∨ C.P.dead ≠ 0 ∨ C.P.dr ≠ 0 ∨ C.P.bdr ≠ 0 ∨ 0 < C.nb.length ∨ C.P.mask ≠ 0 ∨ C.P.opts ≠ 0 ∨ C.P.prio ≠ 0)
def hasD (C : PkC) : Bool := decide (C.P.mtu ≠ 0 ∨ C.P.dopts ≠ 0 ∨ C.P.dflags ≠ 0 ∨ C.P.dseq ≠ 0 ∨ 0 < C.dh.length)
/-- It has nothing but what its type has. -/
structure PAlone (C : PkC) : Prop where
  h : C.P.typ ≠ 1 → hasH C = false
  d : C.P.typ ≠ 2 → hasD C = false
  k : C.P.typ ≠ 3 → C.ks = []
  s : C.P.typ ≠ 4 → C.ss = []
  a : C.P.typ ≠ 5 → C.hs = []
/-- The bytes behind the head. -/
def pbodyB (C : PkC) : List Int := if C.P.typ = 1 then helloB C.P ++ wordsB C.nb else if C.P.typ = 2 then descB C.P ++ headsB C.dh else if C.P.typ = 3 then keysB C.ks else if C.P.typ = 4 then numBytes 4 (C.ss.length : Int) ++ stsP C.ss else headsB C.hs
def pmeas (C : PkC) : Bool := C.ss.all fun s => decide (s.1.len = 20 + (s.2.length : Int))
open Classical in
/-- What Encode finds wrong. -/
noncomputable def pencE (C : PkC) (A : AuV) : Int := if ¬ (1 ≤ C.P.typ ∧ C.P.typ ≤ 5) then 21 else if ¬ PAlone C then 24 else if pmeas C = false then 22 else if 2 < A.kind then 25 else if 65535 < 24 + (pbodyB C).length then 11 else 0
noncomputable def pencB (C : PkC) (A : AuV) : List Int := if pencE C A = 0 then sealedB A.kind (pheadB C.P A ++ pbodyB C) else []
/-- Where nothing is. -/
structure PEnc (C : PkC) (A : AuV) : Prop where
  t : 1 ≤ C.P.typ ∧ C.P.typ ≤ 5
  a : PAlone C
  m : pmeas C = true
  k : A.kind ≤ 2
  l : 24 + (pbodyB C).length ≤ 65535
theorem pencE_ok {C : PkC} {A : AuV} (h : pencE C A = 0) : PEnc C A := by
  unfold pencE at h
  by_cases h1 : 1 ≤ C.P.typ ∧ C.P.typ ≤ 5
  · rw [if_neg (fun g => g h1)] at h
    by_cases h2 : PAlone C
    · rw [if_neg (fun g => g h2)] at h
      by_cases h3 : pmeas C = false
      · rw [if_pos h3] at h; omega
      · rw [if_neg h3] at h
        by_cases h4 : 2 < A.kind
        · rw [if_pos h4] at h; omega
        · rw [if_neg h4] at h
          by_cases h5 : 65535 < 24 + (pbodyB C).length
          · rw [if_pos h5] at h; omega
          · exact ⟨h1, h2, by simpa using h3, by omega, by omega⟩
    · rw [if_pos h2] at h; omega
  · rw [if_pos h1] at h; omega
theorem PEnc.zero {C : PkC} {A : AuV} (h : PEnc C A) : pencE C A = 0 := by
  unfold pencE
  rw [if_neg (fun g => g h.t), if_neg (fun g => g h.a), if_neg (by rw [h.m]; simp), if_neg (by have := h.k; omega), if_neg (by have := h.l; omega)]
def PV.zero : PV := ⟨0, 0, 0, 0, 0, 0, 0, 0, 0, 0, 0, 0, 0, 0⟩
def AuV.zero : AuV := ⟨0, 0, 0, 0, 0, 0, 0, 0, 0⟩
def PkC.zero : PkC := ⟨PV.zero, [], [], [], [], []⟩
/-- The head that bytes tell. -/
def pv0 (rs : List Int) : PV := { PV.zero with typ := rs.getD 1 0, router := numOf ((rs.drop 4).take 4), area := numOf ((rs.drop 8).take 4) }
def au0 (rs : List Int) : AuV := ⟨numOf ((rs.drop 14).take 2), rs.getD 16 0, rs.getD 17 0, rs.getD 18 0, rs.getD 19 0, rs.getD 20 0, rs.getD 21 0, rs.getD 22 0, rs.getD 23 0⟩
/-- One key of twelve bytes. -/
def rdKey (c : List Int) : KV := ⟨numOf (c.take 4), numOf ((c.drop 4).take 4), numOf ((c.drop 8).take 4)⟩
/-- So many states from the beginning of bytes, and what is left. -/
def rdPre : Nat → List Int → Option (List ST × List Int)
  | 0, c => some ([], c)
  | n + 1, c => match rdPre n c with
    | some (l, r) => if readE r = 0 then some (l ++ [(rdHead (r.take 20), (r.drop 20).take ((rdHead (r.take 20)).len.toNat - 20))], r.drop (rdHead (r.take 20)).len.toNat) else none
    | none => none
def rdAll (c : List Int) : Option (List ST) := match rdPre (numOf (c.take 4)).toNat (c.drop 4) with
  | some (l, []) => some l
  | _ => none
/-- What is wrong with the bytes behind the head. -/
def ppartE (t : Int) (c : List Int) : Int :=
  if t = 1 then (if 20 ≤ c.length ∧ c.length % 4 = 0 then 0 else 22)
  else if t = 2 then (if 8 ≤ c.length ∧ (c.length - 8) % 20 = 0 then 0 else 22)
  else if t = 3 then (if c.length % 12 = 0 then (if (cuts 12 rdKey c).all (fun k => decide (k.typ ≤ 255)) then 0 else 24) else 22)
  else if t = 4 then (if 4 ≤ c.length ∧ (rdAll c).isSome then 0 else 22)
  else (if c.length % 20 = 0 then 0 else 22)
/-- What they say. -/
def ppartC (P : PV) (c : List Int) : PkC :=
  if P.typ = 1 then ⟨{ P with mask := numOf (c.take 4), iv := numOf ((c.drop 4).take 2), opts := c.getD 6 0, prio := c.getD 7 0, dead := numOf ((c.drop 8).take 4), dr := numOf ((c.drop 12).take 4), bdr := numOf ((c.drop 16).take 4) }, cuts 4 numOf (c.drop 20), [], [], [], []⟩
  else if P.typ = 2 then ⟨{ P with mtu := numOf (c.take 2), dopts := c.getD 2 0, dflags := c.getD 3 0, dseq := numOf ((c.drop 4).take 4) }, [], cuts 20 rdHead (c.drop 8), [], [], []⟩
  else if P.typ = 3 then ⟨P, [], [], cuts 12 rdKey c, [], []⟩
  else if P.typ = 4 then ⟨P, [], [], [], (rdAll c).getD [], []⟩
  else ⟨P, [], [], [], [], cuts 20 rdHead c⟩
/-- The bytes behind the head, up to the length. -/
def pbehind (rs : List Int) : List Int := (rs.take (pTold rs).toNat).drop 24
/-- What Decode finds wrong. -/
def pdecE (rs : List Int) : Int :=
  if pLenE rs ≠ 0 then pLenE rs else if 2 < (au0 rs).kind then 25 else if (au0 rs).kind ≠ 2 ∧ (rs.length : Int) ≠ pTold rs then 22 else if (au0 rs).kind ≠ 2 ∧ pRight rs = false then 23 else ppartE (rs.getD 1 0) (pbehind rs)
def pdecC (rs : List Int) : PkC := if pdecE rs = 0 then ppartC (pv0 rs) (pbehind rs) else PkC.zero
def pdecA (rs : List Int) : AuV := if pdecE rs = 0 then au0 rs else AuV.zero
structure PDec (rs : List Int) : Prop where
  l : PLen rs
  k : (au0 rs).kind ≤ 2
  n : (au0 rs).kind ≠ 2 → (rs.length : Int) = pTold rs
  r : (au0 rs).kind ≠ 2 → pRight rs = true
  p : ppartE (rs.getD 1 0) (pbehind rs) = 0
theorem PDec.zero {rs : List Int} (h : PDec rs) : pdecE rs = 0 := by
  unfold pdecE
  rw [if_neg (fun g => g h.l.zero), if_neg (by have := h.k; omega), if_neg (fun g => g.2 (h.n g.1)), if_neg (fun g => by have := h.r g.1; rw [g.2] at this; cases this)]
  exact h.p

/-- States that were laid are read so. -/
theorem rdPre_lay (l : List ST) (ha : ∀ s ∈ l, s.1.All) (hm : ∀ s ∈ l, s.1.len = 20 + (s.2.length : Int)) : ∀ k, k ≤ l.length → rdPre k (stsP l) = some (l.take k, stsP (l.drop k))
  | 0, _ => by simp [rdPre]
  | k + 1, h => by
    obtain ⟨x, hx⟩ : ∃ x, l[k]? = some x := ⟨l[k], List.getElem?_eq_getElem (by omega)⟩
    have hmem : x ∈ l := List.mem_of_getElem? hx
    have hd : l.drop k = x :: l.drop (k + 1) := by
      have hlt : k < l.length := by omega
      rw [List.drop_eq_getElem_cons hlt]
      congr 1
      rw [List.getElem?_eq_getElem hlt] at hx
      exact Option.some.inj hx
    have hst : stsP (l.drop k) = headB x.1 ++ (x.2 ++ stsP (l.drop (k + 1))) := by rw [hd]; simp [stsP, stP]
    have hh : rdHead ((stsP (l.drop k)).take 20) = x.1 := by rw [hst, take_headB, rdHead_headB _ (ha x hmem)]
    have hl := hm x hmem
    have ht : (x.1.len.toNat - 20) = x.2.length := by omega
    have hE : readE (stsP (l.drop k)) = 0 := by
      unfold readE
      rw [hh, hst]
      simp only [List.length_append, length_headB]
      rw [if_neg (by omega), if_neg (by omega), if_neg (by omega)]
    rw [rdPre, rdPre_lay l ha hm k (by omega)]
    simp only [hE, if_true]
    rw [hh, ht]
    refine congrArg some (Prod.ext ?_ ?_)
    · show _ ++ [_] = _
      rw [List.take_add_one, hx, hst, drop_headB, List.take_append_of_le_length (by omega), List.take_length]
      rfl
    · show List.drop _ _ = _
      rw [hst, show x.1.len.toNat = 20 + x.2.length by omega, ← List.drop_drop, drop_headB, List.drop_append_of_le_length (by omega), List.drop_eq_nil_of_le (by omega), List.nil_append]
theorem rdPre_none {n : Nat} {c : List Int} (h : rdPre n c = none) : ∀ m, n ≤ m → rdPre m c = none
  | 0, hm => by obtain rfl : n = 0 := by omega
                exact h
  | m + 1, hm => by
    by_cases e : n = m + 1
    · subst e; exact h
    · rw [rdPre, rdPre_none h m (by omega)]
end Go.Proofs.YtjgeklipeeooaaaGreatDoor

namespace Go.Proofs.YtjgeklipeeooaaaGreatDoor
open Go.RowKit
set_option linter.unusedVariables false
set_option maxRecDepth 100000

theorem catchH_idle (b : Nat) (w : World) :
    CallsD Tryz.prog 203 #[.pointer (some ⟨b, 0, none⟩)] .returning w fun r u' w' => r = .returned (.tuple #[]) ∧ u' = .returning ∧ w' = w := by
  refine callsD_of_wpS Tryz.func203 rfl fun c₀ cs hu => ?_
  apply wpS_seq
  apply wpS_region
  simp [wpOpsS, go_sem, recoverD, hu, ta_nil, Tryz.ntmps203, Exit.thenS]
  apply wpS_seq
  apply wpS_region
  simp [wpOpsS, go_sem, Exit.thenS]
  refine wpS_cond (t := false) (by simp [Act.eval, Array.replicate]) ?_
  simp only [Bool.false_eq_true, if_false]
  refine wpS_of_wp (wp_skip ?_)
  cases c₀
  simp_all [bodyPostS, results, Tryz.results203]
/-- The face where its function answers. -/
theorem faceH_ok (G : Nat) (cap : Array Value) (hG : ∀ w, (callFunc G cap).run Tryz.prog w = .ok (.enter G cap) w) (w : World) (x0 x1 x2 x3 x4 x5 x6 x7 : Int) (K : World → Prop)
    (h : Calls Tryz.prog G cap ((w.alloc (.cells #[.int .u16 0, .int .u8 0, .int .u8 0, .int .u32 0, .int .u32 0, .int .i32 0, .int .u16 0, .int .u16 0] 93)).alloc (.cells #[.int .i64 0] 41)) fun e w' => e = .returned (.agg #[.int .u16 x0, .int .u8 x1, .int .u8 x2, .int .u32 x3, .int .u32 x4, .int .i32 x5, .int .u16 x6, .int .u16 x7]) ∧ Touch (fun _ => False) ((w.alloc (.cells #[.int .u16 0, .int .u8 0, .int .u8 0, .int .u32 0, .int .u32 0, .int .i32 0, .int .u16 0, .int .u16 0] 93)).alloc (.cells #[.int .i64 0] 41)) w' ∧ K w')
    (hK : ∀  w1 w2, K w1 → Touch (fun _ => False) ((w.alloc (.cells #[.int .u16 0, .int .u8 0, .int .u8 0, .int .u32 0, .int .u32 0, .int .i32 0, .int .u16 0, .int .u16 0] 93)).alloc (.cells #[.int .i64 0] 41)) w1 → Touch (fun k => k = w.heap.size ∨ k = w.heap.size + 1) w1 w2 → K w2) :
    Calls Tryz.prog 194 #[.func (.func G) #[] cap] w fun e w' => e = .returned (.tuple #[.agg #[.int .u16 x0, .int .u8 x1, .int .u8 x2, .int .u32 x3, .int .u32 x4, .int .i32 x5, .int .u16 x6, .int .u16 x7], .int .i64 0]) ∧ Touch (fun _ => False) w w' ∧ K w' := by
  have hmf : ∀ (fn : Fn) (first cap : Array Value) (w : World), (Instr.makeFunc fn first cap).run Tryz.prog w = .ok (.func fn first cap) w := fun _ _ _ _ => rfl
  go_enter_defers Tryz.func194, Tryz.ntmps194
  go_wp2_with fail
  refine h.mono ?_
  rintro e w1 ⟨rfl, t1, k1⟩
  have t0 := (((Touch.refl (fun _ => False) w).alloc _).alloc _).trans t1
  have FZ : Hid (∀ i, i < 8 → w1.frozen? ⟨w.heap.size, i, none⟩ = false) := fun i hi => (t1.frozen (p := ⟨w.heap.size, i, none⟩) (by simp; omega) (fun h => h)).trans (by simp [go_sem])
  have fz1 : w1.frozen? ⟨w.heap.size + 1, 0, none⟩ = false := (t1.frozen (p := ⟨w.heap.size + 1, 0, none⟩) (by simp) (fun h => h)).trans (by simp [go_sem])
  have ce1 : w1.cell? ⟨w.heap.size + 1, 0, none⟩ = some (.int .i64 0) := t1.cellN (by simp [go_sem])
  have c0 : w1.cell? ⟨w.heap.size, 0, none⟩ = some (.int .u16 0) := t1.cellN (by simp [go_sem])
  have z0 := FZ.out 0 (by omega)
  have c1 : w1.cell? ⟨w.heap.size, 1, none⟩ = some (.int .u8 0) := t1.cellN (by simp [go_sem])
  have z1 := FZ.out 1 (by omega)
  have c2 : w1.cell? ⟨w.heap.size, 2, none⟩ = some (.int .u8 0) := t1.cellN (by simp [go_sem])
  have z2 := FZ.out 2 (by omega)
  have c3 : w1.cell? ⟨w.heap.size, 3, none⟩ = some (.int .u32 0) := t1.cellN (by simp [go_sem])
  have z3 := FZ.out 3 (by omega)
  have c4 : w1.cell? ⟨w.heap.size, 4, none⟩ = some (.int .u32 0) := t1.cellN (by simp [go_sem])
  have z4 := FZ.out 4 (by omega)
  have c5 : w1.cell? ⟨w.heap.size, 5, none⟩ = some (.int .i32 0) := t1.cellN (by simp [go_sem])
  have z5 := FZ.out 5 (by omega)
  have c6 : w1.cell? ⟨w.heap.size, 6, none⟩ = some (.int .u16 0) := t1.cellN (by simp [go_sem])
  have z6 := FZ.out 6 (by omega)
  have c7 : w1.cell? ⟨w.heap.size, 7, none⟩ = some (.int .u16 0) := t1.cellN (by simp [go_sem])
  have z7 := FZ.out 7 (by omega)
  clear FZ
  have HT : Hid (Touch (fun _ => False) w w1) := t0
  have HK : Hid (K w1) := k1
  have HT1 : Hid (Touch (fun _ => False) ((w.alloc (.cells #[.int .u16 0, .int .u8 0, .int .u8 0, .int .u32 0, .int .u32 0, .int .i32 0, .int .u16 0, .int .u16 0] 93)).alloc (.cells #[.int .i64 0] 41)) w1) := t1
  obtain ⟨w2, hw2⟩ : ∃ w2, w2 = ((((((((w1.setCell ⟨w.heap.size, 0, none⟩ (.int .u16 x0)).setCell ⟨w.heap.size, 1, none⟩ (.int .u8 x1)).setCell ⟨w.heap.size, 2, none⟩ (.int .u8 x2)).setCell ⟨w.heap.size, 3, none⟩ (.int .u32 x3)).setCell ⟨w.heap.size, 4, none⟩ (.int .u32 x4)).setCell ⟨w.heap.size, 5, none⟩ (.int .i32 x5)).setCell ⟨w.heap.size, 6, none⟩ (.int .u16 x6)).setCell ⟨w.heap.size, 7, none⟩ (.int .u16 x7)).setCell ⟨w.heap.size + 1, 0, none⟩ (.int .i64 0) := ⟨_, rfl⟩
  have d0 : w2.cell? ⟨w.heap.size, 0, none⟩ = some (.int .u16 x0) := by rw [hw2]; simp [c0, go_sem]
  have d1 : w2.cell? ⟨w.heap.size, 1, none⟩ = some (.int .u8 x1) := by rw [hw2]; simp [c1, go_sem]
  have d2 : w2.cell? ⟨w.heap.size, 2, none⟩ = some (.int .u8 x2) := by rw [hw2]; simp [c2, go_sem]
  have d3 : w2.cell? ⟨w.heap.size, 3, none⟩ = some (.int .u32 x3) := by rw [hw2]; simp [c3, go_sem]
  have d4 : w2.cell? ⟨w.heap.size, 4, none⟩ = some (.int .u32 x4) := by rw [hw2]; simp [c4, go_sem]
  have d5 : w2.cell? ⟨w.heap.size, 5, none⟩ = some (.int .i32 x5) := by rw [hw2]; simp [c5, go_sem]
  have d6 : w2.cell? ⟨w.heap.size, 6, none⟩ = some (.int .u16 x6) := by rw [hw2]; simp [c6, go_sem]
  have d7 : w2.cell? ⟨w.heap.size, 7, none⟩ = some (.int .u16 x7) := by rw [hw2]; simp [c7, go_sem]
  have de : w2.cell? ⟨w.heap.size + 1, 0, none⟩ = some (.int .i64 0) := by rw [hw2]; simp [ce1, go_sem]
  have HU : Hid (Touch (fun k => k = w.heap.size ∨ k = w.heap.size + 1) w1 w2) := by
    show Touch _ _ _
    rw [hw2]
    exact Touch.setCell (Touch.setCell (Touch.setCell (Touch.setCell (Touch.setCell (Touch.setCell (Touch.setCell (Touch.setCell (Touch.setCell (Touch.refl _ _) (Or.inl (Or.inl rfl)) _) (Or.inl (Or.inl rfl)) _) (Or.inl (Or.inl rfl)) _) (Or.inl (Or.inl rfl)) _) (Or.inl (Or.inl rfl)) _) (Or.inl (Or.inl rfl)) _) (Or.inl (Or.inl rfl)) _) (Or.inl (Or.inl rfl)) _) (Or.inl (Or.inr rfl)) _
  have HW : Hid (w2 = ((((((((w1.setCell ⟨w.heap.size, 0, none⟩ (.int .u16 x0)).setCell ⟨w.heap.size, 1, none⟩ (.int .u8 x1)).setCell ⟨w.heap.size, 2, none⟩ (.int .u8 x2)).setCell ⟨w.heap.size, 3, none⟩ (.int .u32 x3)).setCell ⟨w.heap.size, 4, none⟩ (.int .u32 x4)).setCell ⟨w.heap.size, 5, none⟩ (.int .i32 x5)).setCell ⟨w.heap.size, 6, none⟩ (.int .u16 x6)).setCell ⟨w.heap.size, 7, none⟩ (.int .u16 x7)).setCell ⟨w.heap.size + 1, 0, none⟩ (.int .i64 0)) := hw2
  clear t0 t1 k1 h hw2
  go_wp2_with fail
  rw [← HW.out]
  clear HW c0 z0 c1 z1 c2 z2 c3 z3 c4 z4 c5 z5 c6 z6 c7 z7 fz1 ce1
  refine leaves_cons (f := 203) (args := #[.pointer (some ⟨w.heap.size + 1, 0, none⟩)]) (by simp) (by simp [go_sem]) ?_
  refine (catchH_idle (w.heap.size + 1) _).mono ?_
  rintro e u' w'' ⟨rfl, rfl, rfl⟩
  refine ⟨.tuple #[.agg #[.int .u16 x0, .int .u8 x1, .int .u8 x2, .int .u32 x3, .int .u32 x4, .int .i32 x5, .int .u16 x6, .int .u16 x7], .int .i64 0], by simp [results, Tryz.results194, go_sem, d0, d1, d2, d3, d4, d5, d6, d7, de], rfl, ?_, hK _ _ HK.out HT1.out HU.out⟩
  exact HT.out.trans' HU.out (fun i hi hf => by omega)
end Go.Proofs.YtjgeklipeeooaaaGreatDoor
