/- Pure: one byte of a right state that is changed is told. -/
import Derived.Test.YtjjgbcjgmjggnaaGreatStRead3
import Derived.Test.YtjjgbcjgmjggnaaGreatStHeadOf
import Derived.Test.YtjjgbcjgmjggnaaGreatCutB
import Derived.Test.YtjjgbcjgmjggnaaGreatStRead2
import Derived.Test.YtjjgbcjgmjggnaaGreatStWrite
import Derived.Deep.RegionHeld2
import Derived.Test.YtjjgbcjgmjggnaaGreatStRow0
import Derived.Deep.DeepCutAuto
import Derived.Deep.RegionHeld3
import Derived.Test.YtjjgbcjgmjggnaaGreatSumWords
namespace Go.Proofs.YtjjgbcjgmjggnaaGreat
open Go.RowKit
set_option linter.unusedVariables false
set_option maxRecDepth 100000

theorem readE_zero {rs : List Int} (e : readE rs = 0) : 20 ≤ rs.length ∧ 20 ≤ (rdHead (rs.take 20)).len ∧ (rdHead (rs.take 20)).len ≤ (rs.length : Int) := by
  unfold readE at e
  split at e
  · omega
  · split at e
    · omega
    · split at e
      · omega
      · omega
end Go.Proofs.YtjjgbcjgmjggnaaGreat

namespace Go.Proofs.YtjjgbcjgmjggnaaGreat
open Go.RowKit
set_option linter.unusedVariables false
set_option maxRecDepth 100000

/-- A state: its head and its body's bytes. -/
abbrev ST := HV × List Int
def SE.p (x : SE) : ST := (x.h, x.rs)
def stP (x : ST) : List Int := headB x.1 ++ x.2
def stsP (l : List ST) : List Int := l.flatMap stP
theorem stsP_of (l : List SE) : stsP (l.map SE.p) = stsB l := by
  unfold stsP stsB
  rw [List.flatMap_map]
  rfl
/-- A packet whole. -/
structure PkC where
  P : PV
  nb : List Int
  dh : List HV
  ks : List KV
  ss : List ST
  hs : List HV
/-- Its parts fit their kinds. -/
structure PkC.Ok (C : PkC) : Prop where
  P : C.P.Ok
  nb : ∀ x ∈ C.nb, 0 ≤ x ∧ x < 4294967296
  dh : ∀ h ∈ C.dh, h.All
  ks : ∀ k ∈ C.ks, k.All
  sh : ∀ s ∈ C.ss, s.1.All
  sb : ∀ s ∈ C.ss, ∀ z ∈ s.2, 0 ≤ z ∧ z < 256
  hs : ∀ h ∈ C.hs, h.All
/-- Has it something of a Hello; of a Description. -/
def hasH (C : PkC) : Bool := decide (C.P.iv ≠ 0 ∨ C.P.dead ≠ 0 ∨ C.P.dr ≠ 0 ∨ C.P.bdr ≠ 0 ∨ 0 < C.nb.length ∨ C.P.mask ≠ 0 ∨ C.P.opts ≠ 0 ∨ C.P.prio ≠ 0)
def hasD (C : PkC) : Bool := decide (C.P.mtu ≠ 0 ∨ C.P.dopts ≠ 0 ∨ C.P.dflags ≠ 0 ∨ C.P.dseq ≠ 0 ∨ 0 < C.dh.length)
/-- It has nothing but what its type has. -/
structure PAlone (C : PkC) : Prop where
  h : C.P.typ ≠ 1 → hasH C = false
  d : C.P.typ ≠ 2 → hasD C = false
  k : C.P.typ ≠ 3 → C.ks = []
  s : C.P.typ ≠ 4 → C.ss = []
  a : C.P.typ ≠ 5 → C.hs = []
/-- The bytes behind the head. -/
def pbodyB (C : PkC) : List Int := if C.P.typ = 1 then helloB C.P ++ wordsB C.nb else if C.P.typ = 2 then descB C.P ++ headsB C.dh else if C.P.typ = 3 then keysB C.ks else if C.P.typ = 4 then numBytes 4 (C.ss.length : Int) ++ stsP C.ss else headsB C.hs
def pmeas (C : PkC) : Bool := C.ss.all fun s => decide (s.1.len = 20 + (s.2.length : Int))
open Classical in
/-- What Encode finds wrong. -/
noncomputable def pencE (C : PkC) (A : AuV) : Int := if ¬ (1 ≤ C.P.typ ∧ C.P.typ ≤ 5) then 21 else if ¬ PAlone C then 24 else if pmeas C = false then 22 else if 2 < A.kind then 25 else if 65535 < 24 + (pbodyB C).length then 11 else 0
noncomputable def pencB (C : PkC) (A : AuV) : List Int := if pencE C A = 0 then sealedB A.kind (pheadB C.P A ++ pbodyB C) else []
/-- Where nothing is. -/
structure PEnc (C : PkC) (A : AuV) : Prop where
  t : 1 ≤ C.P.typ ∧ C.P.typ ≤ 5
  a : PAlone C
  m : pmeas C = true
  k : A.kind ≤ 2
  l : 24 + (pbodyB C).length ≤ 65535
theorem pencE_ok {C : PkC} {A : AuV} (h : pencE C A = 0) : PEnc C A := by
  unfold pencE at h
  by_cases h1 : 1 ≤ C.P.typ ∧ C.P.typ ≤ 5
  · rw [if_neg (fun g => g h1)] at h
    by_cases h2 : PAlone C
    · rw [if_neg (fun g => g h2)] at h
      by_cases h3 : pmeas C = false
      · rw [if_pos h3] at h; omega
      · rw [if_neg h3] at h
        by_cases h4 : 2 < A.kind
        · rw [if_pos h4] at h; omega
        · rw [if_neg h4] at h
          by_cases h5 : 65535 < 24 + (pbodyB C).length
          · rw [if_pos h5] at h; omega
          · exact ⟨h1, h2, by simpa using h3, by omega, by omega⟩
    · rw [if_pos h2] at h; omega
  · rw [if_pos h1] at h; omega
theorem PEnc.zero {C : PkC} {A : AuV} (h : PEnc C A) : pencE C A = 0 := by
  unfold pencE
  rw [if_neg (fun g => g h.t), if_neg (fun g => g h.a), if_neg (by rw [h.m]; simp), if_neg (by have := h.k; omega), if_neg (by have := h.l; omega)]
def PV.zero : PV := ⟨0, 0, 0, 0, 0, 0, 0, 0, 0, 0, 0, 0, 0, 0⟩
def AuV.zero : AuV := ⟨0, 0, 0, 0, 0, 0, 0, 0, 0⟩
def PkC.zero : PkC := ⟨PV.zero, [], [], [], [], []⟩
/-- The head that bytes tell. -/
def pv0 (rs : List Int) : PV := { PV.zero with typ := rs.getD 1 0, router := numOf ((rs.drop 4).take 4), area := numOf ((rs.drop 8).take 4) }
def au0 (rs : List Int) : AuV := ⟨numOf ((rs.drop 14).take 2), rs.getD 16 0, rs.getD 17 0, rs.getD 18 0, rs.getD 19 0, rs.getD 20 0, rs.getD 21 0, rs.getD 22 0, rs.getD 23 0⟩
/-- One key of twelve bytes. -/
def rdKey (c : List Int) : KV := ⟨numOf (c.take 4), numOf ((c.drop 4).take 4), numOf ((c.drop 8).take 4)⟩
/-- So many states from the beginning of bytes, and what is left. -/
def rdPre : Nat → List Int → Option (List ST × List Int)
  | 0, c => some ([], c)
  | n + 1, c => match rdPre n c with
    | some (l, r) => if readE r = 0 then some (l ++ [(rdHead (r.take 20), (r.drop 20).take ((rdHead (r.take 20)).len.toNat - 20))], r.drop (rdHead (r.take 20)).len.toNat) else none
    | none => none
def rdAll (c : List Int) : Option (List ST) := match rdPre (numOf (c.take 4)).toNat (c.drop 4) with
  | some (l, []) => some l
  | _ => none
/-- What is wrong with the bytes behind the head. -/
def ppartE (t : Int) (c : List Int) : Int :=
  if t = 1 then (if 20 ≤ c.length ∧ c.length % 4 = 0 then 0 else 22)
  else if t = 2 then (if 8 ≤ c.length ∧ (c.length - 8) % 20 = 0 then 0 else 22)
  else if t = 3 then (if c.length % 12 = 0 then (if (cuts 12 rdKey c).all (fun k => decide (k.typ ≤ 255)) then 0 else 24) else 22)
  else if t = 4 then (if 4 ≤ c.length ∧ (rdAll c).isSome then 0 else 22)
  else (if c.length % 20 = 0 then 0 else 22)
/-- What they say. -/
def ppartC (P : PV) (c : List Int) : PkC :=
  if P.typ = 1 then ⟨{ P with mask := numOf (c.take 4), iv := numOf ((c.drop 4).take 2), opts := c.getD 6 0, prio := c.getD 7 0, dead := numOf ((c.drop 8).take 4), dr := numOf ((c.drop 12).take 4), bdr := numOf ((c.drop 16).take 4) }, cuts 4 numOf (c.drop 20), [], [], [], []⟩
  else if P.typ = 2 then ⟨{ P with mtu := numOf (c.take 2), dopts := c.getD 2 0, dflags := c.getD 3 0, dseq := numOf ((c.drop 4).take 4) }, [], cuts 20 rdHead (c.drop 8), [], [], []⟩
  else if P.typ = 3 then ⟨P, [], [], cuts 12 rdKey c, [], []⟩
  else if P.typ = 4 then ⟨P, [], [], [], (rdAll c).getD [], []⟩
  else ⟨P, [], [], [], [], cuts 20 rdHead c⟩
/-- The bytes behind the head, up to the length. -/
def pbehind (rs : List Int) : List Int := (rs.take (pTold rs).toNat).drop 24
/-- What Decode finds wrong. -/
def pdecE (rs : List Int) : Int :=
  if pLenE rs ≠ 0 then pLenE rs else if 2 < (au0 rs).kind then 25 else if (au0 rs).kind ≠ 2 ∧ (rs.length : Int) ≠ pTold rs then 22 else if (au0 rs).kind ≠ 2 ∧ pRight rs = false then 23 else ppartE (rs.getD 1 0) (pbehind rs)
def pdecC (rs : List Int) : PkC := if pdecE rs = 0 then ppartC (pv0 rs) (pbehind rs) else PkC.zero
def pdecA (rs : List Int) : AuV := if pdecE rs = 0 then au0 rs else AuV.zero
structure PDec (rs : List Int) : Prop where
  l : PLen rs
  k : (au0 rs).kind ≤ 2
  n : (au0 rs).kind ≠ 2 → (rs.length : Int) = pTold rs
  r : (au0 rs).kind ≠ 2 → pRight rs = true
  p : ppartE (rs.getD 1 0) (pbehind rs) = 0
theorem pdecE_ok {rs : List Int} (h : pdecE rs = 0) : PDec rs := by
  unfold pdecE at h
  by_cases h1 : pLenE rs = 0
  · rw [if_neg (fun g => g h1)] at h
    by_cases h2 : 2 < (au0 rs).kind
    · rw [if_pos h2] at h; omega
    · rw [if_neg h2] at h
      by_cases h3 : (au0 rs).kind ≠ 2 ∧ (rs.length : Int) ≠ pTold rs
      · rw [if_pos h3] at h; omega
      · rw [if_neg h3] at h
        by_cases h4 : (au0 rs).kind ≠ 2 ∧ pRight rs = false
        · rw [if_pos h4] at h; omega
        · rw [if_neg h4] at h
          refine ⟨pLenE_ok h1, by omega, fun g => ?_, fun g => ?_, h⟩
          · by_cases g2 : (rs.length : Int) = pTold rs
            · exact g2
            · exact (h3 ⟨g, g2⟩).elim
          · by_cases g2 : pRight rs = true
            · exact g2
            · exact (h4 ⟨g, by simpa using g2⟩).elim
  · rw [if_pos h1] at h; exact (h1 h).elim
theorem PDec.zero {rs : List Int} (h : PDec rs) : pdecE rs = 0 := by
  unfold pdecE
  rw [if_neg (fun g => g h.l.zero), if_neg (by have := h.k; omega), if_neg (fun g => g.2 (h.n g.1)), if_neg (fun g => by have := h.r g.1; rw [g.2] at this; cases this)]
  exact h.p

/-- States that were laid are read so. -/
theorem rdPre_lay (l : List ST) (ha : ∀ s ∈ l, s.1.All) (hm : ∀ s ∈ l, s.1.len = 20 + (s.2.length : Int)) : ∀ k, k ≤ l.length → rdPre k (stsP l) = some (l.take k, stsP (l.drop k))
  | 0, _ => by simp [rdPre]
  | k + 1, h => by
    obtain ⟨x, hx⟩ : ∃ x, l[k]? = some x := ⟨l[k], List.getElem?_eq_getElem (by omega)⟩
    have hmem : x ∈ l := List.mem_of_getElem? hx
    have hd : l.drop k = x :: l.drop (k + 1) := by
      have hlt : k < l.length := by omega
      rw [List.drop_eq_getElem_cons hlt]
      congr 1
      rw [List.getElem?_eq_getElem hlt] at hx
      exact Option.some.inj hx
    have hst : stsP (l.drop k) = headB x.1 ++ (x.2 ++ stsP (l.drop (k + 1))) := by rw [hd]; simp [stsP, stP]
    have hh : rdHead ((stsP (l.drop k)).take 20) = x.1 := by rw [hst, take_headB, rdHead_headB _ (ha x hmem)]
    have hl := hm x hmem
    have ht : (x.1.len.toNat - 20) = x.2.length := by omega
    have hE : readE (stsP (l.drop k)) = 0 := by
      unfold readE
      rw [hh, hst]
      simp only [List.length_append, length_headB]
      rw [if_neg (by omega), if_neg (by omega), if_neg (by omega)]
    rw [rdPre, rdPre_lay l ha hm k (by omega)]
    simp only [hE, if_true]
    rw [hh, ht]
    refine congrArg some (Prod.ext ?_ ?_)
    · show _ ++ [_] = _
      rw [List.take_add_one, hx, hst, drop_headB, List.take_append_of_le_length (by omega), List.take_length]
      rfl
    · show List.drop _ _ = _
      rw [hst, show x.1.len.toNat = 20 + x.2.length by omega, ← List.drop_drop, drop_headB, List.drop_append_of_le_length (by omega), List.drop_eq_nil_of_le (by omega), List.nil_append]
theorem rdPre_none {n : Nat} {c : List Int} (h : rdPre n c = none) : ∀ m, n ≤ m → rdPre m c = none
  | 0, hm => by obtain rfl : n = 0 := by omega
                exact h
  | m + 1, hm => by
    by_cases e : n = m + 1
    · subst e; exact h
    · rw [rdPre, rdPre_none h m (by omega)]
end Go.Proofs.YtjjgbcjgmjggnaaGreat

namespace Go.Proofs.YtjjgbcjgmjggnaaGreat
open Go.RowKit
set_option linter.unusedVariables false
set_option maxRecDepth 100000

theorem Hold.set {Y : Nat → Prop} {x w : World} (h : Hold Y x w) {g : Nat} (hg : ¬ Y g) (i : Nat) (v : Value) : Hold Y x (w.setCell ⟨g, i, none⟩ v) := ⟨h.k.trans (Touch.setCell (Touch.refl _ _) (Or.inl hg) _)⟩
theorem Hold.set6 {Y : Nat → Prop} {x w : World} (h : Hold Y x w) {g : Nat} (hg : ¬ Y g) (v0 v1 v2 v3 v4 v5 : Value) : Hold Y x ((((((w.setCell ⟨g, 0, none⟩ v0).setCell ⟨g, 1, none⟩ v1).setCell ⟨g, 2, none⟩ v2).setCell ⟨g, 3, none⟩ v3).setCell ⟨g, 4, none⟩ v4).setCell ⟨g, 5, none⟩ v5) :=
  (((((h.set hg 0 v0).set hg 1 v1).set hg 2 v2).set hg 3 v3).set hg 4 v4).set hg 5 v5
def hasHb (P : PV) (n : Nat) : Bool := decide (P.iv ≠ 0 ∨ P.dead ≠ 0 ∨ P.dr ≠ 0 ∨ P.bdr ≠ 0 ∨ 0 < n ∨ P.mask ≠ 0 ∨ P.opts ≠ 0 ∨ P.prio ≠ 0)
def hasDb (P : PV) (n : Nat) : Bool := decide (P.mtu ≠ 0 ∨ P.dopts ≠ 0 ∨ P.dflags ≠ 0 ∨ P.dseq ≠ 0 ∨ 0 < n)
def posB (n : Nat) : Bool := decide (0 < n)

set_option maxHeartbeats 4000000 in
theorem partsOf_any (P : PV) (na da ka sa ha : Option Addr) (nn nc dn dc kn kc sn sc hn hc : Nat) (w : World) :
    Calls Tryz.prog 89 #[P.v (.slice na nn nc) (.slice da dn dc) (.slice ka kn kc) (.slice sa sn sc) (.slice ha hn hc)] w fun e w' => e = .returned (.agg #[.bool false, .bool (hasHb P nn), .bool (hasDb P dn), .bool (posB kn), .bool (posB sn), .bool (posB hn)]) ∧ Touch (fun _ => False) w w' := by
  have HH : ∀ w', Calls Tryz.prog 119 #[.agg #[.int .u32 P.mask, .int .u16 P.iv, .int .u8 P.opts, .int .u8 P.prio, .int .u32 P.dead, .int .u32 P.dr, .int .u32 P.bdr, .slice na nn nc]] w' fun e w'' => e = .returned (.bool (hasHb P nn)) ∧ Touch (fun _ => False) w' w'' := fun w' => hasHello_any _ _ _ _ _ _ _ _ _ _ w'
  have HD : ∀ w', Calls Tryz.prog 120 #[.agg #[.int .u16 P.mtu, .int .u8 P.dopts, .int .u8 P.dflags, .int .u32 P.dseq, .slice da dn dc]] w' fun e w'' => e = .returned (.bool (hasDb P dn)) ∧ Touch (fun _ => False) w' w'' := fun w' => hasDD_any _ _ _ _ _ _ _ w'
  have eK : decide (0 < kn) = posB kn := rfl
  have eS : decide (0 < sn) = posB sn := rfl
  have eA : decide (0 < hn) = posB hn := rfl
  generalize hasHb P nn = kH at *
  generalize hasDb P dn = kD at *
  generalize posB kn = kK at *
  generalize posB sn = kS at *
  generalize posB hn = kA at *
  obtain ⟨wa, hwa⟩ : ∃ wa, wa = (w.alloc (.cells #[.int .u8 P.typ, .int .u32 P.router, .int .u32 P.area, .int .u32 P.mask, .int .u16 P.iv, .int .u8 P.opts, .int .u8 P.prio, .int .u32 P.dead, .int .u32 P.dr, .int .u32 P.bdr, .slice na nn nc, .int .u16 P.mtu, .int .u8 P.dopts, .int .u8 P.dflags, .int .u32 P.dseq, .slice da dn dc, .slice ka kn kc, .slice sa sn sc, .slice ha hn hc] 33)).alloc (.cells #[.bool false, .bool false, .bool false, .bool false, .bool false, .bool false] 152) := ⟨_, rfl⟩
  have ta : Touch (fun _ => False) w wa := by rw [hwa]; exact ((Touch.refl _ w).alloc _).alloc _
  have pa : Pd wa w.heap.size P (.slice na nn nc) (.slice da dn dc) (.slice ka kn kc) (.slice sa sn sc) (.slice ha hn hc) := by rw [hwa]; exact (Pd.new w P (.slice na nn nc) (.slice da dn dc) (.slice ka kn kc) (.slice sa sn sc) (.slice ha hn hc) _).keep ((Touch.refl _ _).alloc _)
  have R1 : Hid (Room wa (w.heap.size + 1) 6) := by have := Room.new (w.alloc (.cells #[.int .u8 P.typ, .int .u32 P.router, .int .u32 P.area, .int .u32 P.mask, .int .u16 P.iv, .int .u8 P.opts, .int .u8 P.prio, .int .u32 P.dead, .int .u32 P.dr, .int .u32 P.bdr, .slice na nn nc, .int .u16 P.mtu, .int .u8 P.dopts, .int .u8 P.dflags, .int .u32 P.dseq, .slice da dn dc, .slice ka kn kc, .slice sa sn sc, .slice ha hn hc] 33)) #[.bool false, .bool false, .bool false, .bool false, .bool false, .bool false] 152; rw [← hwa] at this; show Room _ _ _; simpa using this
  obtain ⟨Y, hY⟩ : ∃ Y : Nat → Prop, Y = fun k => k = w.heap.size := ⟨_, rfl⟩
  have ya : Y w.heap.size := by subst hY; rfl
  have yn : ¬ Y (w.heap.size + 1) := by subst hY; show ¬ (_ = _); omega
  have TA : Hid (Touch (fun _ => False) w wa) := ta
  have st : Hold Y wa wa.drew := ⟨Kept.of ((Touch.refl _ _).drew)⟩
  have p3 := hold_cell pa.c3 ya
  have p4 := hold_cell pa.c4 ya
  have p5 := hold_cell pa.c5 ya
  have p6 := hold_cell pa.c6 ya
  have p7 := hold_cell pa.c7 ya
  have p8 := hold_cell pa.c8 ya
  have p9 := hold_cell pa.c9 ya
  have p10 := hold_cell pa.c10 ya
  have p11 := hold_cell pa.c11 ya
  have p12 := hold_cell pa.c12 ya
  have p13 := hold_cell pa.c13 ya
  have p14 := hold_cell pa.c14 ya
  have p15 := hold_cell pa.c15 ya
  have p16 := hold_cell pa.c16 ya
  have p17 := hold_cell pa.c17 ya
  have p18 := hold_cell pa.c18 ya
  have HG : Hid (w.heap.size ≤ w.heap.size + 1) := by show _ ≤ _; omega
  show Calls Tryz.prog 89 #[.agg #[.int .u8 P.typ, .int .u32 P.router, .int .u32 P.area, .int .u32 P.mask, .int .u16 P.iv, .int .u8 P.opts, .int .u8 P.prio, .int .u32 P.dead, .int .u32 P.dr, .int .u32 P.bdr, .slice na nn nc, .int .u16 P.mtu, .int .u8 P.dopts, .int .u8 P.dflags, .int .u32 P.dseq, .slice da dn dc, .slice ka kn kc, .slice sa sn sc, .slice ha hn hc]] w _
  clear ta pa hY ya
  go_enter Tryz.func89, Tryz.ntmps89
  go_upto_region 1 with fail
  rw [← hwa]
  clear hwa
  have HW : Hid (∃ s, w.heap.size = s) := ⟨_, rfl⟩
  generalize hG : w.heap.size + 1 = g2 at *
  generalize hG1 : w.heap.size = g1 at *
  have HGG : Hid (w.heap.size + 1 = g2) := by show _ = _; rw [hG1, hG]
  clear hG hG1 HW HG
  go_region_held3 (fun w' => Hold Y wa w') (first | with_reducible assumption | with_reducible exact Hold.set6 s5 yn _ _ _ _ _ _) (first
    | (go_at_call 119; refine Calls.mono (HH _) ?_; rintro e w4 ⟨rfl, t4⟩; have s4 := st.step t4)
    | (go_at_call 120; refine Calls.mono (HD _) ?_; rintro e w5 ⟨rfl, t5⟩; have s5 := s4.step t5; have R5 := ((R1.out.keep ((Touch.refl _ _).drew)).keep t4).keep t5; obtain ⟨zz0, zc0, zf0⟩ := R5 0 (by omega); obtain ⟨zz1, zc1, zf1⟩ := R5 1 (by omega); obtain ⟨zz2, zc2, zf2⟩ := R5 2 (by omega); obtain ⟨zz3, zc3, zf3⟩ := R5 3 (by omega); obtain ⟨zz4, zc4, zf4⟩ := R5 4 (by omega); obtain ⟨zz5, zc5, zf5⟩ := R5 5 (by omega)))
  obtain ⟨wz, hwz⟩ : ∃ wz, wz = ((((((w5.setCell ⟨g2, 0, none⟩ (.bool false)).setCell ⟨g2, 1, none⟩ (.bool kH)).setCell ⟨g2, 2, none⟩ (.bool kD)).setCell ⟨g2, 3, none⟩ (.bool kK)).setCell ⟨g2, 4, none⟩ (.bool kS)).setCell ⟨g2, 5, none⟩ (.bool kA)) := ⟨_, rfl⟩
  have zd0 : wz.cell? ⟨g2, 0, none⟩ = some (.bool false) := by rw [hwz]; simp [zc0, go_sem]
  have zd1 : wz.cell? ⟨g2, 1, none⟩ = some (.bool kH) := by rw [hwz]; simp [zc1, go_sem]
  have zd2 : wz.cell? ⟨g2, 2, none⟩ = some (.bool kD) := by rw [hwz]; simp [zc2, go_sem]
  have zd3 : wz.cell? ⟨g2, 3, none⟩ = some (.bool kK) := by rw [hwz]; simp [zc3, go_sem]
  have zd4 : wz.cell? ⟨g2, 4, none⟩ = some (.bool kS) := by rw [hwz]; simp [zc4, go_sem]
  have zd5 : wz.cell? ⟨g2, 5, none⟩ = some (.bool kA) := by rw [hwz]; simp [zc5, go_sem]
  have HUz : Hid (Touch (fun k => k = g2) w5 wz) := by show Touch _ _ _; rw [hwz]; refine Touch.setCell (F := fun k => k = g2) (p := ⟨g2, 5, none⟩) ?_ (Or.inl rfl) _; refine Touch.setCell (F := fun k => k = g2) (p := ⟨g2, 4, none⟩) ?_ (Or.inl rfl) _; refine Touch.setCell (F := fun k => k = g2) (p := ⟨g2, 3, none⟩) ?_ (Or.inl rfl) _; refine Touch.setCell (F := fun k => k = g2) (p := ⟨g2, 2, none⟩) ?_ (Or.inl rfl) _; refine Touch.setCell (F := fun k => k = g2) (p := ⟨g2, 1, none⟩) ?_ (Or.inl rfl) _; refine Touch.setCell (F := fun k => k = g2) (p := ⟨g2, 0, none⟩) ?_ (Or.inl rfl) _; exact Touch.refl _ _
  rw [← hwz]
  clear hwz zc0 zf0 zc1 zf1 zc2 zf2 zc3 zf3 zc4 zf4 zc5 zf5
  go_wp2_with fail
  refine bodyPost_ret (v := .agg #[.bool false, .bool kH, .bool kD, .bool kK, .bool kS, .bool kA]) (by simp [results, Tryz.results89, go_sem, zd0, zd1, zd2, zd3, zd4, zd5]) rfl ?_
  refine ⟨rfl, ?_⟩
  have := ((TA.out.drew.trans t4).trans t5).trans' HUz.out (fun i hi e => by have := HGG.out; omega)
  exact this
end Go.Proofs.YtjjgbcjgmjggnaaGreat
