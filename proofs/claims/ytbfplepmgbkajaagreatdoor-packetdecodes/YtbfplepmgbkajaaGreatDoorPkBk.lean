/- Pure: what is written is read; what is read is written. -/
import Derived.Test.YtbfplepmgbkajaaGreatDoorPkRp
namespace Go.Proofs.YtbfplepmgbkajaaGreatDoor
open Go.RowKit
set_option linter.unusedVariables false
set_option maxRecDepth 100000

/-- The head, with its length and its sum. -/
def phead2 (P : PV) (A : AuV) (n s : Int) : List Int := [2, P.typ] ++ numBytes 2 n ++ numBytes 4 P.router ++ numBytes 4 P.area ++ numBytes 2 s ++ numBytes 2 A.kind ++ A.data
theorem length_phead2 (P : PV) (A : AuV) (n s : Int) : (phead2 P A n s).length = 24 := by simp [phead2, numBytes, AuV.data]
/-- The sum that is laid. -/
def psum (P : PV) (A : AuV) (n : Int) (body : List Int) : Int := if A.kind = 2 then 0 else 65535 - fold (W true (summedB (phead2 P A n 0 ++ body)))
theorem sealed_form (P : PV) (A : AuV) (body : List Int) : sealedB A.kind (pheadB P A ++ body) = phead2 P A (24 + (body.length : Int)) (psum P A (24 + (body.length : Int)) body) ++ body := by
 have hl : lenB (pheadB P A ++ body) = phead2 P A (24 + (body.length : Int)) 0 ++ body := by
  unfold lenB
  rw [List.length_append, length_pheadB]
  simp [pheadB, phead2, splice, numBytes2, numBytes4, AuV.data]
 unfold sealedB psum
 by_cases hk : A.kind = 2
 ·rw [if_pos hk, if_pos hk, hl]
 ·rw [if_neg hk, if_neg hk, hl]
  generalize 65535 - fold (W true (summedB (phead2 P A (24 + (body.length : Int)) 0 ++ body))) = s
  simp [phead2, splice, numBytes2, numBytes4, AuV.data]
theorem summed_sum (P : PV) (A : AuV) (n s : Int) (body : List Int) (h0 : 0 ≤ s) (h1 : s < 65536) : W true (summedB (phead2 P A n s ++ body)) = W true (summedB (phead2 P A n 0 ++ body)) + s := by
 unfold summedB phead2
 simp only [numBytes2, numBytes4, AuV.data, List.cons_append, List.nil_append, List.take, List.drop]
 simp only [W]
 simp
 omega
theorem psum_bound (P : PV) (A : AuV) (n : Int) (body : List Int) : 0 ≤ psum P A n body ∧ psum P A n body < 65536 := by
 unfold psum
 split
 ·omega
 ·have := fold_bound (W true (summedB (phead2 P A n 0 ++ body)))
  omega
end Go.Proofs.YtbfplepmgbkajaaGreatDoor

namespace Go.Proofs.YtbfplepmgbkajaaGreatDoor
open Go.RowKit
set_option linter.unusedVariables false
set_option maxRecDepth 100000

theorem list24e {l : List Int} (h : l.length = 24) : ∃ r0 r1 r2 r3 r4 r5 r6 r7 r8 r9 r10 r11 r12 r13 r14 r15 r16 r17 r18 r19 r20 r21 r22 r23, l = [r0, r1, r2, r3, r4, r5, r6, r7, r8, r9, r10, r11, r12, r13, r14, r15, r16, r17, r18, r19, r20, r21, r22, r23] := by
 match l, h with
 | [r0, r1, r2, r3, r4, r5, r6, r7, r8, r9, r10, r11, r12, r13, r14, r15, r16, r17, r18, r19, r20, r21, r22, r23], _ => exact ⟨r0, r1, r2, r3, r4, r5, r6, r7, r8, r9, r10, r11, r12, r13, r14, r15, r16, r17, r18, r19, r20, r21, r22, r23, rfl⟩
theorem list24 {l : List Int} (h : 24 ≤ l.length) : ∃ r0 r1 r2 r3 r4 r5 r6 r7 r8 r9 r10 r11 r12 r13 r14 r15 r16 r17 r18 r19 r20 r21 r22 r23 t, l = [r0, r1, r2, r3, r4, r5, r6, r7, r8, r9, r10, r11, r12, r13, r14, r15, r16, r17, r18, r19, r20, r21, r22, r23] ++ t := by
 obtain ⟨r0, r1, r2, r3, r4, r5, r6, r7, r8, r9, r10, r11, r12, r13, r14, r15, r16, r17, r18, r19, r20, r21, r22, r23, e⟩ := list24e (l := l.take 24) (by rw [List.length_take]; omega)
 exact ⟨r0, r1, r2, r3, r4, r5, r6, r7, r8, r9, r10, r11, r12, r13, r14, r15, r16, r17, r18, r19, r20, r21, r22, r23, l.drop 24, by rw [← e, List.take_append_drop]⟩
def PV.base (t r a : Int) : PV := { PV.zero with typ := t, router := r, area := a }
theorem numOf_bd {l : List Int} (hb : ∀ z ∈ l, 0 ≤ z ∧ z < 256) (n : Nat) (h : l.length ≤ n) : 0 ≤ numOf l ∧ numOf l < 256 ^ n := by
 have h1 := numOf_bound l hb
 have h2 : (256 : Int) ^ l.length ≤ 256 ^ n := by
  have := Nat.pow_le_pow_right (show 0 < 256 by omega) h
  exact_mod_cast this
 omega
theorem mem_take_drop {c : List Int} {p n : Nat} {z : Int} (h : z ∈ (c.drop p).take n) : z ∈ c := List.mem_of_mem_drop (List.mem_of_mem_take h)
theorem nb2 {c : List Int} (hb : ∀ z ∈ c, 0 ≤ z ∧ z < 256) (p : Nat) : 0 ≤ numOf ((c.drop p).take 2) ∧ numOf ((c.drop p).take 2) < 65536 := by
 have := numOf_bd (l := (c.drop p).take 2) (fun z hz => hb z (mem_take_drop hz)) 2 (List.length_take_le _ _)
 omega
theorem nb4 {c : List Int} (hb : ∀ z ∈ c, 0 ≤ z ∧ z < 256) (p : Nat) : 0 ≤ numOf ((c.drop p).take 4) ∧ numOf ((c.drop p).take 4) < 4294967296 := by
 have := numOf_bd (l := (c.drop p).take 4) (fun z hz => hb z (mem_take_drop hz)) 4 (List.length_take_le _ _)
 omega
theorem getD_bt {c : List Int} (hb : ∀ z ∈ c, 0 ≤ z ∧ z < 256) (p : Nat) : 0 ≤ c.getD p 0 ∧ c.getD p 0 < 256 := by
 by_cases h : p < c.length
 ·have e : c.getD p 0 = c[p] := by simp [List.getD, h]
  rw [e]
  exact hb _ (List.getElem_mem h)
 ·have e : c.getD p 0 = 0 := by simp [List.getD, List.getElem?_eq_none (show c.length ≤ p by omega)]
  omega
theorem four_of {l : List Int} (h : l.length = 4) (hb : ∀ z ∈ l, 0 ≤ z ∧ z < 256) : numBytes 4 (numOf l) = l := by
 match l, h with
 | [a, b, c, d], _ => exact numBytes_four a b c d (hb a (by simp)) (hb b (by simp)) (hb c (by simp)) (hb d (by simp))
theorem keyB_rdKey {l : List Int} (h : l.length = 12) (hb : ∀ z ∈ l, 0 ≤ z ∧ z < 256) : keyB (rdKey l) = l := by
 unfold keyB rdKey
 dsimp only
 rw [four_of (by rw [List.length_take]; omega) (fun z hz => hb z (List.mem_of_mem_take hz)), four_of (by rw [List.length_take, List.length_drop]; omega) (fun z hz => hb z (mem_take_drop hz)), four_of (by rw [List.length_take, List.length_drop]; omega) (fun z hz => hb z (mem_take_drop hz))]
 match l, h with
 | [a, b, c, d, e, f, g, i, j, k, m, n], _ => rfl
theorem PV.base_ok {t r a : Int} (ht : 0 ≤ t ∧ t < 256) (hr : 0 ≤ r ∧ r < 4294967296) (ha : 0 ≤ a ∧ a < 4294967296) : (PV.base t r a).Ok := by
 constructor <;> (first | exact ht | exact hr | exact ha | (simp [PV.base, PV.zero]))
/-- The bytes behind the head are laid as they were read. -/
structure PFwd (P : PV) (c : List Int) : Prop where
 ok : (ppartC P c).Ok
 al : PAlone (ppartC P c)
 me : pmeas (ppartC P c) = true
 b : pbodyB (ppartC P c) = c
 t : (ppartC P c).P.typ = P.typ ∧ (ppartC P c).P.router = P.router ∧ (ppartC P c).P.area = P.area
theorem part_fwd (t r a : Int) (ht : 1 ≤ t ∧ t ≤ 5) (hr : 0 ≤ r ∧ r < 4294967296) (ha : 0 ≤ a ∧ a < 4294967296) (c : List Int) (hb : ∀ z ∈ c, 0 ≤ z ∧ z < 256) (hE : ppartE t c = 0) : PFwd (PV.base t r a) c := by
 have ok0 : (PV.base t r a).Ok := PV.base_ok (by omega) hr ha
 have nil1 : ∀ x ∈ ([] : List Int), 0 ≤ x ∧ x < 4294967296 := fun x h => by cases h
 have nilh : ∀ x ∈ ([] : List HV), x.All := fun x h => by cases h
 have nilk : ∀ x ∈ ([] : List KV), x.All := fun x h => by cases h
 have nils : ∀ x ∈ ([] : List ST), x.1.All := fun x h => by cases h
 have nilb : ∀ x ∈ ([] : List ST), ∀ z ∈ x.2, 0 ≤ z ∧ z < 256 := fun x h => by cases h
 obtain rfl | rfl | rfl | rfl | rfl : t = 1 ∨ t = 2 ∨ t = 3 ∨ t = 4 ∨ t = 5 := by omega
 ·have hC : ppartC (PV.base 1 r a) c = ⟨{ PV.base 1 r a with mask := numOf (c.take 4), iv := numOf ((c.drop 4).take 2), opts := c.getD 6 0, prio := c.getD 7 0, dead := numOf ((c.drop 8).take 4), dr := numOf ((c.drop 12).take 4), bdr := numOf ((c.drop 16).take 4) }, cuts 4 numOf (c.drop 20), [], [], [], []⟩ := by
   unfold ppartC; exact if_pos rfl
  have hc : 20 ≤ c.length ∧ c.length % 4 = 0 := by
   unfold ppartE at hE
   rw [if_pos rfl] at hE
   exact Decidable.byContradiction (fun g => by rw [if_neg g] at hE; omega)
  have hbd : ∀ z ∈ c.drop 20, 0 ≤ z ∧ z < 256 := fun z hz => hb z (List.mem_of_mem_drop hz)
  have w4 := nb4 hb 0
  rw [List.drop_zero] at w4
  refine ⟨?_, ?_, ?_, ?_, ?_⟩
  ·rw [hC]
   refine ⟨⟨ok0.typ, ok0.router, ok0.area, w4, nb2 hb 4, getD_bt hb 6, getD_bt hb 7, nb4 hb 8, nb4 hb 12, nb4 hb 16, ok0.mtu, ok0.dopts, ok0.dflags, ok0.dseq⟩, ?_, nilh, nilk, nils, nilb, nilh⟩
   intro x hx
   obtain ⟨i, hi, rfl⟩ := mem_cuts hx
   have := numOf_bd (l := cutAt 4 (c.drop 20) i) (fun z hz => hbd z (mem_cutAt hz)) 4 (by rw [length_cutAt hi]; omega)
   omega
  ·rw [hC]
   exact ⟨fun h => (h rfl).elim, fun _ => by simp [hasD, PV.base, PV.zero], fun _ => rfl, fun _ => rfl, fun _ => rfl⟩
  ·rw [hC]; rfl
  ·rw [hC]
   unfold pbodyB
   refine (if_pos rfl).trans ?_
   have hw : wordsB (cuts 4 numOf (c.drop 20)) = c.drop 20 := flat_cuts (numBytes 4) numOf 4 (by omega) (c.drop 20) (by rw [List.length_drop]; omega) (fun p hp hm => four_of hp (fun z hz => hbd z (hm z hz)))
   rw [hw]
   obtain ⟨a0, a1, a2, a3, a4, a5, a6, a7, a8, a9, a10, a11, a12, a13, a14, a15, a16, a17, a18, a19, u, rfl⟩ : ∃ a0 a1 a2 a3 a4 a5 a6 a7 a8 a9 a10 a11 a12 a13 a14 a15 a16 a17 a18 a19 u, c = [a0, a1, a2, a3, a4, a5, a6, a7, a8, a9, a10, a11, a12, a13, a14, a15, a16, a17, a18, a19] ++ u := by
    obtain ⟨a0, a1, a2, a3, a4, a5, a6, a7, a8, a9, a10, a11, a12, a13, a14, a15, a16, a17, a18, a19, e⟩ := list20 (l := c.take 20) (by rw [List.length_take]; omega)
    exact ⟨a0, a1, a2, a3, a4, a5, a6, a7, a8, a9, a10, a11, a12, a13, a14, a15, a16, a17, a18, a19, c.drop 20, by rw [← e, List.take_append_drop]⟩
   have hm : ∀ z, z ∈ [a0, a1, a2, a3, a4, a5, a6, a7, a8, a9, a10, a11, a12, a13, a14, a15, a16, a17, a18, a19] → 0 ≤ z ∧ z < 256 := fun z hz => hb z (List.mem_append_left u hz)
   unfold helloB
   simp only [List.cons_append, List.nil_append, List.take, List.drop, List.getD_cons_succ, List.getD_cons_zero]
   rw [numBytes_four a0 a1 a2 a3 (hm _ (by simp)) (hm _ (by simp)) (hm _ (by simp)) (hm _ (by simp)), numBytes_two a4 a5 (hm _ (by simp)) (hm _ (by simp)), numBytes_four a8 a9 a10 a11 (hm _ (by simp)) (hm _ (by simp)) (hm _ (by simp)) (hm _ (by simp)), numBytes_four a12 a13 a14 a15 (hm _ (by simp)) (hm _ (by simp)) (hm _ (by simp)) (hm _ (by simp)), numBytes_four a16 a17 a18 a19 (hm _ (by simp)) (hm _ (by simp)) (hm _ (by simp)) (hm _ (by simp))]
   rfl
  ·rw [hC]; exact ⟨rfl, rfl, rfl⟩
 ·have hC : ppartC (PV.base 2 r a) c = ⟨{ PV.base 2 r a with mtu := numOf (c.take 2), dopts := c.getD 2 0, dflags := c.getD 3 0, dseq := numOf ((c.drop 4).take 4) }, [], cuts 20 rdHead (c.drop 8), [], [], []⟩ := by
   unfold ppartC; exact (if_neg (by simp [PV.base])).trans (if_pos rfl)
  have hc : 8 ≤ c.length ∧ (c.length - 8) % 20 = 0 := by
   unfold ppartE at hE
   rw [if_neg (by omega), if_pos rfl] at hE
   exact Decidable.byContradiction (fun g => by rw [if_neg g] at hE; omega)
  have hbd : ∀ z ∈ c.drop 8, 0 ≤ z ∧ z < 256 := fun z hz => hb z (List.mem_of_mem_drop hz)
  have w2 := nb2 hb 0
  rw [List.drop_zero] at w2
  refine ⟨?_, ?_, ?_, ?_, ?_⟩
  ·rw [hC]
   refine ⟨⟨ok0.typ, ok0.router, ok0.area, ok0.mask, ok0.iv, ok0.opts, ok0.prio, ok0.dead, ok0.dr, ok0.bdr, w2, getD_bt hb 2, getD_bt hb 3, nb4 hb 4⟩, nil1, ?_, nilk, nils, nilb, nilh⟩
   intro x hx
   obtain ⟨i, hi, rfl⟩ := mem_cuts hx
   exact rdHead_all (fun z hz => hbd z (mem_cutAt hz))
  ·rw [hC]
   exact ⟨fun _ => by simp [hasH, PV.base, PV.zero], fun h => (h rfl).elim, fun _ => rfl, fun _ => rfl, fun _ => rfl⟩
  ·rw [hC]; rfl
  ·rw [hC]
   unfold pbodyB
   refine (if_neg (by simp [PV.base])).trans ((if_pos rfl).trans ?_)
   have hw : headsB (cuts 20 rdHead (c.drop 8)) = c.drop 8 := flat_cuts headB rdHead 20 (by omega) (c.drop 8) (by rw [List.length_drop]; omega) (fun p hp hm => headB_rdHead hp (fun z hz => hbd z (hm z hz)))
   rw [hw]
   obtain ⟨a0, a1, a2, a3, a4, a5, a6, a7, u, rfl⟩ : ∃ a0 a1 a2 a3 a4 a5 a6 a7 u, c = a0 :: a1 :: a2 :: a3 :: a4 :: a5 :: a6 :: a7 :: u := by
    match c, hc.1 with
    | a0 :: a1 :: a2 :: a3 :: a4 :: a5 :: a6 :: a7 :: u, _ => exact ⟨a0, a1, a2, a3, a4, a5, a6, a7, u, rfl⟩
   have hm : ∀ z, z ∈ [a0, a1, a2, a3, a4, a5, a6, a7] → 0 ≤ z ∧ z < 256 := fun z hz => hb z (List.mem_append_left u hz)
   unfold descB
   simp only [List.take, List.drop, List.getD_cons_succ, List.getD_cons_zero]
   rw [numBytes_two a0 a1 (hm _ (by simp)) (hm _ (by simp)), numBytes_four a4 a5 a6 a7 (hm _ (by simp)) (hm _ (by simp)) (hm _ (by simp)) (hm _ (by simp))]
   rfl
  ·rw [hC]; exact ⟨rfl, rfl, rfl⟩
 ·have hC : ppartC (PV.base 3 r a) c = ⟨PV.base 3 r a, [], [], cuts 12 rdKey c, [], []⟩ := by
   unfold ppartC; exact (if_neg (by simp [PV.base])).trans ((if_neg (by simp [PV.base])).trans (if_pos rfl))
  have hc : c.length % 12 = 0 ∧ (cuts 12 rdKey c).all (fun k => decide (k.typ ≤ 255)) = true := by
   unfold ppartE at hE
   rw [if_neg (by omega), if_neg (by omega), if_pos rfl] at hE
   refine Decidable.byContradiction (fun g => ?_)
   by_cases g1 : c.length % 12 = 0
   ·rw [if_pos g1] at hE
    by_cases g2 : (cuts 12 rdKey c).all (fun k => decide (k.typ ≤ 255)) = true
    ·exact g ⟨g1, g2⟩
    ·rw [if_neg g2] at hE; omega
   ·rw [if_neg g1] at hE; omega
  refine ⟨?_, ?_, ?_, ?_, ?_⟩
  ·rw [hC]
   refine ⟨ok0, nil1, nilh, ?_, nils, nilb, nilh⟩
   intro x hx
   have h255 : x.typ ≤ 255 := by simpa using List.all_eq_true.1 hc.2 x hx
   obtain ⟨i, hi, rfl⟩ := mem_cuts hx
   have hbd : ∀ z ∈ cutAt 12 c i, 0 ≤ z ∧ z < 256 := fun z hz => hb z (mem_cutAt hz)
   have k0 := nb4 hbd 0
   rw [List.drop_zero] at k0
   exact ⟨⟨k0.1, by omega⟩, nb4 hbd 4, nb4 hbd 8⟩
  ·rw [hC]
   exact ⟨fun _ => by simp [hasH, PV.base, PV.zero], fun _ => by simp [hasD, PV.base, PV.zero], fun h => (h rfl).elim, fun _ => rfl, fun _ => rfl⟩
  ·rw [hC]; rfl
  ·rw [hC]
   unfold pbodyB
   refine (if_neg (by simp [PV.base])).trans ((if_neg (by simp [PV.base])).trans ((if_pos rfl).trans ?_))
   exact flat_cuts keyB rdKey 12 (by omega) c hc.1 (fun p hp hm => keyB_rdKey hp (fun z hz => hb z (hm z hz)))
  ·rw [hC]; exact ⟨rfl, rfl, rfl⟩
 ·have hc : 4 ≤ c.length ∧ (rdAll c).isSome = true := by
   unfold ppartE at hE
   rw [if_neg (by omega), if_neg (by omega), if_neg (by omega), if_pos rfl] at hE
   exact Decidable.byContradiction (fun g => by rw [if_neg g] at hE; omega)
  obtain ⟨l, hl⟩ := Option.isSome_iff_exists.1 hc.2
  have hC : ppartC (PV.base 4 r a) c = ⟨PV.base 4 r a, [], [], [], l, []⟩ := by
   unfold ppartC; refine (if_neg (by simp [PV.base])).trans ((if_neg (by simp [PV.base])).trans ((if_neg (by simp [PV.base])).trans ((if_pos rfl).trans ?_))); rw [hl]; rfl
  have hp : rdPre (numOf (c.take 4)).toNat (c.drop 4) = some (l, []) := by
   unfold rdAll at hl
   split at hl
   ·rename_i l' he
    cases hl
    exact he
   ·cases hl
  obtain ⟨h1, h2, h3⟩ := rdPre_back _ _ _ _ (fun z hz => hb z (List.mem_of_mem_drop hz)) hp
  have w4 := nb4 hb 0
  rw [List.drop_zero] at w4
  refine ⟨?_, ?_, ?_, ?_, ?_⟩
  ·rw [hC]
   exact ⟨ok0, nil1, nilh, nilk, fun s hs => (h3 s hs).1, fun s hs => (h3 s hs).2.2, nilh⟩
  ·rw [hC]
   exact ⟨fun _ => by simp [hasH, PV.base, PV.zero], fun _ => by simp [hasD, PV.base, PV.zero], fun _ => rfl, fun h => (h rfl).elim, fun _ => rfl⟩
  ·rw [hC]
   exact List.all_eq_true.2 (fun s hs => by have := (h3 s hs).2.1; simpa using this)
  ·rw [hC]
   unfold pbodyB
   refine (if_neg (by simp [PV.base])).trans ((if_neg (by simp [PV.base])).trans ((if_neg (by simp [PV.base])).trans ((if_pos rfl).trans ?_)))
   dsimp only
   rw [h2, show (((numOf (c.take 4)).toNat : Nat) : Int) = numOf (c.take 4) by omega, four_of (by rw [List.length_take]; omega) (fun z hz => hb z (List.mem_of_mem_take hz))]
   rw [List.append_nil] at h1
   rw [← h1, List.take_append_drop]
  ·rw [hC]; exact ⟨rfl, rfl, rfl⟩
 ·have hC : ppartC (PV.base 5 r a) c = ⟨PV.base 5 r a, [], [], [], [], cuts 20 rdHead c⟩ := by
   unfold ppartC; exact (if_neg (by simp [PV.base])).trans ((if_neg (by simp [PV.base])).trans ((if_neg (by simp [PV.base])).trans (if_neg (by simp [PV.base]))))
  have hc : c.length % 20 = 0 := by
   unfold ppartE at hE
   rw [if_neg (by omega), if_neg (by omega), if_neg (by omega), if_neg (by omega)] at hE
   exact Decidable.byContradiction (fun g => by rw [if_neg g] at hE; omega)
  refine ⟨?_, ?_, ?_, ?_, ?_⟩
  ·rw [hC]
   refine ⟨ok0, nil1, nilh, nilk, nils, nilb, ?_⟩
   intro x hx
   obtain ⟨i, hi, rfl⟩ := mem_cuts hx
   exact rdHead_all (fun z hz => hb z (mem_cutAt hz))
  ·rw [hC]
   exact ⟨fun _ => by simp [hasH, PV.base, PV.zero], fun _ => by simp [hasD, PV.base, PV.zero], fun _ => rfl, fun _ => rfl, fun h => (h rfl).elim⟩
  ·rw [hC]; rfl
  ·rw [hC]
   unfold pbodyB
   refine (if_neg (by simp [PV.base])).trans ((if_neg (by simp [PV.base])).trans ((if_neg (by simp [PV.base])).trans ((if_neg (by simp [PV.base])).trans ?_)))
   exact flat_cuts headB rdHead 20 (by omega) c hc (fun p hp hm => headB_rdHead hp (fun z hz => hb z (hm z hz)))
  ·rw [hC]; exact ⟨rfl, rfl, rfl⟩
/-- What Decode reads, Encode makes. -/
structure PBack (rs : List Int) (C : PkC) (A : AuV) : Prop where
 ok : C.Ok
 oa : A.Ok
 e : pencE C A = 0
 le : (pencB C A).length ≤ rs.length
 ge : 24 ≤ (pencB C A).length
 eq : A.kind ≠ 2 → (pencB C A).length = rs.length
 at_ : ∀ i, i < (pencB C A).length → (pencB C A).getD i 0 ≠ rs.getD i 0 → (i = 12 ∨ i = 13) ∧ (A.kind = 2 ∨ (rs.getD 12 0 = 255 ∧ rs.getD 13 0 = 255))
 lt : C.Ok → C.ss.length ≤ 65535 ∧ ∀ s ∈ C.ss, s.2.length ≤ 65535
theorem sum_two {w0 s : Int} (h0 : 0 < w0) (hs : 0 ≤ s ∧ s ≤ 65535) (h : fold (w0 + s) = 65535) : s = 65535 - fold w0 ∨ s = 65535 := by
 unfold fold at *
 rw [if_neg (by omega)] at h
 rw [if_neg (by omega)]
 omega
theorem sts_small (l : List ST) : l.length ≤ (stsP l).length ∧ ∀ s ∈ l, s.2.length ≤ (stsP l).length := by
 induction l with
 | nil => simp
 | cons x r ih =>
  have e : (stsP (x :: r)).length = 20 + x.2.length + (stsP r).length := by
   rw [show stsP (x :: r) = stP x ++ stsP r by simp [stsP], List.length_append, stP, List.length_append, length_headB]
  refine ⟨by rw [e, List.length_cons]; omega, fun s hs => ?_⟩
  rcases List.mem_cons.1 hs with rfl | hs
  ·omega
  ·have := ih.2 s hs; omega
theorem pback {rs : List Int} (hb : ∀ z ∈ rs, 0 ≤ z ∧ z < 256) (h : pdecE rs = 0) (hlen : rs.length ≤ 1000000) : PBack rs (pdecC rs) (pdecA rs) := by
 have D := pdecE_ok h
 have hn := D.l.n
 obtain ⟨n, hpn⟩ : ∃ n : Nat, pTold rs = (n : Int) := ⟨(pTold rs).toNat, by omega⟩
 have hb24 : 24 ≤ n := by omega
 have hn2 : n ≤ rs.length := by omega
 have hC : pdecC rs = ppartC (pv0 rs) (pbehind rs) := by unfold pdecC; rw [if_pos h]
 have hA : pdecA rs = au0 rs := by unfold pdecA; rw [if_pos h]
 have hbe : pbehind rs = (rs.take n).drop 24 := by unfold pbehind; rw [hpn]; simp
 have hpv : pv0 rs = PV.base (rs.getD 1 0) (numOf ((rs.drop 4).take 4)) (numOf ((rs.drop 8).take 4)) := rfl
 have hbb : ∀ z ∈ pbehind rs, 0 ≤ z ∧ z < 256 := fun z hz => by rw [hbe] at hz; exact hb z (List.mem_of_mem_take (List.mem_of_mem_drop hz))
 have F := part_fwd (rs.getD 1 0) _ _ D.l.t (nb4 hb 4) (nb4 hb 8) (pbehind rs) hbb D.p
 rw [← hpv] at F
 obtain ⟨Fok, Fal, Fme, Fb, Ft⟩ := F
 rw [← hC] at Fok Fal Fme Fb Ft
 have oa : (pdecA rs).Ok := by
  rw [hA]
  exact ⟨nb2 hb 14, getD_bt hb 16, getD_bt hb 17, getD_bt hb 18, getD_bt hb 19, getD_bt hb 20, getD_bt hb 21, getD_bt hb 22, getD_bt hb 23⟩
 have hbl : (pbehind rs).length + 24 = n := by rw [hbe, List.length_drop, List.length_take]; omega
 have hn16 : n ≤ 65535 := by
  have := (nb2 hb 2).2
  have e : pTold rs = numOf ((rs.drop 2).take 2) := rfl
  omega
 have hE : PEnc (pdecC rs) (pdecA rs) := ⟨by rw [Ft.1]; exact D.l.t, Fal, Fme, by rw [hA]; exact D.k, by rw [Fb]; omega⟩
 have hB : pencB (pdecC rs) (pdecA rs) = phead2 (pdecC rs).P (pdecA rs) (24 + ((pbehind rs).length : Int)) (psum (pdecC rs).P (pdecA rs) (24 + ((pbehind rs).length : Int)) (pbehind rs)) ++ pbehind rs := by
  unfold pencB
  rw [if_pos hE.zero, sealed_form, Fb]
 have hp2 : ∀ x y, phead2 (pdecC rs).P (pdecA rs) x y = phead2 (pv0 rs) (au0 rs) x y := fun x y => by
  unfold phead2
  rw [Ft.1, Ft.2.1, Ft.2.2, hA]
 have hps : psum (pdecC rs).P (pdecA rs) (24 + ((pbehind rs).length : Int)) (pbehind rs) = if (au0 rs).kind = 2 then 0 else 65535 - fold (W true (summedB (phead2 (pv0 rs) (au0 rs) (n : Int) 0 ++ pbehind rs))) := by
  unfold psum
  rw [hp2, hA, show (24 : Int) + ((pbehind rs).length : Int) = (n : Int) by omega]
 have sb := psum_bound (pdecC rs).P (pdecA rs) (24 + ((pbehind rs).length : Int)) (pbehind rs)
 generalize hs : psum (pdecC rs).P (pdecA rs) (24 + ((pbehind rs).length : Int)) (pbehind rs) = s at *
 rw [hp2, show (24 : Int) + ((pbehind rs).length : Int) = (n : Int) by omega] at hB
 have hcl : (pencB (pdecC rs) (pdecA rs)).length = n := by rw [hB, List.length_append, length_phead2]; omega
 have hlts : (pdecC rs).ss.length ≤ 65535 ∧ ∀ x ∈ (pdecC rs).ss, x.2.length ≤ 65535 := by
  by_cases h4 : (pdecC rs).P.typ = 4
  ·have hb4 : pbodyB (pdecC rs) = numBytes 4 ((pdecC rs).ss.length : Int) ++ stsP (pdecC rs).ss := by
    unfold pbodyB
    rw [if_neg (by omega), if_neg (by omega), if_neg (by omega), if_pos h4]
   rw [Fb] at hb4
   have hx := congrArg List.length hb4
   rw [List.length_append] at hx
   have := sts_small (pdecC rs).ss
   exact ⟨by omega, fun x hx2 => by have := this.2 x hx2; omega⟩
  ·rw [Fal.s h4]
   exact ⟨by simp, fun x hx => by cases hx⟩
 obtain ⟨r0, r1, r2, r3, r4, r5, r6, r7, r8, r9, r10, r11, r12, r13, r14, r15, r16, r17, r18, r19, r20, r21, r22, r23, tl, hrs⟩ := list24 D.l.l
 have hm : ∀ z, z ∈ [r0, r1, r2, r3, r4, r5, r6, r7, r8, r9, r10, r11, r12, r13, r14, r15, r16, r17, r18, r19, r20, r21, r22, r23] → 0 ≤ z ∧ z < 256 := fun z hz => hb z (by rw [hrs]; exact List.mem_append_left tl hz)
 have hr0 : r0 = 2 := by have := D.l.v; rw [hrs] at this; simpa using this
 have hnr : (n : Int) = numOf [r2, r3] := by rw [← hpn, hrs]; rfl
 have hph : ∀ y, phead2 (pv0 rs) (au0 rs) (n : Int) y = [r0, r1, r2, r3, r4, r5, r6, r7, r8, r9, r10, r11, y / 256 % 256, y % 256, r14, r15, r16, r17, r18, r19, r20, r21, r22, r23] := fun y => by
  have e1 : (pv0 rs).typ = r1 := by rw [hrs]; rfl
  have e2 : numBytes 4 (pv0 rs).router = [r4, r5, r6, r7] := by rw [hrs]; exact numBytes_four r4 r5 r6 r7 (hm _ (by simp)) (hm _ (by simp)) (hm _ (by simp)) (hm _ (by simp))
  have e3 : numBytes 4 (pv0 rs).area = [r8, r9, r10, r11] := by rw [hrs]; exact numBytes_four r8 r9 r10 r11 (hm _ (by simp)) (hm _ (by simp)) (hm _ (by simp)) (hm _ (by simp))
  have e4 : numBytes 2 (au0 rs).kind = [r14, r15] := by rw [hrs]; exact numBytes_two r14 r15 (hm _ (by simp)) (hm _ (by simp))
  have e5 : (au0 rs).data = [r16, r17, r18, r19, r20, r21, r22, r23] := by rw [hrs]; rfl
  unfold phead2
  rw [e1, e2, e3, e4, e5, hnr, numBytes_two r2 r3 (hm _ (by simp)) (hm _ (by simp)), numBytes2, hr0]
  rfl
 have hrt : rs.take n = [r0, r1, r2, r3, r4, r5, r6, r7, r8, r9, r10, r11, r12, r13, r14, r15, r16, r17, r18, r19, r20, r21, r22, r23] ++ pbehind rs := by
  have e1 : (rs.take n).take 24 = [r0, r1, r2, r3, r4, r5, r6, r7, r8, r9, r10, r11, r12, r13, r14, r15, r16, r17, r18, r19, r20, r21, r22, r23] := by rw [List.take_take, Nat.min_eq_left hb24, hrs]; rfl
  rw [hbe, ← e1, List.take_append_drop]
 have hgt : ∀ i, i < n → rs.getD i 0 = (rs.take n).getD i 0 := fun i hi => by simp [List.getD, hi]
 have g12 : rs.getD 12 0 = r12 := by rw [hrs]; rfl
 have g13 : rs.getD 13 0 = r13 := by rw [hrs]; rfl
 have h12 := hm r12 (by simp)
 have h13 := hm r13 (by simp)
 have hkey : (s = 256 * r12 + r13) ∨ (au0 rs).kind = 2 ∨ (r12 = 255 ∧ r13 = 255) := by
  by_cases hk : (au0 rs).kind = 2
  ·exact Or.inr (Or.inl hk)
  ·rw [if_neg hk] at hps
   have hR := D.r hk
   unfold pRight at hR
   rw [Bool.and_eq_true] at hR
   have hf : fold (W true (summedB (rs.take n))) = 65535 := by
    have := hR.2
    rw [hpn, Int.toNat_natCast] at this
    simpa using this
   have hsum : W true (summedB (rs.take n)) = W true (summedB (phead2 (pv0 rs) (au0 rs) (n : Int) 0 ++ pbehind rs)) + (256 * r12 + r13) := by
    rw [hrt, ← summed_sum (pv0 rs) (au0 rs) (n : Int) (256 * r12 + r13) (pbehind rs) (by omega) (by omega), hph]
    rw [show (256 * r12 + r13) / 256 % 256 = r12 by omega, show (256 * r12 + r13) % 256 = r13 by omega]
   rw [hsum] at hf
   have hpos : 0 < W true (summedB (phead2 (pv0 rs) (au0 rs) (n : Int) 0 ++ pbehind rs)) := by
    rw [hph]
    have e : summedB ([r0, r1, r2, r3, r4, r5, r6, r7, r8, r9, r10, r11, 0 / 256 % 256, 0 % 256, r14, r15, r16, r17, r18, r19, r20, r21, r22, r23] ++ pbehind rs) = r0 :: ([r1, r2, r3, r4, r5, r6, r7, r8, r9, r10, r11, 0 / 256 % 256, 0 % 256, r14, r15] ++ pbehind rs) := rfl
    rw [e]
    have hwn : 0 ≤ W false ([r1, r2, r3, r4, r5, r6, r7, r8, r9, r10, r11, 0 / 256 % 256, 0 % 256, r14, r15] ++ pbehind rs) := W_nonneg _ _ (app_bt (fun z hz => by
     simp only [List.mem_cons, List.not_mem_nil, or_false] at hz
     rcases hz with rfl | rfl | rfl | rfl | rfl | rfl | rfl | rfl | rfl | rfl | rfl | rfl | rfl | rfl | rfl
     all_goals first | omega | (exact hm _ (by simp))) hbb)
    have e2 : W true (r0 :: ([r1, r2, r3, r4, r5, r6, r7, r8, r9, r10, r11, 0 / 256 % 256, 0 % 256, r14, r15] ++ pbehind rs)) = 256 * r0 + W false ([r1, r2, r3, r4, r5, r6, r7, r8, r9, r10, r11, 0 / 256 % 256, 0 % 256, r14, r15] ++ pbehind rs) := by rw [W]
    rw [e2]
    omega
   rcases sum_two hpos (by omega) hf with g | g
   ·left; omega
   ·right; right; omega
 refine ⟨Fok, oa, hE.zero, by omega, by omega, fun hk => ?_, ?_, fun _ => hlts⟩
 ·rw [hA] at hk
  have := D.n hk
  omega
 ·intro i hi hne
  rw [hcl] at hi
  rw [hgt i hi, hB, hph, hrt] at hne
  rw [hA, g12, g13]
  by_cases hi12 : i = 12 ∨ i = 13
  ·refine ⟨hi12, ?_⟩
   rcases hkey with g | g | g
   ·exfalso
    apply hne
    rw [g]
    rw [show (256 * r12 + r13) / 256 % 256 = r12 by omega, show (256 * r12 + r13) % 256 = r13 by omega]
   ·exact Or.inl g
   ·exact Or.inr g
  ·exfalso
   apply hne
   by_cases hi24 : i < 24
   ·simp only [List.getD, List.getElem?_append_left (show i < ([r0, r1, r2, r3, r4, r5, r6, r7, r8, r9, r10, r11, s / 256 % 256, s % 256, r14, r15, r16, r17, r18, r19, r20, r21, r22, r23] : List Int).length by simpa using hi24), List.getElem?_append_left (show i < ([r0, r1, r2, r3, r4, r5, r6, r7, r8, r9, r10, r11, r12, r13, r14, r15, r16, r17, r18, r19, r20, r21, r22, r23] : List Int).length by simpa using hi24)]
    have : i = 0 ∨ i = 1 ∨ i = 2 ∨ i = 3 ∨ i = 4 ∨ i = 5 ∨ i = 6 ∨ i = 7 ∨ i = 8 ∨ i = 9 ∨ i = 10 ∨ i = 11 ∨ i = 14 ∨ i = 15 ∨ i = 16 ∨ i = 17 ∨ i = 18 ∨ i = 19 ∨ i = 20 ∨ i = 21 ∨ i = 22 ∨ i = 23 := by omega
    rcases this with rfl | rfl | rfl | rfl | rfl | rfl | rfl | rfl | rfl | rfl | rfl | rfl | rfl | rfl | rfl | rfl | rfl | rfl | rfl | rfl | rfl | rfl <;> rfl
   ·simp only [List.getD, List.getElem?_append_right (show ([r0, r1, r2, r3, r4, r5, r6, r7, r8, r9, r10, r11, s / 256 % 256, s % 256, r14, r15, r16, r17, r18, r19, r20, r21, r22, r23] : List Int).length ≤ i by simp; omega), List.getElem?_append_right (show ([r0, r1, r2, r3, r4, r5, r6, r7, r8, r9, r10, r11, r12, r13, r14, r15, r16, r17, r18, r19, r20, r21, r22, r23] : List Int).length ≤ i by simp; omega)]
    rfl
end Go.Proofs.YtbfplepmgbkajaaGreatDoor
