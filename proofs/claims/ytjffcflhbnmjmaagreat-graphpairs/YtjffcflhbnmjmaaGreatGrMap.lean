/- Package graph: the small functions. -/
import Derived.Test.YtjffcflhbnmjmaaGreatGrMath
import Derived.Test.YtjffcflhbnmjmaaGreatOrdNewer
import Derived.Test.YtjffcflhbnmjmaaGreatWrAll2
import Derived.Test.YtjffcflhbnmjmaaGreatStFace
import Derived.Test.YtjffcflhbnmjmaaGreatParts
import Derived.Test.YtjffcflhbnmjmaaGreatRowB
import Derived.DeepKeys3
import Derived.WideKeyEntry
import Derived.Maps.RangeRun
namespace Go.Proofs.YtjffcflhbnmjmaaGreat
open Go.RowKit
set_option linter.unusedVariables false
set_option maxRecDepth 100000

def plV (p : Bool × Int) : Value := .agg #[.bool p.1, .int .u32 p.2]
set_option maxHeartbeats 400000 in
theorem place_any (h : HV) (w : World) : Calls Tryz.prog 26 #[.agg #[.int .u16 h.age, .int .u8 h.opts, .int .u8 h.typ, .int .u32 h.id, .int .u32 h.adv, .int .i32 h.seq, .int .u16 h.sum, .int .u16 h.len]] w fun e w' => e = .returned (plV h.pl) ∧ Touch (fun _ => False) w w' := by
  go_enter Tryz.func26, Tryz.ntmps26
  go_wp2_with fail
  refine bodyPost_ret (v := .agg #[.bool (h.typ == 2), .int .u32 h.id]) (by simp [results, Tryz.results26, go_sem]) rfl ⟨rfl, ?_⟩
  exact ((Touch.refl _ w).alloc _).alloc _
def q1 (h : HV) : Bool := decide (h.typ = 1 ∨ h.typ = 2)
def q2 (h : HV) : Bool := !decide (yrs h.age = 3600)
def q3 (h : HV) : Bool := decide (h.typ = 1 → h.id = h.adv ∧ h.id ≠ 0)
set_option maxHeartbeats 400000 in
theorem cnt1_any (h : HV) (a : Option Addr) (n c : Nat) (w : World) : Calls Tryz.prog 46 #[h.sv (.slice a n c)] w fun e w' => e = .returned (.bool (q1 h)) ∧ Touch (fun _ => False) w w' := by
  have HB : Hid (q1 h = decide (h.typ = 1 ∨ h.typ = 2)) := rfl
  generalize q1 h = r at HB ⊢
  unfold HV.sv
  by_cases h1 : h.typ = 1
  · have hb : (h.typ == 1) = true := by simpa using h1
    obtain rfl : r = true := by rw [HB.out]; simp [h1]
    clear HB h1
    go_enter Tryz.func46, Tryz.ntmps46
    go_wp2
    go_ret
    exact ⟨rfl, (Touch.refl _ _).alloc _⟩
  · have hb : (h.typ == 1) = false := by simpa using h1
    have hr : Hid (r = (h.typ == 2)) := by rw [Hid, HB.out, Bool.eq_iff_iff]; simp [h1]
    clear HB h1
    go_enter Tryz.func46, Tryz.ntmps46
    go_wp2
    go_ret
    exact ⟨ret_bool hr.out.symm, (Touch.refl _ _).alloc _⟩
set_option maxHeartbeats 400000 in
theorem cnt2_any (h : HV) (ok : h.All) (a : Option Addr) (n c : Nat) (w : World) : Calls Tryz.prog 47 #[h.sv (.slice a n c)] w fun e w' => e = .returned (.bool (q2 h)) ∧ Touch (fun _ => False) w w' := by
  have HO := fun w => old_any h.age ok.a.1 ok.a.2 w
  unfold HV.sv q2
  clear ok
  generalize decide (yrs h.age = 3600) = z at *
  go_enter Tryz.func47, Tryz.ntmps47
  go_wp2_with (go_at_call 48; refine (HO _).mono ?_; rintro e w' ⟨rfl, rfl⟩)
  go_ret
  exact ⟨rfl, (Touch.refl _ _).alloc _⟩
set_option maxHeartbeats 400000 in
theorem self_any (h : HV) (w : World) : Calls Tryz.prog 50 #[.agg #[.int .u16 h.age, .int .u8 h.opts, .int .u8 h.typ, .int .u32 h.id, .int .u32 h.adv, .int .i32 h.seq, .int .u16 h.sum, .int .u16 h.len]] w fun e w' => e = .returned (.bool (decide (h.id = h.adv ∧ h.id ≠ 0))) ∧ Touch (fun _ => False) w w' := by
  have HB : Hid (decide (h.id = h.adv ∧ h.id ≠ 0) = decide (h.id = h.adv ∧ h.id ≠ 0)) := rfl
  generalize hr : decide (h.id = h.adv ∧ h.id ≠ 0) = r at HB ⊢
  have HR : Hid (decide (h.id = h.adv ∧ h.id ≠ 0) = r) := hr
  clear HB hr
  by_cases h1 : h.id = h.adv
  · have hb : (h.id == h.adv) = true := by simpa using h1
    have hr : Hid (r = (h.id != 0)) := by rw [Hid, ← HR.out, Bool.eq_iff_iff]; simp [h1]
    clear HR h1
    go_enter Tryz.func50, Tryz.ntmps50
    go_wp2
    go_ret
    exact ⟨ret_bool hr.out.symm, (Touch.refl _ _).alloc _⟩
  · have hb : (h.id == h.adv) = false := by simpa using h1
    obtain rfl : r = false := by rw [← HR.out]; simp [h1]
    clear HR h1
    go_enter Tryz.func50, Tryz.ntmps50
    go_wp2
    go_ret
    exact ⟨rfl, (Touch.refl _ _).alloc _⟩
set_option maxHeartbeats 400000 in
theorem cnt3_any (h : HV) (a : Option Addr) (n c : Nat) (w : World) : Calls Tryz.prog 49 #[h.sv (.slice a n c)] w fun e w' => e = .returned (.bool (q3 h)) ∧ Touch (fun _ => False) w w' := by
  have HB : Hid (q3 h = decide (h.typ = 1 → h.id = h.adv ∧ h.id ≠ 0)) := rfl
  generalize q3 h = r at HB ⊢
  have HS := self_any h
  unfold HV.sv
  by_cases h1 : h.typ = 1
  · have hb : (h.typ != 1) = false := by simpa using h1
    have hr : Hid (r = decide (h.id = h.adv ∧ h.id ≠ 0)) := by rw [Hid, HB.out]; simp [h1]
    clear HB h1
    generalize decide (h.id = h.adv ∧ h.id ≠ 0) = z at *
    go_enter Tryz.func49, Tryz.ntmps49
    go_wp2_with fail
    refine (HS _).mono ?_
    rintro e w1 ⟨rfl, t1⟩
    have T1 : Hid _ := t1
    clear t1
    go_wp2
    go_ret
    exact ⟨ret_bool hr.out.symm, ((Touch.refl _ _).alloc _).trans T1.out⟩
  · have hb : (h.typ != 1) = true := by simpa using h1
    obtain rfl : r = true := by rw [HB.out]; simp [h1]
    clear HB h1
    go_enter Tryz.func49, Tryz.ntmps49
    go_wp2
    go_ret
    exact ⟨rfl, (Touch.refl _ _).alloc _⟩
set_option maxHeartbeats 400000 in
theorem cnt5_any (h : HV) (ok : h.All) (v : Value) (rs : List Int) (w : World) (hv : ArgAt w v rs) (hby : ∀ z ∈ rs, 0 ≤ z ∧ z < 256) (hn : rs.length ≤ 1000000) : Calls Tryz.prog 52 #[h.sv v] w fun e w' => e = .returned (.bool (chkE h rs == 0)) ∧ Touch (fun _ => False) w w' := by
  have HC := fun w' (t : Touch (fun _ => False) w w') => check_any h ok v rs w' (hv.keepN t) hby hn
  obtain ⟨a, c, rfl, hm⟩ := hv.form
  clear hv
  unfold HV.sv at *
  generalize chkE h rs = z at *
  go_enter Tryz.func52, Tryz.ntmps52
  go_wp2_with fail
  refine (HC _ ((Touch.refl _ _).alloc _)).mono ?_
  rintro e w1 ⟨rfl, t1⟩
  have T1 : Hid _ := t1
  clear t1 HC
  go_wp2
  go_ret
  exact ⟨rfl, ((Touch.refl _ _).alloc _).trans T1.out⟩
set_option maxHeartbeats 400000 in
theorem make_le (a n : Int) (w : World) (h0 : 0 ≤ n) (h1 : n ≤ 32) (ha0 : 0 ≤ a) (ha1 : a < 4294967296) :
    Calls Tryz.prog 87 #[.int .u32 a, .int .u8 n] w fun e w' => e = .returned (.tuple #[.agg #[.int .u32 (pcut a n), .int .u8 n], .int .i64 0]) ∧ Touch (fun _ => False) w w' := by
  have H : Hid (bits .and .u32 a (pmask n) = pcut a n) := and_mask ha0 ha1 h0 h1
  go_enter Tryz.func87, Tryz.ntmps87
  go_wp2_with (go_at_call 110; refine (mask_any _ _ h0).mono ?_; rintro e w' ⟨rfl, rfl⟩)
  refine bodyPost_ret (v := .tuple #[.agg #[.int .u32 (bits .and .u32 a (pmask n)), .int .u8 n], .int .i64 0]) (by simp [results, Tryz.results87, go_sem]) rfl ⟨by rw [H.out], ?_⟩
  exact (Touch.refl _ _).alloc _
/-- An address within a mask. -/
def inA (a m : Int) : Int := if pbok m = true then pcut a (pbn m) else 0
theorem pbn_bd (m : Int) : 0 ≤ pbn m ∧ pbn m ≤ 32 := by
  unfold pbn
  cases h : pfind m with
  | none => simp
  | some k =>
    have hk := List.mem_of_find?_eq_some h
    simp at hk
    simp
    omega
theorem pbn_no {m : Int} (h : pbok m = false) : pbn m = 0 := by
  unfold pbok at h
  unfold pbn
  cases e : pfind m with
  | none => rfl
  | some k => rw [e] at h; simp at h
set_option maxHeartbeats 1000000 in
theorem within_any (a m : Int) (w : World) (ha0 : 0 ≤ a) (ha1 : a < 4294967296) (hm0 : 0 ≤ m) (hm1 : m < 4294967296) :
    Calls Tryz.prog 58 #[.int .u32 a, .int .u32 m] w fun e w' => e = .returned (.tuple #[.agg #[.int .u32 (inA a m), .int .u8 (pbn m)], .bool (pbok m)]) ∧ Touch (fun _ => False) w w' := by
  have HB := fun w => bits_any m w hm0 hm1
  cases hb : pbok m with
  | false =>
    have e1 : inA a m = 0 := by unfold inA; rw [if_neg (by simp [hb])]
    have e2 := pbn_no hb
    rw [e1, e2]
    rw [e2, hb] at HB
    clear e1 e2 hb hm0 hm1 ha0 ha1
    go_enter Tryz.func58, Tryz.ntmps58
    go_wp2_with (go_at_call 86; refine (HB _).mono ?_; rintro e w' ⟨rfl, rfl⟩)
    refine bodyPost_ret (v := .tuple #[.agg #[.int .u32 0, .int .u8 0], .bool false]) (by simp [results, Tryz.results58, go_sem]) rfl ⟨rfl, ?_⟩
    exact (Touch.refl _ _).alloc _
  | true =>
    have e1 : inA a m = pcut a (pbn m) := by unfold inA; rw [if_pos hb]
    rw [e1]
    rw [hb] at HB
    obtain ⟨b0, b1⟩ := pbn_bd m
    have HM := fun w => make_le a (pbn m) w b0 b1 ha0 ha1
    clear e1 hb hm0 hm1 ha0 ha1
    generalize pcut a (pbn m) = x at *
    generalize pbn m = n at *
    go_enter Tryz.func58, Tryz.ntmps58
    go_wp2_with (go_at_call 86; refine (HB _).mono ?_; rintro e w' ⟨rfl, rfl⟩)
    refine (HM _).mono ?_
    rintro e w1 ⟨rfl, t1⟩
    have hz : w.heap.size < w1.heap.size := by have := t1.size; simp at this; omega
    have hc0 : w1.cell? ⟨w.heap.size, 0, none⟩ = some (.int .u32 0) := t1.cellN (by simp [go_sem])
    have hc1 : w1.cell? ⟨w.heap.size, 1, none⟩ = some (.int .u8 0) := t1.cellN (by simp [go_sem])
    have hf : ∀ j, w1.frozen? ⟨w.heap.size, j, none⟩ = false := fun j => by rw [t1.frozen (p := ⟨w.heap.size, j, none⟩) (by simp) (fun h => h)]; simp [go_sem]
    have T1 : Hid _ := t1
    clear t1 HM HB
    go_wp2_with fail
    refine bodyPost_ret (v := .tuple #[.agg #[.int .u32 x, .int .u8 n], .bool true]) (by simp [results, Tryz.results58, go_sem, hz, hc0, hc1]) rfl ⟨rfl, ?_⟩
    have T2 : Touch (fun _ => False) w w1 := ((Touch.refl _ _).alloc _).trans T1.out
    first | exact Touch.setCell (p := ⟨w.heap.size, 1, none⟩) (Touch.setCell (p := ⟨w.heap.size, 0, none⟩) (T2.alloc _) (Or.inr (Nat.le_refl _)) _) (Or.inr (Nat.le_refl _)) _ | exact (Touch.setCell (p := ⟨w.heap.size, 1, none⟩) (Touch.setCell (p := ⟨w.heap.size, 0, none⟩) T2 (Or.inr (Nat.le_refl _)) _) (Or.inr (Nat.le_refl _)) _).alloc _
end Go.Proofs.YtjffcflhbnmjmaaGreat

namespace Go.Proofs.YtjffcflhbnmjmaaGreat
open Go.RowKit
open Go.ChangeMaps (setBlock)
open Go.MapKept
set_option linter.unusedVariables false
set_option maxRecDepth 100000

/-- A kind of maps: the types of its keys, of the map, of its values, the value of what is not there. -/
structure MK (K M E : TypeId) (z : Value) : Prop where
  law : WideMaps.KeyLaw Tryz.prog K
  und : Tryz.prog.underlying M = some (.map K E)
  zero : ∀ w, (zeroValue E).run Tryz.prog w = .ok z w
/-- Block m is a map that holds the pairs l, in the order in which they came. -/
structure AM (w : World) (K : TypeId) (m : Nat) (l : List (Value × Value)) : Prop where
  out : ∃ es c, w.heap[m]? = some (.map es c) ∧ es.toList.map (fun e => (e.key, e.val)) = l ∧ (es.toList.map (·.born)).Nodup ∧ (∀ e ∈ es.toList, e.born < c)
  keys : ∀ p ∈ l, ∃ q, Go.keyOf Tryz.prog K p.1 = some q
  nd : (l.map Prod.fst).Nodup
theorem AM.lt {w : World} {K : TypeId} {m : Nat} {l : List (Value × Value)} (h : AM w K m l) : m < w.heap.size := by
  obtain ⟨es, c, h1, -⟩ := h.out
  exact lt_of_heap h1
theorem AM.keep {F : Nat → Prop} {w w' : World} {K : TypeId} {m : Nat} {l : List (Value × Value)} (h : AM w K m l) (t : Touch F w w') (hm : ¬ F m) : AM w' K m l := by
  have hl := h.lt
  obtain ⟨⟨es, c, h1, h2⟩, h3, h4⟩ := h
  exact ⟨⟨es, c, (t.block m hl hm).trans h1, h2⟩, h3, h4⟩
theorem AM.keepN {w w' : World} {K : TypeId} {m : Nat} {l : List (Value × Value)} (h : AM w K m l) (t : Touch (fun _ => False) w w') : AM w' K m l := h.keep t (fun h => h)
theorem AM.made (w : World) (K : TypeId) (c : Nat) : AM (w.alloc (.map #[] c)) K w.heap.size [] :=
  ⟨⟨#[], c, by show (w.heap.push _)[w.heap.size]? = _; simp, rfl, by simp, by simp⟩, by simp, by simp⟩
theorem am_touch {w : World} {m : Nat} {o o' : Obj} (h : w.heap[m]? = some o) : Touch (fun k => k = m) w (setBlock w m o') := by
  refine ⟨rfl, rfl, rfl, by simp [setBlock], fun k hk hn => ?_⟩
  show (w.heap.setIfInBounds m o')[k]? = _
  rw [Array.getElem?_setIfInBounds, if_neg (fun e => hn e.symm)]
theorem am_set {w : World} {m : Nat} {o o' : Obj} (h : w.heap[m]? = some o) : (setBlock w m o').heap[m]? = some o' := by
  show (w.heap.setIfInBounds m o')[m]? = _
  rw [Array.getElem?_setIfInBounds, if_pos rfl, if_pos (lt_of_heap h)]
theorem am_keys {K : TypeId} {es : Array MapEntry} {l : List (Value × Value)} (h2 : es.toList.map (fun e => (e.key, e.val)) = l) (ok : ∀ p ∈ l, ∃ q, Go.keyOf Tryz.prog K p.1 = some q) : ∀ e ∈ es.toList, ∃ q, Go.keyOf Tryz.prog K e.key = some q := by
  intro e he
  exact ok (e.key, e.val) (by rw [← h2]; exact List.mem_map.2 ⟨e, he, rfl⟩)
theorem am_get {es : Array MapEntry} {l : List (Value × Value)} (h2 : es.toList.map (fun e => (e.key, e.val)) = l) {j : Nat} {e : MapEntry} (hj : es.toList[j]? = some e) : l[j]? = some (e.key, e.val) := by
  rw [← h2, List.getElem?_map, hj]; rfl
theorem AM.len {w : World} {K : TypeId} {m : Nat} {l : List (Value × Value)} (h : AM w K m l) {M : TypeId} (hu : Tryz.prog.underlying M = some (.map (Tryz.prog.mapKeyOf M) (Tryz.prog.mapElemOf M))) (ty : TypeId) : (Builtin.len_ #[M] ty #[.map (some m)]).run Tryz.prog w = .ok (.int .i64 l.length) w := by
  obtain ⟨⟨es, c, h1, h2, -⟩, -⟩ := h
  rw [run_len_map w _ ty m es c hu h1]
  have : es.size = l.length := by rw [← h2]; simp
  rw [this]
  rfl
/-- The look-up of a key that is not there. -/
theorem AM.miss {K M E : TypeId} {z : Value} (kt : MK K M E z) {w : World} {m : Nat} {l : List (Value × Value)} (h : AM w K m l) {k : Value} {q : Lit} (hk : Go.keyOf Tryz.prog K k = some q) (hn : ∀ p ∈ l, p.1 ≠ k) :
    (Instr.lookup M (.map (some m)) k true).run Tryz.prog w = .ok (.tuple #[z, .bool false]) w := by
  obtain ⟨⟨es, c, h1, h2, -⟩, ok, nd⟩ := h
  rcases kt.law.find w hk es.toList (am_keys h2 ok) with ⟨g1, -⟩ | ⟨j, e, g1, g2, g3⟩
  · simp [Instr.lookup, run_underlying kt.und, MapKept.run_getObj_map h1, kt.law.check w es.isEmpty hk, g1, kt.zero w, Result.andThen]
  · exact absurd g3 (hn _ (List.mem_of_getElem? (am_get h2 g2)))
theorem am_idx {l : List (Value × Value)} (nd : (l.map Prod.fst).Nodup) {i j : Nat} {k v v' : Value} (h1 : l[i]? = some (k, v)) (h2 : l[j]? = some (k, v')) : i = j := by
  have a1 : (l.map Prod.fst)[i]? = some k := by rw [List.getElem?_map, h1]; rfl
  have a2 : (l.map Prod.fst)[j]? = some k := by rw [List.getElem?_map, h2]; rfl
  exact (List.getElem?_inj (List.getElem?_eq_some_iff.1 a1).1 nd).1 (a1.trans a2.symm)
/-- .. that is there. -/
theorem AM.hit {K M E : TypeId} {z : Value} (kt : MK K M E z) {w : World} {m : Nat} {l : List (Value × Value)} (h : AM w K m l) {k v : Value} {j : Nat} (hj : l[j]? = some (k, v)) :
    (Instr.lookup M (.map (some m)) k true).run Tryz.prog w = .ok (.tuple #[v, .bool true]) w := by
  obtain ⟨⟨es, c, h1, h2, -⟩, ok, nd⟩ := h
  obtain ⟨q, hk⟩ : ∃ q, Go.keyOf Tryz.prog K k = some q := ok _ (List.mem_of_getElem? hj)
  rcases kt.law.find w hk es.toList (am_keys h2 ok) with ⟨-, g2⟩ | ⟨i, e, g1, g2, g3⟩
  · exfalso
    have : (k, v) ∈ es.toList.map (fun e => (e.key, e.val)) := by rw [h2]; exact List.mem_of_getElem? hj
    obtain ⟨e, he, e1⟩ := List.mem_map.1 this
    exact g2 e he (congrArg Prod.fst e1)
  · have g4 := am_get h2 g2
    rw [g3] at g4
    have hij := am_idx nd g4 hj
    subst hij
    have e2 : e.val = v := by rw [g4] at hj; injection hj with hj; exact congrArg Prod.snd hj
    have g2' : es[i]? = .some e := by simpa using g2
    simp [Instr.lookup, run_underlying kt.und, MapKept.run_getObj_map h1, kt.law.check w es.isEmpty hk, g1, Result.andThen, e2]
/-- A key that is not there, stored. -/
theorem AM.putNew {K M E : TypeId} {z : Value} (kt : MK K M E z) {w : World} {m : Nat} {l : List (Value × Value)} (h : AM w K m l) {k : Value} {q : Lit} (v : Value) (hk : Go.keyOf Tryz.prog K k = some q) (hn : ∀ p ∈ l, p.1 ≠ k) :
    ∃ w', (Instr.mapUpdate M (.map (some m)) k v).run Tryz.prog w = .ok () w' ∧ AM w' K m (l ++ [(k, v)]) ∧ Touch (fun k => k = m) w w' := by
  obtain ⟨⟨es, n, h1, h2, h3, h4⟩, ok, nd⟩ := h
  rcases kt.law.find w hk es.toList (am_keys h2 ok) with ⟨g1, -⟩ | ⟨j, e, g1, g2, g3⟩
  · refine ⟨setBlock w m (.map (es.push ⟨k, v, n⟩) (n + 1)), ?_, ⟨⟨_, _, am_set h1, ?_, ?_, ?_⟩, ?_, ?_⟩, am_touch h1⟩
    · simp [Instr.mapUpdate, run_underlying kt.und, MapKept.run_getObj_map h1, kt.law.check w false hk, g1, MapKept.run_setObj_map _ h1, Result.andThen, setBlock]
    · simp [h2]
    · rw [Array.toList_push, List.map_append, List.nodup_append]
      refine ⟨h3, by simp, fun a ha b hb => ?_⟩
      obtain ⟨e, he, rfl⟩ := List.mem_map.1 ha
      obtain rfl : b = n := by simpa using hb
      have := h4 e he
      omega
    · intro e he
      rw [Array.toList_push] at he
      rcases List.mem_append.1 he with he | he
      · have := h4 e he; omega
      · obtain rfl : e = ⟨k, v, n⟩ := by simpa using he
        exact Nat.lt_succ_self _
    · intro p hp
      rcases List.mem_append.1 hp with hp | hp
      · exact ok p hp
      · obtain rfl : p = (k, v) := by simpa using hp
        exact ⟨q, hk⟩
    · rw [List.map_append, List.nodup_append]
      refine ⟨nd, by simp, fun a ha b hb => ?_⟩
      obtain ⟨p, hp, rfl⟩ := List.mem_map.1 ha
      obtain rfl : b = k := by simpa using hb
      exact hn p hp
  · exact absurd g3 (hn _ (List.mem_of_getElem? (am_get h2 g2)))
/-- A key that is there, stored anew. -/
theorem AM.putOld {K M E : TypeId} {z : Value} (kt : MK K M E z) {w : World} {m : Nat} {l : List (Value × Value)} (h : AM w K m l) {k v0 : Value} (v : Value) {j : Nat} (hj : l[j]? = some (k, v0)) :
    ∃ w', (Instr.mapUpdate M (.map (some m)) k v).run Tryz.prog w = .ok () w' ∧ AM w' K m (l.set j (k, v)) ∧ Touch (fun k => k = m) w w' := by
  obtain ⟨⟨es, n, h1, h2, h3, h4⟩, ok, nd⟩ := h
  obtain ⟨q, hk⟩ : ∃ q, Go.keyOf Tryz.prog K k = some q := ok _ (List.mem_of_getElem? hj)
  rcases kt.law.find w hk es.toList (am_keys h2 ok) with ⟨-, g2⟩ | ⟨i, e, g1, g2, g3⟩
  · exfalso
    have : (k, v0) ∈ es.toList.map (fun e => (e.key, e.val)) := by rw [h2]; exact List.mem_of_getElem? hj
    obtain ⟨e, he, e1⟩ := List.mem_map.1 this
    exact g2 e he (congrArg Prod.fst e1)
  · have g4 := am_get h2 g2
    rw [g3] at g4
    have hij := am_idx nd g4 hj
    subst hij
    have g2' : es[i]? = .some e := by simpa using g2
    have hm : (es.modify i (fun e' => { e' with key := k, val := v })).toList = es.toList.set i { e with key := k, val := v } := by
      rw [Array.toList_modify, ChangeMaps.modify_eq_set _ _ _ _ g2]
    refine ⟨setBlock w m (.map (es.modify i (fun e' => { e' with key := k, val := v })) n), ?_, ⟨⟨_, _, am_set h1, ?_, ?_, ?_⟩, ?_, ?_⟩, am_touch h1⟩
    · simp [Instr.mapUpdate, run_underlying kt.und, MapKept.run_getObj_map h1, kt.law.check w false hk, g1, g2', g3, kt.law.stays w hk, MapKept.run_setObj_map _ h1, Result.andThen, setBlock]
    · rw [hm, List.map_set, h2]
    · rw [hm, List.map_set]
      have e5 : (es.toList.map (·.born)).set i e.born = es.toList.map (·.born) := by
        apply List.ext_getElem?
        intro x
        rw [List.getElem?_set]
        split
        · rename_i hx
          subst hx
          rw [List.getElem?_map, g2]
          have := (List.getElem?_eq_some_iff.1 g2).1
          simpa using this
        · rfl
      rw [e5]
      exact h3
    · intro e' he
      rw [hm] at he
      rcases List.mem_or_eq_of_mem_set he with he | rfl
      · exact h4 e' he
      · exact h4 e (List.mem_of_getElem? g2)
    · intro p hp
      rcases List.mem_or_eq_of_mem_set hp with hp | rfl
      · exact ok p hp
      · exact ⟨q, hk⟩
    · rw [List.map_set]
      have e5 : (l.map Prod.fst).set i k = l.map Prod.fst := by
        apply List.ext_getElem?
        intro x
        rw [List.getElem?_set]
        split
        · rename_i hx
          subst hx
          rw [List.getElem?_map, hj]
          simp [(List.getElem?_eq_some_iff.1 hj).1]
        · rfl
      show ((l.map Prod.fst).set i k).Nodup
      rw [e5]
      exact nd
end Go.Proofs.YtjffcflhbnmjmaaGreat
