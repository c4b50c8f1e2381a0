
/- Plain facts: steps that wait, their order, heaps. -/
import Derived.Test.YtdfacfpjhnohcaaRows
namespace Go.Proofs.Ytdfacfpjhnohcaa
set_option linter.unusedVariables false

/-- A hop: out of which interface, by which router, over a virtual link? -/
structure HK where
  out : Int
  via : Int
  vr : Bool
deriving DecidableEq
def HK0 : HK := ⟨0, 0, false⟩
def bz (b : Bool) : Int := if b then 1 else 0
theorem bz_inj {a b : Bool} (h : bz a = bz b) : a = b := by cases a <;> cases b <;> simp_all [bz]
theorem bz_range (a : Bool) : 0 ≤ bz a ∧ bz a ≤ 1 := by cases a <;> simp [bz]
def HK.lt (x y : HK) : Prop := x.out < y.out ∨ x.out = y.out ∧ (x.via < y.via ∨ x.via = y.via ∧ bz x.vr < bz y.vr)
def HK.le (x y : HK) : Prop := ¬ HK.lt y x
theorem HK.ext' {x y : HK} (h1 : x.out = y.out) (h2 : x.via = y.via) (h3 : bz x.vr = bz y.vr) : x = y := by
  have := bz_inj h3
  cases x; cases y; simp_all
theorem HK.le_refl (x : HK) : x.le x := by unfold HK.le HK.lt; omega
theorem HK.le_trans {x y z : HK} (h : x.le y) (h' : y.le z) : x.le z := by unfold HK.le HK.lt at *; omega
theorem HK.lt_of_le_ne {x y : HK} (h : x.le y) (h' : x ≠ y) : x.lt y := by
  by_cases e : x.lt y
  · exact e
  · exfalso
    unfold HK.le HK.lt at *
    exact h' (HK.ext' (by omega) (by omega) (by omega))
theorem HK.lt_irrefl (x : HK) : ¬ x.lt x := by unfold HK.lt; omega
theorem HK.lt_trans {x y z : HK} (h : x.lt y) (h' : y.lt z) : x.lt z := by unfold HK.lt at *; omega
theorem HK.le_of_lt {x y : HK} (h : x.lt y) : x.le y := by unfold HK.le; unfold HK.lt at *; omega
theorem HK.lt_of_le_of_lt {x y z : HK} (h : x.le y) (h' : y.lt z) : x.lt z := by unfold HK.le at h; unfold HK.lt at *; omega
theorem HK.lt_of_lt_of_le {x y z : HK} (h : x.lt y) (h' : y.le z) : x.lt z := by unfold HK.le at h'; unfold HK.lt at *; omega

/-- A step that waits: to which node, how far, by which hop. -/
structure Sp where
  node : Int
  cost : Int
  h : HK
deriving DecidableEq
def Sp0 : Sp := ⟨0, 0, HK0⟩
def Sp.lt (x y : Sp) : Prop := x.cost < y.cost ∨ x.cost = y.cost ∧ x.h.lt y.h
def Sp.le (x y : Sp) : Prop := ¬ Sp.lt y x
theorem le_refl' (x : Sp) : x.le x := by unfold Sp.le Sp.lt HK.lt; omega
theorem le_trans' {x y z : Sp} (h : x.le y) (h' : y.le z) : x.le z := by unfold Sp.le Sp.lt HK.lt at *; omega
theorem le_of_lt' {x y : Sp} (h : x.lt y) : x.le y := by unfold Sp.le; unfold Sp.lt HK.lt at *; omega
theorem le_total' {x y : Sp} (h : ¬ x.le y) : y.le x := by unfold Sp.le Sp.lt HK.lt at *; omega
theorem lt_irrefl' (x : Sp) : ¬ x.lt x := by unfold Sp.lt HK.lt; omega

/-- The entry at a place. -/
def gt (l : List Sp) (i : Nat) : Sp := l.getD i Sp0
theorem gt_of {l : List Sp} {i : Nat} {e : Sp} (h : l[i]? = some e) : gt l i = e := by simp [gt, h]
theorem gt_some {l : List Sp} {i : Nat} (h : i < l.length) : l[i]? = some (gt l i) := by simp [gt, List.getElem?_eq_getElem h]
theorem gt_mem {l : List Sp} {i : Nat} (h : i < l.length) : gt l i ∈ l := List.mem_of_getElem? (gt_some h)
theorem mem_gt {l : List Sp} {e : Sp} (h : e ∈ l) : ∃ i, i < l.length ∧ gt l i = e := by
  obtain ⟨i, hi, e1⟩ := List.mem_iff_getElem.1 h
  exact ⟨i, hi, by simp [gt, List.getElem?_eq_getElem hi, e1]⟩
theorem gt_append_left {l l' : List Sp} {i : Nat} (h : i < l.length) : gt (l ++ l') i = gt l i := by simp [gt, List.getElem?_append_left h]
theorem gt_snoc (l : List Sp) (e : Sp) : gt (l ++ [e]) l.length = e := by simp [gt]
theorem gt_take {l : List Sp} {n i : Nat} (h : i < n) : gt (l.take n) i = gt l i := by simp [gt, List.getElem?_take_of_lt h]
theorem gt_set {l : List Sp} {i : Nat} (hi : i < l.length) (e : Sp) (k : Nat) : gt (l.set i e) k = if k = i then e else gt l k := by
  by_cases h : k = i
  · subst h; simp [gt, hi]
  · simp [gt, h, List.getElem?_set_ne (Ne.symm h)]

/-- Two places changed. -/
def sw (l : List Sp) (i j : Nat) : List Sp := (l.set i (gt l j)).set j (gt l i)
theorem sw_length (l : List Sp) (i j : Nat) : (sw l i j).length = l.length := by simp [sw]
theorem gt_sw {l : List Sp} {i j : Nat} (hi : i < l.length) (hj : j < l.length) (k : Nat) : gt (sw l i j) k = if k = j then gt l i else if k = i then gt l j else gt l k := by
  unfold sw
  rw [gt_set (by simpa using hj), gt_set hi]
theorem sw_perm {l : List Sp} {i j : Nat} (hi : i < l.length) (hj : j < l.length) : (sw l i j).Perm l := by
  have h := Array.swap_perm (xs := l.toArray) (i := i) (j := j) (by simpa using hi) (by simpa using hj)
  have e : (l.toArray.swap i j (by simpa using hi) (by simpa using hj)).toList = sw l i j := by
    simp [Array.swap_def, sw, gt, List.getElem?_eq_getElem hi, List.getElem?_eq_getElem hj]
  have := Array.perm_iff_toList_perm.1 h
  rw [e] at this
  simpa using this

/-- Of the first n none is ahead of its parent. -/
def HP (n : Nat) (g : Nat → Sp) : Prop := ∀ c, 0 < c → c < n → (g ((c - 1) / 2)).le (g c)
/-- .. but perhaps that at j. -/
def UpI (n : Nat) (g : Nat → Sp) (j : Nat) : Prop := (∀ c, 0 < c → c < n → c ≠ j → (g ((c - 1) / 2)).le (g c)) ∧ (∀ c, 0 < c → c < n → (c - 1) / 2 = j → 0 < j → (g ((j - 1) / 2)).le (g c))
/-- .. but perhaps that at i and those right below it. -/
def FixI (n : Nat) (g : Nat → Sp) (i : Nat) : Prop := (∀ c, 0 < c → c < n → c ≠ i → (c - 1) / 2 ≠ i → (g ((c - 1) / 2)).le (g c)) ∧ (∀ c, 0 < c → c < n → (c - 1) / 2 = i → 0 < i → (g ((i - 1) / 2)).le (g c))
/-- .. but perhaps those right below i. -/
def DnI (n : Nat) (g : Nat → Sp) (i : Nat) : Prop := (∀ c, 0 < c → c < n → (c - 1) / 2 ≠ i → (g ((c - 1) / 2)).le (g c)) ∧ (∀ c, 0 < c → c < n → (c - 1) / 2 = i → 0 < i → (g ((i - 1) / 2)).le (g c))

theorem HP.first {n : Nat} {g : Nat → Sp} (h : HP n g) : ∀ c, c < n → (g 0).le (g c) := by
  intro c
  induction c using Nat.strongRecOn with
  | ind c ih =>
    intro hc
    by_cases h0 : c = 0
    · subst h0; exact le_refl' _
    · exact le_trans' (ih ((c - 1) / 2) (by omega) (by omega)) (h c (by omega) hc)

/-- The end of going up. -/
theorem up_end {n : Nat} {g : Nat → Sp} {j : Nat} (h : UpI n g j) (h' : j = 0 ∨ (g ((j - 1) / 2)).le (g j)) : HP n g := by
  intro c h0 hc
  by_cases e : c = j
  · subst e
    rcases h' with h' | h'
    · omega
    · exact h'
  · exact h.1 c h0 hc e
/-- A step up. -/
theorem up_step {n : Nat} {g g' : Nat → Sp} {j : Nat} (h : UpI n g j) (hj : j < n) (h0 : 0 < j) (hlt : (g j).lt (g ((j - 1) / 2)))
    (hg : ∀ k, g' k = if k = j then g ((j - 1) / 2) else if k = (j - 1) / 2 then g j else g k) : UpI n g' ((j - 1) / 2) := by
  have hp : (j - 1) / 2 < j := by omega
  have gj : g' j = g ((j - 1) / 2) := by rw [hg, if_pos rfl]
  have gp : g' ((j - 1) / 2) = g j := by rw [hg, if_neg (by omega), if_pos rfl]
  have go : ∀ k, k ≠ j → k ≠ (j - 1) / 2 → g' k = g k := fun k h1 h2 => by rw [hg, if_neg h1, if_neg h2]
  have hle := le_of_lt' hlt
  constructor
  · intro c c0 cn ce
    by_cases e1 : c = j
    · subst e1
      rw [gj, gp]; exact hle
    · rw [go c e1 ce]
      by_cases e2 : (c - 1) / 2 = j
      · rw [e2, gj]
        exact h.2 c c0 cn e2 h0
      · by_cases e3 : (c - 1) / 2 = (j - 1) / 2
        · rw [e3, gp]
          have := h.1 c c0 cn e1
          rw [e3] at this
          exact le_trans' hle this
        · rw [go _ e2 e3]
          exact h.1 c c0 cn e1
  · intro c c0 cn ce p0
    have e4 : ((j - 1) / 2 - 1) / 2 ≠ j ∧ ((j - 1) / 2 - 1) / 2 ≠ (j - 1) / 2 := by omega
    rw [go _ e4.1 e4.2]
    have hpp := h.1 ((j - 1) / 2) p0 (by omega) (by omega)
    by_cases e1 : c = j
    · subst e1; rw [gj]; exact hpp
    · rw [go c e1 (by omega)]
      have := h.1 c c0 cn e1
      rw [ce] at this
      exact le_trans' hpp this

/-- Nothing below i is ahead of it: the end of going down where it began. -/
theorem fix_up {n : Nat} {g : Nat → Sp} {i : Nat} (h : FixI n g i) (hc : ∀ c, 0 < c → c < n → (c - 1) / 2 = i → (g i).le (g c)) : UpI n g i :=
  ⟨fun c c0 cn ce => by
    by_cases e : (c - 1) / 2 = i
    · rw [e]; exact hc c c0 cn e
    · exact h.1 c c0 cn ce e, h.2⟩
theorem dn_end {n : Nat} {g : Nat → Sp} {i : Nat} (h : DnI n g i) (hc : ∀ c, 0 < c → c < n → (c - 1) / 2 = i → (g i).le (g c)) : HP n g := by
  intro c c0 cn
  by_cases e : (c - 1) / 2 = i
  · rw [e]; exact hc c c0 cn e
  · exact h.1 c c0 cn e
/-- A step down, to the lesser one below. -/
theorem dn_step {n : Nat} {g g' : Nat → Sp} {i j : Nat} (h : FixI n g i) (hj : (j - 1) / 2 = i) (j0 : 0 < j) (hjn : j < n) (hlt : (g j).lt (g i)) (hmin : ∀ c, 0 < c → c < n → (c - 1) / 2 = i → (g j).le (g c))
    (hg : ∀ k, g' k = if k = j then g i else if k = i then g j else g k) : DnI n g' j := by
  have hij : i ≠ j := by omega
  have gj : g' j = g i := by rw [hg, if_pos rfl]
  have gi : g' i = g j := by rw [hg, if_neg hij, if_pos rfl]
  have go : ∀ k, k ≠ j → k ≠ i → g' k = g k := fun k h1 h2 => by rw [hg, if_neg h1, if_neg h2]
  constructor
  · intro c c0 cn ce
    by_cases e1 : c = j
    · subst e1; rw [gj, hj, gi]; exact le_of_lt' hlt
    · by_cases e2 : c = i
      · subst e2
        rw [gi, go _ (by omega) (by omega)]
        exact h.2 j j0 hjn hj c0
      · rw [go c e1 e2]
        by_cases e3 : (c - 1) / 2 = i
        · rw [e3, gi]; exact hmin c c0 cn e3
        · rw [go _ ce e3]; exact h.1 c c0 cn e2 e3
  · intro c c0 cn ce _
    rw [hj, gi, go c (by omega) (by omega)]
    have := h.1 c c0 cn (by omega) (by omega)
    rw [ce] at this
    exact this
theorem DnI.fix {n : Nat} {g : Nat → Sp} {i : Nat} (h : DnI n g i) : FixI n g i := ⟨fun c a b _ d => h.1 c a b d, h.2⟩
theorem HP.fix {n : Nat} {g g' : Nat → Sp} {i : Nat} (h : HP n g) (hg : ∀ k, k ≠ i → g' k = g k) : FixI n g' i :=
  ⟨fun c c0 cn ce pe => by rw [hg _ pe, hg _ ce]; exact h c c0 cn, fun c c0 cn pe i0 => by
    rw [hg _ (by omega), hg _ (by omega)]
    have h1 := h c c0 cn
    have h2 := h i i0 (by omega)
    rw [pe] at h1
    exact le_trans' h2 h1⟩
theorem HP.up {n : Nat} {g g' : Nat → Sp} (h : HP n g) (hg : ∀ k, k ≠ n → g' k = g k) : UpI (n + 1) g' n :=
  ⟨fun c c0 cn ce => by rw [hg _ (by omega), hg _ ce]; exact h c c0 (by omega), fun c c0 cn pe _ => by omega⟩
theorem HP.mono {n m : Nat} {g g' : Nat → Sp} (h : HP n g) (hm : m ≤ n) (hg : ∀ k, k < m → g' k = g k) : HP m g' := by
  intro c c0 cm
  rw [hg _ (by omega), hg _ cm]
  exact h c c0 (by omega)
end Go.Proofs.Ytdfacfpjhnohcaa
