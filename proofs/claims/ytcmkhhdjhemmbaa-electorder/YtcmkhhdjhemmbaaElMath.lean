
/- Plain facts on elections: voices as numbers, who is ahead, who is designated. -/
import Derived.Test.YtcmkhhdjhemmbaaParts
namespace Go.Proofs.Ytcmkhhdjhemmbaa
set_option linter.unusedVariables false

/-- A voice: router, address, priority, whom it names. -/
structure VC where
  r : Int
  ad : Int
  p : Int
  dr : Int
  bd : Int
def VC.zero : VC := ⟨0, 0, 0, 0, 0⟩
structure VC.Ok (v : VC) : Prop where
  r0 : 0 ≤ v.r
  r1 : v.r < 4294967296
  a0 : 0 ≤ v.ad
  a1 : v.ad < 4294967296
  p0 : 0 ≤ v.p
  p1 : v.p < 256
  d0 : 0 ≤ v.dr
  d1 : v.dr < 4294967296
  b0 : 0 ≤ v.bd
  b1 : v.bd < 4294967296
theorem VC.zero_ok : VC.zero.Ok := ⟨by decide, by decide, by decide, by decide, by decide, by decide, by decide, by decide, by decide, by decide⟩
def VC.el (v : VC) : Bool := decide (0 < v.p)
def VC.is (v : VC) (a : Int) : Bool := !(v.ad == 0) && (v.ad == a)
def VC.ch (v : VC) : Bool := v.is v.dr
def VC.bk (v : VC) : Bool := v.is v.bd
def VC.ahd (v b : VC) : Bool := if v.p = b.p then decide (b.r < v.r) else decide (b.p < v.p)
def tkB (f : VC → Bool) (v b : VC) : Bool := v.el && f v && v.ahd b
def stp (f : VC → Bool) (b v : VC) : VC := if tkB f v b = true then v else b
def bst (f : VC → Bool) (l : List VC) : VC := l.foldl (stp f) VC.zero
def fB (v : VC) : Bool := !v.ch && v.bk
def fR (v : VC) : Bool := !v.ch
def onB (l : List VC) : Int := if (bst fB l).ad = 0 then (bst fR l).ad else (bst fB l).ad
def onD (l : List VC) : Int := if (bst VC.ch l).ad = 0 then onB l else (bst VC.ch l).ad
def VC.aft (v : VC) (d b : Int) : VC := ⟨v.r, v.ad, v.p, if v.is d = true then v.ad else 0, if v.is d = true then 0 else if v.is b = true then v.ad else 0⟩
def stayB (s : VC) (d b : Int) : Bool := (s.ch == s.is d) && (s.bk == s.is b)
def elL (s : VC) (l : List VC) : List VC := if stayB s (onD (s :: l)) (onB (s :: l)) = true then s :: l else s.aft (onD (s :: l)) (onB (s :: l)) :: l
def elD (s : VC) (l : List VC) : Int := onD (elL s l)
def elB (s : VC) (l : List VC) : Int := onB (elL s l)

theorem ahd_yes {v b : VC} : v.ahd b = true ↔ b.p < v.p ∨ (v.p = b.p ∧ b.r < v.r) := by
  unfold VC.ahd
  split
  · rw [decide_eq_true_iff]; omega
  · rw [decide_eq_true_iff]; omega
theorem ahd_no {v b : VC} : v.ahd b = false ↔ v.p < b.p ∨ (v.p = b.p ∧ v.r ≤ b.r) := by
  unfold VC.ahd
  split
  · rw [decide_eq_false_iff_not]; omega
  · rw [decide_eq_false_iff_not]; omega
theorem bst_snoc (f : VC → Bool) (l : List VC) (v : VC) : bst f (l ++ [v]) = stp f (bst f l) v := by simp [bst]
/-- The best of a list: none counts, or one that counts and none that counts is ahead of it. -/
theorem bst_spec (f : VC → Bool) (l : List VC) : (bst f l = VC.zero ∧ ∀ v ∈ l, (v.el && f v) = false) ∨ ((bst f l) ∈ l ∧ ((bst f l).el && f (bst f l)) = true ∧ ∀ v ∈ l, (v.el && f v) = true → v.ahd (bst f l) = false) := by
  have key : ∀ k, k ≤ l.length → (bst f (l.take k) = VC.zero ∧ ∀ v ∈ l.take k, (v.el && f v) = false) ∨ ((bst f (l.take k)) ∈ l.take k ∧ ((bst f (l.take k)).el && f (bst f (l.take k))) = true ∧ ∀ v ∈ l.take k, (v.el && f v) = true → v.ahd (bst f (l.take k)) = false) := by
    intro k
    induction k with
    | zero => intro _; exact Or.inl ⟨rfl, by simp⟩
    | succ k ih =>
      intro hk
      have hx : k < l.length := by omega
      rw [List.take_succ_eq_append_getElem hx, bst_snoc]
      generalize l[k] = x
      have ih := ih (by omega)
      generalize l.take k = t at ih
      generalize bst f t = b at ih
      by_cases hc : (x.el && f x) = true
      · rcases ih with ⟨rfl, h2⟩ | ⟨h1, h2, h3⟩
        · have hp : 0 < x.p := by simp [VC.el] at hc; exact hc.1
          have ha : x.ahd VC.zero = true := ahd_yes.2 (Or.inl hp)
          have hs : stp f VC.zero x = x := by simp [stp, tkB, hc, ha]
          rw [hs]
          refine Or.inr ⟨by simp, hc, fun v hv hv2 => ?_⟩
          simp only [List.mem_append, List.mem_singleton] at hv
          rcases hv with hv | rfl
          · rw [h2 v hv] at hv2; cases hv2
          · simp [VC.ahd]
        · by_cases ha : x.ahd b = true
          · have hs : stp f b x = x := by simp [stp, tkB, hc, ha]
            rw [hs]
            refine Or.inr ⟨by simp, hc, fun v hv hv2 => ?_⟩
            simp only [List.mem_append, List.mem_singleton] at hv
            rcases hv with hv | rfl
            · have h4 := h3 v hv hv2
              rw [ahd_no] at h4 ⊢
              rw [ahd_yes] at ha
              omega
            · simp [VC.ahd]
          · have ha : x.ahd b = false := by simpa using ha
            have hs : stp f b x = b := by simp [stp, tkB, ha]
            rw [hs]
            refine Or.inr ⟨by simp [h1], h2, fun v hv hv2 => ?_⟩
            simp only [List.mem_append, List.mem_singleton] at hv
            rcases hv with hv | rfl
            · exact h3 v hv hv2
            · exact ha
      · have hc : (x.el && f x) = false := by simpa using hc
        have hs : stp f b x = b := by simp [stp, tkB, hc]
        rw [hs]
        rcases ih with ⟨h1, h2⟩ | ⟨h1, h2, h3⟩
        · refine Or.inl ⟨h1, fun v hv => ?_⟩
          simp only [List.mem_append, List.mem_singleton] at hv
          rcases hv with hv | rfl
          · exact h2 v hv
          · exact hc
        · refine Or.inr ⟨by simp [h1], h2, fun v hv hv2 => ?_⟩
          simp only [List.mem_append, List.mem_singleton] at hv
          rcases hv with hv | rfl
          · exact h3 v hv hv2
          · rw [hc] at hv2; cases hv2
  have := key l.length (Nat.le_refl _)
  rwa [List.take_length] at this
theorem bst_none {f : VC → Bool} {l : List VC} (h : ∀ v ∈ l, (v.el && f v) = false) : bst f l = VC.zero := by
  rcases bst_spec f l with ⟨h1, _⟩ | ⟨h1, h2, _⟩
  · exact h1
  · rw [h _ h1] at h2; cases h2
theorem bst_some {f : VC → Bool} {l : List VC} {v : VC} (hv : v ∈ l) (hc : (v.el && f v) = true) : (bst f l) ∈ l ∧ ((bst f l).el && f (bst f l)) = true := by
  rcases bst_spec f l with ⟨_, h2⟩ | ⟨h1, h2, _⟩
  · rw [h2 v hv] at hc; cases hc
  · exact ⟨h1, h2⟩
theorem is_ad {v : VC} {a : Int} (h : v.is a = true) : v.ad ≠ 0 ∧ v.ad = a := by
  simp [VC.is] at h
  exact h
/-- The best of those of whom each has an address: 0 just if none counts. -/
theorem bst_ad {f : VC → Bool} {l : List VC} (hf : ∀ v ∈ l, (v.el && f v) = true → v.ad ≠ 0) : (bst f l).ad = 0 ↔ ∀ v ∈ l, (v.el && f v) = false := by
  rcases bst_spec f l with ⟨h1, h2⟩ | ⟨h1, h2, _⟩
  · rw [h1]; exact ⟨fun _ => h2, fun _ => rfl⟩
  · refine ⟨fun h => absurd h (hf _ h1 h2), fun h => ?_⟩
    rw [h _ h1] at h2; cases h2
theorem ch_ad {v : VC} (h : v.ch = true) : v.ad ≠ 0 := (is_ad h).1
theorem fB_ad {v : VC} (h : fB v = true) : v.ad ≠ 0 := by simp [fB] at h; exact (is_ad h.2).1
/-- The document's way: is there one? -/
def anyB (f : VC → Bool) (l : List VC) : Bool := l.any fun v => v.el && f v
theorem anyB_false {f : VC → Bool} {l : List VC} : anyB f l = false ↔ ∀ v ∈ l, (v.el && f v) = false := by
  unfold anyB
  rw [List.any_eq_false]
  constructor
  · intro h v hv; have := h v hv; simpa using this
  · intro h v hv; have := h v hv; simp [this]
theorem anyB_fB (l : List VC) : anyB fB l = false ↔ (bst fB l).ad = 0 := by
  rw [anyB_false, bst_ad]
  intro v _ h
  simp only [Bool.and_eq_true] at h
  exact fB_ad h.2
theorem anyB_ch (l : List VC) : anyB VC.ch l = false ↔ (bst VC.ch l).ad = 0 := by
  rw [anyB_false, bst_ad]
  intro v _ h
  simp only [Bool.and_eq_true] at h
  exact ch_ad h.2
theorem onB_doc (l : List VC) : onB l = if anyB fB l = true then (bst fB l).ad else (bst fR l).ad := by
  unfold onB
  have := anyB_fB l
  by_cases h : anyB fB l = true
  · rw [if_pos h, if_neg (fun e => by rw [this.2 e] at h; cases h)]
  · rw [if_neg h, if_pos (this.1 (by simpa using h))]
theorem onD_doc (l : List VC) : onD l = if anyB VC.ch l = true then (bst VC.ch l).ad else onB l := by
  unfold onD
  have := anyB_ch l
  by_cases h : anyB VC.ch l = true
  · rw [if_pos h, if_neg (fun e => by rw [this.2 e] at h; cases h)]
  · rw [if_neg h, if_pos (this.1 (by simpa using h))]

/-- Someone is designated just if someone may be. -/
theorem on_some {l : List VC} (hl : ∀ v ∈ l, v.ad ≠ 0) : (onD l ≠ 0 ↔ ∃ v ∈ l, v.el = true) ∧ ((∀ v ∈ l, v.el = false) → onB l = 0) := by
  have hB := bst_ad (f := fB) (l := l) (fun v hv _ => hl v hv)
  have hR := bst_ad (f := fR) (l := l) (fun v hv _ => hl v hv)
  have hC := bst_ad (f := VC.ch) (l := l) (fun v hv _ => hl v hv)
  refine ⟨⟨fun h => ?_, fun ⟨v, hv, he⟩ => ?_⟩, fun h => ?_⟩
  · rcases Classical.em (∃ v ∈ l, v.el = true) with h1 | h1
    · exact h1
    · exfalso
      have h2 : ∀ v ∈ l, v.el = false := fun v hv => by
        cases he : v.el
        · rfl
        · exact absurd ⟨v, hv, he⟩ h1
      apply h
      unfold onD onB
      rw [if_pos (hC.2 (fun v hv => by simp [h2 v hv])), if_pos (hB.2 (fun v hv => by simp [h2 v hv]))]
      exact hR.2 (fun v hv => by simp [h2 v hv])
  · intro h0
    unfold onD onB at h0
    by_cases h1 : (bst VC.ch l).ad = 0
    · rw [if_pos h1] at h0
      have h2 := hC.1 h1 v hv
      have h3 : v.ch = false := by simpa [he] using h2
      have h4 : (v.el && fR v) = true := by simp [he, fR, h3]
      by_cases h5 : (bst fB l).ad = 0
      · rw [if_pos h5] at h0
        have := hR.1 h0 v hv
        rw [h4] at this; cases this
      · rw [if_neg h5] at h0
        exact h5 h0
    · rw [if_neg h1] at h0
      exact h1 h0
  · unfold onB
    rw [if_pos (hB.2 (fun v hv => by simp [h v hv]))]
    exact hR.2 (fun v hv => by simp [h v hv])
theorem aft_ad (s : VC) (d b : Int) : (s.aft d b).ad = s.ad := rfl
theorem aft_el (s : VC) (d b : Int) : (s.aft d b).el = s.el := rfl
theorem elL_cases (s : VC) (l : List VC) : (elL s l = s :: l) ∨ elL s l = s.aft (onD (s :: l)) (onB (s :: l)) :: l := by
  unfold elL
  split
  · exact Or.inl rfl
  · exact Or.inr rfl
theorem el_some {s : VC} {l : List VC} (hs : s.ad ≠ 0) (hl : ∀ v ∈ l, v.ad ≠ 0) : (elD s l ≠ 0 ↔ (s.el = true ∨ ∃ v ∈ l, v.el = true)) ∧ ((s.el = false ∧ ∀ v ∈ l, v.el = false) → elB s l = 0) := by
  unfold elD elB
  have go : ∀ x : VC, x.ad = s.ad → x.el = s.el → (onD (x :: l) ≠ 0 ↔ (s.el = true ∨ ∃ v ∈ l, v.el = true)) ∧ ((s.el = false ∧ ∀ v ∈ l, v.el = false) → onB (x :: l) = 0) := by
    intro x hx he
    have h := on_some (l := x :: l) (by
      intro v hv
      rcases List.mem_cons.1 hv with rfl | hv
      · rw [hx]; exact hs
      · exact hl v hv)
    refine ⟨h.1.trans ?_, fun ⟨h1, h2⟩ => h.2 (by
      intro v hv
      rcases List.mem_cons.1 hv with rfl | hv
      · rw [he]; exact h1
      · exact h2 v hv)⟩
    simp only [List.mem_cons, exists_eq_or_imp, he]
  rcases elL_cases s l with h | h
  · rw [h]; exact go s rfl rfl
  · rw [h]; exact go _ rfl rfl

/-- Unlike addresses, one alone is designated by its own word: it is. -/
theorem on_stays {l : List VC} {c : VC} (hc : c ∈ l) (he : (c.el && c.ch) = true) (h1 : ∀ v ∈ l, (v.el && v.ch) = true → v = c) (hu : ∀ v ∈ l, v.ad = c.ad → v = c) (hn : ∀ v ∈ l, v.ad ≠ 0) : onD l = c.ad ∧ onB l ≠ c.ad := by
  have hb := bst_some (f := VC.ch) hc he
  have hbc := h1 _ hb.1 hb.2
  have hd : onD l = c.ad := by
    unfold onD
    rw [hbc, if_neg (hn c hc)]
  refine ⟨hd, ?_⟩
  have hcc : c.ch = true := by simp at he; exact he.2
  have go : ∀ f : VC → Bool, (∀ v, f v = true → v.ch = false) → (bst f l).ad ≠ c.ad := by
    intro f hf e
    rcases bst_spec f l with ⟨h2, _⟩ | ⟨h2, h3, _⟩
    · rw [h2] at e; exact hn c hc e.symm
    · have := hu _ h2 e
      rw [this] at h3
      simp only [Bool.and_eq_true] at h3
      have := hf c h3.2
      rw [hcc] at this; cases this
  unfold onB
  split
  · exact go fR (fun v h => by simpa [fR] using h)
  · exact go fB (fun v h => by simp [fB] at h; exact h.1)
theorem aft_ch (s : VC) (d b : Int) : (s.aft d b).ch = s.is d := by
  unfold VC.ch VC.aft
  by_cases h : s.is d = true
  · rw [if_pos h, h]
    have := is_ad h
    simp [VC.is, this.1]
  · have h' : s.is d = false := by simpa using h
    rw [if_neg h, h']
    simp [VC.is]
/-- .. of an election too. -/
theorem el_stays {s : VC} {l : List VC} {c : VC} (hc : c ∈ s :: l) (he : (c.el && c.ch) = true) (h1 : ∀ v ∈ s :: l, (v.el && v.ch) = true → v = c) (hu : (s :: l).Pairwise (fun a b => a.ad ≠ b.ad)) (hn : ∀ v ∈ s :: l, v.ad ≠ 0) : elD s l = c.ad ∧ elB s l ≠ c.ad := by
  have hu' : ∀ v ∈ s :: l, ∀ u ∈ s :: l, v.ad = u.ad → v = u := by
    intro v hv u hu2 e
    rcases Classical.em (v = u) with h | h
    · exact h
    · exfalso
      obtain ⟨i, hi, rfl⟩ := List.getElem_of_mem hv
      obtain ⟨j, hj, rfl⟩ := List.getElem_of_mem hu2
      rcases Nat.lt_trichotomy i j with hij | hij | hij
      · exact (List.pairwise_iff_getElem.1 hu i j hi hj hij) e
      · subst hij; exact h rfl
      · exact (List.pairwise_iff_getElem.1 hu j i hj hi hij) e.symm
  have hO := on_stays hc he h1 (fun v hv e => hu' v hv c hc e) hn
  unfold elD elB
  rcases elL_cases s l with h | h
  · rw [h]; exact hO
  · rw [h, hO.1]
    generalize onB (s :: l) = B
    have hsn := hn s (by simp)
    rcases List.mem_cons.1 hc with rfl | hcl
    · refine on_stays (c := c.aft c.ad B) (by simp) ?_ ?_ ?_ ?_
      · have : c.is c.ad = true := by simp [VC.is, hsn]
        rw [aft_el, aft_ch, this]
        simp at he ⊢
        exact he.1
      · intro v hv hv2
        rcases List.mem_cons.1 hv with rfl | hv
        · rfl
        · have hvc := h1 v (by simp [hv]) hv2
          exfalso
          exact (List.pairwise_cons.1 hu).1 v hv (by rw [hvc])
      · intro v hv e
        rcases List.mem_cons.1 hv with rfl | hv
        · rfl
        · exfalso
          exact (List.pairwise_cons.1 hu).1 v hv e.symm
      · intro v hv
        rcases List.mem_cons.1 hv with rfl | hv
        · exact hsn
        · exact hn v (by simp [hv])
    · have hsc : s.ad ≠ c.ad := (List.pairwise_cons.1 hu).1 c hcl
      have his : s.is c.ad = false := by simp [VC.is, hsc]
      refine on_stays (c := c) (by simp [hcl]) he ?_ ?_ ?_
      · intro v hv hv2
        rcases List.mem_cons.1 hv with rfl | hv
        · rw [aft_ch, his] at hv2
          simp at hv2
        · exact h1 v (by simp [hv]) hv2
      · intro v hv e
        rcases List.mem_cons.1 hv with rfl | hv
        · exact absurd e hsc
        · exact hu' v (by simp [hv]) c hc e
      · intro v hv
        rcases List.mem_cons.1 hv with rfl | hv
        · exact hsn
        · exact hn v (by simp [hv])

/-- Unlike routers: the best hangs on who is there alone. -/
theorem bst_mem {f : VC → Bool} {l l' : List VC} (hm : ∀ v, v ∈ l ↔ v ∈ l') (hu : ∀ v ∈ l, ∀ u ∈ l, v.r = u.r → v = u) : bst f l = bst f l' := by
  rcases bst_spec f l with ⟨h1, h2⟩ | ⟨h1, h2, h3⟩
  · rw [h1, bst_none (fun v hv => h2 v ((hm v).2 hv))]
  · rcases bst_spec f l' with ⟨g1, g2⟩ | ⟨g1, g2, g3⟩
    · rw [g2 _ ((hm _).1 h1)] at h2; cases h2
    · have a := h3 _ ((hm _).2 g1) g2
      have b := g3 _ ((hm _).1 h1) h2
      refine hu _ h1 _ ((hm _).2 g1) ?_
      rw [ahd_no] at a b
      omega
theorem on_mem {l l' : List VC} (hm : ∀ v, v ∈ l ↔ v ∈ l') (hu : ∀ v ∈ l, ∀ u ∈ l, v.r = u.r → v = u) : onD l = onD l' ∧ onB l = onB l' := by
  unfold onD onB
  rw [bst_mem (f := VC.ch) hm hu, bst_mem (f := fB) hm hu, bst_mem (f := fR) hm hu]
  exact ⟨rfl, rfl⟩
theorem el_mem {s : VC} {l l' : List VC} (hm : ∀ v, v ∈ l ↔ v ∈ l') (hu : ∀ v ∈ l, ∀ u ∈ l, v.r = u.r → v = u) (hs : ∀ v ∈ l, v.r ≠ s.r) : elD s l = elD s l' ∧ elB s l = elB s l' := by
  have go : ∀ x : VC, x.r = s.r → onD (x :: l) = onD (x :: l') ∧ onB (x :: l) = onB (x :: l') := by
    intro x hx
    refine on_mem (fun v => by simp [hm v]) ?_
    intro v hv u hu2 e
    rcases List.mem_cons.1 hv with h1 | h1
    · rcases List.mem_cons.1 hu2 with h2 | h2
      · rw [h1, h2]
      · rw [h1] at e
        exact absurd (e.symm.trans hx) (hs u h2)
    · rcases List.mem_cons.1 hu2 with h2 | h2
      · rw [h2] at e
        exact absurd (e.trans hx) (hs v h1)
      · exact hu v h1 u h2 e
  have h0 := go s rfl
  unfold elD elB elL
  rw [h0.1, h0.2]
  split
  · exact h0
  · exact go _ rfl
theorem pair_r {l : List VC} (h : l.Pairwise (fun a b => a.r ≠ b.r)) : ∀ v ∈ l, ∀ u ∈ l, v.r = u.r → v = u := by
  intro v hv u hu2 e
  obtain ⟨i, hi, rfl⟩ := List.getElem_of_mem hv
  obtain ⟨j, hj, rfl⟩ := List.getElem_of_mem hu2
  rcases Nat.lt_trichotomy i j with hij | hij | hij
  · exact absurd e (List.pairwise_iff_getElem.1 h i j hi hj hij)
  · subst hij; rfl
  · exact absurd e.symm (List.pairwise_iff_getElem.1 h j i hj hi hij)
end Go.Proofs.Ytcmkhhdjhemmbaa
