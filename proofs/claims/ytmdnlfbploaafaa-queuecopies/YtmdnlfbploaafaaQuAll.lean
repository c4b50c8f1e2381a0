
/- All the entries of a queue, in their order. -/
import Derived.Test.YtmdnlfbploaafaaQuShelf
import Derived.Test.YtmdnlfbploaafaaQuClone
namespace Go.Proofs.Ytmdnlfbploaafaa
open Go.RowKit Go.Shelf Go.Lib Go.Sort
set_option linter.unusedVariables false
set_option maxRecDepth 100000

/-- An entry as three numbers. -/
def toT (e : En) : Int × Int × Int := (e.a, e.r, e.k)
def ofT (x : Int × Int × Int) : En := ⟨x.1, x.2.1, x.2.2⟩
theorem of_to (e : En) : ofT (toT e) = e := rfl
theorem map_of_to (l : List En) : (l.map toT).map ofT = l := by rw [List.map_map]; exact List.map_id' l
def csT (x : Int × Int × Int) : List Value := [.int .i64 x.1, .int .i64 x.2.1, .int .u64 x.2.2]
def cT (x y : Int × Int × Int) : Int := cE (ofT x) (ofT y)
theorem lt_cT (x y : Int × Int × Int) : ltOf cT x y = true ↔ (ofT x).lt (ofT y) := by
  unfold ltOf
  rw [decide_eq_true_iff]
  exact cE_neg _ _
theorem nlt_cT (x y : Int × Int × Int) : ltOf cT x y = false ↔ ¬ (ofT x).lt (ofT y) := by
  rw [← lt_cT]
  simp
theorem swo_cT : SWO (ltOf cT) where
  irrefl x := (nlt_cT x x).2 (lt_irrefl' _)
  trans x y z h1 h2 := by rw [lt_cT] at *; unfold En.lt at *; omega
  ntrans x y z h1 h2 := by rw [nlt_cT] at *; unfold En.lt at *; omega

theorem grow3 (w : World) (a b c : Obj) : ((w.alloc a).alloc b).alloc c = grow w #[a, b, c] := by
  rw [alloc_eq_grow, alloc_eq_grow, alloc_eq_grow, grow_grow, grow_grow]
  rfl
set_option maxHeartbeats 1000000 in
theorem compare_grow (x y : En) (w : World) :
    Calls Try.prog 31 #[.agg x.cs.toArray, .agg y.cs.toArray] w fun e w' => e = .returned (.int .i64 (cE x y)) ∧ ∃ q os', w' = grow (w.drewN q) os' := by
  have HE : Hid (cE x y = fstI (cmpI x.a y.a) (fstI (cmpI x.r y.r) (cmpI x.k y.k))) := rfl
  generalize cE x y = z at HE ⊢
  obtain ⟨x0, x1, x2⟩ := x
  obtain ⟨y0, y1, y2⟩ := y
  show Calls Try.prog 31 #[.agg #[.int .i64 x0, .int .i64 x1, .int .u64 x2], .agg #[.int .i64 y0, .int .i64 y1, .int .u64 y2]] w _
  go_enter Try.func31, Try.ntmps31
  go_wp2_with fail
  go_region_held3 (fun w' => w'.cell? ⟨w.heap.size, 0, none⟩ = some (.int .i64 x0) ∧ w'.cell? ⟨w.heap.size, 1, none⟩ = some (.int .i64 x1) ∧ w'.cell? ⟨w.heap.size, 2, none⟩ = some (.int .u64 x2) ∧ w'.cell? ⟨w.heap.size + 1, 0, none⟩ = some (.int .i64 y0) ∧ w'.cell? ⟨w.heap.size + 1, 1, none⟩ = some (.int .i64 y1) ∧ w'.cell? ⟨w.heap.size + 1, 2, none⟩ = some (.int .u64 y2)) (go_keep) (first
    | (go_at_call 41; refine (cmpi_any _ _ _).mono ?_; rintro e w1 ⟨rfl, rfl⟩)
    | (go_at_call 42; refine (cmpu64_any _ _ _).mono ?_; rintro e w2 ⟨rfl, rfl⟩)
    | (go_at_call 40; refine (or_three _ _ _ _ _ z HE.out _ (by simp [go_sem]) (by simp [go_sem]) (by simp [go_sem])).mono ?_; rintro e w5 ⟨rfl, rfl⟩))
  go_wp2_with fail
  go_ret
  exact ⟨rfl, 1, _, grow3 (w.drewN 1) _ _ _⟩

/-- Sorted: no later one is ahead of an earlier one. -/
def SortedE (l : List En) : Prop := l.Pairwise (fun x y => x.le y)
theorem sorted_one : ∀ {l l' : List En}, SortedE l → SortedE l' → l.Perm l' → l = l'
  | [], l', _, _, p => (List.nil_perm.1 p).symm
  | x :: l, [], _, _, p => by have := p.length_eq; simp at this
  | x :: l, y :: l', h, h', p => by
    unfold SortedE at h h'
    rw [List.pairwise_cons] at h h'
    have e : x = y := by
      rcases List.mem_cons.1 (p.mem_iff.1 (List.mem_cons_self)) with e | e
      · exact e
      · rcases List.mem_cons.1 (p.mem_iff.2 (List.mem_cons_self)) with e2 | e2
        · exact e2.symm
        · exact le_antisymm' (h.1 y e2) (h'.1 x e)
    subst e
    rw [sorted_one h.2 h'.2 ((List.perm_cons x).1 p)]

theorem touch_grow (w : World) (os : Array Obj) : Touch (fun _ => False) w (grow w os) :=
  ⟨rfl, rfl, rfl, by simp [grow], fun k hk _ => by simp [grow, Array.getElem?_append_left hk]⟩
theorem touch_put (w : World) (m blk off : Nat) (d : Array (Int × Int × Int)) : Touch (fun k => k = blk) w (putRowK csT 3 (Sort.ahead w m) blk off d) := by
  unfold putRowK putRow mapBlock
  exact ⟨rfl, rfl, rfl, by simp [Sort.ahead], fun k hk hn => by simp [Sort.ahead, Array.getElem?_modify, Ne.symm hn]⟩

theorem gt_arr {L : List En} {i : Nat} (h : i < L.length) : (L.map toT).toArray[i]! = toT (gt L i) := by
  rw [gt_get h]
  simp [h]
theorem RE.holds {w : World} {g c : Nat} {l : List En} {n : Nat} (h : RE w (.slice (some ⟨g, 0, none⟩) n c) l) : HoldsK csT 3 w g 0 (l.map toT).toArray := by
  intro j hj
  rw [size_flatK] at hj
  have hj' : j < l.length * 3 := by simpa using hj
  have hi : j / 3 < l.length := by omega
  obtain ⟨x0, x1, x2⟩ := h.cells hi
  refine ⟨?_, h.fz _⟩
  rw [get_flatK _ _ _ _ hj, gt_arr hi, Nat.zero_add]
  rcases (by omega : j % 3 = 0 ∨ j % 3 = 1 ∨ j % 3 = 2) with e | e | e
  · have e2 : j = j / 3 * 3 := by omega
    rw [e]
    conv => lhs; rw [e2]
    exact x0
  · have e2 : j = j / 3 * 3 + 1 := by omega
    rw [e]
    conv => lhs; rw [e2]
    exact x1
  · have e2 : j = j / 3 * 3 + 2 := by omega
    rw [e]
    conv => lhs; rw [e2]
    exact x2
/-- A row that was sorted. -/
structure SortP (w : World) (g : Nat) (l : List En) (e : Ending) (w' : World) : Prop where
  e : e = .returned (.tuple #[])
  out : ∃ L, L.Perm l ∧ SortedE L ∧ HoldsK csT 3 w' g 0 (L.map toT).toArray
  t : Touch (fun k => k = g) w w'
theorem sort_any (w : World) (g cap : Nat) (l : List En) (h : RE w (.slice (some ⟨g, 0, none⟩) l.length cap) l) (hl : l.length ≤ 2000000) :
    Calls Try.prog 30 #[.slice (some ⟨g, 0, none⟩) l.length cap, .func (.func 31) #[] #[]] w (SortP w g l) := by
  have eg : ∀ args w, (callFunc 31 args).run Try.prog w = .ok (.enter 31 args) w := enters_of Try.func31 (by kernel_rfl) rfl
  have hH := h.holds
  have hg : g < w.heap.size := (World.ownsRow.lt h g rfl).2
  have hcon := AnyQ.slices_SortFunc sortEn 3 Try.isAgg41 Try.sizeOf41 csT (fun _ => rfl) (fun x v hv => by simp [csT] at hv; rcases hv with rfl | rfl | rfl <;> rfl) cT swo_cT 31 #[] g 0 cap (l.map toT).toArray w eg (fun _ _ _ _ x y => compare_grow (ofT x) (ofT y) _) hH hg (by simp; omega)
  have e1 : (l.map toT).toArray.size = l.length := by simp
  rw [e1] at hcon
  refine Calls.mono hcon ?_
  rintro e w' ⟨rfl, d', n, os, hp, hs, rfl⟩
  obtain ⟨hp1, -, hp3⟩ := hp
  have e2 : d'.size = l.length := by rw [hp1]; simp
  have p : d'.toList.Perm (l.map toT) := by
    have : d'.extract 0 l.length = d' := by rw [← e2]; simp
    rw [this] at hp3
    have h4 : d'.toList.Perm (List.take l.length (List.map toT l)) := by simpa using hp3
    rwa [List.take_of_length_le (by simp)] at h4
  have q : (d'.toList.map ofT).Perm l := by
    have := p.map ofT
    rwa [map_of_to] at this
  have et : (d'.toList.map ofT).map toT = d'.toList := by rw [List.map_map]; exact List.map_id' _
  refine ⟨rfl, ⟨d'.toList.map ofT, q, ?_, ?_⟩, ?_⟩
  · unfold SortedE
    rw [List.pairwise_map, List.pairwise_iff_getElem]
    intro i j hi hj hij
    have hj' : j < d'.size := by simpa using hj
    have hi' : i < d'.size := by simpa using hi
    have := (nlt_cT _ _).1 (hs i j (Nat.zero_le _) hij (by omega))
    rw [getElem!_pos d' j hj', getElem!_pos d' i hi'] at this
    simpa [En.le] using this
  · have h1 := holdsK_putRowK csT 3 (Sort.ahead w n) g 0 (l.map toT).toArray d' hH (by rw [e2]; simp)
    have h2 := holdsK_grow csT 3 _ os g 0 d' (by unfold putRowK putRow mapBlock; simpa [Sort.ahead] using hg) h1
    unfold sortWorldK
    rw [et]
    simpa using h2
  · exact (touch_put w n g 0 d').trans ((touch_grow _ os).mono (fun _ _ h => h.elim))

/-- A row of entries that may be read, and stored into. -/
structure AllV (w : World) (va : Value) (L : List En) : Prop where
  out : ∃ a cap, va = .slice a L.length cap ∧ (0 < L.length → ∃ g, a = some ⟨g, 0, none⟩ ∧ g < w.heap.size ∧ HoldsK csT 3 w g 0 (L.map toT).toArray)
/-- All of a queue. -/
structure AllP (w : World) (l : List En) (e : Ending) (w' : World) : Prop where
  out : ∃ va L, e = .returned va ∧ AllV w' va L ∧ L.Perm l ∧ SortedE L ∧ ∀ k, va.ownBlock = some k → w.heap.size ≤ k
  t : Touch (fun _ => False) w w'
set_option maxHeartbeats 1000000 in
theorem all_any (w : World) (b : Nat) (v : Value) (m : Nat) (most : Int) (l : List En) (h : QS w b v m most l) :
    Calls Try.prog 13 #[.pointer (some ⟨b, 0, none⟩)] w (AllP w l) := by
  obtain ⟨f, P, cv⟩ := h.out
  have HM := made_yes w b most h.c2 (by have := h.m1; omega)
  have c0 := P.c0
  have HC : Hid _ := clone_any w v l P.re P.hl
  have HL : Hid (l.length ≤ 2000000) := P.hl
  obtain ⟨a, c, rfl⟩ := P.re.shape
  clear P cv h
  go_enter Try.func13, Try.ntmps13
  go_wp2_with ((go_at_call 28; refine Calls.mono HM ?_; rintro e w1 ⟨rfl, rfl⟩))
  refine Calls.mono HC.out ?_
  rintro e w1 ⟨⟨vc, rfl, re, hk⟩, t1⟩
  have HK : Hid _ := hk
  have HT : Hid _ := t1
  clear hk t1 HC HM c0
  by_cases hl : l.length = 0
  · obtain ⟨a2, c2, rfl⟩ := re.shape
    have el : l = [] := List.length_eq_zero_iff.1 hl
    subst el
    go_wp2_with ((go_at_call 30; refine Calls.mono (AnyF.slices_SortFunc_none sortEn _ _ _ _) ?_; rintro e w2 ⟨rfl, rfl⟩))
    go_ret
    exact ⟨⟨_, [], rfl, ⟨_, _, rfl, fun h => by simp at h⟩, List.Perm.refl _, List.Pairwise.nil, HK.out⟩, HT.out⟩
  · obtain ⟨g, cap, rfl, hc, hg⟩ := re.form (by omega)
    have HS : Hid _ := sort_any w1 g cap l re HL.out
    clear re
    go_wp2_with ((go_at_call 30; refine Calls.mono HS.out ?_; rintro e w2 ⟨rfl, ⟨L, p, so, ho⟩, t2⟩))
    go_ret
    have hlen := p.length_eq
    refine ⟨⟨.slice (some ⟨g, 0, none⟩) l.length cap, L, rfl, ⟨some ⟨g, 0, none⟩, cap, by rw [hlen], fun _ => ⟨g, rfl, Nat.lt_of_lt_of_le hg t2.size, ho⟩⟩, p, so, fun k hk => HK.out k (by simpa [Value.ownBlock] using hk)⟩, ?_⟩
    exact HT.out.trans' t2 (fun i hi e => by have := HK.out g rfl; omega)
end Go.Proofs.Ytmdnlfbploaafaa
