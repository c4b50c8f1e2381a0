/- The small graph that each statement of layer 16 looks at. -/
import Derived.Test.YtjffcflhbnmjmaaGreatRefSta2
import Derived.Test.YtjffcflhbnmjmaaGreatRefEnc2
import Derived.Test.YtjffcflhbnmjmaaGreatOwnUn
import Derived.Test.YtjffcflhbnmjmaaGreatGrCp
namespace Go.Proofs.YtjffcflhbnmjmaaGreat
open Go.RowKit
set_option linter.unusedVariables false
set_option maxRecDepth 100000

def hvA : HV := ⟨0, 0, 1, 1, 1, 1, 0, 0⟩
def hvB : HV := ⟨0, 0, 1, 2, 2, 1, 0, 0⟩
def hvN : HV := ⟨0, 0, 2, 167772162, 2, 1, 0, 0⟩
def bvA : BV := ⟨0, [⟨167772162, 167772161, 2, 3⟩], 0, [], 0, false, 0, 0, []⟩
def bvB : BV := ⟨0, [⟨167772162, 167772162, 2, 5⟩], 0, [], 0, false, 0, 0, []⟩
def bvN : BV := ⟨0, [], 4294967040, [2, 1], 0, false, 0, 0, []⟩
/-- A head and a body that may be. -/
structure HB (h : HV) (b : BV) : Prop where
  oh : h.All
  ok : b.Ok
  kn : knownB h.typ = true
  may : mayB h.typ b = true
  size : sizeB h.typ b ≤ 65515
  n1 : b.links.length ≤ 8192
  n2 : b.routers.length ≤ 32768
  n3 : b.data.length ≤ 131072
  typ : h.typ = 1 ∨ h.typ = 2
  age : h.age = 0
  seq : h.seq = 1
  self : h.typ = 1 → h.id = h.adv ∧ h.id ≠ 0
theorem okA : ∀ x ∈ bvA.links, x.Ok := by
  intro x hx
  simp [bvA] at hx
  subst hx
  exact ⟨by decide, by decide, by decide, by decide⟩
theorem okB : ∀ x ∈ bvB.links, x.Ok := by
  intro x hx
  simp [bvB] at hx
  subst hx
  exact ⟨by decide, by decide, by decide, by decide⟩
theorem hbA : HB hvA bvA := ⟨⟨by decide, by decide, by decide, by decide, by decide, by decide, by decide, by decide⟩, ⟨by decide, okA, by decide, by simp [bvA], by decide, by decide, by decide, by simp [bvA]⟩, rfl, by decide, by decide, by decide, by decide, by decide, Or.inl rfl, rfl, rfl, fun _ => by decide⟩
theorem hbB : HB hvB bvB := ⟨⟨by decide, by decide, by decide, by decide, by decide, by decide, by decide, by decide⟩, ⟨by decide, okB, by decide, by simp [bvB], by decide, by decide, by decide, by simp [bvB]⟩, rfl, by decide, by decide, by decide, by decide, by decide, Or.inl rfl, rfl, rfl, fun _ => by decide⟩
theorem hbN : HB hvN bvN := ⟨⟨by decide, by decide, by decide, by decide, by decide, by decide, by decide, by decide⟩, ⟨by decide, by simp [bvN], by decide, by simp [bvN], by decide, by decide, by decide, by simp [bvN]⟩, rfl, by decide, by decide, by decide, by decide, by decide, Or.inr rfl, rfl, rfl, fun h => by cases h⟩
theorem HB.chk {h : HV} {b : BV} (H : HB h b) : chkE (sealH h (layB h.typ b)) (layB h.typ b) = 0 := by
  have hl : (layB h.typ b).length ≤ 65515 := by have h1 := length_layB h.typ b; have h2 := H.size; omega
  have h1 := chk_age H.ok ⟨H.kn, H.may, hl⟩ h.age
  rw [if_neg (by rw [H.age, H.seq]; decide)] at h1
  exact h1
theorem HB.cnt {h : HV} {b : BV} (H : HB h b) : cntB (sealH h (layB h.typ b)) (layB h.typ b) = true := by
  unfold cntB
  refine decide_eq_true ⟨H.typ, ?_, H.self, H.chk⟩
  show h.age % 32768 < 3600
  rw [H.age]
  decide
theorem HB.dec {h : HV} {b : BV} (H : HB h b) : decB h.typ (layB h.typ b) = some b := decB_layB H.ok ((mayB_iff _ _).1 H.may)
theorem HB.bytes {h : HV} {b : BV} (H : HB h b) : (∀ z ∈ layB h.typ b, 0 ≤ z ∧ z < 256) ∧ (layB h.typ b).length ≤ 65515 := ⟨dlayB_byte h.typ b H.ok, by have h1 := length_layB h.typ b; have h2 := H.size; omega⟩
def seA (v : Value) : SE := ⟨sealH hvA (layB 1 bvA), v, layB 1 bvA⟩
def seB (v : Value) : SE := ⟨sealH hvB (layB 1 bvB), v, layB 1 bvB⟩
def seN (v : Value) : SE := ⟨sealH hvN (layB 2 bvN), v, layB 2 bvN⟩
/-- The nodes of the three. -/
def P3 : List SV := [⟨sealH hvA (layB 1 bvA), bvA⟩, ⟨sealH hvB (layB 1 bvB), bvB⟩, ⟨sealH hvN (layB 2 bvN), bvN⟩]
theorem SV.lt_asymm {x y : SV} (h : x.lt y) : ¬ y.lt x := by unfold SV.lt at *; omega
theorem lt_unique : ∀ {l l' : List SV}, l.Pairwise SV.lt → l'.Pairwise SV.lt → l.Perm l' → l = l'
  | [], l', _, _, p => (List.nil_perm.1 p).symm
  | x :: l, [], _, _, p => by have := p.length_eq; simp at this
  | x :: l, y :: l', h, h', p => by
    rw [List.pairwise_cons] at h h'
    have e : x = y := by
      rcases List.mem_cons.1 (p.mem_iff.1 (List.mem_cons_self)) with e | e
      · exact e
      · rcases List.mem_cons.1 (p.mem_iff.2 (List.mem_cons_self)) with e2 | e2
        · exact e2.symm
        · exact absurd (h'.1 x e) (SV.lt_asymm (h.1 y e2))
    subst e
    rw [lt_unique h.2 h'.2 ((List.perm_cons x).1 p)]
theorem bests_three (va vb vn : Value) : bests [seN vn, seB vb, seA va] = [seN vn, seB vb, seA va] := by
  have cN : cntB (seN vn).h (seN vn).rs = true := hbN.cnt
  have cB : cntB (seB vb).h (seB vb).rs = true := hbB.cnt
  have cA : cntB (seA va).h (seA va).rs = true := hbA.cnt
  have p1 : plAt [] (seN vn).h.pl = none := rfl
  have p2 : plAt [seN vn] (seB vb).h.pl = none := rfl
  have p3 : plAt [seN vn, seB vb] (seA va).h.pl = none := rfl
  unfold bests
  rw [List.foldl_cons, List.foldl_cons, List.foldl_cons, List.foldl_nil]
  have e1 : putS [] (seN vn) = [seN vn] := by unfold putS; rw [if_pos cN, p1, List.nil_append]
  have e2 : putS [seN vn] (seB vb) = [seN vn, seB vb] := by unfold putS; rw [if_pos cB, p2, List.cons_append, List.nil_append]
  rw [e1, e2]
  unfold putS
  rw [if_pos cA, p3, List.cons_append, List.cons_append, List.nil_append]
theorem isN_three {va vb vn : Value} {P : List SV} (h : IsN [seN vn, seB vb, seA va] P) : P = P3 := by
  have h1 := h.perm
  rw [bests_three] at h1
  refine lt_unique h.sort ?_ (h1.trans ?_)
  · unfold P3
    refine List.Pairwise.cons ?_ (List.Pairwise.cons ?_ (List.Pairwise.cons ?_ List.Pairwise.nil))
    · intro y hy
      rcases List.mem_cons.1 hy with rfl | hy
      · exact Or.inr ⟨rfl, by decide⟩
      · obtain rfl : y = _ := by simpa using hy
        exact Or.inl (by decide)
    · intro y hy
      obtain rfl : y = _ := by simpa using hy
      exact Or.inl (by decide)
    · intro y hy
      simp at hy
  · have eN : (seN vn).sv = ⟨sealH hvN (layB 2 bvN), bvN⟩ := by have : decB (seN vn).h.typ (seN vn).rs = some bvN := hbN.dec; unfold SE.sv; rw [this]; rfl
    have eB : (seB vb).sv = ⟨sealH hvB (layB 1 bvB), bvB⟩ := by have : decB (seB vb).h.typ (seB vb).rs = some bvB := hbB.dec; unfold SE.sv; rw [this]; rfl
    have eA : (seA va).sv = ⟨sealH hvA (layB 1 bvA), bvA⟩ := by have : decB (seA va).h.typ (seA va).rs = some bvA := hbA.dec; unfold SE.sv; rw [this]; rfl
    show [(seN vn).sv, (seB vb).sv, (seA va).sv].Perm P3
    rw [eN, eB, eA]
    unfold P3
    exact (List.Perm.swap _ _ _).trans ((List.Perm.cons _ (List.Perm.swap _ _ _)).trans (List.Perm.swap _ _ _))
/-- What is looked at of their graph. -/
theorem gr_three : (grB P3).map (fun n => (n.net, n.id, n.edges.map (·.dst))) = [(false, 1, [2]), (false, 2, [2]), (true, 167772162, [1, 0])] := by
  rfl
/-- The three states in memory. -/
structure TwoP (w : World) (e : Ending) (w' : World) : Prop where
  out : ∃ u va vb vn, e = .returned u ∧ StatesAt w' u [seN vn, seB vb, seA va]
  t : Touch (fun _ => False) w w'
set_option maxHeartbeats 4000000 in
theorem two_any (w : World) : Calls Tryz.prog 22 #[] w (TwoP w) := by
  have HA := fun w u (ha : BArg w bvA u (.slice none 0 0) (.slice none 0 0)) => rencode_ok hvA hbA.oh bvA hbA.ok u (.slice none 0 0) (.slice none 0 0) w ha hbA.n1 hbA.n2 hbA.n3 hbA.kn hbA.may hbA.size
  have HB := fun w u (ha : BArg w bvB u (.slice none 0 0) (.slice none 0 0)) => rencode_ok hvB hbB.oh bvB hbB.ok u (.slice none 0 0) (.slice none 0 0) w ha hbB.n1 hbB.n2 hbB.n3 hbB.kn hbB.may hbB.size
  have HN := fun w u (ha : BArg w bvN (.slice none 0 0) u (.slice none 0 0)) => rencode_ok hvN hbN.oh bvN hbN.ok (.slice none 0 0) u (.slice none 0 0) w ha hbN.n1 hbN.n2 hbN.n3 hbN.kn hbN.may hbN.size
  have aA : ∀ w g, Row w g 94 [.int .u32 167772162, .int .u32 167772161, .int .u8 2, .int .u16 3] → BArg w bvA (.slice (some ⟨g, 0, none⟩) 1 1) (.slice none 0 0) (.slice none 0 0) := fun w g r => ⟨⟨rfl, Or.inr ⟨_, _, rfl, Nat.le_refl _, by unfold maxLen; omega, fun j u hj => by rw [add_plain, Nat.zero_add, r.cell j]; exact hj⟩⟩, ⟨rfl, Or.inl ⟨rfl, rfl⟩⟩, Or.inl ⟨rfl, rfl⟩⟩
  have aB : ∀ w g, Row w g 94 [.int .u32 167772162, .int .u32 167772162, .int .u8 2, .int .u16 5] → BArg w bvB (.slice (some ⟨g, 0, none⟩) 1 1) (.slice none 0 0) (.slice none 0 0) := fun w g r => ⟨⟨rfl, Or.inr ⟨_, _, rfl, Nat.le_refl _, by unfold maxLen; omega, fun j u hj => by rw [add_plain, Nat.zero_add, r.cell j]; exact hj⟩⟩, ⟨rfl, Or.inl ⟨rfl, rfl⟩⟩, Or.inl ⟨rfl, rfl⟩⟩
  have aN : ∀ w g, Row w g 23 [.int .u32 2, .int .u32 1] → BArg w bvN (.slice none 0 0) (.slice (some ⟨g, 0, none⟩) 2 2) (.slice none 0 0) := fun w g r => ⟨⟨rfl, Or.inl ⟨rfl, rfl⟩⟩, ⟨rfl, Or.inr ⟨_, _, rfl, Nat.le_refl _, by unfold maxLen; omega, fun j u hj => by rw [add_plain, Nat.zero_add, r.cell j]; exact hj⟩⟩, Or.inl ⟨rfl, rfl⟩⟩
  have fA : Hid (∀ w' v, ArgAt w' v (layB 1 bvA) → (seA v).Ok w') := fun w' v h => ⟨seal_all hbA.oh hbA.bytes.2, h, hbA.bytes.1⟩
  have fB : Hid (∀ w' v, ArgAt w' v (layB 1 bvB) → (seB v).Ok w') := fun w' v h => ⟨seal_all hbB.oh hbB.bytes.2, h, hbB.bytes.1⟩
  have fN : Hid (∀ w' v, ArgAt w' v (layB 2 bvN) → (seN v).Ok w') := fun w' v h => ⟨seal_all hbN.oh hbN.bytes.2, h, hbN.bytes.1⟩
  have gA : Hid (∀ v, (seA v).cells = [.int .u16 (sealH hvA (layB 1 bvA)).age, .int .u8 (sealH hvA (layB 1 bvA)).opts, .int .u8 (sealH hvA (layB 1 bvA)).typ, .int .u32 (sealH hvA (layB 1 bvA)).id, .int .u32 (sealH hvA (layB 1 bvA)).adv, .int .i32 (sealH hvA (layB 1 bvA)).seq, .int .u16 (sealH hvA (layB 1 bvA)).sum, .int .u16 (sealH hvA (layB 1 bvA)).len, v]) := fun _ => rfl
  have gB : Hid (∀ v, (seB v).cells = [.int .u16 (sealH hvB (layB 1 bvB)).age, .int .u8 (sealH hvB (layB 1 bvB)).opts, .int .u8 (sealH hvB (layB 1 bvB)).typ, .int .u32 (sealH hvB (layB 1 bvB)).id, .int .u32 (sealH hvB (layB 1 bvB)).adv, .int .i32 (sealH hvB (layB 1 bvB)).seq, .int .u16 (sealH hvB (layB 1 bvB)).sum, .int .u16 (sealH hvB (layB 1 bvB)).len, v]) := fun _ => rfl
  have gN : Hid (∀ v, (seN v).cells = [.int .u16 (sealH hvN (layB 2 bvN)).age, .int .u8 (sealH hvN (layB 2 bvN)).opts, .int .u8 (sealH hvN (layB 2 bvN)).typ, .int .u32 (sealH hvN (layB 2 bvN)).id, .int .u32 (sealH hvN (layB 2 bvN)).adv, .int .i32 (sealH hvN (layB 2 bvN)).seq, .int .u16 (sealH hvN (layB 2 bvN)).sum, .int .u16 (sealH hvN (layB 2 bvN)).len, v]) := fun _ => rfl
  have tA : hvA.typ = 1 := rfl
  have tB : hvB.typ = 1 := rfl
  have tN : hvN.typ = 2 := rfl
  rw [tA] at HA
  rw [tB] at HB
  rw [tN] at HN
  clear tA tB tN
  generalize hsA : sealH hvA (layB 1 bvA) = sA at *
  generalize hsB : sealH hvB (layB 1 bvB) = sB at *
  generalize hsN : sealH hvN (layB 2 bvN) = sN at *
  generalize hlA : layB 1 bvA = lA at *
  generalize hlB : layB 1 bvB = lB at *
  generalize hlN : layB 2 bvN = lN at *
  unfold hvA HV.v bvA BV.v HV.sv at HA
  unfold hvB HV.v bvB BV.v HV.sv at HB
  unfold hvN HV.v bvN BV.v HV.sv at HN
  unfold bvA at aA
  unfold bvB at aB
  unfold bvN at aN
  clear hsA hsB hsN hlA hlB hlN
  go_enter Tryz.func22, Tryz.ntmps22
  go_wp2_with fail
  refine (HA _ _ (aA _ _ (row_new w _ _))).mono ?_
  rintro e w1 ⟨uA, rfl, bA⟩
  obtain ⟨xa, xc, rfl⟩ := bA.form
  have TA : Hid (Touch (fun _ => False) w w1) := ((Touch.refl _ _).alloc _).trans bA.t
  have ARA : Hid (ArgAt w1 (.slice xa lA.length xc) lA) := bA.arg
  clear bA HA aA
  go_wp2_with fail
  have RA : Row (w1.alloc (.cells #[.int .u16 sA.age, .int .u8 sA.opts, .int .u8 sA.typ, .int .u32 sA.id, .int .u32 sA.adv, .int .i32 sA.seq, .int .u16 sA.sum, .int .u16 sA.len, .slice xa lA.length xc] 52)) w1.heap.size 52 [.int .u16 sA.age, .int .u8 sA.opts, .int .u8 sA.typ, .int .u32 sA.id, .int .u32 sA.adv, .int .i32 sA.seq, .int .u16 sA.sum, .int .u16 sA.len, .slice xa lA.length xc] := row_new _ _ _
  have t1 : Touch (fun _ => False) w1 ((w1.alloc (.cells #[.int .u16 sA.age, .int .u8 sA.opts, .int .u8 sA.typ, .int .u32 sA.id, .int .u32 sA.adv, .int .i32 sA.seq, .int .u16 sA.sum, .int .u16 sA.len, .slice xa lA.length xc] 52)).alloc (.cells #[.int .u32 167772162, .int .u32 167772162, .int .u8 2, .int .u16 5] 94)) := ((Touch.refl _ _).alloc _).alloc _
  have RLB : Row ((w1.alloc (.cells #[.int .u16 sA.age, .int .u8 sA.opts, .int .u8 sA.typ, .int .u32 sA.id, .int .u32 sA.adv, .int .i32 sA.seq, .int .u16 sA.sum, .int .u16 sA.len, .slice xa lA.length xc] 52)).alloc (.cells #[.int .u32 167772162, .int .u32 167772162, .int .u8 2, .int .u16 5] 94)) (w1.heap.size + 1) 94 [.int .u32 167772162, .int .u32 167772162, .int .u8 2, .int .u16 5] := by
    have := row_new (w1.alloc (.cells #[.int .u16 sA.age, .int .u8 sA.opts, .int .u8 sA.typ, .int .u32 sA.id, .int .u32 sA.adv, .int .i32 sA.seq, .int .u16 sA.sum, .int .u16 sA.len, .slice xa lA.length xc] 52)) 94 #[.int .u32 167772162, .int .u32 167772162, .int .u8 2, .int .u16 5]
    rw [World.size_alloc] at this
    exact this
  refine (HB _ _ (aB _ _ RLB)).mono ?_
  rintro e w2 ⟨uB, rfl, bB⟩
  obtain ⟨ya, yc, rfl⟩ := bB.form
  have HRA : Hid (Row w2 w1.heap.size 52 [.int .u16 sA.age, .int .u8 sA.opts, .int .u8 sA.typ, .int .u32 sA.id, .int .u32 sA.adv, .int .i32 sA.seq, .int .u16 sA.sum, .int .u16 sA.len, .slice xa lA.length xc]) := (RA.keep ((Touch.refl _ _).alloc _)).keep bB.t
  have T12 : Hid (Touch (fun _ => False) w1 w2) := t1.trans bB.t
  have ARB : Hid (ArgAt w2 (.slice ya lB.length yc) lB) := bB.arg
  clear bB HB aB RLB RA t1
  go_wp2_with fail
  have RB : Row (w2.alloc (.cells #[.int .u16 sB.age, .int .u8 sB.opts, .int .u8 sB.typ, .int .u32 sB.id, .int .u32 sB.adv, .int .i32 sB.seq, .int .u16 sB.sum, .int .u16 sB.len, .slice ya lB.length yc] 52)) w2.heap.size 52 [.int .u16 sB.age, .int .u8 sB.opts, .int .u8 sB.typ, .int .u32 sB.id, .int .u32 sB.adv, .int .i32 sB.seq, .int .u16 sB.sum, .int .u16 sB.len, .slice ya lB.length yc] := row_new _ _ _
  have t2 : Touch (fun _ => False) w2 ((w2.alloc (.cells #[.int .u16 sB.age, .int .u8 sB.opts, .int .u8 sB.typ, .int .u32 sB.id, .int .u32 sB.adv, .int .i32 sB.seq, .int .u16 sB.sum, .int .u16 sB.len, .slice ya lB.length yc] 52)).alloc (.cells #[.int .u32 2, .int .u32 1] 23)) := ((Touch.refl _ _).alloc _).alloc _
  have RLN : Row ((w2.alloc (.cells #[.int .u16 sB.age, .int .u8 sB.opts, .int .u8 sB.typ, .int .u32 sB.id, .int .u32 sB.adv, .int .i32 sB.seq, .int .u16 sB.sum, .int .u16 sB.len, .slice ya lB.length yc] 52)).alloc (.cells #[.int .u32 2, .int .u32 1] 23)) (w2.heap.size + 1) 23 [.int .u32 2, .int .u32 1] := by
    have := row_new (w2.alloc (.cells #[.int .u16 sB.age, .int .u8 sB.opts, .int .u8 sB.typ, .int .u32 sB.id, .int .u32 sB.adv, .int .i32 sB.seq, .int .u16 sB.sum, .int .u16 sB.len, .slice ya lB.length yc] 52)) 23 #[.int .u32 2, .int .u32 1]
    rw [World.size_alloc] at this
    exact this
  refine (HN _ _ (aN _ _ RLN)).mono ?_
  rintro e w3 ⟨uN, rfl, bN⟩
  obtain ⟨za, zc, rfl⟩ := bN.form
  have T23 : Touch (fun _ => False) w2 w3 := t2.trans bN.t
  have ra := HRA.out.keep T23
  have rb := (RB.keep ((Touch.refl _ _).alloc _)).keep bN.t
  have ca0 : w3.cell? ⟨w1.heap.size, 0, none⟩ = some (.int .u16 sA.age) := ra.cell 0
  have ca1 : w3.cell? ⟨w1.heap.size, 1, none⟩ = some (.int .u8 sA.opts) := ra.cell 1
  have ca2 : w3.cell? ⟨w1.heap.size, 2, none⟩ = some (.int .u8 sA.typ) := ra.cell 2
  have ca3 : w3.cell? ⟨w1.heap.size, 3, none⟩ = some (.int .u32 sA.id) := ra.cell 3
  have ca4 : w3.cell? ⟨w1.heap.size, 4, none⟩ = some (.int .u32 sA.adv) := ra.cell 4
  have ca5 : w3.cell? ⟨w1.heap.size, 5, none⟩ = some (.int .i32 sA.seq) := ra.cell 5
  have ca6 : w3.cell? ⟨w1.heap.size, 6, none⟩ = some (.int .u16 sA.sum) := ra.cell 6
  have ca7 : w3.cell? ⟨w1.heap.size, 7, none⟩ = some (.int .u16 sA.len) := ra.cell 7
  have ca8 : w3.cell? ⟨w1.heap.size, 8, none⟩ = some (.slice xa lA.length xc) := ra.cell 8
  have cb0 : w3.cell? ⟨w2.heap.size, 0, none⟩ = some (.int .u16 sB.age) := rb.cell 0
  have cb1 : w3.cell? ⟨w2.heap.size, 1, none⟩ = some (.int .u8 sB.opts) := rb.cell 1
  have cb2 : w3.cell? ⟨w2.heap.size, 2, none⟩ = some (.int .u8 sB.typ) := rb.cell 2
  have cb3 : w3.cell? ⟨w2.heap.size, 3, none⟩ = some (.int .u32 sB.id) := rb.cell 3
  have cb4 : w3.cell? ⟨w2.heap.size, 4, none⟩ = some (.int .u32 sB.adv) := rb.cell 4
  have cb5 : w3.cell? ⟨w2.heap.size, 5, none⟩ = some (.int .i32 sB.seq) := rb.cell 5
  have cb6 : w3.cell? ⟨w2.heap.size, 6, none⟩ = some (.int .u16 sB.sum) := rb.cell 6
  have cb7 : w3.cell? ⟨w2.heap.size, 7, none⟩ = some (.int .u16 sB.len) := rb.cell 7
  have cb8 : w3.cell? ⟨w2.heap.size, 8, none⟩ = some (.slice ya lB.length yc) := rb.cell 8
  have la := ra.lt
  have lb := rb.lt
  have ARN : Hid (ArgAt w3 (.slice za lN.length zc) lN) := bN.arg
  have HT23 : Hid (Touch (fun _ => False) w2 w3) := T23
  clear bN HN aN RLN RB t2 T23 ra rb HRA
  go_wp2_with fail
  have TF : Touch (fun _ => False) w3 ((w3.alloc (.cells #[.int .u16 sN.age, .int .u8 sN.opts, .int .u8 sN.typ, .int .u32 sN.id, .int .u32 sN.adv, .int .i32 sN.seq, .int .u16 sN.sum, .int .u16 sN.len, .slice za lN.length zc] 52)).alloc (.cells #[.int .u16 sN.age, .int .u8 sN.opts, .int .u8 sN.typ, .int .u32 sN.id, .int .u32 sN.adv, .int .i32 sN.seq, .int .u16 sN.sum, .int .u16 sN.len, .slice za lN.length zc, .int .u16 sB.age, .int .u8 sB.opts, .int .u8 sB.typ, .int .u32 sB.id, .int .u32 sB.adv, .int .i32 sB.seq, .int .u16 sB.sum, .int .u16 sB.len, .slice ya lB.length yc, .int .u16 sA.age, .int .u8 sA.opts, .int .u8 sA.typ, .int .u32 sA.id, .int .u32 sA.adv, .int .i32 sA.seq, .int .u16 sA.sum, .int .u16 sA.len, .slice xa lA.length xc] 52)) := ((Touch.refl _ _).alloc _).alloc _
  have RF : Row ((w3.alloc (.cells #[.int .u16 sN.age, .int .u8 sN.opts, .int .u8 sN.typ, .int .u32 sN.id, .int .u32 sN.adv, .int .i32 sN.seq, .int .u16 sN.sum, .int .u16 sN.len, .slice za lN.length zc] 52)).alloc (.cells #[.int .u16 sN.age, .int .u8 sN.opts, .int .u8 sN.typ, .int .u32 sN.id, .int .u32 sN.adv, .int .i32 sN.seq, .int .u16 sN.sum, .int .u16 sN.len, .slice za lN.length zc, .int .u16 sB.age, .int .u8 sB.opts, .int .u8 sB.typ, .int .u32 sB.id, .int .u32 sB.adv, .int .i32 sB.seq, .int .u16 sB.sum, .int .u16 sB.len, .slice ya lB.length yc, .int .u16 sA.age, .int .u8 sA.opts, .int .u8 sA.typ, .int .u32 sA.id, .int .u32 sA.adv, .int .i32 sA.seq, .int .u16 sA.sum, .int .u16 sA.len, .slice xa lA.length xc] 52)) (w3.heap.size + 1) 52 [.int .u16 sN.age, .int .u8 sN.opts, .int .u8 sN.typ, .int .u32 sN.id, .int .u32 sN.adv, .int .i32 sN.seq, .int .u16 sN.sum, .int .u16 sN.len, .slice za lN.length zc, .int .u16 sB.age, .int .u8 sB.opts, .int .u8 sB.typ, .int .u32 sB.id, .int .u32 sB.adv, .int .i32 sB.seq, .int .u16 sB.sum, .int .u16 sB.len, .slice ya lB.length yc, .int .u16 sA.age, .int .u8 sA.opts, .int .u8 sA.typ, .int .u32 sA.id, .int .u32 sA.adv, .int .i32 sA.seq, .int .u16 sA.sum, .int .u16 sA.len, .slice xa lA.length xc] := by
    have := row_new (w3.alloc (.cells #[.int .u16 sN.age, .int .u8 sN.opts, .int .u8 sN.typ, .int .u32 sN.id, .int .u32 sN.adv, .int .i32 sN.seq, .int .u16 sN.sum, .int .u16 sN.len, .slice za lN.length zc] 52)) 52 #[.int .u16 sN.age, .int .u8 sN.opts, .int .u8 sN.typ, .int .u32 sN.id, .int .u32 sN.adv, .int .i32 sN.seq, .int .u16 sN.sum, .int .u16 sN.len, .slice za lN.length zc, .int .u16 sB.age, .int .u8 sB.opts, .int .u8 sB.typ, .int .u32 sB.id, .int .u32 sB.adv, .int .i32 sB.seq, .int .u16 sB.sum, .int .u16 sB.len, .slice ya lB.length yc, .int .u16 sA.age, .int .u8 sA.opts, .int .u8 sA.typ, .int .u32 sA.id, .int .u32 sA.adv, .int .i32 sA.seq, .int .u16 sA.sum, .int .u16 sA.len, .slice xa lA.length xc]
    rw [World.size_alloc] at this
    exact this
  go_ret
  refine ⟨⟨_, .slice xa lA.length xc, .slice ya lB.length yc, .slice za lN.length zc, rfl, ⟨⟨rfl, Or.inr ⟨_, _, rfl, Nat.le_refl _, by unfold maxLen; omega, fun j u hj => ?_⟩⟩, fun x hx => ?_⟩⟩, ?_⟩
  · rw [add_plain, Nat.zero_add, RF.cell j]
    have e : statesC [seN (.slice za lN.length zc), seB (.slice ya lB.length yc), seA (.slice xa lA.length xc)] = [.int .u16 sN.age, .int .u8 sN.opts, .int .u8 sN.typ, .int .u32 sN.id, .int .u32 sN.adv, .int .i32 sN.seq, .int .u16 sN.sum, .int .u16 sN.len, .slice za lN.length zc, .int .u16 sB.age, .int .u8 sB.opts, .int .u8 sB.typ, .int .u32 sB.id, .int .u32 sB.adv, .int .i32 sB.seq, .int .u16 sB.sum, .int .u16 sB.len, .slice ya lB.length yc, .int .u16 sA.age, .int .u8 sA.opts, .int .u8 sA.typ, .int .u32 sA.id, .int .u32 sA.adv, .int .i32 sA.seq, .int .u16 sA.sum, .int .u16 sA.len, .slice xa lA.length xc] := by
      show (seN _).cells ++ ((seB _).cells ++ ((seA _).cells ++ [])) = _
      rw [gN.out, gB.out, gA.out]
      rfl
    rw [← e]
    exact hj
  · simp only [List.mem_cons, List.not_mem_nil, or_false] at hx
    rcases hx with rfl | rfl | rfl
    · exact fN.out _ _ (ARN.out.keepN TF)
    · exact fB.out _ _ ((ARB.out.keepN HT23.out).keepN TF)
    · exact fA.out _ _ (((ARA.out.keepN T12.out).keepN HT23.out).keepN TF)
  · exact ((TA.out.trans T12.out).trans HT23.out).trans TF
/-- The small run that every statement asks. -/
theorem three_nodes {D : List ND} (h : D.map ND.n = grB P3) : ∃ d0 d1 d2, D = [d0, d1, d2] ∧ d0.n.net = false ∧ d0.n.id = 1 ∧ d0.n.edges.map (·.dst) = [2] ∧ d1.n.net = false ∧ d1.n.id = 2 ∧ d2.n.net = true ∧ d2.n.id = 167772162 ∧ d2.n.edges.length = 2 := by
  have h1 := gr_three
  rw [← h, List.map_map] at h1
  match D, h1 with
  | [d0, d1, d2], h1 =>
    simp only [List.map_cons, List.map_nil, List.cons.injEq, Prod.mk.injEq, and_true, Function.comp] at h1
    obtain ⟨⟨a0, a1, a2⟩, ⟨b0, b1, -⟩, c0, c1, c2⟩ := h1
    exact ⟨d0, d1, d2, rfl, a0, a1, a2, b0, b1, c0, c1, by have := congrArg List.length c2; simpa using this⟩
  | [], h1 => simp at h1
  | [_], h1 => simp at h1
  | [_, _], h1 => simp at h1
  | _ :: _ :: _ :: _ :: _, h1 => simp at h1
set_option maxHeartbeats 4000000 in
theorem works16 (w : World) : Calls Tryz.prog 8 #[] w fun e w' => e = .returned (.bool true) ∧ Touch (fun _ => False) w w' := by
  have H2 := two_any w
  go_enter Tryz.func8, Tryz.ntmps8
  go_wp2_with fail
  refine H2.mono ?_
  rintro e w1 ⟨⟨u, va, vb, vn, rfl, hs⟩, t1⟩
  have HB := build_any u _ w1 hs (by simp) (fun x hx => by
    simp only [List.mem_cons, List.not_mem_nil, or_false] at hx
    have h1 := hbN.bytes.2
    have h2 := hbB.bytes.2
    have h3 := hbA.bytes.2
    rcases hx with rfl | rfl | rfl
    · exact Nat.le_trans h1 (by omega)
    · exact Nat.le_trans h2 (by omega)
    · exact Nat.le_trans h3 (by omega))
  obtain ⟨ua, uc, eu, -⟩ := ValsAt.form hs.vals
  subst eu
  have HT1 : Hid (Touch (fun _ => False) w w1) := t1
  clear hs t1 H2
  go_wp2_with fail
  refine HB.mono ?_
  rintro e w2 ⟨P, g, rfl, hN, hG⟩
  obtain rfl := isN_three hN
  obtain ⟨⟨D, hv, hD, hok⟩, t2⟩ := hG
  obtain ⟨d0, d1, d2, rfl, a0, a1, a2, b0, b1, c0, c1, c2⟩ := three_nodes hD
  have HF := fun w' b i (t : Touch (fun _ => False) w2 w') => find_any g [d0, d1, d2] b i w' (ValsAt.keep hv t) (fun d hd => (hok d hd).touch t (fun _ _ h => h)) (by simp)
  have f1 : findI ([d0, d1, d2].map ND.n) true 167772162 = 2 := by
    show findI [d0.n, d1.n, d2.n] true 167772162 = 2
    unfold findI findI findI
    rw [a0, b0, c0, c1]
    rfl
  have f2 : findI ([d0, d1, d2].map ND.n) false 9 = -1 := by
    show findI [d0.n, d1.n, d2.n] false 9 = -1
    unfold findI findI findI findI
    rw [a0, b0, c0, a1, b1]
    rfl
  have HF1 := fun w' t => HF w' true 167772162 t
  have HF2 := fun w' t => HF w' false 9 t
  rw [f1] at HF1
  rw [f2] at HF2
  obtain ⟨gg, off, gc, rfl, hc0⟩ := nodes_one hv (j := 0) (d := d0) rfl
  obtain ⟨gg', off', gc', eg, hc2⟩ := nodes_one hv (j := 2) (d := d2) rfl
  simp only [Value.slice.injEq, Option.some.injEq, Addr.mk.injEq, true_and, and_true] at eg
  obtain ⟨⟨rfl, rfl⟩, rfl⟩ := eg
  obtain ⟨e0, ec0, s0, sc0, ee0, es0⟩ := (hok d0 (by simp)).forms
  obtain ⟨e2, ec2, s2, sc2, ee2, es2⟩ := (hok d2 (by simp)).forms
  have hl0 : d0.n.edges.length = 1 := by have := congrArg List.length a2; simpa using this
  obtain ⟨x0, hx0⟩ : ∃ x, d0.n.edges = [x] := List.length_eq_one_iff.1 hl0
  have hx2 : x0.dst = 2 := by rw [hx0] at a2; simpa using a2
  obtain ⟨ge, oe, ece, eee, -, -, hec⟩ := ValsAt.cells (own_vals (hok d0 (by simp)).e) (by omega) (by omega)
  have q1 : w2.cell? ⟨gg, off + 1, none⟩ = some (.int .u32 1) := by rw [← a1]; exact hc0 1 _ rfl
  have q5 : w2.cell? ⟨gg, off + 5, none⟩ = some (.slice (some ⟨ge, oe, none⟩) 1 ece) := by
    have := hc0 5 _ rfl
    rw [eee, hl0] at this
    exact this
  have qe : w2.cell? ⟨ge, oe, none⟩ = some (.int .i64 2) := by
    have := hec 0 (.int .i64 (x0.dst : Int)) (by rw [hx0]; rfl)
    rw [hx2] at this
    exact this
  have q14 : w2.cell? ⟨gg, off + 14, none⟩ = some (.bool true) := by rw [← c0]; exact hc2 0 _ rfl
  have q19 : w2.cell? ⟨gg, off + 19, none⟩ = some (.slice e2 2 ec2) := by
    have := hc2 5 _ rfl
    rw [ee2, c2] at this
    exact this
  have lg := lt_of_cell q1
  have le := lt_of_cell qe
  have HT2 : Hid (Touch (fun _ => False) w1 w2) := t2
  clear hv hok hD a0 a1 a2 b0 b1 c0 c1 c2 f1 f2 hc0 hc2 ee0 es0 ee2 es2 hl0 hx0 hx2 eee hec t2 HB HF hN
  go_wp2_with fail
  refine (HF1 w2 (Touch.refl _ _)).mono ?_
  rintro e w3 ⟨rfl, t3⟩
  have HT3 : Hid (Touch (fun _ => False) w2 w3) := t3
  have HF2' := HF2 w3 t3
  clear HF1 HF2 t3 q1 q5 qe q14 q19 lg le
  go_wp2_with fail
  refine HF2'.mono ?_
  rintro e w4 ⟨rfl, t4⟩
  have HT4 : Hid (Touch (fun _ => False) w3 w4) := t4
  clear HF2' t4
  go_wp2_with fail
  go_ret
  exact ⟨rfl, ((HT1.out.trans HT2.out).trans HT3.out).trans HT4.out⟩
end Go.Proofs.YtjffcflhbnmjmaaGreat
