/- Package packet: write. -/
import Derived.Test.YtjjgbcjgmjggnaaGreatPkIs
import Derived.Test.YtjjgbcjgmjggnaaGreatSumWords3
import Derived.Test.YtjjgbcjgmjggnaaGreatPkSeal
import Derived.Test.YtjjgbcjgmjggnaaGreatPkUpd
import Derived.Deep.RegionHeld2
import Derived.Deep.MidRow
namespace Go.Proofs.YtjjgbcjgmjggnaaGreat
open Go.RowKit
set_option linter.unusedVariables false
set_option maxRecDepth 100000

/-- A packet's rows, as they came in. -/
structure PkAt (w : World) (C : PkC) (vn vd vk vs vh : Value) : Prop where
  n : WordsAt w vn C.nb
  d : HeadsAt w vd C.dh
  k : KeysAt w vk C.ks
  s : ∃ l, l.map SE.p = C.ss ∧ StatesAt w vs l
  h : HeadsAt w vh C.hs
theorem PkAt.keep {w w' : World} {C : PkC} {vn vd vk vs vh : Value} (h : PkAt w C vn vd vk vs vh) (t : Touch (fun _ => False) w w') : PkAt w' C vn vd vk vs vh := by
  obtain ⟨l, hl, hs⟩ := h.s
  exact ⟨h.n.keep t, ValsAt.keep h.d t, ValsAt.keep h.k t, ⟨l, hl, hs.keep t⟩, ValsAt.keep h.h t⟩
theorem PkAt.forms {w : World} {C : PkC} {vn vd vk vs vh : Value} (h : PkAt w C vn vd vk vs vh) : ∃ na nc da dc ka kc sa sc ha hc, vn = .slice na C.nb.length nc ∧ vd = .slice da C.dh.length dc ∧ vk = .slice ka C.ks.length kc ∧ vs = .slice sa C.ss.length sc ∧ vh = .slice ha C.hs.length hc := by
  obtain ⟨na, nc, e1, -⟩ := ValsAt.form h.n
  obtain ⟨da, dc, e2, -⟩ := ValsAt.form h.d
  obtain ⟨ka, kc, e3, -⟩ := ValsAt.form h.k
  obtain ⟨l, hl, hs⟩ := h.s
  obtain ⟨sa, sc, e4, -⟩ := ValsAt.form hs.vals
  obtain ⟨ha, hc, e5, -⟩ := ValsAt.form h.h
  exact ⟨na, nc, da, dc, ka, kc, sa, sc, ha, hc, e1, e2, e3, by rw [e4, ← hl, List.length_map], e5⟩
/-- Not too many. -/
structure PkC.Lt (C : PkC) : Prop where
  n : C.ss.length ≤ 1000000
  b : ∀ s ∈ C.ss, s.2.length ≤ 1000000
theorem pure_alone (C : PkC) : pureB C.P.typ (hasHb C.P C.nb.length) (hasDb C.P C.dh.length) (posB C.ks.length) (posB C.ss.length) (posB C.hs.length) = true ↔ PAlone C := by
  rw [pureB_iff]
  have hl : ∀ {α : Type} (l : List α), posB l.length = true ↔ l ≠ [] := by
    intro α l
    cases l <;> simp [posB]
  have e1 : hasHb C.P C.nb.length = hasH C := rfl
  have e2 : hasDb C.P C.dh.length = hasD C := rfl
  rw [e1, e2]
  constructor
  · intro h
    refine ⟨fun ne => ?_, fun ne => ?_, fun ne => ?_, fun ne => ?_, fun ne => ?_⟩
    · exact Bool.eq_false_iff.2 (fun g => ne (h 1 (by omega) g).symm)
    · exact Bool.eq_false_iff.2 (fun g => ne (h 2 (by omega) g).symm)
    · exact Decidable.byContradiction (fun g => ne (h 3 (by omega) ((hl C.ks).2 g)).symm)
    · exact Decidable.byContradiction (fun g => ne (h 4 (by omega) ((hl C.ss).2 g)).symm)
    · exact Decidable.byContradiction (fun g => ne (h 5 (by omega) ((hl C.hs).2 g)).symm)
  · intro h k hk hh
    refine Decidable.byContradiction (fun g => ?_)
    obtain rfl | rfl | rfl | rfl | rfl | rfl : k = 0 ∨ k = 1 ∨ k = 2 ∨ k = 3 ∨ k = 4 ∨ k = 5 := by omega
    · cases hh
    · have := h.h (fun e => g e.symm); change hasH C = true at hh; rw [this] at hh; cases hh
    · have := h.d (fun e => g e.symm); change hasD C = true at hh; rw [this] at hh; cases hh
    · exact (hl _).1 hh (h.k (fun e => g e.symm))
    · exact (hl _).1 hh (h.s (fun e => g e.symm))
    · exact (hl _).1 hh (h.a (fun e => g e.symm))
theorem any_meas (C : PkC) (l : List SE) (hl : l.map SE.p = C.ss) : (l.any fun x => mwB x.h.len x.rs.length) = !pmeas C := by
  unfold pmeas
  rw [← hl]
  clear hl
  induction l with
  | nil => rfl
  | cons x r ih =>
    rw [List.any_cons, ih, List.map_cons, List.all_cons, Bool.not_and]
    congr 1
/-- The writer of each type. -/
theorem pwtype (b : Nat) (C : PkC) (ok : C.Ok) (lt : C.Lt) (vn vd vk vs vh : Value) (w0 : World) (hp : PkAt w0 C vn vd vk vs vh) (L : List Int) (hL : L.length ≤ 24) (ht : 1 ≤ C.P.typ ∧ C.P.typ ≤ 5) : ∃ f : Nat,
    (∀ w, (Instr.index 117 (.agg #[.nilFunc, .func (.func 93) #[.agg #[.pointer (some ⟨b, 0, none⟩)]] #[], .func (.func 94) #[.agg #[.pointer (some ⟨b, 0, none⟩)]] #[], .func (.func 95) #[.agg #[.pointer (some ⟨b, 0, none⟩)]] #[], .func (.func 96) #[.agg #[.pointer (some ⟨b, 0, none⟩)]] #[], .func (.func 97) #[.agg #[.pointer (some ⟨b, 0, none⟩)]] #[]]) (.int .u8 C.P.typ)).run Tryz.prog w = .ok (.func (.func f) #[.agg #[.pointer (some ⟨b, 0, none⟩)]] #[]) w) ∧ (∀ args w, (callFunc f args).run Tryz.prog w = .ok (.enter f args) w) ∧
    ∀ (X : Nat → Prop) (w : World), Wr X w b L 65535 → Touch (fun _ => False) w0 w → (∀ i, i < w0.heap.size → X i) → Calls Tryz.prog f #[.agg #[.pointer (some ⟨b, 0, none⟩)], C.P.v vn vd vk vs vh] w fun e w' => PW X w b L (pbodyB C) e w' := by
  have hk : ∀ {X : Nat → Prop} {w w' : World}, Touch (fun _ => False) w0 w → (∀ i, i < w0.heap.size → X i) → Kept X w w' → PkAt w' C vn vd vk vs vh := fun t hX k => hp.keep (k.after t hX)
  obtain h1 | h2 | h3 | h4 | h5 : C.P.typ = 1 ∨ C.P.typ = 2 ∨ C.P.typ = 3 ∨ C.P.typ = 4 ∨ C.P.typ = 5 := by omega
  · refine ⟨93, fun w => pwparts_at b w _ _ (by omega), fun _ _ => rfl, fun X w hw t hX => ?_⟩
    have := pwhello_any X b L C.P ok.P vn vd vk vs vh w hw hL C.nb (fun w' k => (hk t hX k).n) ok.nb
    unfold pbodyB
    rw [if_pos h1]
    exact this
  · refine ⟨94, fun w => pwparts_at b w _ _ (by omega), fun _ _ => rfl, fun X w hw t hX => ?_⟩
    have := pwdesc_any X b L C.P ok.P vn vd vk vs vh w hw hL C.dh (fun w' k => (hk t hX k).d) ok.dh
    unfold pbodyB
    rw [if_neg (by omega), if_pos h2]
    exact this
  · refine ⟨95, fun w => pwparts_at b w _ _ (by omega), fun _ _ => rfl, fun X w hw t hX => ?_⟩
    have := pwreq_any X b L C.P ok.P vn vd vk vs vh w hw (by omega) C.ks (fun w' k => (hk t hX k).k) ok.ks
    unfold pbodyB
    rw [if_neg (by omega), if_neg (by omega), if_pos h3]
    exact this
  · refine ⟨96, fun w => pwparts_at b w _ _ (by omega), fun _ _ => rfl, fun X w hw t hX => ?_⟩
    obtain ⟨l, hl, hs⟩ := hp.s
    have := pwupd_any X b L C.P ok.P vn vd vk vs vh w hw hL l (fun w' k => hs.keep (k.after t hX)) (by have := lt.n; rw [← hl, List.length_map] at this; exact this) (fun x hx => lt.b x.p (by rw [← hl]; exact List.mem_map_of_mem hx))
    unfold pbodyB
    rw [if_neg (by omega), if_neg (by omega), if_neg (by omega), if_pos h4, ← hl, List.length_map, stsP_of]
    exact this
  · refine ⟨97, fun w => pwparts_at b w _ _ (by omega), fun _ _ => rfl, fun X w hw t hX => ?_⟩
    have := pwack_any X b L C.P ok.P vn vd vk vs vh w hw (by omega) C.hs (fun w' k => (hk t hX k).h) ok.hs
    unfold pbodyB
    rw [if_neg (by omega), if_neg (by omega), if_neg (by omega), if_neg (by omega)]
    exact this
end Go.Proofs.YtjjgbcjgmjggnaaGreat

namespace Go.Proofs.YtjjgbcjgmjggnaaGreat
open Go.RowKit
set_option linter.unusedVariables false
set_option maxRecDepth 100000

theorem headB_bt (h : HV) (ok : h.All) : ∀ z ∈ headB h, 0 ≤ z ∧ z < 256 := by
  intro z hz
  unfold headB at hz
  simp only [List.mem_append] at hz
  rcases hz with (((((hz | hz) | hz) | hz) | hz) | hz) | hz
  · exact numBytes_byte _ _ z hz
  · simp only [List.mem_cons, List.not_mem_nil, or_false] at hz
    rcases hz with rfl | rfl
    · exact ok.o
    · exact ok.t
  all_goals exact numBytes_byte _ _ z hz
theorem flat_bt {α : Type} (f : α → List Int) (l : List α) (h : ∀ x ∈ l, ∀ z ∈ f x, 0 ≤ z ∧ z < 256) : ∀ z ∈ l.flatMap f, 0 ≤ z ∧ z < 256 := by
  intro z hz
  obtain ⟨x, hx, hz⟩ := List.mem_flatMap.1 hz
  exact h x hx z hz
theorem app_bt {a b : List Int} (ha : ∀ z ∈ a, 0 ≤ z ∧ z < 256) (hb : ∀ z ∈ b, 0 ≤ z ∧ z < 256) : ∀ z ∈ a ++ b, 0 ≤ z ∧ z < 256 := by
  intro z hz
  rcases List.mem_append.1 hz with hz | hz
  · exact ha z hz
  · exact hb z hz
theorem two_bt {a b : Int} (ha : 0 ≤ a ∧ a < 256) (hb : 0 ≤ b ∧ b < 256) : ∀ z ∈ [a, b], 0 ≤ z ∧ z < 256 := by
  intro z hz
  simp only [List.mem_cons, List.not_mem_nil, or_false] at hz
  rcases hz with rfl | rfl
  · exact ha
  · exact hb
theorem data_bt (A : AuV) (oa : A.Ok) : ∀ z ∈ A.data, 0 ≤ z ∧ z < 256 := by
  intro z hz
  simp only [AuV.data, List.mem_cons, List.not_mem_nil, or_false] at hz
  rcases hz with rfl | rfl | rfl | rfl | rfl | rfl | rfl | rfl
  · exact oa.d0
  · exact oa.d1
  · exact oa.d2
  · exact oa.d3
  · exact oa.d4
  · exact oa.d5
  · exact oa.d6
  · exact oa.d7
theorem phead_bt (P : PV) (ok : P.Ok) (A : AuV) (oa : A.Ok) : ∀ z ∈ pheadB P A, 0 ≤ z ∧ z < 256 := by
  unfold pheadB
  exact app_bt (app_bt (app_bt (app_bt (app_bt (app_bt (two_bt (by omega) ok.typ) (numBytes_byte _ _)) (numBytes_byte _ _)) (numBytes_byte _ _)) (numBytes_byte _ _)) (numBytes_byte _ _)) (data_bt A oa)
theorem length_pheadB (P : PV) (A : AuV) : (pheadB P A).length = 24 := by simp [pheadB, numBytes, AuV.data]
theorem pbody_bt (C : PkC) (ok : C.Ok) : ∀ z ∈ pbodyB C, 0 ≤ z ∧ z < 256 := by
  unfold pbodyB
  split
  · unfold helloB wordsB
    exact app_bt (app_bt (app_bt (app_bt (app_bt (app_bt (numBytes_byte _ _) (numBytes_byte _ _)) (two_bt ok.P.opts ok.P.prio)) (numBytes_byte _ _)) (numBytes_byte _ _)) (numBytes_byte _ _)) (flat_bt _ _ (fun x _ => numBytes_byte _ _))
  · split
    · unfold descB headsB
      exact app_bt (app_bt (app_bt (numBytes_byte _ _) (two_bt ok.P.dopts ok.P.dflags)) (numBytes_byte _ _)) (flat_bt _ _ (fun x hx => headB_bt x (ok.dh x hx)))
    · split
      · unfold keysB keyB
        exact flat_bt _ _ (fun x _ => app_bt (app_bt (numBytes_byte _ _) (numBytes_byte _ _)) (numBytes_byte _ _))
      · split
        · unfold stsP stP
          exact app_bt (numBytes_byte _ _) (flat_bt _ _ (fun x hx => app_bt (headB_bt x.1 (ok.sh x hx)) (ok.sb x hx)))
        · unfold headsB
          exact flat_bt _ _ (fun x hx => headB_bt x (ok.hs x hx))
/-- What write and Encode's inner function leave. -/
structure PEnd (C : PkC) (A : AuV) (w : World) (e : Ending) (w' : World) : Prop where
  out : (pencE C A = 0 ∧ ∃ v, e = .returned v ∧ Buf w w' v (pencB C A)) ∨ (pencE C A ≠ 0 ∧ e = .panicked (pflawC (pencE C A)) ∧ Touch (fun _ => False) w w')
theorem pend_bad {C : PkC} {A : AuV} {w w' : World} {n : Int} (he : pencE C A = n) (hn : n ≠ 0) (t : Touch (fun _ => False) w w') : PEnd C A w (.panicked (pflawC n)) w' := by
  subst he
  exact ⟨Or.inr ⟨hn, rfl, t⟩⟩
theorem pencE_21 {C : PkC} {A : AuV} (h : ¬ (1 ≤ C.P.typ ∧ C.P.typ ≤ 5)) : pencE C A = 21 := by unfold pencE; rw [if_pos h]
theorem pencE_24 {C : PkC} {A : AuV} (h : 1 ≤ C.P.typ ∧ C.P.typ ≤ 5) (h2 : ¬ PAlone C) : pencE C A = 24 := by unfold pencE; rw [if_neg (fun g => g h), if_pos h2]
theorem pencE_22 {C : PkC} {A : AuV} (h : 1 ≤ C.P.typ ∧ C.P.typ ≤ 5) (h2 : PAlone C) (h3 : pmeas C = false) : pencE C A = 22 := by unfold pencE; rw [if_neg (fun g => g h), if_neg (fun g => g h2), if_pos h3]
theorem pencE_25 {C : PkC} {A : AuV} (h : 1 ≤ C.P.typ ∧ C.P.typ ≤ 5) (h2 : PAlone C) (h3 : pmeas C = true) (h4 : 2 < A.kind) : pencE C A = 25 := by unfold pencE; rw [if_neg (fun g => g h), if_neg (fun g => g h2), if_neg (by rw [h3]; simp), if_pos h4]
theorem pencE_11 {C : PkC} {A : AuV} (h : 1 ≤ C.P.typ ∧ C.P.typ ≤ 5) (h2 : PAlone C) (h3 : pmeas C = true) (h4 : ¬ 2 < A.kind) (h5 : 65535 < 24 + (pbodyB C).length) : pencE C A = 11 := by unfold pencE; rw [if_neg (fun g => g h), if_neg (fun g => g h2), if_neg (by rw [h3]; simp), if_neg h4, if_pos h5]
theorem pend_good {C : PkC} {A : AuV} {w w' : World} {v : Value} (h : PEnc C A) (b : Buf w w' v (sealedB A.kind (pheadB C.P A ++ pbodyB C))) : PEnd C A w (.returned v) w' := by
  refine ⟨Or.inl ⟨h.zero, v, rfl, ?_⟩⟩
  unfold pencB
  rw [if_pos h.zero]
  exact b
theorem Pd.range {w : World} {g : Nat} {P : PV} {vn vd vk vs vh : Value} (k : Pd w g P vn vd vk vs vh) : w.rangeAt g 0 [.int .u8 P.typ, .int .u32 P.router, .int .u32 P.area, .int .u32 P.mask, .int .u16 P.iv, .int .u8 P.opts, .int .u8 P.prio, .int .u32 P.dead, .int .u32 P.dr, .int .u32 P.bdr, vn, .int .u16 P.mtu, .int .u8 P.dopts, .int .u8 P.dflags, .int .u32 P.dseq, vd, vk, vs, vh] := by
  intro j v hj
  match j, hj with
  | 0, h => cases h; exact k.c0
  | 1, h => cases h; exact k.c1
  | 2, h => cases h; exact k.c2
  | 3, h => cases h; exact k.c3
  | 4, h => cases h; exact k.c4
  | 5, h => cases h; exact k.c5
  | 6, h => cases h; exact k.c6
  | 7, h => cases h; exact k.c7
  | 8, h => cases h; exact k.c8
  | 9, h => cases h; exact k.c9
  | 10, h => cases h; exact k.c10
  | 11, h => cases h; exact k.c11
  | 12, h => cases h; exact k.c12
  | 13, h => cases h; exact k.c13
  | 14, h => cases h; exact k.c14
  | 15, h => cases h; exact k.c15
  | 16, h => cases h; exact k.c16
  | 17, h => cases h; exact k.c17
  | 18, h => cases h; exact k.c18
  | j + 19, h => simp at h
theorem Ad.range {w : World} {g : Nat} {A : AuV} (k : Ad w g A) : w.rangeAt g 0 [.int .u16 A.kind, .int .u8 A.d0, .int .u8 A.d1, .int .u8 A.d2, .int .u8 A.d3, .int .u8 A.d4, .int .u8 A.d5, .int .u8 A.d6, .int .u8 A.d7] := by
  intro j v hj
  match j, hj with
  | 0, h => cases h; exact k.c0
  | 1, h => cases h; exact k.c1
  | 2, h => cases h; exact k.c2
  | 3, h => cases h; exact k.c3
  | 4, h => cases h; exact k.c4
  | 5, h => cases h; exact k.c5
  | 6, h => cases h; exact k.c6
  | 7, h => cases h; exact k.c7
  | 8, h => cases h; exact k.c8
  | j + 9, h => simp at h
end Go.Proofs.YtjjgbcjgmjggnaaGreat
