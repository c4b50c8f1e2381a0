/- Pure: an area's link states as a graph. -/
import Derived.Test.YtjffcflhbnmjmaaGreatStRow0
import Derived.Test.YtjffcflhbnmjmaaGreatMaskBits
namespace Go.Proofs.YtjffcflhbnmjmaaGreat
open Go.RowKit
set_option linter.unusedVariables false
set_option maxRecDepth 100000

/-- An edge. -/
structure EV where
  dst : Nat
  cost : Int
  data : Int
  virt : Bool
/-- An edge as one end tells it. -/
structure CV where
  e : EV
  kind : Int
structure TV where
  addr : Int
  bits : Int
  cost : Int
/-- A node. -/
structure NV where
  net : Bool
  id : Int
  addr : Int
  bits : Int
  flags : Int
  edges : List EV
  stubs : List TV
/-- A link state that counts, and what it says. -/
structure SV where
  h : HV
  b : BV
def HV.pl (h : HV) : Bool × Int := (h.typ == 2, h.id)
def SV.pl (x : SV) : Bool × Int := x.h.pl
/-- The number of the first one of that place. -/
def atP (P : List SV) (p : Bool × Int) : Option Nat := P.findIdx? (fun x => x.pl == p)
def clm (P : List SV) (x : SV) (p : Bool × Int) (c : CV) : List CV :=
  match atP P p with
  | some i => if p = x.pl then [] else [⟨{ c.e with dst := i }, c.kind⟩]
  | none => []
def lnk (k : LV) : CV := ⟨⟨0, k.cost, k.data, k.typ == 4⟩, k.typ⟩
def rtr : CV := ⟨⟨0, 0, 0, false⟩, 2⟩
def clmL (P : List SV) (x : SV) (k : LV) : List CV :=
  if k.typ = 1 ∨ k.typ = 4 then clm P x (false, k.id) (lnk k) else if k.typ = 2 then clm P x (true, k.id) (lnk k) else []
def clms (P : List SV) (x : SV) : List CV := x.b.links.flatMap (clmL P x) ++ x.b.routers.flatMap (fun r => clm P x (false, r) rtr)
def backB (P : List SV) (i : Nat) (c : CV) : Bool :=
  match P[c.e.dst]? with
  | some y => (clms P y).any (fun d => d.e.dst == i && d.kind == c.kind)
  | none => false
def edgs (P : List SV) (i : Nat) (x : SV) : List EV := ((clms P x).filter (backB P i)).map (·.e)
def stubL (k : LV) : List TV := if k.typ = 3 ∧ pbok k.data = true then [⟨pcut k.id (pbn k.data), pbn k.data, k.cost⟩] else []
def stubs (x : SV) : List TV := x.b.links.flatMap stubL
def netA (x : SV) : Int := if x.h.typ = 2 then pcut x.h.id (pbn x.b.mask) else 0
def netB (x : SV) : Int := if x.h.typ = 2 then pbn x.b.mask else 0
def nodeV (x : SV) : NV := ⟨x.h.typ == 2, x.h.id, netA x, netB x, x.b.flags, [], stubs x⟩
/-- A node with its edges. -/
def nodeE (P : List SV) (i : Nat) (x : SV) : NV := { nodeV x with edges := edgs P i x }
def grB (P : List SV) : List NV := P.mapIdx (nodeE P)

/-- Does a link state count by itself? -/
def cntB (h : HV) (rs : List Int) : Bool := decide ((h.typ = 1 ∨ h.typ = 2) ∧ h.age % 32768 < 3600 ∧ (h.typ = 1 → h.id = h.adv ∧ h.id ≠ 0) ∧ chkE h rs = 0)
def plAt (l : List SE) (p : Bool × Int) : Option Nat := l.findIdx? (fun y => y.h.pl == p)
/-- One more is looked at. -/
def putS (l : List SE) (x : SE) : List SE :=
  if cntB x.h x.rs then
    match plAt l x.h.pl with
    | some j => if (l[j]?.any (fun y => decide (y.h.adv < x.h.adv))) then l.set j x else l
    | none => l ++ [x]
  else l
def bests (l : List SE) : List SE := l.foldl putS []
def SE.sv (s : SE) : SV := ⟨s.h, (decB s.h.typ s.rs).getD BV.zero⟩
def SV.lt (x y : SV) : Prop := x.h.typ < y.h.typ ∨ x.h.typ = y.h.typ ∧ x.h.id < y.h.id
/-- The nodes of a list: those that count, in order. -/
structure IsN (l : List SE) (P : List SV) : Prop where
  perm : P.Perm ((bests l).map SE.sv)
  sort : P.Pairwise SV.lt

theorem chk_dec {h : HV} {rs : List Int} (hc : chkE h rs = 0) : ∃ b, decB h.typ rs = some b ∧ h.len = 20 + (rs.length : Int) ∧ knownB h.typ = true := by
  unfold chkE at hc
  split at hc
  · omega
  · rename_i h1
    split at hc
    · omega
    · split at hc
      · omega
      · rename_i h3
        split at hc
        · omega
        · split at hc
          · omega
          · rename_i h5
            refine ⟨(decB h.typ rs).get (by cases e : decB h.typ rs <;> simp_all), by simp, by omega, by simpa using h3⟩

theorem bests_snoc (l : List SE) (x : SE) : bests (l ++ [x]) = putS (bests l) x := by simp [bests]
theorem plAt_some {l : List SE} {p : Bool × Int} {j : Nat} (h : plAt l p = some j) : ∃ y, l[j]? = some y ∧ y.h.pl = p ∧ j < l.length := by
  unfold plAt at h
  rw [List.findIdx?_eq_some_iff_getElem] at h
  obtain ⟨h1, h2, -⟩ := h
  exact ⟨l[j], by simp [h1], by simpa using h2, h1⟩
theorem plAt_none {l : List SE} {p : Bool × Int} (h : plAt l p = none) : ∀ y ∈ l, y.h.pl ≠ p := by
  unfold plAt at h
  rw [List.findIdx?_eq_none_iff] at h
  intro y hy e
  have := h y hy
  simp [e] at this
/-- All of a list: they are such as Q says, count, and no place stands twice. -/
structure AllS (Q : SE → Prop) (l : List SE) : Prop where
  all : ∀ y ∈ l, Q y ∧ cntB y.h y.rs = true
  nd : (l.map (fun y => y.h.pl)).Nodup
theorem putS_all {Q : SE → Prop} {l : List SE} (h : AllS Q l) {x : SE} (hx : Q x) : AllS Q (putS l x) := by
  obtain ⟨ih1, ih2⟩ := h
  unfold putS
  by_cases hc : cntB x.h x.rs = true
  · rw [if_pos hc]
    cases hp : plAt l x.h.pl with
    | none =>
      refine ⟨fun y hy => ?_, ?_⟩
      · rcases List.mem_append.1 hy with h | h
        · exact ih1 y h
        · obtain rfl : y = x := by simpa using h
          exact ⟨hx, hc⟩
      · rw [List.map_append, List.nodup_append]
        refine ⟨ih2, by simp, fun a ha b hb => ?_⟩
        obtain ⟨y, hy, rfl⟩ := List.mem_map.1 ha
        obtain rfl : b = x.h.pl := by simpa using hb
        exact plAt_none hp y hy
    | some j =>
      obtain ⟨y, hy, hpl, hj⟩ := plAt_some hp
      dsimp only
      split
      · refine ⟨fun z hz => ?_, ?_⟩
        · rcases List.mem_or_eq_of_mem_set hz with h | rfl
          · exact ih1 z h
          · exact ⟨hx, hc⟩
        · rw [List.map_set, ← hpl]
          have e : (l.map (fun y => y.h.pl)).set j y.h.pl = l.map (fun y => y.h.pl) := by
            apply List.ext_getElem?
            intro i
            rw [List.getElem?_set]
            split
            · rename_i hij
              subst hij
              rw [List.getElem?_map, hy]
              simp [hj]
            · rfl
          rw [e]
          exact ih2
      · exact ⟨ih1, ih2⟩
  · rw [if_neg hc]
    exact ⟨ih1, ih2⟩
theorem fold_all {Q : SE → Prop} : ∀ (l acc : List SE), AllS Q acc → (∀ x ∈ l, Q x) → AllS Q (l.foldl putS acc)
  | [], acc, h, _ => h
  | x :: l, acc, h, hq => fold_all l (putS acc x) (putS_all h (hq x (by simp))) (fun y hy => hq y (by simp [hy]))
theorem bests_all (l : List SE) : AllS (fun y => y ∈ l) (bests l) := fold_all l [] ⟨by simp, by simp⟩ (fun x hx => hx)
theorem putS_len (l : List SE) (x : SE) : (putS l x).length ≤ l.length + 1 := by
  unfold putS
  split
  · split
    · split <;> simp
    · simp
  · omega
theorem fold_len : ∀ (l acc : List SE), (l.foldl putS acc).length ≤ acc.length + l.length
  | [], acc => by simp
  | x :: l, acc => by
    have h1 := fold_len l (putS acc x)
    have h2 := putS_len acc x
    rw [List.foldl_cons, List.length_cons]
    omega
theorem bests_len (l : List SE) : (bests l).length ≤ l.length := by
  have := fold_len l []
  simpa [bests] using this
theorem cnt_parts {h : HV} {rs : List Int} (hc : cntB h rs = true) : (h.typ = 1 ∨ h.typ = 2) ∧ h.age % 32768 < 3600 ∧ (h.typ = 1 → h.id = h.adv ∧ h.id ≠ 0) ∧ chkE h rs = 0 := by
  unfold cntB at hc
  exact of_decide_eq_true hc

/-- Each of the nodes: of which type, and what its body may be. -/
structure SV.Fine (x : SV) : Prop where
  typ : x.h.typ = 1 ∨ x.h.typ = 2
  may : May x.h.typ x.b
theorem IsN.fine {l : List SE} {P : List SV} (h : IsN l P) : ∀ x ∈ P, x.Fine := by
  intro x hx
  have hx' := h.perm.mem_iff.1 hx
  obtain ⟨s, hs, rfl⟩ := List.mem_map.1 hx'
  obtain ⟨h1, h2, h3, h4⟩ := cnt_parts ((bests_all l).all s hs).2
  obtain ⟨b, hb, -, -⟩ := chk_dec h4
  refine ⟨h1, ?_⟩
  show May s.h.typ ((decB s.h.typ s.rs).getD BV.zero)
  rw [hb]
  exact (decB_some hb).2.1
theorem SV.lt_pl {x y : SV} (hx : x.Fine) (hy : y.Fine) (h : x.lt y) : x.pl ≠ y.pl := by
  intro e
  simp only [SV.pl, HV.pl, Prod.mk.injEq] at e
  obtain ⟨e1, e2⟩ := e
  rcases h with h | ⟨-, h⟩
  · rcases hx.typ with a | a <;> rcases hy.typ with b | b <;> simp_all
  · omega
theorem IsN.nodup {l : List SE} {P : List SV} (h : IsN l P) : (P.map SV.pl).Nodup := by
  rw [List.Nodup, List.pairwise_map]
  exact h.sort.imp_of_mem (fun {a b} ha hb hab => SV.lt_pl (h.fine a ha) (h.fine b hb) hab)

theorem atP_some {P : List SV} {p : Bool × Int} {j : Nat} (h : atP P p = some j) : ∃ y, P[j]? = some y ∧ y.pl = p ∧ j < P.length := by
  unfold atP at h
  rw [List.findIdx?_eq_some_iff_getElem] at h
  obtain ⟨h1, h2, -⟩ := h
  exact ⟨P[j], by simp [h1], by simpa using h2, h1⟩
theorem clm_mem {P : List SV} {x : SV} {p : Bool × Int} {c d : CV} (h : d ∈ clm P x p c) : ∃ y, P[d.e.dst]? = some y ∧ y.pl = p ∧ p ≠ x.pl ∧ d.kind = c.kind ∧ d.e.cost = c.e.cost ∧ d.e.virt = c.e.virt := by
  unfold clm at h
  split at h
  · rename_i i hi
    split at h
    · simp at h
    · rename_i hne
      obtain rfl : d = ⟨{ c.e with dst := i }, c.kind⟩ := by simpa using h
      obtain ⟨y, h1, h2, -⟩ := atP_some hi
      exact ⟨y, h1, h2, hne, rfl, rfl, rfl⟩
  · simp at h
theorem May.links2 {b : BV} (m : May 2 b) : b.links = [] := by
  rcases m.a1 with h | ⟨-, h⟩
  · omega
  · exact List.length_eq_zero_iff.1 h
structure ClmF (P : List SV) (x : SV) (d : CV) : Prop where
  out : ∃ y, P[d.e.dst]? = some y ∧ y.pl ≠ x.pl ∧ d.e.virt = (d.kind == 4)
  net : x.h.typ = 2 → May x.h.typ x.b → d.e.cost = 0 ∧ ∃ y, P[d.e.dst]? = some y ∧ y.pl.1 = false
theorem clms_mem {P : List SV} {x : SV} {d : CV} (h : d ∈ clms P x) : ClmF P x d := by
  unfold clms at h
  rcases List.mem_append.1 h with h | h
  · obtain ⟨k, hk, h⟩ := List.mem_flatMap.1 h
    unfold clmL at h
    have nn : x.h.typ = 2 → May x.h.typ x.b → False := fun e m => by
      rw [e] at m
      have hl := (May.links2 m)
      rw [hl] at hk
      simp at hk
    split at h
    · obtain ⟨y, h1, h2, h3, h4, h5, h6⟩ := clm_mem h
      exact ⟨⟨y, h1, h2 ▸ h3, by rw [h6, h4]; rfl⟩, fun e m => (nn e m).elim⟩
    · split at h
      · obtain ⟨y, h1, h2, h3, h4, h5, h6⟩ := clm_mem h
        exact ⟨⟨y, h1, h2 ▸ h3, by rw [h6, h4]; rfl⟩, fun e m => (nn e m).elim⟩
      · simp at h
  · obtain ⟨r, hr, h⟩ := List.mem_flatMap.1 h
    obtain ⟨y, h1, h2, h3, h4, h5, h6⟩ := clm_mem h
    exact ⟨⟨y, h1, h2 ▸ h3, by rw [h6, h4]; rfl⟩, fun e m => ⟨h5, y, h1, by rw [h2]⟩⟩
/-- What is said of an edge. -/
structure EdgF (P : List SV) (i : Nat) (x : SV) (e : EV) : Prop where
  lt : e.dst < P.length
  ne : e.dst ≠ i
  net : (x.h.typ == 2) = true → e.cost = 0 ∧ ∃ y, P[e.dst]? = some y ∧ (y.h.typ == 2) = false
  back : ∃ y, P[e.dst]? = some y ∧ ∃ d ∈ edgs P e.dst y, d.dst = i ∧ d.virt = e.virt
theorem edgs_mem {P : List SV} (hf : ∀ x ∈ P, x.Fine) (nd : (P.map SV.pl).Nodup) {i : Nat} {x : SV} (hx : P[i]? = some x) {e : EV} (he : e ∈ edgs P i x) : EdgF P i x e := by
  obtain ⟨c, hc, rfl⟩ := List.mem_map.1 he
  obtain ⟨hc, hb⟩ := List.mem_filter.1 hc
  have F := clms_mem hc
  obtain ⟨y, h1, h2, h3⟩ := F.out
  have hlt := (List.getElem?_eq_some_iff.1 h1).1
  have hxm := List.mem_of_getElem? hx
  refine ⟨hlt, fun e => h2 ?_, fun e => ?_, y, h1, ?_⟩
  · rw [e, hx] at h1
    injection h1 with h1
    rw [h1]
  · have ht : x.h.typ = 2 := by simpa using e
    obtain ⟨a, z, b1, b2⟩ := F.net ht (hf x hxm).may
    exact ⟨a, z, b1, b2⟩
  · unfold backB at hb
    rw [h1] at hb
    obtain ⟨d, hd, hd2⟩ := List.any_eq_true.1 hb
    have hd3 : d.e.dst = i ∧ d.kind = c.kind := by simpa using hd2
    have G := clms_mem hd
    obtain ⟨_, -, -, g3⟩ := G.out
    refine ⟨d.e, List.mem_map.2 ⟨d, List.mem_filter.2 ⟨hd, ?_⟩, rfl⟩, hd3.1, by rw [g3, h3, hd3.2]⟩
    unfold backB
    rw [hd3.1, hx]
    exact List.any_eq_true.2 ⟨c, hc, by simp [hd3.2]⟩
end Go.Proofs.YtjffcflhbnmjmaaGreat
